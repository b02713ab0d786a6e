/- The greatest step between two rings: both walks. -/
import Derived.Test.YtgnnpimfcbkloabProfVal
import Derived.Test.YtgnnpimfcbkloabProfFuns
import Derived.Test.YtgnnpimfcbkloabPick
import Derived.Deep.QuietTactic
import Derived.Deep.RegionHeld3
import Derived.BigRegion
set_option linter.unusedVariables false
namespace Go.Proofs.Ytgnnpimfcbkloab
open Go.ChangeShapes Go.WideShapes Go.ChangeAt Go.RowKit

def absV (d : Int) : Int := if d < 0 then -d else d
def maxV (a b : Int) : Int := if a < b then b else a
/-- The greatest of the first k + 1 rings' steps. -/
def stepK (rs : List Rg) : Nat → Int
  | 0 => 0
  | k + 1 => maxV (stepK rs k) (absV ((rs.getD (k + 1) zR).1 - (rs.getD k zR).1))
def stepP (rs : List Rg) : Int := stepK rs (rs.length - 1)
def stepC (s : ByteArray) (rs : List Rg) : Int := if profB s rs = true then stepP rs else 0
theorem maxV_bd {a b : Int} (h0 : 0 ≤ a) (h1 : a ≤ 150000) (k0 : 0 ≤ b) (k1 : b ≤ 150000) : 0 ≤ maxV a b ∧ maxV a b ≤ 150000 := by unfold maxV; split <;> omega
theorem absV_bd {x y : Int} (h0 : 0 ≤ x) (h1 : x ≤ 150000) (k0 : 0 ≤ y) (k1 : y ≤ 150000) : 0 ≤ absV (x - y) ∧ absV (x - y) ≤ 150000 := by unfold absV; split <;> omega
theorem stepK_bd {rs : List Rg} (h : ∀ i, i < rs.length → ringB (rs.getD i zR) = true) (k : Nat) (hk : k < rs.length) : 0 ≤ stepK rs k ∧ stepK rs k ≤ 150000 := by
  induction k with
  | zero => simp [stepK]
  | succ k ih =>
    have i1 := ih (by omega)
    have a := (ring_iff.1 (h k (by omega))).1
    have b := (ring_iff.1 (h (k + 1) hk)).1
    have c := absV_bd (x := (rs.getD (k + 1) zR).1) (y := (rs.getD k zR).1) (by omega) b.2 (by omega) a.2
    exact maxV_bd i1.1 i1.2 c.1 c.2
theorem rings_lieS {w : World} {a : Option Addr} {n c : Nat} {rs : List Rg} (hn : rs.length = n) (h1 : 1 ≤ n) (h : RingsAt w (.slice a n c) rs) : ∃ b off, a = some ⟨b, off, none⟩ ∧ b < w.heap.size ∧ ∀ i, i < n → RingIn w b (off + i * 3) (rs.getD i zR) := by
  obtain ⟨-, ⟨a', c', hv, h0⟩ | ⟨b, off, cap, hv, hbl, hc⟩⟩ := h
  · rw [h0] at hn; simp at hn; omega
  · simp only [Value.slice.injEq] at hv
    exact ⟨b, off, hv.1, hbl, fun i hi => ring_in hc i (by omega)⟩
theorem l00Max_any (a b : Int) (w : World) : Calls Try.prog 91 #[.int .i64 a, .int .i64 b] w fun e w' => e = .returned (.int .i64 (maxV a b)) ∧ w = w' := by
  by_cases h : b < a
  · have HR := Lib.hid (show maxV a b = a by unfold maxV; rw [if_neg (by omega)])
    go_enter Try.func91, Try.ntmps91
    go_wp2
    go_ret
    exact ⟨ret_i64 HR.out.symm, rfl⟩
  · have HR := Lib.hid (show maxV a b = b by unfold maxV; split <;> omega)
    go_enter Try.func91, Try.ntmps91
    go_wp2
    go_ret
    exact ⟨ret_i64 HR.out.symm, rfl⟩
theorem cellS1 (w : World) (x : Int) (T : TypeId) (n : Nat) (hn : n = w.heap.size) : ∀ j, j < 1 → (w.alloc (.cells #[.int .i64 x] T)).cell? ⟨n, 0 + j, none⟩ = some (.int .i64 ([x].getD j 0)) := by
  subst hn
  intro j hj
  match j, hj with
  | 0, _ => go_simp
theorem apartS_any (a b : Int) (w : World) (ha : -4000000000000000000 ≤ a ∧ a ≤ 4000000000000000000) (hb : -4000000000000000000 ≤ b ∧ b ≤ 4000000000000000000) :
    Calls Try.prog 93 #[.int .i64 a, .int .i64 b] w fun e w' => e = .returned (.int .i64 (absV (a - b))) ∧ Below w.heap.size w w' := by
  by_cases h : a < b
  · have HF := Lib.hid (show absV (a - b) = b - a by unfold absV; rw [if_pos (by omega)]; omega)
    have HG := Lib.hid (show [b].foldl pickMost a = b by simp [pickMost, h])
    have HL := Lib.hid (show [b].foldl pickLeast a = a by simp [pickLeast]; omega)
    go_enter Try.func93, Try.ntmps93
    go_wp2_with fail
    refine (greatest_any a [b] _ 0 1 1 _ rfl (by omega) (cellS1 _ _ _ _ (by simp))).mono ?_
    rintro e w' ⟨rfl, rfl⟩
    rw [HG.out]
    go_wp2_with fail
    refine (least_any a [b] _ 0 1 1 _ rfl (by omega) (cellS1 _ _ _ _ (by simp))).mono ?_
    rintro e w' ⟨rfl, rfl⟩
    rw [HL.out]
    go_wp2
    go_ret
    exact ⟨ret_i64 HF.out.symm, ((Below.refl _ _).alloc (Nat.le_refl _) _).alloc (by simp) _⟩
  · have HF := Lib.hid (show absV (a - b) = a - b by unfold absV; rw [if_neg (by omega)])
    have HG := Lib.hid (show [b].foldl pickMost a = a by simp [pickMost]; omega)
    have HL := Lib.hid (show [b].foldl pickLeast a = b by simp [pickLeast]; omega)
    go_enter Try.func93, Try.ntmps93
    go_wp2_with fail
    refine (greatest_any a [b] _ 0 1 1 _ rfl (by omega) (cellS1 _ _ _ _ (by simp))).mono ?_
    rintro e w' ⟨rfl, rfl⟩
    rw [HG.out]
    go_wp2_with fail
    refine (least_any a [b] _ 0 1 1 _ rfl (by omega) (cellS1 _ _ _ _ (by simp))).mono ?_
    rintro e w' ⟨rfl, rfl⟩
    rw [HL.out]
    go_wp2
    go_ret
    exact ⟨ret_i64 HF.out.symm, ((Below.refl _ _).alloc (Nat.le_refl _) _).alloc (by simp) _⟩
theorem kS {w W W2 : World} {p b o o2 : Nat} {v x y : Value} (hS : W.cell? ⟨p, 1, none⟩ = some v ∧ W.cell? ⟨b, o, none⟩ = some x ∧ W.cell? ⟨b, o2, none⟩ = some y ∧ Below w.heap.size w W) (hp : p < w.heap.size) (hbl : b < w.heap.size) (hb : Below W.heap.size W W2) :
    W2.cell? ⟨p, 1, none⟩ = some v ∧ W2.cell? ⟨b, o, none⟩ = some x ∧ W2.cell? ⟨b, o2, none⟩ = some y ∧ Below w.heap.size w W2 := by
  obtain ⟨h0, h1, h2, h3⟩ := hS
  have hl := Nat.lt_of_lt_of_le hp h3.size
  have hl2 := Nat.lt_of_lt_of_le hbl h3.size
  exact ⟨(below_cell hb _ _ hl).trans h0, (below_cell hb _ _ hl2).trans h1, (below_cell hb _ _ hl2).trans h2, below_of h3 hb h3.size⟩
set_option maxRecDepth 20000 in
set_option maxHeartbeats 2000000 in
theorem specStep_any (s : ByteArray) (v : Value) (rs : List Rg) (w : World) (h : RingsAt w v rs) (hs : s.size ≤ maxLen) :
    Calls Try.prog 32 #[.agg #[.string s, v]] w fun e w' => e = .returned (.tuple #[.int .i64 (stepC s rs), .int .i64 (codeP s rs)]) ∧ Below w.heap.size w w' := by
  have HI := Lib.hid h
  obtain ⟨a, c, rfl⟩ := rings_form h
  clear h
  have hal := alloc_lt2 w (.cells #[.string s, .slice a rs.length c] 31)
  have hpa := prof_alloc w s (.slice a rs.length c) 31
  have HBA := Lib.hid (below_al w (.cells #[.string s, .slice a rs.length c] 31))
  have HIA := Lib.hid (rings_kept HBA.out HI.out)
  rcases Bool.eq_false_or_eq_true (profB s rs) with hp | hp
  · have HR := Lib.hid (show stepC s rs = stepP rs ∧ codeP s rs = 0 by unfold stepC codeP; rw [if_pos hp, if_pos hp]; exact ⟨rfl, rfl⟩)
    have HP := Lib.hid hp
    obtain ⟨-, ⟨n1, n2⟩, -, -⟩ := prof_iff.1 hp
    have HVR := Lib.hid (fun i hi => prof_ring hp i hi)
    have HBD := Lib.hid (stepK_bd (fun i hi => prof_ring hp i hi))
    have HE := Lib.hid (show stepP rs = stepK rs (rs.length - 1) from rfl)
    clear hp
    generalize hn : rs.length = n at *
    have HN := Lib.hid hn
    clear hn
    go_enter Try.func32, Try.ntmps32
    go_wp2_with fail
    generalize w.alloc (.cells #[.string s, .slice a n c] 31) = wA at *
    refine (l05Ok_any _ s _ rs _ hpa HIA.out hs).mono ?_
    rintro e w1 ⟨rfl, hb⟩
    rw [HP.out]
    have hp1 := prof_keep hb hal hpa
    have HI1 := Lib.hid (rings_kept hb HIA.out)
    have HB := Lib.hid (below_of HBA.out hb HBA.out.size)
    have hl1 := Nat.lt_of_lt_of_le hal hb.size
    clear hb hpa
    obtain ⟨b, off, rfl, hbl, hr⟩ := rings_lieS HN.out n1 HI1.out
    have HC := Lib.hid hr
    have HP1 := Lib.hid hp1
    clear hr hp1
    go_wp2
    go_loopw [4, 5] (fun x i wr => ∃ k : Nat, k < n ∧ i = .int .i64 ((k : Int) + 1) ∧ x = .int .i64 (stepK rs k) ∧ Below w1.heap.size w1 wr) (fun _ i _ => n - (intOf i).toNat)
    case atStart => exact ⟨0, by omega, rfl, rfl, Below.refl _ _⟩
    case round =>
      obtain ⟨k, hk, rfl, rfl, hbw⟩ := hrel
      have HBW := Lib.hid hbw
      obtain ⟨-, p1⟩ := prof_keep hbw hl1 HP1.out
      clear hbw
      by_cases hlt : k + 1 < n
      · have e0 := (below_cell HBW.out _ _ hbl).trans (HC.out (k + 1) hlt).c0
        have e1 := (below_cell HBW.out _ _ hbl).trans (HC.out k hk).c0
        have r0 := (ring_iff.1 (HVR.out (k + 1) hlt)).1
        have r1 := (ring_iff.1 (HVR.out k hk)).1
        have b1 := HBD.out k hk
        have HX := Lib.hid (show stepK rs (k + 1) = maxV (stepK rs k) (absV ((rs.getD (k + 1) zR).1 - (rs.getD k zR).1)) from rfl)
        obtain ⟨x, hx⟩ : ∃ x, (rs.getD (k + 1) zR).1 = x := ⟨_, rfl⟩
        obtain ⟨y, hy⟩ : ∃ y, (rs.getD k zR).1 = y := ⟨_, rfl⟩
        obtain ⟨t, ht⟩ : ∃ t, stepK rs k = t := ⟨_, rfl⟩
        rw [hx] at e0 r0 HX
        rw [hy] at e1 r1 HX
        rw [ht] at b1 HX ⊢
        clear hx hy ht
        have HAB := Lib.hid (absV_bd (x := x) (y := y) (by omega) r0.2 (by omega) r1.2)
        have HA1 := Lib.hid (show maxV (x - y) (-(x - y)) = absV (x - y) by unfold maxV absV; split <;> split <;> omega)
        have hw : IntKind.i64.wrap (x - y) = x - y := IntWalk.i64_in _ (by omega)
        have hw2 : IntKind.i64.wrap (-(x - y)) = -(x - y) := IntWalk.i64_in _ (by omega)
        obtain ⟨d, hd⟩ : ∃ d, x - y = d := ⟨_, rfl⟩
        have hkm : (k : Int) + 1 < (n : Int) := by omega
        have hk0 : (0 : Int) ≤ (k : Int) + 1 := by omega
        have hk1 : (k : Int) < (n : Int) := by omega
        have hk2 : (0 : Int) ≤ (k : Int) := by omega
        have htn : ((k : Int) + 1).toNat = k + 1 := by omega
        have hsub : (k : Int) + 1 - 1 = (k : Int) := by omega
        have e0' : wr.cell? ⟨b, off + (k * 3 + 3), none⟩ = some (.int .i64 x) := by rw [← e0]; congr 2; omega
        have e0'' : wr.cell? ⟨b, off + k * 3 + 3, none⟩ = some (.int .i64 x) := by rw [← e0]; congr 2; omega
        clear hd
        go_wp2
        go_quiet (fail)
        go_wp2_with fail
        refine (l00Max_any (x - y) (-(x - y)) _).mono ?_
        rintro e w' ⟨rfl, rfl⟩
        rw [HA1.out]
        go_wp2_with fail
        refine (l00Max_any t (absV (x - y)) _).mono ?_
        rintro e w' ⟨rfl, rfl⟩
        rw [← HX.out]
        go_wp2
        go_roundw
        case rel => exact ⟨k + 1, hlt, by go_num, rfl, below_of HBW.out (below_drewN _ _) HBW.out.size⟩
        case measure => simp [intOf]; omega
      · obtain rfl : n = k + 1 := by omega
        have HR1 := Lib.hid HR.out.1
        have HR2 := Lib.hid HR.out.2
        have he : stepK rs k = stepP rs := by rw [HE.out]; rfl
        rw [he]
        clear he
        generalize stepP rs = y at *
        have HBF := Lib.hid (below_of HB.out HBW.out HB.out.size)
        have hnl : ¬ ((k : Int) + 1 < ((k + 1 : Nat) : Int)) := by omega
        go_wp2
        go_ret2
        exact ⟨ret_two HR1.out.symm HR2.out.symm, HBF.out⟩
  · have HR := Lib.hid (show stepC s rs = 0 ∧ codeP s rs = 1 by unfold stepC codeP; rw [hp]; exact ⟨rfl, rfl⟩)
    have HP := Lib.hid hp
    generalize hn : rs.length = n at *
    clear hn
    go_enter Try.func32, Try.ntmps32
    go_wp2_with fail
    refine (l05Ok_any _ s _ rs _ hpa HIA.out hs).mono ?_
    rintro e w1 ⟨rfl, hb⟩
    rw [HP.out]
    have HB := Lib.hid (below_of HBA.out hb HBA.out.size)
    clear hb
    go_wp2
    go_ret2
    exact ⟨ret_two HR.out.1.symm HR.out.2.symm, HB.out⟩
set_option maxRecDepth 20000 in
set_option maxHeartbeats 2000000 in
theorem implStep_any (s : ByteArray) (v : Value) (rs : List Rg) (w : World) (h : RingsAt w v rs) (hs : s.size ≤ maxLen) :
    Calls Try.prog 33 #[.agg #[.string s, v]] w fun e w' => e = .returned (.tuple #[.int .i64 (stepC s rs), .int .i64 (codeP s rs)]) ∧ Below w.heap.size w w' := by
  have HI := Lib.hid h
  obtain ⟨a, c, rfl⟩ := rings_form h
  clear h
  have hal := alloc_lt2 w (.cells #[.string s, .slice a rs.length c] 31)
  have hpa := prof_alloc w s (.slice a rs.length c) 31
  have HBA := Lib.hid (below_al w (.cells #[.string s, .slice a rs.length c] 31))
  have HIA := Lib.hid (rings_kept HBA.out HI.out)
  rcases Bool.eq_false_or_eq_true (profB s rs) with hp | hp
  · have HR := Lib.hid (show stepC s rs = stepP rs ∧ codeP s rs = 0 by unfold stepC codeP; rw [if_pos hp, if_pos hp]; exact ⟨rfl, rfl⟩)
    have HP := Lib.hid hp
    obtain ⟨-, ⟨n1, n2⟩, -, -⟩ := prof_iff.1 hp
    have HVR := Lib.hid (fun i hi => prof_ring hp i hi)
    have HBD := Lib.hid (stepK_bd (fun i hi => prof_ring hp i hi))
    have HE := Lib.hid (show stepP rs = stepK rs (rs.length - 1) from rfl)
    clear hp
    generalize hn : rs.length = n at *
    have HN := Lib.hid hn
    clear hn
    go_enter Try.func33, Try.ntmps33
    go_wp2_with fail
    generalize w.alloc (.cells #[.string s, .slice a n c] 31) = wA at *
    refine (implValidP_any s _ rs _ HIA.out hs).mono ?_
    rintro e w1 ⟨rfl, hb⟩
    rw [HP.out]
    have hp1 := prof_keep hb hal hpa
    have HI1 := Lib.hid (rings_kept hb HIA.out)
    have HB := Lib.hid (below_of HBA.out hb HBA.out.size)
    have hl1 := Nat.lt_of_lt_of_le hal hb.size
    clear hb hpa
    obtain ⟨b, off, rfl, hbl, hr⟩ := rings_lieS HN.out n1 HI1.out
    have HC := Lib.hid hr
    have HP1 := Lib.hid hp1
    clear hr hp1
    go_wp2
    go_loopw [4, 5] (fun x i wr => ∃ k : Nat, k < n ∧ i = .int .i64 ((k : Int) + 1) ∧ x = .int .i64 (stepK rs k) ∧ Below w1.heap.size w1 wr) (fun _ i _ => n - (intOf i).toNat)
    case atStart => exact ⟨0, by omega, rfl, rfl, Below.refl _ _⟩
    case round =>
      obtain ⟨k, hk, rfl, rfl, hbw⟩ := hrel
      have HBW := Lib.hid hbw
      obtain ⟨-, p1⟩ := prof_keep hbw hl1 HP1.out
      clear hbw
      by_cases hlt : k + 1 < n
      · have e0 := (below_cell HBW.out _ _ hbl).trans (HC.out (k + 1) hlt).c0
        have e1 := (below_cell HBW.out _ _ hbl).trans (HC.out k hk).c0
        have r0 := (ring_iff.1 (HVR.out (k + 1) hlt)).1
        have r1 := (ring_iff.1 (HVR.out k hk)).1
        have b1 := HBD.out k hk
        have HX := Lib.hid (show stepK rs (k + 1) = maxV (stepK rs k) (absV ((rs.getD (k + 1) zR).1 - (rs.getD k zR).1)) from rfl)
        obtain ⟨x, hx⟩ : ∃ x, (rs.getD (k + 1) zR).1 = x := ⟨_, rfl⟩
        obtain ⟨y, hy⟩ : ∃ y, (rs.getD k zR).1 = y := ⟨_, rfl⟩
        obtain ⟨t, ht⟩ : ∃ t, stepK rs k = t := ⟨_, rfl⟩
        rw [hx] at e0 r0 HX
        rw [hy] at e1 r1 HX
        rw [ht] at b1 HX ⊢
        clear hx hy ht
        have HAB := Lib.hid (absV_bd (x := x) (y := y) (by omega) r0.2 (by omega) r1.2)
        have hkm : (k : Int) + 1 < (n : Int) := by omega
        have hk0 : (0 : Int) ≤ (k : Int) + 1 := by omega
        have hk1 : (k : Int) < (n : Int) := by omega
        have hk2 : (0 : Int) ≤ (k : Int) := by omega
        have htn : ((k : Int) + 1).toNat = k + 1 := by omega
        have hsub : (k : Int) + 1 - 1 = (k : Int) := by omega
        have e0' : wr.cell? ⟨b, off + (k * 3 + 3), none⟩ = some (.int .i64 x) := by rw [← e0]; congr 2; omega
        have e0'' : wr.cell? ⟨b, off + k * 3 + 3, none⟩ = some (.int .i64 x) := by rw [← e0]; congr 2; omega
        have hwk : IntKind.i64.wrap (k : Int) = (k : Int) := IntWalk.i64_in _ (by omega)
        have hwk2 : IntKind.i64.wrap ((k : Int) + 1 - 1) = (k : Int) := by rw [hsub]; exact hwk
        have hwk3 : wrap64 (k : Int) = (k : Int) := IntWalk.wrap64_in _ (by omega)
        have hwk4 : wrap64 ((k : Int) + 1 - 1) = (k : Int) := by rw [hsub]; exact hwk3
        have htk : ((k : Int)).toNat = k := Int.toNat_natCast k
        have HAP := Lib.hid (fun w => apartS_any x y w (by omega) (by omega))
        have HGR := Lib.hid (show [absV (x - y)].foldl pickMost t = maxV t (absV (x - y)) by simp [pickMost, maxV])
        have hlw := Nat.lt_of_lt_of_le hl1 HBW.out.size
        have hbw2 := Nat.lt_of_lt_of_le hbl HBW.out.size
        generalize absV (x - y) = q at *
        clear e0' e0'' HC HVR HBD HIA HI1 HI HP1 HR HE HP HN r0 r1 b1 HAB hwk2 hwk4 hsub hs HBA hal HB
        go_wp2
        go_region_held3 (fun w' => w'.cell? ⟨w.heap.size, 1, none⟩ = some (.slice (some ⟨b, off, none⟩) n c) ∧ w'.cell? ⟨b, off + (k + 1) * 3, none⟩ = some (.int .i64 x) ∧ w'.cell? ⟨b, off + k * 3, none⟩ = some (.int .i64 y) ∧ Below wr.heap.size wr w')
          (first | exact ⟨p1, e0, e1, ⟨rfl, rfl, rfl, Nat.le_refl _, fun _ _ => rfl⟩⟩ | assumption | exact kS (by assumption) hlw hbw2 hb6 | exact kS (by assumption) hlw hbw2 (below_al _ _))
          (first
            | (go_at_call 93; refine (HAP.out _).mono ?_; rintro e w6 ⟨rfl, hb6⟩)
            | (go_at_call 92; refine (greatest_any t [q] _ 0 1 1 _ rfl (by omega) (cellS1 _ _ _ _ (by first | rfl | simp))).mono ?_; rintro e w7 ⟨rfl, rfl⟩; rw [HGR.out, ← HX.out]))
        all_goals go_wp2
        all_goals go_roundw
        all_goals first
          | exact ⟨k + 1, hlt, congrArg (Value.int .i64) (IntWalk.wrap64_in _ (by omega)), rfl, below_of HBW.out (below_of (below_of (w1 := wr.drew) ⟨rfl, rfl, rfl, Nat.le_refl _, fun _ _ => rfl⟩ hb6 (Nat.le_refl _)) (below_al _ _) hb6.size) HBW.out.size⟩
          | exact ⟨k + 1, hlt, by go_num, rfl, below_of HBW.out (below_of (below_of (w1 := wr.drew) ⟨rfl, rfl, rfl, Nat.le_refl _, fun _ _ => rfl⟩ hb6 (Nat.le_refl _)) (below_al _ _) hb6.size) HBW.out.size⟩
          | (simp [intOf]; omega)
      · obtain rfl : n = k + 1 := by omega
        have HR1 := Lib.hid HR.out.1
        have HR2 := Lib.hid HR.out.2
        have he : stepK rs k = stepP rs := by rw [HE.out]; rfl
        rw [he]
        clear he
        generalize stepP rs = y at *
        have HBF := Lib.hid (below_of HB.out HBW.out HB.out.size)
        have hnl : ¬ ((k : Int) + 1 < ((k + 1 : Nat) : Int)) := by omega
        go_wp2
        go_ret2
        exact ⟨ret_two HR1.out.symm HR2.out.symm, HBF.out⟩
  · have HR := Lib.hid (show stepC s rs = 0 ∧ codeP s rs = 1 by unfold stepC codeP; rw [hp]; exact ⟨rfl, rfl⟩)
    have HP := Lib.hid hp
    generalize hn : rs.length = n at *
    clear hn
    go_enter Try.func33, Try.ntmps33
    go_wp2_with fail
    refine (implValidP_any s _ rs _ HIA.out hs).mono ?_
    rintro e w1 ⟨rfl, hb⟩
    rw [HP.out]
    have HB := Lib.hid (below_of HBA.out hb HBA.out.size)
    clear hb
    go_wp2
    go_ret2
    exact ⟨ret_two HR.out.1.symm HR.out.2.symm, HB.out⟩
end Go.Proofs.Ytgnnpimfcbkloab
