/- Merged texts: IsM IsS IsI. -/
import Derived.Test.YtpjopfhkgegahaaGreatG4
import Derived.Deep.QuietTactic
import Derived.BigQuiet
import Derived.Test.YtpjopfhkgegahaaGreatG3

set_option linter.unusedVariables false
namespace Go.Proofs.YtpjopfhkgegahaaGreat
open Go.ChangeShapes Go.WideShapes Go.ChangeAt Go.RowKit

def maxQ (a b : Int) : Int := if b < a then a else b
theorem maxQ_le {a b t : Int} : maxQ a b ≤ t ↔ a ≤ t ∧ b ≤ t := by unfold maxQ; split <;> omega
/-- The greatest of 0 and the first k numbers' absolute values. -/
def offQ (zs : List Int) : Nat → Int
  | 0 => 0
  | k + 1 => maxQ (offQ zs k) (maxQ (zs.getD k 0) (-(zs.getD k 0)))
theorem offQ_le (zs : List Int) (t : Int) (ht : 0 ≤ t) (k : Nat) : offQ zs k ≤ t ↔ ∀ j, j < k → -t ≤ zs.getD j 0 ∧ zs.getD j 0 ≤ t := by
  induction k with
  | zero => exact ⟨fun _ j hj => by omega, fun _ => ht⟩
  | succ k ih =>
    unfold offQ
    rw [maxQ_le, maxQ_le, ih]
    constructor
    · rintro ⟨h1, h2, h3⟩ j hj
      by_cases e : j = k
      · subst e; omega
      · exact h1 j (by omega)
    · intro h
      have := h k (by omega)
      exact ⟨fun j hj => h j (by omega), by omega, by omega⟩
theorem allIn_off (zs : List Int) (t : Int) (ht : 0 ≤ t) : allIn (-t) t zs = decide (offQ zs zs.length ≤ t) := by
  rw [Bool.eq_iff_iff, decide_eq_true_iff, offQ_le zs t ht]
  unfold allIn
  rw [List.all_eq_true]
  constructor
  · intro h j hj
    have := h (zs.getD j 0) (by rw [List.getD_eq_getElem?_getD, List.getElem?_eq_getElem hj]; exact List.getElem_mem hj)
    simpa [inB] using this
  · intro h x hx
    obtain ⟨j, hj, rfl⟩ := List.getElem_of_mem hx
    have := h j hj
    rw [List.getD_eq_getElem?_getD, List.getElem?_eq_getElem hj] at this
    simpa [inB] using this
def Near (zs : List Int) (n : Nat) : Prop := ∀ j, j < n → -1000000 ≤ zs.getD j 0 ∧ zs.getD j 0 ≤ 1000000
/-- No zone's sum is above q. -/
def sumsB (q : Int) (cs : List Ct) : Bool := (List.range 8).all fun z => decide (sumAt (z : Int) cs ≤ q)
theorem sumsB_iff {q : Int} {cs : List Ct} : sumsB q cs = true ↔ ∀ z : Nat, z < 8 → sumAt (z : Int) cs ≤ q := by simp [sumsB]
theorem sumsB_no {q : Int} {cs : List Ct} {z : Nat} (hz : z < 8) (h : q < sumAt (z : Int) cs) : sumsB q cs = false := by
  rcases Bool.eq_false_or_eq_true (sumsB q cs) with h2 | h2
  · have := sumsB_iff.1 h2 z hz; omega
  · exact h2
def planB (L : List Int) (C t q : Int) (cs : List Ct) : Bool := decide (C = 0) && (allIn (-t) t L && sumsB q cs)
theorem plan_no1 {L : List Int} {C t q : Int} {cs : List Ct} (h : C ≠ 0) : planB L C t q cs = false := by unfold planB; rw [decide_eq_false h]; rfl
theorem plan_no2 {L : List Int} {C t q : Int} {cs : List Ct} (h : allIn (-t) t L = false) : planB L C t q cs = false := by unfold planB; rw [h]; simp
theorem plan_no3 {L : List Int} {C t q : Int} {cs : List Ct} (h : sumsB q cs = false) : planB L C t q cs = false := by unfold planB; rw [h]; simp
theorem plan_yes {L : List Int} {C t q : Int} {cs : List Ct} (h : C = 0) (h2 : allIn (-t) t L = true) (h3 : sumsB q cs = true) : planB L C t q cs = true := by unfold planB; rw [decide_eq_true h, h2, h3]; rfl
theorem devs_at (ts rs : List Int) (k : Nat) (h : k < 5) : (devsL ts rs).getD k 0 = logV (rs.getD k 0) - logV (ts.getD k 0) := by
  have : (devsL ts rs).getD k 0 = devK ts rs k := by simp [devsL, List.getD, h]
  exact this
section
variable {zs : List Int} {ws : List (List Int)} {bs : List Int} {s : ByteArray} {rs : List Rg} {cs : List Ct} {a b c e f t q : Int}
theorem dv_zero (h : dvC zs ws bs s rs cs a b c e f t q = 0) : cutsB cs = true ∧ goalB a b c e f t q = true ∧ fitsC cs = true ∧ Near (dvL zs ws bs s rs cs a b c e f t q) 5 ∧ (dvL zs ws bs s rs cs a b c e f t q).length = 5 := by
  have c1 : cutsB cs = true := by
    rcases Bool.eq_false_or_eq_true (cutsB cs) with c1 | c1
    · exact c1
    · rw [dv_cuts c1] at h; omega
  have hk : askG zs ws bs s rs a b c e f t q = 0 := by
    by_cases hk : askG zs ws bs s rs a b c e f t q = 0
    · exact hk
    · rw [dv_ask c1 hk] at h; exact h
  have ha : apC s rs zs cs = 0 := by
    by_cases ha : apC s rs zs cs = 0
    · exact ha
    · rw [dv_ap c1 hk ha] at h; exact h
  have hs : sofB zs ws bs (cutT rs zs cs) = true := by
    rcases Bool.eq_false_or_eq_true (sofB zs ws bs (cutT rs zs cs)) with h5 | h5
    · exact h5
    · rw [dv_6 c1 hk ha h5] at h; omega
  have hf : apA s rs zs cs = 0 := by
    by_cases hf : apA s rs zs cs = 0
    · exact hf
    · rw [apC_no hf] at ha; exact ha
  have hg := (askG_ok hk).1
  refine ⟨c1, hg, (apA_ok hf).2.2.2, ?_, by rw [dvL_0 h, devs_len]⟩
  intro j hj
  rw [dvL_0 h, devs_at _ _ j hj]
  have h1 := snd_at (goal_snd hg) j hj
  have h2 := snd_at (show sndB (rawK zs ws bs (cutT rs zs cs) 0) (rawK zs ws bs (cutT rs zs cs) 1) (rawK zs ws bs (cutT rs zs cs) 2) (rawK zs ws bs (cutT rs zs cs) 3) (rawK zs ws bs (cutT rs zs cs) 4) = true from hs) j hj
  have l1 := log_bd (n := [a, b, c, e, f].getD j 0) (by omega) (by omega)
  have l2 := log_bd (n := [rawK zs ws bs (cutT rs zs cs) 0, rawK zs ws bs (cutT rs zs cs) 1, rawK zs ws bs (cutT rs zs cs) 2, rawK zs ws bs (cutT rs zs cs) 3, rawK zs ws bs (cutT rs zs cs) 4].getD j 0) (by omega) (by omega)
  omega
theorem goal_tq (h : goalB a b c e f t q = true) : (0 ≤ t ∧ t ≤ 20000) ∧ 0 ≤ q ∧ q ≤ 20 := by
  unfold goalB at h
  simp [inB] at h
  omega
end
theorem iv_five {w : World} {B : Nat} {v : Value} {zs : List Int} (h : Iv w B v zs) (hn : zs.length = 5) : ∃ g cap, v = .slice (some ⟨g, 0, none⟩) 5 cap ∧ ∀ j, j < 5 → w.cell? ⟨g, j, none⟩ = some (.int .i64 (zs.getD j 0)) := by
  rcases h with ⟨-, h⟩ | ⟨g, cap, T, h1, h2, h4⟩
  · rw [h] at hn; simp at hn
  · rw [hn] at h1
    exact ⟨g, cap, h1, fun j hj => (h4.cellAt j (by omega)).trans (i64s_get zs j (by omega))⟩
theorem l00MaxQ (a b : Int) (w : World) : Calls Tryz.prog 50 #[.int .i64 a, .int .i64 b] w fun e w' => e = .returned (.int .i64 (maxQ a b)) ∧ w = w' := by
  by_cases h : b < a
  · have HF := Lib.hid (show maxQ a b = a by unfold maxQ; rw [if_pos h])
    go_enter Tryz.func50, Tryz.ntmps50
    go_wp2
    go_ret
    exact ⟨ret_i64 HF.out.symm, rfl⟩
  · have HF := Lib.hid (show maxQ a b = b by unfold maxQ; rw [if_neg h])
    go_enter Tryz.func50, Tryz.ntmps50
    go_wp2
    go_ret
    exact ⟨ret_i64 HF.out.symm, rfl⟩
set_option maxHeartbeats 1000000 in
theorem l10Greatest_any (zs : List Int) (b n cap : Nat) (w : World) (hbig : n ≤ 1048576) (hb : Near zs n)
    (hc : ∀ j, j < n → w.cell? ⟨b, j, none⟩ = some (.int .i64 (zs.getD j 0))) :
    Calls Tryz.prog 23 #[.slice (some ⟨b, 0, none⟩) n cap] w fun e w' => e = .returned (.int .i64 (offQ zs n)) ∧ ∃ m, w' = w.drewN m := by
  have HC := Lib.hid hc
  have HBD := Lib.hid hb
  clear hc hb
  go_enter Tryz.func23, Tryz.ntmps23
  go_wp2
  go_loopw [3, 4] (fun v i wr => ∃ k m : Nat, k ≤ n ∧ i = .int .i64 k ∧ v = .int .i64 (offQ zs k) ∧ wr = w.drewN m) (fun _ i _ => n - (intOf i).toNat)
  case atStart => exact ⟨0, 0, by omega, rfl, rfl, rfl⟩
  case round =>
    obtain ⟨k, m, hk, rfl, rfl, rfl⟩ := hrel
    by_cases hlt : k < n
    · have hx := HC.out k hlt
      have bx := HBD.out k hlt
      have hs : offQ zs (k + 1) = maxQ (offQ zs k) (maxQ (zs.getD k 0) (-(zs.getD k 0))) := rfl
      generalize zs.getD k 0 = x at *
      generalize offQ zs k = p at *
      obtain ⟨mx, hmx⟩ : ∃ mx, maxQ x (-x) = mx := ⟨_, rfl⟩
      obtain ⟨r, hr⟩ : ∃ r, maxQ p mx = r := ⟨_, rfl⟩
      rw [hmx, hr] at hs
      have HS := Lib.hid hs
      have MX := Lib.hid hmx
      have MR := Lib.hid hr
      clear hs hmx hr
      have hk2 : (k : Int) < (n : Int) := by omega
      have wx : IntKind.i64.wrap (-x) = -x := IntWalk.i64_in _ (by omega)
      go_wp2
      go_quiet (first
        | (go_at_call_of 50 (Value.int .i64 x); exact (l00MaxQ _ _ _).mono (fun _ _ h => ⟨by rw [h.1, MX.out], _, h.2.symm⟩))
        | (go_at_call_of 50 (Value.int .i64 p); exact (l00MaxQ _ _ _).mono (fun _ _ h => ⟨by rw [h.1, MR.out], _, h.2.symm⟩)))
      go_wp2
      go_roundw
      case rel => exact ⟨k + 1, _, by omega, by go_num, by rw [HS.out], rfl⟩
      case measure => simp [intOf]; omega
    · obtain rfl : k = n := by omega
      go_wp2
      go_ret
      exact ⟨rfl, _, rfl⟩
end Go.Proofs.YtpjopfhkgegahaaGreat


set_option linter.unusedVariables false
namespace Go.Proofs.YtpjopfhkgegahaaGreat
open Go.ChangeShapes Go.WideShapes Go.ChangeAt Go.RowKit

theorem below_dq {B : Nat} {w w1 : World} (h : Below B w w1) (n : Nat) : Below B w (w1.drewN n) := ⟨h.os, h.tape, h.output, h.size, h.block⟩
theorem ret_bq {b c : Bool} (h : b = c) : Ending.returned (.bool c) = .returned (.bool b) := by rw [h]
set_option maxRecDepth 20000 in
set_option maxHeartbeats 4000000 in
theorem specIP_any (v0 v1 v2 v vc : Value) (zs : List Int) (ws : List (List Int)) (bs : List Int) (s : ByteArray) (rs : List Rg) (cs : List Ct) (a b c e f t q : Int) (w : World) (h0 : IntsAt w v0 zs) (h1 : RowsAt w v1 ws) (h2 : IntsAt w v2 bs) (hv : RingsAt w v rs) (hs : s.size ≤ maxLen) (hc : CutsAt w vc cs) :
    Calls Tryz.prog 8 #[.agg #[v0, v1, v2], .agg #[.string s, v], .agg #[.int .i64 a, .int .i64 b, .int .i64 c, .int .i64 e, .int .i64 f, .int .i64 t, .int .i64 q], vc] w fun en w' => en = .returned (.bool (planB (dvL zs ws bs s rs cs a b c e f t q) (dvC zs ws bs s rs cs a b c e f t q) t q cs)) ∧ Below w.heap.size w w' := by
  obtain ⟨wA, hwA⟩ : ∃ W, (((w.alloc (.cells #[v0, v1, v2] 38)).alloc (.cells #[.string s, v] 42)).alloc (.cells #[.int .i64 a, .int .i64 b, .int .i64 c, .int .i64 e, .int .i64 f, .int .i64 t, .int .i64 q] 46)) = W := ⟨_, rfl⟩
  have HWA := Lib.hid hwA
  have hbox := box3 v0 v1 v2 v s a b c e f t q w
  rw [hwA] at hbox
  obtain ⟨hba, hm, hp, hg, hml⟩ := hbox
  have HDA := Lib.hid (specDA_any v0 v1 v2 v vc zs ws bs s rs cs a b c e f t q wA (ints_kept hba h0) (mrows_kept hba h1) (ints_kept hba h2) (rings_kept hba hv) hs (cuts_kept hba hc))
  have HSM := Lib.hid (fun W (hW : Below wA.heap.size wA W) (h : cutsB cs = true) => l09Sums_any cs vc W (cuts_kept hW (cuts_kept hba hc)) h)
  have HG7 := Lib.hid (fun W (hW : Below wA.heap.size wA W) => (seven_kept hW hml hg).2)
  have HBA := Lib.hid hba
  clear hba hm hp hg h0 h1 h2 hv hc hwA
  have HDZ := Lib.hid (fun h => dv_zero (zs := zs) (ws := ws) (bs := bs) (s := s) (rs := rs) (cs := cs) (a := a) (b := b) (c := c) (e := e) (f := f) (t := t) (q := q) h)
  generalize dvC zs ws bs s rs cs a b c e f t q = C at *
  generalize dvL zs ws bs s rs cs a b c e f t q = L at *
  by_cases hC : C = 0
  · subst hC
    obtain ⟨c1, g1, hf, hnr, hl5⟩ := HDZ.out rfl
    obtain ⟨ht, hq⟩ := goal_tq g1
    have HQ := Lib.hid hq
    have HNR := Lib.hid hnr
    have HC1 := Lib.hid c1
    have HL5 := Lib.hid hl5
    have HAL := Lib.hid (allIn_off L t ht.1)
    rw [hl5] at HAL
    obtain ⟨r, hr⟩ : ∃ r, offQ L 5 = r := ⟨_, rfl⟩
    have HR := Lib.hid hr
    rw [hr] at HAL
    have HP2 := Lib.hid (fun h => plan_no2 (L := L) (C := 0) (t := t) (q := q) (cs := cs) h)
    have HP3 := Lib.hid (fun h => plan_no3 (L := L) (C := 0) (t := t) (q := q) (cs := cs) h)
    have HPY := Lib.hid (fun h2 h3 => plan_yes (L := L) (C := 0) (t := t) (q := q) (cs := cs) rfl h2 h3)
    have HGT := Lib.hid (fun W g cap hcl => l10Greatest_any L g 5 cap W (by omega) HNR.out hcl)
    clear g1 hf hnr hl5 c1 hr ht hq HDZ
    generalize planB L 0 t q cs = P at *
    go_enter Tryz.func8, Tryz.ntmps8
    go_wp2_with fail
    rw [HWA.out]
    refine HDA.out.mono ?_
    rintro en w1 ⟨v9, rfl, hiv, hb⟩
    obtain ⟨g, cap, rfl, hcl⟩ := iv_five hiv HL5.out
    have HB1 := Lib.hid hb
    have HGR := Lib.hid (fun m => (HGT.out (w1.drewN m) g cap (fun j hj => hcl j hj)).mono (fun en w' h => (⟨by rw [h.1, HR.out], h.2⟩ : en = .returned (.int .i64 r) ∧ ∃ m', w' = (w1.drewN m).drewN m')))
    obtain ⟨g5, g6⟩ := HG7.out _ hb
    clear hiv hb hcl
    by_cases hrt : t < r
    · have HPF := Lib.hid (HP2.out (by rw [HAL.out]; exact decide_eq_false (by omega)))
      have HBF := Lib.hid (fun n => below_of HBA.out (below_dq HB1.out n) HBA.out.size)
      go_wp2
      go_quiet (first
        | (go_at_call_of 23 (Value.slice (some ⟨g, 0, none⟩) 5 cap); exact Calls.quiet_of (HGR.out _)))
      go_wp2
      go_ret
      exact ⟨ret_bq HPF.out, HBF.out _⟩
    · have HA := Lib.hid (show allIn (-t) t L = true by rw [HAL.out]; exact decide_eq_true (by omega))
      have HB2 := Lib.hid (fun n => below_dq HB1.out n)
      have hrt2 : r ≤ t := by omega
      go_wp2
      go_quiet (first
        | (go_at_call_of 23 (Value.slice (some ⟨g, 0, none⟩) 5 cap); exact Calls.quiet_of (HGR.out _)))
      have HBQ := Lib.hid (HB2.out nq)
      generalize w1.drewN nq = w2 at *
      clear g5 g6
      go_wp2_with fail
      refine (HSM.out w2 HBQ.out HC1.out).mono ?_
      rintro en w3 ⟨v8, rfl, ⟨g2, cap2, rfl, hg2, hg3, hown⟩, hb⟩
      have HB3 := Lib.hid (below_of HBQ.out hb HBQ.out.size)
      obtain ⟨g5, g6⟩ := HG7.out _ HB3.out
      have HCL := Lib.hid (show ∀ k, k < 8 → w3.cell? ⟨g2, k, none⟩ = some (.int .i64 (sumAt (k : Int) cs)) from fun k hk => by
        rw [← sumsL_get cs k hk]
        exact (hown.cellAt k (by rw [sumsL_len]; omega)).trans (i64s_get _ k (by rw [sumsL_len]; exact hk)))
      have HBF := Lib.hid (fun n => below_of HBA.out (below_dq HB3.out n) HBA.out.size)
      have HL8 := Lib.hid (sumsL_len cs)
      rw [HL8.out]
      clear hb hg2 hg3 hown g5
      go_wp2_with fail
      go_loopw [12] (fun i wr => ∃ k m : Nat, k ≤ 8 ∧ i = .int .i64 k ∧ Hid (∀ j : Nat, j < k → sumAt (j : Int) cs ≤ q) ∧ wr = w3.drewN m) (fun i _ => 8 - (intOf i).toNat)
      case atStart => exact ⟨0, 0, by omega, rfl, Lib.hid (fun j hj => by omega), rfl⟩
      case round =>
        obtain ⟨k, m, hk, rfl, HJ, rfl⟩ := hrel
        by_cases hlt : k < 8
        · have hx := HCL.out k hlt
          by_cases hz : sumAt (k : Int) cs ≤ q
          · have HJ2 := Lib.hid (show ∀ j : Nat, j < k + 1 → sumAt (j : Int) cs ≤ q from fun j hj => by
              by_cases ej : j = k
              · subst ej; exact hz
              · exact HJ.out j (by omega))
            generalize sumAt (k : Int) cs = x at *
            go_wp2
            go_quiet (fail)
            go_wp2
            go_roundw
            case rel => exact ⟨k + 1, _, by omega, by go_num, HJ2, rfl⟩
            case measure => simp [intOf]; omega
          · have HPF := Lib.hid (HP3.out (sumsB_no hlt (by omega)))
            generalize sumAt (k : Int) cs = x at *
            go_wp2
            go_quiet (fail)
            go_wp2
            go_ret
            exact ⟨ret_bq HPF.out, below_dq (HBF.out _) _⟩
        · obtain rfl : k = 8 := by omega
          have HPF := Lib.hid (HPY.out HA.out (sumsB_iff.2 HJ.out))
          go_wp2
          go_ret
          exact ⟨ret_bq HPF.out, HBF.out _⟩
  · have HPF := Lib.hid (plan_no1 (L := L) (t := t) (q := q) (cs := cs) hC)
    have hne : (C != 0) = true := bne_iff_ne.2 hC
    clear HDZ
    generalize planB L C t q cs = P at *
    go_enter Tryz.func8, Tryz.ntmps8
    go_wp2_with fail
    rw [HWA.out]
    refine HDA.out.mono ?_
    rintro en w1 ⟨v9, rfl, hiv, hb⟩
    have HBF := Lib.hid (fun n => below_of HBA.out (below_dq hb n) HBA.out.size)
    clear hiv hb
    go_wp2
    go_quiet (fail)
    go_wp2
    go_ret
    exact ⟨ret_bq HPF.out, HBF.out _⟩
end Go.Proofs.YtpjopfhkgegahaaGreat


set_option linter.unusedVariables false
namespace Go.Proofs.YtpjopfhkgegahaaGreat
open Go.ChangeShapes Go.WideShapes Go.ChangeAt Go.RowKit Go.Maps

/-- What has been struck is no more than q. -/
def Struck (D : DataW Unit) (f : Int → Int) (q : Int) (left : Lit → Bool) : Prop := ∀ x : Int, has D (.int .i64 x) = true → left (.int .i64 x) = false → f x ≤ q
theorem struck_start (D : DataW Unit) (f : Int → Int) (q : Int) : Struck D f q (has D) := fun x h1 h2 => by rw [h1] at h2; cases h2
theorem struck_step {D : DataW Unit} {f : Int → Int} {q : Int} {left : Lit → Bool} (h : Struck D f q left) (x : Int) (hx : f x ≤ q) : Struck D f q (fun z => left z && !z.sameKey (.int .i64 x)) := by
  intro y h1 h2
  by_cases e : y = x
  · subst e; exact hx
  · refine h y h1 ?_
    have hn : (Lit.int .i64 y).sameKey (.int .i64 x) = false := sameKey_ne (fun e2 => e (by simpa using e2))
    simpa [hn] using h2
theorem struck_end {D : DataW Unit} {cs : List Ct} {q : Int} {left : Lit → Bool} (hq : 0 ≤ q) (hs : SumsMap D fun z => sumAt z cs) (h : Struck D (fun z => sumAt z cs) q left) (hl : ∀ k, left k = false) : sumsB q cs = true := by
  refine sumsB_iff.2 fun z hz => ?_
  by_cases hp : 0 < sumAt (z : Int) cs
  · exact h z (hs.has' z hp) (hl _)
  · omega
theorem struck_no {D : DataW Unit} {cs : List Ct} {q : Int} (hs : SumsMap D fun z => sumAt z cs) (x : Int) (hh : has D (.int .i64 x) = true) (h : q < sumAt x cs) : sumsB q cs = false := by
  obtain ⟨z, e, h1, h2, -⟩ := hs.key _ hh
  simp only [Lit.int.injEq, true_and] at e
  subst e
  obtain ⟨n, rfl⟩ : ∃ n : Nat, x = (n : Int) := ⟨x.toNat, by omega⟩
  exact sumsB_no (by omega) h
set_option maxRecDepth 20000 in
set_option maxHeartbeats 4000000 in
theorem implIP_any (v0 v1 v2 v vc : Value) (zs : List Int) (ws : List (List Int)) (bs : List Int) (s : ByteArray) (rs : List Rg) (cs : List Ct) (a b c e f t q : Int) (w : World) (h0 : IntsAt w v0 zs) (h1 : RowsAt w v1 ws) (h2 : IntsAt w v2 bs) (hv : RingsW w v rs) (hs : s.size ≤ maxLen) (hc : CutsAt w vc cs) :
    Calls Tryz.prog 13 #[.agg #[v0, v1, v2], .agg #[.string s, v], .agg #[.int .i64 a, .int .i64 b, .int .i64 c, .int .i64 e, .int .i64 f, .int .i64 t, .int .i64 q], vc] w fun en w' => en = .returned (.bool (planB (dvL zs ws bs s rs cs a b c e f t q) (dvC zs ws bs s rs cs a b c e f t q) t q cs)) ∧ Below w.heap.size w w' := by
  obtain ⟨wA, hwA⟩ : ∃ W, (((w.alloc (.cells #[v0, v1, v2] 38)).alloc (.cells #[.string s, v] 42)).alloc (.cells #[.int .i64 a, .int .i64 b, .int .i64 c, .int .i64 e, .int .i64 f, .int .i64 t, .int .i64 q] 46)) = W := ⟨_, rfl⟩
  have HWA := Lib.hid hwA
  have hbox := box3 v0 v1 v2 v s a b c e f t q w
  rw [hwA] at hbox
  obtain ⟨hba, hm, hp, hg, hml⟩ := hbox
  have HDA := Lib.hid (implDA_any v0 v1 v2 v vc zs ws bs s rs cs a b c e f t q wA (ints_kept hba h0) (mrows_kept hba h1) (ints_kept hba h2) (ringsW_kept hba hv) hs (cuts_kept hba hc))
  have HST := Lib.hid (fun W (hW : Below wA.heap.size wA W) (h : cutsB cs = true) => stepsOf_any cs vc W (cuts_kept hW (cuts_kept hba hc)) h)
  have HG7 := Lib.hid (fun W (hW : Below wA.heap.size wA W) => (seven_kept hW hml hg).2)
  have HBA := Lib.hid hba
  have HML := Lib.hid hml
  clear hba hm hp hg hml h0 h1 h2 hv hc hwA
  have HDZ := Lib.hid (fun h => dv_zero (zs := zs) (ws := ws) (bs := bs) (s := s) (rs := rs) (cs := cs) (a := a) (b := b) (c := c) (e := e) (f := f) (t := t) (q := q) h)
  generalize dvC zs ws bs s rs cs a b c e f t q = C at *
  generalize dvL zs ws bs s rs cs a b c e f t q = L at *
  by_cases hC : C = 0
  · subst hC
    obtain ⟨c1, g1, hf, hnr, hl5⟩ := HDZ.out rfl
    obtain ⟨ht, hq⟩ := goal_tq g1
    have HQ := Lib.hid hq
    have HC1 := Lib.hid c1
    have HFT := Lib.hid hf
    have HL5 := Lib.hid hl5
    have wt : IntKind.i64.wrap (-t) = -t := IntWalk.i64_in _ (by omega)
    have HP2 := Lib.hid (fun h => plan_no2 (L := L) (C := 0) (t := t) (q := q) (cs := cs) h)
    have HP3 := Lib.hid (fun h => plan_no3 (L := L) (C := 0) (t := t) (q := q) (cs := cs) h)
    have HPY := Lib.hid (fun h2 h3 => plan_yes (L := L) (C := 0) (t := t) (q := q) (cs := cs) rfl h2 h3)
    have HWI := Lib.hid (fun W g cap hcl => within_i64 (-t) t L g 0 5 cap W HL5.out (by omega) hcl)
    clear g1 hf hnr hl5 c1 ht hq HDZ
    generalize planB L 0 t q cs = P at *
    rcases Bool.eq_false_or_eq_true (allIn (-t) t L) with hal | hal
    · rw [hal] at HWI HPY
      clear hal
      go_enter Tryz.func13, Tryz.ntmps13
      go_wp2_with fail
      rw [HWA.out]
      refine HDA.out.mono ?_
      rintro en w1 ⟨v9, rfl, hiv, hb⟩
      obtain ⟨g, cap, rfl, hcl⟩ := iv_five hiv HL5.out
      have HB1 := Lib.hid hb
      have HCL := Lib.hid (show ∀ j, j < 5 → w1.cell? ⟨g, 0 + j, none⟩ = some (.int .i64 (L.getD j 0)) from fun j hj => by rw [Nat.zero_add]; exact hcl j hj)
      obtain ⟨g5, g6⟩ := HG7.out _ hb
      clear hiv hb hcl
      go_wp2_with fail
      refine (HWI.out w1 g cap HCL.out).mono ?_
      rintro en w2 ⟨rfl, rfl⟩
      go_wp2_with fail
      refine (HST.out w1 HB1.out HC1.out).mono ?_
      rintro en w3 ⟨h9, hb⟩
      rw [HFT.out] at h9
      obtain ⟨mb, rfl, ⟨D, hown, hsm⟩, hmb⟩ : ∃ mb, en = .returned (.tuple #[.map (some mb), .int .i64 0]) ∧ MapF w3 mb 64 (fun z => sumAt z cs) ∧ w1.heap.size ≤ mb := by
        rcases h9 with ⟨-, h9⟩ | ⟨h9, -⟩
        · exact h9
        · cases h9
      have HB3 := Lib.hid (below_of HB1.out hb HB1.out.size)
      obtain ⟨g5', g6'⟩ := HG7.out _ HB3.out
      have HX := Lib.hid g6'
      have HSM := Lib.hid hsm
      have HOWN := Lib.hid hown
      have HGL := Lib.hid (show w.heap.size + 2 < w3.heap.size from Nat.lt_of_lt_of_le HML.out HB3.out.size)
      have hgl : w.heap.size + 2 < w3.heap.size := Nat.lt_of_lt_of_le HML.out HB3.out.size
      clear h9 hb g5 g6 g5' g6' hsm hown hmb
      go_wp2_with (first
        | (at_range; refine wpList_range_own _ rfl _ 74 rfl 2 2 lawZ Tryz.underlying74 _ mb 64 D rfl HOWN.out ?_; intro w0 hrg0 hg0 hs0; go_frame))
      have HB4 := Lib.hid (HB3.out.grown hg0 HB3.out.size (fun j hj => by cases hj))
      have HX4 := Lib.hid ((World.cell?_of_block (hg0.block _ hgl (by simp))).trans HX.out)
      go_loopw [] (fun wr => ∃ (left : Lit → Bool) (cnt : Nat), wr.ranges Tryz.prog 2 (plainElem Tryz.prog 2) mb w3.heap.size 64 D left cnt ∧ Hid (Struck D (fun z => sumAt z cs) q left) ∧ Hid (wr.cell? ⟨w.heap.size + 2, 6, none⟩ = some (.int .i64 q)) ∧ Hid (Below wA.heap.size wA wr) ∧ w3.heap.size < wr.heap.size)
        (fun wr => wr.rangeLeft mb w3.heap.size)
      case atStart => exact ⟨_, _, hrg0, Lib.hid (struck_start D _ q), HX4, HB4, by omega⟩
      case round =>
        obtain ⟨left, cnt, hrg, HK, HXR, HBR, hsz⟩ := hrel
        generalize hwo : wr = wo at *
        clear hwo
        go_wp2_with (first
          | (at_next; refine wpList_next_ranges_ii _ rfl _ rfl 2 2 .i64 .i64 lawZ Tryz.underlying2 Tryz.underlying2 mb w3.heap.size 64 _ _ _ rfl hrg ?_ ?_))
        · intro hc0 hl0
          have HPF := Lib.hid (HPY.out (by trivial) (struck_end HQ.out.1 HSM.out HK.out hl0))
          have HBF := Lib.hid (below_of HBA.out HBR.out HBA.out.size)
          clear hrg hc0 hl0
          go_wp2
          go_ret
          exact ⟨ret_bq HPF.out, HBF.out⟩
        · intro x d w4 cnt1 hwx hwc hlx hat hrg1 hlt hg1 hs1 hen
          have hc0 := lit_of_some ((hat (.lit (.int .i64 0))).symm.trans (HSM.out.at' x))
          have hh := has_true_of_atKey hat
          have hbk := hg1.block (w.heap.size + 2) (Nat.lt_trans HGL.out hsz) (fun e => by have := Option.some.inj e; have := HGL.out; omega)
          have hx4 : w4.cell? ⟨w.heap.size + 2, 6, none⟩ = some (.int .i64 q) := (World.cell?_of_block hbk).trans HXR.out
          have HB5 := Lib.hid (HBR.out.grown hg1 HBR.out.size (fun j hj => by cases hj; have := HB3.out.size; omega))
          have HBF := Lib.hid (below_of HBA.out HB5.out HBA.out.size)
          subst hc0
          by_cases hz : sumAt x cs ≤ q
          · have HK2 := Lib.hid (struck_step HK.out x hz)
            have hsz2 : w3.heap.size < w4.heap.size := by omega
            have HX5 := Lib.hid hx4
            clear hat hh hs1 hbk
            generalize sumAt x cs = d at *
            go_wp2
            go_roundw
            case rel => exact ⟨_, cnt1, hrg1, HK2, HX5, HB5, hsz2⟩
            case measure => rw [hrg1.left_eq, hrg.left_eq]; exact hlt
          · have HPF := Lib.hid (HP3.out (struck_no HSM.out x hh (by omega)))
            clear hat hh hs1 hbk
            generalize sumAt x cs = d at *
            go_wp2
            go_ret
            exact ⟨ret_bq HPF.out, HBF.out⟩
    · rw [hal] at HWI
      have HPF := Lib.hid (HP2.out hal)
      clear hal
      go_enter Tryz.func13, Tryz.ntmps13
      go_wp2_with fail
      rw [HWA.out]
      refine HDA.out.mono ?_
      rintro en w1 ⟨v9, rfl, hiv, hb⟩
      obtain ⟨g, cap, rfl, hcl⟩ := iv_five hiv HL5.out
      have HBF := Lib.hid (below_of HBA.out hb HBA.out.size)
      have HCL := Lib.hid (show ∀ j, j < 5 → w1.cell? ⟨g, 0 + j, none⟩ = some (.int .i64 (L.getD j 0)) from fun j hj => by rw [Nat.zero_add]; exact hcl j hj)
      obtain ⟨g5, g6⟩ := HG7.out _ hb
      clear hiv hb hcl
      go_wp2_with fail
      refine (HWI.out w1 g cap HCL.out).mono ?_
      rintro en w2 ⟨rfl, rfl⟩
      go_wp2
      go_ret
      exact ⟨ret_bq HPF.out, HBF.out⟩
  · have HPF := Lib.hid (plan_no1 (L := L) (t := t) (q := q) (cs := cs) hC)
    have hne : (C != 0) = true := bne_iff_ne.2 hC
    clear HDZ
    generalize planB L C t q cs = P at *
    go_enter Tryz.func13, Tryz.ntmps13
    go_wp2_with fail
    rw [HWA.out]
    refine HDA.out.mono ?_
    rintro en w1 ⟨v9, rfl, hiv, hb⟩
    have HBF := Lib.hid (below_of HBA.out hb HBA.out.size)
    clear hiv hb
    go_wp2
    go_ret
    exact ⟨ret_bq HPF.out, HBF.out⟩
end Go.Proofs.YtpjopfhkgegahaaGreat
