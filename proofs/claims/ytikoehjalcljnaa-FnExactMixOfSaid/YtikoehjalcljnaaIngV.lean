/- Ingots: when alloys, ingots and lists of them are valid; the reference model's answers. -/
import Derived.Test.YtikoehjalcljnaaIngs
import Derived.Test.YtikoehjalcljnaaWithin
import Derived.Test.YtikoehjalcljnaaNameSpecE
import Derived.Deep.QuietTactic
import Derived.BigQuiet
import Derived.Laws.Cover1
import Derived.Deep.RegionWith
import Derived.Deep.Draws
set_option linter.unusedVariables false
namespace Go.Proofs.Ytikoehjalcljnaa
open Go.ChangeShapes Go.WideShapes Go.ChangeAt Go.RowKit

def alloyB (x y z : Int) : Bool := inB x 0 1000000 && (inB y 0 1000000 && (inB z 0 1000000 && (x + y + z == 1000000)))
theorem alloy_iff {x y z : Int} : alloyB x y z = true ↔ (0 ≤ x ∧ x ≤ 1000000) ∧ (0 ≤ y ∧ y ≤ 1000000) ∧ (0 ≤ z ∧ z ≤ 1000000) ∧ x + y + z = 1000000 := by simp [alloyB, inB_iff]
def ingB (r : Gt) : Bool := nameB r.1 && (inB r.2.1 1 20000000 && alloyB r.2.2.1 r.2.2.2.1 r.2.2.2.2)
theorem ing_iff {r : Gt} : ingB r = true ↔ nameB r.1 = true ∧ (1 ≤ r.2.1 ∧ r.2.1 ≤ 20000000) ∧ alloyB r.2.2.1 r.2.2.2.1 r.2.2.2.2 = true := by simp [ingB, inB_iff]
theorem less_flip : ∀ (x y : List UInt8), (Op.bytesLess x y || x == y) = !Op.bytesLess y x
  | [], [] => rfl
  | [], _ :: _ => rfl
  | _ :: _, [] => rfl
  | a :: x, b :: y => by
    have ih := less_flip x y
    by_cases h1 : a < b
    · have h2 : ¬ b < a := by rw [UInt8.lt_iff_toNat_lt] at *; omega
      have h3 : ¬ b = a := by rintro rfl; rw [UInt8.lt_iff_toNat_lt] at h1; omega
      simp [Op.bytesLess, h1, h2, h3]
    · by_cases h2 : a = b
      · subst h2
        simp [Op.bytesLess, h1]
        simpa using ih
      · have h3 : b < a := by
          rw [UInt8.lt_iff_toNat_lt] at *
          have : a.toNat ≠ b.toNat := fun e => h2 (UInt8.toNat_inj.1 e)
          omega
        simp [Op.bytesLess, h1, h2, h3]
def lessS (a b : ByteArray) : Bool := Op.bytesLess a.toList b.toList
/-- Ingot i of a list is one, and it lies behind the one before it. -/
def okG (rs : List Gt) (i : Nat) : Bool := ingB (rs.getD i zG) && (decide (i = 0) || lessS (rs.getD (i - 1) zG).1 (rs.getD i zG).1)
def chainG (rs : List Gt) : Bool := (List.range rs.length).all (okG rs)
def ingsB (rs : List Gt) : Bool := decide (rs.length ≤ 16) && chainG rs
theorem chainG_iff {rs : List Gt} : chainG rs = true ↔ ∀ i, i < rs.length → okG rs i = true := by simp [chainG]
theorem ings_iff {rs : List Gt} : ingsB rs = true ↔ rs.length ≤ 16 ∧ ∀ i, i < rs.length → okG rs i = true := by unfold ingsB; rw [Bool.and_eq_true, decide_eq_true_eq, chainG_iff]
theorem ings_no {rs : List Gt} {i : Nat} (hi : i < rs.length) (h : okG rs i = false) : ingsB rs = false := by
  rcases Bool.eq_false_or_eq_true (ingsB rs) with hc | hc
  · have := (ings_iff.1 hc).2 i hi
    rw [h] at this; cases this
  · exact hc
theorem ings_end {rs : List Gt} (h : ∀ i, i < rs.length → okG rs i = true) : ingsB rs = decide (rs.length ≤ 16) := by unfold ingsB; rw [chainG_iff.2 h, Bool.and_true]
theorem ings_long {rs : List Gt} (h : 16 < rs.length) : ingsB rs = false := by unfold ingsB; rw [decide_eq_false (by omega)]; rfl
theorem okG_yes {rs : List Gt} {i : Nat} (h : okG rs i = true) : ingB (rs.getD i zG) = true := by unfold okG at h; rw [Bool.and_eq_true] at h; exact h.1
theorem gin_drew {w : World} {b o n : Nat} {r : Gt} (h : GIn w b o r) : GIn (w.drewN n) b o r := ⟨h.c0, h.c1, h.c2, h.c3, h.c4⟩
theorem below_drewNG (w : World) (m : Nat) : Below w.heap.size w (w.drewN m) := ⟨rfl, rfl, rfl, Nat.le_refl _, fun _ _ => rfl⟩
theorem retG_b {a b : Bool} (h : a = b) : Ending.returned (.bool a) = .returned (.bool b) := by rw [h]
theorem quiet_moreG {P : Program} {f : FuncId} {args : Array Value} {w : World} {m x : Nat} {v v' : Value} (hv : v' = v)
    (h : Calls P f args (w.drewN (m + x)) fun e w' => e = .returned v' ∧ ∃ k, w' = (w.drewN (m + x)).drewN k) : Calls P f args (w.drewN (m + x)) fun e w'' => e = .returned v ∧ ∃ n, w'' = w.drewN (m + n) :=
  h.mono fun _ _ ⟨he, k, hk⟩ => ⟨by rw [he, hv], x + k, by rw [hk, World.drewN_drewN, Nat.add_assoc]⟩
theorem inq_is {n lo hi : Int} {r : Bool} {w : World} {m : Nat} (h : inB n lo hi = r) : Calls Try.prog 67 #[.int .i64 n, .int .i64 lo, .int .i64 hi] (w.drewN m) fun e w' => e = .returned (.bool r) ∧ ∃ k, w' = w.drewN k :=
  (l00In_any n lo hi _).mono fun _ _ ⟨he, hw⟩ => ⟨by rw [he, h], m, hw.symm⟩
set_option maxHeartbeats 2000000 in
theorem l13Alloy_any (b o : Nat) (x y z : Int) (w : World) (c0 : w.cell? ⟨b, o, none⟩ = some (.int .i64 x)) (c1 : w.cell? ⟨b, o + 1, none⟩ = some (.int .i64 y)) (c2 : w.cell? ⟨b, o + 2, none⟩ = some (.int .i64 z)) :
    Calls Try.prog 51 #[.pointer (some ⟨b, o, none⟩)] w fun e w' => e = .returned (.bool (alloyB x y z)) ∧ ∃ m, w' = w.drewN m := by
  rcases Bool.eq_false_or_eq_true (inB x 0 1000000) with h1 | h1
  · have H1 := Lib.hid h1
    rcases Bool.eq_false_or_eq_true (inB y 0 1000000) with h2 | h2
    · have H2 := Lib.hid h2
      rcases Bool.eq_false_or_eq_true (inB z 0 1000000) with h3 | h3
      · have H3 := Lib.hid h3
        have HF := Lib.hid (show alloyB x y z = (x + y + z == 1000000) by unfold alloyB; rw [h1, h2, h3]; rfl)
        have b1 := inB_iff.1 h1
        have b2 := inB_iff.1 h2
        have b3 := inB_iff.1 h3
        obtain ⟨x0, x1⟩ := b1
        obtain ⟨y0, y1⟩ := b2
        obtain ⟨z0, z1⟩ := b3
        have hw1 : IntKind.i64.wrap (x + y) = x + y := IntWalk.i64_in _ (by omega)
        have hw2 : IntKind.i64.wrap (x + y + z) = x + y + z := IntWalk.i64_in _ (by omega)
        clear h1 h2 h3
        go_enter Try.func51, Try.ntmps51
        go_wp2
        go_quiet ((go_at_call 67; first | exact inq_is H1.out | exact inq_is H2.out | exact inq_is H3.out))
        go_wp2
        go_ret
        exact ⟨retG_b (by first | exact HF.out.symm | (simp only [hw1, hw2]; exact HF.out.symm)), _, by first | rfl | rw [World.drewN_drewN]⟩
      · have H3 := Lib.hid h3
        have HF := Lib.hid (show alloyB x y z = false by unfold alloyB; rw [h1, h2, h3]; rfl)
        clear h1 h2 h3
        go_enter Try.func51, Try.ntmps51
        go_wp2
        go_quiet ((go_at_call 67; first | exact inq_is H1.out | exact inq_is H2.out | exact inq_is H3.out))
        go_wp2
        go_ret
        exact ⟨retG_b HF.out.symm, _, by first | rfl | rw [World.drewN_drewN]⟩
    · have H2 := Lib.hid h2
      have HF := Lib.hid (show alloyB x y z = false by unfold alloyB; rw [h1, h2]; rfl)
      clear h1 h2
      go_enter Try.func51, Try.ntmps51
      go_wp2
      go_quiet ((go_at_call 67; first | exact inq_is H1.out | exact inq_is H2.out))
      go_wp2
      go_ret
      exact ⟨retG_b HF.out.symm, _, by first | rfl | rw [World.drewN_drewN]⟩
  · have H1 := Lib.hid h1
    have HF := Lib.hid (show alloyB x y z = false by unfold alloyB; rw [h1]; rfl)
    clear h1
    go_enter Try.func51, Try.ntmps51
    go_wp2
    go_quiet ((go_at_call 67; first | exact inq_is H1.out))
    go_wp2
    go_ret
    exact ⟨retG_b HF.out.symm, _, by first | rfl | rw [World.drewN_drewN]⟩
theorem specVA_any (x y z : Int) (w : World) :
    Calls Try.prog 19 #[.agg #[.int .i64 x, .int .i64 y, .int .i64 z]] w fun e w' => e = .returned (.bool (alloyB x y z)) ∧ Below w.heap.size w w' := by
  go_enter Try.func19, Try.ntmps19
  go_wp2_with fail
  refine (l13Alloy_any w.heap.size 0 x y z _ (by go_simp) (by go_simp) (by go_simp)).mono ?_
  rintro e w1 ⟨rfl, m, rfl⟩
  have HR := Lib.hid (rfl : alloyB x y z = alloyB x y z)
  go_wp2
  go_ret
  exact ⟨rfl, below_of ((Below.refl _ _).alloc (Nat.le_refl _) _) (below_drewNG _ _) (by simp)⟩
set_option maxHeartbeats 2000000 in
theorem l13One_any (b o : Nat) (s : ByteArray) (a x y z : Int) (w : World) (h : GIn w b o (s, a, x, y, z)) (hs : s.size ≤ maxLen) :
    Calls Try.prog 57 #[.pointer (some ⟨b, o, none⟩)] w fun e w' => e = .returned (.bool (ingB (s, a, x, y, z))) ∧ ∃ m, w' = w.drewN m := by
  have c0 : w.cell? ⟨b, o, none⟩ = some (.string s) := h.c0
  have c1 : w.cell? ⟨b, o + 1, none⟩ = some (.int .i64 a) := h.c1
  have c2 : w.cell? ⟨b, o + 2, none⟩ = some (.int .i64 x) := h.c2
  have c3 : w.cell? ⟨b, o + 2 + 1, none⟩ = some (.int .i64 y) := h.c3
  have c4 : w.cell? ⟨b, o + 2 + 2, none⟩ = some (.int .i64 z) := h.c4
  clear h
  rcases Bool.eq_false_or_eq_true (nameB s) with h1 | h1
  · have H1 := Lib.hid h1
    rcases Bool.eq_false_or_eq_true (inB a 1 20000000) with h2 | h2
    · have H2 := Lib.hid h2
      have HF := Lib.hid (show ingB (s, a, x, y, z) = alloyB x y z by unfold ingB; simp only; rw [h1, h2]; rfl)
      clear h1 h2
      go_enter Try.func57, Try.ntmps57
      go_wp2_with fail
      refine (specName_any s _ hs).mono ?_
      rintro e w2 ⟨rfl, rfl⟩
      rw [H1.out]
      go_wp2_with fail
      refine (l00In_any _ _ _ _).mono ?_
      rintro e w2 ⟨rfl, rfl⟩
      rw [H2.out]
      go_wp2_with fail
      refine (l13Alloy_any b (o + 2) x y z _ c2 c3 c4).mono ?_
      rintro e w2 ⟨rfl, m, rfl⟩
      generalize alloyB x y z = c at *
      go_wp2
      go_ret
      exact ⟨retG_b HF.out.symm, m, rfl⟩
    · have H2 := Lib.hid h2
      have HF := Lib.hid (show ingB (s, a, x, y, z) = false by unfold ingB; simp only; rw [h1, h2]; rfl)
      clear h1 h2
      go_enter Try.func57, Try.ntmps57
      go_wp2_with fail
      refine (specName_any s _ hs).mono ?_
      rintro e w2 ⟨rfl, rfl⟩
      rw [H1.out]
      go_wp2_with fail
      refine (l00In_any _ _ _ _).mono ?_
      rintro e w2 ⟨rfl, rfl⟩
      rw [H2.out]
      go_wp2
      go_ret
      exact ⟨retG_b HF.out.symm, 0, rfl⟩
  · have H1 := Lib.hid h1
    have HF := Lib.hid (show ingB (s, a, x, y, z) = false by unfold ingB; simp only; rw [h1]; rfl)
    clear h1
    go_enter Try.func57, Try.ntmps57
    go_wp2_with fail
    refine (specName_any s _ hs).mono ?_
    rintro e w2 ⟨rfl, rfl⟩
    rw [H1.out]
    go_wp2
    go_ret
    exact ⟨retG_b HF.out.symm, 0, rfl⟩
set_option maxRecDepth 20000 in
set_option maxHeartbeats 4000000 in
theorem l13Ok_some (b off cap n : Nat) (rs : List Gt) (w : World) (hn : Hid (rs.length = n)) (hn0 : n ≤ 1048576) (hc : ∀ i, i < n → GIn w b (off + i * 5) (rs.getD i zG)) (hz : SzOkG rs) :
    Calls Try.prog 53 #[.slice (some ⟨b, off, none⟩) n cap] w fun e w' => e = .returned (.bool (ingsB rs)) ∧ ∃ m, w' = w.drewN m := by
  have HC := Lib.hid hc
  have HZ := Lib.hid hz
  have HNO := Lib.hid (fun i (hi : i < rs.length) h => ings_no (rs := rs) (i := i) hi h)
  clear hc hz
  go_enter Try.func53, Try.ntmps53
  go_wp2
  go_loopw [3] (fun i wr => ∃ k m : Nat, k ≤ n ∧ i = .int .i64 k ∧ wr = w.drewN m ∧ Hid (∀ j, j < k → okG rs j = true)) (fun i _ => n - (intOf i).toNat)
  case atStart => exact ⟨0, 0, by omega, rfl, rfl, Lib.hid (fun j hj => by omega)⟩
  case round =>
    obtain ⟨k, m, hk, rfl, rfl, HA⟩ := hrel
    by_cases hlt : k < n
    · have hr := HC.out k hlt
      have hs := HZ.out k (by rw [hn.out]; exact hlt)
      obtain ⟨⟨s, a, x, y, z⟩, hxy⟩ : ∃ r, rs.getD k zG = r := ⟨_, rfl⟩
      have hkm : (k : Int) < (n : Int) := by omega
      have hk0 : (0 : Int) ≤ (k : Int) := by omega
      rw [hxy] at hr hs
      have HRK := Lib.hid hr
      have HS := Lib.hid (show s.size ≤ maxLen from hs)
      clear hs
      rcases Bool.eq_false_or_eq_true (ingB (s, a, x, y, z)) with h4 | h4
      · have H4 := Lib.hid h4
        match hk' : k with
        | 0 =>
          have HOK := Lib.hid (show okG rs 0 = true by unfold okG; rw [hxy, h4]; rfl)
          have HR0 := Lib.hid (show GIn w b off (s, a, x, y, z) by simpa using hr)
          clear hr hxy h4 HRK
          go_wp2
          go_quiet ((go_at_call 57; exact quiet_moreG (by rw [H4.out]) (l13One_any b _ s a x y z _ (gin_drew HR0.out) HS.out)))
          go_wp2
          go_roundw
          case rel => exact ⟨1, _, by omega, by go_num, rfl, Lib.hid (fun j hj => by obtain rfl : j = 0 := (by omega); exact HOK.out)⟩
          case measure => simp [intOf]; omega
        | q + 1 =>
          have hr2 := HC.out q (by omega)
          obtain ⟨⟨s2, a2, x2, y2, z2⟩, hx2⟩ : ∃ r, rs.getD q zG = r := ⟨_, rfl⟩
          rw [hx2] at hr2
          have d0 : w.cell? ⟨b, off + (q + 1) * 5, none⟩ = some (.string s) := hr.c0
          have e0 : w.cell? ⟨b, off + q * 5, none⟩ = some (.string s2) := hr2.c0
          have hg : (0 : Int) < ((q + 1 : Nat) : Int) := by omega
          have hs : (((q + 1 : Nat) : Int) - 1) = (q : Int) := by omega
          have hq0 : (0 : Int) ≤ (q : Int) := by omega
          have hq1 : (q : Int) < (n : Int) := by omega
          have hq2 : (0 : Int) ≤ (q : Int) + 1 := by omega
          have hqw : IntKind.i64.wrap (q : Int) = (q : Int) := IntWalk.i64_in _ (by omega)
          rcases Bool.eq_false_or_eq_true (Op.bytesLess s2.toList s.toList) with h5 | h5
          · have HOK := Lib.hid (show okG rs (q + 1) = true by unfold okG; rw [hxy, h4, Nat.add_sub_cancel, hx2]; simp [lessS, h5])
            clear hr hr2 hx2 hxy h4
            go_wp2
            go_quiet ((go_at_call 57; exact quiet_moreG (by rw [H4.out]) (l13One_any b _ s a x y z _ (gin_drew HRK.out) HS.out)))
            go_wp2
            go_roundw
            case rel => exact ⟨q + 2, _, by omega, by go_num, rfl, Lib.hid (fun j hj => by
              by_cases e : j = q + 1
              · subst e; exact HOK.out
              · exact HA.out j (by omega))⟩
            case measure => simp [intOf]; omega
          · have HF := Lib.hid (HNO.out (q + 1) (by rw [hn.out]; exact hlt) (by unfold okG; rw [hxy, h4, Nat.add_sub_cancel, hx2]; simp [lessS, h5]))
            clear hr hr2 hx2 hxy h4
            go_wp2
            go_quiet ((go_at_call 57; exact quiet_moreG (by rw [H4.out]) (l13One_any b _ s a x y z _ (gin_drew HRK.out) HS.out)))
            go_wp2
            go_ret
            exact ⟨retG_b HF.out.symm, _, by first | rfl | rw [World.drewN_drewN]⟩
      · have H4 := Lib.hid h4
        have HF := Lib.hid (HNO.out k (by rw [hn.out]; exact hlt) (by unfold okG; rw [hxy, h4]; rfl))
        clear hr hxy h4
        go_wp2
        go_quiet ((go_at_call 57; exact quiet_moreG (by rw [H4.out]) (l13One_any b _ s a x y z _ (gin_drew HRK.out) HS.out)))
        go_wp2
        go_ret
        exact ⟨retG_b HF.out.symm, _, by first | rfl | rw [World.drewN_drewN]⟩
    · obtain rfl : k = n := by omega
      have HF := Lib.hid (show ingsB rs = decide ((k : Int) ≤ 16) by
        rw [ings_end (fun j hj => HA.out j (by rw [hn.out] at hj; exact hj)), hn.out]
        rw [decide_eq_decide]; omega)
      go_wp2
      go_ret
      exact ⟨retG_b HF.out.symm, _, rfl⟩
theorem l13Ok_none (a : Option Addr) (c : Nat) (w : World) :
    Calls Try.prog 53 #[.slice a 0 c] w fun e w' => e = .returned (.bool (ingsB [])) ∧ ∃ m, w' = w.drewN m := by
  go_enter Try.func53, Try.ntmps53
  go_wp2
  refine wp_loop_rounds 1 ?_
  rw [rounds_succ]
  go_wp2
  go_ret
  exact ⟨rfl, 0, rfl⟩
theorem l13Ok_drew (rs : List Gt) (v : Value) (w : World) (h : IngsAt w v rs) (hz : SzOkG rs) :
    Calls Try.prog 53 #[v] w fun e w' => e = .returned (.bool (ingsB rs)) ∧ ∃ m, w' = w.drewN m := by
  by_cases h0 : rs.length = 0
  · obtain rfl : rs = [] := List.length_eq_zero_iff.1 h0
    obtain ⟨a, c, rfl⟩ := ings_form h
    exact l13Ok_none a c w
  · have hl := h.1
    obtain ⟨b, off, cap, rfl, hb, hc⟩ := ings_cells h (by omega)
    exact l13Ok_some b off cap _ rs w (Lib.hid rfl) hl hc hz
theorem l13Ok_any (rs : List Gt) (v : Value) (w : World) (h : IngsAt w v rs) (hz : SzOkG rs) :
    Calls Try.prog 53 #[v] w fun e w' => e = .returned (.bool (ingsB rs)) ∧ Below w.heap.size w w' := by
  refine (l13Ok_drew rs v w h hz).mono ?_
  rintro e w' ⟨rfl, m, rfl⟩
  exact ⟨rfl, below_drewNG _ _⟩
theorem specVI_any (rs : List Gt) (v : Value) (w : World) (h : IngsAt w v rs) (hz : SzOkG rs) :
    Calls Try.prog 23 #[v] w fun e w' => e = .returned (.bool (ingsB rs)) ∧ Below w.heap.size w w' := by
  have HC := Lib.hid (l13Ok_any rs v w h hz)
  clear h
  generalize ingsB rs = r at *
  go_enter Try.func23, Try.ntmps23
  go_wp2_with fail
  refine HC.out.mono ?_
  rintro e w1 ⟨rfl, hb⟩
  have HB := Lib.hid hb
  clear hb
  go_wp2
  go_ret
  exact ⟨rfl, HB.out⟩
end Go.Proofs.Ytikoehjalcljnaa
