/- Merged texts: Base Within LaidOut WithinMore Pick Rise Ints IRows NameSpecE NameImplE. -/
import Derived.Test.YtpjopfhkgegahaaGreatRows
import Derived.WalkKit
import Derived.ProofKit
import Derived.OpenShut
import Derived.ShutString
import Derived.Below
import Derived.Lib.Hide
import Derived.Deep.Draws
import Derived.Laws.AppendOwn
import Derived.OwnWalk
import Derived.ChangeSlices
import Derived.Carry
import Derived.Laws.IdiomAt
import Derived.Deep.QuietTactic
import Derived.BigQuiet
import Derived.Deep.Matrix
import Derived.Lib.SmallJoins

namespace Go.Proofs.YtpjopfhkgegahaaGreat
open Go.ChangeShapes Go.WideShapes Go.ChangeAt Go.RowKit

theorem wf_bd {n : Int} (h : (Lit.int .i64 n).wf = true) : -9223372036854775808 ≤ n ∧ n ≤ 9223372036854775807 := by
  have e : IntKind.i64.signed = true ∧ IntKind.i64.bits = 64 := ⟨rfl, rfl⟩
  simp only [Lit.wf, IntKind.min, IntKind.max, e.1, e.2, Bool.and_eq_true, decide_eq_true_eq, if_true] at h
  omega

section
variable {H : Type} {enc : TypeId × Value → H} {P : Program}
/-- A law whose world below the call's own blocks is as it was, and whose arguments hold no memory that turns: what its row asks behind the call. -/
theorem post_kept {f : Func} {s : ChangeSpec} {fresh handsOn : Bool} {W W' : World} {args : Array Value} {v : Value} {ds gs : List (DataW H)} {before pa pv : List MemPlace}
    (hW : DataW.Whole enc P f.params.toList s.vars false W args.toList ds gs before) (hps : before = pa ++ pv) (hb : Below W.heap.size W W')
    (hres : ∀ (b : Nat) (sp : Nat → Bool), DataW.TrodAll enc P W' b sp handsOn f.resultTypes.toList (v.resultList f.resultTypes.size) (s.fn H (ds ++ gs)).results [])
    (hargs : ∀ sp : Nat → Bool, (∀ p ∈ before, sp p.block = true) → DataW.TrodAll enc P W' 0 sp true f.params.toList args.toList (s.fn H (ds ++ gs)).args pa)
    (hvars : ∀ sp : Nat → Bool, (∀ p ∈ before, sp p.block = true) → DataW.TrodVars enc P W' sp s.vars (s.fn H (ds ++ gs)).vars pv) :
    s.post enc P f false fresh handsOn false W args v W' := by
  have old : ∀ p ∈ before, decide (p.block < W.heap.size) = true := fun p hp => decide_eq_true (hW.lt p hp)
  exact ⟨ds, gs, before, [], pa, pv, hW, hres _ _, hargs _ old, hvars _ old,
    World.keptBut_mono (fun p (hp : p ∈ before) => ⟨hp, .inr (by rw [hps] at hp; simpa using hp)⟩) (hb.frame (· ∈ before)), fun h => by cases h⟩
end

theorem below_cell {W w1 : World} (hb : Below W.heap.size W w1) (b o : Nat) (h : b < W.heap.size) : w1.cell? ⟨b, o, none⟩ = W.cell? ⟨b, o, none⟩ := hb.cell (p := ⟨b, o, none⟩) h
theorem below_frozen {W w1 : World} (hb : Below W.heap.size W w1) (b o : Nat) (h : b < W.heap.size) : w1.frozen? ⟨b, o, none⟩ = W.frozen? ⟨b, o, none⟩ := hb.frozen (p := ⟨b, o, none⟩) h
theorem below_of {B : Nat} {W w1 w2 : World} (h : Below B W w1) (k : Below w1.heap.size w1 w2) (hB : B ≤ w1.heap.size) : Below B W w2 := h.trans (k.mono hB)
theorem below_drewN (w : World) (n : Nat) : Below w.heap.size w (w.drewN n) := ⟨rfl, rfl, rfl, Nat.le_refl _, fun _ _ => rfl⟩
theorem ret_bool {a b : Bool} (h : a = b) : Ending.returned (.bool a) = .returned (.bool b) := by rw [h]
theorem ret_i64 {a b : Int} (h : a = b) : Ending.returned (.int .i64 a) = .returned (.int .i64 b) := by rw [h]
end Go.Proofs.YtpjopfhkgegahaaGreat


namespace Go.Proofs.YtpjopfhkgegahaaGreat
open Go.ChangeShapes Go.WideShapes Go.ChangeAt Go.RowKit

def inB (n lo hi : Int) : Bool := decide (lo ≤ n) && decide (n ≤ hi)
def allIn (lo hi : Int) (zs : List Int) : Bool := zs.all fun v => inB v lo hi
theorem inB_true {n lo hi : Int} (h : lo ≤ n ∧ n ≤ hi) : inB n lo hi = true := by simp [inB, h]
theorem inB_false {n lo hi : Int} (h : ¬ (lo ≤ n ∧ n ≤ hi)) : inB n lo hi = false := by
  simp only [inB, Bool.and_eq_false_iff, decide_eq_false_iff_not]; omega
theorem inB_iff {n lo hi : Int} : inB n lo hi = true ↔ lo ≤ n ∧ n ≤ hi := by simp [inB]
theorem allIn_false {lo hi : Int} {zs : List Int} {k : Nat} (hk : k < zs.length) (h : inB (zs.getD k 0) lo hi = false) : allIn lo hi zs = false := by
  unfold allIn
  rw [List.all_eq_false]
  exact ⟨zs.getD k 0, by rw [List.getD_eq_getElem?_getD, List.getElem?_eq_getElem hk]; simp, by rw [h]; simp⟩
theorem allIn_true {lo hi : Int} {zs : List Int} (h : ∀ j, j < zs.length → inB (zs.getD j 0) lo hi = true) : allIn lo hi zs = true := by
  unfold allIn
  rw [List.all_eq_true]
  intro x hx
  obtain ⟨i, hi, rfl⟩ := List.mem_iff_getElem.1 hx
  have := h i hi
  rwa [List.getD_eq_getElem?_getD, List.getElem?_eq_getElem hi] at this

theorem l00In_any (n lo hi : Int) (w : World) :
    Calls Tryz.prog 74 #[.int .i64 n, .int .i64 lo, .int .i64 hi] w fun e w' => e = .returned (.bool (inB n lo hi)) ∧ w = w' := by
  by_cases h : lo ≤ n ∧ n ≤ hi
  · have H := Lib.hid (inB_true h)
    obtain ⟨h1, h2⟩ := h
    go_enter Tryz.func74, Tryz.ntmps74
    go_wp2
    go_ret
    exact ⟨ret_bool H.out.symm, rfl⟩
  · have H := Lib.hid (inB_false h)
    by_cases h1 : lo ≤ n
    · have h2 : ¬ n ≤ hi := fun h2 => h ⟨h1, h2⟩
      clear h
      go_enter Tryz.func74, Tryz.ntmps74
      go_wp2
      go_ret
      exact ⟨ret_bool H.out.symm, rfl⟩
    · clear h
      go_enter Tryz.func74, Tryz.ntmps74
      go_wp2
      go_ret
      exact ⟨ret_bool H.out.symm, rfl⟩

set_option maxHeartbeats 400000 in
theorem within_i64 (lo hi : Int) (zs : List Int) (b off n cap : Nat) (w : World) (hn : zs.length = n) (hbig : n ≤ 9223372036854775807)
    (hc : ∀ j, j < n → w.cell? ⟨b, off + j, none⟩ = some (.int .i64 (zs.getD j 0))) :
    Calls Tryz.prog 31 #[.int .i64 lo, .int .i64 hi, .slice (some ⟨b, off, none⟩) n cap] w fun e w' => e = .returned (.bool (allIn lo hi zs)) ∧ w = w' := by
  have HN := Lib.hid hn
  clear hn
  go_enter Tryz.func31, Tryz.ntmps31
  go_wp2
  go_loop [11] (fun i => ∃ k : Nat, k ≤ n ∧ i = .int .i64 k ∧ ∀ j, j < k → inB (zs.getD j 0) lo hi = true) (fun i => n - (intOf i).toNat)
  case atStart => exact ⟨0, by omega, rfl, fun j hj => by omega⟩
  case round =>
    obtain ⟨k, hk, rfl, hall⟩ := hrel
    have HA := Lib.hid hall
    clear hall
    by_cases hlt : k < n
    · have hcell := hc k hlt
      by_cases h1 : lo ≤ zs.getD k 0
      · by_cases h2 : zs.getD k 0 ≤ hi
        · have HB := Lib.hid (inB_true ⟨h1, h2⟩)
          generalize hz : zs.getD k 0 = z at *
          have HZ := Lib.hid hz
          clear hz hc
          go_wp2
          go_round
          case rel => exact ⟨k + 1, by omega, by go_num, fun j hj => by
            by_cases e : j = k
            · subst e; rw [HZ.out]; exact HB.out
            · exact HA.out j (by omega)⟩
          case measure => simp [intOf]; omega
        · have HB := Lib.hid (allIn_false (lo := lo) (hi := hi) (zs := zs) (k := k) (by rw [HN.out]; exact hlt) (inB_false (fun h => h2 h.2)))
          generalize hz : zs.getD k 0 = z at *
          clear hz hc
          go_wp2
          go_ret
          exact ⟨ret_bool HB.out.symm, rfl⟩
      · have HB := Lib.hid (allIn_false (lo := lo) (hi := hi) (zs := zs) (k := k) (by rw [HN.out]; exact hlt) (inB_false (fun h => h1 h.1)))
        generalize hz : zs.getD k 0 = z at *
        clear hz hc
        go_wp2
        go_ret
        exact ⟨ret_bool HB.out.symm, rfl⟩
    · have HB := Lib.hid (allIn_true (lo := lo) (hi := hi) (zs := zs) (fun j hj => HA.out j (by have := HN.out; omega)))
      clear hc
      go_wp2
      go_ret
      exact ⟨ret_bool HB.out.symm, rfl⟩

theorem within_i64_none (lo hi : Int) (w : World) :
    Calls Tryz.prog 31 #[.int .i64 lo, .int .i64 hi, .slice none 0 0] w fun e w' => e = .returned (.bool true) ∧ w = w' := by
  go_enter Tryz.func31, Tryz.ntmps31
  go_wp2
  refine wp_loop_rounds 1 ?_
  rw [rounds_succ]
  go_wp2
  go_ret
  exact ⟨rfl, rfl⟩
end Go.Proofs.YtpjopfhkgegahaaGreat


namespace Go.Proofs.YtpjopfhkgegahaaGreat
open Go.ChangeShapes Go.WideShapes Go.ChangeAt Go.RowKit
section
variable {H : Type} {enc : TypeId × Value → H}
theorem post_at {f : Func} {s : ChangeSpec} {fresh handsOn : Bool} {W W' : World} {args : Array Value} {v : Value} {ds gs : List (DataW H)} {before pa pv : List MemPlace}
    (hW : DataW.Whole enc Tryz.prog f.params.toList s.vars false W args.toList ds gs before) (hps : before = pa ++ pv) (hb : Below W.heap.size W W')
    (hres : ∀ (b : Nat) (sp : Nat → Bool), DataW.TrodAll enc Tryz.prog W' b sp handsOn f.resultTypes.toList (v.resultList f.resultTypes.size) (s.fn H (ds ++ gs)).results [])
    (hargs : DataW.TrodAll enc Tryz.prog W' 0 (fun b => decide (b < W.heap.size)) true f.params.toList args.toList (s.fn H (ds ++ gs)).args pa)
    (hvars : DataW.TrodVars enc Tryz.prog W' (fun b => decide (b < W.heap.size)) s.vars (s.fn H (ds ++ gs)).vars pv) :
    s.post enc Tryz.prog f false fresh handsOn false W args v W' :=
  ⟨ds, gs, before, [], pa, pv, hW, hres _ _, hargs, hvars, World.keptBut_mono (fun p (hp : p ∈ before) => ⟨hp, .inr (by rw [hps] at hp; simpa using hp)⟩) (hb.frame (· ∈ before)), fun h => by cases h⟩
end
theorem laidOut : laidOutB Tryz.prog = true := by kernel_rfl
end Go.Proofs.YtpjopfhkgegahaaGreat


namespace Go.Proofs.YtpjopfhkgegahaaGreat
open Go.ChangeShapes Go.WideShapes Go.ChangeAt Go.RowKit

set_option maxHeartbeats 400000 in
theorem within_int (lo hi : Int) (zs : List Int) (b off n cap : Nat) (w : World) (hn : zs.length = n) (hbig : n ≤ 9223372036854775807)
    (hc : ∀ j, j < n → w.cell? ⟨b, off + j, none⟩ = some (.int .i64 (zs.getD j 0))) :
    Calls Tryz.prog 129 #[.int .i64 lo, .int .i64 hi, .slice (some ⟨b, off, none⟩) n cap] w fun e w' => e = .returned (.bool (allIn lo hi zs)) ∧ w = w' := by
  have HN := Lib.hid hn
  clear hn
  go_enter Tryz.func129, Tryz.ntmps129
  go_wp2
  go_loop [11] (fun i => ∃ k : Nat, k ≤ n ∧ i = .int .i64 k ∧ ∀ j, j < k → inB (zs.getD j 0) lo hi = true) (fun i => n - (intOf i).toNat)
  case atStart => exact ⟨0, by omega, rfl, fun j hj => by omega⟩
  case round =>
    obtain ⟨k, hk, rfl, hall⟩ := hrel
    have HA := Lib.hid hall
    clear hall
    by_cases hlt : k < n
    · have hcell := hc k hlt
      by_cases h1 : lo ≤ zs.getD k 0
      · by_cases h2 : zs.getD k 0 ≤ hi
        · have HB := Lib.hid (inB_true ⟨h1, h2⟩)
          generalize hz : zs.getD k 0 = z at *
          have HZ := Lib.hid hz
          clear hz hc
          go_wp2
          go_round
          case rel => exact ⟨k + 1, by omega, by go_num, fun j hj => by
            by_cases e : j = k
            · subst e; rw [HZ.out]; exact HB.out
            · exact HA.out j (by omega)⟩
          case measure => simp [intOf]; omega
        · have HB := Lib.hid (allIn_false (lo := lo) (hi := hi) (zs := zs) (k := k) (by rw [HN.out]; exact hlt) (inB_false (fun h => h2 h.2)))
          generalize hz : zs.getD k 0 = z at *
          clear hz hc
          go_wp2
          go_ret
          exact ⟨ret_bool HB.out.symm, rfl⟩
      · have HB := Lib.hid (allIn_false (lo := lo) (hi := hi) (zs := zs) (k := k) (by rw [HN.out]; exact hlt) (inB_false (fun h => h1 h.1)))
        generalize hz : zs.getD k 0 = z at *
        clear hz hc
        go_wp2
        go_ret
        exact ⟨ret_bool HB.out.symm, rfl⟩
    · have HB := Lib.hid (allIn_true (lo := lo) (hi := hi) (zs := zs) (fun j hj => HA.out j (by have := HN.out; omega)))
      clear hc
      go_wp2
      go_ret
      exact ⟨ret_bool HB.out.symm, rfl⟩

set_option maxHeartbeats 400000 in
theorem within_u8 (lo hi : Int) (zs : List Int) (b off n cap : Nat) (w : World) (hn : zs.length = n) (hbig : n ≤ 9223372036854775807)
    (hc : ∀ j, j < n → w.cell? ⟨b, off + j, none⟩ = some (.int .u8 (zs.getD j 0))) :
    Calls Tryz.prog 142 #[.int .u8 lo, .int .u8 hi, .slice (some ⟨b, off, none⟩) n cap] w fun e w' => e = .returned (.bool (allIn lo hi zs)) ∧ w = w' := by
  have HN := Lib.hid hn
  clear hn
  go_enter Tryz.func142, Tryz.ntmps142
  go_wp2
  go_loop [11] (fun i => ∃ k : Nat, k ≤ n ∧ i = .int .i64 k ∧ ∀ j, j < k → inB (zs.getD j 0) lo hi = true) (fun i => n - (intOf i).toNat)
  case atStart => exact ⟨0, by omega, rfl, fun j hj => by omega⟩
  case round =>
    obtain ⟨k, hk, rfl, hall⟩ := hrel
    have HA := Lib.hid hall
    clear hall
    by_cases hlt : k < n
    · have hcell := hc k hlt
      by_cases h1 : lo ≤ zs.getD k 0
      · by_cases h2 : zs.getD k 0 ≤ hi
        · have HB := Lib.hid (inB_true ⟨h1, h2⟩)
          generalize hz : zs.getD k 0 = z at *
          have HZ := Lib.hid hz
          clear hz hc
          go_wp2
          go_round
          case rel => exact ⟨k + 1, by omega, by go_num, fun j hj => by
            by_cases e : j = k
            · subst e; rw [HZ.out]; exact HB.out
            · exact HA.out j (by omega)⟩
          case measure => simp [intOf]; omega
        · have HB := Lib.hid (allIn_false (lo := lo) (hi := hi) (zs := zs) (k := k) (by rw [HN.out]; exact hlt) (inB_false (fun h => h2 h.2)))
          generalize hz : zs.getD k 0 = z at *
          clear hz hc
          go_wp2
          go_ret
          exact ⟨ret_bool HB.out.symm, rfl⟩
      · have HB := Lib.hid (allIn_false (lo := lo) (hi := hi) (zs := zs) (k := k) (by rw [HN.out]; exact hlt) (inB_false (fun h => h1 h.1)))
        generalize hz : zs.getD k 0 = z at *
        clear hz hc
        go_wp2
        go_ret
        exact ⟨ret_bool HB.out.symm, rfl⟩
    · have HB := Lib.hid (allIn_true (lo := lo) (hi := hi) (zs := zs) (fun j hj => HA.out j (by have := HN.out; omega)))
      clear hc
      go_wp2
      go_ret
      exact ⟨ret_bool HB.out.symm, rfl⟩

theorem cell_int (w : World) (x : Int) (T : TypeId) (n : Nat) (hn : n = w.heap.size) : ∀ j, j < 1 → (w.alloc (.cells #[.int .i64 x] T)).cell? ⟨n, 0 + j, none⟩ = some (.int .i64 ([x].getD j 0)) := by
  subst hn
  intro j hj
  match j, hj with
  | 0, _ => go_simp
theorem cell_u8 (w : World) (x : Int) (T : TypeId) (n : Nat) (hn : n = w.heap.size) : ∀ j, j < 1 → (w.alloc (.cells #[.int .u8 x] T)).cell? ⟨n, 0 + j, none⟩ = some (.int .u8 ([x].getD j 0)) := by
  subst hn
  intro j hj
  match j, hj with
  | 0, _ => go_simp
theorem all_one (lo hi c : Int) : allIn lo hi [c] = inB c lo hi := by simp [allIn]

theorem isLetter_any (c : Int) (w : World) :
    Calls Tryz.prog 138 #[.int .u8 c] w fun e w' => e = .returned (.bool (inB c 97 122)) ∧ Below w.heap.size w w' := by
  go_enter Tryz.func138, Tryz.ntmps138
  go_wp2_with fail
  refine (within_u8 _ _ [c] _ 0 1 1 _ rfl (by omega) (cell_u8 _ _ _ _ rfl)).mono ?_
  rintro e w' ⟨rfl, rfl⟩
  go_wp2
  go_ret
  exact ⟨ret_bool (all_one _ _ _), (Below.refl _ _).alloc (Nat.le_refl _) _⟩
theorem isDigit_any (c : Int) (w : World) :
    Calls Tryz.prog 139 #[.int .u8 c] w fun e w' => e = .returned (.bool (inB c 48 57)) ∧ Below w.heap.size w w' := by
  go_enter Tryz.func139, Tryz.ntmps139
  go_wp2_with fail
  refine (within_u8 _ _ [c] _ 0 1 1 _ rfl (by omega) (cell_u8 _ _ _ _ rfl)).mono ?_
  rintro e w' ⟨rfl, rfl⟩
  go_wp2
  go_ret
  exact ⟨ret_bool (all_one _ _ _), (Below.refl _ _).alloc (Nat.le_refl _) _⟩

theorem small_any (c : Int) (w : World) :
    Calls Tryz.prog 134 #[.int .u8 c] w fun e w' => e = .returned (.bool (inB c 97 122)) ∧ w = w' := by
  by_cases h1 : 97 ≤ c
  · by_cases h2 : c ≤ 122
    · have H := Lib.hid (inB_true ⟨h1, h2⟩)
      go_enter Tryz.func134, Tryz.ntmps134
      go_wp2
      go_ret
      exact ⟨ret_bool H.out.symm, rfl⟩
    · have H := Lib.hid (inB_false (n := c) (lo := 97) (hi := 122) (fun h => h2 h.2))
      go_enter Tryz.func134, Tryz.ntmps134
      go_wp2
      go_ret
      exact ⟨ret_bool H.out.symm, rfl⟩
  · have H := Lib.hid (inB_false (n := c) (lo := 97) (hi := 122) (fun h => h1 h.1))
    go_enter Tryz.func134, Tryz.ntmps134
    go_wp2
    go_ret
    exact ⟨ret_bool H.out.symm, rfl⟩
theorem digit_any (c : Int) (w : World) :
    Calls Tryz.prog 135 #[.int .u8 c] w fun e w' => e = .returned (.bool (inB c 48 57)) ∧ w = w' := by
  by_cases h1 : 48 ≤ c
  · by_cases h2 : c ≤ 57
    · have H := Lib.hid (inB_true ⟨h1, h2⟩)
      go_enter Tryz.func135, Tryz.ntmps135
      go_wp2
      go_ret
      exact ⟨ret_bool H.out.symm, rfl⟩
    · have H := Lib.hid (inB_false (n := c) (lo := 48) (hi := 57) (fun h => h2 h.2))
      go_enter Tryz.func135, Tryz.ntmps135
      go_wp2
      go_ret
      exact ⟨ret_bool H.out.symm, rfl⟩
  · have H := Lib.hid (inB_false (n := c) (lo := 48) (hi := 57) (fun h => h1 h.1))
    go_enter Tryz.func135, Tryz.ntmps135
    go_wp2
    go_ret
    exact ⟨ret_bool H.out.symm, rfl⟩
end Go.Proofs.YtpjopfhkgegahaaGreat


namespace Go.Proofs.YtpjopfhkgegahaaGreat
open Go.ChangeShapes Go.WideShapes Go.ChangeAt Go.RowKit

/-- The list's values, one after the other. -/
def pickLeast (a z : Int) : Int := if z < a then z else a
def pickMost (a z : Int) : Int := if a < z then z else a
theorem fold_snoc (f : Int → Int → Int) (x : Int) (zs : List Int) (k : Nat) (h : k < zs.length) : (zs.take (k + 1)).foldl f x = f ((zs.take k).foldl f x) (zs.getD k 0) := by
  rw [List.take_succ_eq_append_getElem h, List.foldl_append, List.getD_eq_getElem?_getD, List.getElem?_eq_getElem h]; rfl

theorem least_any (x : Int) (zs : List Int) (b off n cap : Nat) (w : World) (hn : zs.length = n) (hbig : n ≤ 9223372036854775807)
    (hc : ∀ j, j < n → w.cell? ⟨b, off + j, none⟩ = some (.int .i64 (zs.getD j 0))) :
    Calls Tryz.prog 67 #[.int .i64 x, .slice (some ⟨b, off, none⟩) n cap] w fun e w' => e = .returned (.int .i64 (zs.foldl pickLeast x)) ∧ w = w' := by
  have HN := Lib.hid hn
  clear hn
  go_enter Tryz.func67, Tryz.ntmps67
  go_wp2
  go_loop [0, 9] (fun a i => ∃ k : Nat, k ≤ n ∧ i = .int .i64 k ∧ a = .int .i64 ((zs.take k).foldl pickLeast x)) (fun _ i => n - (intOf i).toNat)
  case atStart => exact ⟨0, by omega, rfl, rfl⟩
  case round =>
    obtain ⟨k, hk, rfl, rfl⟩ := hrel
    by_cases hlt : k < n
    · have hcell := hc k hlt
      have HS := Lib.hid (fold_snoc pickLeast x zs k (by rw [HN.out]; exact hlt))
      generalize hz : zs.getD k 0 = z at *
      generalize hm : (zs.take k).foldl pickLeast x = m at *
      clear hz hc hm
      by_cases h1 : z < m
      · go_wp2
        go_round
        case rel => exact ⟨k + 1, by omega, by go_num, by rw [HS.out, pickLeast, if_pos h1]⟩
        case measure => simp [intOf]; omega
      · go_wp2
        go_round
        case rel => exact ⟨k + 1, by omega, by go_num, by rw [HS.out, pickLeast, if_neg h1]⟩
        case measure => simp [intOf]; omega
    · have HT := Lib.hid (show (zs.take k).foldl pickLeast x = zs.foldl pickLeast x by rw [List.take_of_length_le (by have := HN.out; omega)])
      clear hc
      generalize hm : (zs.take k).foldl pickLeast x = m at *
      clear hm
      go_wp2
      go_ret
      exact ⟨ret_i64 HT.out, rfl⟩
theorem greatest_any (x : Int) (zs : List Int) (b off n cap : Nat) (w : World) (hn : zs.length = n) (hbig : n ≤ 9223372036854775807)
    (hc : ∀ j, j < n → w.cell? ⟨b, off + j, none⟩ = some (.int .i64 (zs.getD j 0))) :
    Calls Tryz.prog 133 #[.int .i64 x, .slice (some ⟨b, off, none⟩) n cap] w fun e w' => e = .returned (.int .i64 (zs.foldl pickMost x)) ∧ w = w' := by
  have HN := Lib.hid hn
  clear hn
  go_enter Tryz.func133, Tryz.ntmps133
  go_wp2
  go_loop [0, 9] (fun a i => ∃ k : Nat, k ≤ n ∧ i = .int .i64 k ∧ a = .int .i64 ((zs.take k).foldl pickMost x)) (fun _ i => n - (intOf i).toNat)
  case atStart => exact ⟨0, by omega, rfl, rfl⟩
  case round =>
    obtain ⟨k, hk, rfl, rfl⟩ := hrel
    by_cases hlt : k < n
    · have hcell := hc k hlt
      have HS := Lib.hid (fold_snoc pickMost x zs k (by rw [HN.out]; exact hlt))
      generalize hz : zs.getD k 0 = z at *
      generalize hm : (zs.take k).foldl pickMost x = m at *
      clear hz hc hm
      by_cases h1 : m < z
      · go_wp2
        go_round
        case rel => exact ⟨k + 1, by omega, by go_num, by rw [HS.out, pickMost, if_pos h1]⟩
        case measure => simp [intOf]; omega
      · go_wp2
        go_round
        case rel => exact ⟨k + 1, by omega, by go_num, by rw [HS.out, pickMost, if_neg h1]⟩
        case measure => simp [intOf]; omega
    · have HT := Lib.hid (show (zs.take k).foldl pickMost x = zs.foldl pickMost x by rw [List.take_of_length_le (by have := HN.out; omega)])
      clear hc
      generalize hm : (zs.take k).foldl pickMost x = m at *
      clear hm
      go_wp2
      go_ret
      exact ⟨ret_i64 HT.out, rfl⟩
end Go.Proofs.YtpjopfhkgegahaaGreat


namespace Go.Proofs.YtpjopfhkgegahaaGreat
open Go.ChangeShapes Go.WideShapes Go.ChangeAt Go.RowKit

/-- The j-th number lies within the bounds, above the one before. -/
def riseAt (lo hi : Int) (zs : List Int) (j : Nat) : Bool := inB (zs.getD j 0) lo hi && (decide (j = 0) || decide (zs.getD (j - 1) 0 < zs.getD j 0))
def risesB (lo hi : Int) (zs : List Int) : Bool := (List.range zs.length).all (riseAt lo hi zs)
theorem rises_true {lo hi : Int} {zs : List Int} (h : ∀ j, j < zs.length → riseAt lo hi zs j = true) : risesB lo hi zs = true := by
  unfold risesB
  rw [List.all_eq_true]
  intro j hj
  exact h j (by simpa using hj)
theorem rises_false {lo hi : Int} {zs : List Int} {k : Nat} (hk : k < zs.length) (h : riseAt lo hi zs k = false) : risesB lo hi zs = false := by
  unfold risesB
  rw [List.all_eq_false]
  exact ⟨k, by simpa using hk, by simp [h]⟩
theorem rises_at {lo hi : Int} {zs : List Int} (h : risesB lo hi zs = true) (j : Nat) (hj : j < zs.length) : riseAt lo hi zs j = true := by
  unfold risesB at h
  rw [List.all_eq_true] at h
  exact h j (by simpa using hj)
theorem riseAt_in {lo hi : Int} {zs : List Int} {j : Nat} (h : inB (zs.getD j 0) lo hi = false) : riseAt lo hi zs j = false := by unfold riseAt; rw [h]; simp
theorem riseAt_zero {lo hi : Int} {zs : List Int} (h : inB (zs.getD 0 0) lo hi = true) : riseAt lo hi zs 0 = true := by unfold riseAt; rw [h]; simp
theorem riseAt_yes {lo hi : Int} {zs : List Int} {j : Nat} (h : inB (zs.getD j 0) lo hi = true) (h2 : zs.getD (j - 1) 0 < zs.getD j 0) : riseAt lo hi zs j = true := by simp only [riseAt, h, h2]; simp
theorem riseAt_no {lo hi : Int} {zs : List Int} {j : Nat} (h0 : 0 < j) (h2 : ¬ zs.getD (j - 1) 0 < zs.getD j 0) : riseAt lo hi zs j = false := by
  unfold riseAt
  rw [decide_eq_false h2, decide_eq_false (by omega)]; simp

theorem l00In_at (n lo hi : Int) (r : Bool) (h : inB n lo hi = r) (w : World) :
    Calls Tryz.prog 74 #[.int .i64 n, .int .i64 lo, .int .i64 hi] w fun e w' => e = .returned (.bool r) ∧ w' = w :=
  (l00In_any n lo hi w).mono fun _ _ k => ⟨by rw [k.1, h], k.2.symm⟩

set_option maxHeartbeats 1000000 in
theorem rises_any (lo hi : Int) (zs : List Int) (b off n cap : Nat) (w : World) (hn : zs.length = n) (hbig : n ≤ 9223372036854775807)
    (hc : ∀ j, j < n → w.cell? ⟨b, off + j, none⟩ = some (.int .i64 (zs.getD j 0))) :
    Calls Tryz.prog 107 #[.slice (some ⟨b, off, none⟩) n cap, .int .i64 lo, .int .i64 hi] w fun e w' => e = .returned (.bool (risesB lo hi zs)) ∧ Below w.heap.size w w' := by
  have HN := Lib.hid hn
  clear hn
  go_enter Tryz.func107, Tryz.ntmps107
  go_wp2
  go_loopw [7] (fun i wr => ∃ k m : Nat, k ≤ n ∧ i = .int .i64 k ∧ wr = w.drewN m ∧ ∀ j, j < k → riseAt lo hi zs j = true) (fun i _ => n - (intOf i).toNat)
  case atStart => exact ⟨0, 0, by omega, rfl, rfl, fun j hj => by omega⟩
  case round =>
    obtain ⟨k, m, hk, rfl, rfl, hall⟩ := hrel
    have HA := Lib.hid hall
    clear hall
    by_cases hlt : k < n
    · have hcell := hc k hlt
      have hlt1 : (k : Int) < (n : Int) := by omega
      rcases Bool.eq_false_or_eq_true (inB (zs.getD k 0) lo hi) with h1 | h1
      · by_cases hk0 : k = 0
        · have HB := Lib.hid (show riseAt lo hi zs k = true by unfold riseAt; rw [h1, decide_eq_true hk0]; rfl)
          have HK0 := Lib.hid hk0
          have hg0 : decide (0 < k) = false := decide_eq_false (by omega)
          generalize hz : zs.getD k 0 = z at *
          clear hz hc hk0
          have H1 := Lib.hid h1
          clear h1
          go_wp2
          go_quiet ((go_at_call 74; exact (l00In_any _ _ _ _).mono (fun _ _ h => ⟨by rw [h.1, H1.out], _, h.2.symm⟩)))
          go_wp2
          go_roundw
          case rel => exact ⟨k + 1, _, by omega, by go_num, rfl, fun j hj => by
            obtain rfl : j = k := by have := HK0.out; omega
            exact HB.out⟩
          case measure => simp [intOf]; omega
        · have hcell1 := hc (k - 1) (by omega)
          have hk1 : 0 < k := by omega
          obtain ⟨q, rfl⟩ : ∃ q, k = q + 1 := ⟨k - 1, by omega⟩
          rw [Nat.add_sub_cancel] at hcell1
          have hg : (0 : Int) < ((q + 1 : Nat) : Int) := by omega
          have hs : (((q + 1 : Nat) : Int) - 1) = (q : Int) := by omega
          have hq0 : (0 : Int) ≤ (q : Int) := by omega
          have hq1 : (q : Int) < (n : Int) := by omega
          by_cases h2 : zs.getD q 0 < zs.getD (q + 1) 0
          · have HB := Lib.hid (riseAt_yes (j := q + 1) h1 (by rw [Nat.add_sub_cancel]; exact h2))
            generalize hz : zs.getD (q + 1) 0 = z at *
            generalize hy : zs.getD q 0 = y at *
            clear hz hy hc
            have H1 := Lib.hid h1
            have h3 : ¬ z ≤ y := by omega
            clear h1 h2
            go_wp2
            go_quiet ((go_at_call 74; exact (l00In_any _ _ _ _).mono (fun _ _ h => ⟨by rw [h.1, H1.out], _, h.2.symm⟩)))
            go_wp2
            go_roundw
            case rel => exact ⟨q + 2, _, by omega, by go_num, rfl, fun j hj => by
              by_cases e : j = q + 1
              · subst e; exact HB.out
              · exact HA.out j (by omega)⟩
            case measure => simp [intOf]; omega
          · have HB := Lib.hid (rises_false (lo := lo) (hi := hi) (by rw [HN.out]; exact hlt) (riseAt_no (j := q + 1) hk1 (by rw [Nat.add_sub_cancel]; exact h2)))
            generalize hz : zs.getD (q + 1) 0 = z at *
            generalize hy : zs.getD q 0 = y at *
            clear hz hy hc
            have H1 := Lib.hid h1
            have h3 : z ≤ y := by omega
            clear h1 h2
            go_wp2
            go_quiet ((go_at_call 74; exact (l00In_any _ _ _ _).mono (fun _ _ h => ⟨by rw [h.1, H1.out], _, h.2.symm⟩)))
            go_wp2
            go_ret
            exact ⟨ret_bool HB.out.symm, by rw [World.drewN_drewN]; exact below_drewN _ _⟩
      · have HB := Lib.hid (rises_false (lo := lo) (hi := hi) (by rw [HN.out]; exact hlt) (riseAt_in h1))
        generalize hz : zs.getD k 0 = z at *
        clear hz hc
        have H1 := Lib.hid h1
        clear h1
        go_wp2
        go_quiet ((go_at_call 74; exact (l00In_any _ _ _ _).mono (fun _ _ h => ⟨by rw [h.1, H1.out], _, h.2.symm⟩)))
        go_wp2
        go_ret
        exact ⟨ret_bool HB.out.symm, by rw [World.drewN_drewN]; exact below_drewN _ _⟩
    · have HB := Lib.hid (rises_true (lo := lo) (hi := hi) (zs := zs) (fun j hj => HA.out j (by have := HN.out; omega)))
      clear hc
      go_wp2
      go_ret
      exact ⟨ret_bool HB.out.symm, below_drewN _ _⟩
end Go.Proofs.YtpjopfhkgegahaaGreat


namespace Go.Proofs.YtpjopfhkgegahaaGreat
open Go.ChangeShapes Go.WideShapes Go.ChangeAt Go.RowKit

theorem infoI64 : (Tryz.prog.info? 2).map (fun i => (i.zero, i.size, i.bytes)) = some (some (.int .i64 0), 1, 8) := by kernel_rfl
def i64s (zs : List Int) : List Value := zs.map (Value.int .i64)
theorem i64s_get (zs : List Int) (j : Nat) (h : j < zs.length) : (i64s zs)[j]? = some (.int .i64 (zs.getD j 0)) := by simp [i64s, List.getD, h]

/-- The slice v reads as zs. -/
def IntsAt (w : World) (v : Value) (zs : List Int) : Prop :=
  zs.length ≤ 1048576 ∧ ((∃ a c, v = .slice a 0 c ∧ zs = []) ∨ ∃ b off cap, v = .slice (some ⟨b, off, none⟩) zs.length cap ∧ b < w.heap.size ∧ ∀ j, j < zs.length → w.cell? ⟨b, off + j, none⟩ = some (.int .i64 (zs.getD j 0)))
/-- .. in a block of its own, from B on, that may be written. -/
def OwnInts (w : World) (B : Nat) (v : Value) (zs : List Int) : Prop := ∃ g cap, v = .slice (some ⟨g, 0, none⟩) zs.length cap ∧ B ≤ g ∧ g < w.heap.size ∧ w.ownsRow B 2 1 v zs.length (i64s zs)

theorem ints_kept {w w' : World} {v : Value} {zs : List Int} (hb : Below w.heap.size w w') (h : IntsAt w v zs) : IntsAt w' v zs := by
  obtain ⟨hl, h | ⟨b, off, cap, rfl, hlt, hc⟩⟩ := h
  · exact ⟨hl, .inl h⟩
  · exact ⟨hl, .inr ⟨b, off, cap, rfl, by have := hb.size; omega, fun j hj => by rw [hb.cell (p := ⟨b, off + j, none⟩) hlt]; exact hc j hj⟩⟩
theorem own_ints {w : World} {B : Nat} {v : Value} {zs : List Int} (hl : zs.length ≤ 1048576) (h : OwnInts w B v zs) : IntsAt w v zs := by
  obtain ⟨g, cap, rfl, _, hg, hown⟩ := h
  refine ⟨hl, .inr ⟨g, 0, cap, rfl, hg, fun j hj => ?_⟩⟩
  rw [Nat.zero_add, hown.cellAt j (by omega)]
  exact i64s_get zs j hj
theorem own_kept {w w' : World} {B : Nat} {v : Value} {zs : List Int} (hb : Below w.heap.size w w') (h : OwnInts w B v zs) : OwnInts w' B v zs := by
  obtain ⟨g, cap, rfl, h1, h2, hown⟩ := h
  have hs := hb.size
  exact ⟨g, cap, rfl, h1, by omega, hown.kept (row := none) ⟨hb.os, hb.tape, hb.output, hb.size, fun k hk _ => hb.block k hk⟩ (.inr (by simp [Value.ownBlock]))⟩

/-- What the copy holds after k rounds. -/
def copied (zs : List Int) (k : Nat) : List Int := zs.take k ++ List.replicate (zs.length - k) 0
theorem copied_len (zs : List Int) (k : Nat) (h : k ≤ zs.length) : (copied zs k).length = zs.length := by simp [copied]; omega
theorem copied_next (zs : List Int) (k : Nat) (h : k < zs.length) : (i64s (copied zs k)).set k (.int .i64 (zs.getD k 0)) = i64s (copied zs (k + 1)) := by
  unfold copied i64s
  rw [show zs.length - k = zs.length - (k + 1) + 1 from by omega, List.replicate_succ, List.map_append, List.map_cons, List.set_append_right _ _ (by simp; omega), List.length_map, List.length_take,
    Nat.min_eq_left (by omega), Nat.sub_self, List.set_cons_zero, List.take_succ_eq_append_getElem h, List.map_append, List.map_append]
  simp [List.getD, h]
theorem made_ints (n : Nat) : (madeCells (Value.int .i64 0).cells (n * 1)).toList = i64s (List.replicate n 0) := by
  unfold madeCells i64s
  rw [List.map_replicate, Nat.mul_one]
  apply List.ext_getElem?
  intro j
  by_cases h : j < n
  · simp [h, Value.cells, Nat.mod_one]
  · simp [h]

set_option maxHeartbeats 1000000 in
set_option maxRecDepth 100000 in
theorem toInts_some (zs : List Int) (b off cap : Nat) (w : World) (hl : zs.length ≤ 1048576) (hlt : b < w.heap.size) (hc : ∀ j, j < zs.length → w.cell? ⟨b, off + j, none⟩ = some (.int .i64 (zs.getD j 0))) (n : Nat) (hn : Hid (zs.length = n)) :
    Calls Tryz.prog 25 #[.slice (some ⟨b, off, none⟩) n cap] w fun e w' => ∃ g, e = .returned (.slice (some ⟨g, 0, none⟩) n n) ∧ w.heap.size ≤ g ∧ g < w'.heap.size ∧ w'.ownsRow w.heap.size 2 1 (.slice (some ⟨g, 0, none⟩) n n) n (i64s zs) ∧ Below w.heap.size w w' := by
  obtain ⟨i0, hi, hz0, hz1, hz2⟩ := info_parts infoI64
  have hn1 : n ≤ 1048576 := by rw [← hn.out]; exact hl
  have HC := Lib.hid hc
  clear hc hl
  go_enter Tryz.func25, Tryz.ntmps25
  go_wp2_with (at_make; refine wpList_make_full _ rfl _ _ 22 rfl w.heap.size 2 i0 (.int .i64 0) 1 Tryz.underlying22 hi hz0 hz1 .i64 .i64 _ _ n rfl rfl rfl rfl (by rw [hz2]; omega) (by unfold maxLen; omega) (Nat.le_refl _) ?_; intro w0 hown hgrow)
  have HB0 := Lib.hid ((Below.refl w.heap.size w).grown hgrow (Nat.le_refl _) (fun k hk => by cases hk))
  rw [made_ints] at hown
  have HO0 := Lib.hid (show w0.ownsRow w.heap.size 2 1 (.slice (some ⟨w.heap.size, 0, none⟩) n n) n (i64s (copied zs 0)) by
    unfold copied; rw [hn.out, Nat.sub_zero, List.take_zero, List.nil_append]; exact hown)
  clear hgrow hown
  go_wp2
  go_loopw [4] (fun i wr => ∃ k : Nat, k ≤ n ∧ i = .int .i64 k ∧ wr.ownsRow w.heap.size 2 1 (.slice (some ⟨w.heap.size, 0, none⟩) n n) n (i64s (copied zs k)) ∧ Below w.heap.size w wr) (fun i _ => n - (intOf i).toNat)
  case atStart => exact ⟨0, by omega, rfl, HO0.out, HB0.out⟩
  case round =>
    obtain ⟨k, hk, rfl, hown, hbw⟩ := hrel
    by_cases hlt2 : k < n
    · have hcell : wr.cell? ⟨b, off + k, none⟩ = some (.int .i64 (zs.getD k 0)) := by rw [hbw.cell (p := ⟨b, off + k, none⟩) hlt]; exact HC.out k (by rw [hn.out]; exact hlt2)
      have hf := hown.frozenAt k
      have hat : wr.cell? ⟨w.heap.size, k, none⟩ = (i64s (copied zs k))[k]? := hown.cellAt k (by omega)
      rw [i64s_get _ _ (by rw [copied_len _ _ (by rw [hn.out]; omega), hn.out]; exact hlt2)] at hat
      have HS := Lib.hid (hown.stored k (.int .i64 (zs.getD k 0)))
      have HN := Lib.hid (copied_next zs k (by rw [hn.out]; exact hlt2))
      have HB := Lib.hid hbw
      clear hown hbw
      generalize (copied zs k).getD k 0 = old at *
      generalize zs.getD k 0 = z at *
      go_wp2
      go_roundw
      case rel => exact ⟨k + 1, by omega, by go_num, by rw [← HN.out]; exact HS.out.1, HB.out.setCell (by exact Nat.le_refl _) _⟩
      case measure => simp [intOf]; omega
    · obtain rfl : k = n := by omega
      have HO := Lib.hid hown
      have HB := Lib.hid hbw
      clear hown hbw
      have hc2 : copied zs k = zs := by unfold copied; rw [hn.out, Nat.sub_self]; rw [List.take_of_length_le (by rw [hn.out]; exact Nat.le_refl _)]; simp
      rw [hc2] at HO
      clear hc2
      go_wp2
      go_ret
      exact ⟨w.heap.size, rfl, Nat.le_refl _, (HO.out.lt _ rfl).2, HO.out, HB.out⟩

set_option maxRecDepth 100000 in
theorem toInts_none (a : Option Addr) (c : Nat) (w : World) :
    Calls Tryz.prog 25 #[.slice a 0 c] w fun e w' => ∃ g, e = .returned (.slice (some ⟨g, 0, none⟩) 0 0) ∧ w.heap.size ≤ g ∧ g < w'.heap.size ∧ w'.ownsRow w.heap.size 2 1 (.slice (some ⟨g, 0, none⟩) 0 0) 0 (i64s []) ∧ Below w.heap.size w w' := by
  obtain ⟨i0, hi, hz0, hz1, hz2⟩ := info_parts infoI64
  go_enter Tryz.func25, Tryz.ntmps25
  go_wp2_with (at_make; refine wpList_make_full _ rfl _ _ 22 rfl w.heap.size 2 i0 (.int .i64 0) 1 Tryz.underlying22 hi hz0 hz1 .i64 .i64 _ _ 0 rfl rfl rfl rfl (by omega) (by unfold maxLen; omega) (Nat.le_refl _) ?_; intro w0 hown hgrow)
  have HB0 := Lib.hid ((Below.refl w.heap.size w).grown hgrow (Nat.le_refl _) (fun k hk => by cases hk))
  rw [made_ints] at hown
  have HO0 := Lib.hid hown
  clear hgrow hown
  go_wp2
  refine wp_loop_rounds 1 ?_
  rw [rounds_succ]
  go_wp2
  go_ret
  exact ⟨w.heap.size, rfl, Nat.le_refl _, (HO0.out.lt _ rfl).2, HO0.out, HB0.out⟩

def CopyPost (w : World) (zs : List Int) (e : Ending) (w' : World) : Prop := ∃ v, e = .returned v ∧ OwnInts w' w.heap.size v zs ∧ Below w.heap.size w w'
theorem toInts_any (zs : List Int) (v : Value) (w : World) (h : IntsAt w v zs) : Calls Tryz.prog 25 #[v] w (CopyPost w zs) := by
  obtain ⟨hl, ⟨a, c, rfl, rfl⟩ | ⟨b, off, cap, rfl, hlt, hc⟩⟩ := h
  · refine (toInts_none a c w).mono ?_
    rintro e w' ⟨g, rfl, h1, h2, h3, h4⟩
    exact ⟨_, rfl, ⟨g, 0, rfl, h1, h2, h3⟩, h4⟩
  · refine (toInts_some zs b off cap w hl hlt hc _ rfl).mono ?_
    rintro e w' ⟨g, rfl, h1, h2, h3, h4⟩
    exact ⟨_, rfl, ⟨g, _, rfl, h1, h2, h3⟩, h4⟩
set_option maxHeartbeats 1000000 in
theorem eqInts_some (zs : List Int) (b o c b2 o2 c2 : Nat) (w : World) (n : Nat) (hn1 : n ≤ 1048576)
    (h1 : ∀ j, j < n → w.cell? ⟨b, o + j, none⟩ = some (.int .i64 (zs.getD j 0))) (h2 : ∀ j, j < n → w.cell? ⟨b2, o2 + j, none⟩ = some (.int .i64 (zs.getD j 0))) :
    Calls Tryz.prog 33 #[.slice (some ⟨b, o, none⟩) n c, .slice (some ⟨b2, o2, none⟩) n c2] w fun e w' => e = .returned (.bool true) ∧ Below w.heap.size w w' := by
  have H1 := Lib.hid h1
  have H2 := Lib.hid h2
  clear h1 h2
  have hne : ((n : Int) != n) = false := by simp
  go_enter Tryz.func33, Tryz.ntmps33
  go_wp2
  go_loopw [5] (fun i wr => ∃ k m : Nat, k ≤ n ∧ i = .int .i64 k ∧ wr = w.drewN m) (fun i _ => n - (intOf i).toNat)
  case atStart => exact ⟨0, 0, by omega, rfl, rfl⟩
  case round =>
    obtain ⟨k, m, hk, rfl, rfl⟩ := hrel
    by_cases hlt : k < n
    · have hc1 := H1.out k hlt
      have hc2 := H2.out k hlt
      have hz : (zs.getD k 0 != zs.getD k 0) = false := by simp
      generalize zs.getD k 0 = z at *
      have hlt1 : (k : Int) < (n : Int) := by omega
      go_wp2
      go_quiet (fail)
      go_wp2
      go_roundw
      case rel => exact ⟨k + 1, _, by omega, by go_num, rfl⟩
      case measure => simp [intOf]; omega
    · go_wp2
      go_ret
      exact ⟨rfl, below_drewN _ _⟩
theorem eqInts_zero (a a2 : Option Addr) (c c2 : Nat) (w : World) :
    Calls Tryz.prog 33 #[.slice a 0 c, .slice a2 0 c2] w fun e w' => e = .returned (.bool true) ∧ Below w.heap.size w w' := by
  go_enter Tryz.func33, Tryz.ntmps33
  go_wp2
  refine wp_loop_rounds 1 ?_
  rw [rounds_succ]
  go_wp2
  go_ret
  exact ⟨rfl, Below.refl _ _⟩
theorem own_cells {w : World} {B g cap n : Nat} {zs : List Int} (hn : zs.length = n) (hown : w.ownsRow B 2 1 (.slice (some ⟨g, 0, none⟩) n cap) n (i64s zs)) : ∀ j, j < n → w.cell? ⟨g, 0 + j, none⟩ = some (.int .i64 (zs.getD j 0)) := by
  intro j hj
  rw [Nat.zero_add, hown.cellAt j (by omega)]
  exact i64s_get zs j (by omega)
theorem eqInts_own (zs : List Int) (hl : zs.length ≤ 1048576) (B B2 : Nat) (v v2 : Value) (w : World) (h : OwnInts w B v zs) (h2 : OwnInts w B2 v2 zs) :
    Calls Tryz.prog 33 #[v, v2] w fun e w' => e = .returned (.bool true) ∧ Below w.heap.size w w' := by
  obtain ⟨g, cap, rfl, _, _, hown⟩ := h
  obtain ⟨g2, cap2, rfl, _, _, hown2⟩ := h2
  exact eqInts_some zs g 0 cap g2 0 cap2 w _ hl (own_cells rfl hown) (own_cells rfl hown2)

section
variable {H : Type} {enc : TypeId × Value → H}
/-- An argument of type []int64 as a list of numbers. -/
theorem ints_arg {W : World} {fuel : Nat} {a : Option Addr} {len cap : Nat} {d : DataW H} {p : List MemPlace} (hf : DataW.trod enc Tryz.prog W 0 (fun _ => true) true fuel 22 (Value.slice a len cap).cells.toList = some (d, p))
    (hlt : ∀ x ∈ p, x.block < W.heap.size) : len ≤ 9223372036854775807 ∧ (len ≤ 1048576 → ∃ zs : List Int, zs.length = len ∧ IntsAt W (.slice a len cap) zs ∧ ∀ z ∈ zs, (Lit.int .i64 z).wf = true) := by
  have hc : Tryz.prog.cellsOf 2 = 1 := by kernel_rfl
  rcases open_ints Tryz.underlying22 Tryz.underlying2 hc hf with ⟨hcs, hx⟩ | ⟨a', len', cap', zs, hcs, _, hl, hm, hz, hx, hcell, hwz⟩
  · simp [Value.cells] at hcs
    obtain ⟨rfl, rfl, rfl⟩ := hcs
    exact ⟨by omega, fun _ => ⟨[], rfl, ⟨by simp, .inl ⟨_, _, rfl, rfl⟩⟩, by simp⟩⟩
  · simp [Value.cells] at hcs
    obtain ⟨rfl, rfl, rfl⟩ := hcs
    simp only [Prod.mk.injEq] at hx
    obtain ⟨rfl, rfl⟩ := hx
    simp only [if_true] at hz
    unfold maxLen at hm
    refine ⟨by omega, fun hs => ⟨zs.take len, by rw [List.length_take]; omega, ⟨by rw [List.length_take]; omega, ?_⟩, fun z hz' => hwz z (List.mem_of_mem_take hz')⟩⟩
    by_cases hl0 : len = 0
    · subst hl0
      exact .inl ⟨_, _, rfl, by simp⟩
    · obtain ⟨b, off, spot⟩ := a'
      have hspot : spot = none := by simpa [Addr.add] using World.cell?_spot (hcell 0 (by omega))
      subst hspot
      have hbW : b < W.heap.size := hlt (.cell b off) (MemPlace.mem_row.2 ⟨0, by omega, by simp⟩)
      have hlen : (zs.take len).length = len := by rw [List.length_take]; omega
      refine .inr ⟨b, off, cap, by rw [hlen], hbW, fun j hj => ?_⟩
      rw [hlen] at hj
      rw [← add_plain, hcell j (by omega), List.getD_eq_getElem?_getD, List.getD_eq_getElem?_getD, List.getElem?_take, if_pos hj]
end
end Go.Proofs.YtpjopfhkgegahaaGreat


namespace Go.Proofs.YtpjopfhkgegahaaGreat
open Go.ChangeShapes Go.WideShapes Go.ChangeAt Go.RowKit Go.Deep

/-- The slice v reads as the rows ws. -/
def RowsAt (w : World) (v : Value) (ws : List (List Int)) : Prop :=
  ws.length ≤ 1048576 ∧ ((∃ a c, v = .slice a 0 c ∧ ws = []) ∨ ∃ b off cap, v = .slice (some ⟨b, off, none⟩) ws.length cap ∧ b < w.heap.size ∧ ∀ j, j < ws.length → ∃ u, w.cell? ⟨b, off + j, none⟩ = some u ∧ IntsAt w u (ws.getD j []))
/-- The slice v has n elements, slices with the lengths L. -/
def SzAt (w : World) (v : Value) (n : Nat) (L : Nat → Nat) : Prop :=
  (∃ a c, v = .slice a 0 c ∧ n = 0) ∨ ∃ b off c, v = .slice (some ⟨b, off, none⟩) n c ∧ b < w.heap.size ∧ ∀ j, j < n → ∃ x y, w.cell? ⟨b, off + j, none⟩ = some (.slice x (L j) y) ∧ L j ≤ 9223372036854775807
def sumL (L : Nat → Nat) : Nat → Nat
  | 0 => 0
  | n + 1 => sumL L n + L n
theorem sumL_le (L : Nat → Nat) (n j : Nat) (h : j < n) : L j ≤ sumL L n := by
  induction n with
  | zero => omega
  | succ n ih =>
    unfold sumL
    by_cases e : j = n
    · subst e; omega
    · have := ih (by omega); omega
theorem sumL_mono (L : Nat → Nat) {m n : Nat} (h : m ≤ n) : sumL L m ≤ sumL L n := by
  induction n with
  | zero => obtain rfl : m = 0 := by omega
            exact Nat.le_refl _
  | succ n ih =>
    by_cases e : m = n + 1
    · subst e; exact Nat.le_refl _
    · have := ih (by omega); show sumL L m ≤ sumL L n + L n; omega
theorem mrows_kept {w w' : World} {v : Value} {ws : List (List Int)} (hb : Below w.heap.size w w') (h : RowsAt w v ws) : RowsAt w' v ws := by
  obtain ⟨hl, h | ⟨b, off, cap, rfl, hlt, hc⟩⟩ := h
  · exact ⟨hl, .inl h⟩
  · refine ⟨hl, .inr ⟨b, off, cap, rfl, by have := hb.size; omega, fun j hj => ?_⟩⟩
    obtain ⟨u, h1, h2⟩ := hc j hj
    exact ⟨u, by rw [hb.cell (p := ⟨b, off + j, none⟩) hlt]; exact h1, ints_kept hb h2⟩
theorem sz_kept {w w' : World} {v : Value} {n : Nat} {L : Nat → Nat} (hb : Below w.heap.size w w') (h : SzAt w v n L) : SzAt w' v n L := by
  rcases h with h | ⟨b, off, c, rfl, hlt, hc⟩
  · exact .inl h
  · refine .inr ⟨b, off, c, rfl, by have := hb.size; omega, fun j hj => ?_⟩
    obtain ⟨x, y, h1, h2⟩ := hc j hj
    exact ⟨x, y, by rw [hb.cell (p := ⟨b, off + j, none⟩) hlt]; exact h1, h2⟩
theorem ints_form {w : World} {v : Value} {zs : List Int} (h : IntsAt w v zs) : ∃ a c, v = .slice a zs.length c := by
  obtain ⟨_, ⟨a, c, rfl, rfl⟩ | ⟨b, off, cap, rfl, _⟩⟩ := h
  · exact ⟨_, _, rfl⟩
  · exact ⟨_, _, rfl⟩
theorem mrows_form {w : World} {v : Value} {ws : List (List Int)} (h : RowsAt w v ws) : ∃ a c, v = .slice a ws.length c := by
  obtain ⟨_, ⟨a, c, rfl, rfl⟩ | ⟨b, off, cap, rfl, _⟩⟩ := h
  · exact ⟨_, _, rfl⟩
  · exact ⟨_, _, rfl⟩
theorem sz_form {w : World} {v : Value} {n : Nat} {L : Nat → Nat} (h : SzAt w v n L) : ∃ a c, v = .slice a n c := by
  rcases h with ⟨a, c, rfl, rfl⟩ | ⟨b, off, c, rfl, _⟩
  · exact ⟨_, _, rfl⟩
  · exact ⟨_, _, rfl⟩

section
variable {H : Type} {enc : TypeId × Value → H}
set_option maxRecDepth 20000 in
theorem rows_arg {W : World} {fuel : Nat} {a : Option Addr} {len cap : Nat} {d : DataW H} {p : List MemPlace} (hf : DataW.trod enc Tryz.prog W 0 (fun _ => true) true fuel 23 (Value.slice a len cap).cells.toList = some (d, p))
    (hlt : ∀ x ∈ p, x.block < W.heap.size) : len ≤ 9223372036854775807 ∧ ∃ L : Nat → Nat, SzAt W (.slice a len cap) len L ∧
      ((len ≤ 1048576 ∧ ∀ j, j < len → L j ≤ 1048576) → ∃ ws : List (List Int), ws.length = len ∧ RowsAt W (.slice a len cap) ws ∧ ∀ j, j < len → (ws.getD j []).length = L j) := by
  have c1 : Tryz.prog.cellsOf 22 = 1 := by kernel_rfl
  have c2 : Tryz.prog.cellsOf 2 = 1 := by kernel_rfl
  rcases open_int_rows Tryz.underlying23 Tryz.underlying22 Tryz.underlying2 c1 c2 hf with ⟨hcs, hx⟩ | ⟨a', len', cap', A, L, C, Z, hcs, hb, hl, hm, hx, hel⟩
  · simp [Value.cells] at hcs
    obtain ⟨rfl, rfl, rfl⟩ := hcs
    exact ⟨by omega, fun _ => 0, .inl ⟨_, _, rfl, rfl⟩, fun _ => ⟨[], rfl, ⟨by simp, .inl ⟨_, _, rfl, rfl⟩⟩, fun j hj => by omega⟩⟩
  · simp [Value.cells] at hcs
    obtain ⟨rfl, rfl, rfl⟩ := hcs
    simp only [Prod.mk.injEq] at hx
    obtain ⟨rfl, rfl⟩ := hx
    unfold maxLen at hm
    by_cases hl0 : len = 0
    · subst hl0
      exact ⟨by omega, fun _ => 0, .inl ⟨_, _, rfl, rfl⟩, fun _ => ⟨[], rfl, ⟨by simp, .inl ⟨_, _, rfl, rfl⟩⟩, fun j hj => by omega⟩⟩
    · obtain ⟨b, off, spot⟩ := a'
      have hspot : spot = none := by simpa [Addr.add] using World.cell?_spot (hel 0 (by omega)).1
      subst hspot
      have hbW : b < W.heap.size := hlt (.cell b off) (List.mem_append.2 (.inl (MemPlace.mem_row.2 ⟨0, by omega, by simp⟩)))
      refine ⟨by omega, L, .inr ⟨b, off, cap, rfl, hbW, fun j hj => ?_⟩, fun hs => ?_⟩
      · obtain ⟨h1, h2, h3, -⟩ := hel j (by omega)
        unfold maxLen at h3
        exact ⟨_, _, by rw [← add_plain]; exact h1, by omega⟩
      · refine ⟨(List.range len).map fun r => (Z r).take (L r), by simp, ⟨by simp; omega, .inr ⟨b, off, cap, by simp, hbW, fun j hj => ?_⟩⟩, fun j hj => ?_⟩
        · have hj' : j < len := by simpa using hj
          obtain ⟨h1, h2, h3, h4, h5, h6, h7⟩ := hel j (by omega)
          have hLj := hs.2 j hj'
          have hzl : ((Z j).take (L j)).length = L j := by rw [List.length_take]; omega
          have hg : ((List.range len).map fun r => (Z r).take (L r)).getD j [] = (Z j).take (L j) := by simp [List.getD, hj']
          rw [hg]
          refine ⟨_, by rw [← add_plain]; exact h1, by omega, ?_⟩
          by_cases hL0 : L j = 0
          · exact .inl ⟨_, _, by rw [hL0], by rw [hL0]; simp⟩
          · cases hA : A j with
            | none => have := h6 hA; omega
            | some a2 =>
              obtain ⟨h8, h9⟩ := h7 a2 hA
              obtain ⟨b2, off2, spot2⟩ := a2
              have hspot2 : spot2 = none := by simpa [Addr.add] using World.cell?_spot (h9 0 (by omega))
              subst hspot2
              have hb2 : b2 < W.heap.size := hlt (.cell b2 off2) (List.mem_append.2 (.inr (List.mem_flatMap.2 ⟨j, List.mem_range.2 (by omega), by
                rw [hA]; exact MemPlace.mem_row.2 ⟨0, by omega, by simp⟩⟩)))
              refine .inr ⟨b2, off2, C j, by rw [hzl], hb2, fun i hi => ?_⟩
              rw [hzl] at hi
              rw [← add_plain, h9 i (by omega), List.getD_eq_getElem?_getD, List.getD_eq_getElem?_getD, List.getElem?_take, if_pos hi]
        · obtain ⟨h1, h2, h3, h4, -⟩ := hel j (by omega)
          simp [List.getD, hj]
          omega
end
/-- Rows in blocks of the call's own, one for each. -/
structure RowsOwn (w : World) (B : Nat) (us : List Value) (ws : List (List Int)) : Prop where
  len : us.length = ws.length
  each : ∀ j, j < ws.length → OwnInts w B (us.getD j undef) (ws.getD j [])
  apart : ∀ i j, i < j → j < ws.length → (us.getD i undef).ownBlock ≠ (us.getD j undef).ownBlock
/-- .. and the slice of them in one of its own. -/
def OwnRows (w : World) (B : Nat) (v : Value) (ws : List (List Int)) : Prop := ∃ g cap us, v = .slice (some ⟨g, 0, none⟩) ws.length cap ∧ B ≤ g ∧ g < w.heap.size ∧ w.ownsRow B 22 1 v ws.length us ∧ RowsOwn w B us ws ∧ ∀ j, j < ws.length → (us.getD j undef).ownBlock ≠ some g
theorem rowsOwn_kept {w w' : World} {B : Nat} {us : List Value} {ws : List (List Int)} (hb : Below w.heap.size w w') (h : RowsOwn w B us ws) : RowsOwn w' B us ws :=
  ⟨h.len, fun j hj => own_kept hb (h.each j hj), h.apart⟩
theorem row_keep1 {w w' : World} {B sz : Nat} {e : TypeId} {v : Value} {n : Nat} {xs : List Value} (hb : Below w.heap.size w w') (h : w.ownsRow B e sz v n xs) : w'.ownsRow B e sz v n xs :=
  h.kept (row := none) ⟨hb.os, hb.tape, hb.output, hb.size, fun k hk _ => hb.block k hk⟩ (by cases hv : v.ownBlock <;> simp)
theorem ownRows_kept {w w' : World} {B : Nat} {v : Value} {ws : List (List Int)} (hb : Below w.heap.size w w') (h : OwnRows w B v ws) : OwnRows w' B v ws := by
  obtain ⟨g, cap, us, rfl, h1, h2, h3, h4, h5⟩ := h
  have hs := hb.size
  exact ⟨g, cap, us, rfl, h1, by omega, row_keep1 hb h3, rowsOwn_kept hb h4, h5⟩
theorem ownRows_rows {w : World} {B : Nat} {v : Value} {ws : List (List Int)} (hl : ws.length ≤ 1048576) (hz : ∀ j, j < ws.length → (ws.getD j []).length ≤ 1048576) (h : OwnRows w B v ws) : RowsAt w v ws := by
  obtain ⟨g, cap, us, rfl, h1, h2, h3, h4, h5⟩ := h
  refine ⟨hl, .inr ⟨g, 0, cap, rfl, h2, fun j hj => ⟨us.getD j undef, ?_, own_ints (hz j hj) (h4.each j hj)⟩⟩⟩
  rw [Nat.zero_add, h3.cellAt j (by omega), List.getD_eq_getElem?_getD]
  have := h4.len
  rw [List.getElem?_eq_getElem (by omega)]
  rfl
end Go.Proofs.YtpjopfhkgegahaaGreat


namespace Go.Proofs.YtpjopfhkgegahaaGreat
open Go.ChangeShapes Go.WideShapes Go.ChangeAt Go.RowKit

/-- The byte at a place (0 past the end). -/
def byteAt (s : ByteArray) (j : Nat) : Int := ((s.data.toList.getD j 0).toNat : Int)
def okByte (c : Int) : Bool := inB c 97 122 || inB c 48 57
def NameP (s : ByteArray) : Prop := 0 < s.size ∧ s.size ≤ 10 ∧ inB (byteAt s 0) 97 122 = true ∧ ∀ j, j < s.size → okByte (byteAt s j) = true
instance (s : ByteArray) : Decidable (NameP s) := by unfold NameP; infer_instance
def nameB (s : ByteArray) : Bool := decide (NameP s)

theorem byteAt_get (s : ByteArray) (k : Nat) (h : k < s.size) : byteAt s k = (s[k].toNat : Int) := by
  unfold byteAt
  rw [List.getD_eq_getElem?_getD, List.getElem?_eq_getElem (by simpa using h)]
  rfl
theorem name_yes {s : ByteArray} (h : NameP s) : nameB s = true := decide_eq_true h
theorem name_no {s : ByteArray} (h : ¬ NameP s) : nameB s = false := decide_eq_false h

theorem empty_iff (s : ByteArray) (h : 0 < s.size) : s.toList.isEmpty = false := by
  rw [ByteArray.toList_eq, List.isEmpty_eq_false_iff]
  intro e
  have : s.data.toList.length = 0 := by rw [e]; rfl
  rw [Array.length_toList] at this
  have e2 : s.size = s.data.size := rfl
  omega
theorem empty_eq (s : ByteArray) (h : s.size = 0) : s = ByteArray.empty := by
  have : s.data = #[] := by apply Array.eq_empty_of_size_eq_zero; exact h
  cases s; simp_all

set_option maxHeartbeats 800000 in
theorem specName_any (s : ByteArray) (w : World) (hs : s.size ≤ maxLen) :
    Calls Tryz.prog 119 #[.string s] w fun e w' => e = .returned (.bool (nameB s)) ∧ w = w' := by
  unfold maxLen at hs
  by_cases h0 : s.size = 0
  · have HF := Lib.hid (name_no (s := s) (fun h => by have := h.1; omega))
    have he := empty_eq s h0
    subst he
    go_enter Tryz.func119, Tryz.ntmps119
    go_wp2
    go_ret
    exact ⟨ret_bool HF.out.symm, rfl⟩
  · have hpos : 0 < s.size := by omega
    have hne := empty_iff s hpos
    by_cases h10 : s.size ≤ 10
    · have HB := Lib.hid (byteAt_get s 0 hpos)
      by_cases hf : inB (s[0].toNat : Int) 97 122 = true
      · go_enter Tryz.func119, Tryz.ntmps119
        go_wp2_with (first | (go_at_call 134; refine (small_any _ _).mono ?_; rintro e w' ⟨rfl, rfl⟩))
        go_loop [3] (fun i => ∃ k : Nat, k ≤ s.size ∧ i = .int .i64 k ∧ ∀ j, j < k → okByte (byteAt s j) = true) (fun i => s.size - (intOf i).toNat)
        case atStart => exact ⟨0, by omega, rfl, fun j hj => by omega⟩
        case round =>
          obtain ⟨k, hk, rfl, hall⟩ := hrel
          have HA := Lib.hid hall
          have HF0 := Lib.hid hf
          clear hall hf
          by_cases hlt : k < s.size
          · have HK := Lib.hid (byteAt_get s k hlt)
            by_cases c1 : inB (s[k].toNat : Int) 97 122 = true
            · have HO := Lib.hid (show okByte (byteAt s k) = true by rw [HK.out]; unfold okByte; rw [c1]; rfl)
              go_wp2_with (first | (go_at_call 134; refine (small_any _ _).mono ?_; rintro e w' ⟨rfl, rfl⟩) | (go_at_call 135; refine (digit_any _ _).mono ?_; rintro e w' ⟨rfl, rfl⟩))
              go_round
              case rel => exact ⟨k + 1, by omega, by go_num, fun j hj => by
                by_cases e : j = k
                · subst e; exact HO.out
                · exact HA.out j (by omega)⟩
              case measure => simp [intOf]; omega
            · have c1' : inB (s[k].toNat : Int) 97 122 = false := by simpa using c1
              clear c1
              by_cases c2 : inB (s[k].toNat : Int) 48 57 = true
              · have HO := Lib.hid (show okByte (byteAt s k) = true by rw [HK.out]; unfold okByte; rw [c1', c2]; rfl)
                go_wp2_with (first | (go_at_call 134; refine (small_any _ _).mono ?_; rintro e w' ⟨rfl, rfl⟩) | (go_at_call 135; refine (digit_any _ _).mono ?_; rintro e w' ⟨rfl, rfl⟩))
                go_round
                case rel => exact ⟨k + 1, by omega, by go_num, fun j hj => by
                  by_cases e : j = k
                  · subst e; exact HO.out
                  · exact HA.out j (by omega)⟩
                case measure => simp [intOf]; omega
              · have c2' : inB (s[k].toNat : Int) 48 57 = false := by simpa using c2
                clear c2
                have HN := Lib.hid (name_no (s := s) (fun h => by
                  have g := h.2.2.2 k hlt
                  rw [HK.out] at g; unfold okByte at g; rw [c1', c2'] at g; cases g))
                go_wp2_with (first | (go_at_call 134; refine (small_any _ _).mono ?_; rintro e w' ⟨rfl, rfl⟩) | (go_at_call 135; refine (digit_any _ _).mono ?_; rintro e w' ⟨rfl, rfl⟩))
                go_ret
                exact ⟨ret_bool HN.out.symm, rfl⟩
          · have HN := Lib.hid (name_yes (s := s) ⟨hpos, h10, by rw [HB.out]; exact HF0.out, fun j hj => HA.out j (by omega)⟩)
            go_wp2
            go_ret
            exact ⟨ret_bool HN.out.symm, rfl⟩
      · have HN := Lib.hid (name_no (s := s) (fun h => hf (by rw [← HB.out]; exact h.2.2.1)))
        have hf' : inB (s[0].toNat : Int) 97 122 = false := by simpa using hf
        clear hf
        go_enter Tryz.func119, Tryz.ntmps119
        go_wp2_with (first | (go_at_call 134; refine (small_any _ _).mono ?_; rintro e w' ⟨rfl, rfl⟩))
        go_ret
        exact ⟨ret_bool HN.out.symm, rfl⟩
    · have HF := Lib.hid (name_no (s := s) (fun h => by have := h.2.1; omega))
      go_enter Tryz.func119, Tryz.ntmps119
      go_wp2
      go_ret
      exact ⟨ret_bool HF.out.symm, rfl⟩
end Go.Proofs.YtpjopfhkgegahaaGreat


namespace Go.Proofs.YtpjopfhkgegahaaGreat
open Go.ChangeShapes Go.WideShapes Go.ChangeAt Go.RowKit

set_option maxHeartbeats 1000000 in
theorem implIsName_any (s : ByteArray) (w : World) (hs : s.size ≤ maxLen) :
    Calls Tryz.prog 130 #[.string s] w fun e w' => e = .returned (.bool (nameB s)) ∧ Below w.heap.size w w' := by
  unfold maxLen at hs
  by_cases hlen : inB (s.size : Int) 1 10 = true
  · obtain ⟨l1, l2⟩ := inB_iff.1 hlen
    have hpos : 0 < s.size := by omega
    have HB := Lib.hid (byteAt_get s 0 hpos)
    by_cases hf : inB (s[0].toNat : Int) 97 122 = true
    · go_enter Tryz.func130, Tryz.ntmps130
      go_wp2_with fail
      refine (within_int _ _ [(s.size : Int)] _ 0 1 1 _ rfl (by omega) (cell_int _ _ _ _ rfl)).mono ?_
      rintro e w' ⟨rfl, rfl⟩
      rw [all_one]
      go_wp2_with fail
      refine (isLetter_any _ _).mono ?_
      rintro e w1 ⟨rfl, hb1⟩
      have HW := Lib.hid (below_of ((Below.refl w.heap.size w).alloc (Nat.le_refl _) _) hb1 (by simp))
      clear hb1
      go_wp2_with fail
      go_loopw [17] (fun i wr => ∃ k : Nat, k ≤ s.size ∧ i = .int .i64 k ∧ (∀ j, j < k → okByte (byteAt s j) = true) ∧ Below w.heap.size w wr) (fun i _ => s.size - (intOf i).toNat)
      case atStart => exact ⟨0, by omega, rfl, fun j hj => by omega, HW.out⟩
      case round =>
        obtain ⟨k, hk, rfl, hall, hbw⟩ := hrel
        have HA := Lib.hid hall
        have HF0 := Lib.hid hf
        have HBW := Lib.hid hbw
        clear hall hf hlen hbw
        by_cases hlt : k < s.size
        · have HK := Lib.hid (byteAt_get s k hlt)
          by_cases c1 : inB (s[k].toNat : Int) 97 122 = true
          · have HO := Lib.hid (show okByte (byteAt s k) = true by rw [HK.out]; unfold okByte; rw [c1]; rfl)
            go_wp2_with fail
            refine (isLetter_any _ _).mono ?_
            rintro e w2 ⟨rfl, hb2⟩
            have HB2 := Lib.hid (below_of HBW.out hb2 HBW.out.size)
            clear hb2
            go_wp2
            go_roundw
            case rel => exact ⟨k + 1, by omega, by go_num, fun j hj => by
              by_cases e : j = k
              · subst e; exact HO.out
              · exact HA.out j (by omega), HB2.out⟩
            case measure => simp [intOf]; omega
          · have c1' : inB (s[k].toNat : Int) 97 122 = false := by simpa using c1
            clear c1
            by_cases c2 : inB (s[k].toNat : Int) 48 57 = true
            · have HO := Lib.hid (show okByte (byteAt s k) = true by rw [HK.out]; unfold okByte; rw [c1', c2]; rfl)
              go_wp2_with fail
              refine (isLetter_any _ _).mono ?_
              rintro e w2 ⟨rfl, hb2⟩
              have HB2 := Lib.hid (below_of HBW.out hb2 HBW.out.size)
              clear hb2
              go_wp2_with fail
              refine (isDigit_any _ _).mono ?_
              rintro e w3 ⟨rfl, hb3⟩
              have HB3 := Lib.hid (below_of HB2.out hb3 HB2.out.size)
              clear hb3
              go_wp2
              go_roundw
              case rel => exact ⟨k + 1, by omega, by go_num, fun j hj => by
                by_cases e : j = k
                · subst e; exact HO.out
                · exact HA.out j (by omega), HB3.out⟩
              case measure => simp [intOf]; omega
            · have c2' : inB (s[k].toNat : Int) 48 57 = false := by simpa using c2
              clear c2
              have HN := Lib.hid (name_no (s := s) (fun h => by
                have g := h.2.2.2 k hlt
                rw [HK.out] at g; unfold okByte at g; rw [c1', c2'] at g; cases g))
              go_wp2_with fail
              refine (isLetter_any _ _).mono ?_
              rintro e w2 ⟨rfl, hb2⟩
              have HB2 := Lib.hid (below_of HBW.out hb2 HBW.out.size)
              clear hb2
              go_wp2_with fail
              refine (isDigit_any _ _).mono ?_
              rintro e w3 ⟨rfl, hb3⟩
              have HB3 := Lib.hid (below_of HB2.out hb3 HB2.out.size)
              clear hb3
              go_wp2
              go_ret
              exact ⟨ret_bool HN.out.symm, HB3.out⟩
        · have HN := Lib.hid (name_yes (s := s) ⟨hpos, by omega, by rw [HB.out]; exact HF0.out, fun j hj => HA.out j (by omega)⟩)
          go_wp2
          go_ret
          exact ⟨ret_bool HN.out.symm, HBW.out⟩
    · have HN := Lib.hid (name_no (s := s) (fun h => hf (by rw [← HB.out]; exact h.2.2.1)))
      have hf' : inB (s[0].toNat : Int) 97 122 = false := by simpa using hf
      clear hf
      go_enter Tryz.func130, Tryz.ntmps130
      go_wp2_with fail
      refine (within_int _ _ [(s.size : Int)] _ 0 1 1 _ rfl (by omega) (cell_int _ _ _ _ rfl)).mono ?_
      rintro e w' ⟨rfl, rfl⟩
      rw [all_one]
      go_wp2_with fail
      refine (isLetter_any _ _).mono ?_
      rintro e w1 ⟨rfl, hb1⟩
      have HW := Lib.hid (below_of ((Below.refl w.heap.size w).alloc (Nat.le_refl _) _) hb1 (by simp))
      clear hb1
      go_wp2
      go_ret
      exact ⟨ret_bool HN.out.symm, HW.out⟩
  · have HN := Lib.hid (name_no (s := s) (fun h => hlen (inB_iff.2 (by have := h.1; have := h.2.1; omega))))
    have hl' : inB (s.size : Int) 1 10 = false := by simpa using hlen
    clear hlen
    go_enter Tryz.func130, Tryz.ntmps130
    go_wp2_with fail
    refine (within_int _ _ [(s.size : Int)] _ 0 1 1 _ rfl (by omega) (cell_int _ _ _ _ rfl)).mono ?_
    rintro e w' ⟨rfl, rfl⟩
    rw [all_one]
    go_wp2
    go_ret
    exact ⟨ret_bool HN.out.symm, (Below.refl _ _).alloc (Nat.le_refl _) _⟩
end Go.Proofs.YtpjopfhkgegahaaGreat
