/- A melt by value: an argument opened; measured, copied, compared. -/
import Derived.Test.YtjicnfgpbbganaaDoorStrs
set_option linter.unusedVariables false
namespace Go.Proofs.YtjicnfgpbbganaaDoor
open Go.ChangeShapes Go.WideShapes Go.ChangeAt Go.RowKit Go.Deep

section
variable {H : Type} {enc : TypeId × Value → H}
set_option maxRecDepth 20000 in
/-- An argument of type Melt. -/
theorem melt_arg {W : World} {base : Nat} {v : Value} {d : DataW H} {p : List MemPlace} (hval : Value.okWide Tryd.prog W .any base 36 v) (h : DataW.Trod enc Tryd.prog W 0 (fun _ => true) true 36 v d p)
    (hlt : ∀ x ∈ p, x.block < W.heap.size) : ∃ (s : ByteArray) (a : Option Addr) (len cap : Nat) (z : Int), v = .agg #[.string s, .slice a len cap, .int .i64 z] ∧ (s.size ≤ 9223372036854775807 ∧ len ≤ 9223372036854775807 ∧ (Lit.int .i64 z).wf = true) ∧
      (len ≤ 1048576 → ∃ ss : List ByteArray, ss.length = len ∧ StAt W (.slice a len cap) ss ∧ SzSt ss) := by
  obtain ⟨v0, v1, v2, y0, y1, y2, n, rfl, rfl, rfl, h0, h1, h2⟩ := Joins.open_agg3 Tryd.underlying36 (by kernel_rfl) (by kernel_rfl) hval h
  obtain ⟨s, hs, rfl, hsz⟩ := DataW.trod_string Tryd.underlying9 h0
  obtain rfl : v0 = .string s := by simpa using hs
  obtain ⟨z, hz, -, wz⟩ := DataW.trod_int Tryd.underlying2 h2
  obtain rfl : v2 = .int .i64 z := by simpa using hz
  have hv : ∃ a len cap, v1 = .slice a len cap := by
    rcases open_slice Tryd.underlying34 h1 with ⟨hcs, _⟩ | ⟨a', len', cap', m, n, D, Pl, hcs, _⟩
    · exact ⟨_, _, _, by simpa using hcs⟩
    · exact ⟨_, _, _, by simpa using hcs⟩
  obtain ⟨a, len, cap, rfl⟩ := hv
  have hk := st_arg (a := a) (len := len) (cap := cap) (fuel := n) (d := y1.1) (p := y1.2) h1 (fun x hx => hlt x (by simp [hx]))
  unfold maxLen at hsz
  exact ⟨s, a, len, cap, z, rfl, ⟨by omega, hk.1, wz⟩, hk.2⟩
end
/-- What is left when a melt's text and its strings are taken off. -/
def leftM (a n q : Nat) (left : Int) : Int := if (a : Int) + n + q ≤ left then left - a - n - q else -1
theorem leftM_yes {a n q : Nat} {left : Int} (h : (a : Int) + n + q ≤ left) : leftM a n q left = left - a - n - q := by unfold leftM; rw [if_pos h]
theorem leftM_no {a n q : Nat} {left : Int} (h : ¬ (a : Int) + n + q ≤ left) : leftM a n q left = -1 := by unfold leftM; rw [if_neg h]
theorem st_alloc {w : World} {v : Value} {ss : List ByteArray} (o : Obj) (h : StAt w v ss) : StAt (w.alloc o) v ss := st_kept (below_alT w o) h
theorem szMelt_big (s : ByteArray) (a : Option Addr) (n c : Nat) (z left : Int) (w : World) (hs : s.size ≤ 9223372036854775807) (hn : n ≤ 9223372036854775807) (h0 : 0 ≤ left) (h1 : left ≤ 1048576) (hb : left < (s.size : Int) + n) :
    Calls Tryd.prog 18 #[.agg #[.string s, .slice a n c, .int .i64 z], .int .i64 left] w fun e w' => e = .returned (.int .i64 (-1)) ∧ Below w.heap.size w w' := by
  by_cases h : left - (s.size : Int) < 0
  · go_enter Tryd.func18, Tryd.ntmps18
    go_wp2
    go_ret
    exact ⟨rfl, below_alT _ _⟩
  · have HB0 := Lib.hid (below_alT w (.cells #[.string s, .slice a n c, .int .i64 z] 36))
    go_enter Tryd.func18, Tryd.ntmps18
    go_wp2_with fail
    refine (szSt_big a n c (left - s.size) _ hn (by omega) (by omega) (by omega)).mono ?_
    rintro e w1 ⟨rfl, hb1⟩
    have HB := Lib.hid (below_of HB0.out hb1 HB0.out.size)
    clear hb1
    go_wp2
    go_ret
    exact ⟨rfl, HB.out⟩
set_option maxHeartbeats 1000000 in
theorem szMelt_v (s : ByteArray) (v : Value) (ss : List ByteArray) (z left : Int) (w : World) (h : StAt w v ss) (hz : SzSt ss) (hs : s.size ≤ 9223372036854775807) (h0 : 0 ≤ left) (h1 : left ≤ 1048576) :
    Calls Tryd.prog 18 #[.agg #[.string s, v, .int .i64 z], .int .i64 left] w fun e w' => e = .returned (.int .i64 (leftM s.size ss.length (lenT ss ss.length) left)) ∧ Below w.heap.size w w' := by
  have HI := Lib.hid (st_alloc (.cells #[.string s, v, .int .i64 z] 36) h)
  have HB0 := Lib.hid (below_alT w (.cells #[.string s, v, .int .i64 z] 36))
  clear h
  by_cases hb : left - (s.size : Int) < 0
  · have H := Lib.hid (show leftM s.size ss.length (lenT ss ss.length) left = -1 from leftM_no (by omega))
    generalize lenT ss ss.length = q at *
    generalize ss.length = n at *
    go_enter Tryd.func18, Tryd.ntmps18
    go_wp2
    go_ret
    exact ⟨ret_i64 H.out.symm, HB0.out⟩
  · have HC := Lib.hid (szSt_any ss v (left - s.size) _ HI.out hz (by omega) (by omega))
    clear hz
    generalize lenT ss ss.length = q at *
    generalize ss.length = n at *
    by_cases hc : (s.size : Int) + n + q ≤ left
    · have H := Lib.hid (show leftM s.size n q left = left - s.size - n - q from leftM_yes hc)
      have HT := Lib.hid (show leftT n q (left - s.size) = left - s.size - n - q from leftT_yes (by omega))
      rw [HT.out] at HC
      have hp : ¬ left - s.size - n - q < 0 := by omega
      go_enter Tryd.func18, Tryd.ntmps18
      go_wp2_with fail
      refine HC.out.mono ?_
      rintro e w1 ⟨rfl, hb1⟩
      have HB := Lib.hid (below_of HB0.out hb1 HB0.out.size)
      clear hb1
      go_wp2
      go_ret
      exact ⟨ret_i64 H.out.symm, HB.out⟩
    · have H := Lib.hid (show leftM s.size n q left = -1 from leftM_no hc)
      have HT := Lib.hid (show leftT n q (left - s.size) = -1 from leftT_no (by omega))
      rw [HT.out] at HC
      go_enter Tryd.func18, Tryd.ntmps18
      go_wp2_with fail
      refine HC.out.mono ?_
      rintro e w1 ⟨rfl, hb1⟩
      have HB := Lib.hid (below_of HB0.out hb1 HB0.out.size)
      clear hb1
      go_wp2
      go_ret
      exact ⟨ret_i64 H.out.symm, HB.out⟩
/-- A slice of the call's own that reads as ss. -/
def OwnStAt (w : World) (B : Nat) (v : Value) (ss : List ByteArray) : Prop := ∃ B', B ≤ B' ∧ OwnSt w B' v ss
theorem ownStAt_kept {w w' : World} {B : Nat} {v : Value} {ss : List ByteArray} (hb : Below w.heap.size w w') (h : OwnStAt w B v ss) : OwnStAt w' B v ss := by
  obtain ⟨B', h1, h2⟩ := h
  exact ⟨B', h1, ownSt_kept hb h2⟩
theorem ownStAt_st {w : World} {B : Nat} {v : Value} {ss : List ByteArray} (hl : ss.length ≤ 1048576) (h : OwnStAt w B v ss) : StAt w v ss := by
  obtain ⟨_, _, h2⟩ := h
  exact own_st hl h2
/-- What a copy is. -/
def CopyMl (s : ByteArray) (ss : List ByteArray) (z : Int) (w : World) (e : Ending) (w' : World) : Prop := ∃ v, e = .returned (.agg #[.string s, v, .int .i64 z]) ∧ OwnSt w' w.heap.size v ss ∧ Below w.heap.size w w'
set_option maxHeartbeats 2000000 in
theorem toMelt_any (s : ByteArray) (v : Value) (ss : List ByteArray) (z : Int) (w : World) (h : StAt w v ss) :
    Calls Tryd.prog 20 #[.agg #[.string s, v, .int .i64 z]] w (CopyMl s ss z w) := by
  have HI := Lib.hid h
  obtain ⟨a, c, rfl⟩ := st_form h
  clear h
  generalize hn : ss.length = n at *
  have HN := Lib.hid hn
  clear hn
  go_enter Tryd.func20, Tryd.ntmps20
  go_wp2_with fail
  refine (toSt_any ss _ _ (st_kept ((((Below.refl _ _).alloc (Nat.le_refl _) _).alloc (by simp) _).alloc (by simp <;> omega) _) HI.out)).mono ?_
  rintro e w1 ⟨v', rfl, hown, hb⟩
  have HO := Lib.hid hown
  have HB := Lib.hid hb
  have a2 : w1.cell? ⟨w.heap.size, 2, none⟩ = some (.int .i64 z) := by rw [below_cell hb _ _ (by simp <;> omega)]; go_simp
  have c10 : w1.cell? ⟨w.heap.size + 1, 0, none⟩ = some (.string ⟨#[]⟩) := by rw [below_cell hb _ _ (by simp)]; go_simp
  have c11 : w1.cell? ⟨w.heap.size + 1, 1, none⟩ = some (.slice none 0 0) := by rw [below_cell hb _ _ (by simp)]; go_simp
  have c12 : w1.cell? ⟨w.heap.size + 1, 2, none⟩ = some (.int .i64 0) := by rw [below_cell hb _ _ (by simp)]; go_simp
  have c20 : w1.cell? ⟨w.heap.size + 1 + 1, 0, none⟩ = some (.string s) := by rw [below_cell hb _ _ (by simp)]; go_simp
  have c21 : w1.cell? ⟨w.heap.size + 1 + 1, 1, none⟩ = some (.slice none 0 0) := by rw [below_cell hb _ _ (by simp)]; go_simp
  have c22 : w1.cell? ⟨w.heap.size + 1 + 1, 2, none⟩ = some (.int .i64 0) := by rw [below_cell hb _ _ (by simp)]; go_simp
  have f10 : w1.frozen? ⟨w.heap.size + 1, 0, none⟩ = false := by rw [below_frozen hb _ _ (by simp)]; go_simp
  have f11 : w1.frozen? ⟨w.heap.size + 1, 1, none⟩ = false := by rw [below_frozen hb _ _ (by simp)]; go_simp
  have f12 : w1.frozen? ⟨w.heap.size + 1, 2, none⟩ = false := by rw [below_frozen hb _ _ (by simp)]; go_simp
  have f21 : w1.frozen? ⟨w.heap.size + 1 + 1, 1, none⟩ = false := by rw [below_frozen hb _ _ (by simp)]; go_simp
  have f22 : w1.frozen? ⟨w.heap.size + 1 + 1, 2, none⟩ = false := by rw [below_frozen hb _ _ (by simp)]; go_simp
  have hz : w.heap.size + 3 ≤ w1.heap.size := by have := hb.size; simp at this; omega
  obtain ⟨g, cap, rfl, hg1, hg2, -⟩ := hown
  clear hb
  simp at hg1
  have HG := Lib.hid hg1
  rw [HN.out] at HO ⊢
  have HO3 := Lib.hid (show OwnSt w1 (w.heap.size + 3) (.slice (some ⟨g, 0, none⟩) n cap) ss by have := HO.out; simpa using this)
  clear HO
  go_wp2
  refine bodyPost_ret (v := .agg #[.string s, .slice (some ⟨g, 0, none⟩) n cap, .int .i64 z]) (by simp [results, Tryd.results20, go_sem, c10, c11, c12]) rfl ⟨_, rfl, ?_, ?_⟩
  · exact ownSt_base (ownSt_set (ownSt_set (ownSt_set (ownSt_set (ownSt_set HO3.out _ _ _ (by omega)) _ _ _ (by omega)) _ _ _ (by omega)) _ _ _ (by omega)) _ _ _ (by omega)) (by omega)
  · have h3 : Below w.heap.size w w1 := ((((Below.refl _ _).alloc (Nat.le_refl _) _).alloc (by simp) _).alloc (by simp <;> omega) _).trans (HB.out.mono (by simp <;> omega))
    exact ((((h3.setCell (by simp <;> omega) _).setCell (by simp <;> omega) _).setCell (by simp) _).setCell (by simp) _).setCell (by simp) _
set_option maxHeartbeats 1000000 in
theorem eqMelt_any (s : ByteArray) (v1 v2 : Value) (ss : List ByteArray) (z : Int) (w : World) (h1 : StAt w v1 ss) (h2 : StAt w v2 ss) :
    Calls Tryd.prog 22 #[.agg #[.string s, v1, .int .i64 z], .agg #[.string s, v2, .int .i64 z]] w fun e w' => e = .returned (.bool true) ∧ Below w.heap.size w w' := by
  have hba := (below_alT w (.cells #[.string s, v1, .int .i64 z] 40)).alloc (by simp) (.cells #[.string s, v2, .int .i64 z] 40)
  have H1 := Lib.hid (st_kept hba h1)
  have H2 := Lib.hid (st_kept hba h2)
  have HBA := Lib.hid hba
  clear h1 h2 hba
  have hs : (s.toList != s.toList) = false := by simp
  have hzz : (z != z) = false := by simp
  go_enter Tryd.func22, Tryd.ntmps22
  go_wp2_with fail
  refine (eqSt_at ss _ _ _ H1.out H2.out).mono ?_
  rintro e w1 ⟨rfl, hb⟩
  have a2 : w1.cell? ⟨w.heap.size, 2, none⟩ = some (.int .i64 z) := by rw [below_cell hb _ _ (by simp <;> omega)]; go_simp
  have b2 : w1.cell? ⟨w.heap.size + 1, 2, none⟩ = some (.int .i64 z) := by rw [below_cell hb _ _ (by simp)]; go_simp
  have HB := Lib.hid (below_of HBA.out hb HBA.out.size)
  clear hb
  go_wp2
  go_ret
  exact ⟨rfl, HB.out⟩
end Go.Proofs.YtjicnfgpbbganaaDoor
