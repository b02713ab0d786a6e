/- Models by value: an argument opened; measured, copied, compared. -/
import Derived.Test.YtpjopfhkgegahaaModMath
import Derived.Test.YtpjopfhkgegahaaRowsLaw
import Derived.Lib.SmallJoins
namespace Go.Proofs.Ytpjopfhkgegahaa
open Go.ChangeShapes Go.WideShapes Go.ChangeAt Go.RowKit Go.Deep

/-- What is known of an argument of type Model. -/
def ModArg (W : World) (v : Value) : Prop := ∃ (x0 x1 x2 : Value) (n0 n1 n2 : Nat) (L : Nat → Nat), v = .agg #[x0, x1, x2] ∧ (∃ a c, x0 = .slice a n0 c) ∧ n0 ≤ 9223372036854775807 ∧ SzAt W x1 n1 L ∧ n1 ≤ 9223372036854775807 ∧ (∃ a c, x2 = .slice a n2 c) ∧ n2 ≤ 9223372036854775807 ∧
  (n0 + (n1 + sumL L n1) + n2 ≤ 1048576 → ∃ zs ws bs, (zs : List Int).length = n0 ∧ (ws : List (List Int)).length = n1 ∧ (bs : List Int).length = n2 ∧ IntsAt W x0 zs ∧ RowsAt W x1 ws ∧ IntsAt W x2 bs ∧ ∀ j, j < ws.length → (ws.getD j []).length ≤ 1048576)
theorem ownRows_set {w : World} {B : Nat} {v : Value} {ws : List (List Int)} (h : OwnRows w B v ws) (b o : Nat) (x : Value) (hb : b < B) : OwnRows (w.setCell ⟨b, o, none⟩ x) B v ws := by
  obtain ⟨g, cap, us, rfl, h1, h2, hown, h4, h5⟩ := h
  refine ⟨g, cap, us, rfl, h1, by simpa using h2, hown.kept (row := some b) ⟨rfl, rfl, rfl, by simp, fun k _ hk => Below.heap_setCell _ _ _ _ (by intro e; exact hk (by simp only at e; rw [e]))⟩ (.inr (by simp [Value.ownBlock]; omega)), rowsOwn_set h4 b o x hb, h5⟩
theorem ownRows_base {w : World} {B B' : Nat} {v : Value} {ws : List (List Int)} (h : OwnRows w B v ws) (hB : B' ≤ B) : OwnRows w B' v ws := by
  obtain ⟨g, cap, us, rfl, h1, h2, ⟨h3, h4⟩, h5, h6⟩ := h
  refine ⟨g, cap, us, rfl, by omega, h2, ⟨h3, ?_⟩, rowsOwn_base h5 hB, h6⟩
  rcases h4 with h | ⟨g', cap', cur, e, hb, rest⟩
  · exact .inl h
  · exact .inr ⟨g', cap', cur, e, by omega, rest⟩
/-- What a copy of a model is. -/
def CopyM (zs : List Int) (ws : List (List Int)) (bs : List Int) (w : World) (e : Ending) (w' : World) : Prop :=
  ∃ v0 v1 v2, e = .returned (.agg #[v0, v1, v2]) ∧ OwnInts w' w.heap.size v0 zs ∧ OwnRows w' w.heap.size v1 ws ∧ OwnInts w' w.heap.size v2 bs ∧ Below w.heap.size w w'
set_option maxHeartbeats 2000000 in
theorem eqMod_any (x0 x1 x2 y0 y1 y2 : Value) (zs : List Int) (ws : List (List Int)) (bs : List Int) (w : World) (h0 : IntsAt w x0 zs) (h1 : RowsAt w x1 ws) (h2 : IntsAt w x2 bs) (k0 : IntsAt w y0 zs) (k1 : RowsAt w y1 ws) (k2 : IntsAt w y2 bs) :
    Calls Try.prog 8 #[.agg #[x0, x1, x2], .agg #[y0, y1, y2]] w fun e w' => e = .returned (.bool true) ∧ Below w.heap.size w w' := by
  have hba := ((Below.refl w.heap.size w).alloc (Nat.le_refl _) (.cells #[x0, x1, x2] 25)).alloc (by simp) (.cells #[y0, y1, y2] 25)
  have H0 := Lib.hid (ints_kept hba h0)
  have H1 := Lib.hid (mrows_kept hba h1)
  have H2 := Lib.hid (ints_kept hba h2)
  have K0 := Lib.hid (ints_kept hba k0)
  have K1 := Lib.hid (mrows_kept hba k1)
  have K2 := Lib.hid (ints_kept hba k2)
  have HBA := Lib.hid hba
  clear h0 h1 h2 k0 k1 k2 hba
  go_enter Try.func8, Try.ntmps8
  go_wp2_with fail
  refine (eqInts_at zs _ _ _ H0.out K0.out).mono ?_
  rintro e w1 ⟨rfl, hb⟩
  have a1 : w1.cell? ⟨w.heap.size, 1, none⟩ = some x1 := by rw [below_cell hb _ _ (by simp; omega)]; go_simp
  have a2 : w1.cell? ⟨w.heap.size, 2, none⟩ = some x2 := by rw [below_cell hb _ _ (by simp; omega)]; go_simp
  have b1 : w1.cell? ⟨w.heap.size + 1, 1, none⟩ = some y1 := by rw [below_cell hb _ _ (by simp)]; go_simp
  have b2 : w1.cell? ⟨w.heap.size + 1, 2, none⟩ = some y2 := by rw [below_cell hb _ _ (by simp)]; go_simp
  have hz : w.heap.size + 2 ≤ w1.heap.size := by have := hb.size; simp at this; omega
  have H1' := Lib.hid (mrows_kept hb H1.out)
  have K1' := Lib.hid (mrows_kept hb K1.out)
  have H2' := Lib.hid (ints_kept hb H2.out)
  have K2' := Lib.hid (ints_kept hb K2.out)
  have HB1 := Lib.hid (below_of HBA.out hb HBA.out.size)
  clear hb
  go_wp2_with fail
  refine (eqRowsM_at ws _ _ _ H1'.out K1'.out).mono ?_
  rintro e w2 ⟨rfl, hb⟩
  have a2' : w2.cell? ⟨w.heap.size, 2, none⟩ = some x2 := by rw [below_cell hb _ _ (by omega)]; exact a2
  have b2' : w2.cell? ⟨w.heap.size + 1, 2, none⟩ = some y2 := by rw [below_cell hb _ _ (by omega)]; exact b2
  have H2'' := Lib.hid (ints_kept hb H2'.out)
  have K2'' := Lib.hid (ints_kept hb K2'.out)
  have HB2 := Lib.hid (below_of HB1.out hb HB1.out.size)
  clear hb a1 a2 b1 b2
  go_wp2_with fail
  refine (eqInts_at bs _ _ _ H2''.out K2''.out).mono ?_
  rintro e w3 ⟨rfl, hb⟩
  have HB3 := Lib.hid (below_of HB2.out hb HB2.out.size)
  clear hb
  go_wp2
  go_ret
  exact ⟨rfl, HB3.out⟩
end Go.Proofs.Ytpjopfhkgegahaa
