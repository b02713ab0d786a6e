/- A profile's and a ring's copies in either order, a call that answers with a profile, and the answer's box, made at any time among them. -/
import Derived.Test.YtojkijcdfnfnlaaInsS
import Derived.Test.YtojkijcdfnfnlaaInsI
set_option linter.unusedVariables false
namespace Go.Proofs.Ytojkijcdfnfnlaa
open Go.ChangeShapes Go.WideShapes Go.ChangeAt Go.RowKit

/-- A profile's empty box, made since W. -/
def BoxAt (W cur : World) (b : Nat) : Prop := BlankP cur b ∧ W.heap.size ≤ b ∧ b < cur.heap.size
theorem box_al {W X w' : World} {T : TypeId} (hX : W.heap.size ≤ X.heap.size) (hb : Below (X.alloc (.cells #[.string ⟨#[]⟩, .slice none 0 0] T)).heap.size (X.alloc (.cells #[.string ⟨#[]⟩, .slice none 0 0] T)) w') :
    BoxAt W w' X.heap.size ∧ X.heap.size < (X.alloc (.cells #[.string ⟨#[]⟩, .slice none 0 0] T)).heap.size :=
  ⟨⟨blankP_kept hb (alloc_lt2 _ _) (blankP_alloc _ _), hX, Nat.lt_of_lt_of_le (alloc_lt2 _ _) hb.size⟩, alloc_lt2 _ _⟩
theorem box_next {W cur w' : World} {b : Nat} (h : BoxAt W cur b) (hb : Below cur.heap.size cur w') : BoxAt W w' b ∧ b < cur.heap.size :=
  ⟨⟨blankP_kept hb h.2.2 h.1, h.2.1, Nat.lt_of_lt_of_le h.2.2 hb.size⟩, h.2.2⟩
/-- The answer lies in a box and in a row of its own, both made since W. -/
def AnsAt (W wr : World) (s1 : ByteArray) (zs1 : List Rg) (n1 : Nat) (c1 : Int) (p q : Value) : Prop :=
  ∃ b a c, p = .pointer (some ⟨b, 0, none⟩) ∧ q = .int .i64 c1 ∧ wr.cell? ⟨b, 0, none⟩ = some (.string s1) ∧ wr.cell? ⟨b, 1, none⟩ = some (.slice a n1 c) ∧ W.heap.size ≤ b ∧ b < wr.heap.size ∧ Rv wr W.heap.size (.slice a n1 c) zs1 ∧ (∀ k, (Value.slice a n1 c).ownBlock = some k → k ≠ b) ∧ Below W.heap.size W wr
theorem ans_new {W w3 : World} {H : Nat} {s1 : ByteArray} {zs1 : List Rg} {n1 : Nat} {c1 : Int} {a : Option Addr} {c : Nat} {T : TypeId} (hc : W.heap.size ≤ H) (hB : Below W.heap.size W w3) (hv : Rv w3 H (.slice a n1 c) zs1) :
    AnsAt W (w3.alloc (.cells #[.string s1, .slice a n1 c] T)) s1 zs1 n1 c1 (.pointer (some ⟨w3.heap.size, 0, none⟩)) (.int .i64 c1) :=
  ⟨w3.heap.size, a, c, rfl, rfl, by go_simp, by go_simp, hB.size, alloc_lt2 _ _, rv_kept (below_al _ _) (rv_base hv hc), fun k hk => Nat.ne_of_lt (rv_in hv k hk).2, below_of hB (below_al _ _) hB.size⟩
theorem rv_set2 {w : World} {B : Nat} {v : Value} {zs : List Rg} (h : Rv w B v zs) (b : Nat) (x y : Value) (hne : ∀ k, v.ownBlock = some k → k ≠ b) : Rv ((w.setCell ⟨b, 0, none⟩ x).setCell ⟨b, 1, none⟩ y) B v zs := by
  have e : ∀ (w : World) (k : Nat) (z : Value), w.grownBy (w.setCell ⟨b, k, none⟩ z) (some b) := fun w k z => gb_set _ _ (gb_refl w (some b))
  have hne2 : v.ownBlock = none ∨ v.ownBlock ≠ some b := by
    cases hv : v.ownBlock with
    | none => exact .inl rfl
    | some k => exact .inr fun h => hne k hv (Option.some.inj h)
  exact rv_grown (e _ _ _) (rv_grown (e _ _ _) h hne2) hne2
theorem ans_old {W w3 : World} {H b : Nat} {s1 : ByteArray} {zs1 : List Rg} {n1 : Nat} {c1 : Int} {a : Option Addr} {c : Nat} (hc : W.heap.size ≤ H) (hB : Below W.heap.size W w3) (hv : Rv w3 H (.slice a n1 c) zs1) (hx : BoxAt W w3 b ∧ b < H) :
    AnsAt W ((w3.setCell ⟨b, 0, none⟩ (.string s1)).setCell ⟨b, 1, none⟩ (.slice a n1 c)) s1 zs1 n1 c1 (.pointer (some ⟨b, 0, none⟩)) (.int .i64 c1) := by
  obtain ⟨⟨⟨⟨b0, b1⟩, f0, f1⟩, h1, h2⟩, h3⟩ := hx
  have hne : ∀ k, (Value.slice a n1 c).ownBlock = some k → k ≠ b := fun k hk => Nat.ne_of_gt (Nat.lt_of_lt_of_le h3 (rv_in hv k hk).1)
  exact ⟨b, a, c, rfl, rfl, by go_simp, by go_simp, h1, by simpa using h2, rv_set2 (rv_base hv hc) b _ _ hne, hne, (hB.setCell h1 _).setCell h1 _⟩
/-- Five cells hold what they hold, and nothing older than W has changed. -/
theorem five_next {W w w2 : World} {b1 b2 : Nat} {u v x y z : Value} (hz : b1 < W.heap.size ∧ b2 < W.heap.size)
    (h : w.cell? ⟨b1, 0, none⟩ = some u ∧ w.cell? ⟨b1, 1, none⟩ = some v ∧ w.cell? ⟨b2, 0, none⟩ = some x ∧ w.cell? ⟨b2, 1, none⟩ = some y ∧ w.cell? ⟨b2, 2, none⟩ = some z ∧ Below W.heap.size W w) (hb : Below w.heap.size w w2) :
    w2.cell? ⟨b1, 0, none⟩ = some u ∧ w2.cell? ⟨b1, 1, none⟩ = some v ∧ w2.cell? ⟨b2, 0, none⟩ = some x ∧ w2.cell? ⟨b2, 1, none⟩ = some y ∧ w2.cell? ⟨b2, 2, none⟩ = some z ∧ Below W.heap.size W w2 := by
  obtain ⟨h1, h2, h3, h4, h5, hB⟩ := h
  have k1 := Nat.lt_of_lt_of_le hz.1 hB.size
  have k2 := Nat.lt_of_lt_of_le hz.2 hB.size
  exact ⟨(below_cell hb _ _ k1).trans h1, (below_cell hb _ _ k1).trans h2, (below_cell hb _ _ k2).trans h3, (below_cell hb _ _ k2).trans h4, (below_cell hb _ _ k2).trans h5, below_of hB hb hB.size⟩
theorem five_set {W w : World} {b1 b2 b3 : Nat} {u v x y z p q : Value} (hz : b1 < W.heap.size ∧ b2 < W.heap.size)
    (h : w.cell? ⟨b1, 0, none⟩ = some u ∧ w.cell? ⟨b1, 1, none⟩ = some v ∧ w.cell? ⟨b2, 0, none⟩ = some x ∧ w.cell? ⟨b2, 1, none⟩ = some y ∧ w.cell? ⟨b2, 2, none⟩ = some z ∧ Below W.heap.size W w) (h3 : W.heap.size ≤ b3) :
    ((w.setCell ⟨b3, 0, none⟩ p).setCell ⟨b3, 1, none⟩ q).cell? ⟨b1, 0, none⟩ = some u ∧ ((w.setCell ⟨b3, 0, none⟩ p).setCell ⟨b3, 1, none⟩ q).cell? ⟨b1, 1, none⟩ = some v ∧ ((w.setCell ⟨b3, 0, none⟩ p).setCell ⟨b3, 1, none⟩ q).cell? ⟨b2, 0, none⟩ = some x ∧ ((w.setCell ⟨b3, 0, none⟩ p).setCell ⟨b3, 1, none⟩ q).cell? ⟨b2, 1, none⟩ = some y ∧ ((w.setCell ⟨b3, 0, none⟩ p).setCell ⟨b3, 1, none⟩ q).cell? ⟨b2, 2, none⟩ = some z ∧ Below W.heap.size W ((w.setCell ⟨b3, 0, none⟩ p).setCell ⟨b3, 1, none⟩ q) := by
  obtain ⟨h1, h2, h4, h5, h6, hB⟩ := h
  obtain ⟨r1, r2, r3, r4, r5⟩ := q5_set2 (p := p) (q := q) ⟨h1, h2, h4, h5, h6⟩ (Nat.ne_of_lt (Nat.lt_of_lt_of_le hz.1 h3)) (Nat.ne_of_lt (Nat.lt_of_lt_of_le hz.2 h3))
  exact ⟨r1, r2, r3, r4, r5, (hB.setCell h3 _).setCell h3 _⟩
theorem five_drew {w : World} {b1 b2 : Nat} {u v x y z : Value} (h : w.cell? ⟨b1, 0, none⟩ = some u ∧ w.cell? ⟨b1, 1, none⟩ = some v ∧ w.cell? ⟨b2, 0, none⟩ = some x ∧ w.cell? ⟨b2, 1, none⟩ = some y ∧ w.cell? ⟨b2, 2, none⟩ = some z) :
    w.drew.cell? ⟨b1, 0, none⟩ = some u ∧ w.drew.cell? ⟨b1, 1, none⟩ = some v ∧ w.drew.cell? ⟨b2, 0, none⟩ = some x ∧ w.drew.cell? ⟨b2, 1, none⟩ = some y ∧ w.drew.cell? ⟨b2, 2, none⟩ = some z ∧ Below w.heap.size w w.drew :=
  ⟨h.1, h.2.1, h.2.2.1, h.2.2.2.1, h.2.2.2.2, rfl, rfl, rfl, Nat.le_refl _, fun _ _ => rfl⟩
end Go.Proofs.Ytojkijcdfnfnlaa
