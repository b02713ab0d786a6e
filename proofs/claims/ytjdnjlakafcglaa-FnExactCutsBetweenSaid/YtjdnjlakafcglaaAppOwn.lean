/- Words for slices of rings that the call owns: a capacity no less than the length; append as a region's step. -/
import Derived.Test.YtjdnjlakafcglaaWithO
import Derived.Maps.AppendAt
set_option linter.unusedVariables false
namespace Go.Proofs.Ytjdnjlakafcglaa
open Go.ChangeShapes Go.WideShapes Go.ChangeAt Go.RowKit

theorem k2_below {w w' : World} {b : Nat} {u v : Value} (hS : w.cell? ⟨b, 0, none⟩ = some u ∧ w.cell? ⟨b, 1, none⟩ = some v) (hz : b < w.heap.size) (hb : Below w.heap.size w w') : w'.cell? ⟨b, 0, none⟩ = some u ∧ w'.cell? ⟨b, 1, none⟩ = some v :=
  ⟨(below_cell hb _ _ hz).trans hS.1, (below_cell hb _ _ hz).trans hS.2⟩
theorem k2_gb {w w' : World} {b : Nat} {u v : Value} {row : Option Nat} (hS : w.cell? ⟨b, 0, none⟩ = some u ∧ w.cell? ⟨b, 1, none⟩ = some v) (hz : b < w.heap.size) (hb : w.grownBy w' row) (hne : some b ≠ row) : w'.cell? ⟨b, 0, none⟩ = some u ∧ w'.cell? ⟨b, 1, none⟩ = some v :=
  ⟨(gb_cell hb _ _ hz hne).trans hS.1, (gb_cell hb _ _ hz hne).trans hS.2⟩
theorem k2_set2 {w : World} {b b2 : Nat} {u v x y : Value} (hS : w.cell? ⟨b, 0, none⟩ = some u ∧ w.cell? ⟨b, 1, none⟩ = some v) (hne : b ≠ b2) : ((w.setCell ⟨b2, 0, none⟩ x).setCell ⟨b2, 1, none⟩ y).cell? ⟨b, 0, none⟩ = some u ∧ ((w.setCell ⟨b2, 0, none⟩ x).setCell ⟨b2, 1, none⟩ y).cell? ⟨b, 1, none⟩ = some v := by
  have e : ∀ (w : World) (k j : Nat) (z : Value), (w.setCell ⟨b2, k, none⟩ z).cell? ⟨b, j, none⟩ = w.cell? ⟨b, j, none⟩ := fun w k j z => World.cell?_of_block (Below.heap_setCell _ _ _ _ hne)
  exact ⟨by rw [e, e]; exact hS.1, by rw [e, e]; exact hS.2⟩
theorem rings_of_row {w : World} {g m cap : Nat} {X : List Value} {l : List Rg} (h : RowAt w g X) (ht : X.take (m * 3) = i64s (flat l)) (hm : l.length = m) (h64 : m ≤ 1048576) : RingsAt w (.slice (some ⟨g, 0, none⟩) m cap) l := by
  refine ⟨by omega, .inr ⟨g, 0, cap, by rw [hm], rowAt_lt h, fun j hj => ?_⟩⟩
  rw [Nat.zero_add, rowAt_cell h]
  have h2 := i64s_get (flat l) j (by rw [flat_len]; exact hj)
  rw [← ht, List.getElem?_take] at h2
  split at h2
  · exact h2
  · cases h2
theorem ownR_set2 {w : World} {B : Nat} {v : Value} {zs : List Rg} (h : OwnRings w B v zs) (b : Nat) (x y : Value) (hne : ∀ g o n c, v = .slice (some ⟨g, o, none⟩) n c → b ≠ g) : OwnRings ((w.setCell ⟨b, 0, none⟩ x).setCell ⟨b, 1, none⟩ y) B v zs := by
  obtain ⟨g, cap, rfl, h1, h2, hown⟩ := h
  have hne := hne g 0 _ _ rfl
  have e : ∀ (w : World) (k : Nat) (z : Value), w.grownBy (w.setCell ⟨b, k, none⟩ z) (some b) := fun w k z => gb_set _ _ (gb_refl w (some b))
  refine ⟨g, cap, rfl, h1, by simpa using h2, (hown.kept (e _ _ _) (.inr ?_)).kept (e _ _ _) (.inr ?_)⟩ <;> simp [Value.ownBlock] <;> omega
/-- A slice of rings whose capacity is not less than its length. -/
def RingsC (w : World) (v : Value) (rs : List Rg) : Prop := RingsAt w v rs ∧ ∃ a c, v = .slice a rs.length c ∧ rs.length ≤ c
theorem rv_ringsC {w : World} {B : Nat} {v : Value} {zs : List Rg} (hl : zs.length ≤ 1048576) (h : Rv w B v zs) : RingsC w v zs := by
  refine ⟨rv_rings hl h, ?_⟩
  rcases h with ⟨rfl, rfl⟩ | ⟨g, cap, rfl, h2, h4⟩
  · exact ⟨_, _, rfl, by simp⟩
  · obtain ⟨X, h1, h2, h3, h5, -⟩ := rowAt_of h4
    exact ⟨_, _, rfl, h5⟩
section
variable {P : Program} {w : World}
theorem step_append_own {ops : Array Oper} {o : Oper} {a : Act} {K : Act → World → Prop} {Q : Exit → Act → World → Prop} {E : Prop} (hgd : o.guard = none) (s x : Operand) (t : TypeId)
    (ho : o.op = .call { callee := .builtin .append, args := #[s, x], argTypes := #[t, t] })
    (base : Nat) (e : TypeId) (i : TypeInfo) (z : Value) (size bytes : Nat) (ht : P.underlying t = some (.slice e)) (hi : P.info? e = some i) (hz : i.zero = some z)
    (hsize : i.size = size) (hby : i.bytes = bytes) (hzs : z.cells.size = size) (hsz : 0 < size)
    (v : Value) (n : Nat) (xs : List Value) (hs : a.eval s = v) (hown : w.ownsRow base e size v n xs)
    (ad : Addr) (m c : Nat) (news : List Value) (hx : a.eval x = .slice (some ad) m c) (hl : news.length = m * size) (hnews : ∀ j u, news[j]? = some u → w.cell? (ad.add j) = some u) (h1 : ∀ u ∈ news, u.oneCell' = true)
    (h63 : n + m ≤ maxLen) (hbytes : (n + m) * bytes ≤ 140737488355328) (hbase : base ≤ w.heap.size)
    (h : ∀ v' w', w'.ownsRow base e size v' (n + m) (xs ++ news) → w.grownBy w' v.ownBlock → (v' = .slice none 0 0 ↔ v = .slice none 0 0 ∧ m = 0) → (v'.ownBlock = v.ownBlock ∨ v'.ownBlock = some w.heap.size) → K (a.put o.dst v') w') :
    if Region.wanted o (yielded ops a.tmps) = true then Oper.wp P o a w K Q else E := by
  have hw : Region.wanted o (yielded ops a.tmps) = true := by simp [Region.wanted, hgd]
  rw [if_pos hw]
  obtain ⟨v', w', hr, h2, h3, h4, h5⟩ := run_append_own_at (P := P) w base t o.type e i z size bytes ht hi hz hsize hby hzs hsz v n xs hown ad m c news hl hnews h1 h63 hbytes hbase
  unfold Oper.wp execOp
  simp only [ho, resolve, invoke, builtin, Sem.run_bind, Sem.run_pure, Result.andThen_ok, List.map_toArray, List.map_cons, List.map_nil, hs, hx, hr]
  exact h v' w' h2 h3 h4 h5
end
theorem apart_n {b g n c : Nat} (h : b ≠ g) : some b ≠ (Value.slice (some ⟨g, 0, none⟩) n c).ownBlock := by simpa [Value.ownBlock] using h
theorem own_slice {w : World} {B : Nat} {v : Value} {n : Nat} {xs : List Value} (h : w.ownsRow B 121 3 v n xs) (hne : ¬ v = .slice none 0 0) : ∃ g cap, v = .slice (some ⟨g, 0, none⟩) n cap ∧ B ≤ g ∧ g < w.heap.size := by
  rcases h.2 with ⟨e, _⟩ | ⟨g, cap, cur, e, hb, hg, _⟩
  · exact absurd e hne
  · exact ⟨g, cap, e, hb, (Array.getElem?_eq_some_iff.1 hg).1⟩
end Go.Proofs.Ytjdnjlakafcglaa
