/- Models by value, once more: what is known of an argument with its size, answers that hold a model. -/
import Derived.Test.YtpjopfhkgegahaaGreatModMark
set_option linter.unusedVariables false
namespace Go.Proofs.YtpjopfhkgegahaaGreat
open Go.ChangeShapes Go.WideShapes Go.ChangeAt Go.RowKit Go.Deep

def ModAt (w : World) (x0 x1 x2 : Value) (zs : List Int) (ws : List (List Int)) (bs : List Int) : Prop := IntsAt w x0 zs ∧ RowsAt w x1 ws ∧ IntsAt w x2 bs
theorem modAt_kept {w w' : World} {x0 x1 x2 : Value} {zs bs : List Int} {ws : List (List Int)} (hb : Below w.heap.size w w') (h : ModAt w x0 x1 x2 zs ws bs) : ModAt w' x0 x1 x2 zs ws bs :=
  ⟨ints_kept hb h.1, mrows_kept hb h.2.1, ints_kept hb h.2.2⟩
/-- Three slices and the sum of their sizes. -/
def SzM (w : World) (x0 x1 x2 : Value) (N : Nat) : Prop := ∃ (n0 n1 n2 : Nat) (L : Nat → Nat), (∃ a c, x0 = .slice a n0 c) ∧ n0 ≤ 9223372036854775807 ∧ SzAt w x1 n1 L ∧ n1 ≤ 9223372036854775807 ∧ (∃ a c, x2 = .slice a n2 c) ∧ n2 ≤ 9223372036854775807 ∧ N = n0 + (n1 + sumL L n1) + n2
theorem szM_kept {w w' : World} {x0 x1 x2 : Value} {N : Nat} (hb : Below w.heap.size w w') (h : SzM w x0 x1 x2 N) : SzM w' x0 x1 x2 N := by
  obtain ⟨n0, n1, n2, L, h0, h1, h2, h3⟩ := h
  exact ⟨n0, n1, n2, L, h0, h1, sz_kept hb h2, h3⟩
theorem lenS_row {ws : List (List Int)} (h : lenS ws ws.length ≤ 1048576) : ∀ j, j < ws.length → (ws.getD j []).length ≤ 1048576 := fun j hj => Nat.le_trans (lenS_at ws j _ hj) h
theorem sumL_congr {L M : Nat → Nat} (n : Nat) (h : ∀ j, j < n → L j = M j) : sumL L n = sumL M n := by
  induction n with
  | zero => rfl
  | succ n ih => show sumL L n + L n = sumL M n + M n; rw [ih (fun j hj => h j (by omega)), h n (by omega)]
/-- What is known of an argument of type Model. -/
def ModArgX (W : World) (v : Value) : Prop := ∃ (x0 x1 x2 : Value) (N : Nat), v = .agg #[x0, x1, x2] ∧ SzM W x0 x1 x2 N ∧
  (N ≤ 1048576 → ∃ zs ws bs, (zs : List Int).length + ((ws : List (List Int)).length + lenS ws ws.length) + (bs : List Int).length = N ∧ ModAt W x0 x1 x2 zs ws bs)
section
variable {H : Type} {enc : TypeId × Value → H}
set_option maxRecDepth 20000 in
theorem modelx_arg {W : World} {base : Nat} {v : Value} {d : DataW H} {p : List MemPlace} (hval : Value.okWide Tryz.prog W .any base 25 v) (h : DataW.Trod enc Tryz.prog W 0 (fun _ => true) true 25 v d p)
    (hlt : ∀ x ∈ p, x.block < W.heap.size) : ModArgX W v := by
  obtain ⟨v0, v1, v2, y0, y1, y2, n, rfl, rfl, rfl, h0, h1, h2⟩ := Joins.open_agg3 Tryz.underlying25 (by kernel_rfl) (by kernel_rfl) hval h
  have e0 : ∃ a len cap, v0 = .slice a len cap := by
    rcases open_slice Tryz.underlying22 h0 with ⟨hcs, _⟩ | ⟨a', len', cap', m, n, D, Pl, hcs, _⟩
    · exact ⟨_, _, _, by simpa using hcs⟩
    · exact ⟨_, _, _, by simpa using hcs⟩
  have e1 : ∃ a len cap, v1 = .slice a len cap := by
    rcases open_slice Tryz.underlying23 h1 with ⟨hcs, _⟩ | ⟨a', len', cap', m, n, D, Pl, hcs, _⟩
    · exact ⟨_, _, _, by simpa using hcs⟩
    · exact ⟨_, _, _, by simpa using hcs⟩
  have e2 : ∃ a len cap, v2 = .slice a len cap := by
    rcases open_slice Tryz.underlying22 h2 with ⟨hcs, _⟩ | ⟨a', len', cap', m, n, D, Pl, hcs, _⟩
    · exact ⟨_, _, _, by simpa using hcs⟩
    · exact ⟨_, _, _, by simpa using hcs⟩
  obtain ⟨a0, n0, k0, rfl⟩ := e0
  obtain ⟨a1, n1, k1, rfl⟩ := e1
  obtain ⟨a2, n2, k2, rfl⟩ := e2
  obtain ⟨l0, I0⟩ := ints_arg (a := a0) (len := n0) (cap := k0) (fuel := n) (d := y0.1) (p := y0.2) h0 (fun x hx => hlt x (by simp [hx]))
  obtain ⟨l1, L, hs, I1⟩ := rows_arg (a := a1) (len := n1) (cap := k1) (fuel := n) (d := y1.1) (p := y1.2) h1 (fun x hx => hlt x (by simp [hx]))
  obtain ⟨l2, I2⟩ := ints_arg (a := a2) (len := n2) (cap := k2) (fuel := n) (d := y2.1) (p := y2.2) h2 (fun x hx => hlt x (by simp [hx]))
  refine ⟨_, _, _, n0 + (n1 + sumL L n1) + n2, rfl, ⟨n0, n1, n2, L, ⟨_, _, rfl⟩, l0, hs, l1, ⟨_, _, rfl⟩, l2, rfl⟩, fun hb => ?_⟩
  obtain ⟨zs, z1, z2, -⟩ := I0 (by omega)
  obtain ⟨ws, w1, w2, w3⟩ := I1 ⟨by omega, fun j hj => by have := sumL_le L n1 j hj; omega⟩
  obtain ⟨bs, b1, b2, -⟩ := I2 (by omega)
  refine ⟨zs, ws, bs, ?_, z2, w2, b2⟩
  have : lenS ws ws.length = sumL L n1 := by rw [w1]; exact sumL_congr n1 (fun j hj => w3 j hj)
  omega
end
theorem szModX_any (x0 x1 x2 : Value) (N : Nat) (left : Int) (w : World) (h : SzM w x0 x1 x2 N) (hl0 : 0 ≤ left) (hl1 : left ≤ 1048576) :
    Calls Tryz.prog 5 #[.agg #[x0, x1, x2], .int .i64 left] w fun e w' => e = .returned (.int .i64 (leftN N left)) ∧ Below w.heap.size w w' := by
  obtain ⟨n0, n1, n2, L, h0, h1, h2, h3, h4, h5, rfl⟩ := h
  exact szMod_any x0 x1 x2 n0 n1 n2 L left w (Lib.hid h0) h1 (Lib.hid h2) h3 (Lib.hid h4) h5 hl0 hl1
/-- A model that is an answer: none at all, or one in memory of its own. -/
def ModAns (w : World) (B hi : Nat) (y0 y1 y2 : Value) (zs : List Int) (ws : List (List Int)) (bs : List Int) : Prop :=
  (y0 = .slice none 0 0 ∧ y1 = .slice none 0 0 ∧ y2 = .slice none 0 0 ∧ zs = [] ∧ ws = [] ∧ bs = []) ∨ ModOwn w B hi y0 y1 y2 zs ws bs
def ModU (zs : List Int) (ws : List (List Int)) (bs : List Int) (c : Int) (w : World) (e : Ending) (w' : World) : Prop :=
  ∃ y0 y1 y2, e = .returned (.tuple #[.agg #[y0, y1, y2], .int .i64 c]) ∧ ModAns w' w.heap.size w'.heap.size y0 y1 y2 zs ws bs ∧ Below w.heap.size w w'
theorem modAns_kept {w w' : World} {B hi : Nat} {y0 y1 y2 : Value} {zs bs : List Int} {ws : List (List Int)} (hb : Below w.heap.size w w') (h : ModAns w B hi y0 y1 y2 zs ws bs) : ModAns w' B hi y0 y1 y2 zs ws bs := by
  rcases h with h | h
  · exact .inl h
  · exact .inr (modOwn_kept hb h)
theorem modAns_mk {w w' : World} {l u B hi : Nat} {y0 y1 y2 : Value} {zs bs : List Int} {ws : List (List Int)} (hg : Mk l u w w') (h : ModAns w B hi y0 y1 y2 zs ws bs) (ho : hi ≤ l ∨ u ≤ B) : ModAns w' B hi y0 y1 y2 zs ws bs := by
  rcases h with h | h
  · exact .inl h
  · exact .inr (modOwn_mk hg h ho)
theorem modAns_form {w : World} {B hi : Nat} {y0 y1 y2 : Value} {zs bs : List Int} {ws : List (List Int)} (h : ModAns w B hi y0 y1 y2 zs ws bs) : (∃ a c, y0 = .slice a zs.length c) ∧ (∃ a c, y1 = .slice a ws.length c) ∧ ∃ a c, y2 = .slice a bs.length c := by
  rcases h with ⟨rfl, rfl, rfl, rfl, rfl, rfl⟩ | h
  · exact ⟨⟨_, _, rfl⟩, ⟨_, _, rfl⟩, ⟨_, _, rfl⟩⟩
  · exact modOwn_form h
theorem modAns_at {w : World} {B hi : Nat} {y0 y1 y2 : Value} {zs bs : List Int} {ws : List (List Int)} (hL : zs.length + lenS ws ws.length + bs.length ≤ 1048576 ∧ ws.length ≤ 1048576 ∧ zs.length ≤ 1048576 ∧ bs.length ≤ 1048576 ∧ lenS ws ws.length ≤ 1048576) (h : ModAns w B hi y0 y1 y2 zs ws bs) : ModAt w y0 y1 y2 zs ws bs := by
  rcases h with ⟨rfl, rfl, rfl, rfl, rfl, rfl⟩ | h
  · exact ⟨⟨by simp, .inl ⟨_, _, rfl, rfl⟩⟩, ⟨by simp, .inl ⟨_, _, rfl, rfl⟩⟩, ⟨by simp, .inl ⟨_, _, rfl, rfl⟩⟩⟩
  · exact modOwn_parts hL.2.2.1 hL.2.1 (lenS_row hL.2.2.2.2) hL.2.2.2.1 h
end Go.Proofs.YtpjopfhkgegahaaGreat
