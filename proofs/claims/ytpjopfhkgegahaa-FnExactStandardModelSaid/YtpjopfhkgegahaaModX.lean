/- Models by value, once more: what is known of an argument with its size, answers that hold a model. -/
import Derived.Test.YtpjopfhkgegahaaModMark
set_option linter.unusedVariables false
namespace Go.Proofs.Ytpjopfhkgegahaa
open Go.ChangeShapes Go.WideShapes Go.ChangeAt Go.RowKit Go.Deep

def ModAt (w : World) (x0 x1 x2 : Value) (zs : List Int) (ws : List (List Int)) (bs : List Int) : Prop := IntsAt w x0 zs ∧ RowsAt w x1 ws ∧ IntsAt w x2 bs
theorem modAt_kept {w w' : World} {x0 x1 x2 : Value} {zs bs : List Int} {ws : List (List Int)} (hb : Below w.heap.size w w') (h : ModAt w x0 x1 x2 zs ws bs) : ModAt w' x0 x1 x2 zs ws bs :=
  ⟨ints_kept hb h.1, mrows_kept hb h.2.1, ints_kept hb h.2.2⟩
/-- Three slices and the sum of their sizes. -/
def SzM (w : World) (x0 x1 x2 : Value) (N : Nat) : Prop := ∃ (n0 n1 n2 : Nat) (L : Nat → Nat), (∃ a c, x0 = .slice a n0 c) ∧ n0 ≤ 9223372036854775807 ∧ SzAt w x1 n1 L ∧ n1 ≤ 9223372036854775807 ∧ (∃ a c, x2 = .slice a n2 c) ∧ n2 ≤ 9223372036854775807 ∧ N = n0 + (n1 + sumL L n1) + n2
theorem szM_kept {w w' : World} {x0 x1 x2 : Value} {N : Nat} (hb : Below w.heap.size w w') (h : SzM w x0 x1 x2 N) : SzM w' x0 x1 x2 N := by
  obtain ⟨n0, n1, n2, L, h0, h1, h2, h3⟩ := h
  exact ⟨n0, n1, n2, L, h0, h1, sz_kept hb h2, h3⟩
theorem lenS_row {ws : List (List Int)} (h : lenS ws ws.length ≤ 1048576) : ∀ j, j < ws.length → (ws.getD j []).length ≤ 1048576 := fun j hj => Nat.le_trans (lenS_at ws j _ hj) h
theorem sumL_congr {L M : Nat → Nat} (n : Nat) (h : ∀ j, j < n → L j = M j) : sumL L n = sumL M n := by
  induction n with
  | zero => rfl
  | succ n ih => show sumL L n + L n = sumL M n + M n; rw [ih (fun j hj => h j (by omega)), h n (by omega)]
/-- What is known of an argument of type Model. -/
def ModArgX (W : World) (v : Value) : Prop := ∃ (x0 x1 x2 : Value) (N : Nat), v = .agg #[x0, x1, x2] ∧ SzM W x0 x1 x2 N ∧
  (N ≤ 1048576 → ∃ zs ws bs, (zs : List Int).length + ((ws : List (List Int)).length + lenS ws ws.length) + (bs : List Int).length = N ∧ ModAt W x0 x1 x2 zs ws bs)
/-- A model that is an answer: none at all, or one in memory of its own. -/
def ModAns (w : World) (B hi : Nat) (y0 y1 y2 : Value) (zs : List Int) (ws : List (List Int)) (bs : List Int) : Prop :=
  (y0 = .slice none 0 0 ∧ y1 = .slice none 0 0 ∧ y2 = .slice none 0 0 ∧ zs = [] ∧ ws = [] ∧ bs = []) ∨ ModOwn w B hi y0 y1 y2 zs ws bs
def ModU (zs : List Int) (ws : List (List Int)) (bs : List Int) (c : Int) (w : World) (e : Ending) (w' : World) : Prop :=
  ∃ y0 y1 y2, e = .returned (.tuple #[.agg #[y0, y1, y2], .int .i64 c]) ∧ ModAns w' w.heap.size w'.heap.size y0 y1 y2 zs ws bs ∧ Below w.heap.size w w'
theorem modAns_kept {w w' : World} {B hi : Nat} {y0 y1 y2 : Value} {zs bs : List Int} {ws : List (List Int)} (hb : Below w.heap.size w w') (h : ModAns w B hi y0 y1 y2 zs ws bs) : ModAns w' B hi y0 y1 y2 zs ws bs := by
  rcases h with h | h
  · exact .inl h
  · exact .inr (modOwn_kept hb h)
theorem modAns_mk {w w' : World} {l u B hi : Nat} {y0 y1 y2 : Value} {zs bs : List Int} {ws : List (List Int)} (hg : Mk l u w w') (h : ModAns w B hi y0 y1 y2 zs ws bs) (ho : hi ≤ l ∨ u ≤ B) : ModAns w' B hi y0 y1 y2 zs ws bs := by
  rcases h with h | h
  · exact .inl h
  · exact .inr (modOwn_mk hg h ho)
theorem modAns_form {w : World} {B hi : Nat} {y0 y1 y2 : Value} {zs bs : List Int} {ws : List (List Int)} (h : ModAns w B hi y0 y1 y2 zs ws bs) : (∃ a c, y0 = .slice a zs.length c) ∧ (∃ a c, y1 = .slice a ws.length c) ∧ ∃ a c, y2 = .slice a bs.length c := by
  rcases h with ⟨rfl, rfl, rfl, rfl, rfl, rfl⟩ | h
  · exact ⟨⟨_, _, rfl⟩, ⟨_, _, rfl⟩, ⟨_, _, rfl⟩⟩
  · exact modOwn_form h
theorem modAns_at {w : World} {B hi : Nat} {y0 y1 y2 : Value} {zs bs : List Int} {ws : List (List Int)} (hL : zs.length + lenS ws ws.length + bs.length ≤ 1048576 ∧ ws.length ≤ 1048576 ∧ zs.length ≤ 1048576 ∧ bs.length ≤ 1048576 ∧ lenS ws ws.length ≤ 1048576) (h : ModAns w B hi y0 y1 y2 zs ws bs) : ModAt w y0 y1 y2 zs ws bs := by
  rcases h with ⟨rfl, rfl, rfl, rfl, rfl, rfl⟩ | h
  · exact ⟨⟨by simp, .inl ⟨_, _, rfl, rfl⟩⟩, ⟨by simp, .inl ⟨_, _, rfl, rfl⟩⟩, ⟨by simp, .inl ⟨_, _, rfl, rfl⟩⟩⟩
  · exact modOwn_parts hL.2.2.1 hL.2.1 (lenS_row hL.2.2.2.2) hL.2.2.2.1 h
theorem markRows_none (m : Int) (w : World) (a : Option Addr) (c : Nat) :
    Calls Try.prog 26 #[.slice a 0 c, .int .i64 m] w fun e w' => e = .returned (.int .i64 m) ∧ w = w' := by
  go_enter Try.func26, Try.ntmps26
  go_wp2
  refine wp_loop_rounds 1 ?_
  rw [rounds_succ]
  go_wp2
  go_ret
  exact ⟨rfl, rfl⟩
theorem markMod_nil (m : Int) (w : World) :
    Calls Try.prog 11 #[.agg #[.slice none 0 0, .slice none 0 0, .slice none 0 0], .int .i64 m] w fun e w' => e = .returned (.int .i64 m) ∧ Below w.heap.size w w' := by
  go_enter Try.func11, Try.ntmps11
  go_wp2_with fail
  refine (markI_none m _ none 0).mono ?_
  rintro e w1 ⟨rfl, rfl⟩
  go_wp2_with fail
  refine (markRows_none m _ none 0).mono ?_
  rintro e w1 ⟨rfl, rfl⟩
  go_wp2_with fail
  refine (markI_none m _ none 0).mono ?_
  rintro e w1 ⟨rfl, rfl⟩
  go_wp2
  go_ret
  exact ⟨rfl, below_al _ _⟩
theorem markModA_any (m : Int) (hm : 0 ≤ m ∧ m ≤ 800000000000) (y0 y1 y2 : Value) (zs bs : List Int) (ws : List (List Int)) (B hi : Nat) (w : World) (hT : zs.length + lenS ws ws.length + bs.length ≤ 1048576) (hwl : ws.length ≤ 1048576) (h : ModAns w B hi y0 y1 y2 zs ws bs) :
    Calls Try.prog 11 #[.agg #[y0, y1, y2], .int .i64 m] w fun e w' => e = .returned (.int .i64 (m + (zs.length : Int) + (lenS ws ws.length : Nat) + (bs.length : Int))) ∧
      ModAns w' B hi y0 y1 y2 (marksI m zs.length) (mrows (m + (zs.length : Int)) ws ws.length) (marksI (m + (zs.length : Int) + (lenS ws ws.length : Nat)) bs.length) ∧ Mk B hi w w' := by
  rcases h with ⟨rfl, rfl, rfl, rfl, rfl, rfl⟩ | h
  · refine (markMod_nil m w).mono ?_
    rintro e w' ⟨rfl, hb⟩
    exact ⟨by simp [lenS, sumL], .inl ⟨rfl, rfl, rfl, by simp [marksI], by simp [mrows], by simp [marksI]⟩, mk_of_below hb⟩
  · exact (markMod_any m hm y0 y1 y2 zs bs ws B hi w hT hwl h).mono fun e w' ⟨h1, h2, h3⟩ => ⟨h1, .inr h2, h3⟩
theorem heldRows_none (m : Int) (w : World) (a : Option Addr) (c : Nat) :
    Calls Try.prog 28 #[.slice a 0 c, .int .i64 m] w fun e w' => e = .returned (.int .i64 m) ∧ w = w' := by
  go_enter Try.func28, Try.ntmps28
  go_wp2
  refine wp_loop_rounds 1 ?_
  rw [rounds_succ]
  go_wp2
  go_ret
  exact ⟨rfl, rfl⟩
theorem heldMod_nil (m : Int) (hm : ¬ m < 0) (w : World) :
    Calls Try.prog 12 #[.agg #[.slice none 0 0, .slice none 0 0, .slice none 0 0], .int .i64 m] w fun e w' => e = .returned (.int .i64 m) ∧ Below w.heap.size w w' := by
  go_enter Try.func12, Try.ntmps12
  go_wp2_with fail
  refine (heldI_none m _ none 0).mono ?_
  rintro e w1 ⟨rfl, rfl⟩
  go_wp2_with fail
  refine (heldRows_none m _ none 0).mono ?_
  rintro e w1 ⟨rfl, rfl⟩
  go_wp2_with fail
  refine (heldI_none m _ none 0).mono ?_
  rintro e w1 ⟨rfl, rfl⟩
  go_wp2
  go_ret
  exact ⟨rfl, below_al _ _⟩
theorem heldModA_any (m : Int) (hm : 0 ≤ m ∧ m ≤ 800000000000) (y0 y1 y2 : Value) (zs bs : List Int) (ws : List (List Int)) (B hi : Nat) (w : World) (hT : zs.length + lenS ws ws.length + bs.length ≤ 1048576) (hwl : ws.length ≤ 1048576)
    (h : ModAns w B hi y0 y1 y2 (marksI m zs.length) (mrows (m + (zs.length : Int)) ws ws.length) (marksI (m + (zs.length : Int) + (lenS ws ws.length : Nat)) bs.length)) :
    Calls Try.prog 12 #[.agg #[y0, y1, y2], .int .i64 m] w fun e w' => e = .returned (.int .i64 (m + (zs.length : Int) + (lenS ws ws.length : Nat) + (bs.length : Int))) ∧ Below w.heap.size w w' := by
  rcases h with ⟨rfl, rfl, rfl, h0, h1, h2⟩ | h
  · have e0 : zs.length = 0 := by rw [← marksI_len m zs.length, h0]; rfl
    have e1 : ws.length = 0 := by rw [← mrows_len (m + (zs.length : Int)) ws ws.length, h1]; rfl
    have e2 : bs.length = 0 := by rw [← marksI_len (m + (zs.length : Int) + (lenS ws ws.length : Nat)) bs.length, h2]; rfl
    rw [e0, e1, e2]
    refine (heldMod_nil m (by omega) w).mono ?_
    rintro e w' ⟨rfl, hb⟩
    exact ⟨by simp [lenS, sumL], hb⟩
  · exact heldMod_any m hm y0 y1 y2 zs.length bs.length ws B hi w hT hwl h
end Go.Proofs.Ytpjopfhkgegahaa
