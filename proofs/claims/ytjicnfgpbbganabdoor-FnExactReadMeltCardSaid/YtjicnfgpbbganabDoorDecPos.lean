/- The reference model writes a number in decimal: the walks, for numbers above and below 0 and for 0. -/
import Derived.Test.YtjicnfgpbbganabDoorDecSpec
namespace Go.Proofs.YtjicnfgpbbganabDoor
open Go.ChangeShapes Go.WideShapes Go.ChangeAt Go.RowKit

theorem ret_string {a b : ByteArray} (h : a = b) : Ending.returned (.string a) = .returned (.string b) := by rw [h]
theorem u8s_snoc (l : List UInt8) (d : Nat) (h : d ≤ 9) : u8s (l ++ [UInt8.ofNat (48 + d)]) = u8s l ++ [.int .u8 (48 + (d : Int))] := by
  simp only [u8s, List.map_append, List.map_cons, List.map_nil, digit_u8 d h]
theorem u8s_one (l : List UInt8) (b : UInt8) : u8s (l ++ [b]) = u8s l ++ [.int .u8 (b.toNat : Int)] := by simp [u8s]
theorem u8s_get (l : List UInt8) (j : Nat) (h : j < l.length) : (u8s l)[j]? = some (.int .u8 ((l.getD j 0).toNat : Int)) := by
  simp [u8s, List.getD, h]
theorem dec_ne (N : Nat) : Lib.decDigits N ≠ [] := by
  by_cases h : N < 10
  · rw [dec_small N h]; simp
  · rw [dec_step N h]; simp
theorem end_pos (N : Nat) (ds : List UInt8) (h : DecInv N 0 ds) : 1 ≤ ds.length := by
  have e := inv_end N ds h
  have h1 := dec_ne N
  rw [← e] at h1
  cases ds with
  | nil => simp at h1
  | cons a l => simp
theorem own_some {w : World} {base n : Nat} {e : TypeId} {v : Value} {xs : List Value} (h : w.ownsRow base e 1 v n xs) (hn : 1 ≤ n) : ∃ g cap, v = .slice (some ⟨g, 0, none⟩) n cap ∧ base ≤ g ∧ g < w.heap.size ∧ n ≤ cap := by
  obtain ⟨_, h2⟩ := h
  rcases h2 with ⟨_, h0⟩ | ⟨g, cap, cur, rfl, hb, hh, hn', _⟩
  · omega
  · refine ⟨g, cap, rfl, hb, ?_, hn'⟩
    rcases Nat.lt_or_ge g w.heap.size with hlt | hge
    · exact hlt
    · rw [Array.getElem?_eq_none hge] at hh; cases hh
theorem rev_step (l : List UInt8) (k : Nat) (h : k < l.length) : (l.drop k).reverse = (l.drop (k + 1)).reverse ++ [l.getD k 0] := by
  rw [List.drop_eq_getElem_cons h, List.reverse_cons]
  simp [List.getD, h]
theorem c1_of (w : World) (x : Value) (T : TypeId) : ∀ (j : Nat) (u : Value), ([x] : List Value)[j]? = some u → (w.alloc (.cells #[x] T)).cell? ((⟨w.heap.size, 0, none⟩ : Addr).add j) = some u := by
  intro j u hj
  match j, hj with
  | 0, hj => simp at hj; subst hj; simp [Addr.add]
  | j + 1, hj => simp at hj
end Go.Proofs.YtjicnfgpbbganabDoor
