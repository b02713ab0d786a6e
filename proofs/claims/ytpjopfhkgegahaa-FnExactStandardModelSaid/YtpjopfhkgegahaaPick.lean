/- The least and the greatest of some numbers. -/
import Derived.Test.YtpjopfhkgegahaaWithin
namespace Go.Proofs.Ytpjopfhkgegahaa
open Go.ChangeShapes Go.WideShapes Go.ChangeAt Go.RowKit

/-- The list's values, one after the other. -/
def pickLeast (a z : Int) : Int := if z < a then z else a
def pickMost (a z : Int) : Int := if a < z then z else a
theorem fold_snoc (f : Int → Int → Int) (x : Int) (zs : List Int) (k : Nat) (h : k < zs.length) : (zs.take (k + 1)).foldl f x = f ((zs.take k).foldl f x) (zs.getD k 0) := by
  rw [List.take_succ_eq_append_getElem h, List.foldl_append, List.getD_eq_getElem?_getD, List.getElem?_eq_getElem h]; rfl

theorem least_any (x : Int) (zs : List Int) (b off n cap : Nat) (w : World) (hn : zs.length = n) (hbig : n ≤ 9223372036854775807)
    (hc : ∀ j, j < n → w.cell? ⟨b, off + j, none⟩ = some (.int .i64 (zs.getD j 0))) :
    Calls Try.prog 65 #[.int .i64 x, .slice (some ⟨b, off, none⟩) n cap] w fun e w' => e = .returned (.int .i64 (zs.foldl pickLeast x)) ∧ w = w' := by
  have HN := Lib.hid hn
  clear hn
  go_enter Try.func65, Try.ntmps65
  go_wp2
  go_loop [0, 9] (fun a i => ∃ k : Nat, k ≤ n ∧ i = .int .i64 k ∧ a = .int .i64 ((zs.take k).foldl pickLeast x)) (fun _ i => n - (intOf i).toNat)
  case atStart => exact ⟨0, by omega, rfl, rfl⟩
  case round =>
    obtain ⟨k, hk, rfl, rfl⟩ := hrel
    by_cases hlt : k < n
    · have hcell := hc k hlt
      have HS := Lib.hid (fold_snoc pickLeast x zs k (by rw [HN.out]; exact hlt))
      generalize hz : zs.getD k 0 = z at *
      generalize hm : (zs.take k).foldl pickLeast x = m at *
      clear hz hc hm
      by_cases h1 : z < m
      · go_wp2
        go_round
        case rel => exact ⟨k + 1, by omega, by go_num, by rw [HS.out, pickLeast, if_pos h1]⟩
        case measure => simp [intOf]; omega
      · go_wp2
        go_round
        case rel => exact ⟨k + 1, by omega, by go_num, by rw [HS.out, pickLeast, if_neg h1]⟩
        case measure => simp [intOf]; omega
    · have HT := Lib.hid (show (zs.take k).foldl pickLeast x = zs.foldl pickLeast x by rw [List.take_of_length_le (by have := HN.out; omega)])
      clear hc
      generalize hm : (zs.take k).foldl pickLeast x = m at *
      clear hm
      go_wp2
      go_ret
      exact ⟨ret_i64 HT.out, rfl⟩
theorem greatest_any (x : Int) (zs : List Int) (b off n cap : Nat) (w : World) (hn : zs.length = n) (hbig : n ≤ 9223372036854775807)
    (hc : ∀ j, j < n → w.cell? ⟨b, off + j, none⟩ = some (.int .i64 (zs.getD j 0))) :
    Calls Try.prog 64 #[.int .i64 x, .slice (some ⟨b, off, none⟩) n cap] w fun e w' => e = .returned (.int .i64 (zs.foldl pickMost x)) ∧ w = w' := by
  have HN := Lib.hid hn
  clear hn
  go_enter Try.func64, Try.ntmps64
  go_wp2
  go_loop [0, 9] (fun a i => ∃ k : Nat, k ≤ n ∧ i = .int .i64 k ∧ a = .int .i64 ((zs.take k).foldl pickMost x)) (fun _ i => n - (intOf i).toNat)
  case atStart => exact ⟨0, by omega, rfl, rfl⟩
  case round =>
    obtain ⟨k, hk, rfl, rfl⟩ := hrel
    by_cases hlt : k < n
    · have hcell := hc k hlt
      have HS := Lib.hid (fold_snoc pickMost x zs k (by rw [HN.out]; exact hlt))
      generalize hz : zs.getD k 0 = z at *
      generalize hm : (zs.take k).foldl pickMost x = m at *
      clear hz hc hm
      by_cases h1 : m < z
      · go_wp2
        go_round
        case rel => exact ⟨k + 1, by omega, by go_num, by rw [HS.out, pickMost, if_pos h1]⟩
        case measure => simp [intOf]; omega
      · go_wp2
        go_round
        case rel => exact ⟨k + 1, by omega, by go_num, by rw [HS.out, pickMost, if_neg h1]⟩
        case measure => simp [intOf]; omega
    · have HT := Lib.hid (show (zs.take k).foldl pickMost x = zs.foldl pickMost x by rw [List.take_of_length_le (by have := HN.out; omega)])
      clear hc
      generalize hm : (zs.take k).foldl pickMost x = m at *
      clear hm
      go_wp2
      go_ret
      exact ⟨ret_i64 HT.out, rfl⟩
end Go.Proofs.Ytpjopfhkgegahaa
