/- A list of numbers as an answer: a list of the call's own, or none; marks laid into it and looked for again. -/
import Derived.Test.YtpjopfhkgegahaaRingRes
import Derived.Test.YtpjopfhkgegahaaRowsLaw
import Derived.Test.YtpjopfhkgegahaaRingsW
namespace Go.Proofs.Ytpjopfhkgegahaa
open Go.ChangeShapes Go.WideShapes Go.ChangeAt Go.RowKit

/-- Numbers in a block from B on, or none. -/
def Iv (w : World) (B : Nat) (v : Value) (zs : List Int) : Prop :=
  (v = .slice none 0 0 ∧ zs = []) ∨ ∃ g cap T, v = .slice (some ⟨g, 0, none⟩) zs.length cap ∧ B ≤ g ∧ w.ownsRow B T 1 (.slice (some ⟨g, 0, none⟩) zs.length cap) zs.length (i64s zs)
theorem iv_kept {w w' : World} {B : Nat} {v : Value} {zs : List Int} (hb : Below w.heap.size w w') (h : Iv w B v zs) : Iv w' B v zs := by
  rcases h with h | ⟨g, cap, T, h1, h2, h4⟩
  · exact .inl h
  · exact .inr ⟨g, cap, T, h1, h2, row_keep1 hb h4⟩
theorem iv_ints {w : World} {B : Nat} {v : Value} {zs : List Int} (hl : zs.length ≤ 1048576) (h : Iv w B v zs) : IntsAt w v zs := by
  rcases h with ⟨rfl, rfl⟩ | ⟨g, cap, T, rfl, h2, h4⟩
  · exact ⟨by simp, .inl ⟨_, _, rfl, rfl⟩⟩
  · refine ⟨hl, .inr ⟨g, 0, cap, rfl, (h4.lt g rfl).2, fun j hj => ?_⟩⟩
    rw [Nat.zero_add, h4.cellAt j (by omega)]
    exact i64s_get _ j (by omega)
theorem iv_form {w : World} {B : Nat} {v : Value} {zs : List Int} (h : Iv w B v zs) : ∃ a c, v = .slice a zs.length c := by
  rcases h with ⟨rfl, rfl⟩ | ⟨g, cap, T, rfl, _⟩
  · exact ⟨_, _, rfl⟩
  · exact ⟨_, _, rfl⟩
theorem iv_own {w : World} {B : Nat} {v : Value} {zs : List Int} (h : OwnInts w B v zs) : Iv w B v zs := by
  obtain ⟨g, cap, rfl, h1, h2, h3⟩ := h
  exact .inr ⟨g, cap, _, rfl, h1, h3⟩
theorem iv_base {w : World} {B B' : Nat} {v : Value} {zs : List Int} (h : Iv w B v zs) (hB : B' ≤ B) : Iv w B' v zs := by
  rcases h with h | ⟨g, cap, T, h1, h2, h4⟩
  · exact .inl h
  · refine .inr ⟨g, cap, T, h1, by omega, h4.1, ?_⟩
    rcases h4.2 with h | ⟨g', cap', cur, e, hb, rest⟩
    · exact .inl h
    · exact .inr ⟨g', cap', cur, e, by omega, rest⟩
theorem iv_in {w : World} {B : Nat} {v : Value} {zs : List Int} (h : Iv w B v zs) : ∀ k, v.ownBlock = some k → B ≤ k ∧ k < w.heap.size := by
  intro k hk
  rcases h with ⟨rfl, _⟩ | ⟨g, cap, T, rfl, h2, h4⟩
  · simp [Value.ownBlock] at hk
  · simp only [Value.ownBlock, Option.some.injEq] at hk
    subst hk
    exact ⟨h2, (h4.lt g rfl).2⟩
theorem iv_grown {w w' : World} {B : Nat} {v : Value} {zs : List Int} {row : Option Nat} (hg : w.grownBy w' row) (h : Iv w B v zs) (hne : v.ownBlock = none ∨ v.ownBlock ≠ row) : Iv w' B v zs := by
  rcases h with h | ⟨g, cap, T, rfl, h2, h4⟩
  · exact .inl h
  · exact .inr ⟨g, cap, T, rfl, h2, h4.kept hg hne⟩
theorem iv_of_row {w : World} {B g cap n : Nat} {T : TypeId} {zs : List Int} (hn : zs.length = n) (h : w.ownsRow B T 1 (.slice (some ⟨g, 0, none⟩) n cap) n (i64s zs)) : Iv w B (.slice (some ⟨g, 0, none⟩) n cap) zs := by
  subst hn
  exact .inr ⟨g, cap, T, rfl, (h.lt g rfl).1, h⟩
/-- The answer: a list of the call's own and a code. -/
def IntU (L : List Int) (c : Int) (w : World) (e : Ending) (w' : World) : Prop := ∃ v, e = .returned (.tuple #[v, .int .i64 c]) ∧ Iv w' w.heap.size v L ∧ Below w.heap.size w w'
def marksToI (zs : List Int) (m : Int) (k : Nat) : List Int := (List.range k).map (fun (j : Nat) => m + (j : Int)) ++ zs.drop k
def marksI (m : Int) (n : Nat) : List Int := (List.range n).map (fun (j : Nat) => m + (j : Int))
theorem marksI_next (zs : List Int) (m : Int) (k : Nat) (h : k < zs.length) : (i64s (marksToI zs m k)).set k (.int .i64 (m + k)) = i64s (marksToI zs m (k + 1)) := by
  unfold marksToI i64s
  rw [List.drop_eq_getElem_cons h, List.range_succ, List.map_append, List.map_append, List.map_cons, List.set_append_right _ _ (by simp)]
  simp
theorem marksI_at (zs : List Int) (m : Int) (k : Nat) (h : k < zs.length) : ∃ old, (i64s (marksToI zs m k))[k]? = some (.int .i64 old) := by
  refine ⟨(marksToI zs m k).getD k 0, i64s_get _ k ?_⟩
  unfold marksToI
  rw [List.length_append, List.length_map, List.length_range, List.length_drop]; omega
theorem marksI_len (m : Int) (n : Nat) : (marksI m n).length = n := by simp [marksI]
theorem marksI_get (m : Int) (n j : Nat) (h : j < n) : (marksI m n).getD j 0 = m + j := by simp [marksI, List.getD, h]
set_option maxHeartbeats 1000000 in
theorem markI_some (T : TypeId) (zs : List Int) (m : Int) (B g cap n : Nat) (w : World) (hm : 0 ≤ m ∧ m ≤ 1000000000000) (hn : Hid (zs.length = n)) (hn1 : n ≤ 1048576) (hown : w.ownsRow B T 1 (.slice (some ⟨g, 0, none⟩) n cap) n (i64s zs)) :
    Calls Try.prog 10 #[.slice (some ⟨g, 0, none⟩) n cap, .int .i64 m] w fun e w' => e = .returned (.int .i64 (m + n)) ∧ w'.ownsRow B T 1 (.slice (some ⟨g, 0, none⟩) n cap) n (i64s (marksI m n)) ∧ w.grownBy w' (some g) := by
  have HO0 := Lib.hid hown
  clear hown
  go_enter Try.func10, Try.ntmps10
  go_wp2
  go_loopw [1, 5] (fun v i wr => ∃ k : Nat, k ≤ n ∧ i = .int .i64 k ∧ v = .int .i64 (m + k) ∧ wr.ownsRow B T 1 (.slice (some ⟨g, 0, none⟩) n cap) n (i64s (marksToI zs m k)) ∧ w.grownBy wr (some g)) (fun _ i _ => n - (intOf i).toNat)
  case atStart => exact ⟨0, by omega, rfl, by congr 1; omega, HO0.out, gb_refl _ _⟩
  case round =>
    obtain ⟨k, hk, rfl, rfl, hown, hbw⟩ := hrel
    have HO := Lib.hid hown
    have HB := Lib.hid hbw
    by_cases hlt : k < n
    · have hf := hown.frozenAt k
      have hat : wr.cell? ⟨g, k, none⟩ = (i64s (marksToI zs m k))[k]? := hown.cellAt k (by omega)
      obtain ⟨old, hold⟩ := marksI_at zs m k (by rw [hn.out]; exact hlt)
      rw [hold] at hat
      have HS := Lib.hid (HO.out.stored k (.int .i64 (m + k)))
      have HN := Lib.hid (marksI_next zs m k (by rw [hn.out]; exact hlt))
      clear hold hown hbw
      go_wp2
      go_roundw
      case rel => exact ⟨k + 1, by omega, by go_num, by congr 1; omega, by rw [← HN.out]; exact HS.out.1, gb_set _ _ HB.out⟩
      case measure => simp [intOf]; omega
    · obtain rfl : k = n := by omega
      clear hown hbw
      have he : marksToI zs m k = marksI m k := by unfold marksToI marksI; rw [List.drop_of_length_le (by rw [hn.out]; exact Nat.le_refl _)]; simp
      rw [he] at HO
      clear he
      go_wp2
      go_ret
      exact ⟨rfl, HO.out, HB.out⟩
theorem markI_none (m : Int) (w : World) (a : Option Addr) (c : Nat) :
    Calls Try.prog 10 #[.slice a 0 c, .int .i64 m] w fun e w' => e = .returned (.int .i64 m) ∧ w = w' := by
  go_enter Try.func10, Try.ntmps10
  go_wp2
  refine wp_loop_rounds 1 ?_
  rw [rounds_succ]
  go_wp2
  go_ret
  exact ⟨rfl, rfl⟩
theorem markIv_any (m : Int) (hm : 0 ≤ m ∧ m ≤ 1000000000000) (v : Value) (zs : List Int) (B : Nat) (w : World) (hl : zs.length ≤ 1048576) (h : Iv w B v zs) :
    Calls Try.prog 10 #[v, .int .i64 m] w fun e w' => e = .returned (.int .i64 (m + zs.length)) ∧ Iv w' B v (marksI m zs.length) ∧ w.grownBy w' v.ownBlock := by
  rcases h with ⟨rfl, rfl⟩ | ⟨g, cap, T, rfl, h2, h4⟩
  · refine (markI_none m w none 0).mono ?_
    rintro e w' ⟨rfl, rfl⟩
    exact ⟨by simp, .inl ⟨rfl, rfl⟩, gb_refl _ _⟩
  · obtain ⟨n, hn⟩ : ∃ n, zs.length = n := ⟨_, rfl⟩
    rw [hn] at h4 hl ⊢
    refine (markI_some T zs m B g cap n w hm (Lib.hid hn) (by omega) h4).mono ?_
    rintro e w' ⟨rfl, h5, h6⟩
    exact ⟨rfl, .inr ⟨g, cap, T, by rw [marksI_len], h2, by rw [marksI_len]; exact h5⟩, h6⟩
theorem markOwn_any (m : Int) (hm : 0 ≤ m ∧ m ≤ 1000000000000) (v : Value) (zs : List Int) (B : Nat) (w : World) (hl : zs.length ≤ 1048576) (h : OwnInts w B v zs) :
    Calls Try.prog 10 #[v, .int .i64 m] w fun e w' => e = .returned (.int .i64 (m + zs.length)) ∧ OwnInts w' B v (marksI m zs.length) ∧ w.grownBy w' v.ownBlock := by
  obtain ⟨g, cap, rfl, h1, h2, h3⟩ := h
  obtain ⟨n, hn⟩ : ∃ n, zs.length = n := ⟨_, rfl⟩
  rw [hn] at h3 hl ⊢
  refine (markI_some _ zs m B g cap n w hm (Lib.hid hn) (by omega) h3).mono ?_
  rintro e w' ⟨rfl, h5, h6⟩
  exact ⟨rfl, ⟨g, cap, by rw [marksI_len], h1, Nat.lt_of_lt_of_le h2 h6.size, by rw [marksI_len]; exact h5⟩, h6⟩
set_option maxHeartbeats 1000000 in
theorem heldI_some (T : TypeId) (m : Int) (B g cap n : Nat) (w : World) (hm : 0 ≤ m ∧ m ≤ 1000000000000) (hn1 : n ≤ 1048576) (hown : w.ownsRow B T 1 (.slice (some ⟨g, 0, none⟩) n cap) n (i64s (marksI m n))) :
    Calls Try.prog 27 #[.slice (some ⟨g, 0, none⟩) n cap, .int .i64 m] w fun e w' => e = .returned (.int .i64 (m + n)) ∧ w = w' := by
  have HO := Lib.hid hown
  clear hown
  go_enter Try.func27, Try.ntmps27
  go_wp2
  go_loop [1, 5] (fun v i => ∃ k : Nat, k ≤ n ∧ i = .int .i64 k ∧ v = .int .i64 (m + k)) (fun _ i => n - (intOf i).toNat)
  case atStart => exact ⟨0, by omega, rfl, by congr 1; omega⟩
  case round =>
    obtain ⟨k, hk, rfl, rfl⟩ := hrel
    by_cases hlt : k < n
    · have hcell : w.cell? ⟨g, k, none⟩ = some (.int .i64 (m + k)) := by
        rw [HO.out.cellAt k (by omega), i64s_get _ k (by rw [marksI_len]; exact hlt), marksI_get m n k hlt]
      have hz : ((m + (k : Int)) != (m + k)) = false := by simp
      go_wp2
      go_round
      case rel => exact ⟨k + 1, by omega, by go_num, by congr 1; omega⟩
      case measure => simp [intOf]; omega
    · obtain rfl : k = n := by omega
      go_wp2
      go_ret
      exact ⟨rfl, rfl⟩
theorem heldI_none (m : Int) (w : World) (a : Option Addr) (c : Nat) :
    Calls Try.prog 27 #[.slice a 0 c, .int .i64 m] w fun e w' => e = .returned (.int .i64 m) ∧ w = w' := by
  go_enter Try.func27, Try.ntmps27
  go_wp2
  refine wp_loop_rounds 1 ?_
  rw [rounds_succ]
  go_wp2
  go_ret
  exact ⟨rfl, rfl⟩
theorem heldIv_any (m : Int) (hm : 0 ≤ m ∧ m ≤ 1000000000000) (v : Value) (n : Nat) (B : Nat) (w : World) (hl : n ≤ 1048576) (h : Iv w B v (marksI m n)) :
    Calls Try.prog 27 #[v, .int .i64 m] w fun e w' => e = .returned (.int .i64 (m + n)) ∧ w = w' := by
  rcases h with ⟨rfl, h1⟩ | ⟨g, cap, T, rfl, h2, h4⟩
  · have hn : n = 0 := by have := marksI_len m n; rw [h1] at this; simpa using this.symm
    subst hn
    refine (heldI_none m w none 0).mono ?_
    rintro e w' ⟨rfl, rfl⟩
    exact ⟨by simp, rfl⟩
  · rw [marksI_len] at h4 ⊢
    exact heldI_some T m B g cap n w hm (by omega) h4
end Go.Proofs.Ytpjopfhkgegahaa
