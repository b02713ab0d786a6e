/- Slices of int64 as lists of numbers: a copy of one; two compared. -/
import Derived.Test.YtpjopfhkgegahaaWithin
import Derived.Test.YtpjopfhkgegahaaLaidOut
import Derived.Laws.AppendOwn
import Derived.OwnWalk
import Derived.Deep.QuietTactic
import Derived.BigQuiet
import Derived.ChangeSlices
import Derived.Carry
import Derived.Laws.IdiomAt
namespace Go.Proofs.Ytpjopfhkgegahaa
open Go.ChangeShapes Go.WideShapes Go.ChangeAt Go.RowKit

theorem infoI64 : (Try.prog.info? 2).map (fun i => (i.zero, i.size, i.bytes)) = some (some (.int .i64 0), 1, 8) := by kernel_rfl
def i64s (zs : List Int) : List Value := zs.map (Value.int .i64)
theorem i64s_get (zs : List Int) (j : Nat) (h : j < zs.length) : (i64s zs)[j]? = some (.int .i64 (zs.getD j 0)) := by simp [i64s, List.getD, h]

/-- The slice v reads as zs. -/
def IntsAt (w : World) (v : Value) (zs : List Int) : Prop :=
  zs.length ≤ 1048576 ∧ ((∃ a c, v = .slice a 0 c ∧ zs = []) ∨ ∃ b off cap, v = .slice (some ⟨b, off, none⟩) zs.length cap ∧ b < w.heap.size ∧ ∀ j, j < zs.length → w.cell? ⟨b, off + j, none⟩ = some (.int .i64 (zs.getD j 0)))
/-- .. in a block of its own, from B on, that may be written. -/
def OwnInts (w : World) (B : Nat) (v : Value) (zs : List Int) : Prop := ∃ g cap, v = .slice (some ⟨g, 0, none⟩) zs.length cap ∧ B ≤ g ∧ g < w.heap.size ∧ w.ownsRow B 2 1 v zs.length (i64s zs)

theorem ints_kept {w w' : World} {v : Value} {zs : List Int} (hb : Below w.heap.size w w') (h : IntsAt w v zs) : IntsAt w' v zs := by
  obtain ⟨hl, h | ⟨b, off, cap, rfl, hlt, hc⟩⟩ := h
  · exact ⟨hl, .inl h⟩
  · exact ⟨hl, .inr ⟨b, off, cap, rfl, by have := hb.size; omega, fun j hj => by rw [hb.cell (p := ⟨b, off + j, none⟩) hlt]; exact hc j hj⟩⟩
theorem own_ints {w : World} {B : Nat} {v : Value} {zs : List Int} (hl : zs.length ≤ 1048576) (h : OwnInts w B v zs) : IntsAt w v zs := by
  obtain ⟨g, cap, rfl, _, hg, hown⟩ := h
  refine ⟨hl, .inr ⟨g, 0, cap, rfl, hg, fun j hj => ?_⟩⟩
  rw [Nat.zero_add, hown.cellAt j (by omega)]
  exact i64s_get zs j hj
theorem own_kept {w w' : World} {B : Nat} {v : Value} {zs : List Int} (hb : Below w.heap.size w w') (h : OwnInts w B v zs) : OwnInts w' B v zs := by
  obtain ⟨g, cap, rfl, h1, h2, hown⟩ := h
  have hs := hb.size
  exact ⟨g, cap, rfl, h1, by omega, hown.kept (row := none) ⟨hb.os, hb.tape, hb.output, hb.size, fun k hk _ => hb.block k hk⟩ (.inr (by simp [Value.ownBlock]))⟩

/-- What the copy holds after k rounds. -/
def copied (zs : List Int) (k : Nat) : List Int := zs.take k ++ List.replicate (zs.length - k) 0
theorem copied_len (zs : List Int) (k : Nat) (h : k ≤ zs.length) : (copied zs k).length = zs.length := by simp [copied]; omega
theorem copied_next (zs : List Int) (k : Nat) (h : k < zs.length) : (i64s (copied zs k)).set k (.int .i64 (zs.getD k 0)) = i64s (copied zs (k + 1)) := by
  unfold copied i64s
  rw [show zs.length - k = zs.length - (k + 1) + 1 from by omega, List.replicate_succ, List.map_append, List.map_cons, List.set_append_right _ _ (by simp; omega), List.length_map, List.length_take,
    Nat.min_eq_left (by omega), Nat.sub_self, List.set_cons_zero, List.take_succ_eq_append_getElem h, List.map_append, List.map_append]
  simp [List.getD, h]
theorem made_ints (n : Nat) : (madeCells (Value.int .i64 0).cells (n * 1)).toList = i64s (List.replicate n 0) := by
  unfold madeCells i64s
  rw [List.map_replicate, Nat.mul_one]
  apply List.ext_getElem?
  intro j
  by_cases h : j < n
  · simp [h, Value.cells, Nat.mod_one]
  · simp [h]

set_option maxHeartbeats 1000000 in
set_option maxRecDepth 100000 in
theorem toInts_some (zs : List Int) (b off cap : Nat) (w : World) (hl : zs.length ≤ 1048576) (hlt : b < w.heap.size) (hc : ∀ j, j < zs.length → w.cell? ⟨b, off + j, none⟩ = some (.int .i64 (zs.getD j 0))) (n : Nat) (hn : Hid (zs.length = n)) :
    Calls Try.prog 6 #[.slice (some ⟨b, off, none⟩) n cap] w fun e w' => ∃ g, e = .returned (.slice (some ⟨g, 0, none⟩) n n) ∧ w.heap.size ≤ g ∧ g < w'.heap.size ∧ w'.ownsRow w.heap.size 2 1 (.slice (some ⟨g, 0, none⟩) n n) n (i64s zs) ∧ Below w.heap.size w w' := by
  obtain ⟨i0, hi, hz0, hz1, hz2⟩ := info_parts infoI64
  have hn1 : n ≤ 1048576 := by rw [← hn.out]; exact hl
  have HC := Lib.hid hc
  clear hc hl
  go_enter Try.func6, Try.ntmps6
  go_wp2_with (at_make; refine wpList_make_full _ rfl _ _ 22 rfl w.heap.size 2 i0 (.int .i64 0) 1 Try.underlying22 hi hz0 hz1 .i64 .i64 _ _ n rfl rfl rfl rfl (by rw [hz2]; omega) (by unfold maxLen; omega) (Nat.le_refl _) ?_; intro w0 hown hgrow)
  have HB0 := Lib.hid ((Below.refl w.heap.size w).grown hgrow (Nat.le_refl _) (fun k hk => by cases hk))
  rw [made_ints] at hown
  have HO0 := Lib.hid (show w0.ownsRow w.heap.size 2 1 (.slice (some ⟨w.heap.size, 0, none⟩) n n) n (i64s (copied zs 0)) by
    unfold copied; rw [hn.out, Nat.sub_zero, List.take_zero, List.nil_append]; exact hown)
  clear hgrow hown
  go_wp2
  go_loopw [4] (fun i wr => ∃ k : Nat, k ≤ n ∧ i = .int .i64 k ∧ wr.ownsRow w.heap.size 2 1 (.slice (some ⟨w.heap.size, 0, none⟩) n n) n (i64s (copied zs k)) ∧ Below w.heap.size w wr) (fun i _ => n - (intOf i).toNat)
  case atStart => exact ⟨0, by omega, rfl, HO0.out, HB0.out⟩
  case round =>
    obtain ⟨k, hk, rfl, hown, hbw⟩ := hrel
    by_cases hlt2 : k < n
    · have hcell : wr.cell? ⟨b, off + k, none⟩ = some (.int .i64 (zs.getD k 0)) := by rw [hbw.cell (p := ⟨b, off + k, none⟩) hlt]; exact HC.out k (by rw [hn.out]; exact hlt2)
      have hf := hown.frozenAt k
      have hat : wr.cell? ⟨w.heap.size, k, none⟩ = (i64s (copied zs k))[k]? := hown.cellAt k (by omega)
      rw [i64s_get _ _ (by rw [copied_len _ _ (by rw [hn.out]; omega), hn.out]; exact hlt2)] at hat
      have HS := Lib.hid (hown.stored k (.int .i64 (zs.getD k 0)))
      have HN := Lib.hid (copied_next zs k (by rw [hn.out]; exact hlt2))
      have HB := Lib.hid hbw
      clear hown hbw
      generalize (copied zs k).getD k 0 = old at *
      generalize zs.getD k 0 = z at *
      go_wp2
      go_roundw
      case rel => exact ⟨k + 1, by omega, by go_num, by rw [← HN.out]; exact HS.out.1, HB.out.setCell (by exact Nat.le_refl _) _⟩
      case measure => simp [intOf]; omega
    · obtain rfl : k = n := by omega
      have HO := Lib.hid hown
      have HB := Lib.hid hbw
      clear hown hbw
      have hc2 : copied zs k = zs := by unfold copied; rw [hn.out, Nat.sub_self]; rw [List.take_of_length_le (by rw [hn.out]; exact Nat.le_refl _)]; simp
      rw [hc2] at HO
      clear hc2
      go_wp2
      go_ret
      exact ⟨w.heap.size, rfl, Nat.le_refl _, (HO.out.lt _ rfl).2, HO.out, HB.out⟩

set_option maxRecDepth 100000 in
theorem toInts_none (a : Option Addr) (c : Nat) (w : World) :
    Calls Try.prog 6 #[.slice a 0 c] w fun e w' => ∃ g, e = .returned (.slice (some ⟨g, 0, none⟩) 0 0) ∧ w.heap.size ≤ g ∧ g < w'.heap.size ∧ w'.ownsRow w.heap.size 2 1 (.slice (some ⟨g, 0, none⟩) 0 0) 0 (i64s []) ∧ Below w.heap.size w w' := by
  obtain ⟨i0, hi, hz0, hz1, hz2⟩ := info_parts infoI64
  go_enter Try.func6, Try.ntmps6
  go_wp2_with (at_make; refine wpList_make_full _ rfl _ _ 22 rfl w.heap.size 2 i0 (.int .i64 0) 1 Try.underlying22 hi hz0 hz1 .i64 .i64 _ _ 0 rfl rfl rfl rfl (by omega) (by unfold maxLen; omega) (Nat.le_refl _) ?_; intro w0 hown hgrow)
  have HB0 := Lib.hid ((Below.refl w.heap.size w).grown hgrow (Nat.le_refl _) (fun k hk => by cases hk))
  rw [made_ints] at hown
  have HO0 := Lib.hid hown
  clear hgrow hown
  go_wp2
  refine wp_loop_rounds 1 ?_
  rw [rounds_succ]
  go_wp2
  go_ret
  exact ⟨w.heap.size, rfl, Nat.le_refl _, (HO0.out.lt _ rfl).2, HO0.out, HB0.out⟩

def CopyPost (w : World) (zs : List Int) (e : Ending) (w' : World) : Prop := ∃ v, e = .returned v ∧ OwnInts w' w.heap.size v zs ∧ Below w.heap.size w w'
theorem toInts_any (zs : List Int) (v : Value) (w : World) (h : IntsAt w v zs) : Calls Try.prog 6 #[v] w (CopyPost w zs) := by
  obtain ⟨hl, ⟨a, c, rfl, rfl⟩ | ⟨b, off, cap, rfl, hlt, hc⟩⟩ := h
  · refine (toInts_none a c w).mono ?_
    rintro e w' ⟨g, rfl, h1, h2, h3, h4⟩
    exact ⟨_, rfl, ⟨g, 0, rfl, h1, h2, h3⟩, h4⟩
  · refine (toInts_some zs b off cap w hl hlt hc _ rfl).mono ?_
    rintro e w' ⟨g, rfl, h1, h2, h3, h4⟩
    exact ⟨_, rfl, ⟨g, _, rfl, h1, h2, h3⟩, h4⟩
set_option maxHeartbeats 1000000 in
theorem eqInts_some (zs : List Int) (b o c b2 o2 c2 : Nat) (w : World) (n : Nat) (hn1 : n ≤ 1048576)
    (h1 : ∀ j, j < n → w.cell? ⟨b, o + j, none⟩ = some (.int .i64 (zs.getD j 0))) (h2 : ∀ j, j < n → w.cell? ⟨b2, o2 + j, none⟩ = some (.int .i64 (zs.getD j 0))) :
    Calls Try.prog 9 #[.slice (some ⟨b, o, none⟩) n c, .slice (some ⟨b2, o2, none⟩) n c2] w fun e w' => e = .returned (.bool true) ∧ Below w.heap.size w w' := by
  have H1 := Lib.hid h1
  have H2 := Lib.hid h2
  clear h1 h2
  have hne : ((n : Int) != n) = false := by simp
  go_enter Try.func9, Try.ntmps9
  go_wp2
  go_loopw [5] (fun i wr => ∃ k m : Nat, k ≤ n ∧ i = .int .i64 k ∧ wr = w.drewN m) (fun i _ => n - (intOf i).toNat)
  case atStart => exact ⟨0, 0, by omega, rfl, rfl⟩
  case round =>
    obtain ⟨k, m, hk, rfl, rfl⟩ := hrel
    by_cases hlt : k < n
    · have hc1 := H1.out k hlt
      have hc2 := H2.out k hlt
      have hz : (zs.getD k 0 != zs.getD k 0) = false := by simp
      generalize zs.getD k 0 = z at *
      have hlt1 : (k : Int) < (n : Int) := by omega
      go_wp2
      go_quiet (fail)
      go_wp2
      go_roundw
      case rel => exact ⟨k + 1, _, by omega, by go_num, rfl⟩
      case measure => simp [intOf]; omega
    · go_wp2
      go_ret
      exact ⟨rfl, below_drewN _ _⟩
theorem eqInts_zero (a a2 : Option Addr) (c c2 : Nat) (w : World) :
    Calls Try.prog 9 #[.slice a 0 c, .slice a2 0 c2] w fun e w' => e = .returned (.bool true) ∧ Below w.heap.size w w' := by
  go_enter Try.func9, Try.ntmps9
  go_wp2
  refine wp_loop_rounds 1 ?_
  rw [rounds_succ]
  go_wp2
  go_ret
  exact ⟨rfl, Below.refl _ _⟩
theorem own_cells {w : World} {B g cap n : Nat} {zs : List Int} (hn : zs.length = n) (hown : w.ownsRow B 2 1 (.slice (some ⟨g, 0, none⟩) n cap) n (i64s zs)) : ∀ j, j < n → w.cell? ⟨g, 0 + j, none⟩ = some (.int .i64 (zs.getD j 0)) := by
  intro j hj
  rw [Nat.zero_add, hown.cellAt j (by omega)]
  exact i64s_get zs j (by omega)
theorem eqInts_own (zs : List Int) (hl : zs.length ≤ 1048576) (B B2 : Nat) (v v2 : Value) (w : World) (h : OwnInts w B v zs) (h2 : OwnInts w B2 v2 zs) :
    Calls Try.prog 9 #[v, v2] w fun e w' => e = .returned (.bool true) ∧ Below w.heap.size w w' := by
  obtain ⟨g, cap, rfl, _, _, hown⟩ := h
  obtain ⟨g2, cap2, rfl, _, _, hown2⟩ := h2
  exact eqInts_some zs g 0 cap g2 0 cap2 w _ hl (own_cells rfl hown) (own_cells rfl hown2)

section
variable {H : Type} {enc : TypeId × Value → H}
/-- An argument of type []int64 as a list of numbers. -/
theorem ints_arg {W : World} {fuel : Nat} {a : Option Addr} {len cap : Nat} {d : DataW H} {p : List MemPlace} (hf : DataW.trod enc Try.prog W 0 (fun _ => true) true fuel 22 (Value.slice a len cap).cells.toList = some (d, p))
    (hlt : ∀ x ∈ p, x.block < W.heap.size) : len ≤ 9223372036854775807 ∧ (len ≤ 1048576 → ∃ zs : List Int, zs.length = len ∧ IntsAt W (.slice a len cap) zs ∧ ∀ z ∈ zs, (Lit.int .i64 z).wf = true) := by
  have hc : Try.prog.cellsOf 2 = 1 := by kernel_rfl
  rcases open_ints Try.underlying22 Try.underlying2 hc hf with ⟨hcs, hx⟩ | ⟨a', len', cap', zs, hcs, _, hl, hm, hz, hx, hcell, hwz⟩
  · simp [Value.cells] at hcs
    obtain ⟨rfl, rfl, rfl⟩ := hcs
    exact ⟨by omega, fun _ => ⟨[], rfl, ⟨by simp, .inl ⟨_, _, rfl, rfl⟩⟩, by simp⟩⟩
  · simp [Value.cells] at hcs
    obtain ⟨rfl, rfl, rfl⟩ := hcs
    simp only [Prod.mk.injEq] at hx
    obtain ⟨rfl, rfl⟩ := hx
    simp only [if_true] at hz
    unfold maxLen at hm
    refine ⟨by omega, fun hs => ⟨zs.take len, by rw [List.length_take]; omega, ⟨by rw [List.length_take]; omega, ?_⟩, fun z hz' => hwz z (List.mem_of_mem_take hz')⟩⟩
    by_cases hl0 : len = 0
    · subst hl0
      exact .inl ⟨_, _, rfl, by simp⟩
    · obtain ⟨b, off, spot⟩ := a'
      have hspot : spot = none := by simpa [Addr.add] using World.cell?_spot (hcell 0 (by omega))
      subst hspot
      have hbW : b < W.heap.size := hlt (.cell b off) (MemPlace.mem_row.2 ⟨0, by omega, by simp⟩)
      have hlen : (zs.take len).length = len := by rw [List.length_take]; omega
      refine .inr ⟨b, off, cap, by rw [hlen], hbW, fun j hj => ?_⟩
      rw [hlen] at hj
      rw [← add_plain, hcell j (by omega), List.getD_eq_getElem?_getD, List.getD_eq_getElem?_getD, List.getElem?_take, if_pos hj]
end
end Go.Proofs.Ytpjopfhkgegahaa
