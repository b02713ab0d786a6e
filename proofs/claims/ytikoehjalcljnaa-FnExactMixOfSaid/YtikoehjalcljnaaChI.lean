/- Choices: indices, choiceOf; what ingots are together: plus, metalIn, alloy, fits. -/
import Derived.Test.YtikoehjalcljnaaChB
import Derived.Test.YtikoehjalcljnaaDem
import Derived.Deep.RegionHeld3
import Derived.BigRegion
set_option linter.unusedVariables false
namespace Go.Proofs.Ytikoehjalcljnaa
open Go.ChangeShapes Go.WideShapes Go.ChangeAt Go.RowKit

theorem cell_oneC (w : World) (z : Int) (T : TypeId) : ∀ (j : Nat) (u : Value), ([Value.int .i64 z] : List Value)[j]? = some u → (w.alloc (.cells #[.int .i64 z] T)).cell? ((⟨w.heap.size, 0, none⟩ : Addr).add j) = some u := by
  intro j u hj
  match j, hj with
  | 0, hj => simp at hj; subst hj; simp [Addr.add]
  | j + 1, hj => simp at hj
theorem own_someC {w : World} {B : Nat} {T : TypeId} {v : Value} {n : Nat} {xs : List Value} (h : w.ownsRow B T 1 v n xs) (hn : 1 ≤ n) : ∃ g cap, v = .slice (some ⟨g, 0, none⟩) n cap ∧ B ≤ g ∧ g < w.heap.size := by
  obtain ⟨h1, h2 | ⟨g, cap, cur, h3, h4, h5⟩⟩ := h
  · omega
  · subst h3
    have := (World.ownsRow.lt (⟨h1, .inr ⟨g, cap, cur, rfl, h4, h5⟩⟩ : w.ownsRow B T 1 (.slice (some ⟨g, 0, none⟩) n cap) n xs) g rfl)
    exact ⟨g, cap, rfl, this.1, this.2⟩
theorem i64s_snoc (zs : List Int) (z : Int) : i64s (zs ++ [z]) = i64s zs ++ [.int .i64 z] := by simp [i64s]
def IdxPost (zs : List Int) (w : World) (e : Ending) (w' : World) : Prop := ∃ v, e = .returned v ∧ ((zs = [] ∧ ∃ a m, v = .slice a 0 m) ∨ ∃ g cap, v = .slice (some ⟨g, 0, none⟩) zs.length cap ∧ w.heap.size ≤ g ∧ g < w'.heap.size ∧ ∀ j, j < zs.length → w'.cell? ⟨g, j, none⟩ = some (.int .i64 (zs.getD j 0))) ∧ Below w.heap.size w w'
set_option maxRecDepth 20000 in
set_option maxHeartbeats 4000000 in
theorem indices_any (c : Nat) (w : World) (hc : c < 65536) :
    Calls Try.prog 81 #[.int .u16 (c : Int)] w (IdxPost (idxs c 16) w) := by
  obtain ⟨i0, hi, hz0, hz1, hz2⟩ := info_parts infoI64
  go_enter Try.func81, Try.ntmps81
  go_wp2_with fail
  refine (ones_any c _ hc).mono ?_
  rintro e w1 ⟨⟨m, hm, rfl⟩, kd, rfl⟩
  go_wp2_with (at_make; refine wpList_make_own _ rfl _ _ 63 rfl w.heap.size 2 i0 (.int .i64 0) 1 Try.underlying63 hi hz0 hz1 .i64 .i64 (m : Int) m rfl rfl rfl (by rw [hz2]; omega) (by unfold maxLen; omega) (Nat.le_refl _) ?_; intro w0 hown hgrow)
  have HB0 := Lib.hid (below_of (below_drewNG w kd) ((Below.refl (w.drewN kd).heap.size (w.drewN kd)).grown hgrow (Nat.le_refl _) (fun k hk => by cases hk)) (Nat.le_refl _))
  have HO0 := Lib.hid (show w0.ownsRow w.heap.size 2 1 (.slice (some ⟨w.heap.size, 0, none⟩) 0 m) (idxs c 0).length (i64s (idxs c 0)) from hown)
  clear hgrow hown
  go_wp2
  go_loopw [3, 8] (fun v i wr => ∃ k : Nat, k ≤ 16 ∧ i = .int .i64 k ∧ Hid (wr.ownsRow w.heap.size 2 1 v (idxs c k).length (i64s (idxs c k))) ∧ Hid (idxs c k = [] → ∃ a m, v = .slice a 0 m) ∧ Below w.heap.size w wr) (fun _ i _ => 16 - (intOf i).toNat)
  case atStart => exact ⟨0, by omega, rfl, HO0, Lib.hid (fun _ => ⟨_, _, rfl⟩), HB0.out⟩
  case round =>
    obtain ⟨k, hk, rfl, HO, HF, hbw⟩ := hrel
    have HB := Lib.hid hbw
    have hsz := hbw.size
    clear hbw
    by_cases hlt : k < 16
    · have hkm : (k : Int) < 16 := by omega
      rcases Bool.eq_false_or_eq_true (c.testBit k) with hb | hb
      · have HT := Lib.hid hb
        have HE := Lib.hid (idxs_yes hb)
        have hll := idxs_len c k
        clear hb
        go_wp2_with fail
        refine (has_any c k _ hc hlt).mono ?_
        rintro e w2 ⟨rfl, rfl⟩
        rw [HT.out]
        go_wp2_with (at_builtin; refine wpList_append_own _ rfl _ _ 63 rfl w.heap.size 2 i0 (.int .i64 0) 1 8 Try.underlying63 hi hz0 hz1 hz2 rfl (by decide) _ _ _ rfl (HO.out.alloc _) ⟨_, 0, none⟩ 1 1 [.int .i64 (k : Int)] rfl rfl (cell_oneC _ _ _) ?c2 ?c3 ?c4 ?c5 ?_)
        case c2 => first | rfl | (intro u hu; simp at hu; subst hu; rfl)
        case c3 => unfold maxLen; omega
        case c4 => omega
        case c5 => first | omega | (simp; omega)
        intro v4 w4 hown4 hgrow4 _
        have HO4 := Lib.hid (show w4.ownsRow w.heap.size 2 1 v4 (idxs c (k + 1)).length (i64s (idxs c (k + 1))) by rw [HE.out, i64s_snoc, List.length_append]; exact hown4)
        have HB4 := Lib.hid ((HB.out.alloc (by omega) _).grown hgrow4 (by simp; omega) (fun k hk => (HO.out.lt k hk).1))
        have HN := Lib.hid (show idxs c (k + 1) = [] → ∃ a m, v4 = .slice a 0 m from fun h => by rw [HE.out] at h; simp at h)
        clear hown4 hgrow4 hll
        go_wp2
        go_roundw
        case rel => exact ⟨k + 1, by omega, by go_num, HO4, HN, HB4.out⟩
        case measure => simp [intOf]; omega
      · have HT := Lib.hid hb
        have HE := Lib.hid (idxs_no hb)
        clear hb
        go_wp2_with fail
        refine (has_any c k _ hc hlt).mono ?_
        rintro e w2 ⟨rfl, rfl⟩
        rw [HT.out]
        go_wp2
        go_roundw
        case rel => exact ⟨k + 1, by omega, by go_num, by rw [HE.out]; exact HO, by rw [HE.out]; exact HF, HB.out⟩
        case measure => simp [intOf]; omega
    · obtain rfl : k = 16 := by omega
      have hl16 := idxs_len c 16
      generalize idxs c 16 = zs at *
      go_wp2
      go_ret
      refine ⟨_, rfl, ?_, HB.out⟩
      by_cases hz : zs = []
      · obtain ⟨a, m2, hv⟩ := HF.out hz
        exact .inl ⟨hz, a, m2, hv⟩
      · have h1 : 1 ≤ zs.length := by cases zs with | nil => exact absurd rfl hz | cons a l => simp
        have hO := HO.out
        obtain ⟨g, cap, rfl, hg1, hg2⟩ := own_someC hO h1
        exact .inr ⟨g, cap, rfl, hg1, hg2, fun j hj => by rw [hO.cellAt j (by omega)]; exact i64s_get _ j hj⟩
/-- What choiceOf answers. -/
def chB (L : Nat) (zs : List Int) : Bool := risesB 0 ((L : Int) - 1) zs
def chC (L : Nat) (zs : List Int) : Nat := if chB L zs = true then bitsTo zs zs.length else 0
theorem rise_of {L : Nat} {zs : List Int} (h : chB L zs = true) : RiseTo L zs zs.length := fun j hj => rises_at h j hj
theorem ret_choice {a b : Int} {x y : Bool} (h : a = b) (k : x = y) : Ending.returned (.tuple #[.int .u16 a, .bool x]) = .returned (.tuple #[.int .u16 b, .bool y]) := by rw [h, k]
set_option maxRecDepth 20000 in
set_option maxHeartbeats 4000000 in
theorem choiceOf_some (a : Option Addr) (L cl : Nat) (zs : List Int) (b off cap n : Nat) (w : World) (hL : L ≤ 16) (hn : zs.length = n) (hn1 : n ≤ 1048576) (hb : b < w.heap.size) (hc : ∀ j, j < n → w.cell? ⟨b, off + j, none⟩ = some (.int .i64 (zs.getD j 0))) :
    Calls Try.prog 62 #[.slice a L cl, .slice (some ⟨b, off, none⟩) n cap] w fun e w' => e = .returned (.tuple #[.int .u16 (chC L zs : Nat), .bool (chB L zs)]) ∧ Below w.heap.size w w' := by
  have HC := Lib.hid hc
  have HN := Lib.hid hn
  clear hc hn
  go_enter Try.func62, Try.ntmps62
  go_wp2
  go_loopw [6, 11] (fun cv i wr => ∃ (k c : Nat), k ≤ n ∧ i = .int .i64 k ∧ cv = .int .u16 (c : Int) ∧ Hid (c = bitsTo zs k) ∧ Hid (RiseTo L zs k) ∧ Below w.heap.size w wr) (fun _ i _ => n - (intOf i).toNat)
  case atStart => exact ⟨0, 0, by omega, rfl, rfl, Lib.hid rfl, Lib.hid (fun j hj => by omega), Below.refl _ _⟩
  case round =>
    obtain ⟨k, c, hk, rfl, rfl, HCB, HR, hbw⟩ := hrel
    have HB := Lib.hid hbw
    have hcc : c < 65536 := by rw [HCB.out]; exact bitsTo_lt hL HR.out
    by_cases hlt : k < n
    · have hcell := (below_cell (by exact (show Below w.heap.size w wr from hbw)) b (off + k) hb).trans (HC.out k hlt)
      have hkm : (k : Int) < (n : Int) := by omega
      have hk0 : (0 : Int) ≤ (k : Int) := by omega
      have hlb : Lib.bitLen c ≤ 16 := Lib.bitLen_le c 16 (by omega) (by simpa using hcc)
      have hir := in_rise hL HR.out
      rw [← HCB.out] at hir
      obtain ⟨z, hz⟩ : ∃ z, zs.getD k 0 = z := ⟨_, rfl⟩
      obtain ⟨bl, hbl⟩ : ∃ bl, Lib.bitLen c = bl := ⟨_, rfl⟩
      have HLA := Lib.hid (fun W => last_any c W hcc)
      rw [hz] at hcell hir
      rw [hbl] at hlb hir HLA
      have HZ := Lib.hid hz
      clear hbl hz hbw
      rcases Bool.eq_false_or_eq_true (riseAt 0 ((L : Int) - 1) zs k) with hr | hr
      · have HRA := Lib.hid hr
        rw [hr] at hir
        have hzb : 0 ≤ z ∧ z < L := by have := inB_iff.1 hir; omega
        obtain ⟨zn, rfl⟩ := Int.eq_ofNat_of_zero_le hzb.1
        have HW := Lib.hid (show ∀ (lo hi : Int) (W : World), lo = (bl : Int) → hi = (L : Int) - 1 → Calls Try.prog 52 #[.int .i64 lo, .int .i64 hi, .slice (some ⟨W.heap.size, 0, none⟩) 1 1] (W.alloc (.cells #[.int .i64 (zn : Int)] 2)) fun e w' => e = .returned (.bool true) ∧ W.alloc (.cells #[.int .i64 (zn : Int)] 2) = w' from fun lo hi W h1 h2 => by
          subst h1 h2
          refine (within_i64 _ _ [(zn : Int)] _ 0 1 1 _ rfl (by omega) (cellI1G _ _ _ _ rfl)).mono ?_
          rintro e w' ⟨rfl, rfl⟩
          exact ⟨by rw [allI1G, hir], rfl⟩)
        have HN2 := Lib.hid (show c ||| 2 ^ zn = bitsTo zs (k + 1) by rw [bitsTo, HZ.out, ← HCB.out]; simp)
        have HR2 := Lib.hid (show RiseTo L zs (k + 1) from fun j hj => by
          by_cases e : j = k
          · subst e; exact HRA.out
          · exact HR.out j (by omega))
        have hz16 : zn < 16 := by omega
        have hAL := below_alG wr (.cells #[.int .i64 (zn : Int)] 2)
        have HB2 := Lib.hid (below_of HB.out hAL HB.out.size)
        clear hir hr hAL
        go_wp2_with fail
        refine (HLA.out _).mono ?_
        rintro e w2 ⟨rfl, rfl⟩
        go_wp2_with fail
        refine ((HW.out _ _ _ (by first | rfl | omega) (by first | rfl | omega)).mono ?_)
        rintro e w2 ⟨rfl, rfl⟩
        go_wp2_with fail
        refine (with_any c zn _ hcc hz16).mono ?_
        rintro e w2 ⟨rfl, rfl⟩
        go_wp2
        go_roundw
        case rel => exact ⟨k + 1, c ||| 2 ^ zn, by omega, by go_num, rfl, HN2, HR2, HB2.out⟩
        case measure => simp [intOf]; omega
      · have HF := Lib.hid (show chB L zs = false from rises_false (by rw [HN.out]; exact hlt) hr)
        have HF2 := Lib.hid (show chC L zs = 0 by unfold chC; rw [HF.out]; rfl)
        rw [hr] at hir
        have HW := Lib.hid (show ∀ (lo hi : Int) (W : World), lo = (bl : Int) → hi = (L : Int) - 1 → Calls Try.prog 52 #[.int .i64 lo, .int .i64 hi, .slice (some ⟨W.heap.size, 0, none⟩) 1 1] (W.alloc (.cells #[.int .i64 z] 2)) fun e w' => e = .returned (.bool false) ∧ W.alloc (.cells #[.int .i64 z] 2) = w' from fun lo hi W h1 h2 => by
          subst h1 h2
          refine (within_i64 _ _ [z] _ 0 1 1 _ rfl (by omega) (cellI1G _ _ _ _ rfl)).mono ?_
          rintro e w' ⟨rfl, rfl⟩
          exact ⟨by rw [allI1G, hir], rfl⟩)
        have hAL := below_alG wr (.cells #[.int .i64 z] 2)
        have HB2 := Lib.hid (below_of HB.out hAL HB.out.size)
        clear hir hr hAL
        go_wp2_with fail
        refine (HLA.out _).mono ?_
        rintro e w2 ⟨rfl, rfl⟩
        go_wp2_with fail
        refine ((HW.out _ _ _ (by first | rfl | omega) (by first | rfl | omega)).mono ?_)
        rintro e w2 ⟨rfl, rfl⟩
        go_wp2
        go_ret2
        exact ⟨ret_choice (by rw [HF2.out]; rfl) HF.out.symm, HB2.out⟩
    · obtain rfl : k = n := by omega
      have HF := Lib.hid (show chB L zs = true from rises_true (fun j hj => HR.out j (by rw [HN.out] at hj; exact hj)))
      have HF2 := Lib.hid (show chC L zs = c by unfold chC; rw [HF.out, HCB.out, HN.out]; rfl)
      clear hbw
      go_wp2
      go_ret2
      exact ⟨ret_choice (by rw [HF2.out]) HF.out.symm, HB.out⟩
theorem choiceOf_none (a : Option Addr) (L cl : Nat) (a2 : Option Addr) (cap : Nat) (w : World) :
    Calls Try.prog 62 #[.slice a L cl, .slice a2 0 cap] w fun e w' => e = .returned (.tuple #[.int .u16 (chC L [] : Nat), .bool (chB L [])]) ∧ Below w.heap.size w w' := by
  go_enter Try.func62, Try.ntmps62
  go_wp2
  refine wp_loop_rounds 1 ?_
  rw [rounds_succ]
  go_wp2
  go_ret2
  exact ⟨rfl, Below.refl _ _⟩
theorem choiceOf_any (a : Option Addr) (L cl : Nat) (zs : List Int) (v : Value) (w : World) (hL : L ≤ 16) (h : IntsAt w v zs) :
    Calls Try.prog 62 #[.slice a L cl, v] w fun e w' => e = .returned (.tuple #[.int .u16 (chC L zs : Nat), .bool (chB L zs)]) ∧ Below w.heap.size w w' := by
  obtain ⟨hl, ⟨a2, c2, rfl, rfl⟩ | ⟨b, off, cap, rfl, hb, hc⟩⟩ := h
  · exact choiceOf_none a L cl a2 c2 w
  · exact choiceOf_some a L cl zs b off cap _ w hL rfl hl hb hc
end Go.Proofs.Ytikoehjalcljnaa
