/- How far the partials of a sound are from ideal ones: the reference model's walk. -/
import Derived.Test.YtmkopmdeelfmgaaKinds
import Derived.Test.YtmkopmdeelfmgaaSndValid
import Derived.Test.YtmkopmdeelfmgaaCents
import Derived.Deep.AppendLies
import Derived.Deep.RegionHeld3
namespace Go.Proofs.Ytmkopmdeelfmgaa
open Go.ChangeShapes Go.WideShapes Go.ChangeAt Go.RowKit

def devAt (zs : List Int) (s k : Int) (j : Nat) : Int := logV (zs.getD j 0) - logV s - (offL k).getD j 0
def devL (zs : List Int) (s k : Int) : List Int := (List.range 5).map (devAt zs s k)
theorem dev_len (zs : List Int) (s k : Int) : (devL zs s k).length = 5 := by simp [devL]
theorem dev_get (zs : List Int) (s k : Int) (j : Nat) (h : j < 5) : (devL zs s k).getD j 0 = devAt zs s k j := by simp [devL, List.getD, h]
theorem dev_next (zs : List Int) (s k : Int) (j : Nat) (h : j < 5) : i64s ((devL zs s k).take (j + 1)) = i64s ((devL zs s k).take j) ++ [.int .i64 (devAt zs s k j)] := by
  have hl : j < (devL zs s k).length := by rw [dev_len]; exact h
  have e : (devL zs s k)[j] = devAt zs s k j := by simp [devL]
  rw [List.take_succ_eq_append_getElem hl, e]
  simp [i64s]
theorem snd_at {a b c e f : Int} (h : sndB a b c e f = true) (j : Nat) (hj : j < 5) : 10000 ≤ [a, b, c, e, f].getD j 0 ∧ [a, b, c, e, f].getD j 0 ≤ 20000000 :=
  idx5 (a := a) (b := b) (c := c) (e := e) (f := f) hj (all5_iff.2 (snd_iff.1 h).1)
theorem dev_bds {a b c e f : Int} (h : sndB a b c e f = true) {s k : Int} (s0 : 10000 ≤ s) (s1 : s ≤ 20000000) (j : Nat) (hj : j < 5) : -1000000 ≤ devAt [a, b, c, e, f] s k j ∧ devAt [a, b, c, e, f] s k j ≤ 1000000 := by
  have x := snd_at h j hj
  have l1 := log_bd (show 0 < [a, b, c, e, f].getD j 0 by omega) (by omega)
  have l2 := log_bd (show 0 < s by omega) (by omega)
  have o := off_at k j hj
  unfold devAt
  omega
theorem row_news {w : World} {x : Int} {T : TypeId} {w2 : World} (h : w2 = w.alloc (.cells #[.int .i64 x] T)) : ∀ j u, ([Value.int .i64 x] : List Value)[j]? = some u → w2.drew.cell? ((⟨w.heap.size, 0, none⟩ : Addr).add j) = some u := by
  subst h
  intro j u hu
  match j, hu with
  | 0, hu => simp at hu; subst hu; simp [Addr.add]
  | j + 1, hu => simp at hu

theorem far_of {w : World} {B g : Nat} {e : TypeId} {v : Value} {n : Nat} {xs : List Value} (h : w.ownsRow B e 1 v n xs) (hg : g < B) : some g ≠ v.ownBlock := fun e => by
  have := (h.lt g e.symm).1
  omega
set_option maxRecDepth 100000 in
set_option maxHeartbeats 2000000 in
theorem l04Devs_any (g : Nat) (a b c e f s k : Int) (w : World) (hS : sndB a b c e f = true) (hk : kindB k = true) (s0 : 10000 ≤ s) (s1 : s ≤ 20000000) (h5 : Five w g a b c e f) :
    Calls Try.prog 47 #[.pointer (some ⟨g, 0, none⟩), .int .i64 s, .int .i64 k] w fun en w' => (∃ g' cap, en = .returned (.slice (some ⟨g', 0, none⟩) 5 cap) ∧ OwnFive 2 w g' cap (devL [a, b, c, e, f] s k) w') ∧ Below w.heap.size w w' := by
  obtain ⟨i0, hi, hz0, hz1, hz2⟩ := info_parts infoI64
  have HS := Lib.hid hS
  have HK := Lib.hid hk
  obtain ⟨c0, c1, c2, c3, c4⟩ := h5
  clear hS hk
  go_enter Try.func47, Try.ntmps47
  go_wp2_with fail
  refine (l04List_any g a b c e f _ c0 c1 c2 c3 c4).mono ?_
  rintro en w1 ⟨g1, rfl, hg1, hrow1, hb1⟩
  have hl1 := (hrow1.lt _ rfl).2
  have HR1 := Lib.hid hrow1
  have HB1 := Lib.hid hb1
  clear hrow1 hb1 c0 c1 c2 c3 c4
  go_wp2_with fail
  refine (l04Offsets_any k _ HK.out).mono ?_
  rintro en w2 ⟨⟨g2, rfl, hg2, hrow2⟩, hb2⟩
  have hl2 := (hrow2.lt _ rfl).2
  have HR2 := Lib.hid hrow2
  have hl12 : g1 < w2.heap.size := Nat.lt_of_lt_of_le hl1 hb2.size
  have HR12 := Lib.hid (row_keep5 hb2 HR1.out)
  have HB2 := Lib.hid (below_of HB1.out hb2 HB1.out.size)
  clear hrow2 hb2
  obtain ⟨zs, hzs⟩ : ∃ zs, [a, b, c, e, f] = zs := ⟨_, rfl⟩
  have HZ := Lib.hid (show ∀ j, j < 5 → 10000 ≤ zs.getD j 0 ∧ zs.getD j 0 ≤ 20000000 by rw [← hzs]; exact snd_at HS.out)
  have HZL := Lib.hid (show zs.length = 5 by rw [← hzs]; rfl)
  have HOL := Lib.hid (off_len k)
  rw [hzs] at HR12
  have HE := Lib.hid hzs
  clear hzs
  have HN := Lib.hid (dev_next zs s k)
  go_wp2
  go_loopw [9, 10] (fun v i wr => ∃ n : Nat, n ≤ 5 ∧ i = .int .i64 n ∧ wr.ownsRow w2.heap.size 2 1 v n (i64s ((devL zs s k).take n)) ∧ Below w2.heap.size w2 wr) (fun _ i _ => 5 - (intOf i).toNat)
  case atStart => exact ⟨0, by omega, rfl, by simpa [i64s] using World.ownsRow_made w2 #[] 0 (Nat.le_refl _) (by simp) (by simp), (Below.refl _ _).alloc (Nat.le_refl _) _⟩
  case round =>
    obtain ⟨n, hn, rfl, hown, hbw⟩ := hrel
    by_cases hlt : n < 5
    · have hx : wr.cell? ⟨g1, n, none⟩ = some (.int .i64 (zs.getD n 0)) := by rw [hbw.cell (p := ⟨g1, n, none⟩) hl12, HR12.out.cellAt n (by omega)]; exact i64s_get _ n (by rw [HZL.out]; exact hlt)
      have hy : wr.cell? ⟨g2, n, none⟩ = some (.int .i64 ((offL k).getD n 0)) := by rw [hbw.cell (p := ⟨g2, n, none⟩) hl2, HR2.out.cellAt n (by omega)]; exact i64s_get _ n (by rw [HOL.out]; exact hlt)
      have bx := HZ.out n hlt
      have bo := off_at k n hlt
      have HD := Lib.hid (show devAt zs s k n = logV (zs.getD n 0) - logV s - (offL k).getD n 0 from rfl)
      have HT := Lib.hid (HN.out n hlt)
      rw [HD.out] at HT
      have l1 := log_bd (show 0 < zs.getD n 0 by omega) (by omega)
      have l2 := log_bd (show 0 < s by omega) (by omega)
      generalize zs.getD n 0 = x at *
      generalize (offL k).getD n 0 = y at *
      have hn2 : (n : Int) < 5 := by omega
      have hn3 : (0 : Int) ≤ (n : Int) := by omega
      obtain ⟨d, hd⟩ : ∃ d, logV x - logV s = d := ⟨_, rfl⟩
      have HLD := Lib.hid hd
      rw [hd] at HT
      have hd0 : -480000 ≤ d ∧ d ≤ 480000 := by omega
      have hw : IntKind.i64.wrap (d - y) = d - y := IntWalk.i64_in _ (by omega)
      have HO := Lib.hid hown
      have HBW := Lib.hid hbw
      have hw2 : w2.heap.size ≤ wr.heap.size := hbw.size
      have hg1r : g1 < wr.heap.size := by omega
      have hg2r : g2 < wr.heap.size := by omega
      clear hown hbw hd l1 l2
      have ba : Below wr.heap.size wr (wr.alloc (.cells #[.int .i64 (d - y)] 2)).drew := below_dr ((Below.refl _ _).alloc (Nat.le_refl _) _)
      have ne1 := far_of HO.out hl12
      have ne2 := far_of HO.out hl2
      go_wp2
      go_region_held3 (fun w' => w'.cell? ⟨g1, n, none⟩ = some (.int .i64 x) ∧ w'.cell? ⟨g2, n, none⟩ = some (.int .i64 y))
        (first | exact ⟨hx, hy⟩ | exact ⟨(below_cell ba _ _ hg1r).trans hx, (below_cell ba _ _ hg2r).trans hy⟩ | exact ⟨(hgrow4.cell_far ⟨g1, n, none⟩ (Nat.lt_of_lt_of_le hg1r ba.size) ne1).trans ((below_cell ba _ _ hg1r).trans hx), (hgrow4.cell_far ⟨g2, n, none⟩ (Nat.lt_of_lt_of_le hg2r ba.size) ne2).trans ((below_cell ba _ _ hg2r).trans hy)⟩)
        (first
          | (refine step_append_lies _ rfl (.tmp 20) (.tmp 32) 36 rfl w2.heap.size 2 i0 (.int .i64 0) 1 8 Try.underlying36 hi hz0 hz1 hz2 rfl (by decide) _ n (i64s ((devL zs s k).take n)) (by simp [Act.eval]) (row_keep5 ba HO.out) ⟨wr.heap.size, 0, none⟩ 1 1 [.int .i64 (d - y)] (by simp [Act.eval]) rfl (row_news rfl) (by intro u hu; simp at hu; subst hu; rfl) (by decide) (by unfold maxLen; omega) (by omega) (by simp; omega) _ rfl ?_; intro g4 cap4 w4 hown4 hgrow4 hat4 hlt4)
          | (go_at_call 61; refine (l02Between_any s x _ (by omega) (by omega) (by omega) (by omega)).mono ?_; rintro en w5 ⟨rfl, rfl⟩; rw [HLD.out]))
      rw [← HT.out] at hown4
      have HO4 := Lib.hid hown4
      have HB4 := Lib.hid ((HBW.out.trans (ba.mono hw2)).grown hgrow4 (Nat.le_trans hw2 ba.size) (fun k hk => (HO.out.lt k hk).1))
      clear hown4 hgrow4
      go_wp2
      go_roundw
      case rel => exact ⟨n + 1, by omega, by go_num, HO4.out, HB4.out⟩
      case measure => simp [intOf]; omega
    · obtain rfl : n = 5 := by omega
      rw [List.take_of_length_le (by rw [dev_len]; exact Nat.le_refl _)] at hown
      obtain ⟨g5, cap5, rfl, -, -⟩ := hown.form (by decide)
      have HO := Lib.hid (row_low5 hown HB2.out.size)
      have hg5 := (hown.lt _ rfl).1
      have HB5 := Lib.hid (below_of HB2.out hbw HB2.out.size)
      clear hown hbw
      go_wp2
      go_ret
      rw [HE.out]
      exact ⟨⟨g5, cap5, rfl, Nat.le_trans HB2.out.size hg5, HO.out⟩, HB5.out⟩
end Go.Proofs.Ytmkopmdeelfmgaa
