/- How far the partials of a sound are from ideal ones: the program's walk. -/
import Derived.Test.YtmkopmdeelfmgaaDevsImpl
import Derived.OneCell
namespace Go.Proofs.Ytmkopmdeelfmgaa
open Go.ChangeShapes Go.WideShapes Go.ChangeAt Go.RowKit

theorem sub_all (zs : List Int) (s k : Int) : stepL (allQ zs s) (devAt zs s k) 5 = devL zs s k := by
  unfold stepL devL
  apply List.map_congr_left
  intro j hj
  rw [if_pos (by simpa using hj)]
theorem dev_sub (zs : List Int) (s k : Int) (j : Nat) : devAt zs s k j = allQ zs s j - (offL k).getD j 0 := rfl

set_option maxRecDepth 100000 in
set_option maxHeartbeats 4000000 in
theorem implDevs_any (a b c e f s k : Int) (w : World) :
    Calls Try.prog 27 #[.agg #[.int .i64 a, .int .i64 b, .int .i64 c, .int .i64 e, .int .i64 f], .int .i64 s, .int .i64 k] w (DevsAre 50 a b c e f s k w) := by
  have hmf : ∀ (fn : Fn) (first cap : Array Value) (w : World), (Instr.makeFunc fn first cap).run Try.prog w = .ok (.func fn first cap) w := fun _ _ _ _ => rfl
  rcases Bool.eq_false_or_eq_true (sndB a b c e f) with h0 | h0
  · have H0 := Lib.hid h0
    go_enter Try.func27, Try.ntmps27
    go_wp2_with fail
    refine (implValid_any a b c e f _).mono ?_
    rintro en w1 ⟨rfl, hb⟩
    have H5 := Lib.hid (five_below hb (five_alloc w a b c e f 25))
    have HB1 := Lib.hid (below_of ((Below.refl _ _).alloc (Nat.le_refl _) _) hb (by simp))
    clear hb
    rw [h0]
    go_wp2_with fail
    refine (implOffs_any k _).mono ?_
    rintro en w2 ⟨hb, ⟨hk, go, po, rfl, hoo⟩ | ⟨hk, rfl⟩⟩
    · have HK := Lib.hid hk
      have HO := Lib.hid hoo.2
      have hgo := (hoo.2.lt _ rfl).2
      obtain ⟨c0, c1, c2, c3, c4⟩ := five_below hb H5.out
      have hg2 := five_lt (five_below hb H5.out)
      have HB2 := Lib.hid (below_of HB1.out hb HB1.out.size)
      clear hb H5 hoo
      go_wp2_with fail
      refine (partialsOf_any a b c e f _).mono ?_
      rintro en w3 ⟨rfl, hb⟩
      have HO3 := Lib.hid (row_keep5 hb HO.out)
      have hgo3 : go < w3.heap.size := Nat.lt_of_lt_of_le hgo hb.size
      have HB3 := Lib.hid (below_of HB2.out hb HB2.out.size)
      clear hb HO c0 c1 c2 c3 c4
      have H5p := five_alloc w3 a b c e f 50
      have HC5 := Lib.hid (cells5 H5p.1 H5p.2.1 H5p.2.2.1 H5p.2.2.2.1 H5p.2.2.2.2)
      have HA3 := Lib.hid ((Below.refl w3.heap.size w3).alloc (Nat.le_refl _) (.cells #[.int .i64 a, .int .i64 b, .int .i64 c, .int .i64 e, .int .i64 f] 50))
      have hltp := five_lt H5p
      clear H5p
      rcases Bool.eq_false_or_eq_true (okF s) with h1 | h1
      · obtain ⟨s0, s1⟩ := okF_iff.1 h1
        have H1 := Lib.hid h1
        obtain ⟨zs, hzs⟩ : ∃ zs, [a, b, c, e, f] = zs := ⟨_, rfl⟩
        have HE := Lib.hid hzs
        have HZ := Lib.hid (show ∀ j, j < 5 → 10000 ≤ zs.getD j 0 ∧ zs.getD j 0 ≤ 20000000 by rw [← hzs]; exact snd_at H0.out)
        have HQB := Lib.hid (show ∀ j, j < 5 → -480000 ≤ allQ zs s j ∧ allQ zs s j ≤ 480000 from fun j hj => by
          have x := HZ.out j hj
          have l1 := log_bd (show 0 < zs.getD j 0 by omega) (by omega)
          have l2 := log_bd (show 0 < s by omega) (by omega)
          unfold allQ; omega)
        rw [hzs] at HC5
        clear hzs h1
        go_wp2_with fail
        refine (allOf_yes zs w3.heap.size 0 5 s _ H1.out HZ.out hltp HC5.out).mono ?_
        rintro en w4 ⟨rfl, hb⟩
        have HA4 := Lib.hid (HA3.out.trans (hb.mono HA3.out.size))
        have HO4 := Lib.hid (row_keep5 HA4.out HO3.out)
        have hgo4 : go < w4.heap.size := Nat.lt_of_lt_of_le hgo3 HA4.out.size
        have HB4 := Lib.hid (below_of HB3.out HA4.out HB3.out.size)
        clear hb HC5 HA3 HO3 HB3 HA4
        have hD : (w4.alloc (.cells #[.int .i64 (allQ zs s 0), .int .i64 (allQ zs s 1), .int .i64 (allQ zs s 2), .int .i64 (allQ zs s 3), .int .i64 (allQ zs s 4)] 50)).ownsRow w4.heap.size 50 1 (.slice (some ⟨w4.heap.size, 0, none⟩) 5 5) 5 (i64s (stepL (allQ zs s) (devAt zs s k) 0)) :=
          World.ownsRow_lit w4 (i64s [allQ zs s 0, allQ zs s 1, allQ zs s 2, allQ zs s 3, allQ zs s 4]).toArray 5 (Nat.le_refl _) (by decide) rfl
        have HD := Lib.hid hD
        have HOL := Lib.hid (off_len k)
        clear hD
        go_wp2
        go_loopw [39] (fun i wr => ∃ n : Nat, n ≤ 5 ∧ i = .int .i64 n ∧ wr.ownsRow w4.heap.size 50 1 (.slice (some ⟨w4.heap.size, 0, none⟩) 5 5) 5 (i64s (stepL (allQ zs s) (devAt zs s k) n)) ∧ Below w4.heap.size w4 wr) (fun i _ => 5 - (intOf i).toNat)
        case atStart => exact ⟨0, by omega, rfl, HD.out, (Below.refl _ _).alloc (Nat.le_refl _) _⟩
        case round =>
          obtain ⟨n, hn, rfl, hown, hbw⟩ := hrel
          by_cases hlt : n < 5
          · have hy : wr.cell? ⟨go, n, none⟩ = some (.int .i64 ((offL k).getD n 0)) := by rw [below_cell hbw _ _ hgo4, HO4.out.cellAt n (by omega)]; exact i64s_get _ n (by rw [HOL.out]; exact hlt)
            have hx : wr.cell? ⟨w4.heap.size, n, none⟩ = some (.int .i64 (allQ zs s n)) := by
              rw [hown.cellAt n (by omega), i64s_get _ n (by rw [step_len]; exact hlt), step_get _ _ _ _ hlt, if_neg (by omega)]
            have hf := hown.frozenAt n
            have bx := HQB.out n hlt
            have bo := off_at k n hlt
            have HN := Lib.hid (step_next (allQ zs s) (devAt zs s k) n hlt)
            rw [dev_sub] at HN
            generalize allQ zs s n = x at *
            generalize (offL k).getD n 0 = y at *
            have hn2 : (n : Int) < 5 := by omega
            have hn3 : (0 : Int) ≤ (n : Int) := by omega
            have HOW := Lib.hid hown
            have HBW := Lib.hid hbw
            clear hown hbw
            go_wp2
            go_roundw
            case rel =>
              refine ⟨n + 1, by omega, by go_num, ?_, HBW.out.setCell (Nat.le_refl _) _⟩
              rw [← HN.out, ← i64s_set']
              exact (HOW.out.stored n (.int .i64 (x - y))).1
            case measure => simp [intOf]; omega
          · obtain rfl : n = 5 := by omega
            rw [sub_all] at hown
            have HOW := Lib.hid (row_low5 hown HB4.out.size)
            have HBW := Lib.hid (below_of HB4.out hbw HB4.out.size)
            clear hown hbw
            go_wp2
            go_ret2
            refine ⟨HBW.out, .inl ⟨dv_yes H0.out H1.out HK.out, w4.heap.size, 5, rfl, HB4.out.size, ?_⟩⟩
            rw [HE.out]
            exact HOW.out
      · have R := Lib.hid (dv_no2 (k := k) H0.out h1)
        have H1 := Lib.hid h1
        clear h1
        go_wp2_with fail
        refine (allOf_no [a, b, c, e, f] w3.heap.size 0 5 s _ H1.out hltp HC5.out).mono ?_
        rintro en w4 ⟨rfl, hb⟩
        have HB4 := Lib.hid (below_of HB3.out (HA3.out.trans (hb.mono HA3.out.size)) HB3.out.size)
        clear hb HC5 HA3
        go_wp2
        go_ret2
        exact ⟨HB4.out.alloc HB4.out.size _, .inr ⟨R.out.1, by rw [R.out.2]; rfl⟩⟩
    · have R := Lib.hid (dv_no3 (s := s) h0 hk)
      have HB2 := Lib.hid (below_of HB1.out hb HB1.out.size)
      clear hb H5 hk
      go_wp2
      go_ret2
      exact ⟨HB2.out, .inr ⟨R.out.1, by rw [R.out.2]; rfl⟩⟩
  · have R := Lib.hid (dv_no (s := s) (k := k) h0)
    go_enter Try.func27, Try.ntmps27
    go_wp2_with fail
    refine (implValid_any a b c e f _).mono ?_
    rintro en w1 ⟨rfl, hb⟩
    have HB := Lib.hid (below_of ((Below.refl _ _).alloc (Nat.le_refl _) _) hb (by simp))
    clear hb
    rw [h0]
    go_wp2
    go_ret2
    exact ⟨HB.out, .inr ⟨R.out.1, by rw [R.out.2]; rfl⟩⟩
end Go.Proofs.Ytmkopmdeelfmgaa
