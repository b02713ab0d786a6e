/- The reference model writes a number below 0 in decimal. -/
import Derived.Test.YtjicnfgpbbganaaDoorDecPos
namespace Go.Proofs.YtjicnfgpbbganaaDoor
open Go.ChangeShapes Go.WideShapes Go.ChangeAt Go.RowKit
set_option maxHeartbeats 1600000 in
set_option maxRecDepth 100000 in
theorem specDec_neg (N : Nat) (w : World) (h0 : N ≠ 0) (h1 : N ≤ 9223372036854775808) :
    Calls Tryd.prog 88 #[.int .i64 (-(N : Int))] w fun e w' => e = .returned (.string ⟨(Lib.itoa (-(N : Int))).toArray⟩) ∧ Below w.heap.size w w' := by
  obtain ⟨i0, hi, hz0, hz1, hz2⟩ := info_parts infoU8
  have HIT := Lib.hid (show Lib.itoa (-(N : Int)) = 45 :: Lib.decDigits N by unfold Lib.itoa; rw [if_pos (by omega)]; congr 2; omega)
  obtain ⟨n, hn⟩ : ∃ n : Int, n = -(N : Int) := ⟨_, rfl⟩
  rw [← hn]
  have HN := Lib.hid hn
  have hneg : n < 0 := by omega
  have hlo : -9223372036854775808 ≤ n := by omega
  clear hn
  have hn0 : (n == 0) = false := beq_eq_false_iff_ne.2 (by omega)
  go_enter Tryd.func88, Tryd.ntmps88
  go_wp2
  go_loopw [3, 4] (fun v m wr => ∃ (A : Nat) (mm : Int) (ds : List UInt8), Hid (DecInv N A ds) ∧ Hid (mm = -(A : Int)) ∧ m = .int .i64 mm ∧ A ≤ N ∧ wr.ownsRow w.heap.size 5 1 v ds.length (u8s ds) ∧ Below w.heap.size w wr)
    (fun _ m _ => (intOf m).natAbs)
  case atStart => exact ⟨N, n, [], inv_begin N h0 (by omega), HN.out, rfl, Nat.le_refl _, by simpa [u8s] using World.ownsRow_made w #[] 0 (Nat.le_refl _) (by simp) (by simp), (Below.refl _ _).alloc (Nat.le_refl _) _⟩
  case round =>
    obtain ⟨A, mm, ds, hinv, HM, rfl, hAN, hown, hbw⟩ := hrel
    have HO := Lib.hid hown
    have HB := Lib.hid hbw
    have hsz := hbw.size
    clear hown hbw
    by_cases hA : A = 0
    · have hinv0 : DecInv N 0 ds := by rw [← hA]; exact hinv.out
      have hl1 := end_pos N ds hinv0
      have hl2 : ds.length ≤ 19 := hinv0.2.1
      have HR := Lib.hid (inv_end N ds hinv0)
      clear hinv hinv0
      have hz : mm = 0 := by rw [HM.out]; omega
      have hA1 : (mm == 0) = true := beq_iff_eq.2 hz
      have hA2 : (mm != 0) = false := by rw [bne_eq_false_iff_eq]; exact hz
      clear hz hA
      go_wp2_with (at_builtin; refine wpList_append_own _ rfl _ _ 121 rfl w.heap.size 5 i0 (.int .u8 0) 1 1 Tryd.underlying121 hi hz0 hz1 hz2 rfl (by decide) _ _ _ rfl (HO.out.alloc _) ⟨_, 0, none⟩ 1 1 [.int .u8 45] rfl rfl (c1_of _ _ _) ?c2 ?c3 ?c4 ?c5 ?_)
      case c2 => first | rfl | (intro u hu; simp at hu; subst hu; rfl)
      case c3 => unfold maxLen; omega
      case c4 => omega
      case c5 => first | omega | (simp; omega)
      intro v2 w2 hown2 hgrow2 _
      have HO2 := Lib.hid (show w2.ownsRow w.heap.size 5 1 v2 (ds ++ [45]).length (u8s (ds ++ [45])) by rw [u8s_one, List.length_append]; exact hown2)
      have HB2 := Lib.hid ((HB.out.alloc (by omega) _).grown hgrow2 (by simp; omega) (fun k hk => (HO.out.lt k hk).1))
      have HR2 := Lib.hid (show (ds ++ [45]).reverse = 45 :: Lib.decDigits N by rw [List.reverse_append, HR.out]; rfl)
      have hd1 : 1 ≤ (ds ++ [(45 : UInt8)]).length := by simp
      have hd2 : (ds ++ [(45 : UInt8)]).length ≤ 20 := by simp; omega
      clear hown2 hgrow2
      generalize ds ++ [(45 : UInt8)] = es at *
      obtain ⟨g, cap, hv, hg1, hg2, hcap⟩ := own_some HO2.out hd1
      subst hv
      have HS2 := HB2.out.size
      go_wp2
      go_loopw [6, 7] (fun v i wq => ∃ k : Nat, k ≤ es.length ∧ i = .int .i64 ((k : Int) - 1) ∧ wq.ownsRow w2.heap.size 5 1 v (es.length - k) (u8s (es.drop k).reverse) ∧ Below w2.heap.size w2 wq)
        (fun _ i _ => (intOf i + 1).toNat)
      case atStart => exact ⟨es.length, Nat.le_refl _, rfl, by simpa [u8s] using World.ownsRow_made w2 #[] 0 (Nat.le_refl _) (by simp) (by simp), (Below.refl _ _).alloc (Nat.le_refl _) _⟩
      case round =>
        obtain ⟨k, hk, rfl, hown, hbw⟩ := hrel
        have HO3 := Lib.hid hown
        have HB3 := Lib.hid hbw
        have hs3 := hbw.size
        clear hown hbw
        by_cases hk0 : k = 0
        · subst hk0
          rw [Nat.sub_zero, List.drop_zero] at HO3
          obtain ⟨g2, cap2, hv2, _, _, _⟩ := own_some HO3.out hd1
          subst hv2
          have HC := conv_own HO3.out
          rw [HR2.out] at HC
          go_wp2
          go_ret
          exact ⟨ret_string (by rw [HN.out, HIT.out]), (HB2.out).trans (HB3.out.mono (by omega))⟩
        · have hk1 : 1 ≤ k := by omega
          have hcell : wr.cell? ⟨g, k - 1, none⟩ = some (.int .u8 ((es.getD (k - 1) 0).toNat : Int)) := by
            rw [HB3.out.cell (p := ⟨g, k - 1, none⟩) hg2, HO2.out.cellAt (k - 1) (by omega)]
            exact u8s_get es (k - 1) (by omega)
          have hbyte := (es.getD (k - 1) 0).toNat_lt
          generalize hb : es.getD (k - 1) 0 = b at *
          have Hb := Lib.hid hb
          clear hb
          go_wp2_with (at_builtin; refine wpList_append_own _ rfl _ _ 121 rfl w2.heap.size 5 i0 (.int .u8 0) 1 1 Tryd.underlying121 hi hz0 hz1 hz2 rfl (by decide) _ _ _ rfl (HO3.out.alloc _) ⟨_, 0, none⟩ 1 1 [.int .u8 (b.toNat : Int)] rfl rfl (c1_of _ _ _) ?c2 ?c3 ?c4 ?c5 ?_)
          case c2 => first | rfl | (intro u hu; simp at hu; subst hu; rfl)
          case c3 => unfold maxLen; omega
          case c4 => omega
          case c5 => first | omega | (simp; omega)
          intro v4 w4 hown4 hgrow4 _
          have HO4 := Lib.hid (show w4.ownsRow w2.heap.size 5 1 v4 (es.length - (k - 1)) (u8s (es.drop (k - 1)).reverse) by
            rw [rev_step es (k - 1) (by omega), show k - 1 + 1 = k from by omega, u8s_one, Hb.out, show es.length - (k - 1) = es.length - k + 1 from by omega]
            exact hown4)
          have HB4 := Lib.hid ((HB3.out.alloc (by omega) _).grown hgrow4 (by simp; omega) (fun k hk => (HO3.out.lt k hk).1))
          clear hown4 hgrow4 hcell
          go_wp2
          go_roundw
          case rel => exact ⟨k - 1, by omega, by congr 1; omega, HO4.out, HB4.out⟩
          case measure => simp [intOf]; omega
    · have hl := inv_len N A ds hinv.out hA
      have HI := Lib.hid (inv_next N A ds hinv.out hA)
      clear hinv
      have hA1 : (mm == 0) = false := beq_eq_false_iff_ne.2 (by rw [HM.out]; omega)
      have hA2 : (mm != 0) = true := bne_iff_ne.2 (by rw [HM.out]; omega)
      obtain ⟨hm1, hm2⟩ : -9223372036854775808 ≤ mm ∧ mm < 0 := by rw [HM.out]; omega
      have HT := Lib.hid (show mm.tmod 10 = -((A % 10 : Nat) : Int) by rw [HM.out]; exact (neg_parts A).1)
      have HQ := Lib.hid (show mm.tdiv 10 = -((A / 10 : Nat) : Int) by rw [HM.out]; exact (neg_parts A).2)
      obtain ⟨ht1, ht2⟩ : -9 ≤ mm.tmod 10 ∧ mm.tmod 10 ≤ 0 := by rw [HT.out]; omega
      obtain ⟨hq1, hq2⟩ : -9223372036854775808 ≤ mm.tdiv 10 ∧ mm.tdiv 10 ≤ 0 := by rw [HQ.out]; omega
      generalize htm : mm.tmod 10 = t at *
      generalize hqm : mm.tdiv 10 = q at *
      have HTM := Lib.hid htm
      have HQM := Lib.hid hqm
      clear htm hqm
      by_cases hz : t < 0
      · skip
        have htt := HTM.out
        have hqq := HQM.out
        go_wp2_with (at_builtin; refine wpList_append_own _ rfl _ _ 121 rfl w.heap.size 5 i0 (.int .u8 0) 1 1 Tryd.underlying121 hi hz0 hz1 hz2 rfl (by decide) _ _ _ rfl (HO.out.alloc _) ⟨_, 0, none⟩ 1 1 [.int .u8 (48 + -t)] rfl rfl (c1_of _ _ _) ?c2 ?c3 ?c4 ?c5 ?_)
        case c2 => first | rfl | (intro u hu; simp at hu; subst hu; rfl)
        case c3 => unfold maxLen; omega
        case c4 => omega
        case c5 => first | omega | (simp; omega)
        intro v2 w2 hown2 hgrow2 _
        have HO2 := Lib.hid (show w2.ownsRow w.heap.size 5 1 v2 (ds ++ [UInt8.ofNat (48 + A % 10)]).length (u8s (ds ++ [UInt8.ofNat (48 + A % 10)])) by
          rw [u8s_snoc _ _ (by omega), List.length_append, show (((A % 10 : Nat) : Int)) = -t from by have := HT.out; omega]; exact hown2)
        have HB2 := Lib.hid ((HB.out.alloc (by omega) _).grown hgrow2 (by simp; omega) (fun k hk => (HO.out.lt k hk).1))
        clear hown2 hgrow2
        go_wp2
        go_roundw
        case rel => exact ⟨A / 10, q, _, HI.out, HQ.out, rfl, by omega, HO2.out, HB2.out⟩
        case measure => simp [intOf]; have := HQ.out; have := HM.out; omega
      · skip
        have htt := HTM.out
        have hqq := HQM.out
        go_wp2_with (at_builtin; refine wpList_append_own _ rfl _ _ 121 rfl w.heap.size 5 i0 (.int .u8 0) 1 1 Tryd.underlying121 hi hz0 hz1 hz2 rfl (by decide) _ _ _ rfl (HO.out.alloc _) ⟨_, 0, none⟩ 1 1 [.int .u8 (48 + t)] rfl rfl (c1_of _ _ _) ?c2 ?c3 ?c4 ?c5 ?_)
        case c2 => first | rfl | (intro u hu; simp at hu; subst hu; rfl)
        case c3 => unfold maxLen; omega
        case c4 => omega
        case c5 => first | omega | (simp; omega)
        intro v2 w2 hown2 hgrow2 _
        have HO2 := Lib.hid (show w2.ownsRow w.heap.size 5 1 v2 (ds ++ [UInt8.ofNat (48 + A % 10)]).length (u8s (ds ++ [UInt8.ofNat (48 + A % 10)])) by
          rw [u8s_snoc _ _ (by omega), List.length_append, show (((A % 10 : Nat) : Int)) = t from by have := HT.out; omega]; exact hown2)
        have HB2 := Lib.hid ((HB.out.alloc (by omega) _).grown hgrow2 (by simp; omega) (fun k hk => (HO.out.lt k hk).1))
        clear hown2 hgrow2
        go_wp2
        go_roundw
        case rel => exact ⟨A / 10, q, _, HI.out, HQ.out, rfl, by omega, HO2.out, HB2.out⟩
        case measure => simp [intOf]; have := HQ.out; have := HM.out; omega
end Go.Proofs.YtjicnfgpbbganaaDoor
