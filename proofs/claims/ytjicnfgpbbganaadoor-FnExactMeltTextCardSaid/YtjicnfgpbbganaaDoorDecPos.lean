/- The reference model writes a number in decimal: the walks, for numbers above and below 0 and for 0. -/
import Derived.Test.YtjicnfgpbbganaaDoorDecSpec
namespace Go.Proofs.YtjicnfgpbbganaaDoor
open Go.ChangeShapes Go.WideShapes Go.ChangeAt Go.RowKit

theorem ret_string {a b : ByteArray} (h : a = b) : Ending.returned (.string a) = .returned (.string b) := by rw [h]
theorem u8s_snoc (l : List UInt8) (d : Nat) (h : d ≤ 9) : u8s (l ++ [UInt8.ofNat (48 + d)]) = u8s l ++ [.int .u8 (48 + (d : Int))] := by
  simp only [u8s, List.map_append, List.map_cons, List.map_nil, digit_u8 d h]
theorem u8s_one (l : List UInt8) (b : UInt8) : u8s (l ++ [b]) = u8s l ++ [.int .u8 (b.toNat : Int)] := by simp [u8s]
theorem u8s_get (l : List UInt8) (j : Nat) (h : j < l.length) : (u8s l)[j]? = some (.int .u8 ((l.getD j 0).toNat : Int)) := by
  simp [u8s, List.getD, h]
theorem dec_ne (N : Nat) : Lib.decDigits N ≠ [] := by
  by_cases h : N < 10
  · rw [dec_small N h]; simp
  · rw [dec_step N h]; simp
theorem end_pos (N : Nat) (ds : List UInt8) (h : DecInv N 0 ds) : 1 ≤ ds.length := by
  have e := inv_end N ds h
  have h1 := dec_ne N
  rw [← e] at h1
  cases ds with
  | nil => simp at h1
  | cons a l => simp
theorem own_some {w : World} {base n : Nat} {e : TypeId} {v : Value} {xs : List Value} (h : w.ownsRow base e 1 v n xs) (hn : 1 ≤ n) : ∃ g cap, v = .slice (some ⟨g, 0, none⟩) n cap ∧ base ≤ g ∧ g < w.heap.size ∧ n ≤ cap := by
  obtain ⟨_, h2⟩ := h
  rcases h2 with ⟨_, h0⟩ | ⟨g, cap, cur, rfl, hb, hh, hn', _⟩
  · omega
  · refine ⟨g, cap, rfl, hb, ?_, hn'⟩
    rcases Nat.lt_or_ge g w.heap.size with hlt | hge
    · exact hlt
    · rw [Array.getElem?_eq_none hge] at hh; cases hh
theorem rev_step (l : List UInt8) (k : Nat) (h : k < l.length) : (l.drop k).reverse = (l.drop (k + 1)).reverse ++ [l.getD k 0] := by
  rw [List.drop_eq_getElem_cons h, List.reverse_cons]
  simp [List.getD, h]
theorem c1_of (w : World) (x : Value) (T : TypeId) : ∀ (j : Nat) (u : Value), ([x] : List Value)[j]? = some u → (w.alloc (.cells #[x] T)).cell? ((⟨w.heap.size, 0, none⟩ : Addr).add j) = some u := by
  intro j u hj
  match j, hj with
  | 0, hj => simp at hj; subst hj; simp [Addr.add]
  | j + 1, hj => simp at hj
set_option maxHeartbeats 1600000 in
set_option maxRecDepth 100000 in
theorem specDec_pos (N : Nat) (w : World) (h0 : N ≠ 0) (h1 : N ≤ 9223372036854775807) :
    Calls Tryd.prog 88 #[.int .i64 (N : Int)] w fun e w' => e = .returned (.string ⟨(Lib.itoa (N : Int)).toArray⟩) ∧ Below w.heap.size w w' := by
  obtain ⟨i0, hi, hz0, hz1, hz2⟩ := info_parts infoU8
  have HIT := Lib.hid (show Lib.itoa (N : Int) = Lib.decDigits N by unfold Lib.itoa; rw [if_neg (by omega)]; rfl)
  have hn0 : ((N : Int) == 0) = false := beq_eq_false_iff_ne.2 (by omega)
  go_enter Tryd.func88, Tryd.ntmps88
  go_wp2
  go_loopw [3, 4] (fun v m wr => ∃ (A : Nat) (ds : List UInt8), Hid (DecInv N A ds) ∧ m = .int .i64 (A : Int) ∧ A ≤ N ∧ wr.ownsRow w.heap.size 5 1 v ds.length (u8s ds) ∧ Below w.heap.size w wr)
    (fun _ m _ => (intOf m).toNat)
  case atStart => exact ⟨N, [], inv_begin N h0 (by omega), rfl, Nat.le_refl _, by simpa [u8s] using World.ownsRow_made w #[] 0 (Nat.le_refl _) (by simp) (by simp), (Below.refl _ _).alloc (Nat.le_refl _) _⟩
  case round =>
    obtain ⟨A, ds, hinv, rfl, hAN, hown, hbw⟩ := hrel
    have HO := Lib.hid hown
    have HB := Lib.hid hbw
    have hsz := hbw.size
    clear hown hbw
    by_cases hA : A = 0
    · have hinv0 : DecInv N 0 ds := by rw [← hA]; exact hinv.out
      have hl1 := end_pos N ds hinv0
      have hl2 : ds.length ≤ 19 := hinv0.2.1
      have HR := Lib.hid (inv_end N ds hinv0)
      clear hinv hinv0
      have hz : (A : Int) = 0 := by omega
      have hA1 : ((A : Int) == 0) = true := beq_iff_eq.2 hz
      have hA2 : ((A : Int) != 0) = false := by rw [bne_eq_false_iff_eq]; exact hz
      clear hz hA
      have HR2 := Lib.hid HR.out
      have HO2 := Lib.hid HO.out
      have HB2 := Lib.hid HB.out
      have hd1 : 1 ≤ ds.length := hl1
      have hd2 : ds.length ≤ 20 := by omega
      clear HO HB HR
      obtain ⟨es, rfl⟩ : ∃ es, es = ds := ⟨_, rfl⟩
      obtain ⟨w2, rfl⟩ : ∃ w2 : World, w2 = wr := ⟨_, rfl⟩
      obtain ⟨g, cap, hv, hg1, hg2, hcap⟩ := own_some HO2.out hd1
      subst hv
      have HS2 := HB2.out.size
      go_wp2
      go_loopw [6, 7] (fun v i wq => ∃ k : Nat, k ≤ es.length ∧ i = .int .i64 ((k : Int) - 1) ∧ wq.ownsRow w2.heap.size 5 1 v (es.length - k) (u8s (es.drop k).reverse) ∧ Below w2.heap.size w2 wq)
        (fun _ i _ => (intOf i + 1).toNat)
      case atStart => exact ⟨es.length, Nat.le_refl _, rfl, by simpa [u8s] using World.ownsRow_made w2 #[] 0 (Nat.le_refl _) (by simp) (by simp), (Below.refl _ _).alloc (Nat.le_refl _) _⟩
      case round =>
        obtain ⟨k, hk, rfl, hown, hbw⟩ := hrel
        have HO3 := Lib.hid hown
        have HB3 := Lib.hid hbw
        have hs3 := hbw.size
        clear hown hbw
        by_cases hk0 : k = 0
        · subst hk0
          rw [Nat.sub_zero, List.drop_zero] at HO3
          obtain ⟨g2, cap2, hv2, _, _, _⟩ := own_some HO3.out hd1
          subst hv2
          have HC := conv_own HO3.out
          rw [HR2.out] at HC
          go_wp2
          go_ret
          exact ⟨ret_string (by rw [HIT.out]), (HB2.out).trans (HB3.out.mono (by omega))⟩
        · have hk1 : 1 ≤ k := by omega
          have hcell : wr.cell? ⟨g, k - 1, none⟩ = some (.int .u8 ((es.getD (k - 1) 0).toNat : Int)) := by
            rw [HB3.out.cell (p := ⟨g, k - 1, none⟩) hg2, HO2.out.cellAt (k - 1) (by omega)]
            exact u8s_get es (k - 1) (by omega)
          have hbyte := (es.getD (k - 1) 0).toNat_lt
          generalize hb : es.getD (k - 1) 0 = b at *
          have Hb := Lib.hid hb
          clear hb
          go_wp2_with (at_builtin; refine wpList_append_own _ rfl _ _ 121 rfl w2.heap.size 5 i0 (.int .u8 0) 1 1 Tryd.underlying121 hi hz0 hz1 hz2 rfl (by decide) _ _ _ rfl (HO3.out.alloc _) ⟨_, 0, none⟩ 1 1 [.int .u8 (b.toNat : Int)] rfl rfl (c1_of _ _ _) ?c2 ?c3 ?c4 ?c5 ?_)
          case c2 => first | rfl | (intro u hu; simp at hu; subst hu; rfl)
          case c3 => unfold maxLen; omega
          case c4 => omega
          case c5 => first | omega | (simp; omega)
          intro v4 w4 hown4 hgrow4 _
          have HO4 := Lib.hid (show w4.ownsRow w2.heap.size 5 1 v4 (es.length - (k - 1)) (u8s (es.drop (k - 1)).reverse) by
            rw [rev_step es (k - 1) (by omega), show k - 1 + 1 = k from by omega, u8s_one, Hb.out, show es.length - (k - 1) = es.length - k + 1 from by omega]
            exact hown4)
          have HB4 := Lib.hid ((HB3.out.alloc (by omega) _).grown hgrow4 (by simp; omega) (fun k hk => (HO3.out.lt k hk).1))
          clear hown4 hgrow4 hcell
          go_wp2
          go_roundw
          case rel => exact ⟨k - 1, by omega, by congr 1; omega, HO4.out, HB4.out⟩
          case measure => simp [intOf]; omega
    · have hl := inv_len N A ds hinv.out hA
      have HI := Lib.hid (inv_next N A ds hinv.out hA)
      clear hinv
      have hA1 : ((A : Int) == 0) = false := beq_eq_false_iff_ne.2 (by omega)
      have hA2 : ((A : Int) != 0) = true := bne_iff_ne.2 (by omega)
      go_wp2_with (at_builtin; refine wpList_append_own _ rfl _ _ 121 rfl w.heap.size 5 i0 (.int .u8 0) 1 1 Tryd.underlying121 hi hz0 hz1 hz2 rfl (by decide) _ _ _ rfl (HO.out.alloc _) ⟨_, 0, none⟩ 1 1 [.int .u8 (48 + (A : Int) % 10)] rfl rfl (c1_of _ _ _) ?c2 ?c3 ?c4 ?c5 ?_)
      case c2 => first | rfl | (intro u hu; simp at hu; subst hu; rfl)
      case c3 => unfold maxLen; omega
      case c4 => omega
      case c5 => first | omega | (simp; omega)
      intro v2 w2 hown2 hgrow2 _
      have HO2 := Lib.hid (show w2.ownsRow w.heap.size 5 1 v2 (ds ++ [UInt8.ofNat (48 + A % 10)]).length (u8s (ds ++ [UInt8.ofNat (48 + A % 10)])) by
        rw [u8s_snoc _ _ (by omega), List.length_append]; exact hown2)
      have HB2 := Lib.hid ((HB.out.alloc (by omega) _).grown hgrow2 (by simp; omega) (fun k hk => (HO.out.lt k hk).1))
      clear hown2 hgrow2
      go_wp2
      go_roundw
      case rel => exact ⟨A / 10, _, HI.out, rfl, by omega, HO2.out, HB2.out⟩
      case measure => simp [intOf]; omega
end Go.Proofs.YtjicnfgpbbganaaDoor
