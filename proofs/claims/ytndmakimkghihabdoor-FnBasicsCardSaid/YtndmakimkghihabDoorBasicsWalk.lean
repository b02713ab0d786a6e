/- The law on basics, walked: at every pair of inputs it answers true. -/
import Derived.Test.YtndmakimkghihabDoorBasicsMath
import Derived.Test.YtndmakimkghihabDoorNumbers
import Derived.Test.YtndmakimkghihabDoorHelp8
import Derived.Test.YtndmakimkghihabDoorRootImplD
import Derived.Test.YtndmakimkghihabDoorBlendImplD
import Derived.Test.YtndmakimkghihabDoorListImpl
import Derived.Test.YtndmakimkghihabDoorReadImpl
import Derived.Deep.Cut
namespace Go.Proofs.YtndmakimkghihabDoor
open Go.ChangeShapes Go.WideShapes Go.ChangeAt Go.RowKit

theorem bytes_kept {w w' : World} {v : Value} (hb : Below w.heap.size w w') (h : BytesAt w w.heap.size v) : BytesAt w' w'.heap.size v :=
  bytes_more (bytes_below hb h (Nat.le_refl _)) hb.size

theorem root_small {a r : Int} (h : IsRoot a r) (ha : 0 ≤ a) (hhi : a ≤ 3599780001) : 0 ≤ r ∧ r ≤ 60000 ∧ r * r ≤ a ∧ a < (r + 1) * (r + 1) ∧ 0 ≤ r * r ∧ (r + 1) * (r + 1) ≤ 3600120001 := by
  obtain ⟨h0, h1, _, h3⟩ := h
  obtain ⟨p1, p2⟩ := h3 ha
  have h6 : r ≤ 60000 := by
    by_cases h : r ≤ 60000
    · exact h
    · have := sq_mono (a := 60001) (b := r) (by omega) (by omega); omega
  have := sq_mono (a := r + 1) (b := 60001) (by omega) (by omega)
  exact ⟨h0, h6, p1, p2, Int.mul_nonneg h0 h0, by omega⟩

theorem root_test {a r : Int} (h0 : 0 ≤ r) (h1 : r ≤ 60000) (h2 : r * r ≤ a) (h3 : a < (r + 1) * (r + 1)) :
    (decide (r < 0) || decide (3000000000 < r) || decide (a < r * r) || decide ((r + 1) * (r + 1) ≤ a)) = false := by
  rw [decide_eq_false (show ¬ r < 0 by omega), decide_eq_false (show ¬ 3000000000 < r by omega), decide_eq_false (show ¬ a < r * r by omega), decide_eq_false (show ¬ (r + 1) * (r + 1) ≤ a by omega)]
  rfl

theorem mid_test {v y z : Int} (h : (y ≤ z → y ≤ v ∧ v ≤ z) ∧ (z ≤ y → z ≤ v ∧ v ≤ y)) : (decide (v < min y z) || decide (max y z < v)) = false := by
  obtain ⟨h1, h2⟩ := h
  rw [decide_eq_false (show ¬ v < min y z by omega), decide_eq_false (show ¬ max y z < v by omega)]
  rfl

theorem quot_facts {a b : Int} (a0 : -100000 ≤ a) (a1 : a ≤ 3599780001) (b0 : 1 ≤ b) (b1 : b ≤ 5000) :
    ∃ q : Int, divRound a b = q ∧ divRound (-a) b = -q ∧ -4000000000 ≤ q ∧ q ≤ 4000000000 ∧ -4000000000 ≤ q * b ∧ q * b ≤ 4000000000 ∧ 2 * (a - q * b) ≤ b ∧ -b ≤ 2 * (a - q * b) := by
  have e1 : divRound a b = nq a b := by
    unfold divRound
    rw [if_pos ⟨by omega, inB_iff.2 (by omega), inB_iff.2 (by omega)⟩]
  have e2 : divRound (-a) b = nq (-a) b := by
    unfold divRound
    rw [if_pos ⟨by omega, inB_iff.2 (by omega), inB_iff.2 (by omega)⟩]
  have h := nq_near a b (by omega)
  have hb := nq_bd a b (by omega)
  exact ⟨nq a b, e1, by rw [e2, nq_flip a b (by omega)], by omega, by omega, by omega, by omega, h.1, h.2⟩

theorem abs_small {n b : Int} (h0 : 2 * n ≤ b) (h1 : -b ≤ 2 * n) : 0 ≤ absV n ∧ 2 * absV n ≤ b := by
  unfold absV
  split <;> omega

theorem cells5 (w : World) (x y z u v : Int) (T : TypeId) : ∀ j, j < 5 → (w.alloc (.cells #[.int .i64 x, .int .i64 y, .int .i64 z, .int .i64 u, .int .i64 v] T)).cell? ⟨w.heap.size, 0 + j, none⟩ = some (.int .i64 ([x, y, z, u, v].getD j 0)) := by
  intro j hj
  match j, hj with
  | 0, _ => go_simp
  | 1, _ => go_simp
  | 2, _ => go_simp
  | 3, _ => go_simp
  | 4, _ => go_simp

theorem list_size (zs : List Int) (h0 : 0 < zs.length) (h1 : zs.length ≤ 64) (h : ∀ z ∈ zs, -1000000000000 ≤ z ∧ z ≤ 1000000000000) : (listV zs).size ≤ 1048576 := by
  have hf : fitsV zs = true := by
    unfold fitsV allIn
    rw [Bool.and_eq_true, decide_eq_true_eq, List.all_eq_true]
    exact ⟨fun z hz => inB_iff.2 (h z hz), h1⟩
  have hl := joinTo_len zs (fun j hj => by
    have := h (zs.getD j 0) (by rw [List.getD_eq_getElem?_getD, List.getElem?_eq_getElem hj]; exact List.getElem_mem hj)
    omega) zs.length (Nat.le_refl _)
  unfold listV
  rw [if_pos hf, if_neg (by omega)]
  show (joinTo zs zs.length).toArray.size ≤ 1048576
  rw [List.size_toArray]
  omega
theorem dec_back {a : Int} (h : -1000000000000 ≤ a ∧ a ≤ 1000000000000) : numV (decText a) = a ∧ numOk (decText a) = true := by
  have e : (decText a).data.toList = Lib.itoa a := by simp [decText]
  unfold numV numOk
  rw [e, num_back a h]
  exact ⟨rfl, rfl⟩

set_option maxRecDepth 100000 in
set_option maxHeartbeats 8000000 in
theorem basics_walk (a0 a1 : Option Addr) (n0 c0 n1 c1 : Nat) (w : World) (l0 : n0 ≤ 9223372036854775807) (l1 : n1 ≤ 9223372036854775807) (hI0 : n0 ≤ 1048576 → BytesAt w w.heap.size (.slice a0 n0 c0)) (hI1 : n1 ≤ 1048576 → BytesAt w w.heap.size (.slice a1 n1 c1)) (hF : Hid (ReadOk w)) (hSh : Hid (w.ShapedOpen Tryd.prog)) :
    Calls Tryd.prog 4 #[.slice a0 n0 c0, .slice a1 n1 c1] w fun e w' => e = .returned (.bool true) ∧ Below w.heap.size w w' := by
  have HOK := Lib.hid (show ListOk w from ⟨hF.out, max_of hSh.out⟩)
  clear hF hSh
  by_cases hbig : 1048576 < n0 ∨ 1048576 < n1
  · have HT := Lib.hid (show tooLong n0 n1 = true by simp [tooLong, hbig])
    clear hI0 hI1
    go_enter Tryd.func4, Tryd.ntmps4
    go_wp2_with fail
    refine (r8Long_any a0 a1 n0 n1 c0 c1 _).mono ?_
    rintro e w1 ⟨rfl, rfl⟩
    rw [HT.out]
    go_wp2
    go_ret
    exact ⟨rfl, Below.refl _ _⟩
  · have HT := Lib.hid (show tooLong n0 n1 = false by simp [tooLong, hbig])
    have HI0 := Lib.hid (hI0 (by omega))
    have HI1 := Lib.hid (hI1 (by omega))
    clear hI0 hI1
    go_enter Tryd.func4, Tryd.ntmps4
    go_wp2_with fail
    refine (r8Long_any a0 a1 n0 n1 c0 c1 _).mono ?_
    rintro e w1 ⟨rfl, rfl⟩
    rw [HT.out]
    clear hbig
    go_wp2_with fail
    refine (numbers_any _ _ HI0.out).mono ?_
    rintro e w1 ⟨a, b, ha0, ha1, hb0, hb1, rfl, hbe⟩
    have HB1 := Lib.hid hbe
    clear hbe
    go_wp2_with fail
    refine (implRoot_any (fun x w h0 h1 => (Tryd.bits_Len64 x w h0 h1).mono (fun e w' h => ⟨h.1, h.2.symm⟩)) a _ (by omega) (by omega)).mono ?_
    rintro e w2 ⟨r, hr, rfl, rfl⟩
    have HR := Lib.hid hr
    have hr0 := hr.1
    have hr1 := hr.2.1
    clear hr
    go_upto_region 5 with fail
    go_cut [5, 7, 61] from 18 (fun s5 s7 s61 wr => s5 = .int .i64 a ∧ s7 = .int .i64 r ∧ s61 = .bool false ∧ wr = w1)
    case first =>
      by_cases hneg : a < 0
      · obtain rfl : r = 0 := HR.out.2.2.1 hneg
        go_wp2
        go_meet
        case rel => exact ⟨rfl, rfl, rfl, rfl⟩
      · obtain ⟨s0, s1, s2, s3, s4, s5⟩ := root_small HR.out (by omega) ha1
        have HRT := Lib.hid (root_test s0 s1 s2 s3)
        go_wp2
        go_meet
        case rel => exact ⟨rfl, rfl, by rw [HRT.out], rfl⟩
    case rest =>
      obtain ⟨rfl, rfl, rfl, rfl⟩ := hcut
      obtain ⟨q, hq, hqn, q0, q1, p0, p1, t0, t1⟩ := quot_facts ha0 ha1 hb0 hb1
      have HQ := Lib.hid hq
      have HN := Lib.hid hqn
      clear hq hqn
      go_wp2_with fail
      refine (implDivRound_any a b _).mono ?_
      rintro e w3 ⟨rfl, hbe⟩
      rw [HQ.out]
      have HB3 := Lib.hid (below_of HB1.out hbe HB1.out.size)
      clear hbe
      have hA := abs_small t0 t1
      go_wp2_with fail
      refine (r8Abs_any (a - q * b) _ (by omega) (by omega)).mono ?_
      rintro e w4 ⟨rfl, rfl⟩
      clear t0 t1
      generalize absV (a - q * b) = t at *
      obtain ⟨t0, t1⟩ := hA
      have hne : ((-q) != (-q)) = false := by simp
      go_wp2_with fail
      refine (implDivRound_any (-a) b _).mono ?_
      rintro e w4 ⟨rfl, hbe⟩
      rw [HN.out]
      have HB4 := Lib.hid (below_of HB3.out hbe HB3.out.size)
      clear hbe
      have HI4 := Lib.hid (bytes_kept HB4.out HI1.out)
      go_wp2_with fail
      refine (r8Wide_any _ 0 1000 _ HI4.out (by omega) (by omega) (by omega) (by omega)).mono ?_
      rintro e w5 ⟨x, x0, x1', rfl, rfl⟩
      have x1 : x ≤ 999 := by omega
      clear x1'
      go_wp2_with fail
      refine (r8Wide_any _ 2 5000 _ HI4.out (by omega) (by omega) (by omega) (by omega)).mono ?_
      rintro e w5 ⟨y', y0', y1', rfl, rfl⟩
      obtain ⟨y, rfl⟩ : ∃ y : Int, y' = y + 2500 := ⟨y' - 2500, by omega⟩
      have y0 : -2500 ≤ y := by omega
      have y1 : y ≤ 2499 := by omega
      clear y0' y1'
      go_wp2_with fail
      refine (r8Wide_any _ 4 5000 _ HI4.out (by omega) (by omega) (by omega) (by omega)).mono ?_
      rintro e w5 ⟨z', z0', z1', rfl, rfl⟩
      obtain ⟨z, rfl⟩ : ∃ z : Int, z' = z + 2500 := ⟨z' - 2500, by omega⟩
      have z0 : -2500 ≤ z := by omega
      have z1 : z ≤ 2499 := by omega
      clear z0' z1'
      have HE := Lib.hid (blend_ends y z (by omega) (by omega))
      have hbt := blend_between y z x (by omega) (by omega) (by omega)
      go_wp2_with fail
      refine (implBlend_any 0 y 1000 z x _).mono ?_
      rintro e w5 ⟨rfl, hbe⟩
      have HB5 := Lib.hid (below_of HB4.out hbe HB4.out.size)
      clear hbe
      generalize blendV 0 y 1000 z x = v at *
      have HBT := Lib.hid hbt
      clear hbt
      go_upto_region 14 with fail
      go_cut [10, 11, 12, 120] from 18 (fun s10 s11 s12 s120 wr => s10 = .int .i64 y ∧ s11 = .int .i64 z ∧ s12 = .int .i64 v ∧ s120 = .bool false ∧ Hid (Below w.heap.size w wr))
      case first =>
        have hey : (y != y) = false := by simp
        have hez : (z != z) = false := by simp
        have HMT := Lib.hid (mid_test HBT.out)
        have hm1 : min y z ≤ v := by
          have := HBT.out
          omega
        have hm2 : v ≤ max y z := by
          have := HBT.out
          omega
        go_wp2_with fail
        refine (implBlend_any 0 y 1000 z 0 _).mono ?_
        rintro e w6 ⟨rfl, hbe⟩
        rw [HE.out.1]
        have HB6 := Lib.hid (below_of HB5.out hbe HB5.out.size)
        clear hbe
        go_wp2_with fail
        refine (implBlend_any 0 y 1000 z 1000 _).mono ?_
        rintro e w7 ⟨rfl, hbe⟩
        rw [HE.out.2]
        have HB7 := Lib.hid (below_of HB6.out hbe HB6.out.size)
        clear hbe
        go_wp2
        go_meet
        case rel => exact ⟨rfl, rfl, rfl, by first | rfl | rw [HMT.out], HB7⟩
      case rest =>
        obtain ⟨rfl, rfl, rfl, rfl, HB6⟩ := hcut
        clear HBT HB5
        have hin : ∀ u ∈ [a, b, x, y, z], -1000000000000 ≤ u ∧ u ≤ 1000000000000 := by
          intro u hu
          simp only [List.mem_cons, List.not_mem_nil, or_false] at hu
          omega
        have HC := Lib.hid (cells5 wc a b x y z 2)
        have HV := Lib.hid (read_back [a, b, x, y, z] (by simp) (by simp) hin)
        have HS := Lib.hid (list_size [a, b, x, y, z] (by simp) (by simp) hin)
        have HL := Lib.hid (show [a, b, x, y, z].length = 5 from rfl)
        clear hin
        have HB7 := Lib.hid (HB6.out.alloc HB6.out.size (.cells #[.int .i64 a, .int .i64 b, .int .i64 x, .int .i64 y, .int .i64 z] 2))
        have HD := Lib.hid (dec_back (a := a) (by omega))
        generalize [a, b, x, y, z] = zs at HC HV HS HL
        have heq : (a == a) = true := by simp
        go_wp2_with fail
        refine (implListText_any zs wc.heap.size 5 _ 5 HL (by omega) (by simp) HC.out (Lib.hid (pow_kept HB7.out HOK.out.rd.pow))).mono ?_
        rintro e w8 ⟨rfl, hbe⟩
        have HR8 := Lib.hid hbe
        have HB8 := Lib.hid (below_of HB7.out hbe HB7.out.size)
        clear hbe
        generalize listV zs = tx at *
        go_wp2_with fail
        refine (implReadList_any tx _ HS.out (Lib.hid (list_kept HB8.out HOK.out))).mono ?_
        rintro e w9 ⟨hbe, ⟨hV, _⟩ | ⟨zs2, vb, hV, _, rfl, hown⟩⟩
        case inl => rw [HV.out] at hV; cases hV
        obtain rfl : zs2 = zs := Option.some.inj (hV.symm.trans HV.out)
        clear hV
        have HR9 := Lib.hid (below_of HR8.out hbe HR8.out.size)
        have HB9 := Lib.hid (below_of HB8.out hbe HB8.out.size)
        clear hbe
        obtain ⟨g, cap, rfl, hg1, hg2, hrow⟩ := hown
        rw [HL.out] at hrow ⊢
        have HW := Lib.hid hrow
        clear hrow
        go_wp2_with fail
        refine (implDecimal_any a _ (by omega) (by omega) (Lib.hid (pow_kept HB9.out HOK.out.rd.pow))).mono ?_
        rintro e w10 ⟨rfl, hbe⟩
        have HR10 := Lib.hid (below_of HR9.out hbe HR9.out.size)
        have HB10 := Lib.hid (below_of HB9.out hbe HB9.out.size)
        have HW10 := Lib.hid (row_below hbe HW.out)
        clear hbe
        have HZ := Lib.hid (dec_size a (by omega) (by omega))
        generalize decText a = td at *
        go_wp2_with fail
        refine (implReadDecimal_any td _ (by have := HZ.out; omega) (Lib.hid (read_kept HB10.out HOK.out.rd))).mono ?_
        rintro e w11 ⟨hret, hbe⟩
        unfold NumRet at hret
        rw [HD.out.1, HD.out.2] at hret
        subst hret
        have HR11 := Lib.hid (below_of HR10.out hbe HR10.out.size)
        have HB11 := Lib.hid (below_of HB10.out hbe HB10.out.size)
        have HW11 := Lib.hid (row_below hbe HW10.out)
        clear hbe
        have HC11 := Lib.hid (show ∀ j, j < 5 → w11.cell? ⟨wc.heap.size, 0 + j, none⟩ = some (.int .i64 (zs2.getD j 0)) from fun j hj => by
          rw [HR11.out.cell (p := ⟨wc.heap.size, 0 + j, none⟩) (by simp)]; exact HC.out j hj)
        go_wp2_with fail
        refine (r8Same_some zs2 g 0 cap wc.heap.size 0 5 _ 5 (by omega) (own_cells HL.out HW11.out) HC11.out).mono ?_
        rintro e w12 ⟨rfl, hbe⟩
        have HB12 := Lib.hid (below_of HB11.out hbe HB11.out.size)
        clear hbe
        go_wp2
        go_ret
        exact ⟨rfl, HB12.out⟩
end Go.Proofs.YtndmakimkghihabDoor
