/- The height of a profile: the program's walk. -/
import Derived.Test.YtgnnpimfcbkloaaProfVal
namespace Go.Proofs.Ytgnnpimfcbkloaa
open Go.ChangeShapes Go.WideShapes Go.ChangeAt Go.RowKit

theorem prof_takeH {s : ByteArray} {rs : List Rg} (h : profB s rs = true) (k : Nat) (hk : k ≤ rs.length) : 0 ≤ heights (rs.take k) ∧ heights (rs.take k) ≤ 300000 * k := heights_bd2 k (fun i hi => prof_ring h i (by omega)) hk
set_option maxRecDepth 20000 in
set_option maxHeartbeats 2000000 in
theorem implHeightOf_any (s : ByteArray) (v : Value) (rs : List Rg) (w : World) (h : RingsAt w v rs) (hs : s.size ≤ maxLen) :
    Calls Try.prog 81 #[.agg #[.string s, v]] w fun e w' => e = .returned (.tuple #[.int .i64 (hgtR s rs), .int .i64 (codeP s rs)]) ∧ Below w.heap.size w w' := by
  have HI := Lib.hid h
  obtain ⟨a, c, rfl⟩ := rings_form h
  clear h
  rcases Bool.eq_false_or_eq_true (profB s rs) with hp | hp
  · have HR := Lib.hid (show hgtR s rs = heights rs ∧ codeP s rs = 0 by unfold hgtR codeP; rw [if_pos hp, if_pos hp]; exact ⟨rfl, rfl⟩)
    have HP := Lib.hid hp
    obtain ⟨-, ⟨n1, n2⟩, -, -⟩ := prof_iff.1 hp
    clear hp
    generalize hn : rs.length = n at *
    have HN := Lib.hid hn
    clear hn
    go_enter Try.func81, Try.ntmps81
    go_wp2_with fail
    have hal := alloc_lt2 w (.cells #[.string s, .slice a n c] 36)
    have hpa := prof_alloc w s (.slice a n c) 36
    have HBA := Lib.hid (below_al w (.cells #[.string s, .slice a n c] 36))
    generalize w.alloc (.cells #[.string s, .slice a n c] 36) = wA at *
    have HIA := Lib.hid (rings_kept HBA.out HI.out)
    refine (implValidP_any s _ rs _ HIA.out hs).mono ?_
    rintro e w1 ⟨rfl, hb⟩
    rw [HP.out]
    obtain ⟨p0, p1⟩ := prof_keep hb hal hpa
    have HI1 := Lib.hid (rings_kept hb HIA.out)
    have HB := Lib.hid (below_of HBA.out hb HBA.out.size)
    clear hb hpa
    obtain ⟨-, ⟨a', c', hv, h0⟩ | ⟨b, off, cap, hv, hbl, hc⟩⟩ := HI1.out
    · have := HN.out
      rw [h0] at this; simp at this; omega
    · simp only [Value.slice.injEq] at hv
      obtain ⟨rfl, -, rfl⟩ := hv
      have HC := Lib.hid (fun i (hi : i < n) => ring_in hc i (by rw [HN.out]; exact hi))
      clear hc
      go_wp2
      go_loopw [4, 13] (fun L i wr => ∃ k : Nat, k ≤ n ∧ i = .int .i64 k ∧ L = .int .i64 (heights (rs.take k)) ∧ Below w1.heap.size w1 wr) (fun _ i _ => n - (intOf i).toNat)
      case atStart => exact ⟨0, by omega, rfl, by simp [heights], Below.refl _ _⟩
      case round =>
        obtain ⟨k, hk, rfl, rfl, hbw⟩ := hrel
        have HBW := Lib.hid hbw
        clear hbw p0 p1
        by_cases hlt : k < n
        · have hr := HC.out k hlt
          have hrb := HP.out
          have hrb := ring_iff.1 (prof_ring HP.out k (by rw [HN.out]; exact hlt))
          have hbd := prof_takeH HP.out k (by rw [HN.out]; exact hk)
          have hx := heights_next rs k (by rw [HN.out]; exact hlt)
          obtain ⟨⟨x, y, z⟩, hxyz⟩ : ∃ r, rs.getD k zR = r := ⟨_, rfl⟩
          rw [hxyz] at hr hrb hx
          have HX := Lib.hid hx
          have e0 : wr.cell? ⟨b, off + k * 3, none⟩ = some (.int .i64 x) := (below_cell HBW.out _ _ hbl).trans hr.c0
          have e1 : wr.cell? ⟨b, off + k * 3 + 1, none⟩ = some (.int .i64 y) := (below_cell HBW.out _ _ hbl).trans hr.c1
          have e2 : wr.cell? ⟨b, off + k * 3 + 2, none⟩ = some (.int .i64 z) := (below_cell HBW.out _ _ hbl).trans hr.c2
          clear hr hx hxyz
          generalize heights (rs.take k) = t at *
          simp only at hrb HX
          have hw : IntKind.i64.wrap (t + z) = t + z := IntWalk.i64_in _ (by omega)
          have hkm : (k : Int) < (n : Int) := by omega
          have hk0 : (0 : Int) ≤ (k : Int) := by omega
          clear hrb hbd
          go_wp2
          go_roundw
          case rel => exact ⟨k + 1, by omega, by go_num, by rw [HX.out], HBW.out.alloc HBW.out.size _⟩
          case measure => simp [intOf]; omega
        · obtain rfl : k = n := by omega
          have he : heights (rs.take k) = heights rs := by rw [List.take_of_length_le (by have := HN.out; omega)]
          have HR1 := Lib.hid HR.out.1
          have HR2 := Lib.hid HR.out.2
          rw [he]
          clear he
          generalize heights rs = y at *
          have HBF := Lib.hid (below_of HB.out HBW.out HB.out.size)
          go_wp2
          go_ret2
          exact ⟨ret_two HR1.out.symm HR2.out.symm, HBF.out⟩
  · have HR := Lib.hid (show hgtR s rs = 0 ∧ codeP s rs = 1 by unfold hgtR codeP; rw [hp]; exact ⟨rfl, rfl⟩)
    generalize hn : rs.length = n at *
    clear hn
    go_enter Try.func81, Try.ntmps81
    go_wp2_with fail
    refine (implValidP_any s _ rs _ (rings_kept (below_al _ _) HI.out) hs).mono ?_
    rintro e w1 ⟨rfl, hb⟩
    rw [hp]
    have HB := Lib.hid (below_of (below_al _ _) hb (by simp))
    clear hb
    go_wp2
    go_ret2
    exact ⟨ret_two HR.out.1.symm HR.out.2.symm, HB.out⟩
end Go.Proofs.Ytgnnpimfcbkloaa
