/- Profiles: the program's search of the ring at a height; RingAt and WallAt. -/
import Derived.Test.YtojkijcdfnfnlabProfFunI
namespace Go.Proofs.Ytojkijcdfnfnlab
open Go.ChangeShapes Go.WideShapes Go.ChangeAt Go.RowKit

/-- The program's search: the ring at a height, how far the height is above its lower end, the code. -/
noncomputable def overR (s : ByteArray) (rs : List Rg) (h : Int) : Int := if askC s rs h = 0 then h - heights (rs.take (atF rs h)) else 0
theorem ask_1 {s : ByteArray} {rs : List Rg} {h : Int} (hp : profB s rs = false) : askC s rs h = 1 := by unfold askC; rw [hp]; rfl
theorem ask_2 {s : ByteArray} {rs : List Rg} {h : Int} (hp : profB s rs = true) (hh : h < 0 ∨ heights rs ≤ h) : askC s rs h = 2 := by
  unfold askC
  rw [if_pos hp, if_neg (fun e => by have := inB_iff.1 e; omega)]
theorem ask_ok {s : ByteArray} {rs : List Rg} {h : Int} (hp : profB s rs = true) (h0 : 0 ≤ h) (h1 : h < heights rs) : askC s rs h = 0 := by
  unfold askC
  rw [if_pos hp, if_pos (inB_iff.2 (by omega))]
theorem ret_three {a b c d e f : Int} (h : a = b) (k : c = d) (l : e = f) : Ending.returned (.tuple #[.int .i64 a, .int .i64 c, .int .i64 e]) = .returned (.tuple #[.int .i64 b, .int .i64 d, .int .i64 f]) := by rw [h, k, l]
def FindIs (s : ByteArray) (rs : List Rg) (h : Int) (e : Ending) : Prop := ∃ k : Nat, ∃ o c : Int, e = .returned (.tuple #[.int .i64 k, .int .i64 o, .int .i64 c]) ∧ c = askC s rs h ∧ (c = 0 → IsAt rs h k ∧ o = h - heights (rs.take k)) ∧ (c ≠ 0 → k = 0 ∧ o = 0)
set_option maxRecDepth 20000 in
set_option maxHeartbeats 2000000 in
theorem implFind_any (s : ByteArray) (v : Value) (rs : List Rg) (h : Int) (w : World) (hv : RingsAt w v rs) (hs : s.size ≤ maxLen) (hh : -9223372036854775808 ≤ h ∧ h ≤ 9223372036854775807) :
    Calls Try.prog 16 #[.agg #[.string s, v], .int .i64 h] w fun e w' => FindIs s rs h e ∧ Below w.heap.size w w' := by
  have HI := Lib.hid hv
  obtain ⟨a, c, rfl⟩ := rings_form hv
  clear hv
  obtain ⟨hh0, hh1⟩ := hh
  rcases Bool.eq_false_or_eq_true (profB s rs) with hp | hp
  · have HP := Lib.hid hp
    obtain ⟨-, ⟨n1, n2⟩, -, -⟩ := prof_iff.1 hp
    by_cases hneg : h < 0
    · have HF := Lib.hid (ask_2 hp (.inl hneg))
      clear hp
      generalize hn : rs.length = n at *
      clear hn
      go_enter Try.func16, Try.ntmps16
      go_wp2_with fail
      refine (implValidP_any s _ rs _ (rings_kept (below_al _ _) HI.out) hs).mono ?_
      rintro e w1 ⟨rfl, hb⟩
      rw [HP.out]
      have HB := Lib.hid (below_of (below_al _ _) hb (by simp))
      clear hb
      go_wp2
      go_ret3
      exact ⟨⟨0, 0, 2, rfl, HF.out.symm, (fun e => absurd e (by decide)), fun _ => ⟨rfl, rfl⟩⟩, HB.out⟩
    · clear hp
      generalize hn : rs.length = n at *
      have HN := Lib.hid hn
      clear hn
      go_enter Try.func16, Try.ntmps16
      go_wp2_with fail
      have hal := alloc_lt2 w (.cells #[.string s, .slice a n c] 28)
      have hpa := prof_alloc w s (.slice a n c) 28
      have HBA := Lib.hid (below_al w (.cells #[.string s, .slice a n c] 28))
      generalize w.alloc (.cells #[.string s, .slice a n c] 28) = wA at *
      have HIA := Lib.hid (rings_kept HBA.out HI.out)
      refine (implValidP_any s _ rs _ HIA.out hs).mono ?_
      rintro e w1 ⟨rfl, hb⟩
      rw [HP.out]
      obtain ⟨p0, p1⟩ := prof_keep hb hal hpa
      have HI1 := Lib.hid (rings_kept hb HIA.out)
      have HB := Lib.hid (below_of HBA.out hb HBA.out.size)
      clear hb hpa
      obtain ⟨-, ⟨a', c', hv, h0⟩ | ⟨b, off, cap, hv, hbl, hc⟩⟩ := HI1.out
      · have := HN.out
        rw [h0] at this; simp at this; omega
      · simp only [Value.slice.injEq] at hv
        obtain ⟨rfl, -, rfl⟩ := hv
        have HC := Lib.hid (fun i (hi : i < n) => ring_in hc i (by rw [HN.out]; exact hi))
        clear hc
        go_wp2
        go_loopw [7, 19] (fun A i wr => ∃ k : Nat, k ≤ n ∧ i = .int .i64 k ∧ A = .int .i64 (h - heights (rs.take k)) ∧ heights (rs.take k) ≤ h ∧ Below w1.heap.size w1 wr) (fun _ i _ => n - (intOf i).toNat)
        case atStart => exact ⟨0, by omega, rfl, by simp [heights], by simpa [heights] using hneg, Below.refl _ _⟩
        case round =>
          obtain ⟨k, hk, rfl, rfl, hle, hbw⟩ := hrel
          have HBW := Lib.hid hbw
          clear hbw p0 p1
          by_cases hlt : k < n
          · have hr := HC.out k hlt
            have hrb := ring_iff.1 (prof_ring HP.out k (by rw [HN.out]; exact hlt))
            have hbd := prof_take HP.out k (by rw [HN.out]; exact hk)
            have hx := heights_next rs k (by rw [HN.out]; exact hlt)
            obtain ⟨⟨x, y, z⟩, hxyz⟩ : ∃ r, rs.getD k zR = r := ⟨_, rfl⟩
            rw [hxyz] at hr hrb hx
            have HX := Lib.hid hx
            have e0 : wr.cell? ⟨b, off + k * 3, none⟩ = some (.int .i64 x) := (below_cell HBW.out _ _ hbl).trans hr.c0
            have e1 : wr.cell? ⟨b, off + k * 3 + 1, none⟩ = some (.int .i64 y) := (below_cell HBW.out _ _ hbl).trans hr.c1
            have e2 : wr.cell? ⟨b, off + k * 3 + 2, none⟩ = some (.int .i64 z) := (below_cell HBW.out _ _ hbl).trans hr.c2
            have HLE := Lib.hid hle
            clear hr hx hxyz hle
            obtain ⟨t, ht⟩ : ∃ t, heights (rs.take k) = t := ⟨_, rfl⟩
            have HT := Lib.hid ht
            rw [ht] at hbd HX HLE ⊢
            clear ht
            have hle := HLE.out
            simp only at hrb HX
            have hw : IntKind.i64.wrap (h - t - z) = h - t - z := IntWalk.i64_in _ (by omega)
            have hkm : (k : Int) < (n : Int) := by omega
            have hk0 : (0 : Int) ≤ (k : Int) := by omega
            by_cases hin : h - t < z
            · have HA := Lib.hid (show IsAt rs h k from ⟨by rw [HN.out]; exact hlt, by rw [HT.out]; exact hle, by rw [HX.out]; omega⟩)
              have HF := Lib.hid (ask_ok HP.out (show 0 ≤ h by omega) (by
                have h1 := heights_up (fun i hi => prof_ring HP.out i hi) (k + 1) rs.length (by rw [HN.out]; omega) (Nat.le_refl _)
                rw [List.take_of_length_le (Nat.le_refl _)] at h1
                have h2 := HA.out.2.2
                omega))
              have HBF := Lib.hid (below_of HB.out HBW.out HB.out.size)
              clear hrb hbd hle
              go_wp2
              go_ret3
              exact ⟨⟨k, h - t, 0, rfl, HF.out.symm, fun _ => ⟨HA.out, by rw [HT.out]⟩, fun e => absurd rfl e⟩, HBF.out.alloc HBF.out.size _⟩
            · clear hrb hbd hle
              have HL := Lib.hid (show heights (rs.take (k + 1)) ≤ h by have := HX.out; omega)
              have HE := Lib.hid (show h - t - z = h - heights (rs.take (k + 1)) by have := HX.out; omega)
              go_wp2
              go_roundw
              case rel => exact ⟨k + 1, by omega, by go_num, by rw [HE.out], HL.out, HBW.out.alloc HBW.out.size _⟩
              case measure => simp [intOf]; omega
          · obtain rfl : k = n := by omega
            have he : heights (rs.take k) = heights rs := by rw [List.take_of_length_le (by have := HN.out; omega)]
            rw [he] at hle ⊢
            have HF := Lib.hid (ask_2 HP.out (.inr hle))
            have HBF := Lib.hid (below_of HB.out HBW.out HB.out.size)
            clear he
            generalize heights rs = y at *
            go_wp2
            go_ret3
            exact ⟨⟨0, 0, 2, rfl, HF.out.symm, (fun e => absurd e (by decide)), fun _ => ⟨rfl, rfl⟩⟩, HBF.out⟩
  · have HF := Lib.hid (ask_1 (h := h) hp)
    generalize hn : rs.length = n at *
    clear hn
    go_enter Try.func16, Try.ntmps16
    go_wp2_with fail
    refine (implValidP_any s _ rs _ (rings_kept (below_al _ _) HI.out) hs).mono ?_
    rintro e w1 ⟨rfl, hb⟩
    rw [hp]
    have HB := Lib.hid (below_of (below_al _ _) hb (by simp))
    clear hb
    go_wp2
    go_ret3
    exact ⟨⟨0, 0, 1, rfl, HF.out.symm, (fun e => absurd e (by decide)), fun _ => ⟨rfl, rfl⟩⟩, HB.out⟩
end Go.Proofs.Ytojkijcdfnfnlab
