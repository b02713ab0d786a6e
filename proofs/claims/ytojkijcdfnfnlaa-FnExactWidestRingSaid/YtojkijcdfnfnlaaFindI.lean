/- Profiles: the program's search of the ring at a height; RingAt and WallAt. -/
import Derived.Test.YtojkijcdfnfnlaaProfFunI
namespace Go.Proofs.Ytojkijcdfnfnlaa
open Go.ChangeShapes Go.WideShapes Go.ChangeAt Go.RowKit

/-- The program's search: the ring at a height, how far the height is above its lower end, the code. -/
noncomputable def overR (s : ByteArray) (rs : List Rg) (h : Int) : Int := if askC s rs h = 0 then h - heights (rs.take (atF rs h)) else 0
theorem ask_1 {s : ByteArray} {rs : List Rg} {h : Int} (hp : profB s rs = false) : askC s rs h = 1 := by unfold askC; rw [hp]; rfl
theorem ask_2 {s : ByteArray} {rs : List Rg} {h : Int} (hp : profB s rs = true) (hh : h < 0 ∨ heights rs ≤ h) : askC s rs h = 2 := by
  unfold askC
  rw [if_pos hp, if_neg (fun e => by have := inB_iff.1 e; omega)]
theorem ask_ok {s : ByteArray} {rs : List Rg} {h : Int} (hp : profB s rs = true) (h0 : 0 ≤ h) (h1 : h < heights rs) : askC s rs h = 0 := by
  unfold askC
  rw [if_pos hp, if_pos (inB_iff.2 (by omega))]
theorem ret_three {a b c d e f : Int} (h : a = b) (k : c = d) (l : e = f) : Ending.returned (.tuple #[.int .i64 a, .int .i64 c, .int .i64 e]) = .returned (.tuple #[.int .i64 b, .int .i64 d, .int .i64 f]) := by rw [h, k, l]
def FindIs (s : ByteArray) (rs : List Rg) (h : Int) (e : Ending) : Prop := ∃ k : Nat, ∃ o c : Int, e = .returned (.tuple #[.int .i64 k, .int .i64 o, .int .i64 c]) ∧ c = askC s rs h ∧ (c = 0 → IsAt rs h k ∧ o = h - heights (rs.take k)) ∧ (c ≠ 0 → k = 0 ∧ o = 0)
set_option maxRecDepth 20000 in
set_option maxHeartbeats 2000000 in
theorem implFind_any (s : ByteArray) (v : Value) (rs : List Rg) (h : Int) (w : World) (hv : RingsAt w v rs) (hs : s.size ≤ maxLen) (hh : -9223372036854775808 ≤ h ∧ h ≤ 9223372036854775807) :
    Calls Try.prog 56 #[.agg #[.string s, v], .int .i64 h] w fun e w' => FindIs s rs h e ∧ Below w.heap.size w w' := by
  have HI := Lib.hid hv
  obtain ⟨a, c, rfl⟩ := rings_form hv
  clear hv
  obtain ⟨hh0, hh1⟩ := hh
  rcases Bool.eq_false_or_eq_true (profB s rs) with hp | hp
  · have HP := Lib.hid hp
    obtain ⟨-, ⟨n1, n2⟩, -, -⟩ := prof_iff.1 hp
    by_cases hneg : h < 0
    · have HF := Lib.hid (ask_2 hp (.inl hneg))
      clear hp
      generalize hn : rs.length = n at *
      clear hn
      go_enter Try.func56, Try.ntmps56
      go_wp2_with fail
      refine (implValidP_any s _ rs _ (rings_kept (below_al _ _) HI.out) hs).mono ?_
      rintro e w1 ⟨rfl, hb⟩
      rw [HP.out]
      have HB := Lib.hid (below_of (below_al _ _) hb (by simp))
      clear hb
      go_wp2
      go_ret3
      exact ⟨⟨0, 0, 2, rfl, HF.out.symm, (fun e => absurd e (by decide)), fun _ => ⟨rfl, rfl⟩⟩, HB.out⟩
    · clear hp
      generalize hn : rs.length = n at *
      have HN := Lib.hid hn
      clear hn
      go_enter Try.func56, Try.ntmps56
      go_wp2_with fail
      have hal := alloc_lt2 w (.cells #[.string s, .slice a n c] 35)
      have hpa := prof_alloc w s (.slice a n c) 35
      have HBA := Lib.hid (below_al w (.cells #[.string s, .slice a n c] 35))
      generalize w.alloc (.cells #[.string s, .slice a n c] 35) = wA at *
      have HIA := Lib.hid (rings_kept HBA.out HI.out)
      refine (implValidP_any s _ rs _ HIA.out hs).mono ?_
      rintro e w1 ⟨rfl, hb⟩
      rw [HP.out]
      obtain ⟨p0, p1⟩ := prof_keep hb hal hpa
      have HI1 := Lib.hid (rings_kept hb HIA.out)
      have HB := Lib.hid (below_of HBA.out hb HBA.out.size)
      clear hb hpa
      obtain ⟨-, ⟨a', c', hv, h0⟩ | ⟨b, off, cap, hv, hbl, hc⟩⟩ := HI1.out
      · have := HN.out
        rw [h0] at this; simp at this; omega
      · simp only [Value.slice.injEq] at hv
        obtain ⟨rfl, -, rfl⟩ := hv
        have HC := Lib.hid (fun i (hi : i < n) => ring_in hc i (by rw [HN.out]; exact hi))
        clear hc
        go_wp2
        go_loopw [7, 19] (fun A i wr => ∃ k : Nat, k ≤ n ∧ i = .int .i64 k ∧ A = .int .i64 (h - heights (rs.take k)) ∧ heights (rs.take k) ≤ h ∧ Below w1.heap.size w1 wr) (fun _ i _ => n - (intOf i).toNat)
        case atStart => exact ⟨0, by omega, rfl, by simp [heights], by simpa [heights] using hneg, Below.refl _ _⟩
        case round =>
          obtain ⟨k, hk, rfl, rfl, hle, hbw⟩ := hrel
          have HBW := Lib.hid hbw
          clear hbw p0 p1
          by_cases hlt : k < n
          · have hr := HC.out k hlt
            have hrb := ring_iff.1 (prof_ring HP.out k (by rw [HN.out]; exact hlt))
            have hbd := prof_take HP.out k (by rw [HN.out]; exact hk)
            have hx := heights_next rs k (by rw [HN.out]; exact hlt)
            obtain ⟨⟨x, y, z⟩, hxyz⟩ : ∃ r, rs.getD k zR = r := ⟨_, rfl⟩
            rw [hxyz] at hr hrb hx
            have HX := Lib.hid hx
            have e0 : wr.cell? ⟨b, off + k * 3, none⟩ = some (.int .i64 x) := (below_cell HBW.out _ _ hbl).trans hr.c0
            have e1 : wr.cell? ⟨b, off + k * 3 + 1, none⟩ = some (.int .i64 y) := (below_cell HBW.out _ _ hbl).trans hr.c1
            have e2 : wr.cell? ⟨b, off + k * 3 + 2, none⟩ = some (.int .i64 z) := (below_cell HBW.out _ _ hbl).trans hr.c2
            have HLE := Lib.hid hle
            clear hr hx hxyz hle
            obtain ⟨t, ht⟩ : ∃ t, heights (rs.take k) = t := ⟨_, rfl⟩
            have HT := Lib.hid ht
            rw [ht] at hbd HX HLE ⊢
            clear ht
            have hle := HLE.out
            simp only at hrb HX
            have hw : IntKind.i64.wrap (h - t - z) = h - t - z := IntWalk.i64_in _ (by omega)
            have hkm : (k : Int) < (n : Int) := by omega
            have hk0 : (0 : Int) ≤ (k : Int) := by omega
            by_cases hin : h - t < z
            · have HA := Lib.hid (show IsAt rs h k from ⟨by rw [HN.out]; exact hlt, by rw [HT.out]; exact hle, by rw [HX.out]; omega⟩)
              have HF := Lib.hid (ask_ok HP.out (show 0 ≤ h by omega) (by
                have h1 := heights_up (fun i hi => prof_ring HP.out i hi) (k + 1) rs.length (by rw [HN.out]; omega) (Nat.le_refl _)
                rw [List.take_of_length_le (Nat.le_refl _)] at h1
                have h2 := HA.out.2.2
                omega))
              have HBF := Lib.hid (below_of HB.out HBW.out HB.out.size)
              clear hrb hbd hle
              go_wp2
              go_ret3
              exact ⟨⟨k, h - t, 0, rfl, HF.out.symm, fun _ => ⟨HA.out, by rw [HT.out]⟩, fun e => absurd rfl e⟩, HBF.out.alloc HBF.out.size _⟩
            · clear hrb hbd hle
              have HL := Lib.hid (show heights (rs.take (k + 1)) ≤ h by have := HX.out; omega)
              have HE := Lib.hid (show h - t - z = h - heights (rs.take (k + 1)) by have := HX.out; omega)
              go_wp2
              go_roundw
              case rel => exact ⟨k + 1, by omega, by go_num, by rw [HE.out], HL.out, HBW.out.alloc HBW.out.size _⟩
              case measure => simp [intOf]; omega
          · obtain rfl : k = n := by omega
            have he : heights (rs.take k) = heights rs := by rw [List.take_of_length_le (by have := HN.out; omega)]
            rw [he] at hle ⊢
            have HF := Lib.hid (ask_2 HP.out (.inr hle))
            have HBF := Lib.hid (below_of HB.out HBW.out HB.out.size)
            clear he
            generalize heights rs = y at *
            go_wp2
            go_ret3
            exact ⟨⟨0, 0, 2, rfl, HF.out.symm, (fun e => absurd e (by decide)), fun _ => ⟨rfl, rfl⟩⟩, HBF.out⟩
  · have HF := Lib.hid (ask_1 (h := h) hp)
    generalize hn : rs.length = n at *
    clear hn
    go_enter Try.func56, Try.ntmps56
    go_wp2_with fail
    refine (implValidP_any s _ rs _ (rings_kept (below_al _ _) HI.out) hs).mono ?_
    rintro e w1 ⟨rfl, hb⟩
    rw [hp]
    have HB := Lib.hid (below_of (below_al _ _) hb (by simp))
    clear hb
    go_wp2
    go_ret3
    exact ⟨⟨0, 0, 1, rfl, HF.out.symm, (fun e => absurd e (by decide)), fun _ => ⟨rfl, rfl⟩⟩, HB.out⟩
theorem implWall_any (x y z : Int) (w : World) (hb : ringB (x, y, z) = true) :
    Calls Try.prog 57 #[.agg #[.int .i64 x, .int .i64 y, .int .i64 z]] w fun e w' => e = .returned (.int .i64 (x - y)) ∧ Below w.heap.size w w' := by
  have h1 := ring_iff.1 hb
  simp only at h1
  have hw : IntKind.i64.wrap (x - y) = x - y := IntWalk.i64_in _ (by omega)
  clear hb h1
  go_enter Try.func57, Try.ntmps57
  go_wp2
  go_ret
  exact ⟨rfl, below_al _ _⟩
set_option maxRecDepth 20000 in
theorem implRingAt_any (s : ByteArray) (v : Value) (rs : List Rg) (h : Int) (w : World) (hv : RingsAt w v rs) (hs : s.size ≤ maxLen) (hh : -9223372036854775808 ≤ h ∧ h ≤ 9223372036854775807) :
    Calls Try.prog 29 #[.agg #[.string s, v], .int .i64 h] w fun e w' => e = .returned (.tuple #[.int .i64 (atR s rs h), .int .i64 (askC s rs h)]) ∧ Below w.heap.size w w' := by
  have HI := Lib.hid hv
  obtain ⟨a, c, rfl⟩ := rings_form hv
  have HH := Lib.hid hh
  clear hv hh
  generalize hn : rs.length = n at *
  clear hn
  go_enter Try.func29, Try.ntmps29
  go_wp2_with fail
  refine (implFind_any s _ rs h _ (rings_kept (below_al _ _) HI.out) hs HH.out).mono ?_
  rintro e w1 ⟨⟨k, o, q, rfl, hq, hy, hno⟩, hb⟩
  have HR := Lib.hid (show atR s rs h = (k : Int) by
    unfold atR
    rw [← hq]
    by_cases e : q = 0
    · rw [if_pos e, atF_is (fun i hi => prof_ring (ask_0 (hq.symm.trans e)).1 i hi) (hy e).1]
    · rw [if_neg e, (hno e).1]; rfl)
  have HQ := Lib.hid hq
  have HB := Lib.hid (below_of (below_al _ _) hb (by simp))
  clear hb hq hy hno
  go_wp2
  go_ret2
  exact ⟨ret_two HR.out.symm HQ.out, HB.out⟩
set_option maxRecDepth 20000 in
set_option maxHeartbeats 1000000 in
theorem implWallAt_any (s : ByteArray) (v : Value) (rs : List Rg) (h : Int) (w : World) (hv : RingsAt w v rs) (hs : s.size ≤ maxLen) (hh : -9223372036854775808 ≤ h ∧ h ≤ 9223372036854775807) :
    Calls Try.prog 31 #[.agg #[.string s, v], .int .i64 h] w fun e w' => e = .returned (.tuple #[.int .i64 (wallR s rs h), .int .i64 (askC s rs h)]) ∧ Below w.heap.size w w' := by
  have HI := Lib.hid hv
  obtain ⟨a, c, rfl⟩ := rings_form hv
  have HH := Lib.hid hh
  clear hv hh
  generalize hn : rs.length = n at *
  have HN := Lib.hid hn
  clear hn
  go_enter Try.func31, Try.ntmps31
  go_wp2_with fail
  have hal := alloc_lt2 w (.cells #[.string s, .slice a n c] 35)
  have hpa := prof_alloc w s (.slice a n c) 35
  have HBA := Lib.hid (below_al w (.cells #[.string s, .slice a n c] 35))
  generalize w.alloc (.cells #[.string s, .slice a n c] 35) = wA at *
  have HIA := Lib.hid (rings_kept HBA.out HI.out)
  refine (implFind_any s _ rs h _ HIA.out hs HH.out).mono ?_
  rintro e w1 ⟨⟨k, o, q, rfl, hq, hy, hno⟩, hb⟩
  obtain ⟨p0, p1⟩ := prof_keep hb hal hpa
  have HI1 := Lib.hid (rings_kept hb HIA.out)
  have HB := Lib.hid (below_of HBA.out hb HBA.out.size)
  clear hb hpa
  have HQ := Lib.hid hq
  by_cases e : q = 0
  · subst e
    have HP := Lib.hid (ask_0 hq.symm).1
    obtain ⟨hat, -⟩ := hy rfl
    have hkn : k < n := by have := hat.1; rw [HN.out] at this; exact this
    have HR := Lib.hid (show wallR s rs h = (rs.getD k zR).1 - (rs.getD k zR).2.1 by
      unfold wallR
      rw [← hq, if_pos rfl, atF_is (fun i hi => prof_ring HP.out i hi) hat])
    clear hq hy hno hat
    obtain ⟨-, ⟨a', c', hv, h0⟩ | ⟨b, off, cap, hv, hbl, hc⟩⟩ := HI1.out
    · have := HN.out
      rw [h0] at this; simp at this; omega
    · simp only [Value.slice.injEq] at hv
      obtain ⟨rfl, -, rfl⟩ := hv
      have hr := ring_in hc k (by rw [HN.out]; exact hkn)
      have HRB := Lib.hid (prof_ring HP.out k (by rw [HN.out]; exact hkn))
      obtain ⟨⟨x, y, z⟩, hxyz⟩ : ∃ r, rs.getD k zR = r := ⟨_, rfl⟩
      rw [hxyz] at hr HRB HR
      have e0 : w1.cell? ⟨b, off + k * 3, none⟩ = some (.int .i64 x) := hr.c0
      have e1 : w1.cell? ⟨b, off + k * 3 + 1, none⟩ = some (.int .i64 y) := hr.c1
      have e2 : w1.cell? ⟨b, off + k * 3 + 2, none⟩ = some (.int .i64 z) := hr.c2
      have hk1 : (k : Int) < (n : Int) := by omega
      have hk0 : (0 : Int) ≤ (k : Int) := by omega
      clear hc hr hxyz
      go_wp2_with fail
      refine (implWall_any x y z _ HRB.out).mono ?_
      rintro e w2 ⟨rfl, hb⟩
      have HB2 := Lib.hid (below_of HB.out hb HB.out.size)
      clear hb
      go_wp2
      go_ret2
      exact ⟨ret_two HR.out.symm HQ.out, HB2.out⟩
  · have HR := Lib.hid (show wallR s rs h = 0 by unfold wallR; rw [← hq, if_neg e])
    have hq0 : (q != 0) = true := by simpa using e
    clear hq hy hno e
    go_wp2
    go_ret2
    exact ⟨ret_two HR.out.symm HQ.out, HB.out⟩
end Go.Proofs.Ytojkijcdfnfnlaa
