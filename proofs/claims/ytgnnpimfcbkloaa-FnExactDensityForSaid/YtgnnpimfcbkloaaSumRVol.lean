/- Sums over the rings of a profile: the program's sumOfRings with VolumeOf$1. -/
import Derived.Test.YtgnnpimfcbkloaaSumR
import Derived.Test.YtgnnpimfcbkloaaSumVol
import Derived.Test.YtgnnpimfcbkloaaVolSpec
set_option linter.unusedVariables false
namespace Go.Proofs.Ytgnnpimfcbkloaa
open Go.ChangeShapes Go.WideShapes Go.ChangeAt Go.RowKit

set_option maxRecDepth 20000 in
set_option maxHeartbeats 1000000 in
theorem sumRings_vol (g : Int → Rg → Int) (M : Int) (hM : 0 ≤ M ∧ M ≤ 200000000000000000) (hg : ∀ b r, 0 ≤ b → b ≤ 300000 → ringB r = true → 0 ≤ g b r ∧ g b r ≤ M) (s : ByteArray) (v : Value) (rs : List Rg) (w : World) (h : RingsAt w v rs) (hs : s.size ≤ maxLen) (hp : profB s rs = true)
    (hC : ∀ (b x y z : Int) (W : World), 0 ≤ b → b ≤ 300000 → ringB (x, y, z) = true → Below w.heap.size w W → Calls Try.prog 60 #[.agg #[.int .i64 x, .int .i64 y, .int .i64 z, .int .i64 b]] W fun e W' => e = .returned (.int .i64 (g b (x, y, z))) ∧ Below W.heap.size W W') :
    Calls Try.prog 59 #[.agg #[.string s, v], .func (.func 60) #[] #[]] w fun e w' => e = .returned (.tuple #[.int .i64 (sumF g 0 rs), .int .i64 0]) ∧ Below w.heap.size w w' := by
  have HI := Lib.hid h
  obtain ⟨a, c, rfl⟩ := rings_form h
  clear h
  obtain ⟨u, hu⟩ := pl_ex s rs hp
  have HU := Lib.hid (sumL_upto g rs u hu rs.length (Nat.le_refl _))
  have HP := Lib.hid hp
  obtain ⟨-, ⟨n1, n2⟩, -, -⟩ := prof_iff.1 hp
  have HSF := Lib.hid (sumF_all g rs)
  clear hp
  generalize hn : rs.length = n at *
  have HN := Lib.hid hn
  have HUU := Lib.hid hu
  clear hn hu
  have hal := alloc_lt2 w (.cells #[.string s, .slice a n c] 36)
  have hpa := prof_alloc w s (.slice a n c) 36
  have HBA := Lib.hid (below_al w (.cells #[.string s, .slice a n c] 36))
  go_enter Try.func59, Try.ntmps59
  go_wp2_with fail
  generalize w.alloc (.cells #[.string s, .slice a n c] 36) = wA at *
  have HIA := Lib.hid (rings_kept HBA.out HI.out)
  refine (implValidP_any s _ rs _ HIA.out hs).mono ?_
  rintro e w1 ⟨rfl, hb⟩
  rw [HP.out]
  obtain ⟨cp0, cp1⟩ := prof_keep hb hal hpa
  have HI1 := Lib.hid (rings_kept hb HIA.out)
  have HB := Lib.hid (below_of HBA.out hb HBA.out.size)
  clear hb hpa
  go_wp2_with fail
  refine (fromLip_any s a n c _).mono ?_
  rintro e w2 ⟨rfl, rfl⟩
  obtain ⟨q0, q1⟩ := prof_alloc w1 s (.slice a n c) 36
  have hl2 := alloc_lt2 w1 (.cells #[.string s, .slice a n c] 36)
  have HB2 := Lib.hid (HB.out.alloc HB.out.size (.cells #[.string s, .slice a n c] 36))
  have HI2 := Lib.hid (rings_kept (below_al w1 (.cells #[.string s, .slice a n c] 36)) HI1.out)
  generalize w1.alloc (.cells #[.string s, .slice a n c] 36) = w2 at *
  obtain ⟨b, off, rfl, hbl, hr⟩ := rings_lie HN.out n1 HI2.out
  have HC := Lib.hid (fun (x : Pl) (W : World) (hW : Below w2.heap.size w2 W) => hC x.1.1 x.1.2.1 x.1.2.2.1 x.1.2.2.2 W x.2.1.1 x.2.1.2 x.2.2 (below_of HB2.out hW HB2.out.size))
  have HR := Lib.hid hr
  clear hC hr
  go_wp2_with fail
  refine (sum_vol (fun x => g x.1.1 x.1.2) M hM (fun x => hg _ _ x.2.1.1 x.2.1.2 x.2.2) w1.heap.size 0 b off n c s rs u HUU.out HN.out n2 w2 HC.out hl2 hbl q0 q1 HR.out).mono ?_
  rintro e w3 ⟨rfl, hb⟩
  rw [HU.out, HSF.out]
  have HB3 := Lib.hid (below_of HB2.out hb HB2.out.size)
  clear hb
  obtain ⟨y, hy⟩ : ∃ y, sumF g 0 rs = y := ⟨_, rfl⟩
  have HY := Lib.hid hy
  rw [hy]
  clear hy
  go_wp2
  go_ret2
  exact ⟨ret_two HY.out.symm rfl, HB3.out⟩
set_option maxRecDepth 20000 in
theorem implVolumeOf_any (s : ByteArray) (v : Value) (rs : List Rg) (w : World) (h : RingsAt w v rs) (hs : s.size ≤ maxLen) :
    Calls Try.prog 23 #[.agg #[.string s, v]] w fun e w' => e = .returned (.tuple #[.int .i64 (volC s rs), .int .i64 (codeP s rs)]) ∧ Below w.heap.size w w' := by
  have HI := Lib.hid h
  obtain ⟨a, c, rfl⟩ := rings_form h
  clear h
  rcases Bool.eq_false_or_eq_true (profB s rs) with hp | hp
  · have HR := Lib.hid (show volC s rs = volP rs ∧ codeP s rs = 0 by unfold volC codeP; rw [if_pos hp, if_pos hp]; exact ⟨rfl, rfl⟩)
    have HS := Lib.hid (fun (w : World) (h : RingsAt w (.slice a rs.length c) rs) => sumRings_vol (fun _ r => volR r) 21205752750 (by omega) (fun b r _ _ hr => by have := vol_bd hr; omega) s (.slice a rs.length c) rs w h hs hp (fun b x y z W _ _ hr _ => clo_volumeof x y z b W hr))
    generalize hn : rs.length = n at *
    clear hn
    go_enter Try.func23, Try.ntmps23
    go_wp2_with fail
    refine (HS.out _ (rings_kept (below_al _ _) HI.out)).mono ?_
    rintro e w1 ⟨rfl, hb⟩
    have HB := Lib.hid (below_of (below_al _ _) hb (by simp))
    have HR1 := Lib.hid HR.out.1
    have HR2 := Lib.hid HR.out.2
    have HQ := Lib.hid (show sumF (fun _ r => volR r) 0 rs = volP rs from rfl)
    rw [HQ.out]
    clear hb
    generalize volP rs = y at *
    go_wp2
    go_ret2
    exact ⟨ret_two HR1.out.symm HR2.out.symm, HB.out⟩
  · have HR := Lib.hid (show volC s rs = 0 ∧ codeP s rs = 1 by unfold volC codeP; rw [hp]; exact ⟨rfl, rfl⟩)
    have HP := Lib.hid hp
    generalize hn : rs.length = n at *
    clear hn
    go_enter Try.func23, Try.ntmps23
    go_wp2_with fail
    refine (sumRings_bad s _ _ rs _ (Lib.hid (rings_kept (below_al _ _) HI.out)) hs HP).mono ?_
    rintro e w1 ⟨rfl, hb⟩
    have HB := Lib.hid (below_of (below_al _ _) hb (by simp))
    clear hb
    go_wp2
    go_ret2
    exact ⟨ret_two HR.out.1.symm HR.out.2.symm, HB.out⟩
end Go.Proofs.Ytgnnpimfcbkloaa
