/- The height of the centre of gravity: the program's walk. -/
import Derived.Test.YtgnnpimfcbkloaaSumRVol
import Derived.Test.YtgnnpimfcbkloaaSumCen
set_option linter.unusedVariables false
namespace Go.Proofs.Ytgnnpimfcbkloaa
open Go.ChangeShapes Go.WideShapes Go.ChangeAt Go.RowKit

/-- The doubled moment of the volume about the lip. -/
def turnP (rs : List Rg) : Int := sumF turnV 0 rs
def cenP (rs : List Rg) : Int := nq (turnP rs) (2 * volP rs)
def cenC (s : ByteArray) (rs : List Rg) : Int := if profB s rs = true then cenP rs else 0
theorem prof_vol3 {s : ByteArray} {rs : List Rg} (h : profB s rs = true) : 3 ≤ volP rs ∧ volP rs ≤ 678584088000 := by
  obtain ⟨-, ⟨n1, n2⟩, -, -⟩ := prof_iff.1 h
  exact volP_bd (fun i hi => prof_ring h i hi) n1 n2
theorem turnP_bd {s : ByteArray} {rs : List Rg} (h : profB s rs = true) (k : Nat) (hk : k ≤ rs.length) : 0 ≤ sumF turnV 0 (rs.take k) ∧ sumF turnV 0 (rs.take k) ≤ 19085177475000000 * k :=
  sumF_bd turnV rs 19085177475000000 (fun i hi => turn_bd (prof_ring h i hi) (heights_le h i (by omega)).1 (heights_le h i (by omega)).2) k hk
set_option maxRecDepth 20000 in
set_option maxHeartbeats 1000000 in
theorem implCentreOf_any (s : ByteArray) (v : Value) (rs : List Rg) (w : World) (h : RingsAt w v rs) (hs : s.size ≤ maxLen) :
    Calls Try.prog 36 #[.agg #[.string s, v]] w fun e w' => e = .returned (.tuple #[.int .i64 (cenC s rs), .int .i64 (codeP s rs)]) ∧ Below w.heap.size w w' := by
  have HI := Lib.hid h
  obtain ⟨a, c, rfl⟩ := rings_form h
  clear h
  have hal := alloc_lt2 w (.cells #[.string s, .slice a rs.length c] 36)
  have hpa := prof_alloc w s (.slice a rs.length c) 36
  have HBA := Lib.hid (below_al w (.cells #[.string s, .slice a rs.length c] 36))
  have HIA := Lib.hid (rings_kept HBA.out HI.out)
  rcases Bool.eq_false_or_eq_true (profB s rs) with hp | hp
  · have HR := Lib.hid (show cenC s rs = cenP rs ∧ codeP s rs = 0 by unfold cenC codeP; rw [if_pos hp, if_pos hp]; exact ⟨rfl, rfl⟩)
    have HV := Lib.hid (show volC s rs = volP rs ∧ codeP s rs = 0 by unfold volC codeP; rw [if_pos hp, if_pos hp]; exact ⟨rfl, rfl⟩)
    have hv := prof_vol3 hp
    have ht := turnP_bd hp rs.length (Nat.le_refl _)
    obtain ⟨u, hu⟩ := pl_ex s rs hp
    have HU := Lib.hid (sumL_upto turnV rs u hu rs.length (Nat.le_refl _))
    have HP := Lib.hid hp
    obtain ⟨-, ⟨n1, n2⟩, -, -⟩ := prof_iff.1 hp
    have HSF := Lib.hid (show sumF turnV 0 (rs.take rs.length) = turnP rs from sumF_all _ _)
    rw [HSF.out] at ht
    have HQ := Lib.hid (show cenP rs = nq (turnP rs) (2 * volP rs) from rfl)
    have HT := Lib.hid (fun w => nearest_any (turnP rs) (2 * volP rs) w (by omega) (by omega))
    have hw : IntKind.i64.wrap (2 * volP rs) = 2 * volP rs := IntWalk.i64_in _ (by omega)
    clear hp
    generalize hn : rs.length = n at *
    have HN := Lib.hid hn
    have HUU := Lib.hid hu
    clear hn hu
    go_enter Try.func36, Try.ntmps36
    go_wp2_with fail
    generalize w.alloc (.cells #[.string s, .slice a n c] 36) = wA at *
    refine (implVolumeOf_any s _ rs _ HIA.out hs).mono ?_
    rintro e w1 ⟨rfl, hb⟩
    rw [HV.out.1, HV.out.2]
    obtain ⟨z0, z1⟩ := prof_keep hb hal hpa
    have HI1 := Lib.hid (rings_kept hb HIA.out)
    have HB := Lib.hid (below_of HBA.out hb HBA.out.size)
    clear hb hpa
    go_wp2_with fail
    refine (fromLip_any s a n c _).mono ?_
    rintro e w2 ⟨rfl, rfl⟩
    obtain ⟨q0, q1⟩ := prof_alloc w1 s (.slice a n c) 36
    have hl2 := alloc_lt2 w1 (.cells #[.string s, .slice a n c] 36)
    have HB2 := Lib.hid (HB.out.alloc HB.out.size (.cells #[.string s, .slice a n c] 36))
    have HI2 := Lib.hid (rings_kept (below_al w1 (.cells #[.string s, .slice a n c] 36)) HI1.out)
    generalize w1.alloc (.cells #[.string s, .slice a n c] 36) = w2 at *
    obtain ⟨b, off, rfl, hbl, hr⟩ := rings_lie HN.out n1 HI2.out
    have HR3 := Lib.hid hr
    clear hr
    go_wp2_with fail
    refine (sum_cen (fun x => turnV x.1.1 x.1.2) 19085177475000000 (by omega) (fun x => turn_bd x.2.2 x.2.1.1 x.2.1.2) w1.heap.size 0 b off n c s rs u HUU.out HN.out n2 w2 (fun x W _ => clo_centreof x.1.2.1 x.1.2.2.1 x.1.2.2.2 x.1.1 W x.2.2 x.2.1.1 x.2.1.2) hl2 hbl q0 q1 HR3.out).mono ?_
    rintro e w3 ⟨rfl, hb⟩
    rw [HU.out, HSF.out]
    have HB3 := Lib.hid (below_of HB2.out hb HB2.out.size)
    clear hb
    go_wp2_with (go_at_call 76; refine (HT.out _).mono ?_; rintro e w4 ⟨rfl, hb⟩; rw [← HQ.out, ← HR.out.1]; have HB4 := Lib.hid (below_of HB3.out hb HB3.out.size); clear hb; obtain ⟨y, hy⟩ : ∃ y, cenC s rs = y := ⟨_, rfl⟩; have HY := Lib.hid hy; rw [hy]; clear hy)
    go_ret2
    exact ⟨ret_two HY.out.symm HR.out.2.symm, HB4.out⟩
  · have HR := Lib.hid (show cenC s rs = 0 ∧ codeP s rs = 1 by unfold cenC codeP; rw [hp]; exact ⟨rfl, rfl⟩)
    have HV := Lib.hid (show volC s rs = 0 ∧ codeP s rs = 1 by unfold volC codeP; rw [hp]; exact ⟨rfl, rfl⟩)
    generalize hn : rs.length = n at *
    clear hn
    go_enter Try.func36, Try.ntmps36
    go_wp2_with fail
    refine (implVolumeOf_any s _ rs _ HIA.out hs).mono ?_
    rintro e w1 ⟨rfl, hb⟩
    rw [HV.out.1, HV.out.2]
    have HB := Lib.hid (below_of HBA.out hb HBA.out.size)
    clear hb
    go_wp2
    go_ret2
    exact ⟨ret_two HR.out.1.symm HR.out.2.symm, HB.out⟩
end Go.Proofs.Ytgnnpimfcbkloaa
