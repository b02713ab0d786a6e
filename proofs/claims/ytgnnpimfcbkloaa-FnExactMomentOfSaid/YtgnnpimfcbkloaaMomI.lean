/- The moment of inertia of a profile: both walks. -/
import Derived.Test.YtgnnpimfcbkloaaSumRMom
import Derived.Test.YtgnnpimfcbkloaaMasses
set_option linter.unusedVariables false
namespace Go.Proofs.Ytgnnpimfcbkloaa
open Go.ChangeShapes Go.WideShapes Go.ChangeAt Go.RowKit

def momV (d : Int) (r : Rg) : Int := massV (volR r) d * armR r
def momP (rs : List Rg) (d : Int) : Int := sumF (fun _ r => momV d r) 0 rs
def momC (s : ByteArray) (rs : List Rg) (d : Int) : Int := if askD s rs d = 0 then momP rs d else 0
theorem mom_ok {s : ByteArray} {rs : List Rg} {d : Int} (h : askD s rs d = 0) : momC s rs d = momP rs d := by unfold momC; rw [if_pos h]
theorem mom_no {s : ByteArray} {rs : List Rg} {d : Int} (h : askD s rs d ≠ 0) : momC s rs d = 0 := by unfold momC; rw [if_neg h]
theorem massR_bd {r : Rg} {d : Int} (h : ringB r = true) (d0 : 0 ≤ d) (d1 : d ≤ 20000) : 0 ≤ massV (volR r) d ∧ massV (volR r) d ≤ 21205752750 := by
  have hv := vol_bd h
  exact (mass_bd (by omega) hv.2 d0 d1).2
theorem momV_bd {r : Rg} {d : Int} (h : ringB r = true) (d0 : 0 ≤ d) (d1 : d ≤ 20000) : 0 ≤ momV d r ∧ momV d r ≤ 47712943687500000 := by
  have h1 := massR_bd h d0 d1
  have h2 := (arm_bd h).2
  exact mul_le2 h1.1 h1.2 h2.1 h2.2
set_option maxRecDepth 20000 in
set_option maxHeartbeats 1000000 in
theorem implMomentOf_any (s : ByteArray) (v : Value) (rs : List Rg) (d : Int) (w : World) (h : RingsAt w v rs) (hs : s.size ≤ maxLen) :
    Calls Try.prog 38 #[.agg #[.string s, v], .int .i64 d] w fun e w' => e = .returned (.tuple #[.int .i64 (momC s rs d), .int .i64 (askD s rs d)]) ∧ Below w.heap.size w w' := by
  have HI := Lib.hid h
  obtain ⟨a, c, rfl⟩ := rings_form h
  clear h
  have e0 : ((w.alloc (.cells #[.string s, .slice a rs.length c] 36)).alloc (.cells #[.int .i64 d] 2)).cell? ⟨w.heap.size, 0, none⟩ = some (.string s) := by go_simp
  have e1 : ((w.alloc (.cells #[.string s, .slice a rs.length c] 36)).alloc (.cells #[.int .i64 d] 2)).cell? ⟨w.heap.size, 1, none⟩ = some (.slice a rs.length c) := by go_simp
  have e2 : ((w.alloc (.cells #[.string s, .slice a rs.length c] 36)).alloc (.cells #[.int .i64 d] 2)).cell? ⟨w.heap.size + 1, 0, none⟩ = some (.int .i64 d) := by go_simp
  have hal : w.heap.size + 1 < ((w.alloc (.cells #[.string s, .slice a rs.length c] 36)).alloc (.cells #[.int .i64 d] 2)).heap.size := by simp
  have HBA := Lib.hid (((Below.refl w.heap.size w).alloc (Nat.le_refl _) (.cells #[.string s, .slice a rs.length c] 36)).alloc (by simp) (.cells #[.int .i64 d] 2))
  have HIA := Lib.hid (rings_kept HBA.out HI.out)
  by_cases hk : askD s rs d = 0
  · obtain ⟨hp, d0, d1⟩ := askD_ok hk
    have HK := Lib.hid hk
    have HM := Lib.hid (mom_ok hk)
    have HP := Lib.hid hp
    have HS := Lib.hid (fun (w : World) (p : Nat) (hc : w.cell? ⟨p, 0, none⟩ = some (.int .i64 d)) (hpl : p < w.heap.size) (h : RingsAt w (.slice a rs.length c) rs) => sumRings_mom p (fun _ r => momV d r) 47712943687500000 (by omega) (fun b r _ _ hr => momV_bd hr (by omega) d1) s (.slice a rs.length c) rs w h hs hp (fun b x y z W _ _ hr hW => clo_momentof x y z b d p W hr (by omega) d1 ((below_cell hW _ _ hpl).trans hc) (Nat.lt_of_lt_of_le hpl hW.size)))
    clear hp hk
    generalize hn : rs.length = n at *
    clear hn
    go_enter Try.func38, Try.ntmps38
    go_wp2_with fail
    generalize (w.alloc (.cells #[.string s, .slice a n c] 36)).alloc (.cells #[.int .i64 d] 2) = wA at *
    refine (weighing_any s _ rs d _ HIA.out hs).mono ?_
    rintro e w1 ⟨rfl, hb⟩
    rw [HK.out]
    have q0 := (below_cell hb _ _ (by omega)).trans e0
    have q1 := (below_cell hb _ _ (by omega)).trans e1
    have q2 := (below_cell hb _ _ hal).trans e2
    have hl1 := Nat.lt_of_lt_of_le hal hb.size
    have HI1 := Lib.hid (rings_kept hb HIA.out)
    have HB := Lib.hid (below_of HBA.out hb HBA.out.size)
    clear hb e0 e1 e2
    go_wp2_with fail
    refine (HS.out w1 (w.heap.size + 1) q2 hl1 HI1.out).mono ?_
    rintro e w2 ⟨rfl, hb⟩
    have HB2 := Lib.hid (below_of HB.out hb HB.out.size)
    clear hb
    have HQ := Lib.hid (show sumF (fun _ r => momV d r) 0 rs = momP rs d from rfl)
    rw [HQ.out, ← HM.out]
    obtain ⟨y, hy⟩ : ∃ y, momC s rs d = y := ⟨_, rfl⟩
    have HY := Lib.hid hy
    rw [hy]
    clear hy
    go_wp2
    go_ret2
    exact ⟨ret_two HY.out.symm HK.out.symm, HB2.out⟩
  · have HM := Lib.hid (mom_no hk)
    obtain ⟨k, hk2⟩ : ∃ k, askD s rs d = k := ⟨_, rfl⟩
    rw [hk2] at hk
    have HK := Lib.hid hk2
    clear hk2
    have hkb : (k != 0) = true := by simpa using hk
    generalize hn : rs.length = n at *
    clear hn
    go_enter Try.func38, Try.ntmps38
    go_wp2_with fail
    generalize (w.alloc (.cells #[.string s, .slice a n c] 36)).alloc (.cells #[.int .i64 d] 2) = wA at *
    refine (weighing_any s _ rs d _ HIA.out hs).mono ?_
    rintro e w1 ⟨rfl, hb⟩
    rw [HK.out]
    have HB := Lib.hid (below_of HBA.out hb HBA.out.size)
    clear hb e0 e1 e2
    go_wp2
    go_ret2
    exact ⟨ret_two HM.out.symm HK.out.symm, HB.out⟩
end Go.Proofs.Ytgnnpimfcbkloaa
