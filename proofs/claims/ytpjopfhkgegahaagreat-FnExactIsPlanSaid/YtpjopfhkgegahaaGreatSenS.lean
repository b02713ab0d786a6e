/- Sensitivity: the reference model's answer. -/
import Derived.Test.YtpjopfhkgegahaaGreatSenSpec
import Derived.Deep.RegionLaw
set_option linter.unusedVariables false
namespace Go.Proofs.YtpjopfhkgegahaaGreat
open Go.ChangeShapes Go.WideShapes Go.ChangeAt Go.RowKit

theorem raw_get (zs : List Int) (ws : List (List Int)) (bs : List Int) (rs : List Rg) (k : Nat) (h : k < 5) : (rawL zs ws bs rs).getD k 0 = rawK zs ws bs rs k := by simp [rawL, List.getD, h]
theorem rawK_bd {zs : List Int} {ws : List (List Int)} {bs : List Int} {s : ByteArray} {rs : List Rg} (hM : modB zs ws bs = true) (hP : profB s rs = true) (hF : fitB rs.length zs = true) (k : Nat) (hk : k < 5) : 0 ≤ rawK zs ws bs rs k ∧ rawK zs ws bs rs k ≤ 1200000000000000000 := by
  obtain ⟨hz, ⟨hw5, hb5⟩, hrows, hbase⟩ := mod_iff.1 hM
  obtain ⟨-, ⟨n1, n2⟩, -, -⟩ := prof_iff.1 hP
  have hzl := zones_len hz
  have hrow := row_iff.1 (allRows_at hrows k (by omega))
  have hm := momN_bd (ws.getD k []) (zWalls rs zs) zs.length (fun j hj => allIn_at hrow.2.1 j (by rw [hrow.1]; exact hj)) (fun j hj => by rw [zWalls_get rs zs j hj]; exact zWall_bd (fun i hi => prof_ring hP i hi) hF j hj)
  have hb := allIn_at hbase k (by omega)
  have ha := area_bd (prof_ring hP 0 (by omega))
  unfold rawK
  generalize momN (ws.getD k []) (zWalls rs zs) zs.length = t at *
  generalize bs.getD k 0 = x at *
  generalize areaV (rs.getD 0 zR) = A at *
  have ht : t ≤ 1200000000 := by omega
  have h1 : 0 ≤ x * t := Int.mul_nonneg (by omega) hm.1
  have h2 : x * t ≤ 1000000000 * 1200000000 := Int.mul_le_mul hb.2 ht hm.1 (by omega)
  exact nq_pos h1 (by omega) (by omega) (by omega)
theorem cut1_ok {z : Int} {n : Nat} (h : inB z 0 ((n : Int) - 1) = true) (hn : n ≤ 8) : cutsB [(z, 1)] = true ∧ inZ [(z, 1)] n = true ∧ fitsC [(z, 1)] = true := by
  have hz : 0 ≤ z ∧ z ≤ (n : Int) - 1 := by unfold inB at h; simpa using h
  refine ⟨cutsB_iff.2 ⟨by simp, allC_true (fun i hi => ?_)⟩, inZ_true (fun i hi => ?_), fitsC_iff.2 (fun y _ => ?_)⟩
  · have : i = 0 := by simpa using hi
    subst this
    show cutB (z, 1) = true
    unfold cutB inB
    simp; omega
  · have : i = 0 := by simpa using hi
    subst this
    show z < (n : Int)
    omega
  · show (if z = (y : Int) then (1 : Int) else 0) + 0 ≤ 20
    split <;> omega
/-- Cuts of one entry, in a row of the call's own. -/
theorem cut1_at (w : World) (z y : Int) (T : TypeId) (hz : z = z) : CutsAt (w.alloc (.cells #[.int .i64 z, .int .i64 y] T)) (.slice (some ⟨w.heap.size, 0, none⟩) 1 1) [(z, y)] := by
  refine ⟨by simp, .inr ⟨w.heap.size, 0, 1, rfl, alloc_lt2 _ _, fun j hj => ?_⟩⟩
  have hj2 : j < 2 := by simpa using hj
  match j, hj2 with
  | 0, _ => go_simp; rfl
  | 1, _ => go_simp; rfl
end Go.Proofs.YtpjopfhkgegahaaGreat
