/- A model and a profile: the reference model's partials. -/
import Derived.Test.YtpjopfhkgegahaaGreatModMom
import Derived.Deep.AppendLies
import Derived.Deep.RegionHeld3
import Derived.Test.YtpjopfhkgegahaaGreatSumLie
set_option linter.unusedVariables false
namespace Go.Proofs.YtpjopfhkgegahaaGreat
open Go.ChangeShapes Go.WideShapes Go.ChangeAt Go.RowKit

theorem area_bd {r : Rg} (h : ringB r = true) : 1 ≤ areaV r ∧ areaV r ≤ 90000 := by
  obtain ⟨⟨x0, x1⟩, -, -, -⟩ := ring_iff.1 h
  unfold areaV
  obtain ⟨d, hd⟩ : ∃ d, 2 * r.1 = d := ⟨_, rfl⟩
  rw [hd]
  have h1 : 1000 * 1000 ≤ d * d := Int.mul_le_mul (by omega) (by omega) (by omega) (by omega)
  have h2 : d * d ≤ 300000 * 300000 := Int.mul_le_mul (by omega) (by omega) (by omega) (by omega)
  generalize d * d = q at *
  rw [nq_pp q 1000000 (by omega) (by omega)]
  omega
def rawK (zs : List Int) (ws : List (List Int)) (bs : List Int) (rs : List Rg) (k : Nat) : Int := nq (bs.getD k 0 * momN (ws.getD k []) (zWalls rs zs) zs.length) (areaV (rs.getD 0 zR))
def rawL (zs : List Int) (ws : List (List Int)) (bs : List Int) (rs : List Rg) : List Int := (List.range 5).map (rawK zs ws bs rs)
theorem raw_len (zs : List Int) (ws : List (List Int)) (bs : List Int) (rs : List Rg) : (rawL zs ws bs rs).length = 5 := by simp [rawL]
theorem raw_next (zs : List Int) (ws : List (List Int)) (bs : List Int) (rs : List Rg) (k : Nat) (h : k < 5) : i64s ((rawL zs ws bs rs).take (k + 1)) = i64s ((rawL zs ws bs rs).take k) ++ [.int .i64 (rawK zs ws bs rs k)] := by
  rw [List.take_succ_eq_append_getElem (by rw [raw_len]; exact h)]
  simp [rawL, i64s]
theorem newsR {w : World} {x : Int} {T : TypeId} : ∀ j u, ([Value.int .i64 x] : List Value)[j]? = some u → (w.alloc (.cells #[.int .i64 x] T)).cell? ((⟨w.heap.size, 0, none⟩ : Addr).add j) = some u := by
  intro j u hu
  match j, hu with
  | 0, hu => simp at hu; subst hu; simp [Addr.add]
  | j + 1, hu => simp at hu
set_option maxRecDepth 20000 in
set_option maxHeartbeats 4000000 in
theorem l08Raw_any (m p : Nat) (v0 v1 v2 v : Value) (zs : List Int) (ws : List (List Int)) (bs : List Int) (s : ByteArray) (rs : List Rg) (w : World) (hml : m < w.heap.size) (hpl : p < w.heap.size) (hm : ModIn w m v0 v1 v2) (h0 : IntsAt w v0 zs) (h1 : RowsAt w v1 ws) (h2 : IntsAt w v2 bs) (hp : ProfIn w p s v) (hv : RingsAt w v rs) (hs : s.size ≤ maxLen)
    (hM : modB zs ws bs = true) (hP : profB s rs = true) (hF : fitB rs.length zs = true) :
    Calls Tryz.prog 49 #[.pointer (some ⟨m, 0, none⟩), .pointer (some ⟨p, 0, none⟩)] w fun e w' => (∃ v, e = .returned v ∧ Iv w' w.heap.size v (rawL zs ws bs rs)) ∧ Below w.heap.size w w' := by
  obtain ⟨i0, hi, hz0, hz1, hz2⟩ := info_parts infoI64
  obtain ⟨hz, ⟨hw5, hb5⟩, hrows, hbase⟩ := mod_iff.1 hM
  obtain ⟨-, ⟨n1, n2⟩, -, -⟩ := prof_iff.1 hP
  have hzl := zones_len hz
  have HRG := Lib.hid (fun i hi => prof_ring hP i hi)
  have HWL := Lib.hid (fun W (hW : Below w.heap.size w W) => l08Walls_any p s v v0 rs zs W (Nat.lt_of_lt_of_le hpl hW.size) (prof_keep hW hpl hp) (rings_kept hW hv) (ints_kept hW h0) HRG.out ⟨n1, n2⟩ hF)
  have HAR := Lib.hid (fun W (hW : Below w.heap.size w W) => show Calls Tryz.prog 82 #[.pointer (some ⟨p, 0, none⟩)] W fun e w' => e = .returned (.int .i64 (areaV (rs.getD 0 zR))) ∧ W = w' by
    have hI := rings_kept hW hv
    have hpk := prof_keep hW hpl hp
    obtain ⟨a, c, rfl⟩ := rings_form hI
    obtain ⟨b, off, rfl, hbl, hr⟩ := rings_lieO rfl n1 hI
    exact l08Area_any p b off c rs.length s _ W n1 n2 hpk (by simpa using hr 0 (by omega)) (HRG.out 0 (by omega)))
  have HMO := Lib.hid (fun (k : Nat) (hk : k < 5) (vw : Value) W (hW : Below w.heap.size w W) (hvw : IntsAt W vw (zWalls rs zs)) => show Calls Tryz.prog 81 #[.pointer (some ⟨m, 0, none⟩), vw, .int .i64 k] W fun e w' => e = .returned (.int .i64 (momN (ws.getD k []) (zWalls rs zs) zs.length)) ∧ Below W.heap.size W w' by
    have hrow := row_iff.1 (allRows_at hrows k (by omega))
    exact l08Moment_any m k zs.length v0 v1 v2 vw ws (zWalls rs zs) W (Nat.lt_of_lt_of_le hml hW.size) (modIn_keep hW hml hm) (mrows_kept hW h1) hvw (by omega) (by omega) hrow.1 (zWalls_len rs zs) hzl.1 hzl.2 (fun j hj => allIn_at hrow.2.1 j (by rw [hrow.1]; exact hj)) (fun j hj => by rw [zWalls_get rs zs j hj]; exact zWall_bd HRG.out hF j hj))
  have HBD := Lib.hid (fun (k : Nat) (hk : k < 5) => show (0 ≤ momN (ws.getD k []) (zWalls rs zs) zs.length ∧ momN (ws.getD k []) (zWalls rs zs) zs.length ≤ 1200000000) ∧ 1 ≤ bs.getD k 0 ∧ bs.getD k 0 ≤ 1000000000 by
    have hrow := row_iff.1 (allRows_at hrows k (by omega))
    have := momN_bd (ws.getD k []) (zWalls rs zs) zs.length (fun j hj => allIn_at hrow.2.1 j (by rw [hrow.1]; exact hj)) (fun j hj => by rw [zWalls_get rs zs j hj]; exact zWall_bd HRG.out hF j hj)
    exact ⟨by omega, allIn_at hbase k (by omega)⟩)
  have HAB := Lib.hid (area_bd (HRG.out 0 (by omega)))
  have HZW := Lib.hid (show (zWalls rs zs).length ≤ 1048576 by rw [zWalls_len]; omega)
  have HRN := Lib.hid (raw_next zs ws bs rs)
  have HRK := Lib.hid (fun k => show rawK zs ws bs rs k = nq (bs.getD k 0 * momN (ws.getD k []) (zWalls rs zs) zs.length) (areaV (rs.getD 0 zR)) from rfl)
  obtain ⟨b2, o2, k2, rfl, hb2, hc2⟩ := ints_cells h2 (by omega)
  rw [hb5] at hc2
  have c0 := hm.c0
  have c2 := hm.c2
  rw [hb5] at c2
  obtain ⟨a0, k0, rfl⟩ := ints_form h0
  have HC2 := Lib.hid hc2
  clear hm h0 h1 h2 hp hv hM hP hF hz hw5 hb5 hrows hbase hc2 n1 n2 hzl
  generalize zs.length = nz at *
  generalize areaV (rs.getD 0 zR) = A at *
  go_enter Tryz.func49, Tryz.ntmps49
  go_wp2_with fail
  refine (HWL.out _ (Below.refl _ _)).mono ?_
  rintro e w1 ⟨⟨vw, rfl, hvw⟩, hb⟩
  have HVW := Lib.hid (own_ints HZW.out hvw)
  have HB1 := Lib.hid hb
  have HA0 := Lib.hid (show (w1.alloc (.cells #[] 2)).ownsRow w1.heap.size 2 1 (.slice (some ⟨w1.heap.size, 0, none⟩) 0 0) 0 [] from World.ownsRow_made w1 #[] 0 (Nat.le_refl _) (by simp) (by simp))
  have hws : w.heap.size ≤ w1.heap.size := hb.size
  clear hvw hb c0
  go_wp2
  go_loopw [6, 7] (fun v i wr => ∃ k : Nat, k ≤ 5 ∧ i = .int .i64 k ∧ wr.ownsRow w1.heap.size 2 1 v k (i64s ((rawL zs ws bs rs).take k)) ∧ Below w1.heap.size w1 wr) (fun _ i _ => 5 - (intOf i).toNat)
  case atStart => exact ⟨0, by omega, rfl, by simpa [i64s] using HA0.out, below_al _ _⟩
  case round =>
    obtain ⟨k, hk, rfl, hown, hbw⟩ := hrel
    have HO := Lib.hid hown
    have HBW := Lib.hid (below_of HB1.out hbw HB1.out.size)
    have HBX := Lib.hid hbw
    have hwr : w1.heap.size ≤ wr.heap.size := hbw.size
    clear hown hbw
    by_cases hlt : k < 5
    · have HMK := Lib.hid (HMO.out k hlt vw)
      obtain ⟨⟨t0, t1⟩, x0, x1⟩ := HBD.out k hlt
      have y0 := HC2.out k hlt
      have HKK := Lib.hid (HRK.out k)
      have HNX := Lib.hid (HRN.out k hlt)
      obtain ⟨A0, A1⟩ := HAB.out
      generalize bs.getD k 0 = x at *
      generalize momN (ws.getD k []) (zWalls rs zs) nz = t at *
      have hxt : 0 ≤ x * t ∧ x * t ≤ 1000000000 * 1200000000 := ⟨Int.mul_nonneg (by omega) t0, Int.mul_le_mul x1 t1 t0 (by omega)⟩
      have hw : IntKind.i64.wrap (x * t) = x * t := IntWalk.i64_in _ (by omega)
      have HDV := Lib.hid (fun w => specDiv_any (x * t) A w (by omega) (by omega) (by omega))
      obtain ⟨q, hq⟩ : ∃ q, nq (x * t) A = q := ⟨_, rfl⟩
      rw [hq] at HDV HKK
      have hbd : Below w.heap.size w wr.drew := HBW.out.trans ⟨rfl, rfl, rfl, Nat.le_refl _, fun _ _ => rfl⟩
      have HVD := Lib.hid (ints_kept (w := w1) (w' := wr.drew) (HBX.out.trans ⟨rfl, rfl, rfl, Nat.le_refl _, fun _ _ => rfl⟩) HVW.out)
      have HSK := Lib.hid (fun W (hW : Below w.heap.size w W) => show W.cell? ⟨m, 2, none⟩ = some (.slice (some ⟨b2, o2, none⟩) 5 k2) ∧ W.cell? ⟨b2, o2 + k, none⟩ = some (.int .i64 x) ∧ Below w.heap.size w W from ⟨(below_cell hW _ _ hml).trans c2, (below_cell hW _ _ hb2).trans y0, hW⟩)
      have hk0 : (0 : Int) ≤ (k : Int) := by omega
      have hk1 : (k : Int) < 5 := by omega
      clear t0 t1 x0 x1 y0 A0 A1 hxt hq
      go_wp2
      go_region_held3 (fun W => W.cell? ⟨m, 2, none⟩ = some (.slice (some ⟨b2, o2, none⟩) 5 k2) ∧ W.cell? ⟨b2, o2 + k, none⟩ = some (.int .i64 x) ∧ Below w.heap.size w W)
        (first | exact HSK.out _ hbd | exact HSK.out _ hbw5 | exact HSK.out _ hbw6 | exact HSK.out _ hbw7 | assumption)
        (first
          | (refine step_append_lies _ rfl (.tmp 19) (.tmp 35) 22 rfl w1.heap.size 2 i0 (.int .i64 0) 1 8 Tryz.underlying22 hi hz0 hz1 hz2 rfl (by decide) _ k (i64s ((rawL zs ws bs rs).take k)) (by simp [Act.eval]) HO6.out ⟨w5.heap.size, 0, none⟩ 1 1 [.int .i64 q] (by simp [Act.eval]) rfl newsR (by intro u hu; simp at hu; subst hu; rfl) (by decide) (by unfold maxLen; omega) (by omega) hsz6 _ rfl ?_; intro g4 cap4 w4 hown4 hgrow4 hat4 hlt4; have hbw7 := hbw6.grown hgrow4 (Nat.le_trans hws hsz6) (fun j hj => Nat.le_trans hws (HO6.out.lt j hj).1))
          | (go_at_call 81; refine (HMK.out wr.drew hbd HVD.out).mono ?_; rintro e w5 ⟨rfl, hb5⟩; have hbw5 := below_of hbd hb5 hbd.size; have HO5 := Lib.hid (row_keep1 hb5 (row_keep1 (w := wr) (w' := wr.drew) ⟨rfl, rfl, rfl, Nat.le_refl _, fun _ _ => rfl⟩ HO.out)); have HO6 := Lib.hid (HO5.out.alloc (.cells #[.int .i64 q] 2)); have hbw6 := hbw5.alloc hbw5.size (.cells #[.int .i64 q] 2); have hsz6 : w1.heap.size ≤ (w5.alloc (.cells #[.int .i64 q] 2)).heap.size := Nat.le_trans (Nat.le_trans hwr hb5.size) (below_al _ _).size)
          | (go_at_call 82; refine (HAR.out _ hbw5).mono ?_; rintro e wq ⟨rfl, rfl⟩)
          | (go_at_call 80; refine (HDV.out _).mono ?_; rintro e wq ⟨rfl, rfl⟩))
      have HO4 := Lib.hid (show w4.ownsRow w1.heap.size 2 1 (.slice (some ⟨g4, 0, none⟩) (k + 1) cap4) (k + 1) (i64s ((rawL zs ws bs rs).take (k + 1))) from by rw [HNX.out, HKK.out]; exact hown4)
      have HB4 := Lib.hid (show Below w1.heap.size w1 w4 from ((below_of (w1 := wr.drew) (HBX.out.trans ⟨rfl, rfl, rfl, Nat.le_refl _, fun _ _ => rfl⟩) hb5 hwr).alloc (Nat.le_trans hwr hb5.size) _).grown hgrow4 hsz6 (fun j hj => (HO6.out.lt j hj).1))
      clear hown4 hgrow4 hat4 hlt4
      go_wp2
      go_roundw
      case rel => exact ⟨k + 1, by omega, by go_num, HO4.out, HB4.out⟩
      case measure => simp [intOf]; omega
    · obtain rfl : k = 5 := by omega
      have hown := HO.out
      rw [List.take_of_length_le (by rw [raw_len]; exact Nat.le_refl _)] at hown
      obtain ⟨g5, cap5, rfl, -, -⟩ := hown.form (by omega)
      have hg5 := (hown.lt _ rfl).1
      have HOF := Lib.hid hown
      have HRL := Lib.hid (raw_len zs ws bs rs)
      clear hown
      go_wp2
      go_ret
      exact ⟨⟨.slice (some ⟨g5, 0, none⟩) 5 cap5, rfl, iv_base (B := w1.heap.size) (.inr ⟨g5, cap5, _, by rw [HRL.out], hg5, by rw [HRL.out]; exact HOF.out⟩) hws⟩, HBW.out⟩
end Go.Proofs.YtpjopfhkgegahaaGreat
