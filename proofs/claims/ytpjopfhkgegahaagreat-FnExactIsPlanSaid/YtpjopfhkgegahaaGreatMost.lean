/- How many steps a zone allows: both programs' counts. -/
import Derived.Test.YtpjopfhkgegahaaGreatApSpec
import Derived.Test.YtpjopfhkgegahaaGreatCutI
set_option linter.unusedVariables false
namespace Go.Proofs.YtpjopfhkgegahaaGreat
open Go.ChangeShapes Go.WideShapes Go.ChangeAt Go.RowKit Go.Maps

def mostF (ok : Nat → Bool) : Nat → Nat → Nat
  | 0, n => n
  | k + 1, n => if ok (n + 1) = true then mostF ok k (n + 1) else n
def mostN (ok : Nat → Bool) : Nat := mostF ok 20 0
theorem mostF_yes {ok : Nat → Bool} {k n : Nat} (h : ok (n + 1) = true) : mostF ok (k + 1) n = mostF ok k (n + 1) := by conv => lhs; unfold mostF; rw [if_pos h]
theorem mostF_no {ok : Nat → Bool} {k n : Nat} (h : ok (n + 1) = false) : mostF ok (k + 1) n = n := by unfold mostF; rw [if_neg (by rw [h]; simp)]
/-- The rings with t steps made in one zone. -/
def oneT (rs : List Rg) (zs : List Int) (z t : Nat) : List Rg := turnL (fun i => if zoneN zs (i : Int) zs.length = z then (t : Int) else 0) rs rs.length
def oneOk (s : ByteArray) (rs : List Rg) (zs : List Int) (z t : Nat) : Bool := profB s (oneT rs zs z t)
def mostS (s : ByteArray) (rs : List Rg) (zs : List Int) (z : Nat) : Int := (mostN (oneOk s rs zs z) : Nat)
theorem oneT_len (rs : List Rg) (zs : List Int) (z t : Nat) : (oneT rs zs z t).length = rs.length := turnL_len _ _ _
/-- Steps of one zone, as a list of eight. -/
def oneL (z t : Nat) : List Int := (List.replicate 8 0).set z (t : Int)
theorem oneL_len (z t : Nat) : (oneL z t).length = 8 := by simp [oneL]
theorem oneL_get (z t j : Nat) (hj : j < 8) : (oneL z t).getD j 0 = if j = z then (t : Int) else 0 := by
  unfold oneL
  rw [List.getD_eq_getElem?_getD, List.getElem?_set]
  by_cases e : z = j
  · subst e; simp [hj]
  · rw [if_neg e, if_neg (fun h => e h.symm), List.getElem?_replicate, if_pos hj]
    rfl
theorem oneL_turn {rs : List Rg} {zs : List Int} (h : 0 < zs.length ∧ zs.length ≤ 8) (z t : Nat) : turnL (stepF zs (oneL z t)) rs rs.length = oneT rs zs z t := by
  unfold oneT
  congr 1
  funext i
  have := zoneN_lt zs (i : Int) zs.length h.1
  unfold stepF
  rw [oneL_get z t _ (by omega)]
theorem oneM_turn {rs : List Rg} {zs : List Int} (h : 0 < zs.length ∧ zs.length ≤ 8) (z t : Nat) : turnL (mapStep (fun y => if (z : Int) = y then (t : Int) else 0) zs) rs rs.length = oneT rs zs z t := by
  unfold oneT
  congr 1
  funext i
  show (if (z : Int) = ((zoneN zs (i : Int) zs.length : Nat) : Int) then (t : Int) else 0) = _
  by_cases e : zoneN zs (i : Int) zs.length = z
  · rw [if_pos e, if_pos (by rw [e])]
  · rw [if_neg e, if_neg (fun h2 => e (by omega))]
theorem resC_ok {s : ByteArray} {l : List Rg} : (profB s l = true ∧ resC s l = 0) ∨ (profB s l = false ∧ resC s l = 6) := by
  unfold resC
  rcases Bool.eq_false_or_eq_true (profB s l) with h | h <;> simp [h]
set_option maxRecDepth 20000 in
set_option maxHeartbeats 4000000 in
theorem l09Most_any (p z : Nat) (s : ByteArray) (v vz : Value) (rs : List Rg) (zs : List Int) (w : World) (hpl : p < w.heap.size) (hp : ProfIn w p s v) (h : RingsAt w v rs) (hs : s.size ≤ maxLen) (hz : IntsAt w vz zs) (hP : lathB s rs zs = true) (hzl : z < zs.length) :
    Calls Tryz.prog 62 #[.pointer (some ⟨p, 0, none⟩), vz, .int .i64 (z : Int)] w fun e w' => e = .returned (.int .i64 (mostS s rs zs z)) ∧ Below w.heap.size w w' := by
  obtain ⟨i0, hi, hz0, hz1, hz2⟩ := info_parts infoI64
  obtain ⟨hprof, hfit⟩ := lath_iff.1 hP
  have hff := (fit_facts hfit).1
  have h32 := (prof_iff.1 hprof).2.1
  have HTU := Lib.hid (fun (t : Nat) (ht : t ≤ 20) vL W (hW : Below w.heap.size w W) (hL : IntsAt W vL (oneL z t)) => l09Turned_any p s v vz vL rs zs (oneL z t) W (Nat.lt_of_lt_of_le hpl hW.size) (prof_keep hW hpl hp) (rings_kept hW h) (ints_kept hW hz) hL h32 (fun i hi => prof_ring hprof i hi) (by omega) (by rw [oneL_len]; omega) (fun j hj => by
    rw [oneL_len] at hj
    rw [oneL_get z t j hj]
    split <;> omega))
  have HOT := Lib.hid (fun t => oneL_turn (rs := rs) (zs := zs) hff z t)
  have HLL := Lib.hid (fun t => show (oneT rs zs z t).length ≤ 1048576 by rw [oneT_len]; omega)
  have HOK := Lib.hid (fun t => show oneOk s rs zs z t = profB s (oneT rs zs z t) from rfl)
  have HMS := Lib.hid (show mostS s rs zs z = (mostF (oneOk s rs zs z) 20 0 : Nat) from rfl)
  have hz8 : z < 8 := by omega
  obtain ⟨az, cz, rfl⟩ := ints_form hz
  clear hP hprof hfit hff h32 hp h hz hzl
  generalize zs.length = nz at *
  go_enter Tryz.func62, Tryz.ntmps62
  go_wp2
  go_loopw [7] (fun i wr => ∃ k : Nat, k ≤ 20 ∧ i = .int .i64 k ∧ mostF (oneOk s rs zs z) 20 0 = mostF (oneOk s rs zs z) (20 - k) k ∧ Below w.heap.size w wr) (fun i _ => 20 - (intOf i).toNat)
  case atStart => exact ⟨0, by omega, rfl, rfl, Below.refl _ _⟩
  case round =>
    obtain ⟨k, hk, rfl, hmo, hbw⟩ := hrel
    generalize hwo : wr = wo at *
    clear hwo
    have HMO := Lib.hid hmo
    have HB := Lib.hid hbw
    clear hmo hbw
    by_cases hlt : k < 20
    · have hk0 : (0 : Int) ≤ (k : Int) := by omega
      have hlt1 : (k : Int) < 20 := by omega
      have hz0' : (0 : Int) ≤ (z : Int) := by omega
      have hz8' : (z : Int) < 8 := by omega
      have HTK := Lib.hid (HTU.out (k + 1) (by omega))
      have HOTK := Lib.hid (HOT.out (k + 1))
      rw [HOTK.out] at HTK
      have HLK := Lib.hid (HLL.out (k + 1))
      have HOKK := Lib.hid (HOK.out (k + 1))
      have HLX := Lib.hid (show (i64s (List.replicate 8 0)).set z (.int .i64 ((k + 1 : Nat) : Int)) = i64s (oneL z (k + 1)) by unfold oneL; rw [i64s_setC])
      have HZR := Lib.hid (show (i64s (List.replicate 8 0))[z]? = some (.int .i64 0) by rw [i64s_get _ z (by rw [List.length_replicate]; exact hz8), List.getD_eq_getElem?_getD, List.getElem?_replicate, if_pos hz8]; rfl)
      go_wp2_with (at_make; refine wpList_make_full _ rfl _ _ 22 rfl wo.heap.size 2 i0 (.int .i64 0) 1 Tryz.underlying22 hi hz0 hz1 .i64 .i64 _ _ 8 rfl rfl rfl rfl (by rw [hz2]; omega) (by unfold maxLen; omega) (Nat.le_refl _) ?_; intro w0 hown hgrow; rw [made_ints] at hown; have hcz := hown.cellAt z (by omega); rw [HZR.out] at hcz; have hfz := hown.frozenAt z)
      have HV := Lib.hid (show IntsAt (w0.setCell ⟨wo.heap.size, z, none⟩ (.int .i64 ((k : Int) + 1))) (.slice (some ⟨wo.heap.size, 0, none⟩) 8 8) (oneL z (k + 1)) by
        have h1 := (hown.stored z (.int .i64 ((k + 1 : Nat) : Int))).1
        rw [HLX.out] at h1
        exact own_ints (by rw [oneL_len]; omega) ⟨wo.heap.size, 8, by rw [oneL_len], Nat.le_refl _, (h1.lt _ rfl).2, by rw [oneL_len]; exact h1⟩)
      have HB0 := Lib.hid ((HB.out.grown hgrow HB.out.size (fun j hj => by cases hj)).setCell (p := ⟨wo.heap.size, z, none⟩) HB.out.size (.int .i64 ((k : Int) + 1)))
      clear hown hgrow hcz hfz
      refine (HTK.out _ _ HB0.out HV.out).mono ?_
      rintro e w2 ⟨⟨vt, rfl, hrv⟩, hb⟩
      have HRV := Lib.hid hrv
      have HB2 := Lib.hid (below_of HB0.out hb HB0.out.size)
      clear hrv hb
      obtain ⟨at', ct, rfl⟩ := rv_form HRV.out
      generalize oneT rs zs z (k + 1) = l at *
      have hba := below_al w2 (.cells #[.string s, .slice at' l.length ct] 42)
      have HPK := Lib.hid (l05Ok_any w2.heap.size s _ l _ (prof_alloc w2 s (.slice at' l.length ct) 42) (rings_kept hba (rv_rings HLK.out HRV.out)) hs)
      have HB3 := Lib.hid (below_of HB2.out hba HB2.out.size)
      clear hba
      generalize l.length = nl at *
      go_wp2_with fail
      refine HPK.out.mono ?_
      rintro e w3 ⟨rfl, hb⟩
      have HB4 := Lib.hid (below_of HB3.out hb HB3.out.size)
      clear hb
      rcases Bool.eq_false_or_eq_true (profB s l) with h1 | h1
      · have HN := Lib.hid (show mostF (oneOk s rs zs z) 20 0 = mostF (oneOk s rs zs z) (20 - (k + 1)) (k + 1) by
          rw [HMO.out, show 20 - k = 20 - (k + 1) + 1 by omega, mostF_yes (by rw [HOKK.out, h1])])
        rw [h1]
        clear h1
        go_wp2
        go_roundw
        case rel => exact ⟨k + 1, by omega, by go_num, HN.out, HB4.out⟩
        case measure => simp [intOf]; omega
      · have HN := Lib.hid (show mostF (oneOk s rs zs z) 20 0 = k by
          rw [HMO.out, show 20 - k = 20 - (k + 1) + 1 by omega, mostF_no (by rw [HOKK.out, h1])])
        rw [h1]
        clear h1
        go_wp2
        go_ret
        exact ⟨ret_i64 (by rw [HMS.out, HN.out]), HB4.out⟩
    · obtain rfl : k = 20 := by omega
      have HN := Lib.hid (show mostF (oneOk s rs zs z) 20 0 = 20 from HMO.out)
      go_wp2
      go_ret
      exact ⟨ret_i64 (by rw [HMS.out, HN.out]), HB.out⟩
end Go.Proofs.YtpjopfhkgegahaaGreat
