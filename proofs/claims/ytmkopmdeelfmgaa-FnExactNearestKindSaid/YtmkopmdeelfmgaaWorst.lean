/- The number that is farthest off in a list: the reference model's walk and the program's; WorstDeviation. -/
import Derived.Test.YtmkopmdeelfmgaaFive
import Derived.Test.YtmkopmdeelfmgaaDiv
import Derived.Deep.QuietTactic
import Derived.BigQuiet
import Derived.Deep.RegionWith
namespace Go.Proofs.Ytmkopmdeelfmgaa
open Go.ChangeShapes Go.WideShapes Go.ChangeAt Go.RowKit

/-- The index of the first of the first k numbers with the greatest absolute value. -/
def far (zs : List Int) : Nat → Nat
  | 0 => 0
  | k + 1 => if mag (zs.getD (far zs k) 0) < mag (zs.getD k 0) then k else far zs k
theorem far_lt (zs : List Int) : ∀ k, far zs k < k + 1
  | 0 => by simp [far]
  | k + 1 => by
    have ih := far_lt zs k
    unfold far
    split <;> omega
theorem far_in (zs : List Int) (n : Nat) (h : 0 < n) : far zs n < n := by
  obtain ⟨k, rfl⟩ : ∃ k, n = k + 1 := ⟨n - 1, by omega⟩
  have ih := far_lt zs k
  unfold far
  split <;> omega
theorem lt_cell {w : World} {b o : Nat} {v : Value} (h : w.cell? ⟨b, o, none⟩ = some v) : b < w.heap.size := by
  by_cases hl : b < w.heap.size
  · exact hl
  · have hn : w.heap[b]? = none := Array.getElem?_eq_none (by omega)
    simp [World.cell?, hn] at h
def maxV (a b : Int) : Int := if b < a then a else b
theorem max_mag (a : Int) : maxV a (-a) = mag a := by unfold maxV mag; split <;> omega
def BigOk (zs : List Int) (n : Nat) : Prop := ∀ j, j < n → -1000000000 ≤ zs.getD j 0 ∧ zs.getD j 0 ≤ 1000000000

theorem l00Max_any (a b : Int) (w : World) :
    Calls Try.prog 54 #[.int .i64 a, .int .i64 b] w fun e w' => e = .returned (.int .i64 (maxV a b)) ∧ w = w' := by
  by_cases h : b < a
  · have HF := Lib.hid (show maxV a b = a by unfold maxV; rw [if_pos h])
    go_enter Try.func54, Try.ntmps54
    go_wp2
    go_ret
    exact ⟨ret_i64 HF.out.symm, rfl⟩
  · have HF := Lib.hid (show maxV a b = b by unfold maxV; rw [if_neg h])
    go_enter Try.func54, Try.ntmps54
    go_wp2
    go_ret
    exact ⟨ret_i64 HF.out.symm, rfl⟩
set_option maxHeartbeats 1000000 in
theorem l04Worst_any (zs : List Int) (b off n cap : Nat) (w : World) (hn1 : 0 < n) (hbig : n ≤ 1048576) (hb : BigOk zs n)
    (hc : ∀ j, j < n → w.cell? ⟨b, off + j, none⟩ = some (.int .i64 (zs.getD j 0))) :
    Calls Try.prog 51 #[.slice (some ⟨b, off, none⟩) n cap] w fun e w' => e = .returned (.int .i64 (far zs n)) ∧ Below w.heap.size w w' := by
  have HC := Lib.hid hc
  have HBD := Lib.hid hb
  clear hc hb
  go_enter Try.func51, Try.ntmps51
  go_wp2
  go_loopw [3, 4] (fun v i wr => ∃ k m : Nat, 1 ≤ k ∧ k ≤ n ∧ i = .int .i64 k ∧ v = .int .i64 (far zs k) ∧ wr = w.drewN m) (fun _ i _ => n - (intOf i).toNat)
  case atStart => exact ⟨1, 0, by omega, by omega, rfl, by unfold far; simp [far], rfl⟩
  case round =>
    obtain ⟨k, m, hk1, hk, rfl, rfl, rfl⟩ := hrel
    by_cases hlt : k < n
    · have hq : far zs k < n := by have := far_in zs k (by omega); omega
      have hx := HC.out k hlt
      have hy := HC.out (far zs k) hq
      have bx := HBD.out k hlt
      have bys := HBD.out (far zs k) hq
      have HS := Lib.hid (show far zs (k + 1) = if mag (zs.getD (far zs k) 0) < mag (zs.getD k 0) then k else far zs k from rfl)
      generalize zs.getD k 0 = x at *
      generalize hfy : zs.getD (far zs k) 0 = y at *
      clear hfy
      generalize far zs k = q at *
      have hk2 : (k : Int) < (n : Int) := by omega
      have hq2 : (q : Int) < (n : Int) := by omega
      have wx : IntKind.i64.wrap (-x) = -x := IntWalk.i64_in _ (by omega)
      have wy : IntKind.i64.wrap (-y) = -y := IntWalk.i64_in _ (by omega)
      have MX := Lib.hid (max_mag x)
      have MY := Lib.hid (max_mag y)
      obtain ⟨mx, hmx⟩ : ∃ mx, mag x = mx := ⟨_, rfl⟩
      obtain ⟨my, hmy⟩ : ∃ my, mag y = my := ⟨_, rfl⟩
      rw [hmx] at MX
      rw [hmy] at MY
      rw [hmx, hmy] at HS
      clear hmx hmy
      by_cases h : my < mx
      · go_wp2
        go_quiet (first
          | (go_at_call_of 54 (Value.int .i64 x); exact (l00Max_any _ _ _).mono (fun _ _ h => ⟨by rw [h.1, MX.out], _, h.2.symm⟩))
          | (go_at_call_of 54 (Value.int .i64 y); exact (l00Max_any _ _ _).mono (fun _ _ h => ⟨by rw [h.1, MY.out], _, h.2.symm⟩)))
        go_wp2
        go_roundw
        case rel => exact ⟨k + 1, _, by omega, by omega, by go_num, by rw [HS.out, if_pos h], rfl⟩
        case measure => simp [intOf]; omega
      · go_wp2
        go_quiet (first
          | (go_at_call_of 54 (Value.int .i64 x); exact (l00Max_any _ _ _).mono (fun _ _ h => ⟨by rw [h.1, MX.out], _, h.2.symm⟩))
          | (go_at_call_of 54 (Value.int .i64 y); exact (l00Max_any _ _ _).mono (fun _ _ h => ⟨by rw [h.1, MY.out], _, h.2.symm⟩)))
        go_wp2
        go_roundw
        case rel => exact ⟨k + 1, _, by omega, by omega, by go_num, by rw [HS.out, if_neg (by omega)], rfl⟩
        case measure => simp [intOf]; omega
    · obtain rfl : k = n := by omega
      go_wp2
      go_ret
      exact ⟨rfl, below_drewN _ _⟩
set_option maxHeartbeats 1000000 in
theorem farthest_any (zs : List Int) (b off n cap : Nat) (w : World) (hn1 : 0 < n) (hbig : n ≤ 1048576) (hb : BigOk zs n)
    (hc : ∀ j, j < n → w.cell? ⟨b, off + j, none⟩ = some (.int .i64 (zs.getD j 0))) :
    Calls Try.prog 53 #[.slice (some ⟨b, off, none⟩) n cap] w fun e w' => e = .returned (.int .i64 (far zs n)) ∧ Below w.heap.size w w' := by
  have HC := Lib.hid hc
  have HBD := Lib.hid hb
  clear hc hb
  go_enter Try.func53, Try.ntmps53
  go_wp2
  go_loopw [3, 7] (fun v i wr => ∃ k m : Nat, k ≤ n ∧ i = .int .i64 k ∧ v = .int .i64 (far zs k) ∧ wr = w.drewN m) (fun _ i _ => n - (intOf i).toNat)
  case atStart => exact ⟨0, 0, by omega, rfl, rfl, rfl⟩
  case round =>
    obtain ⟨k, m, hk, rfl, rfl, rfl⟩ := hrel
    by_cases hlt : k < n
    · have hq : far zs k < n := by have := far_lt zs k; omega
      have hx := HC.out k hlt
      have hy := HC.out (far zs k) hq
      have bx := HBD.out k hlt
      have bys := HBD.out (far zs k) hq
      have HS := Lib.hid (show far zs (k + 1) = if mag (zs.getD (far zs k) 0) < mag (zs.getD k 0) then k else far zs k from rfl)
      generalize zs.getD k 0 = x at *
      generalize hfy : zs.getD (far zs k) 0 = y at *
      clear hfy
      generalize far zs k = q at *
      have hk2 : (k : Int) < (n : Int) := by omega
      have hq2 : (q : Int) < (n : Int) := by omega
      obtain ⟨mx, hmx⟩ : ∃ mx, mag x = mx := ⟨_, rfl⟩
      obtain ⟨my, hmy⟩ : ∃ my, mag y = my := ⟨_, rfl⟩
      rw [hmx, hmy] at HS
      have MX := Lib.hid hmx
      have MY := Lib.hid hmy
      clear hmx hmy
      by_cases h : my < mx
      · go_wp2
        go_quiet (first
          | (go_at_call_of 56 (Value.int .i64 x); exact (magnitude_any _ _ (by omega)).mono (fun _ _ h => ⟨by rw [h.1, MX.out], _, h.2.symm⟩))
          | (go_at_call_of 56 (Value.int .i64 y); exact (magnitude_any _ _ (by omega)).mono (fun _ _ h => ⟨by rw [h.1, MY.out], _, h.2.symm⟩)))
        go_wp2
        go_roundw
        case rel => exact ⟨k + 1, _, by omega, by go_num, by rw [HS.out, if_pos h], rfl⟩
        case measure => simp [intOf]; omega
      · go_wp2
        go_quiet (first
          | (go_at_call_of 56 (Value.int .i64 x); exact (magnitude_any _ _ (by omega)).mono (fun _ _ h => ⟨by rw [h.1, MX.out], _, h.2.symm⟩))
          | (go_at_call_of 56 (Value.int .i64 y); exact (magnitude_any _ _ (by omega)).mono (fun _ _ h => ⟨by rw [h.1, MY.out], _, h.2.symm⟩)))
        go_wp2
        go_roundw
        case rel => exact ⟨k + 1, _, by omega, by go_num, by rw [HS.out, if_neg (by omega)], rfl⟩
        case measure => simp [intOf]; omega
    · obtain rfl : k = n := by omega
      go_wp2
      go_ret
      exact ⟨rfl, below_drewN _ _⟩
def okW (zs : List Int) : Bool := decide (zs.length = 5) && allIn (-120000) 120000 zs
def wdK (zs : List Int) : Int := if okW zs = true then (far zs 5 : Int) + 1 else 0
def wdV (zs : List Int) : Int := if okW zs = true then zs.getD (far zs 5) 0 else 0
def wdC (zs : List Int) : Int := if okW zs = true then 0 else 2
theorem wd_no {zs : List Int} (h : okW zs = false) : wdK zs = 0 ∧ wdV zs = 0 ∧ wdC zs = 2 := by unfold wdK wdV wdC; rw [h]; exact ⟨rfl, rfl, rfl⟩
theorem wd_yes {zs : List Int} (h : okW zs = true) : wdK zs = (far zs 5 : Int) + 1 ∧ wdV zs = zs.getD (far zs 5) 0 ∧ wdC zs = 0 := by unfold wdK wdV wdC; rw [h]; exact ⟨rfl, rfl, rfl⟩
theorem ret_three {a b c d e f : Int} (h : a = b) (k : c = d) (l : e = f) : Ending.returned (.tuple #[.int .i64 a, .int .i64 c, .int .i64 e]) = .returned (.tuple #[.int .i64 b, .int .i64 d, .int .i64 f]) := by rw [h, k, l]
theorem all_at {zs : List Int} {lo hi : Int} (h : allIn lo hi zs = true) (j : Nat) (hj : j < zs.length) : lo ≤ zs.getD j 0 ∧ zs.getD j 0 ≤ hi := by
  unfold allIn at h
  rw [List.all_eq_true] at h
  have := h zs[j] (List.getElem_mem hj)
  rw [List.getD_eq_getElem?_getD, List.getElem?_eq_getElem hj]
  exact inB_iff.1 this
theorem l02Int_any (t : Int) (w : World) :
    Calls Try.prog 50 #[.int .i64 t] w fun e w' => e = .returned (.bool (inB t (-120000) 120000)) ∧ w = w' := by
  go_enter Try.func50, Try.ntmps50
  go_wp2_with fail
  refine (l00In_any _ _ _ _).mono ?_
  rintro e w' ⟨rfl, rfl⟩
  go_wp2
  go_ret
  exact ⟨rfl, rfl⟩
set_option maxHeartbeats 1000000 in
theorem specWorst_any (zs : List Int) (b off n cap : Nat) (w : World) (hn : Hid (zs.length = n)) (hbig : n ≤ 1048576)
    (hc : ∀ j, j < n → w.cell? ⟨b, off + j, none⟩ = some (.int .i64 (zs.getD j 0))) :
    Calls Try.prog 28 #[.slice (some ⟨b, off, none⟩) n cap] w fun e w' => e = .returned (.tuple #[.int .i64 (wdK zs), .int .i64 (wdV zs), .int .i64 (wdC zs)]) ∧ Below w.heap.size w w' := by
  have HC := Lib.hid hc
  clear hc
  by_cases h5 : n = 5
  · subst h5
    go_enter Try.func28, Try.ntmps28
    go_wp2
    go_loop [5] (fun i => ∃ k : Nat, k ≤ 5 ∧ i = .int .i64 k ∧ Hid (∀ j, j < k → inB (zs.getD j 0) (-120000) 120000 = true)) (fun i => 5 - (intOf i).toNat)
    case atStart => exact ⟨0, by omega, rfl, Lib.hid (fun j hj => by omega)⟩
    case round =>
      obtain ⟨k, hk, rfl, HA⟩ := hrel
      by_cases hlt : k < 5
      · have hcell := HC.out k hlt
        have hk2 : (k : Int) < 5 := by omega
        rcases Bool.eq_false_or_eq_true (inB (zs.getD k 0) (-120000) 120000) with h1 | h1
        · have HN := Lib.hid (show ∀ j, j < k + 1 → inB (zs.getD j 0) (-120000) 120000 = true from fun j hj => by
            by_cases e : j = k
            · subst e; exact h1
            · exact HA.out j (by omega))
          generalize zs.getD k 0 = z at *
          go_wp2_with fail
          refine (l02Int_any _ _).mono ?_
          rintro e w' ⟨rfl, rfl⟩
          rw [h1]
          go_wp2
          go_round
          case rel => exact ⟨k + 1, by omega, by go_num, HN⟩
          case measure => simp [intOf]; omega
        · have R := Lib.hid (wd_no (zs := zs) (by unfold okW; rw [allIn_false (by rw [hn.out]; exact hlt) h1]; simp))
          generalize zs.getD k 0 = z at *
          go_wp2_with fail
          refine (l02Int_any _ _).mono ?_
          rintro e w' ⟨rfl, rfl⟩
          rw [h1]
          go_wp2
          try simp only [Exit.inBlock, Exit.then]
          refine bodyPost_ret_by (v := .tuple #[.int .i64 0, .int .i64 0, .int .i64 2]) (by simp [results, Try.results28, go_sem]) rfl ?_
          exact ⟨ret_three R.out.1.symm R.out.2.1.symm R.out.2.2.symm, Below.refl _ _⟩
      · obtain rfl : k = 5 := by omega
        have hall : allIn (-120000) 120000 zs = true := allIn_true (fun j hj => HA.out j (by rw [hn.out] at hj; exact hj))
        have R := Lib.hid (wd_yes (zs := zs) (by unfold okW; rw [hall, hn.out]; rfl))
        have HBO := Lib.hid (show BigOk zs 5 from fun j hj => by have := all_at hall j (by rw [hn.out]; exact hj); omega)
        have hf := far_in zs 5 (by omega)
        have hcell := HC.out (far zs 5) hf
        clear hall
        go_wp2_with fail
        refine (l04Worst_any zs b off 5 cap _ (by omega) (by omega) HBO.out HC.out).mono ?_
        rintro e w1 ⟨rfl, hb⟩
        have hcell1 : w1.cell? ⟨b, off + far zs 5, none⟩ = some (.int .i64 (zs.getD (far zs 5) 0)) := by rw [below_cell hb _ _ (lt_cell hcell)]; exact hcell
        have HB := Lib.hid hb
        clear hb hcell
        generalize zs.getD (far zs 5) 0 = z at *
        generalize far zs 5 = q at *
        have hq2 : (q : Int) < 5 := by omega
        go_wp2
        go_quiet (fail)
        go_wp2
        try simp only [Exit.inBlock, Exit.then]
        refine bodyPost_ret_by (v := .tuple #[.int .i64 ((q : Int) + 1), .int .i64 z, .int .i64 0]) (by simp [results, Try.results28, go_sem]) rfl ?_
        exact ⟨ret_three R.out.1.symm R.out.2.1.symm R.out.2.2.symm, HB.out.trans ((below_drewN _ _).mono HB.out.size)⟩
  · have R := Lib.hid (wd_no (zs := zs) (by unfold okW; rw [hn.out, decide_eq_false h5]; rfl))
    have hne : ((n : Int) != 5) = true := by simp; omega
    clear h5
    go_enter Try.func28, Try.ntmps28
    go_wp2
    try simp only [Exit.inBlock, Exit.then]
    refine bodyPost_ret_by (v := .tuple #[.int .i64 0, .int .i64 0, .int .i64 2]) (by simp [results, Try.results28, go_sem]) rfl ?_
    exact ⟨ret_three R.out.1.symm R.out.2.1.symm R.out.2.2.symm, Below.refl _ _⟩
set_option maxHeartbeats 1000000 in
theorem implWorst_any (zs : List Int) (b off n cap : Nat) (w : World) (hn : Hid (zs.length = n)) (hbig : n ≤ 1048576)
    (hc : ∀ j, j < n → w.cell? ⟨b, off + j, none⟩ = some (.int .i64 (zs.getD j 0))) :
    Calls Try.prog 30 #[.slice (some ⟨b, off, none⟩) n cap] w fun e w' => e = .returned (.tuple #[.int .i64 (wdK zs), .int .i64 (wdV zs), .int .i64 (wdC zs)]) ∧ Below w.heap.size w w' := by
  have HC := Lib.hid hc
  clear hc
  by_cases h5 : n = 5
  · subst h5
    rcases Bool.eq_false_or_eq_true (allIn (-120000) 120000 zs) with hall | hall
    · have R := Lib.hid (wd_yes (zs := zs) (by unfold okW; rw [hall, hn.out]; rfl))
      have HBO := Lib.hid (show BigOk zs 5 from fun j hj => by have := all_at hall j (by rw [hn.out]; exact hj); omega)
      have hf := far_in zs 5 (by omega)
      have hcell := HC.out (far zs 5) hf
      go_enter Try.func30, Try.ntmps30
      go_wp2_with fail
      refine (within_i64 (-120000) 120000 zs b off 5 cap _ hn.out (by omega) HC.out).mono ?_
      rintro e w1 ⟨rfl, rfl⟩
      rw [hall]
      go_wp2_with fail
      refine (farthest_any zs b off 5 cap _ (by omega) (by omega) HBO.out HC.out).mono ?_
      rintro e w1 ⟨rfl, hb⟩
      have hcell1 : w1.cell? ⟨b, off + far zs 5, none⟩ = some (.int .i64 (zs.getD (far zs 5) 0)) := by rw [below_cell hb _ _ (lt_cell hcell)]; exact hcell
      have HB := Lib.hid hb
      clear hb hcell
      generalize zs.getD (far zs 5) 0 = z at *
      generalize far zs 5 = q at *
      have hq2 : (q : Int) < 5 := by omega
      go_wp2
      go_quiet (fail)
      go_wp2
      try simp only [Exit.inBlock, Exit.then]
      refine bodyPost_ret_by (v := .tuple #[.int .i64 (1 + (q : Int)), .int .i64 z, .int .i64 0]) (by simp [results, Try.results30, go_sem]) rfl ?_
      exact ⟨ret_three ((Int.add_comm _ _).trans R.out.1.symm) R.out.2.1.symm R.out.2.2.symm, HB.out.trans ((below_drewN _ _).mono HB.out.size)⟩
    · have R := Lib.hid (wd_no (zs := zs) (by unfold okW; rw [hall]; simp))
      go_enter Try.func30, Try.ntmps30
      go_wp2_with fail
      refine (within_i64 (-120000) 120000 zs b off 5 cap _ hn.out (by omega) HC.out).mono ?_
      rintro e w1 ⟨rfl, rfl⟩
      rw [hall]
      go_wp2
      try simp only [Exit.inBlock, Exit.then]
      refine bodyPost_ret_by (v := .tuple #[.int .i64 0, .int .i64 0, .int .i64 2]) (by simp [results, Try.results30, go_sem]) rfl ?_
      exact ⟨ret_three R.out.1.symm R.out.2.1.symm R.out.2.2.symm, Below.refl _ _⟩
  · have R := Lib.hid (wd_no (zs := zs) (by unfold okW; rw [hn.out, decide_eq_false h5]; rfl))
    have hne : ((n : Int) != 5) = true := by simp; omega
    clear h5
    go_enter Try.func30, Try.ntmps30
    go_wp2
    try simp only [Exit.inBlock, Exit.then]
    refine bodyPost_ret_by (v := .tuple #[.int .i64 0, .int .i64 0, .int .i64 2]) (by simp [results, Try.results30, go_sem]) rfl ?_
    exact ⟨ret_three R.out.1.symm R.out.2.1.symm R.out.2.2.symm, Below.refl _ _⟩
end Go.Proofs.Ytmkopmdeelfmgaa
