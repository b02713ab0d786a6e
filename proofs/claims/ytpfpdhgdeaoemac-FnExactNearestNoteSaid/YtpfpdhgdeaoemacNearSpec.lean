/- NearestNote: the program's answer and the reference model's. -/
import Derived.Test.YtpfpdhgdeaoemacDev
import Derived.Deep.RegionHeld3
import Derived.Deep.MidRow
namespace Go.Proofs.Ytpfpdhgdeaoemac
open Go.ChangeShapes Go.WideShapes Go.ChangeAt Go.RowKit

/-- The first of the first k numbers with the least distance. -/
def amin (d : Nat → Int) : Nat → Nat
  | 0 => 0
  | k + 1 => if d k < d (amin d k) then k else amin d k
def leastAt (d : Nat → Int) (k : Nat) : Int := if k = 0 then -1 else d (amin d k)
theorem amin_lt (d : Nat → Int) : ∀ k, 0 < k → amin d k < k
  | 0, h => by omega
  | k + 1, _ => by
    unfold amin
    split
    · omega
    · by_cases h : k = 0
      · subst h; exact Nat.lt_succ_self _
      · have := amin_lt d k (by omega); omega
theorem amin_127 (d : Nat → Int) (k : Nat) (h : k ≤ 128) : amin d k ≤ 127 := by
  by_cases h0 : k = 0
  · subst h0; exact Nat.zero_le _
  · have := amin_lt d k (by omega); omega
/-- How far a frequency is from a note, without its sign. -/
def ndV (zs : List Int) (p f : Int) (n : Nat) : Int := aptV (logV f - logV p) (ivN zs 69 n)
theorem nd_bd {zs : List Int} {p f : Int} {n : Nat} (h : allIn (-500) 500 zs = true) (hl : zs.length = 12) (hn : n ≤ 127) (p0 : 10000 ≤ p) (p1 : p ≤ 20000000) (f0 : 10000 ≤ f) (f1 : f ≤ 20000000) : 0 ≤ ndV zs p f n ∧ ndV zs p f n ≤ 1000000 := by
  have a := dev_bd h hl hn p0 p1 f0 f1
  unfold devN at a
  unfold ndV aptV
  split <;> omega
def nnR (s : ByteArray) (zs : List Int) (p f : Int) : Int := if tempB s zs = true ∧ ok2 p f = true then (amin (ndV zs p f) 128 : Nat) else 0
def nnC (s : ByteArray) (zs : List Int) (p f : Int) : Int := if tempB s zs = true then (if ok2 p f = true then 0 else 2) else 1
theorem nn_0 {s : ByteArray} {zs : List Int} {p f : Int} (h : tempB s zs = false) : nnR s zs p f = 0 ∧ nnC s zs p f = 1 := by
  unfold nnR nnC; rw [h]; exact ⟨if_neg (fun h => by cases h.1), if_neg (by decide)⟩
theorem nn_1 {s : ByteArray} {zs : List Int} {p f : Int} (h : tempB s zs = true) (h1 : ok2 p f = false) : nnR s zs p f = 0 ∧ nnC s zs p f = 2 := by
  unfold nnR nnC; rw [h, h1]; exact ⟨if_neg (fun h => by cases h.2), by decide⟩
theorem nn_2 {s : ByteArray} {zs : List Int} {p f : Int} (h : tempB s zs = true) (h1 : ok2 p f = true) : nnR s zs p f = (amin (ndV zs p f) 128 : Nat) ∧ nnC s zs p f = 0 := by
  unfold nnR nnC; rw [h, h1]; exact ⟨if_pos ⟨rfl, rfl⟩, by decide⟩

theorem l00Max_dev (a b : Int) (w : World) (_ha : -2000000 ≤ a ∧ a ≤ 2000000) (_hb : -2000000 ≤ b ∧ b ≤ 2000000) (d : Int) (hd : Hid (d = a - b)) (e' : Int) (he : Hid (e' = -d)) :
    Calls Try.prog 22 #[.int .i64 d, .int .i64 e'] w fun e w' => e = .returned (.int .i64 (aptV a b)) ∧ w = w' := by
  have hd' := hd.out
  have he' := he.out
  subst he'
  subst hd'
  by_cases h : b < a
  · have HF := Lib.hid (show aptV a b = a - b by unfold aptV; rw [if_neg (by omega)])
    have h2 : -(a - b) < a - b := by omega
    go_enter Try.func22, Try.ntmps22
    go_wp2
    go_ret
    exact ⟨ret_i64 HF.out.symm, rfl⟩
  · have HF := Lib.hid (show aptV a b = -(a - b) by unfold aptV; split <;> omega)
    have h2 : ¬ -(a - b) < a - b := by omega
    go_enter Try.func22, Try.ntmps22
    go_wp2
    go_ret
    exact ⟨ret_i64 HF.out.symm, rfl⟩

set_option maxHeartbeats 600000 in
theorem specNN_any (s : ByteArray) (v : Value) (zs : List Int) (p f : Int) (w : World) (h : IntsAt w v zs) (hs : s.size ≤ 9223372036854775807) :
    Calls Try.prog 7 #[.agg #[.string s, v], .int .i64 p, .int .i64 f] w fun e w' => e = .returned (.tuple #[.int .i64 (nnR s zs p f), .int .i64 (nnC s zs p f)]) ∧ Below w.heap.size w w' := by
  have HI := Lib.hid h
  clear h
  rcases t_cases (tempB s zs) with h0 | h0
  · rcases t_cases (okF p) with h1 | h1
    · rcases t_cases (okF f) with h3 | h3
      · have R := Lib.hid (nn_2 (s := s) (zs := zs) (p := p) (f := f) h0 (by unfold ok2; rw [h1, h3]; rfl))
        obtain ⟨hl, hin⟩ := temp_parts h0
        obtain ⟨bb, off, cap, rfl, hbb, hc⟩ := temp_some hl HI.out
        have HL := Lib.hid hl
        have HIN := Lib.hid hin
        have HC := Lib.hid hc
        obtain ⟨p0, p1⟩ := okF_iff.1 h1
        obtain ⟨f0, f1⟩ := okF_iff.1 h3
        have b1 := log_bd (show 0 < p by omega) (by omega)
        have b2 := log_bd (show 0 < f by omega) (by omega)
        clear hl hin hc
        go_enter Try.func7, Try.ntmps7
        go_wp2_with fail
        refine (l03Ok_any s _ zs _ _ ⟨by go_simp, by go_simp, ints_kept ((Below.refl _ _).alloc (Nat.le_refl _) _) HI.out⟩ hs).mono ?_
        rintro e w1 ⟨rfl, rfl⟩
        rw [h0]
        go_wp2_with fail
        refine (l02Ok_any _ _).mono ?_
        rintro e w1 ⟨rfl, rfl⟩
        rw [h1]
        go_wp2_with fail
        refine (l02Ok_any _ _).mono ?_
        rintro e w1 ⟨rfl, rfl⟩
        rw [h3]
        clear h0 h1 h3
        have HB0 := Lib.hid (show Below w.heap.size w (w.alloc (.cells #[.string s, .slice (some ⟨bb, off, none⟩) 12 cap] 28)) from (Below.refl _ _).alloc (Nat.le_refl _) _)
        go_wp2
        go_loopw [8, 9, 10] (fun b l n wr => ∃ k : Nat, k ≤ 128 ∧ n = .int .i64 k ∧ b = .int .i64 (amin (ndV zs p f) k : Nat) ∧ l = .int .i64 (leastAt (ndV zs p f) k) ∧ Hid (Below w.heap.size w wr ∧ wr.cell? ⟨w.heap.size, 1, none⟩ = some (.slice (some ⟨bb, off, none⟩) 12 cap) ∧ w.heap.size < wr.heap.size)) (fun _ _ n _ => 128 - (intOf n).toNat)
        case atStart => exact ⟨0, by omega, rfl, rfl, rfl, Lib.hid ⟨HB0.out, by go_simp, by simp⟩⟩
        case round =>
          obtain ⟨k, hk, rfl, rfl, rfl, HW⟩ := hrel
          have HM := Lib.hid (amin_127 (ndV zs p f) k hk)
          by_cases hlt : k < 128
          · have HS := Lib.hid (show amin (ndV zs p f) (k + 1) = if ndV zs p f k < ndV zs p f (amin (ndV zs p f) k) then k else amin (ndV zs p f) k from rfl)
            have HLS := Lib.hid (show leastAt (ndV zs p f) (k + 1) = ndV zs p f (amin (ndV zs p f) (k + 1)) from rfl)
            have bi := iv_bd HIN.out HL.out 69 k (by omega) (by omega)
            have bd := dev_bd HIN.out HL.out (n := k) (by omega) p0 p1 f0 f1
            have bn := nd_bd HIN.out HL.out (n := k) (by omega) p0 p1 f0 f1
            have HDV := Lib.hid (show devN zs p f k = (logV f - logV p) - ivN zs 69 k from rfl)
            have HDN := Lib.hid (show aptV (logV f - logV p) (ivN zs 69 k) = ndV zs p f k from rfl)
            have bm := nd_bd HIN.out HL.out (n := amin (ndV zs p f) k) HM.out p0 p1 f0 f1
            have hkz : (k : Int) ≤ 127 := by omega
            by_cases hk0 : k = 0
            · have HL0 := Lib.hid (show leastAt (ndV zs p f) k = -1 by unfold leastAt; rw [if_pos hk0])
              have HN1 := Lib.hid (show amin (ndV zs p f) (k + 1) = k by subst hk0; simp [amin])
              have HL1 := Lib.hid (show leastAt (ndV zs p f) (k + 1) = ndV zs p f k by rw [HLS.out, HN1.out])
              rw [HL0.out]
              clear hk0 HS HLS HL0
              generalize amin (ndV zs p f) k = m at *
              generalize ndV zs p f m = lm at *
              go_wp2_with fail
              refine (l03Dev_any zs _ bb off cap p f k _ (by omega) p0 p1 f0 f1 HL.out HIN.out HW.out.2.1 (fun j hj => by rw [below_cell HW.out.1 _ _ hbb]; exact HC.out j hj)).mono ?_
              rintro e w2 ⟨rfl, hb⟩
              have HW2 := Lib.hid (show Below w.heap.size w w2 ∧ w2.cell? ⟨w.heap.size, 1, none⟩ = some (.slice (some ⟨bb, off, none⟩) 12 cap) ∧ w.heap.size < w2.heap.size from ⟨below_of HW.out.1 hb HW.out.1.size, by rw [below_cell hb _ _ HW.out.2.2]; exact HW.out.2.1, Nat.lt_of_lt_of_le HW.out.2.2 hb.size⟩)
              clear hb
              go_wp2_with fail
              refine (l00Max_dev (logV f - logV p) (ivN zs 69 k) _ (by omega) (by omega) _ HDV _ (Lib.hid rfl)).mono ?_
              rintro e w3 ⟨rfl, rfl⟩
              rw [HDN.out]
              generalize ndV zs p f k = x at *
              generalize devN zs p f k = dv at *
              go_wp2
              go_roundw
              case rel => exact ⟨k + 1, by omega, by go_num, by rw [HN1.out], by rw [HL1.out], HW2⟩
              case measure => simp [intOf]; omega
            · have HL0 := Lib.hid (show leastAt (ndV zs p f) k = ndV zs p f (amin (ndV zs p f) k) by unfold leastAt; rw [if_neg hk0])
              rw [HL0.out]
              by_cases hc : ndV zs p f k < ndV zs p f (amin (ndV zs p f) k)
              · have HN1 := Lib.hid (show amin (ndV zs p f) (k + 1) = k by rw [HS.out, if_pos hc])
                have HL1 := Lib.hid (show leastAt (ndV zs p f) (k + 1) = ndV zs p f k by rw [HLS.out, HN1.out])
                clear HS HLS HL0
                generalize amin (ndV zs p f) k = m at *
                generalize ndV zs p f m = lm at *
                go_wp2_with fail
                refine (l03Dev_any zs _ bb off cap p f k _ (by omega) p0 p1 f0 f1 HL.out HIN.out HW.out.2.1 (fun j hj => by rw [below_cell HW.out.1 _ _ hbb]; exact HC.out j hj)).mono ?_
                rintro e w2 ⟨rfl, hb⟩
                have HW2 := Lib.hid (show Below w.heap.size w w2 ∧ w2.cell? ⟨w.heap.size, 1, none⟩ = some (.slice (some ⟨bb, off, none⟩) 12 cap) ∧ w.heap.size < w2.heap.size from ⟨below_of HW.out.1 hb HW.out.1.size, by rw [below_cell hb _ _ HW.out.2.2]; exact HW.out.2.1, Nat.lt_of_lt_of_le HW.out.2.2 hb.size⟩)
                clear hb
                go_wp2_with fail
                refine (l00Max_dev (logV f - logV p) (ivN zs 69 k) _ (by omega) (by omega) _ HDV _ (Lib.hid rfl)).mono ?_
                rintro e w3 ⟨rfl, rfl⟩
                rw [HDN.out]
                generalize ndV zs p f k = x at *
                generalize devN zs p f k = dv at *
                go_wp2
                go_roundw
                case rel => exact ⟨k + 1, by omega, by go_num, by rw [HN1.out], by rw [HL1.out], HW2⟩
                case measure => simp [intOf]; omega
              · have HN1 := Lib.hid (show amin (ndV zs p f) (k + 1) = amin (ndV zs p f) k by rw [HS.out, if_neg hc])
                have HLN := Lib.hid (show leastAt (ndV zs p f) (k + 1) = ndV zs p f (amin (ndV zs p f) k) by rw [HLS.out, HN1.out])
                clear HS HLS HL0
                generalize amin (ndV zs p f) k = m at *
                generalize ndV zs p f m = lm at *
                go_wp2_with fail
                refine (l03Dev_any zs _ bb off cap p f k _ (by omega) p0 p1 f0 f1 HL.out HIN.out HW.out.2.1 (fun j hj => by rw [below_cell HW.out.1 _ _ hbb]; exact HC.out j hj)).mono ?_
                rintro e w2 ⟨rfl, hb⟩
                have HW2 := Lib.hid (show Below w.heap.size w w2 ∧ w2.cell? ⟨w.heap.size, 1, none⟩ = some (.slice (some ⟨bb, off, none⟩) 12 cap) ∧ w.heap.size < w2.heap.size from ⟨below_of HW.out.1 hb HW.out.1.size, by rw [below_cell hb _ _ HW.out.2.2]; exact HW.out.2.1, Nat.lt_of_lt_of_le HW.out.2.2 hb.size⟩)
                clear hb
                go_wp2_with fail
                refine (l00Max_dev (logV f - logV p) (ivN zs 69 k) _ (by omega) (by omega) _ HDV _ (Lib.hid rfl)).mono ?_
                rintro e w3 ⟨rfl, rfl⟩
                rw [HDN.out]
                generalize ndV zs p f k = x at *
                generalize devN zs p f k = dv at *
                go_wp2
                go_roundw
                case rel => exact ⟨k + 1, by omega, by go_num, by rw [HN1.out], by rw [HLN.out], HW2⟩
                case measure => simp [intOf]; omega
          · obtain rfl : k = 128 := by omega
            generalize amin (ndV zs p f) 128 = m at *
            generalize leastAt (ndV zs p f) 128 = l at *
            go_wp2
            go_ret2
            exact ⟨ret_pair2 R.out.1.symm R.out.2.symm, HW.out.1⟩
      · have R := Lib.hid (nn_1 (s := s) (zs := zs) (p := p) (f := f) h0 (by unfold ok2; rw [h3]; simp))
        go_enter Try.func7, Try.ntmps7
        go_wp2_with fail
        refine (l03Ok_any s v zs _ _ ⟨by go_simp, by go_simp, ints_kept ((Below.refl _ _).alloc (Nat.le_refl _) _) HI.out⟩ hs).mono ?_
        rintro e w1 ⟨rfl, rfl⟩
        rw [h0]
        go_wp2_with fail
        refine (l02Ok_any _ _).mono ?_
        rintro e w1 ⟨rfl, rfl⟩
        rw [h1]
        go_wp2_with fail
        refine (l02Ok_any _ _).mono ?_
        rintro e w1 ⟨rfl, rfl⟩
        rw [h3]
        go_wp2
        go_ret2
        exact ⟨ret_pair2 R.out.1.symm R.out.2.symm, (Below.refl _ _).alloc (Nat.le_refl _) _⟩
    · have R := Lib.hid (nn_1 (s := s) (zs := zs) (p := p) (f := f) h0 (by unfold ok2; rw [h1]; simp))
      go_enter Try.func7, Try.ntmps7
      go_wp2_with fail
      refine (l03Ok_any s v zs _ _ ⟨by go_simp, by go_simp, ints_kept ((Below.refl _ _).alloc (Nat.le_refl _) _) HI.out⟩ hs).mono ?_
      rintro e w1 ⟨rfl, rfl⟩
      rw [h0]
      go_wp2_with fail
      refine (l02Ok_any _ _).mono ?_
      rintro e w1 ⟨rfl, rfl⟩
      rw [h1]
      go_wp2
      go_ret2
      exact ⟨ret_pair2 R.out.1.symm R.out.2.symm, (Below.refl _ _).alloc (Nat.le_refl _) _⟩
  · have R := Lib.hid (nn_0 (p := p) (f := f) h0)
    go_enter Try.func7, Try.ntmps7
    go_wp2_with fail
    refine (l03Ok_any s v zs _ _ ⟨by go_simp, by go_simp, ints_kept ((Below.refl _ _).alloc (Nat.le_refl _) _) HI.out⟩ hs).mono ?_
    rintro e w1 ⟨rfl, rfl⟩
    rw [h0]
    go_wp2
    go_ret2
    exact ⟨ret_pair2 R.out.1.symm R.out.2.symm, (Below.refl _ _).alloc (Nat.le_refl _) _⟩
end Go.Proofs.Ytpfpdhgdeaoemac
