/- NoteInterval: the program's answer and the reference model's. -/
import Derived.Test.YtmkopmdeelfmgabDoorNoteInt
namespace Go.Proofs.YtmkopmdeelfmgabDoor
open Go.ChangeShapes Go.WideShapes Go.ChangeAt Go.RowKit

theorem ret_pair2 {a b c d : Int} (h : a = b) (k : c = d) : Ending.returned (.tuple #[.int .i64 a, .int .i64 c]) = .returned (.tuple #[.int .i64 b, .int .i64 d]) := by rw [h, k]
def noteB (a : Int) : Bool := inB a 0 127
def ivI (zs : List Int) (a b : Int) : Int := ivN zs a.toNat b.toNat
def niR (s : ByteArray) (zs : List Int) (a b : Int) : Int := if tempB s zs = true ∧ noteB a = true ∧ noteB b = true then ivI zs a b else 0
def niC (s : ByteArray) (zs : List Int) (a b : Int) : Int := if tempB s zs = true then (if noteB a = true ∧ noteB b = true then 0 else 2) else 1
theorem ni_0 {s : ByteArray} {zs : List Int} {a b : Int} (h : tempB s zs = false) : niR s zs a b = 0 ∧ niC s zs a b = 1 := by
  unfold niR niC; rw [h]; exact ⟨if_neg (fun h => by cases h.1), if_neg (by decide)⟩
theorem ni_1 {s : ByteArray} {zs : List Int} {a b : Int} (h : tempB s zs = true) (h1 : noteB a = false) : niR s zs a b = 0 ∧ niC s zs a b = 2 := by
  unfold niR niC; rw [h, h1]; exact ⟨if_neg (fun h => by cases h.2.1), by rw [if_pos rfl, if_neg (fun h => by cases h.1)]⟩
theorem ni_2 {s : ByteArray} {zs : List Int} {a b : Int} (h : tempB s zs = true) (h1 : noteB b = false) : niR s zs a b = 0 ∧ niC s zs a b = 2 := by
  unfold niR niC; rw [h, h1]; exact ⟨if_neg (fun h => by cases h.2.2), by rw [if_pos rfl, if_neg (fun h => by cases h.2)]⟩
theorem ni_3 {s : ByteArray} {zs : List Int} {a b : Int} (h : tempB s zs = true) (h1 : noteB a = true) (h2 : noteB b = true) : niR s zs a b = ivI zs a b ∧ niC s zs a b = 0 := by
  unfold niR niC; exact ⟨if_pos ⟨h, h1, h2⟩, by rw [if_pos h, if_pos ⟨h1, h2⟩]⟩
theorem temp_parts {s : ByteArray} {zs : List Int} (h : tempB s zs = true) : zs.length = 12 ∧ allIn (-500) 500 zs = true := by
  unfold tempB at h
  rw [Bool.and_eq_true, Bool.and_eq_true, decide_eq_true_eq] at h
  exact h.2
theorem temp_some {w : World} {v : Value} {zs : List Int} (hl : zs.length = 12) (h : IntsAt w v zs) : ∃ bb off cap, v = .slice (some ⟨bb, off, none⟩) 12 cap ∧ bb < w.heap.size ∧ ∀ j, j < 12 → w.cell? ⟨bb, off + j, none⟩ = some (.int .i64 (zs.getD j 0)) := by
  obtain ⟨_, ⟨a, c, rfl, rfl⟩ | ⟨bb, off, cap, rfl, hb, hc⟩⟩ := h
  · simp at hl
  · rw [hl] at hc
    exact ⟨bb, off, cap, by rw [hl], hb, hc⟩
theorem list12 {zs : List Int} (hl : zs.length = 12) : ∃ x0 x1 x2 x3 x4 x5 x6 x7 x8 x9 x10 x11 : Int, zs = [x0, x1, x2, x3, x4, x5, x6, x7, x8, x9, x10, x11] := by
  match zs, hl with
  | [x0, x1, x2, x3, x4, x5, x6, x7, x8, x9, x10, x11], _ => exact ⟨x0, x1, x2, x3, x4, x5, x6, x7, x8, x9, x10, x11, rfl⟩
theorem note_nat {a : Int} (h : noteB a = true) : ∃ n : Nat, n ≤ 127 ∧ a = n := by
  have := inB_iff.1 h
  exact ⟨a.toNat, by omega, by omega⟩
theorem cellsAB (w : World) (x y : Int) (T : TypeId) (n : Nat) (hn : n = w.heap.size) : ∀ j, j < 2 → (w.alloc (.cells #[.int .i64 x, .int .i64 y] T)).cell? ⟨n, 0 + j, none⟩ = some (.int .i64 ([x, y].getD j 0)) := by
  subst hn
  intro j hj
  match j, hj with
  | 0, _ => go_simp
  | 1, _ => go_simp
theorem allAB (lo hi c d : Int) : allIn lo hi [c, d] = (inB c lo hi && inB d lo hi) := by simp [allIn]

theorem areNotes2_any (a b : Int) (g : Nat) (w : World) (hc : ∀ j, j < 2 → w.cell? ⟨g, 0 + j, none⟩ = some (.int .i64 ([a, b].getD j 0))) :
    Calls Tryd.prog 43 #[.slice (some ⟨g, 0, none⟩) 2 2] w fun e w' => e = .returned (.bool (noteB a && noteB b)) ∧ w = w' := by
  have HC := Lib.hid hc
  clear hc
  go_enter Tryd.func43, Tryd.ntmps43
  go_wp2_with fail
  refine (within_i64 _ _ [a, b] _ 0 2 2 _ rfl (by omega) HC.out).mono ?_
  rintro e w' ⟨rfl, rfl⟩
  go_wp2
  go_ret
  exact ⟨ret_bool (allAB _ _ _ _), rfl⟩

set_option maxRecDepth 100000 in
set_option maxHeartbeats 4000000 in
theorem implNI_any (s : ByteArray) (v : Value) (zs : List Int) (a b : Int) (w : World) (h : IntsAt w v zs) (hs : s.size ≤ 9223372036854775807) :
    Calls Tryd.prog 22 #[.agg #[.string s, v], .int .i64 a, .int .i64 b] w fun e w' => e = .returned (.tuple #[.int .i64 (niR s zs a b), .int .i64 (niC s zs a b)]) ∧ Below w.heap.size w w' := by
  have HI := Lib.hid h
  clear h
  rcases t_cases (tempB s zs) with h0 | h0
  · rcases t_cases (noteB a && noteB b) with h1 | h1
    · rw [Bool.and_eq_true] at h1
      obtain ⟨h1, h2⟩ := h1
      have R := Lib.hid (ni_3 h0 h1 h2)
      have HAN := Lib.hid (show (noteB a && noteB b) = true by rw [h1, h2]; rfl)
      obtain ⟨hl, hin⟩ := temp_parts h0
      obtain ⟨bb, off, cap, rfl, hbb, hc⟩ := temp_some hl HI.out
      have HIN := Lib.hid (offs_in hin hl)
      obtain ⟨x0, x1, x2, x3, x4, x5, x6, x7, x8, x9, x10, x11, rfl⟩ := list12 hl
      have HC := Lib.hid hc
      obtain ⟨qa, qa1, rfl⟩ := note_nat h1
      obtain ⟨qb, qb1, rfl⟩ := note_nat h2
      clear hl hin hc h1 h2
      go_enter Tryd.func22, Tryd.ntmps22
      go_wp2_with fail
      refine (implValid_any s _ _ _ (ints_kept ((Below.refl _ _).alloc (Nat.le_refl _) _) HI.out) hs).mono ?_
      rintro e w1 ⟨rfl, hb⟩
      rw [h0]
      have c0 : w1.cell? ⟨w.heap.size, 0, none⟩ = some (.string s) := by rw [below_cell hb _ _ (by simp)]; go_simp
      have c1 : w1.cell? ⟨w.heap.size, 1, none⟩ = some (.slice (some ⟨bb, off, none⟩) 12 cap) := by rw [below_cell hb _ _ (by simp)]; go_simp
      have HB := Lib.hid (below_of ((Below.refl _ _).alloc (Nat.le_refl _) _) hb (by simp))
      have hz : w.heap.size + 1 ≤ w1.heap.size := by have := hb.size; simp at this; omega
      clear hb h0
      go_wp2_with fail
      refine (areNotes2_any _ _ _ _ (cellsAB _ _ _ _ _ rfl)).mono ?_
      rintro e w2 ⟨rfl, rfl⟩
      rw [HAN.out]
      have d0 : (w1.alloc (.cells #[.int .i64 (qa : Int), .int .i64 (qb : Int)] 2)).cell? ⟨w.heap.size, 0, none⟩ = some (.string s) := by rw [below_cell ((Below.refl _ _).alloc (Nat.le_refl _) _) _ _ hz]; exact c0
      have d1 : (w1.alloc (.cells #[.int .i64 (qa : Int), .int .i64 (qb : Int)] 2)).cell? ⟨w.heap.size, 1, none⟩ = some (.slice (some ⟨bb, off, none⟩) 12 cap) := by rw [below_cell ((Below.refl _ _).alloc (Nat.le_refl _) _) _ _ hz]; exact c1
      have HB1 := Lib.hid (HB.out.alloc HB.out.size (.cells #[.int .i64 (qa : Int), .int .i64 (qb : Int)] 2))
      go_wp2_with fail
      refine (offsetsOf_any s bb off cap x0 x1 x2 x3 x4 x5 x6 x7 x8 x9 x10 x11 _ (by have := HB1.out.size; omega) (fun j hj => by rw [below_cell HB1.out _ _ hbb]; exact HC.out j hj)).mono ?_
      rintro e w3 ⟨rfl, hb⟩
      have HB3 := Lib.hid (below_of HB1.out hb HB1.out.size)
      clear hb
      go_wp2_with fail
      refine (interval_any x0 x1 x2 x3 x4 x5 x6 x7 x8 x9 x10 x11 qa qb _ qa1 qb1 HIN.out).mono ?_
      rintro e w4 ⟨rfl, hb⟩
      have HB4 := Lib.hid (below_of HB3.out hb HB3.out.size)
      clear hb
      go_wp2
      go_ret2
      exact ⟨ret_pair2 R.out.1.symm R.out.2.symm, HB4.out⟩
    · have R := Lib.hid (show niR s zs a b = 0 ∧ niC s zs a b = 2 by
        rcases t_cases (noteB a) with g | g
        · exact ni_2 h0 (by rw [g] at h1; simpa using h1)
        · exact ni_1 h0 g)
      go_enter Tryd.func22, Tryd.ntmps22
      obtain ⟨av, cv, rfl⟩ := ints_form HI.out
      go_wp2_with fail
      refine (implValid_any s _ _ _ (ints_kept ((Below.refl _ _).alloc (Nat.le_refl _) _) HI.out) hs).mono ?_
      rintro e w1 ⟨rfl, hb⟩
      rw [h0]
      have HB := Lib.hid (below_of ((Below.refl _ _).alloc (Nat.le_refl _) _) hb (by simp))
      clear hb
      go_wp2_with fail
      refine (areNotes2_any _ _ _ _ (cellsAB _ _ _ _ _ rfl)).mono ?_
      rintro e w2 ⟨rfl, rfl⟩
      rw [h1]
      go_wp2
      go_ret2
      exact ⟨ret_pair2 R.out.1.symm R.out.2.symm, HB.out.alloc HB.out.size _⟩
  · have R := Lib.hid (ni_0 (a := a) (b := b) h0)
    go_enter Tryd.func22, Tryd.ntmps22
    obtain ⟨av, cv, rfl⟩ := ints_form HI.out
    go_wp2_with fail
    refine (implValid_any s _ _ _ (ints_kept ((Below.refl _ _).alloc (Nat.le_refl _) _) HI.out) hs).mono ?_
    rintro e w1 ⟨rfl, hb⟩
    rw [h0]
    have HB := Lib.hid (below_of ((Below.refl _ _).alloc (Nat.le_refl _) _) hb (by simp))
    clear hb
    go_wp2
    go_ret2
    exact ⟨ret_pair2 R.out.1.symm R.out.2.symm, HB.out⟩
end Go.Proofs.YtmkopmdeelfmgabDoor
