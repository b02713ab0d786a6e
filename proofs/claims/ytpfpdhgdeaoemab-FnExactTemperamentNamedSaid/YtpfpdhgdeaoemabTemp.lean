/- Temperaments by value: an argument opened; measured, copied, compared. -/
import Derived.Test.YtpfpdhgdeaoemabInts
import Derived.Lib.SmallJoins
namespace Go.Proofs.Ytpfpdhgdeaoemab
open Go.ChangeShapes Go.WideShapes Go.ChangeAt Go.RowKit

section
variable {H : Type} {enc : TypeId × Value → H}
/-- An argument of type Temperament: its name, its list of numbers (if it is no longer than the laws look at). -/
theorem temp_arg {W : World} {base : Nat} {v : Value} {d : DataW H} {p : List MemPlace} (hval : Value.okWide Try.prog W .any base 33 v) (h : DataW.Trod enc Try.prog W 0 (fun _ => true) true 33 v d p)
    (hlt : ∀ x ∈ p, x.block < W.heap.size) : ∃ (s : ByteArray) (a : Option Addr) (len cap : Nat), v = .agg #[.string s, .slice a len cap] ∧ (s.size ≤ 9223372036854775807 ∧ len ≤ 9223372036854775807) ∧
      (len ≤ 1048576 → ∃ zs : List Int, zs.length = len ∧ IntsAt W (.slice a len cap) zs ∧ ∀ z ∈ zs, (Lit.int .i64 z).wf = true) := by
  obtain ⟨v0, v1, y0, y1, n, rfl, rfl, rfl, h0, h1⟩ := Joins.open_agg2 Try.underlying33 (by kernel_rfl) (by kernel_rfl) hval h
  obtain ⟨s, hs, rfl, hsz⟩ := DataW.trod_string Try.underlying9 h0
  obtain rfl : v0 = .string s := by simpa using hs
  have hc : Try.prog.cellsOf 2 = 1 := by kernel_rfl
  have hv : ∃ a len cap, v1 = .slice a len cap := by
    rcases open_ints Try.underlying25 Try.underlying2 hc h1 with ⟨hcs, _⟩ | ⟨a', len', cap', zs, hcs, _⟩
    · exact ⟨_, _, _, by simpa using hcs⟩
    · exact ⟨_, _, _, by simpa using hcs⟩
  obtain ⟨a, len, cap, rfl⟩ := hv
  have hk := ints_arg (a := a) (len := len) (cap := cap) (fuel := n) (d := y1.1) (p := y1.2) h1 (fun x hx => hlt x (by simp [hx]))
  unfold maxLen at hsz
  exact ⟨s, a, len, cap, rfl, ⟨by omega, hk.1⟩, hk.2⟩
end

/-- What is left of a measure. -/
def leftV (a b : Nat) (left : Int) : Int := if left - a < 0 then -1 else if left - a - b < 0 then -1 else left - a - b
theorem szInts_any (a : Option Addr) (n c : Nat) (left : Int) (w : World) (hn : n ≤ 9223372036854775807) (h0 : 0 ≤ left) (h1 : left ≤ 1048576) :
    Calls Try.prog 32 #[.slice a n c, .int .i64 left] w fun e w' => e = .returned (.int .i64 (if left - n < 0 then -1 else left - n)) ∧ w = w' := by
  by_cases h : left - n < 0
  · rw [if_pos h]
    go_enter Try.func32, Try.ntmps32
    go_wp2
    go_ret
    exact ⟨rfl, rfl⟩
  · rw [if_neg h]
    go_enter Try.func32, Try.ntmps32
    go_wp2
    go_ret
    exact ⟨rfl, rfl⟩
set_option maxHeartbeats 400000 in
theorem szTemp_any (s : ByteArray) (a : Option Addr) (n c : Nat) (left : Int) (w : World) (hs : s.size ≤ 9223372036854775807) (hn : n ≤ 9223372036854775807) (h0 : 0 ≤ left) (h1 : left ≤ 1048576) :
    Calls Try.prog 15 #[.agg #[.string s, .slice a n c], .int .i64 left] w fun e w' => e = .returned (.int .i64 (leftV s.size n left)) ∧ Below w.heap.size w w' := by
  by_cases h : left - s.size < 0
  · have H := Lib.hid (show leftV s.size n left = -1 by unfold leftV; rw [if_pos h])
    go_enter Try.func15, Try.ntmps15
    go_wp2
    go_ret
    exact ⟨ret_i64 H.out.symm, (Below.refl _ _).alloc (Nat.le_refl _) _⟩
  · by_cases h2 : left - s.size - n < 0
    · have H := Lib.hid (show leftV s.size n left = -1 by unfold leftV; rw [if_neg h, if_pos h2])
      have HC := Lib.hid (show (if left - s.size - n < 0 then (-1 : Int) else left - s.size - n) = -1 by rw [if_pos h2])
      go_enter Try.func15, Try.ntmps15
      go_wp2_with fail
      refine (szInts_any a n c (left - s.size) _ hn (by omega) (by omega)).mono ?_
      rintro e w' ⟨rfl, rfl⟩
      rw [HC.out]
      go_wp2
      go_ret
      exact ⟨ret_i64 H.out.symm, (Below.refl _ _).alloc (Nat.le_refl _) _⟩
    · have H := Lib.hid (show leftV s.size n left = left - s.size - n by unfold leftV; rw [if_neg h, if_neg h2])
      have HC := Lib.hid (show (if left - s.size - n < 0 then (-1 : Int) else left - s.size - n) = left - s.size - n by rw [if_neg h2])
      go_enter Try.func15, Try.ntmps15
      go_wp2_with fail
      refine (szInts_any a n c (left - s.size) _ hn (by omega) (by omega)).mono ?_
      rintro e w' ⟨rfl, rfl⟩
      rw [HC.out]
      go_wp2
      go_ret
      exact ⟨ret_i64 H.out.symm, (Below.refl _ _).alloc (Nat.le_refl _) _⟩

theorem szTemp_v (s : ByteArray) (v : Value) (n : Nat) (left : Int) (w : World) (hv : Hid (∃ a c, v = .slice a n c)) (hs : s.size ≤ 9223372036854775807) (hn : n ≤ 9223372036854775807) (h0 : 0 ≤ left) (h1 : left ≤ 1048576) :
    Calls Try.prog 15 #[.agg #[.string s, v], .int .i64 left] w fun e w' => e = .returned (.int .i64 (leftV s.size n left)) ∧ Below w.heap.size w w' := by
  obtain ⟨a, c, rfl⟩ := hv
  exact szTemp_any s a n c left w hs hn h0 h1
theorem left_no {a b : Nat} {left : Int} (h : left < a + b) : leftV a b left = -1 := by
  unfold leftV
  split
  · rfl
  · rw [if_pos (by omega)]
theorem left_yes {a b : Nat} {left : Int} (h : (a : Int) + b ≤ left) : leftV a b left = left - a - b := by
  unfold leftV
  rw [if_neg (by omega), if_neg (by omega)]
/-- A slice of the call's own that reads as zs. -/
def OwnAt (w : World) (B : Nat) (v : Value) (zs : List Int) : Prop := ∃ B', B ≤ B' ∧ OwnInts w B' v zs
theorem ownAt_kept {w w' : World} {B : Nat} {v : Value} {zs : List Int} (hb : Below w.heap.size w w') (h : OwnAt w B v zs) : OwnAt w' B v zs := by
  obtain ⟨B', h1, h2⟩ := h
  exact ⟨B', h1, own_kept hb h2⟩
theorem ownAt_ints {w : World} {B : Nat} {v : Value} {zs : List Int} (hl : zs.length ≤ 1048576) (h : OwnAt w B v zs) : IntsAt w v zs := by
  obtain ⟨_, _, h2⟩ := h
  exact own_ints hl h2
theorem ints_form {w : World} {v : Value} {zs : List Int} (h : IntsAt w v zs) : ∃ a c, v = .slice a zs.length c := by
  obtain ⟨_, ⟨a, c, rfl, rfl⟩ | ⟨b, off, cap, rfl, _⟩⟩ := h
  · exact ⟨_, _, rfl⟩
  · exact ⟨_, _, rfl⟩
theorem eqInts_at (zs : List Int) (v1 v2 : Value) (w : World) (h1 : IntsAt w v1 zs) (h2 : IntsAt w v2 zs) :
    Calls Try.prog 29 #[v1, v2] w fun e w' => e = .returned (.bool true) ∧ Below w.heap.size w w' := by
  obtain ⟨hl, ⟨a, c, rfl, rfl⟩ | ⟨b, off, cap, rfl, hb, hc⟩⟩ := h1
  · obtain ⟨a2, c2, rfl⟩ := ints_form h2
    exact eqInts_zero a a2 c c2 w
  · obtain ⟨_, ⟨a, c, rfl, rfl⟩ | ⟨b2, off2, cap2, rfl, hb2, hc2⟩⟩ := h2
    · exact eqInts_zero _ _ _ _ w
    · exact eqInts_some zs b off cap b2 off2 cap2 w _ hl hc hc2

theorem own_set {w : World} {B : Nat} {v : Value} {zs : List Int} (h : OwnInts w B v zs) (b o : Nat) (x : Value) (hb : b < B) : OwnInts (w.setCell ⟨b, o, none⟩ x) B v zs := by
  obtain ⟨g, cap, rfl, h1, h2, hown⟩ := h
  refine ⟨g, cap, rfl, h1, by simpa using h2, hown.kept (row := some b) ⟨rfl, rfl, rfl, by simp, fun k _ hk => Below.heap_setCell _ _ _ _ (by intro e; exact hk (by simp only at e; rw [e]))⟩ (.inr (by simp [Value.ownBlock]; omega))⟩
/-- What a copy is. -/
def CopyT (s : ByteArray) (zs : List Int) (w : World) (e : Ending) (w' : World) : Prop := ∃ v, e = .returned (.agg #[.string s, v]) ∧ OwnAt w' w.heap.size v zs ∧ Below w.heap.size w w'
set_option maxHeartbeats 1000000 in
theorem toTemp_any (s : ByteArray) (v : Value) (zs : List Int) (w : World) (h : IntsAt w v zs) :
    Calls Try.prog 17 #[.agg #[.string s, v]] w (CopyT s zs w) := by
  have HI := Lib.hid h
  obtain ⟨a, c, rfl⟩ := ints_form h
  clear h
  generalize hn : zs.length = n at *
  have HN := Lib.hid hn
  clear hn
  go_enter Try.func17, Try.ntmps17
  go_wp2_with fail
  refine (toInts_any zs _ _ (ints_kept ((((Below.refl _ _).alloc (Nat.le_refl _) _).alloc (by simp) _).alloc (by simp <;> omega) _) HI.out)).mono ?_
  rintro e w1 ⟨v', rfl, hown, hb⟩
  have HO := Lib.hid hown
  have HB := Lib.hid hb
  have c10 : w1.cell? ⟨w.heap.size + 1, 0, none⟩ = some (.string ⟨#[]⟩) := by rw [below_cell hb _ _ (by simp)]; go_simp
  have c11 : w1.cell? ⟨w.heap.size + 1, 1, none⟩ = some (.slice none 0 0) := by rw [below_cell hb _ _ (by simp)]; go_simp
  have c20 : w1.cell? ⟨w.heap.size + 1 + 1, 0, none⟩ = some (.string s) := by rw [below_cell hb _ _ (by simp)]; go_simp
  have c21 : w1.cell? ⟨w.heap.size + 1 + 1, 1, none⟩ = some (.slice none 0 0) := by rw [below_cell hb _ _ (by simp)]; go_simp
  have f10 : w1.frozen? ⟨w.heap.size + 1, 0, none⟩ = false := by rw [below_frozen hb _ _ (by simp)]; go_simp
  have f11 : w1.frozen? ⟨w.heap.size + 1, 1, none⟩ = false := by rw [below_frozen hb _ _ (by simp)]; go_simp
  have f21 : w1.frozen? ⟨w.heap.size + 1 + 1, 1, none⟩ = false := by rw [below_frozen hb _ _ (by simp)]; go_simp
  have hz : w.heap.size + 3 ≤ w1.heap.size := by have := hb.size; simp at this; omega
  obtain ⟨g, cap, rfl, hg1, hg2, -⟩ := hown
  clear hb
  simp at hg1
  have HG := Lib.hid hg1
  go_wp2
  refine bodyPost_ret (v := .agg #[.string s, .slice (some ⟨g, 0, none⟩) zs.length cap]) (by simp [results, Try.results17, go_sem, c10, c11]) rfl ⟨_, rfl, ⟨w.heap.size + 3, by omega, own_set (own_set (own_set ?_ _ _ _ (by omega)) _ _ _ (by omega)) _ _ _ (by omega)⟩, ?_⟩
  · have := HO.out
    simpa using this
  · have h3 : Below w.heap.size w w1 := ((((Below.refl _ _).alloc (Nat.le_refl _) _).alloc (by simp) _).alloc (by simp <;> omega) _).trans (HB.out.mono (by simp <;> omega))
    exact ((h3.setCell (by simp <;> omega) _).setCell (by simp) _).setCell (by simp) _

theorem eqTemp_any (s : ByteArray) (v1 v2 : Value) (zs : List Int) (w : World) (h1 : IntsAt w v1 zs) (h2 : IntsAt w v2 zs) :
    Calls Try.prog 12 #[.agg #[.string s, v1], .agg #[.string s, v2]] w fun e w' => e = .returned (.bool true) ∧ Below w.heap.size w w' := by
  have H1 := Lib.hid h1
  have H2 := Lib.hid h2
  obtain ⟨a1, c1, rfl⟩ := ints_form h1
  obtain ⟨a2, c2, rfl⟩ := ints_form h2
  clear h1 h2
  generalize hn : zs.length = n at *
  have HN := Lib.hid hn
  clear hn
  have hs : (s.toList != s.toList) = false := by simp
  go_enter Try.func12, Try.ntmps12
  go_wp2_with fail
  refine (eqInts_at zs _ _ _ (ints_kept (((Below.refl _ _).alloc (Nat.le_refl _) _).alloc (by simp) _) H1.out) (ints_kept (((Below.refl _ _).alloc (Nat.le_refl _) _).alloc (by simp) _) H2.out)).mono ?_
  rintro e w1 ⟨rfl, hb⟩
  have HB := Lib.hid (below_of (((Below.refl _ _).alloc (Nat.le_refl _) _).alloc (by simp) _) hb (by simp <;> omega))
  clear hb
  go_wp2
  go_ret
  exact ⟨rfl, HB.out⟩
end Go.Proofs.Ytpfpdhgdeaoemab
