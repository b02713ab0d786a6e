/- The sound of a profile by a model: the reference model's answer. -/
import Derived.Test.YtpjopfhkgegahaaGreatModPar
import Derived.Test.YtpjopfhkgegahaaGreatSndSpec
set_option linter.unusedVariables false
namespace Go.Proofs.YtpjopfhkgegahaaGreat
open Go.ChangeShapes Go.WideShapes Go.ChangeAt Go.RowKit

/-- Block g holds nothing yet, and may be written. -/
def CleanZ (w : World) (g : Nat) : Prop := Five w g 0 0 0 0 0 ∧ w.frozen? ⟨g, 0, none⟩ = false ∧ w.frozen? ⟨g, 1, none⟩ = false ∧ w.frozen? ⟨g, 2, none⟩ = false ∧ w.frozen? ⟨g, 3, none⟩ = false ∧ w.frozen? ⟨g, 4, none⟩ = false
theorem cleanZ_kept {w w' : World} {B g : Nat} (hb : Below B w w') (hg : g < B) (h : CleanZ w g) : CleanZ w' g :=
  ⟨⟨by rw [hb.cell (p := ⟨g, 0, none⟩) hg]; exact h.1.1, by rw [hb.cell (p := ⟨g, 1, none⟩) hg]; exact h.1.2.1, by rw [hb.cell (p := ⟨g, 2, none⟩) hg]; exact h.1.2.2.1, by rw [hb.cell (p := ⟨g, 3, none⟩) hg]; exact h.1.2.2.2.1, by rw [hb.cell (p := ⟨g, 4, none⟩) hg]; exact h.1.2.2.2.2⟩,
    by rw [hb.frozen (p := ⟨g, 0, none⟩) hg]; exact h.2.1, by rw [hb.frozen (p := ⟨g, 1, none⟩) hg]; exact h.2.2.1, by rw [hb.frozen (p := ⟨g, 2, none⟩) hg]; exact h.2.2.2.1, by rw [hb.frozen (p := ⟨g, 3, none⟩) hg]; exact h.2.2.2.2.1, by rw [hb.frozen (p := ⟨g, 4, none⟩) hg]; exact h.2.2.2.2.2⟩
theorem cleanZ_alloc (w : World) (T : TypeId) : CleanZ (w.alloc (.cells #[.int .i64 0, .int .i64 0, .int .i64 0, .int .i64 0, .int .i64 0] T)) w.heap.size :=
  ⟨five_alloc w 0 0 0 0 0 T, by go_simp, by go_simp, by go_simp, by go_simp, by go_simp⟩
set_option maxHeartbeats 400000 in
theorem l04Sound_capZ (g cap : Nat) (a b c e f : Int) (w : World) (hg : g < w.heap.size) (h0 : w.cell? ⟨g, 0, none⟩ = some (.int .i64 a)) (h1 : w.cell? ⟨g, 1, none⟩ = some (.int .i64 b)) (h2 : w.cell? ⟨g, 2, none⟩ = some (.int .i64 c)) (h3 : w.cell? ⟨g, 3, none⟩ = some (.int .i64 e)) (h4 : w.cell? ⟨g, 4, none⟩ = some (.int .i64 f)) :
    Calls Tryz.prog 77 #[.slice (some ⟨g, 0, none⟩) 5 cap] w fun en w' => en = .returned (.agg #[.int .i64 a, .int .i64 b, .int .i64 c, .int .i64 e, .int .i64 f]) ∧ Below w.heap.size w w' := by
  go_enter Tryz.func77, Tryz.ntmps77
  go_wp2
  have k0 := (below_cell (w1 := w.alloc (.cells #[.int .i64 0, .int .i64 0, .int .i64 0, .int .i64 0, .int .i64 0] 44)) ((Below.refl _ _).alloc (Nat.le_refl _) _) g 0 hg).trans h0
  have k1 := (below_cell (w1 := w.alloc (.cells #[.int .i64 0, .int .i64 0, .int .i64 0, .int .i64 0, .int .i64 0] 44)) ((Below.refl _ _).alloc (Nat.le_refl _) _) g 1 hg).trans h1
  have k2 := (below_cell (w1 := w.alloc (.cells #[.int .i64 0, .int .i64 0, .int .i64 0, .int .i64 0, .int .i64 0] 44)) ((Below.refl _ _).alloc (Nat.le_refl _) _) g 2 hg).trans h2
  have k3 := (below_cell (w1 := w.alloc (.cells #[.int .i64 0, .int .i64 0, .int .i64 0, .int .i64 0, .int .i64 0] 44)) ((Below.refl _ _).alloc (Nat.le_refl _) _) g 3 hg).trans h3
  have k4 := (below_cell (w1 := w.alloc (.cells #[.int .i64 0, .int .i64 0, .int .i64 0, .int .i64 0, .int .i64 0] 44)) ((Below.refl _ _).alloc (Nat.le_refl _) _) g 4 hg).trans h4
  go_region
  go_wp2
  refine bodyPost_ret (v := .agg #[.int .i64 a, .int .i64 b, .int .i64 c, .int .i64 e, .int .i64 f]) (by simp [results, Tryz.results77, go_sem]) rfl ⟨rfl, ?_⟩
  exact below_dr ((Below.refl _ _).alloc (Nat.le_refl _) _)
def sofB (zs : List Int) (ws : List (List Int)) (bs : List Int) (rs : List Rg) : Bool := sndB (rawK zs ws bs rs 0) (rawK zs ws bs rs 1) (rawK zs ws bs rs 2) (rawK zs ws bs rs 3) (rawK zs ws bs rs 4)
def sofC (zs : List Int) (ws : List (List Int)) (bs : List Int) (s : ByteArray) (rs : List Rg) : Int := if askM zs ws bs s rs = 0 then (if sofB zs ws bs rs = true then 0 else 6) else askM zs ws bs s rs
def sofV (zs : List Int) (ws : List (List Int)) (bs : List Int) (s : ByteArray) (rs : List Rg) : Value := if sofC zs ws bs s rs = 0 then .agg #[.int .i64 (rawK zs ws bs rs 0), .int .i64 (rawK zs ws bs rs 1), .int .i64 (rawK zs ws bs rs 2), .int .i64 (rawK zs ws bs rs 3), .int .i64 (rawK zs ws bs rs 4)] else .agg #[.int .i64 0, .int .i64 0, .int .i64 0, .int .i64 0, .int .i64 0]
theorem sof_0 {zs : List Int} {ws : List (List Int)} {bs : List Int} {s : ByteArray} {rs : List Rg} (h : askM zs ws bs s rs = 0) (h2 : sofB zs ws bs rs = true) : sofC zs ws bs s rs = 0 ∧ sofV zs ws bs s rs = .agg #[.int .i64 (rawK zs ws bs rs 0), .int .i64 (rawK zs ws bs rs 1), .int .i64 (rawK zs ws bs rs 2), .int .i64 (rawK zs ws bs rs 3), .int .i64 (rawK zs ws bs rs 4)] := by
  have e : sofC zs ws bs s rs = 0 := by unfold sofC; rw [if_pos h, if_pos h2]
  exact ⟨e, by unfold sofV; rw [if_pos e]⟩
theorem sof_6 {zs : List Int} {ws : List (List Int)} {bs : List Int} {s : ByteArray} {rs : List Rg} (h : askM zs ws bs s rs = 0) (h2 : sofB zs ws bs rs = false) : sofC zs ws bs s rs = 6 ∧ sofV zs ws bs s rs = .agg #[.int .i64 0, .int .i64 0, .int .i64 0, .int .i64 0, .int .i64 0] := by
  have e : sofC zs ws bs s rs = 6 := by unfold sofC; rw [if_pos h, h2]; rfl
  exact ⟨e, by unfold sofV; rw [if_neg (by rw [e]; decide)]⟩
theorem sof_n {zs : List Int} {ws : List (List Int)} {bs : List Int} {s : ByteArray} {rs : List Rg} (h : askM zs ws bs s rs ≠ 0) : sofC zs ws bs s rs = askM zs ws bs s rs ∧ sofV zs ws bs s rs = .agg #[.int .i64 0, .int .i64 0, .int .i64 0, .int .i64 0, .int .i64 0] := by
  have e : sofC zs ws bs s rs = askM zs ws bs s rs := by unfold sofC; rw [if_neg h]
  exact ⟨e, by unfold sofV; rw [if_neg (by rw [e]; exact h)]⟩
theorem ret_sof {v v2 : Value} {a b : Int} (h : v = v2) (k : a = b) : Ending.returned (.tuple #[v, .int .i64 a]) = .returned (.tuple #[v2, .int .i64 b]) := by rw [h, k]
theorem set5 {w w1 : World} {g : Nat} (h : Below w.heap.size w w1) (hg : w.heap.size ≤ g) (a b c d e : Value) : Below w.heap.size w (((((w1.setCell ⟨g, 0, none⟩ a).setCell ⟨g, 1, none⟩ b).setCell ⟨g, 2, none⟩ c).setCell ⟨g, 3, none⟩ d).setCell ⟨g, 4, none⟩ e) :=
  ((((h.setCell (p := ⟨g, 0, none⟩) hg _).setCell (p := ⟨g, 1, none⟩) hg _).setCell (p := ⟨g, 2, none⟩) hg _).setCell (p := ⟨g, 3, none⟩) hg _).setCell (p := ⟨g, 4, none⟩) hg _
end Go.Proofs.YtpjopfhkgegahaaGreat
