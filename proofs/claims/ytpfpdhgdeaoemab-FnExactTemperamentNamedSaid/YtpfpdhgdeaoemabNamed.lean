/- TemperamentNamed: the program's walk and the reference model's. -/
import Derived.Test.YtpfpdhgdeaoemabKnown
import Derived.Test.YtpfpdhgdeaoemabTemp
import Derived.Laws.OwnMore
import Derived.Laws.ResultCell
import Derived.Laws.NewBlocks
namespace Go.Proofs.Ytpfpdhgdeaoemab
open Go.ChangeShapes Go.WideShapes Go.ChangeAt Go.RowKit

/-- A temperament of its own comes out. -/
def NamedPost (E : TypeId) (s : ByteArray) (zs : List Int) (w : World) (e : Ending) (w' : World) : Prop := ∃ g, e = .returned (.tuple #[.agg #[.string s, .slice (some ⟨g, 0, none⟩) 12 12], .int .i64 0]) ∧ w.heap.size ≤ g ∧ w'.ownsRow w.heap.size E 1 (.slice (some ⟨g, 0, none⟩) 12 12) 12 (i64s zs) ∧ Below w.heap.size w w'
def NonePost (w : World) (e : Ending) (w' : World) : Prop := e = .returned (.tuple #[.agg #[.string ByteArray.empty, .slice none 0 0], .int .i64 3]) ∧ Below w.heap.size w w'

theorem row_lower {w : World} {B B' : Nat} {e : TypeId} {v : Value} {n : Nat} {xs : List Value} (h : w.ownsRow B e 1 v n xs) (hB : B' ≤ B) : w.ownsRow B' e 1 v n xs := by
  obtain ⟨h1, h2 | ⟨g, cap, cur, h3, h4, h5⟩⟩ := h
  · exact ⟨h1, .inl h2⟩
  · exact ⟨h1, .inr ⟨g, cap, cur, h3, Nat.le_trans hB h4, h5⟩⟩

set_option maxRecDepth 20000 in
set_option maxHeartbeats 2000000 in
theorem implNamed_yes (s : ByteArray) (x0 x1 x2 x3 x4 x5 x6 x7 x8 x9 x10 x11 : Int) (w : World)
    (hlook : ∀ (w1 : World) (b : Nat), w1.ownsMap Try.prog 9 tRead b 4 tMap → (Instr.lookup 50 (.map (some b)) (.string s) true).run Try.prog w1 = .ok (.tuple #[.agg #[.int .i64 x0, .int .i64 x1, .int .i64 x2, .int .i64 x3, .int .i64 x4, .int .i64 x5, .int .i64 x6, .int .i64 x7, .int .i64 x8, .int .i64 x9, .int .i64 x10, .int .i64 x11], .bool true]) w1) :
    Calls Try.prog 11 #[.string s] w (NamedPost 48 s [x0, x1, x2, x3, x4, x5, x6, x7, x8, x9, x10, x11] w) := by
  have HL := Lib.hid hlook
  clear hlook
  go_enter Try.func11, Try.ntmps11
  go_wp2_with fail
  refine (known_any _).mono ?_
  rintro e w1 ⟨rfl, hown, hb⟩
  have hl := HL.out w1 _ hown
  have hsz : (w.alloc (.cells #[.string ⟨#[]⟩, .slice none 0 0] 27)).heap.size = w.heap.size + 1 := by simp
  rw [hsz] at hl
  have c0 : w1.cell? ⟨w.heap.size, 0, none⟩ = some (.string ⟨#[]⟩) := by rw [below_cell hb _ _ (by simp)]; go_simp
  have c1 : w1.cell? ⟨w.heap.size, 1, none⟩ = some (.slice none 0 0) := by rw [below_cell hb _ _ (by simp)]; go_simp
  have f0 : w1.frozen? ⟨w.heap.size, 0, none⟩ = false := by rw [below_frozen hb _ _ (by simp)]; go_simp
  have f1 : w1.frozen? ⟨w.heap.size, 1, none⟩ = false := by rw [below_frozen hb _ _ (by simp)]; go_simp
  have HB := Lib.hid hb
  have hgt : w.heap.size + 1 ≤ w1.heap.size := by have := hb.size; omega
  have HA := Lib.hid ((Below.refl w1.heap.size w1).alloc (Nat.le_refl _) (.cells #[.int .i64 x0, .int .i64 x1, .int .i64 x2, .int .i64 x3, .int .i64 x4, .int .i64 x5, .int .i64 x6, .int .i64 x7, .int .i64 x8, .int .i64 x9, .int .i64 x10, .int .i64 x11] 48))
  have d0 : (w1.alloc (.cells #[.int .i64 x0, .int .i64 x1, .int .i64 x2, .int .i64 x3, .int .i64 x4, .int .i64 x5, .int .i64 x6, .int .i64 x7, .int .i64 x8, .int .i64 x9, .int .i64 x10, .int .i64 x11] 48)).cell? ⟨w.heap.size, 0, none⟩ = some (.string ⟨#[]⟩) := by rw [below_cell HA.out _ _ (by omega)]; exact c0
  have d1 : (w1.alloc (.cells #[.int .i64 x0, .int .i64 x1, .int .i64 x2, .int .i64 x3, .int .i64 x4, .int .i64 x5, .int .i64 x6, .int .i64 x7, .int .i64 x8, .int .i64 x9, .int .i64 x10, .int .i64 x11] 48)).cell? ⟨w.heap.size, 1, none⟩ = some (.slice none 0 0) := by rw [below_cell HA.out _ _ (by omega)]; exact c1
  have g0 : (w1.alloc (.cells #[.int .i64 x0, .int .i64 x1, .int .i64 x2, .int .i64 x3, .int .i64 x4, .int .i64 x5, .int .i64 x6, .int .i64 x7, .int .i64 x8, .int .i64 x9, .int .i64 x10, .int .i64 x11] 48)).frozen? ⟨w.heap.size, 0, none⟩ = false := by rw [below_frozen HA.out _ _ (by omega)]; exact f0
  have g1 : (w1.alloc (.cells #[.int .i64 x0, .int .i64 x1, .int .i64 x2, .int .i64 x3, .int .i64 x4, .int .i64 x5, .int .i64 x6, .int .i64 x7, .int .i64 x8, .int .i64 x9, .int .i64 x10, .int .i64 x11] 48)).frozen? ⟨w.heap.size, 1, none⟩ = false := by rw [below_frozen HA.out _ _ (by omega)]; exact f1
  clear hown hb c0 c1 f0 f1
  go_wp2
  have hrow : (w1.alloc (.cells #[.int .i64 x0, .int .i64 x1, .int .i64 x2, .int .i64 x3, .int .i64 x4, .int .i64 x5, .int .i64 x6, .int .i64 x7, .int .i64 x8, .int .i64 x9, .int .i64 x10, .int .i64 x11] 48)).ownsRow w1.heap.size 48 1 (.slice (some ⟨w1.heap.size, 0, none⟩) 12 12) 12 (i64s [x0, x1, x2, x3, x4, x5, x6, x7, x8, x9, x10, x11]) :=
    World.ownsRow_lit w1 #[.int .i64 x0, .int .i64 x1, .int .i64 x2, .int .i64 x3, .int .i64 x4, .int .i64 x5, .int .i64 x6, .int .i64 x7, .int .i64 x8, .int .i64 x9, .int .i64 x10, .int .i64 x11] 12 (Nat.le_refl _) (by decide) rfl
  have HW := HB.out
  have HBA : Below w.heap.size w (w1.alloc (.cells #[.int .i64 x0, .int .i64 x1, .int .i64 x2, .int .i64 x3, .int .i64 x4, .int .i64 x5, .int .i64 x6, .int .i64 x7, .int .i64 x8, .int .i64 x9, .int .i64 x10, .int .i64 x11] 48)) := (below_of ((Below.refl _ _).alloc (Nat.le_refl _) _) HW (by simp)).trans (HA.out.mono (by omega))
  generalize w1.alloc (.cells #[.int .i64 x0, .int .i64 x1, .int .i64 x2, .int .i64 x3, .int .i64 x4, .int .i64 x5, .int .i64 x6, .int .i64 x7, .int .i64 x8, .int .i64 x9, .int .i64 x10, .int .i64 x11] 48) = wB at *
  try simp only [Exit.inBlock, Exit.then]
  refine bodyPost_ret_by (v := .tuple #[.agg #[.string s, .slice (some ⟨w1.heap.size, 0, none⟩) 12 12], .int .i64 0]) (by rw [results_cell_tmp rfl]; go_simp) rfl ?_
  refine ⟨w1.heap.size, rfl, by omega, row_lower ?_ (by omega : w.heap.size ≤ w1.heap.size), (HBA.setCell (Nat.le_refl _) _).setCell (Nat.le_refl _) _⟩
  exact ownsRow_setCell_below (ownsRow_setCell_below hrow (by show w.heap.size < w1.heap.size; omega) _) (by show w.heap.size < w1.heap.size; omega) _

set_option maxRecDepth 20000 in
set_option maxHeartbeats 2000000 in
theorem implNamed_no (s : ByteArray) (w : World) (hs : s.size ≤ maxLen) (hn : ∀ i, i < 4 → s ≠ tName i) :
    Calls Try.prog 11 #[.string s] w (NonePost w) := by
  have HL : Hid (∀ (w1 : World) (b : Nat), w1.ownsMap Try.prog 9 tRead b 4 tMap → (Instr.lookup 50 (.map (some b)) (.string s) true).run Try.prog w1 = .ok (.tuple #[.agg #[.int .i64 0, .int .i64 0, .int .i64 0, .int .i64 0, .int .i64 0, .int .i64 0, .int .i64 0, .int .i64 0, .int .i64 0, .int .i64 0, .int .i64 0, .int .i64 0], .bool false]) w1) := Lib.hid fun w1 b h => look_no h s hs hn
  clear hn hs
  go_enter Try.func11, Try.ntmps11
  go_wp2_with fail
  refine (known_any _).mono ?_
  rintro e w1 ⟨rfl, hown, hb⟩
  have hl := HL.out w1 _ hown
  have hsz : (w.alloc (.cells #[.string ⟨#[]⟩, .slice none 0 0] 27)).heap.size = w.heap.size + 1 := by simp
  rw [hsz] at hl
  have c0 : w1.cell? ⟨w.heap.size, 0, none⟩ = some (.string ⟨#[]⟩) := by rw [below_cell hb _ _ (by simp)]; go_simp
  have c1 : w1.cell? ⟨w.heap.size, 1, none⟩ = some (.slice none 0 0) := by rw [below_cell hb _ _ (by simp)]; go_simp
  have f0 : w1.frozen? ⟨w.heap.size, 0, none⟩ = false := by rw [below_frozen hb _ _ (by simp)]; go_simp
  have f1 : w1.frozen? ⟨w.heap.size, 1, none⟩ = false := by rw [below_frozen hb _ _ (by simp)]; go_simp
  have HB := Lib.hid hb
  have hgt : w.heap.size + 1 ≤ w1.heap.size := by have := hb.size; omega
  have HA := Lib.hid ((Below.refl w1.heap.size w1).alloc (Nat.le_refl _) (.cells #[.int .i64 0, .int .i64 0, .int .i64 0, .int .i64 0, .int .i64 0, .int .i64 0, .int .i64 0, .int .i64 0, .int .i64 0, .int .i64 0, .int .i64 0, .int .i64 0] 48))
  have d0 : (w1.alloc (.cells #[.int .i64 0, .int .i64 0, .int .i64 0, .int .i64 0, .int .i64 0, .int .i64 0, .int .i64 0, .int .i64 0, .int .i64 0, .int .i64 0, .int .i64 0, .int .i64 0] 48)).cell? ⟨w.heap.size, 0, none⟩ = some (.string ⟨#[]⟩) := by rw [below_cell HA.out _ _ (by omega)]; exact c0
  have d1 : (w1.alloc (.cells #[.int .i64 0, .int .i64 0, .int .i64 0, .int .i64 0, .int .i64 0, .int .i64 0, .int .i64 0, .int .i64 0, .int .i64 0, .int .i64 0, .int .i64 0, .int .i64 0] 48)).cell? ⟨w.heap.size, 1, none⟩ = some (.slice none 0 0) := by rw [below_cell HA.out _ _ (by omega)]; exact c1
  have g0 : (w1.alloc (.cells #[.int .i64 0, .int .i64 0, .int .i64 0, .int .i64 0, .int .i64 0, .int .i64 0, .int .i64 0, .int .i64 0, .int .i64 0, .int .i64 0, .int .i64 0, .int .i64 0] 48)).frozen? ⟨w.heap.size, 0, none⟩ = false := by rw [below_frozen HA.out _ _ (by omega)]; exact f0
  have g1 : (w1.alloc (.cells #[.int .i64 0, .int .i64 0, .int .i64 0, .int .i64 0, .int .i64 0, .int .i64 0, .int .i64 0, .int .i64 0, .int .i64 0, .int .i64 0, .int .i64 0, .int .i64 0] 48)).frozen? ⟨w.heap.size, 1, none⟩ = false := by rw [below_frozen HA.out _ _ (by omega)]; exact f1
  clear hown hb c0 c1 f0 f1
  go_wp2
  have HW := HB.out
  have HBA : Below w.heap.size w (w1.alloc (.cells #[.int .i64 0, .int .i64 0, .int .i64 0, .int .i64 0, .int .i64 0, .int .i64 0, .int .i64 0, .int .i64 0, .int .i64 0, .int .i64 0, .int .i64 0, .int .i64 0] 48)) := (below_of ((Below.refl _ _).alloc (Nat.le_refl _) _) HW (by simp)).trans (HA.out.mono (by omega))
  generalize w1.alloc (.cells #[.int .i64 0, .int .i64 0, .int .i64 0, .int .i64 0, .int .i64 0, .int .i64 0, .int .i64 0, .int .i64 0, .int .i64 0, .int .i64 0, .int .i64 0, .int .i64 0] 48) = wB at *
  try simp only [Exit.inBlock, Exit.then]
  refine bodyPost_ret_by (v := .tuple #[.agg #[.string ⟨#[]⟩, .slice none 0 0], .int .i64 3]) (by rw [results_cell_tmp rfl]; go_simp) rfl ?_
  exact ⟨rfl, (HBA.setCell (Nat.le_refl _) _).setCell (Nat.le_refl _) _⟩

def NamedIs (E : TypeId) (s : ByteArray) (w : World) (e : Ending) (w' : World) : Prop := (∃ i, i < 4 ∧ s = tName i ∧ NamedPost E s (tOffs i) w e w') ∨ ((∀ i, i < 4 → s ≠ tName i) ∧ NonePost w e w')
theorem name_or (s : ByteArray) : (∃ i, i < 4 ∧ s = tName i) ∨ ∀ i, i < 4 → s ≠ tName i := by
  by_cases h : ∃ i, i < 4 ∧ s = tName i
  · exact .inl h
  · exact .inr fun i hi e => h ⟨i, hi, e⟩
theorem implNamed_any (s : ByteArray) (w : World) (hs : s.size ≤ maxLen) : Calls Try.prog 11 #[.string s] w (NamedIs 48 s w) := by
  rcases name_or s with ⟨i, hi, rfl⟩ | hn
  · have hl := fun (w1 : World) (b : Nat) (h : w1.ownsMap Try.prog 9 tRead b 4 tMap) => look_yes h i hi
    have key : Calls Try.prog 11 #[.string (tName i)] w (NamedPost 48 (tName i) (tOffs i) w) := by
      rcases (by omega : i = 0 ∨ i = 1 ∨ i = 2 ∨ i = 3) with rfl | rfl | rfl | rfl <;> exact implNamed_yes _ _ _ _ _ _ _ _ _ _ _ _ _ w hl
    exact key.mono fun e w' h => .inl ⟨i, hi, rfl, h⟩
  · exact (implNamed_no s w hs hn).mono fun e w' h => .inr ⟨hn, h⟩
end Go.Proofs.Ytpfpdhgdeaoemab
