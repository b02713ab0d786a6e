/- A profile with other rings, if it is valid: the program's and the reference model's. -/
import Derived.Test.YtjdnjlakafcglaaRow3
import Derived.Test.YtjdnjlakafcglaaG2
namespace Go.Proofs.Ytjdnjlakafcglaa
open Go.ChangeShapes Go.WideShapes Go.ChangeAt Go.RowKit

def resS (s : ByteArray) (c : Int) : ByteArray := if c = 0 then s else ⟨#[]⟩
def resL (l : List Rg) (c : Int) : List Rg := if c = 0 then l else []
def resC (s : ByteArray) (l : List Rg) : Int := if profB s l = true then 0 else 6
theorem resL_len (l : List Rg) (c : Int) (h : l.length ≤ 64) : (resL l c).length ≤ 64 := by unfold resL; split <;> simp [h]
theorem results_cellP {P : Program} {fn : Func} {p r : Tmp} {ty : TypeId} (h : fn.results = #[.cell p ty, .tmp r]) (tmps : Array Value) (w : World) :
    (results fn tmps).run P w = ((asAddr (tmps.getD p undef)).run P w).andThen fun a w1 => ((loadVar ty a).run P w1).andThen fun v w2 => .ok (.tuple #[v, tmps.getD r undef]) w2 := by
  simp only [results, h]
  simp [Sem.run_bind, Result.andThen]
/-- Block g holds no profile yet, and may be written. -/
def BlankP (w : World) (g : Nat) : Prop := (w.cell? ⟨g, 0, none⟩ = some (.string ⟨#[]⟩) ∧ w.cell? ⟨g, 1, none⟩ = some (.slice none 0 0)) ∧ w.frozen? ⟨g, 0, none⟩ = false ∧ w.frozen? ⟨g, 1, none⟩ = false
theorem blankP_kept {w w' : World} {B g : Nat} (hb : Below B w w') (hg : g < B) (h : BlankP w g) : BlankP w' g :=
  ⟨⟨by rw [hb.cell (p := ⟨g, 0, none⟩) hg]; exact h.1.1, by rw [hb.cell (p := ⟨g, 1, none⟩) hg]; exact h.1.2⟩, by rw [hb.frozen (p := ⟨g, 0, none⟩) hg]; exact h.2.1, by rw [hb.frozen (p := ⟨g, 1, none⟩) hg]; exact h.2.2⟩
theorem blankP_alloc (w : World) (T : TypeId) : BlankP (w.alloc (.cells #[.string ⟨#[]⟩, .slice none 0 0] T)) w.heap.size := ⟨⟨by go_simp, by go_simp⟩, by go_simp, by go_simp⟩
theorem blankP_gb {w w' : World} {g : Nat} {row : Option Nat} (hb : w.grownBy w' row) (hg : g < w.heap.size) (hne : some g ≠ row) (h : BlankP w g) : BlankP w' g := by
  have e : w'.heap[g]? = w.heap[g]? := hb.block g hg hne
  exact ⟨⟨(World.cell?_of_block e).trans h.1.1, (World.cell?_of_block e).trans h.1.2⟩, (World.frozen?_of_block e).trans h.2.1, (World.frozen?_of_block e).trans h.2.2⟩
set_option maxRecDepth 20000 in
set_option maxHeartbeats 2000000 in
theorem withRings_any (s : ByteArray) (a0 : Option Addr) (n0 c0 : Nat) (v : Value) (l : List Rg) (w : World) (h : RingsAt w v l) (hs : s.size ≤ maxLen) :
    Calls Try.prog 122 #[.agg #[.string s, .slice a0 n0 c0], v] w fun e w' => e = .returned (.tuple #[.agg #[.string (resS s (resC s l)), if profB s l = true then v else .slice none 0 0], .int .i64 (resC s l)]) ∧ Below w.heap.size w w' := by
  have HI := Lib.hid h
  obtain ⟨a, c, rfl⟩ := rings_form h
  clear h
  generalize hn : l.length = n at *
  clear hn
  rcases Bool.eq_false_or_eq_true (profB s l) with hp | hp
  · have hC : resC s l = 0 := by unfold resC; rw [if_pos hp]
    have HP := Lib.hid hp
    rw [hC, if_pos hp, show resS s 0 = s from rfl]
    clear hp hC
    have hBA := ((Below.refl w.heap.size w).alloc (Nat.le_refl _) (.cells #[.string s, .slice a n c] 30)).alloc (by simp) (.cells #[.string ⟨#[]⟩, .slice none 0 0] 30)
    have z0 : ((w.alloc (.cells #[.string s, .slice a n c] 30)).alloc (.cells #[.string ⟨#[]⟩, .slice none 0 0] 30)).cell? ⟨w.heap.size, 0, none⟩ = some (.string s) := by go_simp
    have z1 : ((w.alloc (.cells #[.string s, .slice a n c] 30)).alloc (.cells #[.string ⟨#[]⟩, .slice none 0 0] 30)).cell? ⟨w.heap.size, 1, none⟩ = some (.slice a n c) := by go_simp
    have hbl : BlankP ((w.alloc (.cells #[.string s, .slice a n c] 30)).alloc (.cells #[.string ⟨#[]⟩, .slice none 0 0] 30)) (w.heap.size + 1) := ⟨⟨by go_simp, by go_simp⟩, by go_simp, by go_simp⟩
    have hl1 : w.heap.size + 1 < ((w.alloc (.cells #[.string s, .slice a n c] 30)).alloc (.cells #[.string ⟨#[]⟩, .slice none 0 0] 30)).heap.size := by simp
    have HBA := Lib.hid hBA
    have HIA := Lib.hid (rings_kept hBA HI.out)
    go_enter Try.func122, Try.ntmps122
    go_wp2_with fail
    clear hBA
    generalize ((w.alloc (.cells #[.string s, .slice a n c] 30)).alloc (.cells #[.string ⟨#[]⟩, .slice none 0 0] 30)) = wA at *
    refine (implValidP_any s _ l _ HIA.out hs).mono ?_
    rintro e w1 ⟨rfl, hb⟩
    rw [HP.out]
    have q0 := (below_cell hb _ _ (by omega)).trans z0
    have q1 := (below_cell hb _ _ (by omega)).trans z1
    obtain ⟨⟨b0, b1⟩, f0, f1⟩ := blankP_kept hb hl1 hbl
    have HB := Lib.hid (below_of HBA.out hb HBA.out.size)
    clear hb hbl z0 z1
    go_wp2
    try simp only [Exit.inBlock, Exit.then]
    refine bodyPost_ret_by (v := .tuple #[.agg #[.string s, .slice a n c], .int .i64 0]) (by rw [results_cellP rfl]; go_simp) rfl ?_
    exact ⟨rfl, (HB.out.setCell (by show _ ≤ w.heap.size + 1; omega) _).setCell (by show _ ≤ w.heap.size + 1; omega) _⟩
  · have hC : resC s l = 6 := by unfold resC; rw [hp]; rfl
    have HP := Lib.hid hp
    rw [hC, hp, show resS s 6 = ⟨#[]⟩ from rfl]
    clear hp hC
    have hBA := ((Below.refl w.heap.size w).alloc (Nat.le_refl _) (.cells #[.string s, .slice a n c] 30)).alloc (by simp) (.cells #[.string ⟨#[]⟩, .slice none 0 0] 30)
    have z0 : ((w.alloc (.cells #[.string s, .slice a n c] 30)).alloc (.cells #[.string ⟨#[]⟩, .slice none 0 0] 30)).cell? ⟨w.heap.size, 0, none⟩ = some (.string s) := by go_simp
    have z1 : ((w.alloc (.cells #[.string s, .slice a n c] 30)).alloc (.cells #[.string ⟨#[]⟩, .slice none 0 0] 30)).cell? ⟨w.heap.size, 1, none⟩ = some (.slice a n c) := by go_simp
    have hbl : BlankP ((w.alloc (.cells #[.string s, .slice a n c] 30)).alloc (.cells #[.string ⟨#[]⟩, .slice none 0 0] 30)) (w.heap.size + 1) := ⟨⟨by go_simp, by go_simp⟩, by go_simp, by go_simp⟩
    have hl1 : w.heap.size + 1 < ((w.alloc (.cells #[.string s, .slice a n c] 30)).alloc (.cells #[.string ⟨#[]⟩, .slice none 0 0] 30)).heap.size := by simp
    have HBA := Lib.hid hBA
    have HIA := Lib.hid (rings_kept hBA HI.out)
    go_enter Try.func122, Try.ntmps122
    go_wp2_with fail
    clear hBA
    generalize ((w.alloc (.cells #[.string s, .slice a n c] 30)).alloc (.cells #[.string ⟨#[]⟩, .slice none 0 0] 30)) = wA at *
    refine (implValidP_any s _ l _ HIA.out hs).mono ?_
    rintro e w1 ⟨rfl, hb⟩
    rw [HP.out]
    have q0 := (below_cell hb _ _ (by omega)).trans z0
    have q1 := (below_cell hb _ _ (by omega)).trans z1
    obtain ⟨⟨b0, b1⟩, f0, f1⟩ := blankP_kept hb hl1 hbl
    have HB := Lib.hid (below_of HBA.out hb HBA.out.size)
    clear hb hbl z0 z1
    go_wp2
    try simp only [Exit.inBlock, Exit.then]
    refine bodyPost_ret_by (v := .tuple #[.agg #[.string ⟨#[]⟩, .slice none 0 0], .int .i64 6]) (by rw [results_cellP rfl]; go_simp) rfl ?_
    exact ⟨rfl, (HB.out.setCell (by show _ ≤ w.heap.size + 1; omega) _).setCell (by show _ ≤ w.heap.size + 1; omega) _⟩
set_option maxRecDepth 20000 in
set_option maxHeartbeats 2000000 in
theorem l07Done_any (s : ByteArray) (v : Value) (l : List Rg) (w : World) (h : RingsAt w v l) (hs : s.size ≤ maxLen) :
    Calls Try.prog 119 #[.agg #[.string s, v]] w fun e w' => e = .returned (.tuple #[.agg #[.string (resS s (resC s l)), if profB s l = true then v else .slice none 0 0], .int .i64 (resC s l)]) ∧ Below w.heap.size w w' := by
  have HI := Lib.hid h
  obtain ⟨a, c, rfl⟩ := rings_form h
  clear h
  generalize hn : l.length = n at *
  clear hn
  rcases Bool.eq_false_or_eq_true (profB s l) with hp | hp
  · have hC : resC s l = 0 := by unfold resC; rw [if_pos hp]
    have HP := Lib.hid hp
    rw [hC, if_pos hp, show resS s 0 = s from rfl]
    clear hp hC
    have hBA := ((Below.refl w.heap.size w).alloc (Nat.le_refl _) (.cells #[.string s, .slice a n c] 30)).alloc (by simp) (.cells #[.string ⟨#[]⟩, .slice none 0 0] 30)
    have z0 : ((w.alloc (.cells #[.string s, .slice a n c] 30)).alloc (.cells #[.string ⟨#[]⟩, .slice none 0 0] 30)).cell? ⟨w.heap.size, 0, none⟩ = some (.string s) := by go_simp
    have z1 : ((w.alloc (.cells #[.string s, .slice a n c] 30)).alloc (.cells #[.string ⟨#[]⟩, .slice none 0 0] 30)).cell? ⟨w.heap.size, 1, none⟩ = some (.slice a n c) := by go_simp
    have hbl : BlankP ((w.alloc (.cells #[.string s, .slice a n c] 30)).alloc (.cells #[.string ⟨#[]⟩, .slice none 0 0] 30)) (w.heap.size + 1) := ⟨⟨by go_simp, by go_simp⟩, by go_simp, by go_simp⟩
    have hl1 : w.heap.size + 1 < ((w.alloc (.cells #[.string s, .slice a n c] 30)).alloc (.cells #[.string ⟨#[]⟩, .slice none 0 0] 30)).heap.size := by simp
    have HBA := Lib.hid hBA
    have HIA := Lib.hid (rings_kept hBA HI.out)
    go_enter Try.func119, Try.ntmps119
    go_wp2_with fail
    clear hBA
    generalize ((w.alloc (.cells #[.string s, .slice a n c] 30)).alloc (.cells #[.string ⟨#[]⟩, .slice none 0 0] 30)) = wA at *
    refine (l05Ok_any _ s _ l _ ⟨z0, z1⟩ HIA.out hs).mono ?_
    rintro e w1 ⟨rfl, hb⟩
    rw [HP.out]
    have q0 := (below_cell hb _ _ (by omega)).trans z0
    have q1 := (below_cell hb _ _ (by omega)).trans z1
    obtain ⟨⟨b0, b1⟩, f0, f1⟩ := blankP_kept hb hl1 hbl
    have HB := Lib.hid (below_of HBA.out hb HBA.out.size)
    clear hb hbl z0 z1
    go_wp2
    try simp only [Exit.inBlock, Exit.then]
    refine bodyPost_ret_by (v := .tuple #[.agg #[.string s, .slice a n c], .int .i64 0]) (by rw [results_cellP rfl]; go_simp) rfl ?_
    exact ⟨rfl, (HB.out.setCell (by show _ ≤ w.heap.size + 1; omega) _).setCell (by show _ ≤ w.heap.size + 1; omega) _⟩
  · have hC : resC s l = 6 := by unfold resC; rw [hp]; rfl
    have HP := Lib.hid hp
    rw [hC, hp, show resS s 6 = ⟨#[]⟩ from rfl]
    clear hp hC
    have hBA := ((Below.refl w.heap.size w).alloc (Nat.le_refl _) (.cells #[.string s, .slice a n c] 30)).alloc (by simp) (.cells #[.string ⟨#[]⟩, .slice none 0 0] 30)
    have z0 : ((w.alloc (.cells #[.string s, .slice a n c] 30)).alloc (.cells #[.string ⟨#[]⟩, .slice none 0 0] 30)).cell? ⟨w.heap.size, 0, none⟩ = some (.string s) := by go_simp
    have z1 : ((w.alloc (.cells #[.string s, .slice a n c] 30)).alloc (.cells #[.string ⟨#[]⟩, .slice none 0 0] 30)).cell? ⟨w.heap.size, 1, none⟩ = some (.slice a n c) := by go_simp
    have hbl : BlankP ((w.alloc (.cells #[.string s, .slice a n c] 30)).alloc (.cells #[.string ⟨#[]⟩, .slice none 0 0] 30)) (w.heap.size + 1) := ⟨⟨by go_simp, by go_simp⟩, by go_simp, by go_simp⟩
    have hl1 : w.heap.size + 1 < ((w.alloc (.cells #[.string s, .slice a n c] 30)).alloc (.cells #[.string ⟨#[]⟩, .slice none 0 0] 30)).heap.size := by simp
    have HBA := Lib.hid hBA
    have HIA := Lib.hid (rings_kept hBA HI.out)
    go_enter Try.func119, Try.ntmps119
    go_wp2_with fail
    clear hBA
    generalize ((w.alloc (.cells #[.string s, .slice a n c] 30)).alloc (.cells #[.string ⟨#[]⟩, .slice none 0 0] 30)) = wA at *
    refine (l05Ok_any _ s _ l _ ⟨z0, z1⟩ HIA.out hs).mono ?_
    rintro e w1 ⟨rfl, hb⟩
    rw [HP.out]
    have q0 := (below_cell hb _ _ (by omega)).trans z0
    have q1 := (below_cell hb _ _ (by omega)).trans z1
    obtain ⟨⟨b0, b1⟩, f0, f1⟩ := blankP_kept hb hl1 hbl
    have HB := Lib.hid (below_of HBA.out hb HBA.out.size)
    clear hb hbl z0 z1
    go_wp2
    try simp only [Exit.inBlock, Exit.then]
    refine bodyPost_ret_by (v := .tuple #[.agg #[.string ⟨#[]⟩, .slice none 0 0], .int .i64 6]) (by rw [results_cellP rfl]; go_simp) rfl ?_
    exact ⟨rfl, (HB.out.setCell (by show _ ≤ w.heap.size + 1; omega) _).setCell (by show _ ≤ w.heap.size + 1; omega) _⟩
end Go.Proofs.Ytjdnjlakafcglaa
