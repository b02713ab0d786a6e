/- A profile with another name: both walks. -/
import Derived.Test.YtgnnpimfcbkloabOwnP
import Derived.Test.YtgnnpimfcbkloabRenW
import Derived.Test.YtgnnpimfcbkloabRingsI
import Derived.Test.YtgnnpimfcbkloabNameImplE
set_option linter.unusedVariables false
namespace Go.Proofs.Ytgnnpimfcbkloab
open Go.ChangeShapes Go.WideShapes Go.ChangeAt Go.RowKit

def renB (s : ByteArray) (rs : List Rg) (nm : ByteArray) : Bool := profB s rs && nameB nm
def renC (s : ByteArray) (rs : List Rg) (nm : ByteArray) : Int := if renB s rs nm = true then 0 else 1
theorem ren_prof {s : ByteArray} {rs : List Rg} {nm : ByteArray} (h : profB s rs = true) (h2 : nameB nm = true) : profB nm rs = true := by
  have := prof_iff.1 h
  exact prof_iff.2 ⟨h2, this.2⟩
set_option maxRecDepth 20000 in
set_option maxHeartbeats 2000000 in
theorem specRen_bad (s : ByteArray) (a : Option Addr) (n c : Nat) (rs : List Rg) (nm : ByteArray) (w : World) (hn : Hid (rs.length = n)) (HI : Hid (RingsAt w (.slice a n c) rs)) (hs : s.size ≤ maxLen) (hm : nm.size ≤ maxLen) (HP : Hid (profB s rs = false)) :
    Calls Try.prog 34 #[.agg #[.string s, .slice a n c], .string nm] w (ProfU ⟨#[]⟩ [] 1 w) := by
  have hBA := ((Below.refl w.heap.size w).alloc (Nat.le_refl _) (.cells #[.string s, .slice a n c] 31)).alloc (by simp) (.cells #[.string ⟨#[]⟩, .slice none 0 0] 31)
  have z0 : ((w.alloc (.cells #[.string s, .slice a n c] 31)).alloc (.cells #[.string ⟨#[]⟩, .slice none 0 0] 31)).cell? ⟨w.heap.size, 0, none⟩ = some (.string s) := by go_simp
  have z1 : ((w.alloc (.cells #[.string s, .slice a n c] 31)).alloc (.cells #[.string ⟨#[]⟩, .slice none 0 0] 31)).cell? ⟨w.heap.size, 1, none⟩ = some (.slice a n c) := by go_simp
  have zf : ((w.alloc (.cells #[.string s, .slice a n c] 31)).alloc (.cells #[.string ⟨#[]⟩, .slice none 0 0] 31)).frozen? ⟨w.heap.size, 0, none⟩ = false := by go_simp
  have hbl : BlankP ((w.alloc (.cells #[.string s, .slice a n c] 31)).alloc (.cells #[.string ⟨#[]⟩, .slice none 0 0] 31)) (w.heap.size + 1) := ⟨⟨by go_simp, by go_simp⟩, by go_simp, by go_simp⟩
  have hl1 : w.heap.size + 1 < ((w.alloc (.cells #[.string s, .slice a n c] 31)).alloc (.cells #[.string ⟨#[]⟩, .slice none 0 0] 31)).heap.size := by simp
  have HBA := Lib.hid hBA
  have HIA := Lib.hid (rings_kept hBA HI.out)
  go_enter Try.func34, Try.ntmps34
  go_wp2_with fail
  clear hBA
  generalize ((w.alloc (.cells #[.string s, .slice a n c] 31)).alloc (.cells #[.string ⟨#[]⟩, .slice none 0 0] 31)) = wA at *
  refine (l05Ok_any _ s _ rs _ ⟨z0, z1⟩ HIA.out hs).mono ?_
  rintro e w1 ⟨rfl, hb⟩
  rw [HP.out]
  have q0 := (below_cell hb _ _ (by omega)).trans z0
  have q1 := (below_cell hb _ _ (by omega)).trans z1
  have qf := (below_frozen hb w.heap.size 0 (by omega)).trans zf
  have HBL := Lib.hid (blankP_kept hb hl1 hbl)
  have hl2 := Nat.lt_of_lt_of_le hl1 hb.size
  have HI1 := Lib.hid (rings_kept hb HIA.out)
  have HB := Lib.hid (below_of HBA.out hb HBA.out.size)
  clear hb hbl z0 z1 zf
  obtain ⟨⟨b0, b1⟩, f0, f1⟩ := HBL.out
  go_wp2
  try simp only [Exit.inBlock, Exit.then]
  refine bodyPost_ret_by (v := .tuple #[.agg #[.string ⟨#[]⟩, .slice none 0 0], .int .i64 1]) (by rw [results_cellP rfl]; go_simp) rfl ?_
  refine ⟨_, rfl, .inl ⟨rfl, rfl⟩, ?_⟩
  exact (HB.out.setCell (by show _ ≤ w.heap.size + 1; omega) _).setCell (by show _ ≤ w.heap.size + 1; omega) _
set_option maxRecDepth 20000 in
set_option maxHeartbeats 2000000 in
theorem specRen_name (s : ByteArray) (a : Option Addr) (n c : Nat) (rs : List Rg) (nm : ByteArray) (w : World) (hn : Hid (rs.length = n)) (HI : Hid (RingsAt w (.slice a n c) rs)) (hs : s.size ≤ maxLen) (hm : nm.size ≤ maxLen) (HP : Hid (profB s rs = true)) (HM : Hid (nameB nm = false)) :
    Calls Try.prog 34 #[.agg #[.string s, .slice a n c], .string nm] w (ProfU ⟨#[]⟩ [] 1 w) := by
  have hBA := ((Below.refl w.heap.size w).alloc (Nat.le_refl _) (.cells #[.string s, .slice a n c] 31)).alloc (by simp) (.cells #[.string ⟨#[]⟩, .slice none 0 0] 31)
  have z0 : ((w.alloc (.cells #[.string s, .slice a n c] 31)).alloc (.cells #[.string ⟨#[]⟩, .slice none 0 0] 31)).cell? ⟨w.heap.size, 0, none⟩ = some (.string s) := by go_simp
  have z1 : ((w.alloc (.cells #[.string s, .slice a n c] 31)).alloc (.cells #[.string ⟨#[]⟩, .slice none 0 0] 31)).cell? ⟨w.heap.size, 1, none⟩ = some (.slice a n c) := by go_simp
  have zf : ((w.alloc (.cells #[.string s, .slice a n c] 31)).alloc (.cells #[.string ⟨#[]⟩, .slice none 0 0] 31)).frozen? ⟨w.heap.size, 0, none⟩ = false := by go_simp
  have hbl : BlankP ((w.alloc (.cells #[.string s, .slice a n c] 31)).alloc (.cells #[.string ⟨#[]⟩, .slice none 0 0] 31)) (w.heap.size + 1) := ⟨⟨by go_simp, by go_simp⟩, by go_simp, by go_simp⟩
  have hl1 : w.heap.size + 1 < ((w.alloc (.cells #[.string s, .slice a n c] 31)).alloc (.cells #[.string ⟨#[]⟩, .slice none 0 0] 31)).heap.size := by simp
  have HBA := Lib.hid hBA
  have HIA := Lib.hid (rings_kept hBA HI.out)
  go_enter Try.func34, Try.ntmps34
  go_wp2_with fail
  clear hBA
  generalize ((w.alloc (.cells #[.string s, .slice a n c] 31)).alloc (.cells #[.string ⟨#[]⟩, .slice none 0 0] 31)) = wA at *
  refine (l05Ok_any _ s _ rs _ ⟨z0, z1⟩ HIA.out hs).mono ?_
  rintro e w1 ⟨rfl, hb⟩
  rw [HP.out]
  have q0 := (below_cell hb _ _ (by omega)).trans z0
  have q1 := (below_cell hb _ _ (by omega)).trans z1
  have qf := (below_frozen hb w.heap.size 0 (by omega)).trans zf
  have HBL := Lib.hid (blankP_kept hb hl1 hbl)
  have hl2 := Nat.lt_of_lt_of_le hl1 hb.size
  have HI1 := Lib.hid (rings_kept hb HIA.out)
  have HB := Lib.hid (below_of HBA.out hb HBA.out.size)
  clear hb hbl z0 z1 zf
  go_wp2_with fail
  refine (specName_any nm _ hm).mono ?_
  rintro e w' ⟨rfl, rfl⟩
  rw [HM.out]
  obtain ⟨⟨b0, b1⟩, f0, f1⟩ := HBL.out
  go_wp2
  try simp only [Exit.inBlock, Exit.then]
  refine bodyPost_ret_by (v := .tuple #[.agg #[.string ⟨#[]⟩, .slice none 0 0], .int .i64 1]) (by rw [results_cellP rfl]; go_simp) rfl ?_
  refine ⟨_, rfl, .inl ⟨rfl, rfl⟩, ?_⟩
  exact (HB.out.setCell (by show _ ≤ w.heap.size + 1; omega) _).setCell (by show _ ≤ w.heap.size + 1; omega) _
set_option maxRecDepth 20000 in
set_option maxHeartbeats 2000000 in
theorem specRen_yes (s : ByteArray) (a : Option Addr) (n c : Nat) (rs : List Rg) (nm : ByteArray) (w : World) (hn : Hid (rs.length = n)) (h1 : 1 ≤ n) (h32 : n ≤ 32) (HI : Hid (RingsAt w (.slice a n c) rs)) (hs : s.size ≤ maxLen) (hm : nm.size ≤ maxLen) (HP : Hid (profB s rs = true)) (HM : Hid (nameB nm = true)) :
    Calls Try.prog 34 #[.agg #[.string s, .slice a n c], .string nm] w (ProfU nm rs 0 w) := by
  have hBA := ((Below.refl w.heap.size w).alloc (Nat.le_refl _) (.cells #[.string s, .slice a n c] 31)).alloc (by simp) (.cells #[.string ⟨#[]⟩, .slice none 0 0] 31)
  have z0 : ((w.alloc (.cells #[.string s, .slice a n c] 31)).alloc (.cells #[.string ⟨#[]⟩, .slice none 0 0] 31)).cell? ⟨w.heap.size, 0, none⟩ = some (.string s) := by go_simp
  have z1 : ((w.alloc (.cells #[.string s, .slice a n c] 31)).alloc (.cells #[.string ⟨#[]⟩, .slice none 0 0] 31)).cell? ⟨w.heap.size, 1, none⟩ = some (.slice a n c) := by go_simp
  have zf : ((w.alloc (.cells #[.string s, .slice a n c] 31)).alloc (.cells #[.string ⟨#[]⟩, .slice none 0 0] 31)).frozen? ⟨w.heap.size, 0, none⟩ = false := by go_simp
  have hbl : BlankP ((w.alloc (.cells #[.string s, .slice a n c] 31)).alloc (.cells #[.string ⟨#[]⟩, .slice none 0 0] 31)) (w.heap.size + 1) := ⟨⟨by go_simp, by go_simp⟩, by go_simp, by go_simp⟩
  have hl1 : w.heap.size + 1 < ((w.alloc (.cells #[.string s, .slice a n c] 31)).alloc (.cells #[.string ⟨#[]⟩, .slice none 0 0] 31)).heap.size := by simp
  have HBA := Lib.hid hBA
  have HIA := Lib.hid (rings_kept hBA HI.out)
  go_enter Try.func34, Try.ntmps34
  go_wp2_with fail
  clear hBA
  generalize ((w.alloc (.cells #[.string s, .slice a n c] 31)).alloc (.cells #[.string ⟨#[]⟩, .slice none 0 0] 31)) = wA at *
  refine (l05Ok_any _ s _ rs _ ⟨z0, z1⟩ HIA.out hs).mono ?_
  rintro e w1 ⟨rfl, hb⟩
  rw [HP.out]
  have q0 := (below_cell hb _ _ (by omega)).trans z0
  have q1 := (below_cell hb _ _ (by omega)).trans z1
  have qf := (below_frozen hb w.heap.size 0 (by omega)).trans zf
  have HBL := Lib.hid (blankP_kept hb hl1 hbl)
  have hl2 := Nat.lt_of_lt_of_le hl1 hb.size
  have HI1 := Lib.hid (rings_kept hb HIA.out)
  have HB := Lib.hid (below_of HBA.out hb HBA.out.size)
  clear hb hbl z0 z1 zf
  go_wp2_with fail
  refine (specName_any nm _ hm).mono ?_
  rintro e w' ⟨rfl, rfl⟩
  rw [HM.out]
  obtain ⟨b, off, rfl, hbl, hsrc⟩ := src_lie hn.out h1 HI1.out
  have HOW := Lib.hid (l05Own_any w.heap.size b off n c s rs _ hn.out h1 h32 (by omega) hbl ⟨q0, q1⟩ hsrc)
  clear hsrc
  go_wp2_with fail
  refine HOW.out.mono ?_
  rintro e w3 ⟨g, cap, rfl, hg, hown, hb⟩
  have HBL3 := Lib.hid (blankP_kept hb hl2 HBL.out)
  have hl3 := Nat.lt_of_lt_of_le hl2 hb.size
  have HB3 := Lib.hid (below_of HB.out hb HB.out.size)
  have hw1 : w.heap.size + 2 ≤ w1.heap.size := hl2
  have HO3 := Lib.hid hown
  have HGL := Lib.hid (hown.lt g rfl).2
  obtain ⟨⟨b0, b1⟩, f0, f1⟩ := HBL3.out
  clear hown hb q0 q1 qf
  go_wp2
  try simp only [Exit.inBlock, Exit.then]
  refine bodyPost_ret_by (v := .tuple #[.agg #[.string nm, .slice (some ⟨g, 0, none⟩) n cap], .int .i64 0]) (by rw [results_cellP rfl]; go_simp) rfl ?_
  refine ⟨_, rfl, ?_, ?_⟩
  · refine rv_kept (below_al _ _) (rv_own (ownR_set2 (zs := rs) ⟨g, cap, by rw [hn.out], by omega, HGL.out, by rw [hn.out]; exact row_baseR HO3.out (by omega)⟩ (w.heap.size + 1) _ _ (fun g' o n' c' e => by simp only [Value.slice.injEq, Option.some.injEq, Addr.mk.injEq] at e; omega)))
  · exact ((HB3.out.setCell (by show _ ≤ w.heap.size + 1; omega) _).setCell (by show _ ≤ w.heap.size + 1; omega) _).alloc (by simpa using HB3.out.size) _
set_option maxRecDepth 20000 in
set_option maxHeartbeats 2000000 in
theorem implRen_bad (s : ByteArray) (a : Option Addr) (n c : Nat) (rs : List Rg) (nm : ByteArray) (w : World) (hn : Hid (rs.length = n)) (HI : Hid (RingsAt w (.slice a n c) rs)) (hs : s.size ≤ maxLen) (hm : nm.size ≤ maxLen) (HP : Hid (profB s rs = false)) :
    Calls Try.prog 35 #[.agg #[.string s, .slice a n c], .string nm] w (ProfU ⟨#[]⟩ [] 1 w) := by
  have hBA := ((Below.refl w.heap.size w).alloc (Nat.le_refl _) (.cells #[.string s, .slice a n c] 31)).alloc (by simp) (.cells #[.string ⟨#[]⟩, .slice none 0 0] 31)
  have z0 : ((w.alloc (.cells #[.string s, .slice a n c] 31)).alloc (.cells #[.string ⟨#[]⟩, .slice none 0 0] 31)).cell? ⟨w.heap.size, 0, none⟩ = some (.string s) := by go_simp
  have z1 : ((w.alloc (.cells #[.string s, .slice a n c] 31)).alloc (.cells #[.string ⟨#[]⟩, .slice none 0 0] 31)).cell? ⟨w.heap.size, 1, none⟩ = some (.slice a n c) := by go_simp
  have zf : ((w.alloc (.cells #[.string s, .slice a n c] 31)).alloc (.cells #[.string ⟨#[]⟩, .slice none 0 0] 31)).frozen? ⟨w.heap.size, 0, none⟩ = false := by go_simp
  have hbl : BlankP ((w.alloc (.cells #[.string s, .slice a n c] 31)).alloc (.cells #[.string ⟨#[]⟩, .slice none 0 0] 31)) (w.heap.size + 1) := ⟨⟨by go_simp, by go_simp⟩, by go_simp, by go_simp⟩
  have hl1 : w.heap.size + 1 < ((w.alloc (.cells #[.string s, .slice a n c] 31)).alloc (.cells #[.string ⟨#[]⟩, .slice none 0 0] 31)).heap.size := by simp
  have HBA := Lib.hid hBA
  have HIA := Lib.hid (rings_kept hBA HI.out)
  go_enter Try.func35, Try.ntmps35
  go_wp2_with fail
  clear hBA
  generalize ((w.alloc (.cells #[.string s, .slice a n c] 31)).alloc (.cells #[.string ⟨#[]⟩, .slice none 0 0] 31)) = wA at *
  refine (implValidP_any s _ rs _ HIA.out hs).mono ?_
  rintro e w1 ⟨rfl, hb⟩
  rw [HP.out]
  have q0 := (below_cell hb _ _ (by omega)).trans z0
  have q1 := (below_cell hb _ _ (by omega)).trans z1
  have qf := (below_frozen hb w.heap.size 0 (by omega)).trans zf
  have HBL := Lib.hid (blankP_kept hb hl1 hbl)
  have hl2 := Nat.lt_of_lt_of_le hl1 hb.size
  have HI1 := Lib.hid (rings_kept hb HIA.out)
  have HB := Lib.hid (below_of HBA.out hb HBA.out.size)
  clear hb hbl z0 z1 zf
  obtain ⟨⟨b0, b1⟩, f0, f1⟩ := HBL.out
  go_wp2
  try simp only [Exit.inBlock, Exit.then]
  refine bodyPost_ret_by (v := .tuple #[.agg #[.string ⟨#[]⟩, .slice none 0 0], .int .i64 1]) (by rw [results_cellP rfl]; go_simp) rfl ?_
  refine ⟨_, rfl, .inl ⟨rfl, rfl⟩, ?_⟩
  exact (HB.out.setCell (by show _ ≤ w.heap.size + 1; omega) _).setCell (by show _ ≤ w.heap.size + 1; omega) _
set_option maxRecDepth 20000 in
set_option maxHeartbeats 2000000 in
theorem implRen_name (s : ByteArray) (a : Option Addr) (n c : Nat) (rs : List Rg) (nm : ByteArray) (w : World) (hn : Hid (rs.length = n)) (HI : Hid (RingsAt w (.slice a n c) rs)) (hs : s.size ≤ maxLen) (hm : nm.size ≤ maxLen) (HP : Hid (profB s rs = true)) (HM : Hid (nameB nm = false)) :
    Calls Try.prog 35 #[.agg #[.string s, .slice a n c], .string nm] w (ProfU ⟨#[]⟩ [] 1 w) := by
  have hBA := ((Below.refl w.heap.size w).alloc (Nat.le_refl _) (.cells #[.string s, .slice a n c] 31)).alloc (by simp) (.cells #[.string ⟨#[]⟩, .slice none 0 0] 31)
  have z0 : ((w.alloc (.cells #[.string s, .slice a n c] 31)).alloc (.cells #[.string ⟨#[]⟩, .slice none 0 0] 31)).cell? ⟨w.heap.size, 0, none⟩ = some (.string s) := by go_simp
  have z1 : ((w.alloc (.cells #[.string s, .slice a n c] 31)).alloc (.cells #[.string ⟨#[]⟩, .slice none 0 0] 31)).cell? ⟨w.heap.size, 1, none⟩ = some (.slice a n c) := by go_simp
  have zf : ((w.alloc (.cells #[.string s, .slice a n c] 31)).alloc (.cells #[.string ⟨#[]⟩, .slice none 0 0] 31)).frozen? ⟨w.heap.size, 0, none⟩ = false := by go_simp
  have hbl : BlankP ((w.alloc (.cells #[.string s, .slice a n c] 31)).alloc (.cells #[.string ⟨#[]⟩, .slice none 0 0] 31)) (w.heap.size + 1) := ⟨⟨by go_simp, by go_simp⟩, by go_simp, by go_simp⟩
  have hl1 : w.heap.size + 1 < ((w.alloc (.cells #[.string s, .slice a n c] 31)).alloc (.cells #[.string ⟨#[]⟩, .slice none 0 0] 31)).heap.size := by simp
  have HBA := Lib.hid hBA
  have HIA := Lib.hid (rings_kept hBA HI.out)
  go_enter Try.func35, Try.ntmps35
  go_wp2_with fail
  clear hBA
  generalize ((w.alloc (.cells #[.string s, .slice a n c] 31)).alloc (.cells #[.string ⟨#[]⟩, .slice none 0 0] 31)) = wA at *
  refine (implValidP_any s _ rs _ HIA.out hs).mono ?_
  rintro e w1 ⟨rfl, hb⟩
  rw [HP.out]
  have q0 := (below_cell hb _ _ (by omega)).trans z0
  have q1 := (below_cell hb _ _ (by omega)).trans z1
  have qf := (below_frozen hb w.heap.size 0 (by omega)).trans zf
  have HBL := Lib.hid (blankP_kept hb hl1 hbl)
  have hl2 := Nat.lt_of_lt_of_le hl1 hb.size
  have HI1 := Lib.hid (rings_kept hb HIA.out)
  have HB := Lib.hid (below_of HBA.out hb HBA.out.size)
  clear hb hbl z0 z1 zf
  go_wp2_with fail
  refine (implIsName_any nm _ hm).mono ?_
  rintro e w2 ⟨rfl, hb⟩
  rw [HM.out]
  have HBL := Lib.hid (blankP_kept hb hl2 HBL.out)
  have HB := Lib.hid (below_of HB.out hb HB.out.size)
  have r0 := (below_cell hb _ _ (show w.heap.size < _ by omega)).trans q0
  have r1 := (below_cell hb _ _ (show w.heap.size < _ by omega)).trans q1
  have rf := (below_frozen hb w.heap.size 0 (by omega)).trans qf
  have hl3 := Nat.lt_of_lt_of_le hl2 hb.size
  have HI2 := Lib.hid (rings_kept hb HI1.out)
  clear hb q0 q1 qf
  obtain ⟨⟨b0, b1⟩, f0, f1⟩ := HBL.out
  go_wp2
  try simp only [Exit.inBlock, Exit.then]
  refine bodyPost_ret_by (v := .tuple #[.agg #[.string ⟨#[]⟩, .slice none 0 0], .int .i64 1]) (by rw [results_cellP rfl]; go_simp) rfl ?_
  refine ⟨_, rfl, .inl ⟨rfl, rfl⟩, ?_⟩
  exact (HB.out.setCell (by show _ ≤ w.heap.size + 1; omega) _).setCell (by show _ ≤ w.heap.size + 1; omega) _
set_option maxRecDepth 20000 in
set_option maxHeartbeats 4000000 in
theorem implRen_yes (s : ByteArray) (a : Option Addr) (n c : Nat) (rs : List Rg) (nm : ByteArray) (w : World) (hn : Hid (rs.length = n)) (h1 : 1 ≤ n) (h32 : n ≤ 32) (HI : Hid (RingsAt w (.slice a n c) rs)) (hs : s.size ≤ maxLen) (hm : nm.size ≤ maxLen) (HP : Hid (profB s rs = true)) (HM : Hid (nameB nm = true)) :
    Calls Try.prog 35 #[.agg #[.string s, .slice a n c], .string nm] w (ProfU nm rs 0 w) := by
  have HQ := Lib.hid (ren_prof HP.out HM.out)
  have hBA := ((Below.refl w.heap.size w).alloc (Nat.le_refl _) (.cells #[.string s, .slice a n c] 31)).alloc (by simp) (.cells #[.string ⟨#[]⟩, .slice none 0 0] 31)
  have z0 : ((w.alloc (.cells #[.string s, .slice a n c] 31)).alloc (.cells #[.string ⟨#[]⟩, .slice none 0 0] 31)).cell? ⟨w.heap.size, 0, none⟩ = some (.string s) := by go_simp
  have z1 : ((w.alloc (.cells #[.string s, .slice a n c] 31)).alloc (.cells #[.string ⟨#[]⟩, .slice none 0 0] 31)).cell? ⟨w.heap.size, 1, none⟩ = some (.slice a n c) := by go_simp
  have zf : ((w.alloc (.cells #[.string s, .slice a n c] 31)).alloc (.cells #[.string ⟨#[]⟩, .slice none 0 0] 31)).frozen? ⟨w.heap.size, 0, none⟩ = false := by go_simp
  have hbl : BlankP ((w.alloc (.cells #[.string s, .slice a n c] 31)).alloc (.cells #[.string ⟨#[]⟩, .slice none 0 0] 31)) (w.heap.size + 1) := ⟨⟨by go_simp, by go_simp⟩, by go_simp, by go_simp⟩
  have hl1 : w.heap.size + 1 < ((w.alloc (.cells #[.string s, .slice a n c] 31)).alloc (.cells #[.string ⟨#[]⟩, .slice none 0 0] 31)).heap.size := by simp
  have HBA := Lib.hid hBA
  have HIA := Lib.hid (rings_kept hBA HI.out)
  go_enter Try.func35, Try.ntmps35
  go_wp2_with fail
  clear hBA
  generalize ((w.alloc (.cells #[.string s, .slice a n c] 31)).alloc (.cells #[.string ⟨#[]⟩, .slice none 0 0] 31)) = wA at *
  refine (implValidP_any s _ rs _ HIA.out hs).mono ?_
  rintro e w1 ⟨rfl, hb⟩
  rw [HP.out]
  have q0 := (below_cell hb _ _ (by omega)).trans z0
  have q1 := (below_cell hb _ _ (by omega)).trans z1
  have qf := (below_frozen hb w.heap.size 0 (by omega)).trans zf
  have HBL := Lib.hid (blankP_kept hb hl1 hbl)
  have hl2 := Nat.lt_of_lt_of_le hl1 hb.size
  have HI1 := Lib.hid (rings_kept hb HIA.out)
  have HB := Lib.hid (below_of HBA.out hb HBA.out.size)
  clear hb hbl z0 z1 zf
  go_wp2_with fail
  refine (implIsName_any nm _ hm).mono ?_
  rintro e w2 ⟨rfl, hb⟩
  rw [HM.out]
  have HBL := Lib.hid (blankP_kept hb hl2 HBL.out)
  have HB := Lib.hid (below_of HB.out hb HB.out.size)
  have r0 := (below_cell hb _ _ (show w.heap.size < _ by omega)).trans q0
  have r1 := (below_cell hb _ _ (show w.heap.size < _ by omega)).trans q1
  have rf := (below_frozen hb w.heap.size 0 (by omega)).trans qf
  have hl3 := Nat.lt_of_lt_of_le hl2 hb.size
  have HI2 := Lib.hid (rings_kept hb HI1.out)
  clear hb q0 q1 qf
  have hst : Below w.heap.size w2 (w2.setCell ⟨w.heap.size, 0, none⟩ (.string nm)) := (Below.refl _ w2).setCell (by show _ ≤ w.heap.size; omega) _
  have t0 : (w2.setCell ⟨w.heap.size, 0, none⟩ (.string nm)).cell? ⟨w.heap.size, 0, none⟩ = some (.string nm) := World.cell?_setCell_same' _ _ _ (by rw [r0]; rfl)
  have t1 : (w2.setCell ⟨w.heap.size, 0, none⟩ (.string nm)).cell? ⟨w.heap.size, 1, none⟩ = some (.slice a n c) := (World.cell?_setCell_other w2 _ _ _ (by simp)).trans r1
  have HBLs := Lib.hid (blankP_gb (gb_set 0 (.string nm) (gb_refl w2 (some w.heap.size))) hl3 (by simp) HBL.out)
  have HBs := Lib.hid (HB.out.trans hst)
  have HI3 := Lib.hid (rings_set HI2.out w.heap.size (.string nm) (rings_far HI.out hn.out h1))
  go_wp2
  have hl4 : w.heap.size + 1 < (w2.setCell ⟨w.heap.size, 0, none⟩ (.string nm)).heap.size := by simpa using hl3
  clear hst r0 r1 rf
  generalize w2.setCell ⟨w.heap.size, 0, none⟩ (.string nm) = wB at *
  have hp01 : w.heap.size < wB.heap.size := by omega
  go_region_held3 (fun w' => w'.cell? ⟨w.heap.size, 0, none⟩ = some (.string nm) ∧ w'.cell? ⟨w.heap.size, 1, none⟩ = some (.slice a n c))
    (first | exact ⟨t0, t1⟩ | exact k2_below (by assumption) hz5 hb5 | exact k2_below (by assumption) hz7 hb7 | exact k2_set2 (by assumption) (by omega))
    (first
      | (go_at_call 86; refine (ringsCopy_any nm _ rs wB.drew HI3.out (by rw [hn.out]; exact h1) (by rw [hn.out]; exact h32) n hn).mono ?_; rintro e w5 ⟨g, rfl, hg0, hrow, hb5⟩; have hz5 : w.heap.size < wB.drew.heap.size := hp01; have hz7 : w.heap.size < w5.heap.size := Nat.lt_of_lt_of_le hp01 hb5.size; have hg0' : wB.heap.size ≤ g := hg0; have HRR := Lib.hid (rings_of_row (cap := n + 1) hrow (copy_take hn.out) hn.out (by omega)))
      | (go_at_call 75; refine (withRings_any nm a n c _ rs w5 HRR.out hm).mono ?_; rintro e w7 ⟨rfl, hb7⟩; rw [HQ.out, show resC nm rs = 0 from by unfold resC; rw [HQ.out]; rfl, show resS nm 0 = nm from rfl]; skip; obtain ⟨⟨b0, b1⟩, f0, f1⟩ := blankP_kept hb7 (Nat.lt_of_lt_of_le hl4 hb5.size) (blankP_kept (w := wB.drew) hb5 hl4 HBLs.out)))
  have HBF := Lib.hid (below_of HBs.out (show Below wB.heap.size wB w7 from (show Below wB.heap.size wB w5 from ⟨hb5.os, hb5.tape, hb5.output, hb5.size, hb5.block⟩).trans (hb7.mono hb5.size)) HBs.out.size)
  have HGB := Lib.hid (show w.heap.size + 1 < g by omega)
  have HOWN := Lib.hid (show OwnRings w7 w.heap.size (.slice (some ⟨g, 0, none⟩) n (n + 1)) rs from by
    refine ⟨g, n + 1, by rw [hn.out], by have := HBs.out.size; omega, Nat.lt_of_lt_of_le (rowAt_lt hrow) hb7.size, ?_⟩
    rw [hn.out]
    exact row_keepR hb7 (rowAt_own hrow (copy_len hn.out) (copy_take hn.out) (by omega) (by unfold maxLen; omega) (by have := HBs.out.size; omega)))
  clear hb5 hb7 hrow
  go_wp2
  try simp only [Exit.inBlock, Exit.then]
  refine bodyPost_ret_by (v := .tuple #[.agg #[.string nm, .slice (some ⟨g, 0, none⟩) n (n + 1)], .int .i64 0]) (by rw [results_cellP rfl]; go_simp) rfl ?_
  refine ⟨_, rfl, ?_, ?_⟩
  · exact rv_own (ownR_set2 HOWN.out (w.heap.size + 1) _ _ (fun g' o n' c' e => by simp only [Value.slice.injEq, Option.some.injEq, Addr.mk.injEq] at e; have := HGB.out; omega))
  · exact (HBF.out.setCell (by show _ ≤ w.heap.size + 1; omega) _).setCell (by show _ ≤ w.heap.size + 1; omega) _
theorem specRen_any (s nm : ByteArray) (v : Value) (rs : List Rg) (w : World) (h : RingsAt w v rs) (hs : s.size ≤ maxLen) (hm : nm.size ≤ maxLen) :
    Calls Try.prog 34 #[.agg #[.string s, v], .string nm] w (ProfU (resS nm (renC s rs nm)) (resL rs (renC s rs nm)) (renC s rs nm) w) := by
  have HI := Lib.hid h
  obtain ⟨a, c, rfl⟩ := rings_form h
  rcases Bool.eq_false_or_eq_true (profB s rs) with hp | hp
  · obtain ⟨-, ⟨n1, n2⟩, -, -⟩ := prof_iff.1 hp
    rcases Bool.eq_false_or_eq_true (nameB nm) with hq | hq
    · rw [show renC s rs nm = 0 from by unfold renC renB; rw [hp, hq]; rfl]
      exact specRen_yes s a rs.length c rs nm w (Lib.hid rfl) n1 n2 HI hs hm (Lib.hid hp) (Lib.hid hq)
    · rw [show renC s rs nm = 1 from by unfold renC renB; rw [hp, hq]; rfl]
      exact specRen_name s a rs.length c rs nm w (Lib.hid rfl) HI hs hm (Lib.hid hp) (Lib.hid hq)
  · rw [show renC s rs nm = 1 from by unfold renC renB; rw [hp]; rfl]
    exact specRen_bad s a rs.length c rs nm w (Lib.hid rfl) HI hs hm (Lib.hid hp)
theorem implRen_any (s nm : ByteArray) (v : Value) (rs : List Rg) (w : World) (h : RingsAt w v rs) (hs : s.size ≤ maxLen) (hm : nm.size ≤ maxLen) :
    Calls Try.prog 35 #[.agg #[.string s, v], .string nm] w (ProfU (resS nm (renC s rs nm)) (resL rs (renC s rs nm)) (renC s rs nm) w) := by
  have HI := Lib.hid h
  obtain ⟨a, c, rfl⟩ := rings_form h
  rcases Bool.eq_false_or_eq_true (profB s rs) with hp | hp
  · obtain ⟨-, ⟨n1, n2⟩, -, -⟩ := prof_iff.1 hp
    rcases Bool.eq_false_or_eq_true (nameB nm) with hq | hq
    · rw [show renC s rs nm = 0 from by unfold renC renB; rw [hp, hq]; rfl]
      exact implRen_yes s a rs.length c rs nm w (Lib.hid rfl) n1 n2 HI hs hm (Lib.hid hp) (Lib.hid hq)
    · rw [show renC s rs nm = 1 from by unfold renC renB; rw [hp, hq]; rfl]
      exact implRen_name s a rs.length c rs nm w (Lib.hid rfl) HI hs hm (Lib.hid hp) (Lib.hid hq)
  · rw [show renC s rs nm = 1 from by unfold renC renB; rw [hp]; rfl]
    exact implRen_bad s a rs.length c rs nm w (Lib.hid rfl) HI hs hm (Lib.hid hp)
theorem ren_len (s : ByteArray) (rs : List Rg) (nm : ByteArray) : (resL rs (renC s rs nm)).length ≤ 64 := by
  by_cases h : renB s rs nm = true
  · unfold renB at h
    rw [Bool.and_eq_true] at h
    have h2 := (prof_iff.1 h.1).2.1.2
    unfold resL
    split
    · omega
    · simp
  · have hc : renC s rs nm = 1 := by unfold renC; rw [if_neg h]
    rw [hc]
    simp [resL]
end Go.Proofs.Ytgnnpimfcbkloab
