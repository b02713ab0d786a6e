/- Zones of a profile: whether they are, both programs' answers. -/
import Derived.Test.YtjdnjlakafcglaaZone
set_option linter.unusedVariables false
namespace Go.Proofs.Ytjdnjlakafcglaa
open Go.ChangeShapes Go.WideShapes Go.ChangeAt Go.RowKit

def lathB (s : ByteArray) (rs : List Rg) (zs : List Int) : Bool := profB s rs && fitB rs.length zs
theorem lath_iff {s : ByteArray} {rs : List Rg} {zs : List Int} : lathB s rs zs = true ↔ profB s rs = true ∧ fitB rs.length zs = true := by unfold lathB; rw [Bool.and_eq_true]
theorem lath_zw {s : ByteArray} {rs : List Rg} {zs : List Int} : (lathB s rs zs = true ∧ zwC s rs zs = 0) ∨ (lathB s rs zs = false ∧ (zwC s rs zs = 1 ∨ zwC s rs zs = 2)) := by
  unfold lathB zwC
  rcases Bool.eq_false_or_eq_true (profB s rs) with h | h <;> rcases Bool.eq_false_or_eq_true (fitB rs.length zs) with h2 | h2 <;> simp [h, h2]
theorem zb_yes {s : ByteArray} {v vz : Value} {rs : List Rg} {zs : List Int} (h : lathB s rs zs = true) : zbV s v vz rs zs = .agg #[.string s, v, vz] := zb_0 (lath_iff.1 h).1 (lath_iff.1 h).2
theorem zb_not {s : ByteArray} {v vz : Value} {rs : List Rg} {zs : List Int} (h : lathB s rs zs = false) : zbV s v vz rs zs = .agg #[.string ⟨#[]⟩, .slice none 0 0, .slice none 0 0] := zb_1 (fun h2 => by rw [lath_iff.2 h2] at h; cases h)
set_option maxRecDepth 20000 in
set_option maxHeartbeats 2000000 in
theorem specVZ_any (s : ByteArray) (v vz : Value) (rs : List Rg) (zs : List Int) (w : World) (h : RingsAt w v rs) (hs : s.size ≤ maxLen) (hz : IntsAt w vz zs) :
    Calls Try.prog 16 #[.agg #[.string s, v], vz] w fun e w' => e = .returned (.bool (lathB s rs zs)) ∧ Below w.heap.size w w' := by
  have hal := alloc_lt2 w (.cells #[.string s, v] 30)
  have hpa := prof_alloc w s v 30
  have hba := below_al w (.cells #[.string s, v] 30)
  have HZO := Lib.hid (l09Zones_any w.heap.size s v vz rs zs _ hal hpa (rings_kept hba h) hs (ints_kept hba hz))
  have HBA := Lib.hid hba
  have HR := Lib.hid (show (profB s rs && fitB rs.length zs) = lathB s rs zs from rfl)
  clear hpa hba h hz hal
  generalize lathB s rs zs = r at *
  rw [HR.out] at HZO
  clear HR
  go_enter Try.func16, Try.ntmps16
  go_wp2_with fail
  refine HZO.out.mono ?_
  rintro e w1 ⟨rfl, hb⟩
  have HB := Lib.hid (below_of HBA.out hb HBA.out.size)
  clear hb
  go_wp2
  go_ret
  exact ⟨rfl, HB.out⟩
theorem ret_zt {v : Value} {a b : Bool} (h : a = b) : Ending.returned (.tuple #[v, .bool a]) = .returned (.tuple #[v, .bool b]) := by rw [h]
theorem blank3 (w : World) (T : TypeId) : ((w.alloc (.cells #[.string ⟨#[]⟩, .slice none 0 0, .slice none 0 0] T)).frozen? ⟨w.heap.size, 0, none⟩ = false ∧ (w.alloc (.cells #[.string ⟨#[]⟩, .slice none 0 0, .slice none 0 0] T)).frozen? ⟨w.heap.size, 1, none⟩ = false ∧ (w.alloc (.cells #[.string ⟨#[]⟩, .slice none 0 0, .slice none 0 0] T)).frozen? ⟨w.heap.size, 2, none⟩ = false) ∧ (w.alloc (.cells #[.string ⟨#[]⟩, .slice none 0 0, .slice none 0 0] T)).cell? ⟨w.heap.size, 0, none⟩ = some (.string ⟨#[]⟩) ∧ (w.alloc (.cells #[.string ⟨#[]⟩, .slice none 0 0, .slice none 0 0] T)).cell? ⟨w.heap.size, 1, none⟩ = some (.slice none 0 0) ∧ (w.alloc (.cells #[.string ⟨#[]⟩, .slice none 0 0, .slice none 0 0] T)).cell? ⟨w.heap.size, 2, none⟩ = some (.slice none 0 0) := ⟨⟨by go_simp, by go_simp, by go_simp⟩, by go_simp, by go_simp, by go_simp⟩
set_option maxRecDepth 20000 in
set_option maxHeartbeats 4000000 in
theorem onLathe_any (s : ByteArray) (v vz : Value) (rs : List Rg) (zs : List Int) (w : World) (h : RingsAt w v rs) (hs : s.size ≤ maxLen) (hz : IntsAt w vz zs) :
    Calls Try.prog 61 #[.agg #[.string s, v], vz] w fun e w' => e = .returned (.tuple #[zbV s v vz rs zs, .bool (lathB s rs zs)]) ∧ Below w.heap.size w w' := by
  have hba := (below_al w (.cells #[.string s, v] 30)).alloc (by simp) (.cells #[.string ⟨#[]⟩, .slice none 0 0, .slice none 0 0] 84)
  have HZB := Lib.hid (zonedBy_any s v vz rs zs _ (rings_kept hba h) hs (ints_kept hba hz))
  obtain ⟨⟨g0, g1, g2⟩, k0, k1, k2⟩ := blank3 (w.alloc (.cells #[.string s, v] 30)) 84
  rw [World.size_alloc] at g0 g1 g2 k0 k1 k2
  have hsz : w.heap.size + 1 < ((w.alloc (.cells #[.string s, v] 30)).alloc (.cells #[.string ⟨#[]⟩, .slice none 0 0, .slice none 0 0] 84)).heap.size := by simp
  obtain ⟨a, c, hvf⟩ := rings_form h
  obtain ⟨az, cz, hzf⟩ := ints_form hz
  have HBA := Lib.hid hba
  clear h hz hba
  obtain ⟨zv, hzv⟩ : ∃ zv, zbV s v vz rs zs = zv := ⟨_, rfl⟩
  obtain ⟨x0, x1, x2, hx⟩ : ∃ x0 x1 x2, zv = .agg #[.string x0, x1, x2] ∧ (∃ a n c, x1 = .slice a n c) ∧ ∃ a n c, x2 = .slice a n c := by
    subst hzv
    unfold zbV
    split
    · exact ⟨_, _, _, rfl, ⟨_, _, _, hvf⟩, _, _, _, hzf⟩
    · exact ⟨_, _, _, rfl, ⟨_, _, _, rfl⟩, _, _, _, rfl⟩
  obtain ⟨rfl, ⟨e1, e2, e3, rfl⟩, e4, e5, e6, rfl⟩ := hx
  have HL := Lib.hid (lath_zw (s := s) (rs := rs) (zs := zs))
  rw [hzv] at HZB ⊢
  clear hzv hvf hzf
  generalize lathB s rs zs = r at *
  generalize zwC s rs zs = q at *
  have hq : (q == 0) = r := by
    rcases HL.out with ⟨h1, h2⟩ | ⟨h1, h2 | h2⟩ <;> rw [h1, h2] <;> rfl
  have HQ := Lib.hid hq
  clear HL hq
  go_enter Try.func61, Try.ntmps61
  go_wp2_with fail
  generalize ((w.alloc (.cells #[.string s, v] 30)).alloc (.cells #[.string ⟨#[]⟩, .slice none 0 0, .slice none 0 0] 84)) = wA at *
  refine HZB.out.mono ?_
  rintro e w1 ⟨rfl, hb⟩
  have q0 := (below_cell hb _ _ hsz).trans k0
  have q1 := (below_cell hb _ _ hsz).trans k1
  have q2 := (below_cell hb _ _ hsz).trans k2
  have f0 := (below_frozen hb _ _ hsz).trans g0
  have f1 := (below_frozen hb _ _ hsz).trans g1
  have f2 := (below_frozen hb _ _ hsz).trans g2
  have hs1 : w.heap.size + 1 < w1.heap.size := Nat.lt_of_lt_of_le hsz hb.size
  have HB := Lib.hid (below_of HBA.out hb HBA.out.size)
  clear hb g0 g1 g2 k0 k1 k2 hsz
  go_wp2
  try simp only [Exit.inBlock, Exit.then]
  refine bodyPost_ret_by (v := .tuple #[.agg #[.string x0, .slice e1 e2 e3, .slice e4 e5 e6], .bool (q == 0)]) (by rw [results_cell_tmp rfl]; go_simp) rfl ?_
  exact ⟨ret_zt HQ.out, (((HB.out.setCell (p := ⟨w.heap.size + 1, 0, none⟩) (by simp) _).setCell (p := ⟨w.heap.size + 1, 1, none⟩) (by simp) _).setCell (p := ⟨w.heap.size + 1, 2, none⟩) (by simp) _).alloc (by simpa using HB.out.size) _⟩
set_option maxRecDepth 20000 in
set_option maxHeartbeats 2000000 in
theorem implVZ_any (s : ByteArray) (v vz : Value) (rs : List Rg) (zs : List Int) (w : World) (h : RingsAt w v rs) (hs : s.size ≤ maxLen) (hz : IntsAt w vz zs) :
    Calls Try.prog 19 #[.agg #[.string s, v], vz] w fun e w' => e = .returned (.bool (lathB s rs zs)) ∧ Below w.heap.size w w' := by
  have hba := below_al w (.cells #[.string s, v] 30)
  have HZB := Lib.hid (onLathe_any s v vz rs zs _ (rings_kept hba h) hs (ints_kept hba hz))
  have HBA := Lib.hid hba
  obtain ⟨a, c, hvf⟩ := rings_form h
  obtain ⟨az, cz, hzf⟩ := ints_form hz
  clear h hz hba
  obtain ⟨x0, x1, x2, hx, ⟨e1, e2, e3, rfl⟩, e4, e5, e6, rfl⟩ : ∃ x0 x1 x2, zbV s v vz rs zs = .agg #[.string x0, x1, x2] ∧ (∃ a n c, x1 = .slice a n c) ∧ ∃ a n c, x2 = .slice a n c := by
    unfold zbV
    split
    · exact ⟨_, _, _, rfl, ⟨_, _, _, hvf⟩, _, _, _, hzf⟩
    · exact ⟨_, _, _, rfl, ⟨_, _, _, rfl⟩, _, _, _, rfl⟩
  rw [hx] at HZB
  clear hx hvf hzf
  generalize lathB s rs zs = r at *
  go_enter Try.func19, Try.ntmps19
  go_wp2_with fail
  refine HZB.out.mono ?_
  rintro e w1 ⟨rfl, hb⟩
  have HB := Lib.hid (below_of HBA.out hb HBA.out.size)
  clear hb
  go_wp2
  go_ret
  exact ⟨rfl, HB.out.alloc HB.out.size _⟩
end Go.Proofs.Ytjdnjlakafcglaa
