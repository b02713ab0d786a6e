/- StandardModel: both functions whole. -/
import Derived.Test.YtpjopfhkgegahaaStdS
import Derived.Deep.RegionWith
set_option linter.unusedVariables false
namespace Go.Proofs.Ytpjopfhkgegahaa
open Go.ChangeShapes Go.WideShapes Go.ChangeAt Go.RowKit

def stZ (zs : List Int) : List Int := if zonesB zs = true then zs else []
def stL (zs : List Int) : List (List Int) := if zonesB zs = true then stWs zs.length 5 else []
def stB (zs : List Int) : List Int := if zonesB zs = true then thou 5 else []
def stC (zs : List Int) : Int := if zonesB zs = true then 0 else 1
theorem st_yes {zs : List Int} (h : zonesB zs = true) : stZ zs = zs ∧ stL zs = stWs zs.length 5 ∧ stB zs = thou 5 ∧ stC zs = 0 := by unfold stZ stL stB stC; rw [if_pos h, if_pos h, if_pos h, if_pos h]; exact ⟨rfl, rfl, rfl, rfl⟩
theorem st_no {zs : List Int} (h : zonesB zs = false) : stZ zs = [] ∧ stL zs = [] ∧ stB zs = [] ∧ stC zs = 1 := by unfold stZ stL stB stC; rw [h]; exact ⟨rfl, rfl, rfl, rfl⟩
theorem modOwn_fin {w w5 : World} {B B' r : Nat} {y0 y1 y2 : Value} {zs bs : List Int} {ws : List (List Int)} (h : ModOwn w B w.heap.size y0 y1 y2 zs ws bs) (hg : w.grownBy w5 (some r)) (hr : r < B) (hB : B' ≤ B) : ModOwn w5 B' w5.heap.size y0 y1 y2 zs ws bs := by
  have h2 := modOwn_blk h hg.size (fun k hk hl => hg.block k hl (fun e => by have := Option.some.inj e; omega))
  obtain ⟨hh, us, g, cap, e, q1, q2, q3, q4, q5⟩ := h2
  have hs := hg.size
  exact ⟨Nat.le_refl _, us, g, cap, e, by omega, by omega, row_baseQ q3 hB, rowsOwn_base q4 hB, fun j k hj hk => by have := q5 j k hj hk; omega⟩
set_option maxHeartbeats 1000000 in
theorem specStd_any (zs : List Int) (v : Value) (w : World) (h : IntsAt w v zs) :
    Calls Try.prog 5 #[v] w (ModU (stZ zs) (stL zs) (stB zs) (stC zs) w) := by
  have hba := below_al w (.cells #[.slice none 0 0, .slice none 0 0, .slice none 0 0] 25)
  have hbl := blankS_alloc w 25
  have hsa : (w.alloc (.cells #[.slice none 0 0, .slice none 0 0, .slice none 0 0] 25)).heap.size = w.heap.size + 1 := by simp
  have HZ := Lib.hid (l08Zones_any zs v _ (ints_kept hba h))
  have hia := ints_kept hba h
  rcases Bool.eq_false_or_eq_true (zonesB zs) with hz | hz
  · obtain ⟨e1, e2, e3, e4⟩ := st_yes hz
    rw [e1, e2, e3, e4]
    obtain ⟨z1, z8⟩ := zones_len hz
    have HSTD := Lib.hid (fun W (hW : Below (w.alloc (.cells #[.slice none 0 0, .slice none 0 0, .slice none 0 0] 25)).heap.size (w.alloc (.cells #[.slice none 0 0, .slice none 0 0, .slice none 0 0] 25)) W) => l08Standard_any zs v W (ints_kept hW hia) z1 z8)
    have HBLK := Lib.hid (fun W (hW : Below (w.alloc (.cells #[.slice none 0 0, .slice none 0 0, .slice none 0 0] 25)).heap.size (w.alloc (.cells #[.slice none 0 0, .slice none 0 0, .slice none 0 0] 25)) W) => blankS_kept (g := w.heap.size) hW (by rw [hsa]; omega) hbl)
    have HBA := Lib.hid hba
    rw [hz] at HZ
    have HSA := Lib.hid hsa
    clear hba hbl hsa e1 e2 e3 e4 h hia
    go_enter Try.func5, Try.ntmps5
    go_wp2_with fail
    generalize w.alloc (.cells #[.slice none 0 0, .slice none 0 0, .slice none 0 0] 25) = wA at *
    refine HZ.out.mono ?_
    rintro e w1 ⟨rfl, hb⟩
    have HB1 := Lib.hid hb
    clear hb
    go_wp2_with fail
    refine (HSTD.out w1 HB1.out).mono ?_
    rintro e w2 ⟨y0, y1, y2, rfl, hm, hb⟩
    obtain ⟨⟨a0, c0, rfl⟩, ⟨a1, c1, rfl⟩, a2, c2, rfl⟩ := modOwn_form hm
    have hs1 : w.heap.size + 1 ≤ w1.heap.size := by rw [← HSA.out]; exact HB1.out.size
    have HB2 := Lib.hid (below_of HB1.out hb HB1.out.size)
    obtain ⟨⟨r0, r1, r2⟩, f0, f1, f2⟩ := HBLK.out w2 HB2.out
    have HM := Lib.hid (fun (w5 : World) hg => modOwn_fin (w5 := w5) (r := w.heap.size) (B' := w.heap.size) hm hg (by omega) (by omega))
    have HBF := Lib.hid (below_of HBA.out HB2.out HBA.out.size)
    clear hm hb
    go_wp2
    try simp only [Exit.inBlock, Exit.then]
    refine bodyPost_ret_by (v := .tuple #[.agg #[.slice a0 zs.length c0, .slice a1 (stWs zs.length 5).length c1, .slice a2 (thou 5).length c2], .int .i64 0]) (by rw [results_cellM rfl]; go_simp) rfl ?_
    exact ⟨_, _, _, rfl, .inr (HM.out _ ((gb_setQ _ _ _ _).trans ((gb_setQ _ _ _ _).trans (gb_setQ _ _ _ _)))), ((HBF.out.setCell (by exact Nat.le_refl _) _).setCell (by exact Nat.le_refl _) _).setCell (by exact Nat.le_refl _) _⟩
  · obtain ⟨e1, e2, e3, e4⟩ := st_no hz
    rw [e1, e2, e3, e4]
    have HBLK := Lib.hid (fun W (hW : Below (w.alloc (.cells #[.slice none 0 0, .slice none 0 0, .slice none 0 0] 25)).heap.size (w.alloc (.cells #[.slice none 0 0, .slice none 0 0, .slice none 0 0] 25)) W) => blankS_kept (g := w.heap.size) hW (by rw [hsa]; omega) hbl)
    have HBA := Lib.hid hba
    rw [hz] at HZ
    have HSA := Lib.hid hsa
    clear hba hbl hsa e1 e2 e3 e4 h hia
    go_enter Try.func5, Try.ntmps5
    go_wp2_with fail
    generalize w.alloc (.cells #[.slice none 0 0, .slice none 0 0, .slice none 0 0] 25) = wA at *
    refine HZ.out.mono ?_
    rintro e w1 ⟨rfl, hb⟩
    obtain ⟨⟨r0, r1, r2⟩, f0, f1, f2⟩ := HBLK.out w1 hb
    have HBF := Lib.hid (below_of HBA.out hb HBA.out.size)
    clear hb
    go_wp2
    try simp only [Exit.inBlock, Exit.then]
    refine bodyPost_ret_by (v := .tuple #[.agg #[.slice none 0 0, .slice none 0 0, .slice none 0 0], .int .i64 1]) (by rw [results_cellM rfl]; go_simp) rfl ?_
    exact ⟨_, _, _, rfl, .inl ⟨rfl, rfl, rfl, rfl, rfl, rfl⟩, ((HBF.out.setCell (by exact Nat.le_refl _) _).setCell (by exact Nat.le_refl _) _).setCell (by exact Nat.le_refl _) _⟩
end Go.Proofs.Ytpjopfhkgegahaa
