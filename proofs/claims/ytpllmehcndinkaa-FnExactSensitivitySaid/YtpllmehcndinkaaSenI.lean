/- Sensitivity: a bell turned, and the program's answer. -/
import Derived.Test.YtpllmehcndinkaaSenSpec
import Derived.Test.YtpllmehcndinkaaModPart
import Derived.Test.YtpllmehcndinkaaModErr
import Derived.Test.YtpllmehcndinkaaApImpl
import Derived.Test.YtpllmehcndinkaaSenS
import Derived.Test.YtpllmehcndinkaaSndPart
set_option linter.unusedVariables false
namespace Go.Proofs.Ytpllmehcndinkaa
open Go.ChangeShapes Go.WideShapes Go.ChangeAt Go.RowKit Go.Maps

theorem rv_setLt {w : World} {B b : Nat} {v : Value} {zs : List Rg} (h : Rv w B v zs) (hb : b < B) (o : Nat) (x : Value) : Rv (w.setCell ⟨b, o, none⟩ x) B v zs :=
  rv_grown (gb_set o x (gb_refl w (some b))) h (by
    cases hv : v.ownBlock with
    | none => exact .inl rfl
    | some k => exact .inr fun e => by have := rv_in h k hv; simp only [Option.some.injEq] at e; omega)
set_option maxRecDepth 20000 in
set_option maxHeartbeats 4000000 in
theorem turnedM_ok (s : ByteArray) (av a0 a1 a2 : Option Addr) (nv nz nw nb cv k0 k1 k2 bm m : Nat) (f : Int → Int) (rs l : List Rg) (zs : List Int) (w : World) (hv : RingsAt w (.slice av nv cv) rs) (hs : s.size ≤ maxLen) (hz : IntsAt w (.slice a0 nz k0) zs) (hM : MapF w bm m f) (hP : lathB s rs zs = true)
    (hf : ∀ z : Nat, z < zs.length → 0 ≤ f (z : Int) ∧ f (z : Int) ≤ 1000) (hl : turnL (mapStep f zs) rs rs.length = l) (hok : profB s l = true) :
    Calls Try.prog 70 #[.agg #[.string s, .slice av nv cv, .slice a0 nz k0, .slice a0 nz k0, .slice a1 nw k1, .slice a2 nb k2], .map (some bm)] w fun e w' => ∃ an cn, e = .returned (.tuple #[.agg #[.string s, .slice an l.length cn, .slice a0 nz k0, .slice a0 nz k0, .slice a1 nw k1, .slice a2 nb k2], .int .i64 0]) ∧ Rv w' w.heap.size (.slice an l.length cn) l ∧ Below w.heap.size w w' := by
  have hrc : resC s l = 0 := by unfold resC; rw [if_pos hok]
  have hba : Below w.heap.size w ((w.alloc (.cells #[.string s, .slice av nv cv, .slice a0 nz k0, .slice a0 nz k0, .slice a1 nw k1, .slice a2 nb k2] 88)).alloc (.cells #[.string ⟨#[]⟩, .slice none 0 0, .slice none 0 0, .slice none 0 0, .slice none 0 0, .slice none 0 0] 88)) := (below_al _ _).alloc (by simp) _
  have HCU := Lib.hid (cutI_any s (.slice av nv cv) (.slice a0 nz k0) bm m f rs zs _ (rings_kept hba hv) hs (ints_kept hba hz) (mapF_kept hba hM) hP hf)
  rw [hl, hrc] at HCU
  have z0 : ((w.alloc (.cells #[.string s, .slice av nv cv, .slice a0 nz k0, .slice a0 nz k0, .slice a1 nw k1, .slice a2 nb k2] 88)).alloc (.cells #[.string ⟨#[]⟩, .slice none 0 0, .slice none 0 0, .slice none 0 0, .slice none 0 0, .slice none 0 0] 88)).cell? ⟨w.heap.size, 0, none⟩ = some (.string s) := by go_simp
  have z1 : ((w.alloc (.cells #[.string s, .slice av nv cv, .slice a0 nz k0, .slice a0 nz k0, .slice a1 nw k1, .slice a2 nb k2] 88)).alloc (.cells #[.string ⟨#[]⟩, .slice none 0 0, .slice none 0 0, .slice none 0 0, .slice none 0 0, .slice none 0 0] 88)).cell? ⟨w.heap.size, 1, none⟩ = some (.slice av nv cv) := by go_simp
  have z2 : ((w.alloc (.cells #[.string s, .slice av nv cv, .slice a0 nz k0, .slice a0 nz k0, .slice a1 nw k1, .slice a2 nb k2] 88)).alloc (.cells #[.string ⟨#[]⟩, .slice none 0 0, .slice none 0 0, .slice none 0 0, .slice none 0 0, .slice none 0 0] 88)).cell? ⟨w.heap.size, 2, none⟩ = some (.slice a0 nz k0) := by go_simp
  have z3 : ((w.alloc (.cells #[.string s, .slice av nv cv, .slice a0 nz k0, .slice a0 nz k0, .slice a1 nw k1, .slice a2 nb k2] 88)).alloc (.cells #[.string ⟨#[]⟩, .slice none 0 0, .slice none 0 0, .slice none 0 0, .slice none 0 0, .slice none 0 0] 88)).cell? ⟨w.heap.size, 3, none⟩ = some (.slice a0 nz k0) := by go_simp
  have z4 : ((w.alloc (.cells #[.string s, .slice av nv cv, .slice a0 nz k0, .slice a0 nz k0, .slice a1 nw k1, .slice a2 nb k2] 88)).alloc (.cells #[.string ⟨#[]⟩, .slice none 0 0, .slice none 0 0, .slice none 0 0, .slice none 0 0, .slice none 0 0] 88)).cell? ⟨w.heap.size, 4, none⟩ = some (.slice a1 nw k1) := by go_simp
  have z5 : ((w.alloc (.cells #[.string s, .slice av nv cv, .slice a0 nz k0, .slice a0 nz k0, .slice a1 nw k1, .slice a2 nb k2] 88)).alloc (.cells #[.string ⟨#[]⟩, .slice none 0 0, .slice none 0 0, .slice none 0 0, .slice none 0 0, .slice none 0 0] 88)).cell? ⟨w.heap.size, 5, none⟩ = some (.slice a2 nb k2) := by go_simp
  have y0 : ((w.alloc (.cells #[.string s, .slice av nv cv, .slice a0 nz k0, .slice a0 nz k0, .slice a1 nw k1, .slice a2 nb k2] 88)).alloc (.cells #[.string ⟨#[]⟩, .slice none 0 0, .slice none 0 0, .slice none 0 0, .slice none 0 0, .slice none 0 0] 88)).cell? ⟨w.heap.size + 1, 0, none⟩ = some (.string ⟨#[]⟩) := by go_simp
  have y1 : ((w.alloc (.cells #[.string s, .slice av nv cv, .slice a0 nz k0, .slice a0 nz k0, .slice a1 nw k1, .slice a2 nb k2] 88)).alloc (.cells #[.string ⟨#[]⟩, .slice none 0 0, .slice none 0 0, .slice none 0 0, .slice none 0 0, .slice none 0 0] 88)).cell? ⟨w.heap.size + 1, 1, none⟩ = some (.slice none 0 0) := by go_simp
  have y2 : ((w.alloc (.cells #[.string s, .slice av nv cv, .slice a0 nz k0, .slice a0 nz k0, .slice a1 nw k1, .slice a2 nb k2] 88)).alloc (.cells #[.string ⟨#[]⟩, .slice none 0 0, .slice none 0 0, .slice none 0 0, .slice none 0 0, .slice none 0 0] 88)).cell? ⟨w.heap.size + 1, 2, none⟩ = some (.slice none 0 0) := by go_simp
  have y3 : ((w.alloc (.cells #[.string s, .slice av nv cv, .slice a0 nz k0, .slice a0 nz k0, .slice a1 nw k1, .slice a2 nb k2] 88)).alloc (.cells #[.string ⟨#[]⟩, .slice none 0 0, .slice none 0 0, .slice none 0 0, .slice none 0 0, .slice none 0 0] 88)).cell? ⟨w.heap.size + 1, 3, none⟩ = some (.slice none 0 0) := by go_simp
  have y4 : ((w.alloc (.cells #[.string s, .slice av nv cv, .slice a0 nz k0, .slice a0 nz k0, .slice a1 nw k1, .slice a2 nb k2] 88)).alloc (.cells #[.string ⟨#[]⟩, .slice none 0 0, .slice none 0 0, .slice none 0 0, .slice none 0 0, .slice none 0 0] 88)).cell? ⟨w.heap.size + 1, 4, none⟩ = some (.slice none 0 0) := by go_simp
  have y5 : ((w.alloc (.cells #[.string s, .slice av nv cv, .slice a0 nz k0, .slice a0 nz k0, .slice a1 nw k1, .slice a2 nb k2] 88)).alloc (.cells #[.string ⟨#[]⟩, .slice none 0 0, .slice none 0 0, .slice none 0 0, .slice none 0 0, .slice none 0 0] 88)).cell? ⟨w.heap.size + 1, 5, none⟩ = some (.slice none 0 0) := by go_simp
  have g0 : ((w.alloc (.cells #[.string s, .slice av nv cv, .slice a0 nz k0, .slice a0 nz k0, .slice a1 nw k1, .slice a2 nb k2] 88)).alloc (.cells #[.string ⟨#[]⟩, .slice none 0 0, .slice none 0 0, .slice none 0 0, .slice none 0 0, .slice none 0 0] 88)).frozen? ⟨w.heap.size + 1, 0, none⟩ = false := by go_simp
  have g1 : ((w.alloc (.cells #[.string s, .slice av nv cv, .slice a0 nz k0, .slice a0 nz k0, .slice a1 nw k1, .slice a2 nb k2] 88)).alloc (.cells #[.string ⟨#[]⟩, .slice none 0 0, .slice none 0 0, .slice none 0 0, .slice none 0 0, .slice none 0 0] 88)).frozen? ⟨w.heap.size + 1, 1, none⟩ = false := by go_simp
  have g2 : ((w.alloc (.cells #[.string s, .slice av nv cv, .slice a0 nz k0, .slice a0 nz k0, .slice a1 nw k1, .slice a2 nb k2] 88)).alloc (.cells #[.string ⟨#[]⟩, .slice none 0 0, .slice none 0 0, .slice none 0 0, .slice none 0 0, .slice none 0 0] 88)).frozen? ⟨w.heap.size + 1, 2, none⟩ = false := by go_simp
  have g3 : ((w.alloc (.cells #[.string s, .slice av nv cv, .slice a0 nz k0, .slice a0 nz k0, .slice a1 nw k1, .slice a2 nb k2] 88)).alloc (.cells #[.string ⟨#[]⟩, .slice none 0 0, .slice none 0 0, .slice none 0 0, .slice none 0 0, .slice none 0 0] 88)).frozen? ⟨w.heap.size + 1, 3, none⟩ = false := by go_simp
  have g4 : ((w.alloc (.cells #[.string s, .slice av nv cv, .slice a0 nz k0, .slice a0 nz k0, .slice a1 nw k1, .slice a2 nb k2] 88)).alloc (.cells #[.string ⟨#[]⟩, .slice none 0 0, .slice none 0 0, .slice none 0 0, .slice none 0 0, .slice none 0 0] 88)).frozen? ⟨w.heap.size + 1, 4, none⟩ = false := by go_simp
  have g5 : ((w.alloc (.cells #[.string s, .slice av nv cv, .slice a0 nz k0, .slice a0 nz k0, .slice a1 nw k1, .slice a2 nb k2] 88)).alloc (.cells #[.string ⟨#[]⟩, .slice none 0 0, .slice none 0 0, .slice none 0 0, .slice none 0 0, .slice none 0 0] 88)).frozen? ⟨w.heap.size + 1, 5, none⟩ = false := by go_simp
  have f0 : ((w.alloc (.cells #[.string s, .slice av nv cv, .slice a0 nz k0, .slice a0 nz k0, .slice a1 nw k1, .slice a2 nb k2] 88)).alloc (.cells #[.string ⟨#[]⟩, .slice none 0 0, .slice none 0 0, .slice none 0 0, .slice none 0 0, .slice none 0 0] 88)).frozen? ⟨w.heap.size, 0, none⟩ = false := by go_simp
  have f1 : ((w.alloc (.cells #[.string s, .slice av nv cv, .slice a0 nz k0, .slice a0 nz k0, .slice a1 nw k1, .slice a2 nb k2] 88)).alloc (.cells #[.string ⟨#[]⟩, .slice none 0 0, .slice none 0 0, .slice none 0 0, .slice none 0 0, .slice none 0 0] 88)).frozen? ⟨w.heap.size, 1, none⟩ = false := by go_simp
  have hsz : w.heap.size + 2 ≤ ((w.alloc (.cells #[.string s, .slice av nv cv, .slice a0 nz k0, .slice a0 nz k0, .slice a1 nw k1, .slice a2 nb k2] 88)).alloc (.cells #[.string ⟨#[]⟩, .slice none 0 0, .slice none 0 0, .slice none 0 0, .slice none 0 0, .slice none 0 0] 88)).heap.size := by simp
  have HBA := Lib.hid hba
  clear hba hv hz hM hP hf hl hok hrc
  go_enter Try.func70, Try.ntmps70
  go_wp2_with fail
  generalize ((w.alloc (.cells #[.string s, .slice av nv cv, .slice a0 nz k0, .slice a0 nz k0, .slice a1 nw k1, .slice a2 nb k2] 88)).alloc (.cells #[.string ⟨#[]⟩, .slice none 0 0, .slice none 0 0, .slice none 0 0, .slice none 0 0, .slice none 0 0] 88)) = wA at *
  refine HCU.out.mono ?_
  rintro e w1 ⟨vn, rfl, hrv, hb⟩
  have hrv2 : Rv w1 wA.heap.size vn l := hrv
  obtain ⟨an, cn, rfl⟩ := rv_form hrv2
  rw [show resS s 0 = s from rfl]
  have HRV := Lib.hid hrv2
  clear hrv hrv2
  have hbx := below_of hb (below_al w1 (.cells #[.string s, .slice an l.length cn] 45)) hb.size
  have zz0 : (w1.alloc (.cells #[.string s, .slice an l.length cn] 45)).cell? ⟨w.heap.size, 0, none⟩ = some (.string s) := (below_cell hbx _ _ (by omega)).trans z0
  have zz1 : (w1.alloc (.cells #[.string s, .slice an l.length cn] 45)).cell? ⟨w.heap.size, 1, none⟩ = some (.slice av nv cv) := (below_cell hbx _ _ (by omega)).trans z1
  have zz2 : (w1.alloc (.cells #[.string s, .slice an l.length cn] 45)).cell? ⟨w.heap.size, 2, none⟩ = some (.slice a0 nz k0) := (below_cell hbx _ _ (by omega)).trans z2
  have zz3 : (w1.alloc (.cells #[.string s, .slice an l.length cn] 45)).cell? ⟨w.heap.size, 3, none⟩ = some (.slice a0 nz k0) := (below_cell hbx _ _ (by omega)).trans z3
  have zz4 : (w1.alloc (.cells #[.string s, .slice an l.length cn] 45)).cell? ⟨w.heap.size, 4, none⟩ = some (.slice a1 nw k1) := (below_cell hbx _ _ (by omega)).trans z4
  have zz5 : (w1.alloc (.cells #[.string s, .slice an l.length cn] 45)).cell? ⟨w.heap.size, 5, none⟩ = some (.slice a2 nb k2) := (below_cell hbx _ _ (by omega)).trans z5
  have yy0 : (w1.alloc (.cells #[.string s, .slice an l.length cn] 45)).cell? ⟨w.heap.size + 1, 0, none⟩ = some (.string ⟨#[]⟩) := (below_cell hbx _ _ (by omega)).trans y0
  have yy1 : (w1.alloc (.cells #[.string s, .slice an l.length cn] 45)).cell? ⟨w.heap.size + 1, 1, none⟩ = some (.slice none 0 0) := (below_cell hbx _ _ (by omega)).trans y1
  have yy2 : (w1.alloc (.cells #[.string s, .slice an l.length cn] 45)).cell? ⟨w.heap.size + 1, 2, none⟩ = some (.slice none 0 0) := (below_cell hbx _ _ (by omega)).trans y2
  have yy3 : (w1.alloc (.cells #[.string s, .slice an l.length cn] 45)).cell? ⟨w.heap.size + 1, 3, none⟩ = some (.slice none 0 0) := (below_cell hbx _ _ (by omega)).trans y3
  have yy4 : (w1.alloc (.cells #[.string s, .slice an l.length cn] 45)).cell? ⟨w.heap.size + 1, 4, none⟩ = some (.slice none 0 0) := (below_cell hbx _ _ (by omega)).trans y4
  have yy5 : (w1.alloc (.cells #[.string s, .slice an l.length cn] 45)).cell? ⟨w.heap.size + 1, 5, none⟩ = some (.slice none 0 0) := (below_cell hbx _ _ (by omega)).trans y5
  have gg0 : (w1.alloc (.cells #[.string s, .slice an l.length cn] 45)).frozen? ⟨w.heap.size + 1, 0, none⟩ = false := (below_frozen hbx _ _ (by omega)).trans g0
  have gg1 : (w1.alloc (.cells #[.string s, .slice an l.length cn] 45)).frozen? ⟨w.heap.size + 1, 1, none⟩ = false := (below_frozen hbx _ _ (by omega)).trans g1
  have gg2 : (w1.alloc (.cells #[.string s, .slice an l.length cn] 45)).frozen? ⟨w.heap.size + 1, 2, none⟩ = false := (below_frozen hbx _ _ (by omega)).trans g2
  have gg3 : (w1.alloc (.cells #[.string s, .slice an l.length cn] 45)).frozen? ⟨w.heap.size + 1, 3, none⟩ = false := (below_frozen hbx _ _ (by omega)).trans g3
  have gg4 : (w1.alloc (.cells #[.string s, .slice an l.length cn] 45)).frozen? ⟨w.heap.size + 1, 4, none⟩ = false := (below_frozen hbx _ _ (by omega)).trans g4
  have gg5 : (w1.alloc (.cells #[.string s, .slice an l.length cn] 45)).frozen? ⟨w.heap.size + 1, 5, none⟩ = false := (below_frozen hbx _ _ (by omega)).trans g5
  have ff0 : (w1.alloc (.cells #[.string s, .slice an l.length cn] 45)).frozen? ⟨w.heap.size, 0, none⟩ = false := (below_frozen hbx _ _ (by omega)).trans f0
  have ff1 : (w1.alloc (.cells #[.string s, .slice an l.length cn] 45)).frozen? ⟨w.heap.size, 1, none⟩ = false := (below_frozen hbx _ _ (by omega)).trans f1
  have HRX := Lib.hid (rv_kept (below_al w1 (.cells #[.string s, .slice an l.length cn] 45)) HRV.out)
  have HBX := Lib.hid (below_of HBA.out hbx HBA.out.size)
  have hx0 : (w1.alloc (.cells #[.string s, .slice an l.length cn] 45)).cell? ⟨w1.heap.size, 0, none⟩ = some (.string s) := by go_simp
  have hx1 : (w1.alloc (.cells #[.string s, .slice an l.length cn] 45)).cell? ⟨w1.heap.size, 1, none⟩ = some (.slice an l.length cn) := by go_simp
  have hne : w.heap.size + 2 ≤ w1.heap.size := Nat.le_trans hsz hb.size
  clear hb hbx HRV
  clear z0 z1 z2 z3 z4 z5 y0 y1 y2 y3 y4 y5 g0 g1 g2 g3 g4 g5 f0 f1
  generalize hln : l.length = ln at *
  go_wp2
  try simp only [Exit.inBlock, Exit.then]
  refine bodyPost_ret_by (v := .tuple #[.agg #[.string s, .slice an ln cn, .slice a0 nz k0, .slice a0 nz k0, .slice a1 nw k1, .slice a2 nb k2], .int .i64 0]) (by rw [results_cell_tmp rfl]; go_simp) rfl ?_
  refine ⟨an, cn, by rw [hln], ?_, ?_⟩
  · rw [hln]
    refine rv_base (B := wA.heap.size) ?_ HBA.out.size
    repeat (first | with_reducible exact HRX.out | refine rv_setLt ?_ (by omega) _ _)
  · repeat (first | with_reducible exact HBX.out | refine Below.setCell ?_ (by simp <;> omega) _)
set_option maxRecDepth 20000 in
set_option maxHeartbeats 4000000 in
theorem turnedM_no (s : ByteArray) (av a0 a1 a2 : Option Addr) (nv nz nw nb cv k0 k1 k2 bm m : Nat) (f : Int → Int) (rs l : List Rg) (zs : List Int) (w : World) (hv : RingsAt w (.slice av nv cv) rs) (hs : s.size ≤ maxLen) (hz : IntsAt w (.slice a0 nz k0) zs) (hM : MapF w bm m f) (hP : lathB s rs zs = true)
    (hf : ∀ z : Nat, z < zs.length → 0 ≤ f (z : Int) ∧ f (z : Int) ≤ 1000) (hl : turnL (mapStep f zs) rs rs.length = l) (hok : profB s l = false) :
    Calls Try.prog 70 #[.agg #[.string s, .slice av nv cv, .slice a0 nz k0, .slice a0 nz k0, .slice a1 nw k1, .slice a2 nb k2], .map (some bm)] w fun e w' => e = .returned (.tuple #[.agg #[.string ⟨#[]⟩, .slice none 0 0, .slice none 0 0, .slice none 0 0, .slice none 0 0, .slice none 0 0], .int .i64 6]) ∧ Below w.heap.size w w' := by
  have hrc : resC s l = 6 := by unfold resC; rw [hok]; rfl
  have hba : Below w.heap.size w ((w.alloc (.cells #[.string s, .slice av nv cv, .slice a0 nz k0, .slice a0 nz k0, .slice a1 nw k1, .slice a2 nb k2] 88)).alloc (.cells #[.string ⟨#[]⟩, .slice none 0 0, .slice none 0 0, .slice none 0 0, .slice none 0 0, .slice none 0 0] 88)) := (below_al _ _).alloc (by simp) _
  have HCU := Lib.hid (cutI_any s (.slice av nv cv) (.slice a0 nz k0) bm m f rs zs _ (rings_kept hba hv) hs (ints_kept hba hz) (mapF_kept hba hM) hP hf)
  rw [hl, hrc] at HCU
  have z0 : ((w.alloc (.cells #[.string s, .slice av nv cv, .slice a0 nz k0, .slice a0 nz k0, .slice a1 nw k1, .slice a2 nb k2] 88)).alloc (.cells #[.string ⟨#[]⟩, .slice none 0 0, .slice none 0 0, .slice none 0 0, .slice none 0 0, .slice none 0 0] 88)).cell? ⟨w.heap.size, 0, none⟩ = some (.string s) := by go_simp
  have z1 : ((w.alloc (.cells #[.string s, .slice av nv cv, .slice a0 nz k0, .slice a0 nz k0, .slice a1 nw k1, .slice a2 nb k2] 88)).alloc (.cells #[.string ⟨#[]⟩, .slice none 0 0, .slice none 0 0, .slice none 0 0, .slice none 0 0, .slice none 0 0] 88)).cell? ⟨w.heap.size, 1, none⟩ = some (.slice av nv cv) := by go_simp
  have z2 : ((w.alloc (.cells #[.string s, .slice av nv cv, .slice a0 nz k0, .slice a0 nz k0, .slice a1 nw k1, .slice a2 nb k2] 88)).alloc (.cells #[.string ⟨#[]⟩, .slice none 0 0, .slice none 0 0, .slice none 0 0, .slice none 0 0, .slice none 0 0] 88)).cell? ⟨w.heap.size, 2, none⟩ = some (.slice a0 nz k0) := by go_simp
  have z3 : ((w.alloc (.cells #[.string s, .slice av nv cv, .slice a0 nz k0, .slice a0 nz k0, .slice a1 nw k1, .slice a2 nb k2] 88)).alloc (.cells #[.string ⟨#[]⟩, .slice none 0 0, .slice none 0 0, .slice none 0 0, .slice none 0 0, .slice none 0 0] 88)).cell? ⟨w.heap.size, 3, none⟩ = some (.slice a0 nz k0) := by go_simp
  have z4 : ((w.alloc (.cells #[.string s, .slice av nv cv, .slice a0 nz k0, .slice a0 nz k0, .slice a1 nw k1, .slice a2 nb k2] 88)).alloc (.cells #[.string ⟨#[]⟩, .slice none 0 0, .slice none 0 0, .slice none 0 0, .slice none 0 0, .slice none 0 0] 88)).cell? ⟨w.heap.size, 4, none⟩ = some (.slice a1 nw k1) := by go_simp
  have z5 : ((w.alloc (.cells #[.string s, .slice av nv cv, .slice a0 nz k0, .slice a0 nz k0, .slice a1 nw k1, .slice a2 nb k2] 88)).alloc (.cells #[.string ⟨#[]⟩, .slice none 0 0, .slice none 0 0, .slice none 0 0, .slice none 0 0, .slice none 0 0] 88)).cell? ⟨w.heap.size, 5, none⟩ = some (.slice a2 nb k2) := by go_simp
  have y0 : ((w.alloc (.cells #[.string s, .slice av nv cv, .slice a0 nz k0, .slice a0 nz k0, .slice a1 nw k1, .slice a2 nb k2] 88)).alloc (.cells #[.string ⟨#[]⟩, .slice none 0 0, .slice none 0 0, .slice none 0 0, .slice none 0 0, .slice none 0 0] 88)).cell? ⟨w.heap.size + 1, 0, none⟩ = some (.string ⟨#[]⟩) := by go_simp
  have y1 : ((w.alloc (.cells #[.string s, .slice av nv cv, .slice a0 nz k0, .slice a0 nz k0, .slice a1 nw k1, .slice a2 nb k2] 88)).alloc (.cells #[.string ⟨#[]⟩, .slice none 0 0, .slice none 0 0, .slice none 0 0, .slice none 0 0, .slice none 0 0] 88)).cell? ⟨w.heap.size + 1, 1, none⟩ = some (.slice none 0 0) := by go_simp
  have y2 : ((w.alloc (.cells #[.string s, .slice av nv cv, .slice a0 nz k0, .slice a0 nz k0, .slice a1 nw k1, .slice a2 nb k2] 88)).alloc (.cells #[.string ⟨#[]⟩, .slice none 0 0, .slice none 0 0, .slice none 0 0, .slice none 0 0, .slice none 0 0] 88)).cell? ⟨w.heap.size + 1, 2, none⟩ = some (.slice none 0 0) := by go_simp
  have y3 : ((w.alloc (.cells #[.string s, .slice av nv cv, .slice a0 nz k0, .slice a0 nz k0, .slice a1 nw k1, .slice a2 nb k2] 88)).alloc (.cells #[.string ⟨#[]⟩, .slice none 0 0, .slice none 0 0, .slice none 0 0, .slice none 0 0, .slice none 0 0] 88)).cell? ⟨w.heap.size + 1, 3, none⟩ = some (.slice none 0 0) := by go_simp
  have y4 : ((w.alloc (.cells #[.string s, .slice av nv cv, .slice a0 nz k0, .slice a0 nz k0, .slice a1 nw k1, .slice a2 nb k2] 88)).alloc (.cells #[.string ⟨#[]⟩, .slice none 0 0, .slice none 0 0, .slice none 0 0, .slice none 0 0, .slice none 0 0] 88)).cell? ⟨w.heap.size + 1, 4, none⟩ = some (.slice none 0 0) := by go_simp
  have y5 : ((w.alloc (.cells #[.string s, .slice av nv cv, .slice a0 nz k0, .slice a0 nz k0, .slice a1 nw k1, .slice a2 nb k2] 88)).alloc (.cells #[.string ⟨#[]⟩, .slice none 0 0, .slice none 0 0, .slice none 0 0, .slice none 0 0, .slice none 0 0] 88)).cell? ⟨w.heap.size + 1, 5, none⟩ = some (.slice none 0 0) := by go_simp
  have g0 : ((w.alloc (.cells #[.string s, .slice av nv cv, .slice a0 nz k0, .slice a0 nz k0, .slice a1 nw k1, .slice a2 nb k2] 88)).alloc (.cells #[.string ⟨#[]⟩, .slice none 0 0, .slice none 0 0, .slice none 0 0, .slice none 0 0, .slice none 0 0] 88)).frozen? ⟨w.heap.size + 1, 0, none⟩ = false := by go_simp
  have g1 : ((w.alloc (.cells #[.string s, .slice av nv cv, .slice a0 nz k0, .slice a0 nz k0, .slice a1 nw k1, .slice a2 nb k2] 88)).alloc (.cells #[.string ⟨#[]⟩, .slice none 0 0, .slice none 0 0, .slice none 0 0, .slice none 0 0, .slice none 0 0] 88)).frozen? ⟨w.heap.size + 1, 1, none⟩ = false := by go_simp
  have g2 : ((w.alloc (.cells #[.string s, .slice av nv cv, .slice a0 nz k0, .slice a0 nz k0, .slice a1 nw k1, .slice a2 nb k2] 88)).alloc (.cells #[.string ⟨#[]⟩, .slice none 0 0, .slice none 0 0, .slice none 0 0, .slice none 0 0, .slice none 0 0] 88)).frozen? ⟨w.heap.size + 1, 2, none⟩ = false := by go_simp
  have g3 : ((w.alloc (.cells #[.string s, .slice av nv cv, .slice a0 nz k0, .slice a0 nz k0, .slice a1 nw k1, .slice a2 nb k2] 88)).alloc (.cells #[.string ⟨#[]⟩, .slice none 0 0, .slice none 0 0, .slice none 0 0, .slice none 0 0, .slice none 0 0] 88)).frozen? ⟨w.heap.size + 1, 3, none⟩ = false := by go_simp
  have g4 : ((w.alloc (.cells #[.string s, .slice av nv cv, .slice a0 nz k0, .slice a0 nz k0, .slice a1 nw k1, .slice a2 nb k2] 88)).alloc (.cells #[.string ⟨#[]⟩, .slice none 0 0, .slice none 0 0, .slice none 0 0, .slice none 0 0, .slice none 0 0] 88)).frozen? ⟨w.heap.size + 1, 4, none⟩ = false := by go_simp
  have g5 : ((w.alloc (.cells #[.string s, .slice av nv cv, .slice a0 nz k0, .slice a0 nz k0, .slice a1 nw k1, .slice a2 nb k2] 88)).alloc (.cells #[.string ⟨#[]⟩, .slice none 0 0, .slice none 0 0, .slice none 0 0, .slice none 0 0, .slice none 0 0] 88)).frozen? ⟨w.heap.size + 1, 5, none⟩ = false := by go_simp
  have f0 : ((w.alloc (.cells #[.string s, .slice av nv cv, .slice a0 nz k0, .slice a0 nz k0, .slice a1 nw k1, .slice a2 nb k2] 88)).alloc (.cells #[.string ⟨#[]⟩, .slice none 0 0, .slice none 0 0, .slice none 0 0, .slice none 0 0, .slice none 0 0] 88)).frozen? ⟨w.heap.size, 0, none⟩ = false := by go_simp
  have f1 : ((w.alloc (.cells #[.string s, .slice av nv cv, .slice a0 nz k0, .slice a0 nz k0, .slice a1 nw k1, .slice a2 nb k2] 88)).alloc (.cells #[.string ⟨#[]⟩, .slice none 0 0, .slice none 0 0, .slice none 0 0, .slice none 0 0, .slice none 0 0] 88)).frozen? ⟨w.heap.size, 1, none⟩ = false := by go_simp
  have hsz : w.heap.size + 2 ≤ ((w.alloc (.cells #[.string s, .slice av nv cv, .slice a0 nz k0, .slice a0 nz k0, .slice a1 nw k1, .slice a2 nb k2] 88)).alloc (.cells #[.string ⟨#[]⟩, .slice none 0 0, .slice none 0 0, .slice none 0 0, .slice none 0 0, .slice none 0 0] 88)).heap.size := by simp
  have HBA := Lib.hid hba
  clear hba hv hz hM hP hf hl hok hrc
  go_enter Try.func70, Try.ntmps70
  go_wp2_with fail
  generalize ((w.alloc (.cells #[.string s, .slice av nv cv, .slice a0 nz k0, .slice a0 nz k0, .slice a1 nw k1, .slice a2 nb k2] 88)).alloc (.cells #[.string ⟨#[]⟩, .slice none 0 0, .slice none 0 0, .slice none 0 0, .slice none 0 0, .slice none 0 0] 88)) = wA at *
  refine HCU.out.mono ?_
  rintro e w1 ⟨vn, rfl, hrv, hb⟩
  obtain ⟨an, cn, rfl⟩ := rv_form hrv
  generalize (resL l 6).length = ln at *
  generalize resS s 6 = s6 at *
  have hbx := below_of hb (below_al w1 (.cells #[.string s6, .slice an ln cn] 45)) hb.size
  have yy0 : (w1.alloc (.cells #[.string s6, .slice an ln cn] 45)).cell? ⟨w.heap.size + 1, 0, none⟩ = some (.string ⟨#[]⟩) := (below_cell hbx _ _ (by omega)).trans y0
  have yy1 : (w1.alloc (.cells #[.string s6, .slice an ln cn] 45)).cell? ⟨w.heap.size + 1, 1, none⟩ = some (.slice none 0 0) := (below_cell hbx _ _ (by omega)).trans y1
  have yy2 : (w1.alloc (.cells #[.string s6, .slice an ln cn] 45)).cell? ⟨w.heap.size + 1, 2, none⟩ = some (.slice none 0 0) := (below_cell hbx _ _ (by omega)).trans y2
  have yy3 : (w1.alloc (.cells #[.string s6, .slice an ln cn] 45)).cell? ⟨w.heap.size + 1, 3, none⟩ = some (.slice none 0 0) := (below_cell hbx _ _ (by omega)).trans y3
  have yy4 : (w1.alloc (.cells #[.string s6, .slice an ln cn] 45)).cell? ⟨w.heap.size + 1, 4, none⟩ = some (.slice none 0 0) := (below_cell hbx _ _ (by omega)).trans y4
  have yy5 : (w1.alloc (.cells #[.string s6, .slice an ln cn] 45)).cell? ⟨w.heap.size + 1, 5, none⟩ = some (.slice none 0 0) := (below_cell hbx _ _ (by omega)).trans y5
  have gg0 : (w1.alloc (.cells #[.string s6, .slice an ln cn] 45)).frozen? ⟨w.heap.size + 1, 0, none⟩ = false := (below_frozen hbx _ _ (by omega)).trans g0
  have gg1 : (w1.alloc (.cells #[.string s6, .slice an ln cn] 45)).frozen? ⟨w.heap.size + 1, 1, none⟩ = false := (below_frozen hbx _ _ (by omega)).trans g1
  have gg2 : (w1.alloc (.cells #[.string s6, .slice an ln cn] 45)).frozen? ⟨w.heap.size + 1, 2, none⟩ = false := (below_frozen hbx _ _ (by omega)).trans g2
  have gg3 : (w1.alloc (.cells #[.string s6, .slice an ln cn] 45)).frozen? ⟨w.heap.size + 1, 3, none⟩ = false := (below_frozen hbx _ _ (by omega)).trans g3
  have gg4 : (w1.alloc (.cells #[.string s6, .slice an ln cn] 45)).frozen? ⟨w.heap.size + 1, 4, none⟩ = false := (below_frozen hbx _ _ (by omega)).trans g4
  have gg5 : (w1.alloc (.cells #[.string s6, .slice an ln cn] 45)).frozen? ⟨w.heap.size + 1, 5, none⟩ = false := (below_frozen hbx _ _ (by omega)).trans g5
  have HBX := Lib.hid (below_of HBA.out hbx HBA.out.size)
  clear hb hbx hrv
  clear z0 z1 z2 z3 z4 z5 y0 y1 y2 y3 y4 y5 g0 g1 g2 g3 g4 g5 f0 f1
  go_wp2
  try simp only [Exit.inBlock, Exit.then]
  refine bodyPost_ret_by (v := .tuple #[.agg #[.string ⟨#[]⟩, .slice none 0 0, .slice none 0 0, .slice none 0 0, .slice none 0 0, .slice none 0 0], .int .i64 6]) (by rw [results_cell_tmp rfl]; go_simp) rfl ?_
  exact ⟨rfl, by repeat (first | with_reducible exact HBX.out | refine Below.setCell ?_ (by simp <;> omega) _)⟩
theorem senL_list (zs : List Int) (ws : List (List Int)) (bs : List Int) (rs : List Rg) (z : Int) : senA zs ws bs rs z = parZ (rawK zs ws bs rs) (senK zs ws bs rs z) 5 := by
  simp [senA, parZ, List.range, List.range.loop]
set_option maxRecDepth 20000 in
set_option maxHeartbeats 4000000 in
theorem implSen_any (v0 v1 v2 v : Value) (zs : List Int) (ws : List (List Int)) (bs : List Int) (s : ByteArray) (rs : List Rg) (z : Int) (w : World) (h0 : IntsAt w v0 zs) (h1 : RowsAt w v1 ws) (h2 : IntsAt w v2 bs) (hv : RingsW w v rs) (hs : s.size ≤ maxLen) (hzb : -9223372036854775808 ≤ z ∧ z ≤ 9223372036854775807) :
    Calls Try.prog 31 #[.agg #[v0, v1, v2], .agg #[.string s, v], .int .i64 z] w (IntU (senL zs ws bs s rs z) (senC zs ws bs s rs z) w) := by
  have hba : Below w.heap.size w ((w.alloc (.cells #[v0, v1, v2] 25)).alloc (.cells #[.string s, v] 45)) := (below_al _ _).alloc (by simp) _
  have HBA := Lib.hid hba
  by_cases h : askM zs ws bs s rs = 0
  · obtain ⟨q1, q2, q3⟩ := askM_ok h
    have hzl := zones_len (mod_iff.1 q1).1
    have HMD := Lib.hid (modelled_ok v0 v1 v2 v zs ws bs s rs _ (ints_kept hba h0) (mrows_kept hba h1) (ints_kept hba h2) (rings_kept hba hv.1) hs (Lib.hid q1) q2 q3)
    have HPT := Lib.hid (fun (vx : Value) (l : List Rg) W (hW : Below w.heap.size w W) (hvx : RingsW W vx l) (hpl : profB s l = true) (hfl : fitB l.length zs = true) => partials_any s vx v0 v1 v2 zs ws bs l W hvx hs (ints_kept hW h0) (mrows_kept hW h1) (ints_kept hW h2) q1 hpl hfl)
    have HVW := Lib.hid (fun W (hW : Below w.heap.size w W) => ringsW_kept hW hv)
    have H0K := Lib.hid (fun W (hW : Below w.heap.size w W) => ints_kept hW h0)
    have HQ := Lib.hid h
    have HP2 := Lib.hid q2
    have HP3 := Lib.hid q3
    have HTL := Lib.hid (senT_len rs zs z)
    obtain ⟨a0, k0, rfl⟩ := ints_form h0
    obtain ⟨a1, k1, rfl⟩ := mrows_form h1
    obtain ⟨a2, k2, rfl⟩ := ints_form h2
    obtain ⟨av, cv, rfl⟩ := rings_form hv.1
    have HMQ := Lib.hid q1
    clear hba h0 h1 h2 hv h q1 q2 q3
    obtain ⟨nz, hnz⟩ : ∃ n, zs.length = n := ⟨_, rfl⟩
    obtain ⟨nw, hnw⟩ : ∃ n, ws.length = n := ⟨_, rfl⟩
    obtain ⟨nb, hnb⟩ : ∃ n, bs.length = n := ⟨_, rfl⟩
    obtain ⟨nr, hnr⟩ : ∃ n, rs.length = n := ⟨_, rfl⟩
    have HNZ := Lib.hid hnz
    have HNR := Lib.hid hnr
    rw [hnz] at hzl HMD HPT H0K HBA
    rw [hnw] at HMD HPT HBA
    rw [hnb] at HMD HPT HBA
    rw [hnr] at HMD HVW HBA
    rw [hnz, hnw, hnb, hnr]
    clear hnz hnw hnb hnr
    rcases Bool.eq_false_or_eq_true (inB z 0 ((nz : Int) - 1)) with hz | hz
    · have hz2 : 0 ≤ z ∧ z ≤ (nz : Int) - 1 := by unfold inB at hz; simpa using hz
      obtain ⟨zn, rfl⟩ : ∃ n : Nat, z = (n : Int) := ⟨z.toNat, by omega⟩
      have HZ := Lib.hid hz
      have hot : turnL (mapStep (fun y => if (zn : Int) = y then ((1 : Nat) : Int) else 0) zs) rs rs.length = senT rs zs (zn : Int) := by
        rw [oneM_turn ⟨by rw [HNZ.out]; omega, by rw [HNZ.out]; omega⟩ zn 1]; unfold senT; rw [Int.toNat_natCast]
      have HOT := Lib.hid hot
      have hwz : (Lit.int .i64 (zn : Int)).wf = true := WalkArith.wf_i64 (by omega)
      have hz8 : zn < 8 := by omega
      have hz0' : (0 : Int) ≤ (zn : Int) := by omega
      have hmm := @run_makeMap Try.prog
      have HLA := Lib.hid (show lathB s rs zs = true from lath_iff.2 ⟨HP2.out, HP3.out⟩)
      clear hz hz2 hot
      rcases Bool.eq_false_or_eq_true (profB s (senT rs zs (zn : Int))) with h5 | h5
      · have HR := Lib.hid (sen_ok HQ.out (by rw [HNZ.out]; exact HZ.out) h5)
        have HBD := Lib.hid (fun k (hk : k < 5) => show (0 ≤ rawK zs ws bs rs k ∧ rawK zs ws bs rs k ≤ 1200000000000000000) ∧ (0 ≤ rawK zs ws bs (senT rs zs (zn : Int)) k ∧ rawK zs ws bs (senT rs zs (zn : Int)) k ≤ 1200000000000000000) from ⟨rawK_bd HMQ.out HP2.out HP3.out k hk, rawK_bd HMQ.out h5 (by rw [HTL.out]; exact HP3.out) k hk⟩)
        go_enter Try.func31, Try.ntmps31
        go_wp2_with fail
        generalize ((w.alloc (.cells #[.slice a0 nz k0, .slice a1 nw k1, .slice a2 nb k2] 25)).alloc (.cells #[.string s, .slice av nr cv] 45)) = wA at *
        refine HMD.out.mono ?_
        rintro e w1 ⟨rfl, hb⟩
        have hbx := below_of hb (below_al w1 (.cells #[.string s, .slice av nr cv, .slice a0 nz k0, .slice a0 nz k0, .slice a1 nw k1, .slice a2 nb k2] 88)) hb.size
        have e0 : (w1.alloc (.cells #[.string s, .slice av nr cv, .slice a0 nz k0, .slice a0 nz k0, .slice a1 nw k1, .slice a2 nb k2] 88)).cell? ⟨w1.heap.size, 0, none⟩ = some (.string s) := by go_simp
        have e1 : (w1.alloc (.cells #[.string s, .slice av nr cv, .slice a0 nz k0, .slice a0 nz k0, .slice a1 nw k1, .slice a2 nb k2] 88)).cell? ⟨w1.heap.size, 1, none⟩ = some (.slice av nr cv) := by go_simp
        have e2 : (w1.alloc (.cells #[.string s, .slice av nr cv, .slice a0 nz k0, .slice a0 nz k0, .slice a1 nw k1, .slice a2 nb k2] 88)).cell? ⟨w1.heap.size, 2, none⟩ = some (.slice a0 nz k0) := by go_simp
        have e3 : (w1.alloc (.cells #[.string s, .slice av nr cv, .slice a0 nz k0, .slice a0 nz k0, .slice a1 nw k1, .slice a2 nb k2] 88)).cell? ⟨w1.heap.size, 3, none⟩ = some (.slice a0 nz k0) := by go_simp
        have e4 : (w1.alloc (.cells #[.string s, .slice av nr cv, .slice a0 nz k0, .slice a0 nz k0, .slice a1 nw k1, .slice a2 nb k2] 88)).cell? ⟨w1.heap.size, 4, none⟩ = some (.slice a1 nw k1) := by go_simp
        have e5 : (w1.alloc (.cells #[.string s, .slice av nr cv, .slice a0 nz k0, .slice a0 nz k0, .slice a1 nw k1, .slice a2 nb k2] 88)).cell? ⟨w1.heap.size, 5, none⟩ = some (.slice a2 nb k2) := by go_simp
        have hl1 := alloc_lt2 w1 (.cells #[.string s, .slice av nr cv, .slice a0 nz k0, .slice a0 nz k0, .slice a1 nw k1, .slice a2 nb k2] 88)
        have HB1 := Lib.hid (below_of HBA.out hbx HBA.out.size)
        have hB0 : w.heap.size ≤ w1.heap.size := Nat.le_trans HBA.out.size hb.size
        clear hb hbx
        generalize hBB : w1.heap.size = B at *
        go_wp2_with fail
        generalize w1.alloc (.cells #[.string s, .slice av nr cv, .slice a0 nz k0, .slice a0 nz k0, .slice a1 nw k1, .slice a2 nb k2] 88) = wB at *
        refine (has_any (zn : Int) a0 nz k0 _ (by omega)).mono ?_
        rintro e w2 ⟨rfl, hb⟩
        rw [HZ.out]
        have d0 : w2.cell? ⟨B, 0, none⟩ = some (.string s) := (below_cell hb _ _ hl1).trans e0
        have d1 : w2.cell? ⟨B, 1, none⟩ = some (.slice av nr cv) := (below_cell hb _ _ hl1).trans e1
        have d2 : w2.cell? ⟨B, 2, none⟩ = some (.slice a0 nz k0) := (below_cell hb _ _ hl1).trans e2
        have d3 : w2.cell? ⟨B, 3, none⟩ = some (.slice a0 nz k0) := (below_cell hb _ _ hl1).trans e3
        have d4 : w2.cell? ⟨B, 4, none⟩ = some (.slice a1 nw k1) := (below_cell hb _ _ hl1).trans e4
        have d5 : w2.cell? ⟨B, 5, none⟩ = some (.slice a2 nb k2) := (below_cell hb _ _ hl1).trans e5
        have hl2 := Nat.lt_of_lt_of_le hl1 hb.size
        have HB2 := Lib.hid (below_of HB1.out hb HB1.out.size)
        clear hb e0 e1 e2 e3 e4 e5
        have hbm := below_al w2 (.map #[] 0)
        have hsm := sumsMap_put (g := fun y => if (zn : Int) = y then ((1 : Nat) : Int) else 0) sumsMap_empty (zn : Int) 1 ⟨hz0', by omega⟩ (by omega) (fun y => by simp)
        have HSM := Lib.hid hsm
        have H0 := Lib.hid (World.ownsMap_made (H := Unit) w2 Try.prog 2 (plainElem Try.prog 2))
        obtain ⟨wu, hr1, ho1, hg1⟩ := H0.out.update lawZ Try.underlying108 (by unfold maxLen; omega) (keyOf_int_mk Try.underlying2 hwz) (d := (.lit (.int .i64 1) : DataW Unit)) (ps := []) (plainElem_int Try.underlying2 (WalkArith.wf_i64 (by omega)))
        have hrun1 : (Instr.mapUpdate 108 (.map (some w2.heap.size)) (.int .i64 (zn : Int)) (.int .i64 1)).run Try.prog (w2.alloc (.map #[] 0)) = .ok () wu := hr1
        have HM1 := Lib.hid (show MapF wu w2.heap.size 1 (fun y => if (zn : Int) = y then ((1 : Nat) : Int) else 0) from ⟨_, ho1, HSM.out⟩)
        have hbu : Below w2.heap.size w2 wu := hbm.grown hg1 hbm.size (fun j hj => by cases hj; exact Nat.le_refl _)
        have HB3 := Lib.hid (below_of HB2.out hbu HB2.out.size)
        have u0 : wu.cell? ⟨B, 0, none⟩ = some (.string s) := (below_cell hbu _ _ hl2).trans d0
        have u1 : wu.cell? ⟨B, 1, none⟩ = some (.slice av nr cv) := (below_cell hbu _ _ hl2).trans d1
        have u2 : wu.cell? ⟨B, 2, none⟩ = some (.slice a0 nz k0) := (below_cell hbu _ _ hl2).trans d2
        have u3 : wu.cell? ⟨B, 3, none⟩ = some (.slice a0 nz k0) := (below_cell hbu _ _ hl2).trans d3
        have u4 : wu.cell? ⟨B, 4, none⟩ = some (.slice a1 nw k1) := (below_cell hbu _ _ hl2).trans d4
        have u5 : wu.cell? ⟨B, 5, none⟩ = some (.slice a2 nb k2) := (below_cell hbu _ _ hl2).trans d5
        have hl3 := Nat.lt_of_lt_of_le hl2 hbu.size
        clear hr1 ho1 hg1 hsm hbm hbu
        go_wp2_with fail
        refine (turnedM_ok s av a0 a1 a2 nr nz nw nb cv k0 k1 k2 w2.heap.size 1 _ rs (senT rs zs (zn : Int)) zs wu (HVW.out wu HB3.out).1 hs (H0K.out wu HB3.out) HM1.out HLA.out (fun y _ => by split <;> omega) HOT.out h5).mono ?_
        rintro e w3 ⟨an, cn, rfl, hrv, hb⟩
        have HRV := Lib.hid hrv
        have t0 : w3.cell? ⟨B, 0, none⟩ = some (.string s) := (below_cell hb _ _ hl3).trans u0
        have t1 : w3.cell? ⟨B, 1, none⟩ = some (.slice av nr cv) := (below_cell hb _ _ hl3).trans u1
        have t2 : w3.cell? ⟨B, 2, none⟩ = some (.slice a0 nz k0) := (below_cell hb _ _ hl3).trans u2
        have t3 : w3.cell? ⟨B, 3, none⟩ = some (.slice a0 nz k0) := (below_cell hb _ _ hl3).trans u3
        have t4 : w3.cell? ⟨B, 4, none⟩ = some (.slice a1 nw k1) := (below_cell hb _ _ hl3).trans u4
        have t5 : w3.cell? ⟨B, 5, none⟩ = some (.slice a2 nb k2) := (below_cell hb _ _ hl3).trans u5
        have hl4 := Nat.lt_of_lt_of_le hl3 hb.size
        have HB4 := Lib.hid (below_of HB3.out hb HB3.out.size)
        clear hb hrv u0 u1 u2 u3 u4 u5
        generalize hln : (senT rs zs (zn : Int)).length = ln at *
        have hbx := below_al w3 (.cells #[.string s, .slice an ln cn, .slice a0 nz k0, .slice a0 nz k0, .slice a1 nw k1, .slice a2 nb k2] 88)
        have n0 : (w3.alloc (.cells #[.string s, .slice an ln cn, .slice a0 nz k0, .slice a0 nz k0, .slice a1 nw k1, .slice a2 nb k2] 88)).cell? ⟨w3.heap.size, 0, none⟩ = some (.string s) := by go_simp
        have n1 : (w3.alloc (.cells #[.string s, .slice an ln cn, .slice a0 nz k0, .slice a0 nz k0, .slice a1 nw k1, .slice a2 nb k2] 88)).cell? ⟨w3.heap.size, 1, none⟩ = some (.slice an ln cn) := by go_simp
        have n2 : (w3.alloc (.cells #[.string s, .slice an ln cn, .slice a0 nz k0, .slice a0 nz k0, .slice a1 nw k1, .slice a2 nb k2] 88)).cell? ⟨w3.heap.size, 2, none⟩ = some (.slice a0 nz k0) := by go_simp
        have n3 : (w3.alloc (.cells #[.string s, .slice an ln cn, .slice a0 nz k0, .slice a0 nz k0, .slice a1 nw k1, .slice a2 nb k2] 88)).cell? ⟨w3.heap.size, 3, none⟩ = some (.slice a0 nz k0) := by go_simp
        have n4 : (w3.alloc (.cells #[.string s, .slice an ln cn, .slice a0 nz k0, .slice a0 nz k0, .slice a1 nw k1, .slice a2 nb k2] 88)).cell? ⟨w3.heap.size, 4, none⟩ = some (.slice a1 nw k1) := by go_simp
        have n5 : (w3.alloc (.cells #[.string s, .slice an ln cn, .slice a0 nz k0, .slice a0 nz k0, .slice a1 nw k1, .slice a2 nb k2] 88)).cell? ⟨w3.heap.size, 5, none⟩ = some (.slice a2 nb k2) := by go_simp
        have hln5 := alloc_lt2 w3 (.cells #[.string s, .slice an ln cn, .slice a0 nz k0, .slice a0 nz k0, .slice a1 nw k1, .slice a2 nb k2] 88)
        have x0 : (w3.alloc (.cells #[.string s, .slice an ln cn, .slice a0 nz k0, .slice a0 nz k0, .slice a1 nw k1, .slice a2 nb k2] 88)).cell? ⟨B, 0, none⟩ = some (.string s) := (below_cell hbx _ _ hl4).trans t0
        have x1 : (w3.alloc (.cells #[.string s, .slice an ln cn, .slice a0 nz k0, .slice a0 nz k0, .slice a1 nw k1, .slice a2 nb k2] 88)).cell? ⟨B, 1, none⟩ = some (.slice av nr cv) := (below_cell hbx _ _ hl4).trans t1
        have x2 : (w3.alloc (.cells #[.string s, .slice an ln cn, .slice a0 nz k0, .slice a0 nz k0, .slice a1 nw k1, .slice a2 nb k2] 88)).cell? ⟨B, 2, none⟩ = some (.slice a0 nz k0) := (below_cell hbx _ _ hl4).trans t2
        have x3 : (w3.alloc (.cells #[.string s, .slice an ln cn, .slice a0 nz k0, .slice a0 nz k0, .slice a1 nw k1, .slice a2 nb k2] 88)).cell? ⟨B, 3, none⟩ = some (.slice a0 nz k0) := (below_cell hbx _ _ hl4).trans t3
        have x4 : (w3.alloc (.cells #[.string s, .slice an ln cn, .slice a0 nz k0, .slice a0 nz k0, .slice a1 nw k1, .slice a2 nb k2] 88)).cell? ⟨B, 4, none⟩ = some (.slice a1 nw k1) := (below_cell hbx _ _ hl4).trans t4
        have x5 : (w3.alloc (.cells #[.string s, .slice an ln cn, .slice a0 nz k0, .slice a0 nz k0, .slice a1 nw k1, .slice a2 nb k2] 88)).cell? ⟨B, 5, none⟩ = some (.slice a2 nb k2) := (below_cell hbx _ _ hl4).trans t5
        have hl5 := Nat.lt_of_lt_of_le hl4 hbx.size
        have HB5 := Lib.hid (below_of HB4.out hbx HB4.out.size)
        have HRV5 := Lib.hid (rvW (by rw [hln, HTL.out, HNR.out]; exact Nat.le_trans (Nat.le_refl _) (by have := (HVW.out w (Below.refl _ _)).1.1; rw [HNR.out] at this; exact this)) (rv_kept hbx HRV.out))
        clear hbx HRV t0 t1 t2 t3 t4 t5
        go_wp2_with fail
        generalize w3.alloc (.cells #[.string s, .slice an ln cn, .slice a0 nz k0, .slice a0 nz k0, .slice a1 nw k1, .slice a2 nb k2] 88) = wN at *
        refine (HPT.out (.slice av nr cv) rs wN HB5.out (HVW.out wN HB5.out) HP2.out HP3.out).mono ?_
        rintro e w4 ⟨rfl, hb⟩
        have m0 := (below_cell hb _ _ hln5).trans n0
        have m1 := (below_cell hb _ _ hln5).trans n1
        have m2 := (below_cell hb _ _ hln5).trans n2
        have m3 := (below_cell hb _ _ hln5).trans n3
        have m4 := (below_cell hb _ _ hln5).trans n4
        have m5 := (below_cell hb _ _ hln5).trans n5
        have hln6 := Nat.lt_of_lt_of_le hln5 hb.size
        have HB6 := Lib.hid (below_of HB5.out hb HB5.out.size)
        have HRV6 := Lib.hid (ringsW_kept hb HRV5.out)
        clear hb n0 n1 n2 n3 n4 n5 HRV5
        have HM0 := Lib.hid (parZ_0 (rawK zs ws bs rs) (senK zs ws bs rs (zn : Int)))
        have HMN := Lib.hid (fun k (hk : k < 5) => parZ_next (rawK zs ws bs rs) (senK zs ws bs rs (zn : Int)) k hk)
        have HMG := Lib.hid (fun k (hk : k < 5) => parZ_get (rawK zs ws bs rs) (senK zs ws bs rs (zn : Int)) k hk)
        have HML := Lib.hid (fun k => parZ_len (rawK zs ws bs rs) (senK zs ws bs rs (zn : Int)) k)
        have HMF := Lib.hid (HR.out.2.trans (senL_list zs ws bs rs (zn : Int)))
        have HSK := Lib.hid (fun k => show senK zs ws bs rs (zn : Int) k = rawK zs ws bs rs k - rawK zs ws bs (senT rs zs (zn : Int)) k from rfl)
        have HYY := Lib.hid (fun k (hk : k < 5) => show [rawK zs ws bs (senT rs zs (zn : Int)) 0, rawK zs ws bs (senT rs zs (zn : Int)) 1, rawK zs ws bs (senT rs zs (zn : Int)) 2, rawK zs ws bs (senT rs zs (zn : Int)) 3, rawK zs ws bs (senT rs zs (zn : Int)) 4].getD k 0 = rawK zs ws bs (senT rs zs (zn : Int)) k by
          rcases (by omega : k = 0 ∨ k = 1 ∨ k = 2 ∨ k = 3 ∨ k = 4) with rfl | rfl | rfl | rfl | rfl <;> rfl)
        obtain ⟨r0, hr0⟩ : ∃ r, rawK zs ws bs rs 0 = r := ⟨_, rfl⟩
        obtain ⟨r1, hr1⟩ : ∃ r, rawK zs ws bs rs 1 = r := ⟨_, rfl⟩
        obtain ⟨r2, hr2⟩ : ∃ r, rawK zs ws bs rs 2 = r := ⟨_, rfl⟩
        obtain ⟨r3, hr3⟩ : ∃ r, rawK zs ws bs rs 3 = r := ⟨_, rfl⟩
        obtain ⟨r4, hr4⟩ : ∃ r, rawK zs ws bs rs 4 = r := ⟨_, rfl⟩
        rw [hr0, hr1, hr2, hr3, hr4] at HM0 ⊢
        have hby := below_al w4 (.cells #[.int .i64 r0, .int .i64 r1, .int .i64 r2, .int .i64 r3, .int .i64 r4] 92)
        have HRW := Lib.hid (show (w4.alloc (.cells #[.int .i64 r0, .int .i64 r1, .int .i64 r2, .int .i64 r3, .int .i64 r4] 92)).ownsRow w4.heap.size 92 1 (.slice (some ⟨w4.heap.size, 0, none⟩) 5 5) 5 (i64s (parZ (rawK zs ws bs rs) (senK zs ws bs rs (zn : Int)) 0)) from by
          rw [HM0.out]; exact row_box w4 #[.int .i64 r0, .int .i64 r1, .int .i64 r2, .int .i64 r3, .int .i64 r4] 92 5 _ rfl rfl (by unfold maxLen; omega))
        have p0 := (below_cell hby _ _ hln6).trans m0
        have p1 := (below_cell hby _ _ hln6).trans m1
        have p2 := (below_cell hby _ _ hln6).trans m2
        have p3 := (below_cell hby _ _ hln6).trans m3
        have p4 := (below_cell hby _ _ hln6).trans m4
        have p5 := (below_cell hby _ _ hln6).trans m5
        have HB7 := Lib.hid (below_of HB6.out hby HB6.out.size)
        have HRV7 := Lib.hid (ringsW_kept hby HRV6.out)
        have hG := alloc_lt2 w4 (.cells #[.int .i64 r0, .int .i64 r1, .int .i64 r2, .int .i64 r3, .int .i64 r4] 92)
        have hw4 : w.heap.size ≤ w4.heap.size := HB6.out.size
        clear hby m0 m1 m2 m3 m4 m5 hr0 hr1 hr2 hr3 hr4 HRV6
        go_wp2_with fail
        generalize w4.alloc (.cells #[.int .i64 r0, .int .i64 r1, .int .i64 r2, .int .i64 r3, .int .i64 r4] 92) = wP at *
        refine (HPT.out (.slice an ln cn) (senT rs zs (zn : Int)) wP HB7.out HRV7.out h5 (by rw [hln, HTL.out]; exact HP3.out)).mono ?_
        rintro e w5 ⟨rfl, hb⟩
        have HRX := Lib.hid (row_keep1 hb HRW.out)
        have HB8 := Lib.hid (below_of HB7.out hb HB7.out.size)
        have hG5 := Nat.lt_of_lt_of_le hG hb.size
        clear hb p0 p1 p2 p3 p4 p5 HRW
        have HIX := Lib.hid (fun k (hk : k < 5) w => index5 (rawK zs ws bs (senT rs zs (zn : Int)) 0) (rawK zs ws bs (senT rs zs (zn : Int)) 1) (rawK zs ws bs (senT rs zs (zn : Int)) 2) (rawK zs ws bs (senT rs zs (zn : Int)) 3) (rawK zs ws bs (senT rs zs (zn : Int)) 4) k hk w)
        generalize hGG : w4.heap.size = G at *
        go_wp2
        go_loopw [44] (fun i wr => ∃ k : Nat, k ≤ 5 ∧ i = .int .i64 k ∧ wr.ownsRow G 92 1 (.slice (some ⟨G, 0, none⟩) 5 5) 5 (i64s (parZ (rawK zs ws bs rs) (senK zs ws bs rs (zn : Int)) k)) ∧ Below w.heap.size w wr) (fun i _ => 5 - (intOf i).toNat)
        case atStart => exact ⟨0, by omega, rfl, HRX.out, HB8.out⟩
        case round =>
          obtain ⟨k, hk, rfl, hown, hbw⟩ := hrel
          have HO := Lib.hid hown
          have HBW := Lib.hid hbw
          clear hown hbw
          by_cases hlt : k < 5
          · have hx := fun w => HIX.out k hlt w
            rw [HYY.out k hlt] at hx
            obtain ⟨⟨b0, b1⟩, b2, b3⟩ := HBD.out k hlt
            have HN := Lib.hid (HMN.out k hlt)
            have HKK := Lib.hid (HSK.out k)
            have hat : wr.cell? ⟨G, k, none⟩ = some (.int .i64 (rawK zs ws bs rs k)) := by
              rw [HO.out.cellAt k (by omega), i64s_get _ k (by rw [HML.out]; exact hlt), HMG.out k hlt]
            have hfz := HO.out.frozenAt k
            generalize rawK zs ws bs (senT rs zs (zn : Int)) k = y at *
            generalize rawK zs ws bs rs k = x at *
            have hw : IntKind.i64.wrap (x - y) = x - y := IntWalk.i64_in _ (by omega)
            have hk0 : (0 : Int) ≤ (k : Int) := by omega
            have hk1 : (k : Int) < 5 := by omega
            have HS := Lib.hid (HO.out.stored k (.int .i64 (x - y))).1
            go_wp2
            go_roundw
            case rel => exact ⟨k + 1, by omega, by go_num, by rw [← HN.out, ← i64s_setZ, HKK.out]; exact HS.out, HBW.out.setCell (by simp <;> omega) _⟩
            case measure => simp [intOf]; omega
          · obtain rfl : k = 5 := by omega
            have HOF := Lib.hid HO.out
            go_wp2
            go_ret2
            exact ⟨.slice (some ⟨G, 0, none⟩) 5 5, ret_iv HR.out.1.symm, by rw [HMF.out]; exact iv_base (iv_of_row (HML.out 5) HOF.out) hw4, HBW.out⟩
      · have HR := Lib.hid (senC_6 HQ.out (by rw [HNZ.out]; exact HZ.out) h5)
        have HL := Lib.hid (sen_no HR.out (by decide))
        go_enter Try.func31, Try.ntmps31
        go_wp2_with fail
        generalize ((w.alloc (.cells #[.slice a0 nz k0, .slice a1 nw k1, .slice a2 nb k2] 25)).alloc (.cells #[.string s, .slice av nr cv] 45)) = wA at *
        refine HMD.out.mono ?_
        rintro e w1 ⟨rfl, hb⟩
        have hbx := below_of hb (below_al w1 (.cells #[.string s, .slice av nr cv, .slice a0 nz k0, .slice a0 nz k0, .slice a1 nw k1, .slice a2 nb k2] 88)) hb.size
        have e0 : (w1.alloc (.cells #[.string s, .slice av nr cv, .slice a0 nz k0, .slice a0 nz k0, .slice a1 nw k1, .slice a2 nb k2] 88)).cell? ⟨w1.heap.size, 0, none⟩ = some (.string s) := by go_simp
        have e1 : (w1.alloc (.cells #[.string s, .slice av nr cv, .slice a0 nz k0, .slice a0 nz k0, .slice a1 nw k1, .slice a2 nb k2] 88)).cell? ⟨w1.heap.size, 1, none⟩ = some (.slice av nr cv) := by go_simp
        have e2 : (w1.alloc (.cells #[.string s, .slice av nr cv, .slice a0 nz k0, .slice a0 nz k0, .slice a1 nw k1, .slice a2 nb k2] 88)).cell? ⟨w1.heap.size, 2, none⟩ = some (.slice a0 nz k0) := by go_simp
        have e3 : (w1.alloc (.cells #[.string s, .slice av nr cv, .slice a0 nz k0, .slice a0 nz k0, .slice a1 nw k1, .slice a2 nb k2] 88)).cell? ⟨w1.heap.size, 3, none⟩ = some (.slice a0 nz k0) := by go_simp
        have e4 : (w1.alloc (.cells #[.string s, .slice av nr cv, .slice a0 nz k0, .slice a0 nz k0, .slice a1 nw k1, .slice a2 nb k2] 88)).cell? ⟨w1.heap.size, 4, none⟩ = some (.slice a1 nw k1) := by go_simp
        have e5 : (w1.alloc (.cells #[.string s, .slice av nr cv, .slice a0 nz k0, .slice a0 nz k0, .slice a1 nw k1, .slice a2 nb k2] 88)).cell? ⟨w1.heap.size, 5, none⟩ = some (.slice a2 nb k2) := by go_simp
        have hl1 := alloc_lt2 w1 (.cells #[.string s, .slice av nr cv, .slice a0 nz k0, .slice a0 nz k0, .slice a1 nw k1, .slice a2 nb k2] 88)
        have HB1 := Lib.hid (below_of HBA.out hbx HBA.out.size)
        have hB0 : w.heap.size ≤ w1.heap.size := Nat.le_trans HBA.out.size hb.size
        clear hb hbx
        generalize hBB : w1.heap.size = B at *
        go_wp2_with fail
        generalize w1.alloc (.cells #[.string s, .slice av nr cv, .slice a0 nz k0, .slice a0 nz k0, .slice a1 nw k1, .slice a2 nb k2] 88) = wB at *
        refine (has_any (zn : Int) a0 nz k0 _ (by omega)).mono ?_
        rintro e w2 ⟨rfl, hb⟩
        rw [HZ.out]
        have d0 : w2.cell? ⟨B, 0, none⟩ = some (.string s) := (below_cell hb _ _ hl1).trans e0
        have d1 : w2.cell? ⟨B, 1, none⟩ = some (.slice av nr cv) := (below_cell hb _ _ hl1).trans e1
        have d2 : w2.cell? ⟨B, 2, none⟩ = some (.slice a0 nz k0) := (below_cell hb _ _ hl1).trans e2
        have d3 : w2.cell? ⟨B, 3, none⟩ = some (.slice a0 nz k0) := (below_cell hb _ _ hl1).trans e3
        have d4 : w2.cell? ⟨B, 4, none⟩ = some (.slice a1 nw k1) := (below_cell hb _ _ hl1).trans e4
        have d5 : w2.cell? ⟨B, 5, none⟩ = some (.slice a2 nb k2) := (below_cell hb _ _ hl1).trans e5
        have hl2 := Nat.lt_of_lt_of_le hl1 hb.size
        have HB2 := Lib.hid (below_of HB1.out hb HB1.out.size)
        clear hb e0 e1 e2 e3 e4 e5
        have hbm := below_al w2 (.map #[] 0)
        have hsm := sumsMap_put (g := fun y => if (zn : Int) = y then ((1 : Nat) : Int) else 0) sumsMap_empty (zn : Int) 1 ⟨hz0', by omega⟩ (by omega) (fun y => by simp)
        have HSM := Lib.hid hsm
        have H0 := Lib.hid (World.ownsMap_made (H := Unit) w2 Try.prog 2 (plainElem Try.prog 2))
        obtain ⟨wu, hr1, ho1, hg1⟩ := H0.out.update lawZ Try.underlying108 (by unfold maxLen; omega) (keyOf_int_mk Try.underlying2 hwz) (d := (.lit (.int .i64 1) : DataW Unit)) (ps := []) (plainElem_int Try.underlying2 (WalkArith.wf_i64 (by omega)))
        have hrun1 : (Instr.mapUpdate 108 (.map (some w2.heap.size)) (.int .i64 (zn : Int)) (.int .i64 1)).run Try.prog (w2.alloc (.map #[] 0)) = .ok () wu := hr1
        have HM1 := Lib.hid (show MapF wu w2.heap.size 1 (fun y => if (zn : Int) = y then ((1 : Nat) : Int) else 0) from ⟨_, ho1, HSM.out⟩)
        have hbu : Below w2.heap.size w2 wu := hbm.grown hg1 hbm.size (fun j hj => by cases hj; exact Nat.le_refl _)
        have HB3 := Lib.hid (below_of HB2.out hbu HB2.out.size)
        have u0 : wu.cell? ⟨B, 0, none⟩ = some (.string s) := (below_cell hbu _ _ hl2).trans d0
        have u1 : wu.cell? ⟨B, 1, none⟩ = some (.slice av nr cv) := (below_cell hbu _ _ hl2).trans d1
        have u2 : wu.cell? ⟨B, 2, none⟩ = some (.slice a0 nz k0) := (below_cell hbu _ _ hl2).trans d2
        have u3 : wu.cell? ⟨B, 3, none⟩ = some (.slice a0 nz k0) := (below_cell hbu _ _ hl2).trans d3
        have u4 : wu.cell? ⟨B, 4, none⟩ = some (.slice a1 nw k1) := (below_cell hbu _ _ hl2).trans d4
        have u5 : wu.cell? ⟨B, 5, none⟩ = some (.slice a2 nb k2) := (below_cell hbu _ _ hl2).trans d5
        have hl3 := Nat.lt_of_lt_of_le hl2 hbu.size
        clear hr1 ho1 hg1 hsm hbm hbu
        go_wp2_with fail
        refine (turnedM_no s av a0 a1 a2 nr nz nw nb cv k0 k1 k2 w2.heap.size 1 _ rs (senT rs zs (zn : Int)) zs wu (HVW.out wu HB3.out).1 hs (H0K.out wu HB3.out) HM1.out HLA.out (fun y _ => by split <;> omega) HOT.out h5).mono ?_
        rintro e w3 ⟨rfl, hb⟩
        have HB4 := Lib.hid (below_of (below_of HB3.out hb HB3.out.size) (below_al w3 (.cells #[.string ⟨#[]⟩, .slice none 0 0, .slice none 0 0, .slice none 0 0, .slice none 0 0, .slice none 0 0] 88)) (below_of HB3.out hb HB3.out.size).size)
        clear hb u0 u1 u2 u3 u4 u5
        go_wp2
        go_ret2
        exact ⟨_, ret_iv HR.out.symm, by rw [HL.out]; exact .inl ⟨rfl, rfl⟩, HB4.out⟩
    · have HR := Lib.hid (senC_2 HQ.out (by rw [HNZ.out]; exact hz))
      have HL := Lib.hid (sen_no HR.out (by decide))
      have HZ := Lib.hid hz
      clear hz
      go_enter Try.func31, Try.ntmps31
      go_wp2_with fail
      generalize ((w.alloc (.cells #[.slice a0 nz k0, .slice a1 nw k1, .slice a2 nb k2] 25)).alloc (.cells #[.string s, .slice av nr cv] 45)) = wA at *
      refine HMD.out.mono ?_
      rintro e w1 ⟨rfl, hb⟩
      have hbx := below_of hb (below_al w1 (.cells #[.string s, .slice av nr cv, .slice a0 nz k0, .slice a0 nz k0, .slice a1 nw k1, .slice a2 nb k2] 88)) hb.size
      have e2 : (w1.alloc (.cells #[.string s, .slice av nr cv, .slice a0 nz k0, .slice a0 nz k0, .slice a1 nw k1, .slice a2 nb k2] 88)).cell? ⟨w1.heap.size, 2, none⟩ = some (.slice a0 nz k0) := by go_simp
      have HB1 := Lib.hid (below_of HBA.out hbx HBA.out.size)
      clear hb hbx
      go_wp2_with fail
      refine (has_any z a0 nz k0 _ (by omega)).mono ?_
      rintro e w2 ⟨rfl, hb⟩
      rw [HZ.out]
      have HB2 := Lib.hid (below_of HB1.out hb HB1.out.size)
      clear hb e2
      go_wp2
      go_ret2
      exact ⟨_, ret_iv HR.out.symm, by rw [HL.out]; exact .inl ⟨rfl, rfl⟩, HB2.out⟩
  · have HMD := Lib.hid (modelled_err v0 v1 v2 v zs ws bs s rs _ (ints_kept hba h0) (mrows_kept hba h1) (ints_kept hba h2) (rings_kept hba hv.1) hs h)
    have HR := Lib.hid (senC_n (z := z) h)
    have HL := Lib.hid (sen_no HR.out h)
    obtain ⟨c, hc⟩ : ∃ c, askM zs ws bs s rs = c := ⟨_, rfl⟩
    rw [hc] at h HMD HR
    have hne : (c != 0) = true := bne_iff_ne.2 h
    obtain ⟨a0, k0, rfl⟩ := ints_form h0
    obtain ⟨a1, k1, rfl⟩ := mrows_form h1
    obtain ⟨a2, k2, rfl⟩ := ints_form h2
    obtain ⟨av, cv, rfl⟩ := rings_form hv.1
    clear hba h0 h1 h2 hv h hc
    generalize zs.length = nz at *
    generalize ws.length = nw at *
    generalize bs.length = nb at *
    generalize rs.length = nr at *
    go_enter Try.func31, Try.ntmps31
    go_wp2_with fail
    generalize ((w.alloc (.cells #[.slice a0 nz k0, .slice a1 nw k1, .slice a2 nb k2] 25)).alloc (.cells #[.string s, .slice av nr cv] 45)) = wA at *
    refine HMD.out.mono ?_
    rintro e w1 ⟨rfl, hb⟩
    have HBF := Lib.hid (below_of HBA.out (below_of hb (below_al w1 (.cells #[.string ⟨#[]⟩, .slice none 0 0, .slice none 0 0, .slice none 0 0, .slice none 0 0, .slice none 0 0] 88)) hb.size) HBA.out.size)
    clear hb
    go_wp2
    go_ret2
    exact ⟨_, ret_iv HR.out.symm, by rw [HL.out]; exact .inl ⟨rfl, rfl⟩, HBF.out⟩
end Go.Proofs.Ytpllmehcndinkaa
