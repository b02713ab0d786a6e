/- At every argument ReadMelt answers as its model, in memory of its own. Condition: the package-level variables that the row lists hold what the program's text lays (the card ties them). -/
import Derived.Test.YtjicnfgpbbganabDoorCards
import Derived.Test.YtjicnfgpbbganabDoorTie
import Derived.Test.YtjicnfgpbbganabDoorBase
import Derived.Test.YtjicnfgpbbganabDoorLaidOut
import Derived.Test.YtjicnfgpbbganabDoorMRdL
import Derived.Test.YtjicnfgpbbganabDoorMRdI
import Derived.Deep.DeepHandedRow
import Derived.Deep.DeepWitnessRowRef
import Derived.LaidMore
import Derived.Lay
namespace Go.Proofs.YtjicnfgpbbganabDoor.fnExactReadMelt
open Go.ChangeShapes Go.WideShapes Go.ChangeAt Go.RowKit
open Go.ChangeMaps (open_string shut_string)
set_option linter.unusedVariables false

theorem own : ownKnob Tryd.prog.godebug = none := by kernel_rfl

theorem facts {W : World} (h : laidMetH Tryd.prog Rows.fnExactReadMeltRow.laid W) : ReadOk W := by
  rw [MakeChecks.laidMetH_plain _ _ _ (by kernel_rfl)] at h
  have h2 := laid_tail (laid_tail h)
  have h3 := laid_tail (laid_tail h2)
  exact ⟨pow_of h2, err_of gSyn (by kernel_rfl) Tryd.underlying42 (laid_tail h3), err_of gRan (by kernel_rfl) Tryd.underlying42 h3⟩
noncomputable def laidWorld (os : Os) : World := (World.doorLaid Tryd.prog 400 os).layVars Tryd.prog [("unicode/utf8.first", Rows.laid_unicode_utf8_first)]
set_option maxRecDepth 100000 in
theorem laid_met (os : Os) : laidMetH Tryd.prog Rows.fnExactReadMeltRow.laid ((laidWorld os).forCall (fun _ _ => 0) ⟨#[], #[.string ⟨#[]⟩], []⟩).memory :=
  laidMetH_of_parts3 (fuel := 8) (laidMet_of_run' 8 (by kernel_rfl) (by kernel_rfl)) (by kernel_rfl) (by kernel_rfl)
theorem max_of {W : World} (h : W.ShapedOpen Tryd.prog) : MxOk W := Tryd.laysM147.s1_3 W h
theorem row_stL {w : World} {B g n cap : Nat} {ss : List ByteArray} (hn : ss.length = n) (hl : n ≤ 1048576) (hg : g < w.heap.size) (h : w.ownsRow B 9 1 (.slice (some ⟨g, 0, none⟩) n cap) n (stV ss)) : StAt w (.slice (some ⟨g, 0, none⟩) n cap) ss := by
  subst hn
  exact ⟨hl, .inr ⟨g, 0, cap, rfl, hg, fun j hj => by rw [Nat.zero_add, h.cellAt j (by omega)]; exact stV_get ss j hj⟩⟩

set_option maxRecDepth 100000 in
set_option maxHeartbeats 4000000 in
theorem walk (a0 : ByteArray) (w0 : a0.size ≤ maxLen) (w : World) (hF : Hid (ReadOk w)) (hSh : Hid (w.ShapedOpen Tryd.prog)) :
    Calls Tryd.prog 3 #[.string a0] w fun e w' => e = .returned (.bool true) ∧ Below w.heap.size w w' := by
  have HL := Lib.hid (show LsOk w from ⟨hF.out, max_of hSh.out⟩)
  clear hF hSh
  have hmax : a0.size ≤ 9223372036854775807 := by unfold maxLen at w0; omega
  by_cases hbig : 1048576 < a0.size
  · go_enter Tryd.func3, Tryd.ntmps3
    go_wp2
    go_ret
    exact ⟨rfl, Below.refl _ _⟩
  · have HSP := Lib.hid (fun W => specRM_any a0 W (by omega))
    have HIM := Lib.hid (fun W (h : LsOk W) => implRM_any a0 W (by omega) (Lib.hid h))
    have HSO := Lib.hid (fun s ss z h => rmA_some (x := a0) (s := s) (ss := ss) (z := z) h)
    generalize rmA a0 = R at *
    cases R with
    | none =>
      go_enter Tryd.func3, Tryd.ntmps3
      go_wp2_with fail
      refine (HSP.out _).mono ?_
      rintro e w1 ⟨rfl, hb1⟩
      have HB1 := Lib.hid hb1
      clear hb1
      have HA1 := Lib.hid (below_of HB1.out (below_alT w1 (.cells #[.string ⟨#[]⟩, .slice none 0 0, .int .i64 0] 24)) HB1.out.size)
      have hl1 := alloc_ltT w1 (.cells #[.string ⟨#[]⟩, .slice none 0 0, .int .i64 0] 24)
      have X1 := (mlF_alloc w1 (.string ⟨#[]⟩) (.slice none 0 0) (.int .i64 0) 24)
      go_wp2_with fail
      generalize w1.alloc (.cells #[.string ⟨#[]⟩, .slice none 0 0, .int .i64 0] 24) = wA at *
      refine (HIM.out _ (ls_kept HA1.out HL.out)).mono ?_
      rintro e w2 ⟨rfl, hb2⟩
      have X2 := mlF_kept hb2 hl1 X1
      have HB2 := Lib.hid (below_of HA1.out hb2 HA1.out.size)
      have hl2 := Nat.lt_of_lt_of_le hl1 hb2.size
      clear hb2 X1
      have hba := below_alT w2 (.cells #[.string ⟨#[]⟩, .slice none 0 0, .int .i64 0] 24)
      have HA2 := Lib.hid (below_of HB2.out hba HB2.out.size)
      have X3 := mlF_kept hba hl2 X2
      have Y3 := (mlF_alloc w2 (.string ⟨#[]⟩) (.slice none 0 0) (.int .i64 0) 24)
      have hm1 := Nat.lt_of_lt_of_le hl2 hba.size
      have hm2 := alloc_ltT w2 (.cells #[.string ⟨#[]⟩, .slice none 0 0, .int .i64 0] 24)
      clear hba X2
      obtain ⟨⟨c0, c1, c2⟩, -⟩ := X3
      go_wp2_with fail
      generalize w2.alloc (.cells #[.string ⟨#[]⟩, .slice none 0 0, .int .i64 0] 24) = wB at *
      obtain ⟨⟨d0, d1, d2⟩, -⟩ := Y3
      refine (eqMelt_any ⟨#[]⟩ _ _ [] 0 _ ⟨by simp, .inl ⟨_, _, rfl, rfl⟩⟩ ⟨by simp, .inl ⟨_, _, rfl, rfl⟩⟩).mono ?_
      rintro e w3 ⟨rfl, hb3⟩
      have e0 := (below_cell hb3 _ _ hm1).trans c0
      have e1 := (below_cell hb3 _ _ hm1).trans c1
      have e2 := (below_cell hb3 _ _ hm1).trans c2
      have f0 := (below_cell hb3 _ _ hm2).trans d0
      have f1 := (below_cell hb3 _ _ hm2).trans d1
      have f2 := (below_cell hb3 _ _ hm2).trans d2
      have HB3 := Lib.hid (below_of HA2.out hb3 HA2.out.size)
      have k1 := Nat.lt_of_lt_of_le hm1 hb3.size
      have k2 := Nat.lt_of_lt_of_le hm2 hb3.size
      clear hb3 c0 c1 c2 d0 d1 d2
      go_wp2_with fail
      refine (markMl_nil ⟨#[]⟩ 0 _).mono ?_
      rintro e w4 ⟨rfl, hb4⟩
      have c0 := (below_cell hb4 _ _ k1).trans e0
      have c1 := (below_cell hb4 _ _ k1).trans e1
      have c2 := (below_cell hb4 _ _ k1).trans e2
      have d0 := (below_cell hb4 _ _ k2).trans f0
      have d1 := (below_cell hb4 _ _ k2).trans f1
      have d2 := (below_cell hb4 _ _ k2).trans f2
      have HB4 := Lib.hid (below_of HB3.out hb4 HB3.out.size)
      have l1 := Nat.lt_of_lt_of_le k1 hb4.size
      have l2 := Nat.lt_of_lt_of_le k2 hb4.size
      clear hb4 e0 e1 e2 f0 f1 f2
      go_wp2_with fail
      refine (heldMl_nil ⟨#[]⟩ 0 _).mono ?_
      rintro e w5 ⟨rfl, hb5⟩
      have e0 := (below_cell hb5 _ _ l1).trans c0
      have e1 := (below_cell hb5 _ _ l1).trans c1
      have e2 := (below_cell hb5 _ _ l1).trans c2
      have f0 := (below_cell hb5 _ _ l2).trans d0
      have f1 := (below_cell hb5 _ _ l2).trans d1
      have f2 := (below_cell hb5 _ _ l2).trans d2
      have HB5 := Lib.hid (below_of HB4.out hb5 HB4.out.size)
      have m1 := Nat.lt_of_lt_of_le l1 hb5.size
      have m2 := Nat.lt_of_lt_of_le l2 hb5.size
      clear hb5 c0 c1 c2 d0 d1 d2
      go_wp2_with fail
      refine (HIM.out _ (ls_kept HB5.out HL.out)).mono ?_
      rintro e w6 ⟨rfl, hb6⟩
      have HA6 := below_alT w6 (.cells #[.string ⟨#[]⟩, .slice none 0 0, .int .i64 0] 24)
      have n1 := Nat.lt_of_lt_of_le m1 hb6.size
      have n2 := Nat.lt_of_lt_of_le m2 hb6.size
      have c0 := (below_cell HA6 _ _ n1).trans ((below_cell hb6 _ _ m1).trans e0)
      have c1 := (below_cell HA6 _ _ n1).trans ((below_cell hb6 _ _ m1).trans e1)
      have c2 := (below_cell HA6 _ _ n1).trans ((below_cell hb6 _ _ m1).trans e2)
      have d0 := (below_cell HA6 _ _ n2).trans ((below_cell hb6 _ _ m2).trans f0)
      have d1 := (below_cell HA6 _ _ n2).trans ((below_cell hb6 _ _ m2).trans f1)
      have d2 := (below_cell HA6 _ _ n2).trans ((below_cell hb6 _ _ m2).trans f2)
      have HB6 := Lib.hid (below_of (below_of HB5.out hb6 HB5.out.size) HA6 (below_of HB5.out hb6 HB5.out.size).size)
      have o2 := Nat.lt_of_lt_of_le n2 HA6.size
      obtain ⟨⟨g0, g1, g2⟩, -⟩ := (mlF_alloc w6 (.string ⟨#[]⟩) (.slice none 0 0) (.int .i64 0) 24)
      clear hb6 HA6 e0 e1 e2 f0 f1 f2
      go_wp2_with fail
      generalize w6.alloc (.cells #[.string ⟨#[]⟩, .slice none 0 0, .int .i64 0] 24) = wC at *
      refine (eqMelt_any ⟨#[]⟩ _ _ [] 0 _ ⟨by simp, .inl ⟨_, _, rfl, rfl⟩⟩ ⟨by simp, .inl ⟨_, _, rfl, rfl⟩⟩).mono ?_
      rintro e w7 ⟨rfl, hb7⟩
      have f0 := (below_cell hb7 _ _ o2).trans d0
      have f1 := (below_cell hb7 _ _ o2).trans d1
      have f2 := (below_cell hb7 _ _ o2).trans d2
      have HB7 := Lib.hid (below_of HB6.out hb7 HB6.out.size)
      clear hb7 c0 c1 c2 d0 d1 d2 g0 g1 g2
      go_wp2_with fail
      refine (heldMl_nil ⟨#[]⟩ 0 _).mono ?_
      rintro e w8 ⟨rfl, hb8⟩
      have HB8 := Lib.hid (below_of HB7.out hb8 HB7.out.size)
      clear hb8
      go_wp2
      go_ret
      exact ⟨rfl, HB8.out⟩
    | some r =>
      obtain ⟨s, ss, z⟩ := r
      obtain ⟨hq1, hq16⟩ := HSO.out s ss z rfl
      obtain ⟨n, hn⟩ : ∃ n, ss.length = n := ⟨_, rfl⟩
      have HN := Lib.hid hn
      rw [hn] at hq1 hq16
      have hneg : ¬ (((1 + n : Nat) : Int)) < 0 := by omega
      have heq : ((((1 + n : Nat) : Int)) != (((1 + n : Nat) : Int))) = false := by simp
      clear hn HSO
      go_enter Tryd.func3, Tryd.ntmps3
      go_wp2_with fail
      refine (HSP.out _).mono ?_
      rintro e w1 ⟨v1, rfl, ⟨g1, c1', rfl, ho1, hlt1, hown1⟩, hb1⟩
      rw [HN.out] at hown1 ⊢
      have HB1 := Lib.hid hb1
      have HO1 := Lib.hid hown1
      clear hb1 hown1
      have hba1 := below_alT w1 (.cells #[.string s, .slice (some ⟨g1, 0, none⟩) n c1', .int .i64 z] 24)
      have HA1 := Lib.hid (below_of HB1.out hba1 HB1.out.size)
      have hl1 := alloc_ltT w1 (.cells #[.string s, .slice (some ⟨g1, 0, none⟩) n c1', .int .i64 z] 24)
      have X1 := (mlF_alloc w1 (.string s) (.slice (some ⟨g1, 0, none⟩) n c1') (.int .i64 z) 24)
      have HO1A := Lib.hid (row_keepT hba1 HO1.out)
      have hg1A := Nat.lt_of_lt_of_le hlt1 hba1.size
      have hwsz : w1.heap.size < (w1.alloc (.cells #[.string s, .slice (some ⟨g1, 0, none⟩) n c1', .int .i64 z] 24)).heap.size := hl1
      clear hba1
      go_wp2_with fail
      generalize w1.alloc (.cells #[.string s, .slice (some ⟨g1, 0, none⟩) n c1', .int .i64 z] 24) = wA at *
      refine (HIM.out _ (ls_kept HA1.out HL.out)).mono ?_
      rintro e w2 ⟨v2, rfl, ⟨g2, c2', rfl, ho2, hlt2, hown2⟩, hb2⟩
      rw [HN.out] at hown2 ⊢
      have X2 := mlF_kept hb2 hl1 X1
      have HO12 := Lib.hid (row_keepT hb2 HO1A.out)
      have hg12 := Nat.lt_of_lt_of_le hg1A hb2.size
      have HB2 := Lib.hid (below_of HA1.out hb2 HA1.out.size)
      have hl2 := Nat.lt_of_lt_of_le hl1 hb2.size
      have HO2 := Lib.hid hown2
      clear hb2 X1 hown2
      have hba := below_alT w2 (.cells #[.string s, .slice (some ⟨g2, 0, none⟩) n c2', .int .i64 z] 24)
      have HA2 := Lib.hid (below_of HB2.out hba HB2.out.size)
      have X3 := mlF_kept hba hl2 X2
      have Y3 := (mlF_alloc w2 (.string s) (.slice (some ⟨g2, 0, none⟩) n c2') (.int .i64 z) 24)
      have HO13 := Lib.hid (row_keepT hba HO12.out)
      have HO23 := Lib.hid (row_keepT hba HO2.out)
      have hg13 := Nat.lt_of_lt_of_le hg12 hba.size
      have hg23 := Nat.lt_of_lt_of_le hlt2 hba.size
      have hm1 := Nat.lt_of_lt_of_le hl2 hba.size
      have hm2 := alloc_ltT w2 (.cells #[.string s, .slice (some ⟨g2, 0, none⟩) n c2', .int .i64 z] 24)
      clear hba X2
      obtain ⟨⟨c0, c1, c2⟩, -⟩ := X3
      go_wp2_with fail
      generalize w2.alloc (.cells #[.string s, .slice (some ⟨g2, 0, none⟩) n c2', .int .i64 z] 24) = wB at *
      obtain ⟨⟨d0, d1, d2⟩, -⟩ := Y3
      refine (eqMelt_any s _ _ ss z _ (row_stL HN.out (by omega) hg23 HO23.out) (row_stL HN.out (by omega) hg13 HO13.out)).mono ?_
      rintro e w3 ⟨rfl, hb3⟩
      have e0 := (below_cell hb3 _ _ hm1).trans c0
      have e1 := (below_cell hb3 _ _ hm1).trans c1
      have e2 := (below_cell hb3 _ _ hm1).trans c2
      have f0 := (below_cell hb3 _ _ hm2).trans d0
      have f1 := (below_cell hb3 _ _ hm2).trans d1
      have f2 := (below_cell hb3 _ _ hm2).trans d2
      have HO14 := Lib.hid (row_keepT hb3 HO13.out)
      have HO24 := Lib.hid (row_keepT hb3 HO23.out)
      have hg14 := Nat.lt_of_lt_of_le hg13 hb3.size
      have HB3 := Lib.hid (below_of HA2.out hb3 HA2.out.size)
      have k1 := Nat.lt_of_lt_of_le hm1 hb3.size
      have k2 := Nat.lt_of_lt_of_le hm2 hb3.size
      clear hb3 c0 c1 c2 d0 d1 d2
      go_wp2_with fail
      refine (markMl_any s ss z wA.heap.size g2 c2' n _ (Lib.hid HN.out) hq16 ho2 HO24.out).mono ?_
      rintro e w4 ⟨rfl, ho4, hbut, hb4⟩
      have hne1 : w1.heap.size ≠ g2 := by omega
      have hne2 : w2.heap.size ≠ g2 := by omega
      have c0 := (hbut _ 0 k1 hne1).trans e0
      have c1 := (hbut _ 1 k1 hne1).trans e1
      have c2 := (hbut _ 2 k1 hne1).trans e2
      have d0 := (hbut _ 0 k2 hne2).trans f0
      have d1 := (hbut _ 1 k2 hne2).trans f1
      have d2 := (hbut _ 2 k2 hne2).trans f2
      have HM4 := Lib.hid ho4
      have HO15 := Lib.hid (show StAt w4 (.slice (some ⟨g1, 0, none⟩) n c1') ss from
        ⟨by rw [HN.out]; omega, .inr ⟨g1, 0, c1', by rw [HN.out], Nat.lt_of_lt_of_le hg14 hb4.size, fun j hj => by
          rw [Nat.zero_add, hbut _ _ hg14 (by omega), HO14.out.cellAt j (by rw [HN.out] at hj; omega)]; exact stV_get ss j hj⟩⟩)
      have HB4 := Lib.hid (HB3.out.trans (hb4.mono (by have := HA1.out.size; omega)))
      have l1 := Nat.lt_of_lt_of_le k1 hb4.size
      have l2 := Nat.lt_of_lt_of_le k2 hb4.size
      clear ho4 hbut hb4 e0 e1 e2 f0 f1 f2
      go_wp2_with fail
      refine (heldMl_any s z wA.heap.size g2 c2' n _ hq16 HM4.out).mono ?_
      rintro e w5 ⟨rfl, hb5⟩
      have e0 := (below_cell hb5 _ _ l1).trans c0
      have e1 := (below_cell hb5 _ _ l1).trans c1
      have e2 := (below_cell hb5 _ _ l1).trans c2
      have f0 := (below_cell hb5 _ _ l2).trans d0
      have f1 := (below_cell hb5 _ _ l2).trans d1
      have f2 := (below_cell hb5 _ _ l2).trans d2
      have HM5 := Lib.hid (row_keepT hb5 HM4.out)
      have HO16 := Lib.hid (st_kept hb5 HO15.out)
      have HB5 := Lib.hid (below_of HB4.out hb5 HB4.out.size)
      have m1 := Nat.lt_of_lt_of_le l1 hb5.size
      have m2 := Nat.lt_of_lt_of_le l2 hb5.size
      clear hb5 c0 c1 c2 d0 d1 d2
      go_wp2_with fail
      refine (HIM.out _ (ls_kept HB5.out HL.out)).mono ?_
      rintro e w6 ⟨v3, rfl, ⟨g3, c3', rfl, ho3, hlt3, hown3⟩, hb6⟩
      rw [HN.out] at hown3 ⊢
      have HA6 := below_alT w6 (.cells #[.string s, .slice (some ⟨g3, 0, none⟩) n c3', .int .i64 z] 24)
      have n1 := Nat.lt_of_lt_of_le m1 hb6.size
      have n2 := Nat.lt_of_lt_of_le m2 hb6.size
      have c0 := (below_cell HA6 _ _ n1).trans ((below_cell hb6 _ _ m1).trans e0)
      have c1 := (below_cell HA6 _ _ n1).trans ((below_cell hb6 _ _ m1).trans e1)
      have c2 := (below_cell HA6 _ _ n1).trans ((below_cell hb6 _ _ m1).trans e2)
      have d0 := (below_cell HA6 _ _ n2).trans ((below_cell hb6 _ _ m2).trans f0)
      have d1 := (below_cell HA6 _ _ n2).trans ((below_cell hb6 _ _ m2).trans f1)
      have d2 := (below_cell HA6 _ _ n2).trans ((below_cell hb6 _ _ m2).trans f2)
      have HM6 := Lib.hid (row_keepT HA6 (row_keepT hb6 HM5.out))
      have HO17 := Lib.hid (st_kept HA6 (st_kept hb6 HO16.out))
      have HO37 := Lib.hid (row_keepT HA6 hown3)
      have hg37 := Nat.lt_of_lt_of_le hlt3 HA6.size
      have HB6 := Lib.hid (below_of (below_of HB5.out hb6 HB5.out.size) HA6 (below_of HB5.out hb6 HB5.out.size).size)
      have o2 := Nat.lt_of_lt_of_le n2 HA6.size
      obtain ⟨⟨g0, q1, q2⟩, -⟩ := (mlF_alloc w6 (.string s) (.slice (some ⟨g3, 0, none⟩) n c3') (.int .i64 z) 24)
      clear hb6 HA6 e0 e1 e2 f0 f1 f2 hown3
      go_wp2_with fail
      generalize w6.alloc (.cells #[.string s, .slice (some ⟨g3, 0, none⟩) n c3', .int .i64 z] 24) = wC at *
      refine (eqMelt_any s _ _ ss z _ (row_stL HN.out (by omega) hg37 HO37.out) HO17.out).mono ?_
      rintro e w7 ⟨rfl, hb7⟩
      have f0 := (below_cell hb7 _ _ o2).trans d0
      have f1 := (below_cell hb7 _ _ o2).trans d1
      have f2 := (below_cell hb7 _ _ o2).trans d2
      have HM7 := Lib.hid (row_keepT hb7 HM6.out)
      have HB7 := Lib.hid (below_of HB6.out hb7 HB6.out.size)
      clear hb7 c0 c1 c2 d0 d1 d2 g0 q1 q2
      go_wp2_with fail
      refine (heldMl_any s z wA.heap.size g2 c2' n _ hq16 HM7.out).mono ?_
      rintro e w8 ⟨rfl, hb8⟩
      have HB8 := Lib.hid (below_of HB7.out hb8 HB7.out.size)
      clear hb8
      go_wp2
      go_ret
      exact ⟨rfl, HB8.out⟩

set_option maxRecDepth 100000 in
theorem contract (H : Type) (enc : TypeId × Value → H) (W : World) (base : Nat) (args : Array Value) (ds gs : List (DataW H)) (before : List MemPlace)
    (hval : ∀ (j : Nat) t v, Tryd.f3.params[j]? = some t → args[j]? = some v → Value.okWide Tryd.prog W .any base t v)
    (hW : DataW.Whole enc Tryd.prog Tryd.f3.params.toList Rows.fnExactReadMeltSpec.vars false W args.toList ds gs before) (hL : laidMetH Tryd.prog Rows.fnExactReadMeltRow.laid W) (hSh : W.ShapedOpen Tryd.prog) :
    Calls Tryd.prog 3 args W fun e W' => ∃ v, e = .returned v ∧ Rows.fnExactReadMeltSpec.post enc Tryd.prog Tryd.f3 false true false false W args v W' := by
  have hF := facts hL
  have hW' := hW
  obtain ⟨p, q, hA0, hV, rfl, hfz, hnd⟩ := hW
  have hA : DataW.TrodAll enc Tryd.prog W 0 (fun _ => true) true Tryd.f3.params.toList args.toList ds p := hA0
  rw [Tryd.params3] at hA hval
  obtain ⟨v0, vs0, d0, ds0, p0, q0, hargs, rfl, rfl, h0, r0⟩ := trodAll_cons hA
  obtain ⟨rfl, rfl, rfl⟩ := trodAll_nil r0
  obtain rfl : args = #[v0] := by cases args; simp_all
  obtain ⟨rfl, rfl⟩ := trodVars_none hV
  simp only [List.append_nil] at hW'
  have hlt0 : ∀ x ∈ p0, x.block < W.heap.size := fun x hx => hW'.lt x (by simp [hx])
  have kept0 := fun (W2 : World) (hb : Below W.heap.size W W2) => Below.trod laidOut (by kernel_rfl) (of_decide_eq_true (by kernel_rfl)) h0 hb hlt0
  obtain ⟨a0, rfl, -, -, w0⟩ := open_string Tryd.underlying9 (hval 0 9 v0 rfl rfl) h0
  clear hA0
  refine (walk a0 w0 W (Lib.hid hF) (Lib.hid hSh)).mono fun e W' ⟨he, hg⟩ => ?_
  subst he
  refine ⟨_, rfl, post_at (pa := p0) (pv := []) hW' (by simp) hg (fun _ _ => (trodAll_cons_mk (shut_bool Tryd.underlying4 _) trodAll_mk0)) ?_ rfl⟩
  have hk := (trodAll_cons_mk (kept0 W' hg) trodAll_mk0)
  simp only [List.append_nil] at hk
  exact hk

set_option maxRecDepth 100000 in
theorem reads (os : Os) {H : Type} (enc : TypeId × Value → H) : DataW.whole enc Tryd.prog ((laidWorld os).forCall (fun _ _ => 0) ⟨#[], #[.string ⟨#[]⟩], []⟩).memory Tryd.f3.params.toList Rows.fnExactReadMeltSpec.vars false (#[.string ⟨#[]⟩] : Array Value).toList 8
    = some ([.lit (.string [])], [], []) := by kernel_rfl

set_option maxRecDepth 100000 in
theorem lifted (os : Os) (started : os.Started) (H : Type) (enc : TypeId × Value → H) (F : Stop.Interp) :
    ReturnsInHanded {} Tryd.checked os 3 .any ((OpenSpec.ofChange Rows.fnExactReadMeltSpec).preRow enc Tryd.prog Tryd.f3 Rows.fnExactReadMeltRow.domain false Rows.fnExactReadMeltRow.laid) (((OpenSpec.ofChange Rows.fnExactReadMeltSpec).at F).post enc Tryd.prog Tryd.f3 false true false false) := by
  refine returnsInHanded_of_row (C := Tryd.checked) (s := OpenSpec.ofChange Rows.fnExactReadMeltSpec) own started (by kernel_rfl) Tryd.func3
    (witness_row_atRef (enc := enc) (C := Tryd.checked) false (laidWorld os) #[.string ⟨#[]⟩] (World.layVars_os _ _ _) (by kernel_rfl) (by kernel_rfl) (by kernel_rfl)
      (OpenSpec.preRow_of_cond 8 (reads os enc) (by kernel_rfl) (fun k hk => by cases hk) (by kernel_rfl) (laid_met os))) ?_
  intro W base args ds gs before hval hW _ _ hr hL hSh _
  exact contract H enc W base args ds gs before hval hW hL hSh

theorem said : Rows.FnExactReadMeltSaid :=
  OpenClaim.holds_of_cond 3 Tryd.f3 rfl rfl rfl rfl rfl rfl rfl ⟨rfl, rfl, rfl, rfl, rfl⟩ rfl rfl rfl rfl rfl (by kernel_rfl) Tryd.func3 (by kernel_rfl)
    (of_decide_eq_true (by kernel_rfl)) (by unfold Func.isWrapper; first | (rw [if_pos (by decide +kernel)]; kernel_rfl) | (rw [if_neg (by decide +kernel)]; exact ⟨rfl, rfl⟩))
    (fun os started H enc _ F => by rw [OpenClaim.pre_eq_preRow]; exact lifted os started H enc F)

theorem plain (f : FuncId) (fn : Func) (hf : Tryd.pinned.checked.prog.funcNamed "loop.example/g00952/laws.FnExactReadMelt" = some f) (hfn : Tryd.pinned.checked.prog.funcs[f]? = some fn) :
    true = Tryd.pinned.checked.prog.looks [] ∧ ∀ (j : Nat) t, fn.params[j]? = some t → Tryd.pinned.checked.prog.wantsStandIn t = false := by
  obtain rfl : f = 3 := Option.some.inj ((show Tryd.prog.funcNamed "loop.example/g00952/laws.FnExactReadMelt" = some 3 by kernel_rfl).symm.trans hf) |>.symm
  obtain rfl : fn = Tryd.f3 := (Option.some.inj (Tryd.func3.symm.trans hfn)).symm
  refine ⟨by kernel_rfl, fun j t ht => ?_⟩
  rw [Tryd.params3] at ht
  obtain rfl : t = 9 := by simpa using Array.mem_of_getElem? ht
  exact (show Tryd.prog.wantsStandIn 9 = false by kernel_rfl)
end Go.Proofs.YtjicnfgpbbganabDoor.fnExactReadMelt

namespace Go.Proofs.YtjicnfgpbbganabDoor
/-- The given card. -/
theorem fnExactReadMelt_holds : Rows.FnExactReadMeltCardSaid :=
  Claim7.holds_tied_plain_at .later [] _ _ _ _ fnExactReadMelt.said (fun _ h => by cases h) (by kernel_rfl) (fun _ h => by cases h) fnExactReadMelt_row_tie rfl ⟨rfl, rfl⟩ (by kernel_rfl) rfl fnExactReadMelt.plain (by kernel_rfl)
#print axioms fnExactReadMelt_holds
end Go.Proofs.YtjicnfgpbbganabDoor
