/- SameProfile answers as its model at every two profiles. -/
import Derived.Test.YtojkijcdfnfnlaaRows
import Derived.Test.YtojkijcdfnfnlaaBase
import Derived.Test.YtojkijcdfnfnlaaLaidOut
import Derived.Test.YtojkijcdfnfnlaaProfArg
import Derived.Test.YtojkijcdfnfnlaaSameProf
namespace Go.Proofs.Ytojkijcdfnfnlaa.fnExactSameProfile
open Go.ChangeShapes Go.WideShapes Go.ChangeAt Go.RowKit
open Go.ChangeMaps (open_string shut_string)
set_option linter.unusedVariables false

theorem own : ownKnob Try.prog.godebug = none := by kernel_rfl

set_option maxRecDepth 100000 in
set_option maxHeartbeats 8000000 in
theorem walk (s : ByteArray) (a : Option Addr) (len cap : Nat) (s2 : ByteArray) (a2 : Option Addr) (len2 cap2 : Nat) (w0 : s.size ≤ 9223372036854775807 ∧ len ≤ 9223372036854775807) (w1' : s2.size ≤ 9223372036854775807 ∧ len2 ≤ 9223372036854775807) (w : World) (hI : len ≤ 1048576 → ∃ zs : List Rg, zs.length = len ∧ RingsAt w (.slice a len cap) zs) (hI2 : len2 ≤ 1048576 → ∃ zs : List Rg, zs.length = len2 ∧ RingsAt w (.slice a2 len2 cap2) zs) :
    Calls Try.prog 5 #[.agg #[.string s, .slice a len cap], .agg #[.string s2, .slice a2 len2 cap2]] w fun e w' => e = .returned (.bool true) ∧ Below w.heap.size w w' := by
  obtain ⟨hs, hlen⟩ := w0
  obtain ⟨hs2, hlen2⟩ := w1'
  by_cases hbig : s.size + len ≤ 1048576
  · have HL := Lib.hid (leftP_yes (show ((s.size : Int) + len ≤ 1048576) by omega))
    have HV := Lib.hid (show ∃ a' c', Value.slice a len cap = .slice a' len c' from ⟨_, _, rfl⟩)
    have HV2 := Lib.hid (show ∃ a' c', Value.slice a2 len2 cap2 = .slice a' len2 c' from ⟨_, _, rfl⟩)
    obtain ⟨zs, hz, hzs⟩ := hI (by omega)
    have HZ := Lib.hid hzs
    have HN := Lib.hid hz
    clear hI hz hzs
    by_cases hbig2 : s.size + len + s2.size + len2 ≤ 1048576
    · have HL2 := Lib.hid (leftP_yes (show ((s2.size : Int) + len2 ≤ 1048576 - s.size - len) by omega))
      obtain ⟨zs2, hz, hzs⟩ := hI2 (by omega)
      have HZ2 := Lib.hid hzs
      have HN2 := Lib.hid hz
      clear hI2 hz hzs
      generalize Value.slice a len cap = v at *
      generalize Value.slice a2 len2 cap2 = v2 at *
      go_enter Try.func5, Try.ntmps5
      go_wp2_with fail
      refine (szProf_v s v len 1048576 _ HV hs hlen (by omega) (by omega)).mono ?_
      rintro e w1 ⟨rfl, hb⟩
      rw [HL.out]
      have a0 : w1.cell? ⟨w.heap.size, 0, none⟩ = some (.string s) := by rw [below_cell hb _ _ (by simp; omega)]; go_simp
      have a1 : w1.cell? ⟨w.heap.size, 1, none⟩ = some v := by rw [below_cell hb _ _ (by simp; omega)]; go_simp
      have b0 : w1.cell? ⟨w.heap.size + 1, 0, none⟩ = some (.string s2) := by rw [below_cell hb _ _ (by simp)]; go_simp
      have b1 : w1.cell? ⟨w.heap.size + 1, 1, none⟩ = some v2 := by rw [below_cell hb _ _ (by simp)]; go_simp
      have HB1 := Lib.hid (below_of (((Below.refl _ _).alloc (Nat.le_refl _) _).alloc (by simp) _) hb (by simp <;> omega))
      have hz1 : w.heap.size + 2 ≤ w1.heap.size := by have := hb.size; simp at this; omega
      clear hb
      have hlp : 0 ≤ (1048576 : Int) - s.size - len := by omega
      go_wp2_with fail
      refine (szProf_v s2 v2 len2 (1048576 - s.size - len) _ HV2 hs2 hlen2 hlp (by omega)).mono ?_
      rintro e w2 ⟨rfl, hb⟩
      rw [HL2.out]
      have a0 : w2.cell? ⟨w.heap.size, 0, none⟩ = some (.string s) := by rw [below_cell hb _ _ (by omega)]; exact a0
      have a1 : w2.cell? ⟨w.heap.size, 1, none⟩ = some v := by rw [below_cell hb _ _ (by omega)]; exact a1
      have b0 : w2.cell? ⟨w.heap.size + 1, 0, none⟩ = some (.string s2) := by rw [below_cell hb _ _ (by omega)]; exact b0
      have b1 : w2.cell? ⟨w.heap.size + 1, 1, none⟩ = some v2 := by rw [below_cell hb _ _ (by omega)]; exact b1
      have HB2 := Lib.hid (below_of HB1.out hb HB1.out.size)
      have hz2 : w.heap.size + 2 ≤ w2.heap.size := by have := hb.size; omega
      clear hb
      have hlq : 0 ≤ (1048576 : Int) - s.size - len - s2.size - len2 := by omega
      have HIa := Lib.hid (rings_kept HB2.out HZ.out)
      have HIb := Lib.hid (rings_kept HB2.out HZ2.out)
      have hzz : w.heap.size < w2.heap.size ∧ w.heap.size + 1 < w2.heap.size := by omega
      go_wp2_with fail
      go_region_held3 (fun w' => w'.cell? ⟨w.heap.size + 1, 0, none⟩ = some (.string s2) ∧ w'.cell? ⟨w.heap.size + 1, 1, none⟩ = some v2 ∧ w'.cell? ⟨w.heap.size, 0, none⟩ = some (.string s) ∧ w'.cell? ⟨w.heap.size, 1, none⟩ = some v ∧ Below w2.heap.size w2 w')
        (first | exact ⟨b0, b1, a0, a1, ⟨rfl, rfl, rfl, Nat.le_refl _, fun _ _ => rfl⟩⟩ | exact held4 (W := w2.drew) hzz b0 b1 a0 a1 ⟨rfl, rfl, rfl, Nat.le_refl _, fun _ _ => rfl⟩ hb6 | exact held4 (W := w6) hzz b0 b1 a0 a1 (below_of (w1 := w2.drew) ⟨rfl, rfl, rfl, Nat.le_refl _, fun _ _ => rfl⟩ hb6 (Nat.le_refl _)) hb7 | exact held4 (W := w7) hzz b0 b1 a0 a1 (below_of (below_of (w1 := w2.drew) ⟨rfl, rfl, rfl, Nat.le_refl _, fun _ _ => rfl⟩ hb6 (Nat.le_refl _)) hb7 (Nat.le_trans (show w2.heap.size ≤ w6.heap.size from hb6.size) (Nat.le_refl _))) hb8 | assumption)
        (first
          | (go_at_call_of 19 (Value.agg #[.string s, v]); refine (toProf_any s v zs w2.drew (rings_kept (w := w2) (w' := w2.drew) ⟨rfl, rfl, rfl, Nat.le_refl _, fun _ _ => rfl⟩ HIa.out)).mono ?_; rintro e w6 ⟨v6, rfl, ho6, hb6⟩)
          | (go_at_call_of 19 (Value.agg #[.string s2, v2]); refine (toProf_any s2 v2 zs2 w6 (rings_kept hb6 (rings_kept (w := w2) (w' := w2.drew) ⟨rfl, rfl, rfl, Nat.le_refl _, fun _ _ => rfl⟩ HIb.out))).mono ?_; rintro e w7 ⟨v7, rfl, ho7, hb7⟩)
          | (go_at_call 22; refine (specSameP_any s s2 v6 v7 zs zs2 w7 (rings_kept hb7 (ownRAt_rings HIa.out.1 ho6)) (ownRAt_rings HIb.out.1 ho7)).mono ?_; rintro e w8 ⟨rfl, hb8⟩))
      have h26 : Below w2.heap.size w2 w6 := below_of (w1 := w2.drew) ⟨rfl, rfl, rfl, Nat.le_refl _, fun _ _ => rfl⟩ hb6 (Nat.le_refl _)
      have h27 := below_of h26 hb7 h26.size
      have hb := below_of h27 hb8 h27.size
      have a0 : w8.cell? ⟨w.heap.size, 0, none⟩ = some (.string s) := by rw [below_cell hb _ _ (by omega)]; exact a0
      have a1 : w8.cell? ⟨w.heap.size, 1, none⟩ = some v := by rw [below_cell hb _ _ (by omega)]; exact a1
      have b0 : w8.cell? ⟨w.heap.size + 1, 0, none⟩ = some (.string s2) := by rw [below_cell hb _ _ (by omega)]; exact b0
      have b1 : w8.cell? ⟨w.heap.size + 1, 1, none⟩ = some v2 := by rw [below_cell hb _ _ (by omega)]; exact b1
      have HB8 := Lib.hid (below_of HB2.out hb HB2.out.size)
      have hz8 : w.heap.size + 2 ≤ w8.heap.size := by have := hb.size; omega
      clear hb hb6 hb7 hb8 h26 h27 ho6 ho7 HIa HIb hzz
      go_wp2_with fail
      refine (toProf_any s v zs _ (rings_kept HB8.out HZ.out)).mono ?_
      rintro e w9 ⟨v9, rfl, ho, hb⟩
      have HO9 := Lib.hid (ownRAt_rings (by have := HN.out; omega) ho)
      have a0 : w9.cell? ⟨w.heap.size, 0, none⟩ = some (.string s) := by rw [below_cell hb _ _ (by omega)]; exact a0
      have a1 : w9.cell? ⟨w.heap.size, 1, none⟩ = some v := by rw [below_cell hb _ _ (by omega)]; exact a1
      have b0 : w9.cell? ⟨w.heap.size + 1, 0, none⟩ = some (.string s2) := by rw [below_cell hb _ _ (by omega)]; exact b0
      have b1 : w9.cell? ⟨w.heap.size + 1, 1, none⟩ = some v2 := by rw [below_cell hb _ _ (by omega)]; exact b1
      have HB9 := Lib.hid (below_of HB8.out hb HB8.out.size)
      have hz9 : w.heap.size + 2 ≤ w9.heap.size := by have := hb.size; omega
      obtain ⟨a9, c9, rfl⟩ := rings_form HO9.out
      clear hb ho
      have b0' : (w9.alloc (.cells #[.string s, .slice a9 zs.length c9] 35)).cell? ⟨w.heap.size + 1, 0, none⟩ = some (.string s2) := by rw [below_cell ((Below.refl _ _).alloc (Nat.le_refl _) _) _ _ (by omega)]; exact b0
      have b1' : (w9.alloc (.cells #[.string s, .slice a9 zs.length c9] 35)).cell? ⟨w.heap.size + 1, 1, none⟩ = some v2 := by rw [below_cell ((Below.refl _ _).alloc (Nat.le_refl _) _) _ _ (by omega)]; exact b1
      go_wp2_with fail
      refine (toProf_any s2 v2 zs2 _ (rings_kept (HB9.out.alloc HB9.out.size _) HZ2.out)).mono ?_
      rintro e w10 ⟨v10, rfl, ho, hb⟩
      have HO10 := Lib.hid (ownRAt_rings (by have := HN2.out; omega) ho)
      have HX10 := Lib.hid (rings_kept hb (rings_kept ((Below.refl _ _).alloc (Nat.le_refl _) _) HO9.out))
      have x0 : w10.cell? ⟨w9.heap.size, 0, none⟩ = some (.string s) := by rw [below_cell hb _ _ (by simp)]; go_simp
      have x1 : w10.cell? ⟨w9.heap.size, 1, none⟩ = some (.slice a9 zs.length c9) := by rw [below_cell hb _ _ (by simp)]; go_simp
      have a0 : w10.cell? ⟨w.heap.size, 0, none⟩ = some (.string s) := by rw [below_cell hb _ _ (by simp; omega), below_cell ((Below.refl _ _).alloc (Nat.le_refl _) _) _ _ (by omega)]; exact a0
      have a1 : w10.cell? ⟨w.heap.size, 1, none⟩ = some v := by rw [below_cell hb _ _ (by simp; omega), below_cell ((Below.refl _ _).alloc (Nat.le_refl _) _) _ _ (by omega)]; exact a1
      have b0 : w10.cell? ⟨w.heap.size + 1, 0, none⟩ = some (.string s2) := by rw [below_cell hb _ _ (by simp; omega), below_cell ((Below.refl _ _).alloc (Nat.le_refl _) _) _ _ (by omega)]; exact b0
      have b1 : w10.cell? ⟨w.heap.size + 1, 1, none⟩ = some v2 := by rw [below_cell hb _ _ (by simp; omega), below_cell ((Below.refl _ _).alloc (Nat.le_refl _) _) _ _ (by omega)]; exact b1
      have HB10 := Lib.hid (below_of (HB9.out.alloc HB9.out.size _) hb (by simp; omega))
      have hz10 : w.heap.size + 2 ≤ w10.heap.size ∧ w9.heap.size < w10.heap.size := by have := hb.size; simp at this; omega
      obtain ⟨a10, c10, rfl⟩ := rings_form HO10.out
      clear hb ho b0' b1'
      have x0' : (w10.alloc (.cells #[.string s2, .slice a10 zs2.length c10] 35)).cell? ⟨w9.heap.size, 0, none⟩ = some (.string s) := by rw [below_cell ((Below.refl _ _).alloc (Nat.le_refl _) _) _ _ (by omega)]; exact x0
      have x1' : (w10.alloc (.cells #[.string s2, .slice a10 zs2.length c10] 35)).cell? ⟨w9.heap.size, 1, none⟩ = some (.slice a9 zs.length c9) := by rw [below_cell ((Below.refl _ _).alloc (Nat.le_refl _) _) _ _ (by omega)]; exact x1
      go_wp2_with fail
      refine (implSameP_any s s2 _ _ zs zs2 _ (rings_kept ((Below.refl _ _).alloc (Nat.le_refl _) _) HX10.out) (rings_kept ((Below.refl _ _).alloc (Nat.le_refl _) _) HO10.out)).mono ?_
      rintro e w11 ⟨rfl, hb⟩
      clear x0' x1'
      have HX11 := Lib.hid (rings_kept hb (rings_kept ((Below.refl _ _).alloc (Nat.le_refl _) _) HX10.out))
      have HY11 := Lib.hid (rings_kept hb (rings_kept ((Below.refl _ _).alloc (Nat.le_refl _) _) HO10.out))
      have y0 : w11.cell? ⟨w10.heap.size, 0, none⟩ = some (.string s2) := by rw [below_cell hb _ _ (by simp)]; go_simp
      have y1 : w11.cell? ⟨w10.heap.size, 1, none⟩ = some (.slice a10 zs2.length c10) := by rw [below_cell hb _ _ (by simp)]; go_simp
      have a0 : w11.cell? ⟨w.heap.size, 0, none⟩ = some (.string s) := by rw [below_cell hb _ _ (by simp; omega), below_cell ((Below.refl _ _).alloc (Nat.le_refl _) _) _ _ (by omega)]; exact a0
      have a1 : w11.cell? ⟨w.heap.size, 1, none⟩ = some v := by rw [below_cell hb _ _ (by simp; omega), below_cell ((Below.refl _ _).alloc (Nat.le_refl _) _) _ _ (by omega)]; exact a1
      have b0 : w11.cell? ⟨w.heap.size + 1, 0, none⟩ = some (.string s2) := by rw [below_cell hb _ _ (by simp; omega), below_cell ((Below.refl _ _).alloc (Nat.le_refl _) _) _ _ (by omega)]; exact b0
      have b1 : w11.cell? ⟨w.heap.size + 1, 1, none⟩ = some v2 := by rw [below_cell hb _ _ (by simp; omega), below_cell ((Below.refl _ _).alloc (Nat.le_refl _) _) _ _ (by omega)]; exact b1
      have x0 : w11.cell? ⟨w9.heap.size, 0, none⟩ = some (.string s) := by rw [below_cell hb _ _ (by simp; omega), below_cell ((Below.refl _ _).alloc (Nat.le_refl _) _) _ _ (by omega)]; exact x0
      have x1 : w11.cell? ⟨w9.heap.size, 1, none⟩ = some (.slice a9 zs.length c9) := by rw [below_cell hb _ _ (by simp; omega), below_cell ((Below.refl _ _).alloc (Nat.le_refl _) _) _ _ (by omega)]; exact x1
      have HB11 := Lib.hid (below_of (HB10.out.alloc HB10.out.size _) hb (by simp; omega))
      have hz11 : w.heap.size + 2 ≤ w11.heap.size ∧ w9.heap.size < w11.heap.size ∧ w10.heap.size < w11.heap.size := by have := hb.size; simp at this; omega
      clear hb
      generalize sameP s s2 zs zs2 = r
      have hr : (r != r) = false := by simp
      have HA11 := Lib.hid (rings_kept HB11.out HZ.out)
      have hzz : w9.heap.size < w11.heap.size ∧ w.heap.size < w11.heap.size := by omega
      go_wp2
      go_region_held3 (fun w' => w'.cell? ⟨w.heap.size, 0, none⟩ = some (.string s) ∧ w'.cell? ⟨w.heap.size, 1, none⟩ = some v ∧ w'.cell? ⟨w9.heap.size, 0, none⟩ = some (.string s) ∧ w'.cell? ⟨w9.heap.size, 1, none⟩ = some (.slice a9 zs.length c9) ∧ Below w11.heap.size w11 w')
        (first | exact ⟨a0, a1, x0, x1, ⟨rfl, rfl, rfl, Nat.le_refl _, fun _ _ => rfl⟩⟩ | exact held4 (W := w11.drew) hzz a0 a1 x0 x1 ⟨rfl, rfl, rfl, Nat.le_refl _, fun _ _ => rfl⟩ hb12 | exact held4 (W := w12) hzz a0 a1 x0 x1 (below_of (w1 := w11.drew) ⟨rfl, rfl, rfl, Nat.le_refl _, fun _ _ => rfl⟩ hb12 (Nat.le_refl _)) hb13 | assumption)
        (first
          | (go_at_call 19; refine (toProf_any s v zs w11.drew (rings_kept (w := w11) (w' := w11.drew) ⟨rfl, rfl, rfl, Nat.le_refl _, fun _ _ => rfl⟩ HA11.out)).mono ?_; rintro e w12 ⟨v12, rfl, ho12, hb12⟩)
          | (go_at_call 21; refine (eqProf_any s _ v12 zs w12 (rings_kept hb12 (rings_kept (w := w11) (w' := w11.drew) ⟨rfl, rfl, rfl, Nat.le_refl _, fun _ _ => rfl⟩ HX11.out)) (ownRAt_rings HX11.out.1 ho12)).mono ?_; rintro e w13 ⟨rfl, hb13⟩))
      have h12 : Below w11.heap.size w11 w12 := below_of (w1 := w11.drew) ⟨rfl, rfl, rfl, Nat.le_refl _, fun _ _ => rfl⟩ hb12 (Nat.le_refl _)
      have hb := below_of h12 hb13 h12.size
      have b0 : w13.cell? ⟨w.heap.size + 1, 0, none⟩ = some (.string s2) := by rw [below_cell hb _ _ (by omega)]; exact b0
      have b1 : w13.cell? ⟨w.heap.size + 1, 1, none⟩ = some v2 := by rw [below_cell hb _ _ (by omega)]; exact b1
      have y0 : w13.cell? ⟨w10.heap.size, 0, none⟩ = some (.string s2) := by rw [below_cell hb _ _ (by omega)]; exact y0
      have y1 : w13.cell? ⟨w10.heap.size, 1, none⟩ = some (.slice a10 zs2.length c10) := by rw [below_cell hb _ _ (by omega)]; exact y1
      have HY13 := Lib.hid (rings_kept hb HY11.out)
      have HB13 := Lib.hid (below_of HB11.out hb HB11.out.size)
      have hzq : w10.heap.size < w13.heap.size ∧ w.heap.size + 1 < w13.heap.size := by have := hb.size; omega
      clear hb hb12 hb13 h12 ho12 a0 a1 x0 x1
      have HBb := Lib.hid (rings_kept HB13.out HZ2.out)
      go_wp2
      go_region_held3 (fun w' => w'.cell? ⟨w.heap.size + 1, 0, none⟩ = some (.string s2) ∧ w'.cell? ⟨w.heap.size + 1, 1, none⟩ = some v2 ∧ w'.cell? ⟨w10.heap.size, 0, none⟩ = some (.string s2) ∧ w'.cell? ⟨w10.heap.size, 1, none⟩ = some (.slice a10 zs2.length c10) ∧ Below w13.heap.size w13 w')
        (first | exact ⟨b0, b1, y0, y1, ⟨rfl, rfl, rfl, Nat.le_refl _, fun _ _ => rfl⟩⟩ | exact held4 (W := w13.drew) hzq b0 b1 y0 y1 ⟨rfl, rfl, rfl, Nat.le_refl _, fun _ _ => rfl⟩ hb14 | exact held4 (W := w14) hzq b0 b1 y0 y1 (below_of (w1 := w13.drew) ⟨rfl, rfl, rfl, Nat.le_refl _, fun _ _ => rfl⟩ hb14 (Nat.le_refl _)) hb15 | assumption)
        (first
          | (go_at_call 19; refine (toProf_any s2 v2 zs2 w13.drew (rings_kept (w := w13) (w' := w13.drew) ⟨rfl, rfl, rfl, Nat.le_refl _, fun _ _ => rfl⟩ HBb.out)).mono ?_; rintro e w14 ⟨v14, rfl, ho14, hb14⟩)
          | (go_at_call 21; refine (eqProf_any s2 _ v14 zs2 w14 (rings_kept hb14 (rings_kept (w := w13) (w' := w13.drew) ⟨rfl, rfl, rfl, Nat.le_refl _, fun _ _ => rfl⟩ HY13.out)) (ownRAt_rings HY13.out.1 ho14)).mono ?_; rintro e w15 ⟨rfl, hb15⟩))
      have h14 : Below w13.heap.size w13 w14 := below_of (w1 := w13.drew) ⟨rfl, rfl, rfl, Nat.le_refl _, fun _ _ => rfl⟩ hb14 (Nat.le_refl _)
      have hb := below_of h14 hb15 h14.size
      have HB15 := Lib.hid (below_of HB13.out hb HB13.out.size)
      clear hb hb14 hb15 h14 ho14 b0 b1 y0 y1
      go_wp2
      go_ret
      exact ⟨rfl, HB15.out⟩
    · have HL2 := Lib.hid (leftP_no (show (1048576 - s.size - len : Int) < s2.size + len2 by omega))
      clear hI2
      generalize Value.slice a len cap = v at *
      generalize Value.slice a2 len2 cap2 = v2 at *
      go_enter Try.func5, Try.ntmps5
      go_wp2_with fail
      refine (szProf_v s v len 1048576 _ HV hs hlen (by omega) (by omega)).mono ?_
      rintro e w1 ⟨rfl, hb⟩
      rw [HL.out]
      have b0 : w1.cell? ⟨w.heap.size + 1, 0, none⟩ = some (.string s2) := by rw [below_cell hb _ _ (by simp)]; go_simp
      have b1 : w1.cell? ⟨w.heap.size + 1, 1, none⟩ = some v2 := by rw [below_cell hb _ _ (by simp)]; go_simp
      have HB1 := Lib.hid (below_of (((Below.refl _ _).alloc (Nat.le_refl _) _).alloc (by simp) _) hb (by simp <;> omega))
      clear hb
      have hlp : 0 ≤ (1048576 : Int) - s.size - len := by omega
      go_wp2_with fail
      refine (szProf_v s2 v2 len2 (1048576 - s.size - len) _ HV2 hs2 hlen2 hlp (by omega)).mono ?_
      rintro e w2 ⟨rfl, hb⟩
      rw [HL2.out]
      have HB2 := Lib.hid (below_of HB1.out hb HB1.out.size)
      clear hb
      go_wp2
      go_ret
      exact ⟨rfl, HB2.out⟩
  · have HL := Lib.hid (leftP_no (show (1048576 : Int) < s.size + len by omega))
    have HV := Lib.hid (show ∃ a' c', Value.slice a len cap = .slice a' len c' from ⟨_, _, rfl⟩)
    clear hI hI2
    generalize Value.slice a len cap = v at *
    go_enter Try.func5, Try.ntmps5
    go_wp2_with fail
    refine (szProf_v s v len 1048576 _ HV hs hlen (by omega) (by omega)).mono ?_
    rintro e w1 ⟨rfl, hb⟩
    rw [HL.out]
    have HB1 := Lib.hid (below_of (((Below.refl _ _).alloc (Nat.le_refl _) _).alloc (by simp) _) hb (by simp <;> omega))
    clear hb
    go_wp2
    go_ret
    exact ⟨rfl, HB1.out⟩

set_option maxRecDepth 100000 in
theorem contract (H : Type) (enc : TypeId × Value → H) (W : World) (base : Nat) (args : Array Value) (ds gs : List (DataW H)) (before : List MemPlace)
    (hval : ∀ (j : Nat) t v, Try.f5.params[j]? = some t → args[j]? = some v → Value.okWide Try.prog W .any base t v)
    (hW : DataW.Whole enc Try.prog Try.f5.params.toList Rows.fnExactSameProfileSpec.vars false W args.toList ds gs before) :
    Calls Try.prog 5 args W fun e W' => ∃ v, e = .returned v ∧ Rows.fnExactSameProfileSpec.post enc Try.prog Try.f5 false true false false W args v W' := by
  have hW' := hW
  obtain ⟨p, q, hA0, hV, rfl, hfz, hnd⟩ := hW
  have hA : DataW.TrodAll enc Try.prog W 0 (fun _ => true) true Try.f5.params.toList args.toList ds p := hA0
  rw [Try.params5] at hA hval
  obtain ⟨v0, vs0, d0, ds0, p0, q0, hargs, rfl, rfl, h0, r0⟩ := trodAll_cons hA
  obtain ⟨v1, vs1, d1, ds1, p1, q1, hargs1, rfl, rfl, h1, r1⟩ := trodAll_cons r0
  subst hargs1
  obtain ⟨rfl, rfl, rfl⟩ := trodAll_nil r1
  obtain rfl : args = #[v0, v1] := by cases args; simp_all
  obtain ⟨rfl, rfl⟩ := trodVars_none hV
  simp only [List.append_nil] at hW'
  have hlt0 : ∀ x ∈ p0, x.block < W.heap.size := fun x hx => hW'.lt x (by simp [hx])
  have kept0 := fun (W2 : World) (hb : Below W.heap.size W W2) => Below.trod laidOut (by kernel_rfl) (of_decide_eq_true (by kernel_rfl)) h0 hb hlt0
  obtain ⟨s0, a0, len0, cap0, rfl, w0, hI0⟩ := prof_arg (hval 0 30 v0 rfl rfl) h0 hlt0
  have hlt1 : ∀ x ∈ p1, x.block < W.heap.size := fun x hx => hW'.lt x (by simp [hx])
  have kept1 := fun (W2 : World) (hb : Below W.heap.size W W2) => Below.trod laidOut (by kernel_rfl) (of_decide_eq_true (by kernel_rfl)) h1 hb hlt1
  obtain ⟨s1, a1, len1, cap1, rfl, w1, hI1⟩ := prof_arg (hval 1 30 v1 rfl rfl) h1 hlt1
  clear hA0
  refine (walk s0 a0 len0 cap0 s1 a1 len1 cap1 w0 w1 W hI0 hI1).mono fun e W' ⟨he, hg⟩ => ?_
  subst he
  refine ⟨_, rfl, post_at (pa := p0 ++ p1) (pv := []) hW' (by simp) hg (fun _ _ => (trodAll_cons_mk (shut_bool Try.underlying4 _) trodAll_mk0)) ?_ rfl⟩
  have hk := (trodAll_cons_mk (kept0 W' hg) (trodAll_cons_mk (kept1 W' hg) trodAll_mk0))
  simp only [List.append_nil] at hk
  exact hk

set_option maxRecDepth 100000 in
theorem lifted (os : Os) (started : os.Started) (H : Type) (enc : TypeId × Value → H) :
    ReturnsInHanded {} Try.checked os 5 .any (Rows.fnExactSameProfileSpec.pre6 enc Try.prog Try.f5 Rows.fnExactSameProfileRow.domain false) (Rows.fnExactSameProfileSpec.post enc Try.prog Try.f5 false true false false) := by
  refine returnsInHanded_of_change (C := Try.checked) own started (by kernel_rfl) Try.func5
    (ChangeSpec.witness6 (enc := enc) (C := Try.checked) false ⟨#[], #[.agg #[.string ⟨#[]⟩, .slice none 0 0], .agg #[.string ⟨#[]⟩, .slice none 0 0]], []⟩ 8 (by kernel_rfl) (by kernel_rfl) (by kernel_rfl) (by kernel_rfl)) ?_
  intro W base args ds gs before hval0 hW hcnd _
  have hval : ∀ (j : Nat) t v, Try.f5.params[j]? = some t → args[j]? = some v → Value.okWide Try.prog W .any base t v := hval0
  exact contract H enc W base args ds gs before hval hW

theorem over : Rows.fnExactSameProfileRow.holds Try.pinned (OpenSpec.ofChange Rows.fnExactSameProfileSpec) :=
  OpenClaim.holds_of_wide 5 Try.f5 rfl rfl rfl rfl rfl rfl rfl ⟨rfl, rfl, rfl, rfl, rfl⟩ rfl rfl rfl rfl rfl (by kernel_rfl) Try.func5 (by kernel_rfl)
    (of_decide_eq_true (by kernel_rfl)) (by unfold Func.isWrapper; first | (rw [if_pos (by decide +kernel)]; kernel_rfl) | (rw [if_neg (by decide +kernel)]; exact ⟨rfl, rfl⟩))
    (fun os started H enc _ => lifted os started H enc)
end Go.Proofs.Ytojkijcdfnfnlaa.fnExactSameProfile

namespace Go.Proofs.Ytojkijcdfnfnlaa
/-- The given statement. -/
theorem fnExactSameProfile_holds : Rows.FnExactSameProfileSaid := fnExactSameProfile.over
#print axioms fnExactSameProfile_holds
end Go.Proofs.Ytojkijcdfnfnlaa
