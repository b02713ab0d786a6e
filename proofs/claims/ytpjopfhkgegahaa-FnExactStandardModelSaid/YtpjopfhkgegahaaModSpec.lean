/- Models: the reference model's validity. -/
import Derived.Test.YtpjopfhkgegahaaModMath
import Derived.Deep.QuietTactic
import Derived.BigQuiet
namespace Go.Proofs.Ytpjopfhkgegahaa
open Go.ChangeShapes Go.WideShapes Go.ChangeAt Go.RowKit

set_option maxHeartbeats 1000000 in
theorem l08Zones_any (zs : List Int) (v : Value) (w : World) (h : IntsAt w v zs) :
    Calls Try.prog 20 #[v] w fun e w' => e = .returned (.bool (zonesB zs)) ∧ Below w.heap.size w w' := by
  have hl := h.1
  by_cases h1 : 1 ≤ zs.length ∧ zs.length ≤ 8
  · obtain ⟨b, off, cap, rfl, hb, hc⟩ := ints_cells h (by omega)
    have c0 : w.cell? ⟨b, off, none⟩ = some (.int .i64 (zs.getD 0 0)) := hc 0 (by omega)
    have HE := Lib.hid (fun h2 => zones_end (zs := zs) h1 h2)
    have HN := Lib.hid (fun h2 => zones_no2 (zs := zs) h2)
    have HR := Lib.hid (rises_any 0 31 zs b off _ cap w rfl (by omega) hc)
    clear h hc
    generalize zs.length = n at *
    have h2 : (1 : Int) ≤ (n : Int) := by omega
    have h3 : (n : Int) ≤ 8 := by omega
    have h4 : (0 : Int) < (n : Int) := by omega
    clear h1
    by_cases h0 : zs.getD 0 0 = 0
    · have HZ := Lib.hid (HE.out h0)
      rw [h0] at c0
      clear h0 HE HN
      go_enter Try.func20, Try.ntmps20
      go_wp2_with fail
      refine HR.out.mono ?_
      rintro e w1 ⟨rfl, hb1⟩
      have HB := Lib.hid hb1
      clear hb1
      generalize risesB 0 31 zs = r at *
      go_wp2
      go_ret
      exact ⟨ret_bool HZ.out.symm, HB.out⟩
    · have HZ := Lib.hid (HN.out h0)
      have h5 : (zs.getD 0 0 == 0) = false := beq_eq_false_iff_ne.2 h0
      generalize zs.getD 0 0 = z at *
      clear h0 HE HN HR
      go_enter Try.func20, Try.ntmps20
      go_wp2
      go_ret
      exact ⟨ret_bool HZ.out.symm, Below.refl _ _⟩
  · have HZ := Lib.hid (zones_no1 h1)
    obtain ⟨a, c, rfl⟩ := ints_form h
    clear h
    generalize zs.length = n at *
    by_cases h2 : 1 ≤ n
    · have h3 : ¬ (n : Int) ≤ 8 := by omega
      have h4 : (1 : Int) ≤ (n : Int) := by omega
      clear h1
      go_enter Try.func20, Try.ntmps20
      go_wp2
      go_ret
      exact ⟨ret_bool HZ.out.symm, Below.refl _ _⟩
    · have h4 : ¬ (1 : Int) ≤ (n : Int) := by omega
      clear h1
      go_enter Try.func20, Try.ntmps20
      go_wp2
      go_ret
      exact ⟨ret_bool HZ.out.symm, Below.refl _ _⟩

end Go.Proofs.Ytpjopfhkgegahaa
