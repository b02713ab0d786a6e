/- Zones of a profile, and the mean walls of them: the reference model. -/
import Derived.Test.YtpjopfhkgegahaaGreatWallMath
import Derived.Test.YtpjopfhkgegahaaGreatDiv
import Derived.Test.YtpjopfhkgegahaaGreatG2
import Derived.Test.YtpjopfhkgegahaaGreatRowsLaw
namespace Go.Proofs.YtpjopfhkgegahaaGreat
open Go.ChangeShapes Go.WideShapes Go.ChangeAt Go.RowKit

set_option maxRecDepth 20000 in
set_option maxHeartbeats 2000000 in
theorem l09Zones_any (p : Nat) (s : ByteArray) (v vz : Value) (rs : List Rg) (zs : List Int) (w : World) (hpl : p < w.heap.size) (hp : ProfIn w p s v) (hv : RingsAt w v rs) (hsz : s.size ≤ maxLen) (hz : IntsAt w vz zs) :
    Calls Tryz.prog 98 #[.pointer (some ⟨p, 0, none⟩), vz] w fun e w' => e = .returned (.bool (profB s rs && fitB rs.length zs)) ∧ Below w.heap.size w w' := by
  have HP := Lib.hid (l05Ok_any p s v rs w hp hv hsz)
  have HZ := Lib.hid hz
  have hzl := hz.1
  rcases Bool.eq_false_or_eq_true (profB s rs) with h1 | h1
  · have H1 := Lib.hid h1
    obtain ⟨-, ⟨n1, n2⟩, -, -⟩ := prof_iff.1 h1
    have HFS := Lib.hid (fit_spec (n := rs.length) (zs := zs) n2)
    rw [h1, Bool.true_and]
    obtain ⟨a, c, rfl⟩ := rings_form hv
    obtain ⟨p0, p1⟩ := hp
    clear hv h1
    by_cases h2 : 1 ≤ zs.length ∧ zs.length ≤ 8
    · obtain ⟨b, off, cap, rfl, hb, hc⟩ := ints_cells hz (by omega)
      have HR := Lib.hid (fun (W : World) (hW : Below w.heap.size w W) => rises_any 0 ((rs.length : Int) - 1) zs b off _ cap W rfl (by omega) (fun j hj => (below_cell hW b (off + j) hb).trans (hc j hj)))
      have c0 : w.cell? ⟨b, off, none⟩ = some (.int .i64 (zs.getD 0 0)) := hc 0 (by omega)
      have HD := Lib.hid (decide_eq_true h2)
      clear hz hc
      generalize hn : rs.length = n at *
      generalize hm : zs.length = m at *
      have h3 : (1 : Int) ≤ (m : Int) := by omega
      have h4 : (m : Int) ≤ 8 := by omega
      have h5 : (0 : Int) < (m : Int) := by omega
      have hw : IntKind.i64.wrap ((n : Int) - 1) = (n : Int) - 1 := IntWalk.i64_in _ (by omega)
      clear h2 hn hm
      by_cases h0 : zs.getD 0 0 = 0
      · have HFF := Lib.hid (show fitB n zs = risesB 0 ((n : Int) - 1) zs by rw [HFS.out, HD.out, decide_eq_true h0]; rfl)
        rw [h0] at c0
        clear h0
        go_enter Tryz.func98, Tryz.ntmps98
        go_wp2_with fail
        refine HP.out.mono ?_
        rintro e w1 ⟨rfl, hb1⟩
        rw [H1.out]
        have d0 := (below_cell hb1 _ _ hb).trans c0
        have q1 := (below_cell hb1 _ _ hpl).trans p1
        have HB1 := Lib.hid hb1
        clear hb1 c0 p0 p1
        go_wp2_with fail
        refine (HR.out _ HB1.out).mono ?_
        rintro e w2 ⟨rfl, hb2⟩
        have HB2 := Lib.hid (below_of HB1.out hb2 HB1.out.size)
        clear hb2
        obtain ⟨r, hr⟩ : ∃ r, risesB 0 ((n : Int) - 1) zs = r := ⟨_, rfl⟩
        have HRR := Lib.hid hr
        rw [hr]
        clear hr
        go_wp2
        go_ret
        exact ⟨ret_bool (by rw [HFF.out, HRR.out]), HB2.out⟩
      · have HFF := Lib.hid (show fitB n zs = false by rw [HFS.out, HD.out, decide_eq_false h0]; rfl)
        have h6 : (zs.getD 0 0 == 0) = false := beq_eq_false_iff_ne.2 h0
        generalize zs.getD 0 0 = z0 at *
        clear h0
        go_enter Tryz.func98, Tryz.ntmps98
        go_wp2_with fail
        refine HP.out.mono ?_
        rintro e w1 ⟨rfl, hb1⟩
        rw [H1.out]
        have d0 := (below_cell hb1 _ _ hb).trans c0
        have HB1 := Lib.hid hb1
        clear hb1 c0 p0 p1
        go_wp2
        go_ret
        exact ⟨ret_bool HFF.out.symm, HB1.out⟩
    · have HFF := Lib.hid (show fitB rs.length zs = false by rw [HFS.out, decide_eq_false h2]; rfl)
      obtain ⟨b, cap, rfl⟩ := ints_form hz
      clear hz
      generalize zs.length = m at *
      by_cases h3 : 1 ≤ m
      · have h4 : (1 : Int) ≤ (m : Int) := by omega
        have h5 : ¬ (m : Int) ≤ 8 := by omega
        clear h2
        go_enter Tryz.func98, Tryz.ntmps98
        go_wp2_with fail
        refine HP.out.mono ?_
        rintro e w1 ⟨rfl, hb1⟩
        rw [H1.out]
        have HB1 := Lib.hid hb1
        clear hb1 p0 p1
        go_wp2
        go_ret
        exact ⟨ret_bool HFF.out.symm, HB1.out⟩
      · have h4 : ¬ (1 : Int) ≤ (m : Int) := by omega
        clear h2
        go_enter Tryz.func98, Tryz.ntmps98
        go_wp2_with fail
        refine HP.out.mono ?_
        rintro e w1 ⟨rfl, hb1⟩
        rw [H1.out]
        have HB1 := Lib.hid hb1
        clear hb1 p0 p1
        go_wp2
        go_ret
        exact ⟨ret_bool HFF.out.symm, HB1.out⟩
  · have H1 := Lib.hid h1
    rw [h1, Bool.false_and]
    clear h1 hv hp hz
    go_enter Tryz.func98, Tryz.ntmps98
    go_wp2_with fail
    refine HP.out.mono ?_
    rintro e w1 ⟨rfl, hb1⟩
    rw [H1.out]
    have HB1 := Lib.hid hb1
    clear hb1
    go_wp2
    go_ret
    exact ⟨rfl, HB1.out⟩
theorem ints_snocW (zs : List Int) (z : Int) : i64s (zs ++ [z]) = i64s zs ++ [.int .i64 z] := by simp [i64s]
theorem cell_oneW (w : World) (x : Value) (T : TypeId) : ∀ (j : Nat) (u : Value), ([x] : List Value)[j]? = some u → (w.alloc (.cells #[x] T)).cell? ((⟨w.heap.size, 0, none⟩ : Addr).add j) = some u := by
  intro j u hj
  match j, hj with
  | 0, hj => simp at hj; subst hj; simp [Addr.add]
  | j + 1, hj => simp at hj
end Go.Proofs.YtpjopfhkgegahaaGreat
