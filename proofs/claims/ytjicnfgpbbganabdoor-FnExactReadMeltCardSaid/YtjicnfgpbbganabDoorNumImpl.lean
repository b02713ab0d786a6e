/- ReadDecimal: both answers, for all texts. -/
import Derived.Test.YtjicnfgpbbganabDoorNumSpec
import Derived.Test.YtjicnfgpbbganabDoorShelfB
import Derived.Lib.AtoiErrMem
namespace Go.Proofs.YtjicnfgpbbganabDoor
open Go.ChangeShapes Go.WideShapes Go.ChangeAt Go.RowKit


/-- The variables that the program's reading looks into: the powers of ten and two errors. -/
def ErrAt (W : World) (n : String) : Prop := ∃ tp p, W.var? Tryd.prog n = some #[.iface tp p]
structure ReadOk (W : World) : Prop where
  pow : PowOk W
  syn : ErrAt W "strconv.ErrSyntax"
  ran : ErrAt W "strconv.ErrRange"
theorem gSyn : Tryd.prog.globalNamed "strconv.ErrSyntax" = some 1 := by kernel_rfl
theorem gRan : Tryd.prog.globalNamed "strconv.ErrRange" = some 2 := by kernel_rfl
theorem err_kept {W W' : World} {n : String} {g : Nat} (hg : Tryd.prog.globalNamed n = some g) (hb : Below W.heap.size W W') (h : ErrAt W n) : ErrAt W' n := by
  obtain ⟨tp, p, hv⟩ := h
  exact ⟨tp, p, var?_below hb hg (var_size hg hv) hv⟩
theorem read_kept {W W' : World} (hb : Below W.heap.size W W') (h : ReadOk W) : ReadOk W' := ⟨pow_kept hb h.pow, err_kept gSyn hb h.syn, err_kept gRan hb h.ran⟩

theorem err_of {n : String} {g t : Nat} {d : DataW Unit} {nm : String} {rest : List (String × DataW Unit)} {W : World} (hg : Tryd.prog.globalNamed n = some g) (ht : (Tryd.prog.globals[g]?).map (·.type) = some t) {ms : Array (String × TypeId)} (hu : Tryd.prog.underlying t = some (.interface ms))
    (h : laidMet Tryd.prog ((n, .iface nm d) :: rest) W) : ErrAt W n := by
  obtain ⟨ps, ⟨g', t', cs, fuel, p, q, hg', ht', hv, hd, _, _⟩, _⟩ := h
  obtain rfl := Option.some.inj (hg.symm.trans hg')
  obtain rfl := Option.some.inj (ht.symm.trans ht')
  have hcs : ∃ tp p, cs.toList = [.iface tp p] := by
    cases fuel with
    | zero => simp [DataW.trod] at hd
    | succ fuel =>
      clear hv
      generalize cs.toList = l at hd ⊢
      rcases l with _ | ⟨v, _ | ⟨v2, r⟩⟩
      · simp [DataW.trod, hu] at hd
      · cases v <;> first | exact ⟨_, _, rfl⟩ | simp [DataW.trod, hu] at hd
      · simp [DataW.trod, hu] at hd
  obtain ⟨tp, pv, e⟩ := hcs
  exact ⟨tp, pv, by rw [hv, show cs = #[.iface tp pv] from by rw [← Array.toArray_toList (xs := cs), e]]⟩
theorem below_bytes {w w1 : World} {T : TypeId} (h : w1 = w ∨ ∃ t, w1 = Lib.bytesWorld w T t) : Below w.heap.size w w1 := by
  rcases h with rfl | ⟨t, rfl⟩
  · exact Below.refl _ _
  · exact Lib.bytesWorld_below w T t
theorem bytes_of {a b : ByteArray} (h : a.data.toList = b.data.toList) : a = b := by
  cases a; cases b; congr 1; exact Array.toList_inj.1 h
theorem implNum_of {s : ByteArray} {r : Option Int} (h : implNum s.data.toList = r) : specNum s.data.toList = r := by rw [← impl_spec]; exact h

set_option maxHeartbeats 1000000 in
theorem implReadDecimal_any (s : ByteArray) (w : World) (hs : s.size ≤ 1048576) (hp : Hid (ReadOk w)) :
    Calls Tryd.prog 11 #[.string s] w fun e w' => NumRet s e ∧ Below w.heap.size w w' := by
  have HS := Lib.hid hs
  have hsz := list_len s
  have htl : (Lib.trimPrefix s.data.toList [45]).length ≤ s.size := by
    unfold Lib.trimPrefix
    split
    · rw [List.length_drop]; omega
    · omega
  clear hsz
  have HT := Lib.hid (show (⟨(Lib.trimPrefix s.data.toList [45]).toArray⟩ : ByteArray).size = (Lib.trimPrefix s.data.toList [45]).length by rfl)
  generalize ht : (Lib.trimPrefix s.data.toList [45]) = t at *
  have HTT := Lib.hid ht
  clear ht
  by_cases h18 : 18 < t.length
  · have HR := Lib.hid (num_none (implNum_of (s := s) (by unfold implNum; rw [HTT.out, if_pos h18])))
    go_enter Tryd.func11, Tryd.ntmps11
    go_wp2_with fail
    refine (Tryd.strings_TrimPrefix s ⟨#[45]⟩ _).mono ?_
    rintro e w' ⟨rfl, rfl⟩
    rw [HTT.out]
    go_wp2
    go_ret2
    exact ⟨HR.out, Below.refl _ _⟩
  · have HI := Lib.hid (show implNum s.data.toList = (match Lib.parseIntB 64 s.data.toList with | .ok v => if Lib.itoa v = s.data.toList then some v else none | _ => none) by
      unfold implNum; rw [HTT.out, if_neg h18]; cases Lib.parseIntB 64 s.data.toList <;> rfl)
    have hmax : s.size ≤ 9223372036854775806 := by have := HS.out; omega
    have hlim : s.size ≤ 281474976710656 := by have := HS.out; omega
    have HMAX := Lib.hid hmax
    have HLIM := Lib.hid hlim
    clear hmax hlim
    rcases hpar : Lib.parseIntB 64 s.data.toList with v | _ | _
    · skip
      have HPAR := Lib.hid hpar
      have HV := Lib.hid (parse_bd hpar)
      rw [hpar] at HI
      clear hpar
      by_cases he : Lib.itoa v = s.data.toList
      · have HR := Lib.hid (num_some (implNum_of (s := s) (r := some v) (by rw [HI.out]; simp only; rw [if_pos he])))
        have HD := Lib.hid (show decText v = s from bytes_of (by unfold decText; simpa using he))
        clear he
        go_enter Tryd.func11, Tryd.ntmps11
        go_wp2_with fail
        refine (Tryd.strings_TrimPrefix s ⟨#[45]⟩ _).mono ?_
        rintro e w' ⟨rfl, rfl⟩
        rw [HTT.out]
        go_wp2_with fail
        refine (Tryd.strconv_ParseInt_10_at64_ok s HMAX.out v HPAR.out _).mono ?_
        rintro e w1 ⟨rfl, hw1⟩
        have HB1 := Lib.hid (below_bytes hw1)
        have HP1 := Lib.hid (pow_kept HB1.out hp.out.pow)
        clear hw1
        go_wp2_with fail
        refine (implDecimal_any v _ HV.out.1 HV.out.2 HP1).mono ?_
        rintro e w2 ⟨rfl, hb2⟩
        have HB2 := Lib.hid (below_of HB1.out hb2 HB1.out.size)
        clear hb2
        rw [HD.out]
        go_wp2
        go_ret2
        exact ⟨HR.out, HB2.out⟩
      · have HR := Lib.hid (num_none (implNum_of (s := s) (r := none) (by rw [HI.out]; simp only; rw [if_neg he])))
        have HD := Lib.hid (show decText v ≠ s from fun h => he (by rw [← h]; simp [decText]))
        clear he
        go_enter Tryd.func11, Tryd.ntmps11
        go_wp2_with fail
        refine (Tryd.strings_TrimPrefix s ⟨#[45]⟩ _).mono ?_
        rintro e w' ⟨rfl, rfl⟩
        rw [HTT.out]
        go_wp2_with fail
        refine (Tryd.strconv_ParseInt_10_at64_ok s HMAX.out v HPAR.out _).mono ?_
        rintro e w1 ⟨rfl, hw1⟩
        have HB1 := Lib.hid (below_bytes hw1)
        have HP1 := Lib.hid (pow_kept HB1.out hp.out.pow)
        clear hw1
        go_wp2_with fail
        refine (implDecimal_any v _ HV.out.1 HV.out.2 HP1).mono ?_
        rintro e w2 ⟨rfl, hb2⟩
        have HB2 := Lib.hid (below_of HB1.out hb2 HB1.out.size)
        clear hb2
        generalize hd : decText v = dt at *
        have hne : (dt.toList == s.toList) = false := beq_eq_false_iff_ne.2 (fun e => HD.out (bytes_of (by rw [ByteArray.toList_eq, ByteArray.toList_eq] at e; exact e)))
        clear hd
        go_wp2
        go_ret2
        exact ⟨HR.out, HB2.out⟩
    · skip
      have HPAR := Lib.hid hpar
      have HR := Lib.hid (num_none (implNum_of (s := s) (r := none) (by rw [HI.out, hpar])))
      clear hpar HI
      obtain ⟨tp, pv, hv⟩ := hp.out.syn
      have HVAR := Lib.hid hv
      clear hv
      go_enter Tryd.func11, Tryd.ntmps11
      go_wp2_with fail
      refine (Tryd.strings_TrimPrefix s ⟨#[45]⟩ _).mono ?_
      rintro e w' ⟨rfl, rfl⟩
      rw [HTT.out]
      go_wp2_with fail
      refine (Tryd.strconv_ParseInt_10_at64_syntax_var s HLIM.out HPAR.out tp pv _ HVAR.out).mono ?_
      rintro e w1 ⟨N, rfl, hN, hcell, hb1⟩
      have HB1 := Lib.hid hb1
      clear hb1 hcell hN
      go_wp2
      go_ret2
      exact ⟨HR.out, HB1.out⟩
    · skip
      have HPAR := Lib.hid hpar
      have HR := Lib.hid (num_none (implNum_of (s := s) (r := none) (by rw [HI.out, hpar])))
      clear hpar HI
      obtain ⟨tp, pv, hv⟩ := hp.out.ran
      have HVAR := Lib.hid hv
      clear hv
      generalize hsat : Lib.intSat 64 s.data.toList = sat
      go_enter Tryd.func11, Tryd.ntmps11
      go_wp2_with fail
      refine (Tryd.strings_TrimPrefix s ⟨#[45]⟩ _).mono ?_
      rintro e w' ⟨rfl, rfl⟩
      rw [HTT.out]
      go_wp2_with fail
      refine (Tryd.strconv_ParseInt_10_at64_range_var s HLIM.out HPAR.out tp pv _ HVAR.out).mono ?_
      rintro e w1 ⟨N, rfl, hN, hcell, hb1⟩
      have HB1 := Lib.hid hb1
      clear hb1 hcell hN
      go_wp2
      go_ret2
      exact ⟨HR.out, HB1.out⟩
end Go.Proofs.YtjicnfgpbbganabDoor
