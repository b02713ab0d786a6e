/- ReadHertz and ReadCents, the program's walk: the number whose text is the given one. -/
import Derived.Test.YtblkbjeongmgdaaGreatDoorNumImpl
import Derived.Test.YtblkbjeongmgdaaGreatDoorHzText
import Derived.Deep.QuietTactic
import Derived.BigQuiet
namespace Go.Proofs.YtblkbjeongmgdaaGreatDoor
open Go.ChangeShapes Go.WideShapes Go.ChangeAt Go.RowKit

def MaxOk (w : World) : Prop := ∃ m, w.cell? ⟨0, 0, none⟩ = some (.int .i64 m)
/-- What the texts of numbers are, for every number. -/
def hzTx (v : Int) : ByteArray := if okF v = true then hzT v.toNat else ByteArray.empty
/-- The text without its first point. -/
def strk (l : List UInt8) : List UInt8 := Lib.replace l [46] [] 1
/-- The number that the program finds: text is the function that writes one. -/
def rdV (text : Int → ByteArray) (s : ByteArray) : Option Int :=
  match Lib.parseIntB 64 (strk s.data.toList) with
  | .ok v => if text v = s then some v else none
  | _ => none
def PairIs (r : Option Int) (e : Ending) : Prop := e = .returned (.tuple #[.int .i64 (r.getD 0), .bool r.isSome])
theorem strk_len (l : List UInt8) : (strk l).length ≤ l.length := by
  unfold strk Lib.replace
  rw [if_neg (by decide)]
  have h1 : Lib.replaceNum l [46] 1 = 0 ∨ Lib.replaceNum l [46] 1 = 1 ∨ True := .inr (.inr trivial)
  clear h1
  generalize Lib.replaceNum l [46] 1 = k
  induction k generalizing l with
  | zero => exact Nat.le_refl _
  | succ k ih =>
    rw [Lib.replaceK]
    split
    · exact Nat.le_refl _
    · have := ih (l.drop ((Lib.index l [46]).toNat + [46].length))
      rw [List.length_append, List.length_append, List.length_take, List.length_nil]
      rw [List.length_drop] at this
      omega

set_option maxRecDepth 20000 in
set_option maxHeartbeats 1000000 in
theorem readPointedH_any (s : ByteArray) (w : World) (hs : s.size ≤ 1048576) (hp : Hid (ReadOk w)) (hm : MaxOk w) :
    Calls Tryz.prog 42 #[.string s, .func (.func 43) #[] #[]] w fun e w' => PairIs (rdV hzTx s) e ∧ Below w.heap.size w w' := by
  obtain ⟨m, hm⟩ := hm
  have HF : Hid (∀ (v : Int) (w1 : World), Hid (PowOk w1) → Calls Tryz.prog 43 #[.int .i64 v] w1 fun e w' => e = .returned (.string (hzTx v)) ∧ Below w1.heap.size w1 w') := Lib.hid (fun v w1 h => implHertzText_any v w1 h)
  have hsz : (strk s.data.toList).length ≤ s.size := by have := strk_len s.data.toList; rw [list_len] at this; exact this
  have HT := Lib.hid (show (⟨(Lib.replace s.data.toList (⟨#[46]⟩ : ByteArray).data.toList (⟨#[]⟩ : ByteArray).data.toList 1).toArray⟩ : ByteArray) = ⟨(strk s.data.toList).toArray⟩ from rfl)
  obtain ⟨t, ht⟩ : ∃ t : ByteArray, (⟨(strk s.data.toList).toArray⟩ : ByteArray) = t := ⟨_, rfl⟩
  have hts : t.size ≤ s.size := by rw [← ht]; show (strk s.data.toList).toArray.size ≤ _; rw [List.size_toArray]; exact hsz
  have htd : t.data.toList = strk s.data.toList := by rw [← ht]
  rw [ht] at HT
  clear ht hsz
  have hmax : t.size ≤ 9223372036854775806 := by omega
  have hlim : t.size ≤ 281474976710656 := by omega
  have HMAX := Lib.hid hmax
  have HLIM := Lib.hid hlim
  have HLEN := Lib.hid (show s.size + Lib.countB s ⟨#[46]⟩ * (⟨#[]⟩ : ByteArray).size ≤ 140737488355328 by rw [show (⟨#[]⟩ : ByteArray).size = 0 from rfl, Nat.mul_zero]; omega)
  have HSZ := Lib.hid (show s.size < 4294967281 by omega)
  have HM := Lib.hid hm
  clear hmax hlim hm hts
  rcases hpar : Lib.parseIntB 64 t.data.toList with v | _ | _
  · have HPAR := Lib.hid hpar
    have HV := Lib.hid (parse_bd hpar)
    have HR := Lib.hid (show rdV hzTx s = if hzTx v = s then some v else none by unfold rdV; rw [← htd, hpar])
    clear hpar htd
    go_enter Tryz.func42, Tryz.ntmps42
    go_wp2_with fail
    refine (Tryz.strings_Replace s ⟨#[46]⟩ ⟨#[]⟩ 1 m _ HSZ.out HM.out (by decide) HLEN.out).mono ?_
    rintro e w1 ⟨rfl, hb1⟩
    rw [HT.out]
    have HB1 := Lib.hid hb1
    clear hb1
    go_wp2_with fail
    refine (Tryz.strconv_ParseInt_10_at64_ok t HMAX.out v HPAR.out _).mono ?_
    rintro e w2 ⟨rfl, hw2⟩
    have HB2 := Lib.hid (below_of HB1.out (below_bytes hw2) HB1.out.size)
    have HP2 := Lib.hid (pow_kept HB2.out hp.out.pow)
    clear hw2
    by_cases he : hzTx v = s
    · have HR2 := Lib.hid (show rdV hzTx s = some v by rw [HR.out, if_pos he])
      have HE := Lib.hid he
      have hq : (s.toList == s.toList) = true := by simp
      clear he
      go_wp2_with fail
      refine (HF.out v _ HP2).mono ?_
      rw [HE.out]
      rintro e w3 ⟨rfl, hb3⟩
      have HB3 := Lib.hid (below_of HB2.out hb3 HB2.out.size)
      clear hb3
      go_wp2
      go_ret2
      exact ⟨by unfold PairIs; rw [HR2.out]; rfl, HB3.out⟩
    · have HR2 := Lib.hid (show rdV hzTx s = none by rw [HR.out, if_neg he])
      obtain ⟨x, hx⟩ : ∃ x, hzTx v = x := ⟨_, rfl⟩
      have HX := Lib.hid hx
      rw [hx] at he
      have hq : (x.toList == s.toList) = false := beq_eq_false_iff_ne.2 (fun e => he (bytes_of (by rw [ByteArray.toList_eq, ByteArray.toList_eq] at e; exact e)))
      clear he hx
      go_wp2_with fail
      refine (HF.out v _ HP2).mono ?_
      rw [HX.out]
      rintro e w3 ⟨rfl, hb3⟩
      have HB3 := Lib.hid (below_of HB2.out hb3 HB2.out.size)
      clear hb3
      go_wp2
      go_ret2
      exact ⟨by unfold PairIs; rw [HR2.out]; rfl, HB3.out⟩
  · have HPAR := Lib.hid hpar
    have HR := Lib.hid (show rdV hzTx s = none by unfold rdV; rw [← htd, hpar])
    clear hpar htd
    obtain ⟨tp, pv, hv⟩ := hp.out.syn
    have HVAR := Lib.hid hv
    clear hv
    go_enter Tryz.func42, Tryz.ntmps42
    go_wp2_with fail
    refine (Tryz.strings_Replace s ⟨#[46]⟩ ⟨#[]⟩ 1 m _ HSZ.out HM.out (by decide) HLEN.out).mono ?_
    rintro e w1 ⟨rfl, hb1⟩
    rw [HT.out]
    have HB1 := Lib.hid hb1
    have HV1 := Lib.hid (var?_below hb1 gSyn (var_size gSyn HVAR.out) HVAR.out)
    clear hb1
    go_wp2_with fail
    refine (Tryz.strconv_ParseInt_10_at64_syntax_var t HLIM.out HPAR.out tp pv _ HV1.out).mono ?_
    rintro e w2 ⟨N, rfl, hN, hcell, hb2⟩
    have HB2 := Lib.hid (below_of HB1.out hb2 HB1.out.size)
    clear hb2 hcell hN
    go_wp2
    go_ret2
    exact ⟨by unfold PairIs; rw [HR.out]; rfl, HB2.out⟩
  · have HPAR := Lib.hid hpar
    have HR := Lib.hid (show rdV hzTx s = none by unfold rdV; rw [← htd, hpar])
    clear hpar htd
    obtain ⟨tp, pv, hv⟩ := hp.out.ran
    have HVAR := Lib.hid hv
    clear hv
    generalize hsat : Lib.intSat 64 t.data.toList = sat
    go_enter Tryz.func42, Tryz.ntmps42
    go_wp2_with fail
    refine (Tryz.strings_Replace s ⟨#[46]⟩ ⟨#[]⟩ 1 m _ HSZ.out HM.out (by decide) HLEN.out).mono ?_
    rintro e w1 ⟨rfl, hb1⟩
    rw [HT.out]
    have HB1 := Lib.hid hb1
    have HV1 := Lib.hid (var?_below hb1 gRan (var_size gRan HVAR.out) HVAR.out)
    clear hb1
    go_wp2_with fail
    refine (Tryz.strconv_ParseInt_10_at64_range_var t HLIM.out HPAR.out tp pv _ HV1.out).mono ?_
    rintro e w2 ⟨N, rfl, hN, hcell, hb2⟩
    have HB2 := Lib.hid (below_of HB1.out hb2 HB1.out.size)
    clear hb2 hcell hN
    go_wp2
    go_ret2
    exact ⟨by unfold PairIs; rw [HR.out]; rfl, HB2.out⟩

theorem implReadHertz_any (s : ByteArray) (w : World) (hs : s.size ≤ 1048576) (hp : Hid (ReadOk w)) (hm : MaxOk w) :
    Calls Tryz.prog 24 #[.string s] w fun e w' => PairIs (rdV hzTx s) e ∧ Below w.heap.size w w' := by
  go_enter Tryz.func24, Tryz.ntmps24
  go_wp2_with fail
  refine (readPointedH_any s _ hs hp hm).mono ?_
  rintro e w1 ⟨he, hb1⟩
  unfold PairIs at he
  subst he
  have HB1 := Lib.hid hb1
  clear hb1
  obtain ⟨r, hr⟩ : ∃ r, rdV hzTx s = r := ⟨_, rfl⟩
  have HR := Lib.hid hr
  rw [hr]
  clear hr
  go_wp2
  go_ret2
  exact ⟨by unfold PairIs; rw [HR.out]; rfl, HB1.out⟩



end Go.Proofs.YtblkbjeongmgdaaGreatDoor
