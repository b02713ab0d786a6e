/- ReadDecimal: both answers, for all texts. -/
import Derived.Test.YtfleececlafjkabDoorNumSpec
import Derived.Test.YtfleececlafjkabDoorShelfB
import Derived.Lib.AtoiErrMem
namespace Go.Proofs.YtfleececlafjkabDoor
open Go.ChangeShapes Go.WideShapes Go.ChangeAt Go.RowKit


/-- The variables that the program's reading looks into: the powers of ten and two errors. -/
def ErrAt (W : World) (n : String) : Prop := ∃ tp p, W.var? Tryd.prog n = some #[.iface tp p]
structure ReadOk (W : World) : Prop where
  pow : PowOk W
  syn : ErrAt W "strconv.ErrSyntax"
  ran : ErrAt W "strconv.ErrRange"
theorem gSyn : Tryd.prog.globalNamed "strconv.ErrSyntax" = some 2 := by kernel_rfl
theorem gRan : Tryd.prog.globalNamed "strconv.ErrRange" = some 3 := by kernel_rfl
theorem err_kept {W W' : World} {n : String} {g : Nat} (hg : Tryd.prog.globalNamed n = some g) (hb : Below W.heap.size W W') (h : ErrAt W n) : ErrAt W' n := by
  obtain ⟨tp, p, hv⟩ := h
  exact ⟨tp, p, var?_below hb hg (var_size hg hv) hv⟩
theorem read_kept {W W' : World} (hb : Below W.heap.size W W') (h : ReadOk W) : ReadOk W' := ⟨pow_kept hb h.pow, err_kept gSyn hb h.syn, err_kept gRan hb h.ran⟩

theorem err_of {n : String} {g t : Nat} {d : DataW Unit} {nm : String} {rest : List (String × DataW Unit)} {W : World} (hg : Tryd.prog.globalNamed n = some g) (ht : (Tryd.prog.globals[g]?).map (·.type) = some t) {ms : Array (String × TypeId)} (hu : Tryd.prog.underlying t = some (.interface ms))
    (h : laidMet Tryd.prog ((n, .iface nm d) :: rest) W) : ErrAt W n := by
  obtain ⟨ps, ⟨g', t', cs, fuel, p, q, hg', ht', hv, hd, _, _⟩, _⟩ := h
  obtain rfl := Option.some.inj (hg.symm.trans hg')
  obtain rfl := Option.some.inj (ht.symm.trans ht')
  have hcs : ∃ tp p, cs.toList = [.iface tp p] := by
    cases fuel with
    | zero => simp [DataW.trod] at hd
    | succ fuel =>
      clear hv
      generalize cs.toList = l at hd ⊢
      rcases l with _ | ⟨v, _ | ⟨v2, r⟩⟩
      · simp [DataW.trod, hu] at hd
      · cases v <;> first | exact ⟨_, _, rfl⟩ | simp [DataW.trod, hu] at hd
      · simp [DataW.trod, hu] at hd
  obtain ⟨tp, pv, e⟩ := hcs
  exact ⟨tp, pv, by rw [hv, show cs = #[.iface tp pv] from by rw [← Array.toArray_toList (xs := cs), e]]⟩
theorem below_bytes {w w1 : World} {T : TypeId} (h : w1 = w ∨ ∃ t, w1 = Lib.bytesWorld w T t) : Below w.heap.size w w1 := by
  rcases h with rfl | ⟨t, rfl⟩
  · exact Below.refl _ _
  · exact Lib.bytesWorld_below w T t
theorem bytes_of {a b : ByteArray} (h : a.data.toList = b.data.toList) : a = b := by
  cases a; cases b; congr 1; exact Array.toList_inj.1 h
theorem implNum_of {s : ByteArray} {r : Option Int} (h : implNum s.data.toList = r) : specNum s.data.toList = r := by rw [← impl_spec]; exact h

end Go.Proofs.YtfleececlafjkabDoor
