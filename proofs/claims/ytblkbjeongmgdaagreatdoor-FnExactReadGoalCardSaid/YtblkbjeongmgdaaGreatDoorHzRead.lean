/- ReadHertz: the reference model's walk. -/
import Derived.Test.YtblkbjeongmgdaaGreatDoorHzBack
namespace Go.Proofs.YtblkbjeongmgdaaGreatDoor
open Go.ChangeShapes Go.WideShapes Go.ChangeAt Go.RowKit

set_option maxRecDepth 20000 in
set_option maxHeartbeats 1000000 in
theorem specReadHertz_any (s : ByteArray) (w : World) (hs : s.size ≤ 1048576) :
    Calls Tryz.prog 17 #[.string s] w fun e w' => PairIs (rdV hzTx s) e ∧ Below w.heap.size w w' := by
  have HE := Lib.hid (hz_back s)
  go_enter Tryz.func17, Tryz.ntmps17
  go_wp2_with fail
  refine (l02Point_any s 3 _ hs (by omega)).mono ?_
  rintro e w1 ⟨he, hb1⟩
  unfold PtRet at he
  subst he
  have HB1 := Lib.hid hb1
  clear hb1
  cases hp : ptNum 3 s.data.toList with
  | none =>
    have HR := Lib.hid (show rdV hzTx s = none by rw [← HE.out]; unfold hzSpec; rw [hp])
    rw [show ((none : Option Nat).getD 0) = 0 from rfl, show (none : Option Nat).isSome = false from rfl]
    clear hp
    go_wp2
    go_ret2
    exact ⟨by unfold PairIs; rw [HR.out]; rfl, HB1.out⟩
  | some f =>
    rw [show ((some f : Option Nat).getD 0) = f from rfl, show (some f : Option Nat).isSome = true from rfl]
    by_cases hf : okF f = true
    · have HR := Lib.hid (show rdV hzTx s = some (f : Int) by rw [← HE.out]; unfold hzSpec; rw [hp]; simp only; rw [if_pos hf])
      have HF := Lib.hid hf
      clear hp hf
      go_wp2_with fail
      refine (l02Ok_any _ _).mono ?_
      rintro e w2 ⟨rfl, rfl⟩
      rw [HF.out]
      go_wp2
      go_ret2
      exact ⟨by unfold PairIs; rw [HR.out]; rfl, HB1.out⟩
    · have HR := Lib.hid (show rdV hzTx s = none by rw [← HE.out]; unfold hzSpec; rw [hp]; simp only; rw [if_neg hf])
      have HF := Lib.hid (show okF f = false by simpa using hf)
      clear hp hf
      go_wp2_with fail
      refine (l02Ok_any _ _).mono ?_
      rintro e w2 ⟨rfl, rfl⟩
      rw [HF.out]
      go_wp2
      go_ret2
      exact ⟨by unfold PairIs; rw [HR.out]; rfl, HB1.out⟩
end Go.Proofs.YtblkbjeongmgdaaGreatDoor
