/- The text that marks an element: a letter and digits. -/
import Derived.Test.YtjicnfgpbbganabDoorSplitSpecP
import Derived.Laws.IdiomStrings
namespace Go.Proofs.YtjicnfgpbbganabDoor
open Go.ChangeShapes Go.WideShapes Go.ChangeAt Go.RowKit

def digB (k : Nat) : ByteArray := ⟨#[UInt8.ofNat (48 + k % 10)]⟩
theorem digB_size (k : Nat) : (digB k).size = 1 := rfl
def markAcc (k : Nat) (out : ByteArray) : ByteArray := if k = 0 then out else markAcc (k / 10) (digB k ++ out)
termination_by k
decreasing_by omega
def markT (k : Nat) : ByteArray := (⟨#[109]⟩ : ByteArray) ++ markAcc k ByteArray.empty
theorem mark_step (k : Nat) (out : ByteArray) (h : 1 ≤ k) : markAcc k out = markAcc (k / 10) (digB k ++ out) := by
  rw [markAcc, if_neg (by omega)]
theorem mark_zero (out : ByteArray) : markAcc 0 out = out := by rw [markAcc, if_pos rfl]

theorem mod_bd' (k : Nat) : 48 + (k : Int) % 10 = ((48 + k % 10 : Nat) : Int) := by omega
theorem mod_bd (k : Nat) : 48 + (k : Int) % 10 = ((48 + k % 10 : Nat) : Int) ∧ (48 + (k : Int) % 10) < 256 := by omega
theorem digit_text (k : Nat) (w : World) : (convert 57 9 (.slice (some ⟨w.heap.size, 0, none⟩) 1 1)).run Tryd.prog (w.alloc (.cells #[.int .u8 (48 + (k : Int) % 10)] 5)) = .ok (.string (digB k)) (w.alloc (.cells #[.int .u8 (48 + (k : Int) % 10)] 5)) := by
  have h := run_convert_bytes_back (P := Tryd.prog) (w.alloc (.cells #[.int .u8 (48 + (k : Int) % 10)] 5)) 57 9 5 ⟨w.heap.size, 0, none⟩ 1 [UInt8.ofNat (48 + k % 10)] Tryd.underlying57 Tryd.underlying5 Tryd.underlying9 (fun j hj => by
    obtain rfl : j = 0 := by simp at hj; omega
    rw [show (⟨w.heap.size, 0, none⟩ : Addr).add 0 = ⟨w.heap.size, 0, none⟩ from rfl, World.cell?_alloc_mark]
    have e : (UInt8.ofNat (48 + k % 10)).toNat = 48 + k % 10 := by rw [UInt8.toNat_ofNat']; omega
    simp only [List.getElem_cons_zero, e]
    show some (Value.int .u8 (48 + (k : Int) % 10)) = _
    rw [(mod_bd' k)])
  exact h

set_option maxRecDepth 20000 in
set_option maxHeartbeats 1000000 in
theorem markText_any (k0 : Nat) (w : World) (h1 : 1 ≤ k0) (h2 : k0 ≤ 2000000) :
    Calls Tryd.prog 26 #[.int .i64 k0] w fun e w' => e = .returned (.string (markT k0)) ∧ Below w.heap.size w w' := by
  go_enter Tryd.func26, Tryd.ntmps26
  go_wp2
  go_loopw [0, 3] (fun kv ov wr => ∃ (k : Nat) (out : ByteArray), k ≤ k0 ∧ kv = .int .i64 k ∧ ov = .string out ∧ Hid (markAcc k out = markAcc k0 ByteArray.empty) ∧ out.size + k ≤ k0 ∧ Below w.heap.size w wr) (fun kv _ _ => (intOf kv).toNat)
  case atStart => exact ⟨k0, ByteArray.empty, Nat.le_refl _, rfl, rfl, rfl, by simp, Below.refl _ _⟩
  case round =>
    obtain ⟨k, out, hk, rfl, rfl, HE, hsz, hbw⟩ := hrel
    have HB := Lib.hid hbw
    have hs := hbw.size
    clear hbw
    by_cases hlt : 1 ≤ k
    · have HN := Lib.hid (mark_step k out hlt)
      have HC := Lib.hid (digit_text k wr)
      have hcv := HC.out
      have hds := digB_size k
      go_wp2
      go_roundw
      case rel => exact ⟨k / 10, digB k ++ out, by omega, by go_num, rfl, HN.out.symm.trans HE.out, by rw [ByteArray.size_append, digB_size]; omega, HB.out.alloc (by omega) _⟩
      case measure => simp [intOf]; omega
    · obtain rfl : k = 0 := by omega
      have HM := Lib.hid (show (⟨#[109]⟩ : ByteArray) ++ out = markT k0 by unfold markT; rw [← HE.out, mark_zero])
      go_wp2
      go_ret
      exact ⟨show Ending.returned (Value.string ((⟨#[109]⟩ : ByteArray) ++ out)) = _ by rw [HM.out], HB.out⟩
end Go.Proofs.YtjicnfgpbbganabDoor
