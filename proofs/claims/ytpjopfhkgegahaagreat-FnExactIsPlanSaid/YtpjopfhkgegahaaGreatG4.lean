/- Merged texts: MkC GoalV Freq FineMath FineSpec FineImpl RootMath Len64 Cents DevA DevAsk DevS Apart DevI DevP. -/
import Derived.Test.YtpjopfhkgegahaaGreatMk
import Derived.Test.YtpjopfhkgegahaaGreatG3
import Derived.Test.YtpjopfhkgegahaaGreatGoal
import Derived.Test.YtpjopfhkgegahaaGreatSndValid
import Derived.Test.YtpjopfhkgegahaaGreatSndSpec
import Derived.Test.YtpjopfhkgegahaaGreatG1
import Derived.IntWalk
import Derived.Lib.BitFns
import Derived.Laws.BitsAllLaws
import Derived.Test.YtpjopfhkgegahaaGreatSenS
import Derived.Test.YtpjopfhkgegahaaGreatModSnd
import Derived.Test.YtpjopfhkgegahaaGreatModAsk
import Derived.Test.YtpjopfhkgegahaaGreatApSpec
import Derived.Test.YtpjopfhkgegahaaGreatModErr
import Derived.Test.YtpjopfhkgegahaaGreatModPart
import Derived.Test.YtpjopfhkgegahaaGreatSndPart
import Derived.Test.YtpjopfhkgegahaaGreatApImpl
import Derived.Test.YtpjopfhkgegahaaGreatSofI

namespace Go.Proofs.YtpjopfhkgegahaaGreat
open Go.ChangeShapes Go.WideShapes Go.ChangeAt Go.RowKit
theorem cv_mk {l u B B' U' : Nat} {w w' : World} {v : Value} {zs : List Ct} (hg : Mk l u w w') (h : Cv w B v zs) (hin : ∀ k, v.ownBlock = some k → B' ≤ k ∧ k < U') (ho : U' ≤ l ∨ u ≤ B') : Cv w' B v zs := by
  rcases h with h | ⟨g, cap, rfl, h2, h4⟩
  · exact .inl h
  · exact .inr ⟨g, cap, rfl, h2, row_blk h4 (fun k hk => hg.block k (h4.lt k hk).2 (by have := hin k hk; omega))⟩
end Go.Proofs.YtpjopfhkgegahaaGreat


set_option linter.unusedVariables false
namespace Go.Proofs.YtpjopfhkgegahaaGreat
open Go.ChangeShapes Go.WideShapes Go.ChangeAt Go.RowKit

def goalB (a b c e f t q : Int) : Bool := sndB a b c e f && (inB t 0 20000 && inB q 0 20)
theorem goal_no1 {a b c e f t q : Int} (h : sndB a b c e f = false) : goalB a b c e f t q = false := by unfold goalB; rw [h]; rfl
theorem goal_no2 {a b c e f t q : Int} (h : inB t 0 20000 = false) : goalB a b c e f t q = false := by unfold goalB; rw [h]; simp
theorem goal_end {a b c e f t q : Int} (h : sndB a b c e f = true) (h2 : inB t 0 20000 = true) : goalB a b c e f t q = inB q 0 20 := by unfold goalB; rw [h, h2]; simp
theorem all_oneG (x lo hi : Int) : allIn lo hi [x] = inB x lo hi := by simp [allIn]
set_option maxHeartbeats 1000000 in
theorem l10Goal_any (g : Nat) (a b c e f t q : Int) (w : World) (h : Seven w g a b c e f t q) :
    Calls Tryz.prog 59 #[.pointer (some ⟨g, 0, none⟩)] w fun en w' => en = .returned (.bool (goalB a b c e f t q)) ∧ Below w.heap.size w w' := by
  have hg := five_lt h.1
  obtain ⟨⟨g0, g1, g2, g3, g4⟩, g5, g6⟩ := h
  have HOK := Lib.hid (l04Ok_any g a b c e f w g0 g1 g2 g3 g4)
  clear g0 g1 g2 g3 g4
  rcases Bool.eq_false_or_eq_true (sndB a b c e f) with h1 | h1
  · rcases Bool.eq_false_or_eq_true (inB t 0 20000) with h2 | h2
    · have HR := Lib.hid (goal_end (q := q) h1 h2)
      go_enter Tryz.func59, Tryz.ntmps59
      go_wp2_with fail
      refine HOK.out.mono ?_
      rintro en w1 ⟨rfl, hb⟩
      rw [h1]
      have k5 := (below_cell hb _ _ hg).trans g5
      have k6 := (below_cell hb _ _ hg).trans g6
      have HB := Lib.hid hb
      clear hb g5 g6
      go_wp2_with fail
      refine (l00In_any t 0 20000 _).mono ?_
      rintro en w2 ⟨rfl, rfl⟩
      rw [h2]
      go_wp2_with fail
      refine (l00In_any q 0 20 _).mono ?_
      rintro en w2 ⟨rfl, rfl⟩
      go_wp2
      go_ret
      exact ⟨ret_bool HR.out.symm, HB.out⟩
    · have HR := Lib.hid (goal_no2 (a := a) (b := b) (c := c) (e := e) (f := f) (q := q) h2)
      go_enter Tryz.func59, Tryz.ntmps59
      go_wp2_with fail
      refine HOK.out.mono ?_
      rintro en w1 ⟨rfl, hb⟩
      rw [h1]
      have k5 := (below_cell hb _ _ hg).trans g5
      have HB := Lib.hid hb
      clear hb g5 g6
      go_wp2_with fail
      refine (l00In_any t 0 20000 _).mono ?_
      rintro en w2 ⟨rfl, rfl⟩
      rw [h2]
      go_wp2
      go_ret
      exact ⟨ret_bool HR.out.symm, HB.out⟩
  · have HR := Lib.hid (goal_no1 (t := t) (q := q) h1)
    go_enter Tryz.func59, Tryz.ntmps59
    go_wp2_with fail
    refine HOK.out.mono ?_
    rintro en w1 ⟨rfl, hb⟩
    rw [h1]
    have HB := Lib.hid hb
    clear hb g5 g6
    go_wp2
    go_ret
    exact ⟨ret_bool HR.out.symm, HB.out⟩
set_option maxHeartbeats 1000000 in
theorem implVG_any (a b c e f t q : Int) (w : World) :
    Calls Tryz.prog 52 #[.agg #[.int .i64 a, .int .i64 b, .int .i64 c, .int .i64 e, .int .i64 f, .int .i64 t, .int .i64 q]] w fun en w' => en = .returned (.bool (goalB a b c e f t q)) ∧ Below w.heap.size w w' := by
  have HV := Lib.hid (fun w => implValid_any a b c e f w)
  have g5 : (w.alloc (.cells #[.int .i64 a, .int .i64 b, .int .i64 c, .int .i64 e, .int .i64 f, .int .i64 t, .int .i64 q] 46)).cell? ⟨w.heap.size, 5, none⟩ = some (.int .i64 t) := by go_simp
  have g6 : (w.alloc (.cells #[.int .i64 a, .int .i64 b, .int .i64 c, .int .i64 e, .int .i64 f, .int .i64 t, .int .i64 q] 46)).cell? ⟨w.heap.size, 6, none⟩ = some (.int .i64 q) := by go_simp
  have hba := below_alG w (.cells #[.int .i64 a, .int .i64 b, .int .i64 c, .int .i64 e, .int .i64 f, .int .i64 t, .int .i64 q] 46)
  have hl := alloc_ltG w (.cells #[.int .i64 a, .int .i64 b, .int .i64 c, .int .i64 e, .int .i64 f, .int .i64 t, .int .i64 q] 46)
  have HBA := Lib.hid hba
  clear hba
  have HT := Lib.hid (all_oneG t 0 20000)
  have HQ := Lib.hid (all_oneG q 0 20)
  rcases Bool.eq_false_or_eq_true (sndB a b c e f) with h1 | h1
  · rcases Bool.eq_false_or_eq_true (inB t 0 20000) with h2 | h2
    · have HR := Lib.hid (goal_end (q := q) h1 h2)
      go_enter Tryz.func52, Tryz.ntmps52
      go_wp2_with fail
      generalize w.alloc (.cells #[.int .i64 a, .int .i64 b, .int .i64 c, .int .i64 e, .int .i64 f, .int .i64 t, .int .i64 q] 46) = wA at *
      refine (HV.out _).mono ?_
      rintro en w1 ⟨rfl, hb⟩
      rw [h1]
      have k5 := (below_cell hb _ _ hl).trans g5
      have k6 := (below_cell hb _ _ hl).trans g6
      have hl1 := Nat.lt_of_lt_of_le hl hb.size
      have HB := Lib.hid (below_of HBA.out hb HBA.out.size)
      clear hb g5 g6
      go_wp2_with fail
      refine (within_i64 _ _ [t] _ 0 1 1 _ rfl (by omega) (cell_intG _ _ _ _ (by simp))).mono ?_
      rintro e w2 ⟨rfl, rfl⟩
      rw [HT.out, h2]
      have hal := below_alG w1 (.cells #[.int .i64 t] 2)
      have j6 := (below_cell hal _ _ hl1).trans k6
      have HB2 := Lib.hid (below_of HB.out hal HB.out.size)
      clear hal k5 k6
      generalize w1.alloc (.cells #[.int .i64 t] 2) = w3 at *
      go_wp2_with fail
      refine (within_i64 _ _ [q] _ 0 1 1 _ rfl (by omega) (cell_intG _ _ _ _ (by simp))).mono ?_
      rintro e w4 ⟨rfl, rfl⟩
      rw [HQ.out]
      have HB3 := Lib.hid (below_of HB2.out (below_alG w3 (.cells #[.int .i64 q] 2)) HB2.out.size)
      go_wp2
      go_ret
      exact ⟨ret_bool HR.out.symm, HB3.out⟩
    · have HR := Lib.hid (goal_no2 (a := a) (b := b) (c := c) (e := e) (f := f) (q := q) h2)
      go_enter Tryz.func52, Tryz.ntmps52
      go_wp2_with fail
      generalize w.alloc (.cells #[.int .i64 a, .int .i64 b, .int .i64 c, .int .i64 e, .int .i64 f, .int .i64 t, .int .i64 q] 46) = wA at *
      refine (HV.out _).mono ?_
      rintro en w1 ⟨rfl, hb⟩
      rw [h1]
      have k5 := (below_cell hb _ _ hl).trans g5
      have HB := Lib.hid (below_of HBA.out hb HBA.out.size)
      clear hb g5 g6
      go_wp2_with fail
      refine (within_i64 _ _ [t] _ 0 1 1 _ rfl (by omega) (cell_intG _ _ _ _ (by simp))).mono ?_
      rintro e w2 ⟨rfl, rfl⟩
      rw [HT.out, h2]
      have HB2 := Lib.hid (below_of HB.out (below_alG w1 (.cells #[.int .i64 t] 2)) HB.out.size)
      go_wp2
      go_ret
      exact ⟨ret_bool HR.out.symm, HB2.out⟩
  · have HR := Lib.hid (goal_no1 (t := t) (q := q) h1)
    go_enter Tryz.func52, Tryz.ntmps52
    go_wp2_with fail
    refine (HV.out _).mono ?_
    rintro en w1 ⟨rfl, hb⟩
    rw [h1]
    have HB := Lib.hid (below_of HBA.out hb HBA.out.size)
    clear hb g5 g6
    go_wp2
    go_ret
    exact ⟨ret_bool HR.out.symm, HB.out⟩
end Go.Proofs.YtpjopfhkgegahaaGreat


namespace Go.Proofs.YtpjopfhkgegahaaGreat
open Go.ChangeShapes Go.WideShapes Go.ChangeAt Go.RowKit

def okF (f : Int) : Bool := inB f 10000 20000000
theorem okF_iff {f : Int} : okF f = true ↔ 10000 ≤ f ∧ f ≤ 20000000 := inB_iff

theorem retF_two {a b c d : Int} (h : a = b) (k : c = d) : Ending.returned (.tuple #[.int .i64 a, .int .i64 c]) = .returned (.tuple #[.int .i64 b, .int .i64 d]) := by rw [h, k]
theorem cellF1 (w : World) (x : Int) (T : TypeId) : ∀ j, j < 1 → (w.alloc (.cells #[.int .i64 x] T)).cell? ⟨w.heap.size, 0 + j, none⟩ = some (.int .i64 ([x].getD j 0)) := by
  intro j hj
  match j, hj with
  | 0, _ => go_simp
theorem cellF2 (w : World) (x y : Int) (T : TypeId) : ∀ j, j < 2 → (w.alloc (.cells #[.int .i64 x, .int .i64 y] T)).cell? ⟨w.heap.size, 0 + j, none⟩ = some (.int .i64 ([x, y].getD j 0)) := by
  intro j hj
  match j, hj with
  | 0, _ => go_simp
  | 1, _ => go_simp
theorem all1 (lo hi c : Int) : allIn lo hi [c] = inB c lo hi := by simp [allIn]
theorem all2 (lo hi c d : Int) : allIn lo hi [c, d] = (inB c lo hi && inB d lo hi) := by simp [allIn]

/-- The code of a test. -/
def codeOf (b : Bool) : Int := if b then 0 else 2
def ok2 (f g : Int) : Bool := okF f && okF g
theorem ok2_iff {f g : Int} : ok2 f g = true ↔ (10000 ≤ f ∧ f ≤ 20000000) ∧ (10000 ≤ g ∧ g ≤ 20000000) := by
  unfold ok2; rw [Bool.and_eq_true, okF_iff, okF_iff]
theorem ok2_flip (f g : Int) : ok2 g f = ok2 f g := by unfold ok2; rw [Bool.and_comm]
end Go.Proofs.YtpjopfhkgegahaaGreat


namespace Go.Proofs.YtpjopfhkgegahaaGreat

/-- One round on x and r. -/
def fstep (p : Int × Int) : Int × Int := if 2147483648 ≤ p.1 * p.1 / 1073741824 then (p.1 * p.1 / 1073741824 / 2, 2 * p.2 + 1) else (p.1 * p.1 / 1073741824, 2 * p.2)
def fiter : Nat → Int × Int → Int × Int
  | 0, p => p
  | k + 1, p => fstep (fiter k p)
def normX (n : Int) (e : Nat) : Int := if 30 < e then n / 2 ^ (e - 30) else n * 2 ^ (30 - e)
def fineAt (n : Int) (e : Nat) : Int := e * 16777216 + (fiter 24 (normX n e, 0)).2
def fineV (n : Int) : Int := fineAt n (Nat.log2 n.toNat)

theorem sqF_bd (x : Int) (h0 : 1073741824 ≤ x) (h1 : x < 2147483648) : 1073741824 ≤ x * x / 1073741824 ∧ x * x / 1073741824 < 4294967296 ∧ x * x < 4611686018427387904 ∧ 0 ≤ x * x := by
  have a := Int.mul_le_mul h0 h0 (by omega) (by omega)
  have b := Int.mul_le_mul (show x ≤ 2147483647 by omega) (show x ≤ 2147483647 by omega) (by omega) (by omega)
  omega
theorem fstep_bd (p : Int × Int) (M : Int) (h0 : 1073741824 ≤ p.1) (h1 : p.1 < 2147483648) (h2 : 0 ≤ p.2) (h3 : p.2 < M) :
    1073741824 ≤ (fstep p).1 ∧ (fstep p).1 < 2147483648 ∧ 0 ≤ (fstep p).2 ∧ (fstep p).2 < 2 * M := by
  have := sqF_bd p.1 h0 h1
  unfold fstep
  split <;> simp only <;> omega
theorem fiter_bd (x : Int) (h0 : 1073741824 ≤ x) (h1 : x < 2147483648) : ∀ k : Nat, 1073741824 ≤ (fiter k (x, 0)).1 ∧ (fiter k (x, 0)).1 < 2147483648 ∧ 0 ≤ (fiter k (x, 0)).2 ∧ (fiter k (x, 0)).2 < 2 ^ k
  | 0 => by simp [fiter]; omega
  | k + 1 => by
    obtain ⟨a, b, c, d⟩ := fiter_bd x h0 h1 k
    have := fstep_bd (fiter k (x, 0)) (2 ^ k) a b c d
    rw [Int.pow_succ]
    simp only [fiter]
    omega

/-- (x, r) is at most (x', r'), r first. -/
def LexLe (p q : Int × Int) : Prop := p.2 < q.2 ∨ (p.2 = q.2 ∧ p.1 ≤ q.1)
theorem fstep_mono (p q : Int × Int) (h : LexLe p q) (h0 : 0 ≤ p.1) : LexLe (fstep p) (fstep q) := by
  unfold LexLe at h ⊢
  rcases h with h | ⟨h1, h2⟩
  · left
    unfold fstep
    split <;> split <;> simp only <;> omega
  · have hs : p.1 * p.1 ≤ q.1 * q.1 := Int.mul_le_mul h2 h2 h0 (by omega)
    have hd : p.1 * p.1 / 1073741824 ≤ q.1 * q.1 / 1073741824 := Int.ediv_le_ediv (by omega) hs
    unfold fstep
    split <;> split <;> simp only <;> omega
theorem fiter_mono (x y : Int) (h0 : 1073741824 ≤ x) (h1 : x < 2147483648) (h : x ≤ y) : ∀ k : Nat, LexLe (fiter k (x, 0)) (fiter k (y, 0))
  | 0 => .inr ⟨rfl, h⟩
  | k + 1 => fstep_mono _ _ (fiter_mono x y h0 h1 h k) (by have := fiter_bd x h0 h1 k; omega)

/-- e is the exponent of the greatest power of two that is at most n. -/
def IsExp (n : Int) (e : Nat) : Prop := (2 : Int) ^ e ≤ n ∧ n < 2 ^ (e + 1)
theorem exp_of (n : Int) (h : 0 < n) : IsExp n (Nat.log2 n.toNat) := by
  have h1 := Nat.log2_self_le (n := n.toNat) (by omega)
  have h2 := Nat.lt_log2_self (n := n.toNat)
  refine ⟨?_, ?_⟩
  · have : ((2 ^ Nat.log2 n.toNat : Nat) : Int) ≤ (n.toNat : Int) := by exact_mod_cast h1
    rw [Int.natCast_pow] at this
    have e : (n.toNat : Int) = n := Int.toNat_of_nonneg (by omega)
    rw [e] at this
    exact this
  · have : (n.toNat : Int) < ((2 ^ (Nat.log2 n.toNat + 1) : Nat) : Int) := by exact_mod_cast h2
    rw [Int.natCast_pow] at this
    have e : (n.toNat : Int) = n := Int.toNat_of_nonneg (by omega)
    rw [e] at this
    exact this
theorem pow_mono (a b : Nat) (h : a ≤ b) : (2 : Int) ^ a ≤ 2 ^ b := by
  have h1 := Nat.pow_le_pow_right (n := 2) (by omega) h
  have : ((2 ^ a : Nat) : Int) ≤ ((2 ^ b : Nat) : Int) := by exact_mod_cast h1
  rw [Int.natCast_pow, Int.natCast_pow] at this
  exact this
theorem exp_le {n m : Int} {e f : Nat} (h : IsExp n e) (k : IsExp m f) (hnm : n ≤ m) : e ≤ f := by
  by_cases hc : e ≤ f
  · exact hc
  · have := pow_mono (f + 1) e (by omega)
    have := h.1
    have := k.2
    omega
theorem exp_unique {n : Int} {e f : Nat} (h : IsExp n e) (k : IsExp n f) : e = f := by
  have := exp_le h k (Int.le_refl n)
  have := exp_le k h (Int.le_refl n)
  omega
theorem fine_of {n : Int} {e : Nat} (h : IsExp n e) : fineV n = fineAt n e := by
  have hp : (0 : Int) < 2 ^ e := Int.pow_pos (by omega)
  have h1 := h.1
  have : Nat.log2 n.toNat = e := exp_unique (exp_of n (by omega)) h
  unfold fineV
  rw [this]

theorem norm_bd {n : Int} {e : Nat} (h : IsExp n e) : 1073741824 ≤ normX n e ∧ normX n e < 2147483648 := by
  obtain ⟨h1, h2⟩ := h
  unfold normX
  split
  · rename_i he
    have hp : (0 : Int) < 2 ^ (e - 30) := Int.pow_pos (by omega)
    have e1 : (2 : Int) ^ e = 1073741824 * 2 ^ (e - 30) := by
      conv => lhs; rw [show e = 30 + (e - 30) by omega, Int.pow_add]
      rfl
    rw [Int.pow_succ] at h2
    constructor
    · apply Int.le_ediv_of_mul_le hp; omega
    · apply Int.ediv_lt_of_lt_mul hp; omega
  · rename_i he
    have hp : (0 : Int) < 2 ^ (30 - e) := Int.pow_pos (by omega)
    have e1 : (2 : Int) ^ e * 2 ^ (30 - e) = 1073741824 := by
      rw [← Int.pow_add, show e + (30 - e) = 30 by omega]; rfl
    rw [Int.pow_succ] at h2
    have a := Int.mul_le_mul_of_nonneg_right h1 (Int.le_of_lt hp)
    have b := Int.mul_lt_mul_of_pos_right h2 hp
    rw [show (2 : Int) ^ e * 2 * 2 ^ (30 - e) = 2 ^ e * 2 ^ (30 - e) * 2 by rw [Int.mul_assoc, Int.mul_comm 2, ← Int.mul_assoc]] at b
    omega
theorem norm_mono {n m : Int} {e : Nat} (h : n ≤ m) : normX n e ≤ normX m e := by
  unfold normX
  split
  · exact Int.ediv_le_ediv (Int.pow_pos (by omega)) h
  · exact Int.mul_le_mul_of_nonneg_right h (Int.le_of_lt (Int.pow_pos (by omega)))
theorem fineAt_bd {n : Int} {e : Nat} (h : IsExp n e) : (e : Int) * 16777216 ≤ fineAt n e ∧ fineAt n e < ((e : Int) + 1) * 16777216 := by
  obtain ⟨a, b⟩ := norm_bd h
  have := fiter_bd (normX n e) a b 24
  unfold fineAt
  rw [show (2 : Int) ^ 24 = 16777216 from rfl] at this
  omega
theorem fine_mono {n m : Int} (h0 : 0 < n) (h : n ≤ m) : fineV n ≤ fineV m := by
  have hn := exp_of n h0
  have hm := exp_of m (by omega)
  rw [fine_of hn, fine_of hm]
  generalize Nat.log2 n.toNat = e at *
  generalize Nat.log2 m.toNat = f at *
  have hle := exp_le hn hm h
  by_cases hef : e = f
  · subst hef
    obtain ⟨a, b⟩ := norm_bd hn
    have := fiter_mono (normX n e) (normX m e) a b (norm_mono h) 24
    unfold LexLe at this
    unfold fineAt
    omega
  · have := fineAt_bd hn
    have := fineAt_bd hm
    omega
theorem exp_40 {n : Int} {e : Nat} (h : IsExp n e) (hn : n ≤ 1000000000000) : e ≤ 39 := by
  by_cases hc : e ≤ 39
  · exact hc
  · have := pow_mono 40 e (by omega)
    rw [show (2 : Int) ^ 40 = 1099511627776 from rfl] at this
    have := h.1
    omega
theorem fine_bd {n : Int} (h0 : 0 < n) (h1 : n ≤ 1000000000000) : 0 ≤ fineV n ∧ fineV n < 671088640 := by
  have h := exp_of n h0
  rw [fine_of h]
  have := exp_40 h h1
  have := fineAt_bd h
  omega

/-- The logarithm in tenths of a cent. -/
def logV (n : Int) : Int := 12000 * fineV n / 16777216
theorem log_bd {n : Int} (h0 : 0 < n) (h1 : n ≤ 1000000000000) : 0 ≤ logV n ∧ logV n < 480000 := by
  have := fine_bd h0 h1
  unfold logV
  omega
theorem log_mono {n m : Int} (h0 : 0 < n) (h : n ≤ m) : logV n ≤ logV m := by
  have := fine_mono h0 h
  unfold logV
  omega
end Go.Proofs.YtpjopfhkgegahaaGreat


namespace Go.Proofs.YtpjopfhkgegahaaGreat
open Go.ChangeShapes Go.WideShapes Go.ChangeAt Go.RowKit

theorem exp_go {n : Int} {e k : Nat} (h : IsExp n e) (hk : k < e) : 0 < n / 2 ^ (k + 1) := by
  have hp : (0 : Int) < 2 ^ (k + 1) := Int.pow_pos (by omega)
  have := pow_mono (k + 1) e (by omega)
  have h1 := h.1
  have : 1 ≤ n / 2 ^ (k + 1) := Int.le_ediv_of_mul_le hp (by omega)
  omega
theorem exp_stop {n : Int} {e : Nat} (h : IsExp n e) : n / 2 ^ (e + 1) ≤ 0 := by
  have hp : (0 : Int) < 2 ^ (e + 1) := Int.pow_pos (by omega)
  have h2 := h.2
  have : n / 2 ^ (e + 1) < 1 := Int.ediv_lt_of_lt_mul hp (by omega)
  omega
set_option maxRecDepth 100000 in
set_option maxHeartbeats 1000000 in
theorem l02Fine_any (n : Int) (w : World) (h0 : 1 ≤ n) (h1 : n ≤ 1000000000000) :
    Calls Tryz.prog 123 #[.int .i64 n] w fun e w' => e = .returned (.int .i64 (fineV n)) ∧ w = w' := by
  obtain ⟨e, he⟩ : ∃ e : Nat, IsExp n e := ⟨_, exp_of n (by omega)⟩
  have hle := exp_40 he h1
  have HE := Lib.hid he
  have HF := Lib.hid (fine_of he)
  clear he
  go_enter Tryz.func123, Tryz.ntmps123
  go_wp2
  go_loop [3] (fun t => ∃ k : Nat, k ≤ e ∧ t = .int .i64 k) (fun t => e - (intOf t).toNat)
  case atStart => exact ⟨0, by omega, rfl⟩
  case round =>
    obtain ⟨k, hk, rfl⟩ := hrel
    by_cases hlt : k < e
    · have hd := exp_go HE.out hlt
      go_wp2
      go_round
      case rel => exact ⟨k + 1, by omega, by go_num⟩
      case measure => simp [intOf]; omega
    · obtain rfl : k = e := by omega
      have hd := exp_stop HE.out
      have HN := norm_bd HE.out
      have h01 : (fiter 0 (normX n k, 0)).1 = normX n k := rfl
      have HX1 : 30 < k → normX n k = n / 2 ^ (k - 30) := fun h => by unfold normX; rw [if_pos h]
      have HX2 : ¬ 30 < k → normX n k = n * 2 ^ (30 - k) := fun h => by unfold normX; rw [if_neg h]
      generalize hX : normX n k = X at *
      by_cases hb : 30 < k
      all_goals
        first | have HB := Lib.hid (HX1 hb) | have HB := Lib.hid (HX2 hb)
        have hb1 := HN.1
        have hb2 := HN.2
        first | (rw [HX1 hb] at hb1 hb2; clear HX1 HX2) | (rw [HX2 hb] at hb1 hb2; clear HX1 HX2)
        have HXN := Lib.hid hX
        have HNN := Lib.hid HN
        clear hX h01 HN
        go_wp2
        go_loop [4, 5, 6] (fun x r i => ∃ j : Nat, j ≤ 24 ∧ x = .int .i64 (fiter j (X, 0)).1 ∧ r = .int .i64 (fiter j (X, 0)).2 ∧ i = .int .i64 j) (fun _ _ i => 24 - (intOf i).toNat)
        case atStart => exact ⟨0, by omega, by rw [← HB.out]; rfl, rfl, rfl⟩
        case round =>
          obtain ⟨j, hj, rfl, rfl, rfl⟩ := hrel
          have HI := Lib.hid (fiter_bd X HNN.out.1 HNN.out.2 j)
          clear hb1 hb2
          by_cases hlt2 : j < 24
          · obtain ⟨i1, i2, i3, i4⟩ := HI.out
            have i5 : (fiter j (X, 0)).2 < 16777216 := by
              have := pow_mono j 24 (by omega)
              rw [show (2 : Int) ^ 24 = 16777216 from rfl] at this
              omega
            clear i4
            have HS := Lib.hid (show fiter (j + 1) (X, 0) = fstep (fiter j (X, 0)) from rfl)
            obtain ⟨s1, s2, s3, s4⟩ := sqF_bd _ i1 i2
            generalize fiter j (X, 0) = p at *
            obtain ⟨px, pr⟩ := p
            simp only at i1 i2 i3 i5 s1 s2 s3 s4
            by_cases hc : 2147483648 ≤ px * px / 1073741824
            · have HT := Lib.hid (show fstep (px, pr) = (px * px / 1073741824 / 2, 2 * pr + 1) by unfold fstep; rw [if_pos hc])
              go_wp2
              go_round
              case rel => exact ⟨j + 1, by omega, by rw [HS.out, HT.out], by rw [HS.out, HT.out]; congr 1; omega, by go_num⟩
              case measure => simp [intOf]; omega
            · have HT := Lib.hid (show fstep (px, pr) = (px * px / 1073741824, 2 * pr) by unfold fstep; rw [if_neg hc])
              go_wp2
              go_round
              case rel => exact ⟨j + 1, by omega, by rw [HS.out, HT.out], by rw [HS.out, HT.out]; congr 1; omega, by go_num⟩
              case measure => simp [intOf]; omega
          · obtain rfl : j = 24 := by omega
            have HR := Lib.hid (show fineV n = k * 16777216 + (fiter 24 (X, 0)).2 by rw [HF.out]; unfold fineAt; rw [HXN.out])
            obtain ⟨i1, i2, i3, i4⟩ := HI.out
            rw [show (2 : Int) ^ 24 = 16777216 from rfl] at i4
            generalize (fiter 24 (X, 0)).2 = rr at *
            generalize (fiter 24 (X, 0)).1 = xx at *
            go_wp2
            go_ret
            exact ⟨ret_i64 HR.out.symm, rfl⟩
end Go.Proofs.YtpjopfhkgegahaaGreat


namespace Go.Proofs.YtpjopfhkgegahaaGreat
open Go.ChangeShapes Go.WideShapes Go.ChangeAt Go.RowKit

theorem bitLen_exp {n : Int} {e : Nat} (h : IsExp n e) (hn : n ≤ 1000000000000) : Lib.bitLen n.toNat = e + 1 := by
  obtain ⟨h1, h2⟩ := h
  have hp : 0 < 2 ^ e := Nat.pow_pos (by omega)
  have e1 : ((2 ^ e : Nat) : Int) = 2 ^ e := Int.natCast_pow 2 e
  have e2 : ((2 ^ (e + 1) : Nat) : Int) = 2 ^ (e + 1) := Int.natCast_pow 2 (e + 1)
  have h3 : 2 ^ e ≤ n.toNat := by omega
  have h4 : n.toNat < 2 ^ (e + 1) := by omega
  rw [Lib.bitLen_shift e n.toNat h3 (by omega)]
  have : n.toNat / 2 ^ e = 1 := Nat.div_eq_of_lt_le (by omega) (by rw [Nat.pow_succ] at h4; omega)
  rw [this]
  rfl

set_option maxRecDepth 100000 in
theorem scaled_up (n : Int) (p : Nat) (w : World) (hp : p ≤ 30) (h0 : 0 ≤ n * 2 ^ p) (h1 : n * 2 ^ p < 2147483648) :
    Calls Tryz.prog 141 #[.int .i64 n, .int .i64 p] w fun e w' => e = .returned (.int .i64 (n * 2 ^ p)) ∧ w = w' := by
  have hneg : ¬ (p : Int) < 0 := by omega
  go_enter Tryz.func141, Tryz.ntmps141
  go_wp2
  go_ret
  exact ⟨rfl, rfl⟩
set_option maxRecDepth 100000 in
theorem scaled_down (n : Int) (p : Nat) (w : World) (hp : p ≤ 30) (hp1 : 1 ≤ p) :
    Calls Tryz.prog 141 #[.int .i64 n, .int .i64 (-(p : Int))] w fun e w' => e = .returned (.int .i64 (n / 2 ^ p)) ∧ w = w' := by
  go_enter Tryz.func141, Tryz.ntmps141
  go_wp2
  go_ret
  exact ⟨rfl, rfl⟩
theorem scaled_norm (n : Int) (e : Nat) (w : World) (h : IsExp n e) (hle : e ≤ 39) (d : Int) (hd : Hid (d = 30 - (e : Int))) :
    Calls Tryz.prog 141 #[.int .i64 n, .int .i64 d] w fun e' w' => e' = .returned (.int .i64 (normX n e)) ∧ w = w' := by
  have hb := norm_bd h
  have hd' := hd.out
  unfold normX at *
  by_cases he : 30 < e
  · rw [if_pos he] at *
    obtain rfl : d = -((e - 30 : Nat) : Int) := by omega
    exact scaled_down n (e - 30) w (by omega) (by omega)
  · rw [if_neg he] at *
    obtain rfl : d = ((30 - e : Nat) : Int) := by omega
    exact scaled_up n (30 - e) w (by omega) (by omega) (by omega)

/-- The program's sum after j rounds. -/
def lgV (e : Nat) (X : Int) (j : Nat) : Int := (e : Int) * 2 ^ j + (fiter j (X, 0)).2
theorem lg_bd (e : Nat) (X : Int) (j : Nat) (he : e ≤ 39) (hj : j ≤ 24) (h0 : 1073741824 ≤ X) (h1 : X < 2147483648) : 0 ≤ lgV e X j ∧ lgV e X j < 671088640 := by
  obtain ⟨_, _, c, d⟩ := fiter_bd X h0 h1 j
  have hp := pow_mono j 24 hj
  rw [show (2 : Int) ^ 24 = 16777216 from rfl] at hp
  have hp0 : (0 : Int) < 2 ^ j := Int.pow_pos (by omega)
  have m1 : 0 ≤ (e : Int) * 2 ^ j := Int.mul_nonneg (by omega) (by omega)
  have m2 : (e : Int) * 2 ^ j ≤ 39 * 2 ^ j := Int.mul_le_mul_of_nonneg_right (by omega) (by omega)
  unfold lgV
  generalize (2 : Int) ^ j = q at *
  omega
theorem lg_next (e : Nat) (X : Int) (j : Nat) : lgV e X (j + 1) = (if 2147483648 ≤ (fiter j (X, 0)).1 * (fiter j (X, 0)).1 / 1073741824 then 2 * lgV e X j + 1 else 2 * lgV e X j) := by
  unfold lgV
  rw [Int.pow_succ, ← Int.mul_assoc]
  show _ + (fstep (fiter j (X, 0))).2 = _
  unfold fstep
  generalize (e : Int) * 2 ^ j = q
  split <;> simp only <;> omega

set_option maxRecDepth 100000 in
set_option maxHeartbeats 1000000 in
theorem fineLog_any (len64 : ∀ (x : Int) (w : World), 0 ≤ x → x ≤ 18446744073709551615 → Calls Tryz.prog 140 #[.int .u64 x] w fun e w' => e = .returned (.int .i64 (Lib.bitLen x.toNat)) ∧ w = w')
    (n : Int) (w : World) (h0 : 1 ≤ n) (h1 : n ≤ 1000000000000) :
    Calls Tryz.prog 137 #[.int .i64 n] w fun e w' => e = .returned (.int .i64 (fineV n)) ∧ w = w' := by
  obtain ⟨e, he⟩ : ∃ e : Nat, IsExp n e := ⟨_, exp_of n (by omega)⟩
  have hle := exp_40 he h1
  have HE := Lib.hid he
  have HF := Lib.hid (fine_of he)
  have HL := Lib.hid (bitLen_exp he h1)
  have HN := Lib.hid (norm_bd he)
  clear he
  go_enter Tryz.func137, Tryz.ntmps137
  go_wp2_with fail
  refine (len64 n _ (by omega) (by omega)).mono ?_
  rintro e w' ⟨rfl, rfl⟩
  rw [HL.out]
  go_wp2_with fail
  refine (scaled_norm n e _ HE.out hle _ (Lib.hid (by omega))).mono ?_
  rintro e w' ⟨rfl, rfl⟩
  have HR := Lib.hid (show fineV n = lgV e (normX n e) 24 by rw [HF.out]; rfl)
  generalize normX n e = X at *
  go_wp2_with fail
  go_loop [4, 5, 15] (fun x r i => ∃ j : Nat, j ≤ 24 ∧ x = .int .i64 (fiter j (X, 0)).1 ∧ r = .int .i64 (lgV e X j) ∧ i = .int .i64 j) (fun _ _ i => 24 - (intOf i).toNat)
  case atStart => exact ⟨0, by omega, rfl, by unfold lgV; simp [fiter], rfl⟩
  case round =>
    obtain ⟨j, hj, rfl, rfl, rfl⟩ := hrel
    by_cases hlt2 : j < 24
    · obtain ⟨i1, i2, _, _⟩ := fiter_bd X HN.out.1 HN.out.2 j
      obtain ⟨g1, g2⟩ := lg_bd e X j hle hj HN.out.1 HN.out.2
      have HS := Lib.hid (show fiter (j + 1) (X, 0) = fstep (fiter j (X, 0)) from rfl)
      have HG := Lib.hid (lg_next e X j)
      obtain ⟨s1, s2, s3, s4⟩ := sqF_bd _ i1 i2
      generalize lgV e X j = gv at *
      generalize fiter j (X, 0) = p at *
      obtain ⟨px, pr⟩ := p
      simp only at i1 i2 s1 s2 s3 s4
      by_cases hc : 2147483648 ≤ px * px / 1073741824
      · have HT := Lib.hid (show fstep (px, pr) = (px * px / 1073741824 / 2, 2 * pr + 1) by unfold fstep; rw [if_pos hc])
        have HG2 := Lib.hid (show lgV e X (j + 1) = 2 * gv + 1 by rw [HG.out, if_pos hc])
        clear HG
        go_wp2
        go_round
        case rel => exact ⟨j + 1, by omega, by rw [HS.out, HT.out], by rw [HG2.out]; congr 1; omega, by go_num⟩
        case measure => simp [intOf]; omega
      · have HT := Lib.hid (show fstep (px, pr) = (px * px / 1073741824, 2 * pr) by unfold fstep; rw [if_neg hc])
        have HG2 := Lib.hid (show lgV e X (j + 1) = 2 * gv by rw [HG.out, if_neg hc])
        clear HG
        go_wp2
        go_round
        case rel => exact ⟨j + 1, by omega, by rw [HS.out, HT.out], by rw [HG2.out]; congr 1; omega, by go_num⟩
        case measure => simp [intOf]; omega
    · obtain rfl : j = 24 := by omega
      go_wp2
      go_ret
      exact ⟨ret_i64 HR.out.symm, rfl⟩
end Go.Proofs.YtpjopfhkgegahaaGreat


namespace Go.Proofs.YtpjopfhkgegahaaGreat
theorem or_pow (r j : Nat) (h : 2 ^ (j + 1) ∣ r) : r ||| 2 ^ j = r + 2 ^ j := by
  obtain ⟨a, rfl⟩ := h
  exact (Nat.two_pow_add_eq_or_of_lt (Nat.pow_lt_pow_right (by omega) (by omega)) a).symm

theorem pow_le32 (j : Nat) (h : j ≤ 31) : 2 ^ j ≤ 2147483648 := by
  have := Nat.pow_le_pow_right (n := 2) (by omega) h
  omega

/-- The trial of the text: root | 1<<bit. -/
theorem trial_eq (r j : Nat) (hj : j ≤ 31) (hd : 2 ^ (j + 1) ∣ r) (hb : r + 2 ^ (j + 1) ≤ 4294967296) :
    bits BinOp.or IntKind.u64 (r : Int) (IntKind.u64.wrap ((2 : Int) ^ j)) = ((r + 2 ^ j : Nat) : Int) := by
  have hp := pow_le32 j hj
  have e : (2 : Int) ^ j = ((2 ^ j : Nat) : Int) := by simp
  rw [e, IntWalk.u64_in _ ⟨by omega, by omega⟩, u64_or_nat r (2 ^ j) (by have : 0 < 2 ^ (j + 1) := Nat.pow_pos (by omega); omega) (by omega), or_pow r j hd]

theorem trial_sq (t : Nat) (h : t ≤ 4294967295) : IntKind.u64.wrap ((t : Int) * (t : Int)) = ((t * t : Nat) : Int) := by
  have h1 : t * t ≤ 4294967295 * 4294967295 := Nat.mul_le_mul h h
  have e : (t : Int) * (t : Int) = ((t * t : Nat) : Int) := by simp
  rw [e]
  exact IntWalk.u64_in _ ⟨by omega, by omega⟩

theorem aux_lt : ∀ (f x : Nat), x < 2 ^ f → x < 2 ^ (Lib.bitLenAux f x)
  | 0, x, h => by simpa [Lib.bitLenAux] using h
  | f + 1, x, h => by
    rw [Lib.bitLenAux]
    split
    · omega
    · have := aux_lt f (x / 2) (by rw [Nat.pow_succ] at h; omega)
      rw [Nat.add_comm, Nat.pow_succ]
      omega
theorem aux_le : ∀ (f x m : Nat), x < 2 ^ m → Lib.bitLenAux f x ≤ m
  | 0, x, m, h => by simp [Lib.bitLenAux]
  | f + 1, x, m, h => by
    rw [Lib.bitLenAux]
    split
    · omega
    · match m with
      | 0 => simp at h; omega
      | m + 1 =>
        have := aux_le f (x / 2) m (by rw [Nat.pow_succ] at h; omega)
        omega
theorem len_lt (x : Nat) (h : x < 18446744073709551616) : x < 2 ^ (Lib.bitLen x) := aux_lt 64 x h
theorem len_le (x : Nat) (h : x ≤ 9223372036854775807) : Lib.bitLen x ≤ 63 := aux_le 64 x 63 (by omega)
theorem len_pos (x : Nat) (h0 : 0 < x) : 1 ≤ Lib.bitLen x := by
  unfold Lib.bitLen
  rw [show (64 : Nat) = 63 + 1 from rfl, Lib.bitLenAux, if_neg (by omega)]
  omega

/-- What holds at the loop's head with k bits to find. -/
def RootInv (n : Int) (r k : Nat) : Prop := k ≤ 32 ∧ 2 ^ k ∣ r ∧ r + 2 ^ k ≤ 4294967296 ∧ ((r * r : Nat) : Int) ≤ n ∧ n < (((r + 2 ^ k) * (r + 2 ^ k) : Nat) : Int)

theorem inv_start (n : Int) (h0 : 0 < n) (h1 : n ≤ 9223372036854775807) : RootInv n 0 ((Lib.bitLen n.toNat - 1) / 2 + 1) := by
  have hl := len_lt n.toNat (by omega)
  have hle := len_le n.toNat (by omega)
  have hp := len_pos n.toNat (by omega)
  generalize Lib.bitLen n.toNat = b at hl hle hp
  have hk : (b - 1) / 2 + 1 ≤ 32 := by omega
  have h32 := Nat.pow_le_pow_right (n := 2) (by omega) hk
  have hb : 2 ^ b ≤ 2 ^ ((b - 1) / 2 + 1) * 2 ^ ((b - 1) / 2 + 1) := by
    rw [← Nat.pow_add]
    exact Nat.pow_le_pow_right (by omega) (by omega)
  refine ⟨hk, ⟨0, rfl⟩, by omega, by simp; omega, ?_⟩
  rw [Nat.zero_add]
  omega

theorem inv_take (n : Int) (r j : Nat) (h : RootInv n r (j + 1)) (hc : (((r + 2 ^ j) * (r + 2 ^ j) : Nat) : Int) ≤ n) : RootInv n (r + 2 ^ j) j := by
  obtain ⟨h1, ⟨a, rfl⟩, h3, h4, h5⟩ := h
  have e : 2 ^ (j + 1) = 2 ^ j + 2 ^ j := by rw [Nat.pow_succ]; omega
  refine ⟨by omega, ⟨2 * a + 1, by rw [e, Nat.mul_add, Nat.add_mul]; simp [Nat.mul_comm, Nat.mul_assoc, Nat.two_mul, Nat.mul_add]⟩, by omega, hc, ?_⟩
  rw [show 2 ^ (j + 1) * a + 2 ^ j + 2 ^ j = 2 ^ (j + 1) * a + 2 ^ (j + 1) from by omega]
  exact h5
theorem inv_skip (n : Int) (r j : Nat) (h : RootInv n r (j + 1)) (hc : n < (((r + 2 ^ j) * (r + 2 ^ j) : Nat) : Int)) : RootInv n r j := by
  obtain ⟨h1, ⟨a, rfl⟩, h3, h4, h5⟩ := h
  have e : 2 ^ (j + 1) = 2 ^ j + 2 ^ j := by rw [Nat.pow_succ]; omega
  have hp : 0 < 2 ^ j := Nat.pow_pos (by omega)
  exact ⟨by omega, ⟨2 * a, by rw [Nat.pow_succ, Nat.mul_assoc]⟩, by rw [e] at h3 ⊢; generalize 2 ^ j = q at *; omega, h4, hc⟩
theorem inv_bd (n : Int) (r k : Nat) (h : RootInv n r k) (hn : n ≤ 9223372036854775807) : r ≤ 3037000499 := by
  obtain ⟨_, _, _, h4, _⟩ := h
  by_cases hr : r ≤ 3037000499
  · exact hr
  · have := Nat.mul_le_mul (show 3037000500 ≤ r by omega) (show 3037000500 ≤ r by omega)
    omega
end Go.Proofs.YtpjopfhkgegahaaGreat


namespace Go.Proofs.YtpjopfhkgegahaaGreat
open Go.ChangeShapes Go.WideShapes Go.ChangeAt Go.RowKit

theorem len_top (x y : Int) (k : Nat) (hx : 0 ≤ x) (hx1 : x ≤ 18446744073709551615) (hk : ((2 ^ k : Nat) : Int) ≤ x) (hy : y.toNat = x.toNat / 2 ^ k) (h0 : 0 ≤ y) (h1 : y ≤ 255) :
    Lib.len8 y + k = (Lib.bitLen x.toNat : Int) := by
  have h2 : 2 ^ k ≤ x.toNat := by omega
  rw [Lib.len8_of y h0 h1, Lib.bitLen_shift k x.toNat h2 (by omega), ← hy]
  omega
theorem len_bd (y : Int) (h0 : 0 ≤ y) (h1 : y ≤ 255) : 0 ≤ Lib.len8 y ∧ Lib.len8 y ≤ 8 := by
  rw [Lib.len8_of y h0 h1]
  have := Lib.bitLen_le8' y h0 h1
  omega

set_option maxHeartbeats 1000000 in
set_option maxRecDepth 100000 in
theorem len64_any (x : Int) (w : World) (h0 : 0 ≤ x) (h1 : x ≤ 18446744073709551615) :
    Calls Tryz.prog 140 #[.int .u64 x] w fun e w' => e = .returned (.int .i64 (Lib.bitLen x.toNat)) ∧ w = w' := by
  have t9 := Tryz.underlying9
  by_cases c0 : 4294967296 ≤ x
  · skip
    by_cases c1 : 65536 ≤ x / 4294967296
    · skip
      by_cases c2 : 256 ≤ x / 4294967296 / 65536
      · skip
        have b0 : 0 ≤ x / 4294967296 / 65536 / 256 := by omega
        have b1 : x / 4294967296 / 65536 / 256 ≤ 255 := by omega
        obtain ⟨l0, l1⟩ := len_bd (x / 4294967296 / 65536 / 256) b0 b1
        have HF := Lib.hid (len_top x (x / 4294967296 / 65536 / 256) 56 h0 h1 (by simp; omega) (by simp; omega) b0 b1)
        go_enter Tryz.func140, Tryz.ntmps140
        go_wp2
        go_ret
        have hf := HF.out
        exact ⟨congrArg Ending.returned (congrArg (Value.int IntKind.i64) (by omega)), rfl⟩
      · skip
        have b0 : 0 ≤ x / 4294967296 / 65536 := by omega
        have b1 : x / 4294967296 / 65536 ≤ 255 := by omega
        obtain ⟨l0, l1⟩ := len_bd (x / 4294967296 / 65536) b0 b1
        have HF := Lib.hid (len_top x (x / 4294967296 / 65536) 48 h0 h1 (by simp; omega) (by simp; omega) b0 b1)
        go_enter Tryz.func140, Tryz.ntmps140
        go_wp2
        go_ret
        have hf := HF.out
        exact ⟨congrArg Ending.returned (congrArg (Value.int IntKind.i64) (by omega)), rfl⟩
    · skip
      by_cases c2 : 256 ≤ x / 4294967296
      · skip
        have b0 : 0 ≤ x / 4294967296 / 256 := by omega
        have b1 : x / 4294967296 / 256 ≤ 255 := by omega
        obtain ⟨l0, l1⟩ := len_bd (x / 4294967296 / 256) b0 b1
        have HF := Lib.hid (len_top x (x / 4294967296 / 256) 40 h0 h1 (by simp; omega) (by simp; omega) b0 b1)
        go_enter Tryz.func140, Tryz.ntmps140
        go_wp2
        go_ret
        have hf := HF.out
        exact ⟨congrArg Ending.returned (congrArg (Value.int IntKind.i64) (by omega)), rfl⟩
      · skip
        have b0 : 0 ≤ x / 4294967296 := by omega
        have b1 : x / 4294967296 ≤ 255 := by omega
        obtain ⟨l0, l1⟩ := len_bd (x / 4294967296) b0 b1
        have HF := Lib.hid (len_top x (x / 4294967296) 32 h0 h1 (by simp; omega) (by simp; omega) b0 b1)
        go_enter Tryz.func140, Tryz.ntmps140
        go_wp2
        go_ret
        have hf := HF.out
        exact ⟨congrArg Ending.returned (congrArg (Value.int IntKind.i64) (by omega)), rfl⟩
  · skip
    by_cases c1 : 65536 ≤ x
    · skip
      by_cases c2 : 256 ≤ x / 65536
      · skip
        have b0 : 0 ≤ x / 65536 / 256 := by omega
        have b1 : x / 65536 / 256 ≤ 255 := by omega
        obtain ⟨l0, l1⟩ := len_bd (x / 65536 / 256) b0 b1
        have HF := Lib.hid (len_top x (x / 65536 / 256) 24 h0 h1 (by simp; omega) (by simp; omega) b0 b1)
        go_enter Tryz.func140, Tryz.ntmps140
        go_wp2
        go_ret
        have hf := HF.out
        exact ⟨congrArg Ending.returned (congrArg (Value.int IntKind.i64) (by omega)), rfl⟩
      · skip
        have b0 : 0 ≤ x / 65536 := by omega
        have b1 : x / 65536 ≤ 255 := by omega
        obtain ⟨l0, l1⟩ := len_bd (x / 65536) b0 b1
        have HF := Lib.hid (len_top x (x / 65536) 16 h0 h1 (by simp; omega) (by simp; omega) b0 b1)
        go_enter Tryz.func140, Tryz.ntmps140
        go_wp2
        go_ret
        have hf := HF.out
        exact ⟨congrArg Ending.returned (congrArg (Value.int IntKind.i64) (by omega)), rfl⟩
    · skip
      by_cases c2 : 256 ≤ x
      · skip
        have b0 : 0 ≤ x / 256 := by omega
        have b1 : x / 256 ≤ 255 := by omega
        obtain ⟨l0, l1⟩ := len_bd (x / 256) b0 b1
        have HF := Lib.hid (len_top x (x / 256) 8 h0 h1 (by simp; omega) (by simp; omega) b0 b1)
        go_enter Tryz.func140, Tryz.ntmps140
        go_wp2
        go_ret
        have hf := HF.out
        exact ⟨congrArg Ending.returned (congrArg (Value.int IntKind.i64) (by omega)), rfl⟩
      · skip
        have b0 : 0 ≤ x := by omega
        have b1 : x ≤ 255 := by omega
        obtain ⟨l0, l1⟩ := len_bd (x) b0 b1
        have HF := Lib.hid (Lib.len8_of (x) b0 b1)
        go_enter Tryz.func140, Tryz.ntmps140
        go_wp2
        go_ret
        have hf := HF.out
        exact ⟨congrArg Ending.returned (congrArg (Value.int IntKind.i64) (by omega)), rfl⟩
end Go.Proofs.YtpjopfhkgegahaaGreat


namespace Go.Proofs.YtpjopfhkgegahaaGreat
open Go.ChangeShapes Go.WideShapes Go.ChangeAt Go.RowKit

theorem l02Log_any (n : Int) (w : World) (h0 : 1 ≤ n) (h1 : n ≤ 1000000000000) :
    Calls Tryz.prog 101 #[.int .i64 n] w fun e w' => e = .returned (.int .i64 (logV n)) ∧ w = w' := by
  have hb := fine_bd (show 0 < n by omega) h1
  have HL := Lib.hid (show logV n = 12000 * fineV n / 16777216 from rfl)
  go_enter Tryz.func101, Tryz.ntmps101
  go_wp2_with fail
  refine (l02Fine_any n _ h0 h1).mono ?_
  rintro e w' ⟨rfl, rfl⟩
  generalize fineV n = v at *
  go_wp2
  go_ret
  exact ⟨ret_i64 HL.out.symm, rfl⟩
theorem implLog_any (n : Int) (w : World) (h0 : 1 ≤ n) (h1 : n ≤ 1000000000000) :
    Calls Tryz.prog 128 #[.int .i64 n] w fun e w' => e = .returned (.int .i64 (logV n)) ∧ w = w' := by
  have hb := fine_bd (show 0 < n by omega) h1
  have HL := Lib.hid (show logV n = 12000 * fineV n / 16777216 from rfl)
  go_enter Tryz.func128, Tryz.ntmps128
  go_wp2_with fail
  refine (fineLog_any len64_any n _ h0 h1).mono ?_
  rintro e w' ⟨rfl, rfl⟩
  generalize fineV n = v at *
  go_wp2
  go_ret
  exact ⟨ret_i64 HL.out.symm, rfl⟩
theorem l02Between_any (f g : Int) (w : World) (h0 : 1 ≤ f) (h1 : f ≤ 1000000000000) (k0 : 1 ≤ g) (k1 : g ≤ 1000000000000) :
    Calls Tryz.prog 64 #[.int .i64 f, .int .i64 g] w fun e w' => e = .returned (.int .i64 (logV g - logV f)) ∧ w = w' := by
  have hb := log_bd (show 0 < f by omega) h1
  have hc := log_bd (show 0 < g by omega) k1
  go_enter Tryz.func64, Tryz.ntmps64
  go_wp2_with (first | (go_at_call 101; refine (l02Log_any _ _ (by omega) (by omega)).mono ?_; rintro e w' ⟨rfl, rfl⟩))
  go_ret
  exact ⟨rfl, rfl⟩
def fineR (n : Int) : Int := if inB n 1 1000000000000 = true then fineV n else 0
def logR (n : Int) : Int := if inB n 1 1000000000000 = true then logV n else 0
def okV (n : Int) : Bool := inB n 1 1000000000000
end Go.Proofs.YtpjopfhkgegahaaGreat


set_option linter.unusedVariables false
namespace Go.Proofs.YtpjopfhkgegahaaGreat
open Go.ChangeShapes Go.WideShapes Go.ChangeAt Go.RowKit

/-- The deviations of five partials from five others. -/
def devK (ts rs : List Int) (k : Nat) : Int := logV (rs.getD k 0) - logV (ts.getD k 0)
def devsL (ts rs : List Int) : List Int := (List.range 5).map (devK ts rs)
theorem devs_len (ts rs : List Int) : (devsL ts rs).length = 5 := by simp [devsL]
theorem devs_next (ts rs : List Int) (k : Nat) (h : k < 5) : i64s ((devsL ts rs).take (k + 1)) = i64s ((devsL ts rs).take k) ++ [.int .i64 (devK ts rs k)] := by
  unfold devsL i64s
  rw [← List.map_take, ← List.map_take, List.take_range, List.take_range, Nat.min_eq_left (by omega), Nat.min_eq_left (by omega), List.range_succ]
  simp
theorem snd_at {a b c e f : Int} (h : sndB a b c e f = true) (k : Nat) (hk : k < 5) : 10000 ≤ [a, b, c, e, f].getD k 0 ∧ [a, b, c, e, f].getD k 0 ≤ 20000000 :=
  idx5 (a := a) (b := b) (c := c) (e := e) (f := f) (j := k) hk (all5_iff.2 (snd_iff.1 h).1)
theorem goal_snd {a b c e f t q : Int} (h : goalB a b c e f t q = true) : sndB a b c e f = true := by
  unfold goalB at h
  rw [Bool.and_eq_true] at h
  exact h.1
set_option maxRecDepth 20000 in
set_option maxHeartbeats 4000000 in
theorem l10Dev_ok (g gr cap : Nat) (a b c e f t q r0 r1 r2 r3 r4 : Int) (w : World) (h : Seven w g a b c e f t q) (hS : sndB a b c e f = true) (hgr : gr < w.heap.size) (h0 : w.cell? ⟨gr, 0, none⟩ = some (.int .i64 r0)) (h1 : w.cell? ⟨gr, 1, none⟩ = some (.int .i64 r1)) (h2 : w.cell? ⟨gr, 2, none⟩ = some (.int .i64 r2)) (h3 : w.cell? ⟨gr, 3, none⟩ = some (.int .i64 r3)) (h4 : w.cell? ⟨gr, 4, none⟩ = some (.int .i64 r4))
    (hR : sndB r0 r1 r2 r3 r4 = true) :
    Calls Tryz.prog 48 #[.pointer (some ⟨g, 0, none⟩), .slice (some ⟨gr, 0, none⟩) 5 cap] w fun en w' => ∃ v, en = .returned (.tuple #[v, .bool true]) ∧ Iv w' w.heap.size v (devsL [a, b, c, e, f] [r0, r1, r2, r3, r4]) ∧ Below w.heap.size w w' := by
  obtain ⟨i0, hi, hz0, hz1, hz2⟩ := info_parts infoI64
  have hg := five_lt h.1
  have HG := Lib.hid (fun W (hW : Below w.heap.size w W) => (seven_kept hW hg h).1)
  have HSD := Lib.hid (l04Sound_capZ gr cap r0 r1 r2 r3 r4 w hgr h0 h1 h2 h3 h4)
  have HB5 := Lib.hid (fun k (hk : k < 5) => snd_at hS k hk)
  have HR5 := Lib.hid (fun k (hk : k < 5) => snd_at hR k hk)
  have HC := Lib.hid (show ∀ k, k < 5 → w.cell? ⟨gr, k, none⟩ = some (.int .i64 ([r0, r1, r2, r3, r4].getD k 0)) from fun k hk => by
    rcases (by omega : k = 0 ∨ k = 1 ∨ k = 2 ∨ k = 3 ∨ k = 4) with rfl | rfl | rfl | rfl | rfl
    · exact h0
    · exact h1
    · exact h2
    · exact h3
    · exact h4)
  have HRB := Lib.hid hR
  have HN := Lib.hid (fun k (hk : k < 5) => devs_next [a, b, c, e, f] [r0, r1, r2, r3, r4] k hk)
  have HDK := Lib.hid (fun k => show devK [a, b, c, e, f] [r0, r1, r2, r3, r4] k = logV ([r0, r1, r2, r3, r4].getD k 0) - logV ([a, b, c, e, f].getD k 0) from rfl)
  have HDL := Lib.hid (devs_len [a, b, c, e, f] [r0, r1, r2, r3, r4])
  clear h h0 h1 h2 h3 h4 hS hR
  go_enter Tryz.func48, Tryz.ntmps48
  go_wp2_with fail
  refine HSD.out.mono ?_
  rintro en w1 ⟨rfl, hb⟩
  have hx := five_alloc w1 r0 r1 r2 r3 r4 44
  have HB1 := Lib.hid (below_of hb (below_al w1 (.cells #[.int .i64 r0, .int .i64 r1, .int .i64 r2, .int .i64 r3, .int .i64 r4] 44)) hb.size)
  have HOK := Lib.hid (l04Ok_any w1.heap.size r0 r1 r2 r3 r4 _ hx.1 hx.2.1 hx.2.2.1 hx.2.2.2.1 hx.2.2.2.2)
  rw [HRB.out] at HOK
  clear hb hx
  go_wp2_with fail
  generalize w1.alloc (.cells #[.int .i64 r0, .int .i64 r1, .int .i64 r2, .int .i64 r3, .int .i64 r4] 44) = w2 at *
  refine HOK.out.mono ?_
  rintro en w3 ⟨rfl, hb⟩
  have HB3 := Lib.hid (below_of HB1.out hb HB1.out.size)
  obtain ⟨c0, c1, c2, c3, c4⟩ := HG.out _ HB3.out
  clear hb HOK
  go_wp2_with fail
  refine (l04List_any g a b c e f _ c0 c1 c2 c3 c4).mono ?_
  rintro en w5 ⟨gl, rfl, hgl, hrow, hb⟩
  have HRW := Lib.hid hrow
  have hgl2 := (hrow.lt _ rfl).2
  have HBW := Lib.hid (below_of HB3.out hb HB3.out.size)
  have hw5 : w.heap.size ≤ w5.heap.size := HBW.out.size
  have HA0 := Lib.hid (show (w5.alloc (.cells #[] 2)).ownsRow w5.heap.size 2 1 (.slice (some ⟨w5.heap.size, 0, none⟩) 0 0) 0 [] from World.ownsRow_made w5 #[] 0 (Nat.le_refl _) (by simp) (by simp))
  clear hb hrow c0 c1 c2 c3 c4
  go_wp2
  go_loopw [8, 9] (fun v i wr => ∃ k : Nat, k ≤ 5 ∧ i = .int .i64 k ∧ wr.ownsRow w5.heap.size 2 1 v k (i64s ((devsL [a, b, c, e, f] [r0, r1, r2, r3, r4]).take k)) ∧ Below w5.heap.size w5 wr) (fun _ i _ => 5 - (intOf i).toNat)
  case atStart => exact ⟨0, by omega, rfl, by simpa [i64s] using HA0.out, below_al _ _⟩
  case round =>
    obtain ⟨k, hk, rfl, hown, hbw⟩ := hrel
    have HO := Lib.hid hown
    have HW := Lib.hid hbw
    clear hown hbw
    by_cases hlt : k < 5
    · have y0 : w5.cell? ⟨gl, k, none⟩ = some (.int .i64 ([a, b, c, e, f].getD k 0)) := by rw [HRW.out.cellAt k (by omega)]; exact i64s_get _ k (by simpa using hlt)
      have y1 := (below_cell (below_of HBW.out (Below.refl _ _) HBW.out.size) gr k hgr).trans (HC.out k hlt)
      obtain ⟨x0, x1⟩ := HB5.out k hlt
      obtain ⟨z0, z1⟩ := HR5.out k hlt
      have HNX := Lib.hid (HN.out k hlt)
      have HKK := Lib.hid (HDK.out k)
      have hgr5 : gr < w5.heap.size := by omega
      generalize [a, b, c, e, f].getD k 0 = x at *
      generalize [r0, r1, r2, r3, r4].getD k 0 = y at *
      have HBT := Lib.hid (fun w => l02Between_any x y w (by omega) (by omega) (by omega) (by omega))
      obtain ⟨d, hd⟩ : ∃ d, logV y - logV x = d := ⟨_, rfl⟩
      rw [hd] at HBT HKK
      have hk0 : (0 : Int) ≤ (k : Int) := by omega
      have hk1 : (k : Int) < 5 := by omega
      have HSS := Lib.hid (fun W (hW : Below w5.heap.size w5 W) => show W.cell? ⟨gl, k, none⟩ = some (.int .i64 x) ∧ W.cell? ⟨gr, k, none⟩ = some (.int .i64 y) ∧ Below w5.heap.size w5 W from ⟨(below_cell hW _ _ hgl2).trans y0, (below_cell hW _ _ hgr5).trans y1, hW⟩)
      have hbd : Below w5.heap.size w5 wr.drew := HW.out.trans ⟨rfl, rfl, rfl, Nat.le_refl _, fun _ _ => rfl⟩
      have HO6 := Lib.hid (show (wr.alloc (.cells #[.int .i64 d] 2)).drew.ownsRow w5.heap.size 2 1 _ k (i64s ((devsL [a, b, c, e, f] [r0, r1, r2, r3, r4]).take k)) from HO.out.alloc (.cells #[.int .i64 d] 2))
      have hbw6 : Below w5.heap.size w5 (wr.alloc (.cells #[.int .i64 d] 2)).drew := HW.out.trans ⟨rfl, rfl, rfl, by simp, fun j hj => heap_alloc_old wr _ (Nat.lt_of_lt_of_le hj HW.out.size)⟩
      have hsz6 : w5.heap.size ≤ (wr.alloc (.cells #[.int .i64 d] 2)).drew.heap.size := hbw6.size
      clear y0 y1 x0 x1 z0 z1 hd
      go_wp2
      go_region_held3 (fun W => W.cell? ⟨gl, k, none⟩ = some (.int .i64 x) ∧ W.cell? ⟨gr, k, none⟩ = some (.int .i64 y) ∧ Below w5.heap.size w5 W)
        (first | with_reducible exact HSS.out _ hbd | with_reducible exact HSS.out _ hbw6 | with_reducible exact HSS.out _ hbw7 | assumption)
        (first
          | (refine step_append_lies _ rfl (.tmp 23) (.tmp 33) 22 rfl w5.heap.size 2 i0 (.int .i64 0) 1 8 Tryz.underlying22 hi hz0 hz1 hz2 rfl (by decide) _ k (i64s ((devsL [a, b, c, e, f] [r0, r1, r2, r3, r4]).take k)) (by simp [Act.eval]) HO6.out ⟨wr.heap.size, 0, none⟩ 1 1 [.int .i64 d] (by simp [Act.eval]) rfl newsR (by intro u hu; simp at hu; subst hu; rfl) (by decide) (by unfold maxLen; omega) (by omega) hsz6 _ rfl ?_; intro g4 cap4 w4 hown4 hgrow4 hat4 hlt4; have hbw7 := hbw6.grown hgrow4 hsz6 (fun j hj => (HO6.out.lt j hj).1))
          | (go_at_call 64; refine (HBT.out _).mono ?_; rintro e wq ⟨rfl, rfl⟩))
      have HO4 := Lib.hid (show w4.ownsRow w5.heap.size 2 1 (.slice (some ⟨g4, 0, none⟩) (k + 1) cap4) (k + 1) (i64s ((devsL [a, b, c, e, f] [r0, r1, r2, r3, r4]).take (k + 1))) from by rw [HNX.out, HKK.out]; exact hown4)
      have HB4 := Lib.hid hbw7
      clear hown4 hgrow4 hat4 hlt4 hbw7
      go_wp2
      go_roundw
      case rel => exact ⟨k + 1, by omega, by go_num, HO4.out, HB4.out⟩
      case measure => simp [intOf]; omega
    · obtain rfl : k = 5 := by omega
      have hown := HO.out
      rw [List.take_of_length_le (by rw [HDL.out]; exact Nat.le_refl _)] at hown
      obtain ⟨g5, cap5, rfl, -, -⟩ := hown.form (by omega)
      have HOF := Lib.hid hown
      have HBF := Lib.hid (below_of HBW.out HW.out HBW.out.size)
      clear hown
      go_wp2
      go_ret2
      exact ⟨.slice (some ⟨g5, 0, none⟩) 5 cap5, rfl, iv_base (iv_of_row HDL.out HOF.out) hw5, HBF.out⟩
theorem l10Dev_no (g gr cap : Nat) (r0 r1 r2 r3 r4 : Int) (w : World) (hgr : gr < w.heap.size) (h0 : w.cell? ⟨gr, 0, none⟩ = some (.int .i64 r0)) (h1 : w.cell? ⟨gr, 1, none⟩ = some (.int .i64 r1)) (h2 : w.cell? ⟨gr, 2, none⟩ = some (.int .i64 r2)) (h3 : w.cell? ⟨gr, 3, none⟩ = some (.int .i64 r3)) (h4 : w.cell? ⟨gr, 4, none⟩ = some (.int .i64 r4))
    (hR : sndB r0 r1 r2 r3 r4 = false) :
    Calls Tryz.prog 48 #[.pointer (some ⟨g, 0, none⟩), .slice (some ⟨gr, 0, none⟩) 5 cap] w fun en w' => en = .returned (.tuple #[.slice none 0 0, .bool false]) ∧ Below w.heap.size w w' := by
  have HSD := Lib.hid (l04Sound_capZ gr cap r0 r1 r2 r3 r4 w hgr h0 h1 h2 h3 h4)
  have HRB := Lib.hid hR
  clear h0 h1 h2 h3 h4 hR
  go_enter Tryz.func48, Tryz.ntmps48
  go_wp2_with fail
  refine HSD.out.mono ?_
  rintro en w1 ⟨rfl, hb⟩
  have hx := five_alloc w1 r0 r1 r2 r3 r4 44
  have HB1 := Lib.hid (below_of hb (below_al w1 (.cells #[.int .i64 r0, .int .i64 r1, .int .i64 r2, .int .i64 r3, .int .i64 r4] 44)) hb.size)
  have HOK := Lib.hid (l04Ok_any w1.heap.size r0 r1 r2 r3 r4 _ hx.1 hx.2.1 hx.2.2.1 hx.2.2.2.1 hx.2.2.2.2)
  rw [HRB.out] at HOK
  clear hb hx
  go_wp2_with fail
  refine HOK.out.mono ?_
  rintro en w3 ⟨rfl, hb⟩
  have HB3 := Lib.hid (below_of HB1.out hb HB1.out.size)
  clear hb HOK
  go_wp2
  go_ret2
  exact ⟨rfl, HB3.out⟩
end Go.Proofs.YtpjopfhkgegahaaGreat


set_option linter.unusedVariables false
namespace Go.Proofs.YtpjopfhkgegahaaGreat
open Go.ChangeShapes Go.WideShapes Go.ChangeAt Go.RowKit

def askG (zs : List Int) (ws : List (List Int)) (bs : List Int) (s : ByteArray) (rs : List Rg) (a b c e f t q : Int) : Int := if goalB a b c e f t q = true then askM zs ws bs s rs else 1
theorem askG_yes {zs : List Int} {ws : List (List Int)} {bs : List Int} {s : ByteArray} {rs : List Rg} {a b c e f t q : Int} (h : goalB a b c e f t q = true) : askG zs ws bs s rs a b c e f t q = askM zs ws bs s rs := by unfold askG; rw [if_pos h]
theorem askG_no {zs : List Int} {ws : List (List Int)} {bs : List Int} {s : ByteArray} {rs : List Rg} {a b c e f t q : Int} (h : goalB a b c e f t q = false) : askG zs ws bs s rs a b c e f t q = 1 := by unfold askG; rw [h]; rfl
set_option maxRecDepth 20000 in
set_option maxHeartbeats 2000000 in
theorem l10Ask_any (m p g : Nat) (v0 v1 v2 v : Value) (zs : List Int) (ws : List (List Int)) (bs : List Int) (s : ByteArray) (rs : List Rg) (a b c e f t q : Int) (w : World) (hml : m < w.heap.size) (hpl : p < w.heap.size) (hm : ModIn w m v0 v1 v2) (h0 : IntsAt w v0 zs) (h1 : RowsAt w v1 ws) (h2 : IntsAt w v2 bs) (hp : ProfIn w p s v) (hv : RingsAt w v rs) (hs : s.size ≤ maxLen) (hg : Seven w g a b c e f t q) :
    Calls Tryz.prog 37 #[.pointer (some ⟨m, 0, none⟩), .pointer (some ⟨p, 0, none⟩), .pointer (some ⟨g, 0, none⟩)] w fun en w' => en = .returned (.int .i64 (askG zs ws bs s rs a b c e f t q)) ∧ Below w.heap.size w w' := by
  have HG := Lib.hid (l10Goal_any g a b c e f t q w hg)
  have HM := Lib.hid (fun W (hW : Below w.heap.size w W) => l08Ask_any m p v0 v1 v2 v zs ws bs s rs W (Nat.lt_of_lt_of_le hml hW.size) (Nat.lt_of_lt_of_le hpl hW.size) (modIn_keep hW hml hm) (ints_kept hW h0) (mrows_kept hW h1) (ints_kept hW h2) (prof_keep hW hpl hp) (rings_kept hW hv) hs)
  clear hm h0 h1 h2 hp hv hg hml hpl
  rcases Bool.eq_false_or_eq_true (goalB a b c e f t q) with q1 | q1
  · have Q1 := Lib.hid q1
    have HR := Lib.hid (askG_yes (zs := zs) (ws := ws) (bs := bs) (s := s) (rs := rs) q1)
    clear q1
    go_enter Tryz.func37, Tryz.ntmps37
    go_wp2_with fail
    refine HG.out.mono ?_
    rintro en w1 ⟨rfl, hb⟩
    rw [Q1.out]
    have HB1 := Lib.hid hb
    clear hb
    go_wp2_with fail
    refine (HM.out _ HB1.out).mono ?_
    rintro en w2 ⟨rfl, hb⟩
    have HB2 := Lib.hid (below_of HB1.out hb HB1.out.size)
    clear hb
    go_wp2
    go_ret
    exact ⟨ret_i64 HR.out.symm, HB2.out⟩
  · have Q1 := Lib.hid q1
    have HR := Lib.hid (askG_no (zs := zs) (ws := ws) (bs := bs) (s := s) (rs := rs) q1)
    clear q1
    go_enter Tryz.func37, Tryz.ntmps37
    go_wp2_with fail
    refine HG.out.mono ?_
    rintro en w1 ⟨rfl, hb⟩
    rw [Q1.out]
    have HB1 := Lib.hid hb
    clear hb
    go_wp2
    go_ret
    exact ⟨ret_i64 HR.out.symm, HB1.out⟩
end Go.Proofs.YtpjopfhkgegahaaGreat


set_option linter.unusedVariables false
namespace Go.Proofs.YtpjopfhkgegahaaGreat
open Go.ChangeShapes Go.WideShapes Go.ChangeAt Go.RowKit

theorem ap_0 {s : ByteArray} {rs : List Rg} {zs : List Int} {cs : List Ct} (h : apC s rs zs cs = 0) : profB s (cutT rs zs cs) = true := by
  by_cases h0 : apA s rs zs cs = 0
  · rw [apC_ok h0] at h
    unfold resC at h
    split at h
    · assumption
    · omega
  · rw [apC_no h0] at h
    exact absurd h h0
theorem ask_cut {zs : List Int} {ws : List (List Int)} {bs : List Int} {s : ByteArray} {rs : List Rg} {cs : List Ct} (h : askM zs ws bs s rs = 0) (h2 : apC s rs zs cs = 0) : modB zs ws bs = true ∧ profB s (cutT rs zs cs) = true ∧ fitB (cutT rs zs cs).length zs = true := by
  obtain ⟨q1, q2, q3⟩ := askM_ok h
  exact ⟨q1, ap_0 h2, by rw [cutT_len]; exact q3⟩
theorem askG_ok {zs : List Int} {ws : List (List Int)} {bs : List Int} {s : ByteArray} {rs : List Rg} {a b c e f t q : Int} (h : askG zs ws bs s rs a b c e f t q = 0) : goalB a b c e f t q = true ∧ askM zs ws bs s rs = 0 := by
  rcases Bool.eq_false_or_eq_true (goalB a b c e f t q) with h1 | h1
  · exact ⟨h1, (askG_yes h1).symm.trans h⟩
  · rw [askG_no h1] at h
    omega
def dvC (zs : List Int) (ws : List (List Int)) (bs : List Int) (s : ByteArray) (rs : List Rg) (cs : List Ct) (a b c e f t q : Int) : Int :=
  if cutsB cs = true then (if askG zs ws bs s rs a b c e f t q = 0 then (if apC s rs zs cs = 0 then (if sofB zs ws bs (cutT rs zs cs) = true then 0 else 6) else apC s rs zs cs) else askG zs ws bs s rs a b c e f t q) else 1
def dvL (zs : List Int) (ws : List (List Int)) (bs : List Int) (s : ByteArray) (rs : List Rg) (cs : List Ct) (a b c e f t q : Int) : List Int :=
  if dvC zs ws bs s rs cs a b c e f t q = 0 then devsL [a, b, c, e, f] (rawL zs ws bs (cutT rs zs cs)) else []
section
variable {zs : List Int} {ws : List (List Int)} {bs : List Int} {s : ByteArray} {rs : List Rg} {cs : List Ct} {a b c e f t q : Int}
theorem dv_cuts (h : cutsB cs = false) : dvC zs ws bs s rs cs a b c e f t q = 1 := by unfold dvC; rw [h]; rfl
theorem dv_ask (h : cutsB cs = true) (h2 : askG zs ws bs s rs a b c e f t q ≠ 0) : dvC zs ws bs s rs cs a b c e f t q = askG zs ws bs s rs a b c e f t q := by unfold dvC; rw [if_pos h, if_neg h2]
theorem dv_ap (h : cutsB cs = true) (h2 : askG zs ws bs s rs a b c e f t q = 0) (h3 : apC s rs zs cs ≠ 0) : dvC zs ws bs s rs cs a b c e f t q = apC s rs zs cs := by unfold dvC; rw [if_pos h, if_pos h2, if_neg h3]
theorem dv_6 (h : cutsB cs = true) (h2 : askG zs ws bs s rs a b c e f t q = 0) (h3 : apC s rs zs cs = 0) (h4 : sofB zs ws bs (cutT rs zs cs) = false) : dvC zs ws bs s rs cs a b c e f t q = 6 := by unfold dvC; rw [if_pos h, if_pos h2, if_pos h3, h4]; rfl
theorem dv_0 (h : cutsB cs = true) (h2 : askG zs ws bs s rs a b c e f t q = 0) (h3 : apC s rs zs cs = 0) (h4 : sofB zs ws bs (cutT rs zs cs) = true) : dvC zs ws bs s rs cs a b c e f t q = 0 := by unfold dvC; rw [if_pos h, if_pos h2, if_pos h3, if_pos h4]
theorem dvL_0 (h : dvC zs ws bs s rs cs a b c e f t q = 0) : dvL zs ws bs s rs cs a b c e f t q = devsL [a, b, c, e, f] [rawK zs ws bs (cutT rs zs cs) 0, rawK zs ws bs (cutT rs zs cs) 1, rawK zs ws bs (cutT rs zs cs) 2, rawK zs ws bs (cutT rs zs cs) 3, rawK zs ws bs (cutT rs zs cs) 4] := by unfold dvL; rw [if_pos h, rawL_list]
theorem dvL_no {k : Int} (h : dvC zs ws bs s rs cs a b c e f t q = k) (hk : k ≠ 0) : dvL zs ws bs s rs cs a b c e f t q = [] := by unfold dvL; rw [if_neg (by rw [h]; exact hk)]
theorem dvL_len : (dvL zs ws bs s rs cs a b c e f t q).length ≤ 1048576 := by
  unfold dvL
  split
  · rw [devs_len]; omega
  · simp
end
theorem box3 (v0 v1 v2 v : Value) (s : ByteArray) (a b c e f t q : Int) (w : World) :
    Below w.heap.size w (((w.alloc (.cells #[v0, v1, v2] 38)).alloc (.cells #[.string s, v] 42)).alloc (.cells #[.int .i64 a, .int .i64 b, .int .i64 c, .int .i64 e, .int .i64 f, .int .i64 t, .int .i64 q] 46)) ∧ ModIn (((w.alloc (.cells #[v0, v1, v2] 38)).alloc (.cells #[.string s, v] 42)).alloc (.cells #[.int .i64 a, .int .i64 b, .int .i64 c, .int .i64 e, .int .i64 f, .int .i64 t, .int .i64 q] 46)) w.heap.size v0 v1 v2 ∧ ProfIn (((w.alloc (.cells #[v0, v1, v2] 38)).alloc (.cells #[.string s, v] 42)).alloc (.cells #[.int .i64 a, .int .i64 b, .int .i64 c, .int .i64 e, .int .i64 f, .int .i64 t, .int .i64 q] 46)) (w.heap.size + 1) s v ∧ Seven (((w.alloc (.cells #[v0, v1, v2] 38)).alloc (.cells #[.string s, v] 42)).alloc (.cells #[.int .i64 a, .int .i64 b, .int .i64 c, .int .i64 e, .int .i64 f, .int .i64 t, .int .i64 q] 46)) (w.heap.size + 2) a b c e f t q ∧ w.heap.size + 2 < (((w.alloc (.cells #[v0, v1, v2] 38)).alloc (.cells #[.string s, v] 42)).alloc (.cells #[.int .i64 a, .int .i64 b, .int .i64 c, .int .i64 e, .int .i64 f, .int .i64 t, .int .i64 q] 46)).heap.size :=
  ⟨((below_al _ _).alloc (by simp) _).alloc (by simp; omega) _, ⟨by go_simp, by go_simp, by go_simp⟩, ⟨by go_simp, by go_simp⟩, ⟨⟨by go_simp, by go_simp, by go_simp, by go_simp, by go_simp⟩, by go_simp, by go_simp⟩, by simp⟩
set_option maxRecDepth 20000 in
set_option maxHeartbeats 4000000 in
theorem specDA_any (v0 v1 v2 v vc : Value) (zs : List Int) (ws : List (List Int)) (bs : List Int) (s : ByteArray) (rs : List Rg) (cs : List Ct) (a b c e f t q : Int) (w : World) (h0 : IntsAt w v0 zs) (h1 : RowsAt w v1 ws) (h2 : IntsAt w v2 bs) (hv : RingsAt w v rs) (hs : s.size ≤ maxLen) (hc : CutsAt w vc cs) :
    Calls Tryz.prog 22 #[.agg #[v0, v1, v2], .agg #[.string s, v], .agg #[.int .i64 a, .int .i64 b, .int .i64 c, .int .i64 e, .int .i64 f, .int .i64 t, .int .i64 q], vc] w (IntU (dvL zs ws bs s rs cs a b c e f t q) (dvC zs ws bs s rs cs a b c e f t q) w) := by
  obtain ⟨wA, hwA⟩ : ∃ W, (((w.alloc (.cells #[v0, v1, v2] 38)).alloc (.cells #[.string s, v] 42)).alloc (.cells #[.int .i64 a, .int .i64 b, .int .i64 c, .int .i64 e, .int .i64 f, .int .i64 t, .int .i64 q] 46)) = W := ⟨_, rfl⟩
  have HWA := Lib.hid hwA
  have hbox := box3 v0 v1 v2 v s a b c e f t q w
  rw [hwA] at hbox
  obtain ⟨hba, hm, hp, hg, hml⟩ := hbox
  obtain ⟨a0, k0, hv0⟩ := ints_form h0
  have HAK := Lib.hid (l10Ask_any w.heap.size (w.heap.size + 1) (w.heap.size + 2) v0 v1 v2 v zs ws bs s rs a b c e f t q wA (by omega) (by omega) hm (ints_kept hba h0) (mrows_kept hba h1) (ints_kept hba h2) hp (rings_kept hba hv) hs hg)
  have HCU := Lib.hid (fun W (hW : Below wA.heap.size wA W) => l09Cuts_any cs vc W (cuts_kept hW (cuts_kept hba hc)))
  have HAP := Lib.hid (fun W (hW : Below wA.heap.size wA W) => l09Apply_any (w.heap.size + 1) s v v0 vc rs zs cs W (Nat.lt_of_lt_of_le (by omega) hW.size) (prof_keep hW (by omega) hp) (rings_kept hW (rings_kept hba hv)) hs (ints_kept hW (ints_kept hba h0)) (cuts_kept hW (cuts_kept hba hc)))
  have HRW := Lib.hid (fun l p v' W (hW : Below wA.heap.size wA W) (hpl : p < W.heap.size) (hp' : ProfIn W p s v') (hv' : RingsAt W v' l) q1 q2 q3 => l08Raw_any w.heap.size p v0 v1 v2 v' zs ws bs s l W (Nat.lt_of_lt_of_le (by omega) hW.size) hpl (modIn_keep hW (by omega) hm) (ints_kept hW (ints_kept hba h0)) (mrows_kept hW (mrows_kept hba h1)) (ints_kept hW (ints_kept hba h2)) hp' hv' hs q1 q2 q3)
  have HG7 := Lib.hid (fun W (hW : Below wA.heap.size wA W) => seven_kept hW hml hg)
  have HM0 := Lib.hid (fun W (hW : Below wA.heap.size wA W) => (below_cell hW w.heap.size 0 (by omega)).trans hm.1)
  have HBA := Lib.hid hba
  subst hv0
  clear hba hm hp hg h0 h1 h2 hv hc hwA
  rcases Bool.eq_false_or_eq_true (cutsB cs) with c1 | c1
  · have C1 := Lib.hid c1
    by_cases hk : askG zs ws bs s rs a b c e f t q = 0
    · have HK := Lib.hid hk
      obtain ⟨g1, g2⟩ := askG_ok hk
      by_cases ha : apC s rs zs cs = 0
      · have HA := Lib.hid ha
        have HQ := Lib.hid (ask_cut g2 ha)
        have HSB := Lib.hid (show sofB zs ws bs (cutT rs zs cs) = sndB (rawK zs ws bs (cutT rs zs cs) 0) (rawK zs ws bs (cutT rs zs cs) 1) (rawK zs ws bs (cutT rs zs cs) 2) (rawK zs ws bs (cutT rs zs cs) 3) (rawK zs ws bs (cutT rs zs cs) 4) from rfl)
        have HD6 := Lib.hid (fun h4 => dv_6 c1 hk ha h4)
        have HD0 := Lib.hid (fun h4 => dv_0 c1 hk ha h4)
        have HL0 := Lib.hid (fun h => dvL_0 (zs := zs) (ws := ws) (bs := bs) (s := s) (rs := rs) (cs := cs) (a := a) (b := b) (c := c) (e := e) (f := f) (t := t) (q := q) h)
        have HLI := Lib.hid (rawL_list zs ws bs (cutT rs zs cs))
        have HLN := Lib.hid (raw_len zs ws bs (cutT rs zs cs))
        have HCL := Lib.hid (show (cutT rs zs cs).length ≤ 1048576 by have := (prof_iff.1 HQ.out.2.1).2.1; omega)
        have HGS := Lib.hid (goal_snd g1)
        have HSS := Lib.hid (show resS s 0 = s from rfl)
        have HSL := Lib.hid (show resL (cutT rs zs cs) 0 = cutT rs zs cs from rfl)
        rw [ha, HSS.out, HSL.out] at HAP
        clear hk ha g1 g2 c1 HSS HSL
        generalize cutT rs zs cs = l at *
        go_enter Tryz.func22, Tryz.ntmps22
        go_wp2_with fail
        rw [HWA.out]
        refine HAK.out.mono ?_
        rintro en w1 ⟨rfl, hb⟩
        rw [HK.out]
        have HB1 := Lib.hid hb
        clear hb
        go_wp2_with fail
        refine (HCU.out _ HB1.out).mono ?_
        rintro en w2 ⟨rfl, hb⟩
        rw [C1.out]
        have HB2 := Lib.hid (below_of HB1.out hb HB1.out.size)
        clear hb
        have m2 := HM0.out _ HB2.out
        go_wp2_with fail
        refine (HAP.out _ HB2.out).mono ?_
        rintro en w3 ⟨vn, rfl, hrv, hb⟩
        obtain ⟨an, cn, rfl⟩ := rv_form hrv
        have HB4 := Lib.hid (below_of HB2.out (below_of hb (below_al w3 (.cells #[.string s, .slice an l.length cn] 42)) hb.size) HB2.out.size)
        have HRX := Lib.hid (rv_kept (below_al w3 (.cells #[.string s, .slice an l.length cn] 42)) hrv)
        have HPX := Lib.hid (prof_alloc w3 s (.slice an l.length cn) 42)
        have hlx := alloc_lt2 w3 (.cells #[.string s, .slice an l.length cn] 42)
        clear hrv hb m2
        go_wp2_with fail
        generalize w3.alloc (.cells #[.string s, .slice an l.length cn] 42) = w4 at *
        refine (HRW.out l w3.heap.size (.slice an l.length cn) w4 HB4.out hlx HPX.out (rv_rings HCL.out HRX.out) HQ.out.1 HQ.out.2.1 HQ.out.2.2).mono ?_
        rintro en w5 ⟨⟨vr, rfl, ho⟩, hb⟩
        have HB5 := Lib.hid (below_of HB4.out hb HB4.out.size)
        clear hb
        rcases ho with ⟨-, hnil⟩ | ⟨g, cap, T, rfl, hgB, hrow⟩
        · have := HLN.out; rw [hnil] at this; simp at this
        rw [HLN.out] at hrow ⊢
        have hgl := (hrow.lt _ rfl).2
        rw [HLI.out] at hrow
        have c0 := hrow.cellAt 0 (by omega)
        have c1 := hrow.cellAt 1 (by omega)
        have c2 := hrow.cellAt 2 (by omega)
        have c3 := hrow.cellAt 3 (by omega)
        have c4 := hrow.cellAt 4 (by omega)
        simp only [i64s, List.map_cons, List.map_nil, List.getElem?_cons_zero, List.getElem?_cons_succ] at c0 c1 c2 c3 c4
        clear hrow HLI HLN
        generalize rawK zs ws bs l 0 = r0 at *
        generalize rawK zs ws bs l 1 = r1 at *
        generalize rawK zs ws bs l 2 = r2 at *
        generalize rawK zs ws bs l 3 = r3 at *
        generalize rawK zs ws bs l 4 = r4 at *
        have hw5 : w.heap.size ≤ w5.heap.size := Nat.le_trans HBA.out.size HB5.out.size
        have HBF := Lib.hid (below_of HBA.out HB5.out HBA.out.size)
        rcases Bool.eq_false_or_eq_true (sndB r0 r1 r2 r3 r4) with h5 | h5
        · have HR := Lib.hid (HD0.out (by rw [HSB.out]; exact h5))
          have HL := Lib.hid (HL0.out HR.out)
          have HDO := Lib.hid (l10Dev_ok (w.heap.size + 2) g cap a b c e f t q r0 r1 r2 r3 r4 w5 (HG7.out _ HB5.out) HGS.out hgl c0 c1 c2 c3 c4 h5)
          clear c0 c1 c2 c3 c4 h5
          go_wp2_with fail
          refine HDO.out.mono ?_
          rintro en w6 ⟨vv, rfl, hiv, hb⟩
          have HI := Lib.hid (iv_base hiv hw5)
          have HB6 := Lib.hid (below_of HBF.out hb HBF.out.size)
          clear hiv hb
          go_wp2
          go_ret2
          exact ⟨vv, ret_iv HR.out.symm, by rw [HL.out]; exact HI.out, HB6.out⟩
        · have HR := Lib.hid (HD6.out (by rw [HSB.out]; exact h5))
          have HL := Lib.hid (dvL_no HR.out (by decide))
          have HDN := Lib.hid (l10Dev_no (w.heap.size + 2) g cap r0 r1 r2 r3 r4 w5 hgl c0 c1 c2 c3 c4 h5)
          clear c0 c1 c2 c3 c4 h5
          go_wp2_with fail
          refine HDN.out.mono ?_
          rintro en w6 ⟨rfl, hb⟩
          have HB6 := Lib.hid (below_of HBF.out hb HBF.out.size)
          clear hb
          go_wp2
          go_ret2
          exact ⟨_, ret_iv HR.out.symm, by rw [HL.out]; exact .inl ⟨rfl, rfl⟩, HB6.out⟩
      · have HR := Lib.hid (dv_ap c1 hk ha)
        have HL := Lib.hid (dvL_no HR.out ha)
        obtain ⟨ac, hac⟩ : ∃ x, apC s rs zs cs = x := ⟨_, rfl⟩
        rw [hac] at HAP ha HR
        have hne : (ac != 0) = true := bne_iff_ne.2 ha
        clear hk g1 g2 c1 hac ha
        generalize resS s ac = s' at *
        generalize resL (cutT rs zs cs) ac = l at *
        go_enter Tryz.func22, Tryz.ntmps22
        go_wp2_with fail
        rw [HWA.out]
        refine HAK.out.mono ?_
        rintro en w1 ⟨rfl, hb⟩
        rw [HK.out]
        have HB1 := Lib.hid hb
        clear hb
        go_wp2_with fail
        refine (HCU.out _ HB1.out).mono ?_
        rintro en w2 ⟨rfl, hb⟩
        rw [C1.out]
        have HB2 := Lib.hid (below_of HB1.out hb HB1.out.size)
        clear hb
        have m2 := HM0.out _ HB2.out
        go_wp2_with fail
        refine (HAP.out _ HB2.out).mono ?_
        rintro en w3 ⟨vn, rfl, hrv, hb⟩
        obtain ⟨an, cn, rfl⟩ := rv_form hrv
        have HBF := Lib.hid (below_of HBA.out (below_of HB2.out (below_of hb (below_al w3 (.cells #[.string s', .slice an l.length cn] 42)) hb.size) HB2.out.size) HBA.out.size)
        clear hrv hb m2
        go_wp2
        go_ret2
        exact ⟨_, ret_iv HR.out.symm, by rw [HL.out]; exact .inl ⟨rfl, rfl⟩, HBF.out⟩
    · have HR := Lib.hid (dv_ask c1 hk)
      have HL := Lib.hid (dvL_no HR.out hk)
      obtain ⟨ac, hac⟩ : ∃ x, askG zs ws bs s rs a b c e f t q = x := ⟨_, rfl⟩
      rw [hac] at HAK hk HR
      have hne : (ac != 0) = true := bne_iff_ne.2 hk
      clear hk c1 hac
      go_enter Tryz.func22, Tryz.ntmps22
      go_wp2_with fail
      rw [HWA.out]
      refine HAK.out.mono ?_
      rintro en w1 ⟨rfl, hb⟩
      have HB1 := Lib.hid hb
      clear hb
      go_wp2_with fail
      refine (HCU.out _ HB1.out).mono ?_
      rintro en w2 ⟨rfl, hb⟩
      rw [C1.out]
      have HBF := Lib.hid (below_of HBA.out (below_of HB1.out hb HB1.out.size) HBA.out.size)
      clear hb
      go_wp2
      go_ret2
      exact ⟨_, ret_iv HR.out.symm, by rw [HL.out]; exact .inl ⟨rfl, rfl⟩, HBF.out⟩
  · have C1 := Lib.hid c1
    have HR := Lib.hid (dv_cuts (zs := zs) (ws := ws) (bs := bs) (s := s) (rs := rs) (a := a) (b := b) (c := c) (e := e) (f := f) (t := t) (q := q) c1)
    have HL := Lib.hid (dvL_no HR.out (by decide))
    clear c1
    go_enter Tryz.func22, Tryz.ntmps22
    go_wp2_with fail
    rw [HWA.out]
    refine HAK.out.mono ?_
    rintro en w1 ⟨rfl, hb⟩
    have HB1 := Lib.hid hb
    clear hb
    go_wp2_with fail
    refine (HCU.out _ HB1.out).mono ?_
    rintro en w2 ⟨rfl, hb⟩
    rw [C1.out]
    have HBF := Lib.hid (below_of HBA.out (below_of HB1.out hb HB1.out.size) HBA.out.size)
    clear hb
    go_wp2
    go_ret2
    exact ⟨_, ret_iv HR.out.symm, by rw [HL.out]; exact .inl ⟨rfl, rfl⟩, HBF.out⟩
end Go.Proofs.YtpjopfhkgegahaaGreat


namespace Go.Proofs.YtpjopfhkgegahaaGreat
open Go.ChangeShapes Go.WideShapes Go.ChangeAt Go.RowKit

def centsR (f g : Int) : Int := if ok2 f g = true then logV g - logV f else 0
def aptV (f g : Int) : Int := if f < g then g - f else f - g
def beatR (f g : Int) : Int := if ok2 f g = true then aptV f g else 0
theorem apt_bd (f g : Int) : 0 ≤ aptV f g ∧ (aptV f g = 0 ↔ f = g) ∧ aptV f g = aptV g f := by unfold aptV; split <;> split <;> omega
theorem apt_le {f g M : Int} (h0 : 0 ≤ f) (h1 : f ≤ M) (k0 : 0 ≤ g) (k1 : g ≤ M) : aptV f g ≤ M := by unfold aptV; split <;> omega

theorem cellN1 (w : World) (x : Int) (T : TypeId) (n : Nat) (hn : n = w.heap.size) : ∀ j, j < 1 → (w.alloc (.cells #[.int .i64 x] T)).cell? ⟨n, 0 + j, none⟩ = some (.int .i64 ([x].getD j 0)) := by
  subst hn
  exact cellF1 w x T
theorem implCentsBetween_any (f g : Int) (w : World) :
    Calls Tryz.prog 105 #[.int .i64 f, .int .i64 g] w fun e w' => e = .returned (.tuple #[.int .i64 (centsR f g), .int .i64 (codeOf (ok2 f g))]) ∧ Below w.heap.size w w' := by
  by_cases h : ok2 f g = true
  · have H1 := Lib.hid (show centsR f g = logV g - logV f by unfold centsR; rw [if_pos h])
    have H2 := Lib.hid (show codeOf (ok2 f g) = 0 by unfold codeOf; rw [if_pos h])
    have HA := Lib.hid ((all2 10000 20000000 f g).trans h)
    obtain ⟨⟨b0, b1⟩, b2, b3⟩ := ok2_iff.1 h
    have l1 := log_bd (show 0 < f by omega) (by omega)
    have l2 := log_bd (show 0 < g by omega) (by omega)
    clear h
    go_enter Tryz.func105, Tryz.ntmps105
    go_wp2_with fail
    refine (within_i64 _ _ [f, g] _ 0 2 2 _ rfl (by omega) (cellF2 _ _ _ _)).mono ?_
    rintro e w' ⟨rfl, rfl⟩
    rw [HA.out]
    go_wp2_with fail
    refine (implLog_any g _ (by omega) (by omega)).mono ?_
    rintro e w1 ⟨rfl, rfl⟩
    go_wp2_with fail
    refine (implLog_any f _ (by omega) (by omega)).mono ?_
    rintro e w1 ⟨rfl, rfl⟩
    go_wp2
    go_ret2
    exact ⟨retF_two H1.out.symm H2.out.symm, (Below.refl _ _).alloc (Nat.le_refl _) _⟩
  · have H1 := Lib.hid (show centsR f g = 0 by unfold centsR; rw [if_neg h])
    have H2 := Lib.hid (show codeOf (ok2 f g) = 2 by unfold codeOf; rw [if_neg h])
    have HA := Lib.hid ((all2 10000 20000000 f g).trans (by simpa using h : ok2 f g = false))
    clear h
    go_enter Tryz.func105, Tryz.ntmps105
    go_wp2_with fail
    refine (within_i64 _ _ [f, g] _ 0 2 2 _ rfl (by omega) (cellF2 _ _ _ _)).mono ?_
    rintro e w' ⟨rfl, rfl⟩
    rw [HA.out]
    go_wp2
    go_ret2
    exact ⟨retF_two H1.out.symm H2.out.symm, (Below.refl _ _).alloc (Nat.le_refl _) _⟩
end Go.Proofs.YtpjopfhkgegahaaGreat


set_option linter.unusedVariables false
namespace Go.Proofs.YtpjopfhkgegahaaGreat
open Go.ChangeShapes Go.WideShapes Go.ChangeAt Go.RowKit

set_option maxRecDepth 20000 in
set_option maxHeartbeats 2000000 in
theorem deviation_any (a b c e f t q r : Int) (k : Nat) (hk : k < 5) (w : World) (hS : sndB a b c e f = true) (hr : 10000 ≤ r ∧ r ≤ 20000000) :
    Calls Tryz.prog 73 #[.agg #[.int .i64 a, .int .i64 b, .int .i64 c, .int .i64 e, .int .i64 f, .int .i64 t, .int .i64 q], .int .i64 (k : Int), .int .i64 r] w fun en w' => en = .returned (.int .i64 (logV r - logV ([a, b, c, e, f].getD k 0))) ∧ Below w.heap.size w w' := by
  have hx := fun w => index5 a b c e f k hk w
  obtain ⟨x0, x1⟩ := snd_at hS k hk
  generalize [a, b, c, e, f].getD k 0 = x at *
  have H2 : ok2 x r = true := ok2_iff.2 ⟨⟨x0, x1⟩, hr⟩
  have HC := Lib.hid (fun w => implCentsBetween_any x r w)
  rw [show centsR x r = logV r - logV x by unfold centsR; rw [if_pos H2], show codeOf (ok2 x r) = 0 by unfold codeOf; rw [if_pos H2]] at HC
  generalize logV r - logV x = d at *
  have HB0 := Lib.hid (below_alG w (.cells #[.int .i64 a, .int .i64 b, .int .i64 c, .int .i64 e, .int .i64 f, .int .i64 t, .int .i64 q] 46))
  have hk0 : (0 : Int) ≤ (k : Int) := by omega
  have hk1 : (k : Int) < 5 := by omega
  clear H2
  go_enter Tryz.func73, Tryz.ntmps73
  go_wp2_with fail
  refine (partialsOf_any a b c e f _).mono ?_
  rintro en w1 ⟨rfl, hb⟩
  have HB1 := Lib.hid (below_of HB0.out hb HB0.out.size)
  clear hb
  go_wp2_with fail
  refine (HC.out _).mono ?_
  rintro en w2 ⟨rfl, hb⟩
  have HB2 := Lib.hid (below_of HB1.out hb HB1.out.size)
  clear hb
  go_wp2
  go_ret
  exact ⟨rfl, HB2.out⟩
set_option maxRecDepth 20000 in
set_option maxHeartbeats 4000000 in
theorem deviations_any (a b c e f t q r0 r1 r2 r3 r4 : Int) (w : World) (hS : sndB a b c e f = true) (hR : sndB r0 r1 r2 r3 r4 = true) :
    Calls Tryz.prog 57 #[.agg #[.int .i64 a, .int .i64 b, .int .i64 c, .int .i64 e, .int .i64 f, .int .i64 t, .int .i64 q], .agg #[.int .i64 r0, .int .i64 r1, .int .i64 r2, .int .i64 r3, .int .i64 r4]] w fun en w' => en = .returned (.agg #[.int .i64 (devK [a, b, c, e, f] [r0, r1, r2, r3, r4] 0), .int .i64 (devK [a, b, c, e, f] [r0, r1, r2, r3, r4] 1), .int .i64 (devK [a, b, c, e, f] [r0, r1, r2, r3, r4] 2), .int .i64 (devK [a, b, c, e, f] [r0, r1, r2, r3, r4] 3), .int .i64 (devK [a, b, c, e, f] [r0, r1, r2, r3, r4] 4)]) ∧ Below w.heap.size w w' := by
  have HDV := Lib.hid (fun r k hk w hr => deviation_any a b c e f t q r k hk w hS hr)
  have HR5 := Lib.hid (fun k (hk : k < 5) => snd_at hR k hk)
  have HIX := Lib.hid (fun k (hk : k < 5) w => index5 r0 r1 r2 r3 r4 k hk w)
  have HDK := Lib.hid (fun k => show devK [a, b, c, e, f] [r0, r1, r2, r3, r4] k = logV ([r0, r1, r2, r3, r4].getD k 0) - logV ([a, b, c, e, f].getD k 0) from rfl)
  have HMN := Lib.hid (fun k (hk : k < 5) => parZ_next (fun k => [r0, r1, r2, r3, r4].getD k 0) (devK [a, b, c, e, f] [r0, r1, r2, r3, r4]) k hk)
  have HML := Lib.hid (fun k => parZ_len (fun k => [r0, r1, r2, r3, r4].getD k 0) (devK [a, b, c, e, f] [r0, r1, r2, r3, r4]) k)
  have HM0 := Lib.hid (show i64s (parZ (fun k => [r0, r1, r2, r3, r4].getD k 0) (devK [a, b, c, e, f] [r0, r1, r2, r3, r4]) 0) = [.int .i64 r0, .int .i64 r1, .int .i64 r2, .int .i64 r3, .int .i64 r4] by rw [parZ_0]; rfl)
  have HM5 := Lib.hid (parZ_5 (fun k => [r0, r1, r2, r3, r4].getD k 0) (devK [a, b, c, e, f] [r0, r1, r2, r3, r4]))
  have hba : Below w.heap.size w (((w.alloc (.cells #[.int .i64 a, .int .i64 b, .int .i64 c, .int .i64 e, .int .i64 f, .int .i64 t, .int .i64 q] 46)).alloc (.cells #[.int .i64 r0, .int .i64 r1, .int .i64 r2, .int .i64 r3, .int .i64 r4] 44)).alloc (.cells #[.int .i64 0, .int .i64 0, .int .i64 0, .int .i64 0, .int .i64 0] 101)) := ((below_alG _ _).alloc (by simp) _).alloc (by simp; omega) _
  have HKP : Hid (∀ W, Below (((w.alloc (.cells #[.int .i64 a, .int .i64 b, .int .i64 c, .int .i64 e, .int .i64 f, .int .i64 t, .int .i64 q] 46)).alloc (.cells #[.int .i64 r0, .int .i64 r1, .int .i64 r2, .int .i64 r3, .int .i64 r4] 44)).alloc (.cells #[.int .i64 0, .int .i64 0, .int .i64 0, .int .i64 0, .int .i64 0] 101)).heap.size (((w.alloc (.cells #[.int .i64 a, .int .i64 b, .int .i64 c, .int .i64 e, .int .i64 f, .int .i64 t, .int .i64 q] 46)).alloc (.cells #[.int .i64 r0, .int .i64 r1, .int .i64 r2, .int .i64 r3, .int .i64 r4] 44)).alloc (.cells #[.int .i64 0, .int .i64 0, .int .i64 0, .int .i64 0, .int .i64 0] 101)) W →
      (W.cell? ⟨w.heap.size, 0, none⟩ = some (.int .i64 a) ∧ W.cell? ⟨w.heap.size, 1, none⟩ = some (.int .i64 b) ∧ W.cell? ⟨w.heap.size, 2, none⟩ = some (.int .i64 c) ∧ W.cell? ⟨w.heap.size, 3, none⟩ = some (.int .i64 e) ∧ W.cell? ⟨w.heap.size, 4, none⟩ = some (.int .i64 f) ∧ W.cell? ⟨w.heap.size, 5, none⟩ = some (.int .i64 t) ∧ W.cell? ⟨w.heap.size, 6, none⟩ = some (.int .i64 q)) ∧
      (W.cell? ⟨w.heap.size + 2, 0, none⟩ = some (.int .i64 0) ∧ W.cell? ⟨w.heap.size + 2, 1, none⟩ = some (.int .i64 0) ∧ W.cell? ⟨w.heap.size + 2, 2, none⟩ = some (.int .i64 0) ∧ W.cell? ⟨w.heap.size + 2, 3, none⟩ = some (.int .i64 0) ∧ W.cell? ⟨w.heap.size + 2, 4, none⟩ = some (.int .i64 0)) ∧
      (W.frozen? ⟨w.heap.size + 2, 0, none⟩ = false ∧ W.frozen? ⟨w.heap.size + 2, 1, none⟩ = false ∧ W.frozen? ⟨w.heap.size + 2, 2, none⟩ = false ∧ W.frozen? ⟨w.heap.size + 2, 3, none⟩ = false ∧ W.frozen? ⟨w.heap.size + 2, 4, none⟩ = false)) := by
    refine Lib.hid (fun W hW => ⟨⟨?_, ?_, ?_, ?_, ?_, ?_, ?_⟩, ⟨?_, ?_, ?_, ?_, ?_⟩, ⟨?_, ?_, ?_, ?_, ?_⟩⟩) <;> first | (rw [below_cell hW _ _ (by simp <;> omega)]; go_simp) | (rw [below_frozen hW _ _ (by simp <;> omega)]; go_simp)
  have hsz : w.heap.size + 2 < (((w.alloc (.cells #[.int .i64 a, .int .i64 b, .int .i64 c, .int .i64 e, .int .i64 f, .int .i64 t, .int .i64 q] 46)).alloc (.cells #[.int .i64 r0, .int .i64 r1, .int .i64 r2, .int .i64 r3, .int .i64 r4] 44)).alloc (.cells #[.int .i64 0, .int .i64 0, .int .i64 0, .int .i64 0, .int .i64 0] 101)).heap.size := by simp
  have HBA := Lib.hid hba
  clear hba hS hR
  go_enter Tryz.func57, Tryz.ntmps57
  go_wp2_with fail
  generalize (((w.alloc (.cells #[.int .i64 a, .int .i64 b, .int .i64 c, .int .i64 e, .int .i64 f, .int .i64 t, .int .i64 q] 46)).alloc (.cells #[.int .i64 r0, .int .i64 r1, .int .i64 r2, .int .i64 r3, .int .i64 r4] 44)).alloc (.cells #[.int .i64 0, .int .i64 0, .int .i64 0, .int .i64 0, .int .i64 0] 101)) = wA at *
  refine (partialsOf_any r0 r1 r2 r3 r4 _).mono ?_
  rintro en w1 ⟨rfl, hb⟩
  have HB1 := Lib.hid (below_of hb (below_al w1 (.cells #[.int .i64 r0, .int .i64 r1, .int .i64 r2, .int .i64 r3, .int .i64 r4] 101)) hb.size)
  have HRW := Lib.hid (show (w1.alloc (.cells #[.int .i64 r0, .int .i64 r1, .int .i64 r2, .int .i64 r3, .int .i64 r4] 101)).ownsRow w1.heap.size 101 1 (.slice (some ⟨w1.heap.size, 0, none⟩) 5 5) 5 (i64s (parZ (fun k => [r0, r1, r2, r3, r4].getD k 0) (devK [a, b, c, e, f] [r0, r1, r2, r3, r4]) 0)) from by
    rw [HM0.out]; exact row_box w1 #[.int .i64 r0, .int .i64 r1, .int .i64 r2, .int .i64 r3, .int .i64 r4] 101 5 _ rfl rfl (by unfold maxLen; omega))
  have hw1 : wA.heap.size ≤ w1.heap.size := hb.size
  clear hb
  generalize hGG : w1.heap.size = G at *
  go_wp2
  go_loopw [11] (fun i wr => ∃ k : Nat, k ≤ 5 ∧ i = .int .i64 k ∧ wr.ownsRow G 101 1 (.slice (some ⟨G, 0, none⟩) 5 5) 5 (i64s (parZ (fun k => [r0, r1, r2, r3, r4].getD k 0) (devK [a, b, c, e, f] [r0, r1, r2, r3, r4]) k)) ∧ Below wA.heap.size wA wr) (fun i _ => 5 - (intOf i).toNat)
  case atStart => exact ⟨0, by omega, rfl, HRW.out, HB1.out⟩
  case round =>
    obtain ⟨k, hk, rfl, hown, hbw⟩ := hrel
    have HO := Lib.hid hown
    have HBW := Lib.hid hbw
    clear hown hbw
    obtain ⟨⟨c0, c1, c2, c3, c4, c5, c6⟩, z, fz⟩ := HKP.out _ HBW.out
    by_cases hlt : k < 5
    · have hx := fun w => HIX.out k hlt w
      have HRK := Lib.hid (HR5.out k hlt)
      have HN := Lib.hid (HMN.out k hlt)
      have HKK := Lib.hid (HDK.out k)
      have HDR := Lib.hid (fun w => HDV.out ([r0, r1, r2, r3, r4].getD k 0) k hlt w HRK.out)
      clear z fz
      generalize [r0, r1, r2, r3, r4].getD k 0 = y at *
      rw [← HKK.out] at HDR
      have hk0 : (0 : Int) ≤ (k : Int) := by omega
      have hk1 : (k : Int) < 5 := by omega
      go_wp2_with fail
      refine (HDR.out _).mono ?_
      rintro en w7 ⟨rfl, hb7⟩
      have HO7 := Lib.hid (row_keep1 hb7 HO.out)
      have HG7 := Lib.hid (below_of HBW.out hb7 HBW.out.size)
      obtain ⟨old, hold⟩ : ∃ old, w7.cell? ⟨G, k, none⟩ = some (.int .i64 old) := ⟨_, by rw [HO7.out.cellAt k (by omega)]; exact i64s_get _ k (by rw [HML.out]; exact hlt)⟩
      have hf := HO7.out.frozenAt k
      have HGb := Lib.hid (HO7.out.lt _ rfl).1
      clear hb7 c0 c1 c2 c3 c4 c5 c6
      generalize devK [a, b, c, e, f] [r0, r1, r2, r3, r4] k = d at *
      go_wp2
      go_roundw
      case rel =>
        refine ⟨k + 1, by omega, by go_num, ?_, HG7.out.setCell (p := ⟨G, k, none⟩) (by simp <;> omega) _⟩
        rw [← HN.out, ← i64s_setZ]
        exact (HO7.out.stored k (.int .i64 d)).1
      case measure => simp [intOf]; omega
    · obtain rfl : k = 5 := by omega
      have hown := HO.out
      rw [HM5.out] at hown
      have y0 := hown.cellAt 0 (by omega)
      have y1 := hown.cellAt 1 (by omega)
      have y2 := hown.cellAt 2 (by omega)
      have y3 := hown.cellAt 3 (by omega)
      have y4 := hown.cellAt 4 (by omega)
      simp only [i64s, List.map_cons, List.map_nil, List.getElem?_cons_zero, List.getElem?_cons_succ] at y0 y1 y2 y3 y4
      obtain ⟨b0, b1, b2, b3, b4⟩ := z
      obtain ⟨f0, f1, f2, f3, f4⟩ := fz
      have HBE := Lib.hid (below_of HBA.out HBW.out HBA.out.size)
      obtain ⟨q0, hq0⟩ : ∃ q, devK [a, b, c, e, f] [r0, r1, r2, r3, r4] 0 = q := ⟨_, rfl⟩
      rw [hq0] at y0
      have HQ0 := Lib.hid hq0
      clear hq0
      obtain ⟨q1, hq1⟩ : ∃ q, devK [a, b, c, e, f] [r0, r1, r2, r3, r4] 1 = q := ⟨_, rfl⟩
      rw [hq1] at y1
      have HQ1 := Lib.hid hq1
      clear hq1
      obtain ⟨q2, hq2⟩ : ∃ q, devK [a, b, c, e, f] [r0, r1, r2, r3, r4] 2 = q := ⟨_, rfl⟩
      rw [hq2] at y2
      have HQ2 := Lib.hid hq2
      clear hq2
      obtain ⟨q3, hq3⟩ : ∃ q, devK [a, b, c, e, f] [r0, r1, r2, r3, r4] 3 = q := ⟨_, rfl⟩
      rw [hq3] at y3
      have HQ3 := Lib.hid hq3
      clear hq3
      obtain ⟨q4, hq4⟩ : ∃ q, devK [a, b, c, e, f] [r0, r1, r2, r3, r4] 4 = q := ⟨_, rfl⟩
      rw [hq4] at y4
      have HQ4 := Lib.hid hq4
      clear hq4
      clear hown HO c0 c1 c2 c3 c4 c5 c6
      go_wp2
      try simp only [Exit.inBlock, Exit.then]
      refine bodyPost_ret_by (v := .agg #[.int .i64 q0, .int .i64 q1, .int .i64 q2, .int .i64 q3, .int .i64 q4]) (by rw [results_cellR rfl]; go_simp) rfl ?_
      exact ⟨by rw [HQ0.out, HQ1.out, HQ2.out, HQ3.out, HQ4.out], set5 HBE.out (by omega) _ _ _ _ _⟩
end Go.Proofs.YtpjopfhkgegahaaGreat


set_option linter.unusedVariables false
namespace Go.Proofs.YtpjopfhkgegahaaGreat
open Go.ChangeShapes Go.WideShapes Go.ChangeAt Go.RowKit

theorem dv_goal {zs : List Int} {ws : List (List Int)} {bs : List Int} {s : ByteArray} {rs : List Rg} {cs : List Ct} {a b c e f t q : Int} (h : goalB a b c e f t q = false) : dvC zs ws bs s rs cs a b c e f t q = 1 := by
  rcases Bool.eq_false_or_eq_true (cutsB cs) with h1 | h1
  · rw [dv_ask h1 (by rw [askG_no h]; decide), askG_no h]
  · exact dv_cuts h1
theorem devs_row (ts rs : List Int) : i64s (devsL ts rs) = [.int .i64 (devK ts rs 0), .int .i64 (devK ts rs 1), .int .i64 (devK ts rs 2), .int .i64 (devK ts rs 3), .int .i64 (devK ts rs 4)] := by simp [devsL, i64s, List.range, List.range.loop]
set_option maxRecDepth 20000 in
set_option maxHeartbeats 4000000 in
theorem implDA_any (v0 v1 v2 v vc : Value) (zs : List Int) (ws : List (List Int)) (bs : List Int) (s : ByteArray) (rs : List Rg) (cs : List Ct) (a b c e f t q : Int) (w : World) (h0 : IntsAt w v0 zs) (h1 : RowsAt w v1 ws) (h2 : IntsAt w v2 bs) (hv : RingsW w v rs) (hs : s.size ≤ maxLen) (hc : CutsAt w vc cs) :
    Calls Tryz.prog 30 #[.agg #[v0, v1, v2], .agg #[.string s, v], .agg #[.int .i64 a, .int .i64 b, .int .i64 c, .int .i64 e, .int .i64 f, .int .i64 t, .int .i64 q], vc] w (IntU (dvL zs ws bs s rs cs a b c e f t q) (dvC zs ws bs s rs cs a b c e f t q) w) := by
  obtain ⟨wA, hwA⟩ : ∃ W, (((w.alloc (.cells #[v0, v1, v2] 38)).alloc (.cells #[.string s, v] 42)).alloc (.cells #[.int .i64 a, .int .i64 b, .int .i64 c, .int .i64 e, .int .i64 f, .int .i64 t, .int .i64 q] 46)) = W := ⟨_, rfl⟩
  have HWA := Lib.hid hwA
  have hbox := box3 v0 v1 v2 v s a b c e f t q w
  rw [hwA] at hbox
  obtain ⟨hba, hm, hp, hg, hml⟩ := hbox
  obtain ⟨a0, k0, hv0⟩ := ints_form h0
  obtain ⟨a1, k1, hv1⟩ := mrows_form h1
  obtain ⟨a2, k2, hv2⟩ := ints_form h2
  obtain ⟨av, cv, hvv⟩ := rings_form hv.1
  have HVG := Lib.hid (fun W => implVG_any a b c e f t q W)
  have HVC := Lib.hid (fun W (hW : Below wA.heap.size wA W) => implVC_any cs vc W (cuts_kept hW (cuts_kept hba hc)))
  have HMO := Lib.hid (fun q1 q2 q3 W (hW : Below wA.heap.size wA W) => modelled_ok v0 v1 v2 v zs ws bs s rs W (ints_kept hW (ints_kept hba h0)) (mrows_kept hW (mrows_kept hba h1)) (ints_kept hW (ints_kept hba h2)) (rings_kept hW (rings_kept hba hv.1)) hs q1 q2 q3)
  have HME := Lib.hid (fun q1 W (hW : Below wA.heap.size wA W) => modelled_err v0 v1 v2 v zs ws bs s rs W (ints_kept hW (ints_kept hba h0)) (mrows_kept hW (mrows_kept hba h1)) (ints_kept hW (ints_kept hba h2)) (rings_kept hW (rings_kept hba hv.1)) hs q1)
  have HAP := Lib.hid (fun W (hW : Below wA.heap.size wA W) => implAC_any s v v0 vc rs zs cs W (rings_kept hW (rings_kept hba hv.1)) hs (ints_kept hW (ints_kept hba h0)) (cuts_kept hW (cuts_kept hba hc)))
  have HSO := Lib.hid (fun l v' W (hW : Below wA.heap.size wA W) hv' => implSO_any v0 v1 v2 v' zs ws bs s l W (ints_kept hW (ints_kept hba h0)) (mrows_kept hW (mrows_kept hba h1)) (ints_kept hW (ints_kept hba h2)) hv' hs)
  have HKP := Lib.hid (fun W (hW : Below wA.heap.size wA W) => show ModIn W w.heap.size v0 v1 v2 ∧ ProfIn W (w.heap.size + 1) s v ∧ Seven W (w.heap.size + 2) a b c e f t q from ⟨modIn_keep hW (by omega) hm, prof_keep hW (by omega) hp, seven_kept hW hml hg⟩)
  have HBA := Lib.hid hba
  clear hba hm hp hg h0 h1 h2 hv hc hwA
  subst hv0 hv1 hv2 hvv
  rcases Bool.eq_false_or_eq_true (goalB a b c e f t q) with g1 | g1
  · have G1 := Lib.hid g1
    rcases Bool.eq_false_or_eq_true (cutsB cs) with c1 | c1
    · have C1 := Lib.hid c1
      by_cases hk : askM zs ws bs s rs = 0
      · obtain ⟨q1, q2, q3⟩ := askM_ok hk
        have HMK := Lib.hid (HMO.out (Lib.hid q1) q2 q3)
        have hkg := (askG_yes (zs := zs) (ws := ws) (bs := bs) (s := s) (rs := rs) g1).trans hk
        by_cases ha : apC s rs zs cs = 0
        · have HQ := Lib.hid (ask_cut hk ha)
          have HAQ := Lib.hid (askM_0 HQ.out.1 HQ.out.2.1 HQ.out.2.2)
          have HD6 := Lib.hid (fun h4 => dv_6 c1 hkg ha h4)
          have HD0 := Lib.hid (fun h4 => dv_0 c1 hkg ha h4)
          have HL0 := Lib.hid (fun h => dvL_0 (zs := zs) (ws := ws) (bs := bs) (s := s) (rs := rs) (cs := cs) (a := a) (b := b) (c := c) (e := e) (f := f) (t := t) (q := q) h)
          have HCL := Lib.hid (show (cutT rs zs cs).length ≤ 1048576 by have := (prof_iff.1 HQ.out.2.1).2.1; omega)
          have HGS := Lib.hid (goal_snd g1)
          have HSS := Lib.hid (show resS s 0 = s from rfl)
          have HSL := Lib.hid (show resL (cutT rs zs cs) 0 = cutT rs zs cs from rfl)
          rw [ha, HSS.out, HSL.out] at HAP
          clear hk hkg ha g1 c1 q1 q2 q3 HSS HSL HMO HME
          generalize cutT rs zs cs = l at *
          rcases Bool.eq_false_or_eq_true (sofB zs ws bs l) with h5 | h5
          · have HR := Lib.hid (HD0.out h5)
            have HL := Lib.hid (HL0.out HR.out)
            have HV := Lib.hid (sof_0 HAQ.out h5)
            have HRS := Lib.hid (show sndB (rawK zs ws bs l 0) (rawK zs ws bs l 1) (rawK zs ws bs l 2) (rawK zs ws bs l 3) (rawK zs ws bs l 4) = true from h5)
            clear h5 HQ HAQ HD6 HD0 HL0
            generalize rawK zs ws bs l 0 = r0 at *
            generalize rawK zs ws bs l 1 = r1 at *
            generalize rawK zs ws bs l 2 = r2 at *
            generalize rawK zs ws bs l 3 = r3 at *
            generalize rawK zs ws bs l 4 = r4 at *
            have HDV := Lib.hid (fun W => deviations_any a b c e f t q r0 r1 r2 r3 r4 W HGS.out HRS.out)
            have HDE := Lib.hid (devs_row [a, b, c, e, f] [r0, r1, r2, r3, r4])
            have HDL := Lib.hid (devs_len [a, b, c, e, f] [r0, r1, r2, r3, r4])
            go_enter Tryz.func30, Tryz.ntmps30
            go_wp2_with fail
            rw [HWA.out]
            refine (HVG.out _).mono ?_
            rintro en w1 ⟨rfl, hb⟩
            rw [G1.out]
            have HB1 := Lib.hid hb
            clear hb
            go_wp2_with fail
            refine (HVC.out _ HB1.out).mono ?_
            rintro en w2 ⟨rfl, hb⟩
            rw [C1.out]
            have HB2 := Lib.hid (below_of HB1.out hb HB1.out.size)
            clear hb
            obtain ⟨⟨m0, m1, m2⟩, ⟨p0, p1⟩, ⟨⟨g0, g1, g2, g3, g4⟩, g5, g6⟩⟩ := HKP.out _ HB2.out
            go_wp2_with fail
            refine (HMK.out _ HB2.out).mono ?_
            rintro en w3 ⟨rfl, hb⟩
            have HB3 := Lib.hid (below_of HB2.out (below_of hb (below_al w3 (.cells #[.string s, .slice av rs.length cv, .slice a0 zs.length k0, .slice a0 zs.length k0, .slice a1 ws.length k1, .slice a2 bs.length k2] 95)) hb.size) HB2.out.size)
            clear hb
            clear m0 m1 m2 p0 p1 g0 g1 g2 g3 g4 g5 g6
            obtain ⟨⟨m0, m1, m2⟩, ⟨p0, p1⟩, ⟨⟨g0, g1, g2, g3, g4⟩, g5, g6⟩⟩ := HKP.out _ HB3.out
            go_wp2_with fail
            generalize w3.alloc (.cells #[.string s, .slice av rs.length cv, .slice a0 zs.length k0, .slice a0 zs.length k0, .slice a1 ws.length k1, .slice a2 bs.length k2] 95) = w4 at *
            refine (HAP.out _ HB3.out).mono ?_
            rintro en w5 ⟨vn, rfl, hrv, hb⟩
            obtain ⟨an, cn, rfl⟩ := rv_form hrv
            have HB6 := Lib.hid (below_of HB3.out (below_of hb (below_al w5 (.cells #[.string s, .slice an l.length cn] 42)) hb.size) HB3.out.size)
            have HRX := Lib.hid (rv_kept (below_al w5 (.cells #[.string s, .slice an l.length cn] 42)) hrv)
            clear hrv hb
            clear m0 m1 m2 p0 p1 g0 g1 g2 g3 g4 g5 g6
            have hx0 : (w5.alloc (.cells #[.string s, .slice an l.length cn] 42)).cell? ⟨w5.heap.size, 0, none⟩ = some (.string s) := by go_simp
            have hx1 : (w5.alloc (.cells #[.string s, .slice an l.length cn] 42)).cell? ⟨w5.heap.size, 1, none⟩ = some (.slice an l.length cn) := by go_simp
            obtain ⟨⟨m0, m1, m2⟩, ⟨p0, p1⟩, ⟨⟨g0, g1, g2, g3, g4⟩, g5, g6⟩⟩ := HKP.out _ HB6.out
            go_wp2_with fail
            generalize w5.alloc (.cells #[.string s, .slice an l.length cn] 42) = w6 at *
            refine (HSO.out l _ w6 HB6.out (rvW HCL.out HRX.out)).mono ?_
            rintro en w7 ⟨rfl, hb⟩
            rw [HV.out.1, HV.out.2]
            have HB8 := Lib.hid (below_of HB6.out (below_of hb (below_al w7 (.cells #[.int .i64 r0, .int .i64 r1, .int .i64 r2, .int .i64 r3, .int .i64 r4] 44)) hb.size) HB6.out.size)
            clear hb hx0 hx1
            clear m0 m1 m2 p0 p1 g0 g1 g2 g3 g4 g5 g6
            have e0 : (w7.alloc (.cells #[.int .i64 r0, .int .i64 r1, .int .i64 r2, .int .i64 r3, .int .i64 r4] 44)).cell? ⟨w7.heap.size, 0, none⟩ = some (.int .i64 r0) := by go_simp
            have e1 : (w7.alloc (.cells #[.int .i64 r0, .int .i64 r1, .int .i64 r2, .int .i64 r3, .int .i64 r4] 44)).cell? ⟨w7.heap.size, 1, none⟩ = some (.int .i64 r1) := by go_simp
            have e2 : (w7.alloc (.cells #[.int .i64 r0, .int .i64 r1, .int .i64 r2, .int .i64 r3, .int .i64 r4] 44)).cell? ⟨w7.heap.size, 2, none⟩ = some (.int .i64 r2) := by go_simp
            have e3 : (w7.alloc (.cells #[.int .i64 r0, .int .i64 r1, .int .i64 r2, .int .i64 r3, .int .i64 r4] 44)).cell? ⟨w7.heap.size, 3, none⟩ = some (.int .i64 r3) := by go_simp
            have e4 : (w7.alloc (.cells #[.int .i64 r0, .int .i64 r1, .int .i64 r2, .int .i64 r3, .int .i64 r4] 44)).cell? ⟨w7.heap.size, 4, none⟩ = some (.int .i64 r4) := by go_simp
            obtain ⟨⟨m0, m1, m2⟩, ⟨p0, p1⟩, ⟨⟨g0, g1, g2, g3, g4⟩, g5, g6⟩⟩ := HKP.out _ HB8.out
            go_wp2_with fail
            generalize w7.alloc (.cells #[.int .i64 r0, .int .i64 r1, .int .i64 r2, .int .i64 r3, .int .i64 r4] 44) = w8 at *
            refine (HDV.out _).mono ?_
            rintro en w9 ⟨rfl, hb⟩
            have HBX := Lib.hid (below_of HB8.out (below_of hb (below_al w9 (.cells #[.int .i64 (devK [a, b, c, e, f] [r0, r1, r2, r3, r4] 0), .int .i64 (devK [a, b, c, e, f] [r0, r1, r2, r3, r4] 1), .int .i64 (devK [a, b, c, e, f] [r0, r1, r2, r3, r4] 2), .int .i64 (devK [a, b, c, e, f] [r0, r1, r2, r3, r4] 3), .int .i64 (devK [a, b, c, e, f] [r0, r1, r2, r3, r4] 4)] 101)) hb.size) HB8.out.size)
            have HRO := Lib.hid (row_box w9 #[.int .i64 (devK [a, b, c, e, f] [r0, r1, r2, r3, r4] 0), .int .i64 (devK [a, b, c, e, f] [r0, r1, r2, r3, r4] 1), .int .i64 (devK [a, b, c, e, f] [r0, r1, r2, r3, r4] 2), .int .i64 (devK [a, b, c, e, f] [r0, r1, r2, r3, r4] 3), .int .i64 (devK [a, b, c, e, f] [r0, r1, r2, r3, r4] 4)] 101 5 _ HDE.out.symm rfl (by unfold maxLen; omega))
            have hle : w.heap.size ≤ w9.heap.size := Nat.le_trans HBA.out.size (Nat.le_trans HB8.out.size hb.size)
            have HBF := Lib.hid (below_of HBA.out HBX.out HBA.out.size)
            clear hb e0 e1 e2 e3 e4
            clear m0 m1 m2 p0 p1 g0 g1 g2 g3 g4 g5 g6
            go_wp2
            go_ret2
            exact ⟨_, ret_iv HR.out.symm, by rw [HL.out]; exact iv_base (iv_of_row HDL.out HRO.out) hle, HBF.out⟩
          · have HR := Lib.hid (HD6.out h5)
            have HL := Lib.hid (dvL_no HR.out (by decide))
            have HV := Lib.hid (sof_6 HAQ.out h5)
            clear h5 HQ HAQ HD6 HD0 HL0
            go_enter Tryz.func30, Tryz.ntmps30
            go_wp2_with fail
            rw [HWA.out]
            refine (HVG.out _).mono ?_
            rintro en w1 ⟨rfl, hb⟩
            rw [G1.out]
            have HB1 := Lib.hid hb
            clear hb
            go_wp2_with fail
            refine (HVC.out _ HB1.out).mono ?_
            rintro en w2 ⟨rfl, hb⟩
            rw [C1.out]
            have HB2 := Lib.hid (below_of HB1.out hb HB1.out.size)
            clear hb
            obtain ⟨⟨m0, m1, m2⟩, ⟨p0, p1⟩, ⟨⟨g0, g1, g2, g3, g4⟩, g5, g6⟩⟩ := HKP.out _ HB2.out
            go_wp2_with fail
            refine (HMK.out _ HB2.out).mono ?_
            rintro en w3 ⟨rfl, hb⟩
            have HB3 := Lib.hid (below_of HB2.out (below_of hb (below_al w3 (.cells #[.string s, .slice av rs.length cv, .slice a0 zs.length k0, .slice a0 zs.length k0, .slice a1 ws.length k1, .slice a2 bs.length k2] 95)) hb.size) HB2.out.size)
            clear hb
            clear m0 m1 m2 p0 p1 g0 g1 g2 g3 g4 g5 g6
            obtain ⟨⟨m0, m1, m2⟩, ⟨p0, p1⟩, ⟨⟨g0, g1, g2, g3, g4⟩, g5, g6⟩⟩ := HKP.out _ HB3.out
            go_wp2_with fail
            generalize w3.alloc (.cells #[.string s, .slice av rs.length cv, .slice a0 zs.length k0, .slice a0 zs.length k0, .slice a1 ws.length k1, .slice a2 bs.length k2] 95) = w4 at *
            refine (HAP.out _ HB3.out).mono ?_
            rintro en w5 ⟨vn, rfl, hrv, hb⟩
            obtain ⟨an, cn, rfl⟩ := rv_form hrv
            have HB6 := Lib.hid (below_of HB3.out (below_of hb (below_al w5 (.cells #[.string s, .slice an l.length cn] 42)) hb.size) HB3.out.size)
            have HRX := Lib.hid (rv_kept (below_al w5 (.cells #[.string s, .slice an l.length cn] 42)) hrv)
            clear hrv hb
            clear m0 m1 m2 p0 p1 g0 g1 g2 g3 g4 g5 g6
            have hx0 : (w5.alloc (.cells #[.string s, .slice an l.length cn] 42)).cell? ⟨w5.heap.size, 0, none⟩ = some (.string s) := by go_simp
            have hx1 : (w5.alloc (.cells #[.string s, .slice an l.length cn] 42)).cell? ⟨w5.heap.size, 1, none⟩ = some (.slice an l.length cn) := by go_simp
            obtain ⟨⟨m0, m1, m2⟩, ⟨p0, p1⟩, ⟨⟨g0, g1, g2, g3, g4⟩, g5, g6⟩⟩ := HKP.out _ HB6.out
            go_wp2_with fail
            generalize w5.alloc (.cells #[.string s, .slice an l.length cn] 42) = w6 at *
            refine (HSO.out l _ w6 HB6.out (rvW HCL.out HRX.out)).mono ?_
            rintro en w7 ⟨rfl, hb⟩
            rw [HV.out.1, HV.out.2]
            have HBX := Lib.hid (below_of HB6.out (below_of hb (below_al w7 (.cells #[.int .i64 0, .int .i64 0, .int .i64 0, .int .i64 0, .int .i64 0] 44)) hb.size) HB6.out.size)
            clear hb hx0 hx1
            clear m0 m1 m2 p0 p1 g0 g1 g2 g3 g4 g5 g6
            have HBF := Lib.hid (below_of HBA.out HBX.out HBA.out.size)
            go_wp2
            go_ret2
            exact ⟨_, ret_iv HR.out.symm, by rw [HL.out]; exact .inl ⟨rfl, rfl⟩, HBF.out⟩
        · have HR := Lib.hid (dv_ap c1 hkg ha)
          have HL := Lib.hid (dvL_no HR.out ha)
          obtain ⟨ac, hac⟩ : ∃ x, apC s rs zs cs = x := ⟨_, rfl⟩
          rw [hac] at HAP ha HR
          have hne : (ac != 0) = true := bne_iff_ne.2 ha
          clear hk hkg ha g1 c1 q1 q2 q3 hac HMO HME HSO
          generalize resS s ac = s' at *
          generalize resL (cutT rs zs cs) ac = l at *
          go_enter Tryz.func30, Tryz.ntmps30
          go_wp2_with fail
          rw [HWA.out]
          refine (HVG.out _).mono ?_
          rintro en w1 ⟨rfl, hb⟩
          rw [G1.out]
          have HB1 := Lib.hid hb
          clear hb
          go_wp2_with fail
          refine (HVC.out _ HB1.out).mono ?_
          rintro en w2 ⟨rfl, hb⟩
          rw [C1.out]
          have HB2 := Lib.hid (below_of HB1.out hb HB1.out.size)
          clear hb
          obtain ⟨⟨m0, m1, m2⟩, ⟨p0, p1⟩, ⟨⟨g0, g1, g2, g3, g4⟩, g5, g6⟩⟩ := HKP.out _ HB2.out
          go_wp2_with fail
          refine (HMK.out _ HB2.out).mono ?_
          rintro en w3 ⟨rfl, hb⟩
          have HB3 := Lib.hid (below_of HB2.out (below_of hb (below_al w3 (.cells #[.string s, .slice av rs.length cv, .slice a0 zs.length k0, .slice a0 zs.length k0, .slice a1 ws.length k1, .slice a2 bs.length k2] 95)) hb.size) HB2.out.size)
          clear hb
          clear m0 m1 m2 p0 p1 g0 g1 g2 g3 g4 g5 g6
          obtain ⟨⟨m0, m1, m2⟩, ⟨p0, p1⟩, ⟨⟨g0, g1, g2, g3, g4⟩, g5, g6⟩⟩ := HKP.out _ HB3.out
          go_wp2_with fail
          generalize w3.alloc (.cells #[.string s, .slice av rs.length cv, .slice a0 zs.length k0, .slice a0 zs.length k0, .slice a1 ws.length k1, .slice a2 bs.length k2] 95) = w4 at *
          refine (HAP.out _ HB3.out).mono ?_
          rintro en w5 ⟨vn, rfl, hrv, hb⟩
          obtain ⟨an, cn, rfl⟩ := rv_form hrv
          have HB6 := Lib.hid (below_of HB3.out (below_of hb (below_al w5 (.cells #[.string s', .slice an l.length cn] 42)) hb.size) HB3.out.size)
          have HRX := Lib.hid (rv_kept (below_al w5 (.cells #[.string s', .slice an l.length cn] 42)) hrv)
          clear hrv hb
          clear m0 m1 m2 p0 p1 g0 g1 g2 g3 g4 g5 g6
          have HBX := HB6
          have HBF := Lib.hid (below_of HBA.out HBX.out HBA.out.size)
          go_wp2
          go_ret2
          exact ⟨_, ret_iv HR.out.symm, by rw [HL.out]; exact .inl ⟨rfl, rfl⟩, HBF.out⟩
      · have HMK := Lib.hid (HME.out hk)
        have hkg := askG_yes (zs := zs) (ws := ws) (bs := bs) (s := s) (rs := rs) g1
        have HR := Lib.hid ((dv_ask c1 (by rw [hkg]; exact hk)).trans hkg)
        have HL := Lib.hid (dvL_no HR.out hk)
        obtain ⟨ac, hac⟩ : ∃ x, askM zs ws bs s rs = x := ⟨_, rfl⟩
        rw [hac] at HMK hk HR
        have hne : (ac != 0) = true := bne_iff_ne.2 hk
        clear hk hkg g1 c1 hac HMO HME HSO HAP
        go_enter Tryz.func30, Tryz.ntmps30
        go_wp2_with fail
        rw [HWA.out]
        refine (HVG.out _).mono ?_
        rintro en w1 ⟨rfl, hb⟩
        rw [G1.out]
        have HB1 := Lib.hid hb
        clear hb
        go_wp2_with fail
        refine (HVC.out _ HB1.out).mono ?_
        rintro en w2 ⟨rfl, hb⟩
        rw [C1.out]
        have HB2 := Lib.hid (below_of HB1.out hb HB1.out.size)
        clear hb
        obtain ⟨⟨m0, m1, m2⟩, ⟨p0, p1⟩, ⟨⟨g0, g1, g2, g3, g4⟩, g5, g6⟩⟩ := HKP.out _ HB2.out
        go_wp2_with fail
        refine (HMK.out _ HB2.out).mono ?_
        rintro en w3 ⟨rfl, hb⟩
        have HBX := Lib.hid (below_of HB2.out (below_of hb (below_al w3 (.cells #[.string ⟨#[]⟩, .slice none 0 0, .slice none 0 0, .slice none 0 0, .slice none 0 0, .slice none 0 0] 95)) hb.size) HB2.out.size)
        clear hb
        clear m0 m1 m2 p0 p1 g0 g1 g2 g3 g4 g5 g6
        have HBF := Lib.hid (below_of HBA.out HBX.out HBA.out.size)
        go_wp2
        go_ret2
        exact ⟨_, ret_iv HR.out.symm, by rw [HL.out]; exact .inl ⟨rfl, rfl⟩, HBF.out⟩
    · have C1 := Lib.hid c1
      have HR := Lib.hid (dv_cuts (zs := zs) (ws := ws) (bs := bs) (s := s) (rs := rs) (a := a) (b := b) (c := c) (e := e) (f := f) (t := t) (q := q) c1)
      have HL := Lib.hid (dvL_no HR.out (by decide))
      clear g1 c1 HMO HME HSO HAP
      go_enter Tryz.func30, Tryz.ntmps30
      go_wp2_with fail
      rw [HWA.out]
      refine (HVG.out _).mono ?_
      rintro en w1 ⟨rfl, hb⟩
      rw [G1.out]
      have HB1 := Lib.hid hb
      clear hb
      go_wp2_with fail
      refine (HVC.out _ HB1.out).mono ?_
      rintro en w2 ⟨rfl, hb⟩
      rw [C1.out]
      have HB2 := Lib.hid (below_of HB1.out hb HB1.out.size)
      clear hb
      have HBX := HB2
      have HBF := Lib.hid (below_of HBA.out HBX.out HBA.out.size)
      go_wp2
      go_ret2
      exact ⟨_, ret_iv HR.out.symm, by rw [HL.out]; exact .inl ⟨rfl, rfl⟩, HBF.out⟩
  · have G1 := Lib.hid g1
    have HR := Lib.hid (dv_goal (zs := zs) (ws := ws) (bs := bs) (s := s) (rs := rs) (cs := cs) g1)
    have HL := Lib.hid (dvL_no HR.out (by decide))
    clear g1 HMO HME HSO HAP HVC
    go_enter Tryz.func30, Tryz.ntmps30
    go_wp2_with fail
    rw [HWA.out]
    refine (HVG.out _).mono ?_
    rintro en w1 ⟨rfl, hb⟩
    rw [G1.out]
    have HB1 := Lib.hid hb
    clear hb
    have HBX := HB1
    have HBF := Lib.hid (below_of HBA.out HBX.out HBA.out.size)
    go_wp2
    go_ret2
    exact ⟨_, ret_iv HR.out.symm, by rw [HL.out]; exact .inl ⟨rfl, rfl⟩, HBF.out⟩
end Go.Proofs.YtpjopfhkgegahaaGreat
