/- What ingots are together: plus, metalIn, alloy, fits (the program). -/
import Derived.Test.YtikoehjalcljnaaChI
set_option linter.unusedVariables false
namespace Go.Proofs.Ytikoehjalcljnaa
open Go.ChangeShapes Go.WideShapes Go.ChangeAt Go.RowKit

def fM (r : Gt) : Int := r.2.1
def fT (r : Gt) : Int := r.2.1 * r.2.2.2.1
def fO (r : Gt) : Int := r.2.1 * r.2.2.2.2
def sumG (f : Gt → Int) (rs : List Gt) (zs : List Int) : Nat → Int
  | 0 => 0
  | k + 1 => sumG f rs zs k + f (rs.getD (zs.getD k 0).toNat zG)
theorem prod_bdM {a y A Y : Int} (h0 : 0 ≤ a) (h1 : a ≤ A) (h2 : 0 ≤ y) (h3 : y ≤ Y) : 0 ≤ a * y ∧ a * y ≤ A * Y :=
  ⟨Int.mul_nonneg h0 h2, Int.mul_le_mul h1 h3 h2 (by omega)⟩
theorem ings_bd {rs : List Gt} (h : ingsB rs = true) {i : Nat} (hi : i < rs.length) : (1 ≤ (rs.getD i zG).2.1 ∧ (rs.getD i zG).2.1 ≤ 20000000) ∧ (0 ≤ (rs.getD i zG).2.2.2.1 ∧ (rs.getD i zG).2.2.2.1 ≤ 1000000) ∧ (0 ≤ (rs.getD i zG).2.2.2.2 ∧ (rs.getD i zG).2.2.2.2 ≤ 1000000) := by
  have h1 := okG_yes ((ings_iff.1 h).2 i hi)
  obtain ⟨-, h2, h3⟩ := ing_iff.1 h1
  obtain ⟨-, h4, h5, -⟩ := alloy_iff.1 h3
  exact ⟨h2, h4, h5⟩
theorem sum_bd {rs : List Gt} {zs : List Int} (h : ingsB rs = true) : ∀ (k : Nat), RiseTo rs.length zs k → ((k : Int) ≤ sumG fM rs zs k ∧ sumG fM rs zs k ≤ 20000000 * k) ∧ (0 ≤ sumG fT rs zs k ∧ sumG fT rs zs k ≤ 20000000000000 * k) ∧ (0 ≤ sumG fO rs zs k ∧ sumG fO rs zs k ≤ 20000000000000 * k)
  | 0, _ => by simp [sumG]
  | k + 1, hr => by
    obtain ⟨h1, h2, h3⟩ := sum_bd h k (fun j hj => hr j (by omega))
    have hb := rise_bd hr (j := k) (by omega)
    obtain ⟨h4, h5, h6⟩ := ings_bd h (i := (zs.getD k 0).toNat) (by omega)
    have h7 := prod_bdM (A := 20000000) (Y := 1000000) (by omega) h4.2 h5.1 h5.2
    have h8 := prod_bdM (A := 20000000) (Y := 1000000) (by omega) h4.2 h6.1 h6.2
    simp only [sumG, fM, fT, fO] at h1 h2 h3 ⊢
    push_cast
    refine ⟨⟨?_, ?_⟩, ⟨?_, ?_⟩, ?_, ?_⟩ <;> omega
set_option maxHeartbeats 2000000 in
theorem plus_any (m t o : Int) (s : ByteArray) (a x y z : Int) (w : World) (hm : 0 ≤ m ∧ m ≤ 320000000) (ht : 0 ≤ t ∧ t ≤ 320000000000000) (ho : 0 ≤ o ∧ o ≤ 320000000000000) (ha : 1 ≤ a ∧ a ≤ 20000000) (hy : 0 ≤ y ∧ y ≤ 1000000) (hz : 0 ≤ z ∧ z ≤ 1000000) :
    Calls Try.prog 82 #[.agg #[.int .i64 m, .int .i64 t, .int .i64 o], .agg #[.string s, .int .i64 a, .int .i64 x, .int .i64 y, .int .i64 z]] w fun e w' => e = .returned (.agg #[.int .i64 (m + a), .int .i64 (t + a * y), .int .i64 (o + a * z)]) ∧ Below w.heap.size w w' := by
  obtain ⟨p0, p1⟩ := prod_bdM (A := 20000000) (Y := 1000000) (by omega) ha.2 hy.1 hy.2
  obtain ⟨q0, q1⟩ := prod_bdM (A := 20000000) (Y := 1000000) (by omega) ha.2 hz.1 hz.2
  have HW1 := Lib.hid (show wrap64 (a * y) = a * y from IntWalk.wrap64_in _ (by omega))
  have HW2 := Lib.hid (show wrap64 (a * z) = a * z from IntWalk.wrap64_in _ (by omega))
  have HW3 := Lib.hid (show wrap64 (t + a * y) = t + a * y from IntWalk.wrap64_in _ (by omega))
  have HW4 := Lib.hid (show wrap64 (o + a * z) = o + a * z from IntWalk.wrap64_in _ (by omega))
  clear p0 p1 q0 q1
  go_enter Try.func82, Try.ntmps82
  go_wp2
  try simp only [Exit.inBlock, Exit.then]
  refine bodyPost_ret_by (v := .agg #[.int .i64 (m + a), .int .i64 (t + a * y), .int .i64 (o + a * z)]) (by rw [results_cellGs rfl]; go_simp; first | done | (simp only [HW1.out, HW2.out, HW3.out, HW4.out, and_self])) rfl ?_
  exact ⟨rfl, (((Below.refl _ _).alloc (Nat.le_refl _) _).alloc (by simp) _).alloc (by simp <;> omega) _⟩
theorem tdiv_bdM {t m : Int} (ht : 0 ≤ t) (hm : 1 ≤ m) : 0 ≤ t.tdiv m ∧ t.tdiv m ≤ t := by
  obtain ⟨tn, rfl⟩ := Int.eq_ofNat_of_zero_le ht
  obtain ⟨mn, rfl⟩ := Int.eq_ofNat_of_zero_le (by omega : 0 ≤ m)
  have e : (tn : Int).tdiv (mn : Int) = ((tn / mn : Nat) : Int) := (Int.ofNat_tdiv tn mn).symm
  have := Nat.div_le_self tn mn
  rw [e]
  generalize tn / mn = d at *
  omega
def alV (m t o : Int) : Value := .agg #[.int .i64 (1000000 - t.tdiv m - o.tdiv m), .int .i64 (t.tdiv m), .int .i64 (o.tdiv m)]
set_option maxHeartbeats 2000000 in
theorem alloyM_any (m t o : Int) (w : World) (hm : 1 ≤ m ∧ m ≤ 320000000) (ht : 0 ≤ t ∧ t ≤ 320000000000000) (ho : 0 ≤ o ∧ o ≤ 320000000000000) :
    Calls Try.prog 64 #[.agg #[.int .i64 m, .int .i64 t, .int .i64 o]] w fun e w' => e = .returned (alV m t o) ∧ Below w.heap.size w w' := by
  obtain ⟨t0, t1⟩ := tdiv_bdM ht.1 hm.1
  obtain ⟨o0, o1⟩ := tdiv_bdM ho.1 hm.1
  obtain ⟨q, hq⟩ : ∃ q, t.tdiv m = q := ⟨_, rfl⟩
  obtain ⟨r, hr⟩ : ∃ r, o.tdiv m = r := ⟨_, rfl⟩
  unfold alV
  rw [hq, hr]
  rw [hq] at t0 t1
  rw [hr] at o0 o1
  have hm0 : (m == 0) = false := by simp; omega
  have hw1 : wrap64 (t.tdiv m) = q := by rw [hq]; exact IntWalk.wrap64_in _ (by omega)
  have hw2 : wrap64 (o.tdiv m) = r := by rw [hr]; exact IntWalk.wrap64_in _ (by omega)
  have hw3 : wrap64 (1000000 - q) = 1000000 - q := IntWalk.wrap64_in _ (by omega)
  have hw4 : wrap64 (1000000 - q - r) = 1000000 - q - r := IntWalk.wrap64_in _ (by omega)
  have hBA := Lib.hid (((Below.refl w.heap.size w).alloc (Nat.le_refl _) (.cells #[.int .i64 m, .int .i64 t, .int .i64 o] 97)).alloc (by simp) (.cells #[.int .i64 0, .int .i64 0, .int .i64 0] 38))
  go_enter Try.func64, Try.ntmps64
  go_wp2
  go_quiet (fail)
  go_wp2
  try simp only [Exit.inBlock, Exit.then]
  refine bodyPost_ret_by (v := .agg #[.int .i64 (1000000 - q - r), .int .i64 q, .int .i64 r]) (by rw [results_cellGs rfl]; go_simp; first | done | (simp only [hw1, hw2, hw3, hw4, hq, hr, and_self])) rfl ?_
  have HBD := Lib.hid (fun n => below_of hBA.out (below_drewNG _ n) hBA.out.size)
  refine ⟨rfl, ?_⟩
  repeat (first | with_reducible exact HBD.out _ | refine Below.setCell ?_ (by simp) _)
end Go.Proofs.Ytikoehjalcljnaa
