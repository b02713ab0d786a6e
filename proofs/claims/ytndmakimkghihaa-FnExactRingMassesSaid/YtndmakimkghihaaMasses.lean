/- The masses of all rings: the reference model's list. -/
import Derived.Test.YtndmakimkghihaaMassOf
import Derived.Deep.AppendLies
set_option linter.unusedVariables false
namespace Go.Proofs.Ytndmakimkghihaa
open Go.ChangeShapes Go.WideShapes Go.ChangeAt Go.RowKit

def massR (d : Int) (r : Rg) : Int := massV (volR r) d
def massL (rs : List Rg) (d : Int) : List Int := rs.map (massR d)
theorem massL_len (rs : List Rg) (d : Int) : (massL rs d).length = rs.length := by simp [massL]
theorem massL_get (rs : List Rg) (d : Int) (j : Nat) (h : j < rs.length) : (massL rs d).getD j 0 = massR d (rs.getD j zR) := by simp [massL, List.getD, h]
theorem massL_next (rs : List Rg) (d : Int) (k : Nat) (h : k < rs.length) : i64s ((massL rs d).take (k + 1)) = i64s ((massL rs d).take k) ++ [.int .i64 (massR d (rs.getD k zR))] := by
  have hl : k < (massL rs d).length := by rw [massL_len]; exact h
  have e : (massL rs d)[k] = massR d (rs.getD k zR) := by simp [massL, List.getD, h]
  rw [List.take_succ_eq_append_getElem hl, e]
  simp [i64s]
theorem news1 {w : World} {x : Int} {T : TypeId} : ∀ j u, ([Value.int .i64 x] : List Value)[j]? = some u → (w.alloc (.cells #[.int .i64 x] T)).cell? ((⟨w.heap.size, 0, none⟩ : Addr).add j) = some u := by
  intro j u hu
  match j, hu with
  | 0, hu => simp at hu; subst hu; simp [Addr.add]
  | j + 1, hu => simp at hu
theorem row_keepM {w w' : World} {B : Nat} {e : TypeId} {v : Value} {n : Nat} {xs : List Value} (hb : Below w.heap.size w w') (h : w.ownsRow B e 1 v n xs) : w'.ownsRow B e 1 v n xs :=
  h.kept (row := none) ⟨hb.os, hb.tape, hb.output, hb.size, fun k hk _ => hb.block k hk⟩ (by cases hv : v.ownBlock <;> simp)
/-- A list of the call's own. -/
def OwnL (w : World) (B : Nat) (v : Value) (n : Nat) (zs : List Int) : Prop := ∃ g cap, v = .slice (some ⟨g, 0, none⟩) n cap ∧ B ≤ g ∧ w.ownsRow B 2 1 v n (i64s zs)
set_option maxRecDepth 100000 in
set_option maxHeartbeats 2000000 in
theorem l06Masses_some (p b off cap n : Nat) (s : ByteArray) (rs : List Rg) (d : Int) (w : World) (hn : rs.length = n) (h1 : 1 ≤ n) (h32 : n ≤ 32) (hpl : p < w.heap.size) (hbl : b < w.heap.size) (hp : ProfIn w p s (.slice (some ⟨b, off, none⟩) n cap)) (hc : ∀ i, i < n → RingIn w b (off + i * 3) (rs.getD i zR)) (hR : ∀ i, i < rs.length → ringB (rs.getD i zR) = true) (d0 : 0 ≤ d) (d1 : d ≤ 20000) :
    Calls Try.prog 102 #[.pointer (some ⟨p, 0, none⟩), .int .i64 d] w fun e w' => (∃ v, e = .returned v ∧ OwnL w' w.heap.size v n (massL rs d)) ∧ Below w.heap.size w w' := by
  obtain ⟨i0, hi, hz0, hz1, hz2⟩ := info_parts infoI64
  have HP := Lib.hid hp
  have HC := Lib.hid hc
  have HR := Lib.hid hR
  have HN := Lib.hid hn
  have HNX := Lib.hid (massL_next rs d)
  have HLL := Lib.hid (massL_len rs d)
  clear hp hc hR hn
  obtain ⟨p0, p1⟩ := HP.out
  have HA0 := Lib.hid (show (w.alloc (.cells #[] 2)).ownsRow w.heap.size 2 1 (.slice (some ⟨w.heap.size, 0, none⟩) 0 0) 0 [] from World.ownsRow_made w #[] 0 (Nat.le_refl _) (by simp) (by simp))
  go_enter Try.func102, Try.ntmps102
  go_wp2
  clear p0 p1
  go_loopw [5, 6] (fun v i wr => ∃ k : Nat, k ≤ n ∧ i = .int .i64 k ∧ wr.ownsRow w.heap.size 2 1 v k (i64s ((massL rs d).take k)) ∧ Below w.heap.size w wr) (fun _ i _ => n - (intOf i).toNat)
  case atStart => exact ⟨0, by omega, rfl, by simpa [i64s] using HA0.out, below_al _ _⟩
  case round =>
    obtain ⟨k, hk, rfl, hown, hbw⟩ := hrel
    have HO := Lib.hid hown
    have HBW := Lib.hid hbw
    obtain ⟨p0, p1⟩ := prof_keep hbw hpl HP.out
    have hws := hbw.size
    clear hown hbw
    by_cases hlt : k < n
    · have hr0 := HC.out k hlt
      have hrb := HR.out k (by rw [HN.out]; exact hlt)
      have hr : RingIn wr b (off + k * 3) (rs.getD k zR) := ⟨(below_cell HBW.out _ _ hbl).trans hr0.c0, (below_cell HBW.out _ _ hbl).trans hr0.c1, (below_cell HBW.out _ _ hbl).trans hr0.c2⟩
      have hx := HNX.out k (by rw [HN.out]; exact hlt)
      have b2 := vol_bd hrb
      obtain ⟨⟨x, y, z⟩, hxyz⟩ : ∃ r, rs.getD k zR = r := ⟨_, rfl⟩
      rw [hxyz] at hr hrb hx b2
      have HX := Lib.hid hx
      have HRI := Lib.hid hr
      have HRB := Lib.hid hrb
      have HM := Lib.hid (show massR d (x, y, z) = nq (volR (x, y, z) * d) 1000000 from rfl)
      clear hr0 hr hrb hx hxyz
      obtain ⟨q, hq⟩ : ∃ q, volR (x, y, z) = q := ⟨_, rfl⟩
      have HQ := Lib.hid hq
      rw [hq] at b2
      clear hq
      obtain ⟨⟨m0, m1⟩, -⟩ := mass_bd (v := q) (M := 21205752750) (by omega) b2.2 d0 d1
      have hk1 : (k : Int) < (n : Int) := by omega
      have hk0 : (0 : Int) ≤ (k : Int) := by omega
      have HT := Lib.hid (fun w => specDiv_any (q * d) 1000000 w (by omega) (by omega) (by omega))
      clear b2
      go_wp2_with fail
      refine (l06Ring_any x y z b (off + k * 3) _ HRI.out HRB.out).mono ?_
      rintro e w' ⟨rfl, m, rfl⟩
      rw [HQ.out]
      have HOd := Lib.hid (row_keepM (below_drewN wr m) HO.out)
      have HBd := Lib.hid (below_of HBW.out (below_drewN wr m) HBW.out.size)
      clear p0 p1
      generalize wr.drewN m = wd at *
      have HOa := Lib.hid (HOd.out.alloc (.cells #[.int .i64 (nq (q * d) 1000000)] 2))
      have HBa := Lib.hid (HBd.out.alloc HBd.out.size (.cells #[.int .i64 (nq (q * d) 1000000)] 2))
      have hsa : w.heap.size ≤ (wd.alloc (.cells #[.int .i64 (nq (q * d) 1000000)] 2)).heap.size := HBa.out.size
      go_wp2_with (first
        | (go_at_call 122; refine (HT.out _).mono ?_; rintro e w' ⟨rfl, rfl⟩)
        | (at_builtin; refine wpList_append_own_at _ rfl _ _ 22 rfl w.heap.size 2 i0 _ 1 8 Try.underlying22 hi hz0 hz1 hz2 rfl (by omega) _ k (i64s ((massL rs d).take k)) rfl HOa.out ⟨wd.heap.size, 0, none⟩ 1 1 [.int .i64 (nq (q * d) 1000000)] rfl rfl news1 (by intro u hu; simp at hu; subst hu; rfl) (by unfold maxLen; omega) (by omega) hsa ?_; intro v3 w3 hown3 hgrow3 hnil3 hat3))
      have HO4 := Lib.hid (show w3.ownsRow w.heap.size 2 1 v3 (k + 1) (i64s ((massL rs d).take (k + 1))) from by rw [HX.out, HM.out, HQ.out]; exact hown3)
      have HB4 := Lib.hid (HBa.out.grown hgrow3 hsa (fun k hk => (HOa.out.lt k hk).1))
      clear hown3 hgrow3 hnil3 hat3
      go_wp2
      go_roundw
      case rel => exact ⟨k + 1, by omega, by go_num, HO4.out, HB4.out⟩
      case measure => simp [intOf]; omega
    · obtain rfl : k = n := by omega
      have hown := HO.out
      rw [List.take_of_length_le (by rw [HLL.out, HN.out]; exact Nat.le_refl _)] at hown
      obtain ⟨g5, cap5, rfl, -, -⟩ := hown.form (by omega)
      have hg5 := (hown.lt _ rfl).1
      have HOF := Lib.hid hown
      clear hown
      go_wp2
      go_ret
      exact ⟨⟨_, rfl, g5, cap5, rfl, hg5, HOF.out⟩, HBW.out⟩
end Go.Proofs.Ytndmakimkghihaa
