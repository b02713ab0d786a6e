/- A profile's text: the reference model's walk. -/
import Derived.Test.YtojkijcdfnfnlabDoorDecimal
import Derived.Test.YtojkijcdfnfnlabDoorProfSpec
import Derived.Deep.RegionHeld3
import Derived.Lib.ItoaLen
set_option linter.unusedVariables false
namespace Go.Proofs.YtojkijcdfnfnlabDoor
open Go.ChangeShapes Go.WideShapes Go.ChangeAt Go.RowKit

theorem decT_size (z : Int) (h0 : -9223372036854775808 ≤ z) (h1 : z ≤ 9223372036854775807) : (decText z).size ≤ 21 := Lib.itoa_length_le z h0 h1
/-- A ring's part of a profile's text, a blank ahead of it. -/
def rgT (r : Rg) : ByteArray := (⟨#[32]⟩ : ByteArray) ++ decText r.1 ++ (⟨#[47]⟩ : ByteArray) ++ decText r.2.1 ++ (⟨#[47]⟩ : ByteArray) ++ decText r.2.2
def prTo (s : ByteArray) (rs : List Rg) : Nat → ByteArray
  | 0 => s
  | k + 1 => prTo s rs k ++ rgT (rs.getD k zR)
def prV (s : ByteArray) (rs : List Rg) : ByteArray := if profB s rs = true then prTo s rs rs.length else ByteArray.empty
theorem rgT_size (r : Rg) (h : ringB r = true) : (rgT r).size ≤ 66 := by
  obtain ⟨h1, h2, h3⟩ := ring_iff.1 h
  have a := decT_size r.1 (by omega) (by omega)
  have b := decT_size r.2.1 (by omega) (by omega)
  have c := decT_size r.2.2 (by omega) (by omega)
  have e1 : (⟨#[32]⟩ : ByteArray).size = 1 := rfl
  have e2 : (⟨#[47]⟩ : ByteArray).size = 1 := rfl
  unfold rgT
  simp only [ByteArray.size_append]
  omega
theorem prTo_size (s : ByteArray) (rs : List Rg) (h : ∀ j, j < rs.length → ringB (rs.getD j zR) = true) : ∀ k, k ≤ rs.length → (prTo s rs k).size ≤ s.size + 66 * k
  | 0, _ => by simp [prTo]
  | k + 1, hk => by
    have := prTo_size s rs h k (by omega)
    have := rgT_size _ (h k (by omega))
    unfold prTo
    rw [ByteArray.size_append]
    omega
theorem name_size {s : ByteArray} (h : nameB s = true) : s.size ≤ 10 := by
  unfold nameB NameP at h
  exact (of_decide_eq_true h).2.1
/-- Five cells hold what they hold, and nothing older than W has changed. -/
theorem five_next5 {W w w2 : World} {b1 b2 o : Nat} {u v x y z : Value} (hz : b1 < W.heap.size ∧ b2 < W.heap.size)
    (h : w.cell? ⟨b1, 0, none⟩ = some u ∧ w.cell? ⟨b1, 1, none⟩ = some v ∧ w.cell? ⟨b2, o, none⟩ = some x ∧ w.cell? ⟨b2, o + 1, none⟩ = some y ∧ w.cell? ⟨b2, o + 2, none⟩ = some z ∧ Below W.heap.size W w) (hb : Below w.heap.size w w2) :
    w2.cell? ⟨b1, 0, none⟩ = some u ∧ w2.cell? ⟨b1, 1, none⟩ = some v ∧ w2.cell? ⟨b2, o, none⟩ = some x ∧ w2.cell? ⟨b2, o + 1, none⟩ = some y ∧ w2.cell? ⟨b2, o + 2, none⟩ = some z ∧ Below W.heap.size W w2 := by
  obtain ⟨h1, h2, h3, h4, h5, hB⟩ := h
  have k1 := Nat.lt_of_lt_of_le hz.1 hB.size
  have k2 := Nat.lt_of_lt_of_le hz.2 hB.size
  exact ⟨(below_cell hb _ _ k1).trans h1, (below_cell hb _ _ k1).trans h2, (below_cell hb _ _ k2).trans h3, (below_cell hb _ _ k2).trans h4, (below_cell hb _ _ k2).trans h5, below_of hB hb hB.size⟩
theorem ret_strP {a b : ByteArray} (h : a = b) : Ending.returned (.string a) = .returned (.string b) := by rw [h]
set_option maxRecDepth 20000 in
set_option maxHeartbeats 4000000 in
theorem l05Text_some (p b off cap n : Nat) (s : ByteArray) (rs : List Rg) (w : World) (hn : rs.length = n) (hp : ProfIn w p s (.slice (some ⟨b, off, none⟩) n cap)) (hpl : p < w.heap.size) (hbl : b < w.heap.size) (hc : ∀ i, i < n → RingIn w b (off + i * 3) (rs.getD i zR)) (hv : profB s rs = true) :
    Calls Tryd.prog 16 #[.pointer (some ⟨p, 0, none⟩)] w fun e w' => e = .returned (.string (prTo s rs n)) ∧ Below w.heap.size w w' := by
  obtain ⟨p0, p1⟩ := hp
  obtain ⟨hnm, ⟨n1, n2⟩, -, -⟩ := prof_iff.1 hv
  have hs := name_size hnm
  rw [hn] at n1 n2
  have HC := Lib.hid hc
  have HR := Lib.hid (show ∀ i, i < n → ringB (rs.getD i zR) = true from fun i hi => prof_ring hv i (by omega))
  have HSZ := Lib.hid (show ∀ k, k ≤ n → (prTo s rs k).size ≤ s.size + 66 * k from fun k hk => prTo_size s rs (fun j hj => prof_ring hv j hj) k (by omega))
  clear hc hv hnm hn
  go_enter Tryd.func16, Tryd.ntmps16
  go_wp2
  go_loopw [3, 4] (fun v i wr => ∃ k : Nat, k ≤ n ∧ i = .int .i64 k ∧ v = .string (prTo s rs k) ∧ Below w.heap.size w wr) (fun _ i _ => n - (intOf i).toNat)
  case atStart => exact ⟨0, by omega, rfl, rfl, Below.refl _ _⟩
  case round =>
    obtain ⟨k, hk, rfl, rfl, hbw⟩ := hrel
    have q0 := (below_cell hbw _ _ hpl).trans p0
    have q1 := (below_cell hbw _ _ hpl).trans p1
    have hpr := Nat.lt_of_lt_of_le hpl hbw.size
    have hbr := Nat.lt_of_lt_of_le hbl hbw.size
    by_cases hlt : k < n
    · obtain ⟨d0, d1, d2⟩ := HC.out k hlt
      have r0 := (below_cell hbw _ _ hbl).trans d0
      have r1 := (below_cell hbw _ _ hbl).trans d1
      have r2 := (below_cell hbw _ _ hbl).trans d2
      obtain ⟨⟨x1, x2⟩, ⟨y1, y2⟩, z1, z2⟩ := ring_iff.1 (HR.out k hlt)
      have hsz := HSZ.out k hk
      have HN := Lib.hid (show prTo s rs (k + 1) = prTo s rs k ++ rgT (rs.getD k zR) from rfl)
      unfold rgT at HN
      have HB := Lib.hid hbw
      have hk1 : (k : Int) < (n : Int) := by omega
      have hk0 : (0 : Int) ≤ (k : Int) := by omega
      clear hbw d0 d1 d2
      generalize (rs.getD k zR).1 = x at *
      generalize (rs.getD k zR).2.1 = y at *
      generalize (rs.getD k zR).2.2 = z at *
      have tx := decT_size x (by omega) (by omega)
      have ty := decT_size y (by omega) (by omega)
      have tz := decT_size z (by omega) (by omega)
      generalize prTo s rs k = t at *
      have g1 : ¬ 9223372036854775807 < 1 + (decText x).size := by omega
      have g2 : ¬ 9223372036854775807 < 1 + (decText x).size + 1 := by omega
      have g3 : ¬ 9223372036854775807 < 1 + (decText x).size + 1 + (decText y).size := by omega
      have g4 : ¬ 9223372036854775807 < 1 + (decText x).size + 1 + (decText y).size + 1 := by omega
      have g5 : ¬ 9223372036854775807 < 1 + (decText x).size + 1 + (decText y).size + 1 + (decText z).size := by omega
      have g6 : ¬ 9223372036854775807 < t.size + (1 + (decText x).size + 1 + (decText y).size + 1 + (decText z).size) := by omega
      clear hsz tx ty tz
      have HS := Lib.hid (show wr.drew.cell? ⟨p, 0, none⟩ = some (.string s) ∧ wr.drew.cell? ⟨p, 1, none⟩ = some (.slice (some ⟨b, off, none⟩) n cap) ∧ wr.drew.cell? ⟨b, off + k * 3, none⟩ = some (.int .i64 x) ∧ wr.drew.cell? ⟨b, off + k * 3 + 1, none⟩ = some (.int .i64 y) ∧ wr.drew.cell? ⟨b, off + k * 3 + 2, none⟩ = some (.int .i64 z) ∧ Below wr.heap.size wr wr.drew from ⟨q0, q1, r0, r1, r2, rfl, rfl, rfl, Nat.le_refl _, fun _ _ => rfl⟩)
      go_wp2
      go_region_held3 (fun w' => w'.cell? ⟨p, 0, none⟩ = some (.string s) ∧ w'.cell? ⟨p, 1, none⟩ = some (.slice (some ⟨b, off, none⟩) n cap) ∧ w'.cell? ⟨b, off + k * 3, none⟩ = some (.int .i64 x) ∧ w'.cell? ⟨b, off + k * 3 + 1, none⟩ = some (.int .i64 y) ∧ w'.cell? ⟨b, off + k * 3 + 2, none⟩ = some (.int .i64 z) ∧ Below wr.heap.size wr w')
        (first | exact HS.out | exact hkN)
        (first
          | (go_at_call 31; refine (specDec_any _ _ (by omega) (by omega)).mono ?_; rintro e wN ⟨rfl, hbN⟩; have hkN := five_next5 ⟨hpr, hbr⟩ (by assumption) hbN))
      have HB2 := Lib.hid (HB.out.trans (hkN.2.2.2.2.2.mono HB.out.size))
      clear hkN
      go_wp2
      go_roundw
      case rel => exact ⟨k + 1, by omega, by go_num, by rw [HN.out], HB2.out⟩
      case measure => simp [intOf]; omega
    · obtain rfl : k = n := by omega
      have HB := Lib.hid hbw
      clear hbw
      go_wp2
      go_ret
      exact ⟨rfl, HB.out⟩
end Go.Proofs.YtojkijcdfnfnlabDoor
