/- The text of spots: the reference model's, and the program's text of one spot. -/
import Derived.Test.YtfleececlafjkabDoorDecimal
import Derived.Test.YtfleececlafjkabDoorSpotI
import Derived.Deep.RegionHeld3
import Derived.Lib.ItoaLen
set_option linter.unusedVariables false
namespace Go.Proofs.YtfleececlafjkabDoor
open Go.ChangeShapes Go.WideShapes Go.ChangeAt Go.RowKit

theorem decT_sizeQ (z : Int) (h0 : -9223372036854775808 ≤ z) (h1 : z ≤ 9223372036854775807) : (decText z).size ≤ 21 := Lib.itoa_length_le z h0 h1
/-- A spot's part of the text. -/
def spT (r : Qt) : ByteArray := decText r.1 ++ (⟨#[58]⟩ : ByteArray) ++ decText r.2
/-- The text of the first k spots. -/
def stTo (rs : List Qt) : Nat → ByteArray
  | 0 => ByteArray.empty
  | k + 1 => (if k = 0 then stTo rs k else stTo rs k ++ (⟨#[32]⟩ : ByteArray)) ++ spT (rs.getD k zQ)
def stV (rs : List Qt) : ByteArray := if spotsB rs = true then (if rs.length = 0 then (⟨#[45]⟩ : ByteArray) else stTo rs rs.length) else ByteArray.empty
theorem ok_spot {rs : List Qt} (h : spotsB rs = true) (k : Nat) (hk : k < rs.length) : (0 ≤ (rs.getD k zQ).1 ∧ (rs.getD k zQ).1 ≤ 359) ∧ -1000 ≤ (rs.getD k zQ).2 ∧ (rs.getD k zQ).2 ≤ 1000 := by
  have := spot_iff.1 (okQ_yes ((spots_iff.1 h).2 k hk))
  exact ⟨this.1, this.2.2⟩
theorem spT_size {r : Qt} (h : (0 ≤ r.1 ∧ r.1 ≤ 359) ∧ -1000 ≤ r.2 ∧ r.2 ≤ 1000) : (spT r).size ≤ 43 := by
  have a := decT_sizeQ r.1 (by omega) (by omega)
  have b := decT_sizeQ r.2 (by omega) (by omega)
  have e2 : (⟨#[58]⟩ : ByteArray).size = 1 := rfl
  unfold spT
  simp only [ByteArray.size_append]
  omega
theorem stTo_size {rs : List Qt} (h : spotsB rs = true) : ∀ k, k ≤ rs.length → (stTo rs k).size ≤ 44 * k
  | 0, _ => by simp [stTo]
  | k + 1, hk => by
    have := stTo_size h k (by omega)
    have := spT_size (ok_spot h k (by omega))
    have e2 : (⟨#[32]⟩ : ByteArray).size = 1 := rfl
    unfold stTo
    split
    · rw [ByteArray.size_append]; omega
    · simp only [ByteArray.size_append]; omega
theorem ret_strQ {a b : ByteArray} (h : a = b) : Ending.returned (.string a) = .returned (.string b) := by rw [h]
theorem two_nextQ {W w w2 : World} {b o : Nat} {x y : Value} (hz : b < W.heap.size)
    (h : w.cell? ⟨b, o, none⟩ = some x ∧ w.cell? ⟨b, o + 1, none⟩ = some y ∧ Below W.heap.size W w) (hb : Below w.heap.size w w2) :
    w2.cell? ⟨b, o, none⟩ = some x ∧ w2.cell? ⟨b, o + 1, none⟩ = some y ∧ Below W.heap.size W w2 := by
  obtain ⟨h3, h4, hB⟩ := h
  have k2 := Nat.lt_of_lt_of_le hz hB.size
  exact ⟨(below_cell hb _ _ k2).trans h3, (below_cell hb _ _ k2).trans h4, below_of hB hb hB.size⟩
theorem two_next0 {W w w2 : World} {b : Nat} {x y : Value} (hz : b < W.heap.size)
    (h : w.cell? ⟨b, 0, none⟩ = some x ∧ w.cell? ⟨b, 1, none⟩ = some y ∧ Below W.heap.size W w) (hb : Below w.heap.size w w2) :
    w2.cell? ⟨b, 0, none⟩ = some x ∧ w2.cell? ⟨b, 1, none⟩ = some y ∧ Below W.heap.size W w2 := two_nextQ (o := 0) hz h hb
set_option maxRecDepth 20000 in
set_option maxHeartbeats 4000000 in
theorem l12Text_some (b off cap n : Nat) (rs : List Qt) (w : World) (hn : Hid (rs.length = n)) (h0 : 0 < n) (hbl : b < w.heap.size) (hc : ∀ i, i < n → QIn w b (off + i * 2) (rs.getD i zQ)) (hv : spotsB rs = true) :
    Calls Tryd.prog 29 #[.slice (some ⟨b, off, none⟩) n cap] w fun e w' => e = .returned (.string (stTo rs n)) ∧ Below w.heap.size w w' := by
  have HC := Lib.hid hc
  have h16 : n ≤ 16 := by rw [← hn.out]; exact (spots_iff.1 hv).1
  have HR := Lib.hid (fun i (hi : i < n) => ok_spot hv i (by rw [hn.out]; exact hi))
  have HSZ := Lib.hid (fun k (hk : k ≤ n) => stTo_size hv k (by rw [hn.out]; exact hk))
  have hne : ((n : Int) == 0) = false := by simp; omega
  clear hc hv
  go_enter Tryd.func29, Tryd.ntmps29
  go_wp2
  go_loopw [3, 4] (fun v i wr => ∃ k : Nat, k ≤ n ∧ i = .int .i64 k ∧ v = .string (stTo rs k) ∧ Below w.heap.size w wr) (fun _ i _ => n - (intOf i).toNat)
  case atStart => exact ⟨0, by omega, rfl, rfl, Below.refl _ _⟩
  case round =>
    obtain ⟨k, hk, rfl, rfl, hbw⟩ := hrel
    have hbr := Nat.lt_of_lt_of_le hbl hbw.size
    by_cases hlt : k < n
    · obtain ⟨d0, d1⟩ := HC.out k hlt
      have r0 := (below_cell hbw _ _ hbl).trans d0
      have r1 := (below_cell hbw _ _ hbl).trans d1
      obtain ⟨⟨x1, x2⟩, y1, y2⟩ := HR.out k hlt
      have hsz := HSZ.out k hk
      have HN := Lib.hid (show stTo rs (k + 1) = (if k = 0 then stTo rs k else stTo rs k ++ (⟨#[32]⟩ : ByteArray)) ++ spT (rs.getD k zQ) from rfl)
      unfold spT at HN
      have HB := Lib.hid hbw
      have hk1 : (k : Int) < (n : Int) := by omega
      have hk0 : (0 : Int) ≤ (k : Int) := by omega
      clear hbw d0 d1
      generalize (rs.getD k zQ).1 = x at *
      generalize (rs.getD k zQ).2 = y at *
      have tx := decT_sizeQ x (by omega) (by omega)
      have ty := decT_sizeQ y (by omega) (by omega)
      generalize stTo rs k = t at *
      have HS := Lib.hid (show wr.drew.cell? ⟨b, off + k * 2, none⟩ = some (.int .i64 x) ∧ wr.drew.cell? ⟨b, off + k * 2 + 1, none⟩ = some (.int .i64 y) ∧ Below wr.heap.size wr wr.drew from ⟨r0, r1, ⟨rfl, rfl, rfl, Nat.le_refl _, fun _ _ => rfl⟩⟩)
      have g2 : ¬ 9223372036854775807 < (decText x).size + 1 := by omega
      have g3 : ¬ 9223372036854775807 < (decText x).size + 1 + (decText y).size := by omega
      by_cases hkz : k = 0
      · have HN2 := Lib.hid (show stTo rs (k + 1) = t ++ (decText x ++ (⟨#[58]⟩ : ByteArray) ++ decText y) by rw [HN.out, if_pos hkz])
        have hg : ¬ (0 : Int) < (k : Int) := by omega
        have g6 : ¬ 9223372036854775807 < t.size + ((decText x).size + 1 + (decText y).size) := by omega
        clear hsz tx ty HN hkz
        go_wp2
        go_region_held3 (fun w' => w'.cell? ⟨b, off + k * 2, none⟩ = some (.int .i64 x) ∧ w'.cell? ⟨b, off + k * 2 + 1, none⟩ = some (.int .i64 y) ∧ Below wr.heap.size wr w')
          (first | exact HS.out | exact hkN)
          (first
            | (go_at_call 51; refine (specDec_any _ _ (by omega) (by omega)).mono ?_; rintro e wN ⟨rfl, hbN⟩; have hkN := two_nextQ hbr (by assumption) hbN))
        have HB2 := Lib.hid (HB.out.trans (hkN.2.2.mono HB.out.size))
        clear hkN
        go_wp2
        go_roundw
        case rel => exact ⟨k + 1, by omega, by go_num, by rw [HN2.out], HB2.out⟩
        case measure => simp [intOf]; omega
      · have HN2 := Lib.hid (show stTo rs (k + 1) = t ++ (⟨#[32]⟩ : ByteArray) ++ (decText x ++ (⟨#[58]⟩ : ByteArray) ++ decText y) by rw [HN.out, if_neg hkz])
        have hg : (0 : Int) < (k : Int) := by omega
        have g5 : ¬ 9223372036854775807 < t.size + 1 := by omega
        have g6 : ¬ 9223372036854775807 < t.size + 1 + ((decText x).size + 1 + (decText y).size) := by omega
        clear hsz tx ty HN hkz
        go_wp2
        go_region_held3 (fun w' => w'.cell? ⟨b, off + k * 2, none⟩ = some (.int .i64 x) ∧ w'.cell? ⟨b, off + k * 2 + 1, none⟩ = some (.int .i64 y) ∧ Below wr.heap.size wr w')
          (first | exact HS.out | exact hkN)
          (first
            | (go_at_call 51; refine (specDec_any _ _ (by omega) (by omega)).mono ?_; rintro e wN ⟨rfl, hbN⟩; have hkN := two_nextQ hbr (by assumption) hbN))
        have HB2 := Lib.hid (HB.out.trans (hkN.2.2.mono HB.out.size))
        clear hkN
        go_wp2
        go_roundw
        case rel => exact ⟨k + 1, by omega, by go_num, by rw [HN2.out], HB2.out⟩
        case measure => simp [intOf]; omega
    · obtain rfl : k = n := by omega
      have HB := Lib.hid hbw
      clear hbw
      go_wp2
      go_ret
      exact ⟨rfl, HB.out⟩
theorem l12Text_none (a : Option Addr) (c : Nat) (w : World) :
    Calls Tryd.prog 29 #[.slice a 0 c] w fun e w' => e = .returned (.string ⟨#[45]⟩) ∧ Below w.heap.size w w' := by
  go_enter Tryd.func29, Tryd.ntmps29
  go_wp2
  go_ret
  exact ⟨rfl, Below.refl _ _⟩
theorem specST_any (rs : List Qt) (v : Value) (w : World) (h : SpotsAt w v rs) :
    Calls Tryd.prog 14 #[v] w fun e w' => e = .returned (.string (stV rs)) ∧ Below w.heap.size w w' := by
  have HI := Lib.hid h
  have HK := Lib.hid (l12Ok_any rs v w h)
  clear h
  rcases Bool.eq_false_or_eq_true (spotsB rs) with h1 | h1
  · have H1 := Lib.hid h1
    have HT := Lib.hid (show ∀ w', Below w.heap.size w w' → Calls Tryd.prog 29 #[v] w' fun e w'' => e = .returned (.string (stV rs)) ∧ Below w'.heap.size w' w'' from fun w' hb => by
      by_cases h0 : rs.length = 0
      · obtain ⟨a, c, rfl⟩ := spots_form HI.out
        rw [h0, show stV rs = ⟨#[45]⟩ by unfold stV; rw [if_pos h1, if_pos h0]]
        exact l12Text_none a c w'
      · obtain ⟨b, off, cap, rfl, hbl, hc⟩ := spots_cells (spots_kept hb HI.out) (by omega)
        rw [show stV rs = stTo rs rs.length by unfold stV; rw [if_pos h1, if_neg h0]]
        exact l12Text_some b off cap _ rs w' (Lib.hid rfl) (by omega) hbl hc h1)
    generalize stV rs = r at *
    clear h1
    go_enter Tryd.func14, Tryd.ntmps14
    go_wp2_with fail
    refine HK.out.mono ?_
    rintro e w1 ⟨rfl, hb⟩
    have HB := Lib.hid hb
    clear hb
    rw [H1.out]
    go_wp2_with fail
    refine (HT.out _ HB.out).mono ?_
    rintro e w2 ⟨rfl, hb⟩
    have HB2 := Lib.hid (below_of HB.out hb HB.out.size)
    clear hb
    go_wp2
    go_ret
    exact ⟨rfl, HB2.out⟩
  · have H1 := Lib.hid h1
    have HR := Lib.hid (show stV rs = ByteArray.empty by unfold stV; rw [if_neg (by rw [h1]; simp)])
    clear h1
    go_enter Tryd.func14, Tryd.ntmps14
    go_wp2_with fail
    refine HK.out.mono ?_
    rintro e w1 ⟨rfl, hb⟩
    have HB := Lib.hid hb
    clear hb
    rw [H1.out]
    go_wp2
    go_ret
    exact ⟨ret_strQ HR.out.symm, HB.out⟩
set_option maxRecDepth 20000 in
set_option maxHeartbeats 2000000 in
theorem spotText_any (x y : Int) (w : World) (hr : (0 ≤ x ∧ x ≤ 359) ∧ -1000 ≤ y ∧ y ≤ 1000) (hp : Hid (PowOk w)) :
    Calls Tryd.prog 32 #[.agg #[.int .i64 x, .int .i64 y]] w fun e w' => e = .returned (.string (spT (x, y))) ∧ Below w.heap.size w w' := by
  obtain ⟨⟨x1, x2⟩, y1, y2⟩ := hr
  have HN := Lib.hid (show spT (x, y) = decText x ++ (⟨#[58]⟩ : ByteArray) ++ decText y from rfl)
  have tx := decT_sizeQ x (by omega) (by omega)
  have ty := decT_sizeQ y (by omega) (by omega)
  have g2 : ¬ 9223372036854775807 < (decText x).size + 1 := by omega
  have g3 : ¬ 9223372036854775807 < (decText x).size + 1 + (decText y).size := by omega
  clear tx ty
  go_enter Tryd.func32, Tryd.ntmps32
  have c0 : (w.alloc (.cells #[.int .i64 x, .int .i64 y] 53)).cell? ⟨w.heap.size, 0, none⟩ = some (.int .i64 x) := by go_simp
  have c1 : (w.alloc (.cells #[.int .i64 x, .int .i64 y] 53)).cell? ⟨w.heap.size, 1, none⟩ = some (.int .i64 y) := by go_simp
  have hl : w.heap.size < (w.alloc (.cells #[.int .i64 x, .int .i64 y] 53)).heap.size := by simp
  have HBA := Lib.hid ((Below.refl w.heap.size w).alloc (Nat.le_refl _) (.cells #[.int .i64 x, .int .i64 y] 53))
  go_wp2
  generalize w.alloc (.cells #[.int .i64 x, .int .i64 y] 53) = wA at *
  have HPA := Lib.hid (pow_kept HBA.out hp.out)
  have HS := Lib.hid (show wA.drew.cell? ⟨w.heap.size, 0, none⟩ = some (.int .i64 x) ∧ wA.drew.cell? ⟨w.heap.size, 1, none⟩ = some (.int .i64 y) ∧ Below wA.heap.size wA wA.drew from ⟨c0, c1, ⟨rfl, rfl, rfl, Nat.le_refl _, fun _ _ => rfl⟩⟩)
  have HQ := Lib.hid (show ∀ w' : World, (w'.cell? ⟨w.heap.size, 0, none⟩ = some (.int .i64 x) ∧ w'.cell? ⟨w.heap.size, 1, none⟩ = some (.int .i64 y) ∧ Below wA.heap.size wA w') → Hid (PowOk w') from fun w' h => Lib.hid (pow_kept h.2.2 HPA.out))
  go_region_held3 (fun w' => w'.cell? ⟨w.heap.size, 0, none⟩ = some (.int .i64 x) ∧ w'.cell? ⟨w.heap.size, 1, none⟩ = some (.int .i64 y) ∧ Below wA.heap.size wA w')
    (first | exact HS.out | exact hkN)
    (first
      | (go_at_call 53; refine (implDecimal_any _ _ (by omega) (by omega) (HQ.out _ (by assumption))).mono ?_; rintro e wN ⟨rfl, hbN⟩; have hkN := two_next0 hl (by assumption) hbN))
  have HB2 := Lib.hid (HBA.out.trans (hkN.2.2.mono HBA.out.size))
  clear hkN
  go_wp2
  go_ret
  exact ⟨ret_strQ HN.out.symm, HB2.out⟩
end Go.Proofs.YtfleececlafjkabDoor
