/- A melt as text: both programs. -/
import Derived.Test.YtjicnfgpbbganaaDoorMeltI
import Derived.Test.YtjicnfgpbbganaaDoorDecimal
import Derived.Test.YtjicnfgpbbganaaDoorShelfC
import Derived.Lib.Join
import Derived.Lib.ItoaLen
import Derived.Deep.RegionHeld3
set_option linter.unusedVariables false
namespace Go.Proofs.YtjicnfgpbbganaaDoor
open Go.ChangeShapes Go.WideShapes Go.ChangeAt Go.RowKit

theorem joinT_snoc (xs : List (List UInt8)) (y : List UInt8) (h : xs ≠ []) : Lib.join (xs ++ [y]) [44] = Lib.join xs [44] ++ 44 :: y := by
  cases xs with
  | nil => exact absurd rfl h
  | cons x r => rw [List.cons_append, Lib.join_cons, Lib.join_cons]; simp [Lib.joinTail]
/-- The slice v reads as ss, and it has room for them. -/
def StC (w : World) (v : Value) (ss : List ByteArray) : Prop := StAt w v ss ∧ ∃ a c, v = .slice a ss.length c ∧ ss.length ≤ c
theorem stc_kept {w w' : World} {v : Value} {ss : List ByteArray} (hb : Below w.heap.size w w') (h : StC w v ss) : StC w' v ss := ⟨st_kept hb h.1, h.2⟩
theorem own_stc {w : World} {B : Nat} {v : Value} {ss : List ByteArray} (hl : ss.length ≤ 1048576) (h : OwnSt w B v ss) : StC w v ss := by
  refine ⟨own_st hl h, ?_⟩
  obtain ⟨g, cap, rfl, -, -, hown⟩ := h
  rcases hown.2 with ⟨h1, -⟩ | ⟨g2, cap2, cur, h1, -, -, h2, -⟩
  · cases h1
  · cases h1; exact ⟨_, _, rfl, h2⟩
def joinS (ss : List ByteArray) : List UInt8 := Lib.join (ss.map (·.data.toList)) [44]
def joinB (ss : List ByteArray) : ByteArray := ⟨(joinS ss).toArray⟩
theorem bytesT {a b : ByteArray} (h : a.data.toList = b.data.toList) : a = b := by
  cases a; cases b; congr 1; exact Array.toList_inj.1 h
theorem joinB_next (ss : List ByteArray) (k : Nat) (h : k < ss.length) : joinB (ss.take (k + 1)) = if k = 0 then joinB (ss.take k) ++ ss.getD k ByteArray.empty else joinB (ss.take k) ++ ⟨#[44]⟩ ++ ss.getD k ByteArray.empty := by
  have e : ss.getD k ByteArray.empty = ss[k] := by simp [List.getD, h]
  rw [e, List.take_succ_eq_append_getElem h]
  apply bytesT
  by_cases h0 : k = 0
  · subst h0
    rw [if_pos rfl]
    simp [joinB, joinS, Lib.join]
  · rw [if_neg h0]
    unfold joinB joinS
    rw [List.map_append, List.map_cons, List.map_nil, joinT_snoc _ _ (by
      intro e2
      have : (ss.take k).length = 0 := by simpa using congrArg List.length e2
      rw [List.length_take] at this
      omega)]
    simp
theorem joinB_size (ss : List ByteArray) (k : Nat) (h : k ≤ ss.length) : (joinB (ss.take k)).size ≤ lenT ss k + k := by
  induction k with
  | zero => rw [List.take_zero]; exact Nat.zero_le _
  | succ k ih =>
    have := ih (by omega)
    rw [joinB_next ss k (by omega)]
    show _ ≤ lenT ss k + (ss.getD k ByteArray.empty).size + (k + 1)
    split
    · rw [ByteArray.size_append]; omega
    · rw [ByteArray.size_append, ByteArray.size_append]
      have : (⟨#[44]⟩ : ByteArray).size = 1 := rfl
      omega
theorem joinB_all (ss : List ByteArray) : joinB (ss.take ss.length) = joinB ss := by rw [List.take_length]
theorem lenT_le (ss : List ByteArray) (m : Nat) (h : ∀ j, j < ss.length → (ss.getD j ByteArray.empty).size ≤ m) : ∀ k, k ≤ ss.length → lenT ss k ≤ m * k
  | 0, _ => by simp [lenT]
  | k + 1, hk => by
    have := lenT_le ss m h k (by omega)
    have := h k (by omega)
    show lenT ss k + (ss.getD k ByteArray.empty).size ≤ m * (k + 1)
    rw [Nat.mul_add]; omega
theorem namesB_sizes {ss : List ByteArray} (h : namesB ss = true) : (1 ≤ ss.length ∧ ss.length ≤ 16) ∧ ∀ j, j < ss.length → (ss.getD j ByteArray.empty).size ≤ 10 := by
  unfold namesB at h
  rw [Bool.and_eq_true, decide_eq_true_eq] at h
  refine ⟨h.1, fun j hj => ?_⟩
  have := chainN_iff.1 h.2 j hj
  unfold okN at this
  rw [Bool.and_eq_true] at this
  have h2 := this.1
  unfold nameB NameP at h2
  exact (of_decide_eq_true h2).2.1
theorem joinB_small {ss : List ByteArray} (h : namesB ss = true) : (joinB ss).size ≤ 176 := by
  obtain ⟨h1, h2⟩ := namesB_sizes h
  have a := joinB_size ss ss.length (Nat.le_refl _)
  have b := lenT_le ss 10 h2 ss.length (Nat.le_refl _)
  rw [joinB_all] at a
  omega
def meltT (s : ByteArray) (ss : List ByteArray) (z : Int) : ByteArray := s ++ (⟨#[32]⟩ : ByteArray) ++ joinB ss ++ (⟨#[32]⟩ : ByteArray) ++ decText z
def meltTx (s : ByteArray) (ss : List ByteArray) (z : Int) : ByteArray := if meltB s ss z = true then meltT s ss z else ByteArray.empty
theorem ret_strT {a b : ByteArray} (h : a = b) : Ending.returned (.string a) = .returned (.string b) := by rw [h]
theorem decText_small {z : Int} (h1 : -9223372036854775808 ≤ z) (h2 : z ≤ 9223372036854775807) : (decText z).size ≤ 21 := by
  have := Lib.itoa_length_le _ h1 h2
  show (Lib.itoa z).toArray.size ≤ _
  rw [List.size_toArray]; omega
set_option maxRecDepth 20000 in
set_option maxHeartbeats 2000000 in
theorem join_some (ss : List ByteArray) (b off cap n : Nat) (w : World) (hn : Hid (ss.length = n)) (hn0 : n ≤ 16) (hc : ∀ j, j < n → w.cell? ⟨b, off + j, none⟩ = some (.string (ss.getD j ByteArray.empty))) (hs : Hid (∀ j, j < n → (ss.getD j ByteArray.empty).size ≤ 10)) :
    Calls Tryd.prog 87 #[.slice (some ⟨b, off, none⟩) n cap] w fun e w' => e = .returned (.string (joinB ss)) ∧ ∃ m, w' = w.drewN m := by
  have HC := Lib.hid hc
  have HNX := Lib.hid (fun k (hk : k < ss.length) => joinB_next ss k hk)
  have HSZ := Lib.hid (fun k (hk : k ≤ ss.length) => joinB_size ss k hk)
  have HLT := Lib.hid (fun k (hk : k ≤ ss.length) => lenT_le ss 10 (fun j hj => hs.out j (by rw [hn.out] at hj; exact hj)) k hk)
  clear hc
  go_enter Tryd.func87, Tryd.ntmps87
  go_wp2
  go_loopw [3, 4] (fun o i wr => ∃ k m : Nat, k ≤ n ∧ i = .int .i64 k ∧ o = .string (joinB (ss.take k)) ∧ wr = w.drewN m) (fun _ i _ => n - (intOf i).toNat)
  case atStart => exact ⟨0, 0, by omega, rfl, rfl, rfl⟩
  case round =>
    obtain ⟨k, m, hk, rfl, rfl, rfl⟩ := hrel
    by_cases hlt : k < n
    · have d0 := HC.out k hlt
      have HN := Lib.hid (HNX.out k (by rw [hn.out]; exact hlt))
      have hsz := HSZ.out k (by rw [hn.out]; omega)
      have hlt' := HLT.out k (by rw [hn.out]; omega)
      have hx := hs.out k hlt
      generalize ss.getD k ByteArray.empty = x at *
      generalize joinB (ss.take k) = o at *
      have hkm : (k : Int) < (n : Int) := by omega
      have hk0 : (0 : Int) ≤ (k : Int) := by omega
      have ho : o.size ≤ 200 := by omega
      clear hsz hlt'
      have g1 : ¬ 9223372036854775807 < o.size + 1 := by omega
      have g2 : ¬ 9223372036854775807 < o.size + x.size := by omega
      have g3 : ¬ 9223372036854775807 < o.size + 1 + x.size := by omega
      by_cases h0 : k = 0
      · have HR := Lib.hid (show joinB (ss.take (k + 1)) = o ++ x by rw [HN.out, if_pos h0])
        have hg : ¬ (0 : Int) < (k : Int) := by omega
        clear h0
        go_wp2
        go_roundw
        case rel => exact ⟨k + 1, _, by omega, by go_num, by rw [HR.out], rfl⟩
        case measure => simp [intOf]; omega
      · have HR := Lib.hid (show joinB (ss.take (k + 1)) = o ++ ⟨#[44]⟩ ++ x by rw [HN.out, if_neg h0])
        have hg : (0 : Int) < (k : Int) := by omega
        clear h0
        go_wp2
        go_roundw
        case rel => exact ⟨k + 1, _, by omega, by go_num, by rw [HR.out], rfl⟩
        case measure => simp [intOf]; omega
    · obtain rfl : k = n := by omega
      have HR := Lib.hid (show joinB (ss.take k) = joinB ss by rw [← hn.out]; exact joinB_all ss)
      go_wp2
      go_ret
      exact ⟨ret_strT HR.out, _, rfl⟩
theorem specJoin_any (v : Value) (ss : List ByteArray) (w : World) (h : StAt w v ss) (hz : namesB ss = true) :
    Calls Tryd.prog 87 #[v] w fun e w' => e = .returned (.string (joinB ss)) ∧ ∃ m, w' = w.drewN m := by
  obtain ⟨h1, h2⟩ := namesB_sizes hz
  obtain ⟨_, ⟨a, c, rfl, rfl⟩ | ⟨b, off, cap, rfl, hb, hc⟩⟩ := h
  · simp at h1
  · exact join_some ss b off cap _ w (Lib.hid rfl) h1.2 hc (Lib.hid h2)
theorem specJoinB_any (v : Value) (ss : List ByteArray) (w : World) (h : StAt w v ss) (hz : namesB ss = true) :
    Calls Tryd.prog 87 #[v] w fun e w' => e = .returned (.string (joinB ss)) ∧ Below w.heap.size w w' := by
  refine (specJoin_any v ss w h hz).mono ?_
  rintro e w' ⟨rfl, m, rfl⟩
  exact ⟨rfl, drewT _ m⟩
theorem tS_next {w w' w2 : World} {p : Nat} {u0 u1 u2 : Value} (h : w'.cell? ⟨p, 0, none⟩ = some u0 ∧ w'.cell? ⟨p, 1, none⟩ = some u1 ∧ w'.cell? ⟨p, 2, none⟩ = some u2 ∧ p < w'.heap.size ∧ Below w.heap.size w w') (hb : Below w'.heap.size w' w2) : w2.cell? ⟨p, 0, none⟩ = some u0 ∧ w2.cell? ⟨p, 1, none⟩ = some u1 ∧ w2.cell? ⟨p, 2, none⟩ = some u2 ∧ p < w2.heap.size ∧ Below w.heap.size w w2 :=
  ⟨(below_cell hb _ _ h.2.2.2.1).trans h.1, (below_cell hb _ _ h.2.2.2.1).trans h.2.1, (below_cell hb _ _ h.2.2.2.1).trans h.2.2.1, Nat.lt_of_lt_of_le h.2.2.2.1 hb.size, below_of h.2.2.2.2 hb h.2.2.2.2.size⟩
set_option maxRecDepth 20000 in
set_option maxHeartbeats 4000000 in
theorem l14Text_any (p : Nat) (s : ByteArray) (v : Value) (ss : List ByteArray) (z : Int) (w : World) (c0 : w.cell? ⟨p, 0, none⟩ = some (.string s)) (c1 : w.cell? ⟨p, 1, none⟩ = some v) (c2 : w.cell? ⟨p, 2, none⟩ = some (.int .i64 z)) (hv : StAt w v ss) (hl : p < w.heap.size) (hm : meltB s ss z = true) :
    Calls Tryd.prog 66 #[.pointer (some ⟨p, 0, none⟩)] w fun e w' => e = .returned (.string (meltT s ss z)) ∧ Below w.heap.size w w' := by
  obtain ⟨h1, h2, z1, z2⟩ := meltB_iff.1 hm
  have hs10 : s.size ≤ 10 := by unfold nameB NameP at h1; exact (of_decide_eq_true h1).2.1
  have hj := joinB_small h2
  have hd := decText_small (z := z) (by omega) (by omega)
  have HJ := Lib.hid (fun (w' : World) (hb : Below w.heap.size w w') => specJoinB_any v ss w' (st_kept hb hv) h2)
  have HD := Lib.hid (fun (w' : World) => specDec_any z w' (by omega) (by omega))
  have HN := Lib.hid (show meltT s ss z = s ++ (⟨#[32]⟩ : ByteArray) ++ joinB ss ++ (⟨#[32]⟩ : ByteArray) ++ decText z from rfl)
  obtain ⟨ua, uc, rfl⟩ := st_form hv
  generalize ss.length = n at *
  generalize joinB ss = tj at *
  generalize decText z = td at *
  have g1 : ¬ 9223372036854775807 < s.size + 1 := by omega
  have g2 : ¬ 9223372036854775807 < s.size + 1 + tj.size := by omega
  have g3 : ¬ 9223372036854775807 < s.size + 1 + tj.size + 1 := by omega
  have g4 : ¬ 9223372036854775807 < s.size + 1 + tj.size + 1 + td.size := by omega
  have hs0 : w.drew.cell? ⟨p, 0, none⟩ = some (.string s) ∧ w.drew.cell? ⟨p, 1, none⟩ = some (.slice ua n uc) ∧ w.drew.cell? ⟨p, 2, none⟩ = some (.int .i64 z) ∧ p < w.drew.heap.size ∧ Below w.heap.size w w.drew := ⟨c0, c1, c2, hl, ⟨rfl, rfl, rfl, Nat.le_refl _, fun _ _ => rfl⟩⟩
  clear hv hm h1 h2 hj hd hs10
  go_enter Tryd.func66, Tryd.ntmps66
  go_wp2
  go_region_held3 (fun w' => w'.cell? ⟨p, 0, none⟩ = some (.string s) ∧ w'.cell? ⟨p, 1, none⟩ = some (.slice ua n uc) ∧ w'.cell? ⟨p, 2, none⟩ = some (.int .i64 z) ∧ p < w'.heap.size ∧ Below w.heap.size w w')
    (first | assumption)
    (first
      | (go_at_call 87; refine (HJ.out _ (And.right (And.right (And.right (And.right (by assumption)))))).mono ?_; rintro en w6 ⟨rfl, hb6⟩; have hs6 := tS_next (by assumption) hb6)
      | (go_at_call 88; refine (HD.out _).mono ?_; rintro en w7 ⟨rfl, hb7⟩; have hs7 := tS_next (by assumption) hb7))
  all_goals
    have HB2 : Below w.heap.size w _ := And.right (And.right (And.right (And.right (by assumption))))
    have HB3 := Lib.hid HB2
    go_wp2
    go_ret
    exact ⟨ret_strT HN.out.symm, HB3.out⟩
set_option maxHeartbeats 1000000 in
theorem specMlT_any (s : ByteArray) (v : Value) (ss : List ByteArray) (z : Int) (w : World) (hv : StAt w v ss) (hs : s.size ≤ maxLen) (hz : SzSt ss) :
    Calls Tryd.prog 37 #[.agg #[.string s, v, .int .i64 z]] w fun e w' => e = .returned (.string (meltTx s ss z)) ∧ Below w.heap.size w w' := by
  have HB := Lib.hid (below_alT w (.cells #[.string s, v, .int .i64 z] 40))
  have HV := Lib.hid (st_kept HB.out hv)
  have hl : w.heap.size < (w.alloc (.cells #[.string s, v, .int .i64 z] 40)).heap.size := alloc_ltT _ _
  have c0 : (w.alloc (.cells #[.string s, v, .int .i64 z] 40)).cell? ⟨w.heap.size, 0, none⟩ = some (.string s) := by go_simp
  have c1 : (w.alloc (.cells #[.string s, v, .int .i64 z] 40)).cell? ⟨w.heap.size, 1, none⟩ = some v := by go_simp
  have c2 : (w.alloc (.cells #[.string s, v, .int .i64 z] 40)).cell? ⟨w.heap.size, 2, none⟩ = some (.int .i64 z) := by go_simp
  have HO := Lib.hid (l14One_at w.heap.size 0 s v ss z _ c0 c1 c2 HV.out hs hz)
  have HT := Lib.hid (fun (m : Nat) (h : meltB s ss z = true) => l14Text_any w.heap.size s v ss z ((w.alloc (.cells #[.string s, v, .int .i64 z] 40)).drewN m) c0 c1 c2 (st_kept (drewT _ m) HV.out) hl h)
  clear hv HV hz
  rcases Bool.eq_false_or_eq_true (meltB s ss z) with h1 | h1
  · have HR := Lib.hid (show meltTx s ss z = meltT s ss z by unfold meltTx; rw [if_pos h1])
    rw [HR.out]
    have HT2 := Lib.hid (fun m => HT.out m h1)
    rw [h1] at HO
    generalize meltT s ss z = t at *
    clear HT h1 HR
    go_enter Tryd.func37, Tryd.ntmps37
    go_wp2_with fail
    refine HO.out.mono ?_
    rintro e w2 ⟨rfl, m, rfl⟩
    go_wp2_with fail
    refine (HT2.out m).mono ?_
    rintro e w3 ⟨rfl, hb⟩
    have HB2 := Lib.hid (below_of (below_of HB.out (drewT _ m) HB.out.size) hb (below_of HB.out (drewT _ m) HB.out.size).size)
    clear hb
    go_wp2
    go_ret
    exact ⟨rfl, HB2.out⟩
  · have HR := Lib.hid (show meltTx s ss z = ByteArray.empty by unfold meltTx; rw [if_neg (by rw [h1]; simp)])
    rw [HR.out]
    rw [h1] at HO
    clear HT h1 HR
    go_enter Tryd.func37, Tryd.ntmps37
    go_wp2_with fail
    refine HO.out.mono ?_
    rintro e w2 ⟨rfl, m, rfl⟩
    go_wp2
    go_ret
    exact ⟨rfl, below_of HB.out (drewT _ m) HB.out.size⟩
theorem implJoin_any (v : Value) (ss : List ByteArray) (w : World) (h : StAt w v ss) (hz : namesB ss = true) (hcap : ∃ a c, v = .slice a ss.length c ∧ ss.length ≤ c) :
    Calls Tryd.prog 68 #[v, .string ⟨#[44]⟩] w fun e w' => e = .returned (.string (joinB ss)) ∧ Below w.heap.size w w' := by
  obtain ⟨h1, h2⟩ := namesB_sizes hz
  have hj := joinB_small hz
  obtain ⟨_, ⟨a, c, rfl, rfl⟩ | ⟨b, off, cap, rfl, hb, hc⟩⟩ := h
  · simp at h1
  · obtain ⟨a, c, e, hcc⟩ := hcap
    cases e
    refine Tryd.strings_Join b off cap ss ⟨#[44]⟩ w (fun j x hx => ?_) hb (by omega) hcc ?_
    · obtain ⟨hj, rfl⟩ := List.getElem?_eq_some_iff.1 hx
      rw [hc j hj]; simp [List.getD, hj]
    · have e : (joinB ss).size = (Lib.join (ss.map (·.data.toList)) [44]).length := by
        show (joinS ss).toArray.size = _
        rw [List.size_toArray]; rfl
      show (Lib.join (ss.map (·.data.toList)) [44]).length ≤ _
      omega
set_option maxRecDepth 20000 in
set_option maxHeartbeats 4000000 in
theorem implMlT_any (s : ByteArray) (v : Value) (ss : List ByteArray) (z : Int) (w : World) (hv : StAt w v ss) (hcap : ∃ a c, v = .slice a ss.length c ∧ ss.length ≤ c) (hs : s.size ≤ maxLen) (hz : SzSt ss) (hp : Hid (PowOk w)) :
    Calls Tryd.prog 38 #[.agg #[.string s, v, .int .i64 z]] w fun e w' => e = .returned (.string (meltTx s ss z)) ∧ Below w.heap.size w w' := by
  have HB := Lib.hid (below_alT w (.cells #[.string s, v, .int .i64 z] 40))
  have HV := Lib.hid (st_kept HB.out hv)
  have hl : w.heap.size < (w.alloc (.cells #[.string s, v, .int .i64 z] 40)).heap.size := alloc_ltT _ _
  have c0 : (w.alloc (.cells #[.string s, v, .int .i64 z] 40)).cell? ⟨w.heap.size, 0, none⟩ = some (.string s) := by go_simp
  have c1 : (w.alloc (.cells #[.string s, v, .int .i64 z] 40)).cell? ⟨w.heap.size, 1, none⟩ = some v := by go_simp
  have c2 : (w.alloc (.cells #[.string s, v, .int .i64 z] 40)).cell? ⟨w.heap.size, 2, none⟩ = some (.int .i64 z) := by go_simp
  have HO := Lib.hid (implMeltValid_any s v ss z _ HV.out hs hz)
  rcases Bool.eq_false_or_eq_true (meltB s ss z) with h1 | h1
  · have HR := Lib.hid (show meltTx s ss z = meltT s ss z by unfold meltTx; rw [if_pos h1])
    rw [HR.out]
    obtain ⟨a1, a2, z1, z2⟩ := meltB_iff.1 h1
    have hs10 : s.size ≤ 10 := by unfold nameB NameP at a1; exact (of_decide_eq_true a1).2.1
    have hj := joinB_small a2
    have hd := decText_small (z := z) (by omega) (by omega)
    have HJ := Lib.hid (fun (w' : World) (hb : Below w.heap.size w w') => implJoin_any v ss w' (st_kept hb hv) a2 hcap)
    have HD := Lib.hid (fun (w' : World) (hb : Below w.heap.size w w') => implDecimal_any z w' (by omega) (by omega) (Lib.hid (pow_kept hb hp.out)))
    have HN := Lib.hid (show meltT s ss z = s ++ (⟨#[32]⟩ : ByteArray) ++ joinB ss ++ (⟨#[32]⟩ : ByteArray) ++ decText z from rfl)
    rw [h1] at HO
    obtain ⟨ua, uc, rfl⟩ := st_form hv
    clear hv hz HV hcap
    generalize ss.length = n at *
    generalize joinB ss = tj at *
    generalize decText z = td at *
    have g1 : ¬ 9223372036854775807 < s.size + 1 := by omega
    have g2 : ¬ 9223372036854775807 < s.size + 1 + tj.size := by omega
    have g3 : ¬ 9223372036854775807 < s.size + 1 + tj.size + 1 := by omega
    have g4 : ¬ 9223372036854775807 < s.size + 1 + tj.size + 1 + td.size := by omega
    clear h1 a1 a2 hj hd hs10
    go_enter Tryd.func38, Tryd.ntmps38
    go_wp2_with fail
    generalize (w.alloc (.cells #[.string s, .slice ua n uc, .int .i64 z] 40)) = wA at *
    refine HO.out.mono ?_
    rintro e w2 ⟨rfl, hb⟩
    have HB2 := Lib.hid (below_of HB.out hb HB.out.size)
    have hs0 : w2.drew.cell? ⟨w.heap.size, 0, none⟩ = some (.string s) ∧ w2.drew.cell? ⟨w.heap.size, 1, none⟩ = some (.slice ua n uc) ∧ w2.drew.cell? ⟨w.heap.size, 2, none⟩ = some (.int .i64 z) ∧ w.heap.size < w2.drew.heap.size ∧ Below w.heap.size w w2.drew := ⟨(below_cell hb _ _ hl).trans c0, (below_cell hb _ _ hl).trans c1, (below_cell hb _ _ hl).trans c2, Nat.lt_of_lt_of_le hl hb.size, (let h := HB2.out; ⟨h.os, h.tape, h.output, h.size, h.block⟩)⟩
    have k0 : w2.cell? ⟨w.heap.size, 0, none⟩ = some (.string s) := hs0.1
    have k1 : w2.cell? ⟨w.heap.size, 1, none⟩ = some (.slice ua n uc) := hs0.2.1
    have k2 : w2.cell? ⟨w.heap.size, 2, none⟩ = some (.int .i64 z) := hs0.2.2.1
    clear hb c0 c1 c2
    go_wp2
    go_region_held3 (fun w' => w'.cell? ⟨w.heap.size, 0, none⟩ = some (.string s) ∧ w'.cell? ⟨w.heap.size, 1, none⟩ = some (.slice ua n uc) ∧ w'.cell? ⟨w.heap.size, 2, none⟩ = some (.int .i64 z) ∧ w.heap.size < w'.heap.size ∧ Below w.heap.size w w')
      (first | assumption)
      (first
        | (go_at_call 68; refine (HJ.out _ (And.right (And.right (And.right (And.right (by assumption)))))).mono ?_; rintro en w6 ⟨rfl, hb6⟩; have hs6 := tS_next (by assumption) hb6)
        | (go_at_call 69; refine (HD.out _ (And.right (And.right (And.right (And.right (by assumption)))))).mono ?_; rintro en w7 ⟨rfl, hb7⟩; have hs7 := tS_next (by assumption) hb7))
    all_goals
      have HB3 : Below w.heap.size w _ := And.right (And.right (And.right (And.right (by assumption))))
      have HB4 := Lib.hid HB3
      go_wp2
      go_ret
      exact ⟨ret_strT HN.out.symm, HB4.out⟩
  · have HR := Lib.hid (show meltTx s ss z = ByteArray.empty by unfold meltTx; rw [if_neg (by rw [h1]; simp)])
    rw [HR.out]
    rw [h1] at HO
    clear hv HV hz hcap h1
    go_enter Tryd.func38, Tryd.ntmps38
    go_wp2_with fail
    refine HO.out.mono ?_
    rintro e w2 ⟨rfl, hb⟩
    have HB2 := Lib.hid (below_of HB.out hb HB.out.size)
    clear hb
    go_wp2
    go_ret
    exact ⟨rfl, HB2.out⟩
end Go.Proofs.YtjicnfgpbbganaaDoor
