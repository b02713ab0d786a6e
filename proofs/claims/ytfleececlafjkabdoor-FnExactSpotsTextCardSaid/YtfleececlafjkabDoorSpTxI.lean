/- The text of spots: the program's. -/
import Derived.Test.YtfleececlafjkabDoorSpTx
import Derived.Test.YtfleececlafjkabDoorShelfC
import Derived.Lib.Join
import Derived.Laws.AppendOwn
import Derived.OwnWalk
set_option linter.unusedVariables false
namespace Go.Proofs.YtfleececlafjkabDoor
open Go.ChangeShapes Go.WideShapes Go.ChangeAt Go.RowKit

theorem infoStrQ : (Tryd.prog.info? 9).map (fun i => (i.zero, i.size, i.bytes)) = some (some (.string ByteArray.empty), 1, 16) := by kernel_rfl
def strVq (ss : List ByteArray) : List Value := ss.map Value.string
theorem strVq_get (ss : List ByteArray) (j : Nat) (x : ByteArray) (h : ss[j]? = some x) : (strVq ss)[j]? = some (.string x) := by simp [strVq, h]
/-- The parts of the text, k spots of them filled in. -/
def ptsQ (rs : List Qt) (k : Nat) : List ByteArray := (rs.take k).map spT ++ List.replicate (rs.length - k) ByteArray.empty
theorem ptsQ_len (rs : List Qt) (k : Nat) (h : k ≤ rs.length) : (ptsQ rs k).length = rs.length := by simp [ptsQ]; omega
theorem ptsQ_next (rs : List Qt) (k : Nat) (h : k < rs.length) : (strVq (ptsQ rs k)).set k (.string (spT (rs.getD k zQ))) = strVq (ptsQ rs (k + 1)) := by
  unfold ptsQ strVq
  rw [show rs.length - k = rs.length - (k + 1) + 1 from by omega, List.replicate_succ, List.map_append, List.map_cons, List.set_append_right _ _ (by simp; omega), List.length_map, List.length_map, List.length_take,
    Nat.min_eq_left (by omega), Nat.sub_self, List.set_cons_zero, List.take_succ_eq_append_getElem h, List.map_append, List.map_append, List.map_append]
  simp [List.getD, h]
theorem ptsQ_old (rs : List Qt) (k : Nat) (h : k < rs.length) : (strVq (ptsQ rs k))[k]? = some (.string ByteArray.empty) := by
  unfold ptsQ strVq
  rw [show rs.length - k = rs.length - (k + 1) + 1 from by omega, List.replicate_succ, List.map_append, List.getElem?_append_right (by simp; omega)]
  simp [Nat.min_eq_left (Nat.le_of_lt h)]
theorem ptsQ_all (rs : List Qt) : ptsQ rs rs.length = rs.map spT := by simp [ptsQ]
theorem made_strQ (n : Nat) : (madeCells (Value.string ByteArray.empty).cells (n * 1)).toList = strVq (List.replicate n ByteArray.empty) := by
  unfold madeCells strVq
  rw [List.map_replicate, Nat.mul_one]
  apply List.ext_getElem?
  intro j
  by_cases h : j < n
  · simp [h, Value.cells, Nat.mod_one]
  · simp [h]
theorem join_snocQ (xs : List (List UInt8)) (y : List UInt8) (h : xs ≠ []) : Lib.join (xs ++ [y]) [32] = Lib.join xs [32] ++ 32 :: y := by
  cases xs with
  | nil => exact absurd rfl h
  | cons x r => rw [List.cons_append, Lib.join_cons, Lib.join_cons]; simp [Lib.joinTail]
theorem app_listQ (a b : ByteArray) : (a ++ b).data.toList = a.data.toList ++ b.data.toList := by simp
theorem pts_join (rs : List Qt) : ∀ k, k + 1 ≤ rs.length → Lib.join (((rs.take (k + 1)).map spT).map (·.data.toList)) [32] = (stTo rs (k + 1)).data.toList
  | 0, h => by
    rw [List.take_succ_eq_append_getElem h, List.take_zero, List.nil_append]
    rw [show stTo rs (0 + 1) = (if 0 = 0 then stTo rs 0 else stTo rs 0 ++ (⟨#[32]⟩ : ByteArray)) ++ spT (rs.getD 0 zQ) from rfl, if_pos rfl, app_listQ]
    simp [Lib.join_one, stTo, List.getD, List.getElem?_eq_getElem h]
  | k + 1, h => by
    rw [List.take_succ_eq_append_getElem h, List.map_append, List.map_append, List.map_cons, List.map_nil, List.map_cons, List.map_nil, join_snocQ _ _ (by
      intro e
      have e2 := congrArg List.length e
      rw [List.length_map, List.length_map, List.length_take, List.length_nil] at e2
      omega), pts_join rs k (by omega)]
    rw [show stTo rs (k + 1 + 1) = (if k + 1 = 0 then stTo rs (k + 1) else stTo rs (k + 1) ++ (⟨#[32]⟩ : ByteArray)) ++ spT (rs.getD (k + 1) zQ) from rfl, if_neg (by omega), app_listQ, app_listQ]
    simp [List.getD, List.getElem?_eq_getElem h]
theorem sizeQ (s : ByteArray) : s.data.toList.length = s.size := by simp
set_option maxRecDepth 100000 in
set_option maxHeartbeats 4000000 in
theorem implST_some (b off c n : Nat) (rs : List Qt) (w : World) (hn : Hid (rs.length = n)) (h0 : 0 < n) (hI : SpotsAt w (.slice (some ⟨b, off, none⟩) n c) rs) (hbl : b < w.heap.size) (hc : ∀ i, i < n → QIn w b (off + i * 2) (rs.getD i zQ)) (hv : spotsB rs = true) (hp : Hid (PowOk w)) :
    Calls Tryd.prog 16 #[.slice (some ⟨b, off, none⟩) n c] w fun e w' => e = .returned (.string (stTo rs n)) ∧ Below w.heap.size w w' := by
  obtain ⟨i0, hi, hz0, hz1, hz2⟩ := info_parts infoStrQ
  have h16 : n ≤ 16 := by rw [← hn.out]; exact (spots_iff.1 hv).1
  have HV := Lib.hid (implVS_any rs _ w hI)
  have H1 := Lib.hid hv
  have HR := Lib.hid (fun i (hi : i < n) => ok_spot hv i (by rw [hn.out]; exact hi))
  have HSZ := Lib.hid (stTo_size hv n (by rw [hn.out]; exact Nat.le_refl _))
  have hne : ((n : Int) == 0) = false := by simp; omega
  clear hI hv
  go_enter Tryd.func16, Tryd.ntmps16
  go_wp2_with fail
  refine HV.out.mono ?_
  rintro e w1 ⟨rfl, hb⟩
  rw [H1.out]
  have HB1 := Lib.hid hb
  have hbl1 : b < w1.heap.size := Nat.lt_of_lt_of_le hbl hb.size
  have HC1 := Lib.hid (show ∀ i, i < n → QIn w1 b (off + i * 2) (rs.getD i zQ) from fun i hi => spots_keep hb hbl (hc i hi))
  have HP1 := Lib.hid (pow_kept hb hp.out)
  clear hb hc hp
  go_wp2_with (at_make; refine wpList_make_full _ rfl _ _ 46 rfl w1.heap.size 9 i0 (.string ByteArray.empty) 1 Tryd.underlying46 hi hz0 hz1 .i64 .i64 _ _ n rfl rfl rfl rfl (by rw [hz2]; omega) (by unfold maxLen; omega) (Nat.le_refl _) ?_; intro w0 hown hgrow)
  have HB0 := Lib.hid ((Below.refl w1.heap.size w1).grown hgrow (Nat.le_refl _) (fun k hk => by cases hk))
  rw [made_strQ] at hown
  have HO0 := Lib.hid (show w0.ownsRow w1.heap.size 9 1 (.slice (some ⟨w1.heap.size, 0, none⟩) n n) n (strVq (ptsQ rs 0)) by
    unfold ptsQ; rw [hn.out, Nat.sub_zero, List.take_zero, List.map_nil, List.nil_append]; exact hown)
  clear hgrow hown
  go_wp2
  go_loopw [17] (fun i wr => ∃ k : Nat, k ≤ n ∧ i = .int .i64 k ∧ wr.ownsRow w1.heap.size 9 1 (.slice (some ⟨w1.heap.size, 0, none⟩) n n) n (strVq (ptsQ rs k)) ∧ Below w1.heap.size w1 wr) (fun i _ => n - (intOf i).toNat)
  case atStart => exact ⟨0, by omega, rfl, HO0.out, HB0.out⟩
  case round =>
    obtain ⟨k, hk, rfl, hown, hbw⟩ := hrel
    have HO := Lib.hid hown
    by_cases hlt : k < n
    · obtain ⟨d0, d1⟩ := HC1.out k hlt
      have r0 := (below_cell hbw _ _ hbl1).trans d0
      have r1 := (below_cell hbw _ _ hbl1).trans d1
      have hrb := HR.out k hlt
      have HN := Lib.hid (ptsQ_next rs k (by rw [hn.out]; exact hlt))
      have HOLD := Lib.hid (ptsQ_old rs k (by rw [hn.out]; exact hlt))
      have hk1 : (k : Int) < (n : Int) := by omega
      have hk0 : (0 : Int) ≤ (k : Int) := by omega
      clear d0 d1 hown
      obtain ⟨x, y, hxy⟩ : ∃ x y, rs.getD k zQ = (x, y) := ⟨_, _, rfl⟩
      rw [hxy] at r0 r1 hrb HN
      have HRB := Lib.hid hrb
      simp only at r0 r1
      clear hxy hrb
      have hba := (Below.refl wr.heap.size wr).alloc (Nat.le_refl _) (.cells #[.int .i64 x, .int .i64 y] 53)
      have HBW := Lib.hid (below_of hbw hba hbw.size)
      have HOA := Lib.hid (row_keepQ hba HO.out)
      have HPA := Lib.hid (pow_kept HBW.out HP1.out)
      clear hba hbw
      go_wp2_with fail
      refine (spotText_any x y _ HRB.out HPA).mono ?_
      rintro e w3 ⟨rfl, hb⟩
      have HO3 := Lib.hid (row_keepQ hb HOA.out)
      have HB3 := Lib.hid (below_of HBW.out hb HBW.out.size)
      have hf := HO3.out.frozenAt k
      have hat : w3.cell? ⟨w1.heap.size, k, none⟩ = some (.string ByteArray.empty) := (HO3.out.cellAt k (by omega)).trans HOLD.out
      clear hb
      generalize spT (x, y) = tt at *
      have HS := Lib.hid (HO3.out.stored k (.string tt))
      go_wp2
      go_roundw
      case rel => exact ⟨k + 1, by omega, by go_num, by rw [← HN.out]; exact HS.out.1, HB3.out.setCell (by exact Nat.le_refl _) _⟩
      case measure => simp [intOf]; omega
    · obtain rfl : k = n := by omega
      have HF := Lib.hid (below_of HB1.out hbw HB1.out.size)
      have hgl : w1.heap.size < wr.heap.size := (HO.out.lt _ rfl).2
      have HPT := Lib.hid (show ptsQ rs k = (rs.take k).map spT by unfold ptsQ; rw [hn.out, Nat.sub_self]; simp)
      have HPJ := Lib.hid (show Lib.join ((ptsQ rs k).map (·.data.toList)) [32] = (stTo rs k).data.toList by
        rw [HPT.out]
        obtain ⟨q, rfl⟩ : ∃ q, k = q + 1 := ⟨k - 1, by omega⟩
        exact pts_join rs q (by rw [hn.out]; exact Nat.le_refl _))
      have hLn : (ptsQ rs k).length = k := by rw [ptsQ_len _ _ (by rw [hn.out]; exact Nat.le_refl _), hn.out]
      have hszT := HSZ.out
      clear hown hbw
      go_wp2_with fail
      have HJ := Lib.hid (fun (hlen : _) => Tryd.strings_Join w1.heap.size 0 k (ptsQ rs k) ⟨#[32]⟩ wr (fun j x hj => by
        have hj5 : j < k := by have := (List.getElem?_eq_some_iff.1 hj).1; omega
        rw [Nat.zero_add, HO.out.cellAt j (by omega)]; exact strVq_get _ j x hj) hgl (by omega) (by omega) hlen)
      rw [hLn] at HJ
      refine (HJ.out ?_).mono ?_
      · rw [show (⟨#[32]⟩ : ByteArray).data.toList = [32] from rfl, HPJ.out, sizeQ]; omega
      · rintro en w4 ⟨rfl, hb⟩
        have HB4 := Lib.hid (below_of HF.out hb HF.out.size)
        have HE := Lib.hid (show (⟨(Lib.join ((ptsQ rs k).map (·.data.toList)) (⟨#[32]⟩ : ByteArray).data.toList).toArray⟩ : ByteArray) = stTo rs k by
          rw [show (⟨#[32]⟩ : ByteArray).data.toList = [32] from rfl, HPJ.out])
        rw [HE.out]
        clear hb
        go_wp2
        go_ret
        exact ⟨rfl, HB4.out⟩
theorem implST_none (a : Option Addr) (c : Nat) (w : World) :
    Calls Tryd.prog 16 #[.slice a 0 c] w fun e w' => e = .returned (.string ⟨#[45]⟩) ∧ Below w.heap.size w w' := by
  have H1 := Lib.hid (show spotsB [] = true from rfl)
  go_enter Tryd.func16, Tryd.ntmps16
  go_wp2_with fail
  refine (implVS_none a c w).mono ?_
  rintro e w1 ⟨rfl, hb⟩
  rw [H1.out]
  have HB1 := Lib.hid hb
  clear hb
  go_wp2
  go_ret
  exact ⟨rfl, HB1.out⟩
theorem implST_any (rs : List Qt) (v : Value) (w : World) (h : SpotsAt w v rs) (hp : Hid (PowOk w)) :
    Calls Tryd.prog 16 #[v] w fun e w' => e = .returned (.string (stV rs)) ∧ Below w.heap.size w w' := by
  rcases Bool.eq_false_or_eq_true (spotsB rs) with h1 | h1
  · by_cases h0 : rs.length = 0
    · obtain rfl : rs = [] := List.length_eq_zero_iff.1 h0
      obtain ⟨a, c, rfl⟩ := spots_form h
      exact implST_none a c w
    · have hI := h
      obtain ⟨b, off, cap, rfl, hbl, hc⟩ := spots_cells h (by omega)
      rw [show stV rs = stTo rs rs.length by unfold stV; rw [if_pos h1, if_neg h0]]
      exact implST_some b off cap _ rs w (Lib.hid rfl) (by omega) hI hbl hc h1 hp
  · have H1 := Lib.hid h1
    have HK := Lib.hid (implVS_any rs v w h)
    have HR := Lib.hid (show stV rs = ByteArray.empty by unfold stV; rw [if_neg (by rw [h1]; simp)])
    clear h1 h hp
    go_enter Tryd.func16, Tryd.ntmps16
    go_wp2_with fail
    refine HK.out.mono ?_
    rintro e w1 ⟨rfl, hb⟩
    have HB := Lib.hid hb
    clear hb
    rw [H1.out]
    go_wp2
    go_ret
    exact ⟨ret_strQ HR.out.symm, HB.out⟩
end Go.Proofs.YtfleececlafjkabDoor
