/- ListText: the program's walk. -/
import Derived.Test.YtblkbjeongmgdaaDoorListSpec
import Derived.Test.YtblkbjeongmgdaaDoorShelfC
namespace Go.Proofs.YtblkbjeongmgdaaDoor
open Go.ChangeShapes Go.WideShapes Go.ChangeAt Go.RowKit

theorem infoStr : (Tryd.prog.info? 9).map (fun i => (i.zero, i.size, i.bytes)) = some (some (.string ByteArray.empty), 1, 16) := by kernel_rfl
def strVs (ss : List ByteArray) : List Value := ss.map Value.string
def partsTo (zs : List Int) (k : Nat) : List ByteArray := (zs.take k).map decText ++ List.replicate (zs.length - k) ByteArray.empty
theorem parts_len (zs : List Int) (k : Nat) (h : k ≤ zs.length) : (partsTo zs k).length = zs.length := by simp [partsTo]; omega
theorem parts_get (zs : List Int) (k j : Nat) (h : k ≤ zs.length) (hj : j < zs.length) : (strVs (partsTo zs k))[j]? = some (.string ((partsTo zs k).getD j ByteArray.empty)) := by
  have := parts_len zs k h
  simp [strVs, List.getD, show j < (partsTo zs k).length by omega]
theorem parts_next (zs : List Int) (k : Nat) (h : k < zs.length) : (strVs (partsTo zs k)).set k (.string (decText (zs.getD k 0))) = strVs (partsTo zs (k + 1)) := by
  unfold partsTo strVs
  rw [show zs.length - k = zs.length - (k + 1) + 1 from by omega, List.replicate_succ, List.map_append, List.map_cons, List.set_append_right _ _ (by simp; omega), List.length_map, List.length_map, List.length_take,
    Nat.min_eq_left (by omega), Nat.sub_self, List.set_cons_zero, List.take_succ_eq_append_getElem h, List.map_append, List.map_append, List.map_append]
  simp [List.getD, h]
theorem made_strs (n : Nat) : (madeCells (Value.string ByteArray.empty).cells (n * 1)).toList = strVs (List.replicate n ByteArray.empty) := by
  unfold madeCells strVs
  rw [List.map_replicate, Nat.mul_one]
  apply List.ext_getElem?
  intro j
  by_cases h : j < n
  · simp [h, Value.cells, Nat.mod_one]
  · simp [h]
theorem row_below {w w' : World} {B : Nat} {e : TypeId} {v : Value} {n : Nat} {xs : List Value} (hb : Below w.heap.size w w') (h : w.ownsRow B e 1 v n xs) : w'.ownsRow B e 1 v n xs :=
  h.kept (row := none) ⟨hb.os, hb.tape, hb.output, hb.size, fun k hk _ => hb.block k hk⟩ (by cases hv : v.ownBlock <;> simp)
theorem fits_parts {zs : List Int} (h : fitsV zs = true) : allIn (-1000000000000) 1000000000000 zs = true ∧ zs.length ≤ 64 := by
  unfold fitsV at h
  rwa [Bool.and_eq_true, decide_eq_true_eq] at h
theorem in_get {zs : List Int} (h : allIn (-1000000000000) 1000000000000 zs = true) (j : Nat) (hj : j < zs.length) : -1000000000000 ≤ zs.getD j 0 ∧ zs.getD j 0 ≤ 1000000000000 := by
  unfold allIn at h
  rw [List.all_eq_true] at h
  have := h zs[j] (List.getElem_mem hj)
  rw [List.getD_eq_getElem?_getD, List.getElem?_eq_getElem hj]
  exact inB_iff.1 this
theorem joinTo_len (zs : List Int) (h : ∀ j, j < zs.length → -9223372036854775808 ≤ zs.getD j 0 ∧ zs.getD j 0 ≤ 9223372036854775807) : ∀ k, k ≤ zs.length → (joinTo zs k).length ≤ 22 * k
  | 0, _ => by simp [joinTo, Lib.join_nil]
  | k + 1, hk => by
    have ih := joinTo_len zs h k (by omega)
    have hb := h k (by omega)
    have hl := Lib.itoa_length_le _ hb.1 hb.2
    by_cases h0 : k = 0
    · subst h0
      rw [joinTo_first zs (by omega)]
      omega
    · rw [joinTo_next zs k (by omega) (by omega), List.length_append, List.length_cons]
      omega
theorem join_parts (zs : List Int) : Lib.join ((zs.map decText).map (·.data.toList)) [44] = joinTo zs zs.length := by
  unfold joinTo
  rw [List.take_length, List.map_map]
  congr 1
theorem join_n (bk c : Nat) (xs : List ByteArray) (w : World) (n : Nat) (hn : xs.length = n) (hcells : ∀ (j : Nat) x, xs[j]? = some x → w.cell? ⟨bk, 0 + j, none⟩ = some (.string x)) (hbk : bk < w.heap.size) (hN : n ≤ 140737488355328) (hcap : n ≤ c)
    (hlen : (Lib.join (xs.map (·.data.toList)) [44]).length ≤ 140737488355328) :
    Calls Tryd.prog 18 #[.slice (some ⟨bk, 0, none⟩) n c, .string ⟨#[44]⟩] w fun e w' => e = .returned (.string ⟨(Lib.join (xs.map (·.data.toList)) [44]).toArray⟩) ∧ Below w.heap.size w w' := by
  subst hn
  exact Tryd.strings_Join bk 0 c xs ⟨#[44]⟩ w hcells hbk hN hcap hlen

set_option maxHeartbeats 1000000 in
set_option maxRecDepth 100000 in
theorem implListTextO_any (zs : List Int) (g off cap : Nat) (w : World) (n : Nat) (hn : Hid (zs.length = n)) (hn1 : n ≤ 1048576) (hb : g < w.heap.size) (hc : ∀ j, j < n → w.cell? ⟨g, off + j, none⟩ = some (.int .i64 (zs.getD j 0))) (hp : Hid (PowOk w)) :
    Calls Tryd.prog 17 #[.slice (some ⟨g, off, none⟩) n cap] w fun e w' => e = .returned (.string (listV zs)) ∧ Below w.heap.size w w' := by
  obtain ⟨i0, hi, hz0, hz1, hz2⟩ := info_parts infoStr
  have HC := Lib.hid hc
  clear hc
  by_cases h64 : n ≤ 64
  · by_cases ha : allIn (-1000000000000) 1000000000000 zs = true
    · have hf : fitsV zs = true := by unfold fitsV; rw [ha, Bool.true_and, decide_eq_true_eq, hn.out]; exact h64
      have HIN := Lib.hid (fun j (hj : j < n) => in_get ha j (by rw [hn.out]; exact hj))
      by_cases hn0 : 0 < n
      · have HV := Lib.hid (show listV zs = ⟨(joinTo zs n).toArray⟩ by unfold listV; rw [if_pos hf, if_neg (by rw [hn.out]; omega), hn.out])
        have hne : ((n : Int) == 0) = false := beq_eq_false_iff_ne.2 (by omega)
        clear hf
        go_enter Tryd.func17, Tryd.ntmps17
        go_wp2_with fail
        refine (within_i64 _ _ zs g off n cap _ hn.out (by omega) HC.out).mono ?_
        rintro e w' ⟨rfl, rfl⟩
        go_wp2_with (at_make; refine wpList_make_full _ rfl _ _ 44 rfl w.heap.size 9 i0 (.string ByteArray.empty) 1 Tryd.underlying44 hi hz0 hz1 .i64 .i64 _ _ n rfl rfl rfl rfl (by rw [hz2]; omega) (by unfold maxLen; omega) (Nat.le_refl _) ?_; intro w0 hown hgrow)
        have HB0 := Lib.hid ((Below.refl w.heap.size w).grown hgrow (Nat.le_refl _) (fun k hk => by cases hk))
        rw [made_strs] at hown
        have HO0 := Lib.hid (show w0.ownsRow w.heap.size 9 1 (.slice (some ⟨w.heap.size, 0, none⟩) n n) n (strVs (partsTo zs 0)) by
          unfold partsTo; rw [hn.out, Nat.sub_zero, List.take_zero, List.map_nil, List.nil_append]; exact hown)
        clear hgrow hown ha
        go_wp2
        go_loopw [22] (fun i wr => ∃ k : Nat, k ≤ n ∧ i = .int .i64 k ∧ wr.ownsRow w.heap.size 9 1 (.slice (some ⟨w.heap.size, 0, none⟩) n n) n (strVs (partsTo zs k)) ∧ Below w.heap.size w wr) (fun i _ => n - (intOf i).toNat)
        case atStart => exact ⟨0, by omega, rfl, HO0.out, HB0.out⟩
        case round =>
          obtain ⟨k, hk, rfl, hown, hbw⟩ := hrel
          have HB := Lib.hid hbw
          have HO := Lib.hid hown
          by_cases hlt : k < n
          · have hcell : wr.cell? ⟨g, off + k, none⟩ = some (.int .i64 (zs.getD k 0)) := by
              rw [hbw.cell (p := ⟨g, off + k, none⟩) hb]; exact HC.out k hlt
            have HP := Lib.hid (pow_kept hbw hp.out)
            have hz := HIN.out k hlt
            have HN := Lib.hid (parts_next zs k (by rw [hn.out]; exact hlt))
            have HG := Lib.hid (parts_get zs k k (by rw [hn.out]; exact hk) (by rw [hn.out]; exact hlt))
            have hsz := hbw.size
            clear hown hbw
            generalize zs.getD k 0 = z at *
            go_wp2_with fail
            refine (implDecimal_any z _ (by omega) (by omega) HP).mono ?_
            rintro e w2 ⟨rfl, hb2⟩
            have HO2 := Lib.hid (row_below hb2 HO.out)
            have HB2 := Lib.hid (below_of HB.out hb2 HB.out.size)
            clear hb2
            have hf2 := HO2.out.frozenAt k
            have hat : w2.cell? ⟨w.heap.size, k, none⟩ = (strVs (partsTo zs k))[k]? := HO2.out.cellAt k (by omega)
            rw [HG.out] at hat
            have HS := Lib.hid (HO2.out.stored k (.string (decText z)))
            generalize (partsTo zs k).getD k ByteArray.empty = old at *
            go_wp2
            go_roundw
            case rel => exact ⟨k + 1, by omega, by go_num, by rw [← HN.out]; exact HS.out.1, HB2.out.setCell (by exact Nat.le_refl _) _⟩
            case measure => simp [intOf]; omega
          · obtain rfl : k = n := by omega
            clear hown hbw
            have hpt : partsTo zs k = zs.map decText := by unfold partsTo; rw [hn.out, Nat.sub_self, List.take_of_length_le (by rw [hn.out]; exact Nat.le_refl _)]; simp
            rw [hpt] at HO
            have hxl : (zs.map decText).length = k := by rw [List.length_map]; exact hn.out
            have HCE := Lib.hid (show ∀ (j : Nat) x, (zs.map decText)[j]? = some x → wr.cell? ⟨w.heap.size, 0 + j, none⟩ = some (.string x) from fun j x hx => by
              have hj : j < (zs.map decText).length := (List.getElem?_eq_some_iff.1 hx).1
              rw [Nat.zero_add, HO.out.cellAt j (by omega)]
              unfold strVs
              rw [List.getElem?_map, hx]
              rfl)
            have HJ := Lib.hid (join_parts zs)
            have HL := Lib.hid (joinTo_len zs (fun j hj => by have := HIN.out j (by rw [← hn.out]; exact hj); omega) zs.length (Nat.le_refl _))
            have HXL := Lib.hid hxl
            clear hxl hpt
            go_wp2_with fail
            refine (join_n w.heap.size k (zs.map decText) _ k HXL.out HCE.out (HO.out.lt _ rfl).2 (by omega) (Nat.le_refl _) (by rw [HJ.out]; have := HL.out; rw [hn.out] at this; rw [hn.out]; omega)).mono ?_
            rintro e w3 ⟨rfl, hb3⟩
            have HB3 := Lib.hid (below_of HB.out hb3 HB.out.size)
            clear hb3
            rw [HJ.out, hn.out]
            go_wp2
            go_ret
            exact ⟨ret_string HV.out.symm, HB3.out⟩
      · obtain rfl : n = 0 := by omega
        have HV := Lib.hid (show listV zs = ⟨#[45]⟩ by unfold listV; rw [if_pos hf, if_pos hn.out])
        clear hf
        go_enter Tryd.func17, Tryd.ntmps17
        go_wp2_with fail
        refine (within_i64 _ _ zs g off 0 cap _ hn.out (by omega) HC.out).mono ?_
        rintro e w' ⟨rfl, rfl⟩
        go_wp2
        go_ret
        exact ⟨ret_string HV.out.symm, Below.refl _ _⟩
    · have ha' : allIn (-1000000000000) 1000000000000 zs = false := by simpa using ha
      have HV := Lib.hid (show listV zs = ByteArray.empty by unfold listV; rw [if_neg]; intro h; exact ha (fits_parts h).1)
      clear ha
      go_enter Tryd.func17, Tryd.ntmps17
      go_wp2_with fail
      refine (within_i64 _ _ zs g off n cap _ hn.out (by omega) HC.out).mono ?_
      rintro e w' ⟨rfl, rfl⟩
      go_wp2
      go_ret
      exact ⟨ret_string HV.out.symm, Below.refl _ _⟩
  · have HV := Lib.hid (show listV zs = ByteArray.empty by unfold listV; rw [if_neg]; intro h; have := (fits_parts h).2; rw [hn.out] at this; exact h64 this)
    go_enter Tryd.func17, Tryd.ntmps17
    go_wp2
    go_ret
    exact ⟨ret_string HV.out.symm, Below.refl _ _⟩
theorem implListText_any (zs : List Int) (g cap : Nat) (w : World) (n : Nat) (hn : Hid (zs.length = n)) (hn1 : n ≤ 1048576) (hb : g < w.heap.size) (hc : ∀ j, j < n → w.cell? ⟨g, 0 + j, none⟩ = some (.int .i64 (zs.getD j 0))) (hp : Hid (PowOk w)) :
    Calls Tryd.prog 17 #[.slice (some ⟨g, 0, none⟩) n cap] w fun e w' => e = .returned (.string (listV zs)) ∧ Below w.heap.size w w' :=
  implListTextO_any zs g 0 cap w n hn hn1 hb hc hp
end Go.Proofs.YtblkbjeongmgdaaDoor
