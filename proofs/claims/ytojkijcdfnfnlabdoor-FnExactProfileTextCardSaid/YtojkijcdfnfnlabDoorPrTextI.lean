/- A profile's text: the program's walk. -/
import Derived.Test.YtojkijcdfnfnlabDoorPrTextS
import Derived.Test.YtojkijcdfnfnlabDoorProfVal
import Derived.Test.YtojkijcdfnfnlabDoorShelfC
import Derived.Lib.Join
import Derived.Laws.AppendOwn
import Derived.OwnWalk
set_option linter.unusedVariables false
namespace Go.Proofs.YtojkijcdfnfnlabDoor
open Go.ChangeShapes Go.WideShapes Go.ChangeAt Go.RowKit

theorem infoStrP : (Tryd.prog.info? 9).map (fun i => (i.zero, i.size, i.bytes)) = some (some (.string ByteArray.empty), 1, 16) := by kernel_rfl
def strVp (ss : List ByteArray) : List Value := ss.map Value.string
theorem strVp_snoc (l : List ByteArray) (b : ByteArray) : strVp (l ++ [b]) = strVp l ++ [.string b] := by simp [strVp]
theorem strVp_get (ss : List ByteArray) (j : Nat) (x : ByteArray) (h : ss[j]? = some x) : (strVp ss)[j]? = some (.string x) := by simp [strVp, h]
theorem cell_oneP (w : World) (x : Value) (T : TypeId) : ∀ (j : Nat) (u : Value), ([x] : List Value)[j]? = some u → (w.alloc (.cells #[x] T)).cell? ((⟨w.heap.size, 0, none⟩ : Addr).add j) = some u := by
  intro j u hj
  match j, hj with
  | 0, hj => simp at hj; subst hj; simp [Addr.add]
  | j + 1, hj => simp at hj
/-- The parts of the text, k rings of it. -/
def parts (s : ByteArray) (rs : List Rg) (k : Nat) : List ByteArray := s :: (rs.take k).map rgU
theorem parts_len (s : ByteArray) (rs : List Rg) (k : Nat) (h : k ≤ rs.length) : (parts s rs k).length = k + 1 := by simp [parts]; omega
theorem parts_next (s : ByteArray) (rs : List Rg) (k : Nat) (h : k < rs.length) : parts s rs (k + 1) = parts s rs k ++ [rgU (rs.getD k zR)] := by
  unfold parts
  rw [List.take_succ_eq_append_getElem h, List.map_append, List.map_cons, List.map_nil, List.cons_append]
  simp [List.getD, h]
theorem join_snocP (xs : List (List UInt8)) (y : List UInt8) (h : xs ≠ []) : Lib.join (xs ++ [y]) [32] = Lib.join xs [32] ++ 32 :: y := by
  cases xs with
  | nil => exact absurd rfl h
  | cons x r => rw [List.cons_append, Lib.join_cons, Lib.join_cons]; simp [Lib.joinTail]
theorem app_list (a b : ByteArray) : (a ++ b).data.toList = a.data.toList ++ b.data.toList := by simp
theorem rg_list (r : Rg) : (rgT r).data.toList = 32 :: (rgU r).data.toList := by
  unfold rgT rgU
  simp only [app_list, List.append_assoc]
  rfl
theorem parts_join (s : ByteArray) (rs : List Rg) : ∀ k, k ≤ rs.length → Lib.join ((parts s rs k).map (·.data.toList)) [32] = (prTo s rs k).data.toList
  | 0, _ => by simp [parts, prTo, Lib.join_one]
  | k + 1, h => by
    rw [parts_next s rs k (by omega), List.map_append, List.map_cons, List.map_nil, join_snocP _ _ (by simp [parts]), parts_join s rs k (by omega)]
    rw [show prTo s rs (k + 1) = prTo s rs k ++ rgT (rs.getD k zR) from rfl, app_list, rg_list]
theorem sizeP (s : ByteArray) : s.data.toList.length = s.size := by simp
theorem own_form {w : World} {B n : Nat} {v : Value} {xs : List Value} (h0 : 1 ≤ n) (h : w.ownsRow B 9 1 v n xs) : ∃ g cap, v = .slice (some ⟨g, 0, none⟩) n cap ∧ g < w.heap.size ∧ n ≤ cap := by
  have hk := h
  obtain ⟨_, h3⟩ := h
  rcases h3 with ⟨_, h4⟩ | ⟨g, cap, cur, rfl, hb, hh, hn', hc⟩
  · omega
  · exact ⟨g, cap, rfl, (hk.lt g rfl).2, by omega⟩
set_option maxRecDepth 100000 in
set_option maxHeartbeats 4000000 in
theorem implPrText_some (s : ByteArray) (b off c n : Nat) (rs : List Rg) (w : World) (hn : rs.length = n) (hI : RingsAt w (.slice (some ⟨b, off, none⟩) n c) rs) (hbl : b < w.heap.size) (hc : ∀ i, i < n → RingIn w b (off + i * 3) (rs.getD i zR)) (hs : s.size ≤ maxLen) (hv : profB s rs = true) (hp : Hid (PowOk w)) :
    Calls Tryd.prog 8 #[.agg #[.string s, .slice (some ⟨b, off, none⟩) n c]] w fun e w' => e = .returned (.string (prTo s rs n)) ∧ Below w.heap.size w w' := by
  obtain ⟨i0, hi, hz0, hz1, hz2⟩ := info_parts infoStrP
  obtain ⟨hnm, ⟨n1, n2⟩, -, -⟩ := prof_iff.1 hv
  have hs10 := name_size hnm
  rw [hn] at n1 n2
  have HI := Lib.hid hI
  have HC := Lib.hid hc
  have HV := Lib.hid hv
  have HR := Lib.hid (show ∀ i, i < n → ringB (rs.getD i zR) = true from fun i hi => prof_ring hv i (by omega))
  have HSZ := Lib.hid (show (prTo s rs n).size ≤ s.size + 66 * n from prTo_size s rs (fun j hj => prof_ring hv j hj) n (by omega))
  have HPN := Lib.hid (show ∀ k, k < n → parts s rs (k + 1) = parts s rs k ++ [rgU (rs.getD k zR)] from fun k hk => parts_next s rs k (by omega))
  have HPL := Lib.hid (show ∀ k, k ≤ n → (parts s rs k).length = k + 1 from fun k hk => parts_len s rs k (by omega))
  have HPJ := Lib.hid (show Lib.join ((parts s rs n).map (·.data.toList)) [32] = (prTo s rs n).data.toList from parts_join s rs n (by omega))
  clear hI hc hv hnm hn
  go_enter Tryd.func8, Tryd.ntmps8
  have p0 : (w.alloc (.cells #[.string s, .slice (some ⟨b, off, none⟩) n c] 29)).cell? ⟨w.heap.size, 0, none⟩ = some (.string s) := by go_simp
  have p1 : (w.alloc (.cells #[.string s, .slice (some ⟨b, off, none⟩) n c] 29)).cell? ⟨w.heap.size, 1, none⟩ = some (.slice (some ⟨b, off, none⟩) n c) := by go_simp
  have hal := alloc_lt2 w (.cells #[.string s, .slice (some ⟨b, off, none⟩) n c] 29)
  have HBA := Lib.hid (below_al w (.cells #[.string s, .slice (some ⟨b, off, none⟩) n c] 29))
  go_wp2_with fail
  generalize w.alloc (.cells #[.string s, .slice (some ⟨b, off, none⟩) n c] 29) = wA at *
  refine (implValidP_any s _ rs _ (rings_kept HBA.out HI.out) hs).mono ?_
  rintro e w1 ⟨rfl, hb⟩
  rw [HV.out]
  have q0 := (below_cell hb _ _ hal).trans p0
  have q1 := (below_cell hb _ _ hal).trans p1
  have hl1 := Nat.lt_of_lt_of_le hal hb.size
  have HB1 := Lib.hid (below_of HBA.out hb HBA.out.size)
  have hbl1 : b < w1.heap.size := Nat.lt_of_lt_of_le hbl HB1.out.size
  have HR0 := Lib.hid (show (w1.alloc (.cells #[.string s] 9)).ownsRow w1.heap.size 9 1 (.slice (some ⟨w1.heap.size, 0, none⟩) 1 1) 1 (strVp (parts s rs 0)) from
    World.ownsRow_lit w1 (strVp (parts s rs 0)).toArray 1 (Nat.le_refl _) (by decide) rfl)
  have HP1 := Lib.hid (pow_kept HB1.out hp.out)
  have HC1 := Lib.hid (show ∀ i, i < n → RingIn w1 b (off + i * 3) (rs.getD i zR) from fun i hi => by
    obtain ⟨d0, d1, d2⟩ := HC.out i hi
    exact ⟨(HB1.out.cell (p := ⟨b, off + i * 3, none⟩) hbl).trans d0, (HB1.out.cell (p := ⟨b, off + i * 3 + 1, none⟩) hbl).trans d1, (HB1.out.cell (p := ⟨b, off + i * 3 + 2, none⟩) hbl).trans d2⟩)
  clear hb p0 p1 hp
  go_wp2
  go_loopw [3, 15] (fun v i wr => ∃ k : Nat, k ≤ n ∧ i = .int .i64 k ∧ wr.ownsRow w1.heap.size 9 1 v (k + 1) (strVp (parts s rs k)) ∧ Below w1.heap.size w1 wr) (fun _ i _ => n - (intOf i).toNat)
  case atStart => exact ⟨0, by omega, rfl, HR0.out, below_al _ _⟩
  case round =>
    obtain ⟨k, hk, rfl, hown, hbw⟩ := hrel
    have HO := Lib.hid hown
    by_cases hlt : k < n
    · obtain ⟨d0, d1, d2⟩ := HC1.out k hlt
      have r0 := (below_cell hbw _ _ hbl1).trans d0
      have r1 := (below_cell hbw _ _ hbl1).trans d1
      have r2 := (below_cell hbw _ _ hbl1).trans d2
      have hrb := HR.out k hlt
      have HN := Lib.hid (HPN.out k hlt)
      have HPL1 := HPL.out k hk
      have hk1 : (k : Int) < (n : Int) := by omega
      have hk0 : (0 : Int) ≤ (k : Int) := by omega
      have hszw := hbw.size
      clear d0 d1 d2 hown
      obtain ⟨x, y, z, hxyz⟩ : ∃ x y z, rs.getD k zR = (x, y, z) := ⟨_, _, _, rfl⟩
      rw [hxyz] at r0 r1 r2 hrb HN
      have HRB := Lib.hid hrb
      simp only at r0 r1 r2
      clear hxyz hrb
      have hba := below_al wr (.cells #[.int .i64 x, .int .i64 y, .int .i64 z] 45)
      have HBW := Lib.hid (below_of hbw hba hbw.size)
      have HOA := Lib.hid (row_keepR hba HO.out)
      have HPA := Lib.hid (pow_kept HBW.out HP1.out)
      clear hba hbw
      go_wp2_with fail
      refine (ringText_any x y z _ HRB.out HPA).mono ?_
      rintro e w3 ⟨rfl, hb⟩
      have HO3 := Lib.hid (row_keepR hb HOA.out)
      have HB3 := Lib.hid (below_of HBW.out hb HBW.out.size)
      have hs3 := HB3.out.size
      clear hb
      generalize rgU (x, y, z) = tt at *
      go_wp2_with (at_builtin; refine wpList_append_own _ rfl _ _ 43 rfl w1.heap.size 9 i0 (.string ByteArray.empty) 1 16 Tryd.underlying43 hi hz0 hz1 hz2 rfl (by decide) _ _ _ rfl (HO3.out.alloc _) ⟨_, 0, none⟩ 1 1 [.string tt] rfl rfl (cell_oneP _ _ _) ?c2 ?c3 ?c4 ?c5 ?_)
      case c2 => first | rfl | (intro u hu; simp at hu; subst hu; rfl)
      case c3 => unfold maxLen; omega
      case c4 => omega
      case c5 => first | omega | (simp; omega)
      intro v2 w4 hown2 hgrow2 _
      have HO4 := Lib.hid (show w4.ownsRow w1.heap.size 9 1 v2 (k + 1 + 1) (strVp (parts s rs (k + 1))) by rw [HN.out, strVp_snoc]; exact hown2)
      have HB4 := Lib.hid ((HB3.out.alloc (by omega) _).grown hgrow2 (by simp; omega) (fun k hk => (HO3.out.lt k hk).1))
      clear hown2 hgrow2
      go_wp2
      go_roundw
      case rel => exact ⟨k + 1, by omega, by go_num, HO4.out, HB4.out⟩
      case measure => simp [intOf]; omega
    · obtain rfl : k = n := by omega
      obtain ⟨g, cap, rfl, hgl, hcap⟩ := own_form (by omega) hown
      have HF := Lib.hid (below_of HB1.out hbw HB1.out.size)
      have hLn := HPL.out k (Nat.le_refl _)
      have hszT := HSZ.out
      clear hown hbw
      go_wp2_with fail
      have HJ := Lib.hid (fun (hlen : _) => Tryd.strings_Join g 0 cap (parts s rs k) ⟨#[32]⟩ wr (fun j x hj => by
        have hj5 : j < k + 1 := by have := (List.getElem?_eq_some_iff.1 hj).1; omega
        rw [Nat.zero_add, HO.out.cellAt j (by omega)]; exact strVp_get _ j x hj) hgl (by omega) (by omega) hlen)
      rw [hLn] at HJ
      refine (HJ.out ?_).mono ?_
      · rw [show (⟨#[32]⟩ : ByteArray).data.toList = [32] from rfl, HPJ.out, sizeP]; omega
      · rintro en w4 ⟨rfl, hb⟩
        have HB4 := Lib.hid (below_of HF.out hb HF.out.size)
        have HE := Lib.hid (show (⟨(Lib.join ((parts s rs k).map (·.data.toList)) (⟨#[32]⟩ : ByteArray).data.toList).toArray⟩ : ByteArray) = prTo s rs k by
          rw [show (⟨#[32]⟩ : ByteArray).data.toList = [32] from rfl, HPJ.out])
        rw [HE.out]
        clear hb
        go_wp2
        go_ret
        exact ⟨rfl, HB4.out⟩
set_option maxRecDepth 20000 in
theorem implPrText_any (s : ByteArray) (v : Value) (rs : List Rg) (w : World) (h : RingsAt w v rs) (hs : s.size ≤ maxLen) (hp : Hid (PowOk w)) :
    Calls Tryd.prog 8 #[.agg #[.string s, v]] w fun e w' => e = .returned (.string (prV s rs)) ∧ Below w.heap.size w w' := by
  rcases Bool.eq_false_or_eq_true (profB s rs) with h0 | h0
  · rw [show prV s rs = prTo s rs rs.length by unfold prV; rw [if_pos h0]]
    obtain ⟨-, ⟨n1, n2⟩, -, -⟩ := prof_iff.1 h0
    have hI := h
    obtain ⟨hl, ⟨a', c', hv, h1⟩ | ⟨b, off, cap, rfl, hbl, hc⟩⟩ := h
    · rw [h1] at n1; simp at n1
    · exact implPrText_some s b off cap rs.length rs w rfl hI hbl (fun i hi => ring_in hc i hi) hs h0 hp
  · have HV := Lib.hid (show prV s rs = ByteArray.empty by unfold prV; rw [h0]; rfl)
    have HI := Lib.hid h
    obtain ⟨a, c, rfl⟩ := rings_form h
    generalize hn : rs.length = n at *
    clear h hn hp
    go_enter Tryd.func8, Tryd.ntmps8
    go_wp2_with fail
    refine (implValidP_any s _ rs _ (rings_kept (below_al _ _) HI.out) hs).mono ?_
    rintro e w1 ⟨rfl, hb⟩
    rw [h0]
    have HB := Lib.hid (below_of (below_al _ _) hb (by simp))
    clear hb
    go_wp2
    go_ret
    exact ⟨ret_strP HV.out.symm, HB.out⟩
end Go.Proofs.YtojkijcdfnfnlabDoor
