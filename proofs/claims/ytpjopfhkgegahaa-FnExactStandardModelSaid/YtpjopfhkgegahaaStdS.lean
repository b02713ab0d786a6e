/- StandardModel: the reference model's. -/
import Derived.Test.YtpjopfhkgegahaaStdW
set_option linter.unusedVariables false
namespace Go.Proofs.Ytpjopfhkgegahaa
open Go.ChangeShapes Go.WideShapes Go.ChangeAt Go.RowKit

theorem results_cellM {P : Program} {fn : Func} {p r : Tmp} {ty : TypeId} (h : fn.results = #[.cell p ty, .tmp r]) (tmps : Array Value) (w : World) :
    (results fn tmps).run P w = ((asAddr (tmps.getD p undef)).run P w).andThen fun a w1 => ((loadVar ty a).run P w1).andThen fun v w2 => .ok (.tuple #[v, tmps.getD r undef]) w2 := by
  simp only [results, h]
  simp [Sem.run_bind, Result.andThen]
/-- Block g holds no model yet, and may be written. -/
def BlankS (w : World) (g : Nat) : Prop := (w.cell? ⟨g, 0, none⟩ = some (.slice none 0 0) ∧ w.cell? ⟨g, 1, none⟩ = some (.slice none 0 0) ∧ w.cell? ⟨g, 2, none⟩ = some (.slice none 0 0)) ∧ w.frozen? ⟨g, 0, none⟩ = false ∧ w.frozen? ⟨g, 1, none⟩ = false ∧ w.frozen? ⟨g, 2, none⟩ = false
theorem blankS_kept {w w' : World} {g : Nat} (hb : Below w.heap.size w w') (hg : g < w.heap.size) (h : BlankS w g) : BlankS w' g :=
  ⟨⟨(below_cell hb _ _ hg).trans h.1.1, (below_cell hb _ _ hg).trans h.1.2.1, (below_cell hb _ _ hg).trans h.1.2.2⟩, (below_frozen hb _ _ hg).trans h.2.1, (below_frozen hb _ _ hg).trans h.2.2.1, (below_frozen hb _ _ hg).trans h.2.2.2⟩
theorem blankS_alloc (w : World) (T : TypeId) : BlankS (w.alloc (.cells #[.slice none 0 0, .slice none 0 0, .slice none 0 0] T)) w.heap.size := ⟨⟨by go_simp, by go_simp, by go_simp⟩, by go_simp, by go_simp, by go_simp⟩
theorem ownRow_one {w : World} {B : Nat} {v : Value} {zs : List Int} (h : OwnInts w B v zs) : RowsOwn w B [v] [zs] :=
  ⟨rfl, fun j hj => by obtain rfl : j = 0 := (by simpa using hj); exact h, fun i j h1 h2 => by simp at h2; omega⟩
theorem std_start5 (w1 : World) (B : Nat) (y0 : Value) (zs : List Int) (ho : OwnInts w1 B y0 zs) (hB : B ≤ w1.heap.size) :
    StdSt ((w1.alloc (.cells #[.int .i64 1000, .int .i64 1000, .int .i64 1000, .int .i64 1000, .int .i64 1000] 2)).alloc (.cells #[y0, .slice none 0 0, .slice (some ⟨w1.heap.size, 0, none⟩) 5 5] 25)) B (w1.heap.size + 1) 5 y0 (.slice none 0 0) (.slice (some ⟨w1.heap.size, 0, none⟩) 5 5) [] zs [] := by
  have hb1 := below_al w1 (.cells #[.int .i64 1000, .int .i64 1000, .int .i64 1000, .int .i64 1000, .int .i64 1000] 2)
  have hb2 := below_al (w1.alloc (.cells #[.int .i64 1000, .int .i64 1000, .int .i64 1000, .int .i64 1000, .int .i64 1000] 2)) (.cells #[y0, .slice none 0 0, .slice (some ⟨w1.heap.size, 0, none⟩) 5 5] 25)
  have hsz : (w1.alloc (.cells #[.int .i64 1000, .int .i64 1000, .int .i64 1000, .int .i64 1000, .int .i64 1000] 2)).heap.size = w1.heap.size + 1 := by simp
  obtain ⟨g, e, h1, h2⟩ := ownInts_block ho
  refine ⟨⟨rfl, .inl ⟨rfl, rfl⟩⟩, row_keep1 hb2 (row_baseQ (row_boxQ w1 _ 2 5 _ rfl rfl (by unfold maxLen; omega)) hB), ownRow_one (own_kept hb2 (own_kept hb1 ho)), fun j hj => ?_, by simp [Value.ownBlock], by simp [Value.ownBlock], fun j hj => ?_, ?_, ?_, ?_, fun j => ?_, by simp, by omega⟩
  · obtain rfl : j = 0 := (by simpa using hj)
    show some w1.heap.size ≠ y0.ownBlock
    rw [e]; intro e2; have := Option.some.inj e2; omega
  · obtain rfl : j = 0 := (by simpa using hj)
    show y0.ownBlock ≠ some (w1.heap.size + 1)
    rw [e]; intro e2; have := Option.some.inj e2; omega
  · go_simp
  · go_simp
  · go_simp
  · go_simp
theorem std_start0 (w1 : World) (B : Nat) (y0 : Value) (zs : List Int) (ho : OwnInts w1 B y0 zs) (hB : B ≤ w1.heap.size) :
    StdSt (w1.alloc (.cells #[y0, .slice none 0 0, .slice none 0 0] 25)) B w1.heap.size 0 y0 (.slice none 0 0) (.slice none 0 0) [] zs [] := by
  have hb1 := below_al w1 (.cells #[y0, .slice none 0 0, .slice none 0 0] 25)
  obtain ⟨g, e, h1, h2⟩ := ownInts_block ho
  refine ⟨⟨rfl, .inl ⟨rfl, rfl⟩⟩, ⟨rfl, .inl ⟨rfl, rfl⟩⟩, ownRow_one (own_kept hb1 ho), fun j hj => ?_, by simp [Value.ownBlock], by simp [Value.ownBlock], fun j hj => ?_, ?_, ?_, ?_, fun j => ?_, by simp, by omega⟩
  · obtain rfl : j = 0 := (by simpa using hj)
    show none ≠ y0.ownBlock
    rw [e]; simp
  · obtain rfl : j = 0 := (by simpa using hj)
    show y0.ownBlock ≠ some w1.heap.size
    rw [e]; intro e2; have := Option.some.inj e2; omega
  · go_simp
  · go_simp
  · go_simp
  · go_simp
theorem row_formQ {w : World} {B sz n : Nat} {e : TypeId} {y : Value} {us : List Value} (h : w.ownsRow B e sz y n us) : ∃ a c, y = .slice a n c := by
  rcases h.2 with ⟨e, rfl⟩ | ⟨g, cap, cur, e, _⟩
  · exact ⟨_, _, e⟩
  · exact ⟨_, _, e⟩
def maxS (a b : Int) : Int := if b < a then a else b
theorem l00MaxS (a b : Int) (w : World) : Calls Try.prog 48 #[.int .i64 a, .int .i64 b] w fun e w' => e = .returned (.int .i64 (maxS a b)) ∧ w = w' := by
  by_cases h : b < a
  · have HF := Lib.hid (show maxS a b = a by unfold maxS; rw [if_pos h])
    go_enter Try.func48, Try.ntmps48
    go_wp2
    go_ret
    exact ⟨ret_i64 HF.out.symm, rfl⟩
  · have HF := Lib.hid (show maxS a b = b by unfold maxS; rw [if_neg h])
    go_enter Try.func48, Try.ntmps48
    go_wp2
    go_ret
    exact ⟨ret_i64 HF.out.symm, rfl⟩
theorem own_of_row {w : World} {B n : Nat} {u : Value} {zs : List Int} (h : w.ownsRow B 2 1 u n (i64s zs)) (hn : zs.length = n) (hu : u ≠ .slice none 0 0) : OwnInts w B u zs := by
  rcases h.2 with ⟨e, _⟩ | ⟨g, cap, cur, e, hb, hgg, _⟩
  · exact absurd e hu
  · exact ⟨g, cap, by rw [hn]; exact e, hb, (Array.getElem?_eq_some_iff.1 hgg).1, by rw [hn]; exact h⟩
set_option maxHeartbeats 4000000 in
set_option maxRecDepth 100000 in
theorem l08Standard_any (zs : List Int) (v : Value) (w : World) (h : IntsAt w v zs) (h1 : 1 ≤ zs.length) (h8 : zs.length ≤ 8) :
    Calls Try.prog 21 #[v] w fun e w' => ∃ y0 y1 y2, e = .returned (.agg #[y0, y1, y2]) ∧ ModOwn w' w.heap.size w'.heap.size y0 y1 y2 zs (stWs zs.length 5) (thou 5) ∧ Below w.heap.size w w' := by
  obtain ⟨i0, hi, hz0, hz1, hz2⟩ := info_parts infoI64
  obtain ⟨j0, hj, hy0, hy1, hy2⟩ := info_parts infoSlQ
  have hba := below_al w (.cells #[.slice none 0 0, .slice none 0 0, .slice none 0 0] 25)
  have hbl := blankS_alloc w 25
  have hsa : (w.alloc (.cells #[.slice none 0 0, .slice none 0 0, .slice none 0 0] 25)).heap.size = w.heap.size + 1 := by simp
  have HOW := Lib.hid (l00Own_any zs v _ (ints_kept hba h) h1 h8)
  obtain ⟨a, c, rfl⟩ := ints_form h
  obtain ⟨n, hn⟩ : ∃ n, zs.length = n := ⟨_, rfl⟩
  rw [hn] at HOW h1 h8 ⊢
  obtain ⟨B, hB⟩ : ∃ B, w.heap.size + 1 = B := ⟨_, rfl⟩
  rw [hB] at hsa
  have HBA := Lib.hid hba
  have HBL := Lib.hid hbl
  have HSA := Lib.hid hsa
  clear hba hbl h hsa
  go_enter Try.func21, Try.ntmps21
  go_wp2_with fail
  generalize w.alloc (.cells #[.slice none 0 0, .slice none 0 0, .slice none 0 0] 25) = wA at *
  refine HOW.out.mono ?_
  rintro e w1 ⟨y0, rfl, ho, hb⟩
  rw [HSA.out] at ho
  obtain ⟨g0, k0, e0, -⟩ := id ho
  rw [hn] at e0
  subst e0
  have hBs : B ≤ w1.heap.size := by rw [← HSA.out]; exact hb.size
  have HST := Lib.hid (std_start5 w1 B (.slice (some ⟨g0, 0, none⟩) n k0) zs ho hBs)
  have HB3 := Lib.hid (below_of (below_of hb (below_al w1 (.cells #[.int .i64 1000, .int .i64 1000, .int .i64 1000, .int .i64 1000, .int .i64 1000] 2)) hb.size) (below_al (w1.alloc (.cells #[.int .i64 1000, .int .i64 1000, .int .i64 1000, .int .i64 1000, .int .i64 1000] 2)) (.cells #[(.slice (some ⟨g0, 0, none⟩) n k0), .slice none 0 0, .slice (some ⟨w1.heap.size, 0, none⟩) 5 5] 25)) (by simp; have := hb.size; omega))
  clear ho hb
  go_wp2
  generalize hw3 : ((w1.alloc (.cells #[.int .i64 1000, .int .i64 1000, .int .i64 1000, .int .i64 1000, .int .i64 1000] 2)).alloc (.cells #[(.slice (some ⟨g0, 0, none⟩) n k0), .slice none 0 0, .slice (some ⟨w1.heap.size, 0, none⟩) 5 5] 25)) = w3 at *
  clear hw3
  go_loopw [5] (fun i wr => ∃ (k : Nat) (y1 : Value) (us : List Value), k ≤ 5 ∧ i = .int .i64 k ∧ Hid (StdSt wr B (w1.heap.size + 1) 5 (.slice (some ⟨g0, 0, none⟩) n k0) y1 (.slice (some ⟨w1.heap.size, 0, none⟩) 5 5) us zs (stWs n k)) ∧ Hid (Below wA.heap.size wA wr)) (fun i _ => 5 - (intOf i).toNat)
  case atStart => exact ⟨0, _, [], by omega, rfl, HST.out, HB3.out⟩
  case round =>
    obtain ⟨k, y1, us, hk, rfl, HS, HB⟩ := hrel
    generalize hwk : wr = wk at *
    clear hwk
    obtain ⟨A1, C1, rfl⟩ := row_formQ HS.out.row1
    rw [stWs_len] at HS
    by_cases hlt : k < 5
    · have hpb := stProd n k hlt h8 h1
      have HW := Lib.hid (fun z : Int => show stW n k z = 1000 - nq (900 * aptV (4 * z) ((k : Int) * ((n : Int) - 1))) (4 * ((n : Int) - 1)) from rfl)
      have HNX := Lib.hid (fun z (hz : z < n) => stRow_next n k z hz)
      obtain ⟨P, hP⟩ : ∃ P, (k : Int) * ((n : Int) - 1) = P := ⟨_, rfl⟩
      rw [hP] at hpb HW
      have wn : IntKind.i64.wrap ((n : Int) - 1) = (n : Int) - 1 := IntWalk.i64_in _ (by omega)
      have wp : IntKind.i64.wrap P = P := IntWalk.i64_in _ (by omega)
      have hk5 : (k : Int) < 5 := by omega
      have HR0 := Lib.hid (row_boxQ wk #[] 2 0 [] rfl rfl (by unfold maxLen; omega))
      have HB0 := Lib.hid (below_al wk (.cells #[] 2))
      go_wp2
      go_loopw [6, 7] (fun u i wr => ∃ (z : Nat) (A : Option Addr) (C : Nat), z ≤ n ∧ i = .int .i64 z ∧ u = .slice A z C ∧ Hid (wr.ownsRow wk.heap.size 2 1 (.slice A z C) z (i64s ((stRow n k).take z))) ∧ Hid (Value.slice A z C ≠ .slice none 0 0) ∧ Hid (Below wk.heap.size wk wr)) (fun _ i _ => n - (intOf i).toNat)
      case atStart => exact ⟨0, _, _, by omega, rfl, rfl, HR0, Lib.hid (by simp), HB0⟩
      case round =>
        obtain ⟨z, A, C, hz, rfl, rfl, HR, HU, HBR⟩ := hrel
        generalize hwo : wr = wo at *
        clear hwo
        by_cases hzn : z < n
        · have hzn2 : (z : Int) < (n : Int) := by omega
          have HX := Lib.hid (HNX.out z hzn)
          have hWz := HW.out z
          generalize stW n k z = x at *
          have HRA := Lib.hid (row_keep1 (below_al wo (.cells #[.int .i64 x] 2)) HR.out)
          have HBo := Lib.hid (below_of HBR.out (below_al wo (.cells #[.int .i64 x] 2)) HBR.out.size)
          have hle : wk.heap.size ≤ (wo.alloc (.cells #[.int .i64 x] 2)).heap.size := by have := HBR.out.size; simp; omega
          by_cases hn1 : 1 < n
          · have hab := apt_bd (4 * (z : Int)) P
            have hal := apt_le (f := 4 * (z : Int)) (g := P) (M := 28) (by omega) (by omega) (by omega) (by omega)
            have hmx : maxS (4 * (z : Int) - P) (-(4 * (z : Int) - P)) = aptV (4 * (z : Int)) P := by unfold maxS aptV; split <;> split <;> omega
            generalize aptV (4 * (z : Int)) P = A at *
            have hqb := nqS_bd (900 * A) (4 * ((n : Int) - 1)) (by omega) (by omega) (by omega)
            have HNQ := Lib.hid (fun W => specDiv_any (900 * A) (4 * ((n : Int) - 1)) W (by omega) (by omega) (by omega))
            generalize nq (900 * A) (4 * ((n : Int) - 1)) = Q at *
            have w4 : IntKind.i64.wrap (4 * (z : Int)) = 4 * (z : Int) := IntWalk.i64_in _ (by omega)
            have wd : IntKind.i64.wrap (4 * (z : Int) - P) = 4 * (z : Int) - P := IntWalk.i64_in _ (by omega)
            have wnd : IntKind.i64.wrap (-(4 * (z : Int) - P)) = -(4 * (z : Int) - P) := IntWalk.i64_in _ (by omega)
            have w9 : IntKind.i64.wrap (900 * A) = 900 * A := IntWalk.i64_in _ (by omega)
            have w5 : IntKind.i64.wrap (4 * ((n : Int) - 1)) = 4 * ((n : Int) - 1) := IntWalk.i64_in _ (by omega)
            have wq : IntKind.i64.wrap (1000 - Q) = x := by rw [hWz]; exact IntWalk.i64_in _ (by omega)
            have hn2 : (1 : Int) < (n : Int) := by omega
            have HMX := Lib.hid (fun W => l00MaxS (4 * (z : Int) - P) (-(4 * (z : Int) - P)) W)
            rw [hmx] at HMX
            clear hpb hab hal hmx hWz hqb
            go_wp2_with fail
            refine (HMX.out _).mono ?_
            rintro e w2 ⟨rfl, rfl⟩
            go_wp2_with fail
            refine (HNQ.out _).mono ?_
            rintro e w2 ⟨rfl, rfl⟩
            go_wp2_with (at_builtin; refine wpList_append_own_at _ rfl _ _ 22 rfl wk.heap.size 2 i0 _ 1 8 Try.underlying22 hi hz0 hz1 hz2 rfl (by omega) _ z (i64s ((stRow n k).take z)) rfl HRA.out ⟨wo.heap.size, 0, none⟩ 1 1 [.int .i64 x] rfl rfl (cell_one_new _ _ _) (by intro u hu; simp at hu; subst hu; rfl) (by unfold maxLen; omega) (by omega) hle ?_; intro u5 w5 hown hgrow hnil hat)
            rw [← HX.out] at hown
            obtain ⟨A5, C5, rfl⟩ := row_formQ hown
            have HR5 := Lib.hid hown
            have HU5 := Lib.hid (show Value.slice A5 _ C5 ≠ .slice none 0 0 from fun e => by have := (hnil.1 e).2; omega)
            have HB5 := Lib.hid (HBo.out.grown hgrow HBo.out.size (fun j hj => (HRA.out.lt j hj).1))
            clear hown hgrow hnil hat
            go_wp2
            go_roundw
            case rel => exact ⟨z + 1, A5, C5, by omega, by go_num, rfl, HR5, HU5, HB5⟩
            case measure => simp [intOf]; omega
          · have hn2 : ¬ (1 : Int) < (n : Int) := by omega
            have hx : x = 1000 := by
              rw [hWz, show (4 * ((n : Int) - 1)) = 0 from by omega]
              simp [nq]
            subst hx
            clear hpb hWz
            go_wp2_with (at_builtin; refine wpList_append_own_at _ rfl _ _ 22 rfl wk.heap.size 2 i0 _ 1 8 Try.underlying22 hi hz0 hz1 hz2 rfl (by omega) _ z (i64s ((stRow n k).take z)) rfl HRA.out ⟨wo.heap.size, 0, none⟩ 1 1 [.int .i64 1000] rfl rfl (cell_one_new _ _ _) (by intro u hu; simp at hu; subst hu; rfl) (by unfold maxLen; omega) (by omega) hle ?_; intro u5 w5 hown hgrow hnil hat)
            rw [← HX.out] at hown
            obtain ⟨A5, C5, rfl⟩ := row_formQ hown
            have HR5 := Lib.hid hown
            have HU5 := Lib.hid (show Value.slice A5 _ C5 ≠ .slice none 0 0 from fun e => by have := (hnil.1 e).2; omega)
            have HB5 := Lib.hid (HBo.out.grown hgrow HBo.out.size (fun j hj => (HRA.out.lt j hj).1))
            clear hown hgrow hnil hat
            go_wp2
            go_roundw
            case rel => exact ⟨z + 1, A5, C5, by omega, by go_num, rfl, HR5, HU5, HB5⟩
            case measure => simp [intOf]; omega
        · obtain rfl : z = n := by omega
          have hou1 : (Value.slice A z C).oneCell' = true := rfl
          have hrow := HR.out
          rw [List.take_of_length_le (by rw [stRow_len]; exact Nat.le_refl _)] at hrow
          have hou := own_of_row hrow (stRow_len z k) HU.out
          have hs3 := std_kept HBR.out HS.out
          have hbA := below_al wo (.cells #[(Value.slice A z C)] 22)
          have hs4 := std_kept hbA hs3
          have hou4 := own_kept hbA hou
          obtain ⟨gu, eu, hu1, hu2⟩ := ownInts_block hou
          have HC := Lib.hid hs3.c1
          have HRA := Lib.hid hs4.row1
          rw [stWs_len] at HRA
          have HBx := Lib.hid (below_of HB.out HBR.out HB.out.size)
          have hbk : wA.heap.size ≤ wk.heap.size := HB.out.size
          have HBy := Lib.hid (below_of HBx.out hbA HBx.out.size)
          have hle : B ≤ (wo.alloc (.cells #[(Value.slice A z C)] 22)).heap.size := by have := HBR.out.size; rw [← HSA.out]; simp; omega
          have hbx := hs3.c1
          have HS4 := Lib.hid hs4
          have hBk := HSA.out
          have HPUSH := Lib.hid (fun (y1' : Value) (w5 : World) hown hgrow hat => std_row1 (w5 := w5) (y1' := y1') (u := Value.slice A z C) (z := stRow z k) hs4 (ownInts_base hou4 (by omega)) (fun j hj => by
              obtain ⟨g, e, -, hl⟩ := ownInts_block (HS.out.own.each j (by simpa using hj))
              rw [e, eu]; intro e2; have := Option.some.inj e2; omega)
            (by rw [eu]; intro e2; have := (HS.out.row2.lt gu e2).2; omega) (by rw [eu]; intro e2; have := Option.some.inj e2; have := HS.out.lt; omega) hown hgrow hat)
          rw [stWs_len, ← stWs_next] at HPUSH
          have HBX1 := Lib.hid (fun (w5 : World) (hgrow : (wo.alloc (.cells #[(Value.slice A z C)] 22)).grownBy w5 (Value.slice A1 k C1).ownBlock) => (show w5.cell? ⟨w1.heap.size + 1, 1, none⟩ = some (.slice A1 k C1) ∧ w5.frozen? ⟨w1.heap.size + 1, 1, none⟩ = false from ⟨(gb_blkQ hgrow hs4.lt (Ne.symm hs4.far1)).trans hs4.c1, (gb_frzQ hgrow hs4.lt (Ne.symm hs4.far1)).trans (hs4.fz 1)⟩))
          have HBG := Lib.hid (fun (w5 : World) (hgrow : (wo.alloc (.cells #[(Value.slice A z C)] 22)).grownBy w5 (Value.slice A1 k C1).ownBlock) => HBy.out.grown hgrow HBy.out.size (fun j hj => by have := (hs4.row1.lt j hj).1; omega))
          clear hrow hou hs3 hs4 hou4 hbA
          go_wp2_with (at_builtin; refine wpList_append_own_at _ rfl _ _ 23 rfl B 22 j0 _ 1 24 Try.underlying23 hj hy0 hy1 hy2 rfl (by omega) (.slice A1 k C1) k us rfl HRA.out ⟨wo.heap.size, 0, none⟩ 1 1 [(Value.slice A z C)] rfl rfl (cell_one_new _ _ _) (by intro u hu; simp at hu; subst hu; exact hou1) (by unfold maxLen; omega) (by omega) hle ?_; intro y5 w5 hown hgrow hnil hat; obtain ⟨A5, C5, rfl⟩ := row_formQ hown; have HS5 := Lib.hid (HPUSH.out _ w5 hown hgrow hat); have HB5 := Lib.hid (HBG.out w5 hgrow); obtain ⟨hc5, hf5⟩ := HBX1.out w5 hgrow; clear hown hgrow hnil hat)
          have hbx9 : wA.heap.size ≤ w1.heap.size + 1 := by omega
          go_wp2
          go_roundw
          case rel => exact ⟨k + 1, _, us ++ [(Value.slice A z C)], by omega, by go_num, HS5, Lib.hid (HB5.out.setCell hbx9 _)⟩
          case measure => simp [intOf]; omega
    · obtain rfl : k = 5 := by omega
      have HM := Lib.hid (fun (w5 : World) hg => std_end (w5 := w5) (r := w.heap.size) (B' := w.heap.size) HS.out (by omega) (by rw [stWs_len]; omega) (by omega) (by omega) hg)
      obtain ⟨⟨r0, r1, r2⟩, f0, f1, f2⟩ := blankS_kept HB.out (by rw [HSA.out]; omega) HBL.out
      obtain ⟨c0, c1, c2⟩ : wk.cell? ⟨w1.heap.size + 1, 0, none⟩ = some (.slice (some ⟨g0, 0, none⟩) n k0) ∧ wk.cell? ⟨w1.heap.size + 1, 1, none⟩ = some (.slice A1 5 C1) ∧ wk.cell? ⟨w1.heap.size + 1, 2, none⟩ = some (.slice (some ⟨w1.heap.size, 0, none⟩) 5 5) := ⟨HS.out.c0, HS.out.c1, HS.out.c2⟩
      have HBF := Lib.hid (below_of HBA.out HB.out HBA.out.size)
      clear HS
      go_wp2
      try simp only [Exit.inBlock, Exit.then]
      refine bodyPost_ret_by (v := .agg #[(.slice (some ⟨g0, 0, none⟩) n k0), (.slice A1 5 C1), .slice (some ⟨w1.heap.size, 0, none⟩) 5 5]) (by rw [results_cellR rfl]; go_simp) rfl ?_
      exact ⟨_, _, _, rfl, HM.out _ ((gb_setQ _ _ _ _).trans ((gb_setQ _ _ _ _).trans (gb_setQ _ _ _ _))), ((HBF.out.setCell (by exact Nat.le_refl _) _).setCell (by exact Nat.le_refl _) _).setCell (by exact Nat.le_refl _) _⟩
end Go.Proofs.Ytpjopfhkgegahaa
