/- Cuts: the program's validity. -/
import Derived.Test.YtjdnjlakafcglaaCutsV
import Derived.Test.YtjdnjlakafcglaaG2
set_option linter.unusedVariables false
namespace Go.Proofs.Ytjdnjlakafcglaa
open Go.ChangeShapes Go.WideShapes Go.ChangeAt Go.RowKit

set_option maxRecDepth 20000 in
set_option maxHeartbeats 1000000 in
theorem cutValid_any (x y : Int) (w : World) : Calls Try.prog 73 #[.agg #[.int .i64 x, .int .i64 y]] w fun e w' => e = .returned (.bool (cutB (x, y))) ∧ Below w.heap.size w w' := by
  rcases Bool.eq_false_or_eq_true (inB x 0 7) with h1 | h1
  · have H1 := Lib.hid (show allIn 0 7 [x] = true by simp [allIn, h1])
    have HR := Lib.hid (show cutB (x, y) = allIn 1 20 [y] by unfold cutB; rw [h1]; simp [allIn])
    clear h1
    go_enter Try.func73, Try.ntmps73
    go_wp2_with fail
    refine (within_i64 _ _ [x] _ 0 1 1 _ rfl (by omega) (cell_int _ _ _ _ (by simp))).mono ?_
    rintro e w2 ⟨rfl, rfl⟩
    rw [H1.out]
    go_wp2_with fail
    refine (within_i64 _ _ [y] _ 0 1 1 _ rfl (by omega) (cell_int _ _ _ _ (by simp))).mono ?_
    rintro e w2 ⟨rfl, rfl⟩
    generalize allIn 1 20 [y] = r at *
    go_wp2
    go_ret
    exact ⟨ret_bool HR.out.symm, ((below_al _ _).alloc (by simp) _).alloc (by simp <;> omega) _⟩
  · have H1 := Lib.hid (show allIn 0 7 [x] = false by simp [allIn, h1])
    have HR := Lib.hid (show cutB (x, y) = false by unfold cutB; rw [h1]; rfl)
    clear h1
    go_enter Try.func73, Try.ntmps73
    go_wp2_with fail
    refine (within_i64 _ _ [x] _ 0 1 1 _ rfl (by omega) (cell_int _ _ _ _ (by simp))).mono ?_
    rintro e w2 ⟨rfl, rfl⟩
    rw [H1.out]
    go_wp2
    go_ret
    exact ⟨ret_bool HR.out.symm, (below_al _ _).alloc (by simp) _⟩
theorem notValid_any (x y : Int) (w : World) : Calls Try.prog 72 #[.agg #[.int .i64 x, .int .i64 y]] w fun e w' => e = .returned (.bool (!cutB (x, y))) ∧ Below w.heap.size w w' := by
  have HC := Lib.hid (cutValid_any x y (w.alloc (.cells #[.int .i64 x, .int .i64 y] 95)))
  generalize cutB (x, y) = r at *
  go_enter Try.func72, Try.ntmps72
  go_wp2_with fail
  refine HC.out.mono ?_
  rintro e w1 ⟨rfl, hb⟩
  have HB := Lib.hid (below_of (below_al _ _) hb (by simp))
  clear hb
  go_wp2
  go_ret
  exact ⟨rfl, HB.out⟩

set_option maxRecDepth 20000 in
set_option maxHeartbeats 2000000 in
theorem indexF_vc (p : Ct → Bool) (cs : List Ct) (b off cap n : Nat) (w : World) (hn : Hid (cs.length = n)) (hn1 : n ≤ 1048576) (hb : b < w.heap.size) (hc : ∀ i, i < n → CIn w b (off + i * 2) (cs.getD i zC))
    (hp : ∀ (x y : Int) (W : World), Below w.heap.size w W → Calls Try.prog 72 #[.agg #[.int .i64 x, .int .i64 y]] W fun e W' => e = .returned (.bool (p (x, y))) ∧ Below W.heap.size W W') :
    Calls Try.prog 114 #[.slice (some ⟨b, off, none⟩) n cap, .func (.func 72) #[] #[]] w (IdxPost (cs.any p) w) := by
  have HC := Lib.hid (fun W (hW : Below w.heap.size w W) i (hi : i < n) => cuts_keep hW hb (hc i hi))
  have HP := Lib.hid hp
  clear hc hp
  go_enter Try.func114, Try.ntmps114
  go_wp2
  go_loopw [8] (fun i wr => ∃ k : Nat, k ≤ n ∧ i = .int .i64 k ∧ Hid (∀ j, j < k → p (cs.getD j zC) = false) ∧ Below w.heap.size w wr) (fun i _ => n - (intOf i).toNat)
  case atStart => exact ⟨0, by omega, rfl, Lib.hid (fun j hj => by omega), Below.refl _ _⟩
  case round =>
    obtain ⟨k, hk, rfl, HA, hbw⟩ := hrel
    have HB := Lib.hid hbw
    by_cases hlt : k < n
    · obtain ⟨⟨x, y⟩, hxy⟩ : ∃ r, cs.getD k zC = r := ⟨_, rfl⟩
      have hr := HC.out wr hbw k hlt
      rw [hxy] at hr
      have d0 : wr.cell? ⟨b, off + k * 2, none⟩ = some (.int .i64 x) := hr.c0
      have d1 : wr.cell? ⟨b, off + k * 2 + 1, none⟩ = some (.int .i64 y) := hr.c1
      have HXY := Lib.hid hxy
      have hlt1 : (k : Int) < (n : Int) := by omega
      have hk0 : (0 : Int) ≤ (k : Int) := by omega
      clear hr hxy hbw
      have HPX := Lib.hid (HP.out x y)
      rcases Bool.eq_false_or_eq_true (p (x, y)) with h1 | h1
      · have HT := Lib.hid (show cs.any p = true by
          rw [List.any_eq_true]
          have hkl : k < cs.length := by rw [hn.out]; exact hlt
          refine ⟨cs.getD k zC, by rw [List.getD_eq_getElem?_getD, List.getElem?_eq_getElem hkl]; exact List.getElem_mem hkl, by rw [HXY.out, h1]⟩)
        rw [h1] at HPX
        clear h1
        go_wp2_with fail
        refine (HPX.out _ HB.out).mono ?_
        rintro e w2 ⟨rfl, hb2⟩
        have HB2 := Lib.hid (below_of HB.out hb2 HB.out.size)
        clear hb2
        go_wp2
        go_ret
        exact ⟨_, rfl, ⟨fun _ => by omega, (fun h => by rw [HT.out] at h; cases h)⟩, HB2.out⟩
      · have HT := Lib.hid (show ∀ j, j < k + 1 → p (cs.getD j zC) = false from fun j hj => by
          by_cases e : j = k
          · subst e; rw [HXY.out, h1]
          · exact HA.out j (by omega))
        rw [h1] at HPX
        clear h1
        go_wp2_with fail
        refine (HPX.out _ HB.out).mono ?_
        rintro e w2 ⟨rfl, hb2⟩
        have HB2 := Lib.hid (below_of HB.out hb2 HB.out.size)
        clear hb2
        go_wp2
        go_roundw
        case rel => exact ⟨k + 1, by omega, by go_num, HT, HB2.out⟩
        case measure => simp [intOf]; omega
    · obtain rfl : k = n := by omega
      have HT := Lib.hid (show cs.any p = false by
        rw [List.any_eq_false]
        intro q hq
        obtain ⟨i, hi, rfl⟩ := List.mem_iff_getElem.1 hq
        have := HA.out i (by rw [hn.out] at hi; exact hi)
        rw [List.getD_eq_getElem?_getD, List.getElem?_eq_getElem hi] at this
        simp only [Option.getD_some] at this
        rw [this]; simp)
      clear hbw
      go_wp2
      go_ret
      exact ⟨_, rfl, ⟨(fun h => by rw [HT.out] at h; cases h), fun _ => rfl⟩, HB.out⟩
theorem indexF0_vc (a : Option Addr) (c : Nat) (w : World) :
    Calls Try.prog 114 #[.slice a 0 c, .func (.func 72) #[] #[]] w fun e w' => e = .returned (.int .i64 (-1)) ∧ w = w' := by
  go_enter Try.func114, Try.ntmps114
  go_wp2
  refine wp_loop_rounds 1 ?_
  rw [rounds_succ]
  go_wp2
  go_ret
  exact ⟨rfl, rfl⟩
set_option maxHeartbeats 1000000 in
theorem containsF_vc (p : Ct → Bool) (cs : List Ct) (v : Value) (w : World) (h : CutsAt w v cs)
    (hp : ∀ (x y : Int) (W : World), Below w.heap.size w W → Calls Try.prog 72 #[.agg #[.int .i64 x, .int .i64 y]] W fun e W' => e = .returned (.bool (p (x, y))) ∧ Below W.heap.size W W') :
    Calls Try.prog 71 #[v, .func (.func 72) #[] #[]] w fun e w' => e = .returned (.bool (cs.any p)) ∧ Below w.heap.size w w' := by
  by_cases h0 : cs.length = 0
  · obtain rfl : cs = [] := List.length_eq_zero_iff.1 h0
    obtain ⟨a, c, rfl⟩ := cuts_form h
    clear h hp h0
    go_enter Try.func71, Try.ntmps71
    go_wp2_with fail
    refine (indexF0_vc a c _).mono ?_
    rintro e w1 ⟨rfl, rfl⟩
    go_wp2
    go_ret
    exact ⟨rfl, Below.refl _ _⟩
  · have hl := h.1
    obtain ⟨b, off, cap, rfl, hb, hc⟩ := cuts_cells h (by omega)
    have HI := Lib.hid (indexF_vc p cs b off cap _ w (Lib.hid rfl) hl hb hc hp)
    clear h hp h0 hc hl
    generalize cs.length = n at *
    go_enter Try.func71, Try.ntmps71
    go_wp2_with fail
    refine HI.out.mono ?_
    rintro e w1 ⟨i, rfl, ⟨h1, h2⟩, hb1⟩
    have HB := Lib.hid hb1
    rcases Bool.eq_false_or_eq_true (cs.any p) with h3 | h3
    · have hi := h1 h3
      have H3 := Lib.hid h3
      clear h1 h2 h3 hb1
      go_wp2
      go_ret
      exact ⟨ret_bool H3.out.symm, HB.out⟩
    · have hi := h2 h3
      have H3 := Lib.hid h3
      subst hi
      clear h1 h2 h3 hb1
      go_wp2
      go_ret
      exact ⟨ret_bool H3.out.symm, HB.out⟩

theorem any_not (cs : List Ct) : cs.any (fun c => !cutB c) = !allC cs := by
  unfold allC
  induction cs with
  | nil => rfl
  | cons c cs ih => simp [ih, Bool.not_and]
set_option maxHeartbeats 1000000 in
theorem implVC_any (cs : List Ct) (v : Value) (w : World) (h : CutsAt w v cs) :
    Calls Try.prog 27 #[v] w fun e w' => e = .returned (.bool (cutsB cs)) ∧ Below w.heap.size w w' := by
  have HI := Lib.hid (containsF_vc (fun c => !cutB c) cs v w h (fun x y W _ => notValid_any x y W))
  have HA := Lib.hid (any_not cs)
  obtain ⟨a, c, rfl⟩ := cuts_form h
  clear h
  by_cases hl : cs.length ≤ 64
  · have HR := Lib.hid (show cutsB cs = allC cs by unfold cutsB; rw [decide_eq_true hl]; rfl)
    rw [HA.out] at HI
    generalize allC cs = r at *
    generalize cs.length = n at *
    have hl1 : (n : Int) ≤ 64 := by omega
    clear hl
    go_enter Try.func27, Try.ntmps27
    go_wp2_with fail
    refine HI.out.mono ?_
    rintro e w1 ⟨rfl, hb⟩
    have HB := Lib.hid hb
    clear hb
    go_wp2
    go_ret
    exact ⟨ret_bool (by first | exact HR.out.symm | (rw [HR.out]; simp)), HB.out⟩
  · have HR := Lib.hid (show cutsB cs = false by unfold cutsB; rw [decide_eq_false hl]; rfl)
    generalize cs.length = n at *
    have hl1 : ¬ (n : Int) ≤ 64 := by omega
    clear hl HI
    go_enter Try.func27, Try.ntmps27
    go_wp2
    go_ret
    exact ⟨ret_bool HR.out.symm, Below.refl _ _⟩
end Go.Proofs.Ytjdnjlakafcglaa
