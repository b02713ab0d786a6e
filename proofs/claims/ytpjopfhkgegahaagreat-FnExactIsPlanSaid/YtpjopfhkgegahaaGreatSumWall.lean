/- Sums over rings: the program's sumOf with the wall of a ring. -/
import Derived.Test.YtpjopfhkgegahaaGreatVals
set_option linter.unusedVariables false
namespace Go.Proofs.YtpjopfhkgegahaaGreat
open Go.ChangeShapes Go.WideShapes Go.ChangeAt Go.RowKit Go.Shelf
attribute [local go_sem] Oper.semAt_some encPr

theorem below_drwV (w : World) : Below w.heap.size w w.drew := ⟨rfl, rfl, rfl, Nat.le_refl _, fun _ _ => rfl⟩
def sumV (f : Pr → Int) : List Pr → Int
  | [] => 0
  | x :: xs => f x + sumV f xs
theorem sumV_append (f : Pr → Int) (xs ys : List Pr) : sumV f (xs ++ ys) = sumV f xs + sumV f ys := by
  induction xs with
  | nil => simp [sumV]
  | cons x xs ih => simp only [List.cons_append, sumV, ih, Int.add_assoc]
theorem sumV_snoc (f : Pr → Int) (xs : List Pr) (x : Pr) : sumV f (xs ++ [x]) = sumV f xs + f x := by rw [sumV_append]; simp [sumV]
theorem sumV_bd (f : Pr → Int) (M : Int) (hf : ∀ x, 0 ≤ f x ∧ f x ≤ M) (xs : List Pr) : 0 ≤ sumV f xs ∧ sumV f xs ≤ M * xs.length := by
  induction xs with
  | nil => simp [sumV]
  | cons x xs ih =>
    have := hf x
    have e : M * (((x :: xs).length : Nat) : Int) = M * xs.length + M := by rw [List.length_cons, Int.natCast_add, Int.mul_add]; simp
    simp only [sumV]; omega
theorem wall_any (x y z : Int) (hv : ringB (x, y, z) = true) (w : World) : Calls Tryz.prog 127 #[.agg #[.int .i64 x, .int .i64 y, .int .i64 z]] w fun e w' => e = .returned (.int .i64 (x - y)) ∧ Below w.heap.size w w' := by
  have h := ring_iff.1 hv
  simp only at h
  have hw : IntKind.i64.wrap (x - y) = x - y := IntWalk.i64_in _ (by omega)
  clear h hv
  go_enter Tryz.func127, Tryz.ntmps127
  go_wp2
  go_ret
  exact ⟨rfl, (Below.refl _ _).alloc (Nat.le_refl _) _⟩
set_option maxRecDepth 100000 in
set_option maxHeartbeats 2000000 in
theorem sum_wall (f : Pr → Int) (M : Int) (hM : 0 ≤ M ∧ M ≤ 200000000000000000) (hf : ∀ x, 0 ≤ f x ∧ f x ≤ M) (Bs b off len cap : Nat) (rs : List Rg) (u : Nat → Pr) (hu : ∀ j, j < len → (u j).1 = rs.getD j zR) (h32 : len ≤ 32) (w : World)
    (hC : ∀ (x : Pr) (W : World), Below w.heap.size w W → Calls Tryz.prog 127 #[.agg #[.int .i64 x.1.1, .int .i64 x.1.2.1, .int .i64 x.1.2.2]] W fun e W' => e = .returned (.int .i64 (f x)) ∧ Below W.heap.size W W')
    (hBs : Bs < w.heap.size) (hb : b < w.heap.size) (hB1 : w.cell? ⟨Bs, 0, none⟩ = some (.slice (some ⟨b, off, none⟩) len cap)) (hc : ∀ i, i < len → RingIn w b (off + i * 3) (rs.getD i zR)) :
    Calls Tryz.prog 125 #[.func (.func 136) #[] #[.pointer (some ⟨Bs, 0, none⟩)], .func (.func 127) #[] #[]] w fun e W' => e = .returned (.int .i64 (sumV f (uptoV u len))) ∧ Below w.heap.size w W' := by
  refine (callsIn_wide (n := 4)).1 ?_
  refine callsIn_of_wp_marks Tryz.func125 rfl trivial ?_ rfl
  simp only [Tryz.ntmps125, List.size_toArray, List.length_cons, List.length_nil, Nat.reduceAdd, Nat.reduceSub, Array.replicate_succ, Array.replicate_zero, List.push_toArray, List.append_toArray, List.nil_append, List.cons_append]
  gi_wp2
  have hs := cellNewV w (.func (.func 127) #[] #[]) 181
  have hb1 := cellNewV (w.alloc (.cells #[.func (.func 127) #[] #[]] 181)) (.int .i64 0) 2
  rw [World.size_alloc] at hb1
  have hB : Below w.heap.size w ((w.alloc (.cells #[.func (.func 127) #[] #[]] 181)).alloc (.cells #[.int .i64 0] 2)) := ((Below.refl _ w).alloc (Nat.le_refl _) _).alloc (by simp) _
  have d1 := (below_cell hB Bs 0 hBs).trans hB1
  have hsz : ((w.alloc (.cells #[.func (.func 127) #[] #[]] 181)).alloc (.cells #[.int .i64 0] 2)).heap.size = w.heap.size + 2 := by simp
  have hN := cellAlV (.cells #[.int .i64 0] 2) hs.1
  obtain ⟨W0, hW0⟩ : ∃ W0, (w.alloc (.cells #[.func (.func 127) #[] #[]] 181)).alloc (.cells #[.int .i64 0] 2) = W0 := ⟨_, rfl⟩
  rw [hW0] at d1 hb1 hB hsz hN ⊢
  clear hW0 hs
  refine wpIn_rangeFunc_ownH rfl (by omega) (gf := 136) (lb := #[.pointer (some ⟨Bs, 0, none⟩)]) rfl trivial (enters_of Tryz.func136 (by kernel_rfl) rfl)
    (vals_stops Fence.wide 3 trivial rfl (by omega) Bs b off len cap (fun k => k = w.heap.size + 1) rs u hu h32 (by show b ≠ w.heap.size + 1; omega) W0 (by omega) (by omega) (by intro k hk; omega) d1 (fun i hi => by
      obtain ⟨c0, c1, c2⟩ := hc i hi
      exact ⟨(below_cell hB _ _ hb).trans c0, (below_cell hB _ _ hb).trans c1, (below_cell hB _ _ hb).trans c2⟩)) (fun h k => kc_trans h k) (fun W l o o' _ hl ho _ => kc_put W l o o' hl ho) (Below.refl _ _) (fun _ => rfl)
    (fun pre W => (W.cell? ⟨w.heap.size, 0, none⟩ = some (.func (.func 127) #[] #[]) ∧ W.cell? ⟨w.heap.size + 1, 0, none⟩ = some (.int .i64 (sumV f pre)) ∧ W.frozen? ⟨w.heap.size + 1, 0, none⟩ = false) ∧ Below w.heap.size w W)
    (fun _ _ _ => False)
    (OwnFrom.and (Own.from (fun s A B row hs hg hr => ⟨cell_kept hs.1 hg hr, cell_kept hs.2.1 hg hr, (frozen_kept hs.2.1 hg hr).trans hs.2.2⟩) _) (ownFrom_below (Nat.le_refl _) (by omega)))
    (fun _ _ _ _ _ hs _ _ => hs)
    ⟨⟨hN, hb1.1, hb1.2⟩, hB⟩
    (fun x a' W => ∃ Bx, w.heap.size + 1 < Bx ∧ Bx < W.heap.size ∧ (W.cell? ⟨Bx, 0, none⟩ = some (.int .i64 x.1.1) ∧ W.cell? ⟨Bx, 1, none⟩ = some (.int .i64 x.1.2.1) ∧ W.cell? ⟨Bx, 2, none⟩ = some (.int .i64 x.1.2.2)) ∧ a' = { tmps := #[.func (.func 136) #[] #[.pointer (some ⟨Bs, 0, none⟩)], .func (.func 127) #[] #[], undef, .pointer (some ⟨w.heap.size, 0, none⟩), .int .i64 0, .pointer (some ⟨w.heap.size + 1, 0, none⟩), .pointer (some ⟨Bx, 0, none⟩), .func (.func 136) #[] #[.pointer (some ⟨Bs, 0, none⟩)], .agg #[.int .i64 x.1.1, .int .i64 x.1.2.1, .int .i64 x.1.2.2], undef, undef, undef, undef, undef, undef], defers := [] })
    (fun x a' => by
      rintro s A B row ⟨Bx, h1, h2, ⟨h3, h4, h5⟩, h7⟩ hg hr
      have hr' : ∀ r, row = some r → ∃ o : Obj, A.heap[r]? = some o ∧ o.isCells = false := fun r e => (hr r e).2
      exact ⟨Bx, h1, Nat.lt_of_lt_of_le h2 hg.size, ⟨cell_kept h3 hg hr', cell_kept h4 hg hr', cell_kept h5 hg hr'⟩, h7⟩) ?assign ?body ?done ?stop
  case assign =>
    rintro l pre ⟨⟨x0, x1, x2⟩, hx⟩ W K ⟨⟨hn, hc, hfz⟩, hB⟩ hK
    gi_wp2
    refine hK _ (W.alloc (.cells #[.int .i64 x0, .int .i64 x1, .int .i64 x2] 113)) ((KeepsOthers.alloc _ _).from _) (kc_below (below_al _ _)) ⟨⟨cellAlV _ hn, cellAlV _ hc, frozenAlV _ hc hfz⟩, hB.alloc hB.size _⟩ ⟨W.heap.size, ?_, alloc_lt2 _ _, ⟨by go_simp, by go_simp, by go_simp⟩, rfl⟩
    have := cell_lt5 hc
    exact this
  case body =>
    rintro l pre x a' W hl ⟨r, hr⟩ ⟨⟨hn, hc, hfz⟩, hB⟩ ⟨Bx, hBx, hBl, ⟨x0, x1, x2⟩, rfl⟩ hlt
    have hmx : Tryz.prog.follows .mixedOrders = true := by kernel_rfl
    have hsum := sumV_bd f M hf pre
    have hpl : M * (pre.length : Int) ≤ M * 32 := Int.mul_le_mul_of_nonneg_left (by omega) hM.1
    have hfx := hf x
    have hw : IntKind.i64.wrap (sumV f pre + f x) = sumV f pre + f x := IntWalk.i64_in _ (by omega)
    have HS := Lib.hid (sumV_snoc f pre x)
    have hcl := cell_lt5 hc
    have HC := Lib.hid (hC x)
    have HB := Lib.hid hB
    have HCL := Lib.hid hcl
    have HNL := Lib.hid (cell_lt5 hn)
    clear hsum hpl hfx hB
    gi_wp2
    gi_region_with_o (refine ⟨trivial, ?_⟩; gi_at_call 127; refine (CallsIn.inRound l (callsIn_wide.2 (HC.out _ (by first | exact HB.out | exact below_dr6V HB.out)))).mono ?_; rintro e w' ⟨rfl, hb'⟩; have hc' := (below_cell hb' _ 0 (by exact HCL.out)).trans hc; have hf' := (below_frozen hb' _ 0 (by exact HCL.out)).trans hfz)
    all_goals gi_wp2
    all_goals (try go_bits)
    all_goals
      have hbw := below_of (below_drwV W) hb' (Nat.le_refl _)
      have hn' := (below_cell hbw w.heap.size 0 HNL.out).trans hn
      exact ⟨((keeps_belowV hbw).trans (KeepsOthers.setCell _ _ _)).from _, kc_trans (kc_below hbw) (kc_set _ _ _ _ rfl), ⟨(World.cell?_of_block (Below.heap_setCell _ _ _ _ (show w.heap.size ≠ w.heap.size + 1 by omega))).trans hn', by rw [HS.out]; exact World.cell?_setCell_same' _ _ _ (by rw [hc']; rfl), by rw [World.frozen?_setCell]; exact hf'⟩, (below_of HB.out hbw HB.out.size).setCell (p := ⟨w.heap.size + 1, 0, none⟩) (by simp) _⟩
  case done =>
    rintro D ys W hD rfl ⟨⟨_, hc, _⟩, hB⟩ hK
    gi_wp2
    refine ⟨by simp, .inl ⟨_, _, rfl, run_takeDeferred hK, ?_⟩⟩
    exact ⟨_, results_tmp rfl _ _ _, rfl, hB.trans (belowK_b (w := w) (Nat.le_refl _) W D _ _ (by omega) hK rfl rfl)⟩
  case stop =>
    rintro D c pre W _ _ h _
    exact h.elim
end Go.Proofs.YtpjopfhkgegahaaGreat
