/- Models by value: an argument opened; measured, copied, compared. -/
import Derived.Test.YtpjopfhkgegahaaGreatModMath
import Derived.Test.YtpjopfhkgegahaaGreatRowsLaw
import Derived.Lib.SmallJoins
namespace Go.Proofs.YtpjopfhkgegahaaGreat
open Go.ChangeShapes Go.WideShapes Go.ChangeAt Go.RowKit Go.Deep

/-- What is known of an argument of type Model. -/
def ModArg (W : World) (v : Value) : Prop := ∃ (x0 x1 x2 : Value) (n0 n1 n2 : Nat) (L : Nat → Nat), v = .agg #[x0, x1, x2] ∧ (∃ a c, x0 = .slice a n0 c) ∧ n0 ≤ 9223372036854775807 ∧ SzAt W x1 n1 L ∧ n1 ≤ 9223372036854775807 ∧ (∃ a c, x2 = .slice a n2 c) ∧ n2 ≤ 9223372036854775807 ∧
  (n0 + (n1 + sumL L n1) + n2 ≤ 1048576 → ∃ zs ws bs, (zs : List Int).length = n0 ∧ (ws : List (List Int)).length = n1 ∧ (bs : List Int).length = n2 ∧ IntsAt W x0 zs ∧ RowsAt W x1 ws ∧ IntsAt W x2 bs ∧ ∀ j, j < ws.length → (ws.getD j []).length ≤ 1048576)
section
variable {H : Type} {enc : TypeId × Value → H}
set_option maxRecDepth 20000 in
theorem model_arg {W : World} {base : Nat} {v : Value} {d : DataW H} {p : List MemPlace} (hval : Value.okWide Tryz.prog W .any base 25 v) (h : DataW.Trod enc Tryz.prog W 0 (fun _ => true) true 25 v d p)
    (hlt : ∀ x ∈ p, x.block < W.heap.size) : ModArg W v := by
  obtain ⟨v0, v1, v2, y0, y1, y2, n, rfl, rfl, rfl, h0, h1, h2⟩ := Joins.open_agg3 Tryz.underlying25 (by kernel_rfl) (by kernel_rfl) hval h
  have e0 : ∃ a len cap, v0 = .slice a len cap := by
    rcases open_slice Tryz.underlying22 h0 with ⟨hcs, _⟩ | ⟨a', len', cap', m, n, D, Pl, hcs, _⟩
    · exact ⟨_, _, _, by simpa using hcs⟩
    · exact ⟨_, _, _, by simpa using hcs⟩
  have e1 : ∃ a len cap, v1 = .slice a len cap := by
    rcases open_slice Tryz.underlying23 h1 with ⟨hcs, _⟩ | ⟨a', len', cap', m, n, D, Pl, hcs, _⟩
    · exact ⟨_, _, _, by simpa using hcs⟩
    · exact ⟨_, _, _, by simpa using hcs⟩
  have e2 : ∃ a len cap, v2 = .slice a len cap := by
    rcases open_slice Tryz.underlying22 h2 with ⟨hcs, _⟩ | ⟨a', len', cap', m, n, D, Pl, hcs, _⟩
    · exact ⟨_, _, _, by simpa using hcs⟩
    · exact ⟨_, _, _, by simpa using hcs⟩
  obtain ⟨a0, n0, k0, rfl⟩ := e0
  obtain ⟨a1, n1, k1, rfl⟩ := e1
  obtain ⟨a2, n2, k2, rfl⟩ := e2
  obtain ⟨l0, I0⟩ := ints_arg (a := a0) (len := n0) (cap := k0) (fuel := n) (d := y0.1) (p := y0.2) h0 (fun x hx => hlt x (by simp [hx]))
  obtain ⟨l1, L, hs, I1⟩ := rows_arg (a := a1) (len := n1) (cap := k1) (fuel := n) (d := y1.1) (p := y1.2) h1 (fun x hx => hlt x (by simp [hx]))
  obtain ⟨l2, I2⟩ := ints_arg (a := a2) (len := n2) (cap := k2) (fuel := n) (d := y2.1) (p := y2.2) h2 (fun x hx => hlt x (by simp [hx]))
  refine ⟨_, _, _, n0, n1, n2, L, rfl, ⟨_, _, rfl⟩, l0, hs, l1, ⟨_, _, rfl⟩, l2, fun hb => ?_⟩
  obtain ⟨zs, z1, z2, -⟩ := I0 (by omega)
  obtain ⟨ws, w1, w2, w3⟩ := I1 ⟨by omega, fun j hj => by have := sumL_le L n1 j hj; omega⟩
  obtain ⟨bs, b1, b2, -⟩ := I2 (by omega)
  exact ⟨zs, ws, bs, z1, w1, b1, z2, w2, b2, fun j hj => by have := sumL_le L n1 j (by omega); rw [w3 j (by omega)]; omega⟩
end
set_option maxHeartbeats 1000000 in
theorem szMod_any (x0 x1 x2 : Value) (n0 n1 n2 : Nat) (L : Nat → Nat) (left : Int) (w : World) (hf0 : Hid (∃ a c, x0 = .slice a n0 c)) (hn0 : n0 ≤ 9223372036854775807) (hs : Hid (SzAt w x1 n1 L)) (hn1 : n1 ≤ 9223372036854775807) (hf2 : Hid (∃ a c, x2 = .slice a n2 c)) (hn2 : n2 ≤ 9223372036854775807)
    (hl0 : 0 ≤ left) (hl1 : left ≤ 1048576) :
    Calls Tryz.prog 5 #[.agg #[x0, x1, x2], .int .i64 left] w fun e w' => e = .returned (.int .i64 (leftN (n0 + (n1 + sumL L n1) + n2) left)) ∧ Below w.heap.size w w' := by
  have hba := (Below.refl w.heap.size w).alloc (Nat.le_refl _) (.cells #[x0, x1, x2] 25)
  have HS := Lib.hid (sz_kept hba hs.out)
  have hlt : w.heap.size < (w.alloc (.cells #[x0, x1, x2] 25)).heap.size := by simp
  have HBA := Lib.hid hba
  clear hs hba
  obtain ⟨S, hS⟩ : ∃ S, n1 + sumL L n1 = S := ⟨_, rfl⟩
  rw [hS]
  have HSS := Lib.hid hS
  clear hS
  by_cases h0 : left - n0 < 0
  · have HC0 := Lib.hid (show (if left - n0 < 0 then (-1 : Int) else left - n0) = -1 by rw [if_pos h0])
    have HR := Lib.hid (show leftN (n0 + S + n2) left = -1 from leftN_no (by omega))
    go_enter Tryz.func5, Tryz.ntmps5
    go_wp2_with fail
    refine (szInts_m _ n0 left _ hf0.out hn0 hl0 hl1).mono ?_
    rintro e w1 ⟨rfl, rfl⟩
    rw [HC0.out]
    go_wp2
    go_ret
    exact ⟨ret_i64 HR.out.symm, HBA.out⟩
  · have HC0 := Lib.hid (show (if left - n0 < 0 then (-1 : Int) else left - n0) = left - n0 by rw [if_neg (by omega)])
    by_cases h1 : left - n0 - S < 0
    · have HR := Lib.hid (show leftN (n0 + S + n2) left = -1 from leftN_no (by omega))
      have HR1 := Lib.hid (show leftN (n1 + sumL L n1) (left - n0) = -1 by rw [HSS.out]; exact leftN_no h1)
      go_enter Tryz.func5, Tryz.ntmps5
      go_wp2_with fail
      refine (szInts_m _ n0 left _ hf0.out hn0 hl0 hl1).mono ?_
      rintro e w1 ⟨rfl, rfl⟩
      rw [HC0.out]
      go_wp2_with fail
      refine (szRowsM_any _ n1 L (left - n0) _ HS.out hn1 (by omega) (by omega)).mono ?_
      rintro e w1 ⟨rfl, hb⟩
      rw [HR1.out]
      have HB := Lib.hid (below_of HBA.out hb HBA.out.size)
      clear hb
      go_wp2
      go_ret
      exact ⟨ret_i64 HR.out.symm, HB.out⟩
    · have HR1 := Lib.hid (show leftN (n1 + sumL L n1) (left - n0) = left - n0 - S by rw [HSS.out]; exact leftN_yes h1)
      by_cases h2 : left - n0 - S - n2 < 0
      · have HC2 := Lib.hid (show (if left - n0 - S - n2 < 0 then (-1 : Int) else left - n0 - S - n2) = -1 by rw [if_pos h2])
        have HR := Lib.hid (show leftN (n0 + S + n2) left = -1 from leftN_no (by omega))
        go_enter Tryz.func5, Tryz.ntmps5
        go_wp2_with fail
        refine (szInts_m _ n0 left _ hf0.out hn0 hl0 hl1).mono ?_
        rintro e w1 ⟨rfl, rfl⟩
        rw [HC0.out]
        go_wp2_with fail
        refine (szRowsM_any _ n1 L (left - n0) _ HS.out hn1 (by omega) (by omega)).mono ?_
        rintro e w1 ⟨rfl, hb⟩
        rw [HR1.out]
        have HB := Lib.hid (below_of HBA.out hb HBA.out.size)
        have c2 : w1.cell? ⟨w.heap.size, 2, none⟩ = some x2 := by rw [below_cell hb _ _ hlt]; go_simp
        clear hb
        go_wp2_with fail
        refine (szInts_m _ n2 (left - n0 - S) _ hf2.out hn2 (by omega) (by omega)).mono ?_
        rintro e w2 ⟨rfl, rfl⟩
        rw [HC2.out]
        go_wp2
        go_ret
        exact ⟨ret_i64 HR.out.symm, HB.out⟩
      · have HR := Lib.hid (show leftN (n0 + S + n2) left = left - n0 - S - n2 by rw [leftN_yes (by omega)]; omega)
        have HC2 := Lib.hid (show (if left - n0 - S - n2 < 0 then (-1 : Int) else left - n0 - S - n2) = left - n0 - S - n2 by rw [if_neg h2])
        go_enter Tryz.func5, Tryz.ntmps5
        go_wp2_with fail
        refine (szInts_m _ n0 left _ hf0.out hn0 hl0 hl1).mono ?_
        rintro e w1 ⟨rfl, rfl⟩
        rw [HC0.out]
        go_wp2_with fail
        refine (szRowsM_any _ n1 L (left - n0) _ HS.out hn1 (by omega) (by omega)).mono ?_
        rintro e w1 ⟨rfl, hb⟩
        rw [HR1.out]
        have HB := Lib.hid (below_of HBA.out hb HBA.out.size)
        have c2 : w1.cell? ⟨w.heap.size, 2, none⟩ = some x2 := by rw [below_cell hb _ _ hlt]; go_simp
        clear hb
        go_wp2_with fail
        refine (szInts_m _ n2 (left - n0 - S) _ hf2.out hn2 (by omega) (by omega)).mono ?_
        rintro e w2 ⟨rfl, rfl⟩
        rw [HC2.out]
        go_wp2
        go_ret
        exact ⟨ret_i64 HR.out.symm, HB.out⟩
theorem ownRows_set {w : World} {B : Nat} {v : Value} {ws : List (List Int)} (h : OwnRows w B v ws) (b o : Nat) (x : Value) (hb : b < B) : OwnRows (w.setCell ⟨b, o, none⟩ x) B v ws := by
  obtain ⟨g, cap, us, rfl, h1, h2, hown, h4, h5⟩ := h
  refine ⟨g, cap, us, rfl, h1, by simpa using h2, hown.kept (row := some b) ⟨rfl, rfl, rfl, by simp, fun k _ hk => Below.heap_setCell _ _ _ _ (by intro e; exact hk (by simp only at e; rw [e]))⟩ (.inr (by simp [Value.ownBlock]; omega)), rowsOwn_set h4 b o x hb, h5⟩
theorem ownRows_base {w : World} {B B' : Nat} {v : Value} {ws : List (List Int)} (h : OwnRows w B v ws) (hB : B' ≤ B) : OwnRows w B' v ws := by
  obtain ⟨g, cap, us, rfl, h1, h2, ⟨h3, h4⟩, h5, h6⟩ := h
  refine ⟨g, cap, us, rfl, by omega, h2, ⟨h3, ?_⟩, rowsOwn_base h5 hB, h6⟩
  rcases h4 with h | ⟨g', cap', cur, e, hb, rest⟩
  · exact .inl h
  · exact .inr ⟨g', cap', cur, e, by omega, rest⟩
/-- What a copy of a model is. -/
def CopyM (zs : List Int) (ws : List (List Int)) (bs : List Int) (w : World) (e : Ending) (w' : World) : Prop :=
  ∃ v0 v1 v2, e = .returned (.agg #[v0, v1, v2]) ∧ OwnInts w' w.heap.size v0 zs ∧ OwnRows w' w.heap.size v1 ws ∧ OwnInts w' w.heap.size v2 bs ∧ Below w.heap.size w w'
set_option maxRecDepth 20000 in
set_option maxHeartbeats 4000000 in
theorem toMod_any (x0 x1 x2 : Value) (zs : List Int) (ws : List (List Int)) (bs : List Int) (w : World) (h0 : IntsAt w x0 zs) (h1 : RowsAt w x1 ws) (h2 : IntsAt w x2 bs) :
    Calls Tryz.prog 9 #[.agg #[x0, x1, x2]] w (CopyM zs ws bs w) := by
  have HI0 := Lib.hid h0
  have HI1 := Lib.hid h1
  have HI2 := Lib.hid h2
  clear h0 h1 h2
  go_enter Tryz.func9, Tryz.ntmps9
  go_wp2_with fail
  have HBA := Lib.hid ((((Below.refl w.heap.size w).alloc (Nat.le_refl _) (.cells #[x0, x1, x2] 25)).alloc (by simp) (.cells #[.slice none 0 0, .slice none 0 0, .slice none 0 0] 38)).alloc (by simp <;> omega) (.cells #[.slice none 0 0, .slice none 0 0, .slice none 0 0] 38))
  refine (toInts_any zs x0 _ (ints_kept HBA.out HI0.out)).mono ?_
  rintro e w1 ⟨y0, rfl, ho, hb⟩
  have hz : w.heap.size + 3 ≤ w1.heap.size := by have := hb.size; simp at this; omega
  have a1 : w1.cell? ⟨w.heap.size, 1, none⟩ = some x1 := by rw [below_cell hb _ _ (by simp; omega)]; go_simp
  have a2 : w1.cell? ⟨w.heap.size, 2, none⟩ = some x2 := by rw [below_cell hb _ _ (by simp; omega)]; go_simp
  have b0 : w1.cell? ⟨w.heap.size + 1, 0, none⟩ = some (.slice none 0 0) := by rw [below_cell hb _ _ (by simp)]; go_simp
  have b1 : w1.cell? ⟨w.heap.size + 1, 1, none⟩ = some (.slice none 0 0) := by rw [below_cell hb _ _ (by simp)]; go_simp
  have b2 : w1.cell? ⟨w.heap.size + 1, 2, none⟩ = some (.slice none 0 0) := by rw [below_cell hb _ _ (by simp)]; go_simp
  have c0 : w1.cell? ⟨w.heap.size + 1 + 1, 0, none⟩ = some (.slice none 0 0) := by rw [below_cell hb _ _ (by simp)]; go_simp
  have c1 : w1.cell? ⟨w.heap.size + 1 + 1, 1, none⟩ = some (.slice none 0 0) := by rw [below_cell hb _ _ (by simp)]; go_simp
  have c2 : w1.cell? ⟨w.heap.size + 1 + 1, 2, none⟩ = some (.slice none 0 0) := by rw [below_cell hb _ _ (by simp)]; go_simp
  have f0 : w1.frozen? ⟨w.heap.size + 1, 0, none⟩ = false := by rw [below_frozen hb _ _ (by simp)]; go_simp
  have f1 : w1.frozen? ⟨w.heap.size + 1, 1, none⟩ = false := by rw [below_frozen hb _ _ (by simp)]; go_simp
  have f2 : w1.frozen? ⟨w.heap.size + 1, 2, none⟩ = false := by rw [below_frozen hb _ _ (by simp)]; go_simp
  have g0 : w1.frozen? ⟨w.heap.size + 1 + 1, 0, none⟩ = false := by rw [below_frozen hb _ _ (by simp)]; go_simp
  have g1 : w1.frozen? ⟨w.heap.size + 1 + 1, 1, none⟩ = false := by rw [below_frozen hb _ _ (by simp)]; go_simp
  have g2 : w1.frozen? ⟨w.heap.size + 1 + 1, 2, none⟩ = false := by rw [below_frozen hb _ _ (by simp)]; go_simp
  have HO0 := Lib.hid (ownInts_base (B' := w.heap.size + 3) ho (by simp))
  have HB1 := Lib.hid (HBA.out.trans (hb.mono (by simp <;> omega)))
  obtain ⟨q0, k0, rfl, -⟩ := ho
  clear hb
  generalize zs.length = n0 at *
  have HOS := Lib.hid (ownInts_set HO0.out (w.heap.size + 1 + 1) 0 (.slice (some ⟨q0, 0, none⟩) n0 k0) (by omega))
  have HBS := Lib.hid (HB1.out.setCell (p := ⟨w.heap.size + 1 + 1, 0, none⟩) (by simp <;> omega) (.slice (some ⟨q0, 0, none⟩) n0 k0))
  go_wp2_with fail
  refine (toRows_any ws x1 _ (mrows_kept HBS.out HI1.out)).mono ?_
  rintro e w2 ⟨y1, rfl, ho, hb⟩
  have hz2 : w.heap.size + 3 ≤ w2.heap.size := by have := hb.size; simp at this; omega
  have a2' : w2.cell? ⟨w.heap.size, 2, none⟩ = some x2 := by rw [below_cell hb _ _ (by simp; omega)]; go_simp
  have b0' : w2.cell? ⟨w.heap.size + 1, 0, none⟩ = some (.slice none 0 0) := by rw [below_cell hb _ _ (by simp; omega)]; go_simp
  have b1' : w2.cell? ⟨w.heap.size + 1, 1, none⟩ = some (.slice none 0 0) := by rw [below_cell hb _ _ (by simp; omega)]; go_simp
  have b2' : w2.cell? ⟨w.heap.size + 1, 2, none⟩ = some (.slice none 0 0) := by rw [below_cell hb _ _ (by simp; omega)]; go_simp
  have c0' : w2.cell? ⟨w.heap.size + 1 + 1, 0, none⟩ = some (.slice (some ⟨q0, 0, none⟩) n0 k0) := by rw [below_cell hb _ _ (by simp; omega)]; go_simp
  have c1' : w2.cell? ⟨w.heap.size + 1 + 1, 1, none⟩ = some (.slice none 0 0) := by rw [below_cell hb _ _ (by simp; omega)]; go_simp
  have c2' : w2.cell? ⟨w.heap.size + 1 + 1, 2, none⟩ = some (.slice none 0 0) := by rw [below_cell hb _ _ (by simp; omega)]; go_simp
  have f0' : w2.frozen? ⟨w.heap.size + 1, 0, none⟩ = false := by rw [below_frozen hb _ _ (by simp; omega)]; go_simp
  have f1' : w2.frozen? ⟨w.heap.size + 1, 1, none⟩ = false := by rw [below_frozen hb _ _ (by simp; omega)]; go_simp
  have f2' : w2.frozen? ⟨w.heap.size + 1, 2, none⟩ = false := by rw [below_frozen hb _ _ (by simp; omega)]; go_simp
  have g1' : w2.frozen? ⟨w.heap.size + 1 + 1, 1, none⟩ = false := by rw [below_frozen hb _ _ (by simp; omega)]; go_simp
  have g2' : w2.frozen? ⟨w.heap.size + 1 + 1, 2, none⟩ = false := by rw [below_frozen hb _ _ (by simp; omega)]; go_simp
  have HO1 := Lib.hid (own_kept hb HOS.out)
  have HP1 := Lib.hid (ownRows_base (B' := w.heap.size + 3) ho (by simp; omega))
  have HB2 := Lib.hid (HBS.out.trans (hb.mono (by simp <;> omega)))
  obtain ⟨q1, k1, us, rfl, -⟩ := ho
  clear hb a1 a2 b0 b1 b2 c0 c1 c2 f0 f1 f2 g0 g1 g2
  generalize ws.length = n1 at *
  have HOS1 := Lib.hid (ownInts_set HO1.out (w.heap.size + 1 + 1) 1 (.slice (some ⟨q1, 0, none⟩) n1 k1) (by omega))
  have HPS1 := Lib.hid (ownRows_set HP1.out (w.heap.size + 1 + 1) 1 (.slice (some ⟨q1, 0, none⟩) n1 k1) (by omega))
  have HBS1 := Lib.hid (HB2.out.setCell (p := ⟨w.heap.size + 1 + 1, 1, none⟩) (by simp <;> omega) (.slice (some ⟨q1, 0, none⟩) n1 k1))
  go_wp2_with fail
  refine (toInts_any bs x2 _ (ints_kept HBS1.out HI2.out)).mono ?_
  rintro e w3 ⟨y2, rfl, ho, hb⟩
  have hz3 : w.heap.size + 3 ≤ w3.heap.size := by have := hb.size; simp at this; omega
  have b0'' : w3.cell? ⟨w.heap.size + 1, 0, none⟩ = some (.slice none 0 0) := by rw [below_cell hb _ _ (by simp; omega)]; go_simp
  have b1'' : w3.cell? ⟨w.heap.size + 1, 1, none⟩ = some (.slice none 0 0) := by rw [below_cell hb _ _ (by simp; omega)]; go_simp
  have b2'' : w3.cell? ⟨w.heap.size + 1, 2, none⟩ = some (.slice none 0 0) := by rw [below_cell hb _ _ (by simp; omega)]; go_simp
  have c0'' : w3.cell? ⟨w.heap.size + 1 + 1, 0, none⟩ = some (.slice (some ⟨q0, 0, none⟩) n0 k0) := by rw [below_cell hb _ _ (by simp; omega)]; go_simp
  have c1'' : w3.cell? ⟨w.heap.size + 1 + 1, 1, none⟩ = some (.slice (some ⟨q1, 0, none⟩) n1 k1) := by rw [below_cell hb _ _ (by simp; omega)]; go_simp
  have c2'' : w3.cell? ⟨w.heap.size + 1 + 1, 2, none⟩ = some (.slice none 0 0) := by rw [below_cell hb _ _ (by simp; omega)]; go_simp
  have f0'' : w3.frozen? ⟨w.heap.size + 1, 0, none⟩ = false := by rw [below_frozen hb _ _ (by simp; omega)]; go_simp
  have f1'' : w3.frozen? ⟨w.heap.size + 1, 1, none⟩ = false := by rw [below_frozen hb _ _ (by simp; omega)]; go_simp
  have f2'' : w3.frozen? ⟨w.heap.size + 1, 2, none⟩ = false := by rw [below_frozen hb _ _ (by simp; omega)]; go_simp
  have g2'' : w3.frozen? ⟨w.heap.size + 1 + 1, 2, none⟩ = false := by rw [below_frozen hb _ _ (by simp; omega)]; go_simp
  have HO2 := Lib.hid (own_kept hb HOS1.out)
  have HP2 := Lib.hid (ownRows_kept hb HPS1.out)
  have HQ2 := Lib.hid (ownInts_base (B' := w.heap.size + 3) ho (by simp; omega))
  have HB3 := Lib.hid (HBS1.out.trans (hb.mono (by simp <;> omega)))
  obtain ⟨q2, k2, rfl, -⟩ := ho
  clear hb a2' b0' b1' b2' c0' c1' c2' f0' f1' f2' g1' g2'
  generalize bs.length = n2 at *
  go_wp2
  refine bodyPost_ret (v := .agg #[.slice (some ⟨q0, 0, none⟩) n0 k0, .slice (some ⟨q1, 0, none⟩) n1 k1, .slice (some ⟨q2, 0, none⟩) n2 k2]) (by simp [results, Tryz.results9, go_sem, b0'', b1'', b2'']) rfl ⟨_, _, _, rfl, ?_, ?_, ?_, ?_⟩
  · exact ownInts_base (ownInts_set (ownInts_set (ownInts_set (ownInts_set HO2.out _ _ _ (by omega)) _ _ _ (by omega)) _ _ _ (by omega)) _ _ _ (by omega)) (by omega)
  · exact ownRows_base (ownRows_set (ownRows_set (ownRows_set (ownRows_set HP2.out _ _ _ (by omega)) _ _ _ (by omega)) _ _ _ (by omega)) _ _ _ (by omega)) (by omega)
  · exact ownInts_base (ownInts_set (ownInts_set (ownInts_set (ownInts_set HQ2.out _ _ _ (by omega)) _ _ _ (by omega)) _ _ _ (by omega)) _ _ _ (by omega)) (by omega)
  · exact (((HB3.out.setCell (by simp <;> omega) _).setCell (by simp) _).setCell (by simp) _).setCell (by simp) _
set_option maxHeartbeats 2000000 in
theorem eqMod_any (x0 x1 x2 y0 y1 y2 : Value) (zs : List Int) (ws : List (List Int)) (bs : List Int) (w : World) (h0 : IntsAt w x0 zs) (h1 : RowsAt w x1 ws) (h2 : IntsAt w x2 bs) (k0 : IntsAt w y0 zs) (k1 : RowsAt w y1 ws) (k2 : IntsAt w y2 bs) :
    Calls Tryz.prog 14 #[.agg #[x0, x1, x2], .agg #[y0, y1, y2]] w fun e w' => e = .returned (.bool true) ∧ Below w.heap.size w w' := by
  have hba := ((Below.refl w.heap.size w).alloc (Nat.le_refl _) (.cells #[x0, x1, x2] 38)).alloc (by simp) (.cells #[y0, y1, y2] 38)
  have H0 := Lib.hid (ints_kept hba h0)
  have H1 := Lib.hid (mrows_kept hba h1)
  have H2 := Lib.hid (ints_kept hba h2)
  have K0 := Lib.hid (ints_kept hba k0)
  have K1 := Lib.hid (mrows_kept hba k1)
  have K2 := Lib.hid (ints_kept hba k2)
  have HBA := Lib.hid hba
  clear h0 h1 h2 k0 k1 k2 hba
  go_enter Tryz.func14, Tryz.ntmps14
  go_wp2_with fail
  refine (eqInts_at zs _ _ _ H0.out K0.out).mono ?_
  rintro e w1 ⟨rfl, hb⟩
  have a1 : w1.cell? ⟨w.heap.size, 1, none⟩ = some x1 := by rw [below_cell hb _ _ (by simp; omega)]; go_simp
  have a2 : w1.cell? ⟨w.heap.size, 2, none⟩ = some x2 := by rw [below_cell hb _ _ (by simp; omega)]; go_simp
  have b1 : w1.cell? ⟨w.heap.size + 1, 1, none⟩ = some y1 := by rw [below_cell hb _ _ (by simp)]; go_simp
  have b2 : w1.cell? ⟨w.heap.size + 1, 2, none⟩ = some y2 := by rw [below_cell hb _ _ (by simp)]; go_simp
  have hz : w.heap.size + 2 ≤ w1.heap.size := by have := hb.size; simp at this; omega
  have H1' := Lib.hid (mrows_kept hb H1.out)
  have K1' := Lib.hid (mrows_kept hb K1.out)
  have H2' := Lib.hid (ints_kept hb H2.out)
  have K2' := Lib.hid (ints_kept hb K2.out)
  have HB1 := Lib.hid (below_of HBA.out hb HBA.out.size)
  clear hb
  go_wp2_with fail
  refine (eqRowsM_at ws _ _ _ H1'.out K1'.out).mono ?_
  rintro e w2 ⟨rfl, hb⟩
  have a2' : w2.cell? ⟨w.heap.size, 2, none⟩ = some x2 := by rw [below_cell hb _ _ (by omega)]; exact a2
  have b2' : w2.cell? ⟨w.heap.size + 1, 2, none⟩ = some y2 := by rw [below_cell hb _ _ (by omega)]; exact b2
  have H2'' := Lib.hid (ints_kept hb H2'.out)
  have K2'' := Lib.hid (ints_kept hb K2'.out)
  have HB2 := Lib.hid (below_of HB1.out hb HB1.out.size)
  clear hb a1 a2 b1 b2
  go_wp2_with fail
  refine (eqInts_at bs _ _ _ H2''.out K2''.out).mono ?_
  rintro e w3 ⟨rfl, hb⟩
  have HB3 := Lib.hid (below_of HB2.out hb HB2.out.size)
  clear hb
  go_wp2
  go_ret
  exact ⟨rfl, HB3.out⟩
end Go.Proofs.YtpjopfhkgegahaaGreat
