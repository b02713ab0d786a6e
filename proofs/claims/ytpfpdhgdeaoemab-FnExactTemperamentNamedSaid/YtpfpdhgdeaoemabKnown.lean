/- The program's map from the names of the known temperaments to their offsets: made by the call, looked up. -/
import Derived.Test.YtpfpdhgdeaoemabInts
import Derived.Maps.Own
import Derived.Maps.Views
import Derived.StringKeys
namespace Go.Proofs.Ytpfpdhgdeaoemab
open Go.ChangeShapes Go.WideShapes Go.ChangeAt Go.RowKit
open Go.Maps (Keyed string_keyed)

theorem wpList_insert_own {H : Type} {P : Program} (w : World) {ops : Array Oper} {rest : List Oper} {o : Oper} {a : Act} {Q : Exit → Act → World → Prop}
    (hg : o.guard = none) (m x v : Operand) (t : TypeId) (hop : o.op = Op.insert t m x v)
    (k e : TypeId) (K : Keyed P k) (ht : P.underlying t = some (.map k e)) (R : Value → Option (DataW H × List MemPlace)) (b n : Nat) (D : DataW H)
    (hm : a.eval m = .map (some b)) (hown : w.ownsMap P k R b n D) (hn : n < maxLen) (key val : Value) (kl : Lit) (hx : a.eval x = key) (hv : a.eval v = val) (hkey : keyOf P k key = some kl)
    (d : DataW H) (ps : List MemPlace) (hval : R val = some (d, ps))
    (hK : ∀ w', w'.ownsMap P k R b (n + 1) (D.put kl d) → w.grownBy w' (some b) → wpList P ops Q rest (a.put o.dst undef) w') :
    wpList P ops Q (o :: rest) a w := by
  refine wpList_plain hg fun K' hK' => ?_
  obtain ⟨w', hrun, r1, r2⟩ := hown.update K ht hn hkey hval
  unfold Oper.wp
  simp [execOp, hop, hm, hx, hv, hrun, Result.andThen]
  exact hK' _ _ (hK w' r1 r2)

theorem keyLaw : Keyed Try.prog 9 := string_keyed Try.underlying9
/-- The names and the offsets of the known temperaments. -/
def tName : Nat → ByteArray
  | 0 => ⟨#[101, 113, 117, 97, 108]⟩
  | 1 => ⟨#[106, 117, 115, 116]⟩
  | 2 => ⟨#[109, 101, 97, 110, 116, 111, 110, 101]⟩
  | _ => ⟨#[112, 121, 116, 104, 97, 103, 111, 114, 97, 115]⟩
def tOffs : Nat → List Int
  | 0 => [0, 0, 0, 0, 0, 0, 0, 0, 0, 0, 0, 0]
  | 1 => [0, 117, 39, 156, -137, -20, -98, 20, 137, -156, 176, -117]
  | 2 => [0, -240, -68, 103, -137, 34, -205, -34, -274, -103, 68, -171]
  | _ => [0, 137, 39, -59, 78, -20, 117, 20, 156, 59, -39, 98]
def tAgg (i : Nat) : Value := .agg ((tOffs i).map (Value.int .i64)).toArray
def tLit (i : Nat) : DataW Unit := .lit (.int .i64 i)
open Classical in
/-- How an element of the map reads: by its number. -/
noncomputable def tRead (v : Value) : Option (DataW Unit × List MemPlace) :=
  if v = tAgg 0 then some (tLit 0, []) else if v = tAgg 1 then some (tLit 1, []) else if v = tAgg 2 then some (tLit 2, []) else if v = tAgg 3 then some (tLit 3, []) else none
theorem tAgg_inj {i j : Nat} (hi : i < 4) (hj : j < 4) (h : tAgg i = tAgg j) : i = j := by
  have e : (tOffs i)[1]? = (tOffs j)[1]? ∧ (tOffs i)[2]? = (tOffs j)[2]? ∧ (tOffs i)[3]? = (tOffs j)[3]? := by
    unfold tAgg at h
    simp only [Value.agg.injEq] at h
    have h2 : (tOffs i).map (Value.int .i64) = (tOffs j).map (Value.int .i64) := by simpa using h
    have h3 : tOffs i = tOffs j := List.map_inj_right (fun _ _ h => by simpa using h) |>.1 h2
    rw [h3]; exact ⟨rfl, rfl, rfl⟩
  rcases (by omega : i = 0 ∨ i = 1 ∨ i = 2 ∨ i = 3) with rfl | rfl | rfl | rfl <;> rcases (by omega : j = 0 ∨ j = 1 ∨ j = 2 ∨ j = 3) with rfl | rfl | rfl | rfl <;> first | rfl | (exfalso; revert e; decide)
theorem tRead_at (i : Nat) (hi : i < 4) : tRead (tAgg i) = some (tLit i, []) := by
  unfold tRead
  rcases (by omega : i = 0 ∨ i = 1 ∨ i = 2 ∨ i = 3) with rfl | rfl | rfl | rfl
  · rw [if_pos rfl]
  · rw [if_neg (fun h => absurd (tAgg_inj (by omega) (by omega) h) (by omega)), if_pos rfl]
  · rw [if_neg (fun h => absurd (tAgg_inj (by omega) (by omega) h) (by omega)), if_neg (fun h => absurd (tAgg_inj (by omega) (by omega) h) (by omega)), if_pos rfl]
  · rw [if_neg (fun h => absurd (tAgg_inj (by omega) (by omega) h) (by omega)), if_neg (fun h => absurd (tAgg_inj (by omega) (by omega) h) (by omega)), if_neg (fun h => absurd (tAgg_inj (by omega) (by omega) h) (by omega)), if_pos rfl]
theorem tRead_inv {v : Value} {ps : List MemPlace} {i : Nat} (hi : i < 4) (h : tRead v = some (tLit i, ps)) : v = tAgg i := by
  have lit : ∀ j : Nat, some (tLit j, ([] : List MemPlace)) = some (tLit i, ps) → j = i := by
    intro j hj
    simp only [Option.some.injEq, Prod.mk.injEq, tLit, DataW.lit.injEq, Lit.int.injEq] at hj
    omega
  unfold tRead at h
  split at h
  · rename_i e; have := lit 0 h; subst this; exact e
  · split at h
    · rename_i e; have := lit 1 h; subst this; exact e
    · split at h
      · rename_i e; have := lit 2 h; subst this; exact e
      · split at h
        · rename_i e; have := lit 3 h; subst this; exact e
        · cases h
def tKey (i : Nat) : Lit := .string (tName i).data.toList
noncomputable def tMap : DataW Unit := ((((DataW.map []).put (tKey 0) (tLit 0)).put (tKey 1) (tLit 1)).put (tKey 2) (tLit 2)).put (tKey 3) (tLit 3)
theorem tKey_at (i : Nat) (hi : i < 4) : keyOf Try.prog 9 (.string (tName i)) = some (tKey i) := by
  refine Go.WideMaps.keyOf_string_mk Try.underlying9 ?_
  rcases (by omega : i = 0 ∨ i = 1 ∨ i = 2 ∨ i = 3) with rfl | rfl | rfl | rfl <;> decide

set_option maxRecDepth 20000 in
set_option maxHeartbeats 1000000 in
theorem known_any (w : World) :
    Calls Try.prog 28 #[] w fun e w' => e = .returned (.map (some w.heap.size)) ∧ w'.ownsMap Try.prog 9 tRead w.heap.size 4 tMap ∧ Below w.heap.size w w' := by
  have hmm := @run_makeMap Try.prog
  have h0 := World.ownsMap_made w Try.prog 9 tRead
  have HB0 := Lib.hid ((Below.refl w.heap.size w).alloc (Nat.le_refl _) (.map #[] 0))
  have H0 := Lib.hid h0
  clear h0
  obtain ⟨w1, hr0, ho0, hg0⟩ := H0.out.update keyLaw Try.underlying50 (by unfold maxLen; omega) (tKey_at 0 (by omega)) (tRead_at 0 (by omega))
  have hrun0 : (Instr.mapUpdate 50 (.map (some w.heap.size)) (.string ⟨#[101, 113, 117, 97, 108]⟩) (.agg #[.int .i64 0, .int .i64 0, .int .i64 0, .int .i64 0, .int .i64 0, .int .i64 0, .int .i64 0, .int .i64 0, .int .i64 0, .int .i64 0, .int .i64 0, .int .i64 0])).run Try.prog (w.alloc (.map #[] 0)) = .ok () w1 := hr0
  have HB1 := Lib.hid (HB0.out.grown hg0 (HB0.out).size (fun j hj => by cases hj; exact Nat.le_refl _))
  obtain ⟨w2, hr1, ho1, hg1⟩ := ho0.update keyLaw Try.underlying50 (by unfold maxLen; omega) (tKey_at 1 (by omega)) (tRead_at 1 (by omega))
  have hrun1 : (Instr.mapUpdate 50 (.map (some w.heap.size)) (.string ⟨#[106, 117, 115, 116]⟩) (.agg #[.int .i64 0, .int .i64 117, .int .i64 39, .int .i64 156, .int .i64 (-137), .int .i64 (-20), .int .i64 (-98), .int .i64 20, .int .i64 137, .int .i64 (-156), .int .i64 176, .int .i64 (-117)])).run Try.prog w1 = .ok () w2 := hr1
  have HB2 := Lib.hid (HB1.out.grown hg1 (HB1.out).size (fun j hj => by cases hj; exact Nat.le_refl _))
  obtain ⟨w3, hr2, ho2, hg2⟩ := ho1.update keyLaw Try.underlying50 (by unfold maxLen; omega) (tKey_at 2 (by omega)) (tRead_at 2 (by omega))
  have hrun2 : (Instr.mapUpdate 50 (.map (some w.heap.size)) (.string ⟨#[109, 101, 97, 110, 116, 111, 110, 101]⟩) (.agg #[.int .i64 0, .int .i64 (-240), .int .i64 (-68), .int .i64 103, .int .i64 (-137), .int .i64 34, .int .i64 (-205), .int .i64 (-34), .int .i64 (-274), .int .i64 (-103), .int .i64 68, .int .i64 (-171)])).run Try.prog w2 = .ok () w3 := hr2
  have HB3 := Lib.hid (HB2.out.grown hg2 (HB2.out).size (fun j hj => by cases hj; exact Nat.le_refl _))
  obtain ⟨w4, hr3, ho3, hg3⟩ := ho2.update keyLaw Try.underlying50 (by unfold maxLen; omega) (tKey_at 3 (by omega)) (tRead_at 3 (by omega))
  have hrun3 : (Instr.mapUpdate 50 (.map (some w.heap.size)) (.string ⟨#[112, 121, 116, 104, 97, 103, 111, 114, 97, 115]⟩) (.agg #[.int .i64 0, .int .i64 137, .int .i64 39, .int .i64 (-59), .int .i64 78, .int .i64 (-20), .int .i64 117, .int .i64 20, .int .i64 156, .int .i64 59, .int .i64 (-39), .int .i64 98])).run Try.prog w3 = .ok () w4 := hr3
  have HB4 := Lib.hid (HB3.out.grown hg3 (HB3.out).size (fun j hj => by cases hj; exact Nat.le_refl _))
  have HO := Lib.hid ho3
  clear hr0 hr1 hr2 hr3 ho0 ho1 ho2 ho3 hg0 hg1 hg2 hg3
  go_enter Try.func28, Try.ntmps28
  go_wp2
  go_ret
  exact ⟨rfl, HO.out, HB4.out⟩

theorem tKey_inj {i j : Nat} (hi : i < 4) (hj : j < 4) (h : tKey i = tKey j) : i = j := by
  rcases (by omega : i = 0 ∨ i = 1 ∨ i = 2 ∨ i = 3) with rfl | rfl | rfl | rfl <;> rcases (by omega : j = 0 ∨ j = 1 ∨ j = 2 ∨ j = 3) with rfl | rfl | rfl | rfl <;> first | rfl | (exfalso; unfold tKey at h; simp only [Lit.string.injEq] at h; revert h; decide)
theorem keyLit (i : Nat) : Go.WideAt.IsKeyLit (tKey i) := keyLaw.key (v := .string (tName i)) (l := tKey i) (by
  refine Go.WideMaps.keyOf_string_mk Try.underlying9 ?_
  unfold tName; split <;> decide)
theorem tMap_at (i : Nat) (hi : i < 4) (z : DataW Unit) : tMap.atKey (tKey i) z = tLit i := by
  have i0 : Maps.IsMap (DataW.map [] : DataW Unit) := Maps.isMap_empty
  have n : ∀ j, j < 4 → i ≠ j → tKey i ≠ tKey j := fun j hj h e => h (tKey_inj hi hj e)
  unfold tMap
  rcases (by omega : i = 0 ∨ i = 1 ∨ i = 2 ∨ i = 3) with rfl | rfl | rfl | rfl
  · rw [Maps.atKey_put_other (n 3 (by omega) (by omega)), Maps.atKey_put_other (n 2 (by omega) (by omega)), Maps.atKey_put_other (n 1 (by omega) (by omega)), Maps.atKey_put_same i0 (keyLit 0)]
  · rw [Maps.atKey_put_other (n 3 (by omega) (by omega)), Maps.atKey_put_other (n 2 (by omega) (by omega)), Maps.atKey_put_same (i0.put _ _) (keyLit 1)]
  · rw [Maps.atKey_put_other (n 3 (by omega) (by omega)), Maps.atKey_put_same ((i0.put _ _).put _ _) (keyLit 2)]
  · rw [Maps.atKey_put_same (((i0.put _ _).put _ _).put _ _) (keyLit 3)]
theorem tMap_no {k : Lit} (h : ∀ i, i < 4 → k ≠ tKey i) (z : DataW Unit) : tMap.atKey k z = z := by
  unfold tMap
  rw [Maps.atKey_put_other (h 3 (by omega)), Maps.atKey_put_other (h 2 (by omega)), Maps.atKey_put_other (h 1 (by omega)), Maps.atKey_put_other (h 0 (by omega))]
  rfl

theorem tZero (w : World) : (zeroValue 48).run Try.prog w = .ok (tAgg 0) w := by kernel_rfl
/-- The known name's offsets come out. -/
theorem look_yes {w : World} {b : Nat} (h : w.ownsMap Try.prog 9 tRead b 4 tMap) (i : Nat) (hi : i < 4) :
    (Instr.lookup 50 (.map (some b)) (.string (tName i)) true).run Try.prog w = .ok (.tuple #[tAgg i, .bool true]) w := by
  obtain ⟨es, clock, hb, F, _, he⟩ := h
  rcases Maps.fit_look true keyLaw Try.underlying50 (tZero w) hb F (tKey_at i hi) with ⟨_, _, hat⟩ | ⟨e0, y, _, _, hrun, hRv, hat, _⟩
  · exfalso
    rw [← he] at hat
    have h1 := hat .nil
    rw [tMap_at i hi] at h1
    cases h1
  · rw [← he] at hat
    have h1 := hat .nil
    rw [tMap_at i hi] at h1
    have hv : e0.val = tAgg i := tRead_inv (ps := y.2) hi (by rw [hRv, h1])
    rw [hrun, hv]
    rfl
/-- At any other name: no such. -/
theorem look_no {w : World} {b : Nat} (h : w.ownsMap Try.prog 9 tRead b 4 tMap) (s : ByteArray) (hs : s.size ≤ maxLen) (hn : ∀ i, i < 4 → s ≠ tName i) :
    (Instr.lookup 50 (.map (some b)) (.string s) true).run Try.prog w = .ok (.tuple #[tAgg 0, .bool false]) w := by
  obtain ⟨es, clock, hb, F, _, he⟩ := h
  have hk : ∀ i, i < 4 → (Lit.string s.data.toList) ≠ tKey i := fun i hi e => hn i hi (by
    unfold tKey at e
    simp only [Lit.string.injEq] at e
    cases s; cases hq : tName i; rw [hq] at e; congr 1; exact Array.toList_inj.1 e)
  rcases Maps.fit_look true keyLaw Try.underlying50 (tZero w) hb F (Go.WideMaps.keyOf_string_mk Try.underlying9 hs) with ⟨hrun, _, _⟩ | ⟨e0, y, _, _, _, _, hat, _⟩
  · rw [hrun]
    rfl
  · exfalso
    rw [← he] at hat
    have h1 := hat .nil
    have h2 := hat (tLit 0)
    rw [tMap_no hk] at h1 h2
    rw [← h1] at h2
    cases h2
end Go.Proofs.Ytpfpdhgdeaoemab
