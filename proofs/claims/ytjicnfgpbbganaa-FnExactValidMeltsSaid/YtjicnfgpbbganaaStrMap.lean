/- Maps from strings to strings: what one holds; the map of ingots (added to, asked). -/
import Derived.Test.YtjicnfgpbbganaaMeltsV
import Derived.Maps.Own
import Derived.Maps.OwnOps
import Derived.Maps.OwnSet
set_option linter.unusedVariables false
namespace Go.Proofs.Ytjicnfgpbbganaa
open Go.ChangeShapes Go.WideShapes Go.ChangeAt Go.RowKit Go.Maps

theorem lawSt : Keyed Try.prog 9 := string_keyed Try.underlying9
theorem zeroSt (w : World) : (zeroValue 9).run Try.prog w = .ok (.string ByteArray.empty) w := by kernel_rfl
def kS (s : ByteArray) : Lit := .string s.data.toList
theorem kS_ne {s t : ByteArray} (h : s ≠ t) : kS s ≠ kS t := by
  intro e
  apply h
  simp only [kS, Lit.string.injEq] at e
  cases s; cases t
  simp only at e
  congr 1
  exact Array.toList_inj.1 e
theorem kS_key (s : ByteArray) : WideAt.IsKeyLit (kS s) := trivial
/-- The map's datum holds f s at s. -/
structure StrM (D : DataW Unit) (f : ByteArray → Option ByteArray) : Prop where
  map : IsMap D
  has' : ∀ s, has D (kS s) = (f s).isSome
  at' : ∀ s t, f s = some t → D.atKey (kS s) (.lit (.string [])) = .lit (kS t)
theorem strM_empty : StrM (.map []) fun _ => none := ⟨isMap_empty, fun s => rfl, fun s t h => by simp at h⟩
theorem strM_put {D : DataW Unit} {f : ByteArray → Option ByteArray} (h : StrM D f) (k v : ByteArray) : StrM (D.put (kS k) (.lit (kS v))) (fun s => if s = k then some v else f s) := by
  refine ⟨h.map.put _ _, fun s => ?_, fun s t hs => ?_⟩
  · by_cases e : s = k
    · subst e; rw [has_put_same h.map (kS_key _), if_pos rfl]; rfl
    · rw [has_put_other (kS_ne e), if_neg e]; exact h.has' s
  · by_cases e : s = k
    · subst e; rw [if_pos rfl] at hs; rw [atKey_put_same h.map (kS_key _)]; cases hs; rfl
    · rw [if_neg e] at hs; rw [atKey_put_other (kS_ne e)]; exact h.at' s t hs
theorem strM_del {D : DataW Unit} {f : ByteArray → Option ByteArray} (h : StrM D f) (k : ByteArray) : StrM (D.del (kS k)) (fun s => if s = k then none else f s) := by
  refine ⟨h.map.del _, fun s => ?_, fun s t hs => ?_⟩
  · by_cases e : s = k
    · subst e; rw [has_del_same, if_pos rfl]; rfl
    · rw [has_del_other (kS_ne e), if_neg e]; exact h.has' s
  · by_cases e : s = k
    · subst e; rw [if_pos rfl] at hs; cases hs
    · rw [if_neg e] at hs; rw [atKey_del_other (kS_ne e)]; exact h.at' s t hs
/-- Block b is a map that holds f. -/
def MapS (w : World) (b n : Nat) (f : ByteArray → Option ByteArray) : Prop := ∃ D : DataW Unit, w.ownsMap Try.prog 9 (plainElem Try.prog 9) b n D ∧ StrM D f
theorem mapS_kept {w w' : World} {b n : Nat} {f : ByteArray → Option ByteArray} (hb : Below w.heap.size w w') (h : MapS w b n f) : MapS w' b n f := by
  obtain ⟨D, h1, h2⟩ := h
  exact ⟨D, h1.kept (row := none) ⟨hb.os, hb.tape, hb.output, hb.size, fun k hk _ => hb.block k hk⟩ (by simp), h2⟩
theorem mapS_lt {w : World} {b n : Nat} {f : ByteArray → Option ByteArray} (h : MapS w b n f) : b < w.heap.size := by
  obtain ⟨D, h1, -⟩ := h
  exact h1.lt
theorem mapS_mono {w : World} {b n m : Nat} {f : ByteArray → Option ByteArray} (h : MapS w b n f) (hm : n ≤ m) : MapS w b m f := by
  obtain ⟨D, h1, h2⟩ := h
  exact ⟨D, h1.mono hm, h2⟩
theorem mapS_start (w : World) : MapS (w.alloc (.map #[] 0)) w.heap.size 0 (fun _ => none) := ⟨.map [], World.ownsMap_made _ _ _ _, strM_empty⟩
theorem mapS_ext {w : World} {b n : Nat} {f g : ByteArray → Option ByteArray} (h : MapS w b n f) (e : ∀ z, g z = f z) : MapS w b n g := by
  obtain rfl : g = f := funext e
  exact h
theorem gb_cellT {w w' : World} {row : Option Nat} (hg : w.grownBy w' row) (b o : Nat) (hb : b < w.heap.size) (hne : some b ≠ row) : w'.cell? ⟨b, o, none⟩ = w.cell? ⟨b, o, none⟩ := World.cell?_of_block (hg.block b hb hne)
theorem gb_trans {a w w' : World} {row : Option Nat} (h : a.grownBy w row) (k : w.grownBy w' row) : a.grownBy w' row :=
  ⟨k.os.trans h.os, k.tape.trans h.tape, k.output.trans h.output, Nat.le_trans h.size k.size, fun i hi hne => (k.block i (Nat.lt_of_lt_of_le hi h.size) hne).trans (h.block i hi hne)⟩
/-- A map to which names are added. -/
def addF (f : ByteArray → Option ByteArray) (ss : List ByteArray) (id : ByteArray) : ByteArray → Option ByteArray := fun s => if (ss.any fun x => decide (x = s)) = true then some id else f s
theorem addF_nil (f : ByteArray → Option ByteArray) (id : ByteArray) (s : ByteArray) : addF f [] id s = f s := by simp [addF]
theorem addF_next (f : ByteArray → Option ByteArray) (ss : List ByteArray) (id : ByteArray) (k : Nat) (h : k < ss.length) (s : ByteArray) : addF f (ss.take (k + 1)) id s = if s = ss.getD k ByteArray.empty then some id else addF f (ss.take k) id s := by
  unfold addF
  rw [List.take_succ_eq_append_getElem h, List.any_append]
  have e : ss.getD k ByteArray.empty = ss[k] := by simp [List.getD, h]
  rw [e]
  by_cases h1 : s = ss[k]
  · subst h1; simp
  · have h2 : ([ss[k]].any fun x => decide (x = s)) = false := by simp; exact fun e => h1 e.symm
    rw [h2, Bool.or_false, if_neg h1]
set_option maxRecDepth 20000 in
set_option maxHeartbeats 4000000 in
theorem addMap_any (bm : Nat) (n : Nat) (f : ByteArray → Option ByteArray) (s : ByteArray) (v : Value) (ss : List ByteArray) (z : Int) (w : World) (hm : MapS w bm n f) (hv : StAt w v ss) (hs : s.size ≤ maxLen) (hz : SzSt ss) (hl : ss.length ≤ 16) (hn : n ≤ 1000) :
    Calls Try.prog 30 #[.map (some bm), .agg #[.string s, v, .int .i64 z]] w fun e w' => e = .returned (.tuple #[]) ∧ MapS w' bm (n + 16) (addF f ss s) ∧ Below bm w w' := by
  have hba := below_alT w (.cells #[.string s, v, .int .i64 z] 27)
  have HV := Lib.hid (st_kept hba hv)
  have HM0 := Lib.hid (mapS_ext (g := addF f (ss.take 0) s) (mapS_kept hba hm) (fun x => by rw [List.take_zero, addF_nil]))
  have hbl := mapS_lt hm
  have HB0 := Lib.hid (hba.mono (Nat.le_of_lt hbl))
  have hsz : w.heap.size < (w.alloc (.cells #[.string s, v, .int .i64 z] 27)).heap.size := alloc_ltT _ _
  have hs0 : (w.alloc (.cells #[.string s, v, .int .i64 z] 27)).cell? ⟨w.heap.size, 0, none⟩ = some (.string s) := by go_simp
  clear hv hm hba
  obtain ⟨A, b, off, cap, rfl, hA, hc⟩ := st_open HV.out
  have HAD := Lib.hid (fun k (hk : k < ss.length) x => addF_next f ss s k hk x)
  have HTT := Lib.hid (show ss.take ss.length = ss from List.take_length)
  have HZ := Lib.hid hz
  have hblk : 0 < ss.length → b < (w.alloc (.cells #[.string s, .slice A ss.length cap, .int .i64 z] 27)).heap.size ∧ b ≠ bm := fun h0 => by
    have h1 := hc 0 h0
    obtain ⟨D, hD, -⟩ := HM0.out
    obtain ⟨es, clock, hb, _⟩ := hD
    constructor
    · unfold World.cell? at h1
      cases hh : (w.alloc (.cells #[.string s, .slice A ss.length cap, .int .i64 z] 27)).heap[b]? with
      | none => rw [hh] at h1; simp at h1
      | some o => exact (Array.getElem?_eq_some_iff.1 hh).1
    · rintro rfl
      unfold World.cell? at h1
      rw [hb] at h1
      simp at h1
  obtain ⟨m, hm⟩ : ∃ m, ss.length = m := ⟨_, rfl⟩
  rw [hm] at hA hc hblk HAD HTT HM0 HB0 hsz hs0 hl ⊢
  have HA := Lib.hid hA
  have HC := Lib.hid hc
  have HBK := Lib.hid hblk
  have HL := Lib.hid hm
  clear hA hc hz hblk hm HV
  go_enter Try.func30, Try.ntmps30
  go_wp2_with fail
  generalize (w.alloc (Obj.cells #[Value.string s, Value.slice A m cap, Value.int IntKind.i64 z] 27)) = wA at *
  go_loopw [9] (fun i wr => ∃ k : Nat, k ≤ m ∧ i = .int .i64 k ∧ Hid (MapS wr bm (n + k) (addF f (ss.take k) s)) ∧ Hid (wA.grownBy wr (some bm))) (fun i _ => m - (intOf i).toNat)
  case atStart => exact ⟨0, by omega, rfl, HM0, Lib.hid (World.grownBy.refl _ _)⟩
  case round =>
    obtain ⟨k, hk, rfl, HM, HG⟩ := hrel
    by_cases hlt : k < m
    · have hAe := HA.out (by omega)
      subst hAe
      obtain ⟨hb1, hb2⟩ := HBK.out (by omega)
      have d0 := (gb_cellT HG.out b (off + k) hb1 (by simp only [ne_eq, Option.some.injEq]; exact hb2)).trans (HC.out k hlt)
      have d1 := (gb_cellT HG.out w.heap.size 0 hsz (by simp only [ne_eq, Option.some.injEq]; omega)).trans hs0
      have hxs := HZ.out k (by rw [HL.out]; exact hlt)
      have HADk := Lib.hid (fun x => HAD.out k hlt x)
      generalize ss.getD k ByteArray.empty = x at *
      obtain ⟨D, hown, hsm⟩ := HM.out
      have HSM1 := Lib.hid (show StrM (D.put (kS x) (.lit (kS s))) (addF f (ss.take (k + 1)) s) by
        have := strM_put hsm x s
        have e : addF f (ss.take (k + 1)) s = fun y => if y = x then some s else addF f (ss.take k) s y := funext HADk.out
        rw [e]; exact this)
      have hlt1 : (k : Int) < (m : Int) := by omega
      have hk0 : (0 : Int) ≤ (k : Int) := by omega
      clear hsm
      go_wp2_with (first
        | (at_mapUpdate; refine wpList_mapUpdate_own _ rfl _ _ _ 50 rfl 9 9 lawSt Try.underlying50 _ bm (n + k) _ rfl hown (by unfold maxLen; omega) _ _ (kS x) rfl rfl (Go.WideMaps.keyOf_string_mk Try.underlying9 (by unfold maxLen; exact hxs)) (.lit (kS s)) [] (plainElem_string Try.underlying9 hs) ?_; intro w1 hown1 hgrow1))
      have HG1 := Lib.hid (gb_trans HG.out hgrow1)
      clear hgrow1
      go_roundw
      case rel => exact ⟨k + 1, by omega, by go_num, Lib.hid ⟨_, hown1, HSM1.out⟩, HG1⟩
      case measure => simp [intOf]; omega
    · obtain rfl : k = m := by omega
      have HR := Lib.hid (show MapS wr bm (n + 16) (addF f ss s) by
        have := HM.out
        rw [HTT.out] at this
        exact mapS_mono this (by omega))
      go_wp2
      go_end0
      exact ⟨rfl, HR.out, HB0.out.grown HG.out (Nat.le_of_lt (by omega)) (fun j hj => by cases hj; exact Nat.le_refl _)⟩
/-- A name of a list is in the map. -/
def anyF (f : ByteArray → Option ByteArray) (ss : List ByteArray) : Bool := ss.any fun x => (f x).isSome
set_option maxHeartbeats 1000000 in
theorem hasMap_any (bm n : Nat) (f : ByteArray → Option ByteArray) (x : ByteArray) (w : World) (hm : MapS w bm n f) (hx : x.size ≤ maxLen) :
    Calls Try.prog 48 #[.map (some bm), .string x] w fun e w' => e = .returned (.bool (f x).isSome) ∧ w = w' := by
  obtain ⟨D, hown, hsm⟩ := hm
  have HH := Lib.hid (hsm.has' x)
  clear hsm
  go_enter Try.func48, Try.ntmps48
  go_wp2_with (first
    | (at_lookup; refine wpList_lookup_own_ok _ rfl _ _ 50 rfl 9 9 lawSt Try.underlying50 (plainElem Try.prog 9) (zeroSt _) (.lit (.string [])) [] (plainElem_string Try.underlying9 (by unfold maxLen; simp)) bm n D rfl hown _ (kS x) rfl (Go.WideMaps.keyOf_string_mk Try.underlying9 hx) ?_; intro v ps hv; clear hv; rw [HH.out]))
  go_ret
  exact ⟨rfl, rfl⟩
set_option maxRecDepth 20000 in
set_option maxHeartbeats 2000000 in
theorem indexHas_some (bm n : Nat) (f : ByteArray → Option ByteArray) (ss : List ByteArray) (b off cap m : Nat) (w : World) (hm : MapS w bm n f) (hn : Hid (ss.length = m)) (hn1 : m ≤ 1048576) (hb : b < w.heap.size) (hc : ∀ j, j < m → w.cell? ⟨b, off + j, none⟩ = some (.string (ss.getD j ByteArray.empty))) (hz : SzSt ss) :
    Calls Try.prog 60 #[.slice (some ⟨b, off, none⟩) m cap, .func (.func 48) #[.map (some bm)] #[]] w fun e w' => (∃ i : Int, e = .returned (.int .i64 i) ∧ (0 ≤ i ↔ anyF f ss = true)) ∧ w = w' := by
  have HM := Lib.hid hm
  have HC := Lib.hid hc
  have HZ := Lib.hid hz
  clear hm hc hz
  go_enter Try.func60, Try.ntmps60
  go_wp2
  go_loop [8] (fun i => ∃ k : Nat, k ≤ m ∧ i = .int .i64 k ∧ Hid (∀ j, j < k → (f (ss.getD j ByteArray.empty)).isSome = false)) (fun i => m - (intOf i).toNat)
  case atStart => exact ⟨0, by omega, rfl, Lib.hid (fun j hj => by omega)⟩
  case round =>
    obtain ⟨k, hk, rfl, HA⟩ := hrel
    by_cases hlt : k < m
    · have d0 := HC.out k hlt
      have hxs := HZ.out k (by rw [hn.out]; exact hlt)
      have hlt1 : (k : Int) < (m : Int) := by omega
      have hk0 : (0 : Int) ≤ (k : Int) := by omega
      obtain ⟨x, hx⟩ : ∃ x, ss.getD k ByteArray.empty = x := ⟨_, rfl⟩
      rw [hx] at d0 hxs
      have HP := Lib.hid (hasMap_any bm n f x w HM.out (by unfold maxLen; exact hxs))
      rcases Bool.eq_false_or_eq_true (f x).isSome with h1 | h1
      · have HT := Lib.hid (show anyF f ss = true from any_at (d := ByteArray.empty) (k := k) (by rw [hn.out]; exact hlt) (by rw [hx]; exact h1))
        rw [h1] at HP
        clear h1 hx
        go_wp2_with fail
        refine HP.out.mono ?_
        rintro e w2 ⟨rfl, rfl⟩
        go_wp2
        go_ret
        exact ⟨⟨_, rfl, ⟨fun _ => HT.out, fun _ => by omega⟩⟩, rfl⟩
      · have HNX := Lib.hid (show ∀ j, j < k + 1 → (f (ss.getD j ByteArray.empty)).isSome = false from fun j hj => by
          by_cases e : j = k
          · subst e; rw [hx]; exact h1
          · exact HA.out j (by omega))
        rw [h1] at HP
        clear h1 hx
        go_wp2_with fail
        refine HP.out.mono ?_
        rintro e w2 ⟨rfl, rfl⟩
        go_wp2
        go_round
        case rel => exact ⟨k + 1, by omega, by go_num, HNX⟩
        case measure => simp [intOf]; omega
    · obtain rfl : k = m := by omega
      have HT := Lib.hid (show anyF f ss = false from any_none (d := ByteArray.empty) (fun j hj => HA.out j (by rw [hn.out] at hj; exact hj)))
      go_wp2
      go_ret
      exact ⟨⟨_, rfl, ⟨fun h => by omega, fun h => by rw [HT.out] at h; cases h⟩⟩, rfl⟩
theorem indexHas_none (bm : Nat) (a : Option Addr) (c : Nat) (w : World) :
    Calls Try.prog 60 #[.slice a 0 c, .func (.func 48) #[.map (some bm)] #[]] w fun e w' => e = .returned (.int .i64 (-1)) ∧ w = w' := by
  go_enter Try.func60, Try.ntmps60
  go_wp2
  refine wp_loop_rounds 1 ?_
  rw [rounds_succ]
  go_wp2
  go_ret
  exact ⟨rfl, rfl⟩
theorem indexHas_any (bm n : Nat) (f : ByteArray → Option ByteArray) (ss : List ByteArray) (v : Value) (w : World) (hm : MapS w bm n f) (hv : StAt w v ss) (hz : SzSt ss) :
    Calls Try.prog 60 #[v, .func (.func 48) #[.map (some bm)] #[]] w fun e w' => (∃ i : Int, e = .returned (.int .i64 i) ∧ (0 ≤ i ↔ anyF f ss = true)) ∧ w = w' := by
  have hl := hv.1
  obtain ⟨_, ⟨a, c, rfl, rfl⟩ | ⟨b, off, cap, rfl, hb, hc⟩⟩ := hv
  · refine (indexHas_none bm a c w).mono ?_
    rintro e w' ⟨rfl, rfl⟩
    exact ⟨⟨_, rfl, by simp [anyF]⟩, rfl⟩
  · exact indexHas_some bm n f ss b off cap _ w hm (Lib.hid rfl) hl hb hc hz
set_option maxHeartbeats 1000000 in
theorem containsHas_any (bm n : Nat) (f : ByteArray → Option ByteArray) (ss : List ByteArray) (v : Value) (w : World) (hm : MapS w bm n f) (hv : StAt w v ss) (hz : SzSt ss) :
    Calls Try.prog 47 #[v, .func (.func 48) #[.map (some bm)] #[]] w fun e w' => e = .returned (.bool (anyF f ss)) ∧ w = w' := by
  have HC := Lib.hid (indexHas_any bm n f ss v w hm hv hz)
  obtain ⟨a, c, rfl⟩ := st_form hv
  clear hv hm hz
  generalize (anyF f ss) = r at *
  generalize ss.length = m at *
  go_enter Try.func47, Try.ntmps47
  go_wp2_with fail
  refine HC.out.mono ?_
  rintro e w1 ⟨⟨i, rfl, hi⟩, rfl⟩
  cases r with
  | true =>
    have h0 : 0 ≤ i := hi.2 rfl
    have hd : decide (0 ≤ i) = true := decide_eq_true h0
    clear hi
    go_wp2
    go_ret
    exact ⟨rfl, rfl⟩
  | false =>
    have h0 : ¬ 0 ≤ i := fun h => by have := hi.1 h; cases this
    have hd : decide (0 ≤ i) = false := decide_eq_false h0
    clear hi
    go_wp2
    go_ret
    exact ⟨rfl, rfl⟩
set_option maxHeartbeats 1000000 in
theorem hasAny_any (bm n : Nat) (f : ByteArray → Option ByteArray) (s : ByteArray) (v : Value) (ss : List ByteArray) (z : Int) (w : World) (hm : MapS w bm n f) (hv : StAt w v ss) (hz : SzSt ss) :
    Calls Try.prog 29 #[.map (some bm), .agg #[.string s, v, .int .i64 z]] w fun e w' => e = .returned (.bool (anyF f ss)) ∧ Below w.heap.size w w' := by
  have HB := Lib.hid (below_alT w (.cells #[.string s, v, .int .i64 z] 27))
  have HC := Lib.hid (containsHas_any bm n f ss v _ (mapS_kept HB.out hm) (st_kept HB.out hv) hz)
  obtain ⟨a, c, rfl⟩ := st_form hv
  clear hv hm hz
  generalize (anyF f ss) = r at *
  generalize ss.length = m at *
  go_enter Try.func29, Try.ntmps29
  go_wp2_with fail
  refine HC.out.mono ?_
  rintro e w1 ⟨rfl, rfl⟩
  go_wp2
  go_ret
  exact ⟨rfl, HB.out⟩
end Go.Proofs.Ytjicnfgpbbganaa
