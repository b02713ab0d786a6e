/- Measurements: when they are valid, both programs' answers. -/
import Derived.Test.YtfleececlafjkaaMeas
import Derived.Test.YtfleececlafjkaaFreq
import Derived.Test.YtfleececlafjkaaNameSpecE
import Derived.Test.YtfleececlafjkaaNameImplE
import Derived.Deep.QuietTactic
import Derived.BigQuiet
set_option linter.unusedVariables false
namespace Go.Proofs.Ytfleececlafjkaa
open Go.ChangeShapes Go.WideShapes Go.ChangeAt Go.RowKit

theorem l04Partial_any (k : Int) (w : World) :
    Calls Try.prog 99 #[.int .i64 k] w fun en w' => en = .returned (.bool (inB k 1 5)) ∧ w = w' := by
  go_enter Try.func99, Try.ntmps99
  go_wp2_with fail
  refine (l00In_any _ _ _ _).mono ?_
  rintro e w' ⟨rfl, rfl⟩
  go_wp2
  go_ret
  exact ⟨rfl, rfl⟩
def meaB (s : ByteArray) (k f : Int) : Bool := nameB s && (inB k 1 5 && okF f)
theorem mea_iff {s : ByteArray} {k f : Int} : meaB s k f = true ↔ nameB s = true ∧ inB k 1 5 = true ∧ okF f = true := by simp [meaB]
def okMt (r : Mt) : Bool := meaB r.1 r.2.1 r.2.2
def measB (rs : List Mt) : Bool := decide (rs.length ≤ 64) && rs.all okMt
theorem measB_no {rs : List Mt} {k : Nat} (hk : k < rs.length) (h : okMt (rs.getD k zM) = false) : measB rs = false := by
  have ha : rs.all okMt = false := by
    rw [List.all_eq_false]
    refine ⟨_, List.getElem_mem hk, ?_⟩
    rw [List.getD_eq_getElem?_getD, List.getElem?_eq_getElem hk] at h
    simpa using h
  unfold measB; rw [ha]; simp
theorem measB_end {rs : List Mt} (h : ∀ k, k < rs.length → okMt (rs.getD k zM) = true) : measB rs = decide (rs.length ≤ 64) := by
  have ha : rs.all okMt = true := by
    rw [List.all_eq_true]
    intro x hx
    obtain ⟨i, hi, rfl⟩ := List.mem_iff_getElem.1 hx
    have := h i hi
    rwa [List.getD_eq_getElem?_getD, List.getElem?_eq_getElem hi] at this
  unfold measB; rw [ha, Bool.and_true]
/-- The strings of a list are no longer than strings are. -/
def SzOk (rs : List Mt) : Prop := ∀ i, i < rs.length → (rs.getD i zM).1.size ≤ maxLen
/-- Block p holds a measurement. -/
structure MeaIn (w : World) (p : Nat) (s : ByteArray) (k f : Int) : Prop where
  c0 : w.cell? ⟨p, 0, none⟩ = some (.string s)
  c1 : w.cell? ⟨p, 1, none⟩ = some (.int .i64 k)
  c2 : w.cell? ⟨p, 2, none⟩ = some (.int .i64 f)
theorem mea_kept {w w' : World} {p : Nat} {s : ByteArray} {k f : Int} (hb : Below w.heap.size w w') (hl : p < w.heap.size) (h : MeaIn w p s k f) : MeaIn w' p s k f :=
  ⟨(below_cell hb _ _ hl).trans h.c0, (below_cell hb _ _ hl).trans h.c1, (below_cell hb _ _ hl).trans h.c2⟩
theorem mea_new (w : World) (s : ByteArray) (k f : Int) (T : TypeId) : MeaIn (w.alloc (.cells #[.string s, .int .i64 k, .int .i64 f] T)) w.heap.size s k f := ⟨by go_simp, by go_simp, by go_simp⟩
set_option maxHeartbeats 1000000 in
theorem l11One_any (b o : Nat) (s : ByteArray) (k f : Int) (w : World) (h : MIn w b o (s, k, f)) (hs : s.size ≤ maxLen) :
    Calls Try.prog 81 #[.pointer (some ⟨b, o, none⟩)] w fun e w' => e = .returned (.bool (meaB s k f)) ∧ w = w' := by
  have c0 : w.cell? ⟨b, o, none⟩ = some (.string s) := h.c0
  have c1 : w.cell? ⟨b, o + 1, none⟩ = some (.int .i64 k) := h.c1
  have c2 : w.cell? ⟨b, o + 2, none⟩ = some (.int .i64 f) := h.c2
  clear h
  rcases Bool.eq_false_or_eq_true (nameB s) with h1 | h1
  · have H1 := Lib.hid h1
    rcases Bool.eq_false_or_eq_true (inB k 1 5) with h2 | h2
    · have H2 := Lib.hid h2
      have HF := Lib.hid (show meaB s k f = okF f by unfold meaB; rw [h1, h2]; rfl)
      clear h1 h2
      go_enter Try.func81, Try.ntmps81
      go_wp2_with fail
      refine (specName_any s _ hs).mono ?_
      rintro e w2 ⟨rfl, rfl⟩
      rw [H1.out]
      go_wp2_with fail
      refine (l04Partial_any k _).mono ?_
      rintro e w2 ⟨rfl, rfl⟩
      rw [H2.out]
      go_wp2_with fail
      refine (l02Ok_any f _).mono ?_
      rintro e w2 ⟨rfl, rfl⟩
      go_wp2
      go_ret
      exact ⟨ret_bool HF.out.symm, rfl⟩
    · have H2 := Lib.hid h2
      have HF := Lib.hid (show meaB s k f = false by unfold meaB; rw [h1, h2]; rfl)
      clear h1 h2
      go_enter Try.func81, Try.ntmps81
      go_wp2_with fail
      refine (specName_any s _ hs).mono ?_
      rintro e w2 ⟨rfl, rfl⟩
      rw [H1.out]
      go_wp2_with fail
      refine (l04Partial_any k _).mono ?_
      rintro e w2 ⟨rfl, rfl⟩
      rw [H2.out]
      go_wp2
      go_ret
      exact ⟨ret_bool HF.out.symm, rfl⟩
  · have H1 := Lib.hid h1
    have HF := Lib.hid (show meaB s k f = false by unfold meaB; rw [h1]; rfl)
    clear h1
    go_enter Try.func81, Try.ntmps81
    go_wp2_with fail
    refine (specName_any s _ hs).mono ?_
    rintro e w2 ⟨rfl, rfl⟩
    rw [H1.out]
    go_wp2
    go_ret
    exact ⟨ret_bool HF.out.symm, rfl⟩
theorem isPartial_any (k : Int) (w : World) :
    Calls Try.prog 84 #[.int .i64 k] w fun en w' => en = .returned (.bool (inB k 1 5)) ∧ Below w.heap.size w w' := by
  go_enter Try.func84, Try.ntmps84
  go_wp2_with fail
  refine (within_i64 1 5 [k] w.heap.size 0 1 1 _ rfl (by omega) (cellF1 _ _ _)).mono ?_
  rintro en w1 ⟨rfl, rfl⟩
  go_wp2
  go_ret
  exact ⟨ret_bool (by simp [allIn]), (Below.refl _ _).alloc (Nat.le_refl _) _⟩
set_option maxHeartbeats 1000000 in
theorem meaValid_any (s : ByteArray) (k f : Int) (w : World) (hs : s.size ≤ maxLen) :
    Calls Try.prog 70 #[.agg #[.string s, .int .i64 k, .int .i64 f]] w fun e w' => e = .returned (.bool (meaB s k f)) ∧ Below w.heap.size w w' := by
  have HM := Lib.hid (mea_new w s k f 78)
  have hl : w.heap.size < (w.alloc (.cells #[.string s, .int .i64 k, .int .i64 f] 78)).heap.size := by simp
  have HB := Lib.hid ((Below.refl w.heap.size w).alloc (Nat.le_refl _) (.cells #[.string s, .int .i64 k, .int .i64 f] 78))
  rcases Bool.eq_false_or_eq_true (nameB s) with h1 | h1
  · have H1 := Lib.hid h1
    rcases Bool.eq_false_or_eq_true (inB k 1 5) with h2 | h2
    · have H2 := Lib.hid h2
      have HF := Lib.hid (show meaB s k f = okF f by unfold meaB; rw [h1, h2]; rfl)
      clear h1 h2
      go_enter Try.func70, Try.ntmps70
      go_wp2_with fail
      generalize (w.alloc (.cells #[.string s, .int .i64 k, .int .i64 f] 78)) = wA at *
      refine (implIsName_any s _ hs).mono ?_
      rintro e w2 ⟨rfl, hb⟩
      rw [H1.out]
      obtain ⟨c0, c1, c2⟩ := mea_kept hb hl HM.out
      have hl2 := Nat.lt_of_lt_of_le hl hb.size
      have HB2 := Lib.hid (below_of HB.out hb HB.out.size)
      clear hb
      go_wp2_with fail
      refine (isPartial_any k _).mono ?_
      rintro e w3 ⟨rfl, hb⟩
      rw [H2.out]
      obtain ⟨d0, d1, d2⟩ := mea_kept hb hl2 ⟨c0, c1, c2⟩
      have HB3 := Lib.hid (below_of HB2.out hb HB2.out.size)
      clear hb c0 c1 c2
      go_wp2_with fail
      refine (implIsFrequency_any f _).mono ?_
      rintro e w4 ⟨rfl, hb⟩
      have HB4 := Lib.hid (below_of HB3.out hb HB3.out.size)
      clear hb
      go_wp2
      go_ret
      exact ⟨ret_bool HF.out.symm, HB4.out⟩
    · have H2 := Lib.hid h2
      have HF := Lib.hid (show meaB s k f = false by unfold meaB; rw [h1, h2]; rfl)
      clear h1 h2
      go_enter Try.func70, Try.ntmps70
      go_wp2_with fail
      generalize (w.alloc (.cells #[.string s, .int .i64 k, .int .i64 f] 78)) = wA at *
      refine (implIsName_any s _ hs).mono ?_
      rintro e w2 ⟨rfl, hb⟩
      rw [H1.out]
      obtain ⟨c0, c1, c2⟩ := mea_kept hb hl HM.out
      have HB2 := Lib.hid (below_of HB.out hb HB.out.size)
      clear hb
      go_wp2_with fail
      refine (isPartial_any k _).mono ?_
      rintro e w3 ⟨rfl, hb⟩
      rw [H2.out]
      have HB3 := Lib.hid (below_of HB2.out hb HB2.out.size)
      clear hb c0 c1 c2
      go_wp2
      go_ret
      exact ⟨ret_bool HF.out.symm, HB3.out⟩
  · have H1 := Lib.hid h1
    have HF := Lib.hid (show meaB s k f = false by unfold meaB; rw [h1]; rfl)
    clear h1
    go_enter Try.func70, Try.ntmps70
    go_wp2_with fail
    generalize (w.alloc (.cells #[.string s, .int .i64 k, .int .i64 f] 78)) = wA at *
    refine (implIsName_any s _ hs).mono ?_
    rintro e w2 ⟨rfl, hb⟩
    rw [H1.out]
    have HB2 := Lib.hid (below_of HB.out hb HB.out.size)
    clear hb
    go_wp2
    go_ret
    exact ⟨ret_bool HF.out.symm, HB2.out⟩
set_option maxRecDepth 20000 in
set_option maxHeartbeats 2000000 in
theorem l11Ok_some (rs : List Mt) (b off cap n : Nat) (w : World) (hn : Hid (rs.length = n)) (hn1 : n ≤ 1048576) (hc : ∀ i, i < n → MIn w b (off + i * 3) (rs.getD i zM)) (hz : SzOk rs) :
    Calls Try.prog 66 #[.slice (some ⟨b, off, none⟩) n cap] w fun e w' => e = .returned (.bool (measB rs)) ∧ w = w' := by
  have HC := Lib.hid hc
  have HZ := Lib.hid hz
  have HNO := Lib.hid (fun k (hk : k < rs.length) h => measB_no (rs := rs) (k := k) hk h)
  clear hc hz
  go_enter Try.func66, Try.ntmps66
  go_wp2
  go_loop [3] (fun i => ∃ k : Nat, k ≤ n ∧ i = .int .i64 k ∧ Hid (∀ j, j < k → okMt (rs.getD j zM) = true)) (fun i => n - (intOf i).toNat)
  case atStart => exact ⟨0, by omega, rfl, Lib.hid (fun j hj => by omega)⟩
  case round =>
    obtain ⟨k, hk, rfl, HA⟩ := hrel
    by_cases hlt : k < n
    · have hr := HC.out k hlt
      have hs := HZ.out k (by rw [hn.out]; exact hlt)
      obtain ⟨⟨x, y, z⟩, hxyz⟩ : ∃ r, rs.getD k zM = r := ⟨_, rfl⟩
      rw [hxyz] at hr hs
      have HR := Lib.hid hr
      have HS := Lib.hid (show x.size ≤ maxLen from hs)
      have hkm : (k : Int) < (n : Int) := by omega
      have hk0 : (0 : Int) ≤ (k : Int) := by omega
      clear hr hs
      rcases Bool.eq_false_or_eq_true (meaB x y z) with h4 | h4
      · have H4 := Lib.hid h4
        have HOK := Lib.hid (show okMt (rs.getD k zM) = true by rw [hxyz]; exact h4)
        clear h4 hxyz
        go_wp2_with fail
        refine (l11One_any b (off + k * 3) x y z _ HR.out HS.out).mono ?_
        rintro e w2 ⟨rfl, rfl⟩
        rw [H4.out]
        go_wp2
        go_round
        case rel => exact ⟨k + 1, by omega, by go_num, Lib.hid (fun j hj => by
          by_cases e : j = k
          · subst e; exact HOK.out
          · exact HA.out j (by omega))⟩
        case measure => simp [intOf]; omega
      · have H4 := Lib.hid h4
        have HF := Lib.hid (HNO.out k (by rw [hn.out]; exact hlt) (by rw [hxyz]; exact h4))
        clear h4 hxyz
        go_wp2_with fail
        refine (l11One_any b (off + k * 3) x y z _ HR.out HS.out).mono ?_
        rintro e w2 ⟨rfl, rfl⟩
        rw [H4.out]
        go_wp2
        go_ret
        exact ⟨ret_bool HF.out.symm, rfl⟩
    · obtain rfl : k = n := by omega
      have HF := Lib.hid (show measB rs = decide ((k : Int) ≤ 64) by
        rw [measB_end (fun j hj => HA.out j (by rw [hn.out] at hj; exact hj)), hn.out]
        rw [decide_eq_decide]; omega)
      go_wp2
      go_ret
      exact ⟨ret_bool HF.out.symm, rfl⟩
theorem l11Ok_none (a : Option Addr) (c : Nat) (w : World) :
    Calls Try.prog 66 #[.slice a 0 c] w fun e w' => e = .returned (.bool (measB [])) ∧ w = w' := by
  go_enter Try.func66, Try.ntmps66
  go_wp2
  refine wp_loop_rounds 1 ?_
  rw [rounds_succ]
  go_wp2
  go_ret
  exact ⟨rfl, rfl⟩
theorem l11Ok_any (rs : List Mt) (v : Value) (w : World) (h : MeasAt w v rs) (hz : SzOk rs) :
    Calls Try.prog 66 #[v] w fun e w' => e = .returned (.bool (measB rs)) ∧ w = w' := by
  by_cases h0 : rs.length = 0
  · obtain rfl : rs = [] := List.length_eq_zero_iff.1 h0
    obtain ⟨a, c, rfl⟩ := meas_form h
    exact l11Ok_none a c w
  · have hl := h.1
    obtain ⟨b, off, cap, rfl, hb, hc⟩ := meas_cells h (by omega)
    exact l11Ok_some rs b off cap _ w (Lib.hid rfl) hl hc hz
theorem specVM_any (rs : List Mt) (v : Value) (w : World) (h : MeasAt w v rs) (hz : SzOk rs) :
    Calls Try.prog 35 #[v] w fun e w' => e = .returned (.bool (measB rs)) ∧ Below w.heap.size w w' := by
  have HC := Lib.hid (l11Ok_any rs v w h hz)
  clear h
  generalize measB rs = r at *
  go_enter Try.func35, Try.ntmps35
  go_wp2_with fail
  refine HC.out.mono ?_
  rintro e w1 ⟨rfl, rfl⟩
  go_wp2
  go_ret
  exact ⟨rfl, Below.refl _ _⟩
theorem notValidM_any (s : ByteArray) (k f : Int) (w : World) (hs : s.size ≤ maxLen) : Calls Try.prog 69 #[.agg #[.string s, .int .i64 k, .int .i64 f]] w fun e w' => e = .returned (.bool (!meaB s k f)) ∧ Below w.heap.size w w' := by
  have HC := Lib.hid (meaValid_any s k f (w.alloc (.cells #[.string s, .int .i64 k, .int .i64 f] 78)) hs)
  generalize meaB s k f = r at *
  go_enter Try.func69, Try.ntmps69
  go_wp2_with fail
  refine HC.out.mono ?_
  rintro e w1 ⟨rfl, hb⟩
  have HB := Lib.hid (below_of ((Below.refl w.heap.size w).alloc (Nat.le_refl _) _) hb (by simp))
  clear hb
  go_wp2
  go_ret
  exact ⟨rfl, HB.out⟩
def IdxIsM (b : Bool) (i : Int) : Prop := (b = true → 0 ≤ i) ∧ (b = false → i = -1)
def IdxPostM (b : Bool) (w : World) (e : Ending) (w' : World) : Prop := ∃ i : Int, e = .returned (.int .i64 i) ∧ IdxIsM b i ∧ Below w.heap.size w w'
set_option maxRecDepth 20000 in
set_option maxHeartbeats 2000000 in
theorem indexF_vm (p : Mt → Bool) (cs : List Mt) (b off cap n : Nat) (w : World) (hn : Hid (cs.length = n)) (hn1 : n ≤ 1048576) (hb : b < w.heap.size) (hc : ∀ i, i < n → MIn w b (off + i * 3) (cs.getD i zM))
    (hz : SzOk cs) (hp : ∀ (x : ByteArray) (y z : Int) (W : World), x.size ≤ maxLen → Below w.heap.size w W → Calls Try.prog 69 #[.agg #[.string x, .int .i64 y, .int .i64 z]] W fun e W' => e = .returned (.bool (p (x, y, z))) ∧ Below W.heap.size W W') :
    Calls Try.prog 82 #[.slice (some ⟨b, off, none⟩) n cap, .func (.func 69) #[] #[]] w (IdxPostM (cs.any p) w) := by
  have HC := Lib.hid (fun W (hW : Below w.heap.size w W) i (hi : i < n) => min_kept hW hb (hc i hi))
  have HP := Lib.hid hp
  have HZ := Lib.hid hz
  clear hc hp hz
  go_enter Try.func82, Try.ntmps82
  go_wp2
  go_loopw [8] (fun i wr => ∃ k : Nat, k ≤ n ∧ i = .int .i64 k ∧ Hid (∀ j, j < k → p (cs.getD j zM) = false) ∧ Below w.heap.size w wr) (fun i _ => n - (intOf i).toNat)
  case atStart => exact ⟨0, by omega, rfl, Lib.hid (fun j hj => by omega), Below.refl _ _⟩
  case round =>
    obtain ⟨k, hk, rfl, HA, hbw⟩ := hrel
    have HB := Lib.hid hbw
    by_cases hlt : k < n
    · have hs := HZ.out k (by rw [hn.out]; exact hlt)
      obtain ⟨⟨x, y, z⟩, hxy⟩ : ∃ r, cs.getD k zM = r := ⟨_, rfl⟩
      have hr := HC.out wr hbw k hlt
      rw [hxy] at hr hs
      have d0 : wr.cell? ⟨b, off + k * 3, none⟩ = some (.string x) := hr.c0
      have d1 : wr.cell? ⟨b, off + k * 3 + 1, none⟩ = some (.int .i64 y) := hr.c1
      have d2 : wr.cell? ⟨b, off + k * 3 + 2, none⟩ = some (.int .i64 z) := hr.c2
      have HS := Lib.hid (show x.size ≤ maxLen from hs)
      have HXY := Lib.hid hxy
      have hlt1 : (k : Int) < (n : Int) := by omega
      have hk0 : (0 : Int) ≤ (k : Int) := by omega
      clear hr hxy hbw hs
      have HPX := Lib.hid (fun W hW => HP.out x y z W HS.out hW)
      rcases Bool.eq_false_or_eq_true (p (x, y, z)) with h1 | h1
      · have HT := Lib.hid (show cs.any p = true by
          rw [List.any_eq_true]
          have hkl : k < cs.length := by rw [hn.out]; exact hlt
          refine ⟨cs.getD k zM, by rw [List.getD_eq_getElem?_getD, List.getElem?_eq_getElem hkl]; exact List.getElem_mem hkl, by rw [HXY.out, h1]⟩)
        rw [h1] at HPX
        clear h1
        go_wp2_with fail
        refine (HPX.out _ HB.out).mono ?_
        rintro e w2 ⟨rfl, hb2⟩
        have HB2 := Lib.hid (below_of HB.out hb2 HB.out.size)
        clear hb2
        go_wp2
        go_ret
        exact ⟨_, rfl, ⟨fun _ => by omega, (fun h => by rw [HT.out] at h; cases h)⟩, HB2.out⟩
      · have HT := Lib.hid (show ∀ j, j < k + 1 → p (cs.getD j zM) = false from fun j hj => by
          by_cases e : j = k
          · subst e; rw [HXY.out, h1]
          · exact HA.out j (by omega))
        rw [h1] at HPX
        clear h1
        go_wp2_with fail
        refine (HPX.out _ HB.out).mono ?_
        rintro e w2 ⟨rfl, hb2⟩
        have HB2 := Lib.hid (below_of HB.out hb2 HB.out.size)
        clear hb2
        go_wp2
        go_roundw
        case rel => exact ⟨k + 1, by omega, by go_num, HT, HB2.out⟩
        case measure => simp [intOf]; omega
    · obtain rfl : k = n := by omega
      have HT := Lib.hid (show cs.any p = false by
        rw [List.any_eq_false]
        intro q hq
        obtain ⟨i, hi, rfl⟩ := List.mem_iff_getElem.1 hq
        have := HA.out i (by rw [hn.out] at hi; exact hi)
        rw [List.getD_eq_getElem?_getD, List.getElem?_eq_getElem hi] at this
        simp only [Option.getD_some] at this
        rw [this]; simp)
      clear hbw
      go_wp2
      go_ret
      exact ⟨_, rfl, ⟨(fun h => by rw [HT.out] at h; cases h), fun _ => rfl⟩, HB.out⟩
theorem indexF0_vm (a : Option Addr) (c : Nat) (w : World) :
    Calls Try.prog 82 #[.slice a 0 c, .func (.func 69) #[] #[]] w fun e w' => e = .returned (.int .i64 (-1)) ∧ w = w' := by
  go_enter Try.func82, Try.ntmps82
  go_wp2
  refine wp_loop_rounds 1 ?_
  rw [rounds_succ]
  go_wp2
  go_ret
  exact ⟨rfl, rfl⟩
set_option maxHeartbeats 1000000 in
theorem containsF_vm (p : Mt → Bool) (cs : List Mt) (v : Value) (w : World) (h : MeasAt w v cs)
    (hz : SzOk cs) (hp : ∀ (x : ByteArray) (y z : Int) (W : World), x.size ≤ maxLen → Below w.heap.size w W → Calls Try.prog 69 #[.agg #[.string x, .int .i64 y, .int .i64 z]] W fun e W' => e = .returned (.bool (p (x, y, z))) ∧ Below W.heap.size W W') :
    Calls Try.prog 68 #[v, .func (.func 69) #[] #[]] w fun e w' => e = .returned (.bool (cs.any p)) ∧ Below w.heap.size w w' := by
  by_cases h0 : cs.length = 0
  · obtain rfl : cs = [] := List.length_eq_zero_iff.1 h0
    obtain ⟨a, c, rfl⟩ := meas_form h
    clear h hp h0 hz
    go_enter Try.func68, Try.ntmps68
    go_wp2_with fail
    refine (indexF0_vm a c _).mono ?_
    rintro e w1 ⟨rfl, rfl⟩
    go_wp2
    go_ret
    exact ⟨rfl, Below.refl _ _⟩
  · have hl := h.1
    obtain ⟨b, off, cap, rfl, hb, hc⟩ := meas_cells h (by omega)
    have HI := Lib.hid (indexF_vm p cs b off cap _ w (Lib.hid rfl) hl hb hc hz hp)
    clear h hp h0 hc hl hz
    generalize cs.length = n at *
    go_enter Try.func68, Try.ntmps68
    go_wp2_with fail
    refine HI.out.mono ?_
    rintro e w1 ⟨i, rfl, ⟨h1, h2⟩, hb1⟩
    have HB := Lib.hid hb1
    rcases Bool.eq_false_or_eq_true (cs.any p) with h3 | h3
    · have hi := h1 h3
      have H3 := Lib.hid h3
      clear h1 h2 h3 hb1
      go_wp2
      go_ret
      exact ⟨ret_bool H3.out.symm, HB.out⟩
    · have hi := h2 h3
      have H3 := Lib.hid h3
      subst hi
      clear h1 h2 h3 hb1
      go_wp2
      go_ret
      exact ⟨ret_bool H3.out.symm, HB.out⟩

theorem any_notM (cs : List Mt) : cs.any (fun c => !okMt c) = !cs.all okMt := by
  induction cs with
  | nil => rfl
  | cons c cs ih => simp [ih, Bool.not_and]
set_option maxHeartbeats 1000000 in
theorem implVM_any (cs : List Mt) (v : Value) (w : World) (h : MeasAt w v cs) (hz : SzOk cs) :
    Calls Try.prog 37 #[v] w fun e w' => e = .returned (.bool (measB cs)) ∧ Below w.heap.size w w' := by
  have HI := Lib.hid (containsF_vm (fun c => !okMt c) cs v w h hz (fun x y z W hs _ => notValidM_any x y z W hs))
  have HA := Lib.hid (any_notM cs)
  obtain ⟨a, c, rfl⟩ := meas_form h
  clear h hz
  by_cases hl : cs.length ≤ 64
  · have HR := Lib.hid (show measB cs = cs.all okMt by unfold measB; rw [decide_eq_true hl]; rfl)
    rw [HA.out] at HI
    generalize cs.all okMt = r at *
    generalize cs.length = n at *
    have hl1 : (n : Int) ≤ 64 := by omega
    clear hl
    go_enter Try.func37, Try.ntmps37
    go_wp2_with fail
    refine HI.out.mono ?_
    rintro e w1 ⟨rfl, hb⟩
    have HB := Lib.hid hb
    clear hb
    go_wp2
    go_ret
    exact ⟨ret_bool (by first | exact HR.out.symm | (rw [HR.out]; simp)), HB.out⟩
  · have HR := Lib.hid (show measB cs = false by unfold measB; rw [decide_eq_false hl]; rfl)
    generalize cs.length = n at *
    have hl1 : ¬ (n : Int) ≤ 64 := by omega
    clear hl HI
    go_enter Try.func37, Try.ntmps37
    go_wp2
    go_ret
    exact ⟨ret_bool HR.out.symm, Below.refl _ _⟩
end Go.Proofs.Ytfleececlafjkaa
