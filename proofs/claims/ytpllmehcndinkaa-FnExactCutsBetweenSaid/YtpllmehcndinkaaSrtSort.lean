/- A row of cuts sorted by the library: what becomes of it. -/
import Derived.Test.YtpllmehcndinkaaG3
import Derived.Test.YtpllmehcndinkaaShelfS
import Derived.Deep.QuietTactic
import Derived.BigQuiet
set_option linter.unusedVariables false
namespace Go.Proofs.Ytpllmehcndinkaa
open Go.ChangeShapes Go.WideShapes Go.ChangeAt Go.RowKit Go.Shelf Go.Lib Go.Sort

noncomputable def srtT : TypeInfo := (Try.prog.info? 63).get (by kernel_rfl)
noncomputable def srtE : TypeInfo := (Try.prog.info? 104).get (by kernel_rfl)
theorem srtK (n : Nat) (h2 : 2 ≤ n) : Lib.swapperK n srtE 25 = 9 := by
  have a : srtE.hasPointers = false := by kernel_rfl
  have b : srtE.bytes = 16 := by kernel_rfl
  have c : (n == 0) = false := by simp; omega
  have d : (n == 1) = false := by simp; omega
  simp [Lib.swapperK, a, b, c, d]
theorem srtK0 : Lib.swapperK 0 srtE 25 = 1 := rfl
theorem srtK1 : Lib.swapperK 1 srtE 25 = 2 := rfl
def encC (p : Ct) : List Value := [.int .i64 p.1, .int .i64 p.2]
def ltZ (a b : Ct) : Bool := decide (a.1 < b.1)
theorem swo_ltZ : SWO ltZ where
  irrefl := fun x => by simp [ltZ]
  trans := fun x y z h1 h2 => by simp [ltZ] at *; omega
  ntrans := fun x y z h1 h2 => by simp [ltZ] at *; omega
set_option maxHeartbeats 2000000 in
theorem lessZ_any (blk off c Bs size : Nat) (W : World) (G : Nat → Int) (hs : W.cell? ⟨Bs, 0, none⟩ = some (.slice (some ⟨blk, off, none⟩) size c))
    (hc : ∀ t, t < size → W.cell? ⟨blk, off + t * 2, none⟩ = some (.int .i64 (G t))) (i j : Nat) (hi : i < size) (hj : j < size) (_hsz : size < 4611686018427387904) :
    Calls Try.prog 121 #[.int .i64 i, .int .i64 j, .pointer (some ⟨Bs, 0, none⟩)] W fun e w' => e = .returned (.bool (decide (G i < G j))) ∧ ∃ q, w' = W.drewN q := by
  have ci := hc i hi
  have cj := hc j hj
  go_enter Try.func121, Try.ntmps121
  go_wp2
  go_quiet (fail)
  go_wp2
  go_ret
  exact ⟨rfl, nq, rfl⟩
theorem flatK_list (rs : List Ct) : (flatK encC 2 rs.toArray).toList = i64s (flatC rs) := by
  apply List.ext_getElem?
  intro j
  by_cases hj : j < rs.length * 2
  · have e : (flatK encC 2 rs.toArray).toList[j]? = some ((flatK encC 2 rs.toArray)[j]!) := by
      have hs : j < (flatK encC 2 rs.toArray).size := by simpa [flatK] using hj
      rw [Array.getElem?_toList, Array.getElem?_eq_getElem hs, getElem!_pos (flatK encC 2 rs.toArray) j hs]
    rw [e, get_flatK encC 2 rs.toArray j (by simpa using hj)]
    obtain ⟨i, f, rfl, hf⟩ : ∃ i f, j = i * 2 + f ∧ f < 2 := ⟨j / 2, j % 2, by omega, by omega⟩
    have hi : i < rs.length := by omega
    have e1 : (i * 2 + f) / 2 = i := by omega
    have e2 : (i * 2 + f) % 2 = f := by omega
    rw [e1, e2, i64s_get _ _ (by rw [flatC_len]; omega)]
    have hg : rs.toArray[i]! = rs.getD i zC := by
      rw [getElem!_pos rs.toArray i (by simpa using hi), List.getD_eq_getElem?_getD, List.getElem?_eq_getElem hi]; rfl
    rw [hg]
    obtain ⟨g0, g1⟩ := flatC_get rs i hi
    rcases (by omega : f = 0 ∨ f = 1) with rfl | rfl
    · rw [Nat.add_zero, show (flatC rs).getD (i * 2) 0 = (rs.getD i zC).1 by rw [List.getD_eq_getElem?_getD, g0]; rfl]; rfl
    · rw [show (flatC rs).getD (i * 2 + 1) 0 = (rs.getD i zC).2 by rw [List.getD_eq_getElem?_getD, g1]; rfl]; rfl
  · rw [List.getElem?_eq_none (by simp [flatK]; omega), List.getElem?_eq_none (by simp [i64s, flatC_len]; omega)]
theorem putCells_take (F c : Array Value) (h : F.size ≤ c.size) : (putCells id 0 F c).toList.take F.size = F.toList ∧ (putCells id 0 F c).size = c.size := by
  refine ⟨List.ext_getElem (by simp [putCells]; omega) fun i h1 h2 => ?_, by simp [putCells]⟩
  have hi : i < F.size := by simpa using h2
  simp [putCells, hi]
theorem row_holds {w : World} {B g n cap : Nat} {rs : List Ct} (hn : rs.length = n) (h : w.ownsRow B 104 2 (.slice (some ⟨g, 0, none⟩) n cap) n (i64s (flatC rs))) : HoldsK encC 2 w g 0 rs.toArray := by
  intro j hj
  have hj2 : j < rs.length * 2 := by simpa [flatK] using hj
  rw [Nat.zero_add]
  refine ⟨?_, h.frozenAt j⟩
  rw [h.cellAt j (by omega), ← flatK_list]
  have hs : j < (flatK encC 2 rs.toArray).size := hj
  rw [Array.getElem?_toList, Array.getElem?_eq_getElem hs, getElem!_pos (flatK encC 2 rs.toArray) j hs]; rfl
theorem row_sorted {w : World} {B g n m cap : Nat} {rs qs : List Ct} {os : Array Obj} (hn : rs.length = n) (hq : qs.length = n) (h : w.ownsRow B 104 2 (.slice (some ⟨g, 0, none⟩) n cap) n (i64s (flatC rs))) :
    (grow (putRowK encC 2 (Sort.ahead w m) g 0 qs.toArray) os).ownsRow B 104 2 (.slice (some ⟨g, 0, none⟩) n cap) n (i64s (flatC qs)) ∧ w.grownBy (grow (putRowK encC 2 (Sort.ahead w m) g 0 qs.toArray) os) (some g) := by
  obtain ⟨h0, ⟨e, _⟩ | ⟨g', cap', cur, e, hb, hg, h1, h2, h3, h4⟩⟩ := h
  · cases e
  · simp only [Value.slice.injEq, Option.some.injEq, Addr.mk.injEq] at e
    obtain ⟨⟨rfl, _⟩, _, rfl⟩ := e
    have hgl : g < w.heap.size := (Array.getElem?_eq_some_iff.1 hg).1
    have hsz : (putRowK encC 2 (Sort.ahead w m) g 0 qs.toArray).heap.size = w.heap.size := by simp [putRowK, putRow, mapBlock, Sort.ahead]
    have hFs : (flatK encC 2 qs.toArray).size = n * 2 := by simp [flatK, hq]
    have hF : (flatK encC 2 qs.toArray).size ≤ cur.size := by rw [hFs, h3]; exact Nat.mul_le_mul_right 2 h1
    obtain ⟨t1, t2⟩ := putCells_take _ _ hF
    refine ⟨⟨by rw [i64s]; simp [flatC_len, hq], .inr ⟨g, cap, putCells id 0 (flatK encC 2 qs.toArray) cur, rfl, hb, ?_, h1, h2, by rw [t2, h3], by rw [← hFs, t1, flatK_list]⟩⟩, rfl, rfl, rfl, ?_, fun k hk hne => ?_⟩
    · rw [heap_grow_old _ _ (by rw [hsz]; exact hgl)]
      show ((Sort.ahead w m).heap.modify g (onCells (putCells id 0 (flatK encC 2 qs.toArray))))[g]? = _
      rw [Array.getElem?_modify, if_pos rfl]
      show Option.map _ w.heap[g]? = _
      rw [hg]
      simp only [Option.map_some, onCells]
    · show w.heap.size ≤ (grow (putRowK encC 2 (Sort.ahead w m) g 0 qs.toArray) os).heap.size
      simp [grow, hsz]
    · rw [heap_grow_old _ _ (by rw [hsz]; exact hk)]
      show ((Sort.ahead w m).heap.modify g _)[k]? = _
      rw [Array.getElem?_modify, if_neg (fun e => hne (by rw [e]))]
      rfl
/-- What sort.Slice makes of a row of cuts of different zones. -/
def SrtPost (rs : List Ct) (B g n cap : Nat) (w : World) (e : Ending) (w' : World) : Prop :=
  e = .returned (.tuple #[]) ∧ ∃ qs : List Ct, qs.length = n ∧ (∀ c, c ∈ qs ↔ c ∈ rs) ∧ qs.Pairwise (fun a b => a.1 < b.1) ∧ w'.ownsRow B 104 2 (.slice (some ⟨g, 0, none⟩) n cap) n (i64s (flatC qs)) ∧ w.grownBy w' (some g)
theorem pairwise_of {qs : List Ct} (h : ∀ i j, i < j → j < qs.length → (qs.getD i zC).1 < (qs.getD j zC).1) : qs.Pairwise fun a b => a.1 < b.1 := by
  rw [List.pairwise_iff_getElem]
  intro i j hi hj hij
  have := h i j hij hj
  rwa [List.getD_eq_getElem?_getD, List.getElem?_eq_getElem hi, List.getD_eq_getElem?_getD, List.getElem?_eq_getElem hj] at this
set_option maxHeartbeats 2000000 in
theorem sortC_any (rs : List Ct) (B g n cap Bs : Nat) (w : World) (hn : rs.length = n) (hn12 : n ≤ 12) (hown : w.ownsRow B 104 2 (.slice (some ⟨g, 0, none⟩) n cap) n (i64s (flatC rs))) (hs : w.cell? ⟨Bs, 0, none⟩ = some (.slice (some ⟨g, 0, none⟩) n cap)) (hBs : Bs ≠ g) (hnd : rs.Pairwise fun a b => a.1 ≠ b.1) :
    Calls Try.prog 120 #[.iface 63 (.slice (some ⟨g, 0, none⟩) n cap), .func (.func 121) #[] #[.pointer (some ⟨Bs, 0, none⟩)]] w (SrtPost rs B g n cap w) := by
  have hgl := (hown.lt g rfl).2
  by_cases h2 : 2 ≤ n
  · have hH := row_holds hn hown
    have hless : LessReadsK Try.prog 121 #[.pointer (some ⟨Bs, 0, none⟩)] encC 2 ltZ g 0 rs.toArray.size w := by
      intro m os dk hds i j hi hj
      have e : sortWorldK encC 2 w g 0 m dk os = putRowK encC 2 (grow (Sort.ahead w m) os) g 0 dk := by
        unfold sortWorldK; rw [putRowK_grow _ _ (Sort.ahead w m) _ g 0 _ hgl]
      have hHg : HoldsK encC 2 (grow (Sort.ahead w m) os) g 0 rs.toArray := holdsK_grow _ _ _ _ g 0 _ hgl (holdsK_ahead _ _ _ _ _ _ _ hH)
      have hbl : Bs < w.heap.size := by
        unfold World.cell? at hs
        cases hh : w.heap[Bs]? with
        | none => rw [show (⟨Bs, 0, none⟩ : Addr).block = Bs from rfl, hh] at hs; simp at hs
        | some o => exact (Array.getElem?_eq_some_iff.1 hh).1
      refine lessZ_any g 0 cap Bs rs.toArray.size _ (fun t => dk[t]!.1) ?_ (fun t ht => ?_) i j hi hj (by simp; omega)
      · rw [e, cell?_putRowK_other _ _ _ g 0 dk _ hBs, cell?_grow _ _ _ hbl]
        show w.cell? _ = _
        rw [hs]; simp [hn]
      · rw [e]; exact ((holdsK_putRowK _ _ _ g 0 _ dk hHg hds).cell (i := t) (c := 0) (by omega) (by omega)).1
    have hS := Any.sort_Slice_small_cells_sorted Try.laysGg6 63 104 srtT srtE (by kernel_rfl) (by kernel_rfl) (by kernel_rfl) (by kernel_rfl) 25 (fun _ => by kernel_rfl) encC 2 (fun _ => rfl) (by kernel_rfl) (fun _ => by kernel_rfl)
      (fun x v hv => by simp [encC] at hv; rcases hv with rfl | rfl <;> rfl) ltZ swo_ltZ 121 _
      (enters_of Try.func121 (by kernel_rfl) rfl) g 0 cap rs.toArray (by simpa [hn] using h2) (by simpa [hn] using hn12) 163 (by rw [srtK _ (by simpa [hn] using h2)]; kernel_rfl) false
      (fun args W => run_callFunc_extern Try.func163 (by kernel_rfl) (by kernel_rfl) (by kernel_rfl) (e := Extern.ReflectliteSwapper.swap false) (by kernel_rfl) args W) w hless hH hgl
    change Calls Try.prog 120 _ _ _ at hS
    have hsn : rs.toArray.size = n := by simpa using hn
    rw [hsn] at hS
    refine hS.mono ?_
    rintro e w' ⟨rfl, d', m, os, ⟨hps, -, hpp⟩, hso, rfl⟩
    have hd : d' = d'.toList.toArray := rfl
    have hql : d'.toList.length = n := by rw [Array.length_toList, hps, hsn]
    have hperm : d'.toList.Perm rs := by
      have e1 : d'.extract 0 n = d' := by rw [← hsn, ← hps]; exact Array.extract_size
      have e2 : rs.toArray.extract 0 n = rs.toArray := by rw [← hsn]; exact Array.extract_size
      rw [e1, e2] at hpp
      exact hpp
    obtain ⟨k1, k2⟩ := row_sorted (m := m) (os := os) (qs := d'.toList) hn hql hown
    refine ⟨rfl, d'.toList, hql, fun c => hperm.mem_iff, ?_, k1, k2⟩
    have hnd2 : d'.toList.Pairwise fun a b => a.1 ≠ b.1 := (hperm.pairwise_iff (fun {a b} h => h.symm)).2 hnd
    refine pairwise_of fun i j hij hj => ?_
    have hi' : i < d'.toList.length := by omega
    have h3 := hso i j (Nat.zero_le _) hij (by omega)
    rw [List.pairwise_iff_getElem] at hnd2
    have h4 := hnd2 i j hi' hj hij
    rw [getElem!_pos d' i (by simpa using hi'), getElem!_pos d' j (by simpa using hj)] at h3
    rw [List.getD_eq_getElem?_getD, List.getElem?_eq_getElem hi', List.getD_eq_getElem?_getD, List.getElem?_eq_getElem hj]
    simp only [ltZ, decide_eq_false_iff_not, Array.getElem_toList, Option.getD_some] at h3 h4 ⊢
    omega
  · have hpost : ∀ os, SrtPost rs B g n cap w (.returned (.tuple #[])) (grow w os) := by
      intro os
      have hgb : w.grownBy (grow w os) (some g) := ⟨rfl, rfl, rfl, by simp [grow], fun k hk _ => heap_grow_old _ _ hk⟩
      have hgb2 : w.grownBy (grow w os) none := ⟨rfl, rfl, rfl, by simp [grow], fun k hk _ => heap_grow_old _ _ hk⟩
      refine ⟨rfl, rs, hn, fun c => Iff.rfl, ?_, hown.kept hgb2 (.inr (by simp [Value.ownBlock])), hgb⟩
      match rs, hn with
      | [], _ => exact List.Pairwise.nil
      | [x], _ => simp
      | x :: y :: r, hn => simp at hn; omega
    rcases (by omega : n = 0 ∨ n = 1) with h | h
    · subst h
      have hS := Any.sort_Slice_tiny Try.laysGg6 63 104 srtT srtE (by kernel_rfl) (by kernel_rfl) (by kernel_rfl) (by kernel_rfl) 25 (fun _ => by kernel_rfl) (some ⟨g, 0, none⟩) 0 cap (by omega) 155 (by rw [srtK0]; kernel_rfl) (.func 121) #[] #[.pointer (some ⟨Bs, 0, none⟩)] w
      change Calls Try.prog 120 _ _ _ at hS
      refine hS.mono ?_
      rintro e w' ⟨rfl, os, rfl⟩
      exact hpost os
    · subst h
      have hS := Any.sort_Slice_tiny Try.laysGg6 63 104 srtT srtE (by kernel_rfl) (by kernel_rfl) (by kernel_rfl) (by kernel_rfl) 25 (fun _ => by kernel_rfl) (some ⟨g, 0, none⟩) 1 cap (by omega) 156 (by rw [srtK1]; kernel_rfl) (.func 121) #[] #[.pointer (some ⟨Bs, 0, none⟩)] w
      change Calls Try.prog 120 _ _ _ at hS
      refine hS.mono ?_
      rintro e w' ⟨rfl, os, rfl⟩
      exact hpost os
end Go.Proofs.Ytpllmehcndinkaa
