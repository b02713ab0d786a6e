/- A temperament read back from its text: the program's walk. -/
import Derived.Test.YtndmakimkghihabDoorTemRead
import Derived.Test.YtndmakimkghihabDoorShelfG
namespace Go.Proofs.YtndmakimkghihabDoor
open Go.ChangeShapes Go.WideShapes Go.ChangeAt Go.RowKit

theorem cut_facts (s : ByteArray) : (∀ nm zs, TemRd s nm zs → nm.data.toList = (Lib.cut s.data.toList [32]).1 ∧ readV (Lib.cut s.data.toList [32]).2.1 = some zs ∧ tempB nm zs = true) ∧
    (∀ nm zs, nm.data.toList = (Lib.cut s.data.toList [32]).1 → readV (Lib.cut s.data.toList [32]).2.1 = some zs → tempB nm zs = true → TemRd s nm zs) ∧
    (Lib.cut s.data.toList [32]).1.length ≤ s.size ∧ (Lib.cut s.data.toList [32]).2.1.length ≤ s.size := by
  have hl := size_list s
  obtain ⟨h1, h2⟩ := splitL_index 32 s.data.toList
  by_cases hi : 0 ≤ Lib.index s.data.toList [32]
  · obtain ⟨i, hi2⟩ := Int.eq_ofNat_of_zero_le hi
    have hs := h2 i hi2
    have e : Lib.cut s.data.toList [32] = (s.data.toList.take i, s.data.toList.drop (i + 1), true) := by
      unfold Lib.cut
      rw [if_pos hi, hi2]; rfl
    rw [e]
    refine ⟨?_, ?_, ?_, ?_⟩
    · rintro nm zs ⟨r, g1, g2, g3⟩
      rw [hs] at g1
      simp only [List.cons.injEq] at g1
      have g4 := split_one g1.2
      exact ⟨g1.1.symm, by rw [g4]; exact g2, g3⟩
    · intro nm zs g1 g2 g3
      exact ⟨s.data.toList.drop (i + 1), by rw [hs, splitL_none 32 _ (readV_no32 g2), g1], g2, g3⟩
    · simp only [List.length_take]; omega
    · simp only [List.length_drop]; omega
  · have hm : Lib.index s.data.toList [32] = -1 := by have := Lib.index_ge s.data.toList [32]; omega
    have hs := h1 hm
    have e : Lib.cut s.data.toList [32] = (s.data.toList, [], false) := by
      unfold Lib.cut
      rw [if_neg hi]
    rw [e]
    refine ⟨?_, ?_, ?_, ?_⟩
    · rintro nm zs ⟨r, g1, -, -⟩
      rw [hs] at g1
      simp at g1
    · intro nm zs _ g2 _
      rw [readV_nil] at g2; cases g2
    · simp only []; omega
    · simp
theorem arr_list (l : List UInt8) : (⟨l.toArray⟩ : ByteArray).data.toList = l := rfl
theorem below_drewB {B : Nat} {w w1 : World} (h : Below B w w1) (n : Nat) : Below B w (w1.drewN n) := ⟨h.os, h.tape, h.output, h.size, h.block⟩

set_option maxRecDepth 100000 in
set_option maxHeartbeats 4000000 in
theorem implTemRead_any (s : ByteArray) (w : World) (hs : s.size ≤ 1048576) (hp : Hid (ListOk w)) :
    Calls Tryd.prog 30 #[.string s] w (TemPost s w) := by
  obtain ⟨F1, F2, F3, F4⟩ := cut_facts s
  have HF1 := Lib.hid F1
  have HF2 := Lib.hid F2
  clear F1 F2
  go_enter Tryd.func30, Tryd.ntmps30
  go_wp2_with fail
  have hc0 := blank_alloc w 46
  have hcl := alloc_lt w (.cells #[.string ⟨#[]⟩, .slice none 0 0] 46)
  have HBA := Lib.hid ((Below.refl w.heap.size w).alloc (Nat.le_refl _) (.cells #[.string ⟨#[]⟩, .slice none 0 0] 46))
  generalize w.alloc (.cells #[.string ⟨#[]⟩, .slice none 0 0] 46) = wA at *
  obtain ⟨mm, hmm⟩ := (list_kept HBA.out hp.out).mx
  refine (Tryd.strings_Cut s ⟨#[32]⟩ mm _ (by omega) hmm).mono ?_
  rintro en w1 ⟨rfl, kd, rfl⟩
  rw [show (⟨#[32]⟩ : ByteArray).data.toList = [32] from rfl]
  have hb1 := below_drewN wA kd
  have HC1 := Lib.hid (blank_kept hb1 hcl hc0)
  have HB1 := Lib.hid (below_of HBA.out hb1 HBA.out.size)
  have HP1 := Lib.hid (list_kept HB1.out hp.out)
  have hcl1 : w.heap.size < (wA.drewN kd).heap.size := hcl
  generalize wA.drewN kd = w1 at *
  obtain ⟨nm, hnm⟩ : ∃ nm : ByteArray, (⟨(Lib.cut s.data.toList [32]).1.toArray⟩ : ByteArray) = nm := ⟨_, rfl⟩
  obtain ⟨rs, hrs⟩ : ∃ rs : ByteArray, (⟨(Lib.cut s.data.toList [32]).2.1.toArray⟩ : ByteArray) = rs := ⟨_, rfl⟩
  have dn : nm.data.toList = (Lib.cut s.data.toList [32]).1 := by rw [← hnm]
  have dr : rs.data.toList = (Lib.cut s.data.toList [32]).2.1 := by rw [← hrs]
  have sn : nm.size ≤ s.size := by rw [← size_list nm, dn]; exact F3
  have sr : rs.size ≤ s.size := by rw [← size_list rs, dr]; exact F4
  have HDN := Lib.hid dn
  have HDR := Lib.hid dr
  rw [hnm, hrs]
  generalize (Lib.cut s.data.toList [32]).2.2 = o
  clear hnm hrs dn dr hb1 hc0 F3 F4 hmm
  go_wp2_with fail
  refine (implReadList_any rs _ (by omega) HP1).mono ?_
  rintro en w2 ⟨hb2, ⟨hv, rfl⟩ | ⟨zs, v, hv, hl64, rfl, hown⟩⟩
  · have HNO := Lib.hid (show ∀ nm zs, ¬ TemRd s nm zs by
      intro nm' zs h
      have := (HF1.out nm' zs h).2.1
      rw [← HDR.out, hv] at this; cases this)
    have hcl2 : w.heap.size < w2.heap.size := Nat.lt_of_lt_of_le hcl1 hb2.size
    obtain ⟨⟨z0, z1⟩, f0, f1⟩ := blank_kept hb2 hcl1 HC1.out
    have HB2 := Lib.hid (below_of HB1.out hb2 HB1.out.size)
    clear hb2 hv
    go_wp2
    try simp only [Exit.inBlock, Exit.then]
    refine bodyPost_ret_by (v := .tuple #[.agg #[.string ⟨#[]⟩, .slice none 0 0], .bool false]) (by rw [results_cell_tmp rfl]; go_simp) rfl ?_
    exact ⟨((HB2.out.setCell (Nat.le_refl _) _).setCell (Nat.le_refl _) _).alloc (by simpa using HB2.out.size) _, .inr ⟨HNO.out, rfl⟩⟩
  · obtain ⟨g2, c2, rfl, hg2, hg2l, hrow⟩ := hown
    have HR2 := Lib.hid (show OwnInts w2 w1.heap.size (.slice (some ⟨g2, 0, none⟩) zs.length c2) zs from ⟨g2, c2, rfl, hg2, hg2l, hrow⟩)
    obtain ⟨m, hm⟩ : ∃ m, zs.length = m := ⟨_, rfl⟩
    have HM := Lib.hid hm
    rw [hm] at HR2 hl64 ⊢
    have hA := (Below.refl w2.heap.size w2).alloc (Nat.le_refl _) (.cells #[.string nm, .slice (some ⟨g2, 0, none⟩) m c2] 46)
    have hcl2 : w.heap.size < w2.heap.size := Nat.lt_of_lt_of_le hcl1 hb2.size
    have HX := Lib.hid (blank_kept hb2 hcl1 HC1.out)
    have HR3 := Lib.hid (own_kept hA HR2.out)
    have HB2 := Lib.hid (below_of HB1.out hb2 HB1.out.size)
    have HV := Lib.hid hv
    clear hb2 hrow hv hm
    go_wp2_with fail
    refine (implValid_any nm _ zs _ (own_ints (by rw [HM.out]; omega) HR3.out) (by omega)).mono ?_
    rintro en w3 ⟨rfl, hb3⟩
    have hcl3 : w.heap.size < w3.heap.size := by have := hb3.size; have := hA.size; omega
    have HX3 := Lib.hid (blank_kept hb3 (Nat.lt_of_lt_of_le hcl2 hA.size) (blank_kept hA hcl2 HX.out))
    have HR4 := Lib.hid (own_kept hb3 HR3.out)
    have HB3 := Lib.hid (below_of HB2.out (hA.trans (hb3.mono hA.size)) HB2.out.size)
    have d0 : w3.cell? ⟨w2.heap.size, 0, none⟩ = some (.string nm) := by rw [below_cell hb3 _ _ (by simp)]; go_simp
    have d1 : w3.cell? ⟨w2.heap.size, 1, none⟩ = some (.slice (some ⟨g2, 0, none⟩) m c2) := by rw [below_cell hb3 _ _ (by simp)]; go_simp
    clear hb3 hA
    obtain ⟨⟨z0, z1⟩, f0, f1⟩ := HX3.out
    rcases Bool.eq_false_or_eq_true (tempB nm zs) with ht | ht
    · have HT := Lib.hid ht
      rw [ht]
      go_wp2
      try simp only [Exit.inBlock, Exit.then]
      refine bodyPost_ret_by (v := .tuple #[.agg #[.string nm, .slice (some ⟨g2, 0, none⟩) m c2], .bool true]) (by rw [results_cell_tmp rfl]; go_simp) rfl ?_
      refine ⟨(HB3.out.setCell (Nat.le_refl _) _).setCell (Nat.le_refl _) _, .inl ⟨nm, zs, _, HF2.out nm zs HDN.out (by rw [← HDR.out]; exact HV.out) HT.out, rfl, ?_⟩⟩
      exact own_base (own_store (own_store HR4.out _ _ _ hcl1) _ _ _ hcl1) (by omega)
    · have HNO := Lib.hid (show ∀ nm zs, ¬ TemRd s nm zs by
        intro nm' zs' h
        obtain ⟨h1, h2, h3⟩ := HF1.out nm' zs' h
        rw [← HDR.out, HV.out] at h2
        obtain rfl := Option.some.inj h2
        rw [bytes_same (h1.trans HDN.out.symm), ht] at h3; cases h3)
      rw [ht]
      go_wp2
      try simp only [Exit.inBlock, Exit.then]
      refine bodyPost_ret_by (v := .tuple #[.agg #[.string ⟨#[]⟩, .slice none 0 0], .bool false]) (by rw [results_cell_tmp rfl]; go_simp) rfl ?_
      exact ⟨(HB3.out.setCell (Nat.le_refl _) _).setCell (Nat.le_refl _) _, .inr ⟨HNO.out, rfl⟩⟩
end Go.Proofs.YtndmakimkghihabDoor
