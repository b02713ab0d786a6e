/- RoomOf: both programs' answers. -/
import Derived.Test.YtjdnjlakafcglaaMostA
import Derived.Test.YtjdnjlakafcglaaIntRes
set_option linter.unusedVariables false
namespace Go.Proofs.Ytjdnjlakafcglaa
open Go.ChangeShapes Go.WideShapes Go.ChangeAt Go.RowKit Go.Maps

/-- Each zone's steps. -/
def roomsL (s : ByteArray) (rs : List Rg) (zs : List Int) : List Int := (List.range zs.length).map (fun k => mostS s rs zs k)
theorem rooms_len (s : ByteArray) (rs : List Rg) (zs : List Int) : (roomsL s rs zs).length = zs.length := by simp [roomsL]
theorem rooms_get (s : ByteArray) (rs : List Rg) (zs : List Int) (k : Nat) (h : k < zs.length) : (roomsL s rs zs).getD k 0 = mostS s rs zs k := by simp [roomsL, List.getD, h]
theorem rooms_next (s : ByteArray) (rs : List Rg) (zs : List Int) (k : Nat) (h : k < zs.length) : i64s ((roomsL s rs zs).take (k + 1)) = i64s ((roomsL s rs zs).take k) ++ [.int .i64 (mostS s rs zs k)] := by
  rw [List.take_succ_eq_append_getElem (by rw [rooms_len]; exact h)]
  simp [roomsL, i64s]
/-- RoomOf's answer and code. -/
def roL (s : ByteArray) (rs : List Rg) (zs : List Int) : List Int := if lathB s rs zs = true then roomsL s rs zs else []
def roC (s : ByteArray) (rs : List Rg) (zs : List Int) : Int := if lathB s rs zs = true then 0 else 1
theorem ro_0 {s : ByteArray} {rs : List Rg} {zs : List Int} (h : lathB s rs zs = true) : roL s rs zs = roomsL s rs zs ∧ roC s rs zs = 0 := by unfold roL roC; rw [if_pos h, if_pos h]; exact ⟨rfl, rfl⟩
theorem ro_1 {s : ByteArray} {rs : List Rg} {zs : List Int} (h : lathB s rs zs = false) : roL s rs zs = [] ∧ roC s rs zs = 1 := by unfold roL roC; rw [if_neg (by rw [h]; simp), if_neg (by rw [h]; simp)]; exact ⟨rfl, rfl⟩
theorem ro_len (s : ByteArray) (rs : List Rg) (zs : List Int) : (roL s rs zs).length ≤ 64 := by
  rcases Bool.eq_false_or_eq_true (lathB s rs zs) with h | h
  · rw [(ro_0 h).1, rooms_len]; have := lath_len h; omega
  · rw [(ro_1 h).1]; simp
theorem ret_vi {v : Value} {a b : Int} (h : a = b) : Ending.returned (.tuple #[v, .int .i64 a]) = .returned (.tuple #[v, .int .i64 b]) := by rw [h]
theorem newsI {w : World} {x : Int} {T : TypeId} : ∀ j u, ([Value.int .i64 x] : List Value)[j]? = some u → (w.alloc (.cells #[.int .i64 x] T)).cell? ((⟨w.heap.size, 0, none⟩ : Addr).add j) = some u := by
  intro j u hu
  match j, hu with
  | 0, hu => simp at hu; subst hu; simp [Addr.add]
  | j + 1, hu => simp at hu
set_option maxRecDepth 20000 in
set_option maxHeartbeats 4000000 in
theorem specRO_any (s : ByteArray) (v vz : Value) (rs : List Rg) (zs : List Int) (w : World) (h : RingsAt w v rs) (hs : s.size ≤ maxLen) (hz : IntsAt w vz zs) :
    Calls Try.prog 42 #[.agg #[.string s, v], vz] w (IntU (roL s rs zs) (roC s rs zs) w) := by
  obtain ⟨i0, hi, hz0, hz1, hz2⟩ := info_parts infoI64
  have hal := alloc_lt2 w (.cells #[.string s, v] 30)
  have hpa := prof_alloc w s v 30
  have hba := below_al w (.cells #[.string s, v] 30)
  have HZO := Lib.hid (l09Zones_any w.heap.size s v vz rs zs _ hal hpa (rings_kept hba h) hs (ints_kept hba hz))
  have HBA := Lib.hid hba
  have HR := Lib.hid (show (profB s rs && fitB rs.length zs) = lathB s rs zs from rfl)
  rw [HR.out] at HZO
  rcases Bool.eq_false_or_eq_true (lathB s rs zs) with q1 | q1
  · have hl := lath_len q1
    have HA := Lib.hid (ro_0 q1)
    rw [q1] at HZO
    have HMO := Lib.hid (fun (k : Nat) (hk : k < zs.length) W (hW : Below (w.alloc (.cells #[.string s, v] 30)).heap.size (w.alloc (.cells #[.string s, v] 30)) W) => l09Most_any w.heap.size k s v vz rs zs W (Nat.lt_of_lt_of_le hal hW.size) (prof_keep hW hal hpa) (rings_kept (below_of hba hW hba.size) h) hs (ints_kept (below_of hba hW hba.size) hz) q1 hk)
    have HNX := Lib.hid (rooms_next s rs zs)
    have HLL := Lib.hid (rooms_len s rs zs)
    obtain ⟨az, cz, rfl⟩ := ints_form hz
    rw [HA.out.1, HA.out.2]
    clear hpa hba h hz hal q1 HR
    generalize zs.length = nz at *
    go_enter Try.func42, Try.ntmps42
    go_wp2_with fail
    generalize w.alloc (.cells #[.string s, v] 30) = wA at *
    refine HZO.out.mono ?_
    rintro e w1 ⟨rfl, hb⟩
    have HB1 := Lib.hid hb
    have HA0 := Lib.hid (show (w1.alloc (.cells #[] 2)).ownsRow w1.heap.size 2 1 (.slice (some ⟨w1.heap.size, 0, none⟩) 0 0) 0 [] from World.ownsRow_made w1 #[] 0 (Nat.le_refl _) (by simp) (by simp))
    have hws : w.heap.size ≤ w1.heap.size := (below_of HBA.out hb HBA.out.size).size
    clear hb
    go_wp2
    go_loopw [6, 7] (fun v i wr => ∃ k : Nat, k ≤ nz ∧ i = .int .i64 k ∧ wr.ownsRow w1.heap.size 2 1 v k (i64s ((roomsL s rs zs).take k)) ∧ Below w1.heap.size w1 wr) (fun _ i _ => nz - (intOf i).toNat)
    case atStart => exact ⟨0, by omega, rfl, by simpa [i64s] using HA0.out, below_al _ _⟩
    case round =>
      obtain ⟨k, hk, rfl, hown, hbw⟩ := hrel
      have HO := Lib.hid hown
      have HBX := Lib.hid hbw
      have HBW := Lib.hid (below_of HB1.out hbw HB1.out.size)
      have hwr : w1.heap.size ≤ wr.heap.size := hbw.size
      clear hown hbw
      by_cases hlt : k < nz
      · have HNK := Lib.hid (HNX.out k hlt)
        have hk1 : (k : Int) < (nz : Int) := by omega
        have hk0 : (0 : Int) ≤ (k : Int) := by omega
        have HPR := Lib.hid (HMO.out k hlt _ HBW.out)
        generalize mostS s rs zs k = q at *
        go_wp2_with fail
        refine HPR.out.mono ?_
        rintro e w2 ⟨rfl, hb2⟩
        have HO2 := Lib.hid (row_keep1 hb2 HO.out)
        have HB2 := Lib.hid (below_of HBX.out hb2 HBX.out.size)
        clear hb2
        have HOa := Lib.hid (HO2.out.alloc (.cells #[.int .i64 q] 2))
        have HBa := Lib.hid (HB2.out.alloc HB2.out.size (.cells #[.int .i64 q] 2))
        have hsa : w1.heap.size ≤ (w2.alloc (.cells #[.int .i64 q] 2)).heap.size := HBa.out.size
        go_wp2_with (at_builtin; refine wpList_append_own_at _ rfl _ _ 25 rfl w1.heap.size 2 i0 _ 1 8 Try.underlying25 hi hz0 hz1 hz2 rfl (by omega) _ k (i64s ((roomsL s rs zs).take k)) rfl HOa.out ⟨w2.heap.size, 0, none⟩ 1 1 [.int .i64 q] rfl rfl newsI (by intro u hu; simp at hu; subst hu; rfl) (by unfold maxLen; omega) (by omega) hsa ?_; intro v3 w3 hown3 hgrow3 hnil3 hat3)
        have HO4 := Lib.hid (show w3.ownsRow w1.heap.size 2 1 v3 (k + 1) (i64s ((roomsL s rs zs).take (k + 1))) from by rw [HNK.out]; exact hown3)
        have HB4 := Lib.hid (HBa.out.grown hgrow3 hsa (fun k hk => (HOa.out.lt k hk).1))
        clear hown3 hgrow3 hnil3 hat3
        go_wp2
        go_roundw
        case rel => exact ⟨k + 1, by omega, by go_num, HO4.out, HB4.out⟩
        case measure => simp [intOf]; omega
      · obtain rfl : k = nz := by omega
        have hown := HO.out
        rw [List.take_of_length_le (by rw [HLL.out]; exact Nat.le_refl _)] at hown
        obtain ⟨g5, cap5, rfl, -, -⟩ := hown.form (by omega)
        have hg5 := (hown.lt _ rfl).1
        have HOF := Lib.hid hown
        have HBF := Lib.hid (below_of HBA.out HBW.out HBA.out.size)
        clear hown
        go_wp2
        go_ret2
        exact ⟨.slice (some ⟨g5, 0, none⟩) k cap5, rfl, iv_base (B := w1.heap.size) (.inr ⟨g5, cap5, by rw [HLL.out], hg5, by rw [HLL.out]; exact HOF.out⟩) hws, HBF.out⟩
  · have HA := Lib.hid (ro_1 q1)
    rw [q1] at HZO
    rw [HA.out.1, HA.out.2]
    clear hpa hba h hz hal q1 HR
    go_enter Try.func42, Try.ntmps42
    go_wp2_with fail
    generalize w.alloc (.cells #[.string s, v] 30) = wA at *
    refine HZO.out.mono ?_
    rintro e w1 ⟨rfl, hb⟩
    have HB := Lib.hid (below_of HBA.out hb HBA.out.size)
    clear hb
    go_wp2
    go_ret2
    exact ⟨.slice none 0 0, rfl, .inl ⟨rfl, rfl⟩, HB.out⟩
set_option maxRecDepth 20000 in
set_option maxHeartbeats 4000000 in
theorem implRO_any (s : ByteArray) (v vz : Value) (rs : List Rg) (zs : List Int) (w : World) (h : RingsAt w v rs) (hs : s.size ≤ maxLen) (hz : IntsAt w vz zs) :
    Calls Try.prog 43 #[.agg #[.string s, v], vz] w (IntU (roL s rs zs) (roC s rs zs) w) := by
  obtain ⟨i0, hi, hz0, hz1, hz2⟩ := info_parts infoI64
  have hba := below_al w (.cells #[.string s, v] 30)
  have HON := Lib.hid (onLathe_any s v vz rs zs _ (rings_kept hba h) hs (ints_kept hba hz))
  have HBA := Lib.hid hba
  rcases Bool.eq_false_or_eq_true (lathB s rs zs) with q1 | q1
  · have hl := lath_len q1
    have HA := Lib.hid (ro_0 q1)
    have HV := Lib.hid (zb_yes (v := v) (vz := vz) q1)
    rw [HV.out, q1] at HON
    have HX := Lib.hid (fun (w1 : World) => show ((w1.alloc (.cells #[.string s, v, vz] 84)).cell? ⟨w1.heap.size, 0, none⟩ = some (.string s)) ∧ (w1.alloc (.cells #[.string s, v, vz] 84)).cell? ⟨w1.heap.size, 1, none⟩ = some v ∧ (w1.alloc (.cells #[.string s, v, vz] 84)).cell? ⟨w1.heap.size, 2, none⟩ = some vz from ⟨by go_simp, by go_simp, by go_simp⟩)
    have HMO := Lib.hid (fun (k : Nat) (hk : k < zs.length) W (hW : Below w.heap.size w W) => room_any k s v vz rs zs W (rings_kept hW h) hs (ints_kept hW hz) q1 hk)
    have HNX := Lib.hid (copied_next (roomsL s rs zs))
    have HLL := Lib.hid (rooms_len s rs zs)
    have HGT := Lib.hid (rooms_get s rs zs)
    have HCL := Lib.hid (copied_len (roomsL s rs zs))
    obtain ⟨az, cz, rfl⟩ := ints_form hz
    obtain ⟨av, cv, rfl⟩ := rings_form h
    rw [HA.out.1, HA.out.2]
    clear hba h hz q1 HV
    generalize zs.length = nz at *
    generalize rs.length = n at *
    go_enter Try.func43, Try.ntmps43
    go_wp2_with fail
    generalize w.alloc (.cells #[.string s, .slice av n cv] 30) = wA at *
    refine HON.out.mono ?_
    rintro e w1 ⟨rfl, hb⟩
    have HB1 := Lib.hid (below_of HBA.out hb HBA.out.size)
    obtain ⟨x0, x1, x2⟩ := HX.out w1
    have hbx := below_al w1 (.cells #[.string s, .slice av n cv, .slice az nz cz] 84)
    have hlx := alloc_lt2 w1 (.cells #[.string s, .slice av n cv, .slice az nz cz] 84)
    have HBX := Lib.hid (below_of HB1.out hbx HB1.out.size)
    have HX3 := Lib.hid (fun W (hW : Below (w1.alloc (.cells #[.string s, .slice av n cv, .slice az nz cz] 84)).heap.size (w1.alloc (.cells #[.string s, .slice av n cv, .slice az nz cz] 84)) W) => show W.cell? ⟨w1.heap.size, 0, none⟩ = some (.string s) ∧ W.cell? ⟨w1.heap.size, 1, none⟩ = some (.slice av n cv) ∧ W.cell? ⟨w1.heap.size, 2, none⟩ = some (.slice az nz cz) from ⟨(below_cell hW _ _ hlx).trans x0, (below_cell hW _ _ hlx).trans x1, (below_cell hW _ _ hlx).trans x2⟩)
    clear hb hbx x0 x1 x2
    go_wp2_with (at_make; generalize (w1.alloc (.cells #[.string s, .slice av n cv, .slice az nz cz] 84)) = wx at *; refine wpList_make_full _ rfl _ _ 25 rfl wx.heap.size 2 i0 (.int .i64 0) 1 Try.underlying25 hi hz0 hz1 .i64 .i64 _ _ nz rfl rfl rfl rfl (by rw [hz2]; omega) (by unfold maxLen; omega) (Nat.le_refl _) ?_; intro w0 hown hgrow)
    have HB0 := Lib.hid ((Below.refl wx.heap.size wx).grown hgrow (Nat.le_refl _) (fun k hk => by cases hk))
    rw [made_ints] at hown
    have HO0 := Lib.hid (show w0.ownsRow wx.heap.size 2 1 (.slice (some ⟨wx.heap.size, 0, none⟩) nz nz) nz (i64s (copied (roomsL s rs zs) 0)) by unfold copied; rw [HLL.out, Nat.sub_zero, List.take_zero, List.nil_append]; exact hown)
    clear hgrow hown
    go_wp2
    go_loopw [23] (fun i wr => ∃ k : Nat, k ≤ nz ∧ i = .int .i64 k ∧ wr.ownsRow wx.heap.size 2 1 (.slice (some ⟨wx.heap.size, 0, none⟩) nz nz) nz (i64s (copied (roomsL s rs zs) k)) ∧ Below wx.heap.size wx wr) (fun i _ => nz - (intOf i).toNat)
    case atStart => exact ⟨0, by omega, rfl, HO0.out, HB0.out⟩
    case round =>
      obtain ⟨k, hk, rfl, hown, hbw⟩ := hrel
      have HO := Lib.hid hown
      have HB := Lib.hid hbw
      clear hown hbw
      by_cases hlt : k < nz
      · have hk1 : (k : Int) < (nz : Int) := by omega
        have hk0 : (0 : Int) ≤ (k : Int) := by omega
        obtain ⟨y0, y1, y2⟩ := HX3.out wr HB.out
        have HBW := Lib.hid (below_of HBX.out HB.out HBX.out.size)
        have HPR := Lib.hid (HMO.out k hlt _ HBW.out)
        have HNK := Lib.hid (HNX.out k (by rw [HLL.out]; exact hlt))
        have HGK := Lib.hid (HGT.out k hlt)
        rw [HGK.out] at HNK
        generalize mostS s rs zs k = q at *
        go_wp2_with fail
        refine HPR.out.mono ?_
        rintro e w4 ⟨rfl, hb4⟩
        have HO4 := Lib.hid (row_keep1 hb4 HO.out)
        have HB4 := Lib.hid (below_of HB.out hb4 HB.out.size)
        clear hb4 y0 y1 y2
        have hf := HO4.out.frozenAt k
        have hat : w4.cell? ⟨wx.heap.size, k, none⟩ = (i64s (copied (roomsL s rs zs) k))[k]? := HO4.out.cellAt k (by omega)
        rw [i64s_get _ _ (by rw [HCL.out _ (by rw [HLL.out]; omega), HLL.out]; exact hlt)] at hat
        have HS := Lib.hid (HO4.out.stored k (.int .i64 q)).1
        generalize (copied (roomsL s rs zs) k).getD k 0 = old at *
        go_wp2
        go_roundw
        case rel => exact ⟨k + 1, by omega, by go_num, by rw [← HNK.out]; exact HS.out, HB4.out.setCell (by exact Nat.le_refl _) _⟩
        case measure => simp [intOf]; omega
      · obtain rfl : k = nz := by omega
        have hc2 : copied (roomsL s rs zs) k = roomsL s rs zs := by unfold copied; rw [HLL.out, Nat.sub_self]; rw [List.take_of_length_le (by rw [HLL.out]; exact Nat.le_refl _)]; simp
        rw [hc2] at HO
        have HBF := Lib.hid (below_of HBX.out HB.out HBX.out.size)
        have hwx : w.heap.size ≤ wx.heap.size := HBX.out.size
        go_wp2
        go_ret2
        exact ⟨.slice (some ⟨wx.heap.size, 0, none⟩) k k, rfl, iv_base (B := wx.heap.size) (.inr ⟨wx.heap.size, k, by rw [HLL.out], Nat.le_refl _, by rw [HLL.out]; exact HO.out⟩) hwx, HBF.out⟩
  · have HA := Lib.hid (ro_1 q1)
    have HV := Lib.hid (zb_not (v := v) (vz := vz) q1)
    rw [HV.out, q1] at HON
    obtain ⟨av, cv, rfl⟩ := rings_form h
    rw [HA.out.1, HA.out.2]
    clear hba h hz q1 HV
    generalize rs.length = n at *
    go_enter Try.func43, Try.ntmps43
    go_wp2_with fail
    generalize w.alloc (.cells #[.string s, .slice av n cv] 30) = wA at *
    refine HON.out.mono ?_
    rintro e w1 ⟨rfl, hb⟩
    have HB1 := Lib.hid (below_of HBA.out hb HBA.out.size)
    have HB2 := Lib.hid (below_of HB1.out (below_al w1 (.cells #[.string ⟨#[]⟩, .slice none 0 0, .slice none 0 0] 84)) HB1.out.size)
    clear hb
    go_wp2
    go_ret2
    exact ⟨.slice none 0 0, rfl, .inl ⟨rfl, rfl⟩, HB2.out⟩
end Go.Proofs.Ytjdnjlakafcglaa
