/- Profiles: the ring at a height, the reference model's. -/
import Derived.Test.YtojkijcdfnfnlabProfFuns
namespace Go.Proofs.Ytojkijcdfnfnlab
open Go.ChangeShapes Go.WideShapes Go.ChangeAt Go.RowKit

/-- Ring k is the one at height h. -/
def IsAt (rs : List Rg) (h : Int) (k : Nat) : Prop := k < rs.length ∧ heights (rs.take k) ≤ h ∧ h < heights (rs.take (k + 1))
theorem heights_up {rs : List Rg} (h : ∀ i, i < rs.length → ringB (rs.getD i zR) = true) (i j : Nat) (hij : i ≤ j) (hj : j ≤ rs.length) : heights (rs.take i) ≤ heights (rs.take j) := by
  induction j with
  | zero => obtain rfl : i = 0 := by omega
            exact Int.le_refl _
  | succ j ih =>
    by_cases e : i = j + 1
    · subst e; exact Int.le_refl _
    · have i1 := ih (by omega) (by omega)
      have i2 := (ring_iff.1 (h j (by omega))).2.2
      rw [heights_next rs j (by omega)]
      omega
theorem at_unique {rs : List Rg} (hR : ∀ i, i < rs.length → ringB (rs.getD i zR) = true) {h : Int} {k q : Nat} (h1 : IsAt rs h k) (h2 : IsAt rs h q) : k = q := by
  obtain ⟨a1, a2, a3⟩ := h1
  obtain ⟨b1, b2, b3⟩ := h2
  rcases Nat.lt_trichotomy k q with hlt | e | hlt
  · have := heights_up hR (k + 1) q (by omega) (by omega); omega
  · exact e
  · have := heights_up hR (q + 1) k (by omega) (by omega); omega
set_option maxHeartbeats 2000000 in
theorem l05At_some (p b off cap n : Nat) (s : ByteArray) (rs : List Rg) (h : Int) (w : World) (hn : rs.length = n) (hn1 : n ≤ 32) (hp : ProfIn w p s (.slice (some ⟨b, off, none⟩) n cap)) (hc : ∀ i, i < n → RingIn w b (off + i * 3) (rs.getD i zR)) (hR : ∀ i, i < rs.length → ringB (rs.getD i zR) = true) (h0 : 0 ≤ h) (h1 : h < heights rs) :
    Calls Try.prog 13 #[.pointer (some ⟨p, 0, none⟩), .int .i64 h] w fun e w' => (∃ k : Nat, IsAt rs h k ∧ e = .returned (.tuple #[.int .i64 k, .int .i64 (h - heights (rs.take k))])) ∧ w = w' := by
  obtain ⟨p0, p1⟩ := hp
  have HC := Lib.hid hc
  have HBD := Lib.hid (heights_bd hR)
  have HNX := Lib.hid (heights_next rs)
  have HN := Lib.hid hn
  have hall := HBD.out rs.length (Nat.le_refl _)
  rw [List.take_of_length_le (Nat.le_refl _), hn] at hall
  have HH := Lib.hid h1
  have h1' : h ≤ 9600000 := by omega
  clear hc hR hn h1 hall
  go_enter Try.func13, Try.ntmps13
  go_wp2
  go_loop [1, 6] (fun a i => ∃ k : Nat, k ≤ n ∧ i = .int .i64 k ∧ a = .int .i64 (h - heights (rs.take k)) ∧ heights (rs.take k) ≤ h) (fun _ i => n - (intOf i).toNat)
  case atStart => exact ⟨0, by omega, rfl, by simp [heights], by simpa [heights] using h0⟩
  case round =>
    obtain ⟨k, hk, rfl, rfl, hle⟩ := hrel
    by_cases hlt : k < n
    · obtain ⟨-, -, c2⟩ := HC.out k hlt
      have b1 := HBD.out k (by have := HN.out; omega)
      have b2 := HBD.out (k + 1) (by have := HN.out; omega)
      have hx := HNX.out k (by have := HN.out; omega)
      have HX := Lib.hid hx
      by_cases hin : h < heights (rs.take (k + 1))
      · have HI := Lib.hid (show IsAt rs h k from ⟨by have := HN.out; omega, hle, hin⟩)
        rw [hx] at b2 hin
        clear hx
        generalize (rs.getD k zR).2.2 = x at *
        obtain ⟨y, hy⟩ : ∃ y, heights (rs.take k) = y := ⟨_, rfl⟩
        have HY := Lib.hid hy
        rw [hy] at b1 b2 hin hle ⊢
        clear hy
        have hd : h - y < x := by omega
        clear b1 b2
        go_wp2
        go_ret2
        exact ⟨⟨k, HI.out, by rw [HY.out]; rfl⟩, rfl⟩
      · have HL := Lib.hid (show heights (rs.take (k + 1)) ≤ h by omega)
        rw [hx] at b2 hin
        clear hx
        generalize (rs.getD k zR).2.2 = x at *
        obtain ⟨y, hy⟩ : ∃ y, heights (rs.take k) = y := ⟨_, rfl⟩
        have HY := Lib.hid hy
        rw [hy] at b1 b2 hin hle ⊢
        clear hy
        have hd : ¬ h - y < x := by omega
        have hw : IntKind.i64.wrap (h - y - x) = h - y - x := IntWalk.i64_in _ (by omega)
        have HE := Lib.hid (show h - y - x = h - heights (rs.take (k + 1)) by rw [HX.out, HY.out]; omega)
        have hk1 : (k : Int) < (n : Int) := by omega
        have hk0 : (0 : Int) ≤ (k : Int) := by omega
        clear b1 b2
        go_wp2
        go_round
        case rel => exact ⟨k + 1, by omega, by go_num, by rw [HE.out], HL.out⟩
        case measure => simp [intOf]; omega
    · exfalso
      have e : rs.take k = rs := List.take_of_length_le (by have := HN.out; omega)
      rw [e] at hle
      have := HH.out
      omega

open Classical in
/-- The ring at height h. -/
noncomputable def atF (rs : List Rg) (h : Int) : Nat := if e : ∃ k, IsAt rs h k then Classical.choose e else 0
theorem atF_is {rs : List Rg} (hR : ∀ i, i < rs.length → ringB (rs.getD i zR) = true) {h : Int} {k : Nat} (hk : IsAt rs h k) : atF rs h = k := by
  have e : ∃ k, IsAt rs h k := ⟨k, hk⟩
  unfold atF
  rw [dif_pos e]
  exact at_unique hR (Classical.choose_spec e) hk
def askC (s : ByteArray) (rs : List Rg) (h : Int) : Int := if profB s rs = true then (if inB h 0 (heights rs - 1) = true then 0 else 2) else 1
noncomputable def atR (s : ByteArray) (rs : List Rg) (h : Int) : Int := if askC s rs h = 0 then (atF rs h : Int) else 0
theorem ask_0 {s : ByteArray} {rs : List Rg} {h : Int} (k : askC s rs h = 0) : profB s rs = true ∧ 0 ≤ h ∧ h < heights rs := by
  unfold askC at k
  split at k
  · rename_i h1
    split at k
    · rename_i h2
      have := inB_iff.1 h2
      exact ⟨h1, this.1, by omega⟩
    · cases k
  · cases k
set_option maxHeartbeats 2000000 in
theorem l05Ask_any (p : Nat) (s : ByteArray) (v : Value) (rs : List Rg) (h : Int) (w : World) (hp : ProfIn w p s v) (hpl : p < w.heap.size) (hv : RingsAt w v rs) (hsz : s.size ≤ maxLen) :
    Calls Try.prog 12 #[.pointer (some ⟨p, 0, none⟩), .int .i64 h] w fun e w' => e = .returned (.int .i64 (askC s rs h)) ∧ Below w.heap.size w w' := by
  have HP := Lib.hid hp
  have HV := Lib.hid hv
  clear hp hv
  rcases Bool.eq_false_or_eq_true (profB s rs) with h1 | h1
  · have HR := Lib.hid (show askC s rs h = if inB h 0 (heights rs - 1) = true then 0 else 2 by unfold askC; rw [if_pos h1])
    have HO := Lib.hid h1
    obtain ⟨-, ⟨n1, n2⟩, -, -⟩ := prof_iff.1 h1
    have hbd := heights_bd (fun i hi => prof_ring h1 i hi) rs.length (Nat.le_refl _)
    rw [List.take_of_length_le (Nat.le_refl _)] at hbd
    have hw : IntKind.i64.wrap (heights rs - 1) = heights rs - 1 := IntWalk.i64_in _ (by omega)
    clear h1 hbd
    go_enter Try.func12, Try.ntmps12
    go_wp2_with fail
    refine (l05Ok_any p s v rs _ HP.out HV.out hsz).mono ?_
    rintro e w1 ⟨rfl, hb⟩
    rw [HO.out]
    have HP1 := Lib.hid (prof_keep hb hpl HP.out)
    have HV1 := Lib.hid (rings_kept hb HV.out)
    have HB := Lib.hid hb
    clear hb
    go_wp2_with fail
    obtain ⟨hl0, ⟨a', c', hv, h0⟩ | ⟨b, off, cap, hv, hbl, hc⟩⟩ := HV1.out
    · rw [h0] at n1; simp at n1
    · have hp1 := HP1.out
      rw [hv] at hp1
      refine (l05Height_some p b off cap _ s rs _ rfl n2 hp1 (ring_in hc) (fun i hi => prof_ring HO.out i hi)).mono ?_
      clear hc hp1 hv
      rintro e w2 ⟨rfl, rfl⟩
      have HD := Lib.hid (show (heights rs - 1 : Int) = heights rs - 1 from rfl)
      go_wp2_with fail
      refine (l00In_any h 0 (heights rs - 1) _).mono ?_
      rintro e w2 ⟨rfl, rfl⟩
      rcases Bool.eq_false_or_eq_true (inB h 0 (heights rs - 1)) with h2 | h2
      · have HR2 := Lib.hid (show askC s rs h = 0 by rw [HR.out, if_pos h2])
        rw [h2]
        clear h2 HR HD
        generalize heights rs = y at *
        go_wp2
        go_ret
        exact ⟨ret_i64 HR2.out.symm, HB.out⟩
      · have HR2 := Lib.hid (show askC s rs h = 2 by rw [HR.out, h2]; rfl)
        rw [h2]
        clear h2 HR HD
        generalize heights rs = y at *
        go_wp2
        go_ret
        exact ⟨ret_i64 HR2.out.symm, HB.out⟩
  · have HR := Lib.hid (show askC s rs h = 1 by unfold askC; rw [h1]; rfl)
    go_enter Try.func12, Try.ntmps12
    go_wp2_with fail
    refine (l05Ok_any p s v rs _ HP.out HV.out hsz).mono ?_
    rintro e w1 ⟨rfl, hb⟩
    rw [h1]
    have HB := Lib.hid hb
    clear hb
    go_wp2
    go_ret
    exact ⟨ret_i64 HR.out.symm, HB.out⟩
noncomputable def wallR (s : ByteArray) (rs : List Rg) (h : Int) : Int := if askC s rs h = 0 then (rs.getD (atF rs h) zR).1 - (rs.getD (atF rs h) zR).2.1 else 0
end Go.Proofs.Ytojkijcdfnfnlab
