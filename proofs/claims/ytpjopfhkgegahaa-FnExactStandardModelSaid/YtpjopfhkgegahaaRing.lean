/- Rings and profiles: what they are, and when they are valid. -/
import Derived.Test.YtpjopfhkgegahaaInts
import Derived.Test.YtpjopfhkgegahaaNameSpecE
namespace Go.Proofs.Ytpjopfhkgegahaa
open Go.ChangeShapes Go.WideShapes Go.ChangeAt Go.RowKit

abbrev Rg := Int × Int × Int
def ringB (r : Rg) : Bool := inB r.1 500 150000 && (inB r.2.1 0 (r.1 - 100) && inB r.2.2 10 300000)
theorem ring_iff {r : Rg} : ringB r = true ↔ (500 ≤ r.1 ∧ r.1 ≤ 150000) ∧ (0 ≤ r.2.1 ∧ r.2.1 ≤ r.1 - 100) ∧ 10 ≤ r.2.2 ∧ r.2.2 ≤ 300000 := by
  simp [ringB, inB_iff]
def joinB (a b : Rg) : Bool := decide (a.2.1 < b.1) && decide (b.2.1 < a.1)
theorem join_iff {a b : Rg} : joinB a b = true ↔ a.2.1 < b.1 ∧ b.2.1 < a.1 := by simp [joinB]
def zR : Rg := (0, 0, 0)
/-- Ring i is valid, and lies on the one before it. -/
def okAt (rs : List Rg) (i : Nat) : Bool := ringB (rs.getD i zR) && (decide (i = 0) || joinB (rs.getD (i - 1) zR) (rs.getD i zR))
def heights : List Rg → Int
  | [] => 0
  | r :: rs => r.2.2 + heights rs
theorem heights_append (a b : List Rg) : heights (a ++ b) = heights a + heights b := by
  induction a with
  | nil => simp [heights]
  | cons r a ih => simp [heights, ih]; omega
theorem heights_next (rs : List Rg) (k : Nat) (h : k < rs.length) : heights (rs.take (k + 1)) = heights (rs.take k) + (rs.getD k zR).2.2 := by
  rw [List.take_succ_eq_append_getElem h, heights_append]
  simp [heights, List.getD, h]
def chainB (rs : List Rg) : Bool := (List.range rs.length).all (okAt rs)
theorem chain_iff {rs : List Rg} : chainB rs = true ↔ ∀ i, i < rs.length → okAt rs i = true := by simp [chainB]
theorem heights_bd {rs : List Rg} (h : ∀ i, i < rs.length → ringB (rs.getD i zR) = true) (k : Nat) (hk : k ≤ rs.length) : 10 * (k : Int) ≤ heights (rs.take k) ∧ heights (rs.take k) ≤ 300000 * k := by
  induction k with
  | zero => simp [heights]
  | succ k ih =>
    have i1 := ih (by omega)
    have i2 := (ring_iff.1 (h k (by omega))).2.2
    rw [heights_next rs k (by omega)]
    omega
/-- A valid profile. -/
def profB (s : ByteArray) (rs : List Rg) : Bool := nameB s && (decide (1 ≤ rs.length ∧ rs.length ≤ 32) && (chainB rs && decide (heights rs ≤ 300000)))
theorem prof_iff {s : ByteArray} {rs : List Rg} : profB s rs = true ↔ nameB s = true ∧ (1 ≤ rs.length ∧ rs.length ≤ 32) ∧ (∀ i, i < rs.length → okAt rs i = true) ∧ heights rs ≤ 300000 := by
  unfold profB
  rw [Bool.and_eq_true, Bool.and_eq_true, Bool.and_eq_true, decide_eq_true_eq, decide_eq_true_eq, chain_iff]
theorem prof_ring {s : ByteArray} {rs : List Rg} (h : profB s rs = true) (i : Nat) (hi : i < rs.length) : ringB (rs.getD i zR) = true := by
  have := (prof_iff.1 h).2.2.1 i hi
  unfold okAt at this
  rw [Bool.and_eq_true] at this
  exact this.1

/-- The cells of rings, one after the other. -/
def flat : List Rg → List Int
  | [] => []
  | r :: rs => r.1 :: r.2.1 :: r.2.2 :: flat rs
theorem flat_len (rs : List Rg) : (flat rs).length = rs.length * 3 := by
  induction rs with
  | nil => rfl
  | cons r rs ih => simp [flat, ih]; omega
theorem flat_get (rs : List Rg) (j : Nat) (h : j < rs.length) : (flat rs)[j * 3]? = some (rs.getD j zR).1 ∧ (flat rs)[j * 3 + 1]? = some (rs.getD j zR).2.1 ∧ (flat rs)[j * 3 + 2]? = some (rs.getD j zR).2.2 := by
  induction rs generalizing j with
  | nil => simp at h
  | cons r rs ih =>
    match j with
    | 0 => simp [flat]
    | j + 1 =>
      have := ih j (by simpa using h)
      have e : (j + 1) * 3 = j * 3 + 3 := by omega
      rw [e]
      simpa [flat] using this
/-- The slice v reads as rs. -/
def RingsAt (w : World) (v : Value) (rs : List Rg) : Prop :=
  rs.length ≤ 1048576 ∧ ((∃ a c, v = .slice a 0 c ∧ rs = []) ∨ ∃ b off cap, v = .slice (some ⟨b, off, none⟩) rs.length cap ∧ b < w.heap.size ∧ ∀ j, j < rs.length * 3 → w.cell? ⟨b, off + j, none⟩ = some (.int .i64 ((flat rs).getD j 0)))
/-- .. in a block of its own, from B on, that may be written. -/
def OwnRings (w : World) (B : Nat) (v : Value) (rs : List Rg) : Prop := ∃ g cap, v = .slice (some ⟨g, 0, none⟩) rs.length cap ∧ B ≤ g ∧ g < w.heap.size ∧ w.ownsRow B 58 3 v rs.length (i64s (flat rs))
theorem rings_kept {w w' : World} {v : Value} {rs : List Rg} (hb : Below w.heap.size w w') (h : RingsAt w v rs) : RingsAt w' v rs := by
  obtain ⟨hl, h | ⟨b, off, cap, rfl, hlt, hc⟩⟩ := h
  · exact ⟨hl, .inl h⟩
  · exact ⟨hl, .inr ⟨b, off, cap, rfl, by have := hb.size; omega, fun j hj => by rw [hb.cell (p := ⟨b, off + j, none⟩) hlt]; exact hc j hj⟩⟩
theorem own_rings {w : World} {B : Nat} {v : Value} {rs : List Rg} (hl : rs.length ≤ 1048576) (h : OwnRings w B v rs) : RingsAt w v rs := by
  obtain ⟨g, cap, rfl, _, hg, hown⟩ := h
  refine ⟨hl, .inr ⟨g, 0, cap, rfl, hg, fun j hj => ?_⟩⟩
  rw [Nat.zero_add, hown.cellAt j (by omega)]
  exact i64s_get _ j (by rw [flat_len]; omega)
end Go.Proofs.Ytpjopfhkgegahaa
