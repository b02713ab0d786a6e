/- More choices of the reference model's source: yes once in n times; one of some numbers. -/
import Derived.Test.YtpfpdhgdeaoemaaDrawPick
namespace Go.Proofs.Ytpfpdhgdeaoemaa
open Go.ChangeShapes Go.WideShapes Go.ChangeAt Go.RowKit

/-- A number between two bounds; the source after at most k draws; nothing else has turned. -/
def DrawIn (g k : Nat) (lo hi : Int) (w : World) (e : Ending) (w' : World) : Prop := ∃ r : Int, lo ≤ r ∧ r ≤ hi ∧ e = .returned (.int .i64 r) ∧ SrcAt w' g k ∧ w.grownBy w' (some g)
def DrawOne (g k : Nat) (w : World) (e : Ending) (w' : World) : Prop := ∃ b : Bool, e = .returned (.bool b) ∧ SrcAt w' g k ∧ w.grownBy w' (some g)
theorem grown_alloc (w : World) (o : Obj) (g : Nat) : w.grownBy (w.alloc o) (some g) :=
  ⟨rfl, rfl, rfl, by simp, fun k hk _ => ((Below.refl w.heap.size w).alloc (Nat.le_refl _) o).block k hk⟩
theorem src_alloc {w : World} {g k : Nat} (h : SrcAt w g k) (o : Obj) : SrcAt (w.alloc o) g k := by
  have hlt : g < w.heap.size := by
    obtain ⟨v, p, s, h⟩ := h
    exact cell_lt h.code
  exact src_kept (row := none) h ⟨rfl, rfl, rfl, by simp, fun k hk _ => ((Below.refl w.heap.size w).alloc (Nat.le_refl _) o).block k hk⟩ (fun r hr => by cases hr) hlt

theorem one_any (n : Int) (w : World) (g k : Nat) (h : SrcAt w g k) (hk : k ≤ 4611686018427387000) (hlo : -9223372036854775808 ≤ n) (hhi : n ≤ 9223372036854775807) :
    Calls Try.prog 51 #[.pointer (some ⟨g, 0, none⟩), .int .i64 n] w (DrawOne g (k + 2) w) := by
  have HS := Lib.hid h
  clear h
  go_enter Try.func51, Try.ntmps51
  go_wp2_with fail
  refine (pick_any n _ g k HS.out hk hlo hhi).mono ?_
  rintro e w1 ⟨r, r0, r1, rfl, hs, hg⟩
  have HT := Lib.hid hs
  have HG := Lib.hid hg
  clear hs hg
  go_wp2
  go_ret
  exact ⟨_, rfl, HT.out, HG.out⟩

set_option maxHeartbeats 400000 in
theorem among_any (zs : List Int) (lo hi : Int) (b n : Nat) (w : World) (g k : Nat) (h : SrcAt w g k) (hk : k ≤ 4611686018427387000) (hn1 : 1 ≤ n) (hn2 : n ≤ 1000) (hb : b ≠ g)
    (hc : ∀ j, j < n → w.cell? ⟨b, 0 + j, none⟩ = some (.int .i64 (zs.getD j 0))) (hin : ∀ j, j < n → lo ≤ zs.getD j 0 ∧ zs.getD j 0 ≤ hi) :
    Calls Try.prog 55 #[.pointer (some ⟨g, 0, none⟩), .slice (some ⟨b, 0, none⟩) n n] w (DrawIn g (k + 2) lo hi w) := by
  have HS := Lib.hid h
  have HC := Lib.hid hc
  have HI := Lib.hid hin
  clear h hc hin
  go_enter Try.func55, Try.ntmps55
  go_wp2_with fail
  refine (pick_any n _ g k HS.out hk (by omega) (by omega)).mono ?_
  rintro e w1 ⟨r, r0, r1, rfl, hs, hg⟩
  obtain ⟨q, rfl⟩ := Int.eq_ofNat_of_zero_le r0
  have hq : q < n := by omega
  have hcell : w1.cell? ⟨b, q, none⟩ = some (.int .i64 (zs.getD q 0)) := by
    have := hg.cell (HC.out q hq) (by intro e; exact hb (Option.some.inj e))
    rwa [Nat.zero_add] at this
  have HQ := Lib.hid (HI.out q hq)
  have HT := Lib.hid hs
  have HG := Lib.hid hg
  clear hs hg r1
  generalize zs.getD q 0 = z at *
  go_wp2
  go_ret
  exact ⟨_, HQ.out.1, HQ.out.2, rfl, HT.out, HG.out⟩
end Go.Proofs.Ytpfpdhgdeaoemaa
