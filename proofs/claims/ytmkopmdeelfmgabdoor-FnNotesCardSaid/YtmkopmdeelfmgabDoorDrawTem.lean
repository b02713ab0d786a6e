/- A temperament that the source picks: one of the known ones, or twelve small numbers. -/
import Derived.Test.YtmkopmdeelfmgabDoorDrawMore
import Derived.Test.YtmkopmdeelfmgabDoorTemRead
import Derived.Deep.AppendLies
import Derived.Deep.RegionLaw
import Derived.BigRegion
namespace Go.Proofs.YtmkopmdeelfmgabDoor
open Go.ChangeShapes Go.WideShapes Go.ChangeAt Go.RowKit

def tName : Nat → ByteArray
  | 0 => ⟨#[101, 113, 117, 97, 108]⟩
  | 1 => ⟨#[106, 117, 115, 116]⟩
  | 2 => ⟨#[109, 101, 97, 110, 116, 111, 110, 101]⟩
  | _ => ⟨#[112, 121, 116, 104, 97, 103, 111, 114, 97, 115]⟩
def tOffs : Nat → List Int
  | 0 => [0, 0, 0, 0, 0, 0, 0, 0, 0, 0, 0, 0]
  | 1 => [0, 117, 39, 156, -137, -20, -98, 20, 137, -156, 176, -117]
  | 2 => [0, -240, -68, 103, -137, 34, -205, -34, -274, -103, 68, -171]
  | _ => [0, 137, 39, -59, 78, -20, 117, 20, 156, 59, -39, 98]
def OffsPost (i : Nat) (w : World) (e : Ending) (w' : World) : Prop := ∃ g, e = .returned (.slice (some ⟨g, 0, none⟩) 12 12) ∧ w.heap.size ≤ g ∧ w'.ownsRow w.heap.size 2 1 (.slice (some ⟨g, 0, none⟩) 12 12) 12 (i64s (tOffs i)) ∧ Below w.heap.size w w'
theorem made12 : (madeCells (Value.int .i64 0).cells (12 * 1)).toList = i64s (tOffs 0) := by kernel_rfl
set_option maxRecDepth 20000 in
set_option maxHeartbeats 1000000 in
theorem l03Offsets_any (i : Nat) (w : World) (hi : i < 4) : Calls Tryd.prog 74 #[.int .i64 i] w (OffsPost i w) := by
  rcases (by omega : i = 0 ∨ i = 1 ∨ i = 2 ∨ i = 3) with rfl | rfl | rfl | rfl
  · obtain ⟨i0, hi, hz0, hz1, hz2⟩ := info_parts infoI64
    go_enter Tryd.func74, Tryd.ntmps74
    go_wp2_with (at_make; refine wpList_make_full _ rfl _ _ 36 rfl w.heap.size 2 i0 (.int .i64 0) 1 Tryd.underlying36 hi hz0 hz1 .i64 .i64 _ _ 12 rfl rfl rfl rfl (by rw [hz2]; omega) (by unfold maxLen; omega) (Nat.le_refl _) ?_; intro w0 hown hgrow)
    have HB := Lib.hid ((Below.refl w.heap.size w).grown hgrow (Nat.le_refl _) (fun k hk => by cases hk))
    have HO := Lib.hid (show w0.ownsRow w.heap.size 2 1 (.slice (some ⟨w.heap.size, 0, none⟩) 12 12) 12 (i64s (tOffs 0)) by rw [← made12]; exact hown)
    clear hown hgrow
    go_wp2
    go_ret
    exact ⟨w.heap.size, rfl, Nat.le_refl _, HO.out, HB.out⟩
  all_goals
    go_enter Tryd.func74, Tryd.ntmps74
    go_wp2
    go_ret
    refine ⟨w.heap.size, rfl, Nat.le_refl _, ?_, (Below.refl _ _).alloc (Nat.le_refl _) _⟩
  · exact World.ownsRow_lit w (i64s (tOffs 1)).toArray 12 (Nat.le_refl _) (by decide) rfl
  · exact World.ownsRow_lit w (i64s (tOffs 2)).toArray 12 (Nat.le_refl _) (by decide) rfl
  · exact World.ownsRow_lit w (i64s (tOffs 3)).toArray 12 (Nat.le_refl _) (by decide) rfl
theorem l03Names_any (w : World) : Calls Tryd.prog 73 #[] w fun e w' => e = .returned (.slice (some ⟨w.heap.size, 0, none⟩) 4 4) ∧ (∀ j, j < 4 → w'.cell? ⟨w.heap.size, j, none⟩ = some (.string (tName j))) ∧ Below w.heap.size w w' ∧ w.heap.size < w'.heap.size := by
  go_enter Tryd.func73, Tryd.ntmps73
  go_wp2
  go_ret
  refine ⟨rfl, fun j hj => ?_, (Below.refl _ _).alloc (Nat.le_refl _) _, by simp⟩
  rcases (by omega : j = 0 ∨ j = 1 ∨ j = 2 ∨ j = 3) with rfl | rfl | rfl | rfl <;> go_simp <;> rfl


theorem known_ok (i : Nat) (hi : i < 4) : tempB (tName i) (tOffs i) = true := by
  rcases (by omega : i = 0 ∨ i = 1 ∨ i = 2 ∨ i = 3) with rfl | rfl | rfl | rfl <;> decide +kernel
theorem offs_len12 (i : Nat) : (tOffs i).length = 12 := by unfold tOffs; split <;> rfl
/-- What a drawn temperament is. -/
def DrawTem (g : Nat) (w : World) (en : Ending) (w' : World) : Prop := ∃ nm v zs, en = .returned (.agg #[.string nm, v]) ∧ tempB nm zs = true ∧ OwnInts w' w.heap.size v zs ∧ w.grownBy w' (some g)
theorem blank_grown {w w' : World} {g b : Nat} (hg : w.grownBy w' (some g)) (hb : b < w.heap.size) (hne : b ≠ g) (h : Blank w b) : Blank w' b := by
  have hn : ∀ o, some (⟨b, o, none⟩ : Addr).block ≠ some g := fun o e => hne (by simpa using e)
  exact ⟨⟨by rw [hg.cell_far ⟨b, 0, none⟩ hb (hn 0)]; exact h.1.1, by rw [hg.cell_far ⟨b, 1, none⟩ hb (hn 1)]; exact h.1.2⟩, by rw [hg.frozen_far ⟨b, 0, none⟩ hb (hn 0)]; exact h.2.1, by rw [hg.frozen_far ⟨b, 1, none⟩ hb (hn 1)]; exact h.2.2⟩
theorem grown_below {w w1 w2 : World} {g B : Nat} (h : w.grownBy w1 (some g)) (hB : w.heap.size ≤ B) (k : Below B w1 w2) : w.grownBy w2 (some g) :=
  ⟨k.os.trans h.os, k.tape.trans h.tape, k.output.trans h.output, Nat.le_trans h.size k.size, fun j hj hn => (k.block j (Nat.lt_of_lt_of_le hj hB)).trans (h.block j hj hn)⟩
theorem results_cell1 {P : Program} {fn : Func} {p : Tmp} {ty : TypeId} (h : fn.results = #[.cell p ty]) (tmps : Array Value) (w : World) :
    (results fn tmps).run P w = ((asAddr (tmps.getD p undef)).run P w).andThen fun a w1 => (loadVar ty a).run P w1 := by
  simp only [results, h]
  simp [Sem.run_bind, Result.andThen]

/-- What the loop of an own temperament holds: block b is the temperament, with n numbers so far. -/
structure OwnSt (w : World) (g b n : Nat) (v : Value) (zs : List Int) (wr : World) : Prop where
  len : zs.length = n
  bds : ∀ z ∈ zs, -300 ≤ z ∧ z ≤ 299
  c0 : wr.cell? ⟨b, 0, none⟩ = some (.string ⟨#[111, 119, 110]⟩)
  c1 : wr.cell? ⟨b, 1, none⟩ = some v
  f0 : wr.frozen? ⟨b, 0, none⟩ = false
  f1 : wr.frozen? ⟨b, 1, none⟩ = false
  row : wr.ownsRow (b + 1) 2 1 v n (i64s zs)
  src : SrcAt wr g (2 + 2 * n)
  grown : w.grownBy wr (some g)
  size : b < wr.heap.size
  blank : Blank wr w.heap.size
  low : w.heap.size < b
  glow : g < w.heap.size
theorem row_not {w : World} {B g n : Nat} {e : TypeId} {v : Value} {xs : List Value} (h : w.ownsRow B e 1 v n xs) (hg : g < B) : v.ownBlock ≠ some g := fun e => by
  have := (h.lt g e).1
  omega
theorem own_next {w wr w5 w4 : World} {g b n : Nat} {v v' : Value} {zs : List Int} {z : Int} {T : TypeId} (h : OwnSt w g b n v zs wr) (hz : -300 ≤ z ∧ z ≤ 299) (hg5 : wr.grownBy w5 (some g)) (hs5 : SrcAt w5 g (2 + 2 * n + 2))
    (hown : w4.ownsRow (b + 1) 2 1 v' (n + 1) (i64s zs ++ [.int .i64 z])) (hg4 : (w5.alloc (.cells #[.int .i64 z] T)).grownBy w4 v.ownBlock) :
    OwnSt w g b (n + 1) v' (zs ++ [z]) (w4.setCell ⟨b, 1, none⟩ v') := by
  have gA := grown_alloc w5 (.cells #[.int .i64 z] T) g
  have hz5 := hg5.size
  have hsA : w5.heap.size < (w5.alloc (.cells #[.int .i64 z] T)).heap.size := alloc_lt _ _
  have hs4 := hg4.size
  have low := h.low
  have glow := h.glow
  have hsz := h.size
  have nb : ∀ k, k < b + 1 → some k ≠ v.ownBlock := fun k hk e => row_not h.row hk e.symm
  have hbk : ∀ k, k < b + 1 → k ≠ g → w4.heap[k]? = wr.heap[k]? := fun k hk hkg =>
    (hg4.block k (by omega) (nb k hk)).trans ((gA.block k (by omega) (by simpa using hkg)).trans (hg5.block k (by omega) (by simpa using hkg)))
  have hc : ∀ k o, k < b + 1 → k ≠ g → w4.cell? ⟨k, o, none⟩ = wr.cell? ⟨k, o, none⟩ := fun k o hk hkg => World.cell?_of_block (hbk k hk hkg)
  have hf : ∀ k o, k < b + 1 → k ≠ g → w4.frozen? ⟨k, o, none⟩ = wr.frozen? ⟨k, o, none⟩ := fun k o hk hkg => World.frozen?_of_block (hbk k hk hkg)
  have hgr : w.grownBy w4 (some g) := ⟨hg4.os.trans (gA.os.trans (hg5.os.trans h.grown.os)), hg4.tape.trans (gA.tape.trans (hg5.tape.trans h.grown.tape)), hg4.output.trans (gA.output.trans (hg5.output.trans h.grown.output)), by have := h.grown.size; omega,
    fun k hk hn => (hbk k (by omega) (by simpa using hn)).trans (h.grown.block k hk hn)⟩
  have hs4' : SrcAt w4 g (2 + 2 * (n + 1)) := src_more (src_kept (src_alloc hs5 _) hg4 (fun r hr => by have := (h.row.lt r hr).1; omega) (by omega)) (by omega)
  have hb4 : b < w4.heap.size := by omega
  refine ⟨by simp [h.len], ?_, ?_, ?_, ?_, ?_, ?_, ?_, ?_, by simpa using hb4, ?_, low, glow⟩
  · intro x hx
    rcases List.mem_append.1 hx with hx | hx
    · exact h.bds x hx
    · simp only [List.mem_singleton] at hx; subst hx; exact hz
  · have := (hc b 0 (by omega) (by omega)).trans h.c0
    go_simp
  · have := (hc b 1 (by omega) (by omega)).trans h.c1
    go_simp
  · have := (hf b 0 (by omega) (by omega)).trans h.f0
    go_simp
  · have := (hf b 1 (by omega) (by omega)).trans h.f1
    go_simp
  · have e : i64s (zs ++ [z]) = i64s zs ++ [.int .i64 z] := by simp [i64s]
    rw [e]
    exact ownsRow_setCell_below hown (show b < b + 1 by omega) _
  · have k : w4.grownBy (w4.setCell ⟨b, 1, none⟩ v') (some b) := ⟨rfl, rfl, rfl, by simp, fun k _ hk => Below.heap_setCell _ _ _ k (fun e => hk (by rw [e]))⟩
    exact src_kept hs4' k (fun r hr => by cases hr; omega) (by omega)
  · exact grown_below hgr (Nat.le_refl _) ((Below.refl _ _).setCell (show w.heap.size ≤ b by omega) _)
  · have k : Below b w4 (w4.setCell ⟨b, 1, none⟩ v') := (Below.refl b w4).setCell (show b ≤ (⟨b, 1, none⟩ : Addr).block from Nat.le_refl b) v'
    refine blank_kept k low ?_
    exact ⟨⟨(hc _ 0 (by omega) (by omega)).trans h.blank.1.1, (hc _ 1 (by omega) (by omega)).trans h.blank.1.2⟩, (hf _ 0 (by omega) (by omega)).trans h.blank.2.1, (hf _ 1 (by omega) (by omega)).trans h.blank.2.2⟩

theorem news_at {w : World} {x : Int} {T : TypeId} {w2 : World} (h : w2 = w.alloc (.cells #[.int .i64 x] T)) : ∀ j u, ([Value.int .i64 x] : List Value)[j]? = some u → w2.cell? ((⟨w.heap.size, 0, none⟩ : Addr).add j) = some u := by
  subst h
  intro j u hu
  match j, hu with
  | 0, hu => simp at hu; subst hu; simp [Addr.add]
  | j + 1, hu => simp at hu
theorem own_at {w wr w5 : World} {g b n : Nat} {v : Value} {zs : List Int} {x : Int} {T : TypeId} (h : OwnSt w g b n v zs wr) (hg5 : wr.grownBy w5 (some g)) :
    (w5.alloc (.cells #[.int .i64 x] T)).ownsRow (b + 1) 2 1 v n (i64s zs) :=
  World.ownsRow.kept (row := none) (h.row.kept hg5 (.inr (row_not h.row (by have := h.low; have := h.glow; omega)))) (World.grownBy_alloc _ _ none) (by cases hv : v.ownBlock <;> simp)
theorem own_cell4 {w wr w5 w4 : World} {g b n : Nat} {v : Value} {zs : List Int} {x : Int} {T : TypeId} (h : OwnSt w g b n v zs wr) (hg5 : wr.grownBy w5 (some g)) (hg4 : (w5.alloc (.cells #[.int .i64 x] T)).grownBy w4 v.ownBlock) :
    w4.cell? ⟨b, 1, none⟩ = some v ∧ w4.frozen? ⟨b, 1, none⟩ = false ∧ b < w4.heap.size := by
  have gA := grown_alloc w5 (.cells #[.int .i64 x] T) g
  have hsA : w5.heap.size < (w5.alloc (.cells #[.int .i64 x] T)).heap.size := alloc_lt _ _
  have h5 := hg5.size
  have hsz := h.size
  have low := h.low
  have glow := h.glow
  have h4 := hg4.size
  have hb : w4.heap[b]? = wr.heap[b]? := (hg4.block b (by omega) (fun e => row_not h.row (by omega) e.symm)).trans ((gA.block b (by omega) (by simp; omega)).trans (hg5.block b (by omega) (by simp; omega)))
  exact ⟨(World.cell?_of_block (a := ⟨b, 1, none⟩) hb).trans h.c1, (World.frozen?_of_block (a := ⟨b, 1, none⟩) hb).trans h.f1, by omega⟩
theorem all_in : ∀ (zs : List Int) (a b : Int), (∀ z ∈ zs, a ≤ z ∧ z ≤ b) → allIn a b zs = true := by
  intro zs a b h
  exact List.all_eq_true.2 fun z hz => inB_true (h z hz)
theorem own_valid {zs : List Int} (hl : zs.length = 12) (h : ∀ z ∈ zs, -300 ≤ z ∧ z ≤ 299) : tempB ⟨#[111, 119, 110]⟩ zs = true :=
  temp_yes (by decide +kernel) hl (all_in zs _ _ fun z hz => by have := h z hz; omega)
set_option maxRecDepth 100000 in
set_option maxHeartbeats 4000000 in
theorem l03Draw_any (w : World) (g : Nat) (h : SrcAt w g 0) (hgl : g < w.heap.size) :
    Calls Tryd.prog 42 #[.pointer (some ⟨g, 0, none⟩)] w (DrawTem g w) := by
  have HS := Lib.hid h
  clear h
  go_enter Tryd.func42, Tryd.ntmps42
  go_wp2_with fail
  have hc0 := blank_alloc w 38
  have hcl := alloc_lt w (.cells #[.string ⟨#[]⟩, .slice none 0 0] 38)
  have hsA := src_alloc HS.out (.cells #[.string ⟨#[]⟩, .slice none 0 0] 38)
  have HGA := Lib.hid (grown_alloc w (.cells #[.string ⟨#[]⟩, .slice none 0 0] 38) g)
  generalize w.alloc (.cells #[.string ⟨#[]⟩, .slice none 0 0] 38) = wA at *
  refine (pick_any 5 _ g 0 hsA (by omega) (by omega) (by omega)).mono ?_
  rintro en w1 ⟨r, r0, r1, rfl, hs1, hg1⟩
  have HS1 := Lib.hid hs1
  have hX1 := blank_grown hg1 hcl (by omega) hc0
  have HG1 := Lib.hid (grown_trans HGA.out hg1)
  have hl1 : w.heap.size < w1.heap.size := Nat.lt_of_lt_of_le hcl hg1.size
  clear hs1 hsA hg1 hc0
  have r2 : r ≤ 4 := by omega
  by_cases h4 : r < 4
  · obtain ⟨i, rfl⟩ := Int.eq_ofNat_of_zero_le r0
    have hi4 : i < 4 := by omega
    have hXD : Blank w1.drew w.heap.size := hX1
    have hlD : w.heap.size < w1.drew.heap.size := hl1
    obtain ⟨⟨z0, z1⟩, z2, z3⟩ := hX1
    have hi5 : (i : Int) < 4 := by omega
    have hi6 : (0 : Int) ≤ (i : Int) := by omega
    clear r1 r2
    go_wp2
    go_region_with (first
      | (go_at_call 73; refine (l03Names_any _).mono ?_; rintro e w3 ⟨rfl, hcs3, hb3, hgs3⟩; (first | (have hn3 : w3.cell? ⟨w1.heap.size, i, none⟩ = some (.string (tName i)) := hcs3 i hi4; have hq3 : w1.heap.size < w3.heap.size := hgs3) | (have hn3 := hcs3 i hi4)); have hX3 : Blank w3 w.heap.size := blank_kept hb3 (by assumption) (by assumption); have hl3 : w.heap.size < w3.heap.size := Nat.lt_of_lt_of_le (by assumption) hb3.size; obtain ⟨⟨x0, x1⟩, x2, x3⟩ := id hX3)
      | (go_at_call 74; refine (l03Offsets_any i _ hi4).mono ?_; rintro e w4 ⟨g4, rfl, hg4, hrow4, hb4⟩; have hX4 : Blank w4 w.heap.size := blank_kept hb4 (by assumption) (by assumption); have hl4 : w.heap.size < w4.heap.size := Nat.lt_of_lt_of_le (by assumption) hb4.size; try (have hn4 : w4.cell? ⟨w1.heap.size, i, none⟩ = some (.string (tName i)) := (below_cell hb4 _ _ (by assumption)).trans (by assumption)); obtain ⟨⟨y0, y1⟩, y2, y3⟩ := id hX4))
    all_goals
      go_wp2
      try simp only [Exit.inBlock, Exit.then]
      refine bodyPost_ret_by (v := .agg #[.string (tName i), .slice (some ⟨g4, 0, none⟩) 12 12]) (by rw [results_cell1 rfl]; go_simp) rfl ?_
      have hlg : w.heap.size < w1.drew.heap.size := hlD
      have hl4' : g4 < w4.heap.size := (hrow4.lt _ rfl).2
      refine ⟨tName i, _, tOffs i, rfl, known_ok i hi4, ⟨g4, 12, by rw [offs_len12], by have := hb3.size; omega, by simpa using hl4', ?_⟩, ?_⟩
      · rw [offs_len12]
        exact row_base (ownsRow_setCell_below (ownsRow_setCell_below hrow4 (show w.heap.size < w3.heap.size from hl3) _) (show w.heap.size < w3.heap.size from hl3) _) (Nat.le_of_lt hl3)
      · exact grown_below (grown_below HG1.out (Nat.le_of_lt hlg) (show Below w1.drew.heap.size w1 w3 from ⟨hb3.os, hb3.tape, hb3.output, hb3.size, hb3.block⟩)) (Nat.le_refl _) ((((hb4.mono (Nat.le_of_lt hl3) : Below w.heap.size w3 w4)).setCell (Nat.le_refl _) _).setCell (Nat.le_refl _) _)
  · obtain rfl : r = 4 := by omega
    obtain ⟨i0, hi, hz0, hz1, hz2⟩ := info_parts infoI64
    have hlD : w.heap.size < w1.drew.heap.size := hl1
    clear r0 r1 r2 h4
    go_wp2
    go_loopw [5] (fun i wr => ∃ (n : Nat) (v : Value) (zs : List Int), n ≤ 12 ∧ i = .int .i64 n ∧ OwnSt w g w1.heap.size n v zs wr) (fun i _ => 12 - (intOf i).toNat)
    case atStart =>
      refine ⟨0, .slice none 0 0, [], by omega, rfl, ?_⟩
      have hl : w1.heap.size < (w1.alloc (.cells #[.string ⟨#[111, 119, 110]⟩, .slice none 0 0] 38)).heap.size := alloc_lt _ _
      exact ⟨rfl, by simp, by go_simp, by go_simp, by go_simp, by go_simp, ⟨rfl, .inl ⟨rfl, rfl⟩⟩, src_alloc HS1.out _, grown_trans HG1.out (grown_alloc _ _ g), hl, blank_kept ((Below.refl w1.heap.size w1).alloc (Nat.le_refl _) _) hl1 hX1, hl1, hgl⟩
    case round =>
      obtain ⟨n, v, zs, hn, rfl, hst⟩ := hrel
      by_cases hlt : n < 12
      · have HST := Lib.hid hst
        have hc1 := hst.c1
        have hf1 := hst.f1
        have hsz := hst.size
        have hlow := hst.low
        have hn2 : (n : Int) < 12 := by omega
        have hn3 : (0 : Int) ≤ (n : Int) := by omega
        have hgs : g < wr.heap.size := by omega
        clear hst
        obtain ⟨b, hb⟩ : ∃ b, w1.heap.size = b := ⟨_, rfl⟩
        rw [hb] at HST hc1 hf1 hsz hlow
        rw [hb]
        have hbg : b ≠ g := by omega
        have hsD : SrcAt wr.drew g (2 + 2 * n) := src_kept (row := none) HST.out.src ⟨rfl, rfl, rfl, Nat.le_refl _, fun _ _ _ => rfl⟩ (fun r hr => by cases hr) hgs
        go_wp2
        go_region_law (first
          | (refine step_append_lies _ rfl (.tmp 23) (.tmp 27) 36 rfl (b + 1) 2 i0 (.int .i64 0) 1 8 Tryd.underlying36 hi hz0 hz1 hz2 rfl (by decide) v n (i64s zs) (by simp [Act.eval]) (own_at HST.out hg5) ⟨w5.heap.size, 0, none⟩ 1 1 [.int .i64 (r - 300)] (by simp [Act.eval]) rfl (news_at rfl) (by intro u hu; simp at hu; subst hu; rfl) (by decide) (by unfold maxLen; omega) (by omega) (by simp; omega) _ rfl ?_; intro g4 cap4 w4 hown4 hgrow4 hat4 hlt4; obtain ⟨hc4, hf4, hb4⟩ := own_cell4 HST.out hg5 hgrow4)
          | (go_simp; go_at_call 72; (refine (pick_any 600 _ g (2 + 2 * n) hsD (by omega) (by omega) (by omega)).mono ?_; rintro en w5 ⟨r, r0, r1, rfl, hs5, hg5'⟩; have hg5 : wr.grownBy w5 (some g) := ⟨hg5'.os, hg5'.tape, hg5'.output, hg5'.size, hg5'.block⟩; clear hg5'; have hc5 : w5.cell? ⟨b, 1, none⟩ = some v := by { rw [hg5.cell_far ⟨b, 1, none⟩ hsz (by simpa using hbg)]; exact hc1 }; have hf5 : w5.frozen? ⟨b, 1, none⟩ = false := by { rw [hg5.frozen_far ⟨b, 1, none⟩ hsz (by simpa using hbg)]; exact hf1 }; have hs5' : b < w5.heap.size := Nat.lt_of_lt_of_le hsz hg5.size; have hw5 : IntKind.i64.wrap (r - 300) = r - 300 := IntWalk.i64_in _ (by omega))))
        all_goals
          have HN := Lib.hid (own_next HST.out (by omega) hg5 hs5 hown4 hgrow4)
          clear hown4 hgrow4 hc4 hf4 hs5 hg5
          go_wp2
          go_roundw
          case rel => exact ⟨n + 1, _, _, by omega, by go_num, HN.out⟩
          case measure => simp [intOf]; omega
      · obtain rfl : n = 12 := by omega
        obtain ⟨g5, cap5, rfl, -, -⟩ := hst.row.form (by decide)
        have HST := Lib.hid hst
        obtain ⟨⟨z0, z1⟩, z2, z3⟩ := hst.blank
        have hc0 := hst.c0
        have hc1 := hst.c1
        have hlow := hst.low
        have hsz := hst.size
        clear hst
        go_wp2
        try simp only [Exit.inBlock, Exit.then]
        refine bodyPost_ret_by (v := .agg #[.string ⟨#[111, 119, 110]⟩, .slice (some ⟨g5, 0, none⟩) 12 cap5]) (by rw [results_cell1 rfl]; go_simp) rfl ?_
        obtain ⟨hb5, hl5⟩ := HST.out.row.lt g5 rfl
        refine ⟨_, _, zs, rfl, own_valid HST.out.len HST.out.bds, ⟨g5, cap5, by rw [HST.out.len], by omega, by simpa using hl5, ?_⟩, ?_⟩
        · rw [HST.out.len]
          exact row_base (ownsRow_setCell_below (ownsRow_setCell_below HST.out.row (show w.heap.size < w1.heap.size + 1 by omega) _) (show w.heap.size < w1.heap.size + 1 by omega) _) (by omega)
        · exact grown_below HST.out.grown (Nat.le_refl _) (((Below.refl w.heap.size wr).setCell (Nat.le_refl _) _).setCell (Nat.le_refl _) _)

theorem src_lt {w : World} {g k : Nat} (h : SrcAt w g k) : g < w.heap.size := by
  obtain ⟨v, p, s, h⟩ := h
  exact cell_lt h.code
/-- A temperament of bytes. -/
def R8Tem (w : World) (en : Ending) (w' : World) : Prop := ∃ nm v zs, en = .returned (.agg #[.string nm, v]) ∧ tempB nm zs = true ∧ OwnInts w' w.heap.size v zs ∧ Below w.heap.size w w'
theorem bytes_kept {w w' : World} {v : Value} (hb : Below w.heap.size w w') (h : BytesAt w w.heap.size v) : BytesAt w' w'.heap.size v :=
  bytes_more (bytes_below hb h (Nat.le_refl _)) hb.size
set_option maxHeartbeats 1000000 in
theorem r8Tem_any (v : Value) (w : World) (h : BytesAt w w.heap.size v) : Calls Tryd.prog 17 #[v] w (R8Tem w) := by
  have HB := Lib.hid h
  clear h
  go_enter Tryd.func17, Tryd.ntmps17
  go_wp2_with fail
  have hbA := (Below.refl w.heap.size w).alloc (Nat.le_refl _) (.cells #[.string ⟨#[]⟩, .slice none 0 0] 38)
  have hcl := alloc_lt w (.cells #[.string ⟨#[]⟩, .slice none 0 0] 38)
  have hc0 := blank_alloc w 38
  generalize w.alloc (.cells #[.string ⟨#[]⟩, .slice none 0 0] 38) = wA at *
  have HA := Lib.hid hbA
  clear hbA
  refine (from_any _ _ (bytes_kept HA.out HB.out)).mono ?_
  rintro e w1 ⟨g, rfl, hs, hg, hb⟩
  have HS := Lib.hid hs
  have HB1 := Lib.hid hb
  have hl := src_lt hs
  have hl1 : w.heap.size < w1.heap.size := Nat.lt_of_lt_of_le hcl hb.size
  have hX1 := blank_kept hb hcl hc0
  clear hs hb hc0
  go_wp2_with fail
  refine (l03Draw_any _ g HS.out hl).mono ?_
  rintro e w2 ⟨nm, u, zs, rfl, ht, ⟨b, cap, rfl, ho1, ho2, ho3⟩, hgr⟩
  have hX2 := blank_grown hgr hl1 (by omega) hX1
  have hl2 : w.heap.size < w2.heap.size := Nat.lt_of_lt_of_le hl1 hgr.size
  have HT := Lib.hid ht
  have HO := Lib.hid ho3
  have h1s : wA.heap.size ≤ w1.heap.size := HB1.out.size
  have HG := Lib.hid ((HA.out.trans (HB1.out.mono (Nat.le_of_lt hcl))).grown hgr (Nat.le_of_lt hl1) (fun k hk => by cases hk; omega))
  obtain ⟨⟨z0, z1⟩, z2, z3⟩ := hX2
  clear ht ho3 hgr hX1
  go_wp2
  try simp only [Exit.inBlock, Exit.then]
  refine bodyPost_ret_by (v := .agg #[.string nm, .slice (some ⟨b, 0, none⟩) zs.length cap]) (by rw [results_cell1 rfl]; go_simp) rfl ?_
  refine ⟨nm, _, zs, rfl, HT.out, ⟨b, cap, rfl, by omega, by simpa using ho2, ?_⟩, (HG.out.setCell (Nat.le_refl _) _).setCell (Nat.le_refl _) _⟩
  exact row_base (ownsRow_setCell_below (ownsRow_setCell_below HO.out (show w.heap.size < w1.heap.size from hl1) _) (show w.heap.size < w1.heap.size from hl1) _) (Nat.le_of_lt hl1)
end Go.Proofs.YtmkopmdeelfmgabDoor
