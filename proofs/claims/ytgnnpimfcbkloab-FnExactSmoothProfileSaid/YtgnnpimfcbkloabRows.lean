/-
  No cell of these rows narrows 'for every input' (looked for: loops, veiled, ifaces, maps, wideKeys, modest, calm, conditions, laid).
  DERIVED. THE GIVEN ROWS OF THIS SEAT. 11 by the template 'for every input the law returns true; each argument reads behind the call as it read before'; 0 by the template 'total and deterministic' (their statements: YtgnnpimfcbkloabTotals.lean).
  GIVEN WITH THE SEED: the statements are not yours to turn. If you find one false, say at which input.
  Laid BY PROGRAM, IN A SANDBOX (cutbox-rows.mjs): the forced cells as the released guide's own fill.sh prints them over the translation 233d37e4071614f2… (all of the seat's roots in one cut). By AI agents, Wed Nov 11 2026. No macro, syntax, notation, axiom, sorry.
-/
import Derived.Test.YtgnnpimfcbkloabChecked
import GoSem.Claim
import GoSem.ClaimJoined
import GoSem.ClaimMapViews
import Derived.JoinedTies
import Derived.KernelRfl
namespace Go.Proofs.Ytgnnpimfcbkloab
/- THE CELL 'sum', in the pinned program and in every row, IS THE sha256 OF THE DUMP (.gsa) THAT YtgnnpimfcbkloabProg.lean LOADS. Nothing in Lean hashes anything: it is a label: what it is worth is what the hold of that sum in a sandbox is worth. -/
noncomputable def Try.pinned : Pinned := { name := "ytgnnpimfcbkloab", sum := "233d37e4071614f2a9dbb93995806078af673c8e4a4435e22267f1edb3895af2", checked := Try.checked }
namespace Rows
def none {H : Type} : Left H := { results := [], args := [] }

/-- 'laws.FnExactPitchAfter': WHATEVER THE INPUT: true; the input reads as it did. -/
def fnExactPitchAfterSpec : ChangeSpec := { name := "fnExactPitchAfter", fn := fun _ => fun
  | [d1, d2, d3] => { results := [.lit (.bool true)], args := [d1, d2, d3] }
  | _ => none }
def fnExactPitchAfterRow : OpenClaim := { program := "ytgnnpimfcbkloab", sum := "233d37e4071614f2a9dbb93995806078af673c8e4a4435e22267f1edb3895af2", func := "loop.example/g00952/laws.FnExactPitchAfter", spec := "fnExactPitchAfter", unfollowed := true, recurses := true, apart := false }
def FnExactPitchAfterSaid : Prop := fnExactPitchAfterRow.holds Try.pinned (OpenSpec.ofChange fnExactPitchAfterSpec)

/-- ITS FALSE NEIGHBOUR: 'it returns false'. Refute it at one input. -/
def fnExactPitchAfterWrong : ChangeSpec := { name := "fnExactPitchAfter", fn := fun _ => fun
  | [d1, d2, d3] => { results := [.lit (.bool false)], args := [d1, d2, d3] }
  | _ => none }
def FnExactPitchAfterWrongFalsely : Prop := fnExactPitchAfterRow.holds Try.pinned (OpenSpec.ofChange fnExactPitchAfterWrong)

/-- 'laws.FnExactBlendProfiles': WHATEVER THE INPUT: true; the input reads as it did. -/
def fnExactBlendProfilesSpec : ChangeSpec := { name := "fnExactBlendProfiles", fn := fun _ => fun
  | [d1, d2, d3] => { results := [.lit (.bool true)], args := [d1, d2, d3] }
  | _ => none }
def fnExactBlendProfilesRow : OpenClaim := { program := "ytgnnpimfcbkloab", sum := "233d37e4071614f2a9dbb93995806078af673c8e4a4435e22267f1edb3895af2", func := "loop.example/g00952/laws.FnExactBlendProfiles", spec := "fnExactBlendProfiles", unfollowed := true, recurses := true, apart := false }
def FnExactBlendProfilesSaid : Prop := fnExactBlendProfilesRow.holds Try.pinned (OpenSpec.ofChange fnExactBlendProfilesSpec)

/-- ITS FALSE NEIGHBOUR: 'it returns false'. Refute it at one input. -/
def fnExactBlendProfilesWrong : ChangeSpec := { name := "fnExactBlendProfiles", fn := fun _ => fun
  | [d1, d2, d3] => { results := [.lit (.bool false)], args := [d1, d2, d3] }
  | _ => none }
def FnExactBlendProfilesWrongFalsely : Prop := fnExactBlendProfilesRow.holds Try.pinned (OpenSpec.ofChange fnExactBlendProfilesWrong)

/-- 'laws.FnExactThickenProfile': WHATEVER THE INPUT: true; the input reads as it did. -/
def fnExactThickenProfileSpec : ChangeSpec := { name := "fnExactThickenProfile", fn := fun _ => fun
  | [d1, d2] => { results := [.lit (.bool true)], args := [d1, d2] }
  | _ => none }
def fnExactThickenProfileRow : OpenClaim := { program := "ytgnnpimfcbkloab", sum := "233d37e4071614f2a9dbb93995806078af673c8e4a4435e22267f1edb3895af2", func := "loop.example/g00952/laws.FnExactThickenProfile", spec := "fnExactThickenProfile", unfollowed := true, recurses := true, apart := false }
def FnExactThickenProfileSaid : Prop := fnExactThickenProfileRow.holds Try.pinned (OpenSpec.ofChange fnExactThickenProfileSpec)

/-- ITS FALSE NEIGHBOUR: 'it returns false'. Refute it at one input. -/
def fnExactThickenProfileWrong : ChangeSpec := { name := "fnExactThickenProfile", fn := fun _ => fun
  | [d1, d2] => { results := [.lit (.bool false)], args := [d1, d2] }
  | _ => none }
def FnExactThickenProfileWrongFalsely : Prop := fnExactThickenProfileRow.holds Try.pinned (OpenSpec.ofChange fnExactThickenProfileWrong)

/-- 'laws.FnExactFamilyOf': WHATEVER THE INPUT: true; the input reads as it did. -/
def fnExactFamilyOfSpec : ChangeSpec := { name := "fnExactFamilyOf", fn := fun _ => fun
  | [d1, d2, d3, d4] => { results := [.lit (.bool true)], args := [d1, d2, d3, d4] }
  | _ => none }
def fnExactFamilyOfRow : OpenClaim := { program := "ytgnnpimfcbkloab", sum := "233d37e4071614f2a9dbb93995806078af673c8e4a4435e22267f1edb3895af2", func := "loop.example/g00952/laws.FnExactFamilyOf", spec := "fnExactFamilyOf", unfollowed := true, recurses := true, apart := false }
def FnExactFamilyOfSaid : Prop := fnExactFamilyOfRow.holds Try.pinned (OpenSpec.ofChange fnExactFamilyOfSpec)

/-- ITS FALSE NEIGHBOUR: 'it returns false'. Refute it at one input. -/
def fnExactFamilyOfWrong : ChangeSpec := { name := "fnExactFamilyOf", fn := fun _ => fun
  | [d1, d2, d3, d4] => { results := [.lit (.bool false)], args := [d1, d2, d3, d4] }
  | _ => none }
def FnExactFamilyOfWrongFalsely : Prop := fnExactFamilyOfRow.holds Try.pinned (OpenSpec.ofChange fnExactFamilyOfWrong)

/-- 'laws.FnExactSmoothProfile': WHATEVER THE INPUT: true; the input reads as it did. -/
def fnExactSmoothProfileSpec : ChangeSpec := { name := "fnExactSmoothProfile", fn := fun _ => fun
  | [d] => { results := [.lit (.bool true)], args := [d] }
  | _ => none }
def fnExactSmoothProfileRow : OpenClaim := { program := "ytgnnpimfcbkloab", sum := "233d37e4071614f2a9dbb93995806078af673c8e4a4435e22267f1edb3895af2", func := "loop.example/g00952/laws.FnExactSmoothProfile", spec := "fnExactSmoothProfile", apart := false }
def FnExactSmoothProfileSaid : Prop := fnExactSmoothProfileRow.holds Try.pinned (OpenSpec.ofChange fnExactSmoothProfileSpec)

/-- ITS FALSE NEIGHBOUR: 'it returns false'. Refute it at one input. -/
def fnExactSmoothProfileWrong : ChangeSpec := { name := "fnExactSmoothProfile", fn := fun _ => fun
  | [d] => { results := [.lit (.bool false)], args := [d] }
  | _ => none }
def FnExactSmoothProfileWrongFalsely : Prop := fnExactSmoothProfileRow.holds Try.pinned (OpenSpec.ofChange fnExactSmoothProfileWrong)

/-- 'laws.FnExactGreatestStep': WHATEVER THE INPUT: true; the input reads as it did. -/
def fnExactGreatestStepSpec : ChangeSpec := { name := "fnExactGreatestStep", fn := fun _ => fun
  | [d] => { results := [.lit (.bool true)], args := [d] }
  | _ => none }
def fnExactGreatestStepRow : OpenClaim := { program := "ytgnnpimfcbkloab", sum := "233d37e4071614f2a9dbb93995806078af673c8e4a4435e22267f1edb3895af2", func := "loop.example/g00952/laws.FnExactGreatestStep", spec := "fnExactGreatestStep", apart := false }
def FnExactGreatestStepSaid : Prop := fnExactGreatestStepRow.holds Try.pinned (OpenSpec.ofChange fnExactGreatestStepSpec)

/-- ITS FALSE NEIGHBOUR: 'it returns false'. Refute it at one input. -/
def fnExactGreatestStepWrong : ChangeSpec := { name := "fnExactGreatestStep", fn := fun _ => fun
  | [d] => { results := [.lit (.bool false)], args := [d] }
  | _ => none }
def FnExactGreatestStepWrongFalsely : Prop := fnExactGreatestStepRow.holds Try.pinned (OpenSpec.ofChange fnExactGreatestStepWrong)

/-- 'laws.FnExactRenameProfile': WHATEVER THE INPUT: true; the input reads as it did. -/
def fnExactRenameProfileSpec : ChangeSpec := { name := "fnExactRenameProfile", fn := fun _ => fun
  | [d1, d2] => { results := [.lit (.bool true)], args := [d1, d2] }
  | _ => none }
def fnExactRenameProfileRow : OpenClaim := { program := "ytgnnpimfcbkloab", sum := "233d37e4071614f2a9dbb93995806078af673c8e4a4435e22267f1edb3895af2", func := "loop.example/g00952/laws.FnExactRenameProfile", spec := "fnExactRenameProfile", apart := false }
def FnExactRenameProfileSaid : Prop := fnExactRenameProfileRow.holds Try.pinned (OpenSpec.ofChange fnExactRenameProfileSpec)

/-- ITS FALSE NEIGHBOUR: 'it returns false'. Refute it at one input. -/
def fnExactRenameProfileWrong : ChangeSpec := { name := "fnExactRenameProfile", fn := fun _ => fun
  | [d1, d2] => { results := [.lit (.bool false)], args := [d1, d2] }
  | _ => none }
def FnExactRenameProfileWrongFalsely : Prop := fnExactRenameProfileRow.holds Try.pinned (OpenSpec.ofChange fnExactRenameProfileWrong)

/-- 'laws.FnVolumes': WHATEVER THE INPUT: true; the input reads as it did. -/
def fnVolumesSpec : ChangeSpec := { name := "fnVolumes", fn := fun _ => fun
  | [d1, d2] => { results := [.lit (.bool true)], args := [d1, d2] }
  | _ => none }
def fnVolumesRow : OpenClaim := { program := "ytgnnpimfcbkloab", sum := "233d37e4071614f2a9dbb93995806078af673c8e4a4435e22267f1edb3895af2", func := "loop.example/g00952/laws.FnVolumes", spec := "fnVolumes", inPlace := ["math/bits.Add64"], unfollowed := true, recurses := true, named := ["math/bits.divideError", "math/bits.overflowError"], apart := false }
def FnVolumesSaid : Prop := fnVolumesRow.holds Try.pinned (OpenSpec.ofChange fnVolumesSpec)

/-- ITS FALSE NEIGHBOUR: 'it returns false'. Refute it at one input. -/
def fnVolumesWrong : ChangeSpec := { name := "fnVolumes", fn := fun _ => fun
  | [d1, d2] => { results := [.lit (.bool false)], args := [d1, d2] }
  | _ => none }
def FnVolumesWrongFalsely : Prop := fnVolumesRow.holds Try.pinned (OpenSpec.ofChange fnVolumesWrong)

/-- 'laws.FnCentres': WHATEVER THE INPUT: true; the input reads as it did. -/
def fnCentresSpec : ChangeSpec := { name := "fnCentres", fn := fun _ => fun
  | [d1, d2] => { results := [.lit (.bool true)], args := [d1, d2] }
  | _ => none }
def fnCentresRow : OpenClaim := { program := "ytgnnpimfcbkloab", sum := "233d37e4071614f2a9dbb93995806078af673c8e4a4435e22267f1edb3895af2", func := "loop.example/g00952/laws.FnCentres", spec := "fnCentres", inPlace := ["math/bits.Add64"], unfollowed := true, recurses := true, named := ["math/bits.divideError", "math/bits.overflowError"], apart := false }
def FnCentresSaid : Prop := fnCentresRow.holds Try.pinned (OpenSpec.ofChange fnCentresSpec)

/-- ITS FALSE NEIGHBOUR: 'it returns false'. Refute it at one input. -/
def fnCentresWrong : ChangeSpec := { name := "fnCentres", fn := fun _ => fun
  | [d1, d2] => { results := [.lit (.bool false)], args := [d1, d2] }
  | _ => none }
def FnCentresWrongFalsely : Prop := fnCentresRow.holds Try.pinned (OpenSpec.ofChange fnCentresWrong)

/-- 'laws.FnScaling': WHATEVER THE INPUT: true; the input reads as it did. -/
def fnScalingSpec : ChangeSpec := { name := "fnScaling", fn := fun _ => fun
  | [d1, d2] => { results := [.lit (.bool true)], args := [d1, d2] }
  | _ => none }
def fnScalingRow : OpenClaim := { program := "ytgnnpimfcbkloab", sum := "233d37e4071614f2a9dbb93995806078af673c8e4a4435e22267f1edb3895af2", func := "loop.example/g00952/laws.FnScaling", spec := "fnScaling", unfollowed := true, recurses := true, apart := false }
def FnScalingSaid : Prop := fnScalingRow.holds Try.pinned (OpenSpec.ofChange fnScalingSpec)

/-- ITS FALSE NEIGHBOUR: 'it returns false'. Refute it at one input. -/
def fnScalingWrong : ChangeSpec := { name := "fnScaling", fn := fun _ => fun
  | [d1, d2] => { results := [.lit (.bool false)], args := [d1, d2] }
  | _ => none }
def FnScalingWrongFalsely : Prop := fnScalingRow.holds Try.pinned (OpenSpec.ofChange fnScalingWrong)

/-- 'laws.FnBlends': WHATEVER THE INPUT: true; the input reads as it did. -/
def fnBlendsSpec : ChangeSpec := { name := "fnBlends", fn := fun _ => fun
  | [d1, d2] => { results := [.lit (.bool true)], args := [d1, d2] }
  | _ => none }
def fnBlendsRow : OpenClaim := { program := "ytgnnpimfcbkloab", sum := "233d37e4071614f2a9dbb93995806078af673c8e4a4435e22267f1edb3895af2", func := "loop.example/g00952/laws.FnBlends", spec := "fnBlends", unfollowed := true, recurses := true, apart := false }
def FnBlendsSaid : Prop := fnBlendsRow.holds Try.pinned (OpenSpec.ofChange fnBlendsSpec)

/-- ITS FALSE NEIGHBOUR: 'it returns false'. Refute it at one input. -/
def fnBlendsWrong : ChangeSpec := { name := "fnBlends", fn := fun _ => fun
  | [d1, d2] => { results := [.lit (.bool false)], args := [d1, d2] }
  | _ => none }
def FnBlendsWrongFalsely : Prop := fnBlendsRow.holds Try.pinned (OpenSpec.ofChange fnBlendsWrong)

/- THE SECOND FORM. 'bulk': how many values and letters a reading holds, each counted each time it is reached (what is shared counts as often as it is met; a slice's spare places count too). A statement '..UptoSaid' is the law's where the arguments, and the package variables that the reading takes, are together of bulk at most 1048576: NARROWER than '..Said'. Prove '..Said' where nothing that the law and all that it calls make is longer than what came in: it says more and counts as full. Else prove '..UptoSaid'. A law counts once. -/
mutual
def uptoBulk {H : Type} : DataW H → Nat
  | .lit (.string bytes) => bytes.length + 1
  | .lit _ => 1
  | .nil => 1
  | .ptr d => uptoBulk d + 1
  | .slice elems spare => uptoBulkAll elems + uptoBulkAll spare + 1
  | .agg parts => uptoBulkAll parts + 1
  | .iface _ d => uptoBulk d + 1
  | .map entries => uptoBulkEntries entries + 1
  | .held _ => 1
def uptoBulkAll {H : Type} : List (DataW H) → Nat
  | [] => 0
  | d :: r => uptoBulk d + uptoBulkAll r
def uptoBulkEntries {H : Type} : List (Lit × DataW H) → Nat
  | [] => 0
  | x :: r => uptoBulkEntry x + uptoBulkEntries r
def uptoBulkEntry {H : Type} : Lit × DataW H → Nat
  | (.string bytes, d) => bytes.length + uptoBulk d + 1
  | (_, d) => uptoBulk d + 1
 end
def uptoSmall : (H : Type) → List (DataW H) → Bool := fun _ ds => decide (uptoBulkAll ds ≤ 1048576)
def OpenSpec.upto (s : _root_.Go.ChangeSpec) : _root_.Go.OpenSpec := { _root_.Go.OpenSpec.ofChange s with cond := some uptoSmall }

/-- 'laws.FnExactPitchAfter', WHERE WHAT IT READS IS OF BULK AT MOST 1048576: true; the input reads as it did. -/
def fnExactPitchAfterUptoRow : OpenClaim := { program := "ytgnnpimfcbkloab", sum := "233d37e4071614f2a9dbb93995806078af673c8e4a4435e22267f1edb3895af2", func := "loop.example/g00952/laws.FnExactPitchAfter", spec := "fnExactPitchAfter", unfollowed := true, recurses := true, apart := false, narrowed := true }
def FnExactPitchAfterUptoSaid : Prop := fnExactPitchAfterUptoRow.holds Try.pinned (OpenSpec.upto fnExactPitchAfterSpec)

/-- 'laws.FnExactBlendProfiles', WHERE WHAT IT READS IS OF BULK AT MOST 1048576: true; the input reads as it did. -/
def fnExactBlendProfilesUptoRow : OpenClaim := { program := "ytgnnpimfcbkloab", sum := "233d37e4071614f2a9dbb93995806078af673c8e4a4435e22267f1edb3895af2", func := "loop.example/g00952/laws.FnExactBlendProfiles", spec := "fnExactBlendProfiles", unfollowed := true, recurses := true, apart := false, narrowed := true }
def FnExactBlendProfilesUptoSaid : Prop := fnExactBlendProfilesUptoRow.holds Try.pinned (OpenSpec.upto fnExactBlendProfilesSpec)

/-- 'laws.FnExactThickenProfile', WHERE WHAT IT READS IS OF BULK AT MOST 1048576: true; the input reads as it did. -/
def fnExactThickenProfileUptoRow : OpenClaim := { program := "ytgnnpimfcbkloab", sum := "233d37e4071614f2a9dbb93995806078af673c8e4a4435e22267f1edb3895af2", func := "loop.example/g00952/laws.FnExactThickenProfile", spec := "fnExactThickenProfile", unfollowed := true, recurses := true, apart := false, narrowed := true }
def FnExactThickenProfileUptoSaid : Prop := fnExactThickenProfileUptoRow.holds Try.pinned (OpenSpec.upto fnExactThickenProfileSpec)

/-- 'laws.FnExactFamilyOf', WHERE WHAT IT READS IS OF BULK AT MOST 1048576: true; the input reads as it did. -/
def fnExactFamilyOfUptoRow : OpenClaim := { program := "ytgnnpimfcbkloab", sum := "233d37e4071614f2a9dbb93995806078af673c8e4a4435e22267f1edb3895af2", func := "loop.example/g00952/laws.FnExactFamilyOf", spec := "fnExactFamilyOf", unfollowed := true, recurses := true, apart := false, narrowed := true }
def FnExactFamilyOfUptoSaid : Prop := fnExactFamilyOfUptoRow.holds Try.pinned (OpenSpec.upto fnExactFamilyOfSpec)

/-- 'laws.FnExactSmoothProfile', WHERE WHAT IT READS IS OF BULK AT MOST 1048576: true; the input reads as it did. -/
def fnExactSmoothProfileUptoRow : OpenClaim := { program := "ytgnnpimfcbkloab", sum := "233d37e4071614f2a9dbb93995806078af673c8e4a4435e22267f1edb3895af2", func := "loop.example/g00952/laws.FnExactSmoothProfile", spec := "fnExactSmoothProfile", apart := false, narrowed := true }
def FnExactSmoothProfileUptoSaid : Prop := fnExactSmoothProfileUptoRow.holds Try.pinned (OpenSpec.upto fnExactSmoothProfileSpec)

/-- 'laws.FnExactGreatestStep', WHERE WHAT IT READS IS OF BULK AT MOST 1048576: true; the input reads as it did. -/
def fnExactGreatestStepUptoRow : OpenClaim := { program := "ytgnnpimfcbkloab", sum := "233d37e4071614f2a9dbb93995806078af673c8e4a4435e22267f1edb3895af2", func := "loop.example/g00952/laws.FnExactGreatestStep", spec := "fnExactGreatestStep", apart := false, narrowed := true }
def FnExactGreatestStepUptoSaid : Prop := fnExactGreatestStepUptoRow.holds Try.pinned (OpenSpec.upto fnExactGreatestStepSpec)

/-- 'laws.FnExactRenameProfile', WHERE WHAT IT READS IS OF BULK AT MOST 1048576: true; the input reads as it did. -/
def fnExactRenameProfileUptoRow : OpenClaim := { program := "ytgnnpimfcbkloab", sum := "233d37e4071614f2a9dbb93995806078af673c8e4a4435e22267f1edb3895af2", func := "loop.example/g00952/laws.FnExactRenameProfile", spec := "fnExactRenameProfile", apart := false, narrowed := true }
def FnExactRenameProfileUptoSaid : Prop := fnExactRenameProfileUptoRow.holds Try.pinned (OpenSpec.upto fnExactRenameProfileSpec)

/-- 'laws.FnVolumes', WHERE WHAT IT READS IS OF BULK AT MOST 1048576: true; the input reads as it did. -/
def fnVolumesUptoRow : OpenClaim := { program := "ytgnnpimfcbkloab", sum := "233d37e4071614f2a9dbb93995806078af673c8e4a4435e22267f1edb3895af2", func := "loop.example/g00952/laws.FnVolumes", spec := "fnVolumes", inPlace := ["math/bits.Add64"], unfollowed := true, recurses := true, named := ["math/bits.divideError", "math/bits.overflowError"], apart := false, narrowed := true }
def FnVolumesUptoSaid : Prop := fnVolumesUptoRow.holds Try.pinned (OpenSpec.upto fnVolumesSpec)

/-- 'laws.FnCentres', WHERE WHAT IT READS IS OF BULK AT MOST 1048576: true; the input reads as it did. -/
def fnCentresUptoRow : OpenClaim := { program := "ytgnnpimfcbkloab", sum := "233d37e4071614f2a9dbb93995806078af673c8e4a4435e22267f1edb3895af2", func := "loop.example/g00952/laws.FnCentres", spec := "fnCentres", inPlace := ["math/bits.Add64"], unfollowed := true, recurses := true, named := ["math/bits.divideError", "math/bits.overflowError"], apart := false, narrowed := true }
def FnCentresUptoSaid : Prop := fnCentresUptoRow.holds Try.pinned (OpenSpec.upto fnCentresSpec)

/-- 'laws.FnScaling', WHERE WHAT IT READS IS OF BULK AT MOST 1048576: true; the input reads as it did. -/
def fnScalingUptoRow : OpenClaim := { program := "ytgnnpimfcbkloab", sum := "233d37e4071614f2a9dbb93995806078af673c8e4a4435e22267f1edb3895af2", func := "loop.example/g00952/laws.FnScaling", spec := "fnScaling", unfollowed := true, recurses := true, apart := false, narrowed := true }
def FnScalingUptoSaid : Prop := fnScalingUptoRow.holds Try.pinned (OpenSpec.upto fnScalingSpec)

/-- 'laws.FnBlends', WHERE WHAT IT READS IS OF BULK AT MOST 1048576: true; the input reads as it did. -/
def fnBlendsUptoRow : OpenClaim := { program := "ytgnnpimfcbkloab", sum := "233d37e4071614f2a9dbb93995806078af673c8e4a4435e22267f1edb3895af2", func := "loop.example/g00952/laws.FnBlends", spec := "fnBlends", unfollowed := true, recurses := true, apart := false, narrowed := true }
def FnBlendsUptoSaid : Prop := fnBlendsUptoRow.holds Try.pinned (OpenSpec.upto fnBlendsSpec)

end Rows
end Go.Proofs.Ytgnnpimfcbkloab
