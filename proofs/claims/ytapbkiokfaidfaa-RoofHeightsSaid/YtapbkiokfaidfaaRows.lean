/-
  No cell of these rows narrows 'for every input' (looked for: loops, veiled, ifaces, maps, wideKeys, modest, calm, conditions, laid).
  DERIVED. THE GIVEN ROWS OF THIS SEAT. 6 by the template 'for every input the law returns true; each argument reads behind the call as it read before'; 0 by the template 'total and deterministic' (their statements: YtapbkiokfaidfaaTotals.lean).
  GIVEN WITH THE SEED: the statements are not yours to turn. If you find one false, say at which input.
  Laid BY PROGRAM, IN A SANDBOX (cutbox-rows.mjs): the forced cells as the released guide's own fill.sh prints them over the translation c4d3c66735ca88ba… (all of the seat's roots in one cut). By AI agents, Wed Nov 11 2026. No macro, syntax, notation, axiom, sorry.
-/
import Derived.Test.YtapbkiokfaidfaaChecked
import GoSem.Claim
import GoSem.ClaimJoined
import GoSem.ClaimMapViews
import Derived.JoinedTies
import Derived.KernelRfl
namespace Go.Proofs.Ytapbkiokfaidfaa
/- THE CELL 'sum', in the pinned program and in every row, IS THE sha256 OF THE DUMP (.gsa) THAT YtapbkiokfaidfaaProg.lean LOADS. Nothing in Lean hashes anything: it is a label: what it is worth is what the hold of that sum in a sandbox is worth. -/
noncomputable def Try.pinned : Pinned := { name := "ytapbkiokfaidfaa", sum := "c4d3c66735ca88ba92f8acddcc7d6ccdb319ea4119af389456d9ce4c7a5b8058", checked := Try.checked }
namespace Rows
def none {H : Type} : Left H := { results := [], args := [] }

/-- 'thatchlaw01.RoofInside': WHATEVER THE INPUT: true; the input reads as it did. -/
def roofInsideSpec : ChangeSpec := { name := "roofInside", fn := fun _ => fun
  | [d1, d2] => { results := [.lit (.bool true)], args := [d1, d2] }
  | _ => none }
def roofInsideRow : OpenClaim := { program := "ytapbkiokfaidfaa", sum := "c4d3c66735ca88ba92f8acddcc7d6ccdb319ea4119af389456d9ce4c7a5b8058", func := "thatch/thatchlaw01.RoofInside", spec := "roofInside", unfollowed := true, recurses := true, plainKeys := false, apart := false }
def RoofInsideSaid : Prop := roofInsideRow.holds Try.pinned (OpenSpec.ofChange roofInsideSpec)

/-- ITS FALSE NEIGHBOUR: 'it returns false'. Refute it at one input. -/
def roofInsideWrong : ChangeSpec := { name := "roofInside", fn := fun _ => fun
  | [d1, d2] => { results := [.lit (.bool false)], args := [d1, d2] }
  | _ => none }
def RoofInsideWrongFalsely : Prop := roofInsideRow.holds Try.pinned (OpenSpec.ofChange roofInsideWrong)

/-- 'thatchlaw01.RoofBeside': WHATEVER THE INPUT: true; the input reads as it did. -/
def roofBesideSpec : ChangeSpec := { name := "roofBeside", fn := fun _ => fun
  | [d] => { results := [.lit (.bool true)], args := [d] }
  | _ => none }
def roofBesideRow : OpenClaim := { program := "ytapbkiokfaidfaa", sum := "c4d3c66735ca88ba92f8acddcc7d6ccdb319ea4119af389456d9ce4c7a5b8058", func := "thatch/thatchlaw01.RoofBeside", spec := "roofBeside", unfollowed := true, recurses := true, plainKeys := false, apart := false }
def RoofBesideSaid : Prop := roofBesideRow.holds Try.pinned (OpenSpec.ofChange roofBesideSpec)

/-- ITS FALSE NEIGHBOUR: 'it returns false'. Refute it at one input. -/
def roofBesideWrong : ChangeSpec := { name := "roofBeside", fn := fun _ => fun
  | [d] => { results := [.lit (.bool false)], args := [d] }
  | _ => none }
def RoofBesideWrongFalsely : Prop := roofBesideRow.holds Try.pinned (OpenSpec.ofChange roofBesideWrong)

/-- 'thatchlaw01.RoofHeights': WHATEVER THE INPUT: true; the input reads as it did. -/
def roofHeightsSpec : ChangeSpec := { name := "roofHeights", fn := fun _ => fun
  | [d] => { results := [.lit (.bool true)], args := [d] }
  | _ => none }
def roofHeightsRow : OpenClaim := { program := "ytapbkiokfaidfaa", sum := "c4d3c66735ca88ba92f8acddcc7d6ccdb319ea4119af389456d9ce4c7a5b8058", func := "thatch/thatchlaw01.RoofHeights", spec := "roofHeights", unfollowed := true, recurses := true, plainKeys := false, apart := false }
def RoofHeightsSaid : Prop := roofHeightsRow.holds Try.pinned (OpenSpec.ofChange roofHeightsSpec)

/-- ITS FALSE NEIGHBOUR: 'it returns false'. Refute it at one input. -/
def roofHeightsWrong : ChangeSpec := { name := "roofHeights", fn := fun _ => fun
  | [d] => { results := [.lit (.bool false)], args := [d] }
  | _ => none }
def RoofHeightsWrongFalsely : Prop := roofHeightsRow.holds Try.pinned (OpenSpec.ofChange roofHeightsWrong)

/-- 'thatchlaw01.RoofLaid': WHATEVER THE INPUT: true; the input reads as it did. -/
def roofLaidSpec : ChangeSpec := { name := "roofLaid", fn := fun _ => fun
  | [d1, d2] => { results := [.lit (.bool true)], args := [d1, d2] }
  | _ => none }
def roofLaidRow : OpenClaim := { program := "ytapbkiokfaidfaa", sum := "c4d3c66735ca88ba92f8acddcc7d6ccdb319ea4119af389456d9ce4c7a5b8058", func := "thatch/thatchlaw01.RoofLaid", spec := "roofLaid", unfollowed := true, recurses := true, plainKeys := false, apart := false }
def RoofLaidSaid : Prop := roofLaidRow.holds Try.pinned (OpenSpec.ofChange roofLaidSpec)

/-- ITS FALSE NEIGHBOUR: 'it returns false'. Refute it at one input. -/
def roofLaidWrong : ChangeSpec := { name := "roofLaid", fn := fun _ => fun
  | [d1, d2] => { results := [.lit (.bool false)], args := [d1, d2] }
  | _ => none }
def RoofLaidWrongFalsely : Prop := roofLaidRow.holds Try.pinned (OpenSpec.ofChange roofLaidWrong)

/-- 'thatchlaw01.RoofPoints': WHATEVER THE INPUT: true; the input reads as it did. -/
def roofPointsSpec : ChangeSpec := { name := "roofPoints", fn := fun _ => fun
  | [d1, d2, d3] => { results := [.lit (.bool true)], args := [d1, d2, d3] }
  | _ => none }
def roofPointsRow : OpenClaim := { program := "ytapbkiokfaidfaa", sum := "c4d3c66735ca88ba92f8acddcc7d6ccdb319ea4119af389456d9ce4c7a5b8058", func := "thatch/thatchlaw01.RoofPoints", spec := "roofPoints", unfollowed := true, recurses := true, plainKeys := false, apart := false }
def RoofPointsSaid : Prop := roofPointsRow.holds Try.pinned (OpenSpec.ofChange roofPointsSpec)

/-- ITS FALSE NEIGHBOUR: 'it returns false'. Refute it at one input. -/
def roofPointsWrong : ChangeSpec := { name := "roofPoints", fn := fun _ => fun
  | [d1, d2, d3] => { results := [.lit (.bool false)], args := [d1, d2, d3] }
  | _ => none }
def RoofPointsWrongFalsely : Prop := roofPointsRow.holds Try.pinned (OpenSpec.ofChange roofPointsWrong)

/-- 'thatchlaw01.RoofLays': WHATEVER THE INPUT: true; the input reads as it did. -/
def roofLaysSpec : ChangeSpec := { name := "roofLays", fn := fun _ => fun
  | [d1, d2] => { results := [.lit (.bool true)], args := [d1, d2] }
  | _ => none }
def roofLaysRow : OpenClaim := { program := "ytapbkiokfaidfaa", sum := "c4d3c66735ca88ba92f8acddcc7d6ccdb319ea4119af389456d9ce4c7a5b8058", func := "thatch/thatchlaw01.RoofLays", spec := "roofLays", unfollowed := true, recurses := true, plainKeys := false, apart := false }
def RoofLaysSaid : Prop := roofLaysRow.holds Try.pinned (OpenSpec.ofChange roofLaysSpec)

/-- ITS FALSE NEIGHBOUR: 'it returns false'. Refute it at one input. -/
def roofLaysWrong : ChangeSpec := { name := "roofLays", fn := fun _ => fun
  | [d1, d2] => { results := [.lit (.bool false)], args := [d1, d2] }
  | _ => none }
def RoofLaysWrongFalsely : Prop := roofLaysRow.holds Try.pinned (OpenSpec.ofChange roofLaysWrong)

/- THE SECOND FORM. 'bulk': how many values and letters a reading holds, each counted each time it is reached (what is shared counts as often as it is met; a slice's spare places count too). A statement '..UptoSaid' is the law's where the arguments, and the package variables that the reading takes, are together of bulk at most 1048576: NARROWER than '..Said'. Prove '..Said' where nothing that the law and all that it calls make is longer than what came in: it says more and counts as full. Else prove '..UptoSaid'. A law counts once. -/
mutual
def uptoBulk {H : Type} : DataW H → Nat
  | .lit (.string bytes) => bytes.length + 1
  | .lit _ => 1
  | .nil => 1
  | .ptr d => uptoBulk d + 1
  | .slice elems spare => uptoBulkAll elems + uptoBulkAll spare + 1
  | .agg parts => uptoBulkAll parts + 1
  | .iface _ d => uptoBulk d + 1
  | .map entries => uptoBulkEntries entries + 1
  | .held _ => 1
def uptoBulkAll {H : Type} : List (DataW H) → Nat
  | [] => 0
  | d :: r => uptoBulk d + uptoBulkAll r
def uptoBulkEntries {H : Type} : List (Lit × DataW H) → Nat
  | [] => 0
  | x :: r => uptoBulkEntry x + uptoBulkEntries r
def uptoBulkEntry {H : Type} : Lit × DataW H → Nat
  | (.string bytes, d) => bytes.length + uptoBulk d + 1
  | (_, d) => uptoBulk d + 1
 end
def uptoSmall : (H : Type) → List (DataW H) → Bool := fun _ ds => decide (uptoBulkAll ds ≤ 1048576)
def OpenSpec.upto (s : _root_.Go.ChangeSpec) : _root_.Go.OpenSpec := { _root_.Go.OpenSpec.ofChange s with cond := some uptoSmall }

/-- 'thatchlaw01.RoofInside', WHERE WHAT IT READS IS OF BULK AT MOST 1048576: true; the input reads as it did. -/
def roofInsideUptoRow : OpenClaim := { program := "ytapbkiokfaidfaa", sum := "c4d3c66735ca88ba92f8acddcc7d6ccdb319ea4119af389456d9ce4c7a5b8058", func := "thatch/thatchlaw01.RoofInside", spec := "roofInside", unfollowed := true, recurses := true, plainKeys := false, apart := false, narrowed := true }
def RoofInsideUptoSaid : Prop := roofInsideUptoRow.holds Try.pinned (OpenSpec.upto roofInsideSpec)

/-- 'thatchlaw01.RoofBeside', WHERE WHAT IT READS IS OF BULK AT MOST 1048576: true; the input reads as it did. -/
def roofBesideUptoRow : OpenClaim := { program := "ytapbkiokfaidfaa", sum := "c4d3c66735ca88ba92f8acddcc7d6ccdb319ea4119af389456d9ce4c7a5b8058", func := "thatch/thatchlaw01.RoofBeside", spec := "roofBeside", unfollowed := true, recurses := true, plainKeys := false, apart := false, narrowed := true }
def RoofBesideUptoSaid : Prop := roofBesideUptoRow.holds Try.pinned (OpenSpec.upto roofBesideSpec)

/-- 'thatchlaw01.RoofHeights', WHERE WHAT IT READS IS OF BULK AT MOST 1048576: true; the input reads as it did. -/
def roofHeightsUptoRow : OpenClaim := { program := "ytapbkiokfaidfaa", sum := "c4d3c66735ca88ba92f8acddcc7d6ccdb319ea4119af389456d9ce4c7a5b8058", func := "thatch/thatchlaw01.RoofHeights", spec := "roofHeights", unfollowed := true, recurses := true, plainKeys := false, apart := false, narrowed := true }
def RoofHeightsUptoSaid : Prop := roofHeightsUptoRow.holds Try.pinned (OpenSpec.upto roofHeightsSpec)

/-- 'thatchlaw01.RoofLaid', WHERE WHAT IT READS IS OF BULK AT MOST 1048576: true; the input reads as it did. -/
def roofLaidUptoRow : OpenClaim := { program := "ytapbkiokfaidfaa", sum := "c4d3c66735ca88ba92f8acddcc7d6ccdb319ea4119af389456d9ce4c7a5b8058", func := "thatch/thatchlaw01.RoofLaid", spec := "roofLaid", unfollowed := true, recurses := true, plainKeys := false, apart := false, narrowed := true }
def RoofLaidUptoSaid : Prop := roofLaidUptoRow.holds Try.pinned (OpenSpec.upto roofLaidSpec)

/-- 'thatchlaw01.RoofPoints', WHERE WHAT IT READS IS OF BULK AT MOST 1048576: true; the input reads as it did. -/
def roofPointsUptoRow : OpenClaim := { program := "ytapbkiokfaidfaa", sum := "c4d3c66735ca88ba92f8acddcc7d6ccdb319ea4119af389456d9ce4c7a5b8058", func := "thatch/thatchlaw01.RoofPoints", spec := "roofPoints", unfollowed := true, recurses := true, plainKeys := false, apart := false, narrowed := true }
def RoofPointsUptoSaid : Prop := roofPointsUptoRow.holds Try.pinned (OpenSpec.upto roofPointsSpec)

/-- 'thatchlaw01.RoofLays', WHERE WHAT IT READS IS OF BULK AT MOST 1048576: true; the input reads as it did. -/
def roofLaysUptoRow : OpenClaim := { program := "ytapbkiokfaidfaa", sum := "c4d3c66735ca88ba92f8acddcc7d6ccdb319ea4119af389456d9ce4c7a5b8058", func := "thatch/thatchlaw01.RoofLays", spec := "roofLays", unfollowed := true, recurses := true, plainKeys := false, apart := false, narrowed := true }
def RoofLaysUptoSaid : Prop := roofLaysUptoRow.holds Try.pinned (OpenSpec.upto roofLaysSpec)

end Rows
end Go.Proofs.Ytapbkiokfaidfaa
