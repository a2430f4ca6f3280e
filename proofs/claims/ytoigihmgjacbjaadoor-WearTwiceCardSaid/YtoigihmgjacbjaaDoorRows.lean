/-
  NARROWER THAN 'FOR EVERY INPUT', by the rows' own cells (each row's printed sentence says how): WearTwice: laid · WearSeasons: laid · WearTrue: laid · WearNarrower: laid · WearOrder: laid · WearChecks: laid · WearProbes: laid · WearSteep: laid.
  DERIVED. THE GIVEN ROWS OF THIS SEAT. 8 by the template 'for every input the law returns true; each argument reads behind the call as it read before'; 0 by the template 'total and deterministic' (their statements: YtoigihmgjacbjaaDoorTotals.lean).
  GIVEN WITH THE SEED: the statements are not yours to turn. If you find one false, say at which input.
  Laid BY PROGRAM, IN A SANDBOX (cutbox-rows.mjs): the forced cells as the released guide's own fill.sh prints them over the translation c05b52f9f9ce3d31… (all of the seat's roots in one cut). By AI agents, Wed Nov 11 2026. No macro, syntax, notation, axiom, sorry.
-/
import Derived.Test.YtoigihmgjacbjaaDoorChecked
import GoSem.Claim
import GoSem.ClaimJoined
import GoSem.ClaimMapViews
import Derived.JoinedTies
import Derived.KernelRfl
namespace Go.Proofs.YtoigihmgjacbjaaDoor
/- THE CELL 'sum', in the pinned program and in every row, IS THE sha256 OF THE DUMP (.gsa) THAT YtoigihmgjacbjaaDoorProg.lean LOADS. Nothing in Lean hashes anything: it is a label: what it is worth is what the hold of that sum in a sandbox is worth. -/
noncomputable def Tryd.pinned : Pinned := { name := "ytoigihmgjacbjaadoor", sum := "c05b52f9f9ce3d3110dfade66484fa374b2b84ccda05c7f8ef712da661d62229", checked := Tryd.checked }
namespace Rows
def none {H : Type} : Left H := { results := [], args := [] }

/- WHAT THE LISTED PACKAGE-LEVEL VARIABLES READ AS WHEN THE CALL BEGINS. Each datum BY PROGRAM (the guide's laid-datum.mjs) off the statement by which the dump's own 'gosem.cut.vars' lays the variable. In a bare row this is a premise. The card (YtoigihmgjacbjaaDoorCards.lean) ties it to the program's text. -/
def laid_thatch_wear_nothing {H : Type} : DataW H := .agg [.lit (.int .i64 0), .lit (.int .i64 (-1))]

/-- 'thatchlaw07.WearTwice': WHATEVER THE INPUT: true; the input reads as it did. -/
def wearTwiceSpec : ChangeSpec := { name := "wearTwice", fn := fun _ => fun
  | [d1, d2, d3] => { results := [.lit (.bool true)], args := [d1, d2, d3] }
  | _ => none }
def wearTwiceRow : OpenClaim := { program := "ytoigihmgjacbjaadoor", sum := "c05b52f9f9ce3d3110dfade66484fa374b2b84ccda05c7f8ef712da661d62229", func := "thatch/thatchlaw07.WearTwice", spec := "wearTwice", unfollowed := true, recurses := true, named := ["thatch/wear.nothing"], apart := false, laid := [("thatch/wear.nothing", laid_thatch_wear_nothing)] }
def WearTwiceSaid : Prop := wearTwiceRow.holds Tryd.pinned (OpenSpec.ofChange wearTwiceSpec)

/-- ITS FALSE NEIGHBOUR: 'it returns false'. Refute it at one input. -/
def wearTwiceWrong : ChangeSpec := { name := "wearTwice", fn := fun _ => fun
  | [d1, d2, d3] => { results := [.lit (.bool false)], args := [d1, d2, d3] }
  | _ => none }
def WearTwiceWrongFalsely : Prop := wearTwiceRow.holds Tryd.pinned (OpenSpec.ofChange wearTwiceWrong)

/-- 'thatchlaw07.WearSeasons': WHATEVER THE INPUT: true; the input reads as it did. -/
def wearSeasonsSpec : ChangeSpec := { name := "wearSeasons", fn := fun _ => fun
  | [d1, d2, d3] => { results := [.lit (.bool true)], args := [d1, d2, d3] }
  | _ => none }
def wearSeasonsRow : OpenClaim := { program := "ytoigihmgjacbjaadoor", sum := "c05b52f9f9ce3d3110dfade66484fa374b2b84ccda05c7f8ef712da661d62229", func := "thatch/thatchlaw07.WearSeasons", spec := "wearSeasons", unfollowed := true, recurses := true, named := ["thatch/wear.nothing"], apart := false, laid := [("thatch/wear.nothing", laid_thatch_wear_nothing)] }
def WearSeasonsSaid : Prop := wearSeasonsRow.holds Tryd.pinned (OpenSpec.ofChange wearSeasonsSpec)

/-- ITS FALSE NEIGHBOUR: 'it returns false'. Refute it at one input. -/
def wearSeasonsWrong : ChangeSpec := { name := "wearSeasons", fn := fun _ => fun
  | [d1, d2, d3] => { results := [.lit (.bool false)], args := [d1, d2, d3] }
  | _ => none }
def WearSeasonsWrongFalsely : Prop := wearSeasonsRow.holds Tryd.pinned (OpenSpec.ofChange wearSeasonsWrong)

/-- 'thatchlaw07.WearTrue': WHATEVER THE INPUT: true; the input reads as it did. -/
def wearTrueSpec : ChangeSpec := { name := "wearTrue", fn := fun _ => fun
  | [d1, d2, d3, d4] => { results := [.lit (.bool true)], args := [d1, d2, d3, d4] }
  | _ => none }
def wearTrueRow : OpenClaim := { program := "ytoigihmgjacbjaadoor", sum := "c05b52f9f9ce3d3110dfade66484fa374b2b84ccda05c7f8ef712da661d62229", func := "thatch/thatchlaw07.WearTrue", spec := "wearTrue", inPlace := ["slices.overlaps[thatch/api.Mark]"], unfollowed := true, recurses := true, named := ["thatch/wear.nothing"], apart := false, laid := [("thatch/wear.nothing", laid_thatch_wear_nothing)] }
def WearTrueSaid : Prop := wearTrueRow.holds Tryd.pinned (OpenSpec.ofChange wearTrueSpec)

/-- ITS FALSE NEIGHBOUR: 'it returns false'. Refute it at one input. -/
def wearTrueWrong : ChangeSpec := { name := "wearTrue", fn := fun _ => fun
  | [d1, d2, d3, d4] => { results := [.lit (.bool false)], args := [d1, d2, d3, d4] }
  | _ => none }
def WearTrueWrongFalsely : Prop := wearTrueRow.holds Tryd.pinned (OpenSpec.ofChange wearTrueWrong)

/-- 'thatchlaw07.WearNarrower': WHATEVER THE INPUT: true; the input reads as it did. -/
def wearNarrowerSpec : ChangeSpec := { name := "wearNarrower", fn := fun _ => fun
  | [d1, d2, d3] => { results := [.lit (.bool true)], args := [d1, d2, d3] }
  | _ => none }
def wearNarrowerRow : OpenClaim := { program := "ytoigihmgjacbjaadoor", sum := "c05b52f9f9ce3d3110dfade66484fa374b2b84ccda05c7f8ef712da661d62229", func := "thatch/thatchlaw07.WearNarrower", spec := "wearNarrower", inPlace := ["slices.overlaps[thatch/api.Mark]"], unfollowed := true, recurses := true, named := ["thatch/wear.nothing"], apart := false, laid := [("thatch/wear.nothing", laid_thatch_wear_nothing)] }
def WearNarrowerSaid : Prop := wearNarrowerRow.holds Tryd.pinned (OpenSpec.ofChange wearNarrowerSpec)

/-- ITS FALSE NEIGHBOUR: 'it returns false'. Refute it at one input. -/
def wearNarrowerWrong : ChangeSpec := { name := "wearNarrower", fn := fun _ => fun
  | [d1, d2, d3] => { results := [.lit (.bool false)], args := [d1, d2, d3] }
  | _ => none }
def WearNarrowerWrongFalsely : Prop := wearNarrowerRow.holds Tryd.pinned (OpenSpec.ofChange wearNarrowerWrong)

/-- 'thatchlaw07.WearOrder': WHATEVER THE INPUT: true; the input reads as it did. -/
def wearOrderSpec : ChangeSpec := { name := "wearOrder", fn := fun _ => fun
  | [d1, d2, d3] => { results := [.lit (.bool true)], args := [d1, d2, d3] }
  | _ => none }
def wearOrderRow : OpenClaim := { program := "ytoigihmgjacbjaadoor", sum := "c05b52f9f9ce3d3110dfade66484fa374b2b84ccda05c7f8ef712da661d62229", func := "thatch/thatchlaw07.WearOrder", spec := "wearOrder", inPlace := ["slices.overlaps[thatch/api.Mark]"], unfollowed := true, recurses := true, named := ["thatch/wear.nothing"], apart := false, laid := [("thatch/wear.nothing", laid_thatch_wear_nothing)] }
def WearOrderSaid : Prop := wearOrderRow.holds Tryd.pinned (OpenSpec.ofChange wearOrderSpec)

/-- ITS FALSE NEIGHBOUR: 'it returns false'. Refute it at one input. -/
def wearOrderWrong : ChangeSpec := { name := "wearOrder", fn := fun _ => fun
  | [d1, d2, d3] => { results := [.lit (.bool false)], args := [d1, d2, d3] }
  | _ => none }
def WearOrderWrongFalsely : Prop := wearOrderRow.holds Tryd.pinned (OpenSpec.ofChange wearOrderWrong)

/-- 'thatchlaw07.WearChecks': WHATEVER THE INPUT: true; the input reads as it did. -/
def wearChecksSpec : ChangeSpec := { name := "wearChecks", fn := fun _ => fun
  | [d1, d2] => { results := [.lit (.bool true)], args := [d1, d2] }
  | _ => none }
def wearChecksRow : OpenClaim := { program := "ytoigihmgjacbjaadoor", sum := "c05b52f9f9ce3d3110dfade66484fa374b2b84ccda05c7f8ef712da661d62229", func := "thatch/thatchlaw07.WearChecks", spec := "wearChecks", unfollowed := true, recurses := true, named := ["thatch/wear.nothing"], apart := false, laid := [("thatch/wear.nothing", laid_thatch_wear_nothing)] }
def WearChecksSaid : Prop := wearChecksRow.holds Tryd.pinned (OpenSpec.ofChange wearChecksSpec)

/-- ITS FALSE NEIGHBOUR: 'it returns false'. Refute it at one input. -/
def wearChecksWrong : ChangeSpec := { name := "wearChecks", fn := fun _ => fun
  | [d1, d2] => { results := [.lit (.bool false)], args := [d1, d2] }
  | _ => none }
def WearChecksWrongFalsely : Prop := wearChecksRow.holds Tryd.pinned (OpenSpec.ofChange wearChecksWrong)

/-- 'thatchlaw07.WearProbes': WHATEVER THE INPUT: true; the input reads as it did. -/
def wearProbesSpec : ChangeSpec := { name := "wearProbes", fn := fun _ => fun
  | [d1, d2, d3, d4] => { results := [.lit (.bool true)], args := [d1, d2, d3, d4] }
  | _ => none }
def wearProbesRow : OpenClaim := { program := "ytoigihmgjacbjaadoor", sum := "c05b52f9f9ce3d3110dfade66484fa374b2b84ccda05c7f8ef712da661d62229", func := "thatch/thatchlaw07.WearProbes", spec := "wearProbes", inPlace := ["slices.overlaps[thatch/api.Mark]"], unfollowed := true, recurses := true, named := ["thatch/wear.nothing"], apart := false, laid := [("thatch/wear.nothing", laid_thatch_wear_nothing)] }
def WearProbesSaid : Prop := wearProbesRow.holds Tryd.pinned (OpenSpec.ofChange wearProbesSpec)

/-- ITS FALSE NEIGHBOUR: 'it returns false'. Refute it at one input. -/
def wearProbesWrong : ChangeSpec := { name := "wearProbes", fn := fun _ => fun
  | [d1, d2, d3, d4] => { results := [.lit (.bool false)], args := [d1, d2, d3, d4] }
  | _ => none }
def WearProbesWrongFalsely : Prop := wearProbesRow.holds Tryd.pinned (OpenSpec.ofChange wearProbesWrong)

/-- 'thatchlaw07.WearSteep': WHATEVER THE INPUT: true; the input reads as it did. -/
def wearSteepSpec : ChangeSpec := { name := "wearSteep", fn := fun _ => fun
  | [d1, d2, d3] => { results := [.lit (.bool true)], args := [d1, d2, d3] }
  | _ => none }
def wearSteepRow : OpenClaim := { program := "ytoigihmgjacbjaadoor", sum := "c05b52f9f9ce3d3110dfade66484fa374b2b84ccda05c7f8ef712da661d62229", func := "thatch/thatchlaw07.WearSteep", spec := "wearSteep", unfollowed := true, recurses := true, named := ["thatch/wear.nothing"], apart := false, laid := [("thatch/wear.nothing", laid_thatch_wear_nothing)] }
def WearSteepSaid : Prop := wearSteepRow.holds Tryd.pinned (OpenSpec.ofChange wearSteepSpec)

/-- ITS FALSE NEIGHBOUR: 'it returns false'. Refute it at one input. -/
def wearSteepWrong : ChangeSpec := { name := "wearSteep", fn := fun _ => fun
  | [d1, d2, d3] => { results := [.lit (.bool false)], args := [d1, d2, d3] }
  | _ => none }
def WearSteepWrongFalsely : Prop := wearSteepRow.holds Tryd.pinned (OpenSpec.ofChange wearSteepWrong)

/- THE SECOND FORM. 'bulk': how many values and letters a reading holds, each counted each time it is reached (what is shared counts as often as it is met; a slice's spare places count too). A statement '..UptoSaid' is the law's where the arguments, and the package variables that the reading takes, are together of bulk at most 1048576: NARROWER than '..Said'. Prove '..Said' where nothing that the law and all that it calls make is longer than what came in: it says more and counts as full. Else prove '..UptoSaid'. A law counts once. -/
mutual
def uptoBulk {H : Type} : DataW H → Nat
  | .lit (.string bytes) => bytes.length + 1
  | .lit _ => 1
  | .nil => 1
  | .ptr d => uptoBulk d + 1
  | .slice elems spare => uptoBulkAll elems + uptoBulkAll spare + 1
  | .agg parts => uptoBulkAll parts + 1
  | .iface _ d => uptoBulk d + 1
  | .map entries => uptoBulkEntries entries + 1
  | .held _ => 1
def uptoBulkAll {H : Type} : List (DataW H) → Nat
  | [] => 0
  | d :: r => uptoBulk d + uptoBulkAll r
def uptoBulkEntries {H : Type} : List (Lit × DataW H) → Nat
  | [] => 0
  | x :: r => uptoBulkEntry x + uptoBulkEntries r
def uptoBulkEntry {H : Type} : Lit × DataW H → Nat
  | (.string bytes, d) => bytes.length + uptoBulk d + 1
  | (_, d) => uptoBulk d + 1
 end
def uptoSmall : (H : Type) → List (DataW H) → Bool := fun _ ds => decide (uptoBulkAll ds ≤ 1048576)
def OpenSpec.upto (s : _root_.Go.ChangeSpec) : _root_.Go.OpenSpec := { _root_.Go.OpenSpec.ofChange s with cond := some uptoSmall }

/-- 'thatchlaw07.WearTwice', WHERE WHAT IT READS IS OF BULK AT MOST 1048576: true; the input reads as it did. -/
def wearTwiceUptoRow : OpenClaim := { program := "ytoigihmgjacbjaadoor", sum := "c05b52f9f9ce3d3110dfade66484fa374b2b84ccda05c7f8ef712da661d62229", func := "thatch/thatchlaw07.WearTwice", spec := "wearTwice", unfollowed := true, recurses := true, named := ["thatch/wear.nothing"], apart := false, laid := [("thatch/wear.nothing", laid_thatch_wear_nothing)], narrowed := true }
def WearTwiceUptoSaid : Prop := wearTwiceUptoRow.holds Tryd.pinned (OpenSpec.upto wearTwiceSpec)

/-- 'thatchlaw07.WearSeasons', WHERE WHAT IT READS IS OF BULK AT MOST 1048576: true; the input reads as it did. -/
def wearSeasonsUptoRow : OpenClaim := { program := "ytoigihmgjacbjaadoor", sum := "c05b52f9f9ce3d3110dfade66484fa374b2b84ccda05c7f8ef712da661d62229", func := "thatch/thatchlaw07.WearSeasons", spec := "wearSeasons", unfollowed := true, recurses := true, named := ["thatch/wear.nothing"], apart := false, laid := [("thatch/wear.nothing", laid_thatch_wear_nothing)], narrowed := true }
def WearSeasonsUptoSaid : Prop := wearSeasonsUptoRow.holds Tryd.pinned (OpenSpec.upto wearSeasonsSpec)

/-- 'thatchlaw07.WearTrue', WHERE WHAT IT READS IS OF BULK AT MOST 1048576: true; the input reads as it did. -/
def wearTrueUptoRow : OpenClaim := { program := "ytoigihmgjacbjaadoor", sum := "c05b52f9f9ce3d3110dfade66484fa374b2b84ccda05c7f8ef712da661d62229", func := "thatch/thatchlaw07.WearTrue", spec := "wearTrue", inPlace := ["slices.overlaps[thatch/api.Mark]"], unfollowed := true, recurses := true, named := ["thatch/wear.nothing"], apart := false, laid := [("thatch/wear.nothing", laid_thatch_wear_nothing)], narrowed := true }
def WearTrueUptoSaid : Prop := wearTrueUptoRow.holds Tryd.pinned (OpenSpec.upto wearTrueSpec)

/-- 'thatchlaw07.WearNarrower', WHERE WHAT IT READS IS OF BULK AT MOST 1048576: true; the input reads as it did. -/
def wearNarrowerUptoRow : OpenClaim := { program := "ytoigihmgjacbjaadoor", sum := "c05b52f9f9ce3d3110dfade66484fa374b2b84ccda05c7f8ef712da661d62229", func := "thatch/thatchlaw07.WearNarrower", spec := "wearNarrower", inPlace := ["slices.overlaps[thatch/api.Mark]"], unfollowed := true, recurses := true, named := ["thatch/wear.nothing"], apart := false, laid := [("thatch/wear.nothing", laid_thatch_wear_nothing)], narrowed := true }
def WearNarrowerUptoSaid : Prop := wearNarrowerUptoRow.holds Tryd.pinned (OpenSpec.upto wearNarrowerSpec)

/-- 'thatchlaw07.WearOrder', WHERE WHAT IT READS IS OF BULK AT MOST 1048576: true; the input reads as it did. -/
def wearOrderUptoRow : OpenClaim := { program := "ytoigihmgjacbjaadoor", sum := "c05b52f9f9ce3d3110dfade66484fa374b2b84ccda05c7f8ef712da661d62229", func := "thatch/thatchlaw07.WearOrder", spec := "wearOrder", inPlace := ["slices.overlaps[thatch/api.Mark]"], unfollowed := true, recurses := true, named := ["thatch/wear.nothing"], apart := false, laid := [("thatch/wear.nothing", laid_thatch_wear_nothing)], narrowed := true }
def WearOrderUptoSaid : Prop := wearOrderUptoRow.holds Tryd.pinned (OpenSpec.upto wearOrderSpec)

/-- 'thatchlaw07.WearChecks', WHERE WHAT IT READS IS OF BULK AT MOST 1048576: true; the input reads as it did. -/
def wearChecksUptoRow : OpenClaim := { program := "ytoigihmgjacbjaadoor", sum := "c05b52f9f9ce3d3110dfade66484fa374b2b84ccda05c7f8ef712da661d62229", func := "thatch/thatchlaw07.WearChecks", spec := "wearChecks", unfollowed := true, recurses := true, named := ["thatch/wear.nothing"], apart := false, laid := [("thatch/wear.nothing", laid_thatch_wear_nothing)], narrowed := true }
def WearChecksUptoSaid : Prop := wearChecksUptoRow.holds Tryd.pinned (OpenSpec.upto wearChecksSpec)

/-- 'thatchlaw07.WearProbes', WHERE WHAT IT READS IS OF BULK AT MOST 1048576: true; the input reads as it did. -/
def wearProbesUptoRow : OpenClaim := { program := "ytoigihmgjacbjaadoor", sum := "c05b52f9f9ce3d3110dfade66484fa374b2b84ccda05c7f8ef712da661d62229", func := "thatch/thatchlaw07.WearProbes", spec := "wearProbes", inPlace := ["slices.overlaps[thatch/api.Mark]"], unfollowed := true, recurses := true, named := ["thatch/wear.nothing"], apart := false, laid := [("thatch/wear.nothing", laid_thatch_wear_nothing)], narrowed := true }
def WearProbesUptoSaid : Prop := wearProbesUptoRow.holds Tryd.pinned (OpenSpec.upto wearProbesSpec)

/-- 'thatchlaw07.WearSteep', WHERE WHAT IT READS IS OF BULK AT MOST 1048576: true; the input reads as it did. -/
def wearSteepUptoRow : OpenClaim := { program := "ytoigihmgjacbjaadoor", sum := "c05b52f9f9ce3d3110dfade66484fa374b2b84ccda05c7f8ef712da661d62229", func := "thatch/thatchlaw07.WearSteep", spec := "wearSteep", unfollowed := true, recurses := true, named := ["thatch/wear.nothing"], apart := false, laid := [("thatch/wear.nothing", laid_thatch_wear_nothing)], narrowed := true }
def WearSteepUptoSaid : Prop := wearSteepUptoRow.holds Tryd.pinned (OpenSpec.upto wearSteepSpec)

end Rows
end Go.Proofs.YtoigihmgjacbjaaDoor
