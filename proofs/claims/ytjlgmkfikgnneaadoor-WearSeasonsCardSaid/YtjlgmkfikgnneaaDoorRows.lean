/-
  NARROWER THAN 'FOR EVERY INPUT', by the rows' own cells (each row's printed sentence says how): WearProbes: laid · WearSeasons: laid.
  DERIVED. THE GIVEN ROWS OF THIS SEAT. 2 by the template 'for every input the law returns true; each argument reads behind the call as it read before'; 0 by the template 'total and deterministic' (their statements: YtjlgmkfikgnneaaDoorTotals.lean).
  GIVEN WITH THE SEED: the statements are not yours to turn. If you find one false, say at which input.
  Laid BY PROGRAM, IN A SANDBOX (cutbox-rows.mjs): the forced cells as the released guide's own fill.sh prints them over the translation 207c1f52ae5b4979… (all of the seat's roots in one cut). By AI agents, Wed Nov 11 2026. No macro, syntax, notation, axiom, sorry.
-/
import Derived.Test.YtjlgmkfikgnneaaDoorChecked
import GoSem.Claim
import GoSem.ClaimJoined
import GoSem.ClaimMapViews
import Derived.JoinedTies
import Derived.KernelRfl
namespace Go.Proofs.YtjlgmkfikgnneaaDoor
/- THE CELL 'sum', in the pinned program and in every row, IS THE sha256 OF THE DUMP (.gsa) THAT YtjlgmkfikgnneaaDoorProg.lean LOADS. Nothing in Lean hashes anything: it is a label: what it is worth is what the hold of that sum in a sandbox is worth. -/
noncomputable def Tryd.pinned : Pinned := { name := "ytjlgmkfikgnneaadoor", sum := "207c1f52ae5b4979008def66e3dcd8e19452354840b685d1e1a48636dee33a9d", checked := Tryd.checked }
namespace Rows
def none {H : Type} : Left H := { results := [], args := [] }

/- WHAT THE LISTED PACKAGE-LEVEL VARIABLES READ AS WHEN THE CALL BEGINS. Each datum BY PROGRAM (the guide's laid-datum.mjs) off the statement by which the dump's own 'gosem.cut.vars' lays the variable. In a bare row this is a premise. The card (YtjlgmkfikgnneaaDoorCards.lean) ties it to the program's text. -/
def laid_thatch_wear_nothing {H : Type} : DataW H := .agg [.lit (.int .i64 0), .lit (.int .i64 (-1))]

/-- 'thatchlaw07.WearProbes': WHATEVER THE INPUT: true; the input reads as it did. -/
def wearProbesSpec : ChangeSpec := { name := "wearProbes", fn := fun _ => fun
  | [d1, d2, d3, d4] => { results := [.lit (.bool true)], args := [d1, d2, d3, d4] }
  | _ => none }
def wearProbesRow : OpenClaim := { program := "ytjlgmkfikgnneaadoor", sum := "207c1f52ae5b4979008def66e3dcd8e19452354840b685d1e1a48636dee33a9d", func := "thatch/thatchlaw07.WearProbes", spec := "wearProbes", inPlace := ["slices.overlaps[thatch/api.Mark]"], unfollowed := true, recurses := true, named := ["thatch/wear.nothing"], apart := false, laid := [("thatch/wear.nothing", laid_thatch_wear_nothing)] }
def WearProbesSaid : Prop := wearProbesRow.holds Tryd.pinned (OpenSpec.ofChange wearProbesSpec)

/-- ITS FALSE NEIGHBOUR: 'it returns false'. Refute it at one input. -/
def wearProbesWrong : ChangeSpec := { name := "wearProbes", fn := fun _ => fun
  | [d1, d2, d3, d4] => { results := [.lit (.bool false)], args := [d1, d2, d3, d4] }
  | _ => none }
def WearProbesWrongFalsely : Prop := wearProbesRow.holds Tryd.pinned (OpenSpec.ofChange wearProbesWrong)

/-- 'thatchlaw07.WearSeasons': WHATEVER THE INPUT: true; the input reads as it did. -/
def wearSeasonsSpec : ChangeSpec := { name := "wearSeasons", fn := fun _ => fun
  | [d1, d2, d3] => { results := [.lit (.bool true)], args := [d1, d2, d3] }
  | _ => none }
def wearSeasonsRow : OpenClaim := { program := "ytjlgmkfikgnneaadoor", sum := "207c1f52ae5b4979008def66e3dcd8e19452354840b685d1e1a48636dee33a9d", func := "thatch/thatchlaw07.WearSeasons", spec := "wearSeasons", unfollowed := true, recurses := true, named := ["thatch/wear.nothing"], apart := false, laid := [("thatch/wear.nothing", laid_thatch_wear_nothing)] }
def WearSeasonsSaid : Prop := wearSeasonsRow.holds Tryd.pinned (OpenSpec.ofChange wearSeasonsSpec)

/-- ITS FALSE NEIGHBOUR: 'it returns false'. Refute it at one input. -/
def wearSeasonsWrong : ChangeSpec := { name := "wearSeasons", fn := fun _ => fun
  | [d1, d2, d3] => { results := [.lit (.bool false)], args := [d1, d2, d3] }
  | _ => none }
def WearSeasonsWrongFalsely : Prop := wearSeasonsRow.holds Tryd.pinned (OpenSpec.ofChange wearSeasonsWrong)

/- THE SECOND FORM. 'bulk': how many values and letters a reading holds, each counted each time it is reached (what is shared counts as often as it is met; a slice's spare places count too). A statement '..UptoSaid' is the law's where the arguments, and the package variables that the reading takes, are together of bulk at most 1048576: NARROWER than '..Said'. Prove '..Said' where nothing that the law and all that it calls make is longer than what came in: it says more and counts as full. Else prove '..UptoSaid'. A law counts once. -/
mutual
def uptoBulk {H : Type} : DataW H → Nat
  | .lit (.string bytes) => bytes.length + 1
  | .lit _ => 1
  | .nil => 1
  | .ptr d => uptoBulk d + 1
  | .slice elems spare => uptoBulkAll elems + uptoBulkAll spare + 1
  | .agg parts => uptoBulkAll parts + 1
  | .iface _ d => uptoBulk d + 1
  | .map entries => uptoBulkEntries entries + 1
  | .held _ => 1
def uptoBulkAll {H : Type} : List (DataW H) → Nat
  | [] => 0
  | d :: r => uptoBulk d + uptoBulkAll r
def uptoBulkEntries {H : Type} : List (Lit × DataW H) → Nat
  | [] => 0
  | x :: r => uptoBulkEntry x + uptoBulkEntries r
def uptoBulkEntry {H : Type} : Lit × DataW H → Nat
  | (.string bytes, d) => bytes.length + uptoBulk d + 1
  | (_, d) => uptoBulk d + 1
 end
def uptoSmall : (H : Type) → List (DataW H) → Bool := fun _ ds => decide (uptoBulkAll ds ≤ 1048576)
def OpenSpec.upto (s : _root_.Go.ChangeSpec) : _root_.Go.OpenSpec := { _root_.Go.OpenSpec.ofChange s with cond := some uptoSmall }

/-- 'thatchlaw07.WearProbes', WHERE WHAT IT READS IS OF BULK AT MOST 1048576: true; the input reads as it did. -/
def wearProbesUptoRow : OpenClaim := { program := "ytjlgmkfikgnneaadoor", sum := "207c1f52ae5b4979008def66e3dcd8e19452354840b685d1e1a48636dee33a9d", func := "thatch/thatchlaw07.WearProbes", spec := "wearProbes", inPlace := ["slices.overlaps[thatch/api.Mark]"], unfollowed := true, recurses := true, named := ["thatch/wear.nothing"], apart := false, laid := [("thatch/wear.nothing", laid_thatch_wear_nothing)], narrowed := true }
def WearProbesUptoSaid : Prop := wearProbesUptoRow.holds Tryd.pinned (OpenSpec.upto wearProbesSpec)

/-- 'thatchlaw07.WearSeasons', WHERE WHAT IT READS IS OF BULK AT MOST 1048576: true; the input reads as it did. -/
def wearSeasonsUptoRow : OpenClaim := { program := "ytjlgmkfikgnneaadoor", sum := "207c1f52ae5b4979008def66e3dcd8e19452354840b685d1e1a48636dee33a9d", func := "thatch/thatchlaw07.WearSeasons", spec := "wearSeasons", unfollowed := true, recurses := true, named := ["thatch/wear.nothing"], apart := false, laid := [("thatch/wear.nothing", laid_thatch_wear_nothing)], narrowed := true }
def WearSeasonsUptoSaid : Prop := wearSeasonsUptoRow.holds Tryd.pinned (OpenSpec.upto wearSeasonsSpec)

end Rows
end Go.Proofs.YtjlgmkfikgnneaaDoor
