/-
  No cell of these rows narrows 'for every input' (looked for: loops, veiled, ifaces, maps, wideKeys, modest, calm, conditions, laid).
  DERIVED. THE GIVEN ROWS OF THIS SEAT. 5 by the template 'for every input the law returns true; each argument reads behind the call as it read before'; 0 by the template 'total and deterministic' (their statements: YtpdgcajbdaleeaaTotals.lean).
  GIVEN WITH THE SEED: the statements are not yours to turn. If you find one false, say at which input.
  Laid BY PROGRAM, IN A SANDBOX (cutbox-rows.mjs): the forced cells as the released guide's own fill.sh prints them over the translation 265b9579f37c64f2… (all of the seat's roots in one cut). By AI agents, Wed Nov 11 2026. No macro, syntax, notation, axiom, sorry.
-/
import Derived.Test.YtpdgcajbdaleeaaChecked
import GoSem.Claim
import GoSem.ClaimJoined
import GoSem.ClaimMapViews
import Derived.JoinedTies
import Derived.KernelRfl
namespace Go.Proofs.Ytpdgcajbdaleeaa
/- THE CELL 'sum', in the pinned program and in every row, IS THE sha256 OF THE DUMP (.gsa) THAT YtpdgcajbdaleeaaProg.lean LOADS. Nothing in Lean hashes anything: it is a label: what it is worth is what the hold of that sum in a sandbox is worth. -/
noncomputable def Try.pinned : Pinned := { name := "ytpdgcajbdaleeaa", sum := "265b9579f37c64f256666dccd4179c5e8440f9f951670beee689a310eb6b867b", checked := Try.checked }
namespace Rows
def none {H : Type} : Left H := { results := [], args := [] }

/-- 'thatchlaw01.RoofPoints': WHATEVER THE INPUT: true; the input reads as it did. -/
def roofPointsSpec : ChangeSpec := { name := "roofPoints", fn := fun _ => fun
  | [d1, d2, d3] => { results := [.lit (.bool true)], args := [d1, d2, d3] }
  | _ => none }
def roofPointsRow : OpenClaim := { program := "ytpdgcajbdaleeaa", sum := "265b9579f37c64f256666dccd4179c5e8440f9f951670beee689a310eb6b867b", func := "thatch/thatchlaw01.RoofPoints", spec := "roofPoints", unfollowed := true, recurses := true, plainKeys := false, apart := false }
def RoofPointsSaid : Prop := roofPointsRow.holds Try.pinned (OpenSpec.ofChange roofPointsSpec)

/-- ITS FALSE NEIGHBOUR: 'it returns false'. Refute it at one input. -/
def roofPointsWrong : ChangeSpec := { name := "roofPoints", fn := fun _ => fun
  | [d1, d2, d3] => { results := [.lit (.bool false)], args := [d1, d2, d3] }
  | _ => none }
def RoofPointsWrongFalsely : Prop := roofPointsRow.holds Try.pinned (OpenSpec.ofChange roofPointsWrong)

/-- 'thatchlaw01.RoofLays': WHATEVER THE INPUT: true; the input reads as it did. -/
def roofLaysSpec : ChangeSpec := { name := "roofLays", fn := fun _ => fun
  | [d1, d2] => { results := [.lit (.bool true)], args := [d1, d2] }
  | _ => none }
def roofLaysRow : OpenClaim := { program := "ytpdgcajbdaleeaa", sum := "265b9579f37c64f256666dccd4179c5e8440f9f951670beee689a310eb6b867b", func := "thatch/thatchlaw01.RoofLays", spec := "roofLays", unfollowed := true, recurses := true, plainKeys := false, apart := false }
def RoofLaysSaid : Prop := roofLaysRow.holds Try.pinned (OpenSpec.ofChange roofLaysSpec)

/-- ITS FALSE NEIGHBOUR: 'it returns false'. Refute it at one input. -/
def roofLaysWrong : ChangeSpec := { name := "roofLays", fn := fun _ => fun
  | [d1, d2] => { results := [.lit (.bool false)], args := [d1, d2] }
  | _ => none }
def RoofLaysWrongFalsely : Prop := roofLaysRow.holds Try.pinned (OpenSpec.ofChange roofLaysWrong)

/-- 'thatchlaw01.RoofKnown': WHATEVER THE INPUT: true; the input reads as it did. -/
def roofKnownSpec : ChangeSpec := { name := "roofKnown", fn := fun _ => fun
  | [d1, d2] => { results := [.lit (.bool true)], args := [d1, d2] }
  | _ => none }
def roofKnownRow : OpenClaim := { program := "ytpdgcajbdaleeaa", sum := "265b9579f37c64f256666dccd4179c5e8440f9f951670beee689a310eb6b867b", func := "thatch/thatchlaw01.RoofKnown", spec := "roofKnown", unfollowed := true, recurses := true, plainKeys := false, apart := false }
def RoofKnownSaid : Prop := roofKnownRow.holds Try.pinned (OpenSpec.ofChange roofKnownSpec)

/-- ITS FALSE NEIGHBOUR: 'it returns false'. Refute it at one input. -/
def roofKnownWrong : ChangeSpec := { name := "roofKnown", fn := fun _ => fun
  | [d1, d2] => { results := [.lit (.bool false)], args := [d1, d2] }
  | _ => none }
def RoofKnownWrongFalsely : Prop := roofKnownRow.holds Try.pinned (OpenSpec.ofChange roofKnownWrong)

/-- 'thatchlaw01.RoofTurned': WHATEVER THE INPUT: true; the input reads as it did. -/
def roofTurnedSpec : ChangeSpec := { name := "roofTurned", fn := fun _ => fun
  | [d] => { results := [.lit (.bool true)], args := [d] }
  | _ => none }
def roofTurnedRow : OpenClaim := { program := "ytpdgcajbdaleeaa", sum := "265b9579f37c64f256666dccd4179c5e8440f9f951670beee689a310eb6b867b", func := "thatch/thatchlaw01.RoofTurned", spec := "roofTurned", unfollowed := true, recurses := true, plainKeys := false, apart := false }
def RoofTurnedSaid : Prop := roofTurnedRow.holds Try.pinned (OpenSpec.ofChange roofTurnedSpec)

/-- ITS FALSE NEIGHBOUR: 'it returns false'. Refute it at one input. -/
def roofTurnedWrong : ChangeSpec := { name := "roofTurned", fn := fun _ => fun
  | [d] => { results := [.lit (.bool false)], args := [d] }
  | _ => none }
def RoofTurnedWrongFalsely : Prop := roofTurnedRow.holds Try.pinned (OpenSpec.ofChange roofTurnedWrong)

/-- 'thatchlaw01.RoofMirrored': WHATEVER THE INPUT: true; the input reads as it did. -/
def roofMirroredSpec : ChangeSpec := { name := "roofMirrored", fn := fun _ => fun
  | [d] => { results := [.lit (.bool true)], args := [d] }
  | _ => none }
def roofMirroredRow : OpenClaim := { program := "ytpdgcajbdaleeaa", sum := "265b9579f37c64f256666dccd4179c5e8440f9f951670beee689a310eb6b867b", func := "thatch/thatchlaw01.RoofMirrored", spec := "roofMirrored", unfollowed := true, recurses := true, plainKeys := false, apart := false }
def RoofMirroredSaid : Prop := roofMirroredRow.holds Try.pinned (OpenSpec.ofChange roofMirroredSpec)

/-- ITS FALSE NEIGHBOUR: 'it returns false'. Refute it at one input. -/
def roofMirroredWrong : ChangeSpec := { name := "roofMirrored", fn := fun _ => fun
  | [d] => { results := [.lit (.bool false)], args := [d] }
  | _ => none }
def RoofMirroredWrongFalsely : Prop := roofMirroredRow.holds Try.pinned (OpenSpec.ofChange roofMirroredWrong)

/- THE SECOND FORM. 'bulk': how many values and letters a reading holds, each counted each time it is reached (what is shared counts as often as it is met; a slice's spare places count too). A statement '..UptoSaid' is the law's where the arguments, and the package variables that the reading takes, are together of bulk at most 1048576: NARROWER than '..Said'. Prove '..Said' where nothing that the law and all that it calls make is longer than what came in: it says more and counts as full. Else prove '..UptoSaid'. A law counts once. -/
mutual
def uptoBulk {H : Type} : DataW H → Nat
  | .lit (.string bytes) => bytes.length + 1
  | .lit _ => 1
  | .nil => 1
  | .ptr d => uptoBulk d + 1
  | .slice elems spare => uptoBulkAll elems + uptoBulkAll spare + 1
  | .agg parts => uptoBulkAll parts + 1
  | .iface _ d => uptoBulk d + 1
  | .map entries => uptoBulkEntries entries + 1
  | .held _ => 1
def uptoBulkAll {H : Type} : List (DataW H) → Nat
  | [] => 0
  | d :: r => uptoBulk d + uptoBulkAll r
def uptoBulkEntries {H : Type} : List (Lit × DataW H) → Nat
  | [] => 0
  | x :: r => uptoBulkEntry x + uptoBulkEntries r
def uptoBulkEntry {H : Type} : Lit × DataW H → Nat
  | (.string bytes, d) => bytes.length + uptoBulk d + 1
  | (_, d) => uptoBulk d + 1
 end
def uptoSmall : (H : Type) → List (DataW H) → Bool := fun _ ds => decide (uptoBulkAll ds ≤ 1048576)
def OpenSpec.upto (s : _root_.Go.ChangeSpec) : _root_.Go.OpenSpec := { _root_.Go.OpenSpec.ofChange s with cond := some uptoSmall }

/-- 'thatchlaw01.RoofPoints', WHERE WHAT IT READS IS OF BULK AT MOST 1048576: true; the input reads as it did. -/
def roofPointsUptoRow : OpenClaim := { program := "ytpdgcajbdaleeaa", sum := "265b9579f37c64f256666dccd4179c5e8440f9f951670beee689a310eb6b867b", func := "thatch/thatchlaw01.RoofPoints", spec := "roofPoints", unfollowed := true, recurses := true, plainKeys := false, apart := false, narrowed := true }
def RoofPointsUptoSaid : Prop := roofPointsUptoRow.holds Try.pinned (OpenSpec.upto roofPointsSpec)

/-- 'thatchlaw01.RoofLays', WHERE WHAT IT READS IS OF BULK AT MOST 1048576: true; the input reads as it did. -/
def roofLaysUptoRow : OpenClaim := { program := "ytpdgcajbdaleeaa", sum := "265b9579f37c64f256666dccd4179c5e8440f9f951670beee689a310eb6b867b", func := "thatch/thatchlaw01.RoofLays", spec := "roofLays", unfollowed := true, recurses := true, plainKeys := false, apart := false, narrowed := true }
def RoofLaysUptoSaid : Prop := roofLaysUptoRow.holds Try.pinned (OpenSpec.upto roofLaysSpec)

/-- 'thatchlaw01.RoofKnown', WHERE WHAT IT READS IS OF BULK AT MOST 1048576: true; the input reads as it did. -/
def roofKnownUptoRow : OpenClaim := { program := "ytpdgcajbdaleeaa", sum := "265b9579f37c64f256666dccd4179c5e8440f9f951670beee689a310eb6b867b", func := "thatch/thatchlaw01.RoofKnown", spec := "roofKnown", unfollowed := true, recurses := true, plainKeys := false, apart := false, narrowed := true }
def RoofKnownUptoSaid : Prop := roofKnownUptoRow.holds Try.pinned (OpenSpec.upto roofKnownSpec)

/-- 'thatchlaw01.RoofTurned', WHERE WHAT IT READS IS OF BULK AT MOST 1048576: true; the input reads as it did. -/
def roofTurnedUptoRow : OpenClaim := { program := "ytpdgcajbdaleeaa", sum := "265b9579f37c64f256666dccd4179c5e8440f9f951670beee689a310eb6b867b", func := "thatch/thatchlaw01.RoofTurned", spec := "roofTurned", unfollowed := true, recurses := true, plainKeys := false, apart := false, narrowed := true }
def RoofTurnedUptoSaid : Prop := roofTurnedUptoRow.holds Try.pinned (OpenSpec.upto roofTurnedSpec)

/-- 'thatchlaw01.RoofMirrored', WHERE WHAT IT READS IS OF BULK AT MOST 1048576: true; the input reads as it did. -/
def roofMirroredUptoRow : OpenClaim := { program := "ytpdgcajbdaleeaa", sum := "265b9579f37c64f256666dccd4179c5e8440f9f951670beee689a310eb6b867b", func := "thatch/thatchlaw01.RoofMirrored", spec := "roofMirrored", unfollowed := true, recurses := true, plainKeys := false, apart := false, narrowed := true }
def RoofMirroredUptoSaid : Prop := roofMirroredUptoRow.holds Try.pinned (OpenSpec.upto roofMirroredSpec)

end Rows
end Go.Proofs.Ytpdgcajbdaleeaa
