/-
  DERIVED. GIVEN WITH THE SEED: THE CARDS: each row of YtjlgmkfikgnneaaDoorRows.lean that lists a variable, with what it lists TIED to the program's text (the seventh form; the later family's looks); each row that meets fmt, with fmt's text TOLD by the authors' own Lean function (tested against real Go, not proved from fmt's source: count such statements apart). THE CARD IS WHAT COUNTS. Prove the row's statement (the work); the ties are given (YtjlgmkfikgnneaaDoorTie.lean); close each card by the builder's one call (the guide's Derived/Test/ToyasCard.lean, 'card_holds'). Laid BY PROGRAM, IN A SANDBOX (cutbox-door.mjs). By AI agents, Wed Nov 11 2026. No macro, syntax, notation, axiom, sorry.
-/
import Derived.Test.YtjlgmkfikgnneaaDoorRows
import GoSem.ClaimSeven
namespace Go.Proofs.YtjlgmkfikgnneaaDoor
namespace Rows

/-- THE TIED CARD OF 'thatchlaw07.WearProbes'. -/
def wearProbesCard : Claim7 := { stood := { row := wearProbesRow, standIns := [], harness := (true, "b7acd2fbbcb5fd8cdaf48b79e412073cc218efcb0fc5d82c8c4e8a288e9876f4"), looks := true }, kinds := [], alts := [], laidByText := true, laidKinds := [.data], laidTests := true, laidLooks := .later }
def WearProbesCardSaid : Prop := Claim7.holds Tryd.pinned (.plain (OpenSpec.ofChange wearProbesSpec)) wearProbesCard

/-- THE TIED CARD OF 'thatchlaw07.WearSeasons'. -/
def wearSeasonsCard : Claim7 := { stood := { row := wearSeasonsRow, standIns := [], harness := (true, "b7acd2fbbcb5fd8cdaf48b79e412073cc218efcb0fc5d82c8c4e8a288e9876f4"), looks := true }, kinds := [], alts := [], laidByText := true, laidKinds := [.data], laidTests := true, laidLooks := .later }
def WearSeasonsCardSaid : Prop := Claim7.holds Tryd.pinned (.plain (OpenSpec.ofChange wearSeasonsSpec)) wearSeasonsCard

/-- THE SECOND FORM's CARD OF 'thatchlaw07.WearProbes'. -/
def wearProbesUptoCard : Claim7 := { stood := { row := wearProbesUptoRow, standIns := [], harness := (true, "b7acd2fbbcb5fd8cdaf48b79e412073cc218efcb0fc5d82c8c4e8a288e9876f4"), looks := true }, kinds := [], alts := [], laidByText := true, laidKinds := [.data], laidTests := true, laidLooks := .later }
def WearProbesUptoCardSaid : Prop := Claim7.holds Tryd.pinned (.plain (OpenSpec.upto wearProbesSpec)) wearProbesUptoCard

/-- THE SECOND FORM's CARD OF 'thatchlaw07.WearSeasons'. -/
def wearSeasonsUptoCard : Claim7 := { stood := { row := wearSeasonsUptoRow, standIns := [], harness := (true, "b7acd2fbbcb5fd8cdaf48b79e412073cc218efcb0fc5d82c8c4e8a288e9876f4"), looks := true }, kinds := [], alts := [], laidByText := true, laidKinds := [.data], laidTests := true, laidLooks := .later }
def WearSeasonsUptoCardSaid : Prop := Claim7.holds Tryd.pinned (.plain (OpenSpec.upto wearSeasonsSpec)) wearSeasonsUptoCard
end Rows
end Go.Proofs.YtjlgmkfikgnneaaDoor
