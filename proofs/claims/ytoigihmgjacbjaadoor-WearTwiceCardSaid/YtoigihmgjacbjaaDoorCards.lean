/-
  DERIVED. GIVEN WITH THE SEED: THE CARDS: each row of YtoigihmgjacbjaaDoorRows.lean that lists a variable, with what it lists TIED to the program's text (the seventh form; the later family's looks); each row that meets fmt, with fmt's text TOLD by the authors' own Lean function (tested against real Go, not proved from fmt's source: count such statements apart). THE CARD IS WHAT COUNTS. Prove the row's statement (the work); the ties are given (YtoigihmgjacbjaaDoorTie.lean); close each card by the builder's one call (the guide's Derived/Test/ToyasCard.lean, 'card_holds'). Laid BY PROGRAM, IN A SANDBOX (cutbox-door.mjs). By AI agents, Wed Nov 11 2026. No macro, syntax, notation, axiom, sorry.
-/
import Derived.Test.YtoigihmgjacbjaaDoorRows
import GoSem.ClaimSeven
namespace Go.Proofs.YtoigihmgjacbjaaDoor
namespace Rows

/-- THE TIED CARD OF 'thatchlaw07.WearTwice'. -/
def wearTwiceCard : Claim7 := { stood := { row := wearTwiceRow, standIns := [], harness := (true, "36a5a8c324c58608b4e4f9c3d21e0a5c62a4c1d5de3d47afffa9d9322fe0d1b9"), looks := true }, kinds := [], alts := [], laidByText := true, laidKinds := [.data], laidTests := true, laidLooks := .later }
def WearTwiceCardSaid : Prop := Claim7.holds Tryd.pinned (.plain (OpenSpec.ofChange wearTwiceSpec)) wearTwiceCard

/-- THE TIED CARD OF 'thatchlaw07.WearSeasons'. -/
def wearSeasonsCard : Claim7 := { stood := { row := wearSeasonsRow, standIns := [], harness := (true, "36a5a8c324c58608b4e4f9c3d21e0a5c62a4c1d5de3d47afffa9d9322fe0d1b9"), looks := true }, kinds := [], alts := [], laidByText := true, laidKinds := [.data], laidTests := true, laidLooks := .later }
def WearSeasonsCardSaid : Prop := Claim7.holds Tryd.pinned (.plain (OpenSpec.ofChange wearSeasonsSpec)) wearSeasonsCard

/-- THE TIED CARD OF 'thatchlaw07.WearTrue'. -/
def wearTrueCard : Claim7 := { stood := { row := wearTrueRow, standIns := [], harness := (true, "36a5a8c324c58608b4e4f9c3d21e0a5c62a4c1d5de3d47afffa9d9322fe0d1b9"), looks := true }, kinds := [], alts := [], laidByText := true, laidKinds := [.data], laidTests := true, laidLooks := .later }
def WearTrueCardSaid : Prop := Claim7.holds Tryd.pinned (.plain (OpenSpec.ofChange wearTrueSpec)) wearTrueCard

/-- THE TIED CARD OF 'thatchlaw07.WearNarrower'. -/
def wearNarrowerCard : Claim7 := { stood := { row := wearNarrowerRow, standIns := [], harness := (true, "36a5a8c324c58608b4e4f9c3d21e0a5c62a4c1d5de3d47afffa9d9322fe0d1b9"), looks := true }, kinds := [], alts := [], laidByText := true, laidKinds := [.data], laidTests := true, laidLooks := .later }
def WearNarrowerCardSaid : Prop := Claim7.holds Tryd.pinned (.plain (OpenSpec.ofChange wearNarrowerSpec)) wearNarrowerCard

/-- THE TIED CARD OF 'thatchlaw07.WearOrder'. -/
def wearOrderCard : Claim7 := { stood := { row := wearOrderRow, standIns := [], harness := (true, "36a5a8c324c58608b4e4f9c3d21e0a5c62a4c1d5de3d47afffa9d9322fe0d1b9"), looks := true }, kinds := [], alts := [], laidByText := true, laidKinds := [.data], laidTests := true, laidLooks := .later }
def WearOrderCardSaid : Prop := Claim7.holds Tryd.pinned (.plain (OpenSpec.ofChange wearOrderSpec)) wearOrderCard

/-- THE TIED CARD OF 'thatchlaw07.WearChecks'. -/
def wearChecksCard : Claim7 := { stood := { row := wearChecksRow, standIns := [], harness := (true, "36a5a8c324c58608b4e4f9c3d21e0a5c62a4c1d5de3d47afffa9d9322fe0d1b9"), looks := true }, kinds := [], alts := [], laidByText := true, laidKinds := [.data], laidTests := true, laidLooks := .later }
def WearChecksCardSaid : Prop := Claim7.holds Tryd.pinned (.plain (OpenSpec.ofChange wearChecksSpec)) wearChecksCard

/-- THE TIED CARD OF 'thatchlaw07.WearProbes'. -/
def wearProbesCard : Claim7 := { stood := { row := wearProbesRow, standIns := [], harness := (true, "36a5a8c324c58608b4e4f9c3d21e0a5c62a4c1d5de3d47afffa9d9322fe0d1b9"), looks := true }, kinds := [], alts := [], laidByText := true, laidKinds := [.data], laidTests := true, laidLooks := .later }
def WearProbesCardSaid : Prop := Claim7.holds Tryd.pinned (.plain (OpenSpec.ofChange wearProbesSpec)) wearProbesCard

/-- THE TIED CARD OF 'thatchlaw07.WearSteep'. -/
def wearSteepCard : Claim7 := { stood := { row := wearSteepRow, standIns := [], harness := (true, "36a5a8c324c58608b4e4f9c3d21e0a5c62a4c1d5de3d47afffa9d9322fe0d1b9"), looks := true }, kinds := [], alts := [], laidByText := true, laidKinds := [.data], laidTests := true, laidLooks := .later }
def WearSteepCardSaid : Prop := Claim7.holds Tryd.pinned (.plain (OpenSpec.ofChange wearSteepSpec)) wearSteepCard

/-- THE SECOND FORM's CARD OF 'thatchlaw07.WearTwice'. -/
def wearTwiceUptoCard : Claim7 := { stood := { row := wearTwiceUptoRow, standIns := [], harness := (true, "36a5a8c324c58608b4e4f9c3d21e0a5c62a4c1d5de3d47afffa9d9322fe0d1b9"), looks := true }, kinds := [], alts := [], laidByText := true, laidKinds := [.data], laidTests := true, laidLooks := .later }
def WearTwiceUptoCardSaid : Prop := Claim7.holds Tryd.pinned (.plain (OpenSpec.upto wearTwiceSpec)) wearTwiceUptoCard

/-- THE SECOND FORM's CARD OF 'thatchlaw07.WearSeasons'. -/
def wearSeasonsUptoCard : Claim7 := { stood := { row := wearSeasonsUptoRow, standIns := [], harness := (true, "36a5a8c324c58608b4e4f9c3d21e0a5c62a4c1d5de3d47afffa9d9322fe0d1b9"), looks := true }, kinds := [], alts := [], laidByText := true, laidKinds := [.data], laidTests := true, laidLooks := .later }
def WearSeasonsUptoCardSaid : Prop := Claim7.holds Tryd.pinned (.plain (OpenSpec.upto wearSeasonsSpec)) wearSeasonsUptoCard

/-- THE SECOND FORM's CARD OF 'thatchlaw07.WearTrue'. -/
def wearTrueUptoCard : Claim7 := { stood := { row := wearTrueUptoRow, standIns := [], harness := (true, "36a5a8c324c58608b4e4f9c3d21e0a5c62a4c1d5de3d47afffa9d9322fe0d1b9"), looks := true }, kinds := [], alts := [], laidByText := true, laidKinds := [.data], laidTests := true, laidLooks := .later }
def WearTrueUptoCardSaid : Prop := Claim7.holds Tryd.pinned (.plain (OpenSpec.upto wearTrueSpec)) wearTrueUptoCard

/-- THE SECOND FORM's CARD OF 'thatchlaw07.WearNarrower'. -/
def wearNarrowerUptoCard : Claim7 := { stood := { row := wearNarrowerUptoRow, standIns := [], harness := (true, "36a5a8c324c58608b4e4f9c3d21e0a5c62a4c1d5de3d47afffa9d9322fe0d1b9"), looks := true }, kinds := [], alts := [], laidByText := true, laidKinds := [.data], laidTests := true, laidLooks := .later }
def WearNarrowerUptoCardSaid : Prop := Claim7.holds Tryd.pinned (.plain (OpenSpec.upto wearNarrowerSpec)) wearNarrowerUptoCard

/-- THE SECOND FORM's CARD OF 'thatchlaw07.WearOrder'. -/
def wearOrderUptoCard : Claim7 := { stood := { row := wearOrderUptoRow, standIns := [], harness := (true, "36a5a8c324c58608b4e4f9c3d21e0a5c62a4c1d5de3d47afffa9d9322fe0d1b9"), looks := true }, kinds := [], alts := [], laidByText := true, laidKinds := [.data], laidTests := true, laidLooks := .later }
def WearOrderUptoCardSaid : Prop := Claim7.holds Tryd.pinned (.plain (OpenSpec.upto wearOrderSpec)) wearOrderUptoCard

/-- THE SECOND FORM's CARD OF 'thatchlaw07.WearChecks'. -/
def wearChecksUptoCard : Claim7 := { stood := { row := wearChecksUptoRow, standIns := [], harness := (true, "36a5a8c324c58608b4e4f9c3d21e0a5c62a4c1d5de3d47afffa9d9322fe0d1b9"), looks := true }, kinds := [], alts := [], laidByText := true, laidKinds := [.data], laidTests := true, laidLooks := .later }
def WearChecksUptoCardSaid : Prop := Claim7.holds Tryd.pinned (.plain (OpenSpec.upto wearChecksSpec)) wearChecksUptoCard

/-- THE SECOND FORM's CARD OF 'thatchlaw07.WearProbes'. -/
def wearProbesUptoCard : Claim7 := { stood := { row := wearProbesUptoRow, standIns := [], harness := (true, "36a5a8c324c58608b4e4f9c3d21e0a5c62a4c1d5de3d47afffa9d9322fe0d1b9"), looks := true }, kinds := [], alts := [], laidByText := true, laidKinds := [.data], laidTests := true, laidLooks := .later }
def WearProbesUptoCardSaid : Prop := Claim7.holds Tryd.pinned (.plain (OpenSpec.upto wearProbesSpec)) wearProbesUptoCard

/-- THE SECOND FORM's CARD OF 'thatchlaw07.WearSteep'. -/
def wearSteepUptoCard : Claim7 := { stood := { row := wearSteepUptoRow, standIns := [], harness := (true, "36a5a8c324c58608b4e4f9c3d21e0a5c62a4c1d5de3d47afffa9d9322fe0d1b9"), looks := true }, kinds := [], alts := [], laidByText := true, laidKinds := [.data], laidTests := true, laidLooks := .later }
def WearSteepUptoCardSaid : Prop := Claim7.holds Tryd.pinned (.plain (OpenSpec.upto wearSteepSpec)) wearSteepUptoCard
end Rows
end Go.Proofs.YtoigihmgjacbjaaDoor
