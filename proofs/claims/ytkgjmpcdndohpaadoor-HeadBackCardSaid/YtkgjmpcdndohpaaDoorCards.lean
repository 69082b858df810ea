/-
  DERIVED. GIVEN WITH THE SEED: THE CARDS: each row of YtkgjmpcdndohpaaDoorRows.lean that lists a variable, with what it lists TIED to the program's text (the seventh form; the later family's looks); each row that meets fmt, with fmt's text TOLD by the authors' own Lean function (tested against real Go, not proved from fmt's source: count such statements apart). THE CARD IS WHAT COUNTS. Prove the row's statement (the work); the ties are given (YtkgjmpcdndohpaaDoorTie.lean); close each card by the builder's one call (the guide's Derived/Test/ToyasCard.lean, 'card_holds'). Laid BY PROGRAM, IN A SANDBOX (cutbox-door.mjs). By AI agents, Wed Nov 11 2026. No macro, syntax, notation, axiom, sorry.
-/
import Derived.Test.YtkgjmpcdndohpaaDoorRows
import GoSem.ClaimSeven
namespace Go.Proofs.YtkgjmpcdndohpaaDoor
namespace Rows

/-- THE TIED CARD OF 'gunwalelaw06.HeadTells'. -/
def headTellsCard : Claim7 := { stood := { row := headTellsRow, standIns := [], harness := (true, "ee40424c292cbbc2c2f2d690dad9bc9a5495169742d3a15f56a224d12d186578"), looks := false }, kinds := [], alts := [], laidByText := true, laidKinds := [.data], laidTests := true, laidLooks := .later }
def HeadTellsCardSaid : Prop := Claim7.holds Tryd.pinned (.plain (OpenSpec.ofChange headTellsSpec)) headTellsCard

/-- THE TIED CARD OF 'gunwalelaw06.HeadBack'. -/
def headBackCard : Claim7 := { stood := { row := headBackRow, standIns := [], harness := (true, "ee40424c292cbbc2c2f2d690dad9bc9a5495169742d3a15f56a224d12d186578"), looks := false }, kinds := [], alts := [], laidByText := true, laidKinds := [.data], laidTests := true, laidLooks := .later }
def HeadBackCardSaid : Prop := Claim7.holds Tryd.pinned (.plain (OpenSpec.ofChange headBackSpec)) headBackCard

/-- THE TIED CARD OF 'gunwalelaw06.HeadLeast'. -/
def headLeastCard : Claim7 := { stood := { row := headLeastRow, standIns := [], harness := (true, "ee40424c292cbbc2c2f2d690dad9bc9a5495169742d3a15f56a224d12d186578"), looks := false }, kinds := [], alts := [], laidByText := true, laidKinds := [.data], laidTests := true, laidLooks := .later }
def HeadLeastCardSaid : Prop := Claim7.holds Tryd.pinned (.plain (OpenSpec.ofChange headLeastSpec)) headLeastCard

/-- THE SECOND FORM's CARD OF 'gunwalelaw06.HeadTells'. -/
def headTellsUptoCard : Claim7 := { stood := { row := headTellsUptoRow, standIns := [], harness := (true, "ee40424c292cbbc2c2f2d690dad9bc9a5495169742d3a15f56a224d12d186578"), looks := false }, kinds := [], alts := [], laidByText := true, laidKinds := [.data], laidTests := true, laidLooks := .later }
def HeadTellsUptoCardSaid : Prop := Claim7.holds Tryd.pinned (.plain (OpenSpec.upto headTellsSpec)) headTellsUptoCard

/-- THE SECOND FORM's CARD OF 'gunwalelaw06.HeadBack'. -/
def headBackUptoCard : Claim7 := { stood := { row := headBackUptoRow, standIns := [], harness := (true, "ee40424c292cbbc2c2f2d690dad9bc9a5495169742d3a15f56a224d12d186578"), looks := false }, kinds := [], alts := [], laidByText := true, laidKinds := [.data], laidTests := true, laidLooks := .later }
def HeadBackUptoCardSaid : Prop := Claim7.holds Tryd.pinned (.plain (OpenSpec.upto headBackSpec)) headBackUptoCard

/-- THE SECOND FORM's CARD OF 'gunwalelaw06.HeadLeast'. -/
def headLeastUptoCard : Claim7 := { stood := { row := headLeastUptoRow, standIns := [], harness := (true, "ee40424c292cbbc2c2f2d690dad9bc9a5495169742d3a15f56a224d12d186578"), looks := false }, kinds := [], alts := [], laidByText := true, laidKinds := [.data], laidTests := true, laidLooks := .later }
def HeadLeastUptoCardSaid : Prop := Claim7.holds Tryd.pinned (.plain (OpenSpec.upto headLeastSpec)) headLeastUptoCard
end Rows
end Go.Proofs.YtkgjmpcdndohpaaDoor
