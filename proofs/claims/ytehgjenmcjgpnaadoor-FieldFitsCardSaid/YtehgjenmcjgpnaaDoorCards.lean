/-
  DERIVED. GIVEN WITH THE SEED: THE CARDS: each row of YtehgjenmcjgpnaaDoorRows.lean that lists a variable, with what it lists TIED to the program's text (the seventh form; the later family's looks); each row that meets fmt, with fmt's text TOLD by the authors' own Lean function (tested against real Go, not proved from fmt's source: count such statements apart). THE CARD IS WHAT COUNTS. Prove the row's statement (the work); the ties are given (YtehgjenmcjgpnaaDoorTie.lean); close each card by the builder's one call (the guide's Derived/Test/ToyasCard.lean, 'card_holds'). Laid BY PROGRAM, IN A SANDBOX (cutbox-door.mjs). By AI agents, Wed Nov 11 2026. No macro, syntax, notation, axiom, sorry.
-/
import Derived.Test.YtehgjenmcjgpnaaDoorRows
import GoSem.ClaimSeven
namespace Go.Proofs.YtehgjenmcjgpnaaDoor
namespace Rows

/-- THE TIED CARD OF 'gunwalelaw07.FieldTells'. -/
def fieldTellsCard : Claim7 := { stood := { row := fieldTellsRow, standIns := [], harness := (true, "f818d26a2e58614e5a15d1a34eaf67a49716c0bb6775d4f1eda5fb5e81698c58"), looks := false }, kinds := [], alts := [], laidByText := true, laidKinds := [.data], laidTests := true, laidLooks := .later }
def FieldTellsCardSaid : Prop := Claim7.holds Tryd.pinned (.plain (OpenSpec.ofChange fieldTellsSpec)) fieldTellsCard

/-- THE TIED CARD OF 'gunwalelaw07.FieldFits'. -/
def fieldFitsCard : Claim7 := { stood := { row := fieldFitsRow, standIns := [], harness := (true, "f818d26a2e58614e5a15d1a34eaf67a49716c0bb6775d4f1eda5fb5e81698c58"), looks := false }, kinds := [], alts := [], laidByText := true, laidKinds := [.data], laidTests := true, laidLooks := .later }
def FieldFitsCardSaid : Prop := Claim7.holds Tryd.pinned (.plain (OpenSpec.ofChange fieldFitsSpec)) fieldFitsCard

/-- THE TIED CARD OF 'gunwalelaw07.FieldNeeds'. -/
def fieldNeedsCard : Claim7 := { stood := { row := fieldNeedsRow, standIns := [], harness := (true, "f818d26a2e58614e5a15d1a34eaf67a49716c0bb6775d4f1eda5fb5e81698c58"), looks := false }, kinds := [], alts := [], laidByText := true, laidKinds := [.data], laidTests := true, laidLooks := .later }
def FieldNeedsCardSaid : Prop := Claim7.holds Tryd.pinned (.plain (OpenSpec.ofChange fieldNeedsSpec)) fieldNeedsCard

/-- THE SECOND FORM's CARD OF 'gunwalelaw07.FieldTells'. -/
def fieldTellsUptoCard : Claim7 := { stood := { row := fieldTellsUptoRow, standIns := [], harness := (true, "f818d26a2e58614e5a15d1a34eaf67a49716c0bb6775d4f1eda5fb5e81698c58"), looks := false }, kinds := [], alts := [], laidByText := true, laidKinds := [.data], laidTests := true, laidLooks := .later }
def FieldTellsUptoCardSaid : Prop := Claim7.holds Tryd.pinned (.plain (OpenSpec.upto fieldTellsSpec)) fieldTellsUptoCard

/-- THE SECOND FORM's CARD OF 'gunwalelaw07.FieldFits'. -/
def fieldFitsUptoCard : Claim7 := { stood := { row := fieldFitsUptoRow, standIns := [], harness := (true, "f818d26a2e58614e5a15d1a34eaf67a49716c0bb6775d4f1eda5fb5e81698c58"), looks := false }, kinds := [], alts := [], laidByText := true, laidKinds := [.data], laidTests := true, laidLooks := .later }
def FieldFitsUptoCardSaid : Prop := Claim7.holds Tryd.pinned (.plain (OpenSpec.upto fieldFitsSpec)) fieldFitsUptoCard

/-- THE SECOND FORM's CARD OF 'gunwalelaw07.FieldNeeds'. -/
def fieldNeedsUptoCard : Claim7 := { stood := { row := fieldNeedsUptoRow, standIns := [], harness := (true, "f818d26a2e58614e5a15d1a34eaf67a49716c0bb6775d4f1eda5fb5e81698c58"), looks := false }, kinds := [], alts := [], laidByText := true, laidKinds := [.data], laidTests := true, laidLooks := .later }
def FieldNeedsUptoCardSaid : Prop := Claim7.holds Tryd.pinned (.plain (OpenSpec.upto fieldNeedsSpec)) fieldNeedsUptoCard
end Rows
end Go.Proofs.YtehgjenmcjgpnaaDoor
