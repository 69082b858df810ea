/-
  NARROWER THAN 'FOR EVERY INPUT', by the rows' own cells (each row's printed sentence says how): FieldTells: laid · FieldFits: laid · FieldNeeds: laid.
  DERIVED. THE GIVEN ROWS OF THIS SEAT. 3 by the template 'for every input the law returns true; each argument reads behind the call as it read before'; 0 by the template 'total and deterministic' (their statements: YtehgjenmcjgpnaaDoorTotals.lean).
  GIVEN WITH THE SEED: the statements are not yours to turn. If you find one false, say at which input.
  Laid BY PROGRAM, IN A SANDBOX (cutbox-rows.mjs): the forced cells as the released guide's own fill.sh prints them over the translation 1fe96d83e9635a12… (all of the seat's roots in one cut). By AI agents, Wed Nov 11 2026. No macro, syntax, notation, axiom, sorry.
-/
import Derived.Test.YtehgjenmcjgpnaaDoorChecked
import GoSem.Claim
import GoSem.ClaimJoined
import GoSem.ClaimMapViews
import Derived.JoinedTies
import Derived.KernelRfl
namespace Go.Proofs.YtehgjenmcjgpnaaDoor
/- THE CELL 'sum', in the pinned program and in every row, IS THE sha256 OF THE DUMP (.gsa) THAT YtehgjenmcjgpnaaDoorProg.lean LOADS. Nothing in Lean hashes anything: it is a label: what it is worth is what the hold of that sum in a sandbox is worth. -/
noncomputable def Tryd.pinned : Pinned := { name := "ytehgjenmcjgpnaadoor", sum := "1fe96d83e9635a12a7d0312588cc85764dc2d92c2725fe4d13dc2290a9e31dfd", checked := Tryd.checked }
namespace Rows
def none {H : Type} : Left H := { results := [], args := [] }

/- WHAT THE LISTED PACKAGE-LEVEL VARIABLES READ AS WHEN THE CALL BEGINS. Each datum BY PROGRAM (the guide's laid-datum.mjs) off the statement by which the dump's own 'gosem.cut.vars' lays the variable. In a bare row this is a premise. The card (YtehgjenmcjgpnaaDoorCards.lean) ties it to the program's text. -/
def laid_gunwale_field_names {H : Type} : DataW H := .agg [.lit (.string [105, 110, 95, 112, 111, 114, 116]), .lit (.string [105, 110, 95, 112, 104, 121, 95, 112, 111, 114, 116]), .lit (.string [109, 101, 116, 97, 100, 97, 116, 97]), .lit (.string [101, 116, 104, 95, 100, 115, 116]), .lit (.string [101, 116, 104, 95, 115, 114, 99]), .lit (.string [101, 116, 104, 95, 116, 121, 112, 101]), .lit (.string [118, 108, 97, 110, 95, 118, 105, 100]), .lit (.string [118, 108, 97, 110, 95, 112, 99, 112]), .lit (.string [105, 112, 95, 100, 115, 99, 112]), .lit (.string [105, 112, 95, 101, 99, 110]), .lit (.string [105, 112, 95, 112, 114, 111, 116, 111]), .lit (.string [105, 112, 118, 52, 95, 115, 114, 99]), .lit (.string [105, 112, 118, 52, 95, 100, 115, 116]), .lit (.string [116, 99, 112, 95, 115, 114, 99]), .lit (.string [116, 99, 112, 95, 100, 115, 116]), .lit (.string [117, 100, 112, 95, 115, 114, 99]), .lit (.string [117, 100, 112, 95, 100, 115, 116]), .lit (.string [115, 99, 116, 112, 95, 115, 114, 99]), .lit (.string [115, 99, 116, 112, 95, 100, 115, 116]), .lit (.string [105, 99, 109, 112, 118, 52, 95, 116, 121, 112, 101]), .lit (.string [105, 99, 109, 112, 118, 52, 95, 99, 111, 100, 101]), .lit (.string [97, 114, 112, 95, 111, 112]), .lit (.string [97, 114, 112, 95, 115, 112, 97]), .lit (.string [97, 114, 112, 95, 116, 112, 97]), .lit (.string [97, 114, 112, 95, 115, 104, 97]), .lit (.string [97, 114, 112, 95, 116, 104, 97]), .lit (.string [105, 112, 118, 54, 95, 115, 114, 99]), .lit (.string [105, 112, 118, 54, 95, 100, 115, 116]), .lit (.string [105, 112, 118, 54, 95, 102, 108, 97, 98, 101, 108]), .lit (.string [105, 99, 109, 112, 118, 54, 95, 116, 121, 112, 101]), .lit (.string [105, 99, 109, 112, 118, 54, 95, 99, 111, 100, 101]), .lit (.string [105, 112, 118, 54, 95, 110, 100, 95, 116, 97, 114, 103, 101, 116]), .lit (.string [105, 112, 118, 54, 95, 110, 100, 95, 115, 108, 108]), .lit (.string [105, 112, 118, 54, 95, 110, 100, 95, 116, 108, 108]), .lit (.string [109, 112, 108, 115, 95, 108, 97, 98, 101, 108]), .lit (.string [109, 112, 108, 115, 95, 116, 99]), .lit (.string [109, 112, 108, 115, 95, 98, 111, 115]), .lit (.string [112, 98, 98, 95, 105, 115, 105, 100]), .lit (.string [116, 117, 110, 110, 101, 108, 95, 105, 100]), .lit (.string [105, 112, 118, 54, 95, 101, 120, 116, 104, 100, 114])]

/-- 'gunwalelaw07.FieldTells': WHATEVER THE INPUT: true; the input reads as it did. -/
def fieldTellsSpec : ChangeSpec := { name := "fieldTells", fn := fun _ => fun
  | [d1, d2] => { results := [.lit (.bool true)], args := [d1, d2] }
  | _ => none }
def fieldTellsRow : OpenClaim := { program := "ytehgjenmcjgpnaadoor", sum := "1fe96d83e9635a12a7d0312588cc85764dc2d92c2725fe4d13dc2290a9e31dfd", func := "gunwale/gunwalelaw07.FieldTells", spec := "fieldTells", recurses := true, named := ["gunwale/field.names"], apart := false, laid := [("gunwale/field.names", laid_gunwale_field_names)] }
def FieldTellsSaid : Prop := fieldTellsRow.holds Tryd.pinned (OpenSpec.ofChange fieldTellsSpec)

/-- ITS FALSE NEIGHBOUR: 'it returns false'. Refute it at one input. -/
def fieldTellsWrong : ChangeSpec := { name := "fieldTells", fn := fun _ => fun
  | [d1, d2] => { results := [.lit (.bool false)], args := [d1, d2] }
  | _ => none }
def FieldTellsWrongFalsely : Prop := fieldTellsRow.holds Tryd.pinned (OpenSpec.ofChange fieldTellsWrong)

/-- 'gunwalelaw07.FieldFits': WHATEVER THE INPUT: true; the input reads as it did. -/
def fieldFitsSpec : ChangeSpec := { name := "fieldFits", fn := fun _ => fun
  | [d1, d2] => { results := [.lit (.bool true)], args := [d1, d2] }
  | _ => none }
def fieldFitsRow : OpenClaim := { program := "ytehgjenmcjgpnaadoor", sum := "1fe96d83e9635a12a7d0312588cc85764dc2d92c2725fe4d13dc2290a9e31dfd", func := "gunwale/gunwalelaw07.FieldFits", spec := "fieldFits", recurses := true, named := ["gunwale/field.names"], apart := false, laid := [("gunwale/field.names", laid_gunwale_field_names)] }
def FieldFitsSaid : Prop := fieldFitsRow.holds Tryd.pinned (OpenSpec.ofChange fieldFitsSpec)

/-- ITS FALSE NEIGHBOUR: 'it returns false'. Refute it at one input. -/
def fieldFitsWrong : ChangeSpec := { name := "fieldFits", fn := fun _ => fun
  | [d1, d2] => { results := [.lit (.bool false)], args := [d1, d2] }
  | _ => none }
def FieldFitsWrongFalsely : Prop := fieldFitsRow.holds Tryd.pinned (OpenSpec.ofChange fieldFitsWrong)

/-- 'gunwalelaw07.FieldNeeds': WHATEVER THE INPUT: true; the input reads as it did. -/
def fieldNeedsSpec : ChangeSpec := { name := "fieldNeeds", fn := fun _ => fun
  | [d] => { results := [.lit (.bool true)], args := [d] }
  | _ => none }
def fieldNeedsRow : OpenClaim := { program := "ytehgjenmcjgpnaadoor", sum := "1fe96d83e9635a12a7d0312588cc85764dc2d92c2725fe4d13dc2290a9e31dfd", func := "gunwale/gunwalelaw07.FieldNeeds", spec := "fieldNeeds", recurses := true, named := ["gunwale/field.names"], apart := false, laid := [("gunwale/field.names", laid_gunwale_field_names)] }
def FieldNeedsSaid : Prop := fieldNeedsRow.holds Tryd.pinned (OpenSpec.ofChange fieldNeedsSpec)

/-- ITS FALSE NEIGHBOUR: 'it returns false'. Refute it at one input. -/
def fieldNeedsWrong : ChangeSpec := { name := "fieldNeeds", fn := fun _ => fun
  | [d] => { results := [.lit (.bool false)], args := [d] }
  | _ => none }
def FieldNeedsWrongFalsely : Prop := fieldNeedsRow.holds Tryd.pinned (OpenSpec.ofChange fieldNeedsWrong)

/- THE SECOND FORM. 'bulk': how many values and letters a reading holds, each counted each time it is reached (what is shared counts as often as it is met; a slice's spare places count too). A statement '..UptoSaid' is the law's where the arguments, and the package variables that the reading takes, are together of bulk at most 1048576: NARROWER than '..Said'. Prove '..Said' where nothing that the law and all that it calls make is longer than what came in: it says more and counts as full. Else prove '..UptoSaid'. A law counts once. -/
mutual
def uptoBulk {H : Type} : DataW H → Nat
  | .lit (.string bytes) => bytes.length + 1
  | .lit _ => 1
  | .nil => 1
  | .ptr d => uptoBulk d + 1
  | .slice elems spare => uptoBulkAll elems + uptoBulkAll spare + 1
  | .agg parts => uptoBulkAll parts + 1
  | .iface _ d => uptoBulk d + 1
  | .map entries => uptoBulkEntries entries + 1
  | .held _ => 1
def uptoBulkAll {H : Type} : List (DataW H) → Nat
  | [] => 0
  | d :: r => uptoBulk d + uptoBulkAll r
def uptoBulkEntries {H : Type} : List (Lit × DataW H) → Nat
  | [] => 0
  | x :: r => uptoBulkEntry x + uptoBulkEntries r
def uptoBulkEntry {H : Type} : Lit × DataW H → Nat
  | (.string bytes, d) => bytes.length + uptoBulk d + 1
  | (_, d) => uptoBulk d + 1
 end
def uptoSmall : (H : Type) → List (DataW H) → Bool := fun _ ds => decide (uptoBulkAll ds ≤ 1048576)
def OpenSpec.upto (s : _root_.Go.ChangeSpec) : _root_.Go.OpenSpec := { _root_.Go.OpenSpec.ofChange s with cond := some uptoSmall }

/-- 'gunwalelaw07.FieldTells', WHERE WHAT IT READS IS OF BULK AT MOST 1048576: true; the input reads as it did. -/
def fieldTellsUptoRow : OpenClaim := { program := "ytehgjenmcjgpnaadoor", sum := "1fe96d83e9635a12a7d0312588cc85764dc2d92c2725fe4d13dc2290a9e31dfd", func := "gunwale/gunwalelaw07.FieldTells", spec := "fieldTells", recurses := true, named := ["gunwale/field.names"], apart := false, laid := [("gunwale/field.names", laid_gunwale_field_names)], narrowed := true }
def FieldTellsUptoSaid : Prop := fieldTellsUptoRow.holds Tryd.pinned (OpenSpec.upto fieldTellsSpec)

/-- 'gunwalelaw07.FieldFits', WHERE WHAT IT READS IS OF BULK AT MOST 1048576: true; the input reads as it did. -/
def fieldFitsUptoRow : OpenClaim := { program := "ytehgjenmcjgpnaadoor", sum := "1fe96d83e9635a12a7d0312588cc85764dc2d92c2725fe4d13dc2290a9e31dfd", func := "gunwale/gunwalelaw07.FieldFits", spec := "fieldFits", recurses := true, named := ["gunwale/field.names"], apart := false, laid := [("gunwale/field.names", laid_gunwale_field_names)], narrowed := true }
def FieldFitsUptoSaid : Prop := fieldFitsUptoRow.holds Tryd.pinned (OpenSpec.upto fieldFitsSpec)

/-- 'gunwalelaw07.FieldNeeds', WHERE WHAT IT READS IS OF BULK AT MOST 1048576: true; the input reads as it did. -/
def fieldNeedsUptoRow : OpenClaim := { program := "ytehgjenmcjgpnaadoor", sum := "1fe96d83e9635a12a7d0312588cc85764dc2d92c2725fe4d13dc2290a9e31dfd", func := "gunwale/gunwalelaw07.FieldNeeds", spec := "fieldNeeds", recurses := true, named := ["gunwale/field.names"], apart := false, laid := [("gunwale/field.names", laid_gunwale_field_names)], narrowed := true }
def FieldNeedsUptoSaid : Prop := fieldNeedsUptoRow.holds Tryd.pinned (OpenSpec.upto fieldNeedsSpec)

end Rows
end Go.Proofs.YtehgjenmcjgpnaaDoor
