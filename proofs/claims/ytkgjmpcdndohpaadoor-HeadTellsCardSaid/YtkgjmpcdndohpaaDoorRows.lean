/-
  NARROWER THAN 'FOR EVERY INPUT', by the rows' own cells (each row's printed sentence says how): HeadTells: laid · HeadBack: laid · HeadLeast: laid.
  DERIVED. THE GIVEN ROWS OF THIS SEAT. 3 by the template 'for every input the law returns true; each argument reads behind the call as it read before'; 0 by the template 'total and deterministic' (their statements: YtkgjmpcdndohpaaDoorTotals.lean).
  GIVEN WITH THE SEED: the statements are not yours to turn. If you find one false, say at which input.
  Laid BY PROGRAM, IN A SANDBOX (cutbox-rows.mjs): the forced cells as the released guide's own fill.sh prints them over the translation 30a628437b9bf210… (all of the seat's roots in one cut). By AI agents, Wed Nov 11 2026. No macro, syntax, notation, axiom, sorry.
-/
import Derived.Test.YtkgjmpcdndohpaaDoorChecked
import GoSem.Claim
import GoSem.ClaimJoined
import GoSem.ClaimMapViews
import Derived.JoinedTies
import Derived.KernelRfl
namespace Go.Proofs.YtkgjmpcdndohpaaDoor
/- THE CELL 'sum', in the pinned program and in every row, IS THE sha256 OF THE DUMP (.gsa) THAT YtkgjmpcdndohpaaDoorProg.lean LOADS. Nothing in Lean hashes anything: it is a label: what it is worth is what the hold of that sum in a sandbox is worth. -/
noncomputable def Tryd.pinned : Pinned := { name := "ytkgjmpcdndohpaadoor", sum := "30a628437b9bf210dd213f5a64e5aa89fab4708bc701f1e794acc74ad1d184b7", checked := Tryd.checked }
namespace Rows
def none {H : Type} : Left H := { results := [], args := [] }

/- WHAT THE LISTED PACKAGE-LEVEL VARIABLES READ AS WHEN THE CALL BEGINS. Each datum BY PROGRAM (the guide's laid-datum.mjs) off the statement by which the dump's own 'gosem.cut.vars' lays the variable. In a bare row this is a premise. The card (YtkgjmpcdndohpaaDoorCards.lean) ties it to the program's text. -/
def laid_gunwale_head_least {H : Type} : DataW H := .agg [.lit (.int .i64 8), .lit (.int .i64 12), .lit (.int .i64 8), .lit (.int .i64 8), .lit (.int .i64 16), .lit (.int .i64 8), .lit (.int .i64 32), .lit (.int .i64 8), .lit (.int .i64 12), .lit (.int .i64 12), .lit (.int .i64 34), .lit (.int .i64 56), .lit (.int .i64 80), .lit (.int .i64 24), .lit (.int .i64 56), .lit (.int .i64 16), .lit (.int .i64 40), .lit (.int .i64 16), .lit (.int .i64 16), .lit (.int .i64 16), .lit (.int .i64 8), .lit (.int .i64 8), .lit (.int .i64 16), .lit (.int .i64 16), .lit (.int .i64 24), .lit (.int .i64 24), .lit (.int .i64 8), .lit (.int .i64 32), .lit (.int .i64 32), .lit (.int .i64 16)]

/-- 'gunwalelaw06.HeadTells': WHATEVER THE INPUT: true; the input reads as it did. -/
def headTellsSpec : ChangeSpec := { name := "headTells", fn := fun _ => fun
  | [d1, d2, d3] => { results := [.lit (.bool true)], args := [d1, d2, d3] }
  | _ => none }
def headTellsRow : OpenClaim := { program := "ytkgjmpcdndohpaadoor", sum := "30a628437b9bf210dd213f5a64e5aa89fab4708bc701f1e794acc74ad1d184b7", func := "gunwale/gunwalelaw06.HeadTells", spec := "headTells", named := ["gunwale/head.least"], apart := false, laid := [("gunwale/head.least", laid_gunwale_head_least)] }
def HeadTellsSaid : Prop := headTellsRow.holds Tryd.pinned (OpenSpec.ofChange headTellsSpec)

/-- ITS FALSE NEIGHBOUR: 'it returns false'. Refute it at one input. -/
def headTellsWrong : ChangeSpec := { name := "headTells", fn := fun _ => fun
  | [d1, d2, d3] => { results := [.lit (.bool false)], args := [d1, d2, d3] }
  | _ => none }
def HeadTellsWrongFalsely : Prop := headTellsRow.holds Tryd.pinned (OpenSpec.ofChange headTellsWrong)

/-- 'gunwalelaw06.HeadBack': WHATEVER THE INPUT: true; the input reads as it did. -/
def headBackSpec : ChangeSpec := { name := "headBack", fn := fun _ => fun
  | [d1, d2] => { results := [.lit (.bool true)], args := [d1, d2] }
  | _ => none }
def headBackRow : OpenClaim := { program := "ytkgjmpcdndohpaadoor", sum := "30a628437b9bf210dd213f5a64e5aa89fab4708bc701f1e794acc74ad1d184b7", func := "gunwale/gunwalelaw06.HeadBack", spec := "headBack", named := ["gunwale/head.least"], apart := false, laid := [("gunwale/head.least", laid_gunwale_head_least)] }
def HeadBackSaid : Prop := headBackRow.holds Tryd.pinned (OpenSpec.ofChange headBackSpec)

/-- ITS FALSE NEIGHBOUR: 'it returns false'. Refute it at one input. -/
def headBackWrong : ChangeSpec := { name := "headBack", fn := fun _ => fun
  | [d1, d2] => { results := [.lit (.bool false)], args := [d1, d2] }
  | _ => none }
def HeadBackWrongFalsely : Prop := headBackRow.holds Tryd.pinned (OpenSpec.ofChange headBackWrong)

/-- 'gunwalelaw06.HeadLeast': WHATEVER THE INPUT: true; the input reads as it did. -/
def headLeastSpec : ChangeSpec := { name := "headLeast", fn := fun _ => fun
  | [d1, d2] => { results := [.lit (.bool true)], args := [d1, d2] }
  | _ => none }
def headLeastRow : OpenClaim := { program := "ytkgjmpcdndohpaadoor", sum := "30a628437b9bf210dd213f5a64e5aa89fab4708bc701f1e794acc74ad1d184b7", func := "gunwale/gunwalelaw06.HeadLeast", spec := "headLeast", named := ["gunwale/head.least"], apart := false, laid := [("gunwale/head.least", laid_gunwale_head_least)] }
def HeadLeastSaid : Prop := headLeastRow.holds Tryd.pinned (OpenSpec.ofChange headLeastSpec)

/-- ITS FALSE NEIGHBOUR: 'it returns false'. Refute it at one input. -/
def headLeastWrong : ChangeSpec := { name := "headLeast", fn := fun _ => fun
  | [d1, d2] => { results := [.lit (.bool false)], args := [d1, d2] }
  | _ => none }
def HeadLeastWrongFalsely : Prop := headLeastRow.holds Tryd.pinned (OpenSpec.ofChange headLeastWrong)

/- THE SECOND FORM. 'bulk': how many values and letters a reading holds, each counted each time it is reached (what is shared counts as often as it is met; a slice's spare places count too). A statement '..UptoSaid' is the law's where the arguments, and the package variables that the reading takes, are together of bulk at most 1048576: NARROWER than '..Said'. Prove '..Said' where nothing that the law and all that it calls make is longer than what came in: it says more and counts as full. Else prove '..UptoSaid'. A law counts once. -/
mutual
def uptoBulk {H : Type} : DataW H → Nat
  | .lit (.string bytes) => bytes.length + 1
  | .lit _ => 1
  | .nil => 1
  | .ptr d => uptoBulk d + 1
  | .slice elems spare => uptoBulkAll elems + uptoBulkAll spare + 1
  | .agg parts => uptoBulkAll parts + 1
  | .iface _ d => uptoBulk d + 1
  | .map entries => uptoBulkEntries entries + 1
  | .held _ => 1
def uptoBulkAll {H : Type} : List (DataW H) → Nat
  | [] => 0
  | d :: r => uptoBulk d + uptoBulkAll r
def uptoBulkEntries {H : Type} : List (Lit × DataW H) → Nat
  | [] => 0
  | x :: r => uptoBulkEntry x + uptoBulkEntries r
def uptoBulkEntry {H : Type} : Lit × DataW H → Nat
  | (.string bytes, d) => bytes.length + uptoBulk d + 1
  | (_, d) => uptoBulk d + 1
 end
def uptoSmall : (H : Type) → List (DataW H) → Bool := fun _ ds => decide (uptoBulkAll ds ≤ 1048576)
def OpenSpec.upto (s : _root_.Go.ChangeSpec) : _root_.Go.OpenSpec := { _root_.Go.OpenSpec.ofChange s with cond := some uptoSmall }

/-- 'gunwalelaw06.HeadTells', WHERE WHAT IT READS IS OF BULK AT MOST 1048576: true; the input reads as it did. -/
def headTellsUptoRow : OpenClaim := { program := "ytkgjmpcdndohpaadoor", sum := "30a628437b9bf210dd213f5a64e5aa89fab4708bc701f1e794acc74ad1d184b7", func := "gunwale/gunwalelaw06.HeadTells", spec := "headTells", named := ["gunwale/head.least"], apart := false, laid := [("gunwale/head.least", laid_gunwale_head_least)], narrowed := true }
def HeadTellsUptoSaid : Prop := headTellsUptoRow.holds Tryd.pinned (OpenSpec.upto headTellsSpec)

/-- 'gunwalelaw06.HeadBack', WHERE WHAT IT READS IS OF BULK AT MOST 1048576: true; the input reads as it did. -/
def headBackUptoRow : OpenClaim := { program := "ytkgjmpcdndohpaadoor", sum := "30a628437b9bf210dd213f5a64e5aa89fab4708bc701f1e794acc74ad1d184b7", func := "gunwale/gunwalelaw06.HeadBack", spec := "headBack", named := ["gunwale/head.least"], apart := false, laid := [("gunwale/head.least", laid_gunwale_head_least)], narrowed := true }
def HeadBackUptoSaid : Prop := headBackUptoRow.holds Tryd.pinned (OpenSpec.upto headBackSpec)

/-- 'gunwalelaw06.HeadLeast', WHERE WHAT IT READS IS OF BULK AT MOST 1048576: true; the input reads as it did. -/
def headLeastUptoRow : OpenClaim := { program := "ytkgjmpcdndohpaadoor", sum := "30a628437b9bf210dd213f5a64e5aa89fab4708bc701f1e794acc74ad1d184b7", func := "gunwale/gunwalelaw06.HeadLeast", spec := "headLeast", named := ["gunwale/head.least"], apart := false, laid := [("gunwale/head.least", laid_gunwale_head_least)], narrowed := true }
def HeadLeastUptoSaid : Prop := headLeastUptoRow.holds Tryd.pinned (OpenSpec.upto headLeastSpec)

end Rows
end Go.Proofs.YtkgjmpcdndohpaaDoor
