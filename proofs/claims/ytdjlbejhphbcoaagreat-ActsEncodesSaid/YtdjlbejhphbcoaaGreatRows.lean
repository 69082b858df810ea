/-
  No cell of these rows narrows 'for every input' (looked for: loops, veiled, ifaces, maps, wideKeys, modest, calm, conditions, laid).
  DERIVED. THE GIVEN ROWS OF THIS SEAT. 6 by the template 'for every input the law returns true; each argument reads behind the call as it read before'; 0 by the template 'total and deterministic' (their statements: YtdjlbejhphbcoaaGreatTotals.lean).
  GIVEN WITH THE SEED: the statements are not yours to turn. If you find one false, say at which input.
  Laid BY PROGRAM, IN A SANDBOX (cutbox-rows.mjs): the forced cells as the released guide's own fill.sh prints them over the translation 3853ea3b903f2794… (all of the seat's roots in one cut). By AI agents, Wed Nov 11 2026. No macro, syntax, notation, axiom, sorry.
-/
import Derived.Test.YtdjlbejhphbcoaaGreatChecked
import GoSem.Claim
import GoSem.ClaimJoined
import GoSem.ClaimMapViews
import Derived.JoinedTies
import Derived.KernelRfl
namespace Go.Proofs.YtdjlbejhphbcoaaGreat
/- THE CELL 'sum', in the pinned program and in every row, IS THE sha256 OF THE DUMP (.gsa) THAT YtdjlbejhphbcoaaGreatProg.lean LOADS. Nothing in Lean hashes anything: it is a label: what it is worth is what the hold of that sum in a sandbox is worth. -/
noncomputable def Tryz.pinned : Pinned := { name := "ytdjlbejhphbcoaagreat", sum := "3853ea3b903f279489cb12be67425940f6f9667164852b21376f81fe5de21daf", checked := Tryz.checked }
namespace Rows
def none {H : Type} : Left H := { results := [], args := [] }

/-- 'gunwalelaw12.ActionEncodes': WHATEVER THE INPUT: true; the input reads as it did. -/
def actionEncodesSpec : ChangeSpec := { name := "actionEncodes", fn := fun _ => fun
  | [d] => { results := [.lit (.bool true)], args := [d] }
  | _ => none }
def actionEncodesRow : OpenClaim := { program := "ytdjlbejhphbcoaagreat", sum := "3853ea3b903f279489cb12be67425940f6f9667164852b21376f81fe5de21daf", func := "gunwale/gunwalelaw12.ActionEncodes", spec := "actionEncodes", unfollowed := true, recurses := true, apart := false }
def ActionEncodesSaid : Prop := actionEncodesRow.holds Tryz.pinned (OpenSpec.ofChange actionEncodesSpec)

/-- ITS FALSE NEIGHBOUR: 'it returns false'. Refute it at one input. -/
def actionEncodesWrong : ChangeSpec := { name := "actionEncodes", fn := fun _ => fun
  | [d] => { results := [.lit (.bool false)], args := [d] }
  | _ => none }
def ActionEncodesWrongFalsely : Prop := actionEncodesRow.holds Tryz.pinned (OpenSpec.ofChange actionEncodesWrong)

/-- 'gunwalelaw12.ActionDecodes': WHATEVER THE INPUT: true; the input reads as it did. -/
def actionDecodesSpec : ChangeSpec := { name := "actionDecodes", fn := fun _ => fun
  | [d] => { results := [.lit (.bool true)], args := [d] }
  | _ => none }
def actionDecodesRow : OpenClaim := { program := "ytdjlbejhphbcoaagreat", sum := "3853ea3b903f279489cb12be67425940f6f9667164852b21376f81fe5de21daf", func := "gunwale/gunwalelaw12.ActionDecodes", spec := "actionDecodes", unfollowed := true, recurses := true, apart := false }
def ActionDecodesSaid : Prop := actionDecodesRow.holds Tryz.pinned (OpenSpec.ofChange actionDecodesSpec)

/-- ITS FALSE NEIGHBOUR: 'it returns false'. Refute it at one input. -/
def actionDecodesWrong : ChangeSpec := { name := "actionDecodes", fn := fun _ => fun
  | [d] => { results := [.lit (.bool false)], args := [d] }
  | _ => none }
def ActionDecodesWrongFalsely : Prop := actionDecodesRow.holds Tryz.pinned (OpenSpec.ofChange actionDecodesWrong)

/-- 'gunwalelaw13.ActsEncodes': WHATEVER THE INPUT: true; the input reads as it did. -/
def actsEncodesSpec : ChangeSpec := { name := "actsEncodes", fn := fun _ => fun
  | [d1, d2] => { results := [.lit (.bool true)], args := [d1, d2] }
  | _ => none }
def actsEncodesRow : OpenClaim := { program := "ytdjlbejhphbcoaagreat", sum := "3853ea3b903f279489cb12be67425940f6f9667164852b21376f81fe5de21daf", func := "gunwale/gunwalelaw13.ActsEncodes", spec := "actsEncodes", unfollowed := true, recurses := true, apart := false }
def ActsEncodesSaid : Prop := actsEncodesRow.holds Tryz.pinned (OpenSpec.ofChange actsEncodesSpec)

/-- ITS FALSE NEIGHBOUR: 'it returns false'. Refute it at one input. -/
def actsEncodesWrong : ChangeSpec := { name := "actsEncodes", fn := fun _ => fun
  | [d1, d2] => { results := [.lit (.bool false)], args := [d1, d2] }
  | _ => none }
def ActsEncodesWrongFalsely : Prop := actsEncodesRow.holds Tryz.pinned (OpenSpec.ofChange actsEncodesWrong)

/-- 'gunwalelaw13.ActsDecodes': WHATEVER THE INPUT: true; the input reads as it did. -/
def actsDecodesSpec : ChangeSpec := { name := "actsDecodes", fn := fun _ => fun
  | [d1, d2, d3] => { results := [.lit (.bool true)], args := [d1, d2, d3] }
  | _ => none }
def actsDecodesRow : OpenClaim := { program := "ytdjlbejhphbcoaagreat", sum := "3853ea3b903f279489cb12be67425940f6f9667164852b21376f81fe5de21daf", func := "gunwale/gunwalelaw13.ActsDecodes", spec := "actsDecodes", unfollowed := true, recurses := true, apart := false }
def ActsDecodesSaid : Prop := actsDecodesRow.holds Tryz.pinned (OpenSpec.ofChange actsDecodesSpec)

/-- ITS FALSE NEIGHBOUR: 'it returns false'. Refute it at one input. -/
def actsDecodesWrong : ChangeSpec := { name := "actsDecodes", fn := fun _ => fun
  | [d1, d2, d3] => { results := [.lit (.bool false)], args := [d1, d2, d3] }
  | _ => none }
def ActsDecodesWrongFalsely : Prop := actsDecodesRow.holds Tryz.pinned (OpenSpec.ofChange actsDecodesWrong)

/-- 'gunwalelaw13.ActsBack': WHATEVER THE INPUT: true; the input reads as it did. -/
def actsBackSpec : ChangeSpec := { name := "actsBack", fn := fun _ => fun
  | [d1, d2, d3] => { results := [.lit (.bool true)], args := [d1, d2, d3] }
  | _ => none }
def actsBackRow : OpenClaim := { program := "ytdjlbejhphbcoaagreat", sum := "3853ea3b903f279489cb12be67425940f6f9667164852b21376f81fe5de21daf", func := "gunwale/gunwalelaw13.ActsBack", spec := "actsBack", unfollowed := true, recurses := true, apart := false }
def ActsBackSaid : Prop := actsBackRow.holds Tryz.pinned (OpenSpec.ofChange actsBackSpec)

/-- ITS FALSE NEIGHBOUR: 'it returns false'. Refute it at one input. -/
def actsBackWrong : ChangeSpec := { name := "actsBack", fn := fun _ => fun
  | [d1, d2, d3] => { results := [.lit (.bool false)], args := [d1, d2, d3] }
  | _ => none }
def ActsBackWrongFalsely : Prop := actsBackRow.holds Tryz.pinned (OpenSpec.ofChange actsBackWrong)

/-- 'gunwalelaw13.ActsPorts': WHATEVER THE INPUT: true; the input reads as it did. -/
def actsPortsSpec : ChangeSpec := { name := "actsPorts", fn := fun _ => fun
  | [d] => { results := [.lit (.bool true)], args := [d] }
  | _ => none }
def actsPortsRow : OpenClaim := { program := "ytdjlbejhphbcoaagreat", sum := "3853ea3b903f279489cb12be67425940f6f9667164852b21376f81fe5de21daf", func := "gunwale/gunwalelaw13.ActsPorts", spec := "actsPorts", unfollowed := true, recurses := true, apart := false }
def ActsPortsSaid : Prop := actsPortsRow.holds Tryz.pinned (OpenSpec.ofChange actsPortsSpec)

/-- ITS FALSE NEIGHBOUR: 'it returns false'. Refute it at one input. -/
def actsPortsWrong : ChangeSpec := { name := "actsPorts", fn := fun _ => fun
  | [d] => { results := [.lit (.bool false)], args := [d] }
  | _ => none }
def ActsPortsWrongFalsely : Prop := actsPortsRow.holds Tryz.pinned (OpenSpec.ofChange actsPortsWrong)

/- THE SECOND FORM. 'bulk': how many values and letters a reading holds, each counted each time it is reached (what is shared counts as often as it is met; a slice's spare places count too). A statement '..UptoSaid' is the law's where the arguments, and the package variables that the reading takes, are together of bulk at most 1048576: NARROWER than '..Said'. Prove '..Said' where nothing that the law and all that it calls make is longer than what came in: it says more and counts as full. Else prove '..UptoSaid'. A law counts once. -/
mutual
def uptoBulk {H : Type} : DataW H → Nat
  | .lit (.string bytes) => bytes.length + 1
  | .lit _ => 1
  | .nil => 1
  | .ptr d => uptoBulk d + 1
  | .slice elems spare => uptoBulkAll elems + uptoBulkAll spare + 1
  | .agg parts => uptoBulkAll parts + 1
  | .iface _ d => uptoBulk d + 1
  | .map entries => uptoBulkEntries entries + 1
  | .held _ => 1
def uptoBulkAll {H : Type} : List (DataW H) → Nat
  | [] => 0
  | d :: r => uptoBulk d + uptoBulkAll r
def uptoBulkEntries {H : Type} : List (Lit × DataW H) → Nat
  | [] => 0
  | x :: r => uptoBulkEntry x + uptoBulkEntries r
def uptoBulkEntry {H : Type} : Lit × DataW H → Nat
  | (.string bytes, d) => bytes.length + uptoBulk d + 1
  | (_, d) => uptoBulk d + 1
 end
def uptoSmall : (H : Type) → List (DataW H) → Bool := fun _ ds => decide (uptoBulkAll ds ≤ 1048576)
def OpenSpec.upto (s : _root_.Go.ChangeSpec) : _root_.Go.OpenSpec := { _root_.Go.OpenSpec.ofChange s with cond := some uptoSmall }

/-- 'gunwalelaw12.ActionEncodes', WHERE WHAT IT READS IS OF BULK AT MOST 1048576: true; the input reads as it did. -/
def actionEncodesUptoRow : OpenClaim := { program := "ytdjlbejhphbcoaagreat", sum := "3853ea3b903f279489cb12be67425940f6f9667164852b21376f81fe5de21daf", func := "gunwale/gunwalelaw12.ActionEncodes", spec := "actionEncodes", unfollowed := true, recurses := true, apart := false, narrowed := true }
def ActionEncodesUptoSaid : Prop := actionEncodesUptoRow.holds Tryz.pinned (OpenSpec.upto actionEncodesSpec)

/-- 'gunwalelaw12.ActionDecodes', WHERE WHAT IT READS IS OF BULK AT MOST 1048576: true; the input reads as it did. -/
def actionDecodesUptoRow : OpenClaim := { program := "ytdjlbejhphbcoaagreat", sum := "3853ea3b903f279489cb12be67425940f6f9667164852b21376f81fe5de21daf", func := "gunwale/gunwalelaw12.ActionDecodes", spec := "actionDecodes", unfollowed := true, recurses := true, apart := false, narrowed := true }
def ActionDecodesUptoSaid : Prop := actionDecodesUptoRow.holds Tryz.pinned (OpenSpec.upto actionDecodesSpec)

/-- 'gunwalelaw13.ActsEncodes', WHERE WHAT IT READS IS OF BULK AT MOST 1048576: true; the input reads as it did. -/
def actsEncodesUptoRow : OpenClaim := { program := "ytdjlbejhphbcoaagreat", sum := "3853ea3b903f279489cb12be67425940f6f9667164852b21376f81fe5de21daf", func := "gunwale/gunwalelaw13.ActsEncodes", spec := "actsEncodes", unfollowed := true, recurses := true, apart := false, narrowed := true }
def ActsEncodesUptoSaid : Prop := actsEncodesUptoRow.holds Tryz.pinned (OpenSpec.upto actsEncodesSpec)

/-- 'gunwalelaw13.ActsDecodes', WHERE WHAT IT READS IS OF BULK AT MOST 1048576: true; the input reads as it did. -/
def actsDecodesUptoRow : OpenClaim := { program := "ytdjlbejhphbcoaagreat", sum := "3853ea3b903f279489cb12be67425940f6f9667164852b21376f81fe5de21daf", func := "gunwale/gunwalelaw13.ActsDecodes", spec := "actsDecodes", unfollowed := true, recurses := true, apart := false, narrowed := true }
def ActsDecodesUptoSaid : Prop := actsDecodesUptoRow.holds Tryz.pinned (OpenSpec.upto actsDecodesSpec)

/-- 'gunwalelaw13.ActsBack', WHERE WHAT IT READS IS OF BULK AT MOST 1048576: true; the input reads as it did. -/
def actsBackUptoRow : OpenClaim := { program := "ytdjlbejhphbcoaagreat", sum := "3853ea3b903f279489cb12be67425940f6f9667164852b21376f81fe5de21daf", func := "gunwale/gunwalelaw13.ActsBack", spec := "actsBack", unfollowed := true, recurses := true, apart := false, narrowed := true }
def ActsBackUptoSaid : Prop := actsBackUptoRow.holds Tryz.pinned (OpenSpec.upto actsBackSpec)

/-- 'gunwalelaw13.ActsPorts', WHERE WHAT IT READS IS OF BULK AT MOST 1048576: true; the input reads as it did. -/
def actsPortsUptoRow : OpenClaim := { program := "ytdjlbejhphbcoaagreat", sum := "3853ea3b903f279489cb12be67425940f6f9667164852b21376f81fe5de21daf", func := "gunwale/gunwalelaw13.ActsPorts", spec := "actsPorts", unfollowed := true, recurses := true, apart := false, narrowed := true }
def ActsPortsUptoSaid : Prop := actsPortsUptoRow.holds Tryz.pinned (OpenSpec.upto actsPortsSpec)

end Rows
end Go.Proofs.YtdjlbejhphbcoaaGreat
