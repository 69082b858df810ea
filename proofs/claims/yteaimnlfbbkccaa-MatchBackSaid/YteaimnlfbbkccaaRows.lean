/-
  No cell of these rows narrows 'for every input' (looked for: loops, veiled, ifaces, maps, wideKeys, modest, calm, conditions, laid).
  DERIVED. THE GIVEN ROWS OF THIS SEAT. 5 by the template 'for every input the law returns true; each argument reads behind the call as it read before'; 0 by the template 'total and deterministic' (their statements: YteaimnlfbbkccaaTotals.lean).
  GIVEN WITH THE SEED: the statements are not yours to turn. If you find one false, say at which input.
  Laid BY PROGRAM, IN A SANDBOX (cutbox-rows.mjs): the forced cells as the released guide's own fill.sh prints them over the translation 65a042a893843795… (all of the seat's roots in one cut). By AI agents, Wed Nov 11 2026. No macro, syntax, notation, axiom, sorry.
-/
import Derived.Test.YteaimnlfbbkccaaChecked
import GoSem.Claim
import GoSem.ClaimJoined
import GoSem.ClaimMapViews
import Derived.JoinedTies
import Derived.KernelRfl
namespace Go.Proofs.Yteaimnlfbbkccaa
/- THE CELL 'sum', in the pinned program and in every row, IS THE sha256 OF THE DUMP (.gsa) THAT YteaimnlfbbkccaaProg.lean LOADS. Nothing in Lean hashes anything: it is a label: what it is worth is what the hold of that sum in a sandbox is worth. -/
noncomputable def Try.pinned : Pinned := { name := "yteaimnlfbbkccaa", sum := "65a042a8938437950c85a75c17f1aef3e29156c6d170c9c4e77acdf40d1f74bc", checked := Try.checked }
namespace Rows
def none {H : Type} : Left H := { results := [], args := [] }

/-- 'gunwalelaw10.MatchEncodes': WHATEVER THE INPUT: true; the input reads as it did. -/
def matchEncodesSpec : ChangeSpec := { name := "matchEncodes", fn := fun _ => fun
  | [d1, d2] => { results := [.lit (.bool true)], args := [d1, d2] }
  | _ => none }
def matchEncodesRow : OpenClaim := { program := "yteaimnlfbbkccaa", sum := "65a042a8938437950c85a75c17f1aef3e29156c6d170c9c4e77acdf40d1f74bc", func := "gunwale/gunwalelaw10.MatchEncodes", spec := "matchEncodes", unfollowed := true, recurses := true, plainKeys := false, apart := false }
def MatchEncodesSaid : Prop := matchEncodesRow.holds Try.pinned (OpenSpec.ofChange matchEncodesSpec)

/-- ITS FALSE NEIGHBOUR: 'it returns false'. Refute it at one input. -/
def matchEncodesWrong : ChangeSpec := { name := "matchEncodes", fn := fun _ => fun
  | [d1, d2] => { results := [.lit (.bool false)], args := [d1, d2] }
  | _ => none }
def MatchEncodesWrongFalsely : Prop := matchEncodesRow.holds Try.pinned (OpenSpec.ofChange matchEncodesWrong)

/-- 'gunwalelaw10.MatchDecodes': WHATEVER THE INPUT: true; the input reads as it did. -/
def matchDecodesSpec : ChangeSpec := { name := "matchDecodes", fn := fun _ => fun
  | [d1, d2] => { results := [.lit (.bool true)], args := [d1, d2] }
  | _ => none }
def matchDecodesRow : OpenClaim := { program := "yteaimnlfbbkccaa", sum := "65a042a8938437950c85a75c17f1aef3e29156c6d170c9c4e77acdf40d1f74bc", func := "gunwale/gunwalelaw10.MatchDecodes", spec := "matchDecodes", unfollowed := true, recurses := true, plainKeys := false, apart := false }
def MatchDecodesSaid : Prop := matchDecodesRow.holds Try.pinned (OpenSpec.ofChange matchDecodesSpec)

/-- ITS FALSE NEIGHBOUR: 'it returns false'. Refute it at one input. -/
def matchDecodesWrong : ChangeSpec := { name := "matchDecodes", fn := fun _ => fun
  | [d1, d2] => { results := [.lit (.bool false)], args := [d1, d2] }
  | _ => none }
def MatchDecodesWrongFalsely : Prop := matchDecodesRow.holds Try.pinned (OpenSpec.ofChange matchDecodesWrong)

/-- 'gunwalelaw10.MatchCopies': WHATEVER THE INPUT: true; the input reads as it did. -/
def matchCopiesSpec : ChangeSpec := { name := "matchCopies", fn := fun _ => fun
  | [d1, d2, d3] => { results := [.lit (.bool true)], args := [d1, d2, d3] }
  | _ => none }
def matchCopiesRow : OpenClaim := { program := "yteaimnlfbbkccaa", sum := "65a042a8938437950c85a75c17f1aef3e29156c6d170c9c4e77acdf40d1f74bc", func := "gunwale/gunwalelaw10.MatchCopies", spec := "matchCopies", unfollowed := true, recurses := true, plainKeys := false, apart := false }
def MatchCopiesSaid : Prop := matchCopiesRow.holds Try.pinned (OpenSpec.ofChange matchCopiesSpec)

/-- ITS FALSE NEIGHBOUR: 'it returns false'. Refute it at one input. -/
def matchCopiesWrong : ChangeSpec := { name := "matchCopies", fn := fun _ => fun
  | [d1, d2, d3] => { results := [.lit (.bool false)], args := [d1, d2, d3] }
  | _ => none }
def MatchCopiesWrongFalsely : Prop := matchCopiesRow.holds Try.pinned (OpenSpec.ofChange matchCopiesWrong)

/-- 'gunwalelaw10.MatchBack': WHATEVER THE INPUT: true; the input reads as it did. -/
def matchBackSpec : ChangeSpec := { name := "matchBack", fn := fun _ => fun
  | [d1, d2] => { results := [.lit (.bool true)], args := [d1, d2] }
  | _ => none }
def matchBackRow : OpenClaim := { program := "yteaimnlfbbkccaa", sum := "65a042a8938437950c85a75c17f1aef3e29156c6d170c9c4e77acdf40d1f74bc", func := "gunwale/gunwalelaw10.MatchBack", spec := "matchBack", unfollowed := true, recurses := true, plainKeys := false, apart := false }
def MatchBackSaid : Prop := matchBackRow.holds Try.pinned (OpenSpec.ofChange matchBackSpec)

/-- ITS FALSE NEIGHBOUR: 'it returns false'. Refute it at one input. -/
def matchBackWrong : ChangeSpec := { name := "matchBack", fn := fun _ => fun
  | [d1, d2] => { results := [.lit (.bool false)], args := [d1, d2] }
  | _ => none }
def MatchBackWrongFalsely : Prop := matchBackRow.holds Try.pinned (OpenSpec.ofChange matchBackWrong)

/-- 'gunwalelaw10.MatchFront': WHATEVER THE INPUT: true; the input reads as it did. -/
def matchFrontSpec : ChangeSpec := { name := "matchFront", fn := fun _ => fun
  | [d1, d2] => { results := [.lit (.bool true)], args := [d1, d2] }
  | _ => none }
def matchFrontRow : OpenClaim := { program := "yteaimnlfbbkccaa", sum := "65a042a8938437950c85a75c17f1aef3e29156c6d170c9c4e77acdf40d1f74bc", func := "gunwale/gunwalelaw10.MatchFront", spec := "matchFront", unfollowed := true, recurses := true, plainKeys := false, apart := false }
def MatchFrontSaid : Prop := matchFrontRow.holds Try.pinned (OpenSpec.ofChange matchFrontSpec)

/-- ITS FALSE NEIGHBOUR: 'it returns false'. Refute it at one input. -/
def matchFrontWrong : ChangeSpec := { name := "matchFront", fn := fun _ => fun
  | [d1, d2] => { results := [.lit (.bool false)], args := [d1, d2] }
  | _ => none }
def MatchFrontWrongFalsely : Prop := matchFrontRow.holds Try.pinned (OpenSpec.ofChange matchFrontWrong)

/- THE SECOND FORM. 'bulk': how many values and letters a reading holds, each counted each time it is reached (what is shared counts as often as it is met; a slice's spare places count too). A statement '..UptoSaid' is the law's where the arguments, and the package variables that the reading takes, are together of bulk at most 1048576: NARROWER than '..Said'. Prove '..Said' where nothing that the law and all that it calls make is longer than what came in: it says more and counts as full. Else prove '..UptoSaid'. A law counts once. -/
mutual
def uptoBulk {H : Type} : DataW H → Nat
  | .lit (.string bytes) => bytes.length + 1
  | .lit _ => 1
  | .nil => 1
  | .ptr d => uptoBulk d + 1
  | .slice elems spare => uptoBulkAll elems + uptoBulkAll spare + 1
  | .agg parts => uptoBulkAll parts + 1
  | .iface _ d => uptoBulk d + 1
  | .map entries => uptoBulkEntries entries + 1
  | .held _ => 1
def uptoBulkAll {H : Type} : List (DataW H) → Nat
  | [] => 0
  | d :: r => uptoBulk d + uptoBulkAll r
def uptoBulkEntries {H : Type} : List (Lit × DataW H) → Nat
  | [] => 0
  | x :: r => uptoBulkEntry x + uptoBulkEntries r
def uptoBulkEntry {H : Type} : Lit × DataW H → Nat
  | (.string bytes, d) => bytes.length + uptoBulk d + 1
  | (_, d) => uptoBulk d + 1
 end
def uptoSmall : (H : Type) → List (DataW H) → Bool := fun _ ds => decide (uptoBulkAll ds ≤ 1048576)
def OpenSpec.upto (s : _root_.Go.ChangeSpec) : _root_.Go.OpenSpec := { _root_.Go.OpenSpec.ofChange s with cond := some uptoSmall }

/-- 'gunwalelaw10.MatchEncodes', WHERE WHAT IT READS IS OF BULK AT MOST 1048576: true; the input reads as it did. -/
def matchEncodesUptoRow : OpenClaim := { program := "yteaimnlfbbkccaa", sum := "65a042a8938437950c85a75c17f1aef3e29156c6d170c9c4e77acdf40d1f74bc", func := "gunwale/gunwalelaw10.MatchEncodes", spec := "matchEncodes", unfollowed := true, recurses := true, plainKeys := false, apart := false, narrowed := true }
def MatchEncodesUptoSaid : Prop := matchEncodesUptoRow.holds Try.pinned (OpenSpec.upto matchEncodesSpec)

/-- 'gunwalelaw10.MatchDecodes', WHERE WHAT IT READS IS OF BULK AT MOST 1048576: true; the input reads as it did. -/
def matchDecodesUptoRow : OpenClaim := { program := "yteaimnlfbbkccaa", sum := "65a042a8938437950c85a75c17f1aef3e29156c6d170c9c4e77acdf40d1f74bc", func := "gunwale/gunwalelaw10.MatchDecodes", spec := "matchDecodes", unfollowed := true, recurses := true, plainKeys := false, apart := false, narrowed := true }
def MatchDecodesUptoSaid : Prop := matchDecodesUptoRow.holds Try.pinned (OpenSpec.upto matchDecodesSpec)

/-- 'gunwalelaw10.MatchCopies', WHERE WHAT IT READS IS OF BULK AT MOST 1048576: true; the input reads as it did. -/
def matchCopiesUptoRow : OpenClaim := { program := "yteaimnlfbbkccaa", sum := "65a042a8938437950c85a75c17f1aef3e29156c6d170c9c4e77acdf40d1f74bc", func := "gunwale/gunwalelaw10.MatchCopies", spec := "matchCopies", unfollowed := true, recurses := true, plainKeys := false, apart := false, narrowed := true }
def MatchCopiesUptoSaid : Prop := matchCopiesUptoRow.holds Try.pinned (OpenSpec.upto matchCopiesSpec)

/-- 'gunwalelaw10.MatchBack', WHERE WHAT IT READS IS OF BULK AT MOST 1048576: true; the input reads as it did. -/
def matchBackUptoRow : OpenClaim := { program := "yteaimnlfbbkccaa", sum := "65a042a8938437950c85a75c17f1aef3e29156c6d170c9c4e77acdf40d1f74bc", func := "gunwale/gunwalelaw10.MatchBack", spec := "matchBack", unfollowed := true, recurses := true, plainKeys := false, apart := false, narrowed := true }
def MatchBackUptoSaid : Prop := matchBackUptoRow.holds Try.pinned (OpenSpec.upto matchBackSpec)

/-- 'gunwalelaw10.MatchFront', WHERE WHAT IT READS IS OF BULK AT MOST 1048576: true; the input reads as it did. -/
def matchFrontUptoRow : OpenClaim := { program := "yteaimnlfbbkccaa", sum := "65a042a8938437950c85a75c17f1aef3e29156c6d170c9c4e77acdf40d1f74bc", func := "gunwale/gunwalelaw10.MatchFront", spec := "matchFront", unfollowed := true, recurses := true, plainKeys := false, apart := false, narrowed := true }
def MatchFrontUptoSaid : Prop := matchFrontUptoRow.holds Try.pinned (OpenSpec.upto matchFrontSpec)

end Rows
end Go.Proofs.Yteaimnlfbbkccaa
