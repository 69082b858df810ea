/- Put together out of several texts. -/
import Derived.Test.YtdjlbejhphbcoaaGreatV5
import Derived.Test.YtdjlbejhphbcoaaGreatV7
import Derived.Test.YtdjlbejhphbcoaaGreatV2
namespace Go.Proofs.YtdjlbejhphbcoaaGreat
open Go.RowKit
set_option maxRecDepth 100000
set_option linter.unusedVariables false

/-- a cursor that was made since w0 -/
structure CurOn (w0 w : World) (g M : Nat) (l : List Int) (r s o f : Int) : Prop where
  cur : Cur w g M l r s o f
  bel : Below w0.heap.size w0 w
  bg : w0.heap.size ≤ g
  bM : w0.heap.size ≤ M
section
variable {w0 w w' : World} {g M : Nat} {l l' : List Int} {r r' s s' o o' f f' : Int}
theorem CurOn.by (h : CurOn w0 w g M l r s o f) (hb : w.grownBy w' (some g)) (hc : Cur w' g M l' r' s' o' f') : CurOn w0 w' g M l' r' s' o' f' :=
  ⟨hc, (Turn.of_by (S := fun k => k = g) hb (by rintro k e; simp at e; exact e.symm)).below h.bel h.bel.size (fun k e => by subst e; exact h.bg), h.bg, h.bM⟩
theorem CurOn.below (h : CurOn w0 w g M l r s o f) (hb : Below w.heap.size w w') : CurOn w0 w' g M l r s o f := ⟨h.cur.below hb, below_on h.bel hb, h.bg, h.bM⟩
end
end Go.Proofs.YtdjlbejhphbcoaaGreat
