/- A region that draws its order, whose operations read, and whose calls hand back one value each, in whatever world that has grown out of the first: walked once. -/
import Derived.Test.YtehgjenmcjgpnaaDoorApp
import Derived.Deep.QuietTactic
import Derived.BigQuiet
namespace Go.Proofs.YtehgjenmcjgpnaaDoor
open Go.RowKit

/-- A world that has grown out of w: of what was there nothing has turned. -/
structure Wk (w : World) where
  val : World
  bel : Below w.heap.size w val

instance wkThere (w : World) : Nonempty (Wk w) := ⟨⟨w, Below.refl _ _⟩⟩

theorem wp_region_wk {P : Program} {id : Nat} {Q : Exit → Act → World → Prop} {a : Act} {w : World} {l : List Oper} (hm : P.follows .mixedOrders = true) (hB : Region.lexB .any l.toArray = true)
    (h : wpQuiet P l.toArray (fun w' => ∃ n : Wk w, w' = n.val) (fun a' => ∀ w', (∃ n : Wk w, w' = n.val) → Q .normal a' w') l a) : (Code.region id l.toArray true).wp P Q a w :=
  wp_region_quiet (C := fun w' => ∃ n : Wk w, w' = n.val) hm hB ⟨⟨_, by_none_below (by_none_drewN w 1)⟩, rfl⟩ (by simpa using h)

theorem Wk.call {P : Program} {f : FuncId} {args : Array Value} {w : World} {n : Wk w} {v : Value}
    (h : Calls P f args n.val fun e w' => e = .returned v ∧ Below n.val.heap.size n.val w') : Calls P f args n.val fun e w'' => e = .returned v ∧ ∃ m : Wk w, w'' = m.val :=
  h.mono fun _ w' ⟨he, hb⟩ => ⟨he, ⟨w', n.bel.trans (hb.mono n.bel.size)⟩, rfl⟩
theorem Wk.same {P : Program} {f : FuncId} {args : Array Value} {w : World} {n : Wk w} {v : Value}
    (h : Calls P f args n.val fun e w' => e = .returned v ∧ n.val = w') : Calls P f args n.val fun e w'' => e = .returned v ∧ ∃ m : Wk w, w'' = m.val :=
  h.mono fun _ _ ⟨he, hb⟩ => ⟨he, n, hb.symm⟩
theorem Wk.cell {w : World} {p : Addr} {x : Value} (h : w.cell? p = some x) (n : Wk w) : n.val.cell? p = some x := cell_keep h n.bel
theorem Wk.ints {k : IntKind} {w : World} {a : Option Addr} {l : List Int} (h : Ints k w a l) (n : Wk w) : Ints k n.val a l := h.below n.bel
end Go.Proofs.YtehgjenmcjgpnaaDoor
