/- Contracts of package cursor: what a cursor is; Err, Left, At, reads, Fail. -/
import Derived.Test.YtbpdhhepngepdaaApp
import Derived.Test.YtbpdhhepngepdaaNum
import Derived.Deep.QuietTactic
import Derived.BigQuiet
import Derived.OneCell
import Derived.Outline
namespace Go.Proofs.Ytbpdhhepngepdaa
open Go.RowKit

/-- the cells of a cursor -/
def curCells (a : Option Addr) (m c : Nat) (r s o f : Int) : Array Value := #[.bool true, .slice a m c, .int .i64 r, .int .i64 s, .int .i64 o, .int .i64 f]

theorem cell_of_cells {w : World} {b : Nat} {cs : Array Value} {t : TypeId} (h : w.heap[b]? = some (.cells cs t (0, 0))) {i : Nat} {v : Value} (hi : cs[i]? = some v) : w.cell? ⟨b, i, none⟩ = some v := by simp [World.cell?, h, hi]
theorem free_of_cells {w : World} {b : Nat} {cs : Array Value} {t : TypeId} (h : w.heap[b]? = some (.cells cs t (0, 0))) (i : Nat) : w.frozen? ⟨b, i, none⟩ = false := by simp [World.frozen?, h]
theorem set_of_cells {w : World} {b : Nat} {cs : Array Value} {t : TypeId} (h : w.heap[b]? = some (.cells cs t (0, 0))) (i : Nat) (u : Value) : (w.setCell ⟨b, i, none⟩ u).heap[b]? = some (.cells (cs.setIfInBounds i u) t (0, 0)) := by
  have hlt := lt_of_block h
  have h' : w.heap[b] = .cells cs t (0, 0) := by simpa [Array.getElem?_eq_getElem hlt] using h
  show (w.heap.modify b _)[b]? = _
  rw [Array.getElem?_eq_getElem (by simpa using hlt), Array.getElem_modify_self, h']
  simp
theorem by_setCell (w : World) (b i : Nat) (u : Value) : w.grownBy (w.setCell ⟨b, i, none⟩ u) (some b) := by
  refine ⟨by unfold World.setCell; split <;> rfl, by unfold World.setCell; split <;> rfl, by unfold World.setCell; split <;> rfl, ?_, ?_⟩
  · unfold World.setCell; split <;> simp
  · intro k hk hne
    exact Below.heap_setCell _ _ _ _ (fun e => hne (by simp [e]))

section
variable {w : World} {g : Nat} {a : Option Addr} {m c : Nat} {r s o f : Int}
end
end Go.Proofs.Ytbpdhhepngepdaa
