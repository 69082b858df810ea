/- Contracts of package cursor: what a cursor is; Err, Left, At, reads, Fail. -/
import Derived.Test.YtkgjmpcdndohpaaDoorApp
import Derived.Test.YtkgjmpcdndohpaaDoorNum
import Derived.Deep.QuietTactic
import Derived.BigQuiet
import Derived.OneCell
import Derived.Outline
namespace Go.Proofs.YtkgjmpcdndohpaaDoor
open Go.RowKit

/-- the cells of a cursor -/
def curCells (a : Option Addr) (m c : Nat) (r s o f : Int) : Array Value := #[.bool true, .slice a m c, .int .i64 r, .int .i64 s, .int .i64 o, .int .i64 f]

/-- Block g is a cursor that a call made. -/
structure CurAt (w : World) (g : Nat) (a : Option Addr) (m c : Nat) (r s o f : Int) : Prop where
  heap : w.heap[g]? = some (.cells (curCells a m c r s o f) 75 (0, 0))

theorem cell_of_cells {w : World} {b : Nat} {cs : Array Value} {t : TypeId} (h : w.heap[b]? = some (.cells cs t (0, 0))) {i : Nat} {v : Value} (hi : cs[i]? = some v) : w.cell? ⟨b, i, none⟩ = some v := by simp [World.cell?, h, hi]
theorem free_of_cells {w : World} {b : Nat} {cs : Array Value} {t : TypeId} (h : w.heap[b]? = some (.cells cs t (0, 0))) (i : Nat) : w.frozen? ⟨b, i, none⟩ = false := by simp [World.frozen?, h]
theorem set_of_cells {w : World} {b : Nat} {cs : Array Value} {t : TypeId} (h : w.heap[b]? = some (.cells cs t (0, 0))) (i : Nat) (u : Value) : (w.setCell ⟨b, i, none⟩ u).heap[b]? = some (.cells (cs.setIfInBounds i u) t (0, 0)) := by
  have hlt := lt_of_block h
  have h' : w.heap[b] = .cells cs t (0, 0) := by simpa [Array.getElem?_eq_getElem hlt] using h
  show (w.heap.modify b _)[b]? = _
  rw [Array.getElem?_eq_getElem (by simpa using hlt), Array.getElem_modify_self, h']
  simp
theorem by_setCell (w : World) (b i : Nat) (u : Value) : w.grownBy (w.setCell ⟨b, i, none⟩ u) (some b) := by
  refine ⟨by unfold World.setCell; split <;> rfl, by unfold World.setCell; split <;> rfl, by unfold World.setCell; split <;> rfl, ?_, ?_⟩
  · unfold World.setCell; split <;> simp
  · intro k hk hne
    exact Below.heap_setCell _ _ _ _ (fun e => hne (by simp [e]))

section
variable {w : World} {g : Nat} {a : Option Addr} {m c : Nat} {r s o f : Int}
theorem CurAt.c0 (h : CurAt w g a m c r s o f) : w.cell? ⟨g, 0, none⟩ = some (.bool true) := cell_of_cells h.heap rfl
theorem CurAt.c1 (h : CurAt w g a m c r s o f) : w.cell? ⟨g, 1, none⟩ = some (.slice a m c) := cell_of_cells h.heap rfl
theorem CurAt.c2 (h : CurAt w g a m c r s o f) : w.cell? ⟨g, 2, none⟩ = some (.int .i64 r) := cell_of_cells h.heap rfl
theorem CurAt.c3 (h : CurAt w g a m c r s o f) : w.cell? ⟨g, 3, none⟩ = some (.int .i64 s) := cell_of_cells h.heap rfl
theorem CurAt.c4 (h : CurAt w g a m c r s o f) : w.cell? ⟨g, 4, none⟩ = some (.int .i64 o) := cell_of_cells h.heap rfl
theorem CurAt.c5 (h : CurAt w g a m c r s o f) : w.cell? ⟨g, 5, none⟩ = some (.int .i64 f) := cell_of_cells h.heap rfl
end
theorem ptrCur : Tryd.prog.underlying 56 = some (.pointer (Tryd.prog.pointee 56)) := by kernel_rfl
theorem err_at {w : World} {g : Nat} {a : Option Addr} {m c : Nat} {r s o f : Int} (h : CurAt w g a m c r s o f) :
    Calls Tryd.prog 25 #[.pointer (some ⟨g, 0, none⟩)] w fun e w' => e = .returned (.int .i64 f) ∧ w = w' := by
  have c0 := h.c0
  have c5 := h.c5
  have he := fun (w : World) (p : Option Addr) => run_eql_pointer_nil w 56 p ptrCur
  go_enter Tryd.func25, Tryd.ntmps25
  go_wp2
  go_ret
  exact ⟨rfl, rfl⟩
theorem err_nil (w : World) :
    Calls Tryd.prog 25 #[.pointer none] w fun e w' => e = .returned (.int .i64 10001) ∧ w = w' := by
  have he := fun (w : World) (p : Option Addr) => run_eql_pointer_nil w 56 p ptrCur
  go_enter Tryd.func25, Tryd.ntmps25
  go_wp2
  go_ret
  exact ⟨rfl, rfl⟩
theorem reads_at {w : World} {g : Nat} {a : Option Addr} {m c : Nat} {r s o f : Int} (h : CurAt w g a m c r s o f) :
    Calls Tryd.prog 38 #[.pointer (some ⟨g, 0, none⟩)] w fun e w' => e = .returned (.bool (f == 0)) ∧ w = w' := by
  go_enter Tryd.func38, Tryd.ntmps38
  go_wp2_with (go_at_call 25; refine (err_at h).mono ?_; rintro e w' ⟨rfl, rfl⟩)
  go_ret
  exact ⟨rfl, rfl⟩
theorem reads_nil (w : World) :
    Calls Tryd.prog 38 #[.pointer none] w fun e w' => e = .returned (.bool false) ∧ w = w' := by
  go_enter Tryd.func38, Tryd.ntmps38
  go_wp2_with (go_at_call 25; refine (err_nil w).mono ?_; rintro e w' ⟨rfl, rfl⟩)
  go_ret
  exact ⟨rfl, rfl⟩
theorem fail_at {w : World} {g : Nat} {a : Option Addr} {m c : Nat} {r s o : Int} (h : CurAt w g a m c r s o 0) (q : Int) :
    Calls Tryd.prog 42 #[.pointer (some ⟨g, 0, none⟩), .int .i64 q] w fun e w' => e = .returned (.tuple #[]) ∧ CurAt w' g a m c r s o q ∧ w.grownBy w' (some g) := by
  have c5 := h.c5
  have f5 := free_of_cells h.heap 5
  have hn := hid (set_of_cells h.heap 5 (.int .i64 q))
  go_enter Tryd.func42, Tryd.ntmps42
  go_wp2_with (go_at_call 38; refine (reads_at h).mono ?_; rintro e w' ⟨rfl, rfl⟩)
  go_end0
  exact ⟨rfl, ⟨hn.out⟩, by_setCell _ _ _ _⟩
theorem fail_late {w : World} {g : Nat} {a : Option Addr} {m c : Nat} {r s o f : Int} (h : CurAt w g a m c r s o f) (hf : f ≠ 0) (q : Int) :
    Calls Tryd.prog 42 #[.pointer (some ⟨g, 0, none⟩), .int .i64 q] w fun e w' => e = .returned (.tuple #[]) ∧ w = w' := by
  have e0 : (f == 0) = false := by simpa using hf
  clear hf
  go_enter Tryd.func42, Tryd.ntmps42
  go_wp2_with (go_at_call 38; refine (reads_at h).mono ?_; rintro e w' ⟨rfl, rfl⟩)
  go_end0
  exact ⟨rfl, rfl⟩
end Go.Proofs.YtkgjmpcdndohpaaDoor
