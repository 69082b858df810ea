/- A block of cells of one's own (a struct's box, a result's): what it holds, that it may be written; behind a step, behind stores. Over any program. -/
import Derived.Test.YtehgjenmcjgpnaaDoorApp
namespace Go.Proofs.YtehgjenmcjgpnaaDoor
open Go.RowKit

theorem below_on {w0 w w' : World} (h : Below w0.heap.size w0 w) (hb : Below w.heap.size w w') : Below w0.heap.size w0 w' := h.trans (hb.mono h.size)
theorem Ints.apart {k : IntKind} {w : World} {a : Option Addr} {l : List Int} (h : Ints k w a l) {X i : Nat} (v : Value) (hne : ∀ q : Addr, a = some q → q.block ≠ X) : Ints k (w.setCell ⟨X, i, none⟩ v) a l := by
  intro j hj
  obtain ⟨b, off, rfl, hc⟩ := h j hj
  have := hne _ rfl
  exact ⟨b, off, rfl, (World.cell?_setCell_other _ _ _ _ (by intro e; simp at e; exact this e.1.symm)).trans hc⟩

/-- a block that holds l, and may be written -/
structure BoxL (w : World) (b : Nat) (l : List Value) : Prop where
  cell : ∀ i x, l[i]? = some x → w.cell? ⟨b, i, none⟩ = some x
  free : ∀ o, w.frozen? ⟨b, o, none⟩ = false
  lt : b < w.heap.size

section
variable {w w' : World} {b : Nat} {l : List Value}
theorem BoxL.of_block {t : TypeId} (hb : w.heap[b]? = some (.cells l.toArray t (0, 0))) : BoxL w b l :=
  ⟨fun i x h => by simp [World.cell?, hb, h], fun o => by simp [World.frozen?, hb], (Array.getElem?_eq_some_iff.1 hb).1⟩
theorem BoxL.new (w : World) (l : List Value) (t : TypeId) : BoxL (w.alloc (.cells l.toArray t)) w.heap.size l :=
  BoxL.of_block (heap_alloc_new w _)
theorem BoxL.by (h : BoxL w b l) {row : Option Nat} (hb : w.grownBy w' row) (hne : some b ≠ row) : BoxL w' b l :=
  ⟨fun i x hx => hb.cell (h.cell i x hx) hne, fun o => (World.frozen?_of_block (a := ⟨b, o, none⟩) (hb.block b h.lt hne)).trans (h.free o), Nat.lt_of_lt_of_le h.lt hb.size⟩
theorem BoxL.below (h : BoxL w b l) (hb : Below w.heap.size w w') : BoxL w' b l := h.by (below_by_none hb) (by simp)
theorem BoxL.drew (h : BoxL w b l) : BoxL w.drew b l := ⟨h.cell, h.free, h.lt⟩
theorem BoxL.alloc (h : BoxL w b l) (o : Obj) : BoxL (w.alloc o) b l := h.below (below_alloc w o)
theorem BoxL.set (h : BoxL w b l) (i : Nat) (x : Value) (hi : i < l.length) : BoxL (w.setCell ⟨b, i, none⟩ x) b (l.set i x) := by
  refine ⟨fun j y hy => ?_, fun o => by simp [h.free o], by simpa using h.lt⟩
  have h0 := h.cell i l[i] (List.getElem?_eq_getElem hi)
  by_cases hj : i = j
  · subst hj
    simp [hi] at hy
    subst hy
    exact World.cell?_setCell_same _ _ _ h0
  · rw [List.getElem?_set_ne hj] at hy
    exact (World.cell?_setCell_other _ _ _ _ (by simp)).trans (h.cell j y hy)
/-- stores into another block -/
theorem BoxL.far (h : BoxL w b l) {c i : Nat} (x : Value) (hc : c ≠ b) : BoxL (w.setCell ⟨c, i, none⟩ x) b l :=
  ⟨fun j y hy => (World.cell?_setCell_other _ _ _ _ (by simp)).trans (h.cell j y hy), fun o => by simp [h.free o], by simpa using h.lt⟩
theorem BoxL.five {v0 v1 v2 v3 v4 : Value} (h : BoxL w b [v0, v1, v2, v3, v4]) :
    w.cell? ⟨b, 0, none⟩ = some v0 ∧ w.cell? ⟨b, 1, none⟩ = some v1 ∧ w.cell? ⟨b, 2, none⟩ = some v2 ∧ w.cell? ⟨b, 3, none⟩ = some v3 ∧ w.cell? ⟨b, 4, none⟩ = some v4 :=
  ⟨h.cell 0 _ rfl, h.cell 1 _ rfl, h.cell 2 _ rfl, h.cell 3 _ rfl, h.cell 4 _ rfl⟩
theorem BoxL.six {v0 v1 v2 v3 v4 v5 : Value} (h : BoxL w b [v0, v1, v2, v3, v4, v5]) :
    w.cell? ⟨b, 0, none⟩ = some v0 ∧ w.cell? ⟨b, 1, none⟩ = some v1 ∧ w.cell? ⟨b, 2, none⟩ = some v2 ∧ w.cell? ⟨b, 3, none⟩ = some v3 ∧ w.cell? ⟨b, 4, none⟩ = some v4 ∧ w.cell? ⟨b, 5, none⟩ = some v5 :=
  ⟨h.cell 0 _ rfl, h.cell 1 _ rfl, h.cell 2 _ rfl, h.cell 3 _ rfl, h.cell 4 _ rfl, h.cell 5 _ rfl⟩
theorem BoxL.set5 {u0 u1 u2 u3 u4 : Value} (h : BoxL w b [u0, u1, u2, u3, u4]) (v0 v1 v2 v3 v4 : Value) :
    BoxL (((((w.setCell ⟨b, 0, none⟩ v0).setCell ⟨b, 1, none⟩ v1).setCell ⟨b, 2, none⟩ v2).setCell ⟨b, 3, none⟩ v3).setCell ⟨b, 4, none⟩ v4) b [v0, v1, v2, v3, v4] :=
  (((((h.set 0 v0 (by simp)).set 1 v1 (by simp)).set 2 v2 (by simp)).set 3 v3 (by simp)).set 4 v4 (by simp))
theorem BoxL.set6 {u0 u1 u2 u3 u4 u5 : Value} (h : BoxL w b [u0, u1, u2, u3, u4, u5]) (v0 v1 v2 v3 v4 v5 : Value) :
    BoxL ((((((w.setCell ⟨b, 0, none⟩ v0).setCell ⟨b, 1, none⟩ v1).setCell ⟨b, 2, none⟩ v2).setCell ⟨b, 3, none⟩ v3).setCell ⟨b, 4, none⟩ v4).setCell ⟨b, 5, none⟩ v5) b [v0, v1, v2, v3, v4, v5] :=
  ((((((h.set 0 v0 (by simp)).set 1 v1 (by simp)).set 2 v2 (by simp)).set 3 v3 (by simp)).set 4 v4 (by simp)).set 5 v5 (by simp))
end
end Go.Proofs.YtehgjenmcjgpnaaDoor
