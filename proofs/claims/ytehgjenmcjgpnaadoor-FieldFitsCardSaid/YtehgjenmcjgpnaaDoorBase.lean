/- What the walks say of slices of integers that are read, and small facts. -/
import Derived.Test.YtehgjenmcjgpnaaDoorRows
import Derived.WalkKit
import Derived.WalkLawsBesides
import Derived.WalkSmall
namespace Go.Proofs.YtehgjenmcjgpnaaDoor
open Go.RowKit

/-- A slice that lies at the address a reads as the numbers l. -/
def Ints (k : IntKind) (w : World) (a : Option Addr) (l : List Int) : Prop :=
  ∀ i, i < l.length → ∃ b off, a = some ⟨b, off, none⟩ ∧ w.cell? ⟨b, off + i, none⟩ = some (.int k (l.getD i 0))

theorem Ints.nil (k : IntKind) (w : World) (a : Option Addr) : Ints k w a [] := fun i h => absurd h (by simp)

theorem Ints.below {k : IntKind} {w w' : World} {a : Option Addr} {l : List Int} (h : Ints k w a l) (hb : Below w.heap.size w w') : Ints k w' a l := by
  intro i hi
  obtain ⟨b, off, ha, hc⟩ := h i hi
  exact ⟨b, off, ha, (hb.cell (World.block_lt_of_cell? w _ hc)).trans hc⟩

theorem Ints.at {k : IntKind} {w : World} {a : Option Addr} {l : List Int} (h : Ints k w a l) {i : Nat} (hi : i < l.length) :
    ∃ b off x, a = some ⟨b, off, none⟩ ∧ w.cell? ⟨b, off + i, none⟩ = some (.int k x) ∧ Hid (l[i]? = some x) := by
  obtain ⟨b, off, ha, hc⟩ := h i hi
  exact ⟨b, off, l[i], ha, by rw [hc]; simp [List.getD, List.getElem?_eq_getElem hi], by unfold Hid; exact List.getElem?_eq_getElem hi⟩

/-- s[j:], as the walk spells it -/
theorem Ints.drop {k : IntKind} {w : World} {b off : Nat} {l : List Int} (h : Ints k w (some ⟨b, off, none⟩) l) {j cap : Nat} (hc : l.length ≤ cap) : Ints k w (if cap = j then some ⟨b, off, none⟩ else some ⟨b, off + j, none⟩) (l.drop j) := by
  intro i hi
  rw [List.length_drop] at hi
  obtain ⟨b', off', he, hcell⟩ := h (j + i) (by omega)
  simp at he
  obtain ⟨rfl, rfl⟩ := he
  refine ⟨b, off + j, by rw [if_neg (by omega)], ?_⟩
  rw [Nat.add_assoc, hcell]
  simp [List.getD]
/-- s[:j] -/
theorem Ints.take {k : IntKind} {w : World} {a : Option Addr} {l : List Int} (h : Ints k w a l) (j : Nat) : Ints k w a (l.take j) := by
  intro i hi
  rw [List.length_take] at hi
  obtain ⟨b', off', he, hcell⟩ := h i (by omega)
  refine ⟨b', off', he, ?_⟩
  rw [hcell]
  simp [List.getD, show i < j by omega]

theorem hid {p : Prop} (h : p) : Hid p := h
theorem cell_keep {w w' : World} {p : Addr} {x : Value} (hc : w.cell? p = some x) (hb : Below w.heap.size w w') : w'.cell? p = some x :=
  (hb.cell (World.block_lt_of_cell? w _ hc)).trans hc
theorem ret_bool {a b : Bool} (h : a = b) : Ending.returned (.bool a) = .returned (.bool b) := by rw [h]
theorem ret_int {k : IntKind} {a b : Int} (h : a = b) : Ending.returned (.int k a) = .returned (.int k b) := by rw [h]
end Go.Proofs.YtehgjenmcjgpnaaDoor
