/- Package tlv: a slice of things in memory; the iterator's maker. -/
import Derived.Test.YtfdkkcndadjcaaaTlvG
import Derived.Test.YtfdkkcndadjcaaaMany
namespace Go.Proofs.Ytfdkkcndadjcaaa
open Go.RowKit

/-- a thing's cells -/
def Thing.cs (h : Thing) : List Value := [.int .i64 h.t, .slice h.a h.x.length h.c]
/-- the things' cells, one behind the other -/
def thingCells (l : List Thing) : List Value := l.flatMap Thing.cs
theorem thingCells_snoc (l : List Thing) (h : Thing) : thingCells (l ++ [h]) = thingCells l ++ [.int .i64 h.t, .slice h.a h.x.length h.c] := by simp [thingCells, Thing.cs]
theorem thingCells_length (l : List Thing) : (thingCells l).length = l.length * 2 := by
  induction l with
  | nil => rfl
  | cons h l ih => simp only [thingCells, List.flatMap_cons, List.length_append, List.length_cons] at *; rw [ih]; simp [Thing.cs]; omega
theorem thingCells_at (l : List Thing) (i : Nat) (hi : i < l.length) : (thingCells l)[i * 2]? = some (.int .i64 l[i].t) ∧ (thingCells l)[i * 2 + 1]? = some (.slice l[i].a l[i].x.length l[i].c) := by
  induction l generalizing i with
  | nil => simp at hi
  | cons h l ih =>
    have e : thingCells (h :: l) = .int .i64 h.t :: .slice h.a h.x.length h.c :: thingCells l := by simp [thingCells, Thing.cs]
    rw [e]
    cases i with
    | zero => exact ⟨rfl, rfl⟩
    | succ i =>
      have := ih i (by simpa using hi)
      rw [show (i + 1) * 2 = i * 2 + 1 + 1 by omega]
      exact this

/-- a slice of things that lies at a -/
def Items (w : World) (a : Option Addr) (l : List Thing) : Prop :=
  ∀ i, (hi : i < l.length) → ∃ b off, a = some ⟨b, off, none⟩ ∧ w.cell? ⟨b, off + i * 2, none⟩ = some (.int .i64 l[i].t) ∧ w.cell? ⟨b, off + i * 2 + 1, none⟩ = some (.slice l[i].a l[i].x.length l[i].c)
theorem Items.below {w w' : World} {a : Option Addr} {l : List Thing} (h : Items w a l) (hb : Below w.heap.size w w') : Items w' a l := by
  intro i hi
  obtain ⟨b, off, ha, h1, h2⟩ := h i hi
  exact ⟨b, off, ha, cell_keep h1 hb, cell_keep h2 hb⟩
theorem Items.nil (w : World) (a : Option Addr) : Items w a [] := fun i hi => absurd hi (by simp)

theorem own_items {w : World} {e : TypeId} {v : Value} {l : List Thing} (h : w.ownsRow 0 e 2 v l.length (thingCells l)) :
    ∃ a c, v = .slice a l.length c ∧ l.length ≤ c ∧ c ≤ 9223372036854775807 ∧ Items w a l ∧ (a = none ∨ ∃ g, a = some ⟨g, 0, none⟩ ∧ v.ownBlock = some g) := by
  rcases h.2 with ⟨rfl, h0⟩ | ⟨g, cap, cur, rfl, _, hg, hnc, hcm, hcs, htake⟩
  · have : l = [] := List.eq_nil_of_length_eq_zero h0
    subst this
    exact ⟨none, 0, rfl, by simp, by simp, Items.nil _ _, .inl rfl⟩
  · refine ⟨some ⟨g, 0, none⟩, cap, rfl, hnc, by unfold maxLen at hcm; omega, ?_, .inr ⟨g, rfl, rfl⟩⟩
    have at_ : ∀ j, j < l.length * 2 → w.cell? ⟨g, 0 + j, none⟩ = (thingCells l)[j]? := by
      intro j hj
      rw [Nat.zero_add, cell_of_row w g j cur e (0, 0) hg, ← htake, List.getElem?_take, if_pos hj, Array.getElem?_toList]
    intro i hi
    obtain ⟨h1, h2⟩ := thingCells_at l i hi
    exact ⟨g, 0, rfl, (at_ _ (by omega)).trans h1, by rw [Nat.add_assoc]; exact (at_ _ (by omega)).trans h2⟩

theorem things_any (w : World) (L S : Nat) (P : Bool) (B O : Int) (b : List Int) (a : Option Addr) (c : Nat) (hH : Holds w a c b) :
    Calls Try.prog 25 #[.agg #[.int .i64 L, .int .i64 S, .bool P, .int .i64 B, .int .i64 O], .slice a b.length c] w fun e w' => ∃ p s, e = .returned (.func (.func 35) #[] #[.pointer (some ⟨p, 0, none⟩), .pointer (some ⟨s, 0, none⟩)]) ∧ Iter L S P B O b a c p s 0 [] w' ∧ Below w.heap.size w w' ∧ w.heap.size ≤ p ∧ w.heap.size ≤ s := by
  have HH := hid hH
  clear hH
  go_enter Try.func25, Try.ntmps25
  go_wp2
  go_ret
  have hb0 := below_alloc w (.cells #[.int .i64 L, .int .i64 S, .bool P, .int .i64 B, .int .i64 O] 24)
  have hb : Below w.heap.size w ((w.alloc (.cells #[.int .i64 L, .int .i64 S, .bool P, .int .i64 B, .int .i64 O] 24)).alloc (.cells #[.slice a b.length c] 25)) := hb0.alloc (by simp) _
  refine ⟨w.heap.size + 1, w.heap.size, rfl, ⟨Nat.zero_le _, Nat.zero_le _, ?_, (ShAt.of_block (t := 24) (_root_.Go.heap_alloc_new w _)).below (below_alloc _ _), by simp, HH.out.below hb, by rw [World.size_alloc, World.size_alloc]; omega, by rw [World.size_alloc, World.size_alloc]; omega⟩, hb, by omega, Nat.le_refl _⟩
  show cutL L S P B O b = after [] (cutL L S P B O (b.drop 0))
  rw [after_nil, List.drop_zero]
end Go.Proofs.Ytfdkkcndadjcaaa
