/- A slice of values in memory: read, below, a part of it, one's own; and as an argument. -/
import Derived.Test.YtlikpafjlojagaaNedC
import Derived.Test.YtlikpafjlojagaaMrg3
namespace Go.Proofs.Ytlikpafjlojagaa
open Go.ChangeShapes Go.WideShapes Go.RowKit Go.Deep
set_option linter.unusedVariables false

/-- a value of a list, and where its bytes lie -/
structure Ent9 where
  o : Ox9
  va : Option Addr
  vc : Nat
  ma : Option Addr
  mc : Nat
def Ent9.cs (h : Ent9) : List Value := [.int .i64 h.o.C, .int .i64 h.o.F, .bool h.o.H, .int .u64 h.o.X, .slice h.va h.o.v.length h.vc, .slice h.ma h.o.m.length h.mc]
def Ent9.val (h : Ent9) : Value := .agg #[.int .i64 h.o.C, .int .i64 h.o.F, .bool h.o.H, .int .u64 h.o.X, .slice h.va h.o.v.length h.vc, .slice h.ma h.o.m.length h.mc]
/-- its bytes -/
structure EntIn (w : World) (h : Ent9) : Prop where
  iv : Ints .u8 w h.va h.o.v
  im : Ints .u8 w h.ma h.o.m
  ov : Octets h.o.v
  om : Octets h.o.m
  cv : h.o.v.length ≤ h.vc ∧ h.vc ≤ 9223372036854775807
  cm : h.o.m.length ≤ h.mc ∧ h.mc ≤ 9223372036854775807
  c : -9223372036854775808 ≤ h.o.C ∧ h.o.C ≤ 9223372036854775807
  f : -9223372036854775808 ≤ h.o.F ∧ h.o.F ≤ 9223372036854775807
  x : 0 ≤ h.o.X ∧ h.o.X ≤ 18446744073709551615
theorem EntIn.below {w w' : World} {h : Ent9} (hi : EntIn w h) (hb : Below w.heap.size w w') : EntIn w' h :=
  ⟨hi.iv.below hb, hi.im.below hb, hi.ov, hi.om, hi.cv, hi.cm, hi.c, hi.f, hi.x⟩

/-- a slice of values that lies at a -/
def Oxms (w : World) (a : Option Addr) (l : List Ent9) : Prop :=
  ∀ i, (hi : i < l.length) → ∃ b off, a = some ⟨b, off, none⟩ ∧ w.cell? ⟨b, off + i * 6, none⟩ = some (.int .i64 l[i].o.C) ∧ w.cell? ⟨b, off + i * 6 + 1, none⟩ = some (.int .i64 l[i].o.F) ∧ w.cell? ⟨b, off + i * 6 + 2, none⟩ = some (.bool l[i].o.H) ∧ w.cell? ⟨b, off + i * 6 + 3, none⟩ = some (.int .u64 l[i].o.X) ∧ w.cell? ⟨b, off + i * 6 + 4, none⟩ = some (.slice l[i].va l[i].o.v.length l[i].vc) ∧ w.cell? ⟨b, off + i * 6 + 5, none⟩ = some (.slice l[i].ma l[i].o.m.length l[i].mc)
theorem Oxms.below {w w' : World} {a : Option Addr} {l : List Ent9} (h : Oxms w a l) (hb : Below w.heap.size w w') : Oxms w' a l := by
  intro i hi
  obtain ⟨b, off, ha, h0, h1, h2, h3, h4, h5⟩ := h i hi
  exact ⟨b, off, ha, cell_keep h0 hb, cell_keep h1 hb, cell_keep h2 hb, cell_keep h3 hb, cell_keep h4 hb, cell_keep h5 hb⟩
theorem Oxms.nil (w : World) (a : Option Addr) : Oxms w a [] := fun i hi => absurd hi (by simp)
theorem Oxms.take {w : World} {a : Option Addr} {l : List Ent9} (h : Oxms w a l) (j : Nat) : Oxms w a (l.take j) := by
  intro i hi
  have hi' : i < l.length := by rw [List.length_take] at hi; omega
  have := h i hi'
  simpa using this
/-- l[j:], as the walk spells it -/
theorem Oxms.drop {w : World} {b off : Nat} {l : List Ent9} (h : Oxms w (some ⟨b, off, none⟩) l) {j cap : Nat} (hc : l.length ≤ cap) : Oxms w (if cap = j then some ⟨b, off, none⟩ else some ⟨b, off + j * 6, none⟩) (l.drop j) := by
  intro i hi
  rw [List.length_drop] at hi
  obtain ⟨b', off', he, h0, h1, h2, h3, h4, h5⟩ := h (j + i) (by omega)
  simp only [Option.some.injEq, Addr.mk.injEq] at he
  obtain ⟨rfl, rfl, _⟩ := he
  have e : off + j * 6 + i * 6 = off + (j + i) * 6 := by omega
  refine ⟨b, off + j * 6, by rw [if_neg (by omega)], ?_⟩
  rw [e]
  simp only [List.getElem_drop]
  exact ⟨h0, h1, h2, h3, h4, h5⟩
theorem Oxms.lt {w : World} {a : Option Addr} {l : List Ent9} (h : Oxms w a l) (hl : l ≠ []) {q : Addr} (hq : a = some q) : q.block < w.heap.size := by
  obtain ⟨b, off, ha, h0, _⟩ := h 0 (List.length_pos_iff.2 hl)
  rw [hq] at ha
  obtain rfl := Option.some.inj ha
  exact World.block_lt_of_cell? w _ h0
theorem Oxms.kept {w w' : World} {a : Option Addr} {l : List Ent9} (h : Oxms w a l) (hb : ∀ q : Addr, a = some q → w'.heap[q.block]? = w.heap[q.block]?) : Oxms w' a l := by
  intro i hi
  obtain ⟨b, off, ha, h0, h1, h2, h3, h4, h5⟩ := h i hi
  have e : ∀ k, w'.cell? ⟨b, k, none⟩ = w.cell? ⟨b, k, none⟩ := fun k => World.cell?_of_block (a := ⟨b, k, none⟩) (hb ⟨b, off, none⟩ ha)
  exact ⟨b, off, ha, (e _).trans h0, (e _).trans h1, (e _).trans h2, (e _).trans h3, (e _).trans h4, (e _).trans h5⟩

/-- the values' cells, one behind the other -/
def oxmCells (l : List Ent9) : List Value := l.flatMap Ent9.cs
theorem oxmCells_snoc (l : List Ent9) (h : Ent9) : oxmCells (l ++ [h]) = oxmCells l ++ h.cs := by simp [oxmCells]
theorem oxmCells_append (l m : List Ent9) : oxmCells (l ++ m) = oxmCells l ++ oxmCells m := by simp [oxmCells]
theorem oxmCells_length (l : List Ent9) : (oxmCells l).length = l.length * 6 := by
  induction l with
  | nil => rfl
  | cons h l ih =>
    have e : oxmCells (h :: l) = h.cs ++ oxmCells l := by simp [oxmCells]
    rw [e, List.length_append, ih]
    simp [Ent9.cs]
    omega
theorem oxmCells_at (l : List Ent9) (i : Nat) (hi : i < l.length) (j : Nat) (hj : j < 6) : (oxmCells l)[i * 6 + j]? = (l[i].cs)[j]? := by
  induction l generalizing i with
  | nil => simp at hi
  | cons h l ih =>
    have e : oxmCells (h :: l) = h.cs ++ oxmCells l := by simp [oxmCells]
    have hl : h.cs.length = 6 := rfl
    rw [e]
    cases i with
    | zero => rw [Nat.zero_mul, Nat.zero_add, List.getElem?_append_left (by omega)]; rfl
    | succ i =>
      rw [List.getElem?_append_right (by omega), hl, show (i + 1) * 6 + j - 6 = i * 6 + j by omega]
      exact ih i (by simpa using hi)
theorem own_oxms {w : World} {e : TypeId} {v : Value} {l : List Ent9} (h : w.ownsRow 0 e 6 v l.length (oxmCells l)) :
    ∃ a c, v = .slice a l.length c ∧ l.length ≤ c ∧ c ≤ 9223372036854775807 ∧ Oxms w a l ∧ (a = none ∨ ∃ g, a = some ⟨g, 0, none⟩ ∧ v.ownBlock = some g) := by
  rcases h.2 with ⟨rfl, h0⟩ | ⟨g, cap, cur, rfl, _, hg, hnc, hcm, hcs, htake⟩
  · have : l = [] := List.eq_nil_of_length_eq_zero h0
    subst this
    exact ⟨none, 0, rfl, by simp, by simp, Oxms.nil _ _, .inl rfl⟩
  · refine ⟨some ⟨g, 0, none⟩, cap, rfl, hnc, by unfold maxLen at hcm; omega, ?_, .inr ⟨g, rfl, rfl⟩⟩
    have at_ : ∀ j, j < l.length * 6 → w.cell? ⟨g, 0 + j, none⟩ = (oxmCells l)[j]? := by
      intro j hj
      rw [Nat.zero_add, cell_of_row w g j cur e (0, 0) hg, ← htake, List.getElem?_take, if_pos hj, Array.getElem?_toList]
    intro i hi
    have k := fun j hj => oxmCells_at l i hi j hj
    refine ⟨g, 0, rfl, ?_, ?_, ?_, ?_, ?_, ?_⟩
    · exact (at_ _ (by omega)).trans (k 0 (by omega))
    · rw [Nat.add_assoc]; exact (at_ _ (by omega)).trans (k 1 (by omega))
    · rw [Nat.add_assoc]; exact (at_ _ (by omega)).trans (k 2 (by omega))
    · rw [Nat.add_assoc]; exact (at_ _ (by omega)).trans (k 3 (by omega))
    · rw [Nat.add_assoc]; exact (at_ _ (by omega)).trans (k 4 (by omega))
    · rw [Nat.add_assoc]; exact (at_ _ (by omega)).trans (k 5 (by omega))
end Go.Proofs.Ytlikpafjlojagaa
