/- Contracts of the document's cursor: Fail, Bytes, Left, New. -/
import Derived.Test.YtfdkkcndadjcaaaCurS
namespace Go.Proofs.Ytfdkkcndadjcaaa
open Go.RowKit

theorem own_at (W : World) (e : TypeId) (k : IntKind) {g : Nat} (h : W.heap.size = g) : (W.alloc (.cells #[] e)).ownsRow 0 e 1 (.slice (some ⟨g, 0, none⟩) 0 0) (([] : List Int).map (Value.int k)).length (([] : List Int).map (Value.int k)) := by
  subst h; exact own_empty W e

theorem Grew.first_at {e : TypeId} {W w' : World} {v' : Value} {xs : List Value} {g : Nat} (hs : W.heap.size = g) (h : Grew e (W.alloc (.cells #[] e)) w' (.slice (some ⟨g, 0, none⟩) 0 0) v' xs) : Fresh e W w' v' xs := by
  subst hs; exact h.first

/-- a slice in new memory lies behind, or is nil -/
theorem fresh_far {e : TypeId} {W w' : World} {a : Option Addr} {m c : Nat} {xs : List Value} {B : Nat} (h : Fresh e W w' (.slice a m c) xs) (hB : B ≤ W.heap.size) : a = none ∨ ∃ q, a = some ⟨q, 0, none⟩ ∧ B ≤ q := by
  rcases h.own.2 with ⟨he, _⟩ | ⟨g, cap, cur, he, _⟩
  · simp at he; exact .inl he.1
  · simp at he
    obtain ⟨rfl, rfl, rfl⟩ := he
    exact .inr ⟨g, rfl, Nat.le_trans hB (h.new g rfl)⟩
theorem fresh_shape {e : TypeId} {W w' : World} {a : Option Addr} {m c : Nat} {xs : List Value} (h : Fresh e W w' (.slice a m c) xs) (hc : 0 < c) : ∃ b off, a = some ⟨b, off, none⟩ := by
  rcases h.own.2 with ⟨he, _⟩ | ⟨g, cap, cur, he, _⟩
  · simp at he; omega
  · simp at he; exact ⟨g, 0, he.1⟩
/-- a store beside it -/
theorem Ints.set {k : IntKind} {w : World} {a : Option Addr} {l : List Int} (h : Ints k w a l) {b : Nat} (hb : a = none ∨ ∃ q, a = some ⟨q, 0, none⟩ ∧ b ≠ q) (i : Nat) (u : Value) : Ints k (w.setCell ⟨b, i, none⟩ u) a l := by
  rcases hb with rfl | ⟨q, rfl, hq⟩
  · intro j hj
    obtain ⟨_, _, he, _⟩ := h j hj
    simp at he
  · exact h.by (by_setCell w b i u) (by simpa using hq)

/-- bytes that came in, or lie in new memory, as the slice a, l.length, c -/
structure Holds (w : World) (a : Option Addr) (c : Nat) (l : List Int) : Prop where
  cap : l.length ≤ c
  max : c ≤ 9223372036854775807
  ints : Ints .u8 w a l
  oct : Octets l
  shape : 0 < c → ∃ b off, a = some ⟨b, off, none⟩

/-- the same, and in new memory -/
structure Newly (w w' : World) (a : Option Addr) (c : Nat) (l : List Int) : Prop where
  holds : Holds w' a c l
  far : a = none ∨ ∃ q, a = some ⟨q, 0, none⟩ ∧ w.heap.size ≤ q

theorem Holds.below {w w' : World} {a : Option Addr} {c : Nat} {l : List Int} (h : Holds w a c l) (hb : Below w.heap.size w w') : Holds w' a c l := ⟨h.cap, h.max, h.ints.below hb, h.oct, h.shape⟩

/-- the document's cursor, as a value -/
def refV (a : Option Addr) (m c : Nat) (r s o f : Int) : Value := .agg #[.slice a m c, .int .i64 r, .int .i64 s, .int .i64 o, .int .i64 f]

theorem below_three (w : World) (o o' o2 : Obj) : Below w.heap.size w (((w.alloc o).alloc o').alloc o2) := (((Below.refl _ _).alloc (Nat.le_refl _) _).alloc (by simp) _).alloc (by simp; omega) _
/-- of what was there every cell and every mark reads as it did -/
theorem old_cells {W w1 : World} (hb : Below W.heap.size W w1) : (∀ b o, b < W.heap.size → w1.cell? ⟨b, o, none⟩ = W.cell? ⟨b, o, none⟩) ∧ (∀ b o, b < W.heap.size → w1.frozen? ⟨b, o, none⟩ = W.frozen? ⟨b, o, none⟩) :=
  ⟨fun b o h => hb.cell (p := ⟨b, o, none⟩) h, fun b o h => hb.frozen (p := ⟨b, o, none⟩) h⟩
theorem below_two (w : World) (o o' : Obj) : Below w.heap.size w ((w.alloc o).alloc o') := ((Below.refl _ _).alloc (Nat.le_refl _) _).alloc (by simp) _

end Go.Proofs.Ytfdkkcndadjcaaa
