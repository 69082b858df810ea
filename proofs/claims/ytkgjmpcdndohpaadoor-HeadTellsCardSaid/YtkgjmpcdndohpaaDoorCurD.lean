/- Contracts of package cursor: Bytes, Rest, Look, Sub. -/
import Derived.Test.YtkgjmpcdndohpaaDoorCurC
namespace Go.Proofs.YtkgjmpcdndohpaaDoor
open Go.RowKit

/-- What is handed back is a slice in new memory, which holds xs; of what was there no more than one block has turned. -/
structure Gives (e : TypeId) (w w' : World) (row : Option Nat) (v : Value) (xs : List Value) : Prop where
  own : w'.ownsRow 0 e 1 v xs.length xs
  by_ : w.grownBy w' row
  new : ∀ k, v.ownBlock = some k → w.heap.size ≤ k

theorem Gives.behind {e : TypeId} {w w1 w2 : World} {row : Option Nat} {v : Value} {xs : List Value} (h : w.grownBy w1 row) (k : Fresh e w1 w2 v xs) : Gives e w w2 row v xs :=
  ⟨k.own, grownBy_then h (grownBy_more (below_by_none k.bel)), fun g hg => Nat.le_trans h.size (k.new g hg)⟩

section
variable {w : World} {g M : Nat} {l : List Int} {r s o f : Int}

/-- numbers that are no ints stand in no cursor: what turns a cursor leaves them -/
theorem Cur.ints {w' : World} (h : Cur w g M l r s o f) {k : IntKind} {a : Option Addr} {xs : List Int} (hI : Ints k w a xs) (hk : k ≠ .i64) (hb : w.grownBy w' (some g)) : Ints k w' a xs := by
  obtain ⟨off, c, hc, _⟩ := h.ex
  intro i hi
  obtain ⟨b, o, he, hcell⟩ := hI i hi
  refine ⟨b, o, he, ?_⟩
  by_cases hbg : b = g
  · subst hbg
    exfalso
    have hx := hcell
    simp only [World.cell?, hc.heap] at hx
    rcases (show o + i = 0 ∨ o + i = 1 ∨ o + i = 2 ∨ o + i = 3 ∨ o + i = 4 ∨ o + i = 5 ∨ 6 ≤ o + i by omega) with e | e | e | e | e | e | e
    all_goals first | (rw [e] at hx; simp [curCells] at hx) | (simp [curCells, e] at hx)
    all_goals exact hk hx.1.symm
  · exact hb.cell hcell (by simp; exact hbg)

/-- what Bytes hands back -/
def BytesPost (w : World) (g M : Nat) (out l : List Int) (r s o f : Int) (e : Ending) (w' : World) : Prop :=
  ∃ k, e = .returned (.slice (some ⟨k, 0, none⟩) out.length out.length) ∧ Gives 5 w w' (some g) (.slice (some ⟨k, 0, none⟩) out.length out.length) (out.map (Value.int .u8)) ∧ Cur w' g M l r s o f

theorem Cur.block_lt (h : Cur w g M l r s o f) : g < w.heap.size := by obtain ⟨off, c, hc, _⟩ := h.ex; exact lt_of_block hc.heap

end
end Go.Proofs.YtkgjmpcdndohpaaDoor
