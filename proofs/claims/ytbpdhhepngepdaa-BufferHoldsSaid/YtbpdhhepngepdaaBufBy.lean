/- A buffer, and beside it a slice of one's own. -/
import Derived.Test.YtbpdhhepngepdaaBufS
namespace Go.Proofs.Ytbpdhhepngepdaa
open Go.RowKit Go.Maps

/-- l is written; the slice v, of elements e, has xs -/
structure Side (w wr : World) (e : TypeId) (k : IntKind) (v : Value) (xs : List Int) (g m : Nat) (p : Option Nat) (r : Nat) (l : List Int) (H : List (Int × Int)) (f : Int) : Prop where
  on : BufOn w wr g m p r l H f
  fresh : Fresh e w wr v (xs.map (Value.int k))
  far : ∀ b, v.ownBlock = some b → ¬ Foot g m p b
section
variable {w wr wx : World} {e : TypeId} {k : IntKind} {v v' : Value} {g m : Nat} {p p' : Option Nat} {r n c : Nat} {xs ys l l' : List Int} {H H' : List (Int × Int)} {f f' : Int}
theorem Side.below (h : Side w wr e k v xs g m p r l H f) (hb : Below wr.heap.size wr wx) : Side w wx e k v xs g m p r l H f := ⟨h.on.below hb, h.fresh.behind (below_by_none hb), h.far⟩
theorem Side.wrote (h : Side w wr e k v xs g m p r l H f) (q : Went wr wx g m p p' r l' H' f') : Side w wx e k v xs g m p' r l' H' f' :=
  ⟨h.on.went q, q.turn.fresh h.fresh h.far h.on.base, fun b hb => q.apart (h.fresh.own.lt b hb).2 (h.far b hb)⟩
theorem Side.grew (h : Side w wr e k v xs g m p r l H f) (q : Grew e wr wx v v' (ys.map (Value.int k))) : Side w wx e k v' ys g m p r l H f := by
  refine ⟨⟨h.on.buf.kept q.by_ (fun b hb => h.far b hb), h.on.bel.grown q.by_ h.on.bel.size (fun b hb => h.fresh.new b hb), h.on.base⟩, h.fresh.step q, fun b hb => ?_⟩
  rcases q.moved with e | ⟨i, e, hq⟩
  · exact h.far b (by rw [← e, hb])
  · rw [hb] at e
    simp at e
    subst e
    intro hf
    have := h.on.buf.lt _ hf
    omega
end
end Go.Proofs.Ytbpdhhepngepdaa
