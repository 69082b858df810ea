/- Layer 3's sure; a buffer in a call that made it. -/
import Derived.Test.YtkgjmpcdndohpaaDoorBufF
import Derived.Test.YtkgjmpcdndohpaaDoorRowF
namespace Go.Proofs.YtkgjmpcdndohpaaDoor
open Go.RowKit Go.Maps

theorem below_then {w0 w w' : World} (h : Below w0.heap.size w0 w) (hb : Below w.heap.size w w') : Below w0.heap.size w0 w' := h.trans (hb.mono h.size)
/-- a buffer that was made since w0 -/
structure BufOn (w0 w : World) (g m : Nat) (p : Option Nat) (r : Nat) (l : List Int) (H : List (Int × Int)) (f : Int) : Prop where
  buf : Buf w g m p r l H f
  bel : Below w0.heap.size w0 w
  base : ∀ i, Foot g m p i → w0.heap.size ≤ i
section
variable {w0 w w' : World} {g m : Nat} {p p' : Option Nat} {r : Nat} {l l' : List Int} {H H' : List (Int × Int)} {f f' : Int}
theorem BufOn.went (h : BufOn w0 w g m p r l H f) (k : Went w w' g m p p' r l' H' f') : BufOn w0 w' g m p' r l' H' f' :=
  ⟨k.buf, k.turn.below h.bel h.bel.size h.base, k.base h.bel.size h.base⟩
theorem BufOn.below (h : BufOn w0 w g m p r l H f) (hb : Below w.heap.size w w') : BufOn w0 w' g m p r l H f := ⟨h.buf.below hb, below_then h.bel hb, h.base⟩
theorem Went.ints {M : Nat} {k : IntKind} {xs : List Int} (h : Went w w' g m p p' r l H f) (hI : Ints k w (some ⟨M, 0, none⟩) xs) (hM : ¬ Foot g m p M) : Ints k w' (some ⟨M, 0, none⟩) xs := h.turn.ints hI hM
theorem Buf.new_apart (h : Buf w g m p r l H f) : ¬ Foot g m p w.heap.size := fun e => Nat.lt_irrefl _ (h.lt _ e)
end

theorem b7 : bytesL 7 1 = [7] := by rfl
theorem b3 : bytesL 3 2 = [0, 3] := by rfl
theorem fill_s3 : splice [0, 0, 7] 0 (bytesL 3 2) = [0, 3, 7] := by rw [b3]; rfl
theorem rfl_beq (l : List Int) : (l == l) = true := by simp

end Go.Proofs.YtkgjmpcdndohpaaDoor
