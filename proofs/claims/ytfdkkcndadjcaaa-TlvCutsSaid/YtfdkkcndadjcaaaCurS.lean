/- Layer 2's sure. -/
import Derived.Test.YtfdkkcndadjcaaaCurE
namespace Go.Proofs.Ytfdkkcndadjcaaa
open Go.RowKit

theorem below_by {w0 w w' : World} (h : Below w0.heap.size w0 w) {g : Nat} (hb : w.grownBy w' (some g)) (hg : w0.heap.size ≤ g) : Below w0.heap.size w0 w' :=
  h.grown hb h.size (by intro k hk; simp at hk; omega)
theorem below_more {w0 w w' : World} (h : Below w0.heap.size w0 w) (hb : Below w.heap.size w w') : Below w0.heap.size w0 w' := h.trans (hb.mono h.size)

theorem getW_s1 : getW [2] [1, 2, 0, 3] = .ok [258] := by rfl
theorem getW_s2 : getW [-1, 1] [0, 3] = .ok [3] := by rfl

end Go.Proofs.Ytfdkkcndadjcaaa
