/- Contracts of the document's rows: Put. -/
import Derived.Test.YtfdkkcndadjcaaaRowE
import Derived.Deep.RegionHeld3
namespace Go.Proofs.Ytfdkkcndadjcaaa
open Go.RowKit

theorem drop_cons {l r : List Int} {j : Nat} {n : Int} (h : n :: r = l.drop j) : l[j]? = some n ∧ j < l.length ∧ r = l.drop (j + 1) := by
  have hj : j < l.length := by
    rcases Nat.lt_or_ge j l.length with h' | h'
    · exact h'
    · rw [List.drop_of_length_le h'] at h; simp at h
  rw [List.drop_eq_getElem_cons hj] at h
  injection h with h1 h2
  exact ⟨by rw [List.getElem?_eq_getElem hj, h1], hj, h2⟩

end Go.Proofs.Ytfdkkcndadjcaaa
