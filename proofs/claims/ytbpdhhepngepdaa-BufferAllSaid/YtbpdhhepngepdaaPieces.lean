/- Pieces of bytes that came in: a slice of slices of bytes. -/
import Derived.Test.YtbpdhhepngepdaaShell
import Derived.Test.YtbpdhhepngepdaaOwn
import Derived.OpenShut
import Derived.ProofKit
import Derived.Deep.Slices
namespace Go.Proofs.Ytbpdhhepngepdaa
open Go.ChangeShapes Go.WideShapes Go.RowKit Go.Deep

/-- a slice of slices of bytes, in a world -/
def IsPieces (w : World) (a : Option Addr) (n : Nat) : Prop :=
  ∀ i, i < n → ∃ b off a' l' c' zs, a = some ⟨b, off, none⟩ ∧ w.cell? ⟨b, off + i, none⟩ = some (.slice a' l' c') ∧ IsRow .u8 w a' l' c' zs

section
variable {H : Type} {enc : TypeId × Value → H} {w : World} {base : Nat} {held : Bool}
theorem open_pieces {fuel len cap : Nat} {a : Option Addr} {x : DataW H × List MemPlace} (h : DataW.trod enc Try.prog w base (fun _ => true) held fuel 23 [.slice a len cap] = some x) : len ≤ 9223372036854775807 ∧ IsPieces w a len := by
  rcases open_slice Try.underlying23 h with ⟨hcs, _⟩ | ⟨p, l, c, m, n, D, Pl, hcs, hb, hl, hm, hmm, hx, hi⟩
  · simp at hcs
    obtain ⟨rfl, rfl, rfl⟩ := hcs
    exact ⟨by omega, fun i hi => absurd hi (by omega)⟩
  · simp at hcs
    obtain ⟨rfl, rfl, rfl⟩ := hcs
    have hC : Try.prog.cellsOf 27 = 1 := by kernel_rfl
    have hC1 : Try.prog.cellsOf 5 = 1 := by kernel_rfl
    refine ⟨by unfold maxLen at hm; omega, fun i hil => ?_⟩
    simp at hmm
    have hspot : p.spot = none := by
      obtain ⟨cs, hc, ht⟩ := hi 0 (by omega)
      rw [hC] at hc
      obtain ⟨_, hcl, hat⟩ := World.cells?_some hc
      have c0 := hat 0 (by omega)
      rw [List.getElem?_eq_getElem (by omega)] at c0
      simpa [Addr.add] using World.cell?_spot c0
    obtain ⟨cs, hc, ht⟩ := hi i (by omega)
    rw [hC] at hc
    obtain ⟨_, hcl, hat⟩ := World.cells?_some hc
    match cs, hcl with
    | [v0], _ =>
      have c0 := hat 0 (by omega)
      simp only [List.getElem?_cons_zero] at c0
      obtain ⟨b, off, spot⟩ := p
      simp at hspot
      subst hspot
      rw [add_none, add_none, Nat.mul_one, Nat.add_zero] at c0
      rcases open_ints Try.underlying27 Try.underlying5 hC1 ht with ⟨hcs, _⟩ | ⟨p2, l2, cp2, zs, hcs, _, hl2, hm2, hz, _, hcell, hwz⟩
      · simp at hcs
        subst hcs
        exact ⟨b, off, none, 0, 0, [], rfl, c0, .inl ⟨rfl, rfl, rfl, rfl⟩⟩
      · simp at hcs
        subst hcs
        exact ⟨b, off, some p2, l2, cp2, zs, rfl, c0, .inr ⟨p2, rfl, hl2, hm2, by simpa using hz, hcell, hwz⟩⟩
end
end Go.Proofs.Ytbpdhhepngepdaa
