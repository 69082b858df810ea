/- Operations that came in, opened. -/
import Derived.Test.YtgnmkdcoglbafaaCurReads
import Derived.OpenShut
import Derived.ProofKit
import Derived.Deep.Slices
namespace Go.Proofs.Ytgnmkdcoglbafaa
open Go.ChangeShapes Go.WideShapes Go.RowKit Go.Deep

section
variable {H : Type} {enc : TypeId × Value → H} {w : World} {base : Nat} {held : Bool}
theorem open_ops {fuel len cap : Nat} {a : Option Addr} {x : DataW H × List MemPlace} (h : DataW.trod enc Try.prog w base (fun _ => true) held fuel 23 [.slice a len cap] = some x) : len ≤ 9223372036854775807 ∧ IsOps w a len := by
  rcases open_slice Try.underlying23 h with ⟨hcs, _⟩ | ⟨p, l, c, m, n, D, Pl, hcs, hb, hl, hm, hmm, hx, hi⟩
  · simp at hcs
    obtain ⟨rfl, rfl, rfl⟩ := hcs
    exact ⟨by omega, fun i hi => absurd hi (by omega)⟩
  · simp at hcs
    obtain ⟨rfl, rfl, rfl⟩ := hcs
    have hC : Try.prog.cellsOf 36 = 3 := by kernel_rfl
    have hC3 : Try.prog.cellsOf 3 = 1 := by kernel_rfl
    have hCs : Try.prog.cellsOf 34 = 1 := by kernel_rfl
    refine ⟨by unfold maxLen at hm; omega, fun i hil => ?_⟩
    simp at hmm
    have hspot : p.spot = none := by
      obtain ⟨cs, hc, ht⟩ := hi 0 (by omega)
      rw [hC] at hc
      obtain ⟨_, hcl, hat⟩ := World.cells?_some hc
      have c0 := hat 0 (by omega)
      rw [List.getElem?_eq_getElem (by omega)] at c0
      simpa [Addr.add] using World.cell?_spot c0
    obtain ⟨cs, hc, ht⟩ := hi i (by omega)
    rw [hC] at hc
    obtain ⟨_, hcl, hat⟩ := World.cells?_some hc
    obtain ⟨ys, n', _, _, hlen, hyl, hf⟩ := DataW.trod_struct Try.underlying36 ht
    rw [hC] at hlen
    match cs, hlen with
    | [v0, v1, v2], _ =>
      have g0 : DataW.trod enc Try.prog w base (fun _ => true) held n' 3 [v0] = ys[0]? := by have h := hf 0 _ rfl; simpa [hC3] using h
      have g1 : DataW.trod enc Try.prog w base (fun _ => true) held n' 3 [v1] = ys[1]? := by have h := hf 1 _ rfl; simpa [hC3] using h
      have g2 : DataW.trod enc Try.prog w base (fun _ => true) held n' 34 [v2] = ys[2]? := by have h := hf 2 _ rfl; simpa [hCs] using h
      obtain ⟨y0, e0⟩ : ∃ y, ys[0]? = some y := ⟨ys[0]'(by rw [hyl]; decide), List.getElem?_eq_getElem _⟩
      obtain ⟨y1, e1⟩ : ∃ y, ys[1]? = some y := ⟨ys[1]'(by rw [hyl]; decide), List.getElem?_eq_getElem _⟩
      obtain ⟨y2, e2⟩ : ∃ y, ys[2]? = some y := ⟨ys[2]'(by rw [hyl]; decide), List.getElem?_eq_getElem _⟩
      rw [e0] at g0
      rw [e1] at g1
      rw [e2] at g2
      obtain ⟨k, h0, _, _⟩ := DataW.trod_int Try.underlying3 g0
      obtain ⟨q, h1, _, _⟩ := DataW.trod_int Try.underlying3 g1
      simp at h0 h1
      subst h0 h1
      have c0 := hat 0 (by omega)
      have c1 := hat 1 (by omega)
      have c2 := hat 2 (by omega)
      simp only [List.getElem?_cons_zero, List.getElem?_cons_succ] at c0 c1 c2
      obtain ⟨b, off, spot⟩ := p
      simp at hspot
      subst hspot
      rw [add_none, add_none] at c0 c1 c2
      rw [Nat.add_zero] at c0
      rcases open_ints Try.underlying34 Try.underlying3 hC3 g2 with ⟨hcs, _⟩ | ⟨p2, l2, cp2, zs, hcs, _, hl2, hm2, hz, _, hcell, hwz⟩
      · simp at hcs
        subst hcs
        exact ⟨b, off, k, q, none, 0, 0, [], rfl, c0, c1, c2, .inl ⟨rfl, rfl, rfl, rfl⟩⟩
      · simp at hcs
        subst hcs
        exact ⟨b, off, k, q, some p2, l2, cp2, zs, rfl, c0, c1, c2, .inr ⟨p2, rfl, hl2, hm2, by simpa using hz, hcell, hwz⟩⟩
end
end Go.Proofs.Ytgnmkdcoglbafaa
