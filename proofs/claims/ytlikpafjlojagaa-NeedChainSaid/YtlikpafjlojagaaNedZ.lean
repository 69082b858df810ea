/- The chain's end: pure facts, and the list as a whole. -/
import Derived.Test.YtlikpafjlojagaaNedY
namespace Go.Proofs.Ytlikpafjlojagaa
open Go.RowKit
set_option linter.unusedVariables false

theorem chain_end {n : Int} (h : 0 ≤ n ∧ n < 40) (r : Nat) : check9 (chain9 r (needL n ++ [n])) = (0, 0) ∧ missing9 (chain9 r (needL n ++ [n])) = [] ∧ ((needL n ++ [n]).length = 1 ↔ (fld n).d < 0) ∧ check9 ((chain9 r (needL n ++ [n])).drop 1) = if (needL n ++ [n]).length = 1 then (0, 0) else (0, 1034) := by
  have hc := chain_all h r
  have hl := chain_len r (needL n ++ [n])
  unfold ChainOk at hc
  simp only [Bool.and_eq_true, decide_eq_true_eq] at hc
  obtain ⟨⟨⟨h1, h2⟩, h3⟩, h4⟩ := hc
  rw [hl] at h3 h4
  exact ⟨h1, h2, by rw [h3], h4⟩
theorem chain_l9 {w wr : World} {va : Option Addr} {vc N : Nat} {D : List Ent9} (hF : FreshO w wr (.slice va N vc) N D) (hD : ChainIn wr (.slice va N vc) D) (hN : N ≤ 21) : L9 wr va D :=
  ⟨hF.ox.2.2.2, fun h hh => (hD h hh).1, fun h hh => ⟨by have := (hD h hh).2.1; omega, by have := (hD h hh).2.2.1; omega⟩, by rw [hF.ox.1]; omega⟩
theorem l9_drop {w wr : World} {va : Option Addr} {vc N : Nat} {D : List Ent9} (hF : FreshO w wr (.slice va N vc) N D) (hL : L9 wr va D) (hN : 1 ≤ N) : ∃ g, va = some ⟨g, 0, none⟩ ∧ (vc = 1 → L9 wr (some ⟨g, 0, none⟩) (D.drop 1)) ∧ (¬ vc = 1 → L9 wr (some ⟨g, 6, none⟩) (D.drop 1)) := by
  have hl := hF.ox.1
  obtain ⟨b, off, ha, _⟩ := hL.ox 0 (by omega)
  subst ha
  obtain ⟨g, hg⟩ := hF.spot
  rw [hg] at hF hL ⊢
  have hO := hL.ox.drop (j := 1) (cap := vc) (by have := hF.ox.2.1; omega)
  have hr : ∀ a, Oxms wr a (D.drop 1) → L9 wr a (D.drop 1) := fun a ho => ⟨ho, fun x hx => hL.ent x (List.mem_of_mem_drop hx), fun x hx => hL.few x (List.mem_of_mem_drop hx), by rw [List.length_drop]; have := hL.len; omega⟩
  refine ⟨g, rfl, fun e => hr _ ?_, fun e => hr _ ?_⟩
  · rw [if_pos e] at hO; exact hO
  · rw [if_neg e] at hO; simpa using hO
theorem chain_drop {w wr : World} {va : Option Addr} {vc N : Nat} {D : List Ent9} (hF : FreshO w wr (.slice va N vc) N D) (hL : L9 wr va D) (hN : 1 ≤ N) {p : Int × Int} (hp : check9 ((D.map Ent9.o).drop 1) = p) : ∃ g, va = some ⟨g, 0, none⟩ ∧
    (vc = 1 → ∀ w1, Below wr.heap.size wr w1 → Calls Try.prog 8 #[.slice (some ⟨g, 0, none⟩) (N - 1) (vc - 1)] w1 fun e w' => e = .returned (ckV p) ∧ Below w1.heap.size w1 w') ∧
    (¬ vc = 1 → ∀ w1, Below wr.heap.size wr w1 → Calls Try.prog 8 #[.slice (some ⟨g, 6, none⟩) (N - 1) (vc - 1)] w1 fun e w' => e = .returned (ckV p) ∧ Below w1.heap.size w1 w') := by
  obtain ⟨g, hg, h1, h2⟩ := l9_drop hF hL hN
  have hl := hF.ox.1
  have hc := hF.ox.2.1
  have hd : (D.drop 1).length = N - 1 := by rw [List.length_drop, hl]
  refine ⟨g, hg, fun e w1 hb => ?_, fun e w1 hb => ?_⟩
  · have h := check_any9 (D.drop 1) (some ⟨g, 0, none⟩) (vc - 1) w1 ((h1 e).below hb) (by omega)
    rw [List.map_drop, hp, hd] at h
    exact h
  · have h := check_any9 (D.drop 1) (some ⟨g, 6, none⟩) (vc - 1) w1 ((h2 e).below hb) (by omega)
    rw [List.map_drop, hp, hd] at h
    exact h
end Go.Proofs.Ytlikpafjlojagaa
