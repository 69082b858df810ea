/- Layer 9, pure: what is checked has nothing missing. -/
import Derived.Test.YtlikpafjlojagaaNedA
namespace Go.Proofs.Ytlikpafjlojagaa
open Go.RowKit
set_option linter.unusedVariables false

theorem need_ge {n : Int} (h : 0 ≤ n ∧ n < 40) : (fld n).d = -1 ∨ 0 ≤ (fld n).d := by
  rcases forty h with rfl | rfl | rfl | rfl | rfl | rfl | rfl | rfl | rfl | rfl | rfl | rfl | rfl | rfl | rfl | rfl | rfl | rfl | rfl | rfl | rfl | rfl | rfl | rfl | rfl | rfl | rfl | rfl | rfl | rfl | rfl | rfl | rfl | rfl | rfl | rfl | rfl | rfl | rfl | rfl <;> decide
theorem good_any {l : List Ox9} (hg : Good9 [] l) {o : Ox9} (ho : o ∈ l) : met9 l o = true := by
  obtain ⟨k, hk, rfl⟩ := List.getElem_of_mem ho
  have := (hg k hk).2
  exact met_mono (fun x hx => List.mem_of_mem_take (by simpa using hx)) this
theorem has_of {l : List Ox9} {x : Ox9} (hx : x ∈ l) (hc : x.C = 32768) {n : Int} (hf : x.F = n) : has9 l n = true :=
  List.any_eq_true.2 ⟨x, hx, by simp [hc, hf]⟩
theorem asked_has {l : List Ox9} (hg : Good9 [] l) {n : Int} (k : Nat) : ∀ o ∈ l, o.C = 32768 → n ∈ needU k o.F → has9 l n = true := by
  induction k with
  | zero => intro o ho hc hn; simp [needU] at hn
  | succ k ih =>
    intro o ho hc hn
    have hm := good_any hg ho
    unfold needU at hn
    by_cases hq : (fld o.F).d = -1 ∨ ¬ (0 ≤ o.F ∧ o.F < 40)
    · rw [if_pos hq] at hn; simp at hn
    rw [if_neg hq] at hn
    have hF : 0 ≤ o.F ∧ o.F < 40 := Decidable.byContradiction fun h => hq (.inr h)
    have hd : 0 ≤ (fld o.F).d := by
      rcases need_ge hF with h | h
      · exact absurd (.inl h) hq
      · exact h
    have ha : asks9 o = true := by simp [asks9, hc, hF, hd]
    unfold met9 at hm
    rw [ha] at hm
    simp only [Bool.not_true, Bool.false_or] at hm
    obtain ⟨x, hx, hs⟩ := List.any_eq_true.1 hm
    unfold sat9 at hs
    simp only [Bool.and_eq_true, beq_iff_eq] at hs
    rcases List.mem_append.1 hn with h1 | h1
    · exact ih x hx hs.1 (by rw [hs.2.1]; exact h1)
    · exact has_of hx hs.1 (by rw [hs.2.1]; exact (List.mem_singleton.1 h1).symm)
theorem missing_nil {l : List Ox9} (h : (check9 l).2 = 0) : missing9 l = [] := by
  have hg := chk_good.1 h
  unfold missing9
  rw [List.filter_eq_nil_iff]
  intro n hn
  cases ha : asked9 l n
  · simp
  · obtain ⟨o, ho, hc⟩ := List.any_eq_true.1 ha
    simp only [Bool.and_eq_true, beq_iff_eq, List.contains_iff_mem] at hc
    rw [asked_has hg 4 o ho hc.1 hc.2]
    simp
theorem missing_sorted {l : List Ox9} (h : (check9 l).2 = 0) : missing9 (sort9 l) = [] := missing_nil (check_sorted h)
end Go.Proofs.Ytlikpafjlojagaa
