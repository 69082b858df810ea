/- Masks: how many bits are 1, and whether all are. -/
import Derived.Test.YtfogpofgmnibcaaOxmC
namespace Go.Proofs.Ytfogpofgmnibcaa
open Go.RowKit
set_option linter.unusedVariables false

theorem pops_count (m : List Int) : pops m = (List.range (8 * m.length)).countP fun i => bitOn i (m.getD (m.length - 1 - i / 8) 0) := by
  induction m with
  | nil => rfl
  | cons x r ih =>
    rw [List.length_cons, show 8 * (r.length + 1) = 8 * r.length + 8 by omega, List.range_add, List.countP_append, List.countP_map]
    have e1 : (List.range (8 * r.length)).countP (fun i => bitOn i ((x :: r).getD (r.length + 1 - 1 - i / 8) 0)) = pops r := by
      rw [ih]
      refine List.countP_congr fun i hi => ?_
      have hi' : i < 8 * r.length := by simpa using hi
      have : r.length + 1 - 1 - i / 8 = (r.length - 1 - i / 8) + 1 := by omega
      rw [this, List.getD_cons_succ]
    have e2 : (List.range 8).countP ((fun i => bitOn i ((x :: r).getD (r.length + 1 - 1 - i / 8) 0)) ∘ fun t => 8 * r.length + t) = popB x := by
      unfold popB
      refine List.countP_congr fun t ht => ?_
      have ht' : t < 8 := by simpa using ht
      simp only [Function.comp]
      have : r.length + 1 - 1 - (8 * r.length + t) / 8 = 0 := by omega
      rw [this, List.getD_cons_zero, ← bitOn_mod, show (8 * r.length + t) % 8 = t by omega]
    rw [e1, e2]
    simp [pops]
    omega

theorem pop_zero_table : ∀ p : Fin 256, (popB (p.val : Int) == 0) = ((p.val : Int) == 0) := by decide +kernel
theorem pop_zero {p : Int} (h0 : 0 ≤ p) (h1 : p ≤ 255) : (popB p == 0) = (p == 0) := by
  obtain ⟨q, rfl⟩ := Int.eq_ofNat_of_zero_le h0
  exact pop_zero_table ⟨q, by omega⟩
theorem zeros_pops {m : List Int} (om : Octets m) : zeros m = decide (pops m = 0) := by
  induction m with
  | nil => rfl
  | cons x r ih =>
    have hx := om x (by simp)
    have ir := ih (fun y hy => om y (by simp [hy]))
    have e := pop_zero hx.1 hx.2
    have e3 : pops (x :: r) = popB x + pops r := by simp [pops]
    have e4 : zeros (x :: r) = ((x == 0) && zeros r) := by simp [zeros]
    rw [e3, e4, ir, ← e]
    by_cases h1 : popB x = 0 <;> by_cases h2 : pops r = 0 <;> simp [h1, h2]

/-- where no bit above the lowest n is 1: all of these are 1, if just as many are -/
theorem ones_pops {m : List Int} {n : Nat} (hn : n ≤ 8 * m.length) (hf : ∀ k, n ≤ k → k < 8 * m.length → bitOn k (m.getD (m.length - 1 - k / 8) 0) = false) : onesB m n = decide (pops m = n) := by
  rw [pops_count]
  obtain ⟨d, hd⟩ : ∃ d, 8 * m.length = n + d := ⟨8 * m.length - n, by omega⟩
  rw [hd, List.range_add, List.countP_append, List.countP_map]
  have e2 : (List.range d).countP ((fun i => bitOn i (m.getD (m.length - 1 - i / 8) 0)) ∘ fun t => n + t) = 0 := by
    rw [List.countP_eq_zero]
    intro t ht
    have ht' : t < d := by simpa using ht
    simp only [Function.comp]
    rw [hf (n + t) (by omega) (by omega)]
    simp
  rw [e2, Nat.add_zero]
  have e := List.countP_eq_length (p := fun i => bitOn i (m.getD (m.length - 1 - i / 8) 0)) (l := List.range n)
  rw [List.length_range] at e
  rw [Bool.eq_iff_iff, decide_eq_true_eq, e]
  unfold onesB
  rw [List.all_eq_true]
theorem ones_all {m : List Int} : onesB m (8 * m.length) = decide (pops m = 8 * m.length) := ones_pops (Nat.le_refl _) (fun k h1 h2 => by omega)
/-- a mask that fits its field has no bit above the field's -/
theorem fits_above {n : Int} {m : List Int} (h : fitsB n m = true) (om : Octets m) : (fld n).b.toNat ≤ 8 * m.length ∧ m.length = (fld n).z ∧ (0 ≤ n ∧ n < 40) ∧ 0 ≤ (fld n).b ∧ ∀ k, (fld n).b.toNat ≤ k → k < 8 * m.length → bitOn k (m.getD (m.length - 1 - k / 8) 0) = false := by
  unfold fitsB at h
  simp only [Bool.and_eq_true, decide_eq_true_eq] at h
  obtain ⟨⟨hn, hl⟩, hf⟩ := h
  obtain ⟨b0, b1, b2, b3⟩ := fld_dims hn
  refine ⟨by omega, hl, hn, b0, fun k h1 h2 => ?_⟩
  cases hb : bitOn k (m.getD (m.length - 1 - k / 8) 0)
  · rfl
  · exfalso
    rw [hl] at hb
    have := fitV_bit (A := (8 * ((fld n).z : Int) - (fld n).b).toNat) (b := (fld n).b) om hl (by omega) (k := k) (by omega) (by omega) hb
    rw [this] at hf
    exact absurd hf (by simp)
end Go.Proofs.Ytfogpofgmnibcaa
