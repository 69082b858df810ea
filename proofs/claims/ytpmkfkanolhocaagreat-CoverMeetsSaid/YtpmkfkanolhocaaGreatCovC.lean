/- Layer 11, pure: values that are held against one another, and put together. -/
import Derived.Test.YtpmkfkanolhocaaGreatCovB
namespace Go.Proofs.YtpmkfkanolhocaaGreat
open Go.RowKit
set_option linter.unusedVariables false
set_option maxRecDepth 100000

/-- a bit of a value's mask, of a value -/
def mb (o : Ox9) (k : Nat) : Bool := bit11 (mask11 o) k
def vb (o : Ox9) (k : Nat) : Bool := bit11 o.v k
section
variable {o : Ox9}
theorem mb_none (h : o.H = false) {k : Nat} (hk : k < 8 * o.v.length) : mb o k = true := by
  unfold mb mask11
  rw [h]
  exact bit_ones hk
/-- the value has no 1 where its mask has none -/
theorem OkV.inside (h : OkV o) {k : Nat} (hk : k < 8 * o.v.length) (hv : vb o k = true) : mb o k = true := by
  cases hH : o.H
  · exact mb_none hH hk
  · have hm := h.ml
    have hin : insideB o.v o.m = true := by
      rcases h.parts with ⟨_, _, hp⟩ | ⟨_, hp⟩
      · have := (hp hH).2
        unfold maskE at this
        split at this
        · cases this
        · split at this
          · assumption
          · cases this
      · have := hp hH
        unfold maskE at this
        split at this
        · cases this
        · split at this
          · assumption
          · cases this
    have e : mask11 o = o.m := by unfold mask11; rw [hH]; rfl
    rw [e] at hm
    have hs : ((List.range o.v.length).all (fun i => sub1 (o.v.getD i 0) (o.m.getD i 0)) = true) := by
      unfold insideB at hin
      rw [List.all_eq_true] at hin ⊢
      intro i hi
      have := hin i hi
      unfold outB at this
      unfold sub1
      simpa using this
    unfold mb
    rw [e]
    exact (sub_list rfl hm h.ov h.om).1 hs k hk hv
/-- of the class Basic: neither has a 1 above the field's bits -/
theorem OkV.above (h : OkV o) (hC : o.C = 32768) {k : Nat} (hk : k < 8 * o.v.length) (hn : nbits11 o ≤ k) : vb o k = false ∧ (o.H = true → mb o k = false) := by
  unfold nbits11 at hn
  rw [if_pos hC] at hn
  rcases h.parts with ⟨_, hf, hp⟩ | ⟨hc, _⟩
  · obtain ⟨_, _, _, _, h5⟩ := fits_above hf h.ov
    refine ⟨h5 k hn hk, fun hH => ?_⟩
    have e : mask11 o = o.m := by unfold mask11; rw [hH]; rfl
    have hm := h.ml
    rw [e] at hm
    obtain ⟨_, _, _, _, h6⟩ := fits_above (hp hH).1 h.om
    unfold mb
    rw [e]
    exact h6 k hn (by omega)
  · rw [hC] at hc; cases hc
theorem OkV.nb (h : OkV o) : nbits11 o ≤ 8 * o.v.length := by
  unfold nbits11
  split
  · rename_i hC
    rcases h.parts with ⟨_, hf, _⟩ | ⟨hc, _⟩
    · exact (fits_above hf h.ov).1
    · rw [hC] at hc; cases hc
  · exact Nat.le_refl _
theorem nb_extra (hC : o.C ≠ 32768) : nbits11 o = 8 * o.v.length := by unfold nbits11; rw [if_neg hC]
/-- a mask is never all ones -/
theorem OkV.some (h : OkV o) (hH : o.H = true) : onesB o.m (nbits11 o) = false := by
  have e : mask11 o = o.m := by unfold mask11; rw [hH]; rfl
  have hm := h.ml
  rw [e] at hm
  have key : ∀ n : Nat, maskE o.v o.m n = 0 → pops o.m ≠ n := by
    intro n hz hp
    unfold maskE at hz
    rw [if_pos (.inr (by rw [hp]))] at hz
    cases hz
  rcases h.parts with ⟨hC, hf, hp⟩ | ⟨hC, hp⟩
  · obtain ⟨f1, f2⟩ := hp hH
    obtain ⟨g1, _, _, g4, g5⟩ := fits_above f1 h.om
    have hn : nbits11 o = (fld o.F).b.toNat := by unfold nbits11; rw [if_pos hC]
    rw [hn, ones_pops g1 g5, decide_eq_false_iff_not]
    have hb : ((fld o.F).b.toNat : Int) = (fld o.F).b := by omega
    rw [← hb] at f2
    exact key _ f2
  · have hn : nbits11 o = 8 * o.m.length := by unfold nbits11; rw [if_neg (by rw [hC]; decide), hm]
    rw [hn, ones_all, decide_eq_false_iff_not]
    have := hp hH
    exact key _ (by rw [← this]; push_cast; rfl)
end
end Go.Proofs.YtpmkfkanolhocaaGreat
