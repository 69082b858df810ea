/- Package fault and the document's faults: the codes of a type, the error of a pair. -/
import Derived.Test.YtlglgkigcompdaaDoorBase
namespace Go.Proofs.YtlglgkigcompdaaDoor
open Go.RowKit

/-- how many codes each type has -/
def codesT : List Int := [2, 14, 16, 10, 12, 8, 15, 5, 3, 3, 3, 3, 12, 6]
def codesL (t : Int) : Int := if 0 ≤ t then codesT.getD t.toNat 0 else 0

theorem codesL_out {t : Int} (h : t < 0 ∨ 13 < t) : codesL t = 0 := by
  unfold codesL
  split
  · have : 14 ≤ t.toNat := by omega
    rw [List.getD_eq_getElem?_getD, List.getElem?_eq_none (by simp [codesT]; omega)]; rfl
  · rfl
theorem codesL_bound (t : Int) : 0 ≤ codesL t ∧ codesL t ≤ 16 := by
  rcases (show t = 0 ∨ t = 1 ∨ t = 2 ∨ t = 3 ∨ t = 4 ∨ t = 5 ∨ t = 6 ∨ t = 7 ∨ t = 8 ∨ t = 9 ∨ t = 10 ∨ t = 11 ∨ t = 12 ∨ t = 13 ∨ (t < 0 ∨ 13 < t) from by omega) with rfl | rfl | rfl | rfl | rfl | rfl | rfl | rfl | rfl | rfl | rfl | rfl | rfl | rfl | h
  all_goals first | decide | (rw [codesL_out h]; decide)

theorem codes_any (t : Int) (w : World) :
    Calls Tryd.prog 10 #[.int .i64 t] w fun e w' => e = .returned (.int .i64 (codesL t)) ∧ w = w' := by
  rcases (show t = 0 ∨ t = 1 ∨ t = 2 ∨ t = 3 ∨ t = 4 ∨ t = 5 ∨ t = 6 ∨ t = 7 ∨ t = 8 ∨ t = 9 ∨ t = 10 ∨ t = 11 ∨ t = 12 ∨ t = 13 ∨ (t < 0 ∨ 13 < t) from by omega) with rfl | rfl | rfl | rfl | rfl | rfl | rfl | rfl | rfl | rfl | rfl | rfl | rfl | rfl | h
  case' inr.inr.inr.inr.inr.inr.inr.inr.inr.inr.inr.inr.inr.inr =>
    have c0 : (t == 0) = false := by simp; omega
    have c1 : (t == 1) = false := by simp; omega
    have c2 : (t == 2) = false := by simp; omega
    have c3 : (t == 3) = false := by simp; omega
    have c4 : (t == 4) = false := by simp; omega
    have c5 : (t == 5) = false := by simp; omega
    have c6 : (t == 6) = false := by simp; omega
    have c7 : (t == 7) = false := by simp; omega
    have c8 : (t == 8) = false := by simp; omega
    have c9 : (t == 9) = false := by simp; omega
    have c10 : (t == 10) = false := by simp; omega
    have c11 : (t == 11) = false := by simp; omega
    have c12 : (t == 12) = false := by simp; omega
    have c13 : (t == 13) = false := by simp; omega
    have H := hid (codesL_out h)
    clear h
  all_goals
    go_enter Tryd.func10, Tryd.ntmps10
    go_wp2
    go_ret
  all_goals first | exact ⟨ret_int (by decide), rfl⟩ | exact ⟨ret_int H.out.symm, rfl⟩

/-- the error of a type and a code; 0, if there is none -/
def makeL (t c : Int) : Int := if 0 ≤ c ∧ c < codesL t then 256 * t + c + 1 else 0
def madeL (t c : Int) : Bool := decide (0 ≤ c ∧ c < codesL t)

theorem codesL_in {t c : Int} (h0 : 0 ≤ c) (h1 : c < codesL t) : 0 ≤ t ∧ t ≤ 13 ∧ c < 16 := by
  have hb := (codesL_bound t).2
  rcases Int.lt_or_le t 0 with h | h
  · rw [codesL_out (.inl h)] at h1; omega
  · rcases Int.lt_or_le 13 t with h' | h'
    · rw [codesL_out (.inr h')] at h1; omega
    · omega

theorem make_any (t c : Int) (w : World) :
    Calls Tryd.prog 6 #[.int .i64 t, .int .i64 c] w fun e w' => e = .returned (.tuple #[.int .i64 (makeL t c), .bool (madeL t c)]) ∧ w = w' := by
  rcases Int.lt_or_le c 0 with h0 | h0
  · have e1 : makeL t c = 0 := by unfold makeL; rw [if_neg (by omega)]
    have e2 : madeL t c = false := by unfold madeL; simp; omega
    rw [e1, e2]
    clear e1 e2
    go_enter Tryd.func6, Tryd.ntmps6
    go_wp2
    go_ret2
    exact ⟨rfl, rfl⟩
  · rcases Int.lt_or_le c (codesL t) with h1 | h1
    · have e1 : makeL t c = 256 * t + c + 1 := by unfold makeL; rw [if_pos (by omega)]
      have e2 : madeL t c = true := by unfold madeL; simp; omega
      rw [e1, e2]
      clear e1 e2
      obtain ⟨b0, b1, b2⟩ := codesL_in h0 h1
      go_enter Tryd.func6, Tryd.ntmps6
      go_wp2_with (go_at_call 10; refine (codes_any _ _).mono ?_; rintro e w' ⟨rfl, rfl⟩)
      go_ret2
      exact ⟨by congr, rfl⟩
    · have e1 : makeL t c = 0 := by unfold makeL; rw [if_neg (by omega)]
      have e2 : madeL t c = false := by unfold madeL; simp; omega
      rw [e1, e2]
      clear e1 e2
      go_enter Tryd.func6, Tryd.ntmps6
      go_wp2_with (go_at_call 10; refine (codes_any _ _).mono ?_; rintro e w' ⟨rfl, rfl⟩)
      go_ret2
      exact ⟨rfl, rfl⟩
end Go.Proofs.YtlglgkigcompdaaDoor
