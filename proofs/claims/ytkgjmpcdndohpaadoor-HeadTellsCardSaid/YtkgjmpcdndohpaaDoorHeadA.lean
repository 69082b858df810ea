/- Package head and the document's heads: the least lengths, the types that are asked, whether a message may begin so. -/
import Derived.Test.YtkgjmpcdndohpaaDoorRowS
import Derived.Test.YtkgjmpcdndohpaaDoorBufS
namespace Go.Proofs.YtkgjmpcdndohpaaDoor
open Go.RowKit

/-- how many bytes a message of each type has at least -/
def leastT : List Int := [8, 12, 8, 8, 16, 8, 32, 8, 12, 12, 34, 56, 80, 24, 56, 16, 40, 16, 16, 16, 8, 8, 16, 16, 24, 24, 8, 32, 32, 16]
def leastL (t : Int) : Int := if 0 ≤ t ∧ t < 30 then leastT.getD t.toNat 0 else 0

/-- what the package-level variable holds that the program reads -/
structure HeadLaid (w : World) : Prop where
  least : ∀ i, i < 30 → w.cell? ⟨0, i, none⟩ = some (.int .i64 (leastT.getD i 0))
theorem HeadLaid.below {w w' : World} (h : HeadLaid w) (hb : Below w.heap.size w w') : HeadLaid w' := ⟨fun i hi => cell_keep (h.least i hi) hb⟩

theorem isType_any (t : Int) (w : World) :
    Calls Tryd.prog 28 #[.int .i64 t] w fun e w' => e = .returned (.bool (decide (0 ≤ t ∧ t < 30))) ∧ w = w' := by
  by_cases h0 : 0 ≤ t
  · have e : decide (0 ≤ t ∧ t < 30) = decide (t < 30) := by simp [h0]
    rw [e]
    clear e
    go_enter Tryd.func28, Tryd.ntmps28
    go_wp2
    go_ret
    exact ⟨rfl, rfl⟩
  · have e : decide (0 ≤ t ∧ t < 30) = false := by simp [h0]
    rw [e]
    clear e
    go_enter Tryd.func28, Tryd.ntmps28
    go_wp2
    go_ret
    exact ⟨rfl, rfl⟩

theorem least_any (t : Int) (w : World) (hL : HeadLaid w) :
    Calls Tryd.prog 16 #[.int .i64 t] w fun e w' => e = .returned (.int .i64 (leastL t)) ∧ w = w' := by
  by_cases h : 0 ≤ t ∧ t < 30
  · have e : leastL t = leastT.getD t.toNat 0 := by unfold leastL; rw [if_pos h]
    have hc := hL.least t.toNat (by omega)
    have hT := hid (isType_any t w)
    rw [show decide (0 ≤ t ∧ t < 30) = true by simp [h]] at hT
    obtain ⟨h0, h1⟩ := h
    go_enter Tryd.func16, Tryd.ntmps16
    go_wp2_with fail
    refine hT.out.mono ?_
    rintro e w' ⟨rfl, rfl⟩
    go_wp2_with fail
    rw [← List.getD_eq_getElem?_getD, ← e]
    go_ret
    exact ⟨rfl, rfl⟩
  · have e : leastL t = 0 := by unfold leastL; rw [if_neg h]
    have hT := hid (isType_any t w)
    rw [show decide (0 ≤ t ∧ t < 30) = false by simp [h]] at hT
    rw [e]
    clear h e
    go_enter Tryd.func16, Tryd.ntmps16
    go_wp2_with fail
    refine hT.out.mono ?_
    rintro e w' ⟨rfl, rfl⟩
    go_wp2
    go_ret
    exact ⟨rfl, rfl⟩

set_option maxHeartbeats 2000000 in
theorem refLeast_any (t : Int) (w : World) :
    Calls Tryd.prog 17 #[.int .i64 t] w fun e w' => e = .returned (.int .i64 (leastL t)) ∧ Below w.heap.size w w' := by
  rcases Int.lt_or_le t 0 with h0 | h0
  · have e : leastL t = 0 := by unfold leastL; rw [if_neg (by omega)]
    rw [e]
    clear e
    go_enter Tryd.func17, Tryd.ntmps17
    go_wp2_with fail
    go_ret
    exact ⟨rfl, below_alloc _ _⟩
  · rcases Int.lt_or_le t 30 with h1 | h1
    · have e : leastL t = leastT.getD t.toNat 0 := by unfold leastL; rw [if_pos (by omega)]
      go_enter Tryd.func17, Tryd.ntmps17
      go_wp2_with fail
      have hv : ([.int .i64 8, .int .i64 12, .int .i64 8, .int .i64 8, .int .i64 16, .int .i64 8, .int .i64 32, .int .i64 8, .int .i64 12, .int .i64 12, .int .i64 34, .int .i64 56, .int .i64 80, .int .i64 24, .int .i64 56, .int .i64 16, .int .i64 40, .int .i64 16, .int .i64 16, .int .i64 16, .int .i64 8, .int .i64 8, .int .i64 16, .int .i64 16, .int .i64 24, .int .i64 24, .int .i64 8, .int .i64 32, .int .i64 32, .int .i64 16] : List Value)[t.toNat]'(by simp; omega) = .int .i64 (leastL t) := by
        have e2 : ([.int .i64 8, .int .i64 12, .int .i64 8, .int .i64 8, .int .i64 16, .int .i64 8, .int .i64 32, .int .i64 8, .int .i64 12, .int .i64 12, .int .i64 34, .int .i64 56, .int .i64 80, .int .i64 24, .int .i64 56, .int .i64 16, .int .i64 40, .int .i64 16, .int .i64 16, .int .i64 16, .int .i64 8, .int .i64 8, .int .i64 16, .int .i64 16, .int .i64 24, .int .i64 24, .int .i64 8, .int .i64 32, .int .i64 32, .int .i64 16] : List Value) = leastT.map (Value.int .i64) := rfl
        simp only [e2, List.getElem_map]
        rw [e, List.getD_eq_getElem?_getD, List.getElem?_eq_getElem (show t.toNat < leastT.length by simp [leastT]; omega)]
        rfl
      rw [hv]
      go_ret
      exact ⟨rfl, below_alloc _ _⟩
    · have e : leastL t = 0 := by unfold leastL; rw [if_neg (by omega)]
      rw [e]
      clear e
      go_enter Tryd.func17, Tryd.ntmps17
      go_wp2_with fail
      go_ret
      exact ⟨rfl, below_alloc _ _⟩

theorem answer_some (t : Int) (h : t = 2 ∨ t = 5 ∨ t = 7 ∨ t = 18 ∨ t = 20 ∨ t = 22 ∨ t = 24 ∨ t = 26) (w : World) :
    Calls Tryd.prog 11 #[.int .i64 t] w fun e w' => e = .returned (.tuple #[.int .i64 (t + 1), .bool true]) ∧ w = w' := by
  rcases h with rfl | rfl | rfl | rfl | rfl | rfl | rfl | rfl
  all_goals
    go_enter Tryd.func11, Tryd.ntmps11
    go_wp2
    go_ret2
  all_goals exact ⟨rfl, rfl⟩
theorem answer_none (t : Int) (h : ¬ (t = 2 ∨ t = 5 ∨ t = 7 ∨ t = 18 ∨ t = 20 ∨ t = 22 ∨ t = 24 ∨ t = 26)) (w : World) :
    Calls Tryd.prog 11 #[.int .i64 t] w fun e w' => e = .returned (.tuple #[.int .i64 0, .bool false]) ∧ w = w' := by
  have c0 : (t == 2) = false := by simp; omega
  have c1 : (t == 5) = false := by simp; omega
  have c2 : (t == 7) = false := by simp; omega
  have c3 : (t == 18) = false := by simp; omega
  have c4 : (t == 20) = false := by simp; omega
  have c5 : (t == 22) = false := by simp; omega
  have c6 : (t == 24) = false := by simp; omega
  have c7 : (t == 26) = false := by simp; omega
  clear h
  go_enter Tryd.func11, Tryd.ntmps11
  go_wp2
  go_ret2
  exact ⟨rfl, rfl⟩
theorem refAnswer_some (t : Int) (h : t = 2 ∨ t = 5 ∨ t = 7 ∨ t = 18 ∨ t = 20 ∨ t = 22 ∨ t = 24 ∨ t = 26) (w : World) :
    Calls Tryd.prog 12 #[.int .i64 t] w fun e w' => e = .returned (.tuple #[.int .i64 (t + 1), .bool true]) ∧ w = w' := by
  rcases h with rfl | rfl | rfl | rfl | rfl | rfl | rfl | rfl
  all_goals
    go_enter Tryd.func12, Tryd.ntmps12
    go_wp2
    go_ret2
  all_goals exact ⟨rfl, rfl⟩
theorem refAnswer_none (t : Int) (h : ¬ (t = 2 ∨ t = 5 ∨ t = 7 ∨ t = 18 ∨ t = 20 ∨ t = 22 ∨ t = 24 ∨ t = 26)) (w : World) :
    Calls Tryd.prog 12 #[.int .i64 t] w fun e w' => e = .returned (.tuple #[.int .i64 0, .bool false]) ∧ w = w' := by
  have c0 : (t == 2) = false := by simp; omega
  have c1 : (t == 5) = false := by simp; omega
  have c2 : (t == 7) = false := by simp; omega
  have c3 : (t == 18) = false := by simp; omega
  have c4 : (t == 20) = false := by simp; omega
  have c5 : (t == 22) = false := by simp; omega
  have c6 : (t == 24) = false := by simp; omega
  have c7 : (t == 26) = false := by simp; omega
  clear h
  go_enter Tryd.func12, Tryd.ntmps12
  go_wp2
  go_ret2
  exact ⟨rfl, rfl⟩
end Go.Proofs.YtkgjmpcdndohpaaDoor
