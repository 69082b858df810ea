/- Package action and the document's actions: a type's row; its error; an action's numbers. -/
import Derived.Test.YtaddhahghglabaaActB
import Derived.Deep.RegionWith
namespace Go.Proofs.Ytaddhahghglabaa
open Go.RowKit
set_option linter.unusedVariables false

/-- what is told of a type: its row, and whether there is one -/
def RowPost12 (l : List Int) (b : Bool) (w : World) (e : Ending) (w' : World) : Prop :=
  ∃ a, e = .returned (.tuple #[.slice a l.length l.length, .bool b]) ∧ Ints .i64 w' a l ∧ Below w.heap.size w w'
theorem row_lit {f : Nat} {t : Int} {l : List Int} {w : World} (h : callV Try.prog w.heap.size f #[.int .i64 t] = some (.tuple #[.slice (some ⟨w.heap.size, 0, none⟩) l.length l.length, .bool true], [.cells (l.map (Value.int .i64)).toArray 3])) :
    Calls Try.prog f #[.int .i64 t] w (RowPost12 l true w) :=
  (callV_sound h).mono fun e w' ⟨he, hw⟩ => ⟨_, he, by rw [hw]; exact ints_lit .i64 w l 3, by rw [hw]; exact below_alloc _ _⟩
theorem row_none {f : Nat} {t : Int} {b : Bool} {w : World} (h : callV Try.prog w.heap.size f #[.int .i64 t] = some (.tuple #[.slice none 0 0, .bool b], [])) :
    Calls Try.prog f #[.int .i64 t] w (RowPost12 [] b w) :=
  (callV_sound h).mono fun e w' ⟨he, hw⟩ => ⟨none, he, Ints.nil _ _ _, by rw [hw]; exact Below.refl _ _⟩
set_option maxRecDepth 100000 in
set_option maxHeartbeats 2000000 in
theorem rowOf_any (t : Int) (w : World) : Calls Try.prog 20 #[.int .i64 t] w (RowPost12 (rowP t) (rowB t) w) := by
  rcases type_ways t with rfl | rfl | rfl | rfl | rfl | rfl | rfl | rfl | rfl | rfl | rfl | rfl | rfl | rfl | rfl | rfl | rfl | h
  · exact row_lit (l := [4, 2, -6]) (by kernel_rfl)
  · exact row_lit (l := [-4]) (by kernel_rfl)
  · exact row_lit (l := [-4]) (by kernel_rfl)
  · exact row_lit (l := [1, -3]) (by kernel_rfl)
  · exact row_lit (l := [-4]) (by kernel_rfl)
  · exact row_lit (l := [2, -2]) (by kernel_rfl)
  · exact row_lit (l := [-4]) (by kernel_rfl)
  · exact row_lit (l := [2, -2]) (by kernel_rfl)
  · exact row_lit (l := [2, -2]) (by kernel_rfl)
  · exact row_lit (l := [4]) (by kernel_rfl)
  · exact row_lit (l := [4]) (by kernel_rfl)
  · exact row_lit (l := [1, -3]) (by kernel_rfl)
  · exact row_lit (l := [-4]) (by kernel_rfl)
  · exact row_none (by kernel_rfl)
  · exact row_lit (l := [2, -2]) (by kernel_rfl)
  · exact row_lit (l := [-4]) (by kernel_rfl)
  · exact row_lit (l := [4]) (by kernel_rfl)
  · have e1 : rowP t = [] := by simp [rowP, row12, h]
    have e2 : rowB t = false := by simp [rowB, row12, h]
    rw [e1, e2]
    have c0 : (t == 0) = false := by simp [h]
    have c1 : (t == 11) = false := by simp [h]
    have c2 : (t == 12) = false := by simp [h]
    have c3 : (t == 15) = false := by simp [h]
    have c4 : (t == 16) = false := by simp [h]
    have c5 : (t == 17) = false := by simp [h]
    have c6 : (t == 18) = false := by simp [h]
    have c7 : (t == 19) = false := by simp [h]
    have c8 : (t == 20) = false := by simp [h]
    have c9 : (t == 21) = false := by simp [h]
    have c10 : (t == 22) = false := by simp [h]
    have c11 : (t == 23) = false := by simp [h]
    have c12 : (t == 24) = false := by simp [h]
    have c13 : (t == 25) = false := by simp [h]
    have c14 : (t == 26) = false := by simp [h]
    have c15 : (t == 27) = false := by simp [h]
    have c16 : (t == 65535) = false := by simp [h]
    clear h e1 e2
    go_enter Try.func20, Try.ntmps20
    go_wp2_with fail
    go_ret2
    exact ⟨none, rfl, Ints.nil _ _ _, Below.refl _ _⟩
theorem setError_any (q : Int) (w : World) : Calls Try.prog 72 #[.int .i64 q] w fun e w' => e = .returned (.int .i64 (if q = 1026 then 527 else if q = 1031 then 526 else 528)) ∧ w' = w := by
  rcases (show q = 1026 ∨ q = 1031 ∨ (q ≠ 1026 ∧ q ≠ 1031) by omega) with rfl | rfl | ⟨h0, h1⟩
  · exact callV_sound (os := []) (by kernel_rfl)
  · exact callV_sound (os := []) (by kernel_rfl)
  · rw [if_neg h0, if_neg h1]
    have c0 : (q == 1026) = false := by simp [h0]
    have c1 : (q == 1031) = false := by simp [h1]
    clear h0 h1
    go_enter Try.func72, Try.ntmps72
    go_wp2_with fail
    go_ret
    exact ⟨rfl, rfl⟩
end Go.Proofs.Ytaddhahghglabaa
