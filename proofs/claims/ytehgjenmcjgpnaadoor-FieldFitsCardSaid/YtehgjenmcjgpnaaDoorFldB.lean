/- Package field: what a field asks for, where it is appended. -/
import Derived.Test.YtehgjenmcjgpnaaDoorFldA
namespace Go.Proofs.YtehgjenmcjgpnaaDoor
open Go.RowKit

theorem app_one {e : TypeId} {w w1 : World} {o : Obj} {a1 : Option Addr} {c1 : Nat} {l : List Int} (hg : Grew e (w.alloc o) w1 (.slice none 0 0) (.slice a1 l.length c1) (l.map (Value.int .u64))) :
    Below w.heap.size w w1 ∧ ∀ g, (Value.slice a1 l.length c1).ownBlock = some g → w.heap.size ≤ g := by
  have h0 : ∀ g, (Value.slice none 0 0).ownBlock = some g → w.heap.size ≤ g := by intro g hg; simp [Value.ownBlock] at hg
  exact ⟨(below_alloc w o).trans (hg.below (by simp) h0), hg.base (by simp) h0⟩
theorem app_two {e : TypeId} {w w1 w2 : World} {o o2 : Obj} {a1 a2 : Option Addr} {c1 c2 : Nat} {l m : List Int} (hg : Grew e (w.alloc o) w1 (.slice none 0 0) (.slice a1 l.length c1) (l.map (Value.int .u64)))
    (hg2 : Grew e (w1.alloc o2) w2 (.slice a1 l.length c1) (.slice a2 m.length c2) (m.map (Value.int .u64))) : Below w.heap.size w w2 ∧ ∀ g, (Value.slice a2 m.length c2).ownBlock = some g → w.heap.size ≤ g := by
  obtain ⟨h1, h2⟩ := app_one hg
  have h3 := h1.size
  exact ⟨(h1.alloc h3 o2).trans (hg2.below (by simp; omega) h2), hg2.base (by simp; omega) h2⟩

set_option maxRecDepth 100000 in
set_option maxHeartbeats 2000000 in
theorem asked_26 (w : World) :
    Calls Tryd.prog 21 #[.int .i64 26] w fun e w' => ∃ v, e = .returned (.tuple #[.int .i64 5, v]) ∧ U64s7 w' v [34525] ∧ New7 w v ∧ Below w.heap.size w w' := by
  go_enter Tryd.func21, Tryd.ntmps21
  refine its_wp ?_
  repeat (first
    | refine its_seq ?_ | refine its_block ?_ | refine its_out ?_ | refine its_skip ?_ | refine its_exit rfl ?_ | refine its_true rfl ?_ | refine its_false rfl ?_
    | (refine its_code ?_; (repeat (first | go_skip | go_guarded | (at_builtin; refine wp_app_ints (v := .slice none 0 0) rfl _ _ rfl elemFld rfl (own_nilI _ _ .u64) rfl (l := [34525]) rfl (ints_lit .u64 _ [34525] 42) (ys := [34525]) rfl (by decide) (by decide) ?_; intro a1 c1 w1 _ _ hI1 hg1) | go_step | go_upon | go_in)); refine ⟨rfl, ?_⟩))
  refine its_ret ?_
  go_ret2
  exact ⟨_, rfl, ⟨_, _, rfl, hI1⟩, (app_one hg1).2, (app_one hg1).1⟩
set_option maxRecDepth 100000 in
set_option maxHeartbeats 2000000 in
theorem asked_27 (w : World) :
    Calls Tryd.prog 21 #[.int .i64 27] w fun e w' => ∃ v, e = .returned (.tuple #[.int .i64 5, v]) ∧ U64s7 w' v [34525] ∧ New7 w v ∧ Below w.heap.size w w' := by
  go_enter Tryd.func21, Tryd.ntmps21
  refine its_wp ?_
  repeat (first
    | refine its_seq ?_ | refine its_block ?_ | refine its_out ?_ | refine its_skip ?_ | refine its_exit rfl ?_ | refine its_true rfl ?_ | refine its_false rfl ?_
    | (refine its_code ?_; (repeat (first | go_skip | go_guarded | (at_builtin; refine wp_app_ints (v := .slice none 0 0) rfl _ _ rfl elemFld rfl (own_nilI _ _ .u64) rfl (l := [34525]) rfl (ints_lit .u64 _ [34525] 42) (ys := [34525]) rfl (by decide) (by decide) ?_; intro a1 c1 w1 _ _ hI1 hg1) | go_step | go_upon | go_in)); refine ⟨rfl, ?_⟩))
  refine its_ret ?_
  go_ret2
  exact ⟨_, rfl, ⟨_, _, rfl, hI1⟩, (app_one hg1).2, (app_one hg1).1⟩
set_option maxRecDepth 100000 in
set_option maxHeartbeats 2000000 in
theorem asked_28 (w : World) :
    Calls Tryd.prog 21 #[.int .i64 28] w fun e w' => ∃ v, e = .returned (.tuple #[.int .i64 5, v]) ∧ U64s7 w' v [34525] ∧ New7 w v ∧ Below w.heap.size w w' := by
  go_enter Tryd.func21, Tryd.ntmps21
  refine its_wp ?_
  repeat (first
    | refine its_seq ?_ | refine its_block ?_ | refine its_out ?_ | refine its_skip ?_ | refine its_exit rfl ?_ | refine its_true rfl ?_ | refine its_false rfl ?_
    | (refine its_code ?_; (repeat (first | go_skip | go_guarded | (at_builtin; refine wp_app_ints (v := .slice none 0 0) rfl _ _ rfl elemFld rfl (own_nilI _ _ .u64) rfl (l := [34525]) rfl (ints_lit .u64 _ [34525] 42) (ys := [34525]) rfl (by decide) (by decide) ?_; intro a1 c1 w1 _ _ hI1 hg1) | go_step | go_upon | go_in)); refine ⟨rfl, ?_⟩))
  refine its_ret ?_
  go_ret2
  exact ⟨_, rfl, ⟨_, _, rfl, hI1⟩, (app_one hg1).2, (app_one hg1).1⟩
set_option maxRecDepth 100000 in
set_option maxHeartbeats 2000000 in
theorem asked_39 (w : World) :
    Calls Tryd.prog 21 #[.int .i64 39] w fun e w' => ∃ v, e = .returned (.tuple #[.int .i64 5, v]) ∧ U64s7 w' v [34525] ∧ New7 w v ∧ Below w.heap.size w w' := by
  go_enter Tryd.func21, Tryd.ntmps21
  refine its_wp ?_
  repeat (first
    | refine its_seq ?_ | refine its_block ?_ | refine its_out ?_ | refine its_skip ?_ | refine its_exit rfl ?_ | refine its_true rfl ?_ | refine its_false rfl ?_
    | (refine its_code ?_; (repeat (first | go_skip | go_guarded | (at_builtin; refine wp_app_ints (v := .slice none 0 0) rfl _ _ rfl elemFld rfl (own_nilI _ _ .u64) rfl (l := [34525]) rfl (ints_lit .u64 _ [34525] 42) (ys := [34525]) rfl (by decide) (by decide) ?_; intro a1 c1 w1 _ _ hI1 hg1) | go_step | go_upon | go_in)); refine ⟨rfl, ?_⟩))
  refine its_ret ?_
  go_ret2
  exact ⟨_, rfl, ⟨_, _, rfl, hI1⟩, (app_one hg1).2, (app_one hg1).1⟩
set_option maxRecDepth 100000 in
set_option maxHeartbeats 2000000 in
theorem asked_8 (w : World) :
    Calls Tryd.prog 21 #[.int .i64 8] w fun e w' => ∃ v, e = .returned (.tuple #[.int .i64 5, v]) ∧ U64s7 w' v [2048, 34525] ∧ New7 w v ∧ Below w.heap.size w w' := by
  go_enter Tryd.func21, Tryd.ntmps21
  refine its_wp ?_
  repeat (first
    | refine its_seq ?_ | refine its_block ?_ | refine its_out ?_ | refine its_skip ?_ | refine its_exit rfl ?_ | refine its_true rfl ?_ | refine its_false rfl ?_
    | (refine its_code ?_; (repeat (first | go_skip | go_guarded | (at_builtin; refine wp_app_ints (v := .slice none 0 0) rfl _ _ rfl elemFld rfl (own_nilI _ _ .u64) rfl (l := [2048]) rfl (ints_lit .u64 _ [2048] 42) (ys := [2048]) rfl (by decide) (by decide) ?_; intro a1 c1 w1 _ _ hI1 hg1) | go_step | go_upon | go_in)); refine ⟨rfl, ?_⟩))
  refine its_code ?_
  repeat (first | go_skip | go_guarded | (at_builtin; refine wp_app_ints rfl _ _ rfl elemFld rfl (hg1.behind (by_none_alloc _ _)).own rfl (l := [34525]) rfl (ints_lit .u64 _ [34525] 42) (ys := [2048, 34525]) rfl (by decide) (by decide) ?_; intro a2 c2 w2 _ _ hI2 hg2) | go_step | go_upon | go_in)
  refine ⟨rfl, ?_⟩
  refine its_ret ?_
  go_ret2
  exact ⟨_, rfl, ⟨_, _, rfl, hI2⟩, (app_two hg1 hg2).2, (app_two hg1 hg2).1⟩
set_option maxRecDepth 100000 in
set_option maxHeartbeats 2000000 in
theorem asked_9 (w : World) :
    Calls Tryd.prog 21 #[.int .i64 9] w fun e w' => ∃ v, e = .returned (.tuple #[.int .i64 5, v]) ∧ U64s7 w' v [2048, 34525] ∧ New7 w v ∧ Below w.heap.size w w' := by
  go_enter Tryd.func21, Tryd.ntmps21
  refine its_wp ?_
  repeat (first
    | refine its_seq ?_ | refine its_block ?_ | refine its_out ?_ | refine its_skip ?_ | refine its_exit rfl ?_ | refine its_true rfl ?_ | refine its_false rfl ?_
    | (refine its_code ?_; (repeat (first | go_skip | go_guarded | (at_builtin; refine wp_app_ints (v := .slice none 0 0) rfl _ _ rfl elemFld rfl (own_nilI _ _ .u64) rfl (l := [2048]) rfl (ints_lit .u64 _ [2048] 42) (ys := [2048]) rfl (by decide) (by decide) ?_; intro a1 c1 w1 _ _ hI1 hg1) | go_step | go_upon | go_in)); refine ⟨rfl, ?_⟩))
  refine its_code ?_
  repeat (first | go_skip | go_guarded | (at_builtin; refine wp_app_ints rfl _ _ rfl elemFld rfl (hg1.behind (by_none_alloc _ _)).own rfl (l := [34525]) rfl (ints_lit .u64 _ [34525] 42) (ys := [2048, 34525]) rfl (by decide) (by decide) ?_; intro a2 c2 w2 _ _ hI2 hg2) | go_step | go_upon | go_in)
  refine ⟨rfl, ?_⟩
  refine its_ret ?_
  go_ret2
  exact ⟨_, rfl, ⟨_, _, rfl, hI2⟩, (app_two hg1 hg2).2, (app_two hg1 hg2).1⟩
set_option maxRecDepth 100000 in
set_option maxHeartbeats 2000000 in
theorem asked_10 (w : World) :
    Calls Tryd.prog 21 #[.int .i64 10] w fun e w' => ∃ v, e = .returned (.tuple #[.int .i64 5, v]) ∧ U64s7 w' v [2048, 34525] ∧ New7 w v ∧ Below w.heap.size w w' := by
  go_enter Tryd.func21, Tryd.ntmps21
  refine its_wp ?_
  repeat (first
    | refine its_seq ?_ | refine its_block ?_ | refine its_out ?_ | refine its_skip ?_ | refine its_exit rfl ?_ | refine its_true rfl ?_ | refine its_false rfl ?_
    | (refine its_code ?_; (repeat (first | go_skip | go_guarded | (at_builtin; refine wp_app_ints (v := .slice none 0 0) rfl _ _ rfl elemFld rfl (own_nilI _ _ .u64) rfl (l := [2048]) rfl (ints_lit .u64 _ [2048] 42) (ys := [2048]) rfl (by decide) (by decide) ?_; intro a1 c1 w1 _ _ hI1 hg1) | go_step | go_upon | go_in)); refine ⟨rfl, ?_⟩))
  refine its_code ?_
  repeat (first | go_skip | go_guarded | (at_builtin; refine wp_app_ints rfl _ _ rfl elemFld rfl (hg1.behind (by_none_alloc _ _)).own rfl (l := [34525]) rfl (ints_lit .u64 _ [34525] 42) (ys := [2048, 34525]) rfl (by decide) (by decide) ?_; intro a2 c2 w2 _ _ hI2 hg2) | go_step | go_upon | go_in)
  refine ⟨rfl, ?_⟩
  refine its_ret ?_
  go_ret2
  exact ⟨_, rfl, ⟨_, _, rfl, hI2⟩, (app_two hg1 hg2).2, (app_two hg1 hg2).1⟩
end Go.Proofs.YtehgjenmcjgpnaaDoor
