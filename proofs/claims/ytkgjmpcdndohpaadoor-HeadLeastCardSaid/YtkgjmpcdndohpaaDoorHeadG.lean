/- HeadLeast's walk. -/
import Derived.Test.YtkgjmpcdndohpaaDoorHeadF
namespace Go.Proofs.YtkgjmpcdndohpaaDoor
open Go.RowKit

/-- whether a type is asked -/
def AskT (t : Int) : Prop := t = 2 ∨ t = 5 ∨ t = 7 ∨ t = 18 ∨ t = 20 ∨ t = 22 ∨ t = 24 ∨ t = 26
theorem answer_any (t : Int) : ∃ a k, (AskT t ∧ a = t + 1 ∧ k = true ∨ ¬ AskT t ∧ a = 0 ∧ k = false) ∧
    (∀ w, Calls Tryd.prog 11 #[.int .i64 t] w fun e w' => e = .returned (.tuple #[.int .i64 a, .bool k]) ∧ w = w') ∧
    ∀ w, Calls Tryd.prog 12 #[.int .i64 t] w fun e w' => e = .returned (.tuple #[.int .i64 a, .bool k]) ∧ w = w' := by
  by_cases h : AskT t
  · exact ⟨_, _, .inl ⟨h, rfl, rfl⟩, fun w => answer_some t h w, fun w => refAnswer_some t h w⟩
  · exact ⟨_, _, .inr ⟨h, rfl, rfl⟩, fun w => answer_none t h w, fun w => refAnswer_none t h w⟩

set_option maxRecDepth 100000 in
set_option maxHeartbeats 2000000 in
theorem HeadLeast_out (t more : Int) (ht : ¬ (0 ≤ t ∧ t < 30)) (w : World) (hL : HeadLaid w) :
    Calls Tryd.prog 5 #[.int .i64 t, .int .i64 more] w fun x w' => x = .returned (.bool true) ∧ Below w.heap.size w w' := by
  have M1 := least_any t w hL
  rw [leastL_out ht] at M1
  have A1 := hid (answer_none t (by omega) w)
  have C1 := check_any 4 t 100 0 w hL
  rw [show checkL 4 t 100 = 258 by simp only [checkL, verB, if_pos ht]; split <;> simp] at C1
  have M1 := hid M1
  have C1 := hid C1
  clear ht
  go_enter Tryd.func5, Tryd.ntmps5
  go_wp2_with fail
  refine M1.out.mono ?_
  rintro e w' ⟨rfl, rfl⟩
  go_wp2_with fail
  refine A1.out.mono ?_
  rintro e w' ⟨rfl, rfl⟩
  go_wp2_with fail
  refine C1.out.mono ?_
  rintro e w1 ⟨rfl, hb1⟩
  go_wp2_with fail
  refine (sure6_any _ (hL.below hb1)).mono ?_
  rintro e w2 ⟨rfl, hb2⟩
  go_wp2_with fail
  go_ret
  exact ⟨rfl, below_then hb1 hb2⟩

set_option maxRecDepth 100000 in
set_option maxHeartbeats 1600000 in
theorem HeadLeast_low_ask (t more n b c : Int) (n1 : 8 ≤ n) (n2 : n ≤ 80) (hm : more < 0) (t0 : 0 ≤ t) (t1 : t < 30) (k2 : 8 ≤ c) (w : World) (hL : HeadLaid w)
    (M1 : Hid (Calls Tryd.prog 16 #[.int .i64 t] w fun e w' => e = .returned (.int .i64 n) ∧ w = w'))
    (A1 : Hid (∀ w, Calls Tryd.prog 11 #[.int .i64 t] w fun e w' => e = .returned (.tuple #[.int .i64 (t + 1), .bool true]) ∧ w = w'))
    (A2 : Hid (∀ w, Calls Tryd.prog 11 #[.int .i64 (t + 1)] w fun e w' => e = .returned (.tuple #[.int .i64 b, .bool false]) ∧ w = w'))
    (D1 : Hid (∀ W, HeadLaid W → Calls Tryd.prog 14 #[.agg #[.int .i64 4, .int .i64 t, .int .i64 n, .int .u32 0]] W fun e w' => e = .returned (.int .i64 0) ∧ Below W.heap.size W w')) (D2 : Hid (∀ W, HeadLaid W → Calls Tryd.prog 14 #[.agg #[.int .i64 4, .int .i64 t, .int .i64 (n - 1), .int .u32 0]] W fun e w' => e = .returned (.int .i64 263) ∧ Below W.heap.size W w')) (D3 : Hid (∀ W, HeadLaid W → Calls Tryd.prog 14 #[.agg #[.int .i64 4, .int .i64 t, .int .i64 65536, .int .u32 0]] W fun e w' => e = .returned (.int .i64 263) ∧ Below W.heap.size W w'))
    (M2 : Hid (∀ W, HeadLaid W → Calls Tryd.prog 16 #[.int .i64 (t + 1)] W fun e w' => e = .returned (.int .i64 c) ∧ W = w')) :
    Calls Tryd.prog 5 #[.int .i64 t, .int .i64 more] w fun x w' => x = .returned (.bool true) ∧ Below w.heap.size w w' := by
  have n0 : (n == 0) = false := by simp; omega
  go_enter Tryd.func5, Tryd.ntmps5
  go_wp2_with fail
  refine M1.out.mono ?_
  rintro e w' ⟨rfl, rfl⟩
  go_wp2_with fail
  refine (A1.out _).mono ?_
  rintro e w' ⟨rfl, rfl⟩
  go_wp2_with fail
  refine (A2.out _).mono ?_
  rintro e w' ⟨rfl, rfl⟩
  go_wp2_with fail
  refine (D1.out _ hL).mono ?_
  rintro e w1 ⟨rfl, hb1⟩
  have hL1 := hL.below hb1
  go_wp2_with fail
  refine (D2.out _ hL1).mono ?_
  rintro e w2 ⟨rfl, hb2⟩
  have hL2 := hL1.below hb2
  have hB2 := below_then hb1 hb2
  go_wp2_with fail
  refine (D3.out _ hL2).mono ?_
  rintro e w3 ⟨rfl, hb3⟩
  have hL3 := hL2.below hb3
  have hB3 := below_then hB2 hb3
  clear hb1 hb2 hb3 hL1 hL2 hB2
  go_wp2_with fail
  refine (M2.out _ hL3).mono ?_
  rintro e w' ⟨rfl, rfl⟩
  go_wp2_with fail
  refine (sure6_any _ hL3).mono ?_
  rintro e w4 ⟨rfl, hb4⟩
  go_wp2_with fail
  go_ret
  exact ⟨rfl, below_then hB3 hb4⟩

set_option maxRecDepth 100000 in
set_option maxHeartbeats 1600000 in
theorem HeadLeast_low_not (t more n a b : Int) (n1 : 8 ≤ n) (n2 : n ≤ 80) (hm : more < 0) (w : World) (hL : HeadLaid w)
    (M1 : Hid (Calls Tryd.prog 16 #[.int .i64 t] w fun e w' => e = .returned (.int .i64 n) ∧ w = w'))
    (A1 : Hid (∀ w, Calls Tryd.prog 11 #[.int .i64 t] w fun e w' => e = .returned (.tuple #[.int .i64 a, .bool false]) ∧ w = w'))
    (A2 : Hid (∀ w, Calls Tryd.prog 11 #[.int .i64 a] w fun e w' => e = .returned (.tuple #[.int .i64 b, .bool false]) ∧ w = w'))
    (D1 : Hid (∀ W, HeadLaid W → Calls Tryd.prog 14 #[.agg #[.int .i64 4, .int .i64 t, .int .i64 n, .int .u32 0]] W fun e w' => e = .returned (.int .i64 0) ∧ Below W.heap.size W w')) (D2 : Hid (∀ W, HeadLaid W → Calls Tryd.prog 14 #[.agg #[.int .i64 4, .int .i64 t, .int .i64 (n - 1), .int .u32 0]] W fun e w' => e = .returned (.int .i64 263) ∧ Below W.heap.size W w')) (D3 : Hid (∀ W, HeadLaid W → Calls Tryd.prog 14 #[.agg #[.int .i64 4, .int .i64 t, .int .i64 65536, .int .u32 0]] W fun e w' => e = .returned (.int .i64 263) ∧ Below W.heap.size W w')) :
    Calls Tryd.prog 5 #[.int .i64 t, .int .i64 more] w fun x w' => x = .returned (.bool true) ∧ Below w.heap.size w w' := by
  have n0 : (n == 0) = false := by simp; omega
  go_enter Tryd.func5, Tryd.ntmps5
  go_wp2_with fail
  refine M1.out.mono ?_
  rintro e w' ⟨rfl, rfl⟩
  go_wp2_with fail
  refine (A1.out _).mono ?_
  rintro e w' ⟨rfl, rfl⟩
  go_wp2_with fail
  refine (A2.out _).mono ?_
  rintro e w' ⟨rfl, rfl⟩
  go_wp2_with fail
  refine (D1.out _ hL).mono ?_
  rintro e w1 ⟨rfl, hb1⟩
  have hL1 := hL.below hb1
  go_wp2_with fail
  refine (D2.out _ hL1).mono ?_
  rintro e w2 ⟨rfl, hb2⟩
  have hL2 := hL1.below hb2
  have hB2 := below_then hb1 hb2
  go_wp2_with fail
  refine (D3.out _ hL2).mono ?_
  rintro e w3 ⟨rfl, hb3⟩
  have hL3 := hL2.below hb3
  have hB3 := below_then hB2 hb3
  clear hb1 hb2 hb3 hL1 hL2 hB2
  go_wp2_with fail
  refine (sure6_any _ hL3).mono ?_
  rintro e w4 ⟨rfl, hb4⟩
  go_wp2_with fail
  go_ret
  exact ⟨rfl, below_then hB3 hb4⟩

set_option maxRecDepth 100000 in
set_option maxHeartbeats 1600000 in
theorem HeadLeast_mid_ask (t more n b c : Int) (n1 : 8 ≤ n) (n2 : n ≤ 80) (hm : 0 ≤ more) (hm' : more < 65535 - n) (t0 : 0 ≤ t) (t1 : t < 30) (k2 : 8 ≤ c) (w : World) (hL : HeadLaid w)
    (M1 : Hid (Calls Tryd.prog 16 #[.int .i64 t] w fun e w' => e = .returned (.int .i64 n) ∧ w = w'))
    (A1 : Hid (∀ w, Calls Tryd.prog 11 #[.int .i64 t] w fun e w' => e = .returned (.tuple #[.int .i64 (t + 1), .bool true]) ∧ w = w'))
    (A2 : Hid (∀ w, Calls Tryd.prog 11 #[.int .i64 (t + 1)] w fun e w' => e = .returned (.tuple #[.int .i64 b, .bool false]) ∧ w = w'))
    (D1 : Hid (∀ W, HeadLaid W → Calls Tryd.prog 14 #[.agg #[.int .i64 4, .int .i64 t, .int .i64 (n + more), .int .u32 0]] W fun e w' => e = .returned (.int .i64 0) ∧ Below W.heap.size W w')) (D2 : Hid (∀ W, HeadLaid W → Calls Tryd.prog 14 #[.agg #[.int .i64 4, .int .i64 t, .int .i64 (n - 1), .int .u32 0]] W fun e w' => e = .returned (.int .i64 263) ∧ Below W.heap.size W w')) (D3 : Hid (∀ W, HeadLaid W → Calls Tryd.prog 14 #[.agg #[.int .i64 4, .int .i64 t, .int .i64 65536, .int .u32 0]] W fun e w' => e = .returned (.int .i64 263) ∧ Below W.heap.size W w'))
    (M2 : Hid (∀ W, HeadLaid W → Calls Tryd.prog 16 #[.int .i64 (t + 1)] W fun e w' => e = .returned (.int .i64 c) ∧ W = w')) :
    Calls Tryd.prog 5 #[.int .i64 t, .int .i64 more] w fun x w' => x = .returned (.bool true) ∧ Below w.heap.size w w' := by
  have n0 : (n == 0) = false := by simp; omega
  go_enter Tryd.func5, Tryd.ntmps5
  go_wp2_with fail
  refine M1.out.mono ?_
  rintro e w' ⟨rfl, rfl⟩
  go_wp2_with fail
  refine (A1.out _).mono ?_
  rintro e w' ⟨rfl, rfl⟩
  go_wp2_with fail
  refine (A2.out _).mono ?_
  rintro e w' ⟨rfl, rfl⟩
  go_wp2_with fail
  refine (D1.out _ hL).mono ?_
  rintro e w1 ⟨rfl, hb1⟩
  have hL1 := hL.below hb1
  go_wp2_with fail
  refine (D2.out _ hL1).mono ?_
  rintro e w2 ⟨rfl, hb2⟩
  have hL2 := hL1.below hb2
  have hB2 := below_then hb1 hb2
  go_wp2_with fail
  refine (D3.out _ hL2).mono ?_
  rintro e w3 ⟨rfl, hb3⟩
  have hL3 := hL2.below hb3
  have hB3 := below_then hB2 hb3
  clear hb1 hb2 hb3 hL1 hL2 hB2
  go_wp2_with fail
  refine (M2.out _ hL3).mono ?_
  rintro e w' ⟨rfl, rfl⟩
  go_wp2_with fail
  refine (sure6_any _ hL3).mono ?_
  rintro e w4 ⟨rfl, hb4⟩
  go_wp2_with fail
  go_ret
  exact ⟨rfl, below_then hB3 hb4⟩

set_option maxRecDepth 100000 in
set_option maxHeartbeats 1600000 in
theorem HeadLeast_mid_not (t more n a b : Int) (n1 : 8 ≤ n) (n2 : n ≤ 80) (hm : 0 ≤ more) (hm' : more < 65535 - n) (w : World) (hL : HeadLaid w)
    (M1 : Hid (Calls Tryd.prog 16 #[.int .i64 t] w fun e w' => e = .returned (.int .i64 n) ∧ w = w'))
    (A1 : Hid (∀ w, Calls Tryd.prog 11 #[.int .i64 t] w fun e w' => e = .returned (.tuple #[.int .i64 a, .bool false]) ∧ w = w'))
    (A2 : Hid (∀ w, Calls Tryd.prog 11 #[.int .i64 a] w fun e w' => e = .returned (.tuple #[.int .i64 b, .bool false]) ∧ w = w'))
    (D1 : Hid (∀ W, HeadLaid W → Calls Tryd.prog 14 #[.agg #[.int .i64 4, .int .i64 t, .int .i64 (n + more), .int .u32 0]] W fun e w' => e = .returned (.int .i64 0) ∧ Below W.heap.size W w')) (D2 : Hid (∀ W, HeadLaid W → Calls Tryd.prog 14 #[.agg #[.int .i64 4, .int .i64 t, .int .i64 (n - 1), .int .u32 0]] W fun e w' => e = .returned (.int .i64 263) ∧ Below W.heap.size W w')) (D3 : Hid (∀ W, HeadLaid W → Calls Tryd.prog 14 #[.agg #[.int .i64 4, .int .i64 t, .int .i64 65536, .int .u32 0]] W fun e w' => e = .returned (.int .i64 263) ∧ Below W.heap.size W w')) :
    Calls Tryd.prog 5 #[.int .i64 t, .int .i64 more] w fun x w' => x = .returned (.bool true) ∧ Below w.heap.size w w' := by
  have n0 : (n == 0) = false := by simp; omega
  go_enter Tryd.func5, Tryd.ntmps5
  go_wp2_with fail
  refine M1.out.mono ?_
  rintro e w' ⟨rfl, rfl⟩
  go_wp2_with fail
  refine (A1.out _).mono ?_
  rintro e w' ⟨rfl, rfl⟩
  go_wp2_with fail
  refine (A2.out _).mono ?_
  rintro e w' ⟨rfl, rfl⟩
  go_wp2_with fail
  refine (D1.out _ hL).mono ?_
  rintro e w1 ⟨rfl, hb1⟩
  have hL1 := hL.below hb1
  go_wp2_with fail
  refine (D2.out _ hL1).mono ?_
  rintro e w2 ⟨rfl, hb2⟩
  have hL2 := hL1.below hb2
  have hB2 := below_then hb1 hb2
  go_wp2_with fail
  refine (D3.out _ hL2).mono ?_
  rintro e w3 ⟨rfl, hb3⟩
  have hL3 := hL2.below hb3
  have hB3 := below_then hB2 hb3
  clear hb1 hb2 hb3 hL1 hL2 hB2
  go_wp2_with fail
  refine (sure6_any _ hL3).mono ?_
  rintro e w4 ⟨rfl, hb4⟩
  go_wp2_with fail
  go_ret
  exact ⟨rfl, below_then hB3 hb4⟩

set_option maxRecDepth 100000 in
set_option maxHeartbeats 1600000 in
theorem HeadLeast_top_ask (t more n b c : Int) (n1 : 8 ≤ n) (n2 : n ≤ 80) (hm : 65535 - n < more) (t0 : 0 ≤ t) (t1 : t < 30) (k2 : 8 ≤ c) (w : World) (hL : HeadLaid w)
    (M1 : Hid (Calls Tryd.prog 16 #[.int .i64 t] w fun e w' => e = .returned (.int .i64 n) ∧ w = w'))
    (A1 : Hid (∀ w, Calls Tryd.prog 11 #[.int .i64 t] w fun e w' => e = .returned (.tuple #[.int .i64 (t + 1), .bool true]) ∧ w = w'))
    (A2 : Hid (∀ w, Calls Tryd.prog 11 #[.int .i64 (t + 1)] w fun e w' => e = .returned (.tuple #[.int .i64 b, .bool false]) ∧ w = w'))
    (D1 : Hid (∀ W, HeadLaid W → Calls Tryd.prog 14 #[.agg #[.int .i64 4, .int .i64 t, .int .i64 (n + (65535 - n)), .int .u32 0]] W fun e w' => e = .returned (.int .i64 0) ∧ Below W.heap.size W w')) (D2 : Hid (∀ W, HeadLaid W → Calls Tryd.prog 14 #[.agg #[.int .i64 4, .int .i64 t, .int .i64 (n - 1), .int .u32 0]] W fun e w' => e = .returned (.int .i64 263) ∧ Below W.heap.size W w')) (D3 : Hid (∀ W, HeadLaid W → Calls Tryd.prog 14 #[.agg #[.int .i64 4, .int .i64 t, .int .i64 65536, .int .u32 0]] W fun e w' => e = .returned (.int .i64 263) ∧ Below W.heap.size W w'))
    (M2 : Hid (∀ W, HeadLaid W → Calls Tryd.prog 16 #[.int .i64 (t + 1)] W fun e w' => e = .returned (.int .i64 c) ∧ W = w')) :
    Calls Tryd.prog 5 #[.int .i64 t, .int .i64 more] w fun x w' => x = .returned (.bool true) ∧ Below w.heap.size w w' := by
  have n0 : (n == 0) = false := by simp; omega
  go_enter Tryd.func5, Tryd.ntmps5
  go_wp2_with fail
  refine M1.out.mono ?_
  rintro e w' ⟨rfl, rfl⟩
  go_wp2_with fail
  refine (A1.out _).mono ?_
  rintro e w' ⟨rfl, rfl⟩
  go_wp2_with fail
  refine (A2.out _).mono ?_
  rintro e w' ⟨rfl, rfl⟩
  go_wp2_with fail
  refine (D1.out _ hL).mono ?_
  rintro e w1 ⟨rfl, hb1⟩
  have hL1 := hL.below hb1
  go_wp2_with fail
  refine (D2.out _ hL1).mono ?_
  rintro e w2 ⟨rfl, hb2⟩
  have hL2 := hL1.below hb2
  have hB2 := below_then hb1 hb2
  go_wp2_with fail
  refine (D3.out _ hL2).mono ?_
  rintro e w3 ⟨rfl, hb3⟩
  have hL3 := hL2.below hb3
  have hB3 := below_then hB2 hb3
  clear hb1 hb2 hb3 hL1 hL2 hB2
  go_wp2_with fail
  refine (M2.out _ hL3).mono ?_
  rintro e w' ⟨rfl, rfl⟩
  go_wp2_with fail
  refine (sure6_any _ hL3).mono ?_
  rintro e w4 ⟨rfl, hb4⟩
  go_wp2_with fail
  go_ret
  exact ⟨rfl, below_then hB3 hb4⟩

set_option maxRecDepth 100000 in
set_option maxHeartbeats 1600000 in
theorem HeadLeast_top_not (t more n a b : Int) (n1 : 8 ≤ n) (n2 : n ≤ 80) (hm : 65535 - n < more) (w : World) (hL : HeadLaid w)
    (M1 : Hid (Calls Tryd.prog 16 #[.int .i64 t] w fun e w' => e = .returned (.int .i64 n) ∧ w = w'))
    (A1 : Hid (∀ w, Calls Tryd.prog 11 #[.int .i64 t] w fun e w' => e = .returned (.tuple #[.int .i64 a, .bool false]) ∧ w = w'))
    (A2 : Hid (∀ w, Calls Tryd.prog 11 #[.int .i64 a] w fun e w' => e = .returned (.tuple #[.int .i64 b, .bool false]) ∧ w = w'))
    (D1 : Hid (∀ W, HeadLaid W → Calls Tryd.prog 14 #[.agg #[.int .i64 4, .int .i64 t, .int .i64 (n + (65535 - n)), .int .u32 0]] W fun e w' => e = .returned (.int .i64 0) ∧ Below W.heap.size W w')) (D2 : Hid (∀ W, HeadLaid W → Calls Tryd.prog 14 #[.agg #[.int .i64 4, .int .i64 t, .int .i64 (n - 1), .int .u32 0]] W fun e w' => e = .returned (.int .i64 263) ∧ Below W.heap.size W w')) (D3 : Hid (∀ W, HeadLaid W → Calls Tryd.prog 14 #[.agg #[.int .i64 4, .int .i64 t, .int .i64 65536, .int .u32 0]] W fun e w' => e = .returned (.int .i64 263) ∧ Below W.heap.size W w')) :
    Calls Tryd.prog 5 #[.int .i64 t, .int .i64 more] w fun x w' => x = .returned (.bool true) ∧ Below w.heap.size w w' := by
  have n0 : (n == 0) = false := by simp; omega
  go_enter Tryd.func5, Tryd.ntmps5
  go_wp2_with fail
  refine M1.out.mono ?_
  rintro e w' ⟨rfl, rfl⟩
  go_wp2_with fail
  refine (A1.out _).mono ?_
  rintro e w' ⟨rfl, rfl⟩
  go_wp2_with fail
  refine (A2.out _).mono ?_
  rintro e w' ⟨rfl, rfl⟩
  go_wp2_with fail
  refine (D1.out _ hL).mono ?_
  rintro e w1 ⟨rfl, hb1⟩
  have hL1 := hL.below hb1
  go_wp2_with fail
  refine (D2.out _ hL1).mono ?_
  rintro e w2 ⟨rfl, hb2⟩
  have hL2 := hL1.below hb2
  have hB2 := below_then hb1 hb2
  go_wp2_with fail
  refine (D3.out _ hL2).mono ?_
  rintro e w3 ⟨rfl, hb3⟩
  have hL3 := hL2.below hb3
  have hB3 := below_then hB2 hb3
  clear hb1 hb2 hb3 hL1 hL2 hB2
  go_wp2_with fail
  refine (sure6_any _ hL3).mono ?_
  rintro e w4 ⟨rfl, hb4⟩
  go_wp2_with fail
  go_ret
  exact ⟨rfl, below_then hB3 hb4⟩

set_option maxRecDepth 100000 in
set_option maxHeartbeats 1600000 in
theorem HeadLeast_eq_ask (t n b c : Int) (n1 : 8 ≤ n) (n2 : n ≤ 80) (t0 : 0 ≤ t) (t1 : t < 30) (k2 : 8 ≤ c) (w : World) (hL : HeadLaid w)
    (M1 : Hid (Calls Tryd.prog 16 #[.int .i64 t] w fun e w' => e = .returned (.int .i64 n) ∧ w = w'))
    (A1 : Hid (∀ w, Calls Tryd.prog 11 #[.int .i64 t] w fun e w' => e = .returned (.tuple #[.int .i64 (t + 1), .bool true]) ∧ w = w'))
    (A2 : Hid (∀ w, Calls Tryd.prog 11 #[.int .i64 (t + 1)] w fun e w' => e = .returned (.tuple #[.int .i64 b, .bool false]) ∧ w = w'))
    (D1 : Hid (∀ W, HeadLaid W → Calls Tryd.prog 14 #[.agg #[.int .i64 4, .int .i64 t, .int .i64 (n + (65535 - n)), .int .u32 0]] W fun e w' => e = .returned (.int .i64 0) ∧ Below W.heap.size W w')) (D2 : Hid (∀ W, HeadLaid W → Calls Tryd.prog 14 #[.agg #[.int .i64 4, .int .i64 t, .int .i64 (n - 1), .int .u32 0]] W fun e w' => e = .returned (.int .i64 263) ∧ Below W.heap.size W w')) (D3 : Hid (∀ W, HeadLaid W → Calls Tryd.prog 14 #[.agg #[.int .i64 4, .int .i64 t, .int .i64 65536, .int .u32 0]] W fun e w' => e = .returned (.int .i64 263) ∧ Below W.heap.size W w'))
    (M2 : Hid (∀ W, HeadLaid W → Calls Tryd.prog 16 #[.int .i64 (t + 1)] W fun e w' => e = .returned (.int .i64 c) ∧ W = w')) :
    Calls Tryd.prog 5 #[.int .i64 t, .int .i64 (65535 - n)] w fun x w' => x = .returned (.bool true) ∧ Below w.heap.size w w' := by
  have n0 : (n == 0) = false := by simp; omega
  go_enter Tryd.func5, Tryd.ntmps5
  go_wp2_with fail
  refine M1.out.mono ?_
  rintro e w' ⟨rfl, rfl⟩
  go_wp2_with fail
  refine (A1.out _).mono ?_
  rintro e w' ⟨rfl, rfl⟩
  go_wp2_with fail
  refine (A2.out _).mono ?_
  rintro e w' ⟨rfl, rfl⟩
  go_wp2_with fail
  refine (D1.out _ hL).mono ?_
  rintro e w1 ⟨rfl, hb1⟩
  have hL1 := hL.below hb1
  go_wp2_with fail
  refine (D2.out _ hL1).mono ?_
  rintro e w2 ⟨rfl, hb2⟩
  have hL2 := hL1.below hb2
  have hB2 := below_then hb1 hb2
  go_wp2_with fail
  refine (D3.out _ hL2).mono ?_
  rintro e w3 ⟨rfl, hb3⟩
  have hL3 := hL2.below hb3
  have hB3 := below_then hB2 hb3
  clear hb1 hb2 hb3 hL1 hL2 hB2
  go_wp2_with fail
  refine (M2.out _ hL3).mono ?_
  rintro e w' ⟨rfl, rfl⟩
  go_wp2_with fail
  refine (sure6_any _ hL3).mono ?_
  rintro e w4 ⟨rfl, hb4⟩
  go_wp2_with fail
  go_ret
  exact ⟨rfl, below_then hB3 hb4⟩

set_option maxRecDepth 100000 in
set_option maxHeartbeats 1600000 in
theorem HeadLeast_eq_not (t n a b : Int) (n1 : 8 ≤ n) (n2 : n ≤ 80) (w : World) (hL : HeadLaid w)
    (M1 : Hid (Calls Tryd.prog 16 #[.int .i64 t] w fun e w' => e = .returned (.int .i64 n) ∧ w = w'))
    (A1 : Hid (∀ w, Calls Tryd.prog 11 #[.int .i64 t] w fun e w' => e = .returned (.tuple #[.int .i64 a, .bool false]) ∧ w = w'))
    (A2 : Hid (∀ w, Calls Tryd.prog 11 #[.int .i64 a] w fun e w' => e = .returned (.tuple #[.int .i64 b, .bool false]) ∧ w = w'))
    (D1 : Hid (∀ W, HeadLaid W → Calls Tryd.prog 14 #[.agg #[.int .i64 4, .int .i64 t, .int .i64 (n + (65535 - n)), .int .u32 0]] W fun e w' => e = .returned (.int .i64 0) ∧ Below W.heap.size W w')) (D2 : Hid (∀ W, HeadLaid W → Calls Tryd.prog 14 #[.agg #[.int .i64 4, .int .i64 t, .int .i64 (n - 1), .int .u32 0]] W fun e w' => e = .returned (.int .i64 263) ∧ Below W.heap.size W w')) (D3 : Hid (∀ W, HeadLaid W → Calls Tryd.prog 14 #[.agg #[.int .i64 4, .int .i64 t, .int .i64 65536, .int .u32 0]] W fun e w' => e = .returned (.int .i64 263) ∧ Below W.heap.size W w')) :
    Calls Tryd.prog 5 #[.int .i64 t, .int .i64 (65535 - n)] w fun x w' => x = .returned (.bool true) ∧ Below w.heap.size w w' := by
  have n0 : (n == 0) = false := by simp; omega
  go_enter Tryd.func5, Tryd.ntmps5
  go_wp2_with fail
  refine M1.out.mono ?_
  rintro e w' ⟨rfl, rfl⟩
  go_wp2_with fail
  refine (A1.out _).mono ?_
  rintro e w' ⟨rfl, rfl⟩
  go_wp2_with fail
  refine (A2.out _).mono ?_
  rintro e w' ⟨rfl, rfl⟩
  go_wp2_with fail
  refine (D1.out _ hL).mono ?_
  rintro e w1 ⟨rfl, hb1⟩
  have hL1 := hL.below hb1
  go_wp2_with fail
  refine (D2.out _ hL1).mono ?_
  rintro e w2 ⟨rfl, hb2⟩
  have hL2 := hL1.below hb2
  have hB2 := below_then hb1 hb2
  go_wp2_with fail
  refine (D3.out _ hL2).mono ?_
  rintro e w3 ⟨rfl, hb3⟩
  have hL3 := hL2.below hb3
  have hB3 := below_then hB2 hb3
  clear hb1 hb2 hb3 hL1 hL2 hB2
  go_wp2_with fail
  refine (sure6_any _ hL3).mono ?_
  rintro e w4 ⟨rfl, hb4⟩
  go_wp2_with fail
  go_ret
  exact ⟨rfl, below_then hB3 hb4⟩

set_option maxRecDepth 100000 in
set_option maxHeartbeats 2000000 in
theorem HeadLeast_in (t more : Int) (ht : 0 ≤ t ∧ t < 30) (w : World) (hL : HeadLaid w) :
    Calls Tryd.prog 5 #[.int .i64 t, .int .i64 more] w fun x w' => x = .returned (.bool true) ∧ Below w.heap.size w w' := by
  have M1 := least_any t w hL
  have hn := leastL_in ht
  have C1 := fun n W h => check_any 4 t n 0 W h
  obtain ⟨n, hnn⟩ : ∃ n, leastL t = n := ⟨_, rfl⟩
  rw [hnn] at M1 hn
  have hv : verB 4 t = true := by unfold verB; split <;> simp
  have q1 : ∀ l, n ≤ l → l ≤ 65535 → checkL 4 t l = 0 := by
    intro l h1 h2
    simp only [checkL, hv, hnn]
    simp [ht]; omega
  have q2 : checkL 4 t (n - 1) = 263 := by
    simp only [checkL, hv, hnn]
    simp [ht]; omega
  have q3 : checkL 4 t 65536 = 263 := by
    simp only [checkL, hv, hnn]
    simp [ht]
  have M1 := hid M1
  have D1 : ∀ l, n ≤ l → l ≤ 65535 → Hid (∀ W, HeadLaid W → Calls Tryd.prog 14 #[.agg #[.int .i64 4, .int .i64 t, .int .i64 l, .int .u32 0]] W fun e w' => e = .returned (.int .i64 0) ∧ Below W.heap.size W w') := by
    intro l h1 h2 W h
    have := C1 l W h
    rwa [q1 l h1 h2] at this
  have D2 := fun W h => C1 (n - 1) W h
  have D3 := fun W h => C1 65536 W h
  rw [q2] at D2
  rw [q3] at D3
  by_cases hA : AskT t
  · have A1 := hid (fun w => answer_some t hA w)
    have hA2 : ¬ AskT (t + 1) := by unfold AskT at hA ⊢; omega
    have A2 := hid (fun w => answer_none (t + 1) hA2 w)
    have k2 := (leastL_in (t := t + 1) (by unfold AskT at hA; omega)).1
    have M2 := hid (fun W h => least_any (t + 1) W h)
    rcases (show more < 0 ∨ (0 ≤ more ∧ more < 65535 - n) ∨ 65535 - n < more ∨ more = 65535 - n by omega) with hm | ⟨hm, hm'⟩ | hm | rfl
    · exact HeadLeast_low_ask t more n 0 _ hn.1 hn.2 hm ht.1 ht.2 k2 w hL M1 A1 A2 (D1 n (by omega) (by omega)) D2 D3 M2
    · exact HeadLeast_mid_ask t more n 0 _ hn.1 hn.2 hm hm' ht.1 ht.2 k2 w hL M1 A1 A2 (D1 (n + more) (by omega) (by omega)) D2 D3 M2
    · exact HeadLeast_top_ask t more n 0 _ hn.1 hn.2 hm ht.1 ht.2 k2 w hL M1 A1 A2 (D1 (n + (65535 - n)) (by omega) (by omega)) D2 D3 M2
    · exact HeadLeast_eq_ask t n 0 _ hn.1 hn.2 ht.1 ht.2 k2 w hL M1 A1 A2 (D1 (n + (65535 - n)) (by omega) (by omega)) D2 D3 M2
  · have A1 := hid (fun w => answer_none t hA w)
    have A2 := hid (fun w => answer_none 0 (by omega) w)
    rcases (show more < 0 ∨ (0 ≤ more ∧ more < 65535 - n) ∨ 65535 - n < more ∨ more = 65535 - n by omega) with hm | ⟨hm, hm'⟩ | hm | rfl
    · exact HeadLeast_low_not t more n 0 0 hn.1 hn.2 hm w hL M1 A1 A2 (D1 n (by omega) (by omega)) D2 D3
    · exact HeadLeast_mid_not t more n 0 0 hn.1 hn.2 hm hm' w hL M1 A1 A2 (D1 (n + more) (by omega) (by omega)) D2 D3
    · exact HeadLeast_top_not t more n 0 0 hn.1 hn.2 hm w hL M1 A1 A2 (D1 (n + (65535 - n)) (by omega) (by omega)) D2 D3
    · exact HeadLeast_eq_not t n 0 0 hn.1 hn.2 w hL M1 A1 A2 (D1 (n + (65535 - n)) (by omega) (by omega)) D2 D3

theorem HeadLeast_walk (t more : Int) (w : World) (hL : HeadLaid w) :
    Calls Tryd.prog 5 #[.int .i64 t, .int .i64 more] w fun x w' => x = .returned (.bool true) ∧ Below w.heap.size w w' := by
  by_cases ht : 0 ≤ t ∧ t < 30
  · exact HeadLeast_in t more ht w hL
  · exact HeadLeast_out t more ht w hL
end Go.Proofs.YtkgjmpcdndohpaaDoor
