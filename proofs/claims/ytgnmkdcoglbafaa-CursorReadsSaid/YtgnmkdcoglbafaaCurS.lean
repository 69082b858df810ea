/- Layer 2's sure. -/
import Derived.Test.YtgnmkdcoglbafaaCurE
namespace Go.Proofs.Ytgnmkdcoglbafaa
open Go.RowKit

theorem below_by {w0 w w' : World} (h : Below w0.heap.size w0 w) {g : Nat} (hb : w.grownBy w' (some g)) (hg : w0.heap.size ≤ g) : Below w0.heap.size w0 w' :=
  h.grown hb h.size (by intro k hk; simp at hk; omega)
theorem below_more {w0 w w' : World} (h : Below w0.heap.size w0 w) (hb : Below w.heap.size w w') : Below w0.heap.size w0 w' := h.trans (hb.mono h.size)

theorem getW_s1 : getW [2] [1, 2, 0, 3] = .ok [258] := by rfl
theorem getW_s2 : getW [-1, 1] [0, 3] = .ok [3] := by rfl

set_option maxHeartbeats 1600000 in
theorem sure2_any (w : World) : Calls Try.prog 7 #[] w fun e w' => e = .returned (.bool true) ∧ Below w.heap.size w w' := by
  have hp := fun (w : World) (p : Option Addr) => run_eql_pointer_nil w 26 p ptrCur
  go_enter Try.func7, Try.ntmps7
  go_wp2_with fail
  refine (new_any [1, 2, 0, 3] (some ⟨w.heap.size, 0, none⟩) 4 263 518 _ (by simp) (octets_lit (by decide)) (ints_lit .u8 w [1, 2, 0, 3] 5)).mono ?_
  rintro e w1 ⟨g, rfl, hC, hB, hg, hg2⟩
  have hB1 := below_more (below_alloc w _) hB
  have hg3 : w.heap.size ≤ g := by have := (below_alloc w (.cells #[.int .u8 1, .int .u8 2, .int .u8 0, .int .u8 3] 5)).size; simp at hg; omega
  generalize hM : (w.alloc _).heap.size = M at hC
  clear hB hg hM
  go_wp2_with fail
  refine ((hC.below (below_alloc _ _)).row_ok [2] [258] (some ⟨w1.heap.size, 0, none⟩) 1 (by simp) (ints_one _ _ _ _) getW_s1).mono ?_
  rintro e w2 ⟨v, rfl, hG, hC2⟩
  obtain ⟨a2, c2, rfl, _, _, hI2⟩ := own_ints hG.own
  have hB2 := below_by (below_more hB1 (below_alloc _ _)) hG.by_ hg3
  have hC3 : Cur w2 g M [0, 3] 2 263 518 0 := hC2
  clear hB1 hC hC2
  go_wp2_with fail
  refine ((hC3.below (below_alloc _ _)).row_ok [-1, 1] [3] (some ⟨w2.heap.size, 0, none⟩) 2 (by simp) (ints_lit .i64 w2 [-1, 1] 3) getW_s2).mono ?_
  rintro e w3 ⟨v3, rfl, hG3, hC4⟩
  obtain ⟨a3, c3, rfl, _, _, hI3⟩ := own_ints hG3.own
  have hB3 := below_by (below_more hB2 (below_alloc _ _)) hG3.by_ hg3
  have hI4 := (hC3.below (below_alloc _ _)).ints (hI2.below (below_alloc _ _)) (by simp) hG3.by_
  have hC5 : Cur w3 g M [] 4 263 518 0 := hC4
  clear hB2 hC3 hC4 hI2 hG hG3
  go_wp2_with fail
  refine hC5.err.mono ?_
  rintro e w4 ⟨rfl, rfl⟩
  go_wp2_with fail
  refine (hC5.num_short (n := 1) (by omega) (by omega) (by simp)).mono ?_
  rintro e w4 ⟨rfl, hC6, hB4⟩
  have hB5 := below_by hB3 hB4 hg3
  have hI5 := hC5.ints hI4 (by simp) hB4
  have hI6 := hC5.ints hI3 (by simp) hB4
  clear hB3 hB4 hC5 hI3 hI4
  go_wp2_with fail
  refine (nums_at [258] [258] a2 (some ⟨w4.heap.size, 0, none⟩) 1 1 c2 1 _ rfl rfl (by simp) (by simp) (hI5.below (below_alloc _ _)) (ints_one _ _ _ _)).mono ?_
  rintro e w5 ⟨rfl, hB6⟩
  rw [beq_rfl]
  have hB7 := below_more (below_more hB5 (below_alloc _ _)) hB6
  have hI7 := (hI6.below (below_alloc _ _)).below hB6
  have hC7 := (hC6.below (below_alloc _ _)).below hB6
  clear hB5 hB6 hI5 hI6 hC6
  go_wp2_with fail
  refine (nums_at [3] [3] a3 (some ⟨w5.heap.size, 0, none⟩) 1 1 c3 1 _ rfl rfl (by simp) (by simp) (hI7.below (below_alloc _ _)) (ints_one _ _ _ _)).mono ?_
  rintro e w6 ⟨rfl, hB8⟩
  rw [beq_rfl]
  have hB9 := below_more (below_more hB7 (below_alloc _ _)) hB8
  have hC9 := (hC7.below (below_alloc _ _)).below hB8
  clear hB7 hB8 hI7 hC7
  go_wp2_with fail
  refine hC9.err.mono ?_
  rintro e w' ⟨rfl, rfl⟩
  go_wp2_with fail
  refine hC9.left.mono ?_
  rintro e w' ⟨rfl, rfl⟩
  go_wp2_with fail
  refine (err_nil _).mono ?_
  rintro e w' ⟨rfl, rfl⟩
  go_wp2_with fail
  refine (num_nil _ (n := 1) (by omega) (by omega)).mono ?_
  rintro e w10 ⟨rfl, hB10⟩
  have hB11 := below_more hB9 hB10
  clear hB9 hB10 hC9
  go_wp2_with fail
  refine (sub_nil _ _ _ _).mono ?_
  rintro e w' ⟨rfl, rfl⟩
  go_wp2
  go_ret
  exact ⟨rfl, hB11⟩
end Go.Proofs.Ytgnmkdcoglbafaa
