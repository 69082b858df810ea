/- One operation on both cursors: Sub. -/
import Derived.Test.YtgnmkdcoglbafaaCurOp
namespace Go.Proofs.Ytgnmkdcoglbafaa
open Go.RowKit

theorem five_alloc2 (w : World) (o : Obj) (t : TypeId) (v0 v1 v2 v3 v4 : Value) : Five ((w.alloc (.cells #[v0, v1, v2, v3, v4] t)).alloc o) w.heap.size v0 v1 v2 v3 v4 := (five_first w t v0 v1 v2 v3 v4).alloc o

/-- behind the result's five cells, where a cursor of its own was made; the bytes lie in no block that is written -/
theorem sub_end {w w3 wh : World} {g g' M : Nat} {a1 : Option Addr} {c1 : Nat} {out : List Int} (hW : w.grownBy w3 (some g)) (hC : Cur w3 g' M out (0 : Nat) 263 269 0) (hH : Holds wh a1 c1 out) (hI : Ints .u8 w3 a1 out) (hol : out.length ≤ 2000) (hM : M < w.heap.size) {b : Nat} (hb : w.heap.size ≤ b) (n1 : b ≠ g') (hfar : a1 = none ∨ ∃ q, a1 = some ⟨q, 0, none⟩ ∧ b ≠ q) (v0 v1 v2 v3 v4 : Value) :
    St (((((w3.setCell ⟨b, 0, none⟩ v0).setCell ⟨b, 1, none⟩ v1).setCell ⟨b, 2, none⟩ v2).setCell ⟨b, 3, none⟩ v3).setCell ⟨b, 4, none⟩ v4) g' M a1 c1 out 0 263 269 0 ∧
    w.grownBy (((((w3.setCell ⟨b, 0, none⟩ v0).setCell ⟨b, 1, none⟩ v1).setCell ⟨b, 2, none⟩ v2).setCell ⟨b, 3, none⟩ v3).setCell ⟨b, 4, none⟩ v4) (some g) := by
  have hW' := by_set_new (by_set_new (by_set_new (by_set_new (by_set_new hW hb 0 v0) hb 1 v1) hb 2 v2) hb 3 v3) hb 4 v4
  have n2 : b ≠ M := by omega
  exact ⟨⟨((((hC.set n1 n2 0 v0).set n1 n2 1 v1).set n1 n2 2 v2).set n1 n2 3 v3).set n1 n2 4 v4, ⟨hH.cap, hH.max, ((((hI.set hfar 0 v0).set hfar 1 v1).set hfar 2 v2).set hfar 3 v3).set hfar 4 v4, hH.oct, hH.shape⟩, Nat.zero_le _, hol, by decide, by decide, Nat.lt_of_lt_of_le hM hW'.size⟩, hW'⟩

theorem St.drew {w : World} {g M : Nat} {a : Option Addr} {c : Nat} {B : List Int} {r : Nat} {s o f : Int} (h : St w g M a c B r s o f) : St w.drew g M a c B r s o f :=
  ⟨h.cur.below (below_drew w), h.hol.below (below_drew w), h.rle, h.len, h.sne, h.one, h.mlt⟩
theorem by_drew {w W : World} {row : Option Nat} (h : w.grownBy W row) : w.grownBy W.drew row := ⟨h.os, h.tape, h.output, h.size, h.block⟩

set_option maxRecDepth 100000 in
set_option maxHeartbeats 4000000 in
theorem op_sub (w : World) (g M : Nat) (a : Option Addr) (c : Nat) (B : List Int) (r : Nat) (s o f n : Int) (v : Value) (h : St w g M a c B r s o f) :
    Calls Try.prog 10 #[.pointer (some ⟨g, 0, none⟩), .agg #[.slice a B.length c, .int .i64 r, .int .i64 s, .int .i64 o, .int .i64 f], .agg #[.int .i64 4, .int .i64 n, v]] w (OpPost w g M a B) := by
  have hg := h.cur.block_lt
  have hp := fun (w : World) (p : Option Addr) => run_eql_pointer_nil w 26 p ptrCur
  rcases sub_both h n with ⟨f', hRef, hProg⟩ | ⟨rfl, out, r', hr', hol, hoo, hRef, hProg⟩
  · have HR := hid hRef
    have HP := hid hProg
    clear hRef hProg
    go_enter Try.func10, Try.ntmps10
    go_wp2_with fail
    refine (HR.out _ (h.hol.below (below_three w _ _ _))).mono ?_
    rintro e w1 ⟨x, y, rfl, hB1⟩
    have hz2 := free_below (b := w.heap.size + 1 + 1) (free_third w _ _ _ _) (by simp) hB1
    have hsz : w.heap.size + 1 + 1 < w1.heap.size := by have := hB1.size; simp at this; omega
    have hB2 := below_more (below_three w _ _ _) hB1
    have hz := Five.below (b := w.heap.size + 1 + 1) (v0 := .slice none 0 0) (v1 := .int .i64 0) (v2 := .int .i64 0) (v3 := .int .i64 0) (v4 := .int .i64 0) (five_third w _ _ _ _ _ _ _ _) hB1
    have n1 := cell_keep (cell_keep (three_block w _ _ _ _ _).2.1 (below_alloc _ _)) hB1
    have n2 := fun (o1 o2 : Obj) => cell_keep (cell_keep n1 (below_alloc w1 o1)) (below_alloc (w1.alloc o1) o2)
    have g1 : some w1.heap.size ≠ some g := by simp; omega
    have g3 : some (w.heap.size + 1 + 1) ≠ some g := by simp; omega
    clear hB1
    go_wp2_with fail
    refine (HP.out _ (((h.cur.below hB2).below (below_alloc _ _)).below (below_alloc _ _))).mono ?_
    rintro e w2 ⟨rfl, hC2, hG2⟩
    obtain ⟨p0, p1, p2, p3, p4⟩ := (five_alloc2 w1 _ _ (.slice a B.length c) (.int .i64 r) (.int .i64 s) (.int .i64 o) (.int .i64 f')).by hG2 g1
    obtain ⟨y0, y1, y2, y3, y4⟩ := ((hz.alloc _).alloc _).by hG2 g3
    have hy2 := free_by (free_alloc (free_alloc hz2 hsz _) (by simp; omega) _) (by simp; omega) hG2 g3
    have hW := hid (grownBy_then (grownBy_more (below_by_none (below_more (below_more hB2 (below_alloc _ _)) (below_alloc _ _)))) hG2)
    have hE := hid (op_end h h.rle (hC2.below (below_drew w2)) (grownBy_then hW.out (grownBy_more (by_none_drewN w2 1))) (show w.heap.size ≤ w.heap.size + 1 + 1 by omega) (.slice a B.length c) (.int .i64 r) (.int .i64 s) (.int .i64 o) (.int .i64 f'))
    have hne5 : ¬ w.heap.size + 1 + 1 = w1.heap.size := by omega
    clear hB2 hG2 hC2 hW HP HR g1 g3 hz
    go_wp2
    go_region_held3 (fun w' => w'.cell? ⟨w1.heap.size, 0, none⟩ = some (.slice a B.length c) ∧ w'.cell? ⟨w1.heap.size, 1, none⟩ = some (.int .i64 r) ∧ w'.cell? ⟨w1.heap.size, 2, none⟩ = some (.int .i64 s) ∧ w'.cell? ⟨w1.heap.size, 3, none⟩ = some (.int .i64 o) ∧ w'.cell? ⟨w1.heap.size, 4, none⟩ = some (.int .i64 f')) (go_keep) (fail)
    go_wp2
    refine bodyPost_ret (v := .tuple #[.pointer (some ⟨g, 0, none⟩), .agg #[.slice a B.length c, .int .i64 r, .int .i64 s, .int .i64 o, .int .i64 f'], .bool true]) (by simp [results, Try.results10, go_sem, y0, y1, y2, y3, y4]) rfl ?_
    exact ⟨g, a, c, B, r, s, o, f', rfl, hE.out.1, hE.out.2, .inl rfl, .inl ⟨rfl, rfl⟩⟩
  · obtain ⟨rest, hrest⟩ : ∃ l, l = B.drop r' := ⟨_, rfl⟩
    obtain ⟨m, hm⟩ : ∃ m, r' + m = B.length := ⟨B.length - r', by omega⟩
    have hrl : rest.length = m := by rw [hrest, List.length_drop]; omega
    have b1 : ((rest.length : Int) != (m : Int)) = false := by rw [bne_eq_false_iff_eq]; omega
    have hB3000 := h.len
    have HM := hid hm
    have HRS := hid hrest
    rw [← hrest] at hProg
    have HR := hid hRef
    have HP := hid hProg
    have hmlt := h.mlt
    clear hRef hProg hrl hm hrest
    go_enter Try.func10, Try.ntmps10
    go_wp2_with fail
    refine (HR.out _ (h.hol.below (below_three w _ _ _))).mono ?_
    rintro e w1 ⟨a1, c1, rfl, hB1, hN1⟩
    have hz2 := free_below (b := w.heap.size + 1 + 1) (free_third w _ _ _ _) (by simp) hB1
    have hsz : w.heap.size + 1 + 1 < w1.heap.size := by have := hB1.size; simp at this; omega
    have hB2 := below_more (below_three w _ _ _) hB1
    have hz := Five.below (b := w.heap.size + 1 + 1) (v0 := .slice none 0 0) (v1 := .int .i64 0) (v2 := .int .i64 0) (v3 := .int .i64 0) (v4 := .int .i64 0) (five_third w _ _ _ _ _ _ _ _) hB1
    have n1 := cell_keep (cell_keep (three_block w _ _ _ _ _).2.1 (below_alloc _ _)) hB1
    have n2 := fun (o1 o2 : Obj) => cell_keep (cell_keep n1 (below_alloc w1 o1)) (below_alloc (w1.alloc o1) o2)
    have g1 : some w1.heap.size ≠ some g := by simp; omega
    have g2 : some (w1.heap.size + 1) ≠ some g := by simp; omega
    have g3 : some (w.heap.size + 1 + 1) ≠ some g := by simp; omega
    clear hB1
    go_wp2_with fail
    refine (HP.out _ (((h.cur.below hB2).below (below_alloc _ _)).below (below_alloc _ _)) (by simp; omega)).mono ?_
    rintro e w2 ⟨g', rfl, hg1, hg2, hC1, hC2, hG2⟩
    obtain ⟨p0, p1, p2, p3, p4⟩ := (five_alloc2 w1 _ _ (.slice a B.length c) (.int .i64 r') (.int .i64 s) (.int .i64 o) (.int .i64 0)).by hG2 g1
    have hown := (five_second w1 _ _ (.slice a1 out.length c1) (.int .i64 0) (.int .i64 263) (.int .i64 269) (.int .i64 0)).by hG2 g2
    have hy := ((hz.alloc _).alloc _).by hG2 g3
    have hy2 := free_by (free_alloc (free_alloc hz2 hsz _) (by simp; omega) _) (by simp; omega) hG2 g3
    have hW := hid (grownBy_then (grownBy_more (below_by_none (below_more (below_more hB2 (below_alloc _ _)) (below_alloc _ _)))) hG2)
    have hI1 := hid (((h.cur.below hB2).below (below_alloc _ _)).below (below_alloc _ _) |>.ints ((hN1.holds.ints.below (below_alloc _ _)).below (below_alloc _ _)) (by simp) hG2)
    have HH := hid hN1.holds
    have HFAR : Hid (a1 = none ∨ ∃ q, a1 = some ⟨q, 0, none⟩ ∧ w.heap.size ≤ q) := by
      rcases hN1.far with h | ⟨q, h, hq⟩
      · exact .inl h
      · exact .inr ⟨q, h, by simp at hq; omega⟩
    have hfar : a1 = none ∨ ∃ q, a1 = some ⟨q, 0, none⟩ ∧ w.heap.size + 1 + 1 ≠ q := by
      rcases hN1.far with h | ⟨q, h, hq⟩
      · exact .inl h
      · exact .inr ⟨q, h, by simp at hq; omega⟩
    have hs2 := hG2.size
    simp at hg1 hs2
    clear hB2 hG2 HP HR g1 g2 g3 hz hN1 n1 n2 hz2
    go_wp2
    go_region_held3 (fun w' => w'.cell? ⟨w1.heap.size, 0, none⟩ = some (.slice a B.length c) ∧ w'.cell? ⟨w1.heap.size, 1, none⟩ = some (.int .i64 r') ∧ w'.cell? ⟨w1.heap.size, 2, none⟩ = some (.int .i64 s) ∧ w'.cell? ⟨w1.heap.size, 3, none⟩ = some (.int .i64 o) ∧ w'.cell? ⟨w1.heap.size, 4, none⟩ = some (.int .i64 0)) (go_keep) ((first | (go_at_call 14; refine ((hC2.below (below_drew _)).left).mono ?_; rintro e w' ⟨rfl, rfl⟩) | (go_at_call 15; refine (refLeft_nat _ a B.length c r' m s o 0 HM.out (by omega)).mono ?_; rintro e w3 ⟨rfl, hB3⟩; obtain ⟨q0, q1, q2, q3, q4⟩ := Five.below (Five.drew ⟨p0, p1, p2, p3, p4⟩) hB3; have hC3 := (hC2.below (below_drew _)).below hB3) | (go_at_call 13; refine hC3.err.mono ?_; rintro e w' ⟨rfl, rfl⟩)))
    obtain ⟨k0, k1, k2, k3, k4⟩ := hown.drew.below hB3
    obtain ⟨y0, y1, y2, y3, y4⟩ := hy.drew.below hB3
    have hy3 := free_below (free_below hy2 (by omega) (below_drew _)) (by simp; omega) hB3
    have hW3 := hid (grownBy_then (grownBy_then hW.out (grownBy_more (by_none_drewN w2 1))) (grownBy_more (below_by_none hB3)))
    have hCs := hid ((hC1.below (below_drew _)).below hB3)
    have hI3 := hid ((hI1.out.below (below_drew _)).below hB3)
    have hs3 := hB3.size
    simp at hs3
    have hne5 : ¬ w.heap.size + 1 = w1.heap.size := by omega
    clear hB3 hC2 hC3 hW hy hown hI1 p0 p1 p2 p3 p4 hC1 hy2
    go_wp2
    go_region_held3 (fun w' => w'.cell? ⟨w1.heap.size + 1, 0, none⟩ = some (.slice a1 out.length c1) ∧ w'.cell? ⟨w1.heap.size + 1, 1, none⟩ = some (.int .i64 0) ∧ w'.cell? ⟨w1.heap.size + 1, 2, none⟩ = some (.int .i64 263) ∧ w'.cell? ⟨w1.heap.size + 1, 3, none⟩ = some (.int .i64 269) ∧ w'.cell? ⟨w1.heap.size + 1, 4, none⟩ = some (.int .i64 0)) (go_keep) (fail)
    go_wp2
    refine bodyPost_ret (v := .tuple #[.pointer (some ⟨g', 0, none⟩), .agg #[.slice a1 out.length c1, .int .i64 (0 : Nat), .int .i64 263, .int .i64 269, .int .i64 0], .bool true]) (by simp [results, Try.results10, go_sem, y0, y1, y2, y3, y4]) rfl ?_
    refine ⟨g', a1, c1, out, 0, 263, 269, 0, rfl, ?_, ?_, .inr (by omega), .inr HFAR.out⟩
    · have e := sub_end hW3.out hCs.out HH.out hI3.out hol h.mlt (show w.heap.size ≤ w.heap.size + 1 + 1 by omega) (show w.heap.size + 1 + 1 ≠ g' by omega) hfar (.slice a1 out.length c1) (.int .i64 0) (.int .i64 263) (.int .i64 269) (.int .i64 0)
      exact e.1.drew
    · have e := sub_end hW3.out hCs.out HH.out hI3.out hol h.mlt (show w.heap.size ≤ w.heap.size + 1 + 1 by omega) (show w.heap.size + 1 + 1 ≠ g' by omega) hfar (.slice a1 out.length c1) (.int .i64 0) (.int .i64 263) (.int .i64 269) (.int .i64 0)
      exact by_drew e.2
end Go.Proofs.Ytgnmkdcoglbafaa
