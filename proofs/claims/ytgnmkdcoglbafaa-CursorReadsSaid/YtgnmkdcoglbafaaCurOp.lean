/- One operation on both cursors. -/
import Derived.Test.YtgnmkdcoglbafaaCurBoth
namespace Go.Proofs.Ytgnmkdcoglbafaa
open Go.RowKit

theorem three_block (w : World) (o : Obj) (t : TypeId) (v0 v1 v2 : Value) : ((w.alloc o).alloc (.cells #[v0, v1, v2] t)).cell? ⟨w.heap.size + 1, 0, none⟩ = some v0 ∧ ((w.alloc o).alloc (.cells #[v0, v1, v2] t)).cell? ⟨w.heap.size + 1, 1, none⟩ = some v1 ∧ ((w.alloc o).alloc (.cells #[v0, v1, v2] t)).cell? ⟨w.heap.size + 1, 2, none⟩ = some v2 := by simp

theorem Five.by {W W' : World} {b : Nat} {v0 v1 v2 v3 v4 : Value} {row : Option Nat} (h : Five W b v0 v1 v2 v3 v4) (hb : W.grownBy W' row) (hne : some b ≠ row) : Five W' b v0 v1 v2 v3 v4 :=
  ⟨hb.cell h.1 hne, hb.cell h.2.1 hne, hb.cell h.2.2.1 hne, hb.cell h.2.2.2.1 hne, hb.cell h.2.2.2.2 hne⟩
theorem free_by {W W' : World} {b : Nat} {row : Option Nat} (h : ∀ o, W.frozen? ⟨b, o, none⟩ = false) (hlt : b < W.heap.size) (hb : W.grownBy W' row) (hne : some b ≠ row) : ∀ o, W'.frozen? ⟨b, o, none⟩ = false :=
  fun o => (World.frozen?_of_block (a := ⟨b, o, none⟩) (hb.block b hlt hne)).trans (h o)

theorem by_set_new {w W : World} {row : Option Nat} (h : w.grownBy W row) {b : Nat} (hb : w.heap.size ≤ b) (i : Nat) (u : Value) : w.grownBy (W.setCell ⟨b, i, none⟩ u) row := by
  have k := by_setCell W b i u
  refine ⟨k.os.trans h.os, k.tape.trans h.tape, k.output.trans h.output, Nat.le_trans h.size k.size, fun j hj hne => ?_⟩
  exact (k.block j (Nat.lt_of_lt_of_le hj h.size) (by simp; omega)).trans (h.block j hj hne)
theorem Cur.set {w : World} {g M : Nat} {l : List Int} {r s o f : Int} (h : Cur w g M l r s o f) {b : Nat} (h1 : b ≠ g) (h2 : b ≠ M) (i : Nat) (u : Value) : Cur (w.setCell ⟨b, i, none⟩ u) g M l r s o f :=
  h.kept (by_setCell w b i u) (by simpa using h1) (by simpa using h2)
/-- behind the result's five cells -/
theorem op_end {w w3 : World} {g M : Nat} {a : Option Addr} {c : Nat} {B : List Int} {r r' : Nat} {s o f f' : Int} (h : St w g M a c B r s o f) (hr : r' ≤ B.length) (hC : Cur w3 g M (B.drop r') r' s o f') (hW : w.grownBy w3 (some g)) {b : Nat} (hb : w.heap.size ≤ b) (v0 v1 v2 v3 v4 : Value) :
    St (((((w3.setCell ⟨b, 0, none⟩ v0).setCell ⟨b, 1, none⟩ v1).setCell ⟨b, 2, none⟩ v2).setCell ⟨b, 3, none⟩ v3).setCell ⟨b, 4, none⟩ v4) g M a c B r' s o f' ∧
    w.grownBy (((((w3.setCell ⟨b, 0, none⟩ v0).setCell ⟨b, 1, none⟩ v1).setCell ⟨b, 2, none⟩ v2).setCell ⟨b, 3, none⟩ v3).setCell ⟨b, 4, none⟩ v4) (some g) := by
  have hg := h.cur.block_lt
  have hM := h.mlt
  have hW' := by_set_new (by_set_new (by_set_new (by_set_new (by_set_new hW hb 0 v0) hb 1 v1) hb 2 v2) hb 3 v3) hb 4 v4
  have n1 : b ≠ g := by omega
  have n2 : b ≠ M := by omega
  exact ⟨⟨((((hC.set n1 n2 0 v0).set n1 n2 1 v1).set n1 n2 2 v2).set n1 n2 3 v3).set n1 n2 4 v4, ⟨h.hol.cap, h.hol.max, h.cur.ints h.hol.ints (by simp) hW', h.hol.oct, h.hol.shape⟩, hr, h.len, h.sne, h.one, Nat.lt_of_lt_of_le hM hW'.size⟩, hW'⟩

/-- what op hands back -/
def OpPost (w : World) (g M : Nat) (a : Option Addr) (B : List Int) (e : Ending) (w' : World) : Prop :=
  ∃ (g2 : Nat) (a2 : Option Addr) (c2 : Nat) (B2 : List Int) (r2 : Nat) (s2 o2 f2 : Int),
    e = .returned (.tuple #[.pointer (some ⟨g2, 0, none⟩), .agg #[.slice a2 B2.length c2, .int .i64 r2, .int .i64 s2, .int .i64 o2, .int .i64 f2], .bool true]) ∧
    St w' g2 M a2 c2 B2 r2 s2 o2 f2 ∧ w.grownBy w' (some g) ∧ (g2 = g ∨ w.heap.size ≤ g2) ∧
    ((a2 = a ∧ B2 = B) ∨ a2 = none ∨ ∃ q, a2 = some ⟨q, 0, none⟩ ∧ w.heap.size ≤ q)

set_option maxRecDepth 100000 in
set_option maxHeartbeats 2000000 in
theorem op_bytes (w : World) (g M : Nat) (a : Option Addr) (c : Nat) (B : List Int) (r : Nat) (s o f n : Int) (v : Value) (h : St w g M a c B r s o f) :
    Calls Try.prog 10 #[.pointer (some ⟨g, 0, none⟩), .agg #[.slice a B.length c, .int .i64 r, .int .i64 s, .int .i64 o, .int .i64 f], .agg #[.int .i64 2, .int .i64 n, v]] w (OpPost w g M a B) := by
  obtain ⟨out, r', f', hr', hol, hRef, hProg⟩ := bytes_both h n
  have HR := hid hRef
  have HP := hid hProg
  have hg := h.cur.block_lt
  clear hRef hProg
  go_enter Try.func10, Try.ntmps10
  go_wp2_with fail
  refine (HR.out _ (h.hol.below (below_three w _ _ _))).mono ?_
  rintro e w1 ⟨a1, c1, rfl, hB1, hI1⟩
  have hz2 := free_below (b := w.heap.size + 1 + 1) (free_third w _ _ _ _) (by simp) hB1
  have hsz : w.heap.size + 1 + 1 < w1.heap.size := by have := hB1.size; simp at this; omega
  have hB2 := below_more (below_three w _ _ _) hB1
  obtain ⟨z0, z1, z2, z3, z4⟩ := Five.below (b := w.heap.size + 1 + 1) (v0 := .slice none 0 0) (v1 := .int .i64 0) (v2 := .int .i64 0) (v3 := .int .i64 0) (v4 := .int .i64 0) (five_third w _ _ _ _ _ _ _ _) hB1
  have n1 := cell_keep (cell_keep (three_block w _ _ _ _ _).2.1 (below_alloc _ _)) hB1
  clear hB1
  have HC := hid ((h.cur.below hB2).below (below_alloc w1 (.cells #[.slice a B.length c, .int .i64 r', .int .i64 s, .int .i64 o, .int .i64 f'] 30)) |>.below (below_drew _))
  have HF := hid (five_first w1 30 (.slice a B.length c) (.int .i64 r') (.int .i64 s) (.int .i64 o) (.int .i64 f')).drew
  have HN := hid (cell_keep (cell_keep n1 (below_alloc w1 (.cells #[.slice a B.length c, .int .i64 r', .int .i64 s, .int .i64 o, .int .i64 f'] 30))) (below_drew _))
  have HZ := hid (show Five _ _ _ _ _ _ _ from (Five.alloc ⟨z0, z1, z2, z3, z4⟩ (.cells #[.slice a B.length c, .int .i64 r', .int .i64 s, .int .i64 o, .int .i64 f'] 30)).drew)
  have HZ2 := hid (free_below (free_alloc hz2 hsz (.cells #[.slice a B.length c, .int .i64 r', .int .i64 s, .int .i64 o, .int .i64 f'] 30)) (by simp; omega) (below_drew _))
  have HI := hid ((hI1.below (below_alloc w1 (.cells #[.slice a B.length c, .int .i64 r', .int .i64 s, .int .i64 o, .int .i64 f'] 30))).below (below_drew _))
  have g1 : some w1.heap.size ≠ some g := by simp; omega
  have g2 : some (w.heap.size + 1) ≠ some g := by simp; omega
  have g3 : some (w.heap.size + 1 + 1) ≠ some g := by simp; omega
  have G1 := hid g1
  have G2 := hid g2
  have G3 := hid g3
  have hne5 : ¬ w.heap.size + 1 + 1 = w1.heap.size := by omega
  have hne6 : ¬ w.heap.size + 1 + 1 = w.heap.size + 1 := by omega
  clear g1 g2 g3
  go_wp2
  go_region_held3 (fun w' => w'.cell? ⟨w1.heap.size, 0, none⟩ = some (.slice a B.length c) ∧ w'.cell? ⟨w1.heap.size, 1, none⟩ = some (.int .i64 r') ∧ w'.cell? ⟨w1.heap.size, 2, none⟩ = some (.int .i64 s) ∧ w'.cell? ⟨w1.heap.size, 3, none⟩ = some (.int .i64 o) ∧ w'.cell? ⟨w1.heap.size, 4, none⟩ = some (.int .i64 f') ∧ w'.cell? ⟨w.heap.size + 1, 1, none⟩ = some (.int .i64 n)) (go_keep) ((first | (go_at_call 17; refine (HP.out _ HC.out).mono ?_; rintro e w2 ⟨a2, c2, rfl, hI2, hC2, hG2⟩; obtain ⟨p0, p1, p2, p3, p4⟩ := HF.out.by hG2 G1.out; have m1 := hG2.cell HN.out G2.out; obtain ⟨y0, y1, y2, y3, y4⟩ := HZ.out.by hG2 G3.out; have hy2 := free_by HZ2.out (by simp; omega) hG2 G3.out; have hI3 := HC.out.ints HI.out (by simp) hG2) | (go_at_call 12; refine (bytes_at out out a2 a1 _ _ _ _ w2 rfl rfl (by omega) (by omega) hI2 hI3).mono ?_; rintro e w3 ⟨rfl, hB3⟩; rw [beq_rfl]; obtain ⟨u0, u1, u2, u3, u4⟩ := Five.below ⟨p0, p1, p2, p3, p4⟩ hB3; have t1 := cell_keep m1 hB3; obtain ⟨x0, x1, x2, x3, x4⟩ := Five.below ⟨y0, y1, y2, y3, y4⟩ hB3; have hx2 := free_below hy2 (by have := hG2.size; simp at this; omega) hB3)))
  have hW := hid (grownBy_then (grownBy_then (grownBy_more (below_by_none (below_more (below_more hB2 (below_alloc w1 _)) (below_drew _)))) hG2) (grownBy_more (below_by_none hB3)))
  have hE := hid (op_end h hr' (hC2.below hB3) hW.out (show w.heap.size ≤ w.heap.size + 1 + 1 by omega) (.slice a B.length c) (.int .i64 r') (.int .i64 s) (.int .i64 o) (.int .i64 f'))
  clear hB2 hB3 hG2 hC2 hW HC HP HR
  go_wp2
  refine bodyPost_ret (v := .tuple #[.pointer (some ⟨g, 0, none⟩), .agg #[.slice a B.length c, .int .i64 r', .int .i64 s, .int .i64 o, .int .i64 f'], .bool true]) (by simp [results, Try.results10, go_sem, x0, x1, x2, x3, x4]) rfl ⟨g, a, c, B, r', s, o, f', rfl, hE.out.1, hE.out.2, .inl rfl, .inl ⟨rfl, rfl⟩⟩


set_option maxRecDepth 100000 in
set_option maxHeartbeats 2000000 in
theorem op_num (w : World) (g M : Nat) (a : Option Addr) (c : Nat) (B : List Int) (r : Nat) (s o f n : Int) (v : Value) (h : St w g M a c B r s o f) :
    Calls Try.prog 10 #[.pointer (some ⟨g, 0, none⟩), .agg #[.slice a B.length c, .int .i64 r, .int .i64 s, .int .i64 o, .int .i64 f], .agg #[.int .i64 0, .int .i64 n, v]] w (OpPost w g M a B) := by
  obtain ⟨y, r', f', hr', hRef, hProg⟩ := num_both h n
  have HR := hid hRef
  have HP := hid hProg
  have hg := h.cur.block_lt
  clear hRef hProg
  go_enter Try.func10, Try.ntmps10
  go_wp2_with fail
  refine (HR.out _ (h.hol.below (below_three w _ _ _))).mono ?_
  rintro e w1 ⟨rfl, hB1⟩
  have hz2 := free_below (b := w.heap.size + 1 + 1) (free_third w _ _ _ _) (by simp) hB1
  have hsz : w.heap.size + 1 + 1 < w1.heap.size := by have := hB1.size; simp at this; omega
  have hB2 := below_more (below_three w _ _ _) hB1
  obtain ⟨z0, z1, z2, z3, z4⟩ := Five.below (b := w.heap.size + 1 + 1) (v0 := .slice none 0 0) (v1 := .int .i64 0) (v2 := .int .i64 0) (v3 := .int .i64 0) (v4 := .int .i64 0) (five_third w _ _ _ _ _ _ _ _) hB1
  have n1 := cell_keep (cell_keep (three_block w _ _ _ _ _).2.1 (below_alloc _ _)) hB1
  clear hB1
  have HC := hid ((h.cur.below hB2).below (below_alloc w1 (.cells #[.slice a B.length c, .int .i64 r', .int .i64 s, .int .i64 o, .int .i64 f'] 30)) |>.below (below_drew _))
  have HF := hid (five_first w1 30 (.slice a B.length c) (.int .i64 r') (.int .i64 s) (.int .i64 o) (.int .i64 f')).drew
  have HN := hid (cell_keep (cell_keep n1 (below_alloc w1 (.cells #[.slice a B.length c, .int .i64 r', .int .i64 s, .int .i64 o, .int .i64 f'] 30))) (below_drew _))
  have HZ := hid (show Five _ _ _ _ _ _ _ from (Five.alloc ⟨z0, z1, z2, z3, z4⟩ (.cells #[.slice a B.length c, .int .i64 r', .int .i64 s, .int .i64 o, .int .i64 f'] 30)).drew)
  have HZ2 := hid (free_below (free_alloc hz2 hsz (.cells #[.slice a B.length c, .int .i64 r', .int .i64 s, .int .i64 o, .int .i64 f'] 30)) (by simp; omega) (below_drew _))
  have g1 : some w1.heap.size ≠ some g := by simp; omega
  have g2 : some (w.heap.size + 1) ≠ some g := by simp; omega
  have g3 : some (w.heap.size + 1 + 1) ≠ some g := by simp; omega
  have G1 := hid g1
  have G2 := hid g2
  have G3 := hid g3
  have hne5 : ¬ w.heap.size + 1 + 1 = w1.heap.size := by omega
  have hne6 : ¬ w.heap.size + 1 + 1 = w.heap.size + 1 := by omega
  clear g1 g2 g3
  go_wp2
  go_region_held3 (fun w' => w'.cell? ⟨w1.heap.size, 0, none⟩ = some (.slice a B.length c) ∧ w'.cell? ⟨w1.heap.size, 1, none⟩ = some (.int .i64 r') ∧ w'.cell? ⟨w1.heap.size, 2, none⟩ = some (.int .i64 s) ∧ w'.cell? ⟨w1.heap.size, 3, none⟩ = some (.int .i64 o) ∧ w'.cell? ⟨w1.heap.size, 4, none⟩ = some (.int .i64 f') ∧ w'.cell? ⟨w.heap.size + 1, 1, none⟩ = some (.int .i64 n)) (go_keep) ((go_at_call 20; refine (HP.out _ HC.out).mono ?_; rintro e w2 ⟨rfl, hC2, hG2⟩; obtain ⟨p0, p1, p2, p3, p4⟩ := HF.out.by hG2 G1.out; have m1 := hG2.cell HN.out G2.out; obtain ⟨y0, y1, y2, y3, y4⟩ := HZ.out.by hG2 G3.out; have hy2 := free_by HZ2.out (by simp; omega) hG2 G3.out))
  have hW := hid (grownBy_then (grownBy_more (below_by_none (below_more (below_more hB2 (below_alloc w1 _)) (below_drew _)))) hG2)
  have hE := hid (op_end h hr' hC2 hW.out (show w.heap.size ≤ w.heap.size + 1 + 1 by omega) (.slice a B.length c) (.int .i64 r') (.int .i64 s) (.int .i64 o) (.int .i64 f'))
  clear hB2 hG2 hC2 hW HC HP HR
  go_wp2
  refine bodyPost_ret (v := .tuple #[.pointer (some ⟨g, 0, none⟩), .agg #[.slice a B.length c, .int .i64 r', .int .i64 s, .int .i64 o, .int .i64 f'], .bool true]) (by simp [results, Try.results10, go_sem, y0, y1, y2, y3, y4]) rfl ⟨g, a, c, B, r', s, o, f', rfl, hE.out.1, hE.out.2, .inl rfl, .inl ⟨rfl, rfl⟩⟩


set_option maxRecDepth 100000 in
set_option maxHeartbeats 2000000 in
theorem op_rest (w : World) (g M : Nat) (a : Option Addr) (c : Nat) (B : List Int) (r : Nat) (s o f : Int) (u v : Value) (h : St w g M a c B r s o f) :
    Calls Try.prog 10 #[.pointer (some ⟨g, 0, none⟩), .agg #[.slice a B.length c, .int .i64 r, .int .i64 s, .int .i64 o, .int .i64 f], .agg #[.int .i64 3, u, v]] w (OpPost w g M a B) := by
  obtain ⟨out, r', f', hr', hol, hRef, hProg⟩ := rest_both h
  have HR := hid hRef
  have HP := hid hProg
  have hg := h.cur.block_lt
  clear hRef hProg
  go_enter Try.func10, Try.ntmps10
  go_wp2_with fail
  refine (HR.out _ (h.hol.below (below_three w _ _ _))).mono ?_
  rintro e w1 ⟨a1, c1, rfl, hB1, hI1⟩
  have hz2 := free_below (b := w.heap.size + 1 + 1) (free_third w _ _ _ _) (by simp) hB1
  have hsz : w.heap.size + 1 + 1 < w1.heap.size := by have := hB1.size; simp at this; omega
  have hB2 := below_more (below_three w _ _ _) hB1
  obtain ⟨z0, z1, z2, z3, z4⟩ := Five.below (b := w.heap.size + 1 + 1) (v0 := .slice none 0 0) (v1 := .int .i64 0) (v2 := .int .i64 0) (v3 := .int .i64 0) (v4 := .int .i64 0) (five_third w _ _ _ _ _ _ _ _) hB1
  clear hB1
  have HC := hid ((h.cur.below hB2).below (below_alloc w1 (.cells #[.slice a B.length c, .int .i64 r', .int .i64 s, .int .i64 o, .int .i64 f'] 30)) |>.below (below_drew _))
  have HF := hid (five_first w1 30 (.slice a B.length c) (.int .i64 r') (.int .i64 s) (.int .i64 o) (.int .i64 f')).drew
  have HZ := hid (show Five _ _ _ _ _ _ _ from (Five.alloc ⟨z0, z1, z2, z3, z4⟩ (.cells #[.slice a B.length c, .int .i64 r', .int .i64 s, .int .i64 o, .int .i64 f'] 30)).drew)
  have HZ2 := hid (free_below (free_alloc hz2 hsz (.cells #[.slice a B.length c, .int .i64 r', .int .i64 s, .int .i64 o, .int .i64 f'] 30)) (by simp; omega) (below_drew _))
  have HI := hid ((hI1.below (below_alloc w1 (.cells #[.slice a B.length c, .int .i64 r', .int .i64 s, .int .i64 o, .int .i64 f'] 30))).below (below_drew _))
  have g1 : some w1.heap.size ≠ some g := by simp; omega
  have g3 : some (w.heap.size + 1 + 1) ≠ some g := by simp; omega
  have G1 := hid g1
  have G3 := hid g3
  have hne5 : ¬ w.heap.size + 1 + 1 = w1.heap.size := by omega
  have hne6 : ¬ w.heap.size + 1 + 1 = w.heap.size + 1 := by omega
  clear g1 g3
  go_wp2
  go_region_held3 (fun w' => w'.cell? ⟨w1.heap.size, 0, none⟩ = some (.slice a B.length c) ∧ w'.cell? ⟨w1.heap.size, 1, none⟩ = some (.int .i64 r') ∧ w'.cell? ⟨w1.heap.size, 2, none⟩ = some (.int .i64 s) ∧ w'.cell? ⟨w1.heap.size, 3, none⟩ = some (.int .i64 o) ∧ w'.cell? ⟨w1.heap.size, 4, none⟩ = some (.int .i64 f')) (go_keep) ((first | (go_at_call 18; refine (HP.out _ HC.out).mono ?_; rintro e w2 ⟨a2, c2, rfl, hI2, hC2, hG2⟩; obtain ⟨p0, p1, p2, p3, p4⟩ := HF.out.by hG2 G1.out; obtain ⟨y0, y1, y2, y3, y4⟩ := HZ.out.by hG2 G3.out; have hy2 := free_by HZ2.out (by simp; omega) hG2 G3.out; have hI3 := HC.out.ints HI.out (by simp) hG2) | (go_at_call 12; refine (bytes_at out out a2 a1 _ _ _ _ w2 rfl rfl (by omega) (by omega) hI2 hI3).mono ?_; rintro e w3 ⟨rfl, hB3⟩; rw [beq_rfl]; obtain ⟨u0, u1, u2, u3, u4⟩ := Five.below ⟨p0, p1, p2, p3, p4⟩ hB3; obtain ⟨x0, x1, x2, x3, x4⟩ := Five.below ⟨y0, y1, y2, y3, y4⟩ hB3; have hx2 := free_below hy2 (by have := hG2.size; simp at this; omega) hB3)))
  have hW := hid (grownBy_then (grownBy_then (grownBy_more (below_by_none (below_more (below_more hB2 (below_alloc w1 _)) (below_drew _)))) hG2) (grownBy_more (below_by_none hB3)))
  have hE := hid (op_end h hr' (hC2.below hB3) hW.out (show w.heap.size ≤ w.heap.size + 1 + 1 by omega) (.slice a B.length c) (.int .i64 r') (.int .i64 s) (.int .i64 o) (.int .i64 f'))
  clear hB2 hB3 hG2 hC2 hW HC HP HR
  go_wp2
  refine bodyPost_ret (v := .tuple #[.pointer (some ⟨g, 0, none⟩), .agg #[.slice a B.length c, .int .i64 r', .int .i64 s, .int .i64 o, .int .i64 f'], .bool true]) (by simp [results, Try.results10, go_sem, x0, x1, x2, x3, x4]) rfl ⟨g, a, c, B, r', s, o, f', rfl, hE.out.1, hE.out.2, .inl rfl, .inl ⟨rfl, rfl⟩⟩


set_option maxRecDepth 100000 in
set_option maxHeartbeats 2000000 in
theorem op_row (w : World) (g M : Nat) (a : Option Addr) (c : Nat) (B : List Int) (r : Nat) (s o f : Int) (u : Value) (ws : List Int) (x : Option Addr) (d : Nat) (hw : ws.length ≤ 9223372036854775807) (hx : Ints .i64 w x ws) (h : St w g M a c B r s o f) :
    Calls Try.prog 10 #[.pointer (some ⟨g, 0, none⟩), .agg #[.slice a B.length c, .int .i64 r, .int .i64 s, .int .i64 o, .int .i64 f], .agg #[.int .i64 1, u, .slice x ws.length d]] w (OpPost w g M a B) := by
  obtain ⟨out, r', f', hr', hol, hRef, hProg⟩ := row_both h ws hw
  have HR := hid hRef
  have HP := hid hProg
  have hg := h.cur.block_lt
  clear hRef hProg
  go_enter Try.func10, Try.ntmps10
  go_wp2_with fail
  refine (HR.out _ (h.hol.below (below_three w _ _ _)) x d (hx.below (below_three w _ _ _))).mono ?_
  rintro e w1 ⟨a1, c1, rfl, hB1, hI1, _⟩
  have hz2 := free_below (b := w.heap.size + 1 + 1) (free_third w _ _ _ _) (by simp) hB1
  have hsz : w.heap.size + 1 + 1 < w1.heap.size := by have := hB1.size; simp at this; omega
  have hB2 := below_more (below_three w _ _ _) hB1
  obtain ⟨z0, z1, z2, z3, z4⟩ := Five.below (b := w.heap.size + 1 + 1) (v0 := .slice none 0 0) (v1 := .int .i64 0) (v2 := .int .i64 0) (v3 := .int .i64 0) (v4 := .int .i64 0) (five_third w _ _ _ _ _ _ _ _) hB1
  have n1 := cell_keep (cell_keep (three_block w _ _ _ _ _).2.2 (below_alloc _ _)) hB1
  clear hB1
  have HC := hid ((h.cur.below hB2).below (below_alloc w1 (.cells #[.slice a B.length c, .int .i64 r', .int .i64 s, .int .i64 o, .int .i64 f'] 30)) |>.below (below_drew _))
  have HF := hid (five_first w1 30 (.slice a B.length c) (.int .i64 r') (.int .i64 s) (.int .i64 o) (.int .i64 f')).drew
  have HN := hid (cell_keep (cell_keep n1 (below_alloc w1 (.cells #[.slice a B.length c, .int .i64 r', .int .i64 s, .int .i64 o, .int .i64 f'] 30))) (below_drew _))
  have HZ := hid (show Five _ _ _ _ _ _ _ from (Five.alloc ⟨z0, z1, z2, z3, z4⟩ (.cells #[.slice a B.length c, .int .i64 r', .int .i64 s, .int .i64 o, .int .i64 f'] 30)).drew)
  have HZ2 := hid (free_below (free_alloc hz2 hsz (.cells #[.slice a B.length c, .int .i64 r', .int .i64 s, .int .i64 o, .int .i64 f'] 30)) (by simp; omega) (below_drew _))
  have HI := hid ((hI1.below (below_alloc w1 (.cells #[.slice a B.length c, .int .i64 r', .int .i64 s, .int .i64 o, .int .i64 f'] 30))).below (below_drew _))
  have HX := hid (((hx.below hB2).below (below_alloc w1 (.cells #[.slice a B.length c, .int .i64 r', .int .i64 s, .int .i64 o, .int .i64 f'] 30))).below (below_drew _))
  have g1 : some w1.heap.size ≠ some g := by simp; omega
  have g2 : some (w.heap.size + 1) ≠ some g := by simp; omega
  have g3 : some (w.heap.size + 1 + 1) ≠ some g := by simp; omega
  have G1 := hid g1
  have G2 := hid g2
  have G3 := hid g3
  have hne5 : ¬ w.heap.size + 1 + 1 = w1.heap.size := by omega
  have hne6 : ¬ w.heap.size + 1 + 1 = w.heap.size + 1 := by omega
  clear g1 g2 g3
  go_wp2
  go_region_held3 (fun w' => w'.cell? ⟨w1.heap.size, 0, none⟩ = some (.slice a B.length c) ∧ w'.cell? ⟨w1.heap.size, 1, none⟩ = some (.int .i64 r') ∧ w'.cell? ⟨w1.heap.size, 2, none⟩ = some (.int .i64 s) ∧ w'.cell? ⟨w1.heap.size, 3, none⟩ = some (.int .i64 o) ∧ w'.cell? ⟨w1.heap.size, 4, none⟩ = some (.int .i64 f') ∧ w'.cell? ⟨w.heap.size + 1, 2, none⟩ = some (.slice x ws.length d)) (go_keep) ((first | (go_at_call 21; refine (HP.out _ HC.out x d HX.out).mono ?_; rintro e w2 ⟨a2, c2, rfl, hI2, hC2, hG2⟩; obtain ⟨p0, p1, p2, p3, p4⟩ := HF.out.by hG2 G1.out; have m1 := hG2.cell HN.out G2.out; obtain ⟨y0, y1, y2, y3, y4⟩ := HZ.out.by hG2 G3.out; have hy2 := free_by HZ2.out (by simp; omega) hG2 G3.out; have hI3 := HC.out.ints HI.out (by simp) hG2) | (go_at_call 22; refine (nums_at out out a2 a1 _ _ _ _ w2 rfl rfl (by omega) (by omega) hI2 hI3).mono ?_; rintro e w3 ⟨rfl, hB3⟩; rw [beq_rfl]; obtain ⟨u0, u1, u2, u3, u4⟩ := Five.below ⟨p0, p1, p2, p3, p4⟩ hB3; have t1 := cell_keep m1 hB3; obtain ⟨x0, x1, x2, x3, x4⟩ := Five.below ⟨y0, y1, y2, y3, y4⟩ hB3; have hx2 := free_below hy2 (by have := hG2.size; simp at this; omega) hB3)))
  have hW := hid (grownBy_then (grownBy_then (grownBy_more (below_by_none (below_more (below_more hB2 (below_alloc w1 _)) (below_drew _)))) hG2) (grownBy_more (below_by_none hB3)))
  have hE := hid (op_end h hr' (hC2.below hB3) hW.out (show w.heap.size ≤ w.heap.size + 1 + 1 by omega) (.slice a B.length c) (.int .i64 r') (.int .i64 s) (.int .i64 o) (.int .i64 f'))
  clear hB2 hB3 hG2 hC2 hW HC HP HR
  go_wp2
  refine bodyPost_ret (v := .tuple #[.pointer (some ⟨g, 0, none⟩), .agg #[.slice a B.length c, .int .i64 r', .int .i64 s, .int .i64 o, .int .i64 f'], .bool true]) (by simp [results, Try.results10, go_sem, x0, x1, x2, x3, x4]) rfl ⟨g, a, c, B, r', s, o, f', rfl, hE.out.1, hE.out.2, .inl rfl, .inl ⟨rfl, rfl⟩⟩


set_option maxRecDepth 100000 in
set_option maxHeartbeats 2000000 in
theorem op_fail (w : World) (g M : Nat) (a : Option Addr) (c : Nat) (B : List Int) (r : Nat) (s o f n k : Int) (v : Value) (h : St w g M a c B r s o f) (k0 : (k == 0) = false) (k1 : (k == 1) = false) (k2 : (k == 2) = false) (k3 : (k == 3) = false) (k4 : (k == 4) = false) :
    Calls Try.prog 10 #[.pointer (some ⟨g, 0, none⟩), .agg #[.slice a B.length c, .int .i64 r, .int .i64 s, .int .i64 o, .int .i64 f], .agg #[.int .i64 k, .int .i64 n, v]] w (OpPost w g M a B) := by
  obtain ⟨f', hRef, hProg⟩ := fail_both h n
  have HR := hid hRef
  have HP := hid hProg
  have hg := h.cur.block_lt
  clear hRef hProg
  go_enter Try.func10, Try.ntmps10
  go_wp2_with fail
  refine (HP.out _ (h.cur.below (below_three w _ _ _))).mono ?_
  rintro e w1 ⟨rfl, hC1, hG1⟩
  have g0 : some w.heap.size ≠ some g := by simp; omega
  have g1 : some (w.heap.size + 1) ≠ some g := by simp; omega
  have g2 : some (w.heap.size + 1 + 1) ≠ some g := by simp; omega
  obtain ⟨q0, q1, q2, q3, q4⟩ := ((five_first w 30 (.slice a B.length c) (.int .i64 r) (.int .i64 s) (.int .i64 o) (.int .i64 f)).alloc _ |>.alloc _).by hG1 g0
  have n1 := hG1.cell (cell_keep (three_block w _ _ _ _ _).2.1 (below_alloc _ _)) g1
  obtain ⟨z0, z1, z2, z3, z4⟩ := (five_third w _ _ _ (.slice none 0 0) (.int .i64 0) (.int .i64 0) (.int .i64 0) (.int .i64 0)).by hG1 g2
  have hz2 := free_by (b := w.heap.size + 1 + 1) (free_third w _ _ _ _) (by simp) hG1 g2
  have hsz : w.heap.size + 1 + 1 < w1.heap.size := by have := hG1.size; simp at this; omega
  have hW := hid (grownBy_then (grownBy_more (below_by_none (below_three w _ _ _))) hG1)
  clear g0 g1 g2 hG1 HP
  go_wp2_with fail
  refine (HR.out _).mono ?_
  rintro e w3 ⟨rfl, hB3⟩
  obtain ⟨x0, x1, x2, x3, x4⟩ := Five.below ⟨z0, z1, z2, z3, z4⟩ hB3
  have hx2 := free_below hz2 hsz hB3
  have hE := hid (op_end h h.rle (hC1.below hB3) (grownBy_then hW.out (grownBy_more (below_by_none hB3))) (show w.heap.size ≤ w.heap.size + 1 + 1 by omega) (.slice a B.length c) (.int .i64 r) (.int .i64 s) (.int .i64 o) (.int .i64 f'))
  clear hB3 hC1 hW HR
  go_wp2
  refine bodyPost_ret (v := .tuple #[.pointer (some ⟨g, 0, none⟩), .agg #[.slice a B.length c, .int .i64 r, .int .i64 s, .int .i64 o, .int .i64 f'], .bool true]) (by simp [results, Try.results10, go_sem, x0, x1, x2, x3, x4]) rfl ⟨g, a, c, B, r, s, o, f', rfl, hE.out.1, hE.out.2, .inl rfl, .inl ⟨rfl, rfl⟩⟩
end Go.Proofs.Ytgnmkdcoglbafaa
