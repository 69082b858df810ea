/- Contracts of the document's cursor: Num, Sub. -/
import Derived.Test.YtgnmkdcoglbafaaRefCurC
namespace Go.Proofs.Ytgnmkdcoglbafaa
open Go.RowKit

theorem ints_at' (k : IntKind) (W : World) (q : Int) (e : TypeId) {g : Nat} (h : W.heap.size = g) : Ints k (W.alloc (.cells #[.int k q] e)) (some ⟨g, 0, none⟩) [q] := by
  subst h; exact ints_one k W q e
theorem set_same {W : World} {b i : Nat} {u : Value} (h : W.cell? ⟨b, i, none⟩ = some u) (v : Value) : (W.setCell ⟨b, i, none⟩ v).cell? ⟨b, i, none⟩ = some v := World.cell?_setCell_same _ _ _ h
theorem set_off {W : World} {b i j : Nat} (v : Value) {u : Value} (hij : i ≠ j) (h : W.cell? ⟨b, j, none⟩ = some u) : (W.setCell ⟨b, i, none⟩ v).cell? ⟨b, j, none⟩ = some u := (World.cell?_setCell_other _ _ _ _ (by intro e; injection e with _ e2; exact hij e2)).trans h
theorem set_far {W : World} {b c i j : Nat} (v : Value) {u : Value} (hbc : b ≠ c) (h : W.cell? ⟨c, j, none⟩ = some u) : (W.setCell ⟨b, i, none⟩ v).cell? ⟨c, j, none⟩ = some u := (World.cell?_setCell_other _ _ _ _ (by intro e; injection e with e1; exact hbc e1)).trans h
/-- a struct of five that is written over another -/
theorem five_set {W : World} {b : Nat} {u0 u1 u2 u3 u4 : Value} (h : Five W b u0 u1 u2 u3 u4) (v0 v1 v2 v3 v4 : Value) :
    Five (((((W.setCell ⟨b, 0, none⟩ v0).setCell ⟨b, 1, none⟩ v1).setCell ⟨b, 2, none⟩ v2).setCell ⟨b, 3, none⟩ v3).setCell ⟨b, 4, none⟩ v4) b v0 v1 v2 v3 v4 := by
  obtain ⟨h0, h1, h2, h3, h4⟩ := h
  have a0 := set_same h0 v0
  have a1 := set_off v0 (show 0 ≠ 1 by decide) h1
  have a2 := set_off v0 (show 0 ≠ 2 by decide) h2
  have a3 := set_off v0 (show 0 ≠ 3 by decide) h3
  have a4 := set_off v0 (show 0 ≠ 4 by decide) h4
  have b0 := set_off v1 (show 1 ≠ 0 by decide) a0
  have b1 := set_same a1 v1
  have b2 := set_off v1 (show 1 ≠ 2 by decide) a2
  have b3 := set_off v1 (show 1 ≠ 3 by decide) a3
  have b4 := set_off v1 (show 1 ≠ 4 by decide) a4
  have c0 := set_off v2 (show 2 ≠ 0 by decide) b0
  have c1 := set_off v2 (show 2 ≠ 1 by decide) b1
  have c2 := set_same b2 v2
  have c3 := set_off v2 (show 2 ≠ 3 by decide) b3
  have c4 := set_off v2 (show 2 ≠ 4 by decide) b4
  have d0 := set_off v3 (show 3 ≠ 0 by decide) c0
  have d1 := set_off v3 (show 3 ≠ 1 by decide) c1
  have d2 := set_off v3 (show 3 ≠ 2 by decide) c2
  have d3 := set_same c3 v3
  have d4 := set_off v3 (show 3 ≠ 4 by decide) c4
  exact ⟨set_off v4 (show 4 ≠ 0 by decide) d0, set_off v4 (show 4 ≠ 1 by decide) d1, set_off v4 (show 4 ≠ 2 by decide) d2, set_off v4 (show 4 ≠ 3 by decide) d3, set_same d4 v4⟩
theorem five_set_far {W : World} {b c j : Nat} (v0 v1 v2 v3 v4 : Value) {u : Value} (hbc : b ≠ c) (h : W.cell? ⟨c, j, none⟩ = some u) :
    (((((W.setCell ⟨b, 0, none⟩ v0).setCell ⟨b, 1, none⟩ v1).setCell ⟨b, 2, none⟩ v2).setCell ⟨b, 3, none⟩ v3).setCell ⟨b, 4, none⟩ v4).cell? ⟨c, j, none⟩ = some u :=
  set_far _ hbc (set_far _ hbc (set_far _ hbc (set_far _ hbc (set_far _ hbc h))))
theorem five_set_five {W : World} {b c : Nat} {u0 u1 u2 u3 u4 : Value} (v0 v1 v2 v3 v4 : Value) (hbc : b ≠ c) (h : Five W c u0 u1 u2 u3 u4) :
    Five (((((W.setCell ⟨b, 0, none⟩ v0).setCell ⟨b, 1, none⟩ v1).setCell ⟨b, 2, none⟩ v2).setCell ⟨b, 3, none⟩ v3).setCell ⟨b, 4, none⟩ v4) c u0 u1 u2 u3 u4 :=
  ⟨five_set_far _ _ _ _ _ hbc h.1, five_set_far _ _ _ _ _ hbc h.2.1, five_set_far _ _ _ _ _ hbc h.2.2.1, five_set_far _ _ _ _ _ hbc h.2.2.2.1, five_set_far _ _ _ _ _ hbc h.2.2.2.2⟩
theorem five_first (w : World) (t : TypeId) (v0 v1 v2 v3 v4 : Value) : Five (w.alloc (.cells #[v0, v1, v2, v3, v4] t)) w.heap.size v0 v1 v2 v3 v4 := by simp [Five]
theorem five_second (w : World) (o : Obj) (t : TypeId) (v0 v1 v2 v3 v4 : Value) : Five ((w.alloc o).alloc (.cells #[v0, v1, v2, v3, v4] t)) (w.heap.size + 1) v0 v1 v2 v3 v4 := by simp [Five]
theorem Five.alloc {W : World} {b : Nat} {v0 v1 v2 v3 v4 : Value} (h : Five W b v0 v1 v2 v3 v4) (o : Obj) : Five (W.alloc o) b v0 v1 v2 v3 v4 := h.below (below_alloc W o)
theorem free_first (w : World) (cs : Array Value) (t : TypeId) : ∀ o, (w.alloc (.cells cs t)).frozen? ⟨w.heap.size, o, none⟩ = false := by simp
theorem free_second (w : World) (o1 : Obj) (cs : Array Value) (t : TypeId) : ∀ o, ((w.alloc o1).alloc (.cells cs t)).frozen? ⟨w.heap.size + 1, o, none⟩ = false := by simp
theorem free_alloc {W : World} {b : Nat} (h : ∀ o, W.frozen? ⟨b, o, none⟩ = false) (hlt : b < W.heap.size) (o1 : Obj) : ∀ o, (W.alloc o1).frozen? ⟨b, o, none⟩ = false := free_below h hlt (below_alloc W o1)
theorem five_third (w : World) (o o1 : Obj) (t : TypeId) (v0 v1 v2 v3 v4 : Value) : Five (((w.alloc o).alloc o1).alloc (.cells #[v0, v1, v2, v3, v4] t)) (w.heap.size + 1 + 1) v0 v1 v2 v3 v4 := by
  have h := five_first ((w.alloc o).alloc o1) t v0 v1 v2 v3 v4
  rwa [show ((w.alloc o).alloc o1).heap.size = w.heap.size + 1 + 1 by simp] at h
theorem Five.drew {W : World} {b : Nat} {v0 v1 v2 v3 v4 : Value} (h : Five W b v0 v1 v2 v3 v4) : Five W.drew b v0 v1 v2 v3 v4 := h
theorem free_third (w : World) (o1 o2 : Obj) (cs : Array Value) (t : TypeId) : ∀ o, (((w.alloc o1).alloc o2).alloc (.cells cs t)).frozen? ⟨w.heap.size + 1 + 1, o, none⟩ = false := by
  have h := free_first ((w.alloc o1).alloc o2) cs t
  rwa [show ((w.alloc o1).alloc o2).heap.size = w.heap.size + 1 + 1 by simp] at h
theorem below_three' (w : World) (o o' o2 : Obj) : Below w.heap.size w (((w.alloc o).alloc o').alloc o2) := below_three w o o' o2

theorem refNum_bad (w : World) (a : Option Addr) (m c : Nat) (r s o f f' n : Int) (hn : n < 1 ∨ 8 < n) (hf : (f = 0 ∧ f' = 10001) ∨ (f ≠ 0 ∧ f' = f)) :
    Calls Try.prog 25 #[.agg #[.slice a m c, .int .i64 r, .int .i64 s, .int .i64 o, .int .i64 f], .int .i64 n] w fun e w' => e = .returned (.tuple #[.agg #[.slice a m c, .int .i64 r, .int .i64 s, .int .i64 o, .int .i64 f'], .int .u64 0]) ∧ Below w.heap.size w w' := by
  have hFail : Hid (∀ w1, Calls Try.prog 31 #[.agg #[.slice a m c, .int .i64 r, .int .i64 s, .int .i64 o, .int .i64 f], .int .i64 10001] w1 fun e w' => e = .returned (.agg #[.slice a m c, .int .i64 r, .int .i64 s, .int .i64 o, .int .i64 f']) ∧ Below w1.heap.size w1 w') := by
    intro w1
    rcases hf with ⟨rfl, rfl⟩ | ⟨h, rfl⟩
    · exact refFail_first w1 a m c r s o 10001
    · exact refFail_late w1 a m c r s o _ 10001 h
  clear hf
  rcases (show n < 1 ∨ (¬ n < 1 ∧ 8 < n) by omega) with h1 | ⟨h1, h8⟩
  all_goals
    clear hn
    go_enter Try.func25, Try.ntmps25
    go_wp2_with fail
    refine (hFail.out _).mono ?_
    rintro e w1 ⟨rfl, hB1⟩
    obtain ⟨z0, z1, z2, z3, z4⟩ := Five.below (b := w.heap.size + 1) (v0 := .slice none 0 0) (v1 := .int .i64 0) (v2 := .int .i64 0) (v3 := .int .i64 0) (v4 := .int .i64 0) (by simp [Five]) hB1
    have hz1 := free_below (b := w.heap.size + 1) (by simp) (by simp) hB1
    have hB2 := below_more (below_two w _ _) hB1
    clear hB1 hFail
    go_wp2
    refine bodyPost_ret (v := .tuple #[.agg #[.slice a m c, .int .i64 r, .int .i64 s, .int .i64 o, .int .i64 f'], .int .u64 0]) (by simp [results, Try.results25, go_sem, z0, z1, z2, z3, z4]) rfl ⟨rfl, ?_⟩
    repeat refine Below.setCell ?_ (by simp) _
    exact hB2

theorem refNum_zero (w : World) (a : Option Addr) (m c : Nat) (r s o f r' f' n : Int) (h1 : ¬ n < 1) (h8 : ¬ 8 < n)
    (hR : ∀ w1, Below w.heap.size w w1 → ∀ x, Ints .i64 w1 x [n] → Calls Try.prog 26 #[.agg #[.slice a m c, .int .i64 r, .int .i64 s, .int .i64 o, .int .i64 f], .slice x 1 1] w1 (RefRow w1 a m c r' s o f' [])) :
    Calls Try.prog 25 #[.agg #[.slice a m c, .int .i64 r, .int .i64 s, .int .i64 o, .int .i64 f], .int .i64 n] w fun e w' => e = .returned (.tuple #[.agg #[.slice a m c, .int .i64 r', .int .i64 s, .int .i64 o, .int .i64 f'], .int .u64 0]) ∧ Below w.heap.size w w' := by
  have HR := hid hR
  clear hR
  go_enter Try.func25, Try.ntmps25
  go_wp2_with fail
  refine (HR.out _ (below_three w _ _ _) _ ?_).mono ?_
  · exact ints_at' _ _ _ _ (by simp)
  rintro e w1 ⟨a', c', rfl, hB1, hI, hfar⟩
  obtain ⟨q0, q1, q2, q3, q4⟩ := Five.below (b := w.heap.size) (v0 := .slice a m c) (v1 := .int .i64 r) (v2 := .int .i64 s) (v3 := .int .i64 o) (v4 := .int .i64 f) (((five_first w _ _ _ _ _ _).alloc _).alloc _) hB1
  obtain ⟨z0, z1, z2, z3, z4⟩ := Five.below (b := w.heap.size + 1) (v0 := .slice none 0 0) (v1 := .int .i64 0) (v2 := .int .i64 0) (v3 := .int .i64 0) (v4 := .int .i64 0) ((five_second w _ _ _ _ _ _ _).alloc _) hB1
  have hz1 := free_below (b := w.heap.size + 1) (free_alloc (free_second w _ _ _) (by simp) _) (by simp) hB1
  have hz0 := free_below (b := w.heap.size) (free_alloc (free_alloc (free_first w _ _) (by simp) _) (by simp; omega) _) (by simp; omega) hB1
  have hB2 := below_more (below_three w _ _ _) hB1
  clear hB1 HR
  go_wp2
  refine bodyPost_ret (v := .tuple #[.agg #[.slice a m c, .int .i64 r', .int .i64 s, .int .i64 o, .int .i64 f'], .int .u64 0]) (by simp [results, Try.results25, go_sem, z0, z1, z2, z3, z4]) rfl ⟨rfl, ?_⟩
  repeat refine Below.setCell ?_ (by simp) _
  exact hB2

theorem refNum_one (w : World) (a : Option Addr) (m c : Nat) (r s o f r' f' n y : Int) (h1 : ¬ n < 1) (h8 : ¬ 8 < n)
    (hR : ∀ w1, Below w.heap.size w w1 → ∀ x, Ints .i64 w1 x [n] → Calls Try.prog 26 #[.agg #[.slice a m c, .int .i64 r, .int .i64 s, .int .i64 o, .int .i64 f], .slice x 1 1] w1 (RefRow w1 a m c r' s o f' [y])) :
    Calls Try.prog 25 #[.agg #[.slice a m c, .int .i64 r, .int .i64 s, .int .i64 o, .int .i64 f], .int .i64 n] w fun e w' => e = .returned (.tuple #[.agg #[.slice a m c, .int .i64 r', .int .i64 s, .int .i64 o, .int .i64 f'], .int .u64 y]) ∧ Below w.heap.size w w' := by
  have HR := hid hR
  clear hR
  go_enter Try.func25, Try.ntmps25
  go_wp2_with fail
  refine (HR.out _ (below_three w _ _ _) _ ?_).mono ?_
  · exact ints_at' _ _ _ _ (by simp)
  rintro e w1 ⟨a', c', rfl, hB1, hI, hfar⟩
  obtain ⟨b2, off2, y', rfl, hcell, hy⟩ := hI.at (i := 0) (by simp)
  obtain rfl : y = y' := by simpa [Hid] using hy
  rw [Nat.add_zero] at hcell
  obtain ⟨q0, q1, q2, q3, q4⟩ := Five.below (b := w.heap.size) (v0 := .slice a m c) (v1 := .int .i64 r) (v2 := .int .i64 s) (v3 := .int .i64 o) (v4 := .int .i64 f) (((five_first w _ _ _ _ _ _).alloc _).alloc _) hB1
  obtain ⟨z0, z1, z2, z3, z4⟩ := Five.below (b := w.heap.size + 1) (v0 := .slice none 0 0) (v1 := .int .i64 0) (v2 := .int .i64 0) (v3 := .int .i64 0) (v4 := .int .i64 0) ((five_second w _ _ _ _ _ _ _).alloc _) hB1
  have hz1 := free_below (b := w.heap.size + 1) (free_alloc (free_second w _ _ _) (by simp) _) (by simp) hB1
  have hz0 := free_below (b := w.heap.size) (free_alloc (free_alloc (free_first w _ _) (by simp) _) (by simp; omega) _) (by simp; omega) hB1
  have hB2 := below_more (below_three w _ _ _) hB1
  have hfar2 : w.heap.size + 2 < b2 := by
    rcases hfar with h | ⟨q, h, hq⟩
    · simp at h
    · simp at h hq; omega
  have hne1 : ¬ b2 = w.heap.size := by omega
  have hne2 : ¬ b2 = w.heap.size + 1 := by omega
  have hne3 : ¬ w.heap.size = b2 := by omega
  have hne4 : ¬ w.heap.size + 1 = b2 := by omega
  have hW := five_set ⟨q0, q1, q2, q3, q4⟩ (.slice a m c) (.int .i64 r') (.int .i64 s) (.int .i64 o) (.int .i64 f')
  have hW2 := five_set_far (.slice a m c) (.int .i64 r') (.int .i64 s) (.int .i64 o) (.int .i64 f') hne3 hcell
  obtain ⟨k0, k1, k2, k3, k4⟩ := hW
  clear hB1 HR hy hI hfar
  go_wp2
  go_region_held3 (fun w' => w'.cell? ⟨w.heap.size, 0, none⟩ = some (.slice a m c) ∧ w'.cell? ⟨w.heap.size, 1, none⟩ = some (.int .i64 r') ∧ w'.cell? ⟨w.heap.size, 2, none⟩ = some (.int .i64 s) ∧ w'.cell? ⟨w.heap.size, 3, none⟩ = some (.int .i64 o) ∧ w'.cell? ⟨w.heap.size, 4, none⟩ = some (.int .i64 f') ∧ w'.cell? ⟨b2, off2, none⟩ = some (.int .u64 y)) (go_keep) (fail)
  go_wp2
  refine bodyPost_ret (v := .tuple #[.agg #[.slice a m c, .int .i64 r', .int .i64 s, .int .i64 o, .int .i64 f'], .int .u64 y]) (by simp [results, Try.results25, go_sem, z0, z1, z2, z3, z4]) rfl ⟨rfl, ?_⟩
  repeat (first | with_reducible refine Below.setCell ?_ (by simp) _ | with_reducible refine Below.drew ?_)
  exact hB2

/-- what Sub is told of Bytes -/
def RefBytes (w : World) (a : Option Addr) (m c : Nat) (r s o f : Int) (out : List Int) (e : Ending) (w' : World) : Prop :=
  ∃ a' c', e = .returned (.tuple #[.agg #[.slice a m c, .int .i64 r, .int .i64 s, .int .i64 o, .int .i64 f], .slice a' out.length c']) ∧ Below w.heap.size w w' ∧ Newly w w' a' c' out

set_option maxHeartbeats 1600000 in
theorem refSub_any (w : World) (a : Option Addr) (m c : Nat) (r s o f r' f' n s2 o2 : Int) (out : List Int) (hf : (f = 0 ∧ f' ≠ 0) ∨ f ≠ 0 ∨ (f = 0 ∧ f' = 0))
    (hR : ∀ w1, Below w.heap.size w w1 → Calls Try.prog 27 #[.agg #[.slice a m c, .int .i64 r, .int .i64 s, .int .i64 o, .int .i64 f], .int .i64 n] w1 (RefBytes w1 a m c r' s o f' out)) :
    Calls Try.prog 29 #[.agg #[.slice a m c, .int .i64 r, .int .i64 s, .int .i64 o, .int .i64 f], .int .i64 n, .int .i64 s2, .int .i64 o2] w fun e w' => ∃ a' c', e = .returned (.tuple #[.agg #[.slice a m c, .int .i64 r', .int .i64 s, .int .i64 o, .int .i64 f'], .agg #[.slice a' out.length c', .int .i64 0, .int .i64 s2, .int .i64 o2, .int .i64 0], .bool (f == 0 && f' == 0)]) ∧ Below w.heap.size w w' ∧ Newly w w' a' c' out := by
  have HR := hid hR
  clear hR
  rcases (show ((f == 0) = true ∧ (f' == 0) = false) ∨ (f == 0) = false ∨ ((f == 0) = true ∧ (f' == 0) = true) by simpa using hf) with ⟨e1, e2⟩ | e1 | ⟨e1, e2⟩
  · clear hf
    go_enter Try.func29, Try.ntmps29
    go_wp2_with fail
    refine (HR.out _ (below_three w _ _ _)).mono ?_
    rintro e w1 ⟨a', c', rfl, hB1, hO⟩
    obtain ⟨q0, q1, q2, q3, q4⟩ := Five.below (b := w.heap.size) (v0 := .slice a m c) (v1 := .int .i64 r) (v2 := .int .i64 s) (v3 := .int .i64 o) (v4 := .int .i64 f) (((five_first w _ _ _ _ _ _).alloc _).alloc _) hB1
    have hz0 := free_below (b := w.heap.size) (free_alloc (free_alloc (free_first w _ _) (by simp) _) (by simp; omega) _) (by simp; omega) hB1
    obtain ⟨k0, k1, k2, k3, k4⟩ := five_set ⟨q0, q1, q2, q3, q4⟩ (.slice a m c) (.int .i64 r') (.int .i64 s) (.int .i64 o) (.int .i64 f')
    have z1 := five_set_five (.slice a m c) (.int .i64 r') (.int .i64 s) (.int .i64 o) (.int .i64 f') (show w.heap.size ≠ w.heap.size + 1 by omega) (Five.below (b := w.heap.size + 1) (v0 := .slice none 0 0) (v1 := .int .i64 0) (v2 := .int .i64 0) (v3 := .int .i64 0) (v4 := .int .i64 0) ((five_second w _ _ _ _ _ _ _).alloc _) hB1)
    have z2 := five_set_five (.slice a m c) (.int .i64 r') (.int .i64 s) (.int .i64 o) (.int .i64 f') (show w.heap.size ≠ w.heap.size + 1 + 1 by omega) (Five.below (b := w.heap.size + 1 + 1) (v0 := .slice none 0 0) (v1 := .int .i64 0) (v2 := .int .i64 0) (v3 := .int .i64 0) (v4 := .int .i64 0) (five_third w _ _ _ _ _ _ _ _) hB1)
    have hz1 := free_below (b := w.heap.size + 1) (free_alloc (free_second w _ _ _) (by simp) _) (by simp) hB1
    have hz2 := free_below (b := w.heap.size + 1 + 1) (free_third w _ _ _ _) (by simp) hB1
    have hsz : w.heap.size + 1 + 1 < w1.heap.size := by have := hB1.size; simp at this; omega
    have hB2 := below_more (below_three w _ _ _) hB1
    have hfar : a' = none ∨ ∃ q, a' = some ⟨q, 0, none⟩ ∧ w.heap.size + 3 ≤ q := by
      rcases hO.far with h | ⟨q, h, hq⟩
      · exact .inl h
      · exact .inr ⟨q, h, by simp at hq; omega⟩
    have hne5 : ¬ w.heap.size + 1 + 1 = w.heap.size := by omega
    have hH := hO.holds
    clear hB1 HR hO
    have Z1 := hid z1
    have Z2 := hid z2
    clear z1 z2
    go_wp2
    go_region_held3 (fun w' => w'.cell? ⟨w.heap.size, 0, none⟩ = some (.slice a m c) ∧ w'.cell? ⟨w.heap.size, 1, none⟩ = some (.int .i64 r') ∧ w'.cell? ⟨w.heap.size, 2, none⟩ = some (.int .i64 s) ∧ w'.cell? ⟨w.heap.size, 3, none⟩ = some (.int .i64 o) ∧ w'.cell? ⟨w.heap.size, 4, none⟩ = some (.int .i64 f')) (go_keep) ((go_at_call 9; refine (refNew_any _ a' out.length c' s2 o2).mono ?_; rintro e w2 ⟨rfl, hB3⟩; obtain ⟨p0, p1, p2, p3, p4⟩ := Five.below (b := w.heap.size) (v0 := .slice a m c) (v1 := .int .i64 r') (v2 := .int .i64 s) (v3 := .int .i64 o) (v4 := .int .i64 f') (Five.drew ⟨k0, k1, k2, k3, k4⟩) hB3; obtain ⟨y0, y1, y2, y3, y4⟩ := Five.below (b := w.heap.size + 1) (v0 := .slice none 0 0) (v1 := .int .i64 0) (v2 := .int .i64 0) (v3 := .int .i64 0) (v4 := .int .i64 0) (Five.drew Z1.out) hB3; obtain ⟨x0, x1, x2, x3, x4⟩ := Five.below (b := w.heap.size + 1 + 1) (v0 := .slice none 0 0) (v1 := .int .i64 0) (v2 := .int .i64 0) (v3 := .int .i64 0) (v4 := .int .i64 0) (Five.drew Z2.out) hB3; have hy1 := free_below (b := w.heap.size + 1) (fun o => by simp [hz1]) (by simp; omega) hB3; have hy2 := free_below (b := w.heap.size + 1 + 1) (fun o => by simp [hz2]) (by simp; omega) hB3))
    go_wp2
    refine bodyPost_ret (v := .tuple #[.agg #[.slice a m c, .int .i64 r', .int .i64 s, .int .i64 o, .int .i64 f'], .agg #[.slice a' out.length c', .int .i64 0, .int .i64 s2, .int .i64 o2, .int .i64 0], .bool false]) (by simp [results, Try.results29, go_sem, y0, y1, y2, y3, y4, x0, x1, x2, x3, x4]) rfl ⟨a', c', by first | rfl | (simp [e1]; done) | (simp [e1, e2]; done), ?_, ?_⟩
    · repeat (first | with_reducible refine Below.setCell ?_ (by simp; omega) _ | with_reducible refine Below.setCell ?_ (by simp) _)
      refine below_more ?_ hB3
      refine Below.drew ?_
      repeat (first | with_reducible refine Below.setCell ?_ (by simp) _)
      exact hB2
    · refine ⟨⟨hH.cap, hH.max, ?_, hH.oct, hH.shape⟩, hfar.imp id (fun ⟨q, e, hq⟩ => ⟨q, e, by omega⟩)⟩
      repeat (with_reducible refine Ints.set ?_ (hfar.imp id (fun ⟨q, e, hq⟩ => ⟨q, e, by omega⟩)) _ _)
      refine Ints.below ?_ hB3
      refine Ints.drew ?_
      repeat (with_reducible refine Ints.set ?_ (hfar.imp id (fun ⟨q, e, hq⟩ => ⟨q, e, by omega⟩)) _ _)
      exact hH.ints
  · clear hf
    go_enter Try.func29, Try.ntmps29
    go_wp2_with fail
    refine (HR.out _ (below_three w _ _ _)).mono ?_
    rintro e w1 ⟨a', c', rfl, hB1, hO⟩
    obtain ⟨q0, q1, q2, q3, q4⟩ := Five.below (b := w.heap.size) (v0 := .slice a m c) (v1 := .int .i64 r) (v2 := .int .i64 s) (v3 := .int .i64 o) (v4 := .int .i64 f) (((five_first w _ _ _ _ _ _).alloc _).alloc _) hB1
    have hz0 := free_below (b := w.heap.size) (free_alloc (free_alloc (free_first w _ _) (by simp) _) (by simp; omega) _) (by simp; omega) hB1
    obtain ⟨k0, k1, k2, k3, k4⟩ := five_set ⟨q0, q1, q2, q3, q4⟩ (.slice a m c) (.int .i64 r') (.int .i64 s) (.int .i64 o) (.int .i64 f')
    have z1 := five_set_five (.slice a m c) (.int .i64 r') (.int .i64 s) (.int .i64 o) (.int .i64 f') (show w.heap.size ≠ w.heap.size + 1 by omega) (Five.below (b := w.heap.size + 1) (v0 := .slice none 0 0) (v1 := .int .i64 0) (v2 := .int .i64 0) (v3 := .int .i64 0) (v4 := .int .i64 0) ((five_second w _ _ _ _ _ _ _).alloc _) hB1)
    have z2 := five_set_five (.slice a m c) (.int .i64 r') (.int .i64 s) (.int .i64 o) (.int .i64 f') (show w.heap.size ≠ w.heap.size + 1 + 1 by omega) (Five.below (b := w.heap.size + 1 + 1) (v0 := .slice none 0 0) (v1 := .int .i64 0) (v2 := .int .i64 0) (v3 := .int .i64 0) (v4 := .int .i64 0) (five_third w _ _ _ _ _ _ _ _) hB1)
    have hz1 := free_below (b := w.heap.size + 1) (free_alloc (free_second w _ _ _) (by simp) _) (by simp) hB1
    have hz2 := free_below (b := w.heap.size + 1 + 1) (free_third w _ _ _ _) (by simp) hB1
    have hsz : w.heap.size + 1 + 1 < w1.heap.size := by have := hB1.size; simp at this; omega
    have hB2 := below_more (below_three w _ _ _) hB1
    have hfar : a' = none ∨ ∃ q, a' = some ⟨q, 0, none⟩ ∧ w.heap.size + 3 ≤ q := by
      rcases hO.far with h | ⟨q, h, hq⟩
      · exact .inl h
      · exact .inr ⟨q, h, by simp at hq; omega⟩
    have hne5 : ¬ w.heap.size + 1 + 1 = w.heap.size := by omega
    have hH := hO.holds
    clear hB1 HR hO
    have Z1 := hid z1
    have Z2 := hid z2
    clear z1 z2
    go_wp2
    first | (go_region_with ((go_at_call 9; refine (refNew_any _ a' out.length c' s2 o2).mono ?_; rintro e w2 ⟨rfl, hB3⟩; obtain ⟨p0, p1, p2, p3, p4⟩ := Five.below (b := w.heap.size) (v0 := .slice a m c) (v1 := .int .i64 r') (v2 := .int .i64 s) (v3 := .int .i64 o) (v4 := .int .i64 f') (Five.drew ⟨k0, k1, k2, k3, k4⟩) hB3; obtain ⟨y0, y1, y2, y3, y4⟩ := Five.below (b := w.heap.size + 1) (v0 := .slice none 0 0) (v1 := .int .i64 0) (v2 := .int .i64 0) (v3 := .int .i64 0) (v4 := .int .i64 0) (Five.drew Z1.out) hB3; obtain ⟨x0, x1, x2, x3, x4⟩ := Five.below (b := w.heap.size + 1 + 1) (v0 := .slice none 0 0) (v1 := .int .i64 0) (v2 := .int .i64 0) (v3 := .int .i64 0) (v4 := .int .i64 0) (Five.drew Z2.out) hB3; have hy1 := free_below (b := w.heap.size + 1) (fun o => by simp [hz1]) (by simp; omega) hB3; have hy2 := free_below (b := w.heap.size + 1 + 1) (fun o => by simp [hz2]) (by simp; omega) hB3))) | fail
    all_goals
      go_wp2
      refine bodyPost_ret (v := .tuple #[.agg #[.slice a m c, .int .i64 r', .int .i64 s, .int .i64 o, .int .i64 f'], .agg #[.slice a' out.length c', .int .i64 0, .int .i64 s2, .int .i64 o2, .int .i64 0], .bool false]) (by simp [results, Try.results29, go_sem, y0, y1, y2, y3, y4, x0, x1, x2, x3, x4]) rfl ⟨a', c', by first | rfl | (simp [e1]; done) | (simp [e1, e2]; done), ?_, ?_⟩
      · repeat (first | with_reducible refine Below.setCell ?_ (by simp; omega) _ | with_reducible refine Below.setCell ?_ (by simp) _)
        refine below_more ?_ hB3
        refine Below.drew ?_
        repeat (first | with_reducible refine Below.setCell ?_ (by simp) _)
        exact hB2
      · refine ⟨⟨hH.cap, hH.max, ?_, hH.oct, hH.shape⟩, hfar.imp id (fun ⟨q, e, hq⟩ => ⟨q, e, by omega⟩)⟩
        repeat (with_reducible refine Ints.set ?_ (hfar.imp id (fun ⟨q, e, hq⟩ => ⟨q, e, by omega⟩)) _ _)
        refine Ints.below ?_ hB3
        refine Ints.drew ?_
        repeat (with_reducible refine Ints.set ?_ (hfar.imp id (fun ⟨q, e, hq⟩ => ⟨q, e, by omega⟩)) _ _)
        exact hH.ints
  · clear hf
    go_enter Try.func29, Try.ntmps29
    go_wp2_with fail
    refine (HR.out _ (below_three w _ _ _)).mono ?_
    rintro e w1 ⟨a', c', rfl, hB1, hO⟩
    obtain ⟨q0, q1, q2, q3, q4⟩ := Five.below (b := w.heap.size) (v0 := .slice a m c) (v1 := .int .i64 r) (v2 := .int .i64 s) (v3 := .int .i64 o) (v4 := .int .i64 f) (((five_first w _ _ _ _ _ _).alloc _).alloc _) hB1
    have hz0 := free_below (b := w.heap.size) (free_alloc (free_alloc (free_first w _ _) (by simp) _) (by simp; omega) _) (by simp; omega) hB1
    obtain ⟨k0, k1, k2, k3, k4⟩ := five_set ⟨q0, q1, q2, q3, q4⟩ (.slice a m c) (.int .i64 r') (.int .i64 s) (.int .i64 o) (.int .i64 f')
    have z1 := five_set_five (.slice a m c) (.int .i64 r') (.int .i64 s) (.int .i64 o) (.int .i64 f') (show w.heap.size ≠ w.heap.size + 1 by omega) (Five.below (b := w.heap.size + 1) (v0 := .slice none 0 0) (v1 := .int .i64 0) (v2 := .int .i64 0) (v3 := .int .i64 0) (v4 := .int .i64 0) ((five_second w _ _ _ _ _ _ _).alloc _) hB1)
    have z2 := five_set_five (.slice a m c) (.int .i64 r') (.int .i64 s) (.int .i64 o) (.int .i64 f') (show w.heap.size ≠ w.heap.size + 1 + 1 by omega) (Five.below (b := w.heap.size + 1 + 1) (v0 := .slice none 0 0) (v1 := .int .i64 0) (v2 := .int .i64 0) (v3 := .int .i64 0) (v4 := .int .i64 0) (five_third w _ _ _ _ _ _ _ _) hB1)
    have hz1 := free_below (b := w.heap.size + 1) (free_alloc (free_second w _ _ _) (by simp) _) (by simp) hB1
    have hz2 := free_below (b := w.heap.size + 1 + 1) (free_third w _ _ _ _) (by simp) hB1
    have hsz : w.heap.size + 1 + 1 < w1.heap.size := by have := hB1.size; simp at this; omega
    have hB2 := below_more (below_three w _ _ _) hB1
    have hfar : a' = none ∨ ∃ q, a' = some ⟨q, 0, none⟩ ∧ w.heap.size + 3 ≤ q := by
      rcases hO.far with h | ⟨q, h, hq⟩
      · exact .inl h
      · exact .inr ⟨q, h, by simp at hq; omega⟩
    have hne5 : ¬ w.heap.size + 1 + 1 = w.heap.size := by omega
    have hH := hO.holds
    clear hB1 HR hO
    have Z1 := hid z1
    have Z2 := hid z2
    clear z1 z2
    go_wp2
    go_region_held3 (fun w' => w'.cell? ⟨w.heap.size, 0, none⟩ = some (.slice a m c) ∧ w'.cell? ⟨w.heap.size, 1, none⟩ = some (.int .i64 r') ∧ w'.cell? ⟨w.heap.size, 2, none⟩ = some (.int .i64 s) ∧ w'.cell? ⟨w.heap.size, 3, none⟩ = some (.int .i64 o) ∧ w'.cell? ⟨w.heap.size, 4, none⟩ = some (.int .i64 f')) (go_keep) ((go_at_call 9; refine (refNew_any _ a' out.length c' s2 o2).mono ?_; rintro e w2 ⟨rfl, hB3⟩; obtain ⟨p0, p1, p2, p3, p4⟩ := Five.below (b := w.heap.size) (v0 := .slice a m c) (v1 := .int .i64 r') (v2 := .int .i64 s) (v3 := .int .i64 o) (v4 := .int .i64 f') (Five.drew ⟨k0, k1, k2, k3, k4⟩) hB3; obtain ⟨y0, y1, y2, y3, y4⟩ := Five.below (b := w.heap.size + 1) (v0 := .slice none 0 0) (v1 := .int .i64 0) (v2 := .int .i64 0) (v3 := .int .i64 0) (v4 := .int .i64 0) (Five.drew Z1.out) hB3; obtain ⟨x0, x1, x2, x3, x4⟩ := Five.below (b := w.heap.size + 1 + 1) (v0 := .slice none 0 0) (v1 := .int .i64 0) (v2 := .int .i64 0) (v3 := .int .i64 0) (v4 := .int .i64 0) (Five.drew Z2.out) hB3; have hy1 := free_below (b := w.heap.size + 1) (fun o => by simp [hz1]) (by simp; omega) hB3; have hy2 := free_below (b := w.heap.size + 1 + 1) (fun o => by simp [hz2]) (by simp; omega) hB3))
    go_wp2
    refine bodyPost_ret (v := .tuple #[.agg #[.slice a m c, .int .i64 r', .int .i64 s, .int .i64 o, .int .i64 f'], .agg #[.slice a' out.length c', .int .i64 0, .int .i64 s2, .int .i64 o2, .int .i64 0], .bool true]) (by simp [results, Try.results29, go_sem, y0, y1, y2, y3, y4, x0, x1, x2, x3, x4]) rfl ⟨a', c', by first | rfl | (simp [e1, e2]; done), ?_, ?_⟩
    · repeat (first | with_reducible refine Below.setCell ?_ (by simp; omega) _ | with_reducible refine Below.setCell ?_ (by simp) _)
      refine below_more ?_ hB3
      refine Below.drew ?_
      repeat (first | with_reducible refine Below.setCell ?_ (by simp) _)
      exact hB2
    · refine ⟨⟨hH.cap, hH.max, ?_, hH.oct, hH.shape⟩, hfar.imp id (fun ⟨q, e, hq⟩ => ⟨q, e, by omega⟩)⟩
      repeat (with_reducible refine Ints.set ?_ (hfar.imp id (fun ⟨q, e, hq⟩ => ⟨q, e, by omega⟩)) _ _)
      refine Ints.below ?_ hB3
      refine Ints.drew ?_
      repeat (with_reducible refine Ints.set ?_ (hfar.imp id (fun ⟨q, e, hq⟩ => ⟨q, e, by omega⟩)) _ _)
      exact hH.ints
end Go.Proofs.Ytgnmkdcoglbafaa
