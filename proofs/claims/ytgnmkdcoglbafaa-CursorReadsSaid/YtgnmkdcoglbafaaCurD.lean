/- Contracts of package cursor: Bytes, Rest, Look, Sub. -/
import Derived.Test.YtgnmkdcoglbafaaCurC
namespace Go.Proofs.Ytgnmkdcoglbafaa
open Go.RowKit

/-- What is handed back is a slice in new memory, which holds xs; of what was there no more than one block has turned. -/
structure Gives (e : TypeId) (w w' : World) (row : Option Nat) (v : Value) (xs : List Value) : Prop where
  own : w'.ownsRow 0 e 1 v xs.length xs
  by_ : w.grownBy w' row
  new : ∀ k, v.ownBlock = some k → w.heap.size ≤ k

theorem Gives.behind {e : TypeId} {w w1 w2 : World} {row : Option Nat} {v : Value} {xs : List Value} (h : w.grownBy w1 row) (k : Fresh e w1 w2 v xs) : Gives e w w2 row v xs :=
  ⟨k.own, grownBy_then h (grownBy_more (below_by_none k.bel)), fun g hg => Nat.le_trans h.size (k.new g hg)⟩

section
variable {w : World} {g M : Nat} {l : List Int} {r s o f : Int}

/-- numbers that are no ints stand in no cursor: what turns a cursor leaves them -/
theorem Cur.ints {w' : World} (h : Cur w g M l r s o f) {k : IntKind} {a : Option Addr} {xs : List Int} (hI : Ints k w a xs) (hk : k ≠ .i64) (hb : w.grownBy w' (some g)) : Ints k w' a xs := by
  obtain ⟨off, c, hc, _⟩ := h.ex
  intro i hi
  obtain ⟨b, o, he, hcell⟩ := hI i hi
  refine ⟨b, o, he, ?_⟩
  by_cases hbg : b = g
  · subst hbg
    exfalso
    have hx := hcell
    simp only [World.cell?, hc.heap] at hx
    rcases (show o + i = 0 ∨ o + i = 1 ∨ o + i = 2 ∨ o + i = 3 ∨ o + i = 4 ∨ o + i = 5 ∨ 6 ≤ o + i by omega) with e | e | e | e | e | e | e
    all_goals first | (rw [e] at hx; simp [curCells] at hx) | (simp [curCells, e] at hx)
    all_goals exact hk hx.1.symm
  · exact hb.cell hcell (by simp; exact hbg)

/-- what Bytes hands back -/
def BytesPost (w : World) (g M : Nat) (out l : List Int) (r s o f : Int) (e : Ending) (w' : World) : Prop :=
  ∃ k, e = .returned (.slice (some ⟨k, 0, none⟩) out.length out.length) ∧ Gives 5 w w' (some g) (.slice (some ⟨k, 0, none⟩) out.length out.length) (out.map (Value.int .u8)) ∧ Cur w' g M l r s o f

theorem Cur.bytes_ok (h : Cur w g M l r s o 0) {n : Nat} (hn : n ≤ l.length) : Calls Try.prog 17 #[.pointer (some ⟨g, 0, none⟩), .int .i64 n] w (BytesPost w g M (l.take n) (l.drop n) (r + n) s o 0) := by
  have hl := h.rl
  have hr := h.r0
  have htl := hid (show (l.take n).length = n by rw [List.length_take]; omega)
  go_enter Try.func17, Try.ntmps17
  go_wp2_with fail
  refine (h.take_ok hn).mono ?_
  rintro e w1 ⟨off, c, rfl, hnc, hc, hI, hC, hB⟩
  have hF := fresh_any (l.take n) _ c w1 (by rw [htl.out]; omega) hI
  rw [htl.out] at hF
  have HF := hid hF
  clear hF hI
  go_wp2_with fail
  refine HF.out.mono ?_
  rintro e w2 ⟨rfl, hf⟩
  go_wp2
  go_ret
  refine ⟨w1.heap.size, ?_, ?_, hC.below hf.bel⟩
  · rw [htl.out]; rfl
  · rw [htl.out]; exact Gives.behind hB hf
theorem Cur.bytes_late (h : Cur w g M l r s o f) (hf : f ≠ 0) (n : Int) : Calls Try.prog 17 #[.pointer (some ⟨g, 0, none⟩), .int .i64 n] w (BytesPost w g M [] l r s o f) := by
  have H := hid hf
  clear hf
  go_enter Try.func17, Try.ntmps17
  go_wp2_with (first | (go_at_call 33; refine (h.take_late H.out n).mono ?_; rintro e w' ⟨rfl, rfl⟩) | (go_at_call 24; refine (fresh_any [] none 0 _ (by simp) (Ints.nil _ _ _)).mono ?_; rintro e w2 ⟨rfl, hf⟩))
  go_ret
  exact ⟨_, rfl, Gives.behind (grownBy_refl w _) hf, h.below hf.bel⟩
theorem Cur.bytes_neg (h : Cur w g M l r s o 0) {n : Int} (hn : n < 0) : Calls Try.prog 17 #[.pointer (some ⟨g, 0, none⟩), .int .i64 n] w (BytesPost w g M [] l r s o 10001) := by
  go_enter Try.func17, Try.ntmps17
  go_wp2_with (first | (go_at_call 33; refine (h.take_neg hn).mono ?_; rintro e w1 ⟨rfl, hC, hB⟩) | (go_at_call 24; refine (fresh_any [] none 0 _ (by simp) (Ints.nil _ _ _)).mono ?_; rintro e w2 ⟨rfl, hf⟩))
  go_ret
  exact ⟨_, rfl, Gives.behind hB hf, hC.below hf.bel⟩
theorem Cur.bytes_short (h : Cur w g M l r s o 0) {n : Int} (hn : (l.length : Int) < n) : Calls Try.prog 17 #[.pointer (some ⟨g, 0, none⟩), .int .i64 n] w (BytesPost w g M [] l r s o s) := by
  go_enter Try.func17, Try.ntmps17
  go_wp2_with (first | (go_at_call 33; refine (h.take_short hn).mono ?_; rintro e w1 ⟨rfl, hC, hB⟩) | (go_at_call 24; refine (fresh_any [] none 0 _ (by simp) (Ints.nil _ _ _)).mono ?_; rintro e w2 ⟨rfl, hf⟩))
  go_ret
  exact ⟨_, rfl, Gives.behind hB hf, hC.below hf.bel⟩
theorem bytes_nil (w : World) (n : Int) : Calls Try.prog 17 #[.pointer none, .int .i64 n] w fun e w' => e = .returned (.slice (some ⟨w.heap.size, 0, none⟩) 0 0) ∧ Below w.heap.size w w' := by
  go_enter Try.func17, Try.ntmps17
  go_wp2_with (first | (go_at_call 33; refine (take_nil _ _).mono ?_; rintro e w1 ⟨rfl, rfl⟩) | (go_at_call 24; refine (fresh_any [] none 0 _ (by simp) (Ints.nil _ _ _)).mono ?_; rintro e w2 ⟨rfl, hf⟩))
  go_ret
  exact ⟨rfl, hf.bel⟩

theorem Cur.rest_ok (h : Cur w g M l r s o 0) : Calls Try.prog 18 #[.pointer (some ⟨g, 0, none⟩)] w (BytesPost w g M l [] (r + l.length) s o 0) := by
  have hB := h.bytes_ok (Nat.le_refl l.length)
  rw [List.take_length, List.drop_length] at hB
  have HB := hid hB
  clear hB
  go_enter Try.func18, Try.ntmps18
  go_wp2_with fail
  refine h.left.mono ?_
  rintro e w' ⟨rfl, rfl⟩
  go_wp2_with fail
  refine HB.out.mono ?_
  rintro e w1 ⟨k, rfl, hG, hC⟩
  go_wp2
  go_ret
  exact ⟨k, rfl, hG, hC⟩
theorem Cur.rest_late (h : Cur w g M l r s o f) (hf : f ≠ 0) : Calls Try.prog 18 #[.pointer (some ⟨g, 0, none⟩)] w (BytesPost w g M [] l r s o f) := by
  have H := hid hf
  clear hf
  go_enter Try.func18, Try.ntmps18
  go_wp2_with fail
  refine h.left.mono ?_
  rintro e w' ⟨rfl, rfl⟩
  go_wp2_with fail
  refine (h.bytes_late H.out _).mono ?_
  rintro e w1 ⟨k, rfl, hG, hC⟩
  go_wp2
  go_ret
  exact ⟨k, rfl, hG, hC⟩

theorem Cur.look_ok (h : Cur w g M l r s o 0) : Calls Try.prog 11 #[.pointer (some ⟨g, 0, none⟩)] w fun e w' => e = .returned (.slice (some ⟨w.heap.size, 0, none⟩) l.length l.length) ∧ Fresh 5 w w' (.slice (some ⟨w.heap.size, 0, none⟩) l.length l.length) (l.map (Value.int .u8)) := by
  obtain ⟨off, c, hc, h1, h2, h3⟩ := h.ex
  have c1 := hc.c1
  have hl := h.rl
  have hr := h.r0
  go_enter Try.func11, Try.ntmps11
  go_wp2_with (first | (go_at_call 32; refine h.reads.mono ?_; rintro e w' ⟨rfl, rfl⟩) | (go_at_call 24; refine (fresh_any l _ c _ (by omega) h3).mono ?_; rintro e w2 ⟨rfl, hf⟩))
  go_ret
  exact ⟨rfl, hf⟩
theorem Cur.look_late (h : Cur w g M l r s o f) (hf : f ≠ 0) : Calls Try.prog 11 #[.pointer (some ⟨g, 0, none⟩)] w fun e w' => e = .returned (.slice none 0 0) ∧ w = w' := by
  have e0 : (f == 0) = false := by simpa using hf
  clear hf
  go_enter Try.func11, Try.ntmps11
  go_wp2_with (first | (go_at_call 32; refine h.reads.mono ?_; rintro e w' ⟨rfl, rfl⟩))
  go_ret
  exact ⟨rfl, rfl⟩

theorem Cur.block_lt (h : Cur w g M l r s o f) : g < w.heap.size := by obtain ⟨off, c, hc, _⟩ := h.ex; exact lt_of_block hc.heap

theorem Cur.sub_ok (h : Cur w g M l r s o 0) (hM : M < w.heap.size) {n : Nat} (hn : n ≤ l.length) (s' o' : Int) : Calls Try.prog 19 #[.pointer (some ⟨g, 0, none⟩), .int .i64 n, .int .i64 s', .int .i64 o'] w fun e w' =>
    ∃ g', e = .returned (.pointer (some ⟨g', 0, none⟩)) ∧ w.heap.size ≤ g' ∧ g' < w'.heap.size ∧ Cur w' g' M (l.take n) 0 s' o' 0 ∧ Cur w' g M (l.drop n) (r + n) s o 0 ∧ w.grownBy w' (some g) := by
  have hl := h.rl
  have hr := h.r0
  have htl := hid (show (l.take n).length = n by rw [List.length_take]; omega)
  go_enter Try.func19, Try.ntmps19
  go_wp2_with fail
  refine (h.take_ok hn).mono ?_
  rintro e w1 ⟨off, c, rfl, hnc, hc, hI, hC, hB⟩
  have hF := over_any (l.take n) M off c s' o' w1 (by rw [htl.out]; omega) (by rw [htl.out]; omega) hc (h.oct.take n) (Nat.lt_of_lt_of_le hM hB.size) hI
  rw [htl.out] at hF
  have HF := hid hF
  clear hF hI
  go_wp2_with fail
  refine HF.out.mono ?_
  rintro e w2 ⟨rfl, hC2, hB2, hs⟩
  go_wp2
  go_ret
  exact ⟨w1.heap.size, rfl, hB.size, hs, hC2, hC.below hB2, grownBy_then hB (grownBy_more (below_by_none hB2))⟩
theorem Cur.sub_late (h : Cur w g M l r s o f) (hf : f ≠ 0) (n s' o' : Int) : Calls Try.prog 19 #[.pointer (some ⟨g, 0, none⟩), .int .i64 n, .int .i64 s', .int .i64 o'] w fun e w' => e = .returned (.pointer none) ∧ w = w' := by
  have H := hid hf
  clear hf
  go_enter Try.func19, Try.ntmps19
  go_wp2_with (first | (go_at_call 33; refine (h.take_late H.out n).mono ?_; rintro e w' ⟨rfl, rfl⟩))
  go_ret
  exact ⟨rfl, rfl⟩
theorem Cur.sub_neg (h : Cur w g M l r s o 0) {n : Int} (hn : n < 0) (s' o' : Int) : Calls Try.prog 19 #[.pointer (some ⟨g, 0, none⟩), .int .i64 n, .int .i64 s', .int .i64 o'] w fun e w' => e = .returned (.pointer none) ∧ Cur w' g M l r s o 10001 ∧ w.grownBy w' (some g) := by
  go_enter Try.func19, Try.ntmps19
  go_wp2_with (first | (go_at_call 33; refine (h.take_neg hn).mono ?_; rintro e w1 ⟨rfl, hC, hB⟩))
  go_ret
  exact ⟨rfl, hC, hB⟩
theorem Cur.sub_short (h : Cur w g M l r s o 0) {n : Int} (hn : (l.length : Int) < n) (s' o' : Int) : Calls Try.prog 19 #[.pointer (some ⟨g, 0, none⟩), .int .i64 n, .int .i64 s', .int .i64 o'] w fun e w' => e = .returned (.pointer none) ∧ Cur w' g M l r s o s ∧ w.grownBy w' (some g) := by
  go_enter Try.func19, Try.ntmps19
  go_wp2_with (first | (go_at_call 33; refine (h.take_short hn).mono ?_; rintro e w1 ⟨rfl, hC, hB⟩))
  go_ret
  exact ⟨rfl, hC, hB⟩
theorem sub_nil (w : World) (n s' o' : Int) : Calls Try.prog 19 #[.pointer none, .int .i64 n, .int .i64 s', .int .i64 o'] w fun e w' => e = .returned (.pointer none) ∧ w = w' := by
  go_enter Try.func19, Try.ntmps19
  go_wp2_with (first | (go_at_call 33; refine (take_nil _ _).mono ?_; rintro e w1 ⟨rfl, rfl⟩))
  go_ret
  exact ⟨rfl, rfl⟩
end
end Go.Proofs.Ytgnmkdcoglbafaa
