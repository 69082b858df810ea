/- Contracts of package cursor: Bytes, Rest, Look, Sub. -/
import Derived.Test.YtfdkkcndadjcaaaCurC
namespace Go.Proofs.Ytfdkkcndadjcaaa
open Go.RowKit

/-- What is handed back is a slice in new memory, which holds xs; of what was there no more than one block has turned. -/
structure Gives (e : TypeId) (w w' : World) (row : Option Nat) (v : Value) (xs : List Value) : Prop where
  own : w'.ownsRow 0 e 1 v xs.length xs
  by_ : w.grownBy w' row
  new : ∀ k, v.ownBlock = some k → w.heap.size ≤ k

theorem Gives.behind {e : TypeId} {w w1 w2 : World} {row : Option Nat} {v : Value} {xs : List Value} (h : w.grownBy w1 row) (k : Fresh e w1 w2 v xs) : Gives e w w2 row v xs :=
  ⟨k.own, grownBy_then h (grownBy_more (below_by_none k.bel)), fun g hg => Nat.le_trans h.size (k.new g hg)⟩

section
variable {w : World} {g M : Nat} {l : List Int} {r s o f : Int}

/-- numbers that are no ints stand in no cursor: what turns a cursor leaves them -/
theorem Cur.ints {w' : World} (h : Cur w g M l r s o f) {k : IntKind} {a : Option Addr} {xs : List Int} (hI : Ints k w a xs) (hk : k ≠ .i64) (hb : w.grownBy w' (some g)) : Ints k w' a xs := by
  obtain ⟨off, c, hc, _⟩ := h.ex
  intro i hi
  obtain ⟨b, o, he, hcell⟩ := hI i hi
  refine ⟨b, o, he, ?_⟩
  by_cases hbg : b = g
  · subst hbg
    exfalso
    have hx := hcell
    simp only [World.cell?, hc.heap] at hx
    rcases (show o + i = 0 ∨ o + i = 1 ∨ o + i = 2 ∨ o + i = 3 ∨ o + i = 4 ∨ o + i = 5 ∨ 6 ≤ o + i by omega) with e | e | e | e | e | e | e
    all_goals first | (rw [e] at hx; simp [curCells] at hx) | (simp [curCells, e] at hx)
    all_goals exact hk hx.1.symm
  · exact hb.cell hcell (by simp; exact hbg)

/-- what Bytes hands back -/
def BytesPost (w : World) (g M : Nat) (out l : List Int) (r s o f : Int) (e : Ending) (w' : World) : Prop :=
  ∃ k, e = .returned (.slice (some ⟨k, 0, none⟩) out.length out.length) ∧ Gives 5 w w' (some g) (.slice (some ⟨k, 0, none⟩) out.length out.length) (out.map (Value.int .u8)) ∧ Cur w' g M l r s o f

theorem Cur.bytes_ok (h : Cur w g M l r s o 0) {n : Nat} (hn : n ≤ l.length) : Calls Try.prog 33 #[.pointer (some ⟨g, 0, none⟩), .int .i64 n] w (BytesPost w g M (l.take n) (l.drop n) (r + n) s o 0) := by
  have hl := h.rl
  have hr := h.r0
  have htl := hid (show (l.take n).length = n by rw [List.length_take]; omega)
  go_enter Try.func33, Try.ntmps33
  go_wp2_with fail
  refine (h.take_ok hn).mono ?_
  rintro e w1 ⟨off, c, rfl, hnc, hc, hI, hC, hB⟩
  have hF := fresh_any (l.take n) _ c w1 (by rw [htl.out]; omega) hI
  rw [htl.out] at hF
  have HF := hid hF
  clear hF hI
  go_wp2_with fail
  refine HF.out.mono ?_
  rintro e w2 ⟨rfl, hf⟩
  go_wp2
  go_ret
  refine ⟨w1.heap.size, ?_, ?_, hC.below hf.bel⟩
  · rw [htl.out]; rfl
  · rw [htl.out]; exact Gives.behind hB hf
theorem Cur.bytes_late (h : Cur w g M l r s o f) (hf : f ≠ 0) (n : Int) : Calls Try.prog 33 #[.pointer (some ⟨g, 0, none⟩), .int .i64 n] w (BytesPost w g M [] l r s o f) := by
  have H := hid hf
  clear hf
  go_enter Try.func33, Try.ntmps33
  go_wp2_with (first | (go_at_call 42; refine (h.take_late H.out n).mono ?_; rintro e w' ⟨rfl, rfl⟩) | (go_at_call 39; refine (fresh_any [] none 0 _ (by simp) (Ints.nil _ _ _)).mono ?_; rintro e w2 ⟨rfl, hf⟩))
  go_ret
  exact ⟨_, rfl, Gives.behind (grownBy_refl w _) hf, h.below hf.bel⟩
theorem Cur.bytes_neg (h : Cur w g M l r s o 0) {n : Int} (hn : n < 0) : Calls Try.prog 33 #[.pointer (some ⟨g, 0, none⟩), .int .i64 n] w (BytesPost w g M [] l r s o 10001) := by
  go_enter Try.func33, Try.ntmps33
  go_wp2_with (first | (go_at_call 42; refine (h.take_neg hn).mono ?_; rintro e w1 ⟨rfl, hC, hB⟩) | (go_at_call 39; refine (fresh_any [] none 0 _ (by simp) (Ints.nil _ _ _)).mono ?_; rintro e w2 ⟨rfl, hf⟩))
  go_ret
  exact ⟨_, rfl, Gives.behind hB hf, hC.below hf.bel⟩
theorem Cur.bytes_short (h : Cur w g M l r s o 0) {n : Int} (hn : (l.length : Int) < n) : Calls Try.prog 33 #[.pointer (some ⟨g, 0, none⟩), .int .i64 n] w (BytesPost w g M [] l r s o s) := by
  go_enter Try.func33, Try.ntmps33
  go_wp2_with (first | (go_at_call 42; refine (h.take_short hn).mono ?_; rintro e w1 ⟨rfl, hC, hB⟩) | (go_at_call 39; refine (fresh_any [] none 0 _ (by simp) (Ints.nil _ _ _)).mono ?_; rintro e w2 ⟨rfl, hf⟩))
  go_ret
  exact ⟨_, rfl, Gives.behind hB hf, hC.below hf.bel⟩
theorem bytes_nil (w : World) (n : Int) : Calls Try.prog 33 #[.pointer none, .int .i64 n] w fun e w' => e = .returned (.slice (some ⟨w.heap.size, 0, none⟩) 0 0) ∧ Below w.heap.size w w' := by
  go_enter Try.func33, Try.ntmps33
  go_wp2_with (first | (go_at_call 42; refine (take_nil _ _).mono ?_; rintro e w1 ⟨rfl, rfl⟩) | (go_at_call 39; refine (fresh_any [] none 0 _ (by simp) (Ints.nil _ _ _)).mono ?_; rintro e w2 ⟨rfl, hf⟩))
  go_ret
  exact ⟨rfl, hf.bel⟩

theorem Cur.block_lt (h : Cur w g M l r s o f) : g < w.heap.size := by obtain ⟨off, c, hc, _⟩ := h.ex; exact lt_of_block hc.heap

end
end Go.Proofs.Ytfdkkcndadjcaaa
