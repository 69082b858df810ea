/- Contracts of package cursor: take, Bytes, Rest, Look, Sub, Fail. -/
import Derived.Test.YtkgjmpcdndohpaaDoorCurB
namespace Go.Proofs.YtkgjmpcdndohpaaDoor
open Go.RowKit

section
variable {w : World} {g M : Nat} {l : List Int} {r s o f : Int}

theorem Cur.err (h : Cur w g M l r s o f) : Calls Tryd.prog 25 #[.pointer (some ⟨g, 0, none⟩)] w fun e w' => e = .returned (.int .i64 f) ∧ w = w' := by
  obtain ⟨off, c, hc, _⟩ := h.ex; exact err_at hc
theorem Cur.reads (h : Cur w g M l r s o f) : Calls Tryd.prog 38 #[.pointer (some ⟨g, 0, none⟩)] w fun e w' => e = .returned (.bool (f == 0)) ∧ w = w' := by
  obtain ⟨off, c, hc, _⟩ := h.ex; exact reads_at hc
theorem Cur.fail (h : Cur w g M l r s o 0) (q : Int) : Calls Tryd.prog 42 #[.pointer (some ⟨g, 0, none⟩), .int .i64 q] w fun e w' => e = .returned (.tuple #[]) ∧ Cur w' g M l r s o q ∧ w.grownBy w' (some g) := by
  obtain ⟨off, c, hc, h1, h2, h3⟩ := h.ex
  refine (fail_at hc q).mono ?_
  rintro e w' ⟨rfl, hc', hb⟩
  exact ⟨rfl, ⟨⟨off, c, hc', h1, h2, h3.by hb (by have := h.ne; simp; omega)⟩, h.oct, h.r0, h.rl, h.ne⟩, hb⟩
theorem Cur.fail_late (h : Cur w g M l r s o f) (hf : f ≠ 0) (q : Int) : Calls Tryd.prog 42 #[.pointer (some ⟨g, 0, none⟩), .int .i64 q] w fun e w' => e = .returned (.tuple #[]) ∧ w = w' := by
  obtain ⟨off, c, hc, _⟩ := h.ex; exact Proofs.YtkgjmpcdndohpaaDoor.fail_late hc hf q

theorem Cur.take_late (h : Cur w g M l r s o f) (hf : f ≠ 0) (n : Int) : Calls Tryd.prog 40 #[.pointer (some ⟨g, 0, none⟩), .int .i64 n] w fun e w' => e = .returned (.tuple #[.slice none 0 0, .bool false]) ∧ w = w' := by
  have e0 : (f == 0) = false := by simpa using hf
  clear hf
  go_enter Tryd.func40, Tryd.ntmps40
  go_wp2_with (go_at_call 38; refine (h.reads).mono ?_; rintro e w' ⟨rfl, rfl⟩)
  go_ret2
  exact ⟨rfl, rfl⟩
theorem take_nil (w : World) (n : Int) : Calls Tryd.prog 40 #[.pointer none, .int .i64 n] w fun e w' => e = .returned (.tuple #[.slice none 0 0, .bool false]) ∧ w = w' := by
  go_enter Tryd.func40, Tryd.ntmps40
  go_wp2_with (go_at_call 38; refine (reads_nil _).mono ?_; rintro e w' ⟨rfl, rfl⟩)
  go_ret2
  exact ⟨rfl, rfl⟩
theorem Cur.take_neg (h : Cur w g M l r s o 0) {n : Int} (hn : n < 0) : Calls Tryd.prog 40 #[.pointer (some ⟨g, 0, none⟩), .int .i64 n] w fun e w' => e = .returned (.tuple #[.slice none 0 0, .bool false]) ∧ Cur w' g M l r s o 10001 ∧ w.grownBy w' (some g) := by
  go_enter Tryd.func40, Tryd.ntmps40
  go_wp2_with (first | (go_at_call 38; refine (h.reads).mono ?_; rintro e w' ⟨rfl, rfl⟩) | (go_at_call 42; refine (h.fail _).mono ?_; rintro e w1 ⟨rfl, hC, hB⟩))
  go_ret2
  exact ⟨rfl, hC, hB⟩
theorem Cur.take_short (h : Cur w g M l r s o 0) {n : Int} (hn : (l.length : Int) < n) : Calls Tryd.prog 40 #[.pointer (some ⟨g, 0, none⟩), .int .i64 n] w fun e w' => e = .returned (.tuple #[.slice none 0 0, .bool false]) ∧ Cur w' g M l r s o s ∧ w.grownBy w' (some g) := by
  obtain ⟨off, c, hc, h1, h2, h3⟩ := h.ex
  have c1 := hc.c1
  have c3 := hc.c3
  have n0 : ¬ n < 0 := by omega
  clear hc h3
  go_enter Tryd.func40, Tryd.ntmps40
  go_wp2_with (first | (go_at_call 38; refine (h.reads).mono ?_; rintro e w' ⟨rfl, rfl⟩) | (go_at_call 42; refine (h.fail _).mono ?_; rintro e w1 ⟨rfl, hC, hB⟩))
  go_ret2
  exact ⟨rfl, hC, hB⟩

theorem grownBy_refl (w : World) (row : Option Nat) : w.grownBy w row := ⟨rfl, rfl, rfl, Nat.le_refl _, fun _ _ _ => rfl⟩
theorem grownBy_more {w w' : World} {row : Option Nat} (h : w.grownBy w' none) : w.grownBy w' row := ⟨h.os, h.tape, h.output, h.size, fun i hi _ => h.block i hi (by simp)⟩
theorem grownBy_then {w w1 w2 : World} {row : Option Nat} (h : w.grownBy w1 row) (k : w1.grownBy w2 row) : w.grownBy w2 row := grownBy_trans h k (.inl rfl)

theorem drop_addr {M off q c n : Nat} (_h : n ≤ c) : ∃ o', (if c = q then some (⟨M, off, none⟩ : Addr) else some ⟨M, off + q, none⟩) = some ⟨M, o', none⟩ := by split <;> exact ⟨_, rfl⟩

theorem Cur.take_ok (h : Cur w g M l r s o 0) {n : Nat} (hn : n ≤ l.length) : Calls Tryd.prog 40 #[.pointer (some ⟨g, 0, none⟩), .int .i64 n] w fun e w' =>
    ∃ off c, e = .returned (.tuple #[.slice (some ⟨M, off, none⟩) n c, .bool true]) ∧ n ≤ c ∧ c ≤ 9223372036854775807 ∧ Ints .u8 w' (some ⟨M, off, none⟩) (l.take n) ∧ Cur w' g M (l.drop n) (r + n) s o 0 ∧ w.grownBy w' (some g) := by
  obtain ⟨off, c, hc, h1, h2, h3⟩ := h.ex
  have c1 := hc.c1
  have c2 := hc.c2
  have f1 := free_of_cells hc.heap 1
  have f2 := free_of_cells hc.heap 2
  have hle : (n : Int) ≤ (l.length : Int) := by omega
  have n0 : ¬ (n : Int) < 0 := by omega
  have n1 : ¬ (l.length : Int) < (n : Int) := by omega
  have r0 := h.r0
  have rl := h.rl
  have HC := hid hc
  have HR := hid (show (l.drop n).length = l.length - n from List.length_drop ..)
  have HI := hid (show ∀ w1 : World, w.grownBy w1 (some g) → Ints .u8 w1 (some ⟨M, off, none⟩) l from fun _ hb => h3.by hb (by have := h.ne; simp; omega))
  clear hc h3
  by_cases hcn : c = n
  · obtain rfl : n = c := hcn.symm
    go_enter Tryd.func40, Tryd.ntmps40
    go_wp2_with (first | (go_at_call 38; refine (h.reads).mono ?_; rintro e w' ⟨rfl, rfl⟩))
    go_ret2
    have hb := grownBy_then (by_setCell w g 1 (.slice (some ⟨M, off, none⟩) 0 0)) (by_setCell _ g 2 (.int .i64 (r + n)))
    have hI := HI.out _ hb
    have hD := hI.drop (j := n) h1
    rw [if_pos rfl] at hD
    exact ⟨off, n, rfl, by omega, h2, hI.take n, ⟨⟨off, 0, ⟨by rw [HR.out, show l.length - n = 0 by omega]; exact set_of_cells (set_of_cells HC.out.heap 1 _) 2 _⟩, by rw [HR.out]; omega, by omega, hD⟩, h.oct.drop n, by omega, by rw [HR.out]; omega, h.ne⟩, hb⟩
  · go_enter Tryd.func40, Tryd.ntmps40
    go_wp2_with (first | (go_at_call 38; refine (h.reads).mono ?_; rintro e w' ⟨rfl, rfl⟩))
    go_ret2
    have hb := grownBy_then (by_setCell w g 1 (.slice (some ⟨M, off + n, none⟩) (l.length - n) (c - n))) (by_setCell _ g 2 (.int .i64 (r + n)))
    have hI := HI.out _ hb
    have hD := hI.drop (j := n) h1
    rw [if_neg hcn] at hD
    exact ⟨off, c, rfl, by omega, h2, hI.take n, ⟨⟨off + n, c - n, ⟨by rw [HR.out]; exact set_of_cells (set_of_cells HC.out.heap 1 _) 2 _⟩, by rw [HR.out]; omega, by omega, hD⟩, h.oct.drop n, by omega, by rw [HR.out]; omega, h.ne⟩, hb⟩
end
end Go.Proofs.YtkgjmpcdndohpaaDoor
