/- Put together out of several texts. -/
import Derived.Test.YtdjlbejhphbcoaaGreatV1
import Derived.Deep.QuietTactic
import Derived.BigQuiet
import Derived.OneCell
import Derived.Outline
import Derived.Test.YtdjlbejhphbcoaaGreatV4
namespace Go.Proofs.YtdjlbejhphbcoaaGreat
open Go.RowKit
set_option maxRecDepth 100000

/-- the cells of a cursor -/
def curCells (a : Option Addr) (m c : Nat) (r s o f : Int) : Array Value := #[.bool true, .slice a m c, .int .i64 r, .int .i64 s, .int .i64 o, .int .i64 f]

/-- Block g is a cursor that a call made. -/
structure CurAt (w : World) (g : Nat) (a : Option Addr) (m c : Nat) (r s o f : Int) : Prop where
  heap : w.heap[g]? = some (.cells (curCells a m c r s o f) 119 (0, 0))

theorem cell_of_cells {w : World} {b : Nat} {cs : Array Value} {t : TypeId} (h : w.heap[b]? = some (.cells cs t (0, 0))) {i : Nat} {v : Value} (hi : cs[i]? = some v) : w.cell? ⟨b, i, none⟩ = some v := by simp [World.cell?, h, hi]
theorem free_of_cells {w : World} {b : Nat} {cs : Array Value} {t : TypeId} (h : w.heap[b]? = some (.cells cs t (0, 0))) (i : Nat) : w.frozen? ⟨b, i, none⟩ = false := by simp [World.frozen?, h]
theorem set_of_cells {w : World} {b : Nat} {cs : Array Value} {t : TypeId} (h : w.heap[b]? = some (.cells cs t (0, 0))) (i : Nat) (u : Value) : (w.setCell ⟨b, i, none⟩ u).heap[b]? = some (.cells (cs.setIfInBounds i u) t (0, 0)) := by
  have hlt := lt_of_block h
  have h' : w.heap[b] = .cells cs t (0, 0) := by simpa [Array.getElem?_eq_getElem hlt] using h
  show (w.heap.modify b _)[b]? = _
  rw [Array.getElem?_eq_getElem (by simpa using hlt), Array.getElem_modify_self, h']
  simp
theorem by_setCell (w : World) (b i : Nat) (u : Value) : w.grownBy (w.setCell ⟨b, i, none⟩ u) (some b) := by
  refine ⟨by unfold World.setCell; split <;> rfl, by unfold World.setCell; split <;> rfl, by unfold World.setCell; split <;> rfl, ?_, ?_⟩
  · unfold World.setCell; split <;> simp
  · intro k hk hne
    exact Below.heap_setCell _ _ _ _ (fun e => hne (by simp [e]))

section
variable {w : World} {g : Nat} {a : Option Addr} {m c : Nat} {r s o f : Int}
theorem CurAt.c0 (h : CurAt w g a m c r s o f) : w.cell? ⟨g, 0, none⟩ = some (.bool true) := cell_of_cells h.heap rfl
theorem CurAt.c1 (h : CurAt w g a m c r s o f) : w.cell? ⟨g, 1, none⟩ = some (.slice a m c) := cell_of_cells h.heap rfl
theorem CurAt.c2 (h : CurAt w g a m c r s o f) : w.cell? ⟨g, 2, none⟩ = some (.int .i64 r) := cell_of_cells h.heap rfl
theorem CurAt.c3 (h : CurAt w g a m c r s o f) : w.cell? ⟨g, 3, none⟩ = some (.int .i64 s) := cell_of_cells h.heap rfl
theorem CurAt.c4 (h : CurAt w g a m c r s o f) : w.cell? ⟨g, 4, none⟩ = some (.int .i64 o) := cell_of_cells h.heap rfl
theorem CurAt.c5 (h : CurAt w g a m c r s o f) : w.cell? ⟨g, 5, none⟩ = some (.int .i64 f) := cell_of_cells h.heap rfl
end
theorem ptrCur : Tryz.prog.underlying 62 = some (.pointer (Tryz.prog.pointee 62)) := by kernel_rfl
theorem err_at {w : World} {g : Nat} {a : Option Addr} {m c : Nat} {r s o f : Int} (h : CurAt w g a m c r s o f) :
    Calls Tryz.prog 38 #[.pointer (some ⟨g, 0, none⟩)] w fun e w' => e = .returned (.int .i64 f) ∧ w = w' := by
  have c0 := h.c0
  have c5 := h.c5
  have he := fun (w : World) (p : Option Addr) => run_eql_pointer_nil w 62 p ptrCur
  go_enter Tryz.func38, Tryz.ntmps38
  go_wp2
  go_ret
  exact ⟨rfl, rfl⟩
theorem left_at {w : World} {g : Nat} {a : Option Addr} {m c : Nat} {r s o f : Int} (h : CurAt w g a m c r s o f) :
    Calls Tryz.prog 130 #[.pointer (some ⟨g, 0, none⟩)] w fun e w' => e = .returned (.int .i64 m) ∧ w = w' := by
  have c1 := h.c1
  have he := fun (w : World) (p : Option Addr) => run_eql_pointer_nil w 62 p ptrCur
  go_enter Tryz.func130, Tryz.ntmps130
  go_wp2
  go_ret
  exact ⟨rfl, rfl⟩
theorem pos_at {w : World} {g : Nat} {a : Option Addr} {m c : Nat} {r s o f : Int} (h : CurAt w g a m c r s o f) :
    Calls Tryz.prog 39 #[.pointer (some ⟨g, 0, none⟩)] w fun e w' => e = .returned (.int .i64 r) ∧ w = w' := by
  have c2 := h.c2
  have he := fun (w : World) (p : Option Addr) => run_eql_pointer_nil w 62 p ptrCur
  go_enter Tryz.func39, Tryz.ntmps39
  go_wp2
  go_ret
  exact ⟨rfl, rfl⟩
theorem reads_at {w : World} {g : Nat} {a : Option Addr} {m c : Nat} {r s o f : Int} (h : CurAt w g a m c r s o f) :
    Calls Tryz.prog 111 #[.pointer (some ⟨g, 0, none⟩)] w fun e w' => e = .returned (.bool (f == 0)) ∧ w = w' := by
  go_enter Tryz.func111, Tryz.ntmps111
  go_wp2_with (go_at_call 38; refine (err_at h).mono ?_; rintro e w' ⟨rfl, rfl⟩)
  go_ret
  exact ⟨rfl, rfl⟩
theorem fail_at {w : World} {g : Nat} {a : Option Addr} {m c : Nat} {r s o : Int} (h : CurAt w g a m c r s o 0) (q : Int) :
    Calls Tryz.prog 72 #[.pointer (some ⟨g, 0, none⟩), .int .i64 q] w fun e w' => e = .returned (.tuple #[]) ∧ CurAt w' g a m c r s o q ∧ w.grownBy w' (some g) := by
  have c5 := h.c5
  have f5 := free_of_cells h.heap 5
  have hn := hid (set_of_cells h.heap 5 (.int .i64 q))
  go_enter Tryz.func72, Tryz.ntmps72
  go_wp2_with (go_at_call 111; refine (reads_at h).mono ?_; rintro e w' ⟨rfl, rfl⟩)
  go_end0
  exact ⟨rfl, ⟨hn.out⟩, by_setCell _ _ _ _⟩
theorem fail_late {w : World} {g : Nat} {a : Option Addr} {m c : Nat} {r s o f : Int} (h : CurAt w g a m c r s o f) (hf : f ≠ 0) (q : Int) :
    Calls Tryz.prog 72 #[.pointer (some ⟨g, 0, none⟩), .int .i64 q] w fun e w' => e = .returned (.tuple #[]) ∧ w = w' := by
  have e0 : (f == 0) = false := by simpa using hf
  clear hf
  go_enter Tryz.func72, Tryz.ntmps72
  go_wp2_with (go_at_call 111; refine (reads_at h).mono ?_; rintro e w' ⟨rfl, rfl⟩)
  go_end0
  exact ⟨rfl, rfl⟩
end Go.Proofs.YtdjlbejhphbcoaaGreat
namespace Go.Proofs.YtdjlbejhphbcoaaGreat
open Go.RowKit
set_option maxRecDepth 100000

/-- Block g is a cursor that a call made: l is left, in block M; r bytes were read; s, o: the faults of short and odd; f: the fault. -/
structure Cur (w : World) (g M : Nat) (l : List Int) (r s o f : Int) : Prop where
  ex : ∃ off c, CurAt w g (some ⟨M, off, none⟩) l.length c r s o f ∧ l.length ≤ c ∧ c ≤ 9223372036854775807 ∧ Ints .u8 w (some ⟨M, off, none⟩) l
  oct : Octets l
  r0 : 0 ≤ r
  rl : r + l.length ≤ 140737488355328
  ne : M ≠ g

theorem Cur.kept {w w' : World} {g M : Nat} {l : List Int} {r s o f : Int} (h : Cur w g M l r s o f) {row : Option Nat} (hb : w.grownBy w' row) (h1 : row ≠ some g) (h2 : row ≠ some M) : Cur w' g M l r s o f := by
  obtain ⟨off, c, hc, hl, hm, hI⟩ := h.ex
  exact ⟨⟨off, c, ⟨block_by hc.heap hb h1⟩, hl, hm, hI.by hb h2⟩, h.oct, h.r0, h.rl, h.ne⟩
theorem Cur.below {w w' : World} {g M : Nat} {l : List Int} {r s o f : Int} (h : Cur w g M l r s o f) (hb : Below w.heap.size w w') : Cur w' g M l r s o f :=
  h.kept (below_by_none hb) (by simp) (by simp)

theorem fresh_any (l : List Int) (a : Option Addr) (c : Nat) (w : World) (hl : l.length ≤ 140737488355328) (hI : Ints .u8 w a l) :
    Calls Tryz.prog 69 #[.slice a l.length c] w fun e w' => e = .returned (.slice (some ⟨w.heap.size, 0, none⟩) l.length l.length) ∧ Fresh 5 w w' (.slice (some ⟨w.heap.size, 0, none⟩) l.length l.length) (l.map (Value.int .u8)) := by
  go_enter Tryz.func69, Tryz.ntmps69
  go_wp2_with (first | (at_make; refine wp_make rfl _ _ rfl elemU8 rfl rfl rfl rfl (Nat.le_refl _) (by omega) (by omega) ?_; intro w1 hf) | (with_reducible refine wp_copy_all rfl (.tmp 7) (.tmp 8) rfl elemU8 rfl rfl (List.length_replicate ..) hf rfl (hI.below hf.bel) ?_; intro w2 hf2))
  go_ret
  exact ⟨rfl, hf2⟩

theorem over_any (l : List Int) (M off c : Nat) (s o : Int) (w : World) (hl : l.length ≤ 140737488355328) (hlc : l.length ≤ c) (hc : c ≤ 9223372036854775807) (ho : Octets l) (hM : M < w.heap.size) (hI : Ints .u8 w (some ⟨M, off, none⟩) l) :
    Calls Tryz.prog 68 #[.slice (some ⟨M, off, none⟩) l.length c, .int .i64 s, .int .i64 o] w fun e w' => e = .returned (.pointer (some ⟨w.heap.size, 0, none⟩)) ∧ Cur w' w.heap.size M l 0 s o 0 ∧ Below w.heap.size w w' ∧ w.heap.size < w'.heap.size := by
  go_enter Tryz.func68, Tryz.ntmps68
  go_wp2
  go_ret
  exact ⟨rfl, ⟨⟨off, c, ⟨_root_.Go.heap_alloc_new w _⟩, hlc, hc, hI.below (below_alloc _ _)⟩, ho, by omega, by omega, by omega⟩, below_alloc _ _, by simp⟩

theorem new_any (l : List Int) (a : Option Addr) (c : Nat) (s o : Int) (w : World) (hl : l.length ≤ 140737488355328) (ho : Octets l) (hI : Ints .u8 w a l) :
    Calls Tryz.prog 35 #[.slice a l.length c, .int .i64 s, .int .i64 o] w fun e w' => ∃ g, e = .returned (.pointer (some ⟨g, 0, none⟩)) ∧ Cur w' g w.heap.size l 0 s o 0 ∧ Below w.heap.size w w' ∧ w.heap.size < g ∧ g < w'.heap.size := by
  go_enter Tryz.func35, Tryz.ntmps35
  go_wp2_with fail
  refine (fresh_any l a c w hl hI).mono ?_
  rintro e w1 ⟨rfl, hf⟩
  obtain ⟨a1, c1, he, hl1, hc1, hI1⟩ := own_ints hf.own
  simp at he
  obtain ⟨rfl, rfl⟩ := he
  have hsz : w.heap.size < w1.heap.size := (hf.own.lt _ rfl).2
  go_wp2_with fail
  refine (over_any l w.heap.size 0 l.length s o w1 hl (Nat.le_refl _) (by omega) ho hsz hI1).mono ?_
  rintro e w2 ⟨rfl, hC, hB, hs2⟩
  go_wp2
  go_ret
  exact ⟨_, rfl, hC, hf.bel.trans (hB.mono hf.bel.size), hsz, hs2⟩
end Go.Proofs.YtdjlbejhphbcoaaGreat
namespace Go.Proofs.YtdjlbejhphbcoaaGreat
open Go.RowKit
set_option maxRecDepth 100000

section
variable {w : World} {g M : Nat} {l : List Int} {r s o f : Int}

theorem Cur.err (h : Cur w g M l r s o f) : Calls Tryz.prog 38 #[.pointer (some ⟨g, 0, none⟩)] w fun e w' => e = .returned (.int .i64 f) ∧ w = w' := by
  obtain ⟨off, c, hc, _⟩ := h.ex; exact err_at hc
theorem Cur.left (h : Cur w g M l r s o f) : Calls Tryz.prog 130 #[.pointer (some ⟨g, 0, none⟩)] w fun e w' => e = .returned (.int .i64 l.length) ∧ w = w' := by
  obtain ⟨off, c, hc, _⟩ := h.ex; exact left_at hc
theorem Cur.pos (h : Cur w g M l r s o f) : Calls Tryz.prog 39 #[.pointer (some ⟨g, 0, none⟩)] w fun e w' => e = .returned (.int .i64 r) ∧ w = w' := by
  obtain ⟨off, c, hc, _⟩ := h.ex; exact pos_at hc
theorem Cur.reads (h : Cur w g M l r s o f) : Calls Tryz.prog 111 #[.pointer (some ⟨g, 0, none⟩)] w fun e w' => e = .returned (.bool (f == 0)) ∧ w = w' := by
  obtain ⟨off, c, hc, _⟩ := h.ex; exact reads_at hc
theorem Cur.fail (h : Cur w g M l r s o 0) (q : Int) : Calls Tryz.prog 72 #[.pointer (some ⟨g, 0, none⟩), .int .i64 q] w fun e w' => e = .returned (.tuple #[]) ∧ Cur w' g M l r s o q ∧ w.grownBy w' (some g) := by
  obtain ⟨off, c, hc, h1, h2, h3⟩ := h.ex
  refine (fail_at hc q).mono ?_
  rintro e w' ⟨rfl, hc', hb⟩
  exact ⟨rfl, ⟨⟨off, c, hc', h1, h2, h3.by hb (by have := h.ne; simp; omega)⟩, h.oct, h.r0, h.rl, h.ne⟩, hb⟩
theorem Cur.fail_late (h : Cur w g M l r s o f) (hf : f ≠ 0) (q : Int) : Calls Tryz.prog 72 #[.pointer (some ⟨g, 0, none⟩), .int .i64 q] w fun e w' => e = .returned (.tuple #[]) ∧ w = w' := by
  obtain ⟨off, c, hc, _⟩ := h.ex; exact Proofs.YtdjlbejhphbcoaaGreat.fail_late hc hf q

theorem Cur.take_late (h : Cur w g M l r s o f) (hf : f ≠ 0) (n : Int) : Calls Tryz.prog 70 #[.pointer (some ⟨g, 0, none⟩), .int .i64 n] w fun e w' => e = .returned (.tuple #[.slice none 0 0, .bool false]) ∧ w = w' := by
  have e0 : (f == 0) = false := by simpa using hf
  clear hf
  go_enter Tryz.func70, Tryz.ntmps70
  go_wp2_with (go_at_call 111; refine (h.reads).mono ?_; rintro e w' ⟨rfl, rfl⟩)
  go_ret2
  exact ⟨rfl, rfl⟩
theorem Cur.take_short (h : Cur w g M l r s o 0) {n : Int} (hn : (l.length : Int) < n) : Calls Tryz.prog 70 #[.pointer (some ⟨g, 0, none⟩), .int .i64 n] w fun e w' => e = .returned (.tuple #[.slice none 0 0, .bool false]) ∧ Cur w' g M l r s o s ∧ w.grownBy w' (some g) := by
  obtain ⟨off, c, hc, h1, h2, h3⟩ := h.ex
  have c1 := hc.c1
  have c3 := hc.c3
  have n0 : ¬ n < 0 := by omega
  clear hc h3
  go_enter Tryz.func70, Tryz.ntmps70
  go_wp2_with (first | (go_at_call 111; refine (h.reads).mono ?_; rintro e w' ⟨rfl, rfl⟩) | (go_at_call 72; refine (h.fail _).mono ?_; rintro e w1 ⟨rfl, hC, hB⟩))
  go_ret2
  exact ⟨rfl, hC, hB⟩

theorem grownBy_refl (w : World) (row : Option Nat) : w.grownBy w row := ⟨rfl, rfl, rfl, Nat.le_refl _, fun _ _ _ => rfl⟩
theorem grownBy_more {w w' : World} {row : Option Nat} (h : w.grownBy w' none) : w.grownBy w' row := ⟨h.os, h.tape, h.output, h.size, fun i hi _ => h.block i hi (by simp)⟩
theorem grownBy_then {w w1 w2 : World} {row : Option Nat} (h : w.grownBy w1 row) (k : w1.grownBy w2 row) : w.grownBy w2 row := grownBy_trans h k (.inl rfl)

theorem Cur.take_ok (h : Cur w g M l r s o 0) {n : Nat} (hn : n ≤ l.length) : Calls Tryz.prog 70 #[.pointer (some ⟨g, 0, none⟩), .int .i64 n] w fun e w' =>
    ∃ off c, e = .returned (.tuple #[.slice (some ⟨M, off, none⟩) n c, .bool true]) ∧ n ≤ c ∧ c ≤ 9223372036854775807 ∧ Ints .u8 w' (some ⟨M, off, none⟩) (l.take n) ∧ Cur w' g M (l.drop n) (r + n) s o 0 ∧ w.grownBy w' (some g) := by
  obtain ⟨off, c, hc, h1, h2, h3⟩ := h.ex
  have c1 := hc.c1
  have c2 := hc.c2
  have f1 := free_of_cells hc.heap 1
  have f2 := free_of_cells hc.heap 2
  have hle : (n : Int) ≤ (l.length : Int) := by omega
  have n0 : ¬ (n : Int) < 0 := by omega
  have n1 : ¬ (l.length : Int) < (n : Int) := by omega
  have r0 := h.r0
  have rl := h.rl
  have HC := hid hc
  have HR := hid (show (l.drop n).length = l.length - n from List.length_drop ..)
  have HI := hid (show ∀ w1 : World, w.grownBy w1 (some g) → Ints .u8 w1 (some ⟨M, off, none⟩) l from fun _ hb => h3.by hb (by have := h.ne; simp; omega))
  clear hc h3
  by_cases hcn : c = n
  · obtain rfl : n = c := hcn.symm
    go_enter Tryz.func70, Tryz.ntmps70
    go_wp2_with (first | (go_at_call 111; refine (h.reads).mono ?_; rintro e w' ⟨rfl, rfl⟩))
    go_ret2
    have hb := grownBy_then (by_setCell w g 1 (.slice (some ⟨M, off, none⟩) 0 0)) (by_setCell _ g 2 (.int .i64 (r + n)))
    have hI := HI.out _ hb
    have hD := hI.drop (j := n) h1
    rw [if_pos rfl] at hD
    exact ⟨off, n, rfl, by omega, h2, hI.take n, ⟨⟨off, 0, ⟨by rw [HR.out, show l.length - n = 0 by omega]; exact set_of_cells (set_of_cells HC.out.heap 1 _) 2 _⟩, by rw [HR.out]; omega, by omega, hD⟩, h.oct.drop n, by omega, by rw [HR.out]; omega, h.ne⟩, hb⟩
  · go_enter Tryz.func70, Tryz.ntmps70
    go_wp2_with (first | (go_at_call 111; refine (h.reads).mono ?_; rintro e w' ⟨rfl, rfl⟩))
    go_ret2
    have hb := grownBy_then (by_setCell w g 1 (.slice (some ⟨M, off + n, none⟩) (l.length - n) (c - n))) (by_setCell _ g 2 (.int .i64 (r + n)))
    have hI := HI.out _ hb
    have hD := hI.drop (j := n) h1
    rw [if_neg hcn] at hD
    exact ⟨off, c, rfl, by omega, h2, hI.take n, ⟨⟨off + n, c - n, ⟨by rw [HR.out]; exact set_of_cells (set_of_cells HC.out.heap 1 _) 2 _⟩, by rw [HR.out]; omega, by omega, hD⟩, h.oct.drop n, by omega, by rw [HR.out]; omega, h.ne⟩, hb⟩
end
end Go.Proofs.YtdjlbejhphbcoaaGreat
namespace Go.Proofs.YtdjlbejhphbcoaaGreat
open Go.RowKit
set_option maxRecDepth 100000

/-- What is handed back is a slice in new memory, which holds xs; of what was there no more than one block has turned. -/
structure Gives (e : TypeId) (w w' : World) (row : Option Nat) (v : Value) (xs : List Value) : Prop where
  own : w'.ownsRow 0 e 1 v xs.length xs
  by_ : w.grownBy w' row
  new : ∀ k, v.ownBlock = some k → w.heap.size ≤ k

theorem Gives.behind {e : TypeId} {w w1 w2 : World} {row : Option Nat} {v : Value} {xs : List Value} (h : w.grownBy w1 row) (k : Fresh e w1 w2 v xs) : Gives e w w2 row v xs :=
  ⟨k.own, grownBy_then h (grownBy_more (below_by_none k.bel)), fun g hg => Nat.le_trans h.size (k.new g hg)⟩

section
variable {w : World} {g M : Nat} {l : List Int} {r s o f : Int}

/-- numbers that are no ints stand in no cursor: what turns a cursor leaves them -/
theorem Cur.ints {w' : World} (h : Cur w g M l r s o f) {k : IntKind} {a : Option Addr} {xs : List Int} (hI : Ints k w a xs) (hk : k ≠ .i64) (hb : w.grownBy w' (some g)) : Ints k w' a xs := by
  obtain ⟨off, c, hc, _⟩ := h.ex
  intro i hi
  obtain ⟨b, o, he, hcell⟩ := hI i hi
  refine ⟨b, o, he, ?_⟩
  by_cases hbg : b = g
  · subst hbg
    exfalso
    have hx := hcell
    simp only [World.cell?, hc.heap] at hx
    rcases (show o + i = 0 ∨ o + i = 1 ∨ o + i = 2 ∨ o + i = 3 ∨ o + i = 4 ∨ o + i = 5 ∨ 6 ≤ o + i by omega) with e | e | e | e | e | e | e
    all_goals first | (rw [e] at hx; simp [curCells] at hx) | (simp [curCells, e] at hx)
    all_goals exact hk hx.1.symm
  · exact hb.cell hcell (by simp; exact hbg)

/-- what Bytes hands back -/
def BytesPost (w : World) (g M : Nat) (out l : List Int) (r s o f : Int) (e : Ending) (w' : World) : Prop :=
  ∃ k, e = .returned (.slice (some ⟨k, 0, none⟩) out.length out.length) ∧ Gives 5 w w' (some g) (.slice (some ⟨k, 0, none⟩) out.length out.length) (out.map (Value.int .u8)) ∧ Cur w' g M l r s o f

theorem Cur.bytes_ok (h : Cur w g M l r s o 0) {n : Nat} (hn : n ≤ l.length) : Calls Tryz.prog 36 #[.pointer (some ⟨g, 0, none⟩), .int .i64 n] w (BytesPost w g M (l.take n) (l.drop n) (r + n) s o 0) := by
  have hl := h.rl
  have hr := h.r0
  have htl := hid (show (l.take n).length = n by rw [List.length_take]; omega)
  go_enter Tryz.func36, Tryz.ntmps36
  go_wp2_with fail
  refine (h.take_ok hn).mono ?_
  rintro e w1 ⟨off, c, rfl, hnc, hc, hI, hC, hB⟩
  have hF := fresh_any (l.take n) _ c w1 (by rw [htl.out]; omega) hI
  rw [htl.out] at hF
  have HF := hid hF
  clear hF hI
  go_wp2_with fail
  refine HF.out.mono ?_
  rintro e w2 ⟨rfl, hf⟩
  go_wp2
  go_ret
  refine ⟨w1.heap.size, ?_, ?_, hC.below hf.bel⟩
  · rw [htl.out]; rfl
  · rw [htl.out]; exact Gives.behind hB hf
theorem Cur.bytes_late (h : Cur w g M l r s o f) (hf : f ≠ 0) (n : Int) : Calls Tryz.prog 36 #[.pointer (some ⟨g, 0, none⟩), .int .i64 n] w (BytesPost w g M [] l r s o f) := by
  have H := hid hf
  clear hf
  go_enter Tryz.func36, Tryz.ntmps36
  go_wp2_with (first | (go_at_call 70; refine (h.take_late H.out n).mono ?_; rintro e w' ⟨rfl, rfl⟩) | (go_at_call 69; refine (fresh_any [] none 0 _ (by simp) (Ints.nil _ _ _)).mono ?_; rintro e w2 ⟨rfl, hf⟩))
  go_ret
  exact ⟨_, rfl, Gives.behind (grownBy_refl w _) hf, h.below hf.bel⟩
theorem Cur.bytes_short (h : Cur w g M l r s o 0) {n : Int} (hn : (l.length : Int) < n) : Calls Tryz.prog 36 #[.pointer (some ⟨g, 0, none⟩), .int .i64 n] w (BytesPost w g M [] l r s o s) := by
  go_enter Tryz.func36, Tryz.ntmps36
  go_wp2_with (first | (go_at_call 70; refine (h.take_short hn).mono ?_; rintro e w1 ⟨rfl, hC, hB⟩) | (go_at_call 69; refine (fresh_any [] none 0 _ (by simp) (Ints.nil _ _ _)).mono ?_; rintro e w2 ⟨rfl, hf⟩))
  go_ret
  exact ⟨_, rfl, Gives.behind hB hf, hC.below hf.bel⟩
theorem Cur.rest_ok (h : Cur w g M l r s o 0) : Calls Tryz.prog 101 #[.pointer (some ⟨g, 0, none⟩)] w (BytesPost w g M l [] (r + l.length) s o 0) := by
  have hB := h.bytes_ok (Nat.le_refl l.length)
  rw [List.take_length, List.drop_length] at hB
  have HB := hid hB
  clear hB
  go_enter Tryz.func101, Tryz.ntmps101
  go_wp2_with fail
  refine h.left.mono ?_
  rintro e w' ⟨rfl, rfl⟩
  go_wp2_with fail
  refine HB.out.mono ?_
  rintro e w1 ⟨k, rfl, hG, hC⟩
  go_wp2
  go_ret
  exact ⟨k, rfl, hG, hC⟩
theorem Cur.rest_late (h : Cur w g M l r s o f) (hf : f ≠ 0) : Calls Tryz.prog 101 #[.pointer (some ⟨g, 0, none⟩)] w (BytesPost w g M [] l r s o f) := by
  have H := hid hf
  clear hf
  go_enter Tryz.func101, Tryz.ntmps101
  go_wp2_with fail
  refine h.left.mono ?_
  rintro e w' ⟨rfl, rfl⟩
  go_wp2_with fail
  refine (h.bytes_late H.out _).mono ?_
  rintro e w1 ⟨k, rfl, hG, hC⟩
  go_wp2
  go_ret
  exact ⟨k, rfl, hG, hC⟩

theorem Cur.block_lt (h : Cur w g M l r s o f) : g < w.heap.size := by obtain ⟨off, c, hc, _⟩ := h.ex; exact lt_of_block hc.heap

end
end Go.Proofs.YtdjlbejhphbcoaaGreat
namespace Go.Proofs.YtdjlbejhphbcoaaGreat
open Go.RowKit
set_option maxRecDepth 100000

section
variable {w : World} {g M : Nat} {l : List Int} {r s o f : Int}

theorem getW_ok {ws b ns : List Int} (h : getW ws b = .ok ns) (ho : Octets b) : rightW ws = true ∧ sizeL ws ≤ b.length ∧ sizeW ws = sizeL ws ∧ U64s ns ∧ ns.length = countL ws := by
  unfold getW at h
  split at h
  · rename_i hr
    obtain ⟨_, h2, h3, h4⟩ := get_put h (rightW_all hr) ho
    exact ⟨hr, h2, by simp [sizeW, hr], h4, h3.symm⟩
  · simp at h

theorem ne_of_new {w : World} {v : Value} {g : Nat} (h : ∀ k, v.ownBlock = some k → w.heap.size ≤ k) (hg : g < w.heap.size) : v.ownBlock = none ∨ v.ownBlock ≠ some g := by
  cases hv : v.ownBlock with
  | none => exact .inl rfl
  | some k => right; have := h k hv; simp; omega

/-- what Row hands back where it reads -/
def RowPost (w : World) (g M : Nat) (ns l : List Int) (r s o f : Int) (e : Ending) (w' : World) : Prop :=
  ∃ v, e = .returned v ∧ Gives 22 w w' (some g) v (ns.map (Value.int .u64)) ∧ Cur w' g M l r s o f

theorem Cur.row_late (h : Cur w g M l r s o f) (hf : f ≠ 0) (v : Value) : Calls Tryz.prog 100 #[.pointer (some ⟨g, 0, none⟩), v] w fun e w' => e = .returned (.slice none 0 0) ∧ w = w' := by
  have e0 : (f == 0) = false := by simpa using hf
  clear hf
  go_enter Tryz.func100, Tryz.ntmps100
  go_wp2_with (first | (go_at_call 111; refine h.reads.mono ?_; rintro e w' ⟨rfl, rfl⟩))
  go_ret
  exact ⟨rfl, rfl⟩
theorem Cur.row_ok (h : Cur w g M l r s o 0) (ws ns : List Int) (a : Option Addr) (c : Nat) (hl : ws.length ≤ 9223372036854775807) (ha : Ints .i64 w a ws) (hg : getW ws l = .ok ns) : Calls Tryz.prog 100 #[.pointer (some ⟨g, 0, none⟩), .slice a ws.length c] w
    (RowPost w g M ns (l.drop (sizeL ws)) (r + sizeL ws) s o 0) := by
  obtain ⟨off, cc, hc, h1, h2, h3⟩ := h.ex
  have c1 := hc.c1
  obtain ⟨_, hsz, hsw, _, _⟩ := getW_ok hg h.oct
  have HG := hid hg
  have HS := hid hsw
  clear hg hsw hc
  go_enter Tryz.func100, Tryz.ntmps100
  go_wp2_with fail
  refine h.reads.mono ?_
  rintro e w' ⟨rfl, rfl⟩
  go_wp2_with fail
  refine (get_any ws l a _ c cc w hl h1 h2 h.oct ha h3).mono ?_
  rintro e w1 (⟨q, hq, _⟩ | ⟨ns', v, hq, rfl, hf⟩)
  · rw [HG.out] at hq; simp at hq
  · obtain rfl : ns = ns' := by have := HG.out; rw [hq] at this; simpa using this.symm
    have h' := h.below hf.bel
    clear hq h3
    go_wp2_with fail
    refine (size_any ws a c w1 hl (ha.below hf.bel)).mono ?_
    rintro e w2 ⟨rfl, rfl⟩
    rw [HS.out]
    go_wp2_with fail
    refine (h'.take_ok hsz).mono ?_
    rintro e w2 ⟨off2, c2, rfl, _, _, _, hC, hB⟩
    go_wp2
    go_ret
    exact ⟨v, rfl, ⟨hf.own.kept hB (ne_of_new hf.new h.block_lt), grownBy_then (grownBy_more (below_by_none hf.bel)) hB, hf.new⟩, hC⟩
theorem Cur.row_short (h : Cur w g M l r s o 0) (ws : List Int) (a : Option Addr) (c : Nat) (hl : ws.length ≤ 9223372036854775807) (ha : Ints .i64 w a ws) (hg : getW ws l = .error 1) : Calls Tryz.prog 100 #[.pointer (some ⟨g, 0, none⟩), .slice a ws.length c] w
    fun e w' => e = .returned (.slice none 0 0) ∧ Cur w' g M l r s o s ∧ w.grownBy w' (some g) := by
  obtain ⟨off, cc, hc, h1, h2, h3⟩ := h.ex
  have c1 := hc.c1
  have c3 := hc.c3
  have HG := hid hg
  clear hg hc
  go_enter Tryz.func100, Tryz.ntmps100
  go_wp2_with fail
  refine h.reads.mono ?_
  rintro e w' ⟨rfl, rfl⟩
  go_wp2_with fail
  refine (get_no ws l 1 HG.out a _ c cc w hl h1 h2 h.oct ha h3).mono ?_
  rintro e w1 ⟨rfl, hB⟩
  have h' := h.below hB
  have c3' := cell_keep c3 hB
  clear h3 c3
  go_wp2_with fail
  refine (h'.fail _).mono ?_
  rintro e w2 ⟨rfl, hC, hB2⟩
  go_wp2
  go_ret
  exact ⟨rfl, hC, grownBy_then (grownBy_more (below_by_none hB)) hB2⟩
theorem Cur.row_odd (h : Cur w g M l r s o 0) (ws : List Int) (a : Option Addr) (c : Nat) (hl : ws.length ≤ 9223372036854775807) (ha : Ints .i64 w a ws) (hg : getW ws l = .error 2) : Calls Tryz.prog 100 #[.pointer (some ⟨g, 0, none⟩), .slice a ws.length c] w
    fun e w' => e = .returned (.slice none 0 0) ∧ Cur w' g M l r s o o ∧ w.grownBy w' (some g) := by
  obtain ⟨off, cc, hc, h1, h2, h3⟩ := h.ex
  have c1 := hc.c1
  have c4 := hc.c4
  have HG := hid hg
  clear hg hc
  go_enter Tryz.func100, Tryz.ntmps100
  go_wp2_with fail
  refine h.reads.mono ?_
  rintro e w' ⟨rfl, rfl⟩
  go_wp2_with fail
  refine (get_no ws l 2 HG.out a _ c cc w hl h1 h2 h.oct ha h3).mono ?_
  rintro e w1 ⟨rfl, hB⟩
  have h' := h.below hB
  have c4' := cell_keep c4 hB
  clear h3 c4
  go_wp2_with fail
  refine (h'.fail _).mono ?_
  rintro e w2 ⟨rfl, hC, hB2⟩
  go_wp2
  go_ret
  exact ⟨rfl, hC, grownBy_then (grownBy_more (below_by_none hB)) hB2⟩
theorem getW_one {x : Nat} (h1 : 1 ≤ x) (h8 : x ≤ 8) {l : List Int} : getW [(x : Int)] l = if l.length < x then .error 1 else .ok [numL (l.take x)] := by
  have hw : isW (x : Int) = true := by simp [isW]; omega
  have hr : rightW [(x : Int)] = true := by simp [rightW, allW, hw]
  rw [getW, if_pos hr, getL_cons, Int.natAbs_natCast, if_pos (show (0 : Int) < x by omega)]
  rfl
theorem sizeL_one (x : Nat) : sizeL [(x : Int)] = x := by simp [sizeL]

theorem one_late (h : Cur w g M l r s o f) (hf : f ≠ 0) (n : Int) : Calls Tryz.prog 155 #[.func (.func 100) #[.pointer (some ⟨g, 0, none⟩)] #[], .int .i64 n] w fun e w' => e = .returned (.int .u64 0) ∧ Below w.heap.size w w' := by
  have H := hid hf
  clear hf
  go_enter Tryz.func155, Tryz.ntmps155
  go_wp2_with (go_at_call 100; refine ((h.below (below_alloc _ _)).row_late H.out _).mono ?_; rintro e w' ⟨rfl, rfl⟩)
  go_ret
  exact ⟨rfl, below_alloc _ _⟩
theorem one_short (h : Cur w g M l r s o 0) {n : Nat} (h1 : 1 ≤ n) (h8 : n ≤ 8) (hn : l.length < n) : Calls Tryz.prog 155 #[.func (.func 100) #[.pointer (some ⟨g, 0, none⟩)] #[], .int .i64 n] w fun e w' => e = .returned (.int .u64 0) ∧ Cur w' g M l r s o s ∧ w.grownBy w' (some g) := by
  have HG := hid (show getW [(n : Int)] l = .error 1 by rw [getW_one h1 h8, if_pos hn])
  go_enter Tryz.func155, Tryz.ntmps155
  go_wp2_with (go_at_call 100; refine ((h.below (below_alloc _ _)).row_short [(n : Int)] (some ⟨w.heap.size, 0, none⟩) 1 (by simp) (ints_one _ _ _ _) HG.out).mono ?_; rintro e w' ⟨rfl, hC, hB⟩)
  go_ret
  exact ⟨rfl, hC, grownBy_then (grownBy_more (by_none_alloc _ _)) hB⟩
theorem one_ok (h : Cur w g M l r s o 0) {n : Nat} (h1 : 1 ≤ n) (h8 : n ≤ 8) (hn : n ≤ l.length) : Calls Tryz.prog 155 #[.func (.func 100) #[.pointer (some ⟨g, 0, none⟩)] #[], .int .i64 n] w fun e w' => e = .returned (.int .u64 (numL (l.take n))) ∧ Cur w' g M (l.drop n) (r + n) s o 0 ∧ w.grownBy w' (some g) := by
  have HG := hid (show getW [(n : Int)] l = .ok [numL (l.take n)] by rw [getW_one h1 h8, if_neg (by omega)])
  go_enter Tryz.func155, Tryz.ntmps155
  go_wp2_with fail
  refine ((h.below (below_alloc _ _)).row_ok [(n : Int)] [numL (l.take n)] (some ⟨w.heap.size, 0, none⟩) 1 (by simp) (ints_one _ _ _ _) HG.out).mono ?_
  rintro e w' ⟨v, rfl, hG, hC⟩
  obtain ⟨a, c, rfl, hlc, _, hI⟩ := own_ints hG.own
  obtain ⟨b, off, x, rfl, hcell, hx⟩ := hI.at (i := 0) (by simp)
  obtain rfl : numL (l.take n) = x := by simpa [Hid] using hx
  rw [sizeL_one] at hC
  rw [Nat.add_zero] at hcell
  simp only [List.length_singleton] at *
  have HB := hid hG.by_
  clear hG hx hI
  go_wp2
  go_ret
  exact ⟨rfl, hC, grownBy_then (grownBy_more (by_none_alloc _ _)) HB.out⟩

theorem Cur.num_late (h : Cur w g M l r s o f) (hf : f ≠ 0) (n : Int) : Calls Tryz.prog 126 #[.pointer (some ⟨g, 0, none⟩), .int .i64 n] w fun e w' => e = .returned (.int .u64 0) ∧ Below w.heap.size w w' := by
  have H := hid hf
  clear hf
  by_cases h1 : n < 1
  · go_enter Tryz.func126, Tryz.ntmps126
    go_wp2_with (go_at_call 72; refine (h.fail_late H.out _).mono ?_; rintro e w' ⟨rfl, rfl⟩)
    go_ret
    exact ⟨rfl, Below.refl _ _⟩
  · by_cases h8 : 8 < n
    · go_enter Tryz.func126, Tryz.ntmps126
      go_wp2_with (go_at_call 72; refine (h.fail_late H.out _).mono ?_; rintro e w' ⟨rfl, rfl⟩)
      go_ret
      exact ⟨rfl, Below.refl _ _⟩
    · have hmf : ∀ (fn : Fn) (first cap : Array Value) (w : World), (Instr.makeFunc fn first cap).run Tryz.prog w = .ok (.func fn first cap) w := fun _ _ _ _ => rfl
      go_enter Tryz.func126, Tryz.ntmps126
      go_wp2_with (go_at_call 155; refine (one_late h H.out _).mono ?_; rintro e w' ⟨rfl, hB⟩)
      go_ret
      exact ⟨rfl, hB⟩
theorem Cur.num_short (h : Cur w g M l r s o 0) {n : Nat} (h1 : 1 ≤ n) (h8 : n ≤ 8) (hn : l.length < n) : Calls Tryz.prog 126 #[.pointer (some ⟨g, 0, none⟩), .int .i64 n] w fun e w' => e = .returned (.int .u64 0) ∧ Cur w' g M l r s o s ∧ w.grownBy w' (some g) := by
  have hmf : ∀ (fn : Fn) (first cap : Array Value) (w : World), (Instr.makeFunc fn first cap).run Tryz.prog w = .ok (.func fn first cap) w := fun _ _ _ _ => rfl
  have i1 : ¬ (n : Int) < 1 := by omega
  have i8 : ¬ 8 < (n : Int) := by omega
  go_enter Tryz.func126, Tryz.ntmps126
  go_wp2_with (go_at_call 155; refine (one_short h h1 h8 hn).mono ?_; rintro e w' ⟨rfl, hC, hB⟩)
  go_ret
  exact ⟨rfl, hC, hB⟩
theorem Cur.num_ok (h : Cur w g M l r s o 0) {n : Nat} (h1 : 1 ≤ n) (h8 : n ≤ 8) (hn : n ≤ l.length) : Calls Tryz.prog 126 #[.pointer (some ⟨g, 0, none⟩), .int .i64 n] w fun e w' => e = .returned (.int .u64 (numL (l.take n))) ∧ Cur w' g M (l.drop n) (r + n) s o 0 ∧ w.grownBy w' (some g) := by
  have hmf : ∀ (fn : Fn) (first cap : Array Value) (w : World), (Instr.makeFunc fn first cap).run Tryz.prog w = .ok (.func fn first cap) w := fun _ _ _ _ => rfl
  have i1 : ¬ (n : Int) < 1 := by omega
  have i8 : ¬ 8 < (n : Int) := by omega
  go_enter Tryz.func126, Tryz.ntmps126
  go_wp2_with (go_at_call 155; refine (one_ok h h1 h8 hn).mono ?_; rintro e w' ⟨rfl, hC, hB⟩)
  go_ret
  exact ⟨rfl, hC, hB⟩
end
end Go.Proofs.YtdjlbejhphbcoaaGreat
namespace Go.Proofs.YtdjlbejhphbcoaaGreat
open Go.RowKit
set_option maxRecDepth 100000

theorem below_by {w0 w w' : World} (h : Below w0.heap.size w0 w) {g : Nat} (hb : w.grownBy w' (some g)) (hg : w0.heap.size ≤ g) : Below w0.heap.size w0 w' :=
  h.grown hb h.size (by intro k hk; simp at hk; omega)
theorem below_more {w0 w w' : World} (h : Below w0.heap.size w0 w) (hb : Below w.heap.size w w') : Below w0.heap.size w0 w' := h.trans (hb.mono h.size)

end Go.Proofs.YtdjlbejhphbcoaaGreat
