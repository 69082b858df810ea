/- Contracts of package cursor: New, over, fresh, take, Bytes, Rest, Look, Sub. -/
import Derived.Test.YtkgjmpcdndohpaaDoorCurA
import Derived.Test.YtkgjmpcdndohpaaDoorOwn
import Derived.Test.YtkgjmpcdndohpaaDoorRowD
namespace Go.Proofs.YtkgjmpcdndohpaaDoor
open Go.RowKit

/-- Block g is a cursor that a call made: l is left, in block M; r bytes were read; s, o: the faults of short and odd; f: the fault. -/
structure Cur (w : World) (g M : Nat) (l : List Int) (r s o f : Int) : Prop where
  ex : ∃ off c, CurAt w g (some ⟨M, off, none⟩) l.length c r s o f ∧ l.length ≤ c ∧ c ≤ 9223372036854775807 ∧ Ints .u8 w (some ⟨M, off, none⟩) l
  oct : Octets l
  r0 : 0 ≤ r
  rl : r + l.length ≤ 140737488355328
  ne : M ≠ g

theorem Cur.kept {w w' : World} {g M : Nat} {l : List Int} {r s o f : Int} (h : Cur w g M l r s o f) {row : Option Nat} (hb : w.grownBy w' row) (h1 : row ≠ some g) (h2 : row ≠ some M) : Cur w' g M l r s o f := by
  obtain ⟨off, c, hc, hl, hm, hI⟩ := h.ex
  exact ⟨⟨off, c, ⟨block_by hc.heap hb h1⟩, hl, hm, hI.by hb h2⟩, h.oct, h.r0, h.rl, h.ne⟩
theorem Cur.below {w w' : World} {g M : Nat} {l : List Int} {r s o f : Int} (h : Cur w g M l r s o f) (hb : Below w.heap.size w w') : Cur w' g M l r s o f :=
  h.kept (below_by_none hb) (by simp) (by simp)

theorem fresh_any (l : List Int) (a : Option Addr) (c : Nat) (w : World) (hl : l.length ≤ 140737488355328) (hI : Ints .u8 w a l) :
    Calls Tryd.prog 37 #[.slice a l.length c] w fun e w' => e = .returned (.slice (some ⟨w.heap.size, 0, none⟩) l.length l.length) ∧ Fresh 5 w w' (.slice (some ⟨w.heap.size, 0, none⟩) l.length l.length) (l.map (Value.int .u8)) := by
  go_enter Tryd.func37, Tryd.ntmps37
  go_wp2_with (first | (at_make; refine wp_make rfl _ _ rfl elemU8 rfl rfl rfl rfl (Nat.le_refl _) (by omega) (by omega) ?_; intro w1 hf) | (with_reducible refine wp_copy_all rfl (.tmp 7) (.tmp 8) rfl elemU8 rfl rfl (List.length_replicate ..) hf rfl (hI.below hf.bel) ?_; intro w2 hf2))
  go_ret
  exact ⟨rfl, hf2⟩

theorem over_any (l : List Int) (M off c : Nat) (s o : Int) (w : World) (hl : l.length ≤ 140737488355328) (hlc : l.length ≤ c) (hc : c ≤ 9223372036854775807) (ho : Octets l) (hM : M < w.heap.size) (hI : Ints .u8 w (some ⟨M, off, none⟩) l) :
    Calls Tryd.prog 36 #[.slice (some ⟨M, off, none⟩) l.length c, .int .i64 s, .int .i64 o] w fun e w' => e = .returned (.pointer (some ⟨w.heap.size, 0, none⟩)) ∧ Cur w' w.heap.size M l 0 s o 0 ∧ Below w.heap.size w w' ∧ w.heap.size < w'.heap.size := by
  go_enter Tryd.func36, Tryd.ntmps36
  go_wp2
  go_ret
  exact ⟨rfl, ⟨⟨off, c, ⟨_root_.Go.heap_alloc_new w _⟩, hlc, hc, hI.below (below_alloc _ _)⟩, ho, by omega, by omega, by omega⟩, below_alloc _ _, by simp⟩

theorem new_any (l : List Int) (a : Option Addr) (c : Nat) (s o : Int) (w : World) (hl : l.length ≤ 140737488355328) (ho : Octets l) (hI : Ints .u8 w a l) :
    Calls Tryd.prog 23 #[.slice a l.length c, .int .i64 s, .int .i64 o] w fun e w' => ∃ g, e = .returned (.pointer (some ⟨g, 0, none⟩)) ∧ Cur w' g w.heap.size l 0 s o 0 ∧ Below w.heap.size w w' ∧ w.heap.size < g ∧ g < w'.heap.size := by
  go_enter Tryd.func23, Tryd.ntmps23
  go_wp2_with fail
  refine (fresh_any l a c w hl hI).mono ?_
  rintro e w1 ⟨rfl, hf⟩
  obtain ⟨a1, c1, he, hl1, hc1, hI1⟩ := own_ints hf.own
  simp at he
  obtain ⟨rfl, rfl⟩ := he
  have hsz : w.heap.size < w1.heap.size := (hf.own.lt _ rfl).2
  go_wp2_with fail
  refine (over_any l w.heap.size 0 l.length s o w1 hl (Nat.le_refl _) (by omega) ho hsz hI1).mono ?_
  rintro e w2 ⟨rfl, hC, hB, hs2⟩
  go_wp2
  go_ret
  exact ⟨_, rfl, hC, hf.bel.trans (hB.mono hf.bel.size), hsz, hs2⟩
end Go.Proofs.YtkgjmpcdndohpaaDoor
