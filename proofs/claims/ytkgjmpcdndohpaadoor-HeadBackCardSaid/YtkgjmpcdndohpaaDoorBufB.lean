/- Contracts of package buffer: Bytes, Done. -/
import Derived.Test.YtkgjmpcdndohpaaDoorBufA
import Derived.Test.YtkgjmpcdndohpaaDoorQuiet
namespace Go.Proofs.YtkgjmpcdndohpaaDoor
open Go.RowKit Go.Maps

/-- what a step on a buffer leaves -/
structure Went (w w' : World) (g m : Nat) (p p' : Option Nat) (r : Nat) (l : List Int) (H : List (Int × Int)) (f : Int) : Prop where
  buf : Buf w' g m p' r l H f
  turn : Turn (Foot g m p) w w'
  moved : ∀ k, p' = some k → p = some k ∨ w.heap.size ≤ k

section
variable {w w1 w' : World} {g m : Nat} {p p' : Option Nat} {r : Nat} {l : List Int} {H : List (Int × Int)} {f : Int}
theorem Went.refl (h : Buf w g m p r l H f) : Went w w g m p p r l H f := ⟨h, Turn.refl _ _, fun _ e => .inl e⟩
theorem Went.by_g (h : Buf w' g m p r l H f) (hb : w.grownBy w' (some g)) : Went w w' g m p p r l H f := ⟨h, Turn.of_by hb (by rintro k e; simp at e; exact .inl e.symm), fun _ e => .inl e⟩
theorem Went.trans {p1 : Option Nat} {l1 : List Int} {H1 : List (Int × Int)} {f1 : Int} (h : Went w w1 g m p p1 r l1 H1 f1) (k : Went w1 w' g m p1 p' r l H f) : Went w w' g m p p' r l H f :=
  ⟨k.buf, h.turn.trans k.turn (by
    rintro i hi (e | e | e)
    · exact .inl e
    · exact .inr (.inl e)
    · rcases h.moved i e with e' | e'
      · exact .inr (.inr e')
      · omega), fun i e => by
    rcases k.moved i e with e' | e'
    · exact h.moved i e'
    · exact .inr (Nat.le_trans h.turn.size e')⟩
theorem Went.ahead (hb : Below w.heap.size w w1) (k : Went w1 w' g m p p' r l H f) : Went w w' g m p p' r l H f :=
  ⟨k.buf, (Turn.of_below hb).trans k.turn (fun _ _ e => e), fun i e => (k.moved i e).imp id (Nat.le_trans hb.size)⟩
theorem Went.behind (k : Went w w1 g m p p' r l H f) (hb : Below w1.heap.size w1 w') : Went w w' g m p p' r l H f :=
  ⟨k.buf.below hb, k.turn.trans (Turn.of_below (S := Foot g m p) hb) (fun _ _ e => e), k.moved⟩
/-- what lies below all of the buffer stays -/
theorem Went.base {B : Nat} (k : Went w w' g m p p' r l H f) (hB : B ≤ w.heap.size) (hf : ∀ i, Foot g m p i → B ≤ i) : ∀ i, Foot g m p' i → B ≤ i := by
  rintro i (e | e | e)
  · exact hf i (.inl e)
  · exact hf i (.inr (.inl e))
  · rcases k.moved i e with e' | e'
    · exact hf i (.inr (.inr e'))
    · omega
/-- a block that is not the buffer's, and was there, is not the buffer's behind it -/
theorem Went.apart (k : Went w w' g m p p' r l H f) {b : Nat} (hb : b < w.heap.size) (hn : ¬ Foot g m p b) : ¬ Foot g m p' b := by
  rintro (e | e | e)
  · exact hn (.inl e)
  · exact hn (.inr (.inl e))
  · rcases k.moved b e with e' | e'
    · exact hn (.inr (.inr e'))
    · omega

/-- the bytes grew, in the slice v' -/
theorem went_grew {v v' : Value} {D : DataW Unit} {l ys : List Int} (hv : v.ownBlock = p) (h : Buf w g m p r l H f) (hg : w.heap[g]? = some (.cells (bufCells r v m f) 67 (0, 0)))
    (hm : w.ownsMap Tryd.prog 3 (plainElem Tryd.prog 3) m H.length D) (ht : Tied D H) (G : Grew 5 w w1 v v' (ys.map (Value.int .u8))) (hl : l.length ≤ ys.length) (hr : ys.length ≤ r) :
    Went w (w1.setCell ⟨g, 2, none⟩ v') g m p v'.ownBlock r ys H f := by
  subst hv
  have hgl := lt_of_block hg
  have hml := hm.lt
  have g1 := block_by hg G.by_ h.gp
  have m1 := hm.kept G.by_ (fun e => h.mp e.symm)
  have ng := moved_ne G.moved h.gp hgl
  have nm := moved_ne G.moved h.mp hml
  have hne : ∀ b, b ≠ g → (w1.setCell ⟨g, 2, none⟩ v').heap[b]? = w1.heap[b]? := fun b hb => Below.heap_setCell _ _ _ _ hb
  refine ⟨⟨⟨v', D, rfl, set_of_cells g1 2 _, own_same G.own (fun b e => hne b (fun e' => ng (by rw [e, e']))), m1.setCell (fun e => h.gm e.symm) _, ht⟩, hr, h.most, fun q hq => ?_, Nat.le_trans h.few hl, h.gm, ng, nm⟩, ?_, ?_⟩
  · have := h.held q hq
    omega
  · exact (Turn.of_by (S := Foot g m v.ownBlock) G.by_ (fun k e => .inr (.inr e))).trans (Turn.of_by (S := Foot g m v.ownBlock) (by_setCell _ _ _ _) (by rintro k e; simp at e; exact .inl e.symm)) (fun _ _ e => e)
  · intro k e
    rcases G.moved with h' | ⟨q, h', hs⟩
    · exact .inl (by rw [← h', e])
    · rw [e] at h'; simp at h'; exact .inr (by omega)

set_option maxHeartbeats 1000000 in
theorem Buf.bytes_ok (h : Buf w g m p r l H 0) (x : List Int) (a : Option Addr) (c : Nat) (hx : l.length + x.length ≤ r) (hI : Ints .u8 w a x) :
    Calls Tryd.prog 31 #[.pointer (some ⟨g, 0, none⟩), .slice a x.length c] w fun e w' => e = .returned (.tuple #[]) ∧ ∃ p', Went w w' g m p p' r (l ++ x) H 0 := by
  obtain ⟨v, D, hv, hg, hr, hm, ht⟩ := h.ex
  obtain ⟨a0, c0, rfl, hl, hc, hI0⟩ := own_ints hr
  have c1 := Wk.cell (show w.cell? ⟨g, 1, none⟩ = some (.int .i64 r) from cell_of_cells hg rfl)
  have c2 := Wk.cell (show w.cell? ⟨g, 2, none⟩ = some (.slice a0 l.length c0) from cell_of_cells hg rfl)
  have n0 : ¬ (r : Int) - (l.length : Int) < (x.length : Int) := by omega
  have hrm := h.most
  have hrr := h.room
  have HH := hid h
  have HG := hid hg
  have HM := hid hm
  have hlen : (l ++ x).length ≤ 1000000 := by rw [List.length_append]; omega
  have hll : l.length ≤ (l ++ x).length := by rw [List.length_append]; omega
  have hrl : (l ++ x).length ≤ r := by rw [List.length_append]; omega
  obtain ⟨ys, hys⟩ : ∃ ys, ys = l ++ x := ⟨_, rfl⟩
  rw [← hys] at hlen hll hrl ⊢
  have b1 : r ≤ 9223372036854775807 := by omega
  have b2 : l.length ≤ 9223372036854775807 := by omega
  have b3 : x.length ≤ 9223372036854775807 := by omega
  have hs := hys.symm
  have hys' := hid hs
  clear h hg hm hys hs
  go_enter Tryd.func31, Tryd.ntmps31
  go_wp2_with fail
  refine HH.out.writes.mono ?_
  rintro e w' ⟨rfl, rfl⟩
  go_wp2_with fail
  refine wp_region_wk (by kernel_rfl) (by kernel_rfl) ?_
  repeat (go_big_quiet_step (fail))
  refine wpQuiet_nil ?_
  rintro w2 ⟨⟨_, hb2⟩, rfl⟩
  obtain ⟨HG2, HM2, hr2, hI2⟩ : Hid (w2.heap[g]? = some (.cells (bufCells r (.slice a0 l.length c0) m 0) 67 (0, 0))) ∧ Hid (w2.ownsMap Tryd.prog 3 (plainElem Tryd.prog 3) m H.length D) ∧ w2.ownsRow 0 5 1 (.slice a0 l.length c0) (l.map (Value.int .u8)).length (l.map (Value.int .u8)) ∧ Ints .u8 w2 a x :=
    ⟨block_by HG.out (below_by_none hb2) (by simp), HM.out.kept (below_by_none hb2) (by simp), hr.kept (below_by_none hb2) (by cases h' : Value.ownBlock _ <;> simp), hI.below hb2⟩
  have HH2 := hid (HH.out.below hb2)
  have hgo := hid HH2.out.gp
  clear c1 c2 hr hI HG HM HH
  have c2 : w2.cell? ⟨g, 2, none⟩ = some (.slice a0 l.length c0) := cell_of_cells HG2.out rfl
  go_wp2_with (at_builtin; refine wp_app_ints rfl (.tmp 26) (.tmp 27) rfl elemU8 rfl hr2 rfl rfl hI2 hys'.out ?_ ?_ ?_; omega; omega; intro a' c' w3 hl1 hc1 hI1 hG; have c2' : w3.cell? ⟨g, 2, none⟩ = some (.slice a0 l.length c0) := cell_of_cells (block_by HG2.out hG.by_ (hv ▸ hgo.out)) rfl; have f2' := free_of_cells (block_by HG2.out hG.by_ (hv ▸ hgo.out)) 2; have hWent := hid ((went_grew hv HH2.out HG2.out HM2.out ht hG hll hrl).ahead hb2))
  go_end0
  exact ⟨rfl, _, hWent.out⟩
theorem Buf.bytes_long (h : Buf w g m p r l H 0) (x : List Int) (a : Option Addr) (c : Nat) (hx : r < l.length + x.length) (hm : x.length ≤ 9223372036854775807) :
    Calls Tryd.prog 31 #[.pointer (some ⟨g, 0, none⟩), .slice a x.length c] w fun e w' => e = .returned (.tuple #[]) ∧ ∃ p', Went w w' g m p p' r l H 10003 := by
  obtain ⟨v, D, hv, hg, hr, _, ht⟩ := h.ex
  obtain ⟨a0, c0, rfl, hl, hc, hI0⟩ := own_ints hr
  have c1 := Wk.cell (show w.cell? ⟨g, 1, none⟩ = some (.int .i64 r) from cell_of_cells hg rfl)
  have c2 := Wk.cell (show w.cell? ⟨g, 2, none⟩ = some (.slice a0 l.length c0) from cell_of_cells hg rfl)
  have n0 : (r : Int) - (l.length : Int) < (x.length : Int) := by omega
  have hrm := h.most
  have hrr := h.room
  have b1 : r ≤ 9223372036854775807 := by omega
  have b2 : l.length ≤ 9223372036854775807 := by omega
  have HH := hid h
  clear h hg hr hI0
  go_enter Tryd.func31, Tryd.ntmps31
  go_wp2_with fail
  refine HH.out.writes.mono ?_
  rintro e w' ⟨rfl, rfl⟩
  go_wp2_with fail
  refine wp_region_wk (by kernel_rfl) (by kernel_rfl) ?_
  repeat (go_big_quiet_step (fail))
  refine wpQuiet_nil ?_
  rintro w2 ⟨⟨_, hb2⟩, rfl⟩
  go_wp2_with fail
  refine ((HH.out.below hb2).fail _).mono ?_
  rintro e w' ⟨rfl, hB, hb⟩
  go_wp2
  (try simp only [Exit.inBlock, Exit.then])
  refine bodyPost_ret (results_none rfl _ _ _) rfl ?_
  exact ⟨rfl, _, (Went.by_g hB hb).ahead hb2⟩
theorem Buf.bytes_late (h : Buf w g m p r l H f) (hf : f ≠ 0) (v : Value) :
    Calls Tryd.prog 31 #[.pointer (some ⟨g, 0, none⟩), v] w fun e w' => e = .returned (.tuple #[]) ∧ w = w' := by
  have e0 : (f == 0) = false := by simpa using hf
  have HH := hid h
  clear h hf
  go_enter Tryd.func31, Tryd.ntmps31
  go_wp2_with fail
  refine HH.out.writes.mono ?_
  rintro e w' ⟨rfl, rfl⟩
  go_wp2
  (try simp only [Exit.inBlock, Exit.then])
  refine bodyPost_ret (results_none rfl _ _ _) rfl ?_
  exact ⟨rfl, rfl⟩

theorem buf_bytes_nil (w : World) (v : Value) :
    Calls Tryd.prog 31 #[.pointer none, v] w fun e w' => e = .returned (.tuple #[]) ∧ w = w' := by
  go_enter Tryd.func31, Tryd.ntmps31
  go_wp2_with fail
  refine (buf_writes_nil w).mono ?_
  rintro e w' ⟨rfl, rfl⟩
  go_wp2
  (try simp only [Exit.inBlock, Exit.then])
  refine bodyPost_ret (results_none rfl _ _ _) rfl ?_
  exact ⟨rfl, rfl⟩
theorem Buf.done_late (h : Buf w g m p r l H f) (hf : f ≠ 0) :
    Calls Tryd.prog 21 #[.pointer (some ⟨g, 0, none⟩)] w fun e w' => e = .returned (.tuple #[.slice none 0 0, .int .i64 f]) ∧ Below w.heap.size w w' := by
  obtain ⟨v, D, hv, hg, hr, _, ht⟩ := h.ex
  have c0 : w.cell? ⟨g, 0, none⟩ = some (.bool true) := cell_of_cells hg rfl
  have c4q := Wk.cell (show w.cell? ⟨g, 4, none⟩ = some (.int .i64 f) from cell_of_cells hg rfl)
  have c4 : w.cell? ⟨g, 4, none⟩ = some (.int .i64 f) := cell_of_cells hg rfl
  have he := fun (w : World) (p : Option Addr) => run_eql_pointer_nil w 46 p ptrBuf
  have e0 : (f != 0) = true := by simpa using hf
  clear h hg hr hf
  go_enter Tryd.func21, Tryd.ntmps21
  go_wp2
  refine wp_region_wk (by kernel_rfl) (by kernel_rfl) ?_
  repeat (go_big_quiet_step (fail))
  refine wpQuiet_nil ?_
  rintro w2 ⟨⟨_, hb2⟩, rfl⟩
  go_wp2
  go_ret2
  exact ⟨rfl, hb2⟩
theorem Buf.done_held (h : Buf w g m p r l H 0) (hH : H ≠ []) :
    Calls Tryd.prog 21 #[.pointer (some ⟨g, 0, none⟩)] w fun e w' => e = .returned (.tuple #[.slice none 0 0, .int .i64 10001]) ∧ w = w' := by
  obtain ⟨v, D, hv, hg, hr, hm, ht⟩ := h.ex
  have c0 : w.cell? ⟨g, 0, none⟩ = some (.bool true) := cell_of_cells hg rfl
  have c3 : w.cell? ⟨g, 3, none⟩ = some (.map (some m)) := cell_of_cells hg rfl
  have c4 : w.cell? ⟨g, 4, none⟩ = some (.int .i64 0) := cell_of_cells hg rfl
  have he := fun (w : World) (p : Option Addr) => run_eql_pointer_nil w 46 p ptrBuf
  have hs := ht.size
  have hp : 0 < H.length := List.length_pos_iff.2 hH
  clear h hg hr hH ht
  go_enter Tryd.func21, Tryd.ntmps21
  go_wp2_with (at_len; refine wpList_len_own _ rfl _ 65 rfl 3 3 underMap _ m _ D rfl hm ?_)
  go_ret2
  exact ⟨rfl, rfl⟩
theorem Buf.done_ok (h : Buf w g m p r l [] 0) :
    Calls Tryd.prog 21 #[.pointer (some ⟨g, 0, none⟩)] w fun e w' => e = .returned (.tuple #[.slice (some ⟨w.heap.size, 0, none⟩) l.length l.length, .int .i64 0]) ∧ Fresh 5 w w' (.slice (some ⟨w.heap.size, 0, none⟩) l.length l.length) (l.map (Value.int .u8)) := by
  obtain ⟨v, D, hv, hg, hr, hm, ht⟩ := h.ex
  obtain ⟨a0, c9, rfl, hl, hc, hI0⟩ := own_ints hr
  have c0 : w.cell? ⟨g, 0, none⟩ = some (.bool true) := cell_of_cells hg rfl
  have c2 : w.cell? ⟨g, 2, none⟩ = some (.slice a0 l.length c9) := cell_of_cells hg rfl
  have c3 : w.cell? ⟨g, 3, none⟩ = some (.map (some m)) := cell_of_cells hg rfl
  have c4 : w.cell? ⟨g, 4, none⟩ = some (.int .i64 0) := cell_of_cells hg rfl
  have he := fun (w : World) (p : Option Addr) => run_eql_pointer_nil w 46 p ptrBuf
  have hs := ht.size
  have hrm := h.most
  have hrr := h.room
  clear h hg hr ht
  go_enter Tryd.func21, Tryd.ntmps21
  go_wp2_with (first | (at_len; refine wpList_len_own _ rfl _ 65 rfl 3 3 underMap _ m _ D rfl hm ?_) | (at_make; refine wp_make rfl _ _ rfl elemU8 rfl rfl rfl rfl (Nat.le_refl _) (by omega) (by omega) ?_; intro w1 hf; have c2' := cell_keep c2 hf.bel) | (with_reducible refine wp_copy_all rfl (.tmp 38) (.tmp 42) rfl elemU8 rfl rfl (List.length_replicate ..) hf rfl (hI0.below hf.bel) ?_; intro w2 hf2))
  go_ret2
  exact ⟨rfl, hf2⟩
theorem done_nil (w : World) :
    Calls Tryd.prog 21 #[.pointer none] w fun e w' => e = .returned (.tuple #[.slice none 0 0, .int .i64 10001]) ∧ w = w' := by
  have he := fun (w : World) (p : Option Addr) => run_eql_pointer_nil w 46 p ptrBuf
  go_enter Tryd.func21, Tryd.ntmps21
  go_wp2
  go_ret2
  exact ⟨rfl, rfl⟩
end
end Go.Proofs.YtkgjmpcdndohpaaDoor
