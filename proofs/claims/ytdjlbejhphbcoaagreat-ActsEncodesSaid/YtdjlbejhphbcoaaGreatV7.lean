/- Put together out of several texts. -/
import Derived.Test.YtdjlbejhphbcoaaGreatV5
import Derived.Test.YtdjlbejhphbcoaaGreatV1
import Derived.Test.YtdjlbejhphbcoaaGreatV4
import Derived.Maps.OwnSet
namespace Go.Proofs.YtdjlbejhphbcoaaGreat
open Go.RowKit Go.Maps
set_option maxRecDepth 100000

/-- The worlds w and w' are alike but for the blocks of S, and what is new. -/
structure Turn (S : Nat → Prop) (w w' : World) : Prop where
  os : w'.os = w.os
  tape : w'.tape = w.tape
  output : w'.output = w.output
  size : w.heap.size ≤ w'.heap.size
  block : ∀ k, k < w.heap.size → ¬ S k → w'.heap[k]? = w.heap[k]?

theorem Turn.trans {S S' : Nat → Prop} {a b c : World} (h : Turn S a b) (k : Turn S' b c) (hs : ∀ i, i < a.heap.size → S' i → S i) : Turn S a c :=
  ⟨k.os.trans h.os, k.tape.trans h.tape, k.output.trans h.output, Nat.le_trans h.size k.size, fun i hi hn => (k.block i (Nat.lt_of_lt_of_le hi h.size) (fun e => hn (hs i hi e))).trans (h.block i hi hn)⟩
theorem Turn.of_by {S : Nat → Prop} {w w' : World} {row : Option Nat} (h : w.grownBy w' row) (hr : ∀ k, row = some k → S k) : Turn S w w' :=
  ⟨h.os, h.tape, h.output, h.size, fun k hk hn => h.block k hk (fun e => hn (hr k e.symm))⟩
theorem Turn.of_below {S : Nat → Prop} {w w' : World} (h : Below w.heap.size w w') : Turn S w w' := ⟨h.os, h.tape, h.output, h.size, fun k hk _ => h.block k hk⟩
theorem Turn.below {S : Nat → Prop} {B : Nat} {a w w' : World} (h : Turn S w w') (hb : Below B a w) (hB : B ≤ w.heap.size) (hS : ∀ k, S k → B ≤ k) : Below B a w' :=
  hb.trans ⟨h.os, h.tape, h.output, h.size, fun k hk => h.block k (by omega) (fun e => by have := hS k e; omega)⟩
theorem Turn.cell {S : Nat → Prop} {w w' : World} (h : Turn S w w') {p : Addr} {x : Value} (hc : w.cell? p = some x) (hn : ¬ S p.block) : w'.cell? p = some x :=
  (World.cell?_of_block (h.block p.block (World.block_lt_of_cell? w p hc) hn)).trans hc
theorem Turn.ints {S : Nat → Prop} {k : IntKind} {w w' : World} {M off : Nat} {l : List Int} (h : Turn S w w') (hI : Ints k w (some ⟨M, off, none⟩) l) (hn : ¬ S M) : Ints k w' (some ⟨M, off, none⟩) l := by
  intro i hi
  obtain ⟨b, o, he, hc⟩ := hI i hi
  simp at he
  obtain ⟨rfl, rfl⟩ := he
  exact ⟨M, off, rfl, h.cell hc hn⟩
/-- a slice of one's own depends on its block alone -/
theorem own_same {w w' : World} {base n size : Nat} {e : TypeId} {v : Value} {xs : List Value} (h : w.ownsRow base e size v n xs) (hb : ∀ b, v.ownBlock = some b → w'.heap[b]? = w.heap[b]?) : w'.ownsRow base e size v n xs := by
  refine ⟨h.1, ?_⟩
  rcases h.2 with h2 | ⟨g, cap, cur, rfl, h1, h3, h4⟩
  · exact .inl h2
  · exact .inr ⟨g, cap, cur, rfl, h1, (hb g rfl).trans h3, h4⟩
/-- the cells of a buffer -/
def bufCells (r : Int) (v : Value) (m : Nat) (f : Int) : Array Value := #[.bool true, .int .i64 r, v, .map (some m), .int .i64 f]
/-- how wide the zeros are that are held at k; 0: none are -/
def look : List (Int × Int) → Int → Int
  | [], _ => 0
  | p :: r, k => if p.1 = k then p.2 else look r k
/-- what is still held, when k is not any more -/
def unheld (H : List (Int × Int)) (k : Int) : List (Int × Int) := H.filter (fun p => p.1 != k)
/-- what is held stands in a map -/
structure Tied (D : DataW Unit) (H : List (Int × Int)) : Prop where
  look : ∀ k, D.atKey (.int .i64 k) (.lit (.int .i64 0)) = .lit (.int .i64 (look H k))
  has : ∀ k, Maps.has D (.int .i64 k) = H.any (fun p => p.1 == k)
  size : Maps.size D = H.length
  tidy : Tidy D
  uniq : (H.map Prod.fst).Nodup
/-- zeros that are held lie within -/
def Within (n : Nat) (H : List (Int × Int)) : Prop := ∀ p, p ∈ H → 0 ≤ p.1 ∧ 1 ≤ p.2 ∧ p.2 ≤ 8 ∧ p.1 + p.2 ≤ n
/-- the blocks of a buffer -/
def Foot (g m : Nat) (p : Option Nat) (k : Nat) : Prop := k = g ∨ k = m ∨ p = some k

/-- Block g is a buffer that a call made: room r, the bytes l (in block p), what is held H (in map m), the fault f. -/
structure Buf (w : World) (g m : Nat) (p : Option Nat) (r : Nat) (l : List Int) (H : List (Int × Int)) (f : Int) : Prop where
  ex : ∃ (v : Value) (D : DataW Unit), v.ownBlock = p ∧ w.heap[g]? = some (.cells (bufCells r v m f) 107 (0, 0)) ∧
    w.ownsRow 0 5 1 v (l.map (Value.int .u8)).length (l.map (Value.int .u8)) ∧ w.ownsMap Tryz.prog 3 (plainElem Tryz.prog 3) m H.length D ∧ Tied D H
  room : l.length ≤ r
  most : r ≤ 1000000
  held : Within l.length H
  few : H.length ≤ l.length
  gm : g ≠ m
  gp : p ≠ some g
  mp : p ≠ some m

section
variable {w w' : World} {g m : Nat} {p : Option Nat} {r : Nat} {l : List Int} {H : List (Int × Int)} {f : Int}
theorem Buf.same (h : Buf w g m p r l H f) (hb : ∀ k, k < w.heap.size → Foot g m p k → w'.heap[k]? = w.heap[k]?) : Buf w' g m p r l H f := by
  obtain ⟨v, D, hv, hg, hr, hm, ht⟩ := h.ex
  have b1 := hb g (lt_of_block hg) (.inl rfl)
  have b2 := hb m hm.lt (.inr (.inl rfl))
  refine ⟨⟨v, D, hv, b1.trans hg, own_same hr (fun b e => hb b (hr.lt b e).2 (.inr (.inr (hv ▸ e)))), ?_, ht⟩, h.room, h.most, h.held, h.few, h.gm, h.gp, h.mp⟩
  obtain ⟨es, clock, hm1, hm2⟩ := hm
  exact ⟨es, clock, b2.trans hm1, hm2⟩
theorem Buf.below (h : Buf w g m p r l H f) (hb : Below w.heap.size w w') : Buf w' g m p r l H f := h.same (fun k hk _ => hb.block k hk)
theorem Buf.lt (h : Buf w g m p r l H f) : ∀ k, Foot g m p k → k < w.heap.size := by
  obtain ⟨v, D, hv, hg, hr, hm, ht⟩ := h.ex
  rintro k (rfl | rfl | e)
  · exact lt_of_block hg
  · exact hm.lt
  · exact (hr.lt k (hv ▸ e)).2
end

theorem ptrBuf : Tryz.prog.underlying 47 = some (.pointer (Tryz.prog.pointee 47)) := by kernel_rfl
theorem underMap : Tryz.prog.underlying 105 = some (.map 3 3) := by kernel_rfl
theorem tied_nil : Tied (.map []) [] := ⟨fun k => by rfl, fun k => by rfl, rfl, tidy_empty, List.nodup_nil⟩

theorem made_buf (w : World) (r : Nat) (hr : r ≤ 1000000) (q : Int) (hq : (r : Int) = q) :
    Buf ((w.alloc (.map #[] 0)).alloc (.cells #[.bool true, .int .i64 q, .slice none 0 0, .map (some w.heap.size), .int .i64 0] 107)) (w.heap.size + 1) w.heap.size none r [] [] 0 ∧
      Below w.heap.size w ((w.alloc (.map #[] 0)).alloc (.cells #[.bool true, .int .i64 q, .slice none 0 0, .map (some w.heap.size), .int .i64 0] 107)) := by
  subst hq
  have hs : (w.alloc (.map #[] 0)).heap.size = w.heap.size + 1 := by simp
  have hm := (World.ownsMap_made w Tryz.prog 3 (plainElem (H := Unit) Tryz.prog 3)).alloc (.cells #[.bool true, .int .i64 r, .slice none 0 0, .map (some w.heap.size), .int .i64 0] 107)
  refine ⟨⟨⟨.slice none 0 0, .map [], rfl, ?_, own_nilI _ _ _, hm, tied_nil⟩, Nat.zero_le _, hr, (by simp [Within]), Nat.le_refl _, by omega, by simp, by simp⟩, ((Below.refl _ _).alloc (Nat.le_refl _) _).alloc (by omega) _⟩
  rw [← hs]
  exact _root_.Go.heap_alloc_new _ _

theorem bufNew_any (x : Int) (w : World) :
    Calls Tryz.prog 23 #[.int .i64 x] w fun e w' => ∃ g m, e = .returned (.pointer (some ⟨g, 0, none⟩)) ∧ Buf w' g m none (min x.toNat 1000000) [] [] 0 ∧ Below w.heap.size w w' ∧ w.heap.size ≤ g ∧ w.heap.size ≤ m := by
  have hmm := @run_makeMap Tryz.prog
  obtain ⟨r, hr⟩ : ∃ r, r = min x.toNat 1000000 := ⟨_, rfl⟩
  have hq : (x < 0 ∧ (r : Int) = 0) ∨ (0 ≤ x ∧ x ≤ 1000000 ∧ (r : Int) = x) ∨ (1000000 < x ∧ (r : Int) = 1000000) := by omega
  rw [← hr]
  have hr' : r ≤ 1000000 := by omega
  clear hr
  have MB := fun q => made_buf w r hr' q
  clear hr'
  rcases hq with ⟨h, hq⟩ | ⟨h, h', hq⟩ | ⟨h, hq⟩
  all_goals
    have HM := hid (MB _ hq)
    clear MB hq
    go_enter Tryz.func23, Tryz.ntmps23
    go_wp2
    go_ret
    exact ⟨_, _, rfl, HM.out.1, HM.out.2, by omega, Nat.le_refl _⟩

section
variable {w : World} {g m : Nat} {p : Option Nat} {r : Nat} {l : List Int} {H : List (Int × Int)} {f : Int}
theorem Buf.len (h : Buf w g m p r l H f) : Calls Tryz.prog 83 #[.pointer (some ⟨g, 0, none⟩)] w fun e w' => e = .returned (.int .i64 l.length) ∧ w = w' := by
  obtain ⟨v, D, _, hg, hr, _⟩ := h.ex
  obtain ⟨a, c, rfl, hl, hc, hI⟩ := own_ints hr
  have c2 : w.cell? ⟨g, 2, none⟩ = some (.slice a l.length c) := cell_of_cells hg rfl
  have he := fun (w : World) (p : Option Addr) => run_eql_pointer_nil w 47 p ptrBuf
  clear h hg hr hI
  go_enter Tryz.func83, Tryz.ntmps83
  go_wp2
  go_ret
  exact ⟨rfl, rfl⟩
theorem Buf.writes (h : Buf w g m p r l H f) : Calls Tryz.prog 64 #[.pointer (some ⟨g, 0, none⟩)] w fun e w' => e = .returned (.bool (f == 0)) ∧ w = w' := by
  obtain ⟨v, D, _, hg, hr, _⟩ := h.ex
  have c0 : w.cell? ⟨g, 0, none⟩ = some (.bool true) := cell_of_cells hg rfl
  have c4 : w.cell? ⟨g, 4, none⟩ = some (.int .i64 f) := cell_of_cells hg rfl
  have he := fun (w : World) (p : Option Addr) => run_eql_pointer_nil w 47 p ptrBuf
  clear h hg hr
  go_enter Tryz.func64, Tryz.ntmps64
  go_wp2
  go_ret
  exact ⟨rfl, rfl⟩
/-- the fault is told, nothing else -/
theorem Buf.setFault (h : Buf w g m p r l H f) (q : Int) : Buf (w.setCell ⟨g, 4, none⟩ (.int .i64 q)) g m p r l H q := by
  obtain ⟨v, D, hv, hg, hr, hm, ht⟩ := h.ex
  have hne : ∀ b, b ≠ g → (w.setCell ⟨g, 4, none⟩ (.int .i64 q)).heap[b]? = w.heap[b]? := fun b hb => Below.heap_setCell _ _ _ _ hb
  exact ⟨⟨v, D, hv, set_of_cells hg 4 _, own_same hr (fun b e => hne b (fun e' => h.gp (by rw [← hv, e, e']))), hm.setCell (fun e => h.gm e.symm) _, ht⟩, h.room, h.most, h.held, h.few, h.gm, h.gp, h.mp⟩
theorem Buf.fail (h : Buf w g m p r l H 0) (q : Int) : Calls Tryz.prog 48 #[.pointer (some ⟨g, 0, none⟩), .int .i64 q] w fun e w' => e = .returned (.tuple #[]) ∧ Buf w' g m p r l H q ∧ w.grownBy w' (some g) := by
  obtain ⟨v, D, _, hg, hr, _⟩ := h.ex
  have c4 : w.cell? ⟨g, 4, none⟩ = some (.int .i64 0) := cell_of_cells hg rfl
  have f4 := free_of_cells hg 4
  have hn := hid (h.setFault q)
  have hw := hid h.writes
  clear h hg hr
  go_enter Tryz.func48, Tryz.ntmps48
  go_wp2_with (go_at_call 64; refine hw.out.mono ?_; rintro e w' ⟨rfl, rfl⟩)
  go_end0
  exact ⟨rfl, hn.out, by_setCell _ _ _ _⟩
end
end Go.Proofs.YtdjlbejhphbcoaaGreat
namespace Go.Proofs.YtdjlbejhphbcoaaGreat
open Go.RowKit Go.Maps
set_option maxRecDepth 100000

/-- what a step on a buffer leaves -/
structure Went (w w' : World) (g m : Nat) (p p' : Option Nat) (r : Nat) (l : List Int) (H : List (Int × Int)) (f : Int) : Prop where
  buf : Buf w' g m p' r l H f
  turn : Turn (Foot g m p) w w'
  moved : ∀ k, p' = some k → p = some k ∨ w.heap.size ≤ k

section
variable {w w1 w' : World} {g m : Nat} {p p' : Option Nat} {r : Nat} {l : List Int} {H : List (Int × Int)} {f : Int}
theorem Went.by_g (h : Buf w' g m p r l H f) (hb : w.grownBy w' (some g)) : Went w w' g m p p r l H f := ⟨h, Turn.of_by hb (by rintro k e; simp at e; exact .inl e.symm), fun _ e => .inl e⟩
theorem Went.ahead (hb : Below w.heap.size w w1) (k : Went w1 w' g m p p' r l H f) : Went w w' g m p p' r l H f :=
  ⟨k.buf, (Turn.of_below hb).trans k.turn (fun _ _ e => e), fun i e => (k.moved i e).imp id (Nat.le_trans hb.size)⟩
/-- what lies below all of the buffer stays -/
theorem Went.base {B : Nat} (k : Went w w' g m p p' r l H f) (hB : B ≤ w.heap.size) (hf : ∀ i, Foot g m p i → B ≤ i) : ∀ i, Foot g m p' i → B ≤ i := by
  rintro i (e | e | e)
  · exact hf i (.inl e)
  · exact hf i (.inr (.inl e))
  · rcases k.moved i e with e' | e'
    · exact hf i (.inr (.inr e'))
    · omega
/-- the bytes grew, in the slice v' -/
theorem went_grew {v v' : Value} {D : DataW Unit} {l ys : List Int} (hv : v.ownBlock = p) (h : Buf w g m p r l H f) (hg : w.heap[g]? = some (.cells (bufCells r v m f) 107 (0, 0)))
    (hm : w.ownsMap Tryz.prog 3 (plainElem Tryz.prog 3) m H.length D) (ht : Tied D H) (G : Grew 5 w w1 v v' (ys.map (Value.int .u8))) (hl : l.length ≤ ys.length) (hr : ys.length ≤ r) :
    Went w (w1.setCell ⟨g, 2, none⟩ v') g m p v'.ownBlock r ys H f := by
  subst hv
  have hgl := lt_of_block hg
  have hml := hm.lt
  have g1 := block_by hg G.by_ h.gp
  have m1 := hm.kept G.by_ (fun e => h.mp e.symm)
  have ng := moved_ne G.moved h.gp hgl
  have nm := moved_ne G.moved h.mp hml
  have hne : ∀ b, b ≠ g → (w1.setCell ⟨g, 2, none⟩ v').heap[b]? = w1.heap[b]? := fun b hb => Below.heap_setCell _ _ _ _ hb
  refine ⟨⟨⟨v', D, rfl, set_of_cells g1 2 _, own_same G.own (fun b e => hne b (fun e' => ng (by rw [e, e']))), m1.setCell (fun e => h.gm e.symm) _, ht⟩, hr, h.most, fun q hq => ?_, Nat.le_trans h.few hl, h.gm, ng, nm⟩, ?_, ?_⟩
  · have := h.held q hq
    omega
  · exact (Turn.of_by (S := Foot g m v.ownBlock) G.by_ (fun k e => .inr (.inr e))).trans (Turn.of_by (S := Foot g m v.ownBlock) (by_setCell _ _ _ _) (by rintro k e; simp at e; exact .inl e.symm)) (fun _ _ e => e)
  · intro k e
    rcases G.moved with h' | ⟨q, h', hs⟩
    · exact .inl (by rw [← h', e])
    · rw [e] at h'; simp at h'; exact .inr (by omega)

set_option maxHeartbeats 1000000 in
theorem Buf.bytes_ok (h : Buf w g m p r l H 0) (x : List Int) (a : Option Addr) (c : Nat) (hx : l.length + x.length ≤ r) (hI : Ints .u8 w a x) :
    Calls Tryz.prog 24 #[.pointer (some ⟨g, 0, none⟩), .slice a x.length c] w fun e w' => e = .returned (.tuple #[]) ∧ ∃ p', Went w w' g m p p' r (l ++ x) H 0 := by
  obtain ⟨v, D, hv, hg, hr, hm, ht⟩ := h.ex
  obtain ⟨a0, c0, rfl, hl, hc, hI0⟩ := own_ints hr
  have c1 := Wk.cell (show w.cell? ⟨g, 1, none⟩ = some (.int .i64 r) from cell_of_cells hg rfl)
  have c2 := Wk.cell (show w.cell? ⟨g, 2, none⟩ = some (.slice a0 l.length c0) from cell_of_cells hg rfl)
  have n0 : ¬ (r : Int) - (l.length : Int) < (x.length : Int) := by omega
  have hrm := h.most
  have hrr := h.room
  have HH := hid h
  have HG := hid hg
  have HM := hid hm
  have hlen : (l ++ x).length ≤ 1000000 := by rw [List.length_append]; omega
  have hll : l.length ≤ (l ++ x).length := by rw [List.length_append]; omega
  have hrl : (l ++ x).length ≤ r := by rw [List.length_append]; omega
  obtain ⟨ys, hys⟩ : ∃ ys, ys = l ++ x := ⟨_, rfl⟩
  rw [← hys] at hlen hll hrl ⊢
  have b1 : r ≤ 9223372036854775807 := by omega
  have b2 : l.length ≤ 9223372036854775807 := by omega
  have b3 : x.length ≤ 9223372036854775807 := by omega
  have hs := hys.symm
  have hys' := hid hs
  clear h hg hm hys hs
  go_enter Tryz.func24, Tryz.ntmps24
  go_wp2_with fail
  refine HH.out.writes.mono ?_
  rintro e w' ⟨rfl, rfl⟩
  go_wp2_with fail
  refine wp_region_wk (by kernel_rfl) (by kernel_rfl) ?_
  repeat (go_big_quiet_step (fail))
  refine wpQuiet_nil ?_
  rintro w2 ⟨⟨_, hb2⟩, rfl⟩
  obtain ⟨HG2, HM2, hr2, hI2⟩ : Hid (w2.heap[g]? = some (.cells (bufCells r (.slice a0 l.length c0) m 0) 107 (0, 0))) ∧ Hid (w2.ownsMap Tryz.prog 3 (plainElem Tryz.prog 3) m H.length D) ∧ w2.ownsRow 0 5 1 (.slice a0 l.length c0) (l.map (Value.int .u8)).length (l.map (Value.int .u8)) ∧ Ints .u8 w2 a x :=
    ⟨block_by HG.out (below_by_none hb2) (by simp), HM.out.kept (below_by_none hb2) (by simp), hr.kept (below_by_none hb2) (by cases h' : Value.ownBlock _ <;> simp), hI.below hb2⟩
  have HH2 := hid (HH.out.below hb2)
  have hgo := hid HH2.out.gp
  clear c1 c2 hr hI HG HM HH
  have c2 : w2.cell? ⟨g, 2, none⟩ = some (.slice a0 l.length c0) := cell_of_cells HG2.out rfl
  go_wp2_with (at_builtin; refine wp_app_ints rfl (.tmp 26) (.tmp 27) rfl elemU8 rfl hr2 rfl rfl hI2 hys'.out ?_ ?_ ?_; omega; omega; intro a' c' w3 hl1 hc1 hI1 hG; have c2' : w3.cell? ⟨g, 2, none⟩ = some (.slice a0 l.length c0) := cell_of_cells (block_by HG2.out hG.by_ (hv ▸ hgo.out)) rfl; have f2' := free_of_cells (block_by HG2.out hG.by_ (hv ▸ hgo.out)) 2; have hWent := hid ((went_grew hv HH2.out HG2.out HM2.out ht hG hll hrl).ahead hb2))
  go_end0
  exact ⟨rfl, _, hWent.out⟩
theorem Buf.bytes_late (h : Buf w g m p r l H f) (hf : f ≠ 0) (v : Value) :
    Calls Tryz.prog 24 #[.pointer (some ⟨g, 0, none⟩), v] w fun e w' => e = .returned (.tuple #[]) ∧ w = w' := by
  have e0 : (f == 0) = false := by simpa using hf
  have HH := hid h
  clear h hf
  go_enter Tryz.func24, Tryz.ntmps24
  go_wp2_with fail
  refine HH.out.writes.mono ?_
  rintro e w' ⟨rfl, rfl⟩
  go_wp2
  (try simp only [Exit.inBlock, Exit.then])
  refine bodyPost_ret (results_none rfl _ _ _) rfl ?_
  exact ⟨rfl, rfl⟩

theorem Buf.done_late (h : Buf w g m p r l H f) (hf : f ≠ 0) :
    Calls Tryz.prog 26 #[.pointer (some ⟨g, 0, none⟩)] w fun e w' => e = .returned (.tuple #[.slice none 0 0, .int .i64 f]) ∧ Below w.heap.size w w' := by
  obtain ⟨v, D, hv, hg, hr, _, ht⟩ := h.ex
  have c0 : w.cell? ⟨g, 0, none⟩ = some (.bool true) := cell_of_cells hg rfl
  have c4q := Wk.cell (show w.cell? ⟨g, 4, none⟩ = some (.int .i64 f) from cell_of_cells hg rfl)
  have c4 : w.cell? ⟨g, 4, none⟩ = some (.int .i64 f) := cell_of_cells hg rfl
  have he := fun (w : World) (p : Option Addr) => run_eql_pointer_nil w 47 p ptrBuf
  have e0 : (f != 0) = true := by simpa using hf
  clear h hg hr hf
  go_enter Tryz.func26, Tryz.ntmps26
  go_wp2
  refine wp_region_wk (by kernel_rfl) (by kernel_rfl) ?_
  repeat (go_big_quiet_step (fail))
  refine wpQuiet_nil ?_
  rintro w2 ⟨⟨_, hb2⟩, rfl⟩
  go_wp2
  go_ret2
  exact ⟨rfl, hb2⟩
theorem Buf.done_ok (h : Buf w g m p r l [] 0) :
    Calls Tryz.prog 26 #[.pointer (some ⟨g, 0, none⟩)] w fun e w' => e = .returned (.tuple #[.slice (some ⟨w.heap.size, 0, none⟩) l.length l.length, .int .i64 0]) ∧ Fresh 5 w w' (.slice (some ⟨w.heap.size, 0, none⟩) l.length l.length) (l.map (Value.int .u8)) := by
  obtain ⟨v, D, hv, hg, hr, hm, ht⟩ := h.ex
  obtain ⟨a0, c9, rfl, hl, hc, hI0⟩ := own_ints hr
  have c0 : w.cell? ⟨g, 0, none⟩ = some (.bool true) := cell_of_cells hg rfl
  have c2 : w.cell? ⟨g, 2, none⟩ = some (.slice a0 l.length c9) := cell_of_cells hg rfl
  have c3 : w.cell? ⟨g, 3, none⟩ = some (.map (some m)) := cell_of_cells hg rfl
  have c4 : w.cell? ⟨g, 4, none⟩ = some (.int .i64 0) := cell_of_cells hg rfl
  have he := fun (w : World) (p : Option Addr) => run_eql_pointer_nil w 47 p ptrBuf
  have hs := ht.size
  have hrm := h.most
  have hrr := h.room
  clear h hg hr ht
  go_enter Tryz.func26, Tryz.ntmps26
  go_wp2_with (first | (at_len; refine wpList_len_own _ rfl _ 105 rfl 3 3 underMap _ m _ D rfl hm ?_) | (at_make; refine wp_make rfl _ _ rfl elemU8 rfl rfl rfl rfl (Nat.le_refl _) (by omega) (by omega) ?_; intro w1 hf; have c2' := cell_keep c2 hf.bel) | (with_reducible refine wp_copy_all rfl (.tmp 38) (.tmp 42) rfl elemU8 rfl rfl (List.length_replicate ..) hf rfl (hI0.below hf.bel) ?_; intro w2 hf2))
  go_ret2
  exact ⟨rfl, hf2⟩
end
end Go.Proofs.YtdjlbejhphbcoaaGreat
namespace Go.Proofs.YtdjlbejhphbcoaaGreat
open Go.RowKit Go.Maps
set_option maxRecDepth 100000

/-! what is held -/
section
variable {P : Program} {t e : TypeId} {z : Value} {bytes : Nat} {w : World}
end
end Go.Proofs.YtdjlbejhphbcoaaGreat
namespace Go.Proofs.YtdjlbejhphbcoaaGreat
open Go.RowKit Go.Maps
set_option maxRecDepth 100000

section
variable {w w1 w' : World} {g m : Nat} {p p' : Option Nat} {r : Nat} {l : List Int} {H : List (Int × Int)} {f : Int}

theorem Buf.bytes_lit (h : Buf w g m p r l H 0) (x : List Int) (a : Option Addr) (n c : Nat) (en : n = x.length) (hx : l.length + x.length ≤ r) (hI : Ints .u8 w a x) :
    Calls Tryz.prog 24 #[.pointer (some ⟨g, 0, none⟩), .slice a n c] w fun e w' => e = .returned (.tuple #[]) ∧ ∃ p', Went w w' g m p p' r (l ++ x) H 0 := by
  subst en; exact h.bytes_ok x a c hx hI
end
end Go.Proofs.YtdjlbejhphbcoaaGreat
namespace Go.Proofs.YtdjlbejhphbcoaaGreat
open Go.RowKit Go.Maps
set_option maxRecDepth 100000

theorem p256_le8 {n : Nat} (h : n ≤ 8) {x : Int} (hx : x < p256 n) : x < p256 8 := Int.lt_of_lt_of_le hx (p256_mono h)
theorem putW_one {n : Nat} (h1 : 1 ≤ n) (h8 : n ≤ 8) {x : Int} (hx : x < p256 n) : putW [(n : Int)] [x] = some (bytesL x n) := by
  have e1 : rightW [(n : Int)] = true := by simp [rightW, allW, isW]; omega
  have e2 : countL [(n : Int)] = 1 := by simp [countL]; omega
  have e3 : ¬ (n : Int) < 0 := by omega
  have e4 : roomB x (n : Int) = true := by simp [roomB]; exact hx
  simp [putW, e1, e2, putL, e3, e4]
theorem u64s_one {x : Int} (h0 : 0 ≤ x) (h : x < p256 8) : U64s [x] := by intro y hy; simp at hy; subst hy; exact ⟨h0, h⟩
/-- the two slices of one number each -/
theorem two_ones (w : World) (n x : Int) : Below w.heap.size w ((w.alloc (.cells #[.int .i64 n] 3)).alloc (.cells #[.int .u64 x] 22)) ∧ Ints .i64 ((w.alloc (.cells #[.int .i64 n] 3)).alloc (.cells #[.int .u64 x] 22)) (some ⟨w.heap.size, 0, none⟩) [n] ∧
    Ints .u64 ((w.alloc (.cells #[.int .i64 n] 3)).alloc (.cells #[.int .u64 x] 22)) (some ⟨w.heap.size + 1, 0, none⟩) [x] := by
  have hs : (w.alloc (.cells #[.int .i64 n] 3)).heap.size = w.heap.size + 1 := by simp
  refine ⟨((Below.refl _ _).alloc (Nat.le_refl _) _).alloc (by omega) _, (ints_one .i64 w n 3).below (below_alloc _ _), ?_⟩
  rw [← hs]
  exact ints_one .u64 _ x 22
/-- a slice of one's own that has something is a block -/
theorem own_block {w : World} {e : TypeId} {a : Option Addr} {n c : Nat} {xs : List Value} (h : w.ownsRow 0 e 1 (.slice a n c) xs.length xs) (h0 : 0 < n) : ∃ q, a = some ⟨q, 0, none⟩ ∧ n = xs.length ∧ n ≤ c := by
  rcases h.2 with ⟨hv, _⟩ | ⟨q, cap, cur, hv, _, _, h1, _⟩
  · simp at hv; omega
  · simp at hv
    obtain ⟨rfl, rfl, rfl⟩ := hv
    exact ⟨q, rfl, rfl, h1⟩

section
variable {w : World} {g m : Nat} {p : Option Nat} {r : Nat} {l : List Int} {H : List (Int × Int)} {f : Int}
end
end Go.Proofs.YtdjlbejhphbcoaaGreat
namespace Go.Proofs.YtdjlbejhphbcoaaGreat
open Go.RowKit Go.Maps
set_option maxRecDepth 100000

theorem put_got (l ns bs : List Int) (h : putW l ns = some bs) (a b : Option Addr) (n m c d : Nat) (w : World) (en : n = l.length) (em : m = ns.length) (hl : l.length ≤ 9223372036854775807) (hcd : m ≤ d)
    (hu : U64s ns) (ha : Ints .i64 w a l) (hb : Ints .u64 w b ns) :
    Calls Tryz.prog 54 #[.slice a n c, .slice b m d] w fun e w' => ∃ ad cp, e = .returned (.tuple #[.slice ad bs.length cp, .bool true]) ∧ Below w.heap.size w w' ∧ Ints .u8 w' ad bs ∧ bs.length ≤ 9223372036854775807 := by
  subst en
  subst em
  refine (put_any l ns a b c d w hl hcd hu ha hb).mono ?_
  rintro e w' (⟨h', _⟩ | ⟨bs', v, h', rfl, hf⟩)
  · rw [h] at h'; simp at h'
  · rw [h] at h'
    obtain rfl : bs = bs' := by simpa using h'
    obtain ⟨ad, cp, rfl, h1, h2, hI⟩ := own_ints hf.own
    exact ⟨ad, cp, rfl, hf.bel, hI, by unfold maxLen at h2; omega⟩

section
variable {w : World} {g m : Nat} {p : Option Nat} {r : Nat} {l : List Int} {H : List (Int × Int)} {f : Int}
theorem Buf.row_ok (h : Buf w g m p r l H 0) (ws ns bs : List Int) (hput : putW ws ns = some bs) (a b : Option Addr) (n k c d : Nat) (en : n = ws.length) (em : k = ns.length) (hl : ws.length ≤ 9223372036854775807) (hcd : k ≤ d)
    (hu : U64s ns) (ha : Ints .i64 w a ws) (hb : Ints .u64 w b ns) (hfit : l.length + bs.length ≤ r) :
    Calls Tryz.prog 44 #[.pointer (some ⟨g, 0, none⟩), .slice a n c, .slice b k d] w fun e w' => e = .returned (.tuple #[]) ∧ ∃ p', Went w w' g m p p' r (l ++ bs) H 0 := by
  have HP := hid (put_got ws ns bs hput a b n k c d w en em hl hcd hu ha hb)
  have HF := hid hfit
  clear hput en em hl hcd hu ha hb hfit
  go_enter Tryz.func44, Tryz.ntmps44
  go_wp2_with fail
  refine HP.out.mono ?_
  rintro e w1 ⟨ad, cp, rfl, hb1, hI, _⟩
  go_wp2_with fail
  refine ((h.below hb1).bytes_ok bs ad cp HF.out hI).mono ?_
  rintro e w2 ⟨rfl, p', hG⟩
  go_wp2
  go_end0
  exact ⟨rfl, p', hG.ahead hb1⟩
theorem Buf.num_ok (h : Buf w g m p r l H 0) {n : Nat} {x : Int} (h1 : 1 ≤ n) (h8 : n ≤ 8) (h0 : 0 ≤ x) (hx : x < p256 n) (hfit : l.length + n ≤ r) :
    Calls Tryz.prog 82 #[.pointer (some ⟨g, 0, none⟩), .int .i64 n, .int .u64 x] w fun e w' => e = .returned (.tuple #[]) ∧ ∃ p', Went w w' g m p p' r (l ++ bytesL x n) H 0 := by
  have T2 := hid (two_ones w n x)
  have HR := hid ((h.below T2.out.1).row_ok [(n : Int)] [x] (bytesL x n) (putW_one h1 h8 hx) (some ⟨w.heap.size, 0, none⟩) (some ⟨w.heap.size + 1, 0, none⟩) 1 1 1 1 rfl rfl (by simp) (Nat.le_refl _) (u64s_one h0 (p256_le8 h8 hx)) T2.out.2.1 T2.out.2.2 (by rw [bytesL_length]; exact hfit))
  clear h1 h8 h0 hx hfit
  go_enter Tryz.func82, Tryz.ntmps82
  go_wp2_with fail
  refine HR.out.mono ?_
  rintro e w2 ⟨rfl, p', hG⟩
  go_wp2
  go_end0
  exact ⟨rfl, p', hG.ahead T2.out.1⟩
theorem fresh_zeros {w w1 : World} {n c : Nat} (hF : Fresh 5 w w1 (.slice (some ⟨w.heap.size, 0, none⟩) n c) (List.replicate n (.int .u8 0))) : Ints .u8 w1 (some ⟨w.heap.size, 0, none⟩) (List.replicate n (0 : Int)) := by
  have h' := hF.own
  rw [show List.replicate n (Value.int .u8 0) = (List.replicate n (0 : Int)).map (Value.int .u8) by rw [List.map_replicate]] at h'
  obtain ⟨_, _, he, _, _, hI⟩ := own_ints h'
  simp at he
  obtain ⟨rfl, _⟩ := he
  exact hI
theorem Buf.even_same (h : Buf w g m p r l H f) {n : Nat} (h1 : 1 ≤ n) (h64 : n ≤ 64) (ho : l.length % n = 0) :
    Calls Tryz.prog 49 #[.pointer (some ⟨g, 0, none⟩), .int .i64 n] w fun e w' => e = .returned (.tuple #[]) ∧ w = w' := by
  have hov : (l.length : Int) % (n : Int) = 0 := by omega
  have hto : (l.length : Int).tmod (n : Int) = 0 := by rw [Int.tmod_eq_emod_of_nonneg (by omega)]; exact hov
  have hn0 : ((n : Int) == 0) = false := by simp; omega
  clear ho
  go_enter Tryz.func49, Tryz.ntmps49
  go_wp2_with fail
  refine h.len.mono ?_
  rintro e w2 ⟨rfl, rfl⟩
  go_wp2
  go_end0
  exact ⟨rfl, rfl⟩
theorem over_cast {l n : Nat} (_hn : 1 ≤ n) : ((l : Int).tmod (n : Int)) = ((l % n : Nat) : Int) := by
  rw [Int.tmod_eq_emod_of_nonneg (by omega)]; omega
theorem Buf.even_ok (h : Buf w g m p r l H 0) {n q : Nat} (h1 : 1 ≤ n) (h64 : n ≤ 64) (hq : 0 < q) (ho : l.length % n + q = n) (ho' : 0 < l.length % n) (hfit : l.length + q ≤ r) :
    Calls Tryz.prog 49 #[.pointer (some ⟨g, 0, none⟩), .int .i64 n] w fun e w' => e = .returned (.tuple #[]) ∧ ∃ p', Went w w' g m p p' r (l ++ List.replicate q 0) H 0 := by
  have hto := over_cast (l := l.length) h1
  obtain ⟨o, hol⟩ : ∃ o, o = l.length % n := ⟨_, rfl⟩
  rw [← hol] at hto ho ho'
  have hn0 : ((n : Int) == 0) = false := by simp; omega
  have hnq : (n : Int) - (o : Int) = (q : Int) := by omega
  have HF := hid hfit
  clear hol hfit
  go_enter Tryz.func49, Tryz.ntmps49
  go_wp2_with fail
  refine h.len.mono ?_
  rintro e w2 ⟨rfl, rfl⟩
  go_wp2_with (at_make; refine wp_make (n := q) (m := q) rfl _ _ rfl elemU8 rfl rfl (by omega) (by omega) (Nat.le_refl _) (by omega) (by omega) ?_; intro w1 hF)
  refine ((h.below hF.bel).bytes_lit (List.replicate q 0) _ _ _ (by rw [List.length_replicate]) (by rw [List.length_replicate]; exact HF.out) (fresh_zeros hF)).mono ?_
  rintro e w2 ⟨rfl, p', hG⟩
  go_wp2
  go_end0
  exact ⟨rfl, p', hG.ahead hF.bel⟩
end
end Go.Proofs.YtdjlbejhphbcoaaGreat
namespace Go.Proofs.YtdjlbejhphbcoaaGreat
open Go.RowKit Go.Maps
set_option maxRecDepth 100000

theorem below_then {w0 w w' : World} (h : Below w0.heap.size w0 w) (hb : Below w.heap.size w w') : Below w0.heap.size w0 w' := h.trans (hb.mono h.size)
/-- a buffer that was made since w0 -/
structure BufOn (w0 w : World) (g m : Nat) (p : Option Nat) (r : Nat) (l : List Int) (H : List (Int × Int)) (f : Int) : Prop where
  buf : Buf w g m p r l H f
  bel : Below w0.heap.size w0 w
  base : ∀ i, Foot g m p i → w0.heap.size ≤ i
section
variable {w0 w w' : World} {g m : Nat} {p p' : Option Nat} {r : Nat} {l l' : List Int} {H H' : List (Int × Int)} {f f' : Int}
theorem BufOn.went (h : BufOn w0 w g m p r l H f) (k : Went w w' g m p p' r l' H' f') : BufOn w0 w' g m p' r l' H' f' :=
  ⟨k.buf, k.turn.below h.bel h.bel.size h.base, k.base h.bel.size h.base⟩
theorem BufOn.below (h : BufOn w0 w g m p r l H f) (hb : Below w.heap.size w w') : BufOn w0 w' g m p r l H f := ⟨h.buf.below hb, below_then h.bel hb, h.base⟩
end

end Go.Proofs.YtdjlbejhphbcoaaGreat
