/- What a buffer is (package buffer); what a step leaves of the rest; New, Len, writes, Fail. -/
import Derived.Test.YtkgjmpcdndohpaaDoorCurA
import Derived.Test.YtkgjmpcdndohpaaDoorOwn
import Derived.Test.YtkgjmpcdndohpaaDoorRowD
import Derived.Maps.OwnSet
namespace Go.Proofs.YtkgjmpcdndohpaaDoor
open Go.RowKit Go.Maps

/-- The worlds w and w' are alike but for the blocks of S, and what is new. -/
structure Turn (S : Nat → Prop) (w w' : World) : Prop where
  os : w'.os = w.os
  tape : w'.tape = w.tape
  output : w'.output = w.output
  size : w.heap.size ≤ w'.heap.size
  block : ∀ k, k < w.heap.size → ¬ S k → w'.heap[k]? = w.heap[k]?

theorem Turn.refl (S : Nat → Prop) (w : World) : Turn S w w := ⟨rfl, rfl, rfl, Nat.le_refl _, fun _ _ _ => rfl⟩
theorem Turn.trans {S S' : Nat → Prop} {a b c : World} (h : Turn S a b) (k : Turn S' b c) (hs : ∀ i, i < a.heap.size → S' i → S i) : Turn S a c :=
  ⟨k.os.trans h.os, k.tape.trans h.tape, k.output.trans h.output, Nat.le_trans h.size k.size, fun i hi hn => (k.block i (Nat.lt_of_lt_of_le hi h.size) (fun e => hn (hs i hi e))).trans (h.block i hi hn)⟩
theorem Turn.of_by {S : Nat → Prop} {w w' : World} {row : Option Nat} (h : w.grownBy w' row) (hr : ∀ k, row = some k → S k) : Turn S w w' :=
  ⟨h.os, h.tape, h.output, h.size, fun k hk hn => h.block k hk (fun e => hn (hr k e.symm))⟩
theorem Turn.of_below {S : Nat → Prop} {w w' : World} (h : Below w.heap.size w w') : Turn S w w' := ⟨h.os, h.tape, h.output, h.size, fun k hk _ => h.block k hk⟩
theorem Turn.below {S : Nat → Prop} {B : Nat} {a w w' : World} (h : Turn S w w') (hb : Below B a w) (hB : B ≤ w.heap.size) (hS : ∀ k, S k → B ≤ k) : Below B a w' :=
  hb.trans ⟨h.os, h.tape, h.output, h.size, fun k hk => h.block k (by omega) (fun e => by have := hS k e; omega)⟩
theorem Turn.cell {S : Nat → Prop} {w w' : World} (h : Turn S w w') {p : Addr} {x : Value} (hc : w.cell? p = some x) (hn : ¬ S p.block) : w'.cell? p = some x :=
  (World.cell?_of_block (h.block p.block (World.block_lt_of_cell? w p hc) hn)).trans hc
theorem Turn.at_ {S : Nat → Prop} {w w' : World} (h : Turn S w w') {b : Nat} {o : Obj} (hb : w.heap[b]? = some o) (hn : ¬ S b) : w'.heap[b]? = some o := (h.block b (lt_of_block hb) hn).trans hb
theorem Turn.ints {S : Nat → Prop} {k : IntKind} {w w' : World} {M off : Nat} {l : List Int} (h : Turn S w w') (hI : Ints k w (some ⟨M, off, none⟩) l) (hn : ¬ S M) : Ints k w' (some ⟨M, off, none⟩) l := by
  intro i hi
  obtain ⟨b, o, he, hc⟩ := hI i hi
  simp at he
  obtain ⟨rfl, rfl⟩ := he
  exact ⟨M, off, rfl, h.cell hc hn⟩
/-- a slice of one's own depends on its block alone -/
theorem own_same {w w' : World} {base n size : Nat} {e : TypeId} {v : Value} {xs : List Value} (h : w.ownsRow base e size v n xs) (hb : ∀ b, v.ownBlock = some b → w'.heap[b]? = w.heap[b]?) : w'.ownsRow base e size v n xs := by
  refine ⟨h.1, ?_⟩
  rcases h.2 with h2 | ⟨g, cap, cur, rfl, h1, h3, h4⟩
  · exact .inl h2
  · exact .inr ⟨g, cap, cur, rfl, h1, (hb g rfl).trans h3, h4⟩
theorem Turn.fresh {S : Nat → Prop} {e : TypeId} {w wr w' : World} {v : Value} {xs : List Value} (k : Turn S wr w') (h : Fresh e w wr v xs) (hv : ∀ b, v.ownBlock = some b → ¬ S b) (hS : ∀ b, S b → w.heap.size ≤ b) : Fresh e w w' v xs :=
  ⟨own_same h.own (fun b hb => k.block b (h.own.lt b hb).2 (hv b hb)), k.below h.bel h.bel.size hS, h.new⟩

/-- the cells of a buffer -/
def bufCells (r : Int) (v : Value) (m : Nat) (f : Int) : Array Value := #[.bool true, .int .i64 r, v, .map (some m), .int .i64 f]
/-- how wide the zeros are that are held at k; 0: none are -/
def look : List (Int × Int) → Int → Int
  | [], _ => 0
  | p :: r, k => if p.1 = k then p.2 else look r k
/-- what is still held, when k is not any more -/
def unheld (H : List (Int × Int)) (k : Int) : List (Int × Int) := H.filter (fun p => p.1 != k)
/-- what is held stands in a map -/
structure Tied (D : DataW Unit) (H : List (Int × Int)) : Prop where
  look : ∀ k, D.atKey (.int .i64 k) (.lit (.int .i64 0)) = .lit (.int .i64 (look H k))
  has : ∀ k, Maps.has D (.int .i64 k) = H.any (fun p => p.1 == k)
  size : Maps.size D = H.length
  tidy : Tidy D
  uniq : (H.map Prod.fst).Nodup
/-- zeros that are held lie within -/
def Within (n : Nat) (H : List (Int × Int)) : Prop := ∀ p, p ∈ H → 0 ≤ p.1 ∧ 1 ≤ p.2 ∧ p.2 ≤ 8 ∧ p.1 + p.2 ≤ n
/-- the blocks of a buffer -/
def Foot (g m : Nat) (p : Option Nat) (k : Nat) : Prop := k = g ∨ k = m ∨ p = some k

/-- Block g is a buffer that a call made: room r, the bytes l (in block p), what is held H (in map m), the fault f. -/
structure Buf (w : World) (g m : Nat) (p : Option Nat) (r : Nat) (l : List Int) (H : List (Int × Int)) (f : Int) : Prop where
  ex : ∃ (v : Value) (D : DataW Unit), v.ownBlock = p ∧ w.heap[g]? = some (.cells (bufCells r v m f) 67 (0, 0)) ∧
    w.ownsRow 0 5 1 v (l.map (Value.int .u8)).length (l.map (Value.int .u8)) ∧ w.ownsMap Tryd.prog 3 (plainElem Tryd.prog 3) m H.length D ∧ Tied D H
  room : l.length ≤ r
  most : r ≤ 1000000
  held : Within l.length H
  few : H.length ≤ l.length
  gm : g ≠ m
  gp : p ≠ some g
  mp : p ≠ some m

theorem not_foot {g m k : Nat} {p : Option Nat} : ¬ Foot g m p k ↔ k ≠ g ∧ k ≠ m ∧ p ≠ some k := by unfold Foot; simp

section
variable {w w' : World} {g m : Nat} {p : Option Nat} {r : Nat} {l : List Int} {H : List (Int × Int)} {f : Int}
theorem Buf.same (h : Buf w g m p r l H f) (hb : ∀ k, k < w.heap.size → Foot g m p k → w'.heap[k]? = w.heap[k]?) : Buf w' g m p r l H f := by
  obtain ⟨v, D, hv, hg, hr, hm, ht⟩ := h.ex
  have b1 := hb g (lt_of_block hg) (.inl rfl)
  have b2 := hb m hm.lt (.inr (.inl rfl))
  refine ⟨⟨v, D, hv, b1.trans hg, own_same hr (fun b e => hb b (hr.lt b e).2 (.inr (.inr (hv ▸ e)))), ?_, ht⟩, h.room, h.most, h.held, h.few, h.gm, h.gp, h.mp⟩
  obtain ⟨es, clock, hm1, hm2⟩ := hm
  exact ⟨es, clock, b2.trans hm1, hm2⟩
theorem Buf.turned (h : Buf w g m p r l H f) {S : Nat → Prop} (ht : Turn S w w') (hS : ∀ k, S k → ¬ Foot g m p k) : Buf w' g m p r l H f :=
  h.same (fun k hk hf => ht.block k hk (fun e => hS k e hf))
theorem Buf.kept (h : Buf w g m p r l H f) {row : Option Nat} (hb : w.grownBy w' row) (hr : ∀ k, row = some k → ¬ Foot g m p k) : Buf w' g m p r l H f :=
  h.same (fun k hk hf => hb.block k hk (fun e => hr k e.symm hf))
theorem Buf.below (h : Buf w g m p r l H f) (hb : Below w.heap.size w w') : Buf w' g m p r l H f := h.same (fun k hk _ => hb.block k hk)
theorem Buf.drew (h : Buf w g m p r l H f) (n : Nat) : Buf (w.drewN n) g m p r l H f := h.same (fun _ _ _ => rfl)
theorem Buf.lt (h : Buf w g m p r l H f) : ∀ k, Foot g m p k → k < w.heap.size := by
  obtain ⟨v, D, hv, hg, hr, hm, ht⟩ := h.ex
  rintro k (rfl | rfl | e)
  · exact lt_of_block hg
  · exact hm.lt
  · exact (hr.lt k (hv ▸ e)).2
end

theorem ptrBuf : Tryd.prog.underlying 46 = some (.pointer (Tryd.prog.pointee 46)) := by kernel_rfl
theorem lawInt : Keyed Tryd.prog 3 := int_keyed (q := .i64) (by kernel_rfl)
theorem underMap : Tryd.prog.underlying 65 = some (.map 3 3) := by kernel_rfl
theorem zeroInt (w : World) : (zeroValue 3).run Tryd.prog w = .ok (.int .i64 0) w := by kernel_rfl

theorem tied_nil : Tied (.map []) [] := ⟨fun k => by rfl, fun k => by rfl, rfl, tidy_empty, List.nodup_nil⟩

theorem made_buf (w : World) (r : Nat) (hr : r ≤ 1000000) (q : Int) (hq : (r : Int) = q) :
    Buf ((w.alloc (.map #[] 0)).alloc (.cells #[.bool true, .int .i64 q, .slice none 0 0, .map (some w.heap.size), .int .i64 0] 67)) (w.heap.size + 1) w.heap.size none r [] [] 0 ∧
      Below w.heap.size w ((w.alloc (.map #[] 0)).alloc (.cells #[.bool true, .int .i64 q, .slice none 0 0, .map (some w.heap.size), .int .i64 0] 67)) := by
  subst hq
  have hs : (w.alloc (.map #[] 0)).heap.size = w.heap.size + 1 := by simp
  have hm := (World.ownsMap_made w Tryd.prog 3 (plainElem (H := Unit) Tryd.prog 3)).alloc (.cells #[.bool true, .int .i64 r, .slice none 0 0, .map (some w.heap.size), .int .i64 0] 67)
  refine ⟨⟨⟨.slice none 0 0, .map [], rfl, ?_, own_nilI _ _ _, hm, tied_nil⟩, Nat.zero_le _, hr, (by simp [Within]), Nat.le_refl _, by omega, by simp, by simp⟩, ((Below.refl _ _).alloc (Nat.le_refl _) _).alloc (by omega) _⟩
  rw [← hs]
  exact _root_.Go.heap_alloc_new _ _

theorem bufNew_any (x : Int) (w : World) :
    Calls Tryd.prog 18 #[.int .i64 x] w fun e w' => ∃ g m, e = .returned (.pointer (some ⟨g, 0, none⟩)) ∧ Buf w' g m none (min x.toNat 1000000) [] [] 0 ∧ Below w.heap.size w w' ∧ w.heap.size ≤ g ∧ w.heap.size ≤ m := by
  have hmm := @run_makeMap Tryd.prog
  obtain ⟨r, hr⟩ : ∃ r, r = min x.toNat 1000000 := ⟨_, rfl⟩
  have hq : (x < 0 ∧ (r : Int) = 0) ∨ (0 ≤ x ∧ x ≤ 1000000 ∧ (r : Int) = x) ∨ (1000000 < x ∧ (r : Int) = 1000000) := by omega
  rw [← hr]
  have hr' : r ≤ 1000000 := by omega
  clear hr
  have MB := fun q => made_buf w r hr' q
  clear hr'
  rcases hq with ⟨h, hq⟩ | ⟨h, h', hq⟩ | ⟨h, hq⟩
  all_goals
    have HM := hid (MB _ hq)
    clear MB hq
    go_enter Tryd.func18, Tryd.ntmps18
    go_wp2
    go_ret
    exact ⟨_, _, rfl, HM.out.1, HM.out.2, by omega, Nat.le_refl _⟩

section
variable {w : World} {g m : Nat} {p : Option Nat} {r : Nat} {l : List Int} {H : List (Int × Int)} {f : Int}
theorem Buf.writes (h : Buf w g m p r l H f) : Calls Tryd.prog 29 #[.pointer (some ⟨g, 0, none⟩)] w fun e w' => e = .returned (.bool (f == 0)) ∧ w = w' := by
  obtain ⟨v, D, _, hg, hr, _⟩ := h.ex
  have c0 : w.cell? ⟨g, 0, none⟩ = some (.bool true) := cell_of_cells hg rfl
  have c4 : w.cell? ⟨g, 4, none⟩ = some (.int .i64 f) := cell_of_cells hg rfl
  have he := fun (w : World) (p : Option Addr) => run_eql_pointer_nil w 46 p ptrBuf
  clear h hg hr
  go_enter Tryd.func29, Tryd.ntmps29
  go_wp2
  go_ret
  exact ⟨rfl, rfl⟩
theorem buf_writes_nil (w : World) : Calls Tryd.prog 29 #[.pointer none] w fun e w' => e = .returned (.bool false) ∧ w = w' := by
  have he := fun (w : World) (p : Option Addr) => run_eql_pointer_nil w 46 p ptrBuf
  go_enter Tryd.func29, Tryd.ntmps29
  go_wp2
  go_ret
  exact ⟨rfl, rfl⟩
/-- the fault is told, nothing else -/
theorem Buf.setFault (h : Buf w g m p r l H f) (q : Int) : Buf (w.setCell ⟨g, 4, none⟩ (.int .i64 q)) g m p r l H q := by
  obtain ⟨v, D, hv, hg, hr, hm, ht⟩ := h.ex
  have hne : ∀ b, b ≠ g → (w.setCell ⟨g, 4, none⟩ (.int .i64 q)).heap[b]? = w.heap[b]? := fun b hb => Below.heap_setCell _ _ _ _ hb
  exact ⟨⟨v, D, hv, set_of_cells hg 4 _, own_same hr (fun b e => hne b (fun e' => h.gp (by rw [← hv, e, e']))), hm.setCell (fun e => h.gm e.symm) _, ht⟩, h.room, h.most, h.held, h.few, h.gm, h.gp, h.mp⟩
theorem Buf.fail (h : Buf w g m p r l H 0) (q : Int) : Calls Tryd.prog 19 #[.pointer (some ⟨g, 0, none⟩), .int .i64 q] w fun e w' => e = .returned (.tuple #[]) ∧ Buf w' g m p r l H q ∧ w.grownBy w' (some g) := by
  obtain ⟨v, D, _, hg, hr, _⟩ := h.ex
  have c4 : w.cell? ⟨g, 4, none⟩ = some (.int .i64 0) := cell_of_cells hg rfl
  have f4 := free_of_cells hg 4
  have hn := hid (h.setFault q)
  have hw := hid h.writes
  clear h hg hr
  go_enter Tryd.func19, Tryd.ntmps19
  go_wp2_with (go_at_call 29; refine hw.out.mono ?_; rintro e w' ⟨rfl, rfl⟩)
  go_end0
  exact ⟨rfl, hn.out, by_setCell _ _ _ _⟩
theorem Buf.fail_after (h : Buf w g m p r l H f) (hf : f ≠ 0) (q : Int) : Calls Tryd.prog 19 #[.pointer (some ⟨g, 0, none⟩), .int .i64 q] w fun e w' => e = .returned (.tuple #[]) ∧ w = w' := by
  have e0 : (f == 0) = false := by simpa using hf
  have hw := hid h.writes
  clear h hf
  go_enter Tryd.func19, Tryd.ntmps19
  go_wp2_with (go_at_call 29; refine hw.out.mono ?_; rintro e w' ⟨rfl, rfl⟩)
  go_end0
  exact ⟨rfl, rfl⟩
theorem buf_fail_nil (w : World) (q : Int) : Calls Tryd.prog 19 #[.pointer none, .int .i64 q] w fun e w' => e = .returned (.tuple #[]) ∧ w = w' := by
  go_enter Tryd.func19, Tryd.ntmps19
  go_wp2_with (go_at_call 29; refine (buf_writes_nil _).mono ?_; rintro e w' ⟨rfl, rfl⟩)
  go_end0
  exact ⟨rfl, rfl⟩
end
end Go.Proofs.YtkgjmpcdndohpaaDoor
