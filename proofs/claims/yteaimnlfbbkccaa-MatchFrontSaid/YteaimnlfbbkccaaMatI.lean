/- Package match: the list that is made of values while they are read. -/
import Derived.Test.YteaimnlfbbkccaaMatH
import Derived.Test.YteaimnlfbbkccaaMatD
import Derived.Test.YteaimnlfbbkccaaMrg7
namespace Go.Proofs.Yteaimnlfbbkccaa
open Go.RowKit
set_option linter.unusedVariables false
set_option maxRecDepth 100000
attribute [local go_sem] Oper.semAt_some

theorem own_not_other10 {W : World} {e : TypeId} {size n : Nat} {v : Value} {xs : List Value} (h : W.ownsRow 0 e size v n xs) {row : Option Nat} (hr : ∀ r, row = some r → ∃ o : Obj, W.heap[r]? = some o ∧ o.isCells = false) : v.ownBlock = none ∨ v.ownBlock ≠ row := by
  rcases h.2 with ⟨rfl, _⟩ | ⟨g, cap, cur, rfl, _, hg, _⟩
  · exact .inl rfl
  · refine .inr fun e => ?_
    obtain ⟨o, ho, hc⟩ := hr g (by rw [← e]; rfl)
    rw [hg] at ho; cases ho; cases hc
theorem Oxms.kept' {w w' : World} {a : Option Addr} {l : List Ent9} (h : Oxms w a l) {g : Nat} (hb : w.grownBy w' (some g)) (hne : ∀ q : Addr, a = some q → q.block ≠ g) : Oxms w' a l := by
  intro i hi
  obtain ⟨b, off, ha, h0, h1, h2, h3, h4, h5⟩ := h i hi
  have e : ∀ {k u}, w.cell? ⟨b, k, none⟩ = some u → w'.cell? ⟨b, k, none⟩ = some u := fun hc => hb.cell hc (fun e => hne ⟨b, off, none⟩ ha (by simpa using e))
  exact ⟨b, off, ha, e h0, e h1, e h2, e h3, e h4, e h5⟩
/-- where a value's bytes lie, is none of these blocks -/
structure Far10 (S : Nat → Prop) (x : Ent9) : Prop where
  v : x.o.v ≠ [] → ∀ q : Addr, x.va = some q → ¬ S q.block
  m : x.o.m ≠ [] → ∀ q : Addr, x.ma = some q → ¬ S q.block
theorem Far10.mono {S T : Nat → Prop} {x : Ent9} (h : Far10 S x) (hs : ∀ k, T k → S k) : Far10 T x := ⟨fun a q b c => h.v a q b (hs _ c), fun a q b c => h.m a q b (hs _ c)⟩
theorem ints_lt10 {k : IntKind} {w : World} {a : Option Addr} {l : List Int} (h : Ints k w a l) (hl : l ≠ []) {q : Addr} (hq : a = some q) : q.block < w.heap.size := by
  obtain ⟨b, off, ha, hc⟩ := h 0 (List.length_pos_iff.2 hl)
  rw [hq] at ha; cases ha
  exact World.block_lt_of_cell? w _ hc
theorem ints_far10 {k : IntKind} {w w' : World} {a : Option Addr} {l : List Int} {row : Option Nat} (h : Ints k w a l) (hb : w.grownBy w' row) (hf : l ≠ [] → ∀ q : Addr, a = some q → row ≠ some q.block) : Ints k w' a l := by
  intro i hi
  obtain ⟨b, off, ha, hc⟩ := h i hi
  have hne : l ≠ [] := by intro e; rw [e] at hi; simp at hi
  exact ⟨b, off, ha, hb.cell hc (fun e => hf hne ⟨b, off, none⟩ ha e.symm)⟩
theorem EntIn.far {w w' : World} {x : Ent9} {row : Option Nat} (h : EntIn w x) (hb : w.grownBy w' row) (hf : Far10 (fun k => row = some k) x) : EntIn w' x :=
  ⟨ints_far10 h.iv hb (fun a q c e => hf.v a q c e), ints_far10 h.im hb (fun a q c e => hf.m a q c e), h.ov, h.om, h.cm, h.c, h.f, h.x⟩
/-- blocks that are not there yet are far -/
theorem EntIn.off {w : World} {x : Ent9} (h : EntIn w x) {S : Nat → Prop} (hS : ∀ k, S k → w.heap.size ≤ k) : Far10 S x :=
  ⟨fun a q c e => by have := ints_lt10 h.iv a c; have := hS _ e; omega, fun a q c e => by have := ints_lt10 h.im a c; have := hS _ e; omega⟩

/-- a list that was made since w0 -/
structure New9 (w0 : World) (a : Option Addr) (D : List Ent9) : Prop where
  box : ∀ q : Addr, a = some q → w0.heap.size ≤ q.block
  far : ∀ x ∈ D, Far10 (fun k => k < w0.heap.size) x
theorem New9.since {w0 w : World} {a : Option Addr} {D : List Ent9} (h : New9 w a D) (hs : w0.heap.size ≤ w.heap.size) : New9 w0 a D :=
  ⟨fun q hq => Nat.le_trans hs (h.box q hq), fun x hx => (h.far x hx).mono fun k e => Nat.lt_of_lt_of_le e hs⟩
theorem L9.by_new {w0 w w' : World} {a : Option Addr} {D : List Ent9} (h : L9 w a D) (hn : New9 w0 a D) {g : Nat} (hb : w.grownBy w' (some g)) (hg : g < w0.heap.size) : L9 w' a D := by
  refine ⟨h.ox.kept' hb fun q hq => by have := hn.box q hq; omega, fun x hx => (h.ent x hx).far hb ((hn.far x hx).mono fun k e => by simp at e; subst e; exact hg), h.few, h.len⟩
/-- between two rounds of the loop that reads: T4 has the list, T5 the error -/
structure ReadAt (w0 : World) (B T4 T5 : Nat) (q : Int) (pre : List Ent9) (W : World) : Prop where
  v : ∃ v, Cell10 W T4 v ∧ W.ownsRow 0 52 6 v pre.length (oxmCells pre) ∧ (∀ g, v.ownBlock = some g → B ≤ g) ∧ (∀ x ∈ pre, EntIn W x ∧ (x.o.v.length ≤ 1000 ∧ x.o.m.length ≤ 1000) ∧ Far10 (fun k => k = T4 ∨ k = T5 ∨ v.ownBlock = some k ∨ k < w0.heap.size) x)
  t5 : Cell10 W T5 (.int .i64 q)
  bel : Below w0.heap.size w0 W
theorem ReadAt.own {w0 : World} {B T4 T5 : Nat} {q : Int} (hB : w0.heap.size ≤ B) : OwnFrom B (ReadAt w0 B T4 T5 q) := by
  intro pre W W' row h hg hr
  have hr2 : ∀ r, row = some r → ∃ o : Obj, W.heap[r]? = some o ∧ o.isCells = false := fun r e => (hr r e).2
  obtain ⟨v, h1, h2, h3, h4⟩ := h.v
  exact ⟨⟨v, h1.others hg hr2, h2.kept hg (own_not_other10 h2 hr2), h3, fun x hx => ⟨ent_others10 (h4 x hx).1 hg hr2, (h4 x hx).2⟩⟩, h.t5.others hg hr2, ownFrom_below (Nat.le_refl _) hB () W W' row h.bel hg hr⟩
theorem ReadAt.below {w0 W W' : World} {B T4 T5 : Nat} {q : Int} {pre : List Ent9} (h : ReadAt w0 B T4 T5 q pre W) (hb : Below W.heap.size W W') : ReadAt w0 B T4 T5 q pre W' := by
  obtain ⟨v, h1, h2, h3, h4⟩ := h.v
  exact ⟨⟨v, h1.below hb, h2.kept (below_by_none hb) (by cases v.ownBlock <;> simp), h3, fun x hx => ⟨(h4 x hx).1.below hb, (h4 x hx).2⟩⟩, h.t5.below hb, below_on h.bel hb⟩
/-- the list is one of values -/
theorem ReadAt.l9 {w0 W : World} {B T4 T5 : Nat} {q : Int} {pre : List Ent9} (h : ReadAt w0 B T4 T5 q pre W) (hl : pre.length ≤ 1000) (hB : w0.heap.size ≤ B) :
    ∃ va vc, Cell10 W T4 (.slice va pre.length vc) ∧ L9 W va pre ∧ pre.length ≤ vc ∧ vc ≤ 9223372036854775807 ∧ New9 w0 va pre := by
  obtain ⟨v, h1, h2, h3, h4⟩ := h.v
  obtain ⟨va, vc, rfl, e1, e2, e3, e4⟩ := own_oxms h2
  refine ⟨va, vc, h1, ⟨e3, fun x hx => (h4 x hx).1, fun x hx => (h4 x hx).2.1, hl⟩, e1, e2, fun q hq => ?_, fun x hx => (h4 x hx).2.2.mono fun k e => .inr (.inr (.inr e))⟩
  rcases e4 with e4 | ⟨g, e4, eo⟩
  · rw [e4] at hq; cases hq
  · rw [e4] at hq; cases hq; have := h3 g eo; show w0.heap.size ≤ g; omega
theorem by_set10 (W : World) (R : Nat) (v : Value) : W.grownBy (W.setCell ⟨R, 0, none⟩ v) (some R) := ⟨rfl, rfl, rfl, by simp [World.setCell], fun k hk hne => Below.heap_setCell _ _ _ _ (fun e => hne (by rw [e]))⟩
/-- the error is laid down -/
theorem ReadAt.setE {w0 W : World} {B T4 T5 : Nat} {q : Int} {pre : List Ent9} (h : ReadAt w0 B T4 T5 q pre W) (h45 : T4 ≠ T5) (h5 : T5 < B) (h50 : w0.heap.size ≤ T5) (u : Int) : ReadAt w0 B T4 T5 u pre (W.setCell ⟨T5, 0, none⟩ (.int .i64 u)) := by
  obtain ⟨v, h1, h2, h3, h4⟩ := h.v
  have hb := by_set10 W T5 (.int .i64 u)
  refine ⟨⟨v, h1.far h45 _, h2.kept hb ?_, h3, fun x hx => ⟨(h4 x hx).1.far hb ((h4 x hx).2.2.mono fun k e => .inr (.inl (by simpa using e.symm))), (h4 x hx).2⟩⟩, h.t5.set _, h.bel.setCell h50 _⟩
  cases hv : v.ownBlock with
  | none => exact .inl rfl
  | some g => exact .inr (fun e => by have := h3 g hv; simp at e; omega)

theorem ReadAt.step {w0 W0 W : World} {B T4 T5 : Nat} {pre : List Ent9} (hI0 : ReadAt w0 B T4 T5 0 pre W0) (hcl : ∀ p u, W0.cell? p = some u → W.cell? p = some u) (h4 : T4 < B) (h5 : T5 < B) (h45 : T4 ≠ T5) (h40 : w0.heap.size ≤ T4) (hBW : B ≤ W.heap.size)
    {x : Ent9} (hx : EntIn W x) (hf : x.o.v.length ≤ 1000 ∧ x.o.m.length ≤ 1000) (hn : (∀ q : Addr, x.va = some q → W0.heap.size ≤ q.block) ∧ (∀ q : Addr, x.ma = some q → W0.heap.size ≤ q.block))
    {v : Value} (hv : Cell10 W T4 v) (hown : W.ownsRow 0 52 6 v pre.length (oxmCells pre)) (hvB : ∀ g, v.ownBlock = some g → B ≤ g)
    (he : ∀ x ∈ pre, EntIn W x ∧ (x.o.v.length ≤ 1000 ∧ x.o.m.length ≤ 1000) ∧ Far10 (fun k => k = T4 ∨ k = T5 ∨ v.ownBlock = some k ∨ k < w0.heap.size) x) (ht5 : Cell10 W T5 (.int .i64 0)) (hbl : Below w0.heap.size w0 W)
    {w1 w' : World} {v' : Value} (hw1 : Below W.heap.size W w1) (hg : GrewN 52 6 w1 w' v v' (pre.length + 1) (oxmCells (pre ++ [x]))) (K : Nat → Prop) (hK : ∀ k, K k → k < B ∧ k ≠ T4) :
    KeepsFrom B W (w'.setCell ⟨T4, 0, none⟩ v') ∧ (∀ k, K k → k < W.heap.size → (w'.setCell ⟨T4, 0, none⟩ v').heap[k]? = W.heap[k]?) ∧ ReadAt w0 B T4 T5 0 (pre ++ [x]) (w'.setCell ⟨T4, 0, none⟩ v') := by
  have ha : W.grownBy w1 none := below_by_none hw1
  have hs1 : B ≤ w1.heap.size := Nat.le_trans hBW ha.size
  have hv'B := hg.base hs1 hvB
  have hvne : ∀ k, k < B → v.ownBlock ≠ some k := fun k hk e => by have := hvB k e; omega
  have hv'ne : ∀ k, k < B → v'.ownBlock ≠ some k := fun k hk e => by have := hv'B k e; omega
  have hown1 := hown.kept ha (by cases v.ownBlock <;> simp)
  -- the list's block, the cells' blocks, stood ahead of the round
  obtain ⟨v0, c0, o0, _, _⟩ := hI0.v
  have e0 : v0 = v := by have := hcl _ _ c0.c; rw [hv.c] at this; simpa using this.symm
  subst e0
  have hlt : ∀ k, k = T4 ∨ k = T5 ∨ v0.ownBlock = some k ∨ k < w0.heap.size → k < W0.heap.size := by
    rintro k (rfl | rfl | e | e)
    · exact c0.lt
    · exact hI0.t5.lt
    · exact own_lt9 o0 e
    · exact Nat.lt_of_lt_of_le e hI0.bel.size
  have hxf : Far10 (fun k => k = T4 ∨ k = T5 ∨ v0.ownBlock = some k ∨ k < w0.heap.size) x := ⟨fun _ q e s => by have := hn.1 q e; have := hlt _ s; omega, fun _ q e s => by have := hn.2 q e; have := hlt _ s; omega⟩
  have heA : ∀ y ∈ pre ++ [x], EntIn W y ∧ (y.o.v.length ≤ 1000 ∧ y.o.m.length ≤ 1000) ∧ Far10 (fun k => k = T4 ∨ k = T5 ∨ v0.ownBlock = some k ∨ k < w0.heap.size) y := by
    intro y hy
    rcases List.mem_append.1 hy with hy | hy
    · exact he y hy
    · simp at hy; subst hy; exact ⟨hx, hf, hxf⟩
  have hset := by_set10 w' T4 v'
  have old : ∀ k, k < B → k ≠ T4 → (w'.setCell ⟨T4, 0, none⟩ v').heap[k]? = W.heap[k]? := fun k hk hne =>
    (Below.heap_setCell _ _ _ _ hne).trans ((hg.by_.block k (by omega) (fun e => hvne k hk e.symm)).trans (ha.block k (by omega) (by simp)))
  have t4' : Cell10 w' T4 v0 := (hv.kept (ha.block T4 (by omega) (by simp))).kept (hg.by_.block T4 (by omega) (fun e => hvne T4 h4 e.symm))
  refine ⟨?_, fun k hk hkw => old k (hK k hk).1 (hK k hk).2, ⟨⟨v', t4'.set v', ?_, hv'B, ?_⟩, ht5.kept (old T5 h5 (Ne.symm h45)), ?_⟩⟩
  · refine (((KeepsOthers.of_grownBy ha (fun j o e => by cases e)).trans (KeepsOthers.of_grownBy hg.by_ (fun j o e ho => ?_))).trans (KeepsOthers.setCell _ _ _)).from _
    rcases hown1.2 with ⟨rfl, _⟩ | ⟨g, cap, cur, rfl, _, hgc, _⟩
    · cases e
    · cases e; rw [hgc] at ho; cases ho; rfl
  · have h2 := hg.own.kept hset (.inr (hv'ne T4 h4))
    rw [List.length_append]
    exact h2
  · intro y hy
    obtain ⟨y1, y2, y3⟩ := heA y hy
    have z1 := y1.below hw1
    have z2 := z1.far hg.by_ (y3.mono fun k e => .inr (.inr (.inl e)))
    refine ⟨z2.far hset (y3.mono fun k e => .inl (by simpa using e.symm)), y2, ?_⟩
    rcases hg.moved with e | ⟨g, e, hgs⟩
    · rw [e]; exact y3
    · have hoff := z1.off (S := fun k => k = g) (fun k e => by subst e; exact hgs)
      refine ⟨fun a q b s => ?_, fun a q b s => ?_⟩
      · rcases s with s | s | s | s
        · exact y3.v a q b (.inl s)
        · exact y3.v a q b (.inr (.inl s))
        · rw [e] at s; exact hoff.v a q b (by simpa using s.symm)
        · exact y3.v a q b (.inr (.inr (.inr s)))
      · rcases s with s | s | s | s
        · exact y3.m a q b (.inl s)
        · exact y3.m a q b (.inr (.inl s))
        · rw [e] at s; exact hoff.m a q b (by simpa using s.symm)
        · exact y3.m a q b (.inr (.inr (.inr s)))
  · exact (((Turn.of_below (S := fun k => v0.ownBlock = some k) hw1).trans (Turn.of_by (S := fun k => v0.ownBlock = some k) hg.by_ (fun k e => e)) (fun _ _ e => e)).below hbl hbl.size (fun k e => by have := hvB k e; omega)).setCell h40 _

theorem values10_any (w : World) (a : Option Addr) (c : Nat) (b : List Int) :
    Calls Try.prog 84 #[.slice a b.length c] w fun e w' => ∃ p, e = .returned (.func (.func 100) #[] #[.pointer (some ⟨p, 0, none⟩)]) ∧
      w'.cell? ⟨p, 0, none⟩ = some (.slice a b.length c) ∧ Below w.heap.size w w' ∧ w.heap.size ≤ p ∧ p < w'.heap.size := by
  go_enter Try.func84, Try.ntmps84
  go_wp2
  go_ret
  exact ⟨w.heap.size, rfl, by simp, below_alloc _ _, Nat.le_refl _, by rw [World.size_alloc]; omega⟩
/-- append(s, x), one value, inside a fence -/
theorem wpIn_app_oxm {F : Fence} {d : Nat} {w : World} {ops : Array Oper} {rest : List Oper} {o : Oper} {a : Act} {Q : Exit → Act → World → Prop} (hgd : o.guard = none) (s x : Operand)
    (ho : o.op = .call { callee := .builtin .append, args := #[s, x], argTypes := #[22, 22] }) {v : Value} {n : Nat} {D : List Ent9} (hs : a.eval s = v) (hown : w.ownsRow 0 52 6 v n (oxmCells D))
    {ad : Addr} {c : Nat} {h : Ent9} (hx : a.eval x = .slice (some ad) 1 c) (hO : Oxms w (some ad) [h]) (hb : n ≤ 1000) {N : Nat} (hN : n + 1 = N)
    (hh : ∀ va' vc' w', GrewN 52 6 w w' v (.slice va' N vc') N (oxmCells (D ++ [h])) → wpListIn F d Try.prog ops Q rest (a.put o.dst (.slice va' N vc')) w') : wpListIn F d Try.prog ops Q (o :: rest) a w := by
  subst hN
  refine wpIn_app_many hgd s x ho elemOxm hs hown hx (oxmCells [h]) (oxmCells_length [h]) (oxms_cells hO) (oxm_flat [h]) (by omega) (by omega) ?_
  intro v' w' hg
  obtain ⟨va', vc', rfl⟩ := own_shape9 hg.own
  rw [← oxmCells_append] at hg
  exact hh va' vc' w' hg
end Go.Proofs.Yteaimnlfbbkccaa
