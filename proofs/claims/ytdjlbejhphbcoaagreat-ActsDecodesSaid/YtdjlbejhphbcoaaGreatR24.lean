/- Put together out of several texts. -/
import Derived.Test.YtdjlbejhphbcoaaGreatR12
import Derived.Test.YtdjlbejhphbcoaaGreatR19
import Derived.Sort.LotA
import Derived.Deep.RegionWith
namespace Go.Proofs.YtdjlbejhphbcoaaGreat
open Go.RowKit
set_option linter.unusedVariables false
set_option maxRecDepth 100000
attribute [local go_sem] Oper.semAt_some

/-- a cell that may be written -/
structure Cell13 (w : World) (b : Nat) (v : Value) : Prop where
  c : w.cell? ⟨b, 0, none⟩ = some v
  f : w.frozen? ⟨b, 0, none⟩ = false
theorem Cell13.below {w w' : World} {b : Nat} {v : Value} (h : Cell13 w b v) (hb : Below w.heap.size w w') : Cell13 w' b v := ⟨cell_keep h.c hb, (hb.frozen (World.block_lt_of_cell? w _ h.c)).trans h.f⟩
theorem Cell13.new (w : World) (v : Value) (T : TypeId) : Cell13 (w.alloc (.cells #[v] T)) w.heap.size v := ⟨by simp, by simp⟩
theorem Cell13.others {W W' : World} {b : Nat} {v : Value} {row : Option Nat} (h : Cell13 W b v) (hg : W.grownBy W' row) (hr : ∀ r, row = some r → ∃ o : Obj, W.heap[r]? = some o ∧ o.isCells = false) : Cell13 W' b v :=
  ⟨cell_kept h.c hg hr, (frozen_kept h.c hg hr).trans h.f⟩
theorem Cell13.set {w : World} {b : Nat} {v : Value} (h : Cell13 w b v) (u : Value) : Cell13 (w.setCell ⟨b, 0, none⟩ u) b u := ⟨World.cell?_setCell_same _ _ _ h.c, (World.frozen?_setCell _ _ _ _).trans h.f⟩
theorem Cell13.far {w : World} {b g : Nat} {v : Value} (h : Cell13 w b v) (hne : b ≠ g) (u : Value) : Cell13 (w.setCell ⟨g, 0, none⟩ u) b v :=
  ⟨(World.cell?_setCell_other _ _ _ _ (by intro e; injection e with e1; exact hne e1.symm)).trans h.c, (World.frozen?_setCell _ _ _ _).trans h.f⟩
theorem Cell13.kept {w w' : World} {b : Nat} {v : Value} (h : Cell13 w b v) (hb : w'.heap[b]? = w.heap[b]?) : Cell13 w' b v :=
  ⟨(World.cell?_of_block (a := ⟨b, 0, none⟩) hb).trans h.c, (World.frozen?_of_block (a := ⟨b, 0, none⟩) hb).trans h.f⟩
theorem three13 (w : World) (v2 v3 v4 : Value) (t2 t3 t4 : TypeId) :
    ∃ W, ((w.alloc (.cells #[v2] t2)).alloc (.cells #[v3] t3)).alloc (.cells #[v4] t4) = W ∧ Below w.heap.size w W ∧ W.heap.size = w.heap.size + 3 ∧ Cell13 W w.heap.size v2 ∧ Cell13 W (w.heap.size + 1) v3 ∧ Cell13 W (w.heap.size + 1 + 1) v4 := by
  have b1 := below_alloc w (.cells #[v2] t2)
  have b2 := below_alloc (w.alloc (.cells #[v2] t2)) (.cells #[v3] t3)
  have b3 := below_alloc ((w.alloc (.cells #[v2] t2)).alloc (.cells #[v3] t3)) (.cells #[v4] t4)
  have c2 := ((Cell13.new w v2 t2).below b2).below b3
  have c3 := (Cell13.new (w.alloc (.cells #[v2] t2)) v3 t3).below b3
  have c4 := Cell13.new ((w.alloc (.cells #[v2] t2)).alloc (.cells #[v3] t3)) v4 t4
  simp only [World.size_alloc] at c3 c4
  exact ⟨_, rfl, below_on (below_on b1 b2) b3, by simp, c2, c3, c4⟩
theorem own_lt13 {W : World} {e : TypeId} {size n : Nat} {v : Value} {xs : List Value} (h : W.ownsRow 0 e size v n xs) {b : Nat} (hb : v.ownBlock = some b) : b < W.heap.size := by
  rcases h.2 with ⟨rfl, _⟩ | ⟨g, cap, cur, rfl, _, hg, _⟩
  · cases hb
  · cases hb; exact (Array.getElem?_eq_some_iff.1 hg).1
theorem own_not_other13 {W : World} {e : TypeId} {size n : Nat} {v : Value} {xs : List Value} (h : W.ownsRow 0 e size v n xs) {row : Option Nat} (hr : ∀ r, row = some r → ∃ o : Obj, W.heap[r]? = some o ∧ o.isCells = false) : v.ownBlock = none ∨ v.ownBlock ≠ row := by
  rcases h.2 with ⟨rfl, _⟩ | ⟨g, cap, cur, rfl, _, hg, _⟩
  · exact .inl rfl
  · refine .inr fun e => ?_
    obtain ⟨o, ho, hc⟩ := hr g (by rw [← e]; rfl)
    rw [hg] at ho; cases ho; cases hc
theorem Acts.others {W W' : World} {a : Option Addr} {l : List Ent12} {row : Option Nat} (h : Acts W a l) (hg : W.grownBy W' row) (hr : ∀ r, row = some r → ∃ o : Obj, W.heap[r]? = some o ∧ o.isCells = false) : Acts W' a l := by
  intro i hi
  obtain ⟨b, off, ha, hc⟩ := h i hi
  refine ⟨b, off, ha, fun j hj => ?_⟩
  obtain ⟨v, hv⟩ := act_cell l[i] hj
  have k := hc j hj
  rw [hv] at k ⊢
  exact cell_kept k hg hr
/-- where an action's bytes lie, is none of these blocks -/
structure FarA (S : Nat → Prop) (x : Ent12) : Prop where
  v : x.o.v ≠ [] → ∀ q : Addr, x.va = some q → ¬ S q.block
  m : x.o.m ≠ [] → ∀ q : Addr, x.ma = some q → ¬ S q.block
  d : x.d ≠ [] → ∀ q : Addr, x.da = some q → ¬ S q.block
theorem FarA.mono {S T : Nat → Prop} {x : Ent12} (h : FarA S x) (hs : ∀ k, T k → S k) : FarA T x := ⟨fun a q b c => h.v a q b (hs _ c), fun a q b c => h.m a q b (hs _ c), fun a q b c => h.d a q b (hs _ c)⟩
theorem ints_lt13 {k : IntKind} {w : World} {a : Option Addr} {l : List Int} (h : Ints k w a l) (hl : l ≠ []) {q : Addr} (hq : a = some q) : q.block < w.heap.size := by
  obtain ⟨b, off, ha, hc⟩ := h 0 (List.length_pos_iff.2 hl)
  rw [hq] at ha; cases ha
  exact World.block_lt_of_cell? w _ hc
theorem ints_far13 {k : IntKind} {w w' : World} {a : Option Addr} {l : List Int} {row : Option Nat} (h : Ints k w a l) (hb : w.grownBy w' row) (hf : l ≠ [] → ∀ q : Addr, a = some q → row ≠ some q.block) : Ints k w' a l := by
  intro i hi
  obtain ⟨b, off, ha, hc⟩ := h i hi
  have hne : l ≠ [] := by intro e; rw [e] at hi; simp at hi
  exact ⟨b, off, ha, hb.cell hc (fun e => hf hne ⟨b, off, none⟩ ha e.symm)⟩
theorem ActIn.far {w w' : World} {x : Ent12} {row : Option Nat} (h : ActIn w x) (hb : w.grownBy w' row) (hf : FarA (fun k => row = some k) x) : ActIn w' x :=
  h.ints (ints_far13 h.iv hb (fun a q c e => hf.v a q c e)) (ints_far13 h.im hb (fun a q c e => hf.m a q c e)) (ints_far13 h.id hb (fun a q c e => hf.d a q c e))
/-- blocks that are not there yet are far -/
theorem ActIn.off {w : World} {x : Ent12} (h : ActIn w x) {S : Nat → Prop} (hS : ∀ k, S k → w.heap.size ≤ k) : FarA S x :=
  ⟨fun a q c e => by have := ints_lt13 h.iv a c; have := hS _ e; omega, fun a q c e => by have := ints_lt13 h.im a c; have := hS _ e; omega, fun a q c e => by have := ints_lt13 h.id a c; have := hS _ e; omega⟩
/-- a list that was made since w0 -/
structure NewA (w0 : World) (a : Option Addr) (D : List Ent12) : Prop where
  box : ∀ q : Addr, a = some q → w0.heap.size ≤ q.block
  far : ∀ x ∈ D, FarA (fun k => k < w0.heap.size) x
theorem by_set13 (W : World) (R : Nat) (v : Value) : W.grownBy (W.setCell ⟨R, 0, none⟩ v) (some R) := ⟨rfl, rfl, rfl, by simp [World.setCell], fun k hk hne => Below.heap_setCell _ _ _ _ (fun e => hne (by rw [e]))⟩

/-- between two rounds of the loop that gathers: T has the list; R2, R3 are the results' cells -/
structure CutA (w0 : World) (B T R2 R3 : Nat) (pre : List Ent12) (W : World) : Prop where
  v : ∃ v, Cell13 W T v ∧ W.ownsRow 0 27 10 v pre.length (actCells pre) ∧ (∀ g, v.ownBlock = some g → B ≤ g) ∧ (∀ x ∈ pre, ActIn W x ∧ FarA (fun k => k < B ∨ v.ownBlock = some k) x)
  r2 : Cell13 W R2 (.slice none 0 0)
  r3 : Cell13 W R3 (.int .i64 0)
  bel : Below w0.heap.size w0 W
  big : B ≤ W.heap.size
theorem CutA.own {w0 : World} {B T R2 R3 : Nat} (hB : w0.heap.size ≤ B) : OwnFrom B (CutA w0 B T R2 R3) := by
  intro pre W W' row h hg hr
  have hr2 : ∀ r, row = some r → ∃ o : Obj, W.heap[r]? = some o ∧ o.isCells = false := fun r e => (hr r e).2
  obtain ⟨v, h1, h2, h3, h4⟩ := h.v
  exact ⟨⟨v, h1.others hg hr2, h2.kept hg (own_not_other13 h2 hr2), h3, fun x hx => ⟨(h4 x hx).1.others hg hr2, (h4 x hx).2⟩⟩, h.r2.others hg hr2, h.r3.others hg hr2, ownFrom_below (Nat.le_refl _) hB () W W' row h.bel hg hr, Nat.le_trans h.big hg.size⟩
/-- the list is one of actions -/
theorem CutA.list {w0 W : World} {B T R2 R3 : Nat} {pre : List Ent12} (h : CutA w0 B T R2 R3 pre W) (hB : w0.heap.size ≤ B) :
    ∃ va vc, Cell13 W T (.slice va pre.length vc) ∧ Acts W va pre ∧ AllIn W pre ∧ pre.length ≤ vc ∧ vc ≤ 9223372036854775807 ∧ NewA w0 va pre ∧ (va = none ∨ ∃ g, va = some ⟨g, 0, none⟩) ∧ (∀ q : Addr, va = some q → B ≤ q.block) ∧ (∀ x ∈ pre, FarA (fun k => k < B) x) := by
  obtain ⟨v, h1, h2, h3, h4⟩ := h.v
  obtain ⟨va, vc, rfl, e1, e2, e3, e4⟩ := own_acts h2
  have hbox : ∀ q : Addr, va = some q → B ≤ q.block := by
    intro q hq
    rcases e4 with e4 | ⟨g, e4, eo⟩
    · rw [e4] at hq; cases hq
    · rw [e4] at hq; cases hq; exact h3 g eo
  exact ⟨va, vc, h1, e3, fun x hx => (h4 x hx).1, e1, e2, ⟨fun q hq => Nat.le_trans hB (hbox q hq), fun x hx => (h4 x hx).2.mono fun k e => .inl (Nat.lt_of_lt_of_le e hB)⟩, by rcases e4 with e4 | ⟨g, e4, _⟩; exact .inl e4; exact .inr ⟨g, e4⟩, hbox, fun x hx => (h4 x hx).2.mono fun k e => .inl e⟩
theorem CutA.step {w0 W0 W : World} {B T R2 R3 : Nat} {pre : List Ent12} (hI0 : CutA w0 B T R2 R3 pre W0) (hcl : ∀ p u, W0.cell? p = some u → W.cell? p = some u) (hT : T < B) (h2 : R2 < B) (h3 : R3 < B) (n2 : R2 ≠ T) (n3 : R3 ≠ T) (hT0 : w0.heap.size ≤ T) (hBW : B ≤ W.heap.size)
    {x : Ent12} (hx : ActIn W x) (hn : (∀ q : Addr, x.va = some q → W0.heap.size ≤ q.block) ∧ (∀ q : Addr, x.ma = some q → W0.heap.size ≤ q.block) ∧ (∀ q : Addr, x.da = some q → W0.heap.size ≤ q.block))
    {v : Value} (hv : Cell13 W T v) (hown : W.ownsRow 0 27 10 v pre.length (actCells pre)) (hvB : ∀ g, v.ownBlock = some g → B ≤ g)
    (he : ∀ x ∈ pre, ActIn W x ∧ FarA (fun k => k < B ∨ v.ownBlock = some k) x) (hr2 : Cell13 W R2 (.slice none 0 0)) (hr3 : Cell13 W R3 (.int .i64 0)) (hbl : Below w0.heap.size w0 W)
    {w1 w' : World} {v' : Value} (hw1 : Below W.heap.size W w1) (hg : GrewN 27 10 w1 w' v v' (pre.length + 1) (actCells (pre ++ [x]))) (K : Nat → Prop) (hK : ∀ k, K k → k < B ∧ k ≠ T) :
    KeepsFrom B W (w'.setCell ⟨T, 0, none⟩ v') ∧ (∀ k, K k → k < W.heap.size → (w'.setCell ⟨T, 0, none⟩ v').heap[k]? = W.heap[k]?) ∧ CutA w0 B T R2 R3 (pre ++ [x]) (w'.setCell ⟨T, 0, none⟩ v') := by
  have ha : W.grownBy w1 none := below_by_none hw1
  have hs1 : B ≤ w1.heap.size := Nat.le_trans hBW ha.size
  have hv'B := hg.base hs1 hvB
  have hvne : ∀ k, k < B → v.ownBlock ≠ some k := fun k hk e => by have := hvB k e; omega
  have hv'ne : ∀ k, k < B → v'.ownBlock ≠ some k := fun k hk e => by have := hv'B k e; omega
  have hown1 := hown.kept ha (by cases v.ownBlock <;> simp)
  obtain ⟨v0, c0, o0, _, _⟩ := hI0.v
  have e0 : v0 = v := by have := hcl _ _ c0.c; rw [hv.c] at this; simpa using this.symm
  subst e0
  have hlt : ∀ k, k < B ∨ v0.ownBlock = some k → k < W0.heap.size := by
    rintro k (e | e)
    · exact Nat.lt_of_lt_of_le e hI0.big
    · exact own_lt13 o0 e
  have hxf : FarA (fun k => k < B ∨ v0.ownBlock = some k) x := ⟨fun _ q e s => by have := hn.1 q e; have := hlt _ s; omega, fun _ q e s => by have := hn.2.1 q e; have := hlt _ s; omega, fun _ q e s => by have := hn.2.2 q e; have := hlt _ s; omega⟩
  have heA : ∀ y ∈ pre ++ [x], ActIn W y ∧ FarA (fun k => k < B ∨ v0.ownBlock = some k) y := by
    intro y hy
    rcases List.mem_append.1 hy with hy | hy
    · exact he y hy
    · simp at hy; subst hy; exact ⟨hx, hxf⟩
  have hset := by_set13 w' T v'
  have old : ∀ k, k < B → k ≠ T → (w'.setCell ⟨T, 0, none⟩ v').heap[k]? = W.heap[k]? := fun k hk hne =>
    (Below.heap_setCell _ _ _ _ hne).trans ((hg.by_.block k (by omega) (fun e => hvne k hk e.symm)).trans (ha.block k (by omega) (by simp)))
  have t4' : Cell13 w' T v0 := (hv.kept (ha.block T (by omega) (by simp))).kept (hg.by_.block T (by omega) (fun e => hvne T hT e.symm))
  refine ⟨?_, fun k hk hkw => old k (hK k hk).1 (hK k hk).2, ⟨⟨v', t4'.set v', ?_, hv'B, ?_⟩, hr2.kept (old R2 h2 n2), hr3.kept (old R3 h3 n3), ?_, Nat.le_trans (Nat.le_trans hs1 hg.by_.size) hset.size⟩⟩
  · refine (((KeepsOthers.of_grownBy ha (fun j o e => by cases e)).trans (KeepsOthers.of_grownBy hg.by_ (fun j o e ho => ?_))).trans (KeepsOthers.setCell _ _ _)).from _
    rcases hown1.2 with ⟨rfl, _⟩ | ⟨g, cap, cur, rfl, _, hgc, _⟩
    · cases e
    · cases e; rw [hgc] at ho; cases ho; rfl
  · have h2 := hg.own.kept hset (.inr (hv'ne T hT))
    rw [List.length_append]
    exact h2
  · intro y hy
    obtain ⟨y1, y3⟩ := heA y hy
    have z1 := y1.below hw1
    have z2 := z1.far hg.by_ (y3.mono fun k e => .inr e)
    refine ⟨z2.far hset (y3.mono fun k e => .inl (by simp at e; omega)), ?_⟩
    rcases hg.moved with e | ⟨g, e, hgs⟩
    · rw [e]; exact y3
    · have hoff := z1.off (S := fun k => k = g) (fun k e => by subst e; exact hgs)
      refine ⟨fun a q b s => ?_, fun a q b s => ?_, fun a q b s => ?_⟩
      · rcases s with s | s
        · exact y3.v a q b (.inl s)
        · rw [e] at s; exact hoff.v a q b (by simpa using s.symm)
      · rcases s with s | s
        · exact y3.m a q b (.inl s)
        · rw [e] at s; exact hoff.m a q b (by simpa using s.symm)
      · rcases s with s | s
        · exact y3.d a q b (.inl s)
        · rw [e] at s; exact hoff.d a q b (by simpa using s.symm)
  · exact (((Turn.of_below (S := fun k => v0.ownBlock = some k) hw1).trans (Turn.of_by (S := fun k => v0.ownBlock = some k) hg.by_ (fun k e => e)) (fun _ _ e => e)).below hbl hbl.size (fun k e => by have := hvB k e; omega)).setCell hT0 _
theorem Acts.by {w w' : World} {a : Option Addr} {l : List Ent12} (h : Acts w a l) {g : Nat} (hb : w.grownBy w' (some g)) (hne : ∀ q : Addr, a = some q → q.block ≠ g) : Acts w' a l := by
  intro i hi
  obtain ⟨b, off, ha, hc⟩ := h i hi
  refine ⟨b, off, ha, fun j hj => ?_⟩
  obtain ⟨v, hv⟩ := act_cell l[i] hj
  have k := hc j hj
  rw [hv] at k ⊢
  exact hb.cell k (fun e => hne ⟨b, off, none⟩ ha (by simpa using e))
/-- append(s, x), one action, inside a fence -/
theorem wpIn_app_act {F : Fence} {d : Nat} {w : World} {ops : Array Oper} {rest : List Oper} {o : Oper} {a : Act} {Q : Exit → Act → World → Prop} (hgd : o.guard = none) (s x : Operand)
    (ho : o.op = .call { callee := .builtin .append, args := #[s, x], argTypes := #[43, 43] }) {v : Value} {n : Nat} {D : List Ent12} (hs : a.eval s = v) (hown : w.ownsRow 0 27 10 v n (actCells D))
    {ad : Addr} {c : Nat} {h : Ent12} (hx : a.eval x = .slice (some ad) 1 c) (hO : Acts w (some ad) [h]) (hb : n ≤ 1000) {N : Nat} (hN : n + 1 = N)
    (hh : ∀ va' vc' w', GrewN 27 10 w w' v (.slice va' N vc') N (actCells (D ++ [h])) → wpListIn F d Tryz.prog ops Q rest (a.put o.dst (.slice va' N vc')) w') : wpListIn F d Tryz.prog ops Q (o :: rest) a w := by
  subst hN
  refine wpIn_app_many hgd s x ho elemAct hs hown hx (actCells [h]) (actCells_length [h]) (acts_cells hO) (act_flat [h]) (by omega) (by omega) ?_
  intro v' w' hg
  obtain ⟨va', vc', rfl⟩ := own_shape12 hg.own
  rw [← actCells_append] at hg
  exact hh va' vc' w' hg
end Go.Proofs.YtdjlbejhphbcoaaGreat
namespace Go.Proofs.YtdjlbejhphbcoaaGreat
open Go.RowKit
set_option linter.unusedVariables false
set_option maxRecDepth 100000
attribute [local go_sem] Oper.semAt_some

/-- what bytes as actions come to -/
def DecPost13 (b : List Int) (w : World) (e : Ending) (w' : World) : Prop :=
  (∃ q, dec13 b = .error q ∧ q ≠ 0 ∧ e = .returned (.tuple #[.slice none 0 0, .int .i64 q]) ∧ Below w.heap.size w w') ∨
  (∃ (D : List Ent12) (va : Option Addr) (vc : Nat), dec13 b = .ok (D.map Ent12.act) ∧ e = .returned (.tuple #[.slice va D.length vc, .int .i64 0]) ∧ D.length ≤ 64 ∧ D.length ≤ vc ∧ vc ≤ 9223372036854775807 ∧ Acts w' va D ∧ AllIn w' D ∧ NewA w va D ∧ (va = none ∨ ∃ g, va = some ⟨g, 0, none⟩) ∧ Below w.heap.size w w')
theorem dec13_err {b : List Int} {q : Int} (h : cut13 64 b = .error q) : dec13 b = .error q := by unfold dec13; rw [h]
theorem dec13_ok {b : List Int} {l : List Act12} (h : cut13 64 b = .ok l) (hb : b.length ≤ 65528) : dec13 b = .ok l := by unfold dec13; rw [h]; simp only; rw [if_neg (by omega)]
theorem dec13_long {b : List Int} {l : List Act12} (h : cut13 64 b = .ok l) (hb : 65528 < b.length) : dec13 b = .error 514 := by unfold dec13; rw [h]; simp only; rw [if_pos hb]
theorem cut_most13 {k : Nat} {b : List Int} {l : List Act12} (h : cut13 k b = .ok l) : l.length ≤ k := by
  induction k generalizing b l with
  | zero =>
    rw [cut13] at h
    split at h
    · cases h; simp
    · cases h
  | succ k ih =>
    by_cases hb : b = []
    · subst hb; rw [cut_nil] at h; cases h; simp
    · cases hd : dec12 b with
      | error q => rw [cut_err hb hd] at h; cases h
      | ok r =>
        obtain ⟨a, n⟩ := r
        rw [cut_step hb hd] at h
        cases hc : cut13 k (b.drop n) with
        | error q => rw [hc] at h; cases h
        | ok m => rw [hc] at h; cases h; have := ih hc; simp; omega
/-- the error that is told of the last one -/
def lastQ (pre : List Ent12) (s : Ent12 × Int) : Int := if pre.length = 64 then 520 else s.2
structure StopA (w0 : World) (R2 R3 : Nat) (q : Int) (W : World) : Prop where
  r2 : Cell13 W R2 (.slice none 0 0)
  r3 : Cell13 W R3 (.int .i64 q)
  bel : Below w0.heap.size w0 W
set_option maxHeartbeats 8000000 in
theorem decode13_any (w : World) (a : Option Addr) (c : Nat) (b : List Int) (hH : Holds w a c b) :
    Calls Tryz.prog 32 #[.slice a b.length c] w (DecPost13 b w) := by
  have HH := hid hH
  obtain ⟨W0, hW0, hbW, hsz, k2, k3, k4⟩ := three13 w (.slice none 0 0) (.int .i64 0) (.slice none 0 0) 43 30 43
  have HW0 := hid hW0
  have hcx := hH.max
  have hbx0 := hH.cap
  clear hH hW0
  refine (callsIn_wide (n := 0)).1 (callsIn_of_wp_marks Tryz.func32 rfl (by simp [Fence.wide]) ?_)
  refine wpIn_wide.2 ?_
  simp only [Tryz.ntmps32, List.size_toArray, List.length_cons, List.length_nil, Nat.reduceAdd, Nat.reduceSub, Array.replicate_succ, Array.replicate_zero, List.push_toArray, List.append_toArray, List.nil_append, List.cons_append]
  go_upto_region 2 with fail
  rw [HW0.out]
  go_wp2_with fail
  refine (actions_any _ _ _ _).mono ?_
  rintro e w2 ⟨p, rfl, hbx, hb2, hp1, hp2⟩
  have hB2 : Below w.heap.size w w2 := below_on hbW hb2
  have hs2 := hb2.size
  have m2 := k2.below hb2
  have m3 := k3.below hb2
  have m4 := k4.below hb2
  have HIT : Hid (IterA w a c p b 0 [] w2) := ⟨preA_nil _, hbx, hp2, Stays13.of_below hB2⟩
  have HB2 := hid hB2
  have HP1 : Hid (w.heap.size + 3 ≤ p) := by show _ ≤ _; omega
  clear k2 k3 k4 hbx
  go_wp2_with fail
  have hI0 : CutA w w2.heap.size (w.heap.size + 1 + 1) w.heap.size (w.heap.size + 1) [] w2 := ⟨⟨.slice none 0 0, m4, World.ownsRow_nil w2 0 _ 10, (fun g e => by cases e), (by simp)⟩, m2, m3, HB2.out, Nat.le_refl _⟩
  refine wp_rangeU (gf := 110) (jc := .ret) rfl (fun args w => by simp [callFunc, Tryz.func110, Tryz.f110, mark]) (actions_yields w w2 a c p b HH.out HIT.out) (fun k hk => by rcases hk with rfl | hk; exact hp2; have := HB2.out.size; omega) (fun _ => rfl) (fun _ => rfl)
    (CutA w w2.heap.size (w.heap.size + 1 + 1) w.heap.size (w.heap.size + 1))
    (fun pre s W => StopA w w.heap.size (w.heap.size + 1) (lastQ pre s) W)
    (CutA.own HB2.out.size) (fun pre n => NextA.own _ _ _ _)
    (fun x W W' row hx hg hr => ⟨hx.r2.others hg (fun r e => (hr r e).2), hx.r3.others hg (fun r e => (hr r e).2), ownFrom_below (Nat.le_refl _) HB2.out.size () W W' row hx.bel hg hr⟩)
    hI0
    (fun x a' W => ∃ X, a' = { tmps := #[.slice a b.length c, undef, .pointer (some ⟨w.heap.size, 0, none⟩), .pointer (some ⟨w.heap.size + 1, 0, none⟩), .pointer (some ⟨w.heap.size + 1 + 1, 0, none⟩), .pointer (some ⟨X, 0, none⟩), .int .i64 0, .slice a b.length c, .func (.func 110) #[] #[.pointer (some ⟨p, 0, none⟩)], x.val, .int .i64 0, undef, undef, undef, undef, undef, undef, undef, undef, undef, undef, undef, undef, undef, undef, undef, undef], defers := [] } ∧ ∀ j u, x.cs[j]? = some u → W.cell? ⟨X, j, none⟩ = some u)
    (fun x a' _ W W' row hx hg hr => by obtain ⟨X, e, h⟩ := hx; exact ⟨X, e, fun j u hu => cell_kept (h j u hu) hg (fun r e => (hr r e).2)⟩)
    (fun s a' W => ∃ X, a' = { tmps := #[.slice a b.length c, undef, .pointer (some ⟨w.heap.size, 0, none⟩), .pointer (some ⟨w.heap.size + 1, 0, none⟩), .pointer (some ⟨w.heap.size + 1 + 1, 0, none⟩), .pointer (some ⟨X, 0, none⟩), .int .i64 s.2, .slice a b.length c, .func (.func 110) #[] #[.pointer (some ⟨p, 0, none⟩)], s.1.val, .int .i64 s.2, undef, undef, undef, undef, undef, undef, undef, undef, undef, undef, undef, undef, undef, undef, undef, undef], defers := [] })
    (fun x a' _ W W' row hx hg hr => hx) ?asg ?asb ?good ?bad ?done ?stop
  case asg =>
    rintro i ⟨T, A, B, ⟨C0, F, H, X, v, m⟩, va, vc, ma, mc, d, da, dc⟩ W C hC
    dsimp only [Ent12.val, Ent12.cs] at hC ⊢
    gi_wp2
    refine hC _ _ (below_alloc _ _) ⟨W.heap.size, rfl, fun j u hu => ?_⟩
    have hb := BoxL.new W [.int .i64 T, .int .u64 A, .int .u64 B, .int .i64 C0, .int .i64 F, .bool H, .int .u64 X, .slice va v.length vc, .slice ma m.length mc, .slice da d.length dc] 27
    exact hb.cell j u hu
  case asb =>
    rintro i ⟨⟨T, A, B, ⟨C0, F, H, X, v, m⟩, va, vc, ma, mc, d, da, dc⟩, q⟩ W C hC
    dsimp only [Ent12.val] at hC ⊢
    gi_wp2
    exact hC _ _ (below_alloc _ _) ⟨W.heap.size, rfl⟩
  case good =>
    rintro i pre x a' W0' W hWs hlen2 hI0' hcl hI hx ⟨X, rfl, hbx⟩
    obtain ⟨⟨v, hv, hown, hvB, hents⟩, hr2, hr3, hbl, _⟩ := hI
    obtain ⟨va, vc, rfl, _, _, _, _⟩ := own_acts hown
    have HSTEP := hid (fun w1 w' v' hw1 hg => CutA.step (w1 := w1) (w' := w') (v' := v') hI0' hcl (by have := HB2.out.size; omega) (by have := HB2.out.size; omega) (by have := HB2.out.size; omega) (by omega) (by omega) (by omega) hWs hx.ent hx.new hv hown hvB hents hr2 hr3 hbl hw1 hg (fun k => k = p ∨ k < w.heap.size) (fun k hk => by rcases hk with rfl | hk; exact ⟨hp2, by have := HP1.out; omega⟩; exact ⟨by have := HB2.out.size; omega, by omega⟩))
    have hTlt : w.heap.size + 1 + 1 < W.heap.size := by have := HB2.out.size; omega
    have hvne : Hid ((Value.slice va pre.length vc).ownBlock ≠ some (w.heap.size + 1 + 1)) := fun e => by have := hvB _ e; have := HB2.out.size; omega
    have hp64 : pre.length < 64 := hlen2
    have hpi : ¬ (pre.length : Int) = 64 := by omega
    have hpn : ¬ pre.length = 64 := by omega
    clear hx hents hbl hI0' hcl hr2 hr3
    obtain ⟨T, A, B, ⟨C, F, H, X1, v, m⟩, xva, xvc, xma, xmc, d, xda, xdc⟩ := x
    dsimp only [Ent12.val, Ent12.cs] at hbx HSTEP ⊢
    have c0 := hbx 0 _ rfl
    have c1 := hbx 1 _ rfl
    have c2 := hbx 2 _ rfl
    have c3 := hbx 3 _ rfl
    have c4 := hbx 4 _ rfl
    have c5 := hbx 5 _ rfl
    have c6 := hbx 6 _ rfl
    have c7 := hbx 7 _ rfl
    have c8 := hbx 8 _ rfl
    have c9 := hbx 9 _ rfl
    have hown1 := hid (hown.kept (by_none_alloc W (.cells #[.int .i64 T, .int .u64 A, .int .u64 B, .int .i64 C, .int .i64 F, .bool H, .int .u64 X1, .slice xva v.length xvc, .slice xma m.length xmc, .slice xda d.length xdc] 27)) (by cases (Value.slice va pre.length vc).ownBlock <;> simp))
    have HONE := hid (acts_one W ⟨T, A, B, ⟨C, F, H, X1, v, m⟩, xva, xvc, xma, xmc, d, xda, xdc⟩ 27)
    obtain ⟨t1, t2⟩ := hv
    have hbA := hid (by_none_alloc W (.cells #[.int .i64 T, .int .u64 A, .int .u64 B, .int .i64 C, .int .i64 F, .bool H, .int .u64 X1, .slice xva v.length xvc, .slice xma m.length xmc, .slice xda d.length xdc] 27))
    have HC := hid (fun (w' : World) (hb : (W.alloc (.cells #[.int .i64 T, .int .u64 A, .int .u64 B, .int .i64 C, .int .i64 F, .bool H, .int .u64 X1, .slice xva v.length xvc, .slice xma m.length xmc, .slice xda d.length xdc] 27)).grownBy w' (Value.slice va pre.length vc).ownBlock) =>
      ((Cell13.mk t1 t2).kept (hbA.out.block (w.heap.size + 1 + 1) hTlt (by simp))).kept (hb.block (w.heap.size + 1 + 1) (by rw [World.size_alloc]; omega) (fun e => hvne.out e.symm)))
    clear hbx hown hvB
    gi_wp2_with (gi_at_builtin; refine wpIn_app_act rfl (.tmp 19) (.tmp 21) rfl rfl hown1.out rfl HONE.out (by omega) rfl ?_; intro va' vc' w' hg; obtain ⟨cX, fX⟩ := HC.out w' hg.by_; have HG := hid hg; clear hg)
    exact HSTEP.out _ _ _ (below_alloc _ _) HG.out
  case bad =>
    rintro i pre ⟨x, q⟩ a' W hWs hsp hI ⟨X, rfl⟩
    have HSP := hid hsp
    obtain ⟨va, vc, hv, _⟩ := hI.list HB2.out.size
    have HI2 := hid hI
    obtain ⟨t1, t2⟩ := hv
    obtain ⟨s1, s2⟩ := hI.r2
    obtain ⟨s3, s4⟩ := hI.r3
    have hsW := HB2.out.size
    clear hI hsp
    have e1 : W.setCell ⟨w.heap.size, 0, none⟩ (.slice none 0 0) = W.setCell ⟨w.heap.size, 0, none⟩ (.slice none 0 0) := rfl
    have r2 : ∀ q : Int, Cell13 ((W.setCell ⟨w.heap.size, 0, none⟩ (.slice none 0 0)).setCell ⟨w.heap.size + 1, 0, none⟩ (.int .i64 q)) w.heap.size (.slice none 0 0) := fun q => (HI2.out.r2.set _).far (by omega) _
    have r3 : ∀ q : Int, Cell13 ((W.setCell ⟨w.heap.size, 0, none⟩ (.slice none 0 0)).setCell ⟨w.heap.size + 1, 0, none⟩ (.int .i64 q)) (w.heap.size + 1) (.int .i64 q) := fun q => (HI2.out.r3.far (by omega) _).set _
    have rb : ∀ q : Int, Below w.heap.size w ((W.setCell ⟨w.heap.size, 0, none⟩ (.slice none 0 0)).setCell ⟨w.heap.size + 1, 0, none⟩ (.int .i64 q)) := fun q => (HI2.out.bel.setCell (by show w.heap.size ≤ w.heap.size; omega) _).setCell (by show w.heap.size ≤ w.heap.size + 1; omega) _
    have RR := hid (And.intro r2 (And.intro r3 rb))
    clear r2 r3 rb e1
    by_cases h64 : pre.length = 64
    · have hpi : (pre.length : Int) = 64 := by omega
      have hlq : lastQ pre (x, q) = 520 := by unfold lastQ; rw [if_pos h64]
      have HLQ := hid hlq
      clear hlq
      gi_wp2
      exact ⟨rfl, ((KeepsOthers.setCell _ _ _).trans (KeepsOthers.setCell _ _ _)).from _, by rw [HLQ.out]; exact ⟨RR.out.1 _, RR.out.2.1 _, RR.out.2.2 _⟩⟩
    · have hpi : ¬ (pre.length : Int) = 64 := by omega
      have hlq : lastQ pre (x, q) = q := by unfold lastQ; rw [if_neg h64]
      have HLQ := hid hlq
      have hq0 : (q != 0) = true := by have := HSP.out.err h64; simpa using this
      clear hlq
      gi_wp2
      exact ⟨rfl, ((KeepsOthers.setCell _ _ _).trans (KeepsOthers.setCell _ _ _)).from _, by rw [HLQ.out]; exact ⟨RR.out.1 _, RR.out.2.1 _, RR.out.2.2 _⟩⟩
  case done =>
    rintro D pre W hD hcut hI hK
    obtain ⟨va, vc, hv, hA, hall, hlc, hcm, hnew, hspot, hbox, hfar⟩ := hI.list HB2.out.size
    have HCUT := hid hcut
    have HI3 := hid (And.intro hA (And.intro hall (And.intro hnew (And.intro hbox hfar))))
    have HR := hid (And.intro hI.r2 (And.intro hI.r3 hI.bel))
    have hp64 : pre.length ≤ 64 := by
      have := cut_most13 HCUT.out
      rwa [List.length_map] at this
    obtain ⟨t1, t2⟩ := hv
    obtain ⟨s1, s2⟩ := hI.r2
    obtain ⟨s3, s4⟩ := hI.r3
    have hsW := HB2.out.size
    clear hA hall hnew hI hcut hbox hfar
    by_cases hbig : 65528 < b.length
    · have hbi : (65528 : Int) < (b.length : Int) := by omega
      have x2 := (HR.out.1.set (.slice none 0 0)).far (g := w.heap.size + 1) (by omega) (.int .i64 514)
      have x3 := (HR.out.2.1.far (g := w.heap.size) (by omega) (.slice none 0 0)).set (.int .i64 514)
      have hbx := (HR.out.2.2.setCell (p := ⟨w.heap.size, 0, none⟩) (Nat.le_refl _) (.slice none 0 0)).setCell (p := ⟨w.heap.size + 1, 0, none⟩) (by show w.heap.size ≤ w.heap.size + 1; omega) (.int .i64 514)
      have hKx : ((W.setCell ⟨w.heap.size, 0, none⟩ (.slice none 0 0)).setCell ⟨w.heap.size + 1, 0, none⟩ (.int .i64 514)).heap[D]? = some (.deferred (some [])) :=
        (Below.heap_setCell _ _ _ _ (by show D ≠ w.heap.size + 1; omega)).trans ((Below.heap_setCell _ _ _ _ (by show D ≠ w.heap.size; omega)).trans hK)
      obtain ⟨W6, hW6⟩ : ∃ W6, (W.setCell ⟨w.heap.size, 0, none⟩ (.slice none 0 0)).setCell ⟨w.heap.size + 1, 0, none⟩ (.int .i64 514) = W6 := ⟨_, rfl⟩
      rw [hW6] at x2 x3 hbx hKx
      have HW6 := hid hW6
      have HX := hid (And.intro x2 (And.intro x3 (And.intro hbx hKx)))
      clear x2 x3 hbx hKx hW6 hK
      go_wp2_with fail
      rw [HW6.out]
      obtain ⟨x2, x3, hbx, hKx⟩ := HX.out
      have hgp := grownBy_putObj' W6 D (.deferred none)
      have hr : ∀ r, some D = some r → ∃ o : Obj, W6.heap[r]? = some o ∧ o.isCells = false := fun r e => by cases e; exact ⟨_, hKx, rfl⟩
      have q2 := cell_kept x2.c hgp hr
      have q3 := cell_kept x3.c hgp hr
      refine ⟨by simp, .inl ⟨_, _, rfl, run_takeDeferred hKx, ?_⟩⟩
      refine ⟨.tuple #[.slice none 0 0, .int .i64 514], ?_, .inl ⟨514, dec13_long HCUT.out hbig, by decide, rfl, hbx.grown hgp hbx.size (fun k e => by cases e; have := HB2.out.size; omega)⟩⟩
      simp [results, Tryz.f32, go_sem, q2, q3]
    · have hbi : ¬ (65528 : Int) < (b.length : Int) := by omega
      have x2 := (HR.out.1.set (.slice va pre.length vc)).far (g := w.heap.size + 1) (by omega) (.int .i64 0)
      have x3 := (HR.out.2.1.far (g := w.heap.size) (by omega) (.slice va pre.length vc)).set (.int .i64 0)
      have hbx := (HR.out.2.2.setCell (p := ⟨w.heap.size, 0, none⟩) (Nat.le_refl _) (.slice va pre.length vc)).setCell (p := ⟨w.heap.size + 1, 0, none⟩) (by show w.heap.size ≤ w.heap.size + 1; omega) (.int .i64 0)
      have hKx : ((W.setCell ⟨w.heap.size, 0, none⟩ (.slice va pre.length vc)).setCell ⟨w.heap.size + 1, 0, none⟩ (.int .i64 0)).heap[D]? = some (.deferred (some [])) :=
        (Below.heap_setCell _ _ _ _ (by show D ≠ w.heap.size + 1; omega)).trans ((Below.heap_setCell _ _ _ _ (by show D ≠ w.heap.size; omega)).trans hK)
      have b6 := by_set13 W w.heap.size (.slice va pre.length vc)
      have b7 := by_set13 (W.setCell ⟨w.heap.size, 0, none⟩ (.slice va pre.length vc)) (w.heap.size + 1) (.int .i64 0)
      have hA6 : Acts ((W.setCell ⟨w.heap.size, 0, none⟩ (.slice va pre.length vc)).setCell ⟨w.heap.size + 1, 0, none⟩ (.int .i64 0)) va pre :=
        (HI3.out.1.by b6 (fun q hq => by have := HI3.out.2.2.2.1 q hq; omega)).by b7 (fun q hq => by have := HI3.out.2.2.2.1 q hq; omega)
      have hI6 : AllIn ((W.setCell ⟨w.heap.size, 0, none⟩ (.slice va pre.length vc)).setCell ⟨w.heap.size + 1, 0, none⟩ (.int .i64 0)) pre := fun x hx =>
        ((HI3.out.2.1 x hx).far b6 ((HI3.out.2.2.2.2 x hx).mono fun k e => by simp at e; omega)).far b7 ((HI3.out.2.2.2.2 x hx).mono fun k e => by simp at e; omega)
      obtain ⟨W6, hW6⟩ : ∃ W6, (W.setCell ⟨w.heap.size, 0, none⟩ (.slice va pre.length vc)).setCell ⟨w.heap.size + 1, 0, none⟩ (.int .i64 0) = W6 := ⟨_, rfl⟩
      rw [hW6] at x2 x3 hbx hKx hA6 hI6
      have HW6 := hid hW6
      have HX := hid (And.intro x2 (And.intro x3 (And.intro hbx (And.intro hKx (And.intro hA6 hI6)))))
      clear x2 x3 hbx hKx hW6 hK hA6 hI6 b6 b7
      go_wp2_with fail
      rw [HW6.out]
      obtain ⟨x2, x3, hbx, hKx, hA6, hI6⟩ := HX.out
      have hgp := grownBy_putObj' W6 D (.deferred none)
      have hr : ∀ r, some D = some r → ∃ o : Obj, W6.heap[r]? = some o ∧ o.isCells = false := fun r e => by cases e; exact ⟨_, hKx, rfl⟩
      have q2 := cell_kept x2.c hgp hr
      have q3 := cell_kept x3.c hgp hr
      refine ⟨by simp, .inl ⟨_, _, rfl, run_takeDeferred hKx, ?_⟩⟩
      refine ⟨.tuple #[.slice va pre.length vc, .int .i64 0], ?_, .inr ⟨pre, va, vc, dec13_ok HCUT.out (by omega), rfl, hp64, hlc, hcm, hA6.others hgp hr, fun x hx => (hI6 x hx).others hgp hr, HI3.out.2.2.1, hspot, hbx.grown hgp hbx.size (fun k e => by cases e; have := HB2.out.size; omega)⟩⟩
      simp [results, Tryz.f32, go_sem, q2, q3]
  case stop =>
    rintro D pre s W hD hsp ⟨hc2, hc3, hbW⟩ hK
    have HSP := hid hsp
    have hgp := grownBy_putObj' W D (.deferred none)
    have hr : ∀ r, some D = some r → ∃ o : Obj, W.heap[r]? = some o ∧ o.isCells = false := fun r e => by cases e; exact ⟨_, hK, rfl⟩
    have q2 := cell_kept hc2.c hgp hr
    have q3 := cell_kept hc3.c hgp hr
    have HR := hid hr
    clear hr hsp
    gi_wp2
    refine ⟨by simp, .inl ⟨_, _, rfl, run_takeDeferred hK, ?_⟩⟩
    refine ⟨.tuple #[.slice none 0 0, .int .i64 (lastQ pre s)], ?_, .inl ⟨lastQ pre s, dec13_err HSP.out.is, ?_, rfl, hbW.grown hgp hbW.size (fun k e => by cases e; have := HB2.out.size; omega)⟩⟩
    · simp [results, Tryz.f32, go_sem, q2, q3]
    · unfold lastQ
      by_cases h64 : pre.length = 64
      · rw [if_pos h64]; decide
      · rw [if_neg h64]; exact HSP.out.err h64
end Go.Proofs.YtdjlbejhphbcoaaGreat
namespace Go.Proofs.YtdjlbejhphbcoaaGreat
open Go.RowKit
set_option linter.unusedVariables false
set_option maxRecDepth 100000

/-- a list that is there: its actions too -/
structure ListA (w : World) (a : Option Addr) (D : List Ent12) : Prop where
  acts : Acts w a D
  all : AllIn w D
theorem ListA.by_new {w0 w w' : World} {a : Option Addr} {D : List Ent12} (h : ListA w a D) (hn : NewA w0 a D) {g : Nat} (hb : w.grownBy w' (some g)) (hg : g < w0.heap.size) : ListA w' a D :=
  ⟨h.acts.by hb fun q hq => by have := hn.box q hq; omega, fun x hx => (h.all x hx).far hb ((hn.far x hx).mono fun k e => by simp at e; omega)⟩
theorem take13_neg (l : List Int) (w0 w : World) (g M : Nat) (r s o : Int) (n : Int) (h : CurOn w0 w g M l r s o 0) (hl : l.length ≤ 65528) (hn : n < 0) :
    Calls Tryz.prog 37 #[.pointer (some ⟨g, 0, none⟩), .int .i64 n] w fun e w' => e = .returned (.slice none 0 0) ∧ CurOn w0 w' g M l r s o 10001 := by
  have H := hid h
  clear h
  have hnd : decide (n < 0) = true := decide_eq_true hn
  go_enter Tryz.func37, Tryz.ntmps37
  go_wp2_with fail
  refine H.out.cur.look_ok.mono ?_
  rintro e w1 ⟨rfl, hF⟩
  have H1 := hid (H.out.below hF.bel)
  clear hF
  go_wp2_with fail
  refine (H1.out.cur.bytes_neg hn).mono ?_
  rintro e w4 ⟨k, rfl, hG, hc4⟩
  have H4 := hid (H1.out.by hG.by_ hc4)
  clear hG hc4
  go_wp2_with fail
  go_ret
  exact ⟨rfl, H4.out⟩
theorem take13_short (l : List Int) (w0 w : World) (g M : Nat) (r s o : Int) (n : Int) (h : CurOn w0 w g M l r s o 0) (hl : l.length ≤ 65528) (hn : (l.length : Int) < n) :
    Calls Tryz.prog 37 #[.pointer (some ⟨g, 0, none⟩), .int .i64 n] w fun e w' => e = .returned (.slice none 0 0) ∧ CurOn w0 w' g M l r s o s := by
  have H := hid h
  clear h
  have hn0 : ¬ n < 0 := by omega
  have hnd : decide (n < 0) = false := decide_eq_false hn0
  have hnd2 : decide ((l.length : Int) < n) = true := decide_eq_true hn
  go_enter Tryz.func37, Tryz.ntmps37
  go_wp2_with fail
  refine H.out.cur.look_ok.mono ?_
  rintro e w1 ⟨rfl, hF⟩
  have H1 := hid (H.out.below hF.bel)
  clear hF
  go_wp2_with fail
  refine (H1.out.cur.bytes_short hn).mono ?_
  rintro e w4 ⟨k, rfl, hG, hc4⟩
  have H4 := hid (H1.out.by hG.by_ hc4)
  clear hG hc4
  go_wp2_with fail
  go_ret
  exact ⟨rfl, H4.out⟩
/-- what reading n bytes that are there comes to -/
def TakePost13 (l : List Int) (n : Nat) (w0 : World) (g M : Nat) (r s o : Int) (e : Ending) (w' : World) : Prop :=
  (∃ q, dec13 (l.take n) = .error q ∧ q ≠ 0 ∧ e = .returned (.slice none 0 0) ∧ CurOn w0 w' g M l r s o q) ∨
  (∃ (D : List Ent12) (va : Option Addr) (vc : Nat), dec13 (l.take n) = .ok (D.map Ent12.act) ∧ e = .returned (.slice va D.length vc) ∧ D.length ≤ 64 ∧ D.length ≤ vc ∧ vc ≤ 9223372036854775807 ∧ ListA w' va D ∧ CurOn w0 w' g M (l.drop n) (r + n) s o 0)
set_option maxHeartbeats 4000000 in
theorem take13_ok (l : List Int) (w0 w : World) (g M : Nat) (r s o : Int) (n : Nat) (h : CurOn w0 w g M l r s o 0) (hl : l.length ≤ 65528) (hn : n ≤ l.length) :
    Calls Tryz.prog 37 #[.pointer (some ⟨g, 0, none⟩), .int .i64 n] w (TakePost13 l n w0 g M r s o) := by
  have H := hid h
  have HOC := hid h.cur.oct
  have HNL := hid hn
  unfold TakePost13
  obtain ⟨b, hb⟩ : ∃ b, l.take n = b := ⟨_, rfl⟩
  have hbl : b.length = n := by rw [← hb, List.length_take]; omega
  rw [hb]
  have HB := hid (And.intro hb hbl)
  have hnd : decide ((n : Int) < 0) = false := decide_eq_false (by omega)
  have hnd2 : decide ((l.length : Int) < (n : Int)) = false := decide_eq_false (by omega)
  have hni : (n : Int) ≤ (l.length : Int) := by omega
  have hgl := h.cur.block_lt
  clear h hb hbl hn
  go_enter Tryz.func37, Tryz.ntmps37
  go_wp2_with fail
  refine H.out.cur.look_ok.mono ?_
  rintro e w1 ⟨rfl, hF⟩
  obtain ⟨a, c, he, _, _, hI⟩ := own_ints hF.own
  have he1 : a = some ⟨w.heap.size, 0, none⟩ := by simpa using (congrArg (fun x => match x with | Value.slice a _ _ => a | _ => none) he).symm
  subst he1
  have H1 := hid (H.out.below hF.bel)
  have hs1 := hF.bel.size
  have hIb : Ints .u8 w1 (some ⟨w.heap.size, 0, none⟩) b := by rw [← HB.out.1]; exact hI.take n
  have HD := hid (decode13_any w1 (some ⟨w.heap.size, 0, none⟩) l.length b ⟨by rw [HB.out.2]; exact HNL.out, by omega, hIb, by rw [← HB.out.1]; exact HOC.out.take n, fun _ => ⟨_, _, rfl⟩⟩)
  rw [HB.out.2] at HD
  clear he hI hF hIb
  go_wp2_with fail
  refine HD.out.mono ?_
  rintro e w2 (⟨q, hq, hq0, rfl, hb2⟩ | ⟨D, va, vc, hok, rfl, h64, hlc, hcm, hA, hall, hnew, _, hb2⟩)
  · have H2 := hid (H1.out.below hb2)
    have HQ := hid (And.intro hq hq0)
    clear hb2 hq
    go_wp2_with fail
    refine (H2.out.cur.fail q).mono ?_
    rintro e w3 ⟨rfl, hc3, hb3⟩
    have H3 := hid (H2.out.by hb3 hc3)
    clear hc3 hb3
    go_wp2_with fail
    refine (H3.out.cur.bytes_late hq0 _).mono ?_
    rintro e w4 ⟨k, rfl, hG, hc4⟩
    have H4 := hid (H3.out.by hG.by_ hc4)
    clear hG hc4
    go_wp2_with fail
    go_ret
    exact .inl ⟨q, HQ.out.1, HQ.out.2, rfl, H4.out⟩
  · have H2 := hid (H1.out.below hb2)
    have HL := hid (show ListA w2 va D from ⟨hA, hall⟩)
    have HN := hid hnew
    have HOK := hid hok
    clear hb2 hA hall hnew hok
    go_wp2_with fail
    refine (H2.out.cur.fail 0).mono ?_
    rintro e w3 ⟨rfl, hc3, hb3⟩
    have H3 := hid (H2.out.by hb3 hc3)
    have HL3 := hid (HL.out.by_new HN.out hb3 (by omega))
    clear hc3 hb3
    go_wp2_with fail
    refine (H3.out.cur.bytes_ok (n := n) HNL.out).mono ?_
    rintro e w4 ⟨k, rfl, hG, hc4⟩
    have H4 := hid (H3.out.by hG.by_ hc4)
    have HL4 := hid (HL3.out.by_new HN.out hG.by_ (by omega))
    clear hG hc4
    go_wp2_with fail
    go_ret
    exact .inr ⟨D, va, vc, HOK.out, rfl, h64, hlc, hcm, HL4.out, H4.out⟩
end Go.Proofs.YtdjlbejhphbcoaaGreat
namespace Go.Proofs.YtdjlbejhphbcoaaGreat
open Go.RowKit
set_option linter.unusedVariables false
set_option maxRecDepth 100000

theorem row_holds13 {w : World} {a : Option Addr} {cap : Nat} {l : List Int} {zs : List Int} (h : IsRow .u8 w a l.length cap zs) (h1 : l.length ≤ cap) (h2 : cap ≤ 9223372036854775807) (h3 : Ints .u8 w a l) (h4 : Octets l) : Holds w a cap l := ⟨h1, h2, h3, h4, fun hc => h.shape hc⟩
theorem act_octets13 {a : Act12} {x : List Int} (h : act12 a = some x) (ov : Octets a.o.v) (om : Octets a.o.m) (od : Octets a.d) : Octets x := by
  obtain ⟨b, hb, hw, hx, hl, h8, h9, h10, h11, h12⟩ := act_write h
  have hbo : Octets b := by
    by_cases hT : a.T = 25
    · obtain ⟨_, _, _, _, rfl⟩ := body_25 hb hT
      refine Octets.append (oxm_octets ov om) ?_
      intro y hy
      rw [List.mem_replicate] at hy
      omega
    · obtain ⟨w', p, _, _, _, _, _, _, _, _, hp, _, rfl⟩ := body_row hb hT
      exact Octets.append (putL_octets hp).1 od
  rw [hx]
  exact (bytesL_octets _ _).append ((bytesL_octets _ _).append hbo)
theorem raw_octets13 {l : List Act12} {x : List Int} (h : raw13 l = some x) (ho : ∀ a ∈ l, Octets a.o.v ∧ Octets a.o.m ∧ Octets a.d) : Octets x := by
  induction l generalizing x with
  | nil => cases h; intro y hy; cases hy
  | cons a r ih =>
    obtain ⟨u, v, h1, h2, rfl⟩ := raw_cons h
    obtain ⟨o1, o2, o3⟩ := ho a (by simp)
    exact (act_octets13 h1 o1 o2 o3).append (ih h2 (fun b hb => ho b (by simp [hb])))
theorem all_octets13 {w : World} {l : List Ent12} (h : AllIn w l) : ∀ a ∈ l.map Ent12.act, Octets a.o.v ∧ Octets a.o.m ∧ Octets a.d := by
  intro a ha
  obtain ⟨g, hg, rfl⟩ := List.mem_map.1 ha
  exact ⟨(h g hg).ov, (h g hg).om, (h g hg).od⟩
theorem all_num13 {w : World} {l : List Ent12} (h : AllIn w l) : ∀ a ∈ l.map Ent12.act, a.In := by
  intro a ha
  obtain ⟨g, hg, rfl⟩ := List.mem_map.1 ha
  exact (h g hg).num
theorem enc_raw13 {l : List Act12} {x : List Int} (h : enc13 l = .ok x) : raw13 l = some x ∧ l.length ≤ 64 ∧ x.length ≤ 65528 := by
  rcases enc_or l with h' | ⟨y, h1, h2, h3, h4⟩
  · rw [h] at h'; cases h'
  · rw [h] at h1; cases h1; exact ⟨h2, h3, h4⟩
/-- what encoding comes to, error and answer in one -/
def EncUni13 (L : List Act12) (w : World) (e : Ending) (w' : World) : Prop :=
  ∃ X xa xc q, e = .returned (.tuple #[.slice xa (List.length X) xc, .int .i64 q]) ∧ Below w.heap.size w w' ∧ Ints .u8 w' xa X ∧ ((enc13 L = .ok X ∧ q = 0) ∨ (enc13 L = .error 10001 ∧ q = 10001 ∧ X = []))
theorem enc_uni13 {L : List Act12} {w w' : World} {e : Ending} (h : EncPost13 L w e w') : EncUni13 L w e w' := by
  rcases h with ⟨h1, h2, h3⟩ | ⟨x, g, h1, h2, h3, h4, _⟩
  · exact ⟨[], none, 0, 10001, h2, h3, Ints.nil _ _ _, .inr ⟨h1, rfl, rfl⟩⟩
  · exact ⟨x, _, _, 0, h2, h3, h4, .inl ⟨h1, rfl⟩⟩
/-- what decoding comes to, error and answer in one -/
def DecUni13 (b : List Int) (w : World) (e : Ending) (w' : World) : Prop :=
  ∃ (D : List Ent12) (va : Option Addr) (vc : Nat) (q : Int), e = .returned (.tuple #[.slice va D.length vc, .int .i64 q]) ∧ Below w.heap.size w w' ∧ ListA w' va D ∧ D.length ≤ 64 ∧ ((dec13 b = .ok (D.map Ent12.act) ∧ q = 0) ∨ (dec13 b = .error q ∧ q ≠ 0 ∧ D = []))
theorem dec_uni13 {b : List Int} {w w' : World} {e : Ending} (h : DecPost13 b w e w') : DecUni13 b w e w' := by
  rcases h with ⟨q, h1, h2, h3, h4⟩ | ⟨D, va, vc, h1, h2, h3, _, _, h6, h7, _, _, h8⟩
  · exact ⟨[], none, 0, q, h3, h4, ⟨Acts.nil _ _, AllIn.nil _⟩, by simp, .inr ⟨h1, h2, rfl⟩⟩
  · exact ⟨D, va, vc, 0, h2, h8, ⟨h6, h7⟩, h3, .inl ⟨h1, rfl⟩⟩
theorem AllIn.append {w : World} {l m : List Ent12} (h : AllIn w l) (k : AllIn w m) : AllIn w (l ++ m) := fun g hg => (List.mem_append.1 hg).elim (h g) (k g)

end Go.Proofs.YtdjlbejhphbcoaaGreat
namespace Go.Proofs.YtdjlbejhphbcoaaGreat
open Go.RowKit Go.Sort
set_option linter.unusedVariables false
set_option maxRecDepth 100000

theorem nan_any (x : Int) (w : World) : Calls Tryz.prog 164 #[.int .u64 x] w fun e w' => e = .returned (.bool false) ∧ w = w' := by
  go_enter Tryz.func164, Tryz.ntmps164
  go_wp2_with fail
  go_ret
  exact ⟨by simp, rfl⟩
theorem less_any (x y : Int) (w : World) : Calls Tryz.prog 138 #[.int .u64 x, .int .u64 y] w fun e w' => e = .returned (.bool (ltInt x y)) ∧ w = w' := by
  have H := hid (fun x w => nan_any x w)
  go_enter Tryz.func138, Tryz.ntmps138
  go_wp2_with fail
  refine (H.out _ _).mono ?_
  rintro e w1 ⟨rfl, rfl⟩
  go_wp2_with fail
  go_ret
  exact ⟨rfl, rfl⟩
/-- numbers that lie in block b, and may be written -/
def RowU (w : World) (b : Nat) (d : Array Int) : Prop := BoxL w b (d.toList.map (Value.int .u64))
theorem get_bang (d : Array Int) {i : Nat} (hi : i < d.size) : d[i]! = d[i] := by simp [hi]
theorem RowU.cell {w : World} {b : Nat} {d : Array Int} (h : RowU w b d) {i : Nat} (hi : i < d.size) : w.cell? ⟨b, i, none⟩ = some (.int .u64 d[i]!) := by
  refine BoxL.cell h i _ ?_
  rw [List.getElem?_map, get_bang d hi]
  simp [hi]
theorem RowU.below {w w' : World} {b : Nat} {d : Array Int} (h : RowU w b d) (hb : Below w.heap.size w w') : RowU w' b d := BoxL.below h hb
theorem RowU.swp {w : World} {b : Nat} {d : Array Int} (h : RowU w b d) (i j : Nat) (hi : i < d.size) (hj : j < d.size) :
    RowU ((w.setCell ⟨b, i, none⟩ (.int .u64 d[j]!)).setCell ⟨b, j, none⟩ (.int .u64 d[i]!)) b (Go.Sort.swp d i j) := by
  have h2 := (BoxL.set h i (.int .u64 d[j]!) (by simp [hi])).set j (.int .u64 d[i]!) (by simp [hj])
  unfold RowU Go.Sort.swp
  simpa [List.map_set] using h2
/-- the block's cells alone turn -/
def TurnU (b : Nat) (w w' : World) : Prop := w.grownBy w' (some b)
theorem TurnU.refl (b : Nat) (w : World) : TurnU b w w := ⟨rfl, rfl, rfl, Nat.le_refl _, fun _ _ _ => rfl⟩
theorem TurnU.trans {b : Nat} {w w1 w2 : World} (h : TurnU b w w1) (k : TurnU b w1 w2) : TurnU b w w2 := grownBy_trans h k (.inl rfl)
theorem TurnU.below {b : Nat} {w w1 w2 : World} (h : TurnU b w w1) (k : Below w1.heap.size w1 w2) : TurnU b w w2 := grownBy_trans h (below_by_none k) (.inr (fun g e => by cases e))
theorem TurnU.swp {b : Nat} {w w1 : World} (h : TurnU b w w1) (i j : Nat) (u v : Value) : TurnU b w ((w1.setCell ⟨b, i, none⟩ u).setCell ⟨b, j, none⟩ v) :=
  (h.trans (by_setCell w1 b i u)).trans (by_setCell _ b j v)

theorem RowU.drew {w : World} {b : Nat} {d : Array Int} (h : RowU w b d) : RowU w.drew b d := BoxL.drew h
theorem TurnU.drew {b : Nat} {w w1 : World} (h : TurnU b w w1) : TurnU b w w1.drew := h.trans ⟨rfl, rfl, rfl, Nat.le_refl _, fun _ _ _ => rfl⟩
theorem less_at {x y : Int} {r : Bool} (h : ltInt x y = r) (w : World) : Calls Tryz.prog 138 #[.int .u64 x, .int .u64 y] w fun e w' => e = .returned (.bool r) ∧ w = w' := by rw [← h]; exact less_any x y w
theorem insInner_go {a j : Nat} {d : Array Int} (h : a < j) (hl : ltInt d[j]! d[j - 1]! = true) : insInner ltInt a j d = insInner ltInt a (j - 1) (swp d j (j - 1)) := by
  obtain ⟨k, rfl⟩ : ∃ k, j = k + 1 := ⟨j - 1, by omega⟩
  rw [Nat.add_sub_cancel] at hl ⊢
  rw [insInner, if_pos (by simp only [Bool.and_eq_true, decide_eq_true_eq]; exact ⟨h, hl⟩)]
theorem insInner_end {a j : Nat} {d : Array Int} (h : j ≤ a ∨ ltInt d[j]! d[j - 1]! = false) : insInner ltInt a j d = d := by
  cases j with
  | zero => rfl
  | succ k =>
    rw [insInner, if_neg]
    simp only [Bool.and_eq_true, decide_eq_true_eq, not_and]
    rw [Nat.add_sub_cancel] at h
    rcases h with h | h
    · omega
    · rw [h]; simp
set_option maxHeartbeats 4000000 in
theorem insertU_any (w : World) (blk cap a b : Nat) (d : Array Int) (hH : RowU w blk d) (hab : a ≤ b) (hb : b ≤ d.size) (hsz : d.size < 4611686018427387904) :
    Calls Tryz.prog 132 #[.slice (some ⟨blk, 0, none⟩) d.size cap, .int .i64 a, .int .i64 b] w fun e w' =>
      e = .returned (.tuple #[]) ∧ RowU w' blk (insertionSort ltInt d a b) ∧ TurnU blk w w' := by
  obtain ⟨n, hn⟩ : ∃ n, n = d.size := ⟨_, rfl⟩
  have HN := hid hn
  have HD := hid hH
  unfold insertionSort
  rw [← hn] at hb hsz ⊢
  clear hH hn
  go_enter Tryz.func132, Tryz.ntmps132
  go_wp2_with fail
  go_loopw [6] (fun vi wr => ∃ (i : Nat) (dk : Array Int), vi = .int .i64 i ∧ a < i ∧ i ≤ b + 1 ∧ Hid (dk.size = n) ∧ Hid (RowU wr blk dk) ∧ Hid (TurnU blk w wr) ∧ Hid (insOuter ltInt a b i dk = insOuter ltInt a b (a + 1) d)) (fun vi _ => b + 1 - (intOf vi).toNat)
  case atStart => exact ⟨a + 1, d, by go_num, by omega, by omega, HN.out.symm, HD.out, TurnU.refl _ _, rfl⟩
  case round =>
    obtain ⟨i, dk, rfl, hai, hib, hsk, hR, hT, hO⟩ := hrel
    by_cases hlt : i < b
    · have hlti : (i : Int) < (b : Int) := by omega
      go_wp2_with fail
      go_loopw [7] (fun vj wr2 => ∃ (j : Nat) (dj : Array Int), vj = .int .i64 j ∧ a ≤ j ∧ j ≤ i ∧ Hid (dj.size = n) ∧ Hid (RowU wr2 blk dj) ∧ Hid (TurnU blk w wr2) ∧ Hid (insInner ltInt a j dj = insInner ltInt a i dk)) (fun vj _ => (intOf vj).toNat)
      case atStart => exact ⟨i, dk, rfl, by omega, Nat.le_refl _, hsk, hR, hT, rfl⟩
      case round =>
        obtain ⟨j, dj, rfl, haj, hji, hsj, hRj, hTj, hI⟩ := hrel
        by_cases hg : a < j
        · have hd : decide ((a : Int) < (j : Int)) = true := decide_eq_true (by omega)
          have hdn : decide (a < j) = true := decide_eq_true hg
          have hj1 : (0 : Int) ≤ (j : Int) - 1 := by omega
          have hj2 : (j : Int) - 1 < (n : Int) := by omega
          have hj3 : (j : Int) < (n : Int) := by omega
          have hjt : ((j : Int) - 1).toNat = j - 1 := by omega
          have ⟨x, hx⟩ : ∃ x, dj[j]! = x := ⟨_, rfl⟩
          have ⟨y, hy⟩ : ∃ y, dj[j - 1]! = y := ⟨_, rfl⟩
          have k1 := hRj.out.cell (i := j) (by rw [hsj.out]; omega)
          have k2 := hRj.out.cell (i := j - 1) (by rw [hsj.out]; omega)
          rw [hx] at k1
          rw [hy] at k2
          have HX := hid (And.intro hx hy)
          have K := hid (And.intro k1 k2)
          have hfree := hid hRj.out.free
          have c1 := Wk.cell k1
          have c2 := Wk.cell k2
          obtain ⟨r, hr⟩ : ∃ r, ltInt x y = r := ⟨_, rfl⟩
          have HL := hid (fun w => less_at hr w)
          have HRR := hid hr
          clear k1 k2 hx hy hr
          go_upto_region 4 with fail
          refine wp_region_wk (by kernel_rfl) (by kernel_rfl) ?_
          repeat (go_big_quiet_step (first | (go_at_call 138; exact Wk.same (HL.out _)) | fail))
          refine wpQuiet_nil ?_
          rintro w3 ⟨⟨_, hb3⟩, rfl⟩
          have hR3 := hid (hRj.out.below hb3)
          have hT3 := hid (hTj.out.below hb3)
          clear c1 c2 hb3
          cases r
          · have hend := insInner_end (a := a) (j := j) (d := dj) (.inr (by rw [HX.out.1, HX.out.2]; exact HRR.out))
            have HOO : Hid (insOuter ltInt a b (i + 1) dj = insOuter ltInt a b (a + 1) d) := by
              show _ = _
              rw [← hO.out, insOuter.eq_def ltInt a b i dk, if_pos hlt, ← hI.out, hend]
            clear hend
            go_wp2_with fail
            go_roundw
            case rel => exact ⟨i + 1, dj, by go_num, by omega, by omega, hsj, hR3.out, hT3.out, HOO.out⟩
            case measure => simp [intOf]; omega
          · have hgo := insInner_go (a := a) (j := j) (d := dj) hg (by rw [HX.out.1, HX.out.2]; exact HRR.out)
            have HI2 : Hid (insInner ltInt a (j - 1) (swp dj j (j - 1)) = insInner ltInt a i dk) := by show _ = _; rw [← hgo, hI.out]
            have k1 := hR3.out.cell (i := j) (by rw [hsj.out]; omega)
            have k2 := hR3.out.cell (i := j - 1) (by rw [hsj.out]; omega)
            have hSW := hR3.out.swp j (j - 1) (by rw [hsj.out]; omega) (by rw [hsj.out]; omega)
            have hTW := hT3.out.swp j (j - 1) (.int .u64 dj[j - 1]!) (.int .u64 dj[j]!)
            have hf := hR3.out.free
            rw [HX.out.1] at k1 hSW hTW
            rw [HX.out.2] at k2 hSW hTW
            have HSW := hid (And.intro hSW hTW)
            clear hgo hSW hTW
            go_upto_region 6 with fail
            go_region
            have hSW := HSW.out.1.drew
            have hTW := HSW.out.2.drew
            have hsz2 : (swp dj j (j - 1)).size = n := by rw [size_swp]; exact hsj.out
            generalize ((w3.setCell ⟨blk, j, none⟩ (.int .u64 y)).setCell ⟨blk, j - 1, none⟩ (.int .u64 x)).drew = w4 at hSW hTW ⊢
            have HS4 := hid (And.intro hSW (And.intro hTW hsz2))
            clear hSW hTW hsz2 k1 k2 hf hfree
            go_wp2_with fail
            go_roundw
            case rel => exact ⟨j - 1, swp dj j (j - 1), by go_num, by omega, by omega, HS4.out.2.2, HS4.out.1, HS4.out.2.1, HI2.out⟩
            case measure => simp [intOf]; omega
        · have hd : decide ((a : Int) < (j : Int)) = false := decide_eq_false (by omega)
          have hdn : decide (a < j) = false := decide_eq_false hg
          have hend := insInner_end (a := a) (j := j) (d := dj) (.inl (by omega))
          have HOO : Hid (insOuter ltInt a b (i + 1) dj = insOuter ltInt a b (a + 1) d) := by
            show _ = _
            rw [← hO.out, insOuter.eq_def ltInt a b i dk, if_pos hlt, ← hI.out, hend]
          clear hend
          go_upto_region 4 with fail
          refine wp_region_wk (by kernel_rfl) (by kernel_rfl) ?_
          repeat (go_big_quiet_step (fail))
          refine wpQuiet_nil ?_
          rintro w3 ⟨⟨_, hb3⟩, rfl⟩
          have hR3 := hid (hRj.out.below hb3)
          have hT3 := hid (hTj.out.below hb3)
          clear hb3
          go_wp2_with fail
          go_roundw
          case rel => exact ⟨i + 1, dj, by go_num, by omega, by omega, hsj, hR3.out, hT3.out, HOO.out⟩
          case measure => simp [intOf]; omega
    · have hge : (b : Int) ≤ (i : Int) := by omega
      have hres : insOuter ltInt a b (a + 1) d = dk := by rw [← hO.out, insOuter, if_neg (by omega)]
      have HRES := hid hres
      clear hres
      go_wp2_with fail
      go_end0
      exact ⟨rfl, by rw [HRES.out]; exact hR.out, hT.out⟩
end Go.Proofs.YtdjlbejhphbcoaaGreat
