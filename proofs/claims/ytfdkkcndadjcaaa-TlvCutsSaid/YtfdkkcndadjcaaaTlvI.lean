/- Package tlv: Cut. -/
import Derived.Test.YtfdkkcndadjcaaaTlvH
namespace Go.Proofs.Ytfdkkcndadjcaaa
open Go.RowKit
attribute [local go_sem] Oper.semAt_some

/-- what Cut answers -/
def CutPost (w : World) (r : Except Int (List (Int × List Int))) (e : Ending) (w' : World) : Prop :=
  match r with
  | .error q => e = .returned (.tuple #[.slice none 0 0, .int .i64 q]) ∧ Below w.heap.size w w'
  | .ok xs => ∃ (l : List Thing) (a : Option Addr) (c : Nat), l.map Thing.val = xs ∧ e = .returned (.tuple #[.slice a l.length c, .int .i64 0]) ∧ l.length ≤ c ∧ c ≤ 9223372036854775807 ∧ Items w' a l ∧ (∀ h ∈ l, Thing.ok w.heap.size h w') ∧ (∀ q : Addr, a = some q → w.heap.size ≤ q.block ∧ q.block < w'.heap.size) ∧ Below w.heap.size w w'

/-- memory whose cells a step kept -/
theorem Ints.others {k : IntKind} {W W' : World} {row : Option Nat} {a : Option Addr} {l : List Int} (h : Ints k W a l) (hg : W.grownBy W' row) (hr : ∀ r, row = some r → ∃ o : Obj, W.heap[r]? = some o ∧ o.isCells = false) : Ints k W' a l := by
  intro i hi
  obtain ⟨b, off, rfl, hc⟩ := h i hi
  exact ⟨b, off, rfl, cell_kept hc hg hr⟩
theorem Thing.ok.others {B : Nat} {h : Thing} {W W' : World} {row : Option Nat} (k : h.ok B W) (hg : W.grownBy W' row) (hr : ∀ r, row = some r → ∃ o : Obj, W.heap[r]? = some o ∧ o.isCells = false) : h.ok B W' := ⟨k.cap, k.max, k.ints.others hg hr, k.far⟩
theorem Thing.ok.turned {B : Nat} {h : Thing} {W W' : World} {row : Option Nat} (k : h.ok B W) (hg : W.grownBy W' row) (hne : ∀ q : Addr, h.a = some q → row ≠ some q.block) : h.ok B W' :=
  ⟨k.cap, k.max, by
    intro i hi
    obtain ⟨b, off, ha, hc⟩ := k.ints i hi
    exact ⟨b, off, ha, hg.cell hc (fun e => hne _ ha e.symm)⟩, k.far⟩
theorem own_not_other {W : World} {e : TypeId} {size n : Nat} {v : Value} {xs : List Value} (h : W.ownsRow 0 e size v n xs) {row : Option Nat} (hr : ∀ r, row = some r → ∃ o : Obj, W.heap[r]? = some o ∧ o.isCells = false) : v.ownBlock = none ∨ v.ownBlock ≠ row := by
  rcases h.2 with ⟨rfl, _⟩ | ⟨g, cap, cur, rfl, _, hg, _⟩
  · exact .inl rfl
  · right
    intro e
    obtain ⟨o, ho, hc⟩ := hr g e.symm
    rw [hg] at ho
    cases ho
    cases hc

/-- between two rounds of a loop that gathers things in the cell X; R4, R5: the results' cells -/
structure CutAt (T : TypeId) (w0 : World) (B1 X R4 R5 : Nat) (pre : List Thing) (W : World) : Prop where
  v : ∃ v, W.cell? ⟨X, 0, none⟩ = some v ∧ W.ownsRow 0 T 2 v pre.length (thingCells pre) ∧ (∀ g, v.ownBlock = some g → B1 ≤ g) ∧ (pre = [] → v.ownBlock = none)
  fx : W.frozen? ⟨X, 0, none⟩ = false
  c4 : W.cell? ⟨R4, 0, none⟩ = some (.slice none 0 0)
  f4 : W.frozen? ⟨R4, 0, none⟩ = false
  c5 : W.cell? ⟨R5, 0, none⟩ = some (.int .i64 0)
  f5 : W.frozen? ⟨R5, 0, none⟩ = false
  ok : ∀ h ∈ pre, Thing.ok B1 h W
  bel : Below w0.heap.size w0 W

theorem frozen_kept' {W W' : World} {row : Option Nat} {a : Addr} {v : Value} (hf : W.frozen? a = false) (h : W.cell? a = some v) (hg : W.grownBy W' row) (hr : ∀ r, row = some r → ∃ o : Obj, W.heap[r]? = some o ∧ o.isCells = false) : W'.frozen? a = false := (frozen_kept h hg hr).trans hf
theorem CutAt.own {T : TypeId} {w0 : World} {B1 X R4 R5 : Nat} (hB : w0.heap.size ≤ B1) : OwnFrom B1 (CutAt T w0 B1 X R4 R5) := by
  intro pre W W' row h hg hr
  have hr2 : ∀ r, row = some r → ∃ o : Obj, W.heap[r]? = some o ∧ o.isCells = false := fun r e => (hr r e).2
  obtain ⟨v, h1, h2, h3⟩ := h.v
  exact ⟨⟨v, cell_kept h1 hg hr2, h2.kept hg (own_not_other h2 hr2), h3⟩, (frozen_kept' h.fx h1 hg hr2), cell_kept h.c4 hg hr2, frozen_kept' h.f4 h.c4 hg hr2, cell_kept h.c5 hg hr2, frozen_kept' h.f5 h.c5 hg hr2,
    fun x hx => (h.ok x hx).others hg hr2, ownFrom_below (Nat.le_refl _) hB () W W' row h.bel hg hr⟩

theorem Thing.ok.kinds {B : Nat} {h : Thing} {W W' : World} {T : TypeId} {n : Nat} {v : Value} {pre : List Thing} (k : h.ok B W) (hown : W.ownsRow 0 T 2 v n (thingCells pre)) (hpre : pre = [] → v.ownBlock = none) (hg : W.grownBy W' v.ownBlock) : h.ok B W' := by
  refine ⟨k.cap, k.max, ?_, k.far⟩
  intro i hi
  obtain ⟨b, off, ha, hc⟩ := k.ints i hi
  obtain ⟨b0, off0, ha0, hc0⟩ := k.ints 0 (by omega)
  rw [ha] at ha0
  simp at ha0
  obtain ⟨rfl, rfl⟩ := ha0
  obtain rfl : off = 0 := by
    rcases k.far with h0 | ⟨q, h0, _⟩
    · rw [h0] at ha; cases ha
    · rw [h0] at ha; simp at ha; exact ha.2.symm
  refine ⟨b, 0, ha, hg.cell hc (fun e => ?_)⟩
  cases pre with
  | nil => rw [hpre rfl] at e; cases e
  | cons x pre =>
    rcases hown.2 with ⟨rfl, _⟩ | ⟨g, cap, cur, rfl, _, hgc, hnc, hcm, hcs, htake⟩
    · cases e
    · simp [Value.ownBlock] at e
      subst e
      have h1 := cell_of_row W b 0 cur T (0, 0) hgc
      rw [hc0] at h1
      have h2 : (cur.toList.take (n * 2))[0]? = some (.int .i64 x.t) := by rw [htake]; rfl
      rw [List.getElem?_take] at h2
      split at h2
      · rw [Array.getElem?_toList, ← h1] at h2
        simp at h2
      · cases h2

theorem CutAt.step {T T' : TypeId} {w0 : World} {B1 X R4 R5 : Nat} {pre : List Thing} {W : World} (h : CutAt T w0 B1 X R4 R5 pre W) (hX : X < B1) (h4 : R4 < B1) (h5 : R5 < B1) (hX4 : X ≠ R4) (hX5 : X ≠ R5) (hw0 : w0.heap.size ≤ X) (hB1 : B1 ≤ W.heap.size)
    {x : Thing} (hx : x.ok B1 W) {v v' : Value} (hv : W.cell? ⟨X, 0, none⟩ = some v) (hown : W.ownsRow 0 T 2 v pre.length (thingCells pre)) (hvB : ∀ g, v.ownBlock = some g → B1 ≤ g) (hvn : pre = [] → v.ownBlock = none)
    {w1 w' : World} (hw1 : W.alloc (.cells #[.int .i64 x.t, .slice x.a x.x.length x.c] T') = w1) (hg : GrewN T 2 w1 w' v v' (pre.length + 1) (thingCells pre ++ [.int .i64 x.t, .slice x.a x.x.length x.c])) (K : Nat → Prop) (hK : ∀ k, K k → k < B1 ∧ k ≠ X) :
    KeepsFrom B1 W (w'.setCell ⟨X, 0, none⟩ v') ∧ (∀ k, K k → k < W.heap.size → (w'.setCell ⟨X, 0, none⟩ v').heap[k]? = W.heap[k]?) ∧ CutAt T w0 B1 X R4 R5 (pre ++ [x]) (w'.setCell ⟨X, 0, none⟩ v') := by
  have ha : W.grownBy w1 none := by rw [← hw1]; exact by_none_alloc _ _
  have hs1 : B1 ≤ w1.heap.size := Nat.le_trans hB1 ha.size
  have hvX : ∀ j, j < B1 → v.ownBlock ≠ some j := fun j hj e => by have := hvB j e; omega
  have hv'B := hg.base hs1 hvB
  have hv'X : ∀ j, j < B1 → v'.ownBlock ≠ some j := fun j hj e => by have := hv'B j e; omega
  have old : ∀ j, j < B1 → j ≠ X → (w'.setCell ⟨X, 0, none⟩ v').heap[j]? = W.heap[j]? := fun j hj hne =>
    (Below.heap_setCell _ _ _ _ hne).trans ((hg.by_.block j (by omega) (fun e => hvX j hj e.symm)).trans (ha.block j (by omega) (by simp)))
  have mid : ∀ {p : Addr} {u : Value}, p.block < B1 → W.cell? p = some u → w'.cell? p = some u := fun {p u} hp hu => (hg.by_.cell (ha.cell hu (by simp)) (fun e => hvX _ hp e.symm))
  have cellX : w'.cell? ⟨X, 0, none⟩ = some v := mid (p := ⟨X, 0, none⟩) hX hv
  have keep : ∀ {p : Addr} {u : Value}, p.block < B1 → p.block ≠ X → W.cell? p = some u → (w'.setCell ⟨X, 0, none⟩ v').cell? p = some u := fun {p u} hp hne hu => (World.cell?_of_block (old p.block hp hne)).trans hu
  have keepf : ∀ {p : Addr}, p.block < B1 → p.block ≠ X → W.frozen? p = false → (w'.setCell ⟨X, 0, none⟩ v').frozen? p = false := fun {p} hp hne hu => (World.frozen?_of_block (old p.block hp hne)).trans hu
  have hset : w'.grownBy (w'.setCell ⟨X, 0, none⟩ v') (some X) := ⟨rfl, rfl, rfl, by simp [World.setCell], fun k hk hne => Below.heap_setCell _ _ _ _ (fun e => hne (by rw [e]))⟩
  have okk : ∀ y : Thing, y.ok B1 W → y.ok B1 (w'.setCell ⟨X, 0, none⟩ v') := fun y hy =>
    ((hy.turned ha (fun q _ => by simp)).kinds (hown.kept ha (by cases v.ownBlock <;> simp)) hvn hg.by_).turned hset (fun q hq e => by
      rcases hy.far with h0 | ⟨k, h0, hk⟩
      · rw [h0] at hq; cases hq
      · rw [h0] at hq; cases hq; simp at e; omega)
  refine ⟨?_, fun k hk hkw => old k (hK k hk).1 (hK k hk).2, ⟨v', ?_, ?_, hv'B, by simp⟩, ?_, keep h4 (Ne.symm hX4) h.c4, keepf h4 (Ne.symm hX4) h.f4, keep h5 (Ne.symm hX5) h.c5, keepf h5 (Ne.symm hX5) h.f5, ?_, ?_⟩
  · refine (((KeepsOthers.of_grownBy ha (fun j o e => by cases e)).trans (KeepsOthers.of_grownBy hg.by_ (fun j o e ho => ?_))).trans (KeepsOthers.setCell _ _ _)).from _
    have hown1 := hown.kept ha (by cases v.ownBlock <;> simp)
    rcases hown1.2 with ⟨rfl, _⟩ | ⟨g, cap, cur, rfl, _, hgc, _⟩
    · cases e
    · cases e; rw [hgc] at ho; cases ho; rfl
  · exact World.cell?_setCell_same _ _ _ cellX
  · have h2 := hg.own.kept hset (.inr (hv'X X hX))
    rw [List.length_append, thingCells_snoc]
    exact h2
  · rw [World.frozen?_setCell]
    have e1 : w'.frozen? ⟨X, 0, none⟩ = w1.frozen? ⟨X, 0, none⟩ := World.frozen?_of_block (hg.by_.block X (by omega) (fun e => hvX X hX e.symm))
    have e2 : w1.frozen? ⟨X, 0, none⟩ = W.frozen? ⟨X, 0, none⟩ := World.frozen?_of_block (ha.block X (by omega) (by simp))
    exact e1.trans (e2.trans h.fx)
  · intro y hy
    rcases List.mem_append.1 hy with hy | hy
    · exact okk y (h.ok y hy)
    · simp at hy; subst hy; exact okk y hx
  · have b1 : Below w0.heap.size w0 w1 := by rw [← hw1]; exact h.bel.alloc h.bel.size _
    exact (b1.grown hg.by_ b1.size (fun k e => by have := hvB k e; omega)).setCell hw0 _

theorem items_elem : ElemN Try.prog 37 28 (.agg #[.int .i64 0, .slice none 0 0]) 2 32 := ⟨by kernel_rfl, by kernel_rfl, rfl, by decide⟩
theorem built_news (W : World) (v0 v1 : Value) (T : TypeId) : ∀ j u, [v0, v1][j]? = some u → (W.alloc (.cells #[v0, v1] T)).cell? ((⟨W.heap.size, 0, none⟩ : Addr).add j) = some u := by
  intro j u hj
  rw [add_none, Nat.zero_add]
  have h := Two.of_block (t := T) (_root_.Go.heap_alloc_new W (.cells #[v0, v1] T))
  match j, hj with
  | 0, hj => simp at hj; subst hj; exact h.c0
  | 1, hj => simp at hj; subst hj; exact h.c1
  | j + 2, hj => simp at hj
theorem Two.others {W W' : World} {X : Nat} {v0 v1 : Value} {row : Option Nat} (h : Two W X v0 v1) (hg : W.grownBy W' row) (hr : ∀ r, row = some r → ∃ o : Obj, W.heap[r]? = some o ∧ o.isCells = false) : Two W' X v0 v1 :=
  ⟨cell_kept h.c0 hg hr, cell_kept h.c1 hg hr, frozen_kept' h.f0 h.c0 hg hr, frozen_kept' h.f1 h.c1 hg hr⟩

/-- a cell that may be written -/
structure One1 (w : World) (b : Nat) (v : Value) : Prop where
  c : w.cell? ⟨b, 0, none⟩ = some v
  f : w.frozen? ⟨b, 0, none⟩ = false
theorem One1.below {w w' : World} {b : Nat} {v : Value} (h : One1 w b v) (hb : Below w.heap.size w w') : One1 w' b v := ⟨cell_keep h.c hb, (frozen_keep h.c hb).trans h.f⟩
theorem One1.new (w : World) (v : Value) (T : TypeId) : One1 (w.alloc (.cells #[v] T)) w.heap.size v := ⟨by simp, by simp⟩

/-- a shape that has been boxed, and behind it two results -/
theorem boxed_two (w : World) (L S : Int) (P : Bool) (B O : Int) (v4 v5 : Value) (t t4 t5 : TypeId) :
    ∃ W, ((w.alloc (.cells #[.int .i64 L, .int .i64 S, .bool P, .int .i64 B, .int .i64 O] t)).alloc (.cells #[v4] t4)).alloc (.cells #[v5] t5) = W ∧ Below w.heap.size w W ∧ W.heap.size = w.heap.size + 3 ∧ ShAt W w.heap.size L S P B O ∧ One1 W (w.heap.size + 1) v4 ∧ One1 W (w.heap.size + 1 + 1) v5 := by
  obtain ⟨W1, hW1⟩ : ∃ W1, w.alloc (.cells #[.int .i64 L, .int .i64 S, .bool P, .int .i64 B, .int .i64 O] t) = W1 := ⟨_, rfl⟩
  have b1 : Below w.heap.size w W1 := by rw [← hW1]; exact below_alloc _ _
  have s1 : W1.heap.size = w.heap.size + 1 := by rw [← hW1]; simp
  have h1 : ShAt W1 w.heap.size L S P B O := by rw [← hW1]; exact ShAt.of_block (t := t) (_root_.Go.heap_alloc_new w _)
  obtain ⟨W2, hW2⟩ : ∃ W2, W1.alloc (.cells #[v4] t4) = W2 := ⟨_, rfl⟩
  have b2 : Below W1.heap.size W1 W2 := by rw [← hW2]; exact below_alloc _ _
  have s2 : W2.heap.size = W1.heap.size + 1 := by rw [← hW2]; simp
  have h2 : One1 W2 W1.heap.size v4 := by rw [← hW2]; exact One1.new _ _ _
  obtain ⟨W3, hW3⟩ : ∃ W3, W2.alloc (.cells #[v5] t5) = W3 := ⟨_, rfl⟩
  have b3 : Below W2.heap.size W2 W3 := by rw [← hW3]; exact below_alloc _ _
  have s3 : W3.heap.size = W2.heap.size + 1 := by rw [← hW3]; simp
  have h3 : One1 W3 W2.heap.size v5 := by rw [← hW3]; exact One1.new _ _ _
  rw [hW1, hW2, hW3]
  refine ⟨W3, rfl, below_more (below_more b1 b2) b3, by omega, (h1.below b2).below b3, ?_, ?_⟩
  · have := h2.below b3; rwa [s1] at this
  · rwa [s2, s1] at h3

theorem own_lt {W : World} {e : TypeId} {size n : Nat} {v : Value} {xs : List Value} (h : W.ownsRow 0 e size v n xs) {b : Nat} (hb : v.ownBlock = some b) : b < W.heap.size := by
  rcases h.2 with ⟨rfl, _⟩ | ⟨g, cap, cur, rfl, _, hg, _⟩
  · cases hb
  · cases hb; exact lt_of_block hg
theorem own_shape {W : World} {e : TypeId} {size n : Nat} {v : Value} {xs : List Value} (h : W.ownsRow 0 e size v n xs) : ∃ a c, v = .slice a n c := by
  rcases h.2 with ⟨rfl, rfl⟩ | ⟨g, cap, cur, rfl, _⟩
  · exact ⟨_, _, rfl⟩
  · exact ⟨_, _, rfl⟩
theorem set_two {W : World} {R4 R5 : Nat} {u4 u5 : Value} (h4 : W.cell? ⟨R4, 0, none⟩ = some u4) (h5 : W.cell? ⟨R5, 0, none⟩ = some u5) (hne : R4 ≠ R5) (v4 v5 : Value) :
    ((W.setCell ⟨R4, 0, none⟩ v4).setCell ⟨R5, 0, none⟩ v5).cell? ⟨R4, 0, none⟩ = some v4 ∧ ((W.setCell ⟨R4, 0, none⟩ v4).setCell ⟨R5, 0, none⟩ v5).cell? ⟨R5, 0, none⟩ = some v5 := by
  have ne1 : (⟨R4, 0, none⟩ : Addr) ≠ ⟨R5, 0, none⟩ := by intro e; injection e with e1; exact hne e1
  have ne2 : (⟨R5, 0, none⟩ : Addr) ≠ ⟨R4, 0, none⟩ := fun e => ne1 e.symm
  exact ⟨(World.cell?_setCell_other _ _ _ _ ne2).trans (World.cell?_setCell_same _ _ _ h4), World.cell?_setCell_same _ _ _ ((World.cell?_setCell_other _ _ _ _ ne1).trans h5)⟩
theorem by_set (W : World) (R : Nat) (v : Value) : W.grownBy (W.setCell ⟨R, 0, none⟩ v) (some R) := ⟨rfl, rfl, rfl, by simp [World.setCell], fun k hk hne => Below.heap_setCell _ _ _ _ (fun e => hne (by rw [e]))⟩

theorem CutAt.done {T : TypeId} {w0 : World} {B1 X R4 R5 D : Nat} {pre : List Thing} {W : World} (h : CutAt T w0 B1 X R4 R5 pre W) (h4 : R4 < B1) (h5 : R5 < B1) (h45 : R4 ≠ R5) (h40 : w0.heap.size ≤ R4) (h50 : w0.heap.size ≤ R5) (hD : B1 ≤ D) (hK : W.heap[D]? = some (.deferred (some [])))
    {va : Option Addr} {vc : Nat} (hown : W.ownsRow 0 T 2 (.slice va pre.length vc) pre.length (thingCells pre)) (hvB : ∀ g, (Value.slice va pre.length vc).ownBlock = some g → B1 ≤ g) :
    ∃ W1, ((W.setCell ⟨R4, 0, none⟩ (.slice va pre.length vc)).setCell ⟨R5, 0, none⟩ (.int .i64 0)) = W1 ∧ W1.heap[D]? = some (.deferred (some [])) ∧
      (W1.putObj D (.deferred none)).cell? ⟨R4, 0, none⟩ = some (.slice va pre.length vc) ∧ (W1.putObj D (.deferred none)).cell? ⟨R5, 0, none⟩ = some (.int .i64 0) ∧
      pre.length ≤ vc ∧ vc ≤ 9223372036854775807 ∧ Items (W1.putObj D (.deferred none)) va pre ∧ (∀ x ∈ pre, Thing.ok w0.heap.size x (W1.putObj D (.deferred none))) ∧ (∀ q : Addr, va = some q → w0.heap.size ≤ q.block ∧ q.block < (W1.putObj D (.deferred none)).heap.size) ∧ Below w0.heap.size w0 (W1.putObj D (.deferred none)) := by
  have hvne : ∀ j, j < B1 → (Value.slice va pre.length vc).ownBlock ≠ some j := fun j hj e => by have := hvB j e; omega
  obtain ⟨W1, hW1⟩ : ∃ W1, ((W.setCell ⟨R4, 0, none⟩ (.slice va pre.length vc)).setCell ⟨R5, 0, none⟩ (.int .i64 0)) = W1 := ⟨_, rfl⟩
  have hset := set_two h.c4 h.c5 h45 (.slice va pre.length vc) (.int .i64 0)
  have hown1 := (hown.kept (by_set W R4 (.slice va pre.length vc)) (.inr (hvne _ h4))).kept (by_set _ R5 (.int .i64 0)) (.inr (hvne _ h5))
  have far : ∀ x ∈ pre, ∀ q : Addr, x.a = some q → B1 ≤ q.block := fun x hx q hq => by
    rcases (h.ok x hx).far with h0 | ⟨k, h0, hk⟩
    · rw [h0] at hq; cases hq
    · rw [h0] at hq; cases hq; exact hk
  have hok1 : ∀ x ∈ pre, Thing.ok B1 x W1 := fun x hx => by
    rw [← hW1]
    exact ((h.ok x hx).turned (by_set W R4 _) (fun q hq e => by have := far x hx q hq; simp at e; omega)).turned (by_set _ R5 _) (fun q hq e => by have := far x hx q hq; simp at e; omega)
  have hbel1 : Below w0.heap.size w0 W1 := by rw [← hW1]; exact (h.bel.setCell h40 _).setCell h50 _
  have hK1 : W1.heap[D]? = some (.deferred (some [])) := by
    rw [← hW1]; exact (Below.heap_setCell _ _ _ _ (by simp; omega)).trans ((Below.heap_setCell _ _ _ _ (by simp; omega)).trans hK)
  rw [hW1] at hset hown1
  have hgp := grownBy_putObj' W1 D (.deferred none)
  have hr : ∀ r, some D = some r → ∃ o : Obj, W1.heap[r]? = some o ∧ o.isCells = false := fun r e => by cases e; exact ⟨_, hK1, rfl⟩
  have hown2 := hown1.kept hgp (own_not_other hown1 hr)
  obtain ⟨a', c', e', h1, h2, h3, h4'⟩ := own_items hown2
  simp at e'
  obtain ⟨rfl, rfl⟩ := e'
  refine ⟨W1, hW1, hK1, cell_kept hset.1 hgp hr, cell_kept hset.2 hgp hr, h1, h2, h3, fun x hx => ?_, fun q hq => ?_, hbel1.grown hgp hbel1.size (fun k e => by cases e; omega)⟩
  · have := (hok1 x hx).others hgp hr
    exact ⟨this.cap, this.max, this.ints, this.far.imp id fun ⟨k, e, hk⟩ => ⟨k, e, by omega⟩⟩
  · have := hvB q.block (by rw [hq]; rfl)
    exact ⟨by omega, own_lt hown2 (by rw [hq]; rfl)⟩

theorem cut_may_not (w : World) (L S : Int) (P : Bool) (B O : Int) (h : ¬ MayS L S B O) (v : Value) :
    Calls Try.prog 10 #[.agg #[.int .i64 L, .int .i64 S, .bool P, .int .i64 B, .int .i64 O], v] w (CutPost w (.error 10001)) := by
  obtain ⟨W, hW, hbW, hsz, hsh, h4, h5⟩ := boxed_two w L S P B O (.slice none 0 0) (.int .i64 0) 24 37 22
  have HW := hid hW
  clear hW
  refine (callsIn_wide (n := 0)).1 (callsIn_of_wp_marks Try.func10 rfl (by simp [Fence.wide]) ?_)
  refine wpIn_wide.2 ?_
  simp only [Try.ntmps10, List.size_toArray, List.length_cons, List.length_nil, Nat.reduceAdd, Nat.reduceSub, Array.replicate_succ, Array.replicate_zero, List.push_toArray, List.append_toArray, List.nil_append, List.cons_append]
  go_wp2_with fail
  rw [HW.out]
  refine (mayBe_no _ _ _ _ _ _ h).mono ?_
  rintro e w1 ⟨rfl, hb1⟩
  obtain ⟨c4, f4⟩ := h4.below hb1
  obtain ⟨c5, f5⟩ := h5.below hb1
  have hB := hid (below_more hbW hb1)
  go_wp2
  refine ⟨.tuple #[.slice none 0 0, .int .i64 10001], ?_, rfl, ?_⟩
  · simp [results, Try.f10, go_sem, *]
  · exact (hB.out.setCell (by simp) _).setCell (by simp; omega) _

set_option maxRecDepth 100000 in
set_option maxHeartbeats 2000000 in
theorem cut_any (w : World) (L S : Nat) (P : Bool) (B O : Int) (h : MayS L S B O) (b : List Int) (hlen : b.length ≤ 1000000000) (a : Option Addr) (c : Nat) (hH : Holds w a c b) :
    Calls Try.prog 10 #[.agg #[.int .i64 L, .int .i64 S, .bool P, .int .i64 B, .int .i64 O], .slice a b.length c] w (CutPost w (cutL L S P B O b)) := by
  obtain ⟨W, hW, hbW, hsz, hsh, h4, h5⟩ := boxed_two w L S P B O (.slice none 0 0) (.int .i64 0) 24 37 22
  have HW := hid hW
  clear hW
  refine (callsIn_wide (n := 0)).1 (callsIn_of_wp_marks Try.func10 rfl (by simp [Fence.wide]) ?_)
  refine wpIn_wide.2 ?_
  simp only [Try.ntmps10, List.size_toArray, List.length_cons, List.length_nil, Nat.reduceAdd, Nat.reduceSub, Array.replicate_succ, Array.replicate_zero, List.push_toArray, List.append_toArray, List.nil_append, List.cons_append]
  go_wp2_with fail
  rw [HW.out]
  refine (mayBe_yes _ _ _ _ _ _ h).mono ?_
  rintro e w1 ⟨rfl, hb1⟩
  have hB := below_more hbW hb1
  have hsh1 := hsh.below hb1
  obtain ⟨d0, d1, d2, d3, d4⟩ := hsh.below hb1
  have h41 := h4.below hb1
  have h51 := h5.below hb1
  have hs1 : w.heap.size + 3 ≤ w1.heap.size := by have := hb1.size; omega
  have hn0 : ¬ w.heap.size = w1.heap.size := by omega
  have hl0 : w.heap.size < w1.heap.size := by omega
  have HTH := fun W (hW : Below w1.heap.size w1 W) => things_any W L S P B O b a c (hH.below (hB.trans (hW.mono hB.size)))
  have HT := hid HTH
  have HH := hid hH
  clear hsh h4 h5 HTH hH
  go_wp2_with fail
  refine (HT.out _ (below_alloc _ _)).mono ?_
  rintro e w2 ⟨p, s, rfl, hIt, hb2, hp2, hs2⟩
  have HI := hid hIt
  clear hIt
  go_wp2_with fail
  have hB1 : w1.heap.size + 1 ≤ w2.heap.size := by have := hb2.size; rw [World.size_alloc] at this; exact this
  have hB2 : Below w.heap.size w w2 := below_more hB (below_more (below_alloc _ _) hb2)
  have h42 := (h41.below (below_alloc _ _)).below hb2
  have h52 := (h51.below (below_alloc _ _)).below hb2
  have h62 := (One1.new w1 (.slice none 0 0) 37).below hb2
  have hKR : ∀ k, Reads p s a b k → k < w2.heap.size ∧ k ≠ w1.heap.size := by
    intro k hk
    rw [World.size_alloc] at hp2 hs2
    rcases hk with rfl | rfl | ⟨hb0, q, hq, rfl⟩
    · exact ⟨HI.out.hp, by omega⟩
    · exact ⟨HI.out.hs, by omega⟩
    · have := HH.out.ints.lt hb0 hq; omega
  have HKR := hid hKR
  clear hKR h41 h51 d0 d1 d2 d3 d4
  refine wp_range (gf := 35) rfl (fun args w => by simp [callFunc, Try.func35, Try.f35, mark]) (things_yields w2 L S P B O h b a c p s HI.out w2.heap.size (Nat.le_refl _)) (fun k hk => (HKR.out k hk).1) (fun _ => rfl) (fun _ => rfl)
    (CutAt 28 w w2.heap.size w1.heap.size (w.heap.size + 1) (w.heap.size + 1 + 1))
    (fun _ q W => W.cell? ⟨w.heap.size + 1, 0, none⟩ = some (.slice none 0 0) ∧ W.cell? ⟨w.heap.size + 1 + 1, 0, none⟩ = some (.int .i64 q) ∧ Below w.heap.size w W)
    (CutAt.own hB2.size) (fun x W W' row hx hg hr => hx.others hg (fun r e => (hr r e).2))
    (fun x W W' row hx hg hr => ⟨cell_kept hx.1 hg (fun r e => (hr r e).2), cell_kept hx.2.1 hg (fun r e => (hr r e).2), ownFrom_below (Nat.le_refl _) hB2.size () W W' row hx.2.2 hg hr⟩)
    ⟨⟨.slice none 0 0, h62.c, World.ownsRow_nil _ _ _ _, (fun g e => by cases e), fun _ => rfl⟩, h62.f, h42.c, h42.f, h52.c, h52.f, fun _ hx => by simp at hx, hB2⟩
    (fun x a' W => ∃ X7, a' = { tmps := #[.agg #[.int .i64 L, .int .i64 S, .bool P, .int .i64 B, .int .i64 O], .slice a b.length c, .pointer (some ⟨w.heap.size, 0, none⟩), undef, .pointer (some ⟨w.heap.size + 1, 0, none⟩), .pointer (some ⟨w.heap.size + 1 + 1, 0, none⟩), .pointer (some ⟨w1.heap.size, 0, none⟩), .pointer (some ⟨X7, 0, none⟩), .int .i64 0,
      .agg #[.int .i64 L, .int .i64 S, .bool P, .int .i64 B, .int .i64 O], .bool true, .bool false, .agg #[.int .i64 L, .int .i64 S, .bool P, .int .i64 B, .int .i64 O], .slice a b.length c, .func (.func 35) #[] #[.pointer (some ⟨p, 0, none⟩), .pointer (some ⟨s, 0, none⟩)], x.v, .int .i64 0, undef, undef, undef, undef, undef, undef, undef, undef], defers := [] } ∧ Two W X7 (.int .i64 x.t) (.slice x.a x.x.length x.c))
    (fun x a' _ W W' row hx hg hr => by obtain ⟨X7, e, h2⟩ := hx; exact ⟨X7, e, h2.others hg (fun r e => (hr r e).2)⟩)
    (fun q a' W => ∃ X7, a' = { tmps := #[.agg #[.int .i64 L, .int .i64 S, .bool P, .int .i64 B, .int .i64 O], .slice a b.length c, .pointer (some ⟨w.heap.size, 0, none⟩), undef, .pointer (some ⟨w.heap.size + 1, 0, none⟩), .pointer (some ⟨w.heap.size + 1 + 1, 0, none⟩), .pointer (some ⟨w1.heap.size, 0, none⟩), .pointer (some ⟨X7, 0, none⟩), .int .i64 q,
      .agg #[.int .i64 L, .int .i64 S, .bool P, .int .i64 B, .int .i64 O], .bool true, .bool false, .agg #[.int .i64 L, .int .i64 S, .bool P, .int .i64 B, .int .i64 O], .slice a b.length c, .func (.func 35) #[] #[.pointer (some ⟨p, 0, none⟩), .pointer (some ⟨s, 0, none⟩)], .agg #[.int .i64 0, .slice none 0 0], .int .i64 q, undef, undef, undef, undef, undef, undef, undef, undef], defers := [] })
    (fun x a' _ W W' row hx hg hr => hx) ?asg ?asb ?good ?bad ?done ?stop
  case asg =>
    rintro l ⟨xt, xx, xa, xc⟩ W C hC
    dsimp only [Thing.v] at hC ⊢
    gi_wp2
    exact hC _ _ (below_alloc _ _) ⟨_, rfl, two_new _ _ _ _⟩
  case asb =>
    intro l x W C hC
    gi_wp2
    exact hC _ _ (below_alloc _ _) ⟨_, rfl⟩
  case good =>
    rintro l pre ⟨xt, xx, xa, xc⟩ a' W hWs hlen2 hI hx ⟨X7, rfl, h2⟩
    dsimp only [Thing.v] at h2 ⊢
    obtain ⟨v, hv, hown, hvB, hvn⟩ := hI.v
    obtain ⟨va, vc, rfl⟩ := own_shape hown
    obtain ⟨x0, x1, y0, y1⟩ := h2
    have hown1 := hown.kept (by_none_alloc W (.cells #[.int .i64 xt, .slice xa xx.length xc] 28)) (by cases (Value.slice va pre.length vc).ownBlock <;> simp)
    have hXW : w1.heap.size < w2.heap.size := by omega
    have hfx := hI.fx
    have HX := hid (fun w' (hb : W.grownBy w' (Value.slice va pre.length vc).ownBlock) => And.intro (hb.cell (a := ⟨w1.heap.size, 0, none⟩) hv (fun e => by have := hvB w1.heap.size e.symm; omega)) ((World.frozen?_of_block (a := ⟨w1.heap.size, 0, none⟩) (hb.block w1.heap.size (by omega) (fun e => by have := hvB w1.heap.size e.symm; omega))).trans hfx))
    have HI3 := hid hI
    have HO := hid (And.intro hown (And.intro hvB hvn))
    have HXX := hid hx
    clear hI hvB hvn hown hx
    gi_wp2_with (gi_at_builtin; refine wpIn_app_many rfl (.tmp 20) (.tmp 22) rfl items_elem rfl hown1 rfl [.int .i64 xt, .slice xa xx.length xc] rfl (built_news _ _ _ _) (by simp [Value.oneCell']) (by omega) (by omega) ?_; intro v' w' hg; obtain ⟨cX, fX⟩ := HX.out w' (grownBy_trans (World.grownBy_alloc _ _ _) hg.by_ (.inl rfl)); obtain ⟨va', vc', rfl⟩ := own_shape hg.own; have HG := hid hg; clear hg)
    exact CutAt.step HI3.out hXW (by omega) (by omega) (by omega) (by omega) (by omega) hWs HXX.out hv HO.out.1 HO.out.2.1 HO.out.2.2 rfl HG.out (Reads p s a b) HKR.out
  case bad =>
    rintro l pre q a' W hWs hq hI ⟨X7, rfl⟩
    have hq0 : (q != 0) = true := by simpa using hq
    have c4 := hI.c4
    have f4 := hI.f4
    have c5 := hI.c5
    have f5 := hI.f5
    have HI3 := hid hI
    clear hI hq
    gi_wp2
    exact ⟨((KeepsOthers.setCell _ _ _).trans (KeepsOthers.setCell _ _ _)).from _, (set_two c4 c5 (by omega) _ _).1, (set_two c4 c5 (by omega) _ _).2, (HI3.out.bel.setCell (by simp) _).setCell (by simp; omega) _⟩
  case done =>
    intro D xs W hD hxs hI hK
    obtain ⟨v, hv, hown, hvB, hvn⟩ := hI.v
    have c4 := hI.c4
    have f4 := hI.f4
    have c5 := hI.c5
    have f5 := hI.f5
    obtain ⟨va, vc, rfl⟩ := own_shape hown
    obtain ⟨W1, hW1, hD1, r4, r5, e1, e2, e3, e4, e5, e6⟩ := hI.done (by omega) (by omega) (by omega) (by omega) (by omega) hD hK hown hvB
    have HW1 := hid hW1
    have HE := hid (And.intro e1 (And.intro e2 (And.intro e3 (And.intro e4 (And.intro e5 e6)))))
    clear hI hown hvB hvn e1 e2 e3 e4 e5 e6 hW1
    have hxs' : cutL L S P B O b = .ok (xs.map Thing.val) := hxs
    have HXS := hid hxs'
    clear hxs hxs'
    go_wp2
    rw [HW1.out]
    refine ⟨by simp, .inl ⟨_, _, rfl, run_takeDeferred hD1, ?_⟩⟩
    refine ⟨.tuple #[.slice va xs.length vc, .int .i64 0], ?_, ?_⟩
    · simp [results, Try.f10, go_sem, r4, r5]
    · rw [HXS.out]
      exact ⟨xs, va, vc, rfl, rfl, HE.out⟩
  case stop =>
    rintro D pre q W hD hcut ⟨c4, c5, hbW⟩ hK
    rw [hcut]
    clear hcut
    have hgp := grownBy_putObj' W D (.deferred none)
    have hr : ∀ r, some D = some r → ∃ o : Obj, W.heap[r]? = some o ∧ o.isCells = false := fun r e => by cases e; exact ⟨_, hK, rfl⟩
    have r4 := cell_kept c4 hgp hr
    have r5 := cell_kept c5 hgp hr
    have HR := hid hr
    clear hr
    gi_wp2
    refine ⟨by simp, .inl ⟨_, _, rfl, run_takeDeferred hK, ?_⟩⟩
    refine ⟨.tuple #[.slice none 0 0, .int .i64 q], ?_, rfl, hbW.grown hgp hbW.size (fun k e => by cases e; have := hB2.size; omega)⟩
    simp [results, Try.f10, go_sem, r4, r5]
end Go.Proofs.Ytfdkkcndadjcaaa
