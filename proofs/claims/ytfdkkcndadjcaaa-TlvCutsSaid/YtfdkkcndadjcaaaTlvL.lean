/- Package tlv: Join. -/
import Derived.Test.YtfdkkcndadjcaaaTlvK
namespace Go.Proofs.Ytfdkkcndadjcaaa
open Go.RowKit
attribute [local go_sem] Oper.semAt_some

theorem written_any (w : World) (L S : Nat) (P : Bool) (B O : Int) (l : List Thing) (a : Option Addr) (c : Nat) (hit : Items w a l) (hb : ∀ h ∈ l, Ints .u8 w h.a h.x) (Bin : Nat) (ha : l ≠ [] → ∀ q : Addr, a = some q → q.block < Bin) (hBin : Bin ≤ w.heap.size) :
    Calls Try.prog 26 #[.agg #[.int .i64 L, .int .i64 S, .bool P, .int .i64 B, .int .i64 O], .slice a l.length c] w fun e w' => ∃ p s, e = .returned (.func (.func 36) #[] #[.pointer (some ⟨p, 0, none⟩), .pointer (some ⟨s, 0, none⟩)]) ∧
      w'.cell? ⟨p, 0, none⟩ = some (.slice a l.length c) ∧ WIter L S P B O l a s Bin 0 [] w' ∧ Below w.heap.size w w' ∧ w.heap.size ≤ p ∧ p < w'.heap.size ∧ w.heap.size ≤ s := by
  have H1 := hid hit
  have H2 := hid hb
  clear hit hb
  go_enter Try.func26, Try.ntmps26
  go_wp2
  go_ret
  have hb0 := below_alloc w (.cells #[.int .i64 L, .int .i64 S, .bool P, .int .i64 B, .int .i64 O] 24)
  have hb : Below w.heap.size w ((w.alloc (.cells #[.int .i64 L, .int .i64 S, .bool P, .int .i64 B, .int .i64 O] 24)).alloc (.cells #[.slice a l.length c] 37)) := hb0.alloc (by simp) _
  refine ⟨w.heap.size + 1, w.heap.size, rfl, by simp, ⟨Nat.zero_le _, Nat.zero_le _, ?_, (ShAt.of_block (t := 24) (_root_.Go.heap_alloc_new w _)).below (below_alloc _ _), H1.out.below hb, fun x hx => (H2.out x hx).below hb, by rw [World.size_alloc, World.size_alloc]; omega, ha, Nat.le_trans hBin hb.size⟩, hb, by omega, by rw [World.size_alloc, World.size_alloc]; omega, Nat.le_refl _⟩
  show joinL L S P (l.map Thing.val) = afterB [] (joinL L S P ((l.drop 0).map Thing.val))
  rw [afterB_nil, List.drop_zero]

theorem own_some {W : World} {e : TypeId} {size n k c : Nat} {a : Option Addr} {xs : List Value} (h : W.ownsRow 0 e size (.slice a n c) k xs) (hc : 0 < c) : ∃ b off, a = some ⟨b, off, none⟩ := by
  rcases h.2 with ⟨e, _⟩ | ⟨g, cap, cur, e, _⟩
  · cases e; omega
  · cases e; exact ⟨_, _, rfl⟩

/-- what Join answers -/
def JoinPost (w : World) (r : Except Int (List (List Int))) (e : Ending) (w' : World) : Prop :=
  match r with
  | .error q => e = .returned (.tuple #[.slice none 0 0, .int .i64 q]) ∧ Below w.heap.size w w'
  | .ok bs => ∃ (a : Option Addr) (c : Nat), e = .returned (.tuple #[.slice a bs.flatten.length c, .int .i64 0]) ∧ bs.flatten.length ≤ c ∧ c ≤ 9223372036854775807 ∧ Ints .u8 w' a bs.flatten ∧ (0 < c → ∃ b off, a = some ⟨b, off, none⟩) ∧ (∀ q : Addr, a = some q → w.heap.size ≤ q.block ∧ q.block < w'.heap.size) ∧ Below w.heap.size w w'

/-- the bytes of pieces -/
def allOf (pre : List Chunk) : List Int := (pre.map Chunk.b).flatten
theorem allOf_snoc (pre : List Chunk) (x : Chunk) : allOf (pre ++ [x]) = allOf pre ++ x.b := by simp [allOf]

/-- between two rounds of a loop that joins pieces in the cell X; R4, R5: the results' cells -/
structure JoinAt (w0 : World) (B1 X R4 R5 : Nat) (pre : List Chunk) (W : World) : Prop where
  v : ∃ v, W.cell? ⟨X, 0, none⟩ = some v ∧ W.ownsRow 0 5 1 v ((allOf pre).map (Value.int .u8)).length ((allOf pre).map (Value.int .u8)) ∧ (∀ g, v.ownBlock = some g → B1 ≤ g)
  len : (allOf pre).length ≤ pre.length * 65600
  fx : W.frozen? ⟨X, 0, none⟩ = false
  c4 : W.cell? ⟨R4, 0, none⟩ = some (.slice none 0 0)
  f4 : W.frozen? ⟨R4, 0, none⟩ = false
  c5 : W.cell? ⟨R5, 0, none⟩ = some (.int .i64 0)
  f5 : W.frozen? ⟨R5, 0, none⟩ = false
  bel : Below w0.heap.size w0 W

theorem JoinAt.own {w0 : World} {B1 X R4 R5 : Nat} (hB : w0.heap.size ≤ B1) : OwnFrom B1 (JoinAt w0 B1 X R4 R5) := by
  intro pre W W' row h hg hr
  have hr2 : ∀ r, row = some r → ∃ o : Obj, W.heap[r]? = some o ∧ o.isCells = false := fun r e => (hr r e).2
  obtain ⟨v, h1, h2, h3⟩ := h.v
  exact ⟨⟨v, cell_kept h1 hg hr2, h2.kept hg (own_not_other h2 hr2), h3⟩, h.len, (frozen_kept' h.fx h1 hg hr2), cell_kept h.c4 hg hr2, frozen_kept' h.f4 h.c4 hg hr2, cell_kept h.c5 hg hr2, frozen_kept' h.f5 h.c5 hg hr2,
    ownFrom_below (Nat.le_refl _) hB () W W' row h.bel hg hr⟩
theorem Chunk.ok.others {B : Nat} {h : Chunk} {W W' : World} {row : Option Nat} (k : h.ok B W) (hg : W.grownBy W' row) (hr : ∀ r, row = some r → ∃ o : Obj, W.heap[r]? = some o ∧ o.isCells = false) : h.ok B W' := ⟨k.max, k.ints.others hg hr, k.far⟩

theorem JoinAt.step {w0 : World} {B1 X R4 R5 : Nat} {pre : List Chunk} {W : World} (h : JoinAt w0 B1 X R4 R5 pre W) (hX : X < B1) (h4 : R4 < B1) (h5 : R5 < B1) (hX4 : X ≠ R4) (hX5 : X ≠ R5) (hw0 : w0.heap.size ≤ X) (hB1 : B1 ≤ W.heap.size)
    {x : Chunk} (hx : x.b.length ≤ 65600) {v v' : Value} (hv : W.cell? ⟨X, 0, none⟩ = some v) (hown : W.ownsRow 0 5 1 v ((allOf pre).map (Value.int .u8)).length ((allOf pre).map (Value.int .u8))) (hvB : ∀ g, v.ownBlock = some g → B1 ≤ g)
    {w' : World} (hg : Grew 5 W w' v v' ((allOf (pre ++ [x])).map (Value.int .u8))) (K : Nat → Prop) (hK : ∀ k, K k → k < B1 ∧ k ≠ X) :
    KeepsFrom B1 W (w'.setCell ⟨X, 0, none⟩ v') ∧ (∀ k, K k → k < W.heap.size → (w'.setCell ⟨X, 0, none⟩ v').heap[k]? = W.heap[k]?) ∧ JoinAt w0 B1 X R4 R5 (pre ++ [x]) (w'.setCell ⟨X, 0, none⟩ v') := by
  have hvX : ∀ j, j < B1 → v.ownBlock ≠ some j := fun j hj e => by have := hvB j e; omega
  have hv'B := hg.base hB1 hvB
  have hv'X : ∀ j, j < B1 → v'.ownBlock ≠ some j := fun j hj e => by have := hv'B j e; omega
  have old : ∀ j, j < B1 → j ≠ X → (w'.setCell ⟨X, 0, none⟩ v').heap[j]? = W.heap[j]? := fun j hj hne =>
    (Below.heap_setCell _ _ _ _ hne).trans (hg.by_.block j (by omega) (fun e => hvX j hj e.symm))
  have cellX : w'.cell? ⟨X, 0, none⟩ = some v := hg.by_.cell hv (fun e => hvX _ hX e.symm)
  have keep : ∀ {p : Addr} {u : Value}, p.block < B1 → p.block ≠ X → W.cell? p = some u → (w'.setCell ⟨X, 0, none⟩ v').cell? p = some u := fun {p u} hp hne hu => (World.cell?_of_block (old p.block hp hne)).trans hu
  have keepf : ∀ {p : Addr}, p.block < B1 → p.block ≠ X → W.frozen? p = false → (w'.setCell ⟨X, 0, none⟩ v').frozen? p = false := fun {p} hp hne hu => (World.frozen?_of_block (old p.block hp hne)).trans hu
  refine ⟨?_, fun k hk hkw => old k (hK k hk).1 (hK k hk).2, ⟨v', World.cell?_setCell_same _ _ _ cellX, hg.own.kept (by_set w' X v') (.inr (hv'X X hX)), hv'B⟩, ?_, ?_, keep h4 (Ne.symm hX4) h.c4, keepf h4 (Ne.symm hX4) h.f4, keep h5 (Ne.symm hX5) h.c5, keepf h5 (Ne.symm hX5) h.f5, ?_⟩
  · refine ((KeepsOthers.of_grownBy hg.by_ (fun j o e ho => ?_)).trans (KeepsOthers.setCell _ _ _)).from _
    rcases hown.2 with ⟨rfl, _⟩ | ⟨g, cap, cur, rfl, _, hgc, _⟩
    · cases e
    · cases e; rw [hgc] at ho; cases ho; rfl
  · have := h.len
    rw [allOf_snoc, List.length_append, List.length_append]
    simp
    omega
  · rw [World.frozen?_setCell]
    exact (World.frozen?_of_block (a := ⟨X, 0, none⟩) (hg.by_.block X (by omega) (fun e => hvX X hX e.symm))).trans h.fx
  · exact (h.bel.grown hg.by_ h.bel.size (fun k e => by have := hvB k e; omega)).setCell hw0 _

theorem JoinAt.done {w0 : World} {B1 X R4 R5 D : Nat} {pre : List Chunk} {W : World} (h : JoinAt w0 B1 X R4 R5 pre W) (h4 : R4 < B1) (h5 : R5 < B1) (h45 : R4 ≠ R5) (h40 : w0.heap.size ≤ R4) (h50 : w0.heap.size ≤ R5) (hD : B1 ≤ D) (hK : W.heap[D]? = some (.deferred (some [])))
    {va : Option Addr} {vc : Nat} (hown : W.ownsRow 0 5 1 (.slice va (allOf pre).length vc) ((allOf pre).map (Value.int .u8)).length ((allOf pre).map (Value.int .u8))) (hvB : ∀ g, (Value.slice va (allOf pre).length vc).ownBlock = some g → B1 ≤ g) :
    ∃ W1, ((W.setCell ⟨R4, 0, none⟩ (.slice va (allOf pre).length vc)).setCell ⟨R5, 0, none⟩ (.int .i64 0)) = W1 ∧ W1.heap[D]? = some (.deferred (some [])) ∧
      (W1.putObj D (.deferred none)).cell? ⟨R4, 0, none⟩ = some (.slice va (allOf pre).length vc) ∧ (W1.putObj D (.deferred none)).cell? ⟨R5, 0, none⟩ = some (.int .i64 0) ∧
      (allOf pre).length ≤ vc ∧ vc ≤ 9223372036854775807 ∧ Ints .u8 (W1.putObj D (.deferred none)) va (allOf pre) ∧ (0 < vc → ∃ b off, va = some ⟨b, off, none⟩) ∧ (∀ q : Addr, va = some q → w0.heap.size ≤ q.block ∧ q.block < (W1.putObj D (.deferred none)).heap.size) ∧ Below w0.heap.size w0 (W1.putObj D (.deferred none)) := by
  have hvne : ∀ j, j < B1 → (Value.slice va (allOf pre).length vc).ownBlock ≠ some j := fun j hj e => by have := hvB j e; omega
  obtain ⟨W1, hW1⟩ : ∃ W1, ((W.setCell ⟨R4, 0, none⟩ (.slice va (allOf pre).length vc)).setCell ⟨R5, 0, none⟩ (.int .i64 0)) = W1 := ⟨_, rfl⟩
  have hset := set_two h.c4 h.c5 h45 (.slice va (allOf pre).length vc) (.int .i64 0)
  have hown1 := (hown.kept (by_set W R4 (.slice va (allOf pre).length vc)) (.inr (hvne _ h4))).kept (by_set _ R5 (.int .i64 0)) (.inr (hvne _ h5))
  have hbel1 : Below w0.heap.size w0 W1 := by rw [← hW1]; exact (h.bel.setCell h40 _).setCell h50 _
  have hK1 : W1.heap[D]? = some (.deferred (some [])) := by
    rw [← hW1]; exact (Below.heap_setCell _ _ _ _ (by simp; omega)).trans ((Below.heap_setCell _ _ _ _ (by simp; omega)).trans hK)
  rw [hW1] at hset hown1
  have hgp := grownBy_putObj' W1 D (.deferred none)
  have hr : ∀ r, some D = some r → ∃ o : Obj, W1.heap[r]? = some o ∧ o.isCells = false := fun r e => by cases e; exact ⟨_, hK1, rfl⟩
  have hown2 := hown1.kept hgp (own_not_other hown1 hr)
  obtain ⟨a', c', e', h1, h2, h3⟩ := own_ints hown2
  simp at e'
  obtain ⟨rfl, rfl⟩ := e'
  refine ⟨W1, hW1, hK1, cell_kept hset.1 hgp hr, cell_kept hset.2 hgp hr, h1, by unfold maxLen at h2; omega, h3, own_some hown2, fun q hq => ?_, hbel1.grown hgp hbel1.size (fun k e => by cases e; omega)⟩
  have := hvB q.block (by rw [hq]; rfl)
  exact ⟨by omega, own_lt hown2 (by rw [hq]; rfl)⟩
end Go.Proofs.Ytfdkkcndadjcaaa
