/- A range over a function that hands out values, and at the end perhaps an error at which the loop's body leaves, by whatever jump: the caller's law, where the body is told what holds of a value that comes behind those ahead of it. -/
import Derived.Test.YteaimnlfbbkccaaMrg1
import Derived.RangeFuncNested
import Derived.RangeFuncLeaves
import Derived.OwnWalkIn
import Derived.TacticsInMore
namespace Go.Proofs.Yteaimnlfbbkccaa
open Go.RowKit

/-- The iterator gf over lb, for every body that goes on at a value, keeps the blocks of K, and leaves at an error. Of a value x that comes X x holds. -/
def YieldsT {α : Type} (P : Program) (gf : Nat) (lb : Array Value) (enc : α → Array Value) (bad : Int → Array Value) (X : List α → α → Nat → World → Prop) (K : Nat → Prop) (S : List α → Prop) (Sp : List α → Int → Prop) (N : Nat) (w : World) : Prop :=
  ∀ (l : Nat) (J : List α → World → Prop) (Jx : List α → Int → World → Prop) (W : World), Below w.heap.size w W →
    (∀ pre A B, J pre A → Below A.heap.size A B → J pre B) →
    (∀ pre x W0 W1, J pre W0 → Below W0.heap.size W0 W1 → X pre x W0.heap.size W1 → pre.length < N → YieldAt Fence.wide 0 P l (enc x) W1 fun e W' => e = .returned (.bool true) ∧ J (pre ++ [x]) W' ∧ W1.heap.size ≤ W'.heap.size ∧ ∀ k, K k → k < W1.heap.size → W'.heap[k]? = W1.heap[k]?) →
    (∀ pre q W1, J pre W1 → q ≠ 0 → Sp pre q → YieldAt Fence.wide 0 P l (bad q) W1 fun e W' => e = .returned (.bool false) ∧ Jx pre q W') →
    J [] W → Calls P gf (#[.func (.yield l) #[] #[]] ++ lb) W fun e W' => (∃ v, e = .returned v) ∧ ((∃ xs, S xs ∧ J xs W') ∨ ∃ pre q, Sp pre q ∧ Jx pre q W')

/-- the jump by which a round ends -/
def jumpOf : Exit → Option Code
  | .ret => some .ret
  | .exit id => some (.exit id)
  | .goto t => some (.goto t)
  | _ => none
/-- how a round ends at an error, by the jump c -/
def badPostT (c : Code) (B : Nat) (I : World → Prop) (W : World) (e : Exit) (_ : Act) (W' : World) : Prop := jumpOf e = some c ∧ KeepsFrom B W W' ∧ I W'

theorem wp_rangeT {α : Type} {P : Program} {gf : Nat} {lb : Array Value} {enc : α → Array Value} {bad : Int → Array Value} {X : List α → α → Nat → World → Prop} {K : Nat → Prop} {S : List α → Prop} {Sp : List α → Int → Prop} {N : Nat}
    {g : Operand} {jc : Code} {ps : Array Tmp} {assign body : Code} {Q : Exit → Act → World → Prop} {a : Act} {w : World}
    (hg : a.eval g = .func (.func gf) #[] lb) (eg : ∀ args w, (callFunc gf args).run P w = .ok (.enter gf args) w)
    (hseq : YieldsT P gf lb enc bad X K S Sp N w) (hK : ∀ k, K k → k < w.heap.size) (hps : ∀ x, (enc x).size = ps.size) (hpb : ∀ q, (bad q).size = ps.size)
    (I : List α → World → Prop) (Ix : List α → Int → World → Prop) (hI : OwnFrom w.heap.size I) (hX : ∀ pre n, OwnFrom w.heap.size (fun x W => X pre x n W)) (hIx : OwnFrom w.heap.size (fun (s : List α × Int) W => Ix s.1 s.2 W)) (h0 : I [] w)
    (A : α → Act → World → Prop) (hA : ∀ x a', OwnFrom w.heap.size (fun (_ : Unit) W => A x a' W)) (Ab : Int → Act → World → Prop) (hAb : ∀ q a', OwnFrom w.heap.size (fun (_ : Unit) W => Ab q a' W))
    (hasg : ∀ (l : Nat) (x : α) (W : World) (C : Act → World → Prop), (∀ a' W', Below W.heap.size W W' → A x a' W' → C a' W') →
      assign.wpIn (Fence.wide.inRound l) 0 P (Exit.then C (fun _ _ _ => False)) { tmps := (ps.zip (enc x)).foldl (fun t (p, v) => t.setIfInBounds p v) a.tmps, defers := [] } W)
    (hasb : ∀ (l : Nat) (q : Int) (W : World) (C : Act → World → Prop), (∀ a' W', Below W.heap.size W W' → Ab q a' W' → C a' W') →
      assign.wpIn (Fence.wide.inRound l) 0 P (Exit.then C (fun _ _ _ => False)) { tmps := (ps.zip (bad q)).foldl (fun t (p, v) => t.setIfInBounds p v) a.tmps, defers := [] } W)
    (hgood : ∀ (l : Nat) (pre : List α) (x : α) (a' : Act) (W0 W : World), w.heap.size ≤ W.heap.size → pre.length < N → I pre W0 → (∀ p u, W0.cell? p = some u → W.cell? p = some u) → I pre W → X pre x W0.heap.size W → A x a' W → body.wpIn (Fence.wide.inRound l) 0 P (goodPost w.heap.size K (I (pre ++ [x])) W) a' W)
    (hbad : ∀ (l : Nat) (pre : List α) (q : Int) (a' : Act) (W : World), w.heap.size ≤ W.heap.size → q ≠ 0 → Sp pre q → I pre W → Ab q a' W → body.wpIn (Fence.wide.inRound l) 0 P (badPostT jc w.heap.size (Ix pre q) W) a' W)
    (hdone : ∀ (D : Nat) (xs : List α) (W : World), w.heap.size ≤ D → S xs → I xs W → W.heap[D]? = some (.deferred (some [])) → Q .normal { a with defers := { target := .collected D, args := #[] } :: a.defers } W)
    (hstop : ∀ (D : Nat) (pre : List α) (q : Int) (W : World), w.heap.size ≤ D → Sp pre q → Ix pre q W → W.heap[D]? = some (.deferred (some [])) → jc.wpIn Fence.wide 0 P Q { a with defers := { target := .collected D, args := #[] } :: a.defers } W) :
    (Code.rangeFunc g ps assign body).wp P Q a w := by
  refine (wpIn_wide (n := 0)).1 (wpIn_rangeFunc fun fn hfn => ?_)
  obtain ⟨z, hz⟩ : ∃ z, z = w.heap.size := ⟨_, rfl⟩
  -- the loop's record, in a state, with a jump that is pending
  obtain ⟨rec, hrec⟩ : ∃ rec : LoopState → Option Code → Loop, rec = fun st pe => { state := st, pending := pe, fn, tmps := a.tmps, params := ps, assign, body, defers := z } := ⟨_, rfl⟩
  obtain ⟨V, hV⟩ : ∃ V, (w.alloc (.deferred (some []))).alloc (.loop (rec .ready none)) = V := ⟨_, rfl⟩
  have hb : Below w.heap.size w V := by rw [← hV]; exact ((Below.refl _ w).alloc (Nat.le_refl _) _).alloc (by simp) _
  have hVl : V.heap[z + 1]? = some (.loop (rec .ready none)) := by
    have h := World.alloc_heap_new (w.alloc (.deferred (some []))) (.loop (rec .ready none))
    rwa [World.size_alloc, hV, ← hz] at h
  have hVd : V.heap[z]? = some (.deferred (some [])) := by
    rw [← hV, hz]; exact (Below.heap_alloc _ _ _ (by simp)).trans (World.alloc_heap_new w _)
  have hVs : V.heap.size = z + 2 := by rw [← hV, hz]; simp
  rw [← hz] at hK hI hX hIx hA hAb hgood hbad hdone hstop hb
  refine ⟨z + 1, [{ target := .collected z, args := #[] }], V, { target := .fn (.func gf) lb, args := #[.func (.yield (z + 1)) #[] #[]] }, V, gf, #[.func (.yield (z + 1)) #[] #[]] ++ lb, V, ?_, ?_, fun _ _ => trivial, ?_, fun h => by simp [Fence.wide] at h, ?_⟩
  · rw [← hV, hrec, hz]; exact run_enterLoop_outer _ _ _ _ _
  · simp only [resolve, hg]
    simp [go_sem]
  · simp [invoke, go_sem, eg]
  -- what the law keeps beside the caller's words: the record, and the block for deferred calls
  have stay : ∀ {A B : World} {st : LoopState} {pe : Option Code}, Below A.heap.size A B → A.heap[z + 1]? = some (.loop (rec st pe)) ∧ A.heap[z]? = some (.deferred (some [])) → B.heap[z + 1]? = some (.loop (rec st pe)) ∧ B.heap[z]? = some (.deferred (some [])) :=
    fun hAB h => ⟨(hAB.block _ (Array.getElem?_eq_some_iff.1 h.1).1).trans h.1, (hAB.block _ (Array.getElem?_eq_some_iff.1 h.2).1).trans h.2⟩
  -- the record is turned: 'st', 'pe'
  have turn : ∀ {A : World} {st : LoopState} {pe : Option Code} (st' : LoopState) (pe' : Option Code), A.heap[z + 1]? = some (.loop (rec st pe)) → A.heap[z]? = some (.deferred (some [])) →
      (A.putObj (z + 1) (.loop (rec st' pe'))).heap[z + 1]? = some (.loop (rec st' pe')) ∧ (A.putObj (z + 1) (.loop (rec st' pe'))).heap[z]? = some (.deferred (some [])) :=
    fun st' pe' h1 h2 => ⟨World.putObj_heap_same (Array.getElem?_eq_some_iff.1 h1).1, (World.putObj_heap_other (by omega)).trans h2⟩
  have begin_ : ∀ {A : World}, A.heap[z + 1]? = some (.loop (rec .ready none)) → (Instr.beginRound (z + 1)).run P A = .ok () (A.putObj (z + 1) (.loop (rec .busy none))) := by
    intro A h
    have := run_beginRound (P := P) h (by rw [hrec])
    rw [hrec] at this ⊢
    exact this
  have end_ : ∀ {A : World} (jump : Option Code), A.heap[z + 1]? = some (.loop (rec .busy none)) → (Instr.endRound (z + 1) jump).run P A = .ok (.bool jump.isNone) (A.putObj (z + 1) (.loop (rec (if jump.isNone then .ready else .done) jump))) := by
    intro A jump h
    have := run_endRound (P := P) jump h
    rw [hrec] at this ⊢
    exact this
  have over_ : ∀ {A : World} {st : LoopState} {pe : Option Code}, A.heap[z + 1]? = some (.loop (rec st pe)) → st ≠ .busy → (Instr.endLoop (z + 1)).run P A = .ok pe (A.putObj (z + 1) (.loop (rec .exhausted pe))) := by
    intro A st pe h hs
    have := run_endLoop (P := P) h (by rw [hrec]; exact hs)
    rw [hrec] at this ⊢
    exact this
  have yld : ∀ {A : World} {y : Array Value}, A.heap[z + 1]? = some (.loop (rec .ready none)) → y.size = ps.size →
      (Instr.yield (z + 1) y).run P A = .ok (.round (z + 1) fn ((ps.zip y).foldl (fun t (p, v) => t.setIfInBounds p v) a.tmps) assign body) A := by
    intro A y h hs
    have := run_yield (P := P) (args := y) h (by rw [hrec]; exact hs)
    rw [hrec] at this
    exact this
  refine callsIn_wide.2 ((hseq (z + 1)
    (fun pre W => I pre W ∧ z ≤ W.heap.size ∧ W.heap[z + 1]? = some (.loop (rec .ready none)) ∧ W.heap[z]? = some (.deferred (some [])))
    (fun pre q W => Ix pre q W ∧ W.heap[z + 1]? = some (.loop (rec .done (some jc))) ∧ W.heap[z]? = some (.deferred (some [])))
    V (by rw [hz] at hb; exact hb) (fun pre A B hs hAB => ⟨own_below hI hs.1 hAB, Nat.le_trans hs.2.1 hAB.size, stay hAB hs.2.2⟩) ?_ ?_ ⟨own_below hI h0 (by rw [← hz]; exact hb), by omega, hVl, hVd⟩).mono ?_)
  · rintro pre x W0 W ⟨hi0, hzW0, hl0, hd0⟩ hb0 hx hlen
    have hi := own_below hI hi0 hb0
    have hzW : z ≤ W.heap.size := Nat.le_trans hzW0 hb0.size
    obtain ⟨hl, hd⟩ := stay hb0 ⟨hl0, hd0⟩
    refine ⟨fn, _, assign, body, yld hl (hps x), roundIn_of_wpIn hfn (hasg _ x W _ fun a' Wa hWa hax => ?_)⟩
    obtain ⟨hl1, hd1⟩ := stay hWa ⟨hl, hd⟩
    refine ⟨_, begin_ hl1, ?_⟩
    obtain ⟨hl2, hd2⟩ := turn .busy none hl1 hd1
    have hi2 := hI.putObj (.loop (rec .busy none)) (own_below hI hi hWa) (by omega) hl1 rfl
    have hx2 := (hX pre _).putObj (.loop (rec .busy none)) (own_below (hX pre _) hx hWa) (by omega) hl1 rfl
    have hs2 : (Wa.putObj (z + 1) (.loop (rec .busy none))).heap.size = Wa.heap.size := by simp [World.putObj]
    have hcl : ∀ p u, W0.cell? p = some u → (Wa.putObj (z + 1) (.loop (rec .busy none))).cell? p = some u := fun p u h => by
      have h1 : W.cell? p = some u := (World.cell?_of_block (hb0.block _ (World.block_lt_of_cell? _ _ h))).trans h
      have h2 : Wa.cell? p = some u := (World.cell?_of_block (hWa.block _ (World.block_lt_of_cell? _ _ h1))).trans h1
      exact cell_kept h2 (grownBy_putObj' Wa (z + 1) _) (fun r e => by cases e; exact ⟨_, hl1, rfl⟩)
    refine wpIn_mono (hgood _ pre x a' W0 _ (by rw [hs2]; exact Nat.le_trans hzW hWa.size) hlen hi0 hcl hi2 hx2 ((hA x a').putObj (s := ()) _ hax (by omega) hl1 rfl)) ?_
    rintro e a3 W3 hp
    cases e with
    | normal =>
      obtain ⟨hk3, hkp3, hi3⟩ := hp
      have hl3 := hk3.same _ _ (by omega) hl2 rfl
      have hd3 := hk3.same _ _ (Nat.le_refl _) hd2 rfl
      obtain ⟨hl4, hd4⟩ := turn .ready none hl3 hd3
      have hs4 : (W3.putObj (z + 1) (.loop (rec .ready none))).heap.size = W3.heap.size := by simp [World.putObj]
      have hs3 := hk3.size
      rw [hs2] at hs3
      have hsa := hWa.size
      refine ⟨_, _, end_ none hl3, rfl, ⟨hI.putObj _ hi3 (by omega) hl3 rfl, ?_, hl4, hd4⟩, ?_, ?_⟩
      · show z ≤ (W3.putObj (z + 1) (.loop (rec .ready none))).heap.size
        rw [hs4]; omega
      · show W.heap.size ≤ (W3.putObj (z + 1) (.loop (rec .ready none))).heap.size
        rw [hs4]; omega
      · intro k hkk hkw
        have hkz : k < z := hK k hkk
        have h1 := hWa.block k hkw
        have h2 : (Wa.putObj (z + 1) (.loop (rec .busy none))).heap[k]? = Wa.heap[k]? := World.putObj_heap_other (by omega)
        have h3 := hkp3 k hkk (by rw [hs2]; omega)
        have h4 : (W3.putObj (z + 1) (.loop (rec .ready none))).heap[k]? = W3.heap[k]? := World.putObj_heap_other (by omega)
        exact h4.trans (h3.trans (h2.trans h1))
    | ret => exact hp.elim
    | exit id => exact hp.elim
    | goto t => exact hp.elim
    | panic ch => exact hp.elim
    | outgrown => exact hp.elim
  · rintro pre q W ⟨hi, hzW, hl, hd⟩ hq hsp
    refine ⟨fn, _, assign, body, yld hl (hpb q), roundIn_of_wpIn hfn (hasb _ q W _ fun a' Wa hWa hax => ?_)⟩
    obtain ⟨hl1, hd1⟩ := stay hWa ⟨hl, hd⟩
    refine ⟨_, begin_ hl1, ?_⟩
    obtain ⟨hl2, hd2⟩ := turn .busy none hl1 hd1
    have hi2 := hI.putObj (.loop (rec .busy none)) (own_below hI hi hWa) (by omega) hl1 rfl
    have hs2 : (Wa.putObj (z + 1) (.loop (rec .busy none))).heap.size = Wa.heap.size := by simp [World.putObj]
    refine wpIn_mono (hbad _ pre q a' _ (by rw [hs2]; exact Nat.le_trans hzW hWa.size) hq hsp hi2 ((hAb q a').putObj (s := ()) _ hax (by omega) hl1 rfl)) ?_
    rintro e a3 W3 hp
    obtain ⟨hj, hk3, hi3⟩ := hp
    have hl3 := hk3.same _ _ (by omega) hl2 rfl
    have hd3 := hk3.same _ _ (Nat.le_refl _) hd2 rfl
    obtain ⟨hl4, hd4⟩ := turn .done (some jc) hl3 hd3
    have fin : ∃ v W4, (Instr.endRound (z + 1) (some jc)).run P W3 = .ok v W4 ∧ v = .bool false ∧ Ix pre q W4 ∧ W4.heap[z + 1]? = some (.loop (rec .done (some jc))) ∧ W4.heap[z]? = some (.deferred (some [])) :=
      ⟨_, _, end_ (some jc) hl3, rfl, hIx.putObj (s := (pre, q)) _ hi3 (by omega) hl3 rfl, hl4, hd4⟩
    obtain ⟨v, W4, f1, rfl, f2⟩ := fin
    cases e with
    | ret => cases hj; exact ⟨_, _, f1, rfl, f2⟩
    | exit id => cases hj; exact ⟨_, _, f1, rfl, f2⟩
    | goto t => cases hj; exact ⟨_, _, f1, rfl, f2⟩
    | normal => cases hj
    | panic ch => cases hj
    | outgrown => cases hj
  · rintro e W2 ⟨⟨v, rfl⟩, (⟨xs, hS, hi, _, hl, hd⟩ | ⟨pre, q, hSp, hi, hl, hd⟩)⟩
    · exact ⟨none, _, over_ hl (by simp), hdone z xs _ (by omega) hS (hI.putObj _ hi (by omega) hl rfl) ((turn .exhausted none hl hd).2)⟩
    · exact ⟨some jc, _, over_ hl (by simp), hstop z pre q _ (by omega) hSp (hIx.putObj (s := (pre, q)) _ hi (by omega) hl rfl) ((turn .exhausted (some jc) hl hd).2)⟩
end Go.Proofs.Yteaimnlfbbkccaa
