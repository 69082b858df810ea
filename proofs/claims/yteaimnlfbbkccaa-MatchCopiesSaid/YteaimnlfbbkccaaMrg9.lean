/- Put together out of several texts: what the laws of earlier stages left. -/
import Derived.Test.YteaimnlfbbkccaaMrg2
import Derived.Shelf.SlSortCmp.KitK
import Derived.Sort.Defs
import Derived.Sort.WalkB2
import Derived.Sort.WalkB12
import Derived.Deep.LoopGhost
import Derived.Deep.Cut
namespace Go.Proofs.Yteaimnlfbbkccaa
open Go.RowKit Go.Sort
set_option linter.unusedVariables false

section
variable {α : Type}
/-- neither must stand ahead of the other -/
def eqv (lt : α → α → Bool) (x y : α) : Bool := !lt x y && !lt y x
/-- in order -/
def Srt (lt : α → α → Bool) (l : List α) : Prop := l.Pairwise (fun a b => lt b a = false)
/-- of each kind the same ones in the same order -/
def Fil (lt : α → α → Bool) (l m : List α) : Prop := ∀ x, l.filter (eqv lt x) = m.filter (eqv lt x)
variable {lt : α → α → Bool}
theorem eqv_self (T : SWO lt) (x : α) : eqv lt x x = true := by simp [eqv, T.irrefl]
theorem eqv_iff {x y : α} : eqv lt x y = true ↔ lt x y = false ∧ lt y x = false := by simp [eqv]
theorem Fil.refl (l : List α) : Fil lt l l := fun _ => rfl
theorem Fil.symm {l m : List α} (h : Fil lt l m) : Fil lt m l := fun x => (h x).symm
theorem Fil.trans {l m n : List α} (h : Fil lt l m) (k : Fil lt m n) : Fil lt l n := fun x => (h x).trans (k x)
theorem Fil.append {a b c d : List α} (h : Fil lt a b) (k : Fil lt c d) : Fil lt (a ++ c) (b ++ d) := fun x => by rw [List.filter_append, List.filter_append, h x, k x]
theorem Fil.mem (T : SWO lt) {l m : List α} (h : Fil lt l m) {x : α} (hx : x ∈ l) : x ∈ m := by
  have : x ∈ l.filter (eqv lt x) := List.mem_filter.2 ⟨hx, eqv_self T x⟩
  rw [h x] at this
  exact (List.mem_filter.1 this).1
/-- two lists of which no one is of a kind with one of the other, exchanged -/
theorem Fil.swap (T : SWO lt) {a b : List α} (h : ∀ x ∈ a, ∀ y ∈ b, lt y x = true) : Fil lt (a ++ b) (b ++ a) := by
  intro k
  rw [List.filter_append, List.filter_append]
  by_cases ha : a.filter (eqv lt k) = []
  · rw [ha]; simp
  · have hb : b.filter (eqv lt k) = [] := by
      rw [List.filter_eq_nil_iff]
      intro y hy hk
      obtain ⟨x, hx⟩ := List.exists_mem_of_ne_nil _ ha
      obtain ⟨hx, hxk⟩ := List.mem_filter.1 hx
      rw [eqv_iff] at hk hxk
      have := h x hx y hy
      have h2 := T.ntrans _ _ _ hk.2 hxk.1
      rw [this] at h2; simp at h2
    rw [hb]; simp
theorem srt_uniq (T : SWO lt) : ∀ {l m : List α}, Srt lt l → Srt lt m → Fil lt l m → l = m
  | [], m, _, _, h => by
    cases m with
    | nil => rfl
    | cons y m => exact absurd (Fil.mem T h.symm (List.mem_cons_self)) (by simp)
  | x :: l, [], _, _, h => absurd (Fil.mem T h (List.mem_cons_self)) (by simp)
  | x :: l, y :: m, hl, hm, h => by
    have hx := List.pairwise_cons.1 hl
    have hy := List.pairwise_cons.1 hm
    have e1 : lt y x = false := by
      rcases List.mem_cons.1 (Fil.mem T h.symm (List.mem_cons_self (a := y) (l := m))) with e | e
      · rw [e]; exact T.irrefl _
      · exact hx.1 _ e
    have e2 : lt x y = false := by
      rcases List.mem_cons.1 (Fil.mem T h (List.mem_cons_self (a := x) (l := l))) with e | e
      · rw [e]; exact T.irrefl _
      · exact hy.1 _ e
    have hxy : x = y := by
      have := h x
      rw [List.filter_cons_of_pos (eqv_self T x), List.filter_cons_of_pos (eqv_iff.2 ⟨e2, e1⟩)] at this
      exact (List.cons.inj this).1
    subst hxy
    have : Fil lt l m := by
      intro k
      have := h k
      by_cases hk : eqv lt k x = true
      · rw [List.filter_cons_of_pos hk, List.filter_cons_of_pos hk] at this
        exact (List.cons.inj this).2
      · rw [List.filter_cons_of_neg hk, List.filter_cons_of_neg hk] at this
        exact this
    rw [srt_uniq T hx.2 hy.2 this]

theorem srt_append {a b : List α} : Srt lt (a ++ b) ↔ Srt lt a ∧ Srt lt b ∧ ∀ x ∈ a, ∀ y ∈ b, lt y x = false := List.pairwise_append
theorem Fil.length {l m : List α} (T : SWO lt) (h : Fil lt l m) : l.length = m.length := by
  have key : ∀ n, ∀ l m : List α, l.length = n → Fil lt l m → l.length = m.length := by
    intro n
    induction n using Nat.strongRecOn with
    | _ n ih =>
      intro l m hn h
      cases l with
      | nil =>
        cases m with
        | nil => rfl
        | cons y m => exact absurd (Fil.mem T h.symm (List.mem_cons_self)) (by simp)
      | cons x r =>
        -- all of the kind of x, and the others
        have f : ∀ t : List α, (t.filter (eqv lt x)).length + (t.filter (fun y => !eqv lt x y)).length = t.length := fun t => by
          induction t with
          | nil => rfl
          | cons y t iht => cases hy : eqv lt x y <;> simp [hy] <;> omega
        have hless : ((x :: r).filter (fun y => !eqv lt x y)).length < n := by
          have := f (x :: r)
          have hp : 0 < ((x :: r).filter (eqv lt x)).length := List.length_pos_of_mem (List.mem_filter.2 ⟨List.mem_cons_self, eqv_self T x⟩)
          omega
        have h2 : Fil lt ((x :: r).filter (fun y => !eqv lt x y)) (m.filter (fun y => !eqv lt x y)) := by
          intro k
          rw [List.filter_filter, List.filter_filter]
          have swp : ∀ t : List α, t.filter (fun a => eqv lt k a && !eqv lt x a) = (t.filter (eqv lt k)).filter (fun a => !eqv lt x a) := fun t => by
            rw [List.filter_filter]; congr 1; funext a; rw [Bool.and_comm]
          rw [swp, swp, h k]
        have := ih _ hless _ _ rfl h2
        rw [← f (x :: r), ← f m, h x, this]
  exact key _ l m rfl h

/-- one, put where it belongs (behind its like), from the left -/
theorem halves (T : SWO lt) {L1 L2 R1 R2 S1 S2 : List α} (hL : Srt lt (L1 ++ L2)) (hR : Srt lt (R1 ++ R2)) (h1 : ∀ x ∈ L2, ∀ y ∈ R1, lt y x = true) (h2 : ∀ x ∈ L1, ∀ y ∈ R2, lt y x = false)
    (s1 : Srt lt S1) (s2 : Srt lt S2) (f1 : Fil lt (L1 ++ R1) S1) (f2 : Fil lt (L2 ++ R2) S2) : Srt lt (S1 ++ S2) ∧ Fil lt ((L1 ++ L2) ++ (R1 ++ R2)) (S1 ++ S2) := by
  obtain ⟨_, _, l12⟩ := srt_append.1 hL
  obtain ⟨_, _, r12⟩ := srt_append.1 hR
  constructor
  · refine srt_append.2 ⟨s1, s2, fun x hx y hy => ?_⟩
    rcases List.mem_append.1 (Fil.mem T f1.symm hx) with hx | hx <;> rcases List.mem_append.1 (Fil.mem T f2.symm hy) with hy | hy
    · exact l12 x hx y hy
    · exact h2 x hx y hy
    · have := h1 y hy x hx
      cases e : lt y x
      · rfl
      · have := T.trans _ _ _ this e
        rw [T.irrefl] at this; simp at this
    · exact r12 x hx y hy
  · have e : Fil lt (L2 ++ R1) (R1 ++ L2) := Fil.swap T fun x hx y hy => h1 x hx y hy
    have : Fil lt ((L1 ++ L2) ++ (R1 ++ R2)) ((L1 ++ R1) ++ (L2 ++ R2)) := by
      have := ((Fil.refl L1).append e).append (Fil.refl (lt := lt) R2)
      simpa [List.append_assoc] using this
    exact this.trans (f1.append f2)

/-- a front of a sorted list up to which all hold what an order gives -/
theorem srt_take {l : List α} (h : Srt lt l) (n : Nat) : Srt lt (l.take n) := h.sublist (List.take_sublist _ _)
theorem srt_drop {l : List α} (h : Srt lt l) (n : Nat) : Srt lt (l.drop n) := h.sublist (List.drop_sublist _ _)
end

/-! ### exchanges -/
section
variable {α : Type} [Inhabited α]
theorem swp_list (p m q : List α) (x y : α) (i j : Nat) (hi : p.length = i) (hj : i + 1 + m.length = j) : swp (p ++ x :: (m ++ y :: q)).toArray i j = (p ++ y :: (m ++ x :: q)).toArray := by
  subst hi
  subst hj
  have e0 : (p ++ x :: (m ++ y :: q)).toArray[p.length + 1 + m.length]! = y := by
    have : (p ++ x :: (m ++ y :: q))[p.length + 1 + m.length]? = some y := by
      rw [List.getElem?_append_right (by omega), show p.length + 1 + m.length - p.length = m.length + 1 by omega, List.getElem?_cons_succ, List.getElem?_append_right (by omega)]
      simp
    simp [this]
  have e1 : (p ++ x :: (m ++ y :: q)).toArray[p.length]! = x := by simp
  unfold swp
  rw [e0, e1]
  apply Array.toList_inj.1
  simp only [Array.toList_setIfInBounds]
  rw [List.set_append_right _ _ (by omega), Nat.sub_self, List.set_cons_zero]
  rw [List.set_append_right _ _ (by omega), show p.length + 1 + m.length - p.length = m.length + 1 by omega, List.set_cons_succ, List.set_append_right _ _ (by omega), Nat.sub_self, List.set_cons_zero]
end
end Go.Proofs.Yteaimnlfbbkccaa
namespace Go.Proofs.Yteaimnlfbbkccaa
open Go.RowKit Go.Shelf Go.Lib Go.Sort
set_option linter.unusedVariables false

section
variable {α : Type} [Inhabited α] {enc : α → List Value} {k : Nat}
/-- the slice at blk, off holds l; beside it only draws, and blocks that were laid since w0 -/
def SK (enc : α → List Value) (k : Nat) (w0 : World) (blk off : Nat) (l : List α) (W : World) : Prop := SWK enc k w0 blk off l.toArray W
theorem SK.swapped {w0 W : World} {blk off : Nat} {l l0 : List α} (h : SK enc k w0 blk off l W) (R : RowK enc k w0 blk off l0.toArray) {p m q : List α} {x y : α} {i j : Nat} (e : l = p ++ x :: (m ++ y :: q)) (hi : p.length = i) (hj : i + 1 + m.length = j) :
    SK enc k w0 blk off (p ++ y :: (m ++ x :: q)) ((W.drew.setCells blk (off + i * k) (enc y)).setCells blk (off + j * k) (enc x)) := by
  subst e
  have hl : (p ++ x :: (m ++ y :: q)).length = p.length + 1 + m.length + 1 + q.length := by simp; omega
  have := SWK.swapped h R i j (by simp; omega) (by simp; omega)
  rw [swp_list p m q x y i j hi hj] at this
  subst hi
  subst hj
  have e0 : (p ++ x :: (m ++ y :: q)).toArray[p.length + 1 + m.length]! = y := by
    have : (p ++ x :: (m ++ y :: q))[p.length + 1 + m.length]? = some y := by
      rw [List.getElem?_append_right (by omega), show p.length + 1 + m.length - p.length = m.length + 1 by omega, List.getElem?_cons_succ, List.getElem?_append_right (by omega)]
      simp
    simp [this]
  have e1 : (p ++ x :: (m ++ y :: q)).toArray[p.length]! = x := by simp
  rw [e0, e1] at this
  exact this
theorem SK.facts {w0 W : World} {blk off : Nat} {l l0 : List α} (h : SK enc k w0 blk off l W) (R : RowK enc k w0 blk off l0.toArray) {p m q : List α} {x y : α} {i j : Nat} (e : l = p ++ x :: (m ++ y :: q)) (hi : p.length = i) (hj : i + 1 + m.length = j) (hs : l0.length = l.length) (P : Program) :
    Sem.run P (loadCellsFrom ⟨blk, off + i * k, none⟩ 0 k #[]) W.drew = .ok (enc x).toArray W.drew ∧ Sem.run P (loadCellsFrom ⟨blk, off + j * k, none⟩ 0 k #[]) W.drew = .ok (enc y).toArray W.drew ∧
    Sem.run P (storeCells ⟨blk, off + i * k, none⟩ (enc y) 0) W.drew = .ok () (W.drew.setCells blk (off + i * k) (enc y)) ∧
    Sem.run P (storeCells ⟨blk, off + j * k, none⟩ (enc x) 0) (W.drew.setCells blk (off + i * k) (enc y)) = .ok () ((W.drew.setCells blk (off + i * k) (enc y)).setCells blk (off + j * k) (enc x)) ∧ (enc x).length = k ∧ (enc y).length = k := by
  subst e
  subst hi
  subst hj
  have hl : (p ++ x :: (m ++ y :: q)).length = p.length + 1 + m.length + 1 + q.length := by simp; omega
  have e0 : (p ++ x :: (m ++ y :: q)).toArray[p.length + 1 + m.length]! = y := by
    have : (p ++ x :: (m ++ y :: q))[p.length + 1 + m.length]? = some y := by
      rw [List.getElem?_append_right (by omega), show p.length + 1 + m.length - p.length = m.length + 1 by omega, List.getElem?_cons_succ, List.getElem?_append_right (by omega)]
      simp
    simp [this]
  have e1 : (p ++ x :: (m ++ y :: q)).toArray[p.length]! = x := by simp
  have hsz : (p ++ x :: (m ++ y :: q)).toArray.size = l0.toArray.size := by simpa using hs.symm
  have i1 : p.length < (p ++ x :: (m ++ y :: q)).toArray.size := by simp
  have i2 : p.length + 1 + m.length < (p ++ x :: (m ++ y :: q)).toArray.size := by simp; omega
  refine ⟨?_, ?_, SWK.st1 h R hsz P _ i1 y, SWK.st2 h R hsz P _ _ i1 i2 y x, R.hk _, R.hk _⟩
  · have := SWK.ld1 h R hsz P _ i1; rw [e1] at this; exact this
  · have := SWK.ld1 h R hsz P _ i2; rw [e0] at this; exact this
omit [Inhabited α] in
theorem take_more {l r : List α} {i : Nat} {x : α} (h : l.drop i = x :: r) : l.take (i + 1) = l.take i ++ [x] := by
  rw [List.take_add, h]; simp
end

end Go.Proofs.Yteaimnlfbbkccaa
namespace Go.Proofs.Yteaimnlfbbkccaa
open Go.RowKit Go.Shelf Go.Lib Go.Sort
set_option linter.unusedVariables false

end Go.Proofs.Yteaimnlfbbkccaa
namespace Go.Proofs.Yteaimnlfbbkccaa
open Go.RowKit Go.Shelf Go.Lib Go.Sort
set_option linter.unusedVariables false

section
variable {α : Type} [Inhabited α] {enc : α → List Value} {k : Nat}
theorem SK.grown {w0 W : World} {blk off : Nat} {l : List α} (h : SK enc k w0 blk off l W) (n : Nat) (os : Array Obj) : SK enc k w0 blk off l (grow (W.drewN n) os) := SWK.grown h n os
/-- two that are held against one another -/
theorem SK.held {P : Program} {g : Nat} {cb : Array Value} {cf : α → α → Int} {w0 W : World} {blk off : Nat} {l l0 : List α} (h : SK enc k w0 blk off l W) (R : RowK enc k w0 blk off l0.toArray) (hC : CmpLays P g cb enc k cf blk off l0.length w0) (hs : l0.length = l.length) {i j : Nat} {x y : α} (hi : l[i]? = some x) (hj : l[j]? = some y) :
    (∀ n os, Sem.run P (loadCellsFrom ⟨blk, off + i * k, none⟩ 0 k #[]) (grow (W.drewN n) os) = .ok (enc x).toArray (grow (W.drewN n) os)) ∧ (∀ n os, Sem.run P (loadCellsFrom ⟨blk, off + j * k, none⟩ 0 k #[]) (grow (W.drewN n) os) = .ok (enc y).toArray (grow (W.drewN n) os)) ∧
    (∀ n os, Calls P g (#[.agg (enc x).toArray, .agg (enc y).toArray] ++ cb) (grow (W.drewN n) os) fun e w' => e = .returned (.int .i64 (cf x y)) ∧ ∃ q os', w' = grow ((grow (W.drewN n) os).drewN q) os') := by
  have i1 : i < l.length := (List.getElem?_eq_some_iff.1 hi).1
  have i2 : j < l.length := (List.getElem?_eq_some_iff.1 hj).1
  have e1 : l.toArray[i]! = x := by simp [hi]
  have e2 : l.toArray[j]! = y := by simp [hj]
  have hsz : l.toArray.size = l0.toArray.size := by simpa using hs.symm
  refine ⟨fun n os => ?_, fun n os => ?_, fun n os => SWK.cmp h hC (by simpa using hs.symm) x y n os⟩
  · have := SWK.ld h R hsz P i (by simpa using i1) n os; rw [e1] at this; exact this
  · have := SWK.ld h R hsz P j (by simpa using i2) n os; rw [e2] at this; exact this
end

section
variable {α : Type} {lt : α → α → Bool}
/-- all up to one that is below x are below x -/
theorem srt_below (T : SWO lt) {l : List α} (h : Srt lt l) {i : Nat} {x y : α} (hy : l[i]? = some y) (hb : lt y x = true) : ∀ z ∈ l.take (i + 1), lt z x = true := by
  intro z hz
  obtain ⟨hi, rfl⟩ := List.getElem?_eq_some_iff.1 hy
  obtain ⟨j, hj, rfl⟩ := List.mem_take_iff_getElem.1 hz
  by_cases e : j = i
  · subst e; exact hb
  · have h1 := List.pairwise_iff_getElem.1 h j i (by omega) hi (by omega)
    cases h2 : lt l[j] x
    · have := T.ntrans _ _ _ h1 h2
      rw [hb] at this; simp at this
    · rfl
/-- all from one on that is not below x are not below x -/
theorem srt_above (T : SWO lt) {l : List α} (h : Srt lt l) {i : Nat} {x y : α} (hy : l[i]? = some y) (hb : lt y x = false) : ∀ z ∈ l.drop i, lt z x = false := by
  intro z hz
  obtain ⟨hi, rfl⟩ := List.getElem?_eq_some_iff.1 hy
  obtain ⟨j, hj, rfl⟩ := List.mem_drop_iff_getElem.1 hz
  by_cases e : j = 0
  · subst e; simpa using hb
  · have h1 := List.pairwise_iff_getElem.1 h i (i + j) hi (by omega) (by omega)
    exact T.ntrans _ _ _ h1 hb
/-- all up to one that x is not below are so -/
theorem srt_below' (T : SWO lt) {l : List α} (h : Srt lt l) {i : Nat} {x y : α} (hy : l[i]? = some y) (hb : lt x y = false) : ∀ z ∈ l.take (i + 1), lt x z = false := by
  intro z hz
  obtain ⟨hi, rfl⟩ := List.getElem?_eq_some_iff.1 hy
  obtain ⟨j, hj, rfl⟩ := List.mem_take_iff_getElem.1 hz
  by_cases e : j = i
  · subst e; exact hb
  · have h1 := List.pairwise_iff_getElem.1 h j i (by omega) hi (by omega)
    exact T.ntrans _ _ _ hb h1
/-- all from one on that x is below are so -/
theorem srt_above' (T : SWO lt) {l : List α} (h : Srt lt l) {i : Nat} {x y : α} (hy : l[i]? = some y) (hb : lt x y = true) : ∀ z ∈ l.drop i, lt x z = true := by
  intro z hz
  obtain ⟨hi, rfl⟩ := List.getElem?_eq_some_iff.1 hy
  obtain ⟨j, hj, rfl⟩ := List.mem_drop_iff_getElem.1 hz
  by_cases e : j = 0
  · subst e; simpa using hb
  · have h1 := List.pairwise_iff_getElem.1 h i (i + j) hi (by omega) (by omega)
    cases h2 : lt x l[i + j]
    · have := T.ntrans _ _ _ h2 h1
      rw [hb] at this; simp at this
    · rfl
/-- one put in from the left -/
theorem put_left (T : SWO lt) {l : List α} (h : Srt lt l) {i : Nat} {x : α} (h1 : ∀ z ∈ l.take i, lt z x = true) (h2 : ∀ z ∈ l.drop i, lt z x = false) : Srt lt (l.take i ++ x :: l.drop i) ∧ Fil lt (x :: l) (l.take i ++ x :: l.drop i) := by
  constructor
  · refine srt_append.2 ⟨srt_take h _, List.pairwise_cons.2 ⟨fun z hz => h2 z hz, srt_drop h _⟩, fun y hy z hz => ?_⟩
    rcases List.mem_cons.1 hz with rfl | hz
    · cases e : lt z y
      · rfl
      · have := T.trans _ _ _ (h1 y hy) e
        rw [T.irrefl] at this; simp at this
    · rw [← List.take_append_drop i l] at h
      exact (srt_append.1 h).2.2 y hy z hz
  · have := (Fil.swap T (a := [x]) (b := l.take i) (fun y hy z hz => by rw [List.mem_singleton.1 hy]; exact h1 z hz)).append (Fil.refl (lt := lt) (l.drop i))
    simpa [List.append_assoc] using this
/-- one put in from the right -/
theorem put_right (T : SWO lt) {l : List α} (h : Srt lt l) {i : Nat} {x : α} (h1 : ∀ z ∈ l.take i, lt x z = false) (h2 : ∀ z ∈ l.drop i, lt x z = true) : Srt lt (l.take i ++ x :: l.drop i) ∧ Fil lt (l ++ [x]) (l.take i ++ x :: l.drop i) := by
  constructor
  · refine srt_append.2 ⟨srt_take h _, List.pairwise_cons.2 ⟨fun z hz => ?_, srt_drop h _⟩, fun y hy z hz => ?_⟩
    · cases e : lt z x
      · rfl
      · have := T.trans _ _ _ (h2 z hz) e
        rw [T.irrefl] at this; simp at this
    · rcases List.mem_cons.1 hz with rfl | hz
      · exact h1 y hy
      · rw [← List.take_append_drop i l] at h
        exact (srt_append.1 h).2.2 y hy z hz
  · have := (Fil.refl (lt := lt) (l.take i)).append (Fil.swap T (a := l.drop i) (b := [x]) (fun y hy z hz => by rw [List.mem_singleton.1 hz]; exact h2 y hy))
    rw [← List.append_assoc, List.take_append_drop] at this
    simpa using this
end

theorem half_eq {i j h : Nat} (hh : h = (i + j) / 2) (hi : i + j ≤ 4000) : wrap64 (IntKind.u64.wrap (wrap64 ((i : Int) + (j : Int))) / 2) = (h : Int) := by
  have e1 : wrap64 ((i : Int) + (j : Int)) = (i : Int) + j := by unfold wrap64; omega
  have e2 : IntKind.u64.wrap ((i : Int) + (j : Int)) = (i : Int) + j := by simp [IntKind.wrap, IntKind.bits, IntKind.signed]; omega
  rw [e1, e2]
  unfold wrap64
  omega

end Go.Proofs.Yteaimnlfbbkccaa
namespace Go.Proofs.Yteaimnlfbbkccaa
open Go.RowKit Go.Shelf Go.Lib Go.Sort
set_option linter.unusedVariables false

section
variable {α : Type} [Inhabited α] {enc : α → List Value} {k : Nat}
theorem swp_back (d : Array α) (i j : Nat) (h : i ≠ j) : swp d j i = swp d i j := by
  unfold swp
  exact Array.setIfInBounds_comm _ _ (by omega)
/-- an exchange, the place behind written first -/
theorem SK.swapped' {w0 W : World} {blk off : Nat} {l l0 : List α} (h : SK enc k w0 blk off l W) (R : RowK enc k w0 blk off l0.toArray) {p m q : List α} {x y : α} {i j : Nat} (e : l = p ++ x :: (m ++ y :: q)) (hi : p.length = i) (hj : i + 1 + m.length = j) :
    SK enc k w0 blk off (p ++ y :: (m ++ x :: q)) ((W.drew.setCells blk (off + j * k) (enc x)).setCells blk (off + i * k) (enc y)) := by
  subst e
  have hl : (p ++ x :: (m ++ y :: q)).length = p.length + 1 + m.length + 1 + q.length := by simp; omega
  have := SWK.swapped h R j i (by simp; omega) (by simp; omega)
  rw [swp_back _ _ _ (by omega), swp_list p m q x y i j hi hj] at this
  subst hi
  subst hj
  have e0 : (p ++ x :: (m ++ y :: q)).toArray[p.length + 1 + m.length]! = y := by
    have : (p ++ x :: (m ++ y :: q))[p.length + 1 + m.length]? = some y := by
      rw [List.getElem?_append_right (by omega), show p.length + 1 + m.length - p.length = m.length + 1 by omega, List.getElem?_cons_succ, List.getElem?_append_right (by omega)]
      simp
    simp [this]
  have e1 : (p ++ x :: (m ++ y :: q)).toArray[p.length]! = x := by simp
  rw [e0, e1] at this
  exact this
theorem SK.facts' {w0 W : World} {blk off : Nat} {l l0 : List α} (h : SK enc k w0 blk off l W) (R : RowK enc k w0 blk off l0.toArray) {p m q : List α} {x y : α} {i j : Nat} (e : l = p ++ x :: (m ++ y :: q)) (hi : p.length = i) (hj : i + 1 + m.length = j) (hs : l0.length = l.length) (P : Program) :
    Sem.run P (loadCellsFrom ⟨blk, off + i * k, none⟩ 0 k #[]) W.drew = .ok (enc x).toArray W.drew ∧ Sem.run P (loadCellsFrom ⟨blk, off + j * k, none⟩ 0 k #[]) W.drew = .ok (enc y).toArray W.drew ∧
    Sem.run P (storeCells ⟨blk, off + j * k, none⟩ (enc x) 0) W.drew = .ok () (W.drew.setCells blk (off + j * k) (enc x)) ∧
    Sem.run P (storeCells ⟨blk, off + i * k, none⟩ (enc y) 0) (W.drew.setCells blk (off + j * k) (enc x)) = .ok () ((W.drew.setCells blk (off + j * k) (enc x)).setCells blk (off + i * k) (enc y)) ∧ (enc x).length = k ∧ (enc y).length = k := by
  obtain ⟨la, lb, _, _, na, nb⟩ := h.facts R e hi hj hs P
  have hl : l.length = p.length + 1 + m.length + 1 + q.length := by rw [e]; simp; omega
  have hsz : l.toArray.size = l0.toArray.size := by simpa using hs.symm
  have i1 : i < l.toArray.size := by simp; omega
  have i2 : j < l.toArray.size := by simp; omega
  exact ⟨la, lb, SWK.st1 h R hsz P _ i2 x, SWK.st2 h R hsz P _ _ i2 i1 x y, na, nb⟩
end

end Go.Proofs.Yteaimnlfbbkccaa
namespace Go.Proofs.Yteaimnlfbbkccaa
open Go.RowKit Go.Shelf Go.Lib Go.Sort
set_option linter.unusedVariables false

section
variable {α : Type} {lt : α → α → Bool}
theorem sym_parts (T : SWO lt) {U V : List α} (hU : Srt lt U) (hV : Srt lt V) {a m b mid lo hi s : Nat} (hm : a + U.length = m) (hb : m + V.length = b) (h1 : lo = a ∨ mid + m - lo = b) (h2 : hi = m ∨ mid + m - hi = m) (h3 : a ≤ lo) (h4 : hi ≤ m) (h5 : lo ≤ s) (h6 : s ≤ hi) (h7 : s ≤ mid)
    (B1 : s = lo ∨ ∃ x y, U[s - 1 - a]? = some x ∧ V[mid - s]? = some y ∧ lt y x = false) (B2 : s = hi ∨ ∃ x y, U[s - a]? = some x ∧ V[mid - 1 - s]? = some y ∧ lt y x = true) :
    (∀ x ∈ U.drop (s - a), ∀ y ∈ V.take (mid - s), lt y x = true) ∧ (∀ x ∈ U.take (s - a), ∀ y ∈ V.drop (mid - s), lt y x = false) := by
  constructor
  · intro x hx y hy
    rcases B2 with e | ⟨x0, y0, hx0, hy0, hlt⟩
    · rcases h2 with h | h
      · rw [List.drop_of_length_le (by omega)] at hx; simp at hx
      · rw [show mid - s = 0 by omega] at hy; simp at hy
    · by_cases he : mid - s = 0
      · rw [he] at hy; simp at hy
      · rw [show mid - s = mid - 1 - s + 1 by omega] at hy
        have := srt_below T hV hy0 hlt y hy
        exact srt_above' T hU hx0 this x hx
  · intro x hx y hy
    rcases B1 with e | ⟨x0, y0, hx0, hy0, hlt⟩
    · rcases h1 with h | h
      · rw [show s - a = 0 by omega] at hx; simp at hx
      · rw [List.drop_of_length_le (by omega)] at hy; simp at hy
    · by_cases he : s - a = 0
      · rw [he] at hx; simp at hx
      · rw [show s - a = s - 1 - a + 1 by omega] at hx
        have := srt_above T hV hy0 hlt y hy
        exact srt_below' T hU hx0 this x hx
end

/-- what merging two that are in order leaves -/
def SymPost {α : Type} [Inhabited α] (enc : α → List Value) (k : Nat) (cf : α → α → Int) (w0 : World) (blk off : Nat) (p L R q : List α) (e : Ending) (w' : World) : Prop :=
  e = .returned (.tuple #[]) ∧ ∃ M, Srt (ltOf cf) M ∧ Fil (ltOf cf) (L ++ R) M ∧ SK enc k w0 blk off (p ++ M ++ q) w'
end Go.Proofs.Yteaimnlfbbkccaa
namespace Go.Proofs.Yteaimnlfbbkccaa
open Go.RowKit Go.Shelf Go.Lib Go.Sort
set_option linter.unusedVariables false
end Go.Proofs.Yteaimnlfbbkccaa
namespace Go.Proofs.Yteaimnlfbbkccaa
open Go.RowKit Go.Shelf Go.Lib Go.Sort
set_option linter.unusedVariables false

end Go.Proofs.Yteaimnlfbbkccaa
namespace Go.Proofs.Yteaimnlfbbkccaa
open Go.RowKit Go.Shelf Go.Lib Go.Sort
set_option linter.unusedVariables false

section
variable {α : Type} {lt : α → α → Bool}
/-- each piece of n is in order -/
def Chk (lt : α → α → Bool) (n : Nat) (l : List α) : Prop := ∀ j, Srt lt ((l.drop (n * j)).take n)
theorem chk_of_srt {n : Nat} {l : List α} (h : Srt lt l) : Chk lt n l := fun j => srt_take (srt_drop h _) _
theorem chk_head {n : Nat} {l : List α} (h : Chk lt n l) : Srt lt (l.take n) := by have := h 0; simpa using this
theorem chk_tail {n : Nat} {l : List α} (h : Chk lt n l) : Chk lt n (l.drop n) := fun j => by
  have := h (j + 1)
  rw [Nat.mul_add, Nat.mul_one, Nat.add_comm, ← List.drop_drop] at this
  exact this
theorem chk_append {n c : Nat} {l m : List α} (hl : l.length = n * c) (h : Chk lt n l) (k : Chk lt n m) : Chk lt n (l ++ m) := fun j => by
  rcases Nat.lt_or_ge j c with hj | hj
  · have h1 : n * j + n ≤ n * c := by have := Nat.mul_le_mul_left n (show j + 1 ≤ c from hj); rwa [Nat.mul_add, Nat.mul_one] at this
    rw [List.drop_append_of_le_length (by omega), List.take_append_of_le_length (by rw [List.length_drop]; omega)]
    exact h j
  · have h1 : n * c ≤ n * j := Nat.mul_le_mul_left n hj
    rw [List.drop_append, List.drop_of_length_le (by omega), List.nil_append, hl, ← Nat.mul_sub]
    exact k _
theorem chk_one {n : Nat} {l : List α} (h : Chk lt n l) (hl : l.length ≤ n) : Srt lt l := by
  have := chk_head h
  rwa [List.take_of_length_le hl] at this
end

end Go.Proofs.Yteaimnlfbbkccaa
