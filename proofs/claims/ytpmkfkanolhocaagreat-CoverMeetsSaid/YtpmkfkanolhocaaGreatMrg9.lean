/- Put together out of several texts: what the laws of earlier stages left. -/
import Derived.Test.YtpmkfkanolhocaaGreatMrg2
import Derived.Shelf.SlSortCmp.KitK
import Derived.Sort.Defs
import Derived.Sort.WalkB2
import Derived.Sort.WalkB12
import Derived.Deep.LoopGhost
import Derived.Deep.Cut
namespace Go.Proofs.YtpmkfkanolhocaaGreat
open Go.RowKit Go.Sort
set_option linter.unusedVariables false

section
variable {α : Type}
/-- neither must stand ahead of the other -/
def eqv (lt : α → α → Bool) (x y : α) : Bool := !lt x y && !lt y x
/-- in order -/
def Srt (lt : α → α → Bool) (l : List α) : Prop := l.Pairwise (fun a b => lt b a = false)
/-- of each kind the same ones in the same order -/
def Fil (lt : α → α → Bool) (l m : List α) : Prop := ∀ x, l.filter (eqv lt x) = m.filter (eqv lt x)
variable {lt : α → α → Bool}
theorem eqv_self (T : SWO lt) (x : α) : eqv lt x x = true := by simp [eqv, T.irrefl]
theorem eqv_iff {x y : α} : eqv lt x y = true ↔ lt x y = false ∧ lt y x = false := by simp [eqv]
theorem Fil.refl (l : List α) : Fil lt l l := fun _ => rfl
theorem Fil.symm {l m : List α} (h : Fil lt l m) : Fil lt m l := fun x => (h x).symm
theorem Fil.trans {l m n : List α} (h : Fil lt l m) (k : Fil lt m n) : Fil lt l n := fun x => (h x).trans (k x)
theorem Fil.append {a b c d : List α} (h : Fil lt a b) (k : Fil lt c d) : Fil lt (a ++ c) (b ++ d) := fun x => by rw [List.filter_append, List.filter_append, h x, k x]
theorem Fil.mem (T : SWO lt) {l m : List α} (h : Fil lt l m) {x : α} (hx : x ∈ l) : x ∈ m := by
  have : x ∈ l.filter (eqv lt x) := List.mem_filter.2 ⟨hx, eqv_self T x⟩
  rw [h x] at this
  exact (List.mem_filter.1 this).1
/-- two lists of which no one is of a kind with one of the other, exchanged -/
theorem Fil.swap (T : SWO lt) {a b : List α} (h : ∀ x ∈ a, ∀ y ∈ b, lt y x = true) : Fil lt (a ++ b) (b ++ a) := by
  intro k
  rw [List.filter_append, List.filter_append]
  by_cases ha : a.filter (eqv lt k) = []
  · rw [ha]; simp
  · have hb : b.filter (eqv lt k) = [] := by
      rw [List.filter_eq_nil_iff]
      intro y hy hk
      obtain ⟨x, hx⟩ := List.exists_mem_of_ne_nil _ ha
      obtain ⟨hx, hxk⟩ := List.mem_filter.1 hx
      rw [eqv_iff] at hk hxk
      have := h x hx y hy
      have h2 := T.ntrans _ _ _ hk.2 hxk.1
      rw [this] at h2; simp at h2
    rw [hb]; simp
theorem srt_uniq (T : SWO lt) : ∀ {l m : List α}, Srt lt l → Srt lt m → Fil lt l m → l = m
  | [], m, _, _, h => by
    cases m with
    | nil => rfl
    | cons y m => exact absurd (Fil.mem T h.symm (List.mem_cons_self)) (by simp)
  | x :: l, [], _, _, h => absurd (Fil.mem T h (List.mem_cons_self)) (by simp)
  | x :: l, y :: m, hl, hm, h => by
    have hx := List.pairwise_cons.1 hl
    have hy := List.pairwise_cons.1 hm
    have e1 : lt y x = false := by
      rcases List.mem_cons.1 (Fil.mem T h.symm (List.mem_cons_self (a := y) (l := m))) with e | e
      · rw [e]; exact T.irrefl _
      · exact hx.1 _ e
    have e2 : lt x y = false := by
      rcases List.mem_cons.1 (Fil.mem T h (List.mem_cons_self (a := x) (l := l))) with e | e
      · rw [e]; exact T.irrefl _
      · exact hy.1 _ e
    have hxy : x = y := by
      have := h x
      rw [List.filter_cons_of_pos (eqv_self T x), List.filter_cons_of_pos (eqv_iff.2 ⟨e2, e1⟩)] at this
      exact (List.cons.inj this).1
    subst hxy
    have : Fil lt l m := by
      intro k
      have := h k
      by_cases hk : eqv lt k x = true
      · rw [List.filter_cons_of_pos hk, List.filter_cons_of_pos hk] at this
        exact (List.cons.inj this).2
      · rw [List.filter_cons_of_neg hk, List.filter_cons_of_neg hk] at this
        exact this
    rw [srt_uniq T hx.2 hy.2 this]

theorem srt_append {a b : List α} : Srt lt (a ++ b) ↔ Srt lt a ∧ Srt lt b ∧ ∀ x ∈ a, ∀ y ∈ b, lt y x = false := List.pairwise_append
theorem Fil.length {l m : List α} (T : SWO lt) (h : Fil lt l m) : l.length = m.length := by
  have key : ∀ n, ∀ l m : List α, l.length = n → Fil lt l m → l.length = m.length := by
    intro n
    induction n using Nat.strongRecOn with
    | _ n ih =>
      intro l m hn h
      cases l with
      | nil =>
        cases m with
        | nil => rfl
        | cons y m => exact absurd (Fil.mem T h.symm (List.mem_cons_self)) (by simp)
      | cons x r =>
        -- all of the kind of x, and the others
        have f : ∀ t : List α, (t.filter (eqv lt x)).length + (t.filter (fun y => !eqv lt x y)).length = t.length := fun t => by
          induction t with
          | nil => rfl
          | cons y t iht => cases hy : eqv lt x y <;> simp [hy] <;> omega
        have hless : ((x :: r).filter (fun y => !eqv lt x y)).length < n := by
          have := f (x :: r)
          have hp : 0 < ((x :: r).filter (eqv lt x)).length := List.length_pos_of_mem (List.mem_filter.2 ⟨List.mem_cons_self, eqv_self T x⟩)
          omega
        have h2 : Fil lt ((x :: r).filter (fun y => !eqv lt x y)) (m.filter (fun y => !eqv lt x y)) := by
          intro k
          rw [List.filter_filter, List.filter_filter]
          have swp : ∀ t : List α, t.filter (fun a => eqv lt k a && !eqv lt x a) = (t.filter (eqv lt k)).filter (fun a => !eqv lt x a) := fun t => by
            rw [List.filter_filter]; congr 1; funext a; rw [Bool.and_comm]
          rw [swp, swp, h k]
        have := ih _ hless _ _ rfl h2
        rw [← f (x :: r), ← f m, h x, this]
  exact key _ l m rfl h

/-- one, put where it belongs (behind its like), from the left -/
theorem halves (T : SWO lt) {L1 L2 R1 R2 S1 S2 : List α} (hL : Srt lt (L1 ++ L2)) (hR : Srt lt (R1 ++ R2)) (h1 : ∀ x ∈ L2, ∀ y ∈ R1, lt y x = true) (h2 : ∀ x ∈ L1, ∀ y ∈ R2, lt y x = false)
    (s1 : Srt lt S1) (s2 : Srt lt S2) (f1 : Fil lt (L1 ++ R1) S1) (f2 : Fil lt (L2 ++ R2) S2) : Srt lt (S1 ++ S2) ∧ Fil lt ((L1 ++ L2) ++ (R1 ++ R2)) (S1 ++ S2) := by
  obtain ⟨_, _, l12⟩ := srt_append.1 hL
  obtain ⟨_, _, r12⟩ := srt_append.1 hR
  constructor
  · refine srt_append.2 ⟨s1, s2, fun x hx y hy => ?_⟩
    rcases List.mem_append.1 (Fil.mem T f1.symm hx) with hx | hx <;> rcases List.mem_append.1 (Fil.mem T f2.symm hy) with hy | hy
    · exact l12 x hx y hy
    · exact h2 x hx y hy
    · have := h1 y hy x hx
      cases e : lt y x
      · rfl
      · have := T.trans _ _ _ this e
        rw [T.irrefl] at this; simp at this
    · exact r12 x hx y hy
  · have e : Fil lt (L2 ++ R1) (R1 ++ L2) := Fil.swap T fun x hx y hy => h1 x hx y hy
    have : Fil lt ((L1 ++ L2) ++ (R1 ++ R2)) ((L1 ++ R1) ++ (L2 ++ R2)) := by
      have := ((Fil.refl L1).append e).append (Fil.refl (lt := lt) R2)
      simpa [List.append_assoc] using this
    exact this.trans (f1.append f2)

/-- a front of a sorted list up to which all hold what an order gives -/
theorem srt_take {l : List α} (h : Srt lt l) (n : Nat) : Srt lt (l.take n) := h.sublist (List.take_sublist _ _)
theorem srt_drop {l : List α} (h : Srt lt l) (n : Nat) : Srt lt (l.drop n) := h.sublist (List.drop_sublist _ _)
end

/-! ### exchanges -/
section
variable {α : Type} [Inhabited α]
theorem swp_list (p m q : List α) (x y : α) (i j : Nat) (hi : p.length = i) (hj : i + 1 + m.length = j) : swp (p ++ x :: (m ++ y :: q)).toArray i j = (p ++ y :: (m ++ x :: q)).toArray := by
  subst hi
  subst hj
  have e0 : (p ++ x :: (m ++ y :: q)).toArray[p.length + 1 + m.length]! = y := by
    have : (p ++ x :: (m ++ y :: q))[p.length + 1 + m.length]? = some y := by
      rw [List.getElem?_append_right (by omega), show p.length + 1 + m.length - p.length = m.length + 1 by omega, List.getElem?_cons_succ, List.getElem?_append_right (by omega)]
      simp
    simp [this]
  have e1 : (p ++ x :: (m ++ y :: q)).toArray[p.length]! = x := by simp
  unfold swp
  rw [e0, e1]
  apply Array.toList_inj.1
  simp only [Array.toList_setIfInBounds]
  rw [List.set_append_right _ _ (by omega), Nat.sub_self, List.set_cons_zero]
  rw [List.set_append_right _ _ (by omega), show p.length + 1 + m.length - p.length = m.length + 1 by omega, List.set_cons_succ, List.set_append_right _ _ (by omega), Nat.sub_self, List.set_cons_zero]
end
end Go.Proofs.YtpmkfkanolhocaaGreat
namespace Go.Proofs.YtpmkfkanolhocaaGreat
open Go.RowKit Go.Shelf Go.Lib Go.Sort
set_option linter.unusedVariables false

section
variable {α : Type} [Inhabited α] {enc : α → List Value} {k : Nat}
/-- the slice at blk, off holds l; beside it only draws, and blocks that were laid since w0 -/
def SK (enc : α → List Value) (k : Nat) (w0 : World) (blk off : Nat) (l : List α) (W : World) : Prop := SWK enc k w0 blk off l.toArray W
theorem SK.swapped {w0 W : World} {blk off : Nat} {l l0 : List α} (h : SK enc k w0 blk off l W) (R : RowK enc k w0 blk off l0.toArray) {p m q : List α} {x y : α} {i j : Nat} (e : l = p ++ x :: (m ++ y :: q)) (hi : p.length = i) (hj : i + 1 + m.length = j) :
    SK enc k w0 blk off (p ++ y :: (m ++ x :: q)) ((W.drew.setCells blk (off + i * k) (enc y)).setCells blk (off + j * k) (enc x)) := by
  subst e
  have hl : (p ++ x :: (m ++ y :: q)).length = p.length + 1 + m.length + 1 + q.length := by simp; omega
  have := SWK.swapped h R i j (by simp; omega) (by simp; omega)
  rw [swp_list p m q x y i j hi hj] at this
  subst hi
  subst hj
  have e0 : (p ++ x :: (m ++ y :: q)).toArray[p.length + 1 + m.length]! = y := by
    have : (p ++ x :: (m ++ y :: q))[p.length + 1 + m.length]? = some y := by
      rw [List.getElem?_append_right (by omega), show p.length + 1 + m.length - p.length = m.length + 1 by omega, List.getElem?_cons_succ, List.getElem?_append_right (by omega)]
      simp
    simp [this]
  have e1 : (p ++ x :: (m ++ y :: q)).toArray[p.length]! = x := by simp
  rw [e0, e1] at this
  exact this
theorem SK.facts {w0 W : World} {blk off : Nat} {l l0 : List α} (h : SK enc k w0 blk off l W) (R : RowK enc k w0 blk off l0.toArray) {p m q : List α} {x y : α} {i j : Nat} (e : l = p ++ x :: (m ++ y :: q)) (hi : p.length = i) (hj : i + 1 + m.length = j) (hs : l0.length = l.length) (P : Program) :
    Sem.run P (loadCellsFrom ⟨blk, off + i * k, none⟩ 0 k #[]) W.drew = .ok (enc x).toArray W.drew ∧ Sem.run P (loadCellsFrom ⟨blk, off + j * k, none⟩ 0 k #[]) W.drew = .ok (enc y).toArray W.drew ∧
    Sem.run P (storeCells ⟨blk, off + i * k, none⟩ (enc y) 0) W.drew = .ok () (W.drew.setCells blk (off + i * k) (enc y)) ∧
    Sem.run P (storeCells ⟨blk, off + j * k, none⟩ (enc x) 0) (W.drew.setCells blk (off + i * k) (enc y)) = .ok () ((W.drew.setCells blk (off + i * k) (enc y)).setCells blk (off + j * k) (enc x)) ∧ (enc x).length = k ∧ (enc y).length = k := by
  subst e
  subst hi
  subst hj
  have hl : (p ++ x :: (m ++ y :: q)).length = p.length + 1 + m.length + 1 + q.length := by simp; omega
  have e0 : (p ++ x :: (m ++ y :: q)).toArray[p.length + 1 + m.length]! = y := by
    have : (p ++ x :: (m ++ y :: q))[p.length + 1 + m.length]? = some y := by
      rw [List.getElem?_append_right (by omega), show p.length + 1 + m.length - p.length = m.length + 1 by omega, List.getElem?_cons_succ, List.getElem?_append_right (by omega)]
      simp
    simp [this]
  have e1 : (p ++ x :: (m ++ y :: q)).toArray[p.length]! = x := by simp
  have hsz : (p ++ x :: (m ++ y :: q)).toArray.size = l0.toArray.size := by simpa using hs.symm
  have i1 : p.length < (p ++ x :: (m ++ y :: q)).toArray.size := by simp
  have i2 : p.length + 1 + m.length < (p ++ x :: (m ++ y :: q)).toArray.size := by simp; omega
  refine ⟨?_, ?_, SWK.st1 h R hsz P _ i1 y, SWK.st2 h R hsz P _ _ i1 i2 y x, R.hk _, R.hk _⟩
  · have := SWK.ld1 h R hsz P _ i1; rw [e1] at this; exact this
  · have := SWK.ld1 h R hsz P _ i2; rw [e0] at this; exact this
omit [Inhabited α] in
theorem take_more {l r : List α} {i : Nat} {x : α} (h : l.drop i = x :: r) : l.take (i + 1) = l.take i ++ [x] := by
  rw [List.take_add, h]; simp
end

set_option maxHeartbeats 4000000 in
set_option maxRecDepth 1000000 in
theorem swapRange_any {α : Type} [Inhabited α] (k : Nat) (zE : ∀ w, (Go.sizeOf 33).run Tryz.prog w = .ok k w) (enc : α → List Value) (g : Nat) (cb : Array Value) (blk off cap a b n : Nat) (l0 : List α) (w0 w : World) (R : RowK enc k w0 blk off l0.toArray) (p X m Y q : List α) (hX : X.length = n) (hY : Y.length = n) (ha : p.length = a) (hb : a + n + m.length = b)
    (hs : l0.length = (p ++ X ++ m ++ Y ++ q).length) (hsz : l0.length ≤ 1000) (S : SK enc k w0 blk off (p ++ X ++ m ++ Y ++ q) w) :
    Calls Tryz.prog 111 #[.slice (some ⟨blk, off, none⟩) l0.length cap, .int .i64 a, .int .i64 b, .int .i64 n, .func (.func g) #[] cb] w fun e w' => e = .returned (.tuple #[]) ∧ SK enc k w0 blk off (p ++ Y ++ m ++ X ++ q) w' := by
  have S0 : Aside (SK enc k w0 blk off (p ++ X ++ m ++ Y ++ q) w) := S
  have hlen : l0.length = a + n + m.length + n + q.length := by rw [hs]; simp; omega
  have hmix : Tryz.prog.follows .mixedOrders = true := by kernel_rfl
  clear S hs
  go_enter Tryz.func111, Tryz.ntmps111
  go_wp2
  go_loopg [10] n (fun kx s8 wr => ∃ (i : Nat), s8 = .int .i64 i ∧ i ≤ n ∧ n - i ≤ kx ∧ Aside (SK enc k w0 blk off (p ++ (Y.take i ++ X.drop i) ++ m ++ (X.take i ++ Y.drop i) ++ q) wr))
  case atStart => exact ⟨0, rfl, by omega, by omega, by simpa using S0⟩
  case round =>
    clear S0
    obtain ⟨i, rfl, hin, hkx, S1⟩ := hrel
    by_cases hlt : i < n
    · have hltz : (i : Int) < (n : Int) := by omega
      obtain ⟨x, hx⟩ : ∃ x, X.drop i = x :: X.drop (i + 1) := ⟨X[i], by rw [List.drop_eq_getElem_cons (by omega)]⟩
      obtain ⟨y, hy⟩ : ∃ y, Y.drop i = y :: Y.drop (i + 1) := ⟨Y[i], by rw [List.drop_eq_getElem_cons (by omega)]⟩
      have e0 : p ++ (Y.take i ++ X.drop i) ++ m ++ (X.take i ++ Y.drop i) ++ q = (p ++ Y.take i) ++ x :: ((X.drop (i + 1) ++ m ++ X.take i) ++ y :: (Y.drop (i + 1) ++ q)) := by rw [hx, hy]; simp
      have e1 : p ++ (Y.take (i + 1) ++ X.drop (i + 1)) ++ m ++ (X.take (i + 1) ++ Y.drop (i + 1)) ++ q = (p ++ Y.take i) ++ y :: ((X.drop (i + 1) ++ m ++ X.take i) ++ x :: (Y.drop (i + 1) ++ q)) := by
        rw [take_more hx, take_more hy]; simp
      have n1 : (p ++ Y.take i).length = a + i := by simp; omega
      have n2 : a + i + 1 + (X.drop (i + 1) ++ m ++ X.take i).length = b + i := by simp; omega
      have S2 : Aside (SK enc k w0 blk off (p ++ (Y.take (i + 1) ++ X.drop (i + 1)) ++ m ++ (X.take (i + 1) ++ Y.drop (i + 1)) ++ q) ((wr.drew.setCells blk (off + (a + i) * k) (enc y)).setCells blk (off + (b + i) * k) (enc x))) := by
        have := SK.swapped S1.out R e0 n1 n2
        rw [← e1] at this
        exact this
      obtain ⟨la, lb, sa, sb, na, nb⟩ := S1.out.facts R e0 n1 n2 (by rw [hlen]; simp; omega) Tryz.prog
      have wa : IntKind.i64.wrap ((a : Int) + (i : Int)) = (a : Int) + (i : Int) := by rw [IntKind.wrap_i64]; omega
      have wb : IntKind.i64.wrap ((b : Int) + (i : Int)) = (b : Int) + (i : Int) := by rw [IntKind.wrap_i64]; omega
      have ta : ((a : Int) + (i : Int)).toNat = a + i := by omega
      have tb : ((b : Int) + (i : Int)).toNat = b + i := by omega
      have pa : (0 : Int) ≤ (a : Int) + (i : Int) := by omega
      have pb : (0 : Int) ≤ (b : Int) + (i : Int) := by omega
      have ba : (a : Int) + (i : Int) < (l0.length : Int) := by omega
      have bb : (b : Int) + (i : Int) < (l0.length : Int) := by omega
      generalize enc x = cx at S2 la sb na
      generalize enc y = cy at S2 lb sa sb nb
      clear S1 e0 e1 hx hy
      go_wp2_with fail
      go_big_region_o
      clear la lb sa sb
      generalize (wr.drew.setCells blk (off + (a + i) * k) cy).setCells blk (off + (b + i) * k) cx = w2 at S2 ⊢
      go_wp2
      go_roundg (n - (i + 1))
      case measure => omega
      case rel => exact ⟨i + 1, by simp, by omega, Nat.le_refl _, S2⟩
    · have hltz : ¬ (i : Int) < (n : Int) := by omega
      have hi : i = n := by omega
      subst hi
      go_wp2
      go_end0
      refine ⟨rfl, ?_⟩
      have := S1.out
      rw [List.take_of_length_le (by omega), List.take_of_length_le (by omega), List.drop_of_length_le (by omega), List.drop_of_length_le (by omega)] at this
      simpa using this
end Go.Proofs.YtpmkfkanolhocaaGreat
namespace Go.Proofs.YtpmkfkanolhocaaGreat
open Go.RowKit Go.Shelf Go.Lib Go.Sort
set_option linter.unusedVariables false

set_option maxHeartbeats 4000000 in
set_option maxRecDepth 1000000 in
theorem rotate_any {α : Type} [Inhabited α] (k : Nat) (zE : ∀ w, (Go.sizeOf 33).run Tryz.prog w = .ok k w) (enc : α → List Value) (g : Nat) (cb : Array Value) (blk off cap a m b : Nat) (l0 : List α) (w0 w : World) (R : RowK enc k w0 blk off l0.toArray) (p U V q : List α) (ha : p.length = a) (hm : a + U.length = m) (hb : m + V.length = b) (hU : U ≠ []) (hV : V ≠ [])
    (hs : l0.length = (p ++ U ++ V ++ q).length) (hsz : l0.length ≤ 1000) (S : SK enc k w0 blk off (p ++ U ++ V ++ q) w) :
    Calls Tryz.prog 99 #[.slice (some ⟨blk, off, none⟩) l0.length cap, .int .i64 a, .int .i64 m, .int .i64 b, .func (.func g) #[] cb] w fun e w' => e = .returned (.tuple #[]) ∧ SK enc k w0 blk off (p ++ V ++ U ++ q) w' := by
  have S0 : Aside (SK enc k w0 blk off (p ++ U ++ V ++ q) w) := S
  have hlen : l0.length = a + U.length + V.length + q.length := by rw [hs]; simp; omega
  have HL := hid hlen
  have h1 : 1 ≤ U.length := List.length_pos_iff.2 hU
  have h2 : 1 ≤ V.length := List.length_pos_iff.2 hV
  obtain ⟨I, hI⟩ : ∃ I, I = U.length := ⟨_, rfl⟩
  obtain ⟨J, hJ⟩ : ∃ J, J = V.length := ⟨_, rfl⟩
  obtain ⟨Z, hZ⟩ : ∃ Z, Z = p ++ V ++ U ++ q := ⟨_, rfl⟩
  have wi : (m : Int) - (a : Int) = (I : Int) := by omega
  have wj : (b : Int) - (m : Int) = (J : Int) := by omega
  rw [← hZ]
  have HZ := hid hZ
  clear S hs hZ hlen
  go_enter Tryz.func99, Tryz.ntmps99
  go_wp2
  go_loopg [10, 11] (I + J) (fun kx s10 s11 wr => ∃ (i j : Nat) (p U V q : List α), s10 = .int .i64 i ∧ s11 = .int .i64 j ∧ 1 ≤ i ∧ 1 ≤ j ∧ i + j ≤ kx ∧ U.length = i ∧ V.length = j ∧ p.length + i = m ∧ p.length + i + j + q.length = l0.length ∧ Aside (SK enc k w0 blk off (p ++ U ++ V ++ q) wr) ∧ Hid (p ++ V ++ U ++ q = Z))
  case atStart =>
    have := HL.out
    exact ⟨I, J, p, U, V, q, by rw [hI]; congr 1; unfold wrap64; omega, by rw [hJ]; congr 1; unfold wrap64; omega, by omega, by omega, by omega, hI.symm, hJ.symm, by omega, by omega, S0, HZ.out.symm⟩
  case round =>
    clear S0 wi wj
    obtain ⟨i, j, p', U', V', q', rfl, rfl, hi1, hj1, hkx, hUi, hVj, hpm, hpl, S1, heq⟩ := hrel
    by_cases hij : i = j
    · subst hij
      have en : ((i : Int) != (i : Int)) = false := by simp
      have hcon := swapRange_any k zE enc g cb blk off cap (m - i) m i l0 w0 wr R p' U' [] V' q' hUi hVj (by omega) (by simp; omega) (by simp; omega) hsz (by simpa using S1.out)
      rw [show ((m - i : Nat) : Int) = (m : Int) - i by omega] at hcon
      clear S1
      go_wp2_with (first | (go_at_call 111; refine hcon.mono ?_; rintro e w2 ⟨rfl, S2⟩) | fail)
      go_end0
      refine ⟨rfl, ?_⟩
      rw [← heq.out]
      simpa using S2
    · have en : ((i : Int) != (j : Int)) = true := by simp; omega
      by_cases hgt : j < i
      · have hgz : (j : Int) < (i : Int) := by omega
        have hcon := swapRange_any k zE enc g cb blk off cap (m - i) m j l0 w0 wr R p' (U'.take j) (U'.drop j) V' q' (by simp; omega) hVj (by omega) (by simp; omega) (by simp; omega) hsz (by have := S1.out; rw [← List.take_append_drop j U'] at this; simpa [List.append_assoc] using this)
        rw [show ((m - i : Nat) : Int) = (m : Int) - i by omega] at hcon
        clear S1
        go_wp2_with (first | (go_at_call 111; refine hcon.mono ?_; rintro e w2 ⟨rfl, S2⟩) | fail)
        go_roundg (i - j + j)
        case measure => omega
        case rel =>
          refine ⟨i - j, j, p' ++ V', U'.drop j, U'.take j, q', by congr 1; omega, rfl, by omega, hj1, Nat.le_refl _, by simp; omega, by simp; omega, by simp; omega, by simp; omega, ?_, ?_⟩
          · show SK enc k w0 blk off _ _
            simpa [List.append_assoc] using S2
          · show _ = _
            rw [← heq.out]
            simp only [List.append_assoc]
            rw [← List.append_assoc (U'.take j), List.take_append_drop]
      · have hgz : ¬ (j : Int) < (i : Int) := by omega
        have hcon := swapRange_any k zE enc g cb blk off cap (m - i) (m + j - i) i l0 w0 wr R p' U' (V'.take (j - i)) (V'.drop (j - i)) q' hUi (by simp; omega) (by omega) (by simp; omega) (by simp; omega) hsz (by have := S1.out; rw [← List.take_append_drop (j - i) V'] at this; simpa [List.append_assoc] using this)
        rw [show ((m - i : Nat) : Int) = (m : Int) - i by omega, show ((m + j - i : Nat) : Int) = (m : Int) + j - i by omega] at hcon
        clear S1
        go_wp2_with (first | (go_at_call 111; refine hcon.mono ?_; rintro e w2 ⟨rfl, S2⟩) | fail)
        go_roundg (i + (j - i))
        case measure => omega
        case rel =>
          refine ⟨i, j - i, p', V'.drop (j - i), V'.take (j - i), U' ++ q', rfl, by congr 1; omega, hi1, by omega, Nat.le_refl _, by simp; omega, by simp; omega, by omega, by simp; omega, ?_, ?_⟩
          · show SK enc k w0 blk off _ _
            simpa [List.append_assoc] using S2
          · show _ = _
            rw [← heq.out]
            simp only [List.append_assoc]
            rw [← List.append_assoc (V'.take (j - i)), List.take_append_drop]
end Go.Proofs.YtpmkfkanolhocaaGreat
namespace Go.Proofs.YtpmkfkanolhocaaGreat
open Go.RowKit Go.Shelf Go.Lib Go.Sort
set_option linter.unusedVariables false

section
variable {α : Type} [Inhabited α] {enc : α → List Value} {k : Nat}
theorem SK.grown {w0 W : World} {blk off : Nat} {l : List α} (h : SK enc k w0 blk off l W) (n : Nat) (os : Array Obj) : SK enc k w0 blk off l (grow (W.drewN n) os) := SWK.grown h n os
/-- two that are held against one another -/
theorem SK.held {P : Program} {g : Nat} {cb : Array Value} {cf : α → α → Int} {w0 W : World} {blk off : Nat} {l l0 : List α} (h : SK enc k w0 blk off l W) (R : RowK enc k w0 blk off l0.toArray) (hC : CmpLays P g cb enc k cf blk off l0.length w0) (hs : l0.length = l.length) {i j : Nat} {x y : α} (hi : l[i]? = some x) (hj : l[j]? = some y) :
    (∀ n os, Sem.run P (loadCellsFrom ⟨blk, off + i * k, none⟩ 0 k #[]) (grow (W.drewN n) os) = .ok (enc x).toArray (grow (W.drewN n) os)) ∧ (∀ n os, Sem.run P (loadCellsFrom ⟨blk, off + j * k, none⟩ 0 k #[]) (grow (W.drewN n) os) = .ok (enc y).toArray (grow (W.drewN n) os)) ∧
    (∀ n os, Calls P g (#[.agg (enc x).toArray, .agg (enc y).toArray] ++ cb) (grow (W.drewN n) os) fun e w' => e = .returned (.int .i64 (cf x y)) ∧ ∃ q os', w' = grow ((grow (W.drewN n) os).drewN q) os') := by
  have i1 : i < l.length := (List.getElem?_eq_some_iff.1 hi).1
  have i2 : j < l.length := (List.getElem?_eq_some_iff.1 hj).1
  have e1 : l.toArray[i]! = x := by simp [hi]
  have e2 : l.toArray[j]! = y := by simp [hj]
  have hsz : l.toArray.size = l0.toArray.size := by simpa using hs.symm
  refine ⟨fun n os => ?_, fun n os => ?_, fun n os => SWK.cmp h hC (by simpa using hs.symm) x y n os⟩
  · have := SWK.ld h R hsz P i (by simpa using i1) n os; rw [e1] at this; exact this
  · have := SWK.ld h R hsz P j (by simpa using i2) n os; rw [e2] at this; exact this
end

section
variable {α : Type} {lt : α → α → Bool}
/-- all up to one that is below x are below x -/
theorem srt_below (T : SWO lt) {l : List α} (h : Srt lt l) {i : Nat} {x y : α} (hy : l[i]? = some y) (hb : lt y x = true) : ∀ z ∈ l.take (i + 1), lt z x = true := by
  intro z hz
  obtain ⟨hi, rfl⟩ := List.getElem?_eq_some_iff.1 hy
  obtain ⟨j, hj, rfl⟩ := List.mem_take_iff_getElem.1 hz
  by_cases e : j = i
  · subst e; exact hb
  · have h1 := List.pairwise_iff_getElem.1 h j i (by omega) hi (by omega)
    cases h2 : lt l[j] x
    · have := T.ntrans _ _ _ h1 h2
      rw [hb] at this; simp at this
    · rfl
/-- all from one on that is not below x are not below x -/
theorem srt_above (T : SWO lt) {l : List α} (h : Srt lt l) {i : Nat} {x y : α} (hy : l[i]? = some y) (hb : lt y x = false) : ∀ z ∈ l.drop i, lt z x = false := by
  intro z hz
  obtain ⟨hi, rfl⟩ := List.getElem?_eq_some_iff.1 hy
  obtain ⟨j, hj, rfl⟩ := List.mem_drop_iff_getElem.1 hz
  by_cases e : j = 0
  · subst e; simpa using hb
  · have h1 := List.pairwise_iff_getElem.1 h i (i + j) hi (by omega) (by omega)
    exact T.ntrans _ _ _ h1 hb
/-- all up to one that x is not below are so -/
theorem srt_below' (T : SWO lt) {l : List α} (h : Srt lt l) {i : Nat} {x y : α} (hy : l[i]? = some y) (hb : lt x y = false) : ∀ z ∈ l.take (i + 1), lt x z = false := by
  intro z hz
  obtain ⟨hi, rfl⟩ := List.getElem?_eq_some_iff.1 hy
  obtain ⟨j, hj, rfl⟩ := List.mem_take_iff_getElem.1 hz
  by_cases e : j = i
  · subst e; exact hb
  · have h1 := List.pairwise_iff_getElem.1 h j i (by omega) hi (by omega)
    exact T.ntrans _ _ _ hb h1
/-- all from one on that x is below are so -/
theorem srt_above' (T : SWO lt) {l : List α} (h : Srt lt l) {i : Nat} {x y : α} (hy : l[i]? = some y) (hb : lt x y = true) : ∀ z ∈ l.drop i, lt x z = true := by
  intro z hz
  obtain ⟨hi, rfl⟩ := List.getElem?_eq_some_iff.1 hy
  obtain ⟨j, hj, rfl⟩ := List.mem_drop_iff_getElem.1 hz
  by_cases e : j = 0
  · subst e; simpa using hb
  · have h1 := List.pairwise_iff_getElem.1 h i (i + j) hi (by omega) (by omega)
    cases h2 : lt x l[i + j]
    · have := T.ntrans _ _ _ h2 h1
      rw [hb] at this; simp at this
    · rfl
/-- one put in from the left -/
theorem put_left (T : SWO lt) {l : List α} (h : Srt lt l) {i : Nat} {x : α} (h1 : ∀ z ∈ l.take i, lt z x = true) (h2 : ∀ z ∈ l.drop i, lt z x = false) : Srt lt (l.take i ++ x :: l.drop i) ∧ Fil lt (x :: l) (l.take i ++ x :: l.drop i) := by
  constructor
  · refine srt_append.2 ⟨srt_take h _, List.pairwise_cons.2 ⟨fun z hz => h2 z hz, srt_drop h _⟩, fun y hy z hz => ?_⟩
    rcases List.mem_cons.1 hz with rfl | hz
    · cases e : lt z y
      · rfl
      · have := T.trans _ _ _ (h1 y hy) e
        rw [T.irrefl] at this; simp at this
    · rw [← List.take_append_drop i l] at h
      exact (srt_append.1 h).2.2 y hy z hz
  · have := (Fil.swap T (a := [x]) (b := l.take i) (fun y hy z hz => by rw [List.mem_singleton.1 hy]; exact h1 z hz)).append (Fil.refl (lt := lt) (l.drop i))
    simpa [List.append_assoc] using this
/-- one put in from the right -/
theorem put_right (T : SWO lt) {l : List α} (h : Srt lt l) {i : Nat} {x : α} (h1 : ∀ z ∈ l.take i, lt x z = false) (h2 : ∀ z ∈ l.drop i, lt x z = true) : Srt lt (l.take i ++ x :: l.drop i) ∧ Fil lt (l ++ [x]) (l.take i ++ x :: l.drop i) := by
  constructor
  · refine srt_append.2 ⟨srt_take h _, List.pairwise_cons.2 ⟨fun z hz => ?_, srt_drop h _⟩, fun y hy z hz => ?_⟩
    · cases e : lt z x
      · rfl
      · have := T.trans _ _ _ (h2 z hz) e
        rw [T.irrefl] at this; simp at this
    · rcases List.mem_cons.1 hz with rfl | hz
      · exact h1 y hy
      · rw [← List.take_append_drop i l] at h
        exact (srt_append.1 h).2.2 y hy z hz
  · have := (Fil.refl (lt := lt) (l.take i)).append (Fil.swap T (a := l.drop i) (b := [x]) (fun y hy z hz => by rw [List.mem_singleton.1 hz]; exact h2 y hy))
    rw [← List.append_assoc, List.take_append_drop] at this
    simpa using this
end

theorem half_eq {i j h : Nat} (hh : h = (i + j) / 2) (hi : i + j ≤ 4000) : wrap64 (IntKind.u64.wrap (wrap64 ((i : Int) + (j : Int))) / 2) = (h : Int) := by
  have e1 : wrap64 ((i : Int) + (j : Int)) = (i : Int) + j := by unfold wrap64; omega
  have e2 : IntKind.u64.wrap ((i : Int) + (j : Int)) = (i : Int) + j := by simp [IntKind.wrap, IntKind.bits, IntKind.signed]; omega
  rw [e1, e2]
  unfold wrap64
  omega

set_option maxHeartbeats 4000000 in
set_option maxRecDepth 1000000 in
theorem symMerge_one {α : Type} [Inhabited α] (k : Nat) (zE : ∀ w, (Go.sizeOf 33).run Tryz.prog w = .ok k w) (aE : ∀ w, (isAgg 33).run Tryz.prog w = .ok true w) (enc : α → List Value) (cf : α → α → Int) (T : SWO (ltOf cf)) (g : Nat) (cb : Array Value) (blk off cap a m b : Nat) (l0 : List α) (w0 w : World)
    (eg : ∀ args w, (callFunc g args).run Tryz.prog w = .ok (.enter g args) w) (hC : CmpLays Tryz.prog g cb enc k cf blk off l0.length w0) (R : RowK enc k w0 blk off l0.toArray) (p V q : List α) (x : α) (ha : p.length = a) (hm : a + 1 = m) (hb : m + V.length = b) (hV : Srt (ltOf cf) V)
    (hs : l0.length = (p ++ x :: (V ++ q)).length) (hsz : l0.length ≤ 1000) (S : SK enc k w0 blk off (p ++ x :: (V ++ q)) w) :
    Calls Tryz.prog 83 #[.slice (some ⟨blk, off, none⟩) l0.length cap, .int .i64 a, .int .i64 m, .int .i64 b, .func (.func g) #[] cb] w fun e w' => e = .returned (.tuple #[]) ∧ ∃ M, Srt (ltOf cf) M ∧ Fil (ltOf cf) (x :: V) M ∧ SK enc k w0 blk off (p ++ M ++ q) w' := by
  have S0 : Aside (SK enc k w0 blk off (p ++ x :: (V ++ q)) w) := S
  have HC : Aside (CmpLays Tryz.prog g cb enc k cf blk off l0.length w0) := hC
  have hmix : Tryz.prog.follows .mixedOrders = true := by kernel_rfl
  have hlen : l0.length = a + 1 + V.length + q.length := by rw [hs]; simp; omega
  have HL := hid hlen
  have HV := hid hV
  obtain ⟨N, hN⟩ : ∃ N, N = l0.length := ⟨_, rfl⟩
  have w1 : IntKind.i64.wrap ((m : Int) - (a : Int)) = 1 := by rw [IntKind.wrap_i64]; omega
  have w1' : ((m : Int) - (a : Int) == 1) = true := by simp; omega
  clear S hs hlen hV hC
  go_enter Tryz.func83, Tryz.ntmps83
  go_wp2
  go_loopg [10, 11] (V.length) (fun kx s10 s11 wr => ∃ (i j : Nat), s10 = .int .i64 i ∧ s11 = .int .i64 j ∧ m ≤ i ∧ i ≤ j ∧ j ≤ b ∧ j - i ≤ kx ∧ Aside (SK enc k w0 blk off (p ++ x :: (V ++ q)) wr) ∧ Hid (∀ y ∈ V.take (i - m), ltOf cf y x = true) ∧ Hid (∀ y ∈ V.drop (j - m), ltOf cf y x = false))
  case atStart =>
    have := HL.out
    exact ⟨m, b, rfl, rfl, by omega, by omega, by omega, by omega, S0, by simp [Hid], by rw [List.drop_of_length_le (by omega)]; simp [Hid]⟩
  case round =>
    clear S0
    obtain ⟨i, j, rfl, rfl, hmi, hij, hjb, hkx, S1, B1, B2⟩ := hrel
    have hl := HL.out
    have hlh := HL
    clear hl
    by_cases hlt : i < j
    · have hltz : (i : Int) < (j : Int) := by omega
      obtain ⟨h, hh⟩ : ∃ h, h = (i + j) / 2 := ⟨_, rfl⟩
      have hhi : i ≤ h := by omega
      have hhj : h < j := by omega
      obtain ⟨y, hy⟩ : ∃ y, V[h - m]? = some y := ⟨V[h - m]'(by omega), List.getElem?_eq_getElem _⟩
      have hyz : (p ++ x :: (V ++ q))[h]? = some y := by
        rw [List.getElem?_append_right (by omega), show h - p.length = (h - m) + 1 by omega, List.getElem?_cons_succ, List.getElem?_append_left (by omega), hy]
      have hxz : (p ++ x :: (V ++ q))[a]? = some x := by rw [List.getElem?_append_right (by omega), ha, Nat.sub_self]; rfl
      obtain ⟨ly, lx, hc⟩ := S1.out.held R HC.out (by have := HL.out; simp; omega) hyz hxz
      have e1 : (h : Int) < (l0.length : Int) := by have := HL.out; omega
      have e2 : (a : Int) < (l0.length : Int) := by have := HL.out; omega
      have HB := hid (And.intro hy (And.intro hyz hxz))
      have HALF := hid (half_eq hh (by have := HL.out; omega))
      clear hy hyz hxz
      have HH := hid hh
      clear hh
      by_cases hv : cf y x < 0
      · have HLT := hid (decide_eq_true hv : ltOf cf y x = true)
        go_wp2_with fail
        rw [HALF.out]
        go_quiet_grown (first | (go_at_fn g; refine Calls.grown_of (hc _ _)))
        have S2 : Aside (SK enc k w0 blk off (p ++ x :: (V ++ q)) (grow (wr.drewN nq) osq)) := S1.out.grown nq osq
        have hd : decide (cf y x < 0) = true := HLT.out
        clear ly lx hc
        generalize grow (wr.drewN nq) osq = w2 at S2 ⊢
        go_wp2
        go_roundg (j - (h + 1))
        case measure => have := HH.out; omega
        case rel =>
          refine ⟨h + 1, j, by go_num, rfl, by omega, by omega, hjb, Nat.le_refl _, S2, ?_, B2⟩
          show ∀ z ∈ V.take (h + 1 - m), ltOf cf z x = true
          have := srt_below T HV.out HB.out.1 HLT.out
          rw [show h + 1 - m = h - m + 1 by omega]
          exact this
      · have HLT := hid (decide_eq_false hv : ltOf cf y x = false)
        go_wp2_with fail
        rw [HALF.out]
        go_quiet_grown (first | (go_at_fn g; refine Calls.grown_of (hc _ _)))
        have S2 : Aside (SK enc k w0 blk off (p ++ x :: (V ++ q)) (grow (wr.drewN nq) osq)) := S1.out.grown nq osq
        have hd : decide (cf y x < 0) = false := HLT.out
        clear ly lx hc
        generalize grow (wr.drewN nq) osq = w2 at S2 ⊢
        go_wp2
        go_roundg (h - i)
        case measure => have := HH.out; omega
        case rel =>
          refine ⟨i, h, rfl, rfl, hmi, by omega, by omega, Nat.le_refl _, S2, B1, ?_⟩
          show ∀ z ∈ V.drop (h - m), ltOf cf z x = false
          exact srt_above T HV.out HB.out.1 HLT.out
    · have hltz : ¬ (i : Int) < (j : Int) := by omega
      obtain rfl : i = j := by omega
      have B1 := B1
      have wk : IntKind.i64.wrap ((i : Int) - 1) = (i : Int) - 1 := by have := HL.out; rw [IntKind.wrap_i64]; omega
      go_wp2
      go_loopg [13] (i - m) (fun kx s13 wr => ∃ (c : Nat), s13 = .int .i64 c ∧ a ≤ c ∧ c + 1 ≤ i ∧ i - 1 - c ≤ kx ∧ Aside (SK enc k w0 blk off (p ++ ((V.take (i - m)).take (c - a) ++ x :: ((V.take (i - m)).drop (c - a) ++ V.drop (i - m))) ++ q) wr))
      case atStart => exact ⟨a, rfl, Nat.le_refl _, by omega, by omega, by simpa [Aside] using S1.out⟩
      case round =>
        clear S1
        obtain ⟨c, rfl, hac, hci, hkc, S1⟩ := hrel
        by_cases hlc : c + 1 < i
        · have hlz : (c : Int) < (i : Int) - 1 := by omega
          obtain ⟨Q, hQ⟩ : ∃ Q, Q = V.take (i - m) := ⟨_, rfl⟩
          obtain ⟨W, hW⟩ : ∃ W, W = V.drop (i - m) := ⟨_, rfl⟩
          have hQl : Q.length = i - m := by rw [hQ, List.length_take]; omega
          have hWl : Q.length + W.length = V.length := by rw [hQ, hW, List.length_take, List.length_drop]; omega
          have HQ := hid hQ
          have HW := hid hW
          rw [← hQ, ← hW] at S1
          obtain ⟨y, hy⟩ : ∃ y, Q.drop (c - a) = y :: Q.drop (c - a + 1) := ⟨Q[c - a]'(by omega), by rw [List.drop_eq_getElem_cons (by omega)]⟩
          have e0 : p ++ (Q.take (c - a) ++ x :: (Q.drop (c - a) ++ W)) ++ q = (p ++ Q.take (c - a)) ++ x :: ([] ++ y :: (Q.drop (c - a + 1) ++ W ++ q)) := by rw [hy]; simp
          have e1 : p ++ (Q.take (c - a + 1) ++ x :: (Q.drop (c - a + 1) ++ W)) ++ q = (p ++ Q.take (c - a)) ++ y :: ([] ++ x :: (Q.drop (c - a + 1) ++ W ++ q)) := by rw [take_more hy]; simp
          have n1 : (p ++ Q.take (c - a)).length = c := by rw [List.length_append, List.length_take, hQl]; omega
          have n2 : c + 1 + ([] : List α).length = c + 1 := rfl
          have S2 : Aside (SK enc k w0 blk off (p ++ (Q.take (c - a + 1) ++ x :: (Q.drop (c - a + 1) ++ W)) ++ q) ((wr.drew.setCells blk (off + c * k) (enc y)).setCells blk (off + (c + 1) * k) (enc x))) := by
            have := SK.swapped S1.out R e0 n1 n2
            rw [← e1] at this
            exact this
          obtain ⟨la, lb, sa, sb, na, nb⟩ := S1.out.facts R e0 n1 n2 (by have := HL.out; simp only [List.length_append, List.length_cons, List.length_take, List.length_drop]; omega) Tryz.prog
          have tb : ((c : Int) + 1).toNat = c + 1 := by omega
          have pb : (0 : Int) ≤ (c : Int) + 1 := by omega
          have ba : (c : Int) < (l0.length : Int) := by have := HL.out; omega
          have bb : (c : Int) + 1 < (l0.length : Int) := by have := HL.out; omega
          have wb : IntKind.i64.wrap ((c : Int) + 1) = (c : Int) + 1 := by have := HL.out; rw [IntKind.wrap_i64]; omega
          generalize enc x = cx at S2 la sb na
          generalize enc y = cy at S2 lb sa sb nb
          clear S1 e0 e1 hy hQ hW hQl hWl n1 n2
          go_wp2_with fail
          go_big_region_o
          clear la lb sa sb
          generalize (wr.drew.setCells blk (off + c * k) cy).setCells blk (off + (c + 1) * k) cx = w2 at S2 ⊢
          go_wp2
          go_roundg (i - 1 - (c + 1))
          case measure => omega
          case rel => exact ⟨c + 1, by go_num, by omega, by omega, Nat.le_refl _, by rw [show c + 1 - a = c - a + 1 by omega, ← HQ.out, ← HW.out]; exact S2⟩
        · have hlz : ¬ (c : Int) < (i : Int) - 1 := by omega
          go_wp2
          refine bodyPost_ret (results_none rfl _ _ _) rfl ?_
          have hp := put_left (x := x) T HV.out B1.out B2.out
          refine ⟨rfl, _, hp.1, hp.2, ?_⟩
          have := S1.out
          rw [show c - a = i - m by omega, List.take_of_length_le (by rw [List.length_take]; omega), List.drop_of_length_le (by rw [List.length_take]; omega)] at this
          simpa using this
end Go.Proofs.YtpmkfkanolhocaaGreat
namespace Go.Proofs.YtpmkfkanolhocaaGreat
open Go.RowKit Go.Shelf Go.Lib Go.Sort
set_option linter.unusedVariables false

section
variable {α : Type} [Inhabited α] {enc : α → List Value} {k : Nat}
theorem swp_back (d : Array α) (i j : Nat) (h : i ≠ j) : swp d j i = swp d i j := by
  unfold swp
  exact Array.setIfInBounds_comm _ _ (by omega)
/-- an exchange, the place behind written first -/
theorem SK.swapped' {w0 W : World} {blk off : Nat} {l l0 : List α} (h : SK enc k w0 blk off l W) (R : RowK enc k w0 blk off l0.toArray) {p m q : List α} {x y : α} {i j : Nat} (e : l = p ++ x :: (m ++ y :: q)) (hi : p.length = i) (hj : i + 1 + m.length = j) :
    SK enc k w0 blk off (p ++ y :: (m ++ x :: q)) ((W.drew.setCells blk (off + j * k) (enc x)).setCells blk (off + i * k) (enc y)) := by
  subst e
  have hl : (p ++ x :: (m ++ y :: q)).length = p.length + 1 + m.length + 1 + q.length := by simp; omega
  have := SWK.swapped h R j i (by simp; omega) (by simp; omega)
  rw [swp_back _ _ _ (by omega), swp_list p m q x y i j hi hj] at this
  subst hi
  subst hj
  have e0 : (p ++ x :: (m ++ y :: q)).toArray[p.length + 1 + m.length]! = y := by
    have : (p ++ x :: (m ++ y :: q))[p.length + 1 + m.length]? = some y := by
      rw [List.getElem?_append_right (by omega), show p.length + 1 + m.length - p.length = m.length + 1 by omega, List.getElem?_cons_succ, List.getElem?_append_right (by omega)]
      simp
    simp [this]
  have e1 : (p ++ x :: (m ++ y :: q)).toArray[p.length]! = x := by simp
  rw [e0, e1] at this
  exact this
theorem SK.facts' {w0 W : World} {blk off : Nat} {l l0 : List α} (h : SK enc k w0 blk off l W) (R : RowK enc k w0 blk off l0.toArray) {p m q : List α} {x y : α} {i j : Nat} (e : l = p ++ x :: (m ++ y :: q)) (hi : p.length = i) (hj : i + 1 + m.length = j) (hs : l0.length = l.length) (P : Program) :
    Sem.run P (loadCellsFrom ⟨blk, off + i * k, none⟩ 0 k #[]) W.drew = .ok (enc x).toArray W.drew ∧ Sem.run P (loadCellsFrom ⟨blk, off + j * k, none⟩ 0 k #[]) W.drew = .ok (enc y).toArray W.drew ∧
    Sem.run P (storeCells ⟨blk, off + j * k, none⟩ (enc x) 0) W.drew = .ok () (W.drew.setCells blk (off + j * k) (enc x)) ∧
    Sem.run P (storeCells ⟨blk, off + i * k, none⟩ (enc y) 0) (W.drew.setCells blk (off + j * k) (enc x)) = .ok () ((W.drew.setCells blk (off + j * k) (enc x)).setCells blk (off + i * k) (enc y)) ∧ (enc x).length = k ∧ (enc y).length = k := by
  obtain ⟨la, lb, _, _, na, nb⟩ := h.facts R e hi hj hs P
  have hl : l.length = p.length + 1 + m.length + 1 + q.length := by rw [e]; simp; omega
  have hsz : l.toArray.size = l0.toArray.size := by simpa using hs.symm
  have i1 : i < l.toArray.size := by simp; omega
  have i2 : j < l.toArray.size := by simp; omega
  exact ⟨la, lb, SWK.st1 h R hsz P _ i2 x, SWK.st2 h R hsz P _ _ i2 i1 x y, na, nb⟩
end

set_option maxHeartbeats 4000000 in
set_option maxRecDepth 1000000 in
theorem symMerge_last {α : Type} [Inhabited α] (k : Nat) (zE : ∀ w, (Go.sizeOf 33).run Tryz.prog w = .ok k w) (aE : ∀ w, (isAgg 33).run Tryz.prog w = .ok true w) (enc : α → List Value) (cf : α → α → Int) (T : SWO (ltOf cf)) (g : Nat) (cb : Array Value) (blk off cap a m b : Nat) (l0 : List α) (w0 w : World)
    (eg : ∀ args w, (callFunc g args).run Tryz.prog w = .ok (.enter g args) w) (hC : CmpLays Tryz.prog g cb enc k cf blk off l0.length w0) (R : RowK enc k w0 blk off l0.toArray) (p V q : List α) (x : α) (ha : p.length = a) (hm : a + V.length = m) (hb : m + 1 = b) (hV2 : 2 ≤ V.length) (hV : Srt (ltOf cf) V)
    (hs : l0.length = (p ++ (V ++ x :: q)).length) (hsz : l0.length ≤ 1000) (S : SK enc k w0 blk off (p ++ (V ++ x :: q)) w) :
    Calls Tryz.prog 83 #[.slice (some ⟨blk, off, none⟩) l0.length cap, .int .i64 a, .int .i64 m, .int .i64 b, .func (.func g) #[] cb] w fun e w' => e = .returned (.tuple #[]) ∧ ∃ M, Srt (ltOf cf) M ∧ Fil (ltOf cf) (V ++ [x]) M ∧ SK enc k w0 blk off (p ++ M ++ q) w' := by
  have S0 : Aside (SK enc k w0 blk off (p ++ (V ++ x :: q)) w) := S
  have HC : Aside (CmpLays Tryz.prog g cb enc k cf blk off l0.length w0) := hC
  have hmix : Tryz.prog.follows .mixedOrders = true := by kernel_rfl
  have hlen : l0.length = a + V.length + 1 + q.length := by rw [hs]; simp; omega
  have HL := hid hlen
  have HV := hid hV
  have HM := hid hm
  have w1 : IntKind.i64.wrap ((m : Int) - (a : Int)) = (m : Int) - (a : Int) := by rw [IntKind.wrap_i64]; omega
  have w1' : ((m : Int) - (a : Int) == 1) = false := by simp; omega
  have w2 : IntKind.i64.wrap ((b : Int) - (m : Int)) = 1 := by rw [IntKind.wrap_i64]; omega
  have w2' : ((b : Int) - (m : Int) == 1) = true := by simp; omega
  clear S hs hlen hV hC hm
  go_enter Tryz.func83, Tryz.ntmps83
  go_wp2
  go_loopg [14, 15] (V.length) (fun kx s10 s11 wr => ∃ (i j : Nat), s10 = .int .i64 i ∧ s11 = .int .i64 j ∧ a ≤ i ∧ i ≤ j ∧ j ≤ m ∧ j - i ≤ kx ∧ Aside (SK enc k w0 blk off (p ++ (V ++ x :: q)) wr) ∧ Hid (∀ y ∈ V.take (i - a), ltOf cf x y = false) ∧ Hid (∀ y ∈ V.drop (j - a), ltOf cf x y = true))
  case atStart =>
    have := HL.out
    have := HM.out
    exact ⟨a, m, rfl, rfl, by omega, by omega, by omega, by omega, S0, by simp [Hid], by rw [List.drop_of_length_le (by omega)]; simp [Hid]⟩
  case round =>
    clear S0
    obtain ⟨i, j, rfl, rfl, hmi, hij, hjb, hkx, S1, B1, B2⟩ := hrel
    have hm := HM.out
    by_cases hlt : i < j
    · have hltz : (i : Int) < (j : Int) := by omega
      obtain ⟨h, hh⟩ : ∃ h, h = (i + j) / 2 := ⟨_, rfl⟩
      have hhi : i ≤ h := by omega
      have hhj : h < j := by omega
      obtain ⟨y, hy⟩ : ∃ y, V[h - a]? = some y := ⟨V[h - a]'(by omega), List.getElem?_eq_getElem _⟩
      have hyz : (p ++ (V ++ x :: q))[h]? = some y := by
        rw [List.getElem?_append_right (by omega), ha, List.getElem?_append_left (by omega), hy]
      have hxz : (p ++ (V ++ x :: q))[m]? = some x := by rw [List.getElem?_append_right (by omega), List.getElem?_append_right (by omega), show m - p.length - V.length = 0 by omega]; rfl
      obtain ⟨lx, ly, hc⟩ := S1.out.held R HC.out (by have := HL.out; simp; omega) hxz hyz
      have e1 : (h : Int) < (l0.length : Int) := by have := HL.out; omega
      have e2 : (m : Int) < (l0.length : Int) := by have := HL.out; omega
      have HB := hid (And.intro hy (And.intro hyz hxz))
      have HALF := hid (half_eq hh (by have := HL.out; omega))
      have HALF2 : Hid (((i : Int) + (j : Int)) / 2 = (h : Int)) := by show _ = _; omega
      clear hy hyz hxz
      have HH := hid hh
      clear hh hm
      by_cases hv : cf x y < 0
      · have HLT := hid (decide_eq_true hv : ltOf cf x y = true)
        go_wp2_with fail
        first | rw [HALF.out] | rw [HALF2.out]
        go_quiet_grown (first | (go_at_fn g; refine Calls.grown_of (hc _ _)))
        have S2 : Aside (SK enc k w0 blk off (p ++ (V ++ x :: q)) (grow (wr.drewN nq) osq)) := S1.out.grown nq osq
        have hd : decide (cf x y < 0) = true := HLT.out
        have hd2 : (!decide (cf x y < 0)) = false := by rw [hd]; rfl
        clear ly lx hc
        generalize grow (wr.drewN nq) osq = w2 at S2 ⊢
        go_wp2
        all_goals try (exfalso; rename_i hcon; rw [show decide (cf x y < 0) = true from HLT.out] at hcon; simp at hcon; done)
        go_roundg (h - i)
        case measure => have := HH.out; omega
        case rel =>
          refine ⟨i, h, rfl, rfl, hmi, by omega, by omega, Nat.le_refl _, S2, B1, ?_⟩
          show ∀ z ∈ V.drop (h - a), ltOf cf x z = true
          exact srt_above' T HV.out HB.out.1 HLT.out
      · have HLT := hid (decide_eq_false hv : ltOf cf x y = false)
        go_wp2_with fail
        first | rw [HALF.out] | rw [HALF2.out]
        go_quiet_grown (first | (go_at_fn g; refine Calls.grown_of (hc _ _)))
        have S2 : Aside (SK enc k w0 blk off (p ++ (V ++ x :: q)) (grow (wr.drewN nq) osq)) := S1.out.grown nq osq
        have hd : decide (cf x y < 0) = false := HLT.out
        have hd2 : (!decide (cf x y < 0)) = true := by rw [hd]; rfl
        clear ly lx hc
        generalize grow (wr.drewN nq) osq = w2 at S2 ⊢
        go_wp2
        all_goals try (exfalso; rename_i hcon; rw [show decide (cf x y < 0) = false from HLT.out] at hcon; simp at hcon; done)
        go_roundg (j - (h + 1))
        case measure => have := HH.out; omega
        case rel =>
          refine ⟨h + 1, j, by go_num, rfl, by omega, by omega, hjb, Nat.le_refl _, S2, ?_, B2⟩
          show ∀ z ∈ V.take (h + 1 - a), ltOf cf x z = false
          have := srt_below' T HV.out HB.out.1 HLT.out
          rw [show h + 1 - a = h - a + 1 by omega]
          exact this
    · have hltz : ¬ (i : Int) < (j : Int) := by omega
      obtain rfl : i = j := by omega
      have B1 := B1
      obtain ⟨Q, hQ⟩ : ∃ Q, Q = V.drop (i - a) := ⟨_, rfl⟩
      obtain ⟨W, hW⟩ : ∃ W, W = V.take (i - a) := ⟨_, rfl⟩
      have hQl : Q.length = m - i := by rw [hQ, List.length_drop]; omega
      have hWl : W.length = i - a := by rw [hW, List.length_take]; omega
      have HVQ : Hid (V = W ++ Q) := by show _ = _; rw [hQ, hW, List.take_append_drop]
      have HQ := hid hQ
      have HW := hid hW
      have HQL := hid (And.intro hQl hWl)
      have S1' : Aside (SK enc k w0 blk off (p ++ (W ++ (Q.take (m - i) ++ x :: Q.drop (m - i))) ++ q) wr) := by
        rw [List.take_of_length_le (by omega), List.drop_of_length_le (by omega)]
        have := S1.out
        rw [HVQ.out] at this
        simpa [Aside] using this
      clear S1 hQ hW hQl hWl hm
      go_wp2
      go_loopg [17] (m - i) (fun kx s17 wr => ∃ (c : Nat), s17 = .int .i64 c ∧ i ≤ c ∧ c ≤ m ∧ c - i ≤ kx ∧ Aside (SK enc k w0 blk off (p ++ (W ++ (Q.take (c - i) ++ x :: Q.drop (c - i))) ++ q) wr))
      case atStart => exact ⟨m, rfl, by omega, by omega, by omega, S1'⟩
      case round =>
        clear S1'
        obtain ⟨c, rfl, hac, hci, hkc, S1⟩ := hrel
        by_cases hlc : i < c
        · have hlz : (i : Int) < (c : Int) := by omega
          obtain ⟨hQl, hWl⟩ := HQL.out
          obtain ⟨d, rfl⟩ : ∃ d, c = d + 1 := ⟨c - 1, by omega⟩
          obtain ⟨y, hy⟩ : ∃ y, Q.drop (d - i) = y :: Q.drop (d - i + 1) := ⟨Q[d - i]'(by omega), by rw [List.drop_eq_getElem_cons (by omega)]⟩
          have hd1 : d + 1 - i = d - i + 1 := by omega
          rw [hd1] at S1
          have e0 : p ++ (W ++ (Q.take (d - i + 1) ++ x :: Q.drop (d - i + 1))) ++ q = (p ++ W ++ Q.take (d - i)) ++ y :: ([] ++ x :: (Q.drop (d - i + 1) ++ q)) := by rw [take_more hy]; simp
          have e1 : p ++ (W ++ (Q.take (d - i) ++ x :: Q.drop (d - i))) ++ q = (p ++ W ++ Q.take (d - i)) ++ x :: ([] ++ y :: (Q.drop (d - i + 1) ++ q)) := by rw [hy]; simp
          have n1 : (p ++ W ++ Q.take (d - i)).length = d := by rw [List.length_append, List.length_append, List.length_take, hQl, hWl]; omega
          have n2 : d + 1 + ([] : List α).length = d + 1 := rfl
          have S2 : Aside (SK enc k w0 blk off (p ++ (W ++ (Q.take (d - i) ++ x :: Q.drop (d - i))) ++ q) ((wr.drew.setCells blk (off + (d + 1) * k) (enc y)).setCells blk (off + d * k) (enc x))) := by
            have := SK.swapped' S1.out R e0 n1 n2
            rw [← e1] at this
            exact this
          obtain ⟨la, lb, sa, sb, na, nb⟩ := S1.out.facts' R e0 n1 n2 (by have := HL.out; have := HM.out; simp only [List.length_append, List.length_cons, List.length_take, List.length_drop]; omega) Tryz.prog
          have tb : ((d : Int) + 1).toNat = d + 1 := by omega
          have pb : (0 : Int) ≤ (d : Int) + 1 := by omega
          have ba : (d : Int) < (l0.length : Int) := by have := HL.out; have := HM.out; omega
          have bb : (d : Int) + 1 < (l0.length : Int) := by have := HL.out; have := HM.out; omega
          have wb : IntKind.i64.wrap (d : Int) = (d : Int) := by have := HL.out; rw [IntKind.wrap_i64]; omega
          generalize enc x = cx at S2 lb sb nb
          generalize enc y = cy at S2 la sa sb na
          clear S1 e0 e1 hy hQl hWl n1 n2 hd1
          go_wp2_with fail
          go_big_region_o
          clear la lb sa sb
          generalize (wr.drew.setCells blk (off + (d + 1) * k) cy).setCells blk (off + d * k) cx = w2 at S2 ⊢
          go_wp2
          go_roundg (d - i)
          case measure => omega
          case rel => exact ⟨d, by first | rfl | go_num, by omega, by omega, Nat.le_refl _, S2⟩
        · have hlz : ¬ (i : Int) < (c : Int) := by omega
          go_wp2
          refine bodyPost_ret (results_none rfl _ _ _) rfl ?_
          have hp := put_right (x := x) T HV.out B1.out B2.out
          refine ⟨rfl, _, hp.1, hp.2, ?_⟩
          have := S1.out
          rw [show c - i = 0 by omega] at this
          rw [← HQ.out, ← HW.out]
          simpa using this
end Go.Proofs.YtpmkfkanolhocaaGreat
namespace Go.Proofs.YtpmkfkanolhocaaGreat
open Go.RowKit Go.Shelf Go.Lib Go.Sort
set_option linter.unusedVariables false

section
variable {α : Type} {lt : α → α → Bool}
theorem sym_parts (T : SWO lt) {U V : List α} (hU : Srt lt U) (hV : Srt lt V) {a m b mid lo hi s : Nat} (hm : a + U.length = m) (hb : m + V.length = b) (h1 : lo = a ∨ mid + m - lo = b) (h2 : hi = m ∨ mid + m - hi = m) (h3 : a ≤ lo) (h4 : hi ≤ m) (h5 : lo ≤ s) (h6 : s ≤ hi) (h7 : s ≤ mid)
    (B1 : s = lo ∨ ∃ x y, U[s - 1 - a]? = some x ∧ V[mid - s]? = some y ∧ lt y x = false) (B2 : s = hi ∨ ∃ x y, U[s - a]? = some x ∧ V[mid - 1 - s]? = some y ∧ lt y x = true) :
    (∀ x ∈ U.drop (s - a), ∀ y ∈ V.take (mid - s), lt y x = true) ∧ (∀ x ∈ U.take (s - a), ∀ y ∈ V.drop (mid - s), lt y x = false) := by
  constructor
  · intro x hx y hy
    rcases B2 with e | ⟨x0, y0, hx0, hy0, hlt⟩
    · rcases h2 with h | h
      · rw [List.drop_of_length_le (by omega)] at hx; simp at hx
      · rw [show mid - s = 0 by omega] at hy; simp at hy
    · by_cases he : mid - s = 0
      · rw [he] at hy; simp at hy
      · rw [show mid - s = mid - 1 - s + 1 by omega] at hy
        have := srt_below T hV hy0 hlt y hy
        exact srt_above' T hU hx0 this x hx
  · intro x hx y hy
    rcases B1 with e | ⟨x0, y0, hx0, hy0, hlt⟩
    · rcases h1 with h | h
      · rw [show s - a = 0 by omega] at hx; simp at hx
      · rw [List.drop_of_length_le (by omega)] at hy; simp at hy
    · by_cases he : s - a = 0
      · rw [he] at hx; simp at hx
      · rw [show s - a = s - 1 - a + 1 by omega] at hx
        have := srt_above T hV hy0 hlt y hy
        exact srt_below' T hU hx0 this x hx
end

/-- what merging two that are in order leaves -/
def SymPost {α : Type} [Inhabited α] (enc : α → List Value) (k : Nat) (cf : α → α → Int) (w0 : World) (blk off : Nat) (p L R q : List α) (e : Ending) (w' : World) : Prop :=
  e = .returned (.tuple #[]) ∧ ∃ M, Srt (ltOf cf) M ∧ Fil (ltOf cf) (L ++ R) M ∧ SK enc k w0 blk off (p ++ M ++ q) w'
/-- merging serves up to n -/
def SymOk {α : Type} [Inhabited α] (enc : α → List Value) (k : Nat) (cf : α → α → Int) (g : Nat) (cb : Array Value) (w0 : World) (blk off cap : Nat) (l0 : List α) (n : Nat) : Prop :=
  ∀ (a m b : Nat) (p L R q : List α) (w : World), p.length = a → a + L.length = m → m + R.length = b → L ≠ [] → R ≠ [] → L.length + R.length ≤ n → Srt (ltOf cf) L → Srt (ltOf cf) R → l0.length = (p ++ (L ++ R) ++ q).length → SK enc k w0 blk off (p ++ (L ++ R) ++ q) w →
    Calls Tryz.prog 83 #[.slice (some ⟨blk, off, none⟩) l0.length cap, .int .i64 a, .int .i64 m, .int .i64 b, .func (.func g) #[] cb] w (SymPost enc k cf w0 blk off p L R q)

set_option maxHeartbeats 4000000 in
set_option maxRecDepth 1000000 in
theorem symMerge_left {α : Type} [Inhabited α] (k : Nat) (zE : ∀ w, (Go.sizeOf 33).run Tryz.prog w = .ok k w) (aE : ∀ w, (isAgg 33).run Tryz.prog w = .ok true w) (enc : α → List Value) (cf : α → α → Int) (T : SWO (ltOf cf)) (g : Nat) (cb : Array Value) (blk off cap a m b mid : Nat) (l0 : List α) (w0 w : World)
    (eg : ∀ args w, (callFunc g args).run Tryz.prog w = .ok (.enter g args) w) (hC : CmpLays Tryz.prog g cb enc k cf blk off l0.length w0) (R : RowK enc k w0 blk off l0.toArray) (p U V q : List α) (ha : p.length = a) (hm : a + U.length = m) (hb : m + V.length = b) (hU2 : 2 ≤ U.length) (hV2 : 2 ≤ V.length) (hU : Srt (ltOf cf) U) (hV : Srt (ltOf cf) V)
    (hs : l0.length = (p ++ (U ++ V) ++ q).length) (hsz : l0.length ≤ 1000) (S : SK enc k w0 blk off (p ++ (U ++ V) ++ q) w) (IH : SymOk enc k cf g cb w0 blk off cap l0 (U.length + V.length - 1)) (hmid : mid = (a + b) / 2) (hway : mid < m) :
    Calls Tryz.prog 83 #[.slice (some ⟨blk, off, none⟩) l0.length cap, .int .i64 a, .int .i64 m, .int .i64 b, .func (.func g) #[] cb] w (SymPost enc k cf w0 blk off p U V q) := by
  have S0 : Aside (SK enc k w0 blk off (p ++ (U ++ V) ++ q) w) := S
  have HC : Aside (CmpLays Tryz.prog g cb enc k cf blk off l0.length w0) := hC
  have hmix : Tryz.prog.follows .mixedOrders = true := by kernel_rfl
  have hlen : l0.length = a + U.length + V.length + q.length := by rw [hs]; simp; omega
  have HL := hid hlen
  have HUV := hid (And.intro hU hV)
  have HM := hid (And.intro hm hb)
  have HI := hid IH
  have HALF := hid (half_eq hmid (by omega))
  have HALF2 : Hid (((a : Int) + (b : Int)) / 2 = (mid : Int)) := by show _ = _; omega
  have HMID := hid hmid
  have c1 : a < m := by omega
  have c2 : m < b := by omega
  have c3 : b ≤ l0.length := by omega
  have w1 : IntKind.i64.wrap ((m : Int) - (a : Int)) = (m : Int) - (a : Int) := by rw [IntKind.wrap_i64]; omega
  have w1' : ((m : Int) - (a : Int) == 1) = false := by simp; omega
  have w2 : IntKind.i64.wrap ((b : Int) - (m : Int)) = (b : Int) - (m : Int) := by rw [IntKind.wrap_i64]; omega
  have w2' : ((b : Int) - (m : Int) == 1) = false := by simp; omega
  clear S hs hlen hV hU hC hm hb IH hmid
  go_enter Tryz.func83, Tryz.ntmps83
  go_upto_region 25 with fail
  first | rw [HALF.out] | rw [HALF2.out]
  have hwz : (mid : Int) < (m : Int) := by omega
  obtain ⟨lo, hlo⟩ : ∃ lo, lo = mid + m - b := ⟨_, rfl⟩
  obtain ⟨hi, hhi⟩ : ∃ hi, hi = mid := ⟨_, rfl⟩
  have c4 : a < mid := by have := HMID.out; have := HM.out; omega
  have c5 : mid < b := by have := HMID.out; have := HM.out; omega
  have HLH : Hid (lo ≤ hi ∧ a ≤ lo ∧ hi ≤ m ∧ hi ≤ mid ∧ (∀ c, lo ≤ c → c < hi → c < m ∧ m ≤ mid + m - 1 - c ∧ mid + m - 1 - c < b) ∧ (lo = a ∨ mid + m - lo = b) ∧ (hi = m ∨ mid + m - hi = m) ∧ mid + m - lo ≤ b ∧ m ≤ mid + m - hi) := by
    have := HMID.out
    exact ⟨by omega, by omega, by omega, by omega, fun c _ _ => by omega, by omega, by omega, by omega, by omega⟩
  have HLO := hid (And.intro hlo hhi)
  clear hlo hhi
  go_wp2_with fail
  go_loopg [20, 21] (hi - lo) (fun kx s20 s21 wr => ∃ (s r : Nat), s20 = .int .i64 s ∧ s21 = .int .i64 r ∧ lo ≤ s ∧ s ≤ r ∧ r ≤ hi ∧ r - s ≤ kx ∧ Aside (SK enc k w0 blk off (p ++ (U ++ V) ++ q) wr) ∧
    Hid (s = lo ∨ ∃ x y, U[s - 1 - a]? = some x ∧ V[mid - s]? = some y ∧ ltOf cf y x = false) ∧ Hid (r = hi ∨ ∃ x y, U[r - a]? = some x ∧ V[mid - 1 - r]? = some y ∧ ltOf cf y x = true))
  case atStart =>
    have h1 := HLH.out
    have h2 := HLO.out
    have h3 := HM.out
    have h4 := HMID.out
    exact ⟨lo, hi, by first | rfl | (congr 1; omega), by first | rfl | (congr 1; omega), by omega, by omega, by omega, by omega, S0, Or.inl rfl, Or.inl rfl⟩
  case round =>
    clear S0
    obtain ⟨s, r, rfl, rfl, hls, hsr, hrh, hkx, S1, B1, B2⟩ := hrel
    by_cases hlt : s < r
    · have hltz : (s : Int) < (r : Int) := by omega
      obtain ⟨c, hc⟩ : ∃ c, c = (s + r) / 2 := ⟨_, rfl⟩
      have h1 : s ≤ c := by omega
      have h2 : c < r := by omega
      obtain ⟨g1, g2, g3⟩ := HLH.out.2.2.2.2.1 c (by omega) (by omega)
      obtain ⟨d, hd⟩ : ∃ d, d = mid + m - 1 - c := ⟨_, rfl⟩
      have hac : a ≤ c := by have := HLH.out; omega
      obtain ⟨x, hx⟩ : ∃ x, U[c - a]? = some x := ⟨U[c - a]'(by have := HM.out; omega), List.getElem?_eq_getElem _⟩
      obtain ⟨y, hy⟩ : ∃ y, V[d - m]? = some y := ⟨V[d - m]'(by have := HM.out; omega), List.getElem?_eq_getElem _⟩
      have hxz : (p ++ (U ++ V) ++ q)[c]? = some x := by
        have := HM.out
        rw [List.append_assoc, List.getElem?_append_right (by omega), List.append_assoc, List.getElem?_append_left (by omega), ha]; exact hx
      have hyz : (p ++ (U ++ V) ++ q)[d]? = some y := by
        have := HM.out
        rw [List.append_assoc, List.getElem?_append_right (by omega), List.append_assoc, List.getElem?_append_right (by omega), List.getElem?_append_left (by omega), show d - p.length - U.length = d - m by omega]; exact hy
      obtain ⟨ly, lx, hcc⟩ := S1.out.held R HC.out (by have := HL.out; simp; omega) hyz hxz
      have e1 : (c : Int) < (l0.length : Int) := by omega
      have e2 : (d : Int) < (l0.length : Int) := by omega
      have HHC := hid (half_eq hc (by have := HL.out; omega))
      have HHC2 : Hid (((s : Int) + (r : Int)) / 2 = (c : Int)) := by show _ = _; omega
      have HB := hid (And.intro hx hy)
      have HD : Hid (((mid : Int) + (m : Int) - 1 - (c : Int)) = (d : Int)) := by show _ = _; omega
      have wd : IntKind.i64.wrap ((mid : Int) + (m : Int) - 1 - (c : Int)) = (d : Int) := by rw [IntKind.wrap_i64]; omega
      have HND := hid (And.intro hc hd)
      clear hx hy hxz hyz hc hd
      by_cases hv : cf y x < 0
      · have HLT := hid (decide_eq_true hv : ltOf cf y x = true)
        go_wp2_with fail
        first | rw [HHC.out] | rw [HHC2.out]
        go_quiet_grown (first | (go_at_fn g; refine Calls.grown_of (hcc _ _)))
        have S2 : Aside (SK enc k w0 blk off (p ++ (U ++ V) ++ q) (grow (wr.drewN nq) osq)) := S1.out.grown nq osq
        have hd : decide (cf y x < 0) = true := HLT.out
        have hd2 : (!decide (cf y x < 0)) = false := by rw [hd]; rfl
        clear ly lx hcc
        generalize grow (wr.drewN nq) osq = w2 at S2 ⊢
        go_wp2
        all_goals try (exfalso; rename_i hcon; rw [show decide (cf y x < 0) = true from HLT.out] at hcon; simp at hcon; done)
        go_roundg (c - s)
        case measure => omega
        case rel =>
          refine ⟨s, c, rfl, rfl, hls, by omega, by omega, Nat.le_refl _, S2, B1, Or.inr ⟨x, y, HB.out.1, ?_, HLT.out⟩⟩
          have := HND.out
          rw [show mid - 1 - c = d - m by omega]; exact HB.out.2
      · have HLT := hid (decide_eq_false hv : ltOf cf y x = false)
        go_wp2_with fail
        first | rw [HHC.out] | rw [HHC2.out]
        go_quiet_grown (first | (go_at_fn g; refine Calls.grown_of (hcc _ _)))
        have S2 : Aside (SK enc k w0 blk off (p ++ (U ++ V) ++ q) (grow (wr.drewN nq) osq)) := S1.out.grown nq osq
        have hd : decide (cf y x < 0) = false := HLT.out
        have hd2 : (!decide (cf y x < 0)) = true := by rw [hd]; rfl
        clear ly lx hcc
        generalize grow (wr.drewN nq) osq = w2 at S2 ⊢
        go_wp2
        all_goals try (exfalso; rename_i hcon; rw [show decide (cf y x < 0) = false from HLT.out] at hcon; simp at hcon; done)
        go_roundg (r - (c + 1))
        case measure => omega
        case rel =>
          refine ⟨c + 1, r, by go_num, rfl, by omega, by omega, hrh, Nat.le_refl _, S2, Or.inr ⟨x, y, ?_, ?_, HLT.out⟩, B2⟩
          · rw [show c + 1 - 1 - a = c - a by omega]; exact HB.out.1
          · have := HND.out
            rw [show mid - (c + 1) = d - m by omega]; exact HB.out.2
    · have hltz : ¬ (s : Int) < (r : Int) := by omega
      obtain rfl : s = r := by omega
      obtain ⟨h1, h2⟩ := sym_parts T HUV.out.1 HUV.out.2 HM.out.1 HM.out.2 HLH.out.2.2.2.2.2.1 HLH.out.2.2.2.2.2.2.1 HLH.out.2.1 HLH.out.2.2.1 hls hrh (by have := HLH.out; omega) B1.out B2.out
      have HH := hid (And.intro h1 h2)
      clear h1 h2 B1 B2
      have ex := HLH.out
      have xm := HM.out
      have as' : a ≤ s := by omega
      have sm' : s ≤ m := by omega
      have smid' : s ≤ mid := by omega
      have eb' : mid + m - s ≤ b := by omega
      clear ex
      obtain ⟨U1, hU1⟩ : ∃ U1, U1 = U.take (s - a) := ⟨_, rfl⟩
      obtain ⟨U2, hU2⟩ : ∃ U2, U2 = U.drop (s - a) := ⟨_, rfl⟩
      obtain ⟨V1, hV1⟩ : ∃ V1, V1 = V.take (mid - s) := ⟨_, rfl⟩
      obtain ⟨V2, hV2⟩ : ∃ V2, V2 = V.drop (mid - s) := ⟨_, rfl⟩
      have lU1 : U1.length = s - a := by rw [hU1, List.length_take]; omega
      have lU2 : U2.length = m - s := by rw [hU2, List.length_drop]; omega
      have lV1 : V1.length = mid - s := by rw [hV1, List.length_take]; omega
      have lV2 : V2.length = b - (mid + m - s) := by rw [hV2, List.length_drop]; omega
      have eU : U = U1 ++ U2 := by rw [hU1, hU2, List.take_append_drop]
      have eV : V = V1 ++ V2 := by rw [hV1, hV2, List.take_append_drop]
      have sUV := HUV.out
      rw [eU, eV] at sUV
      have hh := HH.out
      rw [← hU1, ← hU2, ← hV1, ← hV2] at hh
      have ll : l0.length = a + (s - a) + (m - s) + (mid - s) + (b - (mid + m - s)) + q.length := by have := HL.out; omega
      have S2 : Aside (SK enc k w0 blk off (p ++ ((U1 ++ U2) ++ (V1 ++ V2)) ++ q) wr) := by have := S1.out; rw [eU, eV] at this; exact this
      have CR := hid (fun (_ : s < m) (_ : s < mid) W (hW : SK enc k w0 blk off (p ++ ((U1 ++ U2) ++ (V1 ++ V2)) ++ q) W) => rotate_any k zE enc g cb blk off cap s m (mid + m - s) l0 w0 W R (p ++ U1) U2 V1 (V2 ++ q) (by simp; omega) (by omega) (by omega) (by intro h; rw [h] at lU2; simp at lU2; omega) (by intro h; rw [h] at lV1; simp at lV1; omega) (by simp; omega) hsz (by simpa [List.append_assoc] using hW))
      have CM1 := hid (fun (_ : a < s) (_ : s < mid) W (hW : SK enc k w0 blk off (p ++ ((U1 ++ V1) ++ (U2 ++ V2)) ++ q) W) => HI.out a s mid p U1 V1 (U2 ++ V2 ++ q) W ha (by omega) (by omega) (by intro h; rw [h] at lU1; simp at lU1; omega) (by intro h; rw [h] at lV1; simp at lV1; omega) (by omega) (srt_append.1 sUV.1).1 (srt_append.1 sUV.2).1 (by simp; omega) (by simpa [List.append_assoc] using hW))
      have CM2 := hid (fun (_ : s < m) (_ : mid + m - s < b) (M1 : List α) (_ : M1.length = mid - a) W (hW : SK enc k w0 blk off (p ++ (M1 ++ (U2 ++ V2)) ++ q) W) => HI.out mid (mid + m - s) b (p ++ M1) U2 V2 q W (by simp; omega) (by omega) (by omega) (by intro h; rw [h] at lU2; simp at lU2; omega) (by intro h; rw [h] at lV2; simp at lV2; omega) (by omega) (srt_append.1 sUV.1).2.1 (srt_append.1 sUV.2).2.1 (by simp; omega) (by simpa [List.append_assoc] using hW))
      have FIN : Hid (∀ M1 M2, Srt (ltOf cf) M1 → Srt (ltOf cf) M2 → Fil (ltOf cf) (U1 ++ V1) M1 → Fil (ltOf cf) (U2 ++ V2) M2 → Srt (ltOf cf) (M1 ++ M2) ∧ Fil (ltOf cf) (U ++ V) (M1 ++ M2)) := by
        show _
        intro M1 M2 s1 s2 f1 f2
        rw [eU, eV]
        exact halves T sUV.1 sUV.2 hh.1 hh.2 s1 s2 f1 f2
      have SS := hid sUV
      have LL := hid (And.intro lU1 (And.intro lU2 (And.intro lV1 lV2)))
      have eE : ((mid + m - s : Nat) : Int) = (mid : Int) + (m : Int) - (s : Int) := by omega
      have CE := hid eE
      clear S1 hU1 hU2 hV1 hV2 lU1 lU2 lV1 lV2 eU eV sUV hh ll HH eE xm
      by_cases y : s < m
      · by_cases z : s < mid
        · by_cases x : a < s
          · by_cases u : mid + m - s < b
            · have f1 : (s : Int) < (m : Int) := by omega
              have f2 : (m : Int) < (mid : Int) + (m : Int) - (s : Int) := by omega
              have f3 : (a : Int) < (s : Int) := by omega
              have f4 : (s : Int) < (mid : Int) := by omega
              have f5 : (mid : Int) < (mid : Int) + (m : Int) - (s : Int) := by omega
              have f6 : (mid : Int) + (m : Int) - (s : Int) < (b : Int) := by omega
              have cr := CR.out y z wr S2.out
              rw [CE.out] at cr
              clear S2
              go_wp2_with fail
              refine cr.mono ?_
              rintro e1 w1 ⟨rfl, S3⟩
              clear cr
              have S3 : Aside (SK enc k w0 blk off (p ++ ((U1 ++ V1) ++ (U2 ++ V2)) ++ q) w1) := by simpa [Aside, List.append_assoc] using S3
              have c1' := CM1.out x z w1 S3.out
              clear S3
              go_wp2_with fail
              refine c1'.mono ?_
              rintro e2 w2 ⟨rfl, M1, s1, t1, S4⟩
              clear c1'
              have S4 : Aside (SK enc k w0 blk off (p ++ (M1 ++ (U2 ++ V2)) ++ q) w2) := by simpa [Aside, List.append_assoc] using S4
              have lM : Hid (M1.length = mid - a) := by have := LL.out; have := t1.length T; show _ = _; rw [← this]; simp; omega
              have s1 := hid s1
              have t1 := hid t1
              have c2' := CM2.out y u M1 lM.out w2 S4.out
              rw [CE.out] at c2'
              clear S4
              go_wp2_with fail
              refine c2'.mono ?_
              rintro e3 w3 ⟨rfl, M2, s2, t2, S5⟩
              clear c2'
              have S5 : Aside (SK enc k w0 blk off (p ++ (M1 ++ M2) ++ q) w3) := by simpa [Aside, List.append_assoc] using S5
              have s2 := hid s2
              have t2 := hid t2
              go_wp2_with fail
              all_goals (go_end0; have := FIN.out M1 M2 s1.out s2.out t1.out t2.out; exact ⟨rfl, _, this.1, this.2, S5.out⟩)
            · have f1 : (s : Int) < (m : Int) := by omega
              have f2 : (m : Int) < (mid : Int) + (m : Int) - (s : Int) := by omega
              have f3 : (a : Int) < (s : Int) := by omega
              have f4 : (s : Int) < (mid : Int) := by omega
              have f5 : (mid : Int) < (mid : Int) + (m : Int) - (s : Int) := by omega
              have f6 : ¬ (mid : Int) + (m : Int) - (s : Int) < (b : Int) := by omega
              have cr := CR.out y z wr S2.out
              rw [CE.out] at cr
              clear S2
              go_wp2_with fail
              refine cr.mono ?_
              rintro e1 w1 ⟨rfl, S3⟩
              clear cr
              have S3 : Aside (SK enc k w0 blk off (p ++ ((U1 ++ V1) ++ (U2 ++ V2)) ++ q) w1) := by simpa [Aside, List.append_assoc] using S3
              have c1' := CM1.out x z w1 S3.out
              clear S3
              go_wp2_with fail
              refine c1'.mono ?_
              rintro e2 w2 ⟨rfl, M1, s1, t1, S4⟩
              clear c1'
              have S4 : Aside (SK enc k w0 blk off (p ++ (M1 ++ (U2 ++ V2)) ++ q) w2) := by simpa [Aside, List.append_assoc] using S4
              have lM : Hid (M1.length = mid - a) := by have := LL.out; have := t1.length T; show _ = _; rw [← this]; simp; omega
              have s1 := hid s1
              have t1 := hid t1
              obtain ⟨M2, hM2⟩ : ∃ M2, M2 = U2 ++ V2 := ⟨_, rfl⟩
              have n2 : V2 = [] := by have := LL.out; exact List.eq_nil_of_length_eq_zero (by omega)
              have S5 : Aside (SK enc k w0 blk off (p ++ (M1 ++ M2) ++ q) w2) := by have := S4.out; rw [← hM2] at this; exact this
              clear S4
              have s2 : Hid (Srt (ltOf cf) M2) := by have := SS.out; show Srt _ _; rw [hM2, n2]; simpa using (srt_append.1 this.1).2.1
              have t2 : Hid (Fil (ltOf cf) (U2 ++ V2) M2) := by show Fil _ _ _; rw [hM2]; exact Fil.refl _
              clear hM2
              go_wp2_with fail
              all_goals (go_end0; have := FIN.out M1 M2 s1.out s2.out t1.out t2.out; exact ⟨rfl, _, this.1, this.2, S5.out⟩)
          · by_cases u : mid + m - s < b
            · have f1 : (s : Int) < (m : Int) := by omega
              have f2 : (m : Int) < (mid : Int) + (m : Int) - (s : Int) := by omega
              have f3 : ¬ (a : Int) < (s : Int) := by omega
              have f4 : (s : Int) < (mid : Int) := by omega
              have f5 : (mid : Int) < (mid : Int) + (m : Int) - (s : Int) := by omega
              have f6 : (mid : Int) + (m : Int) - (s : Int) < (b : Int) := by omega
              have cr := CR.out y z wr S2.out
              rw [CE.out] at cr
              clear S2
              go_wp2_with fail
              refine cr.mono ?_
              rintro e1 w1 ⟨rfl, S3⟩
              clear cr
              have S3 : Aside (SK enc k w0 blk off (p ++ ((U1 ++ V1) ++ (U2 ++ V2)) ++ q) w1) := by simpa [Aside, List.append_assoc] using S3
              obtain ⟨M1, hM1⟩ : ∃ M1, M1 = U1 ++ V1 := ⟨_, rfl⟩
              have n1 : U1 = [] := by have := LL.out; exact List.eq_nil_of_length_eq_zero (by omega)
              have S4 : Aside (SK enc k w0 blk off (p ++ (M1 ++ (U2 ++ V2)) ++ q) w1) := by have := S3.out; rw [← hM1] at this; exact this
              clear S3
              have lM : Hid (M1.length = mid - a) := by have := LL.out; show _ = _; rw [hM1]; simp; omega
              have s1 : Hid (Srt (ltOf cf) M1) := by have := SS.out; show Srt _ _; rw [hM1, n1]; simpa using (srt_append.1 this.2).1
              have t1 : Hid (Fil (ltOf cf) (U1 ++ V1) M1) := by show Fil _ _ _; rw [hM1]; exact Fil.refl _
              clear hM1
              have c2' := CM2.out y u M1 lM.out w1 S4.out
              rw [CE.out] at c2'
              clear S4
              go_wp2_with fail
              refine c2'.mono ?_
              rintro e3 w3 ⟨rfl, M2, s2, t2, S5⟩
              clear c2'
              have S5 : Aside (SK enc k w0 blk off (p ++ (M1 ++ M2) ++ q) w3) := by simpa [Aside, List.append_assoc] using S5
              have s2 := hid s2
              have t2 := hid t2
              go_wp2_with fail
              all_goals (go_end0; have := FIN.out M1 M2 s1.out s2.out t1.out t2.out; exact ⟨rfl, _, this.1, this.2, S5.out⟩)
            · have f1 : (s : Int) < (m : Int) := by omega
              have f2 : (m : Int) < (mid : Int) + (m : Int) - (s : Int) := by omega
              have f3 : ¬ (a : Int) < (s : Int) := by omega
              have f4 : (s : Int) < (mid : Int) := by omega
              have f5 : (mid : Int) < (mid : Int) + (m : Int) - (s : Int) := by omega
              have f6 : ¬ (mid : Int) + (m : Int) - (s : Int) < (b : Int) := by omega
              have cr := CR.out y z wr S2.out
              rw [CE.out] at cr
              clear S2
              go_wp2_with fail
              refine cr.mono ?_
              rintro e1 w1 ⟨rfl, S3⟩
              clear cr
              have S3 : Aside (SK enc k w0 blk off (p ++ ((U1 ++ V1) ++ (U2 ++ V2)) ++ q) w1) := by simpa [Aside, List.append_assoc] using S3
              obtain ⟨M1, hM1⟩ : ∃ M1, M1 = U1 ++ V1 := ⟨_, rfl⟩
              have n1 : U1 = [] := by have := LL.out; exact List.eq_nil_of_length_eq_zero (by omega)
              have S4 : Aside (SK enc k w0 blk off (p ++ (M1 ++ (U2 ++ V2)) ++ q) w1) := by have := S3.out; rw [← hM1] at this; exact this
              clear S3
              have lM : Hid (M1.length = mid - a) := by have := LL.out; show _ = _; rw [hM1]; simp; omega
              have s1 : Hid (Srt (ltOf cf) M1) := by have := SS.out; show Srt _ _; rw [hM1, n1]; simpa using (srt_append.1 this.2).1
              have t1 : Hid (Fil (ltOf cf) (U1 ++ V1) M1) := by show Fil _ _ _; rw [hM1]; exact Fil.refl _
              clear hM1
              obtain ⟨M2, hM2⟩ : ∃ M2, M2 = U2 ++ V2 := ⟨_, rfl⟩
              have n2 : V2 = [] := by have := LL.out; exact List.eq_nil_of_length_eq_zero (by omega)
              have S5 : Aside (SK enc k w0 blk off (p ++ (M1 ++ M2) ++ q) w1) := by have := S4.out; rw [← hM2] at this; exact this
              clear S4
              have s2 : Hid (Srt (ltOf cf) M2) := by have := SS.out; show Srt _ _; rw [hM2, n2]; simpa using (srt_append.1 this.1).2.1
              have t2 : Hid (Fil (ltOf cf) (U2 ++ V2) M2) := by show Fil _ _ _; rw [hM2]; exact Fil.refl _
              clear hM2
              go_wp2_with fail
              all_goals (go_end0; have := FIN.out M1 M2 s1.out s2.out t1.out t2.out; exact ⟨rfl, _, this.1, this.2, S5.out⟩)
        · by_cases x : a < s
          · by_cases u : mid + m - s < b
            · have f1 : (s : Int) < (m : Int) := by omega
              have f2 : ¬ (m : Int) < (mid : Int) + (m : Int) - (s : Int) := by omega
              have f3 : (a : Int) < (s : Int) := by omega
              have f4 : ¬ (s : Int) < (mid : Int) := by omega
              have f5 : (mid : Int) < (mid : Int) + (m : Int) - (s : Int) := by omega
              have f6 : (mid : Int) + (m : Int) - (s : Int) < (b : Int) := by omega
              have n0 : V1 = [] := by have := LL.out; exact List.eq_nil_of_length_eq_zero (by omega)
              have S3 : Aside (SK enc k w0 blk off (p ++ ((U1 ++ V1) ++ (U2 ++ V2)) ++ q) wr) := by have := S2.out; rw [n0] at this ⊢; simpa [Aside, List.append_assoc] using this
              clear S2
              obtain ⟨M1, hM1⟩ : ∃ M1, M1 = U1 ++ V1 := ⟨_, rfl⟩
              have n1 : V1 = [] := by have := LL.out; exact List.eq_nil_of_length_eq_zero (by omega)
              have S4 : Aside (SK enc k w0 blk off (p ++ (M1 ++ (U2 ++ V2)) ++ q) wr) := by have := S3.out; rw [← hM1] at this; exact this
              clear S3
              have lM : Hid (M1.length = mid - a) := by have := LL.out; show _ = _; rw [hM1]; simp; omega
              have s1 : Hid (Srt (ltOf cf) M1) := by have := SS.out; show Srt _ _; rw [hM1, n1]; simpa using (srt_append.1 this.1).1
              have t1 : Hid (Fil (ltOf cf) (U1 ++ V1) M1) := by show Fil _ _ _; rw [hM1]; exact Fil.refl _
              clear hM1
              have c2' := CM2.out y u M1 lM.out wr S4.out
              rw [CE.out] at c2'
              clear S4
              go_wp2_with fail
              refine c2'.mono ?_
              rintro e3 w3 ⟨rfl, M2, s2, t2, S5⟩
              clear c2'
              have S5 : Aside (SK enc k w0 blk off (p ++ (M1 ++ M2) ++ q) w3) := by simpa [Aside, List.append_assoc] using S5
              have s2 := hid s2
              have t2 := hid t2
              go_wp2_with fail
              all_goals (go_end0; have := FIN.out M1 M2 s1.out s2.out t1.out t2.out; exact ⟨rfl, _, this.1, this.2, S5.out⟩)
            · exfalso; omega
          · exfalso; omega
      · by_cases z : s < mid
        · by_cases x : a < s
          · by_cases u : mid + m - s < b
            · have f1 : ¬ (s : Int) < (m : Int) := by omega
              have f2 : (m : Int) < (mid : Int) + (m : Int) - (s : Int) := by omega
              have f3 : (a : Int) < (s : Int) := by omega
              have f4 : (s : Int) < (mid : Int) := by omega
              have f5 : ¬ (mid : Int) < (mid : Int) + (m : Int) - (s : Int) := by omega
              have f6 : (mid : Int) + (m : Int) - (s : Int) < (b : Int) := by omega
              have n0 : U2 = [] := by have := LL.out; exact List.eq_nil_of_length_eq_zero (by omega)
              have S3 : Aside (SK enc k w0 blk off (p ++ ((U1 ++ V1) ++ (U2 ++ V2)) ++ q) wr) := by have := S2.out; rw [n0] at this ⊢; simpa [Aside, List.append_assoc] using this
              clear S2
              have c1' := CM1.out x z wr S3.out
              clear S3
              go_wp2_with fail
              refine c1'.mono ?_
              rintro e2 w2 ⟨rfl, M1, s1, t1, S4⟩
              clear c1'
              have S4 : Aside (SK enc k w0 blk off (p ++ (M1 ++ (U2 ++ V2)) ++ q) w2) := by simpa [Aside, List.append_assoc] using S4
              have lM : Hid (M1.length = mid - a) := by have := LL.out; have := t1.length T; show _ = _; rw [← this]; simp; omega
              have s1 := hid s1
              have t1 := hid t1
              obtain ⟨M2, hM2⟩ : ∃ M2, M2 = U2 ++ V2 := ⟨_, rfl⟩
              have n2 : U2 = [] := by have := LL.out; exact List.eq_nil_of_length_eq_zero (by omega)
              have S5 : Aside (SK enc k w0 blk off (p ++ (M1 ++ M2) ++ q) w2) := by have := S4.out; rw [← hM2] at this; exact this
              clear S4
              have s2 : Hid (Srt (ltOf cf) M2) := by have := SS.out; show Srt _ _; rw [hM2, n2]; simpa using (srt_append.1 this.2).2.1
              have t2 : Hid (Fil (ltOf cf) (U2 ++ V2) M2) := by show Fil _ _ _; rw [hM2]; exact Fil.refl _
              clear hM2
              go_wp2_with fail
              all_goals (go_end0; have := FIN.out M1 M2 s1.out s2.out t1.out t2.out; exact ⟨rfl, _, this.1, this.2, S5.out⟩)
            · exfalso; omega
          · exfalso; omega
        · by_cases x : a < s
          · by_cases u : mid + m - s < b
            · have f1 : ¬ (s : Int) < (m : Int) := by omega
              have f2 : ¬ (m : Int) < (mid : Int) + (m : Int) - (s : Int) := by omega
              have f3 : (a : Int) < (s : Int) := by omega
              have f4 : ¬ (s : Int) < (mid : Int) := by omega
              have f5 : ¬ (mid : Int) < (mid : Int) + (m : Int) - (s : Int) := by omega
              have f6 : (mid : Int) + (m : Int) - (s : Int) < (b : Int) := by omega
              have n0 : U2 = [] := by have := LL.out; exact List.eq_nil_of_length_eq_zero (by omega)
              have S3 : Aside (SK enc k w0 blk off (p ++ ((U1 ++ V1) ++ (U2 ++ V2)) ++ q) wr) := by have := S2.out; rw [n0] at this ⊢; simpa [Aside, List.append_assoc] using this
              clear S2
              obtain ⟨M1, hM1⟩ : ∃ M1, M1 = U1 ++ V1 := ⟨_, rfl⟩
              have n1 : V1 = [] := by have := LL.out; exact List.eq_nil_of_length_eq_zero (by omega)
              have S4 : Aside (SK enc k w0 blk off (p ++ (M1 ++ (U2 ++ V2)) ++ q) wr) := by have := S3.out; rw [← hM1] at this; exact this
              clear S3
              have lM : Hid (M1.length = mid - a) := by have := LL.out; show _ = _; rw [hM1]; simp; omega
              have s1 : Hid (Srt (ltOf cf) M1) := by have := SS.out; show Srt _ _; rw [hM1, n1]; simpa using (srt_append.1 this.1).1
              have t1 : Hid (Fil (ltOf cf) (U1 ++ V1) M1) := by show Fil _ _ _; rw [hM1]; exact Fil.refl _
              clear hM1
              obtain ⟨M2, hM2⟩ : ∃ M2, M2 = U2 ++ V2 := ⟨_, rfl⟩
              have n2 : U2 = [] := by have := LL.out; exact List.eq_nil_of_length_eq_zero (by omega)
              have S5 : Aside (SK enc k w0 blk off (p ++ (M1 ++ M2) ++ q) wr) := by have := S4.out; rw [← hM2] at this; exact this
              clear S4
              have s2 : Hid (Srt (ltOf cf) M2) := by have := SS.out; show Srt _ _; rw [hM2, n2]; simpa using (srt_append.1 this.2).2.1
              have t2 : Hid (Fil (ltOf cf) (U2 ++ V2) M2) := by show Fil _ _ _; rw [hM2]; exact Fil.refl _
              clear hM2
              go_wp2_with fail
              all_goals (go_end0; have := FIN.out M1 M2 s1.out s2.out t1.out t2.out; exact ⟨rfl, _, this.1, this.2, S5.out⟩)
            · exfalso; omega
          · exfalso; omega
end Go.Proofs.YtpmkfkanolhocaaGreat
namespace Go.Proofs.YtpmkfkanolhocaaGreat
open Go.RowKit Go.Shelf Go.Lib Go.Sort
set_option linter.unusedVariables false
set_option maxHeartbeats 4000000 in
set_option maxRecDepth 1000000 in
theorem symMerge_right {α : Type} [Inhabited α] (k : Nat) (zE : ∀ w, (Go.sizeOf 33).run Tryz.prog w = .ok k w) (aE : ∀ w, (isAgg 33).run Tryz.prog w = .ok true w) (enc : α → List Value) (cf : α → α → Int) (T : SWO (ltOf cf)) (g : Nat) (cb : Array Value) (blk off cap a m b mid : Nat) (l0 : List α) (w0 w : World)
    (eg : ∀ args w, (callFunc g args).run Tryz.prog w = .ok (.enter g args) w) (hC : CmpLays Tryz.prog g cb enc k cf blk off l0.length w0) (R : RowK enc k w0 blk off l0.toArray) (p U V q : List α) (ha : p.length = a) (hm : a + U.length = m) (hb : m + V.length = b) (hU2 : 2 ≤ U.length) (hV2 : 2 ≤ V.length) (hU : Srt (ltOf cf) U) (hV : Srt (ltOf cf) V)
    (hs : l0.length = (p ++ (U ++ V) ++ q).length) (hsz : l0.length ≤ 1000) (S : SK enc k w0 blk off (p ++ (U ++ V) ++ q) w) (IH : SymOk enc k cf g cb w0 blk off cap l0 (U.length + V.length - 1)) (hmid : mid = (a + b) / 2) (hway : m ≤ mid) :
    Calls Tryz.prog 83 #[.slice (some ⟨blk, off, none⟩) l0.length cap, .int .i64 a, .int .i64 m, .int .i64 b, .func (.func g) #[] cb] w (SymPost enc k cf w0 blk off p U V q) := by
  have S0 : Aside (SK enc k w0 blk off (p ++ (U ++ V) ++ q) w) := S
  have HC : Aside (CmpLays Tryz.prog g cb enc k cf blk off l0.length w0) := hC
  have hmix : Tryz.prog.follows .mixedOrders = true := by kernel_rfl
  have hlen : l0.length = a + U.length + V.length + q.length := by rw [hs]; simp; omega
  have HL := hid hlen
  have HUV := hid (And.intro hU hV)
  have HM := hid (And.intro hm hb)
  have HI := hid IH
  have HALF := hid (half_eq hmid (by omega))
  have HALF2 : Hid (((a : Int) + (b : Int)) / 2 = (mid : Int)) := by show _ = _; omega
  have HMID := hid hmid
  have c1 : a < m := by omega
  have c2 : m < b := by omega
  have c3 : b ≤ l0.length := by omega
  have w1 : IntKind.i64.wrap ((m : Int) - (a : Int)) = (m : Int) - (a : Int) := by rw [IntKind.wrap_i64]; omega
  have w1' : ((m : Int) - (a : Int) == 1) = false := by simp; omega
  have w2 : IntKind.i64.wrap ((b : Int) - (m : Int)) = (b : Int) - (m : Int) := by rw [IntKind.wrap_i64]; omega
  have w2' : ((b : Int) - (m : Int) == 1) = false := by simp; omega
  clear S hs hlen hV hU hC hm hb IH hmid
  go_enter Tryz.func83, Tryz.ntmps83
  go_upto_region 25 with fail
  first | rw [HALF.out] | rw [HALF2.out]
  have hwz : ¬ (mid : Int) < (m : Int) := by omega
  obtain ⟨lo, hlo⟩ : ∃ lo, lo = a := ⟨_, rfl⟩
  obtain ⟨hi, hhi⟩ : ∃ hi, hi = m := ⟨_, rfl⟩
  have c4 : a < mid := by have := HMID.out; have := HM.out; omega
  have c5 : mid < b := by have := HMID.out; have := HM.out; omega
  have HLH : Hid (lo ≤ hi ∧ a ≤ lo ∧ hi ≤ m ∧ hi ≤ mid ∧ (∀ c, lo ≤ c → c < hi → c < m ∧ m ≤ mid + m - 1 - c ∧ mid + m - 1 - c < b) ∧ (lo = a ∨ mid + m - lo = b) ∧ (hi = m ∨ mid + m - hi = m) ∧ mid + m - lo ≤ b ∧ m ≤ mid + m - hi) := by
    have := HMID.out
    exact ⟨by omega, by omega, by omega, by omega, fun c _ _ => by omega, by omega, by omega, by omega, by omega⟩
  have HLO := hid (And.intro hlo hhi)
  clear hlo hhi
  go_wp2_with fail
  go_loopg [20, 21] (hi - lo) (fun kx s20 s21 wr => ∃ (s r : Nat), s20 = .int .i64 s ∧ s21 = .int .i64 r ∧ lo ≤ s ∧ s ≤ r ∧ r ≤ hi ∧ r - s ≤ kx ∧ Aside (SK enc k w0 blk off (p ++ (U ++ V) ++ q) wr) ∧
    Hid (s = lo ∨ ∃ x y, U[s - 1 - a]? = some x ∧ V[mid - s]? = some y ∧ ltOf cf y x = false) ∧ Hid (r = hi ∨ ∃ x y, U[r - a]? = some x ∧ V[mid - 1 - r]? = some y ∧ ltOf cf y x = true))
  case atStart =>
    have h1 := HLH.out
    have h2 := HLO.out
    have h3 := HM.out
    have h4 := HMID.out
    exact ⟨lo, hi, by first | rfl | (congr 1; omega), by first | rfl | (congr 1; omega), by omega, by omega, by omega, by omega, S0, Or.inl rfl, Or.inl rfl⟩
  case round =>
    clear S0
    obtain ⟨s, r, rfl, rfl, hls, hsr, hrh, hkx, S1, B1, B2⟩ := hrel
    by_cases hlt : s < r
    · have hltz : (s : Int) < (r : Int) := by omega
      obtain ⟨c, hc⟩ : ∃ c, c = (s + r) / 2 := ⟨_, rfl⟩
      have h1 : s ≤ c := by omega
      have h2 : c < r := by omega
      obtain ⟨g1, g2, g3⟩ := HLH.out.2.2.2.2.1 c (by omega) (by omega)
      obtain ⟨d, hd⟩ : ∃ d, d = mid + m - 1 - c := ⟨_, rfl⟩
      have hac : a ≤ c := by have := HLH.out; omega
      obtain ⟨x, hx⟩ : ∃ x, U[c - a]? = some x := ⟨U[c - a]'(by have := HM.out; omega), List.getElem?_eq_getElem _⟩
      obtain ⟨y, hy⟩ : ∃ y, V[d - m]? = some y := ⟨V[d - m]'(by have := HM.out; omega), List.getElem?_eq_getElem _⟩
      have hxz : (p ++ (U ++ V) ++ q)[c]? = some x := by
        have := HM.out
        rw [List.append_assoc, List.getElem?_append_right (by omega), List.append_assoc, List.getElem?_append_left (by omega), ha]; exact hx
      have hyz : (p ++ (U ++ V) ++ q)[d]? = some y := by
        have := HM.out
        rw [List.append_assoc, List.getElem?_append_right (by omega), List.append_assoc, List.getElem?_append_right (by omega), List.getElem?_append_left (by omega), show d - p.length - U.length = d - m by omega]; exact hy
      obtain ⟨ly, lx, hcc⟩ := S1.out.held R HC.out (by have := HL.out; simp; omega) hyz hxz
      have e1 : (c : Int) < (l0.length : Int) := by omega
      have e2 : (d : Int) < (l0.length : Int) := by omega
      have HHC := hid (half_eq hc (by have := HL.out; omega))
      have HHC2 : Hid (((s : Int) + (r : Int)) / 2 = (c : Int)) := by show _ = _; omega
      have HB := hid (And.intro hx hy)
      have HD : Hid (((mid : Int) + (m : Int) - 1 - (c : Int)) = (d : Int)) := by show _ = _; omega
      have wd : IntKind.i64.wrap ((mid : Int) + (m : Int) - 1 - (c : Int)) = (d : Int) := by rw [IntKind.wrap_i64]; omega
      have HND := hid (And.intro hc hd)
      clear hx hy hxz hyz hc hd
      by_cases hv : cf y x < 0
      · have HLT := hid (decide_eq_true hv : ltOf cf y x = true)
        go_wp2_with fail
        first | rw [HHC.out] | rw [HHC2.out]
        go_quiet_grown (first | (go_at_fn g; refine Calls.grown_of (hcc _ _)))
        have S2 : Aside (SK enc k w0 blk off (p ++ (U ++ V) ++ q) (grow (wr.drewN nq) osq)) := S1.out.grown nq osq
        have hd : decide (cf y x < 0) = true := HLT.out
        have hd2 : (!decide (cf y x < 0)) = false := by rw [hd]; rfl
        clear ly lx hcc
        generalize grow (wr.drewN nq) osq = w2 at S2 ⊢
        go_wp2
        all_goals try (exfalso; rename_i hcon; rw [show decide (cf y x < 0) = true from HLT.out] at hcon; simp at hcon; done)
        go_roundg (c - s)
        case measure => omega
        case rel =>
          refine ⟨s, c, rfl, rfl, hls, by omega, by omega, Nat.le_refl _, S2, B1, Or.inr ⟨x, y, HB.out.1, ?_, HLT.out⟩⟩
          have := HND.out
          rw [show mid - 1 - c = d - m by omega]; exact HB.out.2
      · have HLT := hid (decide_eq_false hv : ltOf cf y x = false)
        go_wp2_with fail
        first | rw [HHC.out] | rw [HHC2.out]
        go_quiet_grown (first | (go_at_fn g; refine Calls.grown_of (hcc _ _)))
        have S2 : Aside (SK enc k w0 blk off (p ++ (U ++ V) ++ q) (grow (wr.drewN nq) osq)) := S1.out.grown nq osq
        have hd : decide (cf y x < 0) = false := HLT.out
        have hd2 : (!decide (cf y x < 0)) = true := by rw [hd]; rfl
        clear ly lx hcc
        generalize grow (wr.drewN nq) osq = w2 at S2 ⊢
        go_wp2
        all_goals try (exfalso; rename_i hcon; rw [show decide (cf y x < 0) = false from HLT.out] at hcon; simp at hcon; done)
        go_roundg (r - (c + 1))
        case measure => omega
        case rel =>
          refine ⟨c + 1, r, by go_num, rfl, by omega, by omega, hrh, Nat.le_refl _, S2, Or.inr ⟨x, y, ?_, ?_, HLT.out⟩, B2⟩
          · rw [show c + 1 - 1 - a = c - a by omega]; exact HB.out.1
          · have := HND.out
            rw [show mid - (c + 1) = d - m by omega]; exact HB.out.2
    · have hltz : ¬ (s : Int) < (r : Int) := by omega
      obtain rfl : s = r := by omega
      obtain ⟨h1, h2⟩ := sym_parts T HUV.out.1 HUV.out.2 HM.out.1 HM.out.2 HLH.out.2.2.2.2.2.1 HLH.out.2.2.2.2.2.2.1 HLH.out.2.1 HLH.out.2.2.1 hls hrh (by have := HLH.out; omega) B1.out B2.out
      have HH := hid (And.intro h1 h2)
      clear h1 h2 B1 B2
      have ex := HLH.out
      have xm := HM.out
      have as' : a ≤ s := by omega
      have sm' : s ≤ m := by omega
      have smid' : s ≤ mid := by omega
      have eb' : mid + m - s ≤ b := by omega
      clear ex
      obtain ⟨U1, hU1⟩ : ∃ U1, U1 = U.take (s - a) := ⟨_, rfl⟩
      obtain ⟨U2, hU2⟩ : ∃ U2, U2 = U.drop (s - a) := ⟨_, rfl⟩
      obtain ⟨V1, hV1⟩ : ∃ V1, V1 = V.take (mid - s) := ⟨_, rfl⟩
      obtain ⟨V2, hV2⟩ : ∃ V2, V2 = V.drop (mid - s) := ⟨_, rfl⟩
      have lU1 : U1.length = s - a := by rw [hU1, List.length_take]; omega
      have lU2 : U2.length = m - s := by rw [hU2, List.length_drop]; omega
      have lV1 : V1.length = mid - s := by rw [hV1, List.length_take]; omega
      have lV2 : V2.length = b - (mid + m - s) := by rw [hV2, List.length_drop]; omega
      have eU : U = U1 ++ U2 := by rw [hU1, hU2, List.take_append_drop]
      have eV : V = V1 ++ V2 := by rw [hV1, hV2, List.take_append_drop]
      have sUV := HUV.out
      rw [eU, eV] at sUV
      have hh := HH.out
      rw [← hU1, ← hU2, ← hV1, ← hV2] at hh
      have ll : l0.length = a + (s - a) + (m - s) + (mid - s) + (b - (mid + m - s)) + q.length := by have := HL.out; omega
      have S2 : Aside (SK enc k w0 blk off (p ++ ((U1 ++ U2) ++ (V1 ++ V2)) ++ q) wr) := by have := S1.out; rw [eU, eV] at this; exact this
      have CR := hid (fun (_ : s < m) (_ : s < mid) W (hW : SK enc k w0 blk off (p ++ ((U1 ++ U2) ++ (V1 ++ V2)) ++ q) W) => rotate_any k zE enc g cb blk off cap s m (mid + m - s) l0 w0 W R (p ++ U1) U2 V1 (V2 ++ q) (by simp; omega) (by omega) (by omega) (by intro h; rw [h] at lU2; simp at lU2; omega) (by intro h; rw [h] at lV1; simp at lV1; omega) (by simp; omega) hsz (by simpa [List.append_assoc] using hW))
      have CM1 := hid (fun (_ : a < s) (_ : s < mid) W (hW : SK enc k w0 blk off (p ++ ((U1 ++ V1) ++ (U2 ++ V2)) ++ q) W) => HI.out a s mid p U1 V1 (U2 ++ V2 ++ q) W ha (by omega) (by omega) (by intro h; rw [h] at lU1; simp at lU1; omega) (by intro h; rw [h] at lV1; simp at lV1; omega) (by omega) (srt_append.1 sUV.1).1 (srt_append.1 sUV.2).1 (by simp; omega) (by simpa [List.append_assoc] using hW))
      have CM2 := hid (fun (_ : s < m) (_ : mid + m - s < b) (M1 : List α) (_ : M1.length = mid - a) W (hW : SK enc k w0 blk off (p ++ (M1 ++ (U2 ++ V2)) ++ q) W) => HI.out mid (mid + m - s) b (p ++ M1) U2 V2 q W (by simp; omega) (by omega) (by omega) (by intro h; rw [h] at lU2; simp at lU2; omega) (by intro h; rw [h] at lV2; simp at lV2; omega) (by omega) (srt_append.1 sUV.1).2.1 (srt_append.1 sUV.2).2.1 (by simp; omega) (by simpa [List.append_assoc] using hW))
      have FIN : Hid (∀ M1 M2, Srt (ltOf cf) M1 → Srt (ltOf cf) M2 → Fil (ltOf cf) (U1 ++ V1) M1 → Fil (ltOf cf) (U2 ++ V2) M2 → Srt (ltOf cf) (M1 ++ M2) ∧ Fil (ltOf cf) (U ++ V) (M1 ++ M2)) := by
        show _
        intro M1 M2 s1 s2 f1 f2
        rw [eU, eV]
        exact halves T sUV.1 sUV.2 hh.1 hh.2 s1 s2 f1 f2
      have SS := hid sUV
      have LL := hid (And.intro lU1 (And.intro lU2 (And.intro lV1 lV2)))
      have eE : ((mid + m - s : Nat) : Int) = (mid : Int) + (m : Int) - (s : Int) := by omega
      have CE := hid eE
      clear S1 hU1 hU2 hV1 hV2 lU1 lU2 lV1 lV2 eU eV sUV hh ll HH eE xm
      by_cases y : s < m
      · by_cases z : s < mid
        · by_cases x : a < s
          · by_cases u : mid + m - s < b
            · have f1 : (s : Int) < (m : Int) := by omega
              have f2 : (m : Int) < (mid : Int) + (m : Int) - (s : Int) := by omega
              have f3 : (a : Int) < (s : Int) := by omega
              have f4 : (s : Int) < (mid : Int) := by omega
              have f5 : (mid : Int) < (mid : Int) + (m : Int) - (s : Int) := by omega
              have f6 : (mid : Int) + (m : Int) - (s : Int) < (b : Int) := by omega
              have cr := CR.out y z wr S2.out
              rw [CE.out] at cr
              clear S2
              go_wp2_with fail
              refine cr.mono ?_
              rintro e1 w1 ⟨rfl, S3⟩
              clear cr
              have S3 : Aside (SK enc k w0 blk off (p ++ ((U1 ++ V1) ++ (U2 ++ V2)) ++ q) w1) := by simpa [Aside, List.append_assoc] using S3
              have c1' := CM1.out x z w1 S3.out
              clear S3
              go_wp2_with fail
              refine c1'.mono ?_
              rintro e2 w2 ⟨rfl, M1, s1, t1, S4⟩
              clear c1'
              have S4 : Aside (SK enc k w0 blk off (p ++ (M1 ++ (U2 ++ V2)) ++ q) w2) := by simpa [Aside, List.append_assoc] using S4
              have lM : Hid (M1.length = mid - a) := by have := LL.out; have := t1.length T; show _ = _; rw [← this]; simp; omega
              have s1 := hid s1
              have t1 := hid t1
              have c2' := CM2.out y u M1 lM.out w2 S4.out
              rw [CE.out] at c2'
              clear S4
              go_wp2_with fail
              refine c2'.mono ?_
              rintro e3 w3 ⟨rfl, M2, s2, t2, S5⟩
              clear c2'
              have S5 : Aside (SK enc k w0 blk off (p ++ (M1 ++ M2) ++ q) w3) := by simpa [Aside, List.append_assoc] using S5
              have s2 := hid s2
              have t2 := hid t2
              go_wp2_with fail
              all_goals (go_end0; have := FIN.out M1 M2 s1.out s2.out t1.out t2.out; exact ⟨rfl, _, this.1, this.2, S5.out⟩)
            · have f1 : (s : Int) < (m : Int) := by omega
              have f2 : (m : Int) < (mid : Int) + (m : Int) - (s : Int) := by omega
              have f3 : (a : Int) < (s : Int) := by omega
              have f4 : (s : Int) < (mid : Int) := by omega
              have f5 : (mid : Int) < (mid : Int) + (m : Int) - (s : Int) := by omega
              have f6 : ¬ (mid : Int) + (m : Int) - (s : Int) < (b : Int) := by omega
              have cr := CR.out y z wr S2.out
              rw [CE.out] at cr
              clear S2
              go_wp2_with fail
              refine cr.mono ?_
              rintro e1 w1 ⟨rfl, S3⟩
              clear cr
              have S3 : Aside (SK enc k w0 blk off (p ++ ((U1 ++ V1) ++ (U2 ++ V2)) ++ q) w1) := by simpa [Aside, List.append_assoc] using S3
              have c1' := CM1.out x z w1 S3.out
              clear S3
              go_wp2_with fail
              refine c1'.mono ?_
              rintro e2 w2 ⟨rfl, M1, s1, t1, S4⟩
              clear c1'
              have S4 : Aside (SK enc k w0 blk off (p ++ (M1 ++ (U2 ++ V2)) ++ q) w2) := by simpa [Aside, List.append_assoc] using S4
              have lM : Hid (M1.length = mid - a) := by have := LL.out; have := t1.length T; show _ = _; rw [← this]; simp; omega
              have s1 := hid s1
              have t1 := hid t1
              obtain ⟨M2, hM2⟩ : ∃ M2, M2 = U2 ++ V2 := ⟨_, rfl⟩
              have n2 : V2 = [] := by have := LL.out; exact List.eq_nil_of_length_eq_zero (by omega)
              have S5 : Aside (SK enc k w0 blk off (p ++ (M1 ++ M2) ++ q) w2) := by have := S4.out; rw [← hM2] at this; exact this
              clear S4
              have s2 : Hid (Srt (ltOf cf) M2) := by have := SS.out; show Srt _ _; rw [hM2, n2]; simpa using (srt_append.1 this.1).2.1
              have t2 : Hid (Fil (ltOf cf) (U2 ++ V2) M2) := by show Fil _ _ _; rw [hM2]; exact Fil.refl _
              clear hM2
              go_wp2_with fail
              all_goals (go_end0; have := FIN.out M1 M2 s1.out s2.out t1.out t2.out; exact ⟨rfl, _, this.1, this.2, S5.out⟩)
          · by_cases u : mid + m - s < b
            · have f1 : (s : Int) < (m : Int) := by omega
              have f2 : (m : Int) < (mid : Int) + (m : Int) - (s : Int) := by omega
              have f3 : ¬ (a : Int) < (s : Int) := by omega
              have f4 : (s : Int) < (mid : Int) := by omega
              have f5 : (mid : Int) < (mid : Int) + (m : Int) - (s : Int) := by omega
              have f6 : (mid : Int) + (m : Int) - (s : Int) < (b : Int) := by omega
              have cr := CR.out y z wr S2.out
              rw [CE.out] at cr
              clear S2
              go_wp2_with fail
              refine cr.mono ?_
              rintro e1 w1 ⟨rfl, S3⟩
              clear cr
              have S3 : Aside (SK enc k w0 blk off (p ++ ((U1 ++ V1) ++ (U2 ++ V2)) ++ q) w1) := by simpa [Aside, List.append_assoc] using S3
              obtain ⟨M1, hM1⟩ : ∃ M1, M1 = U1 ++ V1 := ⟨_, rfl⟩
              have n1 : U1 = [] := by have := LL.out; exact List.eq_nil_of_length_eq_zero (by omega)
              have S4 : Aside (SK enc k w0 blk off (p ++ (M1 ++ (U2 ++ V2)) ++ q) w1) := by have := S3.out; rw [← hM1] at this; exact this
              clear S3
              have lM : Hid (M1.length = mid - a) := by have := LL.out; show _ = _; rw [hM1]; simp; omega
              have s1 : Hid (Srt (ltOf cf) M1) := by have := SS.out; show Srt _ _; rw [hM1, n1]; simpa using (srt_append.1 this.2).1
              have t1 : Hid (Fil (ltOf cf) (U1 ++ V1) M1) := by show Fil _ _ _; rw [hM1]; exact Fil.refl _
              clear hM1
              have c2' := CM2.out y u M1 lM.out w1 S4.out
              rw [CE.out] at c2'
              clear S4
              go_wp2_with fail
              refine c2'.mono ?_
              rintro e3 w3 ⟨rfl, M2, s2, t2, S5⟩
              clear c2'
              have S5 : Aside (SK enc k w0 blk off (p ++ (M1 ++ M2) ++ q) w3) := by simpa [Aside, List.append_assoc] using S5
              have s2 := hid s2
              have t2 := hid t2
              go_wp2_with fail
              all_goals (go_end0; have := FIN.out M1 M2 s1.out s2.out t1.out t2.out; exact ⟨rfl, _, this.1, this.2, S5.out⟩)
            · have f1 : (s : Int) < (m : Int) := by omega
              have f2 : (m : Int) < (mid : Int) + (m : Int) - (s : Int) := by omega
              have f3 : ¬ (a : Int) < (s : Int) := by omega
              have f4 : (s : Int) < (mid : Int) := by omega
              have f5 : (mid : Int) < (mid : Int) + (m : Int) - (s : Int) := by omega
              have f6 : ¬ (mid : Int) + (m : Int) - (s : Int) < (b : Int) := by omega
              have cr := CR.out y z wr S2.out
              rw [CE.out] at cr
              clear S2
              go_wp2_with fail
              refine cr.mono ?_
              rintro e1 w1 ⟨rfl, S3⟩
              clear cr
              have S3 : Aside (SK enc k w0 blk off (p ++ ((U1 ++ V1) ++ (U2 ++ V2)) ++ q) w1) := by simpa [Aside, List.append_assoc] using S3
              obtain ⟨M1, hM1⟩ : ∃ M1, M1 = U1 ++ V1 := ⟨_, rfl⟩
              have n1 : U1 = [] := by have := LL.out; exact List.eq_nil_of_length_eq_zero (by omega)
              have S4 : Aside (SK enc k w0 blk off (p ++ (M1 ++ (U2 ++ V2)) ++ q) w1) := by have := S3.out; rw [← hM1] at this; exact this
              clear S3
              have lM : Hid (M1.length = mid - a) := by have := LL.out; show _ = _; rw [hM1]; simp; omega
              have s1 : Hid (Srt (ltOf cf) M1) := by have := SS.out; show Srt _ _; rw [hM1, n1]; simpa using (srt_append.1 this.2).1
              have t1 : Hid (Fil (ltOf cf) (U1 ++ V1) M1) := by show Fil _ _ _; rw [hM1]; exact Fil.refl _
              clear hM1
              obtain ⟨M2, hM2⟩ : ∃ M2, M2 = U2 ++ V2 := ⟨_, rfl⟩
              have n2 : V2 = [] := by have := LL.out; exact List.eq_nil_of_length_eq_zero (by omega)
              have S5 : Aside (SK enc k w0 blk off (p ++ (M1 ++ M2) ++ q) w1) := by have := S4.out; rw [← hM2] at this; exact this
              clear S4
              have s2 : Hid (Srt (ltOf cf) M2) := by have := SS.out; show Srt _ _; rw [hM2, n2]; simpa using (srt_append.1 this.1).2.1
              have t2 : Hid (Fil (ltOf cf) (U2 ++ V2) M2) := by show Fil _ _ _; rw [hM2]; exact Fil.refl _
              clear hM2
              go_wp2_with fail
              all_goals (go_end0; have := FIN.out M1 M2 s1.out s2.out t1.out t2.out; exact ⟨rfl, _, this.1, this.2, S5.out⟩)
        · by_cases x : a < s
          · by_cases u : mid + m - s < b
            · have f1 : (s : Int) < (m : Int) := by omega
              have f2 : ¬ (m : Int) < (mid : Int) + (m : Int) - (s : Int) := by omega
              have f3 : (a : Int) < (s : Int) := by omega
              have f4 : ¬ (s : Int) < (mid : Int) := by omega
              have f5 : (mid : Int) < (mid : Int) + (m : Int) - (s : Int) := by omega
              have f6 : (mid : Int) + (m : Int) - (s : Int) < (b : Int) := by omega
              have n0 : V1 = [] := by have := LL.out; exact List.eq_nil_of_length_eq_zero (by omega)
              have S3 : Aside (SK enc k w0 blk off (p ++ ((U1 ++ V1) ++ (U2 ++ V2)) ++ q) wr) := by have := S2.out; rw [n0] at this ⊢; simpa [Aside, List.append_assoc] using this
              clear S2
              obtain ⟨M1, hM1⟩ : ∃ M1, M1 = U1 ++ V1 := ⟨_, rfl⟩
              have n1 : V1 = [] := by have := LL.out; exact List.eq_nil_of_length_eq_zero (by omega)
              have S4 : Aside (SK enc k w0 blk off (p ++ (M1 ++ (U2 ++ V2)) ++ q) wr) := by have := S3.out; rw [← hM1] at this; exact this
              clear S3
              have lM : Hid (M1.length = mid - a) := by have := LL.out; show _ = _; rw [hM1]; simp; omega
              have s1 : Hid (Srt (ltOf cf) M1) := by have := SS.out; show Srt _ _; rw [hM1, n1]; simpa using (srt_append.1 this.1).1
              have t1 : Hid (Fil (ltOf cf) (U1 ++ V1) M1) := by show Fil _ _ _; rw [hM1]; exact Fil.refl _
              clear hM1
              have c2' := CM2.out y u M1 lM.out wr S4.out
              rw [CE.out] at c2'
              clear S4
              go_wp2_with fail
              refine c2'.mono ?_
              rintro e3 w3 ⟨rfl, M2, s2, t2, S5⟩
              clear c2'
              have S5 : Aside (SK enc k w0 blk off (p ++ (M1 ++ M2) ++ q) w3) := by simpa [Aside, List.append_assoc] using S5
              have s2 := hid s2
              have t2 := hid t2
              go_wp2_with fail
              all_goals (go_end0; have := FIN.out M1 M2 s1.out s2.out t1.out t2.out; exact ⟨rfl, _, this.1, this.2, S5.out⟩)
            · exfalso; omega
          · exfalso; omega
      · by_cases z : s < mid
        · by_cases x : a < s
          · by_cases u : mid + m - s < b
            · have f1 : ¬ (s : Int) < (m : Int) := by omega
              have f2 : (m : Int) < (mid : Int) + (m : Int) - (s : Int) := by omega
              have f3 : (a : Int) < (s : Int) := by omega
              have f4 : (s : Int) < (mid : Int) := by omega
              have f5 : ¬ (mid : Int) < (mid : Int) + (m : Int) - (s : Int) := by omega
              have f6 : (mid : Int) + (m : Int) - (s : Int) < (b : Int) := by omega
              have n0 : U2 = [] := by have := LL.out; exact List.eq_nil_of_length_eq_zero (by omega)
              have S3 : Aside (SK enc k w0 blk off (p ++ ((U1 ++ V1) ++ (U2 ++ V2)) ++ q) wr) := by have := S2.out; rw [n0] at this ⊢; simpa [Aside, List.append_assoc] using this
              clear S2
              have c1' := CM1.out x z wr S3.out
              clear S3
              go_wp2_with fail
              refine c1'.mono ?_
              rintro e2 w2 ⟨rfl, M1, s1, t1, S4⟩
              clear c1'
              have S4 : Aside (SK enc k w0 blk off (p ++ (M1 ++ (U2 ++ V2)) ++ q) w2) := by simpa [Aside, List.append_assoc] using S4
              have lM : Hid (M1.length = mid - a) := by have := LL.out; have := t1.length T; show _ = _; rw [← this]; simp; omega
              have s1 := hid s1
              have t1 := hid t1
              obtain ⟨M2, hM2⟩ : ∃ M2, M2 = U2 ++ V2 := ⟨_, rfl⟩
              have n2 : U2 = [] := by have := LL.out; exact List.eq_nil_of_length_eq_zero (by omega)
              have S5 : Aside (SK enc k w0 blk off (p ++ (M1 ++ M2) ++ q) w2) := by have := S4.out; rw [← hM2] at this; exact this
              clear S4
              have s2 : Hid (Srt (ltOf cf) M2) := by have := SS.out; show Srt _ _; rw [hM2, n2]; simpa using (srt_append.1 this.2).2.1
              have t2 : Hid (Fil (ltOf cf) (U2 ++ V2) M2) := by show Fil _ _ _; rw [hM2]; exact Fil.refl _
              clear hM2
              go_wp2_with fail
              all_goals (go_end0; have := FIN.out M1 M2 s1.out s2.out t1.out t2.out; exact ⟨rfl, _, this.1, this.2, S5.out⟩)
            · exfalso; omega
          · exfalso; omega
        · by_cases x : a < s
          · by_cases u : mid + m - s < b
            · have f1 : ¬ (s : Int) < (m : Int) := by omega
              have f2 : ¬ (m : Int) < (mid : Int) + (m : Int) - (s : Int) := by omega
              have f3 : (a : Int) < (s : Int) := by omega
              have f4 : ¬ (s : Int) < (mid : Int) := by omega
              have f5 : ¬ (mid : Int) < (mid : Int) + (m : Int) - (s : Int) := by omega
              have f6 : (mid : Int) + (m : Int) - (s : Int) < (b : Int) := by omega
              have n0 : U2 = [] := by have := LL.out; exact List.eq_nil_of_length_eq_zero (by omega)
              have S3 : Aside (SK enc k w0 blk off (p ++ ((U1 ++ V1) ++ (U2 ++ V2)) ++ q) wr) := by have := S2.out; rw [n0] at this ⊢; simpa [Aside, List.append_assoc] using this
              clear S2
              obtain ⟨M1, hM1⟩ : ∃ M1, M1 = U1 ++ V1 := ⟨_, rfl⟩
              have n1 : V1 = [] := by have := LL.out; exact List.eq_nil_of_length_eq_zero (by omega)
              have S4 : Aside (SK enc k w0 blk off (p ++ (M1 ++ (U2 ++ V2)) ++ q) wr) := by have := S3.out; rw [← hM1] at this; exact this
              clear S3
              have lM : Hid (M1.length = mid - a) := by have := LL.out; show _ = _; rw [hM1]; simp; omega
              have s1 : Hid (Srt (ltOf cf) M1) := by have := SS.out; show Srt _ _; rw [hM1, n1]; simpa using (srt_append.1 this.1).1
              have t1 : Hid (Fil (ltOf cf) (U1 ++ V1) M1) := by show Fil _ _ _; rw [hM1]; exact Fil.refl _
              clear hM1
              obtain ⟨M2, hM2⟩ : ∃ M2, M2 = U2 ++ V2 := ⟨_, rfl⟩
              have n2 : U2 = [] := by have := LL.out; exact List.eq_nil_of_length_eq_zero (by omega)
              have S5 : Aside (SK enc k w0 blk off (p ++ (M1 ++ M2) ++ q) wr) := by have := S4.out; rw [← hM2] at this; exact this
              clear S4
              have s2 : Hid (Srt (ltOf cf) M2) := by have := SS.out; show Srt _ _; rw [hM2, n2]; simpa using (srt_append.1 this.2).2.1
              have t2 : Hid (Fil (ltOf cf) (U2 ++ V2) M2) := by show Fil _ _ _; rw [hM2]; exact Fil.refl _
              clear hM2
              go_wp2_with fail
              all_goals (go_end0; have := FIN.out M1 M2 s1.out s2.out t1.out t2.out; exact ⟨rfl, _, this.1, this.2, S5.out⟩)
            · exfalso; omega
          · exfalso; omega
end Go.Proofs.YtpmkfkanolhocaaGreat
namespace Go.Proofs.YtpmkfkanolhocaaGreat
open Go.RowKit Go.Shelf Go.Lib Go.Sort
set_option linter.unusedVariables false

theorem symMerge_any {α : Type} [Inhabited α] (k : Nat) (zE : ∀ w, (Go.sizeOf 33).run Tryz.prog w = .ok k w) (aE : ∀ w, (isAgg 33).run Tryz.prog w = .ok true w) (enc : α → List Value) (cf : α → α → Int) (T : SWO (ltOf cf)) (g : Nat) (cb : Array Value) (blk off cap : Nat) (l0 : List α) (w0 : World)
    (eg : ∀ args w, (callFunc g args).run Tryz.prog w = .ok (.enter g args) w) (hC : CmpLays Tryz.prog g cb enc k cf blk off l0.length w0) (R : RowK enc k w0 blk off l0.toArray) (hsz : l0.length ≤ 1000) : ∀ n, SymOk enc k cf g cb w0 blk off cap l0 n := by
  intro n
  induction n with
  | zero => intro a m b p L R' q w _ _ _ hL _ hn; exact absurd (List.length_pos_iff.2 hL) (by omega)
  | succ n ih =>
    intro a m b p L R' q w ha hm hb hL hR hn sL sR hs S
    have h1 := List.length_pos_iff.2 hL
    have h2 := List.length_pos_iff.2 hR
    by_cases e1 : L.length = 1
    · obtain ⟨x, rfl⟩ : ∃ x, L = [x] := List.length_eq_one_iff.1 e1
      exact symMerge_one k zE aE enc cf T g cb blk off cap a m b l0 w0 w eg hC R p R' q x ha (by simpa using hm) hb sR (by simpa using hs) hsz (by simpa using S)
    · by_cases e2 : R'.length = 1
      · obtain ⟨x, rfl⟩ : ∃ x, R' = [x] := List.length_eq_one_iff.1 e2
        exact symMerge_last k zE aE enc cf T g cb blk off cap a m b l0 w0 w eg hC R p L q x ha hm (by simpa using hb) (by omega) sL (by simpa using hs) hsz (by simpa using S)
      · have IH : SymOk enc k cf g cb w0 blk off cap l0 (L.length + R'.length - 1) := fun a m b p L R q w x1 x2 x3 x4 x5 x6 => ih a m b p L R q w x1 x2 x3 x4 x5 (by omega)
        rcases Nat.lt_or_ge ((a + b) / 2) m with h | h
        · exact symMerge_left k zE aE enc cf T g cb blk off cap a m b _ l0 w0 w eg hC R p L R' q ha hm hb (by omega) (by omega) sL sR hs hsz S IH rfl h
        · exact symMerge_right k zE aE enc cf T g cb blk off cap a m b _ l0 w0 w eg hC R p L R' q ha hm hb (by omega) (by omega) sL sR hs hsz S IH rfl h

set_option maxHeartbeats 4000000 in
set_option maxRecDepth 1000000 in
theorem insertion_any {α : Type} [Inhabited α] (k : Nat) (zE : ∀ w, (Go.sizeOf 33).run Tryz.prog w = .ok k w) (aE : ∀ w, (isAgg 33).run Tryz.prog w = .ok true w) (enc : α → List Value) (cf : α → α → Int) (T : SWO (ltOf cf)) (g : Nat) (cb : Array Value) (blk off cap a b : Nat) (l0 : List α) (w0 w : World)
    (eg : ∀ args w, (callFunc g args).run Tryz.prog w = .ok (.enter g args) w) (hC : CmpLays Tryz.prog g cb enc k cf blk off l0.length w0) (R : RowK enc k w0 blk off l0.toArray) (p V q : List α) (ha : p.length = a) (hb : a + V.length = b)
    (hs : l0.length = (p ++ V ++ q).length) (hsz : l0.length ≤ 1000) (S : SK enc k w0 blk off (p ++ V ++ q) w) :
    Calls Tryz.prog 82 #[.slice (some ⟨blk, off, none⟩) l0.length cap, .int .i64 a, .int .i64 b, .func (.func g) #[] cb] w fun e w' => e = .returned (.tuple #[]) ∧ ∃ M, Srt (ltOf cf) M ∧ Fil (ltOf cf) V M ∧ SK enc k w0 blk off (p ++ M ++ q) w' := by
  have S0 : Aside (SK enc k w0 blk off (p ++ V ++ q) w) := S
  have HC : Aside (CmpLays Tryz.prog g cb enc k cf blk off l0.length w0) := hC
  have hmix : Tryz.prog.follows .mixedOrders = true := by kernel_rfl
  have hlen : l0.length = a + V.length + q.length := by rw [hs]; simp; omega
  have HL := hid (And.intro hlen (And.intro hb ha))
  clear S hs hlen hC hb ha
  go_enter Tryz.func82, Tryz.ntmps82
  go_wp2
  go_loopg [8] (V.length) (fun kx s8 wr => ∃ (i : Nat) (M : List α), s8 = .int .i64 i ∧ a + 1 ≤ i ∧ i ≤ a + V.length + 1 ∧ a + V.length + 1 ≤ kx + i ∧ Hid (M.length = (V.take (i - a)).length) ∧ Hid (Srt (ltOf cf) M) ∧ Hid (Fil (ltOf cf) (V.take (i - a)) M) ∧ Aside (SK enc k w0 blk off (p ++ (M ++ V.drop (i - a)) ++ q) wr))
  case atStart =>
    have hl := HL.out
    refine ⟨a + 1, V.take 1, by congr 1; unfold wrap64; omega, Nat.le_refl _, by omega, by omega, ?_, ?_, ?_, ?_⟩
    · show _ = _; rw [show a + 1 - a = 1 by omega]
    · show Srt _ _
      cases V with
      | nil => exact List.Pairwise.nil
      | cons x V => simp [Srt]
    · show Fil _ _ _; rw [show a + 1 - a = 1 by omega]; exact Fil.refl _
    · rw [show a + 1 - a = 1 by omega, List.take_append_drop]; exact S0
  case round =>
    clear S0
    obtain ⟨i, M, rfl, hai, hib, hkx, lM, sM, fM, S1⟩ := hrel
    by_cases hlt : i < b
    · have hltz : (i : Int) < (b : Int) := by omega
      have hl := HL.out
      obtain ⟨x, hx⟩ : ∃ x, V.drop (i - a) = x :: V.drop (i - a + 1) := ⟨V[i - a]'(by omega), by rw [List.drop_eq_getElem_cons (by omega)]⟩
      have hM : M.length = i - a := by rw [lM.out, List.length_take]; omega
      obtain ⟨D, hD⟩ : ∃ D, D = V.drop (i - a + 1) := ⟨_, rfl⟩
      have hDl : D.length = V.length - (i - a) - 1 := by rw [hD, List.length_drop]; omega
      have HX : Hid (V.drop (i - a) = x :: D) := by show _ = _; rw [hD]; exact hx
      have S2 : Aside (SK enc k w0 blk off (p ++ (M.take (i - a) ++ x :: M.drop (i - a) ++ D) ++ q) wr) := by
        have := S1.out
        rw [hx, ← hD] at this
        rw [List.take_of_length_le (by omega), List.drop_of_length_le (by omega)]
        simpa [Aside, List.append_assoc] using this
      have HM := hid (And.intro hM hDl)
      have HD := hid hD
      clear S1 hx hD hM hDl hl
      go_wp2
      go_loopg [9] (i) (fun kx s9 wr => ∃ (j : Nat), s9 = .int .i64 j ∧ a ≤ j ∧ j ≤ i ∧ j ≤ kx ∧ Hid (∀ z ∈ M.drop (j - a), ltOf cf x z = true) ∧ Aside (SK enc k w0 blk off (p ++ (M.take (j - a) ++ x :: M.drop (j - a) ++ D) ++ q) wr))
      case atStart =>
        have := HM.out
        exact ⟨i, rfl, by omega, Nat.le_refl _, Nat.le_refl _, by rw [List.drop_of_length_le (by omega)]; simp [Hid], S2⟩
      case round =>
        clear S2
        obtain ⟨j, rfl, haj, hji, hkj, B, S2⟩ := hrel
        have out : Hid (∀ W, SK enc k w0 blk off (p ++ (M.take (j - a) ++ x :: M.drop (j - a) ++ D) ++ q) W → (∀ z ∈ M.take (j - a), ltOf cf x z = false) → ∃ M' : List α, Hid (M'.length = (V.take (i + 1 - a)).length) ∧ Hid (Srt (ltOf cf) M') ∧ Hid (Fil (ltOf cf) (V.take (i + 1 - a)) M') ∧ Aside (SK enc k w0 blk off (p ++ (M' ++ V.drop (i + 1 - a)) ++ q) W)) := by
          show _
          intro W hW hz
          have hp := put_right T sM.out hz B.out
          have hl := HL.out
          have hM := HM.out
          have e1 : V.take (i + 1 - a) = V.take (i - a) ++ [x] := by rw [show i + 1 - a = i - a + 1 by omega]; exact take_more HX.out
          have e2 : V.drop (i + 1 - a) = D := by rw [HD.out, show i + 1 - a = i - a + 1 by omega]
          have f : Fil (ltOf cf) (V.take (i + 1 - a)) (M.take (j - a) ++ x :: M.drop (j - a)) := by rw [e1]; exact (fM.out.append (Fil.refl _)).trans hp.2
          exact ⟨M.take (j - a) ++ x :: M.drop (j - a), (f.length T).symm, hp.1, f, by rw [e2]; exact hW⟩
        by_cases hja : a < j
        · have hjaz : (a : Int) < (j : Int) := by omega
          obtain ⟨d, rfl⟩ : ∃ d, j = d + 1 := ⟨j - 1, by omega⟩
          have hM := HM.out
          have hl := HL.out
          obtain ⟨y, hy⟩ : ∃ y, M.drop (d - a) = y :: M.drop (d - a + 1) := ⟨M[d - a]'(by omega), by rw [List.drop_eq_getElem_cons (by omega)]⟩
          have hy0 : M[d - a]? = some y := by rw [← List.head?_drop, hy]; rfl
          have hd1 : d + 1 - a = d - a + 1 := by omega
          have e0 : p ++ (M.take (d - a + 1) ++ x :: M.drop (d - a + 1) ++ D) ++ q = (p ++ M.take (d - a)) ++ y :: ([] ++ x :: (M.drop (d - a + 1) ++ D ++ q)) := by rw [take_more hy]; simp
          have e1 : p ++ (M.take (d - a) ++ x :: M.drop (d - a) ++ D) ++ q = (p ++ M.take (d - a)) ++ x :: ([] ++ y :: (M.drop (d - a + 1) ++ D ++ q)) := by rw [hy]; simp
          have n1 : (p ++ M.take (d - a)).length = d := by rw [List.length_append, List.length_take]; omega
          have n2 : d + 1 + ([] : List α).length = d + 1 := rfl
          rw [hd1] at S2
          have gy : (p ++ (M.take (d - a + 1) ++ x :: M.drop (d - a + 1) ++ D) ++ q)[d]? = some y := by rw [e0, List.getElem?_append_right (by omega), n1, Nat.sub_self]; rfl
          have gx : (p ++ (M.take (d - a + 1) ++ x :: M.drop (d - a + 1) ++ D) ++ q)[d + 1]? = some x := by rw [e0, List.getElem?_append_right (by omega), n1, show d + 1 - d = 1 by omega]; rfl
          have hll : l0.length = (p ++ (M.take (d - a + 1) ++ x :: M.drop (d - a + 1) ++ D) ++ q).length := by
            simp only [List.length_append, List.length_cons, List.length_take, List.length_drop]; omega
          obtain ⟨lx, ly, hc⟩ := S2.out.held R HC.out hll gx gy
          have pb : (0 : Int) ≤ (d : Int) + 1 := by omega
          have tb : ((d : Int) + 1).toNat = d + 1 := by omega
          have ba : (d : Int) < (l0.length : Int) := by omega
          have bb : (d : Int) + 1 < (l0.length : Int) := by omega
          have wb : IntKind.i64.wrap (d : Int) = (d : Int) := by rw [IntKind.wrap_i64]; omega
          have hjaz' : (a : Int) < (d : Int) + 1 := by omega
          have HY := hid (And.intro hy (And.intro hy0 (And.intro e0 (And.intro e1 (And.intro n1 hll)))))
          clear hy hy0 e0 e1 n1 gy gx hll hd1 hM hl
          by_cases hv : cf x y < 0
          · have HLT := hid (decide_eq_true hv : ltOf cf x y = true)
            go_wp2_with fail
            go_quiet_grown (first | (go_at_fn g; refine Calls.grown_of (hc _ _)))
            have S3 : Aside _ := S2.out.grown nq osq
            have hd : decide (cf x y < 0) = true := HLT.out
            clear lx ly hc S2
            generalize grow (wr.drewN nq) osq = w2 at S3 ⊢
            go_wp2_with fail
            have S4 : Aside (SK enc k w0 blk off (p ++ (M.take (d - a) ++ x :: M.drop (d - a) ++ D) ++ q) ((w2.drew.setCells blk (off + (d + 1) * k) (enc y)).setCells blk (off + d * k) (enc x))) := by
              have := SK.swapped' S3.out R HY.out.2.2.1 HY.out.2.2.2.2.1 n2
              rw [← HY.out.2.2.2.1] at this
              exact this
            obtain ⟨la, lb, sa, sb, na, nb⟩ := SK.facts' S3.out R HY.out.2.2.1 HY.out.2.2.2.2.1 n2 HY.out.2.2.2.2.2 Tryz.prog
            generalize enc x = cx at S4 lb sb nb
            generalize enc y = cy at S4 la sa sb na
            clear S3
            go_big_region_o
            clear la lb sa sb
            generalize (w2.drew.setCells blk (off + (d + 1) * k) cy).setCells blk (off + d * k) cx = w3 at S4 ⊢
            go_wp2
            go_roundg d
            case measure => omega
            case rel =>
              refine ⟨d, by first | rfl | go_num, by omega, by omega, Nat.le_refl _, ?_, S4⟩
              show ∀ z ∈ M.drop (d - a), ltOf cf x z = true
              exact srt_above' T sM.out HY.out.2.1 HLT.out
          · have HLT := hid (decide_eq_false hv : ltOf cf x y = false)
            go_wp2_with fail
            go_quiet_grown (first | (go_at_fn g; refine Calls.grown_of (hc _ _)))
            have S3 : Aside _ := S2.out.grown nq osq
            have hd : decide (cf x y < 0) = false := HLT.out
            clear lx ly hc S2
            generalize grow (wr.drewN nq) osq = w2 at S3 ⊢
            go_wp2
            go_roundg (a + V.length - i)
            case measure => have hl := HL.out; omega
            case rel =>
              have hl := HL.out
              obtain ⟨M', m1, m2, m3, m4⟩ := out.out w2 (by rw [show d + 1 - a = d - a + 1 by omega]; exact S3.out) (by rw [show d + 1 - a = d - a + 1 by omega]; exact srt_below' T sM.out HY.out.2.1 HLT.out)
              exact ⟨i + 1, M', by first | go_num | (congr 1; unfold wrap64; omega), by omega, by omega, by omega, m1, m2, m3, m4⟩
        · have hjaz : decide ((j : Int) > (a : Int)) = false := decide_eq_false (by omega)
          have hjaz' : ¬ (a : Int) < (j : Int) := by omega
          have S3 : Aside _ := S2.out.grown 1 #[]
          have hdr : grow (wr.drewN 1) #[] = wr.drew := by rw [grow_empty]; rfl
          rw [hdr] at S3
          clear hdr
          go_wp2_with fail
          go_big_region_o
          all_goals go_wp2
          go_roundg (a + V.length - i)
          case measure => have hl := HL.out; omega
          case rel =>
            have hl := HL.out
            obtain ⟨M', m1, m2, m3, m4⟩ := out.out _ S3.out (by rw [show j - a = 0 by omega]; simp)
            exact ⟨i + 1, M', by first | go_num | (congr 1; unfold wrap64; omega), by omega, by omega, by omega, m1, m2, m3, m4⟩
    · have hltz : ¬ (i : Int) < (b : Int) := by omega
      go_wp2
      go_end0
      have hl := HL.out
      have := S1.out
      have f := fM.out
      rw [List.take_of_length_le (by omega)] at f
      rw [List.drop_of_length_le (by omega)] at this
      exact ⟨rfl, M, sM.out, f, by simpa using this⟩
end Go.Proofs.YtpmkfkanolhocaaGreat
namespace Go.Proofs.YtpmkfkanolhocaaGreat
open Go.RowKit Go.Shelf Go.Lib Go.Sort
set_option linter.unusedVariables false

section
variable {α : Type} {lt : α → α → Bool}
/-- each piece of n is in order -/
def Chk (lt : α → α → Bool) (n : Nat) (l : List α) : Prop := ∀ j, Srt lt ((l.drop (n * j)).take n)
theorem chk_of_srt {n : Nat} {l : List α} (h : Srt lt l) : Chk lt n l := fun j => srt_take (srt_drop h _) _
theorem chk_head {n : Nat} {l : List α} (h : Chk lt n l) : Srt lt (l.take n) := by have := h 0; simpa using this
theorem chk_tail {n : Nat} {l : List α} (h : Chk lt n l) : Chk lt n (l.drop n) := fun j => by
  have := h (j + 1)
  rw [Nat.mul_add, Nat.mul_one, Nat.add_comm, ← List.drop_drop] at this
  exact this
theorem chk_append {n c : Nat} {l m : List α} (hl : l.length = n * c) (h : Chk lt n l) (k : Chk lt n m) : Chk lt n (l ++ m) := fun j => by
  rcases Nat.lt_or_ge j c with hj | hj
  · have h1 : n * j + n ≤ n * c := by have := Nat.mul_le_mul_left n (show j + 1 ≤ c from hj); rwa [Nat.mul_add, Nat.mul_one] at this
    rw [List.drop_append_of_le_length (by omega), List.take_append_of_le_length (by rw [List.length_drop]; omega)]
    exact h j
  · have h1 : n * c ≤ n * j := Nat.mul_le_mul_left n hj
    rw [List.drop_append, List.drop_of_length_le (by omega), List.nil_append, hl, ← Nat.mul_sub]
    exact k _
theorem chk_one {n : Nat} {l : List α} (h : Chk lt n l) (hl : l.length ≤ n) : Srt lt l := by
  have := chk_head h
  rwa [List.take_of_length_le hl] at this
end

set_option maxHeartbeats 4000000 in
set_option maxRecDepth 1000000 in
theorem stable_any {α : Type} [Inhabited α] (k : Nat) (zE : ∀ w, (Go.sizeOf 33).run Tryz.prog w = .ok k w) (aE : ∀ w, (isAgg 33).run Tryz.prog w = .ok true w) (enc : α → List Value) (cf : α → α → Int) (T : SWO (ltOf cf)) (g : Nat) (cb : Array Value) (blk off cap : Nat) (l0 : List α) (w0 w : World)
    (eg : ∀ args w, (callFunc g args).run Tryz.prog w = .ok (.enter g args) w) (hC : CmpLays Tryz.prog g cb enc k cf blk off l0.length w0) (R : RowK enc k w0 blk off l0.toArray) (hsz : l0.length ≤ 1000) (S : SK enc k w0 blk off l0 w) :
    Calls Tryz.prog 64 #[.slice (some ⟨blk, off, none⟩) l0.length cap, .int .i64 l0.length, .func (.func g) #[] cb] w fun e w' => e = .returned (.tuple #[]) ∧ ∃ M, Srt (ltOf cf) M ∧ Fil (ltOf cf) l0 M ∧ SK enc k w0 blk off M w' := by
  obtain ⟨N, hN⟩ : ∃ N, N = l0.length := ⟨_, rfl⟩
  have S0 : Aside (SK enc k w0 blk off l0 w) := S
  have CI := hid (fun a b p V q ha hb hs w (hW : SK enc k w0 blk off (p ++ V ++ q) w) => insertion_any k zE aE enc cf T g cb blk off cap a b l0 w0 w eg hC R p V q ha hb hs hsz hW)
  have CS := hid (fun a m b p L R' q w ha hm hb hL hR sL sR hs (hW : SK enc k w0 blk off (p ++ (L ++ R') ++ q) w) => symMerge_any k zE aE enc cf T g cb blk off cap l0 w0 eg hC R hsz (L.length + R'.length) a m b p L R' q w ha hm hb hL hR (Nat.le_refl _) sL sR hs hW)
  have HN := hid hN
  clear S hC R
  rw [← hN] at hsz ⊢
  clear hN
  go_enter Tryz.func64, Tryz.ntmps64
  go_wp2_with fail
  go_loopg [7, 8] (N) (fun kx s7 s8 wr => ∃ (A B c : Nat) (M : List α), s7 = .int .i64 A ∧ s8 = .int .i64 B ∧ Hid (A = 20 * c) ∧ Hid (B = A + 20) ∧ A ≤ N ∧ N - A ≤ kx ∧ Hid (M.length = A) ∧ Hid (Chk (ltOf cf) 20 M) ∧ Hid (Fil (ltOf cf) (l0.take A) M) ∧ Aside (SK enc k w0 blk off (M ++ l0.drop A) wr))
  case atStart => exact ⟨0, 20, 0, [], rfl, rfl, rfl, rfl, by omega, by omega, rfl, (chk_of_srt List.Pairwise.nil : Chk _ _ _), (Fil.refl _ : Fil _ _ _), S0⟩
  case round =>
    clear S0
    obtain ⟨A, B, c, M, rfl, rfl, hA, hB, hc, hkx, lM, cM, fM, S1⟩ := hrel
    have hn := HN.out
    have hm := lM.out
    have hb := hB.out
    by_cases hlt : B ≤ N
    · have hltz : (B : Int) ≤ (N : Int) := by omega
      have ci := CI.out A B M ((l0.drop A).take 20) (l0.drop B) hm (by rw [List.length_take, List.length_drop]; omega) (by simp; omega) wr (by have := S1.out; rw [← List.take_append_drop 20 (l0.drop A), List.drop_drop, ← hb] at this; simpa [List.append_assoc] using this)
      rw [← hn] at ci
      have wB : (B : Int) + 20 ≤ 5000 := by omega
      clear hn hm S1 hb
      go_wp2_with fail
      refine ci.mono ?_
      rintro e w2 ⟨rfl, M1, s1, f1, S2⟩
      have S2 : Aside _ := S2
      have s1 := hid s1
      have f1 := hid f1
      clear ci
      go_wp2
      go_roundg (N - B)
      case measure => have := hB.out; omega
      case rel =>
        have hb := hB.out
        have hn := HN.out
        have e1 : l0.take B = l0.take A ++ (l0.drop A).take 20 := by rw [hb, List.take_add]
        have f : Fil (ltOf cf) (l0.take B) (M ++ M1) := by rw [e1]; exact fM.out.append f1.out
        have lf := f.length T
        rw [List.length_take] at lf
        refine ⟨B, B + 20, c + 1, M ++ M1, rfl, by first | rfl | go_num, ?_, rfl, by omega, Nat.le_refl _, ?_, ?_, f, S2⟩
        · show _ = _; rw [hb, hA.out]; omega
        · show _ = _; omega
        · show Chk _ _ _; exact chk_append (c := c) (by rw [lM.out, hA.out]) cM.out (chk_of_srt s1.out)
    · have hltz : ¬ (B : Int) ≤ (N : Int) := by omega
      have ci := CI.out A N M (l0.drop A) [] hm (by rw [List.length_drop]; omega) (by simp; omega) wr (by simpa using S1.out)
      rw [← hn] at ci
      clear hn hm S1 hb
      go_wp2_with fail
      refine ci.mono ?_
      rintro e w2 ⟨rfl, M1, s1, f1, S2⟩
      clear ci
      have S2 : Aside (SK enc k w0 blk off (M ++ M1) w2) := by simpa [Aside] using S2
      have f : Hid (Fil (ltOf cf) l0 (M ++ M1)) := by
        show Fil _ _ _
        have := fM.out.append f1
        rwa [List.take_append_drop] at this
      have cX : Hid (Chk (ltOf cf) 20 (M ++ M1)) := by show Chk _ _ _; exact chk_append (c := c) (by rw [lM.out, hA.out]) cM.out (chk_of_srt s1)
      obtain ⟨X, hX⟩ : ∃ X, X = M ++ M1 := ⟨_, rfl⟩
      rw [← hX] at S2 f cX
      clear hX s1 f1 fM cM lM hA hB hc hkx hlt hltz
      go_wp2_with fail
      go_loopg [6] (N) (fun kx s6 wr => ∃ (D : Nat) (X : List α), s6 = .int .i64 D ∧ 1 ≤ D ∧ D ≤ 2000 ∧ N - D ≤ kx ∧ Hid (Chk (ltOf cf) D X) ∧ Hid (Fil (ltOf cf) l0 X) ∧ Aside (SK enc k w0 blk off X wr))
      case atStart => exact ⟨20, X, rfl, by omega, by omega, by omega, cX, f, S2⟩
      case round =>
        clear cX f S2
        obtain ⟨D, X, rfl, hD1, hD2, hkx, cX, f, S1⟩ := hrel
        by_cases hlt : D < N
        · have hltz : (D : Int) < (N : Int) := by omega
          have w2D : (2 : Int) * (D : Int) ≤ 4000 := by omega
          have w2D0 : (0 : Int) ≤ (2 : Int) * (D : Int) := by omega
          go_wp2_with fail
          go_loopg [7, 8] (N) (fun kx s7 s8 wr => ∃ (A B c : Nat) (M Y : List α), s7 = .int .i64 A ∧ s8 = .int .i64 B ∧ Hid (A = 2 * D * c) ∧ Hid (B = A + 2 * D) ∧ A ≤ N ∧ N - A ≤ kx ∧ Hid (M.length = A) ∧ Hid (Chk (ltOf cf) (2 * D) M) ∧ Hid (Chk (ltOf cf) D Y) ∧ Hid (Fil (ltOf cf) l0 (M ++ Y)) ∧ Aside (SK enc k w0 blk off (M ++ Y) wr))
          case atStart => exact ⟨0, 2 * D, 0, [], X, rfl, by first | rfl | go_num, rfl, (by show _ = _; omega), by omega, by omega, rfl, (chk_of_srt List.Pairwise.nil : Chk _ _ _), cX, f, S1⟩
          case round =>
            clear S1 cX f
            obtain ⟨A, B, c, M, Y, rfl, rfl, hA, hB, hc, hkc, lM, cM, cY, f, S1⟩ := hrel
            have hn := HN.out
            have hm := lM.out
            have hb := hB.out
            have hl : M.length + Y.length = N := by have := f.out.length T; rw [List.length_append] at this; omega
            have wAD : (A : Int) + (D : Int) ≤ 5000 := by omega
            have hT1 := chk_head cY.out
            have hT2 := chk_head (chk_tail cY.out)
            by_cases hle : B ≤ N
            · have hlz : (B : Int) ≤ (N : Int) := by omega
              have cs := CS.out A (A + D) B M (Y.take D) ((Y.drop D).take D) (Y.drop (2 * D)) wr hm (by rw [List.length_take]; omega) (by rw [List.length_take, List.length_drop]; omega) (List.length_pos_iff.1 (by rw [List.length_take]; omega)) (List.length_pos_iff.1 (by rw [List.length_take, List.length_drop]; omega)) hT1 hT2 (by simp; omega) (by have := S1.out; rw [← List.take_append_drop D Y, ← List.take_append_drop D (Y.drop D), List.drop_drop, show D + D = 2 * D by omega] at this; simpa [List.append_assoc] using this)
              rw [← hn, show ((A + D : Nat) : Int) = (A : Int) + (D : Int) by omega] at cs
              have wB : (B : Int) + 2 * (D : Int) ≤ 9000 := by omega
              have HLL := hid hl
              clear hn hm hb hT1 hT2 hl S1
              go_wp2_with fail
              refine cs.mono ?_
              rintro e w2 ⟨rfl, M1, s1, f1, S2⟩
              clear cs
              have S2 : Aside _ := S2
              have s1 := hid s1
              have f1 := hid f1
              go_wp2
              go_roundg (N - B)
              case measure => have := hB.out; omega
              case rel =>
                have hb := hB.out
                have hn := HN.out
                have hl := HLL.out
                have hm := lM.out
                have eY : Y = (Y.take D ++ (Y.drop D).take D) ++ Y.drop (2 * D) := by
                  have e2 : (Y.drop D).take D ++ Y.drop (2 * D) = Y.drop D := by rw [show 2 * D = D + D by omega, ← List.drop_drop, List.take_append_drop]
                  rw [List.append_assoc, e2, List.take_append_drop]
                have l1 := f1.out.length T
                rw [List.length_append, List.length_take, List.length_take, List.length_drop] at l1
                have g : Fil (ltOf cf) l0 ((M ++ M1) ++ Y.drop (2 * D)) := by
                  have := f.out
                  rw [eY] at this
                  refine this.trans ?_
                  rw [show M ++ M1 ++ Y.drop (2 * D) = M ++ (M1 ++ Y.drop (2 * D)) by rw [List.append_assoc]]
                  exact (Fil.refl _).append (f1.out.append (Fil.refl _))
                refine ⟨B, B + 2 * D, c + 1, M ++ M1, Y.drop (2 * D), rfl, by first | rfl | go_num, ?_, rfl, by omega, Nat.le_refl _, ?_, ?_, ?_, g, S2⟩
                · show _ = _; rw [hb, hA.out, Nat.mul_add]; omega
                · show _ = _; rw [List.length_append]; omega
                · show Chk _ _ _; exact chk_append (c := c) (by rw [hm, hA.out]) cM.out (chk_of_srt s1.out)
                · show Chk _ _ _
                  have := chk_tail (chk_tail cY.out)
                  rw [List.drop_drop, show D + D = 2 * D by omega] at this
                  exact this
            · have hlz : ¬ (B : Int) ≤ (N : Int) := by omega
              have fin : Hid (∀ M1, Srt (ltOf cf) M1 → Fil (ltOf cf) Y M1 → Hid (Chk (ltOf cf) (D * 2) (M ++ M1)) ∧ Hid (Fil (ltOf cf) l0 (M ++ M1))) := by
                show _
                intro M1 s1 f1
                refine ⟨?_, ?_⟩
                · show Chk _ _ _; rw [show D * 2 = 2 * D by omega]; exact chk_append (c := c) (by rw [hm, hA.out]) cM.out (chk_of_srt s1)
                · show Fil _ _ _; exact f.out.trans ((Fil.refl _).append f1)
              by_cases hmn : A + D < N
              · have hmz : (A : Int) + (D : Int) < (N : Int) := by omega
                have cs := CS.out A (A + D) N M (Y.take D) (Y.drop D) [] wr hm (by rw [List.length_take]; omega) (by rw [List.length_drop]; omega) (List.length_pos_iff.1 (by rw [List.length_take]; omega)) (List.length_pos_iff.1 (by rw [List.length_drop]; omega)) hT1 (chk_one (chk_tail cY.out) (by rw [List.length_drop]; omega)) (by simp; omega) (by have := S1.out; rw [← List.take_append_drop D Y] at this; simpa [List.append_assoc] using this)
                rw [← hn, show ((A + D : Nat) : Int) = (A : Int) + (D : Int) by omega] at cs
                clear hn hm hb hT1 hT2 hl S1
                go_wp2_with fail
                refine cs.mono ?_
                rintro e w2 ⟨rfl, M1, s1, f1, S2⟩
                rw [List.take_append_drop] at f1
                have S2 : Aside (SK enc k w0 blk off (M ++ M1) w2) := by simpa [Aside] using S2
                have ff := fin.out M1 s1 f1
                clear cs s1 f1
                go_wp2
                go_roundg (N - D * 2)
                case measure => omega
                case rel => exact ⟨D * 2, M ++ M1, by first | rfl | go_num, by omega, by omega, Nat.le_refl _, ff.1, ff.2, S2⟩
              · have hmz : ¬ (A : Int) + (D : Int) < (N : Int) := by omega
                have ff := fin.out Y (chk_one cY.out (by omega)) (Fil.refl _)
                clear hn hm hb hT1 hT2 hl
                go_wp2
                go_roundg (N - D * 2)
                case measure => omega
                case rel => exact ⟨D * 2, M ++ Y, by first | rfl | go_num, by omega, by omega, Nat.le_refl _, ff.1, ff.2, S1⟩
        · have hltz : ¬ (D : Int) < (N : Int) := by omega
          go_wp2
          go_end0
          have hn := HN.out
          exact ⟨rfl, X, chk_one cX.out (by rw [← f.out.length T]; omega), f.out, S1.out⟩

set_option maxHeartbeats 4000000 in
theorem sortStable_any {α : Type} [Inhabited α] (k : Nat) (zE : ∀ w, (Go.sizeOf 33).run Tryz.prog w = .ok k w) (aE : ∀ w, (isAgg 33).run Tryz.prog w = .ok true w) (enc : α → List Value) (cf : α → α → Int) (T : SWO (ltOf cf)) (g : Nat) (cb : Array Value) (blk off cap : Nat) (l0 : List α) (w0 w : World)
    (eg : ∀ args w, (callFunc g args).run Tryz.prog w = .ok (.enter g args) w) (hC : CmpLays Tryz.prog g cb enc k cf blk off l0.length w0) (R : RowK enc k w0 blk off l0.toArray) (hsz : l0.length ≤ 1000) (S : SK enc k w0 blk off l0 w) :
    Calls Tryz.prog 39 #[.slice (some ⟨blk, off, none⟩) l0.length cap, .func (.func g) #[] cb] w fun e w' => e = .returned (.tuple #[]) ∧ ∃ M, Srt (ltOf cf) M ∧ Fil (ltOf cf) l0 M ∧ SK enc k w0 blk off M w' := by
  have hc := stable_any k zE aE enc cf T g cb blk off cap l0 w0 w eg hC R hsz S
  obtain ⟨N, hN⟩ : ∃ N, N = l0.length := ⟨_, rfl⟩
  rw [← hN] at hc hsz ⊢
  clear hN S R hC
  go_enter Tryz.func39, Tryz.ntmps39
  go_wp2_with fail
  refine hc.mono ?_
  rintro e w2 ⟨rfl, M, h1, h2, h3⟩
  have h1 := hid h1
  have h2 := hid h2
  have h3 := hid h3
  go_wp2
  go_end0
  exact ⟨rfl, M, h1.out, h2.out, h3.out⟩
end Go.Proofs.YtpmkfkanolhocaaGreat
