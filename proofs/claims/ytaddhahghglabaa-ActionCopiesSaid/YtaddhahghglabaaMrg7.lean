/- Put together out of several texts: what the laws of earlier stages left. -/
import Derived.Test.YtaddhahghglabaaMrg3
namespace Go.Proofs.Ytaddhahghglabaa
open Go.RowKit
set_option linter.unusedVariables false

/-- a value of a list -/
structure Ox9 where
  C : Int
  F : Int
  H : Bool
  X : Int
  v : List Int
  m : List Int
/-- is it what the field d asks for, with one of these numbers? -/
def sat9 (d : Int) (vals : List Int) (x : Ox9) : Bool :=
  x.C == 32768 && (x.F == d && (if vals = [] then x.v.any (fun k => k != 0) else (!x.H && vals.any (fun k => x.v == bytesL k (fld d).z))))
def asks9 (o : Ox9) : Bool := o.C == 32768 && (decide (0 ≤ o.F ∧ o.F < 40) && decide (0 ≤ (fld o.F).d))
def met9 (l : List Ox9) (o : Ox9) : Bool := !asks9 o || l.any (sat9 (fld o.F).d (fld o.F).v)
def alike9 (a b : Ox9) : Bool := alikeB a.C a.F a.X b.C b.F b.X
def twice9 (l : List Ox9) (o : Ox9) : Bool := l.any (fun x => alike9 x o)
def chk9 (pre : List Ox9) : List Ox9 → Int × Int
  | [] => (0, 0)
  | o :: r => if twice9 pre o then (pre.length, 1035) else if met9 pre o = false then (pre.length, 1034) else chk9 (pre ++ [o]) r
def check9 (l : List Ox9) : Int × Int := chk9 [] l
def asked9 (l : List Ox9) (n : Int) : Bool := l.any (fun o => o.C == 32768 && (needL o.F).contains n)
def has9 (l : List Ox9) (n : Int) : Bool := l.any (fun o => o.C == 32768 && o.F == n)
def missing9 (l : List Ox9) : List Int := ((List.range 40).map (fun (k : Nat) => (k : Int))).filter (fun n => asked9 l n && !has9 l n)
def before9 (a b : Ox9) : Bool := if a.C ≠ b.C then decide (a.C < b.C) else if a.F ≠ b.F then decide (a.F < b.F) else decide (a.X < b.X)
def ins9 (o : Ox9) : List Ox9 → List Ox9
  | [] => [o]
  | x :: r => if before9 o x then o :: x :: r else x :: ins9 o r
def sort9 (l : List Ox9) : List Ox9 := l.foldl (fun out o => ins9 o out) []
def Sorted9 (l : List Ox9) : Prop := l.Pairwise (fun a b => before9 b a = false)

/-! ### the order -/
theorem before_iff (a b : Ox9) : before9 a b = true ↔ (a.C < b.C ∨ (a.C = b.C ∧ (a.F < b.F ∨ (a.F = b.F ∧ a.X < b.X)))) := by
  unfold before9
  by_cases h : a.C = b.C
  · by_cases h2 : a.F = b.F
    · simp [h, h2]
    · simp [h, h2]
  · simp [h]
theorem before_not (a b : Ox9) : before9 a b = false ↔ ¬ (a.C < b.C ∨ (a.C = b.C ∧ (a.F < b.F ∨ (a.F = b.F ∧ a.X < b.X)))) := by
  rw [← before_iff]; simp
theorem alike_iff9 (a b : Ox9) : alike9 a b = true ↔ (a.C = b.C ∧ a.F = b.F ∧ a.X = b.X) := by
  simp [alike9, alikeB, and_assoc]
theorem alike_symm9 (a b : Ox9) : alike9 a b = alike9 b a := by
  rw [Bool.eq_iff_iff, alike_iff9, alike_iff9]; constructor <;> rintro ⟨h1, h2, h3⟩ <;> exact ⟨h1.symm, h2.symm, h3.symm⟩
theorem not_before_trans {a b c : Ox9} (h1 : before9 b a = false) (h2 : before9 c b = false) : before9 c a = false := by
  rw [before_not] at *; omega
theorem before_asymm {a b : Ox9} (h : before9 a b = true) : before9 b a = false := by
  rw [before_iff] at h; rw [before_not]; omega
theorem before_trans9 {a b c : Ox9} (h1 : before9 a b = true) (h2 : before9 b c = true) : before9 a c = true := by
  rw [before_iff] at *; omega
theorem before_not_trans {a b c : Ox9} (h1 : before9 a b = true) (h2 : before9 c b = false) : before9 a c = true := by
  rw [before_iff] at *; rw [before_not] at h2; omega

/-! ### sorting -/
theorem ins_perm (o : Ox9) (l : List Ox9) : (ins9 o l).Perm (o :: l) := by
  induction l with
  | nil => exact List.Perm.refl _
  | cons x r ih =>
    unfold ins9
    split
    · exact List.Perm.refl _
    · exact (List.Perm.cons x ih).trans (List.Perm.swap o x r)
theorem ins_length (o : Ox9) (l : List Ox9) : (ins9 o l).length = l.length + 1 := by rw [(ins_perm o l).length_eq]; rfl
theorem ins_sorted {o : Ox9} {l : List Ox9} (h : Sorted9 l) : Sorted9 (ins9 o l) := by
  induction l with
  | nil => exact List.pairwise_singleton _ _
  | cons x r ih =>
    have hx := List.pairwise_cons.1 h
    unfold ins9
    split
    · rename_i hb
      refine List.pairwise_cons.2 ⟨fun y hy => ?_, h⟩
      rcases List.mem_cons.1 hy with rfl | hy
      · exact before_asymm hb
      · exact before_asymm (before_not_trans hb (hx.1 y hy))
    · rename_i hb
      refine List.pairwise_cons.2 ⟨fun y hy => ?_, ih hx.2⟩
      rcases List.mem_cons.1 ((ins_perm o r).mem_iff.1 hy) with rfl | hy
      · simpa using hb
      · exact hx.1 y hy
/-- one is put in behind all that it need not stand ahead of -/
theorem ins_cut {o : Ox9} {l : List Ox9} {k : Nat} (hk : k ≤ l.length) (h1 : ∀ i, (hi : i < l.length) → i < k → before9 o l[i] = false) (h2 : (hk : k < l.length) → before9 o l[k] = true) : ins9 o l = l.take k ++ o :: l.drop k := by
  induction l generalizing k with
  | nil => simp at hk; subst hk; rfl
  | cons x r ih =>
    cases k with
    | zero =>
      have := h2 (by simp)
      simp only [List.getElem_cons_zero] at this
      simp [ins9, this]
    | succ k =>
      have hx := h1 0 (by simp) (by omega)
      simp only [List.getElem_cons_zero] at hx
      have := ih (k := k) (by simpa using hk) (fun i hi hik => by have := h1 (i + 1) (by simpa using hi) (by omega); simpa using this) (fun hk' => by have := h2 (by simpa using hk'); simpa using this)
      simp [ins9, hx, this]
/-- of what is in order, all behind one that it must stand ahead of are so -/
theorem sorted_behind {o : Ox9} {l : List Ox9} (h : Sorted9 l) {i j : Nat} (hi : i < l.length) (hj : j < l.length) (hij : i ≤ j) (hb : before9 o l[i] = true) : before9 o l[j] = true := by
  by_cases e : i = j
  · subst e; exact hb
  · exact before_not_trans hb (List.pairwise_iff_getElem.1 h i j hi hj (by omega))
theorem sorted_ahead {o : Ox9} {l : List Ox9} (h : Sorted9 l) {i j : Nat} (hi : i < l.length) (hj : j < l.length) (hij : i ≤ j) (hb : before9 o l[j] = false) : before9 o l[i] = false := by
  cases e : before9 o l[i]
  · rfl
  · rw [sorted_behind h hi hj hij e] at hb; simp at hb
theorem ins_last {o : Ox9} {l : List Ox9} (h : ∀ x ∈ l, before9 o x = false) : ins9 o l = l ++ [o] := by
  have := ins_cut (o := o) (l := l) (Nat.le_refl _) (fun i hi _ => h _ (List.getElem_mem hi)) (fun hk => absurd hk (by omega))
  simpa using this

theorem fold_perm (l out : List Ox9) : (l.foldl (fun out o => ins9 o out) out).Perm (out ++ l) := by
  induction l generalizing out with
  | nil => simp
  | cons x r ih =>
    simp only [List.foldl_cons]
    refine (ih _).trans ?_
    refine ((ins_perm x out).append_right r).trans ?_
    simpa using (List.perm_middle (a := x) (l₁ := out) (l₂ := r)).symm
theorem fold_sorted (l : List Ox9) {out : List Ox9} (h : Sorted9 out) : Sorted9 (l.foldl (fun out o => ins9 o out) out) := by
  induction l generalizing out with
  | nil => exact h
  | cons x r ih => exact ih (ins_sorted h)
theorem sort_perm (l : List Ox9) : (sort9 l).Perm l := by
  have h := fold_perm l []
  rw [List.nil_append] at h
  exact h
theorem sort_sorted (l : List Ox9) : Sorted9 (sort9 l) := fold_sorted l List.Pairwise.nil
theorem sort_length (l : List Ox9) : (sort9 l).length = l.length := (sort_perm l).length_eq
theorem fold_same (l out : List Ox9) (h : Sorted9 (out ++ l)) : l.foldl (fun out o => ins9 o out) out = out ++ l := by
  induction l generalizing out with
  | nil => simp
  | cons x r ih =>
    simp only [List.foldl_cons]
    have hx : ins9 x out = out ++ [x] := ins_last fun y hy => (List.pairwise_append.1 h).2.2 y hy x (by simp)
    rw [hx, ih _ (by simpa using h)]
    simp
theorem sort_same {l : List Ox9} (h : Sorted9 l) : sort9 l = l := by
  have e := fold_same l [] (by simpa using h)
  rw [List.nil_append] at e
  exact e
theorem sort_twice (l : List Ox9) : sort9 (sort9 l) = sort9 l := sort_same (sort_sorted l)

/-! ### the check -/
theorem met_mono {l l' : List Ox9} (h : ∀ x ∈ l, x ∈ l') {o : Ox9} (hm : met9 l o = true) : met9 l' o = true := by
  unfold met9 at *
  rcases Bool.or_eq_true_iff.1 hm with h1 | h1
  · simp [h1]
  · obtain ⟨x, hx, hs⟩ := List.any_eq_true.1 h1
    rw [List.any_eq_true.2 ⟨x, h x hx, hs⟩]; simp
/-- one behind the other, each may stand there -/
def Good9 (pre l : List Ox9) : Prop := ∀ i, (hi : i < l.length) → twice9 (pre ++ l.take i) l[i] = false ∧ met9 (pre ++ l.take i) l[i] = true
theorem good_cons {pre r : List Ox9} {o : Ox9} : Good9 pre (o :: r) ↔ (twice9 pre o = false ∧ met9 pre o = true) ∧ Good9 (pre ++ [o]) r := by
  constructor
  · intro h
    refine ⟨by have := h 0 (by simp); rw [List.take_zero, List.append_nil] at this; exact this, fun i hi => ?_⟩
    have := h (i + 1) (by simpa using hi)
    rw [List.take_succ_cons] at this
    rw [List.append_assoc]
    exact this
  · rintro ⟨h0, h⟩ i hi
    cases i with
    | zero => rw [List.take_zero, List.append_nil]; exact h0
    | succ i =>
      have := h i (by simpa using hi)
      rw [List.append_assoc] at this
      rw [List.take_succ_cons]
      exact this
theorem chk_ok {pre l : List Ox9} : chk9 pre l = (0, 0) ∨ ∃ q : Int × Int, chk9 pre l = q ∧ (q.2 = 1034 ∨ q.2 = 1035) := by
  induction l generalizing pre with
  | nil => exact .inl rfl
  | cons o r ih =>
    unfold chk9
    split
    · exact .inr ⟨_, rfl, .inr rfl⟩
    · split
      · exact .inr ⟨_, rfl, .inl rfl⟩
      · exact ih
theorem chk_good {pre l : List Ox9} : (chk9 pre l).2 = 0 ↔ Good9 pre l := by
  induction l generalizing pre with
  | nil => exact ⟨fun _ i hi => absurd hi (by simp), fun _ => rfl⟩
  | cons o r ih =>
    rw [good_cons, ← ih, chk9]
    cases h1 : twice9 pre o
    · cases h2 : met9 pre o
      · simp
      · simp
    · simp
theorem chk_zero {pre l : List Ox9} (h : (chk9 pre l).2 = 0) : chk9 pre l = (0, 0) := by
  rcases chk_ok (pre := pre) (l := l) with h1 | ⟨q, h1, h2⟩
  · exact h1
  · rw [h1] at h; omega
theorem chk_at {pre l : List Ox9} {p e : Int} (h : chk9 pre l = (p, e)) (he : e ≠ 0) : ∃ k, k < l.length ∧ p = ((pre.length + k : Nat) : Int) ∧ Good9 pre (l.take k) ∧ (chk9 pre (l.take (k + 1))).2 = e := by
  induction l generalizing pre with
  | nil => simp [chk9] at h; exact absurd h.2.symm he
  | cons o r ih =>
    unfold chk9 at h
    by_cases h1 : twice9 pre o = true
    · rw [if_pos h1] at h
      simp only [Prod.mk.injEq] at h
      refine ⟨0, by simp, by simpa using h.1.symm, fun i hi => absurd hi (by simp), ?_⟩
      simp [chk9, h1, h.2]
    · rw [if_neg h1] at h
      by_cases h2 : met9 pre o = false
      · rw [if_pos h2] at h
        simp only [Prod.mk.injEq] at h
        refine ⟨0, by simp, by simpa using h.1.symm, fun i hi => absurd hi (by simp), ?_⟩
        simp [chk9, h1, h2, h.2]
      · rw [if_neg h2] at h
        obtain ⟨k, hk, hp, hg, hc⟩ := ih h
        have hh1 : twice9 pre o = false := by simpa using h1
        have hh2 : met9 pre o = true := by simpa using h2
        refine ⟨k + 1, by simpa using hk, ?_, ?_, ?_⟩
        · rw [hp]; simp; omega
        · rw [List.take_succ_cons]; exact good_cons.2 ⟨⟨hh1, hh2⟩, hg⟩
        · rw [List.take_succ_cons]
          rw [chk9, if_neg (by simp [hh1]), if_neg (by simp [hh2])]
          exact hc

/-- what a field asks for has a lower number -/
theorem need_lower {n : Int} (h : 0 ≤ n ∧ n < 40) : (fld n).d < n ∧ (fld n).d < 40 := by
  rcases forty h with rfl | rfl | rfl | rfl | rfl | rfl | rfl | rfl | rfl | rfl | rfl | rfl | rfl | rfl | rfl | rfl | rfl | rfl | rfl | rfl | rfl | rfl | rfl | rfl | rfl | rfl | rfl | rfl | rfl | rfl | rfl | rfl | rfl | rfl | rfl | rfl | rfl | rfl | rfl | rfl <;> decide
theorem sat_before {o x : Ox9} (ha : asks9 o = true) (hs : sat9 (fld o.F).d (fld o.F).v x = true) : before9 x o = true := by
  unfold asks9 at ha
  unfold sat9 at hs
  simp only [Bool.and_eq_true, beq_iff_eq, decide_eq_true_eq] at ha hs
  have := need_lower ha.2.1
  rw [before_iff]
  omega
/-- what is in order and checked in another order is checked -/
theorem sorted_good {l s : List Ox9} (hp : s.Perm l) (hs : Sorted9 s) (hg : Good9 [] l) : Good9 [] s := by
  have hne : l.Pairwise (fun a b => alike9 a b = false) := by
    rw [List.pairwise_iff_getElem]
    intro i j hi hj hij
    have := (hg j hj).1
    simp only [List.nil_append, twice9, List.any_eq_false] at this
    have hm : l[i] ∈ l.take j := List.mem_take_iff_getElem.2 ⟨i, by omega, rfl⟩
    simpa using this _ hm
  have hne' : s.Pairwise (fun a b => alike9 a b = false) := (hp.symm.pairwise_iff (fun {a b} h => by rw [alike_symm9]; exact h)).1 hne
  intro j hj
  refine ⟨?_, ?_⟩
  · simp only [List.nil_append, twice9, List.any_eq_false]
    intro x hx
    obtain ⟨i, hi, rfl⟩ := List.mem_take_iff_getElem.1 hx
    have := List.pairwise_iff_getElem.1 hne' i j (by omega) hj (by omega)
    simp [this]
  · obtain ⟨k, hk, hkj⟩ := List.getElem_of_mem (hp.mem_iff.1 (List.getElem_mem hj))
    have hm := (hg k hk).2
    rw [hkj] at hm
    unfold met9 at hm ⊢
    rcases Bool.or_eq_true_iff.1 hm with h1 | h1
    · simp [h1]
    · cases ha : asks9 s[j]
      · rfl
      obtain ⟨x, hx, hsx⟩ := List.any_eq_true.1 h1
      have hxl : x ∈ l := List.mem_of_mem_take (by simpa using hx)
      obtain ⟨i, hi, rfl⟩ := List.getElem_of_mem (hp.symm.mem_iff.1 hxl)
      have hb := sat_before ha hsx
      have hij : i < j := by
        rcases Nat.lt_or_ge i j with h | h
        · exact h
        · by_cases e : i = j
          · subst e
            rw [before_iff] at hb; omega
          · have := List.pairwise_iff_getElem.1 hs j i hj hi (by omega)
            rw [hb] at this; simp at this
      simp only [Bool.not_true, Bool.false_or, List.nil_append]
      exact List.any_eq_true.2 ⟨_, List.mem_take_iff_getElem.2 ⟨i, by omega, rfl⟩, hsx⟩
theorem check_sorted {l : List Ox9} (h : (check9 l).2 = 0) : (check9 (sort9 l)).2 = 0 := chk_good.2 (sorted_good (sort_perm l) (sort_sorted l) (chk_good.1 h))
end Go.Proofs.Ytaddhahghglabaa
namespace Go.Proofs.Ytaddhahghglabaa
open Go.RowKit

def same9 (a b : Ox9) : Bool := sameB a.C a.F a.H a.X b.C b.F b.H b.X a.v a.m b.v b.m
theorem same9_iff (a b : Ox9) : same9 a b = true ↔ a = b := by
  obtain ⟨C, F, H, X, v, m⟩ := a
  obtain ⟨C', F', H', X', v', m'⟩ := b
  simp only [same9, sameB, alikeB, Bool.and_eq_true, beq_iff_eq, Ox9.mk.injEq]
  constructor
  · rintro ⟨⟨⟨⟨⟨a, b⟩, c⟩, d⟩, e⟩, f⟩
    exact ⟨a, b, d, c, e, f⟩
  · rintro ⟨a, b, d, c, e, f⟩
    exact ⟨⟨⟨⟨⟨a, b⟩, c⟩, d⟩, e⟩, f⟩
instance : DecidableEq Ox9 := fun a b => if h : same9 a b = true then .isTrue ((same9_iff a b).1 h) else .isFalse fun e => h ((same9_iff a b).2 e)
end Go.Proofs.Ytaddhahghglabaa
