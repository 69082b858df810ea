/- Put together out of several texts: what the laws of earlier stages left. -/
import Derived.Test.YtpmkfkanolhocaaGreatMrg3
import Derived.Test.YtpmkfkanolhocaaGreatMrg9
import Derived.Deep.RegionHeld3
import Derived.WalkMore
import Derived.ProofKit
import Derived.Maps.OwnSet
import Derived.Maps.Views
import Derived.Test.YtpmkfkanolhocaaGreatMrg1
namespace Go.Proofs.YtpmkfkanolhocaaGreat
open Go.RowKit
set_option linter.unusedVariables false

/-- a value of a list -/
structure Ox9 where
  C : Int
  F : Int
  H : Bool
  X : Int
  v : List Int
  m : List Int
/-- is it what the field d asks for, with one of these numbers? -/
def sat9 (d : Int) (vals : List Int) (x : Ox9) : Bool :=
  x.C == 32768 && (x.F == d && (if vals = [] then x.v.any (fun k => k != 0) else (!x.H && vals.any (fun k => x.v == bytesL k (fld d).z))))
def asks9 (o : Ox9) : Bool := o.C == 32768 && (decide (0 ≤ o.F ∧ o.F < 40) && decide (0 ≤ (fld o.F).d))
def met9 (l : List Ox9) (o : Ox9) : Bool := !asks9 o || l.any (sat9 (fld o.F).d (fld o.F).v)
def alike9 (a b : Ox9) : Bool := alikeB a.C a.F a.X b.C b.F b.X
def twice9 (l : List Ox9) (o : Ox9) : Bool := l.any (fun x => alike9 x o)
def chk9 (pre : List Ox9) : List Ox9 → Int × Int
  | [] => (0, 0)
  | o :: r => if twice9 pre o then (pre.length, 1035) else if met9 pre o = false then (pre.length, 1034) else chk9 (pre ++ [o]) r
def check9 (l : List Ox9) : Int × Int := chk9 [] l
def asked9 (l : List Ox9) (n : Int) : Bool := l.any (fun o => o.C == 32768 && (needL o.F).contains n)
def has9 (l : List Ox9) (n : Int) : Bool := l.any (fun o => o.C == 32768 && o.F == n)
def missing9 (l : List Ox9) : List Int := ((List.range 40).map (fun (k : Nat) => (k : Int))).filter (fun n => asked9 l n && !has9 l n)
def before9 (a b : Ox9) : Bool := if a.C ≠ b.C then decide (a.C < b.C) else if a.F ≠ b.F then decide (a.F < b.F) else decide (a.X < b.X)
def ins9 (o : Ox9) : List Ox9 → List Ox9
  | [] => [o]
  | x :: r => if before9 o x then o :: x :: r else x :: ins9 o r
def sort9 (l : List Ox9) : List Ox9 := l.foldl (fun out o => ins9 o out) []
def Sorted9 (l : List Ox9) : Prop := l.Pairwise (fun a b => before9 b a = false)

/-! ### the order -/
theorem before_iff (a b : Ox9) : before9 a b = true ↔ (a.C < b.C ∨ (a.C = b.C ∧ (a.F < b.F ∨ (a.F = b.F ∧ a.X < b.X)))) := by
  unfold before9
  by_cases h : a.C = b.C
  · by_cases h2 : a.F = b.F
    · simp [h, h2]
    · simp [h, h2]
  · simp [h]
theorem before_not (a b : Ox9) : before9 a b = false ↔ ¬ (a.C < b.C ∨ (a.C = b.C ∧ (a.F < b.F ∨ (a.F = b.F ∧ a.X < b.X)))) := by
  rw [← before_iff]; simp
theorem alike_iff9 (a b : Ox9) : alike9 a b = true ↔ (a.C = b.C ∧ a.F = b.F ∧ a.X = b.X) := by
  simp [alike9, alikeB, and_assoc]
theorem alike_symm9 (a b : Ox9) : alike9 a b = alike9 b a := by
  rw [Bool.eq_iff_iff, alike_iff9, alike_iff9]; constructor <;> rintro ⟨h1, h2, h3⟩ <;> exact ⟨h1.symm, h2.symm, h3.symm⟩
theorem not_before_trans {a b c : Ox9} (h1 : before9 b a = false) (h2 : before9 c b = false) : before9 c a = false := by
  rw [before_not] at *; omega
theorem before_asymm {a b : Ox9} (h : before9 a b = true) : before9 b a = false := by
  rw [before_iff] at h; rw [before_not]; omega
theorem before_trans9 {a b c : Ox9} (h1 : before9 a b = true) (h2 : before9 b c = true) : before9 a c = true := by
  rw [before_iff] at *; omega
theorem before_not_trans {a b c : Ox9} (h1 : before9 a b = true) (h2 : before9 c b = false) : before9 a c = true := by
  rw [before_iff] at *; rw [before_not] at h2; omega

/-! ### sorting -/
theorem ins_perm (o : Ox9) (l : List Ox9) : (ins9 o l).Perm (o :: l) := by
  induction l with
  | nil => exact List.Perm.refl _
  | cons x r ih =>
    unfold ins9
    split
    · exact List.Perm.refl _
    · exact (List.Perm.cons x ih).trans (List.Perm.swap o x r)
theorem ins_length (o : Ox9) (l : List Ox9) : (ins9 o l).length = l.length + 1 := by rw [(ins_perm o l).length_eq]; rfl
theorem ins_sorted {o : Ox9} {l : List Ox9} (h : Sorted9 l) : Sorted9 (ins9 o l) := by
  induction l with
  | nil => exact List.pairwise_singleton _ _
  | cons x r ih =>
    have hx := List.pairwise_cons.1 h
    unfold ins9
    split
    · rename_i hb
      refine List.pairwise_cons.2 ⟨fun y hy => ?_, h⟩
      rcases List.mem_cons.1 hy with rfl | hy
      · exact before_asymm hb
      · exact before_asymm (before_not_trans hb (hx.1 y hy))
    · rename_i hb
      refine List.pairwise_cons.2 ⟨fun y hy => ?_, ih hx.2⟩
      rcases List.mem_cons.1 ((ins_perm o r).mem_iff.1 hy) with rfl | hy
      · simpa using hb
      · exact hx.1 y hy
/-- one is put in behind all that it need not stand ahead of -/
theorem ins_cut {o : Ox9} {l : List Ox9} {k : Nat} (hk : k ≤ l.length) (h1 : ∀ i, (hi : i < l.length) → i < k → before9 o l[i] = false) (h2 : (hk : k < l.length) → before9 o l[k] = true) : ins9 o l = l.take k ++ o :: l.drop k := by
  induction l generalizing k with
  | nil => simp at hk; subst hk; rfl
  | cons x r ih =>
    cases k with
    | zero =>
      have := h2 (by simp)
      simp only [List.getElem_cons_zero] at this
      simp [ins9, this]
    | succ k =>
      have hx := h1 0 (by simp) (by omega)
      simp only [List.getElem_cons_zero] at hx
      have := ih (k := k) (by simpa using hk) (fun i hi hik => by have := h1 (i + 1) (by simpa using hi) (by omega); simpa using this) (fun hk' => by have := h2 (by simpa using hk'); simpa using this)
      simp [ins9, hx, this]
/-- of what is in order, all behind one that it must stand ahead of are so -/
theorem sorted_behind {o : Ox9} {l : List Ox9} (h : Sorted9 l) {i j : Nat} (hi : i < l.length) (hj : j < l.length) (hij : i ≤ j) (hb : before9 o l[i] = true) : before9 o l[j] = true := by
  by_cases e : i = j
  · subst e; exact hb
  · exact before_not_trans hb (List.pairwise_iff_getElem.1 h i j hi hj (by omega))
theorem sorted_ahead {o : Ox9} {l : List Ox9} (h : Sorted9 l) {i j : Nat} (hi : i < l.length) (hj : j < l.length) (hij : i ≤ j) (hb : before9 o l[j] = false) : before9 o l[i] = false := by
  cases e : before9 o l[i]
  · rfl
  · rw [sorted_behind h hi hj hij e] at hb; simp at hb
theorem ins_last {o : Ox9} {l : List Ox9} (h : ∀ x ∈ l, before9 o x = false) : ins9 o l = l ++ [o] := by
  have := ins_cut (o := o) (l := l) (Nat.le_refl _) (fun i hi _ => h _ (List.getElem_mem hi)) (fun hk => absurd hk (by omega))
  simpa using this

theorem fold_perm (l out : List Ox9) : (l.foldl (fun out o => ins9 o out) out).Perm (out ++ l) := by
  induction l generalizing out with
  | nil => simp
  | cons x r ih =>
    simp only [List.foldl_cons]
    refine (ih _).trans ?_
    refine ((ins_perm x out).append_right r).trans ?_
    simpa using (List.perm_middle (a := x) (l₁ := out) (l₂ := r)).symm
theorem fold_sorted (l : List Ox9) {out : List Ox9} (h : Sorted9 out) : Sorted9 (l.foldl (fun out o => ins9 o out) out) := by
  induction l generalizing out with
  | nil => exact h
  | cons x r ih => exact ih (ins_sorted h)
theorem sort_perm (l : List Ox9) : (sort9 l).Perm l := by
  have h := fold_perm l []
  rw [List.nil_append] at h
  exact h
theorem sort_sorted (l : List Ox9) : Sorted9 (sort9 l) := fold_sorted l List.Pairwise.nil
theorem sort_length (l : List Ox9) : (sort9 l).length = l.length := (sort_perm l).length_eq
theorem fold_same (l out : List Ox9) (h : Sorted9 (out ++ l)) : l.foldl (fun out o => ins9 o out) out = out ++ l := by
  induction l generalizing out with
  | nil => simp
  | cons x r ih =>
    simp only [List.foldl_cons]
    have hx : ins9 x out = out ++ [x] := ins_last fun y hy => (List.pairwise_append.1 h).2.2 y hy x (by simp)
    rw [hx, ih _ (by simpa using h)]
    simp
theorem sort_same {l : List Ox9} (h : Sorted9 l) : sort9 l = l := by
  have e := fold_same l [] (by simpa using h)
  rw [List.nil_append] at e
  exact e
theorem sort_twice (l : List Ox9) : sort9 (sort9 l) = sort9 l := sort_same (sort_sorted l)

/-! ### the check -/
theorem met_mono {l l' : List Ox9} (h : ∀ x ∈ l, x ∈ l') {o : Ox9} (hm : met9 l o = true) : met9 l' o = true := by
  unfold met9 at *
  rcases Bool.or_eq_true_iff.1 hm with h1 | h1
  · simp [h1]
  · obtain ⟨x, hx, hs⟩ := List.any_eq_true.1 h1
    rw [List.any_eq_true.2 ⟨x, h x hx, hs⟩]; simp
/-- one behind the other, each may stand there -/
def Good9 (pre l : List Ox9) : Prop := ∀ i, (hi : i < l.length) → twice9 (pre ++ l.take i) l[i] = false ∧ met9 (pre ++ l.take i) l[i] = true
theorem good_cons {pre r : List Ox9} {o : Ox9} : Good9 pre (o :: r) ↔ (twice9 pre o = false ∧ met9 pre o = true) ∧ Good9 (pre ++ [o]) r := by
  constructor
  · intro h
    refine ⟨by have := h 0 (by simp); rw [List.take_zero, List.append_nil] at this; exact this, fun i hi => ?_⟩
    have := h (i + 1) (by simpa using hi)
    rw [List.take_succ_cons] at this
    rw [List.append_assoc]
    exact this
  · rintro ⟨h0, h⟩ i hi
    cases i with
    | zero => rw [List.take_zero, List.append_nil]; exact h0
    | succ i =>
      have := h i (by simpa using hi)
      rw [List.append_assoc] at this
      rw [List.take_succ_cons]
      exact this
theorem chk_ok {pre l : List Ox9} : chk9 pre l = (0, 0) ∨ ∃ q : Int × Int, chk9 pre l = q ∧ (q.2 = 1034 ∨ q.2 = 1035) := by
  induction l generalizing pre with
  | nil => exact .inl rfl
  | cons o r ih =>
    unfold chk9
    split
    · exact .inr ⟨_, rfl, .inr rfl⟩
    · split
      · exact .inr ⟨_, rfl, .inl rfl⟩
      · exact ih
theorem chk_good {pre l : List Ox9} : (chk9 pre l).2 = 0 ↔ Good9 pre l := by
  induction l generalizing pre with
  | nil => exact ⟨fun _ i hi => absurd hi (by simp), fun _ => rfl⟩
  | cons o r ih =>
    rw [good_cons, ← ih, chk9]
    cases h1 : twice9 pre o
    · cases h2 : met9 pre o
      · simp
      · simp
    · simp
theorem chk_zero {pre l : List Ox9} (h : (chk9 pre l).2 = 0) : chk9 pre l = (0, 0) := by
  rcases chk_ok (pre := pre) (l := l) with h1 | ⟨q, h1, h2⟩
  · exact h1
  · rw [h1] at h; omega
theorem chk_at {pre l : List Ox9} {p e : Int} (h : chk9 pre l = (p, e)) (he : e ≠ 0) : ∃ k, k < l.length ∧ p = ((pre.length + k : Nat) : Int) ∧ Good9 pre (l.take k) ∧ (chk9 pre (l.take (k + 1))).2 = e := by
  induction l generalizing pre with
  | nil => simp [chk9] at h; exact absurd h.2.symm he
  | cons o r ih =>
    unfold chk9 at h
    by_cases h1 : twice9 pre o = true
    · rw [if_pos h1] at h
      simp only [Prod.mk.injEq] at h
      refine ⟨0, by simp, by simpa using h.1.symm, fun i hi => absurd hi (by simp), ?_⟩
      simp [chk9, h1, h.2]
    · rw [if_neg h1] at h
      by_cases h2 : met9 pre o = false
      · rw [if_pos h2] at h
        simp only [Prod.mk.injEq] at h
        refine ⟨0, by simp, by simpa using h.1.symm, fun i hi => absurd hi (by simp), ?_⟩
        simp [chk9, h1, h2, h.2]
      · rw [if_neg h2] at h
        obtain ⟨k, hk, hp, hg, hc⟩ := ih h
        have hh1 : twice9 pre o = false := by simpa using h1
        have hh2 : met9 pre o = true := by simpa using h2
        refine ⟨k + 1, by simpa using hk, ?_, ?_, ?_⟩
        · rw [hp]; simp; omega
        · rw [List.take_succ_cons]; exact good_cons.2 ⟨⟨hh1, hh2⟩, hg⟩
        · rw [List.take_succ_cons]
          rw [chk9, if_neg (by simp [hh1]), if_neg (by simp [hh2])]
          exact hc

/-- what a field asks for has a lower number -/
theorem need_lower {n : Int} (h : 0 ≤ n ∧ n < 40) : (fld n).d < n ∧ (fld n).d < 40 := by
  rcases forty h with rfl | rfl | rfl | rfl | rfl | rfl | rfl | rfl | rfl | rfl | rfl | rfl | rfl | rfl | rfl | rfl | rfl | rfl | rfl | rfl | rfl | rfl | rfl | rfl | rfl | rfl | rfl | rfl | rfl | rfl | rfl | rfl | rfl | rfl | rfl | rfl | rfl | rfl | rfl | rfl <;> decide
theorem sat_before {o x : Ox9} (ha : asks9 o = true) (hs : sat9 (fld o.F).d (fld o.F).v x = true) : before9 x o = true := by
  unfold asks9 at ha
  unfold sat9 at hs
  simp only [Bool.and_eq_true, beq_iff_eq, decide_eq_true_eq] at ha hs
  have := need_lower ha.2.1
  rw [before_iff]
  omega
/-- what is in order and checked in another order is checked -/
theorem sorted_good {l s : List Ox9} (hp : s.Perm l) (hs : Sorted9 s) (hg : Good9 [] l) : Good9 [] s := by
  have hne : l.Pairwise (fun a b => alike9 a b = false) := by
    rw [List.pairwise_iff_getElem]
    intro i j hi hj hij
    have := (hg j hj).1
    simp only [List.nil_append, twice9, List.any_eq_false] at this
    have hm : l[i] ∈ l.take j := List.mem_take_iff_getElem.2 ⟨i, by omega, rfl⟩
    simpa using this _ hm
  have hne' : s.Pairwise (fun a b => alike9 a b = false) := (hp.symm.pairwise_iff (fun {a b} h => by rw [alike_symm9]; exact h)).1 hne
  intro j hj
  refine ⟨?_, ?_⟩
  · simp only [List.nil_append, twice9, List.any_eq_false]
    intro x hx
    obtain ⟨i, hi, rfl⟩ := List.mem_take_iff_getElem.1 hx
    have := List.pairwise_iff_getElem.1 hne' i j (by omega) hj (by omega)
    simp [this]
  · obtain ⟨k, hk, hkj⟩ := List.getElem_of_mem (hp.mem_iff.1 (List.getElem_mem hj))
    have hm := (hg k hk).2
    rw [hkj] at hm
    unfold met9 at hm ⊢
    rcases Bool.or_eq_true_iff.1 hm with h1 | h1
    · simp [h1]
    · cases ha : asks9 s[j]
      · rfl
      obtain ⟨x, hx, hsx⟩ := List.any_eq_true.1 h1
      have hxl : x ∈ l := List.mem_of_mem_take (by simpa using hx)
      obtain ⟨i, hi, rfl⟩ := List.getElem_of_mem (hp.symm.mem_iff.1 hxl)
      have hb := sat_before ha hsx
      have hij : i < j := by
        rcases Nat.lt_or_ge i j with h | h
        · exact h
        · by_cases e : i = j
          · subst e
            rw [before_iff] at hb; omega
          · have := List.pairwise_iff_getElem.1 hs j i hj hi (by omega)
            rw [hb] at this; simp at this
      simp only [Bool.not_true, Bool.false_or, List.nil_append]
      exact List.any_eq_true.2 ⟨_, List.mem_take_iff_getElem.2 ⟨i, by omega, rfl⟩, hsx⟩
theorem check_sorted {l : List Ox9} (h : (check9 l).2 = 0) : (check9 (sort9 l)).2 = 0 := chk_good.2 (sorted_good (sort_perm l) (sort_sorted l) (chk_good.1 h))
end Go.Proofs.YtpmkfkanolhocaaGreat
namespace Go.Proofs.YtpmkfkanolhocaaGreat
open Go.RowKit
set_option linter.unusedVariables false

theorem need_ge {n : Int} (h : 0 ≤ n ∧ n < 40) : (fld n).d = -1 ∨ 0 ≤ (fld n).d := by
  rcases forty h with rfl | rfl | rfl | rfl | rfl | rfl | rfl | rfl | rfl | rfl | rfl | rfl | rfl | rfl | rfl | rfl | rfl | rfl | rfl | rfl | rfl | rfl | rfl | rfl | rfl | rfl | rfl | rfl | rfl | rfl | rfl | rfl | rfl | rfl | rfl | rfl | rfl | rfl | rfl | rfl <;> decide
theorem good_any {l : List Ox9} (hg : Good9 [] l) {o : Ox9} (ho : o ∈ l) : met9 l o = true := by
  obtain ⟨k, hk, rfl⟩ := List.getElem_of_mem ho
  have := (hg k hk).2
  exact met_mono (fun x hx => List.mem_of_mem_take (by simpa using hx)) this
theorem has_of {l : List Ox9} {x : Ox9} (hx : x ∈ l) (hc : x.C = 32768) {n : Int} (hf : x.F = n) : has9 l n = true :=
  List.any_eq_true.2 ⟨x, hx, by simp [hc, hf]⟩
theorem asked_has {l : List Ox9} (hg : Good9 [] l) {n : Int} (k : Nat) : ∀ o ∈ l, o.C = 32768 → n ∈ needU k o.F → has9 l n = true := by
  induction k with
  | zero => intro o ho hc hn; simp [needU] at hn
  | succ k ih =>
    intro o ho hc hn
    have hm := good_any hg ho
    unfold needU at hn
    by_cases hq : (fld o.F).d = -1 ∨ ¬ (0 ≤ o.F ∧ o.F < 40)
    · rw [if_pos hq] at hn; simp at hn
    rw [if_neg hq] at hn
    have hF : 0 ≤ o.F ∧ o.F < 40 := Decidable.byContradiction fun h => hq (.inr h)
    have hd : 0 ≤ (fld o.F).d := by
      rcases need_ge hF with h | h
      · exact absurd (.inl h) hq
      · exact h
    have ha : asks9 o = true := by simp [asks9, hc, hF, hd]
    unfold met9 at hm
    rw [ha] at hm
    simp only [Bool.not_true, Bool.false_or] at hm
    obtain ⟨x, hx, hs⟩ := List.any_eq_true.1 hm
    unfold sat9 at hs
    simp only [Bool.and_eq_true, beq_iff_eq] at hs
    rcases List.mem_append.1 hn with h1 | h1
    · exact ih x hx hs.1 (by rw [hs.2.1]; exact h1)
    · exact has_of hx hs.1 (by rw [hs.2.1]; exact (List.mem_singleton.1 h1).symm)
theorem missing_nil {l : List Ox9} (h : (check9 l).2 = 0) : missing9 l = [] := by
  have hg := chk_good.1 h
  unfold missing9
  rw [List.filter_eq_nil_iff]
  intro n hn
  cases ha : asked9 l n
  · simp
  · obtain ⟨o, ho, hc⟩ := List.any_eq_true.1 ha
    simp only [Bool.and_eq_true, beq_iff_eq, List.contains_iff_mem] at hc
    rw [asked_has hg 4 o ho hc.1 hc.2]
    simp
theorem missing_sorted {l : List Ox9} (h : (check9 l).2 = 0) : missing9 (sort9 l) = [] := missing_nil (check_sorted h)
end Go.Proofs.YtpmkfkanolhocaaGreat
namespace Go.Proofs.YtpmkfkanolhocaaGreat
open Go.RowKit
set_option linter.unusedVariables false

/-- the least value of so many bytes that is not 0 -/
def one9 (z : Nat) : List Int := List.replicate (z - 1) 0 ++ [1]
/-- what a field that b asks for must hold; r tells which of b's numbers -/
def hold9 (r : Nat) (a b : Int) : List Int := if (fld b).v = [] then one9 (fld a).z else bytesL ((fld b).v.getD (r % (fld b).v.length) 0) (fld a).z
def chain9 (r : Nat) : List Int → List Ox9
  | [] => []
  | [a] => [⟨32768, a, false, 0, one9 (fld a).z, []⟩]
  | a :: b :: t => ⟨32768, a, false, 0, hold9 r a b, []⟩ :: chain9 r (b :: t)
theorem hold_mod {r : Nat} {a b : Int} (h : (fld b).v.length ≤ 2) : hold9 r a b = hold9 (r % 2) a b := by
  unfold hold9
  split
  · rfl
  · rename_i hv
    have hp : 0 < (fld b).v.length := List.length_pos_iff.2 hv
    rcases (show (fld b).v.length = 1 ∨ (fld b).v.length = 2 by omega) with e | e
    · rw [e, Nat.mod_one, Nat.mod_one]
    · rw [e, Nat.mod_mod]
theorem vals_few9 {n : Int} : (fld n).v.length ≤ 2 := by
  by_cases h : 0 ≤ n ∧ n < 40
  · rcases forty h with rfl | rfl | rfl | rfl | rfl | rfl | rfl | rfl | rfl | rfl | rfl | rfl | rfl | rfl | rfl | rfl | rfl | rfl | rfl | rfl | rfl | rfl | rfl | rfl | rfl | rfl | rfl | rfl | rfl | rfl | rfl | rfl | rfl | rfl | rfl | rfl | rfl | rfl | rfl | rfl <;> decide
  · rw [fld_out h]; decide
theorem chain_mod (r : Nat) (l : List Int) : chain9 r l = chain9 (r % 2) l := by
  induction l with
  | nil => rfl
  | cons a t ih =>
    cases t with
    | nil => rfl
    | cons b t => rw [chain9, chain9, hold_mod vals_few9, ih]
/-- all that the law of the chain says of one field -/
def ChainOk (n : Int) (r : Nat) : Bool :=
  let l := chain9 r (needL n ++ [n])
  decide (check9 l = (0, 0)) && decide (missing9 l = []) && decide ((l.length = 1) = ((fld n).d < 0)) && decide (check9 (l.drop 1) = if l.length = 1 then (0, 0) else (0, 1034))
theorem chain_all {n : Int} (h : 0 ≤ n ∧ n < 40) (r : Nat) : ChainOk n r = true := by
  unfold ChainOk
  rw [chain_mod]
  have hr : r % 2 = 0 ∨ r % 2 = 1 := by omega
  generalize r % 2 = q at hr
  rcases hr with rfl | rfl <;> rcases forty h with rfl | rfl | rfl | rfl | rfl | rfl | rfl | rfl | rfl | rfl | rfl | rfl | rfl | rfl | rfl | rfl | rfl | rfl | rfl | rfl | rfl | rfl | rfl | rfl | rfl | rfl | rfl | rfl | rfl | rfl | rfl | rfl | rfl | rfl | rfl | rfl | rfl | rfl | rfl | rfl <;> decide +kernel
end Go.Proofs.YtpmkfkanolhocaaGreat
namespace Go.Proofs.YtpmkfkanolhocaaGreat
open Go.ChangeShapes Go.WideShapes Go.RowKit Go.Deep
set_option linter.unusedVariables false

/-- a value of a list, and where its bytes lie -/
structure Ent9 where
  o : Ox9
  va : Option Addr
  vc : Nat
  ma : Option Addr
  mc : Nat
def Ent9.cs (h : Ent9) : List Value := [.int .i64 h.o.C, .int .i64 h.o.F, .bool h.o.H, .int .u64 h.o.X, .slice h.va h.o.v.length h.vc, .slice h.ma h.o.m.length h.mc]
def Ent9.val (h : Ent9) : Value := .agg #[.int .i64 h.o.C, .int .i64 h.o.F, .bool h.o.H, .int .u64 h.o.X, .slice h.va h.o.v.length h.vc, .slice h.ma h.o.m.length h.mc]
/-- its bytes -/
structure EntIn (w : World) (h : Ent9) : Prop where
  iv : Ints .u8 w h.va h.o.v
  im : Ints .u8 w h.ma h.o.m
  ov : Octets h.o.v
  om : Octets h.o.m
  cm : h.o.m.length ≤ h.mc
  c : -9223372036854775808 ≤ h.o.C ∧ h.o.C ≤ 9223372036854775807
  f : -9223372036854775808 ≤ h.o.F ∧ h.o.F ≤ 9223372036854775807
  x : 0 ≤ h.o.X ∧ h.o.X ≤ 18446744073709551615
theorem EntIn.below {w w' : World} {h : Ent9} (hi : EntIn w h) (hb : Below w.heap.size w w') : EntIn w' h :=
  ⟨hi.iv.below hb, hi.im.below hb, hi.ov, hi.om, hi.cm, hi.c, hi.f, hi.x⟩

/-- a slice of values that lies at a -/
def Oxms (w : World) (a : Option Addr) (l : List Ent9) : Prop :=
  ∀ i, (hi : i < l.length) → ∃ b off, a = some ⟨b, off, none⟩ ∧ w.cell? ⟨b, off + i * 6, none⟩ = some (.int .i64 l[i].o.C) ∧ w.cell? ⟨b, off + i * 6 + 1, none⟩ = some (.int .i64 l[i].o.F) ∧ w.cell? ⟨b, off + i * 6 + 2, none⟩ = some (.bool l[i].o.H) ∧ w.cell? ⟨b, off + i * 6 + 3, none⟩ = some (.int .u64 l[i].o.X) ∧ w.cell? ⟨b, off + i * 6 + 4, none⟩ = some (.slice l[i].va l[i].o.v.length l[i].vc) ∧ w.cell? ⟨b, off + i * 6 + 5, none⟩ = some (.slice l[i].ma l[i].o.m.length l[i].mc)
theorem Oxms.below {w w' : World} {a : Option Addr} {l : List Ent9} (h : Oxms w a l) (hb : Below w.heap.size w w') : Oxms w' a l := by
  intro i hi
  obtain ⟨b, off, ha, h0, h1, h2, h3, h4, h5⟩ := h i hi
  exact ⟨b, off, ha, cell_keep h0 hb, cell_keep h1 hb, cell_keep h2 hb, cell_keep h3 hb, cell_keep h4 hb, cell_keep h5 hb⟩
theorem Oxms.nil (w : World) (a : Option Addr) : Oxms w a [] := fun i hi => absurd hi (by simp)
theorem Oxms.take {w : World} {a : Option Addr} {l : List Ent9} (h : Oxms w a l) (j : Nat) : Oxms w a (l.take j) := by
  intro i hi
  have hi' : i < l.length := by rw [List.length_take] at hi; omega
  have := h i hi'
  simpa using this
/-- l[j:], as the walk spells it -/
theorem Oxms.drop {w : World} {b off : Nat} {l : List Ent9} (h : Oxms w (some ⟨b, off, none⟩) l) {j cap : Nat} (hc : l.length ≤ cap) : Oxms w (if cap = j then some ⟨b, off, none⟩ else some ⟨b, off + j * 6, none⟩) (l.drop j) := by
  intro i hi
  rw [List.length_drop] at hi
  obtain ⟨b', off', he, h0, h1, h2, h3, h4, h5⟩ := h (j + i) (by omega)
  simp only [Option.some.injEq, Addr.mk.injEq] at he
  obtain ⟨rfl, rfl, _⟩ := he
  have e : off + j * 6 + i * 6 = off + (j + i) * 6 := by omega
  refine ⟨b, off + j * 6, by rw [if_neg (by omega)], ?_⟩
  rw [e]
  simp only [List.getElem_drop]
  exact ⟨h0, h1, h2, h3, h4, h5⟩
theorem Oxms.lt {w : World} {a : Option Addr} {l : List Ent9} (h : Oxms w a l) (hl : l ≠ []) {q : Addr} (hq : a = some q) : q.block < w.heap.size := by
  obtain ⟨b, off, ha, h0, _⟩ := h 0 (List.length_pos_iff.2 hl)
  rw [hq] at ha
  obtain rfl := Option.some.inj ha
  exact World.block_lt_of_cell? w _ h0
theorem Oxms.kept {w w' : World} {a : Option Addr} {l : List Ent9} (h : Oxms w a l) (hb : ∀ q : Addr, a = some q → w'.heap[q.block]? = w.heap[q.block]?) : Oxms w' a l := by
  intro i hi
  obtain ⟨b, off, ha, h0, h1, h2, h3, h4, h5⟩ := h i hi
  have e : ∀ k, w'.cell? ⟨b, k, none⟩ = w.cell? ⟨b, k, none⟩ := fun k => World.cell?_of_block (a := ⟨b, k, none⟩) (hb ⟨b, off, none⟩ ha)
  exact ⟨b, off, ha, (e _).trans h0, (e _).trans h1, (e _).trans h2, (e _).trans h3, (e _).trans h4, (e _).trans h5⟩

/-- the values' cells, one behind the other -/
def oxmCells (l : List Ent9) : List Value := l.flatMap Ent9.cs
theorem oxmCells_snoc (l : List Ent9) (h : Ent9) : oxmCells (l ++ [h]) = oxmCells l ++ h.cs := by simp [oxmCells]
theorem oxmCells_append (l m : List Ent9) : oxmCells (l ++ m) = oxmCells l ++ oxmCells m := by simp [oxmCells]
theorem oxmCells_length (l : List Ent9) : (oxmCells l).length = l.length * 6 := by
  induction l with
  | nil => rfl
  | cons h l ih =>
    have e : oxmCells (h :: l) = h.cs ++ oxmCells l := by simp [oxmCells]
    rw [e, List.length_append, ih]
    simp [Ent9.cs]
    omega
theorem oxmCells_at (l : List Ent9) (i : Nat) (hi : i < l.length) (j : Nat) (hj : j < 6) : (oxmCells l)[i * 6 + j]? = (l[i].cs)[j]? := by
  induction l generalizing i with
  | nil => simp at hi
  | cons h l ih =>
    have e : oxmCells (h :: l) = h.cs ++ oxmCells l := by simp [oxmCells]
    have hl : h.cs.length = 6 := rfl
    rw [e]
    cases i with
    | zero => rw [Nat.zero_mul, Nat.zero_add, List.getElem?_append_left (by omega)]; rfl
    | succ i =>
      rw [List.getElem?_append_right (by omega), hl, show (i + 1) * 6 + j - 6 = i * 6 + j by omega]
      exact ih i (by simpa using hi)
theorem own_oxms {w : World} {e : TypeId} {v : Value} {l : List Ent9} (h : w.ownsRow 0 e 6 v l.length (oxmCells l)) :
    ∃ a c, v = .slice a l.length c ∧ l.length ≤ c ∧ c ≤ 9223372036854775807 ∧ Oxms w a l ∧ (a = none ∨ ∃ g, a = some ⟨g, 0, none⟩ ∧ v.ownBlock = some g) := by
  rcases h.2 with ⟨rfl, h0⟩ | ⟨g, cap, cur, rfl, _, hg, hnc, hcm, hcs, htake⟩
  · have : l = [] := List.eq_nil_of_length_eq_zero h0
    subst this
    exact ⟨none, 0, rfl, by simp, by simp, Oxms.nil _ _, .inl rfl⟩
  · refine ⟨some ⟨g, 0, none⟩, cap, rfl, hnc, by unfold maxLen at hcm; omega, ?_, .inr ⟨g, rfl, rfl⟩⟩
    have at_ : ∀ j, j < l.length * 6 → w.cell? ⟨g, 0 + j, none⟩ = (oxmCells l)[j]? := by
      intro j hj
      rw [Nat.zero_add, cell_of_row w g j cur e (0, 0) hg, ← htake, List.getElem?_take, if_pos hj, Array.getElem?_toList]
    intro i hi
    have k := fun j hj => oxmCells_at l i hi j hj
    refine ⟨g, 0, rfl, ?_, ?_, ?_, ?_, ?_, ?_⟩
    · exact (at_ _ (by omega)).trans (k 0 (by omega))
    · rw [Nat.add_assoc]; exact (at_ _ (by omega)).trans (k 1 (by omega))
    · rw [Nat.add_assoc]; exact (at_ _ (by omega)).trans (k 2 (by omega))
    · rw [Nat.add_assoc]; exact (at_ _ (by omega)).trans (k 3 (by omega))
    · rw [Nat.add_assoc]; exact (at_ _ (by omega)).trans (k 4 (by omega))
    · rw [Nat.add_assoc]; exact (at_ _ (by omega)).trans (k 5 (by omega))
end Go.Proofs.YtpmkfkanolhocaaGreat
namespace Go.Proofs.YtpmkfkanolhocaaGreat
open Go.ChangeShapes Go.WideShapes Go.RowKit Go.Deep
set_option linter.unusedVariables false

section
variable {H : Type} {enc : TypeId × Value → H} {w : World} {base : Nat} {held : Bool}
set_option maxRecDepth 100000 in
theorem open_ent9 {fuel : Nat} {cs : List Value} {x : DataW H × List MemPlace} (h : DataW.trod enc Tryz.prog w base (fun _ => true) held fuel 33 cs = some x) :
    ∃ h : Ent9, cs = h.cs ∧ EntIn w h := by
  have hC : Tryz.prog.cellsOf 33 = 6 := by kernel_rfl
  have hCi : Tryz.prog.cellsOf 3 = 1 := by kernel_rfl
  have hCb : Tryz.prog.cellsOf 4 = 1 := by kernel_rfl
  have hCu : Tryz.prog.cellsOf 30 = 1 := by kernel_rfl
  have hCs : Tryz.prog.cellsOf 31 = 1 := by kernel_rfl
  obtain ⟨ys, n', _, _, hlen, hyl, hg⟩ := DataW.trod_struct Tryz.underlying33 h
  have hsz : cs.length = 6 := by rw [hC] at hlen; exact hlen
  match cs, hsz with
  | [v0, v1, v2, v3, v4, v5], _ =>
    have get : ∀ j, j < 6 → ∃ y, ys[j]? = some y := fun j hj => ⟨ys[j]'(by rw [hyl]; exact hj), List.getElem?_eq_getElem _⟩
    obtain ⟨y0, e0⟩ := get 0 (by decide)
    obtain ⟨y1, e1⟩ := get 1 (by decide)
    obtain ⟨y2, e2⟩ := get 2 (by decide)
    obtain ⟨y3, e3⟩ := get 3 (by decide)
    obtain ⟨y4, e4⟩ := get 4 (by decide)
    obtain ⟨y5, e5⟩ := get 5 (by decide)
    have g0 : DataW.trod enc Tryz.prog w base (fun _ => true) held n' 3 [v0] = some y0 := by have h := hg 0 _ rfl; rw [e0] at h; simpa [hCi, Value.cells] using h
    have g1 : DataW.trod enc Tryz.prog w base (fun _ => true) held n' 3 [v1] = some y1 := by have h := hg 1 _ rfl; rw [e1] at h; simpa [hCi, Value.cells] using h
    have g2 : DataW.trod enc Tryz.prog w base (fun _ => true) held n' 4 [v2] = some y2 := by have h := hg 2 _ rfl; rw [e2] at h; simpa [hCi, hCb, Value.cells] using h
    have g3 : DataW.trod enc Tryz.prog w base (fun _ => true) held n' 30 [v3] = some y3 := by have h := hg 3 _ rfl; rw [e3] at h; simpa [hCi, hCb, hCu, Value.cells] using h
    have g4 : DataW.trod enc Tryz.prog w base (fun _ => true) held n' 31 [v4] = some y4 := by have h := hg 4 _ rfl; rw [e4] at h; simpa [hCi, hCb, hCu, hCs, Value.cells] using h
    have g5 : DataW.trod enc Tryz.prog w base (fun _ => true) held n' 31 [v5] = some y5 := by have h := hg 5 _ rfl; rw [e5] at h; simpa [hCi, hCb, hCu, hCs, Value.cells] using h
    obtain ⟨k0, h0, _, u0⟩ := DataW.trod_int Tryz.underlying3 g0
    obtain ⟨k1, h1, _, u1⟩ := DataW.trod_int Tryz.underlying3 g1
    obtain ⟨k2, h2, _⟩ := DataW.trod_bool Tryz.underlying4 g2
    obtain ⟨k3, h3, _, u3⟩ := DataW.trod_int Tryz.underlying30 g3
    obtain ⟨a4, n4, c4, l4, rfl, q4, i4, o4, r4, t4⟩ := open_bytes8 g4
    obtain ⟨a5, n5, c5, l5, rfl, q5, i5, o5, r5, t5⟩ := open_bytes8 g5
    simp at h0 h1 h2 h3
    subst q4
    subst q5
    refine ⟨⟨⟨k0, k1, k2, k3, l4, l5⟩, a4, c4, a5, c5⟩, by rw [h0, h1, h2, h3]; rfl, ⟨i4, i5, o4, o5, r5, ?_, ?_, ?_⟩⟩
    · simp [Lit.wf, IntKind.min, IntKind.max, IntKind.bits, IntKind.signed] at u0; omega
    · simp [Lit.wf, IntKind.min, IntKind.max, IntKind.bits, IntKind.signed] at u1; omega
    · simp [Lit.wf, IntKind.min, IntKind.max, IntKind.bits, IntKind.signed] at u3; omega
/-- values that came in -/
def IsOxms (w : World) (a : Option Addr) (len : Nat) : Prop := ∃ l : List Ent9, l.length = len ∧ Oxms w a l ∧ ∀ h ∈ l, EntIn w h
set_option maxRecDepth 100000 in
theorem open_oxms_of {T : TypeId} (hT : Tryz.prog.underlying T = some (.slice 33)) {fuel len cap : Nat} {a : Option Addr} {x : DataW H × List MemPlace} (h : DataW.trod enc Tryz.prog w base (fun _ => true) held fuel T [.slice a len cap] = some x) : len ≤ 9223372036854775807 ∧ IsOxms w a len := by
  rcases open_slice hT h with ⟨hcs, _⟩ | ⟨p, l, c, m, n, D, Pl, hcs, hb, hl, hm, hmm, hx, hi⟩
  · simp at hcs
    obtain ⟨rfl, rfl, rfl⟩ := hcs
    exact ⟨by omega, [], rfl, Oxms.nil _ _, by simp⟩
  · simp at hcs
    obtain ⟨rfl, rfl, rfl⟩ := hcs
    have hC : Tryz.prog.cellsOf 33 = 6 := by kernel_rfl
    simp at hmm
    have hlen : len ≤ 9223372036854775807 := by unfold maxLen at hm; omega
    have one : ∀ i, i < len → ∃ (b off : Nat) (t : Ent9), p = ⟨b, off, none⟩ ∧ (∀ j, j < 6 → w.cell? ⟨b, off + i * 6 + j, none⟩ = t.cs[j]?) ∧ EntIn w t := by
      intro i hil
      have hspot : p.spot = none := by
        obtain ⟨cs, hc, ht⟩ := hi 0 (by omega)
        rw [hC] at hc
        obtain ⟨_, hcl, hat⟩ := World.cells?_some hc
        have c0 := hat 0 (by omega)
        rw [List.getElem?_eq_getElem (by omega)] at c0
        simpa [Addr.add] using World.cell?_spot c0
      obtain ⟨cs, hc, ht⟩ := hi i (by omega)
      rw [hC] at hc
      obtain ⟨_, hcl, hat⟩ := World.cells?_some hc
      obtain ⟨t, rfl, hin⟩ := open_ent9 ht
      obtain ⟨b, off, spot⟩ := p
      simp at hspot
      subst hspot
      refine ⟨b, off, t, rfl, fun j hj => ?_, hin⟩
      have := hat j (by omega)
      rw [add_none, add_none] at this
      exact this
    have all : ∀ n, n ≤ len → ∃ ts : List Ent9, ts.length = n ∧ ∀ i, (hi : i < ts.length) → ∃ (b off : Nat), p = ⟨b, off, none⟩ ∧ (∀ j, j < 6 → w.cell? ⟨b, off + i * 6 + j, none⟩ = ts[i].cs[j]?) ∧ EntIn w ts[i] := by
      intro n
      induction n with
      | zero => intro _; exact ⟨[], rfl, fun i hi => by simp at hi⟩
      | succ n ih =>
        intro hn
        obtain ⟨ts, hts, hall⟩ := ih (by omega)
        obtain ⟨b, off, t, hp, r1, r2⟩ := one n (by omega)
        refine ⟨ts ++ [t], by simp [hts], fun i hi => ?_⟩
        rcases Nat.lt_or_ge i ts.length with hlt | hge
        · obtain ⟨b', off', q1, q2⟩ := hall i hlt
          rw [List.getElem_append_left hlt]
          exact ⟨b', off', q1, q2⟩
        · obtain rfl : i = ts.length := by simp at hi; omega
          rw [List.getElem_append_right (Nat.le_refl _)]
          simp only [Nat.sub_self, List.getElem_cons_zero]
          rw [hts]
          exact ⟨b, off, hp, r1, r2⟩
    obtain ⟨ts, hts, hall⟩ := all len (Nat.le_refl _)
    refine ⟨hlen, ts, hts, ?_, ?_⟩
    · intro i hi
      obtain ⟨b, off, hp, r, _⟩ := hall i hi
      exact ⟨b, off, by rw [hp], r 0 (by decide), r 1 (by decide), r 2 (by decide), r 3 (by decide), r 4 (by decide), r 5 (by decide)⟩
    · intro t ht
      obtain ⟨i, hi, rfl⟩ := List.mem_iff_getElem.1 ht
      obtain ⟨_, _, _, _, r⟩ := hall i hi
      exact r
theorem open_oxms {fuel len cap : Nat} {a : Option Addr} {x : DataW H × List MemPlace} (h : DataW.trod enc Tryz.prog w base (fun _ => true) held fuel 22 [.slice a len cap] = some x) : len ≤ 9223372036854775807 ∧ IsOxms w a len :=
  open_oxms_of Tryz.underlying22 h
end
end Go.Proofs.YtpmkfkanolhocaaGreat
namespace Go.Proofs.YtpmkfkanolhocaaGreat
open Go.RowKit Go.Sort
set_option linter.unusedVariables false

instance entInh : Inhabited Ent9 := ⟨⟨⟨0, 0, false, 0, [], []⟩, none, 0, none, 0⟩⟩
/-- which of two comes first: below 0, if the first does -/
def cmp3 (x y : Int) : Int := if x < y then -1 else if y < x then 1 else 0
def or3 (x y z : Int) : Int := if x ≠ 0 then x else if y ≠ 0 then y else z
def cmp9 (a b : Ox9) : Int := or3 (cmp3 a.C b.C) (cmp3 a.F b.F) (cmp3 a.X b.X)
theorem cmp3_cases (x y : Int) : (cmp3 x y = -1 ∧ x < y) ∨ (cmp3 x y = 0 ∧ x = y) ∨ (cmp3 x y = 1 ∧ y < x) := by
  unfold cmp3
  by_cases h1 : x < y
  · simp [h1]
  · by_cases h2 : y < x
    · simp [h1, h2]
    · simp [h1, h2]; omega
theorem cmp9_iff (a b : Ox9) : cmp9 a b < 0 ↔ before9 a b = true := by
  rw [before_iff]
  unfold cmp9 or3
  rcases cmp3_cases a.C b.C with ⟨e, h⟩ | ⟨e, h⟩ | ⟨e, h⟩ <;> rcases cmp3_cases a.F b.F with ⟨e', h'⟩ | ⟨e', h'⟩ | ⟨e', h'⟩ <;> rcases cmp3_cases a.X b.X with ⟨e2, h2⟩ | ⟨e2, h2⟩ | ⟨e2, h2⟩ <;> simp [e, e', e2] <;> omega
/-- of values in memory -/
def cmpE (a b : Ent9) : Int := cmp9 a.o b.o
theorem ltE (a b : Ent9) : ltOf cmpE a b = before9 a.o b.o := by
  unfold ltOf cmpE
  rw [Bool.eq_iff_iff, decide_eq_true_iff]
  exact cmp9_iff _ _
theorem swoE : SWO (ltOf cmpE) where
  irrefl x := by rw [ltE, before_not]; omega
  trans x y z h1 h2 := by rw [ltE] at *; exact before_trans9 h1 h2
  ntrans x y z h1 h2 := by rw [ltE] at *; exact not_before_trans h2 h1

theorem compareInt_any (x y : Int) (w : World) : Calls Tryz.prog 66 #[.int .i64 x, .int .i64 y] w fun e w' => e = .returned (.int .i64 (cmp3 x y)) ∧ w' = w := by
  obtain ⟨r, hr⟩ : ∃ r, cmp3 x y = r := ⟨_, rfl⟩
  rw [hr]
  rcases cmp3_cases x y with ⟨e, h⟩ | ⟨e, h⟩ | ⟨e, h⟩
  · obtain rfl : r = -1 := by omega
    clear hr e
    go_enter Tryz.func66, Tryz.ntmps66
    go_wp2
    go_ret
    exact ⟨rfl, rfl⟩
  · obtain rfl : r = 0 := by omega
    subst h
    clear hr e
    go_enter Tryz.func66, Tryz.ntmps66
    go_wp2
    go_ret
    exact ⟨rfl, rfl⟩
  · obtain rfl : r = 1 := by omega
    have h' : ¬ x < y := by omega
    clear hr e
    go_enter Tryz.func66, Tryz.ntmps66
    go_wp2
    go_ret
    exact ⟨rfl, rfl⟩
theorem compareU64_any (x y : Int) (w : World) : Calls Tryz.prog 67 #[.int .u64 x, .int .u64 y] w fun e w' => e = .returned (.int .i64 (cmp3 x y)) ∧ w' = w := by
  obtain ⟨r, hr⟩ : ∃ r, cmp3 x y = r := ⟨_, rfl⟩
  rw [hr]
  rcases cmp3_cases x y with ⟨e, h⟩ | ⟨e, h⟩ | ⟨e, h⟩
  · obtain rfl : r = -1 := by omega
    clear hr e
    go_enter Tryz.func67, Tryz.ntmps67
    go_wp2
    go_ret
    exact ⟨rfl, rfl⟩
  · obtain rfl : r = 0 := by omega
    subst h
    clear hr e
    go_enter Tryz.func67, Tryz.ntmps67
    go_wp2
    go_ret
    exact ⟨rfl, rfl⟩
  · obtain rfl : r = 1 := by omega
    have h' : ¬ x < y := by omega
    clear hr e
    go_enter Tryz.func67, Tryz.ntmps67
    go_wp2
    go_ret
    exact ⟨rfl, rfl⟩
set_option maxRecDepth 100000 in
theorem cmpOr_any (x y z : Int) (b c : Nat) (w : World) (h0 : w.cell? ⟨b, 0, none⟩ = some (.int .i64 x)) (h1 : w.cell? ⟨b, 1, none⟩ = some (.int .i64 y)) (h2 : w.cell? ⟨b, 2, none⟩ = some (.int .i64 z)) : Calls Tryz.prog 65 #[.slice (some ⟨b, 0, none⟩) 3 c] w fun e w' => e = .returned (.int .i64 (or3 x y z)) ∧ w' = w := by
  obtain ⟨r, hr⟩ : ∃ r, or3 x y z = r := ⟨_, rfl⟩
  rw [hr]
  have HR := hid hr
  clear hr
  go_enter Tryz.func65, Tryz.ntmps65
  go_wp2_with fail
  go_loopg [8] 3 (fun kx s8 wr => wr = w ∧ ∃ (i : Nat), s8 = .int .i64 i ∧ i ≤ 3 ∧ 3 - i ≤ kx ∧ Hid ((0 < i → x = 0) ∧ (1 < i → y = 0) ∧ (2 < i → z = 0)))
  case atStart => exact ⟨rfl, 0, rfl, by omega, by omega, by simp [Hid]⟩
  case round =>
    obtain ⟨rfl, i, rfl, hi, hkx, hz⟩ := hrel
    rcases (show i = 0 ∨ i = 1 ∨ i = 2 ∨ i = 3 by omega) with rfl | rfl | rfl | rfl
    · by_cases hv : x = 0
      · have hb : (x != 0) = false := by simpa using hv
        have HV := hid hv
        clear hv
        go_wp2
        go_roundg 2
        case measure => omega
        case rel => exact ⟨rfl, 1, by first | rfl | go_num, by omega, by omega, by simp [Hid, HV.out]⟩
      · have hb : (x != 0) = true := by simpa using hv
        go_wp2
        go_ret
        refine ⟨?_, rfl⟩
        rw [← HR.out]; simp [or3, hv]
    · by_cases hv : y = 0
      · have hb : (y != 0) = false := by simpa using hv
        have HV := hid hv
        clear hv
        go_wp2
        go_roundg 1
        case measure => omega
        case rel => exact ⟨rfl, 2, by first | rfl | go_num, by omega, by omega, ⟨fun _ => hz.out.1 (by omega), fun _ => HV.out, by omega⟩⟩
      · have hb : (y != 0) = true := by simpa using hv
        go_wp2
        go_ret
        refine ⟨?_, rfl⟩
        rw [← HR.out]; simp [or3, hz.out.1, hv]
    · by_cases hv : z = 0
      · have hb : (z != 0) = false := by simpa using hv
        have HV := hid hv
        clear hv
        go_wp2
        go_roundg 0
        case measure => omega
        case rel => exact ⟨rfl, 3, by first | rfl | go_num, by omega, by omega, ⟨fun _ => hz.out.1 (by omega), fun _ => hz.out.2.1 (by omega), fun _ => HV.out⟩⟩
      · have hb : (z != 0) = true := by simpa using hv
        go_wp2
        go_ret
        refine ⟨?_, rfl⟩
        rw [← HR.out]; simp [or3, hz.out.1, hz.out.2.1]
    · go_wp2
      go_ret
      refine ⟨?_, rfl⟩
      rw [← HR.out]; simp [or3, hz.out.1, hz.out.2.1, hz.out.2.2]

set_option maxRecDepth 100000 in
set_option maxHeartbeats 2000000 in
theorem order_any (a b : Ent9) (w : World) : Calls Tryz.prog 40 #[a.val, b.val] w fun e w' => e = .returned (.int .i64 (cmpE a b)) ∧ ∃ q os', w' = grow (w.drewN q) os' := by
  obtain ⟨⟨C, F, H, X, v, m⟩, va, vc, ma, mc⟩ := a
  obtain ⟨⟨C', F', H', X', v', m'⟩, va', vc', ma', mc'⟩ := b
  obtain ⟨r0, hr0⟩ : ∃ r, cmp3 C C' = r := ⟨_, rfl⟩
  obtain ⟨r1, hr1⟩ : ∃ r, cmp3 F F' = r := ⟨_, rfl⟩
  obtain ⟨r2, hr2⟩ : ∃ r, cmp3 X X' = r := ⟨_, rfl⟩
  have e : cmpE ⟨⟨C, F, H, X, v, m⟩, va, vc, ma, mc⟩ ⟨⟨C', F', H', X', v', m'⟩, va', vc', ma', mc'⟩ = or3 r0 r1 r2 := by rw [← hr0, ← hr1, ← hr2]; rfl
  rw [e]
  have c0 := fun w => compareInt_any C C' w
  have c1 := fun w => compareInt_any F F' w
  have c2 := fun w => compareU64_any X X' w
  rw [hr0] at c0
  rw [hr1] at c1
  rw [hr2] at c2
  obtain ⟨r, hr⟩ : ∃ r, or3 r0 r1 r2 = r := ⟨_, rfl⟩
  have HR := hid hr
  rw [hr]
  clear e hr0 hr1 hr2 hr
  unfold Ent9.val
  simp only
  obtain ⟨W, hW, hbW, hx, hy⟩ := two_oxm w C F H X va v.length vc ma m.length mc C' F' H' X' va' v'.length vc' ma' m'.length mc'
  have HG : Hid (∃ os, W = grow w os) := ⟨_, by rw [← hW, alloc_eq_grow, alloc_eq_grow, grow_grow]⟩
  have HW := hid hW
  have hxD := hx.below (below_drew8 W)
  have hyD := hy.below (below_drew8 W)
  obtain ⟨d0, d1, d2, d3, d4, d5⟩ := hxD.six
  obtain ⟨e0, e1, e2, e3, e4, e5⟩ := hyD.six
  have s1 : w.heap.size < W.heap.size := hx.lt
  have s2 : w.heap.size + 1 < W.heap.size := hy.lt
  have KC : Hid (∀ o : Obj, (fun w' => w'.cell? ⟨w.heap.size, 0, none⟩ = some (.int .i64 C) ∧ w'.cell? ⟨w.heap.size, 1, none⟩ = some (.int .i64 F) ∧ w'.cell? ⟨w.heap.size, 3, none⟩ = some (.int .u64 X) ∧ w'.cell? ⟨w.heap.size + 1, 0, none⟩ = some (.int .i64 C') ∧ w'.cell? ⟨w.heap.size + 1, 1, none⟩ = some (.int .i64 F') ∧ w'.cell? ⟨w.heap.size + 1, 3, none⟩ = some (.int .u64 X')) ((W.alloc o).drew)) := by
    show _
    intro o
    obtain ⟨a0, a1, _, a3, _, _⟩ := ((hx.alloc o).drew).six
    obtain ⟨b0, b1, _, b3, _, _⟩ := ((hy.alloc o).drew).six
    exact ⟨a0, a1, a3, b0, b1, b3⟩
  obtain ⟨f0, f1, _, f3, _, _⟩ := hx.six
  obtain ⟨g0, g1, _, g3, _, _⟩ := hy.six
  have n1 : ¬ w.heap.size = W.heap.size := by omega
  have n2 : ¬ w.heap.size + 1 = W.heap.size := by omega
  clear hW hbW hx hy hxD hyD d2 d4 d5 e2 e4 e5
  go_enter Tryz.func40, Tryz.ntmps40
  go_wp2_with fail
  rw [HW.out]
  go_region_held3 (fun w' => w'.cell? ⟨w.heap.size, 0, none⟩ = some (.int .i64 C) ∧ w'.cell? ⟨w.heap.size, 1, none⟩ = some (.int .i64 F) ∧ w'.cell? ⟨w.heap.size, 3, none⟩ = some (.int .u64 X) ∧ w'.cell? ⟨w.heap.size + 1, 0, none⟩ = some (.int .i64 C') ∧ w'.cell? ⟨w.heap.size + 1, 1, none⟩ = some (.int .i64 F') ∧ w'.cell? ⟨w.heap.size + 1, 3, none⟩ = some (.int .u64 X')) (first | go_keep | exact KC.out _) ((first
    | (go_at_call 66; with_reducible refine (c0 _).mono ?_; rintro e w5 ⟨rfl, rfl⟩)
    | (go_at_call 66; with_reducible refine (c1 _).mono ?_; rintro e w5 ⟨rfl, rfl⟩)
    | (go_at_call 67; with_reducible refine (c2 _).mono ?_; rintro e w5 ⟨rfl, rfl⟩)
    | (go_at_call 65; refine (cmpOr_any r0 r1 r2 _ _ _ (by simp) (by simp) (by simp)).mono ?_; rintro e w5 ⟨rfl, rfl⟩)
    | fail))
  all_goals
    go_wp2_with fail
  refine bodyPost_ret (v := .int .i64 (or3 r0 r1 r2)) (by simp [results, Tryz.results40, go_sem]) rfl ⟨by rw [HR.out], 1, ?_⟩
  obtain ⟨os, e⟩ := HG.out
  exact ⟨_, by rw [e, alloc_eq_grow, grow_grow]; rfl⟩
theorem order_enters : ∀ args w, (callFunc 40 args).run Tryz.prog w = .ok (.enter 40 args) w := enters_of Tryz.func40 (by kernel_rfl) rfl
theorem order_lays (blk off size : Nat) (w : World) : CmpLays Tryz.prog 40 #[] Ent9.cs 6 cmpE blk off size w := fun m os dk _ x y => by
  rw [Array.append_empty]
  exact order_any x y _
end Go.Proofs.YtpmkfkanolhocaaGreat
namespace Go.Proofs.YtpmkfkanolhocaaGreat
open Go.RowKit Go.Sort
set_option linter.unusedVariables false

theorem wp_make_box {P : Program} {t e : TypeId} {z : Value} {size bytes : Nat} {w : World} {ops : Array Oper} {rest : List Oper} {o : Oper} {a : Act} {Q : Exit → Act → World → Prop} (hgd : o.guard = none) (x y : Operand)
    (ho : o.op = .makeSlice t x y) (E : ElemN P t e z size bytes) {kl kc : IntKind} {L C : Int} (hx : a.eval x = .int kl L) (hy : a.eval y = .int kc C) {n : Nat} (hL : L = n) (hC : C = n)
    (hbytes : bytes * n ≤ 281474976710656) (h63 : n ≤ 281474976710656)
    (h : ∀ w' R, Hid (R.length = n * size) → BoxL w' w.heap.size R → Below w.heap.size w w' → wpList P ops Q rest (a.put o.dst (.slice (some ⟨w.heap.size, 0, none⟩) n n)) w') : wpList P ops Q (o :: rest) a w := by
  obtain ⟨i, hi, hz, hs, hb⟩ : ∃ i, P.info? e = some i ∧ i.zero = some z ∧ i.size = size ∧ i.bytes = bytes := by
    have := E.info
    cases hi : P.info? e with
    | none => rw [hi] at this; simp at this
    | some i => rw [hi] at this; simp at this; exact ⟨i, rfl, this⟩
  subst hL
  subst hC
  subst hb
  refine wpList_plain hgd fun K hK => ?_
  have hb' : (i.bytes : Int) * (n : Int) ≤ 281474976710656 := by
    have h : ((i.bytes * n : Nat) : Int) ≤ 281474976710656 := by omega
    rwa [Int.natCast_mul] at h
  have hr := run_make (P := P) w t e i z E.under hi hz kl kc n n (by omega) (by omega) hb' (by omega)
  simp only [Int.toNat_natCast, hs] at hr
  unfold Oper.wp
  simp [execOp, ho, hx, hy, hr, Result.andThen]
  refine hK _ _ (h _ (madeCells z.cells (n * size)).toList (by show _ = _; rw [Array.length_toList, size_madeCells]) ?_ (below_alloc _ _))
  have := BoxL.new w (madeCells z.cells (n * size)).toList e
  simpa using this
theorem elemOxm : ElemN Tryz.prog 22 33 (.agg #[.int .i64 0, .int .i64 0, .bool false, .int .u64 0, .slice none 0 0, .slice none 0 0]) 6 80 := ⟨Tryz.underlying22, by kernel_rfl, rfl, by decide⟩

theorem below_by9 {w0 w w' : World} (h : Below w0.heap.size w0 w) {g : Nat} (hb : w.grownBy w' (some g)) (hg : w0.heap.size ≤ g) : Below w0.heap.size w0 w' :=
  h.grown hb h.size (by intro k hk; simp at hk; omega)
/-- a value's bytes stay while a block of its own is none of those that turn -/
theorem EntIn.by {w w' : World} {h : Ent9} {g : Nat} (hi : EntIn w h) (hb : w.grownBy w' (some g)) (hv : ∀ q : Addr, h.va = some q → q.block ≠ g) (hm : ∀ q : Addr, h.ma = some q → q.block ≠ g) : EntIn w' h := by
  refine ⟨?_, ?_, hi.ov, hi.om, hi.cm, hi.c, hi.f, hi.x⟩
  · intro i hil
    obtain ⟨b, off, ha, hc⟩ := hi.iv i hil
    exact ⟨b, off, ha, hb.cell hc (by simpa using hv _ ha)⟩
  · intro i hil
    obtain ⟨b, off, ha, hc⟩ := hi.im i hil
    exact ⟨b, off, ha, hb.cell hc (by simpa using hm _ ha)⟩
/-- a copy: its bytes lie behind block g -/
def Far9 (g : Nat) (h : Ent9) : Prop := ∃ p q, h.va = some ⟨p, 0, none⟩ ∧ h.ma = some ⟨q, 0, none⟩ ∧ g < p ∧ g < q
/-- six stores, one behind the other -/
theorem BoxL.put6 {w : World} {b : Nat} {P R : List Value} {u0 u1 u2 u3 u4 u5 : Value} (h : BoxL w b (P ++ u0 :: u1 :: u2 :: u3 :: u4 :: u5 :: R)) {i : Nat} (hi : P.length = i) (v0 v1 v2 v3 v4 v5 : Value) :
    BoxL ((((((w.setCell ⟨b, i, none⟩ v0).setCell ⟨b, i + 1, none⟩ v1).setCell ⟨b, i + 2, none⟩ v2).setCell ⟨b, i + 3, none⟩ v3).setCell ⟨b, i + 4, none⟩ v4).setCell ⟨b, i + 5, none⟩ v5) b (P ++ v0 :: v1 :: v2 :: v3 :: v4 :: v5 :: R) := by
  subst hi
  have := (((((h.set P.length v0 (by simp)).set (P.length + 1) v1 (by simp)).set (P.length + 2) v2 (by simp)).set (P.length + 3) v3 (by simp)).set (P.length + 4) v4 (by simp)).set (P.length + 5) v5 (by simp)
  simpa [List.set_append_right] using this
theorem six_of {R : List Value} {k : Nat} (h : R.length = (k + 1) * 6) : ∃ u0 u1 u2 u3 u4 u5 R', R = u0 :: u1 :: u2 :: u3 :: u4 :: u5 :: R' ∧ R'.length = k * 6 := by
  match R, h with
  | u0 :: u1 :: u2 :: u3 :: u4 :: u5 :: R', h => exact ⟨u0, u1, u2, u3, u4, u5, R', rfl, by simp at h; omega⟩
  | [], h => simp at h
  | [_], h => simp at h; omega
  | [_, _], h => simp at h; omega
  | [_, _, _], h => simp at h; omega
  | [_, _, _, _], h => simp at h; omega
  | [_, _, _, _, _], h => simp at h; omega
/-- what holds the cells holds the values -/
theorem holds_box {w : World} {b : Nat} {l : List Ent9} (h : BoxL w b (oxmCells l)) : HoldsK Ent9.cs 6 w b 0 l.toArray := by
  intro j hj
  rw [size_flatK] at hj
  rw [get_flatK _ _ _ _ hj]
  simp only [List.size_toArray] at hj
  refine ⟨?_, h.free _⟩
  have hl : j / 6 < l.length := by omega
  have hm : j % 6 < 6 := Nat.mod_lt _ (by omega)
  have e := oxmCells_at l (j / 6) hl (j % 6) hm
  rw [show j / 6 * 6 + j % 6 = j by omega] at e
  rw [Nat.zero_add]
  refine h.cell j _ (e.trans ?_)
  have e2 : l.toArray[j / 6]! = l[j / 6] := by simp [hl]
  rw [e2, List.getElem?_eq_getElem (by show j % 6 < (l[j / 6]).cs.length; exact hm)]
  simp only [id_eq]
  rw [List.getElem!_eq_getElem?_getD, List.getElem?_eq_getElem (by show j % 6 < (l[j / 6]).cs.length; exact hm)]
  rfl
/-- behind the sort: the block that was sorted has turned alone -/
theorem sk_by {w0 W : World} {blk off : Nat} {l : List Ent9} (h : SK Ent9.cs 6 w0 blk off l W) : w0.grownBy W (some blk) := by
  obtain ⟨n, os, rfl⟩ := h
  unfold sortWorldK putRowK putRow
  refine ⟨rfl, rfl, rfl, ?_, ?_⟩
  · simp [grow, mapBlock, Sort.ahead]
  · intro k hk hne
    have hk2 : k ≠ blk := fun e => hne (by rw [e])
    show ((mapBlock (Sort.ahead w0 n) blk _).heap ++ os)[k]? = _
    rw [Array.getElem?_append_left (by simpa [mapBlock, Sort.ahead] using hk)]
    simp [mapBlock, Sort.ahead, Array.getElem?_modify, hk2.symm]
theorem sk_oxms {w0 W : World} {g : Nat} {l0 l : List Ent9} (h : SK Ent9.cs 6 w0 g 0 l W) (R : RowK Ent9.cs 6 w0 g 0 l0.toArray) (hs : l0.length = l.length) : Oxms W (some ⟨g, 0, none⟩) l := by
  have H := SWK.holds h R.hblk R.hH (by simpa using hs.symm)
  intro i hi
  have c := fun j (hj : j < 6) => (HoldsK.cell H (i := i) (c := j) (by simpa using hi) hj).1
  have e : l.toArray[i]! = l[i] := by simp [hi]
  rw [e] at c
  exact ⟨g, 0, rfl, c 0 (by decide), c 1 (by decide), c 2 (by decide), c 3 (by decide), c 4 (by decide), c 5 (by decide)⟩

theorem swo9 : SWO before9 where
  irrefl x := by rw [before_not]; omega
  trans x y z h1 h2 := before_trans9 h1 h2
  ntrans x y z h1 h2 := not_before_trans h2 h1
theorem fil_ins (o : Ox9) : ∀ {l : List Ox9}, Sorted9 l → Fil before9 (l ++ [o]) (ins9 o l)
  | [], _ => Fil.refl _
  | x :: r, h => by
    have hx := List.pairwise_cons.1 h
    unfold ins9
    split
    · rename_i hb
      refine Fil.swap swo9 (a := x :: r) (b := [o]) fun z hz y hy => ?_
      rw [List.mem_singleton.1 hy]
      rcases List.mem_cons.1 hz with rfl | hz
      · exact hb
      · exact before_not_trans hb (hx.1 z hz)
    · exact (Fil.refl [x]).append (fil_ins o hx.2)
theorem fil_fold (l : List Ox9) : ∀ {out : List Ox9}, Sorted9 out → Fil before9 (out ++ l) (l.foldl (fun out o => ins9 o out) out) := by
  induction l with
  | nil => intro out _; rw [List.append_nil]; exact Fil.refl _
  | cons x r ih =>
    intro out h
    have := (fil_ins x h).append (Fil.refl (lt := before9) r)
    rw [List.append_assoc] at this
    exact this.trans (ih (ins_sorted h))
theorem fil_sort (l : List Ox9) : Fil before9 l (sort9 l) := fil_fold l List.Pairwise.nil
theorem sort_is {l M : List Ent9} (h1 : Srt (ltOf cmpE) M) (h2 : Fil (ltOf cmpE) l M) : M.map Ent9.o = sort9 (l.map Ent9.o) := by
  refine srt_uniq swo9 ?_ (sort_sorted _) ?_
  · unfold Srt
    rw [List.pairwise_map]
    exact h1.imp fun {a b} h => by rw [ltE] at h; exact h
  · refine Fil.trans (fun k => ?_) (fil_sort _)
    have e : ∀ t : List Ent9, (t.map Ent9.o).filter (eqv before9 k) = (t.filter (eqv (ltOf cmpE) ⟨k, none, 0, none, 0⟩)).map Ent9.o := fun t => by
      rw [List.filter_map]
      congr 1
      apply List.filter_congr
      intro x _
      simp only [Function.comp, eqv, ltE]
    rw [e, e, h2]
/-- sorted: a list of one's own -/
def SortPost (w : World) (l : List Ent9) (e : Ending) (w' : World) : Prop :=
  ∃ g M, e = .returned (.slice (some ⟨g, 0, none⟩) l.length l.length) ∧ M.length = l.length ∧ M.map Ent9.o = sort9 (l.map Ent9.o) ∧ Oxms w' (some ⟨g, 0, none⟩) M ∧ (∀ h ∈ M, EntIn w' h) ∧ Below w.heap.size w w' ∧ w.heap.size ≤ g
set_option maxRecDepth 100000 in
set_option maxHeartbeats 2000000 in
theorem sort_any (w : World) (a : Option Addr) (c : Nat) (l : List Ent9) (hl : l.length ≤ 1000) (hO : Oxms w a l) (hI : ∀ h ∈ l, EntIn w h) (hs : ∀ h ∈ l, h.o.v.length ≤ 1000 ∧ h.o.m.length ≤ 1000) :
    Calls Tryz.prog 18 #[.slice a l.length c] w (SortPost w l) := by
  obtain ⟨N, hN⟩ : ∃ N, N = l.length := ⟨_, rfl⟩
  have HN := hid hN
  have HO := hid hO
  have HI := hid hI
  have HS := hid hs
  rw [← hN]
  have hl' : N ≤ 1000 := by omega
  clear hN hO hI hs hl
  go_enter Tryz.func18, Tryz.ntmps18
  go_wp2_with (at_make; refine wp_make_box rfl _ _ rfl elemOxm rfl rfl rfl rfl (by omega) (by omega) ?_; intro w1 R hR hB hb1)
  have HB1 := hid hb1
  go_loopg [11] N (fun kx s11 wr => ∃ (i : Nat) (D : List Ent9) (R : List Value), s11 = .int .i64 i ∧ i ≤ N ∧ N - i ≤ kx ∧ Hid (D.length = i) ∧ Hid (R.length = (N - i) * 6) ∧ Hid (BoxL wr w.heap.size (oxmCells D ++ R)) ∧ Hid (Below w.heap.size w wr) ∧ Hid (D.map Ent9.o = (l.take i).map Ent9.o) ∧ Hid (∀ h ∈ D, EntIn wr h ∧ Far9 w.heap.size h))
  case atStart => exact ⟨0, [], R, rfl, by omega, by omega, rfl, hR, hB, hb1, rfl, (by simp [Hid])⟩
  case round =>
    clear hB hb1
    obtain ⟨i, D, R, rfl, hi, hkx, lD, lR, hB, hb, hD, hF⟩ := hrel
    by_cases hlt : i < N
    · have hltz : (i : Int) < (N : Int) := by omega
      have hn := HN.out
      have hil : i < l.length := by omega
      obtain ⟨b, off, rfl, c0, c1, c2, c3, c4, c5⟩ := (HO.out.below hb.out) i hil
      have hEin := (HI.out l[i] (List.getElem_mem hil)).below hb.out
      have hsz := HS.out l[i] (List.getElem_mem hil)
      generalize hh : l[i] = h at c0 c1 c2 c3 c4 c5 hEin hsz
      have HH := hid hh
      have HE := hid hEin
      have HZ := hid hsz
      obtain ⟨W, hW, hbW, _⟩ := oxm_box wr h.o.C h.o.F h.o.H h.o.X h.va h.o.v.length h.vc h.ma h.o.m.length h.mc
      have HW := hid hW
      have HBW := hid hbW
      have hgn : w.heap.size < wr.heap.size := hB.out.lt
      clear hn hh hEin hsz hW hbW
      go_wp2_with fail
      rw [HW.out]
      refine (copy8_any h.o.C h.o.F h.o.H h.o.X h.va h.vc h.ma h.mc h.o.v h.o.m HZ.out.1 HZ.out.2 W (HE.out.iv.below HBW.out) (HE.out.im.below HBW.out)).mono ?_
      rintro e w2 ⟨p, q, rfl, hb2, hf1, hf2, hpq, hWp⟩
      have HB2 := hid hb2
      have HF1 := hid hf1
      have HF2 := hid hf2
      have HP := hid (And.intro hpq hWp)
      have hbx := (hB.out.below HBW.out).below hb2
      obtain ⟨k, hk⟩ : ∃ k, N - i = k + 1 := ⟨N - i - 1, by omega⟩
      obtain ⟨u0, u1, u2, u3, u4, u5, R', rfl, hR'⟩ := six_of (R := R) (k := k) (by rw [lR.out, hk])
      have hc : (oxmCells D).length = i * 6 := by rw [oxmCells_length, lD.out]
      have k0 := hbx.cell (i * 6) u0 (by rw [List.getElem?_append_right (by omega)]; simp [hc])
      have k1 := hbx.cell (i * 6 + 1) u1 (by rw [List.getElem?_append_right (by omega)]; simp [hc])
      have k2 := hbx.cell (i * 6 + 2) u2 (by rw [List.getElem?_append_right (by omega)]; simp [hc])
      have k3 := hbx.cell (i * 6 + 3) u3 (by rw [List.getElem?_append_right (by omega)]; simp [hc])
      have k4 := hbx.cell (i * 6 + 4) u4 (by rw [List.getElem?_append_right (by omega)]; simp [hc])
      have k5 := hbx.cell (i * 6 + 5) u5 (by rw [List.getElem?_append_right (by omega)]; simp [hc])
      have z := hbx.free
      have HBX := hid hbx
      have HR' := hid hR'
      have HC := hid hc
      have HK := hid hk
      clear hbx hR' hc hk hb2 hf1 hf2 hpq hWp c0 c1 c2 c3 c4 c5
      go_wp2_with fail
      have hB3 := HBX.out.put6 HC.out (.int .i64 h.o.C) (.int .i64 h.o.F) (.bool h.o.H) (.int .u64 h.o.X) (.slice (some ⟨p, 0, none⟩) h.o.v.length h.o.v.length) (.slice (some ⟨q, 0, none⟩) h.o.m.length h.o.m.length)
      have hby := grownBy_then (grownBy_then (grownBy_then (grownBy_then (grownBy_then (by_setCell w2 w.heap.size (i * 6) (.int .i64 h.o.C)) (by_setCell _ w.heap.size (i * 6 + 1) (.int .i64 h.o.F))) (by_setCell _ w.heap.size (i * 6 + 2) (.bool h.o.H))) (by_setCell _ w.heap.size (i * 6 + 3) (.int .u64 h.o.X))) (by_setCell _ w.heap.size (i * 6 + 4) (.slice (some ⟨p, 0, none⟩) h.o.v.length h.o.v.length))) (by_setCell _ w.heap.size (i * 6 + 5) (.slice (some ⟨q, 0, none⟩) h.o.m.length h.o.m.length))
      generalize ((((((w2.setCell ⟨w.heap.size, i * 6, none⟩ (.int .i64 h.o.C)).setCell ⟨w.heap.size, i * 6 + 1, none⟩ (.int .i64 h.o.F)).setCell ⟨w.heap.size, i * 6 + 2, none⟩ (.bool h.o.H)).setCell ⟨w.heap.size, i * 6 + 3, none⟩ (.int .u64 h.o.X)).setCell ⟨w.heap.size, i * 6 + 4, none⟩ (.slice (some ⟨p, 0, none⟩) h.o.v.length h.o.v.length)).setCell ⟨w.heap.size, i * 6 + 5, none⟩ (.slice (some ⟨q, 0, none⟩) h.o.m.length h.o.m.length)) = w3 at hB3 hby ⊢
      go_roundg (N - (i + 1))
      case measure => omega
      case rel =>
        have hw2 : Below w.heap.size w w2 := below_on (below_on hb.out HBW.out) HB2.out
        have hWs : wr.heap.size ≤ W.heap.size := HBW.out.size
        obtain ⟨hpq, hWp⟩ := HP.out
        refine ⟨i + 1, D ++ [⟨h.o, some ⟨p, 0, none⟩, h.o.v.length, some ⟨q, 0, none⟩, h.o.m.length⟩], R', by first | rfl | go_num, by omega, Nat.le_refl _, ?_, ?_, ?_, below_by9 hw2 hby (Nat.le_refl _), ?_, ?_⟩
        · show _ = _; rw [List.length_append, lD.out]; rfl
        · show _ = _; rw [HR'.out]; have := HK.out; omega
        · show BoxL _ _ _
          rw [oxmCells_snoc]
          simpa [Ent9.cs] using hB3
        · show _ = _
          rw [List.map_append, hD.out, List.take_add_one, List.getElem?_eq_getElem hil, HH.out]
          simp
        · show ∀ _, _
          intro h' hm
          rcases List.mem_append.1 hm with hm | hm
          · obtain ⟨e1, p', q', e2, e3, e4, e5⟩ := hF.out h' hm
            exact ⟨((e1.below HBW.out).below HB2.out).by hby (fun x hx => by rw [e2] at hx; simp at hx; rw [← hx]; show p' ≠ _; omega) (fun x hx => by rw [e3] at hx; simp at hx; rw [← hx]; show q' ≠ _; omega), p', q', e2, e3, e4, e5⟩
          · obtain rfl := List.mem_singleton.1 hm
            have hx := HE.out
            have hz := HZ.out
            refine ⟨EntIn.by (w := w2) ⟨fresh_ints8 HF1.out, fresh_ints8 HF2.out, hx.ov, hx.om, Nat.le_refl _, hx.c, hx.f, hx.x⟩ hby (fun x hx => by simp at hx; rw [← hx]; show p ≠ _; omega) (fun x hx => by simp at hx; rw [← hx]; show q ≠ _; omega), p, q, rfl, rfl, by omega, by omega⟩
    · have hltz : ¬ (i : Int) < (N : Int) := by omega
      obtain rfl : i = N := by omega
      have hR0 : R = [] := List.eq_nil_of_length_eq_zero (by rw [lR.out]; omega)
      have hBD : BoxL wr w.heap.size (oxmCells D) := by have := hB.out; rw [hR0, List.append_nil] at this; exact this
      have RK : RowK Ent9.cs 6 wr w.heap.size 0 D.toArray := ⟨fun _ => rfl, fun x v hv => by simp [Ent9.cs] at hv; rcases hv with rfl | rfl | rfl | rfl | rfl | rfl <;> rfl, holds_box hBD, hBD.lt⟩
      have hS := sortStable_any 6 Tryz.sizeOf33 Tryz.isAgg33 Ent9.cs cmpE swoE 40 #[] w.heap.size 0 i D wr wr order_enters (order_lays _ _ _ _) RK (by rw [lD.out]; omega) (SWK.start RK.hH)
      rw [lD.out] at hS
      have HRK := hid RK
      clear hBD RK hR0
      go_wp2_with fail
      refine hS.mono ?_
      rintro e w4 ⟨rfl, M, hM1, hM2, hM3⟩
      have HM := hid (And.intro hM1 (And.intro hM2 hM3))
      clear hM1 hM2 hM3 hS
      go_wp2
      obtain ⟨hM1, hM2, hM3⟩ := HM.out
      have hn := HN.out
      have hlen := hM2.length swoE
      have hlD := lD.out
      have hby := sk_by hM3
      refine bodyPost_ret (v := .slice (some ⟨w.heap.size, 0, none⟩) i i) (by simp [results, Tryz.results18, go_sem]) rfl ⟨w.heap.size, M, by rw [hn], by omega, ?_, sk_oxms hM3 HRK.out (by omega), ?_, below_by9 hb.out hby (Nat.le_refl _), Nat.le_refl _⟩
      · have e1 : D.map Ent9.o = l.map Ent9.o := by rw [hD.out, List.take_of_length_le (by omega)]
        rw [← e1]
        exact sort_is hM1 hM2
      · intro h hm
        obtain ⟨e1, p', q', e2, e3, e4, e5⟩ := hF.out h (Fil.mem swoE hM2.symm hm)
        exact e1.by hby (fun x hx => by rw [e2] at hx; simp at hx; rw [← hx]; show p' ≠ _; omega) (fun x hx => by rw [e3] at hx; simp at hx; rw [← hx]; show q' ≠ _; omega)
end Go.Proofs.YtpmkfkanolhocaaGreat
namespace Go.Proofs.YtpmkfkanolhocaaGreat
open Go.RowKit
set_option linter.unusedVariables false

theorem number9_any (l : List Int) (a : Option Addr) (c : Nat) (ho : Octets l) (hl : l.length ≤ 7) (w : World) (hI : Ints .u8 w a l) :
    Calls Tryz.prog 110 #[.slice a l.length c] w fun e w' => e = .returned (.int .u64 (numL l)) ∧ w' = w := by
  have HO := hid ho
  have HI := hid hI
  clear ho hI
  go_enter Tryz.func110, Tryz.ntmps110
  go_wp2_with fail
  go_loopg [3, 8] (l.length) (fun kx s3 s8 wr => wr = w ∧ ∃ (i : Nat) (n : Int), s3 = .int .u64 n ∧ s8 = .int .i64 i ∧ i ≤ l.length ∧ l.length - i ≤ kx ∧ Hid (n = numL (l.take i)))
  case atStart => exact ⟨rfl, 0, 0, rfl, rfl, by omega, by omega, rfl⟩
  case round =>
    obtain ⟨rfl, i, n, rfl, rfl, hi, hkx, hn⟩ := hrel
    by_cases hlt : i < l.length
    · have hltz : (i : Int) < (l.length : Int) := by omega
      obtain ⟨b, off, x, rfl, hc, hx⟩ := HI.out.at hlt
      obtain ⟨hx0, hx1⟩ := HO.out.get hx.out
      have hb := numL_bound7 HO.out (k := i) (by omega)
      rw [← hn.out] at hb
      have h7 : numL (l.take (i + 1)) = n * 256 + x := by rw [numL_succ hx.out, hn.out]
      have hor := or_low n x hb.1 hb.2 hx0 hx1
      have H7 := hid h7
      have HOR := hid hor
      have q0 := hb.1
      have q1 := hb.2
      clear h7 hor hb
      go_wp2_with fail
      rw [HOR.out]
      go_roundg (l.length - (i + 1))
      case measure => omega
      case rel => exact ⟨rfl, i + 1, n * 256 + x, rfl, by first | rfl | go_num, by omega, Nat.le_refl _, H7.out.symm⟩
    · have hltz : ¬ (i : Int) < (l.length : Int) := by omega
      go_wp2
      have hn' : n = numL l := by rw [hn.out, List.take_of_length_le (by omega)]
      exact bodyPost_ret (v := .int .u64 n) (by simp [results, Tryz.results110, go_sem]) rfl ⟨by rw [hn'], rfl⟩

/-- r is a place of x, if there is one -/
def Idx9 (l : List Int) (x r : Int) : Prop := decide (0 ≤ r) = l.contains x
/-- whether one is not 0 -/
def any9 (l : List Int) : Bool := l.any fun k => k != 0
def Idx0 (l : List Int) (r : Int) : Prop := decide (0 ≤ r) = any9 l
theorem index9_any (l : List Int) (x : Int) (a : Option Addr) (c : Nat) (hl : l.length ≤ 1000) (w : World) (hI : Ints .u64 w a l) :
    Calls Tryz.prog 123 #[.slice a l.length c, .int .u64 x] w fun e w' => (∃ r : Int, e = .returned (.int .i64 r) ∧ Idx9 l x r) ∧ w' = w := by
  have HI := hid hI
  clear hI
  go_enter Tryz.func123, Tryz.ntmps123
  go_wp2_with fail
  go_loopg [8] (l.length) (fun kx s8 wr => wr = w ∧ ∃ (i : Nat), s8 = .int .i64 i ∧ i ≤ l.length ∧ l.length - i ≤ kx ∧ Hid (∀ y ∈ l.take i, x ≠ y))
  case atStart => exact ⟨rfl, 0, rfl, by omega, by omega, by simp [Hid]⟩
  case round =>
    obtain ⟨rfl, i, rfl, hi, hkx, hn⟩ := hrel
    by_cases hlt : i < l.length
    · have hltz : (i : Int) < (l.length : Int) := by omega
      obtain ⟨b, off, y, rfl, hc, hy⟩ := HI.out.at hlt
      by_cases he : x = y
      · subst he
        go_wp2
        go_ret
        refine ⟨⟨i, rfl, ?_⟩, rfl⟩
        unfold Idx9
        rw [List.contains_iff_mem.2 (List.mem_of_getElem? hy.out)]
        simp
      · have heb : (x == y) = false := by simpa using he
        have HE := hid he
        clear he
        go_wp2
        go_roundg (l.length - (i + 1))
        case measure => omega
        case rel =>
          refine ⟨rfl, i + 1, by first | rfl | go_num, by omega, Nat.le_refl _, ?_⟩
          show ∀ _, _
          intro z hz
          rw [List.take_add_one, hy.out] at hz
          rcases List.mem_append.1 hz with hz | hz
          · exact hn.out z hz
          · simp at hz; rw [hz]; exact HE.out
    · have hltz : ¬ (i : Int) < (l.length : Int) := by omega
      go_wp2
      go_ret
      refine ⟨⟨-1, rfl, ?_⟩, rfl⟩
      unfold Idx9
      have h := hn.out
      rw [List.take_of_length_le (by omega)] at h
      have : l.contains x = false := by
        rw [← Bool.not_eq_true, List.contains_iff_mem]
        exact fun hm => h x hm rfl
      rw [this]; rfl
theorem contains9_any (l : List Int) (x : Int) (a : Option Addr) (c : Nat) (hl : l.length ≤ 1000) (w : World) (hI : Ints .u64 w a l) :
    Calls Tryz.prog 109 #[.slice a l.length c, .int .u64 x] w fun e w' => e = .returned (.bool (l.contains x)) ∧ w' = w := by
  have HC := hid (index9_any l x a c hl w hI)
  obtain ⟨r, hr⟩ : ∃ r, l.contains x = r := ⟨_, rfl⟩
  rw [hr]
  have HR := hid hr
  clear hI hr
  go_enter Tryz.func109, Tryz.ntmps109
  go_wp2_with fail
  refine HC.out.mono ?_
  rintro e w' ⟨⟨q, rfl, hq⟩, rfl⟩
  have HQ := hid hq
  clear hq
  go_wp2
  exact bodyPost_ret (v := .bool (decide (0 ≤ q))) (by simp [results, Tryz.results109, go_sem]) rfl ⟨by rw [show decide (0 ≤ q) = _ from HQ.out, HR.out], rfl⟩
theorem indexFunc9_any (l : List Int) (a : Option Addr) (c : Nat) (w : World) (hl : l.length ≤ 1000000) (hI : Ints .u8 w a l) :
    Calls Tryz.prog 122 #[.slice a l.length c, .func (.func 108) #[] #[]] w fun e w' => (∃ r : Int, e = .returned (.int .i64 r) ∧ Idx0 l r) ∧ w' = w := by
  have HI := hid hI
  clear hI
  go_enter Tryz.func122, Tryz.ntmps122
  go_wp2_with fail
  go_loopg [8] (l.length) (fun kx s8 wr => wr = w ∧ ∃ (i : Nat), s8 = .int .i64 i ∧ i ≤ l.length ∧ l.length - i ≤ kx ∧ Hid (any9 (l.take i) = false))
  case atStart => exact ⟨rfl, 0, rfl, by omega, by omega, rfl⟩
  case round =>
    obtain ⟨rfl, i, rfl, hi, hkx, hn⟩ := hrel
    by_cases hlt : i < l.length
    · have hltz : (i : Int) < (l.length : Int) := by omega
      obtain ⟨b, off, y, rfl, hc, hy⟩ := HI.out.at hlt
      by_cases he : y = 0
      · have heb : (y != 0) = false := by simpa using he
        have HE := hid he
        clear he
        go_wp2
        go_roundg (l.length - (i + 1))
        case measure => omega
        case rel =>
          refine ⟨rfl, i + 1, by first | rfl | go_num, by omega, Nat.le_refl _, ?_⟩
          show _ = _
          have h := hn.out
          unfold any9 at h ⊢
          rw [List.take_add_one, hy.out, HE.out]
          simp only [List.any_append, h]; rfl
      · have heb : (y != 0) = true := by simpa using he
        have HE := hid heb
        go_wp2
        go_ret
        refine ⟨⟨i, rfl, ?_⟩, rfl⟩
        unfold Idx0
        have : any9 l = true := List.any_eq_true.2 ⟨y, List.mem_of_getElem? hy.out, HE.out⟩
        rw [this]; simp
    · have hltz : ¬ (i : Int) < (l.length : Int) := by omega
      go_wp2
      go_ret
      refine ⟨⟨-1, rfl, ?_⟩, rfl⟩
      unfold Idx0
      have h := hn.out
      rw [List.take_of_length_le (by omega)] at h
      rw [h]; rfl
theorem containsFunc9_any (l : List Int) (a : Option Addr) (c : Nat) (w : World) (hl : l.length ≤ 1000000) (hI : Ints .u8 w a l) :
    Calls Tryz.prog 107 #[.slice a l.length c, .func (.func 108) #[] #[]] w fun e w' => e = .returned (.bool (any9 l)) ∧ w' = w := by
  have HC := hid (indexFunc9_any l a c w hl hI)
  obtain ⟨r, hr⟩ : ∃ r, any9 l = r := ⟨_, rfl⟩
  rw [hr]
  have HR := hid hr
  clear hI hr
  go_enter Tryz.func107, Tryz.ntmps107
  go_wp2_with fail
  refine HC.out.mono ?_
  rintro e w' ⟨⟨q, rfl, hq⟩, rfl⟩
  have HQ := hid hq
  clear hq
  go_wp2
  exact bodyPost_ret (v := .bool (decide (0 ≤ q))) (by simp [results, Tryz.results107, go_sem]) rfl ⟨by rw [show decide (0 ≤ q) = _ from HQ.out, HR.out], rfl⟩
end Go.Proofs.YtpmkfkanolhocaaGreat
namespace Go.Proofs.YtpmkfkanolhocaaGreat
open Go.RowKit
set_option linter.unusedVariables false

/-- a value meets what is asked: one of these numbers; any but 0, if there are none -/
def mt9 (o : Ox9) (vals : List Int) : Bool := if vals = [] then any9 o.v else (!o.H && vals.any (fun k => o.v == bytesL k (fld o.F).z))
theorem mt9_len {o : Ox9} {vals : List Int} (hv : vals ≠ []) (h : o.H = true ∨ o.v.length ≠ (fld o.F).z) : mt9 o vals = false := by
  unfold mt9
  rw [if_neg hv]
  rcases h with h | h
  · rw [h]; rfl
  · cases o.H
    · simp only [Bool.not_false, Bool.true_and]
      rw [List.any_eq_false]
      intro k _
      simp only [beq_iff_eq]
      intro e
      rw [e, bytesL_length] at h
      exact h rfl
    · rfl
theorem bytes_is {v : List Int} {z : Nat} {k : Int} (ho : Octets v) (hl : v.length = z) (h0 : 0 ≤ k) (h1 : k < p256 z) : (v == bytesL k z) = (k == numL v) := by
  rw [Bool.eq_iff_iff, beq_iff_eq, beq_iff_eq]
  constructor
  · intro e
    rw [e, numL_bytesL]
    exact (Int.emod_eq_of_lt h0 h1).symm
  · intro e
    rw [e, ← hl, bytesL_numL ho]
theorem mt9_num {o : Ox9} {vals : List Int} (hv : vals ≠ []) (hH : o.H = false) (hl : o.v.length = (fld o.F).z) (ho : Octets o.v) (hk : ∀ k ∈ vals, 0 ≤ k ∧ k < p256 (fld o.F).z) : mt9 o vals = vals.contains (numL o.v) := by
  unfold mt9
  rw [if_neg hv, hH]
  simp only [Bool.not_false, Bool.true_and]
  rw [Bool.eq_iff_iff, List.any_eq_true, List.contains_iff_mem]
  constructor
  · rintro ⟨k, hm, e⟩
    rw [bytes_is ho hl (hk k hm).1 (hk k hm).2, beq_iff_eq] at e
    rw [← e]; exact hm
  · intro hm
    exact ⟨_, hm, by rw [bytes_is ho hl (hk _ hm).1 (hk _ hm).2]; simp⟩
/-- what is asked, and of which field -/
def Asks9 (F : Int) (vals : List Int) : Prop := vals.length ≤ 1000 ∧ (vals ≠ [] → (0 ≤ F ∧ F < 40) ∧ (fld F).z ≤ 2 ∧ ∀ k ∈ vals, 0 ≤ k ∧ k < p256 (fld F).z)
theorem fld_box9 (w : World) (b : Int) (z : Nat) (m : Bool) (d : Int) (v : Value) : ∃ W, w.alloc (.cells #[.int .i64 b, .int .i64 z, .bool m, .int .i64 d, v] 98) = W ∧ Below w.heap.size w W ∧ BoxL W w.heap.size [.int .i64 b, .int .i64 z, .bool m, .int .i64 d, v] :=
  ⟨_, rfl, below_alloc _ _, BoxL.new _ _ _⟩
set_option maxRecDepth 100000 in
set_option maxHeartbeats 2000000 in
theorem meets_any (h : Ent9) (vals : List Int) (a : Option Addr) (c : Nat) (w : World) (hA : Asks9 h.o.F vals) (hI : EntIn w h) (hs : h.o.v.length ≤ 1000) (hV : Ints .u64 w a vals) :
    Calls Tryz.prog 94 #[h.val, .slice a vals.length c] w fun e w' => e = .returned (.bool (mt9 h.o vals)) ∧ Below w.heap.size w w' := by
  obtain ⟨⟨C, F, H, X, v, m⟩, va, vc, ma, mc⟩ := h
  simp only at hA hs
  obtain ⟨W, hW, hbW, hx⟩ := oxm_box w C F H X va v.length vc ma m.length mc
  have HW := hid hW
  have hIW := hI.below hbW
  have HI := hid hIW
  have HV := hid (hV.below hbW)
  obtain ⟨d0, d1, d2, d3, d4, d5⟩ := hx.six
  have HX := hid hx
  have HB := hid hbW
  have HA := hid hA
  have hl : vals.length ≤ 1000 := hA.1
  obtain ⟨r, hr⟩ : ∃ r, mt9 ⟨C, F, H, X, v, m⟩ vals = r := ⟨_, rfl⟩
  have HR := hid hr
  unfold Ent9.val
  simp only
  rw [hr]
  by_cases hn : vals = []
  · subst hn
    have hr2 : any9 v = r := hr
    have HC := hid (containsFunc9_any v va vc W (by omega) hIW.iv)
    rw [hr2] at HC
    clear hW hbW hI hIW hx hV hA hr hr2
    go_enter Tryz.func94, Tryz.ntmps94
    go_wp2_with fail
    rw [HW.out]
    refine HC.out.mono ?_
    rintro e w' ⟨rfl, rfl⟩
    go_wp2_with fail
    exact bodyPost_ret (v := .bool r) (by simp [results, Tryz.results94, go_sem]) rfl ⟨rfl, HB.out⟩
  · obtain ⟨⟨f0, f1⟩, fz, fk⟩ := hA.2 hn
    have hvl : ¬ vals.length = 0 := fun e => hn (List.eq_nil_of_length_eq_zero e)
    have hvz : ((vals.length : Int) == 0) = false := by simp; exact hn
    have HF := fldOf_any F W
    rw [decide_eq_true (show 0 ≤ F ∧ F < 40 from ⟨f0, f1⟩)] at HF
    have ov := hI.ov
    simp only at ov
    obtain ⟨⟨nm, fb, fz', fm, fd, fv⟩, hf⟩ : ∃ f, fld F = f := ⟨_, rfl⟩
    rw [hf] at HF fz fk
    unfold fldV at HF
    simp only at HF fz fk
    have HFF := hid HF
    have HZ := hid hf
    by_cases hg : H = false ∧ v.length = fz'
    · obtain ⟨rfl, hl'⟩ := hg
      have hr2 : vals.contains (numL v) = r := by
        rw [← hr]
        exact (mt9_num (o := ⟨C, F, false, X, v, m⟩) hn rfl (by rw [hf]; exact hl') ov (by rw [hf]; exact fk)).symm
      have HN := hid (fun W' (h' : Ints .u8 W' va v) => number9_any v va vc ov (by omega) W' h')
      have HC := hid (fun W' (h' : Ints .u64 W' a vals) => contains9_any vals (numL v) a c hl W' h')
      rw [hr2] at HC
      have hlz : ((v.length : Int) == (fz' : Int)) = true := by simp; omega
      clear hW hbW hI hIW hx hV hA hr hr2 HF hf fk f0 f1 ov hl' fz hn
      go_enter Tryz.func94, Tryz.ntmps94
      go_wp2_with fail
      rw [HW.out]
      refine HFF.out.mono ?_
      rintro e w1 ⟨v1, rfl, hU, hb1⟩
      obtain ⟨a1, c1, rfl, _⟩ := hU
      obtain ⟨W2, hW2, hbW2, hbox⟩ := fld_box9 w1 fb fz' fm fd (.slice a1 fv.length c1)
      have HW2 := hid hW2
      have hxx := (HX.out.below hb1).below hbW2
      obtain ⟨g0, g1, g2, g3, g4, g5⟩ := hxx.six
      obtain ⟨k0, k1, k2, k3, k4⟩ := hbox.five
      have HB1 := hid hb1
      have HBW2 := hid hbW2
      clear hW2 hxx hbox hb1 hbW2
      go_upto_region 4 with fail
      rw [HW2.out]
      go_wp2_with fail
      refine (HN.out W2 ((HI.out.iv.below HB1.out).below HBW2.out)).mono ?_
      rintro e w4 ⟨rfl, rfl⟩
      go_wp2_with fail
      refine (HC.out w4 ((HV.out.below HB1.out).below HBW2.out)).mono ?_
      rintro e w5 ⟨rfl, rfl⟩
      go_wp2_with fail
      exact bodyPost_ret (v := .bool r) (by simp [results, Tryz.results94, go_sem]) rfl ⟨rfl, below_on (below_on HB.out HB1.out) HBW2.out⟩
    · have hr2 : false = r := by rw [← hr]; exact (mt9_len (o := ⟨C, F, H, X, v, m⟩) hn (by rw [hf]; by_cases hH : H = true; exact .inl hH; right; intro e; exact hg ⟨by simpa using hH, e⟩)).symm
      subst hr2
      by_cases hH : H = true
      · subst hH
        clear hW hbW hI hIW hx hV hA hr HF hf fk f0 f1 ov fz hn hg
        go_enter Tryz.func94, Tryz.ntmps94
        go_wp2_with fail
        rw [HW.out]
        refine HFF.out.mono ?_
        rintro e w1 ⟨v1, rfl, hU, hb1⟩
        obtain ⟨a1, c1, rfl, _⟩ := hU
        obtain ⟨W2, hW2, hbW2, hbox⟩ := fld_box9 w1 fb fz' fm fd (.slice a1 fv.length c1)
        have HW2 := hid hW2
        have hxx := (HX.out.below hb1).below hbW2
        obtain ⟨g0, g1, g2, g3, g4, g5⟩ := hxx.six
        obtain ⟨k0, k1, k2, k3, k4⟩ := hbox.five
        have HB1 := hid hb1
        have HBW2 := hid hbW2
        clear hW2 hxx hbox hb1 hbW2
        go_upto_region 4 with fail
        rw [HW2.out]
        go_wp2_with fail
        exact bodyPost_ret (v := .bool false) (by simp [results, Tryz.results94, go_sem]) rfl ⟨rfl, below_on (below_on HB.out HB1.out) HBW2.out⟩
      · obtain rfl : H = false := by simpa using hH
        have hlz : ((v.length : Int) == (fz' : Int)) = false := by
          rw [beq_eq_false_iff_ne]
          intro e
          exact hg ⟨rfl, by omega⟩
        clear hW hbW hI hIW hx hV hA hr HF hf fk f0 f1 ov fz hn hg hH
        go_enter Tryz.func94, Tryz.ntmps94
        go_wp2_with fail
        rw [HW.out]
        refine HFF.out.mono ?_
        rintro e w1 ⟨v1, rfl, hU, hb1⟩
        obtain ⟨a1, c1, rfl, _⟩ := hU
        obtain ⟨W2, hW2, hbW2, hbox⟩ := fld_box9 w1 fb fz' fm fd (.slice a1 fv.length c1)
        have HW2 := hid hW2
        have hxx := (HX.out.below hb1).below hbW2
        obtain ⟨g0, g1, g2, g3, g4, g5⟩ := hxx.six
        obtain ⟨k0, k1, k2, k3, k4⟩ := hbox.five
        have HB1 := hid hb1
        have HBW2 := hid hbW2
        clear hW2 hxx hbox hb1 hbW2
        go_upto_region 4 with fail
        rw [HW2.out]
        go_wp2_with fail
        exact bodyPost_ret (v := .bool false) (by simp [results, Tryz.results94, go_sem]) rfl ⟨rfl, below_on (below_on HB.out HB1.out) HBW2.out⟩
end Go.Proofs.YtpmkfkanolhocaaGreat
namespace Go.Proofs.YtpmkfkanolhocaaGreat
open Go.RowKit
set_option linter.unusedVariables false

theorem asks_table {n : Int} (h : 0 ≤ n ∧ n < 40) (hd : 0 ≤ (fld n).d) : Asks9 (fld n).d (fld n).v := by
  unfold Asks9
  revert hd
  rcases forty h with rfl | rfl | rfl | rfl | rfl | rfl | rfl | rfl | rfl | rfl | rfl | rfl | rfl | rfl | rfl | rfl | rfl | rfl | rfl | rfl | rfl | rfl | rfl | rfl | rfl | rfl | rfl | rfl | rfl | rfl | rfl | rfl | rfl | rfl | rfl | rfl | rfl | rfl | rfl | rfl <;> decide
theorem sat_mt {d : Int} {vals : List Int} {x : Ox9} (hC : x.C = 32768) (hF : x.F = d) : sat9 d vals x = mt9 x vals := by
  unfold sat9 mt9 any9
  rw [hC, hF]
  simp
theorem sat_no {d : Int} {vals : List Int} {x : Ox9} (h : x.C ≠ 32768 ∨ x.F ≠ d) : sat9 d vals x = false := by
  unfold sat9
  rcases h with h | h <;> simp [h]
/-- a list of values that came in, or of one's own -/
structure L9 (w : World) (a : Option Addr) (l : List Ent9) : Prop where
  ox : Oxms w a l
  ent : ∀ h ∈ l, EntIn w h
  few : ∀ h ∈ l, h.o.v.length ≤ 1000 ∧ h.o.m.length ≤ 1000
  len : l.length ≤ 1000
theorem L9.below {w w' : World} {a : Option Addr} {l : List Ent9} (h : L9 w a l) (hb : Below w.heap.size w w') : L9 w' a l :=
  ⟨h.ox.below hb, fun x hx => (h.ent x hx).below hb, h.few, h.len⟩
theorem L9.take {w : World} {a : Option Addr} {l : List Ent9} (h : L9 w a l) (j : Nat) : L9 w a (l.take j) :=
  ⟨h.ox.take j, fun x hx => h.ent x (List.mem_of_mem_take hx), fun x hx => h.few x (List.mem_of_mem_take hx), by rw [List.length_take]; have := h.len; omega⟩
set_option maxRecDepth 100000 in
set_option maxHeartbeats 2000000 in
theorem met_yes (l : List Ent9) (o : Ent9) (a : Option Addr) (c : Nat) (w : World) (hA : asks9 o.o = false) :
    Calls Tryz.prog 74 #[.slice a l.length c, o.val] w fun e w' => e = .returned (.bool true) ∧ Below w.heap.size w w' := by
  obtain ⟨⟨C, F, H, X, v, m⟩, va, vc, ma, mc⟩ := o
  obtain ⟨W, hW, hbW, hx⟩ := oxm_box w C F H X va v.length vc ma m.length mc
  have HW := hid hW
  obtain ⟨d0, d1, d2, d3, d4, d5⟩ := hx.six
  have HX := hid hx
  have HB := hid hbW
  have HF := fldOf_any F W
  simp only [asks9] at hA
  obtain ⟨ok, hok⟩ : ∃ ok, decide (0 ≤ F ∧ F < 40) = ok := ⟨_, rfl⟩
  rw [hok] at HF hA
  obtain ⟨⟨nm, fb, fz', fm, fd, fv⟩, hf⟩ : ∃ f, fld F = f := ⟨_, rfl⟩
  rw [hf] at HF hA
  unfold fldV at HF
  simp only at HF hA
  have HFF := hid HF
  have ways : (C == 32768) = false ∨ ((C == 32768) = true ∧ ok = false) ∨ ((C == 32768) = true ∧ ok = true ∧ fd < 0) := by
    cases hc : (C == 32768)
    · exact .inl rfl
    · rw [hc] at hA
      cases ok
      · exact .inr (.inl ⟨rfl, rfl⟩)
      · refine .inr (.inr ⟨rfl, rfl, ?_⟩)
        simpa using hA
  unfold Ent9.val
  simp only
  rcases ways with hc | ⟨hc, rfl⟩ | ⟨hc, rfl, hd⟩
  · have hc1 : (C != 32768) = true := by simpa using hc
    clear hW hbW hx hA HF hf hok hc
    go_enter Tryz.func74, Tryz.ntmps74
    go_wp2_with fail
    rw [HW.out]
    go_step3
    go_wp2_with fail
    refine HFF.out.mono ?_
    rintro e w1 ⟨v1, rfl, hU, hb1⟩
    obtain ⟨a1, c1, rfl, _⟩ := hU
    obtain ⟨W2, hW2, hbW2, hbox⟩ := fld_box9 w1 fb fz' fm fd (.slice a1 fv.length c1)
    have HW2 := hid hW2
    have hxx := (HX.out.below hb1).below hbW2
    obtain ⟨g0, g1, g2, g3, g4, g5⟩ := hxx.six
    obtain ⟨k0, k1, k2, k3, k4⟩ := hbox.five
    have HB1 := hid hb1
    have HBW2 := hid hbW2
    clear hW2 hxx hbox hb1 hbW2
    go_upto_region 2 with fail
    rw [HW2.out]
    go_wp2_with fail
    try rw [Exit.noGoto_ret]
    exact bodyPost_ret (v := .bool true) (by simp [results, Tryz.results74, go_sem]) rfl ⟨rfl, below_on (below_on HB.out HB1.out) HBW2.out⟩
  · have hc1 : (C != 32768) = false := by simpa using hc
    clear hW hbW hx hA HF hf hok hc
    go_enter Tryz.func74, Tryz.ntmps74
    go_wp2_with fail
    rw [HW.out]
    go_step3
    go_wp2_with fail
    refine HFF.out.mono ?_
    rintro e w1 ⟨v1, rfl, hU, hb1⟩
    obtain ⟨a1, c1, rfl, _⟩ := hU
    obtain ⟨W2, hW2, hbW2, hbox⟩ := fld_box9 w1 fb fz' fm fd (.slice a1 fv.length c1)
    have HW2 := hid hW2
    have hxx := (HX.out.below hb1).below hbW2
    obtain ⟨g0, g1, g2, g3, g4, g5⟩ := hxx.six
    obtain ⟨k0, k1, k2, k3, k4⟩ := hbox.five
    have HB1 := hid hb1
    have HBW2 := hid hbW2
    clear hW2 hxx hbox hb1 hbW2
    go_upto_region 2 with fail
    rw [HW2.out]
    go_wp2_with fail
    try rw [Exit.noGoto_ret]
    exact bodyPost_ret (v := .bool true) (by simp [results, Tryz.results74, go_sem]) rfl ⟨rfl, below_on (below_on HB.out HB1.out) HBW2.out⟩
  · have hc1 : (C != 32768) = false := by simpa using hc
    clear hW hbW hx hA HF hf hok hc
    go_enter Tryz.func74, Tryz.ntmps74
    go_wp2_with fail
    rw [HW.out]
    go_step3
    go_wp2_with fail
    refine HFF.out.mono ?_
    rintro e w1 ⟨v1, rfl, hU, hb1⟩
    obtain ⟨a1, c1, rfl, _⟩ := hU
    obtain ⟨W2, hW2, hbW2, hbox⟩ := fld_box9 w1 fb fz' fm fd (.slice a1 fv.length c1)
    have HW2 := hid hW2
    have hxx := (HX.out.below hb1).below hbW2
    obtain ⟨g0, g1, g2, g3, g4, g5⟩ := hxx.six
    obtain ⟨k0, k1, k2, k3, k4⟩ := hbox.five
    have HB1 := hid hb1
    have HBW2 := hid hbW2
    clear hW2 hxx hbox hb1 hbW2
    go_upto_region 2 with fail
    rw [HW2.out]
    go_wp2_with fail
    try rw [Exit.noGoto_ret]
    exact bodyPost_ret (v := .bool true) (by simp [results, Tryz.results74, go_sem]) rfl ⟨rfl, below_on (below_on HB.out HB1.out) HBW2.out⟩

set_option maxRecDepth 100000 in
set_option maxHeartbeats 2000000 in
theorem met_loop (l : List Ent9) (o : Ent9) (a : Option Addr) (c : Nat) (w : World) (hA : asks9 o.o = true) (hL : L9 w a l) :
    Calls Tryz.prog 74 #[.slice a l.length c, o.val] w fun e w' => e = .returned (.bool ((l.map Ent9.o).any (sat9 (fld o.o.F).d (fld o.o.F).v))) ∧ Below w.heap.size w w' := by
  obtain ⟨⟨C, F, H, X, v, m⟩, va, vc, ma, mc⟩ := o
  obtain ⟨W, hW, hbW, hx⟩ := oxm_box w C F H X va v.length vc ma m.length mc
  have HW := hid hW
  obtain ⟨d0, d1, d2, d3, d4, d5⟩ := hx.six
  have HX := hid hx
  have HB := hid hbW
  have HL := hid (hL.below hbW)
  have HF := fldOf_any F W
  simp only [asks9, Bool.and_eq_true, beq_iff_eq, decide_eq_true_eq] at hA
  obtain ⟨rfl, hr, hd⟩ := hA
  rw [decide_eq_true hr] at HF
  have HAT := asks_table hr hd
  simp only
  obtain ⟨⟨nm, fb, fz', fm, fd, fv⟩, hf⟩ : ∃ f, fld F = f := ⟨_, rfl⟩
  rw [hf] at HF hd HAT ⊢
  unfold fldV at HF
  simp only at HF hd HAT ⊢
  have HFF := hid HF
  have HA := hid HAT
  obtain ⟨r, hrr⟩ : ∃ r, (l.map Ent9.o).any (sat9 fd fv) = r := ⟨_, rfl⟩
  rw [hrr]
  have HR := hid hrr
  have hll : l.length ≤ 1000 := hL.len
  unfold Ent9.val
  simp only
  have hdn : ¬ fd < 0 := by omega
  clear hW hbW hx HF hf hr hrr HAT hL hd
  go_enter Tryz.func74, Tryz.ntmps74
  go_wp2_with fail
  rw [HW.out]
  go_step3
  go_wp2_with fail
  refine HFF.out.mono ?_
  rintro e w1 ⟨v1, rfl, hU, hb1⟩
  obtain ⟨a1, c1, rfl, hU⟩ := hU
  obtain ⟨W2, hW2, hbW2, hbox⟩ := fld_box9 w1 fb fz' fm fd (.slice a1 fv.length c1)
  have HW2 := hid hW2
  have hxx := (HX.out.below hb1).below hbW2
  have HXX := hid hxx
  have HBOX := hid hbox
  have HU := hid (hU.below hbW2)
  have HL2 := hid ((HL.out.below hb1).below hbW2)
  obtain ⟨g0, g1, g2, g3, g4, g5⟩ := hxx.six
  obtain ⟨k0, k1, k2, k3, k4⟩ := hbox.five
  have HB2 := hid (below_on (below_on HB.out hb1) hbW2)
  clear hW2 hxx hbox hb1 hbW2 hU HL
  go_upto_region 2 with fail
  rw [HW2.out]
  go_wp2_with fail
  go_step3
  go_wp2_with fail
  go_loopg [7, 30] (l.length) (fun kx s7 s30 wr => ∃ (i : Nat), s7 = .bool false ∧ s30 = .int .i64 i ∧ i ≤ l.length ∧ l.length - i ≤ kx ∧ Hid (((l.map Ent9.o).take i).any (sat9 fd fv) = false) ∧ Hid (Below W2.heap.size W2 wr))
  case atStart => exact ⟨0, rfl, rfl, by omega, by omega, rfl, Below.refl _ _⟩
  case round =>
    clear g0 g1 g2 g3 g4 g5 k0 k1 k2 k3 k4
    obtain ⟨i, rfl, rfl, hi, hkx, hn, hb⟩ := hrel
    by_cases hlt : i < l.length
    · have hltz : (i : Int) < (l.length : Int) := by omega
      have hl := HL2.out.below hb.out
      obtain ⟨b, off, rfl, c0, c1', c2, c3, c4, c5⟩ := hl.ox i hlt
      have hE := hl.ent l[i] (List.getElem_mem hlt)
      have hsz := hl.few l[i] (List.getElem_mem hlt)
      have hget : (l.map Ent9.o)[i]? = some l[i].o := by simp [hlt]
      generalize l[i] = h at c0 c1' c2 c3 c4 c5 hE hsz hget
      obtain ⟨W3, hW3, hbW3, hx3⟩ := oxm_box wr h.o.C h.o.F h.o.H h.o.X h.va h.o.v.length h.vc h.ma h.o.m.length h.mc
      have HW3 := hid hW3
      have HX3 := hid hx3
      obtain ⟨x0, x1, x2, x3, x4, x5⟩ := hx3.six
      have hb5 := (HBOX.out.below hb.out).below hbW3
      obtain ⟨k0, k1, k2, k3, k4⟩ := hb5.five
      have HE := hid (And.intro (hE.below hbW3) (And.intro hsz hget))
      have HB3 := hid (below_on hb.out hbW3)
      have HNX : Hid (∀ s : Bool, sat9 fd fv h.o = s → ((l.map Ent9.o).take (i + 1)).any (sat9 fd fv) = s) := by
        show _
        intro s hs
        have h0 := hn.out
        rw [List.take_add_one, hget]
        simp [h0, hs]
      clear hl hE hsz hget hW3 hx3 hb5 hbW3
      go_upto_region 8 with fail
      rw [HW3.out]
      by_cases hC : h.o.C = 32768
      · have hc1 : (h.o.C != 32768) = false := by simp [hC]
        by_cases hF : h.o.F = fd
        · have hf1 : (h.o.F != fd) = false := by simp [hF]
          have hS := sat_mt (vals := fv) hC hF
          have HM := hid (meets_any h fv a1 c1 W3 (by rw [hF]; exact HA.out) HE.out.1 HE.out.2.1.1 (HU.out.below HB3.out))
          unfold Ent9.val at HM
          rw [← hS] at HM
          clear hC hF hS
          cases hs : sat9 fd fv h.o
          · rw [hs] at HM
            have HS := hid hs
            clear hs
            go_wp2_with fail
            refine HM.out.mono ?_
            rintro e w4 ⟨rfl, hb4⟩
            have HB4 := hid (below_on HB3.out hb4)
            clear hb4
            go_wp2_with fail
            go_roundg (l.length - (i + 1))
            case measure => omega
            case rel => exact ⟨i + 1, rfl, by first | rfl | go_num, by omega, Nat.le_refl _, HNX.out false HS.out, HB4.out⟩
          · rw [hs] at HM
            have HS := hid hs
            clear hs
            go_wp2_with fail
            refine HM.out.mono ?_
            rintro e w4 ⟨rfl, hb4⟩
            have HB4 := hid (below_on HB3.out hb4)
            clear hb4
            go_wp2_with fail
            try rw [Exit.noGoto_ret]
            have hr : r = true := by
              rw [← HR.out]
              obtain ⟨z, hz, hz2⟩ := List.any_eq_true.1 (HNX.out true HS.out)
              exact List.any_eq_true.2 ⟨z, List.mem_of_mem_take hz, hz2⟩
            exact bodyPost_ret (v := .bool true) (by simp [results, Tryz.results74, go_sem]) rfl ⟨by rw [hr], below_on HB2.out HB4.out⟩
        · have hf1 : (h.o.F != fd) = true := by simpa using hF
          have hS := sat_no (vals := fv) (x := h.o) (d := fd) (.inr hF)
          have HS := hid hS
          clear hC hF hS
          go_wp2_with fail
          go_roundg (l.length - (i + 1))
          case measure => omega
          case rel => exact ⟨i + 1, rfl, by first | rfl | go_num, by omega, Nat.le_refl _, HNX.out false HS.out, HB3.out⟩
      · have hc1 : (h.o.C != 32768) = true := by simpa using hC
        have hS := sat_no (vals := fv) (x := h.o) (d := fd) (.inl hC)
        have HS := hid hS
        clear hC hS
        go_wp2_with fail
        go_roundg (l.length - (i + 1))
        case measure => omega
        case rel => exact ⟨i + 1, rfl, by first | rfl | go_num, by omega, Nat.le_refl _, HNX.out false HS.out, HB3.out⟩
    · have hltz : ¬ (i : Int) < (l.length : Int) := by omega
      go_wp2_with fail
      try rw [Exit.noGoto_ret]
      have hr : r = false := by
        rw [← HR.out]
        have h0 := hn.out
        rwa [List.take_of_length_le (by rw [List.length_map]; omega)] at h0
      exact bodyPost_ret (v := .bool false) (by simp [results, Tryz.results74, go_sem]) rfl ⟨by rw [hr], below_on HB2.out hb.out⟩
theorem met_any (l : List Ent9) (o : Ent9) (a : Option Addr) (c : Nat) (w : World) (hL : L9 w a l) :
    Calls Tryz.prog 74 #[.slice a l.length c, o.val] w fun e w' => e = .returned (.bool (met9 (l.map Ent9.o) o.o)) ∧ Below w.heap.size w w' := by
  unfold met9
  cases h : asks9 o.o
  · exact met_yes l o a c w h
  · simp only [Bool.not_true, Bool.false_or]
    exact met_loop l o a c w h hL
end Go.Proofs.YtpmkfkanolhocaaGreat
namespace Go.Proofs.YtpmkfkanolhocaaGreat
open Go.RowKit Go.Maps
set_option linter.unusedVariables false
set_option maxRecDepth 100000

/-- are two keys one? -/
noncomputable def litEq (a b : Lit) : Bool := @decide (a = b) (Classical.propDecidable _)
theorem litEq_iff {a b : Lit} : litEq a b = true ↔ a = b := by unfold litEq; exact @decide_eq_true_iff _ (Classical.propDecidable _)
theorem litEq_self (a : Lit) : litEq a a = true := litEq_iff.2 rfl
theorem litEq_not {a b : Lit} (h : ¬ a = b) : litEq a b = false := by
  cases e : litEq a b
  · rfl
  · exact absurd (litEq_iff.1 e) h
theorem zero_bool9 (w : World) : (zeroValue 4).run Tryz.prog w = .ok (.bool false) w := by kernel_rfl
/-- block b is a set of at most n keys: S tells which -/
def Set9 (w : World) (k : TypeId) (b n : Nat) (S : Lit → Bool) : Prop :=
  ∃ D : DataW Unit, w.ownsMap Tryz.prog k (plainElem Tryz.prog 4) b n D ∧ IsMap D ∧ ∀ kl, D.atKey kl (.lit (.bool false)) = .lit (.bool (S kl))
theorem plain_bool_inv {v : Value} {z : DataW Unit × List MemPlace} (h : plainElem Tryz.prog 4 v = some z) : ∃ x, v = .bool x ∧ z = (.lit (.bool x), []) := by
  unfold plainElem at h
  rw [Tryz.underlying4] at h
  cases v <;> simp at h
  exact ⟨_, rfl, h.symm⟩
theorem Set9.made (w : World) (k : TypeId) : Set9 (w.alloc (.map #[] 0)) k w.heap.size 0 (fun _ => false) :=
  ⟨_, World.ownsMap_made w _ k _, ⟨_, rfl⟩, fun _ => rfl⟩
theorem Set9.below {w w' : World} {k : TypeId} {b n : Nat} {S : Lit → Bool} (h : Set9 w k b n S) (hb : Below w.heap.size w w') : Set9 w' k b n S := by
  obtain ⟨D, h1, h2, h3⟩ := h
  exact ⟨D, h1.kept (below_by_none hb) (by simp), h2, h3⟩
theorem Set9.by {w w' : World} {k : TypeId} {b n g : Nat} {S : Lit → Bool} (h : Set9 w k b n S) (hb : w.grownBy w' (some g)) (hne : b ≠ g) : Set9 w' k b n S := by
  obtain ⟨D, h1, h2, h3⟩ := h
  exact ⟨D, h1.kept hb (by simpa using hne), h2, h3⟩
theorem Set9.lt {w : World} {k : TypeId} {b n : Nat} {S : Lit → Bool} (h : Set9 w k b n S) : b < w.heap.size := by
  obtain ⟨D, h1, _⟩ := h
  exact h1.lt
section
variable {w : World} {k t : TypeId} {b n : Nat} {S : Lit → Bool}
theorem Set9.look (h : Set9 w k b n S) (K : Keyed Tryz.prog k) (ht : Tryz.prog.underlying t = some (.map k 4)) {key : Value} {kl : Lit} (hkey : keyOf Tryz.prog k key = some kl) :
    (Instr.lookup t (.map (some b)) key false).run Tryz.prog w = .ok (.bool (S kl)) w := by
  obtain ⟨D, h1, h2, h3⟩ := h
  obtain ⟨v, ps, hr, hv⟩ := h1.lookup K ht (zero_bool9 w) (plainElem_bool Tryz.underlying4 false) hkey
  obtain ⟨x, rfl, hx⟩ := plain_bool_inv hv
  rw [h3] at hx
  simp at hx
  rw [hr, ← hx.1]
theorem Set9.put (h : Set9 w k b n S) (K : Keyed Tryz.prog k) (ht : Tryz.prog.underlying t = some (.map k 4)) (hn : n < 100000) {key : Value} {kl : Lit} (hkey : keyOf Tryz.prog k key = some kl) :
    ∃ w', (Instr.mapUpdate t (.map (some b)) key (.bool true)).run Tryz.prog w = .ok () w' ∧ Set9 w' k b (n + 1) (fun x => litEq x kl || S x) ∧ w.grownBy w' (some b) := by
  obtain ⟨D, h1, h2, h3⟩ := h
  obtain ⟨w', hr, ho, hg⟩ := h1.update K ht (by unfold maxLen; omega) hkey (plainElem_bool Tryz.underlying4 true)
  refine ⟨w', hr, ⟨_, ho, h2.put _ _, fun x => ?_⟩, hg⟩
  show _ = DataW.lit (.bool (litEq x kl || S x))
  by_cases e : x = kl
  · subst e
    rw [atKey_put_same h2 (K.key hkey), litEq_self]
    rfl
  · rw [atKey_put_other e, h3, litEq_not e]
    rfl
variable {ops : Array Oper} {rest : List Oper} {o : Oper} {a : Act} {Q : Exit → Act → World → Prop}
theorem wp_look9 (hg : o.guard = none) (m x : Operand) (hop : o.op = Op.lookup t m x false) (K : Keyed Tryz.prog k) (ht : Tryz.prog.underlying t = some (.map k 4)) (hm : a.eval m = .map (some b)) (hs : Set9 w k b n S) (key : Value) (kl : Lit) (hx : a.eval x = key) (hkey : keyOf Tryz.prog k key = some kl)
    (hK : wpList Tryz.prog ops Q rest (a.put o.dst (.bool (S kl))) w) : wpList Tryz.prog ops Q (o :: rest) a w := by
  refine wpList_plain hg fun K' hK' => ?_
  unfold Oper.wp
  simp [execOp, hop, hm, hx, hs.look K ht hkey, Result.andThen]
  exact hK' _ _ hK
theorem wp_put9 (hg : o.guard = none) (m x v : Operand) (hop : o.op = Op.mapUpdate t m x v) (hv : a.eval v = .bool true) (K : Keyed Tryz.prog k) (ht : Tryz.prog.underlying t = some (.map k 4)) (hm : a.eval m = .map (some b)) (hs : Set9 w k b n S) (hn : n < 100000) (key : Value) (kl : Lit) (hx : a.eval x = key) (hkey : keyOf Tryz.prog k key = some kl)
    (hK : ∀ w', Set9 w' k b (n + 1) (fun x => litEq x kl || S x) → w.grownBy w' (some b) → wpList Tryz.prog ops Q rest (a.put o.dst undef) w') : wpList Tryz.prog ops Q (o :: rest) a w := by
  refine wpList_plain hg fun K' hK' => ?_
  obtain ⟨w', hr, r1, r2⟩ := hs.put K ht hn hkey
  unfold Oper.wp
  simp [execOp, hop, hm, hx, hv, hr, Result.andThen]
  exact hK' _ _ (hK w' r1 r2)
end

/-! ### the keys -/
theorem intKeyed9 : Keyed Tryz.prog 3 := int_keyed Tryz.underlying3
theorem intKey9 {n : Int} (h : -9223372036854775808 ≤ n ∧ n ≤ 9223372036854775807) : keyOf Tryz.prog 3 (.int .i64 n) = some (.int .i64 n) :=
  keyOf_int_mk Tryz.underlying3 (by simp [Lit.wf, IntKind.min, IntKind.max, IntKind.bits, IntKind.signed]; omega)
theorem laidOut9 : laidOutB Tryz.prog = true := by kernel_rfl
theorem wideName9 : (match Tryz.prog.underlying 92 with | some (.array _ _) | some (.struct _) => true | _ => false) = true := by rw [Tryz.underlying92]
theorem nameKeyed9 : Keyed Tryz.prog 92 := Keyed.of_law (deep_law_laid laidOut9 (m := 2) (by omega) (of_decide_eq_true (by kernel_rfl)) (by kernel_rfl) wideName9)
def nameV (C F X : Int) : Value := .agg #[.int .i64 C, .int .i64 F, .int .u64 X]
theorem nameKey9 {C F X : Int} (hC : -9223372036854775808 ≤ C ∧ C ≤ 9223372036854775807) (hF : -9223372036854775808 ≤ F ∧ F ≤ 9223372036854775807) (hX : 0 ≤ X ∧ X ≤ 18446744073709551615) :
    ∃ kl, keyOf Tryz.prog 92 (nameV C F X) = some kl := by
  have k1 : Tryz.prog.keyType 92 = true := by kernel_rfl
  have c3 : Tryz.prog.cellsOf 92 = 3 := by kernel_rfl
  have ci : Tryz.prog.cellsOf 3 = 1 := by kernel_rfl
  have cu : Tryz.prog.cellsOf 30 = 1 := by kernel_rfl
  have f1 : (nameV C F X).formed Tryz.prog 92 = true := by simp [nameV, Value.formed, Tryz.underlying92, c3]
  have hw1 : (Lit.int .i64 C).wf = true := by simp [Lit.wf, IntKind.min, IntKind.max, IntKind.bits, IntKind.signed]; omega
  have hw2 : (Lit.int .i64 F).wf = true := by simp [Lit.wf, IntKind.min, IntKind.max, IntKind.bits, IntKind.signed]; omega
  have hw3 : (Lit.int .u64 X).wf = true := by simp [Lit.wf, IntKind.min, IntKind.max, IntKind.bits, IntKind.signed]; omega
  obtain ⟨d, hd⟩ : ∃ d, Tryz.prog.types.size = d + 1 := ⟨Tryz.prog.types.size - 1, by have : 0 < Tryz.prog.types.size := of_decide_eq_true (by kernel_rfl); omega⟩
  have hk : Tryz.prog.keyLits (Tryz.prog.types.size + 1) 92 (nameV C F X).cells.toList = some [.int .i64 C, .int .i64 F, .int .u64 X] := by
    rw [hd]
    simp [Program.keyLits, nameV, Value.cells, Tryz.underlying92, Tryz.underlying3, Tryz.underlying30, c3, ci, cu, hw1, hw2, hw3]
  refine ⟨.string (keyBytes [.int .i64 C, .int .i64 F, .int .u64 X]), ?_⟩
  unfold keyOf
  rw [Tryz.underlying92]
  simp only [k1, f1, Bool.and_self, if_true, hk, Option.map_some]
/-- the key of a value -/
noncomputable def nameL (o : Ox9) : Lit := (keyOf Tryz.prog 92 (nameV o.C o.F o.X)).getD (.bool false)
def InR (o : Ox9) : Prop := (-9223372036854775808 ≤ o.C ∧ o.C ≤ 9223372036854775807) ∧ (-9223372036854775808 ≤ o.F ∧ o.F ≤ 9223372036854775807) ∧ 0 ≤ o.X ∧ o.X ≤ 18446744073709551615
theorem nameL_is {o : Ox9} (h : InR o) : keyOf Tryz.prog 92 (nameV o.C o.F o.X) = some (nameL o) := by
  obtain ⟨kl, hk⟩ := nameKey9 h.1 h.2.1 h.2.2
  unfold nameL
  rw [hk]; rfl
theorem nameL_eq {o p : Ox9} (h : InR o) (k : InR p) : litEq (nameL o) (nameL p) = alike9 o p := by
  rw [Bool.eq_iff_iff, litEq_iff, alike_iff9]
  constructor
  · intro e
    have := nameKeyed9.inj (nameL_is h) (e ▸ nameL_is k)
    unfold nameV at this
    simp at this
    exact this
  · rintro ⟨e1, e2, e3⟩
    unfold nameL
    rw [e1, e2, e3]
end Go.Proofs.YtpmkfkanolhocaaGreat
namespace Go.Proofs.YtpmkfkanolhocaaGreat
open Go.RowKit Go.Maps
set_option linter.unusedVariables false

theorem L9.over {w w' : World} {a : Option Addr} {l : List Ent9} (h : L9 w a l) (hb : Below w.heap.size w w') : L9 w' a l := h.below hb
theorem EntIn.inR {w : World} {h : Ent9} (e : EntIn w h) : InR h.o := ⟨e.c, e.f, e.x⟩
theorem chk_step {L : List Ox9} {i : Nat} {o : Ox9} (h : L[i]? = some o) : chk9 (L.take i) (L.drop i) = if twice9 (L.take i) o then ((i : Int), 1035) else if met9 (L.take i) o = false then ((i : Int), 1034) else chk9 (L.take (i + 1)) (L.drop (i + 1)) := by
  obtain ⟨hi, rfl⟩ := List.getElem?_eq_some_iff.1 h
  have e : L.drop i = L[i] :: L.drop (i + 1) := List.drop_eq_getElem_cons hi
  have e2 : L.take (i + 1) = L.take i ++ [L[i]] := by rw [List.take_add_one, h]; rfl
  rw [e, chk9, e2]
  have : (L.take i).length = i := by rw [List.length_take]; omega
  rw [this]
theorem twice_more {L : List Ox9} {i : Nat} {o x : Ox9} (h : L[i]? = some o) : twice9 (L.take (i + 1)) x = (alike9 o x || twice9 (L.take i) x) := by
  unfold twice9
  rw [List.take_add_one, h]
  simp only [Option.toList_some, List.any_append, List.any_cons, List.any_nil, Bool.or_false]
  rw [Bool.or_comm]
theorem name_box9 (w : World) (C F X : Int) : ∃ W, w.alloc (.cells #[.int .i64 C, .int .i64 F, .int .u64 X] 92) = W ∧ Below w.heap.size w W ∧ BoxL W w.heap.size [.int .i64 C, .int .i64 F, .int .u64 X] :=
  ⟨_, rfl, below_alloc _ _, BoxL.new _ _ _⟩
theorem BoxL.three {w : World} {b : Nat} {v0 v1 v2 : Value} (h : BoxL w b [v0, v1, v2]) : w.cell? ⟨b, 0, none⟩ = some v0 ∧ w.cell? ⟨b, 1, none⟩ = some v1 ∧ w.cell? ⟨b, 2, none⟩ = some v2 :=
  ⟨h.cell 0 _ rfl, h.cell 1 _ rfl, h.cell 2 _ rfl⟩
theorem makeMap9 (w : World) : (Instr.makeMap 90 none).run Tryz.prog w = .ok (.map (some w.heap.size)) (w.alloc (.map #[] 0)) := by kernel_rfl
/-- what Check tells -/
def ckV (p : Int × Int) : Value := .tuple #[.int .i64 p.1, .int .i64 p.2]
set_option maxRecDepth 100000 in
set_option maxHeartbeats 2000000 in
theorem check_any9 (l : List Ent9) (a : Option Addr) (c : Nat) (w : World) (hL : L9 w a l) (hlc : l.length ≤ c) :
    Calls Tryz.prog 50 #[.slice a l.length c] w fun e w' => e = .returned (ckV (check9 (l.map Ent9.o))) ∧ Below w.heap.size w w' := by
  obtain ⟨⟨p, q⟩, hr⟩ : ∃ r, check9 (l.map Ent9.o) = r := ⟨_, rfl⟩
  rw [hr]
  have HR := hid hr
  have HL := hid hL
  have hll : l.length ≤ 1000 := hL.len
  have hM := Set9.made w 92
  have HM := hid hM
  have HB := hid (below_alloc w (.map #[] 0))
  obtain ⟨W, hW⟩ : ∃ W, w.alloc (.map #[] 0) = W := ⟨_, rfl⟩
  rw [hW] at HM HB
  have HW := hid hW
  have hmix : Tryz.prog.follows .mixedOrders = true := by kernel_rfl
  have mk := fun w => makeMap9 w
  unfold ckV
  clear hr hL hM hW
  go_enter Tryz.func50, Tryz.ntmps50
  go_wp2_with fail
  go_step3
  go_wp2_with fail
  rw [HW.out]
  go_step3
  go_wp2_with fail
  go_loopg [5, 6, 13] (l.length) (fun kx s5 s6 s13 wr => ∃ (i n : Nat) (S : Lit → Bool), s5 = .int .i64 0 ∧ s6 = .int .i64 0 ∧ s13 = .int .i64 i ∧ i ≤ l.length ∧ l.length - i ≤ kx ∧ Hid (chk9 ((l.map Ent9.o).take i) ((l.map Ent9.o).drop i) = (p, q)) ∧
    Hid (Set9 wr 92 w.heap.size n S) ∧ n ≤ i ∧ Hid (∀ x, InR x → S (nameL x) = twice9 ((l.map Ent9.o).take i) x) ∧ Hid (Below w.heap.size w wr))
  case atStart => exact ⟨0, 0, _, rfl, rfl, rfl, by omega, by omega, HR.out, HM.out, Nat.le_refl _, (by show ∀ _, _; intro x _; rfl), HB.out⟩
  case round =>
    obtain ⟨i, n, S, rfl, rfl, rfl, hi, hkx, hC, hS, hni, hT, hb⟩ := hrel
    by_cases hlt : i < l.length
    · have hltz : (i : Int) < (l.length : Int) := by omega
      have hl := HL.out.below hb.out
      obtain ⟨b, off, rfl, c0, c1, c2, c3, c4, c5⟩ := hl.ox i hlt
      have hE := hl.ent l[i] (List.getElem_mem hlt)
      have hget : (l.map Ent9.o)[i]? = some l[i].o := by simp [hlt]
      generalize l[i] = h at c0 c1 c2 c3 c4 c5 hE hget
      obtain ⟨W3, hW3, hbW3, hx3⟩ := oxm_box wr h.o.C h.o.F h.o.H h.o.X h.va h.o.v.length h.vc h.ma h.o.m.length h.mc
      obtain ⟨W4, hW4, hbW4, hx4⟩ := name_box9 W3 h.o.C h.o.F h.o.X
      have HW3 := hid hW3
      have HW4 := hid hW4
      have hx5 := hx3.below hbW4
      have HX3 := hid hx5
      have hs34 : W3.heap.size = wr.heap.size + 1 := by rw [← hW3]; simp
      obtain ⟨x0, x1, x2, x3, x4, x5⟩ := hx3.six
      obtain ⟨z0, z1, z2, z3, z4, z5⟩ := hx5.six
      obtain ⟨n0, n1, n2⟩ := hx4.three
      rw [hs34] at n0 n1 n2 hx4
      have HX4 := hid hx4
      have HST := hid (chk_step hget)
      have HTM := hid (fun x => twice_more (x := x) hget)
      have hin := hE.inR
      have hkey := nameL_is hin
      have hset := (hS.out.below hbW3).below hbW4
      have hsv := hT.out h.o hin
      have HSV := hid hsv
      have HIN := hid hin
      have HKEY := hid hkey
      have HSET := hid hset
      have HB4 := hid (below_on (below_on hb.out hbW3) hbW4)
      have HL4 := hid ((HL.out.take i).below (below_on (below_on hb.out hbW3) hbW4))
      unfold nameV at hkey
      clear hsv hl hE hget hW3 hW4 hx3 hx4 hx5 hbW3 hbW4 hin
      go_upto_region 6 with fail
      rw [HW3.out]
      go_upto_region 7 with fail
      rw [HW4.out]
      cases htw : S (nameL h.o)
      · have hTw : twice9 ((l.map Ent9.o).take i) h.o = false := by rw [← HSV.out, htw]
        have HTW := hid hTw
        clear hTw
        go_wp2_with (first | (at_lookup; refine wp_look9 rfl _ _ rfl nameKeyed9 Tryz.underlying90 rfl hset _ _ rfl hkey ?_; rw [htw]) | fail)
        have y0 := Wk.cell z0
        have y1 := Wk.cell z1
        have y2 := Wk.cell z2
        have y3 := Wk.cell z3
        have y4 := Wk.cell z4
        have y5 := Wk.cell z5
        have HMET : Hid (∀ n : Wk W4, Calls Tryz.prog 74 #[.slice (some ⟨b, off, none⟩) i c, .agg #[.int .i64 h.o.C, .int .i64 h.o.F, .bool h.o.H, .int .u64 h.o.X, .slice h.va h.o.v.length h.vc, .slice h.ma h.o.m.length h.mc]] n.val fun e w'' => e = .returned (.bool (met9 ((l.map Ent9.o).take i) h.o)) ∧ ∃ m : Wk W4, w'' = m.val) := by
          show _
          intro n
          have := Wk.call (met_any (l.take i) h (some ⟨b, off, none⟩) c n.val (HL4.out.below n.bel))
          rw [List.length_take, Nat.min_eq_left hi, List.map_take] at this
          exact this
        have hic : (i : Int) ≤ (c : Int) := by omega
        obtain ⟨mt, hmt⟩ : ∃ mt, met9 ((l.map Ent9.o).take i) h.o = mt := ⟨_, rfl⟩
        rw [hmt] at HMET
        have HMT := hid hmt
        clear hmt hset hkey x0 x1 x2 x3 x4 x5 z0 z1 z2 z3 z4 z5 n0 n1 n2 c0 c1 c2 c3 c4 c5
        refine wp_region_wk (by kernel_rfl) (by kernel_rfl) ?_
        repeat (go_big_quiet_step (first | (go_at_call 74; exact HMET.out _) | fail))
        refine wpQuiet_nil ?_
        rintro w6 ⟨⟨_, hb6⟩, rfl⟩
        clear y0 y1 y2 y3 y4 y5
        have HB6 := hid hb6
        cases mt
        · go_wp2_with fail
          try rw [Exit.noGoto_ret]
          have hc := hC.out
          rw [HST.out, if_neg (by rw [HTW.out]; simp), if_pos HMT.out] at hc
          obtain ⟨rfl, rfl⟩ := Prod.mk.inj hc
          exact bodyPost_ret (v := .tuple #[.int .i64 (i : Int), .int .i64 1034]) (by simp [results, Tryz.results50, go_sem]) rfl ⟨rfl, below_on HB4.out HB6.out⟩
        · obtain ⟨n0, n1, n2⟩ := (HX4.out.below hb6).three
          have hset := HSET.out.below hb6
          have hkey := HKEY.out
          unfold nameV at hkey
          have hnn : n < 100000 := by omega
          go_wp2_with (first | (at_mapUpdate; refine wp_put9 rfl _ _ _ rfl rfl nameKeyed9 Tryz.underlying90 rfl hset hnn _ _ rfl hkey ?_; intro w7 hs7 hg7) | fail)
          have HS7 := hid hs7
          have HG7 := hid hg7
          clear hset hkey hs7 hg7 n0 n1 n2
          go_wp2_with fail
          go_roundg (l.length - (i + 1))
          case measure => omega
          case rel =>
            have hc := hC.out
            rw [HST.out, if_neg (by rw [HTW.out]; simp), if_neg (by rw [HMT.out]; simp)] at hc
            refine ⟨i + 1, n + 1, _, rfl, rfl, by first | rfl | go_num, by omega, Nat.le_refl _, hc, HS7.out, by omega, ?_, below_by9 (below_on HB4.out HB6.out) HG7.out (Nat.le_refl _)⟩
            show ∀ _, _
            intro x hx
            rw [HTM.out, nameL_eq hx HIN.out, hT.out x hx, alike_symm9]
      · have hTw : twice9 ((l.map Ent9.o).take i) h.o = true := by rw [← HSV.out, htw]
        have HTW := hid hTw
        clear hTw
        go_wp2_with (first | (at_lookup; refine wp_look9 rfl _ _ rfl nameKeyed9 Tryz.underlying90 rfl hset _ _ rfl hkey ?_; rw [htw]) | fail)
        try rw [Exit.noGoto_ret]
        have hc := hC.out
        rw [HST.out, if_pos HTW.out] at hc
        obtain ⟨rfl, rfl⟩ := Prod.mk.inj hc
        exact bodyPost_ret (v := .tuple #[.int .i64 (i : Int), .int .i64 1035]) (by simp [results, Tryz.results50, go_sem]) rfl ⟨rfl, HB4.out⟩
    · have hltz : ¬ (i : Int) < (l.length : Int) := by omega
      go_wp2_with fail
      have hc := hC.out
      rw [List.drop_of_length_le (by rw [List.length_map]; omega)] at hc
      obtain ⟨rfl, rfl⟩ := Prod.mk.inj hc
      exact bodyPost_ret (v := .tuple #[.int .i64 0, .int .i64 0]) (by simp [results, Tryz.results50, go_sem]) rfl ⟨rfl, hb.out⟩
end Go.Proofs.YtpmkfkanolhocaaGreat
namespace Go.Proofs.YtpmkfkanolhocaaGreat
open Go.RowKit Go.Maps
set_option linter.unusedVariables false

theorem needL_few (n : Int) : (needL n).length ≤ 10 := Nat.le_trans (needU_length _ _) (by decide)
theorem need_range {n x : Int} (h : x ∈ needL n) : 0 ≤ x ∧ x < 40 := by
  have all : ∀ k : Nat, ∀ n x : Int, x ∈ needU k n → 0 ≤ x ∧ x < 40 := by
    intro k
    induction k with
    | zero => intro n x hx; simp [needU] at hx
    | succ k ih =>
      intro n x hx
      unfold needU at hx
      by_cases hq : (fld n).d = -1 ∨ ¬ (0 ≤ n ∧ n < 40)
      · rw [if_pos hq] at hx; simp at hx
      rw [if_neg hq] at hx
      have hF : 0 ≤ n ∧ n < 40 := Decidable.byContradiction fun h => hq (.inr h)
      rcases List.mem_append.1 hx with h | h
      · exact ih _ _ h
      · rw [List.mem_singleton.1 h]
        have := need_lower hF
        rcases need_ge hF with h2 | h2
        · exact absurd (.inl h2) hq
        · omega
  exact all _ _ _ h
theorem has_more {L : List Ox9} {i : Nat} {o : Ox9} (h : L[i]? = some o) (n : Int) : has9 (L.take (i + 1)) n = (has9 (L.take i) n || (o.C == 32768 && o.F == n)) := by
  unfold has9
  rw [List.take_add_one, h]
  simp
theorem asked_more {L : List Ox9} {i : Nat} {o : Ox9} (h : L[i]? = some o) (n : Int) : asked9 (L.take (i + 1)) n = (asked9 (L.take i) n || (o.C == 32768 && (needL o.F).contains n)) := by
  unfold asked9
  rw [List.take_add_one, h]
  simp
theorem has_asks {L : List Ox9} {F n : Int} (h : has9 L F = true) (hn : (needL F).contains n = true) : asked9 L n = true := by
  obtain ⟨o, ho, hc⟩ := List.any_eq_true.1 h
  simp only [Bool.and_eq_true, beq_iff_eq] at hc
  exact List.any_eq_true.2 ⟨o, ho, by rw [hc.1, hc.2, hn]; rfl⟩
/-- the fields that are missing, up to k -/
def miss9 (l : List Ox9) (k : Nat) : List Int := ((List.range k).map (fun (k : Nat) => (k : Int))).filter (fun n => asked9 l n && !has9 l n)
theorem miss9_more (l : List Ox9) (k : Nat) : miss9 l (k + 1) = miss9 l k ++ (if asked9 l k && !has9 l k then [(k : Int)] else []) := by
  unfold miss9
  rw [List.range_succ, List.map_append, List.filter_append]
  congr 1
  cases h : (asked9 l k && !has9 l k) <;> simp [h]
theorem miss9_few (l : List Ox9) (k : Nat) : (miss9 l k).length ≤ k := by
  unfold miss9
  exact Nat.le_trans (List.length_filter_le _ _) (by simp)
theorem litInt_eq (x y : Int) : litEq (.int .i64 x) (.int .i64 y) = (x == y) := by
  rw [Bool.eq_iff_iff, litEq_iff, beq_iff_eq]
  constructor
  · intro e; injection e
  · intro e; rw [e]
def Int9 (n : Int) : Prop := -9223372036854775808 ≤ n ∧ n ≤ 9223372036854775807
/-- the sets of the fields met and asked for, behind i values -/
structure Two9 (w wr : World) (L : List Ox9) (nm na : Nat) : Prop where
  met : ∃ S, Set9 wr 3 w.heap.size nm S ∧ ∀ x, Int9 x → S (.int .i64 x) = has9 L x
  asked : ∃ S, Set9 wr 3 (w.heap.size + 1) na S ∧ ∀ x, Int9 x → S (.int .i64 x) = asked9 L x
theorem Two9.below {w wr w' : World} {L : List Ox9} {nm na : Nat} (h : Two9 w wr L nm na) (hb : Below wr.heap.size wr w') : Two9 w w' L nm na := by
  obtain ⟨⟨S, h1, h2⟩, ⟨S', h3, h4⟩⟩ := h
  exact ⟨⟨S, h1.below hb, h2⟩, ⟨S', h3.below hb, h4⟩⟩

theorem Fresh.made_on {e : TypeId} {w w1 w' : World} {v : Value} {xs : List Value} (h : Below w.heap.size w w1) (k : Fresh e w1 w' v xs) : Fresh e w w' v xs := Fresh.made (below_by_none h) k
end Go.Proofs.YtpmkfkanolhocaaGreat
namespace Go.Proofs.YtpmkfkanolhocaaGreat
open Go.RowKit
set_option linter.unusedVariables false

def few9 (h : Ent9) : Bool := decide (h.o.v.length ≤ 300 ∧ h.o.m.length ≤ 300)
def fewL9 (l : List Ent9) : Bool := l.all few9 && decide (l.length ≤ 60)
set_option maxRecDepth 100000 in
set_option maxHeartbeats 2000000 in
theorem refFew9_any (l : List Ent9) (a : Option Addr) (c : Nat) (w : World) (hO : Oxms w a l) (hl : l.length ≤ 9223372036854775807) :
    Calls Tryz.prog 5 #[.slice a l.length c] w fun e w' => e = .returned (.bool (fewL9 l)) ∧ Below w.heap.size w w' := by
  obtain ⟨r, hr⟩ : ∃ r, fewL9 l = r := ⟨_, rfl⟩
  rw [hr]
  have HR := hid hr
  have HO := hid hO
  clear hr hO
  go_enter Tryz.func5, Tryz.ntmps5
  go_wp2_with fail
  go_loopg [3] (l.length) (fun kx s3 wr => ∃ (i : Nat), s3 = .int .i64 i ∧ i ≤ l.length ∧ l.length - i ≤ kx ∧ Hid ((l.take i).all few9 = true) ∧ Hid (Below w.heap.size w wr))
  case atStart => exact ⟨0, rfl, by omega, by omega, rfl, Below.refl _ _⟩
  case round =>
    obtain ⟨i, rfl, hi, hkx, hn, hb⟩ := hrel
    by_cases hlt : i < l.length
    · have hltz : (i : Int) < (l.length : Int) := by omega
      obtain ⟨b, off, rfl, c0, c1, c2, c3, c4, c5⟩ := HO.out.below hb.out i hlt
      have hget : l[i]? = some l[i] := List.getElem?_eq_getElem hlt
      generalize l[i] = h at c0 c1 c2 c3 c4 c5 hget
      have HG := hid hget
      have HC := hid (few8_any h.o.C h.o.F h.o.H h.o.X h.va h.o.v.length h.vc h.ma h.o.m.length h.mc wr)
      cases hf : few9 h
      · have hf2 : decide (h.o.v.length ≤ 300 ∧ h.o.m.length ≤ 300) = false := hf
        rw [hf2] at HC
        have HF := hid hf
        clear hget hf hf2
        go_wp2_with fail
        refine HC.out.mono ?_
        rintro e w2 ⟨rfl, hb2⟩
        have HB2 := hid (below_on hb.out hb2)
        clear hb2
        go_wp2_with fail
        have h0 : r = false := by
          rw [← HR.out]
          unfold fewL9
          have : l.all few9 = false := List.all_eq_false.2 ⟨h, List.mem_of_getElem? HG.out, by rw [HF.out]; simp⟩
          rw [this]; rfl
        exact bodyPost_ret (v := .bool false) (by simp [results, Tryz.results5, go_sem]) rfl ⟨by rw [h0], HB2.out⟩
      · have hf2 : decide (h.o.v.length ≤ 300 ∧ h.o.m.length ≤ 300) = true := hf
        rw [hf2] at HC
        have HF := hid hf
        clear hget hf hf2
        go_wp2_with fail
        refine HC.out.mono ?_
        rintro e w2 ⟨rfl, hb2⟩
        have HB2 := hid (below_on hb.out hb2)
        clear hb2
        go_wp2_with fail
        go_roundg (l.length - (i + 1))
        case measure => omega
        case rel =>
          refine ⟨i + 1, by first | rfl | go_num, by omega, Nat.le_refl _, ?_, HB2.out⟩
          show _ = _
          rw [List.take_add_one, HG.out]
          simp only [Option.toList_some, List.all_append, hn.out, List.all_cons, HF.out, List.all_nil]; rfl
    · have hltz : ¬ (i : Int) < (l.length : Int) := by omega
      have h0 : r = decide ((l.length : Int) ≤ 60) := by
        rw [← HR.out]
        unfold fewL9
        have h1 := hn.out
        rw [List.take_of_length_le (by omega)] at h1
        rw [h1, Bool.true_and]
        exact decide_eq_decide.2 (by omega)
      have H0 := hid h0
      clear h0
      go_wp2_with fail
      exact bodyPost_ret (v := .bool (decide ((l.length : Int) ≤ 60))) (by simp [results, Tryz.results5, go_sem]) rfl ⟨by rw [H0.out], hb.out⟩

def same9 (a b : Ox9) : Bool := sameB a.C a.F a.H a.X b.C b.F b.H b.X a.v a.m b.v b.m
theorem same9_iff (a b : Ox9) : same9 a b = true ↔ a = b := by
  obtain ⟨C, F, H, X, v, m⟩ := a
  obtain ⟨C', F', H', X', v', m'⟩ := b
  simp only [same9, sameB, alikeB, Bool.and_eq_true, beq_iff_eq, Ox9.mk.injEq]
  constructor
  · rintro ⟨⟨⟨⟨⟨a, b⟩, c⟩, d⟩, e⟩, f⟩
    exact ⟨a, b, d, c, e, f⟩
  · rintro ⟨a, b, d, c, e, f⟩
    exact ⟨⟨⟨⟨⟨a, b⟩, c⟩, d⟩, e⟩, f⟩
instance : DecidableEq Ox9 := fun a b => if h : same9 a b = true then .isTrue ((same9_iff a b).1 h) else .isFalse fun e => h ((same9_iff a b).2 e)
theorem refSameO9 (g h : Ent9) (w : World) (hg : EntIn w g) (hh : EntIn w h) (sg : g.o.v.length ≤ 1000 ∧ g.o.m.length ≤ 1000) (sh : h.o.v.length ≤ 1000 ∧ h.o.m.length ≤ 1000) :
    Calls Tryz.prog 25 #[.agg #[.int .i64 g.o.C, .int .i64 g.o.F, .bool g.o.H, .int .u64 g.o.X, .slice g.va g.o.v.length g.vc, .slice g.ma g.o.m.length g.mc], .agg #[.int .i64 h.o.C, .int .i64 h.o.F, .bool h.o.H, .int .u64 h.o.X, .slice h.va h.o.v.length h.vc, .slice h.ma h.o.m.length h.mc]] w fun e w' => e = .returned (.bool (same9 g.o h.o)) ∧ Below w.heap.size w w' :=
  refSame8_any g.o.C g.o.F g.o.H g.o.X g.va g.vc g.ma g.mc h.o.C h.o.F h.o.H h.o.X h.va h.vc h.ma h.mc g.o.v g.o.m h.o.v h.o.m sg.1 sg.2 sh.1 sh.2 hg.ov hg.om hh.ov hh.om w hg.iv hg.im hh.iv hh.im
set_option maxRecDepth 100000 in
set_option maxHeartbeats 2000000 in
theorem refSame9_any (l m : List Ent9) (a b : Option Addr) (c d : Nat) (w : World) (hI : L9 w a l) (hJ : L9 w b m) :
    Calls Tryz.prog 9 #[.slice a l.length c, .slice b m.length d] w fun e w' => e = .returned (.bool (decide (l.map Ent9.o = m.map Ent9.o))) ∧ Below w.heap.size w w' := by
  obtain ⟨r, hr⟩ : ∃ r, decide (l.map Ent9.o = m.map Ent9.o) = r := ⟨_, rfl⟩
  rw [hr]
  have HR := hid hr
  have HI := hid hI
  have HJ := hid hJ
  have hl := hI.len
  have hm := hJ.len
  have hmix : Tryz.prog.follows .mixedOrders = true := by kernel_rfl
  clear hr hI hJ
  by_cases hlen : l.length = m.length
  · have hne : ((l.length : Int) != (m.length : Int)) = false := by simp [hlen]
    obtain ⟨N, hN⟩ : ∃ N, N = l.length := ⟨_, rfl⟩
    have hM : m.length = N := by omega
    rw [hM, ← hN] at hne ⊢
    have HN := hid (And.intro hN hM)
    have hN' : N ≤ 1000 := by omega
    clear hN hM hlen hl hm
    go_enter Tryz.func9, Tryz.ntmps9
    go_wp2_with fail
    go_loopg [5] N (fun kx s5 wr => ∃ (i : Nat), s5 = .int .i64 i ∧ i ≤ N ∧ N - i ≤ kx ∧ Hid ((l.map Ent9.o).take i = (m.map Ent9.o).take i) ∧ Hid (Below w.heap.size w wr))
    case atStart => exact ⟨0, rfl, by omega, by omega, rfl, Below.refl _ _⟩
    case round =>
      obtain ⟨i, rfl, hi, hkx, hn, hb⟩ := hrel
      by_cases hlt : i < N
      · have hltz : (i : Int) < (N : Int) := by omega
        have hil : i < l.length := by have := HN.out; omega
        have him : i < m.length := by have := HN.out; omega
        have h1 := HI.out.below hb.out
        have h2 := HJ.out.below hb.out
        obtain ⟨b1, o1, rfl, c0, c1, c2, c3, c4, c5⟩ := h1.ox i hil
        obtain ⟨b2, o2, rfl, d0, d1, d2, d3, d4, d5⟩ := h2.ox i him
        have e1 := h1.ent l[i] (List.getElem_mem hil)
        have e2 := h2.ent m[i] (List.getElem_mem him)
        have s1 := h1.few l[i] (List.getElem_mem hil)
        have s2 := h2.few m[i] (List.getElem_mem him)
        have g1 : (l.map Ent9.o)[i]? = some l[i].o := by simp [hil]
        have g2 : (m.map Ent9.o)[i]? = some m[i].o := by simp [him]
        generalize l[i] = g at c0 c1 c2 c3 c4 c5 e1 s1 g1
        generalize m[i] = h at d0 d1 d2 d3 d4 d5 e2 s2 g2
        have HC := hid (fun n : Wk wr => Wk.call (refSameO9 g h n.val (e1.below n.bel) (e2.below n.bel) s1 s2))
        have HX := hid (And.intro g1 g2)
        have c0 := Wk.cell c0
        have c1 := Wk.cell c1
        have c2 := Wk.cell c2
        have c3 := Wk.cell c3
        have c4 := Wk.cell c4
        have c5 := Wk.cell c5
        have d0 := Wk.cell d0
        have d1 := Wk.cell d1
        have d2 := Wk.cell d2
        have d3 := Wk.cell d3
        have d4 := Wk.cell d4
        have d5 := Wk.cell d5
        clear h1 h2 e1 e2 s1 s2 g1 g2 hil him
        cases he : same9 g.o h.o
        · rw [he] at HC
          have HE := hid he
          clear he
          go_wp2_with fail
          refine wp_region_wk (by kernel_rfl) (by kernel_rfl) ?_
          repeat (go_big_quiet_step (first | (go_at_call 25; exact HC.out _) | fail))
          refine wpQuiet_nil ?_
          rintro w6 ⟨⟨_, hb6⟩, rfl⟩
          clear c0 c1 c2 c3 c4 c5 d0 d1 d2 d3 d4 d5
          go_wp2_with fail
          have h0 : r = false := by
            rw [← HR.out]
            rw [decide_eq_false_iff_not]
            intro e
            have h1 := HX.out.1
            rw [e, HX.out.2] at h1
            have h2 := HE.out
            rw [Option.some.inj h1, (same9_iff _ _).2 rfl] at h2
            simp at h2
          exact bodyPost_ret (v := .bool false) (by simp [results, Tryz.results9, go_sem]) rfl ⟨by first | rfl | rw [h0], below_on hb.out hb6⟩
        · rw [he] at HC
          have HE := hid he
          clear he
          go_wp2_with fail
          refine wp_region_wk (by kernel_rfl) (by kernel_rfl) ?_
          repeat (go_big_quiet_step (first | (go_at_call 25; exact HC.out _) | fail))
          refine wpQuiet_nil ?_
          rintro w6 ⟨⟨_, hb6⟩, rfl⟩
          clear c0 c1 c2 c3 c4 c5 d0 d1 d2 d3 d4 d5
          go_wp2_with fail
          go_roundg (N - (i + 1))
          case measure => omega
          case rel =>
            refine ⟨i + 1, by first | rfl | go_num, by omega, Nat.le_refl _, ?_, below_on hb.out hb6⟩
            show _ = _
            rw [List.take_add_one, List.take_add_one, HX.out.1, HX.out.2, hn.out, (same9_iff _ _).1 HE.out]
      · have hltz : ¬ (i : Int) < (N : Int) := by omega
        have h0 : Hid (r = true) := by
          show _ = _
          rw [← HR.out]
          have h1 := hn.out
          have h2 := HN.out
          rw [List.take_of_length_le (by rw [List.length_map]; omega), List.take_of_length_le (by rw [List.length_map]; omega)] at h1
          rw [h1]; simp
        go_wp2_with fail
        exact bodyPost_ret (v := .bool true) (by simp [results, Tryz.results9, go_sem]) rfl ⟨by first | rfl | rw [h0.out], hb.out⟩
  · have hne : ((l.length : Int) != (m.length : Int)) = true := by simp; omega
    have h0 : r = false := by
      rw [← HR.out, decide_eq_false_iff_not]
      intro e
      have := congrArg List.length e
      simp at this
      exact hlen this
    have H0 := hid h0
    clear hlen h0
    go_enter Tryz.func9, Tryz.ntmps9
    go_wp2_with fail
    exact bodyPost_ret (v := .bool false) (by simp [results, Tryz.results9, go_sem]) rfl ⟨by rw [H0.out], Below.refl _ _⟩
end Go.Proofs.YtpmkfkanolhocaaGreat
namespace Go.Proofs.YtpmkfkanolhocaaGreat
open Go.RowKit
set_option linter.unusedVariables false

theorem oxms_box {w : World} {b : Nat} {l : List Ent9} (h : BoxL w b (oxmCells l)) : Oxms w (some ⟨b, 0, none⟩) l := by
  have H := holds_box h
  intro i hi
  have c := fun j (hj : j < 6) => (Sort.HoldsK.cell H (i := i) (c := j) (by simpa using hi) hj).1
  have e : l.toArray[i]! = l[i] := by simp [hi]
  rw [e] at c
  exact ⟨b, 0, rfl, c 0 (by decide), c 1 (by decide), c 2 (by decide), c 3 (by decide), c 4 (by decide), c 5 (by decide)⟩
theorem l9_lit {w : World} {l : List Ent9} {t : TypeId} (h1 : ∀ h ∈ l, EntIn w h) (h2 : ∀ h ∈ l, h.o.v.length ≤ 1000 ∧ h.o.m.length ≤ 1000) (h3 : l.length ≤ 1000) : L9 (w.alloc (.cells (oxmCells l).toArray t)) (some ⟨w.heap.size, 0, none⟩) l :=
  ⟨oxms_box (BoxL.new w (oxmCells l) t), fun h hh => (h1 h hh).below (below_alloc _ _), h2, h3⟩
theorem below_al9 {w X : World} (h : Below w.heap.size w X) {o : Obj} : Below w.heap.size w (X.alloc o) := below_on h (below_alloc _ _)
theorem below_dr9 {w X : World} (h : Below w.heap.size w X) : Below w.heap.size w X.drew := below_on h (below_drew8 _)
/-- a value whose bytes are written out -/
def mkE (F : Int) (v : List Int) (b : Nat) : Ent9 := ⟨⟨32768, F, false, 0, v, []⟩, some ⟨b, 0, none⟩, v.length, none, 0⟩
theorem mkE_in {w : World} {F : Int} {v : List Int} {b : Nat} (hF : 0 ≤ F ∧ F ≤ 100) (ho : Octets v) (hl : v.length ≤ 100) (hI : Ints .u8 w (some ⟨b, 0, none⟩) v) : EntIn w (mkE F v b) :=
  ⟨hI, Ints.nil _ _ _, ho, fun x hx => by simp [mkE] at hx, Nat.le_refl _, ⟨by simp [mkE], by simp [mkE]⟩, ⟨by simp only [mkE]; omega, by simp only [mkE]; omega⟩, ⟨by simp [mkE], by simp [mkE]⟩⟩
/-- a list that is sorted -/
theorem sort_l9 (w : World) (a : Option Addr) (c : Nat) (l : List Ent9) (hL : L9 w a l) : Calls Tryz.prog 18 #[.slice a l.length c] w fun e w' => ∃ g M, e = .returned (.slice (some ⟨g, 0, none⟩) l.length l.length) ∧ M.length = l.length ∧ M.map Ent9.o = sort9 (l.map Ent9.o) ∧ L9 w' (some ⟨g, 0, none⟩) M ∧ Below w.heap.size w w' ∧ w.heap.size ≤ g := by
  refine (sort_any w a c l hL.len hL.ox hL.ent hL.few).mono ?_
  rintro e w' ⟨g, M, he, h1, h2, h3, h4, h5, h6⟩
  refine ⟨g, M, he, h1, h2, ⟨h3, h4, fun h hh => ?_, by rw [h1]; exact hL.len⟩, h5, h6⟩
  have hm : h.o ∈ sort9 (l.map Ent9.o) := by rw [← h2]; exact List.mem_map_of_mem hh
  obtain ⟨h', hh', e⟩ := List.mem_map.1 ((sort_perm _).mem_iff.1 hm)
  rw [← e]
  exact hL.few h' hh'
theorem lit510 (w : World) : Ints .i64 (w.alloc (.cells #[.int .i64 5, .int .i64 10] 3)) (some ⟨w.heap.size, 0, none⟩) [5, 10] := ints_lit .i64 w [5, 10] 3
theorem s9_1 (b : Nat) : check9 ([mkE 13 [0, 80] b].map Ent9.o) = (0, 1034) := by simp only [List.map_cons, List.map_nil, mkE]; decide +kernel
theorem s9_2 (a b c : Nat) : check9 ([mkE 5 [8, 0] a, mkE 10 [6] b, mkE 13 [0, 80] c].map Ent9.o) = (0, 0) := by simp only [List.map_cons, List.map_nil, mkE]; decide +kernel
theorem s9_3 (b : Nat) : missing9 ([mkE 13 [0, 80] b].map Ent9.o) = [5, 10] := by simp only [List.map_cons, List.map_nil, mkE]; decide +kernel
theorem s9_4 (a b c : Nat) : met9 ([mkE 5 [8, 0] a, mkE 10 [6] b, mkE 13 [0, 80] c].map Ent9.o) (mkE 13 [0, 80] c).o = true := by simp only [List.map_cons, List.map_nil, mkE]; decide +kernel
theorem s9_5 (a b c : Nat) : sort9 ([mkE 13 [0, 80] c, mkE 5 [8, 0] a, mkE 10 [6] b].map Ent9.o) = [mkE 5 [8, 0] a, mkE 10 [6] b, mkE 13 [0, 80] c].map Ent9.o := by simp only [List.map_cons, List.map_nil, mkE]; decide +kernel
theorem s9_few (a b c : Nat) : ∀ h ∈ [mkE 5 [8, 0] a, mkE 10 [6] b, mkE 13 [0, 80] c], h.o.v.length ≤ 1000 ∧ h.o.m.length ≤ 1000 := by
  intro h hh
  simp at hh
  rcases hh with rfl | rfl | rfl <;> simp [mkE]
end Go.Proofs.YtpmkfkanolhocaaGreat
namespace Go.Proofs.YtpmkfkanolhocaaGreat
open Go.ChangeShapes Go.WideShapes Go.RowKit Go.Deep
set_option linter.unusedVariables false

/-- values that came in, and how many there is room for -/
def IsOxmsC (w : World) (a : Option Addr) (len cap : Nat) : Prop := len ≤ cap ∧ cap ≤ 9223372036854775807 ∧ IsOxms w a len
section
variable {H : Type} {enc : TypeId × Value → H} {w : World} {base : Nat} {held : Bool}
theorem open_oxms_c {fuel len cap : Nat} {a : Option Addr} {x : DataW H × List MemPlace} (h : DataW.trod enc Tryz.prog w base (fun _ => true) held fuel 22 [.slice a len cap] = some x) : len ≤ 9223372036854775807 ∧ IsOxmsC w a len cap := by
  obtain ⟨h1, h2⟩ := open_oxms h
  refine ⟨h1, ?_, ?_, h2⟩
  · rcases open_slice Tryz.underlying22 h with ⟨hcs, _⟩ | ⟨p, l, c, m, n, D, Pl, hcs, hb, hl, hm, hmm, hx, hi⟩
    · simp at hcs; omega
    · simp at hcs; omega
  · rcases open_slice Tryz.underlying22 h with ⟨hcs, _⟩ | ⟨p, l, c, m, n, D, Pl, hcs, hb, hl, hm, hmm, hx, hi⟩
    · simp at hcs; omega
    · simp at hcs
      unfold maxLen at hm
      omega
end
theorem few_l9 {w : World} {a : Option Addr} {l : List Ent9} (hO : Oxms w a l) (hE : ∀ h ∈ l, EntIn w h) (hf : fewL9 l = true) : L9 w a l := by
  unfold fewL9 at hf
  rw [Bool.and_eq_true, decide_eq_true_iff] at hf
  refine ⟨hO, hE, fun h hh => ?_, by have := hf.2; omega⟩
  have := List.all_eq_true.1 hf.1 h hh
  simp only [few9, decide_eq_true_eq] at this
  omega
end Go.Proofs.YtpmkfkanolhocaaGreat
namespace Go.Proofs.YtpmkfkanolhocaaGreat
open Go.RowKit
set_option linter.unusedVariables false

theorem refFld_box9 (w : World) (nm : ByteArray) (b : Int) (z : Nat) (m : Bool) (d : Int) (v : Value) : ∃ W, w.alloc (.cells #[.string nm, .int .i64 b, .int .i64 z, .bool m, .int .i64 d, v] 56) = W ∧ Below w.heap.size w W ∧ BoxL W w.heap.size [.string nm, .int .i64 b, .int .i64 z, .bool m, .int .i64 d, v] :=
  ⟨_, rfl, below_alloc _ _, BoxL.new _ _ _⟩
set_option maxRecDepth 100000 in
set_option maxHeartbeats 2000000 in
theorem refMet_yes (l : List Ent9) (o : Ent9) (a : Option Addr) (c : Nat) (w : World) (hA : asks9 o.o = false) :
    Calls Tryz.prog 69 #[.slice a l.length c, o.val] w fun e w' => e = .returned (.bool true) ∧ Below w.heap.size w w' := by
  obtain ⟨⟨C, F, H, X, v, m⟩, va, vc, ma, mc⟩ := o
  obtain ⟨W, hW, hbW, hx⟩ := oxm_box w C F H X va v.length vc ma m.length mc
  have HW := hid hW
  obtain ⟨d0, d1, d2, d3, d4, d5⟩ := hx.six
  have HX := hid hx
  have HB := hid hbW
  have HF := refOf_any F W
  simp only [asks9] at hA
  obtain ⟨ok, hok⟩ : ∃ ok, decide (0 ≤ F ∧ F < 40) = ok := ⟨_, rfl⟩
  rw [hok] at HF hA
  obtain ⟨⟨nm, fb, fz', fm, fd, fv⟩, hf⟩ : ∃ f, fld F = f := ⟨_, rfl⟩
  rw [hf] at HF hA
  unfold refFldV at HF
  simp only at HF hA
  have HFF := hid HF
  have ways : (C == 32768) = false ∨ ((C == 32768) = true ∧ ok = false) ∨ ((C == 32768) = true ∧ ok = true ∧ fd < 0) := by
    cases hc : (C == 32768)
    · exact .inl rfl
    · rw [hc] at hA
      cases ok
      · exact .inr (.inl ⟨rfl, rfl⟩)
      · refine .inr (.inr ⟨rfl, rfl, ?_⟩)
        simpa using hA
  unfold Ent9.val
  simp only
  rcases ways with hc | ⟨hc, rfl⟩ | ⟨hc, rfl, hd⟩
  case' inl => have hc1 : (C != 32768) = true := by simpa using hc
  case' inr.inl => have hc1 : (C != 32768) = false := by simpa using hc
  case' inr.inr => have hc1 : (C != 32768) = false := by simpa using hc
  all_goals
    clear hW hbW hx hA HF hf hok hc
    go_enter Tryz.func69, Tryz.ntmps69
    go_wp2_with fail
    rw [HW.out]
    refine HFF.out.mono ?_
    rintro e w1 ⟨v1, rfl, hU, hb1⟩
    obtain ⟨a1, c1, rfl, _⟩ := hU
    obtain ⟨W2, hW2, hbW2, hbox⟩ := refFld_box9 w1 nm fb fz' fm fd (.slice a1 fv.length c1)
    have HW2 := hid hW2
    have hxx := (HX.out.below hb1).below hbW2
    obtain ⟨g0, g1, g2, g3, g4, g5⟩ := hxx.six
    obtain ⟨k0, k1, k2, k3, k4, k5⟩ := hbox.six
    have HB1 := hid hb1
    have HBW2 := hid hbW2
    clear hW2 hxx hbox hb1 hbW2
    go_upto_region 2 with fail
    rw [HW2.out]
    go_wp2_with fail
    exact bodyPost_ret (v := .bool true) (by simp [results, Tryz.results69, go_sem]) rfl ⟨rfl, below_on (below_on HB.out HB1.out) HBW2.out⟩
/-- a number as bytes -/
theorem num9_any (n : Int) (z : Nat) (w : World) (hz : z ≤ 8) : Calls Tryz.prog 68 #[.int .u64 n, .int .i64 z] w fun e w' => ∃ a c, e = .returned (.slice a z c) ∧ Ints .u8 w' a (bytesL n z) ∧ Below w.heap.size w w' := by
  refine (num_any n z w hz).mono ?_
  rintro e w' ⟨v, rfl, hF⟩
  obtain ⟨a, c, rfl, _, _, hI⟩ := own_ints hF.own
  rw [bytesL_length]
  exact ⟨a, c, rfl, hI, hF.bel⟩
set_option maxRecDepth 100000 in
set_option maxHeartbeats 4000000 in
theorem refMet_loop (l : List Ent9) (o : Ent9) (a : Option Addr) (c : Nat) (w : World) (hA : asks9 o.o = true) (hL : L9 w a l) :
    Calls Tryz.prog 69 #[.slice a l.length c, o.val] w fun e w' => e = .returned (.bool ((l.map Ent9.o).any (sat9 (fld o.o.F).d (fld o.o.F).v))) ∧ Below w.heap.size w w' := by
  have hmix : Tryz.prog.follows .mixedOrders = true := by kernel_rfl
  obtain ⟨⟨C, F, H, X, v, m⟩, va, vc, ma, mc⟩ := o
  obtain ⟨W, hW, hbW, hx⟩ := oxm_box w C F H X va v.length vc ma m.length mc
  have HW := hid hW
  obtain ⟨d0, d1, d2, d3, d4, d5⟩ := hx.six
  have HX := hid hx
  have HB := hid hbW
  have HL := hid (hL.below hbW)
  have HF := refOf_any F W
  simp only [asks9, Bool.and_eq_true, beq_iff_eq, decide_eq_true_eq] at hA
  obtain ⟨rfl, hr, hd⟩ := hA
  rw [decide_eq_true hr] at HF
  have HAT := asks_table hr hd
  have hd40 := need_lower hr
  simp only
  obtain ⟨⟨nm, fb, fz', fm, fd, fv⟩, hf⟩ : ∃ f, fld F = f := ⟨_, rfl⟩
  rw [hf] at HF hd HAT hd40 ⊢
  unfold refFldV at HF
  simp only at HF hd HAT hd40 ⊢
  have HFF := hid HF
  have HA := hid HAT
  have HG := hid (fun W => refOf_any fd W)
  rw [decide_eq_true (show 0 ≤ fd ∧ fd < 40 from ⟨hd, hd40.2⟩)] at HG
  obtain ⟨⟨nm2, fb2, gz, fm2, fd2, fv2⟩, hg⟩ : ∃ f, fld fd = f := ⟨_, rfl⟩
  have hgz : (fld fd).z = gz := by rw [hg]
  rw [hg] at HG
  unfold refFldV at HG
  simp only at HG
  have HGZ := hid hgz
  obtain ⟨r, hrr⟩ : ∃ r, (l.map Ent9.o).any (sat9 fd fv) = r := ⟨_, rfl⟩
  rw [hrr]
  have HR := hid hrr
  have hll : l.length ≤ 1000 := hL.len
  have hvl : fv.length ≤ 1000 := HAT.1
  unfold Ent9.val
  simp only
  have hdn : ¬ fd < 0 := by omega
  clear hW hbW hx HF hf hg hgz hr hrr HAT hL hd hd40
  go_enter Tryz.func69, Tryz.ntmps69
  go_wp2_with fail
  rw [HW.out]
  refine HFF.out.mono ?_
  rintro e w1 ⟨v1, rfl, hU, hb1⟩
  obtain ⟨a1, c1, rfl, hU⟩ := hU
  obtain ⟨W2, hW2, hbW2, hbox⟩ := refFld_box9 w1 nm fb fz' fm fd (.slice a1 fv.length c1)
  have HW2 := hid hW2
  have hxx := (HX.out.below hb1).below hbW2
  have HBOX := hid hbox
  have HU := hid (hU.below hbW2)
  have HL2 := hid ((HL.out.below hb1).below hbW2)
  obtain ⟨g0, g1, g2, g3, g4, g5⟩ := hxx.six
  obtain ⟨k0, k1, k2, k3, k4, k5⟩ := hbox.six
  have HB2 := hid (below_on (below_on HB.out hb1) hbW2)
  clear hW2 hxx hbox hb1 hbW2 hU HL
  go_upto_region 2 with fail
  rw [HW2.out]
  go_wp2_with fail
  refine (HG.out W2).mono ?_
  rintro e w3 ⟨v3, rfl, hU3, hb3⟩
  obtain ⟨a3, c3, rfl, _⟩ := hU3
  obtain ⟨W4, hW4, hbW4, hbox4⟩ := refFld_box9 w3 nm2 fb2 gz fm2 fd2 (.slice a3 fv2.length c3)
  have HW4 := hid hW4
  have HBOX4 := hid hbox4
  have HBX := hid ((HBOX.out.below hb3).below hbW4)
  have HU4 := hid ((HU.out.below hb3).below hbW4)
  have HL4 := hid ((HL2.out.below hb3).below hbW4)
  have HB4 := hid (below_on (below_on HB2.out hb3) hbW4)
  clear g0 g1 g2 g3 g4 g5 k0 k1 k2 k3 k4 k5 hW4 hbox4 hb3 hbW4 HL2 HBOX HU
  go_upto_region 5 with fail
  rw [HW4.out]
  go_wp2_with fail
  go_loopg [9] (l.length) (fun kx s9 wr => ∃ (i : Nat), s9 = .int .i64 i ∧ i ≤ l.length ∧ l.length - i ≤ kx ∧ Hid (((l.map Ent9.o).take i).any (sat9 fd fv) = false) ∧ Hid (Below W4.heap.size W4 wr))
  case atStart => exact ⟨0, rfl, by omega, by omega, rfl, Below.refl _ _⟩
  case round =>
    obtain ⟨i, rfl, hi, hkx, hn, hb⟩ := hrel
    by_cases hlt : i < l.length
    · have hltz : (i : Int) < (l.length : Int) := by omega
      have hl := HL4.out.below hb.out
      obtain ⟨b, off, rfl, c0, c1', c2, c3, c4, c5⟩ := hl.ox i hlt
      have hE := hl.ent l[i] (List.getElem_mem hlt)
      have hsz := hl.few l[i] (List.getElem_mem hlt)
      have hget : (l.map Ent9.o)[i]? = some l[i].o := by simp [hlt]
      generalize l[i] = h at c0 c1' c2 c3 c4 c5 hE hsz hget
      obtain ⟨W3, hW3, hbW3, hx3⟩ := oxm_box wr h.o.C h.o.F h.o.H h.o.X h.va h.o.v.length h.vc h.ma h.o.m.length h.mc
      have HW3 := hid hW3
      have HX3 := hid hx3
      obtain ⟨x0, x1, x2, x3, x4, x5⟩ := hx3.six
      have hb5 := (HBX.out.below hb.out).below hbW3
      have HBX3 := hid hb5
      have HBG3 := hid ((HBOX4.out.below hb.out).below hbW3)
      obtain ⟨k0, k1, k2, k3, k4, k5⟩ := hb5.six
      have HE := hid (And.intro (hE.below hbW3) (And.intro hsz hget))
      have HB3 := hid (below_on hb.out hbW3)
      have HNX : Hid (∀ s : Bool, sat9 fd fv h.o = s → ((l.map Ent9.o).take (i + 1)).any (sat9 fd fv) = s) := by
        show _
        intro s hs
        have h0 := hn.out
        rw [List.take_add_one, hget]
        simp [h0, hs]
      have HYES : Hid (sat9 fd fv h.o = true → r = true) := by
        show _
        intro hs
        rw [← HR.out]
        obtain ⟨z, hz, hz2⟩ := List.any_eq_true.1 (HNX.out true hs)
        exact List.any_eq_true.2 ⟨z, List.mem_of_mem_take hz, hz2⟩
      have hvsz : h.o.v.length ≤ 1000 := hsz.1
      clear hl hE hsz hget hW3 hx3 hb5 hbW3
      go_upto_region 9 with fail
      rw [HW3.out]
      by_cases hC : h.o.C = 32768
      · have hc1 : (h.o.C != 32768) = false := by simp [hC]
        by_cases hF : h.o.F = fd
        · have hf1 : (h.o.F != fd) = false := by simp [hF]
          have hS : Hid (sat9 fd fv h.o = mt9 h.o fv) := sat_mt (vals := fv) hC hF
          have HFd := hid hF
          clear hC hF
          by_cases hv0 : fv = []
          · subst hv0
            have HM : Hid (sat9 fd [] h.o = any9 h.o.v) := by show _ = _; rw [hS.out]; rfl
            clear hS
            go_wp2_with fail
            go_loopg [11] (h.o.v.length) (fun kx s11 wq => wq = W3 ∧ ∃ (k : Nat), s11 = .int .i64 k ∧ k ≤ h.o.v.length ∧ h.o.v.length - k ≤ kx ∧ Hid (any9 (h.o.v.take k) = false))
            case atStart => exact ⟨rfl, 0, rfl, by omega, by omega, rfl⟩
            case round =>
              obtain ⟨rfl, k, rfl, hk, hkk, hA9⟩ := hrel
              by_cases hkl : k < h.o.v.length
              · have hkz : (k : Int) < (h.o.v.length : Int) := by omega
                obtain ⟨b7, o7, y, ha7, hc7, hy⟩ := HE.out.1.iv.at hkl
                rw [ha7] at x4
                cases he : (y != 0)
                · have HY := hid (And.intro hy.out he)
                  clear hy
                  go_wp2_with fail
                  go_roundg (h.o.v.length - (k + 1))
                  case measure => omega
                  case rel =>
                    refine ⟨rfl, k + 1, by first | rfl | go_num, by omega, Nat.le_refl _, ?_⟩
                    show _ = _
                    have h9 := hA9.out
                    unfold any9 at h9 ⊢
                    rw [List.take_add_one, HY.out.1]
                    simp only [Option.toList_some, List.any_append, h9, List.any_cons, HY.out.2, List.any_nil]; rfl
                · have HY := hid (And.intro hy.out he)
                  clear hy
                  go_wp2_with fail
                  have hr : r = true := HYES.out (by rw [HM.out]; exact List.any_eq_true.2 ⟨y, List.mem_of_getElem? HY.out.1, HY.out.2⟩)
                  exact bodyPost_ret (v := .bool true) (by simp [results, Tryz.results69, go_sem]) rfl ⟨by first | rfl | rw [hr], below_on HB4.out HB3.out⟩
              · have hkz : ¬ (k : Int) < (h.o.v.length : Int) := by omega
                have h9 := hA9.out
                rw [List.take_of_length_le (by omega)] at h9
                have H9 := hid h9
                clear h9
                go_wp2_with fail
                go_roundg (l.length - (i + 1))
                case measure => omega
                case rel => exact ⟨i + 1, by first | rfl | go_num, by omega, Nat.le_refl _, HNX.out false (by rw [HM.out, H9.out]), HB3.out⟩
          · have hvz : ((fv.length : Int) == 0) = false := by simp; exact hv0
            obtain ⟨⟨_, _⟩, hz2, hkr⟩ := HA.out.2 hv0
            have hgz2 : gz ≤ 2 := by rw [← HGZ.out]; exact hz2
            have HMM : Hid (sat9 fd fv h.o = (!h.o.H && fv.any (fun k => h.o.v == bytesL k gz))) := by
              show _ = _
              rw [hS.out]; unfold mt9; rw [if_neg hv0, HFd.out, HGZ.out]
            clear hS hv0 hz2 hkr
            obtain ⟨wr0, hwr0⟩ : ∃ x, x = wr := ⟨_, rfl⟩
            subst hwr0
            go_wp2_with fail
            go_loopg [12] (fv.length) (fun kx s12 wq => ∃ (k : Nat), s12 = .int .i64 k ∧ k ≤ fv.length ∧ fv.length - k ≤ kx ∧ Hid ((!h.o.H && (fv.take k).any (fun k => h.o.v == bytesL k gz)) = false) ∧ Hid (Below W3.heap.size W3 wq))
            case atStart => exact ⟨0, rfl, by omega, by omega, (by simp [Hid]), Below.refl _ _⟩
            case round =>
              clear x0 x1 x2 x3 x4 x5 k0 k1 k2 k3 k4 k5
              obtain ⟨k, rfl, hk, hkk, hA9, hb9⟩ := hrel
              obtain ⟨x0, x1, x2, x3, x4, x5⟩ := (HX3.out.below hb9.out).six
              obtain ⟨k0, k1, k2, k3, k4, k5⟩ := (HBX3.out.below hb9.out).six
              obtain ⟨q0, q1, q2, q3, q4, q5⟩ := (HBG3.out.below hb9.out).six
              by_cases hkl : k < fv.length
              · have hkz : (k : Int) < (fv.length : Int) := by omega
                obtain ⟨b6, o6, y, ha6, hc6, hy⟩ := ((HU4.out.below HB3.out).below hb9.out).at hkl
                subst ha6
                have HY := hid hy.out
                clear hy
                rcases (show h.o.H = false ∨ h.o.H = true by cases h.o.H <;> simp) with hH | hH
                · rw [hH] at x2
                  obtain ⟨bb, hbb⟩ : ∃ bb, (h.o.v == bytesL y gz) = bb := ⟨_, rfl⟩
                  have HBB := hid hbb
                  have HHH := hid hH
                  have KC : Hid (∀ w', Below wr.heap.size wr w' → (fun w' => w'.cell? ⟨wr0.heap.size, 2, none⟩ = some (.bool false) ∧ w'.cell? ⟨wr0.heap.size, 4, none⟩ = some (.slice h.va h.o.v.length h.vc) ∧ w'.cell? ⟨w1.heap.size, 5, none⟩ = some (.slice (some ⟨b6, o6, none⟩) fv.length c1) ∧ w'.cell? ⟨b6, o6 + k, none⟩ = some (.int .u64 y) ∧ w'.cell? ⟨w3.heap.size, 2, none⟩ = some (.int .i64 (gz : Int))) w') := by
                    show _
                    intro w' hb
                    exact ⟨cell_keep x2 hb, cell_keep x4 hb, cell_keep k5 hb, cell_keep hc6 hb, cell_keep q2 hb⟩
                  have HNUM := hid (fun W => num9_any y gz W (by omega))
                  have HBYT : Hid (∀ W a c, Below wr.heap.size wr W → Ints .u8 W a (bytesL y gz) → Calls Tryz.prog 48 #[.slice h.va h.o.v.length h.vc, .slice a gz c] W fun e w' => e = .returned (.bool bb) ∧ Below W.heap.size W w') := by
                    show _
                    intro W a c hW hI
                    have h9 : W3.heap.size ≤ wr.heap.size := hb9.out.size
                    have := bytes8_any h.o.v (bytesL y gz) h.va a h.o.v.length gz h.vc c rfl (bytesL_length _ _).symm W (by omega) (by rw [bytesL_length]; omega) ((HE.out.1.iv.below hb9.out).below hW) hI
                    rw [hbb] at this
                    exact this
                  clear hbb hH
                  go_wp2_with fail
                  go_region_held3 (fun w' => w'.cell? ⟨wr0.heap.size, 2, none⟩ = some (.bool false) ∧ w'.cell? ⟨wr0.heap.size, 4, none⟩ = some (.slice h.va h.o.v.length h.vc) ∧ w'.cell? ⟨w1.heap.size, 5, none⟩ = some (.slice (some ⟨b6, o6, none⟩) fv.length c1) ∧ w'.cell? ⟨b6, o6 + k, none⟩ = some (.int .u64 y) ∧ w'.cell? ⟨w3.heap.size, 2, none⟩ = some (.int .i64 (gz : Int))) (first | (refine KC.out _ ?_; (repeat (first | with_reducible exact hq6 | with_reducible exact hq5 | with_reducible exact Below.refl _ _ | with_reducible refine below_dr9 ?_ | with_reducible refine below_al9 ?_))) | go_keep) ((first
                    | (go_at_call 68; with_reducible refine (HNUM.out _).mono ?_; rintro e w5 ⟨a5, c5', rfl, hI5, hb5⟩; have hq5 : Below wr.heap.size wr w5 := below_on (by (repeat (first | with_reducible exact hq6 | with_reducible exact hq5 | with_reducible exact Below.refl _ _ | with_reducible refine below_dr9 ?_ | with_reducible refine below_al9 ?_))) hb5; clear hb5)
                    | (go_at_call 48; with_reducible refine (HBYT.out _ _ _ ?_ ?_).mono ?_; ((repeat (first | with_reducible exact hq6 | with_reducible exact hq5 | with_reducible exact Below.refl _ _ | with_reducible refine below_dr9 ?_ | with_reducible refine below_al9 ?_))); exact hI5; rintro e w6 ⟨rfl, hb6⟩; have hq6 : Below wr.heap.size wr w6 := below_on (by (repeat (first | with_reducible exact hq6 | with_reducible exact hq5 | with_reducible exact Below.refl _ _ | with_reducible refine below_dr9 ?_ | with_reducible refine below_al9 ?_))) hb6; clear hb6)
                    | fail))
                  all_goals
                    have HQ6 := hid (below_on hb9.out hq6)
                    clear x0 x1 x2 x3 x4 x5 k0 k1 k2 k3 k4 k5 q0 q1 q2 q3 q4 q5 hc6
                    cases bb
                    · go_wp2_with fail
                      go_roundg (fv.length - (k + 1))
                      case measure => omega
                      case rel =>
                        refine ⟨k + 1, by first | rfl | go_num, by omega, Nat.le_refl _, ?_, HQ6.out⟩
                        show _ = _
                        have h9 := hA9.out
                        rw [HHH.out] at h9 ⊢
                        simp only [Bool.not_false, Bool.true_and] at h9 ⊢
                        rw [List.take_add_one, HY.out]
                        simp only [Option.toList_some, List.any_append, h9, List.any_cons, HBB.out, List.any_nil]; rfl
                    · go_wp2_with fail
                      have hr : r = true := HYES.out (by rw [HMM.out, HHH.out]; simp only [Bool.not_false, Bool.true_and]; exact List.any_eq_true.2 ⟨y, List.mem_of_getElem? HY.out, HBB.out⟩)
                      exact bodyPost_ret (v := .bool true) (by simp [results, Tryz.results69, go_sem]) rfl ⟨by first | rfl | rw [hr], below_on HB4.out (below_on HB3.out HQ6.out)⟩
                · rw [hH] at x2
                  have HHH := hid hH
                  clear hH
                  go_wp2_with fail
                  have x2 := Wk.cell x2
                  clear x0 x1 x3 x4 x5 k0 k1 k2 k3 k4 k5 q0 q1 q2 q3 q4 q5 hc6
                  refine wp_region_wk (by kernel_rfl) (by kernel_rfl) ?_
                  repeat (go_big_quiet_step (fail))
                  refine wpQuiet_nil ?_
                  rintro w6 ⟨⟨_, hb6⟩, rfl⟩
                  go_wp2_with fail
                  go_roundg (fv.length - (k + 1))
                  case measure => omega
                  case rel =>
                    refine ⟨k + 1, by first | rfl | go_num, by omega, Nat.le_refl _, ?_, below_on hb9.out hb6⟩
                    show _ = _
                    rw [HHH.out]; rfl
              · have hkz : ¬ (k : Int) < (fv.length : Int) := by omega
                have h9 := hA9.out
                rw [List.take_of_length_le (by omega)] at h9
                have H9 := hid h9
                clear h9
                go_wp2_with fail
                go_roundg (l.length - (i + 1))
                case measure => omega
                case rel => exact ⟨i + 1, by first | rfl | go_num, by omega, Nat.le_refl _, HNX.out false (by rw [HMM.out, H9.out]), below_on HB3.out hb9.out⟩
        · have hf1 : (h.o.F != fd) = true := by simpa using hF
          have hS := sat_no (vals := fv) (x := h.o) (d := fd) (.inr hF)
          have HS := hid hS
          clear hC hF hS
          go_wp2_with fail
          go_roundg (l.length - (i + 1))
          case measure => omega
          case rel => exact ⟨i + 1, by first | rfl | go_num, by omega, Nat.le_refl _, HNX.out false HS.out, HB3.out⟩
      · have hc1 : (h.o.C != 32768) = true := by simpa using hC
        have hS := sat_no (vals := fv) (x := h.o) (d := fd) (.inl hC)
        have HS := hid hS
        clear hC hS
        go_wp2_with fail
        go_roundg (l.length - (i + 1))
        case measure => omega
        case rel => exact ⟨i + 1, by first | rfl | go_num, by omega, Nat.le_refl _, HNX.out false HS.out, HB3.out⟩
    · have hltz : ¬ (i : Int) < (l.length : Int) := by omega
      go_wp2_with fail
      have hr : r = false := by
        rw [← HR.out]
        have h0 := hn.out
        rwa [List.take_of_length_le (by rw [List.length_map]; omega)] at h0
      exact bodyPost_ret (v := .bool false) (by simp [results, Tryz.results69, go_sem]) rfl ⟨by first | rfl | rw [hr], below_on HB4.out hb.out⟩
theorem refMet_any (l : List Ent9) (o : Ent9) (a : Option Addr) (c : Nat) (w : World) (hL : L9 w a l) :
    Calls Tryz.prog 69 #[.slice a l.length c, o.val] w fun e w' => e = .returned (.bool (met9 (l.map Ent9.o) o.o)) ∧ Below w.heap.size w w' := by
  unfold met9
  cases h : asks9 o.o
  · exact refMet_yes l o a c w h
  · simp only [Bool.not_true, Bool.false_or]
    exact refMet_loop l o a c w h hL
end Go.Proofs.YtpmkfkanolhocaaGreat
namespace Go.Proofs.YtpmkfkanolhocaaGreat
open Go.RowKit
set_option linter.unusedVariables false

set_option maxRecDepth 100000 in
set_option maxHeartbeats 4000000 in
theorem refCheck9_any (l : List Ent9) (a : Option Addr) (c : Nat) (w : World) (hL : L9 w a l) (hlc : l.length ≤ c) :
    Calls Tryz.prog 43 #[.slice a l.length c] w fun e w' => e = .returned (ckV (check9 (l.map Ent9.o))) ∧ Below w.heap.size w w' := by
  obtain ⟨⟨p, q⟩, hr⟩ : ∃ r, check9 (l.map Ent9.o) = r := ⟨_, rfl⟩
  rw [hr]
  have HR := hid hr
  have HL := hid hL
  have hll : l.length ≤ 1000 := hL.len
  have hmix : Tryz.prog.follows .mixedOrders = true := by kernel_rfl
  unfold ckV
  clear hr hL
  go_enter Tryz.func43, Tryz.ntmps43
  go_wp2_with fail
  go_loopg [4] (l.length) (fun kx s4 wr => ∃ (i : Nat), s4 = .int .i64 i ∧ i ≤ l.length ∧ l.length - i ≤ kx ∧ Hid (chk9 ((l.map Ent9.o).take i) ((l.map Ent9.o).drop i) = (p, q)) ∧ Hid (Below w.heap.size w wr))
  case atStart => exact ⟨0, rfl, by omega, by omega, HR.out, Below.refl _ _⟩
  case round =>
    obtain ⟨i, rfl, hi, hkx, hC, hb⟩ := hrel
    by_cases hlt : i < l.length
    · have hltz : (i : Int) < (l.length : Int) := by omega
      obtain ⟨b, off, rfl, hoo⟩ := HL.out.ox i hlt
      clear hoo
      have hget : (l.map Ent9.o)[i]? = some l[i].o := by simp [hlt]
      obtain ⟨h, hh⟩ : ∃ h, h = l[i] := ⟨_, rfl⟩
      rw [← hh] at hget
      have HH := hid hh
      have HST := hid (chk_step hget)
      have HBB := hid hb.out
      clear hget hh
      go_wp2_with fail
      go_loopg [5] i (fun kx s5 wr => ∃ (k : Nat), s5 = .int .i64 k ∧ k ≤ i ∧ i - k ≤ kx ∧ Hid (((l.map Ent9.o).take k).any (fun x => alike9 x h.o) = false) ∧ Hid (Below w.heap.size w wr))
      case atStart => exact ⟨0, rfl, by omega, by omega, rfl, HBB.out⟩
      case round =>
        obtain ⟨k, rfl, hk, hkk, hn, hb2⟩ := hrel
        have hl := HL.out.below hb2.out
        obtain ⟨b1, o1, he1, d0, d1, d2, d3, d4, d5⟩ := hl.ox i hlt
        simp only [Option.some.injEq, Addr.mk.injEq] at he1
        obtain ⟨rfl, rfl, _⟩ := he1
        rw [← HH.out] at d0 d1 d2 d3 d4 d5
        by_cases hki : k < i
        · have hkz : (k : Int) < (i : Int) := by omega
          have hkl : k < l.length := by omega
          obtain ⟨b2, o2, he2, c0, c1, c2, c3, c4, c5⟩ := hl.ox k hkl
          simp only [Option.some.injEq, Addr.mk.injEq] at he2
          obtain ⟨rfl, rfl, _⟩ := he2
          have hget : (l.map Ent9.o)[k]? = some l[k].o := by simp [hkl]
          generalize l[k] = g at c0 c1 c2 c3 c4 c5 hget
          have HG := hid hget
          have HC := hid (fun n : Wk wr => Wk.call (refAlike8_any g.o.C g.o.F g.o.H g.o.X g.va g.o.v.length g.vc g.ma g.o.m.length g.mc h.o.C h.o.F h.o.H h.o.X h.va h.o.v.length h.vc h.ma h.o.m.length h.mc n.val))
          obtain ⟨al, hal⟩ : ∃ al, alikeB g.o.C g.o.F g.o.X h.o.C h.o.F h.o.X = al := ⟨_, rfl⟩
          rw [hal] at HC
          have HAL : Hid (alike9 g.o h.o = al) := hal
          have hkl2 : (k : Int) < (l.length : Int) := by omega
          have c0 := Wk.cell c0
          have c1 := Wk.cell c1
          have c2 := Wk.cell c2
          have c3 := Wk.cell c3
          have c4 := Wk.cell c4
          have c5 := Wk.cell c5
          have d0 := Wk.cell d0
          have d1 := Wk.cell d1
          have d2 := Wk.cell d2
          have d3 := Wk.cell d3
          have d4 := Wk.cell d4
          have d5 := Wk.cell d5
          clear hl hget hal
          go_wp2_with fail
          refine wp_region_wk (by kernel_rfl) (by kernel_rfl) ?_
          repeat (go_big_quiet_step (first | (go_at_call 22; exact HC.out _) | fail))
          refine wpQuiet_nil ?_
          rintro w6 ⟨⟨_, hb6⟩, rfl⟩
          clear c0 c1 c2 c3 c4 c5 d0 d1 d2 d3 d4 d5
          have HB6 := hid (below_on hb2.out hb6)
          cases al
          · go_wp2_with fail
            go_roundg (i - (k + 1))
            case measure => omega
            case rel =>
              refine ⟨k + 1, by first | rfl | go_num, by omega, Nat.le_refl _, ?_, HB6.out⟩
              show _ = _
              rw [List.take_add_one, HG.out]
              simp only [Option.toList_some, List.any_append, hn.out, List.any_cons, HAL.out, List.any_nil]; rfl
          · go_wp2_with fail
            have hc := hC.out
            have htw : twice9 ((l.map Ent9.o).take i) h.o = true := by
              refine List.any_eq_true.2 ⟨g.o, ?_, HAL.out⟩
              rw [List.mem_take_iff_getElem]
              obtain ⟨hq1, hq2⟩ := List.getElem?_eq_some_iff.1 HG.out
              exact ⟨k, by omega, hq2⟩
            rw [HST.out, if_pos htw] at hc
            obtain ⟨rfl, rfl⟩ := Prod.mk.inj hc
            exact bodyPost_ret (v := .tuple #[.int .i64 (i : Int), .int .i64 1035]) (by simp [results, Tryz.results43, go_sem]) rfl ⟨rfl, HB6.out⟩
        · have hkz : ¬ (k : Int) < (i : Int) := by omega
          obtain rfl : k = i := by omega
          have HTW : Hid (twice9 ((l.map Ent9.o).take k) h.o = false) := hn.out
          have HMET : Hid (∀ n : Wk wr, Calls Tryz.prog 69 #[.slice (some ⟨b, off, none⟩) k c, .agg #[.int .i64 h.o.C, .int .i64 h.o.F, .bool h.o.H, .int .u64 h.o.X, .slice h.va h.o.v.length h.vc, .slice h.ma h.o.m.length h.mc]] n.val fun e w'' => e = .returned (.bool (met9 ((l.map Ent9.o).take k) h.o)) ∧ ∃ m : Wk wr, w'' = m.val) := by
            show _
            intro n
            have := Wk.call (refMet_any (l.take k) h (some ⟨b, off, none⟩) c n.val (((HL.out.take k).below hb2.out).below n.bel))
            rw [List.length_take, Nat.min_eq_left hi, List.map_take] at this
            exact this
          have hic : (k : Int) ≤ (c : Int) := by omega
          obtain ⟨mt, hmt⟩ : ∃ mt, met9 ((l.map Ent9.o).take k) h.o = mt := ⟨_, rfl⟩
          rw [hmt] at HMET
          have HMT := hid hmt
          have d0 := Wk.cell d0
          have d1 := Wk.cell d1
          have d2 := Wk.cell d2
          have d3 := Wk.cell d3
          have d4 := Wk.cell d4
          have d5 := Wk.cell d5
          clear hl hmt
          go_wp2_with fail
          refine wp_region_wk (by kernel_rfl) (by kernel_rfl) ?_
          repeat (go_big_quiet_step (first | (go_at_call 69; exact HMET.out _) | fail))
          refine wpQuiet_nil ?_
          rintro w6 ⟨⟨_, hb6⟩, rfl⟩
          clear d0 d1 d2 d3 d4 d5
          have HB6 := hid (below_on hb2.out hb6)
          cases mt
          · go_wp2_with fail
            have hc := hC.out
            rw [HST.out, if_neg (by rw [HTW.out]; simp), if_pos HMT.out] at hc
            obtain ⟨rfl, rfl⟩ := Prod.mk.inj hc
            exact bodyPost_ret (v := .tuple #[.int .i64 (k : Int), .int .i64 1034]) (by simp [results, Tryz.results43, go_sem]) rfl ⟨rfl, HB6.out⟩
          · go_wp2_with fail
            go_roundg (l.length - (k + 1))
            case measure => omega
            case rel =>
              have hc := hC.out
              rw [HST.out, if_neg (by rw [HTW.out]; simp), if_neg (by rw [HMT.out]; simp)] at hc
              exact ⟨k + 1, by first | rfl | go_num, by omega, Nat.le_refl _, hc, HB6.out⟩
    · have hltz : ¬ (i : Int) < (l.length : Int) := by omega
      go_wp2_with fail
      have hc := hC.out
      rw [List.drop_of_length_le (by rw [List.length_map]; omega)] at hc
      obtain ⟨rfl, rfl⟩ := Prod.mk.inj hc
      exact bodyPost_ret (v := .tuple #[.int .i64 0, .int .i64 0]) (by simp [results, Tryz.results43, go_sem]) rfl ⟨rfl, hb.out⟩
end Go.Proofs.YtpmkfkanolhocaaGreat
namespace Go.Proofs.YtpmkfkanolhocaaGreat
open Go.RowKit
set_option linter.unusedVariables false

end Go.Proofs.YtpmkfkanolhocaaGreat
namespace Go.Proofs.YtpmkfkanolhocaaGreat
open Go.RowKit
set_option linter.unusedVariables false
set_option maxRecDepth 100000

theorem before_ways (a b : Ox9) : ∃ r, before9 a b = r ∧ (((a.C != b.C) = true ∧ r = decide (a.C < b.C)) ∨ ((a.C != b.C) = false ∧ (a.F != b.F) = true ∧ r = decide (a.F < b.F)) ∨ ((a.C != b.C) = false ∧ (a.F != b.F) = false ∧ r = decide (a.X < b.X))) := by
  refine ⟨_, rfl, ?_⟩
  unfold before9
  by_cases h1 : a.C = b.C <;> by_cases h2 : a.F = b.F <;> simp [h1, h2]
set_option maxRecDepth 100000 in
theorem refBefore9_any (C F : Int) (H : Bool) (X : Int) (va : Option Addr) (vc : Nat) (ma : Option Addr) (mc : Nat) (v m : List Int) (C' F' : Int) (H' : Bool) (X' : Int) (va' : Option Addr) (vc' : Nat) (ma' : Option Addr) (mc' : Nat) (v' m' : List Int) (w : World) :
    Calls Tryz.prog 47 #[.agg #[.int .i64 C, .int .i64 F, .bool H, .int .u64 X, .slice va v.length vc, .slice ma m.length mc], .agg #[.int .i64 C', .int .i64 F', .bool H', .int .u64 X', .slice va' v'.length vc', .slice ma' m'.length mc']] w fun e w' => e = .returned (.bool (before9 ⟨C, F, H, X, v, m⟩ ⟨C', F', H', X', v', m'⟩)) ∧ Below w.heap.size w w' := by
  obtain ⟨r, hr, hq⟩ := before_ways ⟨C, F, H, X, v, m⟩ ⟨C', F', H', X', v', m'⟩
  rw [hr]
  clear hr
  simp only at hq
  rcases hq with ⟨h1, rfl⟩ | ⟨h1, h2, rfl⟩ | ⟨h1, h2, rfl⟩
  all_goals
    go_enter Tryz.func47, Tryz.ntmps47
    go_wp2_with fail
    go_ret
    exact ⟨rfl, below_on (below_alloc _ _) (below_alloc _ _)⟩

/-- a list of values of one's own, in new memory -/
structure FreshO (w w' : World) (v : Value) (n : Nat) (D : List Ent9) : Prop where
  own : w'.ownsRow 0 33 6 v n (oxmCells D)
  bel : Below w.heap.size w w'
  new : ∀ g, v.ownBlock = some g → w.heap.size ≤ g
theorem own_shape9 {W : World} {e : TypeId} {size n : Nat} {v : Value} {xs : List Value} (h : W.ownsRow 0 e size v n xs) : ∃ a c, v = .slice a n c := by
  rcases h.2 with ⟨rfl, rfl⟩ | ⟨g, cap, cur, rfl, _⟩
  · exact ⟨_, _, rfl⟩
  · exact ⟨_, _, rfl⟩
theorem FreshO.step {w wr w' : World} {v v' : Value} {n n' : Nat} {D D' : List Ent9} (h : FreshO w wr v n D) (k : GrewN 33 6 wr w' v v' n' (oxmCells D')) : FreshO w w' v' n' D' :=
  ⟨k.own, h.bel.trans (k.below h.bel.size h.new), k.base h.bel.size h.new⟩
theorem FreshO.behind {w wr w' : World} {v : Value} {n : Nat} {D : List Ent9} (h : FreshO w wr v n D) (k : Below wr.heap.size wr w') : FreshO w w' v n D :=
  ⟨h.own.kept (below_by_none k) (by cases h' : v.ownBlock <;> simp), below_on h.bel k, h.new⟩
theorem FreshO.empty (w : World) : FreshO w (w.alloc (.cells #[] 33)) (.slice (some ⟨w.heap.size, 0, none⟩) 0 0) 0 [] :=
  ⟨World.ownsRow_made w #[] 0 (Nat.zero_le _) (Nat.zero_le _) rfl, below_alloc _ _, by intro g hg; simp [Value.ownBlock] at hg; omega⟩
theorem FreshO.nil (w : World) : FreshO w w (.slice none 0 0) 0 [] :=
  ⟨World.ownsRow_nil w 0 _ 6, Below.refl _ _, by intro g hg; cases hg⟩
theorem FreshO.made {w w1 w' : World} {v : Value} {n : Nat} {D : List Ent9} (h : Below w.heap.size w w1) (k : FreshO w1 w' v n D) : FreshO w w' v n D :=
  ⟨k.own, below_on h k.bel, fun g hg => Nat.le_trans h.size (k.new g hg)⟩
theorem FreshO.ox {w w' : World} {va : Option Addr} {n vc : Nat} {D : List Ent9} (h : FreshO w w' (.slice va n vc) n D) : D.length = n ∧ n ≤ vc ∧ vc ≤ 9223372036854775807 ∧ Oxms w' va D := by
  have hl := h.own.1
  rw [oxmCells_length] at hl
  have hn : D.length = n := by omega
  have ho := h.own
  rw [← hn] at ho
  obtain ⟨a, c, e, h1, h2, h3, _⟩ := own_oxms ho
  cases e
  exact ⟨hn, by omega, h2, h3⟩
theorem FreshO.spot {w w' : World} {ad : Addr} {n vc : Nat} {D : List Ent9} (h : FreshO w w' (.slice (some ad) n vc) n D) : ∃ g, ad = ⟨g, 0, none⟩ := by
  have hn := h.ox.1
  have ho := h.own
  rw [← hn] at ho
  obtain ⟨a, c, e, _, _, _, h4⟩ := own_oxms ho
  cases e
  rcases h4 with h4 | ⟨g, h4, _⟩
  · cases h4
  · exact ⟨g, Option.some.inj h4⟩
theorem oxms_one (w : World) (h : Ent9) (t : TypeId) : Oxms (w.alloc (.cells h.cs.toArray t)) (some ⟨w.heap.size, 0, none⟩) [h] :=
  oxms_box (by have := BoxL.new w h.cs t; simpa [oxmCells] using this)
theorem oxm_flat (l : List Ent9) : ∀ u ∈ oxmCells l, u.oneCell' = true := by
  intro u hu
  simp only [oxmCells, List.mem_flatMap] at hu
  obtain ⟨h, _, hu⟩ := hu
  simp [Ent9.cs] at hu
  rcases hu with rfl | rfl | rfl | rfl | rfl | rfl <;> rfl
theorem oxms_cells {w : World} {ad : Addr} {l : List Ent9} (h : Oxms w (some ad) l) : ∀ j u, (oxmCells l)[j]? = some u → w.cell? (ad.add j) = some u := by
  intro j u hj
  have hjl : j < l.length * 6 := by
    have := (List.getElem?_eq_some_iff.1 hj).1
    rwa [oxmCells_length] at this
  have hi : j / 6 < l.length := by omega
  obtain ⟨b, off, he, c0, c1, c2, c3, c4, c5⟩ := h (j / 6) hi
  obtain rfl := Option.some.inj he
  have hm : j % 6 < 6 := Nat.mod_lt _ (by omega)
  have e := oxmCells_at l (j / 6) hi (j % 6) hm
  rw [show j / 6 * 6 + j % 6 = j by omega] at e
  rw [e] at hj
  rw [add_none, show off + j = off + j / 6 * 6 + j % 6 by omega]
  generalize j % 6 = r at hj hm ⊢
  generalize l[j / 6] = x at *
  match r, hm with
  | 0, _ => simp [Ent9.cs] at hj; subst hj; exact c0
  | 1, _ => simp [Ent9.cs] at hj; subst hj; exact c1
  | 2, _ => simp [Ent9.cs] at hj; subst hj; exact c2
  | 3, _ => simp [Ent9.cs] at hj; subst hj; exact c3
  | 4, _ => simp [Ent9.cs] at hj; subst hj; exact c4
  | 5, _ => simp [Ent9.cs] at hj; subst hj; exact c5
theorem run_app_none {ty : TypeId} {w : World} {a : Option Addr} {n cap c : Nat} (hn : n ≤ cap) :
    (Builtin.append_ #[22, 22] ty #[.slice a n cap, .slice none 0 c]).run Tryz.prog w = .ok (.slice a n cap) w := by
  have ht := Tryz.underlying22
  obtain ⟨i, hi⟩ : ∃ i, Tryz.prog.info? 33 = some i := ⟨_, rfl⟩
  cases a <;> simp [Builtin.append_, run_underlying ht, sizeOf, typeInfo, hi, Builtin.lenOf, Builtin.firstCells, loadCells, hn, storeCells]
theorem run_app_oxms {ty : TypeId} {w0 w : World} {v : Value} {n : Nat} {D : List Ent9} (hf : FreshO w0 w v n D) {sa : Option Addr} {c : Nat} {l : List Ent9} (hO : Oxms w sa l) (hb : n + l.length ≤ 1000) :
    ∃ va' vc' w', (Builtin.append_ #[22, 22] ty #[v, .slice sa l.length c]).run Tryz.prog w = .ok (.slice va' (n + l.length) vc') w' ∧ FreshO w0 w' (.slice va' (n + l.length) vc') (n + l.length) (D ++ l) := by
  obtain ⟨va, vc, rfl⟩ := own_shape9 hf.own
  cases sa with
  | none =>
    have : l = [] := by
      cases l with
      | nil => rfl
      | cons x r => obtain ⟨b, off, e, _⟩ := hO 0 (by simp); cases e
    subst this
    obtain ⟨_, hn, _, _⟩ := hf.ox
    rw [List.append_nil]
    exact ⟨va, vc, w, run_app_none hn, hf⟩
  | some ad =>
    obtain ⟨v', w', hr, hg⟩ := run_app_many (P := Tryz.prog) (ty := ty) elemOxm hf.own ad l.length c (oxmCells l) (oxmCells_length l) (oxms_cells hO) (oxm_flat l) (by omega) (by omega)
    obtain ⟨va', vc', rfl⟩ := own_shape9 hg.own
    rw [← oxmCells_append] at hg
    exact ⟨va', vc', w', hr, hf.step hg⟩
/-- append(s, x...), of lists of values -/
theorem wp_app_oxms {w0 w : World} {ops : Array Oper} {rest : List Oper} {o : Oper} {a : Act} {Q : Exit → Act → World → Prop} (hgd : o.guard = none) (s x : Operand)
    (ho : o.op = .call { callee := .builtin .append, args := #[s, x], argTypes := #[22, 22] }) {v : Value} {n : Nat} {D : List Ent9} (hf : FreshO w0 w v n D) (hs : a.eval s = v)
    {sa : Option Addr} {m c : Nat} {l : List Ent9} (hx : a.eval x = .slice sa m c) (hm : l.length = m) (hO : Oxms w sa l) (hb : n + m ≤ 1000) {N : Nat} (hN : n + m = N)
    (h : ∀ va' vc' w', FreshO w0 w' (.slice va' N vc') N (D ++ l) → wpList Tryz.prog ops Q rest (a.put o.dst (.slice va' N vc')) w') : wpList Tryz.prog ops Q (o :: rest) a w := by
  subst hm
  subst hN
  refine wpList_plain hgd fun K hK => ?_
  obtain ⟨va', vc', w', hr, hg⟩ := run_app_oxms (ty := o.type) (c := c) hf hO hb
  unfold Oper.wp execOp
  simp only [ho, resolve, invoke, builtin, Sem.run_bind, Sem.run_pure, Result.andThen_ok, List.map_toArray, List.map_cons, List.map_nil, hs, hx, hr]
  exact hK _ _ (h va' vc' w' hg)
end Go.Proofs.YtpmkfkanolhocaaGreat
namespace Go.Proofs.YtpmkfkanolhocaaGreat
open Go.RowKit
set_option linter.unusedVariables false
set_option maxRecDepth 100000

/-- sorted: a list of one's own -/
def SortedTo (w : World) (l : List Ent9) (e : Ending) (w' : World) : Prop :=
  ∃ va vc M, e = .returned (.slice va l.length vc) ∧ M.length = l.length ∧ M.map Ent9.o = sort9 (l.map Ent9.o) ∧ Oxms w' va M ∧ (∀ h ∈ M, h ∈ l) ∧ Below w.heap.size w w'
theorem fold_step9 {l : List Ent9} {i : Nat} (hi : i < l.length) : ((l.take (i + 1)).map Ent9.o).foldl (fun out o => ins9 o out) [] = ins9 l[i].o (((l.take i).map Ent9.o).foldl (fun out o => ins9 o out) []) := by
  rw [List.take_succ_eq_append_getElem hi, List.map_append, List.foldl_append]
  rfl
theorem cut9 {D : List Ent9} {h : Ent9} {k : Nat} (hD : Sorted9 (D.map Ent9.o)) (hk : k ≤ D.length) (h1 : ∀ j, (hj : j < D.length) → k ≤ j → before9 h.o D[j].o = true) (h2 : ∀ j, (hj : j < D.length) → j + 1 = k → before9 h.o D[j].o = false) :
    (D.take k ++ h :: D.drop k).map Ent9.o = ins9 h.o (D.map Ent9.o) := by
  rw [ins_cut (k := k) (by simpa using hk)]
  · simp [List.map_take, List.map_drop]
  · intro i hi hik
    have hi' : i < D.length := by simpa using hi
    have hl := h2 (k - 1) (by omega) (by omega)
    rw [List.getElem_map]
    have := sorted_ahead hD (i := i) (j := k - 1) (by simpa using hi') (by simp; omega) (by omega) (o := h.o) (by rw [List.getElem_map]; exact hl)
    rwa [List.getElem_map] at this
  · intro hk'
    rw [List.getElem_map]
    exact h1 k (by simpa using hk') (Nat.le_refl _)
set_option maxRecDepth 100000 in
set_option maxHeartbeats 4000000 in
theorem refSort_any (l : List Ent9) (a : Option Addr) (c : Nat) (w : World) (hL : L9 w a l) :
    Calls Tryz.prog 24 #[.slice a l.length c] w (SortedTo w l) := by
  have HL := hid hL
  have hll : l.length ≤ 1000 := hL.len
  clear hL
  go_enter Tryz.func24, Tryz.ntmps24
  go_wp2_with fail
  go_loopg [3, 4] (l.length) (fun kx s3 s4 wr => ∃ (i : Nat) (D : List Ent9) (va : Option Addr) (vc : Nat), s3 = .slice va i vc ∧ s4 = .int .i64 i ∧ i ≤ l.length ∧ l.length - i ≤ kx ∧ Hid (FreshO w wr (.slice va i vc) i D) ∧ Hid (D.map Ent9.o = ((l.take i).map Ent9.o).foldl (fun out o => ins9 o out) []) ∧ Hid (∀ h ∈ D, h ∈ l) ∧ Hid (va = none → i = 0 ∧ vc = 0))
  case atStart => exact ⟨0, [], none, 0, rfl, rfl, by omega, by omega, FreshO.nil _, rfl, (by simp [Hid]), fun _ => ⟨rfl, rfl⟩⟩
  case round =>
    obtain ⟨i, D, va, vc, rfl, rfl, hi, hkx, hF, hM, hD, hva⟩ := hrel
    by_cases hlt : i < l.length
    · have hltz : (i : Int) < (l.length : Int) := by omega
      obtain ⟨b, off, rfl, hoo⟩ := HL.out.ox i hlt
      clear hoo
      obtain ⟨h, hh⟩ : ∃ h, h = l[i] := ⟨_, rfl⟩
      have HH := hid hh
      have HS : Hid (Sorted9 (D.map Ent9.o)) := by show Sorted9 _; rw [hM.out]; exact fold_sorted _ List.Pairwise.nil
      clear hh
      obtain ⟨w0, hw0⟩ : ∃ x, x = wr := ⟨_, rfl⟩
      subst hw0
      cases va with
      | none =>
        obtain ⟨rfl, rfl⟩ := hva.out rfl
        have hD0 : D = [] := List.eq_nil_of_length_eq_zero hF.out.ox.1
        subst hD0
        go_wp2_with fail
        go_loopg [5] 0 (fun kx s5 wr => s5 = .int .i64 0 ∧ Hid (FreshO w wr (.slice none 0 0) 0 []))
        case atStart => exact ⟨rfl, hF⟩
        case round =>
          obtain ⟨rfl, hF2⟩ := hrel
          go_wp2_with fail
          refine wp_region_wk (by kernel_rfl) (by kernel_rfl) ?_
          repeat (go_big_quiet_step (fail))
          refine wpQuiet_nil ?_
          rintro w6 ⟨⟨_, hb6⟩, rfl⟩
          have HF6 := hid (hF2.out.behind hb6)
          clear hb6
          have HL6 := hid (HL.out.below HF6.out.bel)
          go_upto_region 9 with (at_builtin; refine wp_app_oxms rfl (.tmp 31) (.tmp 34) rfl (FreshO.empty w6) rfl rfl (l := []) rfl (Oxms.nil _ _) (by omega) (N := 0) (by omega) ?_; intro va1 vc1 w7 hg7; have HG7 := hid hg7; clear hg7)
          have hl7 := HL6.out.below HG7.out.bel
          obtain ⟨b7, o7, he7, c0, c1, c2, c3, c4, c5⟩ := hl7.ox 0 hlt
          simp only [Option.some.injEq, Addr.mk.injEq] at he7
          obtain ⟨rfl, rfl, _⟩ := he7
          rw [← HH.out] at c0 c1 c2 c3 c4 c5
          simp only [Nat.zero_mul, Nat.add_zero] at c0 c1 c2 c3 c4 c5
          clear hl7
          go_upto_region 10 with (at_builtin; refine wp_app_oxms rfl (.tmp 36) (.tmp 41) rfl (HG7.out.behind (below_alloc _ _)) rfl rfl (l := [h]) rfl (oxms_one w7 h _) (by omega) (N := 0 + 1) rfl ?_; intro va2 vc2 w8 hg8; have HG8 := hid hg8; clear hg8)
          clear c0 c1 c2 c3 c4 c5
          go_wp2_with (at_builtin; refine wp_app_oxms rfl (.tmp 43) (.tmp 46) rfl HG8.out rfl rfl (l := []) rfl (Oxms.nil _ _) (by omega) (N := 0 + 1) (by omega) ?_; intro va3 vc3 w9 hg9; have HG9 := hid hg9; clear hg9)
          go_roundg (l.length - (0 + 1))
          case measure => omega
          case rel =>
            refine ⟨0 + 1, _, va3, vc3, rfl, by first | rfl | go_num, by omega, Nat.le_refl _, HG9.out.made HF6.out.bel, ?_, ?_, ?_⟩
            · show _ = _
              rw [fold_step9 hlt, ← HH.out, ← hM.out]
              exact rfl
            · show ∀ _, _
              intro x hx
              have hl : h ∈ l := by rw [HH.out]; exact List.getElem_mem hlt
              simp at hx; rw [hx]; exact hl
            · show _ → _
              intro hv
              have hox := HG9.out.ox
              rw [hv] at hox
              exfalso
              obtain ⟨e1, _, _, e2⟩ := hox
              obtain ⟨b, off, e, _⟩ := e2 0 (by omega)
              cases e
      | some ad =>
        obtain ⟨b2, o2, rfl⟩ : ∃ b2 o2, ad = ⟨b2, o2, none⟩ := by
          obtain ⟨g, rfl⟩ := hF.out.spot
          exact ⟨g, 0, rfl⟩
        go_wp2_with fail
        go_loopg [5] i (fun kx s5 wr => ∃ k : Nat, s5 = .int .i64 k ∧ k ≤ i ∧ k ≤ kx ∧ Hid (∀ j, (hj : j < D.length) → k ≤ j → before9 h.o D[j].o = true) ∧ Hid (FreshO w wr (.slice (some ⟨b2, o2, none⟩) i vc) i D))
        case atStart => exact ⟨i, rfl, by omega, by omega, (by show ∀ _, _; intro j hj hij; have := hF.out.ox.1; omega), hF⟩
        case round =>
          obtain ⟨k, rfl, hk, hkk, HJ, hF2⟩ := hrel
          by_cases hk0 : 0 < k
          · obtain ⟨j, hkj⟩ : ∃ j, k = j + 1 := ⟨k - 1, by omega⟩
            have hkz : (k : Int) - 1 = (j : Int) := by omega
            have hkp : (0 : Int) < (k : Int) := by omega
            have hji : (j : Int) < (i : Int) := by omega
            have HKJ := hid hkj
            clear hkj
            obtain ⟨b1, o1, he1, d0, d1, d2, d3, d4, d5⟩ := (HL.out.below hF2.out.bel).ox i hlt
            simp only [Option.some.injEq, Addr.mk.injEq] at he1
            obtain ⟨rfl, rfl, _⟩ := he1
            rw [← HH.out] at d0 d1 d2 d3 d4 d5
            have hjl : j < D.length := by rw [hF2.out.ox.1]; omega
            obtain ⟨b3, o3, he3, c0, c1, c2, c3, c4, c5⟩ := hF2.out.ox.2.2.2 j hjl
            simp only [Option.some.injEq, Addr.mk.injEq] at he3
            obtain ⟨rfl, rfl, _⟩ := he3
            obtain ⟨g, hg⟩ : ∃ g, g = D[j]'hjl := ⟨_, rfl⟩
            rw [← hg] at c0 c1 c2 c3 c4 c5
            have HG := hid hg
            obtain ⟨bf, hbf⟩ : ∃ bf, before9 h.o g.o = bf := ⟨_, rfl⟩
            have HC := hid (fun n : Wk wr => Wk.call (refBefore9_any h.o.C h.o.F h.o.H h.o.X h.va h.vc h.ma h.mc h.o.v h.o.m g.o.C g.o.F g.o.H g.o.X g.va g.vc g.ma g.mc g.o.v g.o.m n.val))
            have hbf2 : before9 ⟨h.o.C, h.o.F, h.o.H, h.o.X, h.o.v, h.o.m⟩ ⟨g.o.C, g.o.F, g.o.H, g.o.X, g.o.v, g.o.m⟩ = bf := hbf
            rw [hbf2] at HC
            have HBF := hid hbf
            have c0 := Wk.cell c0
            have c1 := Wk.cell c1
            have c2 := Wk.cell c2
            have c3 := Wk.cell c3
            have c4 := Wk.cell c4
            have c5 := Wk.cell c5
            have d0 := Wk.cell d0
            have d1 := Wk.cell d1
            have d2 := Wk.cell d2
            have d3 := Wk.cell d3
            have d4 := Wk.cell d4
            have d5 := Wk.cell d5
            clear hg hbf hbf2
            go_wp2_with fail
            refine wp_region_wk (by kernel_rfl) (by kernel_rfl) ?_
            repeat (go_big_quiet_step (first | (go_at_call 47; exact HC.out _) | fail))
            refine wpQuiet_nil ?_
            rintro w6 ⟨⟨_, hb6⟩, rfl⟩
            clear c0 c1 c2 c3 c4 c5 d0 d1 d2 d3 d4 d5
            cases bf
            · have HK1 : Hid (∀ j, (hj : j < D.length) → j + 1 = k → before9 h.o D[j].o = false) := by
                show ∀ _, _
                intro j' hj' e
                obtain rfl : j' = j := by have := HKJ.out; omega
                rw [← HG.out]; exact HBF.out
              clear hkz
              have HF6 := hid (hF2.out.behind hb6)
              clear hb6
              have hox6 := HF6.out.ox
              have HOX6 := hid hox6.2.2.2
              have hDl : D.length = i := hox6.1
              have hkv : (k : Int) ≤ (vc : Int) := by have := hox6.2.1; omega
              have HDL := hid hDl
              have HCUT := hid (cut9 HS.out (k := k) (h := h) (by omega) HJ.out HK1.out)
              have htl : Hid ((D.take k).length = k) := by show _ = _; rw [List.length_take]; omega
              have hdl : Hid ((D.drop k).length = i - k) := by show _ = _; rw [List.length_drop]; omega
              clear hox6 hDl
              have HL6 := hid (HL.out.below HF6.out.bel)
              go_upto_region 9 with (at_builtin; refine wp_app_oxms rfl (.tmp 31) (.tmp 34) rfl (FreshO.empty w6) rfl rfl (l := D.take k) htl.out ((HOX6.out.take k).below (below_alloc _ _)) (by omega) (N := k) (by omega) ?_; intro va1 vc1 w7 hg7; have HG7 := hid hg7; clear hg7)
              have hl7 := HL6.out.below HG7.out.bel
              obtain ⟨b7, o7, he7, c0, c1, c2, c3, c4, c5⟩ := hl7.ox i hlt
              simp only [Option.some.injEq, Addr.mk.injEq] at he7
              obtain ⟨rfl, rfl, _⟩ := he7
              rw [← HH.out] at c0 c1 c2 c3 c4 c5
              clear hl7
              go_upto_region 10 with (at_builtin; refine wp_app_oxms rfl (.tmp 36) (.tmp 41) rfl (HG7.out.behind (below_alloc _ _)) rfl rfl (l := [h]) rfl (oxms_one w7 h _) (by omega) (N := k + 1) rfl ?_; intro va2 vc2 w8 hg8; have HG8 := hid hg8; clear hg8)
              clear c0 c1 c2 c3 c4 c5
              have hox8 := HOX6.out.below HG8.out.bel
              have hd8 := hox8.drop (j := k) (cap := vc) (by rw [HDL.out]; have := HF6.out.ox.2.1; omega)
              clear hox8
              have hki : (k : Int) ≤ (i : Int) := by omega
              have hvk2 : k ≤ vc := by omega
              by_cases hvk : k = vc
              · subst hvk
                rw [if_pos rfl] at hd8
                have HD8 := hid hd8
                clear hd8
                go_wp2_with (at_builtin; refine wp_app_oxms rfl (.tmp 43) (.tmp 46) rfl HG8.out rfl rfl (l := D.drop k) hdl.out HD8.out (by omega) (N := i + 1) (by omega) ?_; intro va3 vc3 w9 hg9; have HG9 := hid hg9; clear hg9)
                go_roundg (l.length - (i + 1))
                case measure => omega
                case rel =>
                  refine ⟨i + 1, _, va3, vc3, rfl, by first | rfl | go_num, by omega, Nat.le_refl _, HG9.out.made HF6.out.bel, ?_, ?_, ?_⟩
                  · show _ = _
                    rw [fold_step9 hlt, ← HH.out, ← hM.out]
                    exact (by rw [List.nil_append, List.append_assoc]; exact HCUT.out)
                  · show ∀ _, _
                    intro x hx
                    have hl : h ∈ l := by rw [HH.out]; exact List.getElem_mem hlt
                    rw [List.nil_append] at hx; simp at hx; rcases hx with hx | rfl | hx; exact hD.out _ (List.mem_of_mem_take hx); exact hl; exact hD.out _ (List.mem_of_mem_drop hx)
                  · show _ → _
                    intro hv
                    have hox := HG9.out.ox
                    rw [hv] at hox
                    exfalso
                    obtain ⟨e1, _, _, e2⟩ := hox
                    obtain ⟨b, off, e, _⟩ := e2 0 (by omega)
                    cases e
              · have hvk3 : ¬ vc = k := fun e => hvk e.symm
                rw [if_neg hvk3] at hd8
                have HD8 := hid hd8
                clear hd8
                go_wp2_with (at_builtin; refine wp_app_oxms rfl (.tmp 43) (.tmp 46) rfl HG8.out rfl rfl (l := D.drop k) hdl.out HD8.out (by omega) (N := i + 1) (by omega) ?_; intro va3 vc3 w9 hg9; have HG9 := hid hg9; clear hg9)
                go_roundg (l.length - (i + 1))
                case measure => omega
                case rel =>
                  refine ⟨i + 1, _, va3, vc3, rfl, by first | rfl | go_num, by omega, Nat.le_refl _, HG9.out.made HF6.out.bel, ?_, ?_, ?_⟩
                  · show _ = _
                    rw [fold_step9 hlt, ← HH.out, ← hM.out]
                    exact (by rw [List.nil_append, List.append_assoc]; exact HCUT.out)
                  · show ∀ _, _
                    intro x hx
                    have hl : h ∈ l := by rw [HH.out]; exact List.getElem_mem hlt
                    rw [List.nil_append] at hx; simp at hx; rcases hx with hx | rfl | hx; exact hD.out _ (List.mem_of_mem_take hx); exact hl; exact hD.out _ (List.mem_of_mem_drop hx)
                  · show _ → _
                    intro hv
                    have hox := HG9.out.ox
                    rw [hv] at hox
                    exfalso
                    obtain ⟨e1, _, _, e2⟩ := hox
                    obtain ⟨b, off, e, _⟩ := e2 0 (by omega)
                    cases e
            · go_wp2_with fail
              go_roundg j
              case measure => have := HKJ.out; omega
              case rel =>
                refine ⟨j, by first | rfl | go_num, by have := HKJ.out; omega, Nat.le_refl _, ?_, hF2.out.behind hb6⟩
                show ∀ _, _
                intro j' hj' hle
                by_cases e : j' = j
                · subst e; rw [← HG.out]; exact HBF.out
                · exact HJ.out j' hj' (by have := HKJ.out; omega)
          · have hkn : ¬ (0 : Int) < (k : Int) := by omega
            have hkd : decide ((0 : Int) < (k : Int)) = false := decide_eq_false hkn
            have HK1 : Hid (∀ j, (hj : j < D.length) → j + 1 = k → before9 h.o D[j].o = false) := by
              show ∀ _, _
              intro j' hj' e
              omega
            go_wp2_with fail
            refine wp_region_wk (by kernel_rfl) (by kernel_rfl) ?_
            repeat (go_big_quiet_step (fail))
            refine wpQuiet_nil ?_
            rintro w6 ⟨⟨_, hb6⟩, rfl⟩
            have HF6 := hid (hF2.out.behind hb6)
            clear hb6
            have hox6 := HF6.out.ox
            have HOX6 := hid hox6.2.2.2
            have hDl : D.length = i := hox6.1
            have hkv : (k : Int) ≤ (vc : Int) := by have := hox6.2.1; omega
            have HDL := hid hDl
            have HCUT := hid (cut9 HS.out (k := k) (h := h) (by omega) HJ.out HK1.out)
            have htl : Hid ((D.take k).length = k) := by show _ = _; rw [List.length_take]; omega
            have hdl : Hid ((D.drop k).length = i - k) := by show _ = _; rw [List.length_drop]; omega
            clear hox6 hDl
            have HL6 := hid (HL.out.below HF6.out.bel)
            go_upto_region 9 with (at_builtin; refine wp_app_oxms rfl (.tmp 31) (.tmp 34) rfl (FreshO.empty w6) rfl rfl (l := D.take k) htl.out ((HOX6.out.take k).below (below_alloc _ _)) (by omega) (N := k) (by omega) ?_; intro va1 vc1 w7 hg7; have HG7 := hid hg7; clear hg7)
            have hl7 := HL6.out.below HG7.out.bel
            obtain ⟨b7, o7, he7, c0, c1, c2, c3, c4, c5⟩ := hl7.ox i hlt
            simp only [Option.some.injEq, Addr.mk.injEq] at he7
            obtain ⟨rfl, rfl, _⟩ := he7
            rw [← HH.out] at c0 c1 c2 c3 c4 c5
            clear hl7
            go_upto_region 10 with (at_builtin; refine wp_app_oxms rfl (.tmp 36) (.tmp 41) rfl (HG7.out.behind (below_alloc _ _)) rfl rfl (l := [h]) rfl (oxms_one w7 h _) (by omega) (N := k + 1) rfl ?_; intro va2 vc2 w8 hg8; have HG8 := hid hg8; clear hg8)
            clear c0 c1 c2 c3 c4 c5
            have hox8 := HOX6.out.below HG8.out.bel
            have hd8 := hox8.drop (j := k) (cap := vc) (by rw [HDL.out]; have := HF6.out.ox.2.1; omega)
            clear hox8
            have hki : (k : Int) ≤ (i : Int) := by omega
            have hvk2 : k ≤ vc := by omega
            by_cases hvk : k = vc
            · subst hvk
              rw [if_pos rfl] at hd8
              have HD8 := hid hd8
              clear hd8
              go_wp2_with (at_builtin; refine wp_app_oxms rfl (.tmp 43) (.tmp 46) rfl HG8.out rfl rfl (l := D.drop k) hdl.out HD8.out (by omega) (N := i + 1) (by omega) ?_; intro va3 vc3 w9 hg9; have HG9 := hid hg9; clear hg9)
              go_roundg (l.length - (i + 1))
              case measure => omega
              case rel =>
                refine ⟨i + 1, _, va3, vc3, rfl, by first | rfl | go_num, by omega, Nat.le_refl _, HG9.out.made HF6.out.bel, ?_, ?_, ?_⟩
                · show _ = _
                  rw [fold_step9 hlt, ← HH.out, ← hM.out]
                  exact (by rw [List.nil_append, List.append_assoc]; exact HCUT.out)
                · show ∀ _, _
                  intro x hx
                  have hl : h ∈ l := by rw [HH.out]; exact List.getElem_mem hlt
                  rw [List.nil_append] at hx; simp at hx; rcases hx with hx | rfl | hx; exact hD.out _ (List.mem_of_mem_take hx); exact hl; exact hD.out _ (List.mem_of_mem_drop hx)
                · show _ → _
                  intro hv
                  have hox := HG9.out.ox
                  rw [hv] at hox
                  exfalso
                  obtain ⟨e1, _, _, e2⟩ := hox
                  obtain ⟨b, off, e, _⟩ := e2 0 (by omega)
                  cases e
            · have hvk3 : ¬ vc = k := fun e => hvk e.symm
              rw [if_neg hvk3] at hd8
              have HD8 := hid hd8
              clear hd8
              go_wp2_with (at_builtin; refine wp_app_oxms rfl (.tmp 43) (.tmp 46) rfl HG8.out rfl rfl (l := D.drop k) hdl.out HD8.out (by omega) (N := i + 1) (by omega) ?_; intro va3 vc3 w9 hg9; have HG9 := hid hg9; clear hg9)
              go_roundg (l.length - (i + 1))
              case measure => omega
              case rel =>
                refine ⟨i + 1, _, va3, vc3, rfl, by first | rfl | go_num, by omega, Nat.le_refl _, HG9.out.made HF6.out.bel, ?_, ?_, ?_⟩
                · show _ = _
                  rw [fold_step9 hlt, ← HH.out, ← hM.out]
                  exact (by rw [List.nil_append, List.append_assoc]; exact HCUT.out)
                · show ∀ _, _
                  intro x hx
                  have hl : h ∈ l := by rw [HH.out]; exact List.getElem_mem hlt
                  rw [List.nil_append] at hx; simp at hx; rcases hx with hx | rfl | hx; exact hD.out _ (List.mem_of_mem_take hx); exact hl; exact hD.out _ (List.mem_of_mem_drop hx)
                · show _ → _
                  intro hv
                  have hox := HG9.out.ox
                  rw [hv] at hox
                  exfalso
                  obtain ⟨e1, _, _, e2⟩ := hox
                  obtain ⟨b, off, e, _⟩ := e2 0 (by omega)
                  cases e
    · have hltz : ¬ (i : Int) < (l.length : Int) := by omega
      obtain rfl : i = l.length := by omega
      go_wp2_with fail
      obtain ⟨hn, _, _, hox⟩ := hF.out.ox
      exact bodyPost_ret (v := .slice va l.length vc) (by simp [results, Tryz.results24, go_sem]) rfl ⟨va, vc, D, rfl, hn, by rw [hM.out, List.take_length]; rfl, hox, hD.out, hF.out.bel⟩
end Go.Proofs.YtpmkfkanolhocaaGreat
namespace Go.Proofs.YtpmkfkanolhocaaGreat
open Go.RowKit
set_option linter.unusedVariables false
set_option maxRecDepth 100000

end Go.Proofs.YtpmkfkanolhocaaGreat
namespace Go.Proofs.YtpmkfkanolhocaaGreat
open Go.RowKit
set_option linter.unusedVariables false
set_option maxRecDepth 100000

theorem needs_in {n : Int} (h : 0 ≤ n ∧ n < 40) : (∀ x ∈ needL n ++ [n], (0 ≤ x ∧ x < 40)) ∧ (needL n).length ≤ 20 := by
  rcases forty h with rfl | rfl | rfl | rfl | rfl | rfl | rfl | rfl | rfl | rfl | rfl | rfl | rfl | rfl | rfl | rfl | rfl | rfl | rfl | rfl | rfl | rfl | rfl | rfl | rfl | rfl | rfl | rfl | rfl | rfl | rfl | rfl | rfl | rfl | rfl | rfl | rfl | rfl | rfl | rfl <;> decide +kernel
theorem size_in {n : Int} (h : 0 ≤ n ∧ n < 40) : 1 ≤ (fld n).z ∧ (fld n).z ≤ 16 := by
  rcases forty h with rfl | rfl | rfl | rfl | rfl | rfl | rfl | rfl | rfl | rfl | rfl | rfl | rfl | rfl | rfl | rfl | rfl | rfl | rfl | rfl | rfl | rfl | rfl | rfl | rfl | rfl | rfl | rfl | rfl | rfl | rfl | rfl | rfl | rfl | rfl | rfl | rfl | rfl | rfl | rfl <;> decide +kernel
theorem num_in {n : Int} (h : 0 ≤ n ∧ n < 40) : ∀ i, i < 21 → (fld ((needL n ++ [n]).getD (i + 1) 0)).v ≠ [] → (fld ((needL n ++ [n]).getD i 0)).z ≤ 8 := by
  rcases forty h with rfl | rfl | rfl | rfl | rfl | rfl | rfl | rfl | rfl | rfl | rfl | rfl | rfl | rfl | rfl | rfl | rfl | rfl | rfl | rfl | rfl | rfl | rfl | rfl | rfl | rfl | rfl | rfl | rfl | rfl | rfl | rfl | rfl | rfl | rfl | rfl | rfl | rfl | rfl | rfl <;> decide +kernel
theorem ints_by9 {w w' : World} {row : Option Nat} {a : Option Addr} {l : List Int} (h : Ints .u8 w a l) (hb : w.grownBy w' row) (hne : ∀ q : Addr, a = some q → some q.block ≠ row) : Ints .u8 w' a l := by
  intro i hi
  obtain ⟨b, off, ha, hc⟩ := h i hi
  exact ⟨b, off, ha, hb.cell hc (hne ⟨b, off, none⟩ ha)⟩
theorem made8 (n : Nat) : (madeCells #[.int .u8 0] n).toList = (List.replicate n (0 : Int)).map (Value.int .u8) := by
  apply List.ext_getElem
  · simp [madeCells]
  · intro i h1 h2
    simp [madeCells, Nat.mod_one]
theorem make9 {n : Nat} (hn : n ≤ 1000) : ∃ R : Array Value, Hid (R.toList = (List.replicate n (0 : Int)).map (Value.int .u8)) ∧ ∀ w, (Instr.makeSlice 31 (.int .i64 (n : Int)) (.int .i64 (n : Int))).run Tryz.prog w = .ok (.slice (some ⟨w.heap.size, 0, none⟩) n n) (w.alloc (.cells R 5)) := by
  have hu := Tryz.underlying31
  obtain ⟨i, hi, hz, hs, hb⟩ : ∃ i, Tryz.prog.info? 5 = some i ∧ i.zero = some (.int .u8 0) ∧ i.size = 1 ∧ i.bytes = 1 := by
    have h : (Tryz.prog.info? 5).map (fun i => (i.zero, i.size, i.bytes)) = some (some (.int .u8 0), 1, 1) := by kernel_rfl
    cases hi : Tryz.prog.info? 5 with
    | none => rw [hi] at h; simp at h
    | some i => rw [hi] at h; simp at h; exact ⟨i, rfl, h.1, h.2.1, h.2.2⟩
  refine ⟨_, made8 n, fun w => ?_⟩
  have hr := run_make (P := Tryz.prog) w 31 5 i (.int .u8 0) hu hi hz .i64 .i64 n n (by omega) (by omega) (by rw [hb]; omega) (by omega)
  simp only [Int.toNat_natCast, hs, Nat.mul_one] at hr
  exact hr
theorem box_arr {w : World} {R : Array Value} {L : List Value} {e : TypeId} (h : R.toList = L) : BoxL (w.alloc (.cells R e)) w.heap.size L := by
  subst h
  have := BoxL.new w R.toList e
  simpa using this
theorem below_drew9 {B : Nat} {w w' : World} (h : Below B w w') : Below B w w'.drew := h.drew
theorem arm_a {W : World} {R : Array Value} {L V : List Value} {e e' : TypeId} (h : R.toList = L) : BoxL ((W.alloc (.cells R e)).alloc (.cells V.toArray e')).drew (W.heap.size + 1) V ∧ BoxL ((W.alloc (.cells R e)).alloc (.cells V.toArray e')).drew W.heap.size L ∧ Below W.heap.size W ((W.alloc (.cells R e)).alloc (.cells V.toArray e')).drew := by
  refine ⟨?_, ((box_arr h).below (below_alloc _ _)).drew, (below_on (below_alloc _ _) (below_alloc _ _)).drew⟩
  have := (BoxL.new (W.alloc (.cells R e)) V e').drew
  rwa [World.size_alloc] at this
theorem arm_b {W : World} {R : Array Value} {L V : List Value} {e e' : TypeId} (h : R.toList = L) : BoxL ((W.alloc (.cells V.toArray e')).alloc (.cells R e)).drew W.heap.size V ∧ BoxL ((W.alloc (.cells V.toArray e')).alloc (.cells R e)).drew (W.heap.size + 1) L ∧ Below W.heap.size W ((W.alloc (.cells V.toArray e')).alloc (.cells R e)).drew := by
  refine ⟨((BoxL.new W V e').below (below_alloc _ _)).drew, ?_, (below_on (below_alloc _ _) (below_alloc _ _)).drew⟩
  have := (box_arr (w := W.alloc (.cells V.toArray e')) (e := e) h).drew
  rwa [World.size_alloc] at this
theorem one_set (k : Nat) : (List.replicate (k + 1) (0 : Int)).set k 1 = List.replicate k 0 ++ [1] := by
  induction k with
  | zero => rfl
  | succ k ih => rw [List.replicate_succ, List.set_cons_succ, ih]; rfl
theorem chain_len (r : Nat) : ∀ A : List Int, (chain9 r A).length = A.length
  | [] => rfl
  | [a] => rfl
  | a :: b :: t => by rw [chain9, List.length_cons, chain_len r (b :: t)]; rfl
theorem chain_get (r : Nat) : ∀ (A : List Int) (i : Nat) (hi : i < A.length), (chain9 r A)[i]? = some ⟨32768, A[i], false, 0, if h : i + 1 < A.length then hold9 r A[i] A[i + 1] else one9 (fld A[i]).z, []⟩
  | [], i, hi => by simp at hi
  | [a], i, hi => by
    obtain rfl : i = 0 := by simp at hi; exact hi
    simp [chain9]
  | a :: b :: t, 0, hi => by simp [chain9]
  | a :: b :: t, i + 1, hi => by
    rw [chain9, List.getElem?_cons_succ, chain_get r (b :: t) i (by simpa using hi)]
    simp

/-- the values of a list that is being made: where their bytes lie, the list itself does not -/
def ChainIn (w : World) (v : Value) (D : List Ent9) : Prop :=
  ∀ h ∈ D, EntIn w h ∧ h.o.v.length ≤ 16 ∧ h.o.m.length ≤ 16 ∧ h.ma = none ∧ ∀ q : Addr, h.va = some q → q.block < w.heap.size ∧ v.ownBlock ≠ some q.block
theorem ChainIn.below {w w' : World} {v : Value} {D : List Ent9} (h : ChainIn w v D) (hb : Below w.heap.size w w') : ChainIn w' v D := by
  intro x hx
  obtain ⟨h1, h2, h3, h4, h5⟩ := h x hx
  exact ⟨h1.below hb, h2, h3, h4, fun q hq => ⟨Nat.lt_of_lt_of_le (h5 q hq).1 hb.size, (h5 q hq).2⟩⟩
theorem ChainIn.grew {w w' : World} {v v' : Value} {D : List Ent9} (h : ChainIn w v D) (hb : w.grownBy w' v.ownBlock) (hm : Moved w v v') : ChainIn w' v' D := by
  intro x hx
  obtain ⟨h1, h2, h3, h4, h5⟩ := h x hx
  refine ⟨⟨?_, ?_, h1.ov, h1.om, h1.cm, h1.c, h1.f, h1.x⟩, h2, h3, h4, fun q hq => ⟨Nat.lt_of_lt_of_le (h5 q hq).1 hb.size, ?_⟩⟩
  · intro i hil
    obtain ⟨b, off, ha, hc⟩ := h1.iv i hil
    exact ⟨b, off, ha, hb.cell hc (h5 _ ha).2.symm⟩
  · intro i hil
    obtain ⟨b, off, ha, hc⟩ := h1.im i hil
    rw [h4] at ha; cases ha
  · rcases hm with e | ⟨g, e, hg⟩
    · rw [e]; exact (h5 q hq).2
    · rw [e]
      intro e2
      have := Option.some.inj e2
      have := (h5 q hq).1
      omega
theorem ChainIn.snoc {w : World} {v : Value} {D : List Ent9} {h : Ent9} (hD : ChainIn w v D) (hh : ChainIn w v [h]) : ChainIn w v (D ++ [h]) := by
  intro x hx
  rcases List.mem_append.1 hx with hx | hx
  · exact hD x hx
  · exact hh x hx
theorem BoxL.world9 {w : World} {b : Nat} {l : List Value} (h : BoxL w b l) : ∃ x, x = w := ⟨w, rfl⟩
/-- the block has no more than six cells -/
def Six9 (w : World) (X : Nat) : Prop := ∀ o, 6 ≤ o → w.cell? ⟨X, o, none⟩ = none
theorem Six9.new (w : World) (V : List Value) (e : TypeId) (hV : V.length = 6) : Six9 (w.alloc (.cells V.toArray e)) w.heap.size := by
  intro o ho
  rw [cell_of_row _ w.heap.size o V.toArray e (0, 0) (heap_alloc_new w _)]
  simp; omega
theorem Six9.by {w w' : World} {X : Nat} {row : Option Nat} (h : Six9 w X) (hlt : X < w.heap.size) (hb : w.grownBy w' row) (hne : some X ≠ row) : Six9 w' X :=
  fun o ho => (World.cell?_of_block (a := ⟨X, o, none⟩) (hb.block X hlt hne)).trans (h o ho)
theorem six_a {W : World} {R : Array Value} {V : List Value} {e e' : TypeId} (hV : V.length = 6) : Six9 ((W.alloc (.cells R e)).alloc (.cells V.toArray e')).drew (W.heap.size + 1) := by
  have := Six9.new (W.alloc (.cells R e)) V e' hV
  rw [World.size_alloc] at this
  exact this
theorem six_b {W : World} {R : Array Value} {V : List Value} {e e' : TypeId} (hV : V.length = 6) : Six9 ((W.alloc (.cells V.toArray e')).alloc (.cells R e)).drew W.heap.size := by
  have := (Six9.new W V e' hV).by (w' := (W.alloc (.cells V.toArray e')).alloc (.cells R e)) (by simp) (by_none_alloc _ _) (by simp)
  exact this
theorem vals_not {n : Int} (h : 0 ≤ n ∧ n < 40) : ∀ x ∈ (fld n).v, x ≠ 0 := by
  rcases forty h with rfl | rfl | rfl | rfl | rfl | rfl | rfl | rfl | rfl | rfl | rfl | rfl | rfl | rfl | rfl | rfl | rfl | rfl | rfl | rfl | rfl | rfl | rfl | rfl | rfl | rfl | rfl | rfl | rfl | rfl | rfl | rfl | rfl | rfl | rfl | rfl | rfl | rfl | rfl | rfl <;> decide +kernel
theorem far_six {w : World} {X vb m : Nat} {vk : Int} {q : Int} {u v : Value} (hX : BoxL w X [.int .i64 32768, .int .i64 q, .bool false, .int .u64 0, u, v]) (hS : Six9 w X) (hu : ∀ x, u ≠ .int .u64 x) (hv' : ∀ x, v ≠ .int .u64 x) (hk : vk ≠ 0) (hv : w.cell? ⟨vb, m, none⟩ = some (.int .u64 vk)) : ¬ vb = X := by
  rintro rfl
  obtain ⟨x0, x1, x2, x3, x4, x5⟩ := hX.six
  match m, hv with
  | 0, hv => rw [x0] at hv; simp at hv
  | 1, hv => rw [x1] at hv; simp at hv
  | 2, hv => rw [x2] at hv; simp at hv
  | 3, hv => rw [x3] at hv; simp at hv; omega
  | 4, hv => rw [x4] at hv; exact hu _ (Option.some.inj hv)
  | 5, hv => rw [x5] at hv; exact hv' _ (Option.some.inj hv)
  | m + 6, hv => rw [hS (m + 6) (by omega)] at hv; cases hv
theorem keep_far {w : World} {X x Y m : Nat} {v u : Value} (h : w.cell? ⟨Y, m, none⟩ = some v) (hne : ¬ Y = X) : (w.setCell ⟨X, x, none⟩ u).cell? ⟨Y, m, none⟩ = some v :=
  (World.cell?_setCell_other _ _ _ _ (by first | (intro e; injection e with e1; exact hne e1) | (intro e; injection e with e1; exact hne e1.symm))).trans h
theorem own_lt9 {W : World} {e : TypeId} {size n : Nat} {v : Value} {xs : List Value} (h : W.ownsRow 0 e size v n xs) {b : Nat} (hb : v.ownBlock = some b) : b < W.heap.size := by
  rcases h.2 with ⟨rfl, _⟩ | ⟨g, cap, cur, rfl, _, hg, _⟩
  · cases hb
  · cases hb; exact (Array.getElem?_eq_some_iff.1 hg).1
theorem ints_box9 {w : World} {B : Nat} {l : List Int} (h : BoxL w B (l.map (Value.int .u8))) : Ints .u8 w (some ⟨B, 0, none⟩) l := by
  intro i hi
  refine ⟨B, 0, rfl, ?_⟩
  rw [Nat.zero_add]
  exact h.cell i _ (by simp [hi])
/-- append(s, x...), of lists of values; what has turned is told -/
theorem wp_app_oxmsG {w0 w : World} {ops : Array Oper} {rest : List Oper} {o : Oper} {a : Act} {Q : Exit → Act → World → Prop} (hgd : o.guard = none) (s x : Operand)
    (ho : o.op = .call { callee := .builtin .append, args := #[s, x], argTypes := #[22, 22] }) {v : Value} {n : Nat} {D : List Ent9} (hf : FreshO w0 w v n D) (hs : a.eval s = v)
    {ad : Addr} {m c : Nat} {l : List Ent9} (hx : a.eval x = .slice (some ad) m c) (hm : l.length = m) (hO : Oxms w (some ad) l) (hb : n + m ≤ 1000) {N : Nat} (hN : n + m = N)
    (h : ∀ va' vc' w', FreshO w0 w' (.slice va' N vc') N (D ++ l) → w.grownBy w' v.ownBlock → Moved w v (.slice va' N vc') → wpList Tryz.prog ops Q rest (a.put o.dst (.slice va' N vc')) w') : wpList Tryz.prog ops Q (o :: rest) a w := by
  subst hm
  subst hN
  refine wp_app_many hgd s x ho elemOxm hs hf.own hx (oxmCells l) (oxmCells_length l) (oxms_cells hO) (oxm_flat l) (by omega) (by omega) ?_
  intro v' w' hg
  obtain ⟨va', vc', rfl⟩ := own_shape9 hg.own
  have hg2 := hg
  rw [← oxmCells_append] at hg2
  exact h va' vc' w' (hf.step hg2) hg.by_ hg.moved
end Go.Proofs.YtpmkfkanolhocaaGreat
