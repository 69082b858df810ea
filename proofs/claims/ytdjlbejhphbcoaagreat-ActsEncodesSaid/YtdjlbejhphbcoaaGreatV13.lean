/- Put together out of several texts. -/
import Derived.Test.YtdjlbejhphbcoaaGreatV11
namespace Go.Proofs.YtdjlbejhphbcoaaGreat
open Go.RowKit
set_option linter.unusedVariables false
set_option maxRecDepth 100000

/-- the bytes of actions, one behind the other; none: one of them may not be -/
def raw13 : List Act12 → Option (List Int)
  | [] => some []
  | a :: r => match act12 a, raw13 r with
    | some x, some y => some (x ++ y)
    | _, _ => none
/-- a list's bytes, or the error -/
def enc13 (l : List Act12) : Except Int (List Int) :=
  match raw13 l with
  | none => .error 10001
  | some x => if 64 < l.length ∨ 65528 < x.length then .error 10001 else .ok x
/-- bytes as actions, k of them at most -/
def cut13 : Nat → List Int → Except Int (List Act12)
  | 0, b => if b = [] then .ok [] else .error 520
  | k + 1, b => if b = [] then .ok [] else match dec12 b with
    | .error q => .error q
    | .ok (a, n) => match cut13 k (b.drop n) with
      | .error q => .error q
      | .ok l => .ok (a :: l)
def dec13 (b : List Int) : Except Int (List Act12) :=
  match cut13 64 b with
  | .error q => .error q
  | .ok l => if 65528 < b.length then .error 514 else .ok l

theorem raw_cons {a : Act12} {r : List Act12} {z : List Int} (h : raw13 (a :: r) = some z) : ∃ x y, act12 a = some x ∧ raw13 r = some y ∧ z = x ++ y := by
  unfold raw13 at h
  cases hx : act12 a with
  | none => rw [hx] at h; cases h
  | some x =>
    cases hy : raw13 r with
    | none => rw [hx, hy] at h; cases h
    | some y => rw [hx, hy] at h; cases h; exact ⟨x, y, rfl, rfl, rfl⟩
theorem raw_make {a : Act12} {r : List Act12} {x y : List Int} (hx : act12 a = some x) (hy : raw13 r = some y) : raw13 (a :: r) = some (x ++ y) := by
  unfold raw13
  rw [hx, hy]
theorem raw_append {l m : List Act12} {x y : List Int} (hx : raw13 l = some x) (hy : raw13 m = some y) : raw13 (l ++ m) = some (x ++ y) := by
  induction l generalizing x with
  | nil => cases hx; exact hy
  | cons a r ih =>
    obtain ⟨u, v, h1, h2, rfl⟩ := raw_cons hx
    rw [List.cons_append, List.append_assoc]
    exact raw_make h1 (ih h2)
theorem raw_parts {l m : List Act12} {z : List Int} (h : raw13 (l ++ m) = some z) : ∃ x y, raw13 l = some x ∧ raw13 m = some y ∧ z = x ++ y := by
  induction l generalizing z with
  | nil => exact ⟨[], z, rfl, h, rfl⟩
  | cons a r ih =>
    rw [List.cons_append] at h
    obtain ⟨u, v, h1, h2, rfl⟩ := raw_cons h
    obtain ⟨x, y, h3, h4, rfl⟩ := ih h2
    exact ⟨u ++ x, y, raw_make h1 h3, h4, by rw [List.append_assoc]⟩
theorem raw_each {l : List Act12} {z : List Int} (h : raw13 l = some z) : (∀ a ∈ l, ∃ x, act12 a = some x) ∧ 8 * l.length ≤ z.length ∧ z.length % 8 = 0 := by
  induction l generalizing z with
  | nil => cases h; exact ⟨(fun a ha => by cases ha), by simp, by simp⟩
  | cons a r ih =>
    obtain ⟨x, y, h1, h2, rfl⟩ := raw_cons h
    obtain ⟨i1, i2, i3⟩ := ih h2
    obtain ⟨_, _, _, _, _, h8, hm, _⟩ := act_write h1
    refine ⟨fun b hb => ?_, ?_, ?_⟩
    · rcases List.mem_cons.1 hb with rfl | hb
      · exact ⟨x, h1⟩
      · exact i1 b hb
    · rw [List.length_append, List.length_cons]; omega
    · rw [List.length_append]; omega
theorem cut_nil (k : Nat) : cut13 k [] = .ok [] := by cases k <;> rfl
theorem cut_step {k : Nat} {b : List Int} {a : Act12} {n : Nat} (hb : b ≠ []) (h : dec12 b = .ok (a, n)) : cut13 (k + 1) b = match cut13 k (b.drop n) with
    | .error q => .error q
    | .ok l => .ok (a :: l) := by
  rw [cut13, if_neg hb, h]
theorem cut_err {k : Nat} {b : List Int} {q : Int} (hb : b ≠ []) (h : dec12 b = .error q) : cut13 (k + 1) b = .error q := by
  rw [cut13, if_neg hb, h]
theorem cut_many {b : List Int} (hb : b ≠ []) : cut13 0 b = .error 520 := by rw [cut13, if_neg hb]
/-- a port comes into ports that rise -/
def insPort (n : Int) : List Int → List Int
  | [] => [n]
  | x :: r => if n < x then n :: x :: r else if n = x then x :: r else x :: insPort n r
def outs13 (l : List Act12) : List Int := (l.filter fun a => a.T == 0).map Act12.A
def ports13 (l : List Act12) : List Int := (outs13 l).foldl (fun p n => insPort n p) []
theorem mem_insPort {n y : Int} {p : List Int} : y ∈ insPort n p ↔ y = n ∨ y ∈ p := by
  induction p with
  | nil => simp [insPort]
  | cons x r ih =>
    unfold insPort
    split
    · simp
    · split
      · rename_i e; subst e; simp
      · rw [List.mem_cons, ih, List.mem_cons]
        constructor
        · rintro (h | h | h)
          · exact .inr (.inl h)
          · exact .inl h
          · exact .inr (.inr h)
        · rintro (h | h | h)
          · exact .inr (.inl h)
          · exact .inl h
          · exact .inr (.inr h)
theorem rise_insPort {n : Int} {p : List Int} (h : p.Pairwise (· < ·)) : (insPort n p).Pairwise (· < ·) := by
  induction p with
  | nil => simp [insPort]
  | cons x r ih =>
    obtain ⟨h1, h2⟩ := List.pairwise_cons.1 h
    unfold insPort
    split
    · rename_i k
      refine List.pairwise_cons.2 ⟨fun y hy => ?_, h⟩
      rcases List.mem_cons.1 hy with rfl | hy
      · exact k
      · have := h1 y hy; omega
    · split
      · exact h
      · refine List.pairwise_cons.2 ⟨fun y hy => ?_, ih h2⟩
        rcases mem_insPort.1 hy with rfl | hy
        · omega
        · exact h1 y hy
theorem ports_all (l : List Int) : ∀ p : List Int, p.Pairwise (· < ·) → (l.foldl (fun p n => insPort n p) p).Pairwise (· < ·) ∧ ∀ y, y ∈ l.foldl (fun p n => insPort n p) p ↔ y ∈ l ∨ y ∈ p := by
  induction l with
  | nil => intro p hp; exact ⟨hp, fun y => by simp⟩
  | cons n r ih =>
    intro p hp
    obtain ⟨i1, i2⟩ := ih (insPort n p) (rise_insPort hp)
    refine ⟨i1, fun y => ?_⟩
    rw [List.foldl_cons, i2, mem_insPort, List.mem_cons]
    constructor
    · rintro (h | h | h)
      · exact .inl (.inr h)
      · exact .inl (.inl h)
      · exact .inr h
    · rintro ((h | h) | h)
      · exact .inr (.inl h)
      · exact .inl h
      · exact .inr (.inr h)
theorem ports_rise (l : List Act12) : (ports13 l).Pairwise (· < ·) := (ports_all _ [] List.Pairwise.nil).1
theorem mem_ports {l : List Act12} {y : Int} : y ∈ ports13 l ↔ ∃ a ∈ l, a.T = 0 ∧ a.A = y := by
  unfold ports13
  rw [(ports_all _ [] List.Pairwise.nil).2 y]
  unfold outs13
  simp [and_assoc]
/-- lists that rise and hold the same are the same -/
theorem rise_ext {p q : List Int} (hp : p.Pairwise (· < ·)) (hq : q.Pairwise (· < ·)) (h : ∀ y, y ∈ p ↔ y ∈ q) : p = q := by
  induction p generalizing q with
  | nil =>
    cases q with
    | nil => rfl
    | cons y r => have := (h y).2 (by simp); cases this
  | cons x r ih =>
    cases q with
    | nil => have := (h x).1 (by simp); cases this
    | cons y s =>
      obtain ⟨p1, p2⟩ := List.pairwise_cons.1 hp
      obtain ⟨q1, q2⟩ := List.pairwise_cons.1 hq
      have hxy : x = y := by
        have h1 := (h x).1 (by simp)
        have h2 := (h y).2 (by simp)
        rcases List.mem_cons.1 h1 with e | e
        · exact e
        · rcases List.mem_cons.1 h2 with e2 | e2
          · exact e2.symm
          · have := q1 x e; have := p1 y e2; omega
      subst hxy
      rw [ih p2 q2]
      intro z
      constructor
      · intro hz
        rcases List.mem_cons.1 ((h z).1 (by simp [hz])) with rfl | e
        · have := p1 z hz; omega
        · exact e
      · intro hz
        rcases List.mem_cons.1 ((h z).2 (by simp [hz])) with rfl | e
        · have := q1 z hz; omega
        · exact e
end Go.Proofs.YtdjlbejhphbcoaaGreat
