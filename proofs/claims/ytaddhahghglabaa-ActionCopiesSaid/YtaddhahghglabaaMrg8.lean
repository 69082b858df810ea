/- Put together out of several texts: what the laws of earlier stages left. -/
import Derived.Test.YtaddhahghglabaaMrg7
import Derived.Test.YtaddhahghglabaaMrg3
namespace Go.Proofs.Ytaddhahghglabaa
open Go.RowKit
set_option linter.unusedVariables false

def bytes10 (o : Ox9) : List Int := oxmBytes o.C o.F o.H o.X o.v o.m
def right10 (o : Ox9) : Bool := rightB o.C o.F o.H o.X o.v o.m
def body10 (l : List Ox9) : List Int := l.flatMap bytes10
def zeros10 (n : Nat) : Nat := (8 - n % 8) % 8
def len10 (l : List Ox9) : Nat := 4 + (body10 l).length
def head10 (n : Nat) : List Int := bytesL 1 2 ++ (bytesL (n : Int) 2 ++ [])
def match10 (l : List Ox9) : List Int := head10 (len10 l) ++ body10 l ++ List.replicate (zeros10 (len10 l)) 0
def isMatch10 (l : List Ox9) : Bool := l.all right10 && ((check9 l).2 == 0)
def ox10 (o : Oxm8) : Ox9 := ⟨o.C, o.F, o.H, o.X, o.v, o.m⟩
/-- the values that bytes are, up to the first error; and the error -/
def valsF : Nat → List Int → List Ox9 × Int
  | 0, _ => ([], 0)
  | k + 1, b => if b = [] then ([], 0) else match decL b with
    | .error q => ([], q)
    | .ok o => (ox10 o :: (valsF k (b.drop o.n)).1, (valsF k (b.drop o.n)).2)
def vals10 (b : List Int) : List Ox9 × Int := valsF b.length b
/-- the error of values: the check's comes first -/
def valE (b : List Int) : Int := if (check9 (vals10 b).1).2 ≠ 0 then (check9 (vals10 b).1).2 else (vals10 b).2
def num10 (b : List Int) : Int := numL ((b.drop 2).take 2)
/-- the match with which bytes begin, and how many it has; or the error -/
def matchL (b : List Int) : Except Int (List Ox9 × Nat) :=
  if b.length < 4 then .error 1026
  else if numL (b.take 2) ≠ 1 then .error 1025
  else if num10 b < 4 ∨ 65528 < num10 b ∨ b.length < (num10 b).toNat + zeros10 (num10 b).toNat then .error 1026
  else if valE ((b.take (num10 b).toNat).drop 4) ≠ 0 then .error (valE ((b.take (num10 b).toNat).drop 4))
  else if (((b.drop (num10 b).toNat).take (zeros10 (num10 b).toNat)).any (fun x => x != 0)) = true then .error 1026
  else .ok ((vals10 ((b.take (num10 b).toNat).drop 4)).1, (num10 b).toNat + zeros10 (num10 b).toNat)

theorem zeros_lt10 (n : Nat) : zeros10 n < 8 := by unfold zeros10; omega
theorem zeros_even10 (n : Nat) : (n + zeros10 n) % 8 = 0 := by unfold zeros10; omega
theorem dec_pos10 {b : List Int} {o : Oxm8} (h : decL b = .ok o) : 4 ≤ o.n := by
  have h := dec_raw h
  unfold rawL at h
  split at h
  · cases h
  · split at h
    · cases h
    · split at h
      · cases h
      · cases h; simp
theorem dec_err_pos10 {b : List Int} {q : Int} (h : decL b = .error q) : q ≠ 0 := by
  unfold decL at h
  cases hr : rawL b with
  | error e =>
    rw [hr] at h
    simp only at h
    cases h
    unfold rawL at hr
    split at hr
    · cases hr; decide
    · split at hr
      · cases hr; assumption
      · split at hr <;> cases hr
        decide
  | ok o =>
    rw [hr] at h
    simp only at h
    split at h
    · cases h
    · cases h; assumption
theorem valsF_nil (k : Nat) : valsF k [] = ([], 0) := by cases k <;> rfl
theorem valsF_err {k : Nat} {b : List Int} (hk : b.length ≤ k) (hb : b ≠ []) {q : Int} (h : decL b = .error q) : valsF k b = ([], q) := by
  cases k with
  | zero => exact absurd (List.eq_nil_of_length_eq_zero (by omega)) hb
  | succ k => rw [valsF, if_neg hb, h]
theorem valsF_ok {k : Nat} {b : List Int} (hk : b.length ≤ k) (hb : b ≠ []) {o : Oxm8} (h : decL b = .ok o) : valsF k b = (ox10 o :: (valsF (k - 1) (b.drop o.n)).1, (valsF (k - 1) (b.drop o.n)).2) := by
  cases k with
  | zero => exact absurd (List.eq_nil_of_length_eq_zero (by omega)) hb
  | succ k => rw [valsF, if_neg hb, h]; rfl
theorem valsF_free (k : Nat) : ∀ b : List Int, b.length ≤ k → valsF k b = vals10 b := by
  induction k with
  | zero => intro b hb; rw [List.eq_nil_of_length_eq_zero (by omega : b.length = 0)]; rfl
  | succ k ih =>
    intro b hb
    by_cases hn : b = []
    · rw [hn, valsF_nil]; rfl
    · have hp : 0 < b.length := List.length_pos_iff.2 hn
      unfold vals10
      cases h : decL b with
      | error q => rw [valsF_err hb hn h, valsF_err (Nat.le_refl _) hn h]
      | ok o =>
        have h4 := dec_pos10 h
        rw [valsF_ok hb hn h, valsF_ok (Nat.le_refl _) hn h]
        have hih : ∀ j, j ≤ k → (b.drop o.n).length ≤ j → valsF j (b.drop o.n) = vals10 (b.drop o.n) := by
          intro j hj hl
          -- any fuel that is enough is the same
          have mono : ∀ (i : Nat) (c : List Int), c.length ≤ i → valsF (i + 1) c = valsF i c := by
            intro i
            induction i with
            | zero => intro c hc; rw [List.eq_nil_of_length_eq_zero (by omega : c.length = 0)]; rfl
            | succ i ihi =>
              intro c hc
              by_cases hcn : c = []
              · rw [hcn, valsF_nil, valsF_nil]
              · cases hd : decL c with
                | error q => rw [valsF_err (by omega) hcn hd, valsF_err hc hcn hd]
                | ok o2 =>
                  have := dec_pos10 hd
                  have hcp : 0 < c.length := List.length_pos_iff.2 hcn
                  rw [valsF_ok (by omega) hcn hd, valsF_ok hc hcn hd]
                  have e := ihi (c.drop o2.n) (by rw [List.length_drop]; omega)
                  simp only [Nat.add_sub_cancel] at e ⊢
                  rw [e]
          obtain ⟨d, hd⟩ : ∃ d, j = (b.drop o.n).length + d := ⟨j - (b.drop o.n).length, by omega⟩
          rw [hd]
          clear hd hl hj
          induction d with
          | zero => rfl
          | succ d ihd => rw [← Nat.add_assoc, mono _ _ (by omega), ihd]
        rw [hih (b.length - 1) (by omega) (by rw [List.length_drop]; omega), hih (k + 1 - 1) (by omega) (by rw [List.length_drop]; omega)]
theorem vals_nil : vals10 [] = ([], 0) := rfl
theorem vals_err {b : List Int} (hb : b ≠ []) {q : Int} (h : decL b = .error q) : vals10 b = ([], q) := valsF_err (Nat.le_refl _) hb h
theorem vals_ok {b : List Int} (hb : b ≠ []) {o : Oxm8} (h : decL b = .ok o) : vals10 b = (ox10 o :: (vals10 (b.drop o.n)).1, (vals10 (b.drop o.n)).2) := by
  have hp : 0 < b.length := List.length_pos_iff.2 hb
  have := dec_pos10 h
  rw [vals10, valsF_ok (Nat.le_refl _) hb h, valsF_free _ _ (by rw [List.length_drop]; omega)]

/-! ### the check goes on -/
theorem chk_append10 (pre l r : List Ox9) : chk9 pre (l ++ r) = if (chk9 pre l).2 ≠ 0 then chk9 pre l else chk9 (pre ++ l) r := by
  induction l generalizing pre with
  | nil => simp [chk9]
  | cons o l ih =>
    rw [List.cons_append, chk9, chk9]
    split
    · simp
    · split
      · simp
      · rw [ih, List.append_assoc]; rfl
theorem check_append10 (l r : List Ox9) : check9 (l ++ r) = if (check9 l).2 ≠ 0 then check9 l else chk9 l r := by
  unfold check9; rw [chk_append10]; rfl
theorem check_front10 {l r : List Ox9} (h : (check9 (l ++ r)).2 = 0) : (check9 l).2 = 0 := by
  rw [check_append10] at h
  by_cases h2 : (check9 l).2 = 0
  · exact h2
  · rw [if_pos h2] at h; exact absurd h h2

/-! ### bytes of a list -/
theorem body_append10 (l r : List Ox9) : body10 (l ++ r) = body10 l ++ body10 r := by simp [body10]
theorem body_cons10 (o : Ox9) (r : List Ox9) : body10 (o :: r) = bytes10 o ++ body10 r := by simp [body10]
theorem head10_length (n : Nat) : (head10 n).length = 4 := by simp [head10, bytesL_length]
theorem match10_length (l : List Ox9) : (match10 l).length = len10 l + zeros10 (len10 l) := by
  simp only [match10, List.length_append, head10_length, List.length_replicate, len10]
/-- what was encoded is decoded -/
theorem vals_body {l : List Ox9} (h : l.all right10 = true) (hX : ∀ o ∈ l, 0 ≤ o.X) : vals10 (body10 l) = (l, 0) := by
  induction l with
  | nil => rfl
  | cons o r ih =>
    simp only [List.all_cons, Bool.and_eq_true] at h
    have hb := back_dec (C := o.C) (F := o.F) (X := o.X) (H := o.H) (v := o.v) (m := o.m) h.1 (hX o (by simp)) (body10 r)
    have h5 := (back_less (C := o.C) (F := o.F) (X := o.X) (H := o.H) (v := o.v) (m := o.m) h.1).2
    have e : body10 (o :: r) = oxmBytes o.C o.F o.H o.X o.v o.m ++ body10 r := body_cons10 o r
    have hn : body10 (o :: r) ≠ [] := by
      intro h0
      rw [e] at h0
      have := congrArg List.length h0
      simp only [List.length_append, List.length_nil] at this
      omega
    rw [e] at hn ⊢
    rw [vals_ok hn hb]
    simp only [List.drop_left]
    rw [ih h.2 (fun x hx => hX x (by simp [hx]))]
    rfl
/-- what is decoded is right, and its bytes are those -/
theorem vals_right (k : Nat) : ∀ (b : List Int), b.length ≤ k → Octets b → (vals10 b).2 = 0 → (vals10 b).1.all right10 = true ∧ body10 (vals10 b).1 = b ∧ ∀ o ∈ (vals10 b).1, 0 ≤ o.X := by
  induction k with
  | zero => intro b hb ho h; rw [List.eq_nil_of_length_eq_zero (by omega : b.length = 0)]; exact ⟨rfl, rfl, by simp [vals_nil]⟩
  | succ k ih =>
    intro b hb ho h
    by_cases hn : b = []
    · subst hn; exact ⟨rfl, rfl, by simp [vals_nil]⟩
    · have hp : 0 < b.length := List.length_pos_iff.2 hn
      cases hd : decL b with
      | error q =>
        rw [vals_err hn hd] at h
        exact absurd h (dec_err_pos10 hd)
      | ok o =>
        have h4 := dec_pos10 hd
        obtain ⟨r1, r2, r3, r4⟩ := dec_right hd ho
        rw [vals_ok hn hd] at h ⊢
        obtain ⟨i1, i2, i3⟩ := ih (b.drop o.n) (by rw [List.length_drop]; omega) (ho.drop _) h
        refine ⟨?_, ?_, ?_⟩
        · simp only [List.all_cons, Bool.and_eq_true]
          exact ⟨r1, i1⟩
        · rw [body_cons10, i2]
          show oxmBytes o.C o.F o.H o.X o.v o.m ++ b.drop o.n = b
          rw [r3, List.take_append_drop]
        · intro x hx
          rcases List.mem_cons.1 hx with rfl | hx
          · exact r4
          · exact i3 x hx
end Go.Proofs.Ytaddhahghglabaa
