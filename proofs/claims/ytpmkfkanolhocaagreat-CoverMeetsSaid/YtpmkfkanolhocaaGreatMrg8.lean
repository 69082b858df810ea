/- Put together out of several texts: what the laws of earlier stages left. -/
import Derived.Test.YtpmkfkanolhocaaGreatMrg7
import Derived.Test.YtpmkfkanolhocaaGreatMrg3
import Derived.Test.YtpmkfkanolhocaaGreatMrg1
import Derived.RangeFuncNested
import Derived.RangeFuncLeaves
import Derived.OwnWalkIn
import Derived.TacticsInMore
import Derived.Test.YtpmkfkanolhocaaGreatMrg5
import Derived.Test.YtpmkfkanolhocaaGreatMrg6
namespace Go.Proofs.YtpmkfkanolhocaaGreat
open Go.RowKit
set_option linter.unusedVariables false

def bytes10 (o : Ox9) : List Int := oxmBytes o.C o.F o.H o.X o.v o.m
def right10 (o : Ox9) : Bool := rightB o.C o.F o.H o.X o.v o.m
def body10 (l : List Ox9) : List Int := l.flatMap bytes10
def zeros10 (n : Nat) : Nat := (8 - n % 8) % 8
def len10 (l : List Ox9) : Nat := 4 + (body10 l).length
def head10 (n : Nat) : List Int := bytesL 1 2 ++ (bytesL (n : Int) 2 ++ [])
def match10 (l : List Ox9) : List Int := head10 (len10 l) ++ body10 l ++ List.replicate (zeros10 (len10 l)) 0
def isMatch10 (l : List Ox9) : Bool := l.all right10 && ((check9 l).2 == 0)
def ox10 (o : Oxm8) : Ox9 := ⟨o.C, o.F, o.H, o.X, o.v, o.m⟩
/-- the values that bytes are, up to the first error; and the error -/
def valsF : Nat → List Int → List Ox9 × Int
  | 0, _ => ([], 0)
  | k + 1, b => if b = [] then ([], 0) else match decL b with
    | .error q => ([], q)
    | .ok o => (ox10 o :: (valsF k (b.drop o.n)).1, (valsF k (b.drop o.n)).2)
def vals10 (b : List Int) : List Ox9 × Int := valsF b.length b
/-- the error of values: the check's comes first -/
def valE (b : List Int) : Int := if (check9 (vals10 b).1).2 ≠ 0 then (check9 (vals10 b).1).2 else (vals10 b).2
def num10 (b : List Int) : Int := numL ((b.drop 2).take 2)
/-- the match with which bytes begin, and how many it has; or the error -/
def matchL (b : List Int) : Except Int (List Ox9 × Nat) :=
  if b.length < 4 then .error 1026
  else if numL (b.take 2) ≠ 1 then .error 1025
  else if num10 b < 4 ∨ 65528 < num10 b ∨ b.length < (num10 b).toNat + zeros10 (num10 b).toNat then .error 1026
  else if valE ((b.take (num10 b).toNat).drop 4) ≠ 0 then .error (valE ((b.take (num10 b).toNat).drop 4))
  else if (((b.drop (num10 b).toNat).take (zeros10 (num10 b).toNat)).any (fun x => x != 0)) = true then .error 1026
  else .ok ((vals10 ((b.take (num10 b).toNat).drop 4)).1, (num10 b).toNat + zeros10 (num10 b).toNat)

theorem zeros_lt10 (n : Nat) : zeros10 n < 8 := by unfold zeros10; omega
theorem zeros_even10 (n : Nat) : (n + zeros10 n) % 8 = 0 := by unfold zeros10; omega
theorem dec_pos10 {b : List Int} {o : Oxm8} (h : decL b = .ok o) : 4 ≤ o.n := by
  have h := dec_raw h
  unfold rawL at h
  split at h
  · cases h
  · split at h
    · cases h
    · split at h
      · cases h
      · cases h; simp
theorem dec_err_pos10 {b : List Int} {q : Int} (h : decL b = .error q) : q ≠ 0 := by
  unfold decL at h
  cases hr : rawL b with
  | error e =>
    rw [hr] at h
    simp only at h
    cases h
    unfold rawL at hr
    split at hr
    · cases hr; decide
    · split at hr
      · cases hr; assumption
      · split at hr <;> cases hr
        decide
  | ok o =>
    rw [hr] at h
    simp only at h
    split at h
    · cases h
    · cases h; assumption
theorem valsF_nil (k : Nat) : valsF k [] = ([], 0) := by cases k <;> rfl
theorem valsF_err {k : Nat} {b : List Int} (hk : b.length ≤ k) (hb : b ≠ []) {q : Int} (h : decL b = .error q) : valsF k b = ([], q) := by
  cases k with
  | zero => exact absurd (List.eq_nil_of_length_eq_zero (by omega)) hb
  | succ k => rw [valsF, if_neg hb, h]
theorem valsF_ok {k : Nat} {b : List Int} (hk : b.length ≤ k) (hb : b ≠ []) {o : Oxm8} (h : decL b = .ok o) : valsF k b = (ox10 o :: (valsF (k - 1) (b.drop o.n)).1, (valsF (k - 1) (b.drop o.n)).2) := by
  cases k with
  | zero => exact absurd (List.eq_nil_of_length_eq_zero (by omega)) hb
  | succ k => rw [valsF, if_neg hb, h]; rfl
theorem valsF_free (k : Nat) : ∀ b : List Int, b.length ≤ k → valsF k b = vals10 b := by
  induction k with
  | zero => intro b hb; rw [List.eq_nil_of_length_eq_zero (by omega : b.length = 0)]; rfl
  | succ k ih =>
    intro b hb
    by_cases hn : b = []
    · rw [hn, valsF_nil]; rfl
    · have hp : 0 < b.length := List.length_pos_iff.2 hn
      unfold vals10
      cases h : decL b with
      | error q => rw [valsF_err hb hn h, valsF_err (Nat.le_refl _) hn h]
      | ok o =>
        have h4 := dec_pos10 h
        rw [valsF_ok hb hn h, valsF_ok (Nat.le_refl _) hn h]
        have hih : ∀ j, j ≤ k → (b.drop o.n).length ≤ j → valsF j (b.drop o.n) = vals10 (b.drop o.n) := by
          intro j hj hl
          -- any fuel that is enough is the same
          have mono : ∀ (i : Nat) (c : List Int), c.length ≤ i → valsF (i + 1) c = valsF i c := by
            intro i
            induction i with
            | zero => intro c hc; rw [List.eq_nil_of_length_eq_zero (by omega : c.length = 0)]; rfl
            | succ i ihi =>
              intro c hc
              by_cases hcn : c = []
              · rw [hcn, valsF_nil, valsF_nil]
              · cases hd : decL c with
                | error q => rw [valsF_err (by omega) hcn hd, valsF_err hc hcn hd]
                | ok o2 =>
                  have := dec_pos10 hd
                  have hcp : 0 < c.length := List.length_pos_iff.2 hcn
                  rw [valsF_ok (by omega) hcn hd, valsF_ok hc hcn hd]
                  have e := ihi (c.drop o2.n) (by rw [List.length_drop]; omega)
                  simp only [Nat.add_sub_cancel] at e ⊢
                  rw [e]
          obtain ⟨d, hd⟩ : ∃ d, j = (b.drop o.n).length + d := ⟨j - (b.drop o.n).length, by omega⟩
          rw [hd]
          clear hd hl hj
          induction d with
          | zero => rfl
          | succ d ihd => rw [← Nat.add_assoc, mono _ _ (by omega), ihd]
        rw [hih (b.length - 1) (by omega) (by rw [List.length_drop]; omega), hih (k + 1 - 1) (by omega) (by rw [List.length_drop]; omega)]
theorem vals_nil : vals10 [] = ([], 0) := rfl
theorem vals_err {b : List Int} (hb : b ≠ []) {q : Int} (h : decL b = .error q) : vals10 b = ([], q) := valsF_err (Nat.le_refl _) hb h
theorem vals_ok {b : List Int} (hb : b ≠ []) {o : Oxm8} (h : decL b = .ok o) : vals10 b = (ox10 o :: (vals10 (b.drop o.n)).1, (vals10 (b.drop o.n)).2) := by
  have hp : 0 < b.length := List.length_pos_iff.2 hb
  have := dec_pos10 h
  rw [vals10, valsF_ok (Nat.le_refl _) hb h, valsF_free _ _ (by rw [List.length_drop]; omega)]

/-! ### the check goes on -/
theorem chk_append10 (pre l r : List Ox9) : chk9 pre (l ++ r) = if (chk9 pre l).2 ≠ 0 then chk9 pre l else chk9 (pre ++ l) r := by
  induction l generalizing pre with
  | nil => simp [chk9]
  | cons o l ih =>
    rw [List.cons_append, chk9, chk9]
    split
    · simp
    · split
      · simp
      · rw [ih, List.append_assoc]; rfl
theorem check_append10 (l r : List Ox9) : check9 (l ++ r) = if (check9 l).2 ≠ 0 then check9 l else chk9 l r := by
  unfold check9; rw [chk_append10]; rfl
theorem check_front10 {l r : List Ox9} (h : (check9 (l ++ r)).2 = 0) : (check9 l).2 = 0 := by
  rw [check_append10] at h
  by_cases h2 : (check9 l).2 = 0
  · exact h2
  · rw [if_pos h2] at h; exact absurd h h2

/-! ### bytes of a list -/
theorem body_append10 (l r : List Ox9) : body10 (l ++ r) = body10 l ++ body10 r := by simp [body10]
theorem body_cons10 (o : Ox9) (r : List Ox9) : body10 (o :: r) = bytes10 o ++ body10 r := by simp [body10]
theorem head10_length (n : Nat) : (head10 n).length = 4 := by simp [head10, bytesL_length]
theorem match10_length (l : List Ox9) : (match10 l).length = len10 l + zeros10 (len10 l) := by
  simp only [match10, List.length_append, head10_length, List.length_replicate, len10]
/-- what was encoded is decoded -/
theorem vals_body {l : List Ox9} (h : l.all right10 = true) (hX : ∀ o ∈ l, 0 ≤ o.X) : vals10 (body10 l) = (l, 0) := by
  induction l with
  | nil => rfl
  | cons o r ih =>
    simp only [List.all_cons, Bool.and_eq_true] at h
    have hb := back_dec (C := o.C) (F := o.F) (X := o.X) (H := o.H) (v := o.v) (m := o.m) h.1 (hX o (by simp)) (body10 r)
    have h5 := (back_less (C := o.C) (F := o.F) (X := o.X) (H := o.H) (v := o.v) (m := o.m) h.1).2
    have e : body10 (o :: r) = oxmBytes o.C o.F o.H o.X o.v o.m ++ body10 r := body_cons10 o r
    have hn : body10 (o :: r) ≠ [] := by
      intro h0
      rw [e] at h0
      have := congrArg List.length h0
      simp only [List.length_append, List.length_nil] at this
      omega
    rw [e] at hn ⊢
    rw [vals_ok hn hb]
    simp only [List.drop_left]
    rw [ih h.2 (fun x hx => hX x (by simp [hx]))]
    rfl
/-- what is decoded is right, and its bytes are those -/
theorem vals_right (k : Nat) : ∀ (b : List Int), b.length ≤ k → Octets b → (vals10 b).2 = 0 → (vals10 b).1.all right10 = true ∧ body10 (vals10 b).1 = b ∧ ∀ o ∈ (vals10 b).1, 0 ≤ o.X := by
  induction k with
  | zero => intro b hb ho h; rw [List.eq_nil_of_length_eq_zero (by omega : b.length = 0)]; exact ⟨rfl, rfl, by simp [vals_nil]⟩
  | succ k ih =>
    intro b hb ho h
    by_cases hn : b = []
    · subst hn; exact ⟨rfl, rfl, by simp [vals_nil]⟩
    · have hp : 0 < b.length := List.length_pos_iff.2 hn
      cases hd : decL b with
      | error q =>
        rw [vals_err hn hd] at h
        exact absurd h (dec_err_pos10 hd)
      | ok o =>
        have h4 := dec_pos10 hd
        obtain ⟨r1, r2, r3, r4⟩ := dec_right hd ho
        rw [vals_ok hn hd] at h ⊢
        obtain ⟨i1, i2, i3⟩ := ih (b.drop o.n) (by rw [List.length_drop]; omega) (ho.drop _) h
        refine ⟨?_, ?_, ?_⟩
        · simp only [List.all_cons, Bool.and_eq_true]
          exact ⟨r1, i1⟩
        · rw [body_cons10, i2]
          show oxmBytes o.C o.F o.H o.X o.v o.m ++ b.drop o.n = b
          rw [r3, List.take_append_drop]
        · intro x hx
          rcases List.mem_cons.1 hx with rfl | hx
          · exact r4
          · exact i3 x hx
end Go.Proofs.YtpmkfkanolhocaaGreat
namespace Go.Proofs.YtpmkfkanolhocaaGreat
open Go.RowKit

/-- The iterator gf over lb, for every body that goes on at a value, keeps the blocks of K, and leaves at an error. Of a value x that comes X x holds. -/
def YieldsT {α : Type} (P : Program) (gf : Nat) (lb : Array Value) (enc : α → Array Value) (bad : Int → Array Value) (X : List α → α → Nat → World → Prop) (K : Nat → Prop) (S : List α → Prop) (Sp : List α → Int → Prop) (N : Nat) (w : World) : Prop :=
  ∀ (l : Nat) (J : List α → World → Prop) (Jx : List α → Int → World → Prop) (W : World), Below w.heap.size w W →
    (∀ pre A B, J pre A → Below A.heap.size A B → J pre B) →
    (∀ pre x W0 W1, J pre W0 → Below W0.heap.size W0 W1 → X pre x W0.heap.size W1 → pre.length < N → YieldAt Fence.wide 0 P l (enc x) W1 fun e W' => e = .returned (.bool true) ∧ J (pre ++ [x]) W' ∧ W1.heap.size ≤ W'.heap.size ∧ ∀ k, K k → k < W1.heap.size → W'.heap[k]? = W1.heap[k]?) →
    (∀ pre q W1, J pre W1 → q ≠ 0 → Sp pre q → YieldAt Fence.wide 0 P l (bad q) W1 fun e W' => e = .returned (.bool false) ∧ Jx pre q W') →
    J [] W → Calls P gf (#[.func (.yield l) #[] #[]] ++ lb) W fun e W' => (∃ v, e = .returned v) ∧ ((∃ xs, S xs ∧ J xs W') ∨ ∃ pre q, Sp pre q ∧ Jx pre q W')

/-- the jump by which a round ends -/
def jumpOf : Exit → Option Code
  | .ret => some .ret
  | .exit id => some (.exit id)
  | .goto t => some (.goto t)
  | _ => none
/-- how a round ends at an error, by the jump c -/
def badPostT (c : Code) (B : Nat) (I : World → Prop) (W : World) (e : Exit) (_ : Act) (W' : World) : Prop := jumpOf e = some c ∧ KeepsFrom B W W' ∧ I W'

theorem wp_rangeT {α : Type} {P : Program} {gf : Nat} {lb : Array Value} {enc : α → Array Value} {bad : Int → Array Value} {X : List α → α → Nat → World → Prop} {K : Nat → Prop} {S : List α → Prop} {Sp : List α → Int → Prop} {N : Nat}
    {g : Operand} {jc : Code} {ps : Array Tmp} {assign body : Code} {Q : Exit → Act → World → Prop} {a : Act} {w : World}
    (hg : a.eval g = .func (.func gf) #[] lb) (eg : ∀ args w, (callFunc gf args).run P w = .ok (.enter gf args) w)
    (hseq : YieldsT P gf lb enc bad X K S Sp N w) (hK : ∀ k, K k → k < w.heap.size) (hps : ∀ x, (enc x).size = ps.size) (hpb : ∀ q, (bad q).size = ps.size)
    (I : List α → World → Prop) (Ix : List α → Int → World → Prop) (hI : OwnFrom w.heap.size I) (hX : ∀ pre n, OwnFrom w.heap.size (fun x W => X pre x n W)) (hIx : OwnFrom w.heap.size (fun (s : List α × Int) W => Ix s.1 s.2 W)) (h0 : I [] w)
    (A : α → Act → World → Prop) (hA : ∀ x a', OwnFrom w.heap.size (fun (_ : Unit) W => A x a' W)) (Ab : Int → Act → World → Prop) (hAb : ∀ q a', OwnFrom w.heap.size (fun (_ : Unit) W => Ab q a' W))
    (hasg : ∀ (l : Nat) (x : α) (W : World) (C : Act → World → Prop), (∀ a' W', Below W.heap.size W W' → A x a' W' → C a' W') →
      assign.wpIn (Fence.wide.inRound l) 0 P (Exit.then C (fun _ _ _ => False)) { tmps := (ps.zip (enc x)).foldl (fun t (p, v) => t.setIfInBounds p v) a.tmps, defers := [] } W)
    (hasb : ∀ (l : Nat) (q : Int) (W : World) (C : Act → World → Prop), (∀ a' W', Below W.heap.size W W' → Ab q a' W' → C a' W') →
      assign.wpIn (Fence.wide.inRound l) 0 P (Exit.then C (fun _ _ _ => False)) { tmps := (ps.zip (bad q)).foldl (fun t (p, v) => t.setIfInBounds p v) a.tmps, defers := [] } W)
    (hgood : ∀ (l : Nat) (pre : List α) (x : α) (a' : Act) (W0 W : World), w.heap.size ≤ W.heap.size → pre.length < N → I pre W0 → (∀ p u, W0.cell? p = some u → W.cell? p = some u) → I pre W → X pre x W0.heap.size W → A x a' W → body.wpIn (Fence.wide.inRound l) 0 P (goodPost w.heap.size K (I (pre ++ [x])) W) a' W)
    (hbad : ∀ (l : Nat) (pre : List α) (q : Int) (a' : Act) (W : World), w.heap.size ≤ W.heap.size → q ≠ 0 → Sp pre q → I pre W → Ab q a' W → body.wpIn (Fence.wide.inRound l) 0 P (badPostT jc w.heap.size (Ix pre q) W) a' W)
    (hdone : ∀ (D : Nat) (xs : List α) (W : World), w.heap.size ≤ D → S xs → I xs W → W.heap[D]? = some (.deferred (some [])) → Q .normal { a with defers := { target := .collected D, args := #[] } :: a.defers } W)
    (hstop : ∀ (D : Nat) (pre : List α) (q : Int) (W : World), w.heap.size ≤ D → Sp pre q → Ix pre q W → W.heap[D]? = some (.deferred (some [])) → jc.wpIn Fence.wide 0 P Q { a with defers := { target := .collected D, args := #[] } :: a.defers } W) :
    (Code.rangeFunc g ps assign body).wp P Q a w := by
  refine (wpIn_wide (n := 0)).1 (wpIn_rangeFunc fun fn hfn => ?_)
  obtain ⟨z, hz⟩ : ∃ z, z = w.heap.size := ⟨_, rfl⟩
  -- the loop's record, in a state, with a jump that is pending
  obtain ⟨rec, hrec⟩ : ∃ rec : LoopState → Option Code → Loop, rec = fun st pe => { state := st, pending := pe, fn, tmps := a.tmps, params := ps, assign, body, defers := z } := ⟨_, rfl⟩
  obtain ⟨V, hV⟩ : ∃ V, (w.alloc (.deferred (some []))).alloc (.loop (rec .ready none)) = V := ⟨_, rfl⟩
  have hb : Below w.heap.size w V := by rw [← hV]; exact ((Below.refl _ w).alloc (Nat.le_refl _) _).alloc (by simp) _
  have hVl : V.heap[z + 1]? = some (.loop (rec .ready none)) := by
    have h := World.alloc_heap_new (w.alloc (.deferred (some []))) (.loop (rec .ready none))
    rwa [World.size_alloc, hV, ← hz] at h
  have hVd : V.heap[z]? = some (.deferred (some [])) := by
    rw [← hV, hz]; exact (Below.heap_alloc _ _ _ (by simp)).trans (World.alloc_heap_new w _)
  have hVs : V.heap.size = z + 2 := by rw [← hV, hz]; simp
  rw [← hz] at hK hI hX hIx hA hAb hgood hbad hdone hstop hb
  refine ⟨z + 1, [{ target := .collected z, args := #[] }], V, { target := .fn (.func gf) lb, args := #[.func (.yield (z + 1)) #[] #[]] }, V, gf, #[.func (.yield (z + 1)) #[] #[]] ++ lb, V, ?_, ?_, fun _ _ => trivial, ?_, fun h => by simp [Fence.wide] at h, ?_⟩
  · rw [← hV, hrec, hz]; exact run_enterLoop_outer _ _ _ _ _
  · simp only [resolve, hg]
    simp [go_sem]
  · simp [invoke, go_sem, eg]
  -- what the law keeps beside the caller's words: the record, and the block for deferred calls
  have stay : ∀ {A B : World} {st : LoopState} {pe : Option Code}, Below A.heap.size A B → A.heap[z + 1]? = some (.loop (rec st pe)) ∧ A.heap[z]? = some (.deferred (some [])) → B.heap[z + 1]? = some (.loop (rec st pe)) ∧ B.heap[z]? = some (.deferred (some [])) :=
    fun hAB h => ⟨(hAB.block _ (Array.getElem?_eq_some_iff.1 h.1).1).trans h.1, (hAB.block _ (Array.getElem?_eq_some_iff.1 h.2).1).trans h.2⟩
  -- the record is turned: 'st', 'pe'
  have turn : ∀ {A : World} {st : LoopState} {pe : Option Code} (st' : LoopState) (pe' : Option Code), A.heap[z + 1]? = some (.loop (rec st pe)) → A.heap[z]? = some (.deferred (some [])) →
      (A.putObj (z + 1) (.loop (rec st' pe'))).heap[z + 1]? = some (.loop (rec st' pe')) ∧ (A.putObj (z + 1) (.loop (rec st' pe'))).heap[z]? = some (.deferred (some [])) :=
    fun st' pe' h1 h2 => ⟨World.putObj_heap_same (Array.getElem?_eq_some_iff.1 h1).1, (World.putObj_heap_other (by omega)).trans h2⟩
  have begin_ : ∀ {A : World}, A.heap[z + 1]? = some (.loop (rec .ready none)) → (Instr.beginRound (z + 1)).run P A = .ok () (A.putObj (z + 1) (.loop (rec .busy none))) := by
    intro A h
    have := run_beginRound (P := P) h (by rw [hrec])
    rw [hrec] at this ⊢
    exact this
  have end_ : ∀ {A : World} (jump : Option Code), A.heap[z + 1]? = some (.loop (rec .busy none)) → (Instr.endRound (z + 1) jump).run P A = .ok (.bool jump.isNone) (A.putObj (z + 1) (.loop (rec (if jump.isNone then .ready else .done) jump))) := by
    intro A jump h
    have := run_endRound (P := P) jump h
    rw [hrec] at this ⊢
    exact this
  have over_ : ∀ {A : World} {st : LoopState} {pe : Option Code}, A.heap[z + 1]? = some (.loop (rec st pe)) → st ≠ .busy → (Instr.endLoop (z + 1)).run P A = .ok pe (A.putObj (z + 1) (.loop (rec .exhausted pe))) := by
    intro A st pe h hs
    have := run_endLoop (P := P) h (by rw [hrec]; exact hs)
    rw [hrec] at this ⊢
    exact this
  have yld : ∀ {A : World} {y : Array Value}, A.heap[z + 1]? = some (.loop (rec .ready none)) → y.size = ps.size →
      (Instr.yield (z + 1) y).run P A = .ok (.round (z + 1) fn ((ps.zip y).foldl (fun t (p, v) => t.setIfInBounds p v) a.tmps) assign body) A := by
    intro A y h hs
    have := run_yield (P := P) (args := y) h (by rw [hrec]; exact hs)
    rw [hrec] at this
    exact this
  refine callsIn_wide.2 ((hseq (z + 1)
    (fun pre W => I pre W ∧ z ≤ W.heap.size ∧ W.heap[z + 1]? = some (.loop (rec .ready none)) ∧ W.heap[z]? = some (.deferred (some [])))
    (fun pre q W => Ix pre q W ∧ W.heap[z + 1]? = some (.loop (rec .done (some jc))) ∧ W.heap[z]? = some (.deferred (some [])))
    V (by rw [hz] at hb; exact hb) (fun pre A B hs hAB => ⟨own_below hI hs.1 hAB, Nat.le_trans hs.2.1 hAB.size, stay hAB hs.2.2⟩) ?_ ?_ ⟨own_below hI h0 (by rw [← hz]; exact hb), by omega, hVl, hVd⟩).mono ?_)
  · rintro pre x W0 W ⟨hi0, hzW0, hl0, hd0⟩ hb0 hx hlen
    have hi := own_below hI hi0 hb0
    have hzW : z ≤ W.heap.size := Nat.le_trans hzW0 hb0.size
    obtain ⟨hl, hd⟩ := stay hb0 ⟨hl0, hd0⟩
    refine ⟨fn, _, assign, body, yld hl (hps x), roundIn_of_wpIn hfn (hasg _ x W _ fun a' Wa hWa hax => ?_)⟩
    obtain ⟨hl1, hd1⟩ := stay hWa ⟨hl, hd⟩
    refine ⟨_, begin_ hl1, ?_⟩
    obtain ⟨hl2, hd2⟩ := turn .busy none hl1 hd1
    have hi2 := hI.putObj (.loop (rec .busy none)) (own_below hI hi hWa) (by omega) hl1 rfl
    have hx2 := (hX pre _).putObj (.loop (rec .busy none)) (own_below (hX pre _) hx hWa) (by omega) hl1 rfl
    have hs2 : (Wa.putObj (z + 1) (.loop (rec .busy none))).heap.size = Wa.heap.size := by simp [World.putObj]
    have hcl : ∀ p u, W0.cell? p = some u → (Wa.putObj (z + 1) (.loop (rec .busy none))).cell? p = some u := fun p u h => by
      have h1 : W.cell? p = some u := (World.cell?_of_block (hb0.block _ (World.block_lt_of_cell? _ _ h))).trans h
      have h2 : Wa.cell? p = some u := (World.cell?_of_block (hWa.block _ (World.block_lt_of_cell? _ _ h1))).trans h1
      exact cell_kept h2 (grownBy_putObj' Wa (z + 1) _) (fun r e => by cases e; exact ⟨_, hl1, rfl⟩)
    refine wpIn_mono (hgood _ pre x a' W0 _ (by rw [hs2]; exact Nat.le_trans hzW hWa.size) hlen hi0 hcl hi2 hx2 ((hA x a').putObj (s := ()) _ hax (by omega) hl1 rfl)) ?_
    rintro e a3 W3 hp
    cases e with
    | normal =>
      obtain ⟨hk3, hkp3, hi3⟩ := hp
      have hl3 := hk3.same _ _ (by omega) hl2 rfl
      have hd3 := hk3.same _ _ (Nat.le_refl _) hd2 rfl
      obtain ⟨hl4, hd4⟩ := turn .ready none hl3 hd3
      have hs4 : (W3.putObj (z + 1) (.loop (rec .ready none))).heap.size = W3.heap.size := by simp [World.putObj]
      have hs3 := hk3.size
      rw [hs2] at hs3
      have hsa := hWa.size
      refine ⟨_, _, end_ none hl3, rfl, ⟨hI.putObj _ hi3 (by omega) hl3 rfl, ?_, hl4, hd4⟩, ?_, ?_⟩
      · show z ≤ (W3.putObj (z + 1) (.loop (rec .ready none))).heap.size
        rw [hs4]; omega
      · show W.heap.size ≤ (W3.putObj (z + 1) (.loop (rec .ready none))).heap.size
        rw [hs4]; omega
      · intro k hkk hkw
        have hkz : k < z := hK k hkk
        have h1 := hWa.block k hkw
        have h2 : (Wa.putObj (z + 1) (.loop (rec .busy none))).heap[k]? = Wa.heap[k]? := World.putObj_heap_other (by omega)
        have h3 := hkp3 k hkk (by rw [hs2]; omega)
        have h4 : (W3.putObj (z + 1) (.loop (rec .ready none))).heap[k]? = W3.heap[k]? := World.putObj_heap_other (by omega)
        exact h4.trans (h3.trans (h2.trans h1))
    | ret => exact hp.elim
    | exit id => exact hp.elim
    | goto t => exact hp.elim
    | panic ch => exact hp.elim
    | outgrown => exact hp.elim
  · rintro pre q W ⟨hi, hzW, hl, hd⟩ hq hsp
    refine ⟨fn, _, assign, body, yld hl (hpb q), roundIn_of_wpIn hfn (hasb _ q W _ fun a' Wa hWa hax => ?_)⟩
    obtain ⟨hl1, hd1⟩ := stay hWa ⟨hl, hd⟩
    refine ⟨_, begin_ hl1, ?_⟩
    obtain ⟨hl2, hd2⟩ := turn .busy none hl1 hd1
    have hi2 := hI.putObj (.loop (rec .busy none)) (own_below hI hi hWa) (by omega) hl1 rfl
    have hs2 : (Wa.putObj (z + 1) (.loop (rec .busy none))).heap.size = Wa.heap.size := by simp [World.putObj]
    refine wpIn_mono (hbad _ pre q a' _ (by rw [hs2]; exact Nat.le_trans hzW hWa.size) hq hsp hi2 ((hAb q a').putObj (s := ()) _ hax (by omega) hl1 rfl)) ?_
    rintro e a3 W3 hp
    obtain ⟨hj, hk3, hi3⟩ := hp
    have hl3 := hk3.same _ _ (by omega) hl2 rfl
    have hd3 := hk3.same _ _ (Nat.le_refl _) hd2 rfl
    obtain ⟨hl4, hd4⟩ := turn .done (some jc) hl3 hd3
    have fin : ∃ v W4, (Instr.endRound (z + 1) (some jc)).run P W3 = .ok v W4 ∧ v = .bool false ∧ Ix pre q W4 ∧ W4.heap[z + 1]? = some (.loop (rec .done (some jc))) ∧ W4.heap[z]? = some (.deferred (some [])) :=
      ⟨_, _, end_ (some jc) hl3, rfl, hIx.putObj (s := (pre, q)) _ hi3 (by omega) hl3 rfl, hl4, hd4⟩
    obtain ⟨v, W4, f1, rfl, f2⟩ := fin
    cases e with
    | ret => cases hj; exact ⟨_, _, f1, rfl, f2⟩
    | exit id => cases hj; exact ⟨_, _, f1, rfl, f2⟩
    | goto t => cases hj; exact ⟨_, _, f1, rfl, f2⟩
    | normal => cases hj
    | panic ch => cases hj
    | outgrown => cases hj
  · rintro e W2 ⟨⟨v, rfl⟩, (⟨xs, hS, hi, _, hl, hd⟩ | ⟨pre, q, hSp, hi, hl, hd⟩)⟩
    · exact ⟨none, _, over_ hl (by simp), hdone z xs _ (by omega) hS (hI.putObj _ hi (by omega) hl rfl) ((turn .exhausted none hl hd).2)⟩
    · exact ⟨some jc, _, over_ hl (by simp), hstop z pre q _ (by omega) hSp (hIx.putObj (s := (pre, q)) _ hi (by omega) hl rfl) ((turn .exhausted (some jc) hl hd).2)⟩
end Go.Proofs.YtpmkfkanolhocaaGreat
namespace Go.Proofs.YtpmkfkanolhocaaGreat
open Go.RowKit
set_option linter.unusedVariables false
attribute [local go_sem] Oper.semAt_some

theorem ints_kept10 {k : IntKind} {w w' : World} {a : Option Addr} {l : List Int} (h : Ints k w a l) (hb : ∀ j, j < w.heap.size → w'.heap[j]? = w.heap[j]?) : Ints k w' a l := by
  intro i hi
  obtain ⟨b, off, rfl, hc⟩ := h i hi
  exact ⟨b, off, rfl, (World.cell?_of_block (a := ⟨b, off + i, none⟩) (hb b (World.block_lt_of_cell? w _ hc))).trans hc⟩
theorem ints_others10 {k : IntKind} {W W' : World} {row : Option Nat} {a : Option Addr} {l : List Int} (h : Ints k W a l) (hg : W.grownBy W' row) (hr : ∀ r, row = some r → ∃ o : Obj, W.heap[r]? = some o ∧ o.isCells = false) : Ints k W' a l := by
  intro i hi
  obtain ⟨b, off, rfl, hc⟩ := h i hi
  exact ⟨b, off, rfl, cell_kept hc hg hr⟩
/-- the blocks of w stand in w' as they stood -/
def Stays (w w' : World) : Prop := w.heap.size ≤ w'.heap.size ∧ ∀ k, k < w.heap.size → w'.heap[k]? = w.heap[k]?
theorem Stays.of_below {w w' : World} (h : Below w.heap.size w w') : Stays w w' := ⟨h.size, h.block⟩
theorem Stays.trans {w w1 w2 : World} (h : Stays w w1) (k : Stays w1 w2) : Stays w w2 := ⟨Nat.le_trans h.1 k.1, fun i hi => (k.2 i (Nat.lt_of_lt_of_le hi h.1)).trans (h.2 i hi)⟩
theorem L9.stays {w w' : World} {a : Option Addr} {l : List Ent9} (h : L9 w a l) (hb : Stays w w') : L9 w' a l := by
  refine ⟨?_, fun x hx => ?_, h.few, h.len⟩
  · by_cases hl : l = []
    · rw [hl]; exact Oxms.nil _ _
    · exact h.ox.kept (fun q hq => hb.2 _ (h.ox.lt hl hq))
  · have e := h.ent x hx
    exact ⟨ints_kept10 e.iv hb.2, ints_kept10 e.im hb.2, e.ov, e.om, e.cm, e.c, e.f, e.x⟩

/-- a value's bytes as they come -/
structure Piece10 where
  x : List Int
  a : Option Addr
  c : Nat
def Piece10.v (h : Piece10) : Value := .slice h.a h.x.length h.c
/-- what has come so far is the front -/
structure Pre10 (l : List Ox9) (pre : List Piece10) : Prop where
  le : pre.length ≤ l.length
  is : pre.map Piece10.x = (l.take pre.length).map bytes10
  right : (l.take pre.length).all right10 = true
/-- a value's bytes that come behind others -/
structure Next10 (l : List Ox9) (pre : List Piece10) (p : Piece10) (w : World) : Prop where
  front : Pre10 l (pre ++ [p])
  ints : Ints .u8 w p.a p.x
  cap : p.x.length ≤ p.c
theorem Next10.own (l : List Ox9) (pre : List Piece10) (B : Nat) : OwnFrom B (Next10 l pre) :=
  fun x W W' row hx hg hr => ⟨hx.front, ints_others10 hx.ints hg (fun r e => (hr r e).2), hx.cap⟩
theorem pre10_nil (l : List Ox9) : Pre10 l [] := ⟨by simp, by simp, by simp⟩
theorem Pre10.snoc {l : List Ox9} {pre : List Piece10} (h : Pre10 l pre) {i : Nat} (hi : i = pre.length) {o : Ox9} (ho : l[i]? = some o) (hr : right10 o = true) {p : Piece10} (hp : p.x = bytes10 o) : Pre10 l (pre ++ [p]) := by
  subst hi
  obtain ⟨hlt, rfl⟩ := List.getElem?_eq_some_iff.1 ho
  have e : (pre ++ [p]).length = pre.length + 1 := by simp
  have et : l.take (pre.length + 1) = l.take pre.length ++ [l[pre.length]] := by rw [List.take_add_one, ho]; rfl
  refine ⟨by rw [e]; omega, ?_, ?_⟩
  · rw [e, et, List.map_append, List.map_append, h.is]
    simp [hp]
  · rw [e, et, List.all_append, h.right]
    simp [hr]
theorem Pre10.all {l : List Ox9} {pre : List Piece10} (h : Pre10 l pre) (hl : l.length ≤ pre.length) : l.all right10 = true ∧ pre.map Piece10.x = l.map bytes10 := by
  have e := h.le
  have h1 := h.right
  have h2 := h.is
  rw [List.take_of_length_le hl] at h1 h2
  exact ⟨h1, h2⟩
theorem all_not10 {l : List Ox9} {i : Nat} {o : Ox9} (ho : l[i]? = some o) (hr : right10 o = false) : l.all right10 = false := by
  cases h : l.all right10
  · rfl
  · have := List.all_eq_true.1 h o (List.mem_of_getElem? ho)
    rw [hr] at this; cases this

/-- the iterator's state between two rounds: w0 has the list -/
structure Iter10 (w0 : World) (a : Option Addr) (c p : Nat) (l : List Ent9) (pre : List Piece10) (w : World) : Prop where
  front : Pre10 (l.map Ent9.o) pre
  box : w.cell? ⟨p, 0, none⟩ = some (.slice a l.length c)
  lt : p < w.heap.size
  stays : Stays w0 w
theorem Iter10.kept {w0 w w' : World} {a : Option Addr} {c p : Nat} {l : List Ent9} {pre : List Piece10} (h : Iter10 w0 a c p l pre w) (hs : w.heap.size ≤ w'.heap.size) (hk : ∀ k, (k = p ∨ k < w0.heap.size) → k < w.heap.size → w'.heap[k]? = w.heap[k]?) : Iter10 w0 a c p l pre w' :=
  ⟨h.front, (World.cell?_of_block (a := ⟨p, 0, none⟩) (hk p (.inl rfl) h.lt)).trans h.box, Nat.lt_of_lt_of_le h.lt hs, Nat.le_trans h.stays.1 hs, fun k hk' => (hk k (.inr hk') (Nat.lt_of_lt_of_le hk' h.stays.1)).trans (h.stays.2 k hk')⟩
theorem Iter10.below {w0 w w' : World} {a : Option Addr} {c p : Nat} {l : List Ent9} {pre : List Piece10} (h : Iter10 w0 a c p l pre w) (hb : Below w.heap.size w w') : Iter10 w0 a c p l pre w' :=
  h.kept hb.size (fun k _ hk => hb.block k hk)

set_option maxRecDepth 100000 in
set_option maxHeartbeats 4000000 in
theorem written10_yields (w0 w : World) (a : Option Addr) (c p : Nat) (l : List Ent9) (hL : L9 w0 a l) (hI : Iter10 w0 a c p l [] w) :
    YieldsT (α := Piece10) Tryz.prog 72 #[.pointer (some ⟨p, 0, none⟩)] (fun x => #[x.v, .int .i64 0]) (fun q => #[.slice none 0 0, .int .i64 q]) (fun pre x _ => Next10 (l.map Ent9.o) pre x) (fun k => k = p ∨ k < w0.heap.size)
      (fun xs => (l.map Ent9.o).all right10 = true ∧ xs.map Piece10.x = (l.map Ent9.o).map bytes10) (fun _ q => q = 10001 ∧ (l.map Ent9.o).all right10 = false) l.length w := by
  intro i J Jx W hW hJ hgood hbad h0
  have HI0 := hid (hI.below hW)
  have hbx := (hI.below hW).box
  have HJ0 := hid hJ
  have HG := hid hgood
  have HB := hid hbad
  have HL := hid hL
  have hll : l.length ≤ 1000 := hL.len
  clear hgood hbad hJ hI hL
  go_enter Tryz.func72, Tryz.ntmps72
  go_wp2
  go_loopw [9] (fun v wr => ∃ (at_ : Nat) (pre : List Piece10), v = .int .i64 at_ ∧ at_ = pre.length ∧ Iter10 w0 a c p l pre wr ∧ J pre wr ∧ W.heap.size ≤ wr.heap.size) (fun v _ => l.length - (intOf v).toNat)
  case atStart => exact ⟨0, [], rfl, rfl, HI0.out, h0, Nat.le_refl _⟩
  case round =>
    obtain ⟨at_, pre, rfl, hat, hi, hj, hsz⟩ := hrel
    have hle : at_ ≤ l.length := by have := hi.front.le; rw [List.length_map] at this; omega
    rcases Nat.lt_or_ge at_ l.length with hlt | hge
    · have hl := HL.out.stays hi.stays
      obtain ⟨b, off, rfl, c0, c1, c2, c3, c4, c5⟩ := hl.ox at_ hlt
      have hmem : l[at_] ∈ l := List.getElem_mem hlt
      have hE := hl.ent _ hmem
      have hF := hl.few _ hmem
      have hlti : (at_ : Int) < (l.length : Int) := by omega
      have hget : (l.map Ent9.o)[at_]? = some l[at_].o := by simp [hlt]
      generalize l[at_] = h at c0 c1 c2 c3 c4 c5 hE hF hget
      obtain ⟨V, hV, hbV, hx⟩ := oxm_box wr h.o.C h.o.F h.o.H h.o.X h.va h.o.v.length h.vc h.ma h.o.m.length h.mc
      have HV := hid hV
      obtain ⟨x0, x1, x2, x3, x4, x5⟩ := hx.six
      have hplt := hi.lt
      have HI := hid hi
      have HJ := hid hj
      have HAT := hid hat
      have HGET := hid hget
      have HEN := hid (encode8_any h.o.C h.o.F h.o.H h.o.X h.va h.vc h.ma h.mc h.o.v h.o.m hF.1 hF.2 hE.cm hE.ov hE.om V (hE.iv.below hbV) (hE.im.below hbV) hE.x.1)
      have HBV := hid hbV
      clear hV hi hj hl hE hF hmem hget hat hx hbV
      go_upto_region 3 with fail
      rw [HV.out]
      go_wp2_with fail
      refine HEN.out.mono ?_
      rintro e w2 (⟨hr, rfl, hb2⟩ | ⟨hr, ad, cp, rfl, hb2, hI2, hcp⟩)
      · have hb : Below wr.heap.size wr w2 := below_on HBV.out hb2
        have HST := hid (all_not10 HGET.out hr)
        obtain ⟨fn, tmps, assign, body, hy, hR⟩ := HB.out pre 10001 w2 (HJ0.out _ _ _ HJ.out hb) (by decide) ⟨rfl, HST.out⟩
        clear hr x0 x1 x2 x3 x4 x5 c0 c1 c2 c3 c4 c5
        go_upto_region 4 with fail
        refine (wpIn_wide (n := 0)).1 ?_
        gi_wp2
        refine ⟨rfl, hR.mono ?_⟩
        rintro e W3 ⟨rfl, hJx⟩
        gi_wp2
        go_wp2
        refine bodyPost_ret (results_none rfl _ _ _) rfl ?_
        exact ⟨⟨_, rfl⟩, .inr ⟨pre, 10001, ⟨rfl, HST.out⟩, hJx⟩⟩
      · have hb : Below wr.heap.size wr w2 := below_on HBV.out hb2
        have hsn := HI.out.front.snoc HAT.out HGET.out hr (p := ⟨bytes10 h.o, ad, cp⟩) rfl
        obtain ⟨fn, tmps, assign, body, hy, hR⟩ := HG.out pre ⟨bytes10 h.o, ad, cp⟩ wr w2 HJ.out hb ⟨hsn, hI2, hcp⟩ (by have := HAT.out; omega)
        have hy : (Instr.yield i #[.slice ad (oxmBytes h.o.C h.o.F h.o.H h.o.X h.o.v h.o.m).length cp, .int .i64 0]).run Tryz.prog w2 = .ok (.round i fn tmps assign body) w2 := hy
        have HSN := hid hsn
        have hs2 := hb.size
        clear hr x0 x1 x2 x3 x4 x5 c0 c1 c2 c3 c4 c5 hsn hI2
        go_upto_region 4 with fail
        refine (wpIn_wide (n := 0)).1 ?_
        gi_wp2
        refine ⟨rfl, hR.mono ?_⟩
        rintro e W3 ⟨rfl, hj3, hs3, hk3⟩
        have hI3 := hid ((HI.out.below hb).kept hs3 hk3)
        have HJ3 := hid hj3
        clear hk3 hj3 hR hy
        gi_wp2
        go_wp2
        go_roundw
        case rel => exact ⟨at_ + 1, pre ++ [⟨bytes10 h.o, ad, cp⟩], by go_num, by rw [List.length_append, HAT.out]; rfl, ⟨HSN.out, hI3.out.box, hI3.out.lt, hI3.out.stays⟩, HJ3.out, by omega⟩
        case measure => simp [intOf]; omega
    · have hge' : (l.length : Int) ≤ (at_ : Int) := by omega
      have HI := hid hi
      clear hi
      go_wp2
      go_end0
      refine ⟨⟨_, rfl⟩, .inl ⟨pre, ?_, hj⟩⟩
      exact HI.out.front.all (by rw [List.length_map]; omega)
end Go.Proofs.YtpmkfkanolhocaaGreat
namespace Go.Proofs.YtpmkfkanolhocaaGreat
open Go.RowKit
set_option linter.unusedVariables false
set_option maxRecDepth 100000
attribute [local go_sem] Oper.semAt_some

theorem ent_others10 {W W' : World} {row : Option Nat} {h : Ent9} (e : EntIn W h) (hg : W.grownBy W' row) (hr : ∀ r, row = some r → ∃ o : Obj, W.heap[r]? = some o ∧ o.isCells = false) : EntIn W' h :=
  ⟨ints_others10 e.iv hg hr, ints_others10 e.im hg hr, e.ov, e.om, e.cm, e.c, e.f, e.x⟩
/-- what has come so far, of bytes of which at_ are read -/
structure PreV (b : List Int) (at_ : Nat) (pre : List Ent9) : Prop where
  le : at_ ≤ b.length
  few : 4 * pre.length ≤ at_
  cut : Hid (vals10 b = (pre.map Ent9.o ++ (vals10 (b.drop at_)).1, (vals10 (b.drop at_)).2))
theorem preV_nil (b : List Int) : PreV b 0 [] := ⟨Nat.zero_le _, by simp, by show _ = _; simp⟩
theorem PreV.ok {b : List Int} {at_ : Nat} {pre : List Ent9} (h : PreV b at_ pre) (hlt : at_ < b.length) {o : Oxm8} (hd : decL (b.drop at_) = .ok o) (hn : o.n ≤ (b.drop at_).length) {x : Ent9} (hx : x.o = ox10 o) : PreV b (at_ + o.n) (pre ++ [x]) := by
  have h4 := dec_pos10 hd
  have hb : b.drop at_ ≠ [] := by intro e; have := congrArg List.length e; rw [List.length_drop] at this; simp at this; omega
  rw [List.length_drop] at hn
  refine ⟨by omega, by rw [List.length_append]; have := h.few; simp; omega, ?_⟩
  show _ = _
  rw [h.cut.out, vals_ok hb hd, List.drop_drop, List.map_append]
  simp [hx]
theorem PreV.err {b : List Int} {at_ : Nat} {pre : List Ent9} (h : PreV b at_ pre) (hlt : at_ < b.length) {q : Int} (hd : decL (b.drop at_) = .error q) : vals10 b = (pre.map Ent9.o, q) := by
  have hb : b.drop at_ ≠ [] := by intro e; have := congrArg List.length e; rw [List.length_drop] at this; simp at this; omega
  rw [h.cut.out, vals_err hb hd]
  simp
theorem PreV.done {b : List Int} {at_ : Nat} {pre : List Ent9} (h : PreV b at_ pre) (hge : b.length ≤ at_) : vals10 b = (pre.map Ent9.o, 0) := by
  rw [h.cut.out, List.drop_eq_nil_of_le hge, vals_nil]
  simp
/-- a value that comes behind others -/
structure NextV (b : List Int) (pre : List Ent9) (x : Ent9) (n : Nat) (w : World) : Prop where
  new : (∀ q : Addr, x.va = some q → n ≤ q.block) ∧ (∀ q : Addr, x.ma = some q → n ≤ q.block)
  ent : EntIn w x
  few : x.o.v.length ≤ 1000 ∧ x.o.m.length ≤ 1000
  front : ∃ k, PreV b k (pre ++ [x])
theorem NextV.own (b : List Int) (pre : List Ent9) (n B : Nat) : OwnFrom B (fun x W => NextV b pre x n W) :=
  fun x W W' row hx hg hr => ⟨hx.new, ent_others10 hx.ent hg (fun r e => (hr r e).2), hx.few, hx.front⟩

structure IterV (w0 : World) (a : Option Addr) (c p : Nat) (b : List Int) (at_ : Nat) (pre : List Ent9) (w : World) : Prop where
  front : PreV b at_ pre
  box : w.cell? ⟨p, 0, none⟩ = some (.slice a b.length c)
  lt : p < w.heap.size
  stays : Stays w0 w
theorem IterV.kept {w0 w w' : World} {a : Option Addr} {c p : Nat} {b : List Int} {at_ : Nat} {pre : List Ent9} (h : IterV w0 a c p b at_ pre w) (hs : w.heap.size ≤ w'.heap.size) (hk : ∀ k, (k = p ∨ k < w0.heap.size) → k < w.heap.size → w'.heap[k]? = w.heap[k]?) : IterV w0 a c p b at_ pre w' :=
  ⟨h.front, (World.cell?_of_block (a := ⟨p, 0, none⟩) (hk p (.inl rfl) h.lt)).trans h.box, Nat.lt_of_lt_of_le h.lt hs, Nat.le_trans h.stays.1 hs, fun k hk' => (hk k (.inr hk') (Nat.lt_of_lt_of_le hk' h.stays.1)).trans (h.stays.2 k hk')⟩
theorem IterV.below {w0 w w' : World} {a : Option Addr} {c p : Nat} {b : List Int} {at_ : Nat} {pre : List Ent9} (h : IterV w0 a c p b at_ pre w) (hb : Below w.heap.size w w') : IterV w0 a c p b at_ pre w' :=
  h.kept hb.size (fun k _ hk => hb.block k hk)
/-- a value that was decoded is one that may stand in a list -/
theorem dec_ent10 {b : List Int} {o : Oxm8} (hd : decL b = .ok o) (ho : Octets b) {w : World} {a1 a2 : Option Addr} {c1 c2 : Nat} (h1 : Ints .u8 w a1 o.v) (h2 : Ints .u8 w a2 o.m) (hc : o.m.length ≤ c2) : EntIn w ⟨ox10 o, a1, c1, a2, c2⟩ ∧ o.v.length ≤ 255 ∧ o.m.length ≤ 255 ∧ o.n ≤ b.length := by
  obtain ⟨r1, r2, r3, r4⟩ := dec_right hd ho
  obtain ⟨q1, q2, q3, q4, _⟩ := raw_octets (dec_raw hd) ho
  have ft := right_facts r1
  refine ⟨⟨h1, h2, q1, q2, hc, ?_, ?_, ?_⟩, q3, q4, r2⟩
  · show _ ≤ o.C ∧ o.C ≤ _; rcases ft.cls with h | h <;> omega
  · show _ ≤ o.F ∧ o.F ≤ _; have := ft.f0; have := ft.f1; omega
  · show _ ≤ o.X ∧ o.X ≤ _; have := ft.x1; omega

end Go.Proofs.YtpmkfkanolhocaaGreat
namespace Go.Proofs.YtpmkfkanolhocaaGreat
open Go.RowKit
set_option linter.unusedVariables false
attribute [local go_sem] Oper.semAt_some

/-- a cell that may be written -/
structure Cell10 (w : World) (b : Nat) (v : Value) : Prop where
  c : w.cell? ⟨b, 0, none⟩ = some v
  f : w.frozen? ⟨b, 0, none⟩ = false
theorem Cell10.below {w w' : World} {b : Nat} {v : Value} (h : Cell10 w b v) (hb : Below w.heap.size w w') : Cell10 w' b v := ⟨cell_keep h.c hb, (hb.frozen (World.block_lt_of_cell? w _ h.c)).trans h.f⟩
theorem Cell10.new (w : World) (v : Value) (T : TypeId) : Cell10 (w.alloc (.cells #[v] T)) w.heap.size v := ⟨by simp, by simp⟩
theorem Cell10.others {W W' : World} {b : Nat} {v : Value} {row : Option Nat} (h : Cell10 W b v) (hg : W.grownBy W' row) (hr : ∀ r, row = some r → ∃ o : Obj, W.heap[r]? = some o ∧ o.isCells = false) : Cell10 W' b v :=
  ⟨cell_kept h.c hg hr, (frozen_kept h.c hg hr).trans h.f⟩
theorem Cell10.lt {w : World} {b : Nat} {v : Value} (h : Cell10 w b v) : b < w.heap.size := World.block_lt_of_cell? w _ h.c
theorem Cell10.set {w : World} {b : Nat} {v : Value} (h : Cell10 w b v) (u : Value) : Cell10 (w.setCell ⟨b, 0, none⟩ u) b u := ⟨World.cell?_setCell_same _ _ _ h.c, (World.frozen?_setCell _ _ _ _).trans h.f⟩
theorem Cell10.far {w : World} {b g : Nat} {v : Value} (h : Cell10 w b v) (hne : b ≠ g) (u : Value) : Cell10 (w.setCell ⟨g, 0, none⟩ u) b v :=
  ⟨(World.cell?_setCell_other _ _ _ _ (by intro e; injection e with e1; exact hne e1.symm)).trans h.c, (World.frozen?_setCell _ _ _ _).trans h.f⟩
theorem Cell10.kept {w w' : World} {b : Nat} {v : Value} (h : Cell10 w b v) (hb : w'.heap[b]? = w.heap[b]?) : Cell10 w' b v :=
  ⟨(World.cell?_of_block (a := ⟨b, 0, none⟩) hb).trans h.c, (World.frozen?_of_block (a := ⟨b, 0, none⟩) hb).trans h.f⟩

theorem written10_any (w : World) (a : Option Addr) (c : Nat) (l : List Ent9) :
    Calls Tryz.prog 49 #[.slice a l.length c] w fun e w' => ∃ p, e = .returned (.func (.func 72) #[] #[.pointer (some ⟨p, 0, none⟩)]) ∧
      w'.cell? ⟨p, 0, none⟩ = some (.slice a l.length c) ∧ Below w.heap.size w w' ∧ w.heap.size ≤ p ∧ p < w'.heap.size := by
  go_enter Tryz.func49, Tryz.ntmps49
  go_wp2
  go_ret
  exact ⟨w.heap.size, rfl, by simp, below_alloc _ _, Nat.le_refl _, by rw [World.size_alloc]; omega⟩

/-- all bytes that have come -/
def all10 (pre : List Piece10) : List Int := (pre.map Piece10.x).flatten
theorem all10_snoc (pre : List Piece10) (x : Piece10) : all10 (pre ++ [x]) = all10 pre ++ x.x := by simp [all10]
theorem all10_body {l : List Ox9} {xs : List Piece10} (h : xs.map Piece10.x = l.map bytes10) : all10 xs = body10 l := by
  unfold all10 body10; rw [h]; rfl
theorem all10_len {l : List Ox9} {pre : List Piece10} (h : Pre10 l pre) : (all10 pre).length ≤ (body10 l).length := by
  unfold all10
  rw [h.is]
  have e : body10 l = body10 (l.take pre.length) ++ body10 (l.drop pre.length) := by rw [← body_append10, List.take_append_drop]
  rw [e, List.length_append]
  show (body10 (l.take pre.length)).length ≤ _
  omega

/-- between two rounds of the loop that reckons the length -/
structure LenAt (w0 : World) (T R2 R3 : Nat) (pre : List Piece10) (W : World) : Prop where
  n : Cell10 W T (.int .i64 ((4 + (all10 pre).length : Nat) : Int))
  r2 : Cell10 W R2 (.int .i64 0)
  r3 : Cell10 W R3 (.bool false)
  bel : Below w0.heap.size w0 W
theorem LenAt.own {w0 : World} {T R2 R3 B : Nat} (hB : w0.heap.size ≤ B) : OwnFrom B (LenAt w0 T R2 R3) := by
  intro pre W W' row h hg hr
  have hr2 : ∀ r, row = some r → ∃ o : Obj, W.heap[r]? = some o ∧ o.isCells = false := fun r e => (hr r e).2
  exact ⟨h.n.others hg hr2, h.r2.others hg hr2, h.r3.others hg hr2, ownFrom_below (Nat.le_refl _) hB () W W' row h.bel hg hr⟩

theorem three10 (w : World) (v2 v3 v4 : Value) (t2 t3 t4 : TypeId) :
    ∃ W, ((w.alloc (.cells #[v2] t2)).alloc (.cells #[v3] t3)).alloc (.cells #[v4] t4) = W ∧ Below w.heap.size w W ∧ W.heap.size = w.heap.size + 3 ∧ Cell10 W w.heap.size v2 ∧ Cell10 W (w.heap.size + 1) v3 ∧ Cell10 W (w.heap.size + 1 + 1) v4 := by
  have b1 := below_alloc w (.cells #[v2] t2)
  have b2 := below_alloc (w.alloc (.cells #[v2] t2)) (.cells #[v3] t3)
  have b3 := below_alloc ((w.alloc (.cells #[v2] t2)).alloc (.cells #[v3] t3)) (.cells #[v4] t4)
  have c2 := ((Cell10.new w v2 t2).below b2).below b3
  have c3 := (Cell10.new (w.alloc (.cells #[v2] t2)) v3 t3).below b3
  have c4 := Cell10.new ((w.alloc (.cells #[v2] t2)).alloc (.cells #[v3] t3)) v4 t4
  simp only [World.size_alloc] at c3 c4
  exact ⟨_, rfl, below_on (below_on b1 b2) b3, by simp, c2, c3, c4⟩

set_option maxRecDepth 100000 in
set_option maxHeartbeats 2000000 in
theorem length10_any (w : World) (a : Option Addr) (c : Nat) (l : List Ent9) (hL : L9 w a l) (hlc : l.length ≤ c) (hbig : len10 (l.map Ent9.o) ≤ 65528) :
    Calls Tryz.prog 26 #[.slice a l.length c] w fun e w' => e = .returned (.tuple #[.int .i64 (if (l.map Ent9.o).all right10 = true then ((len10 (l.map Ent9.o) : Nat) : Int) else 0), .bool (isMatch10 (l.map Ent9.o))]) ∧ Below w.heap.size w w' := by
  have HL := hid hL
  have HBIG := hid hbig
  clear hL hbig
  obtain ⟨W0, hW0, hbW, hsz, k2, k3, k4⟩ := three10 w (.int .i64 0) (.bool false) (.int .i64 4) 3 4 3
  have HW0 := hid hW0
  clear hW0
  refine (callsIn_wide (n := 0)).1 (callsIn_of_wp_marks Tryz.func26 rfl (by simp [Fence.wide]) ?_)
  refine wpIn_wide.2 ?_
  simp only [Tryz.ntmps26, List.size_toArray, List.length_cons, List.length_nil, Nat.reduceAdd, Nat.reduceSub, Array.replicate_succ, Array.replicate_zero, List.push_toArray, List.append_toArray, List.nil_append, List.cons_append]
  go_upto_region 2 with fail
  rw [HW0.out]
  go_wp2_with fail
  refine (written10_any _ _ _ _).mono ?_
  rintro e w2 ⟨p, rfl, hbx, hb2, hp1, hp2⟩
  have hB2 : Below w.heap.size w w2 := below_on hbW hb2
  have hs2 := hb2.size
  have m2 := k2.below hb2
  have m3 := k3.below hb2
  have m4 := k4.below hb2
  have HIT : Hid (Iter10 w a c p l [] w2) := ⟨pre10_nil _, hbx, hp2, Stays.of_below hB2⟩
  have HB2 := hid hB2
  have HP1 : Hid (w.heap.size + 3 ≤ p) := by show _ ≤ _; omega
  clear k2 k3 k4 hbx
  go_wp2_with fail
  refine wp_rangeT (gf := 72) (jc := .ret) rfl (fun args w => by simp [callFunc, Tryz.func72, Tryz.f72, mark]) (written10_yields w w2 a c p l HL.out HIT.out) (fun k hk => by rcases hk with rfl | hk; exact hp2; have := HB2.out.size; omega) (fun _ => rfl) (fun _ => rfl)
    (LenAt w (w.heap.size + 1 + 1) w.heap.size (w.heap.size + 1))
    (fun _ q W => (q = 10001 → W.cell? ⟨w.heap.size, 0, none⟩ = some (.int .i64 0)) ∧ W.cell? ⟨w.heap.size + 1, 0, none⟩ = some (.bool false) ∧ Below w.heap.size w W)
    (LenAt.own HB2.out.size) (fun pre n => Next10.own _ _ _)
    (fun x W W' row hx hg hr => ⟨fun e => cell_kept (hx.1 e) hg (fun r e => (hr r e).2), cell_kept hx.2.1 hg (fun r e => (hr r e).2), ownFrom_below (Nat.le_refl _) HB2.out.size () W W' row hx.2.2 hg hr⟩)
    ⟨m4, m2, m3, HB2.out⟩
    (fun x a' _ => a' = { tmps := #[.slice a l.length c, undef, .pointer (some ⟨w.heap.size, 0, none⟩), .pointer (some ⟨w.heap.size + 1, 0, none⟩), .pointer (some ⟨w.heap.size + 1 + 1, 0, none⟩), x.v, .int .i64 0, undef, undef, .slice a l.length c, .func (.func 72) #[] #[.pointer (some ⟨p, 0, none⟩)], x.v, .int .i64 0, undef, undef, undef, undef, undef, undef, undef, undef, undef, undef, undef, undef, undef, undef, undef, undef, undef, undef], defers := [] })
    (fun x a' _ W W' row hx hg hr => hx)
    (fun q a' W => a' = { tmps := #[.slice a l.length c, undef, .pointer (some ⟨w.heap.size, 0, none⟩), .pointer (some ⟨w.heap.size + 1, 0, none⟩), .pointer (some ⟨w.heap.size + 1 + 1, 0, none⟩), .slice none 0 0, .int .i64 q, undef, undef, .slice a l.length c, .func (.func 72) #[] #[.pointer (some ⟨p, 0, none⟩)], .slice none 0 0, .int .i64 q, undef, undef, undef, undef, undef, undef, undef, undef, undef, undef, undef, undef, undef, undef, undef, undef, undef, undef], defers := [] })
    (fun x a' _ W W' row hx hg hr => hx) ?asg ?asb ?good ?bad ?done ?stop
  case asg =>
    rintro i ⟨xb, xa, xc⟩ W C hC
    dsimp only [Piece10.v] at hC ⊢
    gi_wp2
    exact hC _ _ (Below.refl _ _) rfl
  case asb =>
    intro i x W C hC
    gi_wp2
    exact hC _ _ (Below.refl _ _) rfl
  case good =>
    rintro i pre ⟨xb, xa, xc⟩ a' W0' W hWs hlen2 hI0 hcl hI hx rfl
    clear hI0 hcl
    dsimp only [Piece10.v]
    obtain ⟨⟨n1, n2⟩, ⟨r1, r2⟩, ⟨r3, r4⟩, hbl⟩ := hI
    have HFR := hid hx.front
    have hle := all10_len hx.front
    have hsn : all10 (pre ++ [⟨xb, xa, xc⟩]) = all10 pre ++ xb := all10_snoc pre ⟨xb, xa, xc⟩
    have hbg := HBIG.out
    unfold len10 at hbg
    rw [hsn, List.length_append] at hle
    have hn3 : ((4 + (all10 pre).length : Nat) : Int) + (xb.length : Int) ≤ 65528 := by omega
    have hnn : ((4 + (all10 pre).length : Nat) : Int) + (xb.length : Int) = ((4 + (all10 (pre ++ [⟨xb, xa, xc⟩])).length : Nat) : Int) := by rw [hsn, List.length_append]; omega
    have HNN := hid hnn
    have HBL := hid hbl
    obtain ⟨nn, hnn2⟩ : ∃ nn : Nat, 4 + (all10 pre).length = nn := ⟨_, rfl⟩
    rw [hnn2] at n1 hn3 HNN
    clear hx hle hsn hbg hnn hbl hnn2
    have hn4 : ¬ (65528 : Int) < (nn : Int) + (xb.length : Int) := by omega
    have hnz : (0 : Int) ≤ (nn : Int) + (xb.length : Int) := by omega
    have hlt := hlen2
    gi_wp2
    refine ⟨(KeepsOthers.setCell _ _ _).from _, fun k hk hkw => Below.heap_setCell _ _ _ _ (by show k ≠ w.heap.size + 1 + 1; have := HP1.out; rcases hk with rfl | hk <;> omega), ?_, (Cell10.mk r1 r2).far (by omega) _, (Cell10.mk r3 r4).far (by omega) _, HBL.out.setCell (by show w.heap.size ≤ w.heap.size + 1 + 1; omega) _⟩
    rw [HNN.out]
    exact (Cell10.mk n1 n2).set _
  case bad =>
    rintro i pre q a' W hWs hq hsp hI rfl
    have hq0 : (q != 0) = true := by simpa using hq
    obtain ⟨⟨n1, n2⟩, ⟨r1, r2⟩, ⟨r3, r4⟩, hbl⟩ := hI
    have HBL := hid hbl
    clear hq hbl
    obtain ⟨nn, hnn2⟩ : ∃ nn : Nat, 4 + (all10 pre).length = nn := ⟨_, rfl⟩
    rw [hnn2] at n1
    clear hnn2
    gi_wp2
    have k3 := (((Cell10.mk r3 r4).far (g := w.heap.size + 1 + 1) (by omega) (.int .i64 (wrap64 (nn : Int)))).far (g := w.heap.size) (by omega) (.int .i64 0)).set (.bool false)
    have k2 := (((Cell10.mk r1 r2).far (g := w.heap.size + 1 + 1) (by omega) (.int .i64 (wrap64 (nn : Int)))).set (.int .i64 0)).far (g := w.heap.size + 1) (by omega) (.bool false)
    exact ⟨rfl, (((KeepsOthers.setCell _ _ _).trans (KeepsOthers.setCell _ _ _)).trans (KeepsOthers.setCell _ _ _)).from _, fun _ => k2.c, k3.c, ((HBL.out.setCell (by show w.heap.size ≤ w.heap.size + 1 + 1; omega) _).setCell (by show w.heap.size ≤ w.heap.size; omega) _).setCell (by show w.heap.size ≤ w.heap.size + 1; omega) _⟩
  case done =>
    rintro D xs W hD ⟨hall, hxs⟩ hI hK
    obtain ⟨kn, k2, k3, hbl⟩ := hI
    have hCK := check_any9 l a c W (HL.out.below hbl) hlc
    obtain ⟨⟨p1, q1⟩, hck⟩ : ∃ r, check9 (l.map Ent9.o) = r := ⟨_, rfl⟩
    rw [hck] at hCK
    have HCK := hid hCK
    have HB5 := hid hbl
    rw [all10_body hxs] at kn
    have hln : 4 + (body10 (l.map Ent9.o)).length = len10 (l.map Ent9.o) := rfl
    rw [hln] at kn
    have HMT : Hid ((q1 == 0) = isMatch10 (l.map Ent9.o)) := by show _ = _; unfold isMatch10; rw [hall, hck]; rfl
    have HALL := hid hall
    obtain ⟨n, hn⟩ : ∃ n, len10 (l.map Ent9.o) = n := ⟨_, rfl⟩
    rw [hn] at kn
    have HN := hid hn
    unfold ckV at HCK
    clear hCK hck hxs hall hln hbl hn
    obtain ⟨mt, hmt⟩ : ∃ mt, (q1 == 0) = mt := ⟨_, rfl⟩
    rw [hmt] at HMT
    have HMT2 := hid hmt
    go_wp2_with fail
    refine HCK.out.mono ?_
    rintro e w5 ⟨rfl, hb5⟩
    have HB6 := hid (below_on HB5.out hb5)
    have hK5 : w5.heap[D]? = some (.deferred (some [])) := (hb5.block D (Array.getElem?_eq_some_iff.1 hK).1).trans hK
    have mn := kn.below hb5
    have m2' := k2.below hb5
    have m3' := k3.below hb5
    have hs5 := hb5.size
    obtain ⟨n1, n2⟩ := mn
    obtain ⟨r1, r2⟩ := m2'
    obtain ⟨r3, r4⟩ := m3'
    have x2 := ((Cell10.mk r1 r2).set (.int .i64 (n : Int))).far (g := w.heap.size + 1) (by omega) (.bool mt)
    have x3 := ((Cell10.mk r3 r4).far (g := w.heap.size) (by omega) (.int .i64 (n : Int))).set (.bool mt)
    have hbx := (HB6.out.setCell (p := ⟨w.heap.size, 0, none⟩) (Nat.le_refl _) (.int .i64 (n : Int))).setCell (p := ⟨w.heap.size + 1, 0, none⟩) (by show w.heap.size ≤ w.heap.size + 1; omega) (.bool mt)
    have hKx : ((w5.setCell ⟨w.heap.size, 0, none⟩ (.int .i64 (n : Int))).setCell ⟨w.heap.size + 1, 0, none⟩ (.bool mt)).heap[D]? = some (.deferred (some [])) :=
      (Below.heap_setCell _ _ _ _ (by show D ≠ w.heap.size + 1; omega)).trans ((Below.heap_setCell _ _ _ _ (by show D ≠ w.heap.size; omega)).trans hK5)
    obtain ⟨W6, hW6⟩ : ∃ W6, (w5.setCell ⟨w.heap.size, 0, none⟩ (.int .i64 (n : Int))).setCell ⟨w.heap.size + 1, 0, none⟩ (.bool mt) = W6 := ⟨_, rfl⟩
    rw [hW6] at x2 x3 hbx hKx
    have HW6 := hid hW6
    have HX := hid (And.intro x2 (And.intro x3 (And.intro hbx hKx)))
    clear x2 x3 hbx hKx hW6 kn k2 k3 hb5 hmt
    go_wp2_with fail
    rw [HMT2.out]
    go_wp2_with fail
    rw [HW6.out]
    obtain ⟨x2, x3, hbx, hKx⟩ := HX.out
    have hgp := grownBy_putObj' W6 D (.deferred none)
    have hr : ∀ r, some D = some r → ∃ o : Obj, W6.heap[r]? = some o ∧ o.isCells = false := fun r e => by cases e; exact ⟨_, hKx, rfl⟩
    have q2 := cell_kept x2.c hgp hr
    have q3 := cell_kept x3.c hgp hr
    refine ⟨by simp, .inl ⟨_, _, rfl, run_takeDeferred hKx, ?_⟩⟩
    refine ⟨.tuple #[.int .i64 (n : Int), .bool mt], ?_, ?_, hbx.grown hgp hbx.size (fun k e => by cases e; have := HB2.out.size; omega)⟩
    · simp [results, Tryz.f26, go_sem, q2, q3]
    · rw [HN.out, HMT.out]
  case stop =>
    rintro D pre q W hD ⟨rfl, hcut⟩ ⟨c2, c3, hbW⟩ hK
    have hgp := grownBy_putObj' W D (.deferred none)
    have hr : ∀ r, some D = some r → ∃ o : Obj, W.heap[r]? = some o ∧ o.isCells = false := fun r e => by cases e; exact ⟨_, hK, rfl⟩
    have q2 := cell_kept (c2 rfl) hgp hr
    have q3 := cell_kept c3 hgp hr
    have HR := hid hr
    clear hr
    gi_wp2
    refine ⟨by simp, .inl ⟨_, _, rfl, run_takeDeferred hK, ?_⟩⟩
    refine ⟨.tuple #[.int .i64 0, .bool false], ?_, ?_, hbW.grown hgp hbW.size (fun k e => by cases e; have := HB2.out.size; omega)⟩
    · simp [results, Tryz.f26, go_sem, q2, q3]
    · simp [isMatch10, hcut]
end Go.Proofs.YtpmkfkanolhocaaGreat
namespace Go.Proofs.YtpmkfkanolhocaaGreat
open Go.RowKit
set_option linter.unusedVariables false
set_option maxRecDepth 100000
attribute [local go_sem] Oper.semAt_some

theorem own_not_other10 {W : World} {e : TypeId} {size n : Nat} {v : Value} {xs : List Value} (h : W.ownsRow 0 e size v n xs) {row : Option Nat} (hr : ∀ r, row = some r → ∃ o : Obj, W.heap[r]? = some o ∧ o.isCells = false) : v.ownBlock = none ∨ v.ownBlock ≠ row := by
  rcases h.2 with ⟨rfl, _⟩ | ⟨g, cap, cur, rfl, _, hg, _⟩
  · exact .inl rfl
  · refine .inr fun e => ?_
    obtain ⟨o, ho, hc⟩ := hr g (by rw [← e]; rfl)
    rw [hg] at ho; cases ho; cases hc
theorem Oxms.kept' {w w' : World} {a : Option Addr} {l : List Ent9} (h : Oxms w a l) {g : Nat} (hb : w.grownBy w' (some g)) (hne : ∀ q : Addr, a = some q → q.block ≠ g) : Oxms w' a l := by
  intro i hi
  obtain ⟨b, off, ha, h0, h1, h2, h3, h4, h5⟩ := h i hi
  have e : ∀ {k u}, w.cell? ⟨b, k, none⟩ = some u → w'.cell? ⟨b, k, none⟩ = some u := fun hc => hb.cell hc (fun e => hne ⟨b, off, none⟩ ha (by simpa using e))
  exact ⟨b, off, ha, e h0, e h1, e h2, e h3, e h4, e h5⟩
/-- where a value's bytes lie, is none of these blocks -/
structure Far10 (S : Nat → Prop) (x : Ent9) : Prop where
  v : x.o.v ≠ [] → ∀ q : Addr, x.va = some q → ¬ S q.block
  m : x.o.m ≠ [] → ∀ q : Addr, x.ma = some q → ¬ S q.block
theorem Far10.mono {S T : Nat → Prop} {x : Ent9} (h : Far10 S x) (hs : ∀ k, T k → S k) : Far10 T x := ⟨fun a q b c => h.v a q b (hs _ c), fun a q b c => h.m a q b (hs _ c)⟩
theorem ints_lt10 {k : IntKind} {w : World} {a : Option Addr} {l : List Int} (h : Ints k w a l) (hl : l ≠ []) {q : Addr} (hq : a = some q) : q.block < w.heap.size := by
  obtain ⟨b, off, ha, hc⟩ := h 0 (List.length_pos_iff.2 hl)
  rw [hq] at ha; cases ha
  exact World.block_lt_of_cell? w _ hc
theorem ints_far10 {k : IntKind} {w w' : World} {a : Option Addr} {l : List Int} {row : Option Nat} (h : Ints k w a l) (hb : w.grownBy w' row) (hf : l ≠ [] → ∀ q : Addr, a = some q → row ≠ some q.block) : Ints k w' a l := by
  intro i hi
  obtain ⟨b, off, ha, hc⟩ := h i hi
  have hne : l ≠ [] := by intro e; rw [e] at hi; simp at hi
  exact ⟨b, off, ha, hb.cell hc (fun e => hf hne ⟨b, off, none⟩ ha e.symm)⟩
theorem EntIn.far {w w' : World} {x : Ent9} {row : Option Nat} (h : EntIn w x) (hb : w.grownBy w' row) (hf : Far10 (fun k => row = some k) x) : EntIn w' x :=
  ⟨ints_far10 h.iv hb (fun a q c e => hf.v a q c e), ints_far10 h.im hb (fun a q c e => hf.m a q c e), h.ov, h.om, h.cm, h.c, h.f, h.x⟩
/-- blocks that are not there yet are far -/
theorem EntIn.off {w : World} {x : Ent9} (h : EntIn w x) {S : Nat → Prop} (hS : ∀ k, S k → w.heap.size ≤ k) : Far10 S x :=
  ⟨fun a q c e => by have := ints_lt10 h.iv a c; have := hS _ e; omega, fun a q c e => by have := ints_lt10 h.im a c; have := hS _ e; omega⟩

/-- a list that was made since w0 -/
structure New9 (w0 : World) (a : Option Addr) (D : List Ent9) : Prop where
  box : ∀ q : Addr, a = some q → w0.heap.size ≤ q.block
  far : ∀ x ∈ D, Far10 (fun k => k < w0.heap.size) x
theorem New9.since {w0 w : World} {a : Option Addr} {D : List Ent9} (h : New9 w a D) (hs : w0.heap.size ≤ w.heap.size) : New9 w0 a D :=
  ⟨fun q hq => Nat.le_trans hs (h.box q hq), fun x hx => (h.far x hx).mono fun k e => Nat.lt_of_lt_of_le e hs⟩
theorem L9.by_new {w0 w w' : World} {a : Option Addr} {D : List Ent9} (h : L9 w a D) (hn : New9 w0 a D) {g : Nat} (hb : w.grownBy w' (some g)) (hg : g < w0.heap.size) : L9 w' a D := by
  refine ⟨h.ox.kept' hb fun q hq => by have := hn.box q hq; omega, fun x hx => (h.ent x hx).far hb ((hn.far x hx).mono fun k e => by simp at e; subst e; exact hg), h.few, h.len⟩
/-- between two rounds of the loop that reads: T4 has the list, T5 the error -/
structure ReadAt (w0 : World) (B T4 T5 : Nat) (q : Int) (pre : List Ent9) (W : World) : Prop where
  v : ∃ v, Cell10 W T4 v ∧ W.ownsRow 0 33 6 v pre.length (oxmCells pre) ∧ (∀ g, v.ownBlock = some g → B ≤ g) ∧ (∀ x ∈ pre, EntIn W x ∧ (x.o.v.length ≤ 1000 ∧ x.o.m.length ≤ 1000) ∧ Far10 (fun k => k = T4 ∨ k = T5 ∨ v.ownBlock = some k ∨ k < w0.heap.size) x)
  t5 : Cell10 W T5 (.int .i64 q)
  bel : Below w0.heap.size w0 W
theorem ReadAt.own {w0 : World} {B T4 T5 : Nat} {q : Int} (hB : w0.heap.size ≤ B) : OwnFrom B (ReadAt w0 B T4 T5 q) := by
  intro pre W W' row h hg hr
  have hr2 : ∀ r, row = some r → ∃ o : Obj, W.heap[r]? = some o ∧ o.isCells = false := fun r e => (hr r e).2
  obtain ⟨v, h1, h2, h3, h4⟩ := h.v
  exact ⟨⟨v, h1.others hg hr2, h2.kept hg (own_not_other10 h2 hr2), h3, fun x hx => ⟨ent_others10 (h4 x hx).1 hg hr2, (h4 x hx).2⟩⟩, h.t5.others hg hr2, ownFrom_below (Nat.le_refl _) hB () W W' row h.bel hg hr⟩
theorem ReadAt.below {w0 W W' : World} {B T4 T5 : Nat} {q : Int} {pre : List Ent9} (h : ReadAt w0 B T4 T5 q pre W) (hb : Below W.heap.size W W') : ReadAt w0 B T4 T5 q pre W' := by
  obtain ⟨v, h1, h2, h3, h4⟩ := h.v
  exact ⟨⟨v, h1.below hb, h2.kept (below_by_none hb) (by cases v.ownBlock <;> simp), h3, fun x hx => ⟨(h4 x hx).1.below hb, (h4 x hx).2⟩⟩, h.t5.below hb, below_on h.bel hb⟩
/-- the list is one of values -/
theorem ReadAt.l9 {w0 W : World} {B T4 T5 : Nat} {q : Int} {pre : List Ent9} (h : ReadAt w0 B T4 T5 q pre W) (hl : pre.length ≤ 1000) (hB : w0.heap.size ≤ B) :
    ∃ va vc, Cell10 W T4 (.slice va pre.length vc) ∧ L9 W va pre ∧ pre.length ≤ vc ∧ vc ≤ 9223372036854775807 ∧ New9 w0 va pre := by
  obtain ⟨v, h1, h2, h3, h4⟩ := h.v
  obtain ⟨va, vc, rfl, e1, e2, e3, e4⟩ := own_oxms h2
  refine ⟨va, vc, h1, ⟨e3, fun x hx => (h4 x hx).1, fun x hx => (h4 x hx).2.1, hl⟩, e1, e2, fun q hq => ?_, fun x hx => (h4 x hx).2.2.mono fun k e => .inr (.inr (.inr e))⟩
  rcases e4 with e4 | ⟨g, e4, eo⟩
  · rw [e4] at hq; cases hq
  · rw [e4] at hq; cases hq; have := h3 g eo; show w0.heap.size ≤ g; omega
theorem by_set10 (W : World) (R : Nat) (v : Value) : W.grownBy (W.setCell ⟨R, 0, none⟩ v) (some R) := ⟨rfl, rfl, rfl, by simp [World.setCell], fun k hk hne => Below.heap_setCell _ _ _ _ (fun e => hne (by rw [e]))⟩
/-- the error is laid down -/
theorem ReadAt.setE {w0 W : World} {B T4 T5 : Nat} {q : Int} {pre : List Ent9} (h : ReadAt w0 B T4 T5 q pre W) (h45 : T4 ≠ T5) (h5 : T5 < B) (h50 : w0.heap.size ≤ T5) (u : Int) : ReadAt w0 B T4 T5 u pre (W.setCell ⟨T5, 0, none⟩ (.int .i64 u)) := by
  obtain ⟨v, h1, h2, h3, h4⟩ := h.v
  have hb := by_set10 W T5 (.int .i64 u)
  refine ⟨⟨v, h1.far h45 _, h2.kept hb ?_, h3, fun x hx => ⟨(h4 x hx).1.far hb ((h4 x hx).2.2.mono fun k e => .inr (.inl (by simpa using e.symm))), (h4 x hx).2⟩⟩, h.t5.set _, h.bel.setCell h50 _⟩
  cases hv : v.ownBlock with
  | none => exact .inl rfl
  | some g => exact .inr (fun e => by have := h3 g hv; simp at e; omega)

theorem ReadAt.step {w0 W0 W : World} {B T4 T5 : Nat} {pre : List Ent9} (hI0 : ReadAt w0 B T4 T5 0 pre W0) (hcl : ∀ p u, W0.cell? p = some u → W.cell? p = some u) (h4 : T4 < B) (h5 : T5 < B) (h45 : T4 ≠ T5) (h40 : w0.heap.size ≤ T4) (hBW : B ≤ W.heap.size)
    {x : Ent9} (hx : EntIn W x) (hf : x.o.v.length ≤ 1000 ∧ x.o.m.length ≤ 1000) (hn : (∀ q : Addr, x.va = some q → W0.heap.size ≤ q.block) ∧ (∀ q : Addr, x.ma = some q → W0.heap.size ≤ q.block))
    {v : Value} (hv : Cell10 W T4 v) (hown : W.ownsRow 0 33 6 v pre.length (oxmCells pre)) (hvB : ∀ g, v.ownBlock = some g → B ≤ g)
    (he : ∀ x ∈ pre, EntIn W x ∧ (x.o.v.length ≤ 1000 ∧ x.o.m.length ≤ 1000) ∧ Far10 (fun k => k = T4 ∨ k = T5 ∨ v.ownBlock = some k ∨ k < w0.heap.size) x) (ht5 : Cell10 W T5 (.int .i64 0)) (hbl : Below w0.heap.size w0 W)
    {w1 w' : World} {v' : Value} (hw1 : Below W.heap.size W w1) (hg : GrewN 33 6 w1 w' v v' (pre.length + 1) (oxmCells (pre ++ [x]))) (K : Nat → Prop) (hK : ∀ k, K k → k < B ∧ k ≠ T4) :
    KeepsFrom B W (w'.setCell ⟨T4, 0, none⟩ v') ∧ (∀ k, K k → k < W.heap.size → (w'.setCell ⟨T4, 0, none⟩ v').heap[k]? = W.heap[k]?) ∧ ReadAt w0 B T4 T5 0 (pre ++ [x]) (w'.setCell ⟨T4, 0, none⟩ v') := by
  have ha : W.grownBy w1 none := below_by_none hw1
  have hs1 : B ≤ w1.heap.size := Nat.le_trans hBW ha.size
  have hv'B := hg.base hs1 hvB
  have hvne : ∀ k, k < B → v.ownBlock ≠ some k := fun k hk e => by have := hvB k e; omega
  have hv'ne : ∀ k, k < B → v'.ownBlock ≠ some k := fun k hk e => by have := hv'B k e; omega
  have hown1 := hown.kept ha (by cases v.ownBlock <;> simp)
  -- the list's block, the cells' blocks, stood ahead of the round
  obtain ⟨v0, c0, o0, _, _⟩ := hI0.v
  have e0 : v0 = v := by have := hcl _ _ c0.c; rw [hv.c] at this; simpa using this.symm
  subst e0
  have hlt : ∀ k, k = T4 ∨ k = T5 ∨ v0.ownBlock = some k ∨ k < w0.heap.size → k < W0.heap.size := by
    rintro k (rfl | rfl | e | e)
    · exact c0.lt
    · exact hI0.t5.lt
    · exact own_lt9 o0 e
    · exact Nat.lt_of_lt_of_le e hI0.bel.size
  have hxf : Far10 (fun k => k = T4 ∨ k = T5 ∨ v0.ownBlock = some k ∨ k < w0.heap.size) x := ⟨fun _ q e s => by have := hn.1 q e; have := hlt _ s; omega, fun _ q e s => by have := hn.2 q e; have := hlt _ s; omega⟩
  have heA : ∀ y ∈ pre ++ [x], EntIn W y ∧ (y.o.v.length ≤ 1000 ∧ y.o.m.length ≤ 1000) ∧ Far10 (fun k => k = T4 ∨ k = T5 ∨ v0.ownBlock = some k ∨ k < w0.heap.size) y := by
    intro y hy
    rcases List.mem_append.1 hy with hy | hy
    · exact he y hy
    · simp at hy; subst hy; exact ⟨hx, hf, hxf⟩
  have hset := by_set10 w' T4 v'
  have old : ∀ k, k < B → k ≠ T4 → (w'.setCell ⟨T4, 0, none⟩ v').heap[k]? = W.heap[k]? := fun k hk hne =>
    (Below.heap_setCell _ _ _ _ hne).trans ((hg.by_.block k (by omega) (fun e => hvne k hk e.symm)).trans (ha.block k (by omega) (by simp)))
  have t4' : Cell10 w' T4 v0 := (hv.kept (ha.block T4 (by omega) (by simp))).kept (hg.by_.block T4 (by omega) (fun e => hvne T4 h4 e.symm))
  refine ⟨?_, fun k hk hkw => old k (hK k hk).1 (hK k hk).2, ⟨⟨v', t4'.set v', ?_, hv'B, ?_⟩, ht5.kept (old T5 h5 (Ne.symm h45)), ?_⟩⟩
  · refine (((KeepsOthers.of_grownBy ha (fun j o e => by cases e)).trans (KeepsOthers.of_grownBy hg.by_ (fun j o e ho => ?_))).trans (KeepsOthers.setCell _ _ _)).from _
    rcases hown1.2 with ⟨rfl, _⟩ | ⟨g, cap, cur, rfl, _, hgc, _⟩
    · cases e
    · cases e; rw [hgc] at ho; cases ho; rfl
  · have h2 := hg.own.kept hset (.inr (hv'ne T4 h4))
    rw [List.length_append]
    exact h2
  · intro y hy
    obtain ⟨y1, y2, y3⟩ := heA y hy
    have z1 := y1.below hw1
    have z2 := z1.far hg.by_ (y3.mono fun k e => .inr (.inr (.inl e)))
    refine ⟨z2.far hset (y3.mono fun k e => .inl (by simpa using e.symm)), y2, ?_⟩
    rcases hg.moved with e | ⟨g, e, hgs⟩
    · rw [e]; exact y3
    · have hoff := z1.off (S := fun k => k = g) (fun k e => by subst e; exact hgs)
      refine ⟨fun a q b s => ?_, fun a q b s => ?_⟩
      · rcases s with s | s | s | s
        · exact y3.v a q b (.inl s)
        · exact y3.v a q b (.inr (.inl s))
        · rw [e] at s; exact hoff.v a q b (by simpa using s.symm)
        · exact y3.v a q b (.inr (.inr (.inr s)))
      · rcases s with s | s | s | s
        · exact y3.m a q b (.inl s)
        · exact y3.m a q b (.inr (.inl s))
        · rw [e] at s; exact hoff.m a q b (by simpa using s.symm)
        · exact y3.m a q b (.inr (.inr (.inr s)))
  · exact (((Turn.of_below (S := fun k => v0.ownBlock = some k) hw1).trans (Turn.of_by (S := fun k => v0.ownBlock = some k) hg.by_ (fun k e => e)) (fun _ _ e => e)).below hbl hbl.size (fun k e => by have := hvB k e; omega)).setCell h40 _

/-- append(s, x), one value, inside a fence -/
theorem wpIn_app_oxm {F : Fence} {d : Nat} {w : World} {ops : Array Oper} {rest : List Oper} {o : Oper} {a : Act} {Q : Exit → Act → World → Prop} (hgd : o.guard = none) (s x : Operand)
    (ho : o.op = .call { callee := .builtin .append, args := #[s, x], argTypes := #[22, 22] }) {v : Value} {n : Nat} {D : List Ent9} (hs : a.eval s = v) (hown : w.ownsRow 0 33 6 v n (oxmCells D))
    {ad : Addr} {c : Nat} {h : Ent9} (hx : a.eval x = .slice (some ad) 1 c) (hO : Oxms w (some ad) [h]) (hb : n ≤ 1000) {N : Nat} (hN : n + 1 = N)
    (hh : ∀ va' vc' w', GrewN 33 6 w w' v (.slice va' N vc') N (oxmCells (D ++ [h])) → wpListIn F d Tryz.prog ops Q rest (a.put o.dst (.slice va' N vc')) w') : wpListIn F d Tryz.prog ops Q (o :: rest) a w := by
  subst hN
  refine wpIn_app_many hgd s x ho elemOxm hs hown hx (oxmCells [h]) (oxmCells_length [h]) (oxms_cells hO) (oxm_flat [h]) (by omega) (by omega) ?_
  intro v' w' hg
  obtain ⟨va', vc', rfl⟩ := own_shape9 hg.own
  rw [← oxmCells_append] at hg
  exact hh va' vc' w' hg
end Go.Proofs.YtpmkfkanolhocaaGreat
namespace Go.Proofs.YtpmkfkanolhocaaGreat
open Go.RowKit
set_option linter.unusedVariables false
set_option maxRecDepth 100000
attribute [local go_sem] Oper.semAt_some

theorem two10 (w : World) (v4 v5 : Value) (t4 t5 : TypeId) :
    ∃ W, (w.alloc (.cells #[v4] t4)).alloc (.cells #[v5] t5) = W ∧ Below w.heap.size w W ∧ W.heap.size = w.heap.size + 2 ∧ Cell10 W w.heap.size v4 ∧ Cell10 W (w.heap.size + 1) v5 := by
  have b1 := below_alloc w (.cells #[v4] t4)
  have b2 := below_alloc (w.alloc (.cells #[v4] t4)) (.cells #[v5] t5)
  have c4 := (Cell10.new w v4 t4).below b2
  have c5 := Cell10.new (w.alloc (.cells #[v4] t4)) v5 t5
  simp only [World.size_alloc] at c5
  exact ⟨_, rfl, below_on b1 b2, by simp, c4, c5⟩
theorem vals_len {b : List Int} {pre : List Ent9} {k : Nat} (h : PreV b k pre) : pre.length ≤ (vals10 b).1.length := by
  have := congrArg (fun x => x.1.length) h.cut.out
  simp only [List.length_append, List.length_map] at this
  omega
/-- what reading values comes to -/
def ReadValsPost (b : List Int) (w : World) (e : Ending) (w' : World) : Prop :=
  ∃ va vc D, e = .returned (.tuple #[.slice va D.length vc, .int .i64 (valE b)]) ∧ D.map Ent9.o = (vals10 b).1 ∧ L9 w' va D ∧ D.length ≤ vc ∧ vc ≤ 9223372036854775807 ∧ Below w.heap.size w w' ∧ New9 w va D

/-- a jump out of a loop goes on behind it -/
theorem wp_exit10 {P : Program} {n : Nat} {Q : Exit → Act → World → Prop} {a : Act} {w : World} (h : Q .normal a w) : (Code.exit n).wp P (Exit.inBlock n Q) a w := by
  go_wp2
  exact h
theorem Oxms.others10 {W W' : World} {a : Option Addr} {l : List Ent9} {row : Option Nat} (h : Oxms W a l) (hg : W.grownBy W' row) (hr : ∀ r, row = some r → ∃ o : Obj, W.heap[r]? = some o ∧ o.isCells = false) : Oxms W' a l := by
  intro i hi
  obtain ⟨b, off, ha, h0, h1, h2, h3, h4, h5⟩ := h i hi
  exact ⟨b, off, ha, cell_kept h0 hg hr, cell_kept h1 hg hr, cell_kept h2 hg hr, cell_kept h3 hg hr, cell_kept h4 hg hr, cell_kept h5 hg hr⟩
theorem L9.others10 {W W' : World} {a : Option Addr} {l : List Ent9} {row : Option Nat} (h : L9 W a l) (hg : W.grownBy W' row) (hr : ∀ r, row = some r → ∃ o : Obj, W.heap[r]? = some o ∧ o.isCells = false) : L9 W' a l :=
  ⟨h.ox.others10 hg hr, fun x hx => ent_others10 (h.ent x hx) hg hr, h.few, h.len⟩

end Go.Proofs.YtpmkfkanolhocaaGreat
namespace Go.Proofs.YtpmkfkanolhocaaGreat
open Go.RowKit
set_option linter.unusedVariables false
set_option maxRecDepth 100000

section
variable {w0 w w' : World} {g M : Nat} {l l' : List Int} {r r' s s' o o' f f' : Int}
end
/-- a head that may stand there -/
def HeadOk (b : List Int) (n : Nat) : Prop := num10 b = n ∧ 4 ≤ b.length ∧ numL (b.take 2) = 1 ∧ 4 ≤ n ∧ n ≤ 65528 ∧ n + zeros10 n ≤ b.length
theorem num10_two {b : List Int} (ho : Octets b) : ∃ n : Nat, num10 b = n ∧ n ≤ 65535 := by
  have := num_two (ho.drop 2)
  exact ⟨(num10 b).toNat, by unfold num10; omega, by unfold num10; omega⟩
theorem match_few {b : List Int} (h : b.length < 4) : matchL b = .error 1026 := by unfold matchL; rw [if_pos h]
theorem match_type {b : List Int} (h : ¬ b.length < 4) (hv : numL (b.take 2) ≠ 1) : matchL b = .error 1025 := by unfold matchL; rw [if_neg h, if_pos hv]
theorem match_long {b : List Int} (h : ¬ b.length < 4) (hv : numL (b.take 2) = 1) {n : Nat} (hn : num10 b = n) (hl : n < 4 ∨ 65528 < n ∨ b.length < n + zeros10 n) : matchL b = .error 1026 := by
  unfold matchL
  rw [if_neg h, if_neg (by simp [hv]), if_pos (by rw [hn, Int.toNat_natCast]; omega)]
theorem zeros_rem {n : Nat} : (n : Int).tmod 8 = ((n % 8 : Nat) : Int) ∧ (8 - ((n % 8 : Nat) : Int)).tmod 8 = ((zeros10 n : Nat) : Int) := by
  constructor
  · rw [Int.tmod_eq_emod_of_nonneg (by omega)]; omega
  · rw [Int.tmod_eq_emod_of_nonneg (by omega)]; unfold zeros10; omega

end Go.Proofs.YtpmkfkanolhocaaGreat
namespace Go.Proofs.YtpmkfkanolhocaaGreat
open Go.RowKit
set_option linter.unusedVariables false
set_option maxRecDepth 100000

theorem getW_zeros10 {z : Nat} (h1 : 1 ≤ z) (h64 : z ≤ 64) {l : List Int} : getW [-(z : Int)] l = if l.length < z then .error 1 else if zeros (l.take z) then .ok [] else .error 2 := by
  have hw : isW (-(z : Int)) = true := by simp [isW]; omega
  have hr : rightW [-(z : Int)] = true := by simp [rightW, allW, hw]
  rw [getW, if_pos hr]
  simp only [getL, Int.natAbs_neg, Int.natAbs_natCast]
  rw [if_neg (show ¬ 0 < -(z : Int) by omega)]

theorem val_nil10 : valE [] = 0 := rfl
theorem vals_few10 (k : Nat) : ∀ b : List Int, b.length ≤ k → Octets b → 4 * (vals10 b).1.length ≤ b.length := by
  induction k with
  | zero => intro b hb _; rw [List.eq_nil_of_length_eq_zero (by omega : b.length = 0)]; simp [vals_nil]
  | succ k ih =>
    intro b hb ho
    by_cases hn : b = []
    · subst hn; simp [vals_nil]
    · have hp : 0 < b.length := List.length_pos_iff.2 hn
      cases hd : decL b with
      | error q => rw [vals_err hn hd]; simp
      | ok o =>
        have h4 := dec_pos10 hd
        obtain ⟨_, r2, _, _⟩ := dec_right hd ho
        have := ih (b.drop o.n) (by rw [List.length_drop]; omega) (ho.drop _)
        rw [vals_ok hn hd]
        rw [List.length_drop] at this
        simp only [List.length_cons]
        omega
/-- the match, once its head is read -/
theorem match_body {b : List Int} {n : Nat} (hn : num10 b = n) (h4 : 4 ≤ b.length) (hv : numL (b.take 2) = 1) (hn4 : 4 ≤ n) (hn5 : n ≤ 65528) (hl : n + zeros10 n ≤ b.length) :
    matchL b = if valE ((b.take n).drop 4) ≠ 0 then .error (valE ((b.take n).drop 4)) else if ((b.drop n).take (zeros10 n)).any (fun x => x != 0) = true then .error 1026 else .ok ((vals10 ((b.take n).drop 4)).1, n + zeros10 n) := by
  unfold matchL
  rw [if_neg (by omega), if_neg (by simp [hv]), if_neg (by rw [hn, Int.toNat_natCast]; omega), hn, Int.toNat_natCast]
theorem chk_err10 (l : List Ox9) : (check9 l).2 = 0 ∨ (check9 l).2 = 1034 ∨ (check9 l).2 = 1035 := by
  rcases chk_ok (pre := []) (l := l) with h | ⟨q, h, h2⟩
  · left; unfold check9; rw [h]
  · right; unfold check9; rw [h]; exact h2

/-- what decoding a match comes to -/
def DecPost10 (b : List Int) (w : World) (e : Ending) (w' : World) : Prop :=
  (∃ L n va vc D, matchL b = .ok (L, n) ∧ e = .returned (.tuple #[.slice va D.length vc, .int .i64 (n : Nat), .int .i64 0]) ∧ D.map Ent9.o = L ∧ L9 w' va D ∧ D.length ≤ vc ∧ vc ≤ 9223372036854775807 ∧ New9 w va D ∧ Below w.heap.size w w') ∨
  (∃ q, matchL b = .error q ∧ q ≠ 0 ∧ e = .returned (.tuple #[.slice none 0 0, .int .i64 0, .int .i64 q]) ∧ Below w.heap.size w w')
end Go.Proofs.YtpmkfkanolhocaaGreat
namespace Go.Proofs.YtpmkfkanolhocaaGreat
open Go.RowKit
set_option linter.unusedVariables false
attribute [local go_sem] Oper.semAt_some

set_option maxRecDepth 100000 in
set_option maxHeartbeats 1000000 in
theorem right10_any (w : World) (a : Option Addr) (c : Nat) (l : List Ent9) (hL : L9 w a l) (hlc : l.length ≤ c) (hbig : len10 (l.map Ent9.o) ≤ 65528) :
    Calls Tryz.prog 10 #[.slice a l.length c] w fun e w' => e = .returned (.bool (isMatch10 (l.map Ent9.o))) ∧ Below w.heap.size w w' := by
  have hR := length10_any w a c l hL hlc hbig
  obtain ⟨n, hn⟩ : ∃ n : Int, (if (l.map Ent9.o).all right10 = true then ((len10 (l.map Ent9.o) : Nat) : Int) else 0) = n := ⟨_, rfl⟩
  obtain ⟨m, hm⟩ : ∃ m, isMatch10 (l.map Ent9.o) = m := ⟨_, rfl⟩
  rw [hm, hn] at hR
  rw [hm]
  have HR := hid hR
  clear hL hbig hm hn hR
  go_enter Tryz.func10, Tryz.ntmps10
  go_wp2_with fail
  refine HR.out.mono ?_
  rintro e w1 ⟨rfl, hb1⟩
  go_wp2_with fail
  exact bodyPost_ret (v := .bool m) (by simp [results, Tryz.results10, go_sem]) rfl ⟨rfl, hb1⟩

/-- what comes of a list that is encoded -/
def EncPost10 (L : List Ox9) (w : World) (e : Ending) (w' : World) : Prop :=
  (isMatch10 L = false ∧ e = .returned (.tuple #[.slice none 0 0, .int .i64 10001]) ∧ Below w.heap.size w w') ∨
  (isMatch10 L = true ∧ ∃ g, e = .returned (.tuple #[.slice (some ⟨g, 0, none⟩) (match10 L).length (match10 L).length, .int .i64 0]) ∧ Below w.heap.size w w' ∧ Ints .u8 w' (some ⟨g, 0, none⟩) (match10 L) ∧ w.heap.size ≤ g)
theorem putW_head10 {n : Nat} (hn : n ≤ 65528) : putW [2, 2] [1, (n : Int)] = some (head10 n) := by
  have r1 : rightW [2, 2] = true := by decide
  have r2 : countL [2, 2] = 2 := by decide
  have p2 : roomB 1 2 = true := by simp [roomB, p256]
  have p1 : roomB (n : Int) 2 = true := by simp [roomB, p256]; omega
  simp [putW, r1, r2, putL, p2, p1, head10]
/-- between two rounds of the loop that writes: T has the pointer to the buffer; P is the iterator's box -/
structure PutAt10 (w0 : World) (g m T P R : Nat) (hd : List Int) (pre : List Piece10) (W : World) : Prop where
  t : Cell10 W T (.pointer (some ⟨g, 0, none⟩))
  b : ∃ p, BufOn w0 W g m p R (hd ++ all10 pre) [] 0 ∧ (∀ k, Foot g m p k → k ≠ T ∧ k ≠ P)
theorem PutAt10.own {w0 : World} {g m T P R B : Nat} {hd : List Int} (hB : w0.heap.size ≤ B) (hm : m < B) : OwnFrom B (PutAt10 w0 g m T P R hd) := by
  intro pre W W' row h hg hr
  have hr2 : ∀ r, row = some r → ∃ o : Obj, W.heap[r]? = some o ∧ o.isCells = false := fun r e => (hr r e).2
  obtain ⟨p, hO, hF⟩ := h.b
  refine ⟨h.t.others hg hr2, p, ⟨hO.buf.kept hg (fun k e hf => ?_), ownFrom_below (Nat.le_refl _) hB () W W' row hO.bel hg hr, hO.base⟩, hF⟩
  obtain ⟨hkB, o, ho, hc⟩ := hr k e
  obtain ⟨v, D, hv, hgc, hrow, hmap, _⟩ := hO.buf.ex
  rcases hf with rfl | rfl | hp
  · rw [hgc] at ho; cases ho; cases hc
  · omega
  · rw [hp] at hv
    rcases hrow.2 with ⟨rfl, _⟩ | ⟨g', cap, cur, rfl, _, hg', _⟩
    · cases hv
    · cases hv; rw [hg'] at ho; cases ho; cases hc
theorem PutAt10.step {w0 W W' : World} {g m T P R B : Nat} {hd : List Int} {pre : List Piece10} {x : Piece10} {p p' : Option Nat} (ht : Cell10 W T (.pointer (some ⟨g, 0, none⟩))) (hO : BufOn w0 W g m p R (hd ++ all10 pre) [] 0) (hF : ∀ k, Foot g m p k → k ≠ T ∧ k ≠ P)
    (hT : T < W.heap.size) (hP : P < W.heap.size) (hm : m < B) (hG : Went W W' g m p p' R (hd ++ all10 pre ++ x.x) [] 0) :
    KeepsFrom B W W' ∧ (∀ k, (k = P ∨ k < w0.heap.size) → k < W.heap.size → W'.heap[k]? = W.heap[k]?) ∧ PutAt10 w0 g m T P R hd (pre ++ [x]) W' := by
  have hO2 := hO.went hG
  refine ⟨⟨hG.turn.size, fun k o hk ho hc => ?_⟩, fun k hk hkw => hG.turn.block k hkw (fun hf => ?_), ⟨ht.kept (hG.turn.block T hT (fun hf => (hF T hf).1 rfl)), p', ?_, fun k hf => ?_⟩⟩
  · refine (hG.turn.block k (Array.getElem?_eq_some_iff.1 ho).1 (fun hf => ?_)).trans ho
    obtain ⟨v, D, hv, hgc, hrow, hmap, _⟩ := hO.buf.ex
    rcases hf with rfl | rfl | hp
    · rw [hgc] at ho; cases ho; cases hc
    · omega
    · rw [hp] at hv
      rcases hrow.2 with ⟨rfl, _⟩ | ⟨g', cap, cur, rfl, _, hg', _⟩
      · cases hv
      · cases hv; rw [hg'] at ho; cases ho; cases hc
  · rcases hk with rfl | hk
    · exact (hF _ hf).2 rfl
    · have := hO.base k hf; omega
  · rw [all10_snoc, ← List.append_assoc]; exact hO2
  · rcases hf with rfl | rfl | hp
    · exact hF _ (.inl rfl)
    · exact hF _ (.inr (.inl rfl))
    · rcases hG.moved k hp with h | h
      · exact hF k (.inr (.inr h))
      · constructor <;> omega

end Go.Proofs.YtpmkfkanolhocaaGreat
namespace Go.Proofs.YtpmkfkanolhocaaGreat
open Go.RowKit
set_option linter.unusedVariables false
set_option maxRecDepth 100000

set_option maxHeartbeats 2000000 in
theorem refRight10_any (w : World) (a : Option Addr) (c : Nat) (l : List Ent9) (hL : L9 w a l) (hlc : l.length ≤ c) (hbig : len10 (l.map Ent9.o) ≤ 65528) :
    Calls Tryz.prog 20 #[.slice a l.length c] w fun e w' => e = .returned (.bool (isMatch10 (l.map Ent9.o))) ∧ Below w.heap.size w w' := by
  have HL := hid hL
  have hll : l.length ≤ 1000 := hL.len
  have HBIG := hid hbig
  obtain ⟨R, hR⟩ : ∃ R, isMatch10 (l.map Ent9.o) = R := ⟨_, rfl⟩
  have HR := hid hR
  rw [hR]
  clear hL hbig hR
  go_enter Tryz.func20, Tryz.ntmps20
  go_wp2_with fail
  go_loopg [3, 4] (l.length) (fun kx s3 s4 wr => ∃ (i n : Nat), s3 = .int .i64 n ∧ s4 = .int .i64 i ∧ i ≤ l.length ∧ l.length - i ≤ kx ∧ Hid (n = 4 + (body10 ((l.map Ent9.o).take i)).length) ∧ n ≤ 65528 ∧ Hid (((l.map Ent9.o).take i).all right10 = true) ∧ Hid (Below w.heap.size w wr))
  case atStart => exact ⟨0, 4, rfl, rfl, by omega, by omega, rfl, by omega, rfl, Below.refl _ _⟩
  case round =>
    obtain ⟨i, n, rfl, rfl, hi, hkx, hn, hn6, hrt, hb⟩ := hrel
    by_cases hlt : i < l.length
    · have hltz : (i : Int) < (l.length : Int) := by omega
      have hl := HL.out.below hb.out
      obtain ⟨b, off, rfl, c0, c1, c2, c3, c4, c5⟩ := hl.ox i hlt
      have hE := hl.ent l[i] (List.getElem_mem hlt)
      have hF := hl.few l[i] (List.getElem_mem hlt)
      have hget : (l.map Ent9.o)[i]? = some l[i].o := by simp [hlt]
      generalize l[i] = h at c0 c1 c2 c3 c4 c5 hE hF hget
      have htk : (l.map Ent9.o).take (i + 1) = (l.map Ent9.o).take i ++ [h.o] := by rw [List.take_add_one, hget]; rfl
      have HRT := hid (ref8Right_any h.o.C h.o.F h.o.H h.o.X h.va h.vc h.ma h.mc h.o.v h.o.m hF.1 hF.2 hE.ov hE.om wr hE.iv hE.im hE.x.1)
      cases hr8 : right10 h.o
      · have hno : isMatch10 (l.map Ent9.o) = false := by
          unfold isMatch10
          rw [all_not10 hget hr8]; rfl
        have hRf : R = false := by rw [← HR.out]; exact hno
        subst hRf
        have hr9 : rightB h.o.C h.o.F h.o.H h.o.X h.o.v h.o.m = false := hr8
        rw [hr9] at HRT
        clear hr8 hr9 hno htk hget hE hF hl
        go_wp2_with fail
        refine HRT.out.mono ?_
        rintro e w1 ⟨rfl, hb1⟩
        have HB1 := hid (below_on hb.out hb1)
        clear hb1 c0 c1 c2 c3 c4 c5
        go_wp2_with fail
        exact bodyPost_ret (v := .bool false) (by simp [results, Tryz.results20, go_sem]) rfl ⟨rfl, HB1.out⟩
      · have hr9 : rightB h.o.C h.o.F h.o.H h.o.X h.o.v h.o.m = true := hr8
        rw [hr9] at HRT
        have HBY := hid (fun (W : World) (hb1 : Below wr.heap.size wr W) => ref8Bytes_any h.o.C h.o.F h.o.H h.o.X h.va h.vc h.ma h.mc h.o.v h.o.m hF.1 hF.2 hE.cm hE.ov hE.om W (hE.iv.below hb1) (hE.im.below hb1) hE.x.1 (right_facts hr9))
        have hlen : n + (oxmBytes h.o.C h.o.F h.o.H h.o.X h.o.v h.o.m).length = 4 + (body10 ((l.map Ent9.o).take (i + 1))).length := by
          rw [htk, body_append10, List.length_append, hn.out]
          have : body10 [h.o] = oxmBytes h.o.C h.o.F h.o.H h.o.X h.o.v h.o.m := by simp [body10, bytes10]
          rw [this]; omega
        have hlen2 : 4 + (body10 ((l.map Ent9.o).take (i + 1))).length ≤ 65528 := by
          have e : body10 (l.map Ent9.o) = body10 ((l.map Ent9.o).take (i + 1)) ++ body10 ((l.map Ent9.o).drop (i + 1)) := by rw [← body_append10, List.take_append_drop]
          have := HBIG.out
          unfold len10 at this
          rw [e, List.length_append] at this
          omega
        have hall : ((l.map Ent9.o).take (i + 1)).all right10 = true := by rw [htk, List.all_append, hrt.out]; simp [hr8]
        have HALL := hid hall
        obtain ⟨bl, hbl⟩ : ∃ bl, (oxmBytes h.o.C h.o.F h.o.H h.o.X h.o.v h.o.m).length = bl := ⟨_, rfl⟩
        have HBL := hid hbl
        rw [hbl] at hlen
        have hsum : (n : Int) + (bl : Int) ≤ 65528 := by omega
        have HLEN := hid hlen
        have Hc := hid (And.intro c0 (And.intro c1 (And.intro c2 (And.intro c3 (And.intro c4 c5)))))
        clear hr8 hr9 htk hget hE hF hl hlen hlen2 hall hbl
        go_wp2_with fail
        refine HRT.out.mono ?_
        rintro e w1 ⟨rfl, hb1⟩
        clear c0 c1 c2 c3 c4 c5
        obtain ⟨c0, c1, c2, c3, c4, c5⟩ := Hc.out
        replace c0 := cell_keep c0 hb1
        replace c1 := cell_keep c1 hb1
        replace c2 := cell_keep c2 hb1
        replace c3 := cell_keep c3 hb1
        replace c4 := cell_keep c4 hb1
        replace c5 := cell_keep c5 hb1
        have HB1 := hid hb1
        clear hb1
        go_wp2_with fail
        refine (HBY.out _ HB1.out).mono ?_
        rintro e w2 ⟨ad, cp, rfl, hb2, _, _⟩
        have HB2 := hid (below_on (below_on hb.out HB1.out) hb2)
        clear hb2 c0 c1 c2 c3 c4 c5
        rw [HBL.out]
        go_wp2_with fail
        go_roundg (l.length - (i + 1))
        case rel => exact ⟨i + 1, n + bl, by go_num, by go_num, by omega, by omega, HLEN.out, by omega, HALL.out, HB2.out⟩
        case measure => omega
    · have hge : (l.length : Int) ≤ (i : Int) := by omega
      have hi2 : i = l.length := by omega
      have hall := hrt.out
      rw [List.take_of_length_le (by rw [List.length_map]; omega)] at hall
      have HC := refCheck9_any l a c wr (HL.out.below hb.out) hlc
      obtain ⟨⟨p1, q1⟩, hck⟩ : ∃ r, check9 (l.map Ent9.o) = r := ⟨_, rfl⟩
      rw [hck] at HC
      unfold ckV at HC
      have HCC := hid HC
      have hR2 : (q1 == 0) = R := by rw [← HR.out]; unfold isMatch10; rw [hall, hck]; rfl
      have HR2 := hid hR2
      have hn7 : (n : Int) ≤ 65528 := by omega
      clear HC hck hR2 hall hi2
      obtain ⟨z, hz⟩ : ∃ z, (q1 == 0) = z := ⟨_, rfl⟩
      rw [hz] at HR2
      go_wp2_with fail
      refine HCC.out.mono ?_
      rintro e w1 ⟨rfl, hb1⟩
      have HB1 := hid (below_on hb.out hb1)
      clear hb1
      have HRZ := HR2.out
      subst HRZ
      cases z
      · go_wp2_with fail
        exact bodyPost_ret (v := .bool false) (by simp [results, Tryz.results20, go_sem]) rfl ⟨rfl, HB1.out⟩
      · go_wp2_with fail
        exact bodyPost_ret (v := .bool true) (by simp [results, Tryz.results20, go_sem]) rfl ⟨rfl, HB1.out⟩
end Go.Proofs.YtpmkfkanolhocaaGreat
namespace Go.Proofs.YtpmkfkanolhocaaGreat
open Go.RowKit
set_option linter.unusedVariables false
set_option maxRecDepth 100000

/-- a list of one's own in a slot -/
structure ListAt (w0 : World) (W : World) (v : Value) (pre : List Ent9) : Prop where
  fr : FreshO w0 W v pre.length pre
  ents : ∀ x ∈ pre, EntIn W x ∧ (x.o.v.length ≤ 1000 ∧ x.o.m.length ≤ 1000) ∧ Far10 (fun k => v.ownBlock = some k ∨ k < w0.heap.size) x
theorem ListAt.nil (w : World) : ListAt w w (.slice none 0 0) [] := ⟨FreshO.nil w, by simp⟩
theorem ListAt.below {w0 W W' : World} {v : Value} {pre : List Ent9} (h : ListAt w0 W v pre) (hb : Below W.heap.size W W') : ListAt w0 W' v pre :=
  ⟨h.fr.behind hb, fun x hx => ⟨(h.ents x hx).1.below hb, (h.ents x hx).2⟩⟩
theorem ListAt.l9 {w0 W : World} {va : Option Addr} {n vc : Nat} {pre : List Ent9} (h : ListAt w0 W (.slice va n vc) pre) (hl : pre.length ≤ 1000) : n = pre.length ∧ L9 W va pre ∧ pre.length ≤ vc ∧ vc ≤ 9223372036854775807 ∧ New9 w0 va pre := by
  obtain ⟨a', c', he, _⟩ := own_oxms h.fr.own
  simp at he
  obtain ⟨_, rfl, _⟩ := he
  obtain ⟨e1, e2, e3, e4⟩ := h.fr.ox
  refine ⟨rfl, ⟨e4, fun x hx => (h.ents x hx).1, fun x hx => (h.ents x hx).2.1, hl⟩, e2, e3, fun q hq => ?_, fun x hx => (h.ents x hx).2.2.mono fun k e => .inr e⟩
  subst hq
  obtain ⟨g, rfl⟩ := h.fr.spot
  exact h.fr.new g rfl
theorem ListAt.snoc {w0 W w1 w' : World} {v v' : Value} {pre : List Ent9} {x : Ent9} (h : ListAt w0 W v pre) (hx : EntIn W x) (hf : x.o.v.length ≤ 1000 ∧ x.o.m.length ≤ 1000) (hfar : Far10 (fun k => v.ownBlock = some k ∨ k < w0.heap.size) x)
    (hw1 : Below W.heap.size W w1) (hF : FreshO w0 w' v' (pre.length + 1) (pre ++ [x])) (hb : w1.grownBy w' v.ownBlock) (hm : Moved w1 v v') : ListAt w0 w' v' (pre ++ [x]) := by
  refine ⟨by rw [List.length_append]; exact hF, fun y hy => ?_⟩
  have hy' : EntIn W y ∧ (y.o.v.length ≤ 1000 ∧ y.o.m.length ≤ 1000) ∧ Far10 (fun k => v.ownBlock = some k ∨ k < w0.heap.size) y := by
    rcases List.mem_append.1 hy with hy | hy
    · exact h.ents y hy
    · simp at hy; subst hy; exact ⟨hx, hf, hfar⟩
  obtain ⟨y1, y2, y3⟩ := hy'
  have z1 := y1.below hw1
  refine ⟨z1.far hb (y3.mono fun k e => .inl e), y2, ?_⟩
  rcases hm with e | ⟨g, e, hgs⟩
  · rw [e]; exact y3
  · have hoff := z1.off (S := fun k => k = g) (fun k e => by subst e; exact hgs)
    refine ⟨fun a q b s => ?_, fun a q b s => ?_⟩
    · rcases s with s | s
      · rw [e] at s; exact hoff.v a q b (by simpa using s.symm)
      · exact y3.v a q b (.inr s)
    · rcases s with s | s
      · rw [e] at s; exact hoff.m a q b (by simpa using s.symm)
      · exact y3.m a q b (.inr s)
theorem valE_err {B : List Int} {k : Nat} {pre : List Ent9} (h : PreV B k pre) (hlt : k < B.length) {q : Int} (hd : decL (B.drop k) = .error q) (hc : (check9 (pre.map Ent9.o)).2 = 0) : valE B = q := by
  unfold valE; rw [h.err hlt hd]; simp [hc]
theorem valE_chk {B : List Int} {k : Nat} {pre : List Ent9} (h : PreV B k pre) (hc : (check9 (pre.map Ent9.o)).2 ≠ 0) : valE B = (check9 (pre.map Ent9.o)).2 := by
  have e : (check9 (vals10 B).1).2 = (check9 (pre.map Ent9.o)).2 := by rw [h.cut.out, check_append10, if_pos hc]
  unfold valE; rw [e, if_pos hc]
theorem valE_ok {B : List Int} {k : Nat} {pre : List Ent9} (h : PreV B k pre) (hge : B.length ≤ k) (hc : (check9 (pre.map Ent9.o)).2 = 0) : valE B = 0 := by
  unfold valE; rw [h.done hge]; simp [hc]

/-- the zeros behind a match are none, or one is not -/
theorem zeros_any10 {l : List Int} : (l.any (fun x => x != 0) = true) ↔ zeros l = false := by
  unfold zeros
  rw [List.all_eq_false, List.any_eq_true]
  constructor <;> rintro ⟨x, h1, h2⟩ <;> exact ⟨x, h1, by simpa using h2⟩
theorem zeros_front10 {l : List Int} {i j : Nat} (h : zeros (l.take i) = false) (hij : i ≤ j) : zeros (l.take j) = false := by
  unfold zeros at *
  rw [List.all_eq_false] at *
  obtain ⟨x, hx, h0⟩ := h
  refine ⟨x, ?_, h0⟩
  have e : l.take i = (l.take j).take i := by rw [List.take_take, Nat.min_eq_left hij]
  rw [e] at hx
  exact List.mem_of_mem_take hx

end Go.Proofs.YtpmkfkanolhocaaGreat
namespace Go.Proofs.YtpmkfkanolhocaaGreat
open Go.RowKit
set_option linter.unusedVariables false
set_option maxRecDepth 100000

theorem underInt10 : Tryz.prog.underlying 3 = some (.int .i64) := by kernel_rfl
/-- what comes of a list that the document encodes -/
def RefEncPost10 (L : List Ox9) (w : World) (e : Ending) (w' : World) : Prop :=
  (isMatch10 L = false ∧ e = .returned (.tuple #[.slice none 0 0, .int .i64 10001]) ∧ Below w.heap.size w w') ∨
  (isMatch10 L = true ∧ ∃ ad cp, e = .returned (.tuple #[.slice ad (match10 L).length cp, .int .i64 0]) ∧ Below w.heap.size w w' ∧ Ints .u8 w' ad (match10 L))
end Go.Proofs.YtpmkfkanolhocaaGreat
namespace Go.Proofs.YtpmkfkanolhocaaGreat
open Go.RowKit
set_option linter.unusedVariables false
set_option maxRecDepth 100000

def lit10a : List Int := [0, 1, 0, 10, 128, 0, 10, 2, 8, 0, 0, 0, 0, 0, 0, 0, 9]
def lit10b : List Int := [0, 1, 0, 10, 128, 0, 26, 2, 8, 0, 0, 0, 0, 0, 0, 0]
def ox510 : Ox9 := ⟨32768, 5, false, 0, [8, 0], []⟩
theorem s10_1 : isMatch10 [] = true := rfl
theorem s10_2 : match10 [] = [0, 1, 0, 4, 0, 0, 0, 0] := by decide +kernel
theorem s10_3 : matchL lit10a = .ok ([ox510], 16) := by rfl
theorem s10_4 : matchL lit10b = .error 1034 := by rfl
theorem s10_5 : isMatch10 [ox510] = true := by decide +kernel
theorem s10_6 : len10 [ox510] ≤ 65528 := by decide +kernel
theorem s10_7 : len10 [] ≤ 65528 := by decide
theorem s10_8 : (vals10 ((lit10a.take (num10 lit10a).toNat).drop 4)).1.length ≤ 1000 := by decide +kernel
theorem s10_9 : (vals10 ((lit10b.take (num10 lit10b).toNat).drop 4)).1.length ≤ 1000 := by decide +kernel
theorem one_of_map {D : List Ent9} {x : Ox9} (h : D.map Ent9.o = [x]) : ∃ d, D = [d] ∧ d.o = x := by
  cases D with
  | nil => cases h
  | cons d r =>
    cases r with
    | nil => exact ⟨d, rfl, by simpa using h⟩
    | cons e r => simp at h
theorem l9_nil10 (w : World) (a : Option Addr) : L9 w a [] := ⟨Oxms.nil _ _, by simp, by simp, by simp⟩
end Go.Proofs.YtpmkfkanolhocaaGreat
namespace Go.Proofs.YtpmkfkanolhocaaGreat
open Go.RowKit
set_option linter.unusedVariables false
set_option maxRecDepth 100000

theorem few_len10b {l : List Ent9} (h : fewL9 l = true) : len10 (l.map Ent9.o) ≤ 40000 := by
  unfold fewL9 at h
  rw [Bool.and_eq_true, decide_eq_true_iff] at h
  have key : ∀ l : List Ent9, (∀ x ∈ l, few9 x = true) → (body10 (l.map Ent9.o)).length ≤ l.length * 608 := by
    intro l
    induction l with
    | nil => intro _; simp [body10]
    | cons x r ih =>
      intro hx
      have h1 := hx x (by simp)
      have h2 := ih (fun y hy => hx y (by simp [hy]))
      simp only [few9, decide_eq_true_eq] at h1
      rw [List.map_cons, body_cons10, List.length_append, List.length_cons]
      have h3 : (bytes10 x.o).length ≤ 608 := by
        unfold bytes10
        rw [oxmBytes_length]
        unfold behind8
        split <;> omega
      omega
  have := key l (fun x hx => List.all_eq_true.1 h.1 x hx)
  unfold len10
  omega
theorem few_len10 {l : List Ent9} (h : fewL9 l = true) : len10 (l.map Ent9.o) ≤ 65528 := by have := few_len10b h; omega
theorem match_pos (L : List Ox9) : 8 ≤ (match10 L).length ∧ (match10 L).length ≤ len10 L + 7 := by
  rw [match10_length]
  have := zeros_lt10 (len10 L)
  have := zeros_even10 (len10 L)
  have : 4 ≤ len10 L := by unfold len10; omega
  omega
theorem rfl_beq10 (l : List Int) : (l == l) = true := by simp

section
variable {P : Program} {t e : TypeId} {z : Value} {bytes : Nat} {w : World}
/-- append(s, x...), of integers, where a guard is on -/
theorem wp_app_ints_w {ops : Array Oper} {rest : List Oper} {o : Oper} {a : Act} {Q : Exit → Act → World → Prop} (hgd : Region.wanted o (yielded ops a.tmps) = true) (s x : Operand)
    (ho : o.op = .call { callee := .builtin .append, args := #[s, x], argTypes := #[t, t] }) (E : Elem P t e z bytes)
    {v : Value} (hs : a.eval s = v) {k : IntKind} {xs : List Int} (hown : w.ownsRow 0 e 1 v (xs.map (Value.int k)).length (xs.map (Value.int k)))
    {ad : Option Addr} {l ys : List Int} {n c : Nat} (hx : a.eval x = .slice ad n c) (hn : n = l.length) (hI : Ints k w ad l) (hys : xs ++ l = ys)
    (hbytes : ys.length * bytes ≤ 140737488355328) (h63 : ys.length ≤ 140737488355328)
    (h : ∀ a' c' w', ys.length ≤ c' → c' ≤ 9223372036854775807 → Ints k w' a' ys → Grew e w w' v (.slice a' ys.length c') (ys.map (Value.int k)) → wpList P ops Q rest (a.put o.dst (.slice a' ys.length c')) w') : wpList P ops Q (o :: rest) a w := by
  subst hys
  rw [List.length_append] at hbytes h63
  refine wpList_step fun K hK => ?_
  rw [if_pos hgd]
  refine app_wp s x ho E hs hown hx hn hI (by rw [List.length_map]; exact hbytes) (by rw [List.length_map]; exact h63) fun v' w' hg => hK _ _ ?_
  rw [← List.map_append] at hg
  obtain ⟨a', c', rfl, h1, h2, hI'⟩ := own_ints hg.own
  exact h a' c' w' h1 (by unfold maxLen at h2; omega) hI' hg
end
end Go.Proofs.YtpmkfkanolhocaaGreat
namespace Go.Proofs.YtpmkfkanolhocaaGreat
open Go.RowKit
set_option linter.unusedVariables false
set_option maxRecDepth 100000

/-- what bytes are as a match: the list, how many, the error -/
def mres (b : List Int) : List Ox9 × Nat × Int := match matchL b with | .ok p => (p.1, p.2, 0) | .error q => ([], 0, q)
def DecUni (b : List Int) (w : World) (e : Ending) (w' : World) : Prop :=
  ∃ va vc D, e = .returned (.tuple #[.slice va D.length vc, .int .i64 (((mres b).2.1 : Nat) : Int), .int .i64 (mres b).2.2]) ∧ D.map Ent9.o = (mres b).1 ∧ L9 w' va D ∧ D.length ≤ vc ∧ vc ≤ 9223372036854775807 ∧ New9 w va D ∧ Below w.heap.size w w'
theorem dec_uni {b : List Int} {w w' : World} {e : Ending} (h : DecPost10 b w e w') : DecUni b w e w' := by
  rcases h with ⟨L, n, va, vc, D, hm, rfl, h1, h2, h3, h4, h5, h6⟩ | ⟨q, hm, hq, rfl, h6⟩
  · have e : mres b = (L, n, 0) := by unfold mres; rw [hm]
    exact ⟨va, vc, D, by rw [e], by rw [e]; exact h1, h2, h3, h4, h5, h6⟩
  · have e : mres b = ([], 0, q) := by unfold mres; rw [hm]
    exact ⟨none, 0, [], by rw [e]; rfl, by rw [e]; rfl, l9_nil10 _ _, by simp, by simp, ⟨(fun q e => by cases e), by simp⟩, h6⟩
theorem match_le {b : List Int} {L : List Ox9} {n : Nat} (h : matchL b = .ok (L, n)) : n ≤ b.length := by
  unfold matchL at h
  split at h
  · cases h
  · split at h
    · cases h
    · split at h
      · cases h
      · split at h
        · cases h
        · split at h
          · cases h
          · simp only [Except.ok.injEq, Prod.mk.injEq] at h
            rename_i hx _ _
            omega
theorem mres_le (b : List Int) : (mres b).2.1 ≤ b.length := by
  unfold mres
  cases h : matchL b with
  | error q => simp
  | ok p => exact match_le (L := p.1) (n := p.2) h
theorem mres_zero {b : List Int} (h : (mres b).2.2 ≠ 0) : (mres b).2.1 = 0 ∧ (mres b).1 = [] := by
  unfold mres at *
  cases hm : matchL b with
  | error q => simp
  | ok p => rw [hm] at h; simp at h

theorem same_yes10 {D D' : List Ent9} {L : List Ox9} (h : D.map Ent9.o = L) (h' : D'.map Ent9.o = L) : decide (D.map Ent9.o = D'.map Ent9.o) = true := by rw [h, h']; simp

end Go.Proofs.YtpmkfkanolhocaaGreat
namespace Go.Proofs.YtpmkfkanolhocaaGreat
open Go.RowKit
set_option linter.unusedVariables false
set_option maxRecDepth 100000

theorem is_all {L : List Ox9} (h : isMatch10 L = true) : L.all right10 = true ∧ (check9 L).2 = 0 := by
  unfold isMatch10 at h
  rw [Bool.and_eq_true] at h
  exact ⟨h.1, by simpa using h.2⟩
theorem head_parts {n : Nat} (hn : n ≤ 65535) (r : List Int) : numL ((head10 n ++ r).take 2) = 1 ∧ num10 (head10 n ++ r) = n := by
  have e1 : (bytesL 1 2).length = 2 := bytesL_length 1 2
  have e2 : (bytesL (n : Int) 2).length = 2 := bytesL_length _ 2
  constructor
  · unfold head10
    rw [List.append_assoc, List.take_append_of_le_length (by omega), List.take_of_length_le (by omega), numL_bytesL]
    rfl
  · unfold num10 head10
    rw [List.append_assoc, List.drop_append, e1, List.drop_of_length_le (by omega : (bytesL 1 2).length ≤ 2)]
    simp only [List.nil_append, List.append_nil, Nat.sub_self, List.drop_zero]
    rw [List.take_append_of_le_length (by omega), List.take_of_length_le (by omega), numL_bytesL]
    simp only [p256]
    omega
theorem match_eq (L : List Ox9) : match10 L = head10 (len10 L) ++ (body10 L ++ List.replicate (zeros10 (len10 L)) 0) := by
  unfold match10; rw [List.append_assoc]
theorem parts10 (hd B R b : List Int) {N : Nat} (h : hd.length + B.length = N) : (hd ++ (B ++ R ++ b)).take N = hd ++ B ∧ (hd ++ (B ++ R ++ b)).drop N = R ++ b := by
  have e : (hd ++ B).length = N := by rw [List.length_append, h]
  have s : hd ++ (B ++ R ++ b) = (hd ++ B) ++ (R ++ b) := by simp
  rw [s, ← e]
  exact ⟨List.take_left, List.drop_left⟩
/-- what was encoded is decoded, whatever is behind -/
theorem match_back {L : List Ox9} (h : isMatch10 L = true) (hX : ∀ o ∈ L, 0 ≤ o.X) (hl : len10 L ≤ 65528) (b : List Int) : matchL (match10 L ++ b) = .ok (L, (match10 L).length) ∧ HeadOk (match10 L ++ b) (len10 L) := by
  obtain ⟨ha, hc⟩ := is_all h
  have hlen := match10_length L
  have hp := head_parts (n := len10 L) (by omega) (body10 L ++ List.replicate (zeros10 (len10 L)) 0 ++ b)
  have hs : match10 L ++ b = head10 (len10 L) ++ (body10 L ++ List.replicate (zeros10 (len10 L)) 0 ++ b) := by rw [match_eq]; simp
  have h4 : 4 ≤ len10 L := by unfold len10; omega
  have hN := hp.2
  rw [← hs] at hp hN
  have hhl := head10_length (len10 L)
  have hok : HeadOk (match10 L ++ b) (len10 L) := ⟨hN, by rw [List.length_append, hlen]; omega, hp.1, h4, hl, by rw [List.length_append, hlen]; omega⟩
  have hpart := parts10 (head10 (len10 L)) (body10 L) (List.replicate (zeros10 (len10 L)) 0) b (N := len10 L) (by rw [hhl]; rfl)
  rw [← hs] at hpart
  have hbody : ((match10 L ++ b).take (len10 L)).drop 4 = body10 L := by
    rw [hpart.1, ← hhl, List.drop_left]
  have hz : ((match10 L ++ b).drop (len10 L)).take (zeros10 (len10 L)) = List.replicate (zeros10 (len10 L)) 0 := by
    rw [hpart.2, List.take_append_of_le_length (by simp)]
    simp
  have hv := vals_body ha hX
  refine ⟨?_, hok⟩
  rw [match_body hN hok.2.1 hp.1 h4 hl hok.2.2.2.2.2, hbody, hz]
  have hE : valE (body10 L) = 0 := by unfold valE; rw [hv]; simp [hc]
  rw [hE, if_neg (by simp), if_neg (by simp), hv, hlen]
/-- a byte less -/
theorem match_less {L : List Ox9} (hl : len10 L ≤ 65528) : matchL ((match10 L).take ((match10 L).length - 1)) = .error 1026 ∧ ∀ n, ¬ HeadOk ((match10 L).take ((match10 L).length - 1)) n := by
  have hlen := match10_length L
  have hp := head_parts (n := len10 L) (by omega) (body10 L ++ List.replicate (zeros10 (len10 L)) 0)
  rw [← match_eq] at hp
  have h8 := (match_pos L).1
  have h4 : 4 ≤ len10 L := by unfold len10; omega
  obtain ⟨M, hM⟩ : ∃ M, match10 L = M := ⟨_, rfl⟩
  rw [hM] at hp hlen h8 ⊢
  have hl2 : (M.take (M.length - 1)).length = M.length - 1 := by rw [List.length_take]; omega
  have e1 : (M.take (M.length - 1)).take 2 = M.take 2 := by rw [List.take_take, Nat.min_eq_left (by omega)]
  have e2 : num10 (M.take (M.length - 1)) = num10 M := by
    unfold num10
    rw [List.drop_take, List.take_take, Nat.min_eq_left (by omega)]
  constructor
  · refine match_long (n := len10 L) (by rw [hl2]; omega) (by rw [e1]; exact hp.1) (by rw [e2]; exact hp.2) (.inr (.inr ?_))
    rw [hl2, hlen]; omega
  · rintro n ⟨k1, k2, k3, k4, k5, k6⟩
    have : n = len10 L := by rw [e2, hp.2] at k1; omega
    subst this
    rw [hl2, hlen] at k6
    omega
/-- what is decoded is a match, and, encoded again, those bytes -/
theorem match_forth {b : List Int} {L : List Ox9} {n : Nat} (h : matchL b = .ok (L, n)) (ho : Octets b) : isMatch10 L = true ∧ match10 L = b.take n ∧ n ≤ b.length ∧ len10 L ≤ 65528 ∧ (∀ o ∈ L, 0 ≤ o.X) := by
  have hle := match_le h
  obtain ⟨N, hN, _⟩ := num10_two ho
  have h4 : 4 ≤ b.length ∧ numL (b.take 2) = 1 ∧ 4 ≤ N ∧ N ≤ 65528 ∧ N + zeros10 N ≤ b.length := by
    refine ⟨?_, ?_, ?_⟩
    · by_cases c : b.length < 4
      · rw [match_few c] at h; cases h
      · omega
    · by_cases c : b.length < 4
      · rw [match_few c] at h; cases h
      · by_cases c2 : numL (b.take 2) = 1
        · exact c2
        · rw [match_type c c2] at h; cases h
    · by_cases c : b.length < 4
      · rw [match_few c] at h; cases h
      · by_cases c2 : numL (b.take 2) = 1
        · by_cases c3 : N < 4 ∨ 65528 < N ∨ b.length < N + zeros10 N
          · rw [match_long c c2 hN c3] at h; cases h
          · omega
        · rw [match_type c c2] at h; cases h
  obtain ⟨k1, k2, k3, k4, k5⟩ := h4
  rw [match_body hN k1 k2 k3 k4 k5] at h
  obtain ⟨B, hB⟩ : ∃ B, (b.take N).drop 4 = B := ⟨_, rfl⟩
  rw [hB] at h
  by_cases hE : valE B = 0
  · rw [if_neg (by simp [hE])] at h
    by_cases hz : ((b.drop N).take (zeros10 N)).any (fun x => x != 0) = true
    · rw [if_pos hz] at h; cases h
    · rw [if_neg hz] at h
      simp only [Except.ok.injEq, Prod.mk.injEq] at h
      obtain ⟨rfl, rfl⟩ := h
      have hc : (check9 (vals10 B).1).2 = 0 ∧ (vals10 B).2 = 0 := by
        unfold valE at hE
        by_cases c : (check9 (vals10 B).1).2 = 0
        · rw [if_neg (by simp [c])] at hE; exact ⟨c, hE⟩
        · rw [if_pos c] at hE; exact absurd hE c
      have hoB : Octets B := by rw [← hB]; exact (ho.take N).drop 4
      obtain ⟨r1, r2, r3⟩ := vals_right _ B (Nat.le_refl _) hoB hc.2
      have hBl : B.length = N - 4 := by rw [← hB, List.length_drop, List.length_take]; omega
      have hlen : len10 (vals10 B).1 = N := by unfold len10; rw [r2, hBl]; omega
      refine ⟨?_, ?_, hle, by omega, r3⟩
      · unfold isMatch10; rw [r1, hc.1]; rfl
      · have hh : head10 N = b.take 4 := by
          have e1 : (b.take 2).length = 2 := by rw [List.length_take]; omega
          have e2 : ((b.drop 2).take 2).length = 2 := by rw [List.length_take, List.length_drop]; omega
          have f1 := bytesL_numL (ho.take 2)
          have f2 := bytesL_numL ((ho.drop 2).take 2)
          rw [e1, k2] at f1
          rw [e2] at f2
          have f3 : numL ((b.drop 2).take 2) = (N : Int) := hN
          rw [f3] at f2
          unfold head10
          rw [f1, f2, List.append_nil]
          have e4 := List.take_add (l := b) (i := 2) (j := 2)
          rw [e4]
        have hzz : (b.drop N).take (zeros10 N) = List.replicate (zeros10 N) 0 := by
          refine List.eq_replicate_iff.2 ⟨by rw [List.length_take, List.length_drop]; omega, fun x hx => ?_⟩
          by_cases hx0 : x = 0
          · exact hx0
          · exact absurd (List.any_eq_true.2 ⟨x, hx, by simpa using hx0⟩) hz
        unfold match10
        rw [hlen, r2, hh, ← hzz, ← hB]
        have e5 : b.take 4 ++ (b.take N).drop 4 = b.take N := by
          have e6 : b.take 4 = (b.take N).take 4 := by rw [List.take_take, Nat.min_eq_left (by omega)]
          rw [e6, List.take_append_drop]
        rw [e5]
        exact (List.take_add (l := b) (i := N) (j := zeros10 N)).symm
  · rw [if_pos hE] at h; cases h
/-- a front of a match is one -/
theorem match_front {L : List Ox9} (h : isMatch10 L = true) (k : Nat) : isMatch10 (L.take k) = true := by
  obtain ⟨ha, hc⟩ := is_all h
  have e : L.take k ++ L.drop k = L := List.take_append_drop k L
  unfold isMatch10
  have h1 : (L.take k).all right10 = true := by
    rw [← e, List.all_append, Bool.and_eq_true] at ha; exact ha.1
  have h2 : (check9 (L.take k)).2 = 0 := by
    rw [← e] at hc; exact check_front10 hc
  rw [h1, h2]; rfl
theorem body_front (L : List Ox9) (k : Nat) : body10 L = body10 (L.take k) ++ body10 (L.drop k) := by rw [← body_append10, List.take_append_drop]
theorem len_front (L : List Ox9) (k : Nat) : len10 (L.take k) ≤ len10 L := by unfold len10; rw [body_front L k, List.length_append]; omega
end Go.Proofs.YtpmkfkanolhocaaGreat
namespace Go.Proofs.YtpmkfkanolhocaaGreat
open Go.RowKit
set_option linter.unusedVariables false
set_option maxRecDepth 100000

set_option maxHeartbeats 4000000 in
theorem same10_any (l m : List Ent9) (a b : Option Addr) (c d : Nat) (w : World) (hI : L9 w a l) (hJ : L9 w b m) :
    Calls Tryz.prog 15 #[.slice a l.length c, .slice b m.length d] w fun e w' => e = .returned (.bool (decide (l.map Ent9.o = m.map Ent9.o))) ∧ Below w.heap.size w w' := by
  obtain ⟨r, hr⟩ : ∃ r, decide (l.map Ent9.o = m.map Ent9.o) = r := ⟨_, rfl⟩
  rw [hr]
  have HR := hid hr
  have HI := hid hI
  have HJ := hid hJ
  have hll := hI.len
  have hlm := hJ.len
  clear hr hI hJ
  by_cases hlen : l.length = m.length
  · obtain ⟨N, hN⟩ : ∃ N, N = l.length := ⟨_, rfl⟩
    have hM : m.length = N := by omega
    rw [hM, ← hN]
    have HN := hid (And.intro hN hM)
    have hN' : N ≤ 1000 := by omega
    clear hN hM hlen hll hlm
    go_enter Tryz.func15, Tryz.ntmps15
    go_wp2_with fail
    go_loopg [14] N (fun kx s14 wr => ∃ (i : Nat), s14 = .int .i64 i ∧ i ≤ N ∧ N - i ≤ kx ∧ Hid ((l.map Ent9.o).take i = (m.map Ent9.o).take i) ∧ Hid (Below w.heap.size w wr))
    case atStart => exact ⟨0, rfl, by omega, by omega, rfl, Below.refl _ _⟩
    case round =>
      obtain ⟨i, rfl, hi, hkx, hn, hb⟩ := hrel
      by_cases hlt : i < N
      · have hltz : (i : Int) < (N : Int) := by omega
        have hN1 := HN.out.1
        have hN2 := HN.out.2
        have hl := HI.out.below hb.out
        have hm := HJ.out.below hb.out
        obtain ⟨b1, o1, rfl, c0, c1, c2, c3, c4, c5⟩ := hl.ox i (by omega)
        obtain ⟨b2, o2, rfl, k0, k1, k2, k3, k4, k5⟩ := hm.ox i (by omega)
        have e1 := hl.ent l[i] (List.getElem_mem (by omega))
        have f1 := hl.few l[i] (List.getElem_mem (by omega))
        have e2 := hm.ent m[i] (List.getElem_mem (by omega))
        have f2 := hm.few m[i] (List.getElem_mem (by omega))
        have g1 : (l.map Ent9.o)[i]? = some l[i].o := by simp [show i < l.length by omega]
        have g2 : (m.map Ent9.o)[i]? = some m[i].o := by simp [show i < m.length by omega]
        generalize l[i] = x at c0 c1 c2 c3 c4 c5 e1 f1 g1
        generalize m[i] = y at k0 k1 k2 k3 k4 k5 e2 f2 g2
        obtain ⟨W, hW, hbW, hx⟩ := oxm_box wr x.o.C x.o.F x.o.H x.o.X x.va x.o.v.length x.vc x.ma x.o.m.length x.mc
        have HW := hid hW
        have HBW := hid hbW
        obtain ⟨x0, x1, x2, x3, x4, x5⟩ := hx.six
        have HS := hid (fun j : Wk W => Wk.call (same8_any x.o.C x.o.F x.o.H x.o.X x.va x.vc x.ma x.mc y.o.C y.o.F y.o.H y.o.X y.va y.vc y.ma y.mc x.o.v x.o.m y.o.v y.o.m f1.1 f1.2 f2.1 f2.2 e1.ov e1.om e2.ov e2.om j.val ((e1.iv.below hbW).below j.bel) ((e1.im.below hbW).below j.bel) ((e2.iv.below hbW).below j.bel) ((e2.im.below hbW).below j.bel)))
        have d0 := Wk.cell x0
        have d1 := Wk.cell x1
        have d2 := Wk.cell x2
        have d3 := Wk.cell x3
        have d4 := Wk.cell x4
        have d5 := Wk.cell x5
        have q0 := Wk.cell (cell_keep k0 hbW)
        have q1 := Wk.cell (cell_keep k1 hbW)
        have q2 := Wk.cell (cell_keep k2 hbW)
        have q3 := Wk.cell (cell_keep k3 hbW)
        have q4 := Wk.cell (cell_keep k4 hbW)
        have q5 := Wk.cell (cell_keep k5 hbW)
        obtain ⟨sv, hsv⟩ : ∃ sv, sameB x.o.C x.o.F x.o.H x.o.X y.o.C y.o.F y.o.H y.o.X x.o.v x.o.m y.o.v y.o.m = sv := ⟨_, rfl⟩
        rw [hsv] at HS
        have hs9 : same9 x.o y.o = sv := hsv
        have hiff := same9_iff x.o y.o
        rw [hs9] at hiff
        have HIF := hid hiff
        have HG := hid (And.intro g1 g2)
        clear hW hbW hx hl hm e1 e2 f1 f2 g1 g2 x0 x1 x2 x3 x4 x5 k0 k1 k2 k3 k4 k5 hsv hs9 hiff hN1 hN2
        go_upto_region 6 with fail
        rw [HW.out]
        clear c0 c1 c2 c3 c4 c5
        refine wp_region_wk (by kernel_rfl) (by kernel_rfl) ?_
        repeat (go_big_quiet_step (first | (go_at_call 35; exact HS.out _) | fail))
        refine wpQuiet_nil ?_
        rintro w6 ⟨⟨_, hb6⟩, rfl⟩
        clear d0 d1 d2 d3 d4 d5 q0 q1 q2 q3 q4 q5
        have HB6 := hid (below_on (below_on hb.out HBW.out) hb6)
        clear hb6
        cases sv
        · have hrf : r = false := by
            rw [← HR.out, decide_eq_false_iff_not]
            intro e
            have h1 := HG.out.1
            rw [e, HG.out.2] at h1
            have h2 : y.o = x.o := by simpa using h1
            have := HIF.out.2 h2.symm
            cases this
          go_wp2_with fail
          refine bodyPost_ret (v := .bool false) (by simp [results, Tryz.results15, go_sem]) rfl ⟨by rw [hrf], HB6.out⟩
        · have hxy := HIF.out.1 rfl
          have hn2 : (l.map Ent9.o).take (i + 1) = (m.map Ent9.o).take (i + 1) := by
            rw [List.take_add_one, List.take_add_one, hn.out, HG.out.1, HG.out.2, hxy]
          have HN2 := hid hn2
          clear hxy hn2
          go_wp2_with fail
          go_roundg (N - (i + 1))
          case rel => exact ⟨i + 1, by go_num, by omega, by omega, HN2.out, HB6.out⟩
          case measure => omega
      · have hge : (N : Int) ≤ (i : Int) := by omega
        have hrt : r = true := by
          rw [← HR.out, decide_eq_true_iff]
          have h := hn.out
          rw [List.take_of_length_le (by rw [List.length_map]; have := HN.out.1; omega), List.take_of_length_le (by rw [List.length_map]; have := HN.out.2; omega)] at h
          exact h
        have HRT := hid hrt
        clear hrt
        go_wp2_with fail
        exact bodyPost_ret (v := .bool true) (by simp [results, Tryz.results15, go_sem]) rfl ⟨by rw [HRT.out], hb.out⟩
  · have hne : ((l.length : Int) != (m.length : Int)) = true := by simp; omega
    have hrf : r = false := by
      rw [← HR.out, decide_eq_false_iff_not]
      intro e
      have := congrArg List.length e
      rw [List.length_map, List.length_map] at this
      exact hlen this
    have HRF := hid hrf
    clear hrf hlen
    go_enter Tryz.func15, Tryz.ntmps15
    go_wp2_with fail
    exact bodyPost_ret (v := .bool false) (by simp [results, Tryz.results15, go_sem]) rfl ⟨by rw [HRF.out], Below.refl _ _⟩
end Go.Proofs.YtpmkfkanolhocaaGreat
namespace Go.Proofs.YtpmkfkanolhocaaGreat
open Go.RowKit Go.Sort
set_option linter.unusedVariables false
set_option maxRecDepth 100000

/-- a value's bytes may be written -/
def Free10 (w : World) (h : Ent9) : Prop := ∀ p, h.va = some ⟨p, 0, none⟩ → p < w.heap.size ∧ ∀ i, w.frozen? ⟨p, i, none⟩ = false
theorem Free10.kept {w w' : World} {h : Ent9} (k : Free10 w h) (hs : w.heap.size ≤ w'.heap.size) (hb : ∀ p, h.va = some ⟨p, 0, none⟩ → w'.heap[p]? = w.heap[p]?) : Free10 w' h :=
  fun p e => ⟨Nat.lt_of_lt_of_le (k p e).1 hs, fun i => (World.frozen?_of_block (a := ⟨p, i, none⟩) (hb p e)).trans ((k p e).2 i)⟩
theorem Free10.below {w w' : World} {h : Ent9} (k : Free10 w h) (hb : Below w.heap.size w w') : Free10 w' h := k.kept hb.size (fun p e => hb.block p (k p e).1)
theorem free_fresh {w w' : World} {p n c : Nat} {xs : List Value} {h : Ent9} (hF : Fresh 5 w w' (.slice (some ⟨p, 0, none⟩) n c) xs) (hp : h.va = some ⟨p, 0, none⟩) : Free10 w' h := by
  intro p' e
  rw [hp] at e
  cases e
  rcases hF.own.2 with ⟨e, _⟩ | ⟨g, cap, cur, e, _, hg, _⟩
  · cases e
  · simp at e
    obtain ⟨rfl, _⟩ := e
    exact ⟨(Array.getElem?_eq_some_iff.1 hg).1, fun i => free_of_cells hg i⟩
/-- what copying a list comes to -/
def CopyPost10 (w : World) (l : List Ent9) (e : Ending) (w' : World) : Prop :=
  ∃ M, e = .returned (.slice (some ⟨w.heap.size, 0, none⟩) l.length l.length) ∧ M.length = l.length ∧ M.map Ent9.o = l.map Ent9.o ∧ BoxL w' w.heap.size (oxmCells M) ∧ (∀ h ∈ M, EntIn w' h ∧ Far9 w.heap.size h ∧ Free10 w' h) ∧ Below w.heap.size w w'
end Go.Proofs.YtpmkfkanolhocaaGreat
namespace Go.Proofs.YtpmkfkanolhocaaGreat
open Go.RowKit
set_option linter.unusedVariables false
set_option maxRecDepth 100000

theorem ents_turn10 {S : Nat → Prop} {w w' : World} {x : Ent9} (h : EntIn w x) (ht : Turn S w w') (hf : Far10 S x) : EntIn w' x := by
  refine ⟨fun i hi => ?_, fun i hi => ?_, h.ov, h.om, h.cm, h.c, h.f, h.x⟩
  · obtain ⟨b, off, ha, hc⟩ := h.iv i hi
    exact ⟨b, off, ha, ht.cell hc (hf.v (by intro e; rw [e] at hi; simp at hi) ⟨b, off, none⟩ ha)⟩
  · obtain ⟨b, off, ha, hc⟩ := h.im i hi
    exact ⟨b, off, ha, ht.cell hc (hf.m (by intro e; rw [e] at hi; simp at hi) ⟨b, off, none⟩ ha)⟩
theorem L9.turn10 {S : Nat → Prop} {w w' : World} {a : Option Addr} {l : List Ent9} (h : L9 w a l) (ht : Turn S w w') (ha : ∀ q : Addr, a = some q → ¬ S q.block) (hf : ∀ x ∈ l, Far10 S x) : L9 w' a l := by
  refine ⟨?_, fun x hx => ents_turn10 (h.ent x hx) ht (hf x hx), h.few, h.len⟩
  by_cases hl : l = []
  · rw [hl]; exact Oxms.nil _ _
  · exact h.ox.kept (fun q hq => ht.block _ (h.ox.lt hl hq) (ha q hq))
theorem turn_set {S : Nat → Prop} {w w' : World} (h : Turn S w w') {q : Addr} (hq : S q.block) (v : Value) : Turn S w (w'.setCell q v) := by
  have hb : w'.grownBy (w'.setCell q v) (some q.block) := ⟨rfl, rfl, rfl, by simp [World.setCell], fun k hk hne => Below.heap_setCell _ _ _ _ (fun e => hne (by rw [e]))⟩
  exact h.trans (Turn.of_by hb (by rintro k e; simp at e; subst e; exact hq)) (fun _ _ e => e)
/-- a list whose values' bytes, and whose fields, are written over: blocks from B1 up to B2 -/
structure Mut (B1 B2 gc : Nat) (M : List Ent9) (w : World) : Prop where
  vs : ∀ i, (hi : i < M.length) → w.cell? ⟨gc, i * 6 + 4, none⟩ = some (.slice M[i].va M[i].o.v.length M[i].vc) ∧ (∃ u, w.cell? ⟨gc, i * 6 + 1, none⟩ = some u)
  fr : ∀ o, w.frozen? ⟨gc, o, none⟩ = false
  by_ : ∀ x ∈ M, ∃ p, x.va = some ⟨p, 0, none⟩ ∧ p ≠ gc ∧ (B1 ≤ p ∧ p < B2) ∧ (∀ k, k < x.o.v.length → ∃ u, w.cell? ⟨p, k, none⟩ = some u) ∧ ∀ o, w.frozen? ⟨p, o, none⟩ = false
theorem some_set {w : World} {p q : Addr} {v : Value} (h : ∃ u, w.cell? p = some u) : ∃ u, (w.setCell q v).cell? p = some u := by
  obtain ⟨u, hu⟩ := h
  by_cases e : p = q
  · subst e; exact ⟨v, World.cell?_setCell_same _ _ _ hu⟩
  · exact ⟨u, (World.cell?_setCell_other _ _ _ _ (fun h => e h.symm)).trans hu⟩
theorem Mut.set {B1 B2 gc : Nat} {M : List Ent9} {w : World} (h : Mut B1 B2 gc M w) {q : Addr} (hq : ∀ i, q ≠ ⟨gc, i * 6 + 4, none⟩) (v : Value) : Mut B1 B2 gc M (w.setCell q v) := by
  refine ⟨fun i hi => ⟨?_, some_set (h.vs i hi).2⟩, fun o => (World.frozen?_setCell _ _ _ _).trans (h.fr o), fun x hx => ?_⟩
  · exact (World.cell?_setCell_other _ _ _ _ (hq i)).trans (h.vs i hi).1
  · obtain ⟨p, e1, e2, e3, e4, e5⟩ := h.by_ x hx
    exact ⟨p, e1, e2, e3, fun k hk => some_set (e4 k hk), fun o => (World.frozen?_setCell _ _ _ _).trans (e5 o)⟩
theorem Mut.below {B1 B2 gc : Nat} {M : List Ent9} {w w' : World} (h : Mut B1 B2 gc M w) (hg : gc < w.heap.size) (hb2 : B2 ≤ w.heap.size) (hb : Below w.heap.size w w') : Mut B1 B2 gc M w' := by
  refine ⟨fun i hi => ⟨cell_keep (h.vs i hi).1 hb, ?_⟩, fun o => (World.frozen?_of_block (a := ⟨gc, o, none⟩) (hb.block gc hg)).trans (h.fr o), fun x hx => ?_⟩
  · obtain ⟨u, hu⟩ := (h.vs i hi).2; exact ⟨u, cell_keep hu hb⟩
  · obtain ⟨p, e1, e2, e3, e4, e5⟩ := h.by_ x hx
    exact ⟨p, e1, e2, e3, fun k hk => by obtain ⟨u, hu⟩ := e4 k hk; exact ⟨u, cell_keep hu hb⟩, fun o => (World.frozen?_of_block (a := ⟨p, o, none⟩) (hb.block p (by omega))).trans (e5 o)⟩
theorem Mut.of {w w' : World} {l M : List Ent9} (hB : BoxL w' w.heap.size (oxmCells M)) (hF : ∀ h ∈ M, EntIn w' h ∧ Far9 w.heap.size h ∧ Free10 w' h) : Mut w.heap.size w'.heap.size w.heap.size M w' := by
  have ho := oxms_box hB
  refine ⟨fun i hi => ?_, hB.free, fun x hx => ?_⟩
  · obtain ⟨b, off, e, _, h1, _, _, h4, _⟩ := ho i hi
    simp only [Option.some.injEq, Addr.mk.injEq] at e
    obtain ⟨rfl, rfl, _⟩ := e
    rw [Nat.zero_add] at h1 h4
    exact ⟨h4, _, h1⟩
  · obtain ⟨e1, ⟨p, q, e2, e3, e4, e5⟩, e6⟩ := hF x hx
    refine ⟨p, e2, by omega, ⟨by omega, (e6 p e2).1⟩, fun k hk => ?_, (e6 p e2).2⟩
    obtain ⟨b, off, e, hc⟩ := e1.iv k hk
    rw [e2] at e
    simp only [Option.some.injEq, Addr.mk.injEq] at e
    obtain ⟨rfl, rfl, _⟩ := e
    rw [Nat.zero_add] at hc
    exact ⟨_, hc⟩
theorem copy_l9 {w w' : World} {a : Option Addr} {l M : List Ent9} (hL : L9 w a l) (h1 : M.length = l.length) (h2 : M.map Ent9.o = l.map Ent9.o) (hB : BoxL w' w.heap.size (oxmCells M)) (hF : ∀ h ∈ M, EntIn w' h ∧ Far9 w.heap.size h ∧ Free10 w' h) : L9 w' (some ⟨w.heap.size, 0, none⟩) M := by
  refine ⟨oxms_box hB, fun x hx => (hF x hx).1, fun x hx => ?_, by rw [h1]; exact hL.len⟩
  have hm : x.o ∈ l.map Ent9.o := by rw [← h2]; exact List.mem_map.2 ⟨x, hx, rfl⟩
  obtain ⟨y, hy, e⟩ := List.mem_map.1 hm
  rw [← e]
  exact hL.few y hy

end Go.Proofs.YtpmkfkanolhocaaGreat
