/- What Cut answers, as lists; a thing in memory. -/
import Derived.Test.YtfdkkcndadjcaaaTlvE
namespace Go.Proofs.Ytfdkkcndadjcaaa
open Go.RowKit

/-- what comes behind some things -/
def after (pre : List (Int × List Int)) : Except Int (List (Int × List Int)) → Except Int (List (Int × List Int))
  | .error q => .error q
  | .ok r => .ok (pre ++ r)

theorem after_after (pre mid : List (Int × List Int)) (r : Except Int (List (Int × List Int))) : after pre (after mid r) = after (pre ++ mid) r := by
  cases r <;> simp [after]
theorem after_nil (r : Except Int (List (Int × List Int))) : after [] r = r := by cases r <;> rfl

/-- the things that bytes are, in no more than so many steps -/
def cutF (L S : Nat) (P : Bool) (B O : Int) : Nat → List Int → Except Int (List (Int × List Int))
  | 0, _ => .ok []
  | k + 1, b =>
    if b = [] then .ok []
    else match oneL L S P B O b with
      | .error q => .error q
      | .ok (t, x, n) => after [(t, x)] (cutF L S P B O k (b.drop n))
/-- the things that bytes are, or the first error -/
def cutL (L S : Nat) (P : Bool) (B O : Int) (b : List Int) : Except Int (List (Int × List Int)) := cutF L S P B O b.length b

section
variable {L S : Nat} {P : Bool} {B O : Int}
theorem oneL_ok (hL : 4 ≤ L) {b : List Int} {t : Int} {x : List Int} {n : Nat} (h : oneL L S P B O b = .ok (t, x, n)) :
    4 ≤ n ∧ n ≤ b.length ∧ x.length + 4 ≤ n := by
  unfold oneL at h
  obtain ⟨m, hm⟩ : ∃ m, m = (numL ((b.drop 2).take 2)).toNat := ⟨_, rfl⟩
  rw [← hm] at h
  split at h
  · cases h
  · split at h
    · cases h
    · rename_i hlen
      split at h
      · cases h
      · split at h
        · cases h
        · simp only [Except.ok.injEq, Prod.mk.injEq] at h
          obtain ⟨_, rfl, rfl⟩ := h
          have hok : lenOk L S P m = true := by simpa using hlen
          have hLn : L ≤ m := by unfold lenOk at hok; simp at hok; exact hok.1
          rw [List.length_take]
          omega

theorem cutF_enough (hL : 4 ≤ L) : ∀ (k : Nat) (b : List Int), b.length ≤ k → cutF L S P B O k b = cutF L S P B O b.length b := by
  intro k
  induction k using Nat.strongRecOn with
  | ind k ih =>
    intro b hb
    cases k with
    | zero =>
      have : b.length = 0 := by omega
      rw [this]
    | succ k =>
      cases b with
      | nil => rfl
      | cons x b =>
        show cutF L S P B O (k + 1) (x :: b) = cutF L S P B O (b.length + 1) (x :: b)
        have hk : b.length + 1 ≤ k + 1 := hb
        unfold cutF
        cases ho : oneL L S P B O (x :: b) with
        | error q => rfl
        | ok r =>
          obtain ⟨t, y, n⟩ := r
          have hn := oneL_ok hL ho
          have hd : ((x :: b).drop n).length ≤ b.length := by rw [List.length_drop]; simp only [List.length_cons]; omega
          simp only [reduceCtorEq, if_false]
          rw [ih k (by omega) _ (by omega), ih b.length (by omega) _ hd]

theorem cutL_nil : cutL L S P B O [] = .ok [] := rfl
theorem cutL_err {b : List Int} (hb : b ≠ []) {q : Int} (h : oneL L S P B O b = .error q) : cutL L S P B O b = .error q := by
  cases b with
  | nil => exact absurd rfl hb
  | cons x b =>
    show cutF L S P B O (b.length + 1) (x :: b) = _
    unfold cutF
    rw [h]
    simp
theorem cutL_ok (hL : 4 ≤ L) {b : List Int} (hb : b ≠ []) {t : Int} {x : List Int} {n : Nat} (h : oneL L S P B O b = .ok (t, x, n)) : cutL L S P B O b = after [(t, x)] (cutL L S P B O (b.drop n)) := by
  cases b with
  | nil => exact absurd rfl hb
  | cons y b =>
    have hn := oneL_ok hL h
    show cutF L S P B O (b.length + 1) (y :: b) = _
    unfold cutF
    rw [h]
    have hd : ((y :: b).drop n).length ≤ b.length := by rw [List.length_drop]; simp only [List.length_cons]; omega
    simp only [reduceCtorEq, if_false]
    rw [cutF_enough hL _ _ hd]
    rfl
end

/-- a thing as it comes: its type, its body, where that lies -/
structure Thing where
  t : Int
  x : List Int
  a : Option Addr
  c : Nat
def Thing.val (h : Thing) : Int × List Int := (h.t, h.x)
/-- as a value -/
def Thing.v (h : Thing) : Value := .agg #[.int .i64 h.t, .slice h.a h.x.length h.c]
/-- its body stands in memory that has been made since there were B blocks -/
structure Thing.ok (B : Nat) (h : Thing) (w : World) : Prop where
  cap : h.x.length ≤ h.c
  max : h.c ≤ 9223372036854775807
  ints : Ints .u8 w h.a h.x
  far : h.a = none ∨ ∃ k, h.a = some ⟨k, 0, none⟩ ∧ B ≤ k
theorem Thing.ok.below {B : Nat} {h : Thing} {w w' : World} (k : h.ok B w) (hb : Below w.heap.size w w') : h.ok B w' := ⟨k.cap, k.max, k.ints.below hb, k.far⟩

/-- memory that lies in blocks that have been kept -/
theorem Ints.kept {k : IntKind} {w w' : World} {a : Option Addr} {l : List Int} (h : Ints k w a l) (hb : ∀ p : Addr, a = some p → w'.heap[p.block]? = w.heap[p.block]?) : Ints k w' a l := by
  intro i hi
  obtain ⟨b, off, rfl, hc⟩ := h i hi
  exact ⟨b, off, rfl, (World.cell?_of_block (a := ⟨b, off + i, none⟩) (hb ⟨b, off, none⟩ rfl)).trans hc⟩
theorem Ints.lt {k : IntKind} {w : World} {a : Option Addr} {l : List Int} (h : Ints k w a l) (hl : l ≠ []) {q : Addr} (hq : a = some q) : q.block < w.heap.size := by
  obtain ⟨b, off, ha, hc⟩ := h 0 (by cases l; exact absurd rfl hl; simp)
  rw [hq] at ha
  cases ha
  exact World.block_lt_of_cell? w _ hc
theorem ShAt.kept {w w' : World} {b : Nat} {L S : Int} {P : Bool} {B O : Int} (h : ShAt w b L S P B O) (hb : w'.heap[b]? = w.heap[b]?) : ShAt w' b L S P B O :=
  ⟨(World.cell?_of_block (a := ⟨b, 0, none⟩) hb).trans h.c0, (World.cell?_of_block (a := ⟨b, 1, none⟩) hb).trans h.c1, (World.cell?_of_block (a := ⟨b, 2, none⟩) hb).trans h.c2, (World.cell?_of_block (a := ⟨b, 3, none⟩) hb).trans h.c3, (World.cell?_of_block (a := ⟨b, 4, none⟩) hb).trans h.c4⟩
end Go.Proofs.Ytfdkkcndadjcaaa
