/- Shapes of package tlv and of the document: whether one may be, whether a length may, how many zeros stand behind. -/
import Derived.Test.YtfdkkcndadjcaaaApp
import Derived.Test.YtfdkkcndadjcaaaNum
import Derived.Test.YtfdkkcndadjcaaaBufF
import Derived.Test.YtfdkkcndadjcaaaCurE
import Derived.OneCell
namespace Go.Proofs.Ytfdkkcndadjcaaa
open Go.RowKit

/-- a shape, as a value -/
def shV (L S : Int) (P : Bool) (B O : Int) : Value := .agg #[.int .i64 L, .int .i64 S, .bool P, .int .i64 B, .int .i64 O]
/-- a shape that may be -/
def MayS (L S B O : Int) : Prop := 4 ≤ L ∧ L ≤ 60000 ∧ 1 ≤ S ∧ S ≤ 64 ∧ B ≠ 0 ∧ O ≠ 0
/-- a shape stands in a block -/
structure ShAt (w : World) (b : Nat) (L S : Int) (P : Bool) (B O : Int) : Prop where
  c0 : w.cell? ⟨b, 0, none⟩ = some (.int .i64 L)
  c1 : w.cell? ⟨b, 1, none⟩ = some (.int .i64 S)
  c2 : w.cell? ⟨b, 2, none⟩ = some (.bool P)
  c3 : w.cell? ⟨b, 3, none⟩ = some (.int .i64 B)
  c4 : w.cell? ⟨b, 4, none⟩ = some (.int .i64 O)

theorem mayBe_yes (w : World) (L S : Int) (P : Bool) (B O : Int) (h : MayS L S B O) :
    Calls Try.prog 18 #[.agg #[.int .i64 L, .int .i64 S, .bool P, .int .i64 B, .int .i64 O]] w fun e w' => e = .returned (.bool true) ∧ Below w.heap.size w w' := by
  obtain ⟨h1, h2, h3, h4, h5, h6⟩ := h
  have e5 : (B != 0) = true := by simpa using h5
  have e6 : (O != 0) = true := by simpa using h6
  clear h5 h6
  go_enter Try.func18, Try.ntmps18
  go_wp2
  go_ret
  exact ⟨rfl, below_alloc _ _⟩
theorem mayBe_no (w : World) (L S : Int) (P : Bool) (B O : Int) (h : ¬ MayS L S B O) :
    Calls Try.prog 18 #[.agg #[.int .i64 L, .int .i64 S, .bool P, .int .i64 B, .int .i64 O]] w fun e w' => e = .returned (.bool false) ∧ Below w.heap.size w w' := by
  have HH := hid h
  clear h
  go_enter Try.func18, Try.ntmps18
  go_wp2
  all_goals go_ret
  all_goals refine ⟨?_, below_alloc _ _⟩
  all_goals first | rfl | (refine ret_bool ?_; have := HH.out; unfold MayS at this; simp only [ne_eq] at *; simp; omega)

/-- whether a thing may tell the length n -/
def lenOk (L S : Nat) (P : Bool) (n : Nat) : Bool := decide (L ≤ n) && (P || n % S == 0)
/-- how many zeros stand behind a thing of the length n -/
def zer (S : Nat) (P : Bool) (n : Nat) : Nat := if P = false ∨ n % S = 0 then 0 else S - n % S

theorem zer_lt {S : Nat} (hS : 1 ≤ S) (P : Bool) (n : Nat) : zer S P n < S := by unfold zer; split <;> omega

theorem isLength_any (w : World) (L S n : Nat) (P : Bool) (B O : Int) (hS : 1 ≤ S) :
    Calls Try.prog 30 #[.agg #[.int .i64 L, .int .i64 S, .bool P, .int .i64 B, .int .i64 O], .int .i64 n] w fun e w' => e = .returned (.bool (lenOk L S P n)) ∧ Below w.heap.size w w' := by
  have hto := over_cast (l := n) hS
  have hn0 : ((S : Int) == 0) = false := by simp; omega
  unfold lenOk
  by_cases h1 : L ≤ n
  · have h1' : (L : Int) ≤ (n : Int) := by omega
    have e1 : decide (L ≤ n) = true := by simpa using h1
    rw [e1]
    clear e1 h1
    cases P
    · obtain ⟨o, ho⟩ : ∃ o, o = n % S := ⟨_, rfl⟩
      rw [← ho] at hto ⊢
      clear ho
      rcases Nat.eq_zero_or_pos o with h0 | h0
      · subst h0
        go_enter Try.func30, Try.ntmps30
        go_wp2
        go_ret
        exact ⟨rfl, below_alloc _ _⟩
      · have e0 : (o == 0) = false := by simp; omega
        have e0' : ((o : Int) == 0) = false := by simp; omega
        rw [e0]
        clear e0 h0
        go_enter Try.func30, Try.ntmps30
        go_wp2
        go_ret
        exact ⟨rfl, below_alloc _ _⟩
    · clear hto
      go_enter Try.func30, Try.ntmps30
      go_wp2
      go_ret
      exact ⟨rfl, below_alloc _ _⟩
  · have h1' : (n : Int) < (L : Int) := by omega
    have e1 : decide (L ≤ n) = false := by simpa using h1
    rw [e1]
    clear e1 h1 hto
    go_enter Try.func30, Try.ntmps30
    go_wp2
    go_ret
    exact ⟨rfl, below_alloc _ _⟩

theorem zeros_any (w : World) (L S n : Nat) (P : Bool) (B O : Int) (hS : 1 ≤ S) (hS64 : S ≤ 64) :
    Calls Try.prog 20 #[.agg #[.int .i64 L, .int .i64 S, .bool P, .int .i64 B, .int .i64 O], .int .i64 n] w fun e w' => e = .returned (.int .i64 (zer S P n)) ∧ Below w.heap.size w w' := by
  have hto := over_cast (l := n) hS
  have hn0 : ((S : Int) == 0) = false := by simp; omega
  have hlt : n % S < S := Nat.mod_lt _ (by omega)
  obtain ⟨z, hz⟩ : ∃ z, z = zer S P n := ⟨_, rfl⟩
  rw [← hz]
  unfold zer at hz
  obtain ⟨o, ho⟩ : ∃ o, o = n % S := ⟨_, rfl⟩
  rw [← ho] at hto hlt hz
  clear ho
  cases P
  · obtain rfl : z = 0 := by simpa using hz
    clear hz
    go_enter Try.func20, Try.ntmps20
    go_wp2
    go_ret
    exact ⟨rfl, below_alloc _ _⟩
  · rcases Nat.eq_zero_or_pos o with h0 | h0
    · subst h0
      obtain rfl : z = 0 := by simpa using hz
      clear hz
      go_enter Try.func20, Try.ntmps20
      go_wp2
      go_ret
      exact ⟨rfl, below_alloc _ _⟩
    · have e0' : ((o : Int) == 0) = false := by simp; omega
      have e1 : ¬ o = 0 := by omega
      have hso : (S : Int) - (o : Int) = (z : Int) := by simp [e1] at hz; omega
      clear h0 hz e1 hlt
      go_enter Try.func20, Try.ntmps20
      go_wp2
      go_ret
      exact ⟨rfl, below_alloc _ _⟩

theorem plain_any (w : World) (L S : Int) (P : Bool) (B O : Int) :
    Calls Try.prog 9 #[.agg #[.int .i64 L, .int .i64 S, .bool P, .int .i64 B, .int .i64 O]] w fun e w' => e = .returned (.agg #[.int .i64 L, .int .i64 S, .bool P, .int .i64 B, .int .i64 O]) ∧ Below w.heap.size w w' := by
  go_enter Try.func9, Try.ntmps9
  go_wp2
  refine bodyPost_ret (v := .agg #[.int .i64 L, .int .i64 S, .bool P, .int .i64 B, .int .i64 O]) (by simp [results, Try.results9, go_sem]) rfl ⟨rfl, ?_⟩
  repeat refine Below.setCell ?_ (by simp) _
  exact ((Below.refl _ _).alloc (Nat.le_refl _) _).alloc (by simp) _

theorem may_yes (w : World) (L S : Int) (P : Bool) (B O : Int) (h : MayS L S B O) :
    Calls Try.prog 22 #[.agg #[.int .i64 L, .int .i64 S, .bool P, .int .i64 B, .int .i64 O]] w fun e w' => e = .returned (.bool true) ∧ Below w.heap.size w w' := by
  obtain ⟨h1, h2, h3, h4, h5, h6⟩ := h
  have e5 : (B != 0) = true := by simpa using h5
  have e6 : (O != 0) = true := by simpa using h6
  clear h5 h6
  go_enter Try.func22, Try.ntmps22
  go_wp2
  go_ret
  exact ⟨rfl, below_alloc _ _⟩
theorem may_no (w : World) (L S : Int) (P : Bool) (B O : Int) (h : ¬ MayS L S B O) :
    Calls Try.prog 22 #[.agg #[.int .i64 L, .int .i64 S, .bool P, .int .i64 B, .int .i64 O]] w fun e w' => e = .returned (.bool false) ∧ Below w.heap.size w w' := by
  have HH := hid h
  clear h
  go_enter Try.func22, Try.ntmps22
  go_wp2
  all_goals go_ret
  all_goals refine ⟨?_, below_alloc _ _⟩
  all_goals first | rfl | (refine ret_bool ?_; have := HH.out; unfold MayS at this; simp only [ne_eq] at *; simp; omega)

/-- the document counts the zeros one by one -/
theorem refZeros_any (w : World) (S n : Nat) (hS : 1 ≤ S) (hS64 : S ≤ 64) (hn : n ≤ 1000000) :
    Calls Try.prog 24 #[.int .i64 n, .int .i64 S] w fun e w' => e = .returned (.int .i64 (zer S true n)) ∧ w = w' := by
  have hn0 : ((S : Int) == 0) = false := by simp; omega
  have hz := zer_lt hS true n
  have hmod : ∀ k, k ≤ zer S true n → ((n + k) % S = 0 ↔ k = zer S true n) := by
    have hlt : n % S < S := Nat.mod_lt _ (by omega)
    have hdiv := Nat.div_add_mod n S
    intro k hk
    unfold zer at hk ⊢
    by_cases h0 : n % S = 0
    · simp [h0] at hk ⊢; subst hk; simpa using h0
    · simp [h0] at hk ⊢
      have e1 : n + k = (n % S + k) + S * (n / S) := by omega
      rw [e1, Nat.add_mul_mod_self_left]
      constructor
      · intro h
        rcases Nat.lt_or_ge (n % S + k) S with h2 | h2
        · rw [Nat.mod_eq_of_lt h2] at h; omega
        · omega
      · intro h
        have : n % S + k = S := by omega
        rw [this, Nat.mod_self]
  obtain ⟨z, hzz⟩ : ∃ z, z = zer S true n := ⟨_, rfl⟩
  rw [← hzz] at hz hmod ⊢
  clear hzz
  go_enter Try.func24, Try.ntmps24
  go_wp2
  go_loop [5] (fun p => ∃ k : Nat, p = .int .i64 k ∧ k ≤ z) (fun p => z - (intOf p).toNat)
  case atStart => exact ⟨0, rfl, Nat.zero_le _⟩
  case round =>
    obtain ⟨k, rfl, hk⟩ := hrel
    have hto := over_cast (l := n + k) hS
    have hm := hmod k hk
    obtain ⟨m, hmm⟩ : ∃ m, m = (n + k) % S := ⟨_, rfl⟩
    rw [← hmm] at hto hm
    clear hmm hmod
    rw [Int.natCast_add] at hto
    rcases Nat.lt_or_ge k z with h | h
    · have h1 : ((m : Int) == 0) = false := by simp; omega
      have H := hid h
      clear hm h
      go_wp2
      have h := H.out
      go_round
      case rel => exact ⟨k + 1, by go_num, by omega⟩
      case measure => simp [intOf]; omega
    · obtain rfl : k = z := by omega
      obtain rfl : m = 0 := by omega
      clear hm h
      go_wp2
      go_ret
      exact ⟨rfl, rfl⟩
end Go.Proofs.Ytfdkkcndadjcaaa
