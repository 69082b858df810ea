/- Package oxm: what is reckoned of a value alone. -/
import Derived.Test.YtfogpofgmnibcaaMrg2
namespace Go.Proofs.Ytfogpofgmnibcaa
open Go.RowKit
set_option linter.unusedVariables false

/-- a value, boxed -/
theorem oxm_box (w : World) (C F : Int) (H : Bool) (X : Int) (va : Option Addr) (vl vc : Nat) (ma : Option Addr) (ml mc : Nat) : ∃ W, w.alloc (.cells #[.int .i64 C, .int .i64 F, .bool H, .int .u64 X, .slice va vl vc, .slice ma ml mc] 25) = W ∧ Below w.heap.size w W ∧ BoxL W w.heap.size [.int .i64 C, .int .i64 F, .bool H, .int .u64 X, .slice va vl vc, .slice ma ml mc] :=
  ⟨_, rfl, below_alloc _ _, BoxL.new _ _ _⟩

/-- whether Field and Exp have room -/
def room8 (C F X : Int) : Bool := if C = 65535 then decide (0 ≤ F ∧ F ≤ 127 ∧ X ≤ 4294967295) else decide (X = 0)
/-- how many bytes the mask must have -/
def maskZ (H : Bool) (vl : Nat) : Nat := if H then vl else 0
/-- how many pieces of as many bytes there are -/
def pieces8 (H : Bool) : Nat := if H then 2 else 1
/-- how many bytes stand behind the length -/
def behind8 (C : Int) (vl ml : Nat) : Nat := if C = 65535 then vl + ml + 4 else vl + ml

theorem hasRoom8_any (C F : Int) (H : Bool) (X : Int) (va : Option Addr) (vl vc : Nat) (ma : Option Addr) (ml mc : Nat) (w : World) :
    Calls Try.prog 30 #[.agg #[.int .i64 C, .int .i64 F, .bool H, .int .u64 X, .slice va vl vc, .slice ma ml mc]] w fun e w' => e = .returned (.bool (room8 C F X)) ∧ Below w.heap.size w w' := by
  by_cases h : C = 65535
  · subst h
    by_cases h0 : 0 ≤ F
    · by_cases h1 : F ≤ 127
      · have e : room8 65535 F X = decide (X ≤ 4294967295) := by simp [room8, h0, h1]
        rw [e]
        clear e
        go_enter Try.func30, Try.ntmps30
        go_wp2
        go_ret
        exact ⟨rfl, below_alloc _ _⟩
      · have e : room8 65535 F X = false := by simp [room8, h1]
        rw [e]
        clear e
        go_enter Try.func30, Try.ntmps30
        go_wp2
        go_ret
        exact ⟨rfl, below_alloc _ _⟩
    · have e : room8 65535 F X = false := by simp [room8, h0]
      rw [e]
      clear e
      go_enter Try.func30, Try.ntmps30
      go_wp2
      go_ret
      exact ⟨rfl, below_alloc _ _⟩
  · have e : room8 C F X = (X == 0) := by simp only [room8, if_neg h]; by_cases h4 : X = 0 <;> simp [h4]
    have e0 : (C == 65535) = false := by simpa using h
    rw [e]
    clear e h
    go_enter Try.func30, Try.ntmps30
    go_wp2
    go_ret
    exact ⟨rfl, below_alloc _ _⟩

theorem maskSize_any (C F : Int) (H : Bool) (X : Int) (va : Option Addr) (vl vc : Nat) (ma : Option Addr) (ml mc : Nat) (w : World) :
    Calls Try.prog 31 #[.agg #[.int .i64 C, .int .i64 F, .bool H, .int .u64 X, .slice va vl vc, .slice ma ml mc]] w fun e w' => e = .returned (.int .i64 (maskZ H vl)) ∧ Below w.heap.size w w' := by
  cases H
  all_goals
    go_enter Try.func31, Try.ntmps31
    go_wp2
    go_ret
    exact ⟨rfl, below_alloc _ _⟩

theorem pieces8_any (C F : Int) (H : Bool) (X : Int) (va : Option Addr) (vl vc : Nat) (ma : Option Addr) (ml mc : Nat) (w : World) :
    Calls Try.prog 48 #[.agg #[.int .i64 C, .int .i64 F, .bool H, .int .u64 X, .slice va vl vc, .slice ma ml mc]] w fun e w' => e = .returned (.int .i64 (pieces8 H)) ∧ Below w.heap.size w w' := by
  cases H
  all_goals
    go_enter Try.func48, Try.ntmps48
    go_wp2
    go_ret
    exact ⟨rfl, below_alloc _ _⟩

theorem behind8_any (C F : Int) (H : Bool) (X : Int) (va : Option Addr) (vl vc : Nat) (ma : Option Addr) (ml mc : Nat) (w : World) (hv : vl ≤ 1000000000) (hm : ml ≤ 1000000000) :
    Calls Try.prog 25 #[.agg #[.int .i64 C, .int .i64 F, .bool H, .int .u64 X, .slice va vl vc, .slice ma ml mc]] w fun e w' => e = .returned (.int .i64 (behind8 C vl ml)) ∧ Below w.heap.size w w' := by
  by_cases h : C = 65535
  · subst h
    go_enter Try.func25, Try.ntmps25
    go_wp2
    go_ret
    exact ⟨rfl, below_alloc _ _⟩
  · have e0 : (C == 65535) = false := by simpa using h
    have e : behind8 C vl ml = vl + ml := by simp [behind8, h]
    rw [e]
    clear e h
    go_enter Try.func25, Try.ntmps25
    go_wp2
    go_ret
    exact ⟨rfl, below_alloc _ _⟩
end Go.Proofs.Ytfogpofgmnibcaa
