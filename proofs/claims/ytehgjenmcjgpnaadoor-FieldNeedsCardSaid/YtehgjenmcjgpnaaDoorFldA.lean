/- Package field: the fields as a table; how wide they are, and what they ask for. -/
import Derived.Test.YtehgjenmcjgpnaaDoorOwn
import Derived.Test.YtehgjenmcjgpnaaDoorMany
import Derived.Test.YtehgjenmcjgpnaaDoorQuiet
import Derived.Test.YtehgjenmcjgpnaaDoorIts
namespace Go.Proofs.YtehgjenmcjgpnaaDoor
open Go.RowKit

/-- a field: name, bits, bytes, whether it may have a mask, what it asks for, and the values of that -/
structure Fld where
  nm : ByteArray
  b : Int
  z : Nat
  m : Bool
  d : Int
  v : List Int
def fldT : List Fld := [
  ⟨⟨#[105, 110, 95, 112, 111, 114, 116]⟩, 32, 4, false, -1, []⟩,
  ⟨⟨#[105, 110, 95, 112, 104, 121, 95, 112, 111, 114, 116]⟩, 32, 4, false, 0, []⟩,
  ⟨⟨#[109, 101, 116, 97, 100, 97, 116, 97]⟩, 64, 8, true, -1, []⟩,
  ⟨⟨#[101, 116, 104, 95, 100, 115, 116]⟩, 48, 6, true, -1, []⟩,
  ⟨⟨#[101, 116, 104, 95, 115, 114, 99]⟩, 48, 6, true, -1, []⟩,
  ⟨⟨#[101, 116, 104, 95, 116, 121, 112, 101]⟩, 16, 2, false, -1, []⟩,
  ⟨⟨#[118, 108, 97, 110, 95, 118, 105, 100]⟩, 13, 2, true, -1, []⟩,
  ⟨⟨#[118, 108, 97, 110, 95, 112, 99, 112]⟩, 3, 1, false, 6, []⟩,
  ⟨⟨#[105, 112, 95, 100, 115, 99, 112]⟩, 6, 1, false, 5, [2048, 34525]⟩,
  ⟨⟨#[105, 112, 95, 101, 99, 110]⟩, 2, 1, false, 5, [2048, 34525]⟩,
  ⟨⟨#[105, 112, 95, 112, 114, 111, 116, 111]⟩, 8, 1, false, 5, [2048, 34525]⟩,
  ⟨⟨#[105, 112, 118, 52, 95, 115, 114, 99]⟩, 32, 4, true, 5, [2048]⟩,
  ⟨⟨#[105, 112, 118, 52, 95, 100, 115, 116]⟩, 32, 4, true, 5, [2048]⟩,
  ⟨⟨#[116, 99, 112, 95, 115, 114, 99]⟩, 16, 2, false, 10, [6]⟩,
  ⟨⟨#[116, 99, 112, 95, 100, 115, 116]⟩, 16, 2, false, 10, [6]⟩,
  ⟨⟨#[117, 100, 112, 95, 115, 114, 99]⟩, 16, 2, false, 10, [17]⟩,
  ⟨⟨#[117, 100, 112, 95, 100, 115, 116]⟩, 16, 2, false, 10, [17]⟩,
  ⟨⟨#[115, 99, 116, 112, 95, 115, 114, 99]⟩, 16, 2, false, 10, [132]⟩,
  ⟨⟨#[115, 99, 116, 112, 95, 100, 115, 116]⟩, 16, 2, false, 10, [132]⟩,
  ⟨⟨#[105, 99, 109, 112, 118, 52, 95, 116, 121, 112, 101]⟩, 8, 1, false, 10, [1]⟩,
  ⟨⟨#[105, 99, 109, 112, 118, 52, 95, 99, 111, 100, 101]⟩, 8, 1, false, 10, [1]⟩,
  ⟨⟨#[97, 114, 112, 95, 111, 112]⟩, 16, 2, false, 5, [2054]⟩,
  ⟨⟨#[97, 114, 112, 95, 115, 112, 97]⟩, 32, 4, true, 5, [2054]⟩,
  ⟨⟨#[97, 114, 112, 95, 116, 112, 97]⟩, 32, 4, true, 5, [2054]⟩,
  ⟨⟨#[97, 114, 112, 95, 115, 104, 97]⟩, 48, 6, true, 5, [2054]⟩,
  ⟨⟨#[97, 114, 112, 95, 116, 104, 97]⟩, 48, 6, true, 5, [2054]⟩,
  ⟨⟨#[105, 112, 118, 54, 95, 115, 114, 99]⟩, 128, 16, true, 5, [34525]⟩,
  ⟨⟨#[105, 112, 118, 54, 95, 100, 115, 116]⟩, 128, 16, true, 5, [34525]⟩,
  ⟨⟨#[105, 112, 118, 54, 95, 102, 108, 97, 98, 101, 108]⟩, 20, 4, true, 5, [34525]⟩,
  ⟨⟨#[105, 99, 109, 112, 118, 54, 95, 116, 121, 112, 101]⟩, 8, 1, false, 10, [58]⟩,
  ⟨⟨#[105, 99, 109, 112, 118, 54, 95, 99, 111, 100, 101]⟩, 8, 1, false, 10, [58]⟩,
  ⟨⟨#[105, 112, 118, 54, 95, 110, 100, 95, 116, 97, 114, 103, 101, 116]⟩, 128, 16, false, 29, [135, 136]⟩,
  ⟨⟨#[105, 112, 118, 54, 95, 110, 100, 95, 115, 108, 108]⟩, 48, 6, false, 29, [135]⟩,
  ⟨⟨#[105, 112, 118, 54, 95, 110, 100, 95, 116, 108, 108]⟩, 48, 6, false, 29, [136]⟩,
  ⟨⟨#[109, 112, 108, 115, 95, 108, 97, 98, 101, 108]⟩, 20, 4, false, 5, [34887, 34888]⟩,
  ⟨⟨#[109, 112, 108, 115, 95, 116, 99]⟩, 3, 1, false, 5, [34887, 34888]⟩,
  ⟨⟨#[109, 112, 108, 115, 95, 98, 111, 115]⟩, 1, 1, false, 5, [34887, 34888]⟩,
  ⟨⟨#[112, 98, 98, 95, 105, 115, 105, 100]⟩, 24, 3, true, 5, [35047]⟩,
  ⟨⟨#[116, 117, 110, 110, 101, 108, 95, 105, 100]⟩, 64, 8, true, -1, []⟩,
  ⟨⟨#[105, 112, 118, 54, 95, 101, 120, 116, 104, 100, 114]⟩, 9, 2, true, 5, [34525]⟩]
def fldNone : Fld := ⟨⟨#[]⟩, 0, 0, false, 0, []⟩
/-- the field of a number -/
def fld (n : Int) : Fld := if 0 ≤ n ∧ n < 40 then fldT.getD n.toNat fldNone else fldNone
theorem fld_out {n : Int} (h : ¬ (0 ≤ n ∧ n < 40)) : fld n = fldNone := if_neg h

theorem forty {n : Int} (h : 0 ≤ n ∧ n < 40) : n = 0 ∨ n = 1 ∨ n = 2 ∨ n = 3 ∨ n = 4 ∨ n = 5 ∨ n = 6 ∨ n = 7 ∨ n = 8 ∨ n = 9 ∨ n = 10 ∨ n = 11 ∨ n = 12 ∨ n = 13 ∨ n = 14 ∨ n = 15 ∨ n = 16 ∨ n = 17 ∨ n = 18 ∨ n = 19 ∨ n = 20 ∨ n = 21 ∨ n = 22 ∨ n = 23 ∨ n = 24 ∨ n = 25 ∨ n = 26 ∨ n = 27 ∨ n = 28 ∨ n = 29 ∨ n = 30 ∨ n = 31 ∨ n = 32 ∨ n = 33 ∨ n = 34 ∨ n = 35 ∨ n = 36 ∨ n = 37 ∨ n = 38 ∨ n = 39 := by omega

theorem isField_any (n : Int) (w : World) :
    Calls Tryd.prog 19 #[.int .i64 n] w fun e w' => e = .returned (.bool (decide (0 ≤ n ∧ n < 40))) ∧ w = w' := by
  by_cases h0 : 0 ≤ n
  · have e : decide (0 ≤ n ∧ n < 40) = decide (n < 40) := by simp [h0]
    rw [e]
    clear e
    go_enter Tryd.func19, Tryd.ntmps19
    go_wp2
    go_ret
    exact ⟨rfl, rfl⟩
  · have e : decide (0 ≤ n ∧ n < 40) = false := by simp [h0]
    rw [e]
    clear e
    go_enter Tryd.func19, Tryd.ntmps19
    go_wp2
    go_ret
    exact ⟨rfl, rfl⟩

theorem width_in (n : Int) (h : 0 ≤ n ∧ n < 40) (w : World) :
    Calls Tryd.prog 20 #[.int .i64 n] w fun e w' => e = .returned (.tuple #[.int .i64 (fld n).b, .bool (fld n).m]) ∧ w' = w := by
  refine callV_sound (os := []) ?_
  rcases forty h with rfl | rfl | rfl | rfl | rfl | rfl | rfl | rfl | rfl | rfl | rfl | rfl | rfl | rfl | rfl | rfl | rfl | rfl | rfl | rfl | rfl | rfl | rfl | rfl | rfl | rfl | rfl | rfl | rfl | rfl | rfl | rfl | rfl | rfl | rfl | rfl | rfl | rfl | rfl | rfl
  all_goals kernel_rfl

/-- the bytes of so many bits -/
def sizeL (b : Int) : Int := if b = 20 then 4 else (b + 7) / 8
theorem fldSize_any (b : Int) (h0 : 0 ≤ b) (h1 : b ≤ 1000) (w : World) :
    Calls Tryd.prog 22 #[.int .i64 b] w fun e w' => e = .returned (.int .i64 (sizeL b)) ∧ w' = w := by
  unfold sizeL
  by_cases h : b = 20
  · subst h
    go_enter Tryd.func22, Tryd.ntmps22
    go_wp2
    go_ret
    exact ⟨rfl, rfl⟩
  · rw [if_neg h]
    have c : (b == 20) = false := by simp [h]
    clear h
    go_enter Tryd.func22, Tryd.ntmps22
    go_wp2
    go_ret
    exact ⟨rfl, rfl⟩
theorem size_fld (n : Int) (h : 0 ≤ n ∧ n < 40) : 0 ≤ (fld n).b ∧ (fld n).b ≤ 1000 ∧ sizeL (fld n).b = (fld n).z := by
  rcases forty h with rfl | rfl | rfl | rfl | rfl | rfl | rfl | rfl | rfl | rfl | rfl | rfl | rfl | rfl | rfl | rfl | rfl | rfl | rfl | rfl | rfl | rfl | rfl | rfl | rfl | rfl | rfl | rfl | rfl | rfl | rfl | rfl | rfl | rfl | rfl | rfl | rfl | rfl | rfl | rfl <;> decide

/-- numbers in a slice -/
def U64s7 (w : World) (v : Value) (l : List Int) : Prop := ∃ a c, v = .slice a l.length c ∧ Ints .u64 w a l
theorem U64s7.below {w w' : World} {v : Value} {l : List Int} (h : U64s7 w v l) (hb : Below w.heap.size w w') : U64s7 w' v l := by
  obtain ⟨a, c, h1, h2⟩ := h
  exact ⟨a, c, h1, h2.below hb⟩

/-- a slice in memory that is new behind w -/
def New7 (w : World) (v : Value) : Prop := ∀ g, v.ownBlock = some g → w.heap.size ≤ g
/-- what is asked for, in a slice that is laid as a literal -/
theorem asked_lit {n d : Int} {l : List Int} {w : World} (h : callV Tryd.prog w.heap.size 21 #[.int .i64 n] = some (.tuple #[.int .i64 d, .slice (some ⟨w.heap.size, 0, none⟩) l.length l.length], [.cells (l.map (Value.int .u64)).toArray 42])) :
    Calls Tryd.prog 21 #[.int .i64 n] w fun e w' => ∃ v, e = .returned (.tuple #[.int .i64 d, v]) ∧ U64s7 w' v l ∧ New7 w v ∧ Below w.heap.size w w' :=
  (callV_sound h).mono fun _ _ ⟨he, hw⟩ => ⟨_, he, ⟨_, _, rfl, by rw [hw]; exact ints_lit .u64 w l 42⟩, fun g hg => by simp [Value.ownBlock] at hg; omega, by rw [hw]; exact laidOn_below _ _⟩
theorem asked_none {n d : Int} {w : World} (h : callV Tryd.prog w.heap.size 21 #[.int .i64 n] = some (.tuple #[.int .i64 d, .slice none 0 0], [])) :
    Calls Tryd.prog 21 #[.int .i64 n] w fun e w' => ∃ v, e = .returned (.tuple #[.int .i64 d, v]) ∧ U64s7 w' v [] ∧ New7 w v ∧ Below w.heap.size w w' :=
  (callV_sound h).mono fun _ _ ⟨he, hw⟩ => ⟨_, he, ⟨_, _, rfl, Ints.nil _ _ _⟩, fun g hg => by simp [Value.ownBlock] at hg, by rw [hw]; exact laidOn_below _ _⟩
theorem elemFld : Elem Tryd.prog 23 42 (.int .u64 0) 8 := ⟨Tryd.underlying23, by kernel_rfl, rfl⟩
end Go.Proofs.YtehgjenmcjgpnaaDoor
