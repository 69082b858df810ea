/- Layer 9, pure: a field, and what it asks for ahead of it. -/
import Derived.Test.YtlikpafjlojagaaNedB
namespace Go.Proofs.Ytlikpafjlojagaa
open Go.RowKit
set_option linter.unusedVariables false

/-- the least value of so many bytes that is not 0 -/
def one9 (z : Nat) : List Int := List.replicate (z - 1) 0 ++ [1]
/-- what a field that b asks for must hold; r tells which of b's numbers -/
def hold9 (r : Nat) (a b : Int) : List Int := if (fld b).v = [] then one9 (fld a).z else bytesL ((fld b).v.getD (r % (fld b).v.length) 0) (fld a).z
def chain9 (r : Nat) : List Int → List Ox9
  | [] => []
  | [a] => [⟨32768, a, false, 0, one9 (fld a).z, []⟩]
  | a :: b :: t => ⟨32768, a, false, 0, hold9 r a b, []⟩ :: chain9 r (b :: t)
theorem hold_mod {r : Nat} {a b : Int} (h : (fld b).v.length ≤ 2) : hold9 r a b = hold9 (r % 2) a b := by
  unfold hold9
  split
  · rfl
  · rename_i hv
    have hp : 0 < (fld b).v.length := List.length_pos_iff.2 hv
    rcases (show (fld b).v.length = 1 ∨ (fld b).v.length = 2 by omega) with e | e
    · rw [e, Nat.mod_one, Nat.mod_one]
    · rw [e, Nat.mod_mod]
theorem vals_few9 {n : Int} : (fld n).v.length ≤ 2 := by
  by_cases h : 0 ≤ n ∧ n < 40
  · rcases forty h with rfl | rfl | rfl | rfl | rfl | rfl | rfl | rfl | rfl | rfl | rfl | rfl | rfl | rfl | rfl | rfl | rfl | rfl | rfl | rfl | rfl | rfl | rfl | rfl | rfl | rfl | rfl | rfl | rfl | rfl | rfl | rfl | rfl | rfl | rfl | rfl | rfl | rfl | rfl | rfl <;> decide
  · rw [fld_out h]; decide
theorem chain_mod (r : Nat) (l : List Int) : chain9 r l = chain9 (r % 2) l := by
  induction l with
  | nil => rfl
  | cons a t ih =>
    cases t with
    | nil => rfl
    | cons b t => rw [chain9, chain9, hold_mod vals_few9, ih]
/-- all that the law of the chain says of one field -/
def ChainOk (n : Int) (r : Nat) : Bool :=
  let l := chain9 r (needL n ++ [n])
  decide (check9 l = (0, 0)) && decide (missing9 l = []) && decide ((l.length = 1) = ((fld n).d < 0)) && decide (check9 (l.drop 1) = if l.length = 1 then (0, 0) else (0, 1034))
theorem chain_all {n : Int} (h : 0 ≤ n ∧ n < 40) (r : Nat) : ChainOk n r = true := by
  unfold ChainOk
  rw [chain_mod]
  have hr : r % 2 = 0 ∨ r % 2 = 1 := by omega
  generalize r % 2 = q at hr
  rcases hr with rfl | rfl <;> rcases forty h with rfl | rfl | rfl | rfl | rfl | rfl | rfl | rfl | rfl | rfl | rfl | rfl | rfl | rfl | rfl | rfl | rfl | rfl | rfl | rfl | rfl | rfl | rfl | rfl | rfl | rfl | rfl | rfl | rfl | rfl | rfl | rfl | rfl | rfl | rfl | rfl | rfl | rfl | rfl | rfl <;> decide +kernel
end Go.Proofs.Ytlikpafjlojagaa
