/- Sets that a call makes: a map whose values are bool. Keys: integers; a struct of integers. -/
import Derived.Test.YtlikpafjlojagaaNedJ
import Derived.ProofKit
import Derived.Maps.OwnSet
import Derived.Maps.Views
namespace Go.Proofs.Ytlikpafjlojagaa
open Go.RowKit Go.Maps
set_option linter.unusedVariables false

/-- are two keys one? -/
noncomputable def litEq (a b : Lit) : Bool := @decide (a = b) (Classical.propDecidable _)
theorem litEq_iff {a b : Lit} : litEq a b = true ↔ a = b := by unfold litEq; exact @decide_eq_true_iff _ (Classical.propDecidable _)
theorem litEq_self (a : Lit) : litEq a a = true := litEq_iff.2 rfl
theorem litEq_not {a b : Lit} (h : ¬ a = b) : litEq a b = false := by
  cases e : litEq a b
  · rfl
  · exact absurd (litEq_iff.1 e) h
theorem zero_bool9 (w : World) : (zeroValue 4).run Try.prog w = .ok (.bool false) w := by kernel_rfl
/-- block b is a set of at most n keys: S tells which -/
def Set9 (w : World) (k : TypeId) (b n : Nat) (S : Lit → Bool) : Prop :=
  ∃ D : DataW Unit, w.ownsMap Try.prog k (plainElem Try.prog 4) b n D ∧ IsMap D ∧ ∀ kl, D.atKey kl (.lit (.bool false)) = .lit (.bool (S kl))
theorem plain_bool_inv {v : Value} {z : DataW Unit × List MemPlace} (h : plainElem Try.prog 4 v = some z) : ∃ x, v = .bool x ∧ z = (.lit (.bool x), []) := by
  unfold plainElem at h
  rw [Try.underlying4] at h
  cases v <;> simp at h
  exact ⟨_, rfl, h.symm⟩
theorem Set9.made (w : World) (k : TypeId) : Set9 (w.alloc (.map #[] 0)) k w.heap.size 0 (fun _ => false) :=
  ⟨_, World.ownsMap_made w _ k _, ⟨_, rfl⟩, fun _ => rfl⟩
theorem Set9.below {w w' : World} {k : TypeId} {b n : Nat} {S : Lit → Bool} (h : Set9 w k b n S) (hb : Below w.heap.size w w') : Set9 w' k b n S := by
  obtain ⟨D, h1, h2, h3⟩ := h
  exact ⟨D, h1.kept (below_by_none hb) (by simp), h2, h3⟩
theorem Set9.by {w w' : World} {k : TypeId} {b n g : Nat} {S : Lit → Bool} (h : Set9 w k b n S) (hb : w.grownBy w' (some g)) (hne : b ≠ g) : Set9 w' k b n S := by
  obtain ⟨D, h1, h2, h3⟩ := h
  exact ⟨D, h1.kept hb (by simpa using hne), h2, h3⟩
theorem Set9.lt {w : World} {k : TypeId} {b n : Nat} {S : Lit → Bool} (h : Set9 w k b n S) : b < w.heap.size := by
  obtain ⟨D, h1, _⟩ := h
  exact h1.lt
section
variable {w : World} {k t : TypeId} {b n : Nat} {S : Lit → Bool}
theorem Set9.look (h : Set9 w k b n S) (K : Keyed Try.prog k) (ht : Try.prog.underlying t = some (.map k 4)) {key : Value} {kl : Lit} (hkey : keyOf Try.prog k key = some kl) :
    (Instr.lookup t (.map (some b)) key false).run Try.prog w = .ok (.bool (S kl)) w := by
  obtain ⟨D, h1, h2, h3⟩ := h
  obtain ⟨v, ps, hr, hv⟩ := h1.lookup K ht (zero_bool9 w) (plainElem_bool Try.underlying4 false) hkey
  obtain ⟨x, rfl, hx⟩ := plain_bool_inv hv
  rw [h3] at hx
  simp at hx
  rw [hr, ← hx.1]
theorem Set9.put (h : Set9 w k b n S) (K : Keyed Try.prog k) (ht : Try.prog.underlying t = some (.map k 4)) (hn : n < 100000) {key : Value} {kl : Lit} (hkey : keyOf Try.prog k key = some kl) :
    ∃ w', (Instr.mapUpdate t (.map (some b)) key (.bool true)).run Try.prog w = .ok () w' ∧ Set9 w' k b (n + 1) (fun x => litEq x kl || S x) ∧ w.grownBy w' (some b) := by
  obtain ⟨D, h1, h2, h3⟩ := h
  obtain ⟨w', hr, ho, hg⟩ := h1.update K ht (by unfold maxLen; omega) hkey (plainElem_bool Try.underlying4 true)
  refine ⟨w', hr, ⟨_, ho, h2.put _ _, fun x => ?_⟩, hg⟩
  show _ = DataW.lit (.bool (litEq x kl || S x))
  by_cases e : x = kl
  · subst e
    rw [atKey_put_same h2 (K.key hkey), litEq_self]
    rfl
  · rw [atKey_put_other e, h3, litEq_not e]
    rfl
variable {ops : Array Oper} {rest : List Oper} {o : Oper} {a : Act} {Q : Exit → Act → World → Prop}
theorem wp_look9 (hg : o.guard = none) (m x : Operand) (hop : o.op = Op.lookup t m x false) (K : Keyed Try.prog k) (ht : Try.prog.underlying t = some (.map k 4)) (hm : a.eval m = .map (some b)) (hs : Set9 w k b n S) (key : Value) (kl : Lit) (hx : a.eval x = key) (hkey : keyOf Try.prog k key = some kl)
    (hK : wpList Try.prog ops Q rest (a.put o.dst (.bool (S kl))) w) : wpList Try.prog ops Q (o :: rest) a w := by
  refine wpList_plain hg fun K' hK' => ?_
  unfold Oper.wp
  simp [execOp, hop, hm, hx, hs.look K ht hkey, Result.andThen]
  exact hK' _ _ hK
theorem wp_put9 (hg : o.guard = none) (m x v : Operand) (hop : o.op = Op.mapUpdate t m x v) (hv : a.eval v = .bool true) (K : Keyed Try.prog k) (ht : Try.prog.underlying t = some (.map k 4)) (hm : a.eval m = .map (some b)) (hs : Set9 w k b n S) (hn : n < 100000) (key : Value) (kl : Lit) (hx : a.eval x = key) (hkey : keyOf Try.prog k key = some kl)
    (hK : ∀ w', Set9 w' k b (n + 1) (fun x => litEq x kl || S x) → w.grownBy w' (some b) → wpList Try.prog ops Q rest (a.put o.dst undef) w') : wpList Try.prog ops Q (o :: rest) a w := by
  refine wpList_plain hg fun K' hK' => ?_
  obtain ⟨w', hr, r1, r2⟩ := hs.put K ht hn hkey
  unfold Oper.wp
  simp [execOp, hop, hm, hx, hv, hr, Result.andThen]
  exact hK' _ _ (hK w' r1 r2)
end

/-! ### the keys -/
theorem intKeyed9 : Keyed Try.prog 3 := int_keyed Try.underlying3
theorem intKey9 {n : Int} (h : -9223372036854775808 ≤ n ∧ n ≤ 9223372036854775807) : keyOf Try.prog 3 (.int .i64 n) = some (.int .i64 n) :=
  keyOf_int_mk Try.underlying3 (by simp [Lit.wf, IntKind.min, IntKind.max, IntKind.bits, IntKind.signed]; omega)
theorem laidOut9 : laidOutB Try.prog = true := by kernel_rfl
theorem wideName9 : (match Try.prog.underlying 51 with | some (.array _ _) | some (.struct _) => true | _ => false) = true := by rw [Try.underlying51]
theorem nameKeyed9 : Keyed Try.prog 51 := Keyed.of_law (deep_law_laid laidOut9 (m := 2) (by omega) (of_decide_eq_true (by kernel_rfl)) (by kernel_rfl) wideName9)
def nameV (C F X : Int) : Value := .agg #[.int .i64 C, .int .i64 F, .int .u64 X]
theorem nameKey9 {C F X : Int} (hC : -9223372036854775808 ≤ C ∧ C ≤ 9223372036854775807) (hF : -9223372036854775808 ≤ F ∧ F ≤ 9223372036854775807) (hX : 0 ≤ X ∧ X ≤ 18446744073709551615) :
    ∃ kl, keyOf Try.prog 51 (nameV C F X) = some kl := by
  have k1 : Try.prog.keyType 51 = true := by kernel_rfl
  have c3 : Try.prog.cellsOf 51 = 3 := by kernel_rfl
  have ci : Try.prog.cellsOf 3 = 1 := by kernel_rfl
  have cu : Try.prog.cellsOf 23 = 1 := by kernel_rfl
  have f1 : (nameV C F X).formed Try.prog 51 = true := by simp [nameV, Value.formed, Try.underlying51, c3]
  have hw1 : (Lit.int .i64 C).wf = true := by simp [Lit.wf, IntKind.min, IntKind.max, IntKind.bits, IntKind.signed]; omega
  have hw2 : (Lit.int .i64 F).wf = true := by simp [Lit.wf, IntKind.min, IntKind.max, IntKind.bits, IntKind.signed]; omega
  have hw3 : (Lit.int .u64 X).wf = true := by simp [Lit.wf, IntKind.min, IntKind.max, IntKind.bits, IntKind.signed]; omega
  obtain ⟨d, hd⟩ : ∃ d, Try.prog.types.size = d + 1 := ⟨Try.prog.types.size - 1, by have : 0 < Try.prog.types.size := of_decide_eq_true (by kernel_rfl); omega⟩
  have hk : Try.prog.keyLits (Try.prog.types.size + 1) 51 (nameV C F X).cells.toList = some [.int .i64 C, .int .i64 F, .int .u64 X] := by
    rw [hd]
    simp [Program.keyLits, nameV, Value.cells, Try.underlying51, Try.underlying3, Try.underlying23, c3, ci, cu, hw1, hw2, hw3]
  refine ⟨.string (keyBytes [.int .i64 C, .int .i64 F, .int .u64 X]), ?_⟩
  unfold keyOf
  rw [Try.underlying51]
  simp only [k1, f1, Bool.and_self, if_true, hk, Option.map_some]
/-- the key of a value -/
noncomputable def nameL (o : Ox9) : Lit := (keyOf Try.prog 51 (nameV o.C o.F o.X)).getD (.bool false)
def InR (o : Ox9) : Prop := (-9223372036854775808 ≤ o.C ∧ o.C ≤ 9223372036854775807) ∧ (-9223372036854775808 ≤ o.F ∧ o.F ≤ 9223372036854775807) ∧ 0 ≤ o.X ∧ o.X ≤ 18446744073709551615
theorem nameL_is {o : Ox9} (h : InR o) : keyOf Try.prog 51 (nameV o.C o.F o.X) = some (nameL o) := by
  obtain ⟨kl, hk⟩ := nameKey9 h.1 h.2.1 h.2.2
  unfold nameL
  rw [hk]; rfl
theorem nameL_eq {o p : Ox9} (h : InR o) (k : InR p) : litEq (nameL o) (nameL p) = alike9 o p := by
  rw [Bool.eq_iff_iff, litEq_iff, alike_iff9]
  constructor
  · intro e
    have := nameKeyed9.inj (nameL_is h) (e ▸ nameL_is k)
    unfold nameV at this
    simp at this
    exact this
  · rintro ⟨e1, e2, e3⟩
    unfold nameL
    rw [e1, e2, e3]
end Go.Proofs.Ytlikpafjlojagaa
