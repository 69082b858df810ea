/- Whether any two values are the same, and of the same field, is as the document says; a copy is the same, and apart. For every input, without a condition; the input reads afterwards as before. The frame is the guide's own, but for arguments that it does not serve. -/
import Derived.Test.YtfogpofgmnibcaaRows
import Derived.Test.YtfogpofgmnibcaaOxmX
import Derived.WalkKit
import Derived.ProofKit
import Derived.OpenShut
import Derived.ShutString
import Derived.ChangeOld
import Derived.Below
namespace Go.Proofs.Ytfogpofgmnibcaa.oxmCopies
open Go.ChangeShapes Go.WideShapes Go.ChangeAt Go.RowKit
open Go.ChangeMaps (open_string shut_string)
set_option linter.unusedVariables false

theorem own : ownKnob Try.prog.godebug = none := by kernel_rfl
theorem laidOut : laidOutB Try.prog = true := by kernel_rfl

theorem walk (C0 F0 : Int) (G0 : Bool) (X0 : Int) (va0 : Option Addr) (vl0 vc0 : Nat) (ma0 : Option Addr) (ml0 mc0 : Nat) (bv0 bm0 : List Int) (C1 F1 : Int) (G1 : Bool) (X1 : Int) (va1 : Option Addr) (vl1 vc1 : Nat) (ma1 : Option Addr) (ml1 mc1 : Nat) (bv1 bm1 : List Int) (a2 : Int) (w : World) (w0 : OxmIn w C0 F0 X0 va0 vl0 vc0 ma0 ml0 mc0 bv0 bm0) (w1 : OxmIn w C1 F1 X1 va1 vl1 vc1 ma1 ml1 mc1 bv1 bm1) (w2 : (Lit.int .u8 a2).wf = true) :
    Calls Try.prog 5 #[.agg #[.int .i64 C0, .int .i64 F0, .bool G0, .int .u64 X0, .slice va0 vl0 vc0, .slice ma0 ml0 mc0], .agg #[.int .i64 C1, .int .i64 F1, .bool G1, .int .u64 X1, .slice va1 vl1 vc1, .slice ma1 ml1 mc1], .int .u8 a2] w fun e w' => e = .returned (.bool true) ∧ Below w.heap.size w w' := by
  exact OxmCopies_walk C0 F0 G0 X0 va0 vl0 vc0 ma0 ml0 mc0 C1 F1 G1 X1 va1 vl1 vc1 ma1 ml1 mc1 bv0 bm0 bv1 bm1 a2 (by simp [Lit.wf, IntKind.min, IntKind.max, IntKind.bits, IntKind.signed] at w2; omega) w w0 w1

set_option maxRecDepth 100000 in
theorem lifted (os : Os) (started : os.Started) (H : Type) (enc : TypeId × Value → H) :
    ReturnsInHanded {} Try.checked os 5 .any (Rows.oxmCopiesSpec.pre6 enc Try.prog Try.f5 Rows.oxmCopiesRow.domain false) (Rows.oxmCopiesSpec.post enc Try.prog Try.f5 false true false false) := by
  refine returnsInHanded_of_change (C := Try.checked) own started (by kernel_rfl) Try.func5
    (ChangeSpec.witness6 (enc := enc) (C := Try.checked) false ⟨#[], #[.agg #[.int .i64 0, .int .i64 0, .bool false, .int .u64 0, .slice none 0 0, .slice none 0 0], .agg #[.int .i64 0, .int .i64 0, .bool false, .int .u64 0, .slice none 0 0, .slice none 0 0], .int .u8 0], []⟩ 8 (by kernel_rfl) (by kernel_rfl) (by kernel_rfl) (by kernel_rfl)) ?_
  intro W base args ds gs before hval0 hW hcnd _
  have hval : ∀ (j : Nat) t v, Try.f5.params[j]? = some t → args[j]? = some v → Value.okWide Try.prog W .any base t v := hval0
  have hW' := hW
  obtain ⟨p, q, hA0, hV, rfl, hfz, hnd⟩ := hW
  have hA : DataW.TrodAll enc Try.prog W 0 (fun _ => true) true Try.f5.params.toList args.toList ds p := hA0
  rw [Try.params5] at hA hval
  obtain ⟨v0, vs0, d0, ds0, p0, q0, hargs, rfl, rfl, h0, r0⟩ := trodAll_cons hA
  obtain ⟨v1, vs1, d1, ds1, p1, q1, rfl, rfl, rfl, h1, r1⟩ := trodAll_cons r0
  obtain ⟨v2, vs2, d2, ds2, p2, q2, rfl, rfl, rfl, h2, r2⟩ := trodAll_cons r1
  obtain ⟨rfl, rfl, rfl⟩ := trodAll_nil r2
  obtain rfl : args = #[v0, v1, v2] := by cases args; simp_all
  obtain ⟨rfl, rfl⟩ := trodVars_none hV
  obtain ⟨C0, F0, G0, X0, va0, vl0, vc0, ma0, ml0, mc0, bv0, bm0, rfl, w0⟩ := open_oxm (hval 0 25 v0 rfl rfl) h0
  have k0 := h0
  have lt0 : ∀ x ∈ p0, x.block < W.heap.size := by obtain ⟨m, hm⟩ := k0; exact DataW.trod_lt m _ _ _ hm
  obtain ⟨C1, F1, G1, X1, va1, vl1, vc1, ma1, ml1, mc1, bv1, bm1, rfl, w1⟩ := open_oxm (hval 1 25 v1 rfl rfl) h1
  have k1 := h1
  have lt1 : ∀ x ∈ p1, x.block < W.heap.size := by obtain ⟨m, hm⟩ := k1; exact DataW.trod_lt m _ _ _ hm
  obtain ⟨a2, rfl, rfl, rfl, w2⟩ := open_int Try.underlying5 (hval 2 5 v2 rfl rfl) h2
  clear hA0 hval0
  refine (walk C0 F0 G0 X0 va0 vl0 vc0 ma0 ml0 mc0 bv0 bm0 C1 F1 G1 X1 va1 vl1 vc1 ma1 ml1 mc1 bv1 bm1 a2 W w0 w1 w2).mono fun e W' ⟨he, bel⟩ => ?_
  subst he
  exact ⟨_, rfl, _, _, _, [], _, [], hW', trodAll_mk1 (shut_bool Try.underlying4 _), (trodAll_cons_mk (Below.trod laidOut (by kernel_rfl) (of_decide_eq_true (by kernel_rfl)) k0 bel lt0) (trodAll_cons_mk (Below.trod laidOut (by kernel_rfl) (of_decide_eq_true (by kernel_rfl)) k1 bel lt1) (trodAll_cons_mk (shut_int Try.underlying5 w2) trodAll_mk0))), rfl, bel.frame _, fun h => by cases h⟩

theorem over : Rows.oxmCopiesRow.holds Try.pinned (OpenSpec.ofChange Rows.oxmCopiesSpec) :=
  OpenClaim.holds_of_wide 5 Try.f5 rfl rfl rfl rfl rfl rfl rfl ⟨rfl, rfl, rfl, rfl, rfl⟩ rfl rfl rfl rfl rfl (by kernel_rfl) Try.func5 (by kernel_rfl)
    (of_decide_eq_true (by kernel_rfl)) (by unfold Func.isWrapper; first | (rw [if_pos (by decide +kernel)]; kernel_rfl) | (rw [if_neg (by decide +kernel)]; exact ⟨rfl, rfl⟩))
    (fun os started H enc _ => lifted os started H enc)

/-- the statement -/
theorem proved : Rows.OxmCopiesSaid := over
#print axioms proved
end Go.Proofs.Ytfogpofgmnibcaa.oxmCopies
