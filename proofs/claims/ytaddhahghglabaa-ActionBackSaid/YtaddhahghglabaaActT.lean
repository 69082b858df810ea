/- Actions that came in: an action as an argument. -/
import Derived.Test.YtaddhahghglabaaActR
import Derived.Test.YtaddhahghglabaaMrg1
import Derived.OpenShut
import Derived.ProofKit
import Derived.Deep.Slices
namespace Go.Proofs.Ytaddhahghglabaa
open Go.ChangeShapes Go.WideShapes Go.RowKit Go.Deep
set_option linter.unusedVariables false

section
variable {H : Type} {enc : TypeId × Value → H} {w : World} {base : Nat} {held : Bool}
set_option maxRecDepth 100000 in
/-- the cells of a value, inside of another thing -/
theorem open_oxm_cells {fuel : Nat} {v0 v1 v2 v3 v4 v5 : Value} {z : DataW H × List MemPlace} (h : DataW.trod enc Try.prog w base (fun _ => true) held fuel 25 [v0, v1, v2, v3, v4, v5] = some z) :
    ∃ (C F : Int) (H : Bool) (X : Int) (va : Option Addr) (vl vc : Nat) (ma : Option Addr) (ml mc : Nat) (x m : List Int), [v0, v1, v2, v3, v4, v5] = [.int .i64 C, .int .i64 F, .bool H, .int .u64 X, .slice va vl vc, .slice ma ml mc] ∧ OxmIn w C F X va vl vc ma ml mc x m := by
  have hCi : Try.prog.cellsOf 3 = 1 := by kernel_rfl
  have hCb : Try.prog.cellsOf 4 = 1 := by kernel_rfl
  have hCu : Try.prog.cellsOf 22 = 1 := by kernel_rfl
  have hCs : Try.prog.cellsOf 23 = 1 := by kernel_rfl
  obtain ⟨ys, n', _, _, hlen, hyl, hg⟩ := DataW.trod_struct Try.underlying25 h
  have get : ∀ j, j < 6 → ∃ y, ys[j]? = some y := fun j hj => ⟨ys[j]'(by rw [hyl]; exact hj), List.getElem?_eq_getElem _⟩
  obtain ⟨y0, e0⟩ := get 0 (by decide)
  obtain ⟨y1, e1⟩ := get 1 (by decide)
  obtain ⟨y2, e2⟩ := get 2 (by decide)
  obtain ⟨y3, e3⟩ := get 3 (by decide)
  obtain ⟨y4, e4⟩ := get 4 (by decide)
  obtain ⟨y5, e5⟩ := get 5 (by decide)
  have g0 : DataW.trod enc Try.prog w base (fun _ => true) held n' 3 [v0] = some y0 := by have h := hg 0 _ rfl; rw [e0] at h; simpa [hCi, Value.cells] using h
  have g1 : DataW.trod enc Try.prog w base (fun _ => true) held n' 3 [v1] = some y1 := by have h := hg 1 _ rfl; rw [e1] at h; simpa [hCi, Value.cells] using h
  have g2 : DataW.trod enc Try.prog w base (fun _ => true) held n' 4 [v2] = some y2 := by have h := hg 2 _ rfl; rw [e2] at h; simpa [hCi, hCb, Value.cells] using h
  have g3 : DataW.trod enc Try.prog w base (fun _ => true) held n' 22 [v3] = some y3 := by have h := hg 3 _ rfl; rw [e3] at h; simpa [hCi, hCb, hCu, Value.cells] using h
  have g4 : DataW.trod enc Try.prog w base (fun _ => true) held n' 23 [v4] = some y4 := by have h := hg 4 _ rfl; rw [e4] at h; simpa [hCi, hCb, hCu, hCs, Value.cells] using h
  have g5 : DataW.trod enc Try.prog w base (fun _ => true) held n' 23 [v5] = some y5 := by have h := hg 5 _ rfl; rw [e5] at h; simpa [hCi, hCb, hCu, hCs, Value.cells] using h
  obtain ⟨k0, h0, _, u0⟩ := DataW.trod_int Try.underlying3 g0
  obtain ⟨k1, h1, _, u1⟩ := DataW.trod_int Try.underlying3 g1
  obtain ⟨k2, h2, _⟩ := DataW.trod_bool Try.underlying4 g2
  obtain ⟨k3, h3, _, u3⟩ := DataW.trod_int Try.underlying22 g3
  obtain ⟨a4, n4, c4, l4, rfl, q4, i4, o4, r4, t4⟩ := open_bytes8 g4
  obtain ⟨a5, n5, c5, l5, rfl, q5, i5, o5, r5, t5⟩ := open_bytes8 g5
  simp at h0 h1 h2 h3
  refine ⟨k0, k1, k2, k3, a4, n4, c4, a5, n5, c5, l4, l5, by rw [h0, h1, h2, h3], ⟨?_, ?_, ?_, q4, q5, i4, i5, o4, o5, ⟨r4, t4⟩, ⟨r5, t5⟩⟩⟩
  · simp [Lit.wf, IntKind.min, IntKind.max, IntKind.bits, IntKind.signed] at u0; omega
  · simp [Lit.wf, IntKind.min, IntKind.max, IntKind.bits, IntKind.signed] at u1; omega
  · simp [Lit.wf, IntKind.min, IntKind.max, IntKind.bits, IntKind.signed] at u3; omega
set_option maxRecDepth 100000 in
theorem open_act {r : Reach} {b0 : Nat} {v : Value} {d : DataW H} {p : List MemPlace} (hv : Value.okWide Try.prog w r b0 27 v) (h : DataW.Trod enc Try.prog w base (fun _ => true) held 27 v d p) :
    ∃ g : Ent12, v = g.val ∧ ActArg w g := by
  obtain ⟨cs, rfl, hsz⟩ := okWide_struct Try.underlying27 hv
  have hC : Try.prog.cellsOf 27 = 10 := by kernel_rfl
  have hCi : Try.prog.cellsOf 3 = 1 := by kernel_rfl
  have hCu : Try.prog.cellsOf 22 = 1 := by kernel_rfl
  have hCo : Try.prog.cellsOf 25 = 6 := by kernel_rfl
  have hCs : Try.prog.cellsOf 23 = 1 := by kernel_rfl
  rw [hC] at hsz
  obtain ⟨cs⟩ := cs
  match cs, hsz with
  | [v0, v1, v2, v3, v4, v5, v6, v7, v8, v9], _ =>
    obtain ⟨fuel, hf⟩ := h
    obtain ⟨ys, n', _, _, hlen, hyl, hg⟩ := DataW.trod_struct Try.underlying27 hf
    have get : ∀ j, j < 5 → ∃ y, ys[j]? = some y := fun j hj => ⟨ys[j]'(by rw [hyl]; exact hj), List.getElem?_eq_getElem _⟩
    obtain ⟨y0, e0⟩ := get 0 (by decide)
    obtain ⟨y1, e1⟩ := get 1 (by decide)
    obtain ⟨y2, e2⟩ := get 2 (by decide)
    obtain ⟨y3, e3⟩ := get 3 (by decide)
    obtain ⟨y4, e4⟩ := get 4 (by decide)
    have g0 : DataW.trod enc Try.prog w base (fun _ => true) held n' 3 [v0] = some y0 := by have h := hg 0 _ rfl; rw [e0] at h; simpa [hCi, Value.cells] using h
    have g1 : DataW.trod enc Try.prog w base (fun _ => true) held n' 22 [v1] = some y1 := by have h := hg 1 _ rfl; rw [e1] at h; simpa [hCi, hCu, Value.cells] using h
    have g2 : DataW.trod enc Try.prog w base (fun _ => true) held n' 22 [v2] = some y2 := by have h := hg 2 _ rfl; rw [e2] at h; simpa [hCi, hCu, Value.cells] using h
    have g3 : DataW.trod enc Try.prog w base (fun _ => true) held n' 25 [v3, v4, v5, v6, v7, v8] = some y3 := by have h := hg 3 _ rfl; rw [e3] at h; simpa [hCi, hCu, hCo, Value.cells] using h
    have g4 : DataW.trod enc Try.prog w base (fun _ => true) held n' 23 [v9] = some y4 := by have h := hg 4 _ rfl; rw [e4] at h; simpa [hCi, hCu, hCo, hCs, Value.cells] using h
    obtain ⟨k0, h0, _, u0⟩ := DataW.trod_int Try.underlying3 g0
    obtain ⟨k1, h1, _, u1⟩ := DataW.trod_int Try.underlying22 g1
    obtain ⟨k2, h2, _, u2⟩ := DataW.trod_int Try.underlying22 g2
    obtain ⟨C, F, G, X, va, vl, vc, ma, ml, mc, bv, bm, he, hin⟩ := open_oxm_cells g3
    obtain ⟨da, n9, dc, bd, rfl, q9, i9, o9, r9, t9⟩ := open_bytes8 g4
    simp at h0 h1 h2 he
    obtain ⟨rfl, rfl, rfl, rfl, rfl, rfl⟩ := he
    obtain ⟨hc, hf2, hx, rfl, rfl, iv, im, ov, om, cv, cm⟩ := hin
    subst q9
    refine ⟨⟨k0, k1, k2, ⟨C, F, G, X, bv, bm⟩, va, vc, ma, mc, bd, da, dc⟩, by rw [h0, h1, h2]; rfl, ⟨?_, ?_, ?_, hc, hf2, hx, iv, im, i9, ov, om, o9, cm.1⟩⟩
    · simp [Lit.wf, IntKind.min, IntKind.max, IntKind.bits, IntKind.signed] at u0; show _ ≤ k0 ∧ k0 ≤ _; omega
    · simp [Lit.wf, IntKind.min, IntKind.max, IntKind.bits, IntKind.signed] at u1; show _ ≤ k1 ∧ k1 ≤ _; omega
    · simp [Lit.wf, IntKind.min, IntKind.max, IntKind.bits, IntKind.signed] at u2; show _ ≤ k2 ∧ k2 ≤ _; omega
end
end Go.Proofs.Ytaddhahghglabaa
