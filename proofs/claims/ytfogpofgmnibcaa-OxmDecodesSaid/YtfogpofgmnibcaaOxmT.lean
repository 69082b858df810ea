/- Values that came in: a value as an argument. -/
import Derived.Test.YtfogpofgmnibcaaOxmS
import Derived.Test.YtfogpofgmnibcaaMrg1
import Derived.OpenShut
import Derived.ProofKit
import Derived.Deep.Slices
namespace Go.Proofs.Ytfogpofgmnibcaa
open Go.ChangeShapes Go.WideShapes Go.RowKit Go.Deep
set_option linter.unusedVariables false

/-- a value that came in -/
structure OxmIn (w : World) (C F X : Int) (va : Option Addr) (vl vc : Nat) (ma : Option Addr) (ml mc : Nat) (v m : List Int) : Prop where
  c : -9223372036854775808 ≤ C ∧ C ≤ 9223372036854775807
  f : -9223372036854775808 ≤ F ∧ F ≤ 9223372036854775807
  x : 0 ≤ X ∧ X ≤ 18446744073709551615
  lv : vl = v.length
  lm : ml = m.length
  iv : Ints .u8 w va v
  im : Ints .u8 w ma m
  ov : Octets v
  om : Octets m
  cv : v.length ≤ vc ∧ vc ≤ 9223372036854775807
  cm : m.length ≤ mc ∧ mc ≤ 9223372036854775807

section
variable {H : Type} {enc : TypeId × Value → H} {w : World} {base : Nat} {held : Bool}
theorem open_bytes8 {fuel : Nat} {v : Value} {x : DataW H × List MemPlace} (h : DataW.trod enc Try.prog w base (fun _ => true) held fuel 23 [v] = some x) :
    ∃ a n c l, v = .slice a n c ∧ n = l.length ∧ Ints .u8 w a l ∧ Octets l ∧ l.length ≤ c ∧ c ≤ 9223372036854775807 := by
  have hC8 : Try.prog.cellsOf 5 = 1 := by kernel_rfl
  rcases open_ints Try.underlying23 Try.underlying5 hC8 h with ⟨hcs, _⟩ | ⟨p2, l2, cp2, zs, hcs, _, hl2, hm2, hz, _, hcell, hwz⟩
  · simp at hcs
    subst hcs
    exact ⟨none, 0, 0, [], rfl, rfl, Ints.nil _ _ _, fun x hx => by simp at hx, by simp, by simp⟩
  · simp at hcs
    subst hcs
    have hrow : IsRow .u8 w (some p2) l2 cp2 zs := .inr ⟨p2, rfl, hl2, hm2, by simpa using hz, hcell, hwz⟩
    obtain ⟨z, rfl, hz0, hz1, hz2, hz3⟩ := hrow.ints
    exact ⟨some p2, z.length, cp2, z, rfl, rfl, hz2, wf_u8 hz3, hz0, hz1⟩
set_option maxRecDepth 100000 in
theorem open_oxm {r : Reach} {b0 : Nat} {v : Value} {d : DataW H} {p : List MemPlace} (hv : Value.okWide Try.prog w r b0 25 v) (h : DataW.Trod enc Try.prog w base (fun _ => true) held 25 v d p) :
    ∃ (C F : Int) (H : Bool) (X : Int) (va : Option Addr) (vl vc : Nat) (ma : Option Addr) (ml mc : Nat) (x m : List Int), v = .agg #[.int .i64 C, .int .i64 F, .bool H, .int .u64 X, .slice va vl vc, .slice ma ml mc] ∧ OxmIn w C F X va vl vc ma ml mc x m := by
  obtain ⟨cs, rfl, hsz⟩ := okWide_struct Try.underlying25 hv
  have hC : Try.prog.cellsOf 25 = 6 := by kernel_rfl
  have hCi : Try.prog.cellsOf 3 = 1 := by kernel_rfl
  have hCb : Try.prog.cellsOf 4 = 1 := by kernel_rfl
  have hCu : Try.prog.cellsOf 22 = 1 := by kernel_rfl
  have hCs : Try.prog.cellsOf 23 = 1 := by kernel_rfl
  rw [hC] at hsz
  obtain ⟨cs⟩ := cs
  match cs, hsz with
  | [v0, v1, v2, v3, v4, v5], _ =>
    obtain ⟨fuel, hf⟩ := h
    obtain ⟨ys, n', _, _, hlen, hyl, hg⟩ := DataW.trod_struct Try.underlying25 hf
    have get : ∀ j, j < 6 → ∃ y, ys[j]? = some y := fun j hj => ⟨ys[j]'(by rw [hyl]; exact hj), List.getElem?_eq_getElem _⟩
    obtain ⟨y0, e0⟩ := get 0 (by decide)
    obtain ⟨y1, e1⟩ := get 1 (by decide)
    obtain ⟨y2, e2⟩ := get 2 (by decide)
    obtain ⟨y3, e3⟩ := get 3 (by decide)
    obtain ⟨y4, e4⟩ := get 4 (by decide)
    obtain ⟨y5, e5⟩ := get 5 (by decide)
    have g0 : DataW.trod enc Try.prog w base (fun _ => true) held n' 3 [v0] = some y0 := by have h := hg 0 _ rfl; rw [e0] at h; simpa [hCi, Value.cells] using h
    have g1 : DataW.trod enc Try.prog w base (fun _ => true) held n' 3 [v1] = some y1 := by have h := hg 1 _ rfl; rw [e1] at h; simpa [hCi, Value.cells] using h
    have g2 : DataW.trod enc Try.prog w base (fun _ => true) held n' 4 [v2] = some y2 := by have h := hg 2 _ rfl; rw [e2] at h; simpa [hCi, hCb, Value.cells] using h
    have g3 : DataW.trod enc Try.prog w base (fun _ => true) held n' 22 [v3] = some y3 := by have h := hg 3 _ rfl; rw [e3] at h; simpa [hCi, hCb, hCu, Value.cells] using h
    have g4 : DataW.trod enc Try.prog w base (fun _ => true) held n' 23 [v4] = some y4 := by have h := hg 4 _ rfl; rw [e4] at h; simpa [hCi, hCb, hCu, hCs, Value.cells] using h
    have g5 : DataW.trod enc Try.prog w base (fun _ => true) held n' 23 [v5] = some y5 := by have h := hg 5 _ rfl; rw [e5] at h; simpa [hCi, hCb, hCu, hCs, Value.cells] using h
    obtain ⟨k0, h0, _, u0⟩ := DataW.trod_int Try.underlying3 g0
    obtain ⟨k1, h1, _, u1⟩ := DataW.trod_int Try.underlying3 g1
    obtain ⟨k2, h2, _⟩ := DataW.trod_bool Try.underlying4 g2
    obtain ⟨k3, h3, _, u3⟩ := DataW.trod_int Try.underlying22 g3
    obtain ⟨a4, n4, c4, l4, rfl, q4, i4, o4, r4, t4⟩ := open_bytes8 g4
    obtain ⟨a5, n5, c5, l5, rfl, q5, i5, o5, r5, t5⟩ := open_bytes8 g5
    simp at h0 h1 h2 h3
    refine ⟨k0, k1, k2, k3, a4, n4, c4, a5, n5, c5, l4, l5, by rw [h0, h1, h2, h3], ⟨?_, ?_, ?_, q4, q5, i4, i5, o4, o5, ⟨r4, t4⟩, ⟨r5, t5⟩⟩⟩
    · simp [Lit.wf, IntKind.min, IntKind.max, IntKind.bits, IntKind.signed] at u0; omega
    · simp [Lit.wf, IntKind.min, IntKind.max, IntKind.bits, IntKind.signed] at u1; omega
    · simp [Lit.wf, IntKind.min, IntKind.max, IntKind.bits, IntKind.signed] at u3; omega
end
end Go.Proofs.Ytfogpofgmnibcaa
