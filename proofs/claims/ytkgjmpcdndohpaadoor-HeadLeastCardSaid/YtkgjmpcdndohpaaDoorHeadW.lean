/- What the row's condition on the package-level variable gives the walks of package head; a head by value that comes in. -/
import Derived.Test.YtkgjmpcdndohpaaDoorHeadI
import Derived.Test.YtkgjmpcdndohpaaDoorRows
import Derived.Lib.LaidTab
import Derived.OpenShut
import Derived.ProofKit
import Derived.Deep.Slices
import Derived.LaidMore
import Derived.Stop.Joined
namespace Go.Proofs.YtkgjmpcdndohpaaDoor
open Go.ChangeShapes Go.WideShapes Go.RowKit Go.Deep

theorem head_laid_of {W : World} (h : laidMetH Tryd.prog Rows.headTellsRow.laid W) : HeadLaid W := by
  rw [MakeChecks.laidMetH_plain _ _ _ (by kernel_rfl)] at h
  have hT : Lib.TabIs Tryd.prog W (((Rows.headTellsRow.laid).head?.map (·.1)).getD "") .i64 leastT :=
    Lib.tabIs_of_head (t := 64) (e := 3) (g := 0) (n := 30) (k := .i64) (zs := leastT) (by kernel_rfl) (by kernel_rfl) Tryd.underlying64 Tryd.underlying3 (by kernel_rfl) (by kernel_rfl) h
  refine ⟨fun i hi => ?_⟩
  have := hT.cell (g := 0) (by kernel_rfl) i (show i < leastT.length from hi)
  simpa [List.getD_eq_getElem?_getD] using this

/-- The heap that the program's own start leaves meets the condition. -/
theorem head_door_met (os : Os) (args : Array Value) : laidMetH Tryd.prog Rows.headTellsRow.laid ((World.doorLaid Tryd.prog 400 os).forCall (fun _ _ => 0) ⟨#[], args, []⟩).memory :=
  laidMetH_of_parts3 (fuel := 8) (laidMet_of_run' 8 (by kernel_rfl) (by kernel_rfl)) (by kernel_rfl) (by kernel_rfl)

section
variable {H : Type} {enc : TypeId × Value → H} {w : World} {base : Nat} {held : Bool}
set_option maxRecDepth 100000 in
theorem open_head {r : Reach} {b0 : Nat} {v : Value} {d : DataW H} {p : List MemPlace} (hv : Value.okWide Tryd.prog w r b0 24 v) (h : DataW.Trod enc Tryd.prog w base (fun _ => true) held 24 v d p) :
    ∃ (V T L X : Int), v = .agg #[.int .i64 V, .int .i64 T, .int .i64 L, .int .u32 X] ∧ (Lit.int .i64 V).wf = true ∧ (Lit.int .i64 T).wf = true ∧ (Lit.int .i64 L).wf = true ∧ (Lit.int .u32 X).wf = true := by
  obtain ⟨cs, rfl, hsz⟩ := okWide_struct Tryd.underlying24 hv
  have hC : Tryd.prog.cellsOf 24 = 4 := by kernel_rfl
  have hCi : Tryd.prog.cellsOf 3 = 1 := by kernel_rfl
  have hCu : Tryd.prog.cellsOf 22 = 1 := by kernel_rfl
  rw [hC] at hsz
  obtain ⟨cs⟩ := cs
  match cs, hsz with
  | [v0, v1, v2, v3], _ =>
    obtain ⟨fuel, hf⟩ := h
    obtain ⟨ys, n', _, _, hlen, hyl, hg⟩ := DataW.trod_struct Tryd.underlying24 hf
    have get : ∀ j, j < 4 → ∃ y, ys[j]? = some y := fun j hj => ⟨ys[j]'(by rw [hyl]; exact hj), List.getElem?_eq_getElem _⟩
    obtain ⟨y0, e0⟩ := get 0 (by decide)
    obtain ⟨y1, e1⟩ := get 1 (by decide)
    obtain ⟨y2, e2⟩ := get 2 (by decide)
    obtain ⟨y3, e3⟩ := get 3 (by decide)
    have g0 : DataW.trod enc Tryd.prog w base (fun _ => true) held n' 3 [v0] = some y0 := by have h := hg 0 _ rfl; rw [e0] at h; simpa [hCi, Value.cells] using h
    have g1 : DataW.trod enc Tryd.prog w base (fun _ => true) held n' 3 [v1] = some y1 := by have h := hg 1 _ rfl; rw [e1] at h; simpa [hCi, Value.cells] using h
    have g2 : DataW.trod enc Tryd.prog w base (fun _ => true) held n' 3 [v2] = some y2 := by have h := hg 2 _ rfl; rw [e2] at h; simpa [hCi, Value.cells] using h
    have g3 : DataW.trod enc Tryd.prog w base (fun _ => true) held n' 22 [v3] = some y3 := by have h := hg 3 _ rfl; rw [e3] at h; simpa [hCu, Value.cells] using h
    obtain ⟨k0, h0, _, u0⟩ := DataW.trod_int Tryd.underlying3 g0
    obtain ⟨k1, h1, _, u1⟩ := DataW.trod_int Tryd.underlying3 g1
    obtain ⟨k2, h2, _, u2⟩ := DataW.trod_int Tryd.underlying3 g2
    obtain ⟨k3, h3, _, u3⟩ := DataW.trod_int Tryd.underlying22 g3
    simp at h0 h1 h2 h3
    exact ⟨k0, k1, k2, k3, by rw [h0, h1, h2, h3], u0, u1, u2, u3⟩
end
end Go.Proofs.YtkgjmpcdndohpaaDoor
