/- Put together out of several texts. -/
import Derived.Test.YtdjlbejhphbcoaaGreatR11
import Derived.Test.YtdjlbejhphbcoaaGreatR7
import Derived.Test.YtdjlbejhphbcoaaGreatR1
import Derived.OpenShut
import Derived.ProofKit
import Derived.Deep.Slices
import Derived.Test.YtdjlbejhphbcoaaGreatR25
namespace Go.Proofs.YtdjlbejhphbcoaaGreat
open Go.RowKit
set_option linter.unusedVariables false

/-- an action that came in -/
structure ActArg (w : World) (g : Ent12) : Prop where
  t : -9223372036854775808 ≤ g.T ∧ g.T ≤ 9223372036854775807
  a : 0 ≤ g.A ∧ g.A ≤ 18446744073709551615
  b : 0 ≤ g.B ∧ g.B ≤ 18446744073709551615
  c : -9223372036854775808 ≤ g.o.C ∧ g.o.C ≤ 9223372036854775807
  f : -9223372036854775808 ≤ g.o.F ∧ g.o.F ≤ 9223372036854775807
  x : 0 ≤ g.o.X ∧ g.o.X ≤ 18446744073709551615
  iv : Ints .u8 w g.va g.o.v
  im : Ints .u8 w g.ma g.o.m
  id : Ints .u8 w g.da g.d
  ov : Octets g.o.v
  om : Octets g.o.m
  od : Octets g.d
  cm : g.o.m.length ≤ g.mc
theorem ActArg.few {w : World} {g : Ent12} (h : ActArg w g) (hf : (decide (g.o.v.length ≤ 300 ∧ g.o.m.length ≤ 300) && decide (g.d.length ≤ 500)) = true) : ActIn w g ∧ g.o.v.length ≤ 300 ∧ g.o.m.length ≤ 300 ∧ g.d.length ≤ 500 := by
  simp only [Bool.and_eq_true, decide_eq_true_eq] at hf
  exact ⟨⟨h.t, h.a, h.b, h.c, h.f, h.x, by omega, by omega, by omega, h.iv, h.im, h.id, h.ov, h.om, h.od, h.cm⟩, hf.1.1, hf.1.2, hf.2⟩
end Go.Proofs.YtdjlbejhphbcoaaGreat
namespace Go.Proofs.YtdjlbejhphbcoaaGreat
open Go.ChangeShapes Go.WideShapes Go.RowKit Go.Deep
set_option linter.unusedVariables false

section
variable {H : Type} {enc : TypeId × Value → H} {w : World} {base : Nat} {held : Bool}
set_option maxRecDepth 100000 in
/-- the cells of a value, inside of another thing -/
theorem open_oxm_cells {fuel : Nat} {v0 v1 v2 v3 v4 v5 : Value} {z : DataW H × List MemPlace} (h : DataW.trod enc Tryz.prog w base (fun _ => true) held fuel 25 [v0, v1, v2, v3, v4, v5] = some z) :
    ∃ (C F : Int) (H : Bool) (X : Int) (va : Option Addr) (vl vc : Nat) (ma : Option Addr) (ml mc : Nat) (x m : List Int), [v0, v1, v2, v3, v4, v5] = [.int .i64 C, .int .i64 F, .bool H, .int .u64 X, .slice va vl vc, .slice ma ml mc] ∧ OxmIn w C F X va vl vc ma ml mc x m := by
  have hCi : Tryz.prog.cellsOf 3 = 1 := by kernel_rfl
  have hCb : Tryz.prog.cellsOf 4 = 1 := by kernel_rfl
  have hCu : Tryz.prog.cellsOf 22 = 1 := by kernel_rfl
  have hCs : Tryz.prog.cellsOf 23 = 1 := by kernel_rfl
  obtain ⟨ys, n', _, _, hlen, hyl, hg⟩ := DataW.trod_struct Tryz.underlying25 h
  have get : ∀ j, j < 6 → ∃ y, ys[j]? = some y := fun j hj => ⟨ys[j]'(by rw [hyl]; exact hj), List.getElem?_eq_getElem _⟩
  obtain ⟨y0, e0⟩ := get 0 (by decide)
  obtain ⟨y1, e1⟩ := get 1 (by decide)
  obtain ⟨y2, e2⟩ := get 2 (by decide)
  obtain ⟨y3, e3⟩ := get 3 (by decide)
  obtain ⟨y4, e4⟩ := get 4 (by decide)
  obtain ⟨y5, e5⟩ := get 5 (by decide)
  have g0 : DataW.trod enc Tryz.prog w base (fun _ => true) held n' 3 [v0] = some y0 := by have h := hg 0 _ rfl; rw [e0] at h; simpa [hCi, Value.cells] using h
  have g1 : DataW.trod enc Tryz.prog w base (fun _ => true) held n' 3 [v1] = some y1 := by have h := hg 1 _ rfl; rw [e1] at h; simpa [hCi, Value.cells] using h
  have g2 : DataW.trod enc Tryz.prog w base (fun _ => true) held n' 4 [v2] = some y2 := by have h := hg 2 _ rfl; rw [e2] at h; simpa [hCi, hCb, Value.cells] using h
  have g3 : DataW.trod enc Tryz.prog w base (fun _ => true) held n' 22 [v3] = some y3 := by have h := hg 3 _ rfl; rw [e3] at h; simpa [hCi, hCb, hCu, Value.cells] using h
  have g4 : DataW.trod enc Tryz.prog w base (fun _ => true) held n' 23 [v4] = some y4 := by have h := hg 4 _ rfl; rw [e4] at h; simpa [hCi, hCb, hCu, hCs, Value.cells] using h
  have g5 : DataW.trod enc Tryz.prog w base (fun _ => true) held n' 23 [v5] = some y5 := by have h := hg 5 _ rfl; rw [e5] at h; simpa [hCi, hCb, hCu, hCs, Value.cells] using h
  obtain ⟨k0, h0, _, u0⟩ := DataW.trod_int Tryz.underlying3 g0
  obtain ⟨k1, h1, _, u1⟩ := DataW.trod_int Tryz.underlying3 g1
  obtain ⟨k2, h2, _⟩ := DataW.trod_bool Tryz.underlying4 g2
  obtain ⟨k3, h3, _, u3⟩ := DataW.trod_int Tryz.underlying22 g3
  obtain ⟨a4, n4, c4, l4, rfl, q4, i4, o4, r4, t4⟩ := open_bytes8 g4
  obtain ⟨a5, n5, c5, l5, rfl, q5, i5, o5, r5, t5⟩ := open_bytes8 g5
  simp at h0 h1 h2 h3
  refine ⟨k0, k1, k2, k3, a4, n4, c4, a5, n5, c5, l4, l5, by rw [h0, h1, h2, h3], ⟨?_, ?_, ?_, q4, q5, i4, i5, o4, o5, ⟨r4, t4⟩, ⟨r5, t5⟩⟩⟩
  · simp [Lit.wf, IntKind.min, IntKind.max, IntKind.bits, IntKind.signed] at u0; omega
  · simp [Lit.wf, IntKind.min, IntKind.max, IntKind.bits, IntKind.signed] at u1; omega
  · simp [Lit.wf, IntKind.min, IntKind.max, IntKind.bits, IntKind.signed] at u3; omega
end
end Go.Proofs.YtdjlbejhphbcoaaGreat
namespace Go.Proofs.YtdjlbejhphbcoaaGreat
open Go.RowKit
set_option linter.unusedVariables false

/-- a copy -/
def CopyPost12 (g : Ent12) (w : World) (e : Ending) (w' : World) : Prop :=
  ∃ p q s, e = .returned (.agg #[.int .i64 g.T, .int .u64 g.A, .int .u64 g.B, .int .i64 g.o.C, .int .i64 g.o.F, .bool g.o.H, .int .u64 g.o.X, .slice (some ⟨p, 0, none⟩) g.o.v.length g.o.v.length, .slice (some ⟨q, 0, none⟩) g.o.m.length g.o.m.length, .slice (some ⟨s, 0, none⟩) g.d.length g.d.length]) ∧ Below w.heap.size w w' ∧
    Fresh 5 w w' (.slice (some ⟨p, 0, none⟩) g.o.v.length g.o.v.length) (g.o.v.map (Value.int .u8)) ∧ Fresh 5 w w' (.slice (some ⟨q, 0, none⟩) g.o.m.length g.o.m.length) (g.o.m.map (Value.int .u8)) ∧ Fresh 5 w w' (.slice (some ⟨s, 0, none⟩) g.d.length g.d.length) (g.d.map (Value.int .u8)) ∧ s < p ∧ p < q ∧ w.heap.size ≤ s
set_option maxRecDepth 100000 in
set_option maxHeartbeats 2000000 in
theorem actCopy_any (g : Ent12) (w : World) (hi : ActIn w g) : Calls Tryz.prog 73 #[g.val] w (CopyPost12 g w) := by
  obtain ⟨W, hW, hbW, hx, hy⟩ := two_act w g.T g.A g.B g.o.C g.o.F g.o.H g.o.X g.va g.o.v.length g.vc g.ma g.o.m.length g.mc g.da g.d.length g.dc 0 0 0 0 0 false 0 none 0 0 none 0 0 none 0 0
  have HW := hid hW
  have HB := hid hbW
  have ID := hid (hi.id.below hbW)
  have ld := hi.ld
  have CP := hid (fun (n : Wk W) => copy8_any g.o.C g.o.F g.o.H g.o.X g.va g.vc g.ma g.mc g.o.v g.o.m hi.lv hi.lm n.val ((hi.iv.below HB.out).below n.bel) ((hi.im.below HB.out).below n.bel))
  clear hi hW hbW
  obtain ⟨T, A, B, ⟨C, F, H, X, v, m⟩, va, vc, ma, mc, d, da, dc⟩ := g
  simp only at *
  unfold Ent12.val
  simp only
  obtain ⟨d0, d1, d2, d3, d4, d5, d6, d7, d8, d9⟩ := hx.ten
  have sW : w.heap.size + 1 < W.heap.size := hy.lt
  go_enter Tryz.func73, Tryz.ntmps73
  go_upto_region 1 with fail
  rw [HW.out]
  go_wp2_with (first
    | (at_make; refine wp_make rfl _ _ rfl elemU8 rfl rfl rfl rfl (Nat.le_refl _) (by omega) (by omega) ?_; intro w1 hf; obtain ⟨e0, e1, e2, e3, e4, e5, e6, e7, e8, e9⟩ := (hx.below hf.bel).ten)
    | (with_reducible refine wp_copy_all rfl (.tmp 8) (.tmp 10) rfl elemU8 rfl rfl (List.length_replicate ..) hf rfl (ID.out.below hf.bel) ?_; intro w2 hf2; obtain ⟨f0, f1, f2, f3, f4, f5, f6, f7, f8, f9⟩ := (hx.below hf2.bel).ten))
  refine (CP.out ⟨_, hf2.bel⟩).mono ?_
  rintro e w3 ⟨p, q, rfl, hb3, hfp, hfq, hpq, hp⟩
  replace hp : w2.heap.size ≤ p := hp
  replace hb3 : Below w2.heap.size w2 w3 := hb3
  replace hfp : Fresh 5 w2 w3 (.slice (some ⟨p, 0, none⟩) v.length v.length) (v.map (Value.int .u8)) := hfp
  replace hfq : Fresh 5 w2 w3 (.slice (some ⟨q, 0, none⟩) m.length m.length) (m.map (Value.int .u8)) := hfq
  have hx3 := (hx.below hf2.bel).below hb3
  have hy3 := (hy.below hf2.bel).below hb3
  have hs3 := hid (hf2.behind (below_by_none hb3))
  have HF2 := hid hf2
  have sp : W.heap.size < p := by have := own_lt8 hf2; omega
  have HFP := hid hfp
  have HFQ := hid hfq
  have HB3 := hid hb3
  clear d0 d1 d2 d3 d4 d5 d6 d7 d8 d9 e0 e1 e2 e3 e4 e5 e6 e7 e8 e9 f0 f1 f2 f3 f4 f5 f6 f7 f8 f9 hf hf2 hx hy hb3 hfp hfq
  obtain ⟨d0, d1, d2, d3, d4, d5, d6, d7, d8, d9⟩ := hx3.ten
  have zx := hx3.free
  go_upto_region 4 with fail
  have n1 : ¬ w.heap.size = w.heap.size + 1 := by omega
  have n2 : ¬ w.heap.size + 1 = w.heap.size := by omega
  have hX := ((((((hx3.set 3 (.int .i64 C) (by simp)).set 4 (.int .i64 F) (by simp)).set 5 (.bool H) (by simp)).set 6 (.int .u64 X) (by simp)).set 7 (.slice (some ⟨p, 0, none⟩) v.length v.length) (by simp)).set 8 (.slice (some ⟨q, 0, none⟩) m.length m.length) (by simp)).set 9 (.slice (some ⟨W.heap.size, 0, none⟩) d.length d.length) (by simp)
  have hY := ((((((hy3.far (c := w.heap.size) (i := 3) (.int .i64 C) n1).far (c := w.heap.size) (i := 4) (.int .i64 F) n1).far (c := w.heap.size) (i := 5) (.bool H) n1).far (c := w.heap.size) (i := 6) (.int .u64 X) n1).far (c := w.heap.size) (i := 7) (.slice (some ⟨p, 0, none⟩) v.length v.length) n1).far (c := w.heap.size) (i := 8) (.slice (some ⟨q, 0, none⟩) m.length m.length) n1).far (c := w.heap.size) (i := 9) (.slice (some ⟨W.heap.size, 0, none⟩) d.length d.length) n1
  have hbS : Hid (Below w3.heap.size w3 w3) := Below.refl _ _
  clear d0 d1 d2 d3 d4 d5 d6 d7 d8 d9 zx hx3 hy3
  obtain ⟨d0, d1, d2, d3, d4, d5, d6, d7, d8, d9⟩ := hX.ten
  obtain ⟨e0, e1, e2, e3, e4, e5, e6, e7, e8, e9⟩ := hY.ten
  have zY := hY.free
  go_wp2_with fail
  have hk := hY.set10 (.int .i64 T) (.int .u64 A) (.int .u64 B) (.int .i64 C) (.int .i64 F) (.bool H) (.int .u64 X) (.slice (some ⟨p, 0, none⟩) v.length v.length) (.slice (some ⟨q, 0, none⟩) m.length m.length) (.slice (some ⟨W.heap.size, 0, none⟩) d.length d.length)
  obtain ⟨k0, k1, k2, k3, k4, k5, k6, k7, k8, k9⟩ := hk.ten
  refine bodyPost_ret (v := .agg #[.int .i64 T, .int .u64 A, .int .u64 B, .int .i64 C, .int .i64 F, .bool H, .int .u64 X, .slice (some ⟨p, 0, none⟩) v.length v.length, .slice (some ⟨q, 0, none⟩) m.length m.length, .slice (some ⟨W.heap.size, 0, none⟩) d.length d.length]) (by simp [results, Tryz.results73, go_sem, k0, k1, k2, k3, k4, k5, k6, k7, k8, k9]) rfl ⟨p, q, W.heap.size, rfl, ?_, ?_, ?_, ?_, sp, hpq, by omega⟩
  · repeat (with_reducible refine Below.setCell ?_ (by simp) _)
    exact below_on HB.out (below_on HF2.out.bel HB3.out)
  · repeat (refine Fresh.turn ?_ (by_setCell _ _ _ _) (by simp [Value.ownBlock]; omega) (by omega))
    exact Fresh.made (below_by_none (below_on HB.out HF2.out.bel)) HFP.out
  · repeat (refine Fresh.turn ?_ (by_setCell _ _ _ _) (by simp [Value.ownBlock]; omega) (by omega))
    exact Fresh.made (below_by_none (below_on HB.out HF2.out.bel)) HFQ.out
  · repeat (refine Fresh.turn ?_ (by_setCell _ _ _ _) (by simp [Value.ownBlock]; omega) (by omega))
    exact (Fresh.made (below_by_none HB.out) HF2.out).behind (below_by_none HB3.out)
end Go.Proofs.YtdjlbejhphbcoaaGreat
