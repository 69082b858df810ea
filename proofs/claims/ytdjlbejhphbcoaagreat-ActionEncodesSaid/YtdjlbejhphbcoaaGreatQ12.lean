/- Put together out of several texts. -/
import Derived.Test.YtdjlbejhphbcoaaGreatQ11
import Derived.Test.YtdjlbejhphbcoaaGreatQ6
import Derived.Test.YtdjlbejhphbcoaaGreatQ1
import Derived.OpenShut
import Derived.ProofKit
import Derived.Deep.Slices
import Derived.Test.YtdjlbejhphbcoaaGreatQ18
import Derived.Test.YtdjlbejhphbcoaaGreatQ23
namespace Go.Proofs.YtdjlbejhphbcoaaGreat
open Go.RowKit
set_option linter.unusedVariables false

/-- an action that came in -/
structure ActArg (w : World) (g : Ent12) : Prop where
  t : -9223372036854775808 ≤ g.T ∧ g.T ≤ 9223372036854775807
  a : 0 ≤ g.A ∧ g.A ≤ 18446744073709551615
  b : 0 ≤ g.B ∧ g.B ≤ 18446744073709551615
  c : -9223372036854775808 ≤ g.o.C ∧ g.o.C ≤ 9223372036854775807
  f : -9223372036854775808 ≤ g.o.F ∧ g.o.F ≤ 9223372036854775807
  x : 0 ≤ g.o.X ∧ g.o.X ≤ 18446744073709551615
  iv : Ints .u8 w g.va g.o.v
  im : Ints .u8 w g.ma g.o.m
  id : Ints .u8 w g.da g.d
  ov : Octets g.o.v
  om : Octets g.o.m
  od : Octets g.d
  cm : g.o.m.length ≤ g.mc
theorem ActArg.few {w : World} {g : Ent12} (h : ActArg w g) (hf : (decide (g.o.v.length ≤ 300 ∧ g.o.m.length ≤ 300) && decide (g.d.length ≤ 500)) = true) : ActIn w g ∧ g.o.v.length ≤ 300 ∧ g.o.m.length ≤ 300 ∧ g.d.length ≤ 500 := by
  simp only [Bool.and_eq_true, decide_eq_true_eq] at hf
  exact ⟨⟨h.t, h.a, h.b, h.c, h.f, h.x, by omega, by omega, by omega, h.iv, h.im, h.id, h.ov, h.om, h.od, h.cm⟩, hf.1.1, hf.1.2, hf.2⟩
end Go.Proofs.YtdjlbejhphbcoaaGreat
namespace Go.Proofs.YtdjlbejhphbcoaaGreat
open Go.ChangeShapes Go.WideShapes Go.RowKit Go.Deep
set_option linter.unusedVariables false

section
variable {H : Type} {enc : TypeId × Value → H} {w : World} {base : Nat} {held : Bool}
set_option maxRecDepth 100000 in
/-- the cells of a value, inside of another thing -/
theorem open_oxm_cells {fuel : Nat} {v0 v1 v2 v3 v4 v5 : Value} {z : DataW H × List MemPlace} (h : DataW.trod enc Tryz.prog w base (fun _ => true) held fuel 25 [v0, v1, v2, v3, v4, v5] = some z) :
    ∃ (C F : Int) (H : Bool) (X : Int) (va : Option Addr) (vl vc : Nat) (ma : Option Addr) (ml mc : Nat) (x m : List Int), [v0, v1, v2, v3, v4, v5] = [.int .i64 C, .int .i64 F, .bool H, .int .u64 X, .slice va vl vc, .slice ma ml mc] ∧ OxmIn w C F X va vl vc ma ml mc x m := by
  have hCi : Tryz.prog.cellsOf 3 = 1 := by kernel_rfl
  have hCb : Tryz.prog.cellsOf 4 = 1 := by kernel_rfl
  have hCu : Tryz.prog.cellsOf 22 = 1 := by kernel_rfl
  have hCs : Tryz.prog.cellsOf 23 = 1 := by kernel_rfl
  obtain ⟨ys, n', _, _, hlen, hyl, hg⟩ := DataW.trod_struct Tryz.underlying25 h
  have get : ∀ j, j < 6 → ∃ y, ys[j]? = some y := fun j hj => ⟨ys[j]'(by rw [hyl]; exact hj), List.getElem?_eq_getElem _⟩
  obtain ⟨y0, e0⟩ := get 0 (by decide)
  obtain ⟨y1, e1⟩ := get 1 (by decide)
  obtain ⟨y2, e2⟩ := get 2 (by decide)
  obtain ⟨y3, e3⟩ := get 3 (by decide)
  obtain ⟨y4, e4⟩ := get 4 (by decide)
  obtain ⟨y5, e5⟩ := get 5 (by decide)
  have g0 : DataW.trod enc Tryz.prog w base (fun _ => true) held n' 3 [v0] = some y0 := by have h := hg 0 _ rfl; rw [e0] at h; simpa [hCi, Value.cells] using h
  have g1 : DataW.trod enc Tryz.prog w base (fun _ => true) held n' 3 [v1] = some y1 := by have h := hg 1 _ rfl; rw [e1] at h; simpa [hCi, Value.cells] using h
  have g2 : DataW.trod enc Tryz.prog w base (fun _ => true) held n' 4 [v2] = some y2 := by have h := hg 2 _ rfl; rw [e2] at h; simpa [hCi, hCb, Value.cells] using h
  have g3 : DataW.trod enc Tryz.prog w base (fun _ => true) held n' 22 [v3] = some y3 := by have h := hg 3 _ rfl; rw [e3] at h; simpa [hCi, hCb, hCu, Value.cells] using h
  have g4 : DataW.trod enc Tryz.prog w base (fun _ => true) held n' 23 [v4] = some y4 := by have h := hg 4 _ rfl; rw [e4] at h; simpa [hCi, hCb, hCu, hCs, Value.cells] using h
  have g5 : DataW.trod enc Tryz.prog w base (fun _ => true) held n' 23 [v5] = some y5 := by have h := hg 5 _ rfl; rw [e5] at h; simpa [hCi, hCb, hCu, hCs, Value.cells] using h
  obtain ⟨k0, h0, _, u0⟩ := DataW.trod_int Tryz.underlying3 g0
  obtain ⟨k1, h1, _, u1⟩ := DataW.trod_int Tryz.underlying3 g1
  obtain ⟨k2, h2, _⟩ := DataW.trod_bool Tryz.underlying4 g2
  obtain ⟨k3, h3, _, u3⟩ := DataW.trod_int Tryz.underlying22 g3
  obtain ⟨a4, n4, c4, l4, rfl, q4, i4, o4, r4, t4⟩ := open_bytes8 g4
  obtain ⟨a5, n5, c5, l5, rfl, q5, i5, o5, r5, t5⟩ := open_bytes8 g5
  simp at h0 h1 h2 h3
  refine ⟨k0, k1, k2, k3, a4, n4, c4, a5, n5, c5, l4, l5, by rw [h0, h1, h2, h3], ⟨?_, ?_, ?_, q4, q5, i4, i5, o4, o5, ⟨r4, t4⟩, ⟨r5, t5⟩⟩⟩
  · simp [Lit.wf, IntKind.min, IntKind.max, IntKind.bits, IntKind.signed] at u0; omega
  · simp [Lit.wf, IntKind.min, IntKind.max, IntKind.bits, IntKind.signed] at u1; omega
  · simp [Lit.wf, IntKind.min, IntKind.max, IntKind.bits, IntKind.signed] at u3; omega
set_option maxRecDepth 100000 in
theorem open_act {r : Reach} {b0 : Nat} {v : Value} {d : DataW H} {p : List MemPlace} (hv : Value.okWide Tryz.prog w r b0 27 v) (h : DataW.Trod enc Tryz.prog w base (fun _ => true) held 27 v d p) :
    ∃ g : Ent12, v = g.val ∧ ActArg w g := by
  obtain ⟨cs, rfl, hsz⟩ := okWide_struct Tryz.underlying27 hv
  have hC : Tryz.prog.cellsOf 27 = 10 := by kernel_rfl
  have hCi : Tryz.prog.cellsOf 3 = 1 := by kernel_rfl
  have hCu : Tryz.prog.cellsOf 22 = 1 := by kernel_rfl
  have hCo : Tryz.prog.cellsOf 25 = 6 := by kernel_rfl
  have hCs : Tryz.prog.cellsOf 23 = 1 := by kernel_rfl
  rw [hC] at hsz
  obtain ⟨cs⟩ := cs
  match cs, hsz with
  | [v0, v1, v2, v3, v4, v5, v6, v7, v8, v9], _ =>
    obtain ⟨fuel, hf⟩ := h
    obtain ⟨ys, n', _, _, hlen, hyl, hg⟩ := DataW.trod_struct Tryz.underlying27 hf
    have get : ∀ j, j < 5 → ∃ y, ys[j]? = some y := fun j hj => ⟨ys[j]'(by rw [hyl]; exact hj), List.getElem?_eq_getElem _⟩
    obtain ⟨y0, e0⟩ := get 0 (by decide)
    obtain ⟨y1, e1⟩ := get 1 (by decide)
    obtain ⟨y2, e2⟩ := get 2 (by decide)
    obtain ⟨y3, e3⟩ := get 3 (by decide)
    obtain ⟨y4, e4⟩ := get 4 (by decide)
    have g0 : DataW.trod enc Tryz.prog w base (fun _ => true) held n' 3 [v0] = some y0 := by have h := hg 0 _ rfl; rw [e0] at h; simpa [hCi, Value.cells] using h
    have g1 : DataW.trod enc Tryz.prog w base (fun _ => true) held n' 22 [v1] = some y1 := by have h := hg 1 _ rfl; rw [e1] at h; simpa [hCi, hCu, Value.cells] using h
    have g2 : DataW.trod enc Tryz.prog w base (fun _ => true) held n' 22 [v2] = some y2 := by have h := hg 2 _ rfl; rw [e2] at h; simpa [hCi, hCu, Value.cells] using h
    have g3 : DataW.trod enc Tryz.prog w base (fun _ => true) held n' 25 [v3, v4, v5, v6, v7, v8] = some y3 := by have h := hg 3 _ rfl; rw [e3] at h; simpa [hCi, hCu, hCo, Value.cells] using h
    have g4 : DataW.trod enc Tryz.prog w base (fun _ => true) held n' 23 [v9] = some y4 := by have h := hg 4 _ rfl; rw [e4] at h; simpa [hCi, hCu, hCo, hCs, Value.cells] using h
    obtain ⟨k0, h0, _, u0⟩ := DataW.trod_int Tryz.underlying3 g0
    obtain ⟨k1, h1, _, u1⟩ := DataW.trod_int Tryz.underlying22 g1
    obtain ⟨k2, h2, _, u2⟩ := DataW.trod_int Tryz.underlying22 g2
    obtain ⟨C, F, G, X, va, vl, vc, ma, ml, mc, bv, bm, he, hin⟩ := open_oxm_cells g3
    obtain ⟨da, n9, dc, bd, rfl, q9, i9, o9, r9, t9⟩ := open_bytes8 g4
    simp at h0 h1 h2 he
    obtain ⟨rfl, rfl, rfl, rfl, rfl, rfl⟩ := he
    obtain ⟨hc, hf2, hx, rfl, rfl, iv, im, ov, om, cv, cm⟩ := hin
    subst q9
    refine ⟨⟨k0, k1, k2, ⟨C, F, G, X, bv, bm⟩, va, vc, ma, mc, bd, da, dc⟩, by rw [h0, h1, h2]; rfl, ⟨?_, ?_, ?_, hc, hf2, hx, iv, im, i9, ov, om, o9, cm.1⟩⟩
    · simp [Lit.wf, IntKind.min, IntKind.max, IntKind.bits, IntKind.signed] at u0; show _ ≤ k0 ∧ k0 ≤ _; omega
    · simp [Lit.wf, IntKind.min, IntKind.max, IntKind.bits, IntKind.signed] at u1; show _ ≤ k1 ∧ k1 ≤ _; omega
    · simp [Lit.wf, IntKind.min, IntKind.max, IntKind.bits, IntKind.signed] at u2; show _ ≤ k2 ∧ k2 ≤ _; omega
end
end Go.Proofs.YtdjlbejhphbcoaaGreat
namespace Go.Proofs.YtdjlbejhphbcoaaGreat
open Go.RowKit
set_option linter.unusedVariables false

set_option maxRecDepth 100000 in
set_option maxHeartbeats 4000000 in
theorem ActionEncodes_no (g : Ent12) (hv : g.o.v.length ≤ 300) (hm : g.o.m.length ≤ 300) (hd : g.d.length ≤ 500) (w : World) (hi : ActIn w g) (he : act12 g.act = none) :
    Calls Tryz.prog 3 #[g.val] w fun e w' => e = .returned (.bool true) ∧ Below w.heap.size w w' := by
  obtain ⟨W, hW, hbW, hx⟩ := act_box w g.T g.A g.B g.o.C g.o.F g.o.H g.o.X g.va g.o.v.length g.vc g.ma g.o.m.length g.mc g.da g.d.length g.dc
  have HW := hid hW
  have HB := hid hbW
  have F1 := fun V => actFew_any g.T g.A g.B g.o.C g.o.F g.o.H g.o.X g.va g.o.v.length g.vc g.ma g.o.m.length g.mc g.da g.d.length g.dc V
  rw [decide_eq_true (show g.o.v.length ≤ 300 ∧ g.o.m.length ≤ 300 from ⟨hv, hm⟩), decide_eq_true hd] at F1
  rw [Bool.true_and] at F1
  have F1 := hid F1
  have EN := hid (fun V (hV : Below w.heap.size w V) => actEncode_any g V (hi.below hV))
  have EF := hid (fun V (hV : Below w.heap.size w V) => refEncode12_any g V (hi.below hV))
  have RI := hid (fun V (hV : Below w.heap.size w V) => actRight_any g V (hi.below hV))
  have SZ := hid (fun V (hV : Below w.heap.size w V) => actSizeS_any g V (hi.below hV))
  have HE := hid he
  have hr : right12 g = false := by rw [right_act g hi.ld, he]; rfl
  have hsz : sizeS12 g = 0 := by unfold sizeS12; rw [hr]; rfl
  rw [hr] at RI
  rw [hsz] at SZ
  clear hi hW hbW hv hm hd he hr hsz
  obtain ⟨T, A, B, ⟨C, F, H, X, v, m⟩, va, vc, ma, mc, d, da, dc⟩ := g
  unfold Ent12.val at *
  simp only at *
  obtain ⟨d0, d1, d2, d3, d4, d5, d6, d7, d8, d9⟩ := hx.ten
  go_enter Tryz.func3, Tryz.ntmps3
  go_wp2_with fail
  rw [HW.out]
  go_wp2_with fail
  refine (F1.out _).mono ?_
  rintro e w1 ⟨rfl, hb⟩
  have HA1 := hid (below_on HB.out hb)
  have hx1 := hx.below hb
  clear hb hx
  clear d0 d1 d2 d3 d4 d5 d6 d7 d8 d9
  obtain ⟨d0, d1, d2, d3, d4, d5, d6, d7, d8, d9⟩ := hx1.ten
  go_wp2_with fail
  refine (EN.out _ HA1.out).mono ?_
  rintro e w2 (⟨_, rfl, hb⟩ | ⟨_, _, hq, _⟩)
  case inr => rw [HE.out] at hq; cases hq
  have HA2 := hid (below_on HA1.out hb)
  have hx2 := hx1.below hb
  clear hb hx1
  clear d0 d1 d2 d3 d4 d5 d6 d7 d8 d9
  obtain ⟨d0, d1, d2, d3, d4, d5, d6, d7, d8, d9⟩ := hx2.ten
  go_wp2_with fail
  refine (EF.out _ HA2.out).mono ?_
  rintro e w3 (⟨_, rfl, hb⟩ | ⟨_, _, _, hq, _⟩)
  case inr =>
    have hq2 := HE.out
    rw [show act12 _ = some _ from hq] at hq2; cases hq2
  have HA3 := hid (below_on HA2.out hb)
  have hx3 := hx2.below hb
  clear hb hx2
  clear d0 d1 d2 d3 d4 d5 d6 d7 d8 d9
  obtain ⟨d0, d1, d2, d3, d4, d5, d6, d7, d8, d9⟩ := hx3.ten
  go_wp2_with fail
  refine (RI.out _ HA3.out).mono ?_
  rintro e w4 ⟨rfl, hb⟩
  have HA4 := hid (below_on HA3.out hb)
  have hx4 := hx3.below hb
  clear hb hx3
  clear d0 d1 d2 d3 d4 d5 d6 d7 d8 d9
  obtain ⟨d0, d1, d2, d3, d4, d5, d6, d7, d8, d9⟩ := hx4.ten
  go_wp2_with fail
  refine (SZ.out _ HA4.out).mono ?_
  rintro e w5 ⟨rfl, hb⟩
  have HA5 := hid (below_on HA4.out hb)
  have BY := hid (bytes8_any [] [] none none 0 0 0 0 rfl rfl w5 (by decide) (by decide) (Ints.nil _ _ _) (Ints.nil _ _ _))
  rw [rfl_beq8z] at BY
  clear hb hx4
  clear d0 d1 d2 d3 d4 d5 d6 d7 d8 d9
  go_wp2_with fail
  refine BY.out.mono ?_
  rintro e w6 ⟨rfl, hb⟩
  have HA6 := hid (below_on HA5.out hb)
  clear hb
  go_wp2_with fail
  refine (sure12_any _).mono ?_
  rintro e w9 ⟨rfl, hb9⟩
  go_wp2_with fail
  go_ret
  exact ⟨rfl, below_on HA6.out hb9⟩
set_option maxRecDepth 100000 in
set_option maxHeartbeats 4000000 in
theorem ActionEncodes_yes (g : Ent12) (hv : g.o.v.length ≤ 300) (hm : g.o.m.length ≤ 300) (hd : g.d.length ≤ 500) (w : World) (hi : ActIn w g) (xs : List Int) (he : act12 g.act = some xs) :
    Calls Tryz.prog 3 #[g.val] w fun e w' => e = .returned (.bool true) ∧ Below w.heap.size w w' := by
  obtain ⟨W, hW, hbW, hx⟩ := act_box w g.T g.A g.B g.o.C g.o.F g.o.H g.o.X g.va g.o.v.length g.vc g.ma g.o.m.length g.mc g.da g.d.length g.dc
  have HW := hid hW
  have HB := hid hbW
  have F1 := fun V => actFew_any g.T g.A g.B g.o.C g.o.F g.o.H g.o.X g.va g.o.v.length g.vc g.ma g.o.m.length g.mc g.da g.d.length g.dc V
  rw [decide_eq_true (show g.o.v.length ≤ 300 ∧ g.o.m.length ≤ 300 from ⟨hv, hm⟩), decide_eq_true hd] at F1
  rw [Bool.true_and] at F1
  have F1 := hid F1
  have EN := hid (fun V (hV : Below w.heap.size w V) => actEncode_any g V (hi.below hV))
  have EF := hid (fun V (hV : Below w.heap.size w V) => refEncode12_any g V (hi.below hV))
  have RI := hid (fun V (hV : Below w.heap.size w V) => actRight_any g V (hi.below hV))
  have SZ := hid (fun V (hV : Below w.heap.size w V) => actSizeS_any g V (hi.below hV))
  have HE := hid he
  have hr : right12 g = true := by rw [right_act g hi.ld, he]; rfl
  have hsz : sizeS12 g = xs.length := by unfold sizeS12; rw [hr]; exact size_act he
  rw [hr] at RI
  rw [hsz] at SZ
  obtain ⟨_, -, -, -, -, -, -, hbig, -, -⟩ := act_write he
  have HBIG : Hid (xs.length ≤ 70000) := Nat.le_trans hbig (by decide)
  clear hbig
  clear hi hW hbW hv hm hd he hr hsz
  obtain ⟨T, A, B, ⟨C, F, H, X, v, m⟩, va, vc, ma, mc, d, da, dc⟩ := g
  unfold Ent12.val at *
  simp only at *
  obtain ⟨d0, d1, d2, d3, d4, d5, d6, d7, d8, d9⟩ := hx.ten
  go_enter Tryz.func3, Tryz.ntmps3
  go_wp2_with fail
  rw [HW.out]
  go_wp2_with fail
  refine (F1.out _).mono ?_
  rintro e w1 ⟨rfl, hb⟩
  have HA1 := hid (below_on HB.out hb)
  have hx1 := hx.below hb
  clear hb hx
  clear d0 d1 d2 d3 d4 d5 d6 d7 d8 d9
  obtain ⟨d0, d1, d2, d3, d4, d5, d6, d7, d8, d9⟩ := hx1.ten
  go_wp2_with fail
  refine (EN.out _ HA1.out).mono ?_
  rintro e w2 (⟨hq, _⟩ | ⟨xs', p, hq, rfl, hb, hI2, _⟩)
  · rw [HE.out] at hq; cases hq
  rw [HE.out] at hq
  cases hq
  have I2 := hid hI2
  clear hI2
  have HA2 := hid (below_on HA1.out hb)
  have hx2 := hx1.below hb
  clear hb hx1
  clear d0 d1 d2 d3 d4 d5 d6 d7 d8 d9
  obtain ⟨d0, d1, d2, d3, d4, d5, d6, d7, d8, d9⟩ := hx2.ten
  go_wp2_with fail
  refine (EF.out _ HA2.out).mono ?_
  rintro e w3 (⟨hq, _⟩ | ⟨xs', ad, cp, hq, rfl, hb, hI3⟩)
  · have hq2 := HE.out
    rw [show act12 _ = none from hq] at hq2; cases hq2
  have hq2 := HE.out
  rw [show act12 _ = some _ from hq] at hq2
  obtain rfl : xs' = xs := by injection hq2
  have I3 := hid (I2.out.below hb)
  have J3 := hid hI3
  clear hI3 hq2
  have HA3 := hid (below_on HA2.out hb)
  have hx3 := hx2.below hb
  clear hb hx2
  clear d0 d1 d2 d3 d4 d5 d6 d7 d8 d9
  obtain ⟨d0, d1, d2, d3, d4, d5, d6, d7, d8, d9⟩ := hx3.ten
  go_wp2_with fail
  refine (RI.out _ HA3.out).mono ?_
  rintro e w4 ⟨rfl, hb⟩
  have HA4 := hid (below_on HA3.out hb)
  have hx4 := hx3.below hb
  have I4 := hid (I3.out.below hb)
  have J4 := hid (J3.out.below hb)
  clear hb hx3
  clear d0 d1 d2 d3 d4 d5 d6 d7 d8 d9
  obtain ⟨d0, d1, d2, d3, d4, d5, d6, d7, d8, d9⟩ := hx4.ten
  go_wp2_with fail
  refine (SZ.out _ HA4.out).mono ?_
  rintro e w5 ⟨rfl, hb⟩
  have HA5 := hid (below_on HA4.out hb)
  have BY := hid (bytes8_any xs' xs' (some ⟨p, 0, none⟩) ad xs'.length xs'.length xs'.length cp rfl rfl w5 (by have := HBIG.out; omega) (by have := HBIG.out; omega) (I4.out.below hb) (J4.out.below hb))
  rw [rfl_beq8z] at BY
  clear hb hx4
  clear d0 d1 d2 d3 d4 d5 d6 d7 d8 d9
  go_wp2_with fail
  refine BY.out.mono ?_
  rintro e w6 ⟨rfl, hb⟩
  have HA6 := hid (below_on HA5.out hb)
  clear hb
  go_wp2_with fail
  refine (sure12_any _).mono ?_
  rintro e w9 ⟨rfl, hb9⟩
  go_wp2_with fail
  go_ret
  exact ⟨rfl, below_on HA6.out hb9⟩
set_option maxRecDepth 100000 in
set_option maxHeartbeats 2000000 in
theorem ActionEncodes_many (T A B C F : Int) (H : Bool) (X : Int) (va : Option Addr) (vl vc : Nat) (ma : Option Addr) (ml mc : Nat) (da : Option Addr) (dl dc : Nat) (h1 : (decide (vl ≤ 300 ∧ ml ≤ 300) && decide (dl ≤ 500)) = false) (w : World) :
    Calls Tryz.prog 3 #[.agg #[.int .i64 T, .int .u64 A, .int .u64 B, .int .i64 C, .int .i64 F, .bool H, .int .u64 X, .slice va vl vc, .slice ma ml mc, .slice da dl dc]] w fun e w' => e = .returned (.bool true) ∧ Below w.heap.size w w' := by
  obtain ⟨W, hW, hbW, hx⟩ := act_box w T A B C F H X va vl vc ma ml mc da dl dc
  have HW := hid hW
  have HB := hid hbW
  have F1 := fun V => actFew_any T A B C F H X va vl vc ma ml mc da dl dc V
  rw [h1] at F1
  have F1 := hid F1
  obtain ⟨d0, d1, d2, d3, d4, d5, d6, d7, d8, d9⟩ := hx.ten
  clear hW hbW h1
  go_enter Tryz.func3, Tryz.ntmps3
  go_wp2_with fail
  rw [HW.out]
  go_wp2_with fail
  refine (F1.out _).mono ?_
  rintro e w1 ⟨rfl, hb⟩
  have HA := hid (below_on HB.out hb)
  clear hb
  go_wp2_with fail
  refine (sure12_any _).mono ?_
  rintro e w9 ⟨rfl, hb9⟩
  go_wp2_with fail
  go_ret
  exact ⟨rfl, below_on HA.out hb9⟩
theorem ActionEncodes_walk (g : Ent12) (w : World) (h1 : ActArg w g) :
    Calls Tryz.prog 3 #[g.val] w fun e w' => e = .returned (.bool true) ∧ Below w.heap.size w w' := by
  cases hf : (decide (g.o.v.length ≤ 300 ∧ g.o.m.length ≤ 300) && decide (g.d.length ≤ 500)) with
  | false => exact ActionEncodes_many _ _ _ _ _ _ _ _ _ _ _ _ _ _ _ _ hf w
  | true =>
    obtain ⟨i1, a1, a2, a3⟩ := h1.few hf
    cases he : act12 g.act with
    | none => exact ActionEncodes_no g a1 a2 a3 w i1 he
    | some xs => exact ActionEncodes_yes g a1 a2 a3 w i1 xs he
end Go.Proofs.YtdjlbejhphbcoaaGreat
