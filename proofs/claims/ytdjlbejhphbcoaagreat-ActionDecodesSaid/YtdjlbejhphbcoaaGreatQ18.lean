/- Put together out of several texts. -/
import Derived.Test.YtdjlbejhphbcoaaGreatQ15
import Derived.Test.YtdjlbejhphbcoaaGreatQ16
import Derived.Test.YtdjlbejhphbcoaaGreatQ17
import Derived.Test.YtdjlbejhphbcoaaGreatQ13
import Derived.Test.YtdjlbejhphbcoaaGreatQ19
import Derived.Test.YtdjlbejhphbcoaaGreatQ6
import Derived.Deep.RegionHeld3
import Derived.Deep.DeepCutAuto
namespace Go.Proofs.YtdjlbejhphbcoaaGreat
open Go.RowKit
set_option linter.unusedVariables false

set_option maxRecDepth 100000 in
set_option maxHeartbeats 4000000 in
theorem body12_set_A (g : Ent12) (w : World) (hi : ActIn w g) (h25 : g.T = 25) (hA : g.A ≠ 0) :
    Calls Tryz.prog 50 #[g.val] w (BodyPost12 g.act w) := by
  obtain ⟨W, hW, hbW, hx, hy⟩ := act_oxm_box w g.T g.A g.B g.o.C g.o.F g.o.H g.o.X g.va g.o.v.length g.vc g.ma g.o.m.length g.mc g.da g.d.length g.dc
  have HW := hid hW
  have HB := hid hbW
  have HN : Hid (body12 g.act = none) := body_set_no (show g.act.T = 25 from h25) (fun k => hA k.1)
  have gA : (g.A == 0) = false := by simpa using hA
  have HT := hid h25
  clear hi hW hbW h25 hA
  obtain ⟨T, A, B, ⟨C, F, H, X, v, m⟩, va, vc, ma, mc, d, da, dc⟩ := g
  have hT2 : T = 25 := HT.out
  clear HT
  subst hT2
  unfold Ent12.val at *
  simp only at *
  obtain ⟨d0, d1, d2, d3, d4, d5, d6, d7, d8, d9⟩ := hx.ten
  obtain ⟨e0, e1, e2, e3, e4, e5⟩ := hy.six
  obtain ⟨W3, hW3, hbW3, hz⟩ := oxm_box W C F H X va v.length vc ma m.length mc
  have HW3 := hid hW3
  have HC0 := hid (Below.refl W3.heap.size W3)
  have HA0 := hid (below_on HB.out hbW3)
  have hx3 := hx.below hbW3
  clear hW3
  go_enter Tryz.func50, Tryz.ntmps50
  go_upto_region 2 with fail
  rw [HW.out]
  go_upto_region 4 with fail
  rw [HW3.out]
  clear hx hbW3 e0 e1 e2 e3 e4 e5 hy
  have hx := hx3
  clear hx3
  clear d0 d1 d2 d3 d4 d5 d6 d7 d8 d9
  obtain ⟨d0, d1, d2, d3, d4, d5, d6, d7, d8, d9⟩ := hx.ten
  obtain ⟨f0, f1, f2, f3, f4, f5⟩ := hz.six
  go_wp2_with fail
  go_ret2
  exact .inl ⟨HN.out, rfl, HA0.out⟩
set_option maxRecDepth 100000 in
set_option maxHeartbeats 4000000 in
theorem body12_set_B (g : Ent12) (w : World) (hi : ActIn w g) (h25 : g.T = 25) (hA : g.A = 0) (hB : g.B ≠ 0) :
    Calls Tryz.prog 50 #[g.val] w (BodyPost12 g.act w) := by
  obtain ⟨W, hW, hbW, hx, hy⟩ := act_oxm_box w g.T g.A g.B g.o.C g.o.F g.o.H g.o.X g.va g.o.v.length g.vc g.ma g.o.m.length g.mc g.da g.d.length g.dc
  have HW := hid hW
  have HB := hid hbW
  have HN : Hid (body12 g.act = none) := body_set_no (show g.act.T = 25 from h25) (fun k => hB k.2.1)
  have gA : (g.A == 0) = true := by simpa using hA
  have gB : (g.B == 0) = false := by simpa using hB
  have HT := hid h25
  clear hi hW hbW h25 hA hB
  obtain ⟨T, A, B, ⟨C, F, H, X, v, m⟩, va, vc, ma, mc, d, da, dc⟩ := g
  have hT2 : T = 25 := HT.out
  clear HT
  subst hT2
  unfold Ent12.val at *
  simp only at *
  obtain ⟨d0, d1, d2, d3, d4, d5, d6, d7, d8, d9⟩ := hx.ten
  obtain ⟨e0, e1, e2, e3, e4, e5⟩ := hy.six
  obtain ⟨W3, hW3, hbW3, hz⟩ := oxm_box W C F H X va v.length vc ma m.length mc
  have HW3 := hid hW3
  have HC0 := hid (Below.refl W3.heap.size W3)
  have HA0 := hid (below_on HB.out hbW3)
  have hx3 := hx.below hbW3
  clear hW3
  go_enter Tryz.func50, Tryz.ntmps50
  go_upto_region 2 with fail
  rw [HW.out]
  go_upto_region 4 with fail
  rw [HW3.out]
  clear hx hbW3 e0 e1 e2 e3 e4 e5 hy
  have hx := hx3
  clear hx3
  clear d0 d1 d2 d3 d4 d5 d6 d7 d8 d9
  obtain ⟨d0, d1, d2, d3, d4, d5, d6, d7, d8, d9⟩ := hx.ten
  obtain ⟨f0, f1, f2, f3, f4, f5⟩ := hz.six
  go_wp2_with fail
  go_ret2
  exact .inl ⟨HN.out, rfl, HA0.out⟩
set_option maxRecDepth 100000 in
set_option maxHeartbeats 4000000 in
theorem body12_set_d (g : Ent12) (w : World) (hi : ActIn w g) (h25 : g.T = 25) (hA : g.A = 0) (hB : g.B = 0) (hd : g.d ≠ []) :
    Calls Tryz.prog 50 #[g.val] w (BodyPost12 g.act w) := by
  obtain ⟨W, hW, hbW, hx, hy⟩ := act_oxm_box w g.T g.A g.B g.o.C g.o.F g.o.H g.o.X g.va g.o.v.length g.vc g.ma g.o.m.length g.mc g.da g.d.length g.dc
  have HW := hid hW
  have HB := hid hbW
  have HN : Hid (body12 g.act = none) := body_set_no (show g.act.T = 25 from h25) (fun k => hd k.2.2.1)
  have gA : (g.A == 0) = true := by simpa using hA
  have gB : (g.B == 0) = true := by simpa using hB
  have gd : (((g.d.length : Nat) : Int) == 0) = false := by have := List.length_pos_iff.2 hd; simp; omega
  have HT := hid h25
  clear hi hW hbW h25 hA hB hd
  obtain ⟨T, A, B, ⟨C, F, H, X, v, m⟩, va, vc, ma, mc, d, da, dc⟩ := g
  have hT2 : T = 25 := HT.out
  clear HT
  subst hT2
  unfold Ent12.val at *
  simp only at *
  obtain ⟨d0, d1, d2, d3, d4, d5, d6, d7, d8, d9⟩ := hx.ten
  obtain ⟨e0, e1, e2, e3, e4, e5⟩ := hy.six
  obtain ⟨W3, hW3, hbW3, hz⟩ := oxm_box W C F H X va v.length vc ma m.length mc
  have HW3 := hid hW3
  have HC0 := hid (Below.refl W3.heap.size W3)
  have HA0 := hid (below_on HB.out hbW3)
  have hx3 := hx.below hbW3
  clear hW3
  go_enter Tryz.func50, Tryz.ntmps50
  go_upto_region 2 with fail
  rw [HW.out]
  go_upto_region 4 with fail
  rw [HW3.out]
  clear hx hbW3 e0 e1 e2 e3 e4 e5 hy
  have hx := hx3
  clear hx3
  clear d0 d1 d2 d3 d4 d5 d6 d7 d8 d9
  obtain ⟨d0, d1, d2, d3, d4, d5, d6, d7, d8, d9⟩ := hx.ten
  obtain ⟨f0, f1, f2, f3, f4, f5⟩ := hz.six
  go_wp2_with fail
  go_ret2
  exact .inl ⟨HN.out, rfl, HA0.out⟩
set_option maxRecDepth 100000 in
set_option maxHeartbeats 4000000 in
theorem body12_set_C (g : Ent12) (w : World) (hi : ActIn w g) (h25 : g.T = 25) (hA : g.A = 0) (hB : g.B = 0) (hd : g.d = []) (hC : g.o.C ≠ 32768) :
    Calls Tryz.prog 50 #[g.val] w (BodyPost12 g.act w) := by
  obtain ⟨W, hW, hbW, hx, hy⟩ := act_oxm_box w g.T g.A g.B g.o.C g.o.F g.o.H g.o.X g.va g.o.v.length g.vc g.ma g.o.m.length g.mc g.da g.d.length g.dc
  have HW := hid hW
  have HB := hid hbW
  have HN : Hid (body12 g.act = none) := body_set_no (show g.act.T = 25 from h25) (fun k => (by have h4 := k.2.2.2; unfold setOk12 at h4; have e1 : g.act.o = g.o := rfl; rw [e1] at h4; simp only [Bool.and_eq_true, decide_eq_true_eq, Bool.not_eq_true'] at h4; exact hC h4.1.1.1))
  have gA : (g.A == 0) = true := by simpa using hA
  have gB : (g.B == 0) = true := by simpa using hB
  have gd : (((g.d.length : Nat) : Int) == 0) = true := by rw [hd]; rfl
  have gC : (g.o.C == 32768) = false := by simpa using hC
  have HT := hid h25
  clear hi hW hbW h25 hA hB hd hC
  obtain ⟨T, A, B, ⟨C, F, H, X, v, m⟩, va, vc, ma, mc, d, da, dc⟩ := g
  have hT2 : T = 25 := HT.out
  clear HT
  subst hT2
  unfold Ent12.val at *
  simp only at *
  obtain ⟨d0, d1, d2, d3, d4, d5, d6, d7, d8, d9⟩ := hx.ten
  obtain ⟨e0, e1, e2, e3, e4, e5⟩ := hy.six
  obtain ⟨W3, hW3, hbW3, hz⟩ := oxm_box W C F H X va v.length vc ma m.length mc
  have HW3 := hid hW3
  have HC0 := hid (Below.refl W3.heap.size W3)
  have HA0 := hid (below_on HB.out hbW3)
  have hx3 := hx.below hbW3
  clear hW3
  go_enter Tryz.func50, Tryz.ntmps50
  go_upto_region 2 with fail
  rw [HW.out]
  go_upto_region 4 with fail
  rw [HW3.out]
  clear hx hbW3 e0 e1 e2 e3 e4 e5 hy
  have hx := hx3
  clear hx3
  clear d0 d1 d2 d3 d4 d5 d6 d7 d8 d9
  obtain ⟨d0, d1, d2, d3, d4, d5, d6, d7, d8, d9⟩ := hx.ten
  obtain ⟨f0, f1, f2, f3, f4, f5⟩ := hz.six
  go_wp2_with fail
  go_ret2
  exact .inl ⟨HN.out, rfl, HA0.out⟩
set_option maxRecDepth 100000 in
set_option maxHeartbeats 4000000 in
theorem body12_set_H (g : Ent12) (w : World) (hi : ActIn w g) (h25 : g.T = 25) (hA : g.A = 0) (hB : g.B = 0) (hd : g.d = []) (hC : g.o.C = 32768) (hH : g.o.H = true) :
    Calls Tryz.prog 50 #[g.val] w (BodyPost12 g.act w) := by
  obtain ⟨W, hW, hbW, hx, hy⟩ := act_oxm_box w g.T g.A g.B g.o.C g.o.F g.o.H g.o.X g.va g.o.v.length g.vc g.ma g.o.m.length g.mc g.da g.d.length g.dc
  have HW := hid hW
  have HB := hid hbW
  have HN : Hid (body12 g.act = none) := body_set_no (show g.act.T = 25 from h25) (fun k => (by have h4 := k.2.2.2; unfold setOk12 at h4; have e1 : g.act.o = g.o := rfl; rw [e1, hH] at h4; simp at h4))
  have gA : (g.A == 0) = true := by simpa using hA
  have gB : (g.B == 0) = true := by simpa using hB
  have gd : (((g.d.length : Nat) : Int) == 0) = true := by rw [hd]; rfl
  have gC : (g.o.C == 32768) = true := by simpa using hC
  have HT := hid h25
  have HHH := hid hH
  clear hi hW hbW h25 hA hB hd hC hH
  obtain ⟨T, A, B, ⟨C, F, H, X, v, m⟩, va, vc, ma, mc, d, da, dc⟩ := g
  have hT2 : T = 25 := HT.out
  clear HT
  subst hT2
  have hH2 : H = true := HHH.out
  clear HHH
  subst hH2
  unfold Ent12.val at *
  simp only at *
  obtain ⟨d0, d1, d2, d3, d4, d5, d6, d7, d8, d9⟩ := hx.ten
  obtain ⟨e0, e1, e2, e3, e4, e5⟩ := hy.six
  obtain ⟨W3, hW3, hbW3, hz⟩ := oxm_box W C F true X va v.length vc ma m.length mc
  have HW3 := hid hW3
  have HC0 := hid (Below.refl W3.heap.size W3)
  have HA0 := hid (below_on HB.out hbW3)
  have hx3 := hx.below hbW3
  clear hW3
  go_enter Tryz.func50, Tryz.ntmps50
  go_upto_region 2 with fail
  rw [HW.out]
  go_upto_region 4 with fail
  rw [HW3.out]
  clear hx hbW3 e0 e1 e2 e3 e4 e5 hy
  have hx := hx3
  clear hx3
  clear d0 d1 d2 d3 d4 d5 d6 d7 d8 d9
  obtain ⟨d0, d1, d2, d3, d4, d5, d6, d7, d8, d9⟩ := hx.ten
  obtain ⟨f0, f1, f2, f3, f4, f5⟩ := hz.six
  go_wp2_with fail
  go_ret2
  exact .inl ⟨HN.out, rfl, HA0.out⟩
set_option maxRecDepth 100000 in
set_option maxHeartbeats 4000000 in
theorem body12_set_S (g : Ent12) (w : World) (hi : ActIn w g) (h25 : g.T = 25) (hA : g.A = 0) (hB : g.B = 0) (hd : g.d = []) (hC : g.o.C = 32768) (hH : g.o.H = false) (hS : ¬ (2 < g.o.F ∧ g.o.F < 39)) :
    Calls Tryz.prog 50 #[g.val] w (BodyPost12 g.act w) := by
  obtain ⟨W, hW, hbW, hx, hy⟩ := act_oxm_box w g.T g.A g.B g.o.C g.o.F g.o.H g.o.X g.va g.o.v.length g.vc g.ma g.o.m.length g.mc g.da g.d.length g.dc
  have HW := hid hW
  have HB := hid hbW
  have HN : Hid (body12 g.act = none) := body_set_no (show g.act.T = 25 from h25) (fun k => (by have h4 := k.2.2.2; unfold setOk12 at h4; have e1 : g.act.o = g.o := rfl; rw [e1] at h4; simp only [Bool.and_eq_true, decide_eq_true_eq, Bool.not_eq_true'] at h4; exact hS h4.1.2))
  have ST := hid (fun V => fldRefSettable_any g.o.F V)
  rw [decide_eq_false hS] at ST
  have gA : (g.A == 0) = true := by simpa using hA
  have gB : (g.B == 0) = true := by simpa using hB
  have gd : (((g.d.length : Nat) : Int) == 0) = true := by rw [hd]; rfl
  have gC : (g.o.C == 32768) = true := by simpa using hC
  have HT := hid h25
  have HHH := hid hH
  clear hi hW hbW h25 hA hB hd hC hH hS
  obtain ⟨T, A, B, ⟨C, F, H, X, v, m⟩, va, vc, ma, mc, d, da, dc⟩ := g
  have hT2 : T = 25 := HT.out
  clear HT
  subst hT2
  have hH2 : H = false := HHH.out
  clear HHH
  subst hH2
  unfold Ent12.val at *
  simp only at *
  obtain ⟨d0, d1, d2, d3, d4, d5, d6, d7, d8, d9⟩ := hx.ten
  obtain ⟨e0, e1, e2, e3, e4, e5⟩ := hy.six
  obtain ⟨W3, hW3, hbW3, hz⟩ := oxm_box W C F false X va v.length vc ma m.length mc
  have HW3 := hid hW3
  have HC0 := hid (Below.refl W3.heap.size W3)
  have HA0 := hid (below_on HB.out hbW3)
  have hx3 := hx.below hbW3
  clear hW3
  go_enter Tryz.func50, Tryz.ntmps50
  go_upto_region 2 with fail
  rw [HW.out]
  go_upto_region 4 with fail
  rw [HW3.out]
  clear hx hbW3 e0 e1 e2 e3 e4 e5 hy
  have hx := hx3
  clear hx3
  clear d0 d1 d2 d3 d4 d5 d6 d7 d8 d9
  obtain ⟨d0, d1, d2, d3, d4, d5, d6, d7, d8, d9⟩ := hx.ten
  obtain ⟨f0, f1, f2, f3, f4, f5⟩ := hz.six
  go_wp2_with fail
  refine (ST.out _).mono ?_
  rintro e w1 ⟨rfl, hb⟩
  have HA1 := hid (below_on HA0.out hb)
  have HC1 := hid (below_on HC0.out hb)
  clear hb
  clear d0 d1 d2 d3 d4 d5 d6 d7 d8 d9
  clear f0 f1 f2 f3 f4 f5
  obtain ⟨d0, d1, d2, d3, d4, d5, d6, d7, d8, d9⟩ := (hx.below HC1.out).ten
  obtain ⟨f0, f1, f2, f3, f4, f5⟩ := (hz.below HC1.out).six
  go_wp2_with fail
  go_ret2
  exact .inl ⟨HN.out, rfl, HA1.out⟩
set_option maxRecDepth 100000 in
set_option maxHeartbeats 4000000 in
theorem body12_set_R (g : Ent12) (w : World) (hi : ActIn w g) (h25 : g.T = 25) (hA : g.A = 0) (hB : g.B = 0) (hd : g.d = []) (hC : g.o.C = 32768) (hH : g.o.H = false) (hS : 2 < g.o.F ∧ g.o.F < 39) (hR : right10 g.o = false) :
    Calls Tryz.prog 50 #[g.val] w (BodyPost12 g.act w) := by
  obtain ⟨W, hW, hbW, hx, hy⟩ := act_oxm_box w g.T g.A g.B g.o.C g.o.F g.o.H g.o.X g.va g.o.v.length g.vc g.ma g.o.m.length g.mc g.da g.d.length g.dc
  have HW := hid hW
  have HB := hid hbW
  have HN : Hid (body12 g.act = none) := body_set_no (show g.act.T = 25 from h25) (fun k => (by have h4 := k.2.2.2; unfold setOk12 at h4; have e1 : g.act.o = g.o := rfl; rw [e1, hR] at h4; simp at h4))
  have RI := hid (fun V (hV : Below w.heap.size w V) => ref8Right_any g.o.C g.o.F g.o.H g.o.X g.va g.vc g.ma g.mc g.o.v g.o.m hi.lv hi.lm hi.ov hi.om V (hi.iv.below hV) (hi.im.below hV) hi.x.1)
  rw [show rightB g.o.C g.o.F g.o.H g.o.X g.o.v g.o.m = false from hR] at RI
  have ST := hid (fun V => fldRefSettable_any g.o.F V)
  rw [decide_eq_true hS] at ST
  have gA : (g.A == 0) = true := by simpa using hA
  have gB : (g.B == 0) = true := by simpa using hB
  have gd : (((g.d.length : Nat) : Int) == 0) = true := by rw [hd]; rfl
  have gC : (g.o.C == 32768) = true := by simpa using hC
  have HT := hid h25
  have HHH := hid hH
  clear hi hW hbW h25 hA hB hd hC hH hS hR
  obtain ⟨T, A, B, ⟨C, F, H, X, v, m⟩, va, vc, ma, mc, d, da, dc⟩ := g
  have hT2 : T = 25 := HT.out
  clear HT
  subst hT2
  have hH2 : H = false := HHH.out
  clear HHH
  subst hH2
  unfold Ent12.val at *
  simp only at *
  obtain ⟨d0, d1, d2, d3, d4, d5, d6, d7, d8, d9⟩ := hx.ten
  obtain ⟨e0, e1, e2, e3, e4, e5⟩ := hy.six
  obtain ⟨W3, hW3, hbW3, hz⟩ := oxm_box W C F false X va v.length vc ma m.length mc
  have HW3 := hid hW3
  have HC0 := hid (Below.refl W3.heap.size W3)
  have HA0 := hid (below_on HB.out hbW3)
  have hx3 := hx.below hbW3
  clear hW3
  go_enter Tryz.func50, Tryz.ntmps50
  go_upto_region 2 with fail
  rw [HW.out]
  go_upto_region 4 with fail
  rw [HW3.out]
  clear hx hbW3 e0 e1 e2 e3 e4 e5 hy
  have hx := hx3
  clear hx3
  clear d0 d1 d2 d3 d4 d5 d6 d7 d8 d9
  obtain ⟨d0, d1, d2, d3, d4, d5, d6, d7, d8, d9⟩ := hx.ten
  obtain ⟨f0, f1, f2, f3, f4, f5⟩ := hz.six
  go_wp2_with fail
  refine (ST.out _).mono ?_
  rintro e w1 ⟨rfl, hb⟩
  have HA1 := hid (below_on HA0.out hb)
  have HC1 := hid (below_on HC0.out hb)
  clear hb
  clear d0 d1 d2 d3 d4 d5 d6 d7 d8 d9
  clear f0 f1 f2 f3 f4 f5
  obtain ⟨d0, d1, d2, d3, d4, d5, d6, d7, d8, d9⟩ := (hx.below HC1.out).ten
  obtain ⟨f0, f1, f2, f3, f4, f5⟩ := (hz.below HC1.out).six
  go_wp2_with fail
  refine (RI.out _ HA1.out).mono ?_
  rintro e w2 ⟨rfl, hb⟩
  have HA2 := hid (below_on HA1.out hb)
  have HC2 := hid (below_on HC1.out hb)
  clear hb
  clear d0 d1 d2 d3 d4 d5 d6 d7 d8 d9
  clear f0 f1 f2 f3 f4 f5
  obtain ⟨d0, d1, d2, d3, d4, d5, d6, d7, d8, d9⟩ := (hx.below HC2.out).ten
  obtain ⟨f0, f1, f2, f3, f4, f5⟩ := (hz.below HC2.out).six
  go_wp2_with fail
  go_ret2
  exact .inl ⟨HN.out, rfl, HA2.out⟩
set_option maxRecDepth 100000 in
set_option maxHeartbeats 4000000 in
theorem body12_set_ok (g : Ent12) (w : World) (hi : ActIn w g) (h25 : g.T = 25) (hA : g.A = 0) (hB : g.B = 0) (hd : g.d = []) (hC : g.o.C = 32768) (hH : g.o.H = false) (hS : 2 < g.o.F ∧ g.o.F < 39) (hR : right10 g.o = true) :
    Calls Tryz.prog 50 #[g.val] w (BodyPost12 g.act w) := by
  obtain ⟨W, hW, hbW, hx, hy⟩ := act_oxm_box w g.T g.A g.B g.o.C g.o.F g.o.H g.o.X g.va g.o.v.length g.vc g.ma g.o.m.length g.mc g.da g.d.length g.dc
  have HW := hid hW
  have HB := hid hbW
  have hok : setOk12 g.o = true := by unfold setOk12; simp [hC, hH, hS, hR]
  have HN : Hid (body12 g.act = some (bytes10 g.o ++ List.replicate (pad12 (bytes10 g.o).length) 0)) := body_set_yes (show g.act.T = 25 from h25) ⟨hA, hB, hd, hok⟩
  have ft := right_facts hR
  have BY := hid (fun V (hV : Below w.heap.size w V) => ref8Bytes_own g.o.C g.o.F g.o.H g.o.X g.va g.vc g.ma g.mc g.o.v g.o.m hi.lv hi.lm hi.cm hi.ov hi.om V (hi.iv.below hV) (hi.im.below hV) hC ft)
  have hob5 := bytes10_small hR
  obtain ⟨hpad, hpad2⟩ := pad_fits (bytes10 g.o).length
  have RI := hid (fun V (hV : Below w.heap.size w V) => ref8Right_any g.o.C g.o.F g.o.H g.o.X g.va g.vc g.ma g.mc g.o.v g.o.m hi.lv hi.lm hi.ov hi.om V (hi.iv.below hV) (hi.im.below hV) hi.x.1)
  rw [show rightB g.o.C g.o.F g.o.H g.o.X g.o.v g.o.m = true from hR] at RI
  have ST := hid (fun V => fldRefSettable_any g.o.F V)
  rw [decide_eq_true hS] at ST
  have gA : (g.A == 0) = true := by simpa using hA
  have gB : (g.B == 0) = true := by simpa using hB
  have gd : (((g.d.length : Nat) : Int) == 0) = true := by rw [hd]; rfl
  have gC : (g.o.C == 32768) = true := by simpa using hC
  have HT := hid h25
  obtain ⟨ob, hob⟩ : ∃ ob, bytes10 g.o = ob := ⟨_, rfl⟩
  have hob' : oxmBytes g.o.C g.o.F g.o.H g.o.X g.o.v g.o.m = ob := hob
  rw [hob'] at BY
  rw [hob] at HN hpad hpad2 hob5
  obtain ⟨pd, hpd⟩ : ∃ pd, pad12 ob.length = pd := ⟨_, rfl⟩
  rw [hpd] at HN hpad hpad2
  clear hob hob' hpd ft hok
  have HHH := hid hH
  clear hi hW hbW h25 hA hB hd hC hH hS hR
  obtain ⟨T, A, B, ⟨C, F, H, X, v, m⟩, va, vc, ma, mc, d, da, dc⟩ := g
  have hT2 : T = 25 := HT.out
  clear HT
  subst hT2
  have hH2 : H = false := HHH.out
  clear HHH
  subst hH2
  unfold Ent12.val at *
  simp only at *
  obtain ⟨d0, d1, d2, d3, d4, d5, d6, d7, d8, d9⟩ := hx.ten
  obtain ⟨e0, e1, e2, e3, e4, e5⟩ := hy.six
  obtain ⟨W3, hW3, hbW3, hz⟩ := oxm_box W C F false X va v.length vc ma m.length mc
  have HW3 := hid hW3
  have HC0 := hid (Below.refl W3.heap.size W3)
  have HA0 := hid (below_on HB.out hbW3)
  have hx3 := hx.below hbW3
  clear hW3
  go_enter Tryz.func50, Tryz.ntmps50
  go_upto_region 2 with fail
  rw [HW.out]
  go_upto_region 4 with fail
  rw [HW3.out]
  clear hx hbW3 e0 e1 e2 e3 e4 e5 hy
  have hx := hx3
  clear hx3
  clear d0 d1 d2 d3 d4 d5 d6 d7 d8 d9
  obtain ⟨d0, d1, d2, d3, d4, d5, d6, d7, d8, d9⟩ := hx.ten
  obtain ⟨f0, f1, f2, f3, f4, f5⟩ := hz.six
  go_wp2_with fail
  refine (ST.out _).mono ?_
  rintro e w1 ⟨rfl, hb⟩
  have HA1 := hid (below_on HA0.out hb)
  have HC1 := hid (below_on HC0.out hb)
  clear hb
  clear d0 d1 d2 d3 d4 d5 d6 d7 d8 d9
  clear f0 f1 f2 f3 f4 f5
  obtain ⟨d0, d1, d2, d3, d4, d5, d6, d7, d8, d9⟩ := (hx.below HC1.out).ten
  obtain ⟨f0, f1, f2, f3, f4, f5⟩ := (hz.below HC1.out).six
  go_wp2_with fail
  refine (RI.out _ HA1.out).mono ?_
  rintro e w2 ⟨rfl, hb⟩
  have HA2 := hid (below_on HA1.out hb)
  have HC2 := hid (below_on HC1.out hb)
  clear hb
  clear d0 d1 d2 d3 d4 d5 d6 d7 d8 d9
  clear f0 f1 f2 f3 f4 f5
  obtain ⟨d0, d1, d2, d3, d4, d5, d6, d7, d8, d9⟩ := (hx.below HC2.out).ten
  obtain ⟨f0, f1, f2, f3, f4, f5⟩ := (hz.below HC2.out).six
  go_wp2_with fail
  refine (BY.out _ HA2.out).mono ?_
  rintro e w3 ⟨ad, cp, rfl, hF⟩
  have HF := hid hF
  have HPD := hid hpad
  clear hF hpad
  clear d0 d1 d2 d3 d4 d5 d6 d7 d8 d9
  clear f0 f1 f2 f3 f4 f5
  go_wp2_with fail
  go_loopg [7] (pd) (fun kx s7 wr => ∃ (i : Nat) (ad : Option Addr) (cp : Nat) (ys : List Int), s7 = .slice ad ys.length cp ∧ i ≤ pd ∧ pd - i ≤ kx ∧ Hid (ys = ob ++ List.replicate i 0) ∧ Hid (Fresh 5 w2 wr (.slice ad ys.length cp) (ys.map (Value.int .u8))))
  case atStart => exact ⟨0, ad, cp, ob, rfl, by omega, by omega, by show _ = _; simp, HF.out⟩
  case round =>
    obtain ⟨i, ad', cp', ys, rfl, hi, hkx, hys, hF⟩ := hrel
    have hyl : ys.length = ob.length + i := by rw [hys.out]; simp
    by_cases hlt : i < pd
    · obtain ⟨r8, hr8⟩ : ∃ r : Int, ((ys.length : Nat) : Int).tmod 8 = r := ⟨_, rfl⟩
      have gt : (r8 != 4) = true := by
        have h2 := Int.tmod_eq_emod_of_nonneg (a := ((ys.length : Nat) : Int)) (b := 8) (by omega)
        have h3 := HPD.out
        simp
        omega
      have HYL := hid hyl
      have FB := hid (fun o => hF.out.behind (by_none_alloc wr o))
      obtain ⟨zs, hzs⟩ : ∃ zs, ys ++ [0] = zs := ⟨_, rfl⟩
      have HZS := hid hzs
      have HZL : Hid (zs.length ≤ 1000) := by show _ ≤ _; rw [← hzs, List.length_append, hyl]; simp; omega
      have HZI : Hid (zs = ob ++ List.replicate (i + 1) 0) := by show _ = _; rw [← hzs, hys.out, List.replicate_succ']; simp
      clear hyl hys hF hzs
      go_wp2_with (at_builtin; refine wp_app_ints rfl _ _ rfl elemU8 rfl (FB.out _).own rfl (l := [0]) rfl (ints_lit .u8 wr [0] 5) (ys := zs) HZS.out (by have := HZL.out; omega) (by have := HZL.out; omega) ?_; intro a5 c5 w5 hl5 hc5 hI5 hg5; have hF5 := (FB.out _).step hg5)
      go_roundg (pd - (i + 1))
      case measure => omega
      case rel => exact ⟨i + 1, a5, c5, zs, rfl, by omega, Nat.le_refl _, HZI.out, hF5⟩
    · have hie : i = pd := by omega
      have hyx : ys = ob ++ List.replicate pd 0 := by rw [hys.out, hie]
      have gt : ((ys.length : Nat) : Int).tmod 8 = 4 := by
        have h2 := Int.tmod_eq_emod_of_nonneg (a := ((ys.length : Nat) : Int)) (b := 8) (by omega)
        have h3 := HPD.out
        omega
      rw [← hyx] at HN
      obtain ⟨a9, c9, he9, hl9, hc9, hI9⟩ := own_ints hF.out.own
      have he1 : a9 = ad' := by simpa using (congrArg (fun x => match x with | Value.slice a _ _ => a | _ => none) he9).symm
      have HI9 : Hid (Ints .u8 wr ad' ys) := by rw [← he1]; exact hI9
      clear hyl hys hyx hie hlt he9 hl9 hc9 hI9 he1
      go_wp2_with fail
      exact bodyPost_ret (v := .tuple #[.slice ad' ys.length cp', .bool true]) (by simp [results, Tryz.results50, go_sem]) rfl (.inr ⟨ys, ad', cp', HN.out, rfl, below_on HA2.out hF.out.bel, HI9.out⟩)
theorem refBody_any (g : Ent12) (w : World) (hi : ActIn w g) : Calls Tryz.prog 50 #[g.val] w (BodyPost12 g.act w) := by
  by_cases h25 : g.T = 25
  · by_cases hA : g.A = 0
    · by_cases hB : g.B = 0
      · by_cases hd : g.d = []
        · by_cases hC : g.o.C = 32768
          · cases hH : g.o.H with
            | true => exact body12_set_H g w hi h25 hA hB hd hC hH
            | false =>
              by_cases hS : 2 < g.o.F ∧ g.o.F < 39
              · cases hR : right10 g.o with
                | false => exact body12_set_R g w hi h25 hA hB hd hC hH hS hR
                | true => exact body12_set_ok g w hi h25 hA hB hd hC hH hS hR
              · exact body12_set_S g w hi h25 hA hB hd hC hH hS
          · exact body12_set_C g w hi h25 hA hB hd hC
        · exact body12_set_d g w hi h25 hA hB hd
      · exact body12_set_B g w hi h25 hA hB
    · exact body12_set_A g w hi h25 hA
  · cases hr : row12 g.T with
    | none => exact body12_norow g w hi h25 hr
    | some l =>
      by_cases ho : g.o = noOx
      · by_cases has : asked12 g.T g.A = 0
        · by_cases qT : g.T = 65535
          · have hl : l = [4] := by rw [qT] at hr; exact (Option.some.inj hr).symm
            have q2 : countL l < 2 := by rw [hl]; decide
            have q1 : ¬ countL l < 1 := by rw [hl]; decide
            cases hp : putW l (nums12 g.act l) with
            | none => exact body12_c_put g w hi l h25 hr ho has q2 q1 qT hp
            | some p =>
              by_cases hB : g.B = 0
              · by_cases hd8 : g.d.length % 8 = 0
                · by_cases hdl : g.d.length ≤ 65520
                  · exact body12_c_ok g w hi l h25 hr ho has q2 q1 qT p hp hB hd8 hdl
                  · exact body12_c_dl g w hi l h25 hr ho has q2 q1 qT p hp hB hd8 hdl
                · exact body12_c_d8 g w hi l h25 hr ho has q2 q1 qT p hp hB hd8
              · exact body12_c_B g w hi l h25 hr ho has q2 q1 qT p hp hB
          · by_cases q2 : countL l < 2
            · by_cases q1 : countL l < 1
              · cases hp : putW l (nums12 g.act l) with
                | none => exact body12_d_put g w hi l h25 hr ho has q2 q1 qT hp
                | some p =>
                  by_cases hB : g.B = 0
                  · by_cases hA : g.A = 0
                    · by_cases hd0 : g.d = []
                      · exact body12_d_ok g w hi l h25 hr ho has q2 q1 qT p hp hB hA hd0
                      · exact body12_d_d0 g w hi l h25 hr ho has q2 q1 qT p hp hB hA hd0
                    · exact body12_d_A g w hi l h25 hr ho has q2 q1 qT p hp hB hA
                  · exact body12_d_B g w hi l h25 hr ho has q2 q1 qT p hp hB
              · cases hp : putW l (nums12 g.act l) with
                | none => exact body12_b_put g w hi l h25 hr ho has q2 q1 qT hp
                | some p =>
                  by_cases hB : g.B = 0
                  · by_cases hd0 : g.d = []
                    · exact body12_b_ok g w hi l h25 hr ho has q2 q1 qT p hp hB hd0
                    · exact body12_b_d0 g w hi l h25 hr ho has q2 q1 qT p hp hB hd0
                  · exact body12_b_B g w hi l h25 hr ho has q2 q1 qT p hp hB
            · have q1 : ¬ countL l < 1 := by omega
              cases hp : putW l (nums12 g.act l) with
              | none => exact body12_a_put g w hi l h25 hr ho has q2 q1 qT hp
              | some p =>
                by_cases hd0 : g.d = []
                · exact body12_a_ok g w hi l h25 hr ho has q2 q1 qT p hp hd0
                · exact body12_a_d0 g w hi l h25 hr ho has q2 q1 qT p hp hd0
        · exact body12_asked g w hi l h25 hr ho has
      · exact body12_notnone g w hi l h25 hr ho
end Go.Proofs.YtdjlbejhphbcoaaGreat
namespace Go.Proofs.YtdjlbejhphbcoaaGreat
open Go.RowKit
set_option linter.unusedVariables false

/-- what the document's encoding comes to -/
def RefEncPost12 (a : Act12) (w : World) (e : Ending) (w' : World) : Prop :=
  (act12 a = none ∧ e = .returned (.tuple #[.slice none 0 0, .int .i64 10001]) ∧ Below w.heap.size w w') ∨
  (∃ x ad cp, act12 a = some x ∧ e = .returned (.tuple #[.slice ad x.length cp, .int .i64 0]) ∧ Below w.heap.size w w' ∧ Ints .u8 w' ad x)
set_option maxRecDepth 100000 in
set_option maxHeartbeats 4000000 in
theorem refEncode12_any (g : Ent12) (w : World) (hi : ActIn w g) : Calls Tryz.prog 12 #[g.val] w (RefEncPost12 g.act w) := by
  obtain ⟨W, hW, hbW, hx⟩ := act_box w g.T g.A g.B g.o.C g.o.F g.o.H g.o.X g.va g.o.v.length g.vc g.ma g.o.m.length g.mc g.da g.d.length g.dc
  have HW := hid hW
  have HB := hid hbW
  have BO := hid (refBody_any g W (hi.below hbW))
  cases hb : body12 g.act with
  | none =>
    have HN : Hid (act12 g.act = none) := by show _ = _; unfold act12; rw [hb]; rfl
    have HBD := hid hb
    clear hi hW hbW hb
    obtain ⟨T, A, B, ⟨C, F, H, X, v, m⟩, va, vc, ma, mc, d, da, dc⟩ := g
    unfold Ent12.val at *
    simp only at *
    obtain ⟨d0, d1, d2, d3, d4, d5, d6, d7, d8, d9⟩ := hx.ten
    go_enter Tryz.func12, Tryz.ntmps12
    go_wp2_with fail
    rw [HW.out]
    go_wp2_with fail
    refine BO.out.mono ?_
    rintro e w1 (⟨_, rfl, hb1⟩ | ⟨x, _, _, hq, _⟩)
    case inr => rw [HBD.out] at hq; cases hq
    go_wp2_with fail
    go_ret2
    exact .inl ⟨HN.out, rfl, below_on HB.out hb1⟩
  | some x =>
    have hN : act12 g.act = some (bytesL g.T 2 ++ (bytesL ((4 + x.length : Nat) : Int) 2 ++ x)) := by unfold act12; rw [hb]; rfl
    obtain ⟨b', hb', -, -, hl, h8, hm8, hbig, ht0, ht1⟩ := act_write hN
    rw [hb] at hb'
    cases hb'
    have hT : 0 ≤ g.T ∧ g.T < 65536 := ⟨ht0, ht1⟩
    have wT : IntKind.u64.wrap g.T = g.T := by rw [u64_wrap8]; omega
    have hxl : x.length ≤ 65524 := by omega
    have hx64 : (x.length : Int) ≤ 65524 := by omega
    have N1 := fun V => num_any (IntKind.u64.wrap g.T) 2 V (by decide)
    have N2 := fun V (n : Int) (hn : n = ((4 + x.length : Nat) : Int)) => num_any n 2 V (by decide)
    rw [show bytesL (IntKind.u64.wrap g.T) 2 = bytesL g.T 2 by rw [wT]] at N1
    obtain ⟨l1, hl1⟩ : ∃ l, bytesL g.T 2 = l := ⟨_, rfl⟩
    obtain ⟨l2, hl2⟩ : ∃ l, bytesL ((4 + x.length : Nat) : Int) 2 = l := ⟨_, rfl⟩
    have e1 : l1.length = 2 := by rw [← hl1]; exact bytesL_length _ 2
    have e2 : l2.length = 2 := by rw [← hl2]; exact bytesL_length _ 2
    rw [hl1] at N1 hN
    have N2 : ∀ (V : World) (n : Int), n = ((4 + x.length : Nat) : Int) → Calls Tryz.prog 51 #[.int .u64 n, .int .i64 (2 : Nat)] V fun e w' => ∃ v', e = .returned v' ∧ Fresh 5 V w' v' (l2.map (Value.int .u8)) := by
      intro V n hn
      have := num_any n 2 V (by decide)
      rw [hn] at this ⊢
      rw [hl2] at this
      exact this
    rw [hl2] at hN
    obtain ⟨ys, hys⟩ : ∃ ys, l1 ++ l2 = ys := ⟨_, rfl⟩
    obtain ⟨xs, hxs⟩ : ∃ xs, ys ++ x = xs := ⟨_, rfl⟩
    have hxe : l1 ++ (l2 ++ x) = xs := by rw [← hxs, ← hys, List.append_assoc]
    rw [hxe] at hN
    have HN := hid hN
    have HYS := hid hys
    have HXS := hid hxs
    have HYL : Hid (ys.length = 4) := by show _ = _; rw [← hys, List.length_append]; omega
    have HXL : Hid (xs.length ≤ 70000) := by have := HYL.out; show _ ≤ _; rw [← hxs, List.length_append]; omega
    have HE2 := hid e2
    have N1 := hid N1
    have N2 := hid N2
    have HBD := hid hb
    clear hi hW hbW hb hN hl h8 hm8 hbig ht0 ht1 hT wT hl1 hl2 e1 e2 hys hxs hxe hxl
    obtain ⟨T, A, B, ⟨C, F, H, X, v, m⟩, va, vc, ma, mc, d, da, dc⟩ := g
    unfold Ent12.val at *
    simp only at *
    obtain ⟨d0, d1, d2, d3, d4, d5, d6, d7, d8, d9⟩ := hx.ten
    go_enter Tryz.func12, Tryz.ntmps12
    go_wp2_with fail
    rw [HW.out]
    go_wp2_with fail
    refine BO.out.mono ?_
    rintro e w1 (⟨hq, _⟩ | ⟨x', ad, cp, hq, rfl, hb1, hI1⟩)
    · rw [HBD.out] at hq; cases hq
    rw [HBD.out] at hq
    cases hq
    have HA1 := hid (below_on HB.out hb1)
    have I1 := hid hI1
    clear d0 d1 d2 d3 d4 d5 d6 d7 d8 d9
    obtain ⟨d0, d1, d2, d3, d4, d5, d6, d7, d8, d9⟩ := (hx.below hb1).ten
    clear hb1 hI1
    go_wp2_with fail
    refine (N1.out _).mono ?_
    rintro e w2 ⟨v2, rfl, hF2⟩
    have HA2 := hid (below_on HA1.out hF2.bel)
    have I2 := hid (I1.out.below hF2.bel)
    have HF2 := hid hF2
    clear hF2 d0 d1 d2 d3 d4 d5 d6 d7 d8 d9
    go_wp2_with fail
    refine (N2.out _ _ (by first | (rw [u64_wrap8]; omega) | (simp; omega) | omega)).mono ?_
    rintro e w3 ⟨v3, rfl, hF3⟩
    have HA3 := hid (below_on HA2.out hF3.bel)
    have I3 := hid (I2.out.below hF3.bel)
    have F2 := hid (HF2.out.behind (below_by_none hF3.bel))
    obtain ⟨a3, c3, rfl, _, _, hI3⟩ := own_ints hF3.own
    have J3 := hid hI3
    rw [HE2.out]
    clear hF3 hI3
    go_wp2_with (at_builtin; (first
      | (refine wp_app_ints rfl (.tmp 16) (.tmp 21) rfl elemU8 rfl F2.out.own rfl (l := l2) HE2.out.symm J3.out (ys := ys) HYS.out (by have := HYL.out; omega) (by have := HYL.out; omega) ?_; intro a5 c5 w5 hl5 hc5 hI5 hg5; have hF5 := F2.out.step hg5)
      | (refine wp_app_ints rfl (.tmp 22) (.tmp 23) rfl elemU8 rfl hF5.own rfl (l := x) rfl (I1.out.below hF5.bel) (ys := xs) HXS.out (by have := HXL.out; omega) (by have := HXL.out; omega) ?_; intro a6 c6 w6 hl6 hc6 hI6 hg6; have hF6 := hF5.step hg6)
      | fail))
    go_ret2
    exact .inr ⟨xs, a6, c6, HN.out, rfl, below_on HA1.out hF6.bel, hI6⟩
end Go.Proofs.YtdjlbejhphbcoaaGreat
namespace Go.Proofs.YtdjlbejhphbcoaaGreat
open Go.RowKit
set_option linter.unusedVariables false

/-- an error, and some action beside it -/
def Bad12 (q : Int) (e : Ending) : Prop := ∃ (T A B C F : Int) (H : Bool) (X : Int) (va : Option Addr) (vl vc : Nat) (ma : Option Addr) (ml mc : Nat) (da : Option Addr) (dl dc : Nat), e = .returned (.tuple #[.agg #[.int .i64 T, .int .u64 A, .int .u64 B, .int .i64 C, .int .i64 F, .bool H, .int .u64 X, .slice va vl vc, .slice ma ml mc, .slice da dl dc], .int .i64 q])
theorem bad12 {q T A B C F : Int} {H : Bool} {X : Int} {va : Option Addr} {vl vc : Nat} {ma : Option Addr} {ml mc : Nat} {da : Option Addr} {dl dc : Nat} : Bad12 q (.returned (.tuple #[.agg #[.int .i64 T, .int .u64 A, .int .u64 B, .int .i64 C, .int .i64 F, .bool H, .int .u64 X, .slice va vl vc, .slice ma ml mc, .slice da dl dc], .int .i64 q])) := ⟨_, _, _, _, _, _, _, _, _, _, _, _, _, _, _, _, rfl⟩
/-- what reading the field that is set comes to -/
def SetPost12 (R : Except Int Ox9) (w : World) (e : Ending) (w' : World) : Prop :=
  (∃ q, R = .error q ∧ q ≠ 0 ∧ Bad12 q e ∧ Below w.heap.size w w') ∨
  (∃ o a1 k1 a2 k2, R = .ok o ∧ e = .returned (.tuple #[.agg #[.int .i64 25, .int .u64 0, .int .u64 0, .int .i64 o.C, .int .i64 o.F, .bool o.H, .int .u64 o.X, .slice a1 o.v.length k1, .slice a2 o.m.length k2, .slice none 0 0], .int .i64 0]) ∧ Below w.heap.size w w' ∧ Ints .u8 w' a1 o.v ∧ Ints .u8 w' a2 o.m ∧ o.m.length ≤ k2 ∧ New8 w a1 ∧ New8 w a2)
def ox12 (o : Oxm8) : Ox9 := ⟨o.C, o.F, o.H, o.X, o.v, o.m⟩
theorem set12_no {x : List Int} {q : Int} (h : decL x = .error q) : set12 x = .error (if q = 1026 then 527 else if q = 1031 then 526 else 528) := by unfold set12; rw [h]
theorem set12_is {x : List Int} {C F : Int} {H : Bool} {X : Int} {v m : List Int} {n : Nat} (h : decL x = .ok ⟨C, F, H, X, v, m, n⟩) : set12 x = (if C ≠ 32768 ∨ ¬ (2 < F ∧ F < 39) then .error 526 else if H = true then .error 528 else if n + 8 ≤ x.length ∨ x.length < n then .error 527 else if zeros (x.drop n) = false then .error 528 else .ok ⟨C, F, H, X, v, m⟩) := by
  unfold set12
  rw [h]
theorem wset_is (C F : Int) (H : Bool) (X : Int) (v m : List Int) : wset12 ⟨C, F, H, X, v, m⟩ = (if C = 32768 ∧ 2 < F ∧ F < 39 then (if H = false ∧ rightB C F H X v m = true then 0 else 528) else 526) := rfl
theorem set12_bad {x : List Int} {o : Oxm8} (h : decL x = .ok o) (ho : Octets x) (hw : wset12 (ox12 o) ≠ 0) : set12 x = .error (wset12 (ox12 o)) := by
  have hr := (dec_right h ho).1
  obtain ⟨C, F, H, X, v, m, n⟩ := o
  rw [set12_is h]
  have e : wset12 (ox12 ⟨C, F, H, X, v, m, n⟩) = wset12 ⟨C, F, H, X, v, m⟩ := rfl
  rw [e, wset_is] at hw ⊢
  have hr : rightB C F H X v m = true := hr
  by_cases h1 : C = 32768 ∧ 2 < F ∧ F < 39
  · rw [if_pos h1] at hw ⊢
    by_cases h2 : H = false
    · exact absurd (by rw [if_pos ⟨h2, hr⟩]) hw
    · rw [if_neg (fun k => k.elim (fun k => k h1.1) (fun k => k h1.2)), if_pos (by simpa using h2), if_neg (fun k => h2 k.1)]
  · rw [if_neg h1, if_pos (by
      by_cases h3 : C = 32768
      · exact .inr (fun k => h1 ⟨h3, k⟩)
      · exact .inl h3)]
theorem set12_good {x : List Int} {o : Oxm8} (h : decL x = .ok o) (ho : Octets x) (hw : wset12 (ox12 o) = 0) : set12 x = if o.n + 8 ≤ x.length then .error 527 else if zeros (x.drop o.n) = false then .error 528 else .ok (ox12 o) := by
  obtain ⟨hr, hn, -, -⟩ := dec_right h ho
  obtain ⟨C, F, H, X, v, m, n⟩ := o
  rw [set12_is h]
  have e : wset12 (ox12 ⟨C, F, H, X, v, m, n⟩) = wset12 ⟨C, F, H, X, v, m⟩ := rfl
  rw [e, wset_is] at hw
  have hn : n ≤ x.length := hn
  show _ = if n + 8 ≤ x.length then _ else if zeros (x.drop n) = false then _ else _
  by_cases h1 : C = 32768 ∧ 2 < F ∧ F < 39
  · rw [if_pos h1] at hw
    by_cases h2 : H = false ∧ rightB C F H X v m = true
    · rw [if_neg (fun k => k.elim (fun k => k h1.1) (fun k => k h1.2)), if_neg (by simp [h2.1])]
      by_cases h8 : n + 8 ≤ x.length
      · rw [if_pos h8, if_pos (.inl h8)]
      · rw [if_neg h8, if_neg (by omega)]
        rfl
    · rw [if_neg h2] at hw; simp at hw
  · rw [if_neg h1] at hw; simp at hw
theorem getW_zeros12 {l : List Int} {z : Nat} (hl : l.length = z) (h0 : 0 < z) (h8 : z < 8) : getW [-(z : Int)] l = if zeros l then .ok [] else .error 2 := by
  have hr : rightW [-(z : Int)] = true := by simp [rightW, allW, isW]; omega
  have e : (-(z : Int)).natAbs = z := by omega
  rw [getW_yes12 hr]
  simp only [getL, e]
  rw [if_neg (by omega), if_neg (by omega), List.take_of_length_le (by omega)]

set_option maxRecDepth 100000 in
set_option maxHeartbeats 2000000 in
theorem readSet_no (b : List Int) (a : Option Addr) (c : Nat) (hbc : b.length ≤ c) (hc : c ≤ 9223372036854775807) (ho : Octets b) (w : World) (hI : Ints .u8 w a b) (q : Int) (hq : decL b = .error q) :
    Calls Tryz.prog 99 #[.slice a b.length c] w (SetPost12 (set12 b) w) := by
  obtain ⟨W, hW, hbW, hx⟩ := act_box w 0 0 0 0 0 false 0 none 0 0 none 0 0 none 0 0
  have HW := hid hW
  have HB := hid hbW
  have DE := hid (decode8_any b a c hbc hc ho W (hI.below hbW))
  have HS := hid (set12_no hq)
  have HQ := hid hq
  clear hW hbW ho hI hq
  go_enter Tryz.func99, Tryz.ntmps99
  go_wp2_with fail
  rw [HW.out]
  refine DE.out.mono ?_
  rintro e w1 (⟨q', hq', hq0, rfl, hb1⟩ | ⟨o, _, _, _, _, hq', _⟩)
  case inr => rw [HQ.out] at hq'; cases hq'
  rw [HQ.out] at hq'
  cases hq'
  have hx1 := hx.below hb1
  obtain ⟨W2, hW2, hbW2, hy⟩ := oxm_box w1 0 0 false 0 none 0 0 none 0 0
  have HW2 := hid hW2
  have hx2 := hx1.below hbW2
  have HB2 := hid (below_on (below_on HB.out hb1) hbW2)
  have hq1 : (q != 0) = true := by simpa using hq0
  have SE := hid (setError_any q W2)
  have HE : Hid ((if q = 1026 then 527 else if q = 1031 then 526 else 528 : Int) ≠ 0) := by show _ ≠ _; split <;> (try split) <;> decide
  obtain ⟨q2, hq2⟩ : ∃ q2 : Int, (if q = 1026 then 527 else if q = 1031 then 526 else 528) = q2 := ⟨_, rfl⟩
  rw [hq2] at SE HE HS
  clear hq2 hW2 hbW2 hb1 hx hx1 hq0
  go_wp2_with fail
  rw [HW2.out]
  refine SE.out.mono ?_
  rintro e w' ⟨rfl, rfl⟩
  have z := hx2.free
  obtain ⟨d0, d1, d2, d3, d4, d5, d6, d7, d8, d9⟩ :=  hx2.ten
  go_wp2_with fail
  have hkk := hx2.set10 (.int .i64 0) (.int .u64 0) (.int .u64 0) (.int .i64 0) (.int .i64 0) (.bool false) (.int .u64 0) (.slice none 0 0) (.slice none 0 0) (.slice none 0 0)
  obtain ⟨k0, k1, k2, k3, k4, k5, k6, k7, k8, k9⟩ := hkk.ten
  refine bodyPost_ret (v := .tuple #[zero12, .int .i64 q2]) (by simp [results, Tryz.results99, go_sem, zero12, k0, k1, k2, k3, k4, k5, k6, k7, k8, k9]) rfl (.inl ⟨q2, HS.out, HE.out, bad12, ?_⟩)
  repeat (with_reducible refine Below.setCell ?_ (by simp) _)
  exact HB2.out
end Go.Proofs.YtdjlbejhphbcoaaGreat
namespace Go.Proofs.YtdjlbejhphbcoaaGreat
open Go.RowKit
set_option linter.unusedVariables false

set_option maxRecDepth 100000 in
set_option maxHeartbeats 2000000 in
theorem readSet_b_ge (b : List Int) (M off : Nat) (c : Nat) (hbl : b.length ≤ 100000) (hbc : b.length ≤ c) (hc : c ≤ 9223372036854775807) (ho : Octets b) (w : World) (hI : Ints .u8 w (some ⟨M, off, none⟩) b) (o : Oxm8) (hq : decL b = .ok o) (hbad : wset12 (ox12 o) ≠ 0) (hz : o.n + 8 ≤ b.length) (hcn : ¬ c = o.n) :
    Calls Tryz.prog 99 #[.slice (some ⟨M, off, none⟩) b.length c] w (SetPost12 (set12 b) w) := by
  obtain ⟨W, hW, hbW, hx⟩ := act_box w 0 0 0 0 0 false 0 none 0 0 none 0 0 none 0 0
  have HW := hid hW
  have HB := hid hbW
  have DE := hid (decode8_any b _ c hbc hc ho W (hI.below hbW))
  obtain ⟨hr, hn, -, hX0⟩ := dec_right hq ho
  obtain ⟨hov, hom, hlv, hlm, -⟩ := raw_octets (dec_raw hq) ho
  have HS := hid (set12_bad hq ho hbad)
  obtain ⟨ws, hws⟩ : ∃ ws, wset12 (ox12 o) = ws := ⟨_, rfl⟩
  have HWS := hid (fun (V : World) (a1 a2 : Option Addr) (c1 c2 : Nat) (hc2 : o.m.length ≤ c2) (i1 : Ints .u8 V a1 o.v) (i2 : Ints .u8 V a2 o.m) => wrongSet_any (ox12 o) a1 c1 a2 c2 V (show o.v.length ≤ 1000 by omega) (show o.m.length ≤ 1000 by omega) hc2 hov hom i1 i2)
  rw [hws] at HWS
  rw [hws] at HS hbad
  have HQ := hid hq
  have OR := hid (ho.drop o.n)
  have hI0 := hid hI
  obtain ⟨C, F, H, X, v, m, n⟩ := o
  simp only [ox12] at *
  obtain ⟨rest, hrest⟩ : ∃ l, b.drop n = l := ⟨_, rfl⟩
  have hrl : rest.length = b.length - n := by rw [← hrest, List.length_drop]
  rw [hrest] at OR
  have HRE := hid hrest
  have IR : Hid (∀ V : World, Below w.heap.size w V → Ints .u8 V (some ⟨M, off + n, none⟩) rest) := by
    intro V hV
    have := (hI.below hV).drop (j := n) (cap := c) (by omega)
    rw [hrest] at this
    rw [if_neg hcn] at this
    exact this
  have e1 : (0 : Int) ≤ n := by omega
  have e2 : (n : Int) ≤ b.length := by omega
  have e3 : (n : Int) ≤ c := by omega
  clear hW hbW ho hI hq hr hX0 hov hom hws hrest
  go_enter Tryz.func99, Tryz.ntmps99
  go_wp2_with fail
  rw [HW.out]
  refine DE.out.mono ?_
  rintro e w1 (⟨q', hq', _⟩ | ⟨o', a1, c1, a2, c2, hq', rfl, hb1, i1, i2, hmc, hn1, hn2⟩)
  · rw [HQ.out] at hq'; cases hq'
  rw [HQ.out] at hq'
  cases hq'
  simp only at i1 i2 hmc
  have hx1 := hx.below hb1
  obtain ⟨W2, hW2, hbW2, hy⟩ := oxm_box w1 C F H X a1 v.length c1 a2 m.length c2
  have HW2 := hid hW2
  have hx2 := hx1.below hbW2
  have HB2 := hid (below_on (below_on HB.out hb1) hbW2)
  have I1 := hid (i1.below hbW2)
  have I2 := hid (i2.below hbW2)
  have HN1 : Hid (New8 w a1) := fun q hq => by have := hn1 q hq; have := HB.out.size; omega
  have HN2 : Hid (New8 w a2) := fun q hq => by have := hn2 q hq; have := HB.out.size; omega
  have HN1' : Hid (∀ q : Addr, a1 = some q → q.block ≠ w.heap.size) := fun q hq => by have := hn1 q hq; have := hx.lt; omega
  have HN2' : Hid (∀ q : Addr, a2 = some q → q.block ≠ w.heap.size) := fun q hq => by have := hn2 q hq; have := hx.lt; omega
  have HMC := hid hmc
  have hne : w.heap.size ≠ w1.heap.size := by have := hx1.lt; omega
  clear hW2 hbW2 hb1 hx hx1 hn1 hn2 i1 i2 hmc
  go_wp2_with fail
  rw [HW2.out]
  refine (new_lit rest _ _ _ 527 528 W2 (by omega) (by omega) OR.out (IR.out _ HB2.out)).mono ?_
  rintro e w3 ⟨g, rfl, hc3, hb3, hg1, hg2⟩
  have H3 : Hid (CurOn W2 w3 g W2.heap.size rest 0 527 528 0) := ⟨hc3, hb3, by omega, Nat.le_refl _⟩
  clear hc3 hb3 hg1 hg2
  obtain ⟨f0, f1, f2, f3, f4, f5⟩ := (hy.below H3.out.bel).six
  go_wp2_with fail
  refine (HWS.out _ a1 a2 c1 c2 HMC.out (I1.out.below H3.out.bel) (I2.out.below H3.out.bel)).mono ?_
  rintro e w4 ⟨rfl, hb4⟩
  have H4 := hid (H3.out.below hb4)
  clear hb4 f0 f1 f2 f3 f4 f5
  go_wp2_with fail
  refine (H4.out.cur.fail _).mono ?_
  rintro e w5 ⟨rfl, hc5, hb5⟩
  have H5 := hid (H4.out.by hb5 hc5)
  clear hc5 hb5
  go_wp2_with fail
  refine (H5.out.cur.left).mono ?_
  rintro e w' ⟨rfl, rfl⟩
  obtain ⟨z, hz0⟩ : ∃ z, rest.length = z := ⟨_, rfl⟩
  have HZ0 := hid hz0
  rw [hz0] at hrl ⊢
  have z8 : (8 : Int) ≤ z := by omega
  clear hrl hz0
  go_wp2_with fail
  refine (H5.out.cur.fail_late hbad _).mono ?_
  rintro e w' ⟨rfl, rfl⟩
  have hxE := hx2.below H5.out.bel
  have hyE := hy.below H5.out.bel
  have HBE := hid (below_on HB2.out H5.out.bel)
  have I1E := hid (I1.out.below H5.out.bel)
  have I2E := hid (I2.out.below H5.out.bel)
  have n1 : ¬ w1.heap.size = w.heap.size := fun e => hne e.symm
  have n2 : ¬ w.heap.size = w1.heap.size := hne
  have HcD := hid (H5.out.cur.below (below_drew8 _))
  have zf := hxE.free
  obtain ⟨d0, d1, d2, d3, d4, d5, d6, d7, d8, d9⟩ :=  hxE.ten
  obtain ⟨f0, f1, f2, f3, f4, f5⟩ := hyE.six
  go_upto_region 11 with fail
  go_region_held3 (fun w' => w'.cell? ⟨w1.heap.size, 0, none⟩ = some (.int .i64 C) ∧ w'.cell? ⟨w1.heap.size, 1, none⟩ = some (.int .i64 F) ∧ w'.cell? ⟨w1.heap.size, 2, none⟩ = some (.bool H) ∧ w'.cell? ⟨w1.heap.size, 3, none⟩ = some (.int .u64 X) ∧ w'.cell? ⟨w1.heap.size, 4, none⟩ = some (.slice a1 v.length c1) ∧ w'.cell? ⟨w1.heap.size, 5, none⟩ = some (.slice a2 m.length c2)) (go_keep) (first
    | (go_at_call 38; refine HcD.out.err.mono ?_; rintro e w' ⟨rfl, rfl⟩)
    | fail)
  go_wp2_with fail
  have hkk := hxE.set10 (.int .i64 25) (.int .u64 0) (.int .u64 0) (.int .i64 C) (.int .i64 F) (.bool H) (.int .u64 X) (.slice a1 v.length c1) (.slice a2 m.length c2) (.slice none 0 0)
  replace hkk := hkk.drew
  obtain ⟨k0, k1, k2, k3, k4, k5, k6, k7, k8, k9⟩ := hkk.ten
  refine bodyPost_ret (v := .tuple #[.agg #[.int .i64 25, .int .u64 0, .int .u64 0, .int .i64 C, .int .i64 F, .bool H, .int .u64 X, .slice a1 v.length c1, .slice a2 m.length c2, .slice none 0 0], .int .i64 ws]) (by simp [results, Tryz.results99, go_sem, k0, k1, k2, k3, k4, k5, k6, k7, k8, k9]) rfl (.inl ⟨_, HS.out, hbad, bad12, ?_⟩)
  with_reducible refine Below.drew ?_
  repeat (with_reducible refine Below.setCell ?_ (by simp) _)
  exact HBE.out

set_option maxRecDepth 100000 in
set_option maxHeartbeats 2000000 in
theorem readSet_b_mid (b : List Int) (M off : Nat) (c : Nat) (hbl : b.length ≤ 100000) (hbc : b.length ≤ c) (hc : c ≤ 9223372036854775807) (ho : Octets b) (w : World) (hI : Ints .u8 w (some ⟨M, off, none⟩) b) (o : Oxm8) (hq : decL b = .ok o) (hbad : wset12 (ox12 o) ≠ 0) (hz : o.n < b.length ∧ b.length < o.n + 8) (hcn : ¬ c = o.n) :
    Calls Tryz.prog 99 #[.slice (some ⟨M, off, none⟩) b.length c] w (SetPost12 (set12 b) w) := by
  obtain ⟨W, hW, hbW, hx⟩ := act_box w 0 0 0 0 0 false 0 none 0 0 none 0 0 none 0 0
  have HW := hid hW
  have HB := hid hbW
  have DE := hid (decode8_any b _ c hbc hc ho W (hI.below hbW))
  obtain ⟨hr, hn, -, hX0⟩ := dec_right hq ho
  obtain ⟨hov, hom, hlv, hlm, -⟩ := raw_octets (dec_raw hq) ho
  have HS := hid (set12_bad hq ho hbad)
  obtain ⟨ws, hws⟩ : ∃ ws, wset12 (ox12 o) = ws := ⟨_, rfl⟩
  have HWS := hid (fun (V : World) (a1 a2 : Option Addr) (c1 c2 : Nat) (hc2 : o.m.length ≤ c2) (i1 : Ints .u8 V a1 o.v) (i2 : Ints .u8 V a2 o.m) => wrongSet_any (ox12 o) a1 c1 a2 c2 V (show o.v.length ≤ 1000 by omega) (show o.m.length ≤ 1000 by omega) hc2 hov hom i1 i2)
  rw [hws] at HWS
  rw [hws] at HS hbad
  have HQ := hid hq
  have OR := hid (ho.drop o.n)
  have hI0 := hid hI
  obtain ⟨C, F, H, X, v, m, n⟩ := o
  simp only [ox12] at *
  obtain ⟨rest, hrest⟩ : ∃ l, b.drop n = l := ⟨_, rfl⟩
  have hrl : rest.length = b.length - n := by rw [← hrest, List.length_drop]
  rw [hrest] at OR
  have HRE := hid hrest
  have IR : Hid (∀ V : World, Below w.heap.size w V → Ints .u8 V (some ⟨M, off + n, none⟩) rest) := by
    intro V hV
    have := (hI.below hV).drop (j := n) (cap := c) (by omega)
    rw [hrest] at this
    rw [if_neg hcn] at this
    exact this
  have e1 : (0 : Int) ≤ n := by omega
  have e2 : (n : Int) ≤ b.length := by omega
  have e3 : (n : Int) ≤ c := by omega
  clear hW hbW ho hI hq hr hX0 hov hom hws hrest
  go_enter Tryz.func99, Tryz.ntmps99
  go_wp2_with fail
  rw [HW.out]
  refine DE.out.mono ?_
  rintro e w1 (⟨q', hq', _⟩ | ⟨o', a1, c1, a2, c2, hq', rfl, hb1, i1, i2, hmc, hn1, hn2⟩)
  · rw [HQ.out] at hq'; cases hq'
  rw [HQ.out] at hq'
  cases hq'
  simp only at i1 i2 hmc
  have hx1 := hx.below hb1
  obtain ⟨W2, hW2, hbW2, hy⟩ := oxm_box w1 C F H X a1 v.length c1 a2 m.length c2
  have HW2 := hid hW2
  have hx2 := hx1.below hbW2
  have HB2 := hid (below_on (below_on HB.out hb1) hbW2)
  have I1 := hid (i1.below hbW2)
  have I2 := hid (i2.below hbW2)
  have HN1 : Hid (New8 w a1) := fun q hq => by have := hn1 q hq; have := HB.out.size; omega
  have HN2 : Hid (New8 w a2) := fun q hq => by have := hn2 q hq; have := HB.out.size; omega
  have HN1' : Hid (∀ q : Addr, a1 = some q → q.block ≠ w.heap.size) := fun q hq => by have := hn1 q hq; have := hx.lt; omega
  have HN2' : Hid (∀ q : Addr, a2 = some q → q.block ≠ w.heap.size) := fun q hq => by have := hn2 q hq; have := hx.lt; omega
  have HMC := hid hmc
  have hne : w.heap.size ≠ w1.heap.size := by have := hx1.lt; omega
  clear hW2 hbW2 hb1 hx hx1 hn1 hn2 i1 i2 hmc
  go_wp2_with fail
  rw [HW2.out]
  refine (new_lit rest _ _ _ 527 528 W2 (by omega) (by omega) OR.out (IR.out _ HB2.out)).mono ?_
  rintro e w3 ⟨g, rfl, hc3, hb3, hg1, hg2⟩
  have H3 : Hid (CurOn W2 w3 g W2.heap.size rest 0 527 528 0) := ⟨hc3, hb3, by omega, Nat.le_refl _⟩
  clear hc3 hb3 hg1 hg2
  obtain ⟨f0, f1, f2, f3, f4, f5⟩ := (hy.below H3.out.bel).six
  go_wp2_with fail
  refine (HWS.out _ a1 a2 c1 c2 HMC.out (I1.out.below H3.out.bel) (I2.out.below H3.out.bel)).mono ?_
  rintro e w4 ⟨rfl, hb4⟩
  have H4 := hid (H3.out.below hb4)
  clear hb4 f0 f1 f2 f3 f4 f5
  go_wp2_with fail
  refine (H4.out.cur.fail _).mono ?_
  rintro e w5 ⟨rfl, hc5, hb5⟩
  have H5 := hid (H4.out.by hb5 hc5)
  clear hc5 hb5
  go_wp2_with fail
  refine (H5.out.cur.left).mono ?_
  rintro e w' ⟨rfl, rfl⟩
  obtain ⟨z, hz0⟩ : ∃ z, rest.length = z := ⟨_, rfl⟩
  have HZ0 := hid hz0
  rw [hz0] at hrl ⊢
  have z8 : ¬ (8 : Int) ≤ z := by omega
  have z0 : (0 : Int) < z := by omega
  have HZ1 : Hid (0 < z ∧ z < 8) := ⟨by omega, by omega⟩
  clear hrl hz0
  go_wp2_with fail
  have H5a := hid (H5.out.below (below_alloc _ (.cells #[.int .i64 (-(z : Int))] 3)))
  refine (H5a.out.cur.row_late hbad _).mono ?_
  rintro e w' ⟨rfl, rfl⟩
  have hxE := hx2.below H5a.out.bel
  have hyE := hy.below H5a.out.bel
  have HBE := hid (below_on HB2.out H5a.out.bel)
  have I1E := hid (I1.out.below H5a.out.bel)
  have I2E := hid (I2.out.below H5a.out.bel)
  have n1 : ¬ w1.heap.size = w.heap.size := fun e => hne e.symm
  have n2 : ¬ w.heap.size = w1.heap.size := hne
  have HcD := hid (H5a.out.cur.below (below_drew8 _))
  have zf := hxE.free
  obtain ⟨d0, d1, d2, d3, d4, d5, d6, d7, d8, d9⟩ :=  hxE.ten
  obtain ⟨f0, f1, f2, f3, f4, f5⟩ := hyE.six
  go_upto_region 11 with fail
  go_region_held3 (fun w' => w'.cell? ⟨w1.heap.size, 0, none⟩ = some (.int .i64 C) ∧ w'.cell? ⟨w1.heap.size, 1, none⟩ = some (.int .i64 F) ∧ w'.cell? ⟨w1.heap.size, 2, none⟩ = some (.bool H) ∧ w'.cell? ⟨w1.heap.size, 3, none⟩ = some (.int .u64 X) ∧ w'.cell? ⟨w1.heap.size, 4, none⟩ = some (.slice a1 v.length c1) ∧ w'.cell? ⟨w1.heap.size, 5, none⟩ = some (.slice a2 m.length c2)) (go_keep) (first
    | (go_at_call 38; refine HcD.out.err.mono ?_; rintro e w' ⟨rfl, rfl⟩)
    | fail)
  go_wp2_with fail
  have hkk := hxE.set10 (.int .i64 25) (.int .u64 0) (.int .u64 0) (.int .i64 C) (.int .i64 F) (.bool H) (.int .u64 X) (.slice a1 v.length c1) (.slice a2 m.length c2) (.slice none 0 0)
  replace hkk := hkk.drew
  obtain ⟨k0, k1, k2, k3, k4, k5, k6, k7, k8, k9⟩ := hkk.ten
  refine bodyPost_ret (v := .tuple #[.agg #[.int .i64 25, .int .u64 0, .int .u64 0, .int .i64 C, .int .i64 F, .bool H, .int .u64 X, .slice a1 v.length c1, .slice a2 m.length c2, .slice none 0 0], .int .i64 ws]) (by simp [results, Tryz.results99, go_sem, k0, k1, k2, k3, k4, k5, k6, k7, k8, k9]) rfl (.inl ⟨_, HS.out, hbad, bad12, ?_⟩)
  with_reducible refine Below.drew ?_
  repeat (with_reducible refine Below.setCell ?_ (by simp) _)
  exact HBE.out
end Go.Proofs.YtdjlbejhphbcoaaGreat
