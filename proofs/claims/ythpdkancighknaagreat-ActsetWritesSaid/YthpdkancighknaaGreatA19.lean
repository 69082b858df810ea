/- Put together out of several texts. -/
import Derived.Test.YthpdkancighknaaGreatA17
import Derived.Test.YthpdkancighknaaGreatA18
import Derived.Test.YthpdkancighknaaGreatA12
import Derived.Test.YthpdkancighknaaGreatA22
import Derived.Test.YthpdkancighknaaGreatA3
import Derived.Deep.RegionHeld3
import Derived.Deep.DeepCutAuto
import Derived.Test.YthpdkancighknaaGreatA9
import Derived.Test.YthpdkancighknaaGreatA10
namespace Go.Proofs.YthpdkancighknaaGreat
open Go.RowKit
set_option linter.unusedVariables false
set_option maxRecDepth 100000 in
set_option maxHeartbeats 4000000 in
theorem body12_set_A (g:Ent12) (w:World) (hi:ActIn w g) (h25:g.T=25) (hA:g.A≠0):
 Calls Tryz.prog 48 #[g.val] w (BodyPost12 g.act w):=by
 obtain⟨W,hW,hbW,hx,hy⟩:=act_oxm_box w g.T g.A g.B g.o.C g.o.F g.o.H g.o.X g.va g.o.v.length g.vc g.ma g.o.m.length g.mc g.da g.d.length g.dc
 have HW:=hid hW
 have HB:=hid hbW
 have HN:Hid (body12 g.act=none):=body_set_no (show g.act.T=25 from h25) (fun k=>hA k.1)
 have gA:(g.A==0)=false:=by simpa using hA
 have HT:=hid h25
 clear hi hW hbW h25 hA
 obtain⟨T,A,B,⟨C,F,H,X,v,m⟩,va,vc,ma,mc,d,da,dc⟩:=g
 have hT2:T=25:=HT.out
 clear HT
 subst hT2
 unfold Ent12.val at *
 simp only at *
 obtain⟨d0,d1,d2,d3,d4,d5,d6,d7,d8,d9⟩:=hx.ten
 obtain⟨e0,e1,e2,e3,e4,e5⟩:=hy.six
 obtain⟨W3,hW3,hbW3,hz⟩:=oxm_box W C F H X va v.length vc ma m.length mc
 have HW3:=hid hW3
 have HC0:=hid (Below.refl W3.heap.size W3)
 have HA0:=hid (below_on HB.out hbW3)
 have hx3:=hx.below hbW3
 clear hW3
 go_enter Tryz.func48,Tryz.ntmps48
 go_upto_region 2 with fail
 rw[HW.out]
 go_upto_region 4 with fail
 rw[HW3.out]
 clear hx hbW3 e0 e1 e2 e3 e4 e5 hy
 have hx:=hx3
 clear hx3
 clear d0 d1 d2 d3 d4 d5 d6 d7 d8 d9
 obtain⟨d0,d1,d2,d3,d4,d5,d6,d7,d8,d9⟩:=hx.ten
 obtain⟨f0,f1,f2,f3,f4,f5⟩:=hz.six
 go_wp2_with fail
 go_ret2
 exact .inl ⟨HN.out,rfl,HA0.out⟩
set_option maxRecDepth 100000 in
set_option maxHeartbeats 4000000 in
theorem body12_set_B (g:Ent12) (w:World) (hi:ActIn w g) (h25:g.T=25) (hA:g.A=0) (hB:g.B≠0):
 Calls Tryz.prog 48 #[g.val] w (BodyPost12 g.act w):=by
 obtain⟨W,hW,hbW,hx,hy⟩:=act_oxm_box w g.T g.A g.B g.o.C g.o.F g.o.H g.o.X g.va g.o.v.length g.vc g.ma g.o.m.length g.mc g.da g.d.length g.dc
 have HW:=hid hW
 have HB:=hid hbW
 have HN:Hid (body12 g.act=none):=body_set_no (show g.act.T=25 from h25) (fun k=>hB k.2.1)
 have gA:(g.A==0)=true:=by simpa using hA
 have gB:(g.B==0)=false:=by simpa using hB
 have HT:=hid h25
 clear hi hW hbW h25 hA hB
 obtain⟨T,A,B,⟨C,F,H,X,v,m⟩,va,vc,ma,mc,d,da,dc⟩:=g
 have hT2:T=25:=HT.out
 clear HT
 subst hT2
 unfold Ent12.val at *
 simp only at *
 obtain⟨d0,d1,d2,d3,d4,d5,d6,d7,d8,d9⟩:=hx.ten
 obtain⟨e0,e1,e2,e3,e4,e5⟩:=hy.six
 obtain⟨W3,hW3,hbW3,hz⟩:=oxm_box W C F H X va v.length vc ma m.length mc
 have HW3:=hid hW3
 have HC0:=hid (Below.refl W3.heap.size W3)
 have HA0:=hid (below_on HB.out hbW3)
 have hx3:=hx.below hbW3
 clear hW3
 go_enter Tryz.func48,Tryz.ntmps48
 go_upto_region 2 with fail
 rw[HW.out]
 go_upto_region 4 with fail
 rw[HW3.out]
 clear hx hbW3 e0 e1 e2 e3 e4 e5 hy
 have hx:=hx3
 clear hx3
 clear d0 d1 d2 d3 d4 d5 d6 d7 d8 d9
 obtain⟨d0,d1,d2,d3,d4,d5,d6,d7,d8,d9⟩:=hx.ten
 obtain⟨f0,f1,f2,f3,f4,f5⟩:=hz.six
 go_wp2_with fail
 go_ret2
 exact .inl ⟨HN.out,rfl,HA0.out⟩
set_option maxRecDepth 100000 in
set_option maxHeartbeats 4000000 in
theorem body12_set_d (g:Ent12) (w:World) (hi:ActIn w g) (h25:g.T=25) (hA:g.A=0) (hB:g.B=0) (hd:g.d ≠ []):
 Calls Tryz.prog 48 #[g.val] w (BodyPost12 g.act w):=by
 obtain⟨W,hW,hbW,hx,hy⟩:=act_oxm_box w g.T g.A g.B g.o.C g.o.F g.o.H g.o.X g.va g.o.v.length g.vc g.ma g.o.m.length g.mc g.da g.d.length g.dc
 have HW:=hid hW
 have HB:=hid hbW
 have HN:Hid (body12 g.act=none):=body_set_no (show g.act.T=25 from h25) (fun k=>hd k.2.2.1)
 have gA:(g.A==0)=true:=by simpa using hA
 have gB:(g.B==0)=true:=by simpa using hB
 have gd:(((g.d.length:Nat):Int)==0)=false:=by have:=List.length_pos_iff.2 hd;simp;omega
 have HT:=hid h25
 clear hi hW hbW h25 hA hB hd
 obtain⟨T,A,B,⟨C,F,H,X,v,m⟩,va,vc,ma,mc,d,da,dc⟩:=g
 have hT2:T=25:=HT.out
 clear HT
 subst hT2
 unfold Ent12.val at *
 simp only at *
 obtain⟨d0,d1,d2,d3,d4,d5,d6,d7,d8,d9⟩:=hx.ten
 obtain⟨e0,e1,e2,e3,e4,e5⟩:=hy.six
 obtain⟨W3,hW3,hbW3,hz⟩:=oxm_box W C F H X va v.length vc ma m.length mc
 have HW3:=hid hW3
 have HC0:=hid (Below.refl W3.heap.size W3)
 have HA0:=hid (below_on HB.out hbW3)
 have hx3:=hx.below hbW3
 clear hW3
 go_enter Tryz.func48,Tryz.ntmps48
 go_upto_region 2 with fail
 rw[HW.out]
 go_upto_region 4 with fail
 rw[HW3.out]
 clear hx hbW3 e0 e1 e2 e3 e4 e5 hy
 have hx:=hx3
 clear hx3
 clear d0 d1 d2 d3 d4 d5 d6 d7 d8 d9
 obtain⟨d0,d1,d2,d3,d4,d5,d6,d7,d8,d9⟩:=hx.ten
 obtain⟨f0,f1,f2,f3,f4,f5⟩:=hz.six
 go_wp2_with fail
 go_ret2
 exact .inl ⟨HN.out,rfl,HA0.out⟩
set_option maxRecDepth 100000 in
set_option maxHeartbeats 4000000 in
theorem body12_set_C (g:Ent12) (w:World) (hi:ActIn w g) (h25:g.T=25) (hA:g.A=0) (hB:g.B=0) (hd:g.d = []) (hC:g.o.C≠32768):
 Calls Tryz.prog 48 #[g.val] w (BodyPost12 g.act w):=by
 obtain⟨W,hW,hbW,hx,hy⟩:=act_oxm_box w g.T g.A g.B g.o.C g.o.F g.o.H g.o.X g.va g.o.v.length g.vc g.ma g.o.m.length g.mc g.da g.d.length g.dc
 have HW:=hid hW
 have HB:=hid hbW
 have HN:Hid (body12 g.act=none):=body_set_no (show g.act.T=25 from h25) (fun k=>(by have h4:=k.2.2.2;unfold setOk12 at h4;have e1:g.act.o=g.o:=rfl;rw[e1]at h4;simp only[Bool.and_eq_true,decide_eq_true_eq,Bool.not_eq_true']at h4;exact hC h4.1.1.1))
 have gA:(g.A==0)=true:=by simpa using hA
 have gB:(g.B==0)=true:=by simpa using hB
 have gd:(((g.d.length:Nat):Int)==0)=true:=by rw[hd];rfl
 have gC:(g.o.C==32768)=false:=by simpa using hC
 have HT:=hid h25
 clear hi hW hbW h25 hA hB hd hC
 obtain⟨T,A,B,⟨C,F,H,X,v,m⟩,va,vc,ma,mc,d,da,dc⟩:=g
 have hT2:T=25:=HT.out
 clear HT
 subst hT2
 unfold Ent12.val at *
 simp only at *
 obtain⟨d0,d1,d2,d3,d4,d5,d6,d7,d8,d9⟩:=hx.ten
 obtain⟨e0,e1,e2,e3,e4,e5⟩:=hy.six
 obtain⟨W3,hW3,hbW3,hz⟩:=oxm_box W C F H X va v.length vc ma m.length mc
 have HW3:=hid hW3
 have HC0:=hid (Below.refl W3.heap.size W3)
 have HA0:=hid (below_on HB.out hbW3)
 have hx3:=hx.below hbW3
 clear hW3
 go_enter Tryz.func48,Tryz.ntmps48
 go_upto_region 2 with fail
 rw[HW.out]
 go_upto_region 4 with fail
 rw[HW3.out]
 clear hx hbW3 e0 e1 e2 e3 e4 e5 hy
 have hx:=hx3
 clear hx3
 clear d0 d1 d2 d3 d4 d5 d6 d7 d8 d9
 obtain⟨d0,d1,d2,d3,d4,d5,d6,d7,d8,d9⟩:=hx.ten
 obtain⟨f0,f1,f2,f3,f4,f5⟩:=hz.six
 go_wp2_with fail
 go_ret2
 exact .inl ⟨HN.out,rfl,HA0.out⟩
set_option maxRecDepth 100000 in
set_option maxHeartbeats 4000000 in
theorem body12_set_H (g:Ent12) (w:World) (hi:ActIn w g) (h25:g.T=25) (hA:g.A=0) (hB:g.B=0) (hd:g.d = []) (hC:g.o.C=32768) (hH:g.o.H=true):
 Calls Tryz.prog 48 #[g.val] w (BodyPost12 g.act w):=by
 obtain⟨W,hW,hbW,hx,hy⟩:=act_oxm_box w g.T g.A g.B g.o.C g.o.F g.o.H g.o.X g.va g.o.v.length g.vc g.ma g.o.m.length g.mc g.da g.d.length g.dc
 have HW:=hid hW
 have HB:=hid hbW
 have HN:Hid (body12 g.act=none):=body_set_no (show g.act.T=25 from h25) (fun k=>(by have h4:=k.2.2.2;unfold setOk12 at h4;have e1:g.act.o=g.o:=rfl;rw[e1,hH]at h4;simp at h4))
 have gA:(g.A==0)=true:=by simpa using hA
 have gB:(g.B==0)=true:=by simpa using hB
 have gd:(((g.d.length:Nat):Int)==0)=true:=by rw[hd];rfl
 have gC:(g.o.C==32768)=true:=by simpa using hC
 have HT:=hid h25
 have HHH:=hid hH
 clear hi hW hbW h25 hA hB hd hC hH
 obtain⟨T,A,B,⟨C,F,H,X,v,m⟩,va,vc,ma,mc,d,da,dc⟩:=g
 have hT2:T=25:=HT.out
 clear HT
 subst hT2
 have hH2:H=true:=HHH.out
 clear HHH
 subst hH2
 unfold Ent12.val at *
 simp only at *
 obtain⟨d0,d1,d2,d3,d4,d5,d6,d7,d8,d9⟩:=hx.ten
 obtain⟨e0,e1,e2,e3,e4,e5⟩:=hy.six
 obtain⟨W3,hW3,hbW3,hz⟩:=oxm_box W C F true X va v.length vc ma m.length mc
 have HW3:=hid hW3
 have HC0:=hid (Below.refl W3.heap.size W3)
 have HA0:=hid (below_on HB.out hbW3)
 have hx3:=hx.below hbW3
 clear hW3
 go_enter Tryz.func48,Tryz.ntmps48
 go_upto_region 2 with fail
 rw[HW.out]
 go_upto_region 4 with fail
 rw[HW3.out]
 clear hx hbW3 e0 e1 e2 e3 e4 e5 hy
 have hx:=hx3
 clear hx3
 clear d0 d1 d2 d3 d4 d5 d6 d7 d8 d9
 obtain⟨d0,d1,d2,d3,d4,d5,d6,d7,d8,d9⟩:=hx.ten
 obtain⟨f0,f1,f2,f3,f4,f5⟩:=hz.six
 go_wp2_with fail
 go_ret2
 exact .inl ⟨HN.out,rfl,HA0.out⟩
set_option maxRecDepth 100000 in
set_option maxHeartbeats 4000000 in
theorem body12_set_S (g:Ent12) (w:World) (hi:ActIn w g) (h25:g.T=25) (hA:g.A=0) (hB:g.B=0) (hd:g.d = []) (hC:g.o.C=32768) (hH:g.o.H=false) (hS:¬(2<g.o.F∧g.o.F<39)):
 Calls Tryz.prog 48 #[g.val] w (BodyPost12 g.act w):=by
 obtain⟨W,hW,hbW,hx,hy⟩:=act_oxm_box w g.T g.A g.B g.o.C g.o.F g.o.H g.o.X g.va g.o.v.length g.vc g.ma g.o.m.length g.mc g.da g.d.length g.dc
 have HW:=hid hW
 have HB:=hid hbW
 have HN:Hid (body12 g.act=none):=body_set_no (show g.act.T=25 from h25) (fun k=>(by have h4:=k.2.2.2;unfold setOk12 at h4;have e1:g.act.o=g.o:=rfl;rw[e1]at h4;simp only[Bool.and_eq_true,decide_eq_true_eq,Bool.not_eq_true']at h4;exact hS h4.1.2))
 have ST:=hid (fun V=>fldRefSettable_any g.o.F V)
 rw[decide_eq_false hS]at ST
 have gA:(g.A==0)=true:=by simpa using hA
 have gB:(g.B==0)=true:=by simpa using hB
 have gd:(((g.d.length:Nat):Int)==0)=true:=by rw[hd];rfl
 have gC:(g.o.C==32768)=true:=by simpa using hC
 have HT:=hid h25
 have HHH:=hid hH
 clear hi hW hbW h25 hA hB hd hC hH hS
 obtain⟨T,A,B,⟨C,F,H,X,v,m⟩,va,vc,ma,mc,d,da,dc⟩:=g
 have hT2:T=25:=HT.out
 clear HT
 subst hT2
 have hH2:H=false:=HHH.out
 clear HHH
 subst hH2
 unfold Ent12.val at *
 simp only at *
 obtain⟨d0,d1,d2,d3,d4,d5,d6,d7,d8,d9⟩:=hx.ten
 obtain⟨e0,e1,e2,e3,e4,e5⟩:=hy.six
 obtain⟨W3,hW3,hbW3,hz⟩:=oxm_box W C F false X va v.length vc ma m.length mc
 have HW3:=hid hW3
 have HC0:=hid (Below.refl W3.heap.size W3)
 have HA0:=hid (below_on HB.out hbW3)
 have hx3:=hx.below hbW3
 clear hW3
 go_enter Tryz.func48,Tryz.ntmps48
 go_upto_region 2 with fail
 rw[HW.out]
 go_upto_region 4 with fail
 rw[HW3.out]
 clear hx hbW3 e0 e1 e2 e3 e4 e5 hy
 have hx:=hx3
 clear hx3
 clear d0 d1 d2 d3 d4 d5 d6 d7 d8 d9
 obtain⟨d0,d1,d2,d3,d4,d5,d6,d7,d8,d9⟩:=hx.ten
 obtain⟨f0,f1,f2,f3,f4,f5⟩:=hz.six
 go_wp2_with fail
 refine (ST.out _).mono ?_
 rintro e w1 ⟨rfl,hb⟩
 have HA1:=hid (below_on HA0.out hb)
 have HC1:=hid (below_on HC0.out hb)
 clear hb
 clear d0 d1 d2 d3 d4 d5 d6 d7 d8 d9
 clear f0 f1 f2 f3 f4 f5
 obtain⟨d0,d1,d2,d3,d4,d5,d6,d7,d8,d9⟩:=(hx.below HC1.out).ten
 obtain⟨f0,f1,f2,f3,f4,f5⟩:=(hz.below HC1.out).six
 go_wp2_with fail
 go_ret2
 exact .inl ⟨HN.out,rfl,HA1.out⟩
set_option maxRecDepth 100000 in
set_option maxHeartbeats 4000000 in
theorem body12_set_R (g:Ent12) (w:World) (hi:ActIn w g) (h25:g.T=25) (hA:g.A=0) (hB:g.B=0) (hd:g.d = []) (hC:g.o.C=32768) (hH:g.o.H=false) (hS : 2<g.o.F∧g.o.F<39) (hR:right10 g.o=false):
 Calls Tryz.prog 48 #[g.val] w (BodyPost12 g.act w):=by
 obtain⟨W,hW,hbW,hx,hy⟩:=act_oxm_box w g.T g.A g.B g.o.C g.o.F g.o.H g.o.X g.va g.o.v.length g.vc g.ma g.o.m.length g.mc g.da g.d.length g.dc
 have HW:=hid hW
 have HB:=hid hbW
 have HN:Hid (body12 g.act=none):=body_set_no (show g.act.T=25 from h25) (fun k=>(by have h4:=k.2.2.2;unfold setOk12 at h4;have e1:g.act.o=g.o:=rfl;rw[e1,hR]at h4;simp at h4))
 have RI:=hid (fun V (hV:Below w.heap.size w V)=>ref8Right_any g.o.C g.o.F g.o.H g.o.X g.va g.vc g.ma g.mc g.o.v g.o.m hi.lv hi.lm hi.ov hi.om V (hi.iv.below hV) (hi.im.below hV) hi.x.1)
 rw[show rightB g.o.C g.o.F g.o.H g.o.X g.o.v g.o.m=false from hR]at RI
 have ST:=hid (fun V=>fldRefSettable_any g.o.F V)
 rw[decide_eq_true hS]at ST
 have gA:(g.A==0)=true:=by simpa using hA
 have gB:(g.B==0)=true:=by simpa using hB
 have gd:(((g.d.length:Nat):Int)==0)=true:=by rw[hd];rfl
 have gC:(g.o.C==32768)=true:=by simpa using hC
 have HT:=hid h25
 have HHH:=hid hH
 clear hi hW hbW h25 hA hB hd hC hH hS hR
 obtain⟨T,A,B,⟨C,F,H,X,v,m⟩,va,vc,ma,mc,d,da,dc⟩:=g
 have hT2:T=25:=HT.out
 clear HT
 subst hT2
 have hH2:H=false:=HHH.out
 clear HHH
 subst hH2
 unfold Ent12.val at *
 simp only at *
 obtain⟨d0,d1,d2,d3,d4,d5,d6,d7,d8,d9⟩:=hx.ten
 obtain⟨e0,e1,e2,e3,e4,e5⟩:=hy.six
 obtain⟨W3,hW3,hbW3,hz⟩:=oxm_box W C F false X va v.length vc ma m.length mc
 have HW3:=hid hW3
 have HC0:=hid (Below.refl W3.heap.size W3)
 have HA0:=hid (below_on HB.out hbW3)
 have hx3:=hx.below hbW3
 clear hW3
 go_enter Tryz.func48,Tryz.ntmps48
 go_upto_region 2 with fail
 rw[HW.out]
 go_upto_region 4 with fail
 rw[HW3.out]
 clear hx hbW3 e0 e1 e2 e3 e4 e5 hy
 have hx:=hx3
 clear hx3
 clear d0 d1 d2 d3 d4 d5 d6 d7 d8 d9
 obtain⟨d0,d1,d2,d3,d4,d5,d6,d7,d8,d9⟩:=hx.ten
 obtain⟨f0,f1,f2,f3,f4,f5⟩:=hz.six
 go_wp2_with fail
 refine (ST.out _).mono ?_
 rintro e w1 ⟨rfl,hb⟩
 have HA1:=hid (below_on HA0.out hb)
 have HC1:=hid (below_on HC0.out hb)
 clear hb
 clear d0 d1 d2 d3 d4 d5 d6 d7 d8 d9
 clear f0 f1 f2 f3 f4 f5
 obtain⟨d0,d1,d2,d3,d4,d5,d6,d7,d8,d9⟩:=(hx.below HC1.out).ten
 obtain⟨f0,f1,f2,f3,f4,f5⟩:=(hz.below HC1.out).six
 go_wp2_with fail
 refine (RI.out _ HA1.out).mono ?_
 rintro e w2 ⟨rfl,hb⟩
 have HA2:=hid (below_on HA1.out hb)
 have HC2:=hid (below_on HC1.out hb)
 clear hb
 clear d0 d1 d2 d3 d4 d5 d6 d7 d8 d9
 clear f0 f1 f2 f3 f4 f5
 obtain⟨d0,d1,d2,d3,d4,d5,d6,d7,d8,d9⟩:=(hx.below HC2.out).ten
 obtain⟨f0,f1,f2,f3,f4,f5⟩:=(hz.below HC2.out).six
 go_wp2_with fail
 go_ret2
 exact .inl ⟨HN.out,rfl,HA2.out⟩
set_option maxRecDepth 100000 in
set_option maxHeartbeats 4000000 in
theorem body12_set_ok (g:Ent12) (w:World) (hi:ActIn w g) (h25:g.T=25) (hA:g.A=0) (hB:g.B=0) (hd:g.d = []) (hC:g.o.C=32768) (hH:g.o.H=false) (hS : 2<g.o.F∧g.o.F<39) (hR:right10 g.o=true):
 Calls Tryz.prog 48 #[g.val] w (BodyPost12 g.act w):=by
 obtain⟨W,hW,hbW,hx,hy⟩:=act_oxm_box w g.T g.A g.B g.o.C g.o.F g.o.H g.o.X g.va g.o.v.length g.vc g.ma g.o.m.length g.mc g.da g.d.length g.dc
 have HW:=hid hW
 have HB:=hid hbW
 have hok:setOk12 g.o=true:=by unfold setOk12;simp[hC,hH,hS,hR]
 have HN:Hid (body12 g.act=some (bytes10 g.o++List.replicate (pad12 (bytes10 g.o).length) 0)):=body_set_yes (show g.act.T=25 from h25) ⟨hA,hB,hd,hok⟩
 have ft:=right_facts hR
 have BY:=hid (fun V (hV:Below w.heap.size w V)=>ref8Bytes_own g.o.C g.o.F g.o.H g.o.X g.va g.vc g.ma g.mc g.o.v g.o.m hi.lv hi.lm hi.cm hi.ov hi.om V (hi.iv.below hV) (hi.im.below hV) hC ft)
 have hob5:=bytes10_small hR
 obtain⟨hpad,hpad2⟩:=pad_fits (bytes10 g.o).length
 have RI:=hid (fun V (hV:Below w.heap.size w V)=>ref8Right_any g.o.C g.o.F g.o.H g.o.X g.va g.vc g.ma g.mc g.o.v g.o.m hi.lv hi.lm hi.ov hi.om V (hi.iv.below hV) (hi.im.below hV) hi.x.1)
 rw[show rightB g.o.C g.o.F g.o.H g.o.X g.o.v g.o.m=true from hR]at RI
 have ST:=hid (fun V=>fldRefSettable_any g.o.F V)
 rw[decide_eq_true hS]at ST
 have gA:(g.A==0)=true:=by simpa using hA
 have gB:(g.B==0)=true:=by simpa using hB
 have gd:(((g.d.length:Nat):Int)==0)=true:=by rw[hd];rfl
 have gC:(g.o.C==32768)=true:=by simpa using hC
 have HT:=hid h25
 obtain⟨ob,hob⟩:∃ob,bytes10 g.o=ob:=⟨_,rfl⟩
 have hob':oxmBytes g.o.C g.o.F g.o.H g.o.X g.o.v g.o.m=ob:=hob
 rw[hob']at BY
 rw[hob]at HN hpad hpad2 hob5
 obtain⟨pd,hpd⟩:∃pd,pad12 ob.length=pd:=⟨_,rfl⟩
 rw[hpd]at HN hpad hpad2
 clear hob hob' hpd ft hok
 have HHH:=hid hH
 clear hi hW hbW h25 hA hB hd hC hH hS hR
 obtain⟨T,A,B,⟨C,F,H,X,v,m⟩,va,vc,ma,mc,d,da,dc⟩:=g
 have hT2:T=25:=HT.out
 clear HT
 subst hT2
 have hH2:H=false:=HHH.out
 clear HHH
 subst hH2
 unfold Ent12.val at *
 simp only at *
 obtain⟨d0,d1,d2,d3,d4,d5,d6,d7,d8,d9⟩:=hx.ten
 obtain⟨e0,e1,e2,e3,e4,e5⟩:=hy.six
 obtain⟨W3,hW3,hbW3,hz⟩:=oxm_box W C F false X va v.length vc ma m.length mc
 have HW3:=hid hW3
 have HC0:=hid (Below.refl W3.heap.size W3)
 have HA0:=hid (below_on HB.out hbW3)
 have hx3:=hx.below hbW3
 clear hW3
 go_enter Tryz.func48,Tryz.ntmps48
 go_upto_region 2 with fail
 rw[HW.out]
 go_upto_region 4 with fail
 rw[HW3.out]
 clear hx hbW3 e0 e1 e2 e3 e4 e5 hy
 have hx:=hx3
 clear hx3
 clear d0 d1 d2 d3 d4 d5 d6 d7 d8 d9
 obtain⟨d0,d1,d2,d3,d4,d5,d6,d7,d8,d9⟩:=hx.ten
 obtain⟨f0,f1,f2,f3,f4,f5⟩:=hz.six
 go_wp2_with fail
 refine (ST.out _).mono ?_
 rintro e w1 ⟨rfl,hb⟩
 have HA1:=hid (below_on HA0.out hb)
 have HC1:=hid (below_on HC0.out hb)
 clear hb
 clear d0 d1 d2 d3 d4 d5 d6 d7 d8 d9
 clear f0 f1 f2 f3 f4 f5
 obtain⟨d0,d1,d2,d3,d4,d5,d6,d7,d8,d9⟩:=(hx.below HC1.out).ten
 obtain⟨f0,f1,f2,f3,f4,f5⟩:=(hz.below HC1.out).six
 go_wp2_with fail
 refine (RI.out _ HA1.out).mono ?_
 rintro e w2 ⟨rfl,hb⟩
 have HA2:=hid (below_on HA1.out hb)
 have HC2:=hid (below_on HC1.out hb)
 clear hb
 clear d0 d1 d2 d3 d4 d5 d6 d7 d8 d9
 clear f0 f1 f2 f3 f4 f5
 obtain⟨d0,d1,d2,d3,d4,d5,d6,d7,d8,d9⟩:=(hx.below HC2.out).ten
 obtain⟨f0,f1,f2,f3,f4,f5⟩:=(hz.below HC2.out).six
 go_wp2_with fail
 refine (BY.out _ HA2.out).mono ?_
 rintro e w3 ⟨ad,cp,rfl,hF⟩
 have HF:=hid hF
 have HPD:=hid hpad
 clear hF hpad
 clear d0 d1 d2 d3 d4 d5 d6 d7 d8 d9
 clear f0 f1 f2 f3 f4 f5
 go_wp2_with fail
 go_loopg [7] (pd) (fun kx s7 wr=>∃(i:Nat) (ad:Option Addr) (cp:Nat) (ys:List Int),s7 = .slice ad ys.length cp∧i≤pd∧pd-i≤kx∧Hid (ys=ob++List.replicate i 0)∧Hid (Fresh 5 w2 wr (.slice ad ys.length cp) (ys.map (Value.int .u8))))
 case atStart=>exact⟨0,ad,cp,ob,rfl,by omega,by omega,by show _=_;simp,HF.out⟩
 case round=>
  obtain⟨i,ad',cp',ys,rfl,hi,hkx,hys,hF⟩:=hrel
  have hyl:ys.length=ob.length+i:=by rw[hys.out];simp
  by_cases hlt:i<pd
  · obtain⟨r8,hr8⟩:∃r:Int,((ys.length:Nat):Int).tmod 8=r:=⟨_,rfl⟩
    have gt:(r8 != 4)=true:=by
     have h2:=Int.tmod_eq_emod_of_nonneg (a:=((ys.length:Nat):Int)) (b:=8) (by omega)
     have h3:=HPD.out
     simp
     omega
    have HYL:=hid hyl
    have FB:=hid (fun o=>hF.out.behind (by_none_alloc wr o))
    obtain⟨zs,hzs⟩:∃zs,ys ++ [0]=zs:=⟨_,rfl⟩
    have HZS:=hid hzs
    have HZL:Hid (zs.length≤1000):=by show _≤_;rw[←hzs,List.length_append,hyl];simp;omega
    have HZI:Hid (zs=ob++List.replicate (i+1) 0):=by show _=_;rw[←hzs,hys.out,List.replicate_succ'];simp
    clear hyl hys hF hzs
    go_wp2_with (at_builtin;refine wp_app_ints rfl _ _ rfl elemU8 rfl (FB.out _).own rfl (l:=[0]) rfl (ints_lit .u8 wr [0] 5) (ys:=zs) HZS.out (by have:=HZL.out;omega) (by have:=HZL.out;omega) ?_;intro a5 c5 w5 hl5 hc5 hI5 hg5;have hF5:=(FB.out _).step hg5)
    go_roundg (pd-(i+1))
    case measure=>omega
    case rel=>exact⟨i+1,a5,c5,zs,rfl,by omega,Nat.le_refl _,HZI.out,hF5⟩
  · have hie:i=pd:=by omega
    have hyx:ys=ob++List.replicate pd 0:=by rw[hys.out,hie]
    have gt:((ys.length:Nat):Int).tmod 8=4:=by
     have h2:=Int.tmod_eq_emod_of_nonneg (a:=((ys.length:Nat):Int)) (b:=8) (by omega)
     have h3:=HPD.out
     omega
    rw[←hyx]at HN
    obtain⟨a9,c9,he9,hl9,hc9,hI9⟩:=own_ints hF.out.own
    have he1:a9=ad':=by simpa using (congrArg (fun x=>match x with|Value.slice a _ _=>a|_=>none) he9).symm
    have HI9:Hid (Ints .u8 wr ad' ys):=by rw[←he1];exact hI9
    clear hyl hys hyx hie hlt he9 hl9 hc9 hI9 he1
    go_wp2_with fail
    exact bodyPost_ret (v:=.tuple #[.slice ad' ys.length cp',.bool true]) (by simp[results,Tryz.results48,go_sem]) rfl (.inr ⟨ys,ad',cp',HN.out,rfl,below_on HA2.out hF.out.bel,HI9.out⟩)
theorem refBody_any (g:Ent12) (w:World) (hi:ActIn w g):Calls Tryz.prog 48 #[g.val] w (BodyPost12 g.act w):=by
 by_cases h25:g.T=25
 · by_cases hA : g.A=0
   · by_cases hB:g.B=0
     · by_cases hd:g.d = []
       · by_cases hC:g.o.C=32768
         · cases hH:g.o.H with
           | true=>exact body12_set_H g w hi h25 hA hB hd hC hH
           | false=>
             by_cases hS : 2<g.o.F∧g.o.F<39
             · cases hR:right10 g.o with
               | false=>exact body12_set_R g w hi h25 hA hB hd hC hH hS hR
               | true=>exact body12_set_ok g w hi h25 hA hB hd hC hH hS hR
             · exact body12_set_S g w hi h25 hA hB hd hC hH hS
         · exact body12_set_C g w hi h25 hA hB hd hC
       · exact body12_set_d g w hi h25 hA hB hd
     · exact body12_set_B g w hi h25 hA hB
   · exact body12_set_A g w hi h25 hA
 · cases hr:row12 g.T with
   | none=>exact body12_norow g w hi h25 hr
   | some l=>
     by_cases ho:g.o=noOx
     · by_cases has:asked12 g.T g.A=0
       · by_cases qT : g.T=65535
         · have hl:l = [4]:=by rw[qT]at hr;exact (Option.some.inj hr).symm
           have q2:countL l<2:=by rw[hl];decide
           have q1:¬countL l<1:=by rw[hl];decide
           cases hp:putW l (nums12 g.act l) with
           | none=>exact body12_c_put g w hi l h25 hr ho has q2 q1 qT hp
           | some p=>
             by_cases hB:g.B=0
             · by_cases hd8:g.d.length%8=0
               · by_cases hdl:g.d.length≤65520
                 · exact body12_c_ok g w hi l h25 hr ho has q2 q1 qT p hp hB hd8 hdl
                 · exact body12_c_dl g w hi l h25 hr ho has q2 q1 qT p hp hB hd8 hdl
               · exact body12_c_d8 g w hi l h25 hr ho has q2 q1 qT p hp hB hd8
             · exact body12_c_B g w hi l h25 hr ho has q2 q1 qT p hp hB
         · by_cases q2:countL l<2
           · by_cases q1:countL l<1
             · cases hp:putW l (nums12 g.act l) with
               | none=>exact body12_d_put g w hi l h25 hr ho has q2 q1 qT hp
               | some p=>
                 by_cases hB:g.B=0
                 · by_cases hA:g.A=0
                   · by_cases hd0:g.d = []
                     · exact body12_d_ok g w hi l h25 hr ho has q2 q1 qT p hp hB hA hd0
                     · exact body12_d_d0 g w hi l h25 hr ho has q2 q1 qT p hp hB hA hd0
                   · exact body12_d_A g w hi l h25 hr ho has q2 q1 qT p hp hB hA
                 · exact body12_d_B g w hi l h25 hr ho has q2 q1 qT p hp hB
             · cases hp:putW l (nums12 g.act l) with
               | none=>exact body12_b_put g w hi l h25 hr ho has q2 q1 qT hp
               | some p=>
                 by_cases hB:g.B=0
                 · by_cases hd0:g.d = []
                   · exact body12_b_ok g w hi l h25 hr ho has q2 q1 qT p hp hB hd0
                   · exact body12_b_d0 g w hi l h25 hr ho has q2 q1 qT p hp hB hd0
                 · exact body12_b_B g w hi l h25 hr ho has q2 q1 qT p hp hB
           · have q1:¬countL l<1:=by omega
             cases hp:putW l (nums12 g.act l) with
             | none=>exact body12_a_put g w hi l h25 hr ho has q2 q1 qT hp
             | some p=>
               by_cases hd0:g.d = []
               · exact body12_a_ok g w hi l h25 hr ho has q2 q1 qT p hp hd0
               · exact body12_a_d0 g w hi l h25 hr ho has q2 q1 qT p hp hd0
       · exact body12_asked g w hi l h25 hr ho has
     · exact body12_notnone g w hi l h25 hr ho
def RefEncPost12 (a:Act12) (w:World) (e:Ending) (w':World):Prop:=
 (act12 a=none∧e = .returned (.tuple #[.slice none 0 0,.int .i64 10001])∧Below w.heap.size w w') ∨
 (∃x ad cp,act12 a=some x∧e = .returned (.tuple #[.slice ad x.length cp,.int .i64 0])∧Below w.heap.size w w'∧Ints .u8 w' ad x)
set_option maxRecDepth 100000 in
set_option maxHeartbeats 4000000 in
theorem refEncode12_any (g:Ent12) (w:World) (hi:ActIn w g):Calls Tryz.prog 30 #[g.val] w (RefEncPost12 g.act w):=by
 obtain⟨W,hW,hbW,hx⟩:=act_box w g.T g.A g.B g.o.C g.o.F g.o.H g.o.X g.va g.o.v.length g.vc g.ma g.o.m.length g.mc g.da g.d.length g.dc
 have HW:=hid hW
 have HB:=hid hbW
 have BO:=hid (refBody_any g W (hi.below hbW))
 cases hb:body12 g.act with
 | none=>
   have HN:Hid (act12 g.act=none):=by show _=_;unfold act12;rw[hb];rfl
   have HBD:=hid hb
   clear hi hW hbW hb
   obtain⟨T,A,B,⟨C,F,H,X,v,m⟩,va,vc,ma,mc,d,da,dc⟩:=g
   unfold Ent12.val at *
   simp only at *
   obtain⟨d0,d1,d2,d3,d4,d5,d6,d7,d8,d9⟩:=hx.ten
   go_enter Tryz.func30,Tryz.ntmps30
   go_wp2_with fail
   rw[HW.out]
   go_wp2_with fail
   refine BO.out.mono ?_
   rintro e w1 (⟨_,rfl,hb1⟩|⟨x,_,_,hq,_⟩)
   case inr=>rw[HBD.out]at hq;cases hq
   go_wp2_with fail
   go_ret2
   exact .inl ⟨HN.out,rfl,below_on HB.out hb1⟩
 | some x=>
   have hN:act12 g.act=some (bytesL g.T 2++(bytesL ((4+x.length:Nat):Int) 2++x)):=by unfold act12;rw[hb];rfl
   obtain⟨b',hb',-,-,hl,h8,hm8,hbig,ht0,ht1⟩:=act_write hN
   rw[hb]at hb'
   cases hb'
   have hT : 0≤g.T∧g.T<65536:=⟨ht0,ht1⟩
   have wT:IntKind.u64.wrap g.T=g.T:=by rw[u64_wrap8];omega
   have hxl:x.length≤65524:=by omega
   have hx64:(x.length:Int)≤65524:=by omega
   have N1:=fun V=>num_any (IntKind.u64.wrap g.T) 2 V (by decide)
   have N2:=fun V (n:Int) (hn:n=((4+x.length:Nat):Int))=>num_any n 2 V (by decide)
   rw[show bytesL (IntKind.u64.wrap g.T) 2=bytesL g.T 2 by rw[wT]]at N1
   obtain⟨l1,hl1⟩:∃l,bytesL g.T 2=l:=⟨_,rfl⟩
   obtain⟨l2,hl2⟩:∃l,bytesL ((4+x.length:Nat):Int) 2=l:=⟨_,rfl⟩
   have e1:l1.length=2:=by rw[←hl1];exact bytesL_length _ 2
   have e2:l2.length=2:=by rw[←hl2];exact bytesL_length _ 2
   rw[hl1]at N1 hN
   have N2:∀(V:World) (n:Int),n=((4+x.length:Nat):Int)→Calls Tryz.prog 49 #[.int .u64 n,.int .i64 (2:Nat)] V fun e w'=>∃v',e = .returned v'∧Fresh 5 V w' v' (l2.map (Value.int .u8)):=by
    intro V n hn
    have:=num_any n 2 V (by decide)
    rw[hn]at this ⊢
    rw[hl2]at this
    exact this
   rw[hl2]at hN
   obtain⟨ys,hys⟩:∃ys,l1++l2=ys:=⟨_,rfl⟩
   obtain⟨xs,hxs⟩:∃xs,ys++x=xs:=⟨_,rfl⟩
   have hxe:l1++(l2++x)=xs:=by rw[←hxs,←hys,List.append_assoc]
   rw[hxe]at hN
   have HN:=hid hN
   have HYS:=hid hys
   have HXS:=hid hxs
   have HYL:Hid (ys.length=4):=by show _=_;rw[←hys,List.length_append];omega
   have HXL:Hid (xs.length≤70000):=by have:=HYL.out;show _≤_;rw[←hxs,List.length_append];omega
   have HE2:=hid e2
   have N1:=hid N1
   have N2:=hid N2
   have HBD:=hid hb
   clear hi hW hbW hb hN hl h8 hm8 hbig ht0 ht1 hT wT hl1 hl2 e1 e2 hys hxs hxe hxl
   obtain⟨T,A,B,⟨C,F,H,X,v,m⟩,va,vc,ma,mc,d,da,dc⟩:=g
   unfold Ent12.val at *
   simp only at *
   obtain⟨d0,d1,d2,d3,d4,d5,d6,d7,d8,d9⟩:=hx.ten
   go_enter Tryz.func30,Tryz.ntmps30
   go_wp2_with fail
   rw[HW.out]
   go_wp2_with fail
   refine BO.out.mono ?_
   rintro e w1 (⟨hq,_⟩|⟨x',ad,cp,hq,rfl,hb1,hI1⟩)
   · rw[HBD.out]at hq;cases hq
   rw[HBD.out]at hq
   cases hq
   have HA1:=hid (below_on HB.out hb1)
   have I1:=hid hI1
   clear d0 d1 d2 d3 d4 d5 d6 d7 d8 d9
   obtain⟨d0,d1,d2,d3,d4,d5,d6,d7,d8,d9⟩:=(hx.below hb1).ten
   clear hb1 hI1
   go_wp2_with fail
   refine (N1.out _).mono ?_
   rintro e w2 ⟨v2,rfl,hF2⟩
   have HA2:=hid (below_on HA1.out hF2.bel)
   have I2:=hid (I1.out.below hF2.bel)
   have HF2:=hid hF2
   clear hF2 d0 d1 d2 d3 d4 d5 d6 d7 d8 d9
   go_wp2_with fail
   refine (N2.out _ _ (by first|(rw[u64_wrap8];omega)|(simp;omega)|omega)).mono ?_
   rintro e w3 ⟨v3,rfl,hF3⟩
   have HA3:=hid (below_on HA2.out hF3.bel)
   have I3:=hid (I2.out.below hF3.bel)
   have F2:=hid (HF2.out.behind (below_by_none hF3.bel))
   obtain⟨a3,c3,rfl,_,_,hI3⟩:=own_ints hF3.own
   have J3:=hid hI3
   rw[HE2.out]
   clear hF3 hI3
   go_wp2_with (at_builtin;(first
    | (refine wp_app_ints rfl (.tmp 16) (.tmp 21) rfl elemU8 rfl F2.out.own rfl (l:=l2) HE2.out.symm J3.out (ys:=ys) HYS.out (by have:=HYL.out;omega) (by have:=HYL.out;omega) ?_;intro a5 c5 w5 hl5 hc5 hI5 hg5;have hF5:=F2.out.step hg5)
    | (refine wp_app_ints rfl (.tmp 22) (.tmp 23) rfl elemU8 rfl hF5.own rfl (l:=x) rfl (I1.out.below hF5.bel) (ys:=xs) HXS.out (by have:=HXL.out;omega) (by have:=HXL.out;omega) ?_;intro a6 c6 w6 hl6 hc6 hI6 hg6;have hF6:=hF5.step hg6)
    | fail))
   go_ret2
   exact .inr ⟨xs,a6,c6,HN.out,rfl,below_on HA1.out hF6.bel,hI6⟩
def Bad12 (q:Int) (e:Ending):Prop:=∃(T A B C F:Int) (H:Bool) (X:Int) (va:Option Addr) (vl vc:Nat) (ma:Option Addr) (ml mc:Nat) (da:Option Addr) (dl dc:Nat),e = .returned (.tuple #[.agg #[.int .i64 T,.int .u64 A,.int .u64 B,.int .i64 C,.int .i64 F,.bool H,.int .u64 X,.slice va vl vc,.slice ma ml mc,.slice da dl dc],.int .i64 q])
def SetPost12 (R:Except Int Ox9) (w:World) (e:Ending) (w':World):Prop:=
 (∃q,R = .error q∧q≠0∧Bad12 q e∧Below w.heap.size w w') ∨
 (∃o a1 k1 a2 k2,R = .ok o∧e = .returned (.tuple #[.agg #[.int .i64 25,.int .u64 0,.int .u64 0,.int .i64 o.C,.int .i64 o.F,.bool o.H,.int .u64 o.X,.slice a1 o.v.length k1,.slice a2 o.m.length k2,.slice none 0 0],.int .i64 0])∧Below w.heap.size w w'∧Ints .u8 w' a1 o.v∧Ints .u8 w' a2 o.m∧o.m.length≤k2∧New8 w a1∧New8 w a2)
def ox12 (o:Oxm8):Ox9:=⟨o.C,o.F,o.H,o.X,o.v,o.m⟩
def read12 (t:Int) (x:List Int):Except Int Act12:=
 if t=25 then
  match set12 x with
  | .error q=>.error q
  | .ok o=>.ok ⟨25,0,0,o,[]⟩
 else match row12 t with
  | none=>.error 513
  | some w=>
    if t≠65535∧x.length≠sizeL w then .error 514
    else match getW w x with
     | .error _=>.error 518
     | .ok l=>if asked12 t (l.getD 0 0)≠0 then .error (asked12 t (l.getD 0 0)) else .ok ⟨t,l.getD 0 0,l.getD 1 0,noOx,x.drop (sizeL w)⟩
def ReadPost12 (R:Except Int Act12) (w:World) (e:Ending) (w':World):Prop:=
 (∃q,R = .error q∧q≠0∧Bad12 q e∧Below w.heap.size w w') ∨
 (∃g:Ent12,R = .ok g.act∧e = .returned (.tuple #[g.val,.int .i64 0])∧Below w.heap.size w w'∧Ints .u8 w' g.va g.o.v∧Ints .u8 w' g.ma g.o.m∧Ints .u8 w' g.da g.d∧g.o.m.length≤g.mc∧New8 w g.va∧New8 w g.ma∧New8 w g.da)
def DecPost12 (b:List Int) (w:World) (e:Ending) (w':World):Prop:=
 (∃q,dec12 b = .error q∧q≠0∧e = .returned (.tuple #[zero12,.int .i64 0,.int .i64 q])∧Below w.heap.size w w') ∨
 (∃(g:Ent12) (n:Nat),dec12 b = .ok (g.act,n)∧e = .returned (.tuple #[g.val,.int .i64 n,.int .i64 0])∧Below w.heap.size w w'∧ActIn w' g∧New8 w g.va∧New8 w g.ma∧New8 w g.da)
def CopyPost12 (g:Ent12) (w:World) (e:Ending) (w':World):Prop:=
 ∃p q s,e = .returned (.agg #[.int .i64 g.T,.int .u64 g.A,.int .u64 g.B,.int .i64 g.o.C,.int .i64 g.o.F,.bool g.o.H,.int .u64 g.o.X,.slice (some ⟨p,0,none⟩) g.o.v.length g.o.v.length,.slice (some ⟨q,0,none⟩) g.o.m.length g.o.m.length,.slice (some ⟨s,0,none⟩) g.d.length g.d.length])∧Below w.heap.size w w' ∧
  Fresh 5 w w' (.slice (some ⟨p,0,none⟩) g.o.v.length g.o.v.length) (g.o.v.map (Value.int .u8))∧Fresh 5 w w' (.slice (some ⟨q,0,none⟩) g.o.m.length g.o.m.length) (g.o.m.map (Value.int .u8))∧Fresh 5 w w' (.slice (some ⟨s,0,none⟩) g.d.length g.d.length) (g.d.map (Value.int .u8))∧s<p∧p<q∧w.heap.size≤s
set_option maxRecDepth 100000 in
set_option maxHeartbeats 2000000 in
theorem actCopy_any (g:Ent12) (w:World) (hi:ActIn w g):Calls Tryz.prog 29 #[g.val] w (CopyPost12 g w):=by
 obtain⟨W,hW,hbW,hx,hy⟩:=two_act w g.T g.A g.B g.o.C g.o.F g.o.H g.o.X g.va g.o.v.length g.vc g.ma g.o.m.length g.mc g.da g.d.length g.dc 0 0 0 0 0 false 0 none 0 0 none 0 0 none 0 0
 have HW:=hid hW
 have HB:=hid hbW
 have ID:=hid (hi.id.below hbW)
 have ld:=hi.ld
 have CP:=hid (fun (n:Wk W)=>copy8_any g.o.C g.o.F g.o.H g.o.X g.va g.vc g.ma g.mc g.o.v g.o.m hi.lv hi.lm n.val ((hi.iv.below HB.out).below n.bel) ((hi.im.below HB.out).below n.bel))
 clear hi hW hbW
 obtain⟨T,A,B,⟨C,F,H,X,v,m⟩,va,vc,ma,mc,d,da,dc⟩:=g
 simp only at *
 unfold Ent12.val
 simp only
 obtain⟨d0,d1,d2,d3,d4,d5,d6,d7,d8,d9⟩:=hx.ten
 have sW:w.heap.size+1<W.heap.size:=hy.lt
 go_enter Tryz.func29,Tryz.ntmps29
 go_upto_region 1 with fail
 rw[HW.out]
 go_wp2_with (first
  | (at_make;refine wp_make rfl _ _ rfl elemU8 rfl rfl rfl rfl (Nat.le_refl _) (by omega) (by omega) ?_;intro w1 hf;obtain⟨e0,e1,e2,e3,e4,e5,e6,e7,e8,e9⟩:=(hx.below hf.bel).ten)
  | (with_reducible refine wp_copy_all rfl (.tmp 8) (.tmp 10) rfl elemU8 rfl rfl (List.length_replicate ..) hf rfl (ID.out.below hf.bel) ?_;intro w2 hf2;obtain⟨f0,f1,f2,f3,f4,f5,f6,f7,f8,f9⟩:=(hx.below hf2.bel).ten))
 refine (CP.out ⟨_,hf2.bel⟩).mono ?_
 rintro e w3 ⟨p,q,rfl,hb3,hfp,hfq,hpq,hp⟩
 replace hp:w2.heap.size≤p:=hp
 replace hb3:Below w2.heap.size w2 w3:=hb3
 replace hfp:Fresh 5 w2 w3 (.slice (some ⟨p,0,none⟩) v.length v.length) (v.map (Value.int .u8)):=hfp
 replace hfq:Fresh 5 w2 w3 (.slice (some ⟨q,0,none⟩) m.length m.length) (m.map (Value.int .u8)):=hfq
 have hx3:=(hx.below hf2.bel).below hb3
 have hy3:=(hy.below hf2.bel).below hb3
 have hs3:=hid (hf2.behind (below_by_none hb3))
 have HF2:=hid hf2
 have sp:W.heap.size<p:=by have:=own_lt8 hf2;omega
 have HFP:=hid hfp
 have HFQ:=hid hfq
 have HB3:=hid hb3
 clear d0 d1 d2 d3 d4 d5 d6 d7 d8 d9 e0 e1 e2 e3 e4 e5 e6 e7 e8 e9 f0 f1 f2 f3 f4 f5 f6 f7 f8 f9 hf hf2 hx hy hb3 hfp hfq
 obtain⟨d0,d1,d2,d3,d4,d5,d6,d7,d8,d9⟩:=hx3.ten
 have zx:=hx3.free
 go_upto_region 4 with fail
 have n1:¬w.heap.size=w.heap.size+1:=by omega
 have n2:¬w.heap.size+1=w.heap.size:=by omega
 have hX:=((((((hx3.set 3 (.int .i64 C) (by simp)).set 4 (.int .i64 F) (by simp)).set 5 (.bool H) (by simp)).set 6 (.int .u64 X) (by simp)).set 7 (.slice (some ⟨p,0,none⟩) v.length v.length) (by simp)).set 8 (.slice (some ⟨q,0,none⟩) m.length m.length) (by simp)).set 9 (.slice (some ⟨W.heap.size,0,none⟩) d.length d.length) (by simp)
 have hY:=((((((hy3.far (c:=w.heap.size) (i:=3) (.int .i64 C) n1).far (c:=w.heap.size) (i:=4) (.int .i64 F) n1).far (c:=w.heap.size) (i:=5) (.bool H) n1).far (c:=w.heap.size) (i:=6) (.int .u64 X) n1).far (c:=w.heap.size) (i:=7) (.slice (some ⟨p,0,none⟩) v.length v.length) n1).far (c:=w.heap.size) (i:=8) (.slice (some ⟨q,0,none⟩) m.length m.length) n1).far (c:=w.heap.size) (i:=9) (.slice (some ⟨W.heap.size,0,none⟩) d.length d.length) n1
 have hbS:Hid (Below w3.heap.size w3 w3):=Below.refl _ _
 clear d0 d1 d2 d3 d4 d5 d6 d7 d8 d9 zx hx3 hy3
 obtain⟨d0,d1,d2,d3,d4,d5,d6,d7,d8,d9⟩:=hX.ten
 obtain⟨e0,e1,e2,e3,e4,e5,e6,e7,e8,e9⟩:=hY.ten
 have zY:=hY.free
 go_wp2_with fail
 have hk:=hY.set10 (.int .i64 T) (.int .u64 A) (.int .u64 B) (.int .i64 C) (.int .i64 F) (.bool H) (.int .u64 X) (.slice (some ⟨p,0,none⟩) v.length v.length) (.slice (some ⟨q,0,none⟩) m.length m.length) (.slice (some ⟨W.heap.size,0,none⟩) d.length d.length)
 obtain⟨k0,k1,k2,k3,k4,k5,k6,k7,k8,k9⟩:=hk.ten
 refine bodyPost_ret (v:=.agg #[.int .i64 T,.int .u64 A,.int .u64 B,.int .i64 C,.int .i64 F,.bool H,.int .u64 X,.slice (some ⟨p,0,none⟩) v.length v.length,.slice (some ⟨q,0,none⟩) m.length m.length,.slice (some ⟨W.heap.size,0,none⟩) d.length d.length]) (by simp[results,Tryz.results29,go_sem,k0,k1,k2,k3,k4,k5,k6,k7,k8,k9]) rfl ⟨p,q,W.heap.size,rfl,?_,?_,?_,?_,sp,hpq,by omega⟩
 · repeat (with_reducible refine Below.setCell ?_ (by simp) _)
   exact below_on HB.out (below_on HF2.out.bel HB3.out)
 · repeat (refine Fresh.turn ?_ (by_setCell _ _ _ _) (by simp[Value.ownBlock];omega) (by omega))
   exact Fresh.made (below_by_none (below_on HB.out HF2.out.bel)) HFP.out
 · repeat (refine Fresh.turn ?_ (by_setCell _ _ _ _) (by simp[Value.ownBlock];omega) (by omega))
   exact Fresh.made (below_by_none (below_on HB.out HF2.out.bel)) HFQ.out
 · repeat (refine Fresh.turn ?_ (by_setCell _ _ _ _) (by simp[Value.ownBlock];omega) (by omega))
   exact (Fresh.made (below_by_none HB.out) HF2.out).behind (below_by_none HB3.out)
end Go.Proofs.YthpdkancighknaaGreat
