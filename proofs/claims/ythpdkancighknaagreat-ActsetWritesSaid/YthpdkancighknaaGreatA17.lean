/- Put together out of several texts. -/
import Derived.Test.YthpdkancighknaaGreatA16
namespace Go.Proofs.YthpdkancighknaaGreat
open Go.RowKit
set_option linter.unusedVariables false
set_option maxRecDepth 100000 in
set_option maxHeartbeats 4000000 in
theorem body12_a_put (g:Ent12) (w:World) (hi:ActIn w g) (l:List Int) (h25:g.T≠25) (hr:row12 g.T=some l) (ho:g.o=noOx) (has:asked12 g.T g.A=0) (q2:¬countL l<2) (q1:¬countL l<1) (qT:g.T≠65535) (hp:putW l (nums12 g.act l)=none):
 Calls Tryz.prog 48 #[g.val] w (BodyPost12 g.act w):=by
 obtain⟨W,hW,hbW,hx,hy⟩:=act_oxm_box w g.T g.A g.B g.o.C g.o.F g.o.H g.o.X g.va g.o.v.length g.vc g.ma g.o.m.length g.mc g.da g.d.length g.dc
 have HW:=hid hW
 have HB:=hid hbW
 obtain⟨k1,k2,k3,k4,k5,k6⟩:=count_le12 g.T
 have e8:rowP g.T=l:=by simp[rowP,hr]
 have e9:(row12 g.T).isSome=true:=by rw[hr];rfl
 have RO:=hid (refRow12_any g.T W)
 rw[e8]at RO k1 k2 k3 k4 k5 k6
 rw[e9]at RO
 have c25:(g.T==25)=false:=by simpa using h25
 have SO:=hid (fun V (hV:Below w.heap.size w V)=>refSame8_any g.o.C g.o.F g.o.H g.o.X g.va g.vc g.ma g.mc 0 0 false 0 none 0 none 0 g.o.v g.o.m [] [] hi.lv hi.lm (by simp) (by simp) hi.ov hi.om (by intro x hx;cases hx) (by intro x hx;cases hx) V (hi.iv.below hV) (hi.im.below hV) (Ints.nil _ _ _) (Ints.nil _ _ _))
 have es:sameB g.o.C g.o.F g.o.H g.o.X 0 0 false 0 g.o.v g.o.m [] []=true:=(same9_iff g.o noOx).2 ho
 rw[es]at SO
 have AS:=hid (fun V=>refAsked_any g.T g.A V)
 have hH:g.o.H=false:=by rw[ho];rfl
 have HN:Hid (body12 g.act=none):=body_noput (w:=l) h25 hr hp
 rw[has]at AS
 have NU:=hid (fun (V:World) (a:Option Addr) (c:Nat) (ia:Ints .i64 V a l)=>refNums_at g.T g.A g.B g.o.C g.o.F g.o.H g.o.X g.va g.o.v.length g.vc g.ma g.o.m.length g.mc g.da g.d.length g.dc l a c (countL l) k2 k1 (by omega) V ia)
 have HU:Hid (U64s (nums12 g.act l)):=nums_u64 hi.num _
 have NL:Hid ((nums12 g.act l).length=countL l):=nums_len k1
 obtain⟨nl,hnl⟩:∃nl,nums12 g.act l=nl:=⟨_,rfl⟩
 have HNL:Hid ([g.A,g.B].take (countL l)=nl):=hnl
 rw[hnl]at HU NL hp
 have HP:=hid hp
 obtain⟨k,hk⟩:∃k,countL l=k:=⟨_,rfl⟩
 rw[hk]at NU NL HNL q1 q2 k1
 have ID:=hid hi.id
 have ld:=hi.ld
 have g2:decide ((k:Int)<2)=false:=by simp;omega
 have g2i:¬(k:Int)<2:=by omega
 have gT:(g.T != 65535)=true:=by simpa using qT
 clear hi hW hbW hr e8 e9 es h25 k2 k3 k4 k6 has ho hnl hp hk q1 q2 qT
 obtain⟨T,A,B,⟨C,F,H,X,v,m⟩,va,vc,ma,mc,d,da,dc⟩:=g
 have hH2:H=false:=hH
 clear hH
 subst hH2
 unfold Ent12.val at *
 simp only at *
 obtain⟨d0,d1,d2,d3,d4,d5,d6,d7,d8,d9⟩:=hx.ten
 obtain⟨e0,e1,e2,e3,e4,e5⟩:=hy.six
 go_enter Tryz.func48,Tryz.ntmps48
 go_upto_region 2 with fail
 rw[HW.out]
 go_wp2_with fail
 have HC0:=hid (Below.refl W.heap.size W)
 have HA0:=HB
 refine RO.out.mono ?_
 rintro e w1 ⟨ra,rfl,hI1,hb⟩
 have I1:=hid hI1
 clear hI1
 have HA1:=hid (below_on HA0.out hb)
 have HC1:=hid (below_on HC0.out hb)
 clear hb
 clear d0 d1 d2 d3 d4 d5 d6 d7 d8 d9
 clear e0 e1 e2 e3 e4 e5
 obtain⟨d0,d1,d2,d3,d4,d5,d6,d7,d8,d9⟩:=(hx.below HC1.out).ten
 obtain⟨e0,e1,e2,e3,e4,e5⟩:=(hy.below HC1.out).six
 go_wp2_with fail
 refine (SO.out _ HA1.out).mono ?_
 rintro e w2 ⟨rfl,hb⟩
 have I2:=hid (I1.out.below hb)
 have HA2:=hid (below_on HA1.out hb)
 have HC2:=hid (below_on HC1.out hb)
 clear hb
 clear d0 d1 d2 d3 d4 d5 d6 d7 d8 d9
 clear e0 e1 e2 e3 e4 e5
 obtain⟨d0,d1,d2,d3,d4,d5,d6,d7,d8,d9⟩:=(hx.below HC2.out).ten
 obtain⟨e0,e1,e2,e3,e4,e5⟩:=(hy.below HC2.out).six
 go_wp2_with fail
 refine (AS.out _).mono ?_
 rintro e w' ⟨rfl,rfl⟩
 go_wp2_with fail
 refine (NU.out _ ra _ I2.out).mono ?_
 rintro e w3 ⟨b,rfl,hI3,hb⟩
 rw[HNL.out]at hI3
 have I3:=hid (I2.out.below hb)
 have J3:=hid hI3
 clear hI3
 have HA3:=hid (below_on HA2.out hb)
 have HC3:=hid (below_on HC2.out hb)
 clear hb
 clear d0 d1 d2 d3 d4 d5 d6 d7 d8 d9
 clear e0 e1 e2 e3 e4 e5
 obtain⟨d0,d1,d2,d3,d4,d5,d6,d7,d8,d9⟩:=(hx.below HC3.out).ten
 obtain⟨e0,e1,e2,e3,e4,e5⟩:=(hy.below HC3.out).six
 have hnl:=NL.out
 have PU:=refPut_any l nl ra b l.length 2 w3 (by omega) (by omega) HU.out I3.out J3.out
 rw[hnl,HP.out]at PU
 have PU:=hid PU
 clear hnl
 go_wp2_with fail
 refine PU.out.mono ?_
 rintro e w4 (⟨_,rfl,hb⟩|⟨bs,v4,hq,_⟩)
 case inr=>cases hq
 have HA4:=hid (below_on HA3.out hb)
 have HC4:=hid (below_on HC3.out hb)
 clear hb
 clear d0 d1 d2 d3 d4 d5 d6 d7 d8 d9
 clear e0 e1 e2 e3 e4 e5
 obtain⟨d0,d1,d2,d3,d4,d5,d6,d7,d8,d9⟩:=(hx.below HC4.out).ten
 obtain⟨e0,e1,e2,e3,e4,e5⟩:=(hy.below HC4.out).six
 go_wp2_with fail
 go_ret2
 exact .inl ⟨HN.out,rfl,HA4.out⟩
set_option maxRecDepth 100000 in
set_option maxHeartbeats 4000000 in
theorem body12_a_d0 (g:Ent12) (w:World) (hi:ActIn w g) (l:List Int) (h25:g.T≠25) (hr:row12 g.T=some l) (ho:g.o=noOx) (has:asked12 g.T g.A=0) (q2:¬countL l<2) (q1:¬countL l<1) (qT:g.T≠65535) (p:List Int) (hp:putW l (nums12 g.act l)=some p) (hd0:g.d ≠ []):
 Calls Tryz.prog 48 #[g.val] w (BodyPost12 g.act w):=by
 obtain⟨W,hW,hbW,hx,hy⟩:=act_oxm_box w g.T g.A g.B g.o.C g.o.F g.o.H g.o.X g.va g.o.v.length g.vc g.ma g.o.m.length g.mc g.da g.d.length g.dc
 have HW:=hid hW
 have HB:=hid hbW
 obtain⟨k1,k2,k3,k4,k5,k6⟩:=count_le12 g.T
 have e8:rowP g.T=l:=by simp[rowP,hr]
 have e9:(row12 g.T).isSome=true:=by rw[hr];rfl
 have RO:=hid (refRow12_any g.T W)
 rw[e8]at RO k1 k2 k3 k4 k5 k6
 rw[e9]at RO
 have c25:(g.T==25)=false:=by simpa using h25
 have SO:=hid (fun V (hV:Below w.heap.size w V)=>refSame8_any g.o.C g.o.F g.o.H g.o.X g.va g.vc g.ma g.mc 0 0 false 0 none 0 none 0 g.o.v g.o.m [] [] hi.lv hi.lm (by simp) (by simp) hi.ov hi.om (by intro x hx;cases hx) (by intro x hx;cases hx) V (hi.iv.below hV) (hi.im.below hV) (Ints.nil _ _ _) (Ints.nil _ _ _))
 have es:sameB g.o.C g.o.F g.o.H g.o.X 0 0 false 0 g.o.v g.o.m [] []=true:=(same9_iff g.o noOx).2 ho
 rw[es]at SO
 have AS:=hid (fun V=>refAsked_any g.T g.A V)
 have hH:g.o.H=false:=by rw[ho];rfl
 have HN:Hid (body12 g.act=none):=body_bad (w:=l) h25 hr (fun k=>hd0 (k.2.2.2.2.1 qT))
 rw[has]at AS
 have NU:=hid (fun (V:World) (a:Option Addr) (c:Nat) (ia:Ints .i64 V a l)=>refNums_at g.T g.A g.B g.o.C g.o.F g.o.H g.o.X g.va g.o.v.length g.vc g.ma g.o.m.length g.mc g.da g.d.length g.dc l a c (countL l) k2 k1 (by omega) V ia)
 have HU:Hid (U64s (nums12 g.act l)):=nums_u64 hi.num _
 have NL:Hid ((nums12 g.act l).length=countL l):=nums_len k1
 obtain⟨nl,hnl⟩:∃nl,nums12 g.act l=nl:=⟨_,rfl⟩
 have HNL:Hid ([g.A,g.B].take (countL l)=nl):=hnl
 rw[hnl]at HU NL hp
 have HP:=hid hp
 obtain⟨k,hk⟩:∃k,countL l=k:=⟨_,rfl⟩
 rw[hk]at NU NL HNL q1 q2 k1
 have ID:=hid hi.id
 have ld:=hi.ld
 have g2:decide ((k:Int)<2)=false:=by simp;omega
 have g2i:¬(k:Int)<2:=by omega
 have g1:decide ((k:Int)<1)=false:=by simp;omega
 have g1i:¬(k:Int)<1:=by omega
 have gT:(g.T != 65535)=true:=by simpa using qT
 have gdn:=List.length_pos_iff.2 hd0
 have gd : 0<(g.d.length:Int):=by omega
 have gdb:decide (0<g.d.length)=true:=decide_eq_true gdn
 have gdi:decide (0<(g.d.length:Int))=true:=decide_eq_true gd
 clear hi hW hbW hr e8 e9 es h25 k2 k3 k4 k6 has ho hnl hp hk q1 q2 qT hd0
 obtain⟨T,A,B,⟨C,F,H,X,v,m⟩,va,vc,ma,mc,d,da,dc⟩:=g
 have hH2:H=false:=hH
 clear hH
 subst hH2
 unfold Ent12.val at *
 simp only at *
 obtain⟨d0,d1,d2,d3,d4,d5,d6,d7,d8,d9⟩:=hx.ten
 obtain⟨e0,e1,e2,e3,e4,e5⟩:=hy.six
 go_enter Tryz.func48,Tryz.ntmps48
 go_upto_region 2 with fail
 rw[HW.out]
 go_wp2_with fail
 have HC0:=hid (Below.refl W.heap.size W)
 have HA0:=HB
 refine RO.out.mono ?_
 rintro e w1 ⟨ra,rfl,hI1,hb⟩
 have I1:=hid hI1
 clear hI1
 have HA1:=hid (below_on HA0.out hb)
 have HC1:=hid (below_on HC0.out hb)
 clear hb
 clear d0 d1 d2 d3 d4 d5 d6 d7 d8 d9
 clear e0 e1 e2 e3 e4 e5
 obtain⟨d0,d1,d2,d3,d4,d5,d6,d7,d8,d9⟩:=(hx.below HC1.out).ten
 obtain⟨e0,e1,e2,e3,e4,e5⟩:=(hy.below HC1.out).six
 go_wp2_with fail
 refine (SO.out _ HA1.out).mono ?_
 rintro e w2 ⟨rfl,hb⟩
 have I2:=hid (I1.out.below hb)
 have HA2:=hid (below_on HA1.out hb)
 have HC2:=hid (below_on HC1.out hb)
 clear hb
 clear d0 d1 d2 d3 d4 d5 d6 d7 d8 d9
 clear e0 e1 e2 e3 e4 e5
 obtain⟨d0,d1,d2,d3,d4,d5,d6,d7,d8,d9⟩:=(hx.below HC2.out).ten
 obtain⟨e0,e1,e2,e3,e4,e5⟩:=(hy.below HC2.out).six
 go_wp2_with fail
 refine (AS.out _).mono ?_
 rintro e w' ⟨rfl,rfl⟩
 go_wp2_with fail
 refine (NU.out _ ra _ I2.out).mono ?_
 rintro e w3 ⟨b,rfl,hI3,hb⟩
 rw[HNL.out]at hI3
 have I3:=hid (I2.out.below hb)
 have J3:=hid hI3
 clear hI3
 have HA3:=hid (below_on HA2.out hb)
 have HC3:=hid (below_on HC2.out hb)
 clear hb
 clear d0 d1 d2 d3 d4 d5 d6 d7 d8 d9
 clear e0 e1 e2 e3 e4 e5
 obtain⟨d0,d1,d2,d3,d4,d5,d6,d7,d8,d9⟩:=(hx.below HC3.out).ten
 obtain⟨e0,e1,e2,e3,e4,e5⟩:=(hy.below HC3.out).six
 have hnl:=NL.out
 have PU:=refPut_any l nl ra b l.length 2 w3 (by omega) (by omega) HU.out I3.out J3.out
 rw[hnl,HP.out]at PU
 have PU:=hid PU
 clear hnl
 go_wp2_with fail
 refine PU.out.mono ?_
 rintro e w4 (⟨hq,_⟩|⟨bs,v4,hq,rfl,hF⟩)
 · cases hq
 cases hq
 have hb:=hF.bel
 have HF:=hid hF
 clear hF
 have HA4:=hid (below_on HA3.out hb)
 have HC4:=hid (below_on HC3.out hb)
 clear hb
 clear d0 d1 d2 d3 d4 d5 d6 d7 d8 d9
 clear e0 e1 e2 e3 e4 e5
 obtain⟨d0,d1,d2,d3,d4,d5,d6,d7,d8,d9⟩:=(hx.below HC4.out).ten
 obtain⟨e0,e1,e2,e3,e4,e5⟩:=(hy.below HC4.out).six
 go_wp2_with fail
 go_ret2
 exact .inl ⟨HN.out,rfl,HA4.out⟩
set_option maxRecDepth 100000 in
set_option maxHeartbeats 4000000 in
theorem body12_a_ok (g:Ent12) (w:World) (hi:ActIn w g) (l:List Int) (h25:g.T≠25) (hr:row12 g.T=some l) (ho:g.o=noOx) (has:asked12 g.T g.A=0) (q2:¬countL l<2) (q1:¬countL l<1) (qT:g.T≠65535) (p:List Int) (hp:putW l (nums12 g.act l)=some p) (hd0:g.d = []):
 Calls Tryz.prog 48 #[g.val] w (BodyPost12 g.act w):=by
 obtain⟨W,hW,hbW,hx,hy⟩:=act_oxm_box w g.T g.A g.B g.o.C g.o.F g.o.H g.o.X g.va g.o.v.length g.vc g.ma g.o.m.length g.mc g.da g.d.length g.dc
 have HW:=hid hW
 have HB:=hid hbW
 obtain⟨k1,k2,k3,k4,k5,k6⟩:=count_le12 g.T
 have e8:rowP g.T=l:=by simp[rowP,hr]
 have e9:(row12 g.T).isSome=true:=by rw[hr];rfl
 have RO:=hid (refRow12_any g.T W)
 rw[e8]at RO k1 k2 k3 k4 k5 k6
 rw[e9]at RO
 have c25:(g.T==25)=false:=by simpa using h25
 have SO:=hid (fun V (hV:Below w.heap.size w V)=>refSame8_any g.o.C g.o.F g.o.H g.o.X g.va g.vc g.ma g.mc 0 0 false 0 none 0 none 0 g.o.v g.o.m [] [] hi.lv hi.lm (by simp) (by simp) hi.ov hi.om (by intro x hx;cases hx) (by intro x hx;cases hx) V (hi.iv.below hV) (hi.im.below hV) (Ints.nil _ _ _) (Ints.nil _ _ _))
 have es:sameB g.o.C g.o.F g.o.H g.o.X 0 0 false 0 g.o.v g.o.m [] []=true:=(same9_iff g.o noOx).2 ho
 rw[es]at SO
 have AS:=hid (fun V=>refAsked_any g.T g.A V)
 have hH:g.o.H=false:=by rw[ho];rfl
 have HN:Hid (body12 g.act=some (p++g.d)):=body_ok12 (w:=l) h25 hr ⟨ho,has,fun k=>absurd k q2,fun k=>absurd k q1,fun k=>hd0,by show g.d.length%8=0;rw[hd0];rfl,by show g.d.length≤65520;rw[hd0];simp⟩ hp
 rw[has]at AS
 have NU:=hid (fun (V:World) (a:Option Addr) (c:Nat) (ia:Ints .i64 V a l)=>refNums_at g.T g.A g.B g.o.C g.o.F g.o.H g.o.X g.va g.o.v.length g.vc g.ma g.o.m.length g.mc g.da g.d.length g.dc l a c (countL l) k2 k1 (by omega) V ia)
 have HU:Hid (U64s (nums12 g.act l)):=nums_u64 hi.num _
 have NL:Hid ((nums12 g.act l).length=countL l):=nums_len k1
 obtain⟨nl,hnl⟩:∃nl,nums12 g.act l=nl:=⟨_,rfl⟩
 have HNL:Hid ([g.A,g.B].take (countL l)=nl):=hnl
 rw[hnl]at HU NL hp
 have HP:=hid hp
 obtain⟨k,hk⟩:∃k,countL l=k:=⟨_,rfl⟩
 rw[hk]at NU NL HNL q1 q2 k1
 have ID:=hid hi.id
 have HK4:Hid (sizeL l≤100):=by show _≤_;omega
 have ld:=hi.ld
 have g2:decide ((k:Int)<2)=false:=by simp;omega
 have g2i:¬(k:Int)<2:=by omega
 have g1:decide ((k:Int)<1)=false:=by simp;omega
 have g1i:¬(k:Int)<1:=by omega
 have gT:(g.T != 65535)=true:=by simpa using qT
 have HD0:=hid hd0
 clear hi hW hbW hr e8 e9 es h25 k2 k3 k4 k6 has ho hnl hp hk q1 q2 qT hd0
 obtain⟨T,A,B,⟨C,F,H,X,v,m⟩,va,vc,ma,mc,d,da,dc⟩:=g
 have hH2:H=false:=hH
 clear hH
 subst hH2
 have hdd:d = []:=HD0.out
 clear HD0
 subst hdd
 unfold Ent12.val at *
 simp only[List.length_nil]at *
 obtain⟨d0,d1,d2,d3,d4,d5,d6,d7,d8,d9⟩:=hx.ten
 obtain⟨e0,e1,e2,e3,e4,e5⟩:=hy.six
 go_enter Tryz.func48,Tryz.ntmps48
 go_upto_region 2 with fail
 rw[HW.out]
 go_wp2_with fail
 have HC0:=hid (Below.refl W.heap.size W)
 have HA0:=HB
 refine RO.out.mono ?_
 rintro e w1 ⟨ra,rfl,hI1,hb⟩
 have I1:=hid hI1
 clear hI1
 have HA1:=hid (below_on HA0.out hb)
 have HC1:=hid (below_on HC0.out hb)
 clear hb
 clear d0 d1 d2 d3 d4 d5 d6 d7 d8 d9
 clear e0 e1 e2 e3 e4 e5
 obtain⟨d0,d1,d2,d3,d4,d5,d6,d7,d8,d9⟩:=(hx.below HC1.out).ten
 obtain⟨e0,e1,e2,e3,e4,e5⟩:=(hy.below HC1.out).six
 go_wp2_with fail
 refine (SO.out _ HA1.out).mono ?_
 rintro e w2 ⟨rfl,hb⟩
 have I2:=hid (I1.out.below hb)
 have HA2:=hid (below_on HA1.out hb)
 have HC2:=hid (below_on HC1.out hb)
 clear hb
 clear d0 d1 d2 d3 d4 d5 d6 d7 d8 d9
 clear e0 e1 e2 e3 e4 e5
 obtain⟨d0,d1,d2,d3,d4,d5,d6,d7,d8,d9⟩:=(hx.below HC2.out).ten
 obtain⟨e0,e1,e2,e3,e4,e5⟩:=(hy.below HC2.out).six
 go_wp2_with fail
 refine (AS.out _).mono ?_
 rintro e w' ⟨rfl,rfl⟩
 go_wp2_with fail
 refine (NU.out _ ra _ I2.out).mono ?_
 rintro e w3 ⟨b,rfl,hI3,hb⟩
 rw[HNL.out]at hI3
 have I3:=hid (I2.out.below hb)
 have J3:=hid hI3
 clear hI3
 have HA3:=hid (below_on HA2.out hb)
 have HC3:=hid (below_on HC2.out hb)
 clear hb
 clear d0 d1 d2 d3 d4 d5 d6 d7 d8 d9
 clear e0 e1 e2 e3 e4 e5
 obtain⟨d0,d1,d2,d3,d4,d5,d6,d7,d8,d9⟩:=(hx.below HC3.out).ten
 obtain⟨e0,e1,e2,e3,e4,e5⟩:=(hy.below HC3.out).six
 have hnl:=NL.out
 have PU:=refPut_any l nl ra b l.length 2 w3 (by omega) (by omega) HU.out I3.out J3.out
 rw[hnl,HP.out]at PU
 have PU:=hid PU
 clear hnl
 go_wp2_with fail
 refine PU.out.mono ?_
 rintro e w4 (⟨hq,_⟩|⟨bs,v4,hq,rfl,hF⟩)
 · cases hq
 cases hq
 have hb:=hF.bel
 have HF:=hid hF
 clear hF
 have HA4:=hid (below_on HA3.out hb)
 have HC4:=hid (below_on HC3.out hb)
 clear hb
 clear d0 d1 d2 d3 d4 d5 d6 d7 d8 d9
 clear e0 e1 e2 e3 e4 e5
 obtain⟨d0,d1,d2,d3,d4,d5,d6,d7,d8,d9⟩:=(hx.below HC4.out).ten
 obtain⟨e0,e1,e2,e3,e4,e5⟩:=(hy.below HC4.out).six
 have HPL:Hid (p.length≤100):=by
  have h1:=putL_octets (show putL l nl=some p by have h:=HP.out;unfold putW at h;split at h;exact h;cases h)
  show p.length≤100
  rw[h1.2]
  exact HK4.out
 obtain⟨xs,hxs⟩:∃xs,p ++ []=xs:=⟨_,rfl⟩
 have HXS:=hid hxs
 have HXL:Hid (xs.length≤200000):=by show _≤_;rw[←hxs,List.length_append];have:=HPL.out;(try simp only[List.length_nil]);omega
 rw[hxs]at HN
 clear hxs
 go_wp2_with (at_builtin;refine wp_app_ints rfl _ _ rfl elemU8 rfl HF.out.own rfl (l:=[]) rfl (ID.out.below HA4.out) HXS.out (by have:=HXL.out;omega) (by have:=HXL.out;omega) ?_;intro a5 c5 w5 hl5 hc5 hI5 hg5;have hF5:=HF.out.step hg5)
 go_ret2
 exact .inr ⟨xs,a5,c5,HN.out,rfl,below_on HA3.out hF5.bel,hI5⟩
set_option maxRecDepth 100000 in
set_option maxHeartbeats 4000000 in
theorem body12_b_put (g:Ent12) (w:World) (hi:ActIn w g) (l:List Int) (h25:g.T≠25) (hr:row12 g.T=some l) (ho:g.o=noOx) (has:asked12 g.T g.A=0) (q2:countL l<2) (q1:¬countL l<1) (qT:g.T≠65535) (hp:putW l (nums12 g.act l)=none):
 Calls Tryz.prog 48 #[g.val] w (BodyPost12 g.act w):=by
 obtain⟨W,hW,hbW,hx,hy⟩:=act_oxm_box w g.T g.A g.B g.o.C g.o.F g.o.H g.o.X g.va g.o.v.length g.vc g.ma g.o.m.length g.mc g.da g.d.length g.dc
 have HW:=hid hW
 have HB:=hid hbW
 obtain⟨k1,k2,k3,k4,k5,k6⟩:=count_le12 g.T
 have e8:rowP g.T=l:=by simp[rowP,hr]
 have e9:(row12 g.T).isSome=true:=by rw[hr];rfl
 have RO:=hid (refRow12_any g.T W)
 rw[e8]at RO k1 k2 k3 k4 k5 k6
 rw[e9]at RO
 have c25:(g.T==25)=false:=by simpa using h25
 have SO:=hid (fun V (hV:Below w.heap.size w V)=>refSame8_any g.o.C g.o.F g.o.H g.o.X g.va g.vc g.ma g.mc 0 0 false 0 none 0 none 0 g.o.v g.o.m [] [] hi.lv hi.lm (by simp) (by simp) hi.ov hi.om (by intro x hx;cases hx) (by intro x hx;cases hx) V (hi.iv.below hV) (hi.im.below hV) (Ints.nil _ _ _) (Ints.nil _ _ _))
 have es:sameB g.o.C g.o.F g.o.H g.o.X 0 0 false 0 g.o.v g.o.m [] []=true:=(same9_iff g.o noOx).2 ho
 rw[es]at SO
 have AS:=hid (fun V=>refAsked_any g.T g.A V)
 have hH:g.o.H=false:=by rw[ho];rfl
 have HN:Hid (body12 g.act=none):=body_noput (w:=l) h25 hr hp
 rw[has]at AS
 have NU:=hid (fun (V:World) (a:Option Addr) (c:Nat) (ia:Ints .i64 V a l)=>refNums_at g.T g.A g.B g.o.C g.o.F g.o.H g.o.X g.va g.o.v.length g.vc g.ma g.o.m.length g.mc g.da g.d.length g.dc l a c (countL l) k2 k1 (by omega) V ia)
 have HU:Hid (U64s (nums12 g.act l)):=nums_u64 hi.num _
 have NL:Hid ((nums12 g.act l).length=countL l):=nums_len k1
 obtain⟨nl,hnl⟩:∃nl,nums12 g.act l=nl:=⟨_,rfl⟩
 have HNL:Hid ([g.A,g.B].take (countL l)=nl):=hnl
 rw[hnl]at HU NL hp
 have HP:=hid hp
 obtain⟨k,hk⟩:∃k,countL l=k:=⟨_,rfl⟩
 rw[hk]at NU NL HNL q1 q2 k1
 have ID:=hid hi.id
 have ld:=hi.ld
 have g2:decide ((k:Int)<2)=true:=by simp;omega
 have g2i:(k:Int)<2:=by omega
 have gT:(g.T != 65535)=true:=by simpa using qT
 clear hi hW hbW hr e8 e9 es h25 k2 k3 k4 k6 has ho hnl hp hk q1 q2 qT
 obtain⟨T,A,B,⟨C,F,H,X,v,m⟩,va,vc,ma,mc,d,da,dc⟩:=g
 have hH2:H=false:=hH
 clear hH
 subst hH2
 unfold Ent12.val at *
 simp only at *
 obtain⟨d0,d1,d2,d3,d4,d5,d6,d7,d8,d9⟩:=hx.ten
 obtain⟨e0,e1,e2,e3,e4,e5⟩:=hy.six
 go_enter Tryz.func48,Tryz.ntmps48
 go_upto_region 2 with fail
 rw[HW.out]
 go_wp2_with fail
 have HC0:=hid (Below.refl W.heap.size W)
 have HA0:=HB
 refine RO.out.mono ?_
 rintro e w1 ⟨ra,rfl,hI1,hb⟩
 have I1:=hid hI1
 clear hI1
 have HA1:=hid (below_on HA0.out hb)
 have HC1:=hid (below_on HC0.out hb)
 clear hb
 clear d0 d1 d2 d3 d4 d5 d6 d7 d8 d9
 clear e0 e1 e2 e3 e4 e5
 obtain⟨d0,d1,d2,d3,d4,d5,d6,d7,d8,d9⟩:=(hx.below HC1.out).ten
 obtain⟨e0,e1,e2,e3,e4,e5⟩:=(hy.below HC1.out).six
 go_wp2_with fail
 refine (SO.out _ HA1.out).mono ?_
 rintro e w2 ⟨rfl,hb⟩
 have I2:=hid (I1.out.below hb)
 have HA2:=hid (below_on HA1.out hb)
 have HC2:=hid (below_on HC1.out hb)
 clear hb
 clear d0 d1 d2 d3 d4 d5 d6 d7 d8 d9
 clear e0 e1 e2 e3 e4 e5
 obtain⟨d0,d1,d2,d3,d4,d5,d6,d7,d8,d9⟩:=(hx.below HC2.out).ten
 obtain⟨e0,e1,e2,e3,e4,e5⟩:=(hy.below HC2.out).six
 go_wp2_with fail
 refine (AS.out _).mono ?_
 rintro e w' ⟨rfl,rfl⟩
 go_wp2_with fail
 refine (NU.out _ ra _ I2.out).mono ?_
 rintro e w3 ⟨b,rfl,hI3,hb⟩
 rw[HNL.out]at hI3
 have I3:=hid (I2.out.below hb)
 have J3:=hid hI3
 clear hI3
 have HA3:=hid (below_on HA2.out hb)
 have HC3:=hid (below_on HC2.out hb)
 clear hb
 clear d0 d1 d2 d3 d4 d5 d6 d7 d8 d9
 clear e0 e1 e2 e3 e4 e5
 obtain⟨d0,d1,d2,d3,d4,d5,d6,d7,d8,d9⟩:=(hx.below HC3.out).ten
 obtain⟨e0,e1,e2,e3,e4,e5⟩:=(hy.below HC3.out).six
 have hnl:=NL.out
 have PU:=refPut_any l nl ra b l.length 2 w3 (by omega) (by omega) HU.out I3.out J3.out
 rw[hnl,HP.out]at PU
 have PU:=hid PU
 clear hnl
 go_wp2_with fail
 refine PU.out.mono ?_
 rintro e w4 (⟨_,rfl,hb⟩|⟨bs,v4,hq,_⟩)
 case inr=>cases hq
 have HA4:=hid (below_on HA3.out hb)
 have HC4:=hid (below_on HC3.out hb)
 clear hb
 clear d0 d1 d2 d3 d4 d5 d6 d7 d8 d9
 clear e0 e1 e2 e3 e4 e5
 obtain⟨d0,d1,d2,d3,d4,d5,d6,d7,d8,d9⟩:=(hx.below HC4.out).ten
 obtain⟨e0,e1,e2,e3,e4,e5⟩:=(hy.below HC4.out).six
 go_wp2_with fail
 go_ret2
 exact .inl ⟨HN.out,rfl,HA4.out⟩
set_option maxRecDepth 100000 in
set_option maxHeartbeats 4000000 in
theorem body12_b_B (g:Ent12) (w:World) (hi:ActIn w g) (l:List Int) (h25:g.T≠25) (hr:row12 g.T=some l) (ho:g.o=noOx) (has:asked12 g.T g.A=0) (q2:countL l<2) (q1:¬countL l<1) (qT:g.T≠65535) (p:List Int) (hp:putW l (nums12 g.act l)=some p) (hB:g.B≠0):
 Calls Tryz.prog 48 #[g.val] w (BodyPost12 g.act w):=by
 obtain⟨W,hW,hbW,hx,hy⟩:=act_oxm_box w g.T g.A g.B g.o.C g.o.F g.o.H g.o.X g.va g.o.v.length g.vc g.ma g.o.m.length g.mc g.da g.d.length g.dc
 have HW:=hid hW
 have HB:=hid hbW
 obtain⟨k1,k2,k3,k4,k5,k6⟩:=count_le12 g.T
 have e8:rowP g.T=l:=by simp[rowP,hr]
 have e9:(row12 g.T).isSome=true:=by rw[hr];rfl
 have RO:=hid (refRow12_any g.T W)
 rw[e8]at RO k1 k2 k3 k4 k5 k6
 rw[e9]at RO
 have c25:(g.T==25)=false:=by simpa using h25
 have SO:=hid (fun V (hV:Below w.heap.size w V)=>refSame8_any g.o.C g.o.F g.o.H g.o.X g.va g.vc g.ma g.mc 0 0 false 0 none 0 none 0 g.o.v g.o.m [] [] hi.lv hi.lm (by simp) (by simp) hi.ov hi.om (by intro x hx;cases hx) (by intro x hx;cases hx) V (hi.iv.below hV) (hi.im.below hV) (Ints.nil _ _ _) (Ints.nil _ _ _))
 have es:sameB g.o.C g.o.F g.o.H g.o.X 0 0 false 0 g.o.v g.o.m [] []=true:=(same9_iff g.o noOx).2 ho
 rw[es]at SO
 have AS:=hid (fun V=>refAsked_any g.T g.A V)
 have hH:g.o.H=false:=by rw[ho];rfl
 have HN:Hid (body12 g.act=none):=body_bad (w:=l) h25 hr (fun k=>hB (k.2.2.1 q2))
 rw[has]at AS
 have NU:=hid (fun (V:World) (a:Option Addr) (c:Nat) (ia:Ints .i64 V a l)=>refNums_at g.T g.A g.B g.o.C g.o.F g.o.H g.o.X g.va g.o.v.length g.vc g.ma g.o.m.length g.mc g.da g.d.length g.dc l a c (countL l) k2 k1 (by omega) V ia)
 have HU:Hid (U64s (nums12 g.act l)):=nums_u64 hi.num _
 have NL:Hid ((nums12 g.act l).length=countL l):=nums_len k1
 obtain⟨nl,hnl⟩:∃nl,nums12 g.act l=nl:=⟨_,rfl⟩
 have HNL:Hid ([g.A,g.B].take (countL l)=nl):=hnl
 rw[hnl]at HU NL hp
 have HP:=hid hp
 obtain⟨k,hk⟩:∃k,countL l=k:=⟨_,rfl⟩
 rw[hk]at NU NL HNL q1 q2 k1
 have ID:=hid hi.id
 have ld:=hi.ld
 have g2:decide ((k:Int)<2)=true:=by simp;omega
 have g2i:(k:Int)<2:=by omega
 have gB:(g.B != 0)=true:=by simpa using hB
 have gT:(g.T != 65535)=true:=by simpa using qT
 clear hi hW hbW hr e8 e9 es h25 k2 k3 k4 k6 has ho hnl hp hk q1 q2 qT hB
 obtain⟨T,A,B,⟨C,F,H,X,v,m⟩,va,vc,ma,mc,d,da,dc⟩:=g
 have hH2:H=false:=hH
 clear hH
 subst hH2
 unfold Ent12.val at *
 simp only at *
 obtain⟨d0,d1,d2,d3,d4,d5,d6,d7,d8,d9⟩:=hx.ten
 obtain⟨e0,e1,e2,e3,e4,e5⟩:=hy.six
 go_enter Tryz.func48,Tryz.ntmps48
 go_upto_region 2 with fail
 rw[HW.out]
 go_wp2_with fail
 have HC0:=hid (Below.refl W.heap.size W)
 have HA0:=HB
 refine RO.out.mono ?_
 rintro e w1 ⟨ra,rfl,hI1,hb⟩
 have I1:=hid hI1
 clear hI1
 have HA1:=hid (below_on HA0.out hb)
 have HC1:=hid (below_on HC0.out hb)
 clear hb
 clear d0 d1 d2 d3 d4 d5 d6 d7 d8 d9
 clear e0 e1 e2 e3 e4 e5
 obtain⟨d0,d1,d2,d3,d4,d5,d6,d7,d8,d9⟩:=(hx.below HC1.out).ten
 obtain⟨e0,e1,e2,e3,e4,e5⟩:=(hy.below HC1.out).six
 go_wp2_with fail
 refine (SO.out _ HA1.out).mono ?_
 rintro e w2 ⟨rfl,hb⟩
 have I2:=hid (I1.out.below hb)
 have HA2:=hid (below_on HA1.out hb)
 have HC2:=hid (below_on HC1.out hb)
 clear hb
 clear d0 d1 d2 d3 d4 d5 d6 d7 d8 d9
 clear e0 e1 e2 e3 e4 e5
 obtain⟨d0,d1,d2,d3,d4,d5,d6,d7,d8,d9⟩:=(hx.below HC2.out).ten
 obtain⟨e0,e1,e2,e3,e4,e5⟩:=(hy.below HC2.out).six
 go_wp2_with fail
 refine (AS.out _).mono ?_
 rintro e w' ⟨rfl,rfl⟩
 go_wp2_with fail
 refine (NU.out _ ra _ I2.out).mono ?_
 rintro e w3 ⟨b,rfl,hI3,hb⟩
 rw[HNL.out]at hI3
 have I3:=hid (I2.out.below hb)
 have J3:=hid hI3
 clear hI3
 have HA3:=hid (below_on HA2.out hb)
 have HC3:=hid (below_on HC2.out hb)
 clear hb
 clear d0 d1 d2 d3 d4 d5 d6 d7 d8 d9
 clear e0 e1 e2 e3 e4 e5
 obtain⟨d0,d1,d2,d3,d4,d5,d6,d7,d8,d9⟩:=(hx.below HC3.out).ten
 obtain⟨e0,e1,e2,e3,e4,e5⟩:=(hy.below HC3.out).six
 have hnl:=NL.out
 have PU:=refPut_any l nl ra b l.length 2 w3 (by omega) (by omega) HU.out I3.out J3.out
 rw[hnl,HP.out]at PU
 have PU:=hid PU
 clear hnl
 go_wp2_with fail
 refine PU.out.mono ?_
 rintro e w4 (⟨hq,_⟩|⟨bs,v4,hq,rfl,hF⟩)
 · cases hq
 cases hq
 have hb:=hF.bel
 have HF:=hid hF
 clear hF
 have HA4:=hid (below_on HA3.out hb)
 have HC4:=hid (below_on HC3.out hb)
 clear hb
 clear d0 d1 d2 d3 d4 d5 d6 d7 d8 d9
 clear e0 e1 e2 e3 e4 e5
 obtain⟨d0,d1,d2,d3,d4,d5,d6,d7,d8,d9⟩:=(hx.below HC4.out).ten
 obtain⟨e0,e1,e2,e3,e4,e5⟩:=(hy.below HC4.out).six
 go_wp2_with fail
 go_ret2
 exact .inl ⟨HN.out,rfl,HA4.out⟩
set_option maxRecDepth 100000 in
set_option maxHeartbeats 4000000 in
theorem body12_b_d0 (g:Ent12) (w:World) (hi:ActIn w g) (l:List Int) (h25:g.T≠25) (hr:row12 g.T=some l) (ho:g.o=noOx) (has:asked12 g.T g.A=0) (q2:countL l<2) (q1:¬countL l<1) (qT:g.T≠65535) (p:List Int) (hp:putW l (nums12 g.act l)=some p) (hB:g.B=0) (hd0:g.d ≠ []):
 Calls Tryz.prog 48 #[g.val] w (BodyPost12 g.act w):=by
 obtain⟨W,hW,hbW,hx,hy⟩:=act_oxm_box w g.T g.A g.B g.o.C g.o.F g.o.H g.o.X g.va g.o.v.length g.vc g.ma g.o.m.length g.mc g.da g.d.length g.dc
 have HW:=hid hW
 have HB:=hid hbW
 obtain⟨k1,k2,k3,k4,k5,k6⟩:=count_le12 g.T
 have e8:rowP g.T=l:=by simp[rowP,hr]
 have e9:(row12 g.T).isSome=true:=by rw[hr];rfl
 have RO:=hid (refRow12_any g.T W)
 rw[e8]at RO k1 k2 k3 k4 k5 k6
 rw[e9]at RO
 have c25:(g.T==25)=false:=by simpa using h25
 have SO:=hid (fun V (hV:Below w.heap.size w V)=>refSame8_any g.o.C g.o.F g.o.H g.o.X g.va g.vc g.ma g.mc 0 0 false 0 none 0 none 0 g.o.v g.o.m [] [] hi.lv hi.lm (by simp) (by simp) hi.ov hi.om (by intro x hx;cases hx) (by intro x hx;cases hx) V (hi.iv.below hV) (hi.im.below hV) (Ints.nil _ _ _) (Ints.nil _ _ _))
 have es:sameB g.o.C g.o.F g.o.H g.o.X 0 0 false 0 g.o.v g.o.m [] []=true:=(same9_iff g.o noOx).2 ho
 rw[es]at SO
 have AS:=hid (fun V=>refAsked_any g.T g.A V)
 have hH:g.o.H=false:=by rw[ho];rfl
 have HN:Hid (body12 g.act=none):=body_bad (w:=l) h25 hr (fun k=>hd0 (k.2.2.2.2.1 qT))
 rw[has]at AS
 have NU:=hid (fun (V:World) (a:Option Addr) (c:Nat) (ia:Ints .i64 V a l)=>refNums_at g.T g.A g.B g.o.C g.o.F g.o.H g.o.X g.va g.o.v.length g.vc g.ma g.o.m.length g.mc g.da g.d.length g.dc l a c (countL l) k2 k1 (by omega) V ia)
 have HU:Hid (U64s (nums12 g.act l)):=nums_u64 hi.num _
 have NL:Hid ((nums12 g.act l).length=countL l):=nums_len k1
 obtain⟨nl,hnl⟩:∃nl,nums12 g.act l=nl:=⟨_,rfl⟩
 have HNL:Hid ([g.A,g.B].take (countL l)=nl):=hnl
 rw[hnl]at HU NL hp
 have HP:=hid hp
 obtain⟨k,hk⟩:∃k,countL l=k:=⟨_,rfl⟩
 rw[hk]at NU NL HNL q1 q2 k1
 have ID:=hid hi.id
 have ld:=hi.ld
 have g2:decide ((k:Int)<2)=true:=by simp;omega
 have g2i:(k:Int)<2:=by omega
 have g1:decide ((k:Int)<1)=false:=by simp;omega
 have g1i:¬(k:Int)<1:=by omega
 have gB:(g.B != 0)=false:=by simpa using hB
 have gT:(g.T != 65535)=true:=by simpa using qT
 have gdn:=List.length_pos_iff.2 hd0
 have gd : 0<(g.d.length:Int):=by omega
 have gdb:decide (0<g.d.length)=true:=decide_eq_true gdn
 have gdi:decide (0<(g.d.length:Int))=true:=decide_eq_true gd
 clear hi hW hbW hr e8 e9 es h25 k2 k3 k4 k6 has ho hnl hp hk q1 q2 qT hB hd0
 obtain⟨T,A,B,⟨C,F,H,X,v,m⟩,va,vc,ma,mc,d,da,dc⟩:=g
 have hH2:H=false:=hH
 clear hH
 subst hH2
 unfold Ent12.val at *
 simp only at *
 obtain⟨d0,d1,d2,d3,d4,d5,d6,d7,d8,d9⟩:=hx.ten
 obtain⟨e0,e1,e2,e3,e4,e5⟩:=hy.six
 go_enter Tryz.func48,Tryz.ntmps48
 go_upto_region 2 with fail
 rw[HW.out]
 go_wp2_with fail
 have HC0:=hid (Below.refl W.heap.size W)
 have HA0:=HB
 refine RO.out.mono ?_
 rintro e w1 ⟨ra,rfl,hI1,hb⟩
 have I1:=hid hI1
 clear hI1
 have HA1:=hid (below_on HA0.out hb)
 have HC1:=hid (below_on HC0.out hb)
 clear hb
 clear d0 d1 d2 d3 d4 d5 d6 d7 d8 d9
 clear e0 e1 e2 e3 e4 e5
 obtain⟨d0,d1,d2,d3,d4,d5,d6,d7,d8,d9⟩:=(hx.below HC1.out).ten
 obtain⟨e0,e1,e2,e3,e4,e5⟩:=(hy.below HC1.out).six
 go_wp2_with fail
 refine (SO.out _ HA1.out).mono ?_
 rintro e w2 ⟨rfl,hb⟩
 have I2:=hid (I1.out.below hb)
 have HA2:=hid (below_on HA1.out hb)
 have HC2:=hid (below_on HC1.out hb)
 clear hb
 clear d0 d1 d2 d3 d4 d5 d6 d7 d8 d9
 clear e0 e1 e2 e3 e4 e5
 obtain⟨d0,d1,d2,d3,d4,d5,d6,d7,d8,d9⟩:=(hx.below HC2.out).ten
 obtain⟨e0,e1,e2,e3,e4,e5⟩:=(hy.below HC2.out).six
 go_wp2_with fail
 refine (AS.out _).mono ?_
 rintro e w' ⟨rfl,rfl⟩
 go_wp2_with fail
 refine (NU.out _ ra _ I2.out).mono ?_
 rintro e w3 ⟨b,rfl,hI3,hb⟩
 rw[HNL.out]at hI3
 have I3:=hid (I2.out.below hb)
 have J3:=hid hI3
 clear hI3
 have HA3:=hid (below_on HA2.out hb)
 have HC3:=hid (below_on HC2.out hb)
 clear hb
 clear d0 d1 d2 d3 d4 d5 d6 d7 d8 d9
 clear e0 e1 e2 e3 e4 e5
 obtain⟨d0,d1,d2,d3,d4,d5,d6,d7,d8,d9⟩:=(hx.below HC3.out).ten
 obtain⟨e0,e1,e2,e3,e4,e5⟩:=(hy.below HC3.out).six
 have hnl:=NL.out
 have PU:=refPut_any l nl ra b l.length 2 w3 (by omega) (by omega) HU.out I3.out J3.out
 rw[hnl,HP.out]at PU
 have PU:=hid PU
 clear hnl
 go_wp2_with fail
 refine PU.out.mono ?_
 rintro e w4 (⟨hq,_⟩|⟨bs,v4,hq,rfl,hF⟩)
 · cases hq
 cases hq
 have hb:=hF.bel
 have HF:=hid hF
 clear hF
 have HA4:=hid (below_on HA3.out hb)
 have HC4:=hid (below_on HC3.out hb)
 clear hb
 clear d0 d1 d2 d3 d4 d5 d6 d7 d8 d9
 clear e0 e1 e2 e3 e4 e5
 obtain⟨d0,d1,d2,d3,d4,d5,d6,d7,d8,d9⟩:=(hx.below HC4.out).ten
 obtain⟨e0,e1,e2,e3,e4,e5⟩:=(hy.below HC4.out).six
 go_wp2_with fail
 go_ret2
 exact .inl ⟨HN.out,rfl,HA4.out⟩
set_option maxRecDepth 100000 in
set_option maxHeartbeats 4000000 in
theorem body12_b_ok (g:Ent12) (w:World) (hi:ActIn w g) (l:List Int) (h25:g.T≠25) (hr:row12 g.T=some l) (ho:g.o=noOx) (has:asked12 g.T g.A=0) (q2:countL l<2) (q1:¬countL l<1) (qT:g.T≠65535) (p:List Int) (hp:putW l (nums12 g.act l)=some p) (hB:g.B=0) (hd0:g.d = []):
 Calls Tryz.prog 48 #[g.val] w (BodyPost12 g.act w):=by
 obtain⟨W,hW,hbW,hx,hy⟩:=act_oxm_box w g.T g.A g.B g.o.C g.o.F g.o.H g.o.X g.va g.o.v.length g.vc g.ma g.o.m.length g.mc g.da g.d.length g.dc
 have HW:=hid hW
 have HB:=hid hbW
 obtain⟨k1,k2,k3,k4,k5,k6⟩:=count_le12 g.T
 have e8:rowP g.T=l:=by simp[rowP,hr]
 have e9:(row12 g.T).isSome=true:=by rw[hr];rfl
 have RO:=hid (refRow12_any g.T W)
 rw[e8]at RO k1 k2 k3 k4 k5 k6
 rw[e9]at RO
 have c25:(g.T==25)=false:=by simpa using h25
 have SO:=hid (fun V (hV:Below w.heap.size w V)=>refSame8_any g.o.C g.o.F g.o.H g.o.X g.va g.vc g.ma g.mc 0 0 false 0 none 0 none 0 g.o.v g.o.m [] [] hi.lv hi.lm (by simp) (by simp) hi.ov hi.om (by intro x hx;cases hx) (by intro x hx;cases hx) V (hi.iv.below hV) (hi.im.below hV) (Ints.nil _ _ _) (Ints.nil _ _ _))
 have es:sameB g.o.C g.o.F g.o.H g.o.X 0 0 false 0 g.o.v g.o.m [] []=true:=(same9_iff g.o noOx).2 ho
 rw[es]at SO
 have AS:=hid (fun V=>refAsked_any g.T g.A V)
 have hH:g.o.H=false:=by rw[ho];rfl
 have HN:Hid (body12 g.act=some (p++g.d)):=body_ok12 (w:=l) h25 hr ⟨ho,has,fun k=>hB,fun k=>absurd k q1,fun k=>hd0,by show g.d.length%8=0;rw[hd0];rfl,by show g.d.length≤65520;rw[hd0];simp⟩ hp
 rw[has]at AS
 have NU:=hid (fun (V:World) (a:Option Addr) (c:Nat) (ia:Ints .i64 V a l)=>refNums_at g.T g.A g.B g.o.C g.o.F g.o.H g.o.X g.va g.o.v.length g.vc g.ma g.o.m.length g.mc g.da g.d.length g.dc l a c (countL l) k2 k1 (by omega) V ia)
 have HU:Hid (U64s (nums12 g.act l)):=nums_u64 hi.num _
 have NL:Hid ((nums12 g.act l).length=countL l):=nums_len k1
 obtain⟨nl,hnl⟩:∃nl,nums12 g.act l=nl:=⟨_,rfl⟩
 have HNL:Hid ([g.A,g.B].take (countL l)=nl):=hnl
 rw[hnl]at HU NL hp
 have HP:=hid hp
 obtain⟨k,hk⟩:∃k,countL l=k:=⟨_,rfl⟩
 rw[hk]at NU NL HNL q1 q2 k1
 have ID:=hid hi.id
 have HK4:Hid (sizeL l≤100):=by show _≤_;omega
 have ld:=hi.ld
 have g2:decide ((k:Int)<2)=true:=by simp;omega
 have g2i:(k:Int)<2:=by omega
 have g1:decide ((k:Int)<1)=false:=by simp;omega
 have g1i:¬(k:Int)<1:=by omega
 have gB:(g.B != 0)=false:=by simpa using hB
 have gT:(g.T != 65535)=true:=by simpa using qT
 have HD0:=hid hd0
 clear hi hW hbW hr e8 e9 es h25 k2 k3 k4 k6 has ho hnl hp hk q1 q2 qT hB hd0
 obtain⟨T,A,B,⟨C,F,H,X,v,m⟩,va,vc,ma,mc,d,da,dc⟩:=g
 have hH2:H=false:=hH
 clear hH
 subst hH2
 have hdd:d = []:=HD0.out
 clear HD0
 subst hdd
 unfold Ent12.val at *
 simp only[List.length_nil]at *
 obtain⟨d0,d1,d2,d3,d4,d5,d6,d7,d8,d9⟩:=hx.ten
 obtain⟨e0,e1,e2,e3,e4,e5⟩:=hy.six
 go_enter Tryz.func48,Tryz.ntmps48
 go_upto_region 2 with fail
 rw[HW.out]
 go_wp2_with fail
 have HC0:=hid (Below.refl W.heap.size W)
 have HA0:=HB
 refine RO.out.mono ?_
 rintro e w1 ⟨ra,rfl,hI1,hb⟩
 have I1:=hid hI1
 clear hI1
 have HA1:=hid (below_on HA0.out hb)
 have HC1:=hid (below_on HC0.out hb)
 clear hb
 clear d0 d1 d2 d3 d4 d5 d6 d7 d8 d9
 clear e0 e1 e2 e3 e4 e5
 obtain⟨d0,d1,d2,d3,d4,d5,d6,d7,d8,d9⟩:=(hx.below HC1.out).ten
 obtain⟨e0,e1,e2,e3,e4,e5⟩:=(hy.below HC1.out).six
 go_wp2_with fail
 refine (SO.out _ HA1.out).mono ?_
 rintro e w2 ⟨rfl,hb⟩
 have I2:=hid (I1.out.below hb)
 have HA2:=hid (below_on HA1.out hb)
 have HC2:=hid (below_on HC1.out hb)
 clear hb
 clear d0 d1 d2 d3 d4 d5 d6 d7 d8 d9
 clear e0 e1 e2 e3 e4 e5
 obtain⟨d0,d1,d2,d3,d4,d5,d6,d7,d8,d9⟩:=(hx.below HC2.out).ten
 obtain⟨e0,e1,e2,e3,e4,e5⟩:=(hy.below HC2.out).six
 go_wp2_with fail
 refine (AS.out _).mono ?_
 rintro e w' ⟨rfl,rfl⟩
 go_wp2_with fail
 refine (NU.out _ ra _ I2.out).mono ?_
 rintro e w3 ⟨b,rfl,hI3,hb⟩
 rw[HNL.out]at hI3
 have I3:=hid (I2.out.below hb)
 have J3:=hid hI3
 clear hI3
 have HA3:=hid (below_on HA2.out hb)
 have HC3:=hid (below_on HC2.out hb)
 clear hb
 clear d0 d1 d2 d3 d4 d5 d6 d7 d8 d9
 clear e0 e1 e2 e3 e4 e5
 obtain⟨d0,d1,d2,d3,d4,d5,d6,d7,d8,d9⟩:=(hx.below HC3.out).ten
 obtain⟨e0,e1,e2,e3,e4,e5⟩:=(hy.below HC3.out).six
 have hnl:=NL.out
 have PU:=refPut_any l nl ra b l.length 2 w3 (by omega) (by omega) HU.out I3.out J3.out
 rw[hnl,HP.out]at PU
 have PU:=hid PU
 clear hnl
 go_wp2_with fail
 refine PU.out.mono ?_
 rintro e w4 (⟨hq,_⟩|⟨bs,v4,hq,rfl,hF⟩)
 · cases hq
 cases hq
 have hb:=hF.bel
 have HF:=hid hF
 clear hF
 have HA4:=hid (below_on HA3.out hb)
 have HC4:=hid (below_on HC3.out hb)
 clear hb
 clear d0 d1 d2 d3 d4 d5 d6 d7 d8 d9
 clear e0 e1 e2 e3 e4 e5
 obtain⟨d0,d1,d2,d3,d4,d5,d6,d7,d8,d9⟩:=(hx.below HC4.out).ten
 obtain⟨e0,e1,e2,e3,e4,e5⟩:=(hy.below HC4.out).six
 have HPL:Hid (p.length≤100):=by
  have h1:=putL_octets (show putL l nl=some p by have h:=HP.out;unfold putW at h;split at h;exact h;cases h)
  show p.length≤100
  rw[h1.2]
  exact HK4.out
 obtain⟨xs,hxs⟩:∃xs,p ++ []=xs:=⟨_,rfl⟩
 have HXS:=hid hxs
 have HXL:Hid (xs.length≤200000):=by show _≤_;rw[←hxs,List.length_append];have:=HPL.out;(try simp only[List.length_nil]);omega
 rw[hxs]at HN
 clear hxs
 go_wp2_with (at_builtin;refine wp_app_ints rfl _ _ rfl elemU8 rfl HF.out.own rfl (l:=[]) rfl (ID.out.below HA4.out) HXS.out (by have:=HXL.out;omega) (by have:=HXL.out;omega) ?_;intro a5 c5 w5 hl5 hc5 hI5 hg5;have hF5:=HF.out.step hg5)
 go_ret2
 exact .inr ⟨xs,a5,c5,HN.out,rfl,below_on HA3.out hF5.bel,hI5⟩
end Go.Proofs.YthpdkancighknaaGreat
