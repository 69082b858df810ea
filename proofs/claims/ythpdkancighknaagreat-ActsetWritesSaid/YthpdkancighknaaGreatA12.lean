/- Put together out of several texts. -/
import Derived.Test.YthpdkancighknaaGreatA10
import Derived.Test.YthpdkancighknaaGreatA3
import Derived.Test.YthpdkancighknaaGreatA2
import Derived.Deep.RegionWith
import Derived.Test.YthpdkancighknaaGreatA4
namespace Go.Proofs.YthpdkancighknaaGreat
open Go.RowKit
set_option linter.unusedVariables false
def wset12 (o:Ox9):Int:=if o.C=32768∧2<o.F∧o.F<39 then (if o.H=false∧right10 o=true then 0 else 528) else 526
set_option maxRecDepth 100000 in
set_option maxHeartbeats 2000000 in
theorem wrongSet_any (o:Ox9) (va:Option Addr) (vc:Nat) (ma:Option Addr) (mc:Nat) (w:World) (hv:o.v.length≤1000) (hm:o.m.length≤1000) (hmc:o.m.length≤mc) (ov:Octets o.v) (om:Octets o.m) (iv:Ints .u8 w va o.v) (im:Ints .u8 w ma o.m):
 Calls Tryz.prog 54 #[.agg #[.int .i64 o.C,.int .i64 o.F,.bool o.H,.int .u64 o.X,.slice va o.v.length vc,.slice ma o.m.length mc]] w fun e w'=>e = .returned (.int .i64 (wset12 o))∧Below w.heap.size w w':=by
 obtain⟨W,hW,hbW,hx⟩:=oxm_box w o.C o.F o.H o.X va o.v.length vc ma o.m.length mc
 have HW:=hid hW
 have HB:=hid hbW
 have RI:=hid (fun (n:Wk W)=>right8_any o.C o.F o.H o.X va vc ma mc o.v o.m hv hm hmc ov om n.val ((iv.below HB.out).below n.bel) ((im.below HB.out).below n.bel))
 have ST:=hid (fun (V:World)=>fldSettable_any o.F V)
 obtain⟨C,F,H,X,v,m⟩:=o
 simp only at *
 obtain⟨r,hr⟩:∃r,rightB C F H X v m=r:=⟨_,rfl⟩
 obtain⟨s,hs⟩:∃s,decide (2<F∧F<39)=s:=⟨_,rfl⟩
 have ways:((C != 32768)=true∧wset12 ⟨C,F,H,X,v,m⟩=526)∨((C != 32768)=false∧s=false∧wset12 ⟨C,F,H,X,v,m⟩=526)∨((C != 32768)=false∧s=true∧H=true∧wset12 ⟨C,F,H,X,v,m⟩=528)∨((C != 32768)=false∧s=true∧H=false∧r=false∧wset12 ⟨C,F,H,X,v,m⟩=528)∨((C != 32768)=false∧s=true∧H=false∧r=true∧wset12 ⟨C,F,H,X,v,m⟩=0):=by
  unfold wset12 right10
  simp only[hr]
  by_cases h1:C=32768
  · subst h1
    cases s
    · have:¬(2<F∧F<39):=by simpa using hs
      exact .inr (.inl ⟨by decide,rfl,by rw[if_neg (by simpa using this)]⟩)
    · have : 2<F∧F<39:=by simpa using hs
      rw[if_pos ⟨rfl,this⟩]
      cases H
      · cases r
        · exact .inr (.inr (.inr (.inl ⟨by decide,rfl,rfl,rfl,by simp⟩)))
        · exact .inr (.inr (.inr (.inr ⟨by decide,rfl,rfl,rfl,by simp⟩)))
      · exact .inr (.inr (.inl ⟨by decide,rfl,rfl,by simp⟩))
  · exact .inl ⟨by simpa using h1,by rw[if_neg (by simp[h1])]⟩
 rw[hr]at RI
 rw[hs]at ST
 obtain⟨q,hq⟩:∃q,wset12 ⟨C,F,H,X,v,m⟩=q:=⟨_,rfl⟩
 rw[hq]at ways ⊢
 obtain⟨d0,d1,d2,d3,d4,d5⟩:=hx.six
 clear hr hs hq hW hbW iv im ov om hv hm hmc
 rcases ways with⟨c,rfl⟩|⟨c,rfl,rfl⟩|⟨c,rfl,rfl,rfl⟩|⟨c,rfl,rfl,rfl,rfl⟩|⟨c,rfl,rfl,rfl,rfl⟩
 · go_enter Tryz.func54,Tryz.ntmps54
   go_wp2_with fail
   rw[HW.out]
   go_wp2_with fail
   go_ret
   exact⟨rfl,HB.out⟩
 · go_enter Tryz.func54,Tryz.ntmps54
   go_wp2_with fail
   rw[HW.out]
   go_wp2_with fail
   refine (ST.out _).mono ?_
   rintro e w1 ⟨rfl,rfl⟩
   go_wp2_with fail
   go_ret
   exact⟨rfl,HB.out⟩
 · go_enter Tryz.func54,Tryz.ntmps54
   go_wp2_with fail
   rw[HW.out]
   go_wp2_with fail
   refine (ST.out _).mono ?_
   rintro e w1 ⟨rfl,rfl⟩
   go_wp2_with fail
   go_ret
   exact⟨rfl,HB.out⟩
 · go_enter Tryz.func54,Tryz.ntmps54
   go_wp2_with fail
   rw[HW.out]
   go_wp2_with fail
   refine (ST.out _).mono ?_
   rintro e w1 ⟨rfl,rfl⟩
   go_wp2_with fail
   refine (RI.out ⟨_,Below.refl _ _⟩).mono ?_
   rintro e w1 ⟨rfl,hb⟩
   go_wp2_with fail
   go_ret
   exact⟨rfl,below_on HB.out hb⟩
 · go_enter Tryz.func54,Tryz.ntmps54
   go_wp2_with fail
   rw[HW.out]
   go_wp2_with fail
   refine (ST.out _).mono ?_
   rintro e w1 ⟨rfl,rfl⟩
   go_wp2_with fail
   refine (RI.out ⟨_,Below.refl _ _⟩).mono ?_
   rintro e w1 ⟨rfl,hb⟩
   go_wp2_with fail
   go_ret
   exact⟨rfl,below_on HB.out hb⟩
def wrong12 (a:Act12):Int:=if a.T=25 then wset12 a.o else if a.T=65535 then (if a.d.length%8=0 then 0 else 514) else asked12 a.T a.A
set_option maxRecDepth 100000 in
set_option maxHeartbeats 2000000 in
theorem wrong_out_no (g:Ent12) (w:World) (hT:g.T=0) (hA:g.A=0):
 Calls Tryz.prog 41 #[g.val] w fun e w'=>e = .returned (.int .i64 (wrong12 g.act))∧Below w.heap.size w w':=by
 obtain⟨W,hW,hbW,hx⟩:=act_box w g.T g.A g.B g.o.C g.o.F g.o.H g.o.X g.va g.o.v.length g.vc g.ma g.o.m.length g.mc g.da g.d.length g.dc
 have HW:=hid hW
 have HB:=hid hbW
 clear hW hbW
 have hq:wrong12 g.act=517:=by simp[wrong12,Ent12.act,asked12,hT,hA]
 rw[hq]
 obtain⟨T,A,B,⟨C,F,H,X,v,m⟩,va,vc,ma,mc,d,da,dc⟩:=g
 simp only[Ent12.act]at *
 subst hT
 subst hA
 unfold Ent12.val
 simp only
 obtain⟨d0,d1,d2,d3,d4,d5,d6,d7,d8,d9⟩:=hx.ten
 clear hq
 go_enter Tryz.func41,Tryz.ntmps41
 go_wp2_with fail
 rw[HW.out]
 go_wp2_with fail
 go_ret
 exact⟨rfl,HB.out⟩
set_option maxRecDepth 100000 in
set_option maxHeartbeats 2000000 in
theorem wrong_out_yes (g:Ent12) (w:World) (hT:g.T=0) (hA:g.A≠0):
 Calls Tryz.prog 41 #[g.val] w fun e w'=>e = .returned (.int .i64 (wrong12 g.act))∧Below w.heap.size w w':=by
 obtain⟨W,hW,hbW,hx⟩:=act_box w g.T g.A g.B g.o.C g.o.F g.o.H g.o.X g.va g.o.v.length g.vc g.ma g.o.m.length g.mc g.da g.d.length g.dc
 have HW:=hid hW
 have HB:=hid hbW
 clear hW hbW
 have hq:wrong12 g.act=0:=by simp[wrong12,Ent12.act,asked12,hT,hA]
 rw[hq]
 obtain⟨T,A,B,⟨C,F,H,X,v,m⟩,va,vc,ma,mc,d,da,dc⟩:=g
 simp only[Ent12.act]at *
 subst hT
 have c:(A != 0)=true:=by simpa using hA
 clear hA
 unfold Ent12.val
 simp only
 obtain⟨d0,d1,d2,d3,d4,d5,d6,d7,d8,d9⟩:=hx.ten
 clear hq
 go_enter Tryz.func41,Tryz.ntmps41
 go_wp2_with fail
 rw[HW.out]
 go_wp2_with fail
 go_ret
 exact⟨rfl,HB.out⟩
set_option maxRecDepth 100000 in
set_option maxHeartbeats 2000000 in
theorem wrong_grp_no (g:Ent12) (w:World) (hT:g.T=22) (hA : 4294967040<g.A):
 Calls Tryz.prog 41 #[g.val] w fun e w'=>e = .returned (.int .i64 (wrong12 g.act))∧Below w.heap.size w w':=by
 obtain⟨W,hW,hbW,hx⟩:=act_box w g.T g.A g.B g.o.C g.o.F g.o.H g.o.X g.va g.o.v.length g.vc g.ma g.o.m.length g.mc g.da g.d.length g.dc
 have HW:=hid hW
 have HB:=hid hbW
 clear hW hbW
 have hq:wrong12 g.act=522:=by simp[wrong12,Ent12.act,asked12,hT,hA]
 rw[hq]
 obtain⟨T,A,B,⟨C,F,H,X,v,m⟩,va,vc,ma,mc,d,da,dc⟩:=g
 simp only[Ent12.act]at *
 subst hT
 have c:decide (A≤4294967040)=false:=by simp;omega
 unfold Ent12.val
 simp only
 obtain⟨d0,d1,d2,d3,d4,d5,d6,d7,d8,d9⟩:=hx.ten
 clear hq
 go_enter Tryz.func41,Tryz.ntmps41
 go_wp2_with fail
 rw[HW.out]
 go_wp2_with fail
 go_ret
 exact⟨rfl,HB.out⟩
set_option maxRecDepth 100000 in
set_option maxHeartbeats 2000000 in
theorem wrong_grp_yes (g:Ent12) (w:World) (hT:g.T=22) (hA:¬ 4294967040<g.A):
 Calls Tryz.prog 41 #[g.val] w fun e w'=>e = .returned (.int .i64 (wrong12 g.act))∧Below w.heap.size w w':=by
 obtain⟨W,hW,hbW,hx⟩:=act_box w g.T g.A g.B g.o.C g.o.F g.o.H g.o.X g.va g.o.v.length g.vc g.ma g.o.m.length g.mc g.da g.d.length g.dc
 have HW:=hid hW
 have HB:=hid hbW
 clear hW hbW
 have hq:wrong12 g.act=0:=by simp[wrong12,Ent12.act,asked12,hT,hA]
 rw[hq]
 obtain⟨T,A,B,⟨C,F,H,X,v,m⟩,va,vc,ma,mc,d,da,dc⟩:=g
 simp only[Ent12.act]at *
 subst hT
 have c:A≤4294967040:=by omega
 unfold Ent12.val
 simp only
 obtain⟨d0,d1,d2,d3,d4,d5,d6,d7,d8,d9⟩:=hx.ten
 clear hq
 go_enter Tryz.func41,Tryz.ntmps41
 go_wp2_with fail
 rw[HW.out]
 go_wp2_with fail
 go_ret
 exact⟨rfl,HB.out⟩
set_option maxRecDepth 100000 in
set_option maxHeartbeats 2000000 in
theorem wrong_vlan_a (g:Ent12) (w:World) (hT:g.T=17) (hA:g.A=33024):
 Calls Tryz.prog 41 #[g.val] w fun e w'=>e = .returned (.int .i64 (wrong12 g.act))∧Below w.heap.size w w':=by
 obtain⟨W,hW,hbW,hx⟩:=act_box w g.T g.A g.B g.o.C g.o.F g.o.H g.o.X g.va g.o.v.length g.vc g.ma g.o.m.length g.mc g.da g.d.length g.dc
 have HW:=hid hW
 have HB:=hid hbW
 clear hW hbW
 have hq:wrong12 g.act=0:=by simp[wrong12,Ent12.act,asked12,hT,hA]
 rw[hq]
 obtain⟨T,A,B,⟨C,F,H,X,v,m⟩,va,vc,ma,mc,d,da,dc⟩:=g
 simp only[Ent12.act]at *
 subst hT
 subst hA
 unfold Ent12.val
 simp only
 obtain⟨d0,d1,d2,d3,d4,d5,d6,d7,d8,d9⟩:=hx.ten
 clear hq
 go_enter Tryz.func41,Tryz.ntmps41
 go_wp2_with fail
 rw[HW.out]
 go_wp2_with fail
 go_ret
 exact⟨rfl,HB.out⟩
set_option maxRecDepth 100000 in
set_option maxHeartbeats 2000000 in
theorem wrong_vlan_b (g:Ent12) (w:World) (hT:g.T=17) (hA:g.A=34984):
 Calls Tryz.prog 41 #[g.val] w fun e w'=>e = .returned (.int .i64 (wrong12 g.act))∧Below w.heap.size w w':=by
 obtain⟨W,hW,hbW,hx⟩:=act_box w g.T g.A g.B g.o.C g.o.F g.o.H g.o.X g.va g.o.v.length g.vc g.ma g.o.m.length g.mc g.da g.d.length g.dc
 have HW:=hid hW
 have HB:=hid hbW
 clear hW hbW
 have hq:wrong12 g.act=0:=by simp[wrong12,Ent12.act,asked12,hT,hA]
 rw[hq]
 obtain⟨T,A,B,⟨C,F,H,X,v,m⟩,va,vc,ma,mc,d,da,dc⟩:=g
 simp only[Ent12.act]at *
 subst hT
 subst hA
 unfold Ent12.val
 simp only
 obtain⟨d0,d1,d2,d3,d4,d5,d6,d7,d8,d9⟩:=hx.ten
 clear hq
 go_enter Tryz.func41,Tryz.ntmps41
 go_wp2_with fail
 rw[HW.out]
 go_wp2_with fail
 go_ret
 exact⟨rfl,HB.out⟩
set_option maxRecDepth 100000 in
set_option maxHeartbeats 2000000 in
theorem wrong_vlan_no (g:Ent12) (w:World) (hT:g.T=17) (hA:g.A≠33024) (hA2:g.A≠34984):
 Calls Tryz.prog 41 #[g.val] w fun e w'=>e = .returned (.int .i64 (wrong12 g.act))∧Below w.heap.size w w':=by
 obtain⟨W,hW,hbW,hx⟩:=act_box w g.T g.A g.B g.o.C g.o.F g.o.H g.o.X g.va g.o.v.length g.vc g.ma g.o.m.length g.mc g.da g.d.length g.dc
 have HW:=hid hW
 have HB:=hid hbW
 clear hW hbW
 have hq:wrong12 g.act=518:=by simp[wrong12,Ent12.act,asked12,hT,hA,hA2]
 rw[hq]
 obtain⟨T,A,B,⟨C,F,H,X,v,m⟩,va,vc,ma,mc,d,da,dc⟩:=g
 simp only[Ent12.act]at *
 subst hT
 have c:(A==33024)=false:=by simpa using hA
 have c2:(A==34984)=false:=by simpa using hA2
 clear hA hA2
 unfold Ent12.val
 simp only
 obtain⟨d0,d1,d2,d3,d4,d5,d6,d7,d8,d9⟩:=hx.ten
 clear hq
 go_enter Tryz.func41,Tryz.ntmps41
 go_wp2_with fail
 rw[HW.out]
 go_wp2_with fail
 go_ret
 exact⟨rfl,HB.out⟩
set_option maxRecDepth 100000 in
set_option maxHeartbeats 2000000 in
theorem wrong_mpls_a (g:Ent12) (w:World) (hT:g.T=19) (hA:g.A=34887):
 Calls Tryz.prog 41 #[g.val] w fun e w'=>e = .returned (.int .i64 (wrong12 g.act))∧Below w.heap.size w w':=by
 obtain⟨W,hW,hbW,hx⟩:=act_box w g.T g.A g.B g.o.C g.o.F g.o.H g.o.X g.va g.o.v.length g.vc g.ma g.o.m.length g.mc g.da g.d.length g.dc
 have HW:=hid hW
 have HB:=hid hbW
 clear hW hbW
 have hq:wrong12 g.act=0:=by simp[wrong12,Ent12.act,asked12,hT,hA]
 rw[hq]
 obtain⟨T,A,B,⟨C,F,H,X,v,m⟩,va,vc,ma,mc,d,da,dc⟩:=g
 simp only[Ent12.act]at *
 subst hT
 subst hA
 unfold Ent12.val
 simp only
 obtain⟨d0,d1,d2,d3,d4,d5,d6,d7,d8,d9⟩:=hx.ten
 clear hq
 go_enter Tryz.func41,Tryz.ntmps41
 go_wp2_with fail
 rw[HW.out]
 go_wp2_with fail
 go_ret
 exact⟨rfl,HB.out⟩
set_option maxRecDepth 100000 in
set_option maxHeartbeats 2000000 in
theorem wrong_mpls_b (g:Ent12) (w:World) (hT:g.T=19) (hA:g.A=34888):
 Calls Tryz.prog 41 #[g.val] w fun e w'=>e = .returned (.int .i64 (wrong12 g.act))∧Below w.heap.size w w':=by
 obtain⟨W,hW,hbW,hx⟩:=act_box w g.T g.A g.B g.o.C g.o.F g.o.H g.o.X g.va g.o.v.length g.vc g.ma g.o.m.length g.mc g.da g.d.length g.dc
 have HW:=hid hW
 have HB:=hid hbW
 clear hW hbW
 have hq:wrong12 g.act=0:=by simp[wrong12,Ent12.act,asked12,hT,hA]
 rw[hq]
 obtain⟨T,A,B,⟨C,F,H,X,v,m⟩,va,vc,ma,mc,d,da,dc⟩:=g
 simp only[Ent12.act]at *
 subst hT
 subst hA
 unfold Ent12.val
 simp only
 obtain⟨d0,d1,d2,d3,d4,d5,d6,d7,d8,d9⟩:=hx.ten
 clear hq
 go_enter Tryz.func41,Tryz.ntmps41
 go_wp2_with fail
 rw[HW.out]
 go_wp2_with fail
 go_ret
 exact⟨rfl,HB.out⟩
set_option maxRecDepth 100000 in
set_option maxHeartbeats 2000000 in
theorem wrong_mpls_no (g:Ent12) (w:World) (hT:g.T=19) (hA:g.A≠34887) (hA2:g.A≠34888):
 Calls Tryz.prog 41 #[g.val] w fun e w'=>e = .returned (.int .i64 (wrong12 g.act))∧Below w.heap.size w w':=by
 obtain⟨W,hW,hbW,hx⟩:=act_box w g.T g.A g.B g.o.C g.o.F g.o.H g.o.X g.va g.o.v.length g.vc g.ma g.o.m.length g.mc g.da g.d.length g.dc
 have HW:=hid hW
 have HB:=hid hbW
 clear hW hbW
 have hq:wrong12 g.act=518:=by simp[wrong12,Ent12.act,asked12,hT,hA,hA2]
 rw[hq]
 obtain⟨T,A,B,⟨C,F,H,X,v,m⟩,va,vc,ma,mc,d,da,dc⟩:=g
 simp only[Ent12.act]at *
 subst hT
 have c:(A==34887)=false:=by simpa using hA
 have c2:(A==34888)=false:=by simpa using hA2
 clear hA hA2
 unfold Ent12.val
 simp only
 obtain⟨d0,d1,d2,d3,d4,d5,d6,d7,d8,d9⟩:=hx.ten
 clear hq
 go_enter Tryz.func41,Tryz.ntmps41
 go_wp2_with fail
 rw[HW.out]
 go_wp2_with fail
 go_ret
 exact⟨rfl,HB.out⟩
set_option maxRecDepth 100000 in
set_option maxHeartbeats 2000000 in
theorem wrong_pbb_a (g:Ent12) (w:World) (hT:g.T=26) (hA:g.A=35047):
 Calls Tryz.prog 41 #[g.val] w fun e w'=>e = .returned (.int .i64 (wrong12 g.act))∧Below w.heap.size w w':=by
 obtain⟨W,hW,hbW,hx⟩:=act_box w g.T g.A g.B g.o.C g.o.F g.o.H g.o.X g.va g.o.v.length g.vc g.ma g.o.m.length g.mc g.da g.d.length g.dc
 have HW:=hid hW
 have HB:=hid hbW
 clear hW hbW
 have hq:wrong12 g.act=0:=by simp[wrong12,Ent12.act,asked12,hT,hA]
 rw[hq]
 obtain⟨T,A,B,⟨C,F,H,X,v,m⟩,va,vc,ma,mc,d,da,dc⟩:=g
 simp only[Ent12.act]at *
 subst hT
 subst hA
 unfold Ent12.val
 simp only
 obtain⟨d0,d1,d2,d3,d4,d5,d6,d7,d8,d9⟩:=hx.ten
 clear hq
 go_enter Tryz.func41,Tryz.ntmps41
 go_wp2_with fail
 rw[HW.out]
 go_wp2_with fail
 go_ret
 exact⟨rfl,HB.out⟩
set_option maxRecDepth 100000 in
set_option maxHeartbeats 2000000 in
theorem wrong_pbb_no (g:Ent12) (w:World) (hT:g.T=26) (hA:g.A≠35047):
 Calls Tryz.prog 41 #[g.val] w fun e w'=>e = .returned (.int .i64 (wrong12 g.act))∧Below w.heap.size w w':=by
 obtain⟨W,hW,hbW,hx⟩:=act_box w g.T g.A g.B g.o.C g.o.F g.o.H g.o.X g.va g.o.v.length g.vc g.ma g.o.m.length g.mc g.da g.d.length g.dc
 have HW:=hid hW
 have HB:=hid hbW
 clear hW hbW
 have hq:wrong12 g.act=518:=by simp[wrong12,Ent12.act,asked12,hT,hA]
 rw[hq]
 obtain⟨T,A,B,⟨C,F,H,X,v,m⟩,va,vc,ma,mc,d,da,dc⟩:=g
 simp only[Ent12.act]at *
 subst hT
 have c:(A==35047)=false:=by simpa using hA
 clear hA
 unfold Ent12.val
 simp only
 obtain⟨d0,d1,d2,d3,d4,d5,d6,d7,d8,d9⟩:=hx.ten
 clear hq
 go_enter Tryz.func41,Tryz.ntmps41
 go_wp2_with fail
 rw[HW.out]
 go_wp2_with fail
 go_ret
 exact⟨rfl,HB.out⟩
set_option maxRecDepth 100000 in
set_option maxHeartbeats 2000000 in
theorem wrong_exp_yes (g:Ent12) (w:World) (hT:g.T=65535) (hd:g.d.length%8=0):
 Calls Tryz.prog 41 #[g.val] w fun e w'=>e = .returned (.int .i64 (wrong12 g.act))∧Below w.heap.size w w':=by
 obtain⟨W,hW,hbW,hx⟩:=act_box w g.T g.A g.B g.o.C g.o.F g.o.H g.o.X g.va g.o.v.length g.vc g.ma g.o.m.length g.mc g.da g.d.length g.dc
 have HW:=hid hW
 have HB:=hid hbW
 clear hW hbW
 have hq:wrong12 g.act=0:=by simp[wrong12,Ent12.act,hT,hd]
 rw[hq]
 obtain⟨T,A,B,⟨C,F,H,X,v,m⟩,va,vc,ma,mc,d,da,dc⟩:=g
 simp only[Ent12.act]at *
 subst hT
 have t1:((d.length:Nat):Int).tmod 8=0:=by rw[Int.tmod_eq_emod_of_nonneg (by omega)];omega
 clear hd
 unfold Ent12.val
 simp only
 obtain⟨d0,d1,d2,d3,d4,d5,d6,d7,d8,d9⟩:=hx.ten
 clear hq
 go_enter Tryz.func41,Tryz.ntmps41
 go_wp2_with fail
 rw[HW.out]
 go_wp2_with fail
 go_ret
 exact⟨rfl,HB.out⟩
set_option maxRecDepth 100000 in
set_option maxHeartbeats 2000000 in
theorem wrong_exp_no (g:Ent12) (w:World) (hT:g.T=65535) (hd:g.d.length%8≠0):
 Calls Tryz.prog 41 #[g.val] w fun e w'=>e = .returned (.int .i64 (wrong12 g.act))∧Below w.heap.size w w':=by
 obtain⟨W,hW,hbW,hx⟩:=act_box w g.T g.A g.B g.o.C g.o.F g.o.H g.o.X g.va g.o.v.length g.vc g.ma g.o.m.length g.mc g.da g.d.length g.dc
 have HW:=hid hW
 have HB:=hid hbW
 clear hW hbW
 have hq:wrong12 g.act=514:=by simp[wrong12,Ent12.act,hT,hd]
 rw[hq]
 obtain⟨T,A,B,⟨C,F,H,X,v,m⟩,va,vc,ma,mc,d,da,dc⟩:=g
 simp only[Ent12.act]at *
 subst hT
 obtain⟨k,hk⟩:∃k:Int,((d.length:Nat):Int).tmod 8=k:=⟨_,rfl⟩
 have c:(k==0)=false:=by have h2:=Int.tmod_eq_emod_of_nonneg (a:=((d.length:Nat):Int)) (b:=8) (by omega);simp;omega
 clear hd
 unfold Ent12.val
 simp only
 obtain⟨d0,d1,d2,d3,d4,d5,d6,d7,d8,d9⟩:=hx.ten
 clear hq
 go_enter Tryz.func41,Tryz.ntmps41
 go_wp2_with fail
 rw[HW.out]
 go_wp2_with fail
 go_ret
 exact⟨rfl,HB.out⟩
set_option maxRecDepth 100000 in
set_option maxHeartbeats 2000000 in
theorem wrong_else (g:Ent12) (w:World) (hT:g.T≠0∧g.T≠22∧g.T≠17∧g.T≠19∧g.T≠26∧g.T≠65535∧g.T≠25):
 Calls Tryz.prog 41 #[g.val] w fun e w'=>e = .returned (.int .i64 (wrong12 g.act))∧Below w.heap.size w w':=by
 obtain⟨W,hW,hbW,hx⟩:=act_box w g.T g.A g.B g.o.C g.o.F g.o.H g.o.X g.va g.o.v.length g.vc g.ma g.o.m.length g.mc g.da g.d.length g.dc
 have HW:=hid hW
 have HB:=hid hbW
 clear hW hbW
 have hq:wrong12 g.act=0:=by simp[wrong12,Ent12.act,asked12,hT]
 rw[hq]
 obtain⟨T,A,B,⟨C,F,H,X,v,m⟩,va,vc,ma,mc,d,da,dc⟩:=g
 simp only[Ent12.act]at *
 obtain⟨h0,h1,h2,h3,h4,h5,h6⟩:=hT
 have c0:(T==0)=false:=by simpa using h0
 have c1:(T==22)=false:=by simpa using h1
 have c2:(T==17)=false:=by simpa using h2
 have c3:(T==19)=false:=by simpa using h3
 have c4:(T==26)=false:=by simpa using h4
 have c5:(T==65535)=false:=by simpa using h5
 have c6:(T==25)=false:=by simpa using h6
 clear h0 h1 h2 h3 h4 h5 h6
 unfold Ent12.val
 simp only
 obtain⟨d0,d1,d2,d3,d4,d5,d6,d7,d8,d9⟩:=hx.ten
 clear hq
 go_enter Tryz.func41,Tryz.ntmps41
 go_wp2_with fail
 rw[HW.out]
 go_wp2_with fail
 go_ret
 exact⟨rfl,HB.out⟩
set_option maxRecDepth 100000 in
set_option maxHeartbeats 2000000 in
theorem wrong_set (g:Ent12) (w:World) (hi:ActIn w g) (hT:g.T=25):
 Calls Tryz.prog 41 #[g.val] w fun e w'=>e = .returned (.int .i64 (wrong12 g.act))∧Below w.heap.size w w':=by
 obtain⟨W,hW,hbW,hx⟩:=act_box w g.T g.A g.B g.o.C g.o.F g.o.H g.o.X g.va g.o.v.length g.vc g.ma g.o.m.length g.mc g.da g.d.length g.dc
 have HW:=hid hW
 have HB:=hid hbW
 have hq:wrong12 g.act=wset12 g.o:=by simp[wrong12,Ent12.act,hT]
 have WS:=hid (wrongSet_any g.o g.va g.vc g.ma g.mc W hi.lv hi.lm hi.cm hi.ov hi.om (hi.iv.below hbW) (hi.im.below hbW))
 rw[hq]
 obtain⟨q,hqq⟩:∃q,wset12 g.o=q:=⟨_,rfl⟩
 rw[hqq]at WS ⊢
 clear hi hW hbW hq hqq
 obtain⟨T,A,B,⟨C,F,H,X,v,m⟩,va,vc,ma,mc,d,da,dc⟩:=g
 simp only at *
 subst hT
 unfold Ent12.val
 simp only
 obtain⟨d0,d1,d2,d3,d4,d5,d6,d7,d8,d9⟩:=hx.ten
 go_enter Tryz.func41,Tryz.ntmps41
 go_wp2_with fail
 rw[HW.out]
 go_wp2_with fail
 refine WS.out.mono ?_
 rintro e w1 ⟨rfl,hb⟩
 go_wp2_with fail
 go_ret
 exact⟨rfl,below_on HB.out hb⟩
theorem wrong_any (g:Ent12) (w:World) (hi:ActIn w g):
 Calls Tryz.prog 41 #[g.val] w fun e w'=>e = .returned (.int .i64 (wrong12 g.act))∧Below w.heap.size w w':=by
 rcases (show g.T=0∨g.T=22∨g.T=17∨g.T=19∨g.T=26∨g.T=65535∨g.T=25∨(g.T≠0∧g.T≠22∧g.T≠17∧g.T≠19∧g.T≠26∧g.T≠65535∧g.T≠25) by omega) with h|h|h|h|h|h|h|h
 · by_cases hA:g.A=0
   · exact wrong_out_no g w h hA
   · exact wrong_out_yes g w h hA
 · by_cases hA : 4294967040<g.A
   · exact wrong_grp_no g w h hA
   · exact wrong_grp_yes g w h hA
 · by_cases hA:g.A=33024
   · exact wrong_vlan_a g w h hA
   · by_cases hA2:g.A=34984
     · exact wrong_vlan_b g w h hA2
     · exact wrong_vlan_no g w h hA hA2
 · by_cases hA:g.A=34887
   · exact wrong_mpls_a g w h hA
   · by_cases hA2:g.A=34888
     · exact wrong_mpls_b g w h hA2
     · exact wrong_mpls_no g w h hA hA2
 · by_cases hA:g.A=35047
   · exact wrong_pbb_a g w h hA
   · exact wrong_pbb_no g w h hA
 · by_cases hd:g.d.length%8=0
   · exact wrong_exp_yes g w h hd
   · exact wrong_exp_no g w h hd
 · exact wrong_set g w hi h
 · exact wrong_else g w h
theorem count_le12 (t:Int):countL (rowP t)≤2∧countW (rowP t)=countL (rowP t)∧sizeW (rowP t)=sizeL (rowP t)∧sizeL (rowP t)≤12∧(rowP t).length≤3∧rightW (rowP t)=true:=by
 unfold rowP
 cases h:row12 t with
 | none=>decide
 | some w=>
   rcases row_ways h with⟨_,rfl⟩|⟨_,rfl⟩|⟨_,rfl⟩|⟨_,rfl⟩|⟨_,rfl⟩<;>decide
set_option maxRecDepth 100000 in
set_option maxHeartbeats 2000000 in
theorem numbers_at (T A B C F:Int) (H:Bool) (X:Int) (va:Option Addr) (vl vc:Nat) (ma:Option Addr) (ml mc:Nat) (da:Option Addr) (dl dc:Nat) (l:List Int) (a:Option Addr) (c:Nat) (k:Nat) (hk:countW l=k) (hk2:k≤2) (hl:l.length≤64) (w:World) (hI:Ints .i64 w a l):
 Calls Tryz.prog 43 #[.agg #[.int .i64 T,.int .u64 A,.int .u64 B,.int .i64 C,.int .i64 F,.bool H,.int .u64 X,.slice va vl vc,.slice ma ml mc,.slice da dl dc],.slice a l.length c] w fun e w'=>∃b,e = .returned (.slice b k 2)∧Ints .u64 w' b ([A,B].take k)∧Below w.heap.size w w':=by
 obtain⟨W,hW,hbW,hx⟩:=act_box w T A B C F H X va vl vc ma ml mc da dl dc
 have HW:=hid hW
 have HB:=hid hbW
 have CO:=hid (fun (V:World) (hV:Below W.heap.size W V)=>count_any l a c V (by omega) ((hI.below HB.out).below hV))
 rw[hk]at CO
 have hk0:(0:Int)≤k:=by omega
 have hk3:(k:Int)≤2:=by omega
 clear hW hbW hI hk
 obtain⟨d0,d1,d2,d3,d4,d5,d6,d7,d8,d9⟩:=(hx.below (below_drew8 W)).ten
 go_enter Tryz.func43,Tryz.ntmps43
 go_wp2_with fail
 rw[HW.out]
 go_region_with (first
  | (go_at_call 56;refine (CO.out _ ?_).mono ?_;(first|exact below_drew8 W|exact below_on (below_drew8 W) (below_alloc _ _)|fail);rintro e w5 ⟨rfl,rfl⟩)
  | fail)
 all_goals
  go_wp2_with fail
  go_ret
  exact⟨_,rfl,(ints_lit .u64 _ [A,B] 32).take k,below_on HB.out (below_on (below_drew8 W) (below_alloc _ _))⟩
def up12 (n:Nat):Nat:=(n+7)/8*8
def size12 (g:Act12):Nat:=up12 (4+sizeL (rowP g.T)+size8 g.o.C g.o.F g.o.H g.o.X g.o.v g.o.m+g.d.length)
theorem size8_le (C F:Int) (H:Bool) (X:Int) (v m:List Int):size8 C F H X v m≤212:=by
 unfold size8
 cases h:rightB C F H X v m
 · simp
 · rw[if_pos rfl]
   have ft:=right_facts h
   have:=ft.most
   omega
set_option maxRecDepth 100000 in
set_option maxHeartbeats 2000000 in
theorem actSize_any (g:Ent12) (w:World) (hi:ActIn w g):
 Calls Tryz.prog 44 #[g.val] w fun e w'=>e = .returned (.int .i64 (size12 g.act))∧Below w.heap.size w w':=by
 obtain⟨W,hW,hbW,hx⟩:=act_box w g.T g.A g.B g.o.C g.o.F g.o.H g.o.X g.va g.o.v.length g.vc g.ma g.o.m.length g.mc g.da g.d.length g.dc
 have HW:=hid hW
 have HB:=hid hbW
 obtain⟨k1,k2,k3,k4,k5,k6⟩:=count_le12 g.T
 have RO:=hid (rowOf_any g.T W)
 have SO:=hid (fun (V:World) (hV:Below w.heap.size w V)=>size8_any g.o.C g.o.F g.o.H g.o.X g.va g.vc g.ma g.mc g.o.v g.o.m hi.lv hi.lm hi.cm hi.ov hi.om V (hi.iv.below hV) (hi.im.below hV))
 have sl:=size8_le g.o.C g.o.F g.o.H g.o.X g.o.v g.o.m
 have ld:=hi.ld
 clear hi hW hbW
 have hq:size12 g.act=up12 (4+sizeL (rowP g.T)+size8 g.o.C g.o.F g.o.H g.o.X g.o.v g.o.m+g.d.length):=rfl
 rw[hq]
 clear hq
 obtain⟨T,A,B,⟨C,F,H,X,v,m⟩,va,vc,ma,mc,d,da,dc⟩:=g
 simp only at *
 obtain⟨n2,h2⟩:∃n,size8 C F H X v m=n:=⟨_,rfl⟩
 rw[h2]at SO sl ⊢
 obtain⟨l,hl⟩:∃l,rowP T=l:=⟨_,rfl⟩
 obtain⟨rb,hrb⟩:∃b,rowB T=b:=⟨_,rfl⟩
 rw[hl]at RO k1 k2 k3 k4 k5 k6 ⊢
 rw[hrb]at RO
 obtain⟨n1,h1⟩:∃n,sizeL l=n:=⟨_,rfl⟩
 rw[h1]at k3 k4 ⊢
 have K3:=hid k3
 obtain⟨q,hq⟩:∃q,(4+n1+n2+d.length+7)/8=q:=⟨_,rfl⟩
 have hup:up12 (4+n1+n2+d.length)=q*8:=by unfold up12;rw[hq]
 rw[hup]
 have hqq:((4:Int)+n1+n2+d.length+8-1)/8=(q:Int):=by omega
 have hq3:(q:Int)≤20000:=by omega
 have HQ:=hid hqq
 have hq0:(0:Int)≤q:=by omega
 clear h2 hl hrb h1 hq hup k1 k2 k3 k6 hqq
 unfold Ent12.val
 simp only
 obtain⟨d0,d1,d2,d3,d4,d5,d6,d7,d8,d9⟩:=hx.ten
 go_enter Tryz.func44,Tryz.ntmps44
 go_wp2_with fail
 rw[HW.out]
 go_wp2_with fail
 refine RO.out.mono ?_
 rintro e w1 ⟨a,rfl,hI,hb⟩
 have HB1:=hid (below_on HB.out hb)
 have SZ:=hid (fun (n:Wk w1)=>size_any l a l.length n.val (by omega) (hI.below n.bel))
 rw[K3.out]at SZ
 clear d0 d1 d2 d3 d4 d5 d6 d7 d8 d9 hI
 obtain⟨d0,d1,d2,d3,d4,d5,d6,d7,d8,d9⟩:=(hx.below hb).ten
 have c3:=Wk.cell d3
 have c4:=Wk.cell d4
 have c5:=Wk.cell d5
 have c6:=Wk.cell d6
 have c7:=Wk.cell d7
 have c8:=Wk.cell d8
 have c9:=Wk.cell d9
 clear d0 d1 d2 d3 d4 d5 d6 d7 d8 d9 hb
 go_upto_region 2 with fail
 refine wp_region_wk (by kernel_rfl) (by kernel_rfl) ?_
 repeat (go_big_quiet_step (first
  | (go_at_call 57;exact Wk.same (SZ.out _))
  | (go_at_call 62;exact Wk.call (SO.out _ (below_on HB1.out (Wk.bel _))))))
 refine wpQuiet_nil ?_
 rintro w4 ⟨⟨_,hb4⟩,rfl⟩
 go_wp2_with fail
 go_ret
 exact⟨ret_int (by have:=HQ.out;omega),below_on HB1.out hb4⟩
theorem same12_iff (a b:Act12):same12 a b=true↔a=b:=by
 obtain⟨T,A,B,o,d⟩:=a
 obtain⟨T',A',B',o',d'⟩:=b
 have e:sameO o o'=same9 o o':=rfl
 simp only[same12,Bool.and_eq_true,beq_iff_eq,Act12.mk.injEq,e,same9_iff,and_assoc]
def right12 (g:Ent12):Bool:=rowB g.T&&bare12 g&&wrong12 g.act==0&&(putW (rowP g.T) (nums12 g.act (rowP g.T))).isSome&&decide (size12 g.act≤65528)
theorem right12_iff (g:Ent12):right12 g=true↔rowB g.T=true∧bare12 g=true∧wrong12 g.act=0∧(putW (rowP g.T) (nums12 g.act (rowP g.T))).isSome=true∧size12 g.act≤65528:=by
 unfold right12
 simp[and_assoc]
theorem size8_none:size8 0 0 false 0 [] []=0:=by decide
theorem up_ok {n:Nat} (h:n≤60000):up12 n≤65528:=by unfold up12;omega
def cond12 (a:Act12) (w:List Int):Prop:=a.o=noOx∧asked12 a.T a.A=0∧(countL w<2→a.B=0)∧(countL w<1→a.A=0)∧(a.T≠65535→a.d = [])∧a.d.length%8=0∧a.d.length≤65520
theorem right_row {a:Act12} {w:List Int} (h:row12 a.T=some w) (h25:a.T≠25):(act12 a).isSome=true↔cond12 a w∧(putW w (nums12 a w)).isSome=true:=by
 unfold act12 body12
 rw[if_neg h25,h,Option.isSome_map]
 simp only
 unfold cond12
 by_cases hc:a.o=noOx∧asked12 a.T a.A=0∧(countL w<2→a.B=0)∧(countL w<1→a.A=0)∧(a.T≠65535→a.d = [])∧a.d.length%8=0∧a.d.length≤65520
 · rw[if_pos hc,Option.isSome_map]
   exact⟨fun h=>⟨hc,h⟩,fun h=>h.2⟩
 · rw[if_neg hc]
   exact⟨fun h=>by simp at h,fun h=>absurd h.1 hc⟩
theorem right_set {a:Act12} (h25:a.T=25):(act12 a).isSome=true↔a.A=0∧a.B=0∧a.d = []∧setOk12 a.o=true:=by
 unfold act12 body12
 rw[if_pos h25,Option.isSome_map]
 by_cases hc:a.A=0∧a.B=0∧a.d = []∧setOk12 a.o=true
 · rw[if_pos hc]
   exact⟨fun _=>hc,fun _=>rfl⟩
 · rw[if_neg hc]
   exact⟨fun h=>by simp at h,fun h=>absurd h hc⟩
theorem wset_ok (o:Ox9):wset12 o=0↔setOk12 o=true:=by
 unfold wset12 setOk12
 simp only[Bool.and_eq_true,decide_eq_true_eq,Bool.not_eq_true']
 by_cases h1:o.C=32768∧2<o.F∧o.F<39
 · rw[if_pos h1]
   by_cases h2:o.H=false∧right10 o=true
   · rw[if_pos h2]
     exact⟨fun _=>⟨⟨⟨h1.1,h2.1⟩,h1.2⟩,h2.2⟩,fun _=>rfl⟩
   · rw[if_neg h2]
     exact⟨fun h=>by simp at h,fun h=>absurd ⟨h.1.1.2,h.2⟩ h2⟩
 · rw[if_neg h1]
   exact⟨fun h=>by simp at h,fun h=>absurd ⟨h.1.1.1,h.1.2⟩ h1⟩
theorem bare_set {g:Ent12} (h:g.T=25):bare12 g=true↔g.A=0∧g.B=0∧g.d = []:=by
 unfold bare12
 rw[same12_iff]
 have e:strip12 g=⟨g.T,g.A,g.B,noOx,none,0,none,0,g.d,g.da,g.dc⟩:=by unfold strip12;rw[if_pos h]
 rw[e]
 constructor
 · intro k;injection k with k1 k2 k3 k4 k5;exact⟨k2,k3,k5⟩
 · rintro⟨k1,k2,k3⟩;simp only[Ent12.act,none12,k1,k2,k3]
theorem bare_exp {g:Ent12} (h:g.T=65535):bare12 g=true↔g.B=0∧g.o=noOx:=by
 unfold bare12
 rw[same12_iff]
 have e:strip12 g=⟨g.T,0,g.B,g.o,g.va,g.vc,g.ma,g.mc,[],none,0⟩:=by unfold strip12;rw[if_neg (by omega),if_pos h]
 rw[e]
 constructor
 · intro k;injection k with k1 k2 k3 k4 k5;exact⟨k3,k4⟩
 · rintro⟨k1,k2⟩;simp only[Ent12.act,none12,k1,k2]
theorem bare_out {g:Ent12} (h:g.T=0):bare12 g=true↔g.o=noOx∧g.d = []:=by
 unfold bare12
 rw[same12_iff]
 have e:strip12 g=⟨g.T,0,0,g.o,g.va,g.vc,g.ma,g.mc,g.d,g.da,g.dc⟩:=by unfold strip12;rw[if_neg (by omega),if_neg (by omega),if_pos h]
 rw[e]
 constructor
 · intro k;injection k with k1 k2 k3 k4 k5;exact⟨k4,k5⟩
 · rintro⟨k1,k2⟩;simp only[Ent12.act,none12,k1,k2]
theorem bare_num {g:Ent12} (h:g.T=22∨g.T=21∨g.T=15∨g.T=23∨g.T=17∨g.T=19∨g.T=26∨g.T=20):bare12 g=true↔g.B=0∧g.o=noOx∧g.d = []:=by
 unfold bare12
 rw[same12_iff]
 have e:strip12 g=⟨g.T,0,g.B,g.o,g.va,g.vc,g.ma,g.mc,g.d,g.da,g.dc⟩:=by unfold strip12;rw[if_neg (by omega),if_neg (by omega),if_neg (by omega),if_pos h]
 rw[e]
 constructor
 · intro k;injection k with k1 k2 k3 k4 k5;exact⟨k3,k4,k5⟩
 · rintro⟨k1,k2,k3⟩;simp only[Ent12.act,none12,k1,k2,k3]
theorem bare_no {g:Ent12} (h:g.T=11∨g.T=12∨g.T=16∨g.T=18∨g.T=24∨g.T=27):bare12 g=true↔g.A=0∧g.B=0∧g.o=noOx∧g.d = []:=by
 unfold bare12
 rw[same12_iff]
 have e:strip12 g=g:=by unfold strip12;rw[if_neg (by omega),if_neg (by omega),if_neg (by omega),if_neg (by omega)]
 rw[e]
 constructor
 · intro k;injection k with k1 k2 k3 k4 k5;exact⟨k2,k3,k4,k5⟩
 · rintro⟨k1,k2,k3,k4⟩;simp only[Ent12.act,none12,k1,k2,k3,k4]
theorem size_noOx {g:Ent12} {w:List Int} (hw:row12 g.T=some w) (ho:g.o=noOx):size12 g.act=up12 (4+sizeL w+g.d.length):=by
 unfold size12
 have e2:rowP g.act.T=w:=by show rowP g.T=w;simp[rowP,hw]
 have e3:size8 g.act.o.C g.act.o.F g.act.o.H g.act.o.X g.act.o.v g.act.o.m=0:=by
  show size8 g.o.C g.o.F g.o.H g.o.X g.o.v g.o.m=0
  rw[ho]
  exact size8_none
 rw[e2,e3]
 rfl
theorem wrong_row {g:Ent12} (h25:g.T≠25) (hx:g.T≠65535):wrong12 g.act=asked12 g.T g.A:=by
 unfold wrong12
 rw[if_neg (show ¬g.act.T=25 from h25),if_neg (show ¬g.act.T=65535 from hx)]
 rfl
theorem right_by_row (g:Ent12) (w:List Int) (hw:row12 g.T=some w) (h25:g.T≠25) (hk:(bare12 g=true∧wrong12 g.act=0∧size12 g.act≤65528)↔cond12 g.act w):right12 g=true↔(act12 g.act).isSome=true:=by
 rw[right_row (a:=g.act) hw h25,right12_iff,←hk]
 have e1:rowB g.T=true:=by simp[rowB,hw]
 have e2:rowP g.T=w:=by simp[rowP,hw]
 rw[e1,e2]
 exact⟨fun⟨_,h1,h2,h3,h4⟩=>⟨⟨h1,h2,h4⟩,h3⟩,fun⟨⟨h1,h2,h4⟩,h3⟩=>⟨rfl,h1,h2,h3,h4⟩⟩
theorem right_act (g:Ent12) (hd:g.d.length≤100000):right12 g=(act12 g.act).isSome:=by
 rw[Bool.eq_iff_iff]
 by_cases h25:g.T=25
 · rw[right12_iff,right_set h25,bare_set h25]
   have e1:rowB g.T=true:=by rw[h25];decide
   have e2:rowP g.T = []:=by rw[h25];decide
   have e3:putW [] (nums12 g.act [])=some []:=by simp[nums12,countL,putW,rightW,allW,putL]
   have e4:wrong12 g.act=wset12 g.o:=by unfold wrong12;rw[if_pos (show g.act.T=25 from h25)];rfl
   rw[e1,e2,e3,e4,wset_ok]
   constructor
   · rintro⟨_,⟨h1,h2,h3⟩,h4,_,_⟩
     exact⟨h1,h2,h3,h4⟩
   · rintro⟨h1,h2,h3,h4⟩
     refine⟨rfl,⟨h1,h2,h3⟩,h4,rfl,?_⟩
     unfold size12
     have s0:=size8_le g.o.C g.o.F g.o.H g.o.X g.o.v g.o.m
     have e5:rowP g.act.T = []:=e2
     have e6:g.act.d = []:=h3
     rw[e5,e6]
     refine up_ok ?_
     show 4+sizeL []+size8 g.o.C g.o.F g.o.H g.o.X g.o.v g.o.m+0≤60000
     simp[sizeL]
     omega
 · cases hr:row12 g.T with
   | none=>
     have e1:rowB g.T=false:=by simp[rowB,hr,h25]
     have e2:act12 g.act=none:=by
      unfold act12 body12
      rw[if_neg (show ¬g.act.T=25 from h25),show row12 g.act.T=none from hr]
      rfl
     rw[right12_iff,e1,e2]
     exact⟨fun h=>by simp at h,fun h=>by simp at h⟩
   | some w=>
     refine right_by_row g w hr h25 ?_
     have hsz:=fun ho=>size_noOx hr ho
     unfold cond12
     by_cases hx:g.T=65535
     · have hw:w = [4]:=by rw[hx]at hr;exact (Option.some.inj hr).symm
       subst hw
       rw[bare_exp hx]
       have e4:wrong12 g.act=if g.d.length%8=0 then 0 else 514:=by unfold wrong12;rw[if_neg (show ¬g.act.T=25 from h25),if_pos (show g.act.T=65535 from hx)];rfl
       have e5:asked12 g.act.T g.act.A=0:=by show asked12 g.T g.A=0;rw[hx];simp[asked12]
       rw[e4,e5]
       constructor
       · rintro⟨⟨h1,h2⟩,h3,h4⟩
         have h5:g.d.length%8=0:=by
          by_cases hh:g.d.length%8=0
          · exact hh
          · rw[if_neg hh]at h3;simp at h3
         rw[hsz h2]at h4
         have:g.d.length≤65520:=by unfold up12 at h4;simp[sizeL]at h4;omega
         exact⟨h2,rfl,fun _=>h1,fun h=>absurd h (by decide),fun h=>absurd hx h,h5,this⟩
       · rintro⟨h2,_,h1,_,_,h5,h6⟩
         refine⟨⟨h1 (by decide),h2⟩,by rw[if_pos (show g.d.length%8=0 from h5)],?_⟩
         have h6':g.d.length≤65520:=h6
         have h5':g.d.length%8=0:=h5
         rw[hsz h2]
         unfold up12
         simp[sizeL]
         omega
     · rw [wrong_row h25 hx]
       have hsmall:g.o=noOx→g.d = []→size12 g.act≤65528:=by
        intro ho hd0
        rw[hsz ho,hd0]
        have:=(row_facts hr).size
        exact up_ok (by simp;omega)
       have fin:∀(P:Prop),(P↔g.o=noOx∧(countL w<2→g.B=0)∧(countL w<1→g.A=0)∧g.d = [])→((P∧asked12 g.T g.A=0∧size12 g.act≤65528)↔g.act.o=noOx∧asked12 g.act.T g.act.A=0∧(countL w<2→g.act.B=0)∧(countL w<1→g.act.A=0)∧(g.act.T≠65535→g.act.d = [])∧g.act.d.length%8=0∧g.act.d.length≤65520):=by
        intro P hP
        rw[hP]
        constructor
        · rintro⟨⟨h1,h2,h3,h4⟩,h5,_⟩
          have h4':g.act.d = []:=h4
          exact⟨h1,h5,h2,h3,fun _=>h4,by rw[h4'];rfl,by rw[h4'];simp⟩
        · rintro⟨h1,h5,h2,h3,h4,_,_⟩
          exact⟨⟨h1,h2,h3,h4 hx⟩,h5,hsmall h1 (h4 hx)⟩
       refine fin _ ?_
       rcases row_ways hr with⟨k,rfl⟩|⟨k,rfl⟩|⟨k,rfl⟩|⟨k,rfl⟩|⟨k,rfl⟩
       · rw[bare_out k]
         exact⟨fun⟨h1,h2⟩=>⟨h1,fun h=>absurd h (by decide),fun h=>absurd h (by decide),h2⟩,fun⟨h1,_,_,h2⟩=>⟨h1,h2⟩⟩
       · rw[bare_num (by omega)]
         exact⟨fun⟨h0,h1,h2⟩=>⟨h1,fun _=>h0,fun h=>absurd h (by decide),h2⟩,fun⟨h1,h0,_,h2⟩=>⟨h0 (by decide),h1,h2⟩⟩
       · rw[bare_num (by omega)]
         exact⟨fun⟨h0,h1,h2⟩=>⟨h1,fun _=>h0,fun h=>absurd h (by decide),h2⟩,fun⟨h1,h0,_,h2⟩=>⟨h0 (by decide),h1,h2⟩⟩
       · rw[bare_no k]
         exact⟨fun⟨hA,h0,h1,h2⟩=>⟨h1,fun _=>h0,fun _=>hA,h2⟩,fun⟨h1,h0,hA,h2⟩=>⟨hA (by decide),h0 (by decide),h1,h2⟩⟩
       · rw[bare_num (by omega)]
         exact⟨fun⟨h0,h1,h2⟩=>⟨h1,fun _=>h0,fun h=>absurd h (by decide),h2⟩,fun⟨h1,h0,_,h2⟩=>⟨h0 (by decide),h1,h2⟩⟩
theorem right_ways (g:Ent12):∃r,right12 g=r∧((rowB g.T=false∧r=false)∨(rowB g.T=true∧bare12 g=false∧r=false)∨(rowB g.T=true∧bare12 g=true∧wrong12 g.act≠0∧r=false)∨(rowB g.T=true∧bare12 g=true∧wrong12 g.act=0∧putW (rowP g.T) (nums12 g.act (rowP g.T))=none∧r=false)∨(∃bs,rowB g.T=true∧bare12 g=true∧wrong12 g.act=0∧putW (rowP g.T) (nums12 g.act (rowP g.T))=some bs∧r=decide (size12 g.act≤65528))):=by
 refine⟨_,rfl,?_⟩
 unfold right12
 cases h1:rowB g.T
 · exact .inl ⟨rfl,by simp⟩
 · cases h2:bare12 g
   · exact .inr (.inl ⟨rfl,rfl,by simp⟩)
   · by_cases h3:wrong12 g.act=0
     · cases h4:putW (rowP g.T) (nums12 g.act (rowP g.T)) with
       | none=>exact .inr (.inr (.inr (.inl ⟨rfl,rfl,h3,rfl,by simp⟩)))
       | some bs=>exact .inr (.inr (.inr (.inr ⟨bs,rfl,rfl,h3,rfl,by simp[h3]⟩)))
     · exact .inr (.inr (.inl ⟨rfl,rfl,h3,by simp[h3]⟩))
set_option maxRecDepth 100000 in
set_option maxHeartbeats 2000000 in
theorem actRight_any (g:Ent12) (w:World) (hi:ActIn w g):
 Calls Tryz.prog 27 #[g.val] w fun e w'=>e = .returned (.bool (right12 g))∧Below w.heap.size w w':=by
 obtain⟨W,hW,hbW,hx⟩:=act_box w g.T g.A g.B g.o.C g.o.F g.o.H g.o.X g.va g.o.v.length g.vc g.ma g.o.m.length g.mc g.da g.d.length g.dc
 have HW:=hid hW
 have HB:=hid hbW
 obtain⟨k1,k2,k3,k4,k5,k6⟩:=count_le12 g.T
 have RO:=hid (rowOf_any g.T W)
 have BA:=hid (fun (V:World) (hV:Below w.heap.size w V)=>isBare_any g V (hi.below hV))
 have WR:=hid (fun (V:World) (hV:Below w.heap.size w V)=>wrong_any g V (hi.below hV))
 have SZ:=hid (fun (V:World) (hV:Below w.heap.size w V)=>actSize_any g V (hi.below hV))
 have NU:=hid (fun (V:World) (a:Option Addr) (c:Nat) (ia:Ints .i64 V a (rowP g.T))=>numbers_at g.T g.A g.B g.o.C g.o.F g.o.H g.o.X g.va g.o.v.length g.vc g.ma g.o.m.length g.mc g.da g.d.length g.dc (rowP g.T) a c (countL (rowP g.T)) k2 k1 (by omega) V ia)
 have HU:Hid (U64s (nums12 g.act (rowP g.T))):=nums_u64 hi.num _
 have NL:Hid ((nums12 g.act (rowP g.T)).length=countL (rowP g.T)):=nums_len k1
 obtain⟨r,hr,hq⟩:=right_ways g
 rw[hr]
 clear hr hi hW hbW k2 k3 k4 k6
 obtain⟨nl,hnl⟩:∃nl,nums12 g.act (rowP g.T)=nl:=⟨_,rfl⟩
 have HN:Hid ([g.A,g.B].take (countL (rowP g.T))=nl):=hnl
 rw[hnl]at HU NL hq
 clear hnl
 obtain⟨sz,hsz⟩:∃sz,size12 g.act=sz:=⟨_,rfl⟩
 obtain⟨wr,hwr⟩:∃wr,wrong12 g.act=wr:=⟨_,rfl⟩
 obtain⟨ba,hba⟩:∃ba,bare12 g=ba:=⟨_,rfl⟩
 rw[hsz]at SZ hq
 rw[hwr]at WR hq
 rw[hba]at BA hq
 clear hsz hwr hba
 obtain⟨T,A,B,⟨C,F,H,X,v,m⟩,va,vc,ma,mc,d,da,dc⟩:=g
 simp only at *
 obtain⟨l,hl⟩:∃l,rowP T=l:=⟨_,rfl⟩
 obtain⟨rb,hrb⟩:∃b,rowB T=b:=⟨_,rfl⟩
 rw[hl]at RO NU NL HN k1 k5 hq
 rw[hrb]at RO hq
 obtain⟨cl,hcl⟩:∃c,countL l=c:=⟨_,rfl⟩
 rw[hcl]at NU NL HN k1
 clear hl hrb hcl
 unfold Ent12.val at *
 simp only at *
 obtain⟨d0,d1,d2,d3,d4,d5,d6,d7,d8,d9⟩:=hx.ten
 rcases hq with⟨rfl,rfl⟩|⟨rfl,rfl,rfl⟩|⟨rfl,rfl,hw0,rfl⟩|⟨rfl,rfl,rfl,hp,rfl⟩|⟨bs,rfl,rfl,rfl,hp,rfl⟩
 · go_enter Tryz.func27,Tryz.ntmps27
   go_wp2_with fail
   rw[HW.out]
   go_wp2_with fail
   refine RO.out.mono ?_
   rintro e w1 ⟨a,rfl,hI1,hb1⟩
   have HA1:=hid (below_on HB.out hb1)
   have I1:=hid hI1
   have HC1:=hid hb1
   clear hb1 hI1 d0 d1 d2 d3 d4 d5 d6 d7 d8 d9
   obtain⟨d0,d1,d2,d3,d4,d5,d6,d7,d8,d9⟩:=(hx.below HC1.out).ten
   go_wp2_with fail
   go_ret
   exact⟨rfl,HA1.out⟩
 · go_enter Tryz.func27,Tryz.ntmps27
   go_wp2_with fail
   rw[HW.out]
   go_wp2_with fail
   refine RO.out.mono ?_
   rintro e w1 ⟨a,rfl,hI1,hb1⟩
   have HA1:=hid (below_on HB.out hb1)
   have I1:=hid hI1
   have HC1:=hid hb1
   clear hb1 hI1 d0 d1 d2 d3 d4 d5 d6 d7 d8 d9
   obtain⟨d0,d1,d2,d3,d4,d5,d6,d7,d8,d9⟩:=(hx.below HC1.out).ten
   go_wp2_with fail
   refine (BA.out _ HA1.out).mono ?_
   rintro e w2 ⟨rfl,hb2⟩
   have HA2:=hid (below_on HA1.out hb2)
   have HC2:=hid (below_on HC1.out hb2)
   clear hb2 d0 d1 d2 d3 d4 d5 d6 d7 d8 d9
   obtain⟨d0,d1,d2,d3,d4,d5,d6,d7,d8,d9⟩:=(hx.below HC2.out).ten
   go_wp2_with fail
   go_ret
   exact⟨rfl,HA2.out⟩
 · have hw1:(wr != 0)=true:=by simpa using hw0
   clear hw0
   go_enter Tryz.func27,Tryz.ntmps27
   go_wp2_with fail
   rw[HW.out]
   go_wp2_with fail
   refine RO.out.mono ?_
   rintro e w1 ⟨a,rfl,hI1,hb1⟩
   have HA1:=hid (below_on HB.out hb1)
   have I1:=hid hI1
   have HC1:=hid hb1
   clear hb1 hI1 d0 d1 d2 d3 d4 d5 d6 d7 d8 d9
   obtain⟨d0,d1,d2,d3,d4,d5,d6,d7,d8,d9⟩:=(hx.below HC1.out).ten
   go_wp2_with fail
   refine (BA.out _ HA1.out).mono ?_
   rintro e w2 ⟨rfl,hb2⟩
   have HA2:=hid (below_on HA1.out hb2)
   have HC2:=hid (below_on HC1.out hb2)
   clear hb2 d0 d1 d2 d3 d4 d5 d6 d7 d8 d9
   obtain⟨d0,d1,d2,d3,d4,d5,d6,d7,d8,d9⟩:=(hx.below HC2.out).ten
   go_wp2_with fail
   refine (WR.out _ HA2.out).mono ?_
   rintro e w3 ⟨rfl,hb3⟩
   have HA3:=hid (below_on HA2.out hb3)
   have HC3:=hid (below_on HC2.out hb3)
   clear hb3 d0 d1 d2 d3 d4 d5 d6 d7 d8 d9
   obtain⟨d0,d1,d2,d3,d4,d5,d6,d7,d8,d9⟩:=(hx.below HC3.out).ten
   go_wp2_with fail
   go_ret
   exact⟨rfl,HA3.out⟩
 · have HP:=hid hp
   clear hp
   go_enter Tryz.func27,Tryz.ntmps27
   go_wp2_with fail
   rw[HW.out]
   go_wp2_with fail
   refine RO.out.mono ?_
   rintro e w1 ⟨a,rfl,hI1,hb1⟩
   have HA1:=hid (below_on HB.out hb1)
   have I1:=hid hI1
   have HC1:=hid hb1
   clear hb1 hI1 d0 d1 d2 d3 d4 d5 d6 d7 d8 d9
   obtain⟨d0,d1,d2,d3,d4,d5,d6,d7,d8,d9⟩:=(hx.below HC1.out).ten
   go_wp2_with fail
   refine (BA.out _ HA1.out).mono ?_
   rintro e w2 ⟨rfl,hb2⟩
   have HA2:=hid (below_on HA1.out hb2)
   have HE2:=hid hb2
   have HC2:=hid (below_on HC1.out hb2)
   clear hb2 d0 d1 d2 d3 d4 d5 d6 d7 d8 d9
   obtain⟨d0,d1,d2,d3,d4,d5,d6,d7,d8,d9⟩:=(hx.below HC2.out).ten
   go_wp2_with fail
   refine (WR.out _ HA2.out).mono ?_
   rintro e w3 ⟨rfl,hb3⟩
   have HA3:=hid (below_on HA2.out hb3)
   have HE3:=hid hb3
   have HC3:=hid (below_on HC2.out hb3)
   clear hb3 d0 d1 d2 d3 d4 d5 d6 d7 d8 d9
   obtain⟨d0,d1,d2,d3,d4,d5,d6,d7,d8,d9⟩:=(hx.below HC3.out).ten
   go_wp2_with fail
   refine (NU.out _ a _ (I1.out.below (below_on HE2.out HE3.out))).mono ?_
   rintro e w4 ⟨b,rfl,hI4,hb4⟩
   rw[HN.out]at hI4
   have HA4:=hid (below_on HA3.out hb4)
   have HE4:=hid hb4
   have HC4:=hid (below_on HC3.out hb4)
   have I4:=hid hI4
   clear hb4 hI4 d0 d1 d2 d3 d4 d5 d6 d7 d8 d9
   obtain⟨d0,d1,d2,d3,d4,d5,d6,d7,d8,d9⟩:=(hx.below HC4.out).ten
   have hnl:=NL.out
   have PU:=put_no l nl HP.out a b l.length 2 w4 (by omega) (by omega) HU.out (I1.out.below (below_on (below_on HE2.out HE3.out) HE4.out)) I4.out
   rw[hnl]at PU
   have PU:=hid PU
   clear hnl
   go_wp2_with fail
   refine PU.out.mono ?_
   rintro e w5 ⟨rfl,hb5⟩
   have HA5:=hid (below_on HA4.out hb5)
   clear hb5
   go_wp2_with fail
   go_ret
   exact⟨rfl,HA5.out⟩
 · have HP:=hid hp
   clear hp
   go_enter Tryz.func27,Tryz.ntmps27
   go_wp2_with fail
   rw[HW.out]
   go_wp2_with fail
   refine RO.out.mono ?_
   rintro e w1 ⟨a,rfl,hI1,hb1⟩
   have HA1:=hid (below_on HB.out hb1)
   have I1:=hid hI1
   have HC1:=hid hb1
   clear hb1 hI1 d0 d1 d2 d3 d4 d5 d6 d7 d8 d9
   obtain⟨d0,d1,d2,d3,d4,d5,d6,d7,d8,d9⟩:=(hx.below HC1.out).ten
   go_wp2_with fail
   refine (BA.out _ HA1.out).mono ?_
   rintro e w2 ⟨rfl,hb2⟩
   have HA2:=hid (below_on HA1.out hb2)
   have HE2:=hid hb2
   have HC2:=hid (below_on HC1.out hb2)
   clear hb2 d0 d1 d2 d3 d4 d5 d6 d7 d8 d9
   obtain⟨d0,d1,d2,d3,d4,d5,d6,d7,d8,d9⟩:=(hx.below HC2.out).ten
   go_wp2_with fail
   refine (WR.out _ HA2.out).mono ?_
   rintro e w3 ⟨rfl,hb3⟩
   have HA3:=hid (below_on HA2.out hb3)
   have HE3:=hid hb3
   have HC3:=hid (below_on HC2.out hb3)
   clear hb3 d0 d1 d2 d3 d4 d5 d6 d7 d8 d9
   obtain⟨d0,d1,d2,d3,d4,d5,d6,d7,d8,d9⟩:=(hx.below HC3.out).ten
   go_wp2_with fail
   refine (NU.out _ a _ (I1.out.below (below_on HE2.out HE3.out))).mono ?_
   rintro e w4 ⟨b,rfl,hI4,hb4⟩
   rw[HN.out]at hI4
   have HA4:=hid (below_on HA3.out hb4)
   have HE4:=hid hb4
   have HC4:=hid (below_on HC3.out hb4)
   have I4:=hid hI4
   clear hb4 hI4 d0 d1 d2 d3 d4 d5 d6 d7 d8 d9
   obtain⟨d0,d1,d2,d3,d4,d5,d6,d7,d8,d9⟩:=(hx.below HC4.out).ten
   have hnl:=NL.out
   have PU:=put_yes l nl bs HP.out a b l.length 2 w4 (by omega) (by omega) HU.out (I1.out.below (below_on (below_on HE2.out HE3.out) HE4.out)) I4.out
   rw[hnl]at PU
   have PU:=hid PU
   clear hnl
   go_wp2_with fail
   refine PU.out.mono ?_
   rintro e w5 ⟨ad,cp,rfl,hb5,_,_⟩
   have HA5:=hid (below_on HA4.out hb5)
   have HC5:=hid (below_on HC4.out hb5)
   clear hb5 d0 d1 d2 d3 d4 d5 d6 d7 d8 d9
   obtain⟨d0,d1,d2,d3,d4,d5,d6,d7,d8,d9⟩:=(hx.below HC5.out).ten
   go_wp2_with fail
   refine (SZ.out _ HA5.out).mono ?_
   rintro e w6 ⟨rfl,hb6⟩
   have HA6:=hid (below_on HA5.out hb6)
   clear hb6
   go_wp2_with fail
   go_ret
   exact⟨ret_bool (by simp;try omega),HA6.out⟩
def sizeS12 (g:Ent12):Nat:=if right12 g then size12 g.act else 0
end Go.Proofs.YthpdkancighknaaGreat
