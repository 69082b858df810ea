/- Put together out of several texts. -/
import Derived.Test.YthpdkancighknaaGreatA12
import Derived.Test.YthpdkancighknaaGreatA3
import Derived.Deep.RegionHeld3
import Derived.WalkMore
namespace Go.Proofs.YthpdkancighknaaGreat
open Go.RowKit
set_option linter.unusedVariables false
set_option maxRecDepth 100000 in
set_option maxHeartbeats 2000000 in
theorem refRow12_any (t:Int) (w:World):Calls Tryz.prog 68 #[.int .i64 t] w (RowPost12 (rowP t) (row12 t).isSome w):=by
 rcases type_ways t with rfl|rfl|rfl|rfl|rfl|rfl|rfl|rfl|rfl|rfl|rfl|rfl|rfl|rfl|rfl|rfl|rfl|h
 · exact row_lit (l:=[4,2,-6]) (by kernel_rfl)
 · exact row_lit (l:=[-4]) (by kernel_rfl)
 · exact row_lit (l:=[-4]) (by kernel_rfl)
 · exact row_lit (l:=[1,-3]) (by kernel_rfl)
 · exact row_lit (l:=[-4]) (by kernel_rfl)
 · exact row_lit (l:=[2,-2]) (by kernel_rfl)
 · exact row_lit (l:=[-4]) (by kernel_rfl)
 · exact row_lit (l:=[2,-2]) (by kernel_rfl)
 · exact row_lit (l:=[2,-2]) (by kernel_rfl)
 · exact row_lit (l:=[4]) (by kernel_rfl)
 · exact row_lit (l:=[4]) (by kernel_rfl)
 · exact row_lit (l:=[1,-3]) (by kernel_rfl)
 · exact row_lit (l:=[-4]) (by kernel_rfl)
 · have e1:rowP 25 = []:=by decide
   have e2:(row12 25).isSome=false:=by decide
   rw[e1,e2]
   exact row_none (by kernel_rfl)
 · exact row_lit (l:=[2,-2]) (by kernel_rfl)
 · exact row_lit (l:=[-4]) (by kernel_rfl)
 · exact row_lit (l:=[4]) (by kernel_rfl)
 · have e1:rowP t = []:=by simp[rowP,row12,h]
   have e2:(row12 t).isSome=false:=by simp[row12,h]
   rw[e1,e2]
   have c0:(t==0)=false:=by simp[h]
   have c1:(t==11)=false:=by simp[h]
   have c2:(t==12)=false:=by simp[h]
   have c3:(t==15)=false:=by simp[h]
   have c4:(t==16)=false:=by simp[h]
   have c5:(t==17)=false:=by simp[h]
   have c6:(t==18)=false:=by simp[h]
   have c7:(t==19)=false:=by simp[h]
   have c8:(t==20)=false:=by simp[h]
   have c9:(t==21)=false:=by simp[h]
   have c10:(t==22)=false:=by simp[h]
   have c11:(t==23)=false:=by simp[h]
   have c12:(t==24)=false:=by simp[h]
   have c13:(t==26)=false:=by simp[h]
   have c14:(t==27)=false:=by simp[h]
   have c15:(t==65535)=false:=by simp[h]
   clear h e1 e2
   go_enter Tryz.func68,Tryz.ntmps68
   go_wp2_with fail
   go_ret2
   exact⟨none,rfl,Ints.nil _ _ _,Below.refl _ _⟩
set_option maxRecDepth 100000 in
set_option maxHeartbeats 2000000 in
theorem asked_out_no (t n:Int) (w:World) (hT:t=0) (hA:n=0):
 Calls Tryz.prog 69 #[.int .i64 t,.int .u64 n] w fun e w'=>e = .returned (.int .i64 (asked12 t n))∧w'=w:=by
 have hq:asked12 t n=517:=by simp[asked12,hT,hA]
 rw[hq]
 clear hq
 subst hT
 subst hA
 go_enter Tryz.func69,Tryz.ntmps69
 go_wp2_with fail
 go_ret
 exact⟨rfl,rfl⟩
set_option maxRecDepth 100000 in
set_option maxHeartbeats 2000000 in
theorem asked_out_yes (t n:Int) (w:World) (hT:t=0) (hA:n≠0):
 Calls Tryz.prog 69 #[.int .i64 t,.int .u64 n] w fun e w'=>e = .returned (.int .i64 (asked12 t n))∧w'=w:=by
 have hq:asked12 t n=0:=by simp[asked12,hT,hA]
 rw[hq]
 clear hq
 subst hT
 have c:(n==0)=false:=by simpa using hA
 clear hA
 go_enter Tryz.func69,Tryz.ntmps69
 go_wp2_with fail
 go_ret
 exact⟨rfl,rfl⟩
set_option maxRecDepth 100000 in
set_option maxHeartbeats 2000000 in
theorem asked_grp_no (t n:Int) (w:World) (hT:t=22) (hA : 4294967040<n):
 Calls Tryz.prog 69 #[.int .i64 t,.int .u64 n] w fun e w'=>e = .returned (.int .i64 (asked12 t n))∧w'=w:=by
 have hq:asked12 t n=522:=by simp[asked12,hT,hA]
 rw[hq]
 clear hq
 subst hT
 go_enter Tryz.func69,Tryz.ntmps69
 go_wp2_with fail
 go_ret
 exact⟨rfl,rfl⟩
set_option maxRecDepth 100000 in
set_option maxHeartbeats 2000000 in
theorem asked_grp_yes (t n:Int) (w:World) (hT:t=22) (hA:¬ 4294967040<n):
 Calls Tryz.prog 69 #[.int .i64 t,.int .u64 n] w fun e w'=>e = .returned (.int .i64 (asked12 t n))∧w'=w:=by
 have hq:asked12 t n=0:=by simp[asked12,hT,hA]
 rw[hq]
 clear hq
 subst hT
 go_enter Tryz.func69,Tryz.ntmps69
 go_wp2_with fail
 go_ret
 exact⟨rfl,rfl⟩
set_option maxRecDepth 100000 in
set_option maxHeartbeats 2000000 in
theorem asked_vlan_a (t n:Int) (w:World) (hT:t=17) (hA:n=33024):
 Calls Tryz.prog 69 #[.int .i64 t,.int .u64 n] w fun e w'=>e = .returned (.int .i64 (asked12 t n))∧w'=w:=by
 have hq:asked12 t n=0:=by simp[asked12,hT,hA]
 rw[hq]
 clear hq
 subst hT
 subst hA
 go_enter Tryz.func69,Tryz.ntmps69
 go_wp2_with fail
 go_ret
 exact⟨rfl,rfl⟩
set_option maxRecDepth 100000 in
set_option maxHeartbeats 2000000 in
theorem asked_vlan_b (t n:Int) (w:World) (hT:t=17) (hA:n=34984):
 Calls Tryz.prog 69 #[.int .i64 t,.int .u64 n] w fun e w'=>e = .returned (.int .i64 (asked12 t n))∧w'=w:=by
 have hq:asked12 t n=0:=by simp[asked12,hT,hA]
 rw[hq]
 clear hq
 subst hT
 subst hA
 go_enter Tryz.func69,Tryz.ntmps69
 go_wp2_with fail
 go_ret
 exact⟨rfl,rfl⟩
set_option maxRecDepth 100000 in
set_option maxHeartbeats 2000000 in
theorem asked_vlan_no (t n:Int) (w:World) (hT:t=17) (hA:n≠33024) (hA2:n≠34984):
 Calls Tryz.prog 69 #[.int .i64 t,.int .u64 n] w fun e w'=>e = .returned (.int .i64 (asked12 t n))∧w'=w:=by
 have hq:asked12 t n=518:=by simp[asked12,hT,hA,hA2]
 rw[hq]
 clear hq
 subst hT
 have c:(n != 33024)=true:=by simpa using hA
 have c2:(n != 34984)=true:=by simpa using hA2
 clear hA hA2
 go_enter Tryz.func69,Tryz.ntmps69
 go_wp2_with fail
 go_ret
 exact⟨rfl,rfl⟩
set_option maxRecDepth 100000 in
set_option maxHeartbeats 2000000 in
theorem asked_mpls_a (t n:Int) (w:World) (hT:t=19) (hA:n=34887):
 Calls Tryz.prog 69 #[.int .i64 t,.int .u64 n] w fun e w'=>e = .returned (.int .i64 (asked12 t n))∧w'=w:=by
 have hq:asked12 t n=0:=by simp[asked12,hT,hA]
 rw[hq]
 clear hq
 subst hT
 subst hA
 go_enter Tryz.func69,Tryz.ntmps69
 go_wp2_with fail
 go_ret
 exact⟨rfl,rfl⟩
set_option maxRecDepth 100000 in
set_option maxHeartbeats 2000000 in
theorem asked_mpls_b (t n:Int) (w:World) (hT:t=19) (hA:n=34888):
 Calls Tryz.prog 69 #[.int .i64 t,.int .u64 n] w fun e w'=>e = .returned (.int .i64 (asked12 t n))∧w'=w:=by
 have hq:asked12 t n=0:=by simp[asked12,hT,hA]
 rw[hq]
 clear hq
 subst hT
 subst hA
 go_enter Tryz.func69,Tryz.ntmps69
 go_wp2_with fail
 go_ret
 exact⟨rfl,rfl⟩
set_option maxRecDepth 100000 in
set_option maxHeartbeats 2000000 in
theorem asked_mpls_no (t n:Int) (w:World) (hT:t=19) (hA:n≠34887) (hA2:n≠34888):
 Calls Tryz.prog 69 #[.int .i64 t,.int .u64 n] w fun e w'=>e = .returned (.int .i64 (asked12 t n))∧w'=w:=by
 have hq:asked12 t n=518:=by simp[asked12,hT,hA,hA2]
 rw[hq]
 clear hq
 subst hT
 have c:(n != 34887)=true:=by simpa using hA
 have c2:(n != 34888)=true:=by simpa using hA2
 clear hA hA2
 go_enter Tryz.func69,Tryz.ntmps69
 go_wp2_with fail
 go_ret
 exact⟨rfl,rfl⟩
set_option maxRecDepth 100000 in
set_option maxHeartbeats 2000000 in
theorem asked_pbb_a (t n:Int) (w:World) (hT:t=26) (hA:n=35047):
 Calls Tryz.prog 69 #[.int .i64 t,.int .u64 n] w fun e w'=>e = .returned (.int .i64 (asked12 t n))∧w'=w:=by
 have hq:asked12 t n=0:=by simp[asked12,hT,hA]
 rw[hq]
 clear hq
 subst hT
 subst hA
 go_enter Tryz.func69,Tryz.ntmps69
 go_wp2_with fail
 go_ret
 exact⟨rfl,rfl⟩
set_option maxRecDepth 100000 in
set_option maxHeartbeats 2000000 in
theorem asked_pbb_no (t n:Int) (w:World) (hT:t=26) (hA:n≠35047):
 Calls Tryz.prog 69 #[.int .i64 t,.int .u64 n] w fun e w'=>e = .returned (.int .i64 (asked12 t n))∧w'=w:=by
 have hq:asked12 t n=518:=by simp[asked12,hT,hA]
 rw[hq]
 clear hq
 subst hT
 have c:(n != 35047)=true:=by simpa using hA
 clear hA
 go_enter Tryz.func69,Tryz.ntmps69
 go_wp2_with fail
 go_ret
 exact⟨rfl,rfl⟩
set_option maxRecDepth 100000 in
set_option maxHeartbeats 2000000 in
theorem asked_else (t n:Int) (w:World) (hT:t≠0∧t≠22∧t≠17∧t≠19∧t≠26):
 Calls Tryz.prog 69 #[.int .i64 t,.int .u64 n] w fun e w'=>e = .returned (.int .i64 (asked12 t n))∧w'=w:=by
 have hq:asked12 t n=0:=by simp[asked12,hT]
 rw[hq]
 clear hq
 obtain⟨h0,h1,h2,h3,h4⟩:=hT
 have c0:(t==0)=false:=by simpa using h0
 have c1:(t==22)=false:=by simpa using h1
 have c2:(t==17)=false:=by simpa using h2
 have c3:(t==19)=false:=by simpa using h3
 have c4:(t==26)=false:=by simpa using h4
 clear h0 h1 h2 h3 h4
 go_enter Tryz.func69,Tryz.ntmps69
 go_wp2_with fail
 go_ret
 exact⟨rfl,rfl⟩
theorem refAsked_any (t n:Int) (w:World):Calls Tryz.prog 69 #[.int .i64 t,.int .u64 n] w fun e w'=>e = .returned (.int .i64 (asked12 t n))∧w'=w:=by
 rcases (show t=0∨t=22∨t=17∨t=19∨t=26∨(t≠0∧t≠22∧t≠17∧t≠19∧t≠26) by omega) with h|h|h|h|h|h
 · by_cases hA:n=0
   · exact asked_out_no t n w h hA
   · exact asked_out_yes t n w h hA
 · by_cases hA : 4294967040<n
   · exact asked_grp_no t n w h hA
   · exact asked_grp_yes t n w h hA
 · by_cases hA:n=33024
   · exact asked_vlan_a t n w h hA
   · by_cases hA2:n=34984
     · exact asked_vlan_b t n w h hA2
     · exact asked_vlan_no t n w h hA hA2
 · by_cases hA:n=34887
   · exact asked_mpls_a t n w h hA
   · by_cases hA2:n=34888
     · exact asked_mpls_b t n w h hA2
     · exact asked_mpls_no t n w h hA hA2
 · by_cases hA:n=35047
   · exact asked_pbb_a t n w h hA
   · exact asked_pbb_no t n w h hA
 · exact asked_else t n w h
set_option maxRecDepth 100000 in
set_option maxHeartbeats 2000000 in
theorem refNums_at (T A B C F:Int) (H:Bool) (X:Int) (va:Option Addr) (vl vc:Nat) (ma:Option Addr) (ml mc:Nat) (da:Option Addr) (dl dc:Nat) (l:List Int) (a:Option Addr) (c:Nat) (k:Nat) (hk:countW l=k) (hk2:k≤2) (hl:l.length≤64) (w:World) (hI:Ints .i64 w a l):
 Calls Tryz.prog 70 #[.agg #[.int .i64 T,.int .u64 A,.int .u64 B,.int .i64 C,.int .i64 F,.bool H,.int .u64 X,.slice va vl vc,.slice ma ml mc,.slice da dl dc],.slice a l.length c] w fun e w'=>∃b,e = .returned (.slice b k 2)∧Ints .u64 w' b ([A,B].take k)∧Below w.heap.size w w':=by
 obtain⟨W,hW,hbW,hx⟩:=act_box w T A B C F H X va vl vc ma ml mc da dl dc
 have HW:=hid hW
 have HB:=hid hbW
 have CO:=hid (fun (V:World) (hV:Below W.heap.size W V)=>refCount_any l a c V (by omega) ((hI.below HB.out).below hV))
 rw[hk]at CO
 have hk0:(0:Int)≤k:=by omega
 have hk3:(k:Int)≤2:=by omega
 clear hW hbW hI hk
 obtain⟨d0,d1,d2,d3,d4,d5,d6,d7,d8,d9⟩:=hx.ten
 go_enter Tryz.func70,Tryz.ntmps70
 go_wp2_with fail
 rw[HW.out]
 go_wp2_with fail
 refine (CO.out _ (below_alloc W _)).mono ?_
 rintro e w' ⟨rfl,rfl⟩
 go_wp2_with fail
 go_ret
 have hws:W.heap.size=w.heap.size+1:=by rw[←HW.out];simp
 exact⟨_,rfl,(lit_at .u64 [A,B] (e:=32) (Below.refl (W.alloc _).heap.size (W.alloc _)) hws rfl).take k,below_on HB.out (below_alloc _ _)⟩
set_option maxRecDepth 100000 in
set_option maxHeartbeats 1000000 in
theorem ref8Bytes_own (C F:Int) (H:Bool) (X:Int) (va:Option Addr) (vc:Nat) (ma:Option Addr) (mc:Nat) (v m:List Int) (hv:v.length≤1000) (hm:m.length≤1000) (hmc:m.length≤mc) (ov:Octets v) (om:Octets m) (w:World) (iv:Ints .u8 w va v) (im:Ints .u8 w ma m) (hC:C=32768) (ft:Facts8 C F H X v m):
 Calls Tryz.prog 67 #[.agg #[.int .i64 C,.int .i64 F,.bool H,.int .u64 X,.slice va v.length vc,.slice ma m.length mc]] w fun e w'=>∃ad cp,e = .returned (.slice ad (oxmBytes C F H X v m).length cp)∧Fresh 5 w w' (.slice ad (oxmBytes C F H X v m).length cp) ((oxmBytes C F H X v m).map (Value.int .u8)):=by
 obtain⟨W,hW,hbW,hbox⟩:=oxm_box w C F H X va v.length vc ma m.length mc
 have HW:=hid hW
 have HB:=hid hbW
 obtain⟨d0,d1,d2,d3,d4,d5⟩:=hbox.six
 have IV:=hid (iv.below hbW)
 have IM:=hid (im.below hbW)
 clear hW hbW iv im
 subst hC
 have hv1:=ft.v1
 have hf0:=ft.f0
 have hf1:=ft.f1
 have hm1:m.length≤100:=by rw[ft.len];cases H<;>simp[maskZ]<;>omega
 obtain⟨b,hbb⟩:∃b,expL 32768 X=b:=⟨_,rfl⟩
 have hb0:b = []:=by rw[←hbb];simp[expL]
 have hF0:Fresh 5 W W.drew (.slice none 0 0) (b.map (Value.int .u8)):=by
  subst hb0
  exact⟨own_nilI _ _ _,below_drew8 W,fun g h=>by simp[Value.ownBlock]at h⟩
 have hb4:b.length≤4:=by subst hb0;decide
 have HBB:=hid hbb
 have HB0:=hid hb0
 clear hbb hb0
 go_enter Tryz.func67,Tryz.ntmps67
 go_wp2_with fail
 rw[HW.out]
 go_upto_region 4 with fail
 go_region_held3 (fun w'=>w'.cell? ⟨w.heap.size,4,none⟩=some (.slice va v.length vc)∧w'.cell? ⟨w.heap.size,5,none⟩=some (.slice ma m.length mc)) (go_keep) (first
  | (refine step_app rfl _ _ rfl elemU8 rfl hF0.own rfl rfl (IV.out.below (below_drew8 W)) ?_ ?_ ?_;(simp;omega);(simp;omega);intro v4 w4 hg4;have hF1:=hF0.step hg4;rw[←List.map_append]at hF1;obtain⟨e0,e1,e2,e3,e4,e5⟩:=(hbox.below hF1.bel).six)
  | (refine step_app rfl _ _ rfl elemU8 rfl hF1.own rfl rfl (IM.out.below hF1.bel) ?_ ?_ ?_;(simp;omega);(simp;omega);intro v5 w5 hg5;have hF2:=hF1.step hg5;rw[←List.map_append]at hF2;obtain⟨e0,e1,e2,e3,e4,e5⟩:=(hbox.below hF2.bel).six)
  | fail)
 obtain⟨a5,c5,rfl,_,_,hI5⟩:=own_ints hF2.own
 have hbl:(b++v++m).length=behind8 32768 v.length m.length:=by rw[HB0.out];simp[behind8]
 have hk:=ft.most
 have HO:Hid (oxmBytes 32768 F H X v m=headL 32768 F H (behind8 32768 v.length m.length)++(b++v++m)):=by rw[←HBB.out];simp[oxmBytes,Hid]
 obtain⟨k,hkk⟩:∃k,behind8 32768 v.length m.length=k:=⟨_,rfl⟩
 rw[hkk]at hbl hk HO
 obtain⟨bd,hbd⟩:∃bd,b++v++m=bd:=⟨_,rfl⟩
 rw[hbd]at hbl hI5 hF2 HO
 rw[hbl]at hF2
 have hbelow:=hF2.bel
 rw[hbd,hbl]
 have hk2:(k:Int)≤204:=by omega
 have HKB:=hid hbl
 have HI5:=hid hI5
 have HF2:=hid hbelow
 clear hbl hk hkk hbd hF2 hF1 hF0 hg4 hg5 e0 e1 e2 e3 e4 e5 d0 d1 d2 d3 d4 d5 hb4 HBB HB0 hm1 hv1 hI5
 obtain⟨d0,d1,d2,d3,d4,d5⟩:=(hbox.below hbelow).six
 clear hbelow
 have HC:=fun W=>num_any 32768 2 W (by decide)
 obtain⟨l2,hl2⟩:∃l,bytesL 32768 2=l:=⟨_,rfl⟩
 rw[hl2]at HC
 have HC:=hid HC
 have HL2:=hid hl2
 clear hl2
 cases H
 · have HY:Hid (l2 ++ [2*F,(k:Int)]=headL 32768 F false k):=by
    rw[←HL2.out]
    simp[headL,bytesL,fieldN,byteAt,p256,Hid]
    omega
   obtain⟨l4,hl4⟩:∃l,headL 32768 F false k=l:=⟨_,rfl⟩
   have h4:=headL_length 32768 F false k
   rw[hl4]at HY HO h4
   obtain⟨xs,hxs⟩:∃l,l4++bd=l:=⟨_,rfl⟩
   have hx4:xs.length≤208:=by rw[←hxs,List.length_append,h4,HKB.out];omega
   rw[hxs]at HO
   have HZ:=hid hxs
   have H4:=hid h4
   have HX:=hid hx4
   clear hxs h4 hl4 hx4
   go_wp2_with fail
   refine (HC.out _).mono ?_
   rintro e w6 ⟨v6,rfl,hF6⟩
   obtain⟨a6,c6,rfl,_,_,hI6⟩:=own_ints hF6.own
   have hFA:=hid (fun o=>hF6.behind (by_none_alloc w6 o))
   clear hF6 hI6
   go_wp2_with (at_builtin;(first
    | (refine wp_app_ints rfl _ _ rfl elemU8 rfl (hFA.out _).own rfl (l:=[2*F,(k:Int)]) rfl (ints_lit .u8 w6 [2*F,(k:Int)] _) HY.out (by rw[H4.out];decide) (by rw[H4.out];decide) ?_;intro a7 c7 w7 hl7 hc7 hI7 hg7;have hF7:=(hFA.out _).step hg7)
    | (refine wp_app_ints rfl _ _ rfl elemU8 rfl hF7.own rfl HKB.out.symm (HI5.out.below hF7.bel) HZ.out (by have:=HX.out;omega) (by have:=HX.out;omega) ?_;intro a8 c8 w8 hl8 hc8 hI8 hg8;have hF8:=hF7.step hg8)
    | fail))
   go_ret
   rw[HO.out]
   exact⟨a8,c8,rfl,Fresh.made (below_by_none (below_on HB.out HF2.out)) hF8⟩
 · have HY:Hid (l2 ++ [2*F+1,(k:Int)]=headL 32768 F true k):=by
    rw[←HL2.out]
    simp[headL,bytesL,fieldN,byteAt,p256,Hid]
    omega
   obtain⟨l4,hl4⟩:∃l,headL 32768 F true k=l:=⟨_,rfl⟩
   have h4:=headL_length 32768 F true k
   rw[hl4]at HY HO h4
   obtain⟨xs,hxs⟩:∃l,l4++bd=l:=⟨_,rfl⟩
   have hx4:xs.length≤208:=by rw[←hxs,List.length_append,h4,HKB.out];omega
   rw[hxs]at HO
   have HZ:=hid hxs
   have H4:=hid h4
   have HX:=hid hx4
   clear hxs h4 hl4 hx4
   go_wp2_with fail
   refine (HC.out _).mono ?_
   rintro e w6 ⟨v6,rfl,hF6⟩
   obtain⟨a6,c6,rfl,_,_,hI6⟩:=own_ints hF6.own
   have hFA:=hid (fun o=>hF6.behind (by_none_alloc w6 o))
   clear hF6 hI6
   go_wp2_with (at_builtin;(first
    | (refine wp_app_ints rfl _ _ rfl elemU8 rfl (hFA.out _).own rfl (l:=[2*F+1,(k:Int)]) rfl (ints_lit .u8 w6 [2*F+1,(k:Int)] _) HY.out (by rw[H4.out];decide) (by rw[H4.out];decide) ?_;intro a7 c7 w7 hl7 hc7 hI7 hg7;have hF7:=(hFA.out _).step hg7)
    | (refine wp_app_ints rfl _ _ rfl elemU8 rfl hF7.own rfl HKB.out.symm (HI5.out.below hF7.bel) HZ.out (by have:=HX.out;omega) (by have:=HX.out;omega) ?_;intro a8 c8 w8 hl8 hc8 hI8 hg8;have hF8:=hF7.step hg8)
    | fail))
   go_ret
   rw[HO.out]
   exact⟨a8,c8,rfl,Fresh.made (below_by_none (below_on HB.out HF2.out)) hF8⟩
def EncPost12 (g:Ent12) (w:World) (e:Ending) (w':World):Prop:=
 (act12 g.act=none∧e = .returned (.tuple #[.slice none 0 0,.int .i64 10001])∧Below w.heap.size w w') ∨
 (∃x p,act12 g.act=some x∧e = .returned (.tuple #[.slice (some ⟨p,0,none⟩) x.length x.length,.int .i64 0])∧Below w.heap.size w w'∧Ints .u8 w' (some ⟨p,0,none⟩) x∧w.heap.size≤p)
def head12 (t:Int) (n:Nat):List Int:=bytesL t 2++(bytesL (n:Int) 2 ++ [])
theorem body_bad {a:Act12} {w:List Int} (h25:a.T≠25) (hr:row12 a.T=some w) (hc:¬cond12 a w):body12 a=none:=by
 unfold body12
 rw[if_neg h25,hr]
 exact if_neg hc
theorem body_noput {a:Act12} {w:List Int} (h25:a.T≠25) (hr:row12 a.T=some w) (hp:putW w (nums12 a w)=none):body12 a=none:=by
 by_cases hc:cond12 a w
 · unfold body12
   rw[if_neg h25,hr]
   refine (if_pos hc).trans ?_
   rw[hp]
   rfl
 · exact body_bad h25 hr hc
theorem body_ok12 {a:Act12} {w p:List Int} (h25:a.T≠25) (hr:row12 a.T=some w) (hc:cond12 a w) (hp:putW w (nums12 a w)=some p):body12 a=some (p++a.d):=by
 unfold body12
 rw[if_neg h25,hr]
 refine (if_pos hc).trans ?_
 rw[hp]
 rfl
theorem body_norow {a:Act12} (h25:a.T≠25) (hr:row12 a.T=none):body12 a=none:=by
 unfold body12
 rw[if_neg h25,hr]
theorem body_set_no {a:Act12} (h25:a.T=25) (h:¬(a.A=0∧a.B=0∧a.d = []∧setOk12 a.o=true)):body12 a=none:=by
 unfold body12
 rw[if_pos h25]
 exact if_neg h
theorem body_set_yes {a:Act12} (h25:a.T=25) (h:a.A=0∧a.B=0∧a.d = []∧setOk12 a.o=true):body12 a=some (bytes10 a.o++List.replicate (pad12 (bytes10 a.o).length) 0):=by
 unfold body12
 rw[if_pos h25]
 exact if_pos h
def BodyPost12 (a:Act12) (w:World) (e:Ending) (w':World):Prop:=
 (body12 a=none∧e = .returned (.tuple #[.slice none 0 0,.bool false])∧Below w.heap.size w w') ∨
 (∃x ad cp,body12 a=some x∧e = .returned (.tuple #[.slice ad x.length cp,.bool true])∧Below w.heap.size w w'∧Ints .u8 w' ad x)
theorem act_oxm_box (w:World) (T A B C F:Int) (H:Bool) (X:Int) (va:Option Addr) (vl vc:Nat) (ma:Option Addr) (ml mc:Nat) (da:Option Addr) (dl dc:Nat):
 ∃W,(w.alloc (.cells #[.int .i64 T,.int .u64 A,.int .u64 B,.int .i64 C,.int .i64 F,.bool H,.int .u64 X,.slice va vl vc,.slice ma ml mc,.slice da dl dc] 37)).alloc (.cells #[.int .i64 0,.int .i64 0,.bool false,.int .u64 0,.slice none 0 0,.slice none 0 0] 35)=W∧Below w.heap.size w W ∧
  BoxL W w.heap.size [.int .i64 T,.int .u64 A,.int .u64 B,.int .i64 C,.int .i64 F,.bool H,.int .u64 X,.slice va vl vc,.slice ma ml mc,.slice da dl dc]∧BoxL W (w.heap.size+1) [.int .i64 0,.int .i64 0,.bool false,.int .u64 0,.slice none 0 0,.slice none 0 0]:=by
 obtain⟨W1,h1,hb1,hx⟩:=act_box w T A B C F H X va vl vc ma ml mc da dl dc
 obtain⟨W2,h2,hb2,hy⟩:=oxm_box W1 0 0 false 0 none 0 0 none 0 0
 have e:W1.heap.size=w.heap.size+1:=by rw[←h1];simp
 rw[e]at hy
 exact⟨W2,by rw[h1,h2],below_on hb1 hb2,hx.below hb2,hy⟩
set_option maxRecDepth 100000 in
set_option maxHeartbeats 4000000 in
theorem body12_norow (g:Ent12) (w:World) (hi:ActIn w g) (h25:g.T≠25) (hr:row12 g.T=none):
 Calls Tryz.prog 48 #[g.val] w (BodyPost12 g.act w):=by
 obtain⟨W,hW,hbW,hx,hy⟩:=act_oxm_box w g.T g.A g.B g.o.C g.o.F g.o.H g.o.X g.va g.o.v.length g.vc g.ma g.o.m.length g.mc g.da g.d.length g.dc
 have HW:=hid hW
 have HB:=hid hbW
 have HN:Hid (body12 g.act=none):=body_norow h25 hr
 have RO:=hid (refRow12_any g.T W)
 have e9:(row12 g.T).isSome=false:=by rw[hr];rfl
 rw[e9]at RO
 have c25:(g.T==25)=false:=by simpa using h25
 clear hi hW hbW hr e9 h25
 obtain⟨T,A,B,⟨C,F,H,X,v,m⟩,va,vc,ma,mc,d,da,dc⟩:=g
 unfold Ent12.val at *
 simp only at *
 obtain⟨d0,d1,d2,d3,d4,d5,d6,d7,d8,d9⟩:=hx.ten
 obtain⟨e0,e1,e2,e3,e4,e5⟩:=hy.six
 go_enter Tryz.func48,Tryz.ntmps48
 go_upto_region 2 with fail
 rw[HW.out]
 go_wp2_with fail
 have HC0:=hid (Below.refl W.heap.size W)
 have HA0:=HB
 refine RO.out.mono ?_
 rintro e w1 ⟨ra,rfl,hI1,hb⟩
 have I1:=hid hI1
 clear hI1
 have HA1:=hid (below_on HA0.out hb)
 have HC1:=hid (below_on HC0.out hb)
 clear hb
 clear d0 d1 d2 d3 d4 d5 d6 d7 d8 d9
 clear e0 e1 e2 e3 e4 e5
 obtain⟨d0,d1,d2,d3,d4,d5,d6,d7,d8,d9⟩:=(hx.below HC1.out).ten
 obtain⟨e0,e1,e2,e3,e4,e5⟩:=(hy.below HC1.out).six
 go_wp2_with fail
 go_ret2
 exact .inl ⟨HN.out,rfl,HA1.out⟩
set_option maxRecDepth 100000 in
set_option maxHeartbeats 4000000 in
theorem body12_notnone (g:Ent12) (w:World) (hi:ActIn w g) (l:List Int) (h25:g.T≠25) (hr:row12 g.T=some l) (ho:g.o≠noOx):
 Calls Tryz.prog 48 #[g.val] w (BodyPost12 g.act w):=by
 obtain⟨W,hW,hbW,hx,hy⟩:=act_oxm_box w g.T g.A g.B g.o.C g.o.F g.o.H g.o.X g.va g.o.v.length g.vc g.ma g.o.m.length g.mc g.da g.d.length g.dc
 have HW:=hid hW
 have HB:=hid hbW
 obtain⟨k1,k2,k3,k4,k5,k6⟩:=count_le12 g.T
 have e8:rowP g.T=l:=by simp[rowP,hr]
 have e9:(row12 g.T).isSome=true:=by rw[hr];rfl
 have RO:=hid (refRow12_any g.T W)
 rw[e8]at RO k1 k2 k3 k4 k5 k6
 rw[e9]at RO
 have c25:(g.T==25)=false:=by simpa using h25
 have SO:=hid (fun V (hV:Below w.heap.size w V)=>refSame8_any g.o.C g.o.F g.o.H g.o.X g.va g.vc g.ma g.mc 0 0 false 0 none 0 none 0 g.o.v g.o.m [] [] hi.lv hi.lm (by simp) (by simp) hi.ov hi.om (by intro x hx;cases hx) (by intro x hx;cases hx) V (hi.iv.below hV) (hi.im.below hV) (Ints.nil _ _ _) (Ints.nil _ _ _))
 have HN:Hid (body12 g.act=none):=body_bad (w:=l) h25 hr (fun k=>ho k.1)
 have es:sameB g.o.C g.o.F g.o.H g.o.X 0 0 false 0 g.o.v g.o.m [] []=false:=by
  have:=same9_iff g.o noOx
  cases hs:same9 g.o noOx
  · exact hs
  · exact absurd (this.1 hs) ho
 rw[es]at SO
 clear hi hW hbW hr e8 e9 es ho h25 k1 k2 k3 k4 k5 k6
 obtain⟨T,A,B,⟨C,F,H,X,v,m⟩,va,vc,ma,mc,d,da,dc⟩:=g
 unfold Ent12.val at *
 simp only at *
 obtain⟨d0,d1,d2,d3,d4,d5,d6,d7,d8,d9⟩:=hx.ten
 obtain⟨e0,e1,e2,e3,e4,e5⟩:=hy.six
 go_enter Tryz.func48,Tryz.ntmps48
 go_upto_region 2 with fail
 rw[HW.out]
 go_wp2_with fail
 have HC0:=hid (Below.refl W.heap.size W)
 have HA0:=HB
 refine RO.out.mono ?_
 rintro e w1 ⟨ra,rfl,hI1,hb⟩
 have I1:=hid hI1
 clear hI1
 have HA1:=hid (below_on HA0.out hb)
 have HC1:=hid (below_on HC0.out hb)
 clear hb
 clear d0 d1 d2 d3 d4 d5 d6 d7 d8 d9
 clear e0 e1 e2 e3 e4 e5
 obtain⟨d0,d1,d2,d3,d4,d5,d6,d7,d8,d9⟩:=(hx.below HC1.out).ten
 obtain⟨e0,e1,e2,e3,e4,e5⟩:=(hy.below HC1.out).six
 go_wp2_with fail
 refine (SO.out _ HA1.out).mono ?_
 rintro e w2 ⟨rfl,hb⟩
 have HA2:=hid (below_on HA1.out hb)
 have HC2:=hid (below_on HC1.out hb)
 clear hb
 clear d0 d1 d2 d3 d4 d5 d6 d7 d8 d9
 clear e0 e1 e2 e3 e4 e5
 obtain⟨d0,d1,d2,d3,d4,d5,d6,d7,d8,d9⟩:=(hx.below HC2.out).ten
 obtain⟨e0,e1,e2,e3,e4,e5⟩:=(hy.below HC2.out).six
 go_wp2_with fail
 go_ret2
 exact .inl ⟨HN.out,rfl,HA2.out⟩
set_option maxRecDepth 100000 in
set_option maxHeartbeats 4000000 in
theorem body12_asked (g:Ent12) (w:World) (hi:ActIn w g) (l:List Int) (h25:g.T≠25) (hr:row12 g.T=some l) (ho:g.o=noOx) (has:asked12 g.T g.A≠0):
 Calls Tryz.prog 48 #[g.val] w (BodyPost12 g.act w):=by
 obtain⟨W,hW,hbW,hx,hy⟩:=act_oxm_box w g.T g.A g.B g.o.C g.o.F g.o.H g.o.X g.va g.o.v.length g.vc g.ma g.o.m.length g.mc g.da g.d.length g.dc
 have HW:=hid hW
 have HB:=hid hbW
 obtain⟨k1,k2,k3,k4,k5,k6⟩:=count_le12 g.T
 have e8:rowP g.T=l:=by simp[rowP,hr]
 have e9:(row12 g.T).isSome=true:=by rw[hr];rfl
 have RO:=hid (refRow12_any g.T W)
 rw[e8]at RO k1 k2 k3 k4 k5 k6
 rw[e9]at RO
 have c25:(g.T==25)=false:=by simpa using h25
 have SO:=hid (fun V (hV:Below w.heap.size w V)=>refSame8_any g.o.C g.o.F g.o.H g.o.X g.va g.vc g.ma g.mc 0 0 false 0 none 0 none 0 g.o.v g.o.m [] [] hi.lv hi.lm (by simp) (by simp) hi.ov hi.om (by intro x hx;cases hx) (by intro x hx;cases hx) V (hi.iv.below hV) (hi.im.below hV) (Ints.nil _ _ _) (Ints.nil _ _ _))
 have es:sameB g.o.C g.o.F g.o.H g.o.X 0 0 false 0 g.o.v g.o.m [] []=true:=(same9_iff g.o noOx).2 ho
 rw[es]at SO
 have AS:=hid (fun V=>refAsked_any g.T g.A V)
 have hH:g.o.H=false:=by rw[ho];rfl
 have HN:Hid (body12 g.act=none):=body_bad (w:=l) h25 hr (fun k=>has k.2.1)
 obtain⟨q,hq⟩:∃q,asked12 g.T g.A=q:=⟨_,rfl⟩
 rw[hq]at AS has
 have q1:(q != 0)=true:=by simpa using has
 clear hi hW hbW hr e8 e9 es h25 k1 k2 k3 k4 k5 k6 has hq ho
 obtain⟨T,A,B,⟨C,F,H,X,v,m⟩,va,vc,ma,mc,d,da,dc⟩:=g
 have hH2:H=false:=hH
 clear hH
 subst hH2
 unfold Ent12.val at *
 simp only at *
 obtain⟨d0,d1,d2,d3,d4,d5,d6,d7,d8,d9⟩:=hx.ten
 obtain⟨e0,e1,e2,e3,e4,e5⟩:=hy.six
 go_enter Tryz.func48,Tryz.ntmps48
 go_upto_region 2 with fail
 rw[HW.out]
 go_wp2_with fail
 have HC0:=hid (Below.refl W.heap.size W)
 have HA0:=HB
 refine RO.out.mono ?_
 rintro e w1 ⟨ra,rfl,hI1,hb⟩
 have I1:=hid hI1
 clear hI1
 have HA1:=hid (below_on HA0.out hb)
 have HC1:=hid (below_on HC0.out hb)
 clear hb
 clear d0 d1 d2 d3 d4 d5 d6 d7 d8 d9
 clear e0 e1 e2 e3 e4 e5
 obtain⟨d0,d1,d2,d3,d4,d5,d6,d7,d8,d9⟩:=(hx.below HC1.out).ten
 obtain⟨e0,e1,e2,e3,e4,e5⟩:=(hy.below HC1.out).six
 go_wp2_with fail
 refine (SO.out _ HA1.out).mono ?_
 rintro e w2 ⟨rfl,hb⟩
 have HA2:=hid (below_on HA1.out hb)
 have HC2:=hid (below_on HC1.out hb)
 clear hb
 clear d0 d1 d2 d3 d4 d5 d6 d7 d8 d9
 clear e0 e1 e2 e3 e4 e5
 obtain⟨d0,d1,d2,d3,d4,d5,d6,d7,d8,d9⟩:=(hx.below HC2.out).ten
 obtain⟨e0,e1,e2,e3,e4,e5⟩:=(hy.below HC2.out).six
 go_wp2_with fail
 refine (AS.out _).mono ?_
 rintro e w' ⟨rfl,rfl⟩
 go_wp2_with fail
 go_ret2
 exact .inl ⟨HN.out,rfl,HA2.out⟩
end Go.Proofs.YthpdkancighknaaGreat
