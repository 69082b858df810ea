/- Put together out of several texts. -/
import Derived.Test.YthpdkancighknaaGreatA14
import Derived.Test.YthpdkancighknaaGreatA1
import Derived.Test.YthpdkancighknaaGreatA11
import Derived.Deep.LoopGhost
import Derived.Lib.SliceRun
import Derived.Laws.CopyRow
import Derived.Lib.Overlaps
import Derived.Lib.AppendZerosOnto
namespace Go.Proofs.YthpdkancighknaaGreat
open Go.RowKit
set_option linter.unusedVariables false
set_option maxRecDepth 100000
def step14 (a:Act12) (st:List Act12 × Bool) (x:Act12):List Act12 × Bool:=
 if (st.2||ahead14 x a)=true then (if place14 x a=true then st else (st.1 ++ [x],st.2)) else (if place14 x a=true then (st.1 ++ [a],true) else (st.1 ++ [a] ++ [x],true))
theorem fold_done (a:Act12) (O E:List Act12):O.foldl (step14 a) (E,true)=(E++O.filter (fun y=>!place14 y a),true):=by
 induction O generalizing E with
 | nil=>simp
 | cons x r ih=>
   rw[List.foldl_cons]
   have e:step14 a (E,true) x=(if place14 x a=true then E else E ++ [x],true):=by
    unfold step14
    cases h:place14 x a<;>simp
   rw[e,ih,List.filter_cons]
   cases h:place14 x a<;>simp
theorem put14_cons (a x:Act12) (r:List Act12):put14 a (x::r)=if ahead14 x a=true then (if place14 x a=true then put14 a r else x::put14 a r) else a::(x::r).filter (fun y=>!place14 y a):=rfl
theorem fold_put (a:Act12) (O E:List Act12):(if (O.foldl (step14 a) (E,false)).2=true then (O.foldl (step14 a) (E,false)).1 else (O.foldl (step14 a) (E,false)).1 ++ [a])=E++put14 a O:=by
 induction O generalizing E with
 | nil=>rfl
 | cons x r ih=>
   rw[List.foldl_cons]
   cases h:ahead14 x a
   · have e:step14 a (E,false) x=(if place14 x a=true then E ++ [a] else E ++ [a] ++ [x],true):=by
      unfold step14
      cases h2:place14 x a<;>simp[h]
     rw[e,fold_done,put14_cons,h]
     cases h2:place14 x a<;>simp[h2]
   · have e:step14 a (E,false) x=(if place14 x a=true then E else E ++ [x],false):=by
      unfold step14
      cases h2:place14 x a<;>simp[h]
     rw[e,ih,put14_cons,if_pos h]
     cases h2:place14 x a<;>simp
def RefWritePost14 (S L:List Act12) (w:World) (e:Ending) (w':World):Prop:=
 ∃(M:List Ent12) (va:Option Addr) (vc:Nat) (q:Int),e = .returned (.tuple #[.slice va M.length vc,.int .i64 q])∧Below w.heap.size w w'∧Acts w' va M∧AllIn w' M∧M.length≤S.length+L.length ∧
  ((write14 S L = .ok (M.map Ent12.act)∧q=0)∨(write14 S L = .error 10001∧q=10001∧M = []))
theorem refWrite_err {S L:List Act12} {w w':World} (h:right14 S=false∨L.all may14=false) (hb:Below w.heap.size w w'):RefWritePost14 S L w (.returned (.tuple #[.slice none 0 0,.int .i64 10001])) w':=by
 refine⟨[],none,0,10001,rfl,hb,Acts.nil _ _,AllIn.nil _,by simp,.inr ⟨?_,rfl,rfl⟩⟩
 unfold write14
 rw[if_neg]
 rintro⟨h1,h2⟩
 rcases h with h|h
 · rw[h1]at h;cases h
 · rw[h2]at h;cases h
def RefPutPost14 (w:World) (D:List Ent12) (g:Ent12) (va:Option Addr) (vc:Nat) (D':List Ent12) (w':World):Prop:=
 FreshA w w' (.slice va D'.length vc) D'.length D'∧D'.map Ent12.act=put14 g.act (D.map Ent12.act)∧AllIn w D'
set_option maxHeartbeats 8000000 in
theorem refWrite14_any (w:World) (a b:Option Addr) (c d:Nat) (S L:List Ent12) (hS:Acts w a S) (hSI:AllIn w S) (hL:Acts w b L) (hLI:AllIn w L) (h1:S.length≤300) (h2:L.length≤300):
 Calls Tryz.prog 7 #[.slice a S.length c,.slice b L.length d] w (RefWritePost14 (S.map Ent12.act) (L.map Ent12.act) w):=by
 have HS:=hid (And.intro hS hSI)
 have HL:=hid (And.intro hL hLI)
 obtain⟨N,hN⟩:∃N,S.length=N:=⟨_,rfl⟩
 obtain⟨M,hM⟩:∃M,L.length=M:=⟨_,rfl⟩
 have HN:=hid hN
 have HM:=hid hM
 have HRS:=hid (refRightS_any w a c S hS hSI (by omega))
 rw[hN]at h1 HRS ⊢
 rw[hM]at h2 ⊢
 obtain⟨r,hr⟩:∃r,right14 (S.map Ent12.act)=r:=⟨_,rfl⟩
 rw[hr]at HRS
 have HR:=hid hr
 clear hS hSI hL hLI hN hM hr
 go_enter Tryz.func7,Tryz.ntmps7
 go_wp2_with fail
 refine HRS.out.mono ?_
 rintro e w1 ⟨rfl,hb1⟩
 have HB1:=hid hb1
 clear hb1
 cases r
 · go_wp2_with fail
   exact bodyPost_ret (v:=.tuple #[.slice none 0 0,.int .i64 10001]) (by simp[results,Tryz.results7,go_sem]) rfl (refWrite_err (.inl HR.out) HB1.out)
 · have HE := hid ((FreshA.empty w1).made HB1.out)
   have HS1:=hid ((HS.out.1.below HB1.out).below (below_alloc w1 (.cells #[] 37)))
   go_wp2_with (first
    | (at_builtin;refine wp_app_acts rfl _ _ rfl HE.out rfl rfl HN.out HS1.out (by omega) (Nat.zero_add _) ?_;intro va2 vc2 w2 hF2;rw[List.nil_append]at hF2;have HF2:=hid hF2;clear hF2)
    | fail)
   clear HE HS1
   go_loopg [6,7] M (fun kx s6 s7 wr=>∃(i:Nat) (va:Option Addr) (vc:Nat) (D:List Ent12),s6 = .slice va D.length vc∧s7 = .int .i64 i∧i≤M∧M-i≤kx∧D.length≤N+i∧Hid (FreshA w wr (.slice va D.length vc) D.length D)∧Hid (D.map Ent12.act=puts14 (S.map Ent12.act) ((L.map Ent12.act).take i))∧Hid (AllIn w D)∧Hid (((L.map Ent12.act).take i).all may14=true))
   case atStart=>
    have e:=HN.out
    refine⟨0,va2,vc2,S,by rw[e],rfl,by omega,by omega,by omega,?_,rfl,HS.out.2,rfl⟩
    show FreshA _ _ _ _ _
    rw[e];exact HF2.out
   case round =>
    clear HF2
    obtain⟨i,va,vc,D,rfl,rfl,hi,hkx,hDl,hF,hD,hA,hall⟩:=hrel
    by_cases hlt:i<M
    · have hltz : (i:Int)<(M:Int):=by omega
      have hil:i<L.length:=by have:=HM.out;omega
      obtain⟨lb,loff,rfl,-⟩:=HL.out.1 i hil
      have HGC0:=hid (fun V (hV:Below w.heap.size w V)=>(HL.out.1.below hV).ten i hil)
      have hin:=HL.out.2 L[i] (List.getElem_mem hil)
      have htk:=take_snoc14 L i hil
      have hmem:L[i].act∈L.map Ent12.act:=List.mem_map_of_mem (List.getElem_mem hil)
      generalize L[i]=g at HGC0 hin htk hmem
      have HGIN:=hid hin
      have HTKL:=hid htk
      have HMEM:=hid hmem
      have HMS:=hid (fun V (hV:Below w.heap.size w V)=>refMay_any g V (HGIN.out.below hV))
      obtain⟨m,hm⟩:∃m,may14 g.act=m:=⟨_,rfl⟩
      rw[hm]at HMS
      have HMM:=hid hm
      unfold Ent12.val at HMS
      clear hin htk hmem hm
      obtain⟨e0,e1,e2,e3,e4,e5,e6,e7,e8,e9⟩:=HGC0.out _ hF.out.bel
      cases m
      · have hno:(L.map Ent12.act).all may14=false:=List.all_eq_false.2 ⟨_,HMEM.out,by rw[HMM.out];simp⟩
        have HNO:=hid hno
        clear hno
        go_wp2_with fail
        refine (HMS.out _ hF.out.bel).mono ?_
        rintro e w3 ⟨rfl,hb3⟩
        have HB3:=hid (below_on hF.out.bel hb3)
        clear hb3 e0 e1 e2 e3 e4 e5 e6 e7 e8 e9
        go_wp2_with fail
        exact bodyPost_ret (v:=.tuple #[.slice none 0 0,.int .i64 10001]) (by simp[results,Tryz.results7,go_sem]) rfl (refWrite_err (.inr HNO.out) HB3.out)
      · go_wp2_with fail
        refine (HMS.out _ hF.out.bel).mono ?_
        rintro e w3 ⟨rfl,hb3⟩
        have HF3:=hid (hF.out.behind hb3)
        have HGC:=hid (fun V (hV:Below w3.heap.size w3 V)=>HGC0.out V (below_on HF3.out.bel hV))
        have HOUT:=hid (fun V (hV:Below w3.heap.size w3 V)=>HF3.out.behind hV)
        clear hb3 e0 e1 e2 e3 e4 e5 e6 e7 e8 e9
        obtain⟨n,hn⟩:∃n,D.length=n:=⟨_,rfl⟩
        have HNN:=hid hn
        rw[hn]at hDl ⊢
        have hcap:n≤vc:=by have:=HF3.out.list.2.1;omega
        clear hn
        go_wp2_with fail
        go_loopg [8,9,10] n (fun kx s8 s9 s10 wx=>∃(k:Nat) (d:Bool) (ea:Option Addr) (ec:Nat) (E:List Ent12),s8 = .slice ea E.length ec∧s9 = .bool d∧s10 = .int .i64 k∧k≤n∧n-k≤kx∧E.length≤k+1∧(d=false→E.length≤k)∧Hid (FreshA w3 wx (.slice ea E.length ec) E.length E)∧Hid ((E.map Ent12.act,d)=((D.map Ent12.act).take k).foldl (step14 g.act) ([],false))∧Hid (AllIn w E))
        case atStart=>exact⟨0,false,none,0,[],rfl,rfl,rfl,by omega,by omega,by simp,by simp,FreshA.nil w3,rfl,AllIn.nil w⟩
        case round=>
         obtain⟨k,d,ea,ec,E,rfl,rfl,rfl,hk,hkx2,hEl,hEl2,HFE,hE,hA2⟩:=hrel
         by_cases hltk:k<n
         · have hltkz:(k:Int)<(n:Int):=by omega
           have hkl:k<D.length:=by have:=HNN.out;omega
           obtain⟨gb,goff,hva,-⟩:=HF3.out.list.2.2.2 k hkl
           subst hva
           have hsp:goff=0:=by
            have h:=HF3.out
            obtain⟨q,e⟩:=h.spot
            cases e;rfl
           subst hsp
           have HXC:=hid (fun V (hV:Below w3.heap.size w3 V)=>by
            have h:=(HOUT.out V hV).list.2.2.2.ten k hkl
            simp only[Nat.zero_add]at h
            exact h)
           have htk2:=take_snoc14 D k hkl
           have hxin:=hA.out D[k] (List.getElem_mem hkl)
           generalize D[k]=x at HXC htk2 hxin
           have HTK:=hid htk2
           have HXIN:=hid hxin
           have HAH:=hid (fun (V:World) (j:Wk V)=>Wk.call (refAhead_any x g j.val))
           have HPL:=hid (fun (V:World) (j:Wk V)=>Wk.call (refPlace_any x g j.val))
           unfold Ent12.val at HAH HPL
           obtain⟨q,hq⟩:∃q,ahead14 x.act g.act=q:=⟨_,rfl⟩
           obtain⟨p,hp⟩:∃p,place14 x.act g.act=p:=⟨_,rfl⟩
           rw[hq]at HAH
           rw[hp]at HPL
           have HQ:=hid hq
           have HP14:=hid hp
           clear htk2 hxin hq hp HRS
           cases d
           · have hEl3:=hEl2 rfl
             cases q
             · cases p
               · go_upto_region 14 with fail
                 obtain⟨e0,e1,e2,e3,e4,e5,e6,e7,e8,e9⟩:=HGC.out _ (HFE.out.bel)
                 obtain⟨c0,c1,c2,c3,c4,c5,c6,c7,c8,c9⟩:=HXC.out _ (HFE.out.bel)
                 have e0:=Wk.cell e0
                 have e1:=Wk.cell e1
                 have e2:=Wk.cell e2
                 have e3:=Wk.cell e3
                 have e4:=Wk.cell e4
                 have e5:=Wk.cell e5
                 have e6:=Wk.cell e6
                 have e7:=Wk.cell e7
                 have e8:=Wk.cell e8
                 have e9:=Wk.cell e9
                 have c0:=Wk.cell c0
                 have c1:=Wk.cell c1
                 have c2:=Wk.cell c2
                 have c3:=Wk.cell c3
                 have c4:=Wk.cell c4
                 have c5:=Wk.cell c5
                 have c6:=Wk.cell c6
                 have c7:=Wk.cell c7
                 have c8:=Wk.cell c8
                 have c9:=Wk.cell c9
                 refine wp_region_wk (by kernel_rfl) (by kernel_rfl) ?_
                 repeat (go_big_quiet_step (first|(go_at_call 19;exact HAH.out _ _)|fail))
                 refine wpQuiet_nil ?_
                 rintro w6 ⟨⟨_,hb6⟩,rfl⟩
                 have HF6:=hid (HFE.out.behind hb6)
                 clear hb6 e0 e1 e2 e3 e4 e5 e6 e7 e8 e9 c0 c1 c2 c3 c4 c5 c6 c7 c8 c9
                 obtain⟨e0,e1,e2,e3,e4,e5,e6,e7,e8,e9⟩:=HGC.out _ (HF6.out.bel)
                 have HFA:=hid (HF6.out.behind (below_alloc w6 (.cells #[.int .i64 g.T,.int .u64 g.A,.int .u64 g.B,.int .i64 g.o.C,.int .i64 g.o.F,.bool g.o.H,.int .u64 g.o.X,.slice g.va g.o.v.length g.vc,.slice g.ma g.o.m.length g.mc,.slice g.da g.d.length g.dc] 37)))
                 have HO:=hid (acts_one w6 g 37)
                 go_upto_region 17 with (first|(at_builtin;refine wp_app_acts rfl _ _ rfl HFA.out rfl rfl rfl HO.out (by omega) rfl ?_;intro ea8 ec8 w8 hF8;have HF8:=hid hF8;clear hF8)|fail)
                 clear e0 e1 e2 e3 e4 e5 e6 e7 e8 e9
                 obtain⟨e0,e1,e2,e3,e4,e5,e6,e7,e8,e9⟩:=HGC.out _ (HF8.out.bel)
                 obtain⟨c0,c1,c2,c3,c4,c5,c6,c7,c8,c9⟩:=HXC.out _ (HF8.out.bel)
                 have e0:=Wk.cell e0
                 have e1:=Wk.cell e1
                 have e2:=Wk.cell e2
                 have e3:=Wk.cell e3
                 have e4:=Wk.cell e4
                 have e5:=Wk.cell e5
                 have e6:=Wk.cell e6
                 have e7:=Wk.cell e7
                 have e8:=Wk.cell e8
                 have e9:=Wk.cell e9
                 have c0:=Wk.cell c0
                 have c1:=Wk.cell c1
                 have c2:=Wk.cell c2
                 have c3:=Wk.cell c3
                 have c4:=Wk.cell c4
                 have c5:=Wk.cell c5
                 have c6:=Wk.cell c6
                 have c7:=Wk.cell c7
                 have c8:=Wk.cell c8
                 have c9:=Wk.cell c9
                 refine wp_region_wk (by kernel_rfl) (by kernel_rfl) ?_
                 repeat (go_big_quiet_step (first|(go_at_call 20;exact HPL.out _ _)|fail))
                 refine wpQuiet_nil ?_
                 rintro w9 ⟨⟨_,hb9⟩,rfl⟩
                 have HF9:=hid (HF8.out.behind hb9)
                 clear hb9 e0 e1 e2 e3 e4 e5 e6 e7 e8 e9 c0 c1 c2 c3 c4 c5 c6 c7 c8 c9
                 obtain⟨c0,c1,c2,c3,c4,c5,c6,c7,c8,c9⟩:=HXC.out _ (HF9.out.bel)
                 have HFB:=hid (HF9.out.behind (below_alloc w9 (.cells #[.int .i64 x.T,.int .u64 x.A,.int .u64 x.B,.int .i64 x.o.C,.int .i64 x.o.F,.bool x.o.H,.int .u64 x.o.X,.slice x.va x.o.v.length x.vc,.slice x.ma x.o.m.length x.mc,.slice x.da x.d.length x.dc] 37)))
                 have HP:=hid (acts_one w9 x 37)
                 go_wp2_with (first|(at_builtin;refine wp_app_acts rfl _ _ rfl HFB.out rfl rfl rfl HP.out (by omega) rfl ?_;intro ea10 ec10 w10 hF10;have HF10:=hid hF10;clear hF10)|fail)
                 have HLL:=hid HF10.out.list.1
                 have HFF:=hid HF10.out
                 have hst:(((E ++ [g]) ++ [x]).map Ent12.act,true)=((D.map Ent12.act).take (k+1)).foldl (step14 g.act) ([],false):=by
                  rw[HTK.out,List.foldl_append,←hE.out]
                  show _=step14 g.act (E.map Ent12.act,false) x.act
                  unfold step14
                  simp[HQ.out,HP14.out]
                 have hal:AllIn w ((E ++ [g]) ++ [x]):=by
                  intro y hy
                  simp only[List.mem_append,List.mem_singleton]at hy
                  rcases hy with (hy|rfl)|rfl
                  · exact hA2.out y hy
                  · exact HGIN.out
                  · exact HXIN.out
                 have HST:=hid hst
                 have HAL:=hid hal
                 clear hst hal
                 go_roundg (n-(k+1))
                 case rel=>
                  have hl:=HLL.out
                  refine⟨k+1,true,ea10,ec10,((E ++ [g]) ++ [x]),by rw[hl],by first|rfl|simp,by go_num,by omega,by omega,by rw[hl];omega,by intro e;first|(cases e;done)|(rw[hl];omega),?_,HST.out,HAL.out⟩
                  show FreshA _ _ _ _ _
                  rw[hl];exact HFF.out
                 case measure=>omega
               · have _hs:=trivial
                 go_upto_region 14 with fail
                 obtain⟨e0,e1,e2,e3,e4,e5,e6,e7,e8,e9⟩:=HGC.out _ (HFE.out.bel)
                 obtain⟨c0,c1,c2,c3,c4,c5,c6,c7,c8,c9⟩:=HXC.out _ (HFE.out.bel)
                 have e0:=Wk.cell e0
                 have e1:=Wk.cell e1
                 have e2:=Wk.cell e2
                 have e3:=Wk.cell e3
                 have e4:=Wk.cell e4
                 have e5:=Wk.cell e5
                 have e6:=Wk.cell e6
                 have e7:=Wk.cell e7
                 have e8:=Wk.cell e8
                 have e9:=Wk.cell e9
                 have c0:=Wk.cell c0
                 have c1:=Wk.cell c1
                 have c2:=Wk.cell c2
                 have c3:=Wk.cell c3
                 have c4:=Wk.cell c4
                 have c5:=Wk.cell c5
                 have c6:=Wk.cell c6
                 have c7:=Wk.cell c7
                 have c8:=Wk.cell c8
                 have c9:=Wk.cell c9
                 refine wp_region_wk (by kernel_rfl) (by kernel_rfl) ?_
                 repeat (go_big_quiet_step (first|(go_at_call 19;exact HAH.out _ _)|fail))
                 refine wpQuiet_nil ?_
                 rintro w6 ⟨⟨_,hb6⟩,rfl⟩
                 have HF6:=hid (HFE.out.behind hb6)
                 clear hb6 e0 e1 e2 e3 e4 e5 e6 e7 e8 e9 c0 c1 c2 c3 c4 c5 c6 c7 c8 c9
                 obtain⟨e0,e1,e2,e3,e4,e5,e6,e7,e8,e9⟩:=HGC.out _ (HF6.out.bel)
                 have HFA:=hid (HF6.out.behind (below_alloc w6 (.cells #[.int .i64 g.T,.int .u64 g.A,.int .u64 g.B,.int .i64 g.o.C,.int .i64 g.o.F,.bool g.o.H,.int .u64 g.o.X,.slice g.va g.o.v.length g.vc,.slice g.ma g.o.m.length g.mc,.slice g.da g.d.length g.dc] 37)))
                 have HO:=hid (acts_one w6 g 37)
                 go_upto_region 17 with (first|(at_builtin;refine wp_app_acts rfl _ _ rfl HFA.out rfl rfl rfl HO.out (by omega) rfl ?_;intro ea8 ec8 w8 hF8;have HF8:=hid hF8;clear hF8)|fail)
                 clear e0 e1 e2 e3 e4 e5 e6 e7 e8 e9
                 obtain⟨e0,e1,e2,e3,e4,e5,e6,e7,e8,e9⟩:=HGC.out _ (HF8.out.bel)
                 obtain⟨c0,c1,c2,c3,c4,c5,c6,c7,c8,c9⟩:=HXC.out _ (HF8.out.bel)
                 have e0:=Wk.cell e0
                 have e1:=Wk.cell e1
                 have e2:=Wk.cell e2
                 have e3:=Wk.cell e3
                 have e4:=Wk.cell e4
                 have e5:=Wk.cell e5
                 have e6:=Wk.cell e6
                 have e7:=Wk.cell e7
                 have e8:=Wk.cell e8
                 have e9:=Wk.cell e9
                 have c0:=Wk.cell c0
                 have c1:=Wk.cell c1
                 have c2:=Wk.cell c2
                 have c3:=Wk.cell c3
                 have c4:=Wk.cell c4
                 have c5:=Wk.cell c5
                 have c6:=Wk.cell c6
                 have c7:=Wk.cell c7
                 have c8:=Wk.cell c8
                 have c9:=Wk.cell c9
                 refine wp_region_wk (by kernel_rfl) (by kernel_rfl) ?_
                 repeat (go_big_quiet_step (first|(go_at_call 20;exact HPL.out _ _)|fail))
                 refine wpQuiet_nil ?_
                 rintro w9 ⟨⟨_,hb9⟩,rfl⟩
                 have HF9:=hid (HF8.out.behind hb9)
                 clear hb9 e0 e1 e2 e3 e4 e5 e6 e7 e8 e9 c0 c1 c2 c3 c4 c5 c6 c7 c8 c9
                 go_wp2_with fail
                 have HF10:=HF9
                 have HLL:=hid HF10.out.list.1
                 have HFF:=hid HF10.out
                 have hst:((E ++ [g]).map Ent12.act,true)=((D.map Ent12.act).take (k+1)).foldl (step14 g.act) ([],false):=by
                  rw[HTK.out,List.foldl_append,←hE.out]
                  show _=step14 g.act (E.map Ent12.act,false) x.act
                  unfold step14
                  simp[HQ.out,HP14.out]
                 have hal:AllIn w (E ++ [g]):=by
                  intro y hy
                  simp only[List.mem_append,List.mem_singleton]at hy
                  rcases hy with hy|rfl
                  · exact hA2.out y hy
                  · exact HGIN.out
                 have HST:=hid hst
                 have HAL:=hid hal
                 clear hst hal
                 go_roundg (n-(k+1))
                 case rel=>
                  have hl:=HLL.out
                  refine⟨k+1,true,ea8,ec8,(E ++ [g]),by rw[hl],by first|rfl|simp,by go_num,by omega,by omega,by rw[hl];omega,by intro e;first|(cases e;done)|(rw[hl];omega),?_,HST.out,HAL.out⟩
                  show FreshA _ _ _ _ _
                  rw[hl];exact HFF.out
                 case measure=>omega
             · cases p
               · go_upto_region 14 with fail
                 obtain⟨e0,e1,e2,e3,e4,e5,e6,e7,e8,e9⟩:=HGC.out _ (HFE.out.bel)
                 obtain⟨c0,c1,c2,c3,c4,c5,c6,c7,c8,c9⟩:=HXC.out _ (HFE.out.bel)
                 have e0:=Wk.cell e0
                 have e1:=Wk.cell e1
                 have e2:=Wk.cell e2
                 have e3:=Wk.cell e3
                 have e4:=Wk.cell e4
                 have e5:=Wk.cell e5
                 have e6:=Wk.cell e6
                 have e7:=Wk.cell e7
                 have e8:=Wk.cell e8
                 have e9:=Wk.cell e9
                 have c0:=Wk.cell c0
                 have c1:=Wk.cell c1
                 have c2:=Wk.cell c2
                 have c3:=Wk.cell c3
                 have c4:=Wk.cell c4
                 have c5:=Wk.cell c5
                 have c6:=Wk.cell c6
                 have c7:=Wk.cell c7
                 have c8:=Wk.cell c8
                 have c9:=Wk.cell c9
                 refine wp_region_wk (by kernel_rfl) (by kernel_rfl) ?_
                 repeat (go_big_quiet_step (first|(go_at_call 19;exact HAH.out _ _)|fail))
                 refine wpQuiet_nil ?_
                 rintro w6 ⟨⟨_,hb6⟩,rfl⟩
                 have HF6:=hid (HFE.out.behind hb6)
                 clear hb6 e0 e1 e2 e3 e4 e5 e6 e7 e8 e9 c0 c1 c2 c3 c4 c5 c6 c7 c8 c9
                 go_upto_region 17 with fail
                 have HF8:=HF6
                 obtain⟨e0,e1,e2,e3,e4,e5,e6,e7,e8,e9⟩:=HGC.out _ (HF8.out.bel)
                 obtain⟨c0,c1,c2,c3,c4,c5,c6,c7,c8,c9⟩:=HXC.out _ (HF8.out.bel)
                 have e0:=Wk.cell e0
                 have e1:=Wk.cell e1
                 have e2:=Wk.cell e2
                 have e3:=Wk.cell e3
                 have e4:=Wk.cell e4
                 have e5:=Wk.cell e5
                 have e6:=Wk.cell e6
                 have e7:=Wk.cell e7
                 have e8:=Wk.cell e8
                 have e9:=Wk.cell e9
                 have c0:=Wk.cell c0
                 have c1:=Wk.cell c1
                 have c2:=Wk.cell c2
                 have c3:=Wk.cell c3
                 have c4:=Wk.cell c4
                 have c5:=Wk.cell c5
                 have c6:=Wk.cell c6
                 have c7:=Wk.cell c7
                 have c8:=Wk.cell c8
                 have c9:=Wk.cell c9
                 refine wp_region_wk (by kernel_rfl) (by kernel_rfl) ?_
                 repeat (go_big_quiet_step (first|(go_at_call 20;exact HPL.out _ _)|fail))
                 refine wpQuiet_nil ?_
                 rintro w9 ⟨⟨_,hb9⟩,rfl⟩
                 have HF9:=hid (HF8.out.behind hb9)
                 clear hb9 e0 e1 e2 e3 e4 e5 e6 e7 e8 e9 c0 c1 c2 c3 c4 c5 c6 c7 c8 c9
                 obtain⟨c0,c1,c2,c3,c4,c5,c6,c7,c8,c9⟩:=HXC.out _ (HF9.out.bel)
                 have HFB:=hid (HF9.out.behind (below_alloc w9 (.cells #[.int .i64 x.T,.int .u64 x.A,.int .u64 x.B,.int .i64 x.o.C,.int .i64 x.o.F,.bool x.o.H,.int .u64 x.o.X,.slice x.va x.o.v.length x.vc,.slice x.ma x.o.m.length x.mc,.slice x.da x.d.length x.dc] 37)))
                 have HP:=hid (acts_one w9 x 37)
                 go_wp2_with (first|(at_builtin;refine wp_app_acts rfl _ _ rfl HFB.out rfl rfl rfl HP.out (by omega) rfl ?_;intro ea10 ec10 w10 hF10;have HF10:=hid hF10;clear hF10)|fail)
                 have HLL:=hid HF10.out.list.1
                 have HFF:=hid HF10.out
                 have hst:((E ++ [x]).map Ent12.act,false)=((D.map Ent12.act).take (k+1)).foldl (step14 g.act) ([],false):=by
                  rw[HTK.out,List.foldl_append,←hE.out]
                  show _=step14 g.act (E.map Ent12.act,false) x.act
                  unfold step14
                  simp[HQ.out,HP14.out]
                 have hal:AllIn w (E ++ [x]):=by
                  intro y hy
                  simp only[List.mem_append,List.mem_singleton]at hy
                  rcases hy with hy|rfl
                  · exact hA2.out y hy
                  · exact HXIN.out
                 have HST:=hid hst
                 have HAL:=hid hal
                 clear hst hal
                 go_roundg (n-(k+1))
                 case rel=>
                  have hl:=HLL.out
                  refine⟨k+1,false,ea10,ec10,(E ++ [x]),by rw[hl],by first|rfl|simp,by go_num,by omega,by omega,by rw[hl];omega,by intro e;first|(cases e;done)|(rw[hl];omega),?_,HST.out,HAL.out⟩
                  show FreshA _ _ _ _ _
                  rw[hl];exact HFF.out
                 case measure=>omega
               · have _hs:=trivial
                 go_upto_region 14 with fail
                 obtain⟨e0,e1,e2,e3,e4,e5,e6,e7,e8,e9⟩:=HGC.out _ (HFE.out.bel)
                 obtain⟨c0,c1,c2,c3,c4,c5,c6,c7,c8,c9⟩:=HXC.out _ (HFE.out.bel)
                 have e0:=Wk.cell e0
                 have e1:=Wk.cell e1
                 have e2:=Wk.cell e2
                 have e3:=Wk.cell e3
                 have e4:=Wk.cell e4
                 have e5:=Wk.cell e5
                 have e6:=Wk.cell e6
                 have e7:=Wk.cell e7
                 have e8:=Wk.cell e8
                 have e9:=Wk.cell e9
                 have c0:=Wk.cell c0
                 have c1:=Wk.cell c1
                 have c2:=Wk.cell c2
                 have c3:=Wk.cell c3
                 have c4:=Wk.cell c4
                 have c5:=Wk.cell c5
                 have c6:=Wk.cell c6
                 have c7:=Wk.cell c7
                 have c8:=Wk.cell c8
                 have c9:=Wk.cell c9
                 refine wp_region_wk (by kernel_rfl) (by kernel_rfl) ?_
                 repeat (go_big_quiet_step (first|(go_at_call 19;exact HAH.out _ _)|fail))
                 refine wpQuiet_nil ?_
                 rintro w6 ⟨⟨_,hb6⟩,rfl⟩
                 have HF6:=hid (HFE.out.behind hb6)
                 clear hb6 e0 e1 e2 e3 e4 e5 e6 e7 e8 e9 c0 c1 c2 c3 c4 c5 c6 c7 c8 c9
                 go_upto_region 17 with fail
                 have HF8:=HF6
                 obtain⟨e0,e1,e2,e3,e4,e5,e6,e7,e8,e9⟩:=HGC.out _ (HF8.out.bel)
                 obtain⟨c0,c1,c2,c3,c4,c5,c6,c7,c8,c9⟩:=HXC.out _ (HF8.out.bel)
                 have e0:=Wk.cell e0
                 have e1:=Wk.cell e1
                 have e2:=Wk.cell e2
                 have e3:=Wk.cell e3
                 have e4:=Wk.cell e4
                 have e5:=Wk.cell e5
                 have e6:=Wk.cell e6
                 have e7:=Wk.cell e7
                 have e8:=Wk.cell e8
                 have e9:=Wk.cell e9
                 have c0:=Wk.cell c0
                 have c1:=Wk.cell c1
                 have c2:=Wk.cell c2
                 have c3:=Wk.cell c3
                 have c4:=Wk.cell c4
                 have c5:=Wk.cell c5
                 have c6:=Wk.cell c6
                 have c7:=Wk.cell c7
                 have c8:=Wk.cell c8
                 have c9:=Wk.cell c9
                 refine wp_region_wk (by kernel_rfl) (by kernel_rfl) ?_
                 repeat (go_big_quiet_step (first|(go_at_call 20;exact HPL.out _ _)|fail))
                 refine wpQuiet_nil ?_
                 rintro w9 ⟨⟨_,hb9⟩,rfl⟩
                 have HF9:=hid (HF8.out.behind hb9)
                 clear hb9 e0 e1 e2 e3 e4 e5 e6 e7 e8 e9 c0 c1 c2 c3 c4 c5 c6 c7 c8 c9
                 go_wp2_with fail
                 have HF10:=HF9
                 have HLL:=hid HF10.out.list.1
                 have HFF:=hid HF10.out
                 have hst:(E.map Ent12.act,false)=((D.map Ent12.act).take (k+1)).foldl (step14 g.act) ([],false):=by
                  rw[HTK.out,List.foldl_append,←hE.out]
                  show _=step14 g.act (E.map Ent12.act,false) x.act
                  unfold step14
                  simp[HQ.out,HP14.out]
                 have hal:AllIn w E:=by
                  intro y hy
                  exact hA2.out y hy
                 have HST:=hid hst
                 have HAL:=hid hal
                 clear hst hal
                 go_roundg (n-(k+1))
                 case rel=>
                  have hl:=HLL.out
                  refine⟨k+1,false,ea,ec,E,by rw[hl],by first|rfl|simp,by go_num,by omega,by omega,by rw[hl];omega,by intro e;first|(cases e;done)|(rw[hl];omega),?_,HST.out,HAL.out⟩
                  show FreshA _ _ _ _ _
                  rw[hl];exact HFF.out
                 case measure=>omega
           · cases p
             · go_upto_region 14 with fail
               refine wp_region_wk (by kernel_rfl) (by kernel_rfl) ?_
               repeat (go_big_quiet_step (fail))
               refine wpQuiet_nil ?_
               rintro w6 ⟨⟨_,hb6⟩,rfl⟩
               have HF6:=hid (HFE.out.behind hb6)
               clear hb6
               go_upto_region 17 with fail
               have HF8:=HF6
               obtain⟨e0,e1,e2,e3,e4,e5,e6,e7,e8,e9⟩:=HGC.out _ (HF8.out.bel)
               obtain⟨c0,c1,c2,c3,c4,c5,c6,c7,c8,c9⟩:=HXC.out _ (HF8.out.bel)
               have e0:=Wk.cell e0
               have e1:=Wk.cell e1
               have e2:=Wk.cell e2
               have e3:=Wk.cell e3
               have e4:=Wk.cell e4
               have e5:=Wk.cell e5
               have e6:=Wk.cell e6
               have e7:=Wk.cell e7
               have e8:=Wk.cell e8
               have e9:=Wk.cell e9
               have c0:=Wk.cell c0
               have c1:=Wk.cell c1
               have c2:=Wk.cell c2
               have c3:=Wk.cell c3
               have c4:=Wk.cell c4
               have c5:=Wk.cell c5
               have c6:=Wk.cell c6
               have c7:=Wk.cell c7
               have c8:=Wk.cell c8
               have c9:=Wk.cell c9
               refine wp_region_wk (by kernel_rfl) (by kernel_rfl) ?_
               repeat (go_big_quiet_step (first|(go_at_call 20;exact HPL.out _ _)|fail))
               refine wpQuiet_nil ?_
               rintro w9 ⟨⟨_,hb9⟩,rfl⟩
               have HF9:=hid (HF8.out.behind hb9)
               clear hb9 e0 e1 e2 e3 e4 e5 e6 e7 e8 e9 c0 c1 c2 c3 c4 c5 c6 c7 c8 c9
               obtain⟨c0,c1,c2,c3,c4,c5,c6,c7,c8,c9⟩:=HXC.out _ (HF9.out.bel)
               have HFB:=hid (HF9.out.behind (below_alloc w9 (.cells #[.int .i64 x.T,.int .u64 x.A,.int .u64 x.B,.int .i64 x.o.C,.int .i64 x.o.F,.bool x.o.H,.int .u64 x.o.X,.slice x.va x.o.v.length x.vc,.slice x.ma x.o.m.length x.mc,.slice x.da x.d.length x.dc] 37)))
               have HP:=hid (acts_one w9 x 37)
               go_wp2_with (first|(at_builtin;refine wp_app_acts rfl _ _ rfl HFB.out rfl rfl rfl HP.out (by omega) rfl ?_;intro ea10 ec10 w10 hF10;have HF10:=hid hF10;clear hF10)|fail)
               have HLL:=hid HF10.out.list.1
               have HFF:=hid HF10.out
               have hst:((E ++ [x]).map Ent12.act,true)=((D.map Ent12.act).take (k+1)).foldl (step14 g.act) ([],false):=by
                rw[HTK.out,List.foldl_append,←hE.out]
                show _=step14 g.act (E.map Ent12.act,true) x.act
                unfold step14
                simp[HP14.out]
               have hal:AllIn w (E ++ [x]):=by
                intro y hy
                simp only[List.mem_append,List.mem_singleton]at hy
                rcases hy with hy|rfl
                · exact hA2.out y hy
                · exact HXIN.out
               have HST:=hid hst
               have HAL:=hid hal
               clear hst hal
               go_roundg (n-(k+1))
               case rel=>
                have hl:=HLL.out
                refine⟨k+1,true,ea10,ec10,(E ++ [x]),by rw[hl],by first|rfl|simp,by go_num,by omega,by omega,by rw[hl];omega,by intro e;first|(cases e;done)|(rw[hl];omega),?_,HST.out,HAL.out⟩
                show FreshA _ _ _ _ _
                rw[hl];exact HFF.out
               case measure=>omega
             · have _hs:=trivial
               go_upto_region 14 with fail
               refine wp_region_wk (by kernel_rfl) (by kernel_rfl) ?_
               repeat (go_big_quiet_step (fail))
               refine wpQuiet_nil ?_
               rintro w6 ⟨⟨_,hb6⟩,rfl⟩
               have HF6:=hid (HFE.out.behind hb6)
               clear hb6
               go_upto_region 17 with fail
               have HF8:=HF6
               obtain⟨e0,e1,e2,e3,e4,e5,e6,e7,e8,e9⟩:=HGC.out _ (HF8.out.bel)
               obtain⟨c0,c1,c2,c3,c4,c5,c6,c7,c8,c9⟩:=HXC.out _ (HF8.out.bel)
               have e0:=Wk.cell e0
               have e1:=Wk.cell e1
               have e2:=Wk.cell e2
               have e3:=Wk.cell e3
               have e4:=Wk.cell e4
               have e5:=Wk.cell e5
               have e6:=Wk.cell e6
               have e7:=Wk.cell e7
               have e8:=Wk.cell e8
               have e9:=Wk.cell e9
               have c0:=Wk.cell c0
               have c1:=Wk.cell c1
               have c2:=Wk.cell c2
               have c3:=Wk.cell c3
               have c4:=Wk.cell c4
               have c5:=Wk.cell c5
               have c6:=Wk.cell c6
               have c7:=Wk.cell c7
               have c8:=Wk.cell c8
               have c9:=Wk.cell c9
               refine wp_region_wk (by kernel_rfl) (by kernel_rfl) ?_
               repeat (go_big_quiet_step (first|(go_at_call 20;exact HPL.out _ _)|fail))
               refine wpQuiet_nil ?_
               rintro w9 ⟨⟨_,hb9⟩,rfl⟩
               have HF9:=hid (HF8.out.behind hb9)
               clear hb9 e0 e1 e2 e3 e4 e5 e6 e7 e8 e9 c0 c1 c2 c3 c4 c5 c6 c7 c8 c9
               go_wp2_with fail
               have HF10:=HF9
               have HLL:=hid HF10.out.list.1
               have HFF:=hid HF10.out
               have hst:(E.map Ent12.act,true)=((D.map Ent12.act).take (k+1)).foldl (step14 g.act) ([],false):=by
                rw[HTK.out,List.foldl_append,←hE.out]
                show _=step14 g.act (E.map Ent12.act,true) x.act
                unfold step14
                simp[HP14.out]
               have hal:AllIn w E:=by
                intro y hy
                exact hA2.out y hy
               have HST:=hid hst
               have HAL:=hid hal
               clear hst hal
               go_roundg (n-(k+1))
               case rel=>
                have hl:=HLL.out
                refine⟨k+1,true,ea,ec,E,by rw[hl],by first|rfl|simp,by go_num,by omega,by omega,by rw[hl];omega,by intro e;first|(cases e;done)|(rw[hl];omega),?_,HST.out,HAL.out⟩
                show FreshA _ _ _ _ _
                rw[hl];exact HFF.out
               case measure=>omega
         · have hgek:(n:Int)≤(k:Int):=by omega
           have hfin:=fold_put g.act (D.map Ent12.act) []
           have hE2:=hE.out
           rw[List.take_of_length_le (by rw[List.length_map];have:=HNN.out;omega)]at hE2
           rw[←hE2,List.nil_append]at hfin
           have hpn:puts14 (S.map Ent12.act) ((L.map Ent12.act).take (i+1))=put14 g.act (D.map Ent12.act):=by
            rw[HTKL.out,puts_append,hD.out];rfl
           have hall2:((L.map Ent12.act).take (i+1)).all may14=true:=by
            rw[HTKL.out,List.all_append,hall.out]
            simp[HMM.out]
           have hplen:(put14 g.act (D.map Ent12.act)).length≤n+1:=by
            have:=put_length14 g.act (D.map Ent12.act)
            rw[List.length_map,HNN.out]at this
            exact this
           have HFIN:=hid hfin
           have HPN:=hid hpn
           have HALL2:=hid hall2
           have HPLN:=hid hplen
           clear hfin hE2 hpn hall2 hplen
           cases d
           · obtain⟨e0,e1,e2,e3,e4,e5,e6,e7,e8,e9⟩:=HGC.out _ HFE.out.bel
             have HFA:=hid (HFE.out.behind (below_alloc wr (.cells #[.int .i64 g.T,.int .u64 g.A,.int .u64 g.B,.int .i64 g.o.C,.int .i64 g.o.F,.bool g.o.H,.int .u64 g.o.X,.slice g.va g.o.v.length g.vc,.slice g.ma g.o.m.length g.mc,.slice g.da g.d.length g.dc] 37)))
             have HO:=hid (acts_one wr g 37)
             go_wp2_with (first|(at_builtin;refine wp_app_acts rfl _ _ rfl HFA.out rfl rfl rfl HO.out (by omega) rfl ?_;intro ea8 ec8 w8 hF8;have HF8:=hid hF8;clear hF8)|fail)
             have hl8:=HF8.out.list.1
             have hm8:(E ++ [g]).map Ent12.act=put14 g.act (D.map Ent12.act):=by
              rw[←HFIN.out,List.map_append];rfl
             have hlen8:(E ++ [g]).length≤n+1:=by
              have:=HPLN.out
              rw[←hm8,List.length_map]at this
              exact this
             have HL8:=hid (And.intro hl8 (And.intro hm8 hlen8))
             clear hl8 hm8 hlen8
             go_roundg (M-(i+1))
             case rel=>
              obtain⟨hl8,hm8,hlen8⟩:=HL8.out
              refine⟨i+1,ea8,ec8,E ++ [g],by rw[hl8],by go_num,by omega,by omega,by omega,?_,?_,?_,HALL2.out⟩
              · show FreshA _ _ _ _ _
                rw[hl8];exact FreshA.made HF3.out.bel HF8.out
              · show _=_
                rw[hm8,HPN.out]
              · show AllIn _ _
                intro y hy
                rcases List.mem_append.1 hy with hy|hy
                · exact hA2.out y hy
                · rw[List.mem_singleton.1 hy];exact HGIN.out
             case measure=>omega
           · go_wp2_with fail
             have hm8:E.map Ent12.act=put14 g.act (D.map Ent12.act):=by
              rw[←HFIN.out];rfl
             have hlen8:E.length≤n+1:=by
              have:=HPLN.out
              rw[←hm8,List.length_map]at this
              exact this
             have HL8:=hid (And.intro hm8 hlen8)
             clear hm8 hlen8
             go_roundg (M-(i+1))
             case rel=>
              obtain⟨hm8,hlen8⟩:=HL8.out
              refine⟨i+1,ea,ec,E,rfl,by go_num,by omega,by omega,by omega,FreshA.made HF3.out.bel HFE.out,?_,hA2.out,HALL2.out⟩
              show _=_
              rw[hm8,HPN.out]
             case measure=>omega
    · have hge:(M:Int)≤(i:Int):=by omega
      have hall2:(L.map Ent12.act).all may14=true:=by
       have h:=hall.out
       rwa [List.take_of_length_le (by rw[List.length_map];have:=HM.out;omega)]at h
      have hD3:D.map Ent12.act=puts14 (S.map Ent12.act) (L.map Ent12.act):=by
       have h:=hD.out
       rwa [List.take_of_length_le (by rw[List.length_map];have:=HM.out;omega)]at h
      have HW14:=hid (write_is14 HR.out hall2)
      have HD3:=hid hD3
      clear hall2 hD3
      go_wp2_with fail
      refine bodyPost_ret (v:=.tuple #[.slice va D.length vc,.int .i64 0]) (by simp[results,Tryz.results7,go_sem]) rfl ?_
      refine⟨D,va,vc,0,rfl,hF.out.bel,hF.out.list.2.2.2,hA.out.below hF.out.bel,?_,.inl ⟨by rw[HW14.out,HD3.out],rfl⟩⟩
      rw[List.length_map,List.length_map];have:=HN.out;have:=HM.out;omega
def ClonePost14 (w:World) (l:List Ent12) (e:Ending) (w':World):Prop:=∃va vc,e = .returned (.slice va l.length vc)∧FreshA w w' (.slice va l.length vc) l.length l
set_option maxHeartbeats 4000000 in
theorem clone14_any (w:World) (a:Option Addr) (c:Nat) (l:List Ent12) (hL:Acts w a l) (hl:l.length≤900):
 Calls Tryz.prog 14 #[.slice a l.length c] w (ClonePost14 w l):=by
 unfold ClonePost14
 cases a with
 | none=>
   have h0:l = []:=by
    cases l with
    | nil=>rfl
    | cons x r=>obtain⟨b,off,e,_⟩:=hL 0 (by simp);cases e
   subst h0
   simp only[List.length_nil]
   have hE:(binOp .eql 22 (.slice none 0 c) (.slice none 0 0)).run Tryz.prog w = .ok (.bool true) w:=Lib.run_eql_slice_nil w 22 37 none 0 c 0 0 Tryz.underlying22
   go_enter Tryz.func14,Tryz.ntmps14
   go_wp2_with fail
   exact bodyPost_ret (v:=.slice none 0 0) (by simp[results,Tryz.results14,go_sem]) rfl ⟨none,0,rfl,FreshA.nil w⟩
 | some ad=>
   have HF:=hid (FreshA.empty w)
   have HL:=hid (hL.below (below_alloc w (.cells #[] 37)))
   obtain⟨N,hN⟩:∃N,l.length=N:=⟨_,rfl⟩
   have HN:=hid hN
   rw[hN]at hl ⊢
   have hE:(binOp .eql 22 (.slice (some ad) N c) (.slice none 0 0)).run Tryz.prog w = .ok (.bool false) w:=Lib.run_eql_slice_nil w 22 37 (some ad) N c 0 0 Tryz.underlying22
   clear hL hN
   go_enter Tryz.func14,Tryz.ntmps14
   go_wp2_with (first
    | (at_builtin;refine wp_app_acts rfl _ _ rfl HF.out rfl rfl HN.out HL.out (by omega) rfl ?_;intro va' vc' w5 hF5;have HF5:=hid hF5;clear hF5)
    | fail)
   have HF6:=HF5.out
   rw[Nat.zero_add,List.nil_append]at HF6
   exact bodyPost_ret (v:=.slice va' N vc') (by simp[results,Tryz.results14,go_sem]) rfl ⟨va',vc',rfl,HF6⟩
set_option maxHeartbeats 4000000 in
theorem rightS_any (w:World) (a:Option Addr) (c:Nat) (l:List Ent12) (hL:Acts w a l) (hI:AllIn w l) (hll:l.length≤1000):
 Calls Tryz.prog 12 #[.slice a l.length c] w fun e w'=>e = .returned (.bool (right14 (l.map Ent12.act)))∧Below w.heap.size w w':=by
 obtain⟨r,hr⟩:∃r,right14 (l.map Ent12.act)=r:=⟨_,rfl⟩
 rw[hr]
 have HR:=hid hr
 have HL:=hid hL
 have HI:=hid hI
 obtain⟨N,hN⟩:∃N,N=l.length:=⟨_,rfl⟩
 have HN:=hid hN
 rw[←hN]at hll ⊢
 clear hr hL hI hN
 go_enter Tryz.func12,Tryz.ntmps12
 go_wp2_with fail
 go_loopg [7] N (fun kx s7 wr=>∃(i:Nat),s7 = .int .i64 i∧i≤N∧N-i≤kx∧Hid (right14 ((l.map Ent12.act).take i)=true)∧Hid (Below w.heap.size w wr))
 case atStart=>exact⟨0,rfl,by omega,by omega,rfl,Below.refl _ _⟩
 case round=>
  obtain⟨i,rfl,hi,hkx,hn,hb⟩:=hrel
  by_cases hlt:i<N
  · have hltz:(i:Int)<(N:Int):=by omega
    have hil:i<l.length:=by have:=HN.out;omega
    obtain⟨b,off,rfl,-⟩:=HL.out i hil
    obtain⟨c0,c1,c2,c3,c4,c5,c6,c7,c8,c9⟩:=(HL.out.below hb.out).ten i hil
    have hin:=HI.out l[i] (List.getElem_mem hil)
    have htk:=take_snoc14 l i hil
    have hgi:(l.map Ent12.act)[i]'(by rw[List.length_map];exact hil)=l[i].act:=by simp
    have hpre:∀k,(hk:k<i)→(l.map Ent12.act)[k]'(by rw[List.length_map];omega)=(l[k]'(by omega)).act:=fun k hk=>by simp
    have HPRE:=hid hpre
    have HX:Hid (∀g:Ent12,l[i]=g→(may14 g.act=false ∨ ∃(k:Nat) (hk:k<i),ahead14 (l[k]'(by omega)).act g.act=false)→r=false):=by
     show _
     rintro g rfl h
     rw[←HR.out]
     exact right_not (i:=i) (by rw[List.length_map];exact hil) (by
      rcases h with h|⟨k,hk,h⟩
      · exact .inl (by rw[hgi];exact h)
      · exact .inr ⟨k,hk,by rw[hgi,HPRE.out k hk];exact h⟩)
    have hX:=fun h=>HX.out _ rfl h
    generalize l[i]=g at c0 c1 c2 c3 c4 c5 c6 c7 c8 c9 hin htk hX
    obtain⟨W,hW,hbW,hbx⟩:=act_box wr g.T g.A g.B g.o.C g.o.F g.o.H g.o.X g.va g.o.v.length g.vc g.ma g.o.m.length g.mc g.da g.d.length g.dc
    have HW:=hid hW
    have HBW:=hid (below_on hb.out hbW)
    have HBX:=hid hbx
    have HTK:=hid htk
    have HIN:=hid (hin.below HBW.out)
    obtain⟨d0,d1,d2,d3,d4,d5,d6,d7,d8,d9⟩:=hbx.ten
    obtain⟨m,hm⟩:∃m,may14 g.act=m:=⟨_,rfl⟩
    have HMS:=hid (fun j:Wk W=>Wk.call (mayStand_any g j.val (HIN.out.below j.bel)))
    rw[hm]at HMS hX
    have HM:=hid hm
    have HXX:=hid hX
    clear hW hbW hbx htk hin hm hX HPRE
    go_upto_region 4 with fail
    rw[HW.out]
    clear c0 c1 c2 c3 c4 c5 c6 c7 c8 c9
    have d0:=Wk.cell d0
    have d1:=Wk.cell d1
    have d2:=Wk.cell d2
    have d3:=Wk.cell d3
    have d4:=Wk.cell d4
    have d5:=Wk.cell d5
    have d6:=Wk.cell d6
    have d7:=Wk.cell d7
    have d8:=Wk.cell d8
    have d9:=Wk.cell d9
    cases m
    · have hrf:=hid (HXX.out (.inl rfl))
      refine wp_region_wk (by kernel_rfl) (by kernel_rfl) ?_
      repeat (go_big_quiet_step (first|(go_at_call 13;exact HMS.out _)|fail))
      refine wpQuiet_nil ?_
      rintro w6 ⟨⟨_,hb6⟩,rfl⟩
      have HB6:=hid (below_on HBW.out hb6)
      clear d0 d1 d2 d3 d4 d5 d6 d7 d8 d9 hb6
      go_wp2_with fail
      exact bodyPost_ret (v:=.bool false) (by simp[results,Tryz.results12,go_sem]) rfl ⟨by rw[hrf.out],HB6.out⟩
    · by_cases hi0:i=0
      · subst hi0
        have hn2:right14 ((l.map Ent12.act).take (0+1))=true:=by
         rw[HTK.out]
         exact right_snoc hn.out HM.out (by simp)
        have HN2:=hid hn2
        clear hn2
        refine wp_region_wk (by kernel_rfl) (by kernel_rfl) ?_
        repeat (go_big_quiet_step (first|(go_at_call 13;exact HMS.out _)|fail))
        refine wpQuiet_nil ?_
        rintro w6 ⟨⟨_,hb6⟩,rfl⟩
        have HB6:=hid (below_on HBW.out hb6)
        clear d0 d1 d2 d3 d4 d5 d6 d7 d8 d9 hb6
        go_wp2_with fail
        go_roundg (N-1)
        case rel=>exact⟨1,by go_num,by omega,by omega,HN2.out,HB6.out⟩
        case measure=>omega
      · have hipos:(0:Int)<(i:Int):=by omega
        have him:((i:Int)-1).toNat=i-1:=by omega
        have hi1:(0:Int)≤(i:Int)-1:=by omega
        have hi2:(i:Int)-1<(N:Int):=by omega
        have hilm:i-1<l.length:=by omega
        have hlast:∀z,((l.map Ent12.act).take i).getLast? = some z→z=(l[i-1]).act:=by
         intro z hz
         rw[List.getLast?_eq_getElem?,List.length_take,List.length_map,Nat.min_eq_left (by omega),List.getElem?_take,if_pos (by omega),List.getElem?_map,List.getElem?_eq_getElem hilm]at hz
         simpa using hz.symm
        have hin2:=HI.out l[i-1] (List.getElem_mem hilm)
        have hmp:may14 (l[i-1]).act=true:=by
         have:=(right_iff14.1 hn.out).1 (l[i-1]).act (List.mem_of_getElem? (i:=i-1) (by rw[List.getElem?_take,if_pos (by omega),List.getElem?_map,List.getElem?_eq_getElem hilm];rfl))
         exact this
        have hx2:ahead14 (l[i-1]).act g.act=false→r=false:=fun h=>HXX.out (.inr ⟨i-1,by omega,h⟩)
        obtain⟨e0,e1,e2,e3,e4,e5,e6,e7,e8,e9⟩:=(HL.out.below HBW.out).ten (i-1) hilm
        generalize l[i-1]=h at e0 e1 e2 e3 e4 e5 e6 e7 e8 e9 hlast hin2 hmp hx2
        have hA:=ahead_is (w:=W) (hin2.below HBW.out) HIN.out hmp HM.out
        rw[←hA]at hx2
        have HP1:=hid (fun j:Wk W=>Wk.call (placeOf_any h j.val))
        have HP2:=hid (fun j:Wk W=>Wk.call (placeOf_any g j.val))
        have HAH:=hid (fun j:Wk W=>Wk.call (isAhead_any h g j.val))
        unfold Ent12.val at HP1 HP2
        obtain⟨q,hq⟩:∃q,aheadP h g=q:=⟨_,rfl⟩
        rw[hq]at HAH hx2
        have HQ:=hid (hA.symm.trans hq)
        have HX2:=hid hx2
        have HLA:=hid hlast
        have u0:=Wk.cell e0
        have u1:=Wk.cell e1
        have u2:=Wk.cell e2
        have u3:=Wk.cell e3
        have u4:=Wk.cell e4
        have u5:=Wk.cell e5
        have u6:=Wk.cell e6
        have u7:=Wk.cell e7
        have u8:=Wk.cell e8
        have u9:=Wk.cell e9
        have hge0:decide ((0:Int)<(i:Int))=true:=decide_eq_true hipos
        have hgeN:decide (0<i)=true:=decide_eq_true (by omega)
        clear e0 e1 e2 e3 e4 e5 e6 e7 e8 e9 hA hq hx2 hlast hin2 hmp
        refine wp_region_wk (by kernel_rfl) (by kernel_rfl) ?_
        repeat (go_big_quiet_step (first
         | (go_at_call 13;exact HMS.out _)
         | (go_at_call 24;with_reducible exact HP1.out _)
         | (go_at_call 24;with_reducible exact HP2.out _)
         | (go_at_call 25;exact HAH.out _)
         | fail))
        refine wpQuiet_nil ?_
        rintro w6 ⟨⟨_,hb6⟩,rfl⟩
        have HB6:=hid (below_on HBW.out hb6)
        clear d0 d1 d2 d3 d4 d5 d6 d7 d8 d9 u0 u1 u2 u3 u4 u5 u6 u7 u8 u9 hb6
        cases q
        · have hrf:=hid (HX2.out rfl)
          go_wp2_with fail
          exact bodyPost_ret (v:=.bool false) (by simp[results,Tryz.results12,go_sem]) rfl ⟨by rw[hrf.out],HB6.out⟩
        · have hn2:right14 ((l.map Ent12.act).take (i+1))=true:=by
           rw[HTK.out]
           exact right_snoc hn.out HM.out (fun z hz=>by rw[HLA.out z hz];exact HQ.out)
          have HN2:=hid hn2
          clear hn2
          go_wp2_with fail
          go_roundg (N-(i+1))
          case rel=>exact⟨i+1,by go_num,by omega,by omega,HN2.out,HB6.out⟩
          case measure=>omega
  · have hge:(N:Int)≤(i:Int):=by omega
    have hrt:r=true:=by
     have h:=hn.out
     rw[List.take_of_length_le (by rw[List.length_map];have:=HN.out;omega)]at h
     rw[←HR.out];exact h
    have HRT:=hid hrt
    clear hrt
    go_wp2_with fail
    exact bodyPost_ret (v:=.bool true) (by simp[results,Tryz.results12,go_sem]) rfl ⟨by rw[HRT.out],hb.out⟩
end Go.Proofs.YthpdkancighknaaGreat
namespace Go.Proofs.YthpdkancighknaaGreat
open Go.RowKit Go.Lib
set_option linter.unusedVariables false
set_option maxRecDepth 100000
section
variable {P:Program}
theorem copy_rowN {w:World} {dT sT elem:TypeId} {size g o dLen:Nat} {a:Addr} {sLen:Nat} {cur:Array Value} {t:TypeId} {cs:List Value} {n:Nat}
 (hu:P.underlying dT=some (.slice elem)) (hs:(P.info? elem).map (·.size)=some size) (hg:w.heap[g]? = some (.cells cur t (0,0))) (hm:Nat.min sLen dLen=n) (hn:cs.length=n*size)
 (hsrc:∀j v,cs[j]? = some v→w.cell? (a.add j)=some v) (hfit:o+cs.length≤cur.size) (h1:∀v∈cs,v.oneCell'=true):
 ∃w',(∀ty dCap sCap,(Builtin.copy_ #[dT,sT] ty #[.slice (some ⟨g,o,none⟩) dLen dCap,.slice (some a) sLen sCap]).run P w = .ok (goInt n) w') ∧
  w'.heap[g]? = some (.cells (cur.toList.take o++cs++cur.toList.drop (o+cs.length)).toArray t (0,0))∧w.grownBy w' (some g):=by
 have hl:=run_loadCells_list (P:=P) w a cs hsrc
 have hst:=run_storeCells_at P g o t cs 0 cur w hg (by simpa using hfit) h1
 refine⟨_,fun ty dCap sCap=>?_,setRow_heap w g cur _ t _ hg,⟨rfl,rfl,rfl,by simp,fun k _ hk=>setRow_other w g k _ (fun e=>hk (by rw[e]))⟩⟩
 cases hq:P.info? elem with
 | none=>simp[hq]at hs
 | some i=>
   have hi:i.size=size:=by simpa [hq]using hs
   rw[hn]at hl
   simp[Builtin.copy_,run_underlying hu,Builtin.lenOf,Builtin.firstCells,sizeOf,typeInfo,hq,hi,hm,hl,hst]
theorem step_copy_at {ops:Array Oper} {o:Oper} {a:Act} {w:World} {K:Act→World→Prop} {Q:Exit→Act→World→Prop} {E:Prop}
 (hg:o.guard=none) (d x:Operand) (dT sT:TypeId) (hop:o.op=Op.call { callee:=Callee.builtin Builtin.copy,args:=#[d,x],argTypes:=#[dT,sT] })
 (v u:Value) (hd:a.eval d=v) (hx:a.eval x=u) {v':Value} {w':World} (hr:(Builtin.copy_ #[dT,sT] o.type #[v,u]).run P w = .ok v' w') (hK:K (a.put o.dst v') w'):
 if Region.wanted o (yielded ops a.tmps)=true then Oper.wp P o a w K Q else E:=by
 rw[if_pos (by simp[Region.wanted,hg])]
 unfold Oper.wp
 simp[execOp,hop,resolve,invoke,builtin,hd,hx,hr,Result.andThen]
 exact hK
end
theorem actCells_take (l:List Ent12) (i:Nat) (hi:i≤l.length):(actCells l).take (i*10)=actCells (l.take i):=by
 have e:actCells l=actCells (l.take i)++actCells (l.drop i):=by rw[←actCells_append,List.take_append_drop]
 have hl:(actCells (l.take i)).length=i*10:=by rw[actCells_length,List.length_take];congr 1;omega
 rw[e,←hl,List.take_left]
theorem actCells_drop (l:List Ent12) (i:Nat) (hi:i≤l.length):(actCells l).drop (i*10)=actCells (l.drop i):=by
 have e:actCells l=actCells (l.take i)++actCells (l.drop i):=by rw[←actCells_append,List.take_append_drop]
 have hl:(actCells (l.take i)).length=i*10:=by rw[actCells_length,List.length_take];congr 1;omega
 rw[e,←hl,List.drop_left]
theorem actCells_cons (h:Ent12) (l:List Ent12):actCells (h::l)=h.cs++actCells l:=by simp[actCells]
theorem rows_into {C:List Value} {D:List Ent12} {h:Ent12} {n i:Nat} (hD:D.length=n) (hC:C.take (n*10)=actCells D) (hs:(n+1)*10≤C.length) (hi:i<n)
 {C1 C2:List Value} (h1:C1=C.take ((i+1)*10)++actCells (D.drop i)++C.drop ((i+1)*10+(actCells (D.drop i)).length)) (h2:C2=C1.take (i*10)++h.cs++C1.drop (i*10+h.cs.length)):
 C2.take ((n+1)*10)=actCells (D.take i++h::D.drop i)∧C2.length=C.length:=by
 have hdl:(actCells (D.drop i)).length=(n-i)*10:=by rw[actCells_length,List.length_drop,hD]
 have hCt:C.take (i*10)=actCells (D.take i):=by
  rw[←actCells_take D i (by omega),←hC,List.take_take]
  congr 1
  omega
 have h1l:C1.length=C.length:=by
  rw[h1,List.length_append,List.length_append,List.length_take,List.length_drop,hdl]
  omega
 have hC1t:C1.take (i*10)=actCells (D.take i):=by
  rw[h1,List.append_assoc,List.take_append_of_le_length (by rw[List.length_take];omega),List.take_take,←hCt]
  congr 1
  omega
 have hC1d:C1.drop (i*10+h.cs.length)=actCells (D.drop i)++C.drop ((i+1)*10+(actCells (D.drop i)).length):=by
  rw[h1,h.cs_length,List.append_assoc,show i*10+10=(C.take ((i+1)*10)).length by rw[List.length_take];omega,List.drop_left]
 have htl:(actCells (D.take i)).length=i*10:=by rw[actCells_length,List.length_take];omega
 rw[h2,hC1t,hC1d]
 constructor
 · rw[actCells_append,actCells_cons,List.append_assoc,←List.append_assoc h.cs,←List.append_assoc (actCells (D.take i))]
   rw[show (n+1)*10=(actCells (D.take i)++(h.cs++actCells (D.drop i))).length by rw[List.length_append,List.length_append,htl,hdl,h.cs_length];omega,List.take_left]
 · rw[List.length_append,List.length_append,List.length_append,htl,hdl,h.cs_length,List.length_drop]
   omega
end Go.Proofs.YthpdkancighknaaGreat
namespace Go.Proofs.YthpdkancighknaaGreat
open Go.RowKit Go.Lib
set_option linter.unusedVariables false
set_option maxRecDepth 100000
def InsPost14 (w0:World) (n i:Nat) (D:List Ent12) (h:Ent12) (e:Ending) (w':World):Prop:=
 ∃va vc,e = .returned (.slice va (n+1) vc)∧FreshA w0 w' (.slice va (n+1) vc) (n+1) (D.take i++h::D.drop i)
theorem size_act14:(Tryz.prog.info? 37).map (·.size)=some 10:=by
 have h:=elemAct.info
 cases hi:Tryz.prog.info? 37 with
 | none=>rw[hi]at h;cases h
 | some i=>rw[hi]at h;simp at h;simp[h.2.1]
theorem own_cells14 {w:World} {g n c:Nat} {D:List Ent12} (h:w.ownsRow 0 37 10 (.slice (some ⟨g,0,none⟩) n c) n (actCells D)):
 ∃cur,w.heap[g]? = some (.cells cur 37 (0,0))∧n≤c∧c≤maxLen∧cur.size=c*10∧cur.toList.take (n*10)=actCells D:=by
 rcases h.2 with⟨e,_⟩|⟨g',cap,cur,e,_,hg,h1,h2,h3,h4⟩
 · cases e
 · cases e;exact⟨cur,hg,h1,h2,h3,h4⟩
theorem heap_cell14 {w:World} {g:Nat} {cur:Array Value} {t:TypeId} (hg:w.heap[g]? = some (.cells cur t (0,0))) (j:Nat):w.cell? ⟨g,j,none⟩=cur[j]?:=by
 simp[World.cell?,hg]
set_option maxHeartbeats 4000000 in
theorem insert_room (w0 w:World) (g n c i vb:Nat) (T:TypeId) (D:List Ent12) (h:Ent12) (hF:FreshA w0 w (.slice (some ⟨g,0,none⟩) n c) n D) (hi:i<n) (hroom:n+1≤c) (hV:w.heap[vb]? = some (.cells h.cs.toArray T (0,0))) (hne:vb≠g):
 Calls Tryz.prog 28 #[.slice (some ⟨g,0,none⟩) n c,.int .i64 i,.slice (some ⟨vb,0,none⟩) 1 1] w (InsPost14 w0 n i D h):=by
 obtain⟨hD,hnc,hc63,-⟩:=hF.list
 obtain⟨cur,hg,-,hcm,hcs,htake⟩:=own_cells14 hF.own
 have hcl:cur.toList.length=c*10:=by rw[Array.length_toList];exact hcs
 have hdl:(actCells (D.drop i)).length=(n-i)*10:=by rw[actCells_length,List.length_drop,hD]
 have hcd:∀j u,(actCells (D.drop i))[j]? = some u→cur[i*10+j]? = some u:=by
  intro j u hj
  have hjl:=(List.getElem?_eq_some_iff.1 hj).1
  rw[←actCells_drop D i (by omega),←htake,List.getElem?_drop,List.getElem?_take,if_pos (by omega),Array.getElem?_toList]at hj
  exact hj
 have hov:∀lb cb,(callFunc 45 #[.slice (some ⟨vb,0,none⟩) 1 1,.slice (some ⟨g,(i+1)*10,none⟩) lb cb]).run Tryz.prog w = .ok (.value (.bool false)) w:=fun lb cb=>by
  rw[run_callFunc_extern Tryz.func45 (by kernel_rfl) (by kernel_rfl) (by kernel_rfl) (e:=Extern.SlicesOverlaps.overlaps #[22,22] #[4]) (by kernel_rfl),
   Lib.run_overlaps_apart w 22 4 37 Tryz.underlying22 10 (fun _=>by kernel_rfl) ⟨vb,0,none⟩ ⟨g,(i+1)*10,none⟩ 1 1 lb cb hne T 37 10 (c*10) (by simp[World.shape?,hV,h.cs_length]) (by simp[World.shape?,hg,hcs]) (by omega) (by simp[World.frozen?,hV]) (by simp[World.frozen?,hV])]
  rfl
 have hgD:w.drew.heap[g]? = some (.cells cur 37 (0,0)):=hg
 obtain⟨W1,r1,h1,b1⟩:=copy_rowN (P:=Tryz.prog) (w:=w.drew) (dT:=22) (sT:=22) (o:=(i+1)*10) (dLen:=n+1-(i+1)) (a:=⟨g,i*10,none⟩) (sLen:=n+1-i) (cs:=actCells (D.drop i)) (n:=n-i) Tryz.underlying22 size_act14 hgD
  (by simp only[Nat.min_def];split<;>omega) hdl (fun j u hj=>by rw[add_none,heap_cell14 hgD];exact hcd j u hj) (by omega) (act_flat _)
 have hV1:W1.heap[vb]? = some (.cells h.cs.toArray T (0,0)):=(b1.block vb (Array.getElem?_eq_some_iff.1 hV).1 (by simp;omega)).trans hV
 obtain⟨W2,r2,h2,b2⟩:=copy_rowN (P:=Tryz.prog) (w:=W1) (dT:=22) (sT:=22) (o:=i*10) (dLen:=n+1-i) (a:=⟨vb,0,none⟩) (sLen:=1) (cs:=h.cs) (n:=1) Tryz.underlying22 size_act14 h1
  (by simp only[Nat.min_def];split<;>omega) rfl (fun j u hj=>by rw[add_none,heap_cell14 hV1,Nat.zero_add,←hj];simp) (by simp[h.cs_length,hdl,hcs];omega) (by intro u hu;simp[Ent12.cs]at hu;rcases hu with rfl|rfl|rfl|rfl|rfl|rfl|rfl|rfl|rfl|rfl<;>rfl)
 have hrow:=rows_into (h:=h) hD htake (by rw[hcl];omega) hi rfl rfl
 have hP:InsPost14 w0 n i D h (.returned (.slice (some ⟨g,0,none⟩) (n+1) c)) W2:=by
  refine⟨_,c,rfl,⟨?_,.inr ⟨g,c,_,rfl,Nat.zero_le _,h2,hroom,hcm,?_,?_⟩⟩,?_,hF.new⟩
  · rw[actCells_length];congr 1;simp[hD];omega
  · rw[List.size_toArray];exact hrow.2.trans hcl
  · exact hrow.1
  · have q:=hF.new g rfl
    exact ((hF.bel.drew).grown b1 (by have:=hF.bel.size;exact this) (fun k e=>by cases e;exact q)).grown b2 (by have:=hF.bel.size;have:=b1.size;exact Nat.le_trans (hF.bel.size) b1.size) (fun k e=>by cases e;exact q)
 have HP:=hid hP
 have mixed:Tryz.prog.follows Departure.mixedOrders=true:=by kernel_rfl
 have hw1:IntKind.i64.wrap ((i:Int)+1)=(i:Int)+1:=by rw[IntKind.wrap_i64];omega
 have hw2:IntKind.i64.wrap ((n:Int)+1)=(n:Int)+1:=by rw[IntKind.wrap_i64];omega
 have hb1:(0:Int)≤(i:Int)+1:=by omega
 have htn:((i:Int)+1).toNat=i+1:=by omega
 have htn2:((n:Int)+1).toNat=n+1:=by omega
 have hb2:¬(c=i+1):=by omega
 have hb3:(i:Int)≤(n:Int)+1:=by omega
 have hb4:¬(c=i):=by omega
 have hb5:¬((i:Int)=(n:Int)):=by omega
 have hb6:¬((c:Int)<(n:Int)+1):=by omega
 have hin:i≤n:=by omega
 clear hP hrow h1 h2 b1 b2 hV1 hgD hcd hcl hdl htake hg hV hF hD hcs hcm
 go_enter Tryz.func28,Tryz.ntmps28
 go_wp2_with (simp only[hov])
 go_region_law_o (refine step_copy_at rfl _ _ 22 22 rfl (.slice (some ⟨g,(i+1)*10,none⟩) (n+1-(i+1)) (c-(i+1))) (.slice (some ⟨g,i*10,none⟩) (n+1-i) (c-i)) (by simp[Act.eval,Act.put]) (by simp[Act.eval,Act.put]) (r1 _ _ _) ?_)
 go_wp2_with (at_builtin;refine wp_copy_at rfl _ _ 22 22 rfl _ _ rfl rfl (r2 _ _ _) ?_)
 go_ret
 exact HP.out
theorem grow_zeros14 {w:World} {g n c i:Nat} {D:List Ent12} (hD:D.length=n) (hA:Acts w (some ⟨g,0,none⟩) D) (hi:i<n) (hn:n≤1000) (hc:c<n+1) (hnc:n≤c):
 ∃(W:World) (G:Nat) (R:Array Value),(∀ty,(Builtin.append_ #[22,3] ty #[.slice (some ⟨g,0,none⟩) i c,.int .i64 ((n+1-i:Nat):Int)]).run Tryz.prog w = .ok (.slice (some ⟨w.heap.size,0,none⟩) (n+1) G) W) ∧
  W.heap[w.heap.size]? = some (.cells R 37 (0,0))∧R.size=G*10∧R.toList.take (i*10)=actCells (D.take i)∧n+1≤G∧G≤maxLen∧w.grownBy W none:=by
 obtain⟨ti,hti,hz,hs,hb⟩:∃ti,Tryz.prog.info? 37=some ti∧ti.zero=some (.agg #[.int .i64 0,.int .u64 0,.int .u64 0,.int .i64 0,.int .i64 0,.bool false,.int .u64 0,.slice none 0 0,.slice none 0 0,.slice none 0 0])∧ti.size=10∧ti.bytes=128:=by
  have:=elemAct.info
  cases h:Tryz.prog.info? 37 with
  | none=>rw[h]at this;simp at this
  | some ti=>rw[h]at this;simp at this;exact⟨ti,rfl,this⟩
 have hl:(actCells (D.take i)).length=i*10:=by rw[actCells_length,List.length_take];omega
 have hold:(Builtin.firstCells ti.size i (.slice (some ⟨g,0,none⟩) i c)).run Tryz.prog w.drew = .ok (actCells (D.take i)).toArray w.drew:=by
  rw[hs]
  exact run_firstCells_some w.drew 10 i ⟨g,0,none⟩ i c (actCells (D.take i)) hl (fun j v hj=>acts_cells (hA.take i) j v hj)
 have hgc:grownCap w (n+1) c 37≥n+1:=grownCap_ge _ _ _ _
 have hgm:grownCap w (n+1) c 37≤maxLen:=grownCap_le_maxLen w (n+1) c _ (by unfold maxLen;omega)
 have hik:i+(n+1-i)=n+1:=by omega
 obtain⟨R,hR⟩:∃R,R=(actCells (D.take i)).toArray++Builtin.zeroCells (Value.agg #[.int .i64 0,.int .u64 0,.int .u64 0,.int .i64 0,.int .i64 0,.bool false,.int .u64 0,.slice none 0 0,.slice none 0 0,.slice none 0 0]).cells (n+1-i)++Builtin.zeroCells (Value.agg #[.int .i64 0,.int .u64 0,.int .u64 0,.int .i64 0,.int .i64 0,.bool false,.int .u64 0,.slice none 0 0,.slice none 0 0,.slice none 0 0]).cells (grownCap w (n+1) c 37-(n+1)):=⟨_,rfl⟩
 refine⟨w.drew.alloc (.cells R 37),grownCap w (n+1) c 37,R,fun ty=>?_,heap_alloc_new w.drew _,?_,?_,hgc,hgm,⟨rfl,rfl,rfl,by simp,fun k hk _=>_root_.Go.heap_alloc_old _ _ hk⟩⟩
 · have h:=Lib.run_append_grow_zeros w 22 3 ty 37 ti _ .i64 .i64 Tryz.underlying22 Tryz.underlying3 hti hz (some ⟨g,0,none⟩) i c (actCells (D.take i)) hold (n+1-i) (by omega) (by omega) (by omega) (by omega) (by rw[hb];omega) (by rw[hb,hik];exact growslice_fits hc (by omega))
   rw[hik]at h
   rw[hR]
   exact h
 · rw[hR]
   simp only[Array.size_append,List.size_toArray,size_zeroCells,hl]
   have:(Value.agg #[.int .i64 0,.int .u64 0,.int .u64 0,.int .i64 0,.int .i64 0,.bool false,.int .u64 0,.slice none 0 0,.slice none 0 0,.slice none 0 0]).cells.size=10:=rfl
   rw[this]
   omega
 · rw[hR]
   simp only[Array.toList_append,List.append_assoc]
   rw[←hl]
   exact List.take_left
theorem rows_behind {R:List Value} {D:List Ent12} {h:Ent12} {n i:Nat} (hD:D.length=n) (hR:R.take (i*10)=actCells (D.take i)) (hs:(n+1)*10≤R.length) (hi:i<n)
 {R1 R2:List Value} (h1:R1=R.take (i*10)++h.cs++R.drop (i*10+h.cs.length)) (h2:R2=R1.take ((i+1)*10)++actCells (D.drop i)++R1.drop ((i+1)*10+(actCells (D.drop i)).length)):
 R2.take ((n+1)*10)=actCells (D.take i++h::D.drop i)∧R2.length=R.length:=by
 have hdl:(actCells (D.drop i)).length=(n-i)*10:=by rw[actCells_length,List.length_drop,hD]
 have htl:(actCells (D.take i)).length=i*10:=by rw[actCells_length,List.length_take];omega
 have h1l:R1.length=R.length:=by
  rw[h1,hR,List.length_append,List.length_append,List.length_drop,htl,h.cs_length]
  omega
 have ht:R1.take ((i+1)*10)=actCells (D.take i)++h.cs:=by
  rw[h1,hR,show (i+1)*10=(actCells (D.take i)++h.cs).length by rw[List.length_append,htl,h.cs_length];omega,List.take_left]
 rw[h2,ht]
 constructor
 · rw[actCells_append,actCells_cons,show (n+1)*10=(actCells (D.take i)++h.cs++actCells (D.drop i)).length by rw[List.length_append,List.length_append,htl,hdl,h.cs_length];omega,List.take_left,List.append_assoc]
 · rw[List.length_append,List.length_append,List.length_append,htl,hdl,h.cs_length,List.length_drop]
   omega
set_option maxHeartbeats 4000000 in
theorem insert_grow (w0 w:World) (g n c i vb:Nat) (T:TypeId) (D:List Ent12) (h:Ent12) (hF:FreshA w0 w (.slice (some ⟨g,0,none⟩) n c) n D) (hi:i<n) (hn:n≤1000) (hroom:¬n+1≤c) (hV:w.heap[vb]? = some (.cells h.cs.toArray T (0,0))):
 Calls Tryz.prog 28 #[.slice (some ⟨g,0,none⟩) n c,.int .i64 i,.slice (some ⟨vb,0,none⟩) 1 1] w (InsPost14 w0 n i D h):=by
 obtain⟨hD,hnc,hc63,hA⟩:=hF.list
 have hgl:g<w.heap.size:=by
  obtain⟨cur,hg,_⟩:=own_cells14 hF.own
  exact (Array.getElem?_eq_some_iff.1 hg).1
 have hvl:vb<w.heap.size:=(Array.getElem?_eq_some_iff.1 hV).1
 have hdl:(actCells (D.drop i)).length=(n-i)*10:=by rw[actCells_length,List.length_drop,hD]
 obtain⟨W0,G,R,r0,h0,hRs,hRt,hG,hGm,b0⟩:=grow_zeros14 (w:=w) (g:=g) (c:=c) hD hA hi hn (by omega) hnc
 have hRl:R.toList.length=G*10:=by rw[Array.length_toList];exact hRs
 have hV0:W0.heap[vb]? = some (.cells h.cs.toArray T (0,0)):=(b0.block vb hvl (by simp)).trans hV
 obtain⟨W1,r1,h1,b1⟩:=copy_rowN (P:=Tryz.prog) (w:=W0) (dT:=22) (sT:=22) (o:=i*10) (dLen:=n+1-i) (a:=⟨vb,0,none⟩) (sLen:=1) (cs:=h.cs) (n:=1) Tryz.underlying22 size_act14 h0
  (by simp only[Nat.min_def];split<;>omega) rfl (fun j u hj=>by rw[add_none,heap_cell14 hV0,Nat.zero_add,←hj];simp) (by simp[h.cs_length,hRs];omega) (by intro u hu;simp[Ent12.cs]at hu;rcases hu with rfl|rfl|rfl|rfl|rfl|rfl|rfl|rfl|rfl|rfl<;>rfl)
 have hA1:Acts W1 (some ⟨g,0,none⟩) D:=hA.kept fun q hq=>by cases hq;exact (b1.block g (Nat.lt_of_lt_of_le hgl b0.size) (by simp;omega)).trans (b0.block g hgl (by simp))
 have h1D:W1.drew.heap[w.heap.size]? = _:=h1
 obtain⟨W2,r2,h2,b2⟩:=copy_rowN (P:=Tryz.prog) (w:=W1.drew) (dT:=22) (sT:=22) (o:=(i+1)*10) (dLen:=n+1-(i+1)) (a:=⟨g,i*10,none⟩) (sLen:=n-i) (cs:=actCells (D.drop i)) (n:=n-i) Tryz.underlying22 size_act14 h1D
  (by simp only[Nat.min_def];split<;>omega) hdl (fun j u hj=>by
    rw[←actCells_drop D i (by omega),List.getElem?_drop]at hj
    have:=acts_cells hA1 _ _ hj
    rw[add_none]at this ⊢
    rw[Nat.zero_add]at this
    exact this) (by simp[h.cs_length,hRs,hdl];omega) (act_flat _)
 have hrow:=rows_behind (h:=h) hD hRt (by rw[hRl];omega) hi rfl rfl
 have hs0:=hF.bel.size
 have hP:InsPost14 w0 n i D h (.returned (.slice (some ⟨w.heap.size,0,none⟩) (n+1) G)) W2:=by
  refine⟨_,G,rfl,⟨?_,.inr ⟨w.heap.size,G,_,rfl,Nat.zero_le _,h2,hG,hGm,?_,?_⟩⟩,?_,fun g' e=>by cases e;exact hs0⟩
  · rw[actCells_length];congr 1;simp[hD];omega
  · rw[List.size_toArray];exact hrow.2.trans hRl
  · exact hrow.1
  · have e0:=hF.bel.grown b0 hs0 (fun k e=>by cases e)
    have e1:=e0.grown b1 e0.size (fun k e=>by cases e;exact hs0)
    exact e1.drew.grown b2 e1.size (fun k e=>by cases e;exact hs0)
 have HP:=hid hP
 have mixed:Tryz.prog.follows Departure.mixedOrders=true:=by kernel_rfl
 have hw1:IntKind.i64.wrap ((i:Int)+1)=(i:Int)+1:=by rw[IntKind.wrap_i64];omega
 have hw2:IntKind.i64.wrap ((n:Int)+1)=(n:Int)+1:=by rw[IntKind.wrap_i64];omega
 have hkk:(n:Int)+1-(i:Int)=((n+1-i:Nat):Int):=by omega
 rw[←hkk]at r0
 have hb1:(0:Int)≤(i:Int)+1:=by omega
 have htn:((i:Int)+1).toNat=i+1:=by omega
 have htn2:((n:Int)+1).toNat=n+1:=by omega
 have hb2:¬(G=i+1):=by omega
 have hb3:(i:Int)≤(n:Int)+1:=by omega
 have hb4:¬(c=i):=by omega
 have hb7:¬(G=i):=by omega
 have hb5:¬((i:Int)=(n:Int)):=by omega
 have hb6:(c:Int)<(n:Int)+1:=by omega
 have hG63:G≤9223372036854775807:=by unfold maxLen at hGm;omega
 have hin:i≤n:=by omega
 clear hP hrow h1 h2 b1 b2 b0 hV0 h1D hRl hRs hRt hdl hV hF hD hA hA1 h0 hGm hkk
 go_enter Tryz.func28,Tryz.ntmps28
 go_wp2_with (first
  | (at_builtin;refine Lib.wpList_append_run _ rfl _ _ _ _ rfl _ _ rfl rfl _ _ (r0 _) ?_)
  | (at_builtin;refine wp_copy_at rfl _ _ 22 22 rfl _ _ rfl rfl (r1 _ _ _) ?_)
  | fail)
 go_region_law_o (refine step_copy_at rfl _ _ 22 22 rfl (.slice (some ⟨w.heap.size,(i+1)*10,none⟩) (n+1-(i+1)) (G-(i+1))) (.slice (some ⟨g,i*10,none⟩) (n-i) (c-i)) (by simp[Act.eval,Act.put]) (by simp[Act.eval,Act.put]) (r2 _ _ _) ?_)
 go_wp2_with fail
 go_ret
 exact HP.out
theorem insert14_any (w0 w:World) (g n c i vb:Nat) (T:TypeId) (D:List Ent12) (h:Ent12) (hF:FreshA w0 w (.slice (some ⟨g,0,none⟩) n c) n D) (hi:i<n) (hn:n≤1000) (hV:w.heap[vb]? = some (.cells h.cs.toArray T (0,0))) (hne:vb≠g):
 Calls Tryz.prog 28 #[.slice (some ⟨g,0,none⟩) n c,.int .i64 i,.slice (some ⟨vb,0,none⟩) 1 1] w (InsPost14 w0 n i D h):=by
 by_cases hroom:n+1≤c
 · exact insert_room w0 w g n c i vb T D h hF hi hroom hV hne
 · exact insert_grow w0 w g n c i vb T D h hF hi hn hroom hV
end Go.Proofs.YthpdkancighknaaGreat
