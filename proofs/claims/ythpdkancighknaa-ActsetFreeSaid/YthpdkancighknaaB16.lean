/- Put together out of several texts. -/
import Derived.Test.YthpdkancighknaaB14
import Derived.Test.YthpdkancighknaaB11
namespace Go.Proofs.Ythpdkancighknaa
open Go.RowKit
set_option linter.unusedVariables false
set_option maxRecDepth 100000
theorem FreshA.free {w0 w:World} {gb n c:Nat} {D:List Ent12} (h:FreshA w0 w (.slice (some ⟨gb,0,none⟩) n c) n D):(∀o,w.frozen? ⟨gb,o,none⟩=false)∧gb<w.heap.size:=by
 obtain⟨cur,hg,_⟩:=own_cells14 h.own
 exact⟨fun o=>by simp[World.frozen?,hg],(Array.getElem?_eq_some_iff.1 hg).1⟩
set_option maxHeartbeats 4000000 in
theorem write14_any (w0 w:World) (va:Option Addr) (n vc:Nat) (D:List Ent12) (g:Ent12) (hF:FreshA w0 w (.slice va n vc) n D) (hS:right14 (D.map Ent12.act)=true) (hA:AllIn w0 D) (hg:ActIn w0 g) (hm:may14 g.act=true) (hn:n≤900):
 Calls Try.prog 16 #[.slice va n vc,g.val] w (PutPost14 w0 D g):=by
 obtain⟨W,hW,hbW,hbx⟩:=act_box w g.T g.A g.B g.o.C g.o.F g.o.H g.o.X g.va g.o.v.length g.vc g.ma g.o.m.length g.mc g.da g.d.length g.dc
 have HW:=hid hW
 have HBW:=hid hbW
 have HBX:=hid hbx
 have HF:=hid hF
 have HS:=hid hS
 have HA:=hid hA
 have HG:=hid hg
 have HM:=hid hm
 have HP:=hid (fun (x:Ent12) (V:World)=>placeOf_any x V)
 have HN:=hid hF.list.1
 unfold placeV Ent12.val at HP
 obtain⟨d0,d1,d2,d3,d4,d5,d6,d7,d8,d9⟩:=hbx.ten
 unfold Ent12.val
 clear hW hbW hbx hF hS hA hg hm
 go_enter Try.func16,Try.ntmps16
 go_upto_region 1 with fail
 rw[HW.out]
 go_wp2_with fail
 refine (HP.out g _).mono ?_
 rintro e w1 ⟨rfl,hb1⟩
 obtain⟨V,hV,hbV,hy⟩:∃V,w1.alloc (.cells #[.int .i64 (rankT g.T),.int .i64 g.T,.int .i64 g.o.F] 42)=V∧Below w1.heap.size w1 V∧BoxL V w1.heap.size [.int .i64 (rankT g.T),.int .i64 g.T,.int .i64 g.o.F]:=⟨_,rfl,below_alloc _ _,BoxL.new _ _ _⟩
 have HV:=hid hV
 have HX1:=hid (HBX.out.below hb1)
 have HBV:=hid (below_on (below_on HBW.out hb1) hbV)
 have HBX2:=hid ((HBX.out.below hb1).below hbV)
 have HY:=hid hy
 have HF2:=hid (HF.out.behind HBV.out)
 clear d0 d1 d2 d3 d4 d5 d6 d7 d8 d9 hb1 hV hbV hy
 go_wp2_with fail
 rw[HV.out]
 go_loopg [13] n (fun kx s13 wr=>∃(i:Nat),s13 = .int .i64 i∧i≤n∧n-i≤kx∧Hid (∀(k:Nat) (hk:k<i) (hk2:k<D.length),ahead14 (D[k]).act g.act=true)∧Hid (Below V.heap.size V wr))
 case atStart=>exact⟨0,rfl,by omega,by omega,(by show ∀_,_;intro k hk;omega),Below.refl _ _⟩
 case round=>
  obtain⟨i,rfl,hi,hkx,hah,hb⟩:=hrel
  have HFR:=hid (HF2.out.behind hb.out)
  have HBR:=hid (below_on HBV.out hb.out)
  have HYR:=hid (HY.out.below hb.out)
  have HXR:=hid (HBX2.out.below hb.out)
  have HGR:=hid (HG.out.below (HFR.out.bel))
  have hpl1:w1.heap.size<wr.heap.size:=HYR.out.lt
  have hpl2:w.heap.size<wr.heap.size:=HXR.out.lt
  by_cases hlt:i<n
  · have hltz:(i:Int)<(n:Int):=by omega
    have hil:i<D.length:=by have:=HN.out;omega
    have hnvc:=HFR.out.list.2.1
    have hvc63:=HFR.out.list.2.2.1
    obtain⟨b,off,hva,-⟩:=HFR.out.list.2.2.2 i hil
    subst hva
    obtain⟨gb,hsp⟩:=HFR.out.spot
    cases hsp
    obtain⟨c0,c1,c2,c3,c4,c5,c6,c7,c8,c9⟩:=HFR.out.list.2.2.2.ten i hil
    simp only[Nat.zero_add]at c0 c1 c2 c3 c4 c5 c6 c7 c8 c9
    have hin:=HA.out D[i] (List.getElem_mem hil)
    have hmi:may14 D[i].act=true:=(right_iff14.1 HS.out).1 _ (List.mem_map_of_mem (List.getElem_mem hil))
    have hDi:D[i]=D[i]:=rfl
    generalize hx:D[i]=x at c0 c1 c2 c3 c4 c5 c6 c7 c8 c9 hin hmi
    obtain⟨W4,hW4,hbW4,hbx4⟩:=act_box wr x.T x.A x.B x.o.C x.o.F x.o.H x.o.X x.va x.o.v.length x.vc x.ma x.o.m.length x.mc x.da x.d.length x.dc
    have HW4:=hid hW4
    have HBW4:=hid hbW4
    obtain⟨d0,d1,d2,d3,d4,d5,d6,d7,d8,d9⟩:=hbx4.ten
    have HX:=hid hx
    have HXIN:=hid hin
    have HMI:=hid hmi
    clear hW4 hbW4 hbx4 hx hin hmi hDi
    go_upto_region 5 with fail
    rw[HW4.out]
    clear c0 c1 c2 c3 c4 c5 c6 c7 c8 c9
    go_upto_region 6 with (first|(refine (HP.out x _).mono ?_;rintro e w5 ⟨rfl,hb5⟩;have HB5:=hid hb5;clear hb5)|fail)
    obtain⟨V6,hV6,hbV6,hx6⟩:∃V,w5.alloc (.cells #[.int .i64 (rankT x.T),.int .i64 x.T,.int .i64 x.o.F] 42)=V∧Below w5.heap.size w5 V∧BoxL V w5.heap.size [.int .i64 (rankT x.T),.int .i64 x.T,.int .i64 x.o.F]:=⟨_,rfl,below_alloc _ _,BoxL.new _ _ _⟩
    have HV6:=hid hV6
    have HW6:=hid (below_on (below_on HBW4.out HB5.out) hbV6)
    have HF6:=hid (HFR.out.behind HW6.out)
    have hF6:=HF6.out.free
    obtain⟨f0,f1,f2⟩:=hx6.tri
    obtain⟨g0,g1,g2⟩:=(HYR.out.below HW6.out).tri
    obtain⟨d0,d1,d2,d3,d4,d5,d6,d7,d8,d9⟩:=(HXR.out.below HW6.out).ten
    rw[HV6.out]
    have HE:=hid (placeEq_run (rankT x.T) x.T x.o.F (rankT g.T) g.T g.o.F V6)
    obtain⟨q,hq⟩:∃q,(rankT x.T==rankT g.T&&(x.T==g.T&&x.o.F==g.o.F))=q:=⟨_,rfl⟩
    rw[hq]at HE
    have hpl:=place_is HXIN.out HG.out HMI.out HM.out
    have HBI:Hid (∀k,(hk:k<i)→ahead14 ((D.map Ent12.act)[k]'(by rw[List.length_map];omega)) g.act=true):=by
     show ∀_,_
     intro k hk
     rw[List.getElem_map]
     exact hah.out k hk (by omega)
    have hilm:i<(D.map Ent12.act).length:=by rw[List.length_map];exact hil
    have hDx:(D.map Ent12.act)[i]=x.act:=by rw[List.getElem_map,HX.out]
    have HDX:=hid hDx
    have HIL:=hid hil
    have HR:=hid (right_iff14.1 HS.out).2
    clear hV6 hbV6 hx6 hDx
    cases q
    · have hnp:place14 x.act g.act=false:=by
       cases e:place14 x.act g.act
       · rfl
       · obtain⟨e1,e2⟩:=hpl.1 e
         rw[e1,e2]at hq
         simp at hq
      have HNP:=hid hnp
      have HIA:=hid (fun V=>isAhead_any g x V)
      have hai:=ahead_is HG.out HXIN.out HM.out HMI.out
      obtain⟨r,hr⟩:∃r,aheadP g x=r:=⟨_,rfl⟩
      rw[hr]at HIA hai
      have HAI:=hid hai
      unfold placeV at HIA
      clear hq hpl hnp hr hai
      go_upto_region 9 with (first|(refine wp_eq_place rfl _ _ _ rfl rfl rfl HE.out ?_)|fail)
      go_wp2_with fail
      refine (HIA.out _).mono ?_
      rintro e w7 ⟨rfl,hb7⟩
      have HB7:=hid (below_on HW6.out hb7)
      clear hb7 d0 d1 d2 d3 d4 d5 d6 d7 d8 d9 f0 f1 f2 g0 g1 g2
      cases r
      · have hxg:ahead14 x.act g.act=true:=by
         rcases ahead_total (a:=g.act) (b:=x.act) HAI.out.symm with h|h
         · rw[place_symm]at h;rw[HNP.out]at h;cases h
         · exact h
        have hah2:∀(k:Nat) (hk:k<i+1) (hk2:k<D.length),ahead14 (D[k]).act g.act=true:=by
         intro k hk hk2
         by_cases e:k=i
         · subst e;rw[HX.out];exact hxg
         · exact hah.out k (by omega) hk2
        have HAH2:=hid hah2
        have HBE:=hid (below_on hb.out HB7.out)
        clear hxg hah2
        go_wp2_with fail
        go_roundg (n-(i+1))
        case rel=>exact⟨i+1,by go_num,by omega,by omega,HAH2.out,HBE.out⟩
        case measure=>omega
      · have hput:=put_ahead HR.out hilm HBI.out (by rw[HDX.out];exact HAI.out.symm)
        rw[←List.map_take,←List.map_drop]at hput
        have HPUT:=hid hput
        obtain⟨d0,d1,d2,d3,d4,d5,d6,d7,d8,d9⟩:=(HXR.out.below HB7.out).ten
        have hfr:=(HFR.out.behind HB7.out).free.2
        obtain⟨V9,hV9,hbV9,hc9⟩:∃V,w7.alloc (.cells g.cs.toArray 34)=V∧Below w7.heap.size w7 V∧V.heap[w7.heap.size]? = some (.cells g.cs.toArray 34 (0,0)):=⟨_,rfl,below_alloc _ _,heap_alloc_new w7 _⟩
        have HV9:Hid (w7.alloc (.cells #[.int .i64 g.T,.int .u64 g.A,.int .u64 g.B,.int .i64 g.o.C,.int .i64 g.o.F,.bool g.o.H,.int .u64 g.o.X,.slice g.va g.o.v.length g.vc,.slice g.ma g.o.m.length g.mc,.slice g.da g.d.length g.dc] 34)=V9):=hV9
        have HINS:=hid (insert14_any w0 V9 b n vc i w7.heap.size 34 D g (HFR.out.behind (below_on HB7.out hbV9)) hlt (by omega) hc9 (by omega))
        clear hput hV9 hbV9 hc9 hfr hF6
        go_wp2_with fail
        rw[HV9.out]
        refine HINS.out.mono ?_
        rintro e w8 ⟨va',vc',rfl,hF8⟩
        have HF8:=hid hF8
        clear hF8
        go_wp2_with fail
        refine bodyPost_ret (v:=.slice va' (n+1) vc') (by simp[results,Try.results16,go_sem]) rfl (put_post HF8.out (by rw[HPUT.out,List.map_append,List.map_cons]) ?_)
        intro y hy
        rcases List.mem_append.1 hy with hy|hy
        · exact .inl (List.mem_of_mem_take hy)
        · rcases List.mem_cons.1 hy with hy|hy
          · exact .inr hy
          · exact .inl (List.mem_of_mem_drop hy)
    · simp only[Bool.and_eq_true,beq_iff_eq]at hq
      have hpt:=hpl.2 ⟨hq.2.1,hq.2.2⟩
      have hput:=put_here HR.out hilm HBI.out (by rw[HDX.out];exact hpt)
      have HPUT:=hid hput
      have HF7:=hid (HF6.out.put10 hlt g)
      obtain⟨e0,e1,e2,e3,e4,e5,e6,e7,e8,e9⟩:=HF6.out.list.2.2.2.ten i hil
      simp only[Nat.zero_add]at e0 e1 e2 e3 e4 e5 e6 e7 e8 e9
      obtain⟨zf,zl⟩:=hF6
      clear hq hpl hpt hput
      go_upto_region 7 with (first|(refine wp_eq_place rfl _ _ _ rfl rfl rfl HE.out ?_)|fail)
      go_wp2_with fail
      refine bodyPost_ret (v:=.slice (some ⟨b,0,none⟩) n vc) (by simp[results,Try.results16,go_sem]) rfl (put_post HF7.out (by rw[HPUT.out,List.map_set]) ?_)
      intro y hy
      rcases List.mem_or_eq_of_mem_set hy with hy|hy
      · exact .inl hy
      · exact .inr hy
  · have hge:(n:Int)≤(i:Int):=by omega
    obtain rfl:i=n:=by omega
    have hput:=put_end (a:=g.act) (D:=D.map Ent12.act) (fun k hk=>by rw[List.getElem_map];exact hah.out k (by have:=HN.out;rw[List.length_map]at hk;omega) (by rw[List.length_map]at hk;exact hk))
    have HPUT:=hid hput
    obtain⟨d0,d1,d2,d3,d4,d5,d6,d7,d8,d9⟩:=HXR.out.ten
    have HFA:=hid (HFR.out.behind (below_alloc wr (.cells #[.int .i64 g.T,.int .u64 g.A,.int .u64 g.B,.int .i64 g.o.C,.int .i64 g.o.F,.bool g.o.H,.int .u64 g.o.X,.slice g.va g.o.v.length g.vc,.slice g.ma g.o.m.length g.mc,.slice g.da g.d.length g.dc] 34)))
    have HO:=hid (acts_one wr g 34)
    clear hput
    go_wp2_with (first|(at_builtin;refine wp_app_acts rfl _ _ rfl HFA.out rfl rfl rfl HO.out (by omega) rfl ?_;intro va' vc' w8 hF8;have HF8:=hid hF8;clear hF8)|fail)
    refine bodyPost_ret (v:=.slice va' (i+1) vc') (by simp[results,Try.results16,go_sem]) rfl (put_post HF8.out (by rw[HPUT.out,List.map_append];rfl) ?_)
    intro y hy
    rcases List.mem_append.1 hy with hy|hy
    · exact .inl hy
    · exact .inr (List.mem_singleton.1 hy)
def WritePost14 (S L:List Act12) (w:World) (e:Ending) (w':World):Prop:=
 ∃(M:List Ent12) (va:Option Addr) (vc:Nat) (q:Int),e = .returned (.tuple #[.slice va M.length vc,.int .i64 q])∧Below w.heap.size w w'∧Acts w' va M∧AllIn w' M∧M.length≤S.length+L.length∧M.length≤vc∧vc≤9223372036854775807 ∧
  ((write14 S L = .ok (M.map Ent12.act)∧q=0)∨(write14 S L = .error 10001∧q=10001∧M = []))
theorem write_err {S L:List Act12} {w w':World} (h:right14 S=false∨L.all may14=false) (hb:Below w.heap.size w w'):WritePost14 S L w (.returned (.tuple #[.slice none 0 0,.int .i64 10001])) w':=by
 refine⟨[],none,0,10001,rfl,hb,Acts.nil _ _,AllIn.nil _,by simp,by simp,by simp,.inr ⟨?_,rfl,rfl⟩⟩
 unfold write14
 rw[if_neg]
 rintro⟨h1,h2⟩
 rcases h with h|h
 · rw[h1]at h;cases h
 · rw[h2]at h;cases h
set_option maxHeartbeats 4000000 in
theorem actsetWrite_any (w:World) (a b:Option Addr) (c d:Nat) (S L:List Ent12) (hS:Acts w a S) (hSI:AllIn w S) (hL:Acts w b L) (hLI:AllIn w L) (h1:S.length≤300) (h2:L.length≤300):
 Calls Try.prog 7 #[.slice a S.length c,.slice b L.length d] w (WritePost14 (S.map Ent12.act) (L.map Ent12.act) w):=by
 have HS:=hid (And.intro hS hSI)
 have HL:=hid (And.intro hL hLI)
 obtain⟨N,hN⟩:∃N,N=S.length:=⟨_,rfl⟩
 obtain⟨M,hM⟩:∃M,M=L.length:=⟨_,rfl⟩
 have HN:=hid hN
 have HM:=hid hM
 have HRS:=hid (rightS_any w a c S hS hSI (by omega))
 rw[←hN]at h1 HRS ⊢
 rw[←hM]at h2 ⊢
 obtain⟨r,hr⟩:∃r,right14 (S.map Ent12.act)=r:=⟨_,rfl⟩
 rw[hr]at HRS
 have HR:=hid hr
 clear hS hSI hL hLI hN hM hr
 go_enter Try.func7,Try.ntmps7
 go_wp2_with fail
 refine HRS.out.mono ?_
 rintro e w1 ⟨rfl,hb1⟩
 have HB1:=hid hb1
 clear hb1
 cases r
 · go_wp2_with fail
   exact bodyPost_ret (v:=.tuple #[.slice none 0 0,.int .i64 10001]) (by simp[results,Try.results7,go_sem]) rfl (write_err (.inl HR.out) HB1.out)
 · go_wp2_with fail
   go_loopg [16] M (fun kx s16 wr=>∃(i:Nat),s16 = .int .i64 i∧i≤M∧M-i≤kx∧Hid (((L.map Ent12.act).take i).all may14=true)∧Hid (Below w.heap.size w wr))
   case atStart=>exact⟨0,rfl,by omega,by omega,rfl,HB1.out⟩
   case round=>
    obtain⟨i,rfl,hi,hkx,hn,hb⟩:=hrel
    by_cases hlt:i<M
    · have hltz:(i:Int)<(M:Int):=by omega
      have hil:i<L.length:=by have:=HM.out;omega
      obtain⟨bb,off,rfl,-⟩:=HL.out.1 i hil
      obtain⟨c0,c1,c2,c3,c4,c5,c6,c7,c8,c9⟩:=(HL.out.1.below hb.out).ten i hil
      have hin:=HL.out.2 L[i] (List.getElem_mem hil)
      have htk:=take_snoc14 L i hil
      have hmem:L[i].act∈L.map Ent12.act:=List.mem_map_of_mem (List.getElem_mem hil)
      generalize L[i]=g at c0 c1 c2 c3 c4 c5 c6 c7 c8 c9 hin htk hmem
      obtain⟨W,hW,hbW,hbx⟩:=act_box wr g.T g.A g.B g.o.C g.o.F g.o.H g.o.X g.va g.o.v.length g.vc g.ma g.o.m.length g.mc g.da g.d.length g.dc
      have HW:=hid hW
      have HBW:=hid (below_on hb.out hbW)
      have HTK:=hid htk
      have HMEM:=hid hmem
      have HMS:=hid (mayStand_any g W (hin.below HBW.out))
      obtain⟨m,hm⟩:∃m,may14 g.act=m:=⟨_,rfl⟩
      rw[hm]at HMS
      have HMM:=hid hm
      obtain⟨d0,d1,d2,d3,d4,d5,d6,d7,d8,d9⟩:=hbx.ten
      unfold Ent12.val at HMS
      clear hW hbW hbx htk hmem hm hin
      go_upto_region 6 with fail
      rw[HW.out]
      clear c0 c1 c2 c3 c4 c5 c6 c7 c8 c9
      go_wp2_with fail
      refine HMS.out.mono ?_
      rintro e w3 ⟨rfl,hb3⟩
      have HB3:=hid (below_on HBW.out hb3)
      clear hb3 d0 d1 d2 d3 d4 d5 d6 d7 d8 d9
      cases m
      · have hall:(L.map Ent12.act).all may14=false:=List.all_eq_false.2 ⟨_,HMEM.out,by rw[HMM.out];simp⟩
        have HALL:=hid hall
        clear hall
        go_wp2_with fail
        exact bodyPost_ret (v:=.tuple #[.slice none 0 0,.int .i64 10001]) (by simp[results,Try.results7,go_sem]) rfl (write_err (.inr HALL.out) HB3.out)
      · have hn2:((L.map Ent12.act).take (i+1)).all may14=true:=by
         rw[HTK.out,List.all_append,hn.out]
         simp[HMM.out]
        have HN2:=hid hn2
        clear hn2
        go_wp2_with fail
        go_roundg (M-(i+1))
        case rel=>exact⟨i+1,by go_num,by omega,by omega,HN2.out,HB3.out⟩
        case measure=>omega
    · have hge:(M:Int)≤(i:Int):=by omega
      have hall:(L.map Ent12.act).all may14=true:=by
       have h:=hn.out
       rwa [List.take_of_length_le (by rw[List.length_map];have:=HM.out;omega)]at h
      have HALL:=hid hall
      have HCL:=hid (clone14_any wr a c S (HS.out.1.below hb.out) (by have:=HN.out;omega))
      rw[←HN.out]at HCL
      clear hall
      go_wp2_with fail
      refine HCL.out.mono ?_
      rintro e w4 ⟨va,vc,rfl,hF⟩
      rw[←HN.out]at hF ⊢
      have HF:=hid (FreshA.made hb.out hF)
      clear hF
      go_wp2_with fail
      clear HCL
      go_loopg [8,28] M (fun kx s8 s28 wx=>∃(i:Nat) (va:Option Addr) (vc:Nat) (D:List Ent12),s8 = .slice va D.length vc∧s28 = .int .i64 i∧i≤M∧M-i≤kx∧D.length≤N+i∧Hid (FreshA w wx (.slice va D.length vc) D.length D)∧Hid (D.map Ent12.act=puts14 (S.map Ent12.act) ((L.map Ent12.act).take i))∧Hid (AllIn w D))
      case atStart=>
       have e:=HN.out
       refine⟨0,va,vc,S,by rw[e],rfl,by omega,by omega,by omega,?_,rfl,HS.out.2⟩
       show FreshA _ _ _ _ _
       rw[←e];exact HF.out
      case round=>
       clear hn hb HF
       obtain⟨i,va,vc,D,rfl,rfl,hi,hkx,hDl,hF,hD,hA⟩:=hrel
       by_cases hlt:i<M
       · have hltz:(i:Int)<(M:Int):=by omega
         have hil:i<L.length:=by have:=HM.out;omega
         obtain⟨bb,off,rfl,-⟩:=HL.out.1 i hil
         obtain⟨c0,c1,c2,c3,c4,c5,c6,c7,c8,c9⟩:=(HL.out.1.below hF.out.bel).ten i hil
         have hin:=HL.out.2 L[i] (List.getElem_mem hil)
         have htk:=take_snoc14 L i hil
         have hmy:may14 L[i].act=true:=List.all_eq_true.1 HALL.out _ (List.mem_map_of_mem (List.getElem_mem hil))
         generalize L[i]=g at c0 c1 c2 c3 c4 c5 c6 c7 c8 c9 hin htk hmy
         obtain⟨W,hW,hbW,hbx⟩:=act_box wr g.T g.A g.B g.o.C g.o.F g.o.H g.o.X g.va g.o.v.length g.vc g.ma g.o.m.length g.mc g.da g.d.length g.dc
         have HW:=hid hW
         have hall2:((L.map Ent12.act).take i).all may14=true:=by
          rw[List.all_eq_true]
          intro y hy
          exact List.all_eq_true.1 HALL.out y (List.mem_of_mem_take hy)
         have hSet:right14 (D.map Ent12.act)=true:=by rw[hD.out];exact right_puts HR.out hall2
         have HWR:=hid (write14_any w W va D.length vc D g (hF.out.behind hbW) hSet hA.out hin hmy (by omega))
         have HTK:=hid htk
         have HIN:=hid hin
         obtain⟨d0,d1,d2,d3,d4,d5,d6,d7,d8,d9⟩:=hbx.ten
         unfold Ent12.val at HWR
         clear hW hbW hbx htk hmy hin hall2 hSet
         go_upto_region 13 with fail
         rw[HW.out]
         clear c0 c1 c2 c3 c4 c5 c6 c7 c8 c9
         go_wp2_with fail
         refine HWR.out.mono ?_
         rintro e w5 ⟨va',vc',D',rfl,hF',hm',hx'⟩
         have hl':D'.length≤D.length+1:=by
          have:=put_length14 g.act (D.map Ent12.act)
          rw[←hm',List.length_map,List.length_map]at this
          exact this
         have hD2:D'.map Ent12.act=puts14 (S.map Ent12.act) ((L.map Ent12.act).take (i+1)):=by
          rw[hm',HTK.out,puts_append,hD.out]
          rfl
         have hA2:AllIn w D':=by
          intro y hy
          rcases hx' y hy with h|rfl
          · exact hA.out y h
          · exact HIN.out
         have HF2:=hid hF'
         have HD2:=hid hD2
         have HA2:=hid hA2
         clear hF' hm' hx' hD2 hA2 d0 d1 d2 d3 d4 d5 d6 d7 d8 d9 HWR
         go_wp2_with fail
         go_roundg (M-(i+1))
         case rel=>exact⟨i+1,va',vc',D',rfl,by go_num,by omega,by omega,by omega,HF2.out,HD2.out,HA2.out⟩
         case measure=>omega
       · have hge:(M:Int)≤(i:Int):=by omega
         have hlist:=hF.out.list
         have HCP:=hid (copy13_any wr va vc D hlist.2.2.2 (hA.out.below hF.out.bel) (by omega))
         have hD3:D.map Ent12.act=puts14 (S.map Ent12.act) (L.map Ent12.act):=by
          have h:=hD.out
          rwa [List.take_of_length_le (by rw[List.length_map];have:=HM.out;omega)]at h
         have HD3:=hid hD3
         have HW14:=hid (write_is14 HR.out HALL.out)
         clear hlist hD3
         go_wp2_with fail
         refine HCP.out.mono ?_
         rintro e w6 ⟨M',rfl,hl6,hm6,hA6,hI6,hb6⟩
         have HB6:=hid (below_on hF.out.bel hb6)
         have H6:=hid (And.intro hl6 (And.intro hm6 (And.intro hA6 hI6)))
         clear hl6 hm6 hA6 hI6 hb6
         go_wp2_with fail
         refine bodyPost_ret (v:=.tuple #[.slice (some ⟨wr.heap.size,0,none⟩) D.length D.length,.int .i64 0]) (by simp[results,Try.results7,go_sem]) rfl ?_
         obtain⟨hl6,hm6,hA6,hI6⟩:=H6.out
         refine⟨M',_,D.length,0,by rw[hl6],HB6.out,hA6,hI6,?_,by omega,by omega,.inl ⟨?_,rfl⟩⟩
         · rw[List.length_map,List.length_map];have:=HN.out;have:=HM.out;omega
         · rw[HW14.out,hm6,HD3.out]
set_option maxHeartbeats 4000000 in
theorem isKind_any (g:Ent12) (k:Int) (b3:Nat) (w:World) (hk:w.cell? ⟨b3,0,none⟩=some (.int .i64 k)):
 Calls Try.prog 31 #[g.val,.pointer (some ⟨b3,0,none⟩)] w fun e w'=>e = .returned (.bool (g.T==k))∧Below w.heap.size w w':=by
 have hl:b3<w.heap.size:=World.block_lt_of_cell? w _ hk
 have hne:¬b3=w.heap.size:=by omega
 unfold Ent12.val
 go_enter Try.func31,Try.ntmps31
 go_wp2_with fail
 go_ret
 exact⟨rfl,below_alloc _ _⟩
def anyT (k:Int) (l:List Act12):Bool:=l.any (fun a=>a.T==k)
set_option maxHeartbeats 4000000 in
theorem idxKind (l:List Ent12) (a:Option Addr) (c:Nat) (k:Int) (b3:Nat) (w:World) (hL:Acts w a l) (hll:l.length≤1000) (hk:w.cell? ⟨b3,0,none⟩=some (.int .i64 k)):
 Calls Try.prog 43 #[.slice a l.length c,.func (.func 31) #[] #[.pointer (some ⟨b3,0,none⟩)]] w fun e w'=>(∃r:Int,e = .returned (.int .i64 r)∧decide (0≤r)=anyT k (l.map Ent12.act))∧Below w.heap.size w w':=by
 have HL:=hid hL
 have HK:=hid hk
 obtain⟨t,ht⟩:∃t,anyT k (l.map Ent12.act)=t:=⟨_,rfl⟩
 rw[ht]
 have HT:=hid ht
 obtain⟨N,hN⟩:∃N,N=l.length:=⟨_,rfl⟩
 have HN:=hid hN
 rw[←hN]at hll ⊢
 clear hL ht hk hN
 go_enter Try.func43,Try.ntmps43
 go_wp2_with fail
 go_loopg [8] N (fun kx s8 wr=>∃(i:Nat),s8 = .int .i64 i∧i≤N∧N-i≤kx∧Hid (anyT k ((l.map Ent12.act).take i)=false)∧Hid (Below w.heap.size w wr))
 case atStart=>exact⟨0,rfl,by omega,by omega,rfl,Below.refl _ _⟩
 case round=>
  obtain⟨i,rfl,hi,hkx,hn,hb⟩:=hrel
  by_cases hlt:i<N
  · have hltz:(i:Int)<(N:Int):=by omega
    have hil:i<l.length:=by have:=HN.out;omega
    obtain⟨b,off,rfl,-⟩:=HL.out i hil
    obtain⟨c0,c1,c2,c3,c4,c5,c6,c7,c8,c9⟩:=(HL.out.below hb.out).ten i hil
    have htk:=take_snoc14 l i hil
    have hmem:l[i].act∈l.map Ent12.act:=List.mem_map_of_mem (List.getElem_mem hil)
    generalize l[i]=g at c0 c1 c2 c3 c4 c5 c6 c7 c8 c9 htk hmem
    have HC:=isKind_any g k b3 wr (cell_keep HK.out hb.out)
    unfold Ent12.val at HC
    obtain⟨q,hq⟩:∃q,(g.T==k)=q:=⟨_,rfl⟩
    rw[hq]at HC
    have HC:=hid HC
    have HQ:=hid hq
    have HTK:=hid htk
    have HMEM:=hid hmem
    clear hq htk hmem
    go_wp2_with fail
    refine HC.out.mono ?_
    rintro e w5 ⟨rfl,hb5⟩
    have HB5:=hid (below_on hb.out hb5)
    clear hb5 c0 c1 c2 c3 c4 c5 c6 c7 c8 c9
    cases q
    · have hn2:anyT k ((l.map Ent12.act).take (i+1))=false:=by
       rw[HTK.out]
       unfold anyT
       rw[List.any_append]
       have h:=hn.out
       unfold anyT at h
       rw[h]
       show (false||(g.T==k||false))=false
       rw[HQ.out];rfl
      have HN2:=hid hn2
      clear hn2
      go_wp2_with fail
      go_roundg (N-(i+1))
      case rel=>exact⟨i+1,by go_num,by omega,by omega,HN2.out,HB5.out⟩
      case measure=>omega
    · have htt:t=true:=by
       rw[←HT.out]
       exact List.any_eq_true.2 ⟨_,HMEM.out,HQ.out⟩
      have HTT:=hid htt
      clear htt
      go_wp2_with fail
      exact bodyPost_ret (v:=.int .i64 i) (by simp[results,Try.results43,go_sem]) rfl ⟨⟨i,rfl,by rw[HTT.out];exact decide_eq_true (by omega)⟩,HB5.out⟩
  · have hge:(N:Int)≤(i:Int):=by omega
    have htf:t=false:=by
     have h:=hn.out
     rw[List.take_of_length_le (by rw[List.length_map];have:=HN.out;omega)]at h
     rw[←HT.out];exact h
    have HTF:=hid htf
    clear htf
    go_wp2_with fail
    exact bodyPost_ret (v:=.int .i64 (-1)) (by simp[results,Try.results43,go_sem]) rfl ⟨⟨-1,rfl,by rw[HTF.out];rfl⟩,hb.out⟩
set_option maxHeartbeats 4000000 in
theorem hasKind (l:List Ent12) (a:Option Addr) (c:Nat) (k:Int) (w:World) (hL:Acts w a l) (hll:l.length≤1000):
 Calls Try.prog 21 #[.slice a l.length c,.int .i64 k] w fun e w'=>e = .returned (.bool (anyT k (l.map Ent12.act)))∧Below w.heap.size w w':=by
 have CF:∀(b3:Nat) (V:World),Acts V a l→V.cell? ⟨b3,0,none⟩=some (.int .i64 k)→Calls Try.prog 30 #[.slice a l.length c,.func (.func 31) #[] #[.pointer (some ⟨b3,0,none⟩)]] V fun e w'=>e = .returned (.bool (anyT k (l.map Ent12.act)))∧Below V.heap.size V w':=by
  intro b3 V hV hk
  have HC:=hid (idxKind l a c k b3 V hV hll hk)
  obtain⟨t,ht⟩:∃t,anyT k (l.map Ent12.act)=t:=⟨_,rfl⟩
  rw[ht]at HC ⊢
  clear ht
  go_enter Try.func30,Try.ntmps30
  go_wp2_with fail
  refine HC.out.mono ?_
  rintro e w' ⟨⟨i,rfl,hi⟩,hb⟩
  have HI:=hid hi
  clear hi
  go_wp2
  exact bodyPost_ret (v:=.bool (decide (0≤i))) (by simp[results,Try.results30,go_sem]) rfl ⟨by rw[HI.out],hb⟩
 obtain⟨W,hW,hbW,hc⟩:∃W,w.alloc (.cells #[.int .i64 k] 3)=W∧Below w.heap.size w W∧W.cell? ⟨w.heap.size,0,none⟩=some (.int .i64 k):=⟨_,rfl,below_alloc _ _,by simp⟩
 have HW:=hid hW
 have HB:=hid hbW
 have HC:=hid (CF w.heap.size W (hL.below hbW) hc)
 obtain⟨t,ht⟩:∃t,anyT k (l.map Ent12.act)=t:=⟨_,rfl⟩
 rw[ht]at HC ⊢
 clear ht CF hL hW hbW
 go_enter Try.func21,Try.ntmps21
 go_wp2_with fail
 rw[HW.out]
 refine HC.out.mono ?_
 rintro e w' ⟨rfl,hb⟩
 go_wp2_with fail
 go_ret
 exact⟨rfl,below_on HB.out hb⟩
theorem rank_le (t:Int):rankT t≤11:=by unfold rankT;split<;>(try split)<;>(try split)<;>(try split)<;>(try split)<;>(try split)<;>(try split)<;>(try split)<;>(try split)<;>(try split)<;>(try split)<;>omega
theorem rank_eleven {t:Int} (h:rankT t=11):t=0:=by
 unfold rankT at h
 by_cases e:t=0
 · exact e
 · exfalso
   revert h
   split<;>(try split)<;>(try split)<;>(try split)<;>(try split)<;>(try split)<;>(try split)<;>(try split)<;>(try split)<;>(try split)<;>(try split)<;>omega
theorem out_last {y z:Act12} (hy:y.T=0) (h:ahead14 y z=true):False:=by
 rw[ahead_iff]at h
 have e:rank14 y=11:=by unfold rank14;rw[hy];rfl
 have l:rank14 z≤11:=rank_le _
 have hz:rank14 z=11:=by omega
 have hz0:=rank_eleven hz
 have f1:fld14 y=0:=by unfold fld14;rw[if_neg (by omega)]
 have f2:fld14 z=0:=by unfold fld14;rw[if_neg (by omega)]
 omega
theorem plan_cut {s:List Act12} (h:right14 s=true) (hg:anyT 22 s=true) (ho:anyT 0 s=true):plan14 s=s.take (s.length-1):=by
 have hr:=(right_iff14.1 h).2
 unfold plan14
 rw[if_pos h]
 have hg':(s.any fun b=>b.T==22)=true:=hg
 rw[hg']
 rcases List.eq_nil_or_concat s with rfl|⟨p,z,rfl⟩
 · rfl
 · rw[List.concat_eq_append]at *
   obtain⟨h1,h2,h3⟩:=List.pairwise_append.1 hr
   have hp:∀y∈p,y.T≠0:=fun y hy e=>out_last e (h3 y hy z (by simp))
   have hz:z.T=0:=by
    obtain⟨o,hm,e⟩:=List.any_eq_true.1 ho
    rcases List.mem_append.1 hm with hm|hm
    · exact absurd (by simpa using e) (hp o hm)
    · rw[List.mem_singleton.1 hm]at e;simpa using e
   have hf:p.filter (fun a=>a.T != 0 || !true)=p:=by
    rw[List.filter_eq_self]
    intro y hy
    simp[hp y hy]
   rw[List.filter_append,hf]
   simp[hz]
theorem plan_all {s:List Act12} (h:right14 s=true) (hn:anyT 22 s=false∨anyT 0 s=false):plan14 s=s:=by
 unfold plan14
 rw[if_pos h,List.filter_eq_self]
 intro y hy
 rcases hn with hn|hn
 · have hn':(s.any fun b=>b.T==22)=false:=hn
   rw[hn'];simp
 · have:=List.any_eq_false.1 hn y hy
   simp at this
   simp[this]
def PlanPost14 (S:List Act12) (w:World) (e:Ending) (w':World):Prop:=
 ∃(M:List Ent12) (va:Option Addr) (vc:Nat),e = .returned (.slice va M.length vc)∧Below w.heap.size w w'∧Acts w' va M∧AllIn w' M∧M.map Ent12.act=plan14 S
set_option maxHeartbeats 4000000 in
theorem plan14_any (w:World) (a:Option Addr) (c:Nat) (S:List Ent12) (hS:Acts w a S) (hSI:AllIn w S) (h1:S.length≤900) (hc:S.length≤c):
 Calls Try.prog 10 #[.slice a S.length c] w (PlanPost14 (S.map Ent12.act) w):=by
 have HS:=hid (And.intro hS hSI)
 have HRS:=hid (rightS_any w a c S hS hSI (by omega))
 have HH:=hid (fun k V (hV:Acts V a S)=>hasKind S a c k V hV (by omega))
 obtain⟨N,hN⟩:∃N,N=S.length:=⟨_,rfl⟩
 have HN:=hid hN
 rw[←hN]at h1 HRS HH hc ⊢
 obtain⟨r,hr⟩:∃r,right14 (S.map Ent12.act)=r:=⟨_,rfl⟩
 rw[hr]at HRS
 have HR:=hid hr
 obtain⟨g,hg⟩:∃g,anyT 22 (S.map Ent12.act)=g:=⟨_,rfl⟩
 obtain⟨o,ho⟩:∃o,anyT 0 (S.map Ent12.act)=o:=⟨_,rfl⟩
 have HG:=hid hg
 have HO:=hid ho
 clear hS hSI hN hr hg ho
 go_enter Try.func10,Try.ntmps10
 go_wp2_with fail
 refine HRS.out.mono ?_
 rintro e w1 ⟨rfl,hb1⟩
 have HB1:=hid hb1
 clear hb1
 cases r
 · go_wp2_with fail
   refine bodyPost_ret (v:=.slice none 0 0) (by simp[results,Try.results10,go_sem]) rfl ⟨[],none,0,rfl,HB1.out,Acts.nil _ _,AllIn.nil _,?_⟩
   unfold plan14
   rw[HR.out];rfl
 · go_wp2_with fail
   refine (HH.out 22 w1 (HS.out.1.below HB1.out)).mono ?_
   rintro e w2 ⟨rfl,hb2⟩
   have HB2:=hid (below_on HB1.out hb2)
   rw[HG.out]
   clear hb2
   cases g
   · have HCP:=hid (copy13_any w2 a c S (HS.out.1.below HB2.out) (HS.out.2.below HB2.out) (by have:=HN.out;omega))
     rw[←HN.out]at HCP
     go_wp2_with fail
     refine HCP.out.mono ?_
     rintro e w3 ⟨M,rfl,hl,hm,hA,hI,hb3⟩
     have H3:=hid (And.intro hl (And.intro hm (And.intro hA (And.intro hI (below_on HB2.out hb3)))))
     clear hl hm hA hI hb3
     rw[←HN.out]
     go_wp2_with fail
     refine bodyPost_ret (v:=.slice (some ⟨w2.heap.size,0,none⟩) N N) (by simp[results,Try.results10,go_sem]) rfl ?_
     obtain⟨hl,hm,hA,hI,hb⟩:=H3.out
     exact⟨M,_,N,by rw[hl,←HN.out],hb,hA,hI,by rw[hm,plan_all HR.out (.inl HG.out)]⟩
   · go_wp2_with fail
     refine (HH.out 0 w2 (HS.out.1.below HB2.out)).mono ?_
     rintro e w3 ⟨rfl,hb3⟩
     have HB3:=hid (below_on HB2.out hb3)
     rw[HO.out]
     clear hb3
     cases o
     · have HCP:=hid (copy13_any w3 a c S (HS.out.1.below HB3.out) (HS.out.2.below HB3.out) (by have:=HN.out;omega))
       rw[←HN.out]at HCP
       go_wp2_with fail
       refine HCP.out.mono ?_
       rintro e w4 ⟨M,rfl,hl,hm,hA,hI,hb4⟩
       have H3:=hid (And.intro hl (And.intro hm (And.intro hA (And.intro hI (below_on HB3.out hb4)))))
       clear hl hm hA hI hb4
       rw[←HN.out]
       go_wp2_with fail
       refine bodyPost_ret (v:=.slice (some ⟨w3.heap.size,0,none⟩) N N) (by simp[results,Try.results10,go_sem]) rfl ?_
       obtain⟨hl,hm,hA,hI,hb⟩:=H3.out
       exact⟨M,_,N,by rw[hl,←HN.out],hb,hA,hI,by rw[hm,plan_all HR.out (.inr HO.out)]⟩
     · have hN0 : 0<N:=by
        have h:=HO.out
        have e:=HN.out
        cases S with
        | nil=>cases h
        | cons x r=>rw[e];simp
       have HCP:=hid (copy13_any w3 a c (S.take (N-1)) ((HS.out.1.take _).below HB3.out) (fun y hy=>(HS.out.2 y (List.mem_of_mem_take hy)).below HB3.out) (by rw[List.length_take];omega))
       have hlt:(S.take (N-1)).length=N-1:=by rw[List.length_take];have:=HN.out;omega
       rw[hlt]at HCP
       have HLT:=hid hlt
       have hn1:((N:Int)-1).toNat=N-1:=by omega
       have hn2:(0:Int)≤(N:Int)-1:=by omega
       have hn3:(N:Int)-1≤(c:Int):=by omega
       clear hlt
       go_wp2_with fail
       refine HCP.out.mono ?_
       rintro e w4 ⟨M,rfl,hl,hm,hA,hI,hb4⟩
       have H3:=hid (And.intro hl (And.intro hm (And.intro hA (And.intro hI (below_on HB3.out hb4)))))
       clear hl hm hA hI hb4
       rw[HLT.out]
       go_wp2_with fail
       refine bodyPost_ret (v:=.slice (some ⟨w3.heap.size,0,none⟩) (N-1) (N-1)) (by simp[results,Try.results10,go_sem]) rfl ?_
       obtain⟨hl,hm,hA,hI,hb⟩:=H3.out
       exact⟨M,_,N-1,by rw[hl,HLT.out],hb,hA,hI,by rw[hm,plan_cut HR.out HG.out HO.out,List.map_take,List.length_map,←HN.out]⟩
def dropsP (S:List Act12):Bool:=!right14 S||(!anyT 0 S && !anyT 22 S)
set_option maxHeartbeats 4000000 in
theorem drops14_any (w:World) (a:Option Addr) (c:Nat) (S:List Ent12) (hS:Acts w a S) (hSI:AllIn w S) (h1:S.length≤900):
 Calls Try.prog 13 #[.slice a S.length c] w fun e w'=>e = .returned (.bool (dropsP (S.map Ent12.act)))∧Below w.heap.size w w':=by
 have HS:=hid (And.intro hS hSI)
 have HRS:=hid (rightS_any w a c S hS hSI (by omega))
 have HH:=hid (fun k V (hV:Acts V a S)=>hasKind S a c k V hV (by omega))
 unfold dropsP
 obtain⟨r,hr⟩:∃r,right14 (S.map Ent12.act)=r:=⟨_,rfl⟩
 rw[hr]at HRS ⊢
 obtain⟨g,hg⟩:∃g,anyT 22 (S.map Ent12.act)=g:=⟨_,rfl⟩
 obtain⟨o,ho⟩:∃o,anyT 0 (S.map Ent12.act)=o:=⟨_,rfl⟩
 rw[hg,ho]
 have HG:=hid hg
 have HO:=hid ho
 obtain⟨N,hN⟩:∃N,N=S.length:=⟨_,rfl⟩
 rw[←hN]at HRS HH ⊢
 clear hS hSI hr hg ho hN h1
 go_enter Try.func13,Try.ntmps13
 go_wp2_with fail
 refine HRS.out.mono ?_
 rintro e w1 ⟨rfl,hb1⟩
 have HB1:=hid hb1
 clear hb1
 cases r
 · go_wp2_with fail
   go_ret
   exact⟨rfl,HB1.out⟩
 · go_wp2_with fail
   refine (HH.out 0 w1 (HS.out.1.below HB1.out)).mono ?_
   rintro e w2 ⟨rfl,hb2⟩
   have HB2:=hid (below_on HB1.out hb2)
   rw[HO.out]
   clear hb2
   cases o
   · go_wp2_with fail
     refine (HH.out 22 w2 (HS.out.1.below HB2.out)).mono ?_
     rintro e w3 ⟨rfl,hb3⟩
     have HB3:=hid (below_on HB2.out hb3)
     rw[HG.out]
     clear hb3
     go_wp2_with fail
     go_ret
     exact⟨by simp,HB3.out⟩
   · go_wp2_with fail
     go_ret
     exact⟨by simp,HB2.out⟩
theorem below_alc {w X:World} (h:Below w.heap.size w X) {o:Obj}:Below w.heap.size w (X.alloc o):=below_on h (below_alloc _ _)
theorem below_drw {w X:World} (h:Below w.heap.size w X):Below w.heap.size w X.drew:=h.drew
def ent14 (T A:Int):Ent12:=⟨T,A,0,noOx,none,0,none,0,[],none,0⟩
def a14 (T A:Int):Act12:=⟨T,A,0,noOx,[]⟩
theorem s14_1:write14 [] [a14 0 3,a14 18 0,a14 0 4] = .ok [a14 18 0,a14 0 4]:=by kernel_rfl
theorem s14_2:write14 [a14 18 0,a14 0 4] [a14 22 9] = .ok [a14 18 0,a14 22 9,a14 0 4]:=by kernel_rfl
theorem s14_3:write14 [] [a14 0 0] = .error 10001:=by kernel_rfl
theorem s14_4:plan14 [a14 18 0,a14 22 9,a14 0 4] = [a14 18 0,a14 22 9]:=by kernel_rfl
theorem s14_5:dropsP [a14 18 0,a14 0 4]=false:=by kernel_rfl
theorem s14_6:dropsP [a14 18 0]=true:=by kernel_rfl
theorem ent14_in (w:World) (T A:Int) (hT : 0≤T∧T≤100) (hA : 0≤A∧A≤100):ActIn w (ent14 T A):=
 ⟨by show _≤T∧T≤_;omega,by show 0≤A∧A≤_;omega,by show (0:Int)≤0∧(0:Int)≤_;omega,by simp[ent14,noOx],by simp[ent14,noOx],by simp[ent14,noOx],by simp[ent14,noOx],by simp[ent14,noOx],by simp[ent14],Ints.nil _ _ _,Ints.nil _ _ _,Ints.nil _ _ _,(by intro x hx;cases hx),(by intro x hx;cases hx),(by intro x hx;cases hx),by simp[ent14,noOx]⟩
theorem lit14_3 (w:World):∃W,w.alloc (.cells #[.int .i64 0,.int .u64 3,.int .u64 0,.int .i64 0,.int .i64 0,.bool false,.int .u64 0,.slice none 0 0,.slice none 0 0,.slice none 0 0,.int .i64 18,.int .u64 0,.int .u64 0,.int .i64 0,.int .i64 0,.bool false,.int .u64 0,.slice none 0 0,.slice none 0 0,.slice none 0 0,.int .i64 0,.int .u64 4,.int .u64 0,.int .i64 0,.int .i64 0,.bool false,.int .u64 0,.slice none 0 0,.slice none 0 0,.slice none 0 0] 34)=W∧Below w.heap.size w W∧Acts W (some ⟨w.heap.size,0,none⟩) [ent14 0 3,ent14 18 0,ent14 0 4]∧AllIn W [ent14 0 3,ent14 18 0,ent14 0 4]:=by
 refine⟨_,rfl,below_alloc _ _,acts_box (BoxL.new w (actCells [ent14 0 3,ent14 18 0,ent14 0 4]) 34),fun g hg=>?_⟩
 simp only[List.mem_cons,List.not_mem_nil,or_false]at hg
 rcases hg with rfl|rfl|rfl<;>exact ent14_in _ _ _ (by decide) (by decide)
theorem lit14_1 (w:World) (T A:Int) (hT : 0≤T∧T≤100) (hA : 0≤A∧A≤100):∃W,w.alloc (.cells #[.int .i64 T,.int .u64 A,.int .u64 0,.int .i64 0,.int .i64 0,.bool false,.int .u64 0,.slice none 0 0,.slice none 0 0,.slice none 0 0] 34)=W∧Below w.heap.size w W∧Acts W (some ⟨w.heap.size,0,none⟩) [ent14 T A]∧AllIn W [ent14 T A]:=by
 refine⟨_,rfl,below_alloc _ _,acts_box (BoxL.new w (actCells [ent14 T A]) 34),fun g hg=>?_⟩
 rw[List.mem_singleton.1 hg]
 exact ent14_in _ _ _ hT hA
theorem lit14_2 (w:World):Acts (w.alloc (.cells #[.int .i64 18,.int .u64 0,.int .u64 0,.int .i64 0,.int .i64 0,.bool false,.int .u64 0,.slice none 0 0,.slice none 0 0,.slice none 0 0,.int .i64 0,.int .u64 4,.int .u64 0,.int .i64 0,.int .i64 0,.bool false,.int .u64 0,.slice none 0 0,.slice none 0 0,.slice none 0 0] 34)) (some ⟨w.heap.size,0,none⟩) [ent14 18 0,ent14 0 4]:=
 acts_box (BoxL.new w (actCells [ent14 18 0,ent14 0 4]) 34)
theorem lit14_2in (w:World):AllIn w [ent14 18 0,ent14 0 4]:=by
 intro g hg
 simp only[List.mem_cons,List.not_mem_nil,or_false]at hg
 rcases hg with rfl|rfl<;>exact ent14_in _ _ _ (by decide) (by decide)
set_option maxHeartbeats 4000000 in
theorem sure14_any (w:World):Calls Try.prog 6 #[] w fun e w'=>e = .returned (.bool true)∧Below w.heap.size w w':=by
 obtain⟨W1,hW1,hbW1,hA1,hI1⟩:=lit14_3 w
 have HW1:=hid hW1
 have HB1:=hid hbW1
 have G1:=hid (actsetWrite_any W1 none (some ⟨w.heap.size,0,none⟩) 0 3 [] [ent14 0 3,ent14 18 0,ent14 0 4] (Acts.nil _ _) (AllIn.nil _) hA1 hI1 (by decide) (by decide))
 clear hW1 hbW1 hA1 hI1
 go_enter Try.func6,Try.ntmps6
 go_wp2_with fail
 rw[HW1.out]
 refine G1.out.mono ?_
 rintro e w1 ⟨M1,sa,sc,q,rfl,hb1,hA,hI,hl,hlc,hc63,hw⟩
 rw[show write14 (List.map Ent12.act []) (List.map Ent12.act [ent14 0 3,ent14 18 0,ent14 0 4]) = .ok [a14 18 0,a14 0 4] from s14_1]at hw
 obtain⟨hM1,rfl⟩:M1.map Ent12.act = [a14 18 0,a14 0 4]∧q=0:=by
  rcases hw with⟨h,h2⟩|⟨h,_⟩
  · injection h with h;exact⟨h.symm,h2⟩
  · cases h
 have hl1:M1.length=2:=by have:=congrArg List.length hM1;rwa [List.length_map]at this
 have HB2:=hid (below_on HB1.out hb1)
 obtain⟨W2,hW2,hbW2,hA2,hI2⟩:=lit14_1 w1 22 9 (by decide) (by decide)
 have HW2:=hid hW2
 have HB3:=hid (below_on HB2.out hbW2)
 have G2:=hid (actsetWrite_any W2 sa (some ⟨w1.heap.size,0,none⟩) sc 1 M1 [ent14 22 9] (hA.below hbW2) (hI.below hbW2) hA2 hI2 (by omega) (by decide))
 rw[hl1]at G2 ⊢
 have H1:=hid (And.intro hA (And.intro hI (And.intro hM1 hl1)))
 have HBW2:=hid hbW2
 have hsc:(2:Int)≤(sc:Int):=by omega
 clear hW2 hbW2 hA2 hI2 hb1 hA hI hl hlc hw hM1 hl1
 go_wp2_with fail
 rw[HW2.out]
 refine G2.out.mono ?_
 rintro e w2 ⟨M2,ta,tc,q,rfl,hb2,hA,hI,hl,hlc,hc632,hw⟩
 rw[H1.out.2.2.1,show List.map Ent12.act [ent14 22 9] = [a14 22 9] from rfl,s14_2]at hw
 obtain⟨hM2,rfl⟩:M2.map Ent12.act = [a14 18 0,a14 22 9,a14 0 4]∧q=0:=by
  rcases hw with⟨h,h2⟩|⟨h,_⟩
  · injection h with h;exact⟨h.symm,h2⟩
  · cases h
 have hl2:M2.length=3:=by have:=congrArg List.length hM2;rwa [List.length_map]at this
 have HB4:=hid (below_on HB3.out hb2)
 obtain⟨W3,hW3,hbW3,hA3,hI3⟩:=lit14_1 w2 0 0 (by decide) (by decide)
 have HW3:=hid hW3
 have HB5:=hid (below_on HB4.out hbW3)
 have G3:=hid (actsetWrite_any W3 none (some ⟨w2.heap.size,0,none⟩) 0 1 [] [ent14 0 0] (Acts.nil _ _) (AllIn.nil _) hA3 hI3 (by decide) (by decide))
 rw[hl2]at hlc ⊢
 have H2:=hid (And.intro hA (And.intro hI (And.intro hM2 hl2)))
 have HBW3:=hid hbW3
 have HBB:=hid (below_on HBW2.out hb2)
 have htc:(3:Int)≤(tc:Int):=by omega
 clear hW3 hbW3 hA3 hI3 hb2 hA hI hl hw hM2 hl2 hlc
 go_wp2_with fail
 rw[HW3.out]
 refine G3.out.mono ?_
 rintro e w3 ⟨M3,ua,uc,q,rfl,hb3,-,-,-,-,-,hw⟩
 rw[show write14 (List.map Ent12.act []) (List.map Ent12.act [ent14 0 0]) = .error 10001 from s14_3]at hw
 obtain⟨rfl,rfl⟩:q=10001∧M3 = []:=by
  rcases hw with⟨h,_⟩|⟨_,h1,h2⟩
  · cases h
  · exact⟨h1,h2⟩
 have HB6:=hid (below_on HB5.out hb3)
 have HB7:=hid (below_on HBW3.out hb3)
 have HB8:=hid (below_on HBB.out HB7.out)
 clear hb3
 have hA1:=H1.out.1.below HB8.out
 have hI1:=H1.out.2.1.below HB8.out
 have hA2:=H2.out.1.below HB7.out
 have hI2:=H2.out.2.1.below HB7.out
 have HSA:=hid (fun (V:World) (b c':Nat) (hV:Below w3.heap.size w3 V) (hb:Acts V (some ⟨b,0,none⟩) [ent14 18 0,ent14 0 4])=>refSame13_any M1 [ent14 18 0,ent14 0 4] sa (some ⟨b,0,none⟩) sc c' V (hA1.below hV) hb (hI1.below hV) (lit14_2in V) (by rw[H1.out.2.2.2];decide) (by decide))
 rw[H1.out.2.2.1,H1.out.2.2.2]at HSA
 have HPL:=hid (fun (V:World) (hV:Below w3.heap.size w3 V)=>plan14_any V ta tc M2 (hA2.below hV) (hI2.below hV) (by rw[H2.out.2.2.2];decide) (by rw[H2.out.2.2.2];omega))
 rw[H2.out.2.2.1,H2.out.2.2.2]at HPL
 have hlt2:(M2.take 2).length=2:=by rw[List.length_take,H2.out.2.2.2];rfl
 have HSB:Hid (∀(V:World) (M:List Ent12) (va:Option Addr) (vc:Nat),Below w3.heap.size w3 V→Acts V va M→AllIn V M→M.map Ent12.act=plan14 [a14 18 0,a14 22 9,a14 0 4]→Calls Try.prog 8 #[.slice va M.length vc,.slice ta 2 tc] V fun e w'=>e = .returned (.bool true)∧Below V.heap.size V w'):=by
  show ∀_,_
  intro V M va vc hV hM hMI hm
  have h:=refSame13_any M (M2.take 2) va ta vc tc V hM ((hA2.take 2).below hV) hMI (fun g hg=>(hI2 g (List.mem_of_mem_take hg)).below hV) (by have:=congrArg List.length hm;rw[s14_4,List.length_map]at this;rw[this];decide) (by rw[hlt2];decide)
  rw[hlt2,List.map_take,H2.out.2.2.1,hm,s14_4,show decide ([a14 18 0,a14 22 9]=List.take 2 [a14 18 0,a14 22 9,a14 0 4])=true from decide_eq_true rfl]at h
  exact h
 have HD1:=hid (fun (V:World) (hV:Below w3.heap.size w3 V)=>drops14_any V sa sc M1 (hA1.below hV) (hI1.below hV) (by rw[H1.out.2.2.2];decide))
 rw[H1.out.2.2.1,H1.out.2.2.2,s14_5]at HD1
 have hlt1:(M1.take 1).length=1:=by rw[List.length_take,H1.out.2.2.2];rfl
 have HD2:=hid (fun (V:World) (hV:Below w3.heap.size w3 V)=>drops14_any V sa sc (M1.take 1) ((hA1.take 1).below hV) (fun g hg=>(hI1 g (List.mem_of_mem_take hg)).below hV) (by rw[hlt1];decide))
 rw[hlt1,List.map_take,H1.out.2.2.1,show [a14 18 0,a14 0 4].take 1 = [a14 18 0] from rfl,s14_6]at HD2
 have hd1:decide ([a14 18 0,a14 0 4]=List.map Ent12.act [ent14 18 0,ent14 0 4])=true:=decide_eq_true rfl
 rw[hd1,show [ent14 18 0,ent14 0 4].length=2 from rfl]at HSA
 clear hw hA1 hI1 hA2 hI2 hlt1 hlt2 hd1
 go_upto_region 4 with fail
 have hs1:(1:Int)≤(sc:Int):=by omega
 have hs2:(2:Int)≤(tc:Int):=by omega
 go_region_held3 (fun _=>True) (trivial) ((first
  | (go_at_call 8;(with_reducible refine (HSA.out _ _ _ ?_ ?_).mono ?_);((repeat (first|with_reducible exact hq4|with_reducible exact hq3|with_reducible exact hq2|with_reducible exact hq1|with_reducible exact Below.refl _ _|with_reducible refine below_drw ?_|with_reducible refine below_alc ?_)));(first|exact lit14_2 _|exact (lit14_2 _).below (below_drew8 _)|fail);rintro e w4 ⟨rfl,hb4⟩;have hq1:Below w3.heap.size w3 w4:=below_on (by ((repeat (first|with_reducible exact hq4|with_reducible exact hq3|with_reducible exact hq2|with_reducible exact hq1|with_reducible exact Below.refl _ _|with_reducible refine below_drw ?_|with_reducible refine below_alc ?_)))) hb4)
  | (go_at_call 10;(with_reducible refine (HPL.out _ ?_).mono ?_);((repeat (first|with_reducible exact hq4|with_reducible exact hq3|with_reducible exact hq2|with_reducible exact hq1|with_reducible exact Below.refl _ _|with_reducible refine below_drw ?_|with_reducible refine below_alc ?_)));rintro e w5 ⟨M,va,vc,rfl,hb5,hM,hMI,hm⟩;have hq2:Below w3.heap.size w3 w5:=below_on (by ((repeat (first|with_reducible exact hq4|with_reducible exact hq3|with_reducible exact hq2|with_reducible exact hq1|with_reducible exact Below.refl _ _|with_reducible refine below_drw ?_|with_reducible refine below_alc ?_)))) hb5)
  | (go_at_call 8;(with_reducible refine (HSB.out _ M va vc ?_ hM hMI hm).mono ?_);((repeat (first|with_reducible exact hq4|with_reducible exact hq3|with_reducible exact hq2|with_reducible exact hq1|with_reducible exact Below.refl _ _|with_reducible refine below_drw ?_|with_reducible refine below_alc ?_)));rintro e w6 ⟨rfl,hb6⟩;have hq3:Below w3.heap.size w3 w6:=below_on (by ((repeat (first|with_reducible exact hq4|with_reducible exact hq3|with_reducible exact hq2|with_reducible exact hq1|with_reducible exact Below.refl _ _|with_reducible refine below_drw ?_|with_reducible refine below_alc ?_)))) hb6)
  | (go_at_call 13;(with_reducible refine (HD1.out _ ?_).mono ?_);((repeat (first|with_reducible exact hq4|with_reducible exact hq3|with_reducible exact hq2|with_reducible exact hq1|with_reducible exact Below.refl _ _|with_reducible refine below_drw ?_|with_reducible refine below_alc ?_)));rintro e w7 ⟨rfl,hb7⟩;have hq4:Below w3.heap.size w3 w7:=below_on (by ((repeat (first|with_reducible exact hq4|with_reducible exact hq3|with_reducible exact hq2|with_reducible exact hq1|with_reducible exact Below.refl _ _|with_reducible refine below_drw ?_|with_reducible refine below_alc ?_)))) hb7)
  | (go_at_call 13;(with_reducible refine (HD2.out _ ?_).mono ?_);((repeat (first|with_reducible exact hq4|with_reducible exact hq3|with_reducible exact hq2|with_reducible exact hq1|with_reducible exact Below.refl _ _|with_reducible refine below_drw ?_|with_reducible refine below_alc ?_)));rintro e w8 ⟨rfl,hb8⟩;have hq5:Below w3.heap.size w3 w8:=below_on (by ((repeat (first|with_reducible exact hq4|with_reducible exact hq3|with_reducible exact hq2|with_reducible exact hq1|with_reducible exact Below.refl _ _|with_reducible refine below_drw ?_|with_reducible refine below_alc ?_)))) hb8)
  | fail))
 all_goals
  go_wp2_with fail
 exact bodyPost_ret (v:=.bool true) (by simp[results,Try.results6,go_sem]) rfl ⟨rfl,below_on HB6.out hq5⟩
end Go.Proofs.Ythpdkancighknaa
namespace Go.Proofs.Ythpdkancighknaa
open Go.ChangeShapes Go.WideShapes Go.RowKit Go.Deep
set_option linter.unusedVariables false
set_option maxRecDepth 100000
section
variable {H:Type} {enc:TypeId × Value→H} {w:World} {base:Nat} {held:Bool}
def IsActsC (w:World) (a:Option Addr) (len cap:Nat):Prop:=len≤cap∧cap≤9223372036854775807∧IsActs w a len
end
end Go.Proofs.Ythpdkancighknaa
namespace Go.Proofs.Ythpdkancighknaa
open Go.RowKit
set_option linter.unusedVariables false
set_option maxRecDepth 100000
theorem FreshA.two (w:World) (g h:Ent12):FreshA w (w.alloc (.cells (g.cs++h.cs).toArray 34)) (.slice (some ⟨w.heap.size,0,none⟩) 2 2) 2 [g,h]:=by
 have e:actCells [g,h]=g.cs++h.cs:=by simp[actCells]
 refine⟨⟨by rw[actCells_length];rfl,.inr ⟨w.heap.size,2,_,rfl,Nat.zero_le _,heap_alloc_new w _,Nat.le_refl _,by unfold maxLen;omega,by simp[g.cs_length,h.cs_length],?_⟩⟩,below_alloc _ _,by intro k hk;simp[Value.ownBlock]at hk;omega⟩
 rw[List.toList_toArray,e]
 exact List.take_of_length_le (by simp[g.cs_length,h.cs_length])
theorem run_app_actsL {ty:TypeId} {w0 w:World} {v:Value} {n:Nat} {D:List Ent12} (hf:FreshA w0 w v n D) {sa:Option Addr} {c:Nat} {l:List Ent12} (hO:Acts w sa l) (hb:(n+l.length)*128≤140737488355328):
 ∃va' vc' w',(Builtin.append_ #[22,22] ty #[v,.slice sa l.length c]).run Try.prog w = .ok (.slice va' (n+l.length) vc') w'∧FreshA w0 w' (.slice va' (n+l.length) vc') (n+l.length) (D++l):=by
 obtain⟨va,vc,rfl⟩:=own_shape12 hf.own
 cases sa with
 | none=>
   have:l = []:=by
    cases l with
    | nil=>rfl
    | cons x r=>obtain⟨b,off,e,_⟩:=hO 0 (by simp);cases e
   subst this
   obtain⟨_,hn,_,_⟩:=hf.list
   rw[List.append_nil]
   exact⟨va,vc,w,run_app_none12 hn,hf⟩
 | some ad=>
   obtain⟨v',w',hr,hg⟩:=run_app_many (P:=Try.prog) (ty:=ty) elemAct hf.own ad l.length c (actCells l) (actCells_length l) (acts_cells hO) (act_flat l) (by omega) (by omega)
   obtain⟨va',vc',rfl⟩:=own_shape12 hg.own
   rw[←actCells_append]at hg
   exact⟨va',vc',w',hr,hf.step hg⟩
theorem wp_app_actsL {w0 w:World} {ops:Array Oper} {rest:List Oper} {o:Oper} {a:Act} {Q:Exit→Act→World→Prop} (hgd:o.guard=none) (s x:Operand)
 (ho:o.op = .call { callee:=.builtin .append,args:=#[s,x],argTypes:=#[22,22] }) {v:Value} {n:Nat} {D:List Ent12} (hf:FreshA w0 w v n D) (hs:a.eval s=v)
 {sa:Option Addr} {m c:Nat} {l:List Ent12} (hx:a.eval x = .slice sa m c) (hm:l.length=m) (hO:Acts w sa l) (hb:(n+m)*128≤140737488355328) {N:Nat} (hN:n+m=N)
 (h:∀va' vc' w',FreshA w0 w' (.slice va' N vc') N (D++l)→wpList Try.prog ops Q rest (a.put o.dst (.slice va' N vc')) w'):wpList Try.prog ops Q (o::rest) a w:=by
 subst hm
 subst hN
 refine wpList_plain hgd fun K hK=>?_
 obtain⟨va',vc',w',hr,hg⟩:=run_app_actsL (ty:=o.type) (c:=c) hf hO hb
 unfold Oper.wp execOp
 simp only[ho,resolve,invoke,builtin,Sem.run_bind,Sem.run_pure,Result.andThen_ok,List.map_toArray,List.map_cons,List.map_nil,hs,hx,hr]
 exact hK _ _ (h va' vc' w' hg)
theorem may_swap {A B:Act12}:[A,B].all may14 = [B,A].all may14:=by simp[Bool.and_comm]
theorem write_swap {S:List Act12} {A B:Act12} (h:A.T≠B.T):write14 S [A,B]=write14 S [B,A]:=by
 unfold write14
 rw[may_swap]
 split
 · rename_i k
   have hs:=(right_iff14.1 k.1).2
   have hp:place14 B A=false:=by
    cases e:place14 B A
    · rfl
    · rw[place_iff]at e;exact absurd e.1.symm h
   show Except.ok (put14 B (put14 A S))=Except.ok (put14 A (put14 B S))
   rw[put_swap hs hp]
 · rfl
theorem write_both {S:List Act12} {A B:Act12}:(∃x y,write14 S [A,B] = .ok x∧write14 S [B,A] = .ok y)∨(write14 S [A,B] = .error 10001∧write14 S [B,A] = .error 10001):=by
 unfold write14
 rw[may_swap]
 split
 · exact .inl ⟨_,_,rfl,rfl⟩
 · exact .inr ⟨rfl,rfl⟩
theorem plan_step {X:List Act12} (h:right14 X=true) {i:Nat} (hi:i<(plan14 X).length) (h0 : 0<i):rank14 ((plan14 X)[i-1]'(by omega))≤rank14 (plan14 X)[i]:=
 rank_rise (List.pairwise_iff_getElem.1 (plan_rises h) (i-1) i (by omega) hi (by omega))
theorem boxes14 (w:World) (g h:Ent12):∃W,(w.alloc (.cells #[.int .i64 g.T,.int .u64 g.A,.int .u64 g.B,.int .i64 g.o.C,.int .i64 g.o.F,.bool g.o.H,.int .u64 g.o.X,.slice g.va g.o.v.length g.vc,.slice g.ma g.o.m.length g.mc,.slice g.da g.d.length g.dc] 34)).alloc (.cells #[.int .i64 h.T,.int .u64 h.A,.int .u64 h.B,.int .i64 h.o.C,.int .i64 h.o.F,.bool h.o.H,.int .u64 h.o.X,.slice h.va h.o.v.length h.vc,.slice h.ma h.o.m.length h.mc,.slice h.da h.d.length h.dc] 34)=W∧Below w.heap.size w W∧BoxL W w.heap.size g.cs∧BoxL W (w.heap.size+1) h.cs:=
 two_act w g.T g.A g.B g.o.C g.o.F g.o.H g.o.X g.va g.o.v.length g.vc g.ma g.o.m.length g.mc g.da g.d.length g.dc h.T h.A h.B h.o.C h.o.F h.o.H h.o.X h.va h.o.v.length h.vc h.ma h.o.m.length h.mc h.da h.d.length h.dc
theorem pair14 (w:World) (g h:Ent12):∃W,w.alloc (.cells #[.int .i64 g.T,.int .u64 g.A,.int .u64 g.B,.int .i64 g.o.C,.int .i64 g.o.F,.bool g.o.H,.int .u64 g.o.X,.slice g.va g.o.v.length g.vc,.slice g.ma g.o.m.length g.mc,.slice g.da g.d.length g.dc,.int .i64 h.T,.int .u64 h.A,.int .u64 h.B,.int .i64 h.o.C,.int .i64 h.o.F,.bool h.o.H,.int .u64 h.o.X,.slice h.va h.o.v.length h.vc,.slice h.ma h.o.m.length h.mc,.slice h.da h.d.length h.dc] 34)=W∧Below w.heap.size w W∧FreshA w W (.slice (some ⟨w.heap.size,0,none⟩) 2 2) 2 [g,h]:=
 ⟨_,rfl,below_alloc _ _,FreshA.two w g h⟩
set_option maxHeartbeats 4000000 in
theorem ActsetFree_few (l:List Ent12) (g h:Ent12) (la:Option Addr) (lc:Nat) (w:World) (hL:Acts w la l) (hll:(l.length+2)*128≤140737488355328) (hf:few13 (g::h::l)=false):
 Calls Try.prog 4 #[.slice la l.length lc,g.val,h.val] w fun e w'=>e = .returned (.bool true)∧Below w.heap.size w w':=by
 obtain⟨W,hW,hbW,hx,hy⟩:=boxes14 w g h
 obtain⟨V,hV,hbV,hF⟩:=pair14 W g h
 have HW:=hid hW
 have HV:=hid hV
 have HB:=hid hbW
 have HF:=hid hF
 have HL:=hid (hL.below (below_on hbW hbV))
 have HS:=hid (fun V=>sure14_any V)
 have HFE:=hid hf
 obtain⟨d0,d1,d2,d3,d4,d5,d6,d7,d8,d9⟩:=hx.ten
 obtain⟨e0,e1,e2,e3,e4,e5,e6,e7,e8,e9⟩:=hy.ten
 obtain⟨N,hN⟩:∃n,l.length=n:=⟨_,rfl⟩
 have HN:=hid hN
 rw[hN]at hll ⊢
 unfold Ent12.val
 clear hW hV hbW hF hL hf hN hbV hx hy
 go_enter Try.func4,Try.ntmps4
 go_upto_region 1 with fail
 rw[HW.out]
 go_wp2_with (first
  | (at_builtin;rw[HV.out];refine wp_app_actsL rfl _ _ rfl HF.out rfl rfl HN.out HL.out (by omega) rfl ?_;intro va' vc' w6 hF6;have HF6:=hid hF6;clear hF6)
  | fail)
 have hlist:=HF6.out.list
 have HFW:=few13_any ([g,h]++l) va' vc' w6 hlist.2.2.2 (by rw[hlist.1];omega)
 rw[hlist.1,show [g,h]++l=g::h::l from rfl,HFE.out]at HFW
 have HFW:=hid HFW
 clear hlist d0 d1 d2 d3 d4 d5 d6 d7 d8 d9 e0 e1 e2 e3 e4 e5 e6 e7 e8 e9
 refine HFW.out.mono ?_
 rintro e w7 ⟨rfl,hb7⟩
 have HB7:=hid (below_on (below_on HB.out HF6.out.bel) hb7)
 clear hb7
 go_wp2_with fail
 refine (HS.out _).mono ?_
 rintro e w8 ⟨rfl,hb8⟩
 have HB8:=hid (below_on HB7.out hb8)
 clear hb8
 go_wp2_with fail
 go_ret
 exact⟨rfl,HB8.out⟩
theorem write_ways {S L:List Act12} {M:List Ent12} {q:Int} (h:(write14 S L = .ok (M.map Ent12.act)∧q=0)∨(write14 S L = .error 10001∧q=10001∧M = [])):right14 (M.map Ent12.act)=true∧M.length≤51:=by
 rcases h with⟨h,_⟩|⟨_,_,rfl⟩
 · obtain⟨_,_,_,hr⟩:=write_ok14 h
   have:=set_few hr
   rw[List.length_map]at this
   exact⟨hr,this⟩
 · exact⟨rfl,by simp⟩
set_option maxHeartbeats 8000000 in
theorem ActsetFree_main (l:List Ent12) (g h:Ent12) (la:Option Addr) (lc:Nat) (w:World) (hL:Acts w la l) (hLI:AllIn w l) (hG:ActIn w g) (hH:ActIn w h) (hll:l.length≤80) (hf:few13 (g::h::l)=true):
 Calls Try.prog 4 #[.slice la l.length lc,g.val,h.val] w fun e w'=>e = .returned (.bool true)∧Below w.heap.size w w':=by
 obtain⟨W,hW,hbW,hx,hy⟩:=boxes14 w g h
 obtain⟨V,hV,hbV,hF⟩:=pair14 W g h
 have HW:=hid hW
 have HV:=hid hV
 have HB:=hid hbW
 have HF:=hid hF
 have HLW:=hid (hL.below (below_on hbW hbV))
 have HL:=hid (And.intro hL hLI)
 have HGH:=hid (And.intro hG hH)
 have HS:=hid (fun V=>sure14_any V)
 have HFE:=hid hf
 have HXY:=hid (And.intro hx hy)
 obtain⟨d0,d1,d2,d3,d4,d5,d6,d7,d8,d9⟩:=hx.ten
 obtain⟨e0,e1,e2,e3,e4,e5,e6,e7,e8,e9⟩:=hy.ten
 obtain⟨N,hN⟩:∃n,l.length=n:=⟨_,rfl⟩
 have HN:=hid hN
 rw[hN]at hll ⊢
 unfold Ent12.val
 clear hW hV hbW hF hL hf hN hbV hx hy hLI hG hH
 go_enter Try.func4,Try.ntmps4
 go_upto_region 1 with fail
 rw[HW.out]
 go_wp2_with (first
  | (at_builtin;rw[HV.out];refine wp_app_actsL rfl _ _ rfl HF.out rfl rfl HN.out HLW.out (by omega) rfl ?_;intro va' vc' w1 hF1;have HF1:=hid hF1;clear hF1)
  | fail)
 have hlist:=HF1.out.list
 have HFW:=few13_any ([g,h]++l) va' vc' w1 hlist.2.2.2 (by rw[hlist.1];omega)
 rw[hlist.1,show [g,h]++l=g::h::l from rfl,HFE.out]at HFW
 have HFW:=hid HFW
 clear hlist d0 d1 d2 d3 d4 d5 d6 d7 d8 d9 e0 e1 e2 e3 e4 e5 e6 e7 e8 e9
 refine HFW.out.mono ?_
 rintro e w2 ⟨rfl,hb2⟩
 have HB2:=hid (below_on HF1.out.bel hb2)
 have HB02:=hid (below_on HB.out HB2.out)
 have W1:=hid (actsetWrite_any w2 none la 0 lc [] l (Acts.nil _ _) (AllIn.nil _) (HL.out.1.below HB02.out) (HL.out.2.below HB02.out) (by simp) (by have:=HN.out;omega))
 simp only[List.map_nil,List.length_nil]at W1
 rw[HN.out]at W1
 clear hb2 HF1 HLW HF HV
 go_wp2_with fail
 refine W1.out.mono ?_
 rintro e w3 ⟨s,sa,sc,qe,rfl,hb3,hsA,hsI,-,-,-,hs⟩
 have HB3:=hid (below_on HB2.out hb3)
 have HSE:=hid hs
 have HSA:=hid (And.intro hsA hsI)
 have HSR:=hid (write_ways hs)
 clear hb3 hsA hsI hs W1
 obtain⟨d0,d1,d2,d3,d4,d5,d6,d7,d8,d9⟩:=(HXY.out.1.below HB3.out).ten
 obtain⟨e0,e1,e2,e3,e4,e5,e6,e7,e8,e9⟩:=(HXY.out.2.below HB3.out).ten
 obtain⟨V4,hV4,hbV4,hF4⟩:=pair14 w3 g h
 have HV4:=hid hV4
 have HB4:=hid (below_on HB3.out hbV4)
 have hl4:=hF4.list
 have W2:=hid (actsetWrite_any V4 sa (some ⟨w3.heap.size,0,none⟩) sc 2 s [g,h] (HSA.out.1.below hbV4) (HSA.out.2.below hbV4) hl4.2.2.2 (fun y hy=>by
  rcases List.mem_cons.1 hy with rfl|hy
  · exact (HGH.out.1.below HB.out).below HB4.out
  · rw[List.mem_singleton.1 hy];exact (HGH.out.2.below HB.out).below HB4.out) (by have:=HSR.out.2;omega) (by simp))
 have HB34:=hid hbV4
 clear hV4 hbV4 hF4 hl4
 go_wp2_with fail
 rw[HV4.out]
 refine W2.out.mono ?_
 rintro e w4 ⟨x,xa,xc,qf,rfl,hb4,hxA,hxI,-,hxc,hx63,hx⟩
 have HB5:=hid (below_on HB4.out hb4)
 have HB35:=hid (below_on HB34.out hb4)
 have HXE:=hid hx
 have HXA:=hid (And.intro hxA hxI)
 have HXR:=hid (write_ways hx)
 clear hb4 hxA hxI hx W2 d0 d1 d2 d3 d4 d5 d6 d7 d8 d9 e0 e1 e2 e3 e4 e5 e6 e7 e8 e9
 obtain⟨d0,d1,d2,d3,d4,d5,d6,d7,d8,d9⟩:=(HXY.out.1.below HB5.out).ten
 obtain⟨e0,e1,e2,e3,e4,e5,e6,e7,e8,e9⟩:=(HXY.out.2.below HB5.out).ten
 obtain⟨V5,hV5,hbV5,hF5⟩:=pair14 w4 h g
 have HV5:=hid hV5
 have HB6:=hid (below_on HB5.out hbV5)
 have HB36:=hid (below_on HB35.out hbV5)
 have hl5:=hF5.list
 have W3:=hid (actsetWrite_any V5 sa (some ⟨w4.heap.size,0,none⟩) sc 2 s [h,g] (HSA.out.1.below HB36.out) (HSA.out.2.below HB36.out) hl5.2.2.2 (fun y hy=>by
  rcases List.mem_cons.1 hy with rfl|hy
  · exact (HGH.out.2.below HB.out).below HB6.out
  · rw[List.mem_singleton.1 hy];exact (HGH.out.1.below HB.out).below HB6.out) (by have:=HSR.out.2;omega) (by simp))
 have HB56:=hid hbV5
 clear hV5 hbV5 hF5 hl5
 go_wp2_with fail
 rw[HV5.out]
 refine W3.out.mono ?_
 rintro e w5 ⟨y,ya,yc,qg,rfl,hb5,hyA,hyI,-,-,-,hy⟩
 have HB7:=hid (below_on HB6.out hb5)
 have HX7:=hid (And.intro (HXA.out.1.below (below_on HB56.out hb5)) (HXA.out.2.below (below_on HB56.out hb5)))
 have HY7:=hid (And.intro hyA hyI)
 have hyl:=(write_ways hy).2
 have hxl:=HXR.out.2
 have hqe:(qe=0∧write14 [] (l.map Ent12.act) = .ok (s.map Ent12.act))∨(qe=10001∧s = []):=by
  rcases HSE.out with⟨a,b⟩|⟨a,b,c⟩
  · exact .inl ⟨b,a⟩
  · exact .inr ⟨b,c⟩
 have hxy:qf=qg∧(g.T≠h.T→x.map Ent12.act=y.map Ent12.act):=by
  have hx:=HXE.out
  have e1:List.map Ent12.act [g,h] = [g.act,h.act]:=rfl
  have e2:List.map Ent12.act [h,g] = [h.act,g.act]:=rfl
  rw[e1]at hx
  rw[e2]at hy
  rcases write_both (S:=s.map Ent12.act) (A:=g.act) (B:=h.act) with⟨u,v,k1,k2⟩|⟨k1,k2⟩
  · rcases hx with⟨a1,a2⟩|⟨a1,_,_⟩
    · rcases hy with⟨b1,b2⟩|⟨b1,_,_⟩
      · refine⟨by rw[a2,b2],fun hT=>?_⟩
        have:=write_swap (S:=s.map Ent12.act) (A:=g.act) (B:=h.act) hT
        rw[a1,b1]at this
        injection this
      · rw[k2]at b1;cases b1
    · rw[k1]at a1;cases a1
  · rcases hx with⟨a1,_⟩|⟨_,a2,a3⟩
    · rw[k1]at a1;cases a1
    · rcases hy with⟨b1,_⟩|⟨_,b2,b3⟩
      · rw[k2]at b1;cases b1
      · exact⟨by rw[a2,b2],fun _=>by rw[a3,b3]⟩
 obtain⟨rfl,hsame⟩:=hxy
 have HSAME:=hid hsame
 clear hb5 hyA hyI hy hsame W3 d0 d1 d2 d3 d4 d5 d6 d7 d8 d9 e0 e1 e2 e3 e4 e5 e6 e7 e8 e9 HSE HXE HSA
 rcases hqe with⟨rfl,-⟩|⟨rfl,rfl⟩
 · obtain ⟨d0, -⟩:=(HXY.out.1.below HB7.out).ten
   obtain⟨e0,-⟩:=(HXY.out.2.below HB7.out).ten
   have HSM:=refSame13_any x y xa ya xc yc w5 HX7.out.1 HY7.out.1 HX7.out.2 HY7.out.2 (by omega) (by omega)
   have HSM:=hid HSM
   go_upto_region 8 with fail
   go_cut [69] (fun c wx=>c = .bool false∧Hid (Below w5.heap.size w5 wx))
   case first=>
    by_cases hT:g.T=h.T
    · have hTb:(g.T != h.T)=false:=by simp[hT]
      clear hT
      go_wp2_with fail
      go_meet
      exact⟨rfl,Below.refl _ _⟩
    · have hTb:(g.T != h.T)=true:=by simp[hT]
      have hd:decide (x.map Ent12.act=y.map Ent12.act)=true:=decide_eq_true (HSAME.out hT)
      have HSM2:=HSM.out
      rw[hd]at HSM2
      have HSM2:=hid HSM2
      clear hT hd
      go_wp2_with fail
      refine HSM2.out.mono ?_
      rintro e w6 ⟨rfl,hb6⟩
      have HB8:=hid hb6
      clear hb6
      go_wp2_with fail
      go_meet
      exact⟨rfl,HB8.out⟩
   case rest=>
    obtain⟨rfl,hb8⟩:=hcut
    have HPL:=hid (plan14_any wc xa xc x (HX7.out.1.below hb8.out) (HX7.out.2.below hb8.out) (by omega) hxc)
    obtain⟨Nx,hNx⟩:∃n,x.length=n:=⟨_,rfl⟩
    have HNX:=hid hNx
    rw[hNx]at HPL hxc hxl ⊢
    have HB9:=hid (below_on HB7.out hb8.out)
    have HX9:=hid (HX7.out.1.below hb8.out)
    clear hNx HSM HSAME HY7 hyl
    apply_assumption
    go_wp2_with fail
    refine HPL.out.mono ?_
    rintro e w9 ⟨p,pa,pc,rfl,hb9,hpA,hpI,hp⟩
    have hple:=plan_less HXR.out.1
    have hpl:=congrArg List.length hp
    rw[List.length_map]at hpl
    rw[←hpl,List.length_map,HNX.out]at hple
    have HP:=hid (And.intro hpA hpI)
    have HPE:=hid hp
    have HB10:=hid (below_on HB9.out hb9)
    have HX10:=hid (HX9.out.below hb9)
    obtain⟨Np,hNp⟩:∃n,p.length=n:=⟨_,rfl⟩
    have HNP:=hid hNp
    rw[hNp]at hple ⊢
    obtain⟨hple1,hple2⟩:=hple
    obtain⟨gr,hgr⟩:∃b,anyT 22 (x.map Ent12.act)=b:=⟨_,rfl⟩
    have HGR:=hid hgr
    clear hpA hpI hp hpl hNp hb9 HPL hgr
    go_wp2_with fail
    go_loopg [14,15] Nx (fun kx s14 s15 wr=>∃(k:Nat) (t:Bool),s14 = .bool t∧s15 = .int .i64 k∧k≤Nx∧Nx-k≤kx∧Hid (anyT 22 ((x.map Ent12.act).take k)=t)∧wr=w9)
    case atStart=>exact⟨0,false,rfl,rfl,by omega,by omega,rfl,rfl⟩
    case round =>
     obtain⟨k,t,rfl,rfl,hk,hkx,ht,rfl⟩:=hrel
     by_cases hlt:k<Nx
     · have hltz:(k:Int)<(Nx:Int):=by omega
       have hxk:k<x.length:=by have:=HNX.out;omega
       obtain⟨xb,xoff,rfl,-⟩:=HX10.out k hxk
       obtain⟨c0,-⟩:=HX10.out.ten k hxk
       have htk:=take_snoc14 x k hxk
       generalize x[k]=z at c0 htk
       obtain⟨u,hu⟩:∃u,(z.T==22)=u:=⟨_,rfl⟩
       have hn2:anyT 22 ((x.map Ent12.act).take (k+1))=(t||u):=by
        rw[htk]
        unfold anyT
        rw[List.any_append]
        have e:=ht.out
        unfold anyT at e
        rw[e,←hu]
        show (t||(z.T==22||false))=(t||z.T==22)
        rw[Bool.or_false]
       have HN2:=hid hn2
       clear hn2 htk
       cases t
       · go_wp2_with fail
         go_roundg (Nx-(k+1))
         case rel=>exact⟨k+1,u,rfl,by go_num,by omega,by omega,HN2.out,rfl⟩
         case measure=>omega
       · go_wp2_with fail
         go_roundg (Nx-(k+1))
         case rel=>exact⟨k+1,true,rfl,by go_num,by omega,by omega,HN2.out,rfl⟩
         case measure=>omega
     · have hge:(Nx:Int)≤(k:Int):=by omega
       obtain rfl:t=gr:=by
        have e:=ht.out
        rw[List.take_of_length_le (by rw[List.length_map];have:=HNX.out;omega),HGR.out]at e
        exact e.symm
       have HPT:Hid (t=true → ∀a∈p.map Ent12.act,a.T≠0):=by
        show _→_
        intro e a ha
        rw[HPE.out]at ha
        exact plan_free HXR.out.1 ha (by rw[←e];exact HGR.out)
       have HPS:Hid (∀(i:Nat) (hi:i<p.length) (h0 : 0<i),rankT (p[i-1]'(by omega)).T≤rankT p[i].T):=by
        show ∀_,_
        intro i hi h0
        have e:p.map Ent12.act=plan14 (x.map Ent12.act):=HPE.out
        have hi2:i<(plan14 (x.map Ent12.act)).length:=by rw[←e,List.length_map];exact hi
        have h:=plan_step HXR.out.1 hi2 h0
        simp only[←e,List.getElem_map]at h
        exact h
       clear ht
       obtain⟨w9,hw9⟩:∃x,x=wr:=⟨_,rfl⟩
       subst hw9
       go_wp2_with fail
       go_loopg [16] Np (fun kx s16 wr=>∃(k:Nat),s16 = .int .i64 k∧k≤Np∧Np-k≤kx∧Hid (Below w9.heap.size w9 wr))
       case atStart=>exact⟨0,rfl,by omega,by omega,Below.refl _ _⟩
       case round=>
        obtain⟨k,rfl,hk,hkx,hb⟩:=hrel
        by_cases hlt:k<Np
        · have hltz:(k:Int)<(Np:Int):=by omega
          have hpk:k<p.length:=by have:=HNP.out;omega
          obtain⟨pb,poff,rfl,-⟩:=HP.out.1 k hpk
          obtain⟨c0,c1,c2,c3,c4,c5,c6,c7,c8,c9⟩:=(HP.out.1.below hb.out).ten k hpk
          have hz0:t=true→(p[k].T==0)=false:=fun e=>by
           have:=HPT.out e p[k].act (List.mem_map_of_mem (List.getElem_mem hpk))
           exact beq_eq_false_iff_ne.2 this
          by_cases hk0:k=0
          · subst hk0
            obtain⟨z,hz⟩:∃z,p[0]=z:=⟨_,rfl⟩
            rw[hz]at c0 hz0
            simp only[Nat.zero_mul,Nat.add_zero]at c0
            clear c1 c2 c3 c4 c5 c6 c7 c8 c9 hz
            have hc0:=Wk.cell c0
            cases t
            · go_upto_region 19 with fail
              refine wp_region_wk (by kernel_rfl) (by kernel_rfl) ?_
              repeat (go_big_quiet_step (fail))
              refine wpQuiet_nil ?_
              rintro w11 ⟨⟨_,hb11⟩,rfl⟩
              have HB11:=hid (below_on hb.out hb11)
              clear hb11
              go_wp2_with fail
              go_roundg (Np-1)
              case rel=>exact⟨1,by go_num,by omega,by omega,HB11.out⟩
              case measure=>omega
            · have hzf:=hz0 rfl
              go_upto_region 19 with fail
              refine wp_region_wk (by kernel_rfl) (by kernel_rfl) ?_
              repeat (go_big_quiet_step (fail))
              refine wpQuiet_nil ?_
              rintro w11 ⟨⟨_,hb11⟩,rfl⟩
              have HB11:=hid (below_on hb.out hb11)
              clear hb11
              go_wp2_with fail
              go_roundg (Np-1)
              case rel=>exact⟨1,by go_num,by omega,by omega,HB11.out⟩
              case measure=>omega
          · have hkpos:(0:Int)<(k:Int):=by omega
            have hkd:decide ((0:Int)<(k:Int))=true:=decide_eq_true hkpos
            have hkn:decide (0<k)=true:=decide_eq_true (by omega)
            have hkm:((k:Int)-1).toNat=k-1:=by omega
            have hk1:(0:Int)≤(k:Int)-1:=by omega
            have hk2:(k:Int)-1<(Np:Int):=by omega
            have hpk1:k-1<p.length:=by omega
            obtain⟨e0,e1,e2,e3,e4,e5,e6,e7,e8,e9⟩:=(HP.out.1.below hb.out).ten (k-1) hpk1
            have hrk:=HPS.out k hpk (by omega)
            obtain⟨z,hz⟩:∃z,p[k]=z:=⟨_,rfl⟩
            obtain⟨y,hy⟩:∃y,p[k-1]=y:=⟨_,rfl⟩
            rw[hz]at c0 c1 c2 c3 c4 c5 c6 c7 c8 c9 hz0 hrk
            rw[hy]at e0 e1 e2 e3 e4 e5 e6 e7 e8 e9 hrk
            have hdr:decide (rankT z.T<rankT y.T)=false:=decide_eq_false (by omega)
            clear hz hy
            have HR1:=hid (fun j:Wk wr=>Wk.call (rankE_any z j.val))
            have HR2:=hid (fun j:Wk wr=>Wk.call (rankE_any y j.val))
            unfold Ent12.val at HR1 HR2
            obtain⟨r1,hr1⟩:∃r,rankT z.T=r:=⟨_,rfl⟩
            obtain⟨r2,hr2⟩:∃r,rankT y.T=r:=⟨_,rfl⟩
            rw[hr1]at HR1 hdr
            rw[hr2]at HR2 hdr
            clear hr1 hr2 hrk
            have d0:=Wk.cell c0
            have d1:=Wk.cell c1
            have d2:=Wk.cell c2
            have d3:=Wk.cell c3
            have d4:=Wk.cell c4
            have d5:=Wk.cell c5
            have d6:=Wk.cell c6
            have d7:=Wk.cell c7
            have d8:=Wk.cell c8
            have d9:=Wk.cell c9
            have u0:=Wk.cell e0
            have u1:=Wk.cell e1
            have u2:=Wk.cell e2
            have u3:=Wk.cell e3
            have u4:=Wk.cell e4
            have u5:=Wk.cell e5
            have u6:=Wk.cell e6
            have u7:=Wk.cell e7
            have u8:=Wk.cell e8
            have u9:=Wk.cell e9
            clear c0 c1 c2 c3 c4 c5 c6 c7 c8 c9 e0 e1 e2 e3 e4 e5 e6 e7 e8 e9
            cases t
            · go_upto_region 19 with fail
              refine wp_region_wk (by kernel_rfl) (by kernel_rfl) ?_
              repeat (go_big_quiet_step (first
               | (go_at_call 11;with_reducible exact HR1.out _)
               | (go_at_call 11;with_reducible exact HR2.out _)
               | fail))
              refine wpQuiet_nil ?_
              rintro w11 ⟨⟨_,hb11⟩,rfl⟩
              have HB11:=hid (below_on hb.out hb11)
              clear hb11
              go_wp2_with fail
              go_roundg (Np-(k+1))
              case rel=>exact⟨k+1,by go_num,by omega,by omega,HB11.out⟩
              case measure=>omega
            · have hzf:=hz0 rfl
              go_upto_region 19 with fail
              refine wp_region_wk (by kernel_rfl) (by kernel_rfl) ?_
              repeat (go_big_quiet_step (first
               | (go_at_call 11;with_reducible exact HR1.out _)
               | (go_at_call 11;with_reducible exact HR2.out _)
               | fail))
              refine wpQuiet_nil ?_
              rintro w11 ⟨⟨_,hb11⟩,rfl⟩
              have HB11:=hid (below_on hb.out hb11)
              clear hb11
              go_wp2_with fail
              go_roundg (Np-(k+1))
              case rel=>exact⟨k+1,by go_num,by omega,by omega,HB11.out⟩
              case measure=>omega
        · have hge:(Np:Int)≤(k:Int):=by omega
          have hle1:(Np:Int)≤(Nx:Int):=by omega
          have hle2:(Nx:Int)-1≤(Np:Int):=by omega
          have HBE:=hid (below_on HB10.out hb.out)
          go_wp2_with fail
          refine (HS.out _).mono ?_
          rintro e w12 ⟨rfl,hb12⟩
          have HB12:=hid (below_on HB.out (below_on HBE.out hb12))
          clear hb12
          go_wp2_with fail
          go_ret
          exact⟨rfl,HB12.out⟩
 · simp only[List.length_nil]
   go_wp2_with fail
   refine (HS.out _).mono ?_
   rintro e w6 ⟨rfl,hb6⟩
   have HB8:=hid (below_on (below_on HB.out HB7.out) hb6)
   clear hb6
   go_wp2_with fail
   go_ret
   exact⟨rfl,HB8.out⟩
theorem ActsetFree_walk (la:Option Addr) (ln lc:Nat) (g h:Ent12) (w:World) (h0:ln≤9223372036854775807∧IsActs w la ln) (hg:ActArg w g) (hh:ActArg w h) (hs:(ln+2)*128≤140737488355328):
 Calls Try.prog 4 #[.slice la ln lc,g.val,h.val] w fun e w'=>e = .returned (.bool true)∧Below w.heap.size w w':=by
 obtain⟨hl,l,rfl,aL,iL⟩:=h0
 by_cases hf:few13 (g::h::l)=true
 · obtain⟨i1,l1,_⟩:=few13_in (w:=w) hf (by
    intro y hy
    rcases List.mem_cons.1 hy with rfl|hy
    · exact hg
    · rcases List.mem_cons.1 hy with rfl|hy
      · exact hh
      · exact iL y hy)
   exact ActsetFree_main l g h la lc w aL (fun y hy=>i1 y (by simp[hy])) (i1 g (by simp)) (i1 h (by simp)) (by simp at l1;omega) hf
 · exact ActsetFree_few l g h la lc w aL hs (by simpa using hf)
end Go.Proofs.Ythpdkancighknaa
