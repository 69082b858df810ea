/- Put together out of several texts. -/
import Derived.Test.YthpdkancighknaaGreatA20
import Derived.Laws.StructEq
import Derived.Test.YthpdkancighknaaGreatA11
namespace Go.Proofs.YthpdkancighknaaGreat
open Go.RowKit
set_option linter.unusedVariables false
set_option maxRecDepth 100000
def PutPost14 (w0:World) (D:List Ent12) (g:Ent12) (e:Ending) (w':World):Prop:=
 ∃(va:Option Addr) (vc:Nat) (D':List Ent12),e = .returned (.slice va D'.length vc)∧FreshA w0 w' (.slice va D'.length vc) D'.length D'∧D'.map Ent12.act=put14 g.act (D.map Ent12.act) ∧ ∀x∈D',x∈D∨x=g
theorem put_post {w0 w':World} {D D':List Ent12} {g:Ent12} {va:Option Addr} {vc n:Nat} (hF:FreshA w0 w' (.slice va n vc) n D') (hm:D'.map Ent12.act=put14 g.act (D.map Ent12.act)) (hx:∀x∈D',x∈D∨x=g):PutPost14 w0 D g (.returned (.slice va n vc)) w':=by
 obtain rfl:=hF.list.1
 exact⟨va,vc,D',rfl,hF,hm,hx⟩
theorem placeEq_run (a0 a1 a2 b0 b1 b2:Int) (w:World):(Op.equalIn 10000 44 (.agg #[.int .i64 a0,.int .i64 a1,.int .i64 a2]) (.agg #[.int .i64 b0,.int .i64 b1,.int .i64 b2])).run Tryz.prog w = .ok (a0==b0&&(a1==b1&&a2==b2)) w:=by
 have hS:Tryz.prog.underlying 44=some (.struct (Tryz.prog.fieldsOf 44)):=by kernel_rfl
 have hp:Tryz.prog.stoodInHeld 44=false:=by kernel_rfl
 rw[show (10000:Nat)=9999+1 from rfl,run_equalIn_agg (ht:=hS) (hp:=hp)]
 simp only[Program.fieldsOf,Tryz.underlying44]
 have u3:=Tryz.underlying3
 have a3:=Tryz.isAgg3
 have z3:=Tryz.sizeOf3
 go_simp
 by_cases h0:a0=b0<;>by_cases h1:a1=b1<;>by_cases h2:a2=b2<;>simp[h0,h1,h2]
theorem wp_eq_place {w:World} {ops:Array Oper} {rest:List Oper} {o:Oper} {a:Act} {Q:Exit→Act→World→Prop} (hgd:o.guard=none) (x y:Operand) (T2:TypeId) (ho:o.op = .binOp .eql 44 x y T2) {xs ys:Array Value} (hx:a.eval x = .agg xs) (hy:a.eval y = .agg ys) {q:Bool}
 (hr:(Op.equalIn 10000 44 (.agg xs) (.agg ys)).run Tryz.prog w = .ok q w) (h:wpList Tryz.prog ops Q rest (a.put o.dst (.bool q)) w):wpList Tryz.prog ops Q (o::rest) a w:=by
 have hm:Tryz.prog.eqGuardType Tryz.prog.depth 44=false:=by kernel_rfl
 refine wpList_plain hgd fun K hK=>?_
 unfold Oper.wp
 simp only[execOp,ho,hx,hy,Sem.run_bind,run_eqGuard_agg _ _ _ _ _ _ _ hm,run_eql_struct,hr,Result.andThen_ok,Sem.run_pure]
 exact hK _ _ h
theorem heap_set14 {w:World} {g o:Nat} {cur:Array Value} {t:TypeId} (v:Value) (hg:w.heap[g]? = some (.cells cur t (0,0))):(w.setCell ⟨g,o,none⟩ v).heap[g]? = some (.cells (cur.setIfInBounds o v) t (0,0)):=by
 rw[setCell_eq_setRow w g o cur t (0,0) v hg]
 exact setRow_heap w g cur _ t _ hg
theorem list_set10 (P R:List Value) (u0 u1 u2 u3 u4 u5 u6 u7 u8 u9 v0 v1 v2 v3 v4 v5 v6 v7 v8 v9:Value):
 ((((((((((P++u0::u1::u2::u3::u4::u5::u6::u7::u8::u9::R).set P.length v0).set (P.length+1) v1).set (P.length+2) v2).set (P.length+3) v3).set (P.length+4) v4).set (P.length+5) v5).set (P.length+6) v6).set (P.length+7) v7).set (P.length+8) v8).set (P.length+9) v9=P++v0::v1::v2::v3::v4::v5::v6::v7::v8::v9::R:=by
 simp[List.set_append_right]
theorem FreshA.put10 {w0 w:World} {gb n c i:Nat} {D:List Ent12} (h:FreshA w0 w (.slice (some ⟨gb,0,none⟩) n c) n D) (hi:i<n) (g:Ent12):
 FreshA w0 ((((((((((w.setCell ⟨gb,i*10,none⟩ (.int .i64 g.T)).setCell ⟨gb,i*10+1,none⟩ (.int .u64 g.A)).setCell ⟨gb,i*10+2,none⟩ (.int .u64 g.B)).setCell ⟨gb,i*10+3,none⟩ (.int .i64 g.o.C)).setCell ⟨gb,i*10+4,none⟩ (.int .i64 g.o.F)).setCell ⟨gb,i*10+5,none⟩ (.bool g.o.H)).setCell ⟨gb,i*10+6,none⟩ (.int .u64 g.o.X)).setCell ⟨gb,i*10+7,none⟩ (.slice g.va g.o.v.length g.vc)).setCell ⟨gb,i*10+8,none⟩ (.slice g.ma g.o.m.length g.mc)).setCell ⟨gb,i*10+9,none⟩ (.slice g.da g.d.length g.dc)) (.slice (some ⟨gb,0,none⟩) n c) n (D.set i g):=by
 obtain⟨hD,hnc,_,_⟩:=h.list
 obtain⟨cur,hg,_,hcm,hcs,htake⟩:=own_cells14 h.own
 have hcl:cur.toList.length=c*10:=by rw[Array.length_toList];exact hcs
 have hq:=h.new gb rfl
 have hiD:i<D.length:=by omega
 have hDs:D=D.take i++D[i]::D.drop (i+1):=by simp
 have hset:D.set i g=D.take i++g::D.drop (i+1):=by rw[List.set_eq_take_append_cons_drop,if_pos hiD]
 have hP:(actCells (D.take i)).length=i*10:=by rw[actCells_length,List.length_take];omega
 have hall:cur.toList=actCells (D.take i)++(D[i].cs++(actCells (D.drop (i+1))++cur.toList.drop (n*10))):=by
  have e:actCells D=actCells (D.take i)++(D[i].cs++actCells (D.drop (i+1))):=by
   conv=>lhs;rw[hDs]
   rw[actCells_append,actCells_cons]
  rw[←List.append_assoc D[i].cs,←List.append_assoc,←e,←htake,List.take_append_drop]
 have hlast:=list_set10 (actCells (D.take i)) (actCells (D.drop (i+1))++cur.toList.drop (n*10)) (.int .i64 D[i].T) (.int .u64 D[i].A) (.int .u64 D[i].B) (.int .i64 D[i].o.C) (.int .i64 D[i].o.F) (.bool D[i].o.H) (.int .u64 D[i].o.X) (.slice D[i].va D[i].o.v.length D[i].vc) (.slice D[i].ma D[i].o.m.length D[i].mc) (.slice D[i].da D[i].d.length D[i].dc)
  (.int .i64 g.T) (.int .u64 g.A) (.int .u64 g.B) (.int .i64 g.o.C) (.int .i64 g.o.F) (.bool g.o.H) (.int .u64 g.o.X) (.slice g.va g.o.v.length g.vc) (.slice g.ma g.o.m.length g.mc) (.slice g.da g.d.length g.dc)
 rw[hP]at hlast
 have hall':cur.toList=actCells (D.take i) ++ .int .i64 D[i].T :: .int .u64 D[i].A :: .int .u64 D[i].B :: .int .i64 D[i].o.C :: .int .i64 D[i].o.F :: .bool D[i].o.H :: .int .u64 D[i].o.X :: .slice D[i].va D[i].o.v.length D[i].vc :: .slice D[i].ma D[i].o.m.length D[i].mc :: .slice D[i].da D[i].d.length D[i].dc::(actCells (D.drop (i+1))++cur.toList.drop (n*10)):=hall
 rw[←hall']at hlast
 have hg10:=heap_set14 (o:=i*10+9) (.slice g.da g.d.length g.dc) (heap_set14 (o:=i*10+8) (.slice g.ma g.o.m.length g.mc) (heap_set14 (o:=i*10+7) (.slice g.va g.o.v.length g.vc) (heap_set14 (o:=i*10+6) (.int .u64 g.o.X) (heap_set14 (o:=i*10+5) (.bool g.o.H) (heap_set14 (o:=i*10+4) (.int .i64 g.o.F) (heap_set14 (o:=i*10+3) (.int .i64 g.o.C) (heap_set14 (o:=i*10+2) (.int .u64 g.B) (heap_set14 (o:=i*10+1) (.int .u64 g.A) (heap_set14 (o:=i*10) (.int .i64 g.T) hg)))))))))
 refine⟨⟨by rw[actCells_length,List.length_set,hD],.inr ⟨gb,c,_,rfl,Nat.zero_le _,hg10,hnc,hcm,by simp[hcs],?_⟩⟩,?_,h.new⟩
 · simp only[Array.toList_setIfInBounds]
   rw[hlast,hset,actCells_append,actCells_cons]
   have hdl:(actCells (D.drop (i+1))).length=(n-(i+1))*10:=by rw[actCells_length,List.length_drop,hD]
   have e:(.int .i64 g.T :: .int .u64 g.A :: .int .u64 g.B :: .int .i64 g.o.C :: .int .i64 g.o.F :: .bool g.o.H :: .int .u64 g.o.X :: .slice g.va g.o.v.length g.vc :: .slice g.ma g.o.m.length g.mc :: .slice g.da g.d.length g.dc::(actCells (D.drop (i+1))++cur.toList.drop (n*10)):List Value)=g.cs++actCells (D.drop (i+1))++cur.toList.drop (n*10):=by simp[Ent12.cs]
   rw[e,←List.append_assoc,show n*10=(actCells (D.take i)++(g.cs++actCells (D.drop (i+1)))).length by rw[List.length_append,List.length_append,hP,g.cs_length,hdl];omega,List.take_left]
 · exact ((((((((((h.bel.setCell hq _).setCell hq _).setCell hq _).setCell hq _).setCell hq _).setCell hq _).setCell hq _).setCell hq _).setCell hq _).setCell hq _)
theorem FreshA.free {w0 w:World} {gb n c:Nat} {D:List Ent12} (h:FreshA w0 w (.slice (some ⟨gb,0,none⟩) n c) n D):(∀o,w.frozen? ⟨gb,o,none⟩=false)∧gb<w.heap.size:=by
 obtain⟨cur,hg,_⟩:=own_cells14 h.own
 exact⟨fun o=>by simp[World.frozen?,hg],(Array.getElem?_eq_some_iff.1 hg).1⟩
set_option maxHeartbeats 4000000 in
theorem write14_any (w0 w:World) (va:Option Addr) (n vc:Nat) (D:List Ent12) (g:Ent12) (hF:FreshA w0 w (.slice va n vc) n D) (hS:right14 (D.map Ent12.act)=true) (hA:AllIn w0 D) (hg:ActIn w0 g) (hm:may14 g.act=true) (hn:n≤900):
 Calls Tryz.prog 15 #[.slice va n vc,g.val] w (PutPost14 w0 D g):=by
 obtain⟨W,hW,hbW,hbx⟩:=act_box w g.T g.A g.B g.o.C g.o.F g.o.H g.o.X g.va g.o.v.length g.vc g.ma g.o.m.length g.mc g.da g.d.length g.dc
 have HW:=hid hW
 have HBW:=hid hbW
 have HBX:=hid hbx
 have HF:=hid hF
 have HS:=hid hS
 have HA:=hid hA
 have HG:=hid hg
 have HM:=hid hm
 have HP:=hid (fun (x:Ent12) (V:World)=>placeOf_any x V)
 have HN:=hid hF.list.1
 unfold placeV Ent12.val at HP
 obtain⟨d0,d1,d2,d3,d4,d5,d6,d7,d8,d9⟩:=hbx.ten
 unfold Ent12.val
 clear hW hbW hbx hF hS hA hg hm
 go_enter Tryz.func15,Tryz.ntmps15
 go_upto_region 1 with fail
 rw[HW.out]
 go_wp2_with fail
 refine (HP.out g _).mono ?_
 rintro e w1 ⟨rfl,hb1⟩
 obtain⟨V,hV,hbV,hy⟩:∃V,w1.alloc (.cells #[.int .i64 (rankT g.T),.int .i64 g.T,.int .i64 g.o.F] 44)=V∧Below w1.heap.size w1 V∧BoxL V w1.heap.size [.int .i64 (rankT g.T),.int .i64 g.T,.int .i64 g.o.F]:=⟨_,rfl,below_alloc _ _,BoxL.new _ _ _⟩
 have HV:=hid hV
 have HX1:=hid (HBX.out.below hb1)
 have HBV:=hid (below_on (below_on HBW.out hb1) hbV)
 have HBX2:=hid ((HBX.out.below hb1).below hbV)
 have HY:=hid hy
 have HF2:=hid (HF.out.behind HBV.out)
 clear d0 d1 d2 d3 d4 d5 d6 d7 d8 d9 hb1 hV hbV hy
 go_wp2_with fail
 rw[HV.out]
 go_loopg [13] n (fun kx s13 wr=>∃(i:Nat),s13 = .int .i64 i∧i≤n∧n-i≤kx∧Hid (∀(k:Nat) (hk:k<i) (hk2:k<D.length),ahead14 (D[k]).act g.act=true)∧Hid (Below V.heap.size V wr))
 case atStart=>exact⟨0,rfl,by omega,by omega,(by show ∀_,_;intro k hk;omega),Below.refl _ _⟩
 case round=>
  obtain⟨i,rfl,hi,hkx,hah,hb⟩:=hrel
  have HFR:=hid (HF2.out.behind hb.out)
  have HBR:=hid (below_on HBV.out hb.out)
  have HYR:=hid (HY.out.below hb.out)
  have HXR:=hid (HBX2.out.below hb.out)
  have HGR:=hid (HG.out.below (HFR.out.bel))
  have hpl1:w1.heap.size<wr.heap.size:=HYR.out.lt
  have hpl2:w.heap.size<wr.heap.size:=HXR.out.lt
  by_cases hlt:i<n
  · have hltz:(i:Int)<(n:Int):=by omega
    have hil:i<D.length:=by have:=HN.out;omega
    have hnvc:=HFR.out.list.2.1
    have hvc63:=HFR.out.list.2.2.1
    obtain⟨b,off,hva,-⟩:=HFR.out.list.2.2.2 i hil
    subst hva
    obtain⟨gb,hsp⟩:=HFR.out.spot
    cases hsp
    obtain⟨c0,c1,c2,c3,c4,c5,c6,c7,c8,c9⟩:=HFR.out.list.2.2.2.ten i hil
    simp only[Nat.zero_add]at c0 c1 c2 c3 c4 c5 c6 c7 c8 c9
    have hin:=HA.out D[i] (List.getElem_mem hil)
    have hmi:may14 D[i].act=true:=(right_iff14.1 HS.out).1 _ (List.mem_map_of_mem (List.getElem_mem hil))
    have hDi:D[i]=D[i]:=rfl
    generalize hx:D[i]=x at c0 c1 c2 c3 c4 c5 c6 c7 c8 c9 hin hmi
    obtain⟨W4,hW4,hbW4,hbx4⟩:=act_box wr x.T x.A x.B x.o.C x.o.F x.o.H x.o.X x.va x.o.v.length x.vc x.ma x.o.m.length x.mc x.da x.d.length x.dc
    have HW4:=hid hW4
    have HBW4:=hid hbW4
    obtain⟨d0,d1,d2,d3,d4,d5,d6,d7,d8,d9⟩:=hbx4.ten
    have HX:=hid hx
    have HXIN:=hid hin
    have HMI:=hid hmi
    clear hW4 hbW4 hbx4 hx hin hmi hDi
    go_upto_region 5 with fail
    rw[HW4.out]
    clear c0 c1 c2 c3 c4 c5 c6 c7 c8 c9
    go_upto_region 6 with (first|(refine (HP.out x _).mono ?_;rintro e w5 ⟨rfl,hb5⟩;have HB5:=hid hb5;clear hb5)|fail)
    obtain⟨V6,hV6,hbV6,hx6⟩:∃V,w5.alloc (.cells #[.int .i64 (rankT x.T),.int .i64 x.T,.int .i64 x.o.F] 44)=V∧Below w5.heap.size w5 V∧BoxL V w5.heap.size [.int .i64 (rankT x.T),.int .i64 x.T,.int .i64 x.o.F]:=⟨_,rfl,below_alloc _ _,BoxL.new _ _ _⟩
    have HV6:=hid hV6
    have HW6:=hid (below_on (below_on HBW4.out HB5.out) hbV6)
    have HF6:=hid (HFR.out.behind HW6.out)
    have hF6:=HF6.out.free
    obtain⟨f0,f1,f2⟩:=hx6.tri
    obtain⟨g0,g1,g2⟩:=(HYR.out.below HW6.out).tri
    obtain⟨d0,d1,d2,d3,d4,d5,d6,d7,d8,d9⟩:=(HXR.out.below HW6.out).ten
    rw[HV6.out]
    have HE:=hid (placeEq_run (rankT x.T) x.T x.o.F (rankT g.T) g.T g.o.F V6)
    obtain⟨q,hq⟩:∃q,(rankT x.T==rankT g.T&&(x.T==g.T&&x.o.F==g.o.F))=q:=⟨_,rfl⟩
    rw[hq]at HE
    have hpl:=place_is HXIN.out HG.out HMI.out HM.out
    have HBI:Hid (∀k,(hk:k<i)→ahead14 ((D.map Ent12.act)[k]'(by rw[List.length_map];omega)) g.act=true):=by
     show ∀_,_
     intro k hk
     rw[List.getElem_map]
     exact hah.out k hk (by omega)
    have hilm:i<(D.map Ent12.act).length:=by rw[List.length_map];exact hil
    have hDx:(D.map Ent12.act)[i]=x.act:=by rw[List.getElem_map,HX.out]
    have HDX:=hid hDx
    have HIL:=hid hil
    have HR:=hid (right_iff14.1 HS.out).2
    clear hV6 hbV6 hx6 hDx
    cases q
    · have hnp:place14 x.act g.act=false:=by
       cases e:place14 x.act g.act
       · rfl
       · obtain⟨e1,e2⟩:=hpl.1 e
         rw[e1,e2]at hq
         simp at hq
      have HNP:=hid hnp
      have HIA:=hid (fun V=>isAhead_any g x V)
      have hai:=ahead_is HG.out HXIN.out HM.out HMI.out
      obtain⟨r,hr⟩:∃r,aheadP g x=r:=⟨_,rfl⟩
      rw[hr]at HIA hai
      have HAI:=hid hai
      unfold placeV at HIA
      clear hq hpl hnp hr hai
      go_upto_region 9 with (first|(refine wp_eq_place rfl _ _ _ rfl rfl rfl HE.out ?_)|fail)
      go_wp2_with fail
      refine (HIA.out _).mono ?_
      rintro e w7 ⟨rfl,hb7⟩
      have HB7:=hid (below_on HW6.out hb7)
      clear hb7 d0 d1 d2 d3 d4 d5 d6 d7 d8 d9 f0 f1 f2 g0 g1 g2
      cases r
      · have hxg:ahead14 x.act g.act=true:=by
         rcases ahead_total (a:=g.act) (b:=x.act) HAI.out.symm with h|h
         · rw[place_symm]at h;rw[HNP.out]at h;cases h
         · exact h
        have hah2:∀(k:Nat) (hk:k<i+1) (hk2:k<D.length),ahead14 (D[k]).act g.act=true:=by
         intro k hk hk2
         by_cases e:k=i
         · subst e;rw[HX.out];exact hxg
         · exact hah.out k (by omega) hk2
        have HAH2:=hid hah2
        have HBE:=hid (below_on hb.out HB7.out)
        clear hxg hah2
        go_wp2_with fail
        go_roundg (n-(i+1))
        case rel=>exact⟨i+1,by go_num,by omega,by omega,HAH2.out,HBE.out⟩
        case measure=>omega
      · have hput:=put_ahead HR.out hilm HBI.out (by rw[HDX.out];exact HAI.out.symm)
        rw[←List.map_take,←List.map_drop]at hput
        have HPUT:=hid hput
        obtain⟨d0,d1,d2,d3,d4,d5,d6,d7,d8,d9⟩:=(HXR.out.below HB7.out).ten
        have hfr:=(HFR.out.behind HB7.out).free.2
        obtain⟨V9,hV9,hbV9,hc9⟩:∃V,w7.alloc (.cells g.cs.toArray 37)=V∧Below w7.heap.size w7 V∧V.heap[w7.heap.size]? = some (.cells g.cs.toArray 37 (0,0)):=⟨_,rfl,below_alloc _ _,heap_alloc_new w7 _⟩
        have HV9:Hid (w7.alloc (.cells #[.int .i64 g.T,.int .u64 g.A,.int .u64 g.B,.int .i64 g.o.C,.int .i64 g.o.F,.bool g.o.H,.int .u64 g.o.X,.slice g.va g.o.v.length g.vc,.slice g.ma g.o.m.length g.mc,.slice g.da g.d.length g.dc] 37)=V9):=hV9
        have HINS:=hid (insert14_any w0 V9 b n vc i w7.heap.size 37 D g (HFR.out.behind (below_on HB7.out hbV9)) hlt (by omega) hc9 (by omega))
        clear hput hV9 hbV9 hc9 hfr hF6
        go_wp2_with fail
        rw[HV9.out]
        refine HINS.out.mono ?_
        rintro e w8 ⟨va',vc',rfl,hF8⟩
        have HF8:=hid hF8
        clear hF8
        go_wp2_with fail
        refine bodyPost_ret (v:=.slice va' (n+1) vc') (by simp[results,Tryz.results15,go_sem]) rfl (put_post HF8.out (by rw[HPUT.out,List.map_append,List.map_cons]) ?_)
        intro y hy
        rcases List.mem_append.1 hy with hy|hy
        · exact .inl (List.mem_of_mem_take hy)
        · rcases List.mem_cons.1 hy with hy|hy
          · exact .inr hy
          · exact .inl (List.mem_of_mem_drop hy)
    · simp only[Bool.and_eq_true,beq_iff_eq]at hq
      have hpt:=hpl.2 ⟨hq.2.1,hq.2.2⟩
      have hput:=put_here HR.out hilm HBI.out (by rw[HDX.out];exact hpt)
      have HPUT:=hid hput
      have HF7:=hid (HF6.out.put10 hlt g)
      obtain⟨e0,e1,e2,e3,e4,e5,e6,e7,e8,e9⟩:=HF6.out.list.2.2.2.ten i hil
      simp only[Nat.zero_add]at e0 e1 e2 e3 e4 e5 e6 e7 e8 e9
      obtain⟨zf,zl⟩:=hF6
      clear hq hpl hpt hput
      go_upto_region 7 with (first|(refine wp_eq_place rfl _ _ _ rfl rfl rfl HE.out ?_)|fail)
      go_wp2_with fail
      refine bodyPost_ret (v:=.slice (some ⟨b,0,none⟩) n vc) (by simp[results,Tryz.results15,go_sem]) rfl (put_post HF7.out (by rw[HPUT.out,List.map_set]) ?_)
      intro y hy
      rcases List.mem_or_eq_of_mem_set hy with hy|hy
      · exact .inl hy
      · exact .inr hy
  · have hge:(n:Int)≤(i:Int):=by omega
    obtain rfl:i=n:=by omega
    have hput:=put_end (a:=g.act) (D:=D.map Ent12.act) (fun k hk=>by rw[List.getElem_map];exact hah.out k (by have:=HN.out;rw[List.length_map]at hk;omega) (by rw[List.length_map]at hk;exact hk))
    have HPUT:=hid hput
    obtain⟨d0,d1,d2,d3,d4,d5,d6,d7,d8,d9⟩:=HXR.out.ten
    have HFA:=hid (HFR.out.behind (below_alloc wr (.cells #[.int .i64 g.T,.int .u64 g.A,.int .u64 g.B,.int .i64 g.o.C,.int .i64 g.o.F,.bool g.o.H,.int .u64 g.o.X,.slice g.va g.o.v.length g.vc,.slice g.ma g.o.m.length g.mc,.slice g.da g.d.length g.dc] 37)))
    have HO:=hid (acts_one wr g 37)
    clear hput
    go_wp2_with (first|(at_builtin;refine wp_app_acts rfl _ _ rfl HFA.out rfl rfl rfl HO.out (by omega) rfl ?_;intro va' vc' w8 hF8;have HF8:=hid hF8;clear hF8)|fail)
    refine bodyPost_ret (v:=.slice va' (i+1) vc') (by simp[results,Tryz.results15,go_sem]) rfl (put_post HF8.out (by rw[HPUT.out,List.map_append];rfl) ?_)
    intro y hy
    rcases List.mem_append.1 hy with hy|hy
    · exact .inl hy
    · exact .inr (List.mem_singleton.1 hy)
def WritePost14 (S L:List Act12) (w:World) (e:Ending) (w':World):Prop:=
 ∃(M:List Ent12) (va:Option Addr) (vc:Nat) (q:Int),e = .returned (.tuple #[.slice va M.length vc,.int .i64 q])∧Below w.heap.size w w'∧Acts w' va M∧AllIn w' M∧M.length≤S.length+L.length∧M.length≤vc∧vc≤9223372036854775807 ∧
  ((write14 S L = .ok (M.map Ent12.act)∧q=0)∨(write14 S L = .error 10001∧q=10001∧M = []))
theorem write_err {S L:List Act12} {w w':World} (h:right14 S=false∨L.all may14=false) (hb:Below w.heap.size w w'):WritePost14 S L w (.returned (.tuple #[.slice none 0 0,.int .i64 10001])) w':=by
 refine⟨[],none,0,10001,rfl,hb,Acts.nil _ _,AllIn.nil _,by simp,by simp,by simp,.inr ⟨?_,rfl,rfl⟩⟩
 unfold write14
 rw[if_neg]
 rintro⟨h1,h2⟩
 rcases h with h|h
 · rw[h1]at h;cases h
 · rw[h2]at h;cases h
set_option maxHeartbeats 4000000 in
theorem actsetWrite_any (w:World) (a b:Option Addr) (c d:Nat) (S L:List Ent12) (hS:Acts w a S) (hSI:AllIn w S) (hL:Acts w b L) (hLI:AllIn w L) (h1:S.length≤300) (h2:L.length≤300):
 Calls Tryz.prog 6 #[.slice a S.length c,.slice b L.length d] w (WritePost14 (S.map Ent12.act) (L.map Ent12.act) w):=by
 have HS:=hid (And.intro hS hSI)
 have HL:=hid (And.intro hL hLI)
 obtain⟨N,hN⟩:∃N,N=S.length:=⟨_,rfl⟩
 obtain⟨M,hM⟩:∃M,M=L.length:=⟨_,rfl⟩
 have HN:=hid hN
 have HM:=hid hM
 have HRS:=hid (rightS_any w a c S hS hSI (by omega))
 rw[←hN]at h1 HRS ⊢
 rw[←hM]at h2 ⊢
 obtain⟨r,hr⟩:∃r,right14 (S.map Ent12.act)=r:=⟨_,rfl⟩
 rw[hr]at HRS
 have HR:=hid hr
 clear hS hSI hL hLI hN hM hr
 go_enter Tryz.func6,Tryz.ntmps6
 go_wp2_with fail
 refine HRS.out.mono ?_
 rintro e w1 ⟨rfl,hb1⟩
 have HB1:=hid hb1
 clear hb1
 cases r
 · go_wp2_with fail
   exact bodyPost_ret (v:=.tuple #[.slice none 0 0,.int .i64 10001]) (by simp[results,Tryz.results6,go_sem]) rfl (write_err (.inl HR.out) HB1.out)
 · go_wp2_with fail
   go_loopg [16] M (fun kx s16 wr=>∃(i:Nat),s16 = .int .i64 i∧i≤M∧M-i≤kx∧Hid (((L.map Ent12.act).take i).all may14=true)∧Hid (Below w.heap.size w wr))
   case atStart=>exact⟨0,rfl,by omega,by omega,rfl,HB1.out⟩
   case round=>
    obtain⟨i,rfl,hi,hkx,hn,hb⟩:=hrel
    by_cases hlt:i<M
    · have hltz:(i:Int)<(M:Int):=by omega
      have hil:i<L.length:=by have:=HM.out;omega
      obtain⟨bb,off,rfl,-⟩:=HL.out.1 i hil
      obtain⟨c0,c1,c2,c3,c4,c5,c6,c7,c8,c9⟩:=(HL.out.1.below hb.out).ten i hil
      have hin:=HL.out.2 L[i] (List.getElem_mem hil)
      have htk:=take_snoc14 L i hil
      have hmem:L[i].act∈L.map Ent12.act:=List.mem_map_of_mem (List.getElem_mem hil)
      generalize L[i]=g at c0 c1 c2 c3 c4 c5 c6 c7 c8 c9 hin htk hmem
      obtain⟨W,hW,hbW,hbx⟩:=act_box wr g.T g.A g.B g.o.C g.o.F g.o.H g.o.X g.va g.o.v.length g.vc g.ma g.o.m.length g.mc g.da g.d.length g.dc
      have HW:=hid hW
      have HBW:=hid (below_on hb.out hbW)
      have HTK:=hid htk
      have HMEM:=hid hmem
      have HMS:=hid (mayStand_any g W (hin.below HBW.out))
      obtain⟨m,hm⟩:∃m,may14 g.act=m:=⟨_,rfl⟩
      rw[hm]at HMS
      have HMM:=hid hm
      obtain⟨d0,d1,d2,d3,d4,d5,d6,d7,d8,d9⟩:=hbx.ten
      unfold Ent12.val at HMS
      clear hW hbW hbx htk hmem hm hin
      go_upto_region 6 with fail
      rw[HW.out]
      clear c0 c1 c2 c3 c4 c5 c6 c7 c8 c9
      go_wp2_with fail
      refine HMS.out.mono ?_
      rintro e w3 ⟨rfl,hb3⟩
      have HB3:=hid (below_on HBW.out hb3)
      clear hb3 d0 d1 d2 d3 d4 d5 d6 d7 d8 d9
      cases m
      · have hall:(L.map Ent12.act).all may14=false:=List.all_eq_false.2 ⟨_,HMEM.out,by rw[HMM.out];simp⟩
        have HALL:=hid hall
        clear hall
        go_wp2_with fail
        exact bodyPost_ret (v:=.tuple #[.slice none 0 0,.int .i64 10001]) (by simp[results,Tryz.results6,go_sem]) rfl (write_err (.inr HALL.out) HB3.out)
      · have hn2:((L.map Ent12.act).take (i+1)).all may14=true:=by
         rw[HTK.out,List.all_append,hn.out]
         simp[HMM.out]
        have HN2:=hid hn2
        clear hn2
        go_wp2_with fail
        go_roundg (M-(i+1))
        case rel=>exact⟨i+1,by go_num,by omega,by omega,HN2.out,HB3.out⟩
        case measure=>omega
    · have hge:(M:Int)≤(i:Int):=by omega
      have hall:(L.map Ent12.act).all may14=true:=by
       have h:=hn.out
       rwa [List.take_of_length_le (by rw[List.length_map];have:=HM.out;omega)]at h
      have HALL:=hid hall
      have HCL:=hid (clone14_any wr a c S (HS.out.1.below hb.out) (by have:=HN.out;omega))
      rw[←HN.out]at HCL
      clear hall
      go_wp2_with fail
      refine HCL.out.mono ?_
      rintro e w4 ⟨va,vc,rfl,hF⟩
      rw[←HN.out]at hF ⊢
      have HF:=hid (FreshA.made hb.out hF)
      clear hF
      go_wp2_with fail
      clear HCL
      go_loopg [8,28] M (fun kx s8 s28 wx=>∃(i:Nat) (va:Option Addr) (vc:Nat) (D:List Ent12),s8 = .slice va D.length vc∧s28 = .int .i64 i∧i≤M∧M-i≤kx∧D.length≤N+i∧Hid (FreshA w wx (.slice va D.length vc) D.length D)∧Hid (D.map Ent12.act=puts14 (S.map Ent12.act) ((L.map Ent12.act).take i))∧Hid (AllIn w D))
      case atStart=>
       have e:=HN.out
       refine⟨0,va,vc,S,by rw[e],rfl,by omega,by omega,by omega,?_,rfl,HS.out.2⟩
       show FreshA _ _ _ _ _
       rw[←e];exact HF.out
      case round=>
       clear hn hb HF
       obtain⟨i,va,vc,D,rfl,rfl,hi,hkx,hDl,hF,hD,hA⟩:=hrel
       by_cases hlt:i<M
       · have hltz:(i:Int)<(M:Int):=by omega
         have hil:i<L.length:=by have:=HM.out;omega
         obtain⟨bb,off,rfl,-⟩:=HL.out.1 i hil
         obtain⟨c0,c1,c2,c3,c4,c5,c6,c7,c8,c9⟩:=(HL.out.1.below hF.out.bel).ten i hil
         have hin:=HL.out.2 L[i] (List.getElem_mem hil)
         have htk:=take_snoc14 L i hil
         have hmy:may14 L[i].act=true:=List.all_eq_true.1 HALL.out _ (List.mem_map_of_mem (List.getElem_mem hil))
         generalize L[i]=g at c0 c1 c2 c3 c4 c5 c6 c7 c8 c9 hin htk hmy
         obtain⟨W,hW,hbW,hbx⟩:=act_box wr g.T g.A g.B g.o.C g.o.F g.o.H g.o.X g.va g.o.v.length g.vc g.ma g.o.m.length g.mc g.da g.d.length g.dc
         have HW:=hid hW
         have hall2:((L.map Ent12.act).take i).all may14=true:=by
          rw[List.all_eq_true]
          intro y hy
          exact List.all_eq_true.1 HALL.out y (List.mem_of_mem_take hy)
         have hSet:right14 (D.map Ent12.act)=true:=by rw[hD.out];exact right_puts HR.out hall2
         have HWR:=hid (write14_any w W va D.length vc D g (hF.out.behind hbW) hSet hA.out hin hmy (by omega))
         have HTK:=hid htk
         have HIN:=hid hin
         obtain⟨d0,d1,d2,d3,d4,d5,d6,d7,d8,d9⟩:=hbx.ten
         unfold Ent12.val at HWR
         clear hW hbW hbx htk hmy hin hall2 hSet
         go_upto_region 13 with fail
         rw[HW.out]
         clear c0 c1 c2 c3 c4 c5 c6 c7 c8 c9
         go_wp2_with fail
         refine HWR.out.mono ?_
         rintro e w5 ⟨va',vc',D',rfl,hF',hm',hx'⟩
         have hl':D'.length≤D.length+1:=by
          have:=put_length14 g.act (D.map Ent12.act)
          rw[←hm',List.length_map,List.length_map]at this
          exact this
         have hD2:D'.map Ent12.act=puts14 (S.map Ent12.act) ((L.map Ent12.act).take (i+1)):=by
          rw[hm',HTK.out,puts_append,hD.out]
          rfl
         have hA2:AllIn w D':=by
          intro y hy
          rcases hx' y hy with h|rfl
          · exact hA.out y h
          · exact HIN.out
         have HF2:=hid hF'
         have HD2:=hid hD2
         have HA2:=hid hA2
         clear hF' hm' hx' hD2 hA2 d0 d1 d2 d3 d4 d5 d6 d7 d8 d9 HWR
         go_wp2_with fail
         go_roundg (M-(i+1))
         case rel=>exact⟨i+1,va',vc',D',rfl,by go_num,by omega,by omega,by omega,HF2.out,HD2.out,HA2.out⟩
         case measure=>omega
       · have hge:(M:Int)≤(i:Int):=by omega
         have hlist:=hF.out.list
         have HCP:=hid (copy13_any wr va vc D hlist.2.2.2 (hA.out.below hF.out.bel) (by omega))
         have hD3:D.map Ent12.act=puts14 (S.map Ent12.act) (L.map Ent12.act):=by
          have h:=hD.out
          rwa [List.take_of_length_le (by rw[List.length_map];have:=HM.out;omega)]at h
         have HD3:=hid hD3
         have HW14:=hid (write_is14 HR.out HALL.out)
         clear hlist hD3
         go_wp2_with fail
         refine HCP.out.mono ?_
         rintro e w6 ⟨M',rfl,hl6,hm6,hA6,hI6,hb6⟩
         have HB6:=hid (below_on hF.out.bel hb6)
         have H6:=hid (And.intro hl6 (And.intro hm6 (And.intro hA6 hI6)))
         clear hl6 hm6 hA6 hI6 hb6
         go_wp2_with fail
         refine bodyPost_ret (v:=.tuple #[.slice (some ⟨wr.heap.size,0,none⟩) D.length D.length,.int .i64 0]) (by simp[results,Tryz.results6,go_sem]) rfl ?_
         obtain⟨hl6,hm6,hA6,hI6⟩:=H6.out
         refine⟨M',_,D.length,0,by rw[hl6],HB6.out,hA6,hI6,?_,by omega,by omega,.inl ⟨?_,rfl⟩⟩
         · rw[List.length_map,List.length_map];have:=HN.out;have:=HM.out;omega
         · rw[HW14.out,hm6,HD3.out]
set_option maxHeartbeats 4000000 in
theorem isKind_any (g:Ent12) (k:Int) (b3:Nat) (w:World) (hk:w.cell? ⟨b3,0,none⟩=some (.int .i64 k)):
 Calls Tryz.prog 36 #[g.val,.pointer (some ⟨b3,0,none⟩)] w fun e w'=>e = .returned (.bool (g.T==k))∧Below w.heap.size w w':=by
 have hl:b3<w.heap.size:=World.block_lt_of_cell? w _ hk
 have hne:¬b3=w.heap.size:=by omega
 unfold Ent12.val
 go_enter Tryz.func36,Tryz.ntmps36
 go_wp2_with fail
 go_ret
 exact⟨rfl,below_alloc _ _⟩
def anyT (k:Int) (l:List Act12):Bool:=l.any (fun a=>a.T==k)
set_option maxHeartbeats 4000000 in
theorem idxKind (l:List Ent12) (a:Option Addr) (c:Nat) (k:Int) (b3:Nat) (w:World) (hL:Acts w a l) (hll:l.length≤1000) (hk:w.cell? ⟨b3,0,none⟩=some (.int .i64 k)):
 Calls Tryz.prog 51 #[.slice a l.length c,.func (.func 36) #[] #[.pointer (some ⟨b3,0,none⟩)]] w fun e w'=>(∃r:Int,e = .returned (.int .i64 r)∧decide (0≤r)=anyT k (l.map Ent12.act))∧Below w.heap.size w w':=by
 have HL:=hid hL
 have HK:=hid hk
 obtain⟨t,ht⟩:∃t,anyT k (l.map Ent12.act)=t:=⟨_,rfl⟩
 rw[ht]
 have HT:=hid ht
 obtain⟨N,hN⟩:∃N,N=l.length:=⟨_,rfl⟩
 have HN:=hid hN
 rw[←hN]at hll ⊢
 clear hL ht hk hN
 go_enter Tryz.func51,Tryz.ntmps51
 go_wp2_with fail
 go_loopg [8] N (fun kx s8 wr=>∃(i:Nat),s8 = .int .i64 i∧i≤N∧N-i≤kx∧Hid (anyT k ((l.map Ent12.act).take i)=false)∧Hid (Below w.heap.size w wr))
 case atStart=>exact⟨0,rfl,by omega,by omega,rfl,Below.refl _ _⟩
 case round=>
  obtain⟨i,rfl,hi,hkx,hn,hb⟩:=hrel
  by_cases hlt:i<N
  · have hltz:(i:Int)<(N:Int):=by omega
    have hil:i<l.length:=by have:=HN.out;omega
    obtain⟨b,off,rfl,-⟩:=HL.out i hil
    obtain⟨c0,c1,c2,c3,c4,c5,c6,c7,c8,c9⟩:=(HL.out.below hb.out).ten i hil
    have htk:=take_snoc14 l i hil
    have hmem:l[i].act∈l.map Ent12.act:=List.mem_map_of_mem (List.getElem_mem hil)
    generalize l[i]=g at c0 c1 c2 c3 c4 c5 c6 c7 c8 c9 htk hmem
    have HC:=isKind_any g k b3 wr (cell_keep HK.out hb.out)
    unfold Ent12.val at HC
    obtain⟨q,hq⟩:∃q,(g.T==k)=q:=⟨_,rfl⟩
    rw[hq]at HC
    have HC:=hid HC
    have HQ:=hid hq
    have HTK:=hid htk
    have HMEM:=hid hmem
    clear hq htk hmem
    go_wp2_with fail
    refine HC.out.mono ?_
    rintro e w5 ⟨rfl,hb5⟩
    have HB5:=hid (below_on hb.out hb5)
    clear hb5 c0 c1 c2 c3 c4 c5 c6 c7 c8 c9
    cases q
    · have hn2:anyT k ((l.map Ent12.act).take (i+1))=false:=by
       rw[HTK.out]
       unfold anyT
       rw[List.any_append]
       have h:=hn.out
       unfold anyT at h
       rw[h]
       show (false||(g.T==k||false))=false
       rw[HQ.out];rfl
      have HN2:=hid hn2
      clear hn2
      go_wp2_with fail
      go_roundg (N-(i+1))
      case rel=>exact⟨i+1,by go_num,by omega,by omega,HN2.out,HB5.out⟩
      case measure=>omega
    · have htt:t=true:=by
       rw[←HT.out]
       exact List.any_eq_true.2 ⟨_,HMEM.out,HQ.out⟩
      have HTT:=hid htt
      clear htt
      go_wp2_with fail
      exact bodyPost_ret (v:=.int .i64 i) (by simp[results,Tryz.results51,go_sem]) rfl ⟨⟨i,rfl,by rw[HTT.out];exact decide_eq_true (by omega)⟩,HB5.out⟩
  · have hge:(N:Int)≤(i:Int):=by omega
    have htf:t=false:=by
     have h:=hn.out
     rw[List.take_of_length_le (by rw[List.length_map];have:=HN.out;omega)]at h
     rw[←HT.out];exact h
    have HTF:=hid htf
    clear htf
    go_wp2_with fail
    exact bodyPost_ret (v:=.int .i64 (-1)) (by simp[results,Tryz.results51,go_sem]) rfl ⟨⟨-1,rfl,by rw[HTF.out];rfl⟩,hb.out⟩
set_option maxHeartbeats 4000000 in
theorem hasKind (l:List Ent12) (a:Option Addr) (c:Nat) (k:Int) (w:World) (hL:Acts w a l) (hll:l.length≤1000):
 Calls Tryz.prog 23 #[.slice a l.length c,.int .i64 k] w fun e w'=>e = .returned (.bool (anyT k (l.map Ent12.act)))∧Below w.heap.size w w':=by
 have CF:∀(b3:Nat) (V:World),Acts V a l→V.cell? ⟨b3,0,none⟩=some (.int .i64 k)→Calls Tryz.prog 35 #[.slice a l.length c,.func (.func 36) #[] #[.pointer (some ⟨b3,0,none⟩)]] V fun e w'=>e = .returned (.bool (anyT k (l.map Ent12.act)))∧Below V.heap.size V w':=by
  intro b3 V hV hk
  have HC:=hid (idxKind l a c k b3 V hV hll hk)
  obtain⟨t,ht⟩:∃t,anyT k (l.map Ent12.act)=t:=⟨_,rfl⟩
  rw[ht]at HC ⊢
  clear ht
  go_enter Tryz.func35,Tryz.ntmps35
  go_wp2_with fail
  refine HC.out.mono ?_
  rintro e w' ⟨⟨i,rfl,hi⟩,hb⟩
  have HI:=hid hi
  clear hi
  go_wp2
  exact bodyPost_ret (v:=.bool (decide (0≤i))) (by simp[results,Tryz.results35,go_sem]) rfl ⟨by rw[HI.out],hb⟩
 obtain⟨W,hW,hbW,hc⟩:∃W,w.alloc (.cells #[.int .i64 k] 3)=W∧Below w.heap.size w W∧W.cell? ⟨w.heap.size,0,none⟩=some (.int .i64 k):=⟨_,rfl,below_alloc _ _,by simp⟩
 have HW:=hid hW
 have HB:=hid hbW
 have HC:=hid (CF w.heap.size W (hL.below hbW) hc)
 obtain⟨t,ht⟩:∃t,anyT k (l.map Ent12.act)=t:=⟨_,rfl⟩
 rw[ht]at HC ⊢
 clear ht CF hL hW hbW
 go_enter Tryz.func23,Tryz.ntmps23
 go_wp2_with fail
 rw[HW.out]
 refine HC.out.mono ?_
 rintro e w' ⟨rfl,hb⟩
 go_wp2_with fail
 go_ret
 exact⟨rfl,below_on HB.out hb⟩
theorem rank_le (t:Int):rankT t≤11:=by unfold rankT;split<;>(try split)<;>(try split)<;>(try split)<;>(try split)<;>(try split)<;>(try split)<;>(try split)<;>(try split)<;>(try split)<;>(try split)<;>omega
theorem rank_eleven {t:Int} (h:rankT t=11):t=0:=by
 unfold rankT at h
 by_cases e:t=0
 · exact e
 · exfalso
   revert h
   split<;>(try split)<;>(try split)<;>(try split)<;>(try split)<;>(try split)<;>(try split)<;>(try split)<;>(try split)<;>(try split)<;>(try split)<;>omega
theorem out_last {y z:Act12} (hy:y.T=0) (h:ahead14 y z=true):False:=by
 rw[ahead_iff]at h
 have e:rank14 y=11:=by unfold rank14;rw[hy];rfl
 have l:rank14 z≤11:=rank_le _
 have hz:rank14 z=11:=by omega
 have hz0:=rank_eleven hz
 have f1:fld14 y=0:=by unfold fld14;rw[if_neg (by omega)]
 have f2:fld14 z=0:=by unfold fld14;rw[if_neg (by omega)]
 omega
theorem plan_cut {s:List Act12} (h:right14 s=true) (hg:anyT 22 s=true) (ho:anyT 0 s=true):plan14 s=s.take (s.length-1):=by
 have hr:=(right_iff14.1 h).2
 unfold plan14
 rw[if_pos h]
 have hg':(s.any fun b=>b.T==22)=true:=hg
 rw[hg']
 rcases List.eq_nil_or_concat s with rfl|⟨p,z,rfl⟩
 · rfl
 · rw[List.concat_eq_append]at *
   obtain⟨h1,h2,h3⟩:=List.pairwise_append.1 hr
   have hp:∀y∈p,y.T≠0:=fun y hy e=>out_last e (h3 y hy z (by simp))
   have hz:z.T=0:=by
    obtain⟨o,hm,e⟩:=List.any_eq_true.1 ho
    rcases List.mem_append.1 hm with hm|hm
    · exact absurd (by simpa using e) (hp o hm)
    · rw[List.mem_singleton.1 hm]at e;simpa using e
   have hf:p.filter (fun a=>a.T != 0 || !true)=p:=by
    rw[List.filter_eq_self]
    intro y hy
    simp[hp y hy]
   rw[List.filter_append,hf]
   simp[hz]
theorem plan_all {s:List Act12} (h:right14 s=true) (hn:anyT 22 s=false∨anyT 0 s=false):plan14 s=s:=by
 unfold plan14
 rw[if_pos h,List.filter_eq_self]
 intro y hy
 rcases hn with hn|hn
 · have hn':(s.any fun b=>b.T==22)=false:=hn
   rw[hn'];simp
 · have:=List.any_eq_false.1 hn y hy
   simp at this
   simp[this]
def PlanPost14 (S:List Act12) (w:World) (e:Ending) (w':World):Prop:=
 ∃(M:List Ent12) (va:Option Addr) (vc:Nat),e = .returned (.slice va M.length vc)∧Below w.heap.size w w'∧Acts w' va M∧AllIn w' M∧M.map Ent12.act=plan14 S
set_option maxHeartbeats 4000000 in
theorem plan14_any (w:World) (a:Option Addr) (c:Nat) (S:List Ent12) (hS:Acts w a S) (hSI:AllIn w S) (h1:S.length≤900) (hc:S.length≤c):
 Calls Tryz.prog 10 #[.slice a S.length c] w (PlanPost14 (S.map Ent12.act) w):=by
 have HS:=hid (And.intro hS hSI)
 have HRS:=hid (rightS_any w a c S hS hSI (by omega))
 have HH:=hid (fun k V (hV:Acts V a S)=>hasKind S a c k V hV (by omega))
 obtain⟨N,hN⟩:∃N,N=S.length:=⟨_,rfl⟩
 have HN:=hid hN
 rw[←hN]at h1 HRS HH hc ⊢
 obtain⟨r,hr⟩:∃r,right14 (S.map Ent12.act)=r:=⟨_,rfl⟩
 rw[hr]at HRS
 have HR:=hid hr
 obtain⟨g,hg⟩:∃g,anyT 22 (S.map Ent12.act)=g:=⟨_,rfl⟩
 obtain⟨o,ho⟩:∃o,anyT 0 (S.map Ent12.act)=o:=⟨_,rfl⟩
 have HG:=hid hg
 have HO:=hid ho
 clear hS hSI hN hr hg ho
 go_enter Tryz.func10,Tryz.ntmps10
 go_wp2_with fail
 refine HRS.out.mono ?_
 rintro e w1 ⟨rfl,hb1⟩
 have HB1:=hid hb1
 clear hb1
 cases r
 · go_wp2_with fail
   refine bodyPost_ret (v:=.slice none 0 0) (by simp[results,Tryz.results10,go_sem]) rfl ⟨[],none,0,rfl,HB1.out,Acts.nil _ _,AllIn.nil _,?_⟩
   unfold plan14
   rw[HR.out];rfl
 · go_wp2_with fail
   refine (HH.out 22 w1 (HS.out.1.below HB1.out)).mono ?_
   rintro e w2 ⟨rfl,hb2⟩
   have HB2:=hid (below_on HB1.out hb2)
   rw[HG.out]
   clear hb2
   cases g
   · have HCP:=hid (copy13_any w2 a c S (HS.out.1.below HB2.out) (HS.out.2.below HB2.out) (by have:=HN.out;omega))
     rw[←HN.out]at HCP
     go_wp2_with fail
     refine HCP.out.mono ?_
     rintro e w3 ⟨M,rfl,hl,hm,hA,hI,hb3⟩
     have H3:=hid (And.intro hl (And.intro hm (And.intro hA (And.intro hI (below_on HB2.out hb3)))))
     clear hl hm hA hI hb3
     rw[←HN.out]
     go_wp2_with fail
     refine bodyPost_ret (v:=.slice (some ⟨w2.heap.size,0,none⟩) N N) (by simp[results,Tryz.results10,go_sem]) rfl ?_
     obtain⟨hl,hm,hA,hI,hb⟩:=H3.out
     exact⟨M,_,N,by rw[hl,←HN.out],hb,hA,hI,by rw[hm,plan_all HR.out (.inl HG.out)]⟩
   · go_wp2_with fail
     refine (HH.out 0 w2 (HS.out.1.below HB2.out)).mono ?_
     rintro e w3 ⟨rfl,hb3⟩
     have HB3:=hid (below_on HB2.out hb3)
     rw[HO.out]
     clear hb3
     cases o
     · have HCP:=hid (copy13_any w3 a c S (HS.out.1.below HB3.out) (HS.out.2.below HB3.out) (by have:=HN.out;omega))
       rw[←HN.out]at HCP
       go_wp2_with fail
       refine HCP.out.mono ?_
       rintro e w4 ⟨M,rfl,hl,hm,hA,hI,hb4⟩
       have H3:=hid (And.intro hl (And.intro hm (And.intro hA (And.intro hI (below_on HB3.out hb4)))))
       clear hl hm hA hI hb4
       rw[←HN.out]
       go_wp2_with fail
       refine bodyPost_ret (v:=.slice (some ⟨w3.heap.size,0,none⟩) N N) (by simp[results,Tryz.results10,go_sem]) rfl ?_
       obtain⟨hl,hm,hA,hI,hb⟩:=H3.out
       exact⟨M,_,N,by rw[hl,←HN.out],hb,hA,hI,by rw[hm,plan_all HR.out (.inr HO.out)]⟩
     · have hN0 : 0<N:=by
        have h:=HO.out
        have e:=HN.out
        cases S with
        | nil=>cases h
        | cons x r=>rw[e];simp
       have HCP:=hid (copy13_any w3 a c (S.take (N-1)) ((HS.out.1.take _).below HB3.out) (fun y hy=>(HS.out.2 y (List.mem_of_mem_take hy)).below HB3.out) (by rw[List.length_take];omega))
       have hlt:(S.take (N-1)).length=N-1:=by rw[List.length_take];have:=HN.out;omega
       rw[hlt]at HCP
       have HLT:=hid hlt
       have hn1:((N:Int)-1).toNat=N-1:=by omega
       have hn2:(0:Int)≤(N:Int)-1:=by omega
       have hn3:(N:Int)-1≤(c:Int):=by omega
       clear hlt
       go_wp2_with fail
       refine HCP.out.mono ?_
       rintro e w4 ⟨M,rfl,hl,hm,hA,hI,hb4⟩
       have H3:=hid (And.intro hl (And.intro hm (And.intro hA (And.intro hI (below_on HB3.out hb4)))))
       clear hl hm hA hI hb4
       rw[HLT.out]
       go_wp2_with fail
       refine bodyPost_ret (v:=.slice (some ⟨w3.heap.size,0,none⟩) (N-1) (N-1)) (by simp[results,Tryz.results10,go_sem]) rfl ?_
       obtain⟨hl,hm,hA,hI,hb⟩:=H3.out
       exact⟨M,_,N-1,by rw[hl,HLT.out],hb,hA,hI,by rw[hm,plan_cut HR.out HG.out HO.out,List.map_take,List.length_map,←HN.out]⟩
def dropsP (S:List Act12):Bool:=!right14 S||(!anyT 0 S && !anyT 22 S)
set_option maxHeartbeats 4000000 in
theorem drops14_any (w:World) (a:Option Addr) (c:Nat) (S:List Ent12) (hS:Acts w a S) (hSI:AllIn w S) (h1:S.length≤900):
 Calls Tryz.prog 11 #[.slice a S.length c] w fun e w'=>e = .returned (.bool (dropsP (S.map Ent12.act)))∧Below w.heap.size w w':=by
 have HS:=hid (And.intro hS hSI)
 have HRS:=hid (rightS_any w a c S hS hSI (by omega))
 have HH:=hid (fun k V (hV:Acts V a S)=>hasKind S a c k V hV (by omega))
 unfold dropsP
 obtain⟨r,hr⟩:∃r,right14 (S.map Ent12.act)=r:=⟨_,rfl⟩
 rw[hr]at HRS ⊢
 obtain⟨g,hg⟩:∃g,anyT 22 (S.map Ent12.act)=g:=⟨_,rfl⟩
 obtain⟨o,ho⟩:∃o,anyT 0 (S.map Ent12.act)=o:=⟨_,rfl⟩
 rw[hg,ho]
 have HG:=hid hg
 have HO:=hid ho
 obtain⟨N,hN⟩:∃N,N=S.length:=⟨_,rfl⟩
 rw[←hN]at HRS HH ⊢
 clear hS hSI hr hg ho hN h1
 go_enter Tryz.func11,Tryz.ntmps11
 go_wp2_with fail
 refine HRS.out.mono ?_
 rintro e w1 ⟨rfl,hb1⟩
 have HB1:=hid hb1
 clear hb1
 cases r
 · go_wp2_with fail
   go_ret
   exact⟨rfl,HB1.out⟩
 · go_wp2_with fail
   refine (HH.out 0 w1 (HS.out.1.below HB1.out)).mono ?_
   rintro e w2 ⟨rfl,hb2⟩
   have HB2:=hid (below_on HB1.out hb2)
   rw[HO.out]
   clear hb2
   cases o
   · go_wp2_with fail
     refine (HH.out 22 w2 (HS.out.1.below HB2.out)).mono ?_
     rintro e w3 ⟨rfl,hb3⟩
     have HB3:=hid (below_on HB2.out hb3)
     rw[HG.out]
     clear hb3
     go_wp2_with fail
     go_ret
     exact⟨by simp,HB3.out⟩
   · go_wp2_with fail
     go_ret
     exact⟨by simp,HB2.out⟩
theorem below_alc {w X:World} (h:Below w.heap.size w X) {o:Obj}:Below w.heap.size w (X.alloc o):=below_on h (below_alloc _ _)
theorem below_drw {w X:World} (h:Below w.heap.size w X):Below w.heap.size w X.drew:=h.drew
def ent14 (T A:Int):Ent12:=⟨T,A,0,noOx,none,0,none,0,[],none,0⟩
def a14 (T A:Int):Act12:=⟨T,A,0,noOx,[]⟩
theorem s14_1:write14 [] [a14 0 3,a14 18 0,a14 0 4] = .ok [a14 18 0,a14 0 4]:=by kernel_rfl
theorem s14_2:write14 [a14 18 0,a14 0 4] [a14 22 9] = .ok [a14 18 0,a14 22 9,a14 0 4]:=by kernel_rfl
theorem s14_3:write14 [] [a14 0 0] = .error 10001:=by kernel_rfl
theorem s14_4:plan14 [a14 18 0,a14 22 9,a14 0 4] = [a14 18 0,a14 22 9]:=by kernel_rfl
theorem s14_5:dropsP [a14 18 0,a14 0 4]=false:=by kernel_rfl
theorem s14_6:dropsP [a14 18 0]=true:=by kernel_rfl
theorem ent14_in (w:World) (T A:Int) (hT : 0≤T∧T≤100) (hA : 0≤A∧A≤100):ActIn w (ent14 T A):=
 ⟨by show _≤T∧T≤_;omega,by show 0≤A∧A≤_;omega,by show (0:Int)≤0∧(0:Int)≤_;omega,by simp[ent14,noOx],by simp[ent14,noOx],by simp[ent14,noOx],by simp[ent14,noOx],by simp[ent14,noOx],by simp[ent14],Ints.nil _ _ _,Ints.nil _ _ _,Ints.nil _ _ _,(by intro x hx;cases hx),(by intro x hx;cases hx),(by intro x hx;cases hx),by simp[ent14,noOx]⟩
theorem lit14_3 (w:World):∃W,w.alloc (.cells #[.int .i64 0,.int .u64 3,.int .u64 0,.int .i64 0,.int .i64 0,.bool false,.int .u64 0,.slice none 0 0,.slice none 0 0,.slice none 0 0,.int .i64 18,.int .u64 0,.int .u64 0,.int .i64 0,.int .i64 0,.bool false,.int .u64 0,.slice none 0 0,.slice none 0 0,.slice none 0 0,.int .i64 0,.int .u64 4,.int .u64 0,.int .i64 0,.int .i64 0,.bool false,.int .u64 0,.slice none 0 0,.slice none 0 0,.slice none 0 0] 37)=W∧Below w.heap.size w W∧Acts W (some ⟨w.heap.size,0,none⟩) [ent14 0 3,ent14 18 0,ent14 0 4]∧AllIn W [ent14 0 3,ent14 18 0,ent14 0 4]:=by
 refine⟨_,rfl,below_alloc _ _,acts_box (BoxL.new w (actCells [ent14 0 3,ent14 18 0,ent14 0 4]) 37),fun g hg=>?_⟩
 simp only[List.mem_cons,List.not_mem_nil,or_false]at hg
 rcases hg with rfl|rfl|rfl<;>exact ent14_in _ _ _ (by decide) (by decide)
theorem lit14_1 (w:World) (T A:Int) (hT : 0≤T∧T≤100) (hA : 0≤A∧A≤100):∃W,w.alloc (.cells #[.int .i64 T,.int .u64 A,.int .u64 0,.int .i64 0,.int .i64 0,.bool false,.int .u64 0,.slice none 0 0,.slice none 0 0,.slice none 0 0] 37)=W∧Below w.heap.size w W∧Acts W (some ⟨w.heap.size,0,none⟩) [ent14 T A]∧AllIn W [ent14 T A]:=by
 refine⟨_,rfl,below_alloc _ _,acts_box (BoxL.new w (actCells [ent14 T A]) 37),fun g hg=>?_⟩
 rw[List.mem_singleton.1 hg]
 exact ent14_in _ _ _ hT hA
theorem lit14_2 (w:World):Acts (w.alloc (.cells #[.int .i64 18,.int .u64 0,.int .u64 0,.int .i64 0,.int .i64 0,.bool false,.int .u64 0,.slice none 0 0,.slice none 0 0,.slice none 0 0,.int .i64 0,.int .u64 4,.int .u64 0,.int .i64 0,.int .i64 0,.bool false,.int .u64 0,.slice none 0 0,.slice none 0 0,.slice none 0 0] 37)) (some ⟨w.heap.size,0,none⟩) [ent14 18 0,ent14 0 4]:=
 acts_box (BoxL.new w (actCells [ent14 18 0,ent14 0 4]) 37)
theorem lit14_2in (w:World):AllIn w [ent14 18 0,ent14 0 4]:=by
 intro g hg
 simp only[List.mem_cons,List.not_mem_nil,or_false]at hg
 rcases hg with rfl|rfl<;>exact ent14_in _ _ _ (by decide) (by decide)
set_option maxHeartbeats 4000000 in
theorem sure14_any (w:World):Calls Tryz.prog 5 #[] w fun e w'=>e = .returned (.bool true)∧Below w.heap.size w w':=by
 obtain⟨W1,hW1,hbW1,hA1,hI1⟩:=lit14_3 w
 have HW1:=hid hW1
 have HB1:=hid hbW1
 have G1:=hid (actsetWrite_any W1 none (some ⟨w.heap.size,0,none⟩) 0 3 [] [ent14 0 3,ent14 18 0,ent14 0 4] (Acts.nil _ _) (AllIn.nil _) hA1 hI1 (by decide) (by decide))
 clear hW1 hbW1 hA1 hI1
 go_enter Tryz.func5,Tryz.ntmps5
 go_wp2_with fail
 rw[HW1.out]
 refine G1.out.mono ?_
 rintro e w1 ⟨M1,sa,sc,q,rfl,hb1,hA,hI,hl,hlc,hc63,hw⟩
 rw[show write14 (List.map Ent12.act []) (List.map Ent12.act [ent14 0 3,ent14 18 0,ent14 0 4]) = .ok [a14 18 0,a14 0 4] from s14_1]at hw
 obtain⟨hM1,rfl⟩:M1.map Ent12.act = [a14 18 0,a14 0 4]∧q=0:=by
  rcases hw with⟨h,h2⟩|⟨h,_⟩
  · injection h with h;exact⟨h.symm,h2⟩
  · cases h
 have hl1:M1.length=2:=by have:=congrArg List.length hM1;rwa [List.length_map]at this
 have HB2:=hid (below_on HB1.out hb1)
 obtain⟨W2,hW2,hbW2,hA2,hI2⟩:=lit14_1 w1 22 9 (by decide) (by decide)
 have HW2:=hid hW2
 have HB3:=hid (below_on HB2.out hbW2)
 have G2:=hid (actsetWrite_any W2 sa (some ⟨w1.heap.size,0,none⟩) sc 1 M1 [ent14 22 9] (hA.below hbW2) (hI.below hbW2) hA2 hI2 (by omega) (by decide))
 rw[hl1]at G2 ⊢
 have H1:=hid (And.intro hA (And.intro hI (And.intro hM1 hl1)))
 have HBW2:=hid hbW2
 have hsc:(2:Int)≤(sc:Int):=by omega
 clear hW2 hbW2 hA2 hI2 hb1 hA hI hl hlc hw hM1 hl1
 go_wp2_with fail
 rw[HW2.out]
 refine G2.out.mono ?_
 rintro e w2 ⟨M2,ta,tc,q,rfl,hb2,hA,hI,hl,hlc,hc632,hw⟩
 rw[H1.out.2.2.1,show List.map Ent12.act [ent14 22 9] = [a14 22 9] from rfl,s14_2]at hw
 obtain⟨hM2,rfl⟩:M2.map Ent12.act = [a14 18 0,a14 22 9,a14 0 4]∧q=0:=by
  rcases hw with⟨h,h2⟩|⟨h,_⟩
  · injection h with h;exact⟨h.symm,h2⟩
  · cases h
 have hl2:M2.length=3:=by have:=congrArg List.length hM2;rwa [List.length_map]at this
 have HB4:=hid (below_on HB3.out hb2)
 obtain⟨W3,hW3,hbW3,hA3,hI3⟩:=lit14_1 w2 0 0 (by decide) (by decide)
 have HW3:=hid hW3
 have HB5:=hid (below_on HB4.out hbW3)
 have G3:=hid (actsetWrite_any W3 none (some ⟨w2.heap.size,0,none⟩) 0 1 [] [ent14 0 0] (Acts.nil _ _) (AllIn.nil _) hA3 hI3 (by decide) (by decide))
 rw[hl2]at hlc ⊢
 have H2:=hid (And.intro hA (And.intro hI (And.intro hM2 hl2)))
 have HBW3:=hid hbW3
 have HBB:=hid (below_on HBW2.out hb2)
 have htc:(3:Int)≤(tc:Int):=by omega
 clear hW3 hbW3 hA3 hI3 hb2 hA hI hl hw hM2 hl2 hlc
 go_wp2_with fail
 rw[HW3.out]
 refine G3.out.mono ?_
 rintro e w3 ⟨M3,ua,uc,q,rfl,hb3,-,-,-,-,-,hw⟩
 rw[show write14 (List.map Ent12.act []) (List.map Ent12.act [ent14 0 0]) = .error 10001 from s14_3]at hw
 obtain⟨rfl,rfl⟩:q=10001∧M3 = []:=by
  rcases hw with⟨h,_⟩|⟨_,h1,h2⟩
  · cases h
  · exact⟨h1,h2⟩
 have HB6:=hid (below_on HB5.out hb3)
 have HB7:=hid (below_on HBW3.out hb3)
 have HB8:=hid (below_on HBB.out HB7.out)
 clear hb3
 have hA1:=H1.out.1.below HB8.out
 have hI1:=H1.out.2.1.below HB8.out
 have hA2:=H2.out.1.below HB7.out
 have hI2:=H2.out.2.1.below HB7.out
 have HSA:=hid (fun (V:World) (b c':Nat) (hV:Below w3.heap.size w3 V) (hb:Acts V (some ⟨b,0,none⟩) [ent14 18 0,ent14 0 4])=>refSame13_any M1 [ent14 18 0,ent14 0 4] sa (some ⟨b,0,none⟩) sc c' V (hA1.below hV) hb (hI1.below hV) (lit14_2in V) (by rw[H1.out.2.2.2];decide) (by decide))
 rw[H1.out.2.2.1,H1.out.2.2.2]at HSA
 have HPL:=hid (fun (V:World) (hV:Below w3.heap.size w3 V)=>plan14_any V ta tc M2 (hA2.below hV) (hI2.below hV) (by rw[H2.out.2.2.2];decide) (by rw[H2.out.2.2.2];omega))
 rw[H2.out.2.2.1,H2.out.2.2.2]at HPL
 have hlt2:(M2.take 2).length=2:=by rw[List.length_take,H2.out.2.2.2];rfl
 have HSB:Hid (∀(V:World) (M:List Ent12) (va:Option Addr) (vc:Nat),Below w3.heap.size w3 V→Acts V va M→AllIn V M→M.map Ent12.act=plan14 [a14 18 0,a14 22 9,a14 0 4]→Calls Tryz.prog 8 #[.slice va M.length vc,.slice ta 2 tc] V fun e w'=>e = .returned (.bool true)∧Below V.heap.size V w'):=by
  show ∀_,_
  intro V M va vc hV hM hMI hm
  have h:=refSame13_any M (M2.take 2) va ta vc tc V hM ((hA2.take 2).below hV) hMI (fun g hg=>(hI2 g (List.mem_of_mem_take hg)).below hV) (by have:=congrArg List.length hm;rw[s14_4,List.length_map]at this;rw[this];decide) (by rw[hlt2];decide)
  rw[hlt2,List.map_take,H2.out.2.2.1,hm,s14_4,show decide ([a14 18 0,a14 22 9]=List.take 2 [a14 18 0,a14 22 9,a14 0 4])=true from decide_eq_true rfl]at h
  exact h
 have HD1:=hid (fun (V:World) (hV:Below w3.heap.size w3 V)=>drops14_any V sa sc M1 (hA1.below hV) (hI1.below hV) (by rw[H1.out.2.2.2];decide))
 rw[H1.out.2.2.1,H1.out.2.2.2,s14_5]at HD1
 have hlt1:(M1.take 1).length=1:=by rw[List.length_take,H1.out.2.2.2];rfl
 have HD2:=hid (fun (V:World) (hV:Below w3.heap.size w3 V)=>drops14_any V sa sc (M1.take 1) ((hA1.take 1).below hV) (fun g hg=>(hI1 g (List.mem_of_mem_take hg)).below hV) (by rw[hlt1];decide))
 rw[hlt1,List.map_take,H1.out.2.2.1,show [a14 18 0,a14 0 4].take 1 = [a14 18 0] from rfl,s14_6]at HD2
 have hd1:decide ([a14 18 0,a14 0 4]=List.map Ent12.act [ent14 18 0,ent14 0 4])=true:=decide_eq_true rfl
 rw[hd1,show [ent14 18 0,ent14 0 4].length=2 from rfl]at HSA
 clear hw hA1 hI1 hA2 hI2 hlt1 hlt2 hd1
 go_upto_region 4 with fail
 have hs1:(1:Int)≤(sc:Int):=by omega
 have hs2:(2:Int)≤(tc:Int):=by omega
 go_region_held3 (fun _=>True) (trivial) ((first
  | (go_at_call 8;(with_reducible refine (HSA.out _ _ _ ?_ ?_).mono ?_);((repeat (first|with_reducible exact hq4|with_reducible exact hq3|with_reducible exact hq2|with_reducible exact hq1|with_reducible exact Below.refl _ _|with_reducible refine below_drw ?_|with_reducible refine below_alc ?_)));(first|exact lit14_2 _|exact (lit14_2 _).below (below_drew8 _)|fail);rintro e w4 ⟨rfl,hb4⟩;have hq1:Below w3.heap.size w3 w4:=below_on (by ((repeat (first|with_reducible exact hq4|with_reducible exact hq3|with_reducible exact hq2|with_reducible exact hq1|with_reducible exact Below.refl _ _|with_reducible refine below_drw ?_|with_reducible refine below_alc ?_)))) hb4)
  | (go_at_call 10;(with_reducible refine (HPL.out _ ?_).mono ?_);((repeat (first|with_reducible exact hq4|with_reducible exact hq3|with_reducible exact hq2|with_reducible exact hq1|with_reducible exact Below.refl _ _|with_reducible refine below_drw ?_|with_reducible refine below_alc ?_)));rintro e w5 ⟨M,va,vc,rfl,hb5,hM,hMI,hm⟩;have hq2:Below w3.heap.size w3 w5:=below_on (by ((repeat (first|with_reducible exact hq4|with_reducible exact hq3|with_reducible exact hq2|with_reducible exact hq1|with_reducible exact Below.refl _ _|with_reducible refine below_drw ?_|with_reducible refine below_alc ?_)))) hb5)
  | (go_at_call 8;(with_reducible refine (HSB.out _ M va vc ?_ hM hMI hm).mono ?_);((repeat (first|with_reducible exact hq4|with_reducible exact hq3|with_reducible exact hq2|with_reducible exact hq1|with_reducible exact Below.refl _ _|with_reducible refine below_drw ?_|with_reducible refine below_alc ?_)));rintro e w6 ⟨rfl,hb6⟩;have hq3:Below w3.heap.size w3 w6:=below_on (by ((repeat (first|with_reducible exact hq4|with_reducible exact hq3|with_reducible exact hq2|with_reducible exact hq1|with_reducible exact Below.refl _ _|with_reducible refine below_drw ?_|with_reducible refine below_alc ?_)))) hb6)
  | (go_at_call 11;(with_reducible refine (HD1.out _ ?_).mono ?_);((repeat (first|with_reducible exact hq4|with_reducible exact hq3|with_reducible exact hq2|with_reducible exact hq1|with_reducible exact Below.refl _ _|with_reducible refine below_drw ?_|with_reducible refine below_alc ?_)));rintro e w7 ⟨rfl,hb7⟩;have hq4:Below w3.heap.size w3 w7:=below_on (by ((repeat (first|with_reducible exact hq4|with_reducible exact hq3|with_reducible exact hq2|with_reducible exact hq1|with_reducible exact Below.refl _ _|with_reducible refine below_drw ?_|with_reducible refine below_alc ?_)))) hb7)
  | (go_at_call 11;(with_reducible refine (HD2.out _ ?_).mono ?_);((repeat (first|with_reducible exact hq4|with_reducible exact hq3|with_reducible exact hq2|with_reducible exact hq1|with_reducible exact Below.refl _ _|with_reducible refine below_drw ?_|with_reducible refine below_alc ?_)));rintro e w8 ⟨rfl,hb8⟩;have hq5:Below w3.heap.size w3 w8:=below_on (by ((repeat (first|with_reducible exact hq4|with_reducible exact hq3|with_reducible exact hq2|with_reducible exact hq1|with_reducible exact Below.refl _ _|with_reducible refine below_drw ?_|with_reducible refine below_alc ?_)))) hb8)
  | fail))
 all_goals
  go_wp2_with fail
 exact bodyPost_ret (v:=.bool true) (by simp[results,Tryz.results5,go_sem]) rfl ⟨rfl,below_on HB6.out hq5⟩
end Go.Proofs.YthpdkancighknaaGreat
namespace Go.Proofs.YthpdkancighknaaGreat
open Go.ChangeShapes Go.WideShapes Go.RowKit Go.Deep
set_option linter.unusedVariables false
set_option maxRecDepth 100000
section
variable {H:Type} {enc:TypeId × Value→H} {w:World} {base:Nat} {held:Bool}
def IsActsC (w:World) (a:Option Addr) (len cap:Nat):Prop:=len≤cap∧cap≤9223372036854775807∧IsActs w a len
end
end Go.Proofs.YthpdkancighknaaGreat
namespace Go.Proofs.YthpdkancighknaaGreat
open Go.RowKit
set_option linter.unusedVariables false
set_option maxRecDepth 100000
set_option maxHeartbeats 4000000 in
theorem ActsetWrites_few (l m:List Ent12) (la ma:Option Addr) (lc mc:Nat) (w:World) (hL:Acts w la l) (hM:Acts w ma m) (hll:l.length≤9223372036854775807) (hlm:m.length≤9223372036854775807) (hf:few13 l=false∨few13 m=false):
 Calls Tryz.prog 3 #[.slice la l.length lc,.slice ma m.length mc] w fun e w'=>e = .returned (.bool true)∧Below w.heap.size w w':=by
 have F1:=hid (few13_any l la lc w hL hll)
 have F2:=hid (fun V (hV:Below w.heap.size w V)=>few13_any m ma mc V (hM.below hV) hlm)
 have HS:=hid (fun V=>sure14_any V)
 have ways:few13 l=false∨(few13 l=true∧few13 m=false):=by
  cases h1:few13 l
  · exact .inl rfl
  · rw[h1]at hf;exact .inr ⟨rfl,by rcases hf with h|h;cases h;exact h⟩
 obtain⟨x,hx⟩:∃x,few13 l=x:=⟨_,rfl⟩
 obtain⟨y,hy⟩:∃y,few13 m=y:=⟨_,rfl⟩
 rw[hx]at F1
 rw[hy]at F2
 rw[hx,hy]at ways
 clear hf hL hM hx hy
 rcases ways with rfl|⟨rfl,rfl⟩
 · go_enter Tryz.func3,Tryz.ntmps3
   go_wp2_with fail
   refine F1.out.mono ?_
   rintro e w1 ⟨rfl,hb1⟩
   have HB1:=hid hb1
   clear hb1
   go_wp2_with fail
   refine (HS.out _).mono ?_
   rintro e w2 ⟨rfl,hb2⟩
   have HB2:=hid (below_on HB1.out hb2)
   clear hb2
   go_wp2_with fail
   go_ret
   exact⟨rfl,HB2.out⟩
 · go_enter Tryz.func3,Tryz.ntmps3
   go_wp2_with fail
   refine F1.out.mono ?_
   rintro e w1 ⟨rfl,hb1⟩
   have HB1:=hid hb1
   clear hb1
   go_wp2_with fail
   refine (F2.out _ HB1.out).mono ?_
   rintro e w2 ⟨rfl,hb2⟩
   have HB2:=hid (below_on HB1.out hb2)
   clear hb2
   go_wp2_with fail
   refine (HS.out _).mono ?_
   rintro e w3 ⟨rfl,hb3⟩
   have HB3:=hid (below_on HB2.out hb3)
   clear hb3
   go_wp2_with fail
   go_ret
   exact⟨rfl,HB3.out⟩
set_option maxHeartbeats 4000000 in
theorem ActsetWrites_main (l m:List Ent12) (la ma:Option Addr) (lc mc:Nat) (w:World) (hL:Acts w la l) (hM:Acts w ma m) (hLI:AllIn w l) (hMI:AllIn w m) (hll:l.length≤80) (hlm:m.length≤80) (f1:few13 l=true) (f2:few13 m=true):
 Calls Tryz.prog 3 #[.slice la l.length lc,.slice ma m.length mc] w fun e w'=>e = .returned (.bool true)∧Below w.heap.size w w':=by
 have F1:=few13_any l la lc w hL (by omega)
 rw[f1]at F1
 have F1:=hid F1
 have F2:Hid (∀V (hV:Below w.heap.size w V),Calls Tryz.prog 4 #[.slice ma m.length mc] V fun e w'=>e = .returned (.bool true)∧Below V.heap.size V w'):=by
  show ∀_,_
  intro V hV
  have h:=few13_any m ma mc V (hM.below hV) (by omega)
  rw[f2]at h
  exact h
 have HS:=hid (fun V=>sure14_any V)
 have W1:=hid (fun V (hV:Below w.heap.size w V)=>actsetWrite_any V la ma lc mc l m (hL.below hV) (hLI.below hV) (hM.below hV) (hMI.below hV) (by omega) (by omega))
 have W2:=hid (fun V (hV:Below w.heap.size w V)=>refWrite14_any V la ma lc mc l m (hL.below hV) (hLI.below hV) (hM.below hV) (hMI.below hV) (by omega) (by omega))
 clear hL hM hLI hMI f1 f2
 go_enter Tryz.func3,Tryz.ntmps3
 go_wp2_with fail
 refine F1.out.mono ?_
 rintro e w1 ⟨rfl,hb1⟩
 have HB1:=hid hb1
 clear hb1
 go_wp2_with fail
 refine (F2.out _ HB1.out).mono ?_
 rintro e w2 ⟨rfl,hb2⟩
 have HB2:=hid (below_on HB1.out hb2)
 clear hb2
 go_wp2_with fail
 refine (W1.out _ HB2.out).mono ?_
 rintro e w3 ⟨x,xa,xc,q,rfl,hb3,hxA,hxI,hxl,hxc,hx63,hx⟩
 have HB3:=hid (below_on HB2.out hb3)
 have HX:=hid (And.intro hxA (And.intro hxI (And.intro hxl hx)))
 clear hb3 hxA hxI hxl hx
 go_wp2_with fail
 refine (W2.out _ HB3.out).mono ?_
 rintro e w4 ⟨y,ya,yc,q',rfl,hb4,hyA,hyI,hyl,hy⟩
 have HB4:=hid (below_on HB3.out hb4)
 obtain⟨hxA,hxI,hxl,hx⟩:=HX.out
 rw[List.length_map,List.length_map]at hxl hyl
 obtain⟨hq,hxy⟩:q=q'∧x.map Ent12.act=y.map Ent12.act:=by
  rcases hx with⟨a1,a2⟩|⟨a1,a2,a3⟩
  · rcases hy with⟨b1,b2⟩|⟨b1,_,_⟩
    · rw[a1]at b1
      injection b1 with b1
      exact⟨by rw[a2,b2],b1⟩
    · rw[a1]at b1;cases b1
  · rcases hy with⟨b1,_⟩|⟨_,b2,b3⟩
    · rw[a1]at b1;cases b1
    · exact⟨by rw[a2,b2],by rw[a3,b3]⟩
 subst hq
 have HSM:=refSame13_any x y xa ya xc yc w4 (hxA.below hb4) hyA (hxI.below hb4) hyI (by omega) (by omega)
 rw[decide_eq_true hxy]at HSM
 have HSM:=hid HSM
 clear hb4 hyA hyI hyl hy hxA hxI hxl hx hxy HX W1 W2
 go_wp2_with fail
 refine HSM.out.mono ?_
 rintro e w5 ⟨rfl,hb5⟩
 have HB5:=hid (below_on HB4.out hb5)
 clear hb5
 go_wp2_with fail
 refine (HS.out _).mono ?_
 rintro e w6 ⟨rfl,hb6⟩
 have HB6:=hid (below_on HB5.out hb6)
 clear hb6
 go_wp2_with fail
 go_ret
 exact⟨rfl,HB6.out⟩
theorem ActsetWrites_walk (la ma:Option Addr) (ln lc mn mc:Nat) (w:World) (h0:ln≤9223372036854775807∧IsActs w la ln) (h1:mn≤9223372036854775807∧IsActs w ma mn):
 Calls Tryz.prog 3 #[.slice la ln lc,.slice ma mn mc] w fun e w'=>e = .returned (.bool true)∧Below w.heap.size w w':=by
 obtain⟨hl,l,rfl,aL,iL⟩:=h0
 obtain⟨hm,m,rfl,aM,iM⟩:=h1
 by_cases h:few13 l=true∧few13 m=true
 · obtain⟨f1,f2⟩:=h
   obtain⟨i1,l1,_⟩:=few13_in f1 iL
   obtain⟨i2,l2,_⟩:=few13_in f2 iM
   exact ActsetWrites_main l m la ma lc mc w aL aM i1 i2 l1 l2 f1 f2
 · refine ActsetWrites_few l m la ma lc mc w aL aM hl hm ?_
   cases h1:few13 l
   · exact .inl rfl
   · cases h2:few13 m
     · exact .inr rfl
     · rw[h1,h2]at h;simp at h
end Go.Proofs.YthpdkancighknaaGreat
