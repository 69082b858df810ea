/- Put together out of several texts. -/
import Derived.Test.YthpdkancighknaaGreatA10
import Derived.Test.YthpdkancighknaaGreatA1
import Derived.RangeFuncNested
import Derived.RangeFuncLeaves
import Derived.OwnWalkIn
import Derived.TacticsInMore
import Derived.Test.YthpdkancighknaaGreatA13
import Derived.Test.YthpdkancighknaaGreatA19
import Derived.Test.YthpdkancighknaaGreatA3
import Derived.Test.YthpdkancighknaaGreatA16
namespace Go.Proofs.YthpdkancighknaaGreat
open Go.ChangeShapes Go.WideShapes Go.RowKit Go.Deep
set_option linter.unusedVariables false
set_option maxRecDepth 100000
theorem Ent12.cs_length (g:Ent12):g.cs.length=10:=rfl
def Acts (w:World) (a:Option Addr) (l:List Ent12):Prop:=
 ∀i,(hi:i<l.length) → ∃b off,a=some ⟨b,off,none⟩ ∧ ∀j,j<10→w.cell? ⟨b,off+i*10+j,none⟩=(l[i].cs)[j]?
theorem Acts.ten {w:World} {b off:Nat} {l:List Ent12} (h:Acts w (some ⟨b,off,none⟩) l) (i:Nat) (hi:i<l.length):
 w.cell? ⟨b,off+i*10,none⟩=some (.int .i64 l[i].T)∧w.cell? ⟨b,off+i*10+1,none⟩=some (.int .u64 l[i].A)∧w.cell? ⟨b,off+i*10+2,none⟩=some (.int .u64 l[i].B)∧w.cell? ⟨b,off+i*10+3,none⟩=some (.int .i64 l[i].o.C)∧w.cell? ⟨b,off+i*10+4,none⟩=some (.int .i64 l[i].o.F)∧w.cell? ⟨b,off+i*10+5,none⟩=some (.bool l[i].o.H)∧w.cell? ⟨b,off+i*10+6,none⟩=some (.int .u64 l[i].o.X)∧w.cell? ⟨b,off+i*10+7,none⟩=some (.slice l[i].va l[i].o.v.length l[i].vc)∧w.cell? ⟨b,off+i*10+8,none⟩=some (.slice l[i].ma l[i].o.m.length l[i].mc)∧w.cell? ⟨b,off+i*10+9,none⟩=some (.slice l[i].da l[i].d.length l[i].dc):=by
 obtain⟨b',off',he,hc⟩:=h i hi
 simp only[Option.some.injEq,Addr.mk.injEq]at he
 obtain⟨rfl,rfl,_⟩:=he
 exact⟨hc 0 (by omega),hc 1 (by omega),hc 2 (by omega),hc 3 (by omega),hc 4 (by omega),hc 5 (by omega),hc 6 (by omega),hc 7 (by omega),hc 8 (by omega),hc 9 (by omega)⟩
theorem act_cell (g:Ent12) {j:Nat} (hj:j<10):∃v,(g.cs)[j]? = some v:=⟨_,List.getElem?_eq_getElem (by rw[g.cs_length];exact hj)⟩
theorem Acts.below {w w':World} {a:Option Addr} {l:List Ent12} (h:Acts w a l) (hb:Below w.heap.size w w'):Acts w' a l:=by
 intro i hi
 obtain⟨b,off,ha,hc⟩:=h i hi
 refine⟨b,off,ha,fun j hj=>?_⟩
 obtain⟨v,hv⟩:=act_cell l[i] hj
 have k:=hc j hj
 rw[hv]at k ⊢
 exact cell_keep k hb
theorem Acts.nil (w:World) (a:Option Addr):Acts w a []:=fun i hi=>absurd hi (by simp)
theorem Acts.take {w:World} {a:Option Addr} {l:List Ent12} (h:Acts w a l) (j:Nat):Acts w a (l.take j):=by
 intro i hi
 have hi':i<l.length:=by rw[List.length_take]at hi;omega
 have:=h i hi'
 simpa using this
theorem Acts.kept {w w':World} {a:Option Addr} {l:List Ent12} (h:Acts w a l) (hb:∀q:Addr,a=some q→w'.heap[q.block]? = w.heap[q.block]?):Acts w' a l:=by
 intro i hi
 obtain⟨b,off,ha,h0⟩:=h i hi
 have e:∀k,w'.cell? ⟨b,k,none⟩=w.cell? ⟨b,k,none⟩:=fun k=>World.cell?_of_block (a:=⟨b,k,none⟩) (hb ⟨b,off,none⟩ ha)
 exact⟨b,off,ha,fun j hj=>(e _).trans (h0 j hj)⟩
def actCells (l:List Ent12):List Value:=l.flatMap Ent12.cs
theorem actCells_snoc (l:List Ent12) (h:Ent12):actCells (l ++ [h])=actCells l++h.cs:=by simp[actCells]
theorem actCells_append (l m:List Ent12):actCells (l++m)=actCells l++actCells m:=by simp[actCells]
theorem actCells_length (l:List Ent12):(actCells l).length=l.length*10:=by
 induction l with
 | nil=>rfl
 | cons h l ih=>
   have e:actCells (h::l)=h.cs++actCells l:=by simp[actCells]
   rw[e,List.length_append,ih,h.cs_length,List.length_cons]
   omega
theorem actCells_at (l:List Ent12) (i:Nat) (hi:i<l.length) (j:Nat) (hj:j<10):(actCells l)[i*10+j]? = (l[i].cs)[j]?:=by
 induction l generalizing i with
 | nil=>simp at hi
 | cons h l ih=>
   have e:actCells (h::l)=h.cs++actCells l:=by simp[actCells]
   have hl:h.cs.length=10:=rfl
   rw[e]
   cases i with
   | zero=>rw[Nat.zero_mul,Nat.zero_add,List.getElem?_append_left (by omega)];rfl
   | succ i=>
     rw[List.getElem?_append_right (by omega),hl,show (i+1)*10+j-10=i*10+j by omega]
     exact ih i (by simpa using hi)
theorem own_acts {w:World} {e:TypeId} {v:Value} {l:List Ent12} (h:w.ownsRow 0 e 10 v l.length (actCells l)):
 ∃a c,v = .slice a l.length c∧l.length≤c∧c≤9223372036854775807∧Acts w a l∧(a=none ∨ ∃g,a=some ⟨g,0,none⟩∧v.ownBlock=some g):=by
 rcases h.2 with⟨rfl,h0⟩|⟨g,cap,cur,rfl,_,hg,hnc,hcm,hcs,htake⟩
 · have:l = []:=List.eq_nil_of_length_eq_zero h0
   subst this
   exact⟨none,0,rfl,by simp,by simp,Acts.nil _ _,.inl rfl⟩
 · refine⟨some ⟨g,0,none⟩,cap,rfl,hnc,by unfold maxLen at hcm;omega,?_,.inr ⟨g,rfl,rfl⟩⟩
   have at_:∀j,j<l.length*10→w.cell? ⟨g,0+j,none⟩=(actCells l)[j]?:=by
    intro j hj
    rw[Nat.zero_add,cell_of_row w g j cur e (0,0) hg,←htake,List.getElem?_take,if_pos hj,Array.getElem?_toList]
   intro i hi
   refine⟨g,0,rfl,fun j hj=>?_⟩
   rw[Nat.add_assoc]
   exact (at_ _ (by omega)).trans (actCells_at l i hi j hj)
theorem act_flat (l:List Ent12):∀u∈actCells l,u.oneCell'=true:=by
 intro u hu
 simp only[actCells,List.mem_flatMap]at hu
 obtain⟨h,_,hu⟩:=hu
 simp[Ent12.cs]at hu
 rcases hu with rfl|rfl|rfl|rfl|rfl|rfl|rfl|rfl|rfl|rfl<;>rfl
theorem acts_cells {w:World} {ad:Addr} {l:List Ent12} (h:Acts w (some ad) l):∀j u,(actCells l)[j]? = some u→w.cell? (ad.add j)=some u:=by
 intro j u hj
 have hjl:j<l.length*10:=by
  have:=(List.getElem?_eq_some_iff.1 hj).1
  rwa [actCells_length]at this
 have hi:j/10<l.length:=by omega
 obtain⟨b,off,he,c0⟩:=h (j/10) hi
 obtain rfl:=Option.some.inj he
 have hm:j%10<10:=Nat.mod_lt _ (by omega)
 have e:=actCells_at l (j/10) hi (j%10) hm
 rw[show j/10*10+j%10=j by omega]at e
 rw[e]at hj
 rw[add_none,show off+j=off+j/10*10+j%10 by omega]
 exact (c0 _ hm).trans hj
theorem acts_box {w:World} {b:Nat} {l:List Ent12} (h:BoxL w b (actCells l)):Acts w (some ⟨b,0,none⟩) l:=by
 intro i hi
 refine⟨b,0,rfl,fun j hj=>?_⟩
 have e:=actCells_at l i hi j hj
 obtain⟨v,hv⟩:=act_cell l[i] hj
 rw[hv]at e ⊢
 rw[Nat.zero_add]
 exact h.cell _ _ e
theorem acts_one (w:World) (h:Ent12) (t:TypeId):Acts (w.alloc (.cells h.cs.toArray t)) (some ⟨w.heap.size,0,none⟩) [h]:=
 acts_box (by have:=BoxL.new w h.cs t;simpa [actCells]using this)
def AllIn (w:World) (l:List Ent12):Prop:=∀g∈l,ActIn w g
theorem AllIn.below {w w':World} {l:List Ent12} (h:AllIn w l) (hb:Below w.heap.size w w'):AllIn w' l:=fun g hg=>(h g hg).below hb
theorem AllIn.nil (w:World):AllIn w []:=fun g hg=>absurd hg (by simp)
end Go.Proofs.YthpdkancighknaaGreat
namespace Go.Proofs.YthpdkancighknaaGreat
open Go.ChangeShapes Go.WideShapes Go.RowKit Go.Deep
set_option linter.unusedVariables false
section
variable {H:Type} {enc:TypeId × Value→H} {w:World} {base:Nat} {held:Bool}
set_option maxRecDepth 100000 in
theorem open_act_cells {fuel:Nat} {cs:List Value} {z:DataW H × List MemPlace} (h:DataW.trod enc Tryz.prog w base (fun _=>true) held fuel 37 cs=some z):
 ∃g:Ent12,cs=g.cs∧ActArg w g:=by
 have hC:Tryz.prog.cellsOf 37=10:=by kernel_rfl
 have hCi:Tryz.prog.cellsOf 3=1:=by kernel_rfl
 have hCu:Tryz.prog.cellsOf 32=1:=by kernel_rfl
 have hCo:Tryz.prog.cellsOf 35=6:=by kernel_rfl
 have hCs:Tryz.prog.cellsOf 33=1:=by kernel_rfl
 have hsz:cs.length=10:=by
  obtain⟨_,_,_,_,hlen,_,_⟩:=DataW.trod_struct Tryz.underlying37 h
  rw[hC]at hlen;exact hlen
 match cs,hsz with
 | [v0,v1,v2,v3,v4,v5,v6,v7,v8,v9],_=>
   obtain⟨ys,n',_,_,hlen,hyl,hg⟩:=DataW.trod_struct Tryz.underlying37 h
   have get:∀j,j<5 → ∃y,ys[j]? = some y:=fun j hj=>⟨ys[j]'(by rw[hyl];exact hj),List.getElem?_eq_getElem _⟩
   obtain⟨y0,e0⟩:=get 0 (by decide)
   obtain⟨y1,e1⟩:=get 1 (by decide)
   obtain⟨y2,e2⟩:=get 2 (by decide)
   obtain⟨y3,e3⟩:=get 3 (by decide)
   obtain⟨y4,e4⟩:=get 4 (by decide)
   have g0:DataW.trod enc Tryz.prog w base (fun _=>true) held n' 3 [v0]=some y0:=by have h:=hg 0 _ rfl;rw[e0]at h;simpa [hCi,Value.cells]using h
   have g1:DataW.trod enc Tryz.prog w base (fun _=>true) held n' 32 [v1]=some y1:=by have h:=hg 1 _ rfl;rw[e1]at h;simpa [hCi,hCu,Value.cells]using h
   have g2:DataW.trod enc Tryz.prog w base (fun _=>true) held n' 32 [v2]=some y2:=by have h:=hg 2 _ rfl;rw[e2]at h;simpa [hCi,hCu,Value.cells]using h
   have g3:DataW.trod enc Tryz.prog w base (fun _=>true) held n' 35 [v3,v4,v5,v6,v7,v8]=some y3:=by have h:=hg 3 _ rfl;rw[e3]at h;simpa [hCi,hCu,hCo,Value.cells]using h
   have g4:DataW.trod enc Tryz.prog w base (fun _=>true) held n' 33 [v9]=some y4:=by have h:=hg 4 _ rfl;rw[e4]at h;simpa [hCi,hCu,hCo,hCs,Value.cells]using h
   obtain⟨k0,h0,_,u0⟩:=DataW.trod_int Tryz.underlying3 g0
   obtain⟨k1,h1,_,u1⟩:=DataW.trod_int Tryz.underlying32 g1
   obtain⟨k2,h2,_,u2⟩:=DataW.trod_int Tryz.underlying32 g2
   obtain⟨C,F,G,X,va,vl,vc,ma,ml,mc,bv,bm,he,hin⟩:=open_oxm_cells g3
   obtain⟨da,n9,dc,bd,rfl,q9,i9,o9,r9,t9⟩:=open_bytes8 g4
   simp at h0 h1 h2 he
   obtain⟨rfl,rfl,rfl,rfl,rfl,rfl⟩:=he
   obtain⟨hc,hf2,hx,rfl,rfl,iv,im,ov,om,cv,cm⟩:=hin
   subst q9
   refine⟨⟨k0,k1,k2,⟨C,F,G,X,bv,bm⟩,va,vc,ma,mc,bd,da,dc⟩,by rw[h0,h1,h2];rfl,⟨?_,?_,?_,hc,hf2,hx,iv,im,i9,ov,om,o9,cm.1⟩⟩
   · simp[Lit.wf,IntKind.min,IntKind.max,IntKind.bits,IntKind.signed]at u0;show _≤k0∧k0≤_;omega
   · simp[Lit.wf,IntKind.min,IntKind.max,IntKind.bits,IntKind.signed]at u1;show _≤k1∧k1≤_;omega
   · simp[Lit.wf,IntKind.min,IntKind.max,IntKind.bits,IntKind.signed]at u2;show _≤k2∧k2≤_;omega
def IsActs (w:World) (a:Option Addr) (len:Nat):Prop:=∃l:List Ent12,l.length=len∧Acts w a l ∧ ∀h∈l,ActArg w h
set_option maxRecDepth 100000 in
theorem open_acts_of {T:TypeId} (hT:Tryz.prog.underlying T=some (.slice 37)) {fuel len cap:Nat} {a:Option Addr} {x:DataW H × List MemPlace} (h:DataW.trod enc Tryz.prog w base (fun _=>true) held fuel T [.slice a len cap]=some x):len≤9223372036854775807∧IsActs w a len:=by
 rcases open_slice hT h with⟨hcs,_⟩|⟨p,l,c,m,n,D,Pl,hcs,hb,hl,hm,hmm,hx,hi⟩
 · simp at hcs
   obtain⟨rfl,rfl,rfl⟩:=hcs
   exact⟨by omega,[],rfl,Acts.nil _ _,by simp⟩
 · simp at hcs
   obtain⟨rfl,rfl,rfl⟩:=hcs
   have hC:Tryz.prog.cellsOf 37=10:=by kernel_rfl
   simp at hmm
   have hlen:len≤9223372036854775807:=by unfold maxLen at hm;omega
   have one:∀i,i<len → ∃(b off:Nat) (t:Ent12),p=⟨b,off,none⟩∧(∀j,j<10→w.cell? ⟨b,off+i*10+j,none⟩=t.cs[j]?)∧ActArg w t:=by
    intro i hil
    have hspot:p.spot=none:=by
     obtain⟨cs,hc,ht⟩:=hi 0 (by omega)
     rw[hC]at hc
     obtain⟨_,hcl,hat⟩:=World.cells?_some hc
     have c0:=hat 0 (by omega)
     rw[List.getElem?_eq_getElem (by omega)]at c0
     simpa [Addr.add]using World.cell?_spot c0
    obtain⟨cs,hc,ht⟩:=hi i (by omega)
    rw[hC]at hc
    obtain⟨_,hcl,hat⟩:=World.cells?_some hc
    obtain⟨t,rfl,hin⟩:=open_act_cells ht
    obtain⟨b,off,spot⟩:=p
    simp at hspot
    subst hspot
    refine⟨b,off,t,rfl,fun j hj=>?_,hin⟩
    have:=hat j (by omega)
    rw[add_none,add_none]at this
    exact this
   have all:∀n,n≤len → ∃ts:List Ent12,ts.length=n ∧ ∀i,(hi:i<ts.length) → ∃(b off:Nat),p=⟨b,off,none⟩∧(∀j,j<10→w.cell? ⟨b,off+i*10+j,none⟩=ts[i].cs[j]?)∧ActArg w ts[i]:=by
    intro n
    induction n with
    | zero=>intro _;exact⟨[],rfl,fun i hi=>by simp at hi⟩
    | succ n ih=>
      intro hn
      obtain⟨ts,hts,hall⟩:=ih (by omega)
      obtain⟨b,off,t,hp,r1,r2⟩:=one n (by omega)
      refine⟨ts ++ [t],by simp[hts],fun i hi=>?_⟩
      rcases Nat.lt_or_ge i ts.length with hlt|hge
      · obtain⟨b',off',q1,q2⟩:=hall i hlt
        rw[List.getElem_append_left hlt]
        exact⟨b',off',q1,q2⟩
      · obtain rfl:i=ts.length:=by simp at hi;omega
        rw[List.getElem_append_right (Nat.le_refl _)]
        simp only[Nat.sub_self,List.getElem_cons_zero]
        rw[hts]
        exact⟨b,off,hp,r1,r2⟩
   obtain⟨ts,hts,hall⟩:=all len (Nat.le_refl _)
   refine⟨hlen,ts,hts,?_,?_⟩
   · intro i hi
     obtain⟨b,off,hp,r,_⟩:=hall i hi
     exact⟨b,off,by rw[hp],r⟩
   · intro t ht
     obtain⟨i,hi,rfl⟩:=List.mem_iff_getElem.1 ht
     obtain⟨_,_,_,_,r⟩:=hall i hi
     exact r
theorem open_acts {fuel len cap:Nat} {a:Option Addr} {x:DataW H × List MemPlace} (h:DataW.trod enc Tryz.prog w base (fun _=>true) held fuel 22 [.slice a len cap]=some x):len≤9223372036854775807∧IsActs w a len:=
 open_acts_of Tryz.underlying22 h
end
end Go.Proofs.YthpdkancighknaaGreat
namespace Go.Proofs.YthpdkancighknaaGreat
open Go.RowKit
set_option linter.unusedVariables false
set_option maxRecDepth 100000
structure FreshA (w w':World) (v:Value) (n:Nat) (D:List Ent12):Prop where
 own:w'.ownsRow 0 37 10 v n (actCells D)
 bel:Below w.heap.size w w'
 new:∀g,v.ownBlock=some g→w.heap.size≤g
theorem own_shape12 {W:World} {e:TypeId} {size n:Nat} {v:Value} {xs:List Value} (h:W.ownsRow 0 e size v n xs):∃a c,v = .slice a n c:=by
 rcases h.2 with⟨rfl,rfl⟩|⟨g,cap,cur,rfl,_⟩
 · exact⟨_,_,rfl⟩
 · exact⟨_,_,rfl⟩
theorem FreshA.step {w wr w':World} {v v':Value} {n n':Nat} {D D':List Ent12} (h:FreshA w wr v n D) (k:GrewN 37 10 wr w' v v' n' (actCells D')):FreshA w w' v' n' D':=
 ⟨k.own,h.bel.trans (k.below h.bel.size h.new),k.base h.bel.size h.new⟩
theorem FreshA.behind {w wr w':World} {v:Value} {n:Nat} {D:List Ent12} (h:FreshA w wr v n D) (k:Below wr.heap.size wr w'):FreshA w w' v n D:=
 ⟨h.own.kept (below_by_none k) (by cases h':v.ownBlock<;>simp),below_on h.bel k,h.new⟩
theorem FreshA.empty (w:World):FreshA w (w.alloc (.cells #[] 37)) (.slice (some ⟨w.heap.size,0,none⟩) 0 0) 0 []:=
 ⟨World.ownsRow_made w #[] 0 (Nat.zero_le _) (Nat.zero_le _) rfl,below_alloc _ _,by intro g hg;simp[Value.ownBlock]at hg;omega⟩
theorem FreshA.nil (w:World):FreshA w w (.slice none 0 0) 0 []:=
 ⟨World.ownsRow_nil w 0 _ 10,Below.refl _ _,by intro g hg;cases hg⟩
theorem FreshA.made {w w1 w':World} {v:Value} {n:Nat} {D:List Ent12} (h:Below w.heap.size w w1) (k:FreshA w1 w' v n D):FreshA w w' v n D:=
 ⟨k.own,below_on h k.bel,fun g hg=>Nat.le_trans h.size (k.new g hg)⟩
theorem FreshA.list {w w':World} {va:Option Addr} {n vc:Nat} {D:List Ent12} (h:FreshA w w' (.slice va n vc) n D):D.length=n∧n≤vc∧vc≤9223372036854775807∧Acts w' va D:=by
 have hl:=h.own.1
 rw[actCells_length]at hl
 have hn:D.length=n:=by omega
 have ho:=h.own
 rw[←hn]at ho
 obtain⟨a,c,e,h1,h2,h3,_⟩:=own_acts ho
 cases e
 exact⟨hn,by omega,h2,h3⟩
theorem FreshA.spot {w w':World} {ad:Addr} {n vc:Nat} {D:List Ent12} (h:FreshA w w' (.slice (some ad) n vc) n D):∃g,ad=⟨g,0,none⟩:=by
 have hn:=h.list.1
 have ho:=h.own
 rw[←hn]at ho
 obtain⟨a,c,e,_,_,_,h4⟩:=own_acts ho
 cases e
 rcases h4 with h4|⟨g,h4,_⟩
 · cases h4
 · exact⟨g,Option.some.inj h4⟩
theorem elemAct:ElemN Tryz.prog 22 37 (.agg #[.int .i64 0,.int .u64 0,.int .u64 0,.int .i64 0,.int .i64 0,.bool false,.int .u64 0,.slice none 0 0,.slice none 0 0,.slice none 0 0]) 10 128:=⟨Tryz.underlying22,by kernel_rfl,rfl,by decide⟩
theorem run_app_none12 {ty:TypeId} {w:World} {a:Option Addr} {n cap c:Nat} (hn:n≤cap):
 (Builtin.append_ #[22,22] ty #[.slice a n cap,.slice none 0 c]).run Tryz.prog w = .ok (.slice a n cap) w:=by
 have ht:=Tryz.underlying22
 obtain⟨i,hi⟩:∃i,Tryz.prog.info? 37=some i:=⟨_,rfl⟩
 cases a<;>simp[Builtin.append_,run_underlying ht,sizeOf,typeInfo,hi,Builtin.lenOf,Builtin.firstCells,loadCells,hn,storeCells]
theorem run_app_acts {ty:TypeId} {w0 w:World} {v:Value} {n:Nat} {D:List Ent12} (hf:FreshA w0 w v n D) {sa:Option Addr} {c:Nat} {l:List Ent12} (hO:Acts w sa l) (hb:n+l.length≤1000):
 ∃va' vc' w',(Builtin.append_ #[22,22] ty #[v,.slice sa l.length c]).run Tryz.prog w = .ok (.slice va' (n+l.length) vc') w'∧FreshA w0 w' (.slice va' (n+l.length) vc') (n+l.length) (D++l):=by
 obtain⟨va,vc,rfl⟩:=own_shape12 hf.own
 cases sa with
 | none=>
   have:l = []:=by
    cases l with
    | nil=>rfl
    | cons x r=>obtain⟨b,off,e,_⟩:=hO 0 (by simp);cases e
   subst this
   obtain⟨_,hn,_,_⟩:=hf.list
   rw[List.append_nil]
   exact⟨va,vc,w,run_app_none12 hn,hf⟩
 | some ad=>
   obtain⟨v',w',hr,hg⟩:=run_app_many (P:=Tryz.prog) (ty:=ty) elemAct hf.own ad l.length c (actCells l) (actCells_length l) (acts_cells hO) (act_flat l) (by omega) (by omega)
   obtain⟨va',vc',rfl⟩:=own_shape12 hg.own
   rw[←actCells_append]at hg
   exact⟨va',vc',w',hr,hf.step hg⟩
theorem wp_app_acts {w0 w:World} {ops:Array Oper} {rest:List Oper} {o:Oper} {a:Act} {Q:Exit→Act→World→Prop} (hgd:o.guard=none) (s x:Operand)
 (ho:o.op = .call { callee:=.builtin .append,args:=#[s,x],argTypes:=#[22,22] }) {v:Value} {n:Nat} {D:List Ent12} (hf:FreshA w0 w v n D) (hs:a.eval s=v)
 {sa:Option Addr} {m c:Nat} {l:List Ent12} (hx:a.eval x = .slice sa m c) (hm:l.length=m) (hO:Acts w sa l) (hb:n+m≤1000) {N:Nat} (hN:n+m=N)
 (h:∀va' vc' w',FreshA w0 w' (.slice va' N vc') N (D++l)→wpList Tryz.prog ops Q rest (a.put o.dst (.slice va' N vc')) w'):wpList Tryz.prog ops Q (o::rest) a w:=by
 subst hm
 subst hN
 refine wpList_plain hgd fun K hK=>?_
 obtain⟨va',vc',w',hr,hg⟩:=run_app_acts (ty:=o.type) (c:=c) hf hO hb
 unfold Oper.wp execOp
 simp only[ho,resolve,invoke,builtin,Sem.run_bind,Sem.run_pure,Result.andThen_ok,List.map_toArray,List.map_cons,List.map_nil,hs,hx,hr]
 exact hK _ _ (h va' vc' w' hg)
end Go.Proofs.YthpdkancighknaaGreat
namespace Go.Proofs.YthpdkancighknaaGreat
open Go.RowKit
def YieldsU {α β:Type} (P:Program) (gf:Nat) (lb:Array Value) (enc : α → Array Value) (bad : β → Array Value) (X:List α → α → Nat→World→Prop) (K:Nat→Prop) (S:List α → Prop) (Sp:List α → β → Prop) (N:Nat) (w:World):Prop:=
 ∀(l:Nat) (J:List α → World→Prop) (Jx:List α → β → World→Prop) (W:World),Below w.heap.size w W →
  (∀pre A B,J pre A→Below A.heap.size A B→J pre B) →
  (∀pre x W0 W1,J pre W0→Below W0.heap.size W0 W1→X pre x W0.heap.size W1→pre.length<N→YieldAt Fence.wide 0 P l (enc x) W1 fun e W'=>e = .returned (.bool true)∧J (pre ++ [x]) W'∧W1.heap.size≤W'.heap.size ∧ ∀k,K k→k<W1.heap.size→W'.heap[k]? = W1.heap[k]?) →
  (∀pre q W1,J pre W1→Sp pre q→YieldAt Fence.wide 0 P l (bad q) W1 fun e W'=>e = .returned (.bool false)∧Jx pre q W') →
  J [] W→Calls P gf (#[.func (.yield l) #[] #[]]++lb) W fun e W'=>(∃v,e = .returned v)∧((∃xs,S xs∧J xs W') ∨ ∃pre q,Sp pre q∧Jx pre q W')
def jumpU:Exit→Option Code
 | .ret=>some .ret
 | .exit id=>some (.exit id)
 | .goto t=>some (.goto t)
 | _=>none
def badPostU (c:Code) (B:Nat) (I:World→Prop) (W:World) (e:Exit) (_:Act) (W':World):Prop:=jumpU e=some c∧KeepsFrom B W W'∧I W'
end Go.Proofs.YthpdkancighknaaGreat
namespace Go.Proofs.YthpdkancighknaaGreat
open Go.RowKit
set_option linter.unusedVariables false
set_option maxRecDepth 100000
attribute [local go_sem] Oper.semAt_some
def Stays13 (w w':World):Prop:=w.heap.size≤w'.heap.size ∧ ∀k,k<w.heap.size→w'.heap[k]? = w.heap[k]?
theorem ActIn.ints {w w':World} {g:Ent12} (h:ActIn w g) (hv:Ints .u8 w' g.va g.o.v) (hm:Ints .u8 w' g.ma g.o.m) (hd:Ints .u8 w' g.da g.d):ActIn w' g:=
 ⟨h.t,h.a,h.b,h.c,h.f,h.x,h.lv,h.lm,h.ld,hv,hm,hd,h.ov,h.om,h.od,h.cm⟩
structure PreA (b:List Int) (at_:Nat) (pre:List Ent12):Prop where
 le:at_≤b.length
 few : 8*pre.length≤at_
 most:pre.length≤64
 cut:Hid (∀k,cut13 (pre.length+k) b=match cut13 k (b.drop at_) with
  | .error q=>.error q
  | .ok l=>.ok (pre.map Ent12.act++l))
structure NextA (b:List Int) (pre:List Ent12) (x:Ent12) (n:Nat) (w:World):Prop where
 new:(∀q:Addr,x.va=some q→n≤q.block)∧(∀q:Addr,x.ma=some q→n≤q.block)∧(∀q:Addr,x.da=some q→n≤q.block)
 ent:ActIn w x
 front:∃k,PreA b k (pre ++ [x])
structure LastA (b:List Int) (pre:List Ent12) (s:Ent12 × Int):Prop where
 most:pre.length≤64
 err:pre.length≠64→s.2≠0
 is:cut13 64 b = .error (if pre.length=64 then 520 else s.2)
structure IterA (w0:World) (a:Option Addr) (c p:Nat) (b:List Int) (at_:Nat) (pre:List Ent12) (w:World):Prop where
 front:PreA b at_ pre
 box:w.cell? ⟨p,0,none⟩=some (.slice a b.length c)
 lt:p<w.heap.size
 stays:Stays13 w0 w
def zeroE:Ent12:=⟨0,0,0,noOx,none,0,none,0,[],none,0⟩
end Go.Proofs.YthpdkancighknaaGreat
namespace Go.Proofs.YthpdkancighknaaGreat
open Go.RowKit
set_option linter.unusedVariables false
set_option maxRecDepth 100000
attribute [local go_sem] Oper.semAt_some
structure Cell13 (w:World) (b:Nat) (v:Value):Prop where
 c:w.cell? ⟨b,0,none⟩=some v
 f:w.frozen? ⟨b,0,none⟩=false
structure FarA (S:Nat→Prop) (x:Ent12):Prop where
 v:x.o.v ≠ [] → ∀q:Addr,x.va=some q → ¬S q.block
 m:x.o.m ≠ [] → ∀q:Addr,x.ma=some q → ¬S q.block
 d:x.d ≠ [] → ∀q:Addr,x.da=some q → ¬S q.block
theorem ints_far13 {k:IntKind} {w w':World} {a:Option Addr} {l:List Int} {row:Option Nat} (h:Ints k w a l) (hb:w.grownBy w' row) (hf:l ≠ [] → ∀q:Addr,a=some q→row≠some q.block):Ints k w' a l:=by
 intro i hi
 obtain⟨b,off,ha,hc⟩:=h i hi
 have hne:l ≠ []:=by intro e;rw[e]at hi;simp at hi
 exact⟨b,off,ha,hb.cell hc (fun e=>hf hne ⟨b,off,none⟩ ha e.symm)⟩
theorem ActIn.far {w w':World} {x:Ent12} {row:Option Nat} (h:ActIn w x) (hb:w.grownBy w' row) (hf:FarA (fun k=>row=some k) x):ActIn w' x:=
 h.ints (ints_far13 h.iv hb (fun a q c e=>hf.v a q c e)) (ints_far13 h.im hb (fun a q c e=>hf.m a q c e)) (ints_far13 h.id hb (fun a q c e=>hf.d a q c e))
structure NewA (w0:World) (a:Option Addr) (D:List Ent12):Prop where
 box:∀q:Addr,a=some q→w0.heap.size≤q.block
 far:∀x∈D,FarA (fun k=>k<w0.heap.size) x
structure CutA (w0:World) (B T R2 R3:Nat) (pre:List Ent12) (W:World):Prop where
 v:∃v,Cell13 W T v∧W.ownsRow 0 37 10 v pre.length (actCells pre)∧(∀g,v.ownBlock=some g→B≤g)∧(∀x∈pre,ActIn W x∧FarA (fun k=>k<B∨v.ownBlock=some k) x)
 r2:Cell13 W R2 (.slice none 0 0)
 r3:Cell13 W R3 (.int .i64 0)
 bel:Below w0.heap.size w0 W
 big:B≤W.heap.size
end Go.Proofs.YthpdkancighknaaGreat
namespace Go.Proofs.YthpdkancighknaaGreat
open Go.RowKit
set_option linter.unusedVariables false
set_option maxRecDepth 100000
theorem wp_make_box13 {P:Program} {t e:TypeId} {z:Value} {size bytes:Nat} {w:World} {ops:Array Oper} {rest:List Oper} {o:Oper} {a:Act} {Q:Exit→Act→World→Prop} (hgd:o.guard=none) (x y:Operand)
 (ho:o.op = .makeSlice t x y) (E:ElemN P t e z size bytes) {kl kc:IntKind} {L C:Int} (hx:a.eval x = .int kl L) (hy:a.eval y = .int kc C) {n:Nat} (hL:L=n) (hC:C=n)
 (hbytes:bytes*n≤281474976710656) (h63:n≤281474976710656)
 (h:∀w' R,Hid (R.length=n*size)→BoxL w' w.heap.size R→Below w.heap.size w w'→wpList P ops Q rest (a.put o.dst (.slice (some ⟨w.heap.size,0,none⟩) n n)) w'):wpList P ops Q (o::rest) a w:=by
 obtain⟨i,hi,hz,hs,hb⟩:∃i,P.info? e=some i∧i.zero=some z∧i.size=size∧i.bytes=bytes:=by
  have:=E.info
  cases hi:P.info? e with
  | none=>rw[hi]at this;simp at this
  | some i=>rw[hi]at this;simp at this;exact⟨i,rfl,this⟩
 subst hL
 subst hC
 subst hb
 refine wpList_plain hgd fun K hK=>?_
 have hb':(i.bytes:Int)*(n:Int)≤281474976710656:=by
  have h:((i.bytes*n:Nat):Int)≤281474976710656:=by omega
  rwa [Int.natCast_mul]at h
 have hr:=run_make (P:=P) w t e i z E.under hi hz kl kc n n (by omega) (by omega) hb' (by omega)
 simp only[Int.toNat_natCast,hs]at hr
 unfold Oper.wp
 simp[execOp,ho,hx,hy,hr,Result.andThen]
 refine hK _ _ (h _ (madeCells z.cells (n*size)).toList (by show _=_;rw[Array.length_toList,size_madeCells]) ?_ (below_alloc _ _))
 have:=BoxL.new w (madeCells z.cells (n*size)).toList e
 simpa using this
theorem BoxL.put10 {w:World} {b:Nat} {P R:List Value} {u0 u1 u2 u3 u4 u5 u6 u7 u8 u9:Value} (h:BoxL w b (P++u0::u1::u2::u3::u4::u5::u6::u7::u8::u9::R)) {i:Nat} (hi:P.length=i) (v0 v1 v2 v3 v4 v5 v6 v7 v8 v9:Value):
 BoxL ((((((((((w.setCell ⟨b,i,none⟩ v0).setCell ⟨b,i+1,none⟩ v1).setCell ⟨b,i+2,none⟩ v2).setCell ⟨b,i+3,none⟩ v3).setCell ⟨b,i+4,none⟩ v4).setCell ⟨b,i+5,none⟩ v5).setCell ⟨b,i+6,none⟩ v6).setCell ⟨b,i+7,none⟩ v7).setCell ⟨b,i+8,none⟩ v8).setCell ⟨b,i+9,none⟩ v9) b (P++v0::v1::v2::v3::v4::v5::v6::v7::v8::v9::R):=by
 subst hi
 have:=((((((((((h.set P.length v0 (by simp)).set (P.length+1) v1 (by simp)).set (P.length+2) v2 (by simp)).set (P.length+3) v3 (by simp)).set (P.length+4) v4 (by simp)).set (P.length+5) v5 (by simp)).set (P.length+6) v6 (by simp)).set (P.length+7) v7 (by simp)).set (P.length+8) v8 (by simp)).set (P.length+9) v9 (by simp))
 simpa [List.set_append_right]using this
theorem ten_of {R:List Value} {k:Nat} (h:R.length=(k+1)*10):∃u0 u1 u2 u3 u4 u5 u6 u7 u8 u9 R',R=u0::u1::u2::u3::u4::u5::u6::u7::u8::u9::R'∧R'.length=k*10:=by
 match R,h with
 | u0::u1::u2::u3::u4::u5::u6::u7::u8::u9::R',h=>exact⟨u0,u1,u2,u3,u4,u5,u6,u7,u8,u9,R',rfl,by simp at h;omega⟩
 | [],h=>simp at h
 | [_],h=>simp at h;omega
 | [_,_],h=>simp at h;omega
 | [_,_,_],h=>simp at h;omega
 | [_,_,_,_],h=>simp at h;omega
 | [_,_,_,_,_],h=>simp at h;omega
 | [_,_,_,_,_,_],h=>simp at h;omega
 | [_,_,_,_,_,_,_],h=>simp at h;omega
 | [_,_,_,_,_,_,_,_],h=>simp at h;omega
 | [_,_,_,_,_,_,_,_,_],h=>simp at h;omega
def Apart13 (g:Nat) (h:Ent12):Prop:=∃p q s,h.va=some ⟨p,0,none⟩∧h.ma=some ⟨q,0,none⟩∧h.da=some ⟨s,0,none⟩∧g<p∧g<q∧g<s
theorem Apart13.far {g:Nat} {h:Ent12} (k:Apart13 g h):FarA (fun j=>some g=some j) h:=by
 obtain⟨p,q,s,e1,e2,e3,g1,g2,g3⟩:=k
 exact⟨fun _ x hx e=>by rw[e1]at hx;cases hx;simp at e;omega,fun _ x hx e=>by rw[e2]at hx;cases hx;simp at e;omega,fun _ x hx e=>by rw[e3]at hx;cases hx;simp at e;omega⟩
def CopyPost13 (w:World) (l:List Ent12) (e:Ending) (w':World):Prop:=
 ∃M:List Ent12,e = .returned (.slice (some ⟨w.heap.size,0,none⟩) l.length l.length)∧M.length=l.length∧M.map Ent12.act=l.map Ent12.act∧Acts w' (some ⟨w.heap.size,0,none⟩) M∧AllIn w' M∧Below w.heap.size w w'
set_option maxHeartbeats 4000000 in
theorem copy13_any (w:World) (a:Option Addr) (c:Nat) (l:List Ent12) (hL:Acts w a l) (hI:AllIn w l) (hll:l.length≤1000):
 Calls Tryz.prog 16 #[.slice a l.length c] w (CopyPost13 w l):=by
 obtain⟨N,hN⟩:∃N,N=l.length:=⟨_,rfl⟩
 have hl':N≤1000:=by omega
 have HN:=hid hN
 have HO:=hid hL
 have HI:=hid hI
 unfold CopyPost13
 rw[←hN]
 clear hN hL hI hll
 go_enter Tryz.func16,Tryz.ntmps16
 go_wp2_with (at_make;refine wp_make_box13 rfl _ _ rfl elemAct rfl rfl rfl rfl (by omega) (by omega) ?_;intro w1 R hR hB hb1)
 have HB1:=hid hb1
 go_loopg [11] N (fun kx s11 wr=>∃(i:Nat) (D:List Ent12) (R:List Value),s11 = .int .i64 i∧i≤N∧N-i≤kx∧Hid (D.length=i)∧Hid (R.length=(N-i)*10)∧Hid (BoxL wr w.heap.size (actCells D++R))∧Hid (Below w.heap.size w wr)∧Hid (D.map Ent12.act=(l.take i).map Ent12.act)∧Hid (∀h∈D,ActIn wr h∧Apart13 w.heap.size h))
 case atStart=>exact⟨0,[],R,rfl,by omega,by omega,rfl,hR,hB,hb1,rfl,(by simp[Hid])⟩
 case round=>
  clear hB hb1
  obtain⟨i,D,R,rfl,hi,hkx,lD,lR,hB,hb,hD,hF⟩:=hrel
  by_cases hlt:i<N
  · have hltz:(i:Int)<(N:Int):=by omega
    have hn:=HN.out
    have hil:i<l.length:=by omega
    obtain⟨b,off,rfl,-⟩:=(HO.out.below hb.out) i hil
    obtain⟨c0,c1,c2,c3,c4,c5,c6,c7,c8,c9⟩:=(HO.out.below hb.out).ten i hil
    have hEin:=(HI.out l[i] (List.getElem_mem hil)).below hb.out
    generalize hh:l[i]=h at c0 c1 c2 c3 c4 c5 c6 c7 c8 c9 hEin
    have HH:=hid hh
    have HE:=hid hEin
    obtain⟨W,hW,hbW,hbx0⟩:=act_box wr h.T h.A h.B h.o.C h.o.F h.o.H h.o.X h.va h.o.v.length h.vc h.ma h.o.m.length h.mc h.da h.d.length h.dc
    have HW:=hid hW
    have HBW:=hid hbW
    have HBX0:=hid hbx0
    have hgn:w.heap.size<wr.heap.size:=hB.out.lt
    have HCP:=hid (actCopy_any h W (hEin.below hbW))
    clear hn hh hEin hW hbW hbx0
    go_upto_region 5 with fail
    rw[HW.out]
    clear c0 c1 c2 c3 c4 c5 c6 c7 c8 c9
    obtain⟨d0,d1,d2,d3,d4,d5,d6,d7,d8,d9⟩:=HBX0.out.ten
    go_wp2_with fail
    refine HCP.out.mono ?_
    rintro e w2 ⟨p,q,s,rfl,hb2,hf1,hf2,hf3,hpq,hWp,hs0⟩
    have HB2:=hid hb2
    have HF1:=hid hf1
    have HF2:=hid hf2
    have HF3:=hid hf3
    have HP:=hid (And.intro hpq (And.intro hWp hs0))
    have hbx:=(hB.out.below HBW.out).below hb2
    obtain⟨k,hk⟩:∃k,N-i=k+1:=⟨N-i-1,by omega⟩
    obtain⟨u0,u1,u2,u3,u4,u5,u6,u7,u8,u9,R',rfl,hR'⟩:=ten_of (R:=R) (k:=k) (by rw[lR.out,hk])
    have hc:(actCells D).length=i*10:=by rw[actCells_length,lD.out]
    have k0:=hbx.cell (i*10) u0 (by rw[List.getElem?_append_right (by omega)];simp[hc])
    have k1:=hbx.cell (i*10+1) u1 (by rw[List.getElem?_append_right (by omega)];simp[hc])
    have k2:=hbx.cell (i*10+2) u2 (by rw[List.getElem?_append_right (by omega)];simp[hc])
    have k3:=hbx.cell (i*10+3) u3 (by rw[List.getElem?_append_right (by omega)];simp[hc])
    have k4:=hbx.cell (i*10+4) u4 (by rw[List.getElem?_append_right (by omega)];simp[hc])
    have k5:=hbx.cell (i*10+5) u5 (by rw[List.getElem?_append_right (by omega)];simp[hc])
    have k6:=hbx.cell (i*10+6) u6 (by rw[List.getElem?_append_right (by omega)];simp[hc])
    have k7:=hbx.cell (i*10+7) u7 (by rw[List.getElem?_append_right (by omega)];simp[hc])
    have k8:=hbx.cell (i*10+8) u8 (by rw[List.getElem?_append_right (by omega)];simp[hc])
    have k9:=hbx.cell (i*10+9) u9 (by rw[List.getElem?_append_right (by omega)];simp[hc])
    have z:=hbx.free
    have HBX:=hid hbx
    have HR':=hid hR'
    have HC:=hid hc
    have HK:=hid hk
    clear hbx hR' hc hk hb2 hf1 hf2 hf3 hpq hWp hs0 d0 d1 d2 d3 d4 d5 d6 d7 d8 d9
    go_wp2_with fail
    have hB3:=HBX.out.put10 HC.out (.int .i64 h.T) (.int .u64 h.A) (.int .u64 h.B) (.int .i64 h.o.C) (.int .i64 h.o.F) (.bool h.o.H) (.int .u64 h.o.X) (.slice (some ⟨p,0,none⟩) h.o.v.length h.o.v.length) (.slice (some ⟨q,0,none⟩) h.o.m.length h.o.m.length) (.slice (some ⟨s,0,none⟩) h.d.length h.d.length)
    have hby:=(grownBy_then (grownBy_then (grownBy_then (grownBy_then (grownBy_then (grownBy_then (grownBy_then (grownBy_then (grownBy_then (by_setCell w2 w.heap.size (i*10) (.int .i64 h.T)) (by_setCell _ w.heap.size (i*10+1) (.int .u64 h.A))) (by_setCell _ w.heap.size (i*10+2) (.int .u64 h.B))) (by_setCell _ w.heap.size (i*10+3) (.int .i64 h.o.C))) (by_setCell _ w.heap.size (i*10+4) (.int .i64 h.o.F))) (by_setCell _ w.heap.size (i*10+5) (.bool h.o.H))) (by_setCell _ w.heap.size (i*10+6) (.int .u64 h.o.X))) (by_setCell _ w.heap.size (i*10+7) (.slice (some ⟨p,0,none⟩) h.o.v.length h.o.v.length))) (by_setCell _ w.heap.size (i*10+8) (.slice (some ⟨q,0,none⟩) h.o.m.length h.o.m.length))) (by_setCell _ w.heap.size (i*10+9) (.slice (some ⟨s,0,none⟩) h.d.length h.d.length)))
    generalize ((((((((((w2.setCell ⟨w.heap.size,i*10,none⟩ (.int .i64 h.T)).setCell ⟨w.heap.size,i*10+1,none⟩ (.int .u64 h.A)).setCell ⟨w.heap.size,i*10+2,none⟩ (.int .u64 h.B)).setCell ⟨w.heap.size,i*10+3,none⟩ (.int .i64 h.o.C)).setCell ⟨w.heap.size,i*10+4,none⟩ (.int .i64 h.o.F)).setCell ⟨w.heap.size,i*10+5,none⟩ (.bool h.o.H)).setCell ⟨w.heap.size,i*10+6,none⟩ (.int .u64 h.o.X)).setCell ⟨w.heap.size,i*10+7,none⟩ (.slice (some ⟨p,0,none⟩) h.o.v.length h.o.v.length)).setCell ⟨w.heap.size,i*10+8,none⟩ (.slice (some ⟨q,0,none⟩) h.o.m.length h.o.m.length)).setCell ⟨w.heap.size,i*10+9,none⟩ (.slice (some ⟨s,0,none⟩) h.d.length h.d.length))=w3 at hB3 hby ⊢
    go_roundg (N-(i+1))
    case measure=>omega
    case rel=>
     have hw2:Below w.heap.size w w2:=below_on (below_on hb.out HBW.out) HB2.out
     have hWs:wr.heap.size≤W.heap.size:=HBW.out.size
     obtain⟨hpq,hWp,hs0⟩:=HP.out
     have hap:Apart13 w.heap.size ⟨h.T,h.A,h.B,h.o,some ⟨p,0,none⟩,h.o.v.length,some ⟨q,0,none⟩,h.o.m.length,h.d,some ⟨s,0,none⟩,h.d.length⟩:=⟨p,q,s,rfl,rfl,rfl,by omega,by omega,by omega⟩
     refine⟨i+1,D ++ [⟨h.T,h.A,h.B,h.o,some ⟨p,0,none⟩,h.o.v.length,some ⟨q,0,none⟩,h.o.m.length,h.d,some ⟨s,0,none⟩,h.d.length⟩],R',by first|rfl|go_num,by omega,Nat.le_refl _,?_,?_,?_,hw2.grown hby hw2.size (by intro k hk;simp at hk;omega),?_,?_⟩
     · show _=_;rw[List.length_append,lD.out];rfl
     · show _=_;rw[HR'.out];have:=HK.out;omega
     · show BoxL _ _ _
       rw[actCells_snoc]
       simpa [Ent12.cs]using hB3
     · show _=_
       rw[List.map_append,hD.out,List.take_add_one,List.getElem?_eq_getElem hil,HH.out]
       simp[Ent12.act]
     · show ∀_,_
       intro h' hm
       rcases List.mem_append.1 hm with hm|hm
       · obtain⟨e1,e2⟩:=hF.out h' hm
         exact⟨((e1.below HBW.out).below HB2.out).far hby e2.far,e2⟩
       · obtain rfl:=List.mem_singleton.1 hm
         have hx:=HE.out
         refine⟨ActIn.far (w:=w2) ⟨hx.t,hx.a,hx.b,hx.c,hx.f,hx.x,hx.lv,hx.lm,hx.ld,fresh_ints8 HF1.out,fresh_ints8 HF2.out,fresh_ints8 HF3.out,hx.ov,hx.om,hx.od,Nat.le_refl _⟩ hby hap.far,hap⟩
  · have hltz:(N:Int)≤(i:Int):=by omega
    obtain rfl:i=N:=by omega
    have hR0:R = []:=List.eq_nil_of_length_eq_zero (by rw[lR.out];omega)
    have hBD:BoxL wr w.heap.size (actCells D):=by have:=hB.out;rw[hR0,List.append_nil]at this;exact this
    have HBD:=hid hBD
    clear hBD hR0
    go_wp2_with fail
    refine bodyPost_ret (v:=.slice (some ⟨w.heap.size,0,none⟩) i i) (by simp[results,Tryz.results16,go_sem]) rfl ⟨D,rfl,lD.out,?_,acts_box HBD.out,fun x hx=>(hF.out x hx).1,hb.out⟩
    rw[hD.out,List.take_of_length_le (by have:=HN.out;omega)]
instance actDec:DecidableEq Act12:=fun a b=>decidable_of_iff _ (same12_iff a b)
def size13 (l:List Act12):Nat:=match enc13 l with
 | .ok x=>x.length
 | .error _=>0
def right13 (l:List Act12):Bool:=match enc13 l with
 | .ok _=>true
 | .error _=>false
set_option maxHeartbeats 4000000 in
theorem refSame13_any (l m:List Ent12) (a b:Option Addr) (c d:Nat) (w:World) (hI:Acts w a l) (hJ:Acts w b m) (aI:AllIn w l) (aJ:AllIn w m) (hll:l.length≤1000) (hlm:m.length≤1000):
 Calls Tryz.prog 8 #[.slice a l.length c,.slice b m.length d] w fun e w'=>e = .returned (.bool (decide (l.map Ent12.act=m.map Ent12.act)))∧Below w.heap.size w w':=by
 obtain⟨r,hr⟩:∃r,decide (l.map Ent12.act=m.map Ent12.act)=r:=⟨_,rfl⟩
 rw[hr]
 have HR:=hid hr
 have HI:=hid (And.intro hI aI)
 have HJ:=hid (And.intro hJ aJ)
 clear hr hI hJ aI aJ
 by_cases hlen:l.length=m.length
 · obtain⟨N,hN⟩:∃N,N=l.length:=⟨_,rfl⟩
   have hM:m.length=N:=by omega
   rw[hM,←hN]
   have HN:=hid (And.intro hN hM)
   have hN':N≤1000:=by omega
   clear hN hM hlen hll hlm
   go_enter Tryz.func8,Tryz.ntmps8
   go_wp2_with fail
   go_loopg [5] N (fun kx s5 wr=>∃(i:Nat),s5 = .int .i64 i∧i≤N∧N-i≤kx∧Hid ((l.map Ent12.act).take i=(m.map Ent12.act).take i)∧Hid (Below w.heap.size w wr))
   case atStart=>exact⟨0,rfl,by omega,by omega,rfl,Below.refl _ _⟩
   case round=>
    obtain⟨i,rfl,hi,hkx,hn,hb⟩:=hrel
    by_cases hlt:i<N
    · have hltz:(i:Int)<(N:Int):=by omega
      have hN1:=HN.out.1
      have hN2:=HN.out.2
      have hl:=HI.out.1.below hb.out
      have hm:=HJ.out.1.below hb.out
      obtain⟨b1,o1,rfl,-⟩:=hl i (by omega)
      obtain⟨b2,o2,rfl,-⟩:=hm i (by omega)
      obtain⟨c0,c1,c2,c3,c4,c5,c6,c7,c8,c9⟩:=hl.ten i (by omega)
      obtain⟨k0,k1,k2,k3,k4,k5,k6,k7,k8,k9⟩:=hm.ten i (by omega)
      have e1:=HI.out.2 l[i] (List.getElem_mem (by omega))
      have e2:=HJ.out.2 m[i] (List.getElem_mem (by omega))
      have g1:(l.map Ent12.act)[i]? = some l[i].act:=by simp[show i<l.length by omega]
      have g2:(m.map Ent12.act)[i]? = some m[i].act:=by simp[show i<m.length by omega]
      generalize l[i]=x at c0 c1 c2 c3 c4 c5 c6 c7 c8 c9 e1 g1
      generalize m[i]=y at k0 k1 k2 k3 k4 k5 k6 k7 k8 k9 e2 g2
      have HS:=hid (fun j:Wk wr=>Wk.call (refActSame_any x y j.val (e1.below (below_on hb.out j.bel)) (e2.below (below_on hb.out j.bel))))
      have d0:=Wk.cell c0
      have d1:=Wk.cell c1
      have d2:=Wk.cell c2
      have d3:=Wk.cell c3
      have d4:=Wk.cell c4
      have d5:=Wk.cell c5
      have d6:=Wk.cell c6
      have d7:=Wk.cell c7
      have d8:=Wk.cell c8
      have d9:=Wk.cell c9
      have u0:=Wk.cell k0
      have u1:=Wk.cell k1
      have u2:=Wk.cell k2
      have u3:=Wk.cell k3
      have u4:=Wk.cell k4
      have u5:=Wk.cell k5
      have u6:=Wk.cell k6
      have u7:=Wk.cell k7
      have u8:=Wk.cell k8
      have u9:=Wk.cell k9
      obtain⟨sv,hsv⟩:∃sv,same12 x.act y.act=sv:=⟨_,rfl⟩
      rw[hsv]at HS
      have hiff:=same12_iff x.act y.act
      rw[hsv]at hiff
      have HIF:=hid hiff
      have HG:=hid (And.intro g1 g2)
      clear hl hm e1 e2 g1 g2 hsv hiff hN1 hN2 c0 c1 c2 c3 c4 c5 c6 c7 c8 c9 k0 k1 k2 k3 k4 k5 k6 k7 k8 k9
      go_upto_region 6 with fail
      refine wp_region_wk (by kernel_rfl) (by kernel_rfl) ?_
      repeat (go_big_quiet_step (first|(go_at_call 21;exact HS.out _)|fail))
      refine wpQuiet_nil ?_
      rintro w6 ⟨⟨_,hb6⟩,rfl⟩
      clear d0 d1 d2 d3 d4 d5 d6 d7 d8 d9 u0 u1 u2 u3 u4 u5 u6 u7 u8 u9
      have HB6:=hid (below_on hb.out hb6)
      clear hb6
      cases sv
      · have hrf:r=false:=by
         rw[←HR.out,decide_eq_false_iff_not]
         intro e
         have h1:=HG.out.1
         rw[e,HG.out.2]at h1
         have h2:y.act=x.act:=by simpa using h1
         have:=HIF.out.2 h2.symm
         cases this
        go_wp2_with fail
        refine bodyPost_ret (v:=.bool false) (by simp[results,Tryz.results8,go_sem]) rfl ⟨by rw[hrf],HB6.out⟩
      · have hxy:=HIF.out.1 rfl
        have hn2:(l.map Ent12.act).take (i+1)=(m.map Ent12.act).take (i+1):=by
         rw[List.take_add_one,List.take_add_one,hn.out,HG.out.1,HG.out.2,hxy]
        have HN2:=hid hn2
        clear hxy hn2
        go_wp2_with fail
        go_roundg (N-(i+1))
        case rel=>exact⟨i+1,by go_num,by omega,by omega,HN2.out,HB6.out⟩
        case measure=>omega
    · have hge:(N:Int)≤(i:Int):=by omega
      have hrt:r=true:=by
       rw[←HR.out,decide_eq_true_iff]
       have h:=hn.out
       rw[List.take_of_length_le (by rw[List.length_map];have:=HN.out.1;omega),List.take_of_length_le (by rw[List.length_map];have:=HN.out.2;omega)]at h
       exact h
      have HRT:=hid hrt
      clear hrt
      go_wp2_with fail
      exact bodyPost_ret (v:=.bool true) (by simp[results,Tryz.results8,go_sem]) rfl ⟨by rw[HRT.out],hb.out⟩
 · have hne:((l.length:Int) != (m.length:Int))=true:=by simp;omega
   have hrf:r=false:=by
    rw[←HR.out,decide_eq_false_iff_not]
    intro e
    have:=congrArg List.length e
    rw[List.length_map,List.length_map]at this
    exact hlen this
   have HRF:=hid hrf
   clear hrf hlen
   go_enter Tryz.func8,Tryz.ntmps8
   go_wp2_with fail
   exact bodyPost_ret (v:=.bool false) (by simp[results,Tryz.results8,go_sem]) rfl ⟨by rw[HRF.out],Below.refl _ _⟩
def few12 (g:Ent12):Bool:=decide (g.o.v.length≤300∧g.o.m.length≤300)&&decide (g.d.length≤500)
def few13 (l:List Ent12):Bool:=l.all few12&&decide (l.length≤80)
theorem few13_in {w:World} {l:List Ent12} (h:few13 l=true) (ha:∀g∈l,ActArg w g):AllIn w l∧l.length≤80 ∧ ∀g∈l,g.o.v.length≤300∧g.o.m.length≤300∧g.d.length≤500:=by
 unfold few13 at h
 simp only[Bool.and_eq_true,decide_eq_true_eq,List.all_eq_true]at h
 exact⟨fun g hg=>((ha g hg).few (h.1 g hg)).1,h.2,fun g hg=>((ha g hg).few (h.1 g hg)).2⟩
set_option maxHeartbeats 4000000 in
theorem few13_any (l:List Ent12) (a:Option Addr) (c:Nat) (w:World) (hL:Acts w a l) (hll:l.length≤9223372036854775807):
 Calls Tryz.prog 4 #[.slice a l.length c] w fun e w'=>e = .returned (.bool (few13 l))∧Below w.heap.size w w':=by
 obtain⟨r,hr⟩:∃r,few13 l=r:=⟨_,rfl⟩
 rw[hr]
 have HR:=hid hr
 have HL:=hid hL
 obtain⟨N,hN⟩:∃N,N=l.length:=⟨_,rfl⟩
 have HN:=hid hN
 rw[←hN]at hll ⊢
 clear hr hL hN
 go_enter Tryz.func4,Tryz.ntmps4
 go_wp2_with fail
 go_loopg [3] N (fun kx s3 wr=>∃(i:Nat),s3 = .int .i64 i∧i≤N∧N-i≤kx∧Hid ((l.take i).all few12=true)∧Hid (Below w.heap.size w wr))
 case atStart=>exact⟨0,rfl,by omega,by omega,rfl,Below.refl _ _⟩
 case round=>
  obtain⟨i,rfl,hi,hkx,hn,hb⟩:=hrel
  by_cases hlt:i<N
  · have hltz:(i:Int)<(N:Int):=by omega
    have hil:i<l.length:=by have:=HN.out;omega
    obtain⟨b,off,rfl,-⟩:=HL.out i hil
    obtain⟨c0,c1,c2,c3,c4,c5,c6,c7,c8,c9⟩:=(HL.out.below hb.out).ten i hil
    have hg:l[i]? = some l[i]:=List.getElem?_eq_getElem hil
    generalize l[i]=g at c0 c1 c2 c3 c4 c5 c6 c7 c8 c9 hg
    have HF:=hid (actFew_any g.T g.A g.B g.o.C g.o.F g.o.H g.o.X g.va g.o.v.length g.vc g.ma g.o.m.length g.mc g.da g.d.length g.dc wr)
    obtain⟨f,hf⟩:∃f,(decide (g.o.v.length≤300∧g.o.m.length≤300)&&decide (g.d.length≤500))=f:=⟨_,rfl⟩
    rw[hf]at HF
    have HFE:Hid (few12 g=f):=hf
    have HG:=hid hg
    clear hf hg
    go_wp2_with fail
    refine HF.out.mono ?_
    rintro e w2 ⟨rfl,hb2⟩
    have HB2:=hid (below_on hb.out hb2)
    clear hb2 c0 c1 c2 c3 c4 c5 c6 c7 c8 c9
    cases f
    · have hrf:r=false:=by
       rw[←HR.out]
       unfold few13
       have:l.all few12=false:=List.all_eq_false.2 ⟨g,List.mem_of_getElem? HG.out,by rw[HFE.out];simp⟩
       rw[this];rfl
      go_wp2_with fail
      refine bodyPost_ret (v:=.bool false) (by simp[results,Tryz.results4,go_sem]) rfl ⟨by rw[hrf],HB2.out⟩
    · have hn2:(l.take (i+1)).all few12=true:=by
       rw[List.take_add_one,HG.out,List.all_append,hn.out]
       simp[HFE.out]
      have HN2:=hid hn2
      clear hn2
      go_wp2_with fail
      go_roundg (N-(i+1))
      case rel=>exact⟨i+1,by go_num,by omega,by omega,HN2.out,HB2.out⟩
      case measure=>omega
  · have hge:(N:Int)≤(i:Int):=by omega
    have hrt:r=decide (N≤80):=by
     have h:=hn.out
     rw[List.take_of_length_le (by have:=HN.out;omega)]at h
     rw[←HR.out,HN.out]
     unfold few13
     rw[h,Bool.true_and]
    have hre:decide ((N:Int)≤80)=r:=by
     rw[hrt]
     exact decide_eq_decide.2 (by omega)
    have HRE:=hid hre
    clear hrt hre
    go_wp2_with fail
    exact bodyPost_ret (v:=.bool (decide ((N:Int)≤80))) (by simp[results,Tryz.results4,go_sem]) rfl ⟨by rw[HRE.out],hb.out⟩
end Go.Proofs.YthpdkancighknaaGreat
