/- Put together out of several texts. -/
import Derived.Test.YthpdkancighknaaGreatRows
import Derived.WalkKit
import Derived.WalkLawsBesides
import Derived.WalkSmall
import Derived.Laws.CopyOwn
import Derived.OneCell
import Derived.OwnWalkIn
import Derived.Deep.QuietTactic
import Derived.BigQuiet
import Derived.Laws.BitsAllLaws
import Derived.RangeFuncNested
import Derived.RangeFuncLeaves
import Derived.TacticsInMore
namespace Go.Proofs.YthpdkancighknaaGreat
open Go.RowKit
def Ints (k:IntKind) (w:World) (a:Option Addr) (l:List Int):Prop:=
 ∀i,i<l.length → ∃b off,a=some ⟨b,off,none⟩∧w.cell? ⟨b,off+i,none⟩=some (.int k (l.getD i 0))
theorem Ints.nil (k:IntKind) (w:World) (a:Option Addr):Ints k w a []:=fun i h=>absurd h (by simp)
theorem Ints.below {k:IntKind} {w w':World} {a:Option Addr} {l:List Int} (h:Ints k w a l) (hb:Below w.heap.size w w'):Ints k w' a l:=by
 intro i hi
 obtain⟨b,off,ha,hc⟩:=h i hi
 exact⟨b,off,ha,(hb.cell (World.block_lt_of_cell? w _ hc)).trans hc⟩
theorem Ints.at {k:IntKind} {w:World} {a:Option Addr} {l:List Int} (h:Ints k w a l) {i:Nat} (hi:i<l.length):
 ∃b off x,a=some ⟨b,off,none⟩∧w.cell? ⟨b,off+i,none⟩=some (.int k x)∧Hid (l[i]? = some x):=by
 obtain⟨b,off,ha,hc⟩:=h i hi
 exact⟨b,off,l[i],ha,by rw[hc];simp[List.getD,List.getElem?_eq_getElem hi],by unfold Hid;exact List.getElem?_eq_getElem hi⟩
theorem Ints.drop {k:IntKind} {w:World} {b off:Nat} {l:List Int} (h:Ints k w (some ⟨b,off,none⟩) l) {j cap:Nat} (hc:l.length≤cap):Ints k w (if cap=j then some ⟨b,off,none⟩ else some ⟨b,off+j,none⟩) (l.drop j):=by
 intro i hi
 rw[List.length_drop]at hi
 obtain⟨b',off',he,hcell⟩:=h (j+i) (by omega)
 simp at he
 obtain⟨rfl,rfl⟩:=he
 refine⟨b,off+j,by rw[if_neg (by omega)],?_⟩
 rw[Nat.add_assoc,hcell]
 simp[List.getD]
theorem Ints.take {k:IntKind} {w:World} {a:Option Addr} {l:List Int} (h:Ints k w a l) (j:Nat):Ints k w a (l.take j):=by
 intro i hi
 rw[List.length_take]at hi
 obtain⟨b',off',he,hcell⟩:=h i (by omega)
 refine⟨b',off',he,?_⟩
 rw[hcell]
 simp[List.getD,show i<j by omega]
theorem hid {p:Prop} (h:p):Hid p:=h
theorem cell_keep {w w':World} {p:Addr} {x:Value} (hc:w.cell? p=some x) (hb:Below w.heap.size w w'):w'.cell? p=some x:=
 (hb.cell (World.block_lt_of_cell? w _ hc)).trans hc
theorem ret_bool {a b:Bool} (h:a=b):Ending.returned (.bool a) = .returned (.bool b):=by rw[h]
theorem ret_int {k:IntKind} {a b:Int} (h:a=b):Ending.returned (.int k a) = .returned (.int k b):=by rw[h]
end Go.Proofs.YthpdkancighknaaGreat
namespace Go.Proofs.YthpdkancighknaaGreat
open Go.RowKit
structure Elem (P:Program) (t e:TypeId) (z:Value) (bytes:Nat):Prop where
 under:P.underlying t=some (.slice e)
 info:(P.info? e).map (fun i=>(i.zero,i.size,i.bytes))=some (some z,1,bytes)
 one:z.cells = #[z]
def Moved (w:World) (v v':Value):Prop:=v'.ownBlock=v.ownBlock ∨ ∃g,v'.ownBlock=some g∧w.heap.size≤g
structure Grew (e:TypeId) (w w':World) (v v':Value) (xs:List Value):Prop where
 own:w'.ownsRow 0 e 1 v' xs.length xs
 by_:w.grownBy w' v.ownBlock
 moved:Moved w v v'
theorem Grew.refl {e:TypeId} {w:World} {v:Value} {xs:List Value} (h:w.ownsRow 0 e 1 v xs.length xs):Grew e w w v v xs:=
 ⟨h,⟨rfl,rfl,rfl,Nat.le_refl _,fun _ _ _=>rfl⟩,.inl rfl⟩
theorem grownBy_trans {a b c:World} {r r':Option Nat} (h:a.grownBy b r) (k:b.grownBy c r') (hr:r'=r ∨ ∀g,r'=some g→a.heap.size≤g):a.grownBy c r:=by
 refine⟨k.os.trans h.os,k.tape.trans h.tape,k.output.trans h.output,Nat.le_trans h.size k.size,fun i hi hne=>?_⟩
 refine (k.block i (Nat.lt_of_lt_of_le hi h.size) ?_).trans (h.block i hi hne)
 rcases hr with rfl|hr
 · exact hne
 · intro e
   have:=hr i e.symm
   omega
theorem Grew.trans {e:TypeId} {a b c:World} {v v1 v2:Value} {xs ys:List Value} (h:Grew e a b v v1 xs) (k:Grew e b c v1 v2 ys):Grew e a c v v2 ys:=by
 refine⟨k.own,grownBy_trans h.by_ k.by_ ?_,?_⟩
 · rcases h.moved with h|⟨g,hg,hs⟩
   · exact .inl h
   · right;intro g' hg';rw[hg]at hg';simp at hg';omega
 · rcases k.moved with k1|⟨g,hg,hs⟩
   · rcases h.moved with h1|⟨g,hg,hs⟩
     · exact .inl (k1.trans h1)
     · exact .inr ⟨g,k1.trans hg,hs⟩
   · exact .inr ⟨g,hg,Nat.le_trans h.by_.size hs⟩
theorem Grew.ahead {e:TypeId} {a b c:World} {v v2:Value} {ys:List Value} (h:a.grownBy b none) (k:Grew e b c v v2 ys):Grew e a c v v2 ys:=by
 refine⟨k.own,?_,?_⟩
 · have h':a.grownBy b v.ownBlock:=⟨h.os,h.tape,h.output,h.size,fun i hi _=>h.block i hi (by simp)⟩
   exact grownBy_trans h' k.by_ (.inl rfl)
 · rcases k.moved with k1|⟨g,hg,hs⟩
   · exact .inl k1
   · exact .inr ⟨g,hg,Nat.le_trans h.size hs⟩
theorem Grew.behind {e:TypeId} {a b c:World} {v v1:Value} {xs:List Value} (h:Grew e a b v v1 xs) (k:b.grownBy c none):Grew e a c v v1 xs:=by
 refine⟨h.own.kept k (by cases h':v1.ownBlock<;>simp),?_,h.moved⟩
 exact⟨k.os.trans h.by_.os,k.tape.trans h.by_.tape,k.output.trans h.by_.output,Nat.le_trans h.by_.size k.size,
  fun i hi hne=>(k.block i (Nat.lt_of_lt_of_le hi h.by_.size) (by simp)).trans (h.by_.block i hi hne)⟩
theorem Grew.below {e:TypeId} {w w':World} {v v':Value} {xs:List Value} {B:Nat} (h:Grew e w w' v v' xs) (hB:B≤w.heap.size) (hv:∀g,v.ownBlock=some g→B≤g):Below B w w':=
 (Below.refl B w).grown h.by_ hB hv
theorem Grew.base {e:TypeId} {w w':World} {v v':Value} {xs:List Value} {B:Nat} (h:Grew e w w' v v' xs) (hB:B≤w.heap.size) (hv:∀g,v.ownBlock=some g→B≤g):∀g,v'.ownBlock=some g→B≤g:=by
 intro g hg
 rcases h.moved with h1|⟨g',hg',hs⟩
 · exact hv g (h1 ▸ hg)
 · rw[hg']at hg;simp at hg;omega
theorem below_by_none {w w':World} (h:Below w.heap.size w w'):w.grownBy w' none:=⟨h.os,h.tape,h.output,h.size,fun i hi _=>h.block i hi⟩
theorem by_none_below {w w':World} (h:w.grownBy w' none):Below w.heap.size w w':=⟨h.os,h.tape,h.output,h.size,fun i hi=>h.block i hi (by simp)⟩
theorem by_none_alloc (w:World) (o:Obj):w.grownBy (w.alloc o) none:=World.grownBy_alloc w o none
theorem by_none_drewN (w:World) (n:Nat):w.grownBy (w.drewN n) none:=⟨rfl,rfl,rfl,Nat.le_refl _,fun _ _ _=>rfl⟩
section
variable {P:Program} {t ty e:TypeId} {z:Value} {bytes:Nat} {w:World}
theorem run_app (E:Elem P t e z bytes) {v:Value} {xs:List Value} (hown:w.ownsRow 0 e 1 v xs.length xs) (x:Value) (news:List Value)
 (hlen:∀w,(Builtin.lenOf x).run P w = .ok news.length w) (hfirst:∀w':World,(∀a,w'.cell? a=w.cell? a)→(Builtin.firstCells 1 news.length x).run P w' = .ok news.toArray w')
 (h1:∀u∈news,u.oneCell'=true) (hbytes:(xs.length+news.length)*bytes≤140737488355328) (h63:xs.length+news.length≤140737488355328):
 ∃v' w',(Builtin.append_ #[t,t] ty #[v,x]).run P w = .ok v' w'∧Grew e w w' v v' (xs++news):=by
 obtain⟨i,hi,hz,hs,hb⟩:∃i,P.info? e=some i∧i.zero=some z∧i.size=1∧i.bytes=bytes:=by
  have:=E.info
  cases hi:P.info? e with
  | none=>rw[hi]at this;simp at this
  | some i=>rw[hi]at this;simp at this;exact⟨i,rfl,this⟩
 have ht:=E.under
 have hsz:z.cells.size=1:=by rw[E.one];rfl
 subst hb
 have hlenT:(xs++news).length=xs.length+news.length:=List.length_append
 have grown:∀(old:Nat) (row:Option Nat),
  (w.drew.alloc (.cells (xs.toArray++news.toArray++Builtin.zeroCells z.cells (grownCap w (xs.length+news.length) old e-(xs.length+news.length))) e)).ownsRow 0 e 1
    (.slice (some ⟨w.heap.size,0,none⟩) (xs++news).length (grownCap w (xs.length+news.length) old e)) (xs++news).length (xs++news) ∧
  w.grownBy (w.drew.alloc (.cells (xs.toArray++news.toArray++Builtin.zeroCells z.cells (grownCap w (xs.length+news.length) old e-(xs.length+news.length))) e)) row:=by
  intro old row
  have hge:=grownCap_ge w (xs.length+news.length) old e
  have hcm:grownCap w (xs.length+news.length) old e≤maxLen:=grownCap_le_maxLen w (xs.length+news.length) old e (by unfold maxLen;omega)
  refine⟨⟨by omega,.inr ⟨w.heap.size,_,_,rfl,Nat.zero_le _,heap_alloc_new w.drew _,by omega,hcm,?_,?_⟩⟩,⟨rfl,rfl,rfl,by simp,fun k hk _=>_root_.Go.heap_alloc_old _ _ hk⟩⟩
  · simp only[Array.size_append,List.size_toArray,size_zeroCells,hsz]
    omega
  · simp only[Array.toList_append,List.append_assoc]
    rw[←List.append_assoc,Nat.mul_one]
    exact List.take_left
 rcases hown.2 with⟨rfl,h0⟩|⟨g,cap,cur,hv,hbg,hg,hnc,hcm,hcs,htake⟩
 · have hx:xs = []:=List.eq_nil_of_length_eq_zero h0
   subst hx
   simp only[List.length_nil,Nat.zero_add,List.nil_append]at *
   by_cases hm:news.length=0
   · have hn:news = []:=List.eq_nil_of_length_eq_zero hm
     subst hn
     refine⟨.slice none 0 0,w,?_,Grew.refl hown⟩
     have hf:=hfirst w (fun _=>rfl)
     have hl:=hlen w
     simp only[List.length_nil]at hf hl
     have hL0:∀w,(Builtin.lenOf x).run P w = .ok 0 w:=hlen
     simp[Builtin.append_,run_underlying ht,sizeOf,typeInfo,hi,hL0,hs,hf]
   · have h63':¬(9223372036854775807<(news.length:Int)):=by omega
     have h48':¬(281474976710656<Builtin.nextslicecap news.length 0*i.bytes):=by rw[nextslicecap_zero (by omega)];omega
     have hf:=hfirst w.drew (fun _=>rfl)
     have hgr:=grown 0 none
     refine⟨.slice (some ⟨w.heap.size,0,none⟩) news.length (grownCap w news.length 0 e),_,?_,hgr.1,⟨hgr.2.os,hgr.2.tape,hgr.2.output,hgr.2.size,fun k hk _=>hgr.2.block k hk (by simp)⟩,.inr ⟨_,rfl,Nat.le_refl _⟩⟩
     have hne:news ≠ []:=by intro h;subst h;simp at hm
     simp[Builtin.append_,run_underlying ht,sizeOf,typeInfo,zeroValue,hi,hz,hs,hlen,hne,h63',h48',Question.forced,run_firstCells_none,hf,newRow,grownCap]
 · subst hv
   by_cases hroom:xs.length+news.length≤cap
   · have hf:=hfirst w (fun _=>rfl)
     have hst:=run_storeCells_at P g xs.length e news 0 cur w hg (by omega) h1
     simp only[Nat.add_zero]at hst
     refine⟨.slice (some ⟨g,0,none⟩) (xs.length+news.length) cap,w.setRow g (cur.toList.take xs.length++news++cur.toList.drop (xs.length+news.length)).toArray,?_,⟨by omega,.inr ⟨g,cap,_,by rw[hlenT],Nat.zero_le _,setRow_heap w g cur _ e _ hg,by omega,hcm,?_,?_⟩⟩,⟨rfl,rfl,rfl,by simp,fun k _ hk=>setRow_other w g k _ (fun e=>hk (by simp[Value.ownBlock,e]))⟩,.inl rfl⟩
     · simp[Builtin.append_,run_underlying ht,sizeOf,typeInfo,hi,hs,hlen,hroom,hf,Addr.add_lit,hst]
     · simp only[List.size_toArray,List.length_append,List.length_take,List.length_drop,Array.length_toList]
       omega
     · rw[Nat.mul_one]at htake ⊢
       show ((cur.toList.take xs.length++news)++cur.toList.drop (xs.length+news.length)).take (xs++news).length=_
       rw[htake]
       exact List.take_left
   · have hn:¬(xs.length+news.length≤cap):=hroom
     have h63':¬(9223372036854775807<((xs.length:Int)+(news.length:Int))):=by omega
     have h48':¬(281474976710656<Builtin.nextslicecap (xs.length+news.length) cap*i.bytes):=by
      have:=growslice_fits (bytes:=i.bytes) (show cap<xs.length+news.length by omega) hbytes
      omega
     have hf:=hfirst w.drew (fun _=>rfl)
     have holds:∀j u,xs[j]? = some u→w.cell? ((⟨g,0,none⟩:Addr).add j)=some u:=hown.cells (g:=g) rfl
     have hfo:=run_firstCells_some (P:=P) w.drew 1 xs.length ⟨g,0,none⟩ xs.length cap xs (by omega) (by simpa using holds)
     have hgr:=grown cap (Value.ownBlock (.slice (some ⟨g,0,none⟩) xs.length cap))
     refine⟨.slice (some ⟨w.heap.size,0,none⟩) (xs++news).length (grownCap w (xs.length+news.length) cap e),_,?_,hgr.1,hgr.2,.inr ⟨_,rfl,Nat.le_refl _⟩⟩
     simp[Builtin.append_,run_underlying ht,sizeOf,typeInfo,zeroValue,hi,hz,hs,hlen,hn,h63',h48',Question.forced,hf,hfo,newRow,grownCap]
     congr 2
     apply Array.ext'
     simp[List.append_assoc]
theorem run_app_zeros (E:Elem P t e z bytes) {v:Value} {xs:List Value} (hown:w.ownsRow 0 e 1 v xs.length xs) {tx:TypeId} {kx:IntKind} (htx:P.underlying tx=some (.int kx)) (n:Nat) (news:List Value) (hnews:news=List.replicate n z) (h1:z.oneCell'=true) (hbytes:(xs.length+news.length)*bytes≤140737488355328) (h63:xs.length+news.length≤140737488355328):
 ∃v' w',(Builtin.append_ #[t,tx] ty #[v,.int kx n]).run P w = .ok v' w'∧Grew e w w' v v' (xs++news):=by
 obtain⟨i,hi,hz,hs,hb⟩:∃i,P.info? e=some i∧i.zero=some z∧i.size=1∧i.bytes=bytes:=by
  have:=E.info
  cases hi:P.info? e with
  | none=>rw[hi]at this;simp at this
  | some i=>rw[hi]at this;simp at this;exact⟨i,rfl,this⟩
 have ht:=E.under
 have hnl:news.length=n:=by rw[hnews];simp
 have wn:IntKind.i64.wrap (n:Int)=n:=by rw[IntKind.wrap_i64];omega
 have hneg:¬((n:Int)<0):=by omega
 have hzc:Builtin.zeroCells z.cells n=news.toArray:=by
  rw[E.one,hnews]
  apply Array.ext'
  simp[Builtin.zeroCells]
  apply List.ext_getElem?
  intro j
  by_cases hj:j<n<;>simp[hj,Nat.mod_one]
 have h1':∀u∈news,u.oneCell'=true:=by rw[hnews];intro u hu;rw[List.eq_of_mem_replicate hu];exact h1
 have h48n:¬(281474976710656<(n:Int)*(i.bytes:Int)):=by
  have h:(xs.length+news.length)*i.bytes≤140737488355328:=by rw[hb];exact hbytes
  have h2:n*i.bytes≤(xs.length+news.length)*i.bytes:=Nat.mul_le_mul_right _ (by omega)
  have h3:((n*i.bytes:Nat):Int)≤281474976710656:=by omega
  rw[Int.natCast_mul]at h3
  omega
 have hsz:z.cells.size=1:=by rw[E.one];rfl
 subst hb
 have hlenT:(xs++news).length=xs.length+news.length:=List.length_append
 have grown:∀(old:Nat) (row:Option Nat),
  (w.drew.alloc (.cells (xs.toArray++news.toArray++Builtin.zeroCells z.cells (grownCap w (xs.length+news.length) old e-(xs.length+news.length))) e)).ownsRow 0 e 1
    (.slice (some ⟨w.heap.size,0,none⟩) (xs++news).length (grownCap w (xs.length+news.length) old e)) (xs++news).length (xs++news) ∧
  w.grownBy (w.drew.alloc (.cells (xs.toArray++news.toArray++Builtin.zeroCells z.cells (grownCap w (xs.length+news.length) old e-(xs.length+news.length))) e)) row:=by
  intro old row
  have hge:=grownCap_ge w (xs.length+news.length) old e
  have hcm:grownCap w (xs.length+news.length) old e≤maxLen:=grownCap_le_maxLen w (xs.length+news.length) old e (by unfold maxLen;omega)
  refine⟨⟨by omega,.inr ⟨w.heap.size,_,_,rfl,Nat.zero_le _,heap_alloc_new w.drew _,by omega,hcm,?_,?_⟩⟩,⟨rfl,rfl,rfl,by simp,fun k hk _=>_root_.Go.heap_alloc_old _ _ hk⟩⟩
  · simp only[Array.size_append,List.size_toArray,size_zeroCells,hsz]
    omega
  · simp only[Array.toList_append,List.append_assoc]
    rw[←List.append_assoc,Nat.mul_one]
    exact List.take_left
 rcases hown.2 with⟨rfl,h0⟩|⟨g,cap,cur,hv,hbg,hg,hnc,hcm,hcs,htake⟩
 · have hx:xs = []:=List.eq_nil_of_length_eq_zero h0
   subst hx
   simp only[List.length_nil,Nat.zero_add,List.nil_append]at *
   by_cases hm:news.length=0
   · have hn:news = []:=List.eq_nil_of_length_eq_zero hm
     subst hn
     refine⟨.slice none 0 0,w,?_,Grew.refl hown⟩
     have hn0:n=0:=by rw[←hnl];rfl
     subst hn0
     simp[Builtin.append_,run_underlying ht,run_underlying htx,sizeOf,typeInfo,hi,asInt,asIntOf,IntKind.wrap_i64]
   · have h63':¬(9223372036854775807<(news.length:Int)):=by omega
     have h48':¬(281474976710656<Builtin.nextslicecap news.length 0*i.bytes):=by rw[nextslicecap_zero (by omega)];omega
     have hnl0:n≠0:=by omega
     have hgr:=grown 0 none
     refine⟨.slice (some ⟨w.heap.size,0,none⟩) news.length (grownCap w news.length 0 e),_,?_,hgr.1,⟨hgr.2.os,hgr.2.tape,hgr.2.output,hgr.2.size,fun k hk _=>hgr.2.block k hk (by simp)⟩,.inr ⟨_,rfl,Nat.le_refl _⟩⟩
     rw[hnl]at h63' h48'
     simp[Builtin.append_,run_underlying ht,sizeOf,typeInfo,zeroValue,hi,hz,hs,run_underlying htx,asInt,asIntOf,wn,hneg,h48n,hzc,hnl0,hnl,h63',h48',Question.forced,run_firstCells_none,newRow,grownCap]
 · subst hv
   by_cases hroom:xs.length+news.length≤cap
   · have hst:=run_storeCells_at P g xs.length e news 0 cur w hg (by omega) h1'
     simp only[Nat.add_zero]at hst
     refine⟨.slice (some ⟨g,0,none⟩) (xs.length+news.length) cap,w.setRow g (cur.toList.take xs.length++news++cur.toList.drop (xs.length+news.length)).toArray,?_,⟨by omega,.inr ⟨g,cap,_,by rw[hlenT],Nat.zero_le _,setRow_heap w g cur _ e _ hg,by omega,hcm,?_,?_⟩⟩,⟨rfl,rfl,rfl,by simp,fun k _ hk=>setRow_other w g k _ (fun e=>hk (by simp[Value.ownBlock,e]))⟩,.inl rfl⟩
     · by_cases hn0:n=0
       · have hne:news = []:=List.eq_nil_of_length_eq_zero (by omega)
         rw[hnl]at hroom hst
         simp only[hne,List.toArray]at hst ⊢
         subst hn0
         simp at hst
         simp[Builtin.append_,run_underlying ht,run_underlying htx,sizeOf,typeInfo,hi,hs,asInt,asIntOf,IntKind.wrap_i64,hnc]
         simpa [storeCells]using hst
       · rw[hnl]at hroom hst ⊢
         simp[Builtin.append_,run_underlying ht,run_underlying htx,sizeOf,typeInfo,zeroValue,hi,hz,hs,asInt,asIntOf,wn,hneg,h48n,hzc,hn0,hroom,Addr.add_lit,hst]
     · simp only[List.size_toArray,List.length_append,List.length_take,List.length_drop,Array.length_toList]
       omega
     · rw[Nat.mul_one]at htake ⊢
       show ((cur.toList.take xs.length++news)++cur.toList.drop (xs.length+news.length)).take (xs++news).length=_
       rw[htake]
       exact List.take_left
   · have hn:¬(xs.length+news.length≤cap):=hroom
     have h63':¬(9223372036854775807<((xs.length:Int)+(news.length:Int))):=by omega
     have h48':¬(281474976710656<Builtin.nextslicecap (xs.length+news.length) cap*i.bytes):=by
      have:=growslice_fits (bytes:=i.bytes) (show cap<xs.length+news.length by omega) hbytes
      omega
     have holds:∀j u,xs[j]? = some u→w.cell? ((⟨g,0,none⟩:Addr).add j)=some u:=hown.cells (g:=g) rfl
     have hfo:=run_firstCells_some (P:=P) w.drew 1 xs.length ⟨g,0,none⟩ xs.length cap xs (by omega) (by simpa using holds)
     have hgr:=grown cap (Value.ownBlock (.slice (some ⟨g,0,none⟩) xs.length cap))
     refine⟨.slice (some ⟨w.heap.size,0,none⟩) (xs++news).length (grownCap w (xs.length+news.length) cap e),_,?_,hgr.1,hgr.2,.inr ⟨_,rfl,Nat.le_refl _⟩⟩
     have hn0:n≠0:=by omega
     rw[hnl]at h48' hn ⊢
     rw[hnl]at h63'
     simp[Builtin.append_,run_underlying ht,run_underlying htx,sizeOf,typeInfo,zeroValue,hi,hz,hs,asInt,asIntOf,wn,hneg,h48n,hzc,hn0,hn,h63',h48',Question.forced,hfo,newRow,grownCap]
     refine⟨hnl.symm,?_⟩
     congr 2
     rw[←List.append_toArray,Array.append_assoc]
theorem run_lenOf_slice (a:Option Addr) (n c:Nat) (w:World):(Builtin.lenOf (.slice a n c)).run P w = .ok n w:=by simp[Builtin.lenOf]
theorem first_ints {k:IntKind} {a:Option Addr} {l:List Int} {c:Nat} (h:Ints k w a l) (w':World) (hw:∀a,w'.cell? a=w.cell? a):
 (Builtin.firstCells 1 (l.map (Value.int k)).length (.slice a l.length c)).run P w' = .ok (l.map (Value.int k)).toArray w':=by
 cases l with
 | nil=>cases a<;>simp[Builtin.firstCells,loadCells,loadCellsFrom]
 | cons x r=>
   obtain⟨b,off,rfl,_⟩:=h 0 (by simp)
   rw[List.length_map]
   refine run_firstCells_some (P:=P) w' 1 (x::r).length ⟨b,off,none⟩ _ c _ (by simp) ?_
   intro j v hj
   have hlt:j<(x::r).length:=by
    rcases Nat.lt_or_ge j (x::r).length with h'|h'
    · exact h'
    · rw[List.getElem?_eq_none (by simpa using h')]at hj;simp at hj
   obtain⟨b',off',he,hc⟩:=h j hlt
   simp at he
   obtain⟨rfl,rfl⟩:=he
   have:(⟨b,off,none⟩:Addr).add j=⟨b,off+j,none⟩:=by unfold Addr.add;split<;>simp_all
   rw[this,hw,hc,←hj]
   rw[List.getElem?_map,List.getElem?_eq_getElem hlt]
   simp only[List.getD,List.getElem?_eq_getElem hlt,Option.getD_some,Option.map_some]
theorem app_wp {o:Oper} {a:Act} {K:Act→World→Prop} {Q:Exit→Act→World→Prop} (s x:Operand)
 (ho:o.op = .call { callee:=.builtin .append,args:=#[s,x],argTypes:=#[t,t] }) (E:Elem P t e z bytes)
 {v:Value} (hs:a.eval s=v) {xs:List Value} (hown:w.ownsRow 0 e 1 v xs.length xs)
 {k:IntKind} {ad:Option Addr} {l:List Int} {n c:Nat} (hx:a.eval x = .slice ad n c) (hn:n=l.length) (hI:Ints k w ad l)
 (hbytes:(xs.length+l.length)*bytes≤140737488355328) (h63:xs.length+l.length≤140737488355328)
 (h:∀v' w',Grew e w w' v v' (xs++l.map (Value.int k))→K (a.put o.dst v') w'):o.wp P a w K Q:=by
 subst hn
 obtain⟨v',w',hr,hg⟩:=run_app (P:=P) (ty:=o.type) E hown (.slice ad l.length c) (l.map (Value.int k)) (fun w=>by rw[List.length_map];exact run_lenOf_slice _ _ _ _)
  (fun w' hw=>first_ints hI w' hw) (by intro u hu;simp at hu;obtain⟨q,_,rfl⟩:=hu;rfl) (by simpa using hbytes) (by simpa using h63)
 unfold Oper.wp execOp
 simp only[ho,resolve,invoke,builtin,Sem.run_bind,Sem.run_pure,Result.andThen_ok,List.map_toArray,List.map_cons,List.map_nil,hs,hx,hr]
 exact h v' w' hg
theorem wp_app {ops:Array Oper} {rest:List Oper} {o:Oper} {a:Act} {Q:Exit→Act→World→Prop} (hgd:o.guard=none) (s x:Operand)
 (ho:o.op = .call { callee:=.builtin .append,args:=#[s,x],argTypes:=#[t,t] }) (E:Elem P t e z bytes)
 {v:Value} (hs:a.eval s=v) {xs:List Value} (hown:w.ownsRow 0 e 1 v xs.length xs)
 {k:IntKind} {ad:Option Addr} {l:List Int} {n c:Nat} (hx:a.eval x = .slice ad n c) (hn:n=l.length) (hI:Ints k w ad l)
 (hbytes:(xs.length+l.length)*bytes≤140737488355328) (h63:xs.length+l.length≤140737488355328)
 (h:∀v' w',Grew e w w' v v' (xs++l.map (Value.int k))→wpList P ops Q rest (a.put o.dst v') w'):wpList P ops Q (o::rest) a w:=
 wpList_plain hgd fun _ hK=>app_wp s x ho E hs hown hx hn hI hbytes h63 fun v' w' hg=>hK _ _ (h v' w' hg)
theorem step_app {ops:Array Oper} {o:Oper} {a:Act} {K:Act→World→Prop} {Q:Exit→Act→World→Prop} {R:Prop} (hgd:o.guard=none) (s x:Operand)
 (ho:o.op = .call { callee:=.builtin .append,args:=#[s,x],argTypes:=#[t,t] }) (E:Elem P t e z bytes)
 {v:Value} (hs:a.eval s=v) {xs:List Value} (hown:w.ownsRow 0 e 1 v xs.length xs)
 {k:IntKind} {ad:Option Addr} {l:List Int} {n c:Nat} (hx:a.eval x = .slice ad n c) (hn:n=l.length) (hI:Ints k w ad l)
 (hbytes:(xs.length+l.length)*bytes≤140737488355328) (h63:xs.length+l.length≤140737488355328)
 (h:∀v' w',Grew e w w' v v' (xs++l.map (Value.int k))→K (a.put o.dst v') w'):if Region.wanted o (yielded ops a.tmps)=true then Oper.wp P o a w K Q else R:=by
 have hw:Region.wanted o (yielded ops a.tmps)=true:=by simp[Region.wanted,hgd]
 rw[if_pos hw]
 exact app_wp s x ho E hs hown hx hn hI hbytes h63 h
theorem wp_app_zeros {ops:Array Oper} {rest:List Oper} {o:Oper} {a:Act} {Q:Exit→Act→World→Prop} (hgd:o.guard=none) (s x:Operand) {tx:TypeId} {kx:IntKind}
 (ho:o.op = .call { callee:=.builtin .append,args:=#[s,x],argTypes:=#[t,tx] }) {k:IntKind} (E:Elem P t e (.int k 0) bytes) (htx:P.underlying tx=some (.int kx))
 {v:Value} (hs:a.eval s=v) {xs:List Value} (hown:w.ownsRow 0 e 1 v xs.length xs)
 {q:Int} {n:Nat} (hx:a.eval x = .int kx q) (hn:q=(n:Int))
 (hbytes:(xs.length+n)*bytes≤140737488355328) (h63:xs.length+n≤140737488355328)
 (h:∀v' w',Grew e w w' v v' (xs++(List.replicate n (0:Int)).map (Value.int k))→wpList P ops Q rest (a.put o.dst v') w'):wpList P ops Q (o::rest) a w:=by
 subst hn
 refine wpList_plain hgd fun K hK=>?_
 obtain⟨v',w',hr,hg⟩:=run_app_zeros (P:=P) (ty:=o.type) E hown htx n ((List.replicate n (0:Int)).map (Value.int k)) (by simp) rfl (by simpa using hbytes) (by simpa using h63)
 unfold Oper.wp execOp
 simp only[ho,resolve,invoke,builtin,Sem.run_bind,Sem.run_pure,Result.andThen_ok,List.map_toArray,List.map_cons,List.map_nil,hs,hx,hr]
 exact hK _ _ (h v' w' hg)
theorem own_ints {k:IntKind} {v:Value} {l:List Int} (h:w.ownsRow 0 e 1 v (l.map (Value.int k)).length (l.map (Value.int k))):
 ∃a c,v = .slice a l.length c∧l.length≤c∧c≤maxLen∧Ints k w a l:=by
 rcases h.2 with⟨rfl,h0⟩|⟨g,cap,cur,rfl,_,hg,hnc,hcm,hcs,htake⟩
 · have:l = []:=List.eq_nil_of_length_eq_zero (by simpa using h0)
   subst this
   exact⟨none,0,rfl,by simp,by simp[maxLen],Ints.nil _ _ _⟩
 · refine⟨some ⟨g,0,none⟩,cap,by simp,by simpa using hnc,hcm,?_⟩
   intro i hi
   refine⟨g,0,rfl,?_⟩
   rw[Nat.zero_add,cell_of_row w g i cur e (0,0) hg]
   have:(cur.toList.take ((l.map (Value.int k)).length*1))[i]? = (l.map (Value.int k))[i]?:=by rw[htake]
   rw[List.getElem?_take,if_pos (by simpa using hi)]at this
   rw[←Array.getElem?_toList,this,List.getElem?_map,List.getElem?_eq_getElem hi]
   simp only[List.getD,List.getElem?_eq_getElem hi,Option.getD_some,Option.map_some]
structure Fresh (e:TypeId) (w w':World) (v:Value) (xs:List Value):Prop where
 own:w'.ownsRow 0 e 1 v xs.length xs
 bel:Below w.heap.size w w'
 new:∀g,v.ownBlock=some g→w.heap.size≤g
theorem ints_one (k:IntKind) (w:World) (q:Int) (e:TypeId):Ints k (w.alloc (.cells #[.int k q] e)) (some ⟨w.heap.size,0,none⟩) [q]:=by
 intro i hi
 simp at hi
 subst hi
 exact⟨_,_,rfl,by simp⟩
theorem Fresh.step {e:TypeId} {w wr w':World} {v v':Value} {xs ys:List Value} (h:Fresh e w wr v xs) (k:Grew e wr w' v v' ys):Fresh e w w' v' ys:=
 ⟨k.own,h.bel.trans (k.below h.bel.size h.new),k.base h.bel.size h.new⟩
theorem Fresh.behind {e:TypeId} {w wr w':World} {v:Value} {xs:List Value} (h:Fresh e w wr v xs) (k:wr.grownBy w' none):Fresh e w w' v xs:=
 ⟨h.own.kept k (by cases h':v.ownBlock<;>simp),h.bel.trans ((by_none_below k).mono h.bel.size),h.new⟩
theorem Fresh.made {e:TypeId} {w w1 w':World} {v:Value} {xs:List Value} (h:w.grownBy w1 none) (k:Fresh e w1 w' v xs):Fresh e w w' v xs:=
 ⟨k.own,(by_none_below h).trans (k.bel.mono h.size),fun g hg=>Nat.le_trans h.size (k.new g hg)⟩
theorem wp_make {ops:Array Oper} {rest:List Oper} {o:Oper} {a:Act} {Q:Exit→Act→World→Prop} (hgd:o.guard=none) (x y:Operand)
 (ho:o.op = .makeSlice t x y) (E:Elem P t e z bytes) {kl kc:IntKind} {L C:Int} (hx:a.eval x = .int kl L) (hy:a.eval y = .int kc C) {n m:Nat} (hL:L=n) (hC:C=m) (hnm:n≤m)
 (hbytes:bytes*m≤281474976710656) (h63:m≤281474976710656)
 (h:∀w',Fresh e w w' (.slice (some ⟨w.heap.size,0,none⟩) n m) (List.replicate n z)→wpList P ops Q rest (a.put o.dst (.slice (some ⟨w.heap.size,0,none⟩) n m)) w'):wpList P ops Q (o::rest) a w:=by
 obtain⟨i,hi,hz,hs,hb⟩:∃i,P.info? e=some i∧i.zero=some z∧i.size=1∧i.bytes=bytes:=by
  have:=E.info
  cases hi:P.info? e with
  | none=>rw[hi]at this;simp at this
  | some i=>rw[hi]at this;simp at this;exact⟨i,rfl,this⟩
 subst hL
 subst hC
 subst hb
 refine wpList_plain hgd fun K hK=>?_
 have hb':(i.bytes:Int)*(m:Int)≤281474976710656:=by
  have h:((i.bytes*m:Nat):Int)≤281474976710656:=by omega
  rwa [Int.natCast_mul]at h
 have hr:=run_make (P:=P) w t e i z E.under hi hz kl kc n m (by omega) (by omega) hb' (by omega)
 simp only[Int.toNat_natCast,hs,Nat.mul_one,E.one]at hr
 unfold Oper.wp
 simp[execOp,ho,hx,hy,hr,Result.andThen]
 refine hK _ _ (h _ ⟨⟨by simp,.inr ⟨w.heap.size,m,_,by simp,Nat.zero_le _,_root_.Go.heap_alloc_new w _,by simpa using hnm,by unfold maxLen;omega,by simp[madeCells],?_⟩⟩,(Below.refl _ _).alloc (Nat.le_refl _) _,by simp[Value.ownBlock]⟩)
 rw[toList_madeCells_one]
 simp[List.take_replicate,hnm]
theorem ints_lit (k:IntKind) (w:World) (l:List Int) (e:TypeId):Ints k (w.alloc (.cells (l.map (Value.int k)).toArray e)) (some ⟨w.heap.size,0,none⟩) l:=by
 intro i hi
 refine⟨_,0,rfl,?_⟩
 rw[Nat.zero_add,cell_of_row (w.alloc _) w.heap.size i _ e (0,0) (_root_.Go.heap_alloc_new w _)]
 simp[List.getD,List.getElem?_eq_getElem hi]
theorem below_alloc (w:World) (o:Obj):Below w.heap.size w (w.alloc o):=(Below.refl _ _).alloc (Nat.le_refl _) _
theorem own_nil (w:World) (e:TypeId):w.ownsRow 0 e 1 (.slice none 0 0) ([]:List Value).length []:=World.ownsRow_nil w 0 e 1
end
end Go.Proofs.YthpdkancighknaaGreat
namespace Go.Proofs.YthpdkancighknaaGreat
open Go.RowKit
theorem add_none (b off j:Nat):(⟨b,off,none⟩:Addr).add j=⟨b,off+j,none⟩:=by unfold Addr.add;split<;>simp_all
section
variable {P:Program} {t e:TypeId} {z:Value} {bytes:Nat} {w:World}
theorem wp_copy_all {ops:Array Oper} {rest:List Oper} {o:Oper} {a:Act} {Q:Exit→Act→World→Prop} (hgd:o.guard=none) (d s:Operand)
 (ho:o.op = .call { callee:=.builtin .copy,args:=#[d,s],argTypes:=#[t,t] }) (E:Elem P t e z bytes) {g n m sc:Nat} {sp:Option Addr} (hd:a.eval d = .slice (some ⟨g,0,none⟩) n m) (hs:a.eval s = .slice sp n sc)
 {w0:World} {xs:List Value} (hx:xs.length=n) (hf:Fresh e w0 w (.slice (some ⟨g,0,none⟩) n m) xs) {k:IntKind} {l:List Int} (hl:l.length=n) (hI:Ints k w sp l)
 (h:∀w',Fresh e w0 w' (.slice (some ⟨g,0,none⟩) n m) (l.map (Value.int k))→wpList P ops Q rest (a.put o.dst (goInt n)) w'):wpList P ops Q (o::rest) a w:=by
 have hsz:(P.info? e).map (·.size)=some 1:=by
  have:=E.info
  cases hi:P.info? e with
  | none=>rw[hi]at this;simp at this
  | some i=>rw[hi]at this;simp at this ⊢;exact this.2.1
 rcases hf.own.2 with⟨hv,_⟩|⟨g',cap,cur,hv,hbg,hg,hnc,hcm,hcs,htake⟩
 · simp at hv
 · simp at hv
   obtain⟨rfl,hn',rfl⟩:=hv
   have hge:w0.heap.size≤g:=hf.new g rfl
   have hcl:(l.map (Value.int k)).length=n:=by rw[List.length_map];exact hl
   have hcur:n≤cur.size:=by omega
   refine wpList_copy_splice hgd d s t t ho e E.under hsz (some ⟨g,0,none⟩) sp n m n sc hd hs g 0 cur.toList e (by simpa using hg) (l.map (Value.int k)) (by rw[hcl];exact (Nat.min_self n).symm) ?_ (by rw[hcl];simpa using hcur) (by intro v hv;obtain⟨x,_,rfl⟩:=List.mem_map.1 hv;rfl) w0.heap.size w0 hf.bel hge ?_
   · intro hp
     rw[List.length_map]at hp
     refine⟨rfl,?_⟩
     obtain⟨b,off,rfl,_⟩:=hI 0 hp
     refine⟨_,rfl,fun j v hj=>?_⟩
     have hjl:j<l.length:=by
      rcases Nat.lt_or_ge j l.length with h'|h'
      · exact h'
      · rw[List.getElem?_eq_none (by simpa using h')]at hj;simp at hj
     obtain⟨b',off',he,hc⟩:=hI j hjl
     simp at he
     obtain⟨rfl,rfl⟩:=he
     have e2:=add_none b off j
     rw[e2,hc,←hj]
     simp[List.getD,List.getElem?_eq_getElem hjl]
   · intro w' hh hb
     rw[hcl]
     refine h w' ⟨⟨by omega,.inr ⟨g,m,_,by rw[hcl],Nat.zero_le _,hh.out,by omega,hcm,?_,?_⟩⟩,hb,hf.new⟩
     · have:(splice cur.toList 0 (l.map (Value.int k))).length=cur.toList.length:=by simp[splice];omega
       simp[this];omega
     · simp[splice]
end
theorem Fresh.turn {e:TypeId} {w wr w':World} {v:Value} {xs:List Value} {g:Nat} (h:Fresh e w wr v xs) (k:wr.grownBy w' (some g)) (hv:v.ownBlock≠some g) (hg:w.heap.size≤g):Fresh e w w' v xs:=
 ⟨h.own.kept k (.inr hv),h.bel.grown k h.bel.size (by intro q hq;simp at hq;omega),h.new⟩
section
variable {P:Program} {t e:TypeId} {z:Value} {bytes:Nat} {w:World}
theorem wp_app_ints {ops:Array Oper} {rest:List Oper} {o:Oper} {a:Act} {Q:Exit→Act→World→Prop} (hgd:o.guard=none) (s x:Operand)
 (ho:o.op = .call { callee:=.builtin .append,args:=#[s,x],argTypes:=#[t,t] }) (E:Elem P t e z bytes)
 {v:Value} (hs:a.eval s=v) {k:IntKind} {xs:List Int} (hown:w.ownsRow 0 e 1 v (xs.map (Value.int k)).length (xs.map (Value.int k)))
 {ad:Option Addr} {l ys:List Int} {n c:Nat} (hx:a.eval x = .slice ad n c) (hn:n=l.length) (hI:Ints k w ad l) (hys:xs++l=ys)
 (hbytes:ys.length*bytes≤140737488355328) (h63:ys.length≤140737488355328)
 (h:∀a' c' w',ys.length≤c'→c'≤9223372036854775807→Ints k w' a' ys→Grew e w w' v (.slice a' ys.length c') (ys.map (Value.int k))→wpList P ops Q rest (a.put o.dst (.slice a' ys.length c')) w'):wpList P ops Q (o::rest) a w:=by
 subst hys
 rw[List.length_append]at hbytes h63
 refine wp_app hgd s x ho E hs hown hx hn hI (by rw[List.length_map];exact hbytes) (by rw[List.length_map];exact h63) ?_
 intro v' w' hg
 rw[←List.map_append]at hg
 obtain⟨a',c',rfl,h1,h2,hI'⟩:=own_ints hg.own
 exact h a' c' w' h1 (by unfold maxLen at h2;omega) hI' hg
end
theorem own_nilI (w:World) (e:TypeId) (k:IntKind):w.ownsRow 0 e 1 (.slice none 0 0) (([]:List Int).map (Value.int k)).length (([]:List Int).map (Value.int k)):=own_nil w e
end Go.Proofs.YthpdkancighknaaGreat
namespace Go.Proofs.YthpdkancighknaaGreat
open Go.RowKit
structure ElemN (P:Program) (t e:TypeId) (z:Value) (size bytes:Nat):Prop where
 under:P.underlying t=some (.slice e)
 info:(P.info? e).map (fun i=>(i.zero,i.size,i.bytes))=some (some z,size,bytes)
 cells:z.cells.size=size
 pos : 0<size
structure GrewN (e:TypeId) (size:Nat) (w w':World) (v v':Value) (n:Nat) (xs:List Value):Prop where
 own:w'.ownsRow 0 e size v' n xs
 by_:w.grownBy w' v.ownBlock
 moved:Moved w v v'
theorem GrewN.below {e:TypeId} {size n:Nat} {w w':World} {v v':Value} {xs:List Value} {B:Nat} (h:GrewN e size w w' v v' n xs) (hB:B≤w.heap.size) (hv:∀g,v.ownBlock=some g→B≤g):Below B w w':=
 (Below.refl B w).grown h.by_ hB hv
theorem GrewN.base {e:TypeId} {size n:Nat} {w w':World} {v v':Value} {xs:List Value} {B:Nat} (h:GrewN e size w w' v v' n xs) (hB:B≤w.heap.size) (hv:∀g,v.ownBlock=some g→B≤g):∀g,v'.ownBlock=some g→B≤g:=by
 intro g hg
 rcases h.moved with h1|⟨g',hg',hs⟩
 · exact hv g (h1 ▸ hg)
 · rw[hg']at hg;simp at hg;omega
section
variable {P:Program} {t ty e:TypeId} {z:Value} {size bytes:Nat} {w:World}
theorem run_app_many (E:ElemN P t e z size bytes) {v:Value} {n:Nat} {xs:List Value} (hown:w.ownsRow 0 e size v n xs) (a:Addr) (m c:Nat) (news:List Value) (hl:news.length=m*size)
 (hnews:∀j u,news[j]? = some u→w.cell? (a.add j)=some u) (h1:∀u∈news,u.oneCell'=true) (h63:n+m≤140737488355328) (hbytes:(n+m)*bytes≤140737488355328):
 ∃v' w',(Builtin.append_ #[t,t] ty #[v,.slice (some a) m c]).run P w = .ok v' w'∧GrewN e size w w' v v' (n+m) (xs++news):=by
 obtain⟨i,hi,hz,hs,hb⟩:∃i,P.info? e=some i∧i.zero=some z∧i.size=size∧i.bytes=bytes:=by
  have:=E.info
  cases hi:P.info? e with
  | none=>rw[hi]at this;simp at this
  | some i=>rw[hi]at this;simp at this;exact⟨i,rfl,this⟩
 have ht:=E.under
 have hzs:=E.cells
 have hpos:=E.pos
 subst hs
 subst hb
 have hlen:(xs++news).length=(n+m)*i.size:=by rw[List.length_append,hown.1,hl,Nat.add_mul]
 have grown:∀(old:Nat),old<n+m → ∀(row:Option Nat),
  (w.drew.alloc (.cells (xs.toArray++news.toArray++Builtin.zeroCells z.cells (grownCap w (n+m) old e-(n+m))) e)).ownsRow 0 e i.size
    (.slice (some ⟨w.heap.size,0,none⟩) (n+m) (grownCap w (n+m) old e)) (n+m) (xs++news) ∧
  w.grownBy (w.drew.alloc (.cells (xs.toArray++news.toArray++Builtin.zeroCells z.cells (grownCap w (n+m) old e-(n+m))) e)) row:=by
  intro old ho row
  have hge:=grownCap_ge w (n+m) old e
  have hcm:grownCap w (n+m) old e≤maxLen:=grownCap_le_maxLen w (n+m) old e (by unfold maxLen;omega)
  refine⟨⟨hlen,.inr ⟨w.heap.size,_,_,rfl,Nat.zero_le _,heap_alloc_new w.drew _,hge,hcm,?_,?_⟩⟩,⟨rfl,rfl,rfl,by simp,fun k hk _=>_root_.Go.heap_alloc_old _ _ hk⟩⟩
  · simp only[Array.size_append,List.size_toArray,size_zeroCells,hzs,hown.1,hl,←Nat.add_mul]
    congr 1
    omega
  · simp only[Array.toList_append,List.append_assoc]
    rw[←List.append_assoc,←hlen]
    exact List.take_left
 rcases hown.2 with⟨rfl,rfl⟩|⟨g,cap,cur,rfl,hbg,hg,hnc,hcm,hcs,htake⟩
 · have hx:xs = []:=List.eq_nil_of_length_eq_zero (by simpa using hown.1)
   subst hx
   by_cases hm:m=0
   · subst hm
     have hn:news = []:=List.eq_nil_of_length_eq_zero (by simpa using hl)
     subst hn
     refine⟨.slice none 0 0,w,?_,World.ownsRow_nil w 0 e i.size,⟨rfl,rfl,rfl,Nat.le_refl _,fun _ _ _=>rfl⟩,.inl rfl⟩
     simp[Builtin.append_,run_underlying ht,sizeOf,typeInfo,hi,Builtin.lenOf,Builtin.firstCells,loadCells,loadCellsFrom]
   · have hr:=run_append_nil (P:=P) w t ty e i z ht hi hz a m c news hl hnews (by omega) (by omega) (by have hb:=hbytes;simp only[Nat.zero_add]at hb;omega)
     have hgr:=grown 0 (by omega) (Value.ownBlock (.slice none 0 0))
     simp only[Nat.zero_add,List.nil_append,Array.empty_append]at hgr ⊢
     exact⟨_,_,hr,hgr.1,hgr.2,.inr ⟨_,rfl,Nat.le_refl _⟩⟩
 · by_cases hroom:n+m≤cap
   · have hfit:n*i.size+news.length≤cur.size:=by rw[hl,hcs,←Nat.add_mul];exact Nat.mul_le_mul_right _ hroom
     have hr:=run_append_room (P:=P) w t ty e i ht hi g n cap cur hg a m c news hl hnews h1 hroom hfit
     refine⟨_,_,hr,⟨hlen,.inr ⟨g,cap,_,rfl,hbg,setRow_heap w g cur _ e _ hg,hroom,hcm,?_,?_⟩⟩,⟨rfl,rfl,rfl,by simp,fun k _ hk=>setRow_other w g k _ (fun e=>hk (by simp[Value.ownBlock,e]))⟩,.inl rfl⟩
     · simp only[List.size_toArray,List.length_append,List.length_take,List.length_drop,Array.length_toList]
       omega
     · rw[htake,←hlen]
       exact List.take_left
   · have holds:∀j u,xs[j]? = some u→w.cell? ((⟨g,0,none⟩:Addr).add j)=some u:=hown.cells (g:=g) rfl
     have hr:=run_append_grow (P:=P) w t ty e i z ht hi hz ⟨g,0,none⟩ n cap xs hown.1 holds a m c news hl hnews (by omega) (by omega) (growslice_fits (by omega) hbytes)
     have hgr:=grown cap (by omega) (Value.ownBlock (.slice (some ⟨g,0,none⟩) n cap))
     exact⟨_,_,hr,hgr.1,hgr.2,.inr ⟨_,rfl,Nat.le_refl _⟩⟩
end
end Go.Proofs.YthpdkancighknaaGreat
namespace Go.Proofs.YthpdkancighknaaGreat
open Go.RowKit
structure Wk (w:World) where
 val:World
 bel:Below w.heap.size w val
instance wkThere (w:World):Nonempty (Wk w):=⟨⟨w,Below.refl _ _⟩⟩
theorem wp_region_wk {P:Program} {id:Nat} {Q:Exit→Act→World→Prop} {a:Act} {w:World} {l:List Oper} (hm:P.follows .mixedOrders=true) (hB:Region.lexB .any l.toArray=true)
 (h:wpQuiet P l.toArray (fun w'=>∃n:Wk w,w'=n.val) (fun a'=>∀w',(∃n:Wk w,w'=n.val)→Q .normal a' w') l a):(Code.region id l.toArray true).wp P Q a w:=
 wp_region_quiet (C:=fun w'=>∃n:Wk w,w'=n.val) hm hB ⟨⟨_,by_none_below (by_none_drewN w 1)⟩,rfl⟩ (by simpa using h)
theorem Wk.call {P:Program} {f:FuncId} {args:Array Value} {w:World} {n:Wk w} {v:Value}
 (h:Calls P f args n.val fun e w'=>e = .returned v∧Below n.val.heap.size n.val w'):Calls P f args n.val fun e w''=>e = .returned v ∧ ∃m:Wk w,w''=m.val:=
 h.mono fun _ w' ⟨he,hb⟩=>⟨he,⟨w',n.bel.trans (hb.mono n.bel.size)⟩,rfl⟩
theorem Wk.same {P:Program} {f:FuncId} {args:Array Value} {w:World} {n:Wk w} {v:Value}
 (h:Calls P f args n.val fun e w'=>e = .returned v∧n.val=w'):Calls P f args n.val fun e w''=>e = .returned v ∧ ∃m:Wk w,w''=m.val:=
 h.mono fun _ _ ⟨he,hb⟩=>⟨he,n,hb.symm⟩
theorem Wk.cell {w:World} {p:Addr} {x:Value} (h:w.cell? p=some x) (n:Wk w):n.val.cell? p=some x:=cell_keep h n.bel
def Octets (l:List Int):Prop:=∀x,x∈l→0≤x∧x≤255
def numL (l:List Int):Int:=l.foldl (fun n x=>n*256+x) 0
theorem Octets.get {l:List Int} (h:Octets l) {k:Nat} {x:Int} (hx:l[k]? = some x) : 0≤x∧x≤255:=h x (List.mem_of_getElem? hx)
theorem Octets.append {l m:List Int} (h:Octets l) (h':Octets m):Octets (l++m):=fun x hx=>(List.mem_append.1 hx).elim (h x) (h' x)
def p256:Nat→Int
 | 0=>1
 | n+1=>p256 n*256
theorem p256_pos (n:Nat) : 0<p256 n:=by
 induction n with
 | zero=>decide
 | succ n ih=>unfold p256;omega
theorem p256_7:p256 7=72057594037927936:=by decide
theorem p256_mono {n m:Nat} (h:n≤m):p256 n≤p256 m:=by
 induction m with
 | zero => obtain rfl:n=0:=by omega
           exact Int.le_refl _
 | succ m ih=>
   rcases Nat.lt_or_ge n (m+1) with h'|h'
   · have:=ih (by omega)
     have:=p256_pos m
     show p256 n≤p256 m*256
     omega
   · obtain rfl:n=m+1:=by omega
     exact Int.le_refl _
def byteAt (n:Int) (k:Nat):Int:=n/p256 k%256
def bytesL (n:Int):Nat→List Int
 | 0=>[]
 | w+1=>byteAt n w::bytesL n w
theorem bytesL_length (n:Int) (w:Nat):(bytesL n w).length=w:=by
 induction w with
 | zero=>rfl
 | succ w ih=>simp[bytesL,ih]
theorem bytesL_octets (n:Int) (w:Nat):Octets (bytesL n w):=by
 induction w with
 | zero=>intro x hx;simp[bytesL]at hx
 | succ w ih=>
   intro x hx
   rcases List.mem_cons.1 hx with rfl|hx
   · unfold byteAt;omega
   · exact ih x hx
theorem two_pow_p256 (k:Nat):(2:Int)^(8*k)=p256 k:=by
 induction k with
 | zero=>rfl
 | succ k ih=>rw[show 8*(k+1)=8*k+8 from by omega,Int.pow_add,ih];rfl
theorem bytesL_get {n:Int} {w i:Nat} (h:i<w):(bytesL n w)[i]? = some (byteAt n (w-1-i)):=by
 induction w generalizing i with
 | zero=>omega
 | succ w ih=>
   cases i with
   | zero=>simp[bytesL]
   | succ i=>
     simp only[bytesL,List.getElem?_cons_succ]
     rw[ih (by omega)]
     congr 2
     omega
theorem bytesL_succ {n:Int} {w i:Nat} (h:i<w):(bytesL n w).take (i+1)=(bytesL n w).take i ++ [byteAt n (w-1-i)]:=by
 rw[List.take_add_one,bytesL_get h]
 rfl
theorem wrap_u8 (n:Int):IntKind.u8.wrap n=n%256:=by simp[IntKind.wrap,IntKind.bits,IntKind.signed]
def IsRow (k:IntKind) (w:World) (a:Option Addr) (len cap:Nat) (zs:List Int):Prop:=
 (a=none∧len=0∧cap=0∧zs = []) ∨
 ∃x,a=some x∧len≤cap∧cap≤maxLen∧zs.length=cap∧(∀i,i<zs.length→w.cell? (x.add i)=some (.int k (zs.getD i 0))) ∧ ∀n∈zs,(Lit.int k n).wf=true
theorem IsRow.ints {k:IntKind} {w:World} {a:Option Addr} {len cap:Nat} {zs:List Int} (h:IsRow k w a len cap zs):
 ∃l:List Int,len=l.length∧l.length≤cap∧cap≤9223372036854775807∧Ints k w a l ∧ ∀n∈l,(Lit.int k n).wf=true:=by
 rcases h with⟨rfl,rfl,rfl,rfl⟩|⟨x,rfl,hl,hm,hz,hc,hw⟩
 · exact⟨[],rfl,Nat.le_refl _,by omega,Ints.nil _ _ _,by simp⟩
 · have e:(zs.take len).length=len:=by rw[List.length_take];omega
   refine⟨zs.take len,e.symm,by omega,by unfold maxLen at hm;omega,?_,fun n hn=>hw n (List.mem_of_mem_take hn)⟩
   intro i hi
   rw[e]at hi
   have h1:=hc i (by omega)
   obtain⟨b,off,spot⟩:=x
   have hspot:spot=none:=by simpa [Addr.add]using World.cell?_spot (hc 0 (by omega))
   subst hspot
   refine⟨b,off,rfl,?_⟩
   have e2:(⟨b,off,none⟩:Addr).add i=⟨b,off+i,none⟩:=by unfold Addr.add;split<;>simp_all
   rw[e2]at h1
   rw[h1]
   simp[List.getD,hi]
theorem wf_u8 {l:List Int} (h:∀n∈l,(Lit.int .u8 n).wf=true):Octets l:=by
 intro x hx
 have:=h x hx
 simp[Lit.wf,IntKind.min,IntKind.max,IntKind.bits,IntKind.signed]at this
 omega
def Yields {α:Type} (P:Program) (gf:Nat) (lb:Array Value) (enc : α → Array Value) (bad:Int→Array Value) (X : α → World→Prop) (K:Nat→Prop) (S:List α → Prop) (Sp:List α → Int→Prop) (N:Nat) (w:World):Prop:=
 ∀(l:Nat) (J:List α → World→Prop) (Jx:List α → Int→World→Prop) (W:World),Below w.heap.size w W →
  (∀pre A B,J pre A→Below A.heap.size A B→J pre B) →
  (∀pre x W1,J pre W1→X x W1→pre.length<N→YieldAt Fence.wide 0 P l (enc x) W1 fun e W'=>e = .returned (.bool true)∧J (pre ++ [x]) W'∧W1.heap.size≤W'.heap.size ∧ ∀k,K k→k<W1.heap.size→W'.heap[k]? = W1.heap[k]?) →
  (∀pre q W1,J pre W1→q≠0→YieldAt Fence.wide 0 P l (bad q) W1 fun e W'=>e = .returned (.bool false)∧Jx pre q W') →
  J [] W→Calls P gf (#[.func (.yield l) #[] #[]]++lb) W fun e W'=>(∃v,e = .returned v)∧((∃xs,S xs∧J xs W') ∨ ∃pre q,Sp pre q∧Jx pre q W')
def goodPost (B:Nat) (K:Nat→Prop) (I:World→Prop) (W:World):Exit→Act→World→Prop
 | .normal,_,W'=>KeepsFrom B W W'∧(∀k,K k→k<W.heap.size→W'.heap[k]? = W.heap[k]?)∧I W'
 | _,_,_=>False
def badPost (B:Nat) (I:World→Prop) (W:World):Exit→Act→World→Prop
 | .ret,_,W'=>KeepsFrom B W W'∧I W'
 | _,_,_=>False
end Go.Proofs.YthpdkancighknaaGreat
