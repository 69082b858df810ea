/- Put together out of several texts. -/
import Derived.Test.YthpdkancighknaaB13
import Derived.Test.YthpdkancighknaaB12
import Derived.Test.YthpdkancighknaaB15
import Derived.Deep.RegionHeld3
import Derived.Test.YthpdkancighknaaB11
import Derived.Deep.LoopGhost
import Derived.Lib.SliceRun
import Derived.Laws.CopyRow
import Derived.Lib.Overlaps
import Derived.Lib.AppendZerosOnto
import Derived.Laws.StructEq
namespace Go.Proofs.Ythpdkancighknaa
open Go.RowKit
set_option linter.unusedVariables false
set_option maxRecDepth 100000
def rankT (t:Int):Int:=
 if t=12 then 1 else if t=18∨t=20∨t=27 then 2 else if t=19 then 3 else if t=26 then 4 else if t=17 then 5 else if t=11 then 6
 else if t=16∨t=24 then 7 else if t=15∨t=23∨t=25 then 8 else if t=21 then 9 else if t=22 then 10 else if t=0 then 11 else 0
def rank14 (a:Act12):Int:=rankT a.T
def fld14 (a:Act12):Int:=if a.T=25 then a.o.F else 0
def place14 (a b:Act12):Bool:=a.T==b.T&&fld14 a==fld14 b
def ahead14 (a b:Act12):Bool:=
 if rank14 a≠rank14 b then decide (rank14 a<rank14 b) else if a.T≠b.T then decide (a.T<b.T) else decide (fld14 a<fld14 b)
def may14 (a:Act12):Bool:=(act12 a).isSome&&decide (0<rank14 a)
def sorted14:List Act12→Bool
 | []=>true
 | [_]=>true
 | a::b::r=>ahead14 a b&&sorted14 (b::r)
def right14 (l:List Act12):Bool:=l.all may14&&sorted14 l
def put14 (a:Act12):List Act12→List Act12
 | []=>[a]
 | x::r=>if ahead14 x a=true then (if place14 x a=true then put14 a r else x::put14 a r) else a::(x::r).filter (fun y=>!place14 y a)
def write14 (s l:List Act12):Except Int (List Act12):=
 if right14 s=true∧l.all may14=true then .ok (l.foldl (fun s a=>put14 a s) s) else .error 10001
def plan14 (s:List Act12):List Act12:=if right14 s=true then s.filter (fun a=>a.T != 0 || !s.any (fun b=>b.T==22)) else []
def drops14 (s:List Act12):Bool:=right14 s && !s.any (fun a=>a.T==0||a.T==22)
theorem ahead_iff {a b:Act12}:ahead14 a b=true↔rank14 a<rank14 b∨(rank14 a=rank14 b∧(a.T<b.T∨(a.T=b.T∧fld14 a<fld14 b))):=by
 unfold ahead14
 split
 · rw[decide_eq_true_iff];omega
 · split
   · rw[decide_eq_true_iff];omega
   · rw[decide_eq_true_iff];omega
theorem place_iff {a b:Act12}:place14 a b=true↔a.T=b.T∧fld14 a=fld14 b:=by
 unfold place14
 rw[Bool.and_eq_true,beq_iff_eq,beq_iff_eq]
theorem rank_of {a b:Act12} (h:a.T=b.T):rank14 a=rank14 b:=by unfold rank14;rw[h]
theorem ahead_trans {a b c:Act12} (h:ahead14 a b=true) (k:ahead14 b c=true):ahead14 a c=true:=by
 rw[ahead_iff]at *;omega
theorem ahead_irr (a:Act12):ahead14 a a=false:=by
 cases h:ahead14 a a
 · rfl
 · rw[ahead_iff]at h;omega
theorem ahead_not {a b:Act12} (h:ahead14 a b=true):place14 a b=false∧place14 b a=false:=by
 rw[ahead_iff]at h
 constructor
 · cases e:place14 a b
   · rfl
   · rw[place_iff]at e;have:=rank_of e.1;omega
 · cases e:place14 b a
   · rfl
   · rw[place_iff]at e;have:=rank_of e.1;omega
theorem ahead_total {a b:Act12} (h:ahead14 a b=false):place14 a b=true∨ahead14 b a=true:=by
 have hn:¬(rank14 a<rank14 b∨(rank14 a=rank14 b∧(a.T<b.T∨(a.T=b.T∧fld14 a<fld14 b)))):=by
  rw[←ahead_iff,h];simp
 by_cases hp:place14 a b=true
 · exact .inl hp
 · right
   rw[place_iff]at hp
   rw[ahead_iff]
   omega
theorem place_symm {a b:Act12}:place14 a b=place14 b a:=by
 rw[Bool.eq_iff_iff,place_iff,place_iff]
 constructor<;>rintro⟨h,k⟩<;>exact⟨h.symm,k.symm⟩
theorem place_trans {a b c:Act12} (h:place14 a b=true) (k:place14 b c=true):place14 a c=true:=by
 rw[place_iff]at *;exact⟨h.1.trans k.1,h.2.trans k.2⟩
abbrev Rises (l:List Act12):Prop:=l.Pairwise (fun a b=>ahead14 a b=true)
theorem sorted_iff14 {l:List Act12}:sorted14 l=true↔Rises l:=by
 induction l with
 | nil=>simp[sorted14,Rises]
 | cons a r ih=>
   cases r with
   | nil=>simp[sorted14,Rises]
   | cons b s=>
     rw[sorted14,Bool.and_eq_true,ih]
     constructor
     · rintro⟨h1,h2⟩
       refine List.pairwise_cons.2 ⟨fun y hy=>?_,h2⟩
       rcases List.mem_cons.1 hy with rfl|hy
       · exact h1
       · exact ahead_trans h1 ((List.pairwise_cons.1 h2).1 y hy)
     · intro h
       obtain⟨h1,h2⟩:=List.pairwise_cons.1 h
       exact⟨h1 b (by simp),h2⟩
theorem right_iff14 {l:List Act12}:right14 l=true↔(∀a∈l,may14 a=true)∧Rises l:=by
 unfold right14
 rw[Bool.and_eq_true,List.all_eq_true,sorted_iff14]
theorem mem_put14 {a y:Act12} {s:List Act12} (hs:Rises s):y∈put14 a s↔y=a∨(y∈s∧place14 y a=false):=by
 induction s with
 | nil=>simp[put14]
 | cons x r ih=>
   obtain⟨h1,h2⟩:=List.pairwise_cons.1 hs
   unfold put14
   split
   · rename_i hx
     have hn:=(ahead_not hx).1
     rw[if_neg (by rw[hn];simp),List.mem_cons,ih h2,List.mem_cons]
     constructor
     · rintro (rfl|rfl|⟨h,k⟩)
       · exact .inr ⟨.inl rfl,hn⟩
       · exact .inl rfl
       · exact .inr ⟨.inr h,k⟩
     · rintro (rfl|⟨rfl|h,k⟩)
       · exact .inr (.inl rfl)
       · exact .inl rfl
       · exact .inr (.inr ⟨h,k⟩)
   · rw[List.mem_cons,List.mem_filter]
     simp
theorem rises_put {a:Act12} {s:List Act12} (hs:Rises s):Rises (put14 a s):=by
 induction s with
 | nil=>simp[put14,Rises]
 | cons x r ih=>
   obtain⟨h1,h2⟩:=List.pairwise_cons.1 hs
   unfold put14
   split
   · rename_i hx
     rw[if_neg (by rw[(ahead_not hx).1];simp)]
     refine List.pairwise_cons.2 ⟨fun y hy=>?_,ih h2⟩
     rcases (mem_put14 h2).1 hy with rfl|⟨hy,_⟩
     · exact hx
     · exact h1 y hy
   · rename_i hx
     have hx:ahead14 x a=false:=by simpa using hx
     refine List.pairwise_cons.2 ⟨fun y hy=>?_,hs.filter _⟩
     rw[List.mem_filter]at hy
     obtain⟨hy,hp⟩:=hy
     have hp:place14 y a=false:=by simpa using hp
     have hay:ahead14 y a=false:=by
      rcases List.mem_cons.1 hy with rfl|hy
      · exact hx
      · cases e:ahead14 y a
        · rfl
        · rw[ahead_trans (h1 y hy) e]at hx;cases hx
     rcases ahead_total hay with h|h
     · rw[hp]at h;cases h
     · exact h
theorem rises_ext {p q:List Act12} (hp:Rises p) (hq:Rises q) (h:∀y,y∈p↔y∈q):p=q:=by
 induction p generalizing q with
 | nil=>
   cases q with
   | nil=>rfl
   | cons y r=>have:=(h y).2 (by simp);cases this
 | cons x r ih=>
   cases q with
   | nil=>have:=(h x).1 (by simp);cases this
   | cons y s=>
     obtain⟨p1,p2⟩:=List.pairwise_cons.1 hp
     obtain⟨q1,q2⟩:=List.pairwise_cons.1 hq
     have hxy:x=y:=by
      rcases List.mem_cons.1 ((h x).1 (by simp)) with e|e
      · exact e
      · rcases List.mem_cons.1 ((h y).2 (by simp)) with e2|e2
        · exact e2.symm
        · have:=ahead_trans (q1 x e) (p1 y e2)
          rw[ahead_irr]at this;cases this
     subst hxy
     rw[ih p2 q2]
     intro z
     constructor
     · intro hz
       rcases List.mem_cons.1 ((h z).1 (by simp[hz])) with rfl|e
       · have:=p1 z hz;rw[ahead_irr]at this;cases this
       · exact e
     · intro hz
       rcases List.mem_cons.1 ((h z).2 (by simp[hz])) with rfl|e
       · have:=q1 z hz;rw[ahead_irr]at this;cases this
       · exact e
theorem put_length14 (a:Act12) (s:List Act12):(put14 a s).length≤s.length+1:=by
 induction s with
 | nil=>simp[put14]
 | cons x r ih=>
   unfold put14
   split
   · split
     · rw[List.length_cons];omega
     · rw[List.length_cons,List.length_cons];omega
   · rw[List.length_cons]
     have:=List.length_filter_le (fun y=>!place14 y a) (x::r)
     omega
def puts14 (s l:List Act12):List Act12:=l.foldl (fun s a=>put14 a s) s
theorem rises_puts {l s:List Act12} (hs:Rises s):Rises (puts14 s l):=by
 unfold puts14
 induction l generalizing s with
 | nil=>exact hs
 | cons a r ih=>exact ih (rises_put hs)
def Last14 (m:List Act12) (y:Act12):Prop:=∃p q,m=p++y::q ∧ ∀z∈q,place14 z y=false
theorem last_cons {a y:Act12} {m:List Act12}:Last14 (a::m) y↔(y=a ∧ ∀z∈m,place14 z y=false)∨Last14 m y:=by
 constructor
 · rintro⟨p,q,e,h⟩
   cases p with
   | nil=>cases e;exact .inl ⟨rfl,h⟩
   | cons b p=>cases e;exact .inr ⟨p,q,rfl,h⟩
 · rintro (⟨rfl,h⟩|⟨p,q,rfl,h⟩)
   · exact⟨[],m,rfl,h⟩
   · exact⟨a::p,q,rfl,h⟩
theorem last_mem {y:Act12} {m:List Act12} (h:Last14 m y):y∈m:=by
 obtain⟨p,q,rfl,_⟩:=h
 simp
theorem mem_puts {m s:List Act12} {y:Act12} (hs:Rises s):y∈puts14 s m↔Last14 m y∨(y∈s ∧ ∀z∈m,place14 z y=false):=by
 unfold puts14
 induction m generalizing s with
 | nil=>
   constructor
   · intro h;exact .inr ⟨h,fun z hz=>by cases hz⟩
   · rintro (h|h)
     · have:=last_mem h;cases this
     · exact h.1
 | cons a r ih=>
   rw[List.foldl_cons,ih (rises_put hs),mem_put14 hs,last_cons]
   constructor
   · rintro (h|⟨rfl|⟨h,k⟩,h2⟩)
     · exact .inl (.inr h)
     · exact .inl (.inl ⟨rfl,h2⟩)
     · refine .inr ⟨h,fun z hz=>?_⟩
       rcases List.mem_cons.1 hz with rfl|hz
       · rw[place_symm];exact k
       · exact h2 z hz
   · rintro ((⟨rfl,h⟩|h)|⟨h,h2⟩)
     · exact .inr ⟨.inl rfl,h⟩
     · exact .inl h
     · refine .inr ⟨.inr ⟨h,?_⟩,fun z hz=>h2 z (by simp[hz])⟩
       rw[place_symm];exact h2 a (by simp)
theorem puts_append (s l m:List Act12):puts14 s (l++m)=puts14 (puts14 s l) m:=by unfold puts14;rw[List.foldl_append]
theorem put_swap {s:List Act12} {a b:Act12} (hs:Rises s) (h:place14 a b=false):put14 a (put14 b s)=put14 b (put14 a s):=by
 refine rises_ext (rises_put (rises_put hs)) (rises_put (rises_put hs)) fun y=>?_
 have h':place14 b a=false:=by rw[place_symm];exact h
 rw[mem_put14 (rises_put hs),mem_put14 hs,mem_put14 (rises_put hs),mem_put14 hs]
 constructor
 · rintro (rfl|⟨rfl|⟨h1,h2⟩,h3⟩)
   · exact .inr ⟨.inl rfl,h⟩
   · exact .inl rfl
   · exact .inr ⟨.inr ⟨h1,h3⟩,h2⟩
 · rintro (rfl|⟨rfl|⟨h1,h2⟩,h3⟩)
   · exact .inr ⟨.inl rfl,h'⟩
   · exact .inl rfl
   · exact .inr ⟨.inr ⟨h1,h3⟩,h2⟩
theorem rank_ways (t:Int):t=0∨t=22∨t=21∨t=15∨t=23∨t=25∨t=16∨t=24∨t=11∨t=17∨t=26∨t=19∨t=18∨t=20∨t=27∨t=12∨(t≠0∧t≠22∧t≠21∧t≠15∧t≠23∧t≠25∧t≠16∧t≠24∧t≠11∧t≠17∧t≠26∧t≠19∧t≠18∧t≠20∧t≠27∧t≠12):=by omega
set_option maxHeartbeats 4000000 in
theorem rank_any (T A B C F:Int) (H:Bool) (X:Int) (va:Option Addr) (vl vc:Nat) (ma:Option Addr) (ml mc:Nat) (da:Option Addr) (dl dc:Nat) (w:World):
 Calls Try.prog 11 #[.agg #[.int .i64 T,.int .u64 A,.int .u64 B,.int .i64 C,.int .i64 F,.bool H,.int .u64 X,.slice va vl vc,.slice ma ml mc,.slice da dl dc]] w fun e w'=>e = .returned (.int .i64 (rankT T))∧Below w.heap.size w w':=by
 rcases rank_ways T with rfl|rfl|rfl|rfl|rfl|rfl|rfl|rfl|rfl|rfl|rfl|rfl|rfl|rfl|rfl|rfl|⟨h0,h1,h2,h3,h4,h5,h6,h7,h8,h9,h10,h11,h12,h13,h14,h15⟩
 all_goals
  go_enter Try.func11,Try.ntmps11
  go_wp2_with fail
  go_ret
  exact⟨by first|rfl|simp[rankT, *],below_alloc _ _⟩
theorem rankE_any (g:Ent12) (w:World):Calls Try.prog 11 #[g.val] w fun e w'=>e = .returned (.int .i64 (rankT g.T))∧Below w.heap.size w w':=rank_any _ _ _ _ _ _ _ _ _ _ _ _ _ _ _ _ w
theorem may_is {w:World} (g:Ent12) (hi:ActIn w g):may14 g.act=(decide (0<rankT g.T)&&right12 g):=by
 rw[right_act g hi.ld,Bool.and_comm]
 rfl
set_option maxHeartbeats 4000000 in
theorem mayStand_any (g:Ent12) (w:World) (hi:ActIn w g):Calls Try.prog 14 #[g.val] w fun e w'=>e = .returned (.bool (may14 g.act))∧Below w.heap.size w w':=by
 obtain⟨W,hW,hbW,hx⟩:=act_box w g.T g.A g.B g.o.C g.o.F g.o.H g.o.X g.va g.o.v.length g.vc g.ma g.o.m.length g.mc g.da g.d.length g.dc
 have HM:=hid (may_is g hi)
 obtain⟨m,hm⟩:∃m,may14 g.act=m:=⟨_,rfl⟩
 rw[hm]at HM ⊢
 have HW:=hid hW
 have HB:=hid hbW
 have HR:=hid (rankE_any g W)
 have HA:=hid (fun V (hV:Below w.heap.size w V)=>actRight_any g V (hi.below hV))
 have HX:=hid hx
 obtain⟨r,hr⟩:∃r,right12 g=r:=⟨_,rfl⟩
 rw[hr]at HA HM
 clear hr hW hbW hx hi hm
 obtain⟨k,hk⟩:∃k,rankT g.T=k:=⟨_,rfl⟩
 rw[hk]at HR HM
 clear hk
 obtain⟨T,A,B,⟨C,F,H,X,v,m'⟩,va,vc,ma,mc,d,da,dc⟩:=g
 unfold Ent12.val at *
 simp only at *
 obtain⟨d0,d1,d2,d3,d4,d5,d6,d7,d8,d9⟩:=HX.out.ten
 by_cases hk : 0<k
 · have hkd:decide (0<k)=true:=decide_eq_true hk
   have HM2:Hid (m=r):=by show _=_;rw[HM.out,hkd,Bool.true_and]
   go_enter Try.func14,Try.ntmps14
   go_upto_region 1 with fail
   rw[HW.out]
   go_wp2_with fail
   refine HR.out.mono ?_
   rintro e w1 ⟨rfl,hb1⟩
   have HB1:=hid (below_on HB.out hb1)
   have HX1:=hid (HX.out.below hb1)
   clear hb1 d0 d1 d2 d3 d4 d5 d6 d7 d8 d9
   obtain⟨d0,d1,d2,d3,d4,d5,d6,d7,d8,d9⟩:=HX1.out.ten
   go_wp2_with fail
   refine (HA.out _ HB1.out).mono ?_
   rintro e w2 ⟨rfl,hb2⟩
   have HB2:=hid (below_on HB1.out hb2)
   clear hb2
   go_wp2_with fail
   go_ret
   exact⟨by rw[HM2.out];rfl,HB2.out⟩
 · have hkd:decide (0<k)=false:=decide_eq_false hk
   have HM2:Hid (m=false):=by show _=_;rw[HM.out,hkd,Bool.false_and]
   go_enter Try.func14,Try.ntmps14
   go_upto_region 1 with fail
   rw[HW.out]
   go_wp2_with fail
   refine HR.out.mono ?_
   rintro e w1 ⟨rfl,hb1⟩
   have HB1:=hid (below_on HB.out hb1)
   clear hb1 d0 d1 d2 d3 d4 d5 d6 d7 d8 d9
   go_wp2_with fail
   go_ret
   exact⟨by rw[HM2.out];rfl,HB1.out⟩
def placeV (g:Ent12):Value:=.agg #[.int .i64 (rankT g.T),.int .i64 g.T,.int .i64 g.o.F]
def aheadP (g h:Ent12):Bool:=decide (or3 (cmp3 (rankT g.T) (rankT h.T)) (cmp3 g.T h.T) (cmp3 g.o.F h.o.F)<0)
theorem or3_neg {x y z:Int} (hx:x = -1∨x=0∨x=1) (hy:y = -1∨y=0∨y=1):or3 x y z<0↔x<0∨(x=0∧(y<0∨(y=0∧z<0))):=by
 unfold or3
 rcases hx with rfl|rfl|rfl<;>rcases hy with rfl|rfl|rfl<;>simp
theorem cmp3_val (x y:Int):cmp3 x y = -1∨cmp3 x y=0∨cmp3 x y=1:=by rcases cmp3_cases x y with h|h|h<;>simp[h.1]
theorem cmp3_neg (x y:Int):cmp3 x y<0↔x<y:=by rcases cmp3_cases x y with h|h|h<;>omega
theorem cmp3_zero (x y:Int):cmp3 x y=0↔x=y:=by rcases cmp3_cases x y with h|h|h<;>omega
theorem aheadP_iff (g h:Ent12):aheadP g h=true↔rankT g.T<rankT h.T∨(rankT g.T=rankT h.T∧(g.T<h.T∨(g.T=h.T∧g.o.F<h.o.F))):=by
 unfold aheadP
 rw[decide_eq_true_iff,or3_neg (cmp3_val _ _) (cmp3_val _ _),cmp3_neg,cmp3_neg,cmp3_neg,cmp3_zero,cmp3_zero]
theorem BoxL.tri {w:World} {b:Nat} {v0 v1 v2:Value} (h:BoxL w b [v0,v1,v2]):w.cell? ⟨b,0,none⟩=some v0∧w.cell? ⟨b,1,none⟩=some v1∧w.cell? ⟨b,2,none⟩=some v2:=⟨h.cell 0 _ rfl,h.cell 1 _ rfl,h.cell 2 _ rfl⟩
theorem BoxL.setTri {w:World} {b:Nat} {u0 u1 u2:Value} (h:BoxL w b [u0,u1,u2]) (v0 v1 v2:Value):BoxL (((w.setCell ⟨b,0,none⟩ v0).setCell ⟨b,1,none⟩ v1).setCell ⟨b,2,none⟩ v2) b [v0,v1,v2]:=
 ((h.set 0 v0 (by simp)).set 1 v1 (by simp)).set 2 v2 (by simp)
set_option maxHeartbeats 4000000 in
theorem placeOf_any (g:Ent12) (w:World):Calls Try.prog 19 #[g.val] w fun e w'=>e = .returned (placeV g)∧Below w.heap.size w w':=by
 obtain⟨W,hW,hbW,hx⟩:=act_box w g.T g.A g.B g.o.C g.o.F g.o.H g.o.X g.va g.o.v.length g.vc g.ma g.o.m.length g.mc g.da g.d.length g.dc
 obtain⟨V,hV,hbV,hz⟩:∃V,W.alloc (.cells #[.int .i64 0,.int .i64 0,.int .i64 0] 42)=V∧Below W.heap.size W V∧BoxL V W.heap.size [.int .i64 0,.int .i64 0,.int .i64 0]:=⟨_,rfl,below_alloc _ _,BoxL.new _ _ _⟩
 have hs:W.heap.size=w.heap.size+1:=by rw[←hW];simp
 rw[hs]at hz
 have HW:=hid hW
 have HV:=hid hV
 have HB:=hid (below_on hbW hbV)
 have HR:=hid (fun V=>rankE_any g V)
 have HX:=hid (hx.below hbV)
 have HZ:=hid hz
 unfold placeV
 clear hW hbW hx hV hbV hz hs
 obtain⟨k,hk⟩:∃k,rankT g.T=k:=⟨_,rfl⟩
 rw[hk]at HR ⊢
 clear hk
 obtain⟨T,A,B,⟨C,F,H,X,v,m'⟩,va,vc,ma,mc,d,da,dc⟩:=g
 unfold Ent12.val at *
 simp only at *
 obtain⟨d0,d1,d2,d3,d4,d5,d6,d7,d8,d9⟩:=HX.out.ten
 go_enter Try.func19,Try.ntmps19
 go_upto_region 1 with fail
 rw[HW.out,HV.out]
 go_region_held3 (fun w'=>w'.cell? ⟨w.heap.size,0,none⟩=some (.int .i64 T)∧w'.cell? ⟨w.heap.size,1,none⟩=some (.int .u64 A)∧w'.cell? ⟨w.heap.size,2,none⟩=some (.int .u64 B)∧w'.cell? ⟨w.heap.size,3,none⟩=some (.int .i64 C)∧w'.cell? ⟨w.heap.size,4,none⟩=some (.int .i64 F)∧w'.cell? ⟨w.heap.size,5,none⟩=some (.bool H)∧w'.cell? ⟨w.heap.size,6,none⟩=some (.int .u64 X)∧w'.cell? ⟨w.heap.size,7,none⟩=some (.slice va v.length vc)∧w'.cell? ⟨w.heap.size,8,none⟩=some (.slice ma m'.length mc)∧w'.cell? ⟨w.heap.size,9,none⟩=some (.slice da d.length dc)) (go_keep) ((first
  | (go_at_call 11
     refine (HR.out _).mono ?_
     rintro e w1 ⟨rfl,hb1⟩
     obtain⟨u0,u1,u2,u3,u4,u5,u6,u7,u8,u9⟩:=(HX.out.drew.below hb1).ten
     obtain⟨z0,z1,z2⟩:=(HZ.out.drew.below hb1).tri
     have zf:=(HZ.out.drew.below hb1).free
     have HB1:=hid hb1
     have HZ1:=hid (HZ.out.drew.below hb1))
  | fail))
 go_wp2_with fail
 have hz:=(HZ1.out.setTri (.int .i64 k) (.int .i64 T) (.int .i64 F)).tri
 obtain⟨q0,q1,q2⟩:=hz
 refine bodyPost_ret (v:=.agg #[.int .i64 k,.int .i64 T,.int .i64 F]) (by simp[results,Try.results19,go_sem,q0,q1,q2]) rfl ⟨rfl,?_⟩
 exact (((below_on HB.out.drew HB1.out).setCell (by simp) _).setCell (by simp) _).setCell (by simp) _
set_option maxHeartbeats 4000000 in
theorem ahead3_any (a0 a1 a2 b0 b1 b2:Int) (w:World):Calls Try.prog 20 #[.agg #[.int .i64 a0,.int .i64 a1,.int .i64 a2],.agg #[.int .i64 b0,.int .i64 b1,.int .i64 b2]] w
 fun e w'=>e = .returned (.bool (decide (or3 (cmp3 a0 b0) (cmp3 a1 b1) (cmp3 a2 b2)<0)))∧Below w.heap.size w w':=by
 obtain⟨r0,hr0⟩:∃r,cmp3 a0 b0=r:=⟨_,rfl⟩
 obtain⟨r1,hr1⟩:∃r,cmp3 a1 b1=r:=⟨_,rfl⟩
 obtain⟨r2,hr2⟩:∃r,cmp3 a2 b2=r:=⟨_,rfl⟩
 have c0:=fun w=>compareInt_any a0 b0 w
 have c1:=fun w=>compareInt_any a1 b1 w
 have c2:=fun w=>compareInt_any a2 b2 w
 rw[hr0]at c0 ⊢
 rw[hr1]at c1 ⊢
 rw[hr2]at c2 ⊢
 obtain⟨W,hW,hbW,hx⟩:∃W,w.alloc (.cells #[.int .i64 a0,.int .i64 a1,.int .i64 a2] 42)=W∧Below w.heap.size w W∧BoxL W w.heap.size [.int .i64 a0,.int .i64 a1,.int .i64 a2]:=⟨_,rfl,below_alloc _ _,BoxL.new _ _ _⟩
 obtain⟨V,hV,hbV,hy⟩:∃V,W.alloc (.cells #[.int .i64 b0,.int .i64 b1,.int .i64 b2] 42)=V∧Below W.heap.size W V∧BoxL V W.heap.size [.int .i64 b0,.int .i64 b1,.int .i64 b2]:=⟨_,rfl,below_alloc _ _,BoxL.new _ _ _⟩
 have hs:W.heap.size=w.heap.size+1:=by rw[←hW];simp
 have hx:=hx.below hbV
 rw[hs]at hy
 have HW:=hid hW
 have HV:=hid hV
 have HB:=hid (below_on hbW hbV)
 have hxD:=hx.drew
 have hyD:=hy.drew
 obtain⟨d0,d1,d2⟩:=hxD.tri
 obtain⟨e0,e1,e2⟩:=hyD.tri
 obtain⟨f0,f1,f2⟩:=hx.tri
 obtain⟨g0,g1,g2⟩:=hy.tri
 have s1:w.heap.size<V.heap.size:=hx.lt
 have s2:w.heap.size+1<V.heap.size:=hy.lt
 have n1:¬w.heap.size=V.heap.size:=by omega
 have n2:¬w.heap.size+1=V.heap.size:=by omega
 have KC:Hid (∀o:Obj,(fun w'=>w'.cell? ⟨w.heap.size,0,none⟩=some (.int .i64 a0)∧w'.cell? ⟨w.heap.size,1,none⟩=some (.int .i64 a1)∧w'.cell? ⟨w.heap.size,2,none⟩=some (.int .i64 a2)∧w'.cell? ⟨w.heap.size+1,0,none⟩=some (.int .i64 b0)∧w'.cell? ⟨w.heap.size+1,1,none⟩=some (.int .i64 b1)∧w'.cell? ⟨w.heap.size+1,2,none⟩=some (.int .i64 b2)) ((V.alloc o).drew)):=by
  show _
  intro o
  obtain⟨a0,a1,a2⟩:=((hx.alloc o).drew).tri
  obtain⟨b0,b1,b2⟩:=((hy.alloc o).drew).tri
  exact⟨a0,a1,a2,b0,b1,b2⟩
 clear hW hbW hx hy hxD hyD hs hV hbV hr0 hr1 hr2
 go_enter Try.func20,Try.ntmps20
 go_upto_region 1 with fail
 rw[HW.out,HV.out]
 go_region_held3 (fun w'=>w'.cell? ⟨w.heap.size,0,none⟩=some (.int .i64 a0)∧w'.cell? ⟨w.heap.size,1,none⟩=some (.int .i64 a1)∧w'.cell? ⟨w.heap.size,2,none⟩=some (.int .i64 a2)∧w'.cell? ⟨w.heap.size+1,0,none⟩=some (.int .i64 b0)∧w'.cell? ⟨w.heap.size+1,1,none⟩=some (.int .i64 b1)∧w'.cell? ⟨w.heap.size+1,2,none⟩=some (.int .i64 b2)) (first|go_keep|exact KC.out _) ((first
  | (go_at_call 29;with_reducible refine (c0 _).mono ?_;rintro e w5 ⟨rfl,rfl⟩)
  | (go_at_call 29;with_reducible refine (c1 _).mono ?_;rintro e w5 ⟨rfl,rfl⟩)
  | (go_at_call 29;with_reducible refine (c2 _).mono ?_;rintro e w5 ⟨rfl,rfl⟩)
  | (go_at_call 28;refine (cmpOr_any r0 r1 r2 _ _ _ (by simp) (by simp) (by simp)).mono ?_;rintro e w5 ⟨rfl,rfl⟩)
  | fail))
 all_goals
  go_wp2_with fail
 refine bodyPost_ret (v:=.bool (decide (or3 r0 r1 r2<0))) (by simp[results,Try.results20,go_sem]) rfl ⟨rfl,?_⟩
 exact (below_on HB.out (below_alloc _ _)).drew
theorem isAhead_any (g h:Ent12) (w:World):Calls Try.prog 20 #[placeV g,placeV h] w fun e w'=>e = .returned (.bool (aheadP g h))∧Below w.heap.size w w':=ahead3_any _ _ _ _ _ _ w
theorem may_puts {s m:List Act12} (hs:Rises s) (h1:∀a∈s,may14 a=true) (h2:∀a∈m,may14 a=true):∀a∈puts14 s m,may14 a=true:=by
 intro a ha
 rcases (mem_puts hs).1 ha with h|⟨h,_⟩
 · exact h2 a (last_mem h)
 · exact h1 a h
theorem right_puts {s m:List Act12} (hs:right14 s=true) (hm:m.all may14=true):right14 (puts14 s m)=true:=by
 rw[right_iff14]at *
 rw[List.all_eq_true]at hm
 exact⟨may_puts hs.2 hs.1 hm,rises_puts hs.2⟩
theorem write_ok14 {s m x:List Act12} (h:write14 s m = .ok x):right14 s=true∧m.all may14=true∧x=puts14 s m∧right14 x=true:=by
 unfold write14 at h
 split at h
 · rename_i k
   cases h
   exact⟨k.1,k.2,rfl,right_puts k.1 k.2⟩
 · cases h
theorem write_is14 {s m:List Act12} (hs:right14 s=true) (hm:m.all may14=true):write14 s m = .ok (puts14 s m):=by
 unfold write14
 rw[if_pos ⟨hs,hm⟩]
 rfl
theorem nodup_le {l:List Int}:∀ {k:List Int},l.Nodup→(∀x∈l,x∈k)→l.length≤k.length:=by
 induction l with
 | nil=>intro k _ _;simp
 | cons a r ih=>
   intro k h1 h2
   obtain⟨h3,h4⟩:=List.nodup_cons.1 h1
   have ha:=h2 a (by simp)
   have:=ih (k:=k.erase a) h4 (fun x hx=>(List.mem_erase_of_ne (by rintro rfl;exact h3 hx)).2 (h2 x (by simp[hx])))
   rw[List.length_erase_of_mem ha]at this
   have hk:=List.length_pos_of_mem ha
   rw[List.length_cons]
   omega
def key14 (a:Act12):Int:=if a.T=25 then 1000+a.o.F else a.T
def keys14:List Int:=[12,18,20,27,19,26,17,11,16,24,15,23,21,22,0]++(List.range 36).map (fun (i:Nat)=>(1003+(i:Int):Int))
theorem may_set {a:Act12} (h:may14 a=true) (hT:a.T=25) : 2<a.o.F∧a.o.F<39:=by
 unfold may14 at h
 rw[Bool.and_eq_true]at h
 cases hx:act12 a with
 | none=>rw[hx]at h;simp at h
 | some x=>
   obtain⟨b,hb,_⟩:=act_write hx
   obtain⟨_,_,_,hs,_⟩:=body_25 hb hT
   unfold setOk12 at hs
   simp only[Bool.and_eq_true,decide_eq_true_eq]at hs
   exact hs.1.2
theorem key_in {a:Act12} (h:may14 a=true):key14 a∈keys14:=by
 by_cases hT:a.T=25
 · have hF:=may_set h hT
   unfold key14 keys14
   rw[if_pos hT]
   refine List.mem_append_right _ (List.mem_map.2 ⟨(a.o.F-3).toNat,?_,?_⟩)
   · rw[List.mem_range];omega
   · omega
 · unfold key14 keys14
   rw[if_neg hT]
   refine List.mem_append_left _ ?_
   unfold may14 at h
   rw[Bool.and_eq_true,decide_eq_true_iff]at h
   have hr:=h.2
   unfold rank14 rankT at hr
   by_cases hn:a.T=12∨a.T=18∨a.T=20∨a.T=27∨a.T=19∨a.T=26∨a.T=17∨a.T=11∨a.T=16∨a.T=24∨a.T=15∨a.T=23∨a.T=21∨a.T=22∨a.T=0
   · simp only[List.mem_cons,List.not_mem_nil,or_false]
     exact hn
   · exfalso
     simp only[not_or]at hn
     simp[hn,hT]at hr
theorem key_place {a b:Act12} (ha:may14 a=true) (hb:may14 b=true) (h:key14 a=key14 b):place14 a b=true:=by
 have h1:=may_set ha
 have h2:=may_set hb
 have r1:a.T<1000:=by
  have:=key_in ha
  unfold key14 at this
  by_cases hT:a.T=25
  · omega
  · unfold may14 at ha
    rw[Bool.and_eq_true,decide_eq_true_iff]at ha
    have hr:=ha.2
    unfold rank14 rankT at hr
    by_cases hn:a.T<1000
    · exact hn
    · exfalso
      rw[if_neg (by omega),if_neg (by omega),if_neg (by omega),if_neg (by omega),if_neg (by omega),if_neg (by omega),if_neg (by omega),if_neg (by omega),if_neg (by omega),if_neg (by omega),if_neg (by omega)]at hr
      omega
 have r2:b.T<1000:=by
  by_cases hT:b.T=25
  · omega
  · unfold may14 at hb
    rw[Bool.and_eq_true,decide_eq_true_iff]at hb
    have hr:=hb.2
    unfold rank14 rankT at hr
    by_cases hn:b.T<1000
    · exact hn
    · exfalso
      rw[if_neg (by omega),if_neg (by omega),if_neg (by omega),if_neg (by omega),if_neg (by omega),if_neg (by omega),if_neg (by omega),if_neg (by omega),if_neg (by omega),if_neg (by omega),if_neg (by omega)]at hr
      omega
 rw[place_iff]
 unfold key14 at h
 unfold fld14
 by_cases h3:a.T=25<;>by_cases h4:b.T=25
 · rw[if_pos h3,if_pos h4]at h
   rw[if_pos h3,if_pos h4]
   omega
 · rw[if_pos h3,if_neg h4]at h
   have:=h1 h3
   omega
 · rw[if_neg h3,if_pos h4]at h
   have:=h2 h4
   omega
 · rw[if_neg h3,if_neg h4]at h
   rw[if_neg h3,if_neg h4]
   exact⟨h,rfl⟩
theorem set_few {s:List Act12} (h:right14 s=true):s.length≤51:=by
 obtain⟨h1,h2⟩:=right_iff14.1 h
 have hn:(s.map key14).Nodup:=by
  have:s.Pairwise (fun a b=>key14 a≠key14 b):=by
   refine List.Pairwise.imp_of_mem ?_ h2
   intro a b ha hb hab e
   have:=(ahead_not hab).1
   rw[key_place (h1 a ha) (h1 b hb) e]at this
   cases this
  exact List.pairwise_map.2 this
 have:=nodup_le (k:=keys14) hn (fun x hx=>by
  obtain⟨a,ha,rfl⟩:=List.mem_map.1 hx
  exact key_in (h1 a ha))
 rw[List.length_map]at this
 exact Nat.le_trans this (by unfold keys14;simp)
theorem plan_rises {s:List Act12} (h:right14 s=true):Rises (plan14 s):=by
 unfold plan14
 rw[if_pos h]
 exact (right_iff14.1 h).2.filter _
theorem rank_rise {a b:Act12} (h:ahead14 a b=true):rank14 a≤rank14 b:=by rw[ahead_iff]at h;omega
theorem plan_free {s:List Act12} {a:Act12} (h:right14 s=true) (ha:a∈plan14 s) (hg:s.any (fun b=>b.T==22)=true):a.T≠0:=by
 unfold plan14 at ha
 rw[if_pos h,List.mem_filter,hg]at ha
 simpa using ha.2
theorem plan_less {s:List Act12} (h:right14 s=true):(plan14 s).length≤s.length∧s.length≤(plan14 s).length+1:=by
 unfold plan14
 rw[if_pos h]
 have h2:=(right_iff14.1 h).2
 obtain⟨q,hq⟩:∃q,q = !s.any (fun b=>b.T==22):=⟨_,rfl⟩
 rw[←hq]
 clear hq h
 refine⟨List.length_filter_le _ _,?_⟩
 induction s with
 | nil=>simp
 | cons a r ih=>
   obtain⟨h3,h4⟩:=List.pairwise_cons.1 h2
   rw[List.filter_cons]
   split
   · have:=ih h4
     rw[List.length_cons,List.length_cons]
     omega
   · rename_i ha
     have ha:a.T=0:=by simp at ha;exact ha.1
     have hall:r.filter (fun a=>a.T != 0||q)=r:=by
      rw[List.filter_eq_self]
      intro y hy
      have:=(ahead_not (h3 y hy)).1
      have hy0:y.T≠0:=by
       intro e
       rw[place_iff.2 ⟨by rw[ha,e],by unfold fld14;rw[if_neg (by omega),if_neg (by omega)]⟩]at this
       cases this
      simp[hy0]
     rw[hall,List.length_cons]
     omega
theorem take_snoc14 (l:List Ent12) (i:Nat) (hi:i<l.length):(l.map Ent12.act).take (i+1)=(l.map Ent12.act).take i ++ [l[i].act]:=by
 rw[List.take_add_one,List.getElem?_map,List.getElem?_eq_getElem hi];rfl
theorem filter_off {a:Act12} {l:List Act12} (h:∀y∈l,place14 y a=false):l.filter (fun y=>!place14 y a)=l:=by
 rw[List.filter_eq_self]
 intro y hy
 rw[h y hy];rfl
theorem put_here {a:Act12} {D:List Act12} (hR:Rises D) {i:Nat} (hi:i<D.length) (hb:∀k,(hk:k<i)→ahead14 (D[k]'(by omega)) a=true) (hp:place14 D[i] a=true):put14 a D=D.set i a:=by
 induction D generalizing i with
 | nil=>simp at hi
 | cons x r ih=>
   obtain⟨h1,h2⟩:=List.pairwise_cons.1 hR
   cases i with
   | zero=>
     have hp:place14 x a=true:=hp
     have hx:ahead14 x a=false:=by
      cases e:ahead14 x a
      · rfl
      · rw[(ahead_not e).1]at hp;cases hp
     unfold put14
     rw[hx,if_neg (by simp),List.filter_cons,hp]
     rw[if_neg (by simp),filter_off]
     · rfl
     · intro y hy
       cases e:place14 y a
       · rfl
       · have h3:=(ahead_not (h1 y hy)).1
         rw[place_trans hp (by rw[place_symm];exact e)]at h3
         cases h3
   | succ i=>
     have hx:ahead14 x a=true:=hb 0 (by omega)
     have:=ih h2 (i:=i) (by simpa using hi) (fun k hk=>hb (k+1) (by omega)) hp
     unfold put14
     rw[if_pos hx,(ahead_not hx).1,if_neg (by simp),this]
     rfl
theorem put_ahead {a:Act12} {D:List Act12} (hR:Rises D) {i:Nat} (hi:i<D.length) (hb:∀k,(hk:k<i)→ahead14 (D[k]'(by omega)) a=true) (ha:ahead14 a D[i]=true):put14 a D=D.take i++a::D.drop i:=by
 induction D generalizing i with
 | nil=>simp at hi
 | cons x r ih=>
   obtain⟨h1,h2⟩:=List.pairwise_cons.1 hR
   cases i with
   | zero=>
     have ha:ahead14 a x=true:=ha
     have hx:ahead14 x a=false:=by
      cases e:ahead14 x a
      · rfl
      · have:=ahead_trans ha e;rw[ahead_irr]at this;cases this
     unfold put14
     rw[hx,if_neg (by simp),filter_off]
     · rfl
     · intro y hy
       rcases List.mem_cons.1 hy with rfl|hy
       · exact (ahead_not ha).2
       · exact (ahead_not (ahead_trans ha (h1 y hy))).2
   | succ i=>
     have hx:ahead14 x a=true:=hb 0 (by omega)
     have:=ih h2 (i:=i) (by simpa using hi) (fun k hk=>hb (k+1) (by omega)) ha
     unfold put14
     rw[if_pos hx,(ahead_not hx).1,if_neg (by simp),this]
     rfl
theorem put_end {a:Act12} {D:List Act12} (hb:∀k,(hk:k<D.length)→ahead14 (D[k]) a=true):put14 a D=D ++ [a]:=by
 induction D with
 | nil=>rfl
 | cons x r ih=>
   have hx:ahead14 x a=true:=hb 0 (by simp)
   have:=ih (fun k hk=>hb (k+1) (by simpa using hk))
   unfold put14
   rw[if_pos hx,(ahead_not hx).1,if_neg (by simp),this]
   rfl
theorem rises_snoc {p:List Act12} {x:Act12} (h:Rises p) (hl:∀z,p.getLast? = some z→ahead14 z x=true):Rises (p ++ [x]):=by
 refine List.pairwise_append.2 ⟨h,by simp,fun y hy z hz=>?_⟩
 obtain rfl:=List.mem_singleton.1 hz
 rcases List.eq_nil_or_concat p with rfl|⟨q,u,rfl⟩
 · cases hy
 · have hu:=hl u (by simp)
   rw[List.concat_eq_append]at h hy
   rw[List.mem_append]at hy
   rcases hy with hy|hy
   · exact ahead_trans ((List.pairwise_append.1 h).2.2 y hy u (by simp)) hu
   · rw[List.mem_singleton.1 hy];exact hu
theorem right_snoc {p:List Act12} {x:Act12} (h:right14 p=true) (hx:may14 x=true) (hl:∀z,p.getLast? = some z→ahead14 z x=true):right14 (p ++ [x])=true:=by
 rw[right_iff14]at *
 refine⟨fun a ha=>?_,rises_snoc h.2 hl⟩
 rcases List.mem_append.1 ha with ha|ha
 · exact h.1 a ha
 · rw[List.mem_singleton.1 ha];exact hx
theorem right_not {l:List Act12} {i:Nat} (hi:i<l.length) (h:may14 l[i]=false ∨ ∃(k:Nat) (hk:k<i),ahead14 (l[k]'(by omega)) l[i]=false):right14 l=false:=by
 cases e:right14 l
 · rfl
 · rw[right_iff14]at e
   rcases h with h|⟨k,hk,h⟩
   · rw[e.1 _ (List.getElem_mem hi)]at h;cases h
   · rw[List.pairwise_iff_getElem.1 e.2 k i (by omega) hi hk]at h;cases h
theorem may_field {w:World} {g:Ent12} (hi:ActIn w g) (h:may14 g.act=true):fld14 g.act=g.o.F:=by
 unfold fld14
 by_cases hT:g.T=25
 · exact if_pos hT
 · rw[show g.act.T=g.T from rfl,if_neg hT]
   unfold may14 at h
   rw[Bool.and_eq_true]at h
   cases hx:act12 g.act with
   | none=>rw[hx]at h;simp at h
   | some x=>
     obtain⟨b,hb,_⟩:=act_write hx
     obtain⟨_,_,_,ho,_⟩:=body_row hb hT
     have ho:g.o=noOx:=ho
     rw[ho]
     rfl
theorem ahead_is {w:World} {g h:Ent12} (hi:ActIn w g) (hj:ActIn w h) (mg:may14 g.act=true) (mh:may14 h.act=true):aheadP g h=ahead14 g.act h.act:=by
 rw[Bool.eq_iff_iff,aheadP_iff,ahead_iff,may_field hi mg,may_field hj mh]
 rfl
theorem place_is {w:World} {g h:Ent12} (hi:ActIn w g) (hj:ActIn w h) (mg:may14 g.act=true) (mh:may14 h.act=true):place14 g.act h.act=true↔g.T=h.T∧g.o.F=h.o.F:=by
 rw[place_iff,may_field hi mg,may_field hj mh]
 rfl
def ClonePost14 (w:World) (l:List Ent12) (e:Ending) (w':World):Prop:=∃va vc,e = .returned (.slice va l.length vc)∧FreshA w w' (.slice va l.length vc) l.length l
set_option maxHeartbeats 4000000 in
theorem clone14_any (w:World) (a:Option Addr) (c:Nat) (l:List Ent12) (hL:Acts w a l) (hl:l.length≤900):
 Calls Try.prog 15 #[.slice a l.length c] w (ClonePost14 w l):=by
 unfold ClonePost14
 cases a with
 | none=>
   have h0:l = []:=by
    cases l with
    | nil=>rfl
    | cons x r=>obtain⟨b,off,e,_⟩:=hL 0 (by simp);cases e
   subst h0
   simp only[List.length_nil]
   have hE:(binOp .eql 22 (.slice none 0 c) (.slice none 0 0)).run Try.prog w = .ok (.bool true) w:=Lib.run_eql_slice_nil w 22 34 none 0 c 0 0 Try.underlying22
   go_enter Try.func15,Try.ntmps15
   go_wp2_with fail
   exact bodyPost_ret (v:=.slice none 0 0) (by simp[results,Try.results15,go_sem]) rfl ⟨none,0,rfl,FreshA.nil w⟩
 | some ad=>
   have HF:=hid (FreshA.empty w)
   have HL:=hid (hL.below (below_alloc w (.cells #[] 34)))
   obtain⟨N,hN⟩:∃N,l.length=N:=⟨_,rfl⟩
   have HN:=hid hN
   rw[hN]at hl ⊢
   have hE:(binOp .eql 22 (.slice (some ad) N c) (.slice none 0 0)).run Try.prog w = .ok (.bool false) w:=Lib.run_eql_slice_nil w 22 34 (some ad) N c 0 0 Try.underlying22
   clear hL hN
   go_enter Try.func15,Try.ntmps15
   go_wp2_with (first
    | (at_builtin;refine wp_app_acts rfl _ _ rfl HF.out rfl rfl HN.out HL.out (by omega) rfl ?_;intro va' vc' w5 hF5;have HF5:=hid hF5;clear hF5)
    | fail)
   have HF6:=HF5.out
   rw[Nat.zero_add,List.nil_append]at HF6
   exact bodyPost_ret (v:=.slice va' N vc') (by simp[results,Try.results15,go_sem]) rfl ⟨va',vc',rfl,HF6⟩
set_option maxHeartbeats 4000000 in
theorem rightS_any (w:World) (a:Option Addr) (c:Nat) (l:List Ent12) (hL:Acts w a l) (hI:AllIn w l) (hll:l.length≤1000):
 Calls Try.prog 9 #[.slice a l.length c] w fun e w'=>e = .returned (.bool (right14 (l.map Ent12.act)))∧Below w.heap.size w w':=by
 obtain⟨r,hr⟩:∃r,right14 (l.map Ent12.act)=r:=⟨_,rfl⟩
 rw[hr]
 have HR:=hid hr
 have HL:=hid hL
 have HI:=hid hI
 obtain⟨N,hN⟩:∃N,N=l.length:=⟨_,rfl⟩
 have HN:=hid hN
 rw[←hN]at hll ⊢
 clear hr hL hI hN
 go_enter Try.func9,Try.ntmps9
 go_wp2_with fail
 go_loopg [7] N (fun kx s7 wr=>∃(i:Nat),s7 = .int .i64 i∧i≤N∧N-i≤kx∧Hid (right14 ((l.map Ent12.act).take i)=true)∧Hid (Below w.heap.size w wr))
 case atStart=>exact⟨0,rfl,by omega,by omega,rfl,Below.refl _ _⟩
 case round=>
  obtain⟨i,rfl,hi,hkx,hn,hb⟩:=hrel
  by_cases hlt:i<N
  · have hltz:(i:Int)<(N:Int):=by omega
    have hil:i<l.length:=by have:=HN.out;omega
    obtain⟨b,off,rfl,-⟩:=HL.out i hil
    obtain⟨c0,c1,c2,c3,c4,c5,c6,c7,c8,c9⟩:=(HL.out.below hb.out).ten i hil
    have hin:=HI.out l[i] (List.getElem_mem hil)
    have htk:=take_snoc14 l i hil
    have hgi:(l.map Ent12.act)[i]'(by rw[List.length_map];exact hil)=l[i].act:=by simp
    have hpre:∀k,(hk:k<i)→(l.map Ent12.act)[k]'(by rw[List.length_map];omega)=(l[k]'(by omega)).act:=fun k hk=>by simp
    have HPRE:=hid hpre
    have HX:Hid (∀g:Ent12,l[i]=g→(may14 g.act=false ∨ ∃(k:Nat) (hk:k<i),ahead14 (l[k]'(by omega)).act g.act=false)→r=false):=by
     show _
     rintro g rfl h
     rw[←HR.out]
     exact right_not (i:=i) (by rw[List.length_map];exact hil) (by
      rcases h with h|⟨k,hk,h⟩
      · exact .inl (by rw[hgi];exact h)
      · exact .inr ⟨k,hk,by rw[hgi,HPRE.out k hk];exact h⟩)
    have hX:=fun h=>HX.out _ rfl h
    generalize l[i]=g at c0 c1 c2 c3 c4 c5 c6 c7 c8 c9 hin htk hX
    obtain⟨W,hW,hbW,hbx⟩:=act_box wr g.T g.A g.B g.o.C g.o.F g.o.H g.o.X g.va g.o.v.length g.vc g.ma g.o.m.length g.mc g.da g.d.length g.dc
    have HW:=hid hW
    have HBW:=hid (below_on hb.out hbW)
    have HBX:=hid hbx
    have HTK:=hid htk
    have HIN:=hid (hin.below HBW.out)
    obtain⟨d0,d1,d2,d3,d4,d5,d6,d7,d8,d9⟩:=hbx.ten
    obtain⟨m,hm⟩:∃m,may14 g.act=m:=⟨_,rfl⟩
    have HMS:=hid (fun j:Wk W=>Wk.call (mayStand_any g j.val (HIN.out.below j.bel)))
    rw[hm]at HMS hX
    have HM:=hid hm
    have HXX:=hid hX
    clear hW hbW hbx htk hin hm hX HPRE
    go_upto_region 4 with fail
    rw[HW.out]
    clear c0 c1 c2 c3 c4 c5 c6 c7 c8 c9
    have d0:=Wk.cell d0
    have d1:=Wk.cell d1
    have d2:=Wk.cell d2
    have d3:=Wk.cell d3
    have d4:=Wk.cell d4
    have d5:=Wk.cell d5
    have d6:=Wk.cell d6
    have d7:=Wk.cell d7
    have d8:=Wk.cell d8
    have d9:=Wk.cell d9
    cases m
    · have hrf:=hid (HXX.out (.inl rfl))
      refine wp_region_wk (by kernel_rfl) (by kernel_rfl) ?_
      repeat (go_big_quiet_step (first|(go_at_call 14;exact HMS.out _)|fail))
      refine wpQuiet_nil ?_
      rintro w6 ⟨⟨_,hb6⟩,rfl⟩
      have HB6:=hid (below_on HBW.out hb6)
      clear d0 d1 d2 d3 d4 d5 d6 d7 d8 d9 hb6
      go_wp2_with fail
      exact bodyPost_ret (v:=.bool false) (by simp[results,Try.results9,go_sem]) rfl ⟨by rw[hrf.out],HB6.out⟩
    · by_cases hi0:i=0
      · subst hi0
        have hn2:right14 ((l.map Ent12.act).take (0+1))=true:=by
         rw[HTK.out]
         exact right_snoc hn.out HM.out (by simp)
        have HN2:=hid hn2
        clear hn2
        refine wp_region_wk (by kernel_rfl) (by kernel_rfl) ?_
        repeat (go_big_quiet_step (first|(go_at_call 14;exact HMS.out _)|fail))
        refine wpQuiet_nil ?_
        rintro w6 ⟨⟨_,hb6⟩,rfl⟩
        have HB6:=hid (below_on HBW.out hb6)
        clear d0 d1 d2 d3 d4 d5 d6 d7 d8 d9 hb6
        go_wp2_with fail
        go_roundg (N-1)
        case rel=>exact⟨1,by go_num,by omega,by omega,HN2.out,HB6.out⟩
        case measure=>omega
      · have hipos:(0:Int)<(i:Int):=by omega
        have him:((i:Int)-1).toNat=i-1:=by omega
        have hi1:(0:Int)≤(i:Int)-1:=by omega
        have hi2:(i:Int)-1<(N:Int):=by omega
        have hilm:i-1<l.length:=by omega
        have hlast:∀z,((l.map Ent12.act).take i).getLast? = some z→z=(l[i-1]).act:=by
         intro z hz
         rw[List.getLast?_eq_getElem?,List.length_take,List.length_map,Nat.min_eq_left (by omega),List.getElem?_take,if_pos (by omega),List.getElem?_map,List.getElem?_eq_getElem hilm]at hz
         simpa using hz.symm
        have hin2:=HI.out l[i-1] (List.getElem_mem hilm)
        have hmp:may14 (l[i-1]).act=true:=by
         have:=(right_iff14.1 hn.out).1 (l[i-1]).act (List.mem_of_getElem? (i:=i-1) (by rw[List.getElem?_take,if_pos (by omega),List.getElem?_map,List.getElem?_eq_getElem hilm];rfl))
         exact this
        have hx2:ahead14 (l[i-1]).act g.act=false→r=false:=fun h=>HXX.out (.inr ⟨i-1,by omega,h⟩)
        obtain⟨e0,e1,e2,e3,e4,e5,e6,e7,e8,e9⟩:=(HL.out.below HBW.out).ten (i-1) hilm
        generalize l[i-1]=h at e0 e1 e2 e3 e4 e5 e6 e7 e8 e9 hlast hin2 hmp hx2
        have hA:=ahead_is (w:=W) (hin2.below HBW.out) HIN.out hmp HM.out
        rw[←hA]at hx2
        have HP1:=hid (fun j:Wk W=>Wk.call (placeOf_any h j.val))
        have HP2:=hid (fun j:Wk W=>Wk.call (placeOf_any g j.val))
        have HAH:=hid (fun j:Wk W=>Wk.call (isAhead_any h g j.val))
        unfold Ent12.val at HP1 HP2
        obtain⟨q,hq⟩:∃q,aheadP h g=q:=⟨_,rfl⟩
        rw[hq]at HAH hx2
        have HQ:=hid (hA.symm.trans hq)
        have HX2:=hid hx2
        have HLA:=hid hlast
        have u0:=Wk.cell e0
        have u1:=Wk.cell e1
        have u2:=Wk.cell e2
        have u3:=Wk.cell e3
        have u4:=Wk.cell e4
        have u5:=Wk.cell e5
        have u6:=Wk.cell e6
        have u7:=Wk.cell e7
        have u8:=Wk.cell e8
        have u9:=Wk.cell e9
        have hge0:decide ((0:Int)<(i:Int))=true:=decide_eq_true hipos
        have hgeN:decide (0<i)=true:=decide_eq_true (by omega)
        clear e0 e1 e2 e3 e4 e5 e6 e7 e8 e9 hA hq hx2 hlast hin2 hmp
        refine wp_region_wk (by kernel_rfl) (by kernel_rfl) ?_
        repeat (go_big_quiet_step (first
         | (go_at_call 14;exact HMS.out _)
         | (go_at_call 19;with_reducible exact HP1.out _)
         | (go_at_call 19;with_reducible exact HP2.out _)
         | (go_at_call 20;exact HAH.out _)
         | fail))
        refine wpQuiet_nil ?_
        rintro w6 ⟨⟨_,hb6⟩,rfl⟩
        have HB6:=hid (below_on HBW.out hb6)
        clear d0 d1 d2 d3 d4 d5 d6 d7 d8 d9 u0 u1 u2 u3 u4 u5 u6 u7 u8 u9 hb6
        cases q
        · have hrf:=hid (HX2.out rfl)
          go_wp2_with fail
          exact bodyPost_ret (v:=.bool false) (by simp[results,Try.results9,go_sem]) rfl ⟨by rw[hrf.out],HB6.out⟩
        · have hn2:right14 ((l.map Ent12.act).take (i+1))=true:=by
           rw[HTK.out]
           exact right_snoc hn.out HM.out (fun z hz=>by rw[HLA.out z hz];exact HQ.out)
          have HN2:=hid hn2
          clear hn2
          go_wp2_with fail
          go_roundg (N-(i+1))
          case rel=>exact⟨i+1,by go_num,by omega,by omega,HN2.out,HB6.out⟩
          case measure=>omega
  · have hge:(N:Int)≤(i:Int):=by omega
    have hrt:r=true:=by
     have h:=hn.out
     rw[List.take_of_length_le (by rw[List.length_map];have:=HN.out;omega)]at h
     rw[←HR.out];exact h
    have HRT:=hid hrt
    clear hrt
    go_wp2_with fail
    exact bodyPost_ret (v:=.bool true) (by simp[results,Try.results9,go_sem]) rfl ⟨by rw[HRT.out],hb.out⟩
end Go.Proofs.Ythpdkancighknaa
namespace Go.Proofs.Ythpdkancighknaa
open Go.RowKit Go.Lib
set_option linter.unusedVariables false
set_option maxRecDepth 100000
section
variable {P:Program}
theorem copy_rowN {w:World} {dT sT elem:TypeId} {size g o dLen:Nat} {a:Addr} {sLen:Nat} {cur:Array Value} {t:TypeId} {cs:List Value} {n:Nat}
 (hu:P.underlying dT=some (.slice elem)) (hs:(P.info? elem).map (·.size)=some size) (hg:w.heap[g]? = some (.cells cur t (0,0))) (hm:Nat.min sLen dLen=n) (hn:cs.length=n*size)
 (hsrc:∀j v,cs[j]? = some v→w.cell? (a.add j)=some v) (hfit:o+cs.length≤cur.size) (h1:∀v∈cs,v.oneCell'=true):
 ∃w',(∀ty dCap sCap,(Builtin.copy_ #[dT,sT] ty #[.slice (some ⟨g,o,none⟩) dLen dCap,.slice (some a) sLen sCap]).run P w = .ok (goInt n) w') ∧
  w'.heap[g]? = some (.cells (cur.toList.take o++cs++cur.toList.drop (o+cs.length)).toArray t (0,0))∧w.grownBy w' (some g):=by
 have hl:=run_loadCells_list (P:=P) w a cs hsrc
 have hst:=run_storeCells_at P g o t cs 0 cur w hg (by simpa using hfit) h1
 refine⟨_,fun ty dCap sCap=>?_,setRow_heap w g cur _ t _ hg,⟨rfl,rfl,rfl,by simp,fun k _ hk=>setRow_other w g k _ (fun e=>hk (by rw[e]))⟩⟩
 cases hq:P.info? elem with
 | none=>simp[hq]at hs
 | some i=>
   have hi:i.size=size:=by simpa [hq]using hs
   rw[hn]at hl
   simp[Builtin.copy_,run_underlying hu,Builtin.lenOf,Builtin.firstCells,sizeOf,typeInfo,hq,hi,hm,hl,hst]
theorem step_copy_at {ops:Array Oper} {o:Oper} {a:Act} {w:World} {K:Act→World→Prop} {Q:Exit→Act→World→Prop} {E:Prop}
 (hg:o.guard=none) (d x:Operand) (dT sT:TypeId) (hop:o.op=Op.call { callee:=Callee.builtin Builtin.copy,args:=#[d,x],argTypes:=#[dT,sT] })
 (v u:Value) (hd:a.eval d=v) (hx:a.eval x=u) {v':Value} {w':World} (hr:(Builtin.copy_ #[dT,sT] o.type #[v,u]).run P w = .ok v' w') (hK:K (a.put o.dst v') w'):
 if Region.wanted o (yielded ops a.tmps)=true then Oper.wp P o a w K Q else E:=by
 rw[if_pos (by simp[Region.wanted,hg])]
 unfold Oper.wp
 simp[execOp,hop,resolve,invoke,builtin,hd,hx,hr,Result.andThen]
 exact hK
end
theorem actCells_take (l:List Ent12) (i:Nat) (hi:i≤l.length):(actCells l).take (i*10)=actCells (l.take i):=by
 have e:actCells l=actCells (l.take i)++actCells (l.drop i):=by rw[←actCells_append,List.take_append_drop]
 have hl:(actCells (l.take i)).length=i*10:=by rw[actCells_length,List.length_take];congr 1;omega
 rw[e,←hl,List.take_left]
theorem actCells_drop (l:List Ent12) (i:Nat) (hi:i≤l.length):(actCells l).drop (i*10)=actCells (l.drop i):=by
 have e:actCells l=actCells (l.take i)++actCells (l.drop i):=by rw[←actCells_append,List.take_append_drop]
 have hl:(actCells (l.take i)).length=i*10:=by rw[actCells_length,List.length_take];congr 1;omega
 rw[e,←hl,List.drop_left]
theorem actCells_cons (h:Ent12) (l:List Ent12):actCells (h::l)=h.cs++actCells l:=by simp[actCells]
theorem rows_into {C:List Value} {D:List Ent12} {h:Ent12} {n i:Nat} (hD:D.length=n) (hC:C.take (n*10)=actCells D) (hs:(n+1)*10≤C.length) (hi:i<n)
 {C1 C2:List Value} (h1:C1=C.take ((i+1)*10)++actCells (D.drop i)++C.drop ((i+1)*10+(actCells (D.drop i)).length)) (h2:C2=C1.take (i*10)++h.cs++C1.drop (i*10+h.cs.length)):
 C2.take ((n+1)*10)=actCells (D.take i++h::D.drop i)∧C2.length=C.length:=by
 have hdl:(actCells (D.drop i)).length=(n-i)*10:=by rw[actCells_length,List.length_drop,hD]
 have hCt:C.take (i*10)=actCells (D.take i):=by
  rw[←actCells_take D i (by omega),←hC,List.take_take]
  congr 1
  omega
 have h1l:C1.length=C.length:=by
  rw[h1,List.length_append,List.length_append,List.length_take,List.length_drop,hdl]
  omega
 have hC1t:C1.take (i*10)=actCells (D.take i):=by
  rw[h1,List.append_assoc,List.take_append_of_le_length (by rw[List.length_take];omega),List.take_take,←hCt]
  congr 1
  omega
 have hC1d:C1.drop (i*10+h.cs.length)=actCells (D.drop i)++C.drop ((i+1)*10+(actCells (D.drop i)).length):=by
  rw[h1,h.cs_length,List.append_assoc,show i*10+10=(C.take ((i+1)*10)).length by rw[List.length_take];omega,List.drop_left]
 have htl:(actCells (D.take i)).length=i*10:=by rw[actCells_length,List.length_take];omega
 rw[h2,hC1t,hC1d]
 constructor
 · rw[actCells_append,actCells_cons,List.append_assoc,←List.append_assoc h.cs,←List.append_assoc (actCells (D.take i))]
   rw[show (n+1)*10=(actCells (D.take i)++(h.cs++actCells (D.drop i))).length by rw[List.length_append,List.length_append,htl,hdl,h.cs_length];omega,List.take_left]
 · rw[List.length_append,List.length_append,List.length_append,htl,hdl,h.cs_length,List.length_drop]
   omega
end Go.Proofs.Ythpdkancighknaa
namespace Go.Proofs.Ythpdkancighknaa
open Go.RowKit Go.Lib
set_option linter.unusedVariables false
set_option maxRecDepth 100000
def InsPost14 (w0:World) (n i:Nat) (D:List Ent12) (h:Ent12) (e:Ending) (w':World):Prop:=
 ∃va vc,e = .returned (.slice va (n+1) vc)∧FreshA w0 w' (.slice va (n+1) vc) (n+1) (D.take i++h::D.drop i)
theorem size_act14:(Try.prog.info? 34).map (·.size)=some 10:=by
 have h:=elemAct.info
 cases hi:Try.prog.info? 34 with
 | none=>rw[hi]at h;cases h
 | some i=>rw[hi]at h;simp at h;simp[h.2.1]
theorem own_cells14 {w:World} {g n c:Nat} {D:List Ent12} (h:w.ownsRow 0 34 10 (.slice (some ⟨g,0,none⟩) n c) n (actCells D)):
 ∃cur,w.heap[g]? = some (.cells cur 34 (0,0))∧n≤c∧c≤maxLen∧cur.size=c*10∧cur.toList.take (n*10)=actCells D:=by
 rcases h.2 with⟨e,_⟩|⟨g',cap,cur,e,_,hg,h1,h2,h3,h4⟩
 · cases e
 · cases e;exact⟨cur,hg,h1,h2,h3,h4⟩
theorem heap_cell14 {w:World} {g:Nat} {cur:Array Value} {t:TypeId} (hg:w.heap[g]? = some (.cells cur t (0,0))) (j:Nat):w.cell? ⟨g,j,none⟩=cur[j]?:=by
 simp[World.cell?,hg]
set_option maxHeartbeats 4000000 in
theorem insert_room (w0 w:World) (g n c i vb:Nat) (T:TypeId) (D:List Ent12) (h:Ent12) (hF:FreshA w0 w (.slice (some ⟨g,0,none⟩) n c) n D) (hi:i<n) (hroom:n+1≤c) (hV:w.heap[vb]? = some (.cells h.cs.toArray T (0,0))) (hne:vb≠g):
 Calls Try.prog 24 #[.slice (some ⟨g,0,none⟩) n c,.int .i64 i,.slice (some ⟨vb,0,none⟩) 1 1] w (InsPost14 w0 n i D h):=by
 obtain⟨hD,hnc,hc63,-⟩:=hF.list
 obtain⟨cur,hg,-,hcm,hcs,htake⟩:=own_cells14 hF.own
 have hcl:cur.toList.length=c*10:=by rw[Array.length_toList];exact hcs
 have hdl:(actCells (D.drop i)).length=(n-i)*10:=by rw[actCells_length,List.length_drop,hD]
 have hcd:∀j u,(actCells (D.drop i))[j]? = some u→cur[i*10+j]? = some u:=by
  intro j u hj
  have hjl:=(List.getElem?_eq_some_iff.1 hj).1
  rw[←actCells_drop D i (by omega),←htake,List.getElem?_drop,List.getElem?_take,if_pos (by omega),Array.getElem?_toList]at hj
  exact hj
 have hov:∀lb cb,(callFunc 38 #[.slice (some ⟨vb,0,none⟩) 1 1,.slice (some ⟨g,(i+1)*10,none⟩) lb cb]).run Try.prog w = .ok (.value (.bool false)) w:=fun lb cb=>by
  rw[run_callFunc_extern Try.func38 (by kernel_rfl) (by kernel_rfl) (by kernel_rfl) (e:=Extern.SlicesOverlaps.overlaps #[22,22] #[4]) (by kernel_rfl),
   Lib.run_overlaps_apart w 22 4 34 Try.underlying22 10 (fun _=>by kernel_rfl) ⟨vb,0,none⟩ ⟨g,(i+1)*10,none⟩ 1 1 lb cb hne T 34 10 (c*10) (by simp[World.shape?,hV,h.cs_length]) (by simp[World.shape?,hg,hcs]) (by omega) (by simp[World.frozen?,hV]) (by simp[World.frozen?,hV])]
  rfl
 have hgD:w.drew.heap[g]? = some (.cells cur 34 (0,0)):=hg
 obtain⟨W1,r1,h1,b1⟩:=copy_rowN (P:=Try.prog) (w:=w.drew) (dT:=22) (sT:=22) (o:=(i+1)*10) (dLen:=n+1-(i+1)) (a:=⟨g,i*10,none⟩) (sLen:=n+1-i) (cs:=actCells (D.drop i)) (n:=n-i) Try.underlying22 size_act14 hgD
  (by simp only[Nat.min_def];split<;>omega) hdl (fun j u hj=>by rw[add_none,heap_cell14 hgD];exact hcd j u hj) (by omega) (act_flat _)
 have hV1:W1.heap[vb]? = some (.cells h.cs.toArray T (0,0)):=(b1.block vb (Array.getElem?_eq_some_iff.1 hV).1 (by simp;omega)).trans hV
 obtain⟨W2,r2,h2,b2⟩:=copy_rowN (P:=Try.prog) (w:=W1) (dT:=22) (sT:=22) (o:=i*10) (dLen:=n+1-i) (a:=⟨vb,0,none⟩) (sLen:=1) (cs:=h.cs) (n:=1) Try.underlying22 size_act14 h1
  (by simp only[Nat.min_def];split<;>omega) rfl (fun j u hj=>by rw[add_none,heap_cell14 hV1,Nat.zero_add,←hj];simp) (by simp[h.cs_length,hdl,hcs];omega) (by intro u hu;simp[Ent12.cs]at hu;rcases hu with rfl|rfl|rfl|rfl|rfl|rfl|rfl|rfl|rfl|rfl<;>rfl)
 have hrow:=rows_into (h:=h) hD htake (by rw[hcl];omega) hi rfl rfl
 have hP:InsPost14 w0 n i D h (.returned (.slice (some ⟨g,0,none⟩) (n+1) c)) W2:=by
  refine⟨_,c,rfl,⟨?_,.inr ⟨g,c,_,rfl,Nat.zero_le _,h2,hroom,hcm,?_,?_⟩⟩,?_,hF.new⟩
  · rw[actCells_length];congr 1;simp[hD];omega
  · rw[List.size_toArray];exact hrow.2.trans hcl
  · exact hrow.1
  · have q:=hF.new g rfl
    exact ((hF.bel.drew).grown b1 (by have:=hF.bel.size;exact this) (fun k e=>by cases e;exact q)).grown b2 (by have:=hF.bel.size;have:=b1.size;exact Nat.le_trans (hF.bel.size) b1.size) (fun k e=>by cases e;exact q)
 have HP:=hid hP
 have mixed:Try.prog.follows Departure.mixedOrders=true:=by kernel_rfl
 have hw1:IntKind.i64.wrap ((i:Int)+1)=(i:Int)+1:=by rw[IntKind.wrap_i64];omega
 have hw2:IntKind.i64.wrap ((n:Int)+1)=(n:Int)+1:=by rw[IntKind.wrap_i64];omega
 have hb1:(0:Int)≤(i:Int)+1:=by omega
 have htn:((i:Int)+1).toNat=i+1:=by omega
 have htn2:((n:Int)+1).toNat=n+1:=by omega
 have hb2:¬(c=i+1):=by omega
 have hb3:(i:Int)≤(n:Int)+1:=by omega
 have hb4:¬(c=i):=by omega
 have hb5:¬((i:Int)=(n:Int)):=by omega
 have hb6:¬((c:Int)<(n:Int)+1):=by omega
 have hin:i≤n:=by omega
 clear hP hrow h1 h2 b1 b2 hV1 hgD hcd hcl hdl htake hg hV hF hD hcs hcm
 go_enter Try.func24,Try.ntmps24
 go_wp2_with (simp only[hov])
 go_region_law_o (refine step_copy_at rfl _ _ 22 22 rfl (.slice (some ⟨g,(i+1)*10,none⟩) (n+1-(i+1)) (c-(i+1))) (.slice (some ⟨g,i*10,none⟩) (n+1-i) (c-i)) (by simp[Act.eval,Act.put]) (by simp[Act.eval,Act.put]) (r1 _ _ _) ?_)
 go_wp2_with (at_builtin;refine wp_copy_at rfl _ _ 22 22 rfl _ _ rfl rfl (r2 _ _ _) ?_)
 go_ret
 exact HP.out
theorem grow_zeros14 {w:World} {g n c i:Nat} {D:List Ent12} (hD:D.length=n) (hA:Acts w (some ⟨g,0,none⟩) D) (hi:i<n) (hn:n≤1000) (hc:c<n+1) (hnc:n≤c):
 ∃(W:World) (G:Nat) (R:Array Value),(∀ty,(Builtin.append_ #[22,3] ty #[.slice (some ⟨g,0,none⟩) i c,.int .i64 ((n+1-i:Nat):Int)]).run Try.prog w = .ok (.slice (some ⟨w.heap.size,0,none⟩) (n+1) G) W) ∧
  W.heap[w.heap.size]? = some (.cells R 34 (0,0))∧R.size=G*10∧R.toList.take (i*10)=actCells (D.take i)∧n+1≤G∧G≤maxLen∧w.grownBy W none:=by
 obtain⟨ti,hti,hz,hs,hb⟩:∃ti,Try.prog.info? 34=some ti∧ti.zero=some (.agg #[.int .i64 0,.int .u64 0,.int .u64 0,.int .i64 0,.int .i64 0,.bool false,.int .u64 0,.slice none 0 0,.slice none 0 0,.slice none 0 0])∧ti.size=10∧ti.bytes=128:=by
  have:=elemAct.info
  cases h:Try.prog.info? 34 with
  | none=>rw[h]at this;simp at this
  | some ti=>rw[h]at this;simp at this;exact⟨ti,rfl,this⟩
 have hl:(actCells (D.take i)).length=i*10:=by rw[actCells_length,List.length_take];omega
 have hold:(Builtin.firstCells ti.size i (.slice (some ⟨g,0,none⟩) i c)).run Try.prog w.drew = .ok (actCells (D.take i)).toArray w.drew:=by
  rw[hs]
  exact run_firstCells_some w.drew 10 i ⟨g,0,none⟩ i c (actCells (D.take i)) hl (fun j v hj=>acts_cells (hA.take i) j v hj)
 have hgc:grownCap w (n+1) c 34≥n+1:=grownCap_ge _ _ _ _
 have hgm:grownCap w (n+1) c 34≤maxLen:=grownCap_le_maxLen w (n+1) c _ (by unfold maxLen;omega)
 have hik:i+(n+1-i)=n+1:=by omega
 obtain⟨R,hR⟩:∃R,R=(actCells (D.take i)).toArray++Builtin.zeroCells (Value.agg #[.int .i64 0,.int .u64 0,.int .u64 0,.int .i64 0,.int .i64 0,.bool false,.int .u64 0,.slice none 0 0,.slice none 0 0,.slice none 0 0]).cells (n+1-i)++Builtin.zeroCells (Value.agg #[.int .i64 0,.int .u64 0,.int .u64 0,.int .i64 0,.int .i64 0,.bool false,.int .u64 0,.slice none 0 0,.slice none 0 0,.slice none 0 0]).cells (grownCap w (n+1) c 34-(n+1)):=⟨_,rfl⟩
 refine⟨w.drew.alloc (.cells R 34),grownCap w (n+1) c 34,R,fun ty=>?_,heap_alloc_new w.drew _,?_,?_,hgc,hgm,⟨rfl,rfl,rfl,by simp,fun k hk _=>_root_.Go.heap_alloc_old _ _ hk⟩⟩
 · have h:=Lib.run_append_grow_zeros w 22 3 ty 34 ti _ .i64 .i64 Try.underlying22 Try.underlying3 hti hz (some ⟨g,0,none⟩) i c (actCells (D.take i)) hold (n+1-i) (by omega) (by omega) (by omega) (by omega) (by rw[hb];omega) (by rw[hb,hik];exact growslice_fits hc (by omega))
   rw[hik]at h
   rw[hR]
   exact h
 · rw[hR]
   simp only[Array.size_append,List.size_toArray,size_zeroCells,hl]
   have:(Value.agg #[.int .i64 0,.int .u64 0,.int .u64 0,.int .i64 0,.int .i64 0,.bool false,.int .u64 0,.slice none 0 0,.slice none 0 0,.slice none 0 0]).cells.size=10:=rfl
   rw[this]
   omega
 · rw[hR]
   simp only[Array.toList_append,List.append_assoc]
   rw[←hl]
   exact List.take_left
theorem rows_behind {R:List Value} {D:List Ent12} {h:Ent12} {n i:Nat} (hD:D.length=n) (hR:R.take (i*10)=actCells (D.take i)) (hs:(n+1)*10≤R.length) (hi:i<n)
 {R1 R2:List Value} (h1:R1=R.take (i*10)++h.cs++R.drop (i*10+h.cs.length)) (h2:R2=R1.take ((i+1)*10)++actCells (D.drop i)++R1.drop ((i+1)*10+(actCells (D.drop i)).length)):
 R2.take ((n+1)*10)=actCells (D.take i++h::D.drop i)∧R2.length=R.length:=by
 have hdl:(actCells (D.drop i)).length=(n-i)*10:=by rw[actCells_length,List.length_drop,hD]
 have htl:(actCells (D.take i)).length=i*10:=by rw[actCells_length,List.length_take];omega
 have h1l:R1.length=R.length:=by
  rw[h1,hR,List.length_append,List.length_append,List.length_drop,htl,h.cs_length]
  omega
 have ht:R1.take ((i+1)*10)=actCells (D.take i)++h.cs:=by
  rw[h1,hR,show (i+1)*10=(actCells (D.take i)++h.cs).length by rw[List.length_append,htl,h.cs_length];omega,List.take_left]
 rw[h2,ht]
 constructor
 · rw[actCells_append,actCells_cons,show (n+1)*10=(actCells (D.take i)++h.cs++actCells (D.drop i)).length by rw[List.length_append,List.length_append,htl,hdl,h.cs_length];omega,List.take_left,List.append_assoc]
 · rw[List.length_append,List.length_append,List.length_append,htl,hdl,h.cs_length,List.length_drop]
   omega
set_option maxHeartbeats 4000000 in
theorem insert_grow (w0 w:World) (g n c i vb:Nat) (T:TypeId) (D:List Ent12) (h:Ent12) (hF:FreshA w0 w (.slice (some ⟨g,0,none⟩) n c) n D) (hi:i<n) (hn:n≤1000) (hroom:¬n+1≤c) (hV:w.heap[vb]? = some (.cells h.cs.toArray T (0,0))):
 Calls Try.prog 24 #[.slice (some ⟨g,0,none⟩) n c,.int .i64 i,.slice (some ⟨vb,0,none⟩) 1 1] w (InsPost14 w0 n i D h):=by
 obtain⟨hD,hnc,hc63,hA⟩:=hF.list
 have hgl:g<w.heap.size:=by
  obtain⟨cur,hg,_⟩:=own_cells14 hF.own
  exact (Array.getElem?_eq_some_iff.1 hg).1
 have hvl:vb<w.heap.size:=(Array.getElem?_eq_some_iff.1 hV).1
 have hdl:(actCells (D.drop i)).length=(n-i)*10:=by rw[actCells_length,List.length_drop,hD]
 obtain⟨W0,G,R,r0,h0,hRs,hRt,hG,hGm,b0⟩:=grow_zeros14 (w:=w) (g:=g) (c:=c) hD hA hi hn (by omega) hnc
 have hRl:R.toList.length=G*10:=by rw[Array.length_toList];exact hRs
 have hV0:W0.heap[vb]? = some (.cells h.cs.toArray T (0,0)):=(b0.block vb hvl (by simp)).trans hV
 obtain⟨W1,r1,h1,b1⟩:=copy_rowN (P:=Try.prog) (w:=W0) (dT:=22) (sT:=22) (o:=i*10) (dLen:=n+1-i) (a:=⟨vb,0,none⟩) (sLen:=1) (cs:=h.cs) (n:=1) Try.underlying22 size_act14 h0
  (by simp only[Nat.min_def];split<;>omega) rfl (fun j u hj=>by rw[add_none,heap_cell14 hV0,Nat.zero_add,←hj];simp) (by simp[h.cs_length,hRs];omega) (by intro u hu;simp[Ent12.cs]at hu;rcases hu with rfl|rfl|rfl|rfl|rfl|rfl|rfl|rfl|rfl|rfl<;>rfl)
 have hA1:Acts W1 (some ⟨g,0,none⟩) D:=hA.kept fun q hq=>by cases hq;exact (b1.block g (Nat.lt_of_lt_of_le hgl b0.size) (by simp;omega)).trans (b0.block g hgl (by simp))
 have h1D:W1.drew.heap[w.heap.size]? = _:=h1
 obtain⟨W2,r2,h2,b2⟩:=copy_rowN (P:=Try.prog) (w:=W1.drew) (dT:=22) (sT:=22) (o:=(i+1)*10) (dLen:=n+1-(i+1)) (a:=⟨g,i*10,none⟩) (sLen:=n-i) (cs:=actCells (D.drop i)) (n:=n-i) Try.underlying22 size_act14 h1D
  (by simp only[Nat.min_def];split<;>omega) hdl (fun j u hj=>by
    rw[←actCells_drop D i (by omega),List.getElem?_drop]at hj
    have:=acts_cells hA1 _ _ hj
    rw[add_none]at this ⊢
    rw[Nat.zero_add]at this
    exact this) (by simp[h.cs_length,hRs,hdl];omega) (act_flat _)
 have hrow:=rows_behind (h:=h) hD hRt (by rw[hRl];omega) hi rfl rfl
 have hs0:=hF.bel.size
 have hP:InsPost14 w0 n i D h (.returned (.slice (some ⟨w.heap.size,0,none⟩) (n+1) G)) W2:=by
  refine⟨_,G,rfl,⟨?_,.inr ⟨w.heap.size,G,_,rfl,Nat.zero_le _,h2,hG,hGm,?_,?_⟩⟩,?_,fun g' e=>by cases e;exact hs0⟩
  · rw[actCells_length];congr 1;simp[hD];omega
  · rw[List.size_toArray];exact hrow.2.trans hRl
  · exact hrow.1
  · have e0:=hF.bel.grown b0 hs0 (fun k e=>by cases e)
    have e1:=e0.grown b1 e0.size (fun k e=>by cases e;exact hs0)
    exact e1.drew.grown b2 e1.size (fun k e=>by cases e;exact hs0)
 have HP:=hid hP
 have mixed:Try.prog.follows Departure.mixedOrders=true:=by kernel_rfl
 have hw1:IntKind.i64.wrap ((i:Int)+1)=(i:Int)+1:=by rw[IntKind.wrap_i64];omega
 have hw2:IntKind.i64.wrap ((n:Int)+1)=(n:Int)+1:=by rw[IntKind.wrap_i64];omega
 have hkk:(n:Int)+1-(i:Int)=((n+1-i:Nat):Int):=by omega
 rw[←hkk]at r0
 have hb1:(0:Int)≤(i:Int)+1:=by omega
 have htn:((i:Int)+1).toNat=i+1:=by omega
 have htn2:((n:Int)+1).toNat=n+1:=by omega
 have hb2:¬(G=i+1):=by omega
 have hb3:(i:Int)≤(n:Int)+1:=by omega
 have hb4:¬(c=i):=by omega
 have hb7:¬(G=i):=by omega
 have hb5:¬((i:Int)=(n:Int)):=by omega
 have hb6:(c:Int)<(n:Int)+1:=by omega
 have hG63:G≤9223372036854775807:=by unfold maxLen at hGm;omega
 have hin:i≤n:=by omega
 clear hP hrow h1 h2 b1 b2 b0 hV0 h1D hRl hRs hRt hdl hV hF hD hA hA1 h0 hGm hkk
 go_enter Try.func24,Try.ntmps24
 go_wp2_with (first
  | (at_builtin;refine Lib.wpList_append_run _ rfl _ _ _ _ rfl _ _ rfl rfl _ _ (r0 _) ?_)
  | (at_builtin;refine wp_copy_at rfl _ _ 22 22 rfl _ _ rfl rfl (r1 _ _ _) ?_)
  | fail)
 go_region_law_o (refine step_copy_at rfl _ _ 22 22 rfl (.slice (some ⟨w.heap.size,(i+1)*10,none⟩) (n+1-(i+1)) (G-(i+1))) (.slice (some ⟨g,i*10,none⟩) (n-i) (c-i)) (by simp[Act.eval,Act.put]) (by simp[Act.eval,Act.put]) (r2 _ _ _) ?_)
 go_wp2_with fail
 go_ret
 exact HP.out
theorem insert14_any (w0 w:World) (g n c i vb:Nat) (T:TypeId) (D:List Ent12) (h:Ent12) (hF:FreshA w0 w (.slice (some ⟨g,0,none⟩) n c) n D) (hi:i<n) (hn:n≤1000) (hV:w.heap[vb]? = some (.cells h.cs.toArray T (0,0))) (hne:vb≠g):
 Calls Try.prog 24 #[.slice (some ⟨g,0,none⟩) n c,.int .i64 i,.slice (some ⟨vb,0,none⟩) 1 1] w (InsPost14 w0 n i D h):=by
 by_cases hroom:n+1≤c
 · exact insert_room w0 w g n c i vb T D h hF hi hroom hV hne
 · exact insert_grow w0 w g n c i vb T D h hF hi hn hroom hV
end Go.Proofs.Ythpdkancighknaa
namespace Go.Proofs.Ythpdkancighknaa
open Go.RowKit
set_option linter.unusedVariables false
set_option maxRecDepth 100000
def PutPost14 (w0:World) (D:List Ent12) (g:Ent12) (e:Ending) (w':World):Prop:=
 ∃(va:Option Addr) (vc:Nat) (D':List Ent12),e = .returned (.slice va D'.length vc)∧FreshA w0 w' (.slice va D'.length vc) D'.length D'∧D'.map Ent12.act=put14 g.act (D.map Ent12.act) ∧ ∀x∈D',x∈D∨x=g
theorem put_post {w0 w':World} {D D':List Ent12} {g:Ent12} {va:Option Addr} {vc n:Nat} (hF:FreshA w0 w' (.slice va n vc) n D') (hm:D'.map Ent12.act=put14 g.act (D.map Ent12.act)) (hx:∀x∈D',x∈D∨x=g):PutPost14 w0 D g (.returned (.slice va n vc)) w':=by
 obtain rfl:=hF.list.1
 exact⟨va,vc,D',rfl,hF,hm,hx⟩
theorem placeEq_run (a0 a1 a2 b0 b1 b2:Int) (w:World):(Op.equalIn 10000 42 (.agg #[.int .i64 a0,.int .i64 a1,.int .i64 a2]) (.agg #[.int .i64 b0,.int .i64 b1,.int .i64 b2])).run Try.prog w = .ok (a0==b0&&(a1==b1&&a2==b2)) w:=by
 have hS:Try.prog.underlying 42=some (.struct (Try.prog.fieldsOf 42)):=by kernel_rfl
 have hp:Try.prog.stoodInHeld 42=false:=by kernel_rfl
 rw[show (10000:Nat)=9999+1 from rfl,run_equalIn_agg (ht:=hS) (hp:=hp)]
 simp only[Program.fieldsOf,Try.underlying42]
 have u3:=Try.underlying3
 have a3:=Try.isAgg3
 have z3:=Try.sizeOf3
 go_simp
 by_cases h0:a0=b0<;>by_cases h1:a1=b1<;>by_cases h2:a2=b2<;>simp[h0,h1,h2]
theorem wp_eq_place {w:World} {ops:Array Oper} {rest:List Oper} {o:Oper} {a:Act} {Q:Exit→Act→World→Prop} (hgd:o.guard=none) (x y:Operand) (T2:TypeId) (ho:o.op = .binOp .eql 42 x y T2) {xs ys:Array Value} (hx:a.eval x = .agg xs) (hy:a.eval y = .agg ys) {q:Bool}
 (hr:(Op.equalIn 10000 42 (.agg xs) (.agg ys)).run Try.prog w = .ok q w) (h:wpList Try.prog ops Q rest (a.put o.dst (.bool q)) w):wpList Try.prog ops Q (o::rest) a w:=by
 have hm:Try.prog.eqGuardType Try.prog.depth 42=false:=by kernel_rfl
 refine wpList_plain hgd fun K hK=>?_
 unfold Oper.wp
 simp only[execOp,ho,hx,hy,Sem.run_bind,run_eqGuard_agg _ _ _ _ _ _ _ hm,run_eql_struct,hr,Result.andThen_ok,Sem.run_pure]
 exact hK _ _ h
theorem heap_set14 {w:World} {g o:Nat} {cur:Array Value} {t:TypeId} (v:Value) (hg:w.heap[g]? = some (.cells cur t (0,0))):(w.setCell ⟨g,o,none⟩ v).heap[g]? = some (.cells (cur.setIfInBounds o v) t (0,0)):=by
 rw[setCell_eq_setRow w g o cur t (0,0) v hg]
 exact setRow_heap w g cur _ t _ hg
theorem list_set10 (P R:List Value) (u0 u1 u2 u3 u4 u5 u6 u7 u8 u9 v0 v1 v2 v3 v4 v5 v6 v7 v8 v9:Value):
 ((((((((((P++u0::u1::u2::u3::u4::u5::u6::u7::u8::u9::R).set P.length v0).set (P.length+1) v1).set (P.length+2) v2).set (P.length+3) v3).set (P.length+4) v4).set (P.length+5) v5).set (P.length+6) v6).set (P.length+7) v7).set (P.length+8) v8).set (P.length+9) v9=P++v0::v1::v2::v3::v4::v5::v6::v7::v8::v9::R:=by
 simp[List.set_append_right]
theorem FreshA.put10 {w0 w:World} {gb n c i:Nat} {D:List Ent12} (h:FreshA w0 w (.slice (some ⟨gb,0,none⟩) n c) n D) (hi:i<n) (g:Ent12):
 FreshA w0 ((((((((((w.setCell ⟨gb,i*10,none⟩ (.int .i64 g.T)).setCell ⟨gb,i*10+1,none⟩ (.int .u64 g.A)).setCell ⟨gb,i*10+2,none⟩ (.int .u64 g.B)).setCell ⟨gb,i*10+3,none⟩ (.int .i64 g.o.C)).setCell ⟨gb,i*10+4,none⟩ (.int .i64 g.o.F)).setCell ⟨gb,i*10+5,none⟩ (.bool g.o.H)).setCell ⟨gb,i*10+6,none⟩ (.int .u64 g.o.X)).setCell ⟨gb,i*10+7,none⟩ (.slice g.va g.o.v.length g.vc)).setCell ⟨gb,i*10+8,none⟩ (.slice g.ma g.o.m.length g.mc)).setCell ⟨gb,i*10+9,none⟩ (.slice g.da g.d.length g.dc)) (.slice (some ⟨gb,0,none⟩) n c) n (D.set i g):=by
 obtain⟨hD,hnc,_,_⟩:=h.list
 obtain⟨cur,hg,_,hcm,hcs,htake⟩:=own_cells14 h.own
 have hcl:cur.toList.length=c*10:=by rw[Array.length_toList];exact hcs
 have hq:=h.new gb rfl
 have hiD:i<D.length:=by omega
 have hDs:D=D.take i++D[i]::D.drop (i+1):=by simp
 have hset:D.set i g=D.take i++g::D.drop (i+1):=by rw[List.set_eq_take_append_cons_drop,if_pos hiD]
 have hP:(actCells (D.take i)).length=i*10:=by rw[actCells_length,List.length_take];omega
 have hall:cur.toList=actCells (D.take i)++(D[i].cs++(actCells (D.drop (i+1))++cur.toList.drop (n*10))):=by
  have e:actCells D=actCells (D.take i)++(D[i].cs++actCells (D.drop (i+1))):=by
   conv=>lhs;rw[hDs]
   rw[actCells_append,actCells_cons]
  rw[←List.append_assoc D[i].cs,←List.append_assoc,←e,←htake,List.take_append_drop]
 have hlast:=list_set10 (actCells (D.take i)) (actCells (D.drop (i+1))++cur.toList.drop (n*10)) (.int .i64 D[i].T) (.int .u64 D[i].A) (.int .u64 D[i].B) (.int .i64 D[i].o.C) (.int .i64 D[i].o.F) (.bool D[i].o.H) (.int .u64 D[i].o.X) (.slice D[i].va D[i].o.v.length D[i].vc) (.slice D[i].ma D[i].o.m.length D[i].mc) (.slice D[i].da D[i].d.length D[i].dc)
  (.int .i64 g.T) (.int .u64 g.A) (.int .u64 g.B) (.int .i64 g.o.C) (.int .i64 g.o.F) (.bool g.o.H) (.int .u64 g.o.X) (.slice g.va g.o.v.length g.vc) (.slice g.ma g.o.m.length g.mc) (.slice g.da g.d.length g.dc)
 rw[hP]at hlast
 have hall':cur.toList=actCells (D.take i) ++ .int .i64 D[i].T :: .int .u64 D[i].A :: .int .u64 D[i].B :: .int .i64 D[i].o.C :: .int .i64 D[i].o.F :: .bool D[i].o.H :: .int .u64 D[i].o.X :: .slice D[i].va D[i].o.v.length D[i].vc :: .slice D[i].ma D[i].o.m.length D[i].mc :: .slice D[i].da D[i].d.length D[i].dc::(actCells (D.drop (i+1))++cur.toList.drop (n*10)):=hall
 rw[←hall']at hlast
 have hg10:=heap_set14 (o:=i*10+9) (.slice g.da g.d.length g.dc) (heap_set14 (o:=i*10+8) (.slice g.ma g.o.m.length g.mc) (heap_set14 (o:=i*10+7) (.slice g.va g.o.v.length g.vc) (heap_set14 (o:=i*10+6) (.int .u64 g.o.X) (heap_set14 (o:=i*10+5) (.bool g.o.H) (heap_set14 (o:=i*10+4) (.int .i64 g.o.F) (heap_set14 (o:=i*10+3) (.int .i64 g.o.C) (heap_set14 (o:=i*10+2) (.int .u64 g.B) (heap_set14 (o:=i*10+1) (.int .u64 g.A) (heap_set14 (o:=i*10) (.int .i64 g.T) hg)))))))))
 refine⟨⟨by rw[actCells_length,List.length_set,hD],.inr ⟨gb,c,_,rfl,Nat.zero_le _,hg10,hnc,hcm,by simp[hcs],?_⟩⟩,?_,h.new⟩
 · simp only[Array.toList_setIfInBounds]
   rw[hlast,hset,actCells_append,actCells_cons]
   have hdl:(actCells (D.drop (i+1))).length=(n-(i+1))*10:=by rw[actCells_length,List.length_drop,hD]
   have e:(.int .i64 g.T :: .int .u64 g.A :: .int .u64 g.B :: .int .i64 g.o.C :: .int .i64 g.o.F :: .bool g.o.H :: .int .u64 g.o.X :: .slice g.va g.o.v.length g.vc :: .slice g.ma g.o.m.length g.mc :: .slice g.da g.d.length g.dc::(actCells (D.drop (i+1))++cur.toList.drop (n*10)):List Value)=g.cs++actCells (D.drop (i+1))++cur.toList.drop (n*10):=by simp[Ent12.cs]
   rw[e,←List.append_assoc,show n*10=(actCells (D.take i)++(g.cs++actCells (D.drop (i+1)))).length by rw[List.length_append,List.length_append,hP,g.cs_length,hdl];omega,List.take_left]
 · exact ((((((((((h.bel.setCell hq _).setCell hq _).setCell hq _).setCell hq _).setCell hq _).setCell hq _).setCell hq _).setCell hq _).setCell hq _).setCell hq _)
end Go.Proofs.Ythpdkancighknaa
