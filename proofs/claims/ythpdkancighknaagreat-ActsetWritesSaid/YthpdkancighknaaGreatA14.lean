/- Put together out of several texts. -/
import Derived.Test.YthpdkancighknaaGreatA13
import Derived.Test.YthpdkancighknaaGreatA12
import Derived.Test.YthpdkancighknaaGreatA1
import Derived.Deep.LoopGhost
import Derived.Test.YthpdkancighknaaGreatA15
import Derived.Deep.RegionHeld3
import Derived.Test.YthpdkancighknaaGreatA19
import Derived.Test.YthpdkancighknaaGreatA11
namespace Go.Proofs.YthpdkancighknaaGreat
open Go.RowKit
set_option linter.unusedVariables false
set_option maxRecDepth 100000
def rankT (t:Int):Int:=
 if t=12 then 1 else if t=18∨t=20∨t=27 then 2 else if t=19 then 3 else if t=26 then 4 else if t=17 then 5 else if t=11 then 6
 else if t=16∨t=24 then 7 else if t=15∨t=23∨t=25 then 8 else if t=21 then 9 else if t=22 then 10 else if t=0 then 11 else 0
def rank14 (a:Act12):Int:=rankT a.T
def fld14 (a:Act12):Int:=if a.T=25 then a.o.F else 0
def place14 (a b:Act12):Bool:=a.T==b.T&&fld14 a==fld14 b
def ahead14 (a b:Act12):Bool:=
 if rank14 a≠rank14 b then decide (rank14 a<rank14 b) else if a.T≠b.T then decide (a.T<b.T) else decide (fld14 a<fld14 b)
def may14 (a:Act12):Bool:=(act12 a).isSome&&decide (0<rank14 a)
def sorted14:List Act12→Bool
 | []=>true
 | [_]=>true
 | a::b::r=>ahead14 a b&&sorted14 (b::r)
def right14 (l:List Act12):Bool:=l.all may14&&sorted14 l
def put14 (a:Act12):List Act12→List Act12
 | []=>[a]
 | x::r=>if ahead14 x a=true then (if place14 x a=true then put14 a r else x::put14 a r) else a::(x::r).filter (fun y=>!place14 y a)
def write14 (s l:List Act12):Except Int (List Act12):=
 if right14 s=true∧l.all may14=true then .ok (l.foldl (fun s a=>put14 a s) s) else .error 10001
def plan14 (s:List Act12):List Act12:=if right14 s=true then s.filter (fun a=>a.T != 0 || !s.any (fun b=>b.T==22)) else []
def drops14 (s:List Act12):Bool:=right14 s && !s.any (fun a=>a.T==0||a.T==22)
theorem ahead_iff {a b:Act12}:ahead14 a b=true↔rank14 a<rank14 b∨(rank14 a=rank14 b∧(a.T<b.T∨(a.T=b.T∧fld14 a<fld14 b))):=by
 unfold ahead14
 split
 · rw[decide_eq_true_iff];omega
 · split
   · rw[decide_eq_true_iff];omega
   · rw[decide_eq_true_iff];omega
theorem place_iff {a b:Act12}:place14 a b=true↔a.T=b.T∧fld14 a=fld14 b:=by
 unfold place14
 rw[Bool.and_eq_true,beq_iff_eq,beq_iff_eq]
theorem rank_of {a b:Act12} (h:a.T=b.T):rank14 a=rank14 b:=by unfold rank14;rw[h]
theorem ahead_trans {a b c:Act12} (h:ahead14 a b=true) (k:ahead14 b c=true):ahead14 a c=true:=by
 rw[ahead_iff]at *;omega
theorem ahead_irr (a:Act12):ahead14 a a=false:=by
 cases h:ahead14 a a
 · rfl
 · rw[ahead_iff]at h;omega
theorem ahead_not {a b:Act12} (h:ahead14 a b=true):place14 a b=false∧place14 b a=false:=by
 rw[ahead_iff]at h
 constructor
 · cases e:place14 a b
   · rfl
   · rw[place_iff]at e;have:=rank_of e.1;omega
 · cases e:place14 b a
   · rfl
   · rw[place_iff]at e;have:=rank_of e.1;omega
theorem ahead_total {a b:Act12} (h:ahead14 a b=false):place14 a b=true∨ahead14 b a=true:=by
 have hn:¬(rank14 a<rank14 b∨(rank14 a=rank14 b∧(a.T<b.T∨(a.T=b.T∧fld14 a<fld14 b)))):=by
  rw[←ahead_iff,h];simp
 by_cases hp:place14 a b=true
 · exact .inl hp
 · right
   rw[place_iff]at hp
   rw[ahead_iff]
   omega
theorem place_symm {a b:Act12}:place14 a b=place14 b a:=by
 rw[Bool.eq_iff_iff,place_iff,place_iff]
 constructor<;>rintro⟨h,k⟩<;>exact⟨h.symm,k.symm⟩
theorem place_trans {a b c:Act12} (h:place14 a b=true) (k:place14 b c=true):place14 a c=true:=by
 rw[place_iff]at *;exact⟨h.1.trans k.1,h.2.trans k.2⟩
abbrev Rises (l:List Act12):Prop:=l.Pairwise (fun a b=>ahead14 a b=true)
theorem sorted_iff14 {l:List Act12}:sorted14 l=true↔Rises l:=by
 induction l with
 | nil=>simp[sorted14,Rises]
 | cons a r ih=>
   cases r with
   | nil=>simp[sorted14,Rises]
   | cons b s=>
     rw[sorted14,Bool.and_eq_true,ih]
     constructor
     · rintro⟨h1,h2⟩
       refine List.pairwise_cons.2 ⟨fun y hy=>?_,h2⟩
       rcases List.mem_cons.1 hy with rfl|hy
       · exact h1
       · exact ahead_trans h1 ((List.pairwise_cons.1 h2).1 y hy)
     · intro h
       obtain⟨h1,h2⟩:=List.pairwise_cons.1 h
       exact⟨h1 b (by simp),h2⟩
theorem right_iff14 {l:List Act12}:right14 l=true↔(∀a∈l,may14 a=true)∧Rises l:=by
 unfold right14
 rw[Bool.and_eq_true,List.all_eq_true,sorted_iff14]
theorem mem_put14 {a y:Act12} {s:List Act12} (hs:Rises s):y∈put14 a s↔y=a∨(y∈s∧place14 y a=false):=by
 induction s with
 | nil=>simp[put14]
 | cons x r ih=>
   obtain⟨h1,h2⟩:=List.pairwise_cons.1 hs
   unfold put14
   split
   · rename_i hx
     have hn:=(ahead_not hx).1
     rw[if_neg (by rw[hn];simp),List.mem_cons,ih h2,List.mem_cons]
     constructor
     · rintro (rfl|rfl|⟨h,k⟩)
       · exact .inr ⟨.inl rfl,hn⟩
       · exact .inl rfl
       · exact .inr ⟨.inr h,k⟩
     · rintro (rfl|⟨rfl|h,k⟩)
       · exact .inr (.inl rfl)
       · exact .inl rfl
       · exact .inr (.inr ⟨h,k⟩)
   · rw[List.mem_cons,List.mem_filter]
     simp
theorem rises_put {a:Act12} {s:List Act12} (hs:Rises s):Rises (put14 a s):=by
 induction s with
 | nil=>simp[put14,Rises]
 | cons x r ih=>
   obtain⟨h1,h2⟩:=List.pairwise_cons.1 hs
   unfold put14
   split
   · rename_i hx
     rw[if_neg (by rw[(ahead_not hx).1];simp)]
     refine List.pairwise_cons.2 ⟨fun y hy=>?_,ih h2⟩
     rcases (mem_put14 h2).1 hy with rfl|⟨hy,_⟩
     · exact hx
     · exact h1 y hy
   · rename_i hx
     have hx:ahead14 x a=false:=by simpa using hx
     refine List.pairwise_cons.2 ⟨fun y hy=>?_,hs.filter _⟩
     rw[List.mem_filter]at hy
     obtain⟨hy,hp⟩:=hy
     have hp:place14 y a=false:=by simpa using hp
     have hay:ahead14 y a=false:=by
      rcases List.mem_cons.1 hy with rfl|hy
      · exact hx
      · cases e:ahead14 y a
        · rfl
        · rw[ahead_trans (h1 y hy) e]at hx;cases hx
     rcases ahead_total hay with h|h
     · rw[hp]at h;cases h
     · exact h
theorem put_length14 (a:Act12) (s:List Act12):(put14 a s).length≤s.length+1:=by
 induction s with
 | nil=>simp[put14]
 | cons x r ih=>
   unfold put14
   split
   · split
     · rw[List.length_cons];omega
     · rw[List.length_cons,List.length_cons];omega
   · rw[List.length_cons]
     have:=List.length_filter_le (fun y=>!place14 y a) (x::r)
     omega
def puts14 (s l:List Act12):List Act12:=l.foldl (fun s a=>put14 a s) s
theorem rises_puts {l s:List Act12} (hs:Rises s):Rises (puts14 s l):=by
 unfold puts14
 induction l generalizing s with
 | nil=>exact hs
 | cons a r ih=>exact ih (rises_put hs)
def Last14 (m:List Act12) (y:Act12):Prop:=∃p q,m=p++y::q ∧ ∀z∈q,place14 z y=false
theorem last_cons {a y:Act12} {m:List Act12}:Last14 (a::m) y↔(y=a ∧ ∀z∈m,place14 z y=false)∨Last14 m y:=by
 constructor
 · rintro⟨p,q,e,h⟩
   cases p with
   | nil=>cases e;exact .inl ⟨rfl,h⟩
   | cons b p=>cases e;exact .inr ⟨p,q,rfl,h⟩
 · rintro (⟨rfl,h⟩|⟨p,q,rfl,h⟩)
   · exact⟨[],m,rfl,h⟩
   · exact⟨a::p,q,rfl,h⟩
theorem last_mem {y:Act12} {m:List Act12} (h:Last14 m y):y∈m:=by
 obtain⟨p,q,rfl,_⟩:=h
 simp
theorem mem_puts {m s:List Act12} {y:Act12} (hs:Rises s):y∈puts14 s m↔Last14 m y∨(y∈s ∧ ∀z∈m,place14 z y=false):=by
 unfold puts14
 induction m generalizing s with
 | nil=>
   constructor
   · intro h;exact .inr ⟨h,fun z hz=>by cases hz⟩
   · rintro (h|h)
     · have:=last_mem h;cases this
     · exact h.1
 | cons a r ih=>
   rw[List.foldl_cons,ih (rises_put hs),mem_put14 hs,last_cons]
   constructor
   · rintro (h|⟨rfl|⟨h,k⟩,h2⟩)
     · exact .inl (.inr h)
     · exact .inl (.inl ⟨rfl,h2⟩)
     · refine .inr ⟨h,fun z hz=>?_⟩
       rcases List.mem_cons.1 hz with rfl|hz
       · rw[place_symm];exact k
       · exact h2 z hz
   · rintro ((⟨rfl,h⟩|h)|⟨h,h2⟩)
     · exact .inr ⟨.inl rfl,h⟩
     · exact .inl h
     · refine .inr ⟨.inr ⟨h,?_⟩,fun z hz=>h2 z (by simp[hz])⟩
       rw[place_symm];exact h2 a (by simp)
theorem puts_append (s l m:List Act12):puts14 s (l++m)=puts14 (puts14 s l) m:=by unfold puts14;rw[List.foldl_append]
theorem rank_ways (t:Int):t=0∨t=22∨t=21∨t=15∨t=23∨t=25∨t=16∨t=24∨t=11∨t=17∨t=26∨t=19∨t=18∨t=20∨t=27∨t=12∨(t≠0∧t≠22∧t≠21∧t≠15∧t≠23∧t≠25∧t≠16∧t≠24∧t≠11∧t≠17∧t≠26∧t≠19∧t≠18∧t≠20∧t≠27∧t≠12):=by omega
set_option maxHeartbeats 4000000 in
theorem rank_any (T A B C F:Int) (H:Bool) (X:Int) (va:Option Addr) (vl vc:Nat) (ma:Option Addr) (ml mc:Nat) (da:Option Addr) (dl dc:Nat) (w:World):
 Calls Tryz.prog 26 #[.agg #[.int .i64 T,.int .u64 A,.int .u64 B,.int .i64 C,.int .i64 F,.bool H,.int .u64 X,.slice va vl vc,.slice ma ml mc,.slice da dl dc]] w fun e w'=>e = .returned (.int .i64 (rankT T))∧Below w.heap.size w w':=by
 rcases rank_ways T with rfl|rfl|rfl|rfl|rfl|rfl|rfl|rfl|rfl|rfl|rfl|rfl|rfl|rfl|rfl|rfl|⟨h0,h1,h2,h3,h4,h5,h6,h7,h8,h9,h10,h11,h12,h13,h14,h15⟩
 all_goals
  go_enter Tryz.func26,Tryz.ntmps26
  go_wp2_with fail
  go_ret
  exact⟨by first|rfl|simp[rankT, *],below_alloc _ _⟩
theorem rankE_any (g:Ent12) (w:World):Calls Tryz.prog 26 #[g.val] w fun e w'=>e = .returned (.int .i64 (rankT g.T))∧Below w.heap.size w w':=rank_any _ _ _ _ _ _ _ _ _ _ _ _ _ _ _ _ w
def rowsT:List (List Int):=[[12],[18,20,27],[19],[26],[17],[11],[16,24],[15,23,25],[21],[22],[0]]
theorem eleven {i:Nat} (h:i<11):i=0∨i=1∨i=2∨i=3∨i=4∨i=5∨i=6∨i=7∨i=8∨i=9∨i=10:=by omega
theorem rank_hit {i:Nat} (h:i<11):∀x∈rowsT.getD i [],rankT x=i+1:=by
 rcases eleven h with rfl|rfl|rfl|rfl|rfl|rfl|rfl|rfl|rfl|rfl|rfl<;>decide
theorem rank_miss {t:Int} (h:∀i,i<11 → ∀x∈rowsT.getD i [],x≠t):rankT t=0:=by
 have k:∀i,i<11 → ∀y,y∈rowsT.getD i []→t≠y:=fun i hi y hy e=>h i hi y hy e.symm
 have a0:=k 0 (by omega) 12 (by decide)
 have a1:=k 1 (by omega) 18 (by decide)
 have a2:=k 1 (by omega) 20 (by decide)
 have a3:=k 1 (by omega) 27 (by decide)
 have a4:=k 2 (by omega) 19 (by decide)
 have a5:=k 3 (by omega) 26 (by decide)
 have a6:=k 4 (by omega) 17 (by decide)
 have a7:=k 5 (by omega) 11 (by decide)
 have a8:=k 6 (by omega) 16 (by decide)
 have a9:=k 6 (by omega) 24 (by decide)
 have b0:=k 7 (by omega) 15 (by decide)
 have b1:=k 7 (by omega) 23 (by decide)
 have b2:=k 7 (by omega) 25 (by decide)
 have b3:=k 8 (by omega) 21 (by decide)
 have b4:=k 9 (by omega) 22 (by decide)
 have b5:=k 10 (by omega) 0 (by decide)
 unfold rankT
 simp only[a0,a1,a2,a3,a4,a5,a6,a7,a8,a9,b0,b1,b2,b3,b4,b5,or_self,if_false]
structure TabAt (W:World) (B tb:Nat):Prop where
 row:∀i,i<11→W.cell? ⟨tb,i,none⟩=some (.slice (some ⟨B+i,0,none⟩) (rowsT.getD i []).length (rowsT.getD i []).length)
 num:∀i,i<11 → ∀k,k<(rowsT.getD i []).length→W.cell? ⟨B+i,k,none⟩=some (.int .i64 ((rowsT.getD i []).getD k 0))
theorem TabAt.below {W V:World} {B tb:Nat} (h:TabAt W B tb) (hb:Below W.heap.size W V):TabAt V B tb:=⟨fun i hi=>cell_keep (h.row i hi) hb,fun i hi k hk=>cell_keep (h.num i hi k hk) hb⟩
theorem lay_step (W:World) (B:Nat) (hs:W.heap.size=B) (l:List Value) (T:TypeId):∃V,W.alloc (.cells l.toArray T)=V∧V.heap.size=B+1∧Below W.heap.size W V∧BoxL V B l:=by
 subst hs
 exact⟨_,rfl,by simp,below_alloc _ _,BoxL.new _ _ _⟩
theorem BoxL.num {W:World} {b:Nat} {l:List Int} (h:BoxL W b (l.map (Value.int .i64))) {k:Nat} (hk:k<l.length):W.cell? ⟨b,k,none⟩=some (.int .i64 (l.getD k 0)):=by
 refine h.cell k _ ?_
 rw[List.getElem?_map,List.getElem?_eq_getElem hk]
 simp[hk]
theorem table14 (W:World) (B:Nat) (hs:W.heap.size=B):∃V,(((((((((((W.alloc (.cells #[.int .i64 12] 3)).alloc (.cells #[.int .i64 18,.int .i64 20,.int .i64 27] 3)).alloc (.cells #[.int .i64 19] 3)).alloc (.cells #[.int .i64 26] 3)).alloc (.cells #[.int .i64 17] 3)).alloc (.cells #[.int .i64 11] 3)).alloc (.cells #[.int .i64 16,.int .i64 24] 3)).alloc (.cells #[.int .i64 15,.int .i64 23,.int .i64 25] 3)).alloc (.cells #[.int .i64 21] 3)).alloc (.cells #[.int .i64 22] 3)).alloc (.cells #[.int .i64 0] 3)).alloc (.cells #[.slice (some ⟨B,0,none⟩) 1 1,.slice (some ⟨B+1,0,none⟩) 3 3,.slice (some ⟨B+1+1,0,none⟩) 1 1,.slice (some ⟨B+1+1+1,0,none⟩) 1 1,.slice (some ⟨B+1+1+1+1,0,none⟩) 1 1,.slice (some ⟨B+1+1+1+1+1,0,none⟩) 1 1,.slice (some ⟨B+1+1+1+1+1+1,0,none⟩) 2 2,.slice (some ⟨B+1+1+1+1+1+1+1,0,none⟩) 3 3,.slice (some ⟨B+1+1+1+1+1+1+1+1,0,none⟩) 1 1,.slice (some ⟨B+1+1+1+1+1+1+1+1+1,0,none⟩) 1 1,.slice (some ⟨B+1+1+1+1+1+1+1+1+1+1,0,none⟩) 1 1] 57)=V∧Below W.heap.size W V∧TabAt V B (B+1+1+1+1+1+1+1+1+1+1+1):=by
 obtain⟨V1,e1,s1,b1,x1⟩:=lay_step W (B) hs [.int .i64 12] 3
 obtain⟨V2,e2,s2,b2,x2⟩:=lay_step V1 (B+1) s1 [.int .i64 18,.int .i64 20,.int .i64 27] 3
 obtain⟨V3,e3,s3,b3,x3⟩:=lay_step V2 (B+1+1) s2 [.int .i64 19] 3
 obtain⟨V4,e4,s4,b4,x4⟩:=lay_step V3 (B+1+1+1) s3 [.int .i64 26] 3
 obtain⟨V5,e5,s5,b5,x5⟩:=lay_step V4 (B+1+1+1+1) s4 [.int .i64 17] 3
 obtain⟨V6,e6,s6,b6,x6⟩:=lay_step V5 (B+1+1+1+1+1) s5 [.int .i64 11] 3
 obtain⟨V7,e7,s7,b7,x7⟩:=lay_step V6 (B+1+1+1+1+1+1) s6 [.int .i64 16,.int .i64 24] 3
 obtain⟨V8,e8,s8,b8,x8⟩:=lay_step V7 (B+1+1+1+1+1+1+1) s7 [.int .i64 15,.int .i64 23,.int .i64 25] 3
 obtain⟨V9,e9,s9,b9,x9⟩:=lay_step V8 (B+1+1+1+1+1+1+1+1) s8 [.int .i64 21] 3
 obtain⟨V10,e10,s10,b10,x10⟩:=lay_step V9 (B+1+1+1+1+1+1+1+1+1) s9 [.int .i64 22] 3
 obtain⟨V11,e11,s11,b11,x11⟩:=lay_step V10 (B+1+1+1+1+1+1+1+1+1+1) s10 [.int .i64 0] 3
 obtain⟨V12,e12,s12,b12,x12⟩:=lay_step V11 (B+1+1+1+1+1+1+1+1+1+1+1) s11 [.slice (some ⟨B,0,none⟩) 1 1,.slice (some ⟨B+1,0,none⟩) 3 3,.slice (some ⟨B+1+1,0,none⟩) 1 1,.slice (some ⟨B+1+1+1,0,none⟩) 1 1,.slice (some ⟨B+1+1+1+1,0,none⟩) 1 1,.slice (some ⟨B+1+1+1+1+1,0,none⟩) 1 1,.slice (some ⟨B+1+1+1+1+1+1,0,none⟩) 2 2,.slice (some ⟨B+1+1+1+1+1+1+1,0,none⟩) 3 3,.slice (some ⟨B+1+1+1+1+1+1+1+1,0,none⟩) 1 1,.slice (some ⟨B+1+1+1+1+1+1+1+1+1,0,none⟩) 1 1,.slice (some ⟨B+1+1+1+1+1+1+1+1+1+1,0,none⟩) 1 1] 57
 refine⟨V12,by rw[e1,e2,e3,e4,e5,e6,e7,e8,e9,e10,e11,e12],(below_on (below_on (below_on (below_on (below_on (below_on (below_on (below_on (below_on (below_on (below_on b1 b2) b3) b4) b5) b6) b7) b8) b9) b10) b11) b12),fun i hi=>?_,fun i hi k hk=>?_⟩
 · rcases eleven hi with rfl|rfl|rfl|rfl|rfl|rfl|rfl|rfl|rfl|rfl|rfl<;>exact x12.cell _ _ rfl
 · rcases eleven hi with rfl|rfl|rfl|rfl|rfl|rfl|rfl|rfl|rfl|rfl|rfl
   · exact BoxL.num (l:=[12]) (((((((((((x1.below b2).below b3).below b4).below b5).below b6).below b7).below b8).below b9).below b10).below b11).below b12) hk
   · exact BoxL.num (l:=[18,20,27]) ((((((((((x2.below b3).below b4).below b5).below b6).below b7).below b8).below b9).below b10).below b11).below b12) hk
   · exact BoxL.num (l:=[19]) (((((((((x3.below b4).below b5).below b6).below b7).below b8).below b9).below b10).below b11).below b12) hk
   · exact BoxL.num (l:=[26]) ((((((((x4.below b5).below b6).below b7).below b8).below b9).below b10).below b11).below b12) hk
   · exact BoxL.num (l:=[17]) (((((((x5.below b6).below b7).below b8).below b9).below b10).below b11).below b12) hk
   · exact BoxL.num (l:=[11]) ((((((x6.below b7).below b8).below b9).below b10).below b11).below b12) hk
   · exact BoxL.num (l:=[16,24]) (((((x7.below b8).below b9).below b10).below b11).below b12) hk
   · exact BoxL.num (l:=[15,23,25]) ((((x8.below b9).below b10).below b11).below b12) hk
   · exact BoxL.num (l:=[21]) (((x9.below b10).below b11).below b12) hk
   · exact BoxL.num (l:=[22]) ((x10.below b11).below b12) hk
   · exact BoxL.num (l:=[0]) (x11.below b12) hk
set_option maxHeartbeats 4000000 in
theorem refRank_any (T A B C F:Int) (H:Bool) (X:Int) (va:Option Addr) (vl vc:Nat) (ma:Option Addr) (ml mc:Nat) (da:Option Addr) (dl dc:Nat) (w:World):
 Calls Tryz.prog 31 #[.agg #[.int .i64 T,.int .u64 A,.int .u64 B,.int .i64 C,.int .i64 F,.bool H,.int .u64 X,.slice va vl vc,.slice ma ml mc,.slice da dl dc]] w fun e w'=>e = .returned (.int .i64 (rankT T))∧Below w.heap.size w w':=by
 obtain⟨W,hW,hbW,hbx⟩:=act_box w T A B C F H X va vl vc ma ml mc da dl dc
 have HW:=hid hW
 have HBW:=hid hbW
 have HBX:=hid hbx
 obtain⟨B0,hs⟩:∃B,W.heap.size=B:=⟨_,rfl⟩
 obtain⟨V,hV,hbV,hT⟩:=table14 W B0 hs
 have HV:=hid hV
 have HT:=hid hT
 have HB:=hid (below_on hbW hbV)
 have HX:=hid (hbx.below hbV)
 clear hW hbW hbx hV hbV hT
 go_enter Tryz.func31,Tryz.ntmps31
 go_upto_region 1 with fail
 rw[HW.out]
 go_wp2_with fail
 rw[HV.out]
 go_loopg [4] 11 (fun kx s4 wr=>∃(i:Nat),s4 = .int .i64 i∧i≤11∧11-i≤kx∧Hid (∀j,j<i → ∀x∈rowsT.getD j [],x≠T)∧Hid (Below V.heap.size V wr))
 case atStart=>exact⟨0,rfl,by omega,by omega,(by show ∀_,_;intro j hj;omega),Below.refl _ _⟩
 case round=>
  obtain⟨i,rfl,hi,hkx,hn,hb⟩:=hrel
  by_cases hlt:i<11
  · have hltz:(i:Int)<11:=by omega
    obtain⟨L,hL⟩:∃L,rowsT.getD i []=L:=⟨_,rfl⟩
    have hll:L.length≤3:=by rw[←hL];rcases eleven hlt with rfl|rfl|rfl|rfl|rfl|rfl|rfl|rfl|rfl|rfl|rfl<;>decide
    have HHIT:=hid (rank_hit hlt)
    have HROW:=hid (fun V' (hV':Below V.heap.size V V')=>(HT.out.below hV').row i hlt)
    have HNUM:=hid (fun V' (hV':Below V.heap.size V V')=>(HT.out.below hV').num i hlt)
    rw[hL]at HHIT HROW HNUM
    have HL:=hid hL
    clear hL
    go_wp2_with fail
    go_loopg [5] (L.length) (fun kx s5 wx=>∃(k:Nat),s5 = .int .i64 k∧k≤L.length∧L.length-k≤kx∧Hid (∀j,j<k→L.getD j 0≠T)∧Hid (Below V.heap.size V wx))
    case atStart=>exact⟨0,rfl,by omega,by omega,(by show ∀_,_;intro j hj;omega),hb.out⟩
    case round=>
     clear hb
     obtain⟨k,rfl,hk,hkx2,hm,hb⟩:=hrel
     have c1:=HROW.out _ hb.out
     by_cases hltk:k<L.length
     · have hltkz:(k:Int)<(L.length:Int):=by omega
       have c2:=HNUM.out _ hb.out k hltk
       obtain⟨c0,-⟩:=(HX.out.below hb.out).ten
       have hmem:L.getD k 0∈L:=by rw[List.getD_eq_getElem?_getD,List.getElem?_eq_getElem hltk];exact List.getElem_mem hltk
       obtain⟨x,hx⟩:∃x,L.getD k 0=x:=⟨_,rfl⟩
       rw[hx]at c2 hmem
       have HXE:=hid hx
       have HMEM:=hid hmem
       clear hx hmem
       go_upto_region 8 with fail
       have d1:=Wk.cell c1
       have d2:=Wk.cell c2
       have d0:=Wk.cell c0
       refine wp_region_wk (by kernel_rfl) (by kernel_rfl) ?_
       repeat (go_big_quiet_step (fail))
       refine wpQuiet_nil ?_
       rintro w6 ⟨⟨_,hb6⟩,rfl⟩
       have HB6:=hid (below_on hb.out hb6)
       clear hb6 d0 d1 d2 c0 c1 c2
       by_cases hxT:x=T
       · have hrt:rankT T=i+1:=by rw[←hxT];exact HHIT.out x HMEM.out
         have hbt:(x==T)=true:=by simpa using hxT
         have HRT:=hid hrt
         clear hrt hxT
         go_wp2_with fail
         refine bodyPost_ret (v:=.int .i64 (i+1)) (by simp[results,Tryz.results31,go_sem]) rfl ⟨by rw[HRT.out],below_on HB.out HB6.out⟩
       · have hbf:(x==T)=false:=by simpa using hxT
         have hm2:∀j,j<k+1→L.getD j 0≠T:=by
          intro j hj
          by_cases e:j=k
          · rw[e,HXE.out];exact hxT
          · exact hm.out j (by omega)
         have HM2:=hid hm2
         clear hxT hm2
         go_wp2_with fail
         go_roundg (L.length-(k+1))
         case rel=>exact⟨k+1,by go_num,by omega,by omega,HM2.out,HB6.out⟩
         case measure=>omega
     · have hgek:(L.length:Int)≤(k:Int):=by omega
       have hn2:∀j,j<i+1 → ∀x∈rowsT.getD j [],x≠T:=by
        intro j hj x hx
        by_cases e:j=i
        · rw[e,HL.out]at hx
          obtain⟨q,hq,e2⟩:=List.mem_iff_getElem.1 hx
          have:=hm.out q (by omega)
          rw[List.getD_eq_getElem?_getD,List.getElem?_eq_getElem hq]at this
          rw[←e2];exact this
        · exact hn.out j (by omega) x hx
       have HN2:=hid hn2
       clear hn2
       go_wp2_with fail
       go_roundg (11-(i+1))
       case rel=>exact⟨i+1,by go_num,by omega,by omega,HN2.out,hb.out⟩
       case measure=>omega
  · have hge:(11:Int)≤(i:Int):=by omega
    have hrt:rankT T=0:=rank_miss (fun j hj=>hn.out j (by omega))
    have HRT:=hid hrt
    clear hrt
    go_wp2_with fail
    refine bodyPost_ret (v:=.int .i64 0) (by simp[results,Tryz.results31,go_sem]) rfl ⟨by rw[HRT.out],below_on HB.out hb.out⟩
theorem refRankE_any (g:Ent12) (w:World):Calls Tryz.prog 31 #[g.val] w fun e w'=>e = .returned (.int .i64 (rankT g.T))∧Below w.heap.size w w':=refRank_any _ _ _ _ _ _ _ _ _ _ _ _ _ _ _ _ w
theorem may_is {w:World} (g:Ent12) (hi:ActIn w g):may14 g.act=(decide (0<rankT g.T)&&right12 g):=by
 rw[right_act g hi.ld,Bool.and_comm]
 rfl
set_option maxHeartbeats 4000000 in
theorem mayStand_any (g:Ent12) (w:World) (hi:ActIn w g):Calls Tryz.prog 13 #[g.val] w fun e w'=>e = .returned (.bool (may14 g.act))∧Below w.heap.size w w':=by
 obtain⟨W,hW,hbW,hx⟩:=act_box w g.T g.A g.B g.o.C g.o.F g.o.H g.o.X g.va g.o.v.length g.vc g.ma g.o.m.length g.mc g.da g.d.length g.dc
 have HM:=hid (may_is g hi)
 obtain⟨m,hm⟩:∃m,may14 g.act=m:=⟨_,rfl⟩
 rw[hm]at HM ⊢
 have HW:=hid hW
 have HB:=hid hbW
 have HR:=hid (rankE_any g W)
 have HA:=hid (fun V (hV:Below w.heap.size w V)=>actRight_any g V (hi.below hV))
 have HX:=hid hx
 obtain⟨r,hr⟩:∃r,right12 g=r:=⟨_,rfl⟩
 rw[hr]at HA HM
 clear hr hW hbW hx hi hm
 obtain⟨k,hk⟩:∃k,rankT g.T=k:=⟨_,rfl⟩
 rw[hk]at HR HM
 clear hk
 obtain⟨T,A,B,⟨C,F,H,X,v,m'⟩,va,vc,ma,mc,d,da,dc⟩:=g
 unfold Ent12.val at *
 simp only at *
 obtain⟨d0,d1,d2,d3,d4,d5,d6,d7,d8,d9⟩:=HX.out.ten
 by_cases hk : 0<k
 · have hkd:decide (0<k)=true:=decide_eq_true hk
   have HM2:Hid (m=r):=by show _=_;rw[HM.out,hkd,Bool.true_and]
   go_enter Tryz.func13,Tryz.ntmps13
   go_upto_region 1 with fail
   rw[HW.out]
   go_wp2_with fail
   refine HR.out.mono ?_
   rintro e w1 ⟨rfl,hb1⟩
   have HB1:=hid (below_on HB.out hb1)
   have HX1:=hid (HX.out.below hb1)
   clear hb1 d0 d1 d2 d3 d4 d5 d6 d7 d8 d9
   obtain⟨d0,d1,d2,d3,d4,d5,d6,d7,d8,d9⟩:=HX1.out.ten
   go_wp2_with fail
   refine (HA.out _ HB1.out).mono ?_
   rintro e w2 ⟨rfl,hb2⟩
   have HB2:=hid (below_on HB1.out hb2)
   clear hb2
   go_wp2_with fail
   go_ret
   exact⟨by rw[HM2.out];rfl,HB2.out⟩
 · have hkd:decide (0<k)=false:=decide_eq_false hk
   have HM2:Hid (m=false):=by show _=_;rw[HM.out,hkd,Bool.false_and]
   go_enter Tryz.func13,Tryz.ntmps13
   go_upto_region 1 with fail
   rw[HW.out]
   go_wp2_with fail
   refine HR.out.mono ?_
   rintro e w1 ⟨rfl,hb1⟩
   have HB1:=hid (below_on HB.out hb1)
   clear hb1 d0 d1 d2 d3 d4 d5 d6 d7 d8 d9
   go_wp2_with fail
   go_ret
   exact⟨by rw[HM2.out];rfl,HB1.out⟩
def placeV (g:Ent12):Value:=.agg #[.int .i64 (rankT g.T),.int .i64 g.T,.int .i64 g.o.F]
def aheadP (g h:Ent12):Bool:=decide (or3 (cmp3 (rankT g.T) (rankT h.T)) (cmp3 g.T h.T) (cmp3 g.o.F h.o.F)<0)
theorem or3_neg {x y z:Int} (hx:x = -1∨x=0∨x=1) (hy:y = -1∨y=0∨y=1):or3 x y z<0↔x<0∨(x=0∧(y<0∨(y=0∧z<0))):=by
 unfold or3
 rcases hx with rfl|rfl|rfl<;>rcases hy with rfl|rfl|rfl<;>simp
theorem cmp3_val (x y:Int):cmp3 x y = -1∨cmp3 x y=0∨cmp3 x y=1:=by rcases cmp3_cases x y with h|h|h<;>simp[h.1]
theorem cmp3_neg (x y:Int):cmp3 x y<0↔x<y:=by rcases cmp3_cases x y with h|h|h<;>omega
theorem cmp3_zero (x y:Int):cmp3 x y=0↔x=y:=by rcases cmp3_cases x y with h|h|h<;>omega
theorem aheadP_iff (g h:Ent12):aheadP g h=true↔rankT g.T<rankT h.T∨(rankT g.T=rankT h.T∧(g.T<h.T∨(g.T=h.T∧g.o.F<h.o.F))):=by
 unfold aheadP
 rw[decide_eq_true_iff,or3_neg (cmp3_val _ _) (cmp3_val _ _),cmp3_neg,cmp3_neg,cmp3_neg,cmp3_zero,cmp3_zero]
theorem BoxL.tri {w:World} {b:Nat} {v0 v1 v2:Value} (h:BoxL w b [v0,v1,v2]):w.cell? ⟨b,0,none⟩=some v0∧w.cell? ⟨b,1,none⟩=some v1∧w.cell? ⟨b,2,none⟩=some v2:=⟨h.cell 0 _ rfl,h.cell 1 _ rfl,h.cell 2 _ rfl⟩
theorem BoxL.setTri {w:World} {b:Nat} {u0 u1 u2:Value} (h:BoxL w b [u0,u1,u2]) (v0 v1 v2:Value):BoxL (((w.setCell ⟨b,0,none⟩ v0).setCell ⟨b,1,none⟩ v1).setCell ⟨b,2,none⟩ v2) b [v0,v1,v2]:=
 ((h.set 0 v0 (by simp)).set 1 v1 (by simp)).set 2 v2 (by simp)
set_option maxHeartbeats 4000000 in
theorem placeOf_any (g:Ent12) (w:World):Calls Tryz.prog 24 #[g.val] w fun e w'=>e = .returned (placeV g)∧Below w.heap.size w w':=by
 obtain⟨W,hW,hbW,hx⟩:=act_box w g.T g.A g.B g.o.C g.o.F g.o.H g.o.X g.va g.o.v.length g.vc g.ma g.o.m.length g.mc g.da g.d.length g.dc
 obtain⟨V,hV,hbV,hz⟩:∃V,W.alloc (.cells #[.int .i64 0,.int .i64 0,.int .i64 0] 44)=V∧Below W.heap.size W V∧BoxL V W.heap.size [.int .i64 0,.int .i64 0,.int .i64 0]:=⟨_,rfl,below_alloc _ _,BoxL.new _ _ _⟩
 have hs:W.heap.size=w.heap.size+1:=by rw[←hW];simp
 rw[hs]at hz
 have HW:=hid hW
 have HV:=hid hV
 have HB:=hid (below_on hbW hbV)
 have HR:=hid (fun V=>rankE_any g V)
 have HX:=hid (hx.below hbV)
 have HZ:=hid hz
 unfold placeV
 clear hW hbW hx hV hbV hz hs
 obtain⟨k,hk⟩:∃k,rankT g.T=k:=⟨_,rfl⟩
 rw[hk]at HR ⊢
 clear hk
 obtain⟨T,A,B,⟨C,F,H,X,v,m'⟩,va,vc,ma,mc,d,da,dc⟩:=g
 unfold Ent12.val at *
 simp only at *
 obtain⟨d0,d1,d2,d3,d4,d5,d6,d7,d8,d9⟩:=HX.out.ten
 go_enter Tryz.func24,Tryz.ntmps24
 go_upto_region 1 with fail
 rw[HW.out,HV.out]
 go_region_held3 (fun w'=>w'.cell? ⟨w.heap.size,0,none⟩=some (.int .i64 T)∧w'.cell? ⟨w.heap.size,1,none⟩=some (.int .u64 A)∧w'.cell? ⟨w.heap.size,2,none⟩=some (.int .u64 B)∧w'.cell? ⟨w.heap.size,3,none⟩=some (.int .i64 C)∧w'.cell? ⟨w.heap.size,4,none⟩=some (.int .i64 F)∧w'.cell? ⟨w.heap.size,5,none⟩=some (.bool H)∧w'.cell? ⟨w.heap.size,6,none⟩=some (.int .u64 X)∧w'.cell? ⟨w.heap.size,7,none⟩=some (.slice va v.length vc)∧w'.cell? ⟨w.heap.size,8,none⟩=some (.slice ma m'.length mc)∧w'.cell? ⟨w.heap.size,9,none⟩=some (.slice da d.length dc)) (go_keep) ((first
  | (go_at_call 26
     refine (HR.out _).mono ?_
     rintro e w1 ⟨rfl,hb1⟩
     obtain⟨u0,u1,u2,u3,u4,u5,u6,u7,u8,u9⟩:=(HX.out.drew.below hb1).ten
     obtain⟨z0,z1,z2⟩:=(HZ.out.drew.below hb1).tri
     have zf:=(HZ.out.drew.below hb1).free
     have HB1:=hid hb1
     have HZ1:=hid (HZ.out.drew.below hb1))
  | fail))
 go_wp2_with fail
 have hz:=(HZ1.out.setTri (.int .i64 k) (.int .i64 T) (.int .i64 F)).tri
 obtain⟨q0,q1,q2⟩:=hz
 refine bodyPost_ret (v:=.agg #[.int .i64 k,.int .i64 T,.int .i64 F]) (by simp[results,Tryz.results24,go_sem,q0,q1,q2]) rfl ⟨rfl,?_⟩
 exact (((below_on HB.out.drew HB1.out).setCell (by simp) _).setCell (by simp) _).setCell (by simp) _
set_option maxHeartbeats 4000000 in
theorem ahead3_any (a0 a1 a2 b0 b1 b2:Int) (w:World):Calls Tryz.prog 25 #[.agg #[.int .i64 a0,.int .i64 a1,.int .i64 a2],.agg #[.int .i64 b0,.int .i64 b1,.int .i64 b2]] w
 fun e w'=>e = .returned (.bool (decide (or3 (cmp3 a0 b0) (cmp3 a1 b1) (cmp3 a2 b2)<0)))∧Below w.heap.size w w':=by
 obtain⟨r0,hr0⟩:∃r,cmp3 a0 b0=r:=⟨_,rfl⟩
 obtain⟨r1,hr1⟩:∃r,cmp3 a1 b1=r:=⟨_,rfl⟩
 obtain⟨r2,hr2⟩:∃r,cmp3 a2 b2=r:=⟨_,rfl⟩
 have c0:=fun w=>compareInt_any a0 b0 w
 have c1:=fun w=>compareInt_any a1 b1 w
 have c2:=fun w=>compareInt_any a2 b2 w
 rw[hr0]at c0 ⊢
 rw[hr1]at c1 ⊢
 rw[hr2]at c2 ⊢
 obtain⟨W,hW,hbW,hx⟩:∃W,w.alloc (.cells #[.int .i64 a0,.int .i64 a1,.int .i64 a2] 44)=W∧Below w.heap.size w W∧BoxL W w.heap.size [.int .i64 a0,.int .i64 a1,.int .i64 a2]:=⟨_,rfl,below_alloc _ _,BoxL.new _ _ _⟩
 obtain⟨V,hV,hbV,hy⟩:∃V,W.alloc (.cells #[.int .i64 b0,.int .i64 b1,.int .i64 b2] 44)=V∧Below W.heap.size W V∧BoxL V W.heap.size [.int .i64 b0,.int .i64 b1,.int .i64 b2]:=⟨_,rfl,below_alloc _ _,BoxL.new _ _ _⟩
 have hs:W.heap.size=w.heap.size+1:=by rw[←hW];simp
 have hx:=hx.below hbV
 rw[hs]at hy
 have HW:=hid hW
 have HV:=hid hV
 have HB:=hid (below_on hbW hbV)
 have hxD:=hx.drew
 have hyD:=hy.drew
 obtain⟨d0,d1,d2⟩:=hxD.tri
 obtain⟨e0,e1,e2⟩:=hyD.tri
 obtain⟨f0,f1,f2⟩:=hx.tri
 obtain⟨g0,g1,g2⟩:=hy.tri
 have s1:w.heap.size<V.heap.size:=hx.lt
 have s2:w.heap.size+1<V.heap.size:=hy.lt
 have n1:¬w.heap.size=V.heap.size:=by omega
 have n2:¬w.heap.size+1=V.heap.size:=by omega
 have KC:Hid (∀o:Obj,(fun w'=>w'.cell? ⟨w.heap.size,0,none⟩=some (.int .i64 a0)∧w'.cell? ⟨w.heap.size,1,none⟩=some (.int .i64 a1)∧w'.cell? ⟨w.heap.size,2,none⟩=some (.int .i64 a2)∧w'.cell? ⟨w.heap.size+1,0,none⟩=some (.int .i64 b0)∧w'.cell? ⟨w.heap.size+1,1,none⟩=some (.int .i64 b1)∧w'.cell? ⟨w.heap.size+1,2,none⟩=some (.int .i64 b2)) ((V.alloc o).drew)):=by
  show _
  intro o
  obtain⟨a0,a1,a2⟩:=((hx.alloc o).drew).tri
  obtain⟨b0,b1,b2⟩:=((hy.alloc o).drew).tri
  exact⟨a0,a1,a2,b0,b1,b2⟩
 clear hW hbW hx hy hxD hyD hs hV hbV hr0 hr1 hr2
 go_enter Tryz.func25,Tryz.ntmps25
 go_upto_region 1 with fail
 rw[HW.out,HV.out]
 go_region_held3 (fun w'=>w'.cell? ⟨w.heap.size,0,none⟩=some (.int .i64 a0)∧w'.cell? ⟨w.heap.size,1,none⟩=some (.int .i64 a1)∧w'.cell? ⟨w.heap.size,2,none⟩=some (.int .i64 a2)∧w'.cell? ⟨w.heap.size+1,0,none⟩=some (.int .i64 b0)∧w'.cell? ⟨w.heap.size+1,1,none⟩=some (.int .i64 b1)∧w'.cell? ⟨w.heap.size+1,2,none⟩=some (.int .i64 b2)) (first|go_keep|exact KC.out _) ((first
  | (go_at_call 38;with_reducible refine (c0 _).mono ?_;rintro e w5 ⟨rfl,rfl⟩)
  | (go_at_call 38;with_reducible refine (c1 _).mono ?_;rintro e w5 ⟨rfl,rfl⟩)
  | (go_at_call 38;with_reducible refine (c2 _).mono ?_;rintro e w5 ⟨rfl,rfl⟩)
  | (go_at_call 37;refine (cmpOr_any r0 r1 r2 _ _ _ (by simp) (by simp) (by simp)).mono ?_;rintro e w5 ⟨rfl,rfl⟩)
  | fail))
 all_goals
  go_wp2_with fail
 refine bodyPost_ret (v:=.bool (decide (or3 r0 r1 r2<0))) (by simp[results,Tryz.results25,go_sem]) rfl ⟨rfl,?_⟩
 exact (below_on HB.out (below_alloc _ _)).drew
theorem isAhead_any (g h:Ent12) (w:World):Calls Tryz.prog 25 #[placeV g,placeV h] w fun e w'=>e = .returned (.bool (aheadP g h))∧Below w.heap.size w w':=ahead3_any _ _ _ _ _ _ w
theorem refField_any (g:Ent12) (w:World):Calls Tryz.prog 32 #[g.val] w fun e w'=>e = .returned (.int .i64 (fld14 g.act))∧Below w.heap.size w w':=by
 unfold fld14
 by_cases hT:g.act.T=25
 · rw[if_pos hT]
   have hT2:g.T=25:=hT
   have hTb:(g.T != 25)=false:=by simpa using hT2
   show Calls _ _ _ _ fun e w'=>e = .returned (.int .i64 g.o.F)∧_
   unfold Ent12.val
   clear hT hT2
   go_enter Tryz.func32,Tryz.ntmps32
   go_wp2_with fail
   go_ret
   exact⟨rfl,below_alloc _ _⟩
 · rw[if_neg hT]
   have hT2:g.T≠25:=hT
   have hTb:(g.T != 25)=true:=by simpa using hT2
   unfold Ent12.val
   clear hT hT2
   go_enter Tryz.func32,Tryz.ntmps32
   go_wp2_with fail
   go_ret
   exact⟨rfl,below_alloc _ _⟩
theorem boxes14r (w:World) (g h:Ent12):∃W,(w.alloc (.cells #[.int .i64 g.T,.int .u64 g.A,.int .u64 g.B,.int .i64 g.o.C,.int .i64 g.o.F,.bool g.o.H,.int .u64 g.o.X,.slice g.va g.o.v.length g.vc,.slice g.ma g.o.m.length g.mc,.slice g.da g.d.length g.dc] 37)).alloc (.cells #[.int .i64 h.T,.int .u64 h.A,.int .u64 h.B,.int .i64 h.o.C,.int .i64 h.o.F,.bool h.o.H,.int .u64 h.o.X,.slice h.va h.o.v.length h.vc,.slice h.ma h.o.m.length h.mc,.slice h.da h.d.length h.dc] 37)=W∧Below w.heap.size w W∧BoxL W w.heap.size g.cs∧BoxL W (w.heap.size+1) h.cs:=
 two_act w g.T g.A g.B g.o.C g.o.F g.o.H g.o.X g.va g.o.v.length g.vc g.ma g.o.m.length g.mc g.da g.d.length g.dc h.T h.A h.B h.o.C h.o.F h.o.H h.o.X h.va h.o.v.length h.vc h.ma h.o.m.length h.mc h.da h.d.length h.dc
theorem ahead_ways (g h:Ent12):∃r,ahead14 g.act h.act=r∧(((rankT g.T != rankT h.T)=true∧r=decide (rankT g.T<rankT h.T))∨((rankT g.T != rankT h.T)=false∧(g.T != h.T)=true∧r=decide (g.T<h.T))∨((rankT g.T != rankT h.T)=false∧(g.T != h.T)=false∧r=decide (fld14 g.act<fld14 h.act))):=by
 refine⟨_,rfl,?_⟩
 unfold ahead14
 by_cases h1:rankT g.T=rankT h.T
 · by_cases h2:g.T=h.T
   · refine .inr (.inr ⟨by simpa using h1,by simpa using h2,?_⟩)
     rw[if_neg (show ¬rank14 g.act≠rank14 h.act from fun k=>k h1),if_neg (show ¬g.act.T≠h.act.T from fun k=>k h2)]
   · refine .inr (.inl ⟨by simpa using h1,by simpa using h2,?_⟩)
     rw[if_neg (show ¬rank14 g.act≠rank14 h.act from fun k=>k h1),if_pos (show g.act.T≠h.act.T from h2)]
     rfl
 · refine .inl ⟨by simpa using h1,?_⟩
   rw[if_pos (show rank14 g.act≠rank14 h.act from h1)]
   rfl
set_option maxHeartbeats 4000000 in
theorem refAhead_any (g h:Ent12) (w:World):Calls Tryz.prog 19 #[g.val,h.val] w fun e w'=>e = .returned (.bool (ahead14 g.act h.act))∧Below w.heap.size w w':=by
 obtain⟨W,hW,hbW,hx,hy⟩:=boxes14r w g h
 have HW:=hid hW
 have HB:=hid hbW
 have HX:=hid hx
 have HY:=hid hy
 have HR1:=hid (fun (V:World) (j:Wk V)=>Wk.call (refRankE_any g j.val))
 have HR2:=hid (fun (V:World) (j:Wk V)=>Wk.call (refRankE_any h j.val))
 have HF1:=hid (fun (V:World) (j:Wk V)=>Wk.call (refField_any g j.val))
 have HF2:=hid (fun (V:World) (j:Wk V)=>Wk.call (refField_any h j.val))
 unfold Ent12.val at HR1 HR2 HF1 HF2
 obtain⟨r,hr,hw⟩:=ahead_ways g h
 rw[hr]
 unfold Ent12.val
 obtain⟨r1,hr1⟩:∃r,rankT g.T=r:=⟨_,rfl⟩
 obtain⟨r2,hr2⟩:∃r,rankT h.T=r:=⟨_,rfl⟩
 rw[hr1]at HR1 hw
 rw[hr2]at HR2 hw
 obtain⟨f1,hf1⟩:∃r,fld14 g.act=r:=⟨_,rfl⟩
 obtain⟨f2,hf2⟩:∃r,fld14 h.act=r:=⟨_,rfl⟩
 rw[hf1]at HF1 hw
 rw[hf2]at HF2 hw
 clear hr hr1 hr2 hf1 hf2 hW hbW hx hy
 rcases hw with⟨q1,rfl⟩|⟨q1,q2,rfl⟩|⟨q1,q2,rfl⟩
 · go_enter Tryz.func19,Tryz.ntmps19
   go_upto_region 1 with fail
   rw[HW.out]
   obtain⟨d0,d1,d2,d3,d4,d5,d6,d7,d8,d9⟩:=(HX.out.below (Below.refl _ W)).ten
   obtain⟨u0,u1,u2,u3,u4,u5,u6,u7,u8,u9⟩:=(HY.out.below (Below.refl _ W)).ten
   have d0:=Wk.cell d0
   have d1:=Wk.cell d1
   have d2:=Wk.cell d2
   have d3:=Wk.cell d3
   have d4:=Wk.cell d4
   have d5:=Wk.cell d5
   have d6:=Wk.cell d6
   have d7:=Wk.cell d7
   have d8:=Wk.cell d8
   have d9:=Wk.cell d9
   have u0:=Wk.cell u0
   have u1:=Wk.cell u1
   have u2:=Wk.cell u2
   have u3:=Wk.cell u3
   have u4:=Wk.cell u4
   have u5:=Wk.cell u5
   have u6:=Wk.cell u6
   have u7:=Wk.cell u7
   have u8:=Wk.cell u8
   have u9:=Wk.cell u9
   refine wp_region_wk (by kernel_rfl) (by kernel_rfl) ?_
   repeat (go_big_quiet_step (first
    | (go_at_call 31;with_reducible exact HR1.out _ _)
    | (go_at_call 31;with_reducible exact HR2.out _ _)
    | fail))
   refine wpQuiet_nil ?_
   rintro w3 ⟨⟨_,hbw3⟩,rfl⟩
   have HBw3:=hid (below_on (Below.refl _ W) hbw3)
   clear hbw3 d0 d1 d2 d3 d4 d5 d6 d7 d8 d9 u0 u1 u2 u3 u4 u5 u6 u7 u8 u9
   go_upto_region 2 with fail
   obtain⟨d0,d1,d2,d3,d4,d5,d6,d7,d8,d9⟩:=(HX.out.below HBw3.out).ten
   obtain⟨u0,u1,u2,u3,u4,u5,u6,u7,u8,u9⟩:=(HY.out.below HBw3.out).ten
   have d0:=Wk.cell d0
   have d1:=Wk.cell d1
   have d2:=Wk.cell d2
   have d3:=Wk.cell d3
   have d4:=Wk.cell d4
   have d5:=Wk.cell d5
   have d6:=Wk.cell d6
   have d7:=Wk.cell d7
   have d8:=Wk.cell d8
   have d9:=Wk.cell d9
   have u0:=Wk.cell u0
   have u1:=Wk.cell u1
   have u2:=Wk.cell u2
   have u3:=Wk.cell u3
   have u4:=Wk.cell u4
   have u5:=Wk.cell u5
   have u6:=Wk.cell u6
   have u7:=Wk.cell u7
   have u8:=Wk.cell u8
   have u9:=Wk.cell u9
   refine wp_region_wk (by kernel_rfl) (by kernel_rfl) ?_
   repeat (go_big_quiet_step (first
    | (go_at_call 31;with_reducible exact HR1.out _ _)
    | (go_at_call 31;with_reducible exact HR2.out _ _)
    | fail))
   refine wpQuiet_nil ?_
   rintro w4 ⟨⟨_,hbw4⟩,rfl⟩
   have HBw4:=hid (below_on HBw3.out hbw4)
   clear hbw4 d0 d1 d2 d3 d4 d5 d6 d7 d8 d9 u0 u1 u2 u3 u4 u5 u6 u7 u8 u9
   go_wp2_with fail
   exact bodyPost_ret (v:=.bool (decide (r1<r2))) (by simp[results,Tryz.results19,go_sem]) rfl ⟨rfl,below_on HB.out HBw4.out⟩
 · go_enter Tryz.func19,Tryz.ntmps19
   go_upto_region 1 with fail
   rw[HW.out]
   obtain⟨d0,d1,d2,d3,d4,d5,d6,d7,d8,d9⟩:=(HX.out.below (Below.refl _ W)).ten
   obtain⟨u0,u1,u2,u3,u4,u5,u6,u7,u8,u9⟩:=(HY.out.below (Below.refl _ W)).ten
   have d0:=Wk.cell d0
   have d1:=Wk.cell d1
   have d2:=Wk.cell d2
   have d3:=Wk.cell d3
   have d4:=Wk.cell d4
   have d5:=Wk.cell d5
   have d6:=Wk.cell d6
   have d7:=Wk.cell d7
   have d8:=Wk.cell d8
   have d9:=Wk.cell d9
   have u0:=Wk.cell u0
   have u1:=Wk.cell u1
   have u2:=Wk.cell u2
   have u3:=Wk.cell u3
   have u4:=Wk.cell u4
   have u5:=Wk.cell u5
   have u6:=Wk.cell u6
   have u7:=Wk.cell u7
   have u8:=Wk.cell u8
   have u9:=Wk.cell u9
   refine wp_region_wk (by kernel_rfl) (by kernel_rfl) ?_
   repeat (go_big_quiet_step (first
    | (go_at_call 31;with_reducible exact HR1.out _ _)
    | (go_at_call 31;with_reducible exact HR2.out _ _)
    | fail))
   refine wpQuiet_nil ?_
   rintro w3 ⟨⟨_,hbw3⟩,rfl⟩
   have HBw3:=hid (below_on (Below.refl _ W) hbw3)
   clear hbw3 d0 d1 d2 d3 d4 d5 d6 d7 d8 d9 u0 u1 u2 u3 u4 u5 u6 u7 u8 u9
   obtain⟨c0,-⟩:=(HX.out.below HBw3.out).ten
   obtain⟨k0,-⟩:=(HY.out.below HBw3.out).ten
   go_wp2_with fail
   exact bodyPost_ret (v:=.bool (decide (g.T<h.T))) (by simp[results,Tryz.results19,go_sem]) rfl ⟨rfl,below_on HB.out HBw3.out⟩
 · go_enter Tryz.func19,Tryz.ntmps19
   go_upto_region 1 with fail
   rw[HW.out]
   obtain⟨d0,d1,d2,d3,d4,d5,d6,d7,d8,d9⟩:=(HX.out.below (Below.refl _ W)).ten
   obtain⟨u0,u1,u2,u3,u4,u5,u6,u7,u8,u9⟩:=(HY.out.below (Below.refl _ W)).ten
   have d0:=Wk.cell d0
   have d1:=Wk.cell d1
   have d2:=Wk.cell d2
   have d3:=Wk.cell d3
   have d4:=Wk.cell d4
   have d5:=Wk.cell d5
   have d6:=Wk.cell d6
   have d7:=Wk.cell d7
   have d8:=Wk.cell d8
   have d9:=Wk.cell d9
   have u0:=Wk.cell u0
   have u1:=Wk.cell u1
   have u2:=Wk.cell u2
   have u3:=Wk.cell u3
   have u4:=Wk.cell u4
   have u5:=Wk.cell u5
   have u6:=Wk.cell u6
   have u7:=Wk.cell u7
   have u8:=Wk.cell u8
   have u9:=Wk.cell u9
   refine wp_region_wk (by kernel_rfl) (by kernel_rfl) ?_
   repeat (go_big_quiet_step (first
    | (go_at_call 31;with_reducible exact HR1.out _ _)
    | (go_at_call 31;with_reducible exact HR2.out _ _)
    | fail))
   refine wpQuiet_nil ?_
   rintro w3 ⟨⟨_,hbw3⟩,rfl⟩
   have HBw3:=hid (below_on (Below.refl _ W) hbw3)
   clear hbw3 d0 d1 d2 d3 d4 d5 d6 d7 d8 d9 u0 u1 u2 u3 u4 u5 u6 u7 u8 u9
   obtain⟨c0,-⟩:=(HX.out.below HBw3.out).ten
   obtain⟨k0,-⟩:=(HY.out.below HBw3.out).ten
   go_upto_region 5 with fail
   clear c0 k0
   obtain⟨d0,d1,d2,d3,d4,d5,d6,d7,d8,d9⟩:=(HX.out.below HBw3.out).ten
   obtain⟨u0,u1,u2,u3,u4,u5,u6,u7,u8,u9⟩:=(HY.out.below HBw3.out).ten
   have d0:=Wk.cell d0
   have d1:=Wk.cell d1
   have d2:=Wk.cell d2
   have d3:=Wk.cell d3
   have d4:=Wk.cell d4
   have d5:=Wk.cell d5
   have d6:=Wk.cell d6
   have d7:=Wk.cell d7
   have d8:=Wk.cell d8
   have d9:=Wk.cell d9
   have u0:=Wk.cell u0
   have u1:=Wk.cell u1
   have u2:=Wk.cell u2
   have u3:=Wk.cell u3
   have u4:=Wk.cell u4
   have u5:=Wk.cell u5
   have u6:=Wk.cell u6
   have u7:=Wk.cell u7
   have u8:=Wk.cell u8
   have u9:=Wk.cell u9
   refine wp_region_wk (by kernel_rfl) (by kernel_rfl) ?_
   repeat (go_big_quiet_step (first
    | (go_at_call 32;with_reducible exact HF1.out _ _)
    | (go_at_call 32;with_reducible exact HF2.out _ _)
    | fail))
   refine wpQuiet_nil ?_
   rintro w4 ⟨⟨_,hbw4⟩,rfl⟩
   have HBw4:=hid (below_on HBw3.out hbw4)
   clear hbw4 d0 d1 d2 d3 d4 d5 d6 d7 d8 d9 u0 u1 u2 u3 u4 u5 u6 u7 u8 u9
   go_wp2_with fail
   exact bodyPost_ret (v:=.bool (decide (f1<f2))) (by simp[results,Tryz.results19,go_sem]) rfl ⟨rfl,below_on HB.out HBw4.out⟩
set_option maxHeartbeats 4000000 in
theorem refPlace_any (g h:Ent12) (w:World):Calls Tryz.prog 20 #[g.val,h.val] w fun e w'=>e = .returned (.bool (place14 g.act h.act))∧Below w.heap.size w w':=by
 obtain⟨W,hW,hbW,hx,hy⟩:=boxes14r w g h
 have HW:=hid hW
 have HB:=hid hbW
 have HX:=hid hx
 have HY:=hid hy
 have HR1:=hid (fun (V:World) (j:Wk V)=>Wk.call (refRankE_any g j.val))
 have HR2:=hid (fun (V:World) (j:Wk V)=>Wk.call (refRankE_any h j.val))
 have HF1:=hid (fun (V:World) (j:Wk V)=>Wk.call (refField_any g j.val))
 have HF2:=hid (fun (V:World) (j:Wk V)=>Wk.call (refField_any h j.val))
 unfold Ent12.val at HR1 HR2 HF1 HF2
 obtain⟨r,hr⟩:∃r,place14 g.act h.act=r:=⟨_,rfl⟩
 have hw:((g.T==h.T)=true∧r=(fld14 g.act==fld14 h.act))∨((g.T==h.T)=false∧r=false):=by
  rw[←hr]
  unfold place14
  cases e:(g.act.T==h.act.T)
  · exact .inr ⟨e,rfl⟩
  · exact .inl ⟨e,by rw[Bool.true_and]⟩
 rw[hr]
 unfold Ent12.val
 obtain⟨f1,hf1⟩:∃r,fld14 g.act=r:=⟨_,rfl⟩
 obtain⟨f2,hf2⟩:∃r,fld14 h.act=r:=⟨_,rfl⟩
 rw[hf1]at HF1 hw
 rw[hf2]at HF2 hw
 clear hr hf1 hf2 hW hbW hx hy HR1 HR2
 rcases hw with⟨q1,rfl⟩|⟨q1,rfl⟩
 · go_enter Tryz.func20,Tryz.ntmps20
   go_upto_region 1 with fail
   rw[HW.out]
   obtain⟨d0,d1,d2,d3,d4,d5,d6,d7,d8,d9⟩:=(HX.out.below (Below.refl _ W)).ten
   obtain⟨u0,u1,u2,u3,u4,u5,u6,u7,u8,u9⟩:=(HY.out.below (Below.refl _ W)).ten
   have d0:=Wk.cell d0
   have d1:=Wk.cell d1
   have d2:=Wk.cell d2
   have d3:=Wk.cell d3
   have d4:=Wk.cell d4
   have d5:=Wk.cell d5
   have d6:=Wk.cell d6
   have d7:=Wk.cell d7
   have d8:=Wk.cell d8
   have d9:=Wk.cell d9
   have u0:=Wk.cell u0
   have u1:=Wk.cell u1
   have u2:=Wk.cell u2
   have u3:=Wk.cell u3
   have u4:=Wk.cell u4
   have u5:=Wk.cell u5
   have u6:=Wk.cell u6
   have u7:=Wk.cell u7
   have u8:=Wk.cell u8
   have u9:=Wk.cell u9
   refine wp_region_wk (by kernel_rfl) (by kernel_rfl) ?_
   repeat (go_big_quiet_step (first
    | (go_at_call 32;with_reducible exact HF1.out _ _)
    | (go_at_call 32;with_reducible exact HF2.out _ _)
    | fail))
   refine wpQuiet_nil ?_
   rintro w3 ⟨⟨_,hbw3⟩,rfl⟩
   have HBw3:=hid (below_on (Below.refl _ W) hbw3)
   clear hbw3 d0 d1 d2 d3 d4 d5 d6 d7 d8 d9 u0 u1 u2 u3 u4 u5 u6 u7 u8 u9
   go_wp2_with fail
   exact bodyPost_ret (v:=.bool (f1==f2)) (by simp[results,Tryz.results20,go_sem]) rfl ⟨rfl,below_on HB.out HBw3.out⟩
 · go_enter Tryz.func20,Tryz.ntmps20
   go_upto_region 1 with fail
   rw[HW.out]
   obtain⟨d0,d1,d2,d3,d4,d5,d6,d7,d8,d9⟩:=(HX.out.below (Below.refl _ W)).ten
   obtain⟨u0,u1,u2,u3,u4,u5,u6,u7,u8,u9⟩:=(HY.out.below (Below.refl _ W)).ten
   have d0:=Wk.cell d0
   have d1:=Wk.cell d1
   have d2:=Wk.cell d2
   have d3:=Wk.cell d3
   have d4:=Wk.cell d4
   have d5:=Wk.cell d5
   have d6:=Wk.cell d6
   have d7:=Wk.cell d7
   have d8:=Wk.cell d8
   have d9:=Wk.cell d9
   have u0:=Wk.cell u0
   have u1:=Wk.cell u1
   have u2:=Wk.cell u2
   have u3:=Wk.cell u3
   have u4:=Wk.cell u4
   have u5:=Wk.cell u5
   have u6:=Wk.cell u6
   have u7:=Wk.cell u7
   have u8:=Wk.cell u8
   have u9:=Wk.cell u9
   refine wp_region_wk (by kernel_rfl) (by kernel_rfl) ?_
   repeat (go_big_quiet_step (first
    | (go_at_call 32;with_reducible exact HF1.out _ _)
    | (go_at_call 32;with_reducible exact HF2.out _ _)
    | fail))
   refine wpQuiet_nil ?_
   rintro w3 ⟨⟨_,hbw3⟩,rfl⟩
   have HBw3:=hid (below_on (Below.refl _ W) hbw3)
   clear hbw3 d0 d1 d2 d3 d4 d5 d6 d7 d8 d9 u0 u1 u2 u3 u4 u5 u6 u7 u8 u9
   go_wp2_with fail
   exact bodyPost_ret (v:=.bool false) (by simp[results,Tryz.results20,go_sem]) rfl ⟨rfl,below_on HB.out HBw3.out⟩
theorem may_puts {s m:List Act12} (hs:Rises s) (h1:∀a∈s,may14 a=true) (h2:∀a∈m,may14 a=true):∀a∈puts14 s m,may14 a=true:=by
 intro a ha
 rcases (mem_puts hs).1 ha with h|⟨h,_⟩
 · exact h2 a (last_mem h)
 · exact h1 a h
theorem right_puts {s m:List Act12} (hs:right14 s=true) (hm:m.all may14=true):right14 (puts14 s m)=true:=by
 rw[right_iff14]at *
 rw[List.all_eq_true]at hm
 exact⟨may_puts hs.2 hs.1 hm,rises_puts hs.2⟩
theorem write_is14 {s m:List Act12} (hs:right14 s=true) (hm:m.all may14=true):write14 s m = .ok (puts14 s m):=by
 unfold write14
 rw[if_pos ⟨hs,hm⟩]
 rfl
def key14 (a:Act12):Int:=if a.T=25 then 1000+a.o.F else a.T
def keys14:List Int:=[12,18,20,27,19,26,17,11,16,24,15,23,21,22,0]++(List.range 36).map (fun (i:Nat)=>(1003+(i:Int):Int))
theorem take_snoc14 (l:List Ent12) (i:Nat) (hi:i<l.length):(l.map Ent12.act).take (i+1)=(l.map Ent12.act).take i ++ [l[i].act]:=by
 rw[List.take_add_one,List.getElem?_map,List.getElem?_eq_getElem hi];rfl
theorem filter_off {a:Act12} {l:List Act12} (h:∀y∈l,place14 y a=false):l.filter (fun y=>!place14 y a)=l:=by
 rw[List.filter_eq_self]
 intro y hy
 rw[h y hy];rfl
theorem put_here {a:Act12} {D:List Act12} (hR:Rises D) {i:Nat} (hi:i<D.length) (hb:∀k,(hk:k<i)→ahead14 (D[k]'(by omega)) a=true) (hp:place14 D[i] a=true):put14 a D=D.set i a:=by
 induction D generalizing i with
 | nil=>simp at hi
 | cons x r ih=>
   obtain⟨h1,h2⟩:=List.pairwise_cons.1 hR
   cases i with
   | zero=>
     have hp:place14 x a=true:=hp
     have hx:ahead14 x a=false:=by
      cases e:ahead14 x a
      · rfl
      · rw[(ahead_not e).1]at hp;cases hp
     unfold put14
     rw[hx,if_neg (by simp),List.filter_cons,hp]
     rw[if_neg (by simp),filter_off]
     · rfl
     · intro y hy
       cases e:place14 y a
       · rfl
       · have h3:=(ahead_not (h1 y hy)).1
         rw[place_trans hp (by rw[place_symm];exact e)]at h3
         cases h3
   | succ i=>
     have hx:ahead14 x a=true:=hb 0 (by omega)
     have:=ih h2 (i:=i) (by simpa using hi) (fun k hk=>hb (k+1) (by omega)) hp
     unfold put14
     rw[if_pos hx,(ahead_not hx).1,if_neg (by simp),this]
     rfl
theorem put_ahead {a:Act12} {D:List Act12} (hR:Rises D) {i:Nat} (hi:i<D.length) (hb:∀k,(hk:k<i)→ahead14 (D[k]'(by omega)) a=true) (ha:ahead14 a D[i]=true):put14 a D=D.take i++a::D.drop i:=by
 induction D generalizing i with
 | nil=>simp at hi
 | cons x r ih=>
   obtain⟨h1,h2⟩:=List.pairwise_cons.1 hR
   cases i with
   | zero=>
     have ha:ahead14 a x=true:=ha
     have hx:ahead14 x a=false:=by
      cases e:ahead14 x a
      · rfl
      · have:=ahead_trans ha e;rw[ahead_irr]at this;cases this
     unfold put14
     rw[hx,if_neg (by simp),filter_off]
     · rfl
     · intro y hy
       rcases List.mem_cons.1 hy with rfl|hy
       · exact (ahead_not ha).2
       · exact (ahead_not (ahead_trans ha (h1 y hy))).2
   | succ i=>
     have hx:ahead14 x a=true:=hb 0 (by omega)
     have:=ih h2 (i:=i) (by simpa using hi) (fun k hk=>hb (k+1) (by omega)) ha
     unfold put14
     rw[if_pos hx,(ahead_not hx).1,if_neg (by simp),this]
     rfl
theorem put_end {a:Act12} {D:List Act12} (hb:∀k,(hk:k<D.length)→ahead14 (D[k]) a=true):put14 a D=D ++ [a]:=by
 induction D with
 | nil=>rfl
 | cons x r ih=>
   have hx:ahead14 x a=true:=hb 0 (by simp)
   have:=ih (fun k hk=>hb (k+1) (by simpa using hk))
   unfold put14
   rw[if_pos hx,(ahead_not hx).1,if_neg (by simp),this]
   rfl
theorem rises_snoc {p:List Act12} {x:Act12} (h:Rises p) (hl:∀z,p.getLast? = some z→ahead14 z x=true):Rises (p ++ [x]):=by
 refine List.pairwise_append.2 ⟨h,by simp,fun y hy z hz=>?_⟩
 obtain rfl:=List.mem_singleton.1 hz
 rcases List.eq_nil_or_concat p with rfl|⟨q,u,rfl⟩
 · cases hy
 · have hu:=hl u (by simp)
   rw[List.concat_eq_append]at h hy
   rw[List.mem_append]at hy
   rcases hy with hy|hy
   · exact ahead_trans ((List.pairwise_append.1 h).2.2 y hy u (by simp)) hu
   · rw[List.mem_singleton.1 hy];exact hu
theorem right_snoc {p:List Act12} {x:Act12} (h:right14 p=true) (hx:may14 x=true) (hl:∀z,p.getLast? = some z→ahead14 z x=true):right14 (p ++ [x])=true:=by
 rw[right_iff14]at *
 refine⟨fun a ha=>?_,rises_snoc h.2 hl⟩
 rcases List.mem_append.1 ha with ha|ha
 · exact h.1 a ha
 · rw[List.mem_singleton.1 ha];exact hx
theorem right_not {l:List Act12} {i:Nat} (hi:i<l.length) (h:may14 l[i]=false ∨ ∃(k:Nat) (hk:k<i),ahead14 (l[k]'(by omega)) l[i]=false):right14 l=false:=by
 cases e:right14 l
 · rfl
 · rw[right_iff14]at e
   rcases h with h|⟨k,hk,h⟩
   · rw[e.1 _ (List.getElem_mem hi)]at h;cases h
   · rw[List.pairwise_iff_getElem.1 e.2 k i (by omega) hi hk]at h;cases h
theorem may_field {w:World} {g:Ent12} (hi:ActIn w g) (h:may14 g.act=true):fld14 g.act=g.o.F:=by
 unfold fld14
 by_cases hT:g.T=25
 · exact if_pos hT
 · rw[show g.act.T=g.T from rfl,if_neg hT]
   unfold may14 at h
   rw[Bool.and_eq_true]at h
   cases hx:act12 g.act with
   | none=>rw[hx]at h;simp at h
   | some x=>
     obtain⟨b,hb,_⟩:=act_write hx
     obtain⟨_,_,_,ho,_⟩:=body_row hb hT
     have ho:g.o=noOx:=ho
     rw[ho]
     rfl
theorem ahead_is {w:World} {g h:Ent12} (hi:ActIn w g) (hj:ActIn w h) (mg:may14 g.act=true) (mh:may14 h.act=true):aheadP g h=ahead14 g.act h.act:=by
 rw[Bool.eq_iff_iff,aheadP_iff,ahead_iff,may_field hi mg,may_field hj mh]
 rfl
theorem place_is {w:World} {g h:Ent12} (hi:ActIn w g) (hj:ActIn w h) (mg:may14 g.act=true) (mh:may14 h.act=true):place14 g.act h.act=true↔g.T=h.T∧g.o.F=h.o.F:=by
 rw[place_iff,may_field hi mg,may_field hj mh]
 rfl
set_option maxHeartbeats 4000000 in
theorem refMay_any (g:Ent12) (w:World) (hi:ActIn w g):Calls Tryz.prog 18 #[g.val] w fun e w'=>e = .returned (.bool (may14 g.act))∧Below w.heap.size w w':=by
 obtain⟨W,hW,hbW,hx⟩:=act_box w g.T g.A g.B g.o.C g.o.F g.o.H g.o.X g.va g.o.v.length g.vc g.ma g.o.m.length g.mc g.da g.d.length g.dc
 have HW:=hid hW
 have HB:=hid hbW
 have HX:=hid hx
 have HE:=hid (refEncode12_any g W (hi.below hbW))
 have HR:=hid (fun (V:World)=>refRankE_any g V)
 obtain⟨m,hm⟩:∃m,may14 g.act=m:=⟨_,rfl⟩
 have HM:Hid (m=((act12 g.act).isSome&&decide (0<rankT g.T))):=hm.symm
 rw[hm]
 clear hW hbW hx hi hm
 obtain⟨k,hk⟩:∃k,rankT g.T=k:=⟨_,rfl⟩
 rw[hk]at HR HM
 clear hk
 unfold Ent12.val at *
 obtain⟨d0,d1,d2,d3,d4,d5,d6,d7,d8,d9⟩:=HX.out.ten
 go_enter Tryz.func18,Tryz.ntmps18
 go_upto_region 1 with fail
 rw[HW.out]
 go_wp2_with fail
 refine HE.out.mono ?_
 rintro e w1 (⟨hno,rfl,hb1⟩|⟨y,ya,yc,hq,rfl,hb1,-⟩)
 · have HM2:Hid (m=false):=by show _=_;rw[HM.out,hno];rfl
   have HB1:=hid (below_on HB.out hb1)
   clear hno hb1 d0 d1 d2 d3 d4 d5 d6 d7 d8 d9
   go_wp2_with fail
   exact bodyPost_ret (v:=.bool false) (by simp[results,Tryz.results18,go_sem]) rfl ⟨by rw[HM2.out],HB1.out⟩
 · have HM2:Hid (m=decide (0<k)):=by show _=_;rw[HM.out,hq];rfl
   have HB1:=hid (below_on HB.out hb1)
   have HX1:=hid (HX.out.below hb1)
   clear hq hb1 d0 d1 d2 d3 d4 d5 d6 d7 d8 d9
   obtain⟨d0,d1,d2,d3,d4,d5,d6,d7,d8,d9⟩:=HX1.out.ten
   go_wp2_with fail
   refine (HR.out _).mono ?_
   rintro e w2 ⟨rfl,hb2⟩
   have HB2:=hid (below_on HB1.out hb2)
   clear hb2
   go_wp2_with fail
   exact bodyPost_ret (v:=.bool (decide (0<k))) (by simp[results,Tryz.results18,go_sem]) rfl ⟨by rw[HM2.out],HB2.out⟩
set_option maxHeartbeats 4000000 in
theorem refRightS_any (w:World) (a:Option Addr) (c:Nat) (l:List Ent12) (hL:Acts w a l) (hI:AllIn w l) (hll:l.length≤1000):
 Calls Tryz.prog 17 #[.slice a l.length c] w fun e w'=>e = .returned (.bool (right14 (l.map Ent12.act)))∧Below w.heap.size w w':=by
 obtain⟨r,hr⟩:∃r,right14 (l.map Ent12.act)=r:=⟨_,rfl⟩
 rw[hr]
 have HR:=hid hr
 have HL:=hid hL
 have HI:=hid hI
 obtain⟨N,hN⟩:∃N,N=l.length:=⟨_,rfl⟩
 have HN:=hid hN
 rw[←hN]at hll ⊢
 clear hr hL hI hN
 go_enter Tryz.func17,Tryz.ntmps17
 go_wp2_with fail
 go_loopg [3] N (fun kx s3 wr=>∃(i:Nat),s3 = .int .i64 i∧i≤N∧N-i≤kx∧Hid (right14 ((l.map Ent12.act).take i)=true)∧Hid (Below w.heap.size w wr))
 case atStart=>exact⟨0,rfl,by omega,by omega,rfl,Below.refl _ _⟩
 case round=>
  obtain⟨i,rfl,hi,hkx,hn,hb⟩:=hrel
  by_cases hlt:i<N
  · have hltz:(i:Int)<(N:Int):=by omega
    have hil:i<l.length:=by have:=HN.out;omega
    obtain⟨b,off,rfl,-⟩:=HL.out i hil
    obtain⟨d0,d1,d2,d3,d4,d5,d6,d7,d8,d9⟩:=(HL.out.below hb.out).ten i hil
    have hin:=HI.out l[i] (List.getElem_mem hil)
    have htk:=take_snoc14 l i hil
    have hgi:(l.map Ent12.act)[i]'(by rw[List.length_map];exact hil)=l[i].act:=by simp
    have hpre:∀k,(hk:k<i)→(l.map Ent12.act)[k]'(by rw[List.length_map];omega)=(l[k]'(by omega)).act:=fun k hk=>by simp
    have HPRE:=hid hpre
    have HX:Hid (∀g:Ent12,l[i]=g→(may14 g.act=false ∨ ∃(k:Nat) (hk:k<i),ahead14 (l[k]'(by omega)).act g.act=false)→r=false):=by
     show _
     rintro g rfl h
     rw[←HR.out]
     exact right_not (i:=i) (by rw[List.length_map];exact hil) (by
      rcases h with h|⟨k,hk,h⟩
      · exact .inl (by rw[hgi];exact h)
      · exact .inr ⟨k,hk,by rw[hgi,HPRE.out k hk];exact h⟩)
    have hX:=fun h=>HX.out _ rfl h
    generalize l[i]=g at d0 d1 d2 d3 d4 d5 d6 d7 d8 d9 hin htk hX
    have HTK:=hid htk
    have HIN:=hid (hin.below hb.out)
    obtain⟨m,hm⟩:∃m,may14 g.act=m:=⟨_,rfl⟩
    have HMS:=hid (fun j:Wk wr=>Wk.call (refMay_any g j.val (HIN.out.below j.bel)))
    rw[hm]at HMS hX
    have HM:=hid hm
    have HXX:=hid hX
    clear htk hin hm hX HPRE
    go_upto_region 4 with fail
    have d0:=Wk.cell d0
    have d1:=Wk.cell d1
    have d2:=Wk.cell d2
    have d3:=Wk.cell d3
    have d4:=Wk.cell d4
    have d5:=Wk.cell d5
    have d6:=Wk.cell d6
    have d7:=Wk.cell d7
    have d8:=Wk.cell d8
    have d9:=Wk.cell d9
    cases m
    · have hrf:=hid (HXX.out (.inl rfl))
      refine wp_region_wk (by kernel_rfl) (by kernel_rfl) ?_
      repeat (go_big_quiet_step (first|(go_at_call 18;exact HMS.out _)|fail))
      refine wpQuiet_nil ?_
      rintro w6 ⟨⟨_,hb6⟩,rfl⟩
      have HB6:=hid (below_on hb.out hb6)
      clear d0 d1 d2 d3 d4 d5 d6 d7 d8 d9 hb6
      go_wp2_with fail
      exact bodyPost_ret (v:=.bool false) (by simp[results,Tryz.results17,go_sem]) rfl ⟨by rw[hrf.out],HB6.out⟩
    · by_cases hi0:i=0
      · subst hi0
        simp only[Nat.zero_mul,Nat.add_zero]at d0 d1 d2 d3 d4 d5 d6 d7 d8 d9
        have hn2:right14 ((l.map Ent12.act).take (0+1))=true:=by
         rw[HTK.out]
         exact right_snoc hn.out HM.out (by simp)
        have HN2:=hid hn2
        clear hn2
        refine wp_region_wk (by kernel_rfl) (by kernel_rfl) ?_
        repeat (go_big_quiet_step (first|(go_at_call 18;exact HMS.out _)|fail))
        refine wpQuiet_nil ?_
        rintro w6 ⟨⟨_,hb6⟩,rfl⟩
        have HB6:=hid (below_on hb.out hb6)
        clear d0 d1 d2 d3 d4 d5 d6 d7 d8 d9 hb6
        go_wp2_with fail
        go_roundg (N-1)
        case rel=>exact⟨1,by go_num,by omega,by omega,HN2.out,HB6.out⟩
        case measure=>omega
      · have hipos:(0:Int)<(i:Int):=by omega
        have him:((i:Int)-1).toNat=i-1:=by omega
        have hi1:(0:Int)≤(i:Int)-1:=by omega
        have hi2:(i:Int)-1<(N:Int):=by omega
        have hilm:i-1<l.length:=by omega
        have hlast:∀z,((l.map Ent12.act).take i).getLast? = some z→z=(l[i-1]).act:=by
         intro z hz
         rw[List.getLast?_eq_getElem?,List.length_take,List.length_map,Nat.min_eq_left (by omega),List.getElem?_take,if_pos (by omega),List.getElem?_map,List.getElem?_eq_getElem hilm]at hz
         simpa using hz.symm
        have hin2:=HI.out l[i-1] (List.getElem_mem hilm)
        have hmp:may14 (l[i-1]).act=true:=by
         have:=(right_iff14.1 hn.out).1 (l[i-1]).act (List.mem_of_getElem? (i:=i-1) (by rw[List.getElem?_take,if_pos (by omega),List.getElem?_map,List.getElem?_eq_getElem hilm];rfl))
         exact this
        have hx2:ahead14 (l[i-1]).act g.act=false→r=false:=fun h=>HXX.out (.inr ⟨i-1,by omega,h⟩)
        obtain⟨e0,e1,e2,e3,e4,e5,e6,e7,e8,e9⟩:=(HL.out.below hb.out).ten (i-1) hilm
        generalize l[i-1]=h at e0 e1 e2 e3 e4 e5 e6 e7 e8 e9 hlast hin2 hmp hx2
        have HAH:=hid (fun j:Wk wr=>Wk.call (refAhead_any h g j.val))
        unfold Ent12.val at HAH
        obtain⟨q,hq⟩:∃q,ahead14 h.act g.act=q:=⟨_,rfl⟩
        rw[hq]at HAH hx2
        have HQ:=hid hq
        have HX2:=hid hx2
        have HLA:=hid hlast
        have u0:=Wk.cell e0
        have u1:=Wk.cell e1
        have u2:=Wk.cell e2
        have u3:=Wk.cell e3
        have u4:=Wk.cell e4
        have u5:=Wk.cell e5
        have u6:=Wk.cell e6
        have u7:=Wk.cell e7
        have u8:=Wk.cell e8
        have u9:=Wk.cell e9
        have hge0:decide ((0:Int)<(i:Int))=true:=decide_eq_true hipos
        have hgeN:decide (0<i)=true:=decide_eq_true (by omega)
        clear e0 e1 e2 e3 e4 e5 e6 e7 e8 e9 hq hx2 hlast hin2 hmp
        refine wp_region_wk (by kernel_rfl) (by kernel_rfl) ?_
        repeat (go_big_quiet_step (first
         | (go_at_call 18;exact HMS.out _)
         | (go_at_call 19;exact HAH.out _)
         | fail))
        refine wpQuiet_nil ?_
        rintro w6 ⟨⟨_,hb6⟩,rfl⟩
        have HB6:=hid (below_on hb.out hb6)
        clear d0 d1 d2 d3 d4 d5 d6 d7 d8 d9 u0 u1 u2 u3 u4 u5 u6 u7 u8 u9 hb6
        cases q
        · have hrf:=hid (HX2.out rfl)
          go_wp2_with fail
          exact bodyPost_ret (v:=.bool false) (by simp[results,Tryz.results17,go_sem]) rfl ⟨by rw[hrf.out],HB6.out⟩
        · have hn2:right14 ((l.map Ent12.act).take (i+1))=true:=by
           rw[HTK.out]
           exact right_snoc hn.out HM.out (fun z hz=>by rw[HLA.out z hz];exact HQ.out)
          have HN2:=hid hn2
          clear hn2
          go_wp2_with fail
          go_roundg (N-(i+1))
          case rel=>exact⟨i+1,by go_num,by omega,by omega,HN2.out,HB6.out⟩
          case measure=>omega
  · have hge:(N:Int)≤(i:Int):=by omega
    have hrt:r=true:=by
     have h:=hn.out
     rw[List.take_of_length_le (by rw[List.length_map];have:=HN.out;omega)]at h
     rw[←HR.out];exact h
    have HRT:=hid hrt
    clear hrt
    go_wp2_with fail
    exact bodyPost_ret (v:=.bool true) (by simp[results,Tryz.results17,go_sem]) rfl ⟨by rw[HRT.out],hb.out⟩
end Go.Proofs.YthpdkancighknaaGreat
