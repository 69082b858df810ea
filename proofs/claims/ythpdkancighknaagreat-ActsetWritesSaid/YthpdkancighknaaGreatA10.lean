/- Put together out of several texts. -/
import Derived.Test.YthpdkancighknaaGreatA8
import Derived.Test.YthpdkancighknaaGreatA7
import Derived.Test.YthpdkancighknaaGreatA9
import Derived.Test.YthpdkancighknaaGreatA4
import Derived.Test.YthpdkancighknaaGreatA3
import Derived.Test.YthpdkancighknaaGreatA1
import Derived.OpenShut
import Derived.ProofKit
import Derived.Deep.Slices
import Derived.Deep.RegionWith
namespace Go.Proofs.YthpdkancighknaaGreat
open Go.RowKit
set_option linter.unusedVariables false
set_option maxRecDepth 100000
structure Act12 where
 T:Int
 A:Int
 B:Int
 o:Ox9
 d:List Int
def noOx:Ox9:=⟨0,0,false,0,[],[]⟩
def row12 (t:Int):Option (List Int):=
 if t=0 then some [4,2,-6]
 else if t=22∨t=21∨t=65535 then some [4]
 else if t=15∨t=23 then some [1,-3]
 else if t=11∨t=12∨t=16∨t=18∨t=24∨t=27 then some [-4]
 else if t=17∨t=19∨t=20∨t=26 then some [2,-2]
 else none
def asked12 (t n:Int):Int:=
 if t=0 then (if n=0 then 517 else 0)
 else if t=22 then (if 4294967040<n then 522 else 0)
 else if t=17 then (if n=33024∨n=34984 then 0 else 518)
 else if t=19 then (if n=34887∨n=34888 then 0 else 518)
 else if t=26 then (if n=35047 then 0 else 518)
 else 0
def nums12 (a:Act12) (w:List Int):List Int:=[a.A,a.B].take (countL w)
def pad12 (n:Nat):Nat:=(12-n%8)%8
def setOk12 (o:Ox9):Bool:=decide (o.C=32768) && !o.H&&decide (2<o.F∧o.F<39)&&right10 o
def body12 (a:Act12):Option (List Int):=
 if a.T=25 then
  if a.A=0∧a.B=0∧a.d = []∧setOk12 a.o=true then some (bytes10 a.o++List.replicate (pad12 (bytes10 a.o).length) 0) else none
 else match row12 a.T with
  | none=>none
  | some w=>
    if a.o=noOx∧asked12 a.T a.A=0∧(countL w<2→a.B=0)∧(countL w<1→a.A=0)∧(a.T≠65535→a.d = [])∧a.d.length%8=0∧a.d.length≤65520 then (putW w (nums12 a w)).map (· ++ a.d) else none
def act12 (a:Act12):Option (List Int):=(body12 a).map fun b=>bytesL a.T 2++(bytesL ((4+b.length:Nat):Int) 2++b)
def set12 (x:List Int):Except Int Ox9:=
 match decL x with
 | .error q=>.error (if q=1026 then 527 else if q=1031 then 526 else 528)
 | .ok o=>
   if o.C≠32768 ∨ ¬(2<o.F∧o.F<39) then .error 526
   else if o.H=true then .error 528
   else if o.n+8≤x.length∨x.length<o.n then .error 527
   else if zeros (x.drop o.n)=false then .error 528
   else .ok ⟨o.C,o.F,o.H,o.X,o.v,o.m⟩
def dec12 (b:List Int):Except Int (Act12 × Nat):=
 match oneL 8 8 false 514 514 b with
 | .error q=>.error q
 | .ok (t,x,n)=>
   if t=25 then
    match set12 x with
    | .error q=>.error q
    | .ok o=>.ok (⟨25,0,0,o,[]⟩,n)
   else match row12 t with
    | none=>.error 513
    | some w=>
      if t≠65535∧x.length≠sizeL w then .error 514
      else match getW w x with
       | .error _=>.error 518
       | .ok l=>if asked12 t (l.getD 0 0)≠0 then .error (asked12 t (l.getD 0 0)) else .ok (⟨t,l.getD 0 0,l.getD 1 0,noOx,x.drop (sizeL w)⟩,n)
structure Act12.In (a:Act12):Prop where
 A : 0≤a.A∧a.A<p256 8
 B : 0≤a.B∧a.B<p256 8
 X : 0≤a.o.X
theorem row_ways {t:Int} {w:List Int} (h:row12 t=some w):
 (t=0∧w = [4,2,-6])∨((t=22∨t=21∨t=65535)∧w = [4])∨((t=15∨t=23)∧w = [1,-3])∨((t=11∨t=12∨t=16∨t=18∨t=24∨t=27)∧w = [-4])∨((t=17∨t=19∨t=20∨t=26)∧w = [2,-2]):=by
 unfold row12 at h
 split at h
 · rename_i k;cases h;exact .inl ⟨k,rfl⟩
 · split at h
   · rename_i _ k;cases h;exact .inr (.inl ⟨k,rfl⟩)
   · split at h
     · rename_i _ _ k;cases h;exact .inr (.inr (.inl ⟨k,rfl⟩))
     · split at h
       · rename_i _ _ _ k;cases h;exact .inr (.inr (.inr (.inl ⟨k,rfl⟩)))
       · split at h
         · rename_i _ _ _ _ k;cases h;exact .inr (.inr (.inr (.inr ⟨k,rfl⟩)))
         · cases h
structure RowFacts (t:Int) (w:List Int):Prop where
 ok:rightW w=true
 all:allW w=true
 num : 0≤t∧t<65536∧t≠25
 size:sizeL w=4∨(t=0∧sizeL w=12)
 count:countL w≤2
theorem row_facts {t:Int} {w:List Int} (h:row12 t=some w):RowFacts t w:=by
 rcases row_ways h with⟨k,rfl⟩|⟨k,rfl⟩|⟨k,rfl⟩|⟨k,rfl⟩|⟨k,rfl⟩
 · exact⟨by decide,by decide,by omega,.inr ⟨k,by decide⟩,by decide⟩
 · exact⟨by decide,by decide,by omega,.inl (by decide),by decide⟩
 · exact⟨by decide,by decide,by omega,.inl (by decide),by decide⟩
 · exact⟨by decide,by decide,by omega,.inl (by decide),by decide⟩
 · exact⟨by decide,by decide,by omega,.inl (by decide),by decide⟩
theorem pad_fits (n:Nat):(n+pad12 n)%8=4∧pad12 n<8:=by unfold pad12;omega
theorem bytes10_small {o:Ox9} (h:right10 o=true) : 5≤(bytes10 o).length∧(bytes10 o).length≤212:=by
 have ft:=right_facts h
 have hl:=ft.len
 have h1:=ft.v1
 have h0:=(back_less h).2
 refine⟨h0,?_⟩
 unfold bytes10
 rw[oxmBytes_length]
 have hm:o.m.length≤100:=by rw[hl];cases o.H<;>simp[maskZ]<;>omega
 unfold behind8
 split<;>omega
theorem act_write {a:Act12} {x:List Int} (h:act12 a=some x):∃b,body12 a=some b∧writeL 8 8 false a.T b = .ok x∧x=bytesL a.T 2++(bytesL ((4+b.length:Nat):Int) 2++b)∧x.length=4+b.length∧8≤x.length∧x.length%8=0∧x.length≤65528∧0≤a.T∧a.T<65536:=by
 unfold act12 at h
 cases hb:body12 a with
 | none=>rw[hb]at h;cases h
 | some b =>
   rw[hb]at h
   simp only[Option.map_some,Option.some.injEq]at h
   have key : 4 ≤ b.length∧(4+b.length)%8=0∧4+b.length≤65528∧0≤a.T∧a.T<65536:=by
    unfold body12 at hb
    split at hb
    · rename_i hT
      split at hb
      · rename_i hok
        obtain⟨_,_,_,hs⟩:=hok
        have hr:right10 a.o=true:=by unfold setOk12 at hs;simp only[Bool.and_eq_true]at hs;exact hs.2
        have h1:=bytes10_small hr
        have h2:=pad_fits (bytes10 a.o).length
        cases hb
        rw[List.length_append,List.length_replicate]
        omega
      · cases hb
    · cases hr:row12 a.T with
      | none=>rw[hr]at hb;cases hb
      | some w=>
        have hf:=row_facts hr
        rw[hr]at hb
        simp only at hb
        split at hb
        · rename_i hok
          obtain⟨_,_,_,_,h5,h6,h7⟩:=hok
          unfold putW at hb
          split at hb
          · cases hp:putL w (nums12 a w) with
            | none=>rw[hp]at hb;cases hb
            | some p=>
              rw[hp]at hb
              cases hb
              have:=(putL_octets hp).2
              have hz:=hf.size
              have ht:=hf.num
              rw[List.length_append,this]
              rcases hz with hz|⟨hz,hz2⟩
              · omega
              · have:=h5 (by omega)
                rw[this,hz2]
                simp
                omega
          · cases hb
        · cases hb
   obtain⟨k1,k2,k3,k4,k5⟩:=key
   have hlx:x.length=4+b.length:=by
    rw[←h,List.length_append,List.length_append,bytesL_length,bytesL_length]
    omega
   refine⟨b,rfl,?_,h.symm,hlx,by omega,by omega,by omega,k4,k5⟩
   unfold writeL
   rw[if_pos ⟨by unfold lenOk;simp;omega,k4,k5,by omega⟩]
   have hz:zer 8 false (4+b.length)=0:=by unfold zer;simp
   rw[hz,List.replicate_zero,List.append_nil,List.append_assoc,h]
theorem nums_len {a:Act12} {w:List Int} (hc:countL w≤2):(nums12 a w).length=countL w:=by
 unfold nums12
 rw[List.length_take]
 simp
 omega
theorem nums_u64 {a:Act12} (h:a.In) (w:List Int):U64s (nums12 a w):=by
 intro x hx
 have:=List.mem_of_mem_take hx
 simp at this
 rcases this with rfl|rfl
 · exact h.A
 · exact h.B
theorem body_row {a:Act12} {b:List Int} (h:body12 a=some b) (hT:a.T≠25):∃w p,row12 a.T=some w∧a.o=noOx∧asked12 a.T a.A=0∧(countL w<2→a.B=0)∧(countL w<1→a.A=0)∧(a.T≠65535→a.d = [])∧a.d.length%8=0∧a.d.length≤65520∧putL w (nums12 a w)=some p∧countL w=(nums12 a w).length∧b=p++a.d:=by
 unfold body12 at h
 rw[if_neg hT]at h
 cases hr:row12 a.T with
 | none=>rw[hr]at h;cases h
 | some w=>
   rw[hr]at h
   simp only at h
   split at h
   · rename_i k
     unfold putW at h
     split at h
     · rename_i hc
       cases hp:putL w (nums12 a w) with
       | none=>rw[hp]at h;cases h
       | some p=>
         rw[hp]at h
         cases h
         rw[Bool.and_eq_true,beq_iff_eq]at hc
         exact⟨w,p,rfl,k.1,k.2.1,k.2.2.1,k.2.2.2.1,k.2.2.2.2.1,k.2.2.2.2.2.1,k.2.2.2.2.2.2,hp,hc.2,rfl⟩
     · cases h
   · cases h
end Go.Proofs.YthpdkancighknaaGreat
namespace Go.Proofs.YthpdkancighknaaGreat
open Go.RowKit
set_option linter.unusedVariables false
structure Ent12 where
 T:Int
 A:Int
 B:Int
 o:Ox9
 va:Option Addr
 vc:Nat
 ma:Option Addr
 mc:Nat
 d:List Int
 da:Option Addr
 dc:Nat
def Ent12.cs (g:Ent12):List Value:=[.int .i64 g.T,.int .u64 g.A,.int .u64 g.B,.int .i64 g.o.C,.int .i64 g.o.F,.bool g.o.H,.int .u64 g.o.X,.slice g.va g.o.v.length g.vc,.slice g.ma g.o.m.length g.mc,.slice g.da g.d.length g.dc]
def Ent12.val (g:Ent12):Value:=.agg #[.int .i64 g.T,.int .u64 g.A,.int .u64 g.B,.int .i64 g.o.C,.int .i64 g.o.F,.bool g.o.H,.int .u64 g.o.X,.slice g.va g.o.v.length g.vc,.slice g.ma g.o.m.length g.mc,.slice g.da g.d.length g.dc]
def Ent12.act (g:Ent12):Act12:=⟨g.T,g.A,g.B,g.o,g.d⟩
def zero12:Value:=.agg #[.int .i64 0,.int .u64 0,.int .u64 0,.int .i64 0,.int .i64 0,.bool false,.int .u64 0,.slice none 0 0,.slice none 0 0,.slice none 0 0]
structure ActIn (w:World) (g:Ent12):Prop where
 t : -9223372036854775808≤g.T∧g.T≤9223372036854775807
 a : 0≤g.A∧g.A≤18446744073709551615
 b : 0≤g.B∧g.B≤18446744073709551615
 c : -9223372036854775808≤g.o.C∧g.o.C≤9223372036854775807
 f : -9223372036854775808≤g.o.F∧g.o.F≤9223372036854775807
 x : 0≤g.o.X∧g.o.X≤18446744073709551615
 lv:g.o.v.length≤1000
 lm:g.o.m.length≤1000
 ld:g.d.length≤100000
 iv:Ints .u8 w g.va g.o.v
 im:Ints .u8 w g.ma g.o.m
 id:Ints .u8 w g.da g.d
 ov:Octets g.o.v
 om:Octets g.o.m
 od:Octets g.d
 cm:g.o.m.length≤g.mc
theorem ActIn.below {w w':World} {g:Ent12} (h:ActIn w g) (hb:Below w.heap.size w w'):ActIn w' g:=
 ⟨h.t,h.a,h.b,h.c,h.f,h.x,h.lv,h.lm,h.ld,h.iv.below hb,h.im.below hb,h.id.below hb,h.ov,h.om,h.od,h.cm⟩
theorem ActIn.num {w:World} {g:Ent12} (h:ActIn w g):g.act.In:=by
 have e:p256 8=18446744073709551616:=by decide
 exact⟨by rw[e];have:=h.a;show 0≤g.A∧g.A<_;omega,by rw[e];have:=h.b;show 0≤g.B∧g.B<_;omega,h.x.1⟩
section
variable {w w':World} {b:Nat}
theorem BoxL.ten {v0 v1 v2 v3 v4 v5 v6 v7 v8 v9:Value} (h:BoxL w b [v0,v1,v2,v3,v4,v5,v6,v7,v8,v9]):
 w.cell? ⟨b,0,none⟩=some v0∧w.cell? ⟨b,1,none⟩=some v1∧w.cell? ⟨b,2,none⟩=some v2∧w.cell? ⟨b,3,none⟩=some v3∧w.cell? ⟨b,4,none⟩=some v4∧w.cell? ⟨b,5,none⟩=some v5∧w.cell? ⟨b,6,none⟩=some v6∧w.cell? ⟨b,7,none⟩=some v7∧w.cell? ⟨b,8,none⟩=some v8∧w.cell? ⟨b,9,none⟩=some v9:=
 ⟨h.cell 0 _ rfl,h.cell 1 _ rfl,h.cell 2 _ rfl,h.cell 3 _ rfl,h.cell 4 _ rfl,h.cell 5 _ rfl,h.cell 6 _ rfl,h.cell 7 _ rfl,h.cell 8 _ rfl,h.cell 9 _ rfl⟩
def set10 (w:World) (b:Nat) (v0 v1 v2 v3 v4 v5 v6 v7 v8 v9:Value):World:=
 (((((((((w.setCell ⟨b,0,none⟩ v0).setCell ⟨b,1,none⟩ v1).setCell ⟨b,2,none⟩ v2).setCell ⟨b,3,none⟩ v3).setCell ⟨b,4,none⟩ v4).setCell ⟨b,5,none⟩ v5).setCell ⟨b,6,none⟩ v6).setCell ⟨b,7,none⟩ v7).setCell ⟨b,8,none⟩ v8).setCell ⟨b,9,none⟩ v9
theorem BoxL.set10 {u0 u1 u2 u3 u4 u5 u6 u7 u8 u9:Value} (h:BoxL w b [u0,u1,u2,u3,u4,u5,u6,u7,u8,u9]) (v0 v1 v2 v3 v4 v5 v6 v7 v8 v9:Value):
 BoxL ((((((((((w.setCell ⟨b,0,none⟩ v0).setCell ⟨b,1,none⟩ v1).setCell ⟨b,2,none⟩ v2).setCell ⟨b,3,none⟩ v3).setCell ⟨b,4,none⟩ v4).setCell ⟨b,5,none⟩ v5).setCell ⟨b,6,none⟩ v6).setCell ⟨b,7,none⟩ v7).setCell ⟨b,8,none⟩ v8).setCell ⟨b,9,none⟩ v9) b [v0,v1,v2,v3,v4,v5,v6,v7,v8,v9]:=
 ((((((((((h.set 0 v0 (by simp)).set 1 v1 (by simp)).set 2 v2 (by simp)).set 3 v3 (by simp)).set 4 v4 (by simp)).set 5 v5 (by simp)).set 6 v6 (by simp)).set 7 v7 (by simp)).set 8 v8 (by simp)).set 9 v9 (by simp))
end
theorem act_box (w:World) (T A B C F:Int) (H:Bool) (X:Int) (va:Option Addr) (vl vc:Nat) (ma:Option Addr) (ml mc:Nat) (da:Option Addr) (dl dc:Nat):∃W,w.alloc (.cells #[.int .i64 T,.int .u64 A,.int .u64 B,.int .i64 C,.int .i64 F,.bool H,.int .u64 X,.slice va vl vc,.slice ma ml mc,.slice da dl dc] 37)=W∧Below w.heap.size w W∧BoxL W w.heap.size [.int .i64 T,.int .u64 A,.int .u64 B,.int .i64 C,.int .i64 F,.bool H,.int .u64 X,.slice va vl vc,.slice ma ml mc,.slice da dl dc]:=
 ⟨_,rfl,below_alloc _ _,BoxL.new _ _ _⟩
theorem two_act (w:World) (T A B C F:Int) (H:Bool) (X:Int) (va:Option Addr) (vl vc:Nat) (ma:Option Addr) (ml mc:Nat) (da:Option Addr) (dl dc:Nat) (T' A' B' C' F':Int) (H':Bool) (X':Int) (va':Option Addr) (vl' vc':Nat) (ma':Option Addr) (ml' mc':Nat) (da':Option Addr) (dl' dc':Nat):
 ∃W,(w.alloc (.cells #[.int .i64 T,.int .u64 A,.int .u64 B,.int .i64 C,.int .i64 F,.bool H,.int .u64 X,.slice va vl vc,.slice ma ml mc,.slice da dl dc] 37)).alloc (.cells #[.int .i64 T',.int .u64 A',.int .u64 B',.int .i64 C',.int .i64 F',.bool H',.int .u64 X',.slice va' vl' vc',.slice ma' ml' mc',.slice da' dl' dc'] 37)=W∧Below w.heap.size w W ∧
  BoxL W w.heap.size [.int .i64 T,.int .u64 A,.int .u64 B,.int .i64 C,.int .i64 F,.bool H,.int .u64 X,.slice va vl vc,.slice ma ml mc,.slice da dl dc]∧BoxL W (w.heap.size+1) [.int .i64 T',.int .u64 A',.int .u64 B',.int .i64 C',.int .i64 F',.bool H',.int .u64 X',.slice va' vl' vc',.slice ma' ml' mc',.slice da' dl' dc']:=by
 obtain⟨W1,h1,hb1,hx⟩:=act_box w T A B C F H X va vl vc ma ml mc da dl dc
 obtain⟨W2,h2,hb2,hy⟩:=act_box W1 T' A' B' C' F' H' X' va' vl' vc' ma' ml' mc' da' dl' dc'
 have e:W1.heap.size=w.heap.size+1:=by rw[←h1];simp
 rw[e]at hy
 exact⟨W2,by rw[h1,h2],below_on hb1 hb2,hx.below hb2,hy⟩
def rowP (t:Int):List Int:=(row12 t).getD []
def rowB (t:Int):Bool:=(row12 t).isSome||t==25
theorem type_ways (t:Int):t=0∨t=11∨t=12∨t=15∨t=16∨t=17∨t=18∨t=19∨t=20∨t=21∨t=22∨t=23∨t=24∨t=25∨t=26∨t=27∨t=65535∨(t≠0∧t≠11∧t≠12∧t≠15∧t≠16∧t≠17∧t≠18∧t≠19∧t≠20∧t≠21∧t≠22∧t≠23∧t≠24∧t≠25∧t≠26∧t≠27∧t≠65535):=by omega
end Go.Proofs.YthpdkancighknaaGreat
namespace Go.Proofs.YthpdkancighknaaGreat
open Go.RowKit
set_option linter.unusedVariables false
structure ActArg (w:World) (g:Ent12):Prop where
 t : -9223372036854775808≤g.T∧g.T≤9223372036854775807
 a : 0≤g.A∧g.A≤18446744073709551615
 b : 0≤g.B∧g.B≤18446744073709551615
 c : -9223372036854775808≤g.o.C∧g.o.C≤9223372036854775807
 f : -9223372036854775808≤g.o.F∧g.o.F≤9223372036854775807
 x : 0≤g.o.X∧g.o.X≤18446744073709551615
 iv:Ints .u8 w g.va g.o.v
 im:Ints .u8 w g.ma g.o.m
 id:Ints .u8 w g.da g.d
 ov:Octets g.o.v
 om:Octets g.o.m
 od:Octets g.d
 cm:g.o.m.length≤g.mc
theorem ActArg.few {w:World} {g:Ent12} (h:ActArg w g) (hf:(decide (g.o.v.length≤300∧g.o.m.length≤300)&&decide (g.d.length≤500))=true):ActIn w g∧g.o.v.length≤300∧g.o.m.length≤300∧g.d.length≤500:=by
 simp only[Bool.and_eq_true,decide_eq_true_eq]at hf
 exact⟨⟨h.t,h.a,h.b,h.c,h.f,h.x,by omega,by omega,by omega,h.iv,h.im,h.id,h.ov,h.om,h.od,h.cm⟩,hf.1.1,hf.1.2,hf.2⟩
end Go.Proofs.YthpdkancighknaaGreat
namespace Go.Proofs.YthpdkancighknaaGreat
open Go.ChangeShapes Go.WideShapes Go.RowKit Go.Deep
set_option linter.unusedVariables false
section
variable {H:Type} {enc:TypeId × Value→H} {w:World} {base:Nat} {held:Bool}
set_option maxRecDepth 100000 in
theorem open_oxm_cells {fuel:Nat} {v0 v1 v2 v3 v4 v5:Value} {z:DataW H × List MemPlace} (h:DataW.trod enc Tryz.prog w base (fun _=>true) held fuel 35 [v0,v1,v2,v3,v4,v5]=some z):
 ∃(C F:Int) (H:Bool) (X:Int) (va:Option Addr) (vl vc:Nat) (ma:Option Addr) (ml mc:Nat) (x m:List Int),[v0,v1,v2,v3,v4,v5] = [.int .i64 C,.int .i64 F,.bool H,.int .u64 X,.slice va vl vc,.slice ma ml mc]∧OxmIn w C F X va vl vc ma ml mc x m:=by
 have hCi:Tryz.prog.cellsOf 3=1:=by kernel_rfl
 have hCb:Tryz.prog.cellsOf 4=1:=by kernel_rfl
 have hCu:Tryz.prog.cellsOf 32=1:=by kernel_rfl
 have hCs:Tryz.prog.cellsOf 33=1:=by kernel_rfl
 obtain⟨ys,n',_,_,hlen,hyl,hg⟩:=DataW.trod_struct Tryz.underlying35 h
 have get:∀j,j<6 → ∃y,ys[j]? = some y:=fun j hj=>⟨ys[j]'(by rw[hyl];exact hj),List.getElem?_eq_getElem _⟩
 obtain⟨y0,e0⟩:=get 0 (by decide)
 obtain⟨y1,e1⟩:=get 1 (by decide)
 obtain⟨y2,e2⟩:=get 2 (by decide)
 obtain⟨y3,e3⟩:=get 3 (by decide)
 obtain⟨y4,e4⟩:=get 4 (by decide)
 obtain⟨y5,e5⟩:=get 5 (by decide)
 have g0:DataW.trod enc Tryz.prog w base (fun _=>true) held n' 3 [v0]=some y0:=by have h:=hg 0 _ rfl;rw[e0]at h;simpa [hCi,Value.cells]using h
 have g1:DataW.trod enc Tryz.prog w base (fun _=>true) held n' 3 [v1]=some y1:=by have h:=hg 1 _ rfl;rw[e1]at h;simpa [hCi,Value.cells]using h
 have g2:DataW.trod enc Tryz.prog w base (fun _=>true) held n' 4 [v2]=some y2:=by have h:=hg 2 _ rfl;rw[e2]at h;simpa [hCi,hCb,Value.cells]using h
 have g3:DataW.trod enc Tryz.prog w base (fun _=>true) held n' 32 [v3]=some y3:=by have h:=hg 3 _ rfl;rw[e3]at h;simpa [hCi,hCb,hCu,Value.cells]using h
 have g4:DataW.trod enc Tryz.prog w base (fun _=>true) held n' 33 [v4]=some y4:=by have h:=hg 4 _ rfl;rw[e4]at h;simpa [hCi,hCb,hCu,hCs,Value.cells]using h
 have g5:DataW.trod enc Tryz.prog w base (fun _=>true) held n' 33 [v5]=some y5:=by have h:=hg 5 _ rfl;rw[e5]at h;simpa [hCi,hCb,hCu,hCs,Value.cells]using h
 obtain⟨k0,h0,_,u0⟩:=DataW.trod_int Tryz.underlying3 g0
 obtain⟨k1,h1,_,u1⟩:=DataW.trod_int Tryz.underlying3 g1
 obtain⟨k2,h2,_⟩:=DataW.trod_bool Tryz.underlying4 g2
 obtain⟨k3,h3,_,u3⟩:=DataW.trod_int Tryz.underlying32 g3
 obtain⟨a4,n4,c4,l4,rfl,q4,i4,o4,r4,t4⟩:=open_bytes8 g4
 obtain⟨a5,n5,c5,l5,rfl,q5,i5,o5,r5,t5⟩:=open_bytes8 g5
 simp at h0 h1 h2 h3
 refine⟨k0,k1,k2,k3,a4,n4,c4,a5,n5,c5,l4,l5,by rw[h0,h1,h2,h3],⟨?_,?_,?_,q4,q5,i4,i5,o4,o5,⟨r4,t4⟩,⟨r5,t5⟩⟩⟩
 · simp[Lit.wf,IntKind.min,IntKind.max,IntKind.bits,IntKind.signed]at u0;omega
 · simp[Lit.wf,IntKind.min,IntKind.max,IntKind.bits,IntKind.signed]at u1;omega
 · simp[Lit.wf,IntKind.min,IntKind.max,IntKind.bits,IntKind.signed]at u3;omega
end
end Go.Proofs.YthpdkancighknaaGreat
namespace Go.Proofs.YthpdkancighknaaGreat
open Go.RowKit
set_option linter.unusedVariables false
def RowPost12 (l:List Int) (b:Bool) (w:World) (e:Ending) (w':World):Prop:=
 ∃a,e = .returned (.tuple #[.slice a l.length l.length,.bool b])∧Ints .i64 w' a l∧Below w.heap.size w w'
theorem row_lit {f:Nat} {t:Int} {l:List Int} {w:World} (h:callV Tryz.prog w.heap.size f #[.int .i64 t]=some (.tuple #[.slice (some ⟨w.heap.size,0,none⟩) l.length l.length,.bool true],[.cells (l.map (Value.int .i64)).toArray 3])):
 Calls Tryz.prog f #[.int .i64 t] w (RowPost12 l true w):=
 (callV_sound h).mono fun e w' ⟨he,hw⟩=>⟨_,he,by rw[hw];exact ints_lit .i64 w l 3,by rw[hw];exact below_alloc _ _⟩
theorem row_none {f:Nat} {t:Int} {b:Bool} {w:World} (h:callV Tryz.prog w.heap.size f #[.int .i64 t]=some (.tuple #[.slice none 0 0,.bool b],[])):
 Calls Tryz.prog f #[.int .i64 t] w (RowPost12 [] b w):=
 (callV_sound h).mono fun e w' ⟨he,hw⟩=>⟨none,he,Ints.nil _ _ _,by rw[hw];exact Below.refl _ _⟩
set_option maxRecDepth 100000 in
set_option maxHeartbeats 2000000 in
theorem rowOf_any (t:Int) (w:World):Calls Tryz.prog 39 #[.int .i64 t] w (RowPost12 (rowP t) (rowB t) w):=by
 rcases type_ways t with rfl|rfl|rfl|rfl|rfl|rfl|rfl|rfl|rfl|rfl|rfl|rfl|rfl|rfl|rfl|rfl|rfl|h
 · exact row_lit (l:=[4,2,-6]) (by kernel_rfl)
 · exact row_lit (l:=[-4]) (by kernel_rfl)
 · exact row_lit (l:=[-4]) (by kernel_rfl)
 · exact row_lit (l:=[1,-3]) (by kernel_rfl)
 · exact row_lit (l:=[-4]) (by kernel_rfl)
 · exact row_lit (l:=[2,-2]) (by kernel_rfl)
 · exact row_lit (l:=[-4]) (by kernel_rfl)
 · exact row_lit (l:=[2,-2]) (by kernel_rfl)
 · exact row_lit (l:=[2,-2]) (by kernel_rfl)
 · exact row_lit (l:=[4]) (by kernel_rfl)
 · exact row_lit (l:=[4]) (by kernel_rfl)
 · exact row_lit (l:=[1,-3]) (by kernel_rfl)
 · exact row_lit (l:=[-4]) (by kernel_rfl)
 · exact row_none (by kernel_rfl)
 · exact row_lit (l:=[2,-2]) (by kernel_rfl)
 · exact row_lit (l:=[-4]) (by kernel_rfl)
 · exact row_lit (l:=[4]) (by kernel_rfl)
 · have e1:rowP t = []:=by simp[rowP,row12,h]
   have e2:rowB t=false:=by simp[rowB,row12,h]
   rw[e1,e2]
   have c0:(t==0)=false:=by simp[h]
   have c1:(t==11)=false:=by simp[h]
   have c2:(t==12)=false:=by simp[h]
   have c3:(t==15)=false:=by simp[h]
   have c4:(t==16)=false:=by simp[h]
   have c5:(t==17)=false:=by simp[h]
   have c6:(t==18)=false:=by simp[h]
   have c7:(t==19)=false:=by simp[h]
   have c8:(t==20)=false:=by simp[h]
   have c9:(t==21)=false:=by simp[h]
   have c10:(t==22)=false:=by simp[h]
   have c11:(t==23)=false:=by simp[h]
   have c12:(t==24)=false:=by simp[h]
   have c13:(t==25)=false:=by simp[h]
   have c14:(t==26)=false:=by simp[h]
   have c15:(t==27)=false:=by simp[h]
   have c16:(t==65535)=false:=by simp[h]
   clear h e1 e2
   go_enter Tryz.func39,Tryz.ntmps39
   go_wp2_with fail
   go_ret2
   exact⟨none,rfl,Ints.nil _ _ _,Below.refl _ _⟩
def sameO (o p:Ox9):Bool:=sameB o.C o.F o.H o.X p.C p.F p.H p.X o.v o.m p.v p.m
def same12 (a b:Act12):Bool:=a.T==b.T&&a.A==b.A&&a.B==b.B&&sameO a.o b.o&&a.d==b.d
theorem same12_ways (a b:Act12):∃r,same12 a b=r∧(((a.T==b.T)=false∧r=false)∨((a.T==b.T)=true∧(a.A==b.A)=false∧r=false)∨((a.T==b.T)=true∧(a.A==b.A)=true∧(a.B==b.B)=false∧r=false)∨((a.T==b.T)=true∧(a.A==b.A)=true∧(a.B==b.B)=true∧sameO a.o b.o=false∧r=false)∨((a.T==b.T)=true∧(a.A==b.A)=true∧(a.B==b.B)=true∧sameO a.o b.o=true∧r=(a.d==b.d))):=by
 refine⟨_,rfl,?_⟩
 unfold same12
 cases (a.T==b.T)<;>cases (a.A==b.A)<;>cases (a.B==b.B)<;>cases sameO a.o b.o<;>simp
set_option maxRecDepth 100000 in
set_option maxHeartbeats 2000000 in
theorem actSame_any (g g':Ent12) (w:World) (hi:ActIn w g) (hi':ActIn w g'):
 Calls Tryz.prog 53 #[g.val,g'.val] w fun e w'=>e = .returned (.bool (same12 g.act g'.act))∧Below w.heap.size w w':=by
 obtain⟨W,hW,hbW,hx,hy⟩:=two_act w g.T g.A g.B g.o.C g.o.F g.o.H g.o.X g.va g.o.v.length g.vc g.ma g.o.m.length g.mc g.da g.d.length g.dc g'.T g'.A g'.B g'.o.C g'.o.F g'.o.H g'.o.X g'.va g'.o.v.length g'.vc g'.ma g'.o.m.length g'.mc g'.da g'.d.length g'.dc
 have HB0:=hid hbW
 have ID:=hid hi.id
 have ID':=hid hi'.id
 have ld:=hi.ld
 have ld':=hi'.ld
 have lv:=hi.lv
 have lv':=hi'.lv
 have lm:=hi.lm
 have lm':=hi'.lm
 have EO:=hid (fun (n:Wk W)=>same8_any g.o.C g.o.F g.o.H g.o.X g.va g.vc g.ma g.mc g'.o.C g'.o.F g'.o.H g'.o.X g'.va g'.vc g'.ma g'.mc g.o.v g.o.m g'.o.v g'.o.m (by omega) (by omega) (by omega) (by omega) hi.ov hi.om hi'.ov hi'.om n.val ((hi.iv.below HB0.out).below n.bel) ((hi.im.below HB0.out).below n.bel) ((hi'.iv.below HB0.out).below n.bel) ((hi'.im.below HB0.out).below n.bel))
 have ED:=hid (fun (n:Wk W)=>equal8_any g.d g'.d g.da g'.da g.dc g'.dc n.val (by omega) (by omega) hi.od hi'.od ((ID.out.below HB0.out).below n.bel) ((ID'.out.below HB0.out).below n.bel))
 obtain⟨r,hr,hq⟩:=same12_ways g.act g'.act
 rw[hr]
 clear hr hi hi' ld ld' lv lv' lm lm' ID ID' hbW
 obtain⟨T,A,B,⟨C,F,H,X,v,m⟩,va,vc,ma,mc,d,da,dc⟩:=g
 obtain⟨T',A',B',⟨C',F',H',X',v',m'⟩,va',vc',ma',mc',d',da',dc'⟩:=g'
 simp only[Ent12.act,Ent12.val]at *
 obtain⟨so,hso⟩:∃so,sameO ⟨C,F,H,X,v,m⟩ ⟨C',F',H',X',v',m'⟩=so:=⟨_,rfl⟩
 have hso2:sameB C F H X C' F' H' X' v m v' m'=so:=hso
 rw[hso2]at EO
 rw[hso]at hq
 obtain⟨sd,hsd⟩:∃sd,(d==d')=sd:=⟨_,rfl⟩
 rw[hsd]at ED hq
 clear hso hso2 hsd
 have HW:=hid hW
 clear hW
 obtain⟨d0,d1,d2,d3,d4,d5,d6,d7,d8,d9⟩:=hx.ten
 obtain⟨e0,e1,e2,e3,e4,e5,e6,e7,e8,e9⟩:=hy.ten
 rcases hq with⟨h1,rfl⟩|⟨h1,h2,rfl⟩|⟨h1,h2,h3,rfl⟩|⟨h1,h2,h3,rfl,rfl⟩|⟨h1,h2,h3,rfl,rfl⟩
 · go_enter Tryz.func53,Tryz.ntmps53
   go_wp2_with fail
   rw[HW.out]
   go_wp2_with fail
   go_ret
   exact⟨rfl,HB0.out⟩
 · go_enter Tryz.func53,Tryz.ntmps53
   go_wp2_with fail
   rw[HW.out]
   go_wp2_with fail
   go_ret
   exact⟨rfl,HB0.out⟩
 · go_enter Tryz.func53,Tryz.ntmps53
   go_wp2_with fail
   rw[HW.out]
   go_wp2_with fail
   go_ret
   exact⟨rfl,HB0.out⟩
 · go_enter Tryz.func53,Tryz.ntmps53
   go_wp2_with fail
   rw[HW.out]
   go_wp2_with fail
   refine (EO.out ⟨_,Below.refl _ _⟩).mono ?_
   rintro e w1 ⟨rfl,hb1⟩
   have HA1:=hid (below_on (Below.refl W.heap.size W) hb1)
   clear d0 d1 d2 d3 d4 d5 d6 d7 d8 d9 e0 e1 e2 e3 e4 e5 e6 e7 e8 e9 hb1
   obtain⟨d0,d1,d2,d3,d4,d5,d6,d7,d8,d9⟩:=(hx.below HA1.out).ten
   obtain⟨e0,e1,e2,e3,e4,e5,e6,e7,e8,e9⟩:=(hy.below HA1.out).ten
   go_wp2_with fail
   go_ret
   exact⟨rfl,below_on HB0.out HA1.out⟩
 · go_enter Tryz.func53,Tryz.ntmps53
   go_wp2_with fail
   rw[HW.out]
   go_wp2_with fail
   refine (EO.out ⟨_,Below.refl _ _⟩).mono ?_
   rintro e w1 ⟨rfl,hb1⟩
   have HA1:=hid (below_on (Below.refl W.heap.size W) hb1)
   clear d0 d1 d2 d3 d4 d5 d6 d7 d8 d9 e0 e1 e2 e3 e4 e5 e6 e7 e8 e9 hb1
   obtain⟨d0,d1,d2,d3,d4,d5,d6,d7,d8,d9⟩:=(hx.below HA1.out).ten
   obtain⟨e0,e1,e2,e3,e4,e5,e6,e7,e8,e9⟩:=(hy.below HA1.out).ten
   go_wp2_with fail
   refine (ED.out ⟨_,HA1.out⟩).mono ?_
   rintro e w2 ⟨rfl,hb2⟩
   have HA2:=hid (below_on HA1.out hb2)
   clear d0 d1 d2 d3 d4 d5 d6 d7 d8 d9 e0 e1 e2 e3 e4 e5 e6 e7 e8 e9 hb2
   obtain⟨d0,d1,d2,d3,d4,d5,d6,d7,d8,d9⟩:=(hx.below HA2.out).ten
   obtain⟨e0,e1,e2,e3,e4,e5,e6,e7,e8,e9⟩:=(hy.below HA2.out).ten
   go_wp2_with fail
   go_ret
   exact⟨rfl,below_on HB0.out HA2.out⟩
set_option maxRecDepth 100000 in
set_option maxHeartbeats 2000000 in
theorem refActSame_any (g g':Ent12) (w:World) (hi:ActIn w g) (hi':ActIn w g'):
 Calls Tryz.prog 21 #[g.val,g'.val] w fun e w'=>e = .returned (.bool (same12 g.act g'.act))∧Below w.heap.size w w':=by
 obtain⟨W,hW,hbW,hx,hy⟩:=two_act w g.T g.A g.B g.o.C g.o.F g.o.H g.o.X g.va g.o.v.length g.vc g.ma g.o.m.length g.mc g.da g.d.length g.dc g'.T g'.A g'.B g'.o.C g'.o.F g'.o.H g'.o.X g'.va g'.o.v.length g'.vc g'.ma g'.o.m.length g'.mc g'.da g'.d.length g'.dc
 have HB0:=hid hbW
 have ID:=hid hi.id
 have ID':=hid hi'.id
 have ld:=hi.ld
 have ld':=hi'.ld
 have lv:=hi.lv
 have lv':=hi'.lv
 have lm:=hi.lm
 have lm':=hi'.lm
 have EO:=hid (fun (n:Wk W)=>refSame8_any g.o.C g.o.F g.o.H g.o.X g.va g.vc g.ma g.mc g'.o.C g'.o.F g'.o.H g'.o.X g'.va g'.vc g'.ma g'.mc g.o.v g.o.m g'.o.v g'.o.m (by omega) (by omega) (by omega) (by omega) hi.ov hi.om hi'.ov hi'.om n.val ((hi.iv.below HB0.out).below n.bel) ((hi.im.below HB0.out).below n.bel) ((hi'.iv.below HB0.out).below n.bel) ((hi'.im.below HB0.out).below n.bel))
 have ED:=hid (fun (n:Wk W)=>bytes8_any g.d g'.d g.da g'.da g.d.length g'.d.length g.dc g'.dc rfl rfl n.val (by omega) (by omega) ((ID.out.below HB0.out).below n.bel) ((ID'.out.below HB0.out).below n.bel))
 obtain⟨r,hr,hq⟩:=same12_ways g.act g'.act
 rw[hr]
 clear hr hi hi' ld ld' lv lv' lm lm' ID ID' hbW
 obtain⟨T,A,B,⟨C,F,H,X,v,m⟩,va,vc,ma,mc,d,da,dc⟩:=g
 obtain⟨T',A',B',⟨C',F',H',X',v',m'⟩,va',vc',ma',mc',d',da',dc'⟩:=g'
 simp only[Ent12.act,Ent12.val]at *
 obtain⟨so,hso⟩:∃so,sameO ⟨C,F,H,X,v,m⟩ ⟨C',F',H',X',v',m'⟩=so:=⟨_,rfl⟩
 have hso2:sameB C F H X C' F' H' X' v m v' m'=so:=hso
 rw[hso2]at EO
 rw[hso]at hq
 obtain⟨sd,hsd⟩:∃sd,(d==d')=sd:=⟨_,rfl⟩
 rw[hsd]at ED hq
 clear hso hso2 hsd
 have HW:=hid hW
 clear hW
 obtain⟨d0,d1,d2,d3,d4,d5,d6,d7,d8,d9⟩:=hx.ten
 obtain⟨e0,e1,e2,e3,e4,e5,e6,e7,e8,e9⟩:=hy.ten
 rcases hq with⟨h1,rfl⟩|⟨h1,h2,rfl⟩|⟨h1,h2,h3,rfl⟩|⟨h1,h2,h3,rfl,rfl⟩|⟨h1,h2,h3,rfl,rfl⟩
 · go_enter Tryz.func21,Tryz.ntmps21
   go_wp2_with fail
   rw[HW.out]
   go_wp2_with fail
   go_ret
   exact⟨rfl,HB0.out⟩
 · go_enter Tryz.func21,Tryz.ntmps21
   go_wp2_with fail
   rw[HW.out]
   go_wp2_with fail
   go_ret
   exact⟨rfl,HB0.out⟩
 · go_enter Tryz.func21,Tryz.ntmps21
   go_wp2_with fail
   rw[HW.out]
   go_wp2_with fail
   go_ret
   exact⟨rfl,HB0.out⟩
 · go_enter Tryz.func21,Tryz.ntmps21
   go_wp2_with fail
   rw[HW.out]
   go_wp2_with fail
   refine (EO.out ⟨_,Below.refl _ _⟩).mono ?_
   rintro e w1 ⟨rfl,hb1⟩
   have HA1:=hid (below_on (Below.refl W.heap.size W) hb1)
   clear d0 d1 d2 d3 d4 d5 d6 d7 d8 d9 e0 e1 e2 e3 e4 e5 e6 e7 e8 e9 hb1
   obtain⟨d0,d1,d2,d3,d4,d5,d6,d7,d8,d9⟩:=(hx.below HA1.out).ten
   obtain⟨e0,e1,e2,e3,e4,e5,e6,e7,e8,e9⟩:=(hy.below HA1.out).ten
   go_wp2_with fail
   go_ret
   exact⟨rfl,below_on HB0.out HA1.out⟩
 · go_enter Tryz.func21,Tryz.ntmps21
   go_wp2_with fail
   rw[HW.out]
   go_wp2_with fail
   refine (EO.out ⟨_,Below.refl _ _⟩).mono ?_
   rintro e w1 ⟨rfl,hb1⟩
   have HA1:=hid (below_on (Below.refl W.heap.size W) hb1)
   clear d0 d1 d2 d3 d4 d5 d6 d7 d8 d9 e0 e1 e2 e3 e4 e5 e6 e7 e8 e9 hb1
   obtain⟨d0,d1,d2,d3,d4,d5,d6,d7,d8,d9⟩:=(hx.below HA1.out).ten
   obtain⟨e0,e1,e2,e3,e4,e5,e6,e7,e8,e9⟩:=(hy.below HA1.out).ten
   go_wp2_with fail
   refine (ED.out ⟨_,HA1.out⟩).mono ?_
   rintro e w2 ⟨rfl,hb2⟩
   have HA2:=hid (below_on HA1.out hb2)
   clear d0 d1 d2 d3 d4 d5 d6 d7 d8 d9 e0 e1 e2 e3 e4 e5 e6 e7 e8 e9 hb2
   obtain⟨d0,d1,d2,d3,d4,d5,d6,d7,d8,d9⟩:=(hx.below HA2.out).ten
   obtain⟨e0,e1,e2,e3,e4,e5,e6,e7,e8,e9⟩:=(hy.below HA2.out).ten
   go_wp2_with fail
   go_ret
   exact⟨rfl,below_on HB0.out HA2.out⟩
theorem actFew_any (T A B C F:Int) (H:Bool) (X:Int) (va:Option Addr) (vl vc:Nat) (ma:Option Addr) (ml mc:Nat) (da:Option Addr) (dl dc:Nat) (w:World):
 Calls Tryz.prog 9 #[.agg #[.int .i64 T,.int .u64 A,.int .u64 B,.int .i64 C,.int .i64 F,.bool H,.int .u64 X,.slice va vl vc,.slice ma ml mc,.slice da dl dc]] w fun e w'=>e = .returned (.bool (decide (vl≤300∧ml≤300)&&decide (dl≤500)))∧Below w.heap.size w w':=by
 obtain⟨W,hW,hbW,hx⟩:=act_box w T A B C F H X va vl vc ma ml mc da dl dc
 have HW:=hid hW
 have HB:=hid hbW
 have FW:=hid (fun W=>few8_any C F H X va vl vc ma ml mc W)
 obtain⟨d0,d1,d2,d3,d4,d5,d6,d7,d8,d9⟩:=hx.ten
 obtain⟨r,hr⟩:∃r,decide (vl≤300∧ml≤300)=r:=⟨_,rfl⟩
 rw[hr]at FW ⊢
 clear hW hbW hr
 cases r
 · go_enter Tryz.func9,Tryz.ntmps9
   go_wp2_with fail
   rw[HW.out]
   go_wp2_with fail
   refine (FW.out _).mono ?_
   rintro e w1 ⟨rfl,hb⟩
   clear d0 d1 d2 d3 d4 d5 d6 d7 d8 d9
   obtain⟨d0,d1,d2,d3,d4,d5,d6,d7,d8,d9⟩:=(hx.below hb).ten
   go_wp2_with fail
   go_ret
   exact⟨rfl,below_on HB.out hb⟩
 · go_enter Tryz.func9,Tryz.ntmps9
   go_wp2_with fail
   rw[HW.out]
   go_wp2_with fail
   refine (FW.out _).mono ?_
   rintro e w1 ⟨rfl,hb⟩
   clear d0 d1 d2 d3 d4 d5 d6 d7 d8 d9
   obtain⟨d0,d1,d2,d3,d4,d5,d6,d7,d8,d9⟩:=(hx.below hb).ten
   go_wp2_with fail
   go_ret
   exact⟨ret_bool (by simp;try omega),below_on HB.out hb⟩
def strip12 (g:Ent12):Ent12:=
 if g.T=25 then ⟨g.T,g.A,g.B,noOx,none,0,none,0,g.d,g.da,g.dc⟩
 else if g.T=65535 then ⟨g.T,0,g.B,g.o,g.va,g.vc,g.ma,g.mc,[],none,0⟩
 else if g.T=0 then ⟨g.T,0,0,g.o,g.va,g.vc,g.ma,g.mc,g.d,g.da,g.dc⟩
 else if g.T=22∨g.T=21∨g.T=15∨g.T=23∨g.T=17∨g.T=19∨g.T=26∨g.T=20 then ⟨g.T,0,g.B,g.o,g.va,g.vc,g.ma,g.mc,g.d,g.da,g.dc⟩
 else g
def none12 (t:Int):Ent12:=⟨t,0,0,noOx,none,0,none,0,[],none,0⟩
def bare12 (g:Ent12):Bool:=same12 (strip12 g).act (none12 g.T).act
theorem zero_in:(0:Int)≤0∧(0:Int)≤18446744073709551615:=by decide
theorem none_in {w:World} {g:Ent12} (h:ActIn w g):ActIn w (none12 g.T):=
 ⟨h.t,zero_in,zero_in,by simp[none12,noOx],by simp[none12,noOx],zero_in,by simp[none12,noOx],by simp[none12,noOx],by simp[none12,noOx],Ints.nil _ _ _,Ints.nil _ _ _,Ints.nil _ _ _,(by intro x hx;cases hx),(by intro x hx;cases hx),(by intro x hx;cases hx),by simp[none12,noOx]⟩
theorem strip_in {w:World} {g:Ent12} (h:ActIn w g):ActIn w (strip12 g):=by
 unfold strip12
 split
 · exact⟨h.t,h.a,h.b,by simp[noOx],by simp[noOx],zero_in,by simp[noOx],by simp[noOx],h.ld,Ints.nil _ _ _,Ints.nil _ _ _,h.id,(by intro x hx;cases hx),(by intro x hx;cases hx),h.od,by simp[noOx]⟩
 · split
   · exact⟨h.t,zero_in,h.b,h.c,h.f,h.x,h.lv,h.lm,(by simp),h.iv,h.im,Ints.nil _ _ _,h.ov,h.om,(by intro x hx;cases hx),h.cm⟩
   · split
     · exact⟨h.t,zero_in,zero_in,h.c,h.f,h.x,h.lv,h.lm,h.ld,h.iv,h.im,h.id,h.ov,h.om,h.od,h.cm⟩
     · split
       · exact⟨h.t,zero_in,h.b,h.c,h.f,h.x,h.lv,h.lm,h.ld,h.iv,h.im,h.id,h.ov,h.om,h.od,h.cm⟩
       · exact h
set_option maxRecDepth 100000 in
set_option maxHeartbeats 2000000 in
theorem isBare_set (g:Ent12) (w:World) (hi:ActIn w g) (hT:g.T=25):
 Calls Tryz.prog 40 #[g.val] w fun e w'=>e = .returned (.bool (bare12 g))∧Below w.heap.size w w':=by
 have SM:=hid (fun (W:World) (hW:Below w.heap.size w W)=>actSame_any (strip12 g) (none12 g.T) W ((strip_in hi).below hW) ((none_in hi).below hW))
 clear hi
 obtain⟨r,hr⟩:∃r,bare12 g=r:=⟨_,rfl⟩
 rw[show same12 (strip12 g).act (none12 g.T).act=r from hr]at SM
 rw[hr]
 clear hr
 obtain⟨T,A,B,⟨C,F,H,X,v,m⟩,va,vc,ma,mc,d,da,dc⟩:=g
 simp only at *
 subst hT
 unfold Ent12.val
 simp only
 obtain⟨W,hW,hbW,hx⟩:=act_box w 25 A B 0 0 false 0 none 0 0 none 0 0 da d.length dc
 have HW:=hid hW
 have HB:=hid hbW
 clear hW hbW
 go_enter Tryz.func40,Tryz.ntmps40
 go_wp2_with fail
 rw[HW.out]
 refine (SM.out _ HB.out).mono ?_
 rintro e w1 ⟨rfl,hb⟩
 go_wp2_with fail
 go_ret
 exact⟨rfl,below_on HB.out hb⟩
set_option maxRecDepth 100000 in
set_option maxHeartbeats 2000000 in
theorem isBare_exp (g:Ent12) (w:World) (hi:ActIn w g) (hT:g.T=65535):
 Calls Tryz.prog 40 #[g.val] w fun e w'=>e = .returned (.bool (bare12 g))∧Below w.heap.size w w':=by
 have SM:=hid (fun (W:World) (hW:Below w.heap.size w W)=>actSame_any (strip12 g) (none12 g.T) W ((strip_in hi).below hW) ((none_in hi).below hW))
 clear hi
 obtain⟨r,hr⟩:∃r,bare12 g=r:=⟨_,rfl⟩
 rw[show same12 (strip12 g).act (none12 g.T).act=r from hr]at SM
 rw[hr]
 clear hr
 obtain⟨T,A,B,⟨C,F,H,X,v,m⟩,va,vc,ma,mc,d,da,dc⟩:=g
 simp only at *
 subst hT
 unfold Ent12.val
 simp only
 obtain⟨W,hW,hbW,hx⟩:=act_box w 65535 0 B C F H X va v.length vc ma m.length mc none 0 0
 have HW:=hid hW
 have HB:=hid hbW
 clear hW hbW
 go_enter Tryz.func40,Tryz.ntmps40
 go_wp2_with fail
 rw[HW.out]
 refine (SM.out _ HB.out).mono ?_
 rintro e w1 ⟨rfl,hb⟩
 go_wp2_with fail
 go_ret
 exact⟨rfl,below_on HB.out hb⟩
set_option maxRecDepth 100000 in
set_option maxHeartbeats 2000000 in
theorem isBare_out (g:Ent12) (w:World) (hi:ActIn w g) (hT:g.T=0):
 Calls Tryz.prog 40 #[g.val] w fun e w'=>e = .returned (.bool (bare12 g))∧Below w.heap.size w w':=by
 have SM:=hid (fun (W:World) (hW:Below w.heap.size w W)=>actSame_any (strip12 g) (none12 g.T) W ((strip_in hi).below hW) ((none_in hi).below hW))
 clear hi
 obtain⟨r,hr⟩:∃r,bare12 g=r:=⟨_,rfl⟩
 rw[show same12 (strip12 g).act (none12 g.T).act=r from hr]at SM
 rw[hr]
 clear hr
 obtain⟨T,A,B,⟨C,F,H,X,v,m⟩,va,vc,ma,mc,d,da,dc⟩:=g
 simp only at *
 subst hT
 unfold Ent12.val
 simp only
 obtain⟨W,hW,hbW,hx⟩:=act_box w 0 0 0 C F H X va v.length vc ma m.length mc da d.length dc
 have HW:=hid hW
 have HB:=hid hbW
 clear hW hbW
 go_enter Tryz.func40,Tryz.ntmps40
 go_wp2_with fail
 rw[HW.out]
 refine (SM.out _ HB.out).mono ?_
 rintro e w1 ⟨rfl,hb⟩
 go_wp2_with fail
 go_ret
 exact⟨rfl,below_on HB.out hb⟩
set_option maxRecDepth 100000 in
set_option maxHeartbeats 2000000 in
theorem isBare_num22 (g:Ent12) (w:World) (hi:ActIn w g) (hT:g.T=22):
 Calls Tryz.prog 40 #[g.val] w fun e w'=>e = .returned (.bool (bare12 g))∧Below w.heap.size w w':=by
 have SM:=hid (fun (W:World) (hW:Below w.heap.size w W)=>actSame_any (strip12 g) (none12 g.T) W ((strip_in hi).below hW) ((none_in hi).below hW))
 clear hi
 obtain⟨r,hr⟩:∃r,bare12 g=r:=⟨_,rfl⟩
 rw[show same12 (strip12 g).act (none12 g.T).act=r from hr]at SM
 rw[hr]
 clear hr
 obtain⟨T,A,B,⟨C,F,H,X,v,m⟩,va,vc,ma,mc,d,da,dc⟩:=g
 simp only at *
 subst hT
 unfold Ent12.val
 simp only
 obtain⟨W,hW,hbW,hx⟩:=act_box w 22 0 B C F H X va v.length vc ma m.length mc da d.length dc
 have HW:=hid hW
 have HB:=hid hbW
 clear hW hbW
 go_enter Tryz.func40,Tryz.ntmps40
 go_wp2_with fail
 rw[HW.out]
 refine (SM.out _ HB.out).mono ?_
 rintro e w1 ⟨rfl,hb⟩
 go_wp2_with fail
 go_ret
 exact⟨rfl,below_on HB.out hb⟩
set_option maxRecDepth 100000 in
set_option maxHeartbeats 2000000 in
theorem isBare_num21 (g:Ent12) (w:World) (hi:ActIn w g) (hT:g.T=21):
 Calls Tryz.prog 40 #[g.val] w fun e w'=>e = .returned (.bool (bare12 g))∧Below w.heap.size w w':=by
 have SM:=hid (fun (W:World) (hW:Below w.heap.size w W)=>actSame_any (strip12 g) (none12 g.T) W ((strip_in hi).below hW) ((none_in hi).below hW))
 clear hi
 obtain⟨r,hr⟩:∃r,bare12 g=r:=⟨_,rfl⟩
 rw[show same12 (strip12 g).act (none12 g.T).act=r from hr]at SM
 rw[hr]
 clear hr
 obtain⟨T,A,B,⟨C,F,H,X,v,m⟩,va,vc,ma,mc,d,da,dc⟩:=g
 simp only at *
 subst hT
 unfold Ent12.val
 simp only
 obtain⟨W,hW,hbW,hx⟩:=act_box w 21 0 B C F H X va v.length vc ma m.length mc da d.length dc
 have HW:=hid hW
 have HB:=hid hbW
 clear hW hbW
 go_enter Tryz.func40,Tryz.ntmps40
 go_wp2_with fail
 rw[HW.out]
 refine (SM.out _ HB.out).mono ?_
 rintro e w1 ⟨rfl,hb⟩
 go_wp2_with fail
 go_ret
 exact⟨rfl,below_on HB.out hb⟩
set_option maxRecDepth 100000 in
set_option maxHeartbeats 2000000 in
theorem isBare_num15 (g:Ent12) (w:World) (hi:ActIn w g) (hT:g.T=15):
 Calls Tryz.prog 40 #[g.val] w fun e w'=>e = .returned (.bool (bare12 g))∧Below w.heap.size w w':=by
 have SM:=hid (fun (W:World) (hW:Below w.heap.size w W)=>actSame_any (strip12 g) (none12 g.T) W ((strip_in hi).below hW) ((none_in hi).below hW))
 clear hi
 obtain⟨r,hr⟩:∃r,bare12 g=r:=⟨_,rfl⟩
 rw[show same12 (strip12 g).act (none12 g.T).act=r from hr]at SM
 rw[hr]
 clear hr
 obtain⟨T,A,B,⟨C,F,H,X,v,m⟩,va,vc,ma,mc,d,da,dc⟩:=g
 simp only at *
 subst hT
 unfold Ent12.val
 simp only
 obtain⟨W,hW,hbW,hx⟩:=act_box w 15 0 B C F H X va v.length vc ma m.length mc da d.length dc
 have HW:=hid hW
 have HB:=hid hbW
 clear hW hbW
 go_enter Tryz.func40,Tryz.ntmps40
 go_wp2_with fail
 rw[HW.out]
 refine (SM.out _ HB.out).mono ?_
 rintro e w1 ⟨rfl,hb⟩
 go_wp2_with fail
 go_ret
 exact⟨rfl,below_on HB.out hb⟩
set_option maxRecDepth 100000 in
set_option maxHeartbeats 2000000 in
theorem isBare_num23 (g:Ent12) (w:World) (hi:ActIn w g) (hT:g.T=23):
 Calls Tryz.prog 40 #[g.val] w fun e w'=>e = .returned (.bool (bare12 g))∧Below w.heap.size w w':=by
 have SM:=hid (fun (W:World) (hW:Below w.heap.size w W)=>actSame_any (strip12 g) (none12 g.T) W ((strip_in hi).below hW) ((none_in hi).below hW))
 clear hi
 obtain⟨r,hr⟩:∃r,bare12 g=r:=⟨_,rfl⟩
 rw[show same12 (strip12 g).act (none12 g.T).act=r from hr]at SM
 rw[hr]
 clear hr
 obtain⟨T,A,B,⟨C,F,H,X,v,m⟩,va,vc,ma,mc,d,da,dc⟩:=g
 simp only at *
 subst hT
 unfold Ent12.val
 simp only
 obtain⟨W,hW,hbW,hx⟩:=act_box w 23 0 B C F H X va v.length vc ma m.length mc da d.length dc
 have HW:=hid hW
 have HB:=hid hbW
 clear hW hbW
 go_enter Tryz.func40,Tryz.ntmps40
 go_wp2_with fail
 rw[HW.out]
 refine (SM.out _ HB.out).mono ?_
 rintro e w1 ⟨rfl,hb⟩
 go_wp2_with fail
 go_ret
 exact⟨rfl,below_on HB.out hb⟩
set_option maxRecDepth 100000 in
set_option maxHeartbeats 2000000 in
theorem isBare_num17 (g:Ent12) (w:World) (hi:ActIn w g) (hT:g.T=17):
 Calls Tryz.prog 40 #[g.val] w fun e w'=>e = .returned (.bool (bare12 g))∧Below w.heap.size w w':=by
 have SM:=hid (fun (W:World) (hW:Below w.heap.size w W)=>actSame_any (strip12 g) (none12 g.T) W ((strip_in hi).below hW) ((none_in hi).below hW))
 clear hi
 obtain⟨r,hr⟩:∃r,bare12 g=r:=⟨_,rfl⟩
 rw[show same12 (strip12 g).act (none12 g.T).act=r from hr]at SM
 rw[hr]
 clear hr
 obtain⟨T,A,B,⟨C,F,H,X,v,m⟩,va,vc,ma,mc,d,da,dc⟩:=g
 simp only at *
 subst hT
 unfold Ent12.val
 simp only
 obtain⟨W,hW,hbW,hx⟩:=act_box w 17 0 B C F H X va v.length vc ma m.length mc da d.length dc
 have HW:=hid hW
 have HB:=hid hbW
 clear hW hbW
 go_enter Tryz.func40,Tryz.ntmps40
 go_wp2_with fail
 rw[HW.out]
 refine (SM.out _ HB.out).mono ?_
 rintro e w1 ⟨rfl,hb⟩
 go_wp2_with fail
 go_ret
 exact⟨rfl,below_on HB.out hb⟩
set_option maxRecDepth 100000 in
set_option maxHeartbeats 2000000 in
theorem isBare_num19 (g:Ent12) (w:World) (hi:ActIn w g) (hT:g.T=19):
 Calls Tryz.prog 40 #[g.val] w fun e w'=>e = .returned (.bool (bare12 g))∧Below w.heap.size w w':=by
 have SM:=hid (fun (W:World) (hW:Below w.heap.size w W)=>actSame_any (strip12 g) (none12 g.T) W ((strip_in hi).below hW) ((none_in hi).below hW))
 clear hi
 obtain⟨r,hr⟩:∃r,bare12 g=r:=⟨_,rfl⟩
 rw[show same12 (strip12 g).act (none12 g.T).act=r from hr]at SM
 rw[hr]
 clear hr
 obtain⟨T,A,B,⟨C,F,H,X,v,m⟩,va,vc,ma,mc,d,da,dc⟩:=g
 simp only at *
 subst hT
 unfold Ent12.val
 simp only
 obtain⟨W,hW,hbW,hx⟩:=act_box w 19 0 B C F H X va v.length vc ma m.length mc da d.length dc
 have HW:=hid hW
 have HB:=hid hbW
 clear hW hbW
 go_enter Tryz.func40,Tryz.ntmps40
 go_wp2_with fail
 rw[HW.out]
 refine (SM.out _ HB.out).mono ?_
 rintro e w1 ⟨rfl,hb⟩
 go_wp2_with fail
 go_ret
 exact⟨rfl,below_on HB.out hb⟩
set_option maxRecDepth 100000 in
set_option maxHeartbeats 2000000 in
theorem isBare_num26 (g:Ent12) (w:World) (hi:ActIn w g) (hT:g.T=26):
 Calls Tryz.prog 40 #[g.val] w fun e w'=>e = .returned (.bool (bare12 g))∧Below w.heap.size w w':=by
 have SM:=hid (fun (W:World) (hW:Below w.heap.size w W)=>actSame_any (strip12 g) (none12 g.T) W ((strip_in hi).below hW) ((none_in hi).below hW))
 clear hi
 obtain⟨r,hr⟩:∃r,bare12 g=r:=⟨_,rfl⟩
 rw[show same12 (strip12 g).act (none12 g.T).act=r from hr]at SM
 rw[hr]
 clear hr
 obtain⟨T,A,B,⟨C,F,H,X,v,m⟩,va,vc,ma,mc,d,da,dc⟩:=g
 simp only at *
 subst hT
 unfold Ent12.val
 simp only
 obtain⟨W,hW,hbW,hx⟩:=act_box w 26 0 B C F H X va v.length vc ma m.length mc da d.length dc
 have HW:=hid hW
 have HB:=hid hbW
 clear hW hbW
 go_enter Tryz.func40,Tryz.ntmps40
 go_wp2_with fail
 rw[HW.out]
 refine (SM.out _ HB.out).mono ?_
 rintro e w1 ⟨rfl,hb⟩
 go_wp2_with fail
 go_ret
 exact⟨rfl,below_on HB.out hb⟩
set_option maxRecDepth 100000 in
set_option maxHeartbeats 2000000 in
theorem isBare_num20 (g:Ent12) (w:World) (hi:ActIn w g) (hT:g.T=20):
 Calls Tryz.prog 40 #[g.val] w fun e w'=>e = .returned (.bool (bare12 g))∧Below w.heap.size w w':=by
 have SM:=hid (fun (W:World) (hW:Below w.heap.size w W)=>actSame_any (strip12 g) (none12 g.T) W ((strip_in hi).below hW) ((none_in hi).below hW))
 clear hi
 obtain⟨r,hr⟩:∃r,bare12 g=r:=⟨_,rfl⟩
 rw[show same12 (strip12 g).act (none12 g.T).act=r from hr]at SM
 rw[hr]
 clear hr
 obtain⟨T,A,B,⟨C,F,H,X,v,m⟩,va,vc,ma,mc,d,da,dc⟩:=g
 simp only at *
 subst hT
 unfold Ent12.val
 simp only
 obtain⟨W,hW,hbW,hx⟩:=act_box w 20 0 B C F H X va v.length vc ma m.length mc da d.length dc
 have HW:=hid hW
 have HB:=hid hbW
 clear hW hbW
 go_enter Tryz.func40,Tryz.ntmps40
 go_wp2_with fail
 rw[HW.out]
 refine (SM.out _ HB.out).mono ?_
 rintro e w1 ⟨rfl,hb⟩
 go_wp2_with fail
 go_ret
 exact⟨rfl,below_on HB.out hb⟩
set_option maxRecDepth 100000 in
set_option maxHeartbeats 2000000 in
theorem isBare_else (g:Ent12) (w:World) (hi:ActIn w g) (hT:g.T≠25∧g.T≠65535∧g.T≠0∧g.T≠22∧g.T≠21∧g.T≠15∧g.T≠23∧g.T≠17∧g.T≠19∧g.T≠26∧g.T≠20):
 Calls Tryz.prog 40 #[g.val] w fun e w'=>e = .returned (.bool (bare12 g))∧Below w.heap.size w w':=by
 have SM:=hid (fun (W:World) (hW:Below w.heap.size w W)=>actSame_any (strip12 g) (none12 g.T) W ((strip_in hi).below hW) ((none_in hi).below hW))
 clear hi
 obtain⟨r,hr⟩:∃r,bare12 g=r:=⟨_,rfl⟩
 rw[show same12 (strip12 g).act (none12 g.T).act=r from hr]at SM
 rw[hr]
 clear hr
 obtain⟨T,A,B,⟨C,F,H,X,v,m⟩,va,vc,ma,mc,d,da,dc⟩:=g
 simp only at *
 have es:strip12 ⟨T,A,B,⟨C,F,H,X,v,m⟩,va,vc,ma,mc,d,da,dc⟩=⟨T,A,B,⟨C,F,H,X,v,m⟩,va,vc,ma,mc,d,da,dc⟩:=by simp[strip12,hT]
 rw[es]at SM
 have c0:(T==25)=false:=by simp[hT]
 have c1:(T==65535)=false:=by simp[hT]
 have c2:(T==0)=false:=by simp[hT]
 have c3:(T==22)=false:=by simp[hT]
 have c4:(T==21)=false:=by simp[hT]
 have c5:(T==15)=false:=by simp[hT]
 have c6:(T==23)=false:=by simp[hT]
 have c7:(T==17)=false:=by simp[hT]
 have c8:(T==19)=false:=by simp[hT]
 have c9:(T==26)=false:=by simp[hT]
 have c10:(T==20)=false:=by simp[hT]
 clear hT es
 unfold Ent12.val
 simp only
 obtain⟨W,hW,hbW,hx⟩:=act_box w T A B C F H X va v.length vc ma m.length mc da d.length dc
 have HW:=hid hW
 have HB:=hid hbW
 clear hW hbW
 go_enter Tryz.func40,Tryz.ntmps40
 go_wp2_with fail
 rw[HW.out]
 refine (SM.out _ HB.out).mono ?_
 rintro e w1 ⟨rfl,hb⟩
 go_wp2_with fail
 go_ret
 exact⟨rfl,below_on HB.out hb⟩
theorem isBare_any (g:Ent12) (w:World) (hi:ActIn w g):
 Calls Tryz.prog 40 #[g.val] w fun e w'=>e = .returned (.bool (bare12 g))∧Below w.heap.size w w':=by
 rcases (show g.T=25∨g.T=65535∨g.T=0∨g.T=22∨g.T=21∨g.T=15∨g.T=23∨g.T=17∨g.T=19∨g.T=26∨g.T=20∨(g.T≠25∧g.T≠65535∧g.T≠0∧g.T≠22∧g.T≠21∧g.T≠15∧g.T≠23∧g.T≠17∧g.T≠19∧g.T≠26∧g.T≠20) by omega) with h|h|h|h|h|h|h|h|h|h|h|h
 · exact isBare_set g w hi h
 · exact isBare_exp g w hi h
 · exact isBare_out g w hi h
 · exact isBare_num22 g w hi h
 · exact isBare_num21 g w hi h
 · exact isBare_num15 g w hi h
 · exact isBare_num23 g w hi h
 · exact isBare_num17 g w hi h
 · exact isBare_num19 g w hi h
 · exact isBare_num26 g w hi h
 · exact isBare_num20 g w hi h
 · exact isBare_else g w hi h
end Go.Proofs.YthpdkancighknaaGreat
