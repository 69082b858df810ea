/- Put together out of several texts. -/
import Derived.Test.YthpdkancighknaaGreatA1
import Derived.Test.YthpdkancighknaaGreatA6
import Derived.Test.YthpdkancighknaaGreatA5
import Derived.OneCell
import Derived.Test.YthpdkancighknaaGreatA4
import Derived.Deep.RegionWith
import Derived.Deep.RegionHeld3
import Derived.Deep.DeepCutAuto
import Derived.Deep.CutBlock
import Derived.StillTailTactics
namespace Go.Proofs.YthpdkancighknaaGreat
open Go.RowKit
set_option maxRecDepth 100000
def shV (L S:Int) (P:Bool) (B O:Int):Value:=.agg #[.int .i64 L,.int .i64 S,.bool P,.int .i64 B,.int .i64 O]
def MayS (L S B O:Int):Prop:=4≤L∧L≤60000∧1≤S∧S≤64∧B≠0∧O≠0
structure ShAt (w:World) (b:Nat) (L S:Int) (P:Bool) (B O:Int):Prop where
 c0:w.cell? ⟨b,0,none⟩=some (.int .i64 L)
 c1:w.cell? ⟨b,1,none⟩=some (.int .i64 S)
 c2:w.cell? ⟨b,2,none⟩=some (.bool P)
 c3:w.cell? ⟨b,3,none⟩=some (.int .i64 B)
 c4:w.cell? ⟨b,4,none⟩=some (.int .i64 O)
def lenOk (L S:Nat) (P:Bool) (n:Nat):Bool:=decide (L≤n)&&(P||n%S==0)
def zer (S:Nat) (P:Bool) (n:Nat):Nat:=if P=false∨n%S=0 then 0 else S-n%S
def BodyPost (w:World) (out:List Int) (e:Ending) (w':World):Prop:=
 ∃k,e = .returned (.tuple #[.slice (some ⟨k,0,none⟩) out.length out.length,.int .i64 0])∧w.heap.size≤k∧Ints .u8 w' (some ⟨k,0,none⟩) out∧Below w.heap.size w w'
structure Holds (w:World) (a:Option Addr) (c:Nat) (l:List Int):Prop where
 cap:l.length≤c
 max:c≤9223372036854775807
 ints:Ints .u8 w a l
 oct:Octets l
 shape : 0<c → ∃b off,a=some ⟨b,off,none⟩
structure Newly (w w':World) (a:Option Addr) (c:Nat) (l:List Int):Prop where
 holds:Holds w' a c l
 far:a=none ∨ ∃q,a=some ⟨q,0,none⟩∧w.heap.size≤q
def refV (a:Option Addr) (m c:Nat) (r s o f:Int):Value:=.agg #[.slice a m c,.int .i64 r,.int .i64 s,.int .i64 o,.int .i64 f]
def oneL (L S:Nat) (P:Bool) (B O:Int) (b:List Int):Except Int (Int × List Int × Nat):=
 if b.length<4 then .error B
 else if lenOk L S P (numL ((b.drop 2).take 2)).toNat=false then .error B
 else if b.length<(numL ((b.drop 2).take 2)).toNat+zer S P (numL ((b.drop 2).take 2)).toNat then .error B
 else if zeros ((b.drop (numL ((b.drop 2).take 2)).toNat).take (zer S P (numL ((b.drop 2).take 2)).toNat))=false then .error O
 else .ok (numL (b.take 2),(b.drop 4).take ((numL ((b.drop 2).take 2)).toNat-4),(numL ((b.drop 2).take 2)).toNat+zer S P (numL ((b.drop 2).take 2)).toNat)
def OnePost (w:World) (r:Except Int (Int × List Int × Nat)) (e:Ending) (w':World):Prop:=
 match r with
 | .error q=>e = .returned (.tuple #[.agg #[.int .i64 0,.slice none 0 0],.int .i64 0,.int .i64 q])∧Below w.heap.size w w'
 | .ok (t,x,n)=>∃a c,e = .returned (.tuple #[.agg #[.int .i64 t,.slice a x.length c],.int .i64 n,.int .i64 0])∧x.length≤c∧c≤9223372036854775807∧Ints .u8 w' a x∧(a=none ∨ ∃k,a=some ⟨k,0,none⟩∧w.heap.size≤k)∧Below w.heap.size w w'
structure Two (w:World) (b:Nat) (v0 v1:Value):Prop where
 c0:w.cell? ⟨b,0,none⟩=some v0
 c1:w.cell? ⟨b,1,none⟩=some v1
 f0:w.frozen? ⟨b,0,none⟩=false
 f1:w.frozen? ⟨b,1,none⟩=false
end Go.Proofs.YthpdkancighknaaGreat
namespace Go.Proofs.YthpdkancighknaaGreat
open Go.RowKit
set_option maxRecDepth 100000
def after (pre:List (Int × List Int)):Except Int (List (Int × List Int))→Except Int (List (Int × List Int))
 | .error q=>.error q
 | .ok r=>.ok (pre++r)
def cutF (L S:Nat) (P:Bool) (B O:Int):Nat→List Int→Except Int (List (Int × List Int))
 | 0,_=>.ok []
 | k+1,b=>
   if b = [] then .ok []
   else match oneL L S P B O b with
    | .error q=>.error q
    | .ok (t,x,n)=>after [(t,x)] (cutF L S P B O k (b.drop n))
def cutL (L S:Nat) (P:Bool) (B O:Int) (b:List Int):Except Int (List (Int × List Int)):=cutF L S P B O b.length b
section
variable {L S:Nat} {P:Bool} {B O:Int}
end
structure Thing where
 t:Int
 x:List Int
 a:Option Addr
 c:Nat
def Thing.val (h:Thing):Int × List Int:=(h.t,h.x)
def Thing.v (h:Thing):Value:=.agg #[.int .i64 h.t,.slice h.a h.x.length h.c]
structure Thing.ok (B:Nat) (h:Thing) (w:World):Prop where
 cap:h.x.length≤h.c
 max:h.c≤9223372036854775807
 ints:Ints .u8 w h.a h.x
 far:h.a=none ∨ ∃k,h.a=some ⟨k,0,none⟩∧B≤k
end Go.Proofs.YthpdkancighknaaGreat
namespace Go.Proofs.YthpdkancighknaaGreat
open Go.RowKit
set_option maxRecDepth 100000
attribute [local go_sem] Oper.semAt_some
def Reads (p s:Nat) (a:Option Addr) (b:List Int) (k:Nat):Prop:=k=p∨k=s∨(b ≠ [] ∧ ∃q:Addr,a=some q∧k=q.block)
structure Iter (L S:Nat) (P:Bool) (B O:Int) (b:List Int) (a:Option Addr) (c p s:Nat) (at_:Nat) (pre:List Thing) (w:World):Prop where
 le:at_≤b.length
 few:pre.length≤at_
 cut:Hid (cutL L S P B O b=after (pre.map Thing.val) (cutL L S P B O (b.drop at_)))
 shape:ShAt w s L S P B O
 box:w.cell? ⟨p,0,none⟩=some (.slice a b.length c)
 holds:Holds w a c b
 hp:p<w.heap.size
 hs:s<w.heap.size
structure Told (B:Nat) (t:Int) (x:List Int) (X:Nat) (a:Option Addr) (c:Nat) (wr wx:World):Prop where
 two:Two wx X (.int .i64 t) (.slice a x.length c)
 ok:Thing.ok B ⟨t,x,a,c⟩ wx
 bel:Below wr.heap.size wr wx
end Go.Proofs.YthpdkancighknaaGreat
namespace Go.Proofs.YthpdkancighknaaGreat
open Go.RowKit
set_option maxRecDepth 100000
def Thing.cs (h:Thing):List Value:=[.int .i64 h.t,.slice h.a h.x.length h.c]
def thingCells (l:List Thing):List Value:=l.flatMap Thing.cs
def Items (w:World) (a:Option Addr) (l:List Thing):Prop:=
 ∀i,(hi:i<l.length) → ∃b off,a=some ⟨b,off,none⟩∧w.cell? ⟨b,off+i*2,none⟩=some (.int .i64 l[i].t)∧w.cell? ⟨b,off+i*2+1,none⟩=some (.slice l[i].a l[i].x.length l[i].c)
end Go.Proofs.YthpdkancighknaaGreat
namespace Go.Proofs.YthpdkancighknaaGreat
open Go.RowKit
set_option maxRecDepth 100000
attribute [local go_sem] Oper.semAt_some
def CutPost (w:World) (r:Except Int (List (Int × List Int))) (e:Ending) (w':World):Prop:=
 match r with
 | .error q=>e = .returned (.tuple #[.slice none 0 0,.int .i64 q])∧Below w.heap.size w w'
 | .ok xs=>∃(l:List Thing) (a:Option Addr) (c:Nat),l.map Thing.val=xs∧e = .returned (.tuple #[.slice a l.length c,.int .i64 0])∧l.length≤c∧c≤9223372036854775807∧Items w' a l∧(∀h∈l,Thing.ok w.heap.size h w')∧(∀q:Addr,a=some q→w.heap.size≤q.block∧q.block<w'.heap.size)∧Below w.heap.size w w'
structure CutAt (T:TypeId) (w0:World) (B1 X R4 R5:Nat) (pre:List Thing) (W:World):Prop where
 v:∃v,W.cell? ⟨X,0,none⟩=some v∧W.ownsRow 0 T 2 v pre.length (thingCells pre)∧(∀g,v.ownBlock=some g→B1≤g)∧(pre = []→v.ownBlock=none)
 fx:W.frozen? ⟨X,0,none⟩=false
 c4:W.cell? ⟨R4,0,none⟩=some (.slice none 0 0)
 f4:W.frozen? ⟨R4,0,none⟩=false
 c5:W.cell? ⟨R5,0,none⟩=some (.int .i64 0)
 f5:W.frozen? ⟨R5,0,none⟩=false
 ok:∀h∈pre,Thing.ok B1 h W
 bel:Below w0.heap.size w0 W
structure One1 (w:World) (b:Nat) (v:Value):Prop where
 c:w.cell? ⟨b,0,none⟩=some v
 f:w.frozen? ⟨b,0,none⟩=false
end Go.Proofs.YthpdkancighknaaGreat
namespace Go.Proofs.YthpdkancighknaaGreat
open Go.RowKit
set_option maxRecDepth 100000
def writeL (L S:Nat) (P:Bool) (t:Int) (x:List Int):Except Int (List Int):=
 if lenOk L S P (4+x.length)=true∧0≤t∧t<65536∧4+x.length<65536 then .ok (bytesL t 2++bytesL ((4+x.length:Nat):Int) 2++x++List.replicate (zer S P (4+x.length)) 0) else .error 10001
def WritePost (w:World) (r:Except Int (List Int)) (e:Ending) (w':World):Prop:=
 match r with
 | .error q=>e = .returned (.tuple #[.slice none 0 0,.int .i64 q])∧Below w.heap.size w w'
 | .ok bs=>∃k,e = .returned (.tuple #[.slice (some ⟨k,0,none⟩) bs.length bs.length,.int .i64 0])∧w.heap.size≤k∧bs.length≤9223372036854775807∧Ints .u8 w' (some ⟨k,0,none⟩) bs∧Below w.heap.size w w'
structure WAt (w0:World) (L S:Int) (P:Bool) (B O t:Int) (x:List Int) (a:Option Addr) (c:Nat) (g m:Nat) (p:Option Nat) (w:World):Prop where
 sh:ShAt w w0.heap.size L S P B O
 tw:Two w (w0.heap.size+1) (.int .i64 t) (.slice a x.length c)
 ints:Ints .u8 w a x
 bel:Below w0.heap.size w0 w
 base:∀k,Foot g m p k→w0.heap.size+2≤k
section
variable {w0 w w':World} {L S:Int} {P:Bool} {B O t:Int} {x:List Int} {a:Option Addr} {c g m:Nat} {p p':Option Nat}
end
end Go.Proofs.YthpdkancighknaaGreat
namespace Go.Proofs.YthpdkancighknaaGreat
open Go.RowKit
set_option maxRecDepth 100000
attribute [local go_sem] Oper.semAt_some
def afterB (pre:List (List Int)):Except Int (List (List Int))→Except Int (List (List Int))
 | .error q=>.error q
 | .ok r=>.ok (pre++r)
def joinL (L S:Nat) (P:Bool):List (Int × List Int)→Except Int (List (List Int))
 | []=>.ok []
 | h::r=>match writeL L S P h.1 h.2 with
   | .error q=>.error q
   | .ok b=>afterB [b] (joinL L S P r)
structure Chunk where
 b:List Int
 k:Nat
def Chunk.v (h:Chunk):Value:=.slice (some ⟨h.k,0,none⟩) h.b.length h.b.length
structure Chunk.ok (B:Nat) (h:Chunk) (w:World):Prop where
 max:h.b.length≤65600
 ints:Ints .u8 w (some ⟨h.k,0,none⟩) h.b
 far:B≤h.k
structure Thing.fits (B:Nat) (h:Thing):Prop where
 len:h.x.length≤1000000
 cap:h.x.length≤h.c
 max:h.c≤9223372036854775807
 lo : -9223372036854775808≤h.t
 hi:h.t≤9223372036854775807
 far:h.x ≠ [] → ∀q:Addr,h.a=some q→q.block<B
def ReadsB (p s Bin:Nat) (k:Nat):Prop:=k=p∨k=s∨k<Bin
structure WIter (L S:Nat) (P:Bool) (B O:Int) (l:List Thing) (a:Option Addr) (s Bin at_:Nat) (pre:List Chunk) (w:World):Prop where
 le:at_≤l.length
 few:pre.length≤at_
 join:Hid (joinL L S P (l.map Thing.val)=afterB (pre.map Chunk.b) (joinL L S P ((l.drop at_).map Thing.val)))
 shape:ShAt w s L S P B O
 items:Items w a l
 bodies:∀h∈l,Ints .u8 w h.a h.x
 hs:s<w.heap.size
 ha:l ≠ [] → ∀q:Addr,a=some q→q.block<Bin
 hBin:Bin≤w.heap.size
section
variable {L S:Nat} {P:Bool} {B O:Int} {l:List Thing} {a:Option Addr} {s Bin at_:Nat} {pre:List Chunk} {w w':World}
end
end Go.Proofs.YthpdkancighknaaGreat
namespace Go.Proofs.YthpdkancighknaaGreat
open Go.RowKit
set_option maxRecDepth 100000
section
variable {L S:Nat} {P:Bool} {B O:Int}
def ahead (cs:List (List Int)) (i:Nat):Nat:=((cs.take i).flatten).length
end
end Go.Proofs.YthpdkancighknaaGreat
