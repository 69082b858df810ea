/- Put together out of several texts. -/
import Derived.Test.YthpdkancighknaaGreatA3
namespace Go.Proofs.YthpdkancighknaaGreat
open Go.RowKit
set_option linter.unusedVariables false
structure Ox9 where
 C:Int
 F:Int
 H:Bool
 X:Int
 v:List Int
 m:List Int
def sat9 (d:Int) (vals:List Int) (x:Ox9):Bool:=
 x.C==32768&&(x.F==d&&(if vals = [] then x.v.any (fun k=>k != 0) else (!x.H&&vals.any (fun k=>x.v==bytesL k (fld d).z))))
def asks9 (o:Ox9):Bool:=o.C==32768&&(decide (0≤o.F∧o.F<40)&&decide (0≤(fld o.F).d))
def met9 (l:List Ox9) (o:Ox9):Bool:=!asks9 o||l.any (sat9 (fld o.F).d (fld o.F).v)
def alike9 (a b:Ox9):Bool:=alikeB a.C a.F a.X b.C b.F b.X
def twice9 (l:List Ox9) (o:Ox9):Bool:=l.any (fun x=>alike9 x o)
def chk9 (pre:List Ox9):List Ox9→Int × Int
 | []=>(0,0)
 | o::r=>if twice9 pre o then (pre.length,1035) else if met9 pre o=false then (pre.length,1034) else chk9 (pre ++ [o]) r
def check9 (l:List Ox9):Int × Int:=chk9 [] l
def asked9 (l:List Ox9) (n:Int):Bool:=l.any (fun o=>o.C==32768&&(needL o.F).contains n)
def has9 (l:List Ox9) (n:Int):Bool:=l.any (fun o=>o.C==32768&&o.F==n)
def missing9 (l:List Ox9):List Int:=((List.range 40).map (fun (k:Nat)=>(k:Int))).filter (fun n=>asked9 l n && !has9 l n)
def before9 (a b:Ox9):Bool:=if a.C≠b.C then decide (a.C<b.C) else if a.F≠b.F then decide (a.F<b.F) else decide (a.X<b.X)
def ins9 (o:Ox9):List Ox9→List Ox9
 | []=>[o]
 | x::r=>if before9 o x then o::x::r else x::ins9 o r
def sort9 (l:List Ox9):List Ox9:=l.foldl (fun out o=>ins9 o out) []
def Sorted9 (l:List Ox9):Prop:=l.Pairwise (fun a b=>before9 b a=false)
def Good9 (pre l:List Ox9):Prop:=∀i,(hi:i<l.length)→twice9 (pre++l.take i) l[i]=false∧met9 (pre++l.take i) l[i]=true
end Go.Proofs.YthpdkancighknaaGreat
namespace Go.Proofs.YthpdkancighknaaGreat
open Go.RowKit
def same9 (a b:Ox9):Bool:=sameB a.C a.F a.H a.X b.C b.F b.H b.X a.v a.m b.v b.m
theorem same9_iff (a b:Ox9):same9 a b=true↔a=b:=by
 obtain⟨C,F,H,X,v,m⟩:=a
 obtain⟨C',F',H',X',v',m'⟩:=b
 simp only[same9,sameB,alikeB,Bool.and_eq_true,beq_iff_eq,Ox9.mk.injEq]
 constructor
 · rintro⟨⟨⟨⟨⟨a,b⟩,c⟩,d⟩,e⟩,f⟩
   exact⟨a,b,d,c,e,f⟩
 · rintro⟨a,b,d,c,e,f⟩
   exact⟨⟨⟨⟨⟨a,b⟩,c⟩,d⟩,e⟩,f⟩
instance:DecidableEq Ox9:=fun a b=>if h:same9 a b=true then .isTrue ((same9_iff a b).1 h) else .isFalse fun e=>h ((same9_iff a b).2 e)
end Go.Proofs.YthpdkancighknaaGreat
