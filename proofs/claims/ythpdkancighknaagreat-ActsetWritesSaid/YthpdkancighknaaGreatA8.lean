/- Put together out of several texts. -/
import Derived.Test.YthpdkancighknaaGreatA7
import Derived.Test.YthpdkancighknaaGreatA3
namespace Go.Proofs.YthpdkancighknaaGreat
open Go.RowKit
set_option linter.unusedVariables false
def bytes10 (o:Ox9):List Int:=oxmBytes o.C o.F o.H o.X o.v o.m
def right10 (o:Ox9):Bool:=rightB o.C o.F o.H o.X o.v o.m
def body10 (l:List Ox9):List Int:=l.flatMap bytes10
def zeros10 (n:Nat):Nat:=(8-n%8)%8
def len10 (l:List Ox9):Nat:=4+(body10 l).length
def head10 (n:Nat):List Int:=bytesL 1 2++(bytesL (n:Int) 2 ++ [])
def match10 (l:List Ox9):List Int:=head10 (len10 l)++body10 l++List.replicate (zeros10 (len10 l)) 0
def isMatch10 (l:List Ox9):Bool:=l.all right10&&((check9 l).2==0)
def ox10 (o:Oxm8):Ox9:=⟨o.C,o.F,o.H,o.X,o.v,o.m⟩
def valsF:Nat→List Int→List Ox9 × Int
 | 0,_=>([],0)
 | k+1,b=>if b = [] then ([],0) else match decL b with
   | .error q=>([],q)
   | .ok o=>(ox10 o::(valsF k (b.drop o.n)).1,(valsF k (b.drop o.n)).2)
def vals10 (b:List Int):List Ox9 × Int:=valsF b.length b
def valE (b:List Int):Int:=if (check9 (vals10 b).1).2≠0 then (check9 (vals10 b).1).2 else (vals10 b).2
def num10 (b:List Int):Int:=numL ((b.drop 2).take 2)
def matchL (b:List Int):Except Int (List Ox9 × Nat):=
 if b.length<4 then .error 1026
 else if numL (b.take 2)≠1 then .error 1025
 else if num10 b<4∨65528<num10 b∨b.length<(num10 b).toNat+zeros10 (num10 b).toNat then .error 1026
 else if valE ((b.take (num10 b).toNat).drop 4)≠0 then .error (valE ((b.take (num10 b).toNat).drop 4))
 else if (((b.drop (num10 b).toNat).take (zeros10 (num10 b).toNat)).any (fun x=>x != 0))=true then .error 1026
 else .ok ((vals10 ((b.take (num10 b).toNat).drop 4)).1,(num10 b).toNat+zeros10 (num10 b).toNat)
end Go.Proofs.YthpdkancighknaaGreat
