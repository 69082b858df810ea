/- Put together out of several texts. -/
import Derived.Test.YthpdkancighknaaGreatA10
namespace Go.Proofs.YthpdkancighknaaGreat
open Go.RowKit
set_option linter.unusedVariables false
set_option maxRecDepth 100000
def raw13:List Act12→Option (List Int)
 | []=>some []
 | a::r=>match act12 a,raw13 r with
   | some x,some y=>some (x++y)
   | _,_=>none
def enc13 (l:List Act12):Except Int (List Int):=
 match raw13 l with
 | none=>.error 10001
 | some x=>if 64<l.length∨65528<x.length then .error 10001 else .ok x
def cut13:Nat→List Int→Except Int (List Act12)
 | 0,b=>if b = [] then .ok [] else .error 520
 | k + 1,b=>if b = [] then .ok [] else match dec12 b with
   | .error q=>.error q
   | .ok (a,n)=>match cut13 k (b.drop n) with
     | .error q=>.error q
     | .ok l=>.ok (a::l)
def dec13 (b:List Int):Except Int (List Act12):=
 match cut13 64 b with
 | .error q=>.error q
 | .ok l=>if 65528<b.length then .error 514 else .ok l
def insPort (n:Int):List Int→List Int
 | []=>[n]
 | x::r=>if n<x then n::x::r else if n=x then x::r else x::insPort n r
def outs13 (l:List Act12):List Int:=(l.filter fun a=>a.T==0).map Act12.A
def ports13 (l:List Act12):List Int:=(outs13 l).foldl (fun p n=>insPort n p) []
end Go.Proofs.YthpdkancighknaaGreat
