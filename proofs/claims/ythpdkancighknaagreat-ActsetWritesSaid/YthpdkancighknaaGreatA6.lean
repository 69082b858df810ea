/- Put together out of several texts. -/
import Derived.Test.YthpdkancighknaaGreatA5
import Derived.Test.YthpdkancighknaaGreatA1
import Derived.Test.YthpdkancighknaaGreatA4
import Derived.Maps.OwnSet
namespace Go.Proofs.YthpdkancighknaaGreat
open Go.RowKit Go.Maps
set_option maxRecDepth 100000
structure Turn (S:Nat→Prop) (w w':World):Prop where
 os:w'.os=w.os
 tape:w'.tape=w.tape
 output:w'.output=w.output
 size:w.heap.size≤w'.heap.size
 block:∀k,k<w.heap.size → ¬S k→w'.heap[k]? = w.heap[k]?
def bufCells (r:Int) (v:Value) (m:Nat) (f:Int):Array Value:=#[.bool true,.int .i64 r,v,.map (some m),.int .i64 f]
def look:List (Int × Int)→Int→Int
 | [],_=>0
 | p::r,k=>if p.1=k then p.2 else look r k
def unheld (H:List (Int × Int)) (k:Int):List (Int × Int):=H.filter (fun p=>p.1 != k)
structure Tied (D:DataW Unit) (H:List (Int × Int)):Prop where
 look:∀k,D.atKey (.int .i64 k) (.lit (.int .i64 0)) = .lit (.int .i64 (look H k))
 has:∀k,Maps.has D (.int .i64 k)=H.any (fun p=>p.1==k)
 size:Maps.size D=H.length
 tidy:Tidy D
 uniq:(H.map Prod.fst).Nodup
def Within (n:Nat) (H:List (Int × Int)):Prop:=∀p,p∈H→0≤p.1∧1≤p.2∧p.2≤8∧p.1+p.2≤n
def Foot (g m:Nat) (p:Option Nat) (k:Nat):Prop:=k=g∨k=m∨p=some k
section
variable {w w':World} {g m:Nat} {p:Option Nat} {r:Nat} {l:List Int} {H:List (Int × Int)} {f:Int}
end
section
variable {w:World} {g m:Nat} {p:Option Nat} {r:Nat} {l:List Int} {H:List (Int × Int)} {f:Int}
end
end Go.Proofs.YthpdkancighknaaGreat
namespace Go.Proofs.YthpdkancighknaaGreat
open Go.RowKit Go.Maps
set_option maxRecDepth 100000
section
variable {w w1 w':World} {g m:Nat} {p p':Option Nat} {r:Nat} {l:List Int} {H:List (Int × Int)} {f:Int}
end
end Go.Proofs.YthpdkancighknaaGreat
namespace Go.Proofs.YthpdkancighknaaGreat
open Go.RowKit Go.Maps
set_option maxRecDepth 100000
section
variable {P:Program} {t e:TypeId} {z:Value} {bytes:Nat} {w:World}
end
end Go.Proofs.YthpdkancighknaaGreat
namespace Go.Proofs.YthpdkancighknaaGreat
open Go.RowKit Go.Maps
set_option maxRecDepth 100000
section
variable {w w1 w':World} {g m:Nat} {p p':Option Nat} {r:Nat} {l:List Int} {H:List (Int × Int)} {f:Int}
end
end Go.Proofs.YthpdkancighknaaGreat
namespace Go.Proofs.YthpdkancighknaaGreat
open Go.RowKit Go.Maps
set_option maxRecDepth 100000
section
variable {w:World} {g m:Nat} {p:Option Nat} {r:Nat} {l:List Int} {H:List (Int × Int)} {f:Int}
end
end Go.Proofs.YthpdkancighknaaGreat
namespace Go.Proofs.YthpdkancighknaaGreat
open Go.RowKit Go.Maps
set_option maxRecDepth 100000
section
variable {w:World} {g m:Nat} {p:Option Nat} {r:Nat} {l:List Int} {H:List (Int × Int)} {f:Int}
end
end Go.Proofs.YthpdkancighknaaGreat
namespace Go.Proofs.YthpdkancighknaaGreat
open Go.RowKit Go.Maps
set_option maxRecDepth 100000
section
variable {w0 w w':World} {g m:Nat} {p p':Option Nat} {r:Nat} {l l':List Int} {H H':List (Int × Int)} {f f':Int}
end
end Go.Proofs.YthpdkancighknaaGreat
