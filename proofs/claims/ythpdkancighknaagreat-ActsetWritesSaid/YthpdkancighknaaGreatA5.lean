/- Put together out of several texts. -/
import Derived.Test.YthpdkancighknaaGreatA1
import Derived.Deep.QuietTactic
import Derived.BigQuiet
import Derived.OneCell
import Derived.Outline
import Derived.Test.YthpdkancighknaaGreatA4
namespace Go.Proofs.YthpdkancighknaaGreat
open Go.RowKit
set_option maxRecDepth 100000
def curCells (a:Option Addr) (m c:Nat) (r s o f:Int):Array Value:=#[.bool true,.slice a m c,.int .i64 r,.int .i64 s,.int .i64 o,.int .i64 f]
theorem by_setCell (w:World) (b i:Nat) (u:Value):w.grownBy (w.setCell ⟨b,i,none⟩ u) (some b):=by
 refine⟨by unfold World.setCell;split<;>rfl,by unfold World.setCell;split<;>rfl,by unfold World.setCell;split<;>rfl,?_,?_⟩
 · unfold World.setCell;split<;>simp
 · intro k hk hne
   exact Below.heap_setCell _ _ _ _ (fun e=>hne (by simp[e]))
section
variable {w:World} {g:Nat} {a:Option Addr} {m c:Nat} {r s o f:Int}
end
end Go.Proofs.YthpdkancighknaaGreat
namespace Go.Proofs.YthpdkancighknaaGreat
open Go.RowKit
set_option maxRecDepth 100000
end Go.Proofs.YthpdkancighknaaGreat
namespace Go.Proofs.YthpdkancighknaaGreat
open Go.RowKit
set_option maxRecDepth 100000
section
variable {w:World} {g M:Nat} {l:List Int} {r s o f:Int}
theorem grownBy_then {w w1 w2:World} {row:Option Nat} (h:w.grownBy w1 row) (k:w1.grownBy w2 row):w.grownBy w2 row:=grownBy_trans h k (.inl rfl)
end
end Go.Proofs.YthpdkancighknaaGreat
namespace Go.Proofs.YthpdkancighknaaGreat
open Go.RowKit
set_option maxRecDepth 100000
structure Gives (e:TypeId) (w w':World) (row:Option Nat) (v:Value) (xs:List Value):Prop where
 own:w'.ownsRow 0 e 1 v xs.length xs
 by_:w.grownBy w' row
 new:∀k,v.ownBlock=some k→w.heap.size≤k
section
variable {w:World} {g M:Nat} {l:List Int} {r s o f:Int}
end
end Go.Proofs.YthpdkancighknaaGreat
namespace Go.Proofs.YthpdkancighknaaGreat
open Go.RowKit
set_option maxRecDepth 100000
section
variable {w:World} {g M:Nat} {l:List Int} {r s o f:Int}
end
end Go.Proofs.YthpdkancighknaaGreat
namespace Go.Proofs.YthpdkancighknaaGreat
open Go.RowKit
set_option maxRecDepth 100000
end Go.Proofs.YthpdkancighknaaGreat
