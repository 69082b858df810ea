/- Contracts of the document's rows: Get. -/
import Derived.Test.YtfdkkcndadjcaaaRowG
namespace Go.Proofs.Ytfdkkcndadjcaaa
open Go.RowKit

theorem zeros_take_succ {l : List Int} {t : Nat} {x : Int} (hx : l[t]? = some x) (hp : zeros (l.take t) = true) (h0 : x = 0) : zeros (l.take (t + 1)) = true := zeros_succ hx hp h0
theorem zeros_take_false {l : List Int} {t q : Nat} {x : Int} (hx : l[t]? = some x) (ht : t < q) (h0 : x ≠ 0) : zeros (l.take q) = false :=
  zeros_false (k := t) (by rw [List.getElem?_take, if_pos ht, hx]) h0

end Go.Proofs.Ytfdkkcndadjcaaa
