/- A listed array of strings: what the row's condition says of its cells. Over any program. -/
import Derived.Test.YtehgjenmcjgpnaaDoorBase
import Derived.Lib.LaidTab
import Derived.OpenShut
import Derived.Stop.LaidErr
import Derived.LaidMore
import Derived.Stop.Joined
namespace Go.Proofs.YtehgjenmcjgpnaaDoor
open Go.RowKit

/-- AN ARRAY OF STRINGS THAT READS SO HOLDS THEM, CELL FOR CELL. -/
theorem cells_of_strs {H : Type} {enc : TypeId × Value → H} {P : Program} {w : World} {base : Nat} {sp : Nat → Bool} {held : Bool} {fuel : Nat} {t e : TypeId} {n : Nat} {cs : List Value} {ss : List ByteArray} {p : List MemPlace}
    (ht : P.underlying t = some (.array n e)) (he : P.underlying e = some .string) (hce : P.cellsOf e = 1) (hn : ss.length = n)
    (h : DataW.trod enc P w base sp held fuel t cs = some (.agg (ss.map fun s => .lit (.string s.data.toList)), p)) (i : Nat) (hi : i < n) : cs[i]? = some (.string (ss.getD i ⟨#[]⟩)) := by
  obtain ⟨xs, m, rfl, hx, hl, hxn, hel⟩ := DataW.trod_array ht h
  have hxs : xs.map (·.1) = ss.map fun s => (DataW.lit (.string s.data.toList) : DataW H) := by
    have := congrArg Prod.fst hx
    simpa using this.symm
  have h1 := hel i hi
  rw [hce, Nat.mul_one, List.getElem?_eq_getElem (show i < xs.length by omega)] at h1
  obtain ⟨s, hc, e2, _⟩ := DataW.trod_string he h1
  have h2 : (xs.map (·.1))[i]? = some (DataW.lit (.string s.data.toList) : DataW H) := by
    rw [List.getElem?_map, List.getElem?_eq_getElem (show i < xs.length by omega), e2]
    rfl
  rw [hxs, List.getElem?_map, List.getElem?_eq_getElem (show i < ss.length by omega)] at h2
  simp at h2
  have hs : ss[i] = s := by
    cases hq : ss[i] with
    | mk d =>
      cases s with
      | mk d' =>
        rw [hq] at h2
        simp at h2
        rw [h2]
  have h3 : cs[i]? = some (.string s) := by
    have := congrArg (·[0]?) hc
    simpa [List.getElem?_take, List.getElem?_drop] using this
  rw [h3, List.getD_eq_getElem?_getD, List.getElem?_eq_getElem (show i < ss.length by omega)]
  simp [hs]

theorem strs_of_head {P : Program} {W : World} {name : String} {ss : List ByteArray} {rest : List (String × DataW Unit)} {g : Nat} {t e : TypeId} {n : Nat}
    (h : laidMet P ((name, .agg (ss.map fun s => .lit (.string s.data.toList))) :: rest) W)
    (hg : P.globalNamed name = some g) (hty : (P.globals[g]?).map (·.type) = some t) (ht : P.underlying t = some (.array n e)) (he : P.underlying e = some .string) (hce : P.cellsOf e = 1) (hn : ss.length = n) (i : Nat) (hi : i < n) :
    W.cell? ⟨g, i, none⟩ = some (.string (ss.getD i ⟨#[]⟩)) := by
  obtain ⟨ps, ⟨g', t', cs, fuel, p, q, hg', ht', hvar, hd, _, _⟩, _⟩ := h
  obtain rfl := Option.some.inj (hg.symm.trans hg')
  obtain rfl := Option.some.inj (hty.symm.trans ht')
  have h1 := World.var?_cell hg hvar i
  have h2 := cells_of_strs ht he hce hn hd i hi
  rw [h1]
  simpa using h2
end Go.Proofs.YtehgjenmcjgpnaaDoor
