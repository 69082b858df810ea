/- The walks of layer 1's statements. -/
import Derived.Test.YtkgjmpcdndohpaaDoorRowS
import Derived.Test.YtkgjmpcdndohpaaDoorShell
namespace Go.Proofs.YtkgjmpcdndohpaaDoor
open Go.RowKit

theorem beq_rfl (l : List Int) : (l == l) = true := by simp

theorem put_no (l ns : List Int) (h : putW l ns = none) (a b : Option Addr) (c d : Nat) (w : World) (hl : l.length ≤ 9223372036854775807) (hcd : ns.length ≤ d) (hu : U64s ns) (ha : Ints .i64 w a l) (hb : Ints .u64 w b ns) :
    Calls Tryd.prog 30 #[.slice a l.length c, .slice b ns.length d] w fun e w' => e = .returned (.tuple #[.slice none 0 0, .bool false]) ∧ Below w.heap.size w w' := by
  refine (put_any l ns a b c d w hl hcd hu ha hb).mono ?_
  rintro e w' (⟨_, rfl, hb⟩ | ⟨bs', v, h', _⟩)
  · exact ⟨rfl, hb⟩
  · rw [h] at h'; simp at h'
theorem put_yes (l ns bs : List Int) (h : putW l ns = some bs) (a b : Option Addr) (c d : Nat) (w : World) (hl : l.length ≤ 9223372036854775807) (hcd : ns.length ≤ d) (hu : U64s ns) (ha : Ints .i64 w a l) (hb : Ints .u64 w b ns) :
    Calls Tryd.prog 30 #[.slice a l.length c, .slice b ns.length d] w fun e w' => ∃ ad cp, e = .returned (.tuple #[.slice ad bs.length cp, .bool true]) ∧ Below w.heap.size w w' ∧ Ints .u8 w' ad bs ∧ bs.length ≤ cp ∧ cp ≤ 9223372036854775807 := by
  refine (put_any l ns a b c d w hl hcd hu ha hb).mono ?_
  rintro e w' (⟨h', _⟩ | ⟨bs', v, h', rfl, hf⟩)
  · rw [h] at h'; simp at h'
  · rw [h] at h'
    obtain rfl : bs = bs' := by simpa using h'
    obtain ⟨ad, cp, rfl, h1, h2, hI⟩ := own_ints hf.own
    exact ⟨ad, cp, rfl, hf.bel, hI, h1, by unfold maxLen at h2; omega⟩
theorem get_no (l bs : List Int) (q : Int) (h : getW l bs = .error q) (a b : Option Addr) (c d : Nat) (w : World) (hl : l.length ≤ 9223372036854775807) (hcd : bs.length ≤ d) (hd : d ≤ 9223372036854775807) (hu : Octets bs) (ha : Ints .i64 w a l) (hb : Ints .u8 w b bs) :
    Calls Tryd.prog 39 #[.slice a l.length c, .slice b bs.length d] w fun e w' => e = .returned (.tuple #[.slice none 0 0, .int .i64 q]) ∧ Below w.heap.size w w' :=
  get_bad l bs q h a b _ _ c d w rfl rfl hl hcd hd hu ha hb
theorem get_yes (l bs ns : List Int) (h : getW l bs = .ok ns) (a b : Option Addr) (c d : Nat) (w : World) (hl : l.length ≤ 9223372036854775807) (hcd : bs.length ≤ d) (hd : d ≤ 9223372036854775807) (hu : Octets bs) (ha : Ints .i64 w a l) (hb : Ints .u8 w b bs) :
    Calls Tryd.prog 39 #[.slice a l.length c, .slice b bs.length d] w fun e w' => ∃ ad cp, e = .returned (.tuple #[.slice ad ns.length cp, .int .i64 0]) ∧ Below w.heap.size w w' ∧ Ints .u64 w' ad ns ∧ ns.length ≤ cp ∧ cp ≤ 9223372036854775807 := by
  refine (get_any l bs a b c d w hl hcd hd hu ha hb).mono ?_
  rintro e w' (⟨c, h', _⟩ | ⟨ns', v, h', rfl, hf⟩)
  · rw [h] at h'; simp at h'
  · rw [h] at h'
    obtain rfl : ns = ns' := by simpa using h'
    obtain ⟨ad, cp, rfl, h1, h2, hI⟩ := own_ints hf.own
    exact ⟨ad, cp, rfl, hf.bel, hI, h1, by unfold maxLen at h2; omega⟩

end Go.Proofs.YtkgjmpcdndohpaaDoor
