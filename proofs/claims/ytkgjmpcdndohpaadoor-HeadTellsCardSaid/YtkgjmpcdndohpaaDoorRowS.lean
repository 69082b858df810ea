/- The fixed calls of layer 1's statements: sure. -/
import Derived.Test.YtkgjmpcdndohpaaDoorRowH
namespace Go.Proofs.YtkgjmpcdndohpaaDoor
open Go.RowKit

theorem u64s_lit {l : List Int} (h : l.all (fun x => decide (0 ≤ x ∧ x < 18446744073709551616)) = true) : U64s l := by
  intro x hx
  have := List.all_eq_true.1 h x hx
  simpa [p256_8] using this
theorem octets_lit {l : List Int} (h : l.all (fun x => decide (0 ≤ x ∧ x ≤ 255)) = true) : Octets l := by
  intro x hx
  have := List.all_eq_true.1 h x hx
  simpa using this

theorem put_lit (l ns bs : List Int) (h : putW l ns = some bs) (a b : Option Addr) (n m c d : Nat) (w : World) (en : n = l.length) (em : m = ns.length) (hl : l.length ≤ 9223372036854775807) (hcd : m ≤ d)
    (hu : U64s ns) (ha : Ints .i64 w a l) (hb : Ints .u64 w b ns) :
    Calls Tryd.prog 30 #[.slice a n c, .slice b m d] w fun e w' => ∃ ad cp, e = .returned (.tuple #[.slice ad bs.length cp, .bool true]) ∧ Below w.heap.size w w' ∧ Ints .u8 w' ad bs := by
  subst en
  subst em
  refine (put_any l ns a b c d w hl hcd hu ha hb).mono ?_
  rintro e w' (⟨h', _⟩ | ⟨bs', v, h', rfl, hf⟩)
  · rw [h] at h'; simp at h'
  · rw [h] at h'
    obtain rfl : bs = bs' := by simpa using h'
    obtain ⟨ad, cp, rfl, _, _, hI⟩ := own_ints hf.own
    exact ⟨ad, cp, rfl, hf.bel, hI⟩
theorem get_lit (l bs ns : List Int) (h : getW l bs = .ok ns) (a b : Option Addr) (n m c d : Nat) (w : World) (en : n = l.length) (em : m = bs.length) (hl : l.length ≤ 9223372036854775807) (hcd : m ≤ d) (hd : d ≤ 9223372036854775807)
    (hu : Octets bs) (ha : Ints .i64 w a l) (hb : Ints .u8 w b bs) :
    Calls Tryd.prog 39 #[.slice a n c, .slice b m d] w fun e w' => ∃ ad cp, e = .returned (.tuple #[.slice ad ns.length cp, .int .i64 0]) ∧ Below w.heap.size w w' ∧ Ints .u64 w' ad ns := by
  subst en
  subst em
  refine (get_any l bs a b c d w hl hcd hd hu ha hb).mono ?_
  rintro e w' (⟨c, h', _⟩ | ⟨ns', v, h', rfl, hf⟩)
  · rw [h] at h'; simp at h'
  · rw [h] at h'
    obtain rfl : ns = ns' := by simpa using h'
    obtain ⟨ad, cp, rfl, _, _, hI⟩ := own_ints hf.own
    exact ⟨ad, cp, rfl, hf.bel, hI⟩
theorem get_bad (l bs : List Int) (q : Int) (h : getW l bs = .error q) (a b : Option Addr) (n m c d : Nat) (w : World) (en : n = l.length) (em : m = bs.length) (hl : l.length ≤ 9223372036854775807) (hcd : m ≤ d) (hd : d ≤ 9223372036854775807)
    (hu : Octets bs) (ha : Ints .i64 w a l) (hb : Ints .u8 w b bs) :
    Calls Tryd.prog 39 #[.slice a n c, .slice b m d] w fun e w' => e = .returned (.tuple #[.slice none 0 0, .int .i64 q]) ∧ Below w.heap.size w w' := by
  subst en
  subst em
  refine (get_any l bs a b c d w hl hcd hd hu ha hb).mono ?_
  rintro e w' (⟨c, h', rfl, hf⟩ | ⟨ns', v, h', _⟩)
  · rw [h] at h'
    obtain rfl : q = c := by simpa using h'
    exact ⟨rfl, hf⟩
  · rw [h] at h'; simp at h'

theorem bytes_at (l m : List Int) (a b : Option Addr) (n k c d : Nat) (w : World) (en : n = l.length) (ek : k = m.length) (hl : l.length ≤ 9223372036854775807) (hm : m.length ≤ 9223372036854775807) (hc : Ints .u8 w a l) (hd : Ints .u8 w b m) :
    Calls Tryd.prog 13 #[.slice a n c, .slice b k d] w fun e w' => e = .returned (.bool (l == m)) ∧ Below w.heap.size w w' := by
  subst en
  subst ek
  refine (bytes_any l m a b c d w hl hm hc hd).mono ?_
  rintro e w' ⟨he, n, rfl⟩
  exact ⟨he, below_drewN (Below.refl _ _) n⟩
theorem size_at (l : List Int) (a : Option Addr) (n cap : Nat) (w : World) (en : n = l.length) (hm : l.length ≤ 9223372036854775807) (hc : Ints .i64 w a l) :
    Calls Tryd.prog 41 #[.slice a n cap] w fun e w' => e = .returned (.int .i64 (sizeW l)) ∧ w = w' := by
  subst en
  exact size_any l a cap w hm hc

theorem two_lit {k k' : IntKind} {w : World} {o o' : Obj} {l l' : List Int} {e e' : TypeId} (h : o = .cells (l.map (Value.int k)).toArray e) (h' : o' = .cells (l'.map (Value.int k')).toArray e') :
    Ints k ((w.alloc o).alloc o') (some ⟨w.heap.size, 0, none⟩) l ∧ Ints k' ((w.alloc o).alloc o') (some ⟨w.heap.size + 1, 0, none⟩) l' ∧ Below w.heap.size w ((w.alloc o).alloc o') := by
  subst h
  subst h'
  have e1 := ints_lit k' (w.alloc (.cells (l.map (Value.int k)).toArray e)) l' e'
  rw [World.size_alloc] at e1
  exact ⟨(ints_lit k w l e).below (below_alloc _ _), e1, ((Below.refl _ _).alloc (Nat.le_refl _) _).alloc (by simp) _⟩

theorem s1 : putW [2, -1, 1] [258, 3] = some [1, 2, 0, 3] := by decide
theorem s2 : getW [2, -1, 1] [1, 2, 1, 3] = .error 2 := by rfl
theorem s3 : getW [2] [1, 2, 3] = .ok [258] := by rfl

end Go.Proofs.YtkgjmpcdndohpaaDoor
