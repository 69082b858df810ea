/- Contracts of package buffer: Hold, Fill. -/
import Derived.Test.YtkgjmpcdndohpaaDoorBufC
namespace Go.Proofs.YtkgjmpcdndohpaaDoor
open Go.RowKit Go.Maps

section
variable {w w1 w' : World} {g m : Nat} {p p' : Option Nat} {r : Nat} {l : List Int} {H : List (Int × Int)} {f : Int}

theorem Buf.bytes_lit (h : Buf w g m p r l H 0) (x : List Int) (a : Option Addr) (n c : Nat) (en : n = x.length) (hx : l.length + x.length ≤ r) (hI : Ints .u8 w a x) :
    Calls Tryd.prog 31 #[.pointer (some ⟨g, 0, none⟩), .slice a n c] w fun e w' => e = .returned (.tuple #[]) ∧ ∃ p', Went w w' g m p p' r (l ++ x) H 0 := by
  subst en; exact h.bytes_ok x a c hx hI
theorem Buf.bytes_lit_long (h : Buf w g m p r l H 0) (x : List Int) (a : Option Addr) (n c : Nat) (en : n = x.length) (hx : r < l.length + x.length) (hm : x.length ≤ 9223372036854775807) :
    Calls Tryd.prog 31 #[.pointer (some ⟨g, 0, none⟩), .slice a n c] w fun e w' => e = .returned (.tuple #[]) ∧ ∃ p', Went w w' g m p p' r l H 10003 := by
  subst en; exact h.bytes_long x a c hx hm

/-- the map turned -/
theorem went_map {v : Value} {D : DataW Unit} {H' : List (Int × Int)} (h : Buf w g m p r l H f) (hv : v.ownBlock = p) (hg : w.heap[g]? = some (.cells (bufCells r v m f) 67 (0, 0)))
    (hr : w.ownsRow 0 5 1 v (l.map (Value.int .u8)).length (l.map (Value.int .u8))) (hb : w.grownBy w1 (some m)) (hm : w1.ownsMap Tryd.prog 3 (plainElem Tryd.prog 3) m H'.length D) (ht : Tied D H') (hw : Within l.length H') (hf : H'.length ≤ l.length) :
    Went w w1 g m p p r l H' f :=
  ⟨⟨⟨v, D, hv, block_by hg hb (by have := h.gm; simp; omega), hr.kept hb (.inr (by rw [hv]; exact h.mp)), hm, ht⟩, h.room, h.most, hw, hf, h.gm, h.gp, h.mp⟩,
    Turn.of_by hb (by rintro k e; simp at e; exact .inr (.inl e.symm)), fun _ e => .inl e⟩
/-- the bytes turned, in their block -/
theorem went_bytes {v : Value} {D : DataW Unit} {ys : List Int} {q : Nat} (h : Buf w g m p r l H f) (hv : v.ownBlock = p) (hq : p = some q) (hg : w.heap[g]? = some (.cells (bufCells r v m f) 67 (0, 0)))
    (hm : w.ownsMap Tryd.prog 3 (plainElem Tryd.prog 3) m H.length D) (ht : Tied D H) (hb : w.grownBy w1 (some q)) (hr : w1.ownsRow 0 5 1 v (ys.map (Value.int .u8)).length (ys.map (Value.int .u8))) (hl : ys.length = l.length) :
    Went w w1 g m p p r ys H f := by
  subst hq
  refine ⟨⟨⟨v, D, hv, block_by hg hb h.gp, hr, hm.kept hb (fun e => h.mp e.symm), ht⟩, by rw [hl]; exact h.room, h.most, by rw [hl]; exact h.held, by rw [hl]; exact h.few, h.gm, h.gp, h.mp⟩, ?_, fun _ e => .inl e⟩
  exact Turn.of_by hb (fun k e => .inr (.inr e))

theorem no_place (h : Buf w g m p r l H f) : H.any (fun q => q.1 == (l.length : Int)) = false := by
  rw [List.any_eq_false]
  intro q hq
  have := h.held q hq
  simp
  omega

end
end Go.Proofs.YtkgjmpcdndohpaaDoor
