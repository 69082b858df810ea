/- Contracts of package buffer: Row, Num, Even. -/
import Derived.Test.YtkgjmpcdndohpaaDoorBufE
namespace Go.Proofs.YtkgjmpcdndohpaaDoor
open Go.RowKit Go.Maps

theorem put_got (l ns bs : List Int) (h : putW l ns = some bs) (a b : Option Addr) (n m c d : Nat) (w : World) (en : n = l.length) (em : m = ns.length) (hl : l.length ≤ 9223372036854775807) (hcd : m ≤ d)
    (hu : U64s ns) (ha : Ints .i64 w a l) (hb : Ints .u64 w b ns) :
    Calls Tryd.prog 30 #[.slice a n c, .slice b m d] w fun e w' => ∃ ad cp, e = .returned (.tuple #[.slice ad bs.length cp, .bool true]) ∧ Below w.heap.size w w' ∧ Ints .u8 w' ad bs ∧ bs.length ≤ 9223372036854775807 := by
  subst en
  subst em
  refine (put_any l ns a b c d w hl hcd hu ha hb).mono ?_
  rintro e w' (⟨h', _⟩ | ⟨bs', v, h', rfl, hf⟩)
  · rw [h] at h'; simp at h'
  · rw [h] at h'
    obtain rfl : bs = bs' := by simpa using h'
    obtain ⟨ad, cp, rfl, h1, h2, hI⟩ := own_ints hf.own
    exact ⟨ad, cp, rfl, hf.bel, hI, by unfold maxLen at h2; omega⟩

section
variable {w : World} {g m : Nat} {p : Option Nat} {r : Nat} {l : List Int} {H : List (Int × Int)} {f : Int}
theorem Buf.row_ok (h : Buf w g m p r l H 0) (ws ns bs : List Int) (hput : putW ws ns = some bs) (a b : Option Addr) (n k c d : Nat) (en : n = ws.length) (em : k = ns.length) (hl : ws.length ≤ 9223372036854775807) (hcd : k ≤ d)
    (hu : U64s ns) (ha : Ints .i64 w a ws) (hb : Ints .u64 w b ns) (hfit : l.length + bs.length ≤ r) :
    Calls Tryd.prog 20 #[.pointer (some ⟨g, 0, none⟩), .slice a n c, .slice b k d] w fun e w' => e = .returned (.tuple #[]) ∧ ∃ p', Went w w' g m p p' r (l ++ bs) H 0 := by
  have HP := hid (put_got ws ns bs hput a b n k c d w en em hl hcd hu ha hb)
  have HF := hid hfit
  clear hput en em hl hcd hu ha hb hfit
  go_enter Tryd.func20, Tryd.ntmps20
  go_wp2_with fail
  refine HP.out.mono ?_
  rintro e w1 ⟨ad, cp, rfl, hb1, hI, _⟩
  go_wp2_with fail
  refine ((h.below hb1).bytes_ok bs ad cp HF.out hI).mono ?_
  rintro e w2 ⟨rfl, p', hG⟩
  go_wp2
  go_end0
  exact ⟨rfl, p', hG.ahead hb1⟩
theorem Buf.row_long (h : Buf w g m p r l H 0) (ws ns bs : List Int) (hput : putW ws ns = some bs) (a b : Option Addr) (n k c d : Nat) (en : n = ws.length) (em : k = ns.length) (hl : ws.length ≤ 9223372036854775807) (hcd : k ≤ d)
    (hu : U64s ns) (ha : Ints .i64 w a ws) (hb : Ints .u64 w b ns) (hfit : r < l.length + bs.length) :
    Calls Tryd.prog 20 #[.pointer (some ⟨g, 0, none⟩), .slice a n c, .slice b k d] w fun e w' => e = .returned (.tuple #[]) ∧ ∃ p', Went w w' g m p p' r l H 10003 := by
  have HP := hid (put_got ws ns bs hput a b n k c d w en em hl hcd hu ha hb)
  have HF := hid hfit
  clear hput en em hl hcd hu ha hb hfit
  go_enter Tryd.func20, Tryd.ntmps20
  go_wp2_with fail
  refine HP.out.mono ?_
  rintro e w1 ⟨ad, cp, rfl, hb1, hI, hbl⟩
  have HB := hid hbl
  go_wp2_with fail
  refine ((h.below hb1).bytes_long bs ad cp HF.out HB.out).mono ?_
  rintro e w2 ⟨rfl, p', hG⟩
  go_wp2
  go_end0
  exact ⟨rfl, p', hG.ahead hb1⟩
theorem Buf.row_bad (h : Buf w g m p r l H 0) (ws ns : List Int) (hput : putW ws ns = none) (a b : Option Addr) (n k c d : Nat) (en : n = ws.length) (em : k = ns.length) (hl : ws.length ≤ 9223372036854775807) (hcd : k ≤ d)
    (hu : U64s ns) (ha : Ints .i64 w a ws) (hb : Ints .u64 w b ns) :
    Calls Tryd.prog 20 #[.pointer (some ⟨g, 0, none⟩), .slice a n c, .slice b k d] w fun e w' => e = .returned (.tuple #[]) ∧ Went w w' g m p p r l H 10001 := by
  have HP := hid (put_lit_no ws ns hput a b n k c d w en em hl hcd hu ha hb)
  clear hput en em hl hcd hu ha hb
  go_enter Tryd.func20, Tryd.ntmps20
  go_wp2_with fail
  refine HP.out.mono ?_
  rintro e w1 ⟨rfl, hb1⟩
  go_wp2_with fail
  refine ((h.below hb1).fail _).mono ?_
  rintro e w2 ⟨rfl, hB, hb⟩
  go_wp2
  (try simp only [Exit.inBlock, Exit.then])
  refine bodyPost_ret (results_none rfl _ _ _) rfl ?_
  exact ⟨rfl, (Went.by_g hB hb).ahead hb1⟩
theorem Buf.row_late (h : Buf w g m p r l H f) (hf : f ≠ 0) (ws ns : List Int) (a b : Option Addr) (n k c d : Nat) (en : n = ws.length) (em : k = ns.length) (hl : ws.length ≤ 9223372036854775807) (hcd : k ≤ d)
    (hu : U64s ns) (ha : Ints .i64 w a ws) (hb : Ints .u64 w b ns) :
    Calls Tryd.prog 20 #[.pointer (some ⟨g, 0, none⟩), .slice a n c, .slice b k d] w fun e w' => e = .returned (.tuple #[]) ∧ Below w.heap.size w w' := by
  have HF := hid hf
  cases hput : putW ws ns
  · have HP := hid (put_lit_no ws ns hput a b n k c d w en em hl hcd hu ha hb)
    clear hput en em hl hcd hu ha hb hf
    go_enter Tryd.func20, Tryd.ntmps20
    go_wp2_with fail
    refine HP.out.mono ?_
    rintro e w1 ⟨rfl, hb1⟩
    go_wp2_with fail
    refine ((h.below hb1).fail_after HF.out _).mono ?_
    rintro e w2 ⟨rfl, rfl⟩
    go_wp2
    (try simp only [Exit.inBlock, Exit.then])
    refine bodyPost_ret (results_none rfl _ _ _) rfl ?_
    exact ⟨rfl, hb1⟩
  · rename_i bs
    have HP := hid (put_got ws ns bs hput a b n k c d w en em hl hcd hu ha hb)
    clear hput en em hl hcd hu ha hb hf
    go_enter Tryd.func20, Tryd.ntmps20
    go_wp2_with fail
    refine HP.out.mono ?_
    rintro e w1 ⟨ad, cp, rfl, hb1, hI, _⟩
    go_wp2_with fail
    refine ((h.below hb1).bytes_late HF.out _).mono ?_
    rintro e w2 ⟨rfl, rfl⟩
    go_wp2
    go_end0
    exact ⟨rfl, hb1⟩

theorem fresh_zeros {w w1 : World} {n c : Nat} (hF : Fresh 5 w w1 (.slice (some ⟨w.heap.size, 0, none⟩) n c) (List.replicate n (.int .u8 0))) : Ints .u8 w1 (some ⟨w.heap.size, 0, none⟩) (List.replicate n (0 : Int)) := by
  have h' := hF.own
  rw [show List.replicate n (Value.int .u8 0) = (List.replicate n (0 : Int)).map (Value.int .u8) by rw [List.map_replicate]] at h'
  obtain ⟨_, _, he, _, _, hI⟩ := own_ints h'
  simp at he
  obtain ⟨rfl, _⟩ := he
  exact hI
theorem over_cast {l n : Nat} (_hn : 1 ≤ n) : ((l : Int).tmod (n : Int)) = ((l % n : Nat) : Int) := by
  rw [Int.tmod_eq_emod_of_nonneg (by omega)]; omega
end
end Go.Proofs.YtkgjmpcdndohpaaDoor
