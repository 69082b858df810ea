/- Contracts of package buffer: Row, Num, Even. -/
import Derived.Test.YtfdkkcndadjcaaaBufE
namespace Go.Proofs.Ytfdkkcndadjcaaa
open Go.RowKit Go.Maps

theorem put_got (l ns bs : List Int) (h : putW l ns = some bs) (a b : Option Addr) (n m c d : Nat) (w : World) (en : n = l.length) (em : m = ns.length) (hl : l.length ≤ 9223372036854775807) (hcd : m ≤ d)
    (hu : U64s ns) (ha : Ints .i64 w a l) (hb : Ints .u64 w b ns) :
    Calls Try.prog 58 #[.slice a n c, .slice b m d] w fun e w' => ∃ ad cp, e = .returned (.tuple #[.slice ad bs.length cp, .bool true]) ∧ Below w.heap.size w w' ∧ Ints .u8 w' ad bs ∧ bs.length ≤ 9223372036854775807 := by
  subst en
  subst em
  refine (put_any l ns a b c d w hl hcd hu ha hb).mono ?_
  rintro e w' (⟨h', _⟩ | ⟨bs', v, h', rfl, hf⟩)
  · rw [h] at h'; simp at h'
  · rw [h] at h'
    obtain rfl : bs = bs' := by simpa using h'
    obtain ⟨ad, cp, rfl, h1, h2, hI⟩ := own_ints hf.own
    exact ⟨ad, cp, rfl, hf.bel, hI, by unfold maxLen at h2; omega⟩

section
variable {w : World} {g m : Nat} {p : Option Nat} {r : Nat} {l : List Int} {H : List (Int × Int)} {f : Int}
theorem Buf.row_ok (h : Buf w g m p r l H 0) (ws ns bs : List Int) (hput : putW ws ns = some bs) (a b : Option Addr) (n k c d : Nat) (en : n = ws.length) (em : k = ns.length) (hl : ws.length ≤ 9223372036854775807) (hcd : k ≤ d)
    (hu : U64s ns) (ha : Ints .i64 w a ws) (hb : Ints .u64 w b ns) (hfit : l.length + bs.length ≤ r) :
    Calls Try.prog 47 #[.pointer (some ⟨g, 0, none⟩), .slice a n c, .slice b k d] w fun e w' => e = .returned (.tuple #[]) ∧ ∃ p', Went w w' g m p p' r (l ++ bs) H 0 := by
  have HP := hid (put_got ws ns bs hput a b n k c d w en em hl hcd hu ha hb)
  have HF := hid hfit
  clear hput en em hl hcd hu ha hb hfit
  go_enter Try.func47, Try.ntmps47
  go_wp2_with fail
  refine HP.out.mono ?_
  rintro e w1 ⟨ad, cp, rfl, hb1, hI, _⟩
  go_wp2_with fail
  refine ((h.below hb1).bytes_ok bs ad cp HF.out hI).mono ?_
  rintro e w2 ⟨rfl, p', hG⟩
  go_wp2
  go_end0
  exact ⟨rfl, p', hG.ahead hb1⟩
theorem Buf.row_long (h : Buf w g m p r l H 0) (ws ns bs : List Int) (hput : putW ws ns = some bs) (a b : Option Addr) (n k c d : Nat) (en : n = ws.length) (em : k = ns.length) (hl : ws.length ≤ 9223372036854775807) (hcd : k ≤ d)
    (hu : U64s ns) (ha : Ints .i64 w a ws) (hb : Ints .u64 w b ns) (hfit : r < l.length + bs.length) :
    Calls Try.prog 47 #[.pointer (some ⟨g, 0, none⟩), .slice a n c, .slice b k d] w fun e w' => e = .returned (.tuple #[]) ∧ ∃ p', Went w w' g m p p' r l H 10003 := by
  have HP := hid (put_got ws ns bs hput a b n k c d w en em hl hcd hu ha hb)
  have HF := hid hfit
  clear hput en em hl hcd hu ha hb hfit
  go_enter Try.func47, Try.ntmps47
  go_wp2_with fail
  refine HP.out.mono ?_
  rintro e w1 ⟨ad, cp, rfl, hb1, hI, hbl⟩
  have HB := hid hbl
  go_wp2_with fail
  refine ((h.below hb1).bytes_long bs ad cp HF.out HB.out).mono ?_
  rintro e w2 ⟨rfl, p', hG⟩
  go_wp2
  go_end0
  exact ⟨rfl, p', hG.ahead hb1⟩
theorem Buf.row_bad (h : Buf w g m p r l H 0) (ws ns : List Int) (hput : putW ws ns = none) (a b : Option Addr) (n k c d : Nat) (en : n = ws.length) (em : k = ns.length) (hl : ws.length ≤ 9223372036854775807) (hcd : k ≤ d)
    (hu : U64s ns) (ha : Ints .i64 w a ws) (hb : Ints .u64 w b ns) :
    Calls Try.prog 47 #[.pointer (some ⟨g, 0, none⟩), .slice a n c, .slice b k d] w fun e w' => e = .returned (.tuple #[]) ∧ Went w w' g m p p r l H 10001 := by
  have HP := hid (put_lit_no ws ns hput a b n k c d w en em hl hcd hu ha hb)
  clear hput en em hl hcd hu ha hb
  go_enter Try.func47, Try.ntmps47
  go_wp2_with fail
  refine HP.out.mono ?_
  rintro e w1 ⟨rfl, hb1⟩
  go_wp2_with fail
  refine ((h.below hb1).fail _).mono ?_
  rintro e w2 ⟨rfl, hB, hb⟩
  go_wp2
  (try simp only [Exit.inBlock, Exit.then])
  refine bodyPost_ret (results_none rfl _ _ _) rfl ?_
  exact ⟨rfl, (Went.by_g hB hb).ahead hb1⟩
theorem Buf.row_late (h : Buf w g m p r l H f) (hf : f ≠ 0) (ws ns : List Int) (a b : Option Addr) (n k c d : Nat) (en : n = ws.length) (em : k = ns.length) (hl : ws.length ≤ 9223372036854775807) (hcd : k ≤ d)
    (hu : U64s ns) (ha : Ints .i64 w a ws) (hb : Ints .u64 w b ns) :
    Calls Try.prog 47 #[.pointer (some ⟨g, 0, none⟩), .slice a n c, .slice b k d] w fun e w' => e = .returned (.tuple #[]) ∧ Below w.heap.size w w' := by
  have HF := hid hf
  cases hput : putW ws ns
  · have HP := hid (put_lit_no ws ns hput a b n k c d w en em hl hcd hu ha hb)
    clear hput en em hl hcd hu ha hb hf
    go_enter Try.func47, Try.ntmps47
    go_wp2_with fail
    refine HP.out.mono ?_
    rintro e w1 ⟨rfl, hb1⟩
    go_wp2_with fail
    refine ((h.below hb1).fail_after HF.out _).mono ?_
    rintro e w2 ⟨rfl, rfl⟩
    go_wp2
    (try simp only [Exit.inBlock, Exit.then])
    refine bodyPost_ret (results_none rfl _ _ _) rfl ?_
    exact ⟨rfl, hb1⟩
  · rename_i bs
    have HP := hid (put_got ws ns bs hput a b n k c d w en em hl hcd hu ha hb)
    clear hput en em hl hcd hu ha hb hf
    go_enter Try.func47, Try.ntmps47
    go_wp2_with fail
    refine HP.out.mono ?_
    rintro e w1 ⟨ad, cp, rfl, hb1, hI, _⟩
    go_wp2_with fail
    refine ((h.below hb1).bytes_late HF.out _).mono ?_
    rintro e w2 ⟨rfl, rfl⟩
    go_wp2
    go_end0
    exact ⟨rfl, hb1⟩

theorem fresh_zeros {w w1 : World} {n c : Nat} (hF : Fresh 5 w w1 (.slice (some ⟨w.heap.size, 0, none⟩) n c) (List.replicate n (.int .u8 0))) : Ints .u8 w1 (some ⟨w.heap.size, 0, none⟩) (List.replicate n (0 : Int)) := by
  have h' := hF.own
  rw [show List.replicate n (Value.int .u8 0) = (List.replicate n (0 : Int)).map (Value.int .u8) by rw [List.map_replicate]] at h'
  obtain ⟨_, _, he, _, _, hI⟩ := own_ints h'
  simp at he
  obtain ⟨rfl, _⟩ := he
  exact hI
theorem Buf.even_same (h : Buf w g m p r l H f) {n : Nat} (h1 : 1 ≤ n) (h64 : n ≤ 64) (ho : l.length % n = 0) :
    Calls Try.prog 49 #[.pointer (some ⟨g, 0, none⟩), .int .i64 n] w fun e w' => e = .returned (.tuple #[]) ∧ w = w' := by
  have hov : (l.length : Int) % (n : Int) = 0 := by omega
  have hto : (l.length : Int).tmod (n : Int) = 0 := by rw [Int.tmod_eq_emod_of_nonneg (by omega)]; exact hov
  have hn0 : ((n : Int) == 0) = false := by simp; omega
  clear ho
  go_enter Try.func49, Try.ntmps49
  go_wp2_with fail
  refine h.len.mono ?_
  rintro e w2 ⟨rfl, rfl⟩
  go_wp2
  go_end0
  exact ⟨rfl, rfl⟩
theorem over_cast {l n : Nat} (_hn : 1 ≤ n) : ((l : Int).tmod (n : Int)) = ((l % n : Nat) : Int) := by
  rw [Int.tmod_eq_emod_of_nonneg (by omega)]; omega
theorem Buf.even_ok (h : Buf w g m p r l H 0) {n q : Nat} (h1 : 1 ≤ n) (h64 : n ≤ 64) (hq : 0 < q) (ho : l.length % n + q = n) (ho' : 0 < l.length % n) (hfit : l.length + q ≤ r) :
    Calls Try.prog 49 #[.pointer (some ⟨g, 0, none⟩), .int .i64 n] w fun e w' => e = .returned (.tuple #[]) ∧ ∃ p', Went w w' g m p p' r (l ++ List.replicate q 0) H 0 := by
  have hto := over_cast (l := l.length) h1
  obtain ⟨o, hol⟩ : ∃ o, o = l.length % n := ⟨_, rfl⟩
  rw [← hol] at hto ho ho'
  have hn0 : ((n : Int) == 0) = false := by simp; omega
  have hnq : (n : Int) - (o : Int) = (q : Int) := by omega
  have HF := hid hfit
  clear hol hfit
  go_enter Try.func49, Try.ntmps49
  go_wp2_with fail
  refine h.len.mono ?_
  rintro e w2 ⟨rfl, rfl⟩
  go_wp2_with (at_make; refine wp_make (n := q) (m := q) rfl _ _ rfl elemU8 rfl rfl (by omega) (by omega) (Nat.le_refl _) (by omega) (by omega) ?_; intro w1 hF)
  refine ((h.below hF.bel).bytes_lit (List.replicate q 0) _ _ _ (by rw [List.length_replicate]) (by rw [List.length_replicate]; exact HF.out) (fresh_zeros hF)).mono ?_
  rintro e w2 ⟨rfl, p', hG⟩
  go_wp2
  go_end0
  exact ⟨rfl, p', hG.ahead hF.bel⟩
theorem Buf.even_long (h : Buf w g m p r l H 0) {n q : Nat} (h1 : 1 ≤ n) (h64 : n ≤ 64) (hq : 0 < q) (ho : l.length % n + q = n) (ho' : 0 < l.length % n) (hfit : r < l.length + q) :
    Calls Try.prog 49 #[.pointer (some ⟨g, 0, none⟩), .int .i64 n] w fun e w' => e = .returned (.tuple #[]) ∧ ∃ p', Went w w' g m p p' r l H 10003 := by
  have hto := over_cast (l := l.length) h1
  obtain ⟨o, hol⟩ : ∃ o, o = l.length % n := ⟨_, rfl⟩
  rw [← hol] at hto ho ho'
  have hn0 : ((n : Int) == 0) = false := by simp; omega
  have hnq : (n : Int) - (o : Int) = (q : Int) := by omega
  have HF := hid hfit
  clear hol hfit
  go_enter Try.func49, Try.ntmps49
  go_wp2_with fail
  refine h.len.mono ?_
  rintro e w2 ⟨rfl, rfl⟩
  go_wp2_with (at_make; refine wp_make (n := q) (m := q) rfl _ _ rfl elemU8 rfl rfl (by omega) (by omega) (Nat.le_refl _) (by omega) (by omega) ?_; intro w1 hF)
  refine ((h.below hF.bel).bytes_lit_long (List.replicate q 0) _ _ _ (by rw [List.length_replicate]) (by rw [List.length_replicate]; exact HF.out) (by rw [List.length_replicate]; omega)).mono ?_
  rintro e w2 ⟨rfl, p', hG⟩
  go_wp2
  go_end0
  exact ⟨rfl, p', hG.ahead hF.bel⟩
theorem Buf.even_late (h : Buf w g m p r l H f) (hf : f ≠ 0) {n : Nat} (h1 : 1 ≤ n) (h64 : n ≤ 64) :
    Calls Try.prog 49 #[.pointer (some ⟨g, 0, none⟩), .int .i64 n] w fun e w' => e = .returned (.tuple #[]) ∧ Below w.heap.size w w' := by
  rcases Nat.eq_zero_or_pos (l.length % n) with ho | ho
  · exact (h.even_same h1 h64 ho).mono (by rintro e w' ⟨rfl, rfl⟩; exact ⟨rfl, Below.refl _ _⟩)
  · have hto := over_cast (l := l.length) h1
    have hlt := Nat.mod_lt l.length (show n > 0 by omega)
    obtain ⟨o, hol⟩ : ∃ o, o = l.length % n := ⟨_, rfl⟩
    rw [← hol] at hto ho hlt
    obtain ⟨q, hq⟩ : ∃ q, q = n - o := ⟨_, rfl⟩
    have hn0 : ((n : Int) == 0) = false := by simp; omega
    have hnq : (n : Int) - (o : Int) = (q : Int) := by omega
    have HF := hid hf
    clear hol hf hq
    go_enter Try.func49, Try.ntmps49
    go_wp2_with fail
    refine h.len.mono ?_
    rintro e w2 ⟨rfl, rfl⟩
    go_wp2_with (at_make; refine wp_make (n := q) (m := q) rfl _ _ rfl elemU8 rfl rfl (by omega) (by omega) (Nat.le_refl _) (by omega) (by omega) ?_; intro w1 hF)
    refine ((h.below hF.bel).bytes_late HF.out _).mono ?_
    rintro e w2 ⟨rfl, rfl⟩
    go_wp2
    go_end0
    exact ⟨rfl, hF.bel⟩
end
end Go.Proofs.Ytfdkkcndadjcaaa
