/- The fixed calls of layer 1's statements: sure. -/
import Derived.Test.YteflagnkjjpjnaaRowH
namespace Go.Proofs.Yteflagnkjjpjnaa
open Go.RowKit

theorem u64s_lit {l : List Int} (h : l.all (fun x => decide (0 ≤ x ∧ x < 18446744073709551616)) = true) : U64s l := by
  intro x hx
  have := List.all_eq_true.1 h x hx
  simpa [p256_8] using this
theorem octets_lit {l : List Int} (h : l.all (fun x => decide (0 ≤ x ∧ x ≤ 255)) = true) : Octets l := by
  intro x hx
  have := List.all_eq_true.1 h x hx
  simpa using this

theorem put_lit (l ns bs : List Int) (h : putW l ns = some bs) (a b : Option Addr) (n m c d : Nat) (w : World) (en : n = l.length) (em : m = ns.length) (hl : l.length ≤ 9223372036854775807) (hcd : m ≤ d)
    (hu : U64s ns) (ha : Ints .i64 w a l) (hb : Ints .u64 w b ns) :
    Calls Try.prog 15 #[.slice a n c, .slice b m d] w fun e w' => ∃ ad cp, e = .returned (.tuple #[.slice ad bs.length cp, .bool true]) ∧ Below w.heap.size w w' ∧ Ints .u8 w' ad bs := by
  subst en
  subst em
  refine (put_any l ns a b c d w hl hcd hu ha hb).mono ?_
  rintro e w' (⟨h', _⟩ | ⟨bs', v, h', rfl, hf⟩)
  · rw [h] at h'; simp at h'
  · rw [h] at h'
    obtain rfl : bs = bs' := by simpa using h'
    obtain ⟨ad, cp, rfl, _, _, hI⟩ := own_ints hf.own
    exact ⟨ad, cp, rfl, hf.bel, hI⟩
theorem get_lit (l bs ns : List Int) (h : getW l bs = .ok ns) (a b : Option Addr) (n m c d : Nat) (w : World) (en : n = l.length) (em : m = bs.length) (hl : l.length ≤ 9223372036854775807) (hcd : m ≤ d) (hd : d ≤ 9223372036854775807)
    (hu : Octets bs) (ha : Ints .i64 w a l) (hb : Ints .u8 w b bs) :
    Calls Try.prog 18 #[.slice a n c, .slice b m d] w fun e w' => ∃ ad cp, e = .returned (.tuple #[.slice ad ns.length cp, .int .i64 0]) ∧ Below w.heap.size w w' ∧ Ints .u64 w' ad ns := by
  subst en
  subst em
  refine (get_any l bs a b c d w hl hcd hd hu ha hb).mono ?_
  rintro e w' (⟨c, h', _⟩ | ⟨ns', v, h', rfl, hf⟩)
  · rw [h] at h'; simp at h'
  · rw [h] at h'
    obtain rfl : ns = ns' := by simpa using h'
    obtain ⟨ad, cp, rfl, _, _, hI⟩ := own_ints hf.own
    exact ⟨ad, cp, rfl, hf.bel, hI⟩
theorem get_bad (l bs : List Int) (q : Int) (h : getW l bs = .error q) (a b : Option Addr) (n m c d : Nat) (w : World) (en : n = l.length) (em : m = bs.length) (hl : l.length ≤ 9223372036854775807) (hcd : m ≤ d) (hd : d ≤ 9223372036854775807)
    (hu : Octets bs) (ha : Ints .i64 w a l) (hb : Ints .u8 w b bs) :
    Calls Try.prog 18 #[.slice a n c, .slice b m d] w fun e w' => e = .returned (.tuple #[.slice none 0 0, .int .i64 q]) ∧ Below w.heap.size w w' := by
  subst en
  subst em
  refine (get_any l bs a b c d w hl hcd hd hu ha hb).mono ?_
  rintro e w' (⟨c, h', rfl, hf⟩ | ⟨ns', v, h', _⟩)
  · rw [h] at h'
    obtain rfl : q = c := by simpa using h'
    exact ⟨rfl, hf⟩
  · rw [h] at h'; simp at h'

theorem bytes_at (l m : List Int) (a b : Option Addr) (n k c d : Nat) (w : World) (en : n = l.length) (ek : k = m.length) (hl : l.length ≤ 9223372036854775807) (hm : m.length ≤ 9223372036854775807) (hc : Ints .u8 w a l) (hd : Ints .u8 w b m) :
    Calls Try.prog 17 #[.slice a n c, .slice b k d] w fun e w' => e = .returned (.bool (l == m)) ∧ Below w.heap.size w w' := by
  subst en
  subst ek
  refine (bytes_any l m a b c d w hl hm hc hd).mono ?_
  rintro e w' ⟨he, n, rfl⟩
  exact ⟨he, below_drewN (Below.refl _ _) n⟩
theorem nums_at (l m : List Int) (a b : Option Addr) (n k c d : Nat) (w : World) (en : n = l.length) (ek : k = m.length) (hl : l.length ≤ 9223372036854775807) (hm : m.length ≤ 9223372036854775807) (hc : Ints .u64 w a l) (hd : Ints .u64 w b m) :
    Calls Try.prog 20 #[.slice a n c, .slice b k d] w fun e w' => e = .returned (.bool (l == m)) ∧ Below w.heap.size w w' := by
  subst en
  subst ek
  refine (nums_any l m a b c d w hl hm hc hd).mono ?_
  rintro e w' ⟨he, n, rfl⟩
  exact ⟨he, below_drewN (Below.refl _ _) n⟩
theorem size_at (l : List Int) (a : Option Addr) (n cap : Nat) (w : World) (en : n = l.length) (hm : l.length ≤ 9223372036854775807) (hc : Ints .i64 w a l) :
    Calls Try.prog 11 #[.slice a n cap] w fun e w' => e = .returned (.int .i64 (sizeW l)) ∧ w = w' := by
  subst en
  exact size_any l a cap w hm hc

theorem two_lit {k k' : IntKind} {w : World} {o o' : Obj} {l l' : List Int} {e e' : TypeId} (h : o = .cells (l.map (Value.int k)).toArray e) (h' : o' = .cells (l'.map (Value.int k')).toArray e') :
    Ints k ((w.alloc o).alloc o') (some ⟨w.heap.size, 0, none⟩) l ∧ Ints k' ((w.alloc o).alloc o') (some ⟨w.heap.size + 1, 0, none⟩) l' ∧ Below w.heap.size w ((w.alloc o).alloc o') := by
  subst h
  subst h'
  have e1 := ints_lit k' (w.alloc (.cells (l.map (Value.int k)).toArray e)) l' e'
  rw [World.size_alloc] at e1
  exact ⟨(ints_lit k w l e).below (below_alloc _ _), e1, ((Below.refl _ _).alloc (Nat.le_refl _) _).alloc (by simp) _⟩

theorem s1 : putW [2, -1, 1] [258, 3] = some [1, 2, 0, 3] := by decide
theorem s2 : getW [2, -1, 1] [1, 2, 1, 3] = .error 2 := by rfl
theorem s3 : getW [2] [1, 2, 3] = .ok [258] := by rfl

set_option maxHeartbeats 800000 in
theorem sure_any (w : World) : Calls Try.prog 8 #[] w fun e w' => e = .returned (.bool true) ∧ Below w.heap.size w w' := by
  go_enter Try.func8, Try.ntmps8
  have A := two_lit (k := .i64) (k' := .u64) (w := w) (l := [2, -1, 1]) (l' := [258, 3]) (e := 3) (e' := 38) rfl rfl
  have P := put_lit [2, -1, 1] [258, 3] [1, 2, 0, 3] s1 _ _ _ _ 3 2 _ rfl rfl (by decide) (Nat.le_refl _) (u64s_lit (by decide)) A.1 A.2.1
  have HA := hid A.2.2
  have HP := hid P
  clear A P
  go_wp2_with fail
  refine HP.out.mono ?_
  rintro e w1 ⟨a1, c1, rfl, hb1, hI1⟩
  have hB1 := HA.out.trans (hb1.mono (by simp; omega))
  clear HP HA hb1
  have A := two_lit (k := .i64) (k' := .u8) (w := w1) (l := [2, -1, 1]) (l' := [1, 2, 1, 3]) (e := 3) (e' := 5) rfl rfl
  have P := get_bad [2, -1, 1] [1, 2, 1, 3] 2 s2 _ _ _ _ 3 4 _ rfl rfl (by decide) (Nat.le_refl _) (by decide) (octets_lit (by decide)) A.1 A.2.1
  have HA := hid A.2.2
  have HP := hid P
  clear A P
  go_wp2_with fail
  refine HP.out.mono ?_
  rintro e w2 ⟨rfl, hb2⟩
  have hB12 := HA.out.trans (hb2.mono (by simp; omega))
  have hI2 := hI1.below hB12
  have hB2 := hB1.trans (hB12.mono hB1.size)
  clear hb2 hB12 hI1 hB1 HP HA
  have A := two_lit (k := .i64) (k' := .u8) (w := w2) (l := [2]) (l' := [1, 2, 3]) (e := 3) (e' := 5) rfl rfl
  have P := get_lit [2] [1, 2, 3] [258] s3 _ _ _ _ 1 3 _ rfl rfl (by decide) (Nat.le_refl _) (by decide) (octets_lit (by decide)) A.1 A.2.1
  have HA := hid A.2.2
  have HP := hid P
  clear A P
  go_wp2_with fail
  refine HP.out.mono ?_
  rintro e w3 ⟨a3, c3, rfl, hb3, hJ3⟩
  have hB23 := HA.out.trans (hb3.mono (by simp; omega))
  have hI3 := hI2.below hB23
  have hB3 := hB2.trans (hB23.mono hB2.size)
  clear hb3 hB23 hI2 hB2 HP HA
  have hL4 := ints_lit .u8 w3 [1, 2, 0, 3] 5
  have P := bytes_at [1, 2, 0, 3] [1, 2, 0, 3] _ _ 4 4 c1 4 _ rfl rfl (by decide) (by decide) (hI3.below (below_alloc _ (.cells ([1, 2, 0, 3].map (Value.int .u8)).toArray 5))) hL4
  have HP := hid P
  clear P hL4 hI3
  go_wp2_with fail
  refine HP.out.mono ?_
  rintro e w4 ⟨rfl, hb4⟩
  have hB34 := (below_alloc w3 _).trans (hb4.mono (by simp))
  have hJ4 := hJ3.below hB34
  have hB4 := hB3.trans (hB34.mono hB3.size)
  clear hb4 hB34 hJ3 hB3 HP
  have P := nums_at [258] [258] _ _ 1 1 c3 1 _ rfl rfl (by decide) (by decide) (hJ4.below (below_alloc _ (.cells ([258].map (Value.int .u64)).toArray 38))) (ints_lit .u64 w4 [258] 38)
  have HP := hid P
  clear P hJ4
  go_wp2_with fail
  refine HP.out.mono ?_
  rintro e w5 ⟨rfl, hb5⟩
  have hB5 := hB4.trans (((below_alloc w4 _).trans (hb5.mono (by simp))).mono hB4.size)
  clear hb5 HP hB4
  have P := size_at [2, -1, 1] _ 3 3 _ rfl (by decide) (ints_lit .i64 w5 [2, -1, 1] 3)
  have HP := hid P
  clear P
  go_wp2_with fail
  refine HP.out.mono ?_
  rintro e w6 ⟨rfl, rfl⟩
  have e4 : ((sizeW [2, -1, 1] : Nat) : Int) = 4 := by decide
  rw [e4]
  go_wp2
  go_ret
  exact ⟨rfl, hB5.trans ((below_alloc w5 _).mono hB5.size)⟩
end Go.Proofs.Yteflagnkjjpjnaa
