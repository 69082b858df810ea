/- The walks of layer 1's statements. -/
import Derived.Test.YteflagnkjjpjnaaRowS
import Derived.Test.YteflagnkjjpjnaaShell
namespace Go.Proofs.Yteflagnkjjpjnaa
open Go.RowKit

theorem beq_rfl (l : List Int) : (l == l) = true := by simp

theorem RowTells_walk (l : List Int) (a : Option Addr) (c : Nat) (w : World) (hl : l.length ≤ 9223372036854775807) (ha : Ints .i64 w a l) :
    Calls Try.prog 3 #[.slice a l.length c] w fun e w' => e = .returned (.bool true) ∧ Below w.heap.size w w' := by
  by_cases h : 500 < l.length
  · go_enter Try.func3, Try.ntmps3
    go_wp2_with (go_at_call 8; refine (sure_any _).mono ?_; rintro e w' ⟨rfl, hz⟩)
    go_ret
    exact ⟨rfl, hz⟩
  · go_enter Try.func3, Try.ntmps3
    go_wp2_with (first | (go_at_call 8; refine (sure_any _).mono ?_; rintro e w' ⟨rfl, hz⟩) | (go_at_call 9; refine (right_any _ _ _ _ hl ha).mono ?_; rintro e w' ⟨rfl, rfl⟩) | (go_at_call 10; refine (refRight_any _ _ _ _ hl ha).mono ?_; rintro e w' ⟨rfl, rfl⟩) | (go_at_call 11; refine (size_any _ _ _ _ hl ha).mono ?_; rintro e w' ⟨rfl, rfl⟩) | (go_at_call 12; refine (refSize_any _ _ _ _ hl ha).mono ?_; rintro e w' ⟨rfl, rfl⟩) | (go_at_call 13; refine (count_any _ _ _ _ hl ha).mono ?_; rintro e w' ⟨rfl, rfl⟩) | (go_at_call 14; refine (refCount_any _ _ _ _ hl ha).mono ?_; rintro e w' ⟨rfl, rfl⟩))
    go_ret
    exact ⟨rfl, hz⟩

theorem put_no (l ns : List Int) (h : putW l ns = none) (a b : Option Addr) (c d : Nat) (w : World) (hl : l.length ≤ 9223372036854775807) (hcd : ns.length ≤ d) (hu : U64s ns) (ha : Ints .i64 w a l) (hb : Ints .u64 w b ns) :
    Calls Try.prog 15 #[.slice a l.length c, .slice b ns.length d] w fun e w' => e = .returned (.tuple #[.slice none 0 0, .bool false]) ∧ Below w.heap.size w w' := by
  refine (put_any l ns a b c d w hl hcd hu ha hb).mono ?_
  rintro e w' (⟨_, rfl, hb⟩ | ⟨bs', v, h', _⟩)
  · exact ⟨rfl, hb⟩
  · rw [h] at h'; simp at h'
theorem put_yes (l ns bs : List Int) (h : putW l ns = some bs) (a b : Option Addr) (c d : Nat) (w : World) (hl : l.length ≤ 9223372036854775807) (hcd : ns.length ≤ d) (hu : U64s ns) (ha : Ints .i64 w a l) (hb : Ints .u64 w b ns) :
    Calls Try.prog 15 #[.slice a l.length c, .slice b ns.length d] w fun e w' => ∃ ad cp, e = .returned (.tuple #[.slice ad bs.length cp, .bool true]) ∧ Below w.heap.size w w' ∧ Ints .u8 w' ad bs ∧ bs.length ≤ cp ∧ cp ≤ 9223372036854775807 := by
  refine (put_any l ns a b c d w hl hcd hu ha hb).mono ?_
  rintro e w' (⟨h', _⟩ | ⟨bs', v, h', rfl, hf⟩)
  · rw [h] at h'; simp at h'
  · rw [h] at h'
    obtain rfl : bs = bs' := by simpa using h'
    obtain ⟨ad, cp, rfl, h1, h2, hI⟩ := own_ints hf.own
    exact ⟨ad, cp, rfl, hf.bel, hI, h1, by unfold maxLen at h2; omega⟩
theorem get_no (l bs : List Int) (q : Int) (h : getW l bs = .error q) (a b : Option Addr) (c d : Nat) (w : World) (hl : l.length ≤ 9223372036854775807) (hcd : bs.length ≤ d) (hd : d ≤ 9223372036854775807) (hu : Octets bs) (ha : Ints .i64 w a l) (hb : Ints .u8 w b bs) :
    Calls Try.prog 18 #[.slice a l.length c, .slice b bs.length d] w fun e w' => e = .returned (.tuple #[.slice none 0 0, .int .i64 q]) ∧ Below w.heap.size w w' :=
  get_bad l bs q h a b _ _ c d w rfl rfl hl hcd hd hu ha hb
theorem get_yes (l bs ns : List Int) (h : getW l bs = .ok ns) (a b : Option Addr) (c d : Nat) (w : World) (hl : l.length ≤ 9223372036854775807) (hcd : bs.length ≤ d) (hd : d ≤ 9223372036854775807) (hu : Octets bs) (ha : Ints .i64 w a l) (hb : Ints .u8 w b bs) :
    Calls Try.prog 18 #[.slice a l.length c, .slice b bs.length d] w fun e w' => ∃ ad cp, e = .returned (.tuple #[.slice ad ns.length cp, .int .i64 0]) ∧ Below w.heap.size w w' ∧ Ints .u64 w' ad ns ∧ ns.length ≤ cp ∧ cp ≤ 9223372036854775807 := by
  refine (get_any l bs a b c d w hl hcd hd hu ha hb).mono ?_
  rintro e w' (⟨c, h', _⟩ | ⟨ns', v, h', rfl, hf⟩)
  · rw [h] at h'; simp at h'
  · rw [h] at h'
    obtain rfl : ns = ns' := by simpa using h'
    obtain ⟨ad, cp, rfl, h1, h2, hI⟩ := own_ints hf.own
    exact ⟨ad, cp, rfl, hf.bel, hI, h1, by unfold maxLen at h2; omega⟩

set_option maxHeartbeats 800000 in
theorem RowPuts_walk (l ns : List Int) (a b : Option Addr) (c d : Nat) (w : World) (hl : l.length ≤ 9223372036854775807) (hcd : ns.length ≤ d) (hu : U64s ns)
    (ha : Ints .i64 w a l) (hb : Ints .u64 w b ns) :
    Calls Try.prog 4 #[.slice a l.length c, .slice b ns.length d] w fun e w' => e = .returned (.bool true) ∧ Below w.heap.size w w' := by
  by_cases h : 500 < l.length
  · go_enter Try.func4, Try.ntmps4
    go_wp2_with (go_at_call 8; refine (sure_any _).mono ?_; rintro e w' ⟨rfl, hz⟩)
    go_ret
    exact ⟨rfl, hz⟩
  · by_cases h2 : 500 < ns.length
    · go_enter Try.func4, Try.ntmps4
      go_wp2_with (go_at_call 8; refine (sure_any _).mono ?_; rintro e w' ⟨rfl, hz⟩)
      go_ret
      exact ⟨rfl, hz⟩
    · cases hp0 : putW l ns with
      | none =>
        have hp := hid hp0
        clear hp0
        go_enter Try.func4, Try.ntmps4
        go_wp2_with fail
        refine (put_no l ns hp.out a b c d w hl hcd hu ha hb).mono ?_
        rintro e w1 ⟨rfl, B1⟩
        go_wp2_with fail
        refine (refPut_any l ns a b c d w1 hl (by omega) hu (ha.below B1) (hb.below B1)).mono ?_
        rintro e w2 (⟨_, rfl, hb2⟩ | ⟨bs, v, h2, _⟩)
        · have B2 := B1.trans (hb2.mono B1.size)
          clear hb2 B1
          go_wp2_with fail
          refine (bytes_at [] [] _ _ _ _ _ _ _ rfl rfl (by simp) (by simp) (Ints.nil _ _ _) (Ints.nil _ _ _)).mono ?_
          rintro e w3 ⟨rfl, hb3⟩
          have B3 := B2.trans (hb3.mono B2.size)
          clear B2 hb3
          rw [beq_rfl]
          go_wp2_with fail
          refine (sure_any _).mono ?_
          rintro e w9 ⟨rfl, hb9⟩
          have B9 := B3.trans (hb9.mono B3.size)
          clear B3 hb9
          go_wp2
          go_ret
          exact ⟨rfl, B9⟩
        · rw [hp.out] at h2; simp at h2
      | some bs =>
        have hp := hid hp0
        clear hp0
        go_enter Try.func4, Try.ntmps4
        go_wp2_with fail
        refine (put_yes l ns bs hp.out a b c d w hl hcd hu ha hb).mono ?_
        rintro e w1 ⟨a1, c1, rfl, B1, I1, L1, M1⟩
        go_wp2_with fail
        refine (refPut_any l ns a b c d w1 hl (by omega) hu (ha.below B1) (hb.below B1)).mono ?_
        rintro e w2 (⟨h2, _⟩ | ⟨bs2, v2, h2, rfl, hf2⟩)
        · rw [hp.out] at h2; simp at h2
        · obtain rfl : bs = bs2 := by rw [hp.out] at h2; simpa using h2
          obtain ⟨a2, c2, rfl, _, _, I2⟩ := own_ints hf2.own
          have B2 := B1.trans (hf2.bel.mono B1.size)
          have I12 := I1.below hf2.bel
          clear h2 hf2 I1 B1
          go_wp2_with fail
          refine (bytes_at bs bs _ _ _ _ _ _ _ rfl rfl (by omega) (by omega) I12 I2).mono ?_
          rintro e w3 ⟨rfl, hb3⟩
          have B3 := B2.trans (hb3.mono B2.size)
          clear B2 hb3
          rw [beq_rfl]
          clear I12 I2
          go_wp2_with fail
          refine (sure_any _).mono ?_
          rintro e w9 ⟨rfl, hb9⟩
          have B9 := B3.trans (hb9.mono B3.size)
          clear B3 hb9
          go_wp2
          go_ret
          exact ⟨rfl, B9⟩

set_option maxHeartbeats 800000 in
theorem RowGets_walk (l bs : List Int) (a b : Option Addr) (c d : Nat) (w : World) (hl : l.length ≤ 9223372036854775807) (hcd : bs.length ≤ d) (hd : d ≤ 9223372036854775807) (hu : Octets bs)
    (ha : Ints .i64 w a l) (hb : Ints .u8 w b bs) :
    Calls Try.prog 5 #[.slice a l.length c, .slice b bs.length d] w fun e w' => e = .returned (.bool true) ∧ Below w.heap.size w w' := by
  by_cases h : 500 < l.length
  · go_enter Try.func5, Try.ntmps5
    go_wp2_with (go_at_call 8; refine (sure_any _).mono ?_; rintro e w' ⟨rfl, hz⟩)
    go_ret
    exact ⟨rfl, hz⟩
  · by_cases h2 : 5000 < bs.length
    · go_enter Try.func5, Try.ntmps5
      go_wp2_with (go_at_call 8; refine (sure_any _).mono ?_; rintro e w' ⟨rfl, hz⟩)
      go_ret
      exact ⟨rfl, hz⟩
    · cases hp0 : getW l bs with
      | error q =>
        have hp := hid hp0
        clear hp0
        go_enter Try.func5, Try.ntmps5
        go_wp2_with fail
        refine (get_no l bs q hp.out a b c d w hl hcd hd hu ha hb).mono ?_
        rintro e w1 ⟨rfl, B1⟩
        go_wp2_with fail
        refine (refGet_any l bs a b c d w1 hl hcd hd hu (ha.below B1) (hb.below B1)).mono ?_
        rintro e w2 (⟨q2, h2, rfl, hb2⟩ | ⟨ns2, v, h2, _⟩)
        · obtain rfl : q = q2 := by rw [hp.out] at h2; simpa using h2
          have B2 := B1.trans (hb2.mono B1.size)
          clear hb2 B1 h2
          go_wp2_with fail
          refine (nums_at [] [] _ _ _ _ _ _ _ rfl rfl (by simp) (by simp) (Ints.nil _ _ _) (Ints.nil _ _ _)).mono ?_
          rintro e w3 ⟨rfl, hb3⟩
          have B3 := B2.trans (hb3.mono B2.size)
          clear B2 hb3
          rw [beq_rfl]
          go_wp2_with fail
          refine (sure_any _).mono ?_
          rintro e w9 ⟨rfl, hb9⟩
          have B9 := B3.trans (hb9.mono B3.size)
          clear B3 hb9
          go_wp2
          go_ret
          exact ⟨rfl, B9⟩
        · rw [hp.out] at h2; simp at h2
      | ok ns =>
        have hp := hid hp0
        clear hp0
        go_enter Try.func5, Try.ntmps5
        go_wp2_with fail
        refine (get_yes l bs ns hp.out a b c d w hl hcd hd hu ha hb).mono ?_
        rintro e w1 ⟨a1, c1, rfl, B1, I1, L1, M1⟩
        go_wp2_with fail
        refine (refGet_any l bs a b c d w1 hl hcd hd hu (ha.below B1) (hb.below B1)).mono ?_
        rintro e w2 (⟨q2, h2, _⟩ | ⟨ns2, v2, h2, rfl, hf2⟩)
        · rw [hp.out] at h2; simp at h2
        · obtain rfl : ns = ns2 := by rw [hp.out] at h2; simpa using h2
          obtain ⟨a2, c2, rfl, _, _, I2⟩ := own_ints hf2.own
          have B2 := B1.trans (hf2.bel.mono B1.size)
          have I12 := I1.below hf2.bel
          clear h2 hf2 I1 B1
          go_wp2_with fail
          refine (nums_at ns ns _ _ _ _ _ _ _ rfl rfl (by omega) (by omega) I12 I2).mono ?_
          rintro e w3 ⟨rfl, hb3⟩
          have B3 := B2.trans (hb3.mono B2.size)
          clear B2 hb3
          rw [beq_rfl]
          clear I12 I2
          go_wp2_with fail
          refine (sure_any _).mono ?_
          rintro e w9 ⟨rfl, hb9⟩
          have B9 := B3.trans (hb9.mono B3.size)
          clear B3 hb9
          go_wp2
          go_ret
          exact ⟨rfl, B9⟩
end Go.Proofs.Yteflagnkjjpjnaa
