/- Layer 8's law: what must come whatever the input is. -/
import Derived.Test.YtfogpofgmnibcaaOxmR
namespace Go.Proofs.Ytfogpofgmnibcaa
open Go.RowKit
set_option linter.unusedVariables false

theorem s8_1 : decL [128, 0, 10, 2, 8, 0, 7] = .ok ⟨32768, 5, false, 0, [8, 0], [], 6⟩ := by kernel_rfl
theorem s8_2 : decL [128, 0, 11, 4, 8, 0, 8, 0] = .error 1033 := by kernel_rfl
theorem s8_3 : rightB 32768 5 false 0 [8, 0] [] = true := by kernel_rfl
theorem s8_4 : oxmBytes 32768 5 false 0 [8, 0] [] = [128, 0, 10, 2, 8, 0] := by kernel_rfl
theorem octets8 {l : List Int} (h : l.all (fun x => decide (0 ≤ x ∧ x ≤ 255)) = true) : Octets l := by
  intro x hx
  have := List.all_eq_true.1 h x hx
  simpa using this
theorem bytes8_any (l m : List Int) (a b : Option Addr) (n k c d : Nat) (hn : n = l.length) (hk : k = m.length) (w : World) (hl : l.length ≤ 1000000) (hm : m.length ≤ 1000000) (hc : Ints .u8 w a l) (hd : Ints .u8 w b m) :
    Calls Try.prog 14 #[.slice a n c, .slice b k d] w fun e w' => e = .returned (.bool (l == m)) ∧ Below w.heap.size w w' := by
  subst hn hk
  refine (bytes_any l m a b c d w (by omega) (by omega) hc hd).mono ?_
  rintro e w' ⟨rfl, n, rfl⟩
  exact ⟨rfl, below_drewN _ _⟩

set_option maxRecDepth 100000 in
set_option maxHeartbeats 2000000 in
theorem sure8_any (w : World) : Calls Try.prog 8 #[] w fun e w' => e = .returned (.bool true) ∧ Below w.heap.size w w' := by
  have hI1 := ints_lit .u8 w [128, 0, 10, 2, 8, 0, 7] 5
  have hb0 := below_alloc w (.cells ([128, 0, 10, 2, 8, 0, 7].map (Value.int .u8)).toArray 5)
  have G1 := hid (decode8_any [128, 0, 10, 2, 8, 0, 7] _ 7 (by decide) (by decide) (octets8 (by decide)) _ hI1)
  have HB0 := hid hb0
  clear hI1 hb0
  go_enter Try.func8, Try.ntmps8
  go_wp2_with fail
  refine G1.out.mono ?_
  rintro e w1 (⟨q, hq, _⟩ | ⟨o, a1, c1, a2, c2, hq, rfl, hb1, i1, i2, hmc⟩)
  · rw [s8_1] at hq; simp at hq
  rw [s8_1] at hq
  obtain rfl : _ = o := by simpa using hq
  have HB1 := hid (below_on HB0.out hb1)
  clear hb1 hq G1
  simp only at i1 i2
  simp only [List.length_cons, List.length_nil]
  obtain ⟨W1, hW1, hbW1, hX1⟩ := oxm_box w1 32768 5 false 0 a1 2 c1 a2 0 c2
  have HW1 := hid hW1
  have HB2 := hid (below_on HB1.out hbW1)
  have j1 := i1.below hbW1
  have j2 := i2.below hbW1
  have hI2 := ints_lit .u8 W1 [128, 0, 11, 4, 8, 0, 8, 0] 5
  have hb2 := below_alloc W1 (.cells ([128, 0, 11, 4, 8, 0, 8, 0].map (Value.int .u8)).toArray 5)
  have G2 := hid (decode8_any [128, 0, 11, 4, 8, 0, 8, 0] _ 8 (by decide) (by decide) (octets8 (by decide)) _ hI2)
  have HB3 := hid (below_on HB2.out hb2)
  have hX2 := hX1.below hb2
  have J1 := hid (j1.below hb2)
  have J2 := hid (j2.below hb2)
  clear hW1 hbW1 hX1 j1 j2 hI2 hb2 i1 i2
  go_upto_region 2 with fail
  rw [HW1.out]
  go_wp2_with fail
  refine G2.out.mono ?_
  intro e w2 hD
  obtain ⟨q, hq, rfl, hb3⟩ : ∃ q, decL [128, 0, 11, 4, 8, 0, 8, 0] = .error q ∧ e = .returned (.tuple #[.agg #[.int .i64 0, .int .i64 0, .bool false, .int .u64 0, .slice none 0 0, .slice none 0 0], .int .i64 0, .int .i64 q]) ∧ Below _ _ w2 := by
    rcases hD with ⟨q, hq, _, he, hb3⟩ | ⟨o, _, _, _, _, hq, _⟩
    · exact ⟨q, hq, he, hb3⟩
    · rw [s8_2] at hq; simp at hq
  obtain rfl : 1033 = q := by rw [s8_2] at hq; simpa using hq
  have HB4 := hid (below_on HB3.out hb3)
  have hX3 := hX2.below hb3
  have K1 := hid (J1.out.below hb3)
  have K2 := hid (J2.out.below hb3)
  obtain ⟨V, hV, hbV, hXV⟩ := oxm_box w2 0 0 false 0 none 0 0 none 0 0
  have HV := hid hV
  have HB5 := hid (below_on HB4.out hbV)
  have hX4 := hX3.below hbV
  have L1 := hid (K1.out.below hbV)
  have L2 := hid (K2.out.below hbV)
  have G3 := hid (fun W iv im => encode8_any 32768 5 false 0 a1 c1 a2 c2 [8, 0] [] (by decide) (by decide) (Nat.zero_le _) (octets8 (by decide)) (octets8 (by decide)) W iv im (by decide))
  clear hb3 hX2 J1 J2 hq G2 hV hbV hXV hX3 K1 K2
  go_upto_region 3 with fail
  rw [HV.out]
  obtain ⟨d0, d1, d2, d3, d4, d5⟩ := hX4.six
  go_wp2_with fail
  refine (G3.out _ L1.out L2.out).mono ?_
  rintro e w3 (⟨hr, _⟩ | ⟨hr, ad, cp, rfl, hb4, hI, hcp⟩)
  · rw [s8_3] at hr; simp at hr
  rw [s8_4] at hI hcp ⊢
  have HB6 := hid (below_on HB5.out hb4)
  have hX5 := hX4.below hb4
  have M1 := hid (L1.out.below hb4)
  have M2 := hid (L2.out.below hb4)
  have HI := hid hI
  clear d0 d1 d2 d3 d4 d5 hb4 hX4 L1 L2 G3 hr hI hcp
  obtain ⟨d0, d1, d2, d3, d4, d5⟩ := hX5.six
  simp only [List.length_cons, List.length_nil]
  go_wp2_with fail
  refine (bytes8_any [8, 0] [8, 0] a1 (some ⟨w3.heap.size, 0, none⟩) 2 2 c1 2 rfl rfl _ (by decide) (by decide) (M1.out.below (below_alloc _ _)) (ints_lit .u8 w3 [8, 0] _)).mono ?_
  rintro e w4 ⟨he, hb5⟩
  obtain rfl : e = .returned (.bool true) := he
  have hE := below_on (below_alloc w3 _) hb5
  have HB7 := hid (below_on HB6.out hE)
  have hX6 := hX5.below hE
  have N1 := hid (M1.out.below hE)
  have N2 := hid (M2.out.below hE)
  have HJ := hid (HI.out.below hE)
  clear d0 d1 d2 d3 d4 d5 hb5 hE hX5 M1 M2
  obtain ⟨d0, d1, d2, d3, d4, d5⟩ := hX6.six
  go_wp2_with fail
  refine (bytes8_any [128, 0, 10, 2, 8, 0] [128, 0, 10, 2, 8, 0] ad (some ⟨w4.heap.size, 0, none⟩) 6 6 cp 6 rfl rfl _ (by decide) (by decide) (HJ.out.below (below_alloc _ _)) (ints_lit .u8 w4 [128, 0, 10, 2, 8, 0] _)).mono ?_
  rintro e w5 ⟨he, hb5⟩
  obtain rfl : e = .returned (.bool true) := he
  have hE := below_on (below_alloc w4 _) hb5
  have HB8 := hid (below_on HB7.out hE)
  have hX7 := hX6.below hE
  have P1 := hid (N1.out.below hE)
  have P2 := hid (N2.out.below hE)
  clear d0 d1 d2 d3 d4 d5 hb5 hE hX6 N1 N2 HI HJ
  obtain ⟨d0, d1, d2, d3, d4, d5⟩ := hX7.six
  go_wp2_with fail
  refine (right8_any 32768 5 false 0 a1 c1 a2 c2 [8, 0] [] (by decide) (by decide) (Nat.zero_le _) (octets8 (by decide)) (octets8 (by decide)) _ P1.out P2.out).mono ?_
  rintro e w6 ⟨he, hb6⟩
  obtain rfl : e = .returned (.bool true) := by rw [s8_3] at he; exact he
  go_wp2_with fail
  go_ret
  exact ⟨rfl, below_on HB8.out hb6⟩
end Go.Proofs.Ytfogpofgmnibcaa
