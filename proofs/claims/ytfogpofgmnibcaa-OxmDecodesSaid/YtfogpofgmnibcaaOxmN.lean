/- Package oxm: a head read. -/
import Derived.Test.YtfogpofgmnibcaaOxmE
import Derived.Test.YtfogpofgmnibcaaMrg4
import Derived.WalkSmall
namespace Go.Proofs.Ytfogpofgmnibcaa
open Go.RowKit
set_option linter.unusedVariables false

/-- whether the lowest bit of a number is 1 -/
def oddB (n : Int) : Bool := n % 2 == 1
theorem num_byte {l : List Int} (ho : Octets l) : 0 ≤ numL (l.take 1) ∧ numL (l.take 1) ≤ 255 := by
  have h := numL_snoc_bound (ho.take 1)
  have h1 : (l.take 1).length ≤ 1 := by rw [List.length_take]; omega
  have h2 := p256_mono h1
  have h3 : p256 1 = 256 := by decide
  omega
theorem num_two {l : List Int} (ho : Octets l) : 0 ≤ numL (l.take 2) ∧ numL (l.take 2) ≤ 65535 := by
  have h := numL_snoc_bound (ho.take 2)
  have h1 : (l.take 2).length ≤ 2 := by rw [List.length_take]; omega
  have h2 := p256_mono h1
  have h3 : p256 2 = 65536 := by decide
  omega
/-- a store into a block that is new -/
theorem by_set_new {w w1 : World} {row : Option Nat} (h : w.grownBy w1 row) {b i : Nat} (hb : w.heap.size ≤ b) (v : Value) : w.grownBy (w1.setCell ⟨b, i, none⟩ v) row :=
  grownBy_trans h (by_setCell w1 b i v) (.inr fun g hg => by cases hg; exact hb)
theorem by_new_row {w W w1 : World} {g : Nat} (h : w.grownBy W none) (k : W.grownBy w1 (some g)) : w.grownBy w1 (some g) := grownBy_then (grownBy_more h) k
/-- what has been read of a head, in a box -/
theorem box_by {w w' : World} {b g : Nat} {l : List Value} (h : BoxL w b l) (hb : w.grownBy w' (some g)) (hne : b ≠ g) : BoxL w' b l := h.by hb (by simpa using hne)

section
variable {w : World} {g M : Nat} {l : List Int} {r s o : Int}
set_option maxRecDepth 100000 in
set_option maxHeartbeats 2000000 in
theorem readHead8_ok (h : Cur w g M l r s o 0) (hM : M < w.heap.size) (hl : 4 ≤ l.length) {C n L : Int} (hC : numL (l.take 2) = C) (hn : numL ((l.drop 2).take 1) = n) (hL : numL (((l.drop 2).drop 1).take 1) = L) :
    Calls Try.prog 58 #[.func (.func 59) #[.pointer (some ⟨g, 0, none⟩)] #[]] w fun e w' => e = .returned (.tuple #[.agg #[.int .i64 C, .int .i64 (n / 2), .bool (oddB n), .int .u64 0, .slice none 0 0, .slice none 0 0], .int .i64 L]) ∧ Cur w' g M (((l.drop 2).drop 1).drop 1) (r + 2 + 1 + 1) s o 0 ∧ w.grownBy w' (some g) := by
  have oct := h.oct
  have hg := h.block_lt
  obtain ⟨W, hW, hbW, hbox⟩ := oxm_box w 0 0 false 0 none 0 0 none 0 0
  have HW := hid hW
  have hcW := h.below hbW
  have hcWX := hid hcW
  have HBW := hid (below_by_none hbW)
  have hne : w.heap.size ≠ g := by omega
  have hMW : M ≠ w.heap.size := by omega
  clear hW hbW
  have c0 := num_two oct
  have n0 := num_byte (oct.drop 2)
  have L0 := num_byte ((oct.drop 2).drop 1)
  rw [hC] at c0
  rw [hn] at n0
  rw [hL] at L0
  obtain ⟨c1, c2⟩ := c0
  obtain ⟨n1, n2⟩ := n0
  obtain ⟨L1, L2⟩ := L0
  have HC := hid hC
  have HN := hid hn
  have HL := hid hL
  have ho := and_one_u64 n n1 (by omega)
  clear hC hn hL oct
  go_enter Try.func58, Try.ntmps58
  have HX := hid (hcW.num_ok (n := 2) (by decide) (by decide) (by omega))
  clear hcW
  go_wp2_with fail
  rw [HW.out]
  refine HX.out.mono ?_
  rintro e w1 ⟨rfl, hc1, hb⟩
  have hbx1 := box_by hbox hb hne
  have HB1 := hid (by_new_row HBW.out hb)
  rw [HC.out]
  have hc1X := hid hc1
  clear hb HX
  have HX := hid (hc1.num_ok (n := 1) (by decide) (by decide) (by simp only [List.length_drop]; omega))
  clear hc1
  go_wp2_with fail
  refine HX.out.mono ?_
  rintro e w2 ⟨rfl, hc2, hb⟩
  have hbx2 := box_by hbx1 hb hne
  have HB2 := hid (grownBy_then HB1.out hb)
  rw [HN.out]
  have hc2X := hid hc2
  clear hb HX
  have HX := hid (hc2.num_ok (n := 1) (by decide) (by decide) (by simp only [List.length_drop]; omega))
  clear hc2
  go_wp2_with fail
  refine HX.out.mono ?_
  rintro e w3 ⟨rfl, hc3, hb⟩
  have hbx3 := box_by hbx2 hb hne
  have HB3 := hid (grownBy_then HB2.out hb)
  rw [HL.out]
  have hc3X := hid hc3
  clear hb HX
  have z := hbx3.free
  obtain ⟨d0, d1, d2, d3, d4, d5⟩ := hbx3.six
  clear hc3
  go_wp2_with fail
  have hk := hbx3.set6 (.int .i64 C) (.int .i64 (n / 2)) (.bool (n % 2 == 1)) (.int .u64 0) (.slice none 0 0) (.slice none 0 0)
  obtain ⟨k0, k1, k2, k3, k4, k5⟩ := hk.six
  refine bodyPost_ret (v := .tuple #[.agg #[.int .i64 C, .int .i64 (n / 2), .bool (n % 2 == 1), .int .u64 0, .slice none 0 0, .slice none 0 0], .int .i64 L]) (by simp [results, Try.results58, go_sem, k0, k1, k2, k3, k4, k5]) rfl ⟨rfl, ?_, ?_⟩
  · repeat (refine Cur.kept ?_ (by_setCell _ _ _ _) (by simpa using hne) (by simpa using fun e => hMW e.symm))
    exact hc3X.out
  · repeat (refine by_set_new ?_ (Nat.le_refl _) _)
    exact HB3.out

theorem and_zero8 : bits BinOp.and IntKind.u64 0 1 = 0 := by decide +kernel
/-- what is read of too few bytes -/
def HeadShort (w : World) (g M : Nat) (s o : Int) (e : Ending) (w' : World) : Prop :=
  ∃ (C n r : Int) (l : List Int), (0 ≤ n ∧ n ≤ 255) ∧ e = .returned (.tuple #[.agg #[.int .i64 C, .int .i64 (n / 2), .bool (oddB n), .int .u64 0, .slice none 0 0, .slice none 0 0], .int .i64 0]) ∧ Cur w' g M l r s o s ∧ w.grownBy w' (some g)
set_option maxRecDepth 100000 in
set_option maxHeartbeats 2000000 in
theorem readHead8_short (h : Cur w g M l r s o 0) (hs : s ≠ 0) (hM : M < w.heap.size) (hl : l.length < 4) :
    Calls Try.prog 58 #[.func (.func 59) #[.pointer (some ⟨g, 0, none⟩)] #[]] w (HeadShort w g M s o) := by
  have oct := h.oct
  have hg := h.block_lt
  obtain ⟨W, hW, hbW, hbox⟩ := oxm_box w 0 0 false 0 none 0 0 none 0 0
  have HW := hid hW
  have hcW := h.below hbW
  have hcWX := hid hcW
  have HBW := hid (below_by_none hbW)
  have hne : w.heap.size ≠ g := by omega
  have hMW : M ≠ w.heap.size := by omega
  clear hW hbW
  rcases (show l.length < 2 ∨ l.length = 2 ∨ l.length = 3 by omega) with hl2 | hl2 | hl2
  · have ho := and_zero8
    clear oct
    go_enter Try.func58, Try.ntmps58
    have HX := hid (hcW.num_short (n := 2) (by decide) (by decide) (by omega))
    clear hcW
    go_wp2_with fail
    rw [HW.out]
    refine HX.out.mono ?_
    rintro e w1 ⟨rfl, hc1, hb⟩
    have hbx1 := box_by hbox hb hne
    have HB1 := hid (by_new_row HBW.out hb)
    have hc1X := hid hc1
    clear hb HX
    have HX := hid (hc1.num_late hs 1)
    clear hc1
    go_wp2_with fail
    refine HX.out.mono ?_
    rintro e w2 ⟨rfl, hb⟩
    have hc2 := hc1X.out.below hb
    have hbx2 := hbx1.below hb
    have HB2 := hid (grownBy_then HB1.out (grownBy_more (below_by_none hb)) : w.grownBy _ (some g))
    have hc2X := hid hc2
    clear hb HX
    have HX := hid (hc2.num_late hs 1)
    clear hc2
    go_wp2_with fail
    refine HX.out.mono ?_
    rintro e w3 ⟨rfl, hb⟩
    have hc3 := hc2X.out.below hb
    have hbx3 := hbx2.below hb
    have HB3 := hid (grownBy_then HB2.out (grownBy_more (below_by_none hb)) : w.grownBy _ (some g))
    have hc3X := hid hc3
    clear hb HX
    have z := hbx3.free
    obtain ⟨d0, d1, d2, d3, d4, d5⟩ := hbx3.six
    clear hc3
    go_wp2_with fail
    have hk := hbx3.set6 (.int .i64 0) (.int .i64 (0)) (.bool (false)) (.int .u64 0) (.slice none 0 0) (.slice none 0 0)
    obtain ⟨k0, k1, k2, k3, k4, k5⟩ := hk.six
    refine bodyPost_ret (v := .tuple #[.agg #[.int .i64 0, .int .i64 (0), .bool (false), .int .u64 0, .slice none 0 0, .slice none 0 0], .int .i64 0]) (by simp [results, Try.results58, go_sem, k0, k1, k2, k3, k4, k5]) rfl ⟨0, 0, r, l, by decide, rfl, ?_, ?_⟩
    · repeat (refine Cur.kept ?_ (by_setCell _ _ _ _) (by simpa using hne) (by simpa using fun e => hMW e.symm))
      exact hc3X.out
    · repeat (refine by_set_new ?_ (Nat.le_refl _) _)
      exact HB3.out
  · have c0 := num_two oct
    obtain ⟨C, hC⟩ : ∃ C, numL (l.take 2) = C := ⟨_, rfl⟩
    rw [hC] at c0
    obtain ⟨c1, c2⟩ := c0
    have HC := hid hC
    have ho := and_zero8
    clear oct hC
    go_enter Try.func58, Try.ntmps58
    have HX := hid (hcW.num_ok (n := 2) (by decide) (by decide) (by omega))
    clear hcW
    go_wp2_with fail
    rw [HW.out]
    refine HX.out.mono ?_
    rintro e w1 ⟨rfl, hc1, hb⟩
    have hbx1 := box_by hbox hb hne
    have HB1 := hid (by_new_row HBW.out hb)
    rw [HC.out]
    have hc1X := hid hc1
    clear hb HX
    have HX := hid (hc1.num_short (n := 1) (by decide) (by decide) (by simp only [List.length_drop]; omega))
    clear hc1
    go_wp2_with fail
    refine HX.out.mono ?_
    rintro e w2 ⟨rfl, hc2, hb⟩
    have hbx2 := box_by hbx1 hb hne
    have HB2 := hid (grownBy_then HB1.out hb)
    have hc2X := hid hc2
    clear hb HX
    have HX := hid (hc2.num_late hs 1)
    clear hc2
    go_wp2_with fail
    refine HX.out.mono ?_
    rintro e w3 ⟨rfl, hb⟩
    have hc3 := hc2X.out.below hb
    have hbx3 := hbx2.below hb
    have HB3 := hid (grownBy_then HB2.out (grownBy_more (below_by_none hb)) : w.grownBy _ (some g))
    have hc3X := hid hc3
    clear hb HX
    have z := hbx3.free
    obtain ⟨d0, d1, d2, d3, d4, d5⟩ := hbx3.six
    clear hc3
    go_wp2_with fail
    have hk := hbx3.set6 (.int .i64 C) (.int .i64 (0)) (.bool (false)) (.int .u64 0) (.slice none 0 0) (.slice none 0 0)
    obtain ⟨k0, k1, k2, k3, k4, k5⟩ := hk.six
    refine bodyPost_ret (v := .tuple #[.agg #[.int .i64 C, .int .i64 (0), .bool (false), .int .u64 0, .slice none 0 0, .slice none 0 0], .int .i64 0]) (by simp [results, Try.results58, go_sem, k0, k1, k2, k3, k4, k5]) rfl ⟨C, 0, r + (2 : Nat), l.drop 2, by decide, rfl, ?_, ?_⟩
    · repeat (refine Cur.kept ?_ (by_setCell _ _ _ _) (by simpa using hne) (by simpa using fun e => hMW e.symm))
      exact hc3X.out
    · repeat (refine by_set_new ?_ (Nat.le_refl _) _)
      exact HB3.out
  · have c0 := num_two oct
    have n0 := num_byte (oct.drop 2)
    obtain ⟨C, hC⟩ : ∃ C, numL (l.take 2) = C := ⟨_, rfl⟩
    obtain ⟨n, hn⟩ : ∃ C, numL ((l.drop 2).take 1) = C := ⟨_, rfl⟩
    rw [hC] at c0
    rw [hn] at n0
    obtain ⟨c1, c2⟩ := c0
    obtain ⟨n1, n2⟩ := n0
    have HC := hid hC
    have HN := hid hn
    have ho := and_one_u64 n n1 (by omega)
    clear oct hC hn
    go_enter Try.func58, Try.ntmps58
    have HX := hid (hcW.num_ok (n := 2) (by decide) (by decide) (by omega))
    clear hcW
    go_wp2_with fail
    rw [HW.out]
    refine HX.out.mono ?_
    rintro e w1 ⟨rfl, hc1, hb⟩
    have hbx1 := box_by hbox hb hne
    have HB1 := hid (by_new_row HBW.out hb)
    rw [HC.out]
    have hc1X := hid hc1
    clear hb HX
    have HX := hid (hc1.num_ok (n := 1) (by decide) (by decide) (by simp only [List.length_drop]; omega))
    clear hc1
    go_wp2_with fail
    refine HX.out.mono ?_
    rintro e w2 ⟨rfl, hc2, hb⟩
    have hbx2 := box_by hbx1 hb hne
    have HB2 := hid (grownBy_then HB1.out hb)
    rw [HN.out]
    have hc2X := hid hc2
    clear hb HX
    have HX := hid (hc2.num_short (n := 1) (by decide) (by decide) (by simp only [List.length_drop]; omega))
    clear hc2
    go_wp2_with fail
    refine HX.out.mono ?_
    rintro e w3 ⟨rfl, hc3, hb⟩
    have hbx3 := box_by hbx2 hb hne
    have HB3 := hid (grownBy_then HB2.out hb)
    have hc3X := hid hc3
    clear hb HX
    have z := hbx3.free
    obtain ⟨d0, d1, d2, d3, d4, d5⟩ := hbx3.six
    clear hc3
    go_wp2_with fail
    have hk := hbx3.set6 (.int .i64 C) (.int .i64 (n / 2)) (.bool (n % 2 == 1)) (.int .u64 0) (.slice none 0 0) (.slice none 0 0)
    obtain ⟨k0, k1, k2, k3, k4, k5⟩ := hk.six
    refine bodyPost_ret (v := .tuple #[.agg #[.int .i64 C, .int .i64 (n / 2), .bool (n % 2 == 1), .int .u64 0, .slice none 0 0, .slice none 0 0], .int .i64 0]) (by simp [results, Try.results58, go_sem, k0, k1, k2, k3, k4, k5]) rfl ⟨C, n, r + (2 : Nat) + (1 : Nat), (l.drop 2).drop 1, ⟨n1, n2⟩, rfl, ?_, ?_⟩
    · repeat (refine Cur.kept ?_ (by_setCell _ _ _ _) (by simpa using hne) (by simpa using fun e => hMW e.symm))
      exact hc3X.out
    · repeat (refine by_set_new ?_ (Nat.le_refl _) _)
      exact HB3.out
end
end Go.Proofs.Ytfogpofgmnibcaa
