/- Package oxm: a value read. -/
import Derived.Test.YtfogpofgmnibcaaOxmO
namespace Go.Proofs.Ytfogpofgmnibcaa
open Go.RowKit
set_option linter.unusedVariables false

section
variable {w : World} {g M : Nat} {l : List Int} {r s o f : Int}
/-- nothing that counts is read: there is a fault -/
def ReadNone (w : World) (g M : Nat) (s o f : Int) (e : Ending) (w' : World) : Prop :=
  ∃ (C F : Int) (H : Bool) (X : Int) (a1 : Option Addr) (n1 c1 : Nat) (a2 : Option Addr) (n2 c2 : Nat) (l : List Int) (r : Int), e = .returned (.agg #[.int .i64 C, .int .i64 F, .bool H, .int .u64 X, .slice a1 n1 c1, .slice a2 n2 c2]) ∧ Cur w' g M l r s o f ∧ w.grownBy w' (some g)

/-- a value is read -/
def ReadGood (w : World) (g M : Nat) (C F : Int) (H : Bool) (X : Int) (v m : List Int) (r s o : Int) (e : Ending) (w' : World) : Prop :=
  ∃ a1 c1 a2 c2, e = .returned (.agg #[.int .i64 C, .int .i64 F, .bool H, .int .u64 X, .slice a1 v.length c1, .slice a2 m.length c2]) ∧ Ints .u8 w' a1 v ∧ Ints .u8 w' a2 m ∧ m.length ≤ c2 ∧ (New8 w a1 ∧ New8 w a2) ∧ (∃ l, Cur w' g M l r s o 0) ∧ w.grownBy w' (some g)

set_option maxRecDepth 100000 in
set_option maxHeartbeats 2000000 in
theorem read8_few (h : Cur w g M l r s o 0) (hs : s ≠ 0) (hM : M < w.heap.size) (hl : l.length < 4) :
    Calls Try.prog 37 #[.pointer (some ⟨g, 0, none⟩)] w (ReadNone w g M s o s) := by
  have HS := hid hs
  have oct := h.oct
  have hg := h.block_lt
  obtain ⟨W, hW, hbW, hbox⟩ := oxm_box w 0 0 false 0 none 0 0 none 0 0
  have HW := hid hW
  have hcW := h.below hbW
  have hcWX := hid hcW
  have HBW := hid (below_by_none hbW)
  have hne : w.heap.size ≠ g := by omega
  have hMW : M ≠ w.heap.size := by omega
  clear hW hbW
  have hM2 : M < W.heap.size := by have := hbox.lt; omega
  have hmf : ∀ (fn : Fn) (first cap : Array Value) (w : World), (Instr.makeFunc fn first cap).run Try.prog w = .ok (.func fn first cap) w := fun _ _ _ _ => rfl
  have H1 := hid (readHead8_short hcW hs hM2 hl)
  clear hs hl hcW oct hcWX
  go_enter Try.func37, Try.ntmps37
  go_wp2_with fail
  rw [HW.out]
  refine H1.out.mono ?_
  rintro e w1 ⟨C, n, r1, l1, ⟨n0, n1⟩, rfl, hc, hb⟩
  obtain ⟨F, hF⟩ : ∃ F, n / 2 = F := ⟨_, rfl⟩
  obtain ⟨H, hH⟩ : ∃ F, oddB n = F := ⟨_, rfl⟩
  rw [hF, hH]
  clear hF hH n0 n1
  cases hC : (C == 65535)
  · skip
    have hR1 := box_by hbox hb hne
    have HB1 := hid (by_new_row HBW.out hb)
    have hs1 := hb.size
    have hs2 : w.heap.size < w1.heap.size := Nat.lt_of_lt_of_le hbox.lt hs1
    have hg1 := hc.block_lt
    obtain ⟨W1, hW1, hbW1, hX1⟩ := oxm_box w1 C F H 0 none 0 0 none 0 0
    have HW1 := hid hW1
    have hXg : w1.heap.size ≠ g := by omega
    have hXR : w1.heap.size ≠ w.heap.size := by omega
    have gX : some w1.heap.size ≠ some g := by simpa using hXg
    have gR : some w.heap.size ≠ some g := by simpa using hne
    have mX : some w1.heap.size ≠ some M := by simp; omega
    have mR : some w.heap.size ≠ some M := by simp; omega
    have hle : w.heap.size ≤ w1.heap.size := by omega
    have hc1 := hc.below hbW1
    have hR2 := hR1.below hbW1
    have HB2 := hid (grownBy_then HB1.out (grownBy_more (below_by_none hbW1)) : w.grownBy W1 (some g))
    clear hb hbox hc hR1 HB1 hW1 hbW1 hs1 hM2 hg1
    go_wp2_with fail
    rw [HW1.out]
    refine (wrongHead_any C F H 0 none 0 0 none 0 0 (0) _ (by omega) (by omega)).mono ?_
    rintro e w2 ⟨rfl, hb2⟩
    have hc2 := hc1.below hb2
    have hR3 := hR2.below hb2
    have hX2 := hX1.below hb2
    have HB3 := hid (grownBy_then HB2.out (grownBy_more (below_by_none hb2)) : w.grownBy w2 (some g))
    clear hc1 hR2 hX1 HB2 hb2 HW1
    obtain ⟨d0, d1, d2, d3, d4, d5⟩ := hX2.six
    have zX := hX2.free
    go_wp2_with fail
    refine (hc2.fail_late HS.out _).mono ?_
    rintro e w' ⟨rfl, rfl⟩
    have hc3 := hc2
    have hX3 := hX2
    have hR4 := hR3
    have HB4 := HB3
    clear hc2 hX2 hR3 HB3
    go_wp2_with fail
    have hc6 := hc3
    have hX6 := hX3
    have hR6 := hR4
    have HB6 := HB4
    clear hc3 hX3 hR4 HB4 d0 d1 d2 d3 d4 d5 zX
    refine (readBytes_late hc6 HS.out H _ (by omega) (by omega)).mono ?_
    rintro e w7 ⟨a1, n1, c1, a2, n2, c2, l5, r5, rfl, hc7, hb7⟩
    have hX7 := box_by hX6 hb7 hXg
    have hR7 := box_by hR6 hb7 hne
    have HB7 := hid (grownBy_then HB6.out hb7)
    clear hX6 hR6 HB6 hb7 hc6
    obtain ⟨d0, d1, d2, d3, d4, d5⟩ := hX7.six
    obtain ⟨e0, e1, e2, e3, e4, e5⟩ := hR7.six
    have zX := hX7.free
    have zR := hR7.free
    go_wp2_with fail
    have hk := ((hR7.far (i := 4) (.slice a1 n1 c1) hXR).far (i := 5) (.slice a2 n2 c2) hXR).set6 (.int .i64 C) (.int .i64 F) (.bool H) (.int .u64 0) (.slice a1 n1 c1) (.slice a2 n2 c2)
    obtain ⟨k0, k1, k2, k3, k4, k5⟩ := hk.six
    refine bodyPost_ret (v := .agg #[.int .i64 C, .int .i64 F, .bool H, .int .u64 0, .slice a1 n1 c1, .slice a2 n2 c2]) (by simp [results, Try.results37, go_sem, k0, k1, k2, k3, k4, k5]) rfl ⟨C, F, H, 0, a1, n1, c1, a2, n2, c2, l5, r5, rfl, ?_, ?_⟩
    · repeat (first | refine Cur.kept ?_ (by_setCell _ _ _ _) gR mR | refine Cur.kept ?_ (by_setCell _ _ _ _) gX mX)
      exact hc7
    · repeat (refine by_set_new ?_ (by omega) _)
      exact HB7.out
  · skip
    have hR1 := box_by hbox hb hne
    have HB1 := hid (by_new_row HBW.out hb)
    have hs1 := hb.size
    have hs2 : w.heap.size < w1.heap.size := Nat.lt_of_lt_of_le hbox.lt hs1
    have hg1 := hc.block_lt
    obtain ⟨W1, hW1, hbW1, hX1⟩ := oxm_box w1 C F H 0 none 0 0 none 0 0
    have HW1 := hid hW1
    have hXg : w1.heap.size ≠ g := by omega
    have hXR : w1.heap.size ≠ w.heap.size := by omega
    have gX : some w1.heap.size ≠ some g := by simpa using hXg
    have gR : some w.heap.size ≠ some g := by simpa using hne
    have mX : some w1.heap.size ≠ some M := by simp; omega
    have mR : some w.heap.size ≠ some M := by simp; omega
    have hle : w.heap.size ≤ w1.heap.size := by omega
    have hc1 := hc.below hbW1
    have hR2 := hR1.below hbW1
    have HB2 := hid (grownBy_then HB1.out (grownBy_more (below_by_none hbW1)) : w.grownBy W1 (some g))
    clear hb hbox hc hR1 HB1 hW1 hbW1 hs1 hM2 hg1
    go_wp2_with fail
    rw [HW1.out]
    refine (wrongHead_any C F H 0 none 0 0 none 0 0 (0) _ (by omega) (by omega)).mono ?_
    rintro e w2 ⟨rfl, hb2⟩
    have hc2 := hc1.below hb2
    have hR3 := hR2.below hb2
    have hX2 := hX1.below hb2
    have HB3 := hid (grownBy_then HB2.out (grownBy_more (below_by_none hb2)) : w.grownBy w2 (some g))
    clear hc1 hR2 hX1 HB2 hb2 HW1
    obtain ⟨d0, d1, d2, d3, d4, d5⟩ := hX2.six
    have zX := hX2.free
    go_wp2_with fail
    refine (hc2.fail_late HS.out _).mono ?_
    rintro e w' ⟨rfl, rfl⟩
    have hc3 := hc2
    have hX3 := hX2
    have hR4 := hR3
    have HB4 := HB3
    clear hc2 hX2 hR3 HB3
    go_wp2_with fail
    refine (hc3.num_late HS.out 4).mono ?_
    rintro e w4 ⟨rfl, hb4⟩
    have hc4 := hc3.below hb4
    have hX4 := hX3.below hb4
    have hR5 := hR4.below hb4
    have HB5 := hid (grownBy_then HB4.out (grownBy_more (below_by_none hb4)) : w.grownBy w4 (some g))
    clear hc3 hX3 hR4 HB4 hb4 d0 d1 d2 d3 d4 d5 zX
    obtain ⟨d0, d1, d2, d3, d4, d5⟩ := hX4.six
    have zX := hX4.free
    go_wp2_with fail
    have hc6 := hc4.kept (by_setCell w4 w1.heap.size 3 (.int .u64 0)) gX mX
    have hX6 := hX4.set 3 (.int .u64 0) (by simp)
    have hR6 := hR5.far (i := 3) (.int .u64 0) hXR
    have HB6 := hid (by_set_new (i := 3) HB5.out hle (.int .u64 0))
    clear hc4 hX4 hR5 HB5 d0 d1 d2 d3 d4 d5 zX
    refine (readBytes_late hc6 HS.out H _ (by omega) (by omega)).mono ?_
    rintro e w7 ⟨a1, n1, c1, a2, n2, c2, l5, r5, rfl, hc7, hb7⟩
    have hX7 := box_by hX6 hb7 hXg
    have hR7 := box_by hR6 hb7 hne
    have HB7 := hid (grownBy_then HB6.out hb7)
    clear hX6 hR6 HB6 hb7 hc6
    obtain ⟨d0, d1, d2, d3, d4, d5⟩ := hX7.six
    obtain ⟨e0, e1, e2, e3, e4, e5⟩ := hR7.six
    have zX := hX7.free
    have zR := hR7.free
    go_wp2_with fail
    have hk := ((hR7.far (i := 4) (.slice a1 n1 c1) hXR).far (i := 5) (.slice a2 n2 c2) hXR).set6 (.int .i64 C) (.int .i64 F) (.bool H) (.int .u64 0) (.slice a1 n1 c1) (.slice a2 n2 c2)
    obtain ⟨k0, k1, k2, k3, k4, k5⟩ := hk.six
    refine bodyPost_ret (v := .agg #[.int .i64 C, .int .i64 F, .bool H, .int .u64 0, .slice a1 n1 c1, .slice a2 n2 c2]) (by simp [results, Try.results37, go_sem, k0, k1, k2, k3, k4, k5]) rfl ⟨C, F, H, 0, a1, n1, c1, a2, n2, c2, l5, r5, rfl, ?_, ?_⟩
    · repeat (first | refine Cur.kept ?_ (by_setCell _ _ _ _) gR mR | refine Cur.kept ?_ (by_setCell _ _ _ _) gX mX)
      exact hc7
    · repeat (refine by_set_new ?_ (by omega) _)
      exact HB7.out

set_option maxRecDepth 100000 in
set_option maxHeartbeats 2000000 in
theorem read8_wrong (h : Cur w g M l r s o 0) (hs : s ≠ 0) (hM : M < w.heap.size) (hl : 4 ≤ l.length) {C n L F : Int} {H : Bool} (hC : numL (l.take 2) = C) (hn : numL ((l.drop 2).take 1) = n) (hL : numL (((l.drop 2).drop 1).take 1) = L) (hF : n / 2 = F) (hH : oddB n = H) (hE : headE C F H L ≠ 0) :
    Calls Try.prog 37 #[.pointer (some ⟨g, 0, none⟩)] w (ReadNone w g M s o (headE C F H L)) := by
  have HS := hid hE
  have oct := h.oct
  have hg := h.block_lt
  obtain ⟨W, hW, hbW, hbox⟩ := oxm_box w 0 0 false 0 none 0 0 none 0 0
  have HW := hid hW
  have hcW := h.below hbW
  have hcWX := hid hcW
  have HBW := hid (below_by_none hbW)
  have hne : w.heap.size ≠ g := by omega
  have hMW : M ≠ w.heap.size := by omega
  clear hW hbW
  have hM2 : M < W.heap.size := by have := hbox.lt; omega
  have hmf : ∀ (fn : Fn) (first cap : Array Value) (w : World), (Instr.makeFunc fn first cap).run Try.prog w = .ok (.func fn first cap) w := fun _ _ _ _ => rfl
  have L0 := num_byte ((oct.drop 2).drop 1)
  rw [hL] at L0
  obtain ⟨L1, L2⟩ := L0
  have H1 := readHead8_ok hcW hM2 hl hC hn hL
  rw [hF, hH] at H1
  have H1 := hid H1
  clear hs hl hcW oct hcWX hC hn hL hF hH hE
  cases hC : (C == 65535)
  · skip
    go_enter Try.func37, Try.ntmps37
    go_wp2_with fail
    rw [HW.out]
    refine H1.out.mono ?_
    rintro e w1 ⟨rfl, hc, hb⟩
    have hR1 := box_by hbox hb hne
    have HB1 := hid (by_new_row HBW.out hb)
    have hs1 := hb.size
    have hs2 : w.heap.size < w1.heap.size := Nat.lt_of_lt_of_le hbox.lt hs1
    have hg1 := hc.block_lt
    obtain ⟨W1, hW1, hbW1, hX1⟩ := oxm_box w1 C F H 0 none 0 0 none 0 0
    have HW1 := hid hW1
    have hXg : w1.heap.size ≠ g := by omega
    have hXR : w1.heap.size ≠ w.heap.size := by omega
    have gX : some w1.heap.size ≠ some g := by simpa using hXg
    have gR : some w.heap.size ≠ some g := by simpa using hne
    have mX : some w1.heap.size ≠ some M := by simp; omega
    have mR : some w.heap.size ≠ some M := by simp; omega
    have hle : w.heap.size ≤ w1.heap.size := by omega
    have hc1 := hc.below hbW1
    have hR2 := hR1.below hbW1
    have HB2 := hid (grownBy_then HB1.out (grownBy_more (below_by_none hbW1)) : w.grownBy W1 (some g))
    clear hb hbox hc hR1 HB1 hW1 hbW1 hs1 hM2 hg1
    go_wp2_with fail
    rw [HW1.out]
    refine (wrongHead_any C F H 0 none 0 0 none 0 0 (L) _ (by omega) (by omega)).mono ?_
    rintro e w2 ⟨rfl, hb2⟩
    have hc2 := hc1.below hb2
    have hR3 := hR2.below hb2
    have hX2 := hX1.below hb2
    have HB3 := hid (grownBy_then HB2.out (grownBy_more (below_by_none hb2)) : w.grownBy w2 (some g))
    clear hc1 hR2 hX1 HB2 hb2 HW1
    obtain ⟨d0, d1, d2, d3, d4, d5⟩ := hX2.six
    have zX := hX2.free
    go_wp2_with fail
    refine (hc2.fail _).mono ?_
    rintro e w3 ⟨rfl, hc3, hb3⟩
    have hX3 := box_by hX2 hb3 hXg
    have hR4 := box_by hR3 hb3 hne
    have HB4 := hid (grownBy_then HB3.out hb3)
    clear hc2 hX2 hR3 HB3 hb3 d0 d1 d2 d3 d4 d5 zX
    obtain ⟨d0, d1, d2, d3, d4, d5⟩ := hX3.six
    have zX := hX3.free
    go_wp2_with fail
    have hc6 := hc3
    have hX6 := hX3
    have hR6 := hR4
    have HB6 := HB4
    clear hc3 hX3 hR4 HB4 d0 d1 d2 d3 d4 d5 zX
    refine (readBytes_late hc6 HS.out H _ (by omega) (by omega)).mono ?_
    rintro e w7 ⟨a1, n1, c1, a2, n2, c2, l5, r5, rfl, hc7, hb7⟩
    have hX7 := box_by hX6 hb7 hXg
    have hR7 := box_by hR6 hb7 hne
    have HB7 := hid (grownBy_then HB6.out hb7)
    clear hX6 hR6 HB6 hb7 hc6
    obtain ⟨d0, d1, d2, d3, d4, d5⟩ := hX7.six
    obtain ⟨e0, e1, e2, e3, e4, e5⟩ := hR7.six
    have zX := hX7.free
    have zR := hR7.free
    go_wp2_with fail
    have hk := ((hR7.far (i := 4) (.slice a1 n1 c1) hXR).far (i := 5) (.slice a2 n2 c2) hXR).set6 (.int .i64 C) (.int .i64 F) (.bool H) (.int .u64 0) (.slice a1 n1 c1) (.slice a2 n2 c2)
    obtain ⟨k0, k1, k2, k3, k4, k5⟩ := hk.six
    refine bodyPost_ret (v := .agg #[.int .i64 C, .int .i64 F, .bool H, .int .u64 0, .slice a1 n1 c1, .slice a2 n2 c2]) (by simp [results, Try.results37, go_sem, k0, k1, k2, k3, k4, k5]) rfl ⟨C, F, H, 0, a1, n1, c1, a2, n2, c2, l5, r5, rfl, ?_, ?_⟩
    · repeat (first | refine Cur.kept ?_ (by_setCell _ _ _ _) gR mR | refine Cur.kept ?_ (by_setCell _ _ _ _) gX mX)
      exact hc7
    · repeat (refine by_set_new ?_ (by omega) _)
      exact HB7.out
  · skip
    go_enter Try.func37, Try.ntmps37
    go_wp2_with fail
    rw [HW.out]
    refine H1.out.mono ?_
    rintro e w1 ⟨rfl, hc, hb⟩
    have hR1 := box_by hbox hb hne
    have HB1 := hid (by_new_row HBW.out hb)
    have hs1 := hb.size
    have hs2 : w.heap.size < w1.heap.size := Nat.lt_of_lt_of_le hbox.lt hs1
    have hg1 := hc.block_lt
    obtain ⟨W1, hW1, hbW1, hX1⟩ := oxm_box w1 C F H 0 none 0 0 none 0 0
    have HW1 := hid hW1
    have hXg : w1.heap.size ≠ g := by omega
    have hXR : w1.heap.size ≠ w.heap.size := by omega
    have gX : some w1.heap.size ≠ some g := by simpa using hXg
    have gR : some w.heap.size ≠ some g := by simpa using hne
    have mX : some w1.heap.size ≠ some M := by simp; omega
    have mR : some w.heap.size ≠ some M := by simp; omega
    have hle : w.heap.size ≤ w1.heap.size := by omega
    have hc1 := hc.below hbW1
    have hR2 := hR1.below hbW1
    have HB2 := hid (grownBy_then HB1.out (grownBy_more (below_by_none hbW1)) : w.grownBy W1 (some g))
    clear hb hbox hc hR1 HB1 hW1 hbW1 hs1 hM2 hg1
    go_wp2_with fail
    rw [HW1.out]
    refine (wrongHead_any C F H 0 none 0 0 none 0 0 (L) _ (by omega) (by omega)).mono ?_
    rintro e w2 ⟨rfl, hb2⟩
    have hc2 := hc1.below hb2
    have hR3 := hR2.below hb2
    have hX2 := hX1.below hb2
    have HB3 := hid (grownBy_then HB2.out (grownBy_more (below_by_none hb2)) : w.grownBy w2 (some g))
    clear hc1 hR2 hX1 HB2 hb2 HW1
    obtain ⟨d0, d1, d2, d3, d4, d5⟩ := hX2.six
    have zX := hX2.free
    go_wp2_with fail
    refine (hc2.fail _).mono ?_
    rintro e w3 ⟨rfl, hc3, hb3⟩
    have hX3 := box_by hX2 hb3 hXg
    have hR4 := box_by hR3 hb3 hne
    have HB4 := hid (grownBy_then HB3.out hb3)
    clear hc2 hX2 hR3 HB3 hb3 d0 d1 d2 d3 d4 d5 zX
    obtain ⟨d0, d1, d2, d3, d4, d5⟩ := hX3.six
    have zX := hX3.free
    go_wp2_with fail
    refine (hc3.num_late HS.out 4).mono ?_
    rintro e w4 ⟨rfl, hb4⟩
    have hc4 := hc3.below hb4
    have hX4 := hX3.below hb4
    have hR5 := hR4.below hb4
    have HB5 := hid (grownBy_then HB4.out (grownBy_more (below_by_none hb4)) : w.grownBy w4 (some g))
    clear hc3 hX3 hR4 HB4 hb4 d0 d1 d2 d3 d4 d5 zX
    obtain ⟨d0, d1, d2, d3, d4, d5⟩ := hX4.six
    have zX := hX4.free
    go_wp2_with fail
    have hc6 := hc4.kept (by_setCell w4 w1.heap.size 3 (.int .u64 0)) gX mX
    have hX6 := hX4.set 3 (.int .u64 0) (by simp)
    have hR6 := hR5.far (i := 3) (.int .u64 0) hXR
    have HB6 := hid (by_set_new (i := 3) HB5.out hle (.int .u64 0))
    clear hc4 hX4 hR5 HB5 d0 d1 d2 d3 d4 d5 zX
    refine (readBytes_late hc6 HS.out H _ (by omega) (by omega)).mono ?_
    rintro e w7 ⟨a1, n1, c1, a2, n2, c2, l5, r5, rfl, hc7, hb7⟩
    have hX7 := box_by hX6 hb7 hXg
    have hR7 := box_by hR6 hb7 hne
    have HB7 := hid (grownBy_then HB6.out hb7)
    clear hX6 hR6 HB6 hb7 hc6
    obtain ⟨d0, d1, d2, d3, d4, d5⟩ := hX7.six
    obtain ⟨e0, e1, e2, e3, e4, e5⟩ := hR7.six
    have zX := hX7.free
    have zR := hR7.free
    go_wp2_with fail
    have hk := ((hR7.far (i := 4) (.slice a1 n1 c1) hXR).far (i := 5) (.slice a2 n2 c2) hXR).set6 (.int .i64 C) (.int .i64 F) (.bool H) (.int .u64 0) (.slice a1 n1 c1) (.slice a2 n2 c2)
    obtain ⟨k0, k1, k2, k3, k4, k5⟩ := hk.six
    refine bodyPost_ret (v := .agg #[.int .i64 C, .int .i64 F, .bool H, .int .u64 0, .slice a1 n1 c1, .slice a2 n2 c2]) (by simp [results, Try.results37, go_sem, k0, k1, k2, k3, k4, k5]) rfl ⟨C, F, H, 0, a1, n1, c1, a2, n2, c2, l5, r5, rfl, ?_, ?_⟩
    · repeat (first | refine Cur.kept ?_ (by_setCell _ _ _ _) gR mR | refine Cur.kept ?_ (by_setCell _ _ _ _) gX mX)
      exact hc7
    · repeat (refine by_set_new ?_ (by omega) _)
      exact HB7.out

set_option maxRecDepth 100000 in
set_option maxHeartbeats 2000000 in
theorem read8_basic_one (h : Cur w g M l r s o 0) (hs : s ≠ 0) (hM : M < w.heap.size) (hl : 4 ≤ l.length) {n F : Int} {N : Nat} {l4 : List Int} (hC : numL (l.take 2) = 32768) (hn : numL ((l.drop 2).take 1) = n) (hL : numL (((l.drop 2).drop 1).take 1) = (N : Int)) (h4 : ((l.drop 2).drop 1).drop 1 = l4) (hF : n / 2 = F) (hH : oddB n = false) (hE : headE 32768 F false ((N : Int)) = 0) {v m : List Int} (hm : m = []) (hv : l4.take N = v) (hq : N ≤ l4.length) :
    Calls Try.prog 37 #[.pointer (some ⟨g, 0, none⟩)] w (ReadGood w g M 32768 F false 0 v m (r + (2 : Nat) + (1 : Nat) + (1 : Nat) + (N : Nat)) s o) := by
  have HS := hid hs
  have oct := h.oct
  have hg := h.block_lt
  obtain ⟨W, hW, hbW, hbox⟩ := oxm_box w 0 0 false 0 none 0 0 none 0 0
  have HW := hid hW
  have hcW := h.below hbW
  have hcWX := hid hcW
  have HBW := hid (below_by_none hbW)
  have hne : w.heap.size ≠ g := by omega
  have hMW : M ≠ w.heap.size := by omega
  clear hW hbW
  have hM2 : M < W.heap.size := by have := hbox.lt; omega
  have hmf : ∀ (fn : Fn) (first cap : Array Value) (w : World), (Instr.makeFunc fn first cap).run Try.prog w = .ok (.func fn first cap) w := fun _ _ _ _ => rfl
  have L0 := num_byte ((oct.drop 2).drop 1)
  rw [hL] at L0
  obtain ⟨L1, L2⟩ := L0
  have HE := hid hE
  have H1 := readHead8_ok hcW hM2 hl hC hn hL
  rw [hF, hH, h4] at H1
  have H1 := hid H1
  have HQ := hid hq
  have HV := hid hv
  have RR : Hid (r + (2 : Nat) + (1 : Nat) + (1 : Nat) + (N : Nat) = r + (2 : Nat) + (1 : Nat) + (1 : Nat) + (N : Nat)) := hid rfl
  have HM := hid hm
  clear hq hv hm
  clear hs hl hcW oct hcWX hC hn hL h4 hF hH hE
  go_enter Try.func37, Try.ntmps37
  go_wp2_with fail
  rw [HW.out]
  refine H1.out.mono ?_
  rintro e w1 ⟨rfl, hc, hb⟩
  have hR1 := box_by hbox hb hne
  have HB1 := hid (by_new_row HBW.out hb)
  have hs1 := hb.size
  have hs2 : w.heap.size < w1.heap.size := Nat.lt_of_lt_of_le hbox.lt hs1
  have hg1 := hc.block_lt
  obtain ⟨W1, hW1, hbW1, hX1⟩ := oxm_box w1 32768 F false 0 none 0 0 none 0 0
  have HW1 := hid hW1
  have hXg : w1.heap.size ≠ g := by omega
  have hXR : w1.heap.size ≠ w.heap.size := by omega
  have gX : some w1.heap.size ≠ some g := by simpa using hXg
  have gR : some w.heap.size ≠ some g := by simpa using hne
  have mX : some w1.heap.size ≠ some M := by simp; omega
  have mR : some w.heap.size ≠ some M := by simp; omega
  have hle : w.heap.size ≤ w1.heap.size := by omega
  have hc1 := hc.below hbW1
  have hR2 := hR1.below hbW1
  have HB2 := hid (grownBy_then HB1.out (grownBy_more (below_by_none hbW1)) : w.grownBy W1 (some g))
  clear hb hbox hc hR1 HB1 hW1 hbW1 hs1 hM2 hg1
  go_wp2_with fail
  rw [HW1.out]
  refine (wrongHead_any 32768 F false 0 none 0 0 none 0 0 ((N : Int)) _ (by omega) (by omega)).mono ?_
  rintro e w2 ⟨rfl, hb2⟩
  have hc2 := hc1.below hb2
  have hR3 := hR2.below hb2
  have hX2 := hX1.below hb2
  have HB3 := hid (grownBy_then HB2.out (grownBy_more (below_by_none hb2)) : w.grownBy w2 (some g))
  clear hc1 hR2 hX1 HB2 hb2 HW1
  obtain ⟨d0, d1, d2, d3, d4, d5⟩ := hX2.six
  have zX := hX2.free
  go_wp2_with fail
  rw [HE.out]
  refine (hc2.fail _).mono ?_
  rintro e w3 ⟨rfl, hc3, hb3⟩
  have hX3 := box_by hX2 hb3 hXg
  have hR4 := box_by hR3 hb3 hne
  have HB4 := hid (grownBy_then HB3.out hb3)
  clear hc2 hX2 hR3 HB3 hb3 d0 d1 d2 d3 d4 d5 zX
  obtain ⟨d0, d1, d2, d3, d4, d5⟩ := hX3.six
  have zX := hX3.free
  go_wp2_with fail
  have hc6 := hc3
  have hX6 := hX3
  have hR6 := hR4
  have HB6 := HB4
  clear hc3 hX3 hR4 HB4 d0 d1 d2 d3 d4 d5 zX
  have hz := readBytes_one hc6 HQ.out (by omega)
  rw [HV.out, ← HM.out] at hz
  have hsz := hX6.lt
  refine (hz).mono ?_
  rintro e w7 ⟨a1, c1, a2, c2, rfl, i1, i2, hmc, hn1, hn2, hc7, hb7⟩
  have nR1 : ∀ q : Addr, a1 = some q → q.block ≠ w.heap.size := fun q hq => by have := hn1 q hq; omega
  have nX1 : ∀ q : Addr, a1 = some q → q.block ≠ w1.heap.size := fun q hq => by have := hn1 q hq; omega
  have nR2 : ∀ q : Addr, a2 = some q → q.block ≠ w.heap.size := fun q hq => by have := hn2 q hq; omega
  have nX2 : ∀ q : Addr, a2 = some q → q.block ≠ w1.heap.size := fun q hq => by have := hn2 q hq; omega
  have hw1 : New8 w a1 := fun q hq => by have := hn1 q hq; omega
  have hw2 : New8 w a2 := fun q hq => by have := hn2 q hq; omega
  clear hn1 hn2
  have hX7 := box_by hX6 hb7 hXg
  have hR7 := box_by hR6 hb7 hne
  have HB7 := hid (grownBy_then HB6.out hb7)
  clear hX6 hR6 HB6 hb7 hc6
  obtain ⟨d0, d1, d2, d3, d4, d5⟩ := hX7.six
  obtain ⟨e0, e1, e2, e3, e4, e5⟩ := hR7.six
  have zX := hX7.free
  have zR := hR7.free
  have I1 := hid i1
  have I2 := hid i2
  have HMC := hid hmc
  clear i1 i2 hmc
  obtain ⟨vl, hvl⟩ : ∃ n, v.length = n := ⟨_, rfl⟩
  obtain ⟨ml, hml⟩ : ∃ n, m.length = n := ⟨_, rfl⟩
  rw [hvl, hml]
  have HVL := hid hvl
  have HML := hid hml
  clear hvl hml
  go_wp2_with fail
  have hk := ((hR7.far (i := 4) (.slice a1 vl c1) hXR).far (i := 5) (.slice a2 ml c2) hXR).set6 (.int .i64 32768) (.int .i64 F) (.bool false) (.int .u64 0) (.slice a1 vl c1) (.slice a2 ml c2)
  obtain ⟨k0, k1, k2, k3, k4, k5⟩ := hk.six
  refine bodyPost_ret (v := .agg #[.int .i64 32768, .int .i64 F, .bool false, .int .u64 0, .slice a1 vl c1, .slice a2 ml c2]) (by simp [results, Try.results37, go_sem, k0, k1, k2, k3, k4, k5]) rfl ⟨a1, c1, a2, c2, by rw [HVL.out, HML.out], ?_, ?_, HMC.out, ⟨hw1, hw2⟩, ?_, ?_⟩
  · repeat (first | refine Ints.apart ?_ _ nR1 | refine Ints.apart ?_ _ nX1)
    exact I1.out
  · repeat (first | refine Ints.apart ?_ _ nR2 | refine Ints.apart ?_ _ nX2)
    exact I2.out
  · refine ⟨l4.drop N, ?_⟩
    repeat (first | refine Cur.kept ?_ (by_setCell _ _ _ _) gR mR | refine Cur.kept ?_ (by_setCell _ _ _ _) gX mX)
    exact hc7
  · repeat (refine by_set_new ?_ (by omega) _)
    exact HB7.out

set_option maxRecDepth 100000 in
set_option maxHeartbeats 2000000 in
theorem read8_basic_one_short (h : Cur w g M l r s o 0) (hs : s ≠ 0) (hM : M < w.heap.size) (hl : 4 ≤ l.length) {n F : Int} {N : Nat} {l4 : List Int} (hC : numL (l.take 2) = 32768) (hn : numL ((l.drop 2).take 1) = n) (hL : numL (((l.drop 2).drop 1).take 1) = (N : Int)) (h4 : ((l.drop 2).drop 1).drop 1 = l4) (hF : n / 2 = F) (hH : oddB n = false) (hE : headE 32768 F false ((N : Int)) = 0) (hq : l4.length < N) :
    Calls Try.prog 37 #[.pointer (some ⟨g, 0, none⟩)] w (ReadNone w g M s o s) := by
  have HS := hid hs
  have oct := h.oct
  have hg := h.block_lt
  obtain ⟨W, hW, hbW, hbox⟩ := oxm_box w 0 0 false 0 none 0 0 none 0 0
  have HW := hid hW
  have hcW := h.below hbW
  have hcWX := hid hcW
  have HBW := hid (below_by_none hbW)
  have hne : w.heap.size ≠ g := by omega
  have hMW : M ≠ w.heap.size := by omega
  clear hW hbW
  have hM2 : M < W.heap.size := by have := hbox.lt; omega
  have hmf : ∀ (fn : Fn) (first cap : Array Value) (w : World), (Instr.makeFunc fn first cap).run Try.prog w = .ok (.func fn first cap) w := fun _ _ _ _ => rfl
  have L0 := num_byte ((oct.drop 2).drop 1)
  rw [hL] at L0
  obtain ⟨L1, L2⟩ := L0
  have HE := hid hE
  have H1 := readHead8_ok hcW hM2 hl hC hn hL
  rw [hF, hH, h4] at H1
  have H1 := hid H1
  have HQ := hid hq
  clear hq
  clear hs hl hcW oct hcWX hC hn hL h4 hF hH hE
  go_enter Try.func37, Try.ntmps37
  go_wp2_with fail
  rw [HW.out]
  refine H1.out.mono ?_
  rintro e w1 ⟨rfl, hc, hb⟩
  have hR1 := box_by hbox hb hne
  have HB1 := hid (by_new_row HBW.out hb)
  have hs1 := hb.size
  have hs2 : w.heap.size < w1.heap.size := Nat.lt_of_lt_of_le hbox.lt hs1
  have hg1 := hc.block_lt
  obtain ⟨W1, hW1, hbW1, hX1⟩ := oxm_box w1 32768 F false 0 none 0 0 none 0 0
  have HW1 := hid hW1
  have hXg : w1.heap.size ≠ g := by omega
  have hXR : w1.heap.size ≠ w.heap.size := by omega
  have gX : some w1.heap.size ≠ some g := by simpa using hXg
  have gR : some w.heap.size ≠ some g := by simpa using hne
  have mX : some w1.heap.size ≠ some M := by simp; omega
  have mR : some w.heap.size ≠ some M := by simp; omega
  have hle : w.heap.size ≤ w1.heap.size := by omega
  have hc1 := hc.below hbW1
  have hR2 := hR1.below hbW1
  have HB2 := hid (grownBy_then HB1.out (grownBy_more (below_by_none hbW1)) : w.grownBy W1 (some g))
  clear hb hbox hc hR1 HB1 hW1 hbW1 hs1 hM2 hg1
  go_wp2_with fail
  rw [HW1.out]
  refine (wrongHead_any 32768 F false 0 none 0 0 none 0 0 ((N : Int)) _ (by omega) (by omega)).mono ?_
  rintro e w2 ⟨rfl, hb2⟩
  have hc2 := hc1.below hb2
  have hR3 := hR2.below hb2
  have hX2 := hX1.below hb2
  have HB3 := hid (grownBy_then HB2.out (grownBy_more (below_by_none hb2)) : w.grownBy w2 (some g))
  clear hc1 hR2 hX1 HB2 hb2 HW1
  obtain ⟨d0, d1, d2, d3, d4, d5⟩ := hX2.six
  have zX := hX2.free
  go_wp2_with fail
  rw [HE.out]
  refine (hc2.fail _).mono ?_
  rintro e w3 ⟨rfl, hc3, hb3⟩
  have hX3 := box_by hX2 hb3 hXg
  have hR4 := box_by hR3 hb3 hne
  have HB4 := hid (grownBy_then HB3.out hb3)
  clear hc2 hX2 hR3 HB3 hb3 d0 d1 d2 d3 d4 d5 zX
  obtain ⟨d0, d1, d2, d3, d4, d5⟩ := hX3.six
  have zX := hX3.free
  go_wp2_with fail
  have hc6 := hc3
  have hX6 := hX3
  have hR6 := hR4
  have HB6 := HB4
  clear hc3 hX3 hR4 HB4 d0 d1 d2 d3 d4 d5 zX
  refine (readBytes_one_short hc6 HQ.out (by omega)).mono ?_
  rintro e w7 ⟨a1, n1, c1, a2, n2, c2, l5, r5, rfl, hc7, hb7⟩
  have hX7 := box_by hX6 hb7 hXg
  have hR7 := box_by hR6 hb7 hne
  have HB7 := hid (grownBy_then HB6.out hb7)
  clear hX6 hR6 HB6 hb7 hc6
  obtain ⟨d0, d1, d2, d3, d4, d5⟩ := hX7.six
  obtain ⟨e0, e1, e2, e3, e4, e5⟩ := hR7.six
  have zX := hX7.free
  have zR := hR7.free
  go_wp2_with fail
  have hk := ((hR7.far (i := 4) (.slice a1 n1 c1) hXR).far (i := 5) (.slice a2 n2 c2) hXR).set6 (.int .i64 32768) (.int .i64 F) (.bool false) (.int .u64 0) (.slice a1 n1 c1) (.slice a2 n2 c2)
  obtain ⟨k0, k1, k2, k3, k4, k5⟩ := hk.six
  refine bodyPost_ret (v := .agg #[.int .i64 32768, .int .i64 F, .bool false, .int .u64 0, .slice a1 n1 c1, .slice a2 n2 c2]) (by simp [results, Try.results37, go_sem, k0, k1, k2, k3, k4, k5]) rfl ⟨32768, F, false, 0, a1, n1, c1, a2, n2, c2, l5, r5, rfl, ?_, ?_⟩
  · repeat (first | refine Cur.kept ?_ (by_setCell _ _ _ _) gR mR | refine Cur.kept ?_ (by_setCell _ _ _ _) gX mX)
    exact hc7
  · repeat (refine by_set_new ?_ (by omega) _)
    exact HB7.out

set_option maxRecDepth 100000 in
set_option maxHeartbeats 2000000 in
theorem read8_basic_two (h : Cur w g M l r s o 0) (hs : s ≠ 0) (hM : M < w.heap.size) (hl : 4 ≤ l.length) {n F : Int} {N : Nat} {l4 : List Int} (hC : numL (l.take 2) = 32768) (hn : numL ((l.drop 2).take 1) = n) (hL : numL (((l.drop 2).drop 1).take 1) = (N : Int)) (h4 : ((l.drop 2).drop 1).drop 1 = l4) (hF : n / 2 = F) (hH : oddB n = true) (hE : headE 32768 F true ((N : Int)) = 0) {v m l6 : List Int} {q : Nat} (hN : N = 2 * q) (hv : l4.take q = v) (hv2 : l4.drop q = l6) (hm : l6.take q = m) (hq : N ≤ l4.length) :
    Calls Try.prog 37 #[.pointer (some ⟨g, 0, none⟩)] w (ReadGood w g M 32768 F true 0 v m (r + (2 : Nat) + (1 : Nat) + (1 : Nat) + (N : Nat)) s o) := by
  have HS := hid hs
  have oct := h.oct
  have hg := h.block_lt
  obtain ⟨W, hW, hbW, hbox⟩ := oxm_box w 0 0 false 0 none 0 0 none 0 0
  have HW := hid hW
  have hcW := h.below hbW
  have hcWX := hid hcW
  have HBW := hid (below_by_none hbW)
  have hne : w.heap.size ≠ g := by omega
  have hMW : M ≠ w.heap.size := by omega
  clear hW hbW
  have hM2 : M < W.heap.size := by have := hbox.lt; omega
  have hmf : ∀ (fn : Fn) (first cap : Array Value) (w : World), (Instr.makeFunc fn first cap).run Try.prog w = .ok (.func fn first cap) w := fun _ _ _ _ => rfl
  have L0 := num_byte ((oct.drop 2).drop 1)
  rw [hL] at L0
  obtain ⟨L1, L2⟩ := L0
  have HE := hid hE
  have H1 := readHead8_ok hcW hM2 hl hC hn hL
  rw [hF, hH, h4] at H1
  have H1 := hid H1
  have HQ := hid hq
  have HN := hid hN
  have HV1 := hid hv
  have HV2 := hid hv2
  have HV3 := hid hm
  have RR : Hid (r + (2 : Nat) + (1 : Nat) + (1 : Nat) + (q : Nat) + (q : Nat) = r + (2 : Nat) + (1 : Nat) + (1 : Nat) + (N : Nat)) := by show _ = _; omega
  clear hq hv hv2 hm hN
  clear hs hl hcW oct hcWX hC hn hL h4 hF hH hE
  go_enter Try.func37, Try.ntmps37
  go_wp2_with fail
  rw [HW.out]
  refine H1.out.mono ?_
  rintro e w1 ⟨rfl, hc, hb⟩
  have hR1 := box_by hbox hb hne
  have HB1 := hid (by_new_row HBW.out hb)
  have hs1 := hb.size
  have hs2 : w.heap.size < w1.heap.size := Nat.lt_of_lt_of_le hbox.lt hs1
  have hg1 := hc.block_lt
  obtain ⟨W1, hW1, hbW1, hX1⟩ := oxm_box w1 32768 F true 0 none 0 0 none 0 0
  have HW1 := hid hW1
  have hXg : w1.heap.size ≠ g := by omega
  have hXR : w1.heap.size ≠ w.heap.size := by omega
  have gX : some w1.heap.size ≠ some g := by simpa using hXg
  have gR : some w.heap.size ≠ some g := by simpa using hne
  have mX : some w1.heap.size ≠ some M := by simp; omega
  have mR : some w.heap.size ≠ some M := by simp; omega
  have hle : w.heap.size ≤ w1.heap.size := by omega
  have hc1 := hc.below hbW1
  have hR2 := hR1.below hbW1
  have HB2 := hid (grownBy_then HB1.out (grownBy_more (below_by_none hbW1)) : w.grownBy W1 (some g))
  clear hb hbox hc hR1 HB1 hW1 hbW1 hs1 hM2 hg1
  go_wp2_with fail
  rw [HW1.out]
  refine (wrongHead_any 32768 F true 0 none 0 0 none 0 0 ((N : Int)) _ (by omega) (by omega)).mono ?_
  rintro e w2 ⟨rfl, hb2⟩
  have hc2 := hc1.below hb2
  have hR3 := hR2.below hb2
  have hX2 := hX1.below hb2
  have HB3 := hid (grownBy_then HB2.out (grownBy_more (below_by_none hb2)) : w.grownBy w2 (some g))
  clear hc1 hR2 hX1 HB2 hb2 HW1
  obtain ⟨d0, d1, d2, d3, d4, d5⟩ := hX2.six
  have zX := hX2.free
  go_wp2_with fail
  rw [HE.out]
  refine (hc2.fail _).mono ?_
  rintro e w3 ⟨rfl, hc3, hb3⟩
  have hX3 := box_by hX2 hb3 hXg
  have hR4 := box_by hR3 hb3 hne
  have HB4 := hid (grownBy_then HB3.out hb3)
  clear hc2 hX2 hR3 HB3 hb3 d0 d1 d2 d3 d4 d5 zX
  obtain ⟨d0, d1, d2, d3, d4, d5⟩ := hX3.six
  have zX := hX3.free
  go_wp2_with fail
  have hc6 := hc3
  have hX6 := hX3
  have hR6 := hR4
  have HB6 := HB4
  clear hc3 hX3 hR4 HB4 d0 d1 d2 d3 d4 d5 zX
  have hsz := hX6.lt
  refine (readBytes_two hc6 HN.out HQ.out (by omega) HV1.out HV2.out HV3.out rfl).mono ?_
  rintro e w7 ⟨a1, c1, a2, c2, rfl, i1, i2, hmc, hn1, hn2, hc7, hb7⟩
  have nR1 : ∀ q : Addr, a1 = some q → q.block ≠ w.heap.size := fun q hq => by have := hn1 q hq; omega
  have nX1 : ∀ q : Addr, a1 = some q → q.block ≠ w1.heap.size := fun q hq => by have := hn1 q hq; omega
  have nR2 : ∀ q : Addr, a2 = some q → q.block ≠ w.heap.size := fun q hq => by have := hn2 q hq; omega
  have nX2 : ∀ q : Addr, a2 = some q → q.block ≠ w1.heap.size := fun q hq => by have := hn2 q hq; omega
  have hw1 : New8 w a1 := fun q hq => by have := hn1 q hq; omega
  have hw2 : New8 w a2 := fun q hq => by have := hn2 q hq; omega
  clear hn1 hn2
  have hX7 := box_by hX6 hb7 hXg
  have hR7 := box_by hR6 hb7 hne
  have HB7 := hid (grownBy_then HB6.out hb7)
  clear hX6 hR6 HB6 hb7 hc6
  obtain ⟨d0, d1, d2, d3, d4, d5⟩ := hX7.six
  obtain ⟨e0, e1, e2, e3, e4, e5⟩ := hR7.six
  have zX := hX7.free
  have zR := hR7.free
  have I1 := hid i1
  have I2 := hid i2
  have HMC := hid hmc
  clear i1 i2 hmc
  obtain ⟨vl, hvl⟩ : ∃ n, v.length = n := ⟨_, rfl⟩
  obtain ⟨ml, hml⟩ : ∃ n, m.length = n := ⟨_, rfl⟩
  rw [hvl, hml]
  have HVL := hid hvl
  have HML := hid hml
  clear hvl hml
  go_wp2_with fail
  have hk := ((hR7.far (i := 4) (.slice a1 vl c1) hXR).far (i := 5) (.slice a2 ml c2) hXR).set6 (.int .i64 32768) (.int .i64 F) (.bool true) (.int .u64 0) (.slice a1 vl c1) (.slice a2 ml c2)
  obtain ⟨k0, k1, k2, k3, k4, k5⟩ := hk.six
  refine bodyPost_ret (v := .agg #[.int .i64 32768, .int .i64 F, .bool true, .int .u64 0, .slice a1 vl c1, .slice a2 ml c2]) (by simp [results, Try.results37, go_sem, k0, k1, k2, k3, k4, k5]) rfl ⟨a1, c1, a2, c2, by rw [HVL.out, HML.out], ?_, ?_, HMC.out, ⟨hw1, hw2⟩, ?_, ?_⟩
  · repeat (first | refine Ints.apart ?_ _ nR1 | refine Ints.apart ?_ _ nX1)
    exact I1.out
  · repeat (first | refine Ints.apart ?_ _ nR2 | refine Ints.apart ?_ _ nX2)
    exact I2.out
  · refine ⟨l6.drop q, ?_⟩
    rw [← RR.out]
    repeat (first | refine Cur.kept ?_ (by_setCell _ _ _ _) gR mR | refine Cur.kept ?_ (by_setCell _ _ _ _) gX mX)
    exact hc7
  · repeat (refine by_set_new ?_ (by omega) _)
    exact HB7.out

set_option maxRecDepth 100000 in
set_option maxHeartbeats 2000000 in
theorem read8_basic_two_short (h : Cur w g M l r s o 0) (hs : s ≠ 0) (hM : M < w.heap.size) (hl : 4 ≤ l.length) {n F : Int} {N : Nat} {l4 : List Int} (hC : numL (l.take 2) = 32768) (hn : numL ((l.drop 2).take 1) = n) (hL : numL (((l.drop 2).drop 1).take 1) = (N : Int)) (h4 : ((l.drop 2).drop 1).drop 1 = l4) (hF : n / 2 = F) (hH : oddB n = true) (hE : headE 32768 F true ((N : Int)) = 0) {q : Nat} (hN : N = 2 * q) (hq : l4.length < N) :
    Calls Try.prog 37 #[.pointer (some ⟨g, 0, none⟩)] w (ReadNone w g M s o s) := by
  have HS := hid hs
  have oct := h.oct
  have hg := h.block_lt
  obtain ⟨W, hW, hbW, hbox⟩ := oxm_box w 0 0 false 0 none 0 0 none 0 0
  have HW := hid hW
  have hcW := h.below hbW
  have hcWX := hid hcW
  have HBW := hid (below_by_none hbW)
  have hne : w.heap.size ≠ g := by omega
  have hMW : M ≠ w.heap.size := by omega
  clear hW hbW
  have hM2 : M < W.heap.size := by have := hbox.lt; omega
  have hmf : ∀ (fn : Fn) (first cap : Array Value) (w : World), (Instr.makeFunc fn first cap).run Try.prog w = .ok (.func fn first cap) w := fun _ _ _ _ => rfl
  have L0 := num_byte ((oct.drop 2).drop 1)
  rw [hL] at L0
  obtain ⟨L1, L2⟩ := L0
  have HE := hid hE
  have H1 := readHead8_ok hcW hM2 hl hC hn hL
  rw [hF, hH, h4] at H1
  have H1 := hid H1
  have HQ := hid hq
  have HN := hid hN
  clear hq hN
  clear hs hl hcW oct hcWX hC hn hL h4 hF hH hE
  go_enter Try.func37, Try.ntmps37
  go_wp2_with fail
  rw [HW.out]
  refine H1.out.mono ?_
  rintro e w1 ⟨rfl, hc, hb⟩
  have hR1 := box_by hbox hb hne
  have HB1 := hid (by_new_row HBW.out hb)
  have hs1 := hb.size
  have hs2 : w.heap.size < w1.heap.size := Nat.lt_of_lt_of_le hbox.lt hs1
  have hg1 := hc.block_lt
  obtain ⟨W1, hW1, hbW1, hX1⟩ := oxm_box w1 32768 F true 0 none 0 0 none 0 0
  have HW1 := hid hW1
  have hXg : w1.heap.size ≠ g := by omega
  have hXR : w1.heap.size ≠ w.heap.size := by omega
  have gX : some w1.heap.size ≠ some g := by simpa using hXg
  have gR : some w.heap.size ≠ some g := by simpa using hne
  have mX : some w1.heap.size ≠ some M := by simp; omega
  have mR : some w.heap.size ≠ some M := by simp; omega
  have hle : w.heap.size ≤ w1.heap.size := by omega
  have hc1 := hc.below hbW1
  have hR2 := hR1.below hbW1
  have HB2 := hid (grownBy_then HB1.out (grownBy_more (below_by_none hbW1)) : w.grownBy W1 (some g))
  clear hb hbox hc hR1 HB1 hW1 hbW1 hs1 hM2 hg1
  go_wp2_with fail
  rw [HW1.out]
  refine (wrongHead_any 32768 F true 0 none 0 0 none 0 0 ((N : Int)) _ (by omega) (by omega)).mono ?_
  rintro e w2 ⟨rfl, hb2⟩
  have hc2 := hc1.below hb2
  have hR3 := hR2.below hb2
  have hX2 := hX1.below hb2
  have HB3 := hid (grownBy_then HB2.out (grownBy_more (below_by_none hb2)) : w.grownBy w2 (some g))
  clear hc1 hR2 hX1 HB2 hb2 HW1
  obtain ⟨d0, d1, d2, d3, d4, d5⟩ := hX2.six
  have zX := hX2.free
  go_wp2_with fail
  rw [HE.out]
  refine (hc2.fail _).mono ?_
  rintro e w3 ⟨rfl, hc3, hb3⟩
  have hX3 := box_by hX2 hb3 hXg
  have hR4 := box_by hR3 hb3 hne
  have HB4 := hid (grownBy_then HB3.out hb3)
  clear hc2 hX2 hR3 HB3 hb3 d0 d1 d2 d3 d4 d5 zX
  obtain ⟨d0, d1, d2, d3, d4, d5⟩ := hX3.six
  have zX := hX3.free
  go_wp2_with fail
  have hc6 := hc3
  have hX6 := hX3
  have hR6 := hR4
  have HB6 := HB4
  clear hc3 hX3 hR4 HB4 d0 d1 d2 d3 d4 d5 zX
  refine (readBytes_two_short hc6 HS.out HN.out HQ.out (by omega)).mono ?_
  rintro e w7 ⟨a1, n1, c1, a2, n2, c2, l5, r5, rfl, hc7, hb7⟩
  have hX7 := box_by hX6 hb7 hXg
  have hR7 := box_by hR6 hb7 hne
  have HB7 := hid (grownBy_then HB6.out hb7)
  clear hX6 hR6 HB6 hb7 hc6
  obtain ⟨d0, d1, d2, d3, d4, d5⟩ := hX7.six
  obtain ⟨e0, e1, e2, e3, e4, e5⟩ := hR7.six
  have zX := hX7.free
  have zR := hR7.free
  go_wp2_with fail
  have hk := ((hR7.far (i := 4) (.slice a1 n1 c1) hXR).far (i := 5) (.slice a2 n2 c2) hXR).set6 (.int .i64 32768) (.int .i64 F) (.bool true) (.int .u64 0) (.slice a1 n1 c1) (.slice a2 n2 c2)
  obtain ⟨k0, k1, k2, k3, k4, k5⟩ := hk.six
  refine bodyPost_ret (v := .agg #[.int .i64 32768, .int .i64 F, .bool true, .int .u64 0, .slice a1 n1 c1, .slice a2 n2 c2]) (by simp [results, Try.results37, go_sem, k0, k1, k2, k3, k4, k5]) rfl ⟨32768, F, true, 0, a1, n1, c1, a2, n2, c2, l5, r5, rfl, ?_, ?_⟩
  · repeat (first | refine Cur.kept ?_ (by_setCell _ _ _ _) gR mR | refine Cur.kept ?_ (by_setCell _ _ _ _) gX mX)
    exact hc7
  · repeat (refine by_set_new ?_ (by omega) _)
    exact HB7.out

set_option maxRecDepth 100000 in
set_option maxHeartbeats 2000000 in
theorem read8_extra_one (h : Cur w g M l r s o 0) (hs : s ≠ 0) (hM : M < w.heap.size) (hl : 4 ≤ l.length) {n F : Int} {N : Nat} {l4 : List Int} (hC : numL (l.take 2) = 65535) (hn : numL ((l.drop 2).take 1) = n) (hL : numL (((l.drop 2).drop 1).take 1) = (N : Int) + 4) (h4 : ((l.drop 2).drop 1).drop 1 = l4) (hF : n / 2 = F) (hH : oddB n = false) (hE : headE 65535 F false ((N : Int) + 4) = 0) {XX : Int} {l5 : List Int} (hx4 : 4 ≤ l4.length) (hx : numL (l4.take 4) = XX) (h5 : l4.drop 4 = l5) {v m : List Int} (hm : m = []) (hv : l5.take N = v) (hq : N ≤ l5.length) :
    Calls Try.prog 37 #[.pointer (some ⟨g, 0, none⟩)] w (ReadGood w g M 65535 F false XX v m (r + (2 : Nat) + (1 : Nat) + (1 : Nat) + (4 : Nat) + (N : Nat)) s o) := by
  have HS := hid hs
  have oct := h.oct
  have hg := h.block_lt
  obtain ⟨W, hW, hbW, hbox⟩ := oxm_box w 0 0 false 0 none 0 0 none 0 0
  have HW := hid hW
  have hcW := h.below hbW
  have hcWX := hid hcW
  have HBW := hid (below_by_none hbW)
  have hne : w.heap.size ≠ g := by omega
  have hMW : M ≠ w.heap.size := by omega
  clear hW hbW
  have hM2 : M < W.heap.size := by have := hbox.lt; omega
  have hmf : ∀ (fn : Fn) (first cap : Array Value) (w : World), (Instr.makeFunc fn first cap).run Try.prog w = .ok (.func fn first cap) w := fun _ _ _ _ => rfl
  have L0 := num_byte ((oct.drop 2).drop 1)
  rw [hL] at L0
  obtain ⟨L1, L2⟩ := L0
  have HE := hid hE
  have H1 := readHead8_ok hcW hM2 hl hC hn hL
  rw [hF, hH, h4] at H1
  have H1 := hid H1
  have HL4 := hid hx4
  have HX := hid hx
  have H5 := hid h5
  clear hx4 hx h5
  have HQ := hid hq
  have HV := hid hv
  have RR : Hid (r + (2 : Nat) + (1 : Nat) + (1 : Nat) + (4 : Nat) + (N : Nat) = r + (2 : Nat) + (1 : Nat) + (1 : Nat) + (4 : Nat) + (N : Nat)) := hid rfl
  have HM := hid hm
  clear hq hv hm
  clear hs hl hcW oct hcWX hC hn hL h4 hF hH hE
  go_enter Try.func37, Try.ntmps37
  go_wp2_with fail
  rw [HW.out]
  refine H1.out.mono ?_
  rintro e w1 ⟨rfl, hc, hb⟩
  have hR1 := box_by hbox hb hne
  have HB1 := hid (by_new_row HBW.out hb)
  have hs1 := hb.size
  have hs2 : w.heap.size < w1.heap.size := Nat.lt_of_lt_of_le hbox.lt hs1
  have hg1 := hc.block_lt
  obtain ⟨W1, hW1, hbW1, hX1⟩ := oxm_box w1 65535 F false 0 none 0 0 none 0 0
  have HW1 := hid hW1
  have hXg : w1.heap.size ≠ g := by omega
  have hXR : w1.heap.size ≠ w.heap.size := by omega
  have gX : some w1.heap.size ≠ some g := by simpa using hXg
  have gR : some w.heap.size ≠ some g := by simpa using hne
  have mX : some w1.heap.size ≠ some M := by simp; omega
  have mR : some w.heap.size ≠ some M := by simp; omega
  have hle : w.heap.size ≤ w1.heap.size := by omega
  have hc1 := hc.below hbW1
  have hR2 := hR1.below hbW1
  have HB2 := hid (grownBy_then HB1.out (grownBy_more (below_by_none hbW1)) : w.grownBy W1 (some g))
  clear hb hbox hc hR1 HB1 hW1 hbW1 hs1 hM2 hg1
  go_wp2_with fail
  rw [HW1.out]
  refine (wrongHead_any 65535 F false 0 none 0 0 none 0 0 ((N : Int) + 4) _ (by omega) (by omega)).mono ?_
  rintro e w2 ⟨rfl, hb2⟩
  have hc2 := hc1.below hb2
  have hR3 := hR2.below hb2
  have hX2 := hX1.below hb2
  have HB3 := hid (grownBy_then HB2.out (grownBy_more (below_by_none hb2)) : w.grownBy w2 (some g))
  clear hc1 hR2 hX1 HB2 hb2 HW1
  obtain ⟨d0, d1, d2, d3, d4, d5⟩ := hX2.six
  have zX := hX2.free
  go_wp2_with fail
  rw [HE.out]
  refine (hc2.fail _).mono ?_
  rintro e w3 ⟨rfl, hc3, hb3⟩
  have hX3 := box_by hX2 hb3 hXg
  have hR4 := box_by hR3 hb3 hne
  have HB4 := hid (grownBy_then HB3.out hb3)
  clear hc2 hX2 hR3 HB3 hb3 d0 d1 d2 d3 d4 d5 zX
  obtain ⟨d0, d1, d2, d3, d4, d5⟩ := hX3.six
  have zX := hX3.free
  go_wp2_with fail
  refine (hc3.num_ok (n := 4) (by decide) (by decide) HL4.out).mono ?_
  rintro e w4 ⟨rfl, hc4, hb4⟩
  rw [HX.out]
  have hX4 := box_by hX3 hb4 hXg
  have hR5 := box_by hR4 hb4 hne
  have HB5 := hid (grownBy_then HB4.out hb4)
  clear hc3 hX3 hR4 HB4 hb4 d0 d1 d2 d3 d4 d5 zX
  obtain ⟨d0, d1, d2, d3, d4, d5⟩ := hX4.six
  have zX := hX4.free
  go_wp2_with fail
  rw [H5.out] at hc4
  have hc6 := hc4.kept (by_setCell w4 w1.heap.size 3 (.int .u64 XX)) gX mX
  have hX6 := hX4.set 3 (.int .u64 XX) (by simp)
  have hR6 := hR5.far (i := 3) (.int .u64 XX) hXR
  have HB6 := hid (by_set_new (i := 3) HB5.out hle (.int .u64 XX))
  clear hc4 hX4 hR5 HB5 d0 d1 d2 d3 d4 d5 zX
  have hz := readBytes_one hc6 HQ.out (by omega)
  rw [HV.out, ← HM.out] at hz
  have hsz := hX6.lt
  refine (hz).mono ?_
  rintro e w7 ⟨a1, c1, a2, c2, rfl, i1, i2, hmc, hn1, hn2, hc7, hb7⟩
  have nR1 : ∀ q : Addr, a1 = some q → q.block ≠ w.heap.size := fun q hq => by have := hn1 q hq; omega
  have nX1 : ∀ q : Addr, a1 = some q → q.block ≠ w1.heap.size := fun q hq => by have := hn1 q hq; omega
  have nR2 : ∀ q : Addr, a2 = some q → q.block ≠ w.heap.size := fun q hq => by have := hn2 q hq; omega
  have nX2 : ∀ q : Addr, a2 = some q → q.block ≠ w1.heap.size := fun q hq => by have := hn2 q hq; omega
  have hw1 : New8 w a1 := fun q hq => by have := hn1 q hq; omega
  have hw2 : New8 w a2 := fun q hq => by have := hn2 q hq; omega
  clear hn1 hn2
  have hX7 := box_by hX6 hb7 hXg
  have hR7 := box_by hR6 hb7 hne
  have HB7 := hid (grownBy_then HB6.out hb7)
  clear hX6 hR6 HB6 hb7 hc6
  obtain ⟨d0, d1, d2, d3, d4, d5⟩ := hX7.six
  obtain ⟨e0, e1, e2, e3, e4, e5⟩ := hR7.six
  have zX := hX7.free
  have zR := hR7.free
  have I1 := hid i1
  have I2 := hid i2
  have HMC := hid hmc
  clear i1 i2 hmc
  obtain ⟨vl, hvl⟩ : ∃ n, v.length = n := ⟨_, rfl⟩
  obtain ⟨ml, hml⟩ : ∃ n, m.length = n := ⟨_, rfl⟩
  rw [hvl, hml]
  have HVL := hid hvl
  have HML := hid hml
  clear hvl hml
  go_wp2_with fail
  have hk := ((hR7.far (i := 4) (.slice a1 vl c1) hXR).far (i := 5) (.slice a2 ml c2) hXR).set6 (.int .i64 65535) (.int .i64 F) (.bool false) (.int .u64 XX) (.slice a1 vl c1) (.slice a2 ml c2)
  obtain ⟨k0, k1, k2, k3, k4, k5⟩ := hk.six
  refine bodyPost_ret (v := .agg #[.int .i64 65535, .int .i64 F, .bool false, .int .u64 XX, .slice a1 vl c1, .slice a2 ml c2]) (by simp [results, Try.results37, go_sem, k0, k1, k2, k3, k4, k5]) rfl ⟨a1, c1, a2, c2, by rw [HVL.out, HML.out], ?_, ?_, HMC.out, ⟨hw1, hw2⟩, ?_, ?_⟩
  · repeat (first | refine Ints.apart ?_ _ nR1 | refine Ints.apart ?_ _ nX1)
    exact I1.out
  · repeat (first | refine Ints.apart ?_ _ nR2 | refine Ints.apart ?_ _ nX2)
    exact I2.out
  · refine ⟨l5.drop N, ?_⟩
    repeat (first | refine Cur.kept ?_ (by_setCell _ _ _ _) gR mR | refine Cur.kept ?_ (by_setCell _ _ _ _) gX mX)
    exact hc7
  · repeat (refine by_set_new ?_ (by omega) _)
    exact HB7.out

set_option maxRecDepth 100000 in
set_option maxHeartbeats 2000000 in
theorem read8_extra_one_short (h : Cur w g M l r s o 0) (hs : s ≠ 0) (hM : M < w.heap.size) (hl : 4 ≤ l.length) {n F : Int} {N : Nat} {l4 : List Int} (hC : numL (l.take 2) = 65535) (hn : numL ((l.drop 2).take 1) = n) (hL : numL (((l.drop 2).drop 1).take 1) = (N : Int) + 4) (h4 : ((l.drop 2).drop 1).drop 1 = l4) (hF : n / 2 = F) (hH : oddB n = false) (hE : headE 65535 F false ((N : Int) + 4) = 0) {XX : Int} {l5 : List Int} (hx4 : 4 ≤ l4.length) (hx : numL (l4.take 4) = XX) (h5 : l4.drop 4 = l5) (hq : l5.length < N) :
    Calls Try.prog 37 #[.pointer (some ⟨g, 0, none⟩)] w (ReadNone w g M s o s) := by
  have HS := hid hs
  have oct := h.oct
  have hg := h.block_lt
  obtain ⟨W, hW, hbW, hbox⟩ := oxm_box w 0 0 false 0 none 0 0 none 0 0
  have HW := hid hW
  have hcW := h.below hbW
  have hcWX := hid hcW
  have HBW := hid (below_by_none hbW)
  have hne : w.heap.size ≠ g := by omega
  have hMW : M ≠ w.heap.size := by omega
  clear hW hbW
  have hM2 : M < W.heap.size := by have := hbox.lt; omega
  have hmf : ∀ (fn : Fn) (first cap : Array Value) (w : World), (Instr.makeFunc fn first cap).run Try.prog w = .ok (.func fn first cap) w := fun _ _ _ _ => rfl
  have L0 := num_byte ((oct.drop 2).drop 1)
  rw [hL] at L0
  obtain ⟨L1, L2⟩ := L0
  have HE := hid hE
  have H1 := readHead8_ok hcW hM2 hl hC hn hL
  rw [hF, hH, h4] at H1
  have H1 := hid H1
  have HL4 := hid hx4
  have HX := hid hx
  have H5 := hid h5
  clear hx4 hx h5
  have HQ := hid hq
  clear hq
  clear hs hl hcW oct hcWX hC hn hL h4 hF hH hE
  go_enter Try.func37, Try.ntmps37
  go_wp2_with fail
  rw [HW.out]
  refine H1.out.mono ?_
  rintro e w1 ⟨rfl, hc, hb⟩
  have hR1 := box_by hbox hb hne
  have HB1 := hid (by_new_row HBW.out hb)
  have hs1 := hb.size
  have hs2 : w.heap.size < w1.heap.size := Nat.lt_of_lt_of_le hbox.lt hs1
  have hg1 := hc.block_lt
  obtain ⟨W1, hW1, hbW1, hX1⟩ := oxm_box w1 65535 F false 0 none 0 0 none 0 0
  have HW1 := hid hW1
  have hXg : w1.heap.size ≠ g := by omega
  have hXR : w1.heap.size ≠ w.heap.size := by omega
  have gX : some w1.heap.size ≠ some g := by simpa using hXg
  have gR : some w.heap.size ≠ some g := by simpa using hne
  have mX : some w1.heap.size ≠ some M := by simp; omega
  have mR : some w.heap.size ≠ some M := by simp; omega
  have hle : w.heap.size ≤ w1.heap.size := by omega
  have hc1 := hc.below hbW1
  have hR2 := hR1.below hbW1
  have HB2 := hid (grownBy_then HB1.out (grownBy_more (below_by_none hbW1)) : w.grownBy W1 (some g))
  clear hb hbox hc hR1 HB1 hW1 hbW1 hs1 hM2 hg1
  go_wp2_with fail
  rw [HW1.out]
  refine (wrongHead_any 65535 F false 0 none 0 0 none 0 0 ((N : Int) + 4) _ (by omega) (by omega)).mono ?_
  rintro e w2 ⟨rfl, hb2⟩
  have hc2 := hc1.below hb2
  have hR3 := hR2.below hb2
  have hX2 := hX1.below hb2
  have HB3 := hid (grownBy_then HB2.out (grownBy_more (below_by_none hb2)) : w.grownBy w2 (some g))
  clear hc1 hR2 hX1 HB2 hb2 HW1
  obtain ⟨d0, d1, d2, d3, d4, d5⟩ := hX2.six
  have zX := hX2.free
  go_wp2_with fail
  rw [HE.out]
  refine (hc2.fail _).mono ?_
  rintro e w3 ⟨rfl, hc3, hb3⟩
  have hX3 := box_by hX2 hb3 hXg
  have hR4 := box_by hR3 hb3 hne
  have HB4 := hid (grownBy_then HB3.out hb3)
  clear hc2 hX2 hR3 HB3 hb3 d0 d1 d2 d3 d4 d5 zX
  obtain ⟨d0, d1, d2, d3, d4, d5⟩ := hX3.six
  have zX := hX3.free
  go_wp2_with fail
  refine (hc3.num_ok (n := 4) (by decide) (by decide) HL4.out).mono ?_
  rintro e w4 ⟨rfl, hc4, hb4⟩
  rw [HX.out]
  have hX4 := box_by hX3 hb4 hXg
  have hR5 := box_by hR4 hb4 hne
  have HB5 := hid (grownBy_then HB4.out hb4)
  clear hc3 hX3 hR4 HB4 hb4 d0 d1 d2 d3 d4 d5 zX
  obtain ⟨d0, d1, d2, d3, d4, d5⟩ := hX4.six
  have zX := hX4.free
  go_wp2_with fail
  rw [H5.out] at hc4
  have hc6 := hc4.kept (by_setCell w4 w1.heap.size 3 (.int .u64 XX)) gX mX
  have hX6 := hX4.set 3 (.int .u64 XX) (by simp)
  have hR6 := hR5.far (i := 3) (.int .u64 XX) hXR
  have HB6 := hid (by_set_new (i := 3) HB5.out hle (.int .u64 XX))
  clear hc4 hX4 hR5 HB5 d0 d1 d2 d3 d4 d5 zX
  refine (readBytes_one_short hc6 HQ.out (by omega)).mono ?_
  rintro e w7 ⟨a1, n1, c1, a2, n2, c2, l5, r5, rfl, hc7, hb7⟩
  have hX7 := box_by hX6 hb7 hXg
  have hR7 := box_by hR6 hb7 hne
  have HB7 := hid (grownBy_then HB6.out hb7)
  clear hX6 hR6 HB6 hb7 hc6
  obtain ⟨d0, d1, d2, d3, d4, d5⟩ := hX7.six
  obtain ⟨e0, e1, e2, e3, e4, e5⟩ := hR7.six
  have zX := hX7.free
  have zR := hR7.free
  go_wp2_with fail
  have hk := ((hR7.far (i := 4) (.slice a1 n1 c1) hXR).far (i := 5) (.slice a2 n2 c2) hXR).set6 (.int .i64 65535) (.int .i64 F) (.bool false) (.int .u64 XX) (.slice a1 n1 c1) (.slice a2 n2 c2)
  obtain ⟨k0, k1, k2, k3, k4, k5⟩ := hk.six
  refine bodyPost_ret (v := .agg #[.int .i64 65535, .int .i64 F, .bool false, .int .u64 XX, .slice a1 n1 c1, .slice a2 n2 c2]) (by simp [results, Try.results37, go_sem, k0, k1, k2, k3, k4, k5]) rfl ⟨65535, F, false, XX, a1, n1, c1, a2, n2, c2, l5, r5, rfl, ?_, ?_⟩
  · repeat (first | refine Cur.kept ?_ (by_setCell _ _ _ _) gR mR | refine Cur.kept ?_ (by_setCell _ _ _ _) gX mX)
    exact hc7
  · repeat (refine by_set_new ?_ (by omega) _)
    exact HB7.out

set_option maxRecDepth 100000 in
set_option maxHeartbeats 2000000 in
theorem read8_extra_two (h : Cur w g M l r s o 0) (hs : s ≠ 0) (hM : M < w.heap.size) (hl : 4 ≤ l.length) {n F : Int} {N : Nat} {l4 : List Int} (hC : numL (l.take 2) = 65535) (hn : numL ((l.drop 2).take 1) = n) (hL : numL (((l.drop 2).drop 1).take 1) = (N : Int) + 4) (h4 : ((l.drop 2).drop 1).drop 1 = l4) (hF : n / 2 = F) (hH : oddB n = true) (hE : headE 65535 F true ((N : Int) + 4) = 0) {XX : Int} {l5 : List Int} (hx4 : 4 ≤ l4.length) (hx : numL (l4.take 4) = XX) (h5 : l4.drop 4 = l5) {v m l6 : List Int} {q : Nat} (hN : N = 2 * q) (hv : l5.take q = v) (hv2 : l5.drop q = l6) (hm : l6.take q = m) (hq : N ≤ l5.length) :
    Calls Try.prog 37 #[.pointer (some ⟨g, 0, none⟩)] w (ReadGood w g M 65535 F true XX v m (r + (2 : Nat) + (1 : Nat) + (1 : Nat) + (4 : Nat) + (N : Nat)) s o) := by
  have HS := hid hs
  have oct := h.oct
  have hg := h.block_lt
  obtain ⟨W, hW, hbW, hbox⟩ := oxm_box w 0 0 false 0 none 0 0 none 0 0
  have HW := hid hW
  have hcW := h.below hbW
  have hcWX := hid hcW
  have HBW := hid (below_by_none hbW)
  have hne : w.heap.size ≠ g := by omega
  have hMW : M ≠ w.heap.size := by omega
  clear hW hbW
  have hM2 : M < W.heap.size := by have := hbox.lt; omega
  have hmf : ∀ (fn : Fn) (first cap : Array Value) (w : World), (Instr.makeFunc fn first cap).run Try.prog w = .ok (.func fn first cap) w := fun _ _ _ _ => rfl
  have L0 := num_byte ((oct.drop 2).drop 1)
  rw [hL] at L0
  obtain ⟨L1, L2⟩ := L0
  have HE := hid hE
  have H1 := readHead8_ok hcW hM2 hl hC hn hL
  rw [hF, hH, h4] at H1
  have H1 := hid H1
  have HL4 := hid hx4
  have HX := hid hx
  have H5 := hid h5
  clear hx4 hx h5
  have HQ := hid hq
  have HN := hid hN
  have HV1 := hid hv
  have HV2 := hid hv2
  have HV3 := hid hm
  have RR : Hid (r + (2 : Nat) + (1 : Nat) + (1 : Nat) + (4 : Nat) + (q : Nat) + (q : Nat) = r + (2 : Nat) + (1 : Nat) + (1 : Nat) + (4 : Nat) + (N : Nat)) := by show _ = _; omega
  clear hq hv hv2 hm hN
  clear hs hl hcW oct hcWX hC hn hL h4 hF hH hE
  go_enter Try.func37, Try.ntmps37
  go_wp2_with fail
  rw [HW.out]
  refine H1.out.mono ?_
  rintro e w1 ⟨rfl, hc, hb⟩
  have hR1 := box_by hbox hb hne
  have HB1 := hid (by_new_row HBW.out hb)
  have hs1 := hb.size
  have hs2 : w.heap.size < w1.heap.size := Nat.lt_of_lt_of_le hbox.lt hs1
  have hg1 := hc.block_lt
  obtain ⟨W1, hW1, hbW1, hX1⟩ := oxm_box w1 65535 F true 0 none 0 0 none 0 0
  have HW1 := hid hW1
  have hXg : w1.heap.size ≠ g := by omega
  have hXR : w1.heap.size ≠ w.heap.size := by omega
  have gX : some w1.heap.size ≠ some g := by simpa using hXg
  have gR : some w.heap.size ≠ some g := by simpa using hne
  have mX : some w1.heap.size ≠ some M := by simp; omega
  have mR : some w.heap.size ≠ some M := by simp; omega
  have hle : w.heap.size ≤ w1.heap.size := by omega
  have hc1 := hc.below hbW1
  have hR2 := hR1.below hbW1
  have HB2 := hid (grownBy_then HB1.out (grownBy_more (below_by_none hbW1)) : w.grownBy W1 (some g))
  clear hb hbox hc hR1 HB1 hW1 hbW1 hs1 hM2 hg1
  go_wp2_with fail
  rw [HW1.out]
  refine (wrongHead_any 65535 F true 0 none 0 0 none 0 0 ((N : Int) + 4) _ (by omega) (by omega)).mono ?_
  rintro e w2 ⟨rfl, hb2⟩
  have hc2 := hc1.below hb2
  have hR3 := hR2.below hb2
  have hX2 := hX1.below hb2
  have HB3 := hid (grownBy_then HB2.out (grownBy_more (below_by_none hb2)) : w.grownBy w2 (some g))
  clear hc1 hR2 hX1 HB2 hb2 HW1
  obtain ⟨d0, d1, d2, d3, d4, d5⟩ := hX2.six
  have zX := hX2.free
  go_wp2_with fail
  rw [HE.out]
  refine (hc2.fail _).mono ?_
  rintro e w3 ⟨rfl, hc3, hb3⟩
  have hX3 := box_by hX2 hb3 hXg
  have hR4 := box_by hR3 hb3 hne
  have HB4 := hid (grownBy_then HB3.out hb3)
  clear hc2 hX2 hR3 HB3 hb3 d0 d1 d2 d3 d4 d5 zX
  obtain ⟨d0, d1, d2, d3, d4, d5⟩ := hX3.six
  have zX := hX3.free
  go_wp2_with fail
  refine (hc3.num_ok (n := 4) (by decide) (by decide) HL4.out).mono ?_
  rintro e w4 ⟨rfl, hc4, hb4⟩
  rw [HX.out]
  have hX4 := box_by hX3 hb4 hXg
  have hR5 := box_by hR4 hb4 hne
  have HB5 := hid (grownBy_then HB4.out hb4)
  clear hc3 hX3 hR4 HB4 hb4 d0 d1 d2 d3 d4 d5 zX
  obtain ⟨d0, d1, d2, d3, d4, d5⟩ := hX4.six
  have zX := hX4.free
  go_wp2_with fail
  rw [H5.out] at hc4
  have hc6 := hc4.kept (by_setCell w4 w1.heap.size 3 (.int .u64 XX)) gX mX
  have hX6 := hX4.set 3 (.int .u64 XX) (by simp)
  have hR6 := hR5.far (i := 3) (.int .u64 XX) hXR
  have HB6 := hid (by_set_new (i := 3) HB5.out hle (.int .u64 XX))
  clear hc4 hX4 hR5 HB5 d0 d1 d2 d3 d4 d5 zX
  have hsz := hX6.lt
  refine (readBytes_two hc6 HN.out HQ.out (by omega) HV1.out HV2.out HV3.out rfl).mono ?_
  rintro e w7 ⟨a1, c1, a2, c2, rfl, i1, i2, hmc, hn1, hn2, hc7, hb7⟩
  have nR1 : ∀ q : Addr, a1 = some q → q.block ≠ w.heap.size := fun q hq => by have := hn1 q hq; omega
  have nX1 : ∀ q : Addr, a1 = some q → q.block ≠ w1.heap.size := fun q hq => by have := hn1 q hq; omega
  have nR2 : ∀ q : Addr, a2 = some q → q.block ≠ w.heap.size := fun q hq => by have := hn2 q hq; omega
  have nX2 : ∀ q : Addr, a2 = some q → q.block ≠ w1.heap.size := fun q hq => by have := hn2 q hq; omega
  have hw1 : New8 w a1 := fun q hq => by have := hn1 q hq; omega
  have hw2 : New8 w a2 := fun q hq => by have := hn2 q hq; omega
  clear hn1 hn2
  have hX7 := box_by hX6 hb7 hXg
  have hR7 := box_by hR6 hb7 hne
  have HB7 := hid (grownBy_then HB6.out hb7)
  clear hX6 hR6 HB6 hb7 hc6
  obtain ⟨d0, d1, d2, d3, d4, d5⟩ := hX7.six
  obtain ⟨e0, e1, e2, e3, e4, e5⟩ := hR7.six
  have zX := hX7.free
  have zR := hR7.free
  have I1 := hid i1
  have I2 := hid i2
  have HMC := hid hmc
  clear i1 i2 hmc
  obtain ⟨vl, hvl⟩ : ∃ n, v.length = n := ⟨_, rfl⟩
  obtain ⟨ml, hml⟩ : ∃ n, m.length = n := ⟨_, rfl⟩
  rw [hvl, hml]
  have HVL := hid hvl
  have HML := hid hml
  clear hvl hml
  go_wp2_with fail
  have hk := ((hR7.far (i := 4) (.slice a1 vl c1) hXR).far (i := 5) (.slice a2 ml c2) hXR).set6 (.int .i64 65535) (.int .i64 F) (.bool true) (.int .u64 XX) (.slice a1 vl c1) (.slice a2 ml c2)
  obtain ⟨k0, k1, k2, k3, k4, k5⟩ := hk.six
  refine bodyPost_ret (v := .agg #[.int .i64 65535, .int .i64 F, .bool true, .int .u64 XX, .slice a1 vl c1, .slice a2 ml c2]) (by simp [results, Try.results37, go_sem, k0, k1, k2, k3, k4, k5]) rfl ⟨a1, c1, a2, c2, by rw [HVL.out, HML.out], ?_, ?_, HMC.out, ⟨hw1, hw2⟩, ?_, ?_⟩
  · repeat (first | refine Ints.apart ?_ _ nR1 | refine Ints.apart ?_ _ nX1)
    exact I1.out
  · repeat (first | refine Ints.apart ?_ _ nR2 | refine Ints.apart ?_ _ nX2)
    exact I2.out
  · refine ⟨l6.drop q, ?_⟩
    rw [← RR.out]
    repeat (first | refine Cur.kept ?_ (by_setCell _ _ _ _) gR mR | refine Cur.kept ?_ (by_setCell _ _ _ _) gX mX)
    exact hc7
  · repeat (refine by_set_new ?_ (by omega) _)
    exact HB7.out

set_option maxRecDepth 100000 in
set_option maxHeartbeats 2000000 in
theorem read8_extra_two_short (h : Cur w g M l r s o 0) (hs : s ≠ 0) (hM : M < w.heap.size) (hl : 4 ≤ l.length) {n F : Int} {N : Nat} {l4 : List Int} (hC : numL (l.take 2) = 65535) (hn : numL ((l.drop 2).take 1) = n) (hL : numL (((l.drop 2).drop 1).take 1) = (N : Int) + 4) (h4 : ((l.drop 2).drop 1).drop 1 = l4) (hF : n / 2 = F) (hH : oddB n = true) (hE : headE 65535 F true ((N : Int) + 4) = 0) {XX : Int} {l5 : List Int} (hx4 : 4 ≤ l4.length) (hx : numL (l4.take 4) = XX) (h5 : l4.drop 4 = l5) {q : Nat} (hN : N = 2 * q) (hq : l5.length < N) :
    Calls Try.prog 37 #[.pointer (some ⟨g, 0, none⟩)] w (ReadNone w g M s o s) := by
  have HS := hid hs
  have oct := h.oct
  have hg := h.block_lt
  obtain ⟨W, hW, hbW, hbox⟩ := oxm_box w 0 0 false 0 none 0 0 none 0 0
  have HW := hid hW
  have hcW := h.below hbW
  have hcWX := hid hcW
  have HBW := hid (below_by_none hbW)
  have hne : w.heap.size ≠ g := by omega
  have hMW : M ≠ w.heap.size := by omega
  clear hW hbW
  have hM2 : M < W.heap.size := by have := hbox.lt; omega
  have hmf : ∀ (fn : Fn) (first cap : Array Value) (w : World), (Instr.makeFunc fn first cap).run Try.prog w = .ok (.func fn first cap) w := fun _ _ _ _ => rfl
  have L0 := num_byte ((oct.drop 2).drop 1)
  rw [hL] at L0
  obtain ⟨L1, L2⟩ := L0
  have HE := hid hE
  have H1 := readHead8_ok hcW hM2 hl hC hn hL
  rw [hF, hH, h4] at H1
  have H1 := hid H1
  have HL4 := hid hx4
  have HX := hid hx
  have H5 := hid h5
  clear hx4 hx h5
  have HQ := hid hq
  have HN := hid hN
  clear hq hN
  clear hs hl hcW oct hcWX hC hn hL h4 hF hH hE
  go_enter Try.func37, Try.ntmps37
  go_wp2_with fail
  rw [HW.out]
  refine H1.out.mono ?_
  rintro e w1 ⟨rfl, hc, hb⟩
  have hR1 := box_by hbox hb hne
  have HB1 := hid (by_new_row HBW.out hb)
  have hs1 := hb.size
  have hs2 : w.heap.size < w1.heap.size := Nat.lt_of_lt_of_le hbox.lt hs1
  have hg1 := hc.block_lt
  obtain ⟨W1, hW1, hbW1, hX1⟩ := oxm_box w1 65535 F true 0 none 0 0 none 0 0
  have HW1 := hid hW1
  have hXg : w1.heap.size ≠ g := by omega
  have hXR : w1.heap.size ≠ w.heap.size := by omega
  have gX : some w1.heap.size ≠ some g := by simpa using hXg
  have gR : some w.heap.size ≠ some g := by simpa using hne
  have mX : some w1.heap.size ≠ some M := by simp; omega
  have mR : some w.heap.size ≠ some M := by simp; omega
  have hle : w.heap.size ≤ w1.heap.size := by omega
  have hc1 := hc.below hbW1
  have hR2 := hR1.below hbW1
  have HB2 := hid (grownBy_then HB1.out (grownBy_more (below_by_none hbW1)) : w.grownBy W1 (some g))
  clear hb hbox hc hR1 HB1 hW1 hbW1 hs1 hM2 hg1
  go_wp2_with fail
  rw [HW1.out]
  refine (wrongHead_any 65535 F true 0 none 0 0 none 0 0 ((N : Int) + 4) _ (by omega) (by omega)).mono ?_
  rintro e w2 ⟨rfl, hb2⟩
  have hc2 := hc1.below hb2
  have hR3 := hR2.below hb2
  have hX2 := hX1.below hb2
  have HB3 := hid (grownBy_then HB2.out (grownBy_more (below_by_none hb2)) : w.grownBy w2 (some g))
  clear hc1 hR2 hX1 HB2 hb2 HW1
  obtain ⟨d0, d1, d2, d3, d4, d5⟩ := hX2.six
  have zX := hX2.free
  go_wp2_with fail
  rw [HE.out]
  refine (hc2.fail _).mono ?_
  rintro e w3 ⟨rfl, hc3, hb3⟩
  have hX3 := box_by hX2 hb3 hXg
  have hR4 := box_by hR3 hb3 hne
  have HB4 := hid (grownBy_then HB3.out hb3)
  clear hc2 hX2 hR3 HB3 hb3 d0 d1 d2 d3 d4 d5 zX
  obtain ⟨d0, d1, d2, d3, d4, d5⟩ := hX3.six
  have zX := hX3.free
  go_wp2_with fail
  refine (hc3.num_ok (n := 4) (by decide) (by decide) HL4.out).mono ?_
  rintro e w4 ⟨rfl, hc4, hb4⟩
  rw [HX.out]
  have hX4 := box_by hX3 hb4 hXg
  have hR5 := box_by hR4 hb4 hne
  have HB5 := hid (grownBy_then HB4.out hb4)
  clear hc3 hX3 hR4 HB4 hb4 d0 d1 d2 d3 d4 d5 zX
  obtain ⟨d0, d1, d2, d3, d4, d5⟩ := hX4.six
  have zX := hX4.free
  go_wp2_with fail
  rw [H5.out] at hc4
  have hc6 := hc4.kept (by_setCell w4 w1.heap.size 3 (.int .u64 XX)) gX mX
  have hX6 := hX4.set 3 (.int .u64 XX) (by simp)
  have hR6 := hR5.far (i := 3) (.int .u64 XX) hXR
  have HB6 := hid (by_set_new (i := 3) HB5.out hle (.int .u64 XX))
  clear hc4 hX4 hR5 HB5 d0 d1 d2 d3 d4 d5 zX
  refine (readBytes_two_short hc6 HS.out HN.out HQ.out (by omega)).mono ?_
  rintro e w7 ⟨a1, n1, c1, a2, n2, c2, l5, r5, rfl, hc7, hb7⟩
  have hX7 := box_by hX6 hb7 hXg
  have hR7 := box_by hR6 hb7 hne
  have HB7 := hid (grownBy_then HB6.out hb7)
  clear hX6 hR6 HB6 hb7 hc6
  obtain ⟨d0, d1, d2, d3, d4, d5⟩ := hX7.six
  obtain ⟨e0, e1, e2, e3, e4, e5⟩ := hR7.six
  have zX := hX7.free
  have zR := hR7.free
  go_wp2_with fail
  have hk := ((hR7.far (i := 4) (.slice a1 n1 c1) hXR).far (i := 5) (.slice a2 n2 c2) hXR).set6 (.int .i64 65535) (.int .i64 F) (.bool true) (.int .u64 XX) (.slice a1 n1 c1) (.slice a2 n2 c2)
  obtain ⟨k0, k1, k2, k3, k4, k5⟩ := hk.six
  refine bodyPost_ret (v := .agg #[.int .i64 65535, .int .i64 F, .bool true, .int .u64 XX, .slice a1 n1 c1, .slice a2 n2 c2]) (by simp [results, Try.results37, go_sem, k0, k1, k2, k3, k4, k5]) rfl ⟨65535, F, true, XX, a1, n1, c1, a2, n2, c2, l5, r5, rfl, ?_, ?_⟩
  · repeat (first | refine Cur.kept ?_ (by_setCell _ _ _ _) gR mR | refine Cur.kept ?_ (by_setCell _ _ _ _) gX mX)
    exact hc7
  · repeat (refine by_set_new ?_ (by omega) _)
    exact HB7.out

set_option maxRecDepth 100000 in
set_option maxHeartbeats 2000000 in
theorem read8_extra_few (h : Cur w g M l r s o 0) (hs : s ≠ 0) (hM : M < w.heap.size) (hl : 4 ≤ l.length) {n F : Int} {N : Nat} {l4 : List Int} (hC : numL (l.take 2) = 65535) (hn : numL ((l.drop 2).take 1) = n) (hL : numL (((l.drop 2).drop 1).take 1) = (N : Int) + 4) (h4 : ((l.drop 2).drop 1).drop 1 = l4) (hF : n / 2 = F) {H : Bool} (hH : oddB n = H) (hE : headE 65535 F H ((N : Int) + 4) = 0) (hx4 : l4.length < 4) :
    Calls Try.prog 37 #[.pointer (some ⟨g, 0, none⟩)] w (ReadNone w g M s o s) := by
  have HS := hid hs
  have oct := h.oct
  have hg := h.block_lt
  obtain ⟨W, hW, hbW, hbox⟩ := oxm_box w 0 0 false 0 none 0 0 none 0 0
  have HW := hid hW
  have hcW := h.below hbW
  have hcWX := hid hcW
  have HBW := hid (below_by_none hbW)
  have hne : w.heap.size ≠ g := by omega
  have hMW : M ≠ w.heap.size := by omega
  clear hW hbW
  have hM2 : M < W.heap.size := by have := hbox.lt; omega
  have hmf : ∀ (fn : Fn) (first cap : Array Value) (w : World), (Instr.makeFunc fn first cap).run Try.prog w = .ok (.func fn first cap) w := fun _ _ _ _ => rfl
  have L0 := num_byte ((oct.drop 2).drop 1)
  rw [hL] at L0
  obtain ⟨L1, L2⟩ := L0
  have HE := hid hE
  have H1 := readHead8_ok hcW hM2 hl hC hn hL
  rw [hF, hH, h4] at H1
  have H1 := hid H1
  have HQ := hid hx4
  clear hx4
  clear hs hl hcW oct hcWX hC hn hL h4 hF hH hE
  go_enter Try.func37, Try.ntmps37
  go_wp2_with fail
  rw [HW.out]
  refine H1.out.mono ?_
  rintro e w1 ⟨rfl, hc, hb⟩
  have hR1 := box_by hbox hb hne
  have HB1 := hid (by_new_row HBW.out hb)
  have hs1 := hb.size
  have hs2 : w.heap.size < w1.heap.size := Nat.lt_of_lt_of_le hbox.lt hs1
  have hg1 := hc.block_lt
  obtain ⟨W1, hW1, hbW1, hX1⟩ := oxm_box w1 65535 F H 0 none 0 0 none 0 0
  have HW1 := hid hW1
  have hXg : w1.heap.size ≠ g := by omega
  have hXR : w1.heap.size ≠ w.heap.size := by omega
  have gX : some w1.heap.size ≠ some g := by simpa using hXg
  have gR : some w.heap.size ≠ some g := by simpa using hne
  have mX : some w1.heap.size ≠ some M := by simp; omega
  have mR : some w.heap.size ≠ some M := by simp; omega
  have hle : w.heap.size ≤ w1.heap.size := by omega
  have hc1 := hc.below hbW1
  have hR2 := hR1.below hbW1
  have HB2 := hid (grownBy_then HB1.out (grownBy_more (below_by_none hbW1)) : w.grownBy W1 (some g))
  clear hb hbox hc hR1 HB1 hW1 hbW1 hs1 hM2 hg1
  go_wp2_with fail
  rw [HW1.out]
  refine (wrongHead_any 65535 F H 0 none 0 0 none 0 0 ((N : Int) + 4) _ (by omega) (by omega)).mono ?_
  rintro e w2 ⟨rfl, hb2⟩
  have hc2 := hc1.below hb2
  have hR3 := hR2.below hb2
  have hX2 := hX1.below hb2
  have HB3 := hid (grownBy_then HB2.out (grownBy_more (below_by_none hb2)) : w.grownBy w2 (some g))
  clear hc1 hR2 hX1 HB2 hb2 HW1
  obtain ⟨d0, d1, d2, d3, d4, d5⟩ := hX2.six
  have zX := hX2.free
  go_wp2_with fail
  rw [HE.out]
  refine (hc2.fail _).mono ?_
  rintro e w3 ⟨rfl, hc3, hb3⟩
  have hX3 := box_by hX2 hb3 hXg
  have hR4 := box_by hR3 hb3 hne
  have HB4 := hid (grownBy_then HB3.out hb3)
  clear hc2 hX2 hR3 HB3 hb3 d0 d1 d2 d3 d4 d5 zX
  obtain ⟨d0, d1, d2, d3, d4, d5⟩ := hX3.six
  have zX := hX3.free
  go_wp2_with fail
  refine (hc3.num_short (n := 4) (by decide) (by decide) HQ.out).mono ?_
  rintro e w4 ⟨rfl, hc4, hb4⟩
  have hX4 := box_by hX3 hb4 hXg
  have hR5 := box_by hR4 hb4 hne
  have HB5 := hid (grownBy_then HB4.out hb4)
  clear hc3 hX3 hR4 HB4 hb4 d0 d1 d2 d3 d4 d5 zX
  obtain ⟨d0, d1, d2, d3, d4, d5⟩ := hX4.six
  have zX := hX4.free
  go_wp2_with fail
  have hc6 := hc4.kept (by_setCell w4 w1.heap.size 3 (.int .u64 0)) gX mX
  have hX6 := hX4.set 3 (.int .u64 0) (by simp)
  have hR6 := hR5.far (i := 3) (.int .u64 0) hXR
  have HB6 := hid (by_set_new (i := 3) HB5.out hle (.int .u64 0))
  clear hc4 hX4 hR5 HB5 d0 d1 d2 d3 d4 d5 zX
  refine (readBytes_late hc6 HS.out H _ (by omega) (by omega)).mono ?_
  rintro e w7 ⟨a1, n1, c1, a2, n2, c2, l5, r5, rfl, hc7, hb7⟩
  have hX7 := box_by hX6 hb7 hXg
  have hR7 := box_by hR6 hb7 hne
  have HB7 := hid (grownBy_then HB6.out hb7)
  clear hX6 hR6 HB6 hb7 hc6
  obtain ⟨d0, d1, d2, d3, d4, d5⟩ := hX7.six
  obtain ⟨e0, e1, e2, e3, e4, e5⟩ := hR7.six
  have zX := hX7.free
  have zR := hR7.free
  go_wp2_with fail
  have hk := ((hR7.far (i := 4) (.slice a1 n1 c1) hXR).far (i := 5) (.slice a2 n2 c2) hXR).set6 (.int .i64 65535) (.int .i64 F) (.bool H) (.int .u64 0) (.slice a1 n1 c1) (.slice a2 n2 c2)
  obtain ⟨k0, k1, k2, k3, k4, k5⟩ := hk.six
  refine bodyPost_ret (v := .agg #[.int .i64 65535, .int .i64 F, .bool H, .int .u64 0, .slice a1 n1 c1, .slice a2 n2 c2]) (by simp [results, Try.results37, go_sem, k0, k1, k2, k3, k4, k5]) rfl ⟨65535, F, H, 0, a1, n1, c1, a2, n2, c2, l5, r5, rfl, ?_, ?_⟩
  · repeat (first | refine Cur.kept ?_ (by_setCell _ _ _ _) gR mR | refine Cur.kept ?_ (by_setCell _ _ _ _) gX mX)
    exact hc7
  · repeat (refine by_set_new ?_ (by omega) _)
    exact HB7.out
end
end Go.Proofs.Ytfogpofgmnibcaa
