/- What is sure of package head. -/
import Derived.Test.YtkgjmpcdndohpaaDoorHeadE
namespace Go.Proofs.YtkgjmpcdndohpaaDoor
open Go.RowKit

theorem sure6_g1 : getW [1, 1, 2, 4] [4, 2, 0, 8, 0, 0, 0, 9] = .ok [4, 2, 8, 9] := by rfl

set_option maxRecDepth 100000 in
set_option maxHeartbeats 2000000 in
theorem sure6_any (w : World) (hL : HeadLaid w) : Calls Tryd.prog 6 #[] w fun e w' => e = .returned (.bool true) ∧ Below w.heap.size w w' := by
  have k1 : checkL 4 2 8 = 0 := by decide
  have k2 : leastL 29 = 16 := by decide
  have k3 : checkL 1 0 0 = 263 := by decide
  have C1 := fun W h => check_any 4 2 8 9 W h
  have C2 := fun W h => check_any 1 0 0 0 W h
  have M1 := fun W h => least_any 29 W h
  rw [k1] at C1
  rw [k3] at C2
  rw [k2] at M1
  have C1 := hid C1
  have C2 := hid C2
  have M1 := hid M1
  clear k1 k2 k3
  have hI1 := ints_lit .u8 w [4, 2, 0, 8, 0, 0, 0, 9] 5
  have hb0 := below_alloc w (.cells ([4, 2, 0, 8, 0, 0, 0, 9].map (Value.int .u8)).toArray 5)
  have G1 := hid (headGet_any (V := 4) (T := 2) (L := 8) (X := 9) (q := 0) (.inr ⟨by decide, rfl, sure6_g1⟩) (by decide) _ 8 8 _ rfl (by decide) (octets_lit (by decide)) hI1)
  have HB0 := hid hb0
  clear hI1 hb0
  go_enter Tryd.func6, Tryd.ntmps6
  go_wp2_with fail
  refine G1.out.mono ?_
  rintro e w1 ⟨rfl, hb1⟩
  have hB1 := below_then HB0.out hb1
  clear G1 hb1
  go_upto_region 2 with fail
  obtain ⟨W, hW⟩ : ∃ W, w1.alloc (.cells #[.int .i64 4, .int .i64 2, .int .i64 8, .int .u32 9] 24) = W := ⟨_, rfl⟩
  have hd : HdBox W w1.heap.size 4 2 8 9 := by rw [← hW]; exact HdBox.new _ _ _ _ _ _
  have hBW : Below w.heap.size w W := below_then hB1 (by rw [← hW]; exact below_alloc _ _)
  rw [hW]
  clear hW hB1
  have hI2 := ints_lit .u8 W [4, 2, 0, 8, 0, 0, 0] 5
  have hb2 := below_alloc W (.cells ([4, 2, 0, 8, 0, 0, 0].map (Value.int .u8)).toArray 5)
  have G2 := hid (headGet_any (V := 0) (T := 0) (L := 0) (X := 0) (q := 10002) (.inl ⟨by decide, rfl, rfl, rfl, rfl, rfl⟩) (by decide) _ 7 7 _ rfl (by decide) (octets_lit (by decide)) hI2)
  have hd2 := hd.below hb2
  have hB2 := below_then hBW hb2
  clear hI2 hb2 hd hBW
  go_wp2_with fail
  refine G2.out.mono ?_
  rintro e w2 ⟨rfl, hb3⟩
  have hB3 := below_then hB2 hb3
  have hd3 := hd2.below hb3
  clear G2 hB2 hd2 hb3
  go_upto_region 3 with fail
  obtain ⟨V, hV⟩ : ∃ V, w2.alloc (.cells #[.int .i64 0, .int .i64 0, .int .i64 0, .int .u32 0] 24) = V := ⟨_, rfl⟩
  have hbV : Below w2.heap.size w2 V := by rw [← hV]; exact below_alloc _ _
  rw [hV]
  have hd4 := hd3.below hbV
  have hB4 := below_then hB3 hbV
  clear hV hd3 hB3 hbV
  go_wp2_with fail
  refine (answer_some 18 (by omega) _).mono ?_
  rintro e w' ⟨rfl, rfl⟩
  obtain ⟨⟨d0, d1, d2, d3⟩, hz, hlt⟩ := hd4
  have hL4 := hL.below hB4
  go_wp2_with fail
  refine (C1.out _ hL4).mono ?_
  rintro e w3 ⟨rfl, hb5⟩
  have hL5 := hL4.below hb5
  have hB5 := below_then hB4 hb5
  go_wp2_with fail
  refine (M1.out _ hL5).mono ?_
  rintro e w' ⟨rfl, rfl⟩
  go_wp2_with fail
  refine (C2.out _ hL5).mono ?_
  rintro e w4 ⟨rfl, hb6⟩
  go_wp2_with fail
  go_ret
  exact ⟨rfl, below_then hB5 hb6⟩
end Go.Proofs.YtkgjmpcdndohpaaDoor
