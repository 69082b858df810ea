/- Layer 12's sure: what must come whatever the input is. -/
import Derived.Test.YtaddhahghglabaaActP
import Derived.Test.YtaddhahghglabaaActL
import Derived.Test.YtaddhahghglabaaMrg3
namespace Go.Proofs.Ytaddhahghglabaa
open Go.RowKit
set_option linter.unusedVariables false

def lit12a : List Int := [0, 0, 0, 16, 0, 0, 0, 3, 255, 255, 0, 0, 0, 0, 0, 0]
def lit12b : List Int := [0, 25, 0, 16, 128, 0, 6, 6, 1, 2, 3, 4, 5, 6, 0, 1]
def outA12 : Act12 := ⟨0, 3, 65535, noOx, []⟩
theorem s12_1 : dec12 lit12a = .ok (outA12, 16) := by kernel_rfl
theorem s12_2 : dec12 lit12b = .error 528 := by kernel_rfl
theorem s12_3 : act12 outA12 = some lit12a := by kernel_rfl
theorem holds_lit12 (w : World) (l : List Int) (ho : Octets l) (hl : l.length ≤ 1000) : Holds (w.alloc (.cells (l.map (Value.int .u8)).toArray 5)) (some ⟨w.heap.size, 0, none⟩) l.length l :=
  ⟨Nat.le_refl _, by omega, ints_lit .u8 w l 5, ho, fun _ => ⟨_, _, rfl⟩⟩
theorem ent12_of {g : Ent12} (h : g.act = outA12) : ∃ va vc ma mc da dc, g = ⟨0, 3, 65535, noOx, va, vc, ma, mc, [], da, dc⟩ := by
  obtain ⟨T, A, B, o, va, vc, ma, mc, d, da, dc⟩ := g
  injection h with h1 h2 h3 h4 h5
  subst h1 h2 h3 h4 h5
  exact ⟨va, vc, ma, mc, da, dc, rfl⟩
set_option maxRecDepth 100000 in
set_option maxHeartbeats 2000000 in
theorem sure12_any (w : World) : Calls Try.prog 6 #[] w fun e w' => e = .returned (.bool true) ∧ Below w.heap.size w w' := by
  have hI1 := ints_lit .u8 w lit12a 5
  have hb0 := below_alloc w (.cells (lit12a.map (Value.int .u8)).toArray 5)
  have G1 := hid (actDecode_any lit12a _ 16 _ (holds_lit12 w lit12a (octets8 (by decide)) (by decide)))
  have HB0 := hid hb0
  have HI1 := hid hI1
  clear hI1 hb0
  go_enter Try.func6, Try.ntmps6
  go_wp2_with fail
  refine G1.out.mono ?_
  rintro e w1 (⟨q, hq, _⟩ | ⟨g, n, hq, rfl, hb1, hin, _⟩)
  · rw [s12_1] at hq; cases hq
  rw [s12_1] at hq
  obtain ⟨hg1, hg2⟩ : outA12 = g.act ∧ 16 = n := by injection hq with h; injection h with h1 h2; exact ⟨h1, h2⟩
  subst hg2
  obtain ⟨va, vc, ma, mc, da, dc, rfl⟩ := ent12_of hg1.symm
  have HB1 := hid (below_on HB0.out hb1)
  have I1 := hid (HI1.out.below hb1)
  have HIN := hid hin
  clear hb1 hq G1 hin hg1 HI1
  unfold Ent12.val noOx
  simp only [List.length_nil]
  obtain ⟨W1, hW1, hbW1, hX1⟩ := act_box w1 0 3 65535 0 0 false 0 va 0 vc ma 0 mc da 0 dc
  have HW1 := hid hW1
  have HB2 := hid (below_on HB1.out hbW1)
  have I2 := hid (I1.out.below hbW1)
  have IN2 := HIN.out.below hbW1
  have hb2 := below_alloc W1 (.cells (lit12b.map (Value.int .u8)).toArray 5)
  have G2 := hid (actDecode_any lit12b _ 16 _ (holds_lit12 W1 lit12b (octets8 (by decide)) (by decide)))
  have HB3 := hid (below_on HB2.out hb2)
  have hX2 := hX1.below hb2
  have I3 := hid (I2.out.below hb2)
  have IN3 := hid (IN2.below hb2)
  clear hW1 hbW1 hX1 hb2 I1 I2 IN2 HIN
  go_upto_region 3 with fail
  rw [HW1.out]
  go_wp2_with fail
  refine G2.out.mono ?_
  rintro e w2 (⟨q, hq, _, rfl, hb3⟩ | ⟨g, n, hq, _⟩)
  case inr => rw [s12_2] at hq; cases hq
  rw [s12_2] at hq
  obtain rfl : 528 = q := by injection hq
  have HB4 := hid (below_on HB3.out hb3)
  have hX3 := hX2.below hb3
  have I4 := hid (I3.out.below hb3)
  have IN4 := IN3.out.below hb3
  obtain ⟨V, hV, hbV, hXV⟩ := act_box w2 0 0 0 0 0 false 0 none 0 0 none 0 0 none 0 0
  have HV := hid hV
  have HB5 := hid (below_on HB4.out hbV)
  have hX4 := hX3.below hbV
  have I5 := hid (I4.out.below hbV)
  have IN5 := hid (IN4.below hbV)
  have G3 := hid (actEncode_any _ V IN5.out)
  clear hb3 hX2 hq G2 hV hbV hXV hX3 I3 I4 IN3 IN4
  unfold zero12
  go_upto_region 4 with fail
  rw [HV.out]
  obtain ⟨d0, d1, d2, d3, d4, d5, d6, d7, d8, d9⟩ := hX4.ten
  go_wp2_with fail
  refine G3.out.mono ?_
  rintro e w3 (⟨hq, _⟩ | ⟨xs, p, hq, rfl, hb4, hI, _⟩)
  · have : act12 outA12 = none := hq
    rw [s12_3] at this; cases this
  have hq2 : act12 outA12 = some xs := hq
  rw [s12_3] at hq2
  obtain rfl : lit12a = xs := by injection hq2
  have HB6 := hid (below_on HB5.out hb4)
  have hX5 := hX4.below hb4
  have I6 := hid (I5.out.below hb4)
  have IN6 := hid (IN5.out.below hb4)
  have HI := hid hI
  clear d0 d1 d2 d3 d4 d5 d6 d7 d8 d9 hb4 hX4 G3 hq hI hq2 I5 IN5
  obtain ⟨d0, d1, d2, d3, d4, d5, d6, d7, d8, d9⟩ := hX5.ten
  have hl : lit12a.length = 16 := rfl
  rw [hl]
  have BY := hid (bytes8_any lit12a lit12a (some ⟨p, 0, none⟩) (some ⟨w.heap.size, 0, none⟩) 16 16 16 16 rfl rfl w3 (by decide) (by decide) HI.out I6.out)
  have RI := hid (fun V hV => actRight_any _ V (IN6.out.below hV))
  have hr : ∀ g : Ent12, g.act = outA12 → right12 g = true := by
    intro g hg
    rw [right_act g (by rw [show g.d = [] from congrArg Act12.d hg]; simp), hg, s12_3]
    rfl
  have HRR : Hid (right12 ⟨0, 3, 65535, noOx, va, vc, ma, mc, [], da, dc⟩ = true) := hr _ rfl
  rw [HRR.out] at RI
  clear hr hl
  go_wp2_with fail
  refine BY.out.mono ?_
  rintro e w4 ⟨he, hb5⟩
  obtain rfl : e = .returned (.bool true) := he
  have HB7 := hid (below_on HB6.out hb5)
  clear d0 d1 d2 d3 d4 d5 d6 d7 d8 d9
  obtain ⟨d0, d1, d2, d3, d4, d5, d6, d7, d8, d9⟩ := (hX5.below hb5).ten
  go_wp2_with fail
  refine (RI.out _ hb5).mono ?_
  rintro e w5 ⟨rfl, hb6⟩
  have HB8 := hid (below_on HB7.out hb6)
  go_wp2_with fail
  go_ret
  exact ⟨rfl, HB8.out⟩
end Go.Proofs.Ytaddhahghglabaa
