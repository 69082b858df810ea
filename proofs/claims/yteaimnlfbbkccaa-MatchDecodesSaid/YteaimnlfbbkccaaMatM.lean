/- Layer 10's sure. -/
import Derived.Test.YteaimnlfbbkccaaMatL
import Derived.Test.YteaimnlfbbkccaaMatG
import Derived.Test.YteaimnlfbbkccaaMrg3
namespace Go.Proofs.Yteaimnlfbbkccaa
open Go.RowKit
set_option linter.unusedVariables false
set_option maxRecDepth 100000

def lit10a : List Int := [0, 1, 0, 10, 128, 0, 10, 2, 8, 0, 0, 0, 0, 0, 0, 0, 9]
def lit10b : List Int := [0, 1, 0, 10, 128, 0, 26, 2, 8, 0, 0, 0, 0, 0, 0, 0]
def ox510 : Ox9 := ⟨32768, 5, false, 0, [8, 0], []⟩
theorem s10_1 : isMatch10 [] = true := rfl
theorem s10_2 : match10 [] = [0, 1, 0, 4, 0, 0, 0, 0] := by decide +kernel
theorem s10_3 : matchL lit10a = .ok ([ox510], 16) := by rfl
theorem s10_4 : matchL lit10b = .error 1034 := by rfl
theorem s10_5 : isMatch10 [ox510] = true := by decide +kernel
theorem s10_6 : len10 [ox510] ≤ 65528 := by decide +kernel
theorem s10_7 : len10 [] ≤ 65528 := by decide
theorem s10_8 : (vals10 ((lit10a.take (num10 lit10a).toNat).drop 4)).1.length ≤ 1000 := by decide +kernel
theorem s10_9 : (vals10 ((lit10b.take (num10 lit10b).toNat).drop 4)).1.length ≤ 1000 := by decide +kernel
theorem one_of_map {D : List Ent9} {x : Ox9} (h : D.map Ent9.o = [x]) : ∃ d, D = [d] ∧ d.o = x := by
  cases D with
  | nil => cases h
  | cons d r =>
    cases r with
    | nil => exact ⟨d, rfl, by simpa using h⟩
    | cons e r => simp at h
theorem l9_nil10 (w : World) (a : Option Addr) : L9 w a [] := ⟨Oxms.nil _ _, by simp, by simp, by simp⟩
set_option maxHeartbeats 4000000 in
theorem sure10_any (w : World) : Calls Try.prog 9 #[] w fun e w' => e = .returned (.bool true) ∧ Below w.heap.size w w' := by
  have HE := hid (encode10_any w none 0 [] (l9_nil10 w none) (by simp) s10_7)
  go_enter Try.func9, Try.ntmps9
  go_wp2_with fail
  refine HE.out.mono ?_
  rintro e w1 (⟨hno, _⟩ | ⟨_, k, rfl, hb1, hI1, _⟩)
  · exact absurd hno (by rw [show ([] : List Ent9).map Ent9.o = [] from rfl, s10_1]; simp)
  rw [show ([] : List Ent9).map Ent9.o = [] from rfl, s10_2] at hI1
  rw [show (match10 (([] : List Ent9).map Ent9.o)).length = 8 by rw [show ([] : List Ent9).map Ent9.o = [] from rfl, s10_2]; rfl]
  have HB1 := hid hb1
  have HI1 := hid hI1
  clear hb1 hI1
  have hIa := ints_lit .u8 w1 lit10a 5
  have HDA := hid (decode10_any lit10a (some ⟨w1.heap.size, 0, none⟩) 17 (by decide) (by decide) (octets8 (by decide)) _ hIa s10_8)
  clear hIa
  go_wp2_with fail
  refine HDA.out.mono ?_
  rintro e w2 (⟨L, n, va, vc, D, hm, rfl, hD, hl9, hdc, hcm, _, hb2⟩ | ⟨q, hm, _⟩)
  rotate_left
  · rw [s10_3] at hm; cases hm
  rw [s10_3] at hm
  simp only [Except.ok.injEq, Prod.mk.injEq] at hm
  obtain ⟨rfl, rfl⟩ := hm
  obtain ⟨d, rfl, hd⟩ := one_of_map hD
  have HB2 := hid (below_on (below_on HB1.out (below_alloc w1 (.cells (lit10a.map (Value.int .u8)).toArray 5))) hb2)
  have HB12 := hid (below_on (below_alloc w1 (.cells (lit10a.map (Value.int .u8)).toArray 5)) hb2)
  have HL9 := hid hl9
  have HDO := hid hd
  clear hD hl9 hb2 HDA hd
  have hIb := ints_lit .u8 w2 lit10b 5
  have HDB := hid (decode10_any lit10b (some ⟨w2.heap.size, 0, none⟩) 16 (by decide) (by decide) (octets8 (by decide)) _ hIb s10_9)
  clear hIb
  go_wp2_with fail
  refine HDB.out.mono ?_
  rintro e w3 (⟨L, n, va', vc', D', hm, _⟩ | ⟨q, hm, _, rfl, hb3⟩)
  · rw [s10_4] at hm; cases hm
  rw [s10_4] at hm
  obtain rfl : q = 1034 := by simpa using hm.symm
  have HB23 := hid (below_on (below_alloc w2 (.cells (lit10b.map (Value.int .u8)).toArray 5)) hb3)
  have HL3 := hid (HL9.out.below HB23.out)
  have HI3 := hid ((HI1.out.below HB12.out).below HB23.out)
  have HB3 := hid (below_on HB2.out HB23.out)
  clear hm hb3 HDB
  have hlit := ints_lit .u8 w3 [0, 1, 0, 4, 0, 0, 0, 0] 5
  have HCMP := hid (bytes8_any [0, 1, 0, 4, 0, 0, 0, 0] [0, 1, 0, 4, 0, 0, 0, 0] (some ⟨k, 0, none⟩) (some ⟨w3.heap.size, 0, none⟩) 8 8 8 8 rfl rfl _ (by decide) (by decide) (HI3.out.below (below_alloc w3 _)) hlit)
  clear hlit
  go_wp2_with fail
  refine HCMP.out.mono ?_
  rintro e w4 ⟨rfl, hb4⟩
  have HB34 := hid (below_on (below_alloc w3 (.cells ([0, 1, 0, 4, 0, 0, 0, 0].map (Value.int .u8)).toArray 5)) hb4)
  have hL4 := HL3.out.below HB34.out
  have HL4 := hid hL4
  obtain ⟨b, off, hva, _, c1, _⟩ := hL4.ox 0 (by simp)
  subst hva
  have hc1 : w4.cell? ⟨b, off + 1, none⟩ = some (.int .i64 5) := by simpa [HDO.out, ox510] using c1
  have HRI := hid (right10_any w4 (some ⟨b, off, none⟩) vc [d] HL4.out hdc (by show len10 [d.o] ≤ _; rw [HDO.out]; exact s10_6))
  clear hL4 c1 hb4 HCMP
  go_wp2_with fail
  refine HRI.out.mono ?_
  rintro e w5 ⟨rfl, hb5⟩
  have hmt : isMatch10 ([d].map Ent9.o) = true := by show isMatch10 [d.o] = true; rw [HDO.out]; exact s10_5
  rw [hmt]
  have HB5 := hid (below_on (below_on HB3.out HB34.out) hb5)
  clear hb5 hmt
  go_wp2_with fail
  go_ret
  exact ⟨rfl, HB5.out⟩
end Go.Proofs.Yteaimnlfbbkccaa
