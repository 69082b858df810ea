/- The law's same: a field as the program tells it, and as the document does. -/
import Derived.Test.YtehgjenmcjgpnaaDoorFldF
namespace Go.Proofs.YtehgjenmcjgpnaaDoor
open Go.RowKit

theorem same_boxes (w : World) (f : Fld) (v1 v2 : Value) : ∃ W, (w.alloc (.cells #[.int .i64 f.b, .int .i64 f.z, .bool f.m, .int .i64 f.d, v1] 25)).alloc (.cells #[.string f.nm, .int .i64 f.b, .int .i64 f.z, .bool f.m, .int .i64 f.d, v2] 29) = W ∧ Below w.heap.size w W ∧
    BoxL W w.heap.size [.int .i64 f.b, .int .i64 f.z, .bool f.m, .int .i64 f.d, v1] ∧ BoxL W (w.heap.size + 1) [.string f.nm, .int .i64 f.b, .int .i64 f.z, .bool f.m, .int .i64 f.d, v2] := by
  have hs : (w.alloc (.cells #[.int .i64 f.b, .int .i64 f.z, .bool f.m, .int .i64 f.d, v1] 25)).heap.size = w.heap.size + 1 := by simp
  refine ⟨_, rfl, (below_alloc _ _).alloc (by simp) _, (BoxL.new w [.int .i64 f.b, .int .i64 f.z, .bool f.m, .int .i64 f.d, v1] 25).alloc _, ?_⟩
  rw [← hs]
  exact BoxL.new _ [.string f.nm, .int .i64 f.b, .int .i64 f.z, .bool f.m, .int .i64 f.d, v2] 29

set_option maxRecDepth 100000 in
set_option maxHeartbeats 2000000 in
theorem fldSame_any (f : Fld) (v1 v2 : Value) (hl : f.v.length ≤ 1000) (w : World) (h1 : U64s7 w v1 f.v) (h2 : U64s7 w v2 f.v) :
    Calls Tryd.prog 13 #[fldV f v1, refFldV f v2] w fun e w' => e = .returned (.bool true) ∧ Below w.heap.size w w' := by
  obtain ⟨a1, c1, rfl, hI1⟩ := h1
  obtain ⟨a2, c2, rfl, hI2⟩ := h2
  unfold fldV refFldV
  obtain ⟨W, hW, hbW, hB1, hB2⟩ := same_boxes w f (.slice a1 f.v.length c1) (.slice a2 f.v.length c2)
  have HW := hid hW
  have J1 := hid (hI1.below hbW)
  have J2 := hid (hI2.below hbW)
  have HB := hid hbW
  have K1 := hid hB1
  have K2 := hid hB2
  obtain ⟨l, hll⟩ : ∃ l, f.v = l := ⟨_, rfl⟩
  rw [hll] at hl J1 J2 K1 K2 ⊢
  obtain ⟨x0, x1, x2, x3, x4⟩ := K1.out.five
  obtain ⟨y0, y1, y2, y3, y4, y5⟩ := K2.out.six
  rw [hll] at HW
  clear hI1 hI2 hW hbW hB1 hB2 hll
  go_enter Tryd.func13, Tryd.ntmps13
  go_wp2_with fail
  rw [HW.out]
  clear x0 x1 x2 x3 x4 y0 y1 y2 y3 y4 y5
  go_loopw [5] (fun i wr => ∃ k : Nat, k ≤ l.length ∧ i = .int .i64 k ∧ Below W.heap.size W wr) (fun i _ => l.length - (intOf i).toNat)
  case atStart => exact ⟨0, by omega, rfl, Below.refl _ _⟩
  case round =>
    obtain ⟨k, hk, rfl, hbr⟩ := hrel
    obtain ⟨x0, x1, x2, x3, x4⟩ := (K1.out.below hbr).five
    obtain ⟨y0, y1, y2, y3, y4, y5⟩ := (K2.out.below hbr).six
    clear x0 x1 x2 x3 y0 y1 y2 y3 y4
    by_cases hlt : k < l.length
    · have hk2 : (k : Int) < (l.length : Int) := by omega
      obtain ⟨b1, o1, p, rfl, e1, g1⟩ := (J1.out.below hbr).at hlt
      obtain ⟨b2, o2, q, rfl, e2, g2⟩ := (J2.out.below hbr).at hlt
      obtain rfl : p = q := by
        have h1 := g1.out
        have h2 := g2.out
        rw [h1] at h2
        simpa using h2
      have x4 := Wk.cell x4
      have y5 := Wk.cell y5
      have e1 := Wk.cell e1
      have e2 := Wk.cell e2
      have HR := hid hbr
      clear g1 g2 hbr
      go_upto_region 6 with fail
      refine wp_region_wk (by kernel_rfl) (by kernel_rfl) ?_
      repeat (go_big_quiet_step (fail))
      refine wpQuiet_nil ?_
      rintro w2 ⟨⟨_, hb2⟩, rfl⟩
      go_wp2
      go_roundw
      case rel => exact ⟨k + 1, by omega, by go_num, below_on HR.out hb2⟩
      case measure => simp [intOf]; omega
    · obtain rfl : k = l.length := by omega
      have HR := hid hbr
      clear hbr
      go_wp2_with fail
      go_ret
      exact ⟨rfl, below_on HB.out HR.out⟩
end Go.Proofs.YtehgjenmcjgpnaaDoor
