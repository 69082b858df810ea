/- Package oxm and the document's values: whether a value may be. -/
import Derived.Test.YtfogpofgmnibcaaOxmG
namespace Go.Proofs.Ytfogpofgmnibcaa
open Go.RowKit
set_option linter.unusedVariables false

/-- whether a value may be -/
def rightB (C F : Int) (H : Bool) (X : Int) (v m : List Int) : Bool :=
  room8 C F X && decide (m.length = maskZ H v.length) && decide (headE C F H (behind8 C v.length m.length) = 0) && decide (bytesE C F H v m = 0)
theorem right_room {C F X : Int} {H : Bool} {v m : List Int} (h : room8 C F X = false) : rightB C F H X v m = false := by simp [rightB, h]
theorem right_mask {C F X : Int} {H : Bool} {v m : List Int} (h : m.length ≠ maskZ H v.length) : rightB C F H X v m = false := by simp [rightB, h]
theorem right_head {C F X : Int} {H : Bool} {v m : List Int} (h : headE C F H (behind8 C v.length m.length) ≠ 0) : rightB C F H X v m = false := by simp [rightB, h]
theorem right_bytes {C F X : Int} {H : Bool} {v m : List Int} (h : bytesE C F H v m ≠ 0) : rightB C F H X v m = false := by simp [rightB, h]

set_option maxRecDepth 100000 in
set_option maxHeartbeats 1000000 in
theorem right8_any (C F : Int) (H : Bool) (X : Int) (va : Option Addr) (vc : Nat) (ma : Option Addr) (mc : Nat) (v m : List Int) (hv : v.length ≤ 1000) (hm : m.length ≤ 1000) (hmc : m.length ≤ mc) (ov : Octets v) (om : Octets m) (w : World) (iv : Ints .u8 w va v) (im : Ints .u8 w ma m) :
    Calls Try.prog 11 #[.agg #[.int .i64 C, .int .i64 F, .bool H, .int .u64 X, .slice va v.length vc, .slice ma m.length mc]] w fun e w' => e = .returned (.bool (rightB C F H X v m)) ∧ Below w.heap.size w w' := by
  obtain ⟨W, hW, hbW, hbox⟩ := oxm_box w C F H X va v.length vc ma m.length mc
  have HW := hid hW
  have HB := hid hbW
  obtain ⟨d0, d1, d2, d3, d4, d5⟩ := hbox.six
  have IV := hid (iv.below hbW)
  have IM := hid (im.below hbW)
  clear hW hbW iv im
  have hb1 : behind8 C v.length m.length ≤ 2004 := by unfold behind8; split <;> omega
  have R1 := hid (fun W => hasRoom8_any C F H X va v.length vc ma m.length mc W)
  have R2 := hid (fun W => maskSize_any C F H X va v.length vc ma m.length mc W)
  have R3 := hid (fun W => behind8_any C F H X va v.length vc ma m.length mc W (by omega) (by omega))
  have R4 := hid (fun W => wrongHead_any C F H X va v.length vc ma m.length mc (behind8 C v.length m.length) W (by omega) (by omega))
  cases h1 : room8 C F X
  · rw [right_room h1]
    rw [h1] at R1
    clear h1
    go_enter Try.func11, Try.ntmps11
    go_wp2_with fail
    rw [HW.out]
    have c0 := Wk.cell d0
    have c1 := Wk.cell d1
    have c2 := Wk.cell d2
    have c3 := Wk.cell d3
    have c4 := Wk.cell d4
    have c5 := Wk.cell d5
    clear d0 d1 d2 d3 d4 d5
    refine wp_region_wk (by kernel_rfl) (by kernel_rfl) ?_
    repeat (go_big_quiet_step (first | (go_at_call 30; exact Wk.call (R1.out _))))
    refine wpQuiet_nil ?_
    rintro w2 ⟨⟨_, hb2⟩, rfl⟩
    go_wp2_with fail
    go_ret
    exact ⟨rfl, below_on HB.out hb2⟩
  · rw [h1] at R1
    by_cases h2 : m.length = maskZ H v.length
    · have n2 : ((m.length : Int) == (maskZ H v.length : Int)) = true := by simp [h2]
      by_cases h3 : headE C F H (behind8 C v.length m.length) = 0
      · have R5 := hid (fun W iv im => wrongBytes_any C F H X va vc ma mc v m (fun _ h => by rw [h2, h]; exact Nat.le_refl _) hm hmc ov om W iv im)
        by_cases h4 : bytesE C F H v m = 0
        · rw [show rightB C F H X v m = true by simp [rightB, h1, h2.symm, h3, h4]]
          rw [h3] at R4
          rw [h4] at R5
          clear h1 h2 h3 h4 ov om
          go_enter Try.func11, Try.ntmps11
          go_wp2_with fail
          rw [HW.out]
          have c0 := Wk.cell d0
          have c1 := Wk.cell d1
          have c2 := Wk.cell d2
          have c3 := Wk.cell d3
          have c4 := Wk.cell d4
          have c5 := Wk.cell d5
          clear d0 d1 d2 d3 d4 d5
          refine wp_region_wk (by kernel_rfl) (by kernel_rfl) ?_
          repeat (go_big_quiet_step (first | (go_at_call 30; exact Wk.call (R1.out _)) | (go_at_call 31; exact Wk.call (R2.out _)) | (go_at_call 25; exact Wk.call (R3.out _)) | (go_at_call 32; exact Wk.call (R4.out _)) | (go_at_call 33; exact Wk.call (R5.out _ (IV.out.below (Wk.bel _)) (IM.out.below (Wk.bel _))))))
          refine wpQuiet_nil ?_
          rintro w2 ⟨⟨_, hb2⟩, rfl⟩
          go_wp2_with fail
          go_ret
          exact ⟨rfl, below_on HB.out hb2⟩
        · rw [right_bytes h4]
          rw [h3] at R4
          obtain ⟨q, hq⟩ : ∃ q, bytesE C F H v m = q := ⟨_, rfl⟩
          rw [hq] at R5 h4
          have n4 : (q == 0) = false := by simpa using h4
          clear h1 h2 h3 h4 ov om hq
          go_enter Try.func11, Try.ntmps11
          go_wp2_with fail
          rw [HW.out]
          have c0 := Wk.cell d0
          have c1 := Wk.cell d1
          have c2 := Wk.cell d2
          have c3 := Wk.cell d3
          have c4 := Wk.cell d4
          have c5 := Wk.cell d5
          clear d0 d1 d2 d3 d4 d5
          refine wp_region_wk (by kernel_rfl) (by kernel_rfl) ?_
          repeat (go_big_quiet_step (first | (go_at_call 30; exact Wk.call (R1.out _)) | (go_at_call 31; exact Wk.call (R2.out _)) | (go_at_call 25; exact Wk.call (R3.out _)) | (go_at_call 32; exact Wk.call (R4.out _)) | (go_at_call 33; exact Wk.call (R5.out _ (IV.out.below (Wk.bel _)) (IM.out.below (Wk.bel _))))))
          refine wpQuiet_nil ?_
          rintro w2 ⟨⟨_, hb2⟩, rfl⟩
          go_wp2_with fail
          go_ret
          exact ⟨rfl, below_on HB.out hb2⟩
      · rw [right_head h3]
        obtain ⟨q, hq⟩ : ∃ q, headE C F H (behind8 C v.length m.length) = q := ⟨_, rfl⟩
        rw [hq] at R4 h3
        have n4 : (q == 0) = false := by simpa using h3
        clear h1 h2 h3 ov om hq
        go_enter Try.func11, Try.ntmps11
        go_wp2_with fail
        rw [HW.out]
        have c0 := Wk.cell d0
        have c1 := Wk.cell d1
        have c2 := Wk.cell d2
        have c3 := Wk.cell d3
        have c4 := Wk.cell d4
        have c5 := Wk.cell d5
        clear d0 d1 d2 d3 d4 d5
        refine wp_region_wk (by kernel_rfl) (by kernel_rfl) ?_
        repeat (go_big_quiet_step (first | (go_at_call 30; exact Wk.call (R1.out _)) | (go_at_call 31; exact Wk.call (R2.out _)) | (go_at_call 25; exact Wk.call (R3.out _)) | (go_at_call 32; exact Wk.call (R4.out _))))
        refine wpQuiet_nil ?_
        rintro w2 ⟨⟨_, hb2⟩, rfl⟩
        go_wp2_with fail
        go_ret
        exact ⟨rfl, below_on HB.out hb2⟩
    · rw [right_mask h2]
      have n2 : ((m.length : Int) == (maskZ H v.length : Int)) = false := by simp; omega
      clear h1 h2 ov om
      go_enter Try.func11, Try.ntmps11
      go_wp2_with fail
      rw [HW.out]
      have c0 := Wk.cell d0
      have c1 := Wk.cell d1
      have c2 := Wk.cell d2
      have c3 := Wk.cell d3
      have c4 := Wk.cell d4
      have c5 := Wk.cell d5
      clear d0 d1 d2 d3 d4 d5
      refine wp_region_wk (by kernel_rfl) (by kernel_rfl) ?_
      repeat (go_big_quiet_step (first | (go_at_call 30; exact Wk.call (R1.out _)) | (go_at_call 31; exact Wk.call (R2.out _))))
      refine wpQuiet_nil ?_
      rintro w2 ⟨⟨_, hb2⟩, rfl⟩
      go_wp2_with fail
      go_ret
      exact ⟨rfl, below_on HB.out hb2⟩
end Go.Proofs.Ytfogpofgmnibcaa
