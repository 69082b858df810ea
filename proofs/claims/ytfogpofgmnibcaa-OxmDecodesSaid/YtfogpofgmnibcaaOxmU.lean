/- Layer 8's law of encoding. -/
import Derived.Test.YtfogpofgmnibcaaOxmT
namespace Go.Proofs.Ytfogpofgmnibcaa
open Go.RowKit
set_option linter.unusedVariables false

theorem rfl_beq8 (l : List Int) : (l == l) = true := by simp
set_option maxRecDepth 100000 in
set_option maxHeartbeats 2000000 in
theorem OxmEncodes_walk (C F : Int) (H : Bool) (X : Int) (va : Option Addr) (vl vc : Nat) (ma : Option Addr) (ml mc : Nat) (v m : List Int) (w : World) (hI : OxmIn w C F X va vl vc ma ml mc v m) :
    Calls Try.prog 3 #[.agg #[.int .i64 C, .int .i64 F, .bool H, .int .u64 X, .slice va vl vc, .slice ma ml mc]] w fun e w' => e = .returned (.bool true) ∧ Below w.heap.size w w' := by
  obtain ⟨hc, hf, hx, rfl, rfl, iv, im, ov, om, hcv, hcm⟩ := hI
  obtain ⟨W, hW, hbW, hbox⟩ := oxm_box w C F H X va v.length vc ma m.length mc
  have HW := hid hW
  have HB := hid hbW
  obtain ⟨d0, d1, d2, d3, d4, d5⟩ := hbox.six
  have IV := hid (iv.below hbW)
  have IM := hid (im.below hbW)
  have FW := hid (fun W => few8_any C F H X va v.length vc ma m.length mc W)
  clear hW hbW iv im
  by_cases h1 : v.length ≤ 300 ∧ m.length ≤ 300
  · rw [decide_eq_true h1] at FW
    have hv : v.length ≤ 1000 := by omega
    have hm : m.length ≤ 1000 := by omega
    cases hr : rightB C F H X v m
    · skip
      have EN := hid (fun W iv im => encode8_any C F H X va vc ma mc v m hv hm hcm.1 ov om W iv im hx.1)
      have EF := hid (fun W iv im => ref8Encode_any C F H X va vc ma mc v m hv hm hcm.1 ov om W iv im hx.1)
      have R1 := hid (fun W iv im => right8_any C F H X va vc ma mc v m hv hm hcm.1 ov om W iv im)
      have R2 := hid (fun W iv im => ref8Right_any C F H X va vc ma mc v m hv hm ov om W iv im hx.1)
      have SZ := hid (fun W iv im => size8_any C F H X va vc ma mc v m hv hm hcm.1 ov om W iv im)
      rw [hr] at R1 R2
      have hsz : size8 C F H X v m = 0 := by simp [size8, hr]
      rw [hsz] at SZ
      have HR := hid hr
      clear hv hm hr hsz ov om hc hf hx hcv hcm h1
      go_enter Try.func3, Try.ntmps3
      go_wp2_with fail
      rw [HW.out]
      go_wp2_with fail
      refine (FW.out _).mono ?_
      rintro e w1 ⟨rfl, hb1⟩
      have HA := hid hb1
      clear hb1 d0 d1 d2 d3 d4 d5
      obtain ⟨d0, d1, d2, d3, d4, d5⟩ := (hbox.below HA.out).six
      go_wp2_with fail
      refine (EN.out _ (IV.out.below HA.out) (IM.out.below HA.out)).mono ?_
      rintro e w2 (⟨_, rfl, hb2⟩ | ⟨hq, _⟩)
      case inr => rw [HR.out] at hq; simp at hq
      have HA2 := hid (below_on HA.out hb2)
      clear hb2 d0 d1 d2 d3 d4 d5
      obtain ⟨d0, d1, d2, d3, d4, d5⟩ := (hbox.below HA2.out).six
      go_wp2_with fail
      refine (EF.out _ (IV.out.below HA2.out) (IM.out.below HA2.out)).mono ?_
      rintro e w3 (⟨_, rfl, hb3⟩ | ⟨hq, _⟩)
      case inr => rw [HR.out] at hq; simp at hq
      have BY := hid (fun (n : Wk w3) => bytes8_any [] [] none none 0 0 0 0 rfl rfl n.val (by decide) (by decide) (Ints.nil _ _ _) (Ints.nil _ _ _))
      rw [rfl_beq8] at BY
      have HA3 := hid (below_on HA2.out hb3)
      clear hb3 d0 d1 d2 d3 d4 d5
      obtain ⟨d0, d1, d2, d3, d4, d5⟩ := (hbox.below HA3.out).six
      have c0 := Wk.cell d0
      have c1 := Wk.cell d1
      have c2 := Wk.cell d2
      have c3 := Wk.cell d3
      have c4 := Wk.cell d4
      have c5 := Wk.cell d5
      clear d0 d1 d2 d3 d4 d5
      go_wp2_with fail
      refine wp_region_wk (by kernel_rfl) (by kernel_rfl) ?_
      repeat (go_big_quiet_step (first
        | (go_at_call 11; exact Wk.call (R1.out _ (IV.out.below (below_on HA3.out (Wk.bel _))) (IM.out.below (below_on HA3.out (Wk.bel _)))))
        | (go_at_call 12; exact Wk.call (R2.out _ (IV.out.below (below_on HA3.out (Wk.bel _))) (IM.out.below (below_on HA3.out (Wk.bel _)))))
        | (go_at_call 13; exact Wk.call (SZ.out _ (IV.out.below (below_on HA3.out (Wk.bel _))) (IM.out.below (below_on HA3.out (Wk.bel _)))))
        | (go_at_call 14; exact Wk.call (BY.out _))
        | (go_at_call 8; exact Wk.call (sure8_any _))))
      refine wpQuiet_nil ?_
      rintro w4 ⟨⟨_, hb4⟩, rfl⟩
      go_wp2_with fail
      go_ret
      exact ⟨rfl, below_on HB.out (below_on HA3.out hb4)⟩
    · skip
      obtain ⟨xs, hxs⟩ : ∃ l, oxmBytes C F H X v m = l := ⟨_, rfl⟩
      have hxl : xs.length = 4 + behind8 C v.length m.length := by rw [← hxs]; exact oxmBytes_length C F H X v m
      have hx2 : xs.length ≤ 300 := by have := (right_facts hr).most; omega
      have HX := hid hxs
      have HX2 := hid hx2
      have EN := hid (fun W iv im => encode8_any C F H X va vc ma mc v m hv hm hcm.1 ov om W iv im hx.1)
      have EF := hid (fun W iv im => ref8Encode_any C F H X va vc ma mc v m hv hm hcm.1 ov om W iv im hx.1)
      have R1 := hid (fun W iv im => right8_any C F H X va vc ma mc v m hv hm hcm.1 ov om W iv im)
      have R2 := hid (fun W iv im => ref8Right_any C F H X va vc ma mc v m hv hm ov om W iv im hx.1)
      have SZ := hid (fun W iv im => size8_any C F H X va vc ma mc v m hv hm hcm.1 ov om W iv im)
      rw [hr] at R1 R2
      have hsz : size8 C F H X v m = xs.length := by simp [size8, hr, ← hxl]
      rw [hsz] at SZ
      have HR := hid hr
      clear hv hm hr hsz ov om hc hf hx hcv hcm h1 hxs hxl hx2
      go_enter Try.func3, Try.ntmps3
      go_wp2_with fail
      rw [HW.out]
      go_wp2_with fail
      refine (FW.out _).mono ?_
      rintro e w1 ⟨rfl, hb1⟩
      have HA := hid hb1
      clear hb1 d0 d1 d2 d3 d4 d5
      obtain ⟨d0, d1, d2, d3, d4, d5⟩ := (hbox.below HA.out).six
      go_wp2_with fail
      refine (EN.out _ (IV.out.below HA.out) (IM.out.below HA.out)).mono ?_
      rintro e w2 (⟨hq, _⟩ | ⟨_, ad, cp, rfl, hb2, hI2, hcp⟩)
      · rw [HR.out] at hq; simp at hq
      rw [HX.out] at hI2 hcp ⊢
      have HA2 := hid (below_on HA.out hb2)
      have I2 := hid hI2
      clear hb2 d0 d1 d2 d3 d4 d5 hI2
      obtain ⟨d0, d1, d2, d3, d4, d5⟩ := (hbox.below HA2.out).six
      go_wp2_with fail
      refine (EF.out _ (IV.out.below HA2.out) (IM.out.below HA2.out)).mono ?_
      rintro e w3 (⟨hq, _⟩ | ⟨_, ad2, cp2, rfl, hb3, hI3, hcp3⟩)
      · rw [HR.out] at hq; simp at hq
      rw [HX.out] at hI3 hcp3 ⊢
      have I3 := hid hI3
      have J2 := hid (I2.out.below hb3)
      have hy := HX2.out
      have BY := hid (fun (n : Wk w3) => bytes8_any xs xs ad ad2 xs.length xs.length cp cp2 rfl rfl n.val (by omega) (by omega) (J2.out.below n.bel) (I3.out.below n.bel))
      rw [rfl_beq8] at BY
      clear hI3 hy
      have HA3 := hid (below_on HA2.out hb3)
      clear hb3 d0 d1 d2 d3 d4 d5
      obtain ⟨d0, d1, d2, d3, d4, d5⟩ := (hbox.below HA3.out).six
      have c0 := Wk.cell d0
      have c1 := Wk.cell d1
      have c2 := Wk.cell d2
      have c3 := Wk.cell d3
      have c4 := Wk.cell d4
      have c5 := Wk.cell d5
      clear d0 d1 d2 d3 d4 d5
      go_wp2_with fail
      refine wp_region_wk (by kernel_rfl) (by kernel_rfl) ?_
      repeat (go_big_quiet_step (first
        | (go_at_call 11; exact Wk.call (R1.out _ (IV.out.below (below_on HA3.out (Wk.bel _))) (IM.out.below (below_on HA3.out (Wk.bel _)))))
        | (go_at_call 12; exact Wk.call (R2.out _ (IV.out.below (below_on HA3.out (Wk.bel _))) (IM.out.below (below_on HA3.out (Wk.bel _)))))
        | (go_at_call 13; exact Wk.call (SZ.out _ (IV.out.below (below_on HA3.out (Wk.bel _))) (IM.out.below (below_on HA3.out (Wk.bel _)))))
        | (go_at_call 14; exact Wk.call (BY.out _))
        | (go_at_call 8; exact Wk.call (sure8_any _))))
      refine wpQuiet_nil ?_
      rintro w4 ⟨⟨_, hb4⟩, rfl⟩
      go_wp2_with fail
      go_ret
      exact ⟨rfl, below_on HB.out (below_on HA3.out hb4)⟩
  · rw [decide_eq_false h1] at FW
    clear ov om hc hf hx hcv hcm h1
    go_enter Try.func3, Try.ntmps3
    go_wp2_with fail
    rw [HW.out]
    go_wp2_with fail
    refine (FW.out _).mono ?_
    rintro e w1 ⟨rfl, hb1⟩
    go_wp2_with fail
    refine (sure8_any _).mono ?_
    rintro e w2 ⟨rfl, hb2⟩
    go_wp2_with fail
    go_ret
    exact ⟨rfl, below_on HB.out (below_on hb1 hb2)⟩
end Go.Proofs.Ytfogpofgmnibcaa
