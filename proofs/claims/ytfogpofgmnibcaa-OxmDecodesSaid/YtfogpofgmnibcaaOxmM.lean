/- The document's values: a value as bytes, or the error; whether there is not too much of one. -/
import Derived.Test.YtfogpofgmnibcaaOxmL
namespace Go.Proofs.Ytfogpofgmnibcaa
open Go.RowKit
set_option linter.unusedVariables false

theorem few8_any (C F : Int) (H : Bool) (X : Int) (va : Option Addr) (vl vc : Nat) (ma : Option Addr) (ml mc : Nat) (w : World) :
    Calls Try.prog 7 #[.agg #[.int .i64 C, .int .i64 F, .bool H, .int .u64 X, .slice va vl vc, .slice ma ml mc]] w fun e w' => e = .returned (.bool (decide (vl ≤ 300 ∧ ml ≤ 300))) ∧ Below w.heap.size w w' := by
  by_cases h1 : vl ≤ 300
  · by_cases h2 : ml ≤ 300
    · have i1 : (vl : Int) ≤ 300 := by omega
      have i2 : (ml : Int) ≤ 300 := by omega
      rw [decide_eq_true (show vl ≤ 300 ∧ ml ≤ 300 from ⟨h1, h2⟩)]
      clear h1 h2
      go_enter Try.func7, Try.ntmps7
      go_wp2
      go_ret
      exact ⟨rfl, below_alloc _ _⟩
    · have i1 : (vl : Int) ≤ 300 := by omega
      have i2 : decide ((ml : Int) ≤ 300) = false := by simp; omega
      rw [decide_eq_false (show ¬ (vl ≤ 300 ∧ ml ≤ 300) by omega)]
      clear h1 h2
      go_enter Try.func7, Try.ntmps7
      go_wp2
      go_ret
      exact ⟨rfl, below_alloc _ _⟩
  · have i1 : 300 < (vl : Int) := by omega
    rw [decide_eq_false (show ¬ (vl ≤ 300 ∧ ml ≤ 300) by omega)]
    clear h1
    go_enter Try.func7, Try.ntmps7
    go_wp2
    go_ret
    exact ⟨rfl, below_alloc _ _⟩

theorem ref8Bytes_any (C F : Int) (H : Bool) (X : Int) (va : Option Addr) (vc : Nat) (ma : Option Addr) (mc : Nat) (v m : List Int) (hv : v.length ≤ 1000) (hm : m.length ≤ 1000) (hmc : m.length ≤ mc) (ov : Octets v) (om : Octets m) (w : World) (iv : Ints .u8 w va v) (im : Ints .u8 w ma m) (hX0 : 0 ≤ X) (ft : Facts8 C F H X v m) :
    Calls Try.prog 29 #[.agg #[.int .i64 C, .int .i64 F, .bool H, .int .u64 X, .slice va v.length vc, .slice ma m.length mc]] w fun e w' => ∃ ad cp, e = .returned (.slice ad (oxmBytes C F H X v m).length cp) ∧ Below w.heap.size w w' ∧ Ints .u8 w' ad (oxmBytes C F H X v m) ∧ (oxmBytes C F H X v m).length ≤ cp := by
  rcases ft.cls with h | h
  · exact ref8Bytes_basic C F H X va vc ma mc v m hv hm hmc ov om w iv im h ft
  · exact ref8Bytes_extra C F H X va vc ma mc v m hv hm hmc ov om w iv im hX0 h ft

set_option maxRecDepth 100000 in
set_option maxHeartbeats 1000000 in
theorem ref8Encode_any (C F : Int) (H : Bool) (X : Int) (va : Option Addr) (vc : Nat) (ma : Option Addr) (mc : Nat) (v m : List Int) (hv : v.length ≤ 1000) (hm : m.length ≤ 1000) (hmc : m.length ≤ mc) (ov : Octets v) (om : Octets m) (w : World) (iv : Ints .u8 w va v) (im : Ints .u8 w ma m) (hX0 : 0 ≤ X) : Calls Try.prog 10 #[.agg #[.int .i64 C, .int .i64 F, .bool H, .int .u64 X, .slice va v.length vc, .slice ma m.length mc]] w (EncPost C F H X v m w) := by
  obtain ⟨W, hW, hbW, hbox⟩ := oxm_box w C F H X va v.length vc ma m.length mc
  have HW := hid hW
  have HB := hid hbW
  obtain ⟨d0, d1, d2, d3, d4, d5⟩ := hbox.six
  have IV := hid (iv.below hbW)
  have IM := hid (im.below hbW)
  clear hW hbW iv im
  have RR := hid (fun W iv im => ref8Right_any C F H X va vc ma mc v m hv hm ov om W iv im hX0)
  cases hr : rightB C F H X v m
  · have HR := hid hr
    rw [hr] at RR
    clear hr ov om
    go_enter Try.func10, Try.ntmps10
    go_wp2_with fail
    rw [HW.out]
    go_wp2_with fail
    refine (RR.out _ IV.out IM.out).mono ?_
    rintro e w1 ⟨rfl, hb⟩
    go_wp2_with fail
    go_ret2
    exact .inl ⟨HR.out, rfl, below_on HB.out hb⟩
  · have HR := hid hr
    have RB := hid (fun W iv im => ref8Bytes_any C F H X va vc ma mc v m hv hm hmc ov om W iv im hX0 (right_facts hr))
    rw [hr] at RR
    clear hr ov om
    go_enter Try.func10, Try.ntmps10
    go_wp2_with fail
    rw [HW.out]
    go_wp2_with fail
    refine (RR.out _ IV.out IM.out).mono ?_
    rintro e w1 ⟨rfl, hb⟩
    clear d0 d1 d2 d3 d4 d5
    obtain ⟨d0, d1, d2, d3, d4, d5⟩ := (hbox.below hb).six
    have HA := hid hb
    clear hb
    go_wp2_with fail
    refine (RB.out _ (IV.out.below HA.out) (IM.out.below HA.out)).mono ?_
    rintro e w2 ⟨ad, cp, rfl, hb2, hI, hc⟩
    have HI := hid hI
    have HC := hid hc
    have HB2 := hid hb2
    clear hI hc hb2
    obtain ⟨n, hn⟩ : ∃ n, (oxmBytes C F H X v m).length = n := ⟨_, rfl⟩
    rw [hn]
    go_wp2_with fail
    go_ret2
    exact .inr ⟨HR.out, ad, cp, by rw [hn]; rfl, below_on HB.out (below_on HA.out HB2.out), HI.out, HC.out⟩
end Go.Proofs.Ytfogpofgmnibcaa
