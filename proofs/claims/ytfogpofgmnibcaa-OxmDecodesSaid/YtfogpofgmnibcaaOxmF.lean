/- Package oxm: what is wrong first with the bytes. -/
import Derived.Test.YtfogpofgmnibcaaOxmE
namespace Go.Proofs.Ytfogpofgmnibcaa
open Go.RowKit
set_option linter.unusedVariables false

/-- what is wrong first with Value and Mask -/
def bytesE (C F : Int) (H : Bool) (v m : List Int) : Int :=
  if C = 32768 then (if fitsB F v = false then 1032 else if (H && !fitsB F m) = true then 1033 else if H = true then maskE v m (fld F).b else 0)
  else if C = 65535 then (if H = true then maskE v m (8 * m.length) else 0) else 0

theorem fits_len (n : Int) (v m : List Int) (hv : fitsB n v = true) (hm : fitsB n m = true) : v.length = m.length := by
  unfold fitsB at hv hm
  simp only [Bool.and_eq_true, decide_eq_true_eq] at hv hm
  rw [hv.1.2, hm.1.2]

set_option maxRecDepth 100000 in
set_option maxHeartbeats 1000000 in
theorem wrongBytes_basic (F : Int) (H : Bool) (X : Int) (va : Option Addr) (vc : Nat) (ma : Option Addr) (mc : Nat) (v m : List Int) (hm : m.length ≤ 1000) (hmc : m.length ≤ mc) (ov : Octets v) (om : Octets m) (w : World) (iv : Ints .u8 w va v) (im : Ints .u8 w ma m) :
    Calls Try.prog 33 #[.agg #[.int .i64 32768, .int .i64 F, .bool H, .int .u64 X, .slice va v.length vc, .slice ma m.length mc]] w fun e w' => e = .returned (.int .i64 (bytesE 32768 F H v m)) ∧ Below w.heap.size w w' := by
  obtain ⟨W, hW, hbW, hbox⟩ := oxm_box w 32768 F H X va v.length vc ma m.length mc
  have HW := hid hW
  have HB := hid hbW
  have HO := hid (fun W => fldOf_any F W)
  obtain ⟨d0, d1, d2, d3, d4, d5⟩ := hbox.six
  have IV := hid (iv.below hbW)
  have IM := hid (im.below hbW)
  have FV := hid (fun W' (h : Ints .u8 W' va v) => fldFits_any F v va vc W' h)
  have FM := hid (fun W' (h : Ints .u8 W' ma m) => fldFits_any F m ma mc W' h)
  clear hW hbW iv im
  have OV := hid ov
  have OM := hid om
  have hvm2 := fits_len F v m
  have HE : bytesE 32768 F H v m = if fitsB F v = false then 1032 else if (H && !fitsB F m) = true then 1033 else if H = true then maskE v m (fld F).b else 0 := by simp [bytesE]
  rw [HE]
  clear HE ov om
  obtain ⟨f, hf⟩ : ∃ f, fld F = f := ⟨_, rfl⟩
  rw [hf] at HO ⊢
  obtain ⟨t, ht⟩ : ∃ t, decide (0 ≤ F ∧ F < 40) = t := ⟨_, rfl⟩
  rw [ht] at HO
  clear ht hf
  unfold fldV at HO
  cases hv : fitsB F v
  · rw [hv] at FV
    clear hv hvm2
    simp only [if_true]
    go_enter Try.func33, Try.ntmps33
    go_wp2_with fail
    rw [HW.out]
    go_wp2_with fail
    refine (HO.out _).mono ?_
    rintro e w1 ⟨v', rfl, ⟨a', c', rfl, hI⟩, hb⟩
    clear hI
    have hlt := (hbox.below hb).lt
    have n2 : ¬ w.heap.size = w1.heap.size := by omega
    clear d0 d1 d2 d3 d4 d5
    obtain ⟨d0, d1, d2, d3, d4, d5⟩ := (hbox.below hb).six
    obtain ⟨W1, hW1, hbW1, hbox1⟩ := fld_box w1 f.b f.z f.m f.d (.slice a' f.v.length c')
    have HW1 := hid hW1
    have hA := below_on hb hbW1
    clear hW1 hbox1 hbW1 hb
    go_wp2_with fail
    rw [HW1.out]
    refine (FV.out _ (IV.out.below hA)).mono ?_
    rintro e w2 ⟨rfl, hb2⟩
    replace hA := below_on hA hb2
    clear d0 d1 d2 d3 d4 d5 hb2 HW1 n2 hlt
    obtain ⟨d0, d1, d2, d3, d4, d5⟩ := (hbox.below hA).six
    have HA := hid hA
    clear hA
    go_wp2_with fail
    go_ret
    exact ⟨rfl, below_on HB.out HA.out⟩
  · rw [hv] at FV
    cases H
    · clear hv hvm2
      simp only [Bool.false_and, Bool.false_eq_true, Bool.true_eq_false, if_false]
      go_enter Try.func33, Try.ntmps33
      go_wp2_with fail
      rw [HW.out]
      go_wp2_with fail
      refine (HO.out _).mono ?_
      rintro e w1 ⟨v', rfl, ⟨a', c', rfl, hI⟩, hb⟩
      clear hI
      have hlt := (hbox.below hb).lt
      have n2 : ¬ w.heap.size = w1.heap.size := by omega
      clear d0 d1 d2 d3 d4 d5
      obtain ⟨d0, d1, d2, d3, d4, d5⟩ := (hbox.below hb).six
      obtain ⟨W1, hW1, hbW1, hbox1⟩ := fld_box w1 f.b f.z f.m f.d (.slice a' f.v.length c')
      have HW1 := hid hW1
      have hA := below_on hb hbW1
      clear hW1 hbox1 hbW1 hb
      go_wp2_with fail
      rw [HW1.out]
      refine (FV.out _ (IV.out.below hA)).mono ?_
      rintro e w2 ⟨rfl, hb2⟩
      replace hA := below_on hA hb2
      clear d0 d1 d2 d3 d4 d5 hb2 HW1 n2 hlt
      obtain ⟨d0, d1, d2, d3, d4, d5⟩ := (hbox.below hA).six
      have HA := hid hA
      clear hA
      go_wp2_with fail
      go_ret
      exact ⟨rfl, below_on HB.out HA.out⟩
    · cases hfm : fitsB F m
      · rw [hfm] at FM
        clear hv hvm2 hfm
        simp only [Bool.not_false, Bool.and_true, Bool.true_eq_false, if_true, if_false]
        go_enter Try.func33, Try.ntmps33
        go_wp2_with fail
        rw [HW.out]
        go_wp2_with fail
        refine (HO.out _).mono ?_
        rintro e w1 ⟨v', rfl, ⟨a', c', rfl, hI⟩, hb⟩
        clear hI
        have hlt := (hbox.below hb).lt
        have n2 : ¬ w.heap.size = w1.heap.size := by omega
        clear d0 d1 d2 d3 d4 d5
        obtain ⟨d0, d1, d2, d3, d4, d5⟩ := (hbox.below hb).six
        obtain ⟨W1, hW1, hbW1, hbox1⟩ := fld_box w1 f.b f.z f.m f.d (.slice a' f.v.length c')
        have HW1 := hid hW1
        have hA := below_on hb hbW1
        clear hW1 hbox1 hbW1 hb
        go_wp2_with fail
        rw [HW1.out]
        refine (FV.out _ (IV.out.below hA)).mono ?_
        rintro e w2 ⟨rfl, hb2⟩
        replace hA := below_on hA hb2
        clear d0 d1 d2 d3 d4 d5 hb2 HW1 n2 hlt
        obtain ⟨d0, d1, d2, d3, d4, d5⟩ := (hbox.below hA).six
        have HA := hid hA
        clear hA
        go_wp2_with fail
        refine (FM.out _ (IM.out.below HA.out)).mono ?_
        rintro e w3 ⟨rfl, hb3⟩
        replace HA := hid (below_on HA.out hb3)
        clear d0 d1 d2 d3 d4 d5 hb3
        obtain ⟨d0, d1, d2, d3, d4, d5⟩ := (hbox.below HA.out).six
        go_wp2_with fail
        go_ret
        exact ⟨rfl, below_on HB.out HA.out⟩
      · rw [hfm] at FM
        have hvm : v.length ≤ m.length := Nat.le_of_eq (hvm2 hv hfm)
        clear hv hvm2 hfm
        simp only [Bool.not_true, Bool.and_false, Bool.true_eq_false, Bool.false_eq_true, if_true, if_false]
        go_enter Try.func33, Try.ntmps33
        go_wp2_with fail
        rw [HW.out]
        go_wp2_with fail
        refine (HO.out _).mono ?_
        rintro e w1 ⟨v', rfl, ⟨a', c', rfl, hI⟩, hb⟩
        clear hI
        have hlt := (hbox.below hb).lt
        have n2 : ¬ w.heap.size = w1.heap.size := by omega
        clear d0 d1 d2 d3 d4 d5
        obtain ⟨d0, d1, d2, d3, d4, d5⟩ := (hbox.below hb).six
        obtain ⟨W1, hW1, hbW1, hbox1⟩ := fld_box w1 f.b f.z f.m f.d (.slice a' f.v.length c')
        have HW1 := hid hW1
        have hA := below_on hb hbW1
        clear hW1 hbox1 hbW1 hb
        go_wp2_with fail
        rw [HW1.out]
        refine (FV.out _ (IV.out.below hA)).mono ?_
        rintro e w2 ⟨rfl, hb2⟩
        replace hA := below_on hA hb2
        clear d0 d1 d2 d3 d4 d5 hb2 HW1 n2 hlt
        obtain ⟨d0, d1, d2, d3, d4, d5⟩ := (hbox.below hA).six
        have HA := hid hA
        clear hA
        go_wp2_with fail
        refine (FM.out _ (IM.out.below HA.out)).mono ?_
        rintro e w3 ⟨rfl, hb3⟩
        replace HA := hid (below_on HA.out hb3)
        clear d0 d1 d2 d3 d4 d5 hb3
        obtain ⟨d0, d1, d2, d3, d4, d5⟩ := (hbox.below HA.out).six
        go_wp2_with fail
        refine (wrongMask_any 32768 F true X va v.length vc ma m.length mc v m f.b rfl rfl hvm hm hmc OV.out OM.out _ (IV.out.below HA.out) (IM.out.below HA.out)).mono ?_
        rintro e w4 ⟨rfl, hb4⟩
        go_wp2_with fail
        go_ret
        exact ⟨rfl, below_on HB.out (below_on HA.out hb4)⟩

set_option maxRecDepth 100000 in
set_option maxHeartbeats 1000000 in
theorem wrongBytes_extra (F : Int) (H : Bool) (X : Int) (va : Option Addr) (vc : Nat) (ma : Option Addr) (mc : Nat) (v m : List Int) (hvm : H = true → v.length ≤ m.length) (hm : m.length ≤ 1000) (hmc : m.length ≤ mc) (ov : Octets v) (om : Octets m) (w : World) (iv : Ints .u8 w va v) (im : Ints .u8 w ma m) :
    Calls Try.prog 33 #[.agg #[.int .i64 65535, .int .i64 F, .bool H, .int .u64 X, .slice va v.length vc, .slice ma m.length mc]] w fun e w' => e = .returned (.int .i64 (bytesE 65535 F H v m)) ∧ Below w.heap.size w w' := by
  obtain ⟨W, hW, hbW, hbox⟩ := oxm_box w 65535 F H X va v.length vc ma m.length mc
  have HW := hid hW
  have HB := hid hbW
  obtain ⟨d0, d1, d2, d3, d4, d5⟩ := hbox.six
  have IV := hid (iv.below hbW)
  have IM := hid (im.below hbW)
  clear hW hbW iv im
  have OV := hid ov
  have OM := hid om
  clear ov om
  cases H
  · have HE : bytesE 65535 F false v m = 0 := by simp [bytesE]
    rw [HE]
    clear HE hvm
    go_enter Try.func33, Try.ntmps33
    go_wp2_with fail
    rw [HW.out]
    go_wp2_with fail
    go_ret
    exact ⟨rfl, HB.out⟩
  · have HE : bytesE 65535 F true v m = maskE v m (8 * m.length) := by simp [bytesE]
    rw [HE]
    replace hvm := hvm rfl
    clear HE
    go_enter Try.func33, Try.ntmps33
    go_wp2_with fail
    rw [HW.out]
    go_wp2_with fail
    refine (wrongMask_any 65535 F true X va v.length vc ma m.length mc v m _ rfl rfl hvm hm hmc OV.out OM.out _ IV.out IM.out).mono ?_
    rintro e w4 ⟨rfl, hb4⟩
    go_wp2_with fail
    go_ret
    exact ⟨rfl, below_on HB.out hb4⟩

set_option maxRecDepth 100000 in
theorem wrongBytes_none (C F : Int) (hb : (C == 32768) = false) (hx : (C == 65535) = false) (H : Bool) (X : Int) (va : Option Addr) (vc : Nat) (ma : Option Addr) (mc : Nat) (v m : List Int) (hm : m.length ≤ 1000) (w : World) :
    Calls Try.prog 33 #[.agg #[.int .i64 C, .int .i64 F, .bool H, .int .u64 X, .slice va v.length vc, .slice ma m.length mc]] w fun e w' => e = .returned (.int .i64 (bytesE C F H v m)) ∧ Below w.heap.size w w' := by
  have e : bytesE C F H v m = 0 := by
    have h1 : C ≠ 32768 := by simpa using hb
    have h2 : C ≠ 65535 := by simpa using hx
    simp [bytesE, h1, h2]
  rw [e]
  clear e
  go_enter Try.func33, Try.ntmps33
  go_wp2
  go_ret
  exact ⟨rfl, below_alloc _ _⟩

theorem wrongBytes_any (C F : Int) (H : Bool) (X : Int) (va : Option Addr) (vc : Nat) (ma : Option Addr) (mc : Nat) (v m : List Int) (hvm : C = 65535 → H = true → v.length ≤ m.length) (hm : m.length ≤ 1000) (hmc : m.length ≤ mc) (ov : Octets v) (om : Octets m) (w : World) (iv : Ints .u8 w va v) (im : Ints .u8 w ma m) :
    Calls Try.prog 33 #[.agg #[.int .i64 C, .int .i64 F, .bool H, .int .u64 X, .slice va v.length vc, .slice ma m.length mc]] w fun e w' => e = .returned (.int .i64 (bytesE C F H v m)) ∧ Below w.heap.size w w' := by
  by_cases hb : C = 32768
  · subst hb
    exact wrongBytes_basic F H X va vc ma mc v m hm hmc ov om w iv im
  · by_cases hx : C = 65535
    · subst hx
      exact wrongBytes_extra F H X va vc ma mc v m (hvm rfl) hm hmc ov om w iv im
    · exact wrongBytes_none C F (by simpa using hb) (by simpa using hx) H X va vc ma mc v m hm w
end Go.Proofs.Ytfogpofgmnibcaa
