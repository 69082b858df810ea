/- The document's values: what is wrong first with the bytes. -/
import Derived.Test.YtfogpofgmnibcaaOxmF
namespace Go.Proofs.Ytfogpofgmnibcaa
open Go.RowKit
set_option linter.unusedVariables false

theorem refFld_box (w : World) (f : Fld) (v : Value) : ∃ W, w.alloc (.cells #[.string f.nm, .int .i64 f.b, .int .i64 f.z, .bool f.m, .int .i64 f.d, v] 57) = W ∧ Below w.heap.size w W ∧ BoxL W w.heap.size [.string f.nm, .int .i64 f.b, .int .i64 f.z, .bool f.m, .int .i64 f.d, v] :=
  ⟨_, rfl, below_alloc _ _, BoxL.new _ _ _⟩
theorem refFld_boxN (w : World) (f : Fld) (n : Nat) (_h : f.b = n) (v : Value) : ∃ W, w.alloc (.cells #[.string f.nm, .int .i64 (n : Int), .int .i64 f.z, .bool f.m, .int .i64 f.d, v] 57) = W ∧ Below w.heap.size w W ∧ BoxL W w.heap.size [.string f.nm, .int .i64 (n : Int), .int .i64 f.z, .bool f.m, .int .i64 f.d, v] :=
  ⟨_, rfl, below_alloc _ _, BoxL.new _ _ _⟩
/-- the ways in which a mask goes wrong, or right -/
def MaskWays (v m : List Int) (n : Nat) (r : Int) : Prop :=
  (zeros m = true ∧ r = 1033) ∨ (zeros m = false ∧ onesB m n = true ∧ r = 1033) ∨ (zeros m = false ∧ onesB m n = false ∧ insideB v m = false ∧ r = 1030) ∨ (zeros m = false ∧ onesB m n = false ∧ insideB v m = true ∧ r = 0)
theorem mask_ways (v m : List Int) (n : Nat) (om : Octets m) (hf : onesB m n = decide (pops m = n)) : MaskWays v m n (maskE v m n) := by
  unfold MaskWays
  rw [zeros_pops om, hf]
  unfold maskE
  by_cases h0 : pops m = 0
  · exact .inl ⟨by simp [h0], by simp [h0]⟩
  · by_cases h1 : pops m = n
    · exact .inr (.inl ⟨by simp [h0], by simp [h1], by rw [if_pos (.inr (by rw [h1]))]⟩)
    · cases hi : insideB v m
      · exact .inr (.inr (.inl ⟨by simp [h0], by simp [h1], rfl, by rw [if_neg (by omega)]; rfl⟩))
      · exact .inr (.inr (.inr ⟨by simp [h0], by simp [h1], rfl, by rw [if_neg (by omega)]; rfl⟩))

set_option maxRecDepth 100000 in
set_option maxHeartbeats 2000000 in
theorem refWrong_basic (F : Int) (H : Bool) (X : Int) (va : Option Addr) (vc : Nat) (ma : Option Addr) (mc : Nat) (v m : List Int) (hm : m.length ≤ 1000) (ov : Octets v) (om : Octets m) (w : World) (iv : Ints .u8 w va v) (im : Ints .u8 w ma m) :
    Calls Try.prog 35 #[.agg #[.int .i64 32768, .int .i64 F, .bool H, .int .u64 X, .slice va v.length vc, .slice ma m.length mc]] w fun e w' => e = .returned (.int .i64 (bytesE 32768 F H v m)) ∧ Below w.heap.size w w' := by
  obtain ⟨W, hW, hbW, hbox⟩ := oxm_box w 32768 F H X va v.length vc ma m.length mc
  have HW := hid hW
  have HB := hid hbW
  have HO := hid (fun W => refOf_any F W)
  obtain ⟨d0, d1, d2, d3, d4, d5⟩ := hbox.six
  have IV := hid (iv.below hbW)
  have IM := hid (im.below hbW)
  have FV := hid (fun W' (h : Ints .u8 W' va v) => fldRefFits_any F v va vc ov W' h)
  have FM := hid (fun W' (h : Ints .u8 W' ma m) => fldRefFits_any F m ma mc om W' h)
  clear hW hbW iv im
  have OV := hid ov
  have OM := hid om
  have hvm2 := fits_len F v m
  have hab := fun h => fits_above (n := F) (m := m) h om
  have HE : bytesE 32768 F H v m = if fitsB F v = false then 1032 else if (H && !fitsB F m) = true then 1033 else if H = true then maskE v m (fld F).b else 0 := by simp [bytesE]
  rw [HE]
  clear HE ov om
  obtain ⟨f, hf⟩ : ∃ f, fld F = f := ⟨_, rfl⟩
  rw [hf] at HO hab ⊢
  obtain ⟨t, ht⟩ : ∃ t, decide (0 ≤ F ∧ F < 40) = t := ⟨_, rfl⟩
  rw [ht] at HO
  clear ht hf
  unfold refFldV at HO
  cases hv : fitsB F v
  · rw [hv] at FV
    clear hv hvm2 hab
    simp only [if_true]
    go_enter Try.func35, Try.ntmps35
    go_wp2_with fail
    rw [HW.out]
    go_wp2_with fail
    refine (HO.out _).mono ?_
    rintro e w1 ⟨v', rfl, ⟨a', c', rfl, hI⟩, hb⟩
    clear hI
    have hlt := (hbox.below hb).lt
    have n2 : ¬ w.heap.size = w1.heap.size := by omega
    clear d0 d1 d2 d3 d4 d5
    obtain ⟨d0, d1, d2, d3, d4, d5⟩ := (hbox.below hb).six
    obtain ⟨W1, hW1, hbW1, hbox1⟩ := refFld_box w1 f (.slice a' f.v.length c')
    have HW1 := hid hW1
    have HA := hid (below_on hb hbW1)
    clear hW1 hbox1 hbW1 hb
    go_wp2_with fail
    rw [HW1.out]
    refine (FV.out _ (IV.out.below HA.out)).mono ?_
    rintro e w2 ⟨rfl, hb2⟩
    replace HA := hid (below_on HA.out hb2)
    clear d0 d1 d2 d3 d4 d5 hb2 HW1 n2 hlt
    obtain ⟨d0, d1, d2, d3, d4, d5⟩ := (hbox.below HA.out).six
    go_wp2_with fail
    go_ret
    exact ⟨rfl, below_on HB.out HA.out⟩
  · rw [hv] at FV
    cases H
    · clear hv hvm2 hab
      simp only [Bool.false_and, Bool.false_eq_true, Bool.true_eq_false, if_false]
      go_enter Try.func35, Try.ntmps35
      go_wp2_with fail
      rw [HW.out]
      go_wp2_with fail
      refine (HO.out _).mono ?_
      rintro e w1 ⟨v', rfl, ⟨a', c', rfl, hI⟩, hb⟩
      clear hI
      have hlt := (hbox.below hb).lt
      have n2 : ¬ w.heap.size = w1.heap.size := by omega
      clear d0 d1 d2 d3 d4 d5
      obtain ⟨d0, d1, d2, d3, d4, d5⟩ := (hbox.below hb).six
      obtain ⟨W1, hW1, hbW1, hbox1⟩ := refFld_box w1 f (.slice a' f.v.length c')
      have HW1 := hid hW1
      have HA := hid (below_on hb hbW1)
      clear hW1 hbox1 hbW1 hb
      go_wp2_with fail
      rw [HW1.out]
      refine (FV.out _ (IV.out.below HA.out)).mono ?_
      rintro e w2 ⟨rfl, hb2⟩
      replace HA := hid (below_on HA.out hb2)
      clear d0 d1 d2 d3 d4 d5 hb2 HW1 n2 hlt
      obtain ⟨d0, d1, d2, d3, d4, d5⟩ := (hbox.below HA.out).six
      go_wp2_with fail
      go_ret
      exact ⟨rfl, below_on HB.out HA.out⟩
    · cases hfm : fitsB F m
      · rw [hfm] at FM
        clear hv hvm2 hfm hab
        simp only [Bool.not_false, Bool.and_true, Bool.true_eq_false, if_true, if_false]
        go_enter Try.func35, Try.ntmps35
        go_wp2_with fail
        rw [HW.out]
        go_wp2_with fail
        refine (HO.out _).mono ?_
        rintro e w1 ⟨v', rfl, ⟨a', c', rfl, hI⟩, hb⟩
        clear hI
        have hlt := (hbox.below hb).lt
        have n2 : ¬ w.heap.size = w1.heap.size := by omega
        clear d0 d1 d2 d3 d4 d5
        obtain ⟨d0, d1, d2, d3, d4, d5⟩ := (hbox.below hb).six
        obtain ⟨W1, hW1, hbW1, hbox1⟩ := refFld_box w1 f (.slice a' f.v.length c')
        have HW1 := hid hW1
        have HA := hid (below_on hb hbW1)
        clear hW1 hbox1 hbW1 hb
        go_wp2_with fail
        rw [HW1.out]
        refine (FV.out _ (IV.out.below HA.out)).mono ?_
        rintro e w2 ⟨rfl, hb2⟩
        replace HA := hid (below_on HA.out hb2)
        clear d0 d1 d2 d3 d4 d5 hb2 HW1 n2 hlt
        obtain ⟨d0, d1, d2, d3, d4, d5⟩ := (hbox.below HA.out).six
        go_wp2_with fail
        refine (FM.out _ (IM.out.below HA.out)).mono ?_
        rintro e w3 ⟨rfl, hb3⟩
        replace HA := hid (below_on HA.out hb3)
        clear d0 d1 d2 d3 d4 d5 hb3
        obtain ⟨d0, d1, d2, d3, d4, d5⟩ := (hbox.below HA.out).six
        go_wp2_with fail
        go_ret
        exact ⟨rfl, below_on HB.out HA.out⟩
      · rw [hfm] at FM
        have hvm : v.length ≤ m.length := Nat.le_of_eq (hvm2 hv hfm)
        obtain ⟨hn, hlz, hin, b0, hup⟩ := hab hfm
        clear hlz hin
        clear hv hvm2 hfm hab
        simp only [Bool.not_true, Bool.and_false, Bool.true_eq_false, Bool.false_eq_true, if_true, if_false]
        obtain ⟨n, hnb⟩ : ∃ n : Nat, f.b = n := ⟨f.b.toNat, by omega⟩
        rw [hnb, Int.toNat_natCast] at hn hup
        have hq := mask_ways v m n OM.out (ones_pops hn hup)
        rw [hnb] at HO ⊢
        obtain ⟨r, hr⟩ : ∃ r, maskE v m n = r := ⟨_, rfl⟩
        rw [hr] at hq ⊢
        unfold MaskWays at hq
        clear hr hup b0
        rcases hq with ⟨hz, rfl⟩ | ⟨hz, ho, rfl⟩ | ⟨hz, ho, hi, rfl⟩ | ⟨hz, ho, hi, rfl⟩
        · go_enter Try.func35, Try.ntmps35
          go_wp2_with fail
          rw [HW.out]
          go_wp2_with fail
          refine (HO.out _).mono ?_
          rintro e w1 ⟨v', rfl, ⟨a', c', rfl, hI⟩, hb⟩
          clear hI
          have hlt := (hbox.below hb).lt
          have n2 : ¬ w.heap.size = w1.heap.size := by omega
          clear d0 d1 d2 d3 d4 d5
          obtain ⟨d0, d1, d2, d3, d4, d5⟩ := (hbox.below hb).six
          obtain ⟨W1, hW1, hbW1, hbox1⟩ := refFld_boxN w1 f n hnb (.slice a' f.v.length c')
          have HW1 := hid hW1
          have HA := hid (below_on hb hbW1)
          clear hW1 hbox1 hbW1 hb
          go_wp2_with fail
          rw [HW1.out]
          refine (FV.out _ (IV.out.below HA.out)).mono ?_
          rintro e w2 ⟨rfl, hb2⟩
          replace HA := hid (below_on HA.out hb2)
          clear d0 d1 d2 d3 d4 d5 hb2 HW1 n2 hlt
          obtain ⟨d0, d1, d2, d3, d4, d5⟩ := (hbox.below HA.out).six
          go_wp2_with fail
          refine (FM.out _ (IM.out.below HA.out)).mono ?_
          rintro e w3 ⟨rfl, hb3⟩
          replace HA := hid (below_on HA.out hb3)
          clear d0 d1 d2 d3 d4 d5 hb3
          obtain ⟨d0, d1, d2, d3, d4, d5⟩ := (hbox.below HA.out).six
          go_wp2_with fail
          refine (ref8Zeros_any m ma mc _ (by omega) (IM.out.below HA.out)).mono ?_
          rw [hz]
          rintro e w' ⟨rfl, rfl⟩
          go_wp2_with fail
          go_ret
          exact ⟨rfl, below_on HB.out HA.out⟩
        · go_enter Try.func35, Try.ntmps35
          go_wp2_with fail
          rw [HW.out]
          go_wp2_with fail
          refine (HO.out _).mono ?_
          rintro e w1 ⟨v', rfl, ⟨a', c', rfl, hI⟩, hb⟩
          clear hI
          have hlt := (hbox.below hb).lt
          have n2 : ¬ w.heap.size = w1.heap.size := by omega
          clear d0 d1 d2 d3 d4 d5
          obtain ⟨d0, d1, d2, d3, d4, d5⟩ := (hbox.below hb).six
          obtain ⟨W1, hW1, hbW1, hbox1⟩ := refFld_boxN w1 f n hnb (.slice a' f.v.length c')
          have HW1 := hid hW1
          have HA := hid (below_on hb hbW1)
          clear hW1 hbox1 hbW1 hb
          go_wp2_with fail
          rw [HW1.out]
          refine (FV.out _ (IV.out.below HA.out)).mono ?_
          rintro e w2 ⟨rfl, hb2⟩
          replace HA := hid (below_on HA.out hb2)
          clear d0 d1 d2 d3 d4 d5 hb2 HW1 n2 hlt
          obtain ⟨d0, d1, d2, d3, d4, d5⟩ := (hbox.below HA.out).six
          go_wp2_with fail
          refine (FM.out _ (IM.out.below HA.out)).mono ?_
          rintro e w3 ⟨rfl, hb3⟩
          replace HA := hid (below_on HA.out hb3)
          clear d0 d1 d2 d3 d4 d5 hb3
          obtain ⟨d0, d1, d2, d3, d4, d5⟩ := (hbox.below HA.out).six
          go_wp2_with fail
          refine (ref8Zeros_any m ma mc _ (by omega) (IM.out.below HA.out)).mono ?_
          rw [hz]
          rintro e w' ⟨rfl, rfl⟩
          go_wp2_with fail
          refine (ref8Ones_any m n hn (by omega) OM.out ma mc _ (IM.out.below HA.out)).mono ?_
          rw [ho]
          rintro e w' ⟨rfl, rfl⟩
          go_wp2_with fail
          go_ret
          exact ⟨rfl, below_on HB.out HA.out⟩
        · go_enter Try.func35, Try.ntmps35
          go_wp2_with fail
          rw [HW.out]
          go_wp2_with fail
          refine (HO.out _).mono ?_
          rintro e w1 ⟨v', rfl, ⟨a', c', rfl, hI⟩, hb⟩
          clear hI
          have hlt := (hbox.below hb).lt
          have n2 : ¬ w.heap.size = w1.heap.size := by omega
          clear d0 d1 d2 d3 d4 d5
          obtain ⟨d0, d1, d2, d3, d4, d5⟩ := (hbox.below hb).six
          obtain ⟨W1, hW1, hbW1, hbox1⟩ := refFld_boxN w1 f n hnb (.slice a' f.v.length c')
          have HW1 := hid hW1
          have HA := hid (below_on hb hbW1)
          clear hW1 hbox1 hbW1 hb
          go_wp2_with fail
          rw [HW1.out]
          refine (FV.out _ (IV.out.below HA.out)).mono ?_
          rintro e w2 ⟨rfl, hb2⟩
          replace HA := hid (below_on HA.out hb2)
          clear d0 d1 d2 d3 d4 d5 hb2 HW1 n2 hlt
          obtain ⟨d0, d1, d2, d3, d4, d5⟩ := (hbox.below HA.out).six
          go_wp2_with fail
          refine (FM.out _ (IM.out.below HA.out)).mono ?_
          rintro e w3 ⟨rfl, hb3⟩
          replace HA := hid (below_on HA.out hb3)
          clear d0 d1 d2 d3 d4 d5 hb3
          obtain ⟨d0, d1, d2, d3, d4, d5⟩ := (hbox.below HA.out).six
          go_wp2_with fail
          refine (ref8Zeros_any m ma mc _ (by omega) (IM.out.below HA.out)).mono ?_
          rw [hz]
          rintro e w' ⟨rfl, rfl⟩
          go_wp2_with fail
          refine (ref8Ones_any m n hn (by omega) OM.out ma mc _ (IM.out.below HA.out)).mono ?_
          rw [ho]
          rintro e w' ⟨rfl, rfl⟩
          go_wp2_with fail
          refine (ref8Inside_any v m hvm (by omega) OV.out OM.out va ma vc mc _ (IV.out.below HA.out) (IM.out.below HA.out)).mono ?_
          rw [hi]
          rintro e w5 ⟨rfl, hb5⟩
          go_wp2_with fail
          go_ret
          exact ⟨rfl, below_on HB.out (below_on HA.out hb5)⟩
        · go_enter Try.func35, Try.ntmps35
          go_wp2_with fail
          rw [HW.out]
          go_wp2_with fail
          refine (HO.out _).mono ?_
          rintro e w1 ⟨v', rfl, ⟨a', c', rfl, hI⟩, hb⟩
          clear hI
          have hlt := (hbox.below hb).lt
          have n2 : ¬ w.heap.size = w1.heap.size := by omega
          clear d0 d1 d2 d3 d4 d5
          obtain ⟨d0, d1, d2, d3, d4, d5⟩ := (hbox.below hb).six
          obtain ⟨W1, hW1, hbW1, hbox1⟩ := refFld_boxN w1 f n hnb (.slice a' f.v.length c')
          have HW1 := hid hW1
          have HA := hid (below_on hb hbW1)
          clear hW1 hbox1 hbW1 hb
          go_wp2_with fail
          rw [HW1.out]
          refine (FV.out _ (IV.out.below HA.out)).mono ?_
          rintro e w2 ⟨rfl, hb2⟩
          replace HA := hid (below_on HA.out hb2)
          clear d0 d1 d2 d3 d4 d5 hb2 HW1 n2 hlt
          obtain ⟨d0, d1, d2, d3, d4, d5⟩ := (hbox.below HA.out).six
          go_wp2_with fail
          refine (FM.out _ (IM.out.below HA.out)).mono ?_
          rintro e w3 ⟨rfl, hb3⟩
          replace HA := hid (below_on HA.out hb3)
          clear d0 d1 d2 d3 d4 d5 hb3
          obtain ⟨d0, d1, d2, d3, d4, d5⟩ := (hbox.below HA.out).six
          go_wp2_with fail
          refine (ref8Zeros_any m ma mc _ (by omega) (IM.out.below HA.out)).mono ?_
          rw [hz]
          rintro e w' ⟨rfl, rfl⟩
          go_wp2_with fail
          refine (ref8Ones_any m n hn (by omega) OM.out ma mc _ (IM.out.below HA.out)).mono ?_
          rw [ho]
          rintro e w' ⟨rfl, rfl⟩
          go_wp2_with fail
          refine (ref8Inside_any v m hvm (by omega) OV.out OM.out va ma vc mc _ (IV.out.below HA.out) (IM.out.below HA.out)).mono ?_
          rw [hi]
          rintro e w5 ⟨rfl, hb5⟩
          go_wp2_with fail
          go_ret
          exact ⟨rfl, below_on HB.out (below_on HA.out hb5)⟩

set_option maxRecDepth 100000 in
set_option maxHeartbeats 2000000 in
theorem refWrong_extra (F : Int) (H : Bool) (X : Int) (va : Option Addr) (vc : Nat) (ma : Option Addr) (mc : Nat) (v m : List Int) (hvm : H = true → v.length ≤ m.length) (hm : m.length ≤ 1000) (ov : Octets v) (om : Octets m) (w : World) (iv : Ints .u8 w va v) (im : Ints .u8 w ma m) :
    Calls Try.prog 35 #[.agg #[.int .i64 65535, .int .i64 F, .bool H, .int .u64 X, .slice va v.length vc, .slice ma m.length mc]] w fun e w' => e = .returned (.int .i64 (bytesE 65535 F H v m)) ∧ Below w.heap.size w w' := by
  obtain ⟨W, hW, hbW, hbox⟩ := oxm_box w 65535 F H X va v.length vc ma m.length mc
  have HW := hid hW
  have HB := hid hbW
  have HO := hid (fun W => refOf_any F W)
  obtain ⟨d0, d1, d2, d3, d4, d5⟩ := hbox.six
  have IV := hid (iv.below hbW)
  have IM := hid (im.below hbW)
  clear hW hbW iv im
  have OV := hid ov
  have OM := hid om
  clear ov om
  obtain ⟨f, hf⟩ : ∃ f, fld F = f := ⟨_, rfl⟩
  rw [hf] at HO
  obtain ⟨t, ht⟩ : ∃ t, decide (0 ≤ F ∧ F < 40) = t := ⟨_, rfl⟩
  rw [ht] at HO
  clear ht hf
  unfold refFldV at HO
  cases H
  · have HE : bytesE 65535 F false v m = 0 := by simp [bytesE]
    rw [HE]
    clear HE hvm
    go_enter Try.func35, Try.ntmps35
    go_wp2_with fail
    rw [HW.out]
    go_wp2_with fail
    refine (HO.out _).mono ?_
    rintro e w1 ⟨v', rfl, ⟨a', c', rfl, hI⟩, hb⟩
    clear hI
    have hlt := (hbox.below hb).lt
    have n2 : ¬ w.heap.size = w1.heap.size := by omega
    clear d0 d1 d2 d3 d4 d5
    obtain ⟨d0, d1, d2, d3, d4, d5⟩ := (hbox.below hb).six
    obtain ⟨W1, hW1, hbW1, hbox1⟩ := refFld_box w1 f (.slice a' f.v.length c')
    have HW1 := hid hW1
    have HA := hid (below_on hb hbW1)
    clear hW1 hbox1 hbW1 hb
    go_wp2_with fail
    rw [HW1.out]
    go_ret
    exact ⟨rfl, below_on HB.out HA.out⟩
  · have HE : bytesE 65535 F true v m = maskE v m ((8 * m.length : Nat) : Int) := by simp [bytesE]
    rw [HE]
    replace hvm := hvm rfl
    obtain ⟨n, hnn⟩ : ∃ n : Nat, 8 * m.length = n := ⟨_, rfl⟩
    have hn : n ≤ 8 * m.length := by omega
    have hni : 8 * (m.length : Int) = (n : Int) := by omega
    have hq := mask_ways v m n OM.out (by rw [← hnn]; exact ones_all)
    rw [hnn]
    obtain ⟨r, hr⟩ : ∃ r, maskE v m n = r := ⟨_, rfl⟩
    rw [hr] at hq ⊢
    unfold MaskWays at hq
    clear hr HE hnn
    rcases hq with ⟨hz, rfl⟩ | ⟨hz, ho, rfl⟩ | ⟨hz, ho, hi, rfl⟩ | ⟨hz, ho, hi, rfl⟩
    · go_enter Try.func35, Try.ntmps35
      go_wp2_with fail
      rw [HW.out]
      go_wp2_with fail
      refine (HO.out _).mono ?_
      rintro e w1 ⟨v', rfl, ⟨a', c', rfl, hI⟩, hb⟩
      clear hI
      have hlt := (hbox.below hb).lt
      have n2 : ¬ w.heap.size = w1.heap.size := by omega
      clear d0 d1 d2 d3 d4 d5
      obtain ⟨d0, d1, d2, d3, d4, d5⟩ := (hbox.below hb).six
      obtain ⟨W1, hW1, hbW1, hbox1⟩ := refFld_box w1 f (.slice a' f.v.length c')
      have HW1 := hid hW1
      have HA := hid (below_on hb hbW1)
      clear hW1 hbox1 hbW1 hb
      go_wp2_with fail
      rw [HW1.out]
      clear d0 d1 d2 d3 d4 d5 n2 hlt
      obtain ⟨d0, d1, d2, d3, d4, d5⟩ := (hbox.below HA.out).six
      refine (ref8Zeros_any m ma mc _ (by omega) (IM.out.below HA.out)).mono ?_
      rw [hz]
      rintro e w' ⟨rfl, rfl⟩
      go_wp2_with fail
      go_ret
      exact ⟨rfl, below_on HB.out HA.out⟩
    · go_enter Try.func35, Try.ntmps35
      go_wp2_with fail
      rw [HW.out]
      go_wp2_with fail
      refine (HO.out _).mono ?_
      rintro e w1 ⟨v', rfl, ⟨a', c', rfl, hI⟩, hb⟩
      clear hI
      have hlt := (hbox.below hb).lt
      have n2 : ¬ w.heap.size = w1.heap.size := by omega
      clear d0 d1 d2 d3 d4 d5
      obtain ⟨d0, d1, d2, d3, d4, d5⟩ := (hbox.below hb).six
      obtain ⟨W1, hW1, hbW1, hbox1⟩ := refFld_box w1 f (.slice a' f.v.length c')
      have HW1 := hid hW1
      have HA := hid (below_on hb hbW1)
      clear hW1 hbox1 hbW1 hb
      go_wp2_with fail
      rw [HW1.out]
      clear d0 d1 d2 d3 d4 d5 n2 hlt
      obtain ⟨d0, d1, d2, d3, d4, d5⟩ := (hbox.below HA.out).six
      refine (ref8Zeros_any m ma mc _ (by omega) (IM.out.below HA.out)).mono ?_
      rw [hz]
      rintro e w' ⟨rfl, rfl⟩
      go_wp2_with fail
      refine (ref8Ones_any m n hn (by omega) OM.out ma mc _ (IM.out.below HA.out)).mono ?_
      rw [ho]
      rintro e w' ⟨rfl, rfl⟩
      go_wp2_with fail
      go_ret
      exact ⟨rfl, below_on HB.out HA.out⟩
    · go_enter Try.func35, Try.ntmps35
      go_wp2_with fail
      rw [HW.out]
      go_wp2_with fail
      refine (HO.out _).mono ?_
      rintro e w1 ⟨v', rfl, ⟨a', c', rfl, hI⟩, hb⟩
      clear hI
      have hlt := (hbox.below hb).lt
      have n2 : ¬ w.heap.size = w1.heap.size := by omega
      clear d0 d1 d2 d3 d4 d5
      obtain ⟨d0, d1, d2, d3, d4, d5⟩ := (hbox.below hb).six
      obtain ⟨W1, hW1, hbW1, hbox1⟩ := refFld_box w1 f (.slice a' f.v.length c')
      have HW1 := hid hW1
      have HA := hid (below_on hb hbW1)
      clear hW1 hbox1 hbW1 hb
      go_wp2_with fail
      rw [HW1.out]
      clear d0 d1 d2 d3 d4 d5 n2 hlt
      obtain ⟨d0, d1, d2, d3, d4, d5⟩ := (hbox.below HA.out).six
      refine (ref8Zeros_any m ma mc _ (by omega) (IM.out.below HA.out)).mono ?_
      rw [hz]
      rintro e w' ⟨rfl, rfl⟩
      go_wp2_with fail
      refine (ref8Ones_any m n hn (by omega) OM.out ma mc _ (IM.out.below HA.out)).mono ?_
      rw [ho]
      rintro e w' ⟨rfl, rfl⟩
      go_wp2_with fail
      refine (ref8Inside_any v m hvm (by omega) OV.out OM.out va ma vc mc _ (IV.out.below HA.out) (IM.out.below HA.out)).mono ?_
      rw [hi]
      rintro e w5 ⟨rfl, hb5⟩
      go_wp2_with fail
      go_ret
      exact ⟨rfl, below_on HB.out (below_on HA.out hb5)⟩
    · go_enter Try.func35, Try.ntmps35
      go_wp2_with fail
      rw [HW.out]
      go_wp2_with fail
      refine (HO.out _).mono ?_
      rintro e w1 ⟨v', rfl, ⟨a', c', rfl, hI⟩, hb⟩
      clear hI
      have hlt := (hbox.below hb).lt
      have n2 : ¬ w.heap.size = w1.heap.size := by omega
      clear d0 d1 d2 d3 d4 d5
      obtain ⟨d0, d1, d2, d3, d4, d5⟩ := (hbox.below hb).six
      obtain ⟨W1, hW1, hbW1, hbox1⟩ := refFld_box w1 f (.slice a' f.v.length c')
      have HW1 := hid hW1
      have HA := hid (below_on hb hbW1)
      clear hW1 hbox1 hbW1 hb
      go_wp2_with fail
      rw [HW1.out]
      clear d0 d1 d2 d3 d4 d5 n2 hlt
      obtain ⟨d0, d1, d2, d3, d4, d5⟩ := (hbox.below HA.out).six
      refine (ref8Zeros_any m ma mc _ (by omega) (IM.out.below HA.out)).mono ?_
      rw [hz]
      rintro e w' ⟨rfl, rfl⟩
      go_wp2_with fail
      refine (ref8Ones_any m n hn (by omega) OM.out ma mc _ (IM.out.below HA.out)).mono ?_
      rw [ho]
      rintro e w' ⟨rfl, rfl⟩
      go_wp2_with fail
      refine (ref8Inside_any v m hvm (by omega) OV.out OM.out va ma vc mc _ (IV.out.below HA.out) (IM.out.below HA.out)).mono ?_
      rw [hi]
      rintro e w5 ⟨rfl, hb5⟩
      go_wp2_with fail
      go_ret
      exact ⟨rfl, below_on HB.out (below_on HA.out hb5)⟩
end Go.Proofs.Ytfogpofgmnibcaa
