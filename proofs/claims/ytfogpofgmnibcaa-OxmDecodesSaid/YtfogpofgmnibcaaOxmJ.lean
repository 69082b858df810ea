/- Package oxm: how many bytes a value has; Field and Has as one number. -/
import Derived.Test.YtfogpofgmnibcaaOxmI
namespace Go.Proofs.Ytfogpofgmnibcaa
open Go.RowKit
set_option linter.unusedVariables false

/-- what is so of a value that may be -/
structure Facts8 (C F : Int) (H : Bool) (X : Int) (v m : List Int) : Prop where
  cls : C = 32768 ∨ C = 65535
  f0 : 0 ≤ F
  f1 : F ≤ 127
  len : m.length = maskZ H v.length
  most : behind8 C v.length m.length ≤ 204
  x1 : X ≤ 4294967295
  v1 : v.length ≤ 100
theorem right_facts {C F X : Int} {H : Bool} {v m : List Int} (h : rightB C F H X v m = true) : Facts8 C F H X v m := by
  unfold rightB at h
  simp only [Bool.and_eq_true, decide_eq_true_eq] at h
  obtain ⟨⟨⟨h1, h2⟩, h3⟩, h4⟩ := h
  by_cases hb : C = 32768
  · subst hb
    have hv : fitsB F v = true := by
      cases h : fitsB F v
      · simp [bytesE, h] at h4
      · rfl
    obtain ⟨hz, g0, g1⟩ := fits_z hv
    have hz16 := (fld_dims ⟨g0, g1⟩).2.2.2
    have hx : X = 0 := by simpa [room8] using h1
    refine ⟨.inl rfl, g0, by omega, h2, ?_, by omega, by omega⟩
    rw [h2]
    cases H <;> simp [behind8, maskZ] <;> omega
  · by_cases hx : C = 65535
    · subst hx
      simp [room8] at h1
      by_cases hl : v.length ≤ 100
      · refine ⟨.inr rfl, h1.1, h1.2.1, h2, ?_, h1.2.2, hl⟩
        rw [h2]
        cases H <;> simp [behind8, maskZ] <;> omega
      · exfalso
        have := right_long (F := F) (X := X) h2 (by omega)
        simp [rightB, room8, h1, h2.symm, h3, h4] at this
    · exfalso
      have := right_none (F := F) (X := X) (H := H) (v := v) (m := m) hb hx
      simp [rightB, h1, h2.symm, h3, h4] at this

/-- how many bytes a value has -/
def size8 (C F : Int) (H : Bool) (X : Int) (v m : List Int) : Nat := if rightB C F H X v m then 4 + behind8 C v.length m.length else 0

set_option maxRecDepth 100000 in
set_option maxHeartbeats 1000000 in
theorem size8_any (C F : Int) (H : Bool) (X : Int) (va : Option Addr) (vc : Nat) (ma : Option Addr) (mc : Nat) (v m : List Int) (hv : v.length ≤ 1000) (hm : m.length ≤ 1000) (hmc : m.length ≤ mc) (ov : Octets v) (om : Octets m) (w : World) (iv : Ints .u8 w va v) (im : Ints .u8 w ma m) :
    Calls Try.prog 13 #[.agg #[.int .i64 C, .int .i64 F, .bool H, .int .u64 X, .slice va v.length vc, .slice ma m.length mc]] w fun e w' => e = .returned (.int .i64 (size8 C F H X v m)) ∧ Below w.heap.size w w' := by
  obtain ⟨W, hW, hbW, hbox⟩ := oxm_box w C F H X va v.length vc ma m.length mc
  have HW := hid hW
  have HB := hid hbW
  obtain ⟨d0, d1, d2, d3, d4, d5⟩ := hbox.six
  have IV := hid (iv.below hbW)
  have IM := hid (im.below hbW)
  clear hW hbW iv im
  have RR := hid (fun W iv im => right8_any C F H X va vc ma mc v m hv hm hmc ov om W iv im)
  have R3 := hid (fun W => behind8_any C F H X va v.length vc ma m.length mc W (by omega) (by omega))
  clear ov om
  cases hr : rightB C F H X v m
  · rw [show size8 C F H X v m = 0 by simp [size8, hr]]
    rw [hr] at RR
    clear hr
    go_enter Try.func13, Try.ntmps13
    go_wp2_with fail
    rw [HW.out]
    go_wp2_with fail
    refine (RR.out _ IV.out IM.out).mono ?_
    rintro e w1 ⟨rfl, hb⟩
    go_wp2_with fail
    go_ret
    exact ⟨rfl, below_on HB.out hb⟩
  · have hb1 : (behind8 C v.length m.length : Int) ≤ 204 := by have := (right_facts hr).most; omega
    rw [show size8 C F H X v m = 4 + behind8 C v.length m.length by simp [size8, hr]]
    rw [hr] at RR
    clear hr
    obtain ⟨q, hq⟩ : ∃ q, behind8 C v.length m.length = q := ⟨_, rfl⟩
    rw [hq] at R3 hb1 ⊢
    clear hq
    go_enter Try.func13, Try.ntmps13
    go_wp2_with fail
    rw [HW.out]
    go_wp2_with fail
    refine (RR.out _ IV.out IM.out).mono ?_
    rintro e w1 ⟨rfl, hb⟩
    clear d0 d1 d2 d3 d4 d5
    obtain ⟨d0, d1, d2, d3, d4, d5⟩ := (hbox.below hb).six
    go_wp2_with fail
    refine (R3.out _).mono ?_
    rintro e w2 ⟨rfl, hb2⟩
    go_wp2_with fail
    go_ret
    exact ⟨ret_int (by omega), below_on HB.out (below_on hb hb2)⟩

/-- twice the Field, and 1 with a mask -/
def fieldN (F : Int) (H : Bool) : Int := if H then 2 * F + 1 else 2 * F
theorem or_one {F : Int} (h0 : 0 ≤ F) (h1 : F ≤ 127) : bits BinOp.or IntKind.u64 (F * 2) 1 = 2 * F + 1 := by
  rw [u64_or _ _ (by omega) (by omega) (by omega) (by omega)]
  obtain ⟨a, rfl⟩ := Int.eq_ofNat_of_zero_le h0
  have e : ((a : Int) * 2).toNat = 2 ^ 1 * a := by omega
  have e1 : (1 : Int).toNat = 1 := rfl
  rw [e, e1, ← Nat.two_pow_add_eq_or_of_lt (by omega)]
  omega

set_option maxRecDepth 100000 in
theorem fieldByte_any (C F : Int) (H : Bool) (X : Int) (va : Option Addr) (vl vc : Nat) (ma : Option Addr) (ml mc : Nat) (w : World) (h0 : 0 ≤ F) (h1 : F ≤ 127) :
    Calls Try.prog 24 #[.agg #[.int .i64 C, .int .i64 F, .bool H, .int .u64 X, .slice va vl vc, .slice ma ml mc]] w fun e w' => e = .returned (.int .u64 (fieldN F H)) ∧ Below w.heap.size w w' := by
  have ho := or_one h0 h1
  cases H
  · go_enter Try.func24, Try.ntmps24
    go_wp2
    go_ret
    exact ⟨ret_int (by simp [fieldN]; omega), below_alloc _ _⟩
  · go_enter Try.func24, Try.ntmps24
    go_wp2
    trace_state
    go_ret
    exact ⟨ret_int (by simp [fieldN]), below_alloc _ _⟩
end Go.Proofs.Ytfogpofgmnibcaa
