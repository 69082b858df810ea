/- The document's values: whether a value may be. -/
import Derived.Test.YtfogpofgmnibcaaOxmH
namespace Go.Proofs.Ytfogpofgmnibcaa
open Go.RowKit
set_option linter.unusedVariables false

theorem refFld_box3 (w : World) (f : Fld) (M : Bool) (v : Value) : ∃ W, w.alloc (.cells #[.string f.nm, .int .i64 f.b, .int .i64 f.z, .bool M, .int .i64 f.d, v] 57) = W ∧ Below w.heap.size w W ∧ BoxL W w.heap.size [.string f.nm, .int .i64 f.b, .int .i64 f.z, .bool M, .int .i64 f.d, v] :=
  ⟨_, rfl, below_alloc _ _, BoxL.new _ _ _⟩
theorem fits_z {n : Int} {v : List Int} (h : fitsB n v = true) : v.length = (fld n).z ∧ 0 ≤ n ∧ n < 40 := by
  unfold fitsB at h
  simp only [Bool.and_eq_true, decide_eq_true_eq] at h
  exact ⟨h.1.2, h.1.1⟩
theorem right_basic {F X : Int} {H : Bool} {v m : List Int} (h2 : m.length = maskZ H v.length) (hF : 0 ≤ F ∧ F < 40) (hX : X = 0) (hM : (H && !(fld F).m) = false) (hb : bytesE 32768 F H v m = 0) : rightB 32768 F H X v m = true := by
  have hv : fitsB F v = true := by
    cases h : fitsB F v
    · simp [bytesE, h] at hb
    · rfl
  have hz := (fits_z hv).1
  have hh : headE 32768 F H (behind8 32768 v.length m.length) = 0 := by
    rw [h2]
    cases H
    · simp [headE, hF, behind8, maskZ, pieces8, hz]
    · have : (fld F).m = true := by simpa using hM
      simp [headE, hF, behind8, maskZ, pieces8, hz, this]
      omega
  simp [rightB, room8, hX, h2.symm, hh, hb]
theorem right_extra {F X : Int} {H : Bool} {v m : List Int} (h2 : m.length = maskZ H v.length) (hF : 0 ≤ F ∧ F ≤ 127) (hX : X ≤ 4294967295) (hl : v.length ≤ 100) (hb : bytesE 65535 F H v m = 0) : rightB 65535 F H X v m = true := by
  have hh : headE 65535 F H (behind8 65535 v.length m.length) = 0 := by
    rw [h2]
    cases H
    · simp [headE, behind8, maskZ, pieces8, Int.emod_one]
      omega
    · simp [headE, behind8, maskZ, pieces8]
      omega
  simp [rightB, room8, hX, hF, h2.symm, hh, hb]
theorem right_long {F X : Int} {H : Bool} {v m : List Int} (h2 : m.length = maskZ H v.length) (hl : 100 < v.length) : rightB 65535 F H X v m = false := by
  refine right_head ?_
  rw [h2]
  cases H
  · simp [headE, behind8, maskZ, pieces8, Int.emod_one]
    omega
  · simp [headE, behind8, maskZ, pieces8]
    omega
theorem right_none {C F X : Int} {H : Bool} {v m : List Int} (h1 : C ≠ 32768) (h2 : C ≠ 65535) : rightB C F H X v m = false :=
  right_head (by simp [headE, h1, h2])

set_option maxRecDepth 100000 in
set_option maxHeartbeats 1000000 in
theorem ref8Right_mask (C : Int) (F : Int) (H : Bool) (X : Int) (va : Option Addr) (vc : Nat) (ma : Option Addr) (mc : Nat) (v m : List Int) (hv : v.length ≤ 1000) (hm : m.length ≤ 1000) (ov : Octets v) (om : Octets m) (w : World) (iv : Ints .u8 w va v) (im : Ints .u8 w ma m) (h2 : m.length ≠ maskZ H v.length) :
    Calls Try.prog 12 #[.agg #[.int .i64 C, .int .i64 F, .bool H, .int .u64 X, .slice va v.length vc, .slice ma m.length mc]] w fun e w' => e = .returned (.bool (rightB C F H X v m)) ∧ Below w.heap.size w w' := by
  rw [right_mask h2]
  cases H
  · have h3 : m.length ≠ 0 := h2
    obtain ⟨ml, hml⟩ : ∃ ml, m.length = ml := ⟨_, rfl⟩
    rw [hml] at h3 ⊢
    have n1 : 0 < (ml : Int) := by omega
    clear h2 h3 hml hv hm ov om iv im
    go_enter Try.func12, Try.ntmps12
    go_wp2
    go_ret
    exact ⟨rfl, below_alloc _ _⟩
  · have h3 : m.length ≠ v.length := h2
    have n1 : ((m.length : Int) != (v.length : Int)) = true := by simp; omega
    clear h2 h3 hv hm ov om iv im
    go_enter Try.func12, Try.ntmps12
    go_wp2
    go_ret
    exact ⟨rfl, below_alloc _ _⟩
set_option maxRecDepth 100000 in
set_option maxHeartbeats 2000000 in
theorem ref8Right_basic (F : Int) (H : Bool) (X : Int) (va : Option Addr) (vc : Nat) (ma : Option Addr) (mc : Nat) (v m : List Int) (hv : v.length ≤ 1000) (hm : m.length ≤ 1000) (ov : Octets v) (om : Octets m) (w : World) (iv : Ints .u8 w va v) (im : Ints .u8 w ma m) (h2 : m.length = maskZ H v.length) :
    Calls Try.prog 12 #[.agg #[.int .i64 32768, .int .i64 F, .bool H, .int .u64 X, .slice va v.length vc, .slice ma m.length mc]] w fun e w' => e = .returned (.bool (rightB 32768 F H X v m)) ∧ Below w.heap.size w w' := by
  obtain ⟨W, hW, hbW, hbox⟩ := oxm_box w 32768 F H X va v.length vc ma m.length mc
  have HW := hid hW
  have HB := hid hbW
  obtain ⟨d0, d1, d2, d3, d4, d5⟩ := hbox.six
  have IV := hid (iv.below hbW)
  have IM := hid (im.below hbW)
  clear hW hbW iv im
  have HO := hid (fun W => refOf_any F W)
  have RW := hid (fun W iv im => refWrong_basic F H X va vc ma mc v m hm ov om W iv im)
  clear ov om
  have hr0 := fun h1 h2' h3 h4 => right_basic (F := F) (X := X) (v := v) (m := m) h2 h1 h2' h3 h4
  have n1 : H = false → m = [] := by rintro rfl; simpa [maskZ] using h2
  have n3 : H = true → ((m.length : Int) != (v.length : Int)) = false := by rintro rfl; simp [maskZ] at h2; simp [h2]
  clear h2
  by_cases hF : 0 ≤ F ∧ F < 40
  · rw [decide_eq_true hF] at HO
    by_cases hX : X = 0
    · subst hX
      obtain ⟨f, hf⟩ : ∃ f, fld F = f := ⟨_, rfl⟩
      by_cases hM : (H && !(fld F).m) = false
      · by_cases hb : bytesE 32768 F H v m = 0
        · rw [hr0 hF rfl hM hb]
          rw [hb] at RW
          rw [hf] at HO hM
          unfold refFldV at HO
          clear hb hr0 hf hF
          rcases (show H = false ∨ H = true ∧ f.m = true by cases H <;> simp_all) with rfl | ⟨rfl, hfm⟩
          · obtain rfl := n1 rfl
            simp only [List.length_nil] at HW
            clear hM
            go_enter Try.func12, Try.ntmps12
            go_wp2_with fail
            rw [HW.out]
            go_wp2_with fail
            refine (HO.out _).mono ?_
            rintro e w1 ⟨v', rfl, ⟨a', c', rfl, hI⟩, hb⟩
            clear hI
            have hbx := hbox.below hb
            have hlt := hbx.lt
            have n2 : ¬ w.heap.size = w1.heap.size := by omega
            clear d0 d1 d2 d3 d4 d5
            obtain ⟨d0, d1, d2, d3, d4, d5⟩ := hbx.six
            go_wp2_with fail
            obtain ⟨W1, rfl, hbW1, hbox1⟩ := refFld_box3 w1 f f.m (.slice a' f.v.length c')
            have HA := hid (below_on hb hbW1)
            clear d0 d1 d2 d3 d4 d5
            obtain ⟨d0, d1, d2, d3, d4, d5⟩ := (hbx.below hbW1).six
            obtain ⟨_, _, _, g3, _, _⟩ := hbox1.six
            have k3 := Wk.cell g3
            refine (RW.out _ (IV.out.below HA.out) (IM.out.below HA.out)).mono ?_
            rintro e w2 ⟨rfl, hb2⟩
            go_wp2_with fail
            go_ret
            exact ⟨rfl, below_on HB.out (below_on HA.out hb2)⟩
          · have n3 := n3 rfl
            rw [hfm] at HO
            clear hfm hM
            go_enter Try.func12, Try.ntmps12
            go_wp2_with fail
            rw [HW.out]
            go_wp2_with fail
            refine (HO.out _).mono ?_
            rintro e w1 ⟨v', rfl, ⟨a', c', rfl, hI⟩, hb⟩
            clear hI
            have hbx := hbox.below hb
            have hlt := hbx.lt
            have n2 : ¬ w.heap.size = w1.heap.size := by omega
            clear d0 d1 d2 d3 d4 d5
            obtain ⟨d0, d1, d2, d3, d4, d5⟩ := hbx.six
            go_wp2_with fail
            obtain ⟨W1, rfl, hbW1, hbox1⟩ := refFld_box3 w1 f true (.slice a' f.v.length c')
            have HA := hid (below_on hb hbW1)
            clear d0 d1 d2 d3 d4 d5
            obtain ⟨d0, d1, d2, d3, d4, d5⟩ := (hbx.below hbW1).six
            obtain ⟨_, _, _, g3, _, _⟩ := hbox1.six
            have k3 := Wk.cell g3
            refine (RW.out _ (IV.out.below HA.out) (IM.out.below HA.out)).mono ?_
            rintro e w2 ⟨rfl, hb2⟩
            go_wp2_with fail
            go_ret
            exact ⟨rfl, below_on HB.out (below_on HA.out hb2)⟩
        · rw [right_bytes hb]
          obtain ⟨q, hq⟩ : ∃ q, bytesE 32768 F H v m = q := ⟨_, rfl⟩
          rw [hq] at RW hb
          have n4 : (q == 0) = false := by simpa using hb
          rw [hf] at HO hM
          unfold refFldV at HO
          clear hb hr0 hf hF hq
          rcases (show H = false ∨ H = true ∧ f.m = true by cases H <;> simp_all) with rfl | ⟨rfl, hfm⟩
          · obtain rfl := n1 rfl
            simp only [List.length_nil] at HW
            clear hM
            go_enter Try.func12, Try.ntmps12
            go_wp2_with fail
            rw [HW.out]
            go_wp2_with fail
            refine (HO.out _).mono ?_
            rintro e w1 ⟨v', rfl, ⟨a', c', rfl, hI⟩, hb⟩
            clear hI
            have hbx := hbox.below hb
            have hlt := hbx.lt
            have n2 : ¬ w.heap.size = w1.heap.size := by omega
            clear d0 d1 d2 d3 d4 d5
            obtain ⟨d0, d1, d2, d3, d4, d5⟩ := hbx.six
            go_wp2_with fail
            obtain ⟨W1, rfl, hbW1, hbox1⟩ := refFld_box3 w1 f f.m (.slice a' f.v.length c')
            have HA := hid (below_on hb hbW1)
            clear d0 d1 d2 d3 d4 d5
            obtain ⟨d0, d1, d2, d3, d4, d5⟩ := (hbx.below hbW1).six
            obtain ⟨_, _, _, g3, _, _⟩ := hbox1.six
            have k3 := Wk.cell g3
            refine (RW.out _ (IV.out.below HA.out) (IM.out.below HA.out)).mono ?_
            rintro e w2 ⟨rfl, hb2⟩
            go_wp2_with fail
            go_ret
            exact ⟨rfl, below_on HB.out (below_on HA.out hb2)⟩
          · have n3 := n3 rfl
            rw [hfm] at HO
            clear hfm hM
            go_enter Try.func12, Try.ntmps12
            go_wp2_with fail
            rw [HW.out]
            go_wp2_with fail
            refine (HO.out _).mono ?_
            rintro e w1 ⟨v', rfl, ⟨a', c', rfl, hI⟩, hb⟩
            clear hI
            have hbx := hbox.below hb
            have hlt := hbx.lt
            have n2 : ¬ w.heap.size = w1.heap.size := by omega
            clear d0 d1 d2 d3 d4 d5
            obtain ⟨d0, d1, d2, d3, d4, d5⟩ := hbx.six
            go_wp2_with fail
            obtain ⟨W1, rfl, hbW1, hbox1⟩ := refFld_box3 w1 f true (.slice a' f.v.length c')
            have HA := hid (below_on hb hbW1)
            clear d0 d1 d2 d3 d4 d5
            obtain ⟨d0, d1, d2, d3, d4, d5⟩ := (hbx.below hbW1).six
            obtain ⟨_, _, _, g3, _, _⟩ := hbox1.six
            have k3 := Wk.cell g3
            refine (RW.out _ (IV.out.below HA.out) (IM.out.below HA.out)).mono ?_
            rintro e w2 ⟨rfl, hb2⟩
            go_wp2_with fail
            go_ret
            exact ⟨rfl, below_on HB.out (below_on HA.out hb2)⟩
      · have hh : rightB 32768 F H 0 v m = false := right_head (by
          have : (H && !(fld F).m) = true := by simpa using hM
          simp only [headE, if_true, this]
          simp [hF])
        rw [hh]
        rw [hf] at HO hM
        unfold refFldV at HO
        have hM' : H = true ∧ f.m = false := by simpa using hM
        clear hr0 hf hF hh hM
        obtain ⟨rfl, hfm⟩ := hM'
        rw [hfm] at HO
        clear hfm
        have n3 := n3 rfl
        go_enter Try.func12, Try.ntmps12
        go_wp2_with fail
        rw [HW.out]
        go_wp2_with fail
        refine (HO.out _).mono ?_
        rintro e w1 ⟨v', rfl, ⟨a', c', rfl, hI⟩, hb⟩
        clear hI
        have hbx := hbox.below hb
        have hlt := hbx.lt
        have n2 : ¬ w.heap.size = w1.heap.size := by omega
        clear d0 d1 d2 d3 d4 d5
        obtain ⟨d0, d1, d2, d3, d4, d5⟩ := hbx.six
        go_wp2_with fail
        obtain ⟨W1, rfl, hbW1, hbox1⟩ := refFld_box3 w1 f false (.slice a' f.v.length c')
        have HA := hid (below_on hb hbW1)
        clear d0 d1 d2 d3 d4 d5
        obtain ⟨d0, d1, d2, d3, d4, d5⟩ := (hbx.below hbW1).six
        obtain ⟨_, _, _, g3, _, _⟩ := hbox1.six
        have k3 := Wk.cell g3
        go_ret
        exact ⟨rfl, below_on HB.out HA.out⟩
    · have n5 : (X == 0) = false := by simpa using hX
      have hh : rightB 32768 F H X v m = false := right_room (by simp [room8, hX])
      rw [hh]
      obtain ⟨f, hf⟩ : ∃ f, fld F = f := ⟨_, rfl⟩
      rw [hf] at HO
      unfold refFldV at HO
      clear hr0 hf hF hh hX
      cases H
      · obtain rfl := n1 rfl
        simp only [List.length_nil] at HW
        go_enter Try.func12, Try.ntmps12
        go_wp2_with fail
        rw [HW.out]
        go_wp2_with fail
        refine (HO.out _).mono ?_
        rintro e w1 ⟨v', rfl, ⟨a', c', rfl, hI⟩, hb⟩
        clear hI
        have hbx := hbox.below hb
        have hlt := hbx.lt
        have n2 : ¬ w.heap.size = w1.heap.size := by omega
        clear d0 d1 d2 d3 d4 d5
        obtain ⟨d0, d1, d2, d3, d4, d5⟩ := hbx.six
        go_wp2_with fail
        obtain ⟨W1, rfl, hbW1, hbox1⟩ := refFld_box3 w1 f f.m (.slice a' f.v.length c')
        have HA := hid (below_on hb hbW1)
        clear d0 d1 d2 d3 d4 d5
        obtain ⟨d0, d1, d2, d3, d4, d5⟩ := (hbx.below hbW1).six
        obtain ⟨_, _, _, g3, _, _⟩ := hbox1.six
        have k3 := Wk.cell g3
        go_ret
        exact ⟨rfl, below_on HB.out HA.out⟩
      · have n3 := n3 rfl
        go_enter Try.func12, Try.ntmps12
        go_wp2_with fail
        rw [HW.out]
        go_wp2_with fail
        refine (HO.out _).mono ?_
        rintro e w1 ⟨v', rfl, ⟨a', c', rfl, hI⟩, hb⟩
        clear hI
        have hbx := hbox.below hb
        have hlt := hbx.lt
        have n2 : ¬ w.heap.size = w1.heap.size := by omega
        clear d0 d1 d2 d3 d4 d5
        obtain ⟨d0, d1, d2, d3, d4, d5⟩ := hbx.six
        go_wp2_with fail
        obtain ⟨W1, rfl, hbW1, hbox1⟩ := refFld_box3 w1 f f.m (.slice a' f.v.length c')
        have HA := hid (below_on hb hbW1)
        clear d0 d1 d2 d3 d4 d5
        obtain ⟨d0, d1, d2, d3, d4, d5⟩ := (hbx.below hbW1).six
        obtain ⟨_, _, _, g3, _, _⟩ := hbox1.six
        have k3 := Wk.cell g3
        go_ret
        exact ⟨rfl, below_on HB.out HA.out⟩
  · rw [decide_eq_false hF] at HO
    have hh : rightB 32768 F H X v m = false := right_head (by simp [headE, hF])
    rw [hh]
    obtain ⟨f, hf⟩ : ∃ f, fld F = f := ⟨_, rfl⟩
    rw [hf] at HO
    unfold refFldV at HO
    clear hr0 hf hF hh
    cases H
    · obtain rfl := n1 rfl
      simp only [List.length_nil] at HW
      go_enter Try.func12, Try.ntmps12
      go_wp2_with fail
      rw [HW.out]
      go_wp2_with fail
      refine (HO.out _).mono ?_
      rintro e w1 ⟨v', rfl, ⟨a', c', rfl, hI⟩, hb⟩
      clear hI
      have hbx := hbox.below hb
      have hlt := hbx.lt
      have n2 : ¬ w.heap.size = w1.heap.size := by omega
      clear d0 d1 d2 d3 d4 d5
      obtain ⟨d0, d1, d2, d3, d4, d5⟩ := hbx.six
      go_wp2_with fail
      obtain ⟨W1, rfl, hbW1, hbox1⟩ := refFld_box3 w1 f f.m (.slice a' f.v.length c')
      have HA := hid (below_on hb hbW1)
      clear d0 d1 d2 d3 d4 d5
      obtain ⟨d0, d1, d2, d3, d4, d5⟩ := (hbx.below hbW1).six
      obtain ⟨_, _, _, g3, _, _⟩ := hbox1.six
      have k3 := Wk.cell g3
      go_ret
      exact ⟨rfl, below_on HB.out HA.out⟩
    · have n3 := n3 rfl
      go_enter Try.func12, Try.ntmps12
      go_wp2_with fail
      rw [HW.out]
      go_wp2_with fail
      refine (HO.out _).mono ?_
      rintro e w1 ⟨v', rfl, ⟨a', c', rfl, hI⟩, hb⟩
      clear hI
      have hbx := hbox.below hb
      have hlt := hbx.lt
      have n2 : ¬ w.heap.size = w1.heap.size := by omega
      clear d0 d1 d2 d3 d4 d5
      obtain ⟨d0, d1, d2, d3, d4, d5⟩ := hbx.six
      go_wp2_with fail
      obtain ⟨W1, rfl, hbW1, hbox1⟩ := refFld_box3 w1 f f.m (.slice a' f.v.length c')
      have HA := hid (below_on hb hbW1)
      clear d0 d1 d2 d3 d4 d5
      obtain ⟨d0, d1, d2, d3, d4, d5⟩ := (hbx.below hbW1).six
      obtain ⟨_, _, _, g3, _, _⟩ := hbox1.six
      have k3 := Wk.cell g3
      go_ret
      exact ⟨rfl, below_on HB.out HA.out⟩
set_option maxRecDepth 100000 in
set_option maxHeartbeats 2000000 in
theorem ref8Right_extra (F : Int) (H : Bool) (X : Int) (va : Option Addr) (vc : Nat) (ma : Option Addr) (mc : Nat) (v m : List Int) (hv : v.length ≤ 1000) (hm : m.length ≤ 1000) (ov : Octets v) (om : Octets m) (w : World) (iv : Ints .u8 w va v) (im : Ints .u8 w ma m) (hX0 : 0 ≤ X) (h2 : m.length = maskZ H v.length) :
    Calls Try.prog 12 #[.agg #[.int .i64 65535, .int .i64 F, .bool H, .int .u64 X, .slice va v.length vc, .slice ma m.length mc]] w fun e w' => e = .returned (.bool (rightB 65535 F H X v m)) ∧ Below w.heap.size w w' := by
  obtain ⟨W, hW, hbW, hbox⟩ := oxm_box w 65535 F H X va v.length vc ma m.length mc
  have HW := hid hW
  have HB := hid hbW
  obtain ⟨d0, d1, d2, d3, d4, d5⟩ := hbox.six
  have IV := hid (iv.below hbW)
  have IM := hid (im.below hbW)
  clear hW hbW iv im
  have RW := hid (fun W iv im => refWrong_extra F H X va vc ma mc v m (fun h => by rw [h2, h]; exact Nat.le_refl _) hm ov om W iv im)
  clear ov om
  have hr0 := fun h1 h2' h3 h4 => right_extra (F := F) (X := X) (v := v) (m := m) h2 h1 h2' h3 h4
  have hl0 := fun h => right_long (F := F) (X := X) (v := v) (m := m) h2 h
  have n1 : H = false → m = [] := by rintro rfl; simpa [maskZ] using h2
  have n3 : H = true → ((m.length : Int) != (v.length : Int)) = false := by rintro rfl; simp [maskZ] at h2; simp [h2]
  clear h2
  rcases (show F < 0 ∨ (0 ≤ F ∧ 127 < F) ∨ ((0 ≤ F ∧ F ≤ 127) ∧ 4294967296 ≤ X) ∨ ((0 ≤ F ∧ F ≤ 127) ∧ X < 4294967296 ∧ 100 < v.length) ∨ ((0 ≤ F ∧ F ≤ 127) ∧ X < 4294967296 ∧ v.length ≤ 100 ∧ bytesE 65535 F H v m ≠ 0) ∨ ((0 ≤ F ∧ F ≤ 127) ∧ X < 4294967296 ∧ v.length ≤ 100 ∧ bytesE 65535 F H v m = 0) by omega) with hF | ⟨g0, g1⟩ | ⟨⟨g0, g1⟩, g2⟩ | ⟨⟨g0, g1⟩, g2, g3⟩ | ⟨⟨g0, g1⟩, g2, g3, g4⟩ | ⟨⟨g0, g1⟩, g2, g3, g4⟩
  · rw [right_room (by simp [room8]; omega)]
    clear hr0 hl0
    cases H
    · obtain rfl := n1 rfl
      simp only [List.length_nil] at HW
      go_enter Try.func12, Try.ntmps12
      go_wp2_with fail
      rw [HW.out]
      go_wp2_with fail
      have HA := hid (Below.refl W.heap.size W)
      go_ret
      exact ⟨rfl, below_on HB.out HA.out⟩
    · have n3 := n3 rfl
      go_enter Try.func12, Try.ntmps12
      go_wp2_with fail
      rw [HW.out]
      go_wp2_with fail
      have HA := hid (Below.refl W.heap.size W)
      go_ret
      exact ⟨rfl, below_on HB.out HA.out⟩
  · rw [right_room (by simp [room8]; omega)]
    clear hr0 hl0
    cases H
    · obtain rfl := n1 rfl
      simp only [List.length_nil] at HW
      go_enter Try.func12, Try.ntmps12
      go_wp2_with fail
      rw [HW.out]
      go_wp2_with fail
      have HA := hid (Below.refl W.heap.size W)
      go_ret
      exact ⟨rfl, below_on HB.out HA.out⟩
    · have n3 := n3 rfl
      go_enter Try.func12, Try.ntmps12
      go_wp2_with fail
      rw [HW.out]
      go_wp2_with fail
      have HA := hid (Below.refl W.heap.size W)
      go_ret
      exact ⟨rfl, below_on HB.out HA.out⟩
  · rw [right_room (by simp [room8]; omega)]
    clear hr0 hl0
    cases H
    · obtain rfl := n1 rfl
      simp only [List.length_nil] at HW
      go_enter Try.func12, Try.ntmps12
      go_wp2_with fail
      rw [HW.out]
      go_wp2_with fail
      have HA := hid (Below.refl W.heap.size W)
      go_ret
      exact ⟨rfl, below_on HB.out HA.out⟩
    · have n3 := n3 rfl
      go_enter Try.func12, Try.ntmps12
      go_wp2_with fail
      rw [HW.out]
      go_wp2_with fail
      have HA := hid (Below.refl W.heap.size W)
      go_ret
      exact ⟨rfl, below_on HB.out HA.out⟩
  · rw [hl0 g3]
    have g5 : 100 < (v.length : Int) := by omega
    clear hr0 hl0
    cases H
    · obtain rfl := n1 rfl
      simp only [List.length_nil] at HW
      go_enter Try.func12, Try.ntmps12
      go_wp2_with fail
      rw [HW.out]
      go_wp2_with fail
      have HA := hid (Below.refl W.heap.size W)
      go_ret
      exact ⟨rfl, below_on HB.out HA.out⟩
    · have n3 := n3 rfl
      go_enter Try.func12, Try.ntmps12
      go_wp2_with fail
      rw [HW.out]
      go_wp2_with fail
      have HA := hid (Below.refl W.heap.size W)
      go_ret
      exact ⟨rfl, below_on HB.out HA.out⟩
  · rw [right_bytes g4]
    have g5 : (v.length : Int) ≤ 100 := by omega
    obtain ⟨q, hq⟩ : ∃ q, bytesE 65535 F H v m = q := ⟨_, rfl⟩
    rw [hq] at RW g4
    have n4 : (q == 0) = false := by simpa using g4
    clear hr0 hl0 hq g4
    cases H
    · obtain rfl := n1 rfl
      simp only [List.length_nil] at HW
      go_enter Try.func12, Try.ntmps12
      go_wp2_with fail
      rw [HW.out]
      go_wp2_with fail
      have HA := hid (Below.refl W.heap.size W)
      refine (RW.out _ (IV.out.below HA.out) (IM.out.below HA.out)).mono ?_
      rintro e w2 ⟨rfl, hb2⟩
      go_wp2_with fail
      go_ret
      exact ⟨rfl, below_on HB.out (below_on HA.out hb2)⟩
    · have n3 := n3 rfl
      go_enter Try.func12, Try.ntmps12
      go_wp2_with fail
      rw [HW.out]
      go_wp2_with fail
      have HA := hid (Below.refl W.heap.size W)
      refine (RW.out _ (IV.out.below HA.out) (IM.out.below HA.out)).mono ?_
      rintro e w2 ⟨rfl, hb2⟩
      go_wp2_with fail
      go_ret
      exact ⟨rfl, below_on HB.out (below_on HA.out hb2)⟩
  · rw [hr0 ⟨g0, g1⟩ (by omega) g3 g4]
    have g5 : (v.length : Int) ≤ 100 := by omega
    rw [g4] at RW
    clear hr0 hl0 g4
    cases H
    · obtain rfl := n1 rfl
      simp only [List.length_nil] at HW
      go_enter Try.func12, Try.ntmps12
      go_wp2_with fail
      rw [HW.out]
      go_wp2_with fail
      have HA := hid (Below.refl W.heap.size W)
      refine (RW.out _ (IV.out.below HA.out) (IM.out.below HA.out)).mono ?_
      rintro e w2 ⟨rfl, hb2⟩
      go_wp2_with fail
      go_ret
      exact ⟨rfl, below_on HB.out (below_on HA.out hb2)⟩
    · have n3 := n3 rfl
      go_enter Try.func12, Try.ntmps12
      go_wp2_with fail
      rw [HW.out]
      go_wp2_with fail
      have HA := hid (Below.refl W.heap.size W)
      refine (RW.out _ (IV.out.below HA.out) (IM.out.below HA.out)).mono ?_
      rintro e w2 ⟨rfl, hb2⟩
      go_wp2_with fail
      go_ret
      exact ⟨rfl, below_on HB.out (below_on HA.out hb2)⟩

set_option maxRecDepth 100000 in
theorem ref8Right_none (C : Int) (F : Int) (H : Bool) (X : Int) (va : Option Addr) (vc : Nat) (ma : Option Addr) (mc : Nat) (v m : List Int) (hv : v.length ≤ 1000) (hm : m.length ≤ 1000) (ov : Octets v) (om : Octets m) (w : World) (iv : Ints .u8 w va v) (im : Ints .u8 w ma m) (hb : (C == 32768) = false) (hx : (C == 65535) = false) :
    Calls Try.prog 12 #[.agg #[.int .i64 C, .int .i64 F, .bool H, .int .u64 X, .slice va v.length vc, .slice ma m.length mc]] w fun e w' => e = .returned (.bool (rightB C F H X v m)) ∧ Below w.heap.size w w' := by
  by_cases h2 : m.length = maskZ H v.length
  · rw [right_none (by simpa using hb) (by simpa using hx)]
    have n1 : H = false → m = [] := by rintro rfl; simpa [maskZ] using h2
    have n3 : H = true → ((m.length : Int) != (v.length : Int)) = false := by rintro rfl; simp [maskZ] at h2; simp [h2]
    clear h2 ov om
    obtain ⟨W, hW, hbW, hbox⟩ := oxm_box w C F H X va v.length vc ma m.length mc
    have HW := hid hW
    have HB := hid hbW
    obtain ⟨d0, d1, d2, d3, d4, d5⟩ := hbox.six
    have IV := hid (iv.below hbW)
    have IM := hid (im.below hbW)
    clear hW hbW iv im
    cases H
    · obtain rfl := n1 rfl
      simp only [List.length_nil] at HW
      go_enter Try.func12, Try.ntmps12
      go_wp2_with fail
      rw [HW.out]
      go_wp2_with fail
      have HA := hid (Below.refl W.heap.size W)
      go_ret
      exact ⟨rfl, below_on HB.out HA.out⟩
    · have n3 := n3 rfl
      go_enter Try.func12, Try.ntmps12
      go_wp2_with fail
      rw [HW.out]
      go_wp2_with fail
      have HA := hid (Below.refl W.heap.size W)
      go_ret
      exact ⟨rfl, below_on HB.out HA.out⟩
  · exact ref8Right_mask C F H X va vc ma mc v m hv hm ov om w iv im h2

theorem ref8Right_any (C : Int) (F : Int) (H : Bool) (X : Int) (va : Option Addr) (vc : Nat) (ma : Option Addr) (mc : Nat) (v m : List Int) (hv : v.length ≤ 1000) (hm : m.length ≤ 1000) (ov : Octets v) (om : Octets m) (w : World) (iv : Ints .u8 w va v) (im : Ints .u8 w ma m) (hX0 : 0 ≤ X) :
    Calls Try.prog 12 #[.agg #[.int .i64 C, .int .i64 F, .bool H, .int .u64 X, .slice va v.length vc, .slice ma m.length mc]] w fun e w' => e = .returned (.bool (rightB C F H X v m)) ∧ Below w.heap.size w w' := by
  by_cases h2 : m.length = maskZ H v.length
  · by_cases hb : C = 32768
    · subst hb
      exact ref8Right_basic F H X va vc ma mc v m hv hm ov om w iv im h2
    · by_cases hx : C = 65535
      · subst hx
        exact ref8Right_extra F H X va vc ma mc v m hv hm ov om w iv im hX0 h2
      · exact ref8Right_none C F H X va vc ma mc v m hv hm ov om w iv im (by simpa using hb) (by simpa using hx)
  · exact ref8Right_mask C F H X va vc ma mc v m hv hm ov om w iv im h2
end Go.Proofs.Ytfogpofgmnibcaa
