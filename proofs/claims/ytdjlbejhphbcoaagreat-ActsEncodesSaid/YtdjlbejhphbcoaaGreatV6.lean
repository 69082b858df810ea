/- Put together out of several texts. -/
import Derived.Test.YtdjlbejhphbcoaaGreatV3
import Derived.Test.YtdjlbejhphbcoaaGreatV7
import Derived.Deep.RegionHeld3
import Derived.Deep.DeepCutAuto
import Derived.Test.YtdjlbejhphbcoaaGreatV1
import Derived.OpenShut
import Derived.ProofKit
import Derived.Deep.Slices
import Derived.Laws.BytesArg
namespace Go.Proofs.YtdjlbejhphbcoaaGreat
open Go.RowKit
set_option linter.unusedVariables false

theorem refFld_box3 (w : World) (f : Fld) (M : Bool) (v : Value) : ∃ W, w.alloc (.cells #[.string f.nm, .int .i64 f.b, .int .i64 f.z, .bool M, .int .i64 f.d, v] 151) = W ∧ Below w.heap.size w W ∧ BoxL W w.heap.size [.string f.nm, .int .i64 f.b, .int .i64 f.z, .bool M, .int .i64 f.d, v] :=
  ⟨_, rfl, below_alloc _ _, BoxL.new _ _ _⟩
theorem fits_z {n : Int} {v : List Int} (h : fitsB n v = true) : v.length = (fld n).z ∧ 0 ≤ n ∧ n < 40 := by
  unfold fitsB at h
  simp only [Bool.and_eq_true, decide_eq_true_eq] at h
  exact ⟨h.1.2, h.1.1⟩
theorem right_basic {F X : Int} {H : Bool} {v m : List Int} (h2 : m.length = maskZ H v.length) (hF : 0 ≤ F ∧ F < 40) (hX : X = 0) (hM : (H && !(fld F).m) = false) (hb : bytesE 32768 F H v m = 0) : rightB 32768 F H X v m = true := by
  have hv : fitsB F v = true := by
    cases h : fitsB F v
    · simp [bytesE, h] at hb
    · rfl
  have hz := (fits_z hv).1
  have hh : headE 32768 F H (behind8 32768 v.length m.length) = 0 := by
    rw [h2]
    cases H
    · simp [headE, hF, behind8, maskZ, pieces8, hz]
    · have : (fld F).m = true := by simpa using hM
      simp [headE, hF, behind8, maskZ, pieces8, hz, this]
      omega
  simp [rightB, room8, hX, h2.symm, hh, hb]
theorem right_extra {F X : Int} {H : Bool} {v m : List Int} (h2 : m.length = maskZ H v.length) (hF : 0 ≤ F ∧ F ≤ 127) (hX : X ≤ 4294967295) (hl : v.length ≤ 100) (hb : bytesE 65535 F H v m = 0) : rightB 65535 F H X v m = true := by
  have hh : headE 65535 F H (behind8 65535 v.length m.length) = 0 := by
    rw [h2]
    cases H
    · simp [headE, behind8, maskZ, pieces8, Int.emod_one]
      omega
    · simp [headE, behind8, maskZ, pieces8]
      omega
  simp [rightB, room8, hX, hF, h2.symm, hh, hb]
theorem right_long {F X : Int} {H : Bool} {v m : List Int} (h2 : m.length = maskZ H v.length) (hl : 100 < v.length) : rightB 65535 F H X v m = false := by
  refine right_head ?_
  rw [h2]
  cases H
  · simp [headE, behind8, maskZ, pieces8, Int.emod_one]
    omega
  · simp [headE, behind8, maskZ, pieces8]
    omega
theorem right_none {C F X : Int} {H : Bool} {v m : List Int} (h1 : C ≠ 32768) (h2 : C ≠ 65535) : rightB C F H X v m = false :=
  right_head (by simp [headE, h1, h2])

set_option maxRecDepth 100000 in
set_option maxHeartbeats 1000000 in
theorem ref8Right_mask (C : Int) (F : Int) (H : Bool) (X : Int) (va : Option Addr) (vc : Nat) (ma : Option Addr) (mc : Nat) (v m : List Int) (hv : v.length ≤ 1000) (hm : m.length ≤ 1000) (ov : Octets v) (om : Octets m) (w : World) (iv : Ints .u8 w va v) (im : Ints .u8 w ma m) (h2 : m.length ≠ maskZ H v.length) :
    Calls Tryz.prog 85 #[.agg #[.int .i64 C, .int .i64 F, .bool H, .int .u64 X, .slice va v.length vc, .slice ma m.length mc]] w fun e w' => e = .returned (.bool (rightB C F H X v m)) ∧ Below w.heap.size w w' := by
  rw [right_mask h2]
  cases H
  · have h3 : m.length ≠ 0 := h2
    obtain ⟨ml, hml⟩ : ∃ ml, m.length = ml := ⟨_, rfl⟩
    rw [hml] at h3 ⊢
    have n1 : 0 < (ml : Int) := by omega
    clear h2 h3 hml hv hm ov om iv im
    go_enter Tryz.func85, Tryz.ntmps85
    go_wp2
    go_ret
    exact ⟨rfl, below_alloc _ _⟩
  · have h3 : m.length ≠ v.length := h2
    have n1 : ((m.length : Int) != (v.length : Int)) = true := by simp; omega
    clear h2 h3 hv hm ov om iv im
    go_enter Tryz.func85, Tryz.ntmps85
    go_wp2
    go_ret
    exact ⟨rfl, below_alloc _ _⟩
set_option maxRecDepth 100000 in
set_option maxHeartbeats 2000000 in
theorem ref8Right_basic (F : Int) (H : Bool) (X : Int) (va : Option Addr) (vc : Nat) (ma : Option Addr) (mc : Nat) (v m : List Int) (hv : v.length ≤ 1000) (hm : m.length ≤ 1000) (ov : Octets v) (om : Octets m) (w : World) (iv : Ints .u8 w va v) (im : Ints .u8 w ma m) (h2 : m.length = maskZ H v.length) :
    Calls Tryz.prog 85 #[.agg #[.int .i64 32768, .int .i64 F, .bool H, .int .u64 X, .slice va v.length vc, .slice ma m.length mc]] w fun e w' => e = .returned (.bool (rightB 32768 F H X v m)) ∧ Below w.heap.size w w' := by
  obtain ⟨W, hW, hbW, hbox⟩ := oxm_box w 32768 F H X va v.length vc ma m.length mc
  have HW := hid hW
  have HB := hid hbW
  obtain ⟨d0, d1, d2, d3, d4, d5⟩ := hbox.six
  have IV := hid (iv.below hbW)
  have IM := hid (im.below hbW)
  clear hW hbW iv im
  have HO := hid (fun W => refOf_any F W)
  have RW := hid (fun W iv im => refWrong_basic F H X va vc ma mc v m hm ov om W iv im)
  clear ov om
  have hr0 := fun h1 h2' h3 h4 => right_basic (F := F) (X := X) (v := v) (m := m) h2 h1 h2' h3 h4
  have n1 : H = false → m = [] := by rintro rfl; simpa [maskZ] using h2
  have n3 : H = true → ((m.length : Int) != (v.length : Int)) = false := by rintro rfl; simp [maskZ] at h2; simp [h2]
  clear h2
  by_cases hF : 0 ≤ F ∧ F < 40
  · rw [decide_eq_true hF] at HO
    by_cases hX : X = 0
    · subst hX
      obtain ⟨f, hf⟩ : ∃ f, fld F = f := ⟨_, rfl⟩
      by_cases hM : (H && !(fld F).m) = false
      · by_cases hb : bytesE 32768 F H v m = 0
        · rw [hr0 hF rfl hM hb]
          rw [hb] at RW
          rw [hf] at HO hM
          unfold refFldV at HO
          clear hb hr0 hf hF
          rcases (show H = false ∨ H = true ∧ f.m = true by cases H <;> simp_all) with rfl | ⟨rfl, hfm⟩
          · obtain rfl := n1 rfl
            simp only [List.length_nil] at HW
            clear hM
            go_enter Tryz.func85, Tryz.ntmps85
            go_wp2_with fail
            rw [HW.out]
            go_wp2_with fail
            refine (HO.out _).mono ?_
            rintro e w1 ⟨v', rfl, ⟨a', c', rfl, hI⟩, hb⟩
            clear hI
            have hbx := hbox.below hb
            have hlt := hbx.lt
            have n2 : ¬ w.heap.size = w1.heap.size := by omega
            clear d0 d1 d2 d3 d4 d5
            obtain ⟨d0, d1, d2, d3, d4, d5⟩ := hbx.six
            go_wp2_with fail
            obtain ⟨W1, rfl, hbW1, hbox1⟩ := refFld_box3 w1 f f.m (.slice a' f.v.length c')
            have HA := hid (below_on hb hbW1)
            clear d0 d1 d2 d3 d4 d5
            obtain ⟨d0, d1, d2, d3, d4, d5⟩ := (hbx.below hbW1).six
            obtain ⟨_, _, _, g3, _, _⟩ := hbox1.six
            have k3 := Wk.cell g3
            refine (RW.out _ (IV.out.below HA.out) (IM.out.below HA.out)).mono ?_
            rintro e w2 ⟨rfl, hb2⟩
            go_wp2_with fail
            go_ret
            exact ⟨rfl, below_on HB.out (below_on HA.out hb2)⟩
          · have n3 := n3 rfl
            rw [hfm] at HO
            clear hfm hM
            go_enter Tryz.func85, Tryz.ntmps85
            go_wp2_with fail
            rw [HW.out]
            go_wp2_with fail
            refine (HO.out _).mono ?_
            rintro e w1 ⟨v', rfl, ⟨a', c', rfl, hI⟩, hb⟩
            clear hI
            have hbx := hbox.below hb
            have hlt := hbx.lt
            have n2 : ¬ w.heap.size = w1.heap.size := by omega
            clear d0 d1 d2 d3 d4 d5
            obtain ⟨d0, d1, d2, d3, d4, d5⟩ := hbx.six
            go_wp2_with fail
            obtain ⟨W1, rfl, hbW1, hbox1⟩ := refFld_box3 w1 f true (.slice a' f.v.length c')
            have HA := hid (below_on hb hbW1)
            clear d0 d1 d2 d3 d4 d5
            obtain ⟨d0, d1, d2, d3, d4, d5⟩ := (hbx.below hbW1).six
            obtain ⟨_, _, _, g3, _, _⟩ := hbox1.six
            have k3 := Wk.cell g3
            refine (RW.out _ (IV.out.below HA.out) (IM.out.below HA.out)).mono ?_
            rintro e w2 ⟨rfl, hb2⟩
            go_wp2_with fail
            go_ret
            exact ⟨rfl, below_on HB.out (below_on HA.out hb2)⟩
        · rw [right_bytes hb]
          obtain ⟨q, hq⟩ : ∃ q, bytesE 32768 F H v m = q := ⟨_, rfl⟩
          rw [hq] at RW hb
          have n4 : (q == 0) = false := by simpa using hb
          rw [hf] at HO hM
          unfold refFldV at HO
          clear hb hr0 hf hF hq
          rcases (show H = false ∨ H = true ∧ f.m = true by cases H <;> simp_all) with rfl | ⟨rfl, hfm⟩
          · obtain rfl := n1 rfl
            simp only [List.length_nil] at HW
            clear hM
            go_enter Tryz.func85, Tryz.ntmps85
            go_wp2_with fail
            rw [HW.out]
            go_wp2_with fail
            refine (HO.out _).mono ?_
            rintro e w1 ⟨v', rfl, ⟨a', c', rfl, hI⟩, hb⟩
            clear hI
            have hbx := hbox.below hb
            have hlt := hbx.lt
            have n2 : ¬ w.heap.size = w1.heap.size := by omega
            clear d0 d1 d2 d3 d4 d5
            obtain ⟨d0, d1, d2, d3, d4, d5⟩ := hbx.six
            go_wp2_with fail
            obtain ⟨W1, rfl, hbW1, hbox1⟩ := refFld_box3 w1 f f.m (.slice a' f.v.length c')
            have HA := hid (below_on hb hbW1)
            clear d0 d1 d2 d3 d4 d5
            obtain ⟨d0, d1, d2, d3, d4, d5⟩ := (hbx.below hbW1).six
            obtain ⟨_, _, _, g3, _, _⟩ := hbox1.six
            have k3 := Wk.cell g3
            refine (RW.out _ (IV.out.below HA.out) (IM.out.below HA.out)).mono ?_
            rintro e w2 ⟨rfl, hb2⟩
            go_wp2_with fail
            go_ret
            exact ⟨rfl, below_on HB.out (below_on HA.out hb2)⟩
          · have n3 := n3 rfl
            rw [hfm] at HO
            clear hfm hM
            go_enter Tryz.func85, Tryz.ntmps85
            go_wp2_with fail
            rw [HW.out]
            go_wp2_with fail
            refine (HO.out _).mono ?_
            rintro e w1 ⟨v', rfl, ⟨a', c', rfl, hI⟩, hb⟩
            clear hI
            have hbx := hbox.below hb
            have hlt := hbx.lt
            have n2 : ¬ w.heap.size = w1.heap.size := by omega
            clear d0 d1 d2 d3 d4 d5
            obtain ⟨d0, d1, d2, d3, d4, d5⟩ := hbx.six
            go_wp2_with fail
            obtain ⟨W1, rfl, hbW1, hbox1⟩ := refFld_box3 w1 f true (.slice a' f.v.length c')
            have HA := hid (below_on hb hbW1)
            clear d0 d1 d2 d3 d4 d5
            obtain ⟨d0, d1, d2, d3, d4, d5⟩ := (hbx.below hbW1).six
            obtain ⟨_, _, _, g3, _, _⟩ := hbox1.six
            have k3 := Wk.cell g3
            refine (RW.out _ (IV.out.below HA.out) (IM.out.below HA.out)).mono ?_
            rintro e w2 ⟨rfl, hb2⟩
            go_wp2_with fail
            go_ret
            exact ⟨rfl, below_on HB.out (below_on HA.out hb2)⟩
      · have hh : rightB 32768 F H 0 v m = false := right_head (by
          have : (H && !(fld F).m) = true := by simpa using hM
          simp only [headE, if_true, this]
          simp [hF])
        rw [hh]
        rw [hf] at HO hM
        unfold refFldV at HO
        have hM' : H = true ∧ f.m = false := by simpa using hM
        clear hr0 hf hF hh hM
        obtain ⟨rfl, hfm⟩ := hM'
        rw [hfm] at HO
        clear hfm
        have n3 := n3 rfl
        go_enter Tryz.func85, Tryz.ntmps85
        go_wp2_with fail
        rw [HW.out]
        go_wp2_with fail
        refine (HO.out _).mono ?_
        rintro e w1 ⟨v', rfl, ⟨a', c', rfl, hI⟩, hb⟩
        clear hI
        have hbx := hbox.below hb
        have hlt := hbx.lt
        have n2 : ¬ w.heap.size = w1.heap.size := by omega
        clear d0 d1 d2 d3 d4 d5
        obtain ⟨d0, d1, d2, d3, d4, d5⟩ := hbx.six
        go_wp2_with fail
        obtain ⟨W1, rfl, hbW1, hbox1⟩ := refFld_box3 w1 f false (.slice a' f.v.length c')
        have HA := hid (below_on hb hbW1)
        clear d0 d1 d2 d3 d4 d5
        obtain ⟨d0, d1, d2, d3, d4, d5⟩ := (hbx.below hbW1).six
        obtain ⟨_, _, _, g3, _, _⟩ := hbox1.six
        have k3 := Wk.cell g3
        go_ret
        exact ⟨rfl, below_on HB.out HA.out⟩
    · have n5 : (X == 0) = false := by simpa using hX
      have hh : rightB 32768 F H X v m = false := right_room (by simp [room8, hX])
      rw [hh]
      obtain ⟨f, hf⟩ : ∃ f, fld F = f := ⟨_, rfl⟩
      rw [hf] at HO
      unfold refFldV at HO
      clear hr0 hf hF hh hX
      cases H
      · obtain rfl := n1 rfl
        simp only [List.length_nil] at HW
        go_enter Tryz.func85, Tryz.ntmps85
        go_wp2_with fail
        rw [HW.out]
        go_wp2_with fail
        refine (HO.out _).mono ?_
        rintro e w1 ⟨v', rfl, ⟨a', c', rfl, hI⟩, hb⟩
        clear hI
        have hbx := hbox.below hb
        have hlt := hbx.lt
        have n2 : ¬ w.heap.size = w1.heap.size := by omega
        clear d0 d1 d2 d3 d4 d5
        obtain ⟨d0, d1, d2, d3, d4, d5⟩ := hbx.six
        go_wp2_with fail
        obtain ⟨W1, rfl, hbW1, hbox1⟩ := refFld_box3 w1 f f.m (.slice a' f.v.length c')
        have HA := hid (below_on hb hbW1)
        clear d0 d1 d2 d3 d4 d5
        obtain ⟨d0, d1, d2, d3, d4, d5⟩ := (hbx.below hbW1).six
        obtain ⟨_, _, _, g3, _, _⟩ := hbox1.six
        have k3 := Wk.cell g3
        go_ret
        exact ⟨rfl, below_on HB.out HA.out⟩
      · have n3 := n3 rfl
        go_enter Tryz.func85, Tryz.ntmps85
        go_wp2_with fail
        rw [HW.out]
        go_wp2_with fail
        refine (HO.out _).mono ?_
        rintro e w1 ⟨v', rfl, ⟨a', c', rfl, hI⟩, hb⟩
        clear hI
        have hbx := hbox.below hb
        have hlt := hbx.lt
        have n2 : ¬ w.heap.size = w1.heap.size := by omega
        clear d0 d1 d2 d3 d4 d5
        obtain ⟨d0, d1, d2, d3, d4, d5⟩ := hbx.six
        go_wp2_with fail
        obtain ⟨W1, rfl, hbW1, hbox1⟩ := refFld_box3 w1 f f.m (.slice a' f.v.length c')
        have HA := hid (below_on hb hbW1)
        clear d0 d1 d2 d3 d4 d5
        obtain ⟨d0, d1, d2, d3, d4, d5⟩ := (hbx.below hbW1).six
        obtain ⟨_, _, _, g3, _, _⟩ := hbox1.six
        have k3 := Wk.cell g3
        go_ret
        exact ⟨rfl, below_on HB.out HA.out⟩
  · rw [decide_eq_false hF] at HO
    have hh : rightB 32768 F H X v m = false := right_head (by simp [headE, hF])
    rw [hh]
    obtain ⟨f, hf⟩ : ∃ f, fld F = f := ⟨_, rfl⟩
    rw [hf] at HO
    unfold refFldV at HO
    clear hr0 hf hF hh
    cases H
    · obtain rfl := n1 rfl
      simp only [List.length_nil] at HW
      go_enter Tryz.func85, Tryz.ntmps85
      go_wp2_with fail
      rw [HW.out]
      go_wp2_with fail
      refine (HO.out _).mono ?_
      rintro e w1 ⟨v', rfl, ⟨a', c', rfl, hI⟩, hb⟩
      clear hI
      have hbx := hbox.below hb
      have hlt := hbx.lt
      have n2 : ¬ w.heap.size = w1.heap.size := by omega
      clear d0 d1 d2 d3 d4 d5
      obtain ⟨d0, d1, d2, d3, d4, d5⟩ := hbx.six
      go_wp2_with fail
      obtain ⟨W1, rfl, hbW1, hbox1⟩ := refFld_box3 w1 f f.m (.slice a' f.v.length c')
      have HA := hid (below_on hb hbW1)
      clear d0 d1 d2 d3 d4 d5
      obtain ⟨d0, d1, d2, d3, d4, d5⟩ := (hbx.below hbW1).six
      obtain ⟨_, _, _, g3, _, _⟩ := hbox1.six
      have k3 := Wk.cell g3
      go_ret
      exact ⟨rfl, below_on HB.out HA.out⟩
    · have n3 := n3 rfl
      go_enter Tryz.func85, Tryz.ntmps85
      go_wp2_with fail
      rw [HW.out]
      go_wp2_with fail
      refine (HO.out _).mono ?_
      rintro e w1 ⟨v', rfl, ⟨a', c', rfl, hI⟩, hb⟩
      clear hI
      have hbx := hbox.below hb
      have hlt := hbx.lt
      have n2 : ¬ w.heap.size = w1.heap.size := by omega
      clear d0 d1 d2 d3 d4 d5
      obtain ⟨d0, d1, d2, d3, d4, d5⟩ := hbx.six
      go_wp2_with fail
      obtain ⟨W1, rfl, hbW1, hbox1⟩ := refFld_box3 w1 f f.m (.slice a' f.v.length c')
      have HA := hid (below_on hb hbW1)
      clear d0 d1 d2 d3 d4 d5
      obtain ⟨d0, d1, d2, d3, d4, d5⟩ := (hbx.below hbW1).six
      obtain ⟨_, _, _, g3, _, _⟩ := hbox1.six
      have k3 := Wk.cell g3
      go_ret
      exact ⟨rfl, below_on HB.out HA.out⟩
set_option maxRecDepth 100000 in
set_option maxHeartbeats 2000000 in
theorem ref8Right_extra (F : Int) (H : Bool) (X : Int) (va : Option Addr) (vc : Nat) (ma : Option Addr) (mc : Nat) (v m : List Int) (hv : v.length ≤ 1000) (hm : m.length ≤ 1000) (ov : Octets v) (om : Octets m) (w : World) (iv : Ints .u8 w va v) (im : Ints .u8 w ma m) (hX0 : 0 ≤ X) (h2 : m.length = maskZ H v.length) :
    Calls Tryz.prog 85 #[.agg #[.int .i64 65535, .int .i64 F, .bool H, .int .u64 X, .slice va v.length vc, .slice ma m.length mc]] w fun e w' => e = .returned (.bool (rightB 65535 F H X v m)) ∧ Below w.heap.size w w' := by
  obtain ⟨W, hW, hbW, hbox⟩ := oxm_box w 65535 F H X va v.length vc ma m.length mc
  have HW := hid hW
  have HB := hid hbW
  obtain ⟨d0, d1, d2, d3, d4, d5⟩ := hbox.six
  have IV := hid (iv.below hbW)
  have IM := hid (im.below hbW)
  clear hW hbW iv im
  have RW := hid (fun W iv im => refWrong_extra F H X va vc ma mc v m (fun h => by rw [h2, h]; exact Nat.le_refl _) hm ov om W iv im)
  clear ov om
  have hr0 := fun h1 h2' h3 h4 => right_extra (F := F) (X := X) (v := v) (m := m) h2 h1 h2' h3 h4
  have hl0 := fun h => right_long (F := F) (X := X) (v := v) (m := m) h2 h
  have n1 : H = false → m = [] := by rintro rfl; simpa [maskZ] using h2
  have n3 : H = true → ((m.length : Int) != (v.length : Int)) = false := by rintro rfl; simp [maskZ] at h2; simp [h2]
  clear h2
  rcases (show F < 0 ∨ (0 ≤ F ∧ 127 < F) ∨ ((0 ≤ F ∧ F ≤ 127) ∧ 4294967296 ≤ X) ∨ ((0 ≤ F ∧ F ≤ 127) ∧ X < 4294967296 ∧ 100 < v.length) ∨ ((0 ≤ F ∧ F ≤ 127) ∧ X < 4294967296 ∧ v.length ≤ 100 ∧ bytesE 65535 F H v m ≠ 0) ∨ ((0 ≤ F ∧ F ≤ 127) ∧ X < 4294967296 ∧ v.length ≤ 100 ∧ bytesE 65535 F H v m = 0) by omega) with hF | ⟨g0, g1⟩ | ⟨⟨g0, g1⟩, g2⟩ | ⟨⟨g0, g1⟩, g2, g3⟩ | ⟨⟨g0, g1⟩, g2, g3, g4⟩ | ⟨⟨g0, g1⟩, g2, g3, g4⟩
  · rw [right_room (by simp [room8]; omega)]
    clear hr0 hl0
    cases H
    · obtain rfl := n1 rfl
      simp only [List.length_nil] at HW
      go_enter Tryz.func85, Tryz.ntmps85
      go_wp2_with fail
      rw [HW.out]
      go_wp2_with fail
      have HA := hid (Below.refl W.heap.size W)
      go_ret
      exact ⟨rfl, below_on HB.out HA.out⟩
    · have n3 := n3 rfl
      go_enter Tryz.func85, Tryz.ntmps85
      go_wp2_with fail
      rw [HW.out]
      go_wp2_with fail
      have HA := hid (Below.refl W.heap.size W)
      go_ret
      exact ⟨rfl, below_on HB.out HA.out⟩
  · rw [right_room (by simp [room8]; omega)]
    clear hr0 hl0
    cases H
    · obtain rfl := n1 rfl
      simp only [List.length_nil] at HW
      go_enter Tryz.func85, Tryz.ntmps85
      go_wp2_with fail
      rw [HW.out]
      go_wp2_with fail
      have HA := hid (Below.refl W.heap.size W)
      go_ret
      exact ⟨rfl, below_on HB.out HA.out⟩
    · have n3 := n3 rfl
      go_enter Tryz.func85, Tryz.ntmps85
      go_wp2_with fail
      rw [HW.out]
      go_wp2_with fail
      have HA := hid (Below.refl W.heap.size W)
      go_ret
      exact ⟨rfl, below_on HB.out HA.out⟩
  · rw [right_room (by simp [room8]; omega)]
    clear hr0 hl0
    cases H
    · obtain rfl := n1 rfl
      simp only [List.length_nil] at HW
      go_enter Tryz.func85, Tryz.ntmps85
      go_wp2_with fail
      rw [HW.out]
      go_wp2_with fail
      have HA := hid (Below.refl W.heap.size W)
      go_ret
      exact ⟨rfl, below_on HB.out HA.out⟩
    · have n3 := n3 rfl
      go_enter Tryz.func85, Tryz.ntmps85
      go_wp2_with fail
      rw [HW.out]
      go_wp2_with fail
      have HA := hid (Below.refl W.heap.size W)
      go_ret
      exact ⟨rfl, below_on HB.out HA.out⟩
  · rw [hl0 g3]
    have g5 : 100 < (v.length : Int) := by omega
    clear hr0 hl0
    cases H
    · obtain rfl := n1 rfl
      simp only [List.length_nil] at HW
      go_enter Tryz.func85, Tryz.ntmps85
      go_wp2_with fail
      rw [HW.out]
      go_wp2_with fail
      have HA := hid (Below.refl W.heap.size W)
      go_ret
      exact ⟨rfl, below_on HB.out HA.out⟩
    · have n3 := n3 rfl
      go_enter Tryz.func85, Tryz.ntmps85
      go_wp2_with fail
      rw [HW.out]
      go_wp2_with fail
      have HA := hid (Below.refl W.heap.size W)
      go_ret
      exact ⟨rfl, below_on HB.out HA.out⟩
  · rw [right_bytes g4]
    have g5 : (v.length : Int) ≤ 100 := by omega
    obtain ⟨q, hq⟩ : ∃ q, bytesE 65535 F H v m = q := ⟨_, rfl⟩
    rw [hq] at RW g4
    have n4 : (q == 0) = false := by simpa using g4
    clear hr0 hl0 hq g4
    cases H
    · obtain rfl := n1 rfl
      simp only [List.length_nil] at HW
      go_enter Tryz.func85, Tryz.ntmps85
      go_wp2_with fail
      rw [HW.out]
      go_wp2_with fail
      have HA := hid (Below.refl W.heap.size W)
      refine (RW.out _ (IV.out.below HA.out) (IM.out.below HA.out)).mono ?_
      rintro e w2 ⟨rfl, hb2⟩
      go_wp2_with fail
      go_ret
      exact ⟨rfl, below_on HB.out (below_on HA.out hb2)⟩
    · have n3 := n3 rfl
      go_enter Tryz.func85, Tryz.ntmps85
      go_wp2_with fail
      rw [HW.out]
      go_wp2_with fail
      have HA := hid (Below.refl W.heap.size W)
      refine (RW.out _ (IV.out.below HA.out) (IM.out.below HA.out)).mono ?_
      rintro e w2 ⟨rfl, hb2⟩
      go_wp2_with fail
      go_ret
      exact ⟨rfl, below_on HB.out (below_on HA.out hb2)⟩
  · rw [hr0 ⟨g0, g1⟩ (by omega) g3 g4]
    have g5 : (v.length : Int) ≤ 100 := by omega
    rw [g4] at RW
    clear hr0 hl0 g4
    cases H
    · obtain rfl := n1 rfl
      simp only [List.length_nil] at HW
      go_enter Tryz.func85, Tryz.ntmps85
      go_wp2_with fail
      rw [HW.out]
      go_wp2_with fail
      have HA := hid (Below.refl W.heap.size W)
      refine (RW.out _ (IV.out.below HA.out) (IM.out.below HA.out)).mono ?_
      rintro e w2 ⟨rfl, hb2⟩
      go_wp2_with fail
      go_ret
      exact ⟨rfl, below_on HB.out (below_on HA.out hb2)⟩
    · have n3 := n3 rfl
      go_enter Tryz.func85, Tryz.ntmps85
      go_wp2_with fail
      rw [HW.out]
      go_wp2_with fail
      have HA := hid (Below.refl W.heap.size W)
      refine (RW.out _ (IV.out.below HA.out) (IM.out.below HA.out)).mono ?_
      rintro e w2 ⟨rfl, hb2⟩
      go_wp2_with fail
      go_ret
      exact ⟨rfl, below_on HB.out (below_on HA.out hb2)⟩

set_option maxRecDepth 100000 in
theorem ref8Right_none (C : Int) (F : Int) (H : Bool) (X : Int) (va : Option Addr) (vc : Nat) (ma : Option Addr) (mc : Nat) (v m : List Int) (hv : v.length ≤ 1000) (hm : m.length ≤ 1000) (ov : Octets v) (om : Octets m) (w : World) (iv : Ints .u8 w va v) (im : Ints .u8 w ma m) (hb : (C == 32768) = false) (hx : (C == 65535) = false) :
    Calls Tryz.prog 85 #[.agg #[.int .i64 C, .int .i64 F, .bool H, .int .u64 X, .slice va v.length vc, .slice ma m.length mc]] w fun e w' => e = .returned (.bool (rightB C F H X v m)) ∧ Below w.heap.size w w' := by
  by_cases h2 : m.length = maskZ H v.length
  · rw [right_none (by simpa using hb) (by simpa using hx)]
    have n1 : H = false → m = [] := by rintro rfl; simpa [maskZ] using h2
    have n3 : H = true → ((m.length : Int) != (v.length : Int)) = false := by rintro rfl; simp [maskZ] at h2; simp [h2]
    clear h2 ov om
    obtain ⟨W, hW, hbW, hbox⟩ := oxm_box w C F H X va v.length vc ma m.length mc
    have HW := hid hW
    have HB := hid hbW
    obtain ⟨d0, d1, d2, d3, d4, d5⟩ := hbox.six
    have IV := hid (iv.below hbW)
    have IM := hid (im.below hbW)
    clear hW hbW iv im
    cases H
    · obtain rfl := n1 rfl
      simp only [List.length_nil] at HW
      go_enter Tryz.func85, Tryz.ntmps85
      go_wp2_with fail
      rw [HW.out]
      go_wp2_with fail
      have HA := hid (Below.refl W.heap.size W)
      go_ret
      exact ⟨rfl, below_on HB.out HA.out⟩
    · have n3 := n3 rfl
      go_enter Tryz.func85, Tryz.ntmps85
      go_wp2_with fail
      rw [HW.out]
      go_wp2_with fail
      have HA := hid (Below.refl W.heap.size W)
      go_ret
      exact ⟨rfl, below_on HB.out HA.out⟩
  · exact ref8Right_mask C F H X va vc ma mc v m hv hm ov om w iv im h2

theorem ref8Right_any (C : Int) (F : Int) (H : Bool) (X : Int) (va : Option Addr) (vc : Nat) (ma : Option Addr) (mc : Nat) (v m : List Int) (hv : v.length ≤ 1000) (hm : m.length ≤ 1000) (ov : Octets v) (om : Octets m) (w : World) (iv : Ints .u8 w va v) (im : Ints .u8 w ma m) (hX0 : 0 ≤ X) :
    Calls Tryz.prog 85 #[.agg #[.int .i64 C, .int .i64 F, .bool H, .int .u64 X, .slice va v.length vc, .slice ma m.length mc]] w fun e w' => e = .returned (.bool (rightB C F H X v m)) ∧ Below w.heap.size w w' := by
  by_cases h2 : m.length = maskZ H v.length
  · by_cases hb : C = 32768
    · subst hb
      exact ref8Right_basic F H X va vc ma mc v m hv hm ov om w iv im h2
    · by_cases hx : C = 65535
      · subst hx
        exact ref8Right_extra F H X va vc ma mc v m hv hm ov om w iv im hX0 h2
      · exact ref8Right_none C F H X va vc ma mc v m hv hm ov om w iv im (by simpa using hb) (by simpa using hx)
  · exact ref8Right_mask C F H X va vc ma mc v m hv hm ov om w iv im h2
end Go.Proofs.YtdjlbejhphbcoaaGreat
namespace Go.Proofs.YtdjlbejhphbcoaaGreat
open Go.RowKit
set_option linter.unusedVariables false

/-- what is so of a value that may be -/
structure Facts8 (C F : Int) (H : Bool) (X : Int) (v m : List Int) : Prop where
  cls : C = 32768 ∨ C = 65535
  f0 : 0 ≤ F
  f1 : F ≤ 127
  len : m.length = maskZ H v.length
  most : behind8 C v.length m.length ≤ 204
  x1 : X ≤ 4294967295
  v1 : v.length ≤ 100
theorem right_facts {C F X : Int} {H : Bool} {v m : List Int} (h : rightB C F H X v m = true) : Facts8 C F H X v m := by
  unfold rightB at h
  simp only [Bool.and_eq_true, decide_eq_true_eq] at h
  obtain ⟨⟨⟨h1, h2⟩, h3⟩, h4⟩ := h
  by_cases hb : C = 32768
  · subst hb
    have hv : fitsB F v = true := by
      cases h : fitsB F v
      · simp [bytesE, h] at h4
      · rfl
    obtain ⟨hz, g0, g1⟩ := fits_z hv
    have hz16 := (fld_dims ⟨g0, g1⟩).2.2.2
    have hx : X = 0 := by simpa [room8] using h1
    refine ⟨.inl rfl, g0, by omega, h2, ?_, by omega, by omega⟩
    rw [h2]
    cases H <;> simp [behind8, maskZ] <;> omega
  · by_cases hx : C = 65535
    · subst hx
      simp [room8] at h1
      by_cases hl : v.length ≤ 100
      · refine ⟨.inr rfl, h1.1, h1.2.1, h2, ?_, h1.2.2, hl⟩
        rw [h2]
        cases H <;> simp [behind8, maskZ] <;> omega
      · exfalso
        have := right_long (F := F) (X := X) h2 (by omega)
        simp [rightB, room8, h1, h2.symm, h3, h4] at this
    · exfalso
      have := right_none (F := F) (X := X) (H := H) (v := v) (m := m) hb hx
      simp [rightB, h1, h2.symm, h3, h4] at this

/-- how many bytes a value has -/
def size8 (C F : Int) (H : Bool) (X : Int) (v m : List Int) : Nat := if rightB C F H X v m then 4 + behind8 C v.length m.length else 0

set_option maxRecDepth 100000 in
set_option maxHeartbeats 1000000 in
theorem size8_any (C F : Int) (H : Bool) (X : Int) (va : Option Addr) (vc : Nat) (ma : Option Addr) (mc : Nat) (v m : List Int) (hv : v.length ≤ 1000) (hm : m.length ≤ 1000) (hmc : m.length ≤ mc) (ov : Octets v) (om : Octets m) (w : World) (iv : Ints .u8 w va v) (im : Ints .u8 w ma m) :
    Calls Tryz.prog 77 #[.agg #[.int .i64 C, .int .i64 F, .bool H, .int .u64 X, .slice va v.length vc, .slice ma m.length mc]] w fun e w' => e = .returned (.int .i64 (size8 C F H X v m)) ∧ Below w.heap.size w w' := by
  obtain ⟨W, hW, hbW, hbox⟩ := oxm_box w C F H X va v.length vc ma m.length mc
  have HW := hid hW
  have HB := hid hbW
  obtain ⟨d0, d1, d2, d3, d4, d5⟩ := hbox.six
  have IV := hid (iv.below hbW)
  have IM := hid (im.below hbW)
  clear hW hbW iv im
  have RR := hid (fun W iv im => right8_any C F H X va vc ma mc v m hv hm hmc ov om W iv im)
  have R3 := hid (fun W => behind8_any C F H X va v.length vc ma m.length mc W (by omega) (by omega))
  clear ov om
  cases hr : rightB C F H X v m
  · rw [show size8 C F H X v m = 0 by simp [size8, hr]]
    rw [hr] at RR
    clear hr
    go_enter Tryz.func77, Tryz.ntmps77
    go_wp2_with fail
    rw [HW.out]
    go_wp2_with fail
    refine (RR.out _ IV.out IM.out).mono ?_
    rintro e w1 ⟨rfl, hb⟩
    go_wp2_with fail
    go_ret
    exact ⟨rfl, below_on HB.out hb⟩
  · have hb1 : (behind8 C v.length m.length : Int) ≤ 204 := by have := (right_facts hr).most; omega
    rw [show size8 C F H X v m = 4 + behind8 C v.length m.length by simp [size8, hr]]
    rw [hr] at RR
    clear hr
    obtain ⟨q, hq⟩ : ∃ q, behind8 C v.length m.length = q := ⟨_, rfl⟩
    rw [hq] at R3 hb1 ⊢
    clear hq
    go_enter Tryz.func77, Tryz.ntmps77
    go_wp2_with fail
    rw [HW.out]
    go_wp2_with fail
    refine (RR.out _ IV.out IM.out).mono ?_
    rintro e w1 ⟨rfl, hb⟩
    clear d0 d1 d2 d3 d4 d5
    obtain ⟨d0, d1, d2, d3, d4, d5⟩ := (hbox.below hb).six
    go_wp2_with fail
    refine (R3.out _).mono ?_
    rintro e w2 ⟨rfl, hb2⟩
    go_wp2_with fail
    go_ret
    exact ⟨ret_int (by omega), below_on HB.out (below_on hb hb2)⟩

/-- twice the Field, and 1 with a mask -/
def fieldN (F : Int) (H : Bool) : Int := if H then 2 * F + 1 else 2 * F
theorem or_one {F : Int} (h0 : 0 ≤ F) (h1 : F ≤ 127) : bits BinOp.or IntKind.u64 (F * 2) 1 = 2 * F + 1 := by
  rw [u64_or _ _ (by omega) (by omega) (by omega) (by omega)]
  obtain ⟨a, rfl⟩ := Int.eq_ofNat_of_zero_le h0
  have e : ((a : Int) * 2).toNat = 2 ^ 1 * a := by omega
  have e1 : (1 : Int).toNat = 1 := rfl
  rw [e, e1, ← Nat.two_pow_add_eq_or_of_lt (by omega)]
  omega

set_option maxRecDepth 100000 in
theorem fieldByte_any (C F : Int) (H : Bool) (X : Int) (va : Option Addr) (vl vc : Nat) (ma : Option Addr) (ml mc : Nat) (w : World) (h0 : 0 ≤ F) (h1 : F ≤ 127) :
    Calls Tryz.prog 80 #[.agg #[.int .i64 C, .int .i64 F, .bool H, .int .u64 X, .slice va vl vc, .slice ma ml mc]] w fun e w' => e = .returned (.int .u64 (fieldN F H)) ∧ Below w.heap.size w w' := by
  have ho := or_one h0 h1
  cases H
  · go_enter Tryz.func80, Tryz.ntmps80
    go_wp2
    go_ret
    exact ⟨ret_int (by simp [fieldN]; omega), below_alloc _ _⟩
  · go_enter Tryz.func80, Tryz.ntmps80
    go_wp2
    trace_state
    go_ret
    exact ⟨ret_int (by simp [fieldN]), below_alloc _ _⟩
end Go.Proofs.YtdjlbejhphbcoaaGreat
namespace Go.Proofs.YtdjlbejhphbcoaaGreat
open Go.RowKit
set_option linter.unusedVariables false

theorem below_drew8 (w : World) : Below w.heap.size w w.drew := (Below.refl _ _).drew
/-- the four bytes that stand first -/
def headL (C F : Int) (H : Bool) (k : Nat) : List Int := bytesL C 2 ++ (bytesL (fieldN F H) 1 ++ (bytesL (k : Int) 1 ++ []))
theorem headL_length (C F : Int) (H : Bool) (k : Nat) : (headL C F H k).length = 4 := by simp [headL, bytesL_length]
/-- whose it is -/
def expL (C X : Int) : List Int := if C = 65535 then bytesL X 4 else []
/-- its bytes -/
def oxmBytes (C F : Int) (H : Bool) (X : Int) (v m : List Int) : List Int := headL C F H (behind8 C v.length m.length) ++ (expL C X ++ (v ++ m))
theorem expL_length (C X : Int) : (expL C X).length = if C = 65535 then 4 else 0 := by unfold expL; split <;> simp [bytesL_length]
theorem oxmBytes_length (C F : Int) (H : Bool) (X : Int) (v m : List Int) : (oxmBytes C F H X v m).length = 4 + behind8 C v.length m.length := by
  simp only [oxmBytes, List.length_append, headL_length, expL_length, behind8]
  split <;> omega
theorem putW_oxm {C F : Int} {H : Bool} {k : Nat} (hC : 0 ≤ C ∧ C < 65536) (hF : 0 ≤ F ∧ F ≤ 127) (hk : k < 256) : putW [2, 1, 1] [C, fieldN F H, (k : Int)] = some (headL C F H k) := by
  have hf : fieldN F H < 256 := by unfold fieldN; split <;> omega
  have r1 : rightW [2, 1, 1] = true := by decide
  have r2 : countL [2, 1, 1] = 3 := by decide
  have p2 : roomB C 2 = true := by simp [roomB, p256, hC.2]
  have p1 : roomB (fieldN F H) 1 = true := by simp [roomB, p256, hf]
  have p0 : roomB (k : Int) 1 = true := by simp [roomB, p256]; omega
  simp [putW, r1, r2, putL, p2, p1, p0, headL]

set_option maxRecDepth 100000 in
set_option maxHeartbeats 1000000 in
theorem encode8_no (C F : Int) (H : Bool) (X : Int) (va : Option Addr) (vc : Nat) (ma : Option Addr) (mc : Nat) (v m : List Int) (hv : v.length ≤ 1000) (hm : m.length ≤ 1000) (hmc : m.length ≤ mc) (ov : Octets v) (om : Octets m) (w : World) (iv : Ints .u8 w va v) (im : Ints .u8 w ma m) (hr : rightB C F H X v m = false) :
    Calls Tryz.prog 47 #[.agg #[.int .i64 C, .int .i64 F, .bool H, .int .u64 X, .slice va v.length vc, .slice ma m.length mc]] w fun e w' => e = .returned (.tuple #[.slice none 0 0, .int .i64 10001]) ∧ Below w.heap.size w w' := by
  obtain ⟨W, hW, hbW, hbox⟩ := oxm_box w C F H X va v.length vc ma m.length mc
  have HW := hid hW
  have HB := hid hbW
  obtain ⟨d0, d1, d2, d3, d4, d5⟩ := hbox.six
  have IV := hid (iv.below hbW)
  have IM := hid (im.below hbW)
  clear hW hbW iv im
  have RR := hid (fun W iv im => right8_any C F H X va vc ma mc v m hv hm hmc ov om W iv im)
  rw [hr] at RR
  clear hr ov om
  go_enter Tryz.func47, Tryz.ntmps47
  go_wp2_with fail
  rw [HW.out]
  go_wp2_with fail
  refine (RR.out _ IV.out IM.out).mono ?_
  rintro e w1 ⟨rfl, hb⟩
  go_wp2_with fail
  go_ret2
  exact ⟨rfl, below_on HB.out hb⟩

theorem u64_wrap8 (n : Int) : IntKind.u64.wrap n = n % 18446744073709551616 := by simp [IntKind.wrap, IntKind.bits, IntKind.signed]
theorem lit_at (k : IntKind) {w : World} (l : List Int) {e : TypeId} {g : Nat} {cs : Array Value} {w' : World} (hb : Below (w.alloc (.cells cs e)).heap.size (w.alloc (.cells cs e)) w') (hg : w.heap.size = g) (hcs : (l.map (Value.int k)).toArray = cs) : Ints k w' (some ⟨g, 0, none⟩) l := by
  subst hg
  subst hcs
  exact (ints_lit k w l e).below hb
theorem row8_any {W V : World} {g mm : Nat} {C F fn : Int} {H : Bool} {k : Nat} {a b : Option Addr} {c2 k2 : Int} (hP : putW [2, 1, 1] [c2, fn, k2] = some (headL C F H k)) (hU : U64s [c2, fn, k2]) (O : BufOn W V g mm none 208 [] [] 0) (ia : Ints .i64 V a [2, 1, 1]) (ib : Ints .u64 V b [c2, fn, k2]) :
    Calls Tryz.prog 44 #[.pointer (some ⟨g, 0, none⟩), .slice a 3 3, .slice b 3 3] V fun e w' => e = .returned (.tuple #[]) ∧ ∃ p', BufOn W w' g mm p' 208 (headL C F H k) [] 0 := by
  refine (O.buf.row_ok [2, 1, 1] [c2, fn, k2] (headL C F H k) hP a b 3 3 3 3 rfl rfl (by decide) (Nat.le_refl _) hU ia ib (by rw [headL_length]; decide)).mono ?_
  rintro e w' ⟨rfl, p', hG⟩
  exact ⟨rfl, p', O.went hG⟩

set_option maxRecDepth 100000 in
set_option maxHeartbeats 1000000 in
theorem encode8_yes (C F : Int) (H : Bool) (X : Int) (va : Option Addr) (vc : Nat) (ma : Option Addr) (mc : Nat) (v m : List Int) (hv : v.length ≤ 1000) (hm : m.length ≤ 1000) (hmc : m.length ≤ mc) (ov : Octets v) (om : Octets m) (w : World) (iv : Ints .u8 w va v) (im : Ints .u8 w ma m) (hX0 : 0 ≤ X) (hr : rightB C F H X v m = true) :
    Calls Tryz.prog 47 #[.agg #[.int .i64 C, .int .i64 F, .bool H, .int .u64 X, .slice va v.length vc, .slice ma m.length mc]] w fun e w' => ∃ ad cp, e = .returned (.tuple #[.slice ad (oxmBytes C F H X v m).length cp, .int .i64 0]) ∧ Below w.heap.size w w' ∧ Ints .u8 w' ad (oxmBytes C F H X v m) ∧ (oxmBytes C F H X v m).length ≤ cp := by
  obtain ⟨W, hW, hbW, hbox⟩ := oxm_box w C F H X va v.length vc ma m.length mc
  have HW := hid hW
  have HB := hid hbW
  obtain ⟨d0, d1, d2, d3, d4, d5⟩ := hbox.six
  have IV := hid (iv.below hbW)
  have IM := hid (im.below hbW)
  clear hW hbW iv im
  have RR := hid (fun W iv im => right8_any C F H X va vc ma mc v m hv hm hmc ov om W iv im)
  have R3 := hid (fun W => behind8_any C F H X va v.length vc ma m.length mc W (by omega) (by omega))
  have ft := right_facts hr
  have RF := hid (fun W => fieldByte_any C F H X va v.length vc ma m.length mc W ft.f0 ft.f1)
  rw [hr] at RR
  clear ov om
  go_enter Tryz.func47, Tryz.ntmps47
  go_wp2_with fail
  rw [HW.out]
  go_wp2_with fail
  refine (RR.out _ IV.out IM.out).mono ?_
  rintro e w1 ⟨rfl, hb⟩
  clear d0 d1 d2 d3 d4 d5
  obtain ⟨d0, d1, d2, d3, d4, d5⟩ := (hbox.below hb).six
  have HA := hid hb
  go_wp2_with fail
  refine (bufNew_any 208 _).mono ?_
  rintro e w2 ⟨g, mm, rfl, hB, hb2, hg, hmm⟩
  have O1 : BufOn W w2 g mm none 208 [] [] 0 := ⟨hB, below_on HA.out hb2, by have := HA.out.size; rintro i (e | e | e); omega; omega; simp at e⟩
  clear d0 d1 d2 d3 d4 d5
  obtain ⟨d0, d1, d2, d3, d4, d5⟩ := (hbox.below O1.bel).six
  have kx := ft.most
  have hP := putW_oxm (C := C) (H := H) (k := behind8 C v.length m.length) (by rcases ft.cls with h | h <;> omega) ⟨ft.f0, ft.f1⟩ (by omega)
  have HH := hid (headL_length C F H (behind8 C v.length m.length))
  obtain ⟨k, hk⟩ : ∃ k, behind8 C v.length m.length = k := ⟨_, rfl⟩
  have hfn : 0 ≤ fieldN F H ∧ fieldN F H ≤ 255 := by have := ft.f0; have := ft.f1; unfold fieldN; split <;> omega
  obtain ⟨fn, hfn2⟩ : ∃ n, fieldN F H = n := ⟨_, rfl⟩
  rw [hk] at hP HH R3 kx
  rw [hfn2] at hP RF hfn
  have wC : IntKind.u64.wrap C = C := by rw [u64_wrap8]; rcases ft.cls with h | h <;> omega
  have wk : IntKind.u64.wrap (k : Int) = (k : Int) := by rw [u64_wrap8]; omega
  have HU : Hid (U64s [IntKind.u64.wrap C, fn, IntKind.u64.wrap (k : Int)]) := by
    rw [wC, wk]
    intro x hx
    simp only [List.mem_cons, List.not_mem_nil, or_false] at hx
    rw [p256_8]
    rcases ft.cls with h | h <;> rcases hx with rfl | rfl | rfl <;> omega
  have HP : Hid (putW [2, 1, 1] [IntKind.u64.wrap C, fn, IntKind.u64.wrap (k : Int)] = some (headL C F H k)) := by rw [wC, wk]; exact hP
  clear wC wk
  have HK := hid hk
  have hC0 : 0 ≤ C := by rcases ft.cls with h | h <;> omega
  have hC1 : C ≤ 65535 := by rcases ft.cls with h | h <;> omega
  have OD := O1.below (below_drew8 w2)
  have hboxD := (hbox.below OD.bel)
  have FT := hid ft
  clear hP hk hfn2 hr hb hb2 hB hg hmm ft
  have kx2 : (k : Int) ≤ 204 := by omega
  go_upto_region 4 with fail
  go_cut [9] (fun t9 wx => ∃ p, BufOn W wx g mm p 208 (headL C F H k) [] 0)
  case first =>
    go_region_held3 (fun w' => w'.cell? ⟨w.heap.size, 0, none⟩ = some (.int .i64 C) ∧ w'.cell? ⟨w.heap.size, 1, none⟩ = some (.int .i64 F) ∧ w'.cell? ⟨w.heap.size, 2, none⟩ = some (.bool H) ∧ w'.cell? ⟨w.heap.size, 3, none⟩ = some (.int .u64 X) ∧ w'.cell? ⟨w.heap.size, 4, none⟩ = some (.slice va v.length vc) ∧ w'.cell? ⟨w.heap.size, 5, none⟩ = some (.slice ma m.length mc)) (go_keep) (first
      | (go_at_call 80; refine (RF.out _).mono ?_; rintro e w5 ⟨rfl, hb5⟩; have hB5 : Below w2.drew.heap.size w2.drew w5 := (by first | exact hb5 | exact below_on (below_alloc _ _) hb5 | fail); obtain ⟨e0, e1, e2, e3, e4, e5⟩ := (hboxD.below hB5).six)
      | (go_at_call 81; refine (R3.out _).mono ?_; rintro e w6 ⟨rfl, hb6⟩; have hB6 : Below w2.drew.heap.size w2.drew w6 := (by first | exact below_on hB5 hb6 | exact below_on (below_on hB5 (below_alloc _ _)) hb6 | fail); obtain ⟨e0, e1, e2, e3, e4, e5⟩ := (hboxD.below hB6).six)
      | (go_at_call 44; refine (row8_any HP.out HU.out (OD.below ?_) ?_ ?_).mono ?_; (first | exact below_on hB6 (below_alloc _ _) | exact below_on (below_on hB6 (below_alloc _ _)) (below_alloc _ _) | fail); (first | exact lit_at .i64 [2, 1, 1] (below_on (below_drew8 _) (below_on (below_on hb5 hb6) (below_alloc _ _))) rfl rfl | exact lit_at .i64 [2, 1, 1] (below_on (below_on hb5 hb6) (below_alloc _ _)) rfl rfl | exact lit_at .i64 [2, 1, 1] (below_on hb6 (below_alloc _ _)) rfl rfl | exact lit_at .i64 [2, 1, 1] (below_alloc _ _) rfl rfl | exact lit_at .i64 [2, 1, 1] (Below.refl _ _) rfl rfl | exact lit_at .i64 [2, 1, 1] (Below.refl _ _) (World.size_alloc _ _) rfl | fail); (first | exact lit_at .u64 [IntKind.u64.wrap C, fn, IntKind.u64.wrap (k : Int)] (Below.refl _ _) rfl rfl | exact lit_at .u64 [IntKind.u64.wrap C, fn, IntKind.u64.wrap (k : Int)] (Below.refl _ _) (World.size_alloc _ _) rfl | exact lit_at .u64 [IntKind.u64.wrap C, fn, IntKind.u64.wrap (k : Int)] (below_alloc _ _) rfl rfl | fail); rintro e w7 ⟨rfl, p', O7⟩; obtain ⟨e0, e1, e2, e3, e4, e5⟩ := (hbox.below O7.bel).six))
    all_goals
      go_wp2_with fail
      go_meet
      exact ⟨_, O7⟩
  case rest =>
    obtain ⟨p, O8⟩ := hcut
    have HO : Hid (oxmBytes C F H X v m = headL C F H k ++ expL C X ++ v ++ m) := by rw [← HK.out]; simp [oxmBytes, Hid]
    have hl4 := HH.out
    have hk := HK.out
    have hx1 := FT.out.x1
    obtain ⟨hd, hhd⟩ : ∃ l, headL C F H k = l := ⟨_, rfl⟩
    rw [hhd] at O8 hl4 HO
    clear hhd RR R3 RF HU HP OD hboxD HA O1 d0 d1 d2 d3 d4 d5 HH
    obtain ⟨d0, d1, d2, d3, d4, d5⟩ := (hbox.below O8.bel).six
    rcases FT.out.cls with rfl | rfl
    · have hkk : v.length + m.length = k := by rw [← hk]; rfl
      obtain ⟨l0, hl0⟩ : ∃ l0, hd ++ expL 32768 X = l0 := ⟨_, rfl⟩
      have hl1 : hd = l0 := by rw [← hl0]; simp [expL]
      rw [hl0] at HO
      rw [hl1] at O8 hl4
      have hlA : l0.length + v.length + m.length ≤ 208 := by omega
      have OA := O8
      clear hk FT O8 hl0 hl1 hl4 hkk
      go_wp2_with fail
      refine (OA.buf.bytes_ok v va vc (by omega) (IV.out.below OA.bel)).mono ?_
      rintro e w8 ⟨rfl, p8, hG⟩
      have OB := OA.went hG
      clear d0 d1 d2 d3 d4 d5 hG OA
      obtain ⟨d0, d1, d2, d3, d4, d5⟩ := (hbox.below OB.bel).six
      have hlB : (l0 ++ v).length + m.length ≤ 208 := by rw [List.length_append]; omega
      go_wp2_with fail
      refine (OB.buf.bytes_ok m ma mc hlB (IM.out.below OB.bel)).mono ?_
      rintro e w9 ⟨rfl, p9, hG⟩
      have OC := OB.went hG
      clear d0 d1 d2 d3 d4 d5 hG OB
      obtain ⟨xs, hxs⟩ : ∃ xs, l0 ++ v ++ m = xs := ⟨_, rfl⟩
      rw [hxs] at OC
      rw [hxs] at HO
      clear hxs hlB hlA
      go_wp2_with fail
      refine OC.buf.done_ok.mono ?_
      rintro e w10 ⟨rfl, hF⟩
      obtain ⟨ad, cp, he, hl, hc, hI⟩ := own_ints hF.own
      have he1 : ad = some ⟨w9.heap.size, 0, none⟩ := by simpa using (congrArg (fun x => match x with | Value.slice a _ _ => a | _ => none) he).symm
      have HF := hid hF.bel
      have HI := hid hI
      have HE1 := hid he1
      clear he hl hc hI hF he1
      go_wp2_with fail
      go_ret2
      rw [HO.out]
      exact ⟨some ⟨w9.heap.size, 0, none⟩, xs.length, rfl, below_on HB.out (below_on OC.bel HF.out), by rw [← HE1.out]; exact HI.out, Nat.le_refl _⟩
    · have hkk : v.length + m.length + 4 = k := by rw [← hk]; rfl
      obtain ⟨l0, hl0⟩ : ∃ l0, hd ++ expL 65535 X = l0 := ⟨_, rfl⟩
      have hl1 : hd ++ bytesL X 4 = l0 := by rw [← hl0]; simp [expL]
      rw [hl0] at HO
      have hl2 : l0.length = 8 := by rw [← hl1, List.length_append, hl4, bytesL_length]
      have hx4 : X < p256 4 := by simp [p256]; omega
      have HN := hid (O8.buf.num_ok (n := 4) (by decide) (by decide) hX0 hx4 (by omega))
      rw [hl1] at HN
      have hlA : l0.length + v.length + m.length ≤ 208 := by omega
      clear hk FT hl0 hl1 hl2 hl4 hkk hx4
      go_wp2_with fail
      refine HN.out.mono ?_
      rintro e w7 ⟨rfl, p7, hG⟩
      have OA := O8.went hG
      clear d0 d1 d2 d3 d4 d5 hG O8 HN
      obtain ⟨d0, d1, d2, d3, d4, d5⟩ := (hbox.below OA.bel).six
      go_wp2_with fail
      refine (OA.buf.bytes_ok v va vc (by omega) (IV.out.below OA.bel)).mono ?_
      rintro e w8 ⟨rfl, p8, hG⟩
      have OB := OA.went hG
      clear d0 d1 d2 d3 d4 d5 hG OA
      obtain ⟨d0, d1, d2, d3, d4, d5⟩ := (hbox.below OB.bel).six
      have hlB : (l0 ++ v).length + m.length ≤ 208 := by rw [List.length_append]; omega
      go_wp2_with fail
      refine (OB.buf.bytes_ok m ma mc hlB (IM.out.below OB.bel)).mono ?_
      rintro e w9 ⟨rfl, p9, hG⟩
      have OC := OB.went hG
      clear d0 d1 d2 d3 d4 d5 hG OB
      obtain ⟨xs, hxs⟩ : ∃ xs, l0 ++ v ++ m = xs := ⟨_, rfl⟩
      rw [hxs] at OC
      rw [hxs] at HO
      clear hxs hlB hlA
      go_wp2_with fail
      refine OC.buf.done_ok.mono ?_
      rintro e w10 ⟨rfl, hF⟩
      obtain ⟨ad, cp, he, hl, hc, hI⟩ := own_ints hF.own
      have he1 : ad = some ⟨w9.heap.size, 0, none⟩ := by simpa using (congrArg (fun x => match x with | Value.slice a _ _ => a | _ => none) he).symm
      have HF := hid hF.bel
      have HI := hid hI
      have HE1 := hid he1
      clear he hl hc hI hF he1
      go_wp2_with fail
      go_ret2
      rw [HO.out]
      exact ⟨some ⟨w9.heap.size, 0, none⟩, xs.length, rfl, below_on HB.out (below_on OC.bel HF.out), by rw [← HE1.out]; exact HI.out, Nat.le_refl _⟩
end Go.Proofs.YtdjlbejhphbcoaaGreat
namespace Go.Proofs.YtdjlbejhphbcoaaGreat
open Go.RowKit
set_option linter.unusedVariables false

/-- what comes of a value that is encoded -/
def EncPost (C F : Int) (H : Bool) (X : Int) (v m : List Int) (w : World) (e : Ending) (w' : World) : Prop :=
  (rightB C F H X v m = false ∧ e = .returned (.tuple #[.slice none 0 0, .int .i64 10001]) ∧ Below w.heap.size w w') ∨
  (rightB C F H X v m = true ∧ ∃ ad cp, e = .returned (.tuple #[.slice ad (oxmBytes C F H X v m).length cp, .int .i64 0]) ∧ Below w.heap.size w w' ∧ Ints .u8 w' ad (oxmBytes C F H X v m) ∧ (oxmBytes C F H X v m).length ≤ cp)
theorem encode8_any (C F : Int) (H : Bool) (X : Int) (va : Option Addr) (vc : Nat) (ma : Option Addr) (mc : Nat) (v m : List Int) (hv : v.length ≤ 1000) (hm : m.length ≤ 1000) (hmc : m.length ≤ mc) (ov : Octets v) (om : Octets m) (w : World) (iv : Ints .u8 w va v) (im : Ints .u8 w ma m) (hX0 : 0 ≤ X) : Calls Tryz.prog 47 #[.agg #[.int .i64 C, .int .i64 F, .bool H, .int .u64 X, .slice va v.length vc, .slice ma m.length mc]] w (EncPost C F H X v m w) := by
  cases hr : rightB C F H X v m
  · exact (encode8_no C F H X va vc ma mc v m hv hm hmc ov om w iv im hr).mono fun e w' h => .inl ⟨hr, h.1, h.2⟩
  · exact (encode8_yes C F H X va vc ma mc v m hv hm hmc ov om w iv im hX0 hr).mono fun e w' h => .inr ⟨hr, h⟩

end Go.Proofs.YtdjlbejhphbcoaaGreat
namespace Go.Proofs.YtdjlbejhphbcoaaGreat
open Go.RowKit
set_option linter.unusedVariables false

theorem few8_any (C F : Int) (H : Bool) (X : Int) (va : Option Addr) (vl vc : Nat) (ma : Option Addr) (ml mc : Nat) (w : World) :
    Calls Tryz.prog 42 #[.agg #[.int .i64 C, .int .i64 F, .bool H, .int .u64 X, .slice va vl vc, .slice ma ml mc]] w fun e w' => e = .returned (.bool (decide (vl ≤ 300 ∧ ml ≤ 300))) ∧ Below w.heap.size w w' := by
  by_cases h1 : vl ≤ 300
  · by_cases h2 : ml ≤ 300
    · have i1 : (vl : Int) ≤ 300 := by omega
      have i2 : (ml : Int) ≤ 300 := by omega
      rw [decide_eq_true (show vl ≤ 300 ∧ ml ≤ 300 from ⟨h1, h2⟩)]
      clear h1 h2
      go_enter Tryz.func42, Tryz.ntmps42
      go_wp2
      go_ret
      exact ⟨rfl, below_alloc _ _⟩
    · have i1 : (vl : Int) ≤ 300 := by omega
      have i2 : decide ((ml : Int) ≤ 300) = false := by simp; omega
      rw [decide_eq_false (show ¬ (vl ≤ 300 ∧ ml ≤ 300) by omega)]
      clear h1 h2
      go_enter Tryz.func42, Tryz.ntmps42
      go_wp2
      go_ret
      exact ⟨rfl, below_alloc _ _⟩
  · have i1 : 300 < (vl : Int) := by omega
    rw [decide_eq_false (show ¬ (vl ≤ 300 ∧ ml ≤ 300) by omega)]
    clear h1
    go_enter Tryz.func42, Tryz.ntmps42
    go_wp2
    go_ret
    exact ⟨rfl, below_alloc _ _⟩

end Go.Proofs.YtdjlbejhphbcoaaGreat
namespace Go.Proofs.YtdjlbejhphbcoaaGreat
open Go.RowKit
set_option linter.unusedVariables false

theorem cls8_take (b : List Int) : cls8 (b.take 208) = cls8 b := by simp [cls8, List.take_take]
theorem fld8_take (b : List Int) : fld8 (b.take 208) = fld8 b := by simp [fld8, List.drop_take, List.take_take]
theorem len8_take (b : List Int) : len8 (b.take 208) = len8 b := by simp [len8, List.drop_take, List.take_take]
theorem rest8_take (b : List Int) : rest8 (b.take 208) = (rest8 b).take 204 := by simp [rest8, List.drop_take]
theorem fits_dims {F : Int} (h : 0 ≤ F ∧ F < 40) : (fld F).z ≤ 16 := (fld_dims h).2.2.2
theorem rawL_take (b : List Int) : rawL (b.take 208) = rawL b := by
  unfold rawL
  rw [cls8_take, fld8_take, len8_take, rest8_take]
  by_cases h4 : b.length < 4
  · rw [if_pos (by rw [List.length_take]; omega), if_pos h4]
  rw [if_neg (by rw [List.length_take]; omega), if_neg h4]
  by_cases hE : headE (cls8 b) (fld8 b / 2) (oddB (fld8 b)) (len8 b) = 0
  · have hne : ¬ headE (cls8 b) (fld8 b / 2) (oddB (fld8 b)) (len8 b) ≠ 0 := by simpa using hE
    rw [if_neg hne, if_neg hne]
    have hp : pieces8 (oddB (fld8 b)) = 1 ∨ pieces8 (oddB (fld8 b)) = 2 := by cases oddB (fld8 b) <;> simp [pieces8]
    have hL : (len8 b).toNat ≤ 204 ∧ both8 b ≤ 200 ∧ (cls8 b ≠ 65535 → both8 b ≤ 32) := by
      rcases head_cls hE with hC | hC
      · rw [hC] at hE
        have hh := head_basic hE
        have hz := fits_dims hh.1
        have : ((fld (fld8 b / 2)).z : Int) * (pieces8 (oddB (fld8 b)) : Int) ≤ 32 := by rcases hp with h | h <;> rw [h] <;> omega
        have en : both8 b = (len8 b).toNat := by simp [both8, hC]
        rw [en]
        omega
      · rw [hC] at hE
        have hh := head_extra hE
        have en : both8 b = (len8 b).toNat - 4 := by simp [both8, hC]
        rw [en]
        refine ⟨?_, ?_, fun h => absurd hC h⟩ <;> rcases hp with h | h <;> rw [h] at hh <;> omega
    have e1 : ((rest8 b).take 204).length < (len8 b).toNat ↔ (rest8 b).length < (len8 b).toNat := by rw [List.length_take]; omega
    have eb : both8 (b.take 208) = both8 b := by simp [both8, cls8_take, len8_take]
    have ebody : ∃ K, body8 (b.take 208) = (body8 b).take K ∧ both8 b ≤ K := by
      by_cases hC : cls8 b = 65535
      · exact ⟨200, by simp [body8, cls8_take, rest8_take, hC, List.drop_take], hL.2.1⟩
      · exact ⟨204, by simp [body8, cls8_take, rest8_take, hC], by have := hL.2.1; omega⟩
    obtain ⟨K, ebody, hK⟩ := ebody
    have ev : val8 (b.take 208) = val8 b := by
      unfold val8
      rw [ebody, eb, fld8_take, List.take_take]
      congr 1
      have : both8 b / pieces8 (oddB (fld8 b)) ≤ both8 b := Nat.div_le_self _ _
      omega
    have em : mask8 (b.take 208) = mask8 b := by
      unfold mask8
      rw [ebody, eb, fld8_take, List.drop_take, List.take_take]
      congr 2
      omega
    have ex : exp8 (b.take 208) = exp8 b := by
      unfold exp8
      rw [cls8_take, rest8_take, List.take_take]
      rfl
    simp only [e1, ev, em, ex]
  · rw [if_pos (show headE (cls8 b) (fld8 b / 2) (oddB (fld8 b)) (len8 b) ≠ 0 from hE), if_pos (show headE (cls8 b) (fld8 b / 2) (oddB (fld8 b)) (len8 b) ≠ 0 from hE)]

/-- what decoding comes to -/
def DecPost (R : Except Int Oxm8) (w : World) (e : Ending) (w' : World) : Prop :=
  (∃ q, R = .error q ∧ q ≠ 0 ∧ e = .returned (.tuple #[.agg #[.int .i64 0, .int .i64 0, .bool false, .int .u64 0, .slice none 0 0, .slice none 0 0], .int .i64 0, .int .i64 q]) ∧ Below w.heap.size w w') ∨
  (∃ o a1 c1 a2 c2, R = .ok o ∧ e = .returned (.tuple #[.agg #[.int .i64 o.C, .int .i64 o.F, .bool o.H, .int .u64 o.X, .slice a1 o.v.length c1, .slice a2 o.m.length c2], .int .i64 o.n, .int .i64 0]) ∧ Below w.heap.size w w' ∧ Ints .u8 w' a1 o.v ∧ Ints .u8 w' a2 o.m ∧ o.m.length ≤ c2 ∧ New8 w a1 ∧ New8 w a2)

theorem raw_octets {b : List Int} {o : Oxm8} (h : rawL b = .ok o) (ho : Octets b) : Octets o.v ∧ Octets o.m ∧ o.v.length ≤ 255 ∧ o.m.length ≤ 255 ∧ (o.H = true → o.v.length = o.m.length) := by
  unfold rawL at h
  by_cases h4 : b.length < 4
  · rw [if_pos h4] at h; simp at h
  rw [if_neg h4] at h
  by_cases hE : headE (cls8 b) (fld8 b / 2) (oddB (fld8 b)) (len8 b) ≠ 0
  · rw [if_pos hE] at h; simp at h
  rw [if_neg hE] at h
  by_cases hr : (rest8 b).length < (len8 b).toNat
  · rw [if_pos hr] at h; simp at h
  rw [if_neg hr] at h
  obtain rfl : _ = o := by simpa using h
  have oc : Octets (body8 b) := by
    unfold body8 rest8
    split
    · exact (((ho.drop 2).drop 1).drop 1).drop 4
    · exact ((ho.drop 2).drop 1).drop 1
  have hL := num_byte ((ho.drop 2).drop 1)
  have hL2 : (len8 b).toNat ≤ 255 := by unfold len8; omega
  have hboth : both8 b ≤ 255 := by unfold both8; split <;> omega
  have hbl : both8 b ≤ (body8 b).length := by
    unfold both8 body8
    split
    · rw [List.length_drop]; omega
    · omega
  refine ⟨oc.take _, ?_, ?_, ?_, ?_⟩
  · show Octets (mask8 b)
    unfold mask8
    split
    · exact (oc.drop _).take _
    · intro x hx; simp at hx
  · show (val8 b).length ≤ 255
    unfold val8
    rw [List.length_take]
    have : both8 b / pieces8 (oddB (fld8 b)) ≤ both8 b := Nat.div_le_self _ _
    omega
  · show (mask8 b).length ≤ 255
    unfold mask8
    split
    · rw [List.length_take]; omega
    · simp
  · intro hh
    have hh' : oddB (fld8 b) = true := hh
    show (val8 b).length = (mask8 b).length
    simp only [val8, mask8, hh', pieces8, if_true, List.length_take, List.length_drop]
    omega

theorem below_row {W w1 w2 : World} {g : Nat} (hb : Below W.heap.size W w1) (hg : W.heap.size ≤ g) (h : w1.grownBy w2 (some g)) : Below W.heap.size W w2 :=
  by_none_below (grownBy_trans (below_by_none hb) h (.inr fun k hk => by cases hk; exact hg))

set_option maxRecDepth 100000 in
set_option maxHeartbeats 2000000 in
theorem decode8_at (b l : List Int) (a : Option Addr) (c : Nat) (hl : b.take 208 = l) (hbc : b.length ≤ c) (hc : c ≤ 9223372036854775807) (ho : Octets b) (w : World) (hI : Ints .u8 w a b) (k : Nat) (hk : l.length = k) (hm : (min (b.length : Int) 208).toNat = k) :
    Calls Tryz.prog 128 #[.slice a b.length c] w (DecPost (decL b) w) := by
  have hk2 : k ≤ 208 := by rw [← hk, ← hl, List.length_take]; omega
  have HO : Hid (Octets l) := by rw [← hl]; exact ho.take 208
  obtain ⟨W, hW, hbW, hbox⟩ := oxm_box w 0 0 false 0 none 0 0 none 0 0
  have HW := hid hW
  have HBW := hid hbW
  have HN := hid (new_any l a c 1026 1026 W (by omega) HO.out (by rw [← hl]; exact (hI.take 208).below hbW))
  rw [hk] at HN
  have hraw : rawL l = rawL b := by rw [← hl]; exact rawL_take b
  have HRAW := hid hraw
  have HOB := hid ho
  have HM := hid hm
  clear hI ho hl hk hW hbW hraw hm
  go_enter Tryz.func128, Tryz.ntmps128
  go_wp2_with fail
  rw [HW.out, HM.out]
  refine HN.out.mono ?_
  rintro e w1 ⟨g, rfl, hc1, hb1, hg1, hg2⟩
  have hR1 := hbox.below hb1
  have hs1 := hbox.lt
  have HB1 := hid hb1
  clear hbox hb1
  go_wp2_with fail
  refine (read8_any hc1 (by omega)).mono ?_
  intro e w2 hP
  rw [HRAW.out] at hP
  have hne : w.heap.size ≠ g := by omega
  rcases hP with ⟨q, hq, hq0, C, F, H, X, a1, n1, c1, a2, n2, c2, l5, r5, rfl, hc2, hb2⟩ | ⟨⟨C, F, H, X, v, m, n⟩, hq, a1, c1, a2, c2, rfl, i1, i2, hmc, ⟨hw1, hw2⟩, ⟨l5, hc2⟩, hb2⟩
  · have hD : Hid (decL b = .error q) := by show _ = _; simp only [decL, hq]
    have hR2 := box_by hR1 hb2 hne
    have hq1 : (q != 0) = true := by simpa using hq0
    have HQ := hid hq0
    have HB2 := hid (below_row HB1.out (by omega) hb2)
    have hlt2 := hR2.lt
    obtain ⟨W2, hW2, hbW2, hX2⟩ := oxm_box w2 C F H X a1 n1 c1 a2 n2 c2
    have HW2 := hid hW2
    have hc3 := hc2.below hbW2
    have hR3 := hR2.below hbW2
    have HB3 := hid (below_on HB2.out hbW2)
    clear hc1 hc2 hq hq0 hR1 hR2 hW2 hb2 hbW2 hg1 hg2
    go_wp2_with fail
    rw [HW2.out]
    refine hc3.err.mono ?_
    rintro e w' ⟨rfl, rfl⟩
    have z := hR3.free
    obtain ⟨d0, d1, d2, d3, d4, d5⟩ := hR3.six
    go_wp2_with fail
    have hkk := hR3.set6 (.int .i64 0) (.int .i64 0) (.bool false) (.int .u64 0) (.slice none 0 0) (.slice none 0 0)
    obtain ⟨k0, k1, k2, k3, k4, k5⟩ := hkk.six
    refine bodyPost_ret (v := .tuple #[.agg #[.int .i64 0, .int .i64 0, .bool false, .int .u64 0, .slice none 0 0, .slice none 0 0], .int .i64 0, .int .i64 q]) (by simp [results, Tryz.results128, go_sem, k0, k1, k2, k3, k4, k5]) rfl (.inl ⟨q, hD.out, HQ.out, rfl, ?_⟩)
    repeat (with_reducible refine Below.setCell ?_ (by simp) _)
    exact below_on HBW.out HB3.out
  · simp only at i1 i2 hmc hc2
    have hoc := raw_octets hq HOB.out
    obtain ⟨ov, om, lv, lm, hvm⟩ := hoc
    simp only at ov om lv lm hvm
    have HW3 := hid (fun W iv im => wrongBytes_any C F H X a1 c1 a2 c2 v m (fun _ h => Nat.le_of_eq (hvm h)) (by omega) hmc ov om W iv im)
    have hR2 := box_by hR1 hb2 hne
    have HB2 := hid (below_row HB1.out (by omega) hb2)
    have hlt2 := hR2.lt
    obtain ⟨W2, hW2, hbW2, hX2⟩ := oxm_box w2 C F H X a1 v.length c1 a2 m.length c2
    have HW2 := hid hW2
    have hc3 := hc2.below hbW2
    have hR3 := hR2.below hbW2
    have HB3 := hid (below_on HB2.out hbW2)
    have I1 := hid (i1.below hbW2)
    have I2 := hid (i2.below hbW2)
    have HMC := hid hmc
    obtain ⟨d0, d1, d2, d3, d4, d5⟩ := hX2.six
    have hRX : w2.heap.size ≠ w.heap.size := by omega
    have nR1 : ∀ q : Addr, a1 = some q → q.block ≠ w.heap.size := fun q hq => by have := hw1 q hq; omega
    have nR2 : ∀ q : Addr, a2 = some q → q.block ≠ w.heap.size := fun q hq => by have := hw2 q hq; omega
    have HN1 : Hid (New8 w a1) := fun q hq => by have := hw1 q hq; omega
    have HN2 : Hid (New8 w a2) := fun q hq => by have := hw2 q hq; omega
    clear hw1 hw2
    by_cases hE : bytesE C F H v m = 0
    · have hD : Hid (decL b = .ok ⟨C, F, H, X, v, m, n⟩) := by show _ = _; simp only [decL, hq, hE, if_true]
      rw [hE] at HW3
      clear hc1 hc2 hq hR1 hR2 hW2 hb2 hbW2 hg1 hg2 hE ov om lv lm hvm i1 i2 hmc
      go_wp2_with fail
      rw [HW2.out]
      refine hc3.err.mono ?_
      rintro e w' ⟨rfl, rfl⟩
      go_wp2_with fail
      refine (HW3.out _ I1.out I2.out).mono ?_
      rintro e w4 ⟨rfl, hb4⟩
      have hc5 := hc3.below hb4
      have hR5 := hR3.below hb4
      have hX5 := hX2.below hb4
      have HB5 := hid (below_on HB3.out hb4)
      have I15 := hid (I1.out.below hb4)
      have I25 := hid (I2.out.below hb4)
      clear d0 d1 d2 d3 d4 d5 hc3 hR3 hX2 hb4 HW3
      obtain ⟨d0, d1, d2, d3, d4, d5⟩ := hX5.six
      have z := hR5.free
      obtain ⟨e0, e1, e2, e3, e4, e5⟩ := hR5.six
      have n1 : ¬ w2.heap.size = w.heap.size := hRX
      have n2 : ¬ w.heap.size = w2.heap.size := fun e => hRX e.symm
      have hc6 := hid (hc5.below (below_drew8 w4))
      go_wp2_with fail
      go_region_held3 (fun w' => w'.cell? ⟨w2.heap.size, 0, none⟩ = some (.int .i64 C) ∧ w'.cell? ⟨w2.heap.size, 1, none⟩ = some (.int .i64 F) ∧ w'.cell? ⟨w2.heap.size, 2, none⟩ = some (.bool H) ∧ w'.cell? ⟨w2.heap.size, 3, none⟩ = some (.int .u64 X) ∧ w'.cell? ⟨w2.heap.size, 4, none⟩ = some (.slice a1 v.length c1) ∧ w'.cell? ⟨w2.heap.size, 5, none⟩ = some (.slice a2 m.length c2)) (go_keep) (first
        | (go_at_call 39; refine hc6.out.pos.mono ?_; rintro e w' ⟨rfl, rfl⟩)
        | fail)
      go_wp2_with fail
      have hkk := hR5.set6 (.int .i64 C) (.int .i64 F) (.bool H) (.int .u64 X) (.slice a1 v.length c1) (.slice a2 m.length c2)
      replace hkk := hkk.drew
      obtain ⟨k0, k1, k2, k3, k4, k5⟩ := hkk.six
      refine bodyPost_ret (v := .tuple #[.agg #[.int .i64 C, .int .i64 F, .bool H, .int .u64 X, .slice a1 v.length c1, .slice a2 m.length c2], .int .i64 n, .int .i64 0]) (by simp [results, Tryz.results128, go_sem, k0, k1, k2, k3, k4, k5]) rfl (.inr ⟨⟨C, F, H, X, v, m, n⟩, a1, c1, a2, c2, hD.out, rfl, ?_, ?_, ?_, HMC.out, HN1.out, HN2.out⟩)
      · with_reducible refine Below.drew ?_
        repeat (with_reducible refine Below.setCell ?_ (by simp) _)
        exact below_on HBW.out HB5.out
      · refine Ints.below ?_ (below_drew8 _)
        repeat (refine Ints.apart ?_ _ nR1)
        exact I15.out
      · refine Ints.below ?_ (below_drew8 _)
        repeat (refine Ints.apart ?_ _ nR2)
        exact I25.out
    · have hD : Hid (decL b = .error (bytesE C F H v m)) := by show _ = _; simp only [decL, hq, if_neg hE]
      obtain ⟨q, hqe⟩ : ∃ q, bytesE C F H v m = q := ⟨_, rfl⟩
      rw [hqe] at HW3 hD hE
      have hq1 : (q != 0) = true := by simpa using hE
      have HQ := hid hE
      clear hc1 hc2 hq hR1 hR2 hW2 hb2 hbW2 hg1 hg2 hE ov om lv lm hvm i1 i2 hmc hqe
      go_wp2_with fail
      rw [HW2.out]
      refine hc3.err.mono ?_
      rintro e w' ⟨rfl, rfl⟩
      go_wp2_with fail
      refine (HW3.out _ I1.out I2.out).mono ?_
      rintro e w4 ⟨rfl, hb4⟩
      have hR5 := hR3.below hb4
      have HB5 := hid (below_on HB3.out hb4)
      clear d0 d1 d2 d3 d4 d5 hc3 hR3 hX2 hb4 HW3
      have z := hR5.free
      obtain ⟨d0, d1, d2, d3, d4, d5⟩ := hR5.six
      go_wp2_with fail
      have hkk := hR5.set6 (.int .i64 0) (.int .i64 0) (.bool false) (.int .u64 0) (.slice none 0 0) (.slice none 0 0)
      obtain ⟨k0, k1, k2, k3, k4, k5⟩ := hkk.six
      refine bodyPost_ret (v := .tuple #[.agg #[.int .i64 0, .int .i64 0, .bool false, .int .u64 0, .slice none 0 0, .slice none 0 0], .int .i64 0, .int .i64 q]) (by simp [results, Tryz.results128, go_sem, k0, k1, k2, k3, k4, k5]) rfl (.inl ⟨q, hD.out, HQ.out, rfl, ?_⟩)
      repeat (with_reducible refine Below.setCell ?_ (by simp) _)
      exact below_on HBW.out HB5.out
theorem decode8_any (b : List Int) (a : Option Addr) (c : Nat) (hbc : b.length ≤ c) (hc : c ≤ 9223372036854775807) (ho : Octets b) (w : World) (hI : Ints .u8 w a b) :
    Calls Tryz.prog 128 #[.slice a b.length c] w (DecPost (decL b) w) :=
  decode8_at b (b.take 208) a c rfl hbc hc ho w hI _ rfl (by rw [List.length_take]; omega)
end Go.Proofs.YtdjlbejhphbcoaaGreat
namespace Go.Proofs.YtdjlbejhphbcoaaGreat
open Go.RowKit
set_option linter.unusedVariables false

theorem octets8 {l : List Int} (h : l.all (fun x => decide (0 ≤ x ∧ x ≤ 255)) = true) : Octets l := by
  intro x hx
  have := List.all_eq_true.1 h x hx
  simpa using this
theorem bytes8_any (l m : List Int) (a b : Option Addr) (n k c d : Nat) (hn : n = l.length) (hk : k = m.length) (w : World) (hl : l.length ≤ 1000000) (hm : m.length ≤ 1000000) (hc : Ints .u8 w a l) (hd : Ints .u8 w b m) :
    Calls Tryz.prog 15 #[.slice a n c, .slice b k d] w fun e w' => e = .returned (.bool (l == m)) ∧ Below w.heap.size w w' := by
  subst hn hk
  refine (bytes_any l m a b c d w (by omega) (by omega) hc hd).mono ?_
  rintro e w' ⟨rfl, n, rfl⟩
  exact ⟨rfl, below_drewN _ _⟩

end Go.Proofs.YtdjlbejhphbcoaaGreat
namespace Go.Proofs.YtdjlbejhphbcoaaGreat
open Go.ChangeShapes Go.WideShapes Go.RowKit Go.Deep
set_option linter.unusedVariables false

/-- a value that came in -/
structure OxmIn (w : World) (C F X : Int) (va : Option Addr) (vl vc : Nat) (ma : Option Addr) (ml mc : Nat) (v m : List Int) : Prop where
  c : -9223372036854775808 ≤ C ∧ C ≤ 9223372036854775807
  f : -9223372036854775808 ≤ F ∧ F ≤ 9223372036854775807
  x : 0 ≤ X ∧ X ≤ 18446744073709551615
  lv : vl = v.length
  lm : ml = m.length
  iv : Ints .u8 w va v
  im : Ints .u8 w ma m
  ov : Octets v
  om : Octets m
  cv : v.length ≤ vc ∧ vc ≤ 9223372036854775807
  cm : m.length ≤ mc ∧ mc ≤ 9223372036854775807

section
variable {H : Type} {enc : TypeId × Value → H} {w : World} {base : Nat} {held : Bool}
theorem open_bytes8 {fuel : Nat} {v : Value} {x : DataW H × List MemPlace} (h : DataW.trod enc Tryz.prog w base (fun _ => true) held fuel 23 [v] = some x) :
    ∃ a n c l, v = .slice a n c ∧ n = l.length ∧ Ints .u8 w a l ∧ Octets l ∧ l.length ≤ c ∧ c ≤ 9223372036854775807 := by
  have hC8 : Tryz.prog.cellsOf 5 = 1 := by kernel_rfl
  rcases open_ints Tryz.underlying23 Tryz.underlying5 hC8 h with ⟨hcs, _⟩ | ⟨p2, l2, cp2, zs, hcs, _, hl2, hm2, hz, _, hcell, hwz⟩
  · simp at hcs
    subst hcs
    exact ⟨none, 0, 0, [], rfl, rfl, Ints.nil _ _ _, fun x hx => by simp at hx, by simp, by simp⟩
  · simp at hcs
    subst hcs
    have hrow : IsRow .u8 w (some p2) l2 cp2 zs := .inr ⟨p2, rfl, hl2, hm2, by simpa using hz, hcell, hwz⟩
    obtain ⟨z, rfl, hz0, hz1, hz2, hz3⟩ := hrow.ints
    exact ⟨some p2, z.length, cp2, z, rfl, rfl, hz2, wf_u8 hz3, hz0, hz1⟩
end
end Go.Proofs.YtdjlbejhphbcoaaGreat
namespace Go.Proofs.YtdjlbejhphbcoaaGreat
open Go.RowKit
set_option linter.unusedVariables false

end Go.Proofs.YtdjlbejhphbcoaaGreat
namespace Go.Proofs.YtdjlbejhphbcoaaGreat
open Go.RowKit
set_option linter.unusedVariables false

/-- whether two are of the same field -/
def alikeB (C F X C' F' X' : Int) : Bool := C == C' && F == F' && X == X'
theorem alike_ways (C F X C' F' X' : Int) : ∃ r, alikeB C F X C' F' X' = r ∧ (((C == C') = false ∧ r = false) ∨ ((C == C') = true ∧ (F == F') = false ∧ r = false) ∨ ((C == C') = true ∧ (F == F') = true ∧ r = (X == X'))) := by
  refine ⟨_, rfl, ?_⟩
  unfold alikeB
  cases (C == C') <;> cases (F == F') <;> simp

set_option maxRecDepth 100000 in
theorem alike8_any (C F : Int) (H : Bool) (X : Int) (va : Option Addr) (vl vc : Nat) (ma : Option Addr) (ml mc : Nat) (C' F' : Int) (H' : Bool) (X' : Int) (va' : Option Addr) (vl' vc' : Nat) (ma' : Option Addr) (ml' mc' : Nat) (w : World) :
    Calls Tryz.prog 144 #[.agg #[.int .i64 C, .int .i64 F, .bool H, .int .u64 X, .slice va vl vc, .slice ma ml mc], .agg #[.int .i64 C', .int .i64 F', .bool H', .int .u64 X', .slice va' vl' vc', .slice ma' ml' mc']] w fun e w' => e = .returned (.bool (alikeB C F X C' F' X')) ∧ Below w.heap.size w w' := by
  obtain ⟨r, hr, hq⟩ := alike_ways C F X C' F' X'
  rw [hr]
  clear hr
  rcases hq with ⟨h1, rfl⟩ | ⟨h1, h2, rfl⟩ | ⟨h1, h2, rfl⟩
  all_goals
    go_enter Tryz.func144, Tryz.ntmps144
    go_wp2_with fail
    go_ret
    exact ⟨rfl, below_on (below_alloc _ _) (below_alloc _ _)⟩
set_option maxRecDepth 100000 in
theorem refAlike8_any (C F : Int) (H : Bool) (X : Int) (va : Option Addr) (vl vc : Nat) (ma : Option Addr) (ml mc : Nat) (C' F' : Int) (H' : Bool) (X' : Int) (va' : Option Addr) (vl' vc' : Nat) (ma' : Option Addr) (ml' mc' : Nat) (w : World) :
    Calls Tryz.prog 107 #[.agg #[.int .i64 C, .int .i64 F, .bool H, .int .u64 X, .slice va vl vc, .slice ma ml mc], .agg #[.int .i64 C', .int .i64 F', .bool H', .int .u64 X', .slice va' vl' vc', .slice ma' ml' mc']] w fun e w' => e = .returned (.bool (alikeB C F X C' F' X')) ∧ Below w.heap.size w w' := by
  obtain ⟨r, hr, hq⟩ := alike_ways C F X C' F' X'
  rw [hr]
  clear hr
  rcases hq with ⟨h1, rfl⟩ | ⟨h1, h2, rfl⟩ | ⟨h1, h2, rfl⟩
  all_goals
    go_enter Tryz.func107, Tryz.ntmps107
    go_wp2_with fail
    go_ret
    exact ⟨rfl, below_on (below_alloc _ _) (below_alloc _ _)⟩
theorem conv8 (w : World) (l : List Int) (a : Option Addr) (c : Nat) (hI : Ints .u8 w a l) : (convert 23 9 (.slice a l.length c)).run Tryz.prog w = .ok (.string (strOfNums l)) w := by
  have hs := Tryz.underlying23
  have he := Tryz.underlying5
  have hd := Tryz.underlying9
  cases l with
  | nil =>
    cases a with
    | none => exact run_convert_bytes_nil w _ _ hs he 0 c _ hd
    | some p =>
      rw [run_convert_bytes_string w _ _ _ _ _ c hs he hd]
      exact run_bytesToString w p 0 c [] (by rfl)
  | cons x r =>
    obtain ⟨b, off, rfl, h0⟩ := hI 0 (by simp)
    exact run_convert_bytes_arg w _ _ hs he b off (x :: r).length c (x :: r) rfl (fun i hi => by
      obtain ⟨b', off', he', hc⟩ := hI i hi
      obtain ⟨rfl, rfl⟩ : b = b' ∧ off = off' := by simpa using he'
      exact hc) _ hd

theorem byte_inj8 {x y : Int} (hx : 0 ≤ x ∧ x ≤ 255) (hy : 0 ≤ y ∧ y ≤ 255) (h : UInt8.ofNat x.toNat = UInt8.ofNat y.toNat) : x = y := by
  have h2 := congrArg UInt8.toNat h
  simp at h2
  omega
theorem map_inj8 : ∀ {l m : List Int}, Octets l → Octets m → (l.map fun n => UInt8.ofNat n.toNat) = (m.map fun n => UInt8.ofNat n.toNat) → l = m
  | [], [], _, _, _ => rfl
  | [], y :: m, _, _, h => by simp at h
  | x :: l, [], _, _, h => by simp at h
  | x :: l, y :: m, hl, hm, h => by
    rw [List.map_cons, List.map_cons, List.cons.injEq] at h
    rw [byte_inj8 (hl x (by simp)) (hm y (by simp)) h.1, map_inj8 (fun z hz => hl z (by simp [hz])) (fun z hz => hm z (by simp [hz])) h.2]
theorem strEq8 {l m : List Int} (ol : Octets l) (om : Octets m) : ((strOfNums l).toList == (strOfNums m).toList) = (l == m) := by
  rw [ByteArray.toList_eq, ByteArray.toList_eq, strOfNums_data, strOfNums_data, Bool.eq_iff_iff, beq_iff_eq, beq_iff_eq]
  exact ⟨map_inj8 ol om, fun h => by rw [h]⟩
set_option maxRecDepth 100000 in
theorem equal8_any (l m : List Int) (a b : Option Addr) (c d : Nat) (w : World) (hl : l.length ≤ 1000000) (hm : m.length ≤ 1000000) (ol : Octets l) (om : Octets m) (hc : Ints .u8 w a l) (hd : Ints .u8 w b m) :
    Calls Tryz.prog 114 #[.slice a l.length c, .slice b m.length d] w fun e w' => e = .returned (.bool (l == m)) ∧ Below w.heap.size w w' := by
  have k1 := conv8 w l a c hc
  have k2 := conv8 w m b d hd
  have HS := hid (strEq8 ol om)
  clear hc hd ol om
  go_enter Tryz.func114, Tryz.ntmps114
  go_wp2_with fail
  go_ret
  exact ⟨ret_bool HS.out, Below.refl _ _⟩

/-- whether two are the same -/
def sameB (C F : Int) (H : Bool) (X : Int) (C' F' : Int) (H' : Bool) (X' : Int) (v m v' m' : List Int) : Bool := alikeB C F X C' F' X' && H == H' && v == v' && m == m'
theorem same_ways (C F : Int) (H : Bool) (X : Int) (C' F' : Int) (H' : Bool) (X' : Int) (v m v' m' : List Int) : ∃ r, sameB C F H X C' F' H' X' v m v' m' = r ∧ ((alikeB C F X C' F' X' = false ∧ r = false) ∨ (alikeB C F X C' F' X' = true ∧ (H == H') = false ∧ r = false) ∨ (alikeB C F X C' F' X' = true ∧ (H == H') = true ∧ (v == v') = false ∧ r = false) ∨ (alikeB C F X C' F' X' = true ∧ (H == H') = true ∧ (v == v') = true ∧ r = (m == m'))) := by
  refine ⟨_, rfl, ?_⟩
  unfold sameB
  cases alikeB C F X C' F' X' <;> cases (H == H') <;> cases (v == v') <;> simp
theorem two_oxm (w : World) (C F : Int) (H : Bool) (X : Int) (va : Option Addr) (vl vc : Nat) (ma : Option Addr) (ml mc : Nat) (C' F' : Int) (H' : Bool) (X' : Int) (va' : Option Addr) (vl' vc' : Nat) (ma' : Option Addr) (ml' mc' : Nat) : ∃ W, (w.alloc (.cells #[.int .i64 C, .int .i64 F, .bool H, .int .u64 X, .slice va vl vc, .slice ma ml mc] 25)).alloc (.cells #[.int .i64 C', .int .i64 F', .bool H', .int .u64 X', .slice va' vl' vc', .slice ma' ml' mc'] 25) = W ∧ Below w.heap.size w W ∧ BoxL W w.heap.size [.int .i64 C, .int .i64 F, .bool H, .int .u64 X, .slice va vl vc, .slice ma ml mc] ∧ BoxL W (w.heap.size + 1) [.int .i64 C', .int .i64 F', .bool H', .int .u64 X', .slice va' vl' vc', .slice ma' ml' mc'] := by
  obtain ⟨W1, h1, b1, x1⟩ := oxm_box w C F H X va vl vc ma ml mc
  obtain ⟨W2, h2, b2, x2⟩ := oxm_box W1 C' F' H' X' va' vl' vc' ma' ml' mc'
  have hs : W1.heap.size = w.heap.size + 1 := by rw [← h1, World.size_alloc]
  rw [hs] at x2
  exact ⟨W2, by rw [h1, h2], below_on b1 b2, x1.below b2, x2⟩

set_option maxRecDepth 100000 in
set_option maxHeartbeats 1000000 in
theorem same8_any (C F : Int) (H : Bool) (X : Int) (va : Option Addr) (vc : Nat) (ma : Option Addr) (mc : Nat) (C' F' : Int) (H' : Bool) (X' : Int) (va' : Option Addr) (vc' : Nat) (ma' : Option Addr) (mc' : Nat) (v m v' m' : List Int) (hv : v.length ≤ 1000) (hm : m.length ≤ 1000) (hv' : v'.length ≤ 1000) (hm' : m'.length ≤ 1000) (ov : Octets v) (om : Octets m) (ov' : Octets v') (om' : Octets m') (w : World) (iv : Ints .u8 w va v) (im : Ints .u8 w ma m) (iv' : Ints .u8 w va' v') (im' : Ints .u8 w ma' m') :
    Calls Tryz.prog 113 #[.agg #[.int .i64 C, .int .i64 F, .bool H, .int .u64 X, .slice va v.length vc, .slice ma m.length mc], .agg #[.int .i64 C', .int .i64 F', .bool H', .int .u64 X', .slice va' v'.length vc', .slice ma' m'.length mc']] w fun e w' => e = .returned (.bool (sameB C F H X C' F' H' X' v m v' m')) ∧ Below w.heap.size w w' := by
  obtain ⟨W, hW, hbW, hx, hy⟩ := two_oxm w C F H X va v.length vc ma m.length mc C' F' H' X' va' v'.length vc' ma' m'.length mc'
  have HW := hid hW
  have HB := hid hbW
  have IV := hid (iv.below hbW)
  have IM := hid (im.below hbW)
  have IV' := hid (iv'.below hbW)
  have IM' := hid (im'.below hbW)
  have AL := hid (fun W => alike8_any C F H X va v.length vc ma m.length mc C' F' H' X' va' v'.length vc' ma' m'.length mc' W)
  have EV := hid (fun (n : Wk W) => equal8_any v v' va va' vc vc' n.val (by omega) (by omega) ov ov' (IV.out.below n.bel) (IV'.out.below n.bel))
  have EM := hid (fun (n : Wk W) => equal8_any m m' ma ma' mc mc' n.val (by omega) (by omega) om om' (IM.out.below n.bel) (IM'.out.below n.bel))
  obtain ⟨d0, d1, d2, d3, d4, d5⟩ := hx.six
  obtain ⟨e0, e1, e2, e3, e4, e5⟩ := hy.six
  obtain ⟨r, hr, hq⟩ := same_ways C F H X C' F' H' X' v m v' m'
  rw [hr]
  clear hr hW hbW iv im iv' im' ov om ov' om' hv hm hv' hm'
  rcases hq with ⟨h1, rfl⟩ | ⟨h1, h2, rfl⟩ | ⟨h1, h2, h3, rfl⟩ | ⟨h1, h2, h3, rfl⟩
  · rw [h1] at AL
    clear h1
    go_enter Tryz.func113, Tryz.ntmps113
    go_wp2_with fail
    rw [HW.out]
    have HA := hid (Below.refl W.heap.size W)
    go_wp2_with fail
    refine (AL.out _).mono ?_
    rintro e w1 ⟨rfl, hb⟩
    replace HA := hid (below_on HA.out hb)
    clear d0 d1 d2 d3 d4 d5 e0 e1 e2 e3 e4 e5 hb
    obtain ⟨d0, d1, d2, d3, d4, d5⟩ := (hx.below HA.out).six
    obtain ⟨e0, e1, e2, e3, e4, e5⟩ := (hy.below HA.out).six
    go_wp2_with fail
    go_ret
    exact ⟨rfl, below_on HB.out HA.out⟩
  · rw [h1] at AL
    clear h1
    go_enter Tryz.func113, Tryz.ntmps113
    go_wp2_with fail
    rw [HW.out]
    have HA := hid (Below.refl W.heap.size W)
    go_wp2_with fail
    refine (AL.out _).mono ?_
    rintro e w1 ⟨rfl, hb⟩
    replace HA := hid (below_on HA.out hb)
    clear d0 d1 d2 d3 d4 d5 e0 e1 e2 e3 e4 e5 hb
    obtain ⟨d0, d1, d2, d3, d4, d5⟩ := (hx.below HA.out).six
    obtain ⟨e0, e1, e2, e3, e4, e5⟩ := (hy.below HA.out).six
    go_wp2_with fail
    go_ret
    exact ⟨rfl, below_on HB.out HA.out⟩
  · rw [h1] at AL
    clear h1
    rw [h3] at EV
    clear h3
    go_enter Tryz.func113, Tryz.ntmps113
    go_wp2_with fail
    rw [HW.out]
    have HA := hid (Below.refl W.heap.size W)
    go_wp2_with fail
    refine (AL.out _).mono ?_
    rintro e w1 ⟨rfl, hb⟩
    replace HA := hid (below_on HA.out hb)
    clear d0 d1 d2 d3 d4 d5 e0 e1 e2 e3 e4 e5 hb
    obtain ⟨d0, d1, d2, d3, d4, d5⟩ := (hx.below HA.out).six
    obtain ⟨e0, e1, e2, e3, e4, e5⟩ := (hy.below HA.out).six
    go_wp2_with fail
    refine (EV.out ⟨_, HA.out⟩).mono ?_
    rintro e w1 ⟨rfl, hb⟩
    replace HA := hid (below_on HA.out hb)
    clear d0 d1 d2 d3 d4 d5 e0 e1 e2 e3 e4 e5 hb
    obtain ⟨d0, d1, d2, d3, d4, d5⟩ := (hx.below HA.out).six
    obtain ⟨e0, e1, e2, e3, e4, e5⟩ := (hy.below HA.out).six
    go_wp2_with fail
    go_ret
    exact ⟨rfl, below_on HB.out HA.out⟩
  · rw [h1] at AL
    clear h1
    rw [h3] at EV
    clear h3
    go_enter Tryz.func113, Tryz.ntmps113
    go_wp2_with fail
    rw [HW.out]
    have HA := hid (Below.refl W.heap.size W)
    go_wp2_with fail
    refine (AL.out _).mono ?_
    rintro e w1 ⟨rfl, hb⟩
    replace HA := hid (below_on HA.out hb)
    clear d0 d1 d2 d3 d4 d5 e0 e1 e2 e3 e4 e5 hb
    obtain ⟨d0, d1, d2, d3, d4, d5⟩ := (hx.below HA.out).six
    obtain ⟨e0, e1, e2, e3, e4, e5⟩ := (hy.below HA.out).six
    go_wp2_with fail
    refine (EV.out ⟨_, HA.out⟩).mono ?_
    rintro e w1 ⟨rfl, hb⟩
    replace HA := hid (below_on HA.out hb)
    clear d0 d1 d2 d3 d4 d5 e0 e1 e2 e3 e4 e5 hb
    obtain ⟨d0, d1, d2, d3, d4, d5⟩ := (hx.below HA.out).six
    obtain ⟨e0, e1, e2, e3, e4, e5⟩ := (hy.below HA.out).six
    go_wp2_with fail
    refine (EM.out ⟨_, HA.out⟩).mono ?_
    rintro e w1 ⟨rfl, hb⟩
    replace HA := hid (below_on HA.out hb)
    clear d0 d1 d2 d3 d4 d5 e0 e1 e2 e3 e4 e5 hb
    obtain ⟨d0, d1, d2, d3, d4, d5⟩ := (hx.below HA.out).six
    obtain ⟨e0, e1, e2, e3, e4, e5⟩ := (hy.below HA.out).six
    go_wp2_with fail
    go_ret
    exact ⟨rfl, below_on HB.out HA.out⟩

set_option maxRecDepth 100000 in
set_option maxHeartbeats 1000000 in
theorem refSame8_any (C F : Int) (H : Bool) (X : Int) (va : Option Addr) (vc : Nat) (ma : Option Addr) (mc : Nat) (C' F' : Int) (H' : Bool) (X' : Int) (va' : Option Addr) (vc' : Nat) (ma' : Option Addr) (mc' : Nat) (v m v' m' : List Int) (hv : v.length ≤ 1000) (hm : m.length ≤ 1000) (hv' : v'.length ≤ 1000) (hm' : m'.length ≤ 1000) (ov : Octets v) (om : Octets m) (ov' : Octets v') (om' : Octets m') (w : World) (iv : Ints .u8 w va v) (im : Ints .u8 w ma m) (iv' : Ints .u8 w va' v') (im' : Ints .u8 w ma' m') :
    Calls Tryz.prog 63 #[.agg #[.int .i64 C, .int .i64 F, .bool H, .int .u64 X, .slice va v.length vc, .slice ma m.length mc], .agg #[.int .i64 C', .int .i64 F', .bool H', .int .u64 X', .slice va' v'.length vc', .slice ma' m'.length mc']] w fun e w' => e = .returned (.bool (sameB C F H X C' F' H' X' v m v' m')) ∧ Below w.heap.size w w' := by
  obtain ⟨W, hW, hbW, hx, hy⟩ := two_oxm w C F H X va v.length vc ma m.length mc C' F' H' X' va' v'.length vc' ma' m'.length mc'
  have HW := hid hW
  have HB := hid hbW
  have IV := hid (iv.below hbW)
  have IM := hid (im.below hbW)
  have IV' := hid (iv'.below hbW)
  have IM' := hid (im'.below hbW)
  have AL := hid (fun W => refAlike8_any C F H X va v.length vc ma m.length mc C' F' H' X' va' v'.length vc' ma' m'.length mc' W)
  have EV := hid (fun (n : Wk W) => bytes8_any v v' va va' _ _ vc vc' rfl rfl n.val (by omega) (by omega) (IV.out.below n.bel) (IV'.out.below n.bel))
  have EM := hid (fun (n : Wk W) => bytes8_any m m' ma ma' _ _ mc mc' rfl rfl n.val (by omega) (by omega) (IM.out.below n.bel) (IM'.out.below n.bel))
  obtain ⟨d0, d1, d2, d3, d4, d5⟩ := hx.six
  obtain ⟨e0, e1, e2, e3, e4, e5⟩ := hy.six
  obtain ⟨r, hr, hq⟩ := same_ways C F H X C' F' H' X' v m v' m'
  rw [hr]
  clear hr hW hbW iv im iv' im' ov om ov' om' hv hm hv' hm'
  rcases hq with ⟨h1, rfl⟩ | ⟨h1, h2, rfl⟩ | ⟨h1, h2, h3, rfl⟩ | ⟨h1, h2, h3, rfl⟩
  · rw [h1] at AL
    clear h1
    go_enter Tryz.func63, Tryz.ntmps63
    go_wp2_with fail
    rw [HW.out]
    have HA := hid (Below.refl W.heap.size W)
    go_wp2_with fail
    refine (AL.out _).mono ?_
    rintro e w1 ⟨rfl, hb⟩
    replace HA := hid (below_on HA.out hb)
    clear d0 d1 d2 d3 d4 d5 e0 e1 e2 e3 e4 e5 hb
    obtain ⟨d0, d1, d2, d3, d4, d5⟩ := (hx.below HA.out).six
    obtain ⟨e0, e1, e2, e3, e4, e5⟩ := (hy.below HA.out).six
    go_wp2_with fail
    go_ret
    exact ⟨rfl, below_on HB.out HA.out⟩
  · rw [h1] at AL
    clear h1
    go_enter Tryz.func63, Tryz.ntmps63
    go_wp2_with fail
    rw [HW.out]
    have HA := hid (Below.refl W.heap.size W)
    go_wp2_with fail
    refine (AL.out _).mono ?_
    rintro e w1 ⟨rfl, hb⟩
    replace HA := hid (below_on HA.out hb)
    clear d0 d1 d2 d3 d4 d5 e0 e1 e2 e3 e4 e5 hb
    obtain ⟨d0, d1, d2, d3, d4, d5⟩ := (hx.below HA.out).six
    obtain ⟨e0, e1, e2, e3, e4, e5⟩ := (hy.below HA.out).six
    go_wp2_with fail
    go_ret
    exact ⟨rfl, below_on HB.out HA.out⟩
  · rw [h1] at AL
    clear h1
    rw [h3] at EV
    clear h3
    go_enter Tryz.func63, Tryz.ntmps63
    go_wp2_with fail
    rw [HW.out]
    have HA := hid (Below.refl W.heap.size W)
    go_wp2_with fail
    refine (AL.out _).mono ?_
    rintro e w1 ⟨rfl, hb⟩
    replace HA := hid (below_on HA.out hb)
    clear d0 d1 d2 d3 d4 d5 e0 e1 e2 e3 e4 e5 hb
    obtain ⟨d0, d1, d2, d3, d4, d5⟩ := (hx.below HA.out).six
    obtain ⟨e0, e1, e2, e3, e4, e5⟩ := (hy.below HA.out).six
    go_wp2_with fail
    refine (EV.out ⟨_, HA.out⟩).mono ?_
    rintro e w1 ⟨rfl, hb⟩
    replace HA := hid (below_on HA.out hb)
    clear d0 d1 d2 d3 d4 d5 e0 e1 e2 e3 e4 e5 hb
    obtain ⟨d0, d1, d2, d3, d4, d5⟩ := (hx.below HA.out).six
    obtain ⟨e0, e1, e2, e3, e4, e5⟩ := (hy.below HA.out).six
    go_wp2_with fail
    go_ret
    exact ⟨rfl, below_on HB.out HA.out⟩
  · rw [h1] at AL
    clear h1
    rw [h3] at EV
    clear h3
    go_enter Tryz.func63, Tryz.ntmps63
    go_wp2_with fail
    rw [HW.out]
    have HA := hid (Below.refl W.heap.size W)
    go_wp2_with fail
    refine (AL.out _).mono ?_
    rintro e w1 ⟨rfl, hb⟩
    replace HA := hid (below_on HA.out hb)
    clear d0 d1 d2 d3 d4 d5 e0 e1 e2 e3 e4 e5 hb
    obtain ⟨d0, d1, d2, d3, d4, d5⟩ := (hx.below HA.out).six
    obtain ⟨e0, e1, e2, e3, e4, e5⟩ := (hy.below HA.out).six
    go_wp2_with fail
    refine (EV.out ⟨_, HA.out⟩).mono ?_
    rintro e w1 ⟨rfl, hb⟩
    replace HA := hid (below_on HA.out hb)
    clear d0 d1 d2 d3 d4 d5 e0 e1 e2 e3 e4 e5 hb
    obtain ⟨d0, d1, d2, d3, d4, d5⟩ := (hx.below HA.out).six
    obtain ⟨e0, e1, e2, e3, e4, e5⟩ := (hy.below HA.out).six
    go_wp2_with fail
    refine (EM.out ⟨_, HA.out⟩).mono ?_
    rintro e w1 ⟨rfl, hb⟩
    replace HA := hid (below_on HA.out hb)
    clear d0 d1 d2 d3 d4 d5 e0 e1 e2 e3 e4 e5 hb
    obtain ⟨d0, d1, d2, d3, d4, d5⟩ := (hx.below HA.out).six
    obtain ⟨e0, e1, e2, e3, e4, e5⟩ := (hy.below HA.out).six
    go_wp2_with fail
    go_ret
    exact ⟨rfl, below_on HB.out HA.out⟩
end Go.Proofs.YtdjlbejhphbcoaaGreat
namespace Go.Proofs.YtdjlbejhphbcoaaGreat
open Go.RowKit
set_option linter.unusedVariables false

theorem numL_1 (x : Int) : numL [x] = x := by simp [numL]
theorem numL_2 (x y : Int) : numL [x, y] = x * 256 + y := by simp [numL]
theorem cls8_cons (x0 x1 x2 x3 : Int) (r : List Int) : cls8 (x0 :: x1 :: x2 :: x3 :: r) = x0 * 256 + x1 := numL_2 x0 x1
theorem fld8_cons (x0 x1 x2 x3 : Int) (r : List Int) : fld8 (x0 :: x1 :: x2 :: x3 :: r) = x2 := numL_1 x2
theorem len8_cons (x0 x1 x2 x3 : Int) (r : List Int) : len8 (x0 :: x1 :: x2 :: x3 :: r) = x3 := numL_1 x3
theorem rest8_cons (x0 x1 x2 x3 : Int) (r : List Int) : rest8 (x0 :: x1 :: x2 :: x3 :: r) = r := rfl
theorem four_cons {b : List Int} (h : 4 ≤ b.length) : ∃ x0 x1 x2 x3 r, b = x0 :: x1 :: x2 :: x3 :: r := by
  match b, h with
  | x0 :: x1 :: x2 :: x3 :: r, _ => exact ⟨x0, x1, x2, x3, r, rfl⟩
theorem byteAt_0 (n : Int) : byteAt n 0 = n % 256 := by simp [byteAt, p256]
theorem byteAt_1 (n : Int) : byteAt n 1 = n / 256 % 256 := by simp [byteAt, p256]
theorem field_half {F : Int} {H : Bool} (h0 : 0 ≤ F) (h1 : F ≤ 127) : byteAt (fieldN F H) 0 / 2 = F ∧ oddB (byteAt (fieldN F H) 0) = H := by
  rw [byteAt_0]
  cases H
  · have e : fieldN F false = 2 * F := rfl
    rw [e]
    refine ⟨by omega, ?_⟩
    simp only [oddB, beq_eq_false_iff_ne, ne_eq]
    omega
  · have e : fieldN F true = 2 * F + 1 := rfl
    rw [e]
    refine ⟨by omega, ?_⟩
    simp only [oddB, beq_iff_eq]
    omega
theorem bytes_cons (C F : Int) (H : Bool) (X : Int) (v m : List Int) : oxmBytes C F H X v m = byteAt C 1 :: byteAt C 0 :: byteAt (fieldN F H) 0 :: byteAt (behind8 C v.length m.length : Nat) 0 :: (expL C X ++ (v ++ m)) := by
  simp [oxmBytes, headL, bytesL]
theorem pos_z {F : Int} (h : 0 ≤ F ∧ F < 40) : 1 ≤ (fld F).z := by
  rcases forty h with rfl | rfl | rfl | rfl | rfl | rfl | rfl | rfl | rfl | rfl | rfl | rfl | rfl | rfl | rfl | rfl | rfl | rfl | rfl | rfl | rfl | rfl | rfl | rfl | rfl | rfl | rfl | rfl | rfl | rfl | rfl | rfl | rfl | rfl | rfl | rfl | rfl | rfl | rfl | rfl <;> decide +kernel

/-- what is so of bytes that begin with a value's -/
structure Begins (C F : Int) (H : Bool) (X : Int) (v m b : List Int) (k : Nat) : Prop where
  cls : cls8 b = C
  fd : fld8 b / 2 = F
  od : oddB (fld8 b) = H
  ln : len8 b = k
  hk : 1 ≤ k
  he : headE C F H k = 0
theorem right_begins {C F X : Int} {H : Bool} {v m : List Int} (h : rightB C F H X v m = true) (r : List Int) : Begins C F H X v m (byteAt C 1 :: byteAt C 0 :: byteAt (fieldN F H) 0 :: byteAt (behind8 C v.length m.length : Nat) 0 :: r) (behind8 C v.length m.length) := by
  have ft := right_facts h
  unfold rightB at h
  simp only [Bool.and_eq_true, decide_eq_true_eq] at h
  obtain ⟨⟨⟨h1, h2⟩, h3⟩, h4⟩ := h
  have hC : 0 ≤ C ∧ C < 65536 := by rcases ft.cls with h | h <;> omega
  have hf := field_half (H := H) ft.f0 ft.f1
  have hm := ft.most
  refine ⟨?_, ?_, ?_, ?_, ?_, h3⟩
  · rw [cls8_cons, byteAt_0, byteAt_1]; omega
  · rw [fld8_cons]; exact hf.1
  · rw [fld8_cons]; exact hf.2
  · rw [len8_cons, byteAt_0]; omega
  · rcases head_cls h3 with hc | hc
    · rw [hc] at h3 ⊢
      have hh := head_basic h3
      have hz := pos_z hh.1
      have := hh.2.1
      have hp : pieces8 H = 1 ∨ pieces8 H = 2 := by cases H <;> simp [pieces8]
      rcases hp with hp | hp <;> rw [hp] at this <;> omega
    · rw [hc] at h3 ⊢
      have := (head_extra h3).1
      omega
/-- a byte less -/
theorem back_less {C F X : Int} {H : Bool} {v m : List Int} (h : rightB C F H X v m = true) : decL ((oxmBytes C F H X v m).take ((oxmBytes C F H X v m).length - 1)) = .error 1026 ∧ 5 ≤ (oxmBytes C F H X v m).length := by
  have hlen := oxmBytes_length C F H X v m
  have B0 := right_begins h []
  have hk := B0.hk
  obtain ⟨k, hkk⟩ : ∃ k, behind8 C v.length m.length = k + 1 := ⟨behind8 C v.length m.length - 1, by omega⟩
  have B := right_begins h ((expL C X ++ (v ++ m)).take k)
  have hs : (oxmBytes C F H X v m).take ((oxmBytes C F H X v m).length - 1) = byteAt C 1 :: byteAt C 0 :: byteAt (fieldN F H) 0 :: byteAt (behind8 C v.length m.length : Nat) 0 :: (expL C X ++ (v ++ m)).take k := by
    rw [hlen, hkk, show 4 + (k + 1) - 1 = k + 1 + 1 + 1 + 1 by omega, bytes_cons, hkk]
    rfl
  have hel : (expL C X ++ (v ++ m)).length = k + 1 := by
    simp only [List.length_append, expL_length]
    unfold behind8 at hkk
    split at hkk <;> simp_all <;> omega
  rw [← hs] at B
  have hr : rest8 ((oxmBytes C F H X v m).take ((oxmBytes C F H X v m).length - 1)) = (expL C X ++ (v ++ m)).take k := by rw [hs]; rfl
  have hsl : 4 ≤ ((oxmBytes C F H X v m).take ((oxmBytes C F H X v m).length - 1)).length := by rw [hs]; simp
  obtain ⟨s, hss⟩ : ∃ s, (oxmBytes C F H X v m).take ((oxmBytes C F H X v m).length - 1) = s := ⟨_, rfl⟩
  rw [hss] at B hr hsl ⊢
  obtain ⟨e1, e2, e3, e4, e5, e6⟩ := B
  have he : ¬ headE (cls8 s) (fld8 s / 2) (oddB (fld8 s)) (len8 s) ≠ 0 := by rw [e1, e2, e3, e4]; simpa using e6
  have hrl : (rest8 s).length < (len8 s).toNat := by rw [hr, e4, List.length_take, hel, Int.toNat_natCast]; omega
  refine ⟨?_, by omega⟩
  unfold decL rawL
  rw [if_neg (by omega), if_neg he, if_pos hrl]

theorem field_whole {n : Int} (h0 : 0 ≤ n) (h1 : n ≤ 255) : fieldN (n / 2) (oddB n) = n := by
  unfold fieldN oddB
  by_cases h : n % 2 = 1
  · simp [h]; omega
  · simp [h]; omega
/-- what is decoded may be, and is those bytes -/
theorem dec_right {b : List Int} {o : Oxm8} (h : decL b = .ok o) (ho : Octets b) : rightB o.C o.F o.H o.X o.v o.m = true ∧ o.n ≤ b.length ∧ oxmBytes o.C o.F o.H o.X o.v o.m = b.take o.n ∧ 0 ≤ o.X := by
  have hraw : rawL b = .ok o ∧ bytesE o.C o.F o.H o.v o.m = 0 := by
    unfold decL at h
    cases hr : rawL b with
    | error q => rw [hr] at h; simp at h
    | ok o' =>
      rw [hr] at h
      simp only at h
      by_cases hb : bytesE o'.C o'.F o'.H o'.v o'.m = 0
      · rw [if_pos hb] at h
        obtain rfl : o' = o := by simpa using h
        exact ⟨rfl, hb⟩
      · rw [if_neg hb] at h; simp at h
  obtain ⟨hraw, hb⟩ := hraw
  have hvm := (raw_octets hraw ho).2.2.2.2
  unfold rawL at hraw
  by_cases h4 : b.length < 4
  · rw [if_pos h4] at hraw; simp at hraw
  rw [if_neg h4] at hraw
  by_cases hE : headE (cls8 b) (fld8 b / 2) (oddB (fld8 b)) (len8 b) ≠ 0
  · rw [if_pos hE] at hraw; simp at hraw
  rw [if_neg hE] at hraw
  by_cases hr : (rest8 b).length < (len8 b).toNat
  · rw [if_pos hr] at hraw; simp at hraw
  rw [if_neg hr] at hraw
  obtain rfl : _ = o := by simpa using hraw
  simp only at hb hvm ⊢
  have hE' : headE (cls8 b) (fld8 b / 2) (oddB (fld8 b)) (len8 b) = 0 := by simpa using hE
  obtain ⟨x0, x1, x2, x3, r, rfl⟩ := four_cons (b := b) (by omega)
  have q0 := ho x0 (by simp)
  have q1 := ho x1 (by simp)
  have q2 := ho x2 (by simp)
  have q3 := ho x3 (by simp)
  have orr : Octets r := fun y hy => ho y (by simp [hy])
  rw [len8_cons, rest8_cons] at hr
  have hL : (x3.toNat : Int) = x3 := Int.toNat_of_nonneg q3.1
  -- lengths
  have hbody : (body8 (x0 :: x1 :: x2 :: x3 :: r)).length ≥ both8 (x0 :: x1 :: x2 :: x3 :: r) ∧ both8 (x0 :: x1 :: x2 :: x3 :: r) + (if cls8 (x0 :: x1 :: x2 :: x3 :: r) = 65535 then 4 else 0) = x3.toNat ∧ (expL (cls8 (x0 :: x1 :: x2 :: x3 :: r)) (exp8 (x0 :: x1 :: x2 :: x3 :: r)) ++ (body8 (x0 :: x1 :: x2 :: x3 :: r)).take (both8 (x0 :: x1 :: x2 :: x3 :: r)) = r.take x3.toNat) ∧ room8 (cls8 (x0 :: x1 :: x2 :: x3 :: r)) (x2 / 2) (exp8 (x0 :: x1 :: x2 :: x3 :: r)) = true ∧ 0 ≤ exp8 (x0 :: x1 :: x2 :: x3 :: r) := by
    unfold body8 both8 exp8 expL room8
    rw [rest8_cons, len8_cons]
    by_cases hc : cls8 (x0 :: x1 :: x2 :: x3 :: r) = 65535
    · rw [len8_cons, hc] at hE'
      have hh := head_extra hE'
      have hl4 : (r.take 4).length = 4 := by rw [List.length_take]; omega
      have hb4 := numL_snoc_bound (orr.take 4)
      rw [hl4] at hb4
      have hp4 : p256 4 = 4294967296 := by decide
      simp only [hc, if_true]
      refine ⟨by rw [List.length_drop]; omega, by omega, ?_, by simp; omega, hb4.1⟩
      have e := bytesL_numL (orr.take 4)
      rw [hl4] at e
      rw [e, show x3.toNat = 4 + (x3.toNat - 4) by omega, List.take_add]
      simp
    · simp only [hc, if_false]
      refine ⟨by omega, by omega, by simp, by simp, by simp⟩
  obtain ⟨hb1, hb2, hb3, hb4, hb5⟩ := hbody
  obtain ⟨bd, hbd⟩ : ∃ l, body8 (x0 :: x1 :: x2 :: x3 :: r) = l := ⟨_, rfl⟩
  obtain ⟨bo, hbo⟩ : ∃ l, both8 (x0 :: x1 :: x2 :: x3 :: r) = l := ⟨_, rfl⟩
  obtain ⟨ex, hex⟩ : ∃ l, exp8 (x0 :: x1 :: x2 :: x3 :: r) = l := ⟨_, rfl⟩
  obtain ⟨cl, hcl⟩ : ∃ l, cls8 (x0 :: x1 :: x2 :: x3 :: r) = l := ⟨_, rfl⟩
  have hcl2 : cl = x0 * 256 + x1 := by rw [← hcl]; exact cls8_cons ..
  obtain ⟨vv, hvv⟩ : ∃ l, val8 (x0 :: x1 :: x2 :: x3 :: r) = l := ⟨_, rfl⟩
  obtain ⟨mm, hmm⟩ : ∃ l, mask8 (x0 :: x1 :: x2 :: x3 :: r) = l := ⟨_, rfl⟩
  have hv2 : vv = bd.take (bo / pieces8 (oddB x2)) := by rw [← hvv]; unfold val8; rw [hbd, hbo, fld8_cons]
  have hm2 : mm = if oddB x2 then (bd.drop (bo / 2)).take (bo / 2) else [] := by rw [← hmm]; unfold mask8; rw [hbd, hbo, fld8_cons]
  rw [hbd, hbo] at hb1
  rw [hbo, hcl] at hb2
  rw [hcl, hex, hbd, hbo] at hb3
  rw [hcl, hex] at hb4
  rw [hex] at hb5
  rw [hvv, hmm, hcl, fld8_cons] at hb
  rw [hvv, hmm, fld8_cons] at hvm
  rw [hcl, fld8_cons, len8_cons] at hE'
  rw [hvv, hmm, hcl, hex, fld8_cons, len8_cons]
  clear hvv hmm hcl hex hbd hbo hE hraw
  have hjoin : vv ++ mm = bd.take bo ∧ mm.length = maskZ (oddB x2) vv.length ∧ vv.length + mm.length = bo := by
    cases hH : oddB x2
    · rw [hH] at hv2 hm2
      have : mm = [] := by simpa using hm2
      rw [this, hv2]
      refine ⟨by simp [pieces8], rfl, by simp [pieces8]; omega⟩
    · rw [hH] at hv2 hm2
      have hmm2 : mm = (bd.drop (bo / 2)).take (bo / 2) := by simpa using hm2
      have hvv2 : vv = bd.take (bo / 2) := by simpa [pieces8] using hv2
      have heven : bo = bo / 2 + bo / 2 := by
        rw [hH] at hE'
        rcases head_cls hE' with hc | hc
        · rw [hc] at hE' hb2
          have := (head_basic hE').2.1
          simp [pieces8] at this
          simp at hb2
          omega
        · rw [hc] at hE' hb2
          have := (head_extra hE').2.1
          simp [pieces8] at this
          simp at hb2
          omega
      have hl1 : vv.length = bo / 2 := by rw [hvv2, List.length_take]; omega
      have hl2 : mm.length = bo / 2 := by rw [hmm2, List.length_take, List.length_drop]; omega
      refine ⟨?_, by rw [hl1, hl2]; rfl, by omega⟩
      rw [hvv2, hmm2, ← List.take_add, ← heven]
  obtain ⟨hj1, hj2, hj3⟩ := hjoin
  have hbeh : (behind8 cl vv.length mm.length : Int) = x3 := by
    unfold behind8
    split at hb2 <;> simp_all <;> omega
  refine ⟨?_, by simp; omega, ?_, hb5⟩
  · unfold rightB
    rw [hbeh]
    simp [hb4, hj2, hE', hb]
  · rw [bytes_cons, field_whole q2.1 q2.2, hbeh, byteAt_0, byteAt_0, byteAt_0, byteAt_1, hj1, hb3, hcl2]
    have e0 : (x0 * 256 + x1) / 256 % 256 = x0 := by omega
    have e1 : (x0 * 256 + x1) % 256 = x1 := by omega
    have e2 : x2 % 256 = x2 := by omega
    have e3 : x3 % 256 = x3 := by omega
    rw [e0, e1, e2, e3, show 4 + x3.toNat = x3.toNat + 1 + 1 + 1 + 1 by omega]
    rfl
end Go.Proofs.YtdjlbejhphbcoaaGreat
namespace Go.Proofs.YtdjlbejhphbcoaaGreat
open Go.RowKit
set_option linter.unusedVariables false

theorem dec_raw {b : List Int} {o : Oxm8} (h : decL b = .ok o) : rawL b = .ok o := by
  unfold decL at h
  cases hr : rawL b with
  | error q => rw [hr] at h; simp at h
  | ok o' =>
    rw [hr] at h
    simp only at h
    by_cases hb : bytesE o'.C o'.F o'.H o'.v o'.m = 0
    · rw [if_pos hb] at h
      obtain rfl : o' = o := by simpa using h
      rfl
    · rw [if_neg hb] at h; simp at h
end Go.Proofs.YtdjlbejhphbcoaaGreat
