/- Package oxm: what is wrong first with what stands ahead of the bytes. -/
import Derived.Test.YtfogpofgmnibcaaOxmD
namespace Go.Proofs.Ytfogpofgmnibcaa
open Go.RowKit
set_option linter.unusedVariables false

/-- what is wrong first with Class, Field, Has and the length of what is behind -/
def headE (C F : Int) (H : Bool) (n : Int) : Int :=
  if C = 32768 then (if ¬ (0 ≤ F ∧ F < 40) then 1031 else if (H && !(fld F).m) = true then 1033 else if n ≠ ((fld F).z : Int) * pieces8 H then 1026 else 0)
  else if C = 65535 then (if n - 4 < 0 ∨ (n - 4) % (pieces8 H : Int) ≠ 0 ∨ 100 * (pieces8 H : Int) < n - 4 then 1026 else 0)
  else 1031

theorem pieces8_off (C F X : Int) (va : Option Addr) (vl vc : Nat) (ma : Option Addr) (ml mc : Nat) (W : World) :
    Calls Try.prog 48 #[.agg #[.int .i64 C, .int .i64 F, .bool false, .int .u64 X, .slice va vl vc, .slice ma ml mc]] W fun e w' => e = .returned (.int .i64 1) ∧ Below W.heap.size W w' :=
  pieces8_any C F false X va vl vc ma ml mc W
theorem pieces8_on (C F X : Int) (va : Option Addr) (vl vc : Nat) (ma : Option Addr) (ml mc : Nat) (W : World) :
    Calls Try.prog 48 #[.agg #[.int .i64 C, .int .i64 F, .bool true, .int .u64 X, .slice va vl vc, .slice ma ml mc]] W fun e w' => e = .returned (.int .i64 2) ∧ Below W.heap.size W w' :=
  pieces8_any C F true X va vl vc ma ml mc W
/-- a field, boxed -/
theorem fld_box (w : World) (b z : Int) (m : Bool) (d : Int) (v : Value) : ∃ W, w.alloc (.cells #[.int .i64 b, .int .i64 z, .bool m, .int .i64 d, v] 76) = W ∧ Below w.heap.size w W ∧ BoxL W w.heap.size [.int .i64 b, .int .i64 z, .bool m, .int .i64 d, v] :=
  ⟨_, rfl, below_alloc _ _, BoxL.new _ _ _⟩

set_option maxRecDepth 100000 in
set_option maxHeartbeats 1000000 in
theorem wrongHead_basic (F : Int) (H : Bool) (X : Int) (va : Option Addr) (vl vc : Nat) (ma : Option Addr) (ml mc : Nat) (n : Int) (w : World) :
    Calls Try.prog 32 #[.agg #[.int .i64 32768, .int .i64 F, .bool H, .int .u64 X, .slice va vl vc, .slice ma ml mc], .int .i64 n] w fun e w' => e = .returned (.int .i64 (headE 32768 F H n)) ∧ Below w.heap.size w w' := by
  obtain ⟨W, hW, hbW, hbox⟩ := oxm_box w 32768 F H X va vl vc ma ml mc
  have HW := hid hW
  have HB := hid hbW
  have HO := fun W => fldOf_any F W
  have HP := hid (fun W => pieces8_any 32768 F H X va vl vc ma ml mc W)
  obtain ⟨d0, d1, d2, d3, d4, d5⟩ := hbox.six
  by_cases hF : 0 ≤ F ∧ F < 40
  · have he : headE 32768 F H n = if (H && !(fld F).m) = true then 1033 else if n ≠ ((fld F).z : Int) * pieces8 H then 1026 else 0 := by simp [headE, hF]
    rw [he]
    rw [decide_eq_true hF] at HO
    have hz : ((fld F).z : Int) ≤ 16 := by have := (fld_dims hF).2.2.2; omega
    clear he
    obtain ⟨f, hf⟩ : ∃ f, fld F = f := ⟨_, rfl⟩
    rw [hf] at HO hz ⊢
    unfold fldV at HO
    have HO := hid HO
    clear hW hbW hf hF
    rcases (show (H = true ∧ f.m = false) ∨ (H = false ∨ H = true ∧ f.m = true) by cases H <;> cases f.m <;> simp) with ⟨rfl, hfm⟩ | rfl | ⟨rfl, hfm⟩
    · rw [hfm] at HO ⊢
      clear hfm
      go_enter Try.func32, Try.ntmps32
      go_wp2_with fail
      rw [HW.out]
      go_wp2_with fail
      refine (HO.out _).mono ?_
      rintro e w1 ⟨v, rfl, ⟨a', c', rfl, hI⟩, hb⟩
      clear hI
      have hbx := hbox.below hb
      have hlt := hbx.lt
      have n2 : ¬ w.heap.size = w1.heap.size := by omega
      obtain ⟨d0, d1, d2, d3, d4, d5⟩ := hbx.six
      have HB1 := hid (below_on HB.out hb)
      go_wp2_with fail
      go_ret
      exact ⟨rfl, below_on HB1.out (below_alloc _ _)⟩
    · have e : (if (false && !f.m) = true then 1033 else if n ≠ (f.z : Int) * (pieces8 false : Nat) then 1026 else 0 : Int) = if n ≠ (f.z : Int) * (pieces8 false : Nat) then 1026 else 0 := by simp
      rw [e]
      clear e
      replace HP := hid (fun W => (pieces8_off 32768 F X va vl vc ma ml mc W))
      obtain ⟨r, hr⟩ : ∃ r : Int, ((f.z : Int) : Int) = r := ⟨_, rfl⟩
      by_cases hn : n = (f.z : Int)
      · have e : (if n ≠ (f.z : Int) * (pieces8 false : Nat) then 1026 else 0 : Int) = 0 := by simp [pieces8, hn]
        rw [e]
        have hn2 : (n != (f.z : Int)) = false := by simpa using hn
        clear e hr hn
        go_enter Try.func32, Try.ntmps32
        go_wp2_with fail
        rw [HW.out]
        go_wp2_with fail
        refine (HO.out _).mono ?_
        rintro e w1 ⟨v, rfl, ⟨a', c', rfl, hI⟩, hb⟩
        clear hI
        have hbx := hbox.below hb
        have hlt := hbx.lt
        have n2 : ¬ w.heap.size = w1.heap.size := by omega
        obtain ⟨d0, d1, d2, d3, d4, d5⟩ := hbx.six
        have HB1 := hid (below_on HB.out hb)
        go_wp2_with fail
        obtain ⟨W1, rfl, hbW1, hbox1⟩ := fld_box w1 f.b f.z f.m f.d (.slice a' f.v.length c')
        have HB2 := hid (below_on HB1.out hbW1)
        clear d0 d1 d2 d3 d4 d5
        obtain ⟨d0, d1, d2, d3, d4, d5⟩ := (hbx.below hbW1).six
        have c0 := Wk.cell d0
        have c1 := Wk.cell d1
        have c2 := Wk.cell d2
        have c3 := Wk.cell d3
        have c4 := Wk.cell d4
        have c5 := Wk.cell d5
        obtain ⟨_, g1, _, _, _⟩ := hbox1.five
        have k1 := Wk.cell g1
        clear d0 d1 d2 d3 d4 d5 g1
        refine wp_region_wk (by kernel_rfl) (by kernel_rfl) ?_
        repeat (go_big_quiet_step ((go_at_call 48; exact Wk.call (HP.out _))))
        refine wpQuiet_nil ?_
        rintro w2 ⟨⟨_, hb2⟩, rfl⟩
        go_wp2_with fail
        go_ret
        exact ⟨rfl, below_on HB2.out hb2⟩
      · have e : (if n ≠ (f.z : Int) * (pieces8 false : Nat) then 1026 else 0 : Int) = 1026 := by simp [pieces8, hn]
        rw [e]
        have hn2 : (n != (f.z : Int)) = true := by simpa using hn
        clear e hr hn
        go_enter Try.func32, Try.ntmps32
        go_wp2_with fail
        rw [HW.out]
        go_wp2_with fail
        refine (HO.out _).mono ?_
        rintro e w1 ⟨v, rfl, ⟨a', c', rfl, hI⟩, hb⟩
        clear hI
        have hbx := hbox.below hb
        have hlt := hbx.lt
        have n2 : ¬ w.heap.size = w1.heap.size := by omega
        obtain ⟨d0, d1, d2, d3, d4, d5⟩ := hbx.six
        have HB1 := hid (below_on HB.out hb)
        go_wp2_with fail
        obtain ⟨W1, rfl, hbW1, hbox1⟩ := fld_box w1 f.b f.z f.m f.d (.slice a' f.v.length c')
        have HB2 := hid (below_on HB1.out hbW1)
        clear d0 d1 d2 d3 d4 d5
        obtain ⟨d0, d1, d2, d3, d4, d5⟩ := (hbx.below hbW1).six
        have c0 := Wk.cell d0
        have c1 := Wk.cell d1
        have c2 := Wk.cell d2
        have c3 := Wk.cell d3
        have c4 := Wk.cell d4
        have c5 := Wk.cell d5
        obtain ⟨_, g1, _, _, _⟩ := hbox1.five
        have k1 := Wk.cell g1
        clear d0 d1 d2 d3 d4 d5 g1
        refine wp_region_wk (by kernel_rfl) (by kernel_rfl) ?_
        repeat (go_big_quiet_step ((go_at_call 48; exact Wk.call (HP.out _))))
        refine wpQuiet_nil ?_
        rintro w2 ⟨⟨_, hb2⟩, rfl⟩
        go_wp2_with fail
        go_ret
        exact ⟨rfl, below_on HB2.out hb2⟩
    · have e : (if (true && !f.m) = true then 1033 else if n ≠ (f.z : Int) * (pieces8 true : Nat) then 1026 else 0 : Int) = if n ≠ (f.z : Int) * (pieces8 true : Nat) then 1026 else 0 := by simp [hfm]
      rw [e]
      clear e
      rw [hfm] at HO
      clear hfm
      replace HP := hid (fun W => (pieces8_on 32768 F X va vl vc ma ml mc W))
      obtain ⟨r, hr⟩ : ∃ r : Int, ((f.z : Int) * 2 : Int) = r := ⟨_, rfl⟩
      by_cases hn : n = (f.z : Int) * 2
      · have e : (if n ≠ (f.z : Int) * (pieces8 true : Nat) then 1026 else 0 : Int) = 0 := by simp [pieces8, hn]
        rw [e]
        have hn2 : (n != (f.z : Int) * 2) = false := by simpa using hn
        clear e hr hn
        go_enter Try.func32, Try.ntmps32
        go_wp2_with fail
        rw [HW.out]
        go_wp2_with fail
        refine (HO.out _).mono ?_
        rintro e w1 ⟨v, rfl, ⟨a', c', rfl, hI⟩, hb⟩
        clear hI
        have hbx := hbox.below hb
        have hlt := hbx.lt
        have n2 : ¬ w.heap.size = w1.heap.size := by omega
        obtain ⟨d0, d1, d2, d3, d4, d5⟩ := hbx.six
        have HB1 := hid (below_on HB.out hb)
        go_wp2_with fail
        obtain ⟨W1, rfl, hbW1, hbox1⟩ := fld_box w1 f.b f.z true f.d (.slice a' f.v.length c')
        have HB2 := hid (below_on HB1.out hbW1)
        clear d0 d1 d2 d3 d4 d5
        obtain ⟨d0, d1, d2, d3, d4, d5⟩ := (hbx.below hbW1).six
        have c0 := Wk.cell d0
        have c1 := Wk.cell d1
        have c2 := Wk.cell d2
        have c3 := Wk.cell d3
        have c4 := Wk.cell d4
        have c5 := Wk.cell d5
        obtain ⟨_, g1, _, _, _⟩ := hbox1.five
        have k1 := Wk.cell g1
        clear d0 d1 d2 d3 d4 d5 g1
        refine wp_region_wk (by kernel_rfl) (by kernel_rfl) ?_
        repeat (go_big_quiet_step ((go_at_call 48; exact Wk.call (HP.out _))))
        refine wpQuiet_nil ?_
        rintro w2 ⟨⟨_, hb2⟩, rfl⟩
        go_wp2_with fail
        go_ret
        exact ⟨rfl, below_on HB2.out hb2⟩
      · have e : (if n ≠ (f.z : Int) * (pieces8 true : Nat) then 1026 else 0 : Int) = 1026 := by simp [pieces8, hn]
        rw [e]
        have hn2 : (n != (f.z : Int) * 2) = true := by simpa using hn
        clear e hr hn
        go_enter Try.func32, Try.ntmps32
        go_wp2_with fail
        rw [HW.out]
        go_wp2_with fail
        refine (HO.out _).mono ?_
        rintro e w1 ⟨v, rfl, ⟨a', c', rfl, hI⟩, hb⟩
        clear hI
        have hbx := hbox.below hb
        have hlt := hbx.lt
        have n2 : ¬ w.heap.size = w1.heap.size := by omega
        obtain ⟨d0, d1, d2, d3, d4, d5⟩ := hbx.six
        have HB1 := hid (below_on HB.out hb)
        go_wp2_with fail
        obtain ⟨W1, rfl, hbW1, hbox1⟩ := fld_box w1 f.b f.z true f.d (.slice a' f.v.length c')
        have HB2 := hid (below_on HB1.out hbW1)
        clear d0 d1 d2 d3 d4 d5
        obtain ⟨d0, d1, d2, d3, d4, d5⟩ := (hbx.below hbW1).six
        have c0 := Wk.cell d0
        have c1 := Wk.cell d1
        have c2 := Wk.cell d2
        have c3 := Wk.cell d3
        have c4 := Wk.cell d4
        have c5 := Wk.cell d5
        obtain ⟨_, g1, _, _, _⟩ := hbox1.five
        have k1 := Wk.cell g1
        clear d0 d1 d2 d3 d4 d5 g1
        refine wp_region_wk (by kernel_rfl) (by kernel_rfl) ?_
        repeat (go_big_quiet_step ((go_at_call 48; exact Wk.call (HP.out _))))
        refine wpQuiet_nil ?_
        rintro w2 ⟨⟨_, hb2⟩, rfl⟩
        go_wp2_with fail
        go_ret
        exact ⟨rfl, below_on HB2.out hb2⟩
  · have he : headE 32768 F H n = 1031 := by simp [headE, hF]
    rw [he]
    rw [decide_eq_false hF, fld_out hF] at HO
    unfold fldV at HO
    have HO := hid HO
    clear hW hbW hF he
    go_enter Try.func32, Try.ntmps32
    go_wp2_with fail
    rw [HW.out]
    go_wp2_with fail
    refine (HO.out _).mono ?_
    rintro e w1 ⟨v, rfl, ⟨a', c', rfl, hI⟩, hb⟩
    clear hI
    go_wp2_with fail
    go_ret
    exact ⟨rfl, below_on (below_on HB.out hb) (below_alloc _ _)⟩

set_option maxRecDepth 100000 in
set_option maxHeartbeats 1000000 in
theorem wrongHead_extra (F : Int) (H : Bool) (X : Int) (va : Option Addr) (vl vc : Nat) (ma : Option Addr) (ml mc : Nat) (n : Int) (w : World) (h0 : 0 ≤ n) (h1 : n ≤ 100000) :
    Calls Try.prog 32 #[.agg #[.int .i64 65535, .int .i64 F, .bool H, .int .u64 X, .slice va vl vc, .slice ma ml mc], .int .i64 n] w fun e w' => e = .returned (.int .i64 (headE 65535 F H n)) ∧ Below w.heap.size w w' := by
  obtain ⟨W, hW, hbW, hbox⟩ := oxm_box w 65535 F H X va vl vc ma ml mc
  have HW := hid hW
  have HB := hid hbW
  obtain ⟨d0, d1, d2, d3, d4, d5⟩ := hbox.six
  clear hW hbW
  by_cases hn : n - 4 < 0
  · have e : headE 65535 F H n = 1026 := by simp [headE, hn]
    rw [e]
    clear e
    go_enter Try.func32, Try.ntmps32
    go_wp2_with fail
    rw [HW.out]
    go_wp2_with fail
    go_ret
    exact ⟨rfl, HB.out⟩
  · cases H
    · have HP := hid (fun W => pieces8_off 65535 F X va vl vc ma ml mc W)
      have e : headE 65535 F false n = if 100 < n - 4 then 1026 else 0 := by simp [headE, hn, pieces8, Int.emod_one]
      rw [e]
      clear e
      by_cases hm : 100 < n - 4
      · rw [if_pos hm]
        go_enter Try.func32, Try.ntmps32
        go_wp2_with fail
        rw [HW.out]
        go_wp2_with fail
        refine (HP.out _).mono ?_
        rintro e w1 ⟨rfl, hb1⟩
        clear d0 d1 d2 d3 d4 d5
        obtain ⟨d0, d1, d2, d3, d4, d5⟩ := (hbox.below hb1).six
        go_wp2_with fail
        refine (HP.out _).mono ?_
        rintro e w2 ⟨rfl, hb2⟩
        go_wp2_with fail
        go_ret
        exact ⟨rfl, below_on (below_on HB.out hb1) hb2⟩
      · rw [if_neg hm]
        go_enter Try.func32, Try.ntmps32
        go_wp2_with fail
        rw [HW.out]
        go_wp2_with fail
        refine (HP.out _).mono ?_
        rintro e w1 ⟨rfl, hb1⟩
        clear d0 d1 d2 d3 d4 d5
        obtain ⟨d0, d1, d2, d3, d4, d5⟩ := (hbox.below hb1).six
        go_wp2_with fail
        refine (HP.out _).mono ?_
        rintro e w2 ⟨rfl, hb2⟩
        go_wp2_with fail
        go_ret
        exact ⟨rfl, below_on (below_on HB.out hb1) hb2⟩
    · have HP := hid (fun W => pieces8_on 65535 F X va vl vc ma ml mc W)
      by_cases hr : (n - 4) % 2 = 0
      · have hr2 : ((n - 4) % 2 != 0) = false := by simpa using hr
        have e : headE 65535 F true n = if 200 < n - 4 then 1026 else 0 := by simp [headE, hn, pieces8, hr]
        rw [e]
        clear e hr
        by_cases hm : 200 < n - 4
        · rw [if_pos hm]
          go_enter Try.func32, Try.ntmps32
          go_wp2_with fail
          rw [HW.out]
          go_wp2_with fail
          refine (HP.out _).mono ?_
          rintro e w1 ⟨rfl, hb1⟩
          clear d0 d1 d2 d3 d4 d5
          obtain ⟨d0, d1, d2, d3, d4, d5⟩ := (hbox.below hb1).six
          go_wp2_with fail
          refine (HP.out _).mono ?_
          rintro e w2 ⟨rfl, hb2⟩
          go_wp2_with fail
          go_ret
          exact ⟨rfl, below_on (below_on HB.out hb1) hb2⟩
        · rw [if_neg hm]
          go_enter Try.func32, Try.ntmps32
          go_wp2_with fail
          rw [HW.out]
          go_wp2_with fail
          refine (HP.out _).mono ?_
          rintro e w1 ⟨rfl, hb1⟩
          clear d0 d1 d2 d3 d4 d5
          obtain ⟨d0, d1, d2, d3, d4, d5⟩ := (hbox.below hb1).six
          go_wp2_with fail
          refine (HP.out _).mono ?_
          rintro e w2 ⟨rfl, hb2⟩
          go_wp2_with fail
          go_ret
          exact ⟨rfl, below_on (below_on HB.out hb1) hb2⟩
      · have hr2 : ((n - 4) % 2 != 0) = true := by simpa using hr
        have e : headE 65535 F true n = 1026 := by simp [headE, pieces8, hr]
        rw [e]
        clear e hr
        go_enter Try.func32, Try.ntmps32
        go_wp2_with fail
        rw [HW.out]
        go_wp2_with fail
        refine (HP.out _).mono ?_
        rintro e w1 ⟨rfl, hb1⟩
        clear d0 d1 d2 d3 d4 d5
        obtain ⟨d0, d1, d2, d3, d4, d5⟩ := (hbox.below hb1).six
        go_wp2_with fail
        go_ret
        exact ⟨rfl, below_on HB.out hb1⟩

set_option maxRecDepth 100000 in
theorem wrongHead_none (C F : Int) (hb : (C == 32768) = false) (hx : (C == 65535) = false) (H : Bool) (X : Int) (va : Option Addr) (vl vc : Nat) (ma : Option Addr) (ml mc : Nat) (n : Int) (w : World) :
    Calls Try.prog 32 #[.agg #[.int .i64 C, .int .i64 F, .bool H, .int .u64 X, .slice va vl vc, .slice ma ml mc], .int .i64 n] w fun e w' => e = .returned (.int .i64 (headE C F H n)) ∧ Below w.heap.size w w' := by
  have e : headE C F H n = 1031 := by
    have h1 : C ≠ 32768 := by simpa using hb
    have h2 : C ≠ 65535 := by simpa using hx
    simp [headE, h1, h2]
  rw [e]
  clear e
  go_enter Try.func32, Try.ntmps32
  go_wp2
  go_ret
  exact ⟨rfl, below_alloc _ _⟩

theorem wrongHead_any (C F : Int) (H : Bool) (X : Int) (va : Option Addr) (vl vc : Nat) (ma : Option Addr) (ml mc : Nat) (n : Int) (w : World) (h0 : 0 ≤ n) (h1 : n ≤ 100000) :
    Calls Try.prog 32 #[.agg #[.int .i64 C, .int .i64 F, .bool H, .int .u64 X, .slice va vl vc, .slice ma ml mc], .int .i64 n] w fun e w' => e = .returned (.int .i64 (headE C F H n)) ∧ Below w.heap.size w w' := by
  by_cases hb : C = 32768
  · subst hb
    exact wrongHead_basic F H X va vl vc ma ml mc n w
  · by_cases hx : C = 65535
    · subst hx
      exact wrongHead_extra F H X va vl vc ma ml mc n w h0 h1
    · exact wrongHead_none C F (by simpa using hb) (by simpa using hx) H X va vl vc ma ml mc n w
end Go.Proofs.Ytfogpofgmnibcaa
