/- FieldNeeds' walk. -/
import Derived.Test.YtehgjenmcjgpnaaDoorFldJ
namespace Go.Proofs.YtehgjenmcjgpnaaDoor
open Go.RowKit

/-- what holds of each field that a field asks for -/
def AskOk (n : Int) (l : List Int) (i : Nat) : Prop := 0 ≤ l.getD i 0 ∧ l.getD i 0 < 40 ∧ l.getD i 0 < n ∧ (i = 0 → (fld (l.getD i 0)).d = -1) ∧ (0 < i → (fld (l.getD i 0)).d = l.getD (i - 1) 0)
theorem ask_ok {n : Int} (h : 0 ≤ n ∧ n < 40) : ∀ i, i < (needL n).length → AskOk n (needL n) i := by
  unfold AskOk
  rcases forty h with rfl | rfl | rfl | rfl | rfl | rfl | rfl | rfl | rfl | rfl | rfl | rfl | rfl | rfl | rfl | rfl | rfl | rfl | rfl | rfl | rfl | rfl | rfl | rfl | rfl | rfl | rfl | rfl | rfl | rfl | rfl | rfl | rfl | rfl | rfl | rfl | rfl | rfl | rfl | rfl <;> decide +kernel
theorem ask_last {n : Int} (h : 0 ≤ n ∧ n < 40) : decide (0 < (needL n).length) = decide (0 ≤ (fld n).d) ∧ (0 < (needL n).length → (needL n).getD ((needL n).length - 1) 0 = (fld n).d) ∧ (needL n).length ≤ 3 := by
  rcases forty h with rfl | rfl | rfl | rfl | rfl | rfl | rfl | rfl | rfl | rfl | rfl | rfl | rfl | rfl | rfl | rfl | rfl | rfl | rfl | rfl | rfl | rfl | rfl | rfl | rfl | rfl | rfl | rfl | rfl | rfl | rfl | rfl | rfl | rfl | rfl | rfl | rfl | rfl | rfl | rfl <;> decide +kernel
theorem vals_ok {n : Int} (h : 0 ≤ n ∧ n < 40) : ∀ i, i < (fld n).v.length → ((fld (fld n).d).z ≤ 2 ∧ 0 ≤ (fld (fld n).d).b ∧ (fld (fld n).d).b ≤ 16) ∧ 0 < (fld n).v.getD i 0 ∧ (fld n).v.getD i 0 < 2 ^ (fld (fld n).d).b.toNat := by
  rcases forty h with rfl | rfl | rfl | rfl | rfl | rfl | rfl | rfl | rfl | rfl | rfl | rfl | rfl | rfl | rfl | rfl | rfl | rfl | rfl | rfl | rfl | rfl | rfl | rfl | rfl | rfl | rfl | rfl | rfl | rfl | rfl | rfl | rfl | rfl | rfl | rfl | rfl | rfl | rfl | rfl <;> decide +kernel
theorem bits_ok {n : Int} (h : 0 ≤ n ∧ n < 40) : findN (fld n).nm = n.toNat ∧ 8 * ((fld n).z : Int) - 16 < (fld n).b ∧ (fld n).b ≤ 8 * ((fld n).z : Int) := by
  rcases forty h with rfl | rfl | rfl | rfl | rfl | rfl | rfl | rfl | rfl | rfl | rfl | rfl | rfl | rfl | rfl | rfl | rfl | rfl | rfl | rfl | rfl | rfl | rfl | rfl | rfl | rfl | rfl | rfl | rfl | rfl | rfl | rfl | rfl | rfl | rfl | rfl | rfl | rfl | rfl | rfl <;> decide +kernel

theorem shl_ok {b y : Int} (h0 : 0 ≤ b) (h1 : b ≤ 16) (h : y < 2 ^ b.toNat) : decide (IntKind.u64.wrap (2 ^ b.toNat) ≤ y) = false := by
  have e : IntKind.u64.wrap (2 ^ b.toNat) = 2 ^ b.toNat := by
    rcases (show b = 0 ∨ b = 1 ∨ b = 2 ∨ b = 3 ∨ b = 4 ∨ b = 5 ∨ b = 6 ∨ b = 7 ∨ b = 8 ∨ b = 9 ∨ b = 10 ∨ b = 11 ∨ b = 12 ∨ b = 13 ∨ b = 14 ∨ b = 15 ∨ b = 16 by omega) with rfl | rfl | rfl | rfl | rfl | rfl | rfl | rfl | rfl | rfl | rfl | rfl | rfl | rfl | rfl | rfl | rfl <;> decide
  rw [e]
  exact decide_eq_false (Int.not_le.2 h)

set_option maxRecDepth 100000 in
set_option maxHeartbeats 1000000 in
theorem FieldNeeds_out (n : Int) (h : ¬ (0 ≤ n ∧ n < 40)) (w : World) (hL : FldLaid w) :
    Calls Tryd.prog 5 #[.int .i64 n] w fun e w' => e = .returned (.bool true) ∧ Below w.heap.size w w' := by
  have HO := fldOf_any n w
  have HN := (need_any n).1
  have HM := fun W h => fldName_any n W h
  have HS := fun W => fldSettable_any n W
  have e1 : needL n = [] := by unfold needL needU; rw [if_pos (.inr h)]
  rw [fld_out h] at HO HM
  rw [decide_eq_false h] at HO
  rw [e1] at HN
  rw [decide_eq_false (show ¬ (2 < n ∧ n < 39) by omega)] at HS
  unfold fldV fldNone at HO
  have HO := hid HO
  have HN := hid HN
  have HM := hid HM
  have HS := hid HS
  have HL := hid hL
  clear h hL e1
  go_enter Tryd.func5, Tryd.ntmps5
  go_wp2_with fail
  refine HO.out.mono ?_
  rintro e w1 ⟨v, rfl, ⟨a, c, rfl, hI⟩, hb⟩
  have HB := hid (hb.alloc hb.size (.cells #[.int .i64 0, .int .i64 0, .bool false, .int .i64 0, .slice a 0 c] 25))
  clear hI hb
  go_wp2_with fail
  refine (HN.out _).mono ?_
  rintro e w2 ⟨v2, rfl, hF⟩
  obtain ⟨a2, c2, rfl, _, _, _⟩ := own_ints hF.own
  have HB2 := hid (below_on HB.out hF.bel)
  have HL2 := hid (HL.out.below HB2.out)
  clear hF HB
  go_wp2_with fail
  refine (HM.out _ HL2.out).mono ?_
  rintro e w' ⟨rfl, rfl⟩
  unfold fldNone
  go_wp2_with fail
  refine (HS.out _).mono ?_
  rintro e w' ⟨rfl, rfl⟩
  go_wp2_with fail
  refine (sure7_any _ HL2.out).mono ?_
  rintro e w3 ⟨rfl, hb3⟩
  go_wp2_with fail
  go_ret
  exact ⟨rfl, below_on HB2.out hb3⟩

set_option maxRecDepth 100000 in
set_option maxHeartbeats 2000000 in
theorem FieldNeeds_in (n : Int) (h : 0 ≤ n ∧ n < 40) (w : World) (hL : FldLaid w) :
    Calls Tryd.prog 5 #[.int .i64 n] w fun e w' => e = .returned (.bool true) ∧ Below w.heap.size w w' := by
  have HO := fldOf_any n w
  have HN := (need_any n).1
  have HM := fun W h => fldName_any n W h
  have HA := ask_ok h
  have HLast := ask_last h
  have HV := vals_ok h
  have HBits := bits_ok h
  have HDim := fld_dims h
  have hvl := fld_vals h
  have HF := fun W hl => fldFind_any (fld n).nm W hl
  have hv2 : findV (fld n).nm = .tuple #[.int .i64 n, .bool true] := by
    unfold findV findI
    rw [HBits.1, if_pos (by omega), decide_eq_true (by omega), Int.toNat_of_nonneg h.1]
  rw [hv2] at HF
  rw [decide_eq_true h] at HO
  have HOd := fun W => fldOf_any (fld n).d W
  obtain ⟨f, hf⟩ : ∃ f, fld n = f := ⟨_, rfl⟩
  obtain ⟨l, hl⟩ : ∃ l, needL n = l := ⟨_, rfl⟩
  rw [hf] at HO HM HLast HV HBits HDim hvl HF HOd
  rw [hl] at HN HA HLast
  unfold fldV at HO
  have HO := hid HO
  have HN := hid HN
  have HM := hid HM
  have HA := hid HA
  have HLast := hid HLast
  have HV := hid HV
  have HBits := hid HBits
  have HDim := hid HDim
  have hvl : (f.v.length : Int) ≤ 1000 := by omega
  have HF := hid HF
  have HOd := hid HOd
  have HL := hid hL
  clear h hL hf hl hv2
  go_enter Tryd.func5, Tryd.ntmps5
  go_wp2_with fail
  refine HO.out.mono ?_
  rintro e w1 ⟨v, rfl, ⟨a, c, rfl, hI⟩, hb⟩
  obtain ⟨WA, hWA, hbA, hB1, hIA⟩ : ∃ WA, w1.alloc (.cells #[.int .i64 f.b, .int .i64 f.z, .bool f.m, .int .i64 f.d, .slice a f.v.length c] 25) = WA ∧ Below w.heap.size w WA ∧ BoxL WA w1.heap.size [.int .i64 f.b, .int .i64 f.z, .bool f.m, .int .i64 f.d, .slice a f.v.length c] ∧ Ints .u64 WA a f.v := ⟨_, rfl, hb.alloc hb.size _, BoxL.new _ [.int .i64 f.b, .int .i64 f.z, .bool f.m, .int .i64 f.d, .slice a f.v.length c] _, hI.below (below_alloc _ _)⟩
  have HWA := hid hWA
  clear hI hb hWA
  go_wp2_with fail
  rw [HWA.out]
  refine (HN.out _).mono ?_
  rintro e w2 ⟨v2, rfl, hF⟩
  obtain ⟨a2, c2, rfl, _, _, hI2⟩ := own_ints hF.own
  have HB2 := hid (below_on hbA hF.bel)
  have K1 := hid (hB1.below hF.bel)
  have JV := hid (hIA.below hF.bel)
  have JL := hid hI2
  clear hF hI2 hIA hB1 hbA
  go_wp2_with fail
  go_loopw [6] (fun i wr => ∃ k : Nat, k ≤ l.length ∧ i = .int .i64 k ∧ Below w2.heap.size w2 wr) (fun i _ => l.length - (intOf i).toNat)
  case atStart => exact ⟨0, by omega, rfl, Below.refl _ _⟩
  case round =>
    obtain ⟨k, hk, rfl, hbr⟩ := hrel
    by_cases hlt : k < l.length
    · have hk2 : (k : Int) < (l.length : Int) := by omega
      have JLr := JL.out.below hbr
      obtain ⟨b1, o1, x, rfl, e1, g1⟩ := JLr.at hlt
      obtain ⟨q0, q1, q2, q3, q4⟩ := HA.out k hlt
      rw [getD_of g1.out] at q0 q1 q2 q3 q4
      have HX := fun W => fldOf_any x W
      rw [decide_eq_true ⟨q0, q1⟩] at HX
      obtain ⟨g, hg⟩ : ∃ g, fld x = g := ⟨_, rfl⟩
      rw [hg] at HX q3 q4
      unfold fldV at HX
      have HX := hid HX
      have HRR := hid hbr
      have hxn : decide (n ≤ x) = false := decide_eq_false (by omega)
      rcases Nat.eq_zero_or_pos k with hk0 | hk0
      · subst hk0
        have hgd : g.d = -1 := q3 rfl
        have hgn : decide (0 ≤ g.d) = false := decide_eq_false (by omega)
        have e1 : wr.cell? ⟨b1, o1, none⟩ = some (.int .i64 x) := e1
        clear hbr q0 q1 q2 q3 q4 g1 hg JLr hgd
        skip
        go_wp2_with fail
        refine (HX.out _).mono ?_
        rintro e w3 ⟨v3, rfl, ⟨a3, c3, rfl, hI3⟩, hb3⟩
        obtain ⟨WG, hWG, hbG, hBG⟩ : ∃ WG, w3.alloc (.cells #[.int .i64 g.b, .int .i64 g.z, .bool g.m, .int .i64 g.d, .slice a3 g.v.length c3] 25) = WG ∧ Below wr.heap.size wr WG ∧ BoxL WG w3.heap.size [.int .i64 g.b, .int .i64 g.z, .bool g.m, .int .i64 g.d, .slice a3 g.v.length c3] := ⟨_, rfl, hb3.alloc hb3.size _, BoxL.new _ [.int .i64 g.b, .int .i64 g.z, .bool g.m, .int .i64 g.d, .slice a3 g.v.length c3] _⟩
        obtain ⟨x0, x1, x2, x3, x4⟩ := hBG.five
        have x3 := Wk.cell x3
        have e1 := Wk.cell (cell_keep e1 hbG)
        have HWG := hid hWG
        have HBG := hid hbG
        clear hI3 hb3 hWG hbG hBG x0 x1 x2 x4
        go_upto_region 9 with fail
        rw [HWG.out]
        refine wp_region_wk (by kernel_rfl) (by kernel_rfl) ?_
        repeat (go_big_quiet_step (fail))
        refine wpQuiet_nil ?_
        rintro w6 ⟨⟨_, hb6⟩, rfl⟩
        go_wp2
        go_roundw
        case rel => exact ⟨1, by omega, by go_num, below_on (below_on HRR.out HBG.out) hb6⟩
        case measure => simp [intOf]; omega
      · obtain ⟨j, rfl⟩ : ∃ j, k = j + 1 := ⟨k - 1, by omega⟩
        have hlt2 : j < l.length := by omega
        obtain ⟨b1', o1', y, he, e2, g2⟩ := JLr.at hlt2
        simp at he
        obtain ⟨rfl, rfl⟩ := he
        have q5 := q4 (by omega)
        rw [show j + 1 - 1 = j by omega, getD_of g2.out] at q5
        have hj1 : decide ((0 : Int) < (j : Int) + 1) = true := decide_eq_true (by omega)
        have hj0 : (((j : Int) + 1) == 0) = false := by simp; omega
        have hjm : (j : Int) + 1 - 1 = (j : Int) := by omega
        have hne : (g.d != y) = false := by simp [q5]
        clear hbr q0 q1 q2 q3 q4 q5 g1 g2 hg JLr hk0
        skip
        go_wp2_with fail
        refine (HX.out _).mono ?_
        rintro e w3 ⟨v3, rfl, ⟨a3, c3, rfl, hI3⟩, hb3⟩
        obtain ⟨WG, hWG, hbG, hBG⟩ : ∃ WG, w3.alloc (.cells #[.int .i64 g.b, .int .i64 g.z, .bool g.m, .int .i64 g.d, .slice a3 g.v.length c3] 25) = WG ∧ Below wr.heap.size wr WG ∧ BoxL WG w3.heap.size [.int .i64 g.b, .int .i64 g.z, .bool g.m, .int .i64 g.d, .slice a3 g.v.length c3] := ⟨_, rfl, hb3.alloc hb3.size _, BoxL.new _ [.int .i64 g.b, .int .i64 g.z, .bool g.m, .int .i64 g.d, .slice a3 g.v.length c3] _⟩
        obtain ⟨x0, x1, x2, x3, x4⟩ := hBG.five
        have x3 := Wk.cell x3
        have e1 := Wk.cell (cell_keep e1 hbG)
        have e2 := Wk.cell (cell_keep e2 hbG)
        have HWG := hid hWG
        have HBG := hid hbG
        clear hI3 hb3 hWG hbG hBG x0 x1 x2 x4
        go_upto_region 9 with fail
        rw [HWG.out]
        refine wp_region_wk (by kernel_rfl) (by kernel_rfl) ?_
        repeat (go_big_quiet_step (fail))
        refine wpQuiet_nil ?_
        rintro w6 ⟨⟨_, hb6⟩, rfl⟩
        go_wp2
        go_roundw
        case rel => exact ⟨j + 1 + 1, by omega, by go_num, below_on (below_on HRR.out HBG.out) hb6⟩
        case measure => simp [intOf]; omega
    · obtain rfl : k = l.length := by omega
      obtain ⟨z0, z1, z2⟩ := HLast.out
      have HRR := hid hbr
      obtain ⟨x0, x1, x2, x3, x4⟩ := (K1.out.below hbr).five
      have x3 := Wk.cell x3
      have hp3 : decide ((3 : Int) < (l.length : Int)) = false := decide_eq_false (by omega)
      rcases Nat.eq_zero_or_pos l.length with hl0 | hl0
      case' inl =>
        have hp1 : decide ((0 : Int) < (l.length : Int)) = false := decide_eq_false (by omega)
        have hp2 : decide (0 ≤ f.d) = false := by rw [← z0]; exact decide_eq_false (by omega)
        clear hbr x0 x1 x2 x4 z0 z1 z2 hl0 hk hlt
      case' inr =>
        have hp1 : decide ((0 : Int) < (l.length : Int)) = true := decide_eq_true (by omega)
        have hp2 : decide (0 ≤ f.d) = true := by rw [← z0]; exact decide_eq_true (by omega)
        obtain ⟨m, hm⟩ : ∃ m, l.length - 1 = m := ⟨_, rfl⟩
        have hmi : (l.length : Int) - 1 = (m : Int) := by omega
        have hml : (m : Int) < (l.length : Int) := by omega
        obtain ⟨b1, o1, x, rfl, e1, g1⟩ := (JL.out.below hbr).at (show m < l.length by omega)
        have hx := z1 hl0
        rw [hm, getD_of g1.out] at hx
        subst hx
        have e1 := Wk.cell e1
        clear hbr x0 x1 x2 x4 z0 z1 z2 hl0 hk hlt hm g1
      all_goals
        go_upto_region 11 with fail
        refine wp_region_wk (by kernel_rfl) (by kernel_rfl) ?_
        repeat (go_big_quiet_step (fail))
        refine wpQuiet_nil ?_
        rintro w6 ⟨⟨_, hb6⟩, rfl⟩
        have HB6 := hid (below_on HRR.out hb6)
        clear hb6 HRR x3
        go_wp2_with fail
        go_loopw [9] (fun i wx => ∃ k : Nat, k ≤ f.v.length ∧ i = .int .i64 k ∧ Below w2.heap.size w2 wx) (fun i _ => f.v.length - (intOf i).toNat)
        case atStart => exact ⟨0, by omega, rfl, HB6.out⟩
        case round =>
          obtain ⟨j, hj, rfl, hbx⟩ := hrel
          obtain ⟨x0, x1, x2, x3, x4⟩ := (K1.out.below hbx).five
          by_cases hjt : j < f.v.length
          · have hj2 : (j : Int) < (f.v.length : Int) := by omega
            obtain ⟨b2, o2, y, hae, e2, g2⟩ := (JV.out.below hbx).at hjt
            subst hae
            obtain ⟨⟨s0, s1, s2⟩, s3, s4⟩ := HV.out j hjt
            rw [getD_of g2.out] at s3 s4
            have HX := HOd.out
            obtain ⟨g, hg⟩ : ∃ g, fld f.d = g := ⟨_, rfl⟩
            rw [hg] at HX s0 s1 s2 s4
            unfold fldV at HX
            have HX := hid HX
            have HRX := hid hbx
            have t1 : decide ((2 : Int) < (g.z : Int)) = false := decide_eq_false (by omega)
            have t2 : (y == 0) = false := by simp; omega
            have t3 := shl_ok s1 s2 s4
            clear hbx s0 s3 s4 g2 hg hjt
            go_wp2_with fail
            refine (HX.out _).mono ?_
            rintro e w7 ⟨v3, rfl, ⟨a3, c3, rfl, hI3⟩, hb7⟩
            obtain ⟨WG, hWG, hbG, hBG⟩ : ∃ WG, w7.alloc (.cells #[.int .i64 g.b, .int .i64 g.z, .bool g.m, .int .i64 g.d, .slice a3 g.v.length c3] 25) = WG ∧ Below wr.heap.size wr WG ∧ BoxL WG w7.heap.size [.int .i64 g.b, .int .i64 g.z, .bool g.m, .int .i64 g.d, .slice a3 g.v.length c3] := ⟨_, rfl, hb7.alloc hb7.size _, BoxL.new _ [.int .i64 g.b, .int .i64 g.z, .bool g.m, .int .i64 g.d, .slice a3 g.v.length c3] _⟩
            obtain ⟨y0, y1, y2, y3, y4⟩ := hBG.five
            have y0 := Wk.cell y0
            have y1 := Wk.cell y1
            have x4 := Wk.cell (cell_keep x4 hbG)
            have e2 := Wk.cell (cell_keep e2 hbG)
            have HWG := hid hWG
            have HBG := hid hbG
            clear hI3 hb7 hWG hbG hBG x0 x1 x2 x3 y2 y3 y4
            go_upto_region 17 with fail
            rw [HWG.out]
            refine wp_region_wk (by kernel_rfl) (by kernel_rfl) ?_
            repeat (go_big_quiet_step (fail))
            refine wpQuiet_nil ?_
            rintro w8 ⟨⟨_, hb8⟩, rfl⟩
            go_wp2
            go_roundw
            case rel => exact ⟨j + 1, by omega, by go_num, below_on (below_on HRX.out HBG.out) hb8⟩
            case measure => simp [intOf]; omega
          · obtain rfl : j = f.v.length := by omega
            obtain ⟨_, m1, m2⟩ := HBits.out
            obtain ⟨m3, _, _, m4⟩ := HDim.out
            have m5 : (f.z : Int) ≤ 16 := by omega
            have HRX := hid (below_on HB2.out hbx)
            have HLX := hid (HL.out.below HRX.out)
            clear hbx m4 x2 x3
            go_wp2_with fail
            refine (HM.out _ HLX.out).mono ?_
            rintro e w' ⟨rfl, rfl⟩
            go_wp2_with fail
            refine (HF.out _ HLX.out).mono ?_
            rintro e w' ⟨rfl, rfl⟩
            go_wp2_with fail
            refine (sure7_any _ HLX.out).mono ?_
            rintro e w9 ⟨rfl, hb9⟩
            go_wp2_with fail
            go_ret
            exact ⟨rfl, below_on HRX.out hb9⟩

theorem FieldNeeds_walk (n : Int) (w : World) (hL : FldLaid w) :
    Calls Tryd.prog 5 #[.int .i64 n] w fun e w' => e = .returned (.bool true) ∧ Below w.heap.size w w' := by
  by_cases h : 0 ≤ n ∧ n < 40
  · exact FieldNeeds_in n h w hL
  · exact FieldNeeds_out n h w hL
end Go.Proofs.YtehgjenmcjgpnaaDoor
