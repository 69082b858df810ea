/- FieldFits' walk, FieldTells' walk. -/
import Derived.Test.YtehgjenmcjgpnaaDoorFldI
namespace Go.Proofs.YtehgjenmcjgpnaaDoor
open Go.RowKit

set_option maxRecDepth 100000 in
set_option maxHeartbeats 1000000 in
theorem FieldFits_walk (n : Int) (l : List Int) (a : Option Addr) (c : Nat) (ho : Octets l) (w : World) (hL : FldLaid w) (hI : Ints .u8 w a l) :
    Calls Tryd.prog 4 #[.int .i64 n, .slice a l.length c] w fun e w' => e = .returned (.bool true) ∧ Below w.heap.size w w' := by
  have H1 := hid (fldFits_any n l a c w hI)
  have H2 := hid (fun W h => fldRefFits_any n l a c ho W h)
  obtain ⟨v, hv⟩ : ∃ v, fitsB n l = v := ⟨_, rfl⟩
  rw [hv] at H1 H2
  have HI := hid hI
  have HL := hid hL
  clear hv hI hL ho
  by_cases h : 200 < l.length
  · have h2 : (200 : Int) < (l.length : Int) := by omega
    clear h
    go_enter Tryd.func4, Tryd.ntmps4
    go_wp2_with fail
    refine (sure7_any _ HL.out).mono ?_
    rintro e w1 ⟨rfl, hb⟩
    go_wp2_with fail
    go_ret
    exact ⟨rfl, hb⟩
  · have h2 : ¬ (200 : Int) < (l.length : Int) := by omega
    clear h
    go_enter Tryd.func4, Tryd.ntmps4
    go_wp2_with fail
    refine H1.out.mono ?_
    rintro e w1 ⟨rfl, hb1⟩
    go_wp2_with fail
    refine (H2.out _ (HI.out.below hb1)).mono ?_
    rintro e w2 ⟨rfl, hb2⟩
    have hb3 := below_on hb1 hb2
    clear hb1 hb2
    go_wp2_with fail
    refine (sure7_any _ (HL.out.below hb3)).mono ?_
    rintro e w3 ⟨rfl, hb4⟩
    go_wp2_with fail
    go_ret
    exact ⟨rfl, below_on hb3 hb4⟩

theorem needL_length (n : Int) : (needL n).length ≤ 4 := needU_length 4 n

set_option maxRecDepth 100000 in
set_option maxHeartbeats 2000000 in
theorem FieldTells_walk (n : Int) (s : ByteArray) (w : World) (hL : FldLaid w) :
    Calls Tryd.prog 3 #[.int .i64 n, .string s] w fun e w' => e = .returned (.bool true) ∧ Below w.heap.size w w' := by
  have HL := hid hL
  clear hL
  by_cases h : 100 < s.size
  · have h2 : (100 : Int) < (s.size : Int) := by omega
    clear h
    go_enter Tryd.func3, Tryd.ntmps3
    go_wp2_with fail
    refine (sure7_any _ HL.out).mono ?_
    rintro e w1 ⟨rfl, hb⟩
    go_wp2_with fail
    go_ret
    exact ⟨rfl, hb⟩
  · have h2 : ¬ (100 : Int) < (s.size : Int) := by omega
    have HO := fun W => fldOf_any n W
    have HR := fun W => refOf_any n W
    have HF := fun W h => fldFind_any s W h
    have HG := fun W => fldRefFind_any s W
    have HN := hid (need_any n)
    have HM := fun W h => fldName_any n W h
    have HS := fun W => fldSettable_any n W
    have HT := fun W => fldRefSettable_any n W
    have hnl := needL_length n
    have hfv : (fld n).v.length ≤ 1000 := by
      by_cases hin : 0 ≤ n ∧ n < 40
      · exact fld_vals hin
      · rw [fld_out hin]; decide
    obtain ⟨f, hf⟩ : ∃ f, fld n = f := ⟨_, rfl⟩
    obtain ⟨k, hk⟩ : ∃ k, decide (0 ≤ n ∧ n < 40) = k := ⟨_, rfl⟩
    obtain ⟨i, hi⟩ : ∃ i, findI s = i := ⟨_, rfl⟩
    obtain ⟨g, hg⟩ : ∃ g, decide (findN s < 40) = g := ⟨_, rfl⟩
    obtain ⟨q, hq⟩ : ∃ q, decide (2 < n ∧ n < 39) = q := ⟨_, rfl⟩
    obtain ⟨l, hl⟩ : ∃ l, needL n = l := ⟨_, rfl⟩
    unfold findV at HF HG
    rw [hf, hk] at HO HR
    rw [hi, hg] at HF HG
    rw [hq] at HS HT
    rw [hf] at HM hfv
    rw [hl] at HN hnl
    have HSM := hid (fun v1 v2 W h1 h2 => fldSame_any f v1 v2 hfv W h1 h2)
    have HO := hid HO
    have HR := hid HR
    have HF := hid HF
    have HG := hid HG
    have HM := hid HM
    have HS := hid HS
    have HT := hid HT
    clear h hf hk hi hg hq hl hfv
    go_enter Tryd.func3, Tryd.ntmps3
    go_wp2_with fail
    refine (HO.out _).mono ?_
    rintro e w1 ⟨v1, rfl, hv1, hb1⟩
    obtain ⟨a1, c1, rfl, hI1⟩ := hv1
    unfold fldV
    obtain ⟨WA, hWA, hbA, hB1⟩ : ∃ WA, w1.alloc (.cells #[.int .i64 f.b, .int .i64 f.z, .bool f.m, .int .i64 f.d, .slice a1 f.v.length c1] 25) = WA ∧ Below w.heap.size w WA ∧ BoxL WA w1.heap.size [.int .i64 f.b, .int .i64 f.z, .bool f.m, .int .i64 f.d, .slice a1 f.v.length c1] := ⟨_, rfl, hb1.alloc hb1.size _, BoxL.new _ [.int .i64 f.b, .int .i64 f.z, .bool f.m, .int .i64 f.d, .slice a1 f.v.length c1] _⟩
    have JA := hid (hI1.below (by rw [← hWA]; exact below_alloc w1 _ : Below w1.heap.size w1 WA))
    have HWA := hid hWA
    have HBA := hid hbA
    have HB1 := hid hB1
    clear hI1 hb1 hWA hbA hB1
    go_wp2_with fail
    rw [HWA.out]
    refine (HR.out _).mono ?_
    rintro e w2 ⟨v2, rfl, hv2, hb2⟩
    obtain ⟨a2, c2, rfl, hI2⟩ := hv2
    unfold refFldV
    obtain ⟨WB, hWB, hbB, hB2⟩ : ∃ WB, w2.alloc (.cells #[.string f.nm, .int .i64 f.b, .int .i64 f.z, .bool f.m, .int .i64 f.d, .slice a2 f.v.length c2] 29) = WB ∧ Below WA.heap.size WA WB ∧ BoxL WB w2.heap.size [.string f.nm, .int .i64 f.b, .int .i64 f.z, .bool f.m, .int .i64 f.d, .slice a2 f.v.length c2] := ⟨_, rfl, hb2.alloc hb2.size _, BoxL.new _ [.string f.nm, .int .i64 f.b, .int .i64 f.z, .bool f.m, .int .i64 f.d, .slice a2 f.v.length c2] _⟩
    have JB := hid (hI2.below (by rw [← hWB]; exact below_alloc w2 _ : Below w2.heap.size w2 WB))
    have HWB := hid hWB
    have JA2 := hid (JA.out.below hbB)
    have HBB := hid (below_on HBA.out hbB)
    have HB1 := hid (HB1.out.below hbB)
    have HB2 := hid hB2
    clear hI2 hb2 hWB hbB hB2 JA
    go_wp2_with fail
    rw [HWB.out]
    refine (HF.out _ (HL.out.below HBB.out)).mono ?_
    rintro e w' ⟨rfl, rfl⟩
    go_wp2_with fail
    refine (HG.out _).mono ?_
    rintro e w3 ⟨rfl, hb3⟩
    go_wp2_with fail
    refine (HN.out.1 _).mono ?_
    rintro e w4 ⟨v4, rfl, hF4⟩
    obtain ⟨a4, c4, rfl, _, _, hI4⟩ := own_ints hF4.own
    have hb4 := hF4.bel
    clear hF4
    go_wp2_with fail
    refine (HN.out.2 _).mono ?_
    rintro e w5 ⟨v5, rfl, hF5⟩
    obtain ⟨a5, c5, rfl, _, _, hI5⟩ := own_ints hF5.own
    have hb5 := hF5.bel
    have J4 := hid (hI4.below hb5)
    have J5 := hid hI5
    have hb35 := below_on (below_on hb3 hb4) hb5
    have HB5 := hid (below_on HBB.out hb35)
    have JA5 := hid (JA2.out.below hb35)
    have JB5 := hid (JB.out.below hb35)
    have K1 := hid (HB1.out.below hb35)
    have K2 := hid (HB2.out.below hb35)
    clear hF5 hI4 hI5 hb3 hb4 hb5 hb35 HBB HBA JA2 JB HB1 HB2
    go_wp2_with fail
    go_loopw [15] (fun i wr => ∃ k : Nat, k ≤ l.length ∧ i = .int .i64 k ∧ Below w5.heap.size w5 wr) (fun i _ => l.length - (intOf i).toNat)
    case atStart => exact ⟨0, by omega, rfl, Below.refl _ _⟩
    case round =>
      obtain ⟨j, hj, rfl, hbr⟩ := hrel
      by_cases hlt : j < l.length
      · have hk2 : (j : Int) < (l.length : Int) := by omega
        obtain ⟨b1, o1, p, rfl, e1, g1⟩ := (J4.out.below hbr).at hlt
        obtain ⟨b2, o2, q', rfl, e2, g2⟩ := (J5.out.below hbr).at hlt
        obtain rfl : p = q' := by
          have h1 := g1.out
          have h2 := g2.out
          rw [h1] at h2
          simpa using h2
        have e1 := Wk.cell e1
        have e2 := Wk.cell e2
        have HRR := hid hbr
        clear g1 g2 hbr
        go_upto_region 13 with fail
        refine wp_region_wk (by kernel_rfl) (by kernel_rfl) ?_
        repeat (go_big_quiet_step (fail))
        refine wpQuiet_nil ?_
        rintro w6 ⟨⟨_, hb6⟩, rfl⟩
        go_wp2
        go_roundw
        case rel => exact ⟨j + 1, by omega, by go_num, below_on HRR.out hb6⟩
        case measure => simp [intOf]; omega
      · obtain rfl : j = l.length := by omega
        have HRR := hid hbr
        have HBr := hid (below_on HB5.out hbr)
        have HLr := hid (HL.out.below HBr.out)
        obtain ⟨x0, x1, x2, x3, x4⟩ := (K1.out.below hbr).five
        obtain ⟨y0, y1, y2, y3, y4, y5⟩ := (K2.out.below hbr).six
        have x0 := Wk.cell x0
        have x1 := Wk.cell x1
        have x2 := Wk.cell x2
        have x3 := Wk.cell x3
        have x4 := Wk.cell x4
        have y0 := Wk.cell y0
        have y1 := Wk.cell y1
        have y2 := Wk.cell y2
        have y3 := Wk.cell y3
        have y4 := Wk.cell y4
        have y5 := Wk.cell y5
        have HSMr : Hid (∀ W, Below wr.heap.size wr W → Calls Tryd.prog 13 #[.agg #[.int .i64 f.b, .int .i64 f.z, .bool f.m, .int .i64 f.d, .slice a1 f.v.length c1], .agg #[.string f.nm, .int .i64 f.b, .int .i64 f.z, .bool f.m, .int .i64 f.d, .slice a2 f.v.length c2]] W fun e w' => e = .returned (.bool true) ∧ Below W.heap.size W w') :=
          fun W hW => HSM.out _ _ W ⟨_, _, rfl, (JA5.out.below hbr).below hW⟩ ⟨_, _, rfl, (JB5.out.below hbr).below hW⟩
        clear hbr
        go_upto_region 15 with fail
        refine wp_region_wk (by kernel_rfl) (by kernel_rfl) ?_
        repeat (go_big_quiet_step ((first
          | (go_at_call 13; exact Wk.call (HSMr.out _ (Wk.bel _)))
          | (go_at_call 14; exact Wk.same ((HM.out _ (HLr.out.below (Wk.bel _))).mono fun _ _ h => ⟨h.1, h.2.symm⟩))
          | (go_at_call 15; exact Wk.same ((HS.out _).mono fun _ _ h => ⟨h.1, h.2.symm⟩))
          | (go_at_call 16; exact Wk.call (HT.out _))
          | (go_at_call 6; exact Wk.call (sure7_any _ (HLr.out.below (Wk.bel _)))))))
        refine wpQuiet_nil ?_
        rintro w6 ⟨⟨_, hb6⟩, rfl⟩
        go_wp2
        go_ret
        exact ⟨rfl, below_on HBr.out hb6⟩
end Go.Proofs.YtehgjenmcjgpnaaDoor
