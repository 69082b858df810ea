/- Package cover: either, whole. -/
import Derived.Test.YtpmkfkanolhocaaGreatCovP
namespace Go.Proofs.YtpmkfkanolhocaaGreat
open Go.RowKit
set_option linter.unusedVariables false
set_option maxRecDepth 100000

/-- bytes in new memory -/
def BytesNew (l : List Int) (N : Nat) (w : World) (e : Ending) (w' : World) : Prop :=
  ∃ p, e = .returned (.slice (some ⟨p, 0, none⟩) N N) ∧ Ints .u8 w' (some ⟨p, 0, none⟩) l ∧ Below w.heap.size w w' ∧ w.heap.size ≤ p ∧ p < w'.heap.size
def orF (xs ys : List Int) (i : Nat) : Int := bits BinOp.or IntKind.u8 (xs.getD i 0) (ys.getD i 0)
theorem orF_all (xs ys : List Int) (N : Nat) : upto11 (orF xs ys) N N = orL xs ys N := upto_all _ _
set_option maxHeartbeats 2000000 in
theorem either_any (xs ys : List Int) (N : Nat) (a b : Option Addr) (c d : Nat) (w : World) (hx : xs.length = N) (hy : ys.length = N) (hN : N ≤ 1000) (ix : Ints .u8 w a xs) (iy : Ints .u8 w b ys) :
    Calls Tryz.prog 60 #[.slice a N c, .slice b N d] w (BytesNew (orL xs ys N) N w) := by
  have IX := hid ix
  have IY := hid iy
  have HX := hid hx
  have HY := hid hy
  clear ix iy hx hy
  go_enter Tryz.func60, Tryz.ntmps60
  go_wp2_with (first | (at_make; refine wp_make rfl _ _ rfl elemU8 rfl rfl rfl rfl (Nat.le_refl _) (by omega) (by omega) ?_; intro w1 hf) | fail)
  have hbx := fresh_box hf
  have hb1 := hf.bel
  clear hf
  go_loopg [12] N (fun kx s12 wr => ∃ i : Nat, s12 = .int .i64 i ∧ i ≤ N ∧ N - i ≤ kx ∧ Hid (BoxL wr w.heap.size ((upto11 (orF xs ys) N i).map (Value.int .u8))) ∧ Hid (Below w.heap.size w wr))
  case atStart => exact ⟨0, rfl, by omega, by omega, (by show BoxL _ _ _; rw [upto_zero]; simpa using hbx), hb1⟩
  case round =>
    obtain ⟨i, rfl, hi, hkx, hB, hb⟩ := hrel
    by_cases hlt : i < N
    · have hltz : (i : Int) < (N : Int) := by omega
      have hBD := hB.out.drew
      obtain ⟨b1, o1, q1, rfl, e1, g1⟩ := (((IX.out.below hb.out).below (below_drew8 wr))).at (show i < xs.length by rw [HX.out]; exact hlt)
      obtain ⟨b2, o2, q2, rfl, e2, g2⟩ := (((IY.out.below hb.out).below (below_drew8 wr))).at (show i < ys.length by rw [HY.out]; exact hlt)
      have y0 := hBD.cell i (.int .u8 ((upto11 (orF xs ys) N i)[i]'(by rw [upto_length]; exact hlt))) (by rw [List.getElem?_map, List.getElem?_eq_getElem (by rw [upto_length]; exact hlt)]; rfl)
      have y1 := hBD.free
      have HF : Hid (orF xs ys i = bits BinOp.or IntKind.u8 q1 q2) := by
        show _ = _
        unfold orF
        rw [getD_of g1.out, getD_of g2.out]
      have HST : Hid (BoxL (wr.drew.setCell ⟨w.heap.size, i, none⟩ (.int .u8 (bits BinOp.or IntKind.u8 q1 q2))) w.heap.size ((upto11 (orF xs ys) N (i + 1)).map (Value.int .u8))) := by
        show BoxL _ _ _
        rw [← upto_set _ hlt, HF.out]
        exact hBD.set i _ (by rw [List.length_map, upto_length]; exact hlt)
      have HBL : Hid (Below w.heap.size w (wr.drew.setCell ⟨w.heap.size, i, none⟩ (.int .u8 (bits BinOp.or IntKind.u8 q1 q2)))) := (below_dr9 hb.out).setCell (Nat.le_refl _) _
      generalize (upto11 (orF xs ys) N i)[i]'(by rw [upto_length]; exact hlt) = q at y0
      clear g1 g2 hBD
      go_upto_region 5 with fail
      go_region
      all_goals
        go_wp2_with fail
        go_roundg (N - (i + 1))
        case measure => omega
        case rel => exact ⟨i + 1, by first | rfl | go_num, by omega, Nat.le_refl _, HST, HBL⟩
    · have hltz : ¬ (i : Int) < (N : Int) := by omega
      obtain rfl : i = N := by omega
      go_wp2_with fail
      go_ret
      refine ⟨w.heap.size, rfl, ?_, hb.out, Nat.le_refl _, hB.out.lt⟩
      rw [← orF_all]
      exact box_ints hB.out

/-- all bits that count are ones: as the program counts them -/
theorem full_is {a b : Ox9} (ha : OkV a) (hb : OkV b) (hal : alike9 a b = true) (hl : a.v.length = b.v.length) (h1 : a.H = true) (h2 : b.H = true) :
    full11 a b = decide ((pops (orL (mask11 a) (mask11 b) a.v.length) : Int) = if a.C = 32768 then (fld a.F).b else 8 * (a.v.length : Int)) := by
  have hln := orL_length (mask11 a) (mask11 b) a.v.length
  have hnb := alike_nb hal hl
  have key : full11 a b = decide (pops (orL (mask11 a) (mask11 b) a.v.length) = nbits11 a) := by
    unfold full11
    refine ones_pops (by rw [hln]; exact ha.nb) fun k hk hk8 => ?_
    rw [hln] at hk8
    have hbit := orL_bit (a := mask11 a) (b := mask11 b) (n := a.v.length) ha.ml (by rw [hb.ml, hl]) ha.mo hb.mo hk8
    unfold bit11 at hbit
    rw [hbit]
    by_cases hC : a.C = 32768
    · have e1 := (ha.above hC hk8 hk).2 h1
      have hC2 : b.C = 32768 := by rw [← ((alike_iff9 a b).1 hal).1]; exact hC
      have e2 := (hb.above hC2 (by rw [← hl]; exact hk8) (by rw [← hnb]; exact hk)).2 h2
      show (mb a k || mb b k) = false
      rw [e1, e2]; rfl
    · rw [nb_extra hC] at hk; omega
  rw [key, Bool.eq_iff_iff, decide_eq_true_iff, decide_eq_true_iff]
  unfold nbits11
  by_cases hC : a.C = 32768
  · rw [if_pos hC, if_pos hC]
    rcases ha.parts with ⟨_, hf, _⟩ | ⟨hc, _⟩
    · have := (fits_above hf ha.ov).2.2.2.1
      omega
    · rw [hC] at hc; cases hc
  · rw [if_neg hC, if_neg hC]
    omega
set_option maxHeartbeats 2000000 in
theorem whole_any (C F : Int) (H : Bool) (X : Int) (va : Option Addr) (vl vc : Nat) (ma : Option Addr) (ml mc : Nat) (M : List Int) (N : Nat) (a : Option Addr) (c : Nat) (w : World) (hM : M.length = N) (hN : N ≤ 1000) (oM : Octets M) (iM : Ints .u8 w a M) :
    Calls Tryz.prog 62 #[.agg #[.int .i64 C, .int .i64 F, .bool H, .int .u64 X, .slice va vl vc, .slice ma ml mc], .slice a N c] w fun e w' => e = .returned (.bool (decide ((pops M : Int) = if C = 32768 then (fld F).b else 8 * (N : Int)))) ∧ Below w.heap.size w w' := by
  obtain ⟨W, hW, hbW, hx⟩ := oxm_box w C F H X va vl vc ma ml mc
  have HW := hid hW
  have HB := hid hbW
  have IM := hid (iM.below hbW)
  have HL := hid hM
  have OM := hid oM
  obtain ⟨d0, d1, d2, d3, d4, d5⟩ := hx.six
  have HX := hid hx
  obtain ⟨wd, hwd⟩ : ∃ wd : Int, (if C = 32768 then (fld F).b else 8 * (N : Int)) = wd := ⟨_, rfl⟩
  rw [hwd]
  have HWD := hid hwd
  have HF := fldOf_any F W
  obtain ⟨⟨nm, fb, fz', fm, fd, fv⟩, hf⟩ : ∃ f, fld F = f := ⟨_, rfl⟩
  rw [hf] at HF
  unfold fldV at HF
  simp only at HF
  have HFF := hid HF
  have HZ := hid hf
  clear hW hbW hx iM hM oM hwd HF hf
  have h8 : IntKind.i64.wrap ((8 : Int) * (N : Int)) = 8 * (N : Int) := by simp [IntKind.wrap, IntKind.bits, IntKind.signed]; omega
  by_cases hC : C = 32768
  · subst hC
    have hc1 : ((32768 : Int) == 32768) = true := rfl
    go_enter Tryz.func62, Tryz.ntmps62
    go_upto_region 1 with fail
    rw [HW.out]
    go_wp2_with fail
    refine HFF.out.mono ?_
    rintro e w1 ⟨v1, rfl, hU, hb1⟩
    obtain ⟨a1, c1, rfl, _⟩ := hU
    obtain ⟨W2, hW2, hbW2, hbox⟩ := fld_box9 w1 fb fz' fm fd (.slice a1 fv.length c1)
    have HW2 := hid hW2
    obtain ⟨k0, k1, k2, k3, k4⟩ := hbox.five
    have HB2 := hid (below_on (below_on HB.out hb1) hbW2)
    have IMW := hid ((IM.out.below hb1).below hbW2)
    have hw2 : wd = fb := by
      have h1 := HWD.out
      simp only [if_true, HZ.out] at h1
      exact h1.symm
    subst hw2
    clear hW2 hbox hb1 hbW2 h8 HWD HZ
    go_upto_region 4 with fail
    rw [HW2.out]
    go_wp2_with fail
    go_loop [8, 27] (fun s i => ∃ k : Nat, k ≤ N ∧ i = .int .i64 k ∧ s = .int .i64 ((pops (M.take k) : Nat) : Int)) (fun _ i => N - (intOf i).toNat)
    case atStart => exact ⟨0, Nat.zero_le _, rfl, rfl⟩
    case round =>
      obtain ⟨k, hk, rfl, rfl⟩ := hrel
      by_cases hlt : k < N
      · obtain ⟨b, off, x, rfl, hcell, hx⟩ := IMW.out.at (show k < M.length by rw [HL.out]; exact hlt)
        obtain ⟨x1, x2⟩ := OM.out.get hx.out
        have hs := hid (pops_snoc hx.out)
        have h8 := popB_le x
        have hq1 := pops_le (M.take k)
        rw [List.length_take] at hq1
        have hq2 : pops (M.take k) ≤ 8000 := by omega
        clear hq1 hx
        go_wp2_with (go_at_call 81; refine (ones8_any x x1 x2 _).mono ?_; rintro e w' ⟨rfl, rfl⟩)
        go_round
        case rel => exact ⟨k + 1, by omega, by go_num, by rw [hs.out]; simp⟩
        case measure => simp [intOf]; omega
      · have e : pops (M.take k) = pops M := by rw [List.take_of_length_le (by rw [HL.out]; omega)]
        rw [e]
        clear e hk
        obtain ⟨q, hq⟩ : ∃ q, pops M = q := ⟨_, rfl⟩
        rw [hq]
        have HQ := hid hq
        have hlt2 : ¬ (k : Int) < (N : Int) := by omega
        clear hq hlt
        go_wp2_with fail
        go_ret
        exact ⟨ret_bool (by rw [HQ.out, Bool.eq_iff_iff]; simp), HB2.out⟩
  · have hc1 : (C == 32768) = false := by simpa using hC
    have hw2 : wd = 8 * (N : Int) := by rw [← HWD.out, if_neg hC]
    subst hw2
    have IMW := IM
    clear HWD HZ HFF hC
    go_enter Tryz.func62, Tryz.ntmps62
    go_upto_region 1 with fail
    rw [HW.out]
    go_wp2_with fail
    go_loop [8, 27] (fun s i => ∃ k : Nat, k ≤ N ∧ i = .int .i64 k ∧ s = .int .i64 ((pops (M.take k) : Nat) : Int)) (fun _ i => N - (intOf i).toNat)
    case atStart => exact ⟨0, Nat.zero_le _, rfl, rfl⟩
    case round =>
      obtain ⟨k, hk, rfl, rfl⟩ := hrel
      by_cases hlt : k < N
      · obtain ⟨b, off, x, rfl, hcell, hx⟩ := IMW.out.at (show k < M.length by rw [HL.out]; exact hlt)
        obtain ⟨x1, x2⟩ := OM.out.get hx.out
        have hs := hid (pops_snoc hx.out)
        have h8 := popB_le x
        have hq1 := pops_le (M.take k)
        rw [List.length_take] at hq1
        have hq2 : pops (M.take k) ≤ 8000 := by omega
        clear hq1 hx
        go_wp2_with (go_at_call 81; refine (ones8_any x x1 x2 _).mono ?_; rintro e w' ⟨rfl, rfl⟩)
        go_round
        case rel => exact ⟨k + 1, by omega, by go_num, by rw [hs.out]; simp⟩
        case measure => simp [intOf]; omega
      · have e : pops (M.take k) = pops M := by rw [List.take_of_length_le (by rw [HL.out]; omega)]
        rw [e]
        clear e hk
        obtain ⟨q, hq⟩ : ∃ q, pops M = q := ⟨_, rfl⟩
        rw [hq]
        have HQ := hid hq
        have hlt2 : ¬ (k : Int) < (N : Int) := by omega
        clear hq hlt
        go_wp2_with fail
        go_ret
        exact ⟨ret_bool (by rw [HQ.out, Bool.eq_iff_iff]; simp), HB.out⟩
end Go.Proofs.YtpmkfkanolhocaaGreat
