/- Package match: Same, Copy. -/
import Derived.Test.YteaimnlfbbkccaaMatN
import Derived.Test.YteaimnlfbbkccaaMrg7
namespace Go.Proofs.Yteaimnlfbbkccaa
open Go.RowKit
set_option linter.unusedVariables false
set_option maxRecDepth 100000

set_option maxHeartbeats 4000000 in
theorem same10_any (l m : List Ent9) (a b : Option Addr) (c d : Nat) (w : World) (hI : L9 w a l) (hJ : L9 w b m) :
    Calls Try.prog 27 #[.slice a l.length c, .slice b m.length d] w fun e w' => e = .returned (.bool (decide (l.map Ent9.o = m.map Ent9.o))) ∧ Below w.heap.size w w' := by
  obtain ⟨r, hr⟩ : ∃ r, decide (l.map Ent9.o = m.map Ent9.o) = r := ⟨_, rfl⟩
  rw [hr]
  have HR := hid hr
  have HI := hid hI
  have HJ := hid hJ
  have hll := hI.len
  have hlm := hJ.len
  clear hr hI hJ
  by_cases hlen : l.length = m.length
  · obtain ⟨N, hN⟩ : ∃ N, N = l.length := ⟨_, rfl⟩
    have hM : m.length = N := by omega
    rw [hM, ← hN]
    have HN := hid (And.intro hN hM)
    have hN' : N ≤ 1000 := by omega
    clear hN hM hlen hll hlm
    go_enter Try.func27, Try.ntmps27
    go_wp2_with fail
    go_loopg [14] N (fun kx s14 wr => ∃ (i : Nat), s14 = .int .i64 i ∧ i ≤ N ∧ N - i ≤ kx ∧ Hid ((l.map Ent9.o).take i = (m.map Ent9.o).take i) ∧ Hid (Below w.heap.size w wr))
    case atStart => exact ⟨0, rfl, by omega, by omega, rfl, Below.refl _ _⟩
    case round =>
      obtain ⟨i, rfl, hi, hkx, hn, hb⟩ := hrel
      by_cases hlt : i < N
      · have hltz : (i : Int) < (N : Int) := by omega
        have hN1 := HN.out.1
        have hN2 := HN.out.2
        have hl := HI.out.below hb.out
        have hm := HJ.out.below hb.out
        obtain ⟨b1, o1, rfl, c0, c1, c2, c3, c4, c5⟩ := hl.ox i (by omega)
        obtain ⟨b2, o2, rfl, k0, k1, k2, k3, k4, k5⟩ := hm.ox i (by omega)
        have e1 := hl.ent l[i] (List.getElem_mem (by omega))
        have f1 := hl.few l[i] (List.getElem_mem (by omega))
        have e2 := hm.ent m[i] (List.getElem_mem (by omega))
        have f2 := hm.few m[i] (List.getElem_mem (by omega))
        have g1 : (l.map Ent9.o)[i]? = some l[i].o := by simp [show i < l.length by omega]
        have g2 : (m.map Ent9.o)[i]? = some m[i].o := by simp [show i < m.length by omega]
        generalize l[i] = x at c0 c1 c2 c3 c4 c5 e1 f1 g1
        generalize m[i] = y at k0 k1 k2 k3 k4 k5 e2 f2 g2
        obtain ⟨W, hW, hbW, hx⟩ := oxm_box wr x.o.C x.o.F x.o.H x.o.X x.va x.o.v.length x.vc x.ma x.o.m.length x.mc
        have HW := hid hW
        have HBW := hid hbW
        obtain ⟨x0, x1, x2, x3, x4, x5⟩ := hx.six
        have HS := hid (fun j : Wk W => Wk.call (same8_any x.o.C x.o.F x.o.H x.o.X x.va x.vc x.ma x.mc y.o.C y.o.F y.o.H y.o.X y.va y.vc y.ma y.mc x.o.v x.o.m y.o.v y.o.m f1.1 f1.2 f2.1 f2.2 e1.ov e1.om e2.ov e2.om j.val ((e1.iv.below hbW).below j.bel) ((e1.im.below hbW).below j.bel) ((e2.iv.below hbW).below j.bel) ((e2.im.below hbW).below j.bel)))
        have d0 := Wk.cell x0
        have d1 := Wk.cell x1
        have d2 := Wk.cell x2
        have d3 := Wk.cell x3
        have d4 := Wk.cell x4
        have d5 := Wk.cell x5
        have q0 := Wk.cell (cell_keep k0 hbW)
        have q1 := Wk.cell (cell_keep k1 hbW)
        have q2 := Wk.cell (cell_keep k2 hbW)
        have q3 := Wk.cell (cell_keep k3 hbW)
        have q4 := Wk.cell (cell_keep k4 hbW)
        have q5 := Wk.cell (cell_keep k5 hbW)
        obtain ⟨sv, hsv⟩ : ∃ sv, sameB x.o.C x.o.F x.o.H x.o.X y.o.C y.o.F y.o.H y.o.X x.o.v x.o.m y.o.v y.o.m = sv := ⟨_, rfl⟩
        rw [hsv] at HS
        have hs9 : same9 x.o y.o = sv := hsv
        have hiff := same9_iff x.o y.o
        rw [hs9] at hiff
        have HIF := hid hiff
        have HG := hid (And.intro g1 g2)
        clear hW hbW hx hl hm e1 e2 f1 f2 g1 g2 x0 x1 x2 x3 x4 x5 k0 k1 k2 k3 k4 k5 hsv hs9 hiff hN1 hN2
        go_upto_region 6 with fail
        rw [HW.out]
        clear c0 c1 c2 c3 c4 c5
        refine wp_region_wk (by kernel_rfl) (by kernel_rfl) ?_
        repeat (go_big_quiet_step (first | (go_at_call 50; exact HS.out _) | fail))
        refine wpQuiet_nil ?_
        rintro w6 ⟨⟨_, hb6⟩, rfl⟩
        clear d0 d1 d2 d3 d4 d5 q0 q1 q2 q3 q4 q5
        have HB6 := hid (below_on (below_on hb.out HBW.out) hb6)
        clear hb6
        cases sv
        · have hrf : r = false := by
            rw [← HR.out, decide_eq_false_iff_not]
            intro e
            have h1 := HG.out.1
            rw [e, HG.out.2] at h1
            have h2 : y.o = x.o := by simpa using h1
            have := HIF.out.2 h2.symm
            cases this
          go_wp2_with fail
          refine bodyPost_ret (v := .bool false) (by simp [results, Try.results27, go_sem]) rfl ⟨by rw [hrf], HB6.out⟩
        · have hxy := HIF.out.1 rfl
          have hn2 : (l.map Ent9.o).take (i + 1) = (m.map Ent9.o).take (i + 1) := by
            rw [List.take_add_one, List.take_add_one, hn.out, HG.out.1, HG.out.2, hxy]
          have HN2 := hid hn2
          clear hxy hn2
          go_wp2_with fail
          go_roundg (N - (i + 1))
          case rel => exact ⟨i + 1, by go_num, by omega, by omega, HN2.out, HB6.out⟩
          case measure => omega
      · have hge : (N : Int) ≤ (i : Int) := by omega
        have hrt : r = true := by
          rw [← HR.out, decide_eq_true_iff]
          have h := hn.out
          rw [List.take_of_length_le (by rw [List.length_map]; have := HN.out.1; omega), List.take_of_length_le (by rw [List.length_map]; have := HN.out.2; omega)] at h
          exact h
        have HRT := hid hrt
        clear hrt
        go_wp2_with fail
        exact bodyPost_ret (v := .bool true) (by simp [results, Try.results27, go_sem]) rfl ⟨by rw [HRT.out], hb.out⟩
  · have hne : ((l.length : Int) != (m.length : Int)) = true := by simp; omega
    have hrf : r = false := by
      rw [← HR.out, decide_eq_false_iff_not]
      intro e
      have := congrArg List.length e
      rw [List.length_map, List.length_map] at this
      exact hlen this
    have HRF := hid hrf
    clear hrf hlen
    go_enter Try.func27, Try.ntmps27
    go_wp2_with fail
    exact bodyPost_ret (v := .bool false) (by simp [results, Try.results27, go_sem]) rfl ⟨by rw [HRF.out], Below.refl _ _⟩
end Go.Proofs.Yteaimnlfbbkccaa
