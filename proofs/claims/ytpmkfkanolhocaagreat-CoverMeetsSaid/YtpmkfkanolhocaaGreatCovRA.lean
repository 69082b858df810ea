/- The document's cover: masks, clash. -/
import Derived.Test.YtpmkfkanolhocaaGreatCovW
import Derived.Test.YtpmkfkanolhocaaGreatMrg7
namespace Go.Proofs.YtpmkfkanolhocaaGreat
open Go.RowKit
set_option linter.unusedVariables false
set_option maxRecDepth 100000

def RMaskPost (o : Ox9) (w : World) (e : Ending) (w' : World) : Prop :=
  ∃ pa pc, e = .returned (.slice pa o.v.length pc) ∧ Ints .u8 w' pa (mask11 o) ∧ Below w.heap.size w w'
set_option maxHeartbeats 2000000 in
theorem refMask_any (h : Ent9) (w : World) (hI : EntIn w h) (ho : OkV h.o) (hs : h.o.v.length ≤ 1000) :
    Calls Tryz.prog 45 #[h.val] w (RMaskPost h.o w) := by
  obtain ⟨⟨C, F, H, X, v, m⟩, va, vc, ma, mc⟩ := h
  have hml := ho.ml
  have hi := hI.im
  simp only at hs hi
  unfold Ent9.val
  simp only
  cases H
  · obtain ⟨W, hW, hbW, hx⟩ := oxm_box w C F false X va v.length vc ma m.length mc
    have HW := hid hW
    obtain ⟨d0, d1, d2, d3, d4, d5⟩ := hx.six
    have HB := hid hbW
    have HX := hid hx
    have HM := hid (mask_no (o := ⟨C, F, false, X, v, m⟩) rfl)
    clear hW hx hml ho hi hI
    go_enter Tryz.func45, Tryz.ntmps45
    go_upto_region 1 with fail
    rw [HW.out]
    go_wp2_with (first | (at_make; refine wp_make rfl _ _ rfl elemU8 rfl rfl rfl rfl (Nat.le_refl _) (by omega) (by omega) ?_; intro w1 hf; obtain ⟨e0, e1, e2, e3, e4, e5⟩ := (HX.out.below hf.bel).six) | fail)
    have hbx := fresh_box hf
    have hb1 := hf.bel
    clear d0 d1 d2 d3 d4 d5 hf
    go_loopg [4] (v.length) (fun kx s4 wr => ∃ i : Nat, s4 = .int .i64 i ∧ i ≤ v.length ∧ v.length - i ≤ kx ∧ Hid (BoxL wr W.heap.size ((upto11 (fun _ => 255) v.length i).map (Value.int .u8))) ∧ Hid (Below W.heap.size W wr))
    case atStart => exact ⟨0, rfl, by omega, by omega, (by show BoxL _ _ _; rw [upto_zero]; simpa using hbx), hb1⟩
    case round =>
      obtain ⟨i, rfl, hi, hkx, hB, hb⟩ := hrel
      by_cases hlt : i < v.length
      · have hltz : (i : Int) < (v.length : Int) := by omega
        have y0 := hB.out.cell i (.int .u8 ((upto11 (fun _ => 255) v.length i)[i]'(by rw [upto_length]; exact hlt))) (by rw [List.getElem?_map, List.getElem?_eq_getElem (by rw [upto_length]; exact hlt)]; rfl)
        have y1 := hB.out.free
        generalize (upto11 (fun _ => 255) v.length i)[i]'(by rw [upto_length]; exact hlt) = q at y0
        clear e0 e1 e2 e3 e4 e5
        go_wp2_with fail
        go_roundg (v.length - (i + 1))
        case measure => omega
        case rel =>
          refine ⟨i + 1, by first | rfl | go_num, by omega, Nat.le_refl _, ?_, hb.out.setCell (Nat.le_refl _) _⟩
          show BoxL _ _ _
          rw [← upto_set _ hlt]
          exact hB.out.set i _ (by rw [List.length_map, upto_length]; exact hlt)
      · have hltz : ¬ (i : Int) < (v.length : Int) := by omega
        obtain rfl : i = v.length := by omega
        clear e0 e1 e2 e3 e4 e5
        go_wp2_with fail
        go_ret
        refine ⟨some ⟨W.heap.size, 0, none⟩, v.length, rfl, ?_, below_on HB.out hb.out⟩
        rw [HM.out]
        exact box_ints hB.out
  · have hmv : m.length = v.length := by simpa [mask11] using hml
    obtain ⟨W, hW, hbW, hx⟩ := oxm_box w C F true X va v.length vc ma v.length mc
    have HW := hid hW
    obtain ⟨d0, d1, d2, d3, d4, d5⟩ := hx.six
    have HB := hid hbW
    have IM := hid (hi.below hbW)
    rw [hmv]
    clear hW hx hml ho hi hI hmv
    go_enter Tryz.func45, Tryz.ntmps45
    go_upto_region 1 with fail
    rw [HW.out]
    go_wp2_with fail
    go_ret
    exact ⟨ma, mc, rfl, IM.out, HB.out⟩
theorem refAt_any (l : List Int) (i N : Nat) (a : Option Addr) (c : Nat) (w : World) (hl : l.length = N) (hN : N ≤ 1000) (hi : i < N) (hI : Ints .u8 w a l) :
    Calls Tryz.prog 70 #[.slice a N c, .int .i64 i] w fun e w' => e = .returned (.int .u8 (l.getD i 0)) ∧ Below w.heap.size w w' := by
  obtain ⟨b1, o1, q, rfl, e1, g1⟩ := hI.at (show i < l.length by omega)
  have hq := getD_of g1.out
  rw [hq]
  have hiz : (i : Int) < (N : Int) := by omega
  clear hI hq g1 hl
  go_enter Tryz.func70, Tryz.ntmps70
  go_wp2_with fail
  go_ret
  exact ⟨rfl, Below.refl _ _⟩
theorem two_oxms (w : World) (u0 u1 u2 u3 u4 u5 v0 v1 v2 v3 v4 v5 : Value) : ∃ W, (w.alloc (.cells #[u0, u1, u2, u3, u4, u5] 33)).alloc (.cells #[v0, v1, v2, v3, v4, v5] 33) = W ∧ Below w.heap.size w W ∧ BoxL W w.heap.size [u0, u1, u2, u3, u4, u5] ∧ BoxL W (w.heap.size + 1) [v0, v1, v2, v3, v4, v5] := by
  obtain ⟨W1, h1, b1, x1, s1⟩ := box_any w [u0, u1, u2, u3, u4, u5] 33
  obtain ⟨W2, h2, b2, x2, s2⟩ := box_any W1 [v0, v1, v2, v3, v4, v5] 33
  rw [s1] at x2
  exact ⟨W2, by rw [← h2, ← h1], below_on b1 b2, x1.below b2, x2⟩
set_option maxHeartbeats 4000000 in
theorem refClash_any (g h : Ent9) (w : World) (hg : EntIn w g) (hh : EntIn w h) (og : OkV g.o) (oh : OkV h.o) (hs : g.o.v.length ≤ 1000) (ht : h.o.v.length ≤ 1000) :
    Calls Tryz.prog 44 #[g.val, h.val] w fun e w' => e = .returned (.bool (clash11 g.o h.o)) ∧ Below w.heap.size w w' := by
  have HMG := hid (fun W' (h' : EntIn W' g) => refMask_any g W' h' og hs)
  have HMH := hid (fun W' (h' : EntIn W' h) => refMask_any h W' h' oh ht)
  have HML := hid (And.intro og.ml oh.ml)
  obtain ⟨W, hW, hbW, hx, hy⟩ := two_oxms w (.int .i64 g.o.C) (.int .i64 g.o.F) (.bool g.o.H) (.int .u64 g.o.X) (.slice g.va g.o.v.length g.vc) (.slice g.ma g.o.m.length g.mc) (.int .i64 h.o.C) (.int .i64 h.o.F) (.bool h.o.H) (.int .u64 h.o.X) (.slice h.va h.o.v.length h.vc) (.slice h.ma h.o.m.length h.mc)
  have HW := hid hW
  have HX := hid hx
  have HY := hid hy
  have HB := hid hbW
  have HG := hid (hg.below hbW)
  have HH := hid (hh.below hbW)
  have HAL := hid (refAlike8_any g.o.C g.o.F g.o.H g.o.X g.va g.o.v.length g.vc g.ma g.o.m.length g.mc h.o.C h.o.F h.o.H h.o.X h.va h.o.v.length h.vc h.ma h.o.m.length h.mc W)
  obtain ⟨d0, d1, d2, d3, d4, d5⟩ := hx.six
  obtain ⟨f0, f1, f2, f3, f4, f5⟩ := hy.six
  clear hW hx hy hbW hg hh og oh
  unfold Ent9.val at HMG HMH ⊢
  rw [clash_is]
  obtain ⟨al, hal⟩ : ∃ r, alike9 g.o h.o = r := ⟨_, rfl⟩
  rw [hal]
  rw [show alikeB g.o.C g.o.F g.o.X h.o.C h.o.F h.o.X = al from hal] at HAL
  clear hal
  cases al
  · go_enter Tryz.func44, Tryz.ntmps44
    go_upto_region 1 with fail
    rw [HW.out]
    go_wp2_with fail
    refine HAL.out.mono ?_
    rintro e w1 ⟨rfl, hb1⟩
    go_wp2_with fail
    go_ret
    exact ⟨rfl, below_on HB.out hb1⟩
  · rw [Bool.true_and]
    by_cases hl : g.o.v.length = h.o.v.length
    · have hlz : ((g.o.v.length : Int) != (h.o.v.length : Int)) = false := by simp; omega
      have HL := hid hl
      have KS : Hid (∀ w' : World, Below W.heap.size W w' → w'.cell? ⟨w.heap.size, 0, none⟩ = some (.int .i64 g.o.C) ∧ w'.cell? ⟨w.heap.size, 1, none⟩ = some (.int .i64 g.o.F) ∧ w'.cell? ⟨w.heap.size, 2, none⟩ = some (.bool g.o.H) ∧ w'.cell? ⟨w.heap.size, 3, none⟩ = some (.int .u64 g.o.X) ∧ w'.cell? ⟨w.heap.size, 4, none⟩ = some (.slice g.va g.o.v.length g.vc) ∧ w'.cell? ⟨w.heap.size, 5, none⟩ = some (.slice g.ma g.o.m.length g.mc) ∧
        w'.cell? ⟨w.heap.size + 1, 0, none⟩ = some (.int .i64 h.o.C) ∧ w'.cell? ⟨w.heap.size + 1, 1, none⟩ = some (.int .i64 h.o.F) ∧ w'.cell? ⟨w.heap.size + 1, 2, none⟩ = some (.bool h.o.H) ∧ w'.cell? ⟨w.heap.size + 1, 3, none⟩ = some (.int .u64 h.o.X) ∧ w'.cell? ⟨w.heap.size + 1, 4, none⟩ = some (.slice h.va h.o.v.length h.vc) ∧ w'.cell? ⟨w.heap.size + 1, 5, none⟩ = some (.slice h.ma h.o.m.length h.mc)) := by
        show ∀ _, _
        intro w' hb
        obtain ⟨a0, a1, a2, a3, a4, a5⟩ := (HX.out.below hb).six
        exact ⟨a0, a1, a2, a3, a4, a5, (HY.out.below hb).six⟩
      clear hl
      go_enter Tryz.func44, Tryz.ntmps44
      go_upto_region 1 with fail
      rw [HW.out]
      go_wp2_with fail
      refine HAL.out.mono ?_
      rintro e w1 ⟨rfl, hb1⟩
      have HB1 := hid hb1
      obtain ⟨a0, a1, a2, a3, a4, a5, b0, b1, b2, b3, b4, b5⟩ := KS.out w1 hb1
      clear d0 d1 d2 d3 d4 d5 f0 f1 f2 f3 f4 f5 hb1
      go_upto_region 5 with fail
      clear a0 a1 a2 a3 a4 a5 b0 b1 b2 b3 b4 b5
      go_cut [5, 6] (fun t5 t6 wx => ∃ pa pc pb pd, t5 = .slice pa g.o.v.length pc ∧ t6 = .slice pb h.o.v.length pd ∧ Ints .u8 wx pa (mask11 g.o) ∧ Ints .u8 wx pb (mask11 h.o) ∧ Below W.heap.size W wx)
      case first =>
        go_region_held3 (fun w' => w'.cell? ⟨w.heap.size, 0, none⟩ = some (.int .i64 g.o.C) ∧ w'.cell? ⟨w.heap.size, 1, none⟩ = some (.int .i64 g.o.F) ∧ w'.cell? ⟨w.heap.size, 2, none⟩ = some (.bool g.o.H) ∧ w'.cell? ⟨w.heap.size, 3, none⟩ = some (.int .u64 g.o.X) ∧ w'.cell? ⟨w.heap.size, 4, none⟩ = some (.slice g.va g.o.v.length g.vc) ∧ w'.cell? ⟨w.heap.size, 5, none⟩ = some (.slice g.ma g.o.m.length g.mc) ∧
        w'.cell? ⟨w.heap.size + 1, 0, none⟩ = some (.int .i64 h.o.C) ∧ w'.cell? ⟨w.heap.size + 1, 1, none⟩ = some (.int .i64 h.o.F) ∧ w'.cell? ⟨w.heap.size + 1, 2, none⟩ = some (.bool h.o.H) ∧ w'.cell? ⟨w.heap.size + 1, 3, none⟩ = some (.int .u64 h.o.X) ∧ w'.cell? ⟨w.heap.size + 1, 4, none⟩ = some (.slice h.va h.o.v.length h.vc) ∧ w'.cell? ⟨w.heap.size + 1, 5, none⟩ = some (.slice h.ma h.o.m.length h.mc))
          (first | exact KS.out _ hb6 | exact KS.out _ hb5 | exact KS.out _ (below_on HB1.out (below_drew8 w1)) | fail)
          (first
            | (go_at_call 45; (with_reducible refine (HMG.out _ ?_).mono ?_); exact HG.out.below (below_on HB1.out (below_drew8 w1)); rintro e w5 ⟨p5, c5, rfl, i5, bb5⟩; have hb5 := below_on (below_on HB1.out (below_drew8 w1)) bb5)
            | (go_at_call 45; (with_reducible refine (HMH.out _ ?_).mono ?_); exact HH.out.below hb5; rintro e w6 ⟨p6, c6, rfl, i6, bb6⟩; have hb6 := below_on hb5 bb6)
            | fail)
        all_goals
          go_wp2_with fail
          go_meet
          exact ⟨p5, c5, p6, c6, rfl, rfl, i5.below bb6, i6, hb6⟩
      case rest =>
        obtain ⟨pa, pc, pb, pd, rfl, rfl, hm, hn, hbx⟩ := hcut
        obtain ⟨w2, hw2⟩ : ∃ x, x = wc := ⟨_, rfl⟩
        subst hw2
        have HM := hid hm
        have HN := hid hn
        have HBX := hid hbx
        have HV := hid (HG.out.iv.below hbx)
        have HU := hid (HH.out.iv.below hbx)
        clear hm hn hbx
        go_wp2_with fail
        go_loopg [7] (g.o.v.length) (fun kx s7 wr => ∃ k : Nat, s7 = .int .i64 k ∧ k ≤ g.o.v.length ∧ g.o.v.length - k ≤ kx ∧ Hid (∀ j, j < k → clash1 (g.o.v.getD j 0) (h.o.v.getD j 0) ((mask11 g.o).getD j 0) ((mask11 h.o).getD j 0) = false) ∧ Hid (Below w2.heap.size w2 wr))
        case atStart => exact ⟨0, rfl, by omega, by omega, (fun j hj => by omega), Below.refl _ _⟩
        case round =>
          obtain ⟨k, rfl, hk, hkx, hall, hbr⟩ := hrel
          obtain ⟨a0, a1, a2, a3, a4, a5, b0, b1, b2, b3, b4, b5⟩ := KS.out wr (below_on HBX.out hbr.out)
          by_cases hlt : k < g.o.v.length
          · have hltz : (k : Int) < (g.o.v.length : Int) := by omega
            have hltz2 : (k : Int) < (h.o.v.length : Int) := by have := HL.out; omega
            obtain ⟨x1, o1, q1, e1, y1, g1⟩ := (HV.out.below hbr.out).at hlt
            obtain ⟨x2, o2, q2, e2, y2, g2⟩ := (HU.out.below hbr.out).at (show k < h.o.v.length by rw [← HL.out]; exact hlt)
            have a4' := a4
            have b4' := b4
            rw [e1] at a4'
            rw [e2] at b4'
            have K4 := Wk.cell a4'
            have J4 := Wk.cell b4'
            have Q1 := Wk.cell y1
            have Q2 := Wk.cell y2
            have HAM := hid (fun n : Wk wr => refAt_any (mask11 g.o) k g.o.v.length pa pc n.val HML.out.1 hs hlt ((HM.out.below hbr.out).below n.bel))
            have HAN := hid (fun n : Wk wr => refAt_any (mask11 h.o) k h.o.v.length pb pd n.val HML.out.2 ht (by rw [← HL.out]; exact hlt) ((HN.out.below hbr.out).below n.bel))
            obtain ⟨m1, hm1⟩ : ∃ x, (mask11 g.o).getD k 0 = x := ⟨_, rfl⟩
            obtain ⟨m2, hm2⟩ : ∃ x, (mask11 h.o).getD k 0 = x := ⟨_, rfl⟩
            rw [hm1] at HAM
            rw [hm2] at HAN
            have HNO := hid (fun hq => clashP_yes (b := h.o) hlt (by rw [getD_of g1.out, getD_of g2.out, hm1, hm2]; exact hq))
            have HYES := hid (fun hq => upto_more (P := fun j => clash1 (g.o.v.getD j 0) (h.o.v.getD j 0) ((mask11 g.o).getD j 0) ((mask11 h.o).getD j 0) = false) hall.out (by rw [getD_of g1.out, getD_of g2.out, hm1, hm2]; exact hq))
            have HK4 := hid K4
            have HJ4 := hid J4
            have HQ1 := hid Q1
            have HQ2 := hid Q2
            clear g1 g2 hm1 hm2 a4' b4' y1 y2 e1 e2 K4 J4 Q1 Q2
            go_upto_region 9 with fail
            clear a0 a1 a2 a3 a4 a5 b0 b1 b2 b3 b4 b5
            have K4 := HK4.out
            have J4 := HJ4.out
            have Q1 := HQ1.out
            have Q2 := HQ2.out
            refine wp_region_wk (by kernel_rfl) (by kernel_rfl) ?_
            repeat (go_big_quiet_step ((first | (go_at_call 70; with_reducible exact Wk.call (HAM.out _)) | (go_at_call 70; with_reducible exact Wk.call (HAN.out _)))))
            refine wpQuiet_nil ?_
            rintro w6 ⟨⟨_, hb6⟩, rfl⟩
            have HB6 := hid (below_on hbr.out hb6)
            clear K4 J4 Q1 Q2 HK4 HJ4 HQ1 HQ2 hb6
            cases hc : clash1 q1 q2 m1 m2
            · have hq : (bits BinOp.and IntKind.u8 (bits BinOp.and IntKind.u8 (bits BinOp.xor IntKind.u8 q1 q2) m1) m2 != 0) = false := hc
              have HY := hid (HYES.out hc)
              clear hc
              go_wp2_with fail
              go_roundg (g.o.v.length - (k + 1))
              case measure => omega
              case rel => exact ⟨k + 1, by first | rfl | go_num, by omega, Nat.le_refl _, HY, HB6⟩
            · have hq : (bits BinOp.and IntKind.u8 (bits BinOp.and IntKind.u8 (bits BinOp.xor IntKind.u8 q1 q2) m1) m2 != 0) = true := hc
              have HN := hid (HNO.out hc)
              clear hc
              go_wp2_with fail
              go_ret
              exact ⟨ret_bool HN.out.symm, below_on (below_on HB.out HBX.out) HB6.out⟩
          · have hltz : ¬ (k : Int) < (g.o.v.length : Int) := by omega
            obtain rfl : k = g.o.v.length := by omega
            have HNO := hid (clashP_no HL.out hall.out)
            go_wp2_with fail
            go_ret
            exact ⟨ret_bool HNO.out.symm, below_on (below_on HB.out HBX.out) hbr.out⟩
    · have hlz : ((g.o.v.length : Int) != (h.o.v.length : Int)) = true := by simp; omega
      have HN := hid (clashP_far hl)
      clear hl
      go_enter Tryz.func44, Tryz.ntmps44
      go_upto_region 1 with fail
      rw [HW.out]
      go_wp2_with fail
      refine HAL.out.mono ?_
      rintro e w1 ⟨rfl, hb1⟩
      obtain ⟨a0, a1, a2, a3, a4, a5⟩ := (HX.out.below hb1).six
      obtain ⟨b0, b1, b2, b3, b4, b5⟩ := (HY.out.below hb1).six
      clear d0 d1 d2 d3 d4 d5 f0 f1 f2 f3 f4 f5
      go_wp2_with fail
      go_ret
      exact ⟨ret_bool HN.out.symm, below_on HB.out hb1⟩
end Go.Proofs.YtpmkfkanolhocaaGreat
