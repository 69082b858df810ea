/- Package cover: clash, covers, and what holds. -/
import Derived.Test.YtpmkfkanolhocaaGreatCovK
namespace Go.Proofs.YtpmkfkanolhocaaGreat
open Go.RowKit
set_option linter.unusedVariables false
set_option maxRecDepth 100000

theorem clashP_no {a b : Ox9} (h : a.v.length = b.v.length) (k : ∀ j, j < a.v.length → clash1 (a.v.getD j 0) (b.v.getD j 0) ((mask11 a).getD j 0) ((mask11 b).getD j 0) = false) : clashP a b = false := by
  unfold clashP
  rw [Bool.or_eq_false_iff, List.any_eq_false]
  refine ⟨by simpa using h, fun j hj => ?_⟩
  rw [k j (by simpa using hj)]; simp
theorem clashP_yes {a b : Ox9} {j : Nat} (hj : j < a.v.length) (k : clash1 (a.v.getD j 0) (b.v.getD j 0) ((mask11 a).getD j 0) ((mask11 b).getD j 0) = true) : clashP a b = true := by
  unfold clashP
  rw [Bool.or_eq_true, List.any_eq_true]
  exact .inr ⟨j, by simpa using hj, k⟩
theorem clashP_far {a b : Ox9} (h : a.v.length ≠ b.v.length) : clashP a b = true := by
  unfold clashP
  rw [Bool.or_eq_true]
  exact .inl (by simpa using h)
theorem clashP_len {a b : Ox9} (h : clashP a b = false) : a.v.length = b.v.length := by
  by_cases e : a.v.length = b.v.length
  · exact e
  · rw [clashP_far e] at h; cases h
/-- two patterns in boxes -/
theorem two_pats (w : World) (u0 u1 u2 v0 v1 v2 : Value) : ∃ W, (w.alloc (.cells #[u0, u1, u2] 43)).alloc (.cells #[v0, v1, v2] 43) = W ∧ Below w.heap.size w W ∧ BoxL W w.heap.size [u0, u1, u2] ∧ BoxL W (w.heap.size + 1) [v0, v1, v2] := by
  obtain ⟨W1, h1, b1, x1, s1⟩ := box_any w [u0, u1, u2] 43
  obtain ⟨W2, h2, b2, x2, s2⟩ := box_any W1 [v0, v1, v2] 43
  rw [s1] at x2
  exact ⟨W2, by rw [← h2, ← h1], below_on b1 b2, x1.below b2, x2⟩
set_option maxHeartbeats 2000000 in
theorem clash_any (x y : Value) (o p : Ox9) (w : World) (hx : PatV w x o) (hy : PatV w y p) (ho : OkV o) (hp : OkV p) (hs : o.v.length ≤ 1000) :
    Calls Tryz.prog 31 #[x, y] w fun e w' => e = .returned (.bool (clashP o p)) ∧ Below w.heap.size w w' := by
  obtain ⟨va, vc, pa, pc, rfl, hv, hm⟩ := hx
  obtain ⟨vb, vd, pb, pd, rfl, hu, hn⟩ := hy
  obtain ⟨W, hW, hbW, hX, hY⟩ := two_pats w (.bool o.H) (.slice va o.v.length vc) (.slice pa o.v.length pc) (.bool p.H) (.slice vb p.v.length vd) (.slice pb p.v.length pd)
  have HW := hid hW
  obtain ⟨d0, d1, d2⟩ := hX.three
  obtain ⟨f0, f1, f2⟩ := hY.three
  have hv := hv.below hbW
  have hm := hm.below hbW
  have hu := hu.below hbW
  have hn := hn.below hbW
  have HB := hid hbW
  have HML := hid ho.ml
  have HNL := hid hp.ml
  clear hW hX hY hbW ho hp
  by_cases hl : o.v.length = p.v.length
  · have HL := hid hl
    have hlz : ((o.v.length : Int) != (p.v.length : Int)) = false := by simp; omega
    clear hl
    go_enter Tryz.func31, Tryz.ntmps31
    go_wp2_with fail
    rw [HW.out]
    go_wp2_with fail
    go_loopw [17] (fun i wr => ∃ k n : Nat, k ≤ o.v.length ∧ i = .int .i64 k ∧ Hid (∀ j, j < k → clash1 (o.v.getD j 0) (p.v.getD j 0) ((mask11 o).getD j 0) ((mask11 p).getD j 0) = false) ∧ wr = W.drewN n) (fun i _ => o.v.length - (intOf i).toNat)
    case atStart => exact ⟨0, 0, Nat.zero_le _, rfl, fun j h => by omega, rfl⟩
    case round =>
      obtain ⟨k, n, hk, rfl, hall, rfl⟩ := hrel
      by_cases hlt : k < o.v.length
      · obtain ⟨b1, o1, q1, rfl, e1, g1⟩ := hv.at hlt
        obtain ⟨b2, o2, q2, rfl, e2, g2⟩ := hu.at (show k < p.v.length by rw [← HL.out]; exact hlt)
        obtain ⟨b3, o3, q3, rfl, e3, g3⟩ := hm.at (show k < (mask11 o).length by rw [HML.out]; exact hlt)
        obtain ⟨b4, o4, q4, rfl, e4, g4⟩ := hn.at (show k < (mask11 p).length by rw [HNL.out, ← HL.out]; exact hlt)
        have hk2 : (k : Int) < (o.v.length : Int) := by omega
        have hk3 : (k : Int) < (p.v.length : Int) := by have := HL.out; omega
        have HNO := hid (fun h => clashP_yes (b := p) hlt (by rw [getD_of g1.out, getD_of g2.out, getD_of g3.out, getD_of g4.out]; exact h))
        have HYES := hid (fun h => upto_more (P := fun j => clash1 (o.v.getD j 0) (p.v.getD j 0) ((mask11 o).getD j 0) ((mask11 p).getD j 0) = false) hall.out (by rw [getD_of g1.out, getD_of g2.out, getD_of g3.out, getD_of g4.out]; exact h))
        clear g1 g2 g3 g4
        cases h : clash1 q1 q2 q3 q4
        · have hq : (bits BinOp.and IntKind.u8 (bits BinOp.and IntKind.u8 (bits BinOp.xor IntKind.u8 q1 q2) q3) q4 != 0) = false := h
          have HN := hid (HYES.out h)
          clear h
          go_wp2
          go_quiet (fail)
          go_wp2
          go_roundw
          case rel => exact ⟨k + 1, _, by omega, by go_num, HN, by first | rfl | rw [World.drewN_drewN]⟩
          case measure => simp [intOf]; omega
        · have hq : (bits BinOp.and IntKind.u8 (bits BinOp.and IntKind.u8 (bits BinOp.xor IntKind.u8 q1 q2) q3) q4 != 0) = true := h
          have HN := hid (HNO.out h)
          clear h
          go_wp2
          go_quiet (fail)
          go_wp2
          go_ret
          exact ⟨ret_bool HN.out.symm, below_on HB.out (by first | exact below_drewN _ _ | (rw [World.drewN_drewN]; exact below_drewN _ _))⟩
      · obtain rfl : k = o.v.length := by omega
        have HN := hid (clashP_no HL.out hall.out)
        go_wp2
        go_ret
        exact ⟨ret_bool HN.out.symm, below_on HB.out (below_drewN _ _)⟩
  · have hlz : ((o.v.length : Int) != (p.v.length : Int)) = true := by simp; omega
    have HN := hid (clashP_far hl)
    clear hl
    go_enter Tryz.func31, Tryz.ntmps31
    go_wp2_with fail
    rw [HW.out]
    go_wp2
    go_ret
    exact ⟨ret_bool HN.out.symm, HB.out⟩

theorem coversL_no {m n : List Int} {j : Nat} (hj : j < n.length) (h : sub1 (n.getD j 0) (m.getD j 0) = false) : coversL m n = false := by
  unfold coversL
  rw [List.all_eq_false]
  exact ⟨j, by simpa using hj, by rw [h]; simp⟩
theorem coversL_yes {m n : List Int} (h : ∀ j, j < n.length → sub1 (n.getD j 0) (m.getD j 0) = true) : coversL m n = true := by
  unfold coversL
  rw [List.all_eq_true]
  intro j hj
  exact h j (by simpa using hj)
set_option maxHeartbeats 2000000 in
theorem covers_any (m n : List Int) (a b : Option Addr) (N c d : Nat) (w : World) (hm : m.length = N) (hn : n.length = N) (hN : N ≤ 1000) (im : Ints .u8 w a m) (iN : Ints .u8 w b n) :
    Calls Tryz.prog 33 #[.slice a N c, .slice b N d] w fun e w' => e = .returned (.bool (coversL m n)) ∧ Below w.heap.size w w' := by
  have HM := hid hm
  have HN := hid hn
  clear hm hn
  go_enter Tryz.func33, Tryz.ntmps33
  go_wp2
  go_loop [9] (fun i => ∃ k : Nat, k ≤ N ∧ i = .int .i64 k ∧ Hid (∀ j, j < k → sub1 (n.getD j 0) (m.getD j 0) = true)) (fun i => N - (intOf i).toNat)
  case atStart => exact ⟨0, Nat.zero_le _, rfl, fun j h => by omega⟩
  case round =>
    obtain ⟨k, hk, rfl, hall⟩ := hrel
    by_cases hlt : k < N
    · obtain ⟨b1, o1, q1, rfl, e1, g1⟩ := im.at (show k < m.length by rw [HM.out]; exact hlt)
      obtain ⟨b2, o2, q2, rfl, e2, g2⟩ := iN.at (show k < n.length by rw [HN.out]; exact hlt)
      have hk2 : (k : Int) < (N : Int) := by omega
      have HNO := hid (fun h => coversL_no (m := m) (n := n) (j := k) (by rw [HN.out]; exact hlt) (by rw [getD_of g1.out, getD_of g2.out]; exact h))
      have HYES := hid (fun h => upto_more (P := fun j => sub1 (n.getD j 0) (m.getD j 0) = true) hall.out (by rw [getD_of g1.out, getD_of g2.out]; exact h))
      clear g1 g2
      cases h : sub1 q2 q1
      · have hq : (bits BinOp.andNot IntKind.u8 q2 q1 != 0) = true := by
          unfold sub1 at h
          simpa using h
        have HY := hid (HNO.out h)
        clear h
        go_wp2_with fail
        go_ret
        exact ⟨ret_bool HY.out.symm, Below.refl _ _⟩
      · have hq : (bits BinOp.andNot IntKind.u8 q2 q1 != 0) = false := by
          unfold sub1 at h
          simpa using h
        have HY := hid (HYES.out h)
        clear h
        go_wp2_with fail
        go_round
        case rel => exact ⟨k + 1, by omega, by go_num, HY⟩
        case measure => simp [intOf]; omega
    · obtain rfl : k = N := by omega
      have HY := hid (coversL_yes (m := m) (n := n) (by rw [HN.out]; exact hall.out))
      go_wp2_with fail
      go_ret
      exact ⟨ret_bool HY.out.symm, Below.refl _ _⟩

/-- function f tells whether two patterns hold -/
structure Holds11 (f : FuncId) (hp : Ox9 → Ox9 → Bool) : Prop where
  enters : ∀ (args : Array Value) (w : World), (callFunc f args).run Tryz.prog w = .ok (.enter f args) w
  tells : ∀ (w : World) (x y : Value) (o p : Ox9), PatV w x o → PatV w y p → OkV o → OkV p → o.v.length ≤ 1000 → p.v.length ≤ 1000 →
    Calls Tryz.prog f #[x, y] w fun e w' => e = .returned (.bool (hp o p)) ∧ Below w.heap.size w w'
theorem holds_clash : Holds11 31 clashP := ⟨fun args w => by kernel_rfl, fun w x y o p hx hy ho hp hs _ => clash_any x y o p w hx hy ho hp hs⟩
set_option maxHeartbeats 2000000 in
theorem holds_take : Holds11 30 hTake := by
  refine ⟨fun args w => by kernel_rfl, ?_⟩
  intro w x y o p hx hy ho hp hs ht
  have HX := hid hx
  have HY := hid hy
  have HC := hid (fun W' (hx' : PatV W' x o) (hy' : PatV W' y p) => clash_any y x p o W' hy' hx' hp ho ht)
  obtain ⟨va, vc, pa, pc, rfl, _, _⟩ := hx
  obtain ⟨vb, vd, pb, pd, rfl, _, _⟩ := hy
  obtain ⟨W, hW, hbW, hX, hY⟩ := two_pats w (.bool o.H) (.slice va o.v.length vc) (.slice pa o.v.length pc) (.bool p.H) (.slice vb p.v.length vd) (.slice pb p.v.length pd)
  have HW := hid hW
  obtain ⟨d0, d1, d2⟩ := hX.three
  obtain ⟨f0, f1, f2⟩ := hY.three
  have HB := hid hbW
  have HX := hid (HX.out.below hbW)
  have HY := hid (HY.out.below hbW)
  obtain ⟨r, hr⟩ : ∃ r, hTake o p = r := ⟨_, rfl⟩
  have HH := hid (show r = (!o.H && !clashP p o) from hr.symm)
  rw [hr]
  clear hW hX hY hbW ho hp
  clear hr
  generalize o.H = H at *
  cases H
  · go_enter Tryz.func30, Tryz.ntmps30
    go_wp2_with fail
    rw [HW.out]
    go_wp2_with fail
    refine (HC.out W HX.out HY.out).mono ?_
    rintro e w5 ⟨rfl, hb5⟩
    go_wp2_with fail
    go_ret
    exact ⟨ret_bool (by rw [HH.out]; rfl), below_on HB.out hb5⟩
  · go_enter Tryz.func30, Tryz.ntmps30
    go_wp2_with fail
    rw [HW.out]
    go_wp2_with fail
    go_ret
    exact ⟨ret_bool (by rw [HH.out]; rfl), HB.out⟩
set_option maxHeartbeats 2000000 in
theorem holds_over : Holds11 32 hOver := by
  refine ⟨fun args w => by kernel_rfl, ?_⟩
  intro w x y o p hx hy ho hp hs ht
  have HX := hid hx
  have HY := hid hy
  have HC := hid (fun W' (hx' : PatV W' x o) (hy' : PatV W' y p) => clash_any x y o p W' hx' hy' ho hp hs)
  have HML := hid ho.ml
  have HNL := hid hp.ml
  obtain ⟨va, vc, pa, pc, rfl, _, hm⟩ := hx
  obtain ⟨vb, vd, pb, pd, rfl, _, hn⟩ := hy
  obtain ⟨W, hW, hbW, hX, hY⟩ := two_pats w (.bool o.H) (.slice va o.v.length vc) (.slice pa o.v.length pc) (.bool p.H) (.slice vb p.v.length vd) (.slice pb p.v.length pd)
  have HW := hid hW
  have HB := hid hbW
  have HX := hid (HX.out.below hbW)
  have HY := hid (HY.out.below hbW)
  have HM := hid (hm.below hbW)
  have HN := hid (hn.below hbW)
  have HBX := hid hX
  have HBY := hid hY
  obtain ⟨d0, d1, d2⟩ := hX.three
  obtain ⟨f0, f1, f2⟩ := hY.three
  obtain ⟨r, hr⟩ : ∃ r, hOver o p = r := ⟨_, rfl⟩
  have HH := hid (show r = (!clashP o p && coversL (mask11 o) (mask11 p)) from hr.symm)
  rw [hr]
  clear hW hX hY hbW ho hp hm hn
  clear hr
  cases hc : clashP o p
  · have hl := clashP_len hc
    have HL := hid hl
    have HCV := hid (fun W' (h1 : Ints .u8 W' pa (mask11 o)) (h2 : Ints .u8 W' pb (mask11 p)) => covers_any (mask11 o) (mask11 p) pa pb o.v.length pc pd W' HML.out (by rw [HNL.out, HL.out]) hs h1 h2)
    rw [hc] at HC HH
    clear hc hl
    go_enter Tryz.func32, Tryz.ntmps32
    go_wp2_with fail
    rw [HW.out]
    go_wp2_with fail
    refine (HC.out W HX.out HY.out).mono ?_
    rintro e w5 ⟨rfl, hb5⟩
    obtain ⟨k0, k1, k2⟩ := (HBX.out.below hb5).three
    obtain ⟨j0, j1, j2⟩ := (HBY.out.below hb5).three
    rw [← HL.out] at j2
    clear d0 d1 d2 f0 f1 f2
    go_wp2_with fail
    refine (HCV.out w5 (HM.out.below hb5) (HN.out.below hb5)).mono ?_
    rintro e w6 ⟨rfl, hb6⟩
    go_wp2_with fail
    go_ret
    exact ⟨ret_bool (by rw [HH.out]; rfl), below_on HB.out (below_on hb5 hb6)⟩
  · rw [hc] at HC HH
    clear hc
    go_enter Tryz.func32, Tryz.ntmps32
    go_wp2_with fail
    rw [HW.out]
    go_wp2_with fail
    refine (HC.out W HX.out HY.out).mono ?_
    rintro e w5 ⟨rfl, hb5⟩
    go_wp2_with fail
    go_ret
    exact ⟨ret_bool (by rw [HH.out]; rfl), below_on HB.out hb5⟩
end Go.Proofs.YtpmkfkanolhocaaGreat
