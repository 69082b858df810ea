/- Package cover: join. -/
import Derived.Test.YtpmkfkanolhocaaGreatCovQ
namespace Go.Proofs.YtpmkfkanolhocaaGreat
open Go.RowKit
set_option linter.unusedVariables false
set_option maxRecDepth 100000

/-- two values put together, in new memory -/
def JoinPost (g h : Ent9) (w : World) (e : Ending) (w' : World) : Prop :=
  ∃ j : Ent9, e = .returned j.val ∧ j.o = both11 g.o h.o ∧ EntIn w' j ∧ Below w.heap.size w w' ∧ (∀ q : Addr, j.va = some q → w.heap.size ≤ q.block) ∧ (∀ q : Addr, j.ma = some q → w.heap.size ≤ q.block)
theorem three_oxm (w : World) (u0 u1 u2 u3 u4 u5 v0 v1 v2 v3 v4 v5 : Value) (z : List Value) : ∃ W, ((w.alloc (.cells #[u0, u1, u2, u3, u4, u5] 33)).alloc (.cells #[v0, v1, v2, v3, v4, v5] 33)).alloc (.cells z.toArray 33) = W ∧ Below w.heap.size w W ∧ BoxL W w.heap.size [u0, u1, u2, u3, u4, u5] ∧ BoxL W (w.heap.size + 1) [v0, v1, v2, v3, v4, v5] ∧ BoxL W (w.heap.size + 2) z := by
  obtain ⟨W1, h1, b1, x1, s1⟩ := box_any w [u0, u1, u2, u3, u4, u5] 33
  obtain ⟨W2, h2, b2, x2, s2⟩ := box_any W1 [v0, v1, v2, v3, v4, v5] 33
  obtain ⟨W3, h3, b3, x3, s3⟩ := box_any W2 z 33
  rw [s1] at x2 s2
  rw [s2] at x3
  exact ⟨W3, by rw [← h3, ← h2, ← h1], below_on (below_on b1 b2) b3, (x1.below b2).below b3, x2.below b3, x3⟩
theorem both_no {a b : Ox9} (h : (a.H && b.H && !full11 a b) = false) : both11 a b = ⟨a.C, a.F, false, a.X, orL a.v b.v a.v.length, []⟩ := by unfold both11; rw [h]; rfl
theorem both_yes {a b : Ox9} (h : (a.H && b.H && !full11 a b) = true) : both11 a b = ⟨a.C, a.F, true, a.X, orL a.v b.v a.v.length, orL (mask11 a) (mask11 b) a.v.length⟩ := by unfold both11; rw [h]; rfl
theorem join_end_no {g h : Ent9} {w w' : World} {q : Nat} (hno : (g.o.H && h.o.H && !full11 g.o h.o) = false) (hI : Ints .u8 w' (some ⟨q, 0, none⟩) (orL g.o.v h.o.v g.o.v.length)) (hb : Below w.heap.size w w') (hq : w.heap.size ≤ q)
    (hr : (-9223372036854775808 ≤ g.o.C ∧ g.o.C ≤ 9223372036854775807) ∧ (-9223372036854775808 ≤ g.o.F ∧ g.o.F ≤ 9223372036854775807) ∧ (0 ≤ g.o.X ∧ g.o.X ≤ 18446744073709551615)) :
    JoinPost g h w (.returned (.agg #[.int .i64 g.o.C, .int .i64 g.o.F, .bool false, .int .u64 g.o.X, .slice (some ⟨q, 0, none⟩) g.o.v.length g.o.v.length, .slice none 0 0])) w' := by
  refine ⟨⟨⟨g.o.C, g.o.F, false, g.o.X, orL g.o.v h.o.v g.o.v.length, []⟩, some ⟨q, 0, none⟩, g.o.v.length, none, 0⟩, ?_, (both_no hno).symm, ⟨hI, Ints.nil _ _ _, orL_oct _ _ _, (by intro x hx; cases hx), Nat.le_refl _, hr.1, hr.2.1, hr.2.2⟩, hb, ?_, ?_⟩
  · unfold Ent9.val
    simp only [orL_length, List.length_nil]
  · intro a e; cases e; exact hq
  · intro a e; cases e
theorem join_end_yes {g h : Ent9} {w w' : World} {q p : Nat} (hy : (g.o.H && h.o.H && !full11 g.o h.o) = true) (hI : Ints .u8 w' (some ⟨q, 0, none⟩) (orL g.o.v h.o.v g.o.v.length)) (hM : Ints .u8 w' (some ⟨p, 0, none⟩) (orL (mask11 g.o) (mask11 h.o) g.o.v.length)) (hb : Below w.heap.size w w') (hq : w.heap.size ≤ q) (hp : w.heap.size ≤ p)
    (hr : (-9223372036854775808 ≤ g.o.C ∧ g.o.C ≤ 9223372036854775807) ∧ (-9223372036854775808 ≤ g.o.F ∧ g.o.F ≤ 9223372036854775807) ∧ (0 ≤ g.o.X ∧ g.o.X ≤ 18446744073709551615)) :
    JoinPost g h w (.returned (.agg #[.int .i64 g.o.C, .int .i64 g.o.F, .bool true, .int .u64 g.o.X, .slice (some ⟨q, 0, none⟩) g.o.v.length g.o.v.length, .slice (some ⟨p, 0, none⟩) g.o.v.length g.o.v.length])) w' := by
  refine ⟨⟨⟨g.o.C, g.o.F, true, g.o.X, orL g.o.v h.o.v g.o.v.length, orL (mask11 g.o) (mask11 h.o) g.o.v.length⟩, some ⟨q, 0, none⟩, g.o.v.length, some ⟨p, 0, none⟩, g.o.v.length⟩, ?_, (both_yes hy).symm, ⟨hI, hM, orL_oct _ _ _, orL_oct _ _ _, (by rw [orL_length]; exact Nat.le_refl _), hr.1, hr.2.1, hr.2.2⟩, hb, ?_, ?_⟩
  · unfold Ent9.val
    simp only [orL_length]
  · intro a e; cases e; exact hq
  · intro a e; cases e; exact hp
theorem ne_block {p X : Nat} (h : p ≠ X) : ∀ q : Addr, some (⟨p, 0, none⟩ : Addr) = some q → q.block ≠ X := by intro q e; cases e; exact h
set_option maxHeartbeats 4000000 in
theorem coverJoin_any (g h : Ent9) (w : World) (hg : EntIn w g) (hh : EntIn w h) (og : OkV g.o) (oh : OkV h.o) (hal : alike9 g.o h.o = true) (hl : g.o.v.length = h.o.v.length) (hs : g.o.v.length ≤ 1000) :
    Calls Tryz.prog 37 #[g.val, h.val] w (JoinPost g h w) := by
  have HMG := hid (fun W' (h' : EntIn W' g) => maskOf_any g W' h' og hs)
  have HMH := hid (fun W' (h' : EntIn W' h) => (by
    have := maskOf_any h W' h' oh (by omega)
    unfold Ent9.val MaskPost at this
    rw [← hl] at this
    exact this : Calls Tryz.prog 61 #[.agg #[.int .i64 h.o.C, .int .i64 h.o.F, .bool h.o.H, .int .u64 h.o.X, .slice h.va g.o.v.length h.vc, .slice h.ma h.o.m.length h.mc]] W' fun e w' => ∃ p, e = .returned (.slice (some ⟨p, 0, none⟩) g.o.v.length g.o.v.length) ∧ Ints .u8 w' (some ⟨p, 0, none⟩) (mask11 h.o) ∧ Below W'.heap.size W' w' ∧ W'.heap.size ≤ p))
  have HL := hid hl
  have HML := hid (And.intro og.ml oh.ml)
  have HFU := hid (fun (h1 : g.o.H = true) (h2 : h.o.H = true) => full_is og oh hal hl h1 h2)
  obtain ⟨W, hW, hbW, hx, hy, hz⟩ := three_oxm w (.int .i64 g.o.C) (.int .i64 g.o.F) (.bool g.o.H) (.int .u64 g.o.X) (.slice g.va g.o.v.length g.vc) (.slice g.ma g.o.m.length g.mc) (.int .i64 h.o.C) (.int .i64 h.o.F) (.bool h.o.H) (.int .u64 h.o.X) (.slice h.va g.o.v.length h.vc) (.slice h.ma h.o.m.length h.mc) [.int .i64 0, .int .i64 0, .bool false, .int .u64 0, .slice none 0 0, .slice none 0 0]
  have HW := hid hW
  have HX := hid hx
  have HY := hid hy
  have HZ := hid hz
  have HB := hid hbW
  have HG := hid (hg.below hbW)
  have HH := hid (hh.below hbW)
  have HRG := hid (And.intro hg.c (And.intro hg.f hg.x))
  have KS : Hid (∀ w' : World, Below W.heap.size W w' → w'.cell? ⟨w.heap.size, 0, none⟩ = some (.int .i64 g.o.C) ∧ w'.cell? ⟨w.heap.size, 1, none⟩ = some (.int .i64 g.o.F) ∧ w'.cell? ⟨w.heap.size, 2, none⟩ = some (.bool g.o.H) ∧ w'.cell? ⟨w.heap.size, 3, none⟩ = some (.int .u64 g.o.X) ∧ w'.cell? ⟨w.heap.size, 4, none⟩ = some (.slice g.va g.o.v.length g.vc) ∧ w'.cell? ⟨w.heap.size, 5, none⟩ = some (.slice g.ma g.o.m.length g.mc) ∧
      w'.cell? ⟨w.heap.size + 1, 0, none⟩ = some (.int .i64 h.o.C) ∧ w'.cell? ⟨w.heap.size + 1, 1, none⟩ = some (.int .i64 h.o.F) ∧ w'.cell? ⟨w.heap.size + 1, 2, none⟩ = some (.bool h.o.H) ∧ w'.cell? ⟨w.heap.size + 1, 3, none⟩ = some (.int .u64 h.o.X) ∧ w'.cell? ⟨w.heap.size + 1, 4, none⟩ = some (.slice h.va g.o.v.length h.vc) ∧ w'.cell? ⟨w.heap.size + 1, 5, none⟩ = some (.slice h.ma h.o.m.length h.mc)) := by
    show ∀ _, _
    intro w' hb
    obtain ⟨a0, a1, a2, a3, a4, a5⟩ := (HX.out.below hb).six
    exact ⟨a0, a1, a2, a3, a4, a5, (HY.out.below hb).six⟩
  clear hW hx hy hz hbW hg hh og oh hal hl
  unfold Ent9.val at HMG ⊢
  rw [← HL.out]
  go_enter Tryz.func37, Tryz.ntmps37
  go_upto_region 1 with fail
  rw [HW.out]
  go_cut [5] (fun t5 wx => ∃ p, t5 = .slice (some ⟨p, 0, none⟩) g.o.v.length g.o.v.length ∧ Ints .u8 wx (some ⟨p, 0, none⟩) (orL (mask11 g.o) (mask11 h.o) g.o.v.length) ∧ Below W.heap.size W wx ∧ W.heap.size ≤ p ∧ p < wx.heap.size)
  case first =>
    go_region_held3 (fun w' => w'.cell? ⟨w.heap.size, 0, none⟩ = some (.int .i64 g.o.C) ∧ w'.cell? ⟨w.heap.size, 1, none⟩ = some (.int .i64 g.o.F) ∧ w'.cell? ⟨w.heap.size, 2, none⟩ = some (.bool g.o.H) ∧ w'.cell? ⟨w.heap.size, 3, none⟩ = some (.int .u64 g.o.X) ∧ w'.cell? ⟨w.heap.size, 4, none⟩ = some (.slice g.va g.o.v.length g.vc) ∧ w'.cell? ⟨w.heap.size, 5, none⟩ = some (.slice g.ma g.o.m.length g.mc) ∧
      w'.cell? ⟨w.heap.size + 1, 0, none⟩ = some (.int .i64 h.o.C) ∧ w'.cell? ⟨w.heap.size + 1, 1, none⟩ = some (.int .i64 h.o.F) ∧ w'.cell? ⟨w.heap.size + 1, 2, none⟩ = some (.bool h.o.H) ∧ w'.cell? ⟨w.heap.size + 1, 3, none⟩ = some (.int .u64 h.o.X) ∧ w'.cell? ⟨w.heap.size + 1, 4, none⟩ = some (.slice h.va g.o.v.length h.vc) ∧ w'.cell? ⟨w.heap.size + 1, 5, none⟩ = some (.slice h.ma h.o.m.length h.mc))
      (first | exact KS.out _ hb7 | exact KS.out _ hb6 | exact KS.out _ hb5 | exact KS.out _ (below_drew8 W) | fail)
      (first
        | (go_at_call 61; (with_reducible refine (HMG.out _ ?_).mono ?_); exact HG.out.below (below_drew8 W); rintro e w5 ⟨p5, rfl, i5, b5, n5⟩; have hb5 := below_on (below_drew8 W) b5)
        | (go_at_call 61; (with_reducible refine (HMH.out _ ?_).mono ?_); exact HH.out.below hb5; rintro e w6 ⟨p6, rfl, i6, b6, n6⟩; have hb6 := below_on hb5 b6)
        | (go_at_call 60; refine (either_any (mask11 g.o) (mask11 h.o) g.o.v.length _ _ _ _ _ HML.out.1 (by rw [HML.out.2, HL.out]) hs (i5.below b6) i6).mono ?_; rintro e w7 ⟨p7, rfl, i7, b7, n7, m7⟩; have hb7 := below_on hb6 b7)
        | fail)
    all_goals
      go_wp2_with fail
      go_meet
      exact ⟨p7, rfl, i7, hb7, Nat.le_trans hb6.size n7, m7⟩
  case rest =>
    obtain ⟨p, rfl, hI, hb, hp, hpl⟩ := hcut
    obtain ⟨w1, hw1⟩ : ∃ w1, w1 = wc := ⟨_, rfl⟩
    subst hw1
    go_upto_region 2 with fail
    go_cut [6] (fun t6 wx => ∃ X q, t6 = .pointer (some ⟨X, 0, none⟩) ∧ BoxL wx X [.int .i64 g.o.C, .int .i64 g.o.F, .bool false, .int .u64 g.o.X, .slice (some ⟨q, 0, none⟩) g.o.v.length g.o.v.length, .slice none 0 0] ∧ Ints .u8 wx (some ⟨q, 0, none⟩) (orL g.o.v h.o.v g.o.v.length) ∧ Below w1.heap.size w1 wx ∧ w1.heap.size ≤ X ∧ w1.heap.size ≤ q ∧ X ≠ q)
    case first =>
      go_region_held3 (fun w' => w'.cell? ⟨w.heap.size, 0, none⟩ = some (.int .i64 g.o.C) ∧ w'.cell? ⟨w.heap.size, 1, none⟩ = some (.int .i64 g.o.F) ∧ w'.cell? ⟨w.heap.size, 2, none⟩ = some (.bool g.o.H) ∧ w'.cell? ⟨w.heap.size, 3, none⟩ = some (.int .u64 g.o.X) ∧ w'.cell? ⟨w.heap.size, 4, none⟩ = some (.slice g.va g.o.v.length g.vc) ∧ w'.cell? ⟨w.heap.size, 5, none⟩ = some (.slice g.ma g.o.m.length g.mc) ∧
      w'.cell? ⟨w.heap.size + 1, 0, none⟩ = some (.int .i64 h.o.C) ∧ w'.cell? ⟨w.heap.size + 1, 1, none⟩ = some (.int .i64 h.o.F) ∧ w'.cell? ⟨w.heap.size + 1, 2, none⟩ = some (.bool h.o.H) ∧ w'.cell? ⟨w.heap.size + 1, 3, none⟩ = some (.int .u64 h.o.X) ∧ w'.cell? ⟨w.heap.size + 1, 4, none⟩ = some (.slice h.va g.o.v.length h.vc) ∧ w'.cell? ⟨w.heap.size + 1, 5, none⟩ = some (.slice h.ma h.o.m.length h.mc))
        (first | (refine KS.out _ (below_on hb ?_); (repeat (first | with_reducible exact hB7 | with_reducible exact Below.refl _ _ | with_reducible refine below_dr9 ?_ | with_reducible refine below_al9 ?_ | with_reducible refine Below.setCell ?_ (by simp) _))) | fail)
        (first
          | (go_at_call 60; refine (either_any g.o.v h.o.v g.o.v.length _ _ _ _ _ rfl HL.out.symm hs (HG.out.iv.below (below_on hb (below_drew8 w1))) (HH.out.iv.below (below_on hb (below_drew8 w1)))).mono ?_; rintro e w7 ⟨p7, rfl, i7, b7, n7, m7⟩; have hB7 := below_on (below_drew8 w1) b7)
          | (go_at_call 60; refine (either_any g.o.v h.o.v g.o.v.length _ _ _ _ _ rfl HL.out.symm hs (HG.out.iv.below (below_on hb (below_dr9 (below_alloc w1 _)))) (HH.out.iv.below (below_on hb (below_dr9 (below_alloc w1 _))))).mono ?_; rintro e w7 ⟨p7, rfl, i7, b7, n7, m7⟩; have hB7 := below_on (below_dr9 (below_alloc w1 _)) b7; have hZ7 := ((BoxL.new w1 [.int .i64 0, .int .i64 0, .bool false, .int .u64 0, .slice none 0 0, .slice none 0 0] 33).drew).below b7; obtain ⟨z0, z1, z2, z3, z4, z5⟩ := hZ7.six; have zf := hZ7.free)
          | fail)
      · go_wp2_with fail
        go_meet
        have hs7 : w1.heap.size ≤ w7.heap.size := hB7.size
        have hn7 : w1.heap.size ≤ p7 := n7
        exact ⟨w7.heap.size, p7, rfl, BoxL.new w7 [.int .i64 g.o.C, .int .i64 g.o.F, .bool false, .int .u64 g.o.X, .slice (some ⟨p7, 0, none⟩) g.o.v.length g.o.v.length, .slice none 0 0] 33, i7.below (below_alloc _ _), below_al9 hB7, hs7, hn7, by omega⟩
      · have hn7 : w1.heap.size + 1 ≤ p7 := by
          have := n7
          rw [show (w1.alloc (.cells #[.int .i64 0, .int .i64 0, .bool false, .int .u64 0, .slice none 0 0, .slice none 0 0] 33)).drew.heap.size = w1.heap.size + 1 from World.size_alloc ..] at this
          exact this
        have hQ := hZ7.set6 (.int .i64 g.o.C) (.int .i64 g.o.F) (.bool false) (.int .u64 g.o.X) (.slice (some ⟨p7, 0, none⟩) g.o.v.length g.o.v.length) (.slice none 0 0)
        have HQ := hid hQ
        have HI7 := hid i7
        have HB7 := hid hB7
        clear hQ z0 z1 z2 z3 z4 z5 zf i7 hZ7 hB7 b7
        go_wp2_with fail
        go_meet
        have hne := ne_block (p := p7) (X := w1.heap.size) (by omega)
        refine ⟨w1.heap.size, p7, rfl, HQ.out, ((((((HI7.out.apart _ hne).apart _ hne).apart _ hne).apart _ hne).apart _ hne).apart _ hne), ?_, Nat.le_refl _, by omega, by omega⟩
        repeat (with_reducible refine Below.setCell ?_ (by simp) _)
        exact HB7.out
    case rest =>
      obtain ⟨X, q, rfl, hX, hJ, hbx, hWX, hWq, hXq⟩ := hcut
      obtain ⟨w2, hw2⟩ : ∃ w2, w2 = wc := ⟨_, rfl⟩
      subst hw2
      have hb2 := below_on hb hbx
      have hsz : w.heap.size + 2 < W.heap.size := HZ.out.lt
      have hs1 : W.heap.size ≤ w1.heap.size := hb.size
      obtain ⟨d0, d1, d2, d3, d4, d5, f0, f1, f2, f3, f4, f5⟩ := KS.out w2 hb2
      obtain ⟨x0, x1, x2, x3, x4, x5⟩ := hX.six
      have xf := hX.free
      have hI2 := hI.below hbx
      have HI2 := hid hI2
      have HJ2 := hid hJ
      have HX2 := hid hX
      have HZ2 := hid (HZ.out.below hb2)
      have HBL := hid (below_on HB.out hb2)
      obtain ⟨z0, z1, z2, z3, z4, z5⟩ := (HZ.out.below hb2).six
      have zf := (HZ.out.below hb2).free
      have n1 : ¬ w.heap.size + 2 = X := by omega
      have n2 : ¬ X = w.heap.size + 2 := by omega
      have hwb : w.heap.size ≤ W.heap.size := by omega
      clear hI hb hbx hX hI2 hJ hb2 KS HMG HMH HX HY HZ HG HH
      by_cases hno : (g.o.H && h.o.H && !full11 g.o h.o) = false
      · cases h1 : g.o.H
        · rw [h1] at d2
          have HH1 := hid h1
          clear h1
          go_wp2_with fail
          have hk := (HZ2.out).set6 (.int .i64 g.o.C) (.int .i64 g.o.F) (.bool false) (.int .u64 g.o.X) (.slice (some ⟨q, 0, none⟩) g.o.v.length g.o.v.length) (.slice none 0 0)
          obtain ⟨k0, k1, k2, k3, k4, k5⟩ := hk.six
          have hne := ne_block (p := q) (X := w.heap.size + 2) (by omega)
          refine bodyPost_ret (v := .agg #[.int .i64 g.o.C, .int .i64 g.o.F, .bool false, .int .u64 g.o.X, .slice (some ⟨q, 0, none⟩) g.o.v.length g.o.v.length, .slice none 0 0]) (by simp [results, Tryz.results37, go_sem, k0, k1, k2, k3, k4, k5]) rfl (join_end_no hno ?_ ?_ (by omega) HRG.out)
          · exact ((((((HJ2.out.apart _ hne).apart _ hne).apart _ hne).apart _ hne).apart _ hne).apart _ hne)
          · repeat (with_reducible refine Below.setCell ?_ (by show w.heap.size ≤ w.heap.size + 1 + 1; omega) _)
            exact HBL.out
        · cases h2 : h.o.H
          · rw [h1] at d2
            rw [h2] at f2
            have HH1 := hid (And.intro h1 h2)
            clear h1 h2
            go_wp2_with fail
            have hk := (HZ2.out).set6 (.int .i64 g.o.C) (.int .i64 g.o.F) (.bool false) (.int .u64 g.o.X) (.slice (some ⟨q, 0, none⟩) g.o.v.length g.o.v.length) (.slice none 0 0)
            obtain ⟨k0, k1, k2, k3, k4, k5⟩ := hk.six
            have hne := ne_block (p := q) (X := w.heap.size + 2) (by omega)
            refine bodyPost_ret (v := .agg #[.int .i64 g.o.C, .int .i64 g.o.F, .bool false, .int .u64 g.o.X, .slice (some ⟨q, 0, none⟩) g.o.v.length g.o.v.length, .slice none 0 0]) (by simp [results, Tryz.results37, go_sem, k0, k1, k2, k3, k4, k5]) rfl (join_end_no hno ?_ ?_ (by omega) HRG.out)
            · exact ((((((HJ2.out.apart _ hne).apart _ hne).apart _ hne).apart _ hne).apart _ hne).apart _ hne)
            · repeat (with_reducible refine Below.setCell ?_ (by show w.heap.size ≤ w.heap.size + 1 + 1; omega) _)
              exact HBL.out
          · have hf : full11 g.o h.o = true := by
              rw [h1, h2] at hno
              cases e : full11 g.o h.o
              · rw [e] at hno; cases hno
              · rfl
            have HWH : Hid (Calls Tryz.prog 62 #[.agg #[.int .i64 g.o.C, .int .i64 g.o.F, .bool false, .int .u64 g.o.X, .slice (some ⟨q, 0, none⟩) g.o.v.length g.o.v.length, .slice none 0 0], .slice (some ⟨p, 0, none⟩) g.o.v.length g.o.v.length] w2 fun e w' => e = .returned (.bool true) ∧ Below w2.heap.size w2 w') := by
              show Calls _ _ _ _ _
              have h3 := HFU.out h1 h2
              rw [hf] at h3
              refine (whole_any g.o.C g.o.F false g.o.X (some ⟨q, 0, none⟩) g.o.v.length g.o.v.length none 0 0 _ g.o.v.length (some ⟨p, 0, none⟩) g.o.v.length w2 (orL_length _ _ _) hs (orL_oct _ _ _) HI2.out).mono ?_
              rintro e w' ⟨rfl, hb'⟩
              exact ⟨by rw [← h3], hb'⟩
            rw [h1] at d2
            rw [h2] at f2
            have HNO := hid hno
            clear h1 h2 hf HFU hno
            go_wp2_with fail
            refine HWH.out.mono ?_
            rintro e w5 ⟨rfl, hb5⟩
            have hno := HNO.out
            obtain ⟨x0, x1, x2, x3, x4, x5⟩ := (HX2.out.below hb5).six
            have xf := (HX2.out.below hb5).free
            obtain ⟨z0, z1, z2, z3, z4, z5⟩ := (HZ2.out.below hb5).six
            have zf := (HZ2.out.below hb5).free
            have HJ5 := hid (HJ2.out.below hb5)
            have HI5 := hid (HI2.out.below hb5)
            have HZ5 := hid (HZ2.out.below hb5)
            have HX5 := hid (HX2.out.below hb5)
            have HB5 := hid (below_on HBL.out hb5)
            clear hb5 d0 d1 d2 d3 d4 d5 f0 f1 f2 f3 f4 f5
            go_wp2_with fail
            have hk := (HZ5.out).set6 (.int .i64 g.o.C) (.int .i64 g.o.F) (.bool false) (.int .u64 g.o.X) (.slice (some ⟨q, 0, none⟩) g.o.v.length g.o.v.length) (.slice none 0 0)
            obtain ⟨k0, k1, k2, k3, k4, k5⟩ := hk.six
            have hne := ne_block (p := q) (X := w.heap.size + 2) (by omega)
            refine bodyPost_ret (v := .agg #[.int .i64 g.o.C, .int .i64 g.o.F, .bool false, .int .u64 g.o.X, .slice (some ⟨q, 0, none⟩) g.o.v.length g.o.v.length, .slice none 0 0]) (by simp [results, Tryz.results37, go_sem, k0, k1, k2, k3, k4, k5]) rfl (join_end_no hno ?_ ?_ (by omega) HRG.out)
            · exact ((((((HJ5.out.apart _ hne).apart _ hne).apart _ hne).apart _ hne).apart _ hne).apart _ hne)
            · repeat (with_reducible refine Below.setCell ?_ (by show w.heap.size ≤ w.heap.size + 1 + 1; omega) _)
              exact HB5.out
      · have hy : (g.o.H && h.o.H && !full11 g.o h.o) = true := (Bool.not_eq_false _).mp hno
        have hy2 := hy
        rw [Bool.and_eq_true, Bool.and_eq_true, Bool.not_eq_true'] at hy2
        obtain ⟨⟨h1, h2⟩, hf⟩ := hy2
        have HYES := hid hy
        clear hy
        have HWH : Hid (Calls Tryz.prog 62 #[.agg #[.int .i64 g.o.C, .int .i64 g.o.F, .bool false, .int .u64 g.o.X, .slice (some ⟨q, 0, none⟩) g.o.v.length g.o.v.length, .slice none 0 0], .slice (some ⟨p, 0, none⟩) g.o.v.length g.o.v.length] w2 fun e w' => e = .returned (.bool false) ∧ Below w2.heap.size w2 w') := by
          show Calls _ _ _ _ _
          have h3 := HFU.out h1 h2
          rw [hf] at h3
          refine (whole_any g.o.C g.o.F false g.o.X (some ⟨q, 0, none⟩) g.o.v.length g.o.v.length none 0 0 _ g.o.v.length (some ⟨p, 0, none⟩) g.o.v.length w2 (orL_length _ _ _) hs (orL_oct _ _ _) HI2.out).mono ?_
          rintro e w' ⟨rfl, hb'⟩
          exact ⟨by rw [← h3], hb'⟩
        rw [h1] at d2
        rw [h2] at f2
        clear h1 h2 hf HFU hno
        go_wp2_with fail
        refine HWH.out.mono ?_
        rintro e w5 ⟨rfl, hb5⟩
        obtain ⟨x0, x1, x2, x3, x4, x5⟩ := (HX2.out.below hb5).six
        have xf := (HX2.out.below hb5).free
        obtain ⟨z0, z1, z2, z3, z4, z5⟩ := (HZ2.out.below hb5).six
        have zf := (HZ2.out.below hb5).free
        have HJ5 := hid (HJ2.out.below hb5)
        have HI5 := hid (HI2.out.below hb5)
        have HZ5 := hid (HZ2.out.below hb5)
        have HX5 := hid (HX2.out.below hb5)
        have HB5 := hid (below_on HBL.out hb5)
        clear hb5 d0 d1 d2 d3 d4 d5 f0 f1 f2 f3 f4 f5
        have hX6 := (HX5.out.set 2 (.bool true) (by simp)).set 5 (.slice (some ⟨p, 0, none⟩) g.o.v.length g.o.v.length) (by simp)
        have HX6 := hid hX6
        clear hX6
        go_upto_region 5 with fail
        obtain ⟨y0, y1, y2, y3, y4, y5⟩ := HX6.out.six
        clear x0 x1 x2 x3 x4 x5 xf z0 z1 z2 z3 z4 z5 zf
        have hZ6 := (HZ5.out.far (c := X) (i := 2) (.bool true) n2).far (c := X) (i := 5) (.slice (some ⟨p, 0, none⟩) g.o.v.length g.o.v.length) n2
        obtain ⟨z0, z1, z2, z3, z4, z5⟩ := hZ6.six
        have zf := hZ6.free
        have HZ6 := hid hZ6
        clear hZ6
        go_wp2_with fail
        have hk := HZ6.out.set6 (.int .i64 g.o.C) (.int .i64 g.o.F) (.bool true) (.int .u64 g.o.X) (.slice (some ⟨q, 0, none⟩) g.o.v.length g.o.v.length) (.slice (some ⟨p, 0, none⟩) g.o.v.length g.o.v.length)
        obtain ⟨k0, k1, k2, k3, k4, k5⟩ := hk.six
        have hne := ne_block (p := q) (X := w.heap.size + 2) (by omega)
        have hnX := ne_block (p := q) (X := X) (fun e => hXq e.symm)
        have hnp := ne_block (p := p) (X := w.heap.size + 2) (by omega)
        have hnpX := ne_block (p := p) (X := X) (by omega)
        refine bodyPost_ret (v := .agg #[.int .i64 g.o.C, .int .i64 g.o.F, .bool true, .int .u64 g.o.X, .slice (some ⟨q, 0, none⟩) g.o.v.length g.o.v.length, .slice (some ⟨p, 0, none⟩) g.o.v.length g.o.v.length]) (by simp [results, Tryz.results37, go_sem, k0, k1, k2, k3, k4, k5]) rfl (join_end_yes HYES.out ?_ ?_ ?_ (by omega) (by omega) HRG.out)
        · exact ((((((((HJ5.out.apart _ hnX).apart _ hnX).apart _ hne).apart _ hne).apart _ hne).apart _ hne).apart _ hne).apart _ hne)
        · exact ((((((((HI5.out.apart _ hnpX).apart _ hnpX).apart _ hnp).apart _ hnp).apart _ hnp).apart _ hnp).apart _ hnp).apart _ hnp)
        · repeat (with_reducible refine Below.setCell ?_ (by first | (show w.heap.size ≤ w.heap.size + 1 + 1; omega) | (show w.heap.size ≤ X; omega)) _)
          exact HB5.out
end Go.Proofs.YtpmkfkanolhocaaGreat
