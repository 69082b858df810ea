/- Put together out of several texts. -/
import Derived.Test.YtdjlbejhphbcoaaGreatV21
import Derived.Test.YtdjlbejhphbcoaaGreatV19
import Derived.Test.YtdjlbejhphbcoaaGreatV6
import Derived.WalkMore
namespace Go.Proofs.YtdjlbejhphbcoaaGreat
open Go.RowKit
set_option linter.unusedVariables false

theorem body_bad {a : Act12} {w : List Int} (h25 : a.T ≠ 25) (hr : row12 a.T = some w) (hc : ¬ cond12 a w) : body12 a = none := by
  unfold body12
  rw [if_neg h25, hr]
  exact if_neg hc
theorem body_noput {a : Act12} {w : List Int} (h25 : a.T ≠ 25) (hr : row12 a.T = some w) (hp : putW w (nums12 a w) = none) : body12 a = none := by
  by_cases hc : cond12 a w
  · unfold body12
    rw [if_neg h25, hr]
    refine (if_pos hc).trans ?_
    rw [hp]
    rfl
  · exact body_bad h25 hr hc
theorem body_ok12 {a : Act12} {w p : List Int} (h25 : a.T ≠ 25) (hr : row12 a.T = some w) (hc : cond12 a w) (hp : putW w (nums12 a w) = some p) : body12 a = some (p ++ a.d) := by
  unfold body12
  rw [if_neg h25, hr]
  refine (if_pos hc).trans ?_
  rw [hp]
  rfl
theorem body_norow {a : Act12} (h25 : a.T ≠ 25) (hr : row12 a.T = none) : body12 a = none := by
  unfold body12
  rw [if_neg h25, hr]
theorem body_set_no {a : Act12} (h25 : a.T = 25) (h : ¬ (a.A = 0 ∧ a.B = 0 ∧ a.d = [] ∧ setOk12 a.o = true)) : body12 a = none := by
  unfold body12
  rw [if_pos h25]
  exact if_neg h
theorem body_set_yes {a : Act12} (h25 : a.T = 25) (h : a.A = 0 ∧ a.B = 0 ∧ a.d = [] ∧ setOk12 a.o = true) : body12 a = some (bytes10 a.o ++ List.replicate (pad12 (bytes10 a.o).length) 0) := by
  unfold body12
  rw [if_pos h25]
  exact if_pos h
/-- what is behind the length, or that there is nothing such -/
def BodyPost12 (a : Act12) (w : World) (e : Ending) (w' : World) : Prop :=
  (body12 a = none ∧ e = .returned (.tuple #[.slice none 0 0, .bool false]) ∧ Below w.heap.size w w') ∨
  (∃ x ad cp, body12 a = some x ∧ e = .returned (.tuple #[.slice ad x.length cp, .bool true]) ∧ Below w.heap.size w w' ∧ Ints .u8 w' ad x)
theorem act_oxm_box (w : World) (T A B C F : Int) (H : Bool) (X : Int) (va : Option Addr) (vl vc : Nat) (ma : Option Addr) (ml mc : Nat) (da : Option Addr) (dl dc : Nat) :
    ∃ W, (w.alloc (.cells #[.int .i64 T, .int .u64 A, .int .u64 B, .int .i64 C, .int .i64 F, .bool H, .int .u64 X, .slice va vl vc, .slice ma ml mc, .slice da dl dc] 27)).alloc (.cells #[.int .i64 0, .int .i64 0, .bool false, .int .u64 0, .slice none 0 0, .slice none 0 0] 25) = W ∧ Below w.heap.size w W ∧
      BoxL W w.heap.size [.int .i64 T, .int .u64 A, .int .u64 B, .int .i64 C, .int .i64 F, .bool H, .int .u64 X, .slice va vl vc, .slice ma ml mc, .slice da dl dc] ∧ BoxL W (w.heap.size + 1) [.int .i64 0, .int .i64 0, .bool false, .int .u64 0, .slice none 0 0, .slice none 0 0] := by
  obtain ⟨W1, h1, hb1, hx⟩ := act_box w T A B C F H X va vl vc ma ml mc da dl dc
  obtain ⟨W2, h2, hb2, hy⟩ := oxm_box W1 0 0 false 0 none 0 0 none 0 0
  have e : W1.heap.size = w.heap.size + 1 := by rw [← h1]; simp
  rw [e] at hy
  exact ⟨W2, by rw [h1, h2], below_on hb1 hb2, hx.below hb2, hy⟩
set_option maxRecDepth 100000 in
set_option maxHeartbeats 4000000 in
theorem body12_norow (g : Ent12) (w : World) (hi : ActIn w g) (h25 : g.T ≠ 25) (hr : row12 g.T = none) :
    Calls Tryz.prog 50 #[g.val] w (BodyPost12 g.act w) := by
  obtain ⟨W, hW, hbW, hx, hy⟩ := act_oxm_box w g.T g.A g.B g.o.C g.o.F g.o.H g.o.X g.va g.o.v.length g.vc g.ma g.o.m.length g.mc g.da g.d.length g.dc
  have HW := hid hW
  have HB := hid hbW
  have HN : Hid (body12 g.act = none) := body_norow h25 hr
  have RO := hid (refRow12_any g.T W)
  have e9 : (row12 g.T).isSome = false := by rw [hr]; rfl
  rw [e9] at RO
  have c25 : (g.T == 25) = false := by simpa using h25
  clear hi hW hbW hr e9 h25
  obtain ⟨T, A, B, ⟨C, F, H, X, v, m⟩, va, vc, ma, mc, d, da, dc⟩ := g
  unfold Ent12.val at *
  simp only at *
  obtain ⟨d0, d1, d2, d3, d4, d5, d6, d7, d8, d9⟩ := hx.ten
  obtain ⟨e0, e1, e2, e3, e4, e5⟩ := hy.six
  go_enter Tryz.func50, Tryz.ntmps50
  go_upto_region 2 with fail
  rw [HW.out]
  go_wp2_with fail
  have HC0 := hid (Below.refl W.heap.size W)
  have HA0 := HB
  refine RO.out.mono ?_
  rintro e w1 ⟨ra, rfl, hI1, hb⟩
  have I1 := hid hI1
  clear hI1
  have HA1 := hid (below_on HA0.out hb)
  have HC1 := hid (below_on HC0.out hb)
  clear hb
  clear d0 d1 d2 d3 d4 d5 d6 d7 d8 d9
  clear e0 e1 e2 e3 e4 e5
  obtain ⟨d0, d1, d2, d3, d4, d5, d6, d7, d8, d9⟩ := (hx.below HC1.out).ten
  obtain ⟨e0, e1, e2, e3, e4, e5⟩ := (hy.below HC1.out).six
  go_wp2_with fail
  go_ret2
  exact .inl ⟨HN.out, rfl, HA1.out⟩
set_option maxRecDepth 100000 in
set_option maxHeartbeats 4000000 in
theorem body12_notnone (g : Ent12) (w : World) (hi : ActIn w g) (l : List Int) (h25 : g.T ≠ 25) (hr : row12 g.T = some l) (ho : g.o ≠ noOx) :
    Calls Tryz.prog 50 #[g.val] w (BodyPost12 g.act w) := by
  obtain ⟨W, hW, hbW, hx, hy⟩ := act_oxm_box w g.T g.A g.B g.o.C g.o.F g.o.H g.o.X g.va g.o.v.length g.vc g.ma g.o.m.length g.mc g.da g.d.length g.dc
  have HW := hid hW
  have HB := hid hbW
  obtain ⟨k1, k2, k3, k4, k5, k6⟩ := count_le12 g.T
  have e8 : rowP g.T = l := by simp [rowP, hr]
  have e9 : (row12 g.T).isSome = true := by rw [hr]; rfl
  have RO := hid (refRow12_any g.T W)
  rw [e8] at RO k1 k2 k3 k4 k5 k6
  rw [e9] at RO
  have c25 : (g.T == 25) = false := by simpa using h25
  have SO := hid (fun V (hV : Below w.heap.size w V) => refSame8_any g.o.C g.o.F g.o.H g.o.X g.va g.vc g.ma g.mc 0 0 false 0 none 0 none 0 g.o.v g.o.m [] [] hi.lv hi.lm (by simp) (by simp) hi.ov hi.om (by intro x hx; cases hx) (by intro x hx; cases hx) V (hi.iv.below hV) (hi.im.below hV) (Ints.nil _ _ _) (Ints.nil _ _ _))
  have HN : Hid (body12 g.act = none) := body_bad (w := l) h25 hr (fun k => ho k.1)
  have es : sameB g.o.C g.o.F g.o.H g.o.X 0 0 false 0 g.o.v g.o.m [] [] = false := by
    have := same9_iff g.o noOx
    cases hs : same9 g.o noOx
    · exact hs
    · exact absurd (this.1 hs) ho
  rw [es] at SO
  clear hi hW hbW hr e8 e9 es ho h25 k1 k2 k3 k4 k5 k6
  obtain ⟨T, A, B, ⟨C, F, H, X, v, m⟩, va, vc, ma, mc, d, da, dc⟩ := g
  unfold Ent12.val at *
  simp only at *
  obtain ⟨d0, d1, d2, d3, d4, d5, d6, d7, d8, d9⟩ := hx.ten
  obtain ⟨e0, e1, e2, e3, e4, e5⟩ := hy.six
  go_enter Tryz.func50, Tryz.ntmps50
  go_upto_region 2 with fail
  rw [HW.out]
  go_wp2_with fail
  have HC0 := hid (Below.refl W.heap.size W)
  have HA0 := HB
  refine RO.out.mono ?_
  rintro e w1 ⟨ra, rfl, hI1, hb⟩
  have I1 := hid hI1
  clear hI1
  have HA1 := hid (below_on HA0.out hb)
  have HC1 := hid (below_on HC0.out hb)
  clear hb
  clear d0 d1 d2 d3 d4 d5 d6 d7 d8 d9
  clear e0 e1 e2 e3 e4 e5
  obtain ⟨d0, d1, d2, d3, d4, d5, d6, d7, d8, d9⟩ := (hx.below HC1.out).ten
  obtain ⟨e0, e1, e2, e3, e4, e5⟩ := (hy.below HC1.out).six
  go_wp2_with fail
  refine (SO.out _ HA1.out).mono ?_
  rintro e w2 ⟨rfl, hb⟩
  have HA2 := hid (below_on HA1.out hb)
  have HC2 := hid (below_on HC1.out hb)
  clear hb
  clear d0 d1 d2 d3 d4 d5 d6 d7 d8 d9
  clear e0 e1 e2 e3 e4 e5
  obtain ⟨d0, d1, d2, d3, d4, d5, d6, d7, d8, d9⟩ := (hx.below HC2.out).ten
  obtain ⟨e0, e1, e2, e3, e4, e5⟩ := (hy.below HC2.out).six
  go_wp2_with fail
  go_ret2
  exact .inl ⟨HN.out, rfl, HA2.out⟩
set_option maxRecDepth 100000 in
set_option maxHeartbeats 4000000 in
theorem body12_asked (g : Ent12) (w : World) (hi : ActIn w g) (l : List Int) (h25 : g.T ≠ 25) (hr : row12 g.T = some l) (ho : g.o = noOx) (has : asked12 g.T g.A ≠ 0) :
    Calls Tryz.prog 50 #[g.val] w (BodyPost12 g.act w) := by
  obtain ⟨W, hW, hbW, hx, hy⟩ := act_oxm_box w g.T g.A g.B g.o.C g.o.F g.o.H g.o.X g.va g.o.v.length g.vc g.ma g.o.m.length g.mc g.da g.d.length g.dc
  have HW := hid hW
  have HB := hid hbW
  obtain ⟨k1, k2, k3, k4, k5, k6⟩ := count_le12 g.T
  have e8 : rowP g.T = l := by simp [rowP, hr]
  have e9 : (row12 g.T).isSome = true := by rw [hr]; rfl
  have RO := hid (refRow12_any g.T W)
  rw [e8] at RO k1 k2 k3 k4 k5 k6
  rw [e9] at RO
  have c25 : (g.T == 25) = false := by simpa using h25
  have SO := hid (fun V (hV : Below w.heap.size w V) => refSame8_any g.o.C g.o.F g.o.H g.o.X g.va g.vc g.ma g.mc 0 0 false 0 none 0 none 0 g.o.v g.o.m [] [] hi.lv hi.lm (by simp) (by simp) hi.ov hi.om (by intro x hx; cases hx) (by intro x hx; cases hx) V (hi.iv.below hV) (hi.im.below hV) (Ints.nil _ _ _) (Ints.nil _ _ _))
  have es : sameB g.o.C g.o.F g.o.H g.o.X 0 0 false 0 g.o.v g.o.m [] [] = true := (same9_iff g.o noOx).2 ho
  rw [es] at SO
  have AS := hid (fun V => refAsked_any g.T g.A V)
  have hH : g.o.H = false := by rw [ho]; rfl
  have HN : Hid (body12 g.act = none) := body_bad (w := l) h25 hr (fun k => has k.2.1)
  obtain ⟨q, hq⟩ : ∃ q, asked12 g.T g.A = q := ⟨_, rfl⟩
  rw [hq] at AS has
  have q1 : (q != 0) = true := by simpa using has
  clear hi hW hbW hr e8 e9 es h25 k1 k2 k3 k4 k5 k6 has hq ho
  obtain ⟨T, A, B, ⟨C, F, H, X, v, m⟩, va, vc, ma, mc, d, da, dc⟩ := g
  have hH2 : H = false := hH
  clear hH
  subst hH2
  unfold Ent12.val at *
  simp only at *
  obtain ⟨d0, d1, d2, d3, d4, d5, d6, d7, d8, d9⟩ := hx.ten
  obtain ⟨e0, e1, e2, e3, e4, e5⟩ := hy.six
  go_enter Tryz.func50, Tryz.ntmps50
  go_upto_region 2 with fail
  rw [HW.out]
  go_wp2_with fail
  have HC0 := hid (Below.refl W.heap.size W)
  have HA0 := HB
  refine RO.out.mono ?_
  rintro e w1 ⟨ra, rfl, hI1, hb⟩
  have I1 := hid hI1
  clear hI1
  have HA1 := hid (below_on HA0.out hb)
  have HC1 := hid (below_on HC0.out hb)
  clear hb
  clear d0 d1 d2 d3 d4 d5 d6 d7 d8 d9
  clear e0 e1 e2 e3 e4 e5
  obtain ⟨d0, d1, d2, d3, d4, d5, d6, d7, d8, d9⟩ := (hx.below HC1.out).ten
  obtain ⟨e0, e1, e2, e3, e4, e5⟩ := (hy.below HC1.out).six
  go_wp2_with fail
  refine (SO.out _ HA1.out).mono ?_
  rintro e w2 ⟨rfl, hb⟩
  have HA2 := hid (below_on HA1.out hb)
  have HC2 := hid (below_on HC1.out hb)
  clear hb
  clear d0 d1 d2 d3 d4 d5 d6 d7 d8 d9
  clear e0 e1 e2 e3 e4 e5
  obtain ⟨d0, d1, d2, d3, d4, d5, d6, d7, d8, d9⟩ := (hx.below HC2.out).ten
  obtain ⟨e0, e1, e2, e3, e4, e5⟩ := (hy.below HC2.out).six
  go_wp2_with fail
  refine (AS.out _).mono ?_
  rintro e w' ⟨rfl, rfl⟩
  go_wp2_with fail
  go_ret2
  exact .inl ⟨HN.out, rfl, HA2.out⟩
end Go.Proofs.YtdjlbejhphbcoaaGreat
namespace Go.Proofs.YtdjlbejhphbcoaaGreat
open Go.RowKit
set_option linter.unusedVariables false

set_option maxRecDepth 100000 in
set_option maxHeartbeats 4000000 in
theorem body12_a_put (g : Ent12) (w : World) (hi : ActIn w g) (l : List Int) (h25 : g.T ≠ 25) (hr : row12 g.T = some l) (ho : g.o = noOx) (has : asked12 g.T g.A = 0) (q2 : ¬ countL l < 2) (q1 : ¬ countL l < 1) (qT : g.T ≠ 65535) (hp : putW l (nums12 g.act l) = none) :
    Calls Tryz.prog 50 #[g.val] w (BodyPost12 g.act w) := by
  obtain ⟨W, hW, hbW, hx, hy⟩ := act_oxm_box w g.T g.A g.B g.o.C g.o.F g.o.H g.o.X g.va g.o.v.length g.vc g.ma g.o.m.length g.mc g.da g.d.length g.dc
  have HW := hid hW
  have HB := hid hbW
  obtain ⟨k1, k2, k3, k4, k5, k6⟩ := count_le12 g.T
  have e8 : rowP g.T = l := by simp [rowP, hr]
  have e9 : (row12 g.T).isSome = true := by rw [hr]; rfl
  have RO := hid (refRow12_any g.T W)
  rw [e8] at RO k1 k2 k3 k4 k5 k6
  rw [e9] at RO
  have c25 : (g.T == 25) = false := by simpa using h25
  have SO := hid (fun V (hV : Below w.heap.size w V) => refSame8_any g.o.C g.o.F g.o.H g.o.X g.va g.vc g.ma g.mc 0 0 false 0 none 0 none 0 g.o.v g.o.m [] [] hi.lv hi.lm (by simp) (by simp) hi.ov hi.om (by intro x hx; cases hx) (by intro x hx; cases hx) V (hi.iv.below hV) (hi.im.below hV) (Ints.nil _ _ _) (Ints.nil _ _ _))
  have es : sameB g.o.C g.o.F g.o.H g.o.X 0 0 false 0 g.o.v g.o.m [] [] = true := (same9_iff g.o noOx).2 ho
  rw [es] at SO
  have AS := hid (fun V => refAsked_any g.T g.A V)
  have hH : g.o.H = false := by rw [ho]; rfl
  have HN : Hid (body12 g.act = none) := body_noput (w := l) h25 hr hp
  rw [has] at AS
  have NU := hid (fun (V : World) (a : Option Addr) (c : Nat) (ia : Ints .i64 V a l) => refNums_at g.T g.A g.B g.o.C g.o.F g.o.H g.o.X g.va g.o.v.length g.vc g.ma g.o.m.length g.mc g.da g.d.length g.dc l a c (countL l) k2 k1 (by omega) V ia)
  have HU : Hid (U64s (nums12 g.act l)) := nums_u64 hi.num _
  have NL : Hid ((nums12 g.act l).length = countL l) := nums_len k1
  obtain ⟨nl, hnl⟩ : ∃ nl, nums12 g.act l = nl := ⟨_, rfl⟩
  have HNL : Hid ([g.A, g.B].take (countL l) = nl) := hnl
  rw [hnl] at HU NL hp
  have HP := hid hp
  obtain ⟨k, hk⟩ : ∃ k, countL l = k := ⟨_, rfl⟩
  rw [hk] at NU NL HNL q1 q2 k1
  have ID := hid hi.id
  have ld := hi.ld
  have g2 : decide ((k : Int) < 2) = false := by simp; omega
  have g2i : ¬ (k : Int) < 2 := by omega
  have gT : (g.T != 65535) = true := by simpa using qT
  clear hi hW hbW hr e8 e9 es h25 k2 k3 k4 k6 has ho hnl hp hk q1 q2 qT 
  obtain ⟨T, A, B, ⟨C, F, H, X, v, m⟩, va, vc, ma, mc, d, da, dc⟩ := g
  have hH2 : H = false := hH
  clear hH
  subst hH2
  unfold Ent12.val at *
  simp only at *
  obtain ⟨d0, d1, d2, d3, d4, d5, d6, d7, d8, d9⟩ := hx.ten
  obtain ⟨e0, e1, e2, e3, e4, e5⟩ := hy.six
  go_enter Tryz.func50, Tryz.ntmps50
  go_upto_region 2 with fail
  rw [HW.out]
  go_wp2_with fail
  have HC0 := hid (Below.refl W.heap.size W)
  have HA0 := HB
  refine RO.out.mono ?_
  rintro e w1 ⟨ra, rfl, hI1, hb⟩
  have I1 := hid hI1
  clear hI1
  have HA1 := hid (below_on HA0.out hb)
  have HC1 := hid (below_on HC0.out hb)
  clear hb
  clear d0 d1 d2 d3 d4 d5 d6 d7 d8 d9
  clear e0 e1 e2 e3 e4 e5
  obtain ⟨d0, d1, d2, d3, d4, d5, d6, d7, d8, d9⟩ := (hx.below HC1.out).ten
  obtain ⟨e0, e1, e2, e3, e4, e5⟩ := (hy.below HC1.out).six
  go_wp2_with fail
  refine (SO.out _ HA1.out).mono ?_
  rintro e w2 ⟨rfl, hb⟩
  have I2 := hid (I1.out.below hb)
  have HA2 := hid (below_on HA1.out hb)
  have HC2 := hid (below_on HC1.out hb)
  clear hb
  clear d0 d1 d2 d3 d4 d5 d6 d7 d8 d9
  clear e0 e1 e2 e3 e4 e5
  obtain ⟨d0, d1, d2, d3, d4, d5, d6, d7, d8, d9⟩ := (hx.below HC2.out).ten
  obtain ⟨e0, e1, e2, e3, e4, e5⟩ := (hy.below HC2.out).six
  go_wp2_with fail
  refine (AS.out _).mono ?_
  rintro e w' ⟨rfl, rfl⟩
  go_wp2_with fail
  refine (NU.out _ ra _ I2.out).mono ?_
  rintro e w3 ⟨b, rfl, hI3, hb⟩
  rw [HNL.out] at hI3
  have I3 := hid (I2.out.below hb)
  have J3 := hid hI3
  clear hI3
  have HA3 := hid (below_on HA2.out hb)
  have HC3 := hid (below_on HC2.out hb)
  clear hb
  clear d0 d1 d2 d3 d4 d5 d6 d7 d8 d9
  clear e0 e1 e2 e3 e4 e5
  obtain ⟨d0, d1, d2, d3, d4, d5, d6, d7, d8, d9⟩ := (hx.below HC3.out).ten
  obtain ⟨e0, e1, e2, e3, e4, e5⟩ := (hy.below HC3.out).six
  have hnl := NL.out
  have PU := refPut_any l nl ra b l.length 2 w3 (by omega) (by omega) HU.out I3.out J3.out
  rw [hnl, HP.out] at PU
  have PU := hid PU
  clear hnl
  go_wp2_with fail
  refine PU.out.mono ?_
  rintro e w4 (⟨_, rfl, hb⟩ | ⟨bs, v4, hq, _⟩)
  case inr => cases hq
  have HA4 := hid (below_on HA3.out hb)
  have HC4 := hid (below_on HC3.out hb)
  clear hb
  clear d0 d1 d2 d3 d4 d5 d6 d7 d8 d9
  clear e0 e1 e2 e3 e4 e5
  obtain ⟨d0, d1, d2, d3, d4, d5, d6, d7, d8, d9⟩ := (hx.below HC4.out).ten
  obtain ⟨e0, e1, e2, e3, e4, e5⟩ := (hy.below HC4.out).six
  go_wp2_with fail
  go_ret2
  exact .inl ⟨HN.out, rfl, HA4.out⟩
set_option maxRecDepth 100000 in
set_option maxHeartbeats 4000000 in
theorem body12_a_d0 (g : Ent12) (w : World) (hi : ActIn w g) (l : List Int) (h25 : g.T ≠ 25) (hr : row12 g.T = some l) (ho : g.o = noOx) (has : asked12 g.T g.A = 0) (q2 : ¬ countL l < 2) (q1 : ¬ countL l < 1) (qT : g.T ≠ 65535) (p : List Int) (hp : putW l (nums12 g.act l) = some p) (hd0 : g.d ≠ []) :
    Calls Tryz.prog 50 #[g.val] w (BodyPost12 g.act w) := by
  obtain ⟨W, hW, hbW, hx, hy⟩ := act_oxm_box w g.T g.A g.B g.o.C g.o.F g.o.H g.o.X g.va g.o.v.length g.vc g.ma g.o.m.length g.mc g.da g.d.length g.dc
  have HW := hid hW
  have HB := hid hbW
  obtain ⟨k1, k2, k3, k4, k5, k6⟩ := count_le12 g.T
  have e8 : rowP g.T = l := by simp [rowP, hr]
  have e9 : (row12 g.T).isSome = true := by rw [hr]; rfl
  have RO := hid (refRow12_any g.T W)
  rw [e8] at RO k1 k2 k3 k4 k5 k6
  rw [e9] at RO
  have c25 : (g.T == 25) = false := by simpa using h25
  have SO := hid (fun V (hV : Below w.heap.size w V) => refSame8_any g.o.C g.o.F g.o.H g.o.X g.va g.vc g.ma g.mc 0 0 false 0 none 0 none 0 g.o.v g.o.m [] [] hi.lv hi.lm (by simp) (by simp) hi.ov hi.om (by intro x hx; cases hx) (by intro x hx; cases hx) V (hi.iv.below hV) (hi.im.below hV) (Ints.nil _ _ _) (Ints.nil _ _ _))
  have es : sameB g.o.C g.o.F g.o.H g.o.X 0 0 false 0 g.o.v g.o.m [] [] = true := (same9_iff g.o noOx).2 ho
  rw [es] at SO
  have AS := hid (fun V => refAsked_any g.T g.A V)
  have hH : g.o.H = false := by rw [ho]; rfl
  have HN : Hid (body12 g.act = none) := body_bad (w := l) h25 hr (fun k => hd0 (k.2.2.2.2.1 qT))
  rw [has] at AS
  have NU := hid (fun (V : World) (a : Option Addr) (c : Nat) (ia : Ints .i64 V a l) => refNums_at g.T g.A g.B g.o.C g.o.F g.o.H g.o.X g.va g.o.v.length g.vc g.ma g.o.m.length g.mc g.da g.d.length g.dc l a c (countL l) k2 k1 (by omega) V ia)
  have HU : Hid (U64s (nums12 g.act l)) := nums_u64 hi.num _
  have NL : Hid ((nums12 g.act l).length = countL l) := nums_len k1
  obtain ⟨nl, hnl⟩ : ∃ nl, nums12 g.act l = nl := ⟨_, rfl⟩
  have HNL : Hid ([g.A, g.B].take (countL l) = nl) := hnl
  rw [hnl] at HU NL hp
  have HP := hid hp
  obtain ⟨k, hk⟩ : ∃ k, countL l = k := ⟨_, rfl⟩
  rw [hk] at NU NL HNL q1 q2 k1
  have ID := hid hi.id
  have ld := hi.ld
  have g2 : decide ((k : Int) < 2) = false := by simp; omega
  have g2i : ¬ (k : Int) < 2 := by omega
  have g1 : decide ((k : Int) < 1) = false := by simp; omega
  have g1i : ¬ (k : Int) < 1 := by omega
  have gT : (g.T != 65535) = true := by simpa using qT
  have gdn := List.length_pos_iff.2 hd0
  have gd : 0 < (g.d.length : Int) := by omega
  have gdb : decide (0 < g.d.length) = true := decide_eq_true gdn
  have gdi : decide (0 < (g.d.length : Int)) = true := decide_eq_true gd
  clear hi hW hbW hr e8 e9 es h25 k2 k3 k4 k6 has ho hnl hp hk q1 q2 qT hd0
  obtain ⟨T, A, B, ⟨C, F, H, X, v, m⟩, va, vc, ma, mc, d, da, dc⟩ := g
  have hH2 : H = false := hH
  clear hH
  subst hH2
  unfold Ent12.val at *
  simp only at *
  obtain ⟨d0, d1, d2, d3, d4, d5, d6, d7, d8, d9⟩ := hx.ten
  obtain ⟨e0, e1, e2, e3, e4, e5⟩ := hy.six
  go_enter Tryz.func50, Tryz.ntmps50
  go_upto_region 2 with fail
  rw [HW.out]
  go_wp2_with fail
  have HC0 := hid (Below.refl W.heap.size W)
  have HA0 := HB
  refine RO.out.mono ?_
  rintro e w1 ⟨ra, rfl, hI1, hb⟩
  have I1 := hid hI1
  clear hI1
  have HA1 := hid (below_on HA0.out hb)
  have HC1 := hid (below_on HC0.out hb)
  clear hb
  clear d0 d1 d2 d3 d4 d5 d6 d7 d8 d9
  clear e0 e1 e2 e3 e4 e5
  obtain ⟨d0, d1, d2, d3, d4, d5, d6, d7, d8, d9⟩ := (hx.below HC1.out).ten
  obtain ⟨e0, e1, e2, e3, e4, e5⟩ := (hy.below HC1.out).six
  go_wp2_with fail
  refine (SO.out _ HA1.out).mono ?_
  rintro e w2 ⟨rfl, hb⟩
  have I2 := hid (I1.out.below hb)
  have HA2 := hid (below_on HA1.out hb)
  have HC2 := hid (below_on HC1.out hb)
  clear hb
  clear d0 d1 d2 d3 d4 d5 d6 d7 d8 d9
  clear e0 e1 e2 e3 e4 e5
  obtain ⟨d0, d1, d2, d3, d4, d5, d6, d7, d8, d9⟩ := (hx.below HC2.out).ten
  obtain ⟨e0, e1, e2, e3, e4, e5⟩ := (hy.below HC2.out).six
  go_wp2_with fail
  refine (AS.out _).mono ?_
  rintro e w' ⟨rfl, rfl⟩
  go_wp2_with fail
  refine (NU.out _ ra _ I2.out).mono ?_
  rintro e w3 ⟨b, rfl, hI3, hb⟩
  rw [HNL.out] at hI3
  have I3 := hid (I2.out.below hb)
  have J3 := hid hI3
  clear hI3
  have HA3 := hid (below_on HA2.out hb)
  have HC3 := hid (below_on HC2.out hb)
  clear hb
  clear d0 d1 d2 d3 d4 d5 d6 d7 d8 d9
  clear e0 e1 e2 e3 e4 e5
  obtain ⟨d0, d1, d2, d3, d4, d5, d6, d7, d8, d9⟩ := (hx.below HC3.out).ten
  obtain ⟨e0, e1, e2, e3, e4, e5⟩ := (hy.below HC3.out).six
  have hnl := NL.out
  have PU := refPut_any l nl ra b l.length 2 w3 (by omega) (by omega) HU.out I3.out J3.out
  rw [hnl, HP.out] at PU
  have PU := hid PU
  clear hnl
  go_wp2_with fail
  refine PU.out.mono ?_
  rintro e w4 (⟨hq, _⟩ | ⟨bs, v4, hq, rfl, hF⟩)
  · cases hq
  cases hq
  have hb := hF.bel
  have HF := hid hF
  clear hF
  have HA4 := hid (below_on HA3.out hb)
  have HC4 := hid (below_on HC3.out hb)
  clear hb
  clear d0 d1 d2 d3 d4 d5 d6 d7 d8 d9
  clear e0 e1 e2 e3 e4 e5
  obtain ⟨d0, d1, d2, d3, d4, d5, d6, d7, d8, d9⟩ := (hx.below HC4.out).ten
  obtain ⟨e0, e1, e2, e3, e4, e5⟩ := (hy.below HC4.out).six
  go_wp2_with fail
  go_ret2
  exact .inl ⟨HN.out, rfl, HA4.out⟩
set_option maxRecDepth 100000 in
set_option maxHeartbeats 4000000 in
theorem body12_a_ok (g : Ent12) (w : World) (hi : ActIn w g) (l : List Int) (h25 : g.T ≠ 25) (hr : row12 g.T = some l) (ho : g.o = noOx) (has : asked12 g.T g.A = 0) (q2 : ¬ countL l < 2) (q1 : ¬ countL l < 1) (qT : g.T ≠ 65535) (p : List Int) (hp : putW l (nums12 g.act l) = some p) (hd0 : g.d = []) :
    Calls Tryz.prog 50 #[g.val] w (BodyPost12 g.act w) := by
  obtain ⟨W, hW, hbW, hx, hy⟩ := act_oxm_box w g.T g.A g.B g.o.C g.o.F g.o.H g.o.X g.va g.o.v.length g.vc g.ma g.o.m.length g.mc g.da g.d.length g.dc
  have HW := hid hW
  have HB := hid hbW
  obtain ⟨k1, k2, k3, k4, k5, k6⟩ := count_le12 g.T
  have e8 : rowP g.T = l := by simp [rowP, hr]
  have e9 : (row12 g.T).isSome = true := by rw [hr]; rfl
  have RO := hid (refRow12_any g.T W)
  rw [e8] at RO k1 k2 k3 k4 k5 k6
  rw [e9] at RO
  have c25 : (g.T == 25) = false := by simpa using h25
  have SO := hid (fun V (hV : Below w.heap.size w V) => refSame8_any g.o.C g.o.F g.o.H g.o.X g.va g.vc g.ma g.mc 0 0 false 0 none 0 none 0 g.o.v g.o.m [] [] hi.lv hi.lm (by simp) (by simp) hi.ov hi.om (by intro x hx; cases hx) (by intro x hx; cases hx) V (hi.iv.below hV) (hi.im.below hV) (Ints.nil _ _ _) (Ints.nil _ _ _))
  have es : sameB g.o.C g.o.F g.o.H g.o.X 0 0 false 0 g.o.v g.o.m [] [] = true := (same9_iff g.o noOx).2 ho
  rw [es] at SO
  have AS := hid (fun V => refAsked_any g.T g.A V)
  have hH : g.o.H = false := by rw [ho]; rfl
  have HN : Hid (body12 g.act = some (p ++ g.d)) := body_ok12 (w := l) h25 hr ⟨ho, has, fun k => absurd k q2, fun k => absurd k q1, fun k => hd0, by show g.d.length % 8 = 0; rw [hd0]; rfl, by show g.d.length ≤ 65520; rw [hd0]; simp⟩ hp
  rw [has] at AS
  have NU := hid (fun (V : World) (a : Option Addr) (c : Nat) (ia : Ints .i64 V a l) => refNums_at g.T g.A g.B g.o.C g.o.F g.o.H g.o.X g.va g.o.v.length g.vc g.ma g.o.m.length g.mc g.da g.d.length g.dc l a c (countL l) k2 k1 (by omega) V ia)
  have HU : Hid (U64s (nums12 g.act l)) := nums_u64 hi.num _
  have NL : Hid ((nums12 g.act l).length = countL l) := nums_len k1
  obtain ⟨nl, hnl⟩ : ∃ nl, nums12 g.act l = nl := ⟨_, rfl⟩
  have HNL : Hid ([g.A, g.B].take (countL l) = nl) := hnl
  rw [hnl] at HU NL hp
  have HP := hid hp
  obtain ⟨k, hk⟩ : ∃ k, countL l = k := ⟨_, rfl⟩
  rw [hk] at NU NL HNL q1 q2 k1
  have ID := hid hi.id
  have HK4 : Hid (sizeL l ≤ 100) := by show _ ≤ _; omega
  have ld := hi.ld
  have g2 : decide ((k : Int) < 2) = false := by simp; omega
  have g2i : ¬ (k : Int) < 2 := by omega
  have g1 : decide ((k : Int) < 1) = false := by simp; omega
  have g1i : ¬ (k : Int) < 1 := by omega
  have gT : (g.T != 65535) = true := by simpa using qT
  have HD0 := hid hd0
  clear hi hW hbW hr e8 e9 es h25 k2 k3 k4 k6 has ho hnl hp hk q1 q2 qT hd0
  obtain ⟨T, A, B, ⟨C, F, H, X, v, m⟩, va, vc, ma, mc, d, da, dc⟩ := g
  have hH2 : H = false := hH
  clear hH
  subst hH2
  have hdd : d = [] := HD0.out
  clear HD0
  subst hdd
  unfold Ent12.val at *
  simp only [List.length_nil] at *
  obtain ⟨d0, d1, d2, d3, d4, d5, d6, d7, d8, d9⟩ := hx.ten
  obtain ⟨e0, e1, e2, e3, e4, e5⟩ := hy.six
  go_enter Tryz.func50, Tryz.ntmps50
  go_upto_region 2 with fail
  rw [HW.out]
  go_wp2_with fail
  have HC0 := hid (Below.refl W.heap.size W)
  have HA0 := HB
  refine RO.out.mono ?_
  rintro e w1 ⟨ra, rfl, hI1, hb⟩
  have I1 := hid hI1
  clear hI1
  have HA1 := hid (below_on HA0.out hb)
  have HC1 := hid (below_on HC0.out hb)
  clear hb
  clear d0 d1 d2 d3 d4 d5 d6 d7 d8 d9
  clear e0 e1 e2 e3 e4 e5
  obtain ⟨d0, d1, d2, d3, d4, d5, d6, d7, d8, d9⟩ := (hx.below HC1.out).ten
  obtain ⟨e0, e1, e2, e3, e4, e5⟩ := (hy.below HC1.out).six
  go_wp2_with fail
  refine (SO.out _ HA1.out).mono ?_
  rintro e w2 ⟨rfl, hb⟩
  have I2 := hid (I1.out.below hb)
  have HA2 := hid (below_on HA1.out hb)
  have HC2 := hid (below_on HC1.out hb)
  clear hb
  clear d0 d1 d2 d3 d4 d5 d6 d7 d8 d9
  clear e0 e1 e2 e3 e4 e5
  obtain ⟨d0, d1, d2, d3, d4, d5, d6, d7, d8, d9⟩ := (hx.below HC2.out).ten
  obtain ⟨e0, e1, e2, e3, e4, e5⟩ := (hy.below HC2.out).six
  go_wp2_with fail
  refine (AS.out _).mono ?_
  rintro e w' ⟨rfl, rfl⟩
  go_wp2_with fail
  refine (NU.out _ ra _ I2.out).mono ?_
  rintro e w3 ⟨b, rfl, hI3, hb⟩
  rw [HNL.out] at hI3
  have I3 := hid (I2.out.below hb)
  have J3 := hid hI3
  clear hI3
  have HA3 := hid (below_on HA2.out hb)
  have HC3 := hid (below_on HC2.out hb)
  clear hb
  clear d0 d1 d2 d3 d4 d5 d6 d7 d8 d9
  clear e0 e1 e2 e3 e4 e5
  obtain ⟨d0, d1, d2, d3, d4, d5, d6, d7, d8, d9⟩ := (hx.below HC3.out).ten
  obtain ⟨e0, e1, e2, e3, e4, e5⟩ := (hy.below HC3.out).six
  have hnl := NL.out
  have PU := refPut_any l nl ra b l.length 2 w3 (by omega) (by omega) HU.out I3.out J3.out
  rw [hnl, HP.out] at PU
  have PU := hid PU
  clear hnl
  go_wp2_with fail
  refine PU.out.mono ?_
  rintro e w4 (⟨hq, _⟩ | ⟨bs, v4, hq, rfl, hF⟩)
  · cases hq
  cases hq
  have hb := hF.bel
  have HF := hid hF
  clear hF
  have HA4 := hid (below_on HA3.out hb)
  have HC4 := hid (below_on HC3.out hb)
  clear hb
  clear d0 d1 d2 d3 d4 d5 d6 d7 d8 d9
  clear e0 e1 e2 e3 e4 e5
  obtain ⟨d0, d1, d2, d3, d4, d5, d6, d7, d8, d9⟩ := (hx.below HC4.out).ten
  obtain ⟨e0, e1, e2, e3, e4, e5⟩ := (hy.below HC4.out).six
  have HPL : Hid (p.length ≤ 100) := by
    have h1 := putL_octets (show putL l nl = some p by have h := HP.out; unfold putW at h; split at h; exact h; cases h)
    show p.length ≤ 100
    rw [h1.2]
    exact HK4.out
  obtain ⟨xs, hxs⟩ : ∃ xs, p ++ [] = xs := ⟨_, rfl⟩
  have HXS := hid hxs
  have HXL : Hid (xs.length ≤ 200000) := by show _ ≤ _; rw [← hxs, List.length_append]; have := HPL.out; (try simp only [List.length_nil]); omega
  rw [hxs] at HN
  clear hxs
  go_wp2_with (at_builtin; refine wp_app_ints rfl _ _ rfl elemU8 rfl HF.out.own rfl (l := []) rfl (ID.out.below HA4.out) HXS.out (by have := HXL.out; omega) (by have := HXL.out; omega) ?_; intro a5 c5 w5 hl5 hc5 hI5 hg5; have hF5 := HF.out.step hg5)
  go_ret2
  exact .inr ⟨xs, a5, c5, HN.out, rfl, below_on HA3.out hF5.bel, hI5⟩
set_option maxRecDepth 100000 in
set_option maxHeartbeats 4000000 in
theorem body12_b_put (g : Ent12) (w : World) (hi : ActIn w g) (l : List Int) (h25 : g.T ≠ 25) (hr : row12 g.T = some l) (ho : g.o = noOx) (has : asked12 g.T g.A = 0) (q2 : countL l < 2) (q1 : ¬ countL l < 1) (qT : g.T ≠ 65535) (hp : putW l (nums12 g.act l) = none) :
    Calls Tryz.prog 50 #[g.val] w (BodyPost12 g.act w) := by
  obtain ⟨W, hW, hbW, hx, hy⟩ := act_oxm_box w g.T g.A g.B g.o.C g.o.F g.o.H g.o.X g.va g.o.v.length g.vc g.ma g.o.m.length g.mc g.da g.d.length g.dc
  have HW := hid hW
  have HB := hid hbW
  obtain ⟨k1, k2, k3, k4, k5, k6⟩ := count_le12 g.T
  have e8 : rowP g.T = l := by simp [rowP, hr]
  have e9 : (row12 g.T).isSome = true := by rw [hr]; rfl
  have RO := hid (refRow12_any g.T W)
  rw [e8] at RO k1 k2 k3 k4 k5 k6
  rw [e9] at RO
  have c25 : (g.T == 25) = false := by simpa using h25
  have SO := hid (fun V (hV : Below w.heap.size w V) => refSame8_any g.o.C g.o.F g.o.H g.o.X g.va g.vc g.ma g.mc 0 0 false 0 none 0 none 0 g.o.v g.o.m [] [] hi.lv hi.lm (by simp) (by simp) hi.ov hi.om (by intro x hx; cases hx) (by intro x hx; cases hx) V (hi.iv.below hV) (hi.im.below hV) (Ints.nil _ _ _) (Ints.nil _ _ _))
  have es : sameB g.o.C g.o.F g.o.H g.o.X 0 0 false 0 g.o.v g.o.m [] [] = true := (same9_iff g.o noOx).2 ho
  rw [es] at SO
  have AS := hid (fun V => refAsked_any g.T g.A V)
  have hH : g.o.H = false := by rw [ho]; rfl
  have HN : Hid (body12 g.act = none) := body_noput (w := l) h25 hr hp
  rw [has] at AS
  have NU := hid (fun (V : World) (a : Option Addr) (c : Nat) (ia : Ints .i64 V a l) => refNums_at g.T g.A g.B g.o.C g.o.F g.o.H g.o.X g.va g.o.v.length g.vc g.ma g.o.m.length g.mc g.da g.d.length g.dc l a c (countL l) k2 k1 (by omega) V ia)
  have HU : Hid (U64s (nums12 g.act l)) := nums_u64 hi.num _
  have NL : Hid ((nums12 g.act l).length = countL l) := nums_len k1
  obtain ⟨nl, hnl⟩ : ∃ nl, nums12 g.act l = nl := ⟨_, rfl⟩
  have HNL : Hid ([g.A, g.B].take (countL l) = nl) := hnl
  rw [hnl] at HU NL hp
  have HP := hid hp
  obtain ⟨k, hk⟩ : ∃ k, countL l = k := ⟨_, rfl⟩
  rw [hk] at NU NL HNL q1 q2 k1
  have ID := hid hi.id
  have ld := hi.ld
  have g2 : decide ((k : Int) < 2) = true := by simp; omega
  have g2i : (k : Int) < 2 := by omega
  have gT : (g.T != 65535) = true := by simpa using qT
  clear hi hW hbW hr e8 e9 es h25 k2 k3 k4 k6 has ho hnl hp hk q1 q2 qT 
  obtain ⟨T, A, B, ⟨C, F, H, X, v, m⟩, va, vc, ma, mc, d, da, dc⟩ := g
  have hH2 : H = false := hH
  clear hH
  subst hH2
  unfold Ent12.val at *
  simp only at *
  obtain ⟨d0, d1, d2, d3, d4, d5, d6, d7, d8, d9⟩ := hx.ten
  obtain ⟨e0, e1, e2, e3, e4, e5⟩ := hy.six
  go_enter Tryz.func50, Tryz.ntmps50
  go_upto_region 2 with fail
  rw [HW.out]
  go_wp2_with fail
  have HC0 := hid (Below.refl W.heap.size W)
  have HA0 := HB
  refine RO.out.mono ?_
  rintro e w1 ⟨ra, rfl, hI1, hb⟩
  have I1 := hid hI1
  clear hI1
  have HA1 := hid (below_on HA0.out hb)
  have HC1 := hid (below_on HC0.out hb)
  clear hb
  clear d0 d1 d2 d3 d4 d5 d6 d7 d8 d9
  clear e0 e1 e2 e3 e4 e5
  obtain ⟨d0, d1, d2, d3, d4, d5, d6, d7, d8, d9⟩ := (hx.below HC1.out).ten
  obtain ⟨e0, e1, e2, e3, e4, e5⟩ := (hy.below HC1.out).six
  go_wp2_with fail
  refine (SO.out _ HA1.out).mono ?_
  rintro e w2 ⟨rfl, hb⟩
  have I2 := hid (I1.out.below hb)
  have HA2 := hid (below_on HA1.out hb)
  have HC2 := hid (below_on HC1.out hb)
  clear hb
  clear d0 d1 d2 d3 d4 d5 d6 d7 d8 d9
  clear e0 e1 e2 e3 e4 e5
  obtain ⟨d0, d1, d2, d3, d4, d5, d6, d7, d8, d9⟩ := (hx.below HC2.out).ten
  obtain ⟨e0, e1, e2, e3, e4, e5⟩ := (hy.below HC2.out).six
  go_wp2_with fail
  refine (AS.out _).mono ?_
  rintro e w' ⟨rfl, rfl⟩
  go_wp2_with fail
  refine (NU.out _ ra _ I2.out).mono ?_
  rintro e w3 ⟨b, rfl, hI3, hb⟩
  rw [HNL.out] at hI3
  have I3 := hid (I2.out.below hb)
  have J3 := hid hI3
  clear hI3
  have HA3 := hid (below_on HA2.out hb)
  have HC3 := hid (below_on HC2.out hb)
  clear hb
  clear d0 d1 d2 d3 d4 d5 d6 d7 d8 d9
  clear e0 e1 e2 e3 e4 e5
  obtain ⟨d0, d1, d2, d3, d4, d5, d6, d7, d8, d9⟩ := (hx.below HC3.out).ten
  obtain ⟨e0, e1, e2, e3, e4, e5⟩ := (hy.below HC3.out).six
  have hnl := NL.out
  have PU := refPut_any l nl ra b l.length 2 w3 (by omega) (by omega) HU.out I3.out J3.out
  rw [hnl, HP.out] at PU
  have PU := hid PU
  clear hnl
  go_wp2_with fail
  refine PU.out.mono ?_
  rintro e w4 (⟨_, rfl, hb⟩ | ⟨bs, v4, hq, _⟩)
  case inr => cases hq
  have HA4 := hid (below_on HA3.out hb)
  have HC4 := hid (below_on HC3.out hb)
  clear hb
  clear d0 d1 d2 d3 d4 d5 d6 d7 d8 d9
  clear e0 e1 e2 e3 e4 e5
  obtain ⟨d0, d1, d2, d3, d4, d5, d6, d7, d8, d9⟩ := (hx.below HC4.out).ten
  obtain ⟨e0, e1, e2, e3, e4, e5⟩ := (hy.below HC4.out).six
  go_wp2_with fail
  go_ret2
  exact .inl ⟨HN.out, rfl, HA4.out⟩
set_option maxRecDepth 100000 in
set_option maxHeartbeats 4000000 in
theorem body12_b_B (g : Ent12) (w : World) (hi : ActIn w g) (l : List Int) (h25 : g.T ≠ 25) (hr : row12 g.T = some l) (ho : g.o = noOx) (has : asked12 g.T g.A = 0) (q2 : countL l < 2) (q1 : ¬ countL l < 1) (qT : g.T ≠ 65535) (p : List Int) (hp : putW l (nums12 g.act l) = some p) (hB : g.B ≠ 0) :
    Calls Tryz.prog 50 #[g.val] w (BodyPost12 g.act w) := by
  obtain ⟨W, hW, hbW, hx, hy⟩ := act_oxm_box w g.T g.A g.B g.o.C g.o.F g.o.H g.o.X g.va g.o.v.length g.vc g.ma g.o.m.length g.mc g.da g.d.length g.dc
  have HW := hid hW
  have HB := hid hbW
  obtain ⟨k1, k2, k3, k4, k5, k6⟩ := count_le12 g.T
  have e8 : rowP g.T = l := by simp [rowP, hr]
  have e9 : (row12 g.T).isSome = true := by rw [hr]; rfl
  have RO := hid (refRow12_any g.T W)
  rw [e8] at RO k1 k2 k3 k4 k5 k6
  rw [e9] at RO
  have c25 : (g.T == 25) = false := by simpa using h25
  have SO := hid (fun V (hV : Below w.heap.size w V) => refSame8_any g.o.C g.o.F g.o.H g.o.X g.va g.vc g.ma g.mc 0 0 false 0 none 0 none 0 g.o.v g.o.m [] [] hi.lv hi.lm (by simp) (by simp) hi.ov hi.om (by intro x hx; cases hx) (by intro x hx; cases hx) V (hi.iv.below hV) (hi.im.below hV) (Ints.nil _ _ _) (Ints.nil _ _ _))
  have es : sameB g.o.C g.o.F g.o.H g.o.X 0 0 false 0 g.o.v g.o.m [] [] = true := (same9_iff g.o noOx).2 ho
  rw [es] at SO
  have AS := hid (fun V => refAsked_any g.T g.A V)
  have hH : g.o.H = false := by rw [ho]; rfl
  have HN : Hid (body12 g.act = none) := body_bad (w := l) h25 hr (fun k => hB (k.2.2.1 q2))
  rw [has] at AS
  have NU := hid (fun (V : World) (a : Option Addr) (c : Nat) (ia : Ints .i64 V a l) => refNums_at g.T g.A g.B g.o.C g.o.F g.o.H g.o.X g.va g.o.v.length g.vc g.ma g.o.m.length g.mc g.da g.d.length g.dc l a c (countL l) k2 k1 (by omega) V ia)
  have HU : Hid (U64s (nums12 g.act l)) := nums_u64 hi.num _
  have NL : Hid ((nums12 g.act l).length = countL l) := nums_len k1
  obtain ⟨nl, hnl⟩ : ∃ nl, nums12 g.act l = nl := ⟨_, rfl⟩
  have HNL : Hid ([g.A, g.B].take (countL l) = nl) := hnl
  rw [hnl] at HU NL hp
  have HP := hid hp
  obtain ⟨k, hk⟩ : ∃ k, countL l = k := ⟨_, rfl⟩
  rw [hk] at NU NL HNL q1 q2 k1
  have ID := hid hi.id
  have ld := hi.ld
  have g2 : decide ((k : Int) < 2) = true := by simp; omega
  have g2i : (k : Int) < 2 := by omega
  have gB : (g.B != 0) = true := by simpa using hB
  have gT : (g.T != 65535) = true := by simpa using qT
  clear hi hW hbW hr e8 e9 es h25 k2 k3 k4 k6 has ho hnl hp hk q1 q2 qT hB
  obtain ⟨T, A, B, ⟨C, F, H, X, v, m⟩, va, vc, ma, mc, d, da, dc⟩ := g
  have hH2 : H = false := hH
  clear hH
  subst hH2
  unfold Ent12.val at *
  simp only at *
  obtain ⟨d0, d1, d2, d3, d4, d5, d6, d7, d8, d9⟩ := hx.ten
  obtain ⟨e0, e1, e2, e3, e4, e5⟩ := hy.six
  go_enter Tryz.func50, Tryz.ntmps50
  go_upto_region 2 with fail
  rw [HW.out]
  go_wp2_with fail
  have HC0 := hid (Below.refl W.heap.size W)
  have HA0 := HB
  refine RO.out.mono ?_
  rintro e w1 ⟨ra, rfl, hI1, hb⟩
  have I1 := hid hI1
  clear hI1
  have HA1 := hid (below_on HA0.out hb)
  have HC1 := hid (below_on HC0.out hb)
  clear hb
  clear d0 d1 d2 d3 d4 d5 d6 d7 d8 d9
  clear e0 e1 e2 e3 e4 e5
  obtain ⟨d0, d1, d2, d3, d4, d5, d6, d7, d8, d9⟩ := (hx.below HC1.out).ten
  obtain ⟨e0, e1, e2, e3, e4, e5⟩ := (hy.below HC1.out).six
  go_wp2_with fail
  refine (SO.out _ HA1.out).mono ?_
  rintro e w2 ⟨rfl, hb⟩
  have I2 := hid (I1.out.below hb)
  have HA2 := hid (below_on HA1.out hb)
  have HC2 := hid (below_on HC1.out hb)
  clear hb
  clear d0 d1 d2 d3 d4 d5 d6 d7 d8 d9
  clear e0 e1 e2 e3 e4 e5
  obtain ⟨d0, d1, d2, d3, d4, d5, d6, d7, d8, d9⟩ := (hx.below HC2.out).ten
  obtain ⟨e0, e1, e2, e3, e4, e5⟩ := (hy.below HC2.out).six
  go_wp2_with fail
  refine (AS.out _).mono ?_
  rintro e w' ⟨rfl, rfl⟩
  go_wp2_with fail
  refine (NU.out _ ra _ I2.out).mono ?_
  rintro e w3 ⟨b, rfl, hI3, hb⟩
  rw [HNL.out] at hI3
  have I3 := hid (I2.out.below hb)
  have J3 := hid hI3
  clear hI3
  have HA3 := hid (below_on HA2.out hb)
  have HC3 := hid (below_on HC2.out hb)
  clear hb
  clear d0 d1 d2 d3 d4 d5 d6 d7 d8 d9
  clear e0 e1 e2 e3 e4 e5
  obtain ⟨d0, d1, d2, d3, d4, d5, d6, d7, d8, d9⟩ := (hx.below HC3.out).ten
  obtain ⟨e0, e1, e2, e3, e4, e5⟩ := (hy.below HC3.out).six
  have hnl := NL.out
  have PU := refPut_any l nl ra b l.length 2 w3 (by omega) (by omega) HU.out I3.out J3.out
  rw [hnl, HP.out] at PU
  have PU := hid PU
  clear hnl
  go_wp2_with fail
  refine PU.out.mono ?_
  rintro e w4 (⟨hq, _⟩ | ⟨bs, v4, hq, rfl, hF⟩)
  · cases hq
  cases hq
  have hb := hF.bel
  have HF := hid hF
  clear hF
  have HA4 := hid (below_on HA3.out hb)
  have HC4 := hid (below_on HC3.out hb)
  clear hb
  clear d0 d1 d2 d3 d4 d5 d6 d7 d8 d9
  clear e0 e1 e2 e3 e4 e5
  obtain ⟨d0, d1, d2, d3, d4, d5, d6, d7, d8, d9⟩ := (hx.below HC4.out).ten
  obtain ⟨e0, e1, e2, e3, e4, e5⟩ := (hy.below HC4.out).six
  go_wp2_with fail
  go_ret2
  exact .inl ⟨HN.out, rfl, HA4.out⟩
set_option maxRecDepth 100000 in
set_option maxHeartbeats 4000000 in
theorem body12_b_d0 (g : Ent12) (w : World) (hi : ActIn w g) (l : List Int) (h25 : g.T ≠ 25) (hr : row12 g.T = some l) (ho : g.o = noOx) (has : asked12 g.T g.A = 0) (q2 : countL l < 2) (q1 : ¬ countL l < 1) (qT : g.T ≠ 65535) (p : List Int) (hp : putW l (nums12 g.act l) = some p) (hB : g.B = 0) (hd0 : g.d ≠ []) :
    Calls Tryz.prog 50 #[g.val] w (BodyPost12 g.act w) := by
  obtain ⟨W, hW, hbW, hx, hy⟩ := act_oxm_box w g.T g.A g.B g.o.C g.o.F g.o.H g.o.X g.va g.o.v.length g.vc g.ma g.o.m.length g.mc g.da g.d.length g.dc
  have HW := hid hW
  have HB := hid hbW
  obtain ⟨k1, k2, k3, k4, k5, k6⟩ := count_le12 g.T
  have e8 : rowP g.T = l := by simp [rowP, hr]
  have e9 : (row12 g.T).isSome = true := by rw [hr]; rfl
  have RO := hid (refRow12_any g.T W)
  rw [e8] at RO k1 k2 k3 k4 k5 k6
  rw [e9] at RO
  have c25 : (g.T == 25) = false := by simpa using h25
  have SO := hid (fun V (hV : Below w.heap.size w V) => refSame8_any g.o.C g.o.F g.o.H g.o.X g.va g.vc g.ma g.mc 0 0 false 0 none 0 none 0 g.o.v g.o.m [] [] hi.lv hi.lm (by simp) (by simp) hi.ov hi.om (by intro x hx; cases hx) (by intro x hx; cases hx) V (hi.iv.below hV) (hi.im.below hV) (Ints.nil _ _ _) (Ints.nil _ _ _))
  have es : sameB g.o.C g.o.F g.o.H g.o.X 0 0 false 0 g.o.v g.o.m [] [] = true := (same9_iff g.o noOx).2 ho
  rw [es] at SO
  have AS := hid (fun V => refAsked_any g.T g.A V)
  have hH : g.o.H = false := by rw [ho]; rfl
  have HN : Hid (body12 g.act = none) := body_bad (w := l) h25 hr (fun k => hd0 (k.2.2.2.2.1 qT))
  rw [has] at AS
  have NU := hid (fun (V : World) (a : Option Addr) (c : Nat) (ia : Ints .i64 V a l) => refNums_at g.T g.A g.B g.o.C g.o.F g.o.H g.o.X g.va g.o.v.length g.vc g.ma g.o.m.length g.mc g.da g.d.length g.dc l a c (countL l) k2 k1 (by omega) V ia)
  have HU : Hid (U64s (nums12 g.act l)) := nums_u64 hi.num _
  have NL : Hid ((nums12 g.act l).length = countL l) := nums_len k1
  obtain ⟨nl, hnl⟩ : ∃ nl, nums12 g.act l = nl := ⟨_, rfl⟩
  have HNL : Hid ([g.A, g.B].take (countL l) = nl) := hnl
  rw [hnl] at HU NL hp
  have HP := hid hp
  obtain ⟨k, hk⟩ : ∃ k, countL l = k := ⟨_, rfl⟩
  rw [hk] at NU NL HNL q1 q2 k1
  have ID := hid hi.id
  have ld := hi.ld
  have g2 : decide ((k : Int) < 2) = true := by simp; omega
  have g2i : (k : Int) < 2 := by omega
  have g1 : decide ((k : Int) < 1) = false := by simp; omega
  have g1i : ¬ (k : Int) < 1 := by omega
  have gB : (g.B != 0) = false := by simpa using hB
  have gT : (g.T != 65535) = true := by simpa using qT
  have gdn := List.length_pos_iff.2 hd0
  have gd : 0 < (g.d.length : Int) := by omega
  have gdb : decide (0 < g.d.length) = true := decide_eq_true gdn
  have gdi : decide (0 < (g.d.length : Int)) = true := decide_eq_true gd
  clear hi hW hbW hr e8 e9 es h25 k2 k3 k4 k6 has ho hnl hp hk q1 q2 qT hB hd0
  obtain ⟨T, A, B, ⟨C, F, H, X, v, m⟩, va, vc, ma, mc, d, da, dc⟩ := g
  have hH2 : H = false := hH
  clear hH
  subst hH2
  unfold Ent12.val at *
  simp only at *
  obtain ⟨d0, d1, d2, d3, d4, d5, d6, d7, d8, d9⟩ := hx.ten
  obtain ⟨e0, e1, e2, e3, e4, e5⟩ := hy.six
  go_enter Tryz.func50, Tryz.ntmps50
  go_upto_region 2 with fail
  rw [HW.out]
  go_wp2_with fail
  have HC0 := hid (Below.refl W.heap.size W)
  have HA0 := HB
  refine RO.out.mono ?_
  rintro e w1 ⟨ra, rfl, hI1, hb⟩
  have I1 := hid hI1
  clear hI1
  have HA1 := hid (below_on HA0.out hb)
  have HC1 := hid (below_on HC0.out hb)
  clear hb
  clear d0 d1 d2 d3 d4 d5 d6 d7 d8 d9
  clear e0 e1 e2 e3 e4 e5
  obtain ⟨d0, d1, d2, d3, d4, d5, d6, d7, d8, d9⟩ := (hx.below HC1.out).ten
  obtain ⟨e0, e1, e2, e3, e4, e5⟩ := (hy.below HC1.out).six
  go_wp2_with fail
  refine (SO.out _ HA1.out).mono ?_
  rintro e w2 ⟨rfl, hb⟩
  have I2 := hid (I1.out.below hb)
  have HA2 := hid (below_on HA1.out hb)
  have HC2 := hid (below_on HC1.out hb)
  clear hb
  clear d0 d1 d2 d3 d4 d5 d6 d7 d8 d9
  clear e0 e1 e2 e3 e4 e5
  obtain ⟨d0, d1, d2, d3, d4, d5, d6, d7, d8, d9⟩ := (hx.below HC2.out).ten
  obtain ⟨e0, e1, e2, e3, e4, e5⟩ := (hy.below HC2.out).six
  go_wp2_with fail
  refine (AS.out _).mono ?_
  rintro e w' ⟨rfl, rfl⟩
  go_wp2_with fail
  refine (NU.out _ ra _ I2.out).mono ?_
  rintro e w3 ⟨b, rfl, hI3, hb⟩
  rw [HNL.out] at hI3
  have I3 := hid (I2.out.below hb)
  have J3 := hid hI3
  clear hI3
  have HA3 := hid (below_on HA2.out hb)
  have HC3 := hid (below_on HC2.out hb)
  clear hb
  clear d0 d1 d2 d3 d4 d5 d6 d7 d8 d9
  clear e0 e1 e2 e3 e4 e5
  obtain ⟨d0, d1, d2, d3, d4, d5, d6, d7, d8, d9⟩ := (hx.below HC3.out).ten
  obtain ⟨e0, e1, e2, e3, e4, e5⟩ := (hy.below HC3.out).six
  have hnl := NL.out
  have PU := refPut_any l nl ra b l.length 2 w3 (by omega) (by omega) HU.out I3.out J3.out
  rw [hnl, HP.out] at PU
  have PU := hid PU
  clear hnl
  go_wp2_with fail
  refine PU.out.mono ?_
  rintro e w4 (⟨hq, _⟩ | ⟨bs, v4, hq, rfl, hF⟩)
  · cases hq
  cases hq
  have hb := hF.bel
  have HF := hid hF
  clear hF
  have HA4 := hid (below_on HA3.out hb)
  have HC4 := hid (below_on HC3.out hb)
  clear hb
  clear d0 d1 d2 d3 d4 d5 d6 d7 d8 d9
  clear e0 e1 e2 e3 e4 e5
  obtain ⟨d0, d1, d2, d3, d4, d5, d6, d7, d8, d9⟩ := (hx.below HC4.out).ten
  obtain ⟨e0, e1, e2, e3, e4, e5⟩ := (hy.below HC4.out).six
  go_wp2_with fail
  go_ret2
  exact .inl ⟨HN.out, rfl, HA4.out⟩
set_option maxRecDepth 100000 in
set_option maxHeartbeats 4000000 in
theorem body12_b_ok (g : Ent12) (w : World) (hi : ActIn w g) (l : List Int) (h25 : g.T ≠ 25) (hr : row12 g.T = some l) (ho : g.o = noOx) (has : asked12 g.T g.A = 0) (q2 : countL l < 2) (q1 : ¬ countL l < 1) (qT : g.T ≠ 65535) (p : List Int) (hp : putW l (nums12 g.act l) = some p) (hB : g.B = 0) (hd0 : g.d = []) :
    Calls Tryz.prog 50 #[g.val] w (BodyPost12 g.act w) := by
  obtain ⟨W, hW, hbW, hx, hy⟩ := act_oxm_box w g.T g.A g.B g.o.C g.o.F g.o.H g.o.X g.va g.o.v.length g.vc g.ma g.o.m.length g.mc g.da g.d.length g.dc
  have HW := hid hW
  have HB := hid hbW
  obtain ⟨k1, k2, k3, k4, k5, k6⟩ := count_le12 g.T
  have e8 : rowP g.T = l := by simp [rowP, hr]
  have e9 : (row12 g.T).isSome = true := by rw [hr]; rfl
  have RO := hid (refRow12_any g.T W)
  rw [e8] at RO k1 k2 k3 k4 k5 k6
  rw [e9] at RO
  have c25 : (g.T == 25) = false := by simpa using h25
  have SO := hid (fun V (hV : Below w.heap.size w V) => refSame8_any g.o.C g.o.F g.o.H g.o.X g.va g.vc g.ma g.mc 0 0 false 0 none 0 none 0 g.o.v g.o.m [] [] hi.lv hi.lm (by simp) (by simp) hi.ov hi.om (by intro x hx; cases hx) (by intro x hx; cases hx) V (hi.iv.below hV) (hi.im.below hV) (Ints.nil _ _ _) (Ints.nil _ _ _))
  have es : sameB g.o.C g.o.F g.o.H g.o.X 0 0 false 0 g.o.v g.o.m [] [] = true := (same9_iff g.o noOx).2 ho
  rw [es] at SO
  have AS := hid (fun V => refAsked_any g.T g.A V)
  have hH : g.o.H = false := by rw [ho]; rfl
  have HN : Hid (body12 g.act = some (p ++ g.d)) := body_ok12 (w := l) h25 hr ⟨ho, has, fun k => hB, fun k => absurd k q1, fun k => hd0, by show g.d.length % 8 = 0; rw [hd0]; rfl, by show g.d.length ≤ 65520; rw [hd0]; simp⟩ hp
  rw [has] at AS
  have NU := hid (fun (V : World) (a : Option Addr) (c : Nat) (ia : Ints .i64 V a l) => refNums_at g.T g.A g.B g.o.C g.o.F g.o.H g.o.X g.va g.o.v.length g.vc g.ma g.o.m.length g.mc g.da g.d.length g.dc l a c (countL l) k2 k1 (by omega) V ia)
  have HU : Hid (U64s (nums12 g.act l)) := nums_u64 hi.num _
  have NL : Hid ((nums12 g.act l).length = countL l) := nums_len k1
  obtain ⟨nl, hnl⟩ : ∃ nl, nums12 g.act l = nl := ⟨_, rfl⟩
  have HNL : Hid ([g.A, g.B].take (countL l) = nl) := hnl
  rw [hnl] at HU NL hp
  have HP := hid hp
  obtain ⟨k, hk⟩ : ∃ k, countL l = k := ⟨_, rfl⟩
  rw [hk] at NU NL HNL q1 q2 k1
  have ID := hid hi.id
  have HK4 : Hid (sizeL l ≤ 100) := by show _ ≤ _; omega
  have ld := hi.ld
  have g2 : decide ((k : Int) < 2) = true := by simp; omega
  have g2i : (k : Int) < 2 := by omega
  have g1 : decide ((k : Int) < 1) = false := by simp; omega
  have g1i : ¬ (k : Int) < 1 := by omega
  have gB : (g.B != 0) = false := by simpa using hB
  have gT : (g.T != 65535) = true := by simpa using qT
  have HD0 := hid hd0
  clear hi hW hbW hr e8 e9 es h25 k2 k3 k4 k6 has ho hnl hp hk q1 q2 qT hB hd0
  obtain ⟨T, A, B, ⟨C, F, H, X, v, m⟩, va, vc, ma, mc, d, da, dc⟩ := g
  have hH2 : H = false := hH
  clear hH
  subst hH2
  have hdd : d = [] := HD0.out
  clear HD0
  subst hdd
  unfold Ent12.val at *
  simp only [List.length_nil] at *
  obtain ⟨d0, d1, d2, d3, d4, d5, d6, d7, d8, d9⟩ := hx.ten
  obtain ⟨e0, e1, e2, e3, e4, e5⟩ := hy.six
  go_enter Tryz.func50, Tryz.ntmps50
  go_upto_region 2 with fail
  rw [HW.out]
  go_wp2_with fail
  have HC0 := hid (Below.refl W.heap.size W)
  have HA0 := HB
  refine RO.out.mono ?_
  rintro e w1 ⟨ra, rfl, hI1, hb⟩
  have I1 := hid hI1
  clear hI1
  have HA1 := hid (below_on HA0.out hb)
  have HC1 := hid (below_on HC0.out hb)
  clear hb
  clear d0 d1 d2 d3 d4 d5 d6 d7 d8 d9
  clear e0 e1 e2 e3 e4 e5
  obtain ⟨d0, d1, d2, d3, d4, d5, d6, d7, d8, d9⟩ := (hx.below HC1.out).ten
  obtain ⟨e0, e1, e2, e3, e4, e5⟩ := (hy.below HC1.out).six
  go_wp2_with fail
  refine (SO.out _ HA1.out).mono ?_
  rintro e w2 ⟨rfl, hb⟩
  have I2 := hid (I1.out.below hb)
  have HA2 := hid (below_on HA1.out hb)
  have HC2 := hid (below_on HC1.out hb)
  clear hb
  clear d0 d1 d2 d3 d4 d5 d6 d7 d8 d9
  clear e0 e1 e2 e3 e4 e5
  obtain ⟨d0, d1, d2, d3, d4, d5, d6, d7, d8, d9⟩ := (hx.below HC2.out).ten
  obtain ⟨e0, e1, e2, e3, e4, e5⟩ := (hy.below HC2.out).six
  go_wp2_with fail
  refine (AS.out _).mono ?_
  rintro e w' ⟨rfl, rfl⟩
  go_wp2_with fail
  refine (NU.out _ ra _ I2.out).mono ?_
  rintro e w3 ⟨b, rfl, hI3, hb⟩
  rw [HNL.out] at hI3
  have I3 := hid (I2.out.below hb)
  have J3 := hid hI3
  clear hI3
  have HA3 := hid (below_on HA2.out hb)
  have HC3 := hid (below_on HC2.out hb)
  clear hb
  clear d0 d1 d2 d3 d4 d5 d6 d7 d8 d9
  clear e0 e1 e2 e3 e4 e5
  obtain ⟨d0, d1, d2, d3, d4, d5, d6, d7, d8, d9⟩ := (hx.below HC3.out).ten
  obtain ⟨e0, e1, e2, e3, e4, e5⟩ := (hy.below HC3.out).six
  have hnl := NL.out
  have PU := refPut_any l nl ra b l.length 2 w3 (by omega) (by omega) HU.out I3.out J3.out
  rw [hnl, HP.out] at PU
  have PU := hid PU
  clear hnl
  go_wp2_with fail
  refine PU.out.mono ?_
  rintro e w4 (⟨hq, _⟩ | ⟨bs, v4, hq, rfl, hF⟩)
  · cases hq
  cases hq
  have hb := hF.bel
  have HF := hid hF
  clear hF
  have HA4 := hid (below_on HA3.out hb)
  have HC4 := hid (below_on HC3.out hb)
  clear hb
  clear d0 d1 d2 d3 d4 d5 d6 d7 d8 d9
  clear e0 e1 e2 e3 e4 e5
  obtain ⟨d0, d1, d2, d3, d4, d5, d6, d7, d8, d9⟩ := (hx.below HC4.out).ten
  obtain ⟨e0, e1, e2, e3, e4, e5⟩ := (hy.below HC4.out).six
  have HPL : Hid (p.length ≤ 100) := by
    have h1 := putL_octets (show putL l nl = some p by have h := HP.out; unfold putW at h; split at h; exact h; cases h)
    show p.length ≤ 100
    rw [h1.2]
    exact HK4.out
  obtain ⟨xs, hxs⟩ : ∃ xs, p ++ [] = xs := ⟨_, rfl⟩
  have HXS := hid hxs
  have HXL : Hid (xs.length ≤ 200000) := by show _ ≤ _; rw [← hxs, List.length_append]; have := HPL.out; (try simp only [List.length_nil]); omega
  rw [hxs] at HN
  clear hxs
  go_wp2_with (at_builtin; refine wp_app_ints rfl _ _ rfl elemU8 rfl HF.out.own rfl (l := []) rfl (ID.out.below HA4.out) HXS.out (by have := HXL.out; omega) (by have := HXL.out; omega) ?_; intro a5 c5 w5 hl5 hc5 hI5 hg5; have hF5 := HF.out.step hg5)
  go_ret2
  exact .inr ⟨xs, a5, c5, HN.out, rfl, below_on HA3.out hF5.bel, hI5⟩
end Go.Proofs.YtdjlbejhphbcoaaGreat
