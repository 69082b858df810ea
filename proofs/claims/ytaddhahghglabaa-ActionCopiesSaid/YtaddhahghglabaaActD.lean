/- Package action and the document's actions: whether two are the same; whether there is not too much. -/
import Derived.Test.YtaddhahghglabaaActB
import Derived.Test.YtaddhahghglabaaMrg3
namespace Go.Proofs.Ytaddhahghglabaa
open Go.RowKit
set_option linter.unusedVariables false

def sameO (o p : Ox9) : Bool := sameB o.C o.F o.H o.X p.C p.F p.H p.X o.v o.m p.v p.m
/-- whether two are the same -/
def same12 (a b : Act12) : Bool := a.T == b.T && a.A == b.A && a.B == b.B && sameO a.o b.o && a.d == b.d
theorem same12_ways (a b : Act12) : ∃ r, same12 a b = r ∧ (((a.T == b.T) = false ∧ r = false) ∨ ((a.T == b.T) = true ∧ (a.A == b.A) = false ∧ r = false) ∨ ((a.T == b.T) = true ∧ (a.A == b.A) = true ∧ (a.B == b.B) = false ∧ r = false) ∨ ((a.T == b.T) = true ∧ (a.A == b.A) = true ∧ (a.B == b.B) = true ∧ sameO a.o b.o = false ∧ r = false) ∨ ((a.T == b.T) = true ∧ (a.A == b.A) = true ∧ (a.B == b.B) = true ∧ sameO a.o b.o = true ∧ r = (a.d == b.d))) := by
  refine ⟨_, rfl, ?_⟩
  unfold same12
  cases (a.T == b.T) <;> cases (a.A == b.A) <;> cases (a.B == b.B) <;> cases sameO a.o b.o <;> simp

set_option maxRecDepth 100000 in
set_option maxHeartbeats 2000000 in
theorem actSame_any (g g' : Ent12) (w : World) (hi : ActIn w g) (hi' : ActIn w g') :
    Calls Try.prog 9 #[g.val, g'.val] w fun e w' => e = .returned (.bool (same12 g.act g'.act)) ∧ Below w.heap.size w w' := by
  obtain ⟨W, hW, hbW, hx, hy⟩ := two_act w g.T g.A g.B g.o.C g.o.F g.o.H g.o.X g.va g.o.v.length g.vc g.ma g.o.m.length g.mc g.da g.d.length g.dc g'.T g'.A g'.B g'.o.C g'.o.F g'.o.H g'.o.X g'.va g'.o.v.length g'.vc g'.ma g'.o.m.length g'.mc g'.da g'.d.length g'.dc
  have HB0 := hid hbW
  have ID := hid hi.id
  have ID' := hid hi'.id
  have ld := hi.ld
  have ld' := hi'.ld
  have lv := hi.lv
  have lv' := hi'.lv
  have lm := hi.lm
  have lm' := hi'.lm
  have EO := hid (fun (n : Wk W) => same8_any g.o.C g.o.F g.o.H g.o.X g.va g.vc g.ma g.mc g'.o.C g'.o.F g'.o.H g'.o.X g'.va g'.vc g'.ma g'.mc g.o.v g.o.m g'.o.v g'.o.m (by omega) (by omega) (by omega) (by omega) hi.ov hi.om hi'.ov hi'.om n.val ((hi.iv.below HB0.out).below n.bel) ((hi.im.below HB0.out).below n.bel) ((hi'.iv.below HB0.out).below n.bel) ((hi'.im.below HB0.out).below n.bel))
  have ED := hid (fun (n : Wk W) => equal8_any g.d g'.d g.da g'.da g.dc g'.dc n.val (by omega) (by omega) hi.od hi'.od ((ID.out.below HB0.out).below n.bel) ((ID'.out.below HB0.out).below n.bel))
  obtain ⟨r, hr, hq⟩ := same12_ways g.act g'.act
  rw [hr]
  clear hr hi hi' ld ld' lv lv' lm lm' ID ID' hbW
  obtain ⟨T, A, B, ⟨C, F, H, X, v, m⟩, va, vc, ma, mc, d, da, dc⟩ := g
  obtain ⟨T', A', B', ⟨C', F', H', X', v', m'⟩, va', vc', ma', mc', d', da', dc'⟩ := g'
  simp only [Ent12.act, Ent12.val] at *
  obtain ⟨so, hso⟩ : ∃ so, sameO ⟨C, F, H, X, v, m⟩ ⟨C', F', H', X', v', m'⟩ = so := ⟨_, rfl⟩
  have hso2 : sameB C F H X C' F' H' X' v m v' m' = so := hso
  rw [hso2] at EO
  rw [hso] at hq
  obtain ⟨sd, hsd⟩ : ∃ sd, (d == d') = sd := ⟨_, rfl⟩
  rw [hsd] at ED hq
  clear hso hso2 hsd
  have HW := hid hW
  clear hW
  obtain ⟨d0, d1, d2, d3, d4, d5, d6, d7, d8, d9⟩ := hx.ten
  obtain ⟨e0, e1, e2, e3, e4, e5, e6, e7, e8, e9⟩ := hy.ten
  rcases hq with ⟨h1, rfl⟩ | ⟨h1, h2, rfl⟩ | ⟨h1, h2, h3, rfl⟩ | ⟨h1, h2, h3, rfl, rfl⟩ | ⟨h1, h2, h3, rfl, rfl⟩
  · go_enter Try.func9, Try.ntmps9
    go_wp2_with fail
    rw [HW.out]
    go_wp2_with fail
    go_ret
    exact ⟨rfl, HB0.out⟩
  · go_enter Try.func9, Try.ntmps9
    go_wp2_with fail
    rw [HW.out]
    go_wp2_with fail
    go_ret
    exact ⟨rfl, HB0.out⟩
  · go_enter Try.func9, Try.ntmps9
    go_wp2_with fail
    rw [HW.out]
    go_wp2_with fail
    go_ret
    exact ⟨rfl, HB0.out⟩
  · go_enter Try.func9, Try.ntmps9
    go_wp2_with fail
    rw [HW.out]
    go_wp2_with fail
    refine (EO.out ⟨_, Below.refl _ _⟩).mono ?_
    rintro e w1 ⟨rfl, hb1⟩
    have HA1 := hid (below_on (Below.refl W.heap.size W) hb1)
    clear d0 d1 d2 d3 d4 d5 d6 d7 d8 d9 e0 e1 e2 e3 e4 e5 e6 e7 e8 e9 hb1
    obtain ⟨d0, d1, d2, d3, d4, d5, d6, d7, d8, d9⟩ := (hx.below HA1.out).ten
    obtain ⟨e0, e1, e2, e3, e4, e5, e6, e7, e8, e9⟩ := (hy.below HA1.out).ten
    go_wp2_with fail
    go_ret
    exact ⟨rfl, below_on HB0.out HA1.out⟩
  · go_enter Try.func9, Try.ntmps9
    go_wp2_with fail
    rw [HW.out]
    go_wp2_with fail
    refine (EO.out ⟨_, Below.refl _ _⟩).mono ?_
    rintro e w1 ⟨rfl, hb1⟩
    have HA1 := hid (below_on (Below.refl W.heap.size W) hb1)
    clear d0 d1 d2 d3 d4 d5 d6 d7 d8 d9 e0 e1 e2 e3 e4 e5 e6 e7 e8 e9 hb1
    obtain ⟨d0, d1, d2, d3, d4, d5, d6, d7, d8, d9⟩ := (hx.below HA1.out).ten
    obtain ⟨e0, e1, e2, e3, e4, e5, e6, e7, e8, e9⟩ := (hy.below HA1.out).ten
    go_wp2_with fail
    refine (ED.out ⟨_, HA1.out⟩).mono ?_
    rintro e w2 ⟨rfl, hb2⟩
    have HA2 := hid (below_on HA1.out hb2)
    clear d0 d1 d2 d3 d4 d5 d6 d7 d8 d9 e0 e1 e2 e3 e4 e5 e6 e7 e8 e9 hb2
    obtain ⟨d0, d1, d2, d3, d4, d5, d6, d7, d8, d9⟩ := (hx.below HA2.out).ten
    obtain ⟨e0, e1, e2, e3, e4, e5, e6, e7, e8, e9⟩ := (hy.below HA2.out).ten
    go_wp2_with fail
    go_ret
    exact ⟨rfl, below_on HB0.out HA2.out⟩

set_option maxRecDepth 100000 in
set_option maxHeartbeats 2000000 in
theorem refActSame_any (g g' : Ent12) (w : World) (hi : ActIn w g) (hi' : ActIn w g') :
    Calls Try.prog 8 #[g.val, g'.val] w fun e w' => e = .returned (.bool (same12 g.act g'.act)) ∧ Below w.heap.size w w' := by
  obtain ⟨W, hW, hbW, hx, hy⟩ := two_act w g.T g.A g.B g.o.C g.o.F g.o.H g.o.X g.va g.o.v.length g.vc g.ma g.o.m.length g.mc g.da g.d.length g.dc g'.T g'.A g'.B g'.o.C g'.o.F g'.o.H g'.o.X g'.va g'.o.v.length g'.vc g'.ma g'.o.m.length g'.mc g'.da g'.d.length g'.dc
  have HB0 := hid hbW
  have ID := hid hi.id
  have ID' := hid hi'.id
  have ld := hi.ld
  have ld' := hi'.ld
  have lv := hi.lv
  have lv' := hi'.lv
  have lm := hi.lm
  have lm' := hi'.lm
  have EO := hid (fun (n : Wk W) => refSame8_any g.o.C g.o.F g.o.H g.o.X g.va g.vc g.ma g.mc g'.o.C g'.o.F g'.o.H g'.o.X g'.va g'.vc g'.ma g'.mc g.o.v g.o.m g'.o.v g'.o.m (by omega) (by omega) (by omega) (by omega) hi.ov hi.om hi'.ov hi'.om n.val ((hi.iv.below HB0.out).below n.bel) ((hi.im.below HB0.out).below n.bel) ((hi'.iv.below HB0.out).below n.bel) ((hi'.im.below HB0.out).below n.bel))
  have ED := hid (fun (n : Wk W) => bytes8_any g.d g'.d g.da g'.da g.d.length g'.d.length g.dc g'.dc rfl rfl n.val (by omega) (by omega) ((ID.out.below HB0.out).below n.bel) ((ID'.out.below HB0.out).below n.bel))
  obtain ⟨r, hr, hq⟩ := same12_ways g.act g'.act
  rw [hr]
  clear hr hi hi' ld ld' lv lv' lm lm' ID ID' hbW
  obtain ⟨T, A, B, ⟨C, F, H, X, v, m⟩, va, vc, ma, mc, d, da, dc⟩ := g
  obtain ⟨T', A', B', ⟨C', F', H', X', v', m'⟩, va', vc', ma', mc', d', da', dc'⟩ := g'
  simp only [Ent12.act, Ent12.val] at *
  obtain ⟨so, hso⟩ : ∃ so, sameO ⟨C, F, H, X, v, m⟩ ⟨C', F', H', X', v', m'⟩ = so := ⟨_, rfl⟩
  have hso2 : sameB C F H X C' F' H' X' v m v' m' = so := hso
  rw [hso2] at EO
  rw [hso] at hq
  obtain ⟨sd, hsd⟩ : ∃ sd, (d == d') = sd := ⟨_, rfl⟩
  rw [hsd] at ED hq
  clear hso hso2 hsd
  have HW := hid hW
  clear hW
  obtain ⟨d0, d1, d2, d3, d4, d5, d6, d7, d8, d9⟩ := hx.ten
  obtain ⟨e0, e1, e2, e3, e4, e5, e6, e7, e8, e9⟩ := hy.ten
  rcases hq with ⟨h1, rfl⟩ | ⟨h1, h2, rfl⟩ | ⟨h1, h2, h3, rfl⟩ | ⟨h1, h2, h3, rfl, rfl⟩ | ⟨h1, h2, h3, rfl, rfl⟩
  · go_enter Try.func8, Try.ntmps8
    go_wp2_with fail
    rw [HW.out]
    go_wp2_with fail
    go_ret
    exact ⟨rfl, HB0.out⟩
  · go_enter Try.func8, Try.ntmps8
    go_wp2_with fail
    rw [HW.out]
    go_wp2_with fail
    go_ret
    exact ⟨rfl, HB0.out⟩
  · go_enter Try.func8, Try.ntmps8
    go_wp2_with fail
    rw [HW.out]
    go_wp2_with fail
    go_ret
    exact ⟨rfl, HB0.out⟩
  · go_enter Try.func8, Try.ntmps8
    go_wp2_with fail
    rw [HW.out]
    go_wp2_with fail
    refine (EO.out ⟨_, Below.refl _ _⟩).mono ?_
    rintro e w1 ⟨rfl, hb1⟩
    have HA1 := hid (below_on (Below.refl W.heap.size W) hb1)
    clear d0 d1 d2 d3 d4 d5 d6 d7 d8 d9 e0 e1 e2 e3 e4 e5 e6 e7 e8 e9 hb1
    obtain ⟨d0, d1, d2, d3, d4, d5, d6, d7, d8, d9⟩ := (hx.below HA1.out).ten
    obtain ⟨e0, e1, e2, e3, e4, e5, e6, e7, e8, e9⟩ := (hy.below HA1.out).ten
    go_wp2_with fail
    go_ret
    exact ⟨rfl, below_on HB0.out HA1.out⟩
  · go_enter Try.func8, Try.ntmps8
    go_wp2_with fail
    rw [HW.out]
    go_wp2_with fail
    refine (EO.out ⟨_, Below.refl _ _⟩).mono ?_
    rintro e w1 ⟨rfl, hb1⟩
    have HA1 := hid (below_on (Below.refl W.heap.size W) hb1)
    clear d0 d1 d2 d3 d4 d5 d6 d7 d8 d9 e0 e1 e2 e3 e4 e5 e6 e7 e8 e9 hb1
    obtain ⟨d0, d1, d2, d3, d4, d5, d6, d7, d8, d9⟩ := (hx.below HA1.out).ten
    obtain ⟨e0, e1, e2, e3, e4, e5, e6, e7, e8, e9⟩ := (hy.below HA1.out).ten
    go_wp2_with fail
    refine (ED.out ⟨_, HA1.out⟩).mono ?_
    rintro e w2 ⟨rfl, hb2⟩
    have HA2 := hid (below_on HA1.out hb2)
    clear d0 d1 d2 d3 d4 d5 d6 d7 d8 d9 e0 e1 e2 e3 e4 e5 e6 e7 e8 e9 hb2
    obtain ⟨d0, d1, d2, d3, d4, d5, d6, d7, d8, d9⟩ := (hx.below HA2.out).ten
    obtain ⟨e0, e1, e2, e3, e4, e5, e6, e7, e8, e9⟩ := (hy.below HA2.out).ten
    go_wp2_with fail
    go_ret
    exact ⟨rfl, below_on HB0.out HA2.out⟩

theorem actFew_any (T A B C F : Int) (H : Bool) (X : Int) (va : Option Addr) (vl vc : Nat) (ma : Option Addr) (ml mc : Nat) (da : Option Addr) (dl dc : Nat) (w : World) :
    Calls Try.prog 5 #[.agg #[.int .i64 T, .int .u64 A, .int .u64 B, .int .i64 C, .int .i64 F, .bool H, .int .u64 X, .slice va vl vc, .slice ma ml mc, .slice da dl dc]] w fun e w' => e = .returned (.bool (decide (vl ≤ 300 ∧ ml ≤ 300) && decide (dl ≤ 500))) ∧ Below w.heap.size w w' := by
  obtain ⟨W, hW, hbW, hx⟩ := act_box w T A B C F H X va vl vc ma ml mc da dl dc
  have HW := hid hW
  have HB := hid hbW
  have FW := hid (fun W => few8_any C F H X va vl vc ma ml mc W)
  obtain ⟨d0, d1, d2, d3, d4, d5, d6, d7, d8, d9⟩ := hx.ten
  obtain ⟨r, hr⟩ : ∃ r, decide (vl ≤ 300 ∧ ml ≤ 300) = r := ⟨_, rfl⟩
  rw [hr] at FW ⊢
  clear hW hbW hr
  cases r
  · go_enter Try.func5, Try.ntmps5
    go_wp2_with fail
    rw [HW.out]
    go_wp2_with fail
    refine (FW.out _).mono ?_
    rintro e w1 ⟨rfl, hb⟩
    clear d0 d1 d2 d3 d4 d5 d6 d7 d8 d9
    obtain ⟨d0, d1, d2, d3, d4, d5, d6, d7, d8, d9⟩ := (hx.below hb).ten
    go_wp2_with fail
    go_ret
    exact ⟨rfl, below_on HB.out hb⟩
  · go_enter Try.func5, Try.ntmps5
    go_wp2_with fail
    rw [HW.out]
    go_wp2_with fail
    refine (FW.out _).mono ?_
    rintro e w1 ⟨rfl, hb⟩
    clear d0 d1 d2 d3 d4 d5 d6 d7 d8 d9
    obtain ⟨d0, d1, d2, d3, d4, d5, d6, d7, d8, d9⟩ := (hx.below hb).ten
    go_wp2_with fail
    go_ret
    exact ⟨ret_bool (by simp; try omega), below_on HB.out hb⟩
end Go.Proofs.Ytaddhahghglabaa
