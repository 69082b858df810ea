/- Put together out of several texts. -/
import Derived.Test.YtdjlbejhphbcoaaGreatV11
import Derived.Test.YtdjlbejhphbcoaaGreatV6
import Derived.Test.YtdjlbejhphbcoaaGreatV2
import Derived.Deep.RegionWith
import Derived.Test.YtdjlbejhphbcoaaGreatV15
import Derived.Deep.RegionHeld3
import Derived.Deep.DeepCutAuto
namespace Go.Proofs.YtdjlbejhphbcoaaGreat
open Go.RowKit
set_option linter.unusedVariables false

/-- what is wrong first with a value that is to be set -/
def wset12 (o : Ox9) : Int := if o.C = 32768 ∧ 2 < o.F ∧ o.F < 39 then (if o.H = false ∧ right10 o = true then 0 else 528) else 526

set_option maxRecDepth 100000 in
set_option maxHeartbeats 2000000 in
theorem wrongSet_any (o : Ox9) (va : Option Addr) (vc : Nat) (ma : Option Addr) (mc : Nat) (w : World) (hv : o.v.length ≤ 1000) (hm : o.m.length ≤ 1000) (hmc : o.m.length ≤ mc) (ov : Octets o.v) (om : Octets o.m) (iv : Ints .u8 w va o.v) (im : Ints .u8 w ma o.m) :
    Calls Tryz.prog 89 #[.agg #[.int .i64 o.C, .int .i64 o.F, .bool o.H, .int .u64 o.X, .slice va o.v.length vc, .slice ma o.m.length mc]] w fun e w' => e = .returned (.int .i64 (wset12 o)) ∧ Below w.heap.size w w' := by
  obtain ⟨W, hW, hbW, hx⟩ := oxm_box w o.C o.F o.H o.X va o.v.length vc ma o.m.length mc
  have HW := hid hW
  have HB := hid hbW
  have RI := hid (fun (n : Wk W) => right8_any o.C o.F o.H o.X va vc ma mc o.v o.m hv hm hmc ov om n.val ((iv.below HB.out).below n.bel) ((im.below HB.out).below n.bel))
  have ST := hid (fun (V : World) => fldSettable_any o.F V)
  obtain ⟨C, F, H, X, v, m⟩ := o
  simp only at *
  obtain ⟨r, hr⟩ : ∃ r, rightB C F H X v m = r := ⟨_, rfl⟩
  obtain ⟨s, hs⟩ : ∃ s, decide (2 < F ∧ F < 39) = s := ⟨_, rfl⟩
  have ways : ((C != 32768) = true ∧ wset12 ⟨C, F, H, X, v, m⟩ = 526) ∨ ((C != 32768) = false ∧ s = false ∧ wset12 ⟨C, F, H, X, v, m⟩ = 526) ∨ ((C != 32768) = false ∧ s = true ∧ H = true ∧ wset12 ⟨C, F, H, X, v, m⟩ = 528) ∨ ((C != 32768) = false ∧ s = true ∧ H = false ∧ r = false ∧ wset12 ⟨C, F, H, X, v, m⟩ = 528) ∨ ((C != 32768) = false ∧ s = true ∧ H = false ∧ r = true ∧ wset12 ⟨C, F, H, X, v, m⟩ = 0) := by
    unfold wset12 right10
    simp only [hr]
    by_cases h1 : C = 32768
    · subst h1
      cases s
      · have : ¬ (2 < F ∧ F < 39) := by simpa using hs
        exact .inr (.inl ⟨by decide, rfl, by rw [if_neg (by simpa using this)]⟩)
      · have : 2 < F ∧ F < 39 := by simpa using hs
        rw [if_pos ⟨rfl, this⟩]
        cases H
        · cases r
          · exact .inr (.inr (.inr (.inl ⟨by decide, rfl, rfl, rfl, by simp⟩)))
          · exact .inr (.inr (.inr (.inr ⟨by decide, rfl, rfl, rfl, by simp⟩)))
        · exact .inr (.inr (.inl ⟨by decide, rfl, rfl, by simp⟩))
    · exact .inl ⟨by simpa using h1, by rw [if_neg (by simp [h1])]⟩
  rw [hr] at RI
  rw [hs] at ST
  obtain ⟨q, hq⟩ : ∃ q, wset12 ⟨C, F, H, X, v, m⟩ = q := ⟨_, rfl⟩
  rw [hq] at ways ⊢
  obtain ⟨d0, d1, d2, d3, d4, d5⟩ := hx.six
  clear hr hs hq hW hbW iv im ov om hv hm hmc
  rcases ways with ⟨c, rfl⟩ | ⟨c, rfl, rfl⟩ | ⟨c, rfl, rfl, rfl⟩ | ⟨c, rfl, rfl, rfl, rfl⟩ | ⟨c, rfl, rfl, rfl, rfl⟩

  · go_enter Tryz.func89, Tryz.ntmps89
    go_wp2_with fail
    rw [HW.out]
    go_wp2_with fail
    go_ret
    exact ⟨rfl, HB.out⟩
  · go_enter Tryz.func89, Tryz.ntmps89
    go_wp2_with fail
    rw [HW.out]
    go_wp2_with fail
    refine (ST.out _).mono ?_
    rintro e w1 ⟨rfl, rfl⟩
    go_wp2_with fail
    go_ret
    exact ⟨rfl, HB.out⟩
  · go_enter Tryz.func89, Tryz.ntmps89
    go_wp2_with fail
    rw [HW.out]
    go_wp2_with fail
    refine (ST.out _).mono ?_
    rintro e w1 ⟨rfl, rfl⟩
    go_wp2_with fail
    go_ret
    exact ⟨rfl, HB.out⟩
  · go_enter Tryz.func89, Tryz.ntmps89
    go_wp2_with fail
    rw [HW.out]
    go_wp2_with fail
    refine (ST.out _).mono ?_
    rintro e w1 ⟨rfl, rfl⟩
    go_wp2_with fail
    refine (RI.out ⟨_, Below.refl _ _⟩).mono ?_
    rintro e w1 ⟨rfl, hb⟩
    go_wp2_with fail
    go_ret
    exact ⟨rfl, below_on HB.out hb⟩
  · go_enter Tryz.func89, Tryz.ntmps89
    go_wp2_with fail
    rw [HW.out]
    go_wp2_with fail
    refine (ST.out _).mono ?_
    rintro e w1 ⟨rfl, rfl⟩
    go_wp2_with fail
    refine (RI.out ⟨_, Below.refl _ _⟩).mono ?_
    rintro e w1 ⟨rfl, hb⟩
    go_wp2_with fail
    go_ret
    exact ⟨rfl, below_on HB.out hb⟩

/-- what is wrong with an action -/
def wrong12 (a : Act12) : Int := if a.T = 25 then wset12 a.o else if a.T = 65535 then (if a.d.length % 8 = 0 then 0 else 514) else asked12 a.T a.A

set_option maxRecDepth 100000 in
set_option maxHeartbeats 2000000 in
theorem wrong_out_no (g : Ent12) (w : World) (hT : g.T = 0) (hA : g.A = 0) :
    Calls Tryz.prog 53 #[g.val] w fun e w' => e = .returned (.int .i64 (wrong12 g.act)) ∧ Below w.heap.size w w' := by
  obtain ⟨W, hW, hbW, hx⟩ := act_box w g.T g.A g.B g.o.C g.o.F g.o.H g.o.X g.va g.o.v.length g.vc g.ma g.o.m.length g.mc g.da g.d.length g.dc
  have HW := hid hW
  have HB := hid hbW
  clear hW hbW
  have hq : wrong12 g.act = 517 := by simp [wrong12, Ent12.act, asked12, hT, hA]
  rw [hq]
  obtain ⟨T, A, B, ⟨C, F, H, X, v, m⟩, va, vc, ma, mc, d, da, dc⟩ := g
  simp only [Ent12.act] at *
  subst hT
  subst hA
  unfold Ent12.val
  simp only
  obtain ⟨d0, d1, d2, d3, d4, d5, d6, d7, d8, d9⟩ := hx.ten
  clear hq
  go_enter Tryz.func53, Tryz.ntmps53
  go_wp2_with fail
  rw [HW.out]
  go_wp2_with fail
  go_ret
  exact ⟨rfl, HB.out⟩

set_option maxRecDepth 100000 in
set_option maxHeartbeats 2000000 in
theorem wrong_out_yes (g : Ent12) (w : World) (hT : g.T = 0) (hA : g.A ≠ 0) :
    Calls Tryz.prog 53 #[g.val] w fun e w' => e = .returned (.int .i64 (wrong12 g.act)) ∧ Below w.heap.size w w' := by
  obtain ⟨W, hW, hbW, hx⟩ := act_box w g.T g.A g.B g.o.C g.o.F g.o.H g.o.X g.va g.o.v.length g.vc g.ma g.o.m.length g.mc g.da g.d.length g.dc
  have HW := hid hW
  have HB := hid hbW
  clear hW hbW
  have hq : wrong12 g.act = 0 := by simp [wrong12, Ent12.act, asked12, hT, hA]
  rw [hq]
  obtain ⟨T, A, B, ⟨C, F, H, X, v, m⟩, va, vc, ma, mc, d, da, dc⟩ := g
  simp only [Ent12.act] at *
  subst hT
  have c : (A != 0) = true := by simpa using hA
  clear hA
  unfold Ent12.val
  simp only
  obtain ⟨d0, d1, d2, d3, d4, d5, d6, d7, d8, d9⟩ := hx.ten
  clear hq
  go_enter Tryz.func53, Tryz.ntmps53
  go_wp2_with fail
  rw [HW.out]
  go_wp2_with fail
  go_ret
  exact ⟨rfl, HB.out⟩

set_option maxRecDepth 100000 in
set_option maxHeartbeats 2000000 in
theorem wrong_grp_no (g : Ent12) (w : World) (hT : g.T = 22) (hA : 4294967040 < g.A) :
    Calls Tryz.prog 53 #[g.val] w fun e w' => e = .returned (.int .i64 (wrong12 g.act)) ∧ Below w.heap.size w w' := by
  obtain ⟨W, hW, hbW, hx⟩ := act_box w g.T g.A g.B g.o.C g.o.F g.o.H g.o.X g.va g.o.v.length g.vc g.ma g.o.m.length g.mc g.da g.d.length g.dc
  have HW := hid hW
  have HB := hid hbW
  clear hW hbW
  have hq : wrong12 g.act = 522 := by simp [wrong12, Ent12.act, asked12, hT, hA]
  rw [hq]
  obtain ⟨T, A, B, ⟨C, F, H, X, v, m⟩, va, vc, ma, mc, d, da, dc⟩ := g
  simp only [Ent12.act] at *
  subst hT
  have c : decide (A ≤ 4294967040) = false := by simp; omega
  unfold Ent12.val
  simp only
  obtain ⟨d0, d1, d2, d3, d4, d5, d6, d7, d8, d9⟩ := hx.ten
  clear hq
  go_enter Tryz.func53, Tryz.ntmps53
  go_wp2_with fail
  rw [HW.out]
  go_wp2_with fail
  go_ret
  exact ⟨rfl, HB.out⟩

set_option maxRecDepth 100000 in
set_option maxHeartbeats 2000000 in
theorem wrong_grp_yes (g : Ent12) (w : World) (hT : g.T = 22) (hA : ¬ 4294967040 < g.A) :
    Calls Tryz.prog 53 #[g.val] w fun e w' => e = .returned (.int .i64 (wrong12 g.act)) ∧ Below w.heap.size w w' := by
  obtain ⟨W, hW, hbW, hx⟩ := act_box w g.T g.A g.B g.o.C g.o.F g.o.H g.o.X g.va g.o.v.length g.vc g.ma g.o.m.length g.mc g.da g.d.length g.dc
  have HW := hid hW
  have HB := hid hbW
  clear hW hbW
  have hq : wrong12 g.act = 0 := by simp [wrong12, Ent12.act, asked12, hT, hA]
  rw [hq]
  obtain ⟨T, A, B, ⟨C, F, H, X, v, m⟩, va, vc, ma, mc, d, da, dc⟩ := g
  simp only [Ent12.act] at *
  subst hT
  have c : A ≤ 4294967040 := by omega
  unfold Ent12.val
  simp only
  obtain ⟨d0, d1, d2, d3, d4, d5, d6, d7, d8, d9⟩ := hx.ten
  clear hq
  go_enter Tryz.func53, Tryz.ntmps53
  go_wp2_with fail
  rw [HW.out]
  go_wp2_with fail
  go_ret
  exact ⟨rfl, HB.out⟩

set_option maxRecDepth 100000 in
set_option maxHeartbeats 2000000 in
theorem wrong_vlan_a (g : Ent12) (w : World) (hT : g.T = 17) (hA : g.A = 33024) :
    Calls Tryz.prog 53 #[g.val] w fun e w' => e = .returned (.int .i64 (wrong12 g.act)) ∧ Below w.heap.size w w' := by
  obtain ⟨W, hW, hbW, hx⟩ := act_box w g.T g.A g.B g.o.C g.o.F g.o.H g.o.X g.va g.o.v.length g.vc g.ma g.o.m.length g.mc g.da g.d.length g.dc
  have HW := hid hW
  have HB := hid hbW
  clear hW hbW
  have hq : wrong12 g.act = 0 := by simp [wrong12, Ent12.act, asked12, hT, hA]
  rw [hq]
  obtain ⟨T, A, B, ⟨C, F, H, X, v, m⟩, va, vc, ma, mc, d, da, dc⟩ := g
  simp only [Ent12.act] at *
  subst hT
  subst hA
  unfold Ent12.val
  simp only
  obtain ⟨d0, d1, d2, d3, d4, d5, d6, d7, d8, d9⟩ := hx.ten
  clear hq
  go_enter Tryz.func53, Tryz.ntmps53
  go_wp2_with fail
  rw [HW.out]
  go_wp2_with fail
  go_ret
  exact ⟨rfl, HB.out⟩

set_option maxRecDepth 100000 in
set_option maxHeartbeats 2000000 in
theorem wrong_vlan_b (g : Ent12) (w : World) (hT : g.T = 17) (hA : g.A = 34984) :
    Calls Tryz.prog 53 #[g.val] w fun e w' => e = .returned (.int .i64 (wrong12 g.act)) ∧ Below w.heap.size w w' := by
  obtain ⟨W, hW, hbW, hx⟩ := act_box w g.T g.A g.B g.o.C g.o.F g.o.H g.o.X g.va g.o.v.length g.vc g.ma g.o.m.length g.mc g.da g.d.length g.dc
  have HW := hid hW
  have HB := hid hbW
  clear hW hbW
  have hq : wrong12 g.act = 0 := by simp [wrong12, Ent12.act, asked12, hT, hA]
  rw [hq]
  obtain ⟨T, A, B, ⟨C, F, H, X, v, m⟩, va, vc, ma, mc, d, da, dc⟩ := g
  simp only [Ent12.act] at *
  subst hT
  subst hA
  unfold Ent12.val
  simp only
  obtain ⟨d0, d1, d2, d3, d4, d5, d6, d7, d8, d9⟩ := hx.ten
  clear hq
  go_enter Tryz.func53, Tryz.ntmps53
  go_wp2_with fail
  rw [HW.out]
  go_wp2_with fail
  go_ret
  exact ⟨rfl, HB.out⟩

set_option maxRecDepth 100000 in
set_option maxHeartbeats 2000000 in
theorem wrong_vlan_no (g : Ent12) (w : World) (hT : g.T = 17) (hA : g.A ≠ 33024) (hA2 : g.A ≠ 34984) :
    Calls Tryz.prog 53 #[g.val] w fun e w' => e = .returned (.int .i64 (wrong12 g.act)) ∧ Below w.heap.size w w' := by
  obtain ⟨W, hW, hbW, hx⟩ := act_box w g.T g.A g.B g.o.C g.o.F g.o.H g.o.X g.va g.o.v.length g.vc g.ma g.o.m.length g.mc g.da g.d.length g.dc
  have HW := hid hW
  have HB := hid hbW
  clear hW hbW
  have hq : wrong12 g.act = 518 := by simp [wrong12, Ent12.act, asked12, hT, hA, hA2]
  rw [hq]
  obtain ⟨T, A, B, ⟨C, F, H, X, v, m⟩, va, vc, ma, mc, d, da, dc⟩ := g
  simp only [Ent12.act] at *
  subst hT
  have c : (A == 33024) = false := by simpa using hA
  have c2 : (A == 34984) = false := by simpa using hA2
  clear hA hA2
  unfold Ent12.val
  simp only
  obtain ⟨d0, d1, d2, d3, d4, d5, d6, d7, d8, d9⟩ := hx.ten
  clear hq
  go_enter Tryz.func53, Tryz.ntmps53
  go_wp2_with fail
  rw [HW.out]
  go_wp2_with fail
  go_ret
  exact ⟨rfl, HB.out⟩

set_option maxRecDepth 100000 in
set_option maxHeartbeats 2000000 in
theorem wrong_mpls_a (g : Ent12) (w : World) (hT : g.T = 19) (hA : g.A = 34887) :
    Calls Tryz.prog 53 #[g.val] w fun e w' => e = .returned (.int .i64 (wrong12 g.act)) ∧ Below w.heap.size w w' := by
  obtain ⟨W, hW, hbW, hx⟩ := act_box w g.T g.A g.B g.o.C g.o.F g.o.H g.o.X g.va g.o.v.length g.vc g.ma g.o.m.length g.mc g.da g.d.length g.dc
  have HW := hid hW
  have HB := hid hbW
  clear hW hbW
  have hq : wrong12 g.act = 0 := by simp [wrong12, Ent12.act, asked12, hT, hA]
  rw [hq]
  obtain ⟨T, A, B, ⟨C, F, H, X, v, m⟩, va, vc, ma, mc, d, da, dc⟩ := g
  simp only [Ent12.act] at *
  subst hT
  subst hA
  unfold Ent12.val
  simp only
  obtain ⟨d0, d1, d2, d3, d4, d5, d6, d7, d8, d9⟩ := hx.ten
  clear hq
  go_enter Tryz.func53, Tryz.ntmps53
  go_wp2_with fail
  rw [HW.out]
  go_wp2_with fail
  go_ret
  exact ⟨rfl, HB.out⟩

set_option maxRecDepth 100000 in
set_option maxHeartbeats 2000000 in
theorem wrong_mpls_b (g : Ent12) (w : World) (hT : g.T = 19) (hA : g.A = 34888) :
    Calls Tryz.prog 53 #[g.val] w fun e w' => e = .returned (.int .i64 (wrong12 g.act)) ∧ Below w.heap.size w w' := by
  obtain ⟨W, hW, hbW, hx⟩ := act_box w g.T g.A g.B g.o.C g.o.F g.o.H g.o.X g.va g.o.v.length g.vc g.ma g.o.m.length g.mc g.da g.d.length g.dc
  have HW := hid hW
  have HB := hid hbW
  clear hW hbW
  have hq : wrong12 g.act = 0 := by simp [wrong12, Ent12.act, asked12, hT, hA]
  rw [hq]
  obtain ⟨T, A, B, ⟨C, F, H, X, v, m⟩, va, vc, ma, mc, d, da, dc⟩ := g
  simp only [Ent12.act] at *
  subst hT
  subst hA
  unfold Ent12.val
  simp only
  obtain ⟨d0, d1, d2, d3, d4, d5, d6, d7, d8, d9⟩ := hx.ten
  clear hq
  go_enter Tryz.func53, Tryz.ntmps53
  go_wp2_with fail
  rw [HW.out]
  go_wp2_with fail
  go_ret
  exact ⟨rfl, HB.out⟩

set_option maxRecDepth 100000 in
set_option maxHeartbeats 2000000 in
theorem wrong_mpls_no (g : Ent12) (w : World) (hT : g.T = 19) (hA : g.A ≠ 34887) (hA2 : g.A ≠ 34888) :
    Calls Tryz.prog 53 #[g.val] w fun e w' => e = .returned (.int .i64 (wrong12 g.act)) ∧ Below w.heap.size w w' := by
  obtain ⟨W, hW, hbW, hx⟩ := act_box w g.T g.A g.B g.o.C g.o.F g.o.H g.o.X g.va g.o.v.length g.vc g.ma g.o.m.length g.mc g.da g.d.length g.dc
  have HW := hid hW
  have HB := hid hbW
  clear hW hbW
  have hq : wrong12 g.act = 518 := by simp [wrong12, Ent12.act, asked12, hT, hA, hA2]
  rw [hq]
  obtain ⟨T, A, B, ⟨C, F, H, X, v, m⟩, va, vc, ma, mc, d, da, dc⟩ := g
  simp only [Ent12.act] at *
  subst hT
  have c : (A == 34887) = false := by simpa using hA
  have c2 : (A == 34888) = false := by simpa using hA2
  clear hA hA2
  unfold Ent12.val
  simp only
  obtain ⟨d0, d1, d2, d3, d4, d5, d6, d7, d8, d9⟩ := hx.ten
  clear hq
  go_enter Tryz.func53, Tryz.ntmps53
  go_wp2_with fail
  rw [HW.out]
  go_wp2_with fail
  go_ret
  exact ⟨rfl, HB.out⟩

set_option maxRecDepth 100000 in
set_option maxHeartbeats 2000000 in
theorem wrong_pbb_a (g : Ent12) (w : World) (hT : g.T = 26) (hA : g.A = 35047) :
    Calls Tryz.prog 53 #[g.val] w fun e w' => e = .returned (.int .i64 (wrong12 g.act)) ∧ Below w.heap.size w w' := by
  obtain ⟨W, hW, hbW, hx⟩ := act_box w g.T g.A g.B g.o.C g.o.F g.o.H g.o.X g.va g.o.v.length g.vc g.ma g.o.m.length g.mc g.da g.d.length g.dc
  have HW := hid hW
  have HB := hid hbW
  clear hW hbW
  have hq : wrong12 g.act = 0 := by simp [wrong12, Ent12.act, asked12, hT, hA]
  rw [hq]
  obtain ⟨T, A, B, ⟨C, F, H, X, v, m⟩, va, vc, ma, mc, d, da, dc⟩ := g
  simp only [Ent12.act] at *
  subst hT
  subst hA
  unfold Ent12.val
  simp only
  obtain ⟨d0, d1, d2, d3, d4, d5, d6, d7, d8, d9⟩ := hx.ten
  clear hq
  go_enter Tryz.func53, Tryz.ntmps53
  go_wp2_with fail
  rw [HW.out]
  go_wp2_with fail
  go_ret
  exact ⟨rfl, HB.out⟩

set_option maxRecDepth 100000 in
set_option maxHeartbeats 2000000 in
theorem wrong_pbb_no (g : Ent12) (w : World) (hT : g.T = 26) (hA : g.A ≠ 35047) :
    Calls Tryz.prog 53 #[g.val] w fun e w' => e = .returned (.int .i64 (wrong12 g.act)) ∧ Below w.heap.size w w' := by
  obtain ⟨W, hW, hbW, hx⟩ := act_box w g.T g.A g.B g.o.C g.o.F g.o.H g.o.X g.va g.o.v.length g.vc g.ma g.o.m.length g.mc g.da g.d.length g.dc
  have HW := hid hW
  have HB := hid hbW
  clear hW hbW
  have hq : wrong12 g.act = 518 := by simp [wrong12, Ent12.act, asked12, hT, hA]
  rw [hq]
  obtain ⟨T, A, B, ⟨C, F, H, X, v, m⟩, va, vc, ma, mc, d, da, dc⟩ := g
  simp only [Ent12.act] at *
  subst hT
  have c : (A == 35047) = false := by simpa using hA
  clear hA
  unfold Ent12.val
  simp only
  obtain ⟨d0, d1, d2, d3, d4, d5, d6, d7, d8, d9⟩ := hx.ten
  clear hq
  go_enter Tryz.func53, Tryz.ntmps53
  go_wp2_with fail
  rw [HW.out]
  go_wp2_with fail
  go_ret
  exact ⟨rfl, HB.out⟩

set_option maxRecDepth 100000 in
set_option maxHeartbeats 2000000 in
theorem wrong_exp_yes (g : Ent12) (w : World) (hT : g.T = 65535) (hd : g.d.length % 8 = 0) :
    Calls Tryz.prog 53 #[g.val] w fun e w' => e = .returned (.int .i64 (wrong12 g.act)) ∧ Below w.heap.size w w' := by
  obtain ⟨W, hW, hbW, hx⟩ := act_box w g.T g.A g.B g.o.C g.o.F g.o.H g.o.X g.va g.o.v.length g.vc g.ma g.o.m.length g.mc g.da g.d.length g.dc
  have HW := hid hW
  have HB := hid hbW
  clear hW hbW
  have hq : wrong12 g.act = 0 := by simp [wrong12, Ent12.act, hT, hd]
  rw [hq]
  obtain ⟨T, A, B, ⟨C, F, H, X, v, m⟩, va, vc, ma, mc, d, da, dc⟩ := g
  simp only [Ent12.act] at *
  subst hT
  have t1 : ((d.length : Nat) : Int).tmod 8 = 0 := by rw [Int.tmod_eq_emod_of_nonneg (by omega)]; omega
  clear hd
  unfold Ent12.val
  simp only
  obtain ⟨d0, d1, d2, d3, d4, d5, d6, d7, d8, d9⟩ := hx.ten
  clear hq
  go_enter Tryz.func53, Tryz.ntmps53
  go_wp2_with fail
  rw [HW.out]
  go_wp2_with fail
  go_ret
  exact ⟨rfl, HB.out⟩

set_option maxRecDepth 100000 in
set_option maxHeartbeats 2000000 in
theorem wrong_exp_no (g : Ent12) (w : World) (hT : g.T = 65535) (hd : g.d.length % 8 ≠ 0) :
    Calls Tryz.prog 53 #[g.val] w fun e w' => e = .returned (.int .i64 (wrong12 g.act)) ∧ Below w.heap.size w w' := by
  obtain ⟨W, hW, hbW, hx⟩ := act_box w g.T g.A g.B g.o.C g.o.F g.o.H g.o.X g.va g.o.v.length g.vc g.ma g.o.m.length g.mc g.da g.d.length g.dc
  have HW := hid hW
  have HB := hid hbW
  clear hW hbW
  have hq : wrong12 g.act = 514 := by simp [wrong12, Ent12.act, hT, hd]
  rw [hq]
  obtain ⟨T, A, B, ⟨C, F, H, X, v, m⟩, va, vc, ma, mc, d, da, dc⟩ := g
  simp only [Ent12.act] at *
  subst hT
  obtain ⟨k, hk⟩ : ∃ k : Int, ((d.length : Nat) : Int).tmod 8 = k := ⟨_, rfl⟩
  have c : (k == 0) = false := by have h2 := Int.tmod_eq_emod_of_nonneg (a := ((d.length : Nat) : Int)) (b := 8) (by omega); simp; omega
  clear hd
  unfold Ent12.val
  simp only
  obtain ⟨d0, d1, d2, d3, d4, d5, d6, d7, d8, d9⟩ := hx.ten
  clear hq
  go_enter Tryz.func53, Tryz.ntmps53
  go_wp2_with fail
  rw [HW.out]
  go_wp2_with fail
  go_ret
  exact ⟨rfl, HB.out⟩

set_option maxRecDepth 100000 in
set_option maxHeartbeats 2000000 in
theorem wrong_else (g : Ent12) (w : World) (hT : g.T ≠ 0 ∧ g.T ≠ 22 ∧ g.T ≠ 17 ∧ g.T ≠ 19 ∧ g.T ≠ 26 ∧ g.T ≠ 65535 ∧ g.T ≠ 25) :
    Calls Tryz.prog 53 #[g.val] w fun e w' => e = .returned (.int .i64 (wrong12 g.act)) ∧ Below w.heap.size w w' := by
  obtain ⟨W, hW, hbW, hx⟩ := act_box w g.T g.A g.B g.o.C g.o.F g.o.H g.o.X g.va g.o.v.length g.vc g.ma g.o.m.length g.mc g.da g.d.length g.dc
  have HW := hid hW
  have HB := hid hbW
  clear hW hbW
  have hq : wrong12 g.act = 0 := by simp [wrong12, Ent12.act, asked12, hT]
  rw [hq]
  obtain ⟨T, A, B, ⟨C, F, H, X, v, m⟩, va, vc, ma, mc, d, da, dc⟩ := g
  simp only [Ent12.act] at *
  obtain ⟨h0, h1, h2, h3, h4, h5, h6⟩ := hT
  have c0 : (T == 0) = false := by simpa using h0
  have c1 : (T == 22) = false := by simpa using h1
  have c2 : (T == 17) = false := by simpa using h2
  have c3 : (T == 19) = false := by simpa using h3
  have c4 : (T == 26) = false := by simpa using h4
  have c5 : (T == 65535) = false := by simpa using h5
  have c6 : (T == 25) = false := by simpa using h6
  clear h0 h1 h2 h3 h4 h5 h6
  unfold Ent12.val
  simp only
  obtain ⟨d0, d1, d2, d3, d4, d5, d6, d7, d8, d9⟩ := hx.ten
  clear hq
  go_enter Tryz.func53, Tryz.ntmps53
  go_wp2_with fail
  rw [HW.out]
  go_wp2_with fail
  go_ret
  exact ⟨rfl, HB.out⟩

set_option maxRecDepth 100000 in
set_option maxHeartbeats 2000000 in
theorem wrong_set (g : Ent12) (w : World) (hi : ActIn w g) (hT : g.T = 25) :
    Calls Tryz.prog 53 #[g.val] w fun e w' => e = .returned (.int .i64 (wrong12 g.act)) ∧ Below w.heap.size w w' := by
  obtain ⟨W, hW, hbW, hx⟩ := act_box w g.T g.A g.B g.o.C g.o.F g.o.H g.o.X g.va g.o.v.length g.vc g.ma g.o.m.length g.mc g.da g.d.length g.dc
  have HW := hid hW
  have HB := hid hbW
  have hq : wrong12 g.act = wset12 g.o := by simp [wrong12, Ent12.act, hT]
  have WS := hid (wrongSet_any g.o g.va g.vc g.ma g.mc W hi.lv hi.lm hi.cm hi.ov hi.om (hi.iv.below hbW) (hi.im.below hbW))
  rw [hq]
  obtain ⟨q, hqq⟩ : ∃ q, wset12 g.o = q := ⟨_, rfl⟩
  rw [hqq] at WS ⊢
  clear hi hW hbW hq hqq
  obtain ⟨T, A, B, ⟨C, F, H, X, v, m⟩, va, vc, ma, mc, d, da, dc⟩ := g
  simp only at *
  subst hT
  unfold Ent12.val
  simp only
  obtain ⟨d0, d1, d2, d3, d4, d5, d6, d7, d8, d9⟩ := hx.ten
  go_enter Tryz.func53, Tryz.ntmps53
  go_wp2_with fail
  rw [HW.out]
  go_wp2_with fail
  refine WS.out.mono ?_
  rintro e w1 ⟨rfl, hb⟩
  go_wp2_with fail
  go_ret
  exact ⟨rfl, below_on HB.out hb⟩
theorem wrong_any (g : Ent12) (w : World) (hi : ActIn w g) :
    Calls Tryz.prog 53 #[g.val] w fun e w' => e = .returned (.int .i64 (wrong12 g.act)) ∧ Below w.heap.size w w' := by
  rcases (show g.T = 0 ∨ g.T = 22 ∨ g.T = 17 ∨ g.T = 19 ∨ g.T = 26 ∨ g.T = 65535 ∨ g.T = 25 ∨ (g.T ≠ 0 ∧ g.T ≠ 22 ∧ g.T ≠ 17 ∧ g.T ≠ 19 ∧ g.T ≠ 26 ∧ g.T ≠ 65535 ∧ g.T ≠ 25) by omega) with h | h | h | h | h | h | h | h
  · by_cases hA : g.A = 0
    · exact wrong_out_no g w h hA
    · exact wrong_out_yes g w h hA
  · by_cases hA : 4294967040 < g.A
    · exact wrong_grp_no g w h hA
    · exact wrong_grp_yes g w h hA
  · by_cases hA : g.A = 33024
    · exact wrong_vlan_a g w h hA
    · by_cases hA2 : g.A = 34984
      · exact wrong_vlan_b g w h hA2
      · exact wrong_vlan_no g w h hA hA2
  · by_cases hA : g.A = 34887
    · exact wrong_mpls_a g w h hA
    · by_cases hA2 : g.A = 34888
      · exact wrong_mpls_b g w h hA2
      · exact wrong_mpls_no g w h hA hA2
  · by_cases hA : g.A = 35047
    · exact wrong_pbb_a g w h hA
    · exact wrong_pbb_no g w h hA
  · by_cases hd : g.d.length % 8 = 0
    · exact wrong_exp_yes g w h hd
    · exact wrong_exp_no g w h hd
  · exact wrong_set g w hi h
  · exact wrong_else g w h
end Go.Proofs.YtdjlbejhphbcoaaGreat
namespace Go.Proofs.YtdjlbejhphbcoaaGreat
open Go.RowKit
set_option linter.unusedVariables false

/-- an error, and some action beside it -/
def Bad12 (q : Int) (e : Ending) : Prop := ∃ (T A B C F : Int) (H : Bool) (X : Int) (va : Option Addr) (vl vc : Nat) (ma : Option Addr) (ml mc : Nat) (da : Option Addr) (dl dc : Nat), e = .returned (.tuple #[.agg #[.int .i64 T, .int .u64 A, .int .u64 B, .int .i64 C, .int .i64 F, .bool H, .int .u64 X, .slice va vl vc, .slice ma ml mc, .slice da dl dc], .int .i64 q])
theorem bad12 {q T A B C F : Int} {H : Bool} {X : Int} {va : Option Addr} {vl vc : Nat} {ma : Option Addr} {ml mc : Nat} {da : Option Addr} {dl dc : Nat} : Bad12 q (.returned (.tuple #[.agg #[.int .i64 T, .int .u64 A, .int .u64 B, .int .i64 C, .int .i64 F, .bool H, .int .u64 X, .slice va vl vc, .slice ma ml mc, .slice da dl dc], .int .i64 q])) := ⟨_, _, _, _, _, _, _, _, _, _, _, _, _, _, _, _, rfl⟩
/-- what reading the field that is set comes to -/
def SetPost12 (R : Except Int Ox9) (w : World) (e : Ending) (w' : World) : Prop :=
  (∃ q, R = .error q ∧ q ≠ 0 ∧ Bad12 q e ∧ Below w.heap.size w w') ∨
  (∃ o a1 k1 a2 k2, R = .ok o ∧ e = .returned (.tuple #[.agg #[.int .i64 25, .int .u64 0, .int .u64 0, .int .i64 o.C, .int .i64 o.F, .bool o.H, .int .u64 o.X, .slice a1 o.v.length k1, .slice a2 o.m.length k2, .slice none 0 0], .int .i64 0]) ∧ Below w.heap.size w w' ∧ Ints .u8 w' a1 o.v ∧ Ints .u8 w' a2 o.m ∧ o.m.length ≤ k2 ∧ New8 w a1 ∧ New8 w a2)
def ox12 (o : Oxm8) : Ox9 := ⟨o.C, o.F, o.H, o.X, o.v, o.m⟩
theorem set12_no {x : List Int} {q : Int} (h : decL x = .error q) : set12 x = .error (if q = 1026 then 527 else if q = 1031 then 526 else 528) := by unfold set12; rw [h]
theorem set12_is {x : List Int} {C F : Int} {H : Bool} {X : Int} {v m : List Int} {n : Nat} (h : decL x = .ok ⟨C, F, H, X, v, m, n⟩) : set12 x = (if C ≠ 32768 ∨ ¬ (2 < F ∧ F < 39) then .error 526 else if H = true then .error 528 else if n + 8 ≤ x.length ∨ x.length < n then .error 527 else if zeros (x.drop n) = false then .error 528 else .ok ⟨C, F, H, X, v, m⟩) := by
  unfold set12
  rw [h]
theorem wset_is (C F : Int) (H : Bool) (X : Int) (v m : List Int) : wset12 ⟨C, F, H, X, v, m⟩ = (if C = 32768 ∧ 2 < F ∧ F < 39 then (if H = false ∧ rightB C F H X v m = true then 0 else 528) else 526) := rfl
theorem set12_bad {x : List Int} {o : Oxm8} (h : decL x = .ok o) (ho : Octets x) (hw : wset12 (ox12 o) ≠ 0) : set12 x = .error (wset12 (ox12 o)) := by
  have hr := (dec_right h ho).1
  obtain ⟨C, F, H, X, v, m, n⟩ := o
  rw [set12_is h]
  have e : wset12 (ox12 ⟨C, F, H, X, v, m, n⟩) = wset12 ⟨C, F, H, X, v, m⟩ := rfl
  rw [e, wset_is] at hw ⊢
  have hr : rightB C F H X v m = true := hr
  by_cases h1 : C = 32768 ∧ 2 < F ∧ F < 39
  · rw [if_pos h1] at hw ⊢
    by_cases h2 : H = false
    · exact absurd (by rw [if_pos ⟨h2, hr⟩]) hw
    · rw [if_neg (fun k => k.elim (fun k => k h1.1) (fun k => k h1.2)), if_pos (by simpa using h2), if_neg (fun k => h2 k.1)]
  · rw [if_neg h1, if_pos (by
      by_cases h3 : C = 32768
      · exact .inr (fun k => h1 ⟨h3, k⟩)
      · exact .inl h3)]
theorem set12_good {x : List Int} {o : Oxm8} (h : decL x = .ok o) (ho : Octets x) (hw : wset12 (ox12 o) = 0) : set12 x = if o.n + 8 ≤ x.length then .error 527 else if zeros (x.drop o.n) = false then .error 528 else .ok (ox12 o) := by
  obtain ⟨hr, hn, -, -⟩ := dec_right h ho
  obtain ⟨C, F, H, X, v, m, n⟩ := o
  rw [set12_is h]
  have e : wset12 (ox12 ⟨C, F, H, X, v, m, n⟩) = wset12 ⟨C, F, H, X, v, m⟩ := rfl
  rw [e, wset_is] at hw
  have hn : n ≤ x.length := hn
  show _ = if n + 8 ≤ x.length then _ else if zeros (x.drop n) = false then _ else _
  by_cases h1 : C = 32768 ∧ 2 < F ∧ F < 39
  · rw [if_pos h1] at hw
    by_cases h2 : H = false ∧ rightB C F H X v m = true
    · rw [if_neg (fun k => k.elim (fun k => k h1.1) (fun k => k h1.2)), if_neg (by simp [h2.1])]
      by_cases h8 : n + 8 ≤ x.length
      · rw [if_pos h8, if_pos (.inl h8)]
      · rw [if_neg h8, if_neg (by omega)]
        rfl
    · rw [if_neg h2] at hw; simp at hw
  · rw [if_neg h1] at hw; simp at hw
theorem getW_zeros12 {l : List Int} {z : Nat} (hl : l.length = z) (h0 : 0 < z) (h8 : z < 8) : getW [-(z : Int)] l = if zeros l then .ok [] else .error 2 := by
  have hr : rightW [-(z : Int)] = true := by simp [rightW, allW, isW]; omega
  have e : (-(z : Int)).natAbs = z := by omega
  rw [getW_yes12 hr]
  simp only [getL, e]
  rw [if_neg (by omega), if_neg (by omega), List.take_of_length_le (by omega)]

set_option maxRecDepth 100000 in
set_option maxHeartbeats 2000000 in
theorem readSet_no (b : List Int) (a : Option Addr) (c : Nat) (hbc : b.length ≤ c) (hc : c ≤ 9223372036854775807) (ho : Octets b) (w : World) (hI : Ints .u8 w a b) (q : Int) (hq : decL b = .error q) :
    Calls Tryz.prog 99 #[.slice a b.length c] w (SetPost12 (set12 b) w) := by
  obtain ⟨W, hW, hbW, hx⟩ := act_box w 0 0 0 0 0 false 0 none 0 0 none 0 0 none 0 0
  have HW := hid hW
  have HB := hid hbW
  have DE := hid (decode8_any b a c hbc hc ho W (hI.below hbW))
  have HS := hid (set12_no hq)
  have HQ := hid hq
  clear hW hbW ho hI hq
  go_enter Tryz.func99, Tryz.ntmps99
  go_wp2_with fail
  rw [HW.out]
  refine DE.out.mono ?_
  rintro e w1 (⟨q', hq', hq0, rfl, hb1⟩ | ⟨o, _, _, _, _, hq', _⟩)
  case inr => rw [HQ.out] at hq'; cases hq'
  rw [HQ.out] at hq'
  cases hq'
  have hx1 := hx.below hb1
  obtain ⟨W2, hW2, hbW2, hy⟩ := oxm_box w1 0 0 false 0 none 0 0 none 0 0
  have HW2 := hid hW2
  have hx2 := hx1.below hbW2
  have HB2 := hid (below_on (below_on HB.out hb1) hbW2)
  have hq1 : (q != 0) = true := by simpa using hq0
  have SE := hid (setError_any q W2)
  have HE : Hid ((if q = 1026 then 527 else if q = 1031 then 526 else 528 : Int) ≠ 0) := by show _ ≠ _; split <;> (try split) <;> decide
  obtain ⟨q2, hq2⟩ : ∃ q2 : Int, (if q = 1026 then 527 else if q = 1031 then 526 else 528) = q2 := ⟨_, rfl⟩
  rw [hq2] at SE HE HS
  clear hq2 hW2 hbW2 hb1 hx hx1 hq0
  go_wp2_with fail
  rw [HW2.out]
  refine SE.out.mono ?_
  rintro e w' ⟨rfl, rfl⟩
  have z := hx2.free
  obtain ⟨d0, d1, d2, d3, d4, d5, d6, d7, d8, d9⟩ :=  hx2.ten
  go_wp2_with fail
  have hkk := hx2.set10 (.int .i64 0) (.int .u64 0) (.int .u64 0) (.int .i64 0) (.int .i64 0) (.bool false) (.int .u64 0) (.slice none 0 0) (.slice none 0 0) (.slice none 0 0)
  obtain ⟨k0, k1, k2, k3, k4, k5, k6, k7, k8, k9⟩ := hkk.ten
  refine bodyPost_ret (v := .tuple #[zero12, .int .i64 q2]) (by simp [results, Tryz.results99, go_sem, zero12, k0, k1, k2, k3, k4, k5, k6, k7, k8, k9]) rfl (.inl ⟨q2, HS.out, HE.out, bad12, ?_⟩)
  repeat (with_reducible refine Below.setCell ?_ (by simp) _)
  exact HB2.out
end Go.Proofs.YtdjlbejhphbcoaaGreat
namespace Go.Proofs.YtdjlbejhphbcoaaGreat
open Go.RowKit
set_option linter.unusedVariables false

set_option maxRecDepth 100000 in
set_option maxHeartbeats 2000000 in
theorem readSet_b_ge (b : List Int) (M off : Nat) (c : Nat) (hbl : b.length ≤ 100000) (hbc : b.length ≤ c) (hc : c ≤ 9223372036854775807) (ho : Octets b) (w : World) (hI : Ints .u8 w (some ⟨M, off, none⟩) b) (o : Oxm8) (hq : decL b = .ok o) (hbad : wset12 (ox12 o) ≠ 0) (hz : o.n + 8 ≤ b.length) (hcn : ¬ c = o.n) :
    Calls Tryz.prog 99 #[.slice (some ⟨M, off, none⟩) b.length c] w (SetPost12 (set12 b) w) := by
  obtain ⟨W, hW, hbW, hx⟩ := act_box w 0 0 0 0 0 false 0 none 0 0 none 0 0 none 0 0
  have HW := hid hW
  have HB := hid hbW
  have DE := hid (decode8_any b _ c hbc hc ho W (hI.below hbW))
  obtain ⟨hr, hn, -, hX0⟩ := dec_right hq ho
  obtain ⟨hov, hom, hlv, hlm, -⟩ := raw_octets (dec_raw hq) ho
  have HS := hid (set12_bad hq ho hbad)
  obtain ⟨ws, hws⟩ : ∃ ws, wset12 (ox12 o) = ws := ⟨_, rfl⟩
  have HWS := hid (fun (V : World) (a1 a2 : Option Addr) (c1 c2 : Nat) (hc2 : o.m.length ≤ c2) (i1 : Ints .u8 V a1 o.v) (i2 : Ints .u8 V a2 o.m) => wrongSet_any (ox12 o) a1 c1 a2 c2 V (show o.v.length ≤ 1000 by omega) (show o.m.length ≤ 1000 by omega) hc2 hov hom i1 i2)
  rw [hws] at HWS
  rw [hws] at HS hbad
  have HQ := hid hq
  have OR := hid (ho.drop o.n)
  have hI0 := hid hI
  obtain ⟨C, F, H, X, v, m, n⟩ := o
  simp only [ox12] at *
  obtain ⟨rest, hrest⟩ : ∃ l, b.drop n = l := ⟨_, rfl⟩
  have hrl : rest.length = b.length - n := by rw [← hrest, List.length_drop]
  rw [hrest] at OR
  have HRE := hid hrest
  have IR : Hid (∀ V : World, Below w.heap.size w V → Ints .u8 V (some ⟨M, off + n, none⟩) rest) := by
    intro V hV
    have := (hI.below hV).drop (j := n) (cap := c) (by omega)
    rw [hrest] at this
    rw [if_neg hcn] at this
    exact this
  have e1 : (0 : Int) ≤ n := by omega
  have e2 : (n : Int) ≤ b.length := by omega
  have e3 : (n : Int) ≤ c := by omega
  clear hW hbW ho hI hq hr hX0 hov hom hws hrest
  go_enter Tryz.func99, Tryz.ntmps99
  go_wp2_with fail
  rw [HW.out]
  refine DE.out.mono ?_
  rintro e w1 (⟨q', hq', _⟩ | ⟨o', a1, c1, a2, c2, hq', rfl, hb1, i1, i2, hmc, hn1, hn2⟩)
  · rw [HQ.out] at hq'; cases hq'
  rw [HQ.out] at hq'
  cases hq'
  simp only at i1 i2 hmc
  have hx1 := hx.below hb1
  obtain ⟨W2, hW2, hbW2, hy⟩ := oxm_box w1 C F H X a1 v.length c1 a2 m.length c2
  have HW2 := hid hW2
  have hx2 := hx1.below hbW2
  have HB2 := hid (below_on (below_on HB.out hb1) hbW2)
  have I1 := hid (i1.below hbW2)
  have I2 := hid (i2.below hbW2)
  have HN1 : Hid (New8 w a1) := fun q hq => by have := hn1 q hq; have := HB.out.size; omega
  have HN2 : Hid (New8 w a2) := fun q hq => by have := hn2 q hq; have := HB.out.size; omega
  have HN1' : Hid (∀ q : Addr, a1 = some q → q.block ≠ w.heap.size) := fun q hq => by have := hn1 q hq; have := hx.lt; omega
  have HN2' : Hid (∀ q : Addr, a2 = some q → q.block ≠ w.heap.size) := fun q hq => by have := hn2 q hq; have := hx.lt; omega
  have HMC := hid hmc
  have hne : w.heap.size ≠ w1.heap.size := by have := hx1.lt; omega
  clear hW2 hbW2 hb1 hx hx1 hn1 hn2 i1 i2 hmc
  go_wp2_with fail
  rw [HW2.out]
  refine (new_lit rest _ _ _ 527 528 W2 (by omega) (by omega) OR.out (IR.out _ HB2.out)).mono ?_
  rintro e w3 ⟨g, rfl, hc3, hb3, hg1, hg2⟩
  have H3 : Hid (CurOn W2 w3 g W2.heap.size rest 0 527 528 0) := ⟨hc3, hb3, by omega, Nat.le_refl _⟩
  clear hc3 hb3 hg1 hg2
  obtain ⟨f0, f1, f2, f3, f4, f5⟩ := (hy.below H3.out.bel).six
  go_wp2_with fail
  refine (HWS.out _ a1 a2 c1 c2 HMC.out (I1.out.below H3.out.bel) (I2.out.below H3.out.bel)).mono ?_
  rintro e w4 ⟨rfl, hb4⟩
  have H4 := hid (H3.out.below hb4)
  clear hb4 f0 f1 f2 f3 f4 f5
  go_wp2_with fail
  refine (H4.out.cur.fail _).mono ?_
  rintro e w5 ⟨rfl, hc5, hb5⟩
  have H5 := hid (H4.out.by hb5 hc5)
  clear hc5 hb5
  go_wp2_with fail
  refine (H5.out.cur.left).mono ?_
  rintro e w' ⟨rfl, rfl⟩
  obtain ⟨z, hz0⟩ : ∃ z, rest.length = z := ⟨_, rfl⟩
  have HZ0 := hid hz0
  rw [hz0] at hrl ⊢
  have z8 : (8 : Int) ≤ z := by omega
  clear hrl hz0
  go_wp2_with fail
  refine (H5.out.cur.fail_late hbad _).mono ?_
  rintro e w' ⟨rfl, rfl⟩
  have hxE := hx2.below H5.out.bel
  have hyE := hy.below H5.out.bel
  have HBE := hid (below_on HB2.out H5.out.bel)
  have I1E := hid (I1.out.below H5.out.bel)
  have I2E := hid (I2.out.below H5.out.bel)
  have n1 : ¬ w1.heap.size = w.heap.size := fun e => hne e.symm
  have n2 : ¬ w.heap.size = w1.heap.size := hne
  have HcD := hid (H5.out.cur.below (below_drew8 _))
  have zf := hxE.free
  obtain ⟨d0, d1, d2, d3, d4, d5, d6, d7, d8, d9⟩ :=  hxE.ten
  obtain ⟨f0, f1, f2, f3, f4, f5⟩ := hyE.six
  go_upto_region 11 with fail
  go_region_held3 (fun w' => w'.cell? ⟨w1.heap.size, 0, none⟩ = some (.int .i64 C) ∧ w'.cell? ⟨w1.heap.size, 1, none⟩ = some (.int .i64 F) ∧ w'.cell? ⟨w1.heap.size, 2, none⟩ = some (.bool H) ∧ w'.cell? ⟨w1.heap.size, 3, none⟩ = some (.int .u64 X) ∧ w'.cell? ⟨w1.heap.size, 4, none⟩ = some (.slice a1 v.length c1) ∧ w'.cell? ⟨w1.heap.size, 5, none⟩ = some (.slice a2 m.length c2)) (go_keep) (first
    | (go_at_call 38; refine HcD.out.err.mono ?_; rintro e w' ⟨rfl, rfl⟩)
    | fail)
  go_wp2_with fail
  have hkk := hxE.set10 (.int .i64 25) (.int .u64 0) (.int .u64 0) (.int .i64 C) (.int .i64 F) (.bool H) (.int .u64 X) (.slice a1 v.length c1) (.slice a2 m.length c2) (.slice none 0 0)
  replace hkk := hkk.drew
  obtain ⟨k0, k1, k2, k3, k4, k5, k6, k7, k8, k9⟩ := hkk.ten
  refine bodyPost_ret (v := .tuple #[.agg #[.int .i64 25, .int .u64 0, .int .u64 0, .int .i64 C, .int .i64 F, .bool H, .int .u64 X, .slice a1 v.length c1, .slice a2 m.length c2, .slice none 0 0], .int .i64 ws]) (by simp [results, Tryz.results99, go_sem, k0, k1, k2, k3, k4, k5, k6, k7, k8, k9]) rfl (.inl ⟨_, HS.out, hbad, bad12, ?_⟩)
  with_reducible refine Below.drew ?_
  repeat (with_reducible refine Below.setCell ?_ (by simp) _)
  exact HBE.out

set_option maxRecDepth 100000 in
set_option maxHeartbeats 2000000 in
theorem readSet_b_mid (b : List Int) (M off : Nat) (c : Nat) (hbl : b.length ≤ 100000) (hbc : b.length ≤ c) (hc : c ≤ 9223372036854775807) (ho : Octets b) (w : World) (hI : Ints .u8 w (some ⟨M, off, none⟩) b) (o : Oxm8) (hq : decL b = .ok o) (hbad : wset12 (ox12 o) ≠ 0) (hz : o.n < b.length ∧ b.length < o.n + 8) (hcn : ¬ c = o.n) :
    Calls Tryz.prog 99 #[.slice (some ⟨M, off, none⟩) b.length c] w (SetPost12 (set12 b) w) := by
  obtain ⟨W, hW, hbW, hx⟩ := act_box w 0 0 0 0 0 false 0 none 0 0 none 0 0 none 0 0
  have HW := hid hW
  have HB := hid hbW
  have DE := hid (decode8_any b _ c hbc hc ho W (hI.below hbW))
  obtain ⟨hr, hn, -, hX0⟩ := dec_right hq ho
  obtain ⟨hov, hom, hlv, hlm, -⟩ := raw_octets (dec_raw hq) ho
  have HS := hid (set12_bad hq ho hbad)
  obtain ⟨ws, hws⟩ : ∃ ws, wset12 (ox12 o) = ws := ⟨_, rfl⟩
  have HWS := hid (fun (V : World) (a1 a2 : Option Addr) (c1 c2 : Nat) (hc2 : o.m.length ≤ c2) (i1 : Ints .u8 V a1 o.v) (i2 : Ints .u8 V a2 o.m) => wrongSet_any (ox12 o) a1 c1 a2 c2 V (show o.v.length ≤ 1000 by omega) (show o.m.length ≤ 1000 by omega) hc2 hov hom i1 i2)
  rw [hws] at HWS
  rw [hws] at HS hbad
  have HQ := hid hq
  have OR := hid (ho.drop o.n)
  have hI0 := hid hI
  obtain ⟨C, F, H, X, v, m, n⟩ := o
  simp only [ox12] at *
  obtain ⟨rest, hrest⟩ : ∃ l, b.drop n = l := ⟨_, rfl⟩
  have hrl : rest.length = b.length - n := by rw [← hrest, List.length_drop]
  rw [hrest] at OR
  have HRE := hid hrest
  have IR : Hid (∀ V : World, Below w.heap.size w V → Ints .u8 V (some ⟨M, off + n, none⟩) rest) := by
    intro V hV
    have := (hI.below hV).drop (j := n) (cap := c) (by omega)
    rw [hrest] at this
    rw [if_neg hcn] at this
    exact this
  have e1 : (0 : Int) ≤ n := by omega
  have e2 : (n : Int) ≤ b.length := by omega
  have e3 : (n : Int) ≤ c := by omega
  clear hW hbW ho hI hq hr hX0 hov hom hws hrest
  go_enter Tryz.func99, Tryz.ntmps99
  go_wp2_with fail
  rw [HW.out]
  refine DE.out.mono ?_
  rintro e w1 (⟨q', hq', _⟩ | ⟨o', a1, c1, a2, c2, hq', rfl, hb1, i1, i2, hmc, hn1, hn2⟩)
  · rw [HQ.out] at hq'; cases hq'
  rw [HQ.out] at hq'
  cases hq'
  simp only at i1 i2 hmc
  have hx1 := hx.below hb1
  obtain ⟨W2, hW2, hbW2, hy⟩ := oxm_box w1 C F H X a1 v.length c1 a2 m.length c2
  have HW2 := hid hW2
  have hx2 := hx1.below hbW2
  have HB2 := hid (below_on (below_on HB.out hb1) hbW2)
  have I1 := hid (i1.below hbW2)
  have I2 := hid (i2.below hbW2)
  have HN1 : Hid (New8 w a1) := fun q hq => by have := hn1 q hq; have := HB.out.size; omega
  have HN2 : Hid (New8 w a2) := fun q hq => by have := hn2 q hq; have := HB.out.size; omega
  have HN1' : Hid (∀ q : Addr, a1 = some q → q.block ≠ w.heap.size) := fun q hq => by have := hn1 q hq; have := hx.lt; omega
  have HN2' : Hid (∀ q : Addr, a2 = some q → q.block ≠ w.heap.size) := fun q hq => by have := hn2 q hq; have := hx.lt; omega
  have HMC := hid hmc
  have hne : w.heap.size ≠ w1.heap.size := by have := hx1.lt; omega
  clear hW2 hbW2 hb1 hx hx1 hn1 hn2 i1 i2 hmc
  go_wp2_with fail
  rw [HW2.out]
  refine (new_lit rest _ _ _ 527 528 W2 (by omega) (by omega) OR.out (IR.out _ HB2.out)).mono ?_
  rintro e w3 ⟨g, rfl, hc3, hb3, hg1, hg2⟩
  have H3 : Hid (CurOn W2 w3 g W2.heap.size rest 0 527 528 0) := ⟨hc3, hb3, by omega, Nat.le_refl _⟩
  clear hc3 hb3 hg1 hg2
  obtain ⟨f0, f1, f2, f3, f4, f5⟩ := (hy.below H3.out.bel).six
  go_wp2_with fail
  refine (HWS.out _ a1 a2 c1 c2 HMC.out (I1.out.below H3.out.bel) (I2.out.below H3.out.bel)).mono ?_
  rintro e w4 ⟨rfl, hb4⟩
  have H4 := hid (H3.out.below hb4)
  clear hb4 f0 f1 f2 f3 f4 f5
  go_wp2_with fail
  refine (H4.out.cur.fail _).mono ?_
  rintro e w5 ⟨rfl, hc5, hb5⟩
  have H5 := hid (H4.out.by hb5 hc5)
  clear hc5 hb5
  go_wp2_with fail
  refine (H5.out.cur.left).mono ?_
  rintro e w' ⟨rfl, rfl⟩
  obtain ⟨z, hz0⟩ : ∃ z, rest.length = z := ⟨_, rfl⟩
  have HZ0 := hid hz0
  rw [hz0] at hrl ⊢
  have z8 : ¬ (8 : Int) ≤ z := by omega
  have z0 : (0 : Int) < z := by omega
  have HZ1 : Hid (0 < z ∧ z < 8) := ⟨by omega, by omega⟩
  clear hrl hz0
  go_wp2_with fail
  have H5a := hid (H5.out.below (below_alloc _ (.cells #[.int .i64 (-(z : Int))] 3)))
  refine (H5a.out.cur.row_late hbad _).mono ?_
  rintro e w' ⟨rfl, rfl⟩
  have hxE := hx2.below H5a.out.bel
  have hyE := hy.below H5a.out.bel
  have HBE := hid (below_on HB2.out H5a.out.bel)
  have I1E := hid (I1.out.below H5a.out.bel)
  have I2E := hid (I2.out.below H5a.out.bel)
  have n1 : ¬ w1.heap.size = w.heap.size := fun e => hne e.symm
  have n2 : ¬ w.heap.size = w1.heap.size := hne
  have HcD := hid (H5a.out.cur.below (below_drew8 _))
  have zf := hxE.free
  obtain ⟨d0, d1, d2, d3, d4, d5, d6, d7, d8, d9⟩ :=  hxE.ten
  obtain ⟨f0, f1, f2, f3, f4, f5⟩ := hyE.six
  go_upto_region 11 with fail
  go_region_held3 (fun w' => w'.cell? ⟨w1.heap.size, 0, none⟩ = some (.int .i64 C) ∧ w'.cell? ⟨w1.heap.size, 1, none⟩ = some (.int .i64 F) ∧ w'.cell? ⟨w1.heap.size, 2, none⟩ = some (.bool H) ∧ w'.cell? ⟨w1.heap.size, 3, none⟩ = some (.int .u64 X) ∧ w'.cell? ⟨w1.heap.size, 4, none⟩ = some (.slice a1 v.length c1) ∧ w'.cell? ⟨w1.heap.size, 5, none⟩ = some (.slice a2 m.length c2)) (go_keep) (first
    | (go_at_call 38; refine HcD.out.err.mono ?_; rintro e w' ⟨rfl, rfl⟩)
    | fail)
  go_wp2_with fail
  have hkk := hxE.set10 (.int .i64 25) (.int .u64 0) (.int .u64 0) (.int .i64 C) (.int .i64 F) (.bool H) (.int .u64 X) (.slice a1 v.length c1) (.slice a2 m.length c2) (.slice none 0 0)
  replace hkk := hkk.drew
  obtain ⟨k0, k1, k2, k3, k4, k5, k6, k7, k8, k9⟩ := hkk.ten
  refine bodyPost_ret (v := .tuple #[.agg #[.int .i64 25, .int .u64 0, .int .u64 0, .int .i64 C, .int .i64 F, .bool H, .int .u64 X, .slice a1 v.length c1, .slice a2 m.length c2, .slice none 0 0], .int .i64 ws]) (by simp [results, Tryz.results99, go_sem, k0, k1, k2, k3, k4, k5, k6, k7, k8, k9]) rfl (.inl ⟨_, HS.out, hbad, bad12, ?_⟩)
  with_reducible refine Below.drew ?_
  repeat (with_reducible refine Below.setCell ?_ (by simp) _)
  exact HBE.out
end Go.Proofs.YtdjlbejhphbcoaaGreat
