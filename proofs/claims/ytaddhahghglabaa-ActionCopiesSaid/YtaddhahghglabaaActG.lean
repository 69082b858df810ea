/- Package action: what is wrong with an action; how many bytes it has; its numbers. -/
import Derived.Test.YtaddhahghglabaaActC
import Derived.Test.YtaddhahghglabaaActD
import Derived.Test.YtaddhahghglabaaMrg3
import Derived.Test.YtaddhahghglabaaMrg2
import Derived.Deep.RegionWith
namespace Go.Proofs.Ytaddhahghglabaa
open Go.RowKit
set_option linter.unusedVariables false

/-- what is wrong first with a value that is to be set -/
def wset12 (o : Ox9) : Int := if o.C = 32768 ∧ 2 < o.F ∧ o.F < 39 then (if o.H = false ∧ right10 o = true then 0 else 528) else 526

set_option maxRecDepth 100000 in
set_option maxHeartbeats 2000000 in
theorem wrongSet_any (o : Ox9) (va : Option Addr) (vc : Nat) (ma : Option Addr) (mc : Nat) (w : World) (hv : o.v.length ≤ 1000) (hm : o.m.length ≤ 1000) (hmc : o.m.length ≤ mc) (ov : Octets o.v) (om : Octets o.m) (iv : Ints .u8 w va o.v) (im : Ints .u8 w ma o.m) :
    Calls Try.prog 57 #[.agg #[.int .i64 o.C, .int .i64 o.F, .bool o.H, .int .u64 o.X, .slice va o.v.length vc, .slice ma o.m.length mc]] w fun e w' => e = .returned (.int .i64 (wset12 o)) ∧ Below w.heap.size w w' := by
  obtain ⟨W, hW, hbW, hx⟩ := oxm_box w o.C o.F o.H o.X va o.v.length vc ma o.m.length mc
  have HW := hid hW
  have HB := hid hbW
  have RI := hid (fun (n : Wk W) => right8_any o.C o.F o.H o.X va vc ma mc o.v o.m hv hm hmc ov om n.val ((iv.below HB.out).below n.bel) ((im.below HB.out).below n.bel))
  have ST := hid (fun (V : World) => fldSettable_any o.F V)
  obtain ⟨C, F, H, X, v, m⟩ := o
  simp only at *
  obtain ⟨r, hr⟩ : ∃ r, rightB C F H X v m = r := ⟨_, rfl⟩
  obtain ⟨s, hs⟩ : ∃ s, decide (2 < F ∧ F < 39) = s := ⟨_, rfl⟩
  have ways : ((C != 32768) = true ∧ wset12 ⟨C, F, H, X, v, m⟩ = 526) ∨ ((C != 32768) = false ∧ s = false ∧ wset12 ⟨C, F, H, X, v, m⟩ = 526) ∨ ((C != 32768) = false ∧ s = true ∧ H = true ∧ wset12 ⟨C, F, H, X, v, m⟩ = 528) ∨ ((C != 32768) = false ∧ s = true ∧ H = false ∧ r = false ∧ wset12 ⟨C, F, H, X, v, m⟩ = 528) ∨ ((C != 32768) = false ∧ s = true ∧ H = false ∧ r = true ∧ wset12 ⟨C, F, H, X, v, m⟩ = 0) := by
    unfold wset12 right10
    simp only [hr]
    by_cases h1 : C = 32768
    · subst h1
      cases s
      · have : ¬ (2 < F ∧ F < 39) := by simpa using hs
        exact .inr (.inl ⟨by decide, rfl, by rw [if_neg (by simpa using this)]⟩)
      · have : 2 < F ∧ F < 39 := by simpa using hs
        rw [if_pos ⟨rfl, this⟩]
        cases H
        · cases r
          · exact .inr (.inr (.inr (.inl ⟨by decide, rfl, rfl, rfl, by simp⟩)))
          · exact .inr (.inr (.inr (.inr ⟨by decide, rfl, rfl, rfl, by simp⟩)))
        · exact .inr (.inr (.inl ⟨by decide, rfl, rfl, by simp⟩))
    · exact .inl ⟨by simpa using h1, by rw [if_neg (by simp [h1])]⟩
  rw [hr] at RI
  rw [hs] at ST
  obtain ⟨q, hq⟩ : ∃ q, wset12 ⟨C, F, H, X, v, m⟩ = q := ⟨_, rfl⟩
  rw [hq] at ways ⊢
  obtain ⟨d0, d1, d2, d3, d4, d5⟩ := hx.six
  clear hr hs hq hW hbW iv im ov om hv hm hmc
  rcases ways with ⟨c, rfl⟩ | ⟨c, rfl, rfl⟩ | ⟨c, rfl, rfl, rfl⟩ | ⟨c, rfl, rfl, rfl, rfl⟩ | ⟨c, rfl, rfl, rfl, rfl⟩

  · go_enter Try.func57, Try.ntmps57
    go_wp2_with fail
    rw [HW.out]
    go_wp2_with fail
    go_ret
    exact ⟨rfl, HB.out⟩
  · go_enter Try.func57, Try.ntmps57
    go_wp2_with fail
    rw [HW.out]
    go_wp2_with fail
    refine (ST.out _).mono ?_
    rintro e w1 ⟨rfl, rfl⟩
    go_wp2_with fail
    go_ret
    exact ⟨rfl, HB.out⟩
  · go_enter Try.func57, Try.ntmps57
    go_wp2_with fail
    rw [HW.out]
    go_wp2_with fail
    refine (ST.out _).mono ?_
    rintro e w1 ⟨rfl, rfl⟩
    go_wp2_with fail
    go_ret
    exact ⟨rfl, HB.out⟩
  · go_enter Try.func57, Try.ntmps57
    go_wp2_with fail
    rw [HW.out]
    go_wp2_with fail
    refine (ST.out _).mono ?_
    rintro e w1 ⟨rfl, rfl⟩
    go_wp2_with fail
    refine (RI.out ⟨_, Below.refl _ _⟩).mono ?_
    rintro e w1 ⟨rfl, hb⟩
    go_wp2_with fail
    go_ret
    exact ⟨rfl, below_on HB.out hb⟩
  · go_enter Try.func57, Try.ntmps57
    go_wp2_with fail
    rw [HW.out]
    go_wp2_with fail
    refine (ST.out _).mono ?_
    rintro e w1 ⟨rfl, rfl⟩
    go_wp2_with fail
    refine (RI.out ⟨_, Below.refl _ _⟩).mono ?_
    rintro e w1 ⟨rfl, hb⟩
    go_wp2_with fail
    go_ret
    exact ⟨rfl, below_on HB.out hb⟩

/-- what is wrong with an action -/
def wrong12 (a : Act12) : Int := if a.T = 25 then wset12 a.o else if a.T = 65535 then (if a.d.length % 8 = 0 then 0 else 514) else asked12 a.T a.A

set_option maxRecDepth 100000 in
set_option maxHeartbeats 2000000 in
theorem wrong_out_no (g : Ent12) (w : World) (hT : g.T = 0) (hA : g.A = 0) :
    Calls Try.prog 33 #[g.val] w fun e w' => e = .returned (.int .i64 (wrong12 g.act)) ∧ Below w.heap.size w w' := by
  obtain ⟨W, hW, hbW, hx⟩ := act_box w g.T g.A g.B g.o.C g.o.F g.o.H g.o.X g.va g.o.v.length g.vc g.ma g.o.m.length g.mc g.da g.d.length g.dc
  have HW := hid hW
  have HB := hid hbW
  clear hW hbW
  have hq : wrong12 g.act = 517 := by simp [wrong12, Ent12.act, asked12, hT, hA]
  rw [hq]
  obtain ⟨T, A, B, ⟨C, F, H, X, v, m⟩, va, vc, ma, mc, d, da, dc⟩ := g
  simp only [Ent12.act] at *
  subst hT
  subst hA
  unfold Ent12.val
  simp only
  obtain ⟨d0, d1, d2, d3, d4, d5, d6, d7, d8, d9⟩ := hx.ten
  clear hq
  go_enter Try.func33, Try.ntmps33
  go_wp2_with fail
  rw [HW.out]
  go_wp2_with fail
  go_ret
  exact ⟨rfl, HB.out⟩

set_option maxRecDepth 100000 in
set_option maxHeartbeats 2000000 in
theorem wrong_out_yes (g : Ent12) (w : World) (hT : g.T = 0) (hA : g.A ≠ 0) :
    Calls Try.prog 33 #[g.val] w fun e w' => e = .returned (.int .i64 (wrong12 g.act)) ∧ Below w.heap.size w w' := by
  obtain ⟨W, hW, hbW, hx⟩ := act_box w g.T g.A g.B g.o.C g.o.F g.o.H g.o.X g.va g.o.v.length g.vc g.ma g.o.m.length g.mc g.da g.d.length g.dc
  have HW := hid hW
  have HB := hid hbW
  clear hW hbW
  have hq : wrong12 g.act = 0 := by simp [wrong12, Ent12.act, asked12, hT, hA]
  rw [hq]
  obtain ⟨T, A, B, ⟨C, F, H, X, v, m⟩, va, vc, ma, mc, d, da, dc⟩ := g
  simp only [Ent12.act] at *
  subst hT
  have c : (A != 0) = true := by simpa using hA
  clear hA
  unfold Ent12.val
  simp only
  obtain ⟨d0, d1, d2, d3, d4, d5, d6, d7, d8, d9⟩ := hx.ten
  clear hq
  go_enter Try.func33, Try.ntmps33
  go_wp2_with fail
  rw [HW.out]
  go_wp2_with fail
  go_ret
  exact ⟨rfl, HB.out⟩

set_option maxRecDepth 100000 in
set_option maxHeartbeats 2000000 in
theorem wrong_grp_no (g : Ent12) (w : World) (hT : g.T = 22) (hA : 4294967040 < g.A) :
    Calls Try.prog 33 #[g.val] w fun e w' => e = .returned (.int .i64 (wrong12 g.act)) ∧ Below w.heap.size w w' := by
  obtain ⟨W, hW, hbW, hx⟩ := act_box w g.T g.A g.B g.o.C g.o.F g.o.H g.o.X g.va g.o.v.length g.vc g.ma g.o.m.length g.mc g.da g.d.length g.dc
  have HW := hid hW
  have HB := hid hbW
  clear hW hbW
  have hq : wrong12 g.act = 522 := by simp [wrong12, Ent12.act, asked12, hT, hA]
  rw [hq]
  obtain ⟨T, A, B, ⟨C, F, H, X, v, m⟩, va, vc, ma, mc, d, da, dc⟩ := g
  simp only [Ent12.act] at *
  subst hT
  have c : decide (A ≤ 4294967040) = false := by simp; omega
  unfold Ent12.val
  simp only
  obtain ⟨d0, d1, d2, d3, d4, d5, d6, d7, d8, d9⟩ := hx.ten
  clear hq
  go_enter Try.func33, Try.ntmps33
  go_wp2_with fail
  rw [HW.out]
  go_wp2_with fail
  go_ret
  exact ⟨rfl, HB.out⟩

set_option maxRecDepth 100000 in
set_option maxHeartbeats 2000000 in
theorem wrong_grp_yes (g : Ent12) (w : World) (hT : g.T = 22) (hA : ¬ 4294967040 < g.A) :
    Calls Try.prog 33 #[g.val] w fun e w' => e = .returned (.int .i64 (wrong12 g.act)) ∧ Below w.heap.size w w' := by
  obtain ⟨W, hW, hbW, hx⟩ := act_box w g.T g.A g.B g.o.C g.o.F g.o.H g.o.X g.va g.o.v.length g.vc g.ma g.o.m.length g.mc g.da g.d.length g.dc
  have HW := hid hW
  have HB := hid hbW
  clear hW hbW
  have hq : wrong12 g.act = 0 := by simp [wrong12, Ent12.act, asked12, hT, hA]
  rw [hq]
  obtain ⟨T, A, B, ⟨C, F, H, X, v, m⟩, va, vc, ma, mc, d, da, dc⟩ := g
  simp only [Ent12.act] at *
  subst hT
  have c : A ≤ 4294967040 := by omega
  unfold Ent12.val
  simp only
  obtain ⟨d0, d1, d2, d3, d4, d5, d6, d7, d8, d9⟩ := hx.ten
  clear hq
  go_enter Try.func33, Try.ntmps33
  go_wp2_with fail
  rw [HW.out]
  go_wp2_with fail
  go_ret
  exact ⟨rfl, HB.out⟩

set_option maxRecDepth 100000 in
set_option maxHeartbeats 2000000 in
theorem wrong_vlan_a (g : Ent12) (w : World) (hT : g.T = 17) (hA : g.A = 33024) :
    Calls Try.prog 33 #[g.val] w fun e w' => e = .returned (.int .i64 (wrong12 g.act)) ∧ Below w.heap.size w w' := by
  obtain ⟨W, hW, hbW, hx⟩ := act_box w g.T g.A g.B g.o.C g.o.F g.o.H g.o.X g.va g.o.v.length g.vc g.ma g.o.m.length g.mc g.da g.d.length g.dc
  have HW := hid hW
  have HB := hid hbW
  clear hW hbW
  have hq : wrong12 g.act = 0 := by simp [wrong12, Ent12.act, asked12, hT, hA]
  rw [hq]
  obtain ⟨T, A, B, ⟨C, F, H, X, v, m⟩, va, vc, ma, mc, d, da, dc⟩ := g
  simp only [Ent12.act] at *
  subst hT
  subst hA
  unfold Ent12.val
  simp only
  obtain ⟨d0, d1, d2, d3, d4, d5, d6, d7, d8, d9⟩ := hx.ten
  clear hq
  go_enter Try.func33, Try.ntmps33
  go_wp2_with fail
  rw [HW.out]
  go_wp2_with fail
  go_ret
  exact ⟨rfl, HB.out⟩

set_option maxRecDepth 100000 in
set_option maxHeartbeats 2000000 in
theorem wrong_vlan_b (g : Ent12) (w : World) (hT : g.T = 17) (hA : g.A = 34984) :
    Calls Try.prog 33 #[g.val] w fun e w' => e = .returned (.int .i64 (wrong12 g.act)) ∧ Below w.heap.size w w' := by
  obtain ⟨W, hW, hbW, hx⟩ := act_box w g.T g.A g.B g.o.C g.o.F g.o.H g.o.X g.va g.o.v.length g.vc g.ma g.o.m.length g.mc g.da g.d.length g.dc
  have HW := hid hW
  have HB := hid hbW
  clear hW hbW
  have hq : wrong12 g.act = 0 := by simp [wrong12, Ent12.act, asked12, hT, hA]
  rw [hq]
  obtain ⟨T, A, B, ⟨C, F, H, X, v, m⟩, va, vc, ma, mc, d, da, dc⟩ := g
  simp only [Ent12.act] at *
  subst hT
  subst hA
  unfold Ent12.val
  simp only
  obtain ⟨d0, d1, d2, d3, d4, d5, d6, d7, d8, d9⟩ := hx.ten
  clear hq
  go_enter Try.func33, Try.ntmps33
  go_wp2_with fail
  rw [HW.out]
  go_wp2_with fail
  go_ret
  exact ⟨rfl, HB.out⟩

set_option maxRecDepth 100000 in
set_option maxHeartbeats 2000000 in
theorem wrong_vlan_no (g : Ent12) (w : World) (hT : g.T = 17) (hA : g.A ≠ 33024) (hA2 : g.A ≠ 34984) :
    Calls Try.prog 33 #[g.val] w fun e w' => e = .returned (.int .i64 (wrong12 g.act)) ∧ Below w.heap.size w w' := by
  obtain ⟨W, hW, hbW, hx⟩ := act_box w g.T g.A g.B g.o.C g.o.F g.o.H g.o.X g.va g.o.v.length g.vc g.ma g.o.m.length g.mc g.da g.d.length g.dc
  have HW := hid hW
  have HB := hid hbW
  clear hW hbW
  have hq : wrong12 g.act = 518 := by simp [wrong12, Ent12.act, asked12, hT, hA, hA2]
  rw [hq]
  obtain ⟨T, A, B, ⟨C, F, H, X, v, m⟩, va, vc, ma, mc, d, da, dc⟩ := g
  simp only [Ent12.act] at *
  subst hT
  have c : (A == 33024) = false := by simpa using hA
  have c2 : (A == 34984) = false := by simpa using hA2
  clear hA hA2
  unfold Ent12.val
  simp only
  obtain ⟨d0, d1, d2, d3, d4, d5, d6, d7, d8, d9⟩ := hx.ten
  clear hq
  go_enter Try.func33, Try.ntmps33
  go_wp2_with fail
  rw [HW.out]
  go_wp2_with fail
  go_ret
  exact ⟨rfl, HB.out⟩

set_option maxRecDepth 100000 in
set_option maxHeartbeats 2000000 in
theorem wrong_mpls_a (g : Ent12) (w : World) (hT : g.T = 19) (hA : g.A = 34887) :
    Calls Try.prog 33 #[g.val] w fun e w' => e = .returned (.int .i64 (wrong12 g.act)) ∧ Below w.heap.size w w' := by
  obtain ⟨W, hW, hbW, hx⟩ := act_box w g.T g.A g.B g.o.C g.o.F g.o.H g.o.X g.va g.o.v.length g.vc g.ma g.o.m.length g.mc g.da g.d.length g.dc
  have HW := hid hW
  have HB := hid hbW
  clear hW hbW
  have hq : wrong12 g.act = 0 := by simp [wrong12, Ent12.act, asked12, hT, hA]
  rw [hq]
  obtain ⟨T, A, B, ⟨C, F, H, X, v, m⟩, va, vc, ma, mc, d, da, dc⟩ := g
  simp only [Ent12.act] at *
  subst hT
  subst hA
  unfold Ent12.val
  simp only
  obtain ⟨d0, d1, d2, d3, d4, d5, d6, d7, d8, d9⟩ := hx.ten
  clear hq
  go_enter Try.func33, Try.ntmps33
  go_wp2_with fail
  rw [HW.out]
  go_wp2_with fail
  go_ret
  exact ⟨rfl, HB.out⟩

set_option maxRecDepth 100000 in
set_option maxHeartbeats 2000000 in
theorem wrong_mpls_b (g : Ent12) (w : World) (hT : g.T = 19) (hA : g.A = 34888) :
    Calls Try.prog 33 #[g.val] w fun e w' => e = .returned (.int .i64 (wrong12 g.act)) ∧ Below w.heap.size w w' := by
  obtain ⟨W, hW, hbW, hx⟩ := act_box w g.T g.A g.B g.o.C g.o.F g.o.H g.o.X g.va g.o.v.length g.vc g.ma g.o.m.length g.mc g.da g.d.length g.dc
  have HW := hid hW
  have HB := hid hbW
  clear hW hbW
  have hq : wrong12 g.act = 0 := by simp [wrong12, Ent12.act, asked12, hT, hA]
  rw [hq]
  obtain ⟨T, A, B, ⟨C, F, H, X, v, m⟩, va, vc, ma, mc, d, da, dc⟩ := g
  simp only [Ent12.act] at *
  subst hT
  subst hA
  unfold Ent12.val
  simp only
  obtain ⟨d0, d1, d2, d3, d4, d5, d6, d7, d8, d9⟩ := hx.ten
  clear hq
  go_enter Try.func33, Try.ntmps33
  go_wp2_with fail
  rw [HW.out]
  go_wp2_with fail
  go_ret
  exact ⟨rfl, HB.out⟩

set_option maxRecDepth 100000 in
set_option maxHeartbeats 2000000 in
theorem wrong_mpls_no (g : Ent12) (w : World) (hT : g.T = 19) (hA : g.A ≠ 34887) (hA2 : g.A ≠ 34888) :
    Calls Try.prog 33 #[g.val] w fun e w' => e = .returned (.int .i64 (wrong12 g.act)) ∧ Below w.heap.size w w' := by
  obtain ⟨W, hW, hbW, hx⟩ := act_box w g.T g.A g.B g.o.C g.o.F g.o.H g.o.X g.va g.o.v.length g.vc g.ma g.o.m.length g.mc g.da g.d.length g.dc
  have HW := hid hW
  have HB := hid hbW
  clear hW hbW
  have hq : wrong12 g.act = 518 := by simp [wrong12, Ent12.act, asked12, hT, hA, hA2]
  rw [hq]
  obtain ⟨T, A, B, ⟨C, F, H, X, v, m⟩, va, vc, ma, mc, d, da, dc⟩ := g
  simp only [Ent12.act] at *
  subst hT
  have c : (A == 34887) = false := by simpa using hA
  have c2 : (A == 34888) = false := by simpa using hA2
  clear hA hA2
  unfold Ent12.val
  simp only
  obtain ⟨d0, d1, d2, d3, d4, d5, d6, d7, d8, d9⟩ := hx.ten
  clear hq
  go_enter Try.func33, Try.ntmps33
  go_wp2_with fail
  rw [HW.out]
  go_wp2_with fail
  go_ret
  exact ⟨rfl, HB.out⟩

set_option maxRecDepth 100000 in
set_option maxHeartbeats 2000000 in
theorem wrong_pbb_a (g : Ent12) (w : World) (hT : g.T = 26) (hA : g.A = 35047) :
    Calls Try.prog 33 #[g.val] w fun e w' => e = .returned (.int .i64 (wrong12 g.act)) ∧ Below w.heap.size w w' := by
  obtain ⟨W, hW, hbW, hx⟩ := act_box w g.T g.A g.B g.o.C g.o.F g.o.H g.o.X g.va g.o.v.length g.vc g.ma g.o.m.length g.mc g.da g.d.length g.dc
  have HW := hid hW
  have HB := hid hbW
  clear hW hbW
  have hq : wrong12 g.act = 0 := by simp [wrong12, Ent12.act, asked12, hT, hA]
  rw [hq]
  obtain ⟨T, A, B, ⟨C, F, H, X, v, m⟩, va, vc, ma, mc, d, da, dc⟩ := g
  simp only [Ent12.act] at *
  subst hT
  subst hA
  unfold Ent12.val
  simp only
  obtain ⟨d0, d1, d2, d3, d4, d5, d6, d7, d8, d9⟩ := hx.ten
  clear hq
  go_enter Try.func33, Try.ntmps33
  go_wp2_with fail
  rw [HW.out]
  go_wp2_with fail
  go_ret
  exact ⟨rfl, HB.out⟩

set_option maxRecDepth 100000 in
set_option maxHeartbeats 2000000 in
theorem wrong_pbb_no (g : Ent12) (w : World) (hT : g.T = 26) (hA : g.A ≠ 35047) :
    Calls Try.prog 33 #[g.val] w fun e w' => e = .returned (.int .i64 (wrong12 g.act)) ∧ Below w.heap.size w w' := by
  obtain ⟨W, hW, hbW, hx⟩ := act_box w g.T g.A g.B g.o.C g.o.F g.o.H g.o.X g.va g.o.v.length g.vc g.ma g.o.m.length g.mc g.da g.d.length g.dc
  have HW := hid hW
  have HB := hid hbW
  clear hW hbW
  have hq : wrong12 g.act = 518 := by simp [wrong12, Ent12.act, asked12, hT, hA]
  rw [hq]
  obtain ⟨T, A, B, ⟨C, F, H, X, v, m⟩, va, vc, ma, mc, d, da, dc⟩ := g
  simp only [Ent12.act] at *
  subst hT
  have c : (A == 35047) = false := by simpa using hA
  clear hA
  unfold Ent12.val
  simp only
  obtain ⟨d0, d1, d2, d3, d4, d5, d6, d7, d8, d9⟩ := hx.ten
  clear hq
  go_enter Try.func33, Try.ntmps33
  go_wp2_with fail
  rw [HW.out]
  go_wp2_with fail
  go_ret
  exact ⟨rfl, HB.out⟩

set_option maxRecDepth 100000 in
set_option maxHeartbeats 2000000 in
theorem wrong_exp_yes (g : Ent12) (w : World) (hT : g.T = 65535) (hd : g.d.length % 8 = 0) :
    Calls Try.prog 33 #[g.val] w fun e w' => e = .returned (.int .i64 (wrong12 g.act)) ∧ Below w.heap.size w w' := by
  obtain ⟨W, hW, hbW, hx⟩ := act_box w g.T g.A g.B g.o.C g.o.F g.o.H g.o.X g.va g.o.v.length g.vc g.ma g.o.m.length g.mc g.da g.d.length g.dc
  have HW := hid hW
  have HB := hid hbW
  clear hW hbW
  have hq : wrong12 g.act = 0 := by simp [wrong12, Ent12.act, hT, hd]
  rw [hq]
  obtain ⟨T, A, B, ⟨C, F, H, X, v, m⟩, va, vc, ma, mc, d, da, dc⟩ := g
  simp only [Ent12.act] at *
  subst hT
  have t1 : ((d.length : Nat) : Int).tmod 8 = 0 := by rw [Int.tmod_eq_emod_of_nonneg (by omega)]; omega
  clear hd
  unfold Ent12.val
  simp only
  obtain ⟨d0, d1, d2, d3, d4, d5, d6, d7, d8, d9⟩ := hx.ten
  clear hq
  go_enter Try.func33, Try.ntmps33
  go_wp2_with fail
  rw [HW.out]
  go_wp2_with fail
  go_ret
  exact ⟨rfl, HB.out⟩

set_option maxRecDepth 100000 in
set_option maxHeartbeats 2000000 in
theorem wrong_exp_no (g : Ent12) (w : World) (hT : g.T = 65535) (hd : g.d.length % 8 ≠ 0) :
    Calls Try.prog 33 #[g.val] w fun e w' => e = .returned (.int .i64 (wrong12 g.act)) ∧ Below w.heap.size w w' := by
  obtain ⟨W, hW, hbW, hx⟩ := act_box w g.T g.A g.B g.o.C g.o.F g.o.H g.o.X g.va g.o.v.length g.vc g.ma g.o.m.length g.mc g.da g.d.length g.dc
  have HW := hid hW
  have HB := hid hbW
  clear hW hbW
  have hq : wrong12 g.act = 514 := by simp [wrong12, Ent12.act, hT, hd]
  rw [hq]
  obtain ⟨T, A, B, ⟨C, F, H, X, v, m⟩, va, vc, ma, mc, d, da, dc⟩ := g
  simp only [Ent12.act] at *
  subst hT
  obtain ⟨k, hk⟩ : ∃ k : Int, ((d.length : Nat) : Int).tmod 8 = k := ⟨_, rfl⟩
  have c : (k == 0) = false := by have h2 := Int.tmod_eq_emod_of_nonneg (a := ((d.length : Nat) : Int)) (b := 8) (by omega); simp; omega
  clear hd
  unfold Ent12.val
  simp only
  obtain ⟨d0, d1, d2, d3, d4, d5, d6, d7, d8, d9⟩ := hx.ten
  clear hq
  go_enter Try.func33, Try.ntmps33
  go_wp2_with fail
  rw [HW.out]
  go_wp2_with fail
  go_ret
  exact ⟨rfl, HB.out⟩

set_option maxRecDepth 100000 in
set_option maxHeartbeats 2000000 in
theorem wrong_else (g : Ent12) (w : World) (hT : g.T ≠ 0 ∧ g.T ≠ 22 ∧ g.T ≠ 17 ∧ g.T ≠ 19 ∧ g.T ≠ 26 ∧ g.T ≠ 65535 ∧ g.T ≠ 25) :
    Calls Try.prog 33 #[g.val] w fun e w' => e = .returned (.int .i64 (wrong12 g.act)) ∧ Below w.heap.size w w' := by
  obtain ⟨W, hW, hbW, hx⟩ := act_box w g.T g.A g.B g.o.C g.o.F g.o.H g.o.X g.va g.o.v.length g.vc g.ma g.o.m.length g.mc g.da g.d.length g.dc
  have HW := hid hW
  have HB := hid hbW
  clear hW hbW
  have hq : wrong12 g.act = 0 := by simp [wrong12, Ent12.act, asked12, hT]
  rw [hq]
  obtain ⟨T, A, B, ⟨C, F, H, X, v, m⟩, va, vc, ma, mc, d, da, dc⟩ := g
  simp only [Ent12.act] at *
  obtain ⟨h0, h1, h2, h3, h4, h5, h6⟩ := hT
  have c0 : (T == 0) = false := by simpa using h0
  have c1 : (T == 22) = false := by simpa using h1
  have c2 : (T == 17) = false := by simpa using h2
  have c3 : (T == 19) = false := by simpa using h3
  have c4 : (T == 26) = false := by simpa using h4
  have c5 : (T == 65535) = false := by simpa using h5
  have c6 : (T == 25) = false := by simpa using h6
  clear h0 h1 h2 h3 h4 h5 h6
  unfold Ent12.val
  simp only
  obtain ⟨d0, d1, d2, d3, d4, d5, d6, d7, d8, d9⟩ := hx.ten
  clear hq
  go_enter Try.func33, Try.ntmps33
  go_wp2_with fail
  rw [HW.out]
  go_wp2_with fail
  go_ret
  exact ⟨rfl, HB.out⟩

set_option maxRecDepth 100000 in
set_option maxHeartbeats 2000000 in
theorem wrong_set (g : Ent12) (w : World) (hi : ActIn w g) (hT : g.T = 25) :
    Calls Try.prog 33 #[g.val] w fun e w' => e = .returned (.int .i64 (wrong12 g.act)) ∧ Below w.heap.size w w' := by
  obtain ⟨W, hW, hbW, hx⟩ := act_box w g.T g.A g.B g.o.C g.o.F g.o.H g.o.X g.va g.o.v.length g.vc g.ma g.o.m.length g.mc g.da g.d.length g.dc
  have HW := hid hW
  have HB := hid hbW
  have hq : wrong12 g.act = wset12 g.o := by simp [wrong12, Ent12.act, hT]
  have WS := hid (wrongSet_any g.o g.va g.vc g.ma g.mc W hi.lv hi.lm hi.cm hi.ov hi.om (hi.iv.below hbW) (hi.im.below hbW))
  rw [hq]
  obtain ⟨q, hqq⟩ : ∃ q, wset12 g.o = q := ⟨_, rfl⟩
  rw [hqq] at WS ⊢
  clear hi hW hbW hq hqq
  obtain ⟨T, A, B, ⟨C, F, H, X, v, m⟩, va, vc, ma, mc, d, da, dc⟩ := g
  simp only at *
  subst hT
  unfold Ent12.val
  simp only
  obtain ⟨d0, d1, d2, d3, d4, d5, d6, d7, d8, d9⟩ := hx.ten
  go_enter Try.func33, Try.ntmps33
  go_wp2_with fail
  rw [HW.out]
  go_wp2_with fail
  refine WS.out.mono ?_
  rintro e w1 ⟨rfl, hb⟩
  go_wp2_with fail
  go_ret
  exact ⟨rfl, below_on HB.out hb⟩
theorem wrong_any (g : Ent12) (w : World) (hi : ActIn w g) :
    Calls Try.prog 33 #[g.val] w fun e w' => e = .returned (.int .i64 (wrong12 g.act)) ∧ Below w.heap.size w w' := by
  rcases (show g.T = 0 ∨ g.T = 22 ∨ g.T = 17 ∨ g.T = 19 ∨ g.T = 26 ∨ g.T = 65535 ∨ g.T = 25 ∨ (g.T ≠ 0 ∧ g.T ≠ 22 ∧ g.T ≠ 17 ∧ g.T ≠ 19 ∧ g.T ≠ 26 ∧ g.T ≠ 65535 ∧ g.T ≠ 25) by omega) with h | h | h | h | h | h | h | h
  · by_cases hA : g.A = 0
    · exact wrong_out_no g w h hA
    · exact wrong_out_yes g w h hA
  · by_cases hA : 4294967040 < g.A
    · exact wrong_grp_no g w h hA
    · exact wrong_grp_yes g w h hA
  · by_cases hA : g.A = 33024
    · exact wrong_vlan_a g w h hA
    · by_cases hA2 : g.A = 34984
      · exact wrong_vlan_b g w h hA2
      · exact wrong_vlan_no g w h hA hA2
  · by_cases hA : g.A = 34887
    · exact wrong_mpls_a g w h hA
    · by_cases hA2 : g.A = 34888
      · exact wrong_mpls_b g w h hA2
      · exact wrong_mpls_no g w h hA hA2
  · by_cases hA : g.A = 35047
    · exact wrong_pbb_a g w h hA
    · exact wrong_pbb_no g w h hA
  · by_cases hd : g.d.length % 8 = 0
    · exact wrong_exp_yes g w h hd
    · exact wrong_exp_no g w h hd
  · exact wrong_set g w hi h
  · exact wrong_else g w h
end Go.Proofs.Ytaddhahghglabaa
