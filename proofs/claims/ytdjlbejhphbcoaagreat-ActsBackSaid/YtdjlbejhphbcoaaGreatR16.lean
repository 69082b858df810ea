/- Put together out of several texts. -/
import Derived.Test.YtdjlbejhphbcoaaGreatR11
import Derived.Test.YtdjlbejhphbcoaaGreatR3
import Derived.Test.YtdjlbejhphbcoaaGreatR2
import Derived.Deep.RegionWith
namespace Go.Proofs.YtdjlbejhphbcoaaGreat
open Go.RowKit
set_option linter.unusedVariables false

/-- an action without what its type has -/
def strip12 (g : Ent12) : Ent12 :=
  if g.T = 25 then ⟨g.T, g.A, g.B, noOx, none, 0, none, 0, g.d, g.da, g.dc⟩
  else if g.T = 65535 then ⟨g.T, 0, g.B, g.o, g.va, g.vc, g.ma, g.mc, [], none, 0⟩
  else if g.T = 0 then ⟨g.T, 0, 0, g.o, g.va, g.vc, g.ma, g.mc, g.d, g.da, g.dc⟩
  else if g.T = 22 ∨ g.T = 21 ∨ g.T = 15 ∨ g.T = 23 ∨ g.T = 17 ∨ g.T = 19 ∨ g.T = 26 ∨ g.T = 20 then ⟨g.T, 0, g.B, g.o, g.va, g.vc, g.ma, g.mc, g.d, g.da, g.dc⟩
  else g
def none12 (t : Int) : Ent12 := ⟨t, 0, 0, noOx, none, 0, none, 0, [], none, 0⟩
def bare12 (g : Ent12) : Bool := same12 (strip12 g).act (none12 g.T).act
theorem zero_in : (0 : Int) ≤ 0 ∧ (0 : Int) ≤ 18446744073709551615 := by decide
theorem none_in {w : World} {g : Ent12} (h : ActIn w g) : ActIn w (none12 g.T) :=
  ⟨h.t, zero_in, zero_in, by simp [none12, noOx], by simp [none12, noOx], zero_in, by simp [none12, noOx], by simp [none12, noOx], by simp [none12, noOx], Ints.nil _ _ _, Ints.nil _ _ _, Ints.nil _ _ _, (by intro x hx; cases hx), (by intro x hx; cases hx), (by intro x hx; cases hx), by simp [none12, noOx]⟩
theorem strip_in {w : World} {g : Ent12} (h : ActIn w g) : ActIn w (strip12 g) := by
  unfold strip12
  split
  · exact ⟨h.t, h.a, h.b, by simp [noOx], by simp [noOx], zero_in, by simp [noOx], by simp [noOx], h.ld, Ints.nil _ _ _, Ints.nil _ _ _, h.id, (by intro x hx; cases hx), (by intro x hx; cases hx), h.od, by simp [noOx]⟩
  · split
    · exact ⟨h.t, zero_in, h.b, h.c, h.f, h.x, h.lv, h.lm, (by simp), h.iv, h.im, Ints.nil _ _ _, h.ov, h.om, (by intro x hx; cases hx), h.cm⟩
    · split
      · exact ⟨h.t, zero_in, zero_in, h.c, h.f, h.x, h.lv, h.lm, h.ld, h.iv, h.im, h.id, h.ov, h.om, h.od, h.cm⟩
      · split
        · exact ⟨h.t, zero_in, h.b, h.c, h.f, h.x, h.lv, h.lm, h.ld, h.iv, h.im, h.id, h.ov, h.om, h.od, h.cm⟩
        · exact h

set_option maxRecDepth 100000 in
set_option maxHeartbeats 2000000 in
theorem isBare_set (g : Ent12) (w : World) (hi : ActIn w g) (hT : g.T = 25) :
    Calls Tryz.prog 52 #[g.val] w fun e w' => e = .returned (.bool (bare12 g)) ∧ Below w.heap.size w w' := by
  have SM := hid (fun (W : World) (hW : Below w.heap.size w W) => actSame_any (strip12 g) (none12 g.T) W ((strip_in hi).below hW) ((none_in hi).below hW))
  clear hi
  obtain ⟨r, hr⟩ : ∃ r, bare12 g = r := ⟨_, rfl⟩
  rw [show same12 (strip12 g).act (none12 g.T).act = r from hr] at SM
  rw [hr]
  clear hr
  obtain ⟨T, A, B, ⟨C, F, H, X, v, m⟩, va, vc, ma, mc, d, da, dc⟩ := g
  simp only at *
  subst hT
  unfold Ent12.val
  simp only
  obtain ⟨W, hW, hbW, hx⟩ := act_box w 25 A B 0 0 false 0 none 0 0 none 0 0 da d.length dc
  have HW := hid hW
  have HB := hid hbW
  clear hW hbW
  go_enter Tryz.func52, Tryz.ntmps52
  go_wp2_with fail
  rw [HW.out]
  refine (SM.out _ HB.out).mono ?_
  rintro e w1 ⟨rfl, hb⟩
  go_wp2_with fail
  go_ret
  exact ⟨rfl, below_on HB.out hb⟩

set_option maxRecDepth 100000 in
set_option maxHeartbeats 2000000 in
theorem isBare_exp (g : Ent12) (w : World) (hi : ActIn w g) (hT : g.T = 65535) :
    Calls Tryz.prog 52 #[g.val] w fun e w' => e = .returned (.bool (bare12 g)) ∧ Below w.heap.size w w' := by
  have SM := hid (fun (W : World) (hW : Below w.heap.size w W) => actSame_any (strip12 g) (none12 g.T) W ((strip_in hi).below hW) ((none_in hi).below hW))
  clear hi
  obtain ⟨r, hr⟩ : ∃ r, bare12 g = r := ⟨_, rfl⟩
  rw [show same12 (strip12 g).act (none12 g.T).act = r from hr] at SM
  rw [hr]
  clear hr
  obtain ⟨T, A, B, ⟨C, F, H, X, v, m⟩, va, vc, ma, mc, d, da, dc⟩ := g
  simp only at *
  subst hT
  unfold Ent12.val
  simp only
  obtain ⟨W, hW, hbW, hx⟩ := act_box w 65535 0 B C F H X va v.length vc ma m.length mc none 0 0
  have HW := hid hW
  have HB := hid hbW
  clear hW hbW
  go_enter Tryz.func52, Tryz.ntmps52
  go_wp2_with fail
  rw [HW.out]
  refine (SM.out _ HB.out).mono ?_
  rintro e w1 ⟨rfl, hb⟩
  go_wp2_with fail
  go_ret
  exact ⟨rfl, below_on HB.out hb⟩

set_option maxRecDepth 100000 in
set_option maxHeartbeats 2000000 in
theorem isBare_out (g : Ent12) (w : World) (hi : ActIn w g) (hT : g.T = 0) :
    Calls Tryz.prog 52 #[g.val] w fun e w' => e = .returned (.bool (bare12 g)) ∧ Below w.heap.size w w' := by
  have SM := hid (fun (W : World) (hW : Below w.heap.size w W) => actSame_any (strip12 g) (none12 g.T) W ((strip_in hi).below hW) ((none_in hi).below hW))
  clear hi
  obtain ⟨r, hr⟩ : ∃ r, bare12 g = r := ⟨_, rfl⟩
  rw [show same12 (strip12 g).act (none12 g.T).act = r from hr] at SM
  rw [hr]
  clear hr
  obtain ⟨T, A, B, ⟨C, F, H, X, v, m⟩, va, vc, ma, mc, d, da, dc⟩ := g
  simp only at *
  subst hT
  unfold Ent12.val
  simp only
  obtain ⟨W, hW, hbW, hx⟩ := act_box w 0 0 0 C F H X va v.length vc ma m.length mc da d.length dc
  have HW := hid hW
  have HB := hid hbW
  clear hW hbW
  go_enter Tryz.func52, Tryz.ntmps52
  go_wp2_with fail
  rw [HW.out]
  refine (SM.out _ HB.out).mono ?_
  rintro e w1 ⟨rfl, hb⟩
  go_wp2_with fail
  go_ret
  exact ⟨rfl, below_on HB.out hb⟩

set_option maxRecDepth 100000 in
set_option maxHeartbeats 2000000 in
theorem isBare_num22 (g : Ent12) (w : World) (hi : ActIn w g) (hT : g.T = 22) :
    Calls Tryz.prog 52 #[g.val] w fun e w' => e = .returned (.bool (bare12 g)) ∧ Below w.heap.size w w' := by
  have SM := hid (fun (W : World) (hW : Below w.heap.size w W) => actSame_any (strip12 g) (none12 g.T) W ((strip_in hi).below hW) ((none_in hi).below hW))
  clear hi
  obtain ⟨r, hr⟩ : ∃ r, bare12 g = r := ⟨_, rfl⟩
  rw [show same12 (strip12 g).act (none12 g.T).act = r from hr] at SM
  rw [hr]
  clear hr
  obtain ⟨T, A, B, ⟨C, F, H, X, v, m⟩, va, vc, ma, mc, d, da, dc⟩ := g
  simp only at *
  subst hT
  unfold Ent12.val
  simp only
  obtain ⟨W, hW, hbW, hx⟩ := act_box w 22 0 B C F H X va v.length vc ma m.length mc da d.length dc
  have HW := hid hW
  have HB := hid hbW
  clear hW hbW
  go_enter Tryz.func52, Tryz.ntmps52
  go_wp2_with fail
  rw [HW.out]
  refine (SM.out _ HB.out).mono ?_
  rintro e w1 ⟨rfl, hb⟩
  go_wp2_with fail
  go_ret
  exact ⟨rfl, below_on HB.out hb⟩

set_option maxRecDepth 100000 in
set_option maxHeartbeats 2000000 in
theorem isBare_num21 (g : Ent12) (w : World) (hi : ActIn w g) (hT : g.T = 21) :
    Calls Tryz.prog 52 #[g.val] w fun e w' => e = .returned (.bool (bare12 g)) ∧ Below w.heap.size w w' := by
  have SM := hid (fun (W : World) (hW : Below w.heap.size w W) => actSame_any (strip12 g) (none12 g.T) W ((strip_in hi).below hW) ((none_in hi).below hW))
  clear hi
  obtain ⟨r, hr⟩ : ∃ r, bare12 g = r := ⟨_, rfl⟩
  rw [show same12 (strip12 g).act (none12 g.T).act = r from hr] at SM
  rw [hr]
  clear hr
  obtain ⟨T, A, B, ⟨C, F, H, X, v, m⟩, va, vc, ma, mc, d, da, dc⟩ := g
  simp only at *
  subst hT
  unfold Ent12.val
  simp only
  obtain ⟨W, hW, hbW, hx⟩ := act_box w 21 0 B C F H X va v.length vc ma m.length mc da d.length dc
  have HW := hid hW
  have HB := hid hbW
  clear hW hbW
  go_enter Tryz.func52, Tryz.ntmps52
  go_wp2_with fail
  rw [HW.out]
  refine (SM.out _ HB.out).mono ?_
  rintro e w1 ⟨rfl, hb⟩
  go_wp2_with fail
  go_ret
  exact ⟨rfl, below_on HB.out hb⟩

set_option maxRecDepth 100000 in
set_option maxHeartbeats 2000000 in
theorem isBare_num15 (g : Ent12) (w : World) (hi : ActIn w g) (hT : g.T = 15) :
    Calls Tryz.prog 52 #[g.val] w fun e w' => e = .returned (.bool (bare12 g)) ∧ Below w.heap.size w w' := by
  have SM := hid (fun (W : World) (hW : Below w.heap.size w W) => actSame_any (strip12 g) (none12 g.T) W ((strip_in hi).below hW) ((none_in hi).below hW))
  clear hi
  obtain ⟨r, hr⟩ : ∃ r, bare12 g = r := ⟨_, rfl⟩
  rw [show same12 (strip12 g).act (none12 g.T).act = r from hr] at SM
  rw [hr]
  clear hr
  obtain ⟨T, A, B, ⟨C, F, H, X, v, m⟩, va, vc, ma, mc, d, da, dc⟩ := g
  simp only at *
  subst hT
  unfold Ent12.val
  simp only
  obtain ⟨W, hW, hbW, hx⟩ := act_box w 15 0 B C F H X va v.length vc ma m.length mc da d.length dc
  have HW := hid hW
  have HB := hid hbW
  clear hW hbW
  go_enter Tryz.func52, Tryz.ntmps52
  go_wp2_with fail
  rw [HW.out]
  refine (SM.out _ HB.out).mono ?_
  rintro e w1 ⟨rfl, hb⟩
  go_wp2_with fail
  go_ret
  exact ⟨rfl, below_on HB.out hb⟩

set_option maxRecDepth 100000 in
set_option maxHeartbeats 2000000 in
theorem isBare_num23 (g : Ent12) (w : World) (hi : ActIn w g) (hT : g.T = 23) :
    Calls Tryz.prog 52 #[g.val] w fun e w' => e = .returned (.bool (bare12 g)) ∧ Below w.heap.size w w' := by
  have SM := hid (fun (W : World) (hW : Below w.heap.size w W) => actSame_any (strip12 g) (none12 g.T) W ((strip_in hi).below hW) ((none_in hi).below hW))
  clear hi
  obtain ⟨r, hr⟩ : ∃ r, bare12 g = r := ⟨_, rfl⟩
  rw [show same12 (strip12 g).act (none12 g.T).act = r from hr] at SM
  rw [hr]
  clear hr
  obtain ⟨T, A, B, ⟨C, F, H, X, v, m⟩, va, vc, ma, mc, d, da, dc⟩ := g
  simp only at *
  subst hT
  unfold Ent12.val
  simp only
  obtain ⟨W, hW, hbW, hx⟩ := act_box w 23 0 B C F H X va v.length vc ma m.length mc da d.length dc
  have HW := hid hW
  have HB := hid hbW
  clear hW hbW
  go_enter Tryz.func52, Tryz.ntmps52
  go_wp2_with fail
  rw [HW.out]
  refine (SM.out _ HB.out).mono ?_
  rintro e w1 ⟨rfl, hb⟩
  go_wp2_with fail
  go_ret
  exact ⟨rfl, below_on HB.out hb⟩

set_option maxRecDepth 100000 in
set_option maxHeartbeats 2000000 in
theorem isBare_num17 (g : Ent12) (w : World) (hi : ActIn w g) (hT : g.T = 17) :
    Calls Tryz.prog 52 #[g.val] w fun e w' => e = .returned (.bool (bare12 g)) ∧ Below w.heap.size w w' := by
  have SM := hid (fun (W : World) (hW : Below w.heap.size w W) => actSame_any (strip12 g) (none12 g.T) W ((strip_in hi).below hW) ((none_in hi).below hW))
  clear hi
  obtain ⟨r, hr⟩ : ∃ r, bare12 g = r := ⟨_, rfl⟩
  rw [show same12 (strip12 g).act (none12 g.T).act = r from hr] at SM
  rw [hr]
  clear hr
  obtain ⟨T, A, B, ⟨C, F, H, X, v, m⟩, va, vc, ma, mc, d, da, dc⟩ := g
  simp only at *
  subst hT
  unfold Ent12.val
  simp only
  obtain ⟨W, hW, hbW, hx⟩ := act_box w 17 0 B C F H X va v.length vc ma m.length mc da d.length dc
  have HW := hid hW
  have HB := hid hbW
  clear hW hbW
  go_enter Tryz.func52, Tryz.ntmps52
  go_wp2_with fail
  rw [HW.out]
  refine (SM.out _ HB.out).mono ?_
  rintro e w1 ⟨rfl, hb⟩
  go_wp2_with fail
  go_ret
  exact ⟨rfl, below_on HB.out hb⟩

set_option maxRecDepth 100000 in
set_option maxHeartbeats 2000000 in
theorem isBare_num19 (g : Ent12) (w : World) (hi : ActIn w g) (hT : g.T = 19) :
    Calls Tryz.prog 52 #[g.val] w fun e w' => e = .returned (.bool (bare12 g)) ∧ Below w.heap.size w w' := by
  have SM := hid (fun (W : World) (hW : Below w.heap.size w W) => actSame_any (strip12 g) (none12 g.T) W ((strip_in hi).below hW) ((none_in hi).below hW))
  clear hi
  obtain ⟨r, hr⟩ : ∃ r, bare12 g = r := ⟨_, rfl⟩
  rw [show same12 (strip12 g).act (none12 g.T).act = r from hr] at SM
  rw [hr]
  clear hr
  obtain ⟨T, A, B, ⟨C, F, H, X, v, m⟩, va, vc, ma, mc, d, da, dc⟩ := g
  simp only at *
  subst hT
  unfold Ent12.val
  simp only
  obtain ⟨W, hW, hbW, hx⟩ := act_box w 19 0 B C F H X va v.length vc ma m.length mc da d.length dc
  have HW := hid hW
  have HB := hid hbW
  clear hW hbW
  go_enter Tryz.func52, Tryz.ntmps52
  go_wp2_with fail
  rw [HW.out]
  refine (SM.out _ HB.out).mono ?_
  rintro e w1 ⟨rfl, hb⟩
  go_wp2_with fail
  go_ret
  exact ⟨rfl, below_on HB.out hb⟩

set_option maxRecDepth 100000 in
set_option maxHeartbeats 2000000 in
theorem isBare_num26 (g : Ent12) (w : World) (hi : ActIn w g) (hT : g.T = 26) :
    Calls Tryz.prog 52 #[g.val] w fun e w' => e = .returned (.bool (bare12 g)) ∧ Below w.heap.size w w' := by
  have SM := hid (fun (W : World) (hW : Below w.heap.size w W) => actSame_any (strip12 g) (none12 g.T) W ((strip_in hi).below hW) ((none_in hi).below hW))
  clear hi
  obtain ⟨r, hr⟩ : ∃ r, bare12 g = r := ⟨_, rfl⟩
  rw [show same12 (strip12 g).act (none12 g.T).act = r from hr] at SM
  rw [hr]
  clear hr
  obtain ⟨T, A, B, ⟨C, F, H, X, v, m⟩, va, vc, ma, mc, d, da, dc⟩ := g
  simp only at *
  subst hT
  unfold Ent12.val
  simp only
  obtain ⟨W, hW, hbW, hx⟩ := act_box w 26 0 B C F H X va v.length vc ma m.length mc da d.length dc
  have HW := hid hW
  have HB := hid hbW
  clear hW hbW
  go_enter Tryz.func52, Tryz.ntmps52
  go_wp2_with fail
  rw [HW.out]
  refine (SM.out _ HB.out).mono ?_
  rintro e w1 ⟨rfl, hb⟩
  go_wp2_with fail
  go_ret
  exact ⟨rfl, below_on HB.out hb⟩

set_option maxRecDepth 100000 in
set_option maxHeartbeats 2000000 in
theorem isBare_num20 (g : Ent12) (w : World) (hi : ActIn w g) (hT : g.T = 20) :
    Calls Tryz.prog 52 #[g.val] w fun e w' => e = .returned (.bool (bare12 g)) ∧ Below w.heap.size w w' := by
  have SM := hid (fun (W : World) (hW : Below w.heap.size w W) => actSame_any (strip12 g) (none12 g.T) W ((strip_in hi).below hW) ((none_in hi).below hW))
  clear hi
  obtain ⟨r, hr⟩ : ∃ r, bare12 g = r := ⟨_, rfl⟩
  rw [show same12 (strip12 g).act (none12 g.T).act = r from hr] at SM
  rw [hr]
  clear hr
  obtain ⟨T, A, B, ⟨C, F, H, X, v, m⟩, va, vc, ma, mc, d, da, dc⟩ := g
  simp only at *
  subst hT
  unfold Ent12.val
  simp only
  obtain ⟨W, hW, hbW, hx⟩ := act_box w 20 0 B C F H X va v.length vc ma m.length mc da d.length dc
  have HW := hid hW
  have HB := hid hbW
  clear hW hbW
  go_enter Tryz.func52, Tryz.ntmps52
  go_wp2_with fail
  rw [HW.out]
  refine (SM.out _ HB.out).mono ?_
  rintro e w1 ⟨rfl, hb⟩
  go_wp2_with fail
  go_ret
  exact ⟨rfl, below_on HB.out hb⟩

set_option maxRecDepth 100000 in
set_option maxHeartbeats 2000000 in
theorem isBare_else (g : Ent12) (w : World) (hi : ActIn w g) (hT : g.T ≠ 25 ∧ g.T ≠ 65535 ∧ g.T ≠ 0 ∧ g.T ≠ 22 ∧ g.T ≠ 21 ∧ g.T ≠ 15 ∧ g.T ≠ 23 ∧ g.T ≠ 17 ∧ g.T ≠ 19 ∧ g.T ≠ 26 ∧ g.T ≠ 20) :
    Calls Tryz.prog 52 #[g.val] w fun e w' => e = .returned (.bool (bare12 g)) ∧ Below w.heap.size w w' := by
  have SM := hid (fun (W : World) (hW : Below w.heap.size w W) => actSame_any (strip12 g) (none12 g.T) W ((strip_in hi).below hW) ((none_in hi).below hW))
  clear hi
  obtain ⟨r, hr⟩ : ∃ r, bare12 g = r := ⟨_, rfl⟩
  rw [show same12 (strip12 g).act (none12 g.T).act = r from hr] at SM
  rw [hr]
  clear hr
  obtain ⟨T, A, B, ⟨C, F, H, X, v, m⟩, va, vc, ma, mc, d, da, dc⟩ := g
  simp only at *
  have es : strip12 ⟨T, A, B, ⟨C, F, H, X, v, m⟩, va, vc, ma, mc, d, da, dc⟩ = ⟨T, A, B, ⟨C, F, H, X, v, m⟩, va, vc, ma, mc, d, da, dc⟩ := by simp [strip12, hT]
  rw [es] at SM
  have c0 : (T == 25) = false := by simp [hT]
  have c1 : (T == 65535) = false := by simp [hT]
  have c2 : (T == 0) = false := by simp [hT]
  have c3 : (T == 22) = false := by simp [hT]
  have c4 : (T == 21) = false := by simp [hT]
  have c5 : (T == 15) = false := by simp [hT]
  have c6 : (T == 23) = false := by simp [hT]
  have c7 : (T == 17) = false := by simp [hT]
  have c8 : (T == 19) = false := by simp [hT]
  have c9 : (T == 26) = false := by simp [hT]
  have c10 : (T == 20) = false := by simp [hT]
  clear hT es
  unfold Ent12.val
  simp only
  obtain ⟨W, hW, hbW, hx⟩ := act_box w T A B C F H X va v.length vc ma m.length mc da d.length dc
  have HW := hid hW
  have HB := hid hbW
  clear hW hbW
  go_enter Tryz.func52, Tryz.ntmps52
  go_wp2_with fail
  rw [HW.out]
  refine (SM.out _ HB.out).mono ?_
  rintro e w1 ⟨rfl, hb⟩
  go_wp2_with fail
  go_ret
  exact ⟨rfl, below_on HB.out hb⟩

theorem isBare_any (g : Ent12) (w : World) (hi : ActIn w g) :
    Calls Tryz.prog 52 #[g.val] w fun e w' => e = .returned (.bool (bare12 g)) ∧ Below w.heap.size w w' := by
  rcases (show g.T = 25 ∨ g.T = 65535 ∨ g.T = 0 ∨ g.T = 22 ∨ g.T = 21 ∨ g.T = 15 ∨ g.T = 23 ∨ g.T = 17 ∨ g.T = 19 ∨ g.T = 26 ∨ g.T = 20 ∨ (g.T ≠ 25 ∧ g.T ≠ 65535 ∧ g.T ≠ 0 ∧ g.T ≠ 22 ∧ g.T ≠ 21 ∧ g.T ≠ 15 ∧ g.T ≠ 23 ∧ g.T ≠ 17 ∧ g.T ≠ 19 ∧ g.T ≠ 26 ∧ g.T ≠ 20) by omega) with h | h | h | h | h | h | h | h | h | h | h | h
  · exact isBare_set g w hi h
  · exact isBare_exp g w hi h
  · exact isBare_out g w hi h
  · exact isBare_num22 g w hi h
  · exact isBare_num21 g w hi h
  · exact isBare_num15 g w hi h
  · exact isBare_num23 g w hi h
  · exact isBare_num17 g w hi h
  · exact isBare_num19 g w hi h
  · exact isBare_num26 g w hi h
  · exact isBare_num20 g w hi h
  · exact isBare_else g w hi h
end Go.Proofs.YtdjlbejhphbcoaaGreat
namespace Go.Proofs.YtdjlbejhphbcoaaGreat
open Go.RowKit
set_option linter.unusedVariables false

/-- what is wrong first with a value that is to be set -/
def wset12 (o : Ox9) : Int := if o.C = 32768 ∧ 2 < o.F ∧ o.F < 39 then (if o.H = false ∧ right10 o = true then 0 else 528) else 526

set_option maxRecDepth 100000 in
set_option maxHeartbeats 2000000 in
theorem wrongSet_any (o : Ox9) (va : Option Addr) (vc : Nat) (ma : Option Addr) (mc : Nat) (w : World) (hv : o.v.length ≤ 1000) (hm : o.m.length ≤ 1000) (hmc : o.m.length ≤ mc) (ov : Octets o.v) (om : Octets o.m) (iv : Ints .u8 w va o.v) (im : Ints .u8 w ma o.m) :
    Calls Tryz.prog 89 #[.agg #[.int .i64 o.C, .int .i64 o.F, .bool o.H, .int .u64 o.X, .slice va o.v.length vc, .slice ma o.m.length mc]] w fun e w' => e = .returned (.int .i64 (wset12 o)) ∧ Below w.heap.size w w' := by
  obtain ⟨W, hW, hbW, hx⟩ := oxm_box w o.C o.F o.H o.X va o.v.length vc ma o.m.length mc
  have HW := hid hW
  have HB := hid hbW
  have RI := hid (fun (n : Wk W) => right8_any o.C o.F o.H o.X va vc ma mc o.v o.m hv hm hmc ov om n.val ((iv.below HB.out).below n.bel) ((im.below HB.out).below n.bel))
  have ST := hid (fun (V : World) => fldSettable_any o.F V)
  obtain ⟨C, F, H, X, v, m⟩ := o
  simp only at *
  obtain ⟨r, hr⟩ : ∃ r, rightB C F H X v m = r := ⟨_, rfl⟩
  obtain ⟨s, hs⟩ : ∃ s, decide (2 < F ∧ F < 39) = s := ⟨_, rfl⟩
  have ways : ((C != 32768) = true ∧ wset12 ⟨C, F, H, X, v, m⟩ = 526) ∨ ((C != 32768) = false ∧ s = false ∧ wset12 ⟨C, F, H, X, v, m⟩ = 526) ∨ ((C != 32768) = false ∧ s = true ∧ H = true ∧ wset12 ⟨C, F, H, X, v, m⟩ = 528) ∨ ((C != 32768) = false ∧ s = true ∧ H = false ∧ r = false ∧ wset12 ⟨C, F, H, X, v, m⟩ = 528) ∨ ((C != 32768) = false ∧ s = true ∧ H = false ∧ r = true ∧ wset12 ⟨C, F, H, X, v, m⟩ = 0) := by
    unfold wset12 right10
    simp only [hr]
    by_cases h1 : C = 32768
    · subst h1
      cases s
      · have : ¬ (2 < F ∧ F < 39) := by simpa using hs
        exact .inr (.inl ⟨by decide, rfl, by rw [if_neg (by simpa using this)]⟩)
      · have : 2 < F ∧ F < 39 := by simpa using hs
        rw [if_pos ⟨rfl, this⟩]
        cases H
        · cases r
          · exact .inr (.inr (.inr (.inl ⟨by decide, rfl, rfl, rfl, by simp⟩)))
          · exact .inr (.inr (.inr (.inr ⟨by decide, rfl, rfl, rfl, by simp⟩)))
        · exact .inr (.inr (.inl ⟨by decide, rfl, rfl, by simp⟩))
    · exact .inl ⟨by simpa using h1, by rw [if_neg (by simp [h1])]⟩
  rw [hr] at RI
  rw [hs] at ST
  obtain ⟨q, hq⟩ : ∃ q, wset12 ⟨C, F, H, X, v, m⟩ = q := ⟨_, rfl⟩
  rw [hq] at ways ⊢
  obtain ⟨d0, d1, d2, d3, d4, d5⟩ := hx.six
  clear hr hs hq hW hbW iv im ov om hv hm hmc
  rcases ways with ⟨c, rfl⟩ | ⟨c, rfl, rfl⟩ | ⟨c, rfl, rfl, rfl⟩ | ⟨c, rfl, rfl, rfl, rfl⟩ | ⟨c, rfl, rfl, rfl, rfl⟩

  · go_enter Tryz.func89, Tryz.ntmps89
    go_wp2_with fail
    rw [HW.out]
    go_wp2_with fail
    go_ret
    exact ⟨rfl, HB.out⟩
  · go_enter Tryz.func89, Tryz.ntmps89
    go_wp2_with fail
    rw [HW.out]
    go_wp2_with fail
    refine (ST.out _).mono ?_
    rintro e w1 ⟨rfl, rfl⟩
    go_wp2_with fail
    go_ret
    exact ⟨rfl, HB.out⟩
  · go_enter Tryz.func89, Tryz.ntmps89
    go_wp2_with fail
    rw [HW.out]
    go_wp2_with fail
    refine (ST.out _).mono ?_
    rintro e w1 ⟨rfl, rfl⟩
    go_wp2_with fail
    go_ret
    exact ⟨rfl, HB.out⟩
  · go_enter Tryz.func89, Tryz.ntmps89
    go_wp2_with fail
    rw [HW.out]
    go_wp2_with fail
    refine (ST.out _).mono ?_
    rintro e w1 ⟨rfl, rfl⟩
    go_wp2_with fail
    refine (RI.out ⟨_, Below.refl _ _⟩).mono ?_
    rintro e w1 ⟨rfl, hb⟩
    go_wp2_with fail
    go_ret
    exact ⟨rfl, below_on HB.out hb⟩
  · go_enter Tryz.func89, Tryz.ntmps89
    go_wp2_with fail
    rw [HW.out]
    go_wp2_with fail
    refine (ST.out _).mono ?_
    rintro e w1 ⟨rfl, rfl⟩
    go_wp2_with fail
    refine (RI.out ⟨_, Below.refl _ _⟩).mono ?_
    rintro e w1 ⟨rfl, hb⟩
    go_wp2_with fail
    go_ret
    exact ⟨rfl, below_on HB.out hb⟩

/-- what is wrong with an action -/
def wrong12 (a : Act12) : Int := if a.T = 25 then wset12 a.o else if a.T = 65535 then (if a.d.length % 8 = 0 then 0 else 514) else asked12 a.T a.A

set_option maxRecDepth 100000 in
set_option maxHeartbeats 2000000 in
theorem wrong_out_no (g : Ent12) (w : World) (hT : g.T = 0) (hA : g.A = 0) :
    Calls Tryz.prog 53 #[g.val] w fun e w' => e = .returned (.int .i64 (wrong12 g.act)) ∧ Below w.heap.size w w' := by
  obtain ⟨W, hW, hbW, hx⟩ := act_box w g.T g.A g.B g.o.C g.o.F g.o.H g.o.X g.va g.o.v.length g.vc g.ma g.o.m.length g.mc g.da g.d.length g.dc
  have HW := hid hW
  have HB := hid hbW
  clear hW hbW
  have hq : wrong12 g.act = 517 := by simp [wrong12, Ent12.act, asked12, hT, hA]
  rw [hq]
  obtain ⟨T, A, B, ⟨C, F, H, X, v, m⟩, va, vc, ma, mc, d, da, dc⟩ := g
  simp only [Ent12.act] at *
  subst hT
  subst hA
  unfold Ent12.val
  simp only
  obtain ⟨d0, d1, d2, d3, d4, d5, d6, d7, d8, d9⟩ := hx.ten
  clear hq
  go_enter Tryz.func53, Tryz.ntmps53
  go_wp2_with fail
  rw [HW.out]
  go_wp2_with fail
  go_ret
  exact ⟨rfl, HB.out⟩

set_option maxRecDepth 100000 in
set_option maxHeartbeats 2000000 in
theorem wrong_out_yes (g : Ent12) (w : World) (hT : g.T = 0) (hA : g.A ≠ 0) :
    Calls Tryz.prog 53 #[g.val] w fun e w' => e = .returned (.int .i64 (wrong12 g.act)) ∧ Below w.heap.size w w' := by
  obtain ⟨W, hW, hbW, hx⟩ := act_box w g.T g.A g.B g.o.C g.o.F g.o.H g.o.X g.va g.o.v.length g.vc g.ma g.o.m.length g.mc g.da g.d.length g.dc
  have HW := hid hW
  have HB := hid hbW
  clear hW hbW
  have hq : wrong12 g.act = 0 := by simp [wrong12, Ent12.act, asked12, hT, hA]
  rw [hq]
  obtain ⟨T, A, B, ⟨C, F, H, X, v, m⟩, va, vc, ma, mc, d, da, dc⟩ := g
  simp only [Ent12.act] at *
  subst hT
  have c : (A != 0) = true := by simpa using hA
  clear hA
  unfold Ent12.val
  simp only
  obtain ⟨d0, d1, d2, d3, d4, d5, d6, d7, d8, d9⟩ := hx.ten
  clear hq
  go_enter Tryz.func53, Tryz.ntmps53
  go_wp2_with fail
  rw [HW.out]
  go_wp2_with fail
  go_ret
  exact ⟨rfl, HB.out⟩

set_option maxRecDepth 100000 in
set_option maxHeartbeats 2000000 in
theorem wrong_grp_no (g : Ent12) (w : World) (hT : g.T = 22) (hA : 4294967040 < g.A) :
    Calls Tryz.prog 53 #[g.val] w fun e w' => e = .returned (.int .i64 (wrong12 g.act)) ∧ Below w.heap.size w w' := by
  obtain ⟨W, hW, hbW, hx⟩ := act_box w g.T g.A g.B g.o.C g.o.F g.o.H g.o.X g.va g.o.v.length g.vc g.ma g.o.m.length g.mc g.da g.d.length g.dc
  have HW := hid hW
  have HB := hid hbW
  clear hW hbW
  have hq : wrong12 g.act = 522 := by simp [wrong12, Ent12.act, asked12, hT, hA]
  rw [hq]
  obtain ⟨T, A, B, ⟨C, F, H, X, v, m⟩, va, vc, ma, mc, d, da, dc⟩ := g
  simp only [Ent12.act] at *
  subst hT
  have c : decide (A ≤ 4294967040) = false := by simp; omega
  unfold Ent12.val
  simp only
  obtain ⟨d0, d1, d2, d3, d4, d5, d6, d7, d8, d9⟩ := hx.ten
  clear hq
  go_enter Tryz.func53, Tryz.ntmps53
  go_wp2_with fail
  rw [HW.out]
  go_wp2_with fail
  go_ret
  exact ⟨rfl, HB.out⟩

set_option maxRecDepth 100000 in
set_option maxHeartbeats 2000000 in
theorem wrong_grp_yes (g : Ent12) (w : World) (hT : g.T = 22) (hA : ¬ 4294967040 < g.A) :
    Calls Tryz.prog 53 #[g.val] w fun e w' => e = .returned (.int .i64 (wrong12 g.act)) ∧ Below w.heap.size w w' := by
  obtain ⟨W, hW, hbW, hx⟩ := act_box w g.T g.A g.B g.o.C g.o.F g.o.H g.o.X g.va g.o.v.length g.vc g.ma g.o.m.length g.mc g.da g.d.length g.dc
  have HW := hid hW
  have HB := hid hbW
  clear hW hbW
  have hq : wrong12 g.act = 0 := by simp [wrong12, Ent12.act, asked12, hT, hA]
  rw [hq]
  obtain ⟨T, A, B, ⟨C, F, H, X, v, m⟩, va, vc, ma, mc, d, da, dc⟩ := g
  simp only [Ent12.act] at *
  subst hT
  have c : A ≤ 4294967040 := by omega
  unfold Ent12.val
  simp only
  obtain ⟨d0, d1, d2, d3, d4, d5, d6, d7, d8, d9⟩ := hx.ten
  clear hq
  go_enter Tryz.func53, Tryz.ntmps53
  go_wp2_with fail
  rw [HW.out]
  go_wp2_with fail
  go_ret
  exact ⟨rfl, HB.out⟩

set_option maxRecDepth 100000 in
set_option maxHeartbeats 2000000 in
theorem wrong_vlan_a (g : Ent12) (w : World) (hT : g.T = 17) (hA : g.A = 33024) :
    Calls Tryz.prog 53 #[g.val] w fun e w' => e = .returned (.int .i64 (wrong12 g.act)) ∧ Below w.heap.size w w' := by
  obtain ⟨W, hW, hbW, hx⟩ := act_box w g.T g.A g.B g.o.C g.o.F g.o.H g.o.X g.va g.o.v.length g.vc g.ma g.o.m.length g.mc g.da g.d.length g.dc
  have HW := hid hW
  have HB := hid hbW
  clear hW hbW
  have hq : wrong12 g.act = 0 := by simp [wrong12, Ent12.act, asked12, hT, hA]
  rw [hq]
  obtain ⟨T, A, B, ⟨C, F, H, X, v, m⟩, va, vc, ma, mc, d, da, dc⟩ := g
  simp only [Ent12.act] at *
  subst hT
  subst hA
  unfold Ent12.val
  simp only
  obtain ⟨d0, d1, d2, d3, d4, d5, d6, d7, d8, d9⟩ := hx.ten
  clear hq
  go_enter Tryz.func53, Tryz.ntmps53
  go_wp2_with fail
  rw [HW.out]
  go_wp2_with fail
  go_ret
  exact ⟨rfl, HB.out⟩

set_option maxRecDepth 100000 in
set_option maxHeartbeats 2000000 in
theorem wrong_vlan_b (g : Ent12) (w : World) (hT : g.T = 17) (hA : g.A = 34984) :
    Calls Tryz.prog 53 #[g.val] w fun e w' => e = .returned (.int .i64 (wrong12 g.act)) ∧ Below w.heap.size w w' := by
  obtain ⟨W, hW, hbW, hx⟩ := act_box w g.T g.A g.B g.o.C g.o.F g.o.H g.o.X g.va g.o.v.length g.vc g.ma g.o.m.length g.mc g.da g.d.length g.dc
  have HW := hid hW
  have HB := hid hbW
  clear hW hbW
  have hq : wrong12 g.act = 0 := by simp [wrong12, Ent12.act, asked12, hT, hA]
  rw [hq]
  obtain ⟨T, A, B, ⟨C, F, H, X, v, m⟩, va, vc, ma, mc, d, da, dc⟩ := g
  simp only [Ent12.act] at *
  subst hT
  subst hA
  unfold Ent12.val
  simp only
  obtain ⟨d0, d1, d2, d3, d4, d5, d6, d7, d8, d9⟩ := hx.ten
  clear hq
  go_enter Tryz.func53, Tryz.ntmps53
  go_wp2_with fail
  rw [HW.out]
  go_wp2_with fail
  go_ret
  exact ⟨rfl, HB.out⟩

set_option maxRecDepth 100000 in
set_option maxHeartbeats 2000000 in
theorem wrong_vlan_no (g : Ent12) (w : World) (hT : g.T = 17) (hA : g.A ≠ 33024) (hA2 : g.A ≠ 34984) :
    Calls Tryz.prog 53 #[g.val] w fun e w' => e = .returned (.int .i64 (wrong12 g.act)) ∧ Below w.heap.size w w' := by
  obtain ⟨W, hW, hbW, hx⟩ := act_box w g.T g.A g.B g.o.C g.o.F g.o.H g.o.X g.va g.o.v.length g.vc g.ma g.o.m.length g.mc g.da g.d.length g.dc
  have HW := hid hW
  have HB := hid hbW
  clear hW hbW
  have hq : wrong12 g.act = 518 := by simp [wrong12, Ent12.act, asked12, hT, hA, hA2]
  rw [hq]
  obtain ⟨T, A, B, ⟨C, F, H, X, v, m⟩, va, vc, ma, mc, d, da, dc⟩ := g
  simp only [Ent12.act] at *
  subst hT
  have c : (A == 33024) = false := by simpa using hA
  have c2 : (A == 34984) = false := by simpa using hA2
  clear hA hA2
  unfold Ent12.val
  simp only
  obtain ⟨d0, d1, d2, d3, d4, d5, d6, d7, d8, d9⟩ := hx.ten
  clear hq
  go_enter Tryz.func53, Tryz.ntmps53
  go_wp2_with fail
  rw [HW.out]
  go_wp2_with fail
  go_ret
  exact ⟨rfl, HB.out⟩

set_option maxRecDepth 100000 in
set_option maxHeartbeats 2000000 in
theorem wrong_mpls_a (g : Ent12) (w : World) (hT : g.T = 19) (hA : g.A = 34887) :
    Calls Tryz.prog 53 #[g.val] w fun e w' => e = .returned (.int .i64 (wrong12 g.act)) ∧ Below w.heap.size w w' := by
  obtain ⟨W, hW, hbW, hx⟩ := act_box w g.T g.A g.B g.o.C g.o.F g.o.H g.o.X g.va g.o.v.length g.vc g.ma g.o.m.length g.mc g.da g.d.length g.dc
  have HW := hid hW
  have HB := hid hbW
  clear hW hbW
  have hq : wrong12 g.act = 0 := by simp [wrong12, Ent12.act, asked12, hT, hA]
  rw [hq]
  obtain ⟨T, A, B, ⟨C, F, H, X, v, m⟩, va, vc, ma, mc, d, da, dc⟩ := g
  simp only [Ent12.act] at *
  subst hT
  subst hA
  unfold Ent12.val
  simp only
  obtain ⟨d0, d1, d2, d3, d4, d5, d6, d7, d8, d9⟩ := hx.ten
  clear hq
  go_enter Tryz.func53, Tryz.ntmps53
  go_wp2_with fail
  rw [HW.out]
  go_wp2_with fail
  go_ret
  exact ⟨rfl, HB.out⟩

set_option maxRecDepth 100000 in
set_option maxHeartbeats 2000000 in
theorem wrong_mpls_b (g : Ent12) (w : World) (hT : g.T = 19) (hA : g.A = 34888) :
    Calls Tryz.prog 53 #[g.val] w fun e w' => e = .returned (.int .i64 (wrong12 g.act)) ∧ Below w.heap.size w w' := by
  obtain ⟨W, hW, hbW, hx⟩ := act_box w g.T g.A g.B g.o.C g.o.F g.o.H g.o.X g.va g.o.v.length g.vc g.ma g.o.m.length g.mc g.da g.d.length g.dc
  have HW := hid hW
  have HB := hid hbW
  clear hW hbW
  have hq : wrong12 g.act = 0 := by simp [wrong12, Ent12.act, asked12, hT, hA]
  rw [hq]
  obtain ⟨T, A, B, ⟨C, F, H, X, v, m⟩, va, vc, ma, mc, d, da, dc⟩ := g
  simp only [Ent12.act] at *
  subst hT
  subst hA
  unfold Ent12.val
  simp only
  obtain ⟨d0, d1, d2, d3, d4, d5, d6, d7, d8, d9⟩ := hx.ten
  clear hq
  go_enter Tryz.func53, Tryz.ntmps53
  go_wp2_with fail
  rw [HW.out]
  go_wp2_with fail
  go_ret
  exact ⟨rfl, HB.out⟩

set_option maxRecDepth 100000 in
set_option maxHeartbeats 2000000 in
theorem wrong_mpls_no (g : Ent12) (w : World) (hT : g.T = 19) (hA : g.A ≠ 34887) (hA2 : g.A ≠ 34888) :
    Calls Tryz.prog 53 #[g.val] w fun e w' => e = .returned (.int .i64 (wrong12 g.act)) ∧ Below w.heap.size w w' := by
  obtain ⟨W, hW, hbW, hx⟩ := act_box w g.T g.A g.B g.o.C g.o.F g.o.H g.o.X g.va g.o.v.length g.vc g.ma g.o.m.length g.mc g.da g.d.length g.dc
  have HW := hid hW
  have HB := hid hbW
  clear hW hbW
  have hq : wrong12 g.act = 518 := by simp [wrong12, Ent12.act, asked12, hT, hA, hA2]
  rw [hq]
  obtain ⟨T, A, B, ⟨C, F, H, X, v, m⟩, va, vc, ma, mc, d, da, dc⟩ := g
  simp only [Ent12.act] at *
  subst hT
  have c : (A == 34887) = false := by simpa using hA
  have c2 : (A == 34888) = false := by simpa using hA2
  clear hA hA2
  unfold Ent12.val
  simp only
  obtain ⟨d0, d1, d2, d3, d4, d5, d6, d7, d8, d9⟩ := hx.ten
  clear hq
  go_enter Tryz.func53, Tryz.ntmps53
  go_wp2_with fail
  rw [HW.out]
  go_wp2_with fail
  go_ret
  exact ⟨rfl, HB.out⟩

set_option maxRecDepth 100000 in
set_option maxHeartbeats 2000000 in
theorem wrong_pbb_a (g : Ent12) (w : World) (hT : g.T = 26) (hA : g.A = 35047) :
    Calls Tryz.prog 53 #[g.val] w fun e w' => e = .returned (.int .i64 (wrong12 g.act)) ∧ Below w.heap.size w w' := by
  obtain ⟨W, hW, hbW, hx⟩ := act_box w g.T g.A g.B g.o.C g.o.F g.o.H g.o.X g.va g.o.v.length g.vc g.ma g.o.m.length g.mc g.da g.d.length g.dc
  have HW := hid hW
  have HB := hid hbW
  clear hW hbW
  have hq : wrong12 g.act = 0 := by simp [wrong12, Ent12.act, asked12, hT, hA]
  rw [hq]
  obtain ⟨T, A, B, ⟨C, F, H, X, v, m⟩, va, vc, ma, mc, d, da, dc⟩ := g
  simp only [Ent12.act] at *
  subst hT
  subst hA
  unfold Ent12.val
  simp only
  obtain ⟨d0, d1, d2, d3, d4, d5, d6, d7, d8, d9⟩ := hx.ten
  clear hq
  go_enter Tryz.func53, Tryz.ntmps53
  go_wp2_with fail
  rw [HW.out]
  go_wp2_with fail
  go_ret
  exact ⟨rfl, HB.out⟩

set_option maxRecDepth 100000 in
set_option maxHeartbeats 2000000 in
theorem wrong_pbb_no (g : Ent12) (w : World) (hT : g.T = 26) (hA : g.A ≠ 35047) :
    Calls Tryz.prog 53 #[g.val] w fun e w' => e = .returned (.int .i64 (wrong12 g.act)) ∧ Below w.heap.size w w' := by
  obtain ⟨W, hW, hbW, hx⟩ := act_box w g.T g.A g.B g.o.C g.o.F g.o.H g.o.X g.va g.o.v.length g.vc g.ma g.o.m.length g.mc g.da g.d.length g.dc
  have HW := hid hW
  have HB := hid hbW
  clear hW hbW
  have hq : wrong12 g.act = 518 := by simp [wrong12, Ent12.act, asked12, hT, hA]
  rw [hq]
  obtain ⟨T, A, B, ⟨C, F, H, X, v, m⟩, va, vc, ma, mc, d, da, dc⟩ := g
  simp only [Ent12.act] at *
  subst hT
  have c : (A == 35047) = false := by simpa using hA
  clear hA
  unfold Ent12.val
  simp only
  obtain ⟨d0, d1, d2, d3, d4, d5, d6, d7, d8, d9⟩ := hx.ten
  clear hq
  go_enter Tryz.func53, Tryz.ntmps53
  go_wp2_with fail
  rw [HW.out]
  go_wp2_with fail
  go_ret
  exact ⟨rfl, HB.out⟩

set_option maxRecDepth 100000 in
set_option maxHeartbeats 2000000 in
theorem wrong_exp_yes (g : Ent12) (w : World) (hT : g.T = 65535) (hd : g.d.length % 8 = 0) :
    Calls Tryz.prog 53 #[g.val] w fun e w' => e = .returned (.int .i64 (wrong12 g.act)) ∧ Below w.heap.size w w' := by
  obtain ⟨W, hW, hbW, hx⟩ := act_box w g.T g.A g.B g.o.C g.o.F g.o.H g.o.X g.va g.o.v.length g.vc g.ma g.o.m.length g.mc g.da g.d.length g.dc
  have HW := hid hW
  have HB := hid hbW
  clear hW hbW
  have hq : wrong12 g.act = 0 := by simp [wrong12, Ent12.act, hT, hd]
  rw [hq]
  obtain ⟨T, A, B, ⟨C, F, H, X, v, m⟩, va, vc, ma, mc, d, da, dc⟩ := g
  simp only [Ent12.act] at *
  subst hT
  have t1 : ((d.length : Nat) : Int).tmod 8 = 0 := by rw [Int.tmod_eq_emod_of_nonneg (by omega)]; omega
  clear hd
  unfold Ent12.val
  simp only
  obtain ⟨d0, d1, d2, d3, d4, d5, d6, d7, d8, d9⟩ := hx.ten
  clear hq
  go_enter Tryz.func53, Tryz.ntmps53
  go_wp2_with fail
  rw [HW.out]
  go_wp2_with fail
  go_ret
  exact ⟨rfl, HB.out⟩

set_option maxRecDepth 100000 in
set_option maxHeartbeats 2000000 in
theorem wrong_exp_no (g : Ent12) (w : World) (hT : g.T = 65535) (hd : g.d.length % 8 ≠ 0) :
    Calls Tryz.prog 53 #[g.val] w fun e w' => e = .returned (.int .i64 (wrong12 g.act)) ∧ Below w.heap.size w w' := by
  obtain ⟨W, hW, hbW, hx⟩ := act_box w g.T g.A g.B g.o.C g.o.F g.o.H g.o.X g.va g.o.v.length g.vc g.ma g.o.m.length g.mc g.da g.d.length g.dc
  have HW := hid hW
  have HB := hid hbW
  clear hW hbW
  have hq : wrong12 g.act = 514 := by simp [wrong12, Ent12.act, hT, hd]
  rw [hq]
  obtain ⟨T, A, B, ⟨C, F, H, X, v, m⟩, va, vc, ma, mc, d, da, dc⟩ := g
  simp only [Ent12.act] at *
  subst hT
  obtain ⟨k, hk⟩ : ∃ k : Int, ((d.length : Nat) : Int).tmod 8 = k := ⟨_, rfl⟩
  have c : (k == 0) = false := by have h2 := Int.tmod_eq_emod_of_nonneg (a := ((d.length : Nat) : Int)) (b := 8) (by omega); simp; omega
  clear hd
  unfold Ent12.val
  simp only
  obtain ⟨d0, d1, d2, d3, d4, d5, d6, d7, d8, d9⟩ := hx.ten
  clear hq
  go_enter Tryz.func53, Tryz.ntmps53
  go_wp2_with fail
  rw [HW.out]
  go_wp2_with fail
  go_ret
  exact ⟨rfl, HB.out⟩

set_option maxRecDepth 100000 in
set_option maxHeartbeats 2000000 in
theorem wrong_else (g : Ent12) (w : World) (hT : g.T ≠ 0 ∧ g.T ≠ 22 ∧ g.T ≠ 17 ∧ g.T ≠ 19 ∧ g.T ≠ 26 ∧ g.T ≠ 65535 ∧ g.T ≠ 25) :
    Calls Tryz.prog 53 #[g.val] w fun e w' => e = .returned (.int .i64 (wrong12 g.act)) ∧ Below w.heap.size w w' := by
  obtain ⟨W, hW, hbW, hx⟩ := act_box w g.T g.A g.B g.o.C g.o.F g.o.H g.o.X g.va g.o.v.length g.vc g.ma g.o.m.length g.mc g.da g.d.length g.dc
  have HW := hid hW
  have HB := hid hbW
  clear hW hbW
  have hq : wrong12 g.act = 0 := by simp [wrong12, Ent12.act, asked12, hT]
  rw [hq]
  obtain ⟨T, A, B, ⟨C, F, H, X, v, m⟩, va, vc, ma, mc, d, da, dc⟩ := g
  simp only [Ent12.act] at *
  obtain ⟨h0, h1, h2, h3, h4, h5, h6⟩ := hT
  have c0 : (T == 0) = false := by simpa using h0
  have c1 : (T == 22) = false := by simpa using h1
  have c2 : (T == 17) = false := by simpa using h2
  have c3 : (T == 19) = false := by simpa using h3
  have c4 : (T == 26) = false := by simpa using h4
  have c5 : (T == 65535) = false := by simpa using h5
  have c6 : (T == 25) = false := by simpa using h6
  clear h0 h1 h2 h3 h4 h5 h6
  unfold Ent12.val
  simp only
  obtain ⟨d0, d1, d2, d3, d4, d5, d6, d7, d8, d9⟩ := hx.ten
  clear hq
  go_enter Tryz.func53, Tryz.ntmps53
  go_wp2_with fail
  rw [HW.out]
  go_wp2_with fail
  go_ret
  exact ⟨rfl, HB.out⟩

set_option maxRecDepth 100000 in
set_option maxHeartbeats 2000000 in
theorem wrong_set (g : Ent12) (w : World) (hi : ActIn w g) (hT : g.T = 25) :
    Calls Tryz.prog 53 #[g.val] w fun e w' => e = .returned (.int .i64 (wrong12 g.act)) ∧ Below w.heap.size w w' := by
  obtain ⟨W, hW, hbW, hx⟩ := act_box w g.T g.A g.B g.o.C g.o.F g.o.H g.o.X g.va g.o.v.length g.vc g.ma g.o.m.length g.mc g.da g.d.length g.dc
  have HW := hid hW
  have HB := hid hbW
  have hq : wrong12 g.act = wset12 g.o := by simp [wrong12, Ent12.act, hT]
  have WS := hid (wrongSet_any g.o g.va g.vc g.ma g.mc W hi.lv hi.lm hi.cm hi.ov hi.om (hi.iv.below hbW) (hi.im.below hbW))
  rw [hq]
  obtain ⟨q, hqq⟩ : ∃ q, wset12 g.o = q := ⟨_, rfl⟩
  rw [hqq] at WS ⊢
  clear hi hW hbW hq hqq
  obtain ⟨T, A, B, ⟨C, F, H, X, v, m⟩, va, vc, ma, mc, d, da, dc⟩ := g
  simp only at *
  subst hT
  unfold Ent12.val
  simp only
  obtain ⟨d0, d1, d2, d3, d4, d5, d6, d7, d8, d9⟩ := hx.ten
  go_enter Tryz.func53, Tryz.ntmps53
  go_wp2_with fail
  rw [HW.out]
  go_wp2_with fail
  refine WS.out.mono ?_
  rintro e w1 ⟨rfl, hb⟩
  go_wp2_with fail
  go_ret
  exact ⟨rfl, below_on HB.out hb⟩
theorem wrong_any (g : Ent12) (w : World) (hi : ActIn w g) :
    Calls Tryz.prog 53 #[g.val] w fun e w' => e = .returned (.int .i64 (wrong12 g.act)) ∧ Below w.heap.size w w' := by
  rcases (show g.T = 0 ∨ g.T = 22 ∨ g.T = 17 ∨ g.T = 19 ∨ g.T = 26 ∨ g.T = 65535 ∨ g.T = 25 ∨ (g.T ≠ 0 ∧ g.T ≠ 22 ∧ g.T ≠ 17 ∧ g.T ≠ 19 ∧ g.T ≠ 26 ∧ g.T ≠ 65535 ∧ g.T ≠ 25) by omega) with h | h | h | h | h | h | h | h
  · by_cases hA : g.A = 0
    · exact wrong_out_no g w h hA
    · exact wrong_out_yes g w h hA
  · by_cases hA : 4294967040 < g.A
    · exact wrong_grp_no g w h hA
    · exact wrong_grp_yes g w h hA
  · by_cases hA : g.A = 33024
    · exact wrong_vlan_a g w h hA
    · by_cases hA2 : g.A = 34984
      · exact wrong_vlan_b g w h hA2
      · exact wrong_vlan_no g w h hA hA2
  · by_cases hA : g.A = 34887
    · exact wrong_mpls_a g w h hA
    · by_cases hA2 : g.A = 34888
      · exact wrong_mpls_b g w h hA2
      · exact wrong_mpls_no g w h hA hA2
  · by_cases hA : g.A = 35047
    · exact wrong_pbb_a g w h hA
    · exact wrong_pbb_no g w h hA
  · by_cases hd : g.d.length % 8 = 0
    · exact wrong_exp_yes g w h hd
    · exact wrong_exp_no g w h hd
  · exact wrong_set g w hi h
  · exact wrong_else g w h
end Go.Proofs.YtdjlbejhphbcoaaGreat
namespace Go.Proofs.YtdjlbejhphbcoaaGreat
open Go.RowKit
set_option linter.unusedVariables false

theorem count_le12 (t : Int) : countL (rowP t) ≤ 2 ∧ countW (rowP t) = countL (rowP t) ∧ sizeW (rowP t) = sizeL (rowP t) ∧ sizeL (rowP t) ≤ 12 ∧ (rowP t).length ≤ 3 ∧ rightW (rowP t) = true := by
  unfold rowP
  cases h : row12 t with
  | none => decide
  | some w =>
    rcases row_ways h with ⟨_, rfl⟩ | ⟨_, rfl⟩ | ⟨_, rfl⟩ | ⟨_, rfl⟩ | ⟨_, rfl⟩ <;> decide
set_option maxRecDepth 100000 in
set_option maxHeartbeats 2000000 in
theorem numbers_at (T A B C F : Int) (H : Bool) (X : Int) (va : Option Addr) (vl vc : Nat) (ma : Option Addr) (ml mc : Nat) (da : Option Addr) (dl dc : Nat) (l : List Int) (a : Option Addr) (c : Nat) (k : Nat) (hk : countW l = k) (hk2 : k ≤ 2) (hl : l.length ≤ 64) (w : World) (hI : Ints .i64 w a l) :
    Calls Tryz.prog 46 #[.agg #[.int .i64 T, .int .u64 A, .int .u64 B, .int .i64 C, .int .i64 F, .bool H, .int .u64 X, .slice va vl vc, .slice ma ml mc, .slice da dl dc], .slice a l.length c] w fun e w' => ∃ b, e = .returned (.slice b k 2) ∧ Ints .u64 w' b ([A, B].take k) ∧ Below w.heap.size w w' := by
  obtain ⟨W, hW, hbW, hx⟩ := act_box w T A B C F H X va vl vc ma ml mc da dl dc
  have HW := hid hW
  have HB := hid hbW
  have CO := hid (fun (V : World) (hV : Below W.heap.size W V) => count_any l a c V (by omega) ((hI.below HB.out).below hV))
  rw [hk] at CO
  have hk0 : (0 : Int) ≤ k := by omega
  have hk3 : (k : Int) ≤ 2 := by omega
  clear hW hbW hI hk
  obtain ⟨d0, d1, d2, d3, d4, d5, d6, d7, d8, d9⟩ := (hx.below (below_drew8 W)).ten
  go_enter Tryz.func46, Tryz.ntmps46
  go_wp2_with fail
  rw [HW.out]
  go_region_with (first
    | (go_at_call 78; refine (CO.out _ ?_).mono ?_; (first | exact below_drew8 W | exact below_on (below_drew8 W) (below_alloc _ _) | fail); rintro e w5 ⟨rfl, rfl⟩)
    | fail)
  all_goals
    go_wp2_with fail
    go_ret
    exact ⟨_, rfl, (ints_lit .u64 _ [A, B] 22).take k, below_on HB.out (below_on (below_drew8 W) (below_alloc _ _))⟩

/-- up to a multiple of 8 -/
def up12 (n : Nat) : Nat := (n + 7) / 8 * 8
/-- its length, if it may be but for that -/
def size12 (g : Act12) : Nat := up12 (4 + sizeL (rowP g.T) + size8 g.o.C g.o.F g.o.H g.o.X g.o.v g.o.m + g.d.length)
theorem size8_le (C F : Int) (H : Bool) (X : Int) (v m : List Int) : size8 C F H X v m ≤ 212 := by
  unfold size8
  cases h : rightB C F H X v m
  · simp
  · rw [if_pos rfl]
    have ft := right_facts h
    have := ft.most
    omega
set_option maxRecDepth 100000 in
set_option maxHeartbeats 2000000 in
theorem actSize_any (g : Ent12) (w : World) (hi : ActIn w g) :
    Calls Tryz.prog 45 #[g.val] w fun e w' => e = .returned (.int .i64 (size12 g.act)) ∧ Below w.heap.size w w' := by
  obtain ⟨W, hW, hbW, hx⟩ := act_box w g.T g.A g.B g.o.C g.o.F g.o.H g.o.X g.va g.o.v.length g.vc g.ma g.o.m.length g.mc g.da g.d.length g.dc
  have HW := hid hW
  have HB := hid hbW
  obtain ⟨k1, k2, k3, k4, k5, k6⟩ := count_le12 g.T
  have RO := hid (rowOf_any g.T W)
  have SO := hid (fun (V : World) (hV : Below w.heap.size w V) => size8_any g.o.C g.o.F g.o.H g.o.X g.va g.vc g.ma g.mc g.o.v g.o.m hi.lv hi.lm hi.cm hi.ov hi.om V (hi.iv.below hV) (hi.im.below hV))
  have sl := size8_le g.o.C g.o.F g.o.H g.o.X g.o.v g.o.m
  have ld := hi.ld
  clear hi hW hbW
  have hq : size12 g.act = up12 (4 + sizeL (rowP g.T) + size8 g.o.C g.o.F g.o.H g.o.X g.o.v g.o.m + g.d.length) := rfl
  rw [hq]
  clear hq
  obtain ⟨T, A, B, ⟨C, F, H, X, v, m⟩, va, vc, ma, mc, d, da, dc⟩ := g
  simp only at *
  obtain ⟨n2, h2⟩ : ∃ n, size8 C F H X v m = n := ⟨_, rfl⟩
  rw [h2] at SO sl ⊢
  obtain ⟨l, hl⟩ : ∃ l, rowP T = l := ⟨_, rfl⟩
  obtain ⟨rb, hrb⟩ : ∃ b, rowB T = b := ⟨_, rfl⟩
  rw [hl] at RO k1 k2 k3 k4 k5 k6 ⊢
  rw [hrb] at RO
  obtain ⟨n1, h1⟩ : ∃ n, sizeL l = n := ⟨_, rfl⟩
  rw [h1] at k3 k4 ⊢
  have K3 := hid k3
  obtain ⟨q, hq⟩ : ∃ q, (4 + n1 + n2 + d.length + 7) / 8 = q := ⟨_, rfl⟩
  have hup : up12 (4 + n1 + n2 + d.length) = q * 8 := by unfold up12; rw [hq]
  rw [hup]
  have hqq : ((4 : Int) + n1 + n2 + d.length + 8 - 1) / 8 = (q : Int) := by omega
  have hq3 : (q : Int) ≤ 20000 := by omega
  have HQ := hid hqq
  have hq0 : (0 : Int) ≤ q := by omega
  clear h2 hl hrb h1 hq hup k1 k2 k3 k6 hqq
  unfold Ent12.val
  simp only
  obtain ⟨d0, d1, d2, d3, d4, d5, d6, d7, d8, d9⟩ := hx.ten
  go_enter Tryz.func45, Tryz.ntmps45
  go_wp2_with fail
  rw [HW.out]
  go_wp2_with fail
  refine RO.out.mono ?_
  rintro e w1 ⟨a, rfl, hI, hb⟩
  have HB1 := hid (below_on HB.out hb)
  have SZ := hid (fun (n : Wk w1) => size_any l a l.length n.val (by omega) (hI.below n.bel))
  rw [K3.out] at SZ
  clear d0 d1 d2 d3 d4 d5 d6 d7 d8 d9 hI
  obtain ⟨d0, d1, d2, d3, d4, d5, d6, d7, d8, d9⟩ := (hx.below hb).ten
  have c3 := Wk.cell d3
  have c4 := Wk.cell d4
  have c5 := Wk.cell d5
  have c6 := Wk.cell d6
  have c7 := Wk.cell d7
  have c8 := Wk.cell d8
  have c9 := Wk.cell d9
  clear d0 d1 d2 d3 d4 d5 d6 d7 d8 d9 hb
  go_upto_region 2 with fail
  refine wp_region_wk (by kernel_rfl) (by kernel_rfl) ?_
  repeat (go_big_quiet_step (first
    | (go_at_call 76; exact Wk.same (SZ.out _))
    | (go_at_call 77; exact Wk.call (SO.out _ (below_on HB1.out (Wk.bel _))))))
  refine wpQuiet_nil ?_
  rintro w4 ⟨⟨_, hb4⟩, rfl⟩
  go_wp2_with fail
  go_ret
  exact ⟨ret_int (by have := HQ.out; omega), below_on HB1.out hb4⟩
end Go.Proofs.YtdjlbejhphbcoaaGreat
