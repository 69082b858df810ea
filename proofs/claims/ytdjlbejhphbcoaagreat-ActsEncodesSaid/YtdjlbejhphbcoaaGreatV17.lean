/- Put together out of several texts. -/
import Derived.Test.YtdjlbejhphbcoaaGreatV11
import Derived.Test.YtdjlbejhphbcoaaGreatV14
import Derived.Test.YtdjlbejhphbcoaaGreatV16
namespace Go.Proofs.YtdjlbejhphbcoaaGreat
open Go.RowKit
set_option linter.unusedVariables false

/-- an action without what its type has -/
def strip12 (g : Ent12) : Ent12 :=
  if g.T = 25 then ⟨g.T, g.A, g.B, noOx, none, 0, none, 0, g.d, g.da, g.dc⟩
  else if g.T = 65535 then ⟨g.T, 0, g.B, g.o, g.va, g.vc, g.ma, g.mc, [], none, 0⟩
  else if g.T = 0 then ⟨g.T, 0, 0, g.o, g.va, g.vc, g.ma, g.mc, g.d, g.da, g.dc⟩
  else if g.T = 22 ∨ g.T = 21 ∨ g.T = 15 ∨ g.T = 23 ∨ g.T = 17 ∨ g.T = 19 ∨ g.T = 26 ∨ g.T = 20 then ⟨g.T, 0, g.B, g.o, g.va, g.vc, g.ma, g.mc, g.d, g.da, g.dc⟩
  else g
def none12 (t : Int) : Ent12 := ⟨t, 0, 0, noOx, none, 0, none, 0, [], none, 0⟩
def bare12 (g : Ent12) : Bool := same12 (strip12 g).act (none12 g.T).act
theorem zero_in : (0 : Int) ≤ 0 ∧ (0 : Int) ≤ 18446744073709551615 := by decide
theorem none_in {w : World} {g : Ent12} (h : ActIn w g) : ActIn w (none12 g.T) :=
  ⟨h.t, zero_in, zero_in, by simp [none12, noOx], by simp [none12, noOx], zero_in, by simp [none12, noOx], by simp [none12, noOx], by simp [none12, noOx], Ints.nil _ _ _, Ints.nil _ _ _, Ints.nil _ _ _, (by intro x hx; cases hx), (by intro x hx; cases hx), (by intro x hx; cases hx), by simp [none12, noOx]⟩
theorem strip_in {w : World} {g : Ent12} (h : ActIn w g) : ActIn w (strip12 g) := by
  unfold strip12
  split
  · exact ⟨h.t, h.a, h.b, by simp [noOx], by simp [noOx], zero_in, by simp [noOx], by simp [noOx], h.ld, Ints.nil _ _ _, Ints.nil _ _ _, h.id, (by intro x hx; cases hx), (by intro x hx; cases hx), h.od, by simp [noOx]⟩
  · split
    · exact ⟨h.t, zero_in, h.b, h.c, h.f, h.x, h.lv, h.lm, (by simp), h.iv, h.im, Ints.nil _ _ _, h.ov, h.om, (by intro x hx; cases hx), h.cm⟩
    · split
      · exact ⟨h.t, zero_in, zero_in, h.c, h.f, h.x, h.lv, h.lm, h.ld, h.iv, h.im, h.id, h.ov, h.om, h.od, h.cm⟩
      · split
        · exact ⟨h.t, zero_in, h.b, h.c, h.f, h.x, h.lv, h.lm, h.ld, h.iv, h.im, h.id, h.ov, h.om, h.od, h.cm⟩
        · exact h

set_option maxRecDepth 100000 in
set_option maxHeartbeats 2000000 in
theorem isBare_set (g : Ent12) (w : World) (hi : ActIn w g) (hT : g.T = 25) :
    Calls Tryz.prog 52 #[g.val] w fun e w' => e = .returned (.bool (bare12 g)) ∧ Below w.heap.size w w' := by
  have SM := hid (fun (W : World) (hW : Below w.heap.size w W) => actSame_any (strip12 g) (none12 g.T) W ((strip_in hi).below hW) ((none_in hi).below hW))
  clear hi
  obtain ⟨r, hr⟩ : ∃ r, bare12 g = r := ⟨_, rfl⟩
  rw [show same12 (strip12 g).act (none12 g.T).act = r from hr] at SM
  rw [hr]
  clear hr
  obtain ⟨T, A, B, ⟨C, F, H, X, v, m⟩, va, vc, ma, mc, d, da, dc⟩ := g
  simp only at *
  subst hT
  unfold Ent12.val
  simp only
  obtain ⟨W, hW, hbW, hx⟩ := act_box w 25 A B 0 0 false 0 none 0 0 none 0 0 da d.length dc
  have HW := hid hW
  have HB := hid hbW
  clear hW hbW
  go_enter Tryz.func52, Tryz.ntmps52
  go_wp2_with fail
  rw [HW.out]
  refine (SM.out _ HB.out).mono ?_
  rintro e w1 ⟨rfl, hb⟩
  go_wp2_with fail
  go_ret
  exact ⟨rfl, below_on HB.out hb⟩

set_option maxRecDepth 100000 in
set_option maxHeartbeats 2000000 in
theorem isBare_exp (g : Ent12) (w : World) (hi : ActIn w g) (hT : g.T = 65535) :
    Calls Tryz.prog 52 #[g.val] w fun e w' => e = .returned (.bool (bare12 g)) ∧ Below w.heap.size w w' := by
  have SM := hid (fun (W : World) (hW : Below w.heap.size w W) => actSame_any (strip12 g) (none12 g.T) W ((strip_in hi).below hW) ((none_in hi).below hW))
  clear hi
  obtain ⟨r, hr⟩ : ∃ r, bare12 g = r := ⟨_, rfl⟩
  rw [show same12 (strip12 g).act (none12 g.T).act = r from hr] at SM
  rw [hr]
  clear hr
  obtain ⟨T, A, B, ⟨C, F, H, X, v, m⟩, va, vc, ma, mc, d, da, dc⟩ := g
  simp only at *
  subst hT
  unfold Ent12.val
  simp only
  obtain ⟨W, hW, hbW, hx⟩ := act_box w 65535 0 B C F H X va v.length vc ma m.length mc none 0 0
  have HW := hid hW
  have HB := hid hbW
  clear hW hbW
  go_enter Tryz.func52, Tryz.ntmps52
  go_wp2_with fail
  rw [HW.out]
  refine (SM.out _ HB.out).mono ?_
  rintro e w1 ⟨rfl, hb⟩
  go_wp2_with fail
  go_ret
  exact ⟨rfl, below_on HB.out hb⟩

set_option maxRecDepth 100000 in
set_option maxHeartbeats 2000000 in
theorem isBare_out (g : Ent12) (w : World) (hi : ActIn w g) (hT : g.T = 0) :
    Calls Tryz.prog 52 #[g.val] w fun e w' => e = .returned (.bool (bare12 g)) ∧ Below w.heap.size w w' := by
  have SM := hid (fun (W : World) (hW : Below w.heap.size w W) => actSame_any (strip12 g) (none12 g.T) W ((strip_in hi).below hW) ((none_in hi).below hW))
  clear hi
  obtain ⟨r, hr⟩ : ∃ r, bare12 g = r := ⟨_, rfl⟩
  rw [show same12 (strip12 g).act (none12 g.T).act = r from hr] at SM
  rw [hr]
  clear hr
  obtain ⟨T, A, B, ⟨C, F, H, X, v, m⟩, va, vc, ma, mc, d, da, dc⟩ := g
  simp only at *
  subst hT
  unfold Ent12.val
  simp only
  obtain ⟨W, hW, hbW, hx⟩ := act_box w 0 0 0 C F H X va v.length vc ma m.length mc da d.length dc
  have HW := hid hW
  have HB := hid hbW
  clear hW hbW
  go_enter Tryz.func52, Tryz.ntmps52
  go_wp2_with fail
  rw [HW.out]
  refine (SM.out _ HB.out).mono ?_
  rintro e w1 ⟨rfl, hb⟩
  go_wp2_with fail
  go_ret
  exact ⟨rfl, below_on HB.out hb⟩

set_option maxRecDepth 100000 in
set_option maxHeartbeats 2000000 in
theorem isBare_num22 (g : Ent12) (w : World) (hi : ActIn w g) (hT : g.T = 22) :
    Calls Tryz.prog 52 #[g.val] w fun e w' => e = .returned (.bool (bare12 g)) ∧ Below w.heap.size w w' := by
  have SM := hid (fun (W : World) (hW : Below w.heap.size w W) => actSame_any (strip12 g) (none12 g.T) W ((strip_in hi).below hW) ((none_in hi).below hW))
  clear hi
  obtain ⟨r, hr⟩ : ∃ r, bare12 g = r := ⟨_, rfl⟩
  rw [show same12 (strip12 g).act (none12 g.T).act = r from hr] at SM
  rw [hr]
  clear hr
  obtain ⟨T, A, B, ⟨C, F, H, X, v, m⟩, va, vc, ma, mc, d, da, dc⟩ := g
  simp only at *
  subst hT
  unfold Ent12.val
  simp only
  obtain ⟨W, hW, hbW, hx⟩ := act_box w 22 0 B C F H X va v.length vc ma m.length mc da d.length dc
  have HW := hid hW
  have HB := hid hbW
  clear hW hbW
  go_enter Tryz.func52, Tryz.ntmps52
  go_wp2_with fail
  rw [HW.out]
  refine (SM.out _ HB.out).mono ?_
  rintro e w1 ⟨rfl, hb⟩
  go_wp2_with fail
  go_ret
  exact ⟨rfl, below_on HB.out hb⟩

set_option maxRecDepth 100000 in
set_option maxHeartbeats 2000000 in
theorem isBare_num21 (g : Ent12) (w : World) (hi : ActIn w g) (hT : g.T = 21) :
    Calls Tryz.prog 52 #[g.val] w fun e w' => e = .returned (.bool (bare12 g)) ∧ Below w.heap.size w w' := by
  have SM := hid (fun (W : World) (hW : Below w.heap.size w W) => actSame_any (strip12 g) (none12 g.T) W ((strip_in hi).below hW) ((none_in hi).below hW))
  clear hi
  obtain ⟨r, hr⟩ : ∃ r, bare12 g = r := ⟨_, rfl⟩
  rw [show same12 (strip12 g).act (none12 g.T).act = r from hr] at SM
  rw [hr]
  clear hr
  obtain ⟨T, A, B, ⟨C, F, H, X, v, m⟩, va, vc, ma, mc, d, da, dc⟩ := g
  simp only at *
  subst hT
  unfold Ent12.val
  simp only
  obtain ⟨W, hW, hbW, hx⟩ := act_box w 21 0 B C F H X va v.length vc ma m.length mc da d.length dc
  have HW := hid hW
  have HB := hid hbW
  clear hW hbW
  go_enter Tryz.func52, Tryz.ntmps52
  go_wp2_with fail
  rw [HW.out]
  refine (SM.out _ HB.out).mono ?_
  rintro e w1 ⟨rfl, hb⟩
  go_wp2_with fail
  go_ret
  exact ⟨rfl, below_on HB.out hb⟩

set_option maxRecDepth 100000 in
set_option maxHeartbeats 2000000 in
theorem isBare_num15 (g : Ent12) (w : World) (hi : ActIn w g) (hT : g.T = 15) :
    Calls Tryz.prog 52 #[g.val] w fun e w' => e = .returned (.bool (bare12 g)) ∧ Below w.heap.size w w' := by
  have SM := hid (fun (W : World) (hW : Below w.heap.size w W) => actSame_any (strip12 g) (none12 g.T) W ((strip_in hi).below hW) ((none_in hi).below hW))
  clear hi
  obtain ⟨r, hr⟩ : ∃ r, bare12 g = r := ⟨_, rfl⟩
  rw [show same12 (strip12 g).act (none12 g.T).act = r from hr] at SM
  rw [hr]
  clear hr
  obtain ⟨T, A, B, ⟨C, F, H, X, v, m⟩, va, vc, ma, mc, d, da, dc⟩ := g
  simp only at *
  subst hT
  unfold Ent12.val
  simp only
  obtain ⟨W, hW, hbW, hx⟩ := act_box w 15 0 B C F H X va v.length vc ma m.length mc da d.length dc
  have HW := hid hW
  have HB := hid hbW
  clear hW hbW
  go_enter Tryz.func52, Tryz.ntmps52
  go_wp2_with fail
  rw [HW.out]
  refine (SM.out _ HB.out).mono ?_
  rintro e w1 ⟨rfl, hb⟩
  go_wp2_with fail
  go_ret
  exact ⟨rfl, below_on HB.out hb⟩

set_option maxRecDepth 100000 in
set_option maxHeartbeats 2000000 in
theorem isBare_num23 (g : Ent12) (w : World) (hi : ActIn w g) (hT : g.T = 23) :
    Calls Tryz.prog 52 #[g.val] w fun e w' => e = .returned (.bool (bare12 g)) ∧ Below w.heap.size w w' := by
  have SM := hid (fun (W : World) (hW : Below w.heap.size w W) => actSame_any (strip12 g) (none12 g.T) W ((strip_in hi).below hW) ((none_in hi).below hW))
  clear hi
  obtain ⟨r, hr⟩ : ∃ r, bare12 g = r := ⟨_, rfl⟩
  rw [show same12 (strip12 g).act (none12 g.T).act = r from hr] at SM
  rw [hr]
  clear hr
  obtain ⟨T, A, B, ⟨C, F, H, X, v, m⟩, va, vc, ma, mc, d, da, dc⟩ := g
  simp only at *
  subst hT
  unfold Ent12.val
  simp only
  obtain ⟨W, hW, hbW, hx⟩ := act_box w 23 0 B C F H X va v.length vc ma m.length mc da d.length dc
  have HW := hid hW
  have HB := hid hbW
  clear hW hbW
  go_enter Tryz.func52, Tryz.ntmps52
  go_wp2_with fail
  rw [HW.out]
  refine (SM.out _ HB.out).mono ?_
  rintro e w1 ⟨rfl, hb⟩
  go_wp2_with fail
  go_ret
  exact ⟨rfl, below_on HB.out hb⟩

set_option maxRecDepth 100000 in
set_option maxHeartbeats 2000000 in
theorem isBare_num17 (g : Ent12) (w : World) (hi : ActIn w g) (hT : g.T = 17) :
    Calls Tryz.prog 52 #[g.val] w fun e w' => e = .returned (.bool (bare12 g)) ∧ Below w.heap.size w w' := by
  have SM := hid (fun (W : World) (hW : Below w.heap.size w W) => actSame_any (strip12 g) (none12 g.T) W ((strip_in hi).below hW) ((none_in hi).below hW))
  clear hi
  obtain ⟨r, hr⟩ : ∃ r, bare12 g = r := ⟨_, rfl⟩
  rw [show same12 (strip12 g).act (none12 g.T).act = r from hr] at SM
  rw [hr]
  clear hr
  obtain ⟨T, A, B, ⟨C, F, H, X, v, m⟩, va, vc, ma, mc, d, da, dc⟩ := g
  simp only at *
  subst hT
  unfold Ent12.val
  simp only
  obtain ⟨W, hW, hbW, hx⟩ := act_box w 17 0 B C F H X va v.length vc ma m.length mc da d.length dc
  have HW := hid hW
  have HB := hid hbW
  clear hW hbW
  go_enter Tryz.func52, Tryz.ntmps52
  go_wp2_with fail
  rw [HW.out]
  refine (SM.out _ HB.out).mono ?_
  rintro e w1 ⟨rfl, hb⟩
  go_wp2_with fail
  go_ret
  exact ⟨rfl, below_on HB.out hb⟩

set_option maxRecDepth 100000 in
set_option maxHeartbeats 2000000 in
theorem isBare_num19 (g : Ent12) (w : World) (hi : ActIn w g) (hT : g.T = 19) :
    Calls Tryz.prog 52 #[g.val] w fun e w' => e = .returned (.bool (bare12 g)) ∧ Below w.heap.size w w' := by
  have SM := hid (fun (W : World) (hW : Below w.heap.size w W) => actSame_any (strip12 g) (none12 g.T) W ((strip_in hi).below hW) ((none_in hi).below hW))
  clear hi
  obtain ⟨r, hr⟩ : ∃ r, bare12 g = r := ⟨_, rfl⟩
  rw [show same12 (strip12 g).act (none12 g.T).act = r from hr] at SM
  rw [hr]
  clear hr
  obtain ⟨T, A, B, ⟨C, F, H, X, v, m⟩, va, vc, ma, mc, d, da, dc⟩ := g
  simp only at *
  subst hT
  unfold Ent12.val
  simp only
  obtain ⟨W, hW, hbW, hx⟩ := act_box w 19 0 B C F H X va v.length vc ma m.length mc da d.length dc
  have HW := hid hW
  have HB := hid hbW
  clear hW hbW
  go_enter Tryz.func52, Tryz.ntmps52
  go_wp2_with fail
  rw [HW.out]
  refine (SM.out _ HB.out).mono ?_
  rintro e w1 ⟨rfl, hb⟩
  go_wp2_with fail
  go_ret
  exact ⟨rfl, below_on HB.out hb⟩

set_option maxRecDepth 100000 in
set_option maxHeartbeats 2000000 in
theorem isBare_num26 (g : Ent12) (w : World) (hi : ActIn w g) (hT : g.T = 26) :
    Calls Tryz.prog 52 #[g.val] w fun e w' => e = .returned (.bool (bare12 g)) ∧ Below w.heap.size w w' := by
  have SM := hid (fun (W : World) (hW : Below w.heap.size w W) => actSame_any (strip12 g) (none12 g.T) W ((strip_in hi).below hW) ((none_in hi).below hW))
  clear hi
  obtain ⟨r, hr⟩ : ∃ r, bare12 g = r := ⟨_, rfl⟩
  rw [show same12 (strip12 g).act (none12 g.T).act = r from hr] at SM
  rw [hr]
  clear hr
  obtain ⟨T, A, B, ⟨C, F, H, X, v, m⟩, va, vc, ma, mc, d, da, dc⟩ := g
  simp only at *
  subst hT
  unfold Ent12.val
  simp only
  obtain ⟨W, hW, hbW, hx⟩ := act_box w 26 0 B C F H X va v.length vc ma m.length mc da d.length dc
  have HW := hid hW
  have HB := hid hbW
  clear hW hbW
  go_enter Tryz.func52, Tryz.ntmps52
  go_wp2_with fail
  rw [HW.out]
  refine (SM.out _ HB.out).mono ?_
  rintro e w1 ⟨rfl, hb⟩
  go_wp2_with fail
  go_ret
  exact ⟨rfl, below_on HB.out hb⟩

set_option maxRecDepth 100000 in
set_option maxHeartbeats 2000000 in
theorem isBare_num20 (g : Ent12) (w : World) (hi : ActIn w g) (hT : g.T = 20) :
    Calls Tryz.prog 52 #[g.val] w fun e w' => e = .returned (.bool (bare12 g)) ∧ Below w.heap.size w w' := by
  have SM := hid (fun (W : World) (hW : Below w.heap.size w W) => actSame_any (strip12 g) (none12 g.T) W ((strip_in hi).below hW) ((none_in hi).below hW))
  clear hi
  obtain ⟨r, hr⟩ : ∃ r, bare12 g = r := ⟨_, rfl⟩
  rw [show same12 (strip12 g).act (none12 g.T).act = r from hr] at SM
  rw [hr]
  clear hr
  obtain ⟨T, A, B, ⟨C, F, H, X, v, m⟩, va, vc, ma, mc, d, da, dc⟩ := g
  simp only at *
  subst hT
  unfold Ent12.val
  simp only
  obtain ⟨W, hW, hbW, hx⟩ := act_box w 20 0 B C F H X va v.length vc ma m.length mc da d.length dc
  have HW := hid hW
  have HB := hid hbW
  clear hW hbW
  go_enter Tryz.func52, Tryz.ntmps52
  go_wp2_with fail
  rw [HW.out]
  refine (SM.out _ HB.out).mono ?_
  rintro e w1 ⟨rfl, hb⟩
  go_wp2_with fail
  go_ret
  exact ⟨rfl, below_on HB.out hb⟩

set_option maxRecDepth 100000 in
set_option maxHeartbeats 2000000 in
theorem isBare_else (g : Ent12) (w : World) (hi : ActIn w g) (hT : g.T ≠ 25 ∧ g.T ≠ 65535 ∧ g.T ≠ 0 ∧ g.T ≠ 22 ∧ g.T ≠ 21 ∧ g.T ≠ 15 ∧ g.T ≠ 23 ∧ g.T ≠ 17 ∧ g.T ≠ 19 ∧ g.T ≠ 26 ∧ g.T ≠ 20) :
    Calls Tryz.prog 52 #[g.val] w fun e w' => e = .returned (.bool (bare12 g)) ∧ Below w.heap.size w w' := by
  have SM := hid (fun (W : World) (hW : Below w.heap.size w W) => actSame_any (strip12 g) (none12 g.T) W ((strip_in hi).below hW) ((none_in hi).below hW))
  clear hi
  obtain ⟨r, hr⟩ : ∃ r, bare12 g = r := ⟨_, rfl⟩
  rw [show same12 (strip12 g).act (none12 g.T).act = r from hr] at SM
  rw [hr]
  clear hr
  obtain ⟨T, A, B, ⟨C, F, H, X, v, m⟩, va, vc, ma, mc, d, da, dc⟩ := g
  simp only at *
  have es : strip12 ⟨T, A, B, ⟨C, F, H, X, v, m⟩, va, vc, ma, mc, d, da, dc⟩ = ⟨T, A, B, ⟨C, F, H, X, v, m⟩, va, vc, ma, mc, d, da, dc⟩ := by simp [strip12, hT]
  rw [es] at SM
  have c0 : (T == 25) = false := by simp [hT]
  have c1 : (T == 65535) = false := by simp [hT]
  have c2 : (T == 0) = false := by simp [hT]
  have c3 : (T == 22) = false := by simp [hT]
  have c4 : (T == 21) = false := by simp [hT]
  have c5 : (T == 15) = false := by simp [hT]
  have c6 : (T == 23) = false := by simp [hT]
  have c7 : (T == 17) = false := by simp [hT]
  have c8 : (T == 19) = false := by simp [hT]
  have c9 : (T == 26) = false := by simp [hT]
  have c10 : (T == 20) = false := by simp [hT]
  clear hT es
  unfold Ent12.val
  simp only
  obtain ⟨W, hW, hbW, hx⟩ := act_box w T A B C F H X va v.length vc ma m.length mc da d.length dc
  have HW := hid hW
  have HB := hid hbW
  clear hW hbW
  go_enter Tryz.func52, Tryz.ntmps52
  go_wp2_with fail
  rw [HW.out]
  refine (SM.out _ HB.out).mono ?_
  rintro e w1 ⟨rfl, hb⟩
  go_wp2_with fail
  go_ret
  exact ⟨rfl, below_on HB.out hb⟩

theorem isBare_any (g : Ent12) (w : World) (hi : ActIn w g) :
    Calls Tryz.prog 52 #[g.val] w fun e w' => e = .returned (.bool (bare12 g)) ∧ Below w.heap.size w w' := by
  rcases (show g.T = 25 ∨ g.T = 65535 ∨ g.T = 0 ∨ g.T = 22 ∨ g.T = 21 ∨ g.T = 15 ∨ g.T = 23 ∨ g.T = 17 ∨ g.T = 19 ∨ g.T = 26 ∨ g.T = 20 ∨ (g.T ≠ 25 ∧ g.T ≠ 65535 ∧ g.T ≠ 0 ∧ g.T ≠ 22 ∧ g.T ≠ 21 ∧ g.T ≠ 15 ∧ g.T ≠ 23 ∧ g.T ≠ 17 ∧ g.T ≠ 19 ∧ g.T ≠ 26 ∧ g.T ≠ 20) by omega) with h | h | h | h | h | h | h | h | h | h | h | h
  · exact isBare_set g w hi h
  · exact isBare_exp g w hi h
  · exact isBare_out g w hi h
  · exact isBare_num22 g w hi h
  · exact isBare_num21 g w hi h
  · exact isBare_num15 g w hi h
  · exact isBare_num23 g w hi h
  · exact isBare_num17 g w hi h
  · exact isBare_num19 g w hi h
  · exact isBare_num26 g w hi h
  · exact isBare_num20 g w hi h
  · exact isBare_else g w hi h
end Go.Proofs.YtdjlbejhphbcoaaGreat
namespace Go.Proofs.YtdjlbejhphbcoaaGreat
open Go.RowKit
set_option linter.unusedVariables false

theorem count_le12 (t : Int) : countL (rowP t) ≤ 2 ∧ countW (rowP t) = countL (rowP t) ∧ sizeW (rowP t) = sizeL (rowP t) ∧ sizeL (rowP t) ≤ 12 ∧ (rowP t).length ≤ 3 ∧ rightW (rowP t) = true := by
  unfold rowP
  cases h : row12 t with
  | none => decide
  | some w =>
    rcases row_ways h with ⟨_, rfl⟩ | ⟨_, rfl⟩ | ⟨_, rfl⟩ | ⟨_, rfl⟩ | ⟨_, rfl⟩ <;> decide
set_option maxRecDepth 100000 in
set_option maxHeartbeats 2000000 in
theorem numbers_at (T A B C F : Int) (H : Bool) (X : Int) (va : Option Addr) (vl vc : Nat) (ma : Option Addr) (ml mc : Nat) (da : Option Addr) (dl dc : Nat) (l : List Int) (a : Option Addr) (c : Nat) (k : Nat) (hk : countW l = k) (hk2 : k ≤ 2) (hl : l.length ≤ 64) (w : World) (hI : Ints .i64 w a l) :
    Calls Tryz.prog 46 #[.agg #[.int .i64 T, .int .u64 A, .int .u64 B, .int .i64 C, .int .i64 F, .bool H, .int .u64 X, .slice va vl vc, .slice ma ml mc, .slice da dl dc], .slice a l.length c] w fun e w' => ∃ b, e = .returned (.slice b k 2) ∧ Ints .u64 w' b ([A, B].take k) ∧ Below w.heap.size w w' := by
  obtain ⟨W, hW, hbW, hx⟩ := act_box w T A B C F H X va vl vc ma ml mc da dl dc
  have HW := hid hW
  have HB := hid hbW
  have CO := hid (fun (V : World) (hV : Below W.heap.size W V) => count_any l a c V (by omega) ((hI.below HB.out).below hV))
  rw [hk] at CO
  have hk0 : (0 : Int) ≤ k := by omega
  have hk3 : (k : Int) ≤ 2 := by omega
  clear hW hbW hI hk
  obtain ⟨d0, d1, d2, d3, d4, d5, d6, d7, d8, d9⟩ := (hx.below (below_drew8 W)).ten
  go_enter Tryz.func46, Tryz.ntmps46
  go_wp2_with fail
  rw [HW.out]
  go_region_with (first
    | (go_at_call 78; refine (CO.out _ ?_).mono ?_; (first | exact below_drew8 W | exact below_on (below_drew8 W) (below_alloc _ _) | fail); rintro e w5 ⟨rfl, rfl⟩)
    | fail)
  all_goals
    go_wp2_with fail
    go_ret
    exact ⟨_, rfl, (ints_lit .u64 _ [A, B] 22).take k, below_on HB.out (below_on (below_drew8 W) (below_alloc _ _))⟩

/-- up to a multiple of 8 -/
def up12 (n : Nat) : Nat := (n + 7) / 8 * 8
/-- its length, if it may be but for that -/
def size12 (g : Act12) : Nat := up12 (4 + sizeL (rowP g.T) + size8 g.o.C g.o.F g.o.H g.o.X g.o.v g.o.m + g.d.length)
theorem size8_le (C F : Int) (H : Bool) (X : Int) (v m : List Int) : size8 C F H X v m ≤ 212 := by
  unfold size8
  cases h : rightB C F H X v m
  · simp
  · rw [if_pos rfl]
    have ft := right_facts h
    have := ft.most
    omega
set_option maxRecDepth 100000 in
set_option maxHeartbeats 2000000 in
theorem actSize_any (g : Ent12) (w : World) (hi : ActIn w g) :
    Calls Tryz.prog 45 #[g.val] w fun e w' => e = .returned (.int .i64 (size12 g.act)) ∧ Below w.heap.size w w' := by
  obtain ⟨W, hW, hbW, hx⟩ := act_box w g.T g.A g.B g.o.C g.o.F g.o.H g.o.X g.va g.o.v.length g.vc g.ma g.o.m.length g.mc g.da g.d.length g.dc
  have HW := hid hW
  have HB := hid hbW
  obtain ⟨k1, k2, k3, k4, k5, k6⟩ := count_le12 g.T
  have RO := hid (rowOf_any g.T W)
  have SO := hid (fun (V : World) (hV : Below w.heap.size w V) => size8_any g.o.C g.o.F g.o.H g.o.X g.va g.vc g.ma g.mc g.o.v g.o.m hi.lv hi.lm hi.cm hi.ov hi.om V (hi.iv.below hV) (hi.im.below hV))
  have sl := size8_le g.o.C g.o.F g.o.H g.o.X g.o.v g.o.m
  have ld := hi.ld
  clear hi hW hbW
  have hq : size12 g.act = up12 (4 + sizeL (rowP g.T) + size8 g.o.C g.o.F g.o.H g.o.X g.o.v g.o.m + g.d.length) := rfl
  rw [hq]
  clear hq
  obtain ⟨T, A, B, ⟨C, F, H, X, v, m⟩, va, vc, ma, mc, d, da, dc⟩ := g
  simp only at *
  obtain ⟨n2, h2⟩ : ∃ n, size8 C F H X v m = n := ⟨_, rfl⟩
  rw [h2] at SO sl ⊢
  obtain ⟨l, hl⟩ : ∃ l, rowP T = l := ⟨_, rfl⟩
  obtain ⟨rb, hrb⟩ : ∃ b, rowB T = b := ⟨_, rfl⟩
  rw [hl] at RO k1 k2 k3 k4 k5 k6 ⊢
  rw [hrb] at RO
  obtain ⟨n1, h1⟩ : ∃ n, sizeL l = n := ⟨_, rfl⟩
  rw [h1] at k3 k4 ⊢
  have K3 := hid k3
  obtain ⟨q, hq⟩ : ∃ q, (4 + n1 + n2 + d.length + 7) / 8 = q := ⟨_, rfl⟩
  have hup : up12 (4 + n1 + n2 + d.length) = q * 8 := by unfold up12; rw [hq]
  rw [hup]
  have hqq : ((4 : Int) + n1 + n2 + d.length + 8 - 1) / 8 = (q : Int) := by omega
  have hq3 : (q : Int) ≤ 20000 := by omega
  have HQ := hid hqq
  have hq0 : (0 : Int) ≤ q := by omega
  clear h2 hl hrb h1 hq hup k1 k2 k3 k6 hqq
  unfold Ent12.val
  simp only
  obtain ⟨d0, d1, d2, d3, d4, d5, d6, d7, d8, d9⟩ := hx.ten
  go_enter Tryz.func45, Tryz.ntmps45
  go_wp2_with fail
  rw [HW.out]
  go_wp2_with fail
  refine RO.out.mono ?_
  rintro e w1 ⟨a, rfl, hI, hb⟩
  have HB1 := hid (below_on HB.out hb)
  have SZ := hid (fun (n : Wk w1) => size_any l a l.length n.val (by omega) (hI.below n.bel))
  rw [K3.out] at SZ
  clear d0 d1 d2 d3 d4 d5 d6 d7 d8 d9 hI
  obtain ⟨d0, d1, d2, d3, d4, d5, d6, d7, d8, d9⟩ := (hx.below hb).ten
  have c3 := Wk.cell d3
  have c4 := Wk.cell d4
  have c5 := Wk.cell d5
  have c6 := Wk.cell d6
  have c7 := Wk.cell d7
  have c8 := Wk.cell d8
  have c9 := Wk.cell d9
  clear d0 d1 d2 d3 d4 d5 d6 d7 d8 d9 hb
  go_upto_region 2 with fail
  refine wp_region_wk (by kernel_rfl) (by kernel_rfl) ?_
  repeat (go_big_quiet_step (first
    | (go_at_call 76; exact Wk.same (SZ.out _))
    | (go_at_call 77; exact Wk.call (SO.out _ (below_on HB1.out (Wk.bel _))))))
  refine wpQuiet_nil ?_
  rintro w4 ⟨⟨_, hb4⟩, rfl⟩
  go_wp2_with fail
  go_ret
  exact ⟨ret_int (by have := HQ.out; omega), below_on HB1.out hb4⟩
end Go.Proofs.YtdjlbejhphbcoaaGreat
namespace Go.Proofs.YtdjlbejhphbcoaaGreat
open Go.RowKit
set_option linter.unusedVariables false

/-- the action that a thing is -/
def read12 (t : Int) (x : List Int) : Except Int Act12 :=
  if t = 25 then
    match set12 x with
    | .error q => .error q
    | .ok o => .ok ⟨25, 0, 0, o, []⟩
  else match row12 t with
    | none => .error 513
    | some w =>
      if t ≠ 65535 ∧ x.length ≠ sizeL w then .error 514
      else match getW w x with
        | .error _ => .error 518
        | .ok l => if asked12 t (l.getD 0 0) ≠ 0 then .error (asked12 t (l.getD 0 0)) else .ok ⟨t, l.getD 0 0, l.getD 1 0, noOx, x.drop (sizeL w)⟩
theorem dec12_read (b : List Int) : dec12 b = match oneL 8 8 false 514 514 b with
    | .error q => .error q
    | .ok (t, x, n) => match read12 t x with
      | .error q => .error q
      | .ok a => .ok (a, n) := by
  unfold dec12 read12
  cases oneL 8 8 false 514 514 b with
  | error q => rfl
  | ok r =>
    obtain ⟨t, x, n⟩ := r
    simp only
    split
    · cases set12 x <;> rfl
    · cases row12 t with
      | none => rfl
      | some w =>
        simp only
        split
        · rfl
        · cases getW w x with
          | error q => rfl
          | ok l =>
            simp only
            split <;> rfl
theorem getL_err12 {ws : List Int} : ∀ {b : List Int} {q : Int}, getL ws b = .error q → sizeL ws ≤ b.length → q = 2 := by
  induction ws with
  | nil => intro b q h; simp [getL] at h
  | cons x ws ih =>
    intro b q h hs
    have e : sizeL (x :: ws) = x.natAbs + sizeL ws := by simp [sizeL]
    rw [e] at hs
    unfold getL at h
    rw [if_neg (by omega)] at h
    split at h
    · cases hg : getL ws (b.drop x.natAbs) with
      | error q2 =>
        rw [hg] at h
        have := ih hg (by rw [List.length_drop]; omega)
        simp [Except.map] at h
        omega
      | ok l => rw [hg] at h; simp [Except.map] at h
    · split at h
      · exact ih h (by rw [List.length_drop]; omega)
      · cases h; rfl
theorem getL_len12 {ws : List Int} : ∀ {b l : List Int}, getL ws b = .ok l → l.length ≤ ws.length ∧ sizeL ws ≤ b.length := by
  induction ws with
  | nil => intro b l h; simp [getL] at h; subst h; simp [sizeL]
  | cons x ws ih =>
    intro b l h
    have e : sizeL (x :: ws) = x.natAbs + sizeL ws := by simp [sizeL]
    rw [e]
    unfold getL at h
    split at h
    · simp at h
    · split at h
      · cases hg : getL ws (b.drop x.natAbs) with
        | error q2 => rw [hg] at h; simp [Except.map] at h
        | ok l2 =>
          rw [hg] at h
          simp [Except.map] at h
          have := ih hg
          rw [List.length_drop] at this
          subst h
          simp
          omega
      · split at h
        · have := ih h
          rw [List.length_drop] at this
          simp
          omega
        · simp at h
/-- what reading an action comes to -/
def ReadPost12 (R : Except Int Act12) (w : World) (e : Ending) (w' : World) : Prop :=
  (∃ q, R = .error q ∧ q ≠ 0 ∧ Bad12 q e ∧ Below w.heap.size w w') ∨
  (∃ g : Ent12, R = .ok g.act ∧ e = .returned (.tuple #[g.val, .int .i64 0]) ∧ Below w.heap.size w w' ∧ Ints .u8 w' g.va g.o.v ∧ Ints .u8 w' g.ma g.o.m ∧ Ints .u8 w' g.da g.d ∧ g.o.m.length ≤ g.mc ∧ New8 w g.va ∧ New8 w g.ma ∧ New8 w g.da)
theorem item_act (w : World) (t : Int) (a : Option Addr) (n c : Nat) : ∃ W, (w.alloc (.cells #[.int .i64 t, .slice a n c] 86)).alloc (.cells #[.int .i64 0, .int .u64 0, .int .u64 0, .int .i64 0, .int .i64 0, .bool false, .int .u64 0, .slice none 0 0, .slice none 0 0, .slice none 0 0] 27) = W ∧ Below w.heap.size w W ∧ BoxL W w.heap.size [.int .i64 t, .slice a n c] ∧
    BoxL W (w.heap.size + 1) [.int .i64 0, .int .u64 0, .int .u64 0, .int .i64 0, .int .i64 0, .bool false, .int .u64 0, .slice none 0 0, .slice none 0 0, .slice none 0 0] := by
  obtain ⟨W1, h1⟩ : ∃ W, w.alloc (.cells #[.int .i64 t, .slice a n c] 86) = W := ⟨_, rfl⟩
  have hx : BoxL W1 w.heap.size [.int .i64 t, .slice a n c] := by rw [← h1]; exact BoxL.new _ _ _
  have hb1 : Below w.heap.size w W1 := by rw [← h1]; exact below_alloc _ _
  obtain ⟨W2, h2, hb2, hy⟩ := act_box W1 0 0 0 0 0 false 0 none 0 0 none 0 0 none 0 0
  have e : W1.heap.size = w.heap.size + 1 := by rw [← h1]; simp
  rw [e] at hy
  exact ⟨W2, by rw [h1, h2], below_on hb1 hb2, hx.below hb2, hy⟩
theorem BoxL.two {w : World} {b : Nat} {v0 v1 : Value} (h : BoxL w b [v0, v1]) : w.cell? ⟨b, 0, none⟩ = some v0 ∧ w.cell? ⟨b, 1, none⟩ = some v1 := ⟨h.cell 0 _ rfl, h.cell 1 _ rfl⟩
set_option maxRecDepth 100000 in
set_option maxHeartbeats 2000000 in
theorem read12_none (t : Int) (x : List Int) (a : Option Addr) (c : Nat) (hbl : x.length ≤ 100000) (hbc : x.length ≤ c) (hc : c ≤ 9223372036854775807) (ho : Octets x) (h4 : 4 ≤ x.length) (w : World) (hI : Ints .u8 w a x) (hr : row12 t = none) (h25 : t ≠ 25) :
    Calls Tryz.prog 56 #[.agg #[.int .i64 t, .slice a x.length c]] w (ReadPost12 (read12 t x) w) := by
  obtain ⟨W, hW, hbW, hx, hy⟩ := item_act w t a x.length c
  have HW := hid hW
  have HB := hid hbW
  have RO := hid (rowOf_any t W)
  have HS : Hid (read12 t x = .error 513) := by show _ = _; unfold read12; rw [if_neg h25, hr]
  have e1 : rowP t = [] := by simp [rowP, hr]
  have e2 : rowB t = false := by simp [rowB, hr, h25]
  rw [e1, e2] at RO
  clear e1 e2 hr h25 hI ho
  obtain ⟨d0, d1⟩ := hx.two
  clear hW hbW
  go_enter Tryz.func56, Tryz.ntmps56
  go_wp2_with fail
  rw [HW.out]
  go_wp2_with fail
  refine RO.out.mono ?_
  rintro e w1 ⟨ra, rfl, hI1, hb1⟩
  have hyE := hy.below hb1
  have HBE := hid (below_on HB.out hb1)
  clear hb1 hI1
  have z := hyE.free
  obtain ⟨u0, u1, u2, u3, u4, u5, u6, u7, u8, u9⟩ :=  hyE.ten
  go_wp2_with fail
  have hkk := hyE.set10 (.int .i64 0) (.int .u64 0) (.int .u64 0) (.int .i64 0) (.int .i64 0) (.bool false) (.int .u64 0) (.slice none 0 0) (.slice none 0 0) (.slice none 0 0)
  obtain ⟨k0, k1, k2, k3, k4, k5, k6, k7, k8, k9⟩ := hkk.ten
  refine bodyPost_ret (v := .tuple #[zero12, .int .i64 513]) (by simp [results, Tryz.results56, go_sem, zero12, k0, k1, k2, k3, k4, k5, k6, k7, k8, k9]) rfl (.inl ⟨513, HS.out, by decide, bad12, ?_⟩)
  repeat (with_reducible refine Below.setCell ?_ (by simp) _)
  exact HBE.out
set_option maxRecDepth 100000 in
set_option maxHeartbeats 2000000 in
theorem read12_set (t : Int) (x : List Int) (a : Option Addr) (c : Nat) (hbl : x.length ≤ 100000) (hbc : x.length ≤ c) (hc : c ≤ 9223372036854775807) (ho : Octets x) (h4 : 4 ≤ x.length) (w : World) (hI : Ints .u8 w a x) (h25 : t = 25) :
    Calls Tryz.prog 56 #[.agg #[.int .i64 t, .slice a x.length c]] w (ReadPost12 (read12 t x) w) := by
  subst h25
  obtain ⟨W, hW, hbW, hx, hy⟩ := item_act w 25 a x.length c
  have HW := hid hW
  have HB := hid hbW
  have RO := hid (rowOf_any 25 W)
  have e1 : rowP 25 = [] := by decide
  have e2 : rowB 25 = true := by decide
  rw [e1, e2] at RO
  have RS := hid (fun (V : World) (hV : Below w.heap.size w V) => readSet_any x a c hbl hbc hc ho V (hI.below hV))
  clear e1 e2 hI ho
  obtain ⟨d0, d1⟩ := hx.two
  clear hW hbW
  go_enter Tryz.func56, Tryz.ntmps56
  go_wp2_with fail
  rw [HW.out]
  go_wp2_with fail
  refine RO.out.mono ?_
  rintro e w1 ⟨ra, rfl, hI1, hb1⟩
  have hy1 := hy.below hb1
  have HB1 := hid (below_on HB.out hb1)
  obtain ⟨e0, e1⟩ := (hx.below hb1).two
  clear hb1 hI1 d0 d1
  go_wp2_with fail
  refine (RS.out _ HB1.out).mono ?_
  rintro e w2 (⟨q, hq, hq0, ⟨T', A', B', C', F', H', X', va', vl', vc', ma', ml', mc', da', dl', dc', rfl⟩, hb2⟩ | ⟨o, a1, k1, a2, k2, hq, rfl, hb2, i1, i2, hmc, hn1, hn2⟩)
  · have HS : Hid (read12 25 x = .error q) := by show _ = _; unfold read12; rw [if_pos rfl, hq]
    have hyE := hy1.below hb2
    have HBE := hid (below_on HB1.out hb2)
    have HQ0 := hid hq0
    clear hb2 hq hq0 e0 e1
    have z := hyE.free
    obtain ⟨u0, u1, u2, u3, u4, u5, u6, u7, u8, u9⟩ := hyE.ten
    go_wp2_with fail
    have hkk := hyE.set10 (.int .i64 T') (.int .u64 A') (.int .u64 B') (.int .i64 C') (.int .i64 F') (.bool H') (.int .u64 X') (.slice va' vl' vc') (.slice ma' ml' mc') (.slice da' dl' dc')
    obtain ⟨k0, k1, k2, k3, k4, k5, k6, k7, k8, k9⟩ := hkk.ten
    refine bodyPost_ret (v := .tuple #[.agg #[.int .i64 T', .int .u64 A', .int .u64 B', .int .i64 C', .int .i64 F', .bool H', .int .u64 X', .slice va' vl' vc', .slice ma' ml' mc', .slice da' dl' dc'], .int .i64 q]) (by simp [results, Tryz.results56, go_sem, k0, k1, k2, k3, k4, k5, k6, k7, k8, k9]) rfl (.inl ⟨q, HS.out, HQ0.out, bad12, ?_⟩)
    repeat (with_reducible refine Below.setCell ?_ (by simp) _)
    exact HBE.out
  · obtain ⟨C, F, H, X, v, m⟩ := o
    simp only at i1 i2 hmc
    have HS : Hid (read12 25 x = .ok (Ent12.act ⟨25, 0, 0, ⟨C, F, H, X, v, m⟩, a1, k1, a2, k2, [], none, 0⟩)) := by show _ = _; unfold read12; rw [if_pos rfl, hq]; rfl
    have hyE := hy1.below hb2
    have HBE := hid (below_on HB1.out hb2)
    have I1 := hid i1
    have I2 := hid i2
    have HMC := hid hmc
    have hs1 := HB1.out.size
    have hyl := hy1.lt
    have HN1 : Hid (New8 w a1) := fun q hq => by have := hn1 q hq; omega
    have HN2 : Hid (New8 w a2) := fun q hq => by have := hn2 q hq; omega
    have HN1' : Hid (∀ q : Addr, a1 = some q → q.block ≠ w.heap.size + 1) := fun q hq => by have := hn1 q hq; omega
    have HN2' : Hid (∀ q : Addr, a2 = some q → q.block ≠ w.heap.size + 1) := fun q hq => by have := hn2 q hq; omega
    clear hb2 hq e0 e1 i1 i2 hmc hn1 hn2
    have z := hyE.free
    obtain ⟨u0, u1, u2, u3, u4, u5, u6, u7, u8, u9⟩ := hyE.ten
    go_wp2_with fail
    have hkk := hyE.set10 (.int .i64 25) (.int .u64 0) (.int .u64 0) (.int .i64 C) (.int .i64 F) (.bool H) (.int .u64 X) (.slice a1 v.length k1) (.slice a2 m.length k2) (.slice none 0 0)
    obtain ⟨k0, k1', k2', k3, k4, k5, k6, k7, k8, k9⟩ := hkk.ten
    refine bodyPost_ret (v := .tuple #[.agg #[.int .i64 25, .int .u64 0, .int .u64 0, .int .i64 C, .int .i64 F, .bool H, .int .u64 X, .slice a1 v.length k1, .slice a2 m.length k2, .slice none 0 0], .int .i64 0]) (by simp [results, Tryz.results56, go_sem, k0, k1', k2', k3, k4, k5, k6, k7, k8, k9]) rfl (.inr ⟨⟨25, 0, 0, ⟨C, F, H, X, v, m⟩, a1, k1, a2, k2, [], none, 0⟩, HS.out, rfl, ?_, ?_, ?_, Ints.nil _ _ _, HMC.out, HN1.out, HN2.out, fun q hq => by cases hq⟩)
    · repeat (with_reducible refine Below.setCell ?_ (by simp) _)
      exact HBE.out
    · repeat (refine Ints.apart ?_ _ HN1'.out)
      exact I1.out
    · repeat (refine Ints.apart ?_ _ HN2'.out)
      exact I2.out
set_option maxRecDepth 100000 in
set_option maxHeartbeats 2000000 in
theorem read12_size (t : Int) (x : List Int) (a : Option Addr) (c : Nat) (hbl : x.length ≤ 100000) (hbc : x.length ≤ c) (hc : c ≤ 9223372036854775807) (ho : Octets x) (h4 : 4 ≤ x.length) (w : World) (hI : Ints .u8 w a x) (l : List Int) (hr : row12 t = some l) (h25 : t ≠ 25) (hx1 : t ≠ 65535) (hxl : x.length ≠ sizeL l) :
    Calls Tryz.prog 56 #[.agg #[.int .i64 t, .slice a x.length c]] w (ReadPost12 (read12 t x) w) := by
  obtain ⟨W, hW, hbW, hx, hy⟩ := item_act w t a x.length c
  have HW := hid hW
  have HB := hid hbW
  have RO := hid (rowOf_any t W)
  obtain ⟨k1, k2, k3, k4, k5, k6⟩ := count_le12 t
  have e1 : rowP t = l := by simp [rowP, hr]
  have e2 : rowB t = true := by simp [rowB, hr]
  have e3 : (t == 25) = false := by simpa using h25
  rw [e1] at RO k1 k2 k3 k4 k5 k6
  rw [e2] at RO
  have HS : Hid (read12 t x = .error 514) := by show _ = _; unfold read12; rw [if_neg h25, hr]; simp only; rw [if_pos ⟨hx1, hxl⟩]
  have g1 : (t != 65535) = true := by simpa using hx1
  obtain ⟨n, hn⟩ : ∃ n, sizeL l = n := ⟨_, rfl⟩
  rw [hn] at hxl k3
  have K3 := hid k3
  have g2 : (((x.length : Nat) : Int) != (n : Int)) = true := by simp; omega
  have hn0 := k4
  clear e1 e2 hr h25 hI ho hx1 hxl hn k1 k2 k3 k4 k6 hn0
  obtain ⟨d0, d1⟩ := hx.two
  clear hW hbW
  go_enter Tryz.func56, Tryz.ntmps56
  go_wp2_with fail
  rw [HW.out]
  go_wp2_with fail
  refine RO.out.mono ?_
  rintro e w1 ⟨ra, rfl, hI1, hb1⟩
  have hyE := hy.below hb1
  have HBE1 := hid (below_on HB.out hb1)
  obtain ⟨f0, f1⟩ := (hx.below hb1).two
  have SZ := hid (fun (n : Wk w1) => size_any l ra l.length n.val (by omega) (hI1.below n.bel))
  rw [K3.out] at SZ
  have c0 := Wk.cell f0
  have c1 := Wk.cell f1
  clear hb1 hI1 d0 d1
  go_upto_region 6 with fail
  clear f0 f1
  refine wp_region_wk (by kernel_rfl) (by kernel_rfl) ?_
  repeat (go_big_quiet_step (first
    | (go_at_call 76; exact Wk.same (SZ.out _))))
  refine wpQuiet_nil ?_
  rintro w4 ⟨⟨_, hb4⟩, rfl⟩
  replace hyE := hyE.below hb4
  have HBE := hid (below_on HBE1.out hb4)
  clear hb4
  have z := hyE.free
  obtain ⟨u0, u1, u2, u3, u4, u5, u6, u7, u8, u9⟩ :=  hyE.ten
  go_wp2_with fail
  have hkk := hyE.set10 (.int .i64 0) (.int .u64 0) (.int .u64 0) (.int .i64 0) (.int .i64 0) (.bool false) (.int .u64 0) (.slice none 0 0) (.slice none 0 0) (.slice none 0 0)
  obtain ⟨k0, k1, k2, k3, k4, k5, k6, k7, k8, k9⟩ := hkk.ten
  refine bodyPost_ret (v := .tuple #[zero12, .int .i64 514]) (by simp [results, Tryz.results56, go_sem, zero12, k0, k1, k2, k3, k4, k5, k6, k7, k8, k9]) rfl (.inl ⟨514, HS.out, by decide, bad12, ?_⟩)
  repeat (with_reducible refine Below.setCell ?_ (by simp) _)
  exact HBE.out
end Go.Proofs.YtdjlbejhphbcoaaGreat
