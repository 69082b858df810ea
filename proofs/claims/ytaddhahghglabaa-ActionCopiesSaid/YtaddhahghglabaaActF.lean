/- Package action: whether all that a type has not is 0, or empty. -/
import Derived.Test.YtaddhahghglabaaActC
import Derived.Test.YtaddhahghglabaaActD
namespace Go.Proofs.Ytaddhahghglabaa
open Go.RowKit
set_option linter.unusedVariables false

/-- an action without what its type has -/
def strip12 (g : Ent12) : Ent12 :=
  if g.T = 25 then ⟨g.T, g.A, g.B, noOx, none, 0, none, 0, g.d, g.da, g.dc⟩
  else if g.T = 65535 then ⟨g.T, 0, g.B, g.o, g.va, g.vc, g.ma, g.mc, [], none, 0⟩
  else if g.T = 0 then ⟨g.T, 0, 0, g.o, g.va, g.vc, g.ma, g.mc, g.d, g.da, g.dc⟩
  else if g.T = 22 ∨ g.T = 21 ∨ g.T = 15 ∨ g.T = 23 ∨ g.T = 17 ∨ g.T = 19 ∨ g.T = 26 ∨ g.T = 20 then ⟨g.T, 0, g.B, g.o, g.va, g.vc, g.ma, g.mc, g.d, g.da, g.dc⟩
  else g
def none12 (t : Int) : Ent12 := ⟨t, 0, 0, noOx, none, 0, none, 0, [], none, 0⟩
def bare12 (g : Ent12) : Bool := same12 (strip12 g).act (none12 g.T).act
theorem zero_in : (0 : Int) ≤ 0 ∧ (0 : Int) ≤ 18446744073709551615 := by decide
theorem none_in {w : World} {g : Ent12} (h : ActIn w g) : ActIn w (none12 g.T) :=
  ⟨h.t, zero_in, zero_in, by simp [none12, noOx], by simp [none12, noOx], zero_in, by simp [none12, noOx], by simp [none12, noOx], by simp [none12, noOx], Ints.nil _ _ _, Ints.nil _ _ _, Ints.nil _ _ _, (by intro x hx; cases hx), (by intro x hx; cases hx), (by intro x hx; cases hx), by simp [none12, noOx]⟩
theorem strip_in {w : World} {g : Ent12} (h : ActIn w g) : ActIn w (strip12 g) := by
  unfold strip12
  split
  · exact ⟨h.t, h.a, h.b, by simp [noOx], by simp [noOx], zero_in, by simp [noOx], by simp [noOx], h.ld, Ints.nil _ _ _, Ints.nil _ _ _, h.id, (by intro x hx; cases hx), (by intro x hx; cases hx), h.od, by simp [noOx]⟩
  · split
    · exact ⟨h.t, zero_in, h.b, h.c, h.f, h.x, h.lv, h.lm, (by simp), h.iv, h.im, Ints.nil _ _ _, h.ov, h.om, (by intro x hx; cases hx), h.cm⟩
    · split
      · exact ⟨h.t, zero_in, zero_in, h.c, h.f, h.x, h.lv, h.lm, h.ld, h.iv, h.im, h.id, h.ov, h.om, h.od, h.cm⟩
      · split
        · exact ⟨h.t, zero_in, h.b, h.c, h.f, h.x, h.lv, h.lm, h.ld, h.iv, h.im, h.id, h.ov, h.om, h.od, h.cm⟩
        · exact h

set_option maxRecDepth 100000 in
set_option maxHeartbeats 2000000 in
theorem isBare_set (g : Ent12) (w : World) (hi : ActIn w g) (hT : g.T = 25) :
    Calls Try.prog 32 #[g.val] w fun e w' => e = .returned (.bool (bare12 g)) ∧ Below w.heap.size w w' := by
  have SM := hid (fun (W : World) (hW : Below w.heap.size w W) => actSame_any (strip12 g) (none12 g.T) W ((strip_in hi).below hW) ((none_in hi).below hW))
  clear hi
  obtain ⟨r, hr⟩ : ∃ r, bare12 g = r := ⟨_, rfl⟩
  rw [show same12 (strip12 g).act (none12 g.T).act = r from hr] at SM
  rw [hr]
  clear hr
  obtain ⟨T, A, B, ⟨C, F, H, X, v, m⟩, va, vc, ma, mc, d, da, dc⟩ := g
  simp only at *
  subst hT
  unfold Ent12.val
  simp only
  obtain ⟨W, hW, hbW, hx⟩ := act_box w 25 A B 0 0 false 0 none 0 0 none 0 0 da d.length dc
  have HW := hid hW
  have HB := hid hbW
  clear hW hbW
  go_enter Try.func32, Try.ntmps32
  go_wp2_with fail
  rw [HW.out]
  refine (SM.out _ HB.out).mono ?_
  rintro e w1 ⟨rfl, hb⟩
  go_wp2_with fail
  go_ret
  exact ⟨rfl, below_on HB.out hb⟩

set_option maxRecDepth 100000 in
set_option maxHeartbeats 2000000 in
theorem isBare_exp (g : Ent12) (w : World) (hi : ActIn w g) (hT : g.T = 65535) :
    Calls Try.prog 32 #[g.val] w fun e w' => e = .returned (.bool (bare12 g)) ∧ Below w.heap.size w w' := by
  have SM := hid (fun (W : World) (hW : Below w.heap.size w W) => actSame_any (strip12 g) (none12 g.T) W ((strip_in hi).below hW) ((none_in hi).below hW))
  clear hi
  obtain ⟨r, hr⟩ : ∃ r, bare12 g = r := ⟨_, rfl⟩
  rw [show same12 (strip12 g).act (none12 g.T).act = r from hr] at SM
  rw [hr]
  clear hr
  obtain ⟨T, A, B, ⟨C, F, H, X, v, m⟩, va, vc, ma, mc, d, da, dc⟩ := g
  simp only at *
  subst hT
  unfold Ent12.val
  simp only
  obtain ⟨W, hW, hbW, hx⟩ := act_box w 65535 0 B C F H X va v.length vc ma m.length mc none 0 0
  have HW := hid hW
  have HB := hid hbW
  clear hW hbW
  go_enter Try.func32, Try.ntmps32
  go_wp2_with fail
  rw [HW.out]
  refine (SM.out _ HB.out).mono ?_
  rintro e w1 ⟨rfl, hb⟩
  go_wp2_with fail
  go_ret
  exact ⟨rfl, below_on HB.out hb⟩

set_option maxRecDepth 100000 in
set_option maxHeartbeats 2000000 in
theorem isBare_out (g : Ent12) (w : World) (hi : ActIn w g) (hT : g.T = 0) :
    Calls Try.prog 32 #[g.val] w fun e w' => e = .returned (.bool (bare12 g)) ∧ Below w.heap.size w w' := by
  have SM := hid (fun (W : World) (hW : Below w.heap.size w W) => actSame_any (strip12 g) (none12 g.T) W ((strip_in hi).below hW) ((none_in hi).below hW))
  clear hi
  obtain ⟨r, hr⟩ : ∃ r, bare12 g = r := ⟨_, rfl⟩
  rw [show same12 (strip12 g).act (none12 g.T).act = r from hr] at SM
  rw [hr]
  clear hr
  obtain ⟨T, A, B, ⟨C, F, H, X, v, m⟩, va, vc, ma, mc, d, da, dc⟩ := g
  simp only at *
  subst hT
  unfold Ent12.val
  simp only
  obtain ⟨W, hW, hbW, hx⟩ := act_box w 0 0 0 C F H X va v.length vc ma m.length mc da d.length dc
  have HW := hid hW
  have HB := hid hbW
  clear hW hbW
  go_enter Try.func32, Try.ntmps32
  go_wp2_with fail
  rw [HW.out]
  refine (SM.out _ HB.out).mono ?_
  rintro e w1 ⟨rfl, hb⟩
  go_wp2_with fail
  go_ret
  exact ⟨rfl, below_on HB.out hb⟩

set_option maxRecDepth 100000 in
set_option maxHeartbeats 2000000 in
theorem isBare_num22 (g : Ent12) (w : World) (hi : ActIn w g) (hT : g.T = 22) :
    Calls Try.prog 32 #[g.val] w fun e w' => e = .returned (.bool (bare12 g)) ∧ Below w.heap.size w w' := by
  have SM := hid (fun (W : World) (hW : Below w.heap.size w W) => actSame_any (strip12 g) (none12 g.T) W ((strip_in hi).below hW) ((none_in hi).below hW))
  clear hi
  obtain ⟨r, hr⟩ : ∃ r, bare12 g = r := ⟨_, rfl⟩
  rw [show same12 (strip12 g).act (none12 g.T).act = r from hr] at SM
  rw [hr]
  clear hr
  obtain ⟨T, A, B, ⟨C, F, H, X, v, m⟩, va, vc, ma, mc, d, da, dc⟩ := g
  simp only at *
  subst hT
  unfold Ent12.val
  simp only
  obtain ⟨W, hW, hbW, hx⟩ := act_box w 22 0 B C F H X va v.length vc ma m.length mc da d.length dc
  have HW := hid hW
  have HB := hid hbW
  clear hW hbW
  go_enter Try.func32, Try.ntmps32
  go_wp2_with fail
  rw [HW.out]
  refine (SM.out _ HB.out).mono ?_
  rintro e w1 ⟨rfl, hb⟩
  go_wp2_with fail
  go_ret
  exact ⟨rfl, below_on HB.out hb⟩

set_option maxRecDepth 100000 in
set_option maxHeartbeats 2000000 in
theorem isBare_num21 (g : Ent12) (w : World) (hi : ActIn w g) (hT : g.T = 21) :
    Calls Try.prog 32 #[g.val] w fun e w' => e = .returned (.bool (bare12 g)) ∧ Below w.heap.size w w' := by
  have SM := hid (fun (W : World) (hW : Below w.heap.size w W) => actSame_any (strip12 g) (none12 g.T) W ((strip_in hi).below hW) ((none_in hi).below hW))
  clear hi
  obtain ⟨r, hr⟩ : ∃ r, bare12 g = r := ⟨_, rfl⟩
  rw [show same12 (strip12 g).act (none12 g.T).act = r from hr] at SM
  rw [hr]
  clear hr
  obtain ⟨T, A, B, ⟨C, F, H, X, v, m⟩, va, vc, ma, mc, d, da, dc⟩ := g
  simp only at *
  subst hT
  unfold Ent12.val
  simp only
  obtain ⟨W, hW, hbW, hx⟩ := act_box w 21 0 B C F H X va v.length vc ma m.length mc da d.length dc
  have HW := hid hW
  have HB := hid hbW
  clear hW hbW
  go_enter Try.func32, Try.ntmps32
  go_wp2_with fail
  rw [HW.out]
  refine (SM.out _ HB.out).mono ?_
  rintro e w1 ⟨rfl, hb⟩
  go_wp2_with fail
  go_ret
  exact ⟨rfl, below_on HB.out hb⟩

set_option maxRecDepth 100000 in
set_option maxHeartbeats 2000000 in
theorem isBare_num15 (g : Ent12) (w : World) (hi : ActIn w g) (hT : g.T = 15) :
    Calls Try.prog 32 #[g.val] w fun e w' => e = .returned (.bool (bare12 g)) ∧ Below w.heap.size w w' := by
  have SM := hid (fun (W : World) (hW : Below w.heap.size w W) => actSame_any (strip12 g) (none12 g.T) W ((strip_in hi).below hW) ((none_in hi).below hW))
  clear hi
  obtain ⟨r, hr⟩ : ∃ r, bare12 g = r := ⟨_, rfl⟩
  rw [show same12 (strip12 g).act (none12 g.T).act = r from hr] at SM
  rw [hr]
  clear hr
  obtain ⟨T, A, B, ⟨C, F, H, X, v, m⟩, va, vc, ma, mc, d, da, dc⟩ := g
  simp only at *
  subst hT
  unfold Ent12.val
  simp only
  obtain ⟨W, hW, hbW, hx⟩ := act_box w 15 0 B C F H X va v.length vc ma m.length mc da d.length dc
  have HW := hid hW
  have HB := hid hbW
  clear hW hbW
  go_enter Try.func32, Try.ntmps32
  go_wp2_with fail
  rw [HW.out]
  refine (SM.out _ HB.out).mono ?_
  rintro e w1 ⟨rfl, hb⟩
  go_wp2_with fail
  go_ret
  exact ⟨rfl, below_on HB.out hb⟩

set_option maxRecDepth 100000 in
set_option maxHeartbeats 2000000 in
theorem isBare_num23 (g : Ent12) (w : World) (hi : ActIn w g) (hT : g.T = 23) :
    Calls Try.prog 32 #[g.val] w fun e w' => e = .returned (.bool (bare12 g)) ∧ Below w.heap.size w w' := by
  have SM := hid (fun (W : World) (hW : Below w.heap.size w W) => actSame_any (strip12 g) (none12 g.T) W ((strip_in hi).below hW) ((none_in hi).below hW))
  clear hi
  obtain ⟨r, hr⟩ : ∃ r, bare12 g = r := ⟨_, rfl⟩
  rw [show same12 (strip12 g).act (none12 g.T).act = r from hr] at SM
  rw [hr]
  clear hr
  obtain ⟨T, A, B, ⟨C, F, H, X, v, m⟩, va, vc, ma, mc, d, da, dc⟩ := g
  simp only at *
  subst hT
  unfold Ent12.val
  simp only
  obtain ⟨W, hW, hbW, hx⟩ := act_box w 23 0 B C F H X va v.length vc ma m.length mc da d.length dc
  have HW := hid hW
  have HB := hid hbW
  clear hW hbW
  go_enter Try.func32, Try.ntmps32
  go_wp2_with fail
  rw [HW.out]
  refine (SM.out _ HB.out).mono ?_
  rintro e w1 ⟨rfl, hb⟩
  go_wp2_with fail
  go_ret
  exact ⟨rfl, below_on HB.out hb⟩

set_option maxRecDepth 100000 in
set_option maxHeartbeats 2000000 in
theorem isBare_num17 (g : Ent12) (w : World) (hi : ActIn w g) (hT : g.T = 17) :
    Calls Try.prog 32 #[g.val] w fun e w' => e = .returned (.bool (bare12 g)) ∧ Below w.heap.size w w' := by
  have SM := hid (fun (W : World) (hW : Below w.heap.size w W) => actSame_any (strip12 g) (none12 g.T) W ((strip_in hi).below hW) ((none_in hi).below hW))
  clear hi
  obtain ⟨r, hr⟩ : ∃ r, bare12 g = r := ⟨_, rfl⟩
  rw [show same12 (strip12 g).act (none12 g.T).act = r from hr] at SM
  rw [hr]
  clear hr
  obtain ⟨T, A, B, ⟨C, F, H, X, v, m⟩, va, vc, ma, mc, d, da, dc⟩ := g
  simp only at *
  subst hT
  unfold Ent12.val
  simp only
  obtain ⟨W, hW, hbW, hx⟩ := act_box w 17 0 B C F H X va v.length vc ma m.length mc da d.length dc
  have HW := hid hW
  have HB := hid hbW
  clear hW hbW
  go_enter Try.func32, Try.ntmps32
  go_wp2_with fail
  rw [HW.out]
  refine (SM.out _ HB.out).mono ?_
  rintro e w1 ⟨rfl, hb⟩
  go_wp2_with fail
  go_ret
  exact ⟨rfl, below_on HB.out hb⟩

set_option maxRecDepth 100000 in
set_option maxHeartbeats 2000000 in
theorem isBare_num19 (g : Ent12) (w : World) (hi : ActIn w g) (hT : g.T = 19) :
    Calls Try.prog 32 #[g.val] w fun e w' => e = .returned (.bool (bare12 g)) ∧ Below w.heap.size w w' := by
  have SM := hid (fun (W : World) (hW : Below w.heap.size w W) => actSame_any (strip12 g) (none12 g.T) W ((strip_in hi).below hW) ((none_in hi).below hW))
  clear hi
  obtain ⟨r, hr⟩ : ∃ r, bare12 g = r := ⟨_, rfl⟩
  rw [show same12 (strip12 g).act (none12 g.T).act = r from hr] at SM
  rw [hr]
  clear hr
  obtain ⟨T, A, B, ⟨C, F, H, X, v, m⟩, va, vc, ma, mc, d, da, dc⟩ := g
  simp only at *
  subst hT
  unfold Ent12.val
  simp only
  obtain ⟨W, hW, hbW, hx⟩ := act_box w 19 0 B C F H X va v.length vc ma m.length mc da d.length dc
  have HW := hid hW
  have HB := hid hbW
  clear hW hbW
  go_enter Try.func32, Try.ntmps32
  go_wp2_with fail
  rw [HW.out]
  refine (SM.out _ HB.out).mono ?_
  rintro e w1 ⟨rfl, hb⟩
  go_wp2_with fail
  go_ret
  exact ⟨rfl, below_on HB.out hb⟩

set_option maxRecDepth 100000 in
set_option maxHeartbeats 2000000 in
theorem isBare_num26 (g : Ent12) (w : World) (hi : ActIn w g) (hT : g.T = 26) :
    Calls Try.prog 32 #[g.val] w fun e w' => e = .returned (.bool (bare12 g)) ∧ Below w.heap.size w w' := by
  have SM := hid (fun (W : World) (hW : Below w.heap.size w W) => actSame_any (strip12 g) (none12 g.T) W ((strip_in hi).below hW) ((none_in hi).below hW))
  clear hi
  obtain ⟨r, hr⟩ : ∃ r, bare12 g = r := ⟨_, rfl⟩
  rw [show same12 (strip12 g).act (none12 g.T).act = r from hr] at SM
  rw [hr]
  clear hr
  obtain ⟨T, A, B, ⟨C, F, H, X, v, m⟩, va, vc, ma, mc, d, da, dc⟩ := g
  simp only at *
  subst hT
  unfold Ent12.val
  simp only
  obtain ⟨W, hW, hbW, hx⟩ := act_box w 26 0 B C F H X va v.length vc ma m.length mc da d.length dc
  have HW := hid hW
  have HB := hid hbW
  clear hW hbW
  go_enter Try.func32, Try.ntmps32
  go_wp2_with fail
  rw [HW.out]
  refine (SM.out _ HB.out).mono ?_
  rintro e w1 ⟨rfl, hb⟩
  go_wp2_with fail
  go_ret
  exact ⟨rfl, below_on HB.out hb⟩

set_option maxRecDepth 100000 in
set_option maxHeartbeats 2000000 in
theorem isBare_num20 (g : Ent12) (w : World) (hi : ActIn w g) (hT : g.T = 20) :
    Calls Try.prog 32 #[g.val] w fun e w' => e = .returned (.bool (bare12 g)) ∧ Below w.heap.size w w' := by
  have SM := hid (fun (W : World) (hW : Below w.heap.size w W) => actSame_any (strip12 g) (none12 g.T) W ((strip_in hi).below hW) ((none_in hi).below hW))
  clear hi
  obtain ⟨r, hr⟩ : ∃ r, bare12 g = r := ⟨_, rfl⟩
  rw [show same12 (strip12 g).act (none12 g.T).act = r from hr] at SM
  rw [hr]
  clear hr
  obtain ⟨T, A, B, ⟨C, F, H, X, v, m⟩, va, vc, ma, mc, d, da, dc⟩ := g
  simp only at *
  subst hT
  unfold Ent12.val
  simp only
  obtain ⟨W, hW, hbW, hx⟩ := act_box w 20 0 B C F H X va v.length vc ma m.length mc da d.length dc
  have HW := hid hW
  have HB := hid hbW
  clear hW hbW
  go_enter Try.func32, Try.ntmps32
  go_wp2_with fail
  rw [HW.out]
  refine (SM.out _ HB.out).mono ?_
  rintro e w1 ⟨rfl, hb⟩
  go_wp2_with fail
  go_ret
  exact ⟨rfl, below_on HB.out hb⟩

set_option maxRecDepth 100000 in
set_option maxHeartbeats 2000000 in
theorem isBare_else (g : Ent12) (w : World) (hi : ActIn w g) (hT : g.T ≠ 25 ∧ g.T ≠ 65535 ∧ g.T ≠ 0 ∧ g.T ≠ 22 ∧ g.T ≠ 21 ∧ g.T ≠ 15 ∧ g.T ≠ 23 ∧ g.T ≠ 17 ∧ g.T ≠ 19 ∧ g.T ≠ 26 ∧ g.T ≠ 20) :
    Calls Try.prog 32 #[g.val] w fun e w' => e = .returned (.bool (bare12 g)) ∧ Below w.heap.size w w' := by
  have SM := hid (fun (W : World) (hW : Below w.heap.size w W) => actSame_any (strip12 g) (none12 g.T) W ((strip_in hi).below hW) ((none_in hi).below hW))
  clear hi
  obtain ⟨r, hr⟩ : ∃ r, bare12 g = r := ⟨_, rfl⟩
  rw [show same12 (strip12 g).act (none12 g.T).act = r from hr] at SM
  rw [hr]
  clear hr
  obtain ⟨T, A, B, ⟨C, F, H, X, v, m⟩, va, vc, ma, mc, d, da, dc⟩ := g
  simp only at *
  have es : strip12 ⟨T, A, B, ⟨C, F, H, X, v, m⟩, va, vc, ma, mc, d, da, dc⟩ = ⟨T, A, B, ⟨C, F, H, X, v, m⟩, va, vc, ma, mc, d, da, dc⟩ := by simp [strip12, hT]
  rw [es] at SM
  have c0 : (T == 25) = false := by simp [hT]
  have c1 : (T == 65535) = false := by simp [hT]
  have c2 : (T == 0) = false := by simp [hT]
  have c3 : (T == 22) = false := by simp [hT]
  have c4 : (T == 21) = false := by simp [hT]
  have c5 : (T == 15) = false := by simp [hT]
  have c6 : (T == 23) = false := by simp [hT]
  have c7 : (T == 17) = false := by simp [hT]
  have c8 : (T == 19) = false := by simp [hT]
  have c9 : (T == 26) = false := by simp [hT]
  have c10 : (T == 20) = false := by simp [hT]
  clear hT es
  unfold Ent12.val
  simp only
  obtain ⟨W, hW, hbW, hx⟩ := act_box w T A B C F H X va v.length vc ma m.length mc da d.length dc
  have HW := hid hW
  have HB := hid hbW
  clear hW hbW
  go_enter Try.func32, Try.ntmps32
  go_wp2_with fail
  rw [HW.out]
  refine (SM.out _ HB.out).mono ?_
  rintro e w1 ⟨rfl, hb⟩
  go_wp2_with fail
  go_ret
  exact ⟨rfl, below_on HB.out hb⟩

theorem isBare_any (g : Ent12) (w : World) (hi : ActIn w g) :
    Calls Try.prog 32 #[g.val] w fun e w' => e = .returned (.bool (bare12 g)) ∧ Below w.heap.size w w' := by
  rcases (show g.T = 25 ∨ g.T = 65535 ∨ g.T = 0 ∨ g.T = 22 ∨ g.T = 21 ∨ g.T = 15 ∨ g.T = 23 ∨ g.T = 17 ∨ g.T = 19 ∨ g.T = 26 ∨ g.T = 20 ∨ (g.T ≠ 25 ∧ g.T ≠ 65535 ∧ g.T ≠ 0 ∧ g.T ≠ 22 ∧ g.T ≠ 21 ∧ g.T ≠ 15 ∧ g.T ≠ 23 ∧ g.T ≠ 17 ∧ g.T ≠ 19 ∧ g.T ≠ 26 ∧ g.T ≠ 20) by omega) with h | h | h | h | h | h | h | h | h | h | h | h
  · exact isBare_set g w hi h
  · exact isBare_exp g w hi h
  · exact isBare_out g w hi h
  · exact isBare_num22 g w hi h
  · exact isBare_num21 g w hi h
  · exact isBare_num15 g w hi h
  · exact isBare_num23 g w hi h
  · exact isBare_num17 g w hi h
  · exact isBare_num19 g w hi h
  · exact isBare_num26 g w hi h
  · exact isBare_num20 g w hi h
  · exact isBare_else g w hi h
end Go.Proofs.Ytaddhahghglabaa
