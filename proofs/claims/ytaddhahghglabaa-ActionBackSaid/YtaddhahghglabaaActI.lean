/- Package action: whether an action may be (pure): the program's way of asking comes to the document's. -/
import Derived.Test.YtaddhahghglabaaActH
namespace Go.Proofs.Ytaddhahghglabaa
open Go.RowKit
set_option linter.unusedVariables false

theorem same12_iff (a b : Act12) : same12 a b = true ↔ a = b := by
  obtain ⟨T, A, B, o, d⟩ := a
  obtain ⟨T', A', B', o', d'⟩ := b
  have e : sameO o o' = same9 o o' := rfl
  simp only [same12, Bool.and_eq_true, beq_iff_eq, Act12.mk.injEq, e, same9_iff, and_assoc]
/-- may it be? as the program asks -/
def right12 (g : Ent12) : Bool := rowB g.T && bare12 g && wrong12 g.act == 0 && (putW (rowP g.T) (nums12 g.act (rowP g.T))).isSome && decide (size12 g.act ≤ 65528)
theorem right12_iff (g : Ent12) : right12 g = true ↔ rowB g.T = true ∧ bare12 g = true ∧ wrong12 g.act = 0 ∧ (putW (rowP g.T) (nums12 g.act (rowP g.T))).isSome = true ∧ size12 g.act ≤ 65528 := by
  unfold right12
  simp [and_assoc]
theorem size8_none : size8 0 0 false 0 [] [] = 0 := by decide
theorem up_ok {n : Nat} (h : n ≤ 60000) : up12 n ≤ 65528 := by unfold up12; omega
/-- what the document asks of an action whose type has a row -/
def cond12 (a : Act12) (w : List Int) : Prop := a.o = noOx ∧ asked12 a.T a.A = 0 ∧ (countL w < 2 → a.B = 0) ∧ (countL w < 1 → a.A = 0) ∧ (a.T ≠ 65535 → a.d = []) ∧ a.d.length % 8 = 0 ∧ a.d.length ≤ 65520
theorem right_row {a : Act12} {w : List Int} (h : row12 a.T = some w) (h25 : a.T ≠ 25) : (act12 a).isSome = true ↔ cond12 a w ∧ (putW w (nums12 a w)).isSome = true := by
  unfold act12 body12
  rw [if_neg h25, h, Option.isSome_map]
  simp only
  unfold cond12
  by_cases hc : a.o = noOx ∧ asked12 a.T a.A = 0 ∧ (countL w < 2 → a.B = 0) ∧ (countL w < 1 → a.A = 0) ∧ (a.T ≠ 65535 → a.d = []) ∧ a.d.length % 8 = 0 ∧ a.d.length ≤ 65520
  · rw [if_pos hc, Option.isSome_map]
    exact ⟨fun h => ⟨hc, h⟩, fun h => h.2⟩
  · rw [if_neg hc]
    exact ⟨fun h => by simp at h, fun h => absurd h.1 hc⟩
theorem right_set {a : Act12} (h25 : a.T = 25) : (act12 a).isSome = true ↔ a.A = 0 ∧ a.B = 0 ∧ a.d = [] ∧ setOk12 a.o = true := by
  unfold act12 body12
  rw [if_pos h25, Option.isSome_map]
  by_cases hc : a.A = 0 ∧ a.B = 0 ∧ a.d = [] ∧ setOk12 a.o = true
  · rw [if_pos hc]
    exact ⟨fun _ => hc, fun _ => rfl⟩
  · rw [if_neg hc]
    exact ⟨fun h => by simp at h, fun h => absurd h hc⟩
theorem wset_ok (o : Ox9) : wset12 o = 0 ↔ setOk12 o = true := by
  unfold wset12 setOk12
  simp only [Bool.and_eq_true, decide_eq_true_eq, Bool.not_eq_true']
  by_cases h1 : o.C = 32768 ∧ 2 < o.F ∧ o.F < 39
  · rw [if_pos h1]
    by_cases h2 : o.H = false ∧ right10 o = true
    · rw [if_pos h2]
      exact ⟨fun _ => ⟨⟨⟨h1.1, h2.1⟩, h1.2⟩, h2.2⟩, fun _ => rfl⟩
    · rw [if_neg h2]
      exact ⟨fun h => by simp at h, fun h => absurd ⟨h.1.1.2, h.2⟩ h2⟩
  · rw [if_neg h1]
    exact ⟨fun h => by simp at h, fun h => absurd ⟨h.1.1.1, h.1.2⟩ h1⟩
theorem bare_set {g : Ent12} (h : g.T = 25) : bare12 g = true ↔ g.A = 0 ∧ g.B = 0 ∧ g.d = [] := by
  unfold bare12
  rw [same12_iff]
  have e : strip12 g = ⟨g.T, g.A, g.B, noOx, none, 0, none, 0, g.d, g.da, g.dc⟩ := by unfold strip12; rw [if_pos h]
  rw [e]
  constructor
  · intro k; injection k with k1 k2 k3 k4 k5; exact ⟨k2, k3, k5⟩
  · rintro ⟨k1, k2, k3⟩; simp only [Ent12.act, none12, k1, k2, k3]
theorem bare_exp {g : Ent12} (h : g.T = 65535) : bare12 g = true ↔ g.B = 0 ∧ g.o = noOx := by
  unfold bare12
  rw [same12_iff]
  have e : strip12 g = ⟨g.T, 0, g.B, g.o, g.va, g.vc, g.ma, g.mc, [], none, 0⟩ := by unfold strip12; rw [if_neg (by omega), if_pos h]
  rw [e]
  constructor
  · intro k; injection k with k1 k2 k3 k4 k5; exact ⟨k3, k4⟩
  · rintro ⟨k1, k2⟩; simp only [Ent12.act, none12, k1, k2]
theorem bare_out {g : Ent12} (h : g.T = 0) : bare12 g = true ↔ g.o = noOx ∧ g.d = [] := by
  unfold bare12
  rw [same12_iff]
  have e : strip12 g = ⟨g.T, 0, 0, g.o, g.va, g.vc, g.ma, g.mc, g.d, g.da, g.dc⟩ := by unfold strip12; rw [if_neg (by omega), if_neg (by omega), if_pos h]
  rw [e]
  constructor
  · intro k; injection k with k1 k2 k3 k4 k5; exact ⟨k4, k5⟩
  · rintro ⟨k1, k2⟩; simp only [Ent12.act, none12, k1, k2]
theorem bare_num {g : Ent12} (h : g.T = 22 ∨ g.T = 21 ∨ g.T = 15 ∨ g.T = 23 ∨ g.T = 17 ∨ g.T = 19 ∨ g.T = 26 ∨ g.T = 20) : bare12 g = true ↔ g.B = 0 ∧ g.o = noOx ∧ g.d = [] := by
  unfold bare12
  rw [same12_iff]
  have e : strip12 g = ⟨g.T, 0, g.B, g.o, g.va, g.vc, g.ma, g.mc, g.d, g.da, g.dc⟩ := by unfold strip12; rw [if_neg (by omega), if_neg (by omega), if_neg (by omega), if_pos h]
  rw [e]
  constructor
  · intro k; injection k with k1 k2 k3 k4 k5; exact ⟨k3, k4, k5⟩
  · rintro ⟨k1, k2, k3⟩; simp only [Ent12.act, none12, k1, k2, k3]
theorem bare_no {g : Ent12} (h : g.T = 11 ∨ g.T = 12 ∨ g.T = 16 ∨ g.T = 18 ∨ g.T = 24 ∨ g.T = 27) : bare12 g = true ↔ g.A = 0 ∧ g.B = 0 ∧ g.o = noOx ∧ g.d = [] := by
  unfold bare12
  rw [same12_iff]
  have e : strip12 g = g := by unfold strip12; rw [if_neg (by omega), if_neg (by omega), if_neg (by omega), if_neg (by omega)]
  rw [e]
  constructor
  · intro k; injection k with k1 k2 k3 k4 k5; exact ⟨k2, k3, k4, k5⟩
  · rintro ⟨k1, k2, k3, k4⟩; simp only [Ent12.act, none12, k1, k2, k3, k4]
theorem size_noOx {g : Ent12} {w : List Int} (hw : row12 g.T = some w) (ho : g.o = noOx) : size12 g.act = up12 (4 + sizeL w + g.d.length) := by
  unfold size12
  have e2 : rowP g.act.T = w := by show rowP g.T = w; simp [rowP, hw]
  have e3 : size8 g.act.o.C g.act.o.F g.act.o.H g.act.o.X g.act.o.v g.act.o.m = 0 := by
    show size8 g.o.C g.o.F g.o.H g.o.X g.o.v g.o.m = 0
    rw [ho]
    exact size8_none
  rw [e2, e3]
  rfl
theorem wrong_row {g : Ent12} (h25 : g.T ≠ 25) (hx : g.T ≠ 65535) : wrong12 g.act = asked12 g.T g.A := by
  unfold wrong12
  rw [if_neg (show ¬ g.act.T = 25 from h25), if_neg (show ¬ g.act.T = 65535 from hx)]
  rfl
theorem right_by_row (g : Ent12) (w : List Int) (hw : row12 g.T = some w) (h25 : g.T ≠ 25) (hk : (bare12 g = true ∧ wrong12 g.act = 0 ∧ size12 g.act ≤ 65528) ↔ cond12 g.act w) : right12 g = true ↔ (act12 g.act).isSome = true := by
  rw [right_row (a := g.act) hw h25, right12_iff, ← hk]
  have e1 : rowB g.T = true := by simp [rowB, hw]
  have e2 : rowP g.T = w := by simp [rowP, hw]
  rw [e1, e2]
  exact ⟨fun ⟨_, h1, h2, h3, h4⟩ => ⟨⟨h1, h2, h4⟩, h3⟩, fun ⟨⟨h1, h2, h4⟩, h3⟩ => ⟨rfl, h1, h2, h3, h4⟩⟩
theorem right_act (g : Ent12) (hd : g.d.length ≤ 100000) : right12 g = (act12 g.act).isSome := by
  rw [Bool.eq_iff_iff]
  by_cases h25 : g.T = 25
  · rw [right12_iff, right_set h25, bare_set h25]
    have e1 : rowB g.T = true := by rw [h25]; decide
    have e2 : rowP g.T = [] := by rw [h25]; decide
    have e3 : putW [] (nums12 g.act []) = some [] := by simp [nums12, countL, putW, rightW, allW, putL]
    have e4 : wrong12 g.act = wset12 g.o := by unfold wrong12; rw [if_pos (show g.act.T = 25 from h25)]; rfl
    rw [e1, e2, e3, e4, wset_ok]
    constructor
    · rintro ⟨_, ⟨h1, h2, h3⟩, h4, _, _⟩
      exact ⟨h1, h2, h3, h4⟩
    · rintro ⟨h1, h2, h3, h4⟩
      refine ⟨rfl, ⟨h1, h2, h3⟩, h4, rfl, ?_⟩
      unfold size12
      have s0 := size8_le g.o.C g.o.F g.o.H g.o.X g.o.v g.o.m
      have e5 : rowP g.act.T = [] := e2
      have e6 : g.act.d = [] := h3
      rw [e5, e6]
      refine up_ok ?_
      show 4 + sizeL [] + size8 g.o.C g.o.F g.o.H g.o.X g.o.v g.o.m + 0 ≤ 60000
      simp [sizeL]
      omega
  · cases hr : row12 g.T with
    | none =>
      have e1 : rowB g.T = false := by simp [rowB, hr, h25]
      have e2 : act12 g.act = none := by
        unfold act12 body12
        rw [if_neg (show ¬ g.act.T = 25 from h25), show row12 g.act.T = none from hr]
        rfl
      rw [right12_iff, e1, e2]
      exact ⟨fun h => by simp at h, fun h => by simp at h⟩
    | some w =>
      refine right_by_row g w hr h25 ?_
      have hsz := fun ho => size_noOx hr ho
      unfold cond12
      by_cases hx : g.T = 65535
      · have hw : w = [4] := by rw [hx] at hr; exact (Option.some.inj hr).symm
        subst hw
        rw [bare_exp hx]
        have e4 : wrong12 g.act = if g.d.length % 8 = 0 then 0 else 514 := by unfold wrong12; rw [if_neg (show ¬ g.act.T = 25 from h25), if_pos (show g.act.T = 65535 from hx)]; rfl
        have e5 : asked12 g.act.T g.act.A = 0 := by show asked12 g.T g.A = 0; rw [hx]; simp [asked12]
        rw [e4, e5]
        constructor
        · rintro ⟨⟨h1, h2⟩, h3, h4⟩
          have h5 : g.d.length % 8 = 0 := by
            by_cases hh : g.d.length % 8 = 0
            · exact hh
            · rw [if_neg hh] at h3; simp at h3
          rw [hsz h2] at h4
          have : g.d.length ≤ 65520 := by unfold up12 at h4; simp [sizeL] at h4; omega
          exact ⟨h2, rfl, fun _ => h1, fun h => absurd h (by decide), fun h => absurd hx h, h5, this⟩
        · rintro ⟨h2, _, h1, _, _, h5, h6⟩
          refine ⟨⟨h1 (by decide), h2⟩, by rw [if_pos (show g.d.length % 8 = 0 from h5)], ?_⟩
          have h6' : g.d.length ≤ 65520 := h6
          have h5' : g.d.length % 8 = 0 := h5
          rw [hsz h2]
          unfold up12
          simp [sizeL]
          omega
      · rw [wrong_row h25 hx]
        have hsmall : g.o = noOx → g.d = [] → size12 g.act ≤ 65528 := by
          intro ho hd0
          rw [hsz ho, hd0]
          have := (row_facts hr).size
          exact up_ok (by simp; omega)
        have fin : ∀ (P : Prop), (P ↔ g.o = noOx ∧ (countL w < 2 → g.B = 0) ∧ (countL w < 1 → g.A = 0) ∧ g.d = []) → ((P ∧ asked12 g.T g.A = 0 ∧ size12 g.act ≤ 65528) ↔ g.act.o = noOx ∧ asked12 g.act.T g.act.A = 0 ∧ (countL w < 2 → g.act.B = 0) ∧ (countL w < 1 → g.act.A = 0) ∧ (g.act.T ≠ 65535 → g.act.d = []) ∧ g.act.d.length % 8 = 0 ∧ g.act.d.length ≤ 65520) := by
          intro P hP
          rw [hP]
          constructor
          · rintro ⟨⟨h1, h2, h3, h4⟩, h5, _⟩
            have h4' : g.act.d = [] := h4
            exact ⟨h1, h5, h2, h3, fun _ => h4, by rw [h4']; rfl, by rw [h4']; simp⟩
          · rintro ⟨h1, h5, h2, h3, h4, _, _⟩
            exact ⟨⟨h1, h2, h3, h4 hx⟩, h5, hsmall h1 (h4 hx)⟩
        refine fin _ ?_
        rcases row_ways hr with ⟨k, rfl⟩ | ⟨k, rfl⟩ | ⟨k, rfl⟩ | ⟨k, rfl⟩ | ⟨k, rfl⟩
        · rw [bare_out k]
          exact ⟨fun ⟨h1, h2⟩ => ⟨h1, fun h => absurd h (by decide), fun h => absurd h (by decide), h2⟩, fun ⟨h1, _, _, h2⟩ => ⟨h1, h2⟩⟩
        · rw [bare_num (by omega)]
          exact ⟨fun ⟨h0, h1, h2⟩ => ⟨h1, fun _ => h0, fun h => absurd h (by decide), h2⟩, fun ⟨h1, h0, _, h2⟩ => ⟨h0 (by decide), h1, h2⟩⟩
        · rw [bare_num (by omega)]
          exact ⟨fun ⟨h0, h1, h2⟩ => ⟨h1, fun _ => h0, fun h => absurd h (by decide), h2⟩, fun ⟨h1, h0, _, h2⟩ => ⟨h0 (by decide), h1, h2⟩⟩
        · rw [bare_no k]
          exact ⟨fun ⟨hA, h0, h1, h2⟩ => ⟨h1, fun _ => h0, fun _ => hA, h2⟩, fun ⟨h1, h0, hA, h2⟩ => ⟨hA (by decide), h0 (by decide), h1, h2⟩⟩
        · rw [bare_num (by omega)]
          exact ⟨fun ⟨h0, h1, h2⟩ => ⟨h1, fun _ => h0, fun h => absurd h (by decide), h2⟩, fun ⟨h1, h0, _, h2⟩ => ⟨h0 (by decide), h1, h2⟩⟩
end Go.Proofs.Ytaddhahghglabaa
