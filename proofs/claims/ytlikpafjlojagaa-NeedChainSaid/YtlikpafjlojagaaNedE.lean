/- A slice of values that came in, opened. -/
import Derived.Test.YtlikpafjlojagaaNedD
namespace Go.Proofs.Ytlikpafjlojagaa
open Go.ChangeShapes Go.WideShapes Go.RowKit Go.Deep
set_option linter.unusedVariables false

section
variable {H : Type} {enc : TypeId × Value → H} {w : World} {base : Nat} {held : Bool}
set_option maxRecDepth 100000 in
theorem open_ent9 {fuel : Nat} {cs : List Value} {x : DataW H × List MemPlace} (h : DataW.trod enc Try.prog w base (fun _ => true) held fuel 26 cs = some x) :
    ∃ h : Ent9, cs = h.cs ∧ EntIn w h := by
  have hC : Try.prog.cellsOf 26 = 6 := by kernel_rfl
  have hCi : Try.prog.cellsOf 3 = 1 := by kernel_rfl
  have hCb : Try.prog.cellsOf 4 = 1 := by kernel_rfl
  have hCu : Try.prog.cellsOf 23 = 1 := by kernel_rfl
  have hCs : Try.prog.cellsOf 24 = 1 := by kernel_rfl
  obtain ⟨ys, n', _, _, hlen, hyl, hg⟩ := DataW.trod_struct Try.underlying26 h
  have hsz : cs.length = 6 := by rw [hC] at hlen; exact hlen
  match cs, hsz with
  | [v0, v1, v2, v3, v4, v5], _ =>
    have get : ∀ j, j < 6 → ∃ y, ys[j]? = some y := fun j hj => ⟨ys[j]'(by rw [hyl]; exact hj), List.getElem?_eq_getElem _⟩
    obtain ⟨y0, e0⟩ := get 0 (by decide)
    obtain ⟨y1, e1⟩ := get 1 (by decide)
    obtain ⟨y2, e2⟩ := get 2 (by decide)
    obtain ⟨y3, e3⟩ := get 3 (by decide)
    obtain ⟨y4, e4⟩ := get 4 (by decide)
    obtain ⟨y5, e5⟩ := get 5 (by decide)
    have g0 : DataW.trod enc Try.prog w base (fun _ => true) held n' 3 [v0] = some y0 := by have h := hg 0 _ rfl; rw [e0] at h; simpa [hCi, Value.cells] using h
    have g1 : DataW.trod enc Try.prog w base (fun _ => true) held n' 3 [v1] = some y1 := by have h := hg 1 _ rfl; rw [e1] at h; simpa [hCi, Value.cells] using h
    have g2 : DataW.trod enc Try.prog w base (fun _ => true) held n' 4 [v2] = some y2 := by have h := hg 2 _ rfl; rw [e2] at h; simpa [hCi, hCb, Value.cells] using h
    have g3 : DataW.trod enc Try.prog w base (fun _ => true) held n' 23 [v3] = some y3 := by have h := hg 3 _ rfl; rw [e3] at h; simpa [hCi, hCb, hCu, Value.cells] using h
    have g4 : DataW.trod enc Try.prog w base (fun _ => true) held n' 24 [v4] = some y4 := by have h := hg 4 _ rfl; rw [e4] at h; simpa [hCi, hCb, hCu, hCs, Value.cells] using h
    have g5 : DataW.trod enc Try.prog w base (fun _ => true) held n' 24 [v5] = some y5 := by have h := hg 5 _ rfl; rw [e5] at h; simpa [hCi, hCb, hCu, hCs, Value.cells] using h
    obtain ⟨k0, h0, _, u0⟩ := DataW.trod_int Try.underlying3 g0
    obtain ⟨k1, h1, _, u1⟩ := DataW.trod_int Try.underlying3 g1
    obtain ⟨k2, h2, _⟩ := DataW.trod_bool Try.underlying4 g2
    obtain ⟨k3, h3, _, u3⟩ := DataW.trod_int Try.underlying23 g3
    obtain ⟨a4, n4, c4, l4, rfl, q4, i4, o4, r4, t4⟩ := open_bytes8 g4
    obtain ⟨a5, n5, c5, l5, rfl, q5, i5, o5, r5, t5⟩ := open_bytes8 g5
    simp at h0 h1 h2 h3
    subst q4
    subst q5
    refine ⟨⟨⟨k0, k1, k2, k3, l4, l5⟩, a4, c4, a5, c5⟩, by rw [h0, h1, h2, h3]; rfl, ⟨i4, i5, o4, o5, ⟨r4, t4⟩, ⟨r5, t5⟩, ?_, ?_, ?_⟩⟩
    · simp [Lit.wf, IntKind.min, IntKind.max, IntKind.bits, IntKind.signed] at u0; omega
    · simp [Lit.wf, IntKind.min, IntKind.max, IntKind.bits, IntKind.signed] at u1; omega
    · simp [Lit.wf, IntKind.min, IntKind.max, IntKind.bits, IntKind.signed] at u3; omega
/-- values that came in -/
def IsOxms (w : World) (a : Option Addr) (len : Nat) : Prop := ∃ l : List Ent9, l.length = len ∧ Oxms w a l ∧ ∀ h ∈ l, EntIn w h
set_option maxRecDepth 100000 in
theorem open_oxms_of {T : TypeId} (hT : Try.prog.underlying T = some (.slice 26)) {fuel len cap : Nat} {a : Option Addr} {x : DataW H × List MemPlace} (h : DataW.trod enc Try.prog w base (fun _ => true) held fuel T [.slice a len cap] = some x) : len ≤ 9223372036854775807 ∧ IsOxms w a len := by
  rcases open_slice hT h with ⟨hcs, _⟩ | ⟨p, l, c, m, n, D, Pl, hcs, hb, hl, hm, hmm, hx, hi⟩
  · simp at hcs
    obtain ⟨rfl, rfl, rfl⟩ := hcs
    exact ⟨by omega, [], rfl, Oxms.nil _ _, by simp⟩
  · simp at hcs
    obtain ⟨rfl, rfl, rfl⟩ := hcs
    have hC : Try.prog.cellsOf 26 = 6 := by kernel_rfl
    simp at hmm
    have hlen : len ≤ 9223372036854775807 := by unfold maxLen at hm; omega
    have one : ∀ i, i < len → ∃ (b off : Nat) (t : Ent9), p = ⟨b, off, none⟩ ∧ (∀ j, j < 6 → w.cell? ⟨b, off + i * 6 + j, none⟩ = t.cs[j]?) ∧ EntIn w t := by
      intro i hil
      have hspot : p.spot = none := by
        obtain ⟨cs, hc, ht⟩ := hi 0 (by omega)
        rw [hC] at hc
        obtain ⟨_, hcl, hat⟩ := World.cells?_some hc
        have c0 := hat 0 (by omega)
        rw [List.getElem?_eq_getElem (by omega)] at c0
        simpa [Addr.add] using World.cell?_spot c0
      obtain ⟨cs, hc, ht⟩ := hi i (by omega)
      rw [hC] at hc
      obtain ⟨_, hcl, hat⟩ := World.cells?_some hc
      obtain ⟨t, rfl, hin⟩ := open_ent9 ht
      obtain ⟨b, off, spot⟩ := p
      simp at hspot
      subst hspot
      refine ⟨b, off, t, rfl, fun j hj => ?_, hin⟩
      have := hat j (by omega)
      rw [add_none, add_none] at this
      exact this
    have all : ∀ n, n ≤ len → ∃ ts : List Ent9, ts.length = n ∧ ∀ i, (hi : i < ts.length) → ∃ (b off : Nat), p = ⟨b, off, none⟩ ∧ (∀ j, j < 6 → w.cell? ⟨b, off + i * 6 + j, none⟩ = ts[i].cs[j]?) ∧ EntIn w ts[i] := by
      intro n
      induction n with
      | zero => intro _; exact ⟨[], rfl, fun i hi => by simp at hi⟩
      | succ n ih =>
        intro hn
        obtain ⟨ts, hts, hall⟩ := ih (by omega)
        obtain ⟨b, off, t, hp, r1, r2⟩ := one n (by omega)
        refine ⟨ts ++ [t], by simp [hts], fun i hi => ?_⟩
        rcases Nat.lt_or_ge i ts.length with hlt | hge
        · obtain ⟨b', off', q1, q2⟩ := hall i hlt
          rw [List.getElem_append_left hlt]
          exact ⟨b', off', q1, q2⟩
        · obtain rfl : i = ts.length := by simp at hi; omega
          rw [List.getElem_append_right (Nat.le_refl _)]
          simp only [Nat.sub_self, List.getElem_cons_zero]
          rw [hts]
          exact ⟨b, off, hp, r1, r2⟩
    obtain ⟨ts, hts, hall⟩ := all len (Nat.le_refl _)
    refine ⟨hlen, ts, hts, ?_, ?_⟩
    · intro i hi
      obtain ⟨b, off, hp, r, _⟩ := hall i hi
      exact ⟨b, off, by rw [hp], r 0 (by decide), r 1 (by decide), r 2 (by decide), r 3 (by decide), r 4 (by decide), r 5 (by decide)⟩
    · intro t ht
      obtain ⟨i, hi, rfl⟩ := List.mem_iff_getElem.1 ht
      obtain ⟨_, _, _, _, r⟩ := hall i hi
      exact r
theorem open_oxms {fuel len cap : Nat} {a : Option Addr} {x : DataW H × List MemPlace} (h : DataW.trod enc Try.prog w base (fun _ => true) held fuel 22 [.slice a len cap] = some x) : len ≤ 9223372036854775807 ∧ IsOxms w a len :=
  open_oxms_of Try.underlying22 h
end
end Go.Proofs.Ytlikpafjlojagaa
