/- Shapes and things that came in, opened. -/
import Derived.Test.YtfdkkcndadjcaaaTlvBack
import Derived.Test.YtfdkkcndadjcaaaShell
import Derived.OpenShut
import Derived.ProofKit
import Derived.Deep.Slices
namespace Go.Proofs.Ytfdkkcndadjcaaa
open Go.ChangeShapes Go.WideShapes Go.RowKit Go.Deep

/-- things that came in -/
def IsItems (w : World) (a : Option Addr) (len : Nat) : Prop := ∃ l : List Thing, l.length = len ∧ ThingsIn w a l

section
variable {H : Type} {enc : TypeId × Value → H} {w : World} {base : Nat} {held : Bool}
set_option maxRecDepth 100000 in
theorem open_shape {r : Reach} {b0 : Nat} {v : Value} {d : DataW H} {p : List MemPlace} (hv : Value.okWide Try.prog w r b0 24 v) (h : DataW.Trod enc Try.prog w base (fun _ => true) held 24 v d p) :
    ∃ (L S : Int) (P : Bool) (B O : Int), v = .agg #[.int .i64 L, .int .i64 S, .bool P, .int .i64 B, .int .i64 O] := by
  obtain ⟨cs, rfl, hsz⟩ := okWide_struct Try.underlying24 hv
  have hC : Try.prog.cellsOf 24 = 5 := by kernel_rfl
  have hCi : Try.prog.cellsOf 3 = 1 := by kernel_rfl
  have hCb : Try.prog.cellsOf 4 = 1 := by kernel_rfl
  have hCe : Try.prog.cellsOf 22 = 1 := by kernel_rfl
  rw [hC] at hsz
  obtain ⟨cs⟩ := cs
  match cs, hsz with
  | [v0, v1, v2, v3, v4], _ =>
    obtain ⟨fuel, hf⟩ := h
    obtain ⟨ys, n', _, _, hlen, hyl, hg⟩ := DataW.trod_struct Try.underlying24 hf
    have get : ∀ j, j < 5 → ∃ y, ys[j]? = some y := fun j hj => ⟨ys[j]'(by rw [hyl]; exact hj), List.getElem?_eq_getElem _⟩
    obtain ⟨y0, e0⟩ := get 0 (by decide)
    obtain ⟨y1, e1⟩ := get 1 (by decide)
    obtain ⟨y2, e2⟩ := get 2 (by decide)
    obtain ⟨y3, e3⟩ := get 3 (by decide)
    obtain ⟨y4, e4⟩ := get 4 (by decide)
    have g0 : DataW.trod enc Try.prog w base (fun _ => true) held n' 3 [v0] = some y0 := by have h := hg 0 _ rfl; rw [e0] at h; simpa [hCi, Value.cells] using h
    have g1 : DataW.trod enc Try.prog w base (fun _ => true) held n' 3 [v1] = some y1 := by have h := hg 1 _ rfl; rw [e1] at h; simpa [hCi, Value.cells] using h
    have g2 : DataW.trod enc Try.prog w base (fun _ => true) held n' 4 [v2] = some y2 := by have h := hg 2 _ rfl; rw [e2] at h; simpa [hCb, Value.cells] using h
    have g3 : DataW.trod enc Try.prog w base (fun _ => true) held n' 22 [v3] = some y3 := by have h := hg 3 _ rfl; rw [e3] at h; simpa [hCe, Value.cells] using h
    have g4 : DataW.trod enc Try.prog w base (fun _ => true) held n' 22 [v4] = some y4 := by have h := hg 4 _ rfl; rw [e4] at h; simpa [hCe, Value.cells] using h
    obtain ⟨k0, h0, _, _⟩ := DataW.trod_int Try.underlying3 g0
    obtain ⟨k1, h1, _, _⟩ := DataW.trod_int Try.underlying3 g1
    obtain ⟨k2, h2, _⟩ := DataW.trod_bool Try.underlying4 g2
    obtain ⟨k3, h3, _, _⟩ := DataW.trod_int Try.underlying22 g3
    obtain ⟨k4, h4, _, _⟩ := DataW.trod_int Try.underlying22 g4
    simp at h0 h1 h2 h3 h4
    exact ⟨k0, k1, k2, k3, k4, by rw [h0, h1, h2, h3, h4]⟩

set_option maxRecDepth 100000 in
theorem open_items {fuel len cap : Nat} {a : Option Addr} {x : DataW H × List MemPlace} (h : DataW.trod enc Try.prog w base (fun _ => true) held fuel 37 [.slice a len cap] = some x) : len ≤ 9223372036854775807 ∧ IsItems w a len := by
  rcases open_slice Try.underlying37 h with ⟨hcs, _⟩ | ⟨p, l, c, m, n, D, Pl, hcs, hb, hl, hm, hmm, hx, hi⟩
  · simp at hcs
    obtain ⟨rfl, rfl, rfl⟩ := hcs
    exact ⟨by omega, [], rfl, Items.nil _ _, by simp, by simp, by simp, by simp, by simp⟩
  · simp at hcs
    obtain ⟨rfl, rfl, rfl⟩ := hcs
    have hC : Try.prog.cellsOf 28 = 2 := by kernel_rfl
    have hCi : Try.prog.cellsOf 3 = 1 := by kernel_rfl
    have hCs : Try.prog.cellsOf 25 = 1 := by kernel_rfl
    have hC8 : Try.prog.cellsOf 5 = 1 := by kernel_rfl
    simp at hmm
    have hlen : len ≤ 9223372036854775807 := by unfold maxLen at hm; omega
    have one : ∀ i, i < len → ∃ (b off : Nat) (t : Thing), p = ⟨b, off, none⟩ ∧ w.cell? ⟨b, off + i * 2, none⟩ = some (.int .i64 t.t) ∧ w.cell? ⟨b, off + i * 2 + 1, none⟩ = some (.slice t.a t.x.length t.c) ∧ Ints .u8 w t.a t.x ∧ (t.x.length ≤ t.c ∧ t.c ≤ 9223372036854775807) ∧ (-9223372036854775808 ≤ t.t ∧ t.t ≤ 9223372036854775807) ∧ Octets t.x := by
      intro i hil
      have hspot : p.spot = none := by
        obtain ⟨cs, hc, ht⟩ := hi 0 (by omega)
        rw [hC] at hc
        obtain ⟨_, hcl, hat⟩ := World.cells?_some hc
        have c0 := hat 0 (by omega)
        rw [List.getElem?_eq_getElem (by omega)] at c0
        simpa [Addr.add] using World.cell?_spot c0
      obtain ⟨cs, hc, ht⟩ := hi i (by omega)
      rw [hC] at hc
      obtain ⟨_, hcl, hat⟩ := World.cells?_some hc
      obtain ⟨ys, n', _, _, hlen', hyl, hf⟩ := DataW.trod_struct Try.underlying28 ht
      rw [hC] at hlen'
      match cs, hlen' with
      | [v0, v1], _ =>
        have get : ∀ j, j < 2 → ∃ y, ys[j]? = some y := fun j hj => ⟨ys[j]'(by rw [hyl]; exact hj), List.getElem?_eq_getElem _⟩
        obtain ⟨y0, e0⟩ := get 0 (by decide)
        obtain ⟨y1, e1⟩ := get 1 (by decide)
        have g0 : DataW.trod enc Try.prog w base (fun _ => true) held n' 3 [v0] = some y0 := by have h := hf 0 _ rfl; rw [e0] at h; simpa [hCi] using h
        have g1 : DataW.trod enc Try.prog w base (fun _ => true) held n' 25 [v1] = some y1 := by have h := hf 1 _ rfl; rw [e1] at h; simpa [hCs] using h
        obtain ⟨k, h0, _, hwk⟩ := DataW.trod_int Try.underlying3 g0
        simp at h0
        subst h0
        have c0 := hat 0 (by omega)
        have c1 := hat 1 (by omega)
        simp only [List.getElem?_cons_zero, List.getElem?_cons_succ] at c0 c1
        obtain ⟨b, off, spot⟩ := p
        simp at hspot
        subst hspot
        rw [add_none, add_none] at c0 c1
        rw [Nat.add_zero] at c0
        have hk : -9223372036854775808 ≤ k ∧ k ≤ 9223372036854775807 := by
          simp [Lit.wf, IntKind.min, IntKind.max, IntKind.bits, IntKind.signed] at hwk
          omega
        rcases open_ints Try.underlying25 Try.underlying5 hC8 g1 with ⟨hcs, _⟩ | ⟨p2, l2, cp2, zs, hcs, _, hl2, hm2, hz, _, hcell, hwz⟩
        · simp at hcs
          subst hcs
          exact ⟨b, off, ⟨k, [], none, 0⟩, rfl, c0, c1, Ints.nil _ _ _, ⟨by simp, by simp⟩, hk, fun x hx => by simp at hx⟩
        · simp at hcs
          subst hcs
          have hrow : IsRow .u8 w (some p2) l2 cp2 zs := .inr ⟨p2, rfl, hl2, hm2, by simpa using hz, hcell, hwz⟩
          obtain ⟨z, rfl, hz0, hz1, hz2, hz3⟩ := hrow.ints
          exact ⟨b, off, ⟨k, z, some p2, cp2⟩, rfl, c0, c1, hz2, ⟨hz0, hz1⟩, hk, wf_u8 hz3⟩
    have all : ∀ n, n ≤ len → ∃ ts : List Thing, ts.length = n ∧ ∀ i, (hi : i < ts.length) → ∃ (b off : Nat), p = ⟨b, off, none⟩ ∧ w.cell? ⟨b, off + i * 2, none⟩ = some (.int .i64 ts[i].t) ∧ w.cell? ⟨b, off + i * 2 + 1, none⟩ = some (.slice ts[i].a ts[i].x.length ts[i].c) ∧ Ints .u8 w ts[i].a ts[i].x ∧ (ts[i].x.length ≤ ts[i].c ∧ ts[i].c ≤ 9223372036854775807) ∧ (-9223372036854775808 ≤ ts[i].t ∧ ts[i].t ≤ 9223372036854775807) ∧ Octets ts[i].x := by
      intro n
      induction n with
      | zero => intro _; exact ⟨[], rfl, fun i hi => by simp at hi⟩
      | succ n ih =>
        intro hn
        obtain ⟨ts, hts, hall⟩ := ih (by omega)
        obtain ⟨b, off, t, hp, r1, r2, r3, r4, r5, r6⟩ := one n (by omega)
        refine ⟨ts ++ [t], by simp [hts], fun i hi => ?_⟩
        rcases Nat.lt_or_ge i ts.length with hlt | hge
        · obtain ⟨b', off', q1, q2⟩ := hall i hlt
          rw [List.getElem_append_left hlt]
          exact ⟨b', off', q1, q2⟩
        · obtain rfl : i = ts.length := by simp at hi; omega
          rw [List.getElem_append_right (Nat.le_refl _)]
          simp only [Nat.sub_self, List.getElem_cons_zero]
          rw [hts]
          exact ⟨b, off, hp, r1, r2, r3, r4, r5, r6⟩
    obtain ⟨ts, hts, hall⟩ := all len (Nat.le_refl _)
    have mem : ∀ t ∈ ts, ∃ i, ∃ (hi : i < ts.length), ts[i] = t := fun t ht => List.mem_iff_getElem.1 ht
    refine ⟨hlen, ts, hts, ⟨?_, ?_, ?_, ?_, by omega, ?_⟩⟩
    · intro i hi
      obtain ⟨b, off, hp, r1, r2, _⟩ := hall i hi
      exact ⟨b, off, by rw [hp], r1, r2⟩
    · intro t ht; obtain ⟨i, hi, rfl⟩ := mem t ht; obtain ⟨_, _, _, _, _, r, _⟩ := hall i hi; exact r
    · intro t ht; obtain ⟨i, hi, rfl⟩ := mem t ht; obtain ⟨_, _, _, _, _, _, r, _⟩ := hall i hi; exact r
    · intro t ht; obtain ⟨i, hi, rfl⟩ := mem t ht; obtain ⟨_, _, _, _, _, _, _, r, _⟩ := hall i hi; exact r
    · intro t ht; obtain ⟨i, hi, rfl⟩ := mem t ht; obtain ⟨_, _, _, _, _, _, _, _, r⟩ := hall i hi; exact r
end
end Go.Proofs.Ytfdkkcndadjcaaa
