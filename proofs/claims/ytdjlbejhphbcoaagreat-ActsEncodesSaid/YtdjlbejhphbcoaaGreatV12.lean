/- Put together out of several texts. -/
import Derived.Test.YtdjlbejhphbcoaaGreatV11
import Derived.Test.YtdjlbejhphbcoaaGreatV1
import Derived.RangeFuncNested
import Derived.RangeFuncLeaves
import Derived.OwnWalkIn
import Derived.TacticsInMore
import Derived.Test.YtdjlbejhphbcoaaGreatV13
import Derived.Test.YtdjlbejhphbcoaaGreatV19
namespace Go.Proofs.YtdjlbejhphbcoaaGreat
open Go.ChangeShapes Go.WideShapes Go.RowKit Go.Deep
set_option linter.unusedVariables false
set_option maxRecDepth 100000

theorem Ent12.cs_length (g : Ent12) : g.cs.length = 10 := rfl
/-- a slice of actions that lies at a -/
def Acts (w : World) (a : Option Addr) (l : List Ent12) : Prop :=
  ∀ i, (hi : i < l.length) → ∃ b off, a = some ⟨b, off, none⟩ ∧ ∀ j, j < 10 → w.cell? ⟨b, off + i * 10 + j, none⟩ = (l[i].cs)[j]?
/-- an action of it, cell by cell -/
theorem Acts.ten {w : World} {b off : Nat} {l : List Ent12} (h : Acts w (some ⟨b, off, none⟩) l) (i : Nat) (hi : i < l.length) :
    w.cell? ⟨b, off + i * 10, none⟩ = some (.int .i64 l[i].T) ∧ w.cell? ⟨b, off + i * 10 + 1, none⟩ = some (.int .u64 l[i].A) ∧ w.cell? ⟨b, off + i * 10 + 2, none⟩ = some (.int .u64 l[i].B) ∧ w.cell? ⟨b, off + i * 10 + 3, none⟩ = some (.int .i64 l[i].o.C) ∧ w.cell? ⟨b, off + i * 10 + 4, none⟩ = some (.int .i64 l[i].o.F) ∧ w.cell? ⟨b, off + i * 10 + 5, none⟩ = some (.bool l[i].o.H) ∧ w.cell? ⟨b, off + i * 10 + 6, none⟩ = some (.int .u64 l[i].o.X) ∧ w.cell? ⟨b, off + i * 10 + 7, none⟩ = some (.slice l[i].va l[i].o.v.length l[i].vc) ∧ w.cell? ⟨b, off + i * 10 + 8, none⟩ = some (.slice l[i].ma l[i].o.m.length l[i].mc) ∧ w.cell? ⟨b, off + i * 10 + 9, none⟩ = some (.slice l[i].da l[i].d.length l[i].dc) := by
  obtain ⟨b', off', he, hc⟩ := h i hi
  simp only [Option.some.injEq, Addr.mk.injEq] at he
  obtain ⟨rfl, rfl, _⟩ := he
  exact ⟨hc 0 (by omega), hc 1 (by omega), hc 2 (by omega), hc 3 (by omega), hc 4 (by omega), hc 5 (by omega), hc 6 (by omega), hc 7 (by omega), hc 8 (by omega), hc 9 (by omega)⟩
theorem act_cell (g : Ent12) {j : Nat} (hj : j < 10) : ∃ v, (g.cs)[j]? = some v := ⟨_, List.getElem?_eq_getElem (by rw [g.cs_length]; exact hj)⟩
theorem Acts.below {w w' : World} {a : Option Addr} {l : List Ent12} (h : Acts w a l) (hb : Below w.heap.size w w') : Acts w' a l := by
  intro i hi
  obtain ⟨b, off, ha, hc⟩ := h i hi
  refine ⟨b, off, ha, fun j hj => ?_⟩
  obtain ⟨v, hv⟩ := act_cell l[i] hj
  have k := hc j hj
  rw [hv] at k ⊢
  exact cell_keep k hb
theorem Acts.nil (w : World) (a : Option Addr) : Acts w a [] := fun i hi => absurd hi (by simp)
/-- the actions' cells, one behind the other -/
def actCells (l : List Ent12) : List Value := l.flatMap Ent12.cs
theorem actCells_append (l m : List Ent12) : actCells (l ++ m) = actCells l ++ actCells m := by simp [actCells]
theorem actCells_length (l : List Ent12) : (actCells l).length = l.length * 10 := by
  induction l with
  | nil => rfl
  | cons h l ih =>
    have e : actCells (h :: l) = h.cs ++ actCells l := by simp [actCells]
    rw [e, List.length_append, ih, h.cs_length, List.length_cons]
    omega
theorem actCells_at (l : List Ent12) (i : Nat) (hi : i < l.length) (j : Nat) (hj : j < 10) : (actCells l)[i * 10 + j]? = (l[i].cs)[j]? := by
  induction l generalizing i with
  | nil => simp at hi
  | cons h l ih =>
    have e : actCells (h :: l) = h.cs ++ actCells l := by simp [actCells]
    have hl : h.cs.length = 10 := rfl
    rw [e]
    cases i with
    | zero => rw [Nat.zero_mul, Nat.zero_add, List.getElem?_append_left (by omega)]; rfl
    | succ i =>
      rw [List.getElem?_append_right (by omega), hl, show (i + 1) * 10 + j - 10 = i * 10 + j by omega]
      exact ih i (by simpa using hi)
theorem own_acts {w : World} {e : TypeId} {v : Value} {l : List Ent12} (h : w.ownsRow 0 e 10 v l.length (actCells l)) :
    ∃ a c, v = .slice a l.length c ∧ l.length ≤ c ∧ c ≤ 9223372036854775807 ∧ Acts w a l ∧ (a = none ∨ ∃ g, a = some ⟨g, 0, none⟩ ∧ v.ownBlock = some g) := by
  rcases h.2 with ⟨rfl, h0⟩ | ⟨g, cap, cur, rfl, _, hg, hnc, hcm, hcs, htake⟩
  · have : l = [] := List.eq_nil_of_length_eq_zero h0
    subst this
    exact ⟨none, 0, rfl, by simp, by simp, Acts.nil _ _, .inl rfl⟩
  · refine ⟨some ⟨g, 0, none⟩, cap, rfl, hnc, by unfold maxLen at hcm; omega, ?_, .inr ⟨g, rfl, rfl⟩⟩
    have at_ : ∀ j, j < l.length * 10 → w.cell? ⟨g, 0 + j, none⟩ = (actCells l)[j]? := by
      intro j hj
      rw [Nat.zero_add, cell_of_row w g j cur e (0, 0) hg, ← htake, List.getElem?_take, if_pos hj, Array.getElem?_toList]
    intro i hi
    refine ⟨g, 0, rfl, fun j hj => ?_⟩
    rw [Nat.add_assoc]
    exact (at_ _ (by omega)).trans (actCells_at l i hi j hj)
theorem act_flat (l : List Ent12) : ∀ u ∈ actCells l, u.oneCell' = true := by
  intro u hu
  simp only [actCells, List.mem_flatMap] at hu
  obtain ⟨h, _, hu⟩ := hu
  simp [Ent12.cs] at hu
  rcases hu with rfl | rfl | rfl | rfl | rfl | rfl | rfl | rfl | rfl | rfl <;> rfl
theorem acts_cells {w : World} {ad : Addr} {l : List Ent12} (h : Acts w (some ad) l) : ∀ j u, (actCells l)[j]? = some u → w.cell? (ad.add j) = some u := by
  intro j u hj
  have hjl : j < l.length * 10 := by
    have := (List.getElem?_eq_some_iff.1 hj).1
    rwa [actCells_length] at this
  have hi : j / 10 < l.length := by omega
  obtain ⟨b, off, he, c0⟩ := h (j / 10) hi
  obtain rfl := Option.some.inj he
  have hm : j % 10 < 10 := Nat.mod_lt _ (by omega)
  have e := actCells_at l (j / 10) hi (j % 10) hm
  rw [show j / 10 * 10 + j % 10 = j by omega] at e
  rw [e] at hj
  rw [add_none, show off + j = off + j / 10 * 10 + j % 10 by omega]
  exact (c0 _ hm).trans hj
theorem acts_box {w : World} {b : Nat} {l : List Ent12} (h : BoxL w b (actCells l)) : Acts w (some ⟨b, 0, none⟩) l := by
  intro i hi
  refine ⟨b, 0, rfl, fun j hj => ?_⟩
  have e := actCells_at l i hi j hj
  obtain ⟨v, hv⟩ := act_cell l[i] hj
  rw [hv] at e ⊢
  rw [Nat.zero_add]
  exact h.cell _ _ e
theorem acts_one (w : World) (h : Ent12) (t : TypeId) : Acts (w.alloc (.cells h.cs.toArray t)) (some ⟨w.heap.size, 0, none⟩) [h] :=
  acts_box (by have := BoxL.new w h.cs t; simpa [actCells] using this)
/-- all of a list's actions are there -/
def AllIn (w : World) (l : List Ent12) : Prop := ∀ g ∈ l, ActIn w g
theorem AllIn.below {w w' : World} {l : List Ent12} (h : AllIn w l) (hb : Below w.heap.size w w') : AllIn w' l := fun g hg => (h g hg).below hb
end Go.Proofs.YtdjlbejhphbcoaaGreat
namespace Go.Proofs.YtdjlbejhphbcoaaGreat
open Go.ChangeShapes Go.WideShapes Go.RowKit Go.Deep
set_option linter.unusedVariables false

section
variable {H : Type} {enc : TypeId × Value → H} {w : World} {base : Nat} {held : Bool}
set_option maxRecDepth 100000 in
/-- the cells of an action, inside of another thing -/
theorem open_act_cells {fuel : Nat} {cs : List Value} {z : DataW H × List MemPlace} (h : DataW.trod enc Tryz.prog w base (fun _ => true) held fuel 27 cs = some z) :
    ∃ g : Ent12, cs = g.cs ∧ ActArg w g := by
  have hC : Tryz.prog.cellsOf 27 = 10 := by kernel_rfl
  have hCi : Tryz.prog.cellsOf 3 = 1 := by kernel_rfl
  have hCu : Tryz.prog.cellsOf 22 = 1 := by kernel_rfl
  have hCo : Tryz.prog.cellsOf 25 = 6 := by kernel_rfl
  have hCs : Tryz.prog.cellsOf 23 = 1 := by kernel_rfl
  have hsz : cs.length = 10 := by
    obtain ⟨_, _, _, _, hlen, _, _⟩ := DataW.trod_struct Tryz.underlying27 h
    rw [hC] at hlen; exact hlen
  match cs, hsz with
  | [v0, v1, v2, v3, v4, v5, v6, v7, v8, v9], _ =>
    obtain ⟨ys, n', _, _, hlen, hyl, hg⟩ := DataW.trod_struct Tryz.underlying27 h
    have get : ∀ j, j < 5 → ∃ y, ys[j]? = some y := fun j hj => ⟨ys[j]'(by rw [hyl]; exact hj), List.getElem?_eq_getElem _⟩
    obtain ⟨y0, e0⟩ := get 0 (by decide)
    obtain ⟨y1, e1⟩ := get 1 (by decide)
    obtain ⟨y2, e2⟩ := get 2 (by decide)
    obtain ⟨y3, e3⟩ := get 3 (by decide)
    obtain ⟨y4, e4⟩ := get 4 (by decide)
    have g0 : DataW.trod enc Tryz.prog w base (fun _ => true) held n' 3 [v0] = some y0 := by have h := hg 0 _ rfl; rw [e0] at h; simpa [hCi, Value.cells] using h
    have g1 : DataW.trod enc Tryz.prog w base (fun _ => true) held n' 22 [v1] = some y1 := by have h := hg 1 _ rfl; rw [e1] at h; simpa [hCi, hCu, Value.cells] using h
    have g2 : DataW.trod enc Tryz.prog w base (fun _ => true) held n' 22 [v2] = some y2 := by have h := hg 2 _ rfl; rw [e2] at h; simpa [hCi, hCu, Value.cells] using h
    have g3 : DataW.trod enc Tryz.prog w base (fun _ => true) held n' 25 [v3, v4, v5, v6, v7, v8] = some y3 := by have h := hg 3 _ rfl; rw [e3] at h; simpa [hCi, hCu, hCo, Value.cells] using h
    have g4 : DataW.trod enc Tryz.prog w base (fun _ => true) held n' 23 [v9] = some y4 := by have h := hg 4 _ rfl; rw [e4] at h; simpa [hCi, hCu, hCo, hCs, Value.cells] using h
    obtain ⟨k0, h0, _, u0⟩ := DataW.trod_int Tryz.underlying3 g0
    obtain ⟨k1, h1, _, u1⟩ := DataW.trod_int Tryz.underlying22 g1
    obtain ⟨k2, h2, _, u2⟩ := DataW.trod_int Tryz.underlying22 g2
    obtain ⟨C, F, G, X, va, vl, vc, ma, ml, mc, bv, bm, he, hin⟩ := open_oxm_cells g3
    obtain ⟨da, n9, dc, bd, rfl, q9, i9, o9, r9, t9⟩ := open_bytes8 g4
    simp at h0 h1 h2 he
    obtain ⟨rfl, rfl, rfl, rfl, rfl, rfl⟩ := he
    obtain ⟨hc, hf2, hx, rfl, rfl, iv, im, ov, om, cv, cm⟩ := hin
    subst q9
    refine ⟨⟨k0, k1, k2, ⟨C, F, G, X, bv, bm⟩, va, vc, ma, mc, bd, da, dc⟩, by rw [h0, h1, h2]; rfl, ⟨?_, ?_, ?_, hc, hf2, hx, iv, im, i9, ov, om, o9, cm.1⟩⟩
    · simp [Lit.wf, IntKind.min, IntKind.max, IntKind.bits, IntKind.signed] at u0; show _ ≤ k0 ∧ k0 ≤ _; omega
    · simp [Lit.wf, IntKind.min, IntKind.max, IntKind.bits, IntKind.signed] at u1; show _ ≤ k1 ∧ k1 ≤ _; omega
    · simp [Lit.wf, IntKind.min, IntKind.max, IntKind.bits, IntKind.signed] at u2; show _ ≤ k2 ∧ k2 ≤ _; omega
/-- actions that came in -/
def IsActs (w : World) (a : Option Addr) (len : Nat) : Prop := ∃ l : List Ent12, l.length = len ∧ Acts w a l ∧ ∀ h ∈ l, ActArg w h
set_option maxRecDepth 100000 in
theorem open_acts_of {T : TypeId} (hT : Tryz.prog.underlying T = some (.slice 27)) {fuel len cap : Nat} {a : Option Addr} {x : DataW H × List MemPlace} (h : DataW.trod enc Tryz.prog w base (fun _ => true) held fuel T [.slice a len cap] = some x) : len ≤ 9223372036854775807 ∧ IsActs w a len := by
  rcases open_slice hT h with ⟨hcs, _⟩ | ⟨p, l, c, m, n, D, Pl, hcs, hb, hl, hm, hmm, hx, hi⟩
  · simp at hcs
    obtain ⟨rfl, rfl, rfl⟩ := hcs
    exact ⟨by omega, [], rfl, Acts.nil _ _, by simp⟩
  · simp at hcs
    obtain ⟨rfl, rfl, rfl⟩ := hcs
    have hC : Tryz.prog.cellsOf 27 = 10 := by kernel_rfl
    simp at hmm
    have hlen : len ≤ 9223372036854775807 := by unfold maxLen at hm; omega
    have one : ∀ i, i < len → ∃ (b off : Nat) (t : Ent12), p = ⟨b, off, none⟩ ∧ (∀ j, j < 10 → w.cell? ⟨b, off + i * 10 + j, none⟩ = t.cs[j]?) ∧ ActArg w t := by
      intro i hil
      have hspot : p.spot = none := by
        obtain ⟨cs, hc, ht⟩ := hi 0 (by omega)
        rw [hC] at hc
        obtain ⟨_, hcl, hat⟩ := World.cells?_some hc
        have c0 := hat 0 (by omega)
        rw [List.getElem?_eq_getElem (by omega)] at c0
        simpa [Addr.add] using World.cell?_spot c0
      obtain ⟨cs, hc, ht⟩ := hi i (by omega)
      rw [hC] at hc
      obtain ⟨_, hcl, hat⟩ := World.cells?_some hc
      obtain ⟨t, rfl, hin⟩ := open_act_cells ht
      obtain ⟨b, off, spot⟩ := p
      simp at hspot
      subst hspot
      refine ⟨b, off, t, rfl, fun j hj => ?_, hin⟩
      have := hat j (by omega)
      rw [add_none, add_none] at this
      exact this
    have all : ∀ n, n ≤ len → ∃ ts : List Ent12, ts.length = n ∧ ∀ i, (hi : i < ts.length) → ∃ (b off : Nat), p = ⟨b, off, none⟩ ∧ (∀ j, j < 10 → w.cell? ⟨b, off + i * 10 + j, none⟩ = ts[i].cs[j]?) ∧ ActArg w ts[i] := by
      intro n
      induction n with
      | zero => intro _; exact ⟨[], rfl, fun i hi => by simp at hi⟩
      | succ n ih =>
        intro hn
        obtain ⟨ts, hts, hall⟩ := ih (by omega)
        obtain ⟨b, off, t, hp, r1, r2⟩ := one n (by omega)
        refine ⟨ts ++ [t], by simp [hts], fun i hi => ?_⟩
        rcases Nat.lt_or_ge i ts.length with hlt | hge
        · obtain ⟨b', off', q1, q2⟩ := hall i hlt
          rw [List.getElem_append_left hlt]
          exact ⟨b', off', q1, q2⟩
        · obtain rfl : i = ts.length := by simp at hi; omega
          rw [List.getElem_append_right (Nat.le_refl _)]
          simp only [Nat.sub_self, List.getElem_cons_zero]
          rw [hts]
          exact ⟨b, off, hp, r1, r2⟩
    obtain ⟨ts, hts, hall⟩ := all len (Nat.le_refl _)
    refine ⟨hlen, ts, hts, ?_, ?_⟩
    · intro i hi
      obtain ⟨b, off, hp, r, _⟩ := hall i hi
      exact ⟨b, off, by rw [hp], r⟩
    · intro t ht
      obtain ⟨i, hi, rfl⟩ := List.mem_iff_getElem.1 ht
      obtain ⟨_, _, _, _, r⟩ := hall i hi
      exact r
theorem open_acts {fuel len cap : Nat} {a : Option Addr} {x : DataW H × List MemPlace} (h : DataW.trod enc Tryz.prog w base (fun _ => true) held fuel 43 [.slice a len cap] = some x) : len ≤ 9223372036854775807 ∧ IsActs w a len :=
  open_acts_of Tryz.underlying43 h
end
end Go.Proofs.YtdjlbejhphbcoaaGreat
namespace Go.Proofs.YtdjlbejhphbcoaaGreat
open Go.RowKit

/-- The iterator gf over lb, for every body that goes on at a value, keeps the blocks of K, and leaves at an error. Of a value x that comes X x holds. -/
def YieldsU {α β : Type} (P : Program) (gf : Nat) (lb : Array Value) (enc : α → Array Value) (bad : β → Array Value) (X : List α → α → Nat → World → Prop) (K : Nat → Prop) (S : List α → Prop) (Sp : List α → β → Prop) (N : Nat) (w : World) : Prop :=
  ∀ (l : Nat) (J : List α → World → Prop) (Jx : List α → β → World → Prop) (W : World), Below w.heap.size w W →
    (∀ pre A B, J pre A → Below A.heap.size A B → J pre B) →
    (∀ pre x W0 W1, J pre W0 → Below W0.heap.size W0 W1 → X pre x W0.heap.size W1 → pre.length < N → YieldAt Fence.wide 0 P l (enc x) W1 fun e W' => e = .returned (.bool true) ∧ J (pre ++ [x]) W' ∧ W1.heap.size ≤ W'.heap.size ∧ ∀ k, K k → k < W1.heap.size → W'.heap[k]? = W1.heap[k]?) →
    (∀ pre q W1, J pre W1 → Sp pre q → YieldAt Fence.wide 0 P l (bad q) W1 fun e W' => e = .returned (.bool false) ∧ Jx pre q W') →
    J [] W → Calls P gf (#[.func (.yield l) #[] #[]] ++ lb) W fun e W' => (∃ v, e = .returned v) ∧ ((∃ xs, S xs ∧ J xs W') ∨ ∃ pre q, Sp pre q ∧ Jx pre q W')

/-- the jump by which a round ends -/
def jumpU : Exit → Option Code
  | .ret => some .ret
  | .exit id => some (.exit id)
  | .goto t => some (.goto t)
  | _ => none
/-- how a round ends at an error, by the jump c -/
def badPostU (c : Code) (B : Nat) (I : World → Prop) (W : World) (e : Exit) (_ : Act) (W' : World) : Prop := jumpU e = some c ∧ KeepsFrom B W W' ∧ I W'

theorem wp_rangeU {α β : Type} {P : Program} {gf : Nat} {lb : Array Value} {enc : α → Array Value} {bad : β → Array Value} {X : List α → α → Nat → World → Prop} {K : Nat → Prop} {S : List α → Prop} {Sp : List α → β → Prop} {N : Nat}
    {g : Operand} {jc : Code} {ps : Array Tmp} {assign body : Code} {Q : Exit → Act → World → Prop} {a : Act} {w : World}
    (hg : a.eval g = .func (.func gf) #[] lb) (eg : ∀ args w, (callFunc gf args).run P w = .ok (.enter gf args) w)
    (hseq : YieldsU P gf lb enc bad X K S Sp N w) (hK : ∀ k, K k → k < w.heap.size) (hps : ∀ x, (enc x).size = ps.size) (hpb : ∀ q, (bad q).size = ps.size)
    (I : List α → World → Prop) (Ix : List α → β → World → Prop) (hI : OwnFrom w.heap.size I) (hX : ∀ pre n, OwnFrom w.heap.size (fun x W => X pre x n W)) (hIx : OwnFrom w.heap.size (fun (s : List α × β) W => Ix s.1 s.2 W)) (h0 : I [] w)
    (A : α → Act → World → Prop) (hA : ∀ x a', OwnFrom w.heap.size (fun (_ : Unit) W => A x a' W)) (Ab : β → Act → World → Prop) (hAb : ∀ q a', OwnFrom w.heap.size (fun (_ : Unit) W => Ab q a' W))
    (hasg : ∀ (l : Nat) (x : α) (W : World) (C : Act → World → Prop), (∀ a' W', Below W.heap.size W W' → A x a' W' → C a' W') →
      assign.wpIn (Fence.wide.inRound l) 0 P (Exit.then C (fun _ _ _ => False)) { tmps := (ps.zip (enc x)).foldl (fun t (p, v) => t.setIfInBounds p v) a.tmps, defers := [] } W)
    (hasb : ∀ (l : Nat) (q : β) (W : World) (C : Act → World → Prop), (∀ a' W', Below W.heap.size W W' → Ab q a' W' → C a' W') →
      assign.wpIn (Fence.wide.inRound l) 0 P (Exit.then C (fun _ _ _ => False)) { tmps := (ps.zip (bad q)).foldl (fun t (p, v) => t.setIfInBounds p v) a.tmps, defers := [] } W)
    (hgood : ∀ (l : Nat) (pre : List α) (x : α) (a' : Act) (W0 W : World), w.heap.size ≤ W.heap.size → pre.length < N → I pre W0 → (∀ p u, W0.cell? p = some u → W.cell? p = some u) → I pre W → X pre x W0.heap.size W → A x a' W → body.wpIn (Fence.wide.inRound l) 0 P (goodPost w.heap.size K (I (pre ++ [x])) W) a' W)
    (hbad : ∀ (l : Nat) (pre : List α) (q : β) (a' : Act) (W : World), w.heap.size ≤ W.heap.size → Sp pre q → I pre W → Ab q a' W → body.wpIn (Fence.wide.inRound l) 0 P (badPostU jc w.heap.size (Ix pre q) W) a' W)
    (hdone : ∀ (D : Nat) (xs : List α) (W : World), w.heap.size ≤ D → S xs → I xs W → W.heap[D]? = some (.deferred (some [])) → Q .normal { a with defers := { target := .collected D, args := #[] } :: a.defers } W)
    (hstop : ∀ (D : Nat) (pre : List α) (q : β) (W : World), w.heap.size ≤ D → Sp pre q → Ix pre q W → W.heap[D]? = some (.deferred (some [])) → jc.wpIn Fence.wide 0 P Q { a with defers := { target := .collected D, args := #[] } :: a.defers } W) :
    (Code.rangeFunc g ps assign body).wp P Q a w := by
  refine (wpIn_wide (n := 0)).1 (wpIn_rangeFunc fun fn hfn => ?_)
  obtain ⟨z, hz⟩ : ∃ z, z = w.heap.size := ⟨_, rfl⟩
  -- the loop's record, in a state, with a jump that is pending
  obtain ⟨rec, hrec⟩ : ∃ rec : LoopState → Option Code → Loop, rec = fun st pe => { state := st, pending := pe, fn, tmps := a.tmps, params := ps, assign, body, defers := z } := ⟨_, rfl⟩
  obtain ⟨V, hV⟩ : ∃ V, (w.alloc (.deferred (some []))).alloc (.loop (rec .ready none)) = V := ⟨_, rfl⟩
  have hb : Below w.heap.size w V := by rw [← hV]; exact ((Below.refl _ w).alloc (Nat.le_refl _) _).alloc (by simp) _
  have hVl : V.heap[z + 1]? = some (.loop (rec .ready none)) := by
    have h := World.alloc_heap_new (w.alloc (.deferred (some []))) (.loop (rec .ready none))
    rwa [World.size_alloc, hV, ← hz] at h
  have hVd : V.heap[z]? = some (.deferred (some [])) := by
    rw [← hV, hz]; exact (Below.heap_alloc _ _ _ (by simp)).trans (World.alloc_heap_new w _)
  have hVs : V.heap.size = z + 2 := by rw [← hV, hz]; simp
  rw [← hz] at hK hI hX hIx hA hAb hgood hbad hdone hstop hb
  refine ⟨z + 1, [{ target := .collected z, args := #[] }], V, { target := .fn (.func gf) lb, args := #[.func (.yield (z + 1)) #[] #[]] }, V, gf, #[.func (.yield (z + 1)) #[] #[]] ++ lb, V, ?_, ?_, fun _ _ => trivial, ?_, fun h => by simp [Fence.wide] at h, ?_⟩
  · rw [← hV, hrec, hz]; exact run_enterLoop_outer _ _ _ _ _
  · simp only [resolve, hg]
    simp [go_sem]
  · simp [invoke, go_sem, eg]
  -- what the law keeps beside the caller's words: the record, and the block for deferred calls
  have stay : ∀ {A B : World} {st : LoopState} {pe : Option Code}, Below A.heap.size A B → A.heap[z + 1]? = some (.loop (rec st pe)) ∧ A.heap[z]? = some (.deferred (some [])) → B.heap[z + 1]? = some (.loop (rec st pe)) ∧ B.heap[z]? = some (.deferred (some [])) :=
    fun hAB h => ⟨(hAB.block _ (Array.getElem?_eq_some_iff.1 h.1).1).trans h.1, (hAB.block _ (Array.getElem?_eq_some_iff.1 h.2).1).trans h.2⟩
  -- the record is turned: 'st', 'pe'
  have turn : ∀ {A : World} {st : LoopState} {pe : Option Code} (st' : LoopState) (pe' : Option Code), A.heap[z + 1]? = some (.loop (rec st pe)) → A.heap[z]? = some (.deferred (some [])) →
      (A.putObj (z + 1) (.loop (rec st' pe'))).heap[z + 1]? = some (.loop (rec st' pe')) ∧ (A.putObj (z + 1) (.loop (rec st' pe'))).heap[z]? = some (.deferred (some [])) :=
    fun st' pe' h1 h2 => ⟨World.putObj_heap_same (Array.getElem?_eq_some_iff.1 h1).1, (World.putObj_heap_other (by omega)).trans h2⟩
  have begin_ : ∀ {A : World}, A.heap[z + 1]? = some (.loop (rec .ready none)) → (Instr.beginRound (z + 1)).run P A = .ok () (A.putObj (z + 1) (.loop (rec .busy none))) := by
    intro A h
    have := run_beginRound (P := P) h (by rw [hrec])
    rw [hrec] at this ⊢
    exact this
  have end_ : ∀ {A : World} (jump : Option Code), A.heap[z + 1]? = some (.loop (rec .busy none)) → (Instr.endRound (z + 1) jump).run P A = .ok (.bool jump.isNone) (A.putObj (z + 1) (.loop (rec (if jump.isNone then .ready else .done) jump))) := by
    intro A jump h
    have := run_endRound (P := P) jump h
    rw [hrec] at this ⊢
    exact this
  have over_ : ∀ {A : World} {st : LoopState} {pe : Option Code}, A.heap[z + 1]? = some (.loop (rec st pe)) → st ≠ .busy → (Instr.endLoop (z + 1)).run P A = .ok pe (A.putObj (z + 1) (.loop (rec .exhausted pe))) := by
    intro A st pe h hs
    have := run_endLoop (P := P) h (by rw [hrec]; exact hs)
    rw [hrec] at this ⊢
    exact this
  have yld : ∀ {A : World} {y : Array Value}, A.heap[z + 1]? = some (.loop (rec .ready none)) → y.size = ps.size →
      (Instr.yield (z + 1) y).run P A = .ok (.round (z + 1) fn ((ps.zip y).foldl (fun t (p, v) => t.setIfInBounds p v) a.tmps) assign body) A := by
    intro A y h hs
    have := run_yield (P := P) (args := y) h (by rw [hrec]; exact hs)
    rw [hrec] at this
    exact this
  refine callsIn_wide.2 ((hseq (z + 1)
    (fun pre W => I pre W ∧ z ≤ W.heap.size ∧ W.heap[z + 1]? = some (.loop (rec .ready none)) ∧ W.heap[z]? = some (.deferred (some [])))
    (fun pre q W => Ix pre q W ∧ W.heap[z + 1]? = some (.loop (rec .done (some jc))) ∧ W.heap[z]? = some (.deferred (some [])))
    V (by rw [hz] at hb; exact hb) (fun pre A B hs hAB => ⟨own_below hI hs.1 hAB, Nat.le_trans hs.2.1 hAB.size, stay hAB hs.2.2⟩) ?_ ?_ ⟨own_below hI h0 (by rw [← hz]; exact hb), by omega, hVl, hVd⟩).mono ?_)
  · rintro pre x W0 W ⟨hi0, hzW0, hl0, hd0⟩ hb0 hx hlen
    have hi := own_below hI hi0 hb0
    have hzW : z ≤ W.heap.size := Nat.le_trans hzW0 hb0.size
    obtain ⟨hl, hd⟩ := stay hb0 ⟨hl0, hd0⟩
    refine ⟨fn, _, assign, body, yld hl (hps x), roundIn_of_wpIn hfn (hasg _ x W _ fun a' Wa hWa hax => ?_)⟩
    obtain ⟨hl1, hd1⟩ := stay hWa ⟨hl, hd⟩
    refine ⟨_, begin_ hl1, ?_⟩
    obtain ⟨hl2, hd2⟩ := turn .busy none hl1 hd1
    have hi2 := hI.putObj (.loop (rec .busy none)) (own_below hI hi hWa) (by omega) hl1 rfl
    have hx2 := (hX pre _).putObj (.loop (rec .busy none)) (own_below (hX pre _) hx hWa) (by omega) hl1 rfl
    have hs2 : (Wa.putObj (z + 1) (.loop (rec .busy none))).heap.size = Wa.heap.size := by simp [World.putObj]
    have hcl : ∀ p u, W0.cell? p = some u → (Wa.putObj (z + 1) (.loop (rec .busy none))).cell? p = some u := fun p u h => by
      have h1 : W.cell? p = some u := (World.cell?_of_block (hb0.block _ (World.block_lt_of_cell? _ _ h))).trans h
      have h2 : Wa.cell? p = some u := (World.cell?_of_block (hWa.block _ (World.block_lt_of_cell? _ _ h1))).trans h1
      exact cell_kept h2 (grownBy_putObj' Wa (z + 1) _) (fun r e => by cases e; exact ⟨_, hl1, rfl⟩)
    refine wpIn_mono (hgood _ pre x a' W0 _ (by rw [hs2]; exact Nat.le_trans hzW hWa.size) hlen hi0 hcl hi2 hx2 ((hA x a').putObj (s := ()) _ hax (by omega) hl1 rfl)) ?_
    rintro e a3 W3 hp
    cases e with
    | normal =>
      obtain ⟨hk3, hkp3, hi3⟩ := hp
      have hl3 := hk3.same _ _ (by omega) hl2 rfl
      have hd3 := hk3.same _ _ (Nat.le_refl _) hd2 rfl
      obtain ⟨hl4, hd4⟩ := turn .ready none hl3 hd3
      have hs4 : (W3.putObj (z + 1) (.loop (rec .ready none))).heap.size = W3.heap.size := by simp [World.putObj]
      have hs3 := hk3.size
      rw [hs2] at hs3
      have hsa := hWa.size
      refine ⟨_, _, end_ none hl3, rfl, ⟨hI.putObj _ hi3 (by omega) hl3 rfl, ?_, hl4, hd4⟩, ?_, ?_⟩
      · show z ≤ (W3.putObj (z + 1) (.loop (rec .ready none))).heap.size
        rw [hs4]; omega
      · show W.heap.size ≤ (W3.putObj (z + 1) (.loop (rec .ready none))).heap.size
        rw [hs4]; omega
      · intro k hkk hkw
        have hkz : k < z := hK k hkk
        have h1 := hWa.block k hkw
        have h2 : (Wa.putObj (z + 1) (.loop (rec .busy none))).heap[k]? = Wa.heap[k]? := World.putObj_heap_other (by omega)
        have h3 := hkp3 k hkk (by rw [hs2]; omega)
        have h4 : (W3.putObj (z + 1) (.loop (rec .ready none))).heap[k]? = W3.heap[k]? := World.putObj_heap_other (by omega)
        exact h4.trans (h3.trans (h2.trans h1))
    | ret => exact hp.elim
    | exit id => exact hp.elim
    | goto t => exact hp.elim
    | panic ch => exact hp.elim
    | outgrown => exact hp.elim
  · rintro pre q W ⟨hi, hzW, hl, hd⟩ hsp
    refine ⟨fn, _, assign, body, yld hl (hpb q), roundIn_of_wpIn hfn (hasb _ q W _ fun a' Wa hWa hax => ?_)⟩
    obtain ⟨hl1, hd1⟩ := stay hWa ⟨hl, hd⟩
    refine ⟨_, begin_ hl1, ?_⟩
    obtain ⟨hl2, hd2⟩ := turn .busy none hl1 hd1
    have hi2 := hI.putObj (.loop (rec .busy none)) (own_below hI hi hWa) (by omega) hl1 rfl
    have hs2 : (Wa.putObj (z + 1) (.loop (rec .busy none))).heap.size = Wa.heap.size := by simp [World.putObj]
    refine wpIn_mono (hbad _ pre q a' _ (by rw [hs2]; exact Nat.le_trans hzW hWa.size) hsp hi2 ((hAb q a').putObj (s := ()) _ hax (by omega) hl1 rfl)) ?_
    rintro e a3 W3 hp
    obtain ⟨hj, hk3, hi3⟩ := hp
    have hl3 := hk3.same _ _ (by omega) hl2 rfl
    have hd3 := hk3.same _ _ (Nat.le_refl _) hd2 rfl
    obtain ⟨hl4, hd4⟩ := turn .done (some jc) hl3 hd3
    have fin : ∃ v W4, (Instr.endRound (z + 1) (some jc)).run P W3 = .ok v W4 ∧ v = .bool false ∧ Ix pre q W4 ∧ W4.heap[z + 1]? = some (.loop (rec .done (some jc))) ∧ W4.heap[z]? = some (.deferred (some [])) :=
      ⟨_, _, end_ (some jc) hl3, rfl, hIx.putObj (s := (pre, q)) _ hi3 (by omega) hl3 rfl, hl4, hd4⟩
    obtain ⟨v, W4, f1, rfl, f2⟩ := fin
    cases e with
    | ret => cases hj; exact ⟨_, _, f1, rfl, f2⟩
    | exit id => cases hj; exact ⟨_, _, f1, rfl, f2⟩
    | goto t => cases hj; exact ⟨_, _, f1, rfl, f2⟩
    | normal => cases hj
    | panic ch => cases hj
    | outgrown => cases hj
  · rintro e W2 ⟨⟨v, rfl⟩, (⟨xs, hS, hi, _, hl, hd⟩ | ⟨pre, q, hSp, hi, hl, hd⟩)⟩
    · exact ⟨none, _, over_ hl (by simp), hdone z xs _ (by omega) hS (hI.putObj _ hi (by omega) hl rfl) ((turn .exhausted none hl hd).2)⟩
    · exact ⟨some jc, _, over_ hl (by simp), hstop z pre q _ (by omega) hSp (hIx.putObj (s := (pre, q)) _ hi (by omega) hl rfl) ((turn .exhausted (some jc) hl hd).2)⟩
end Go.Proofs.YtdjlbejhphbcoaaGreat
namespace Go.Proofs.YtdjlbejhphbcoaaGreat
open Go.RowKit
set_option linter.unusedVariables false
set_option maxRecDepth 100000
attribute [local go_sem] Oper.semAt_some

theorem cell_block13 {w w' : World} {p : Addr} {v : Value} (h : w.cell? p = some v) (hb : w'.heap[p.block]? = w.heap[p.block]?) : w'.cell? p = some v := (World.cell?_of_block (a := p) hb).trans h
theorem ints_kept13 {k : IntKind} {w w' : World} {a : Option Addr} {l : List Int} (h : Ints k w a l) (hb : ∀ j, j < w.heap.size → w'.heap[j]? = w.heap[j]?) : Ints k w' a l := by
  intro i hi
  obtain ⟨b, off, rfl, hc⟩ := h i hi
  exact ⟨b, off, rfl, cell_block13 hc (hb b (World.block_lt_of_cell? w _ hc))⟩
theorem ints_others13 {k : IntKind} {W W' : World} {row : Option Nat} {a : Option Addr} {l : List Int} (h : Ints k W a l) (hg : W.grownBy W' row) (hr : ∀ r, row = some r → ∃ o : Obj, W.heap[r]? = some o ∧ o.isCells = false) : Ints k W' a l := by
  intro i hi
  obtain ⟨b, off, rfl, hc⟩ := h i hi
  exact ⟨b, off, rfl, cell_kept hc hg hr⟩
/-- the blocks of w stand in w' as they stood -/
def Stays13 (w w' : World) : Prop := w.heap.size ≤ w'.heap.size ∧ ∀ k, k < w.heap.size → w'.heap[k]? = w.heap[k]?
theorem Stays13.of_below {w w' : World} (h : Below w.heap.size w w') : Stays13 w w' := ⟨h.size, h.block⟩
theorem ActIn.ints {w w' : World} {g : Ent12} (h : ActIn w g) (hv : Ints .u8 w' g.va g.o.v) (hm : Ints .u8 w' g.ma g.o.m) (hd : Ints .u8 w' g.da g.d) : ActIn w' g :=
  ⟨h.t, h.a, h.b, h.c, h.f, h.x, h.lv, h.lm, h.ld, hv, hm, hd, h.ov, h.om, h.od, h.cm⟩
theorem ActIn.others {W W' : World} {row : Option Nat} {g : Ent12} (e : ActIn W g) (hg : W.grownBy W' row) (hr : ∀ r, row = some r → ∃ o : Obj, W.heap[r]? = some o ∧ o.isCells = false) : ActIn W' g :=
  e.ints (ints_others13 e.iv hg hr) (ints_others13 e.im hg hr) (ints_others13 e.id hg hr)
/-- what has come so far, of bytes of which at_ are read -/
structure PreA (b : List Int) (at_ : Nat) (pre : List Ent12) : Prop where
  le : at_ ≤ b.length
  few : 8 * pre.length ≤ at_
  most : pre.length ≤ 64
  cut : Hid (∀ k, cut13 (pre.length + k) b = match cut13 k (b.drop at_) with
    | .error q => .error q
    | .ok l => .ok (pre.map Ent12.act ++ l))
theorem preA_nil (b : List Int) : PreA b 0 [] := ⟨Nat.zero_le _, by simp, by simp, by
  show ∀ k, _
  intro k
  rw [List.length_nil, Nat.zero_add, List.drop_zero]
  cases cut13 k b <;> rfl⟩
theorem PreA.rest {b : List Int} {at_ : Nat} {pre : List Ent12} (h : PreA b at_ pre) (hlt : at_ < b.length) : b.drop at_ ≠ [] := by
  intro e
  have := congrArg List.length e
  rw [List.length_drop] at this
  simp at this
  omega
theorem PreA.ok {b : List Int} {at_ : Nat} {pre : List Ent12} (h : PreA b at_ pre) (hlt : at_ < b.length) (hp : pre.length < 64) {x : Ent12} {n : Nat} (hd : dec12 (b.drop at_) = .ok (x.act, n)) (hn : n ≤ (b.drop at_).length) (h8 : 8 ≤ n) : PreA b (at_ + n) (pre ++ [x]) := by
  have hb := h.rest hlt
  rw [List.length_drop] at hn
  refine ⟨by omega, by rw [List.length_append]; have := h.few; simp; omega, by rw [List.length_append]; simp; omega, ?_⟩
  show ∀ k, _
  intro k
  have e : (pre ++ [x]).length + k = pre.length + (k + 1) := by rw [List.length_append]; simp; omega
  rw [e, h.cut.out (k + 1), cut_step hb hd, List.drop_drop]
  cases cut13 k (b.drop (at_ + n)) with
  | error q => rfl
  | ok l => simp
theorem PreA.at64 {b : List Int} {at_ : Nat} {pre : List Ent12} (h : PreA b at_ pre) : cut13 64 b = match cut13 (64 - pre.length) (b.drop at_) with
    | .error q => .error q
    | .ok l => .ok (pre.map Ent12.act ++ l) := by
  have := h.cut.out (64 - pre.length)
  rwa [show pre.length + (64 - pre.length) = 64 by have := h.most; omega] at this
theorem PreA.err {b : List Int} {at_ : Nat} {pre : List Ent12} (h : PreA b at_ pre) (hlt : at_ < b.length) (hp : pre.length < 64) {q : Int} (hd : dec12 (b.drop at_) = .error q) : cut13 64 b = .error q := by
  obtain ⟨k, hk⟩ : ∃ k, 64 - pre.length = k + 1 := ⟨63 - pre.length, by omega⟩
  rw [h.at64, hk, cut_err (h.rest hlt) hd]
theorem PreA.many {b : List Int} {at_ : Nat} {pre : List Ent12} (h : PreA b at_ pre) (hlt : at_ < b.length) (hp : pre.length = 64) : cut13 64 b = .error 520 := by
  rw [h.at64, hp, Nat.sub_self, cut_many (h.rest hlt)]
theorem PreA.done {b : List Int} {at_ : Nat} {pre : List Ent12} (h : PreA b at_ pre) (hge : b.length ≤ at_) : cut13 64 b = .ok (pre.map Ent12.act) := by
  rw [h.at64, List.drop_eq_nil_of_le hge, cut_nil]
  simp
/-- an action that comes behind others -/
structure NextA (b : List Int) (pre : List Ent12) (x : Ent12) (n : Nat) (w : World) : Prop where
  new : (∀ q : Addr, x.va = some q → n ≤ q.block) ∧ (∀ q : Addr, x.ma = some q → n ≤ q.block) ∧ (∀ q : Addr, x.da = some q → n ≤ q.block)
  ent : ActIn w x
  front : ∃ k, PreA b k (pre ++ [x])
theorem NextA.own (b : List Int) (pre : List Ent12) (n B : Nat) : OwnFrom B (fun x W => NextA b pre x n W) :=
  fun x W W' row hx hg hr => ⟨hx.new, hx.ent.others hg (fun r e => (hr r e).2), hx.front⟩
/-- what comes at last: an error, or one that is too many -/
structure LastA (b : List Int) (pre : List Ent12) (s : Ent12 × Int) : Prop where
  most : pre.length ≤ 64
  err : pre.length ≠ 64 → s.2 ≠ 0
  is : cut13 64 b = .error (if pre.length = 64 then 520 else s.2)

structure IterA (w0 : World) (a : Option Addr) (c p : Nat) (b : List Int) (at_ : Nat) (pre : List Ent12) (w : World) : Prop where
  front : PreA b at_ pre
  box : w.cell? ⟨p, 0, none⟩ = some (.slice a b.length c)
  lt : p < w.heap.size
  stays : Stays13 w0 w
theorem IterA.kept {w0 w w' : World} {a : Option Addr} {c p : Nat} {b : List Int} {at_ : Nat} {pre : List Ent12} (h : IterA w0 a c p b at_ pre w) (hs : w.heap.size ≤ w'.heap.size) (hk : ∀ k, (k = p ∨ k < w0.heap.size) → k < w.heap.size → w'.heap[k]? = w.heap[k]?) : IterA w0 a c p b at_ pre w' :=
  ⟨h.front, cell_block13 h.box (hk p (.inl rfl) h.lt), Nat.lt_of_lt_of_le h.lt hs, Nat.le_trans h.stays.1 hs, fun k hk' => (hk k (.inr hk') (Nat.lt_of_lt_of_le hk' h.stays.1)).trans (h.stays.2 k hk')⟩
theorem IterA.below {w0 w w' : World} {a : Option Addr} {c p : Nat} {b : List Int} {at_ : Nat} {pre : List Ent12} (h : IterA w0 a c p b at_ pre w) (hb : Below w.heap.size w w') : IterA w0 a c p b at_ pre w' :=
  h.kept hb.size (fun k _ hk => hb.block k hk)
def zeroE : Ent12 := ⟨0, 0, 0, noOx, none, 0, none, 0, [], none, 0⟩

set_option maxHeartbeats 4000000 in
theorem actions_yields (w0 w : World) (a : Option Addr) (c p : Nat) (b : List Int) (hH : Holds w0 a c b) (hI : IterA w0 a c p b 0 [] w) :
    YieldsU (α := Ent12) (β := Ent12 × Int) Tryz.prog 110 #[.pointer (some ⟨p, 0, none⟩)] (fun x => #[x.val, .int .i64 0]) (fun s => #[s.1.val, .int .i64 s.2]) (NextA b) (fun k => k = p ∨ k < w0.heap.size)
      (fun xs => cut13 64 b = .ok (xs.map Ent12.act)) (LastA b) 64 w := by
  intro i J Jx W hW hJ hgood hbad h0
  have HI0 := hid (hI.below hW)
  have hbx := (hI.below hW).box
  have HJ0 := hid hJ
  have HG := hid hgood
  have HB := hid hbad
  have hbc := hH.cap
  have hc := hH.max
  have HO := hid hH.oct
  have HB0 := hid hH.ints
  have HS0 := hid hH.shape
  clear hgood hbad hJ hI hH
  go_enter Tryz.func110, Tryz.ntmps110
  go_wp2
  go_loopw [3] (fun v wr => ∃ (at_ : Nat) (pre : List Ent12), v = .int .i64 at_ ∧ IterA w0 a c p b at_ pre wr ∧ J pre wr ∧ W.heap.size ≤ wr.heap.size) (fun v _ => b.length - (intOf v).toNat)
  case atStart => exact ⟨0, [], rfl, HI0.out, h0, Nat.le_refl _⟩
  case round =>
    obtain ⟨at_, pre, rfl, hi, hj, hsz⟩ := hrel
    have hle := hi.front.le
    have hcell := hi.box
    rcases Nat.lt_or_ge at_ b.length with hlt | hge
    · have hbr := ints_kept13 HB0.out hi.stays.2
      obtain ⟨M, off, hae, _⟩ := hbr at_ hlt
      subst hae
      have hne : ¬ c = at_ := by omega
      have hlti : (at_ : Int) < (b.length : Int) := by omega
      have hcapi : (b.length : Int) ≤ (c : Int) := by omega
      have hlei : (at_ : Int) ≤ (b.length : Int) := by omega
      have hs1 : ((b.length : Int) - (at_ : Int)).toNat = b.length - at_ := by omega
      have hs2 : ((c : Int) - (at_ : Int)).toNat = c - at_ := by omega
      have hd : (b.drop at_).length = b.length - at_ := List.length_drop
      have hdr := hbr.drop (j := at_) hbc
      rw [if_neg (by omega)] at hdr
      have HDEC := actDecode_any (b.drop at_) (some ⟨M, off + at_, none⟩) (c - at_) wr ⟨by rw [hd]; omega, by omega, hdr, HO.out.drop _, fun _ => ⟨_, _, rfl⟩⟩
      rw [hd] at HDEC
      have HD := hid HDEC
      have hplt := hi.lt
      have HI := hid hi
      have HJ := hid hj
      have HLD := hid hd
      clear hi hj hbr hdr HDEC hd
      go_wp2_with fail
      refine HD.out.mono ?_
      rintro e w2 (⟨q, hq, hq0, rfl, hb2⟩ | ⟨x, n, hok, rfl, hb2, hin, hn1, hn2, hn3⟩)
      · have hst : LastA b pre (zeroE, q) := ⟨HI.out.front.most, fun _ => hq0, by
          have hm := HI.out.front.most
          by_cases h64 : pre.length = 64
          · rw [if_pos h64]; exact HI.out.front.many hlt h64
          · rw [if_neg h64]; exact HI.out.front.err hlt (by omega) hq⟩
        have HST := hid hst
        obtain ⟨V, hV, hbV, hx⟩ := act_box w2 0 0 0 0 0 false 0 none 0 0 none 0 0 none 0 0
        have HV := hid hV
        have hb : Below wr.heap.size wr V := below_on hb2 hbV
        obtain ⟨fn, tmps, assign, body, hy, hR⟩ := HB.out pre (zeroE, q) V (HJ0.out _ _ _ HJ.out hb) hst
        have hy : (Instr.yield i #[zero12, .int .i64 q]).run Tryz.prog V = .ok (.round i fn tmps assign body) V := hy
        unfold zero12 at hy
        obtain ⟨x0, x1, x2, x3, x4, x5, x6, x7, x8, x9⟩ := hx.ten
        clear hV hst hx hbV hb2 hq
        unfold zero12
        go_upto_region 3 with fail
        rw [HV.out]
        refine (wpIn_wide (n := 0)).1 ?_
        gi_wp2
        refine ⟨rfl, hR.mono ?_⟩
        rintro e W3 ⟨rfl, hJx⟩
        gi_wp2
        go_wp2
        refine bodyPost_ret (results_none rfl _ _ _) rfl ?_
        exact ⟨⟨_, rfl⟩, .inr ⟨pre, (zeroE, q), HST.out, hJx⟩⟩
      · obtain ⟨T, A, B, ⟨C, F, H, X, v, m⟩, va, vc, ma, mc, d, da, dc⟩ := x
        unfold Ent12.val
        dsimp only
        obtain ⟨V, hV, hbV, hx⟩ := act_box w2 T A B C F H X va v.length vc ma m.length mc da d.length dc
        have HV := hid hV
        have hb : Below wr.heap.size wr V := below_on hb2 hbV
        obtain ⟨_, e3, e8, _⟩ := dec_act hok (HO.out.drop _)
        obtain ⟨x0, x1, x2, x3, x4, x5, x6, x7, x8, x9⟩ := hx.ten
        have hs2' := hb.size
        have hm := HI.out.front.most
        by_cases h64 : pre.length = 64
        · have hst : LastA b pre (⟨T, A, B, ⟨C, F, H, X, v, m⟩, va, vc, ma, mc, d, da, dc⟩, 0) := ⟨hm, fun h => absurd h64 h, by rw [if_pos h64]; exact HI.out.front.many hlt h64⟩
          have HST := hid hst
          obtain ⟨fn, tmps, assign, body, hy, hR⟩ := HB.out pre (⟨T, A, B, ⟨C, F, H, X, v, m⟩, va, vc, ma, mc, d, da, dc⟩, 0) V (HJ0.out _ _ _ HJ.out hb) hst
          have hy : (Instr.yield i #[.agg #[.int .i64 T, .int .u64 A, .int .u64 B, .int .i64 C, .int .i64 F, .bool H, .int .u64 X, .slice va v.length vc, .slice ma m.length mc, .slice da d.length dc], .int .i64 0]).run Tryz.prog V = .ok (.round i fn tmps assign body) V := hy
          clear hV hst hx hbV hb2 hok hin
          go_upto_region 3 with fail
          rw [HV.out]
          refine (wpIn_wide (n := 0)).1 ?_
          gi_wp2
          refine ⟨rfl, hR.mono ?_⟩
          rintro e W3 ⟨rfl, hJx⟩
          gi_wp2
          go_wp2
          refine bodyPost_ret (results_none rfl _ _ _) rfl ?_
          exact ⟨⟨_, rfl⟩, .inr ⟨pre, _, HST.out, hJx⟩⟩
        · have hfr := HI.out.front.ok hlt (by omega) (x := ⟨T, A, B, ⟨C, F, H, X, v, m⟩, va, vc, ma, mc, d, da, dc⟩) hok e3 e8
          obtain ⟨fn, tmps, assign, body, hy, hR⟩ := HG.out pre ⟨T, A, B, ⟨C, F, H, X, v, m⟩, va, vc, ma, mc, d, da, dc⟩ wr V HJ.out hb ⟨⟨hn1, hn2, hn3⟩, hin.below hbV, _, hfr⟩ (by omega)
          have hy : (Instr.yield i #[.agg #[.int .i64 T, .int .u64 A, .int .u64 B, .int .i64 C, .int .i64 F, .bool H, .int .u64 X, .slice va v.length vc, .slice ma m.length mc, .slice da d.length dc], .int .i64 0]).run Tryz.prog V = .ok (.round i fn tmps assign body) V := hy
          have HFR := hid hfr
          have hnn : at_ + n ≤ b.length := hfr.le
          have HPB := hid hb
          clear hV hfr hx hbV hb2 hok hin hb hn1 hn2 hn3
          go_upto_region 3 with fail
          rw [HV.out]
          refine (wpIn_wide (n := 0)).1 ?_
          gi_wp2
          refine ⟨rfl, hR.mono ?_⟩
          rintro e W3 ⟨rfl, hj3, hs3, hk3⟩
          have hI3 := hid ((HI.out.below HPB.out).kept hs3 hk3)
          have HJ3 := hid hj3
          have hsum : (at_ : Int) + (n : Int) ≤ 9223372036854775807 := by omega
          clear hk3 hj3 hR hy x0 x1 x2 x3 x4 x5 x6 x7 x8 x9
          gi_wp2
          go_wp2
          go_roundw
          case rel => exact ⟨at_ + n, pre ++ [⟨T, A, B, ⟨C, F, H, X, v, m⟩, va, vc, ma, mc, d, da, dc⟩], by go_num, ⟨HFR.out, hI3.out.box, hI3.out.lt, hI3.out.stays⟩, HJ3.out, by omega⟩
          case measure => simp [intOf]; omega
    · have hge' : (b.length : Int) ≤ (at_ : Int) := by omega
      have HI := hid hi
      clear hi
      go_wp2
      go_end0
      exact ⟨⟨_, rfl⟩, .inl ⟨pre, HI.out.front.done hge, hj⟩⟩
theorem actions_any (w : World) (a : Option Addr) (c : Nat) (b : List Int) :
    Calls Tryz.prog 67 #[.slice a b.length c] w fun e w' => ∃ p, e = .returned (.func (.func 110) #[] #[.pointer (some ⟨p, 0, none⟩)]) ∧
      w'.cell? ⟨p, 0, none⟩ = some (.slice a b.length c) ∧ Below w.heap.size w w' ∧ w.heap.size ≤ p ∧ p < w'.heap.size := by
  go_enter Tryz.func67, Tryz.ntmps67
  go_wp2
  go_ret
  exact ⟨w.heap.size, rfl, by simp, below_alloc _ _, Nat.le_refl _, by rw [World.size_alloc]; omega⟩
end Go.Proofs.YtdjlbejhphbcoaaGreat
namespace Go.Proofs.YtdjlbejhphbcoaaGreat
open Go.RowKit
set_option linter.unusedVariables false
set_option maxRecDepth 100000

/-- a list of actions of one's own, in new memory -/
structure FreshA (w w' : World) (v : Value) (n : Nat) (D : List Ent12) : Prop where
  own : w'.ownsRow 0 27 10 v n (actCells D)
  bel : Below w.heap.size w w'
  new : ∀ g, v.ownBlock = some g → w.heap.size ≤ g
theorem own_shape12 {W : World} {e : TypeId} {size n : Nat} {v : Value} {xs : List Value} (h : W.ownsRow 0 e size v n xs) : ∃ a c, v = .slice a n c := by
  rcases h.2 with ⟨rfl, rfl⟩ | ⟨g, cap, cur, rfl, _⟩
  · exact ⟨_, _, rfl⟩
  · exact ⟨_, _, rfl⟩
theorem elemAct : ElemN Tryz.prog 43 27 (.agg #[.int .i64 0, .int .u64 0, .int .u64 0, .int .i64 0, .int .i64 0, .bool false, .int .u64 0, .slice none 0 0, .slice none 0 0, .slice none 0 0]) 10 128 := ⟨Tryz.underlying43, by kernel_rfl, rfl, by decide⟩
end Go.Proofs.YtdjlbejhphbcoaaGreat
namespace Go.Proofs.YtdjlbejhphbcoaaGreat
open Go.RowKit
set_option linter.unusedVariables false
set_option maxRecDepth 100000
attribute [local go_sem] Oper.semAt_some

/-- a cell that may be written -/
structure Cell13 (w : World) (b : Nat) (v : Value) : Prop where
  c : w.cell? ⟨b, 0, none⟩ = some v
  f : w.frozen? ⟨b, 0, none⟩ = false
theorem Cell13.below {w w' : World} {b : Nat} {v : Value} (h : Cell13 w b v) (hb : Below w.heap.size w w') : Cell13 w' b v := ⟨cell_keep h.c hb, (hb.frozen (World.block_lt_of_cell? w _ h.c)).trans h.f⟩
theorem Cell13.new (w : World) (v : Value) (T : TypeId) : Cell13 (w.alloc (.cells #[v] T)) w.heap.size v := ⟨by simp, by simp⟩
theorem Cell13.others {W W' : World} {b : Nat} {v : Value} {row : Option Nat} (h : Cell13 W b v) (hg : W.grownBy W' row) (hr : ∀ r, row = some r → ∃ o : Obj, W.heap[r]? = some o ∧ o.isCells = false) : Cell13 W' b v :=
  ⟨cell_kept h.c hg hr, (frozen_kept h.c hg hr).trans h.f⟩
theorem Cell13.set {w : World} {b : Nat} {v : Value} (h : Cell13 w b v) (u : Value) : Cell13 (w.setCell ⟨b, 0, none⟩ u) b u := ⟨World.cell?_setCell_same _ _ _ h.c, (World.frozen?_setCell _ _ _ _).trans h.f⟩
theorem Cell13.far {w : World} {b g : Nat} {v : Value} (h : Cell13 w b v) (hne : b ≠ g) (u : Value) : Cell13 (w.setCell ⟨g, 0, none⟩ u) b v :=
  ⟨(World.cell?_setCell_other _ _ _ _ (by intro e; injection e with e1; exact hne e1.symm)).trans h.c, (World.frozen?_setCell _ _ _ _).trans h.f⟩
theorem Cell13.kept {w w' : World} {b : Nat} {v : Value} (h : Cell13 w b v) (hb : w'.heap[b]? = w.heap[b]?) : Cell13 w' b v :=
  ⟨(World.cell?_of_block (a := ⟨b, 0, none⟩) hb).trans h.c, (World.frozen?_of_block (a := ⟨b, 0, none⟩) hb).trans h.f⟩
theorem three13 (w : World) (v2 v3 v4 : Value) (t2 t3 t4 : TypeId) :
    ∃ W, ((w.alloc (.cells #[v2] t2)).alloc (.cells #[v3] t3)).alloc (.cells #[v4] t4) = W ∧ Below w.heap.size w W ∧ W.heap.size = w.heap.size + 3 ∧ Cell13 W w.heap.size v2 ∧ Cell13 W (w.heap.size + 1) v3 ∧ Cell13 W (w.heap.size + 1 + 1) v4 := by
  have b1 := below_alloc w (.cells #[v2] t2)
  have b2 := below_alloc (w.alloc (.cells #[v2] t2)) (.cells #[v3] t3)
  have b3 := below_alloc ((w.alloc (.cells #[v2] t2)).alloc (.cells #[v3] t3)) (.cells #[v4] t4)
  have c2 := ((Cell13.new w v2 t2).below b2).below b3
  have c3 := (Cell13.new (w.alloc (.cells #[v2] t2)) v3 t3).below b3
  have c4 := Cell13.new ((w.alloc (.cells #[v2] t2)).alloc (.cells #[v3] t3)) v4 t4
  simp only [World.size_alloc] at c3 c4
  exact ⟨_, rfl, below_on (below_on b1 b2) b3, by simp, c2, c3, c4⟩
theorem own_lt13 {W : World} {e : TypeId} {size n : Nat} {v : Value} {xs : List Value} (h : W.ownsRow 0 e size v n xs) {b : Nat} (hb : v.ownBlock = some b) : b < W.heap.size := by
  rcases h.2 with ⟨rfl, _⟩ | ⟨g, cap, cur, rfl, _, hg, _⟩
  · cases hb
  · cases hb; exact (Array.getElem?_eq_some_iff.1 hg).1
theorem own_not_other13 {W : World} {e : TypeId} {size n : Nat} {v : Value} {xs : List Value} (h : W.ownsRow 0 e size v n xs) {row : Option Nat} (hr : ∀ r, row = some r → ∃ o : Obj, W.heap[r]? = some o ∧ o.isCells = false) : v.ownBlock = none ∨ v.ownBlock ≠ row := by
  rcases h.2 with ⟨rfl, _⟩ | ⟨g, cap, cur, rfl, _, hg, _⟩
  · exact .inl rfl
  · refine .inr fun e => ?_
    obtain ⟨o, ho, hc⟩ := hr g (by rw [← e]; rfl)
    rw [hg] at ho; cases ho; cases hc
theorem Acts.others {W W' : World} {a : Option Addr} {l : List Ent12} {row : Option Nat} (h : Acts W a l) (hg : W.grownBy W' row) (hr : ∀ r, row = some r → ∃ o : Obj, W.heap[r]? = some o ∧ o.isCells = false) : Acts W' a l := by
  intro i hi
  obtain ⟨b, off, ha, hc⟩ := h i hi
  refine ⟨b, off, ha, fun j hj => ?_⟩
  obtain ⟨v, hv⟩ := act_cell l[i] hj
  have k := hc j hj
  rw [hv] at k ⊢
  exact cell_kept k hg hr
/-- where an action's bytes lie, is none of these blocks -/
structure FarA (S : Nat → Prop) (x : Ent12) : Prop where
  v : x.o.v ≠ [] → ∀ q : Addr, x.va = some q → ¬ S q.block
  m : x.o.m ≠ [] → ∀ q : Addr, x.ma = some q → ¬ S q.block
  d : x.d ≠ [] → ∀ q : Addr, x.da = some q → ¬ S q.block
theorem FarA.mono {S T : Nat → Prop} {x : Ent12} (h : FarA S x) (hs : ∀ k, T k → S k) : FarA T x := ⟨fun a q b c => h.v a q b (hs _ c), fun a q b c => h.m a q b (hs _ c), fun a q b c => h.d a q b (hs _ c)⟩
theorem ints_lt13 {k : IntKind} {w : World} {a : Option Addr} {l : List Int} (h : Ints k w a l) (hl : l ≠ []) {q : Addr} (hq : a = some q) : q.block < w.heap.size := by
  obtain ⟨b, off, ha, hc⟩ := h 0 (List.length_pos_iff.2 hl)
  rw [hq] at ha; cases ha
  exact World.block_lt_of_cell? w _ hc
theorem ints_far13 {k : IntKind} {w w' : World} {a : Option Addr} {l : List Int} {row : Option Nat} (h : Ints k w a l) (hb : w.grownBy w' row) (hf : l ≠ [] → ∀ q : Addr, a = some q → row ≠ some q.block) : Ints k w' a l := by
  intro i hi
  obtain ⟨b, off, ha, hc⟩ := h i hi
  have hne : l ≠ [] := by intro e; rw [e] at hi; simp at hi
  exact ⟨b, off, ha, hb.cell hc (fun e => hf hne ⟨b, off, none⟩ ha e.symm)⟩
theorem ActIn.far {w w' : World} {x : Ent12} {row : Option Nat} (h : ActIn w x) (hb : w.grownBy w' row) (hf : FarA (fun k => row = some k) x) : ActIn w' x :=
  h.ints (ints_far13 h.iv hb (fun a q c e => hf.v a q c e)) (ints_far13 h.im hb (fun a q c e => hf.m a q c e)) (ints_far13 h.id hb (fun a q c e => hf.d a q c e))
/-- blocks that are not there yet are far -/
theorem ActIn.off {w : World} {x : Ent12} (h : ActIn w x) {S : Nat → Prop} (hS : ∀ k, S k → w.heap.size ≤ k) : FarA S x :=
  ⟨fun a q c e => by have := ints_lt13 h.iv a c; have := hS _ e; omega, fun a q c e => by have := ints_lt13 h.im a c; have := hS _ e; omega, fun a q c e => by have := ints_lt13 h.id a c; have := hS _ e; omega⟩
/-- a list that was made since w0 -/
structure NewA (w0 : World) (a : Option Addr) (D : List Ent12) : Prop where
  box : ∀ q : Addr, a = some q → w0.heap.size ≤ q.block
  far : ∀ x ∈ D, FarA (fun k => k < w0.heap.size) x
theorem by_set13 (W : World) (R : Nat) (v : Value) : W.grownBy (W.setCell ⟨R, 0, none⟩ v) (some R) := ⟨rfl, rfl, rfl, by simp [World.setCell], fun k hk hne => Below.heap_setCell _ _ _ _ (fun e => hne (by rw [e]))⟩

/-- between two rounds of the loop that gathers: T has the list; R2, R3 are the results' cells -/
structure CutA (w0 : World) (B T R2 R3 : Nat) (pre : List Ent12) (W : World) : Prop where
  v : ∃ v, Cell13 W T v ∧ W.ownsRow 0 27 10 v pre.length (actCells pre) ∧ (∀ g, v.ownBlock = some g → B ≤ g) ∧ (∀ x ∈ pre, ActIn W x ∧ FarA (fun k => k < B ∨ v.ownBlock = some k) x)
  r2 : Cell13 W R2 (.slice none 0 0)
  r3 : Cell13 W R3 (.int .i64 0)
  bel : Below w0.heap.size w0 W
  big : B ≤ W.heap.size
theorem CutA.own {w0 : World} {B T R2 R3 : Nat} (hB : w0.heap.size ≤ B) : OwnFrom B (CutA w0 B T R2 R3) := by
  intro pre W W' row h hg hr
  have hr2 : ∀ r, row = some r → ∃ o : Obj, W.heap[r]? = some o ∧ o.isCells = false := fun r e => (hr r e).2
  obtain ⟨v, h1, h2, h3, h4⟩ := h.v
  exact ⟨⟨v, h1.others hg hr2, h2.kept hg (own_not_other13 h2 hr2), h3, fun x hx => ⟨(h4 x hx).1.others hg hr2, (h4 x hx).2⟩⟩, h.r2.others hg hr2, h.r3.others hg hr2, ownFrom_below (Nat.le_refl _) hB () W W' row h.bel hg hr, Nat.le_trans h.big hg.size⟩
/-- the list is one of actions -/
theorem CutA.list {w0 W : World} {B T R2 R3 : Nat} {pre : List Ent12} (h : CutA w0 B T R2 R3 pre W) (hB : w0.heap.size ≤ B) :
    ∃ va vc, Cell13 W T (.slice va pre.length vc) ∧ Acts W va pre ∧ AllIn W pre ∧ pre.length ≤ vc ∧ vc ≤ 9223372036854775807 ∧ NewA w0 va pre ∧ (va = none ∨ ∃ g, va = some ⟨g, 0, none⟩) ∧ (∀ q : Addr, va = some q → B ≤ q.block) ∧ (∀ x ∈ pre, FarA (fun k => k < B) x) := by
  obtain ⟨v, h1, h2, h3, h4⟩ := h.v
  obtain ⟨va, vc, rfl, e1, e2, e3, e4⟩ := own_acts h2
  have hbox : ∀ q : Addr, va = some q → B ≤ q.block := by
    intro q hq
    rcases e4 with e4 | ⟨g, e4, eo⟩
    · rw [e4] at hq; cases hq
    · rw [e4] at hq; cases hq; exact h3 g eo
  exact ⟨va, vc, h1, e3, fun x hx => (h4 x hx).1, e1, e2, ⟨fun q hq => Nat.le_trans hB (hbox q hq), fun x hx => (h4 x hx).2.mono fun k e => .inl (Nat.lt_of_lt_of_le e hB)⟩, by rcases e4 with e4 | ⟨g, e4, _⟩; exact .inl e4; exact .inr ⟨g, e4⟩, hbox, fun x hx => (h4 x hx).2.mono fun k e => .inl e⟩
theorem CutA.step {w0 W0 W : World} {B T R2 R3 : Nat} {pre : List Ent12} (hI0 : CutA w0 B T R2 R3 pre W0) (hcl : ∀ p u, W0.cell? p = some u → W.cell? p = some u) (hT : T < B) (h2 : R2 < B) (h3 : R3 < B) (n2 : R2 ≠ T) (n3 : R3 ≠ T) (hT0 : w0.heap.size ≤ T) (hBW : B ≤ W.heap.size)
    {x : Ent12} (hx : ActIn W x) (hn : (∀ q : Addr, x.va = some q → W0.heap.size ≤ q.block) ∧ (∀ q : Addr, x.ma = some q → W0.heap.size ≤ q.block) ∧ (∀ q : Addr, x.da = some q → W0.heap.size ≤ q.block))
    {v : Value} (hv : Cell13 W T v) (hown : W.ownsRow 0 27 10 v pre.length (actCells pre)) (hvB : ∀ g, v.ownBlock = some g → B ≤ g)
    (he : ∀ x ∈ pre, ActIn W x ∧ FarA (fun k => k < B ∨ v.ownBlock = some k) x) (hr2 : Cell13 W R2 (.slice none 0 0)) (hr3 : Cell13 W R3 (.int .i64 0)) (hbl : Below w0.heap.size w0 W)
    {w1 w' : World} {v' : Value} (hw1 : Below W.heap.size W w1) (hg : GrewN 27 10 w1 w' v v' (pre.length + 1) (actCells (pre ++ [x]))) (K : Nat → Prop) (hK : ∀ k, K k → k < B ∧ k ≠ T) :
    KeepsFrom B W (w'.setCell ⟨T, 0, none⟩ v') ∧ (∀ k, K k → k < W.heap.size → (w'.setCell ⟨T, 0, none⟩ v').heap[k]? = W.heap[k]?) ∧ CutA w0 B T R2 R3 (pre ++ [x]) (w'.setCell ⟨T, 0, none⟩ v') := by
  have ha : W.grownBy w1 none := below_by_none hw1
  have hs1 : B ≤ w1.heap.size := Nat.le_trans hBW ha.size
  have hv'B := hg.base hs1 hvB
  have hvne : ∀ k, k < B → v.ownBlock ≠ some k := fun k hk e => by have := hvB k e; omega
  have hv'ne : ∀ k, k < B → v'.ownBlock ≠ some k := fun k hk e => by have := hv'B k e; omega
  have hown1 := hown.kept ha (by cases v.ownBlock <;> simp)
  obtain ⟨v0, c0, o0, _, _⟩ := hI0.v
  have e0 : v0 = v := by have := hcl _ _ c0.c; rw [hv.c] at this; simpa using this.symm
  subst e0
  have hlt : ∀ k, k < B ∨ v0.ownBlock = some k → k < W0.heap.size := by
    rintro k (e | e)
    · exact Nat.lt_of_lt_of_le e hI0.big
    · exact own_lt13 o0 e
  have hxf : FarA (fun k => k < B ∨ v0.ownBlock = some k) x := ⟨fun _ q e s => by have := hn.1 q e; have := hlt _ s; omega, fun _ q e s => by have := hn.2.1 q e; have := hlt _ s; omega, fun _ q e s => by have := hn.2.2 q e; have := hlt _ s; omega⟩
  have heA : ∀ y ∈ pre ++ [x], ActIn W y ∧ FarA (fun k => k < B ∨ v0.ownBlock = some k) y := by
    intro y hy
    rcases List.mem_append.1 hy with hy | hy
    · exact he y hy
    · simp at hy; subst hy; exact ⟨hx, hxf⟩
  have hset := by_set13 w' T v'
  have old : ∀ k, k < B → k ≠ T → (w'.setCell ⟨T, 0, none⟩ v').heap[k]? = W.heap[k]? := fun k hk hne =>
    (Below.heap_setCell _ _ _ _ hne).trans ((hg.by_.block k (by omega) (fun e => hvne k hk e.symm)).trans (ha.block k (by omega) (by simp)))
  have t4' : Cell13 w' T v0 := (hv.kept (ha.block T (by omega) (by simp))).kept (hg.by_.block T (by omega) (fun e => hvne T hT e.symm))
  refine ⟨?_, fun k hk hkw => old k (hK k hk).1 (hK k hk).2, ⟨⟨v', t4'.set v', ?_, hv'B, ?_⟩, hr2.kept (old R2 h2 n2), hr3.kept (old R3 h3 n3), ?_, Nat.le_trans (Nat.le_trans hs1 hg.by_.size) hset.size⟩⟩
  · refine (((KeepsOthers.of_grownBy ha (fun j o e => by cases e)).trans (KeepsOthers.of_grownBy hg.by_ (fun j o e ho => ?_))).trans (KeepsOthers.setCell _ _ _)).from _
    rcases hown1.2 with ⟨rfl, _⟩ | ⟨g, cap, cur, rfl, _, hgc, _⟩
    · cases e
    · cases e; rw [hgc] at ho; cases ho; rfl
  · have h2 := hg.own.kept hset (.inr (hv'ne T hT))
    rw [List.length_append]
    exact h2
  · intro y hy
    obtain ⟨y1, y3⟩ := heA y hy
    have z1 := y1.below hw1
    have z2 := z1.far hg.by_ (y3.mono fun k e => .inr e)
    refine ⟨z2.far hset (y3.mono fun k e => .inl (by simp at e; omega)), ?_⟩
    rcases hg.moved with e | ⟨g, e, hgs⟩
    · rw [e]; exact y3
    · have hoff := z1.off (S := fun k => k = g) (fun k e => by subst e; exact hgs)
      refine ⟨fun a q b s => ?_, fun a q b s => ?_, fun a q b s => ?_⟩
      · rcases s with s | s
        · exact y3.v a q b (.inl s)
        · rw [e] at s; exact hoff.v a q b (by simpa using s.symm)
      · rcases s with s | s
        · exact y3.m a q b (.inl s)
        · rw [e] at s; exact hoff.m a q b (by simpa using s.symm)
      · rcases s with s | s
        · exact y3.d a q b (.inl s)
        · rw [e] at s; exact hoff.d a q b (by simpa using s.symm)
  · exact (((Turn.of_below (S := fun k => v0.ownBlock = some k) hw1).trans (Turn.of_by (S := fun k => v0.ownBlock = some k) hg.by_ (fun k e => e)) (fun _ _ e => e)).below hbl hbl.size (fun k e => by have := hvB k e; omega)).setCell hT0 _
theorem Acts.by {w w' : World} {a : Option Addr} {l : List Ent12} (h : Acts w a l) {g : Nat} (hb : w.grownBy w' (some g)) (hne : ∀ q : Addr, a = some q → q.block ≠ g) : Acts w' a l := by
  intro i hi
  obtain ⟨b, off, ha, hc⟩ := h i hi
  refine ⟨b, off, ha, fun j hj => ?_⟩
  obtain ⟨v, hv⟩ := act_cell l[i] hj
  have k := hc j hj
  rw [hv] at k ⊢
  exact hb.cell k (fun e => hne ⟨b, off, none⟩ ha (by simpa using e))
/-- append(s, x), one action, inside a fence -/
theorem wpIn_app_act {F : Fence} {d : Nat} {w : World} {ops : Array Oper} {rest : List Oper} {o : Oper} {a : Act} {Q : Exit → Act → World → Prop} (hgd : o.guard = none) (s x : Operand)
    (ho : o.op = .call { callee := .builtin .append, args := #[s, x], argTypes := #[43, 43] }) {v : Value} {n : Nat} {D : List Ent12} (hs : a.eval s = v) (hown : w.ownsRow 0 27 10 v n (actCells D))
    {ad : Addr} {c : Nat} {h : Ent12} (hx : a.eval x = .slice (some ad) 1 c) (hO : Acts w (some ad) [h]) (hb : n ≤ 1000) {N : Nat} (hN : n + 1 = N)
    (hh : ∀ va' vc' w', GrewN 27 10 w w' v (.slice va' N vc') N (actCells (D ++ [h])) → wpListIn F d Tryz.prog ops Q rest (a.put o.dst (.slice va' N vc')) w') : wpListIn F d Tryz.prog ops Q (o :: rest) a w := by
  subst hN
  refine wpIn_app_many hgd s x ho elemAct hs hown hx (actCells [h]) (actCells_length [h]) (acts_cells hO) (act_flat [h]) (by omega) (by omega) ?_
  intro v' w' hg
  obtain ⟨va', vc', rfl⟩ := own_shape12 hg.own
  rw [← actCells_append] at hg
  exact hh va' vc' w' hg
end Go.Proofs.YtdjlbejhphbcoaaGreat
