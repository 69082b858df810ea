/- The document's before, and append of a list of values. -/
import Derived.Test.YtlikpafjlojagaaNedS
import Derived.Test.YtlikpafjlojagaaNedO
import Derived.Test.YtlikpafjlojagaaMrg1
namespace Go.Proofs.Ytlikpafjlojagaa
open Go.RowKit
set_option linter.unusedVariables false

theorem before_ways (a b : Ox9) : ∃ r, before9 a b = r ∧ (((a.C != b.C) = true ∧ r = decide (a.C < b.C)) ∨ ((a.C != b.C) = false ∧ (a.F != b.F) = true ∧ r = decide (a.F < b.F)) ∨ ((a.C != b.C) = false ∧ (a.F != b.F) = false ∧ r = decide (a.X < b.X))) := by
  refine ⟨_, rfl, ?_⟩
  unfold before9
  by_cases h1 : a.C = b.C <;> by_cases h2 : a.F = b.F <;> simp [h1, h2]
set_option maxRecDepth 100000 in
theorem refBefore9_any (C F : Int) (H : Bool) (X : Int) (va : Option Addr) (vc : Nat) (ma : Option Addr) (mc : Nat) (v m : List Int) (C' F' : Int) (H' : Bool) (X' : Int) (va' : Option Addr) (vc' : Nat) (ma' : Option Addr) (mc' : Nat) (v' m' : List Int) (w : World) :
    Calls Try.prog 31 #[.agg #[.int .i64 C, .int .i64 F, .bool H, .int .u64 X, .slice va v.length vc, .slice ma m.length mc], .agg #[.int .i64 C', .int .i64 F', .bool H', .int .u64 X', .slice va' v'.length vc', .slice ma' m'.length mc']] w fun e w' => e = .returned (.bool (before9 ⟨C, F, H, X, v, m⟩ ⟨C', F', H', X', v', m'⟩)) ∧ Below w.heap.size w w' := by
  obtain ⟨r, hr, hq⟩ := before_ways ⟨C, F, H, X, v, m⟩ ⟨C', F', H', X', v', m'⟩
  rw [hr]
  clear hr
  simp only at hq
  rcases hq with ⟨h1, rfl⟩ | ⟨h1, h2, rfl⟩ | ⟨h1, h2, rfl⟩
  all_goals
    go_enter Try.func31, Try.ntmps31
    go_wp2_with fail
    go_ret
    exact ⟨rfl, below_on (below_alloc _ _) (below_alloc _ _)⟩

/-- a list of values of one's own, in new memory -/
structure FreshO (w w' : World) (v : Value) (n : Nat) (D : List Ent9) : Prop where
  own : w'.ownsRow 0 26 6 v n (oxmCells D)
  bel : Below w.heap.size w w'
  new : ∀ g, v.ownBlock = some g → w.heap.size ≤ g
theorem own_shape9 {W : World} {e : TypeId} {size n : Nat} {v : Value} {xs : List Value} (h : W.ownsRow 0 e size v n xs) : ∃ a c, v = .slice a n c := by
  rcases h.2 with ⟨rfl, rfl⟩ | ⟨g, cap, cur, rfl, _⟩
  · exact ⟨_, _, rfl⟩
  · exact ⟨_, _, rfl⟩
theorem FreshO.step {w wr w' : World} {v v' : Value} {n n' : Nat} {D D' : List Ent9} (h : FreshO w wr v n D) (k : GrewN 26 6 wr w' v v' n' (oxmCells D')) : FreshO w w' v' n' D' :=
  ⟨k.own, h.bel.trans (k.below h.bel.size h.new), k.base h.bel.size h.new⟩
theorem FreshO.behind {w wr w' : World} {v : Value} {n : Nat} {D : List Ent9} (h : FreshO w wr v n D) (k : Below wr.heap.size wr w') : FreshO w w' v n D :=
  ⟨h.own.kept (below_by_none k) (by cases h' : v.ownBlock <;> simp), below_on h.bel k, h.new⟩
theorem FreshO.empty (w : World) : FreshO w (w.alloc (.cells #[] 26)) (.slice (some ⟨w.heap.size, 0, none⟩) 0 0) 0 [] :=
  ⟨World.ownsRow_made w #[] 0 (Nat.zero_le _) (Nat.zero_le _) rfl, below_alloc _ _, by intro g hg; simp [Value.ownBlock] at hg; omega⟩
theorem FreshO.nil (w : World) : FreshO w w (.slice none 0 0) 0 [] :=
  ⟨World.ownsRow_nil w 0 _ 6, Below.refl _ _, by intro g hg; cases hg⟩
theorem FreshO.made {w w1 w' : World} {v : Value} {n : Nat} {D : List Ent9} (h : Below w.heap.size w w1) (k : FreshO w1 w' v n D) : FreshO w w' v n D :=
  ⟨k.own, below_on h k.bel, fun g hg => Nat.le_trans h.size (k.new g hg)⟩
theorem FreshO.ox {w w' : World} {va : Option Addr} {n vc : Nat} {D : List Ent9} (h : FreshO w w' (.slice va n vc) n D) : D.length = n ∧ n ≤ vc ∧ vc ≤ 9223372036854775807 ∧ Oxms w' va D := by
  have hl := h.own.1
  rw [oxmCells_length] at hl
  have hn : D.length = n := by omega
  have ho := h.own
  rw [← hn] at ho
  obtain ⟨a, c, e, h1, h2, h3, _⟩ := own_oxms ho
  cases e
  exact ⟨hn, by omega, h2, h3⟩
theorem FreshO.spot {w w' : World} {ad : Addr} {n vc : Nat} {D : List Ent9} (h : FreshO w w' (.slice (some ad) n vc) n D) : ∃ g, ad = ⟨g, 0, none⟩ := by
  have hn := h.ox.1
  have ho := h.own
  rw [← hn] at ho
  obtain ⟨a, c, e, _, _, _, h4⟩ := own_oxms ho
  cases e
  rcases h4 with h4 | ⟨g, h4, _⟩
  · cases h4
  · exact ⟨g, Option.some.inj h4⟩
theorem oxms_one (w : World) (h : Ent9) (t : TypeId) : Oxms (w.alloc (.cells h.cs.toArray t)) (some ⟨w.heap.size, 0, none⟩) [h] :=
  oxms_box (by have := BoxL.new w h.cs t; simpa [oxmCells] using this)
theorem oxm_flat (l : List Ent9) : ∀ u ∈ oxmCells l, u.oneCell' = true := by
  intro u hu
  simp only [oxmCells, List.mem_flatMap] at hu
  obtain ⟨h, _, hu⟩ := hu
  simp [Ent9.cs] at hu
  rcases hu with rfl | rfl | rfl | rfl | rfl | rfl <;> rfl
theorem oxms_cells {w : World} {ad : Addr} {l : List Ent9} (h : Oxms w (some ad) l) : ∀ j u, (oxmCells l)[j]? = some u → w.cell? (ad.add j) = some u := by
  intro j u hj
  have hjl : j < l.length * 6 := by
    have := (List.getElem?_eq_some_iff.1 hj).1
    rwa [oxmCells_length] at this
  have hi : j / 6 < l.length := by omega
  obtain ⟨b, off, he, c0, c1, c2, c3, c4, c5⟩ := h (j / 6) hi
  obtain rfl := Option.some.inj he
  have hm : j % 6 < 6 := Nat.mod_lt _ (by omega)
  have e := oxmCells_at l (j / 6) hi (j % 6) hm
  rw [show j / 6 * 6 + j % 6 = j by omega] at e
  rw [e] at hj
  rw [add_none, show off + j = off + j / 6 * 6 + j % 6 by omega]
  generalize j % 6 = r at hj hm ⊢
  generalize l[j / 6] = x at *
  match r, hm with
  | 0, _ => simp [Ent9.cs] at hj; subst hj; exact c0
  | 1, _ => simp [Ent9.cs] at hj; subst hj; exact c1
  | 2, _ => simp [Ent9.cs] at hj; subst hj; exact c2
  | 3, _ => simp [Ent9.cs] at hj; subst hj; exact c3
  | 4, _ => simp [Ent9.cs] at hj; subst hj; exact c4
  | 5, _ => simp [Ent9.cs] at hj; subst hj; exact c5
theorem run_app_none {ty : TypeId} {w : World} {a : Option Addr} {n cap c : Nat} (hn : n ≤ cap) :
    (Builtin.append_ #[22, 22] ty #[.slice a n cap, .slice none 0 c]).run Try.prog w = .ok (.slice a n cap) w := by
  have ht := Try.underlying22
  obtain ⟨i, hi⟩ : ∃ i, Try.prog.info? 26 = some i := ⟨_, rfl⟩
  cases a <;> simp [Builtin.append_, run_underlying ht, sizeOf, typeInfo, hi, Builtin.lenOf, Builtin.firstCells, loadCells, hn, storeCells]
theorem run_app_oxms {ty : TypeId} {w0 w : World} {v : Value} {n : Nat} {D : List Ent9} (hf : FreshO w0 w v n D) {sa : Option Addr} {c : Nat} {l : List Ent9} (hO : Oxms w sa l) (hb : n + l.length ≤ 1000) :
    ∃ va' vc' w', (Builtin.append_ #[22, 22] ty #[v, .slice sa l.length c]).run Try.prog w = .ok (.slice va' (n + l.length) vc') w' ∧ FreshO w0 w' (.slice va' (n + l.length) vc') (n + l.length) (D ++ l) := by
  obtain ⟨va, vc, rfl⟩ := own_shape9 hf.own
  cases sa with
  | none =>
    have : l = [] := by
      cases l with
      | nil => rfl
      | cons x r => obtain ⟨b, off, e, _⟩ := hO 0 (by simp); cases e
    subst this
    obtain ⟨_, hn, _, _⟩ := hf.ox
    rw [List.append_nil]
    exact ⟨va, vc, w, run_app_none hn, hf⟩
  | some ad =>
    obtain ⟨v', w', hr, hg⟩ := run_app_many (P := Try.prog) (ty := ty) elemOxm hf.own ad l.length c (oxmCells l) (oxmCells_length l) (oxms_cells hO) (oxm_flat l) (by omega) (by omega)
    obtain ⟨va', vc', rfl⟩ := own_shape9 hg.own
    rw [← oxmCells_append] at hg
    exact ⟨va', vc', w', hr, hf.step hg⟩
/-- append(s, x...), of lists of values -/
theorem wp_app_oxms {w0 w : World} {ops : Array Oper} {rest : List Oper} {o : Oper} {a : Act} {Q : Exit → Act → World → Prop} (hgd : o.guard = none) (s x : Operand)
    (ho : o.op = .call { callee := .builtin .append, args := #[s, x], argTypes := #[22, 22] }) {v : Value} {n : Nat} {D : List Ent9} (hf : FreshO w0 w v n D) (hs : a.eval s = v)
    {sa : Option Addr} {m c : Nat} {l : List Ent9} (hx : a.eval x = .slice sa m c) (hm : l.length = m) (hO : Oxms w sa l) (hb : n + m ≤ 1000) {N : Nat} (hN : n + m = N)
    (h : ∀ va' vc' w', FreshO w0 w' (.slice va' N vc') N (D ++ l) → wpList Try.prog ops Q rest (a.put o.dst (.slice va' N vc')) w') : wpList Try.prog ops Q (o :: rest) a w := by
  subst hm
  subst hN
  refine wpList_plain hgd fun K hK => ?_
  obtain ⟨va', vc', w', hr, hg⟩ := run_app_oxms (ty := o.type) (c := c) hf hO hb
  unfold Oper.wp execOp
  simp only [ho, resolve, invoke, builtin, Sem.run_bind, Sem.run_pure, Result.andThen_ok, List.map_toArray, List.map_cons, List.map_nil, hs, hx, hr]
  exact hK _ _ (h va' vc' w' hg)
end Go.Proofs.Ytlikpafjlojagaa
