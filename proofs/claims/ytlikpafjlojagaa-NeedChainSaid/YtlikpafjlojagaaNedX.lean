/- The chain: pure facts; the list that is being made. -/
import Derived.Test.YtlikpafjlojagaaNedV
namespace Go.Proofs.Ytlikpafjlojagaa
open Go.RowKit
set_option linter.unusedVariables false

theorem needs_in {n : Int} (h : 0 ≤ n ∧ n < 40) : (∀ x ∈ needL n ++ [n], (0 ≤ x ∧ x < 40)) ∧ (needL n).length ≤ 20 := by
  rcases forty h with rfl | rfl | rfl | rfl | rfl | rfl | rfl | rfl | rfl | rfl | rfl | rfl | rfl | rfl | rfl | rfl | rfl | rfl | rfl | rfl | rfl | rfl | rfl | rfl | rfl | rfl | rfl | rfl | rfl | rfl | rfl | rfl | rfl | rfl | rfl | rfl | rfl | rfl | rfl | rfl <;> decide +kernel
theorem size_in {n : Int} (h : 0 ≤ n ∧ n < 40) : 1 ≤ (fld n).z ∧ (fld n).z ≤ 16 := by
  rcases forty h with rfl | rfl | rfl | rfl | rfl | rfl | rfl | rfl | rfl | rfl | rfl | rfl | rfl | rfl | rfl | rfl | rfl | rfl | rfl | rfl | rfl | rfl | rfl | rfl | rfl | rfl | rfl | rfl | rfl | rfl | rfl | rfl | rfl | rfl | rfl | rfl | rfl | rfl | rfl | rfl <;> decide +kernel
theorem num_in {n : Int} (h : 0 ≤ n ∧ n < 40) : ∀ i, i < 21 → (fld ((needL n ++ [n]).getD (i + 1) 0)).v ≠ [] → (fld ((needL n ++ [n]).getD i 0)).z ≤ 8 := by
  rcases forty h with rfl | rfl | rfl | rfl | rfl | rfl | rfl | rfl | rfl | rfl | rfl | rfl | rfl | rfl | rfl | rfl | rfl | rfl | rfl | rfl | rfl | rfl | rfl | rfl | rfl | rfl | rfl | rfl | rfl | rfl | rfl | rfl | rfl | rfl | rfl | rfl | rfl | rfl | rfl | rfl <;> decide +kernel
theorem ints_by9 {w w' : World} {row : Option Nat} {a : Option Addr} {l : List Int} (h : Ints .u8 w a l) (hb : w.grownBy w' row) (hne : ∀ q : Addr, a = some q → some q.block ≠ row) : Ints .u8 w' a l := by
  intro i hi
  obtain ⟨b, off, ha, hc⟩ := h i hi
  exact ⟨b, off, ha, hb.cell hc (hne ⟨b, off, none⟩ ha)⟩
theorem made8 (n : Nat) : (madeCells #[.int .u8 0] n).toList = (List.replicate n (0 : Int)).map (Value.int .u8) := by
  apply List.ext_getElem
  · simp [madeCells]
  · intro i h1 h2
    simp [madeCells, Nat.mod_one]
theorem make9 {n : Nat} (hn : n ≤ 1000) : ∃ R : Array Value, Hid (R.toList = (List.replicate n (0 : Int)).map (Value.int .u8)) ∧ ∀ w, (Instr.makeSlice 24 (.int .i64 (n : Int)) (.int .i64 (n : Int))).run Try.prog w = .ok (.slice (some ⟨w.heap.size, 0, none⟩) n n) (w.alloc (.cells R 5)) := by
  have hu := Try.underlying24
  obtain ⟨i, hi, hz, hs, hb⟩ : ∃ i, Try.prog.info? 5 = some i ∧ i.zero = some (.int .u8 0) ∧ i.size = 1 ∧ i.bytes = 1 := by
    have h : (Try.prog.info? 5).map (fun i => (i.zero, i.size, i.bytes)) = some (some (.int .u8 0), 1, 1) := by kernel_rfl
    cases hi : Try.prog.info? 5 with
    | none => rw [hi] at h; simp at h
    | some i => rw [hi] at h; simp at h; exact ⟨i, rfl, h.1, h.2.1, h.2.2⟩
  refine ⟨_, made8 n, fun w => ?_⟩
  have hr := run_make (P := Try.prog) w 24 5 i (.int .u8 0) hu hi hz .i64 .i64 n n (by omega) (by omega) (by rw [hb]; omega) (by omega)
  simp only [Int.toNat_natCast, hs, Nat.mul_one] at hr
  exact hr
theorem box_arr {w : World} {R : Array Value} {L : List Value} {e : TypeId} (h : R.toList = L) : BoxL (w.alloc (.cells R e)) w.heap.size L := by
  subst h
  have := BoxL.new w R.toList e
  simpa using this
theorem below_drew9 {B : Nat} {w w' : World} (h : Below B w w') : Below B w w'.drew := h.drew
theorem arm_a {W : World} {R : Array Value} {L V : List Value} {e e' : TypeId} (h : R.toList = L) : BoxL ((W.alloc (.cells R e)).alloc (.cells V.toArray e')).drew (W.heap.size + 1) V ∧ BoxL ((W.alloc (.cells R e)).alloc (.cells V.toArray e')).drew W.heap.size L ∧ Below W.heap.size W ((W.alloc (.cells R e)).alloc (.cells V.toArray e')).drew := by
  refine ⟨?_, ((box_arr h).below (below_alloc _ _)).drew, (below_on (below_alloc _ _) (below_alloc _ _)).drew⟩
  have := (BoxL.new (W.alloc (.cells R e)) V e').drew
  rwa [World.size_alloc] at this
theorem arm_b {W : World} {R : Array Value} {L V : List Value} {e e' : TypeId} (h : R.toList = L) : BoxL ((W.alloc (.cells V.toArray e')).alloc (.cells R e)).drew W.heap.size V ∧ BoxL ((W.alloc (.cells V.toArray e')).alloc (.cells R e)).drew (W.heap.size + 1) L ∧ Below W.heap.size W ((W.alloc (.cells V.toArray e')).alloc (.cells R e)).drew := by
  refine ⟨((BoxL.new W V e').below (below_alloc _ _)).drew, ?_, (below_on (below_alloc _ _) (below_alloc _ _)).drew⟩
  have := (box_arr (w := W.alloc (.cells V.toArray e')) (e := e) h).drew
  rwa [World.size_alloc] at this
theorem one_set (k : Nat) : (List.replicate (k + 1) (0 : Int)).set k 1 = List.replicate k 0 ++ [1] := by
  induction k with
  | zero => rfl
  | succ k ih => rw [List.replicate_succ, List.set_cons_succ, ih]; rfl
theorem chain_len (r : Nat) : ∀ A : List Int, (chain9 r A).length = A.length
  | [] => rfl
  | [a] => rfl
  | a :: b :: t => by rw [chain9, List.length_cons, chain_len r (b :: t)]; rfl
theorem chain_get (r : Nat) : ∀ (A : List Int) (i : Nat) (hi : i < A.length), (chain9 r A)[i]? = some ⟨32768, A[i], false, 0, if h : i + 1 < A.length then hold9 r A[i] A[i + 1] else one9 (fld A[i]).z, []⟩
  | [], i, hi => by simp at hi
  | [a], i, hi => by
    obtain rfl : i = 0 := by simp at hi; exact hi
    simp [chain9]
  | a :: b :: t, 0, hi => by simp [chain9]
  | a :: b :: t, i + 1, hi => by
    rw [chain9, List.getElem?_cons_succ, chain_get r (b :: t) i (by simpa using hi)]
    simp

/-- the values of a list that is being made: where their bytes lie, the list itself does not -/
def ChainIn (w : World) (v : Value) (D : List Ent9) : Prop :=
  ∀ h ∈ D, EntIn w h ∧ h.o.v.length ≤ 16 ∧ h.o.m.length ≤ 16 ∧ h.ma = none ∧ ∀ q : Addr, h.va = some q → q.block < w.heap.size ∧ v.ownBlock ≠ some q.block
theorem ChainIn.below {w w' : World} {v : Value} {D : List Ent9} (h : ChainIn w v D) (hb : Below w.heap.size w w') : ChainIn w' v D := by
  intro x hx
  obtain ⟨h1, h2, h3, h4, h5⟩ := h x hx
  exact ⟨h1.below hb, h2, h3, h4, fun q hq => ⟨Nat.lt_of_lt_of_le (h5 q hq).1 hb.size, (h5 q hq).2⟩⟩
theorem ChainIn.grew {w w' : World} {v v' : Value} {D : List Ent9} (h : ChainIn w v D) (hb : w.grownBy w' v.ownBlock) (hm : Moved w v v') : ChainIn w' v' D := by
  intro x hx
  obtain ⟨h1, h2, h3, h4, h5⟩ := h x hx
  refine ⟨⟨?_, ?_, h1.ov, h1.om, h1.cv, h1.cm, h1.c, h1.f, h1.x⟩, h2, h3, h4, fun q hq => ⟨Nat.lt_of_lt_of_le (h5 q hq).1 hb.size, ?_⟩⟩
  · intro i hil
    obtain ⟨b, off, ha, hc⟩ := h1.iv i hil
    exact ⟨b, off, ha, hb.cell hc (h5 _ ha).2.symm⟩
  · intro i hil
    obtain ⟨b, off, ha, hc⟩ := h1.im i hil
    rw [h4] at ha; cases ha
  · rcases hm with e | ⟨g, e, hg⟩
    · rw [e]; exact (h5 q hq).2
    · rw [e]
      intro e2
      have := Option.some.inj e2
      have := (h5 q hq).1
      omega
theorem ChainIn.snoc {w : World} {v : Value} {D : List Ent9} {h : Ent9} (hD : ChainIn w v D) (hh : ChainIn w v [h]) : ChainIn w v (D ++ [h]) := by
  intro x hx
  rcases List.mem_append.1 hx with hx | hx
  · exact hD x hx
  · exact hh x hx
theorem BoxL.world9 {w : World} {b : Nat} {l : List Value} (h : BoxL w b l) : ∃ x, x = w := ⟨w, rfl⟩
/-- the block has no more than six cells -/
def Six9 (w : World) (X : Nat) : Prop := ∀ o, 6 ≤ o → w.cell? ⟨X, o, none⟩ = none
theorem Six9.new (w : World) (V : List Value) (e : TypeId) (hV : V.length = 6) : Six9 (w.alloc (.cells V.toArray e)) w.heap.size := by
  intro o ho
  rw [cell_of_row _ w.heap.size o V.toArray e (0, 0) (heap_alloc_new w _)]
  simp; omega
theorem Six9.by {w w' : World} {X : Nat} {row : Option Nat} (h : Six9 w X) (hlt : X < w.heap.size) (hb : w.grownBy w' row) (hne : some X ≠ row) : Six9 w' X :=
  fun o ho => (World.cell?_of_block (a := ⟨X, o, none⟩) (hb.block X hlt hne)).trans (h o ho)
theorem six_a {W : World} {R : Array Value} {V : List Value} {e e' : TypeId} (hV : V.length = 6) : Six9 ((W.alloc (.cells R e)).alloc (.cells V.toArray e')).drew (W.heap.size + 1) := by
  have := Six9.new (W.alloc (.cells R e)) V e' hV
  rw [World.size_alloc] at this
  exact this
theorem six_b {W : World} {R : Array Value} {V : List Value} {e e' : TypeId} (hV : V.length = 6) : Six9 ((W.alloc (.cells V.toArray e')).alloc (.cells R e)).drew W.heap.size := by
  have := (Six9.new W V e' hV).by (w' := (W.alloc (.cells V.toArray e')).alloc (.cells R e)) (by simp) (by_none_alloc _ _) (by simp)
  exact this
theorem vals_not {n : Int} (h : 0 ≤ n ∧ n < 40) : ∀ x ∈ (fld n).v, x ≠ 0 := by
  rcases forty h with rfl | rfl | rfl | rfl | rfl | rfl | rfl | rfl | rfl | rfl | rfl | rfl | rfl | rfl | rfl | rfl | rfl | rfl | rfl | rfl | rfl | rfl | rfl | rfl | rfl | rfl | rfl | rfl | rfl | rfl | rfl | rfl | rfl | rfl | rfl | rfl | rfl | rfl | rfl | rfl <;> decide +kernel
theorem far_six {w : World} {X vb m : Nat} {vk : Int} {q : Int} {u v : Value} (hX : BoxL w X [.int .i64 32768, .int .i64 q, .bool false, .int .u64 0, u, v]) (hS : Six9 w X) (hu : ∀ x, u ≠ .int .u64 x) (hv' : ∀ x, v ≠ .int .u64 x) (hk : vk ≠ 0) (hv : w.cell? ⟨vb, m, none⟩ = some (.int .u64 vk)) : ¬ vb = X := by
  rintro rfl
  obtain ⟨x0, x1, x2, x3, x4, x5⟩ := hX.six
  match m, hv with
  | 0, hv => rw [x0] at hv; simp at hv
  | 1, hv => rw [x1] at hv; simp at hv
  | 2, hv => rw [x2] at hv; simp at hv
  | 3, hv => rw [x3] at hv; simp at hv; omega
  | 4, hv => rw [x4] at hv; exact hu _ (Option.some.inj hv)
  | 5, hv => rw [x5] at hv; exact hv' _ (Option.some.inj hv)
  | m + 6, hv => rw [hS (m + 6) (by omega)] at hv; cases hv
theorem keep_far {w : World} {X x Y m : Nat} {v u : Value} (h : w.cell? ⟨Y, m, none⟩ = some v) (hne : ¬ Y = X) : (w.setCell ⟨X, x, none⟩ u).cell? ⟨Y, m, none⟩ = some v :=
  (World.cell?_setCell_other _ _ _ _ (by first | (intro e; injection e with e1; exact hne e1) | (intro e; injection e with e1; exact hne e1.symm))).trans h
theorem own_lt9 {W : World} {e : TypeId} {size n : Nat} {v : Value} {xs : List Value} (h : W.ownsRow 0 e size v n xs) {b : Nat} (hb : v.ownBlock = some b) : b < W.heap.size := by
  rcases h.2 with ⟨rfl, _⟩ | ⟨g, cap, cur, rfl, _, hg, _⟩
  · cases hb
  · cases hb; exact (Array.getElem?_eq_some_iff.1 hg).1
theorem ints_box9 {w : World} {B : Nat} {l : List Int} (h : BoxL w B (l.map (Value.int .u8))) : Ints .u8 w (some ⟨B, 0, none⟩) l := by
  intro i hi
  refine ⟨B, 0, rfl, ?_⟩
  rw [Nat.zero_add]
  exact h.cell i _ (by simp [hi])
/-- append(s, x...), of lists of values; what has turned is told -/
theorem wp_app_oxmsG {w0 w : World} {ops : Array Oper} {rest : List Oper} {o : Oper} {a : Act} {Q : Exit → Act → World → Prop} (hgd : o.guard = none) (s x : Operand)
    (ho : o.op = .call { callee := .builtin .append, args := #[s, x], argTypes := #[22, 22] }) {v : Value} {n : Nat} {D : List Ent9} (hf : FreshO w0 w v n D) (hs : a.eval s = v)
    {ad : Addr} {m c : Nat} {l : List Ent9} (hx : a.eval x = .slice (some ad) m c) (hm : l.length = m) (hO : Oxms w (some ad) l) (hb : n + m ≤ 1000) {N : Nat} (hN : n + m = N)
    (h : ∀ va' vc' w', FreshO w0 w' (.slice va' N vc') N (D ++ l) → w.grownBy w' v.ownBlock → Moved w v (.slice va' N vc') → wpList Try.prog ops Q rest (a.put o.dst (.slice va' N vc')) w') : wpList Try.prog ops Q (o :: rest) a w := by
  subst hm
  subst hN
  refine wp_app_many hgd s x ho elemOxm hs hf.own hx (oxmCells l) (oxmCells_length l) (oxms_cells hO) (oxm_flat l) (by omega) (by omega) ?_
  intro v' w' hg
  obtain ⟨va', vc', rfl⟩ := own_shape9 hg.own
  have hg2 := hg
  rw [← oxmCells_append] at hg2
  exact h va' vc' w' (hf.step hg2) hg.by_ hg.moved
end Go.Proofs.Ytlikpafjlojagaa
