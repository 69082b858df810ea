/- Memory of one's own: a copy; what stays of what a step did not turn. -/
import Derived.Test.YtehgjenmcjgpnaaDoorApp
import Derived.Laws.CopyOwn
import Derived.OneCell
namespace Go.Proofs.YtehgjenmcjgpnaaDoor
open Go.RowKit

theorem add_none (b off j : Nat) : (⟨b, off, none⟩ : Addr).add j = ⟨b, off + j, none⟩ := by unfold Addr.add; split <;> simp_all

/-- memory of a block that no step turned reads as it did -/
theorem Ints.by {k : IntKind} {w w' : World} {M off : Nat} {l : List Int} {row : Option Nat} (h : Ints k w (some ⟨M, off, none⟩) l) (hb : w.grownBy w' row) (hne : row ≠ some M) : Ints k w' (some ⟨M, off, none⟩) l := by
  intro i hi
  obtain ⟨b, o, he, hc⟩ := h i hi
  simp at he
  obtain ⟨rfl, rfl⟩ := he
  exact ⟨M, off, rfl, hb.cell hc (fun e => hne e.symm)⟩
theorem block_by {w w' : World} {b : Nat} {o : Obj} {row : Option Nat} (h : w.heap[b]? = some o) (hb : w.grownBy w' row) (hne : row ≠ some b) : w'.heap[b]? = some o :=
  (hb.block b (lt_of_block h) (fun e => hne e.symm)).trans h

section
variable {P : Program} {t e : TypeId} {z : Value} {bytes : Nat} {w : World}
/-- copy(d, s), where both have one length, and d is one's own. -/
theorem wp_copy_all {ops : Array Oper} {rest : List Oper} {o : Oper} {a : Act} {Q : Exit → Act → World → Prop} (hgd : o.guard = none) (d s : Operand)
    (ho : o.op = .call { callee := .builtin .copy, args := #[d, s], argTypes := #[t, t] }) (E : Elem P t e z bytes) {g n m sc : Nat} {sp : Option Addr} (hd : a.eval d = .slice (some ⟨g, 0, none⟩) n m) (hs : a.eval s = .slice sp n sc)
    {w0 : World} {xs : List Value} (hx : xs.length = n) (hf : Fresh e w0 w (.slice (some ⟨g, 0, none⟩) n m) xs) {k : IntKind} {l : List Int} (hl : l.length = n) (hI : Ints k w sp l)
    (h : ∀ w', Fresh e w0 w' (.slice (some ⟨g, 0, none⟩) n m) (l.map (Value.int k)) → wpList P ops Q rest (a.put o.dst (goInt n)) w') : wpList P ops Q (o :: rest) a w := by
  have hsz : (P.info? e).map (·.size) = some 1 := by
    have := E.info
    cases hi : P.info? e with
    | none => rw [hi] at this; simp at this
    | some i => rw [hi] at this; simp at this ⊢; exact this.2.1
  rcases hf.own.2 with ⟨hv, _⟩ | ⟨g', cap, cur, hv, hbg, hg, hnc, hcm, hcs, htake⟩
  · simp at hv
  · simp at hv
    obtain ⟨rfl, hn', rfl⟩ := hv
    have hge : w0.heap.size ≤ g := hf.new g rfl
    have hcl : (l.map (Value.int k)).length = n := by rw [List.length_map]; exact hl
    have hcur : n ≤ cur.size := by omega
    refine wpList_copy_splice hgd d s t t ho e E.under hsz (some ⟨g, 0, none⟩) sp n m n sc hd hs g 0 cur.toList e (by simpa using hg) (l.map (Value.int k)) (by rw [hcl]; exact (Nat.min_self n).symm) ?_ (by rw [hcl]; simpa using hcur) (by intro v hv; obtain ⟨x, _, rfl⟩ := List.mem_map.1 hv; rfl) w0.heap.size w0 hf.bel hge ?_
    · intro hp
      rw [List.length_map] at hp
      refine ⟨rfl, ?_⟩
      obtain ⟨b, off, rfl, _⟩ := hI 0 hp
      refine ⟨_, rfl, fun j v hj => ?_⟩
      have hjl : j < l.length := by
        rcases Nat.lt_or_ge j l.length with h' | h'
        · exact h'
        · rw [List.getElem?_eq_none (by simpa using h')] at hj; simp at hj
      obtain ⟨b', off', he, hc⟩ := hI j hjl
      simp at he
      obtain ⟨rfl, rfl⟩ := he
      have e2 := add_none b off j
      rw [e2, hc, ← hj]
      simp [List.getD, List.getElem?_eq_getElem hjl]
    · intro w' hh hb
      rw [hcl]
      refine h w' ⟨⟨by omega, .inr ⟨g, m, _, by rw [hcl], Nat.zero_le _, hh.out, by omega, hcm, ?_, ?_⟩⟩, hb, hf.new⟩
      · have : (splice cur.toList 0 (l.map (Value.int k))).length = cur.toList.length := by simp [splice]; omega
        simp [this]; omega
      · simp [splice]
end

/-- a block beside it turns -/
theorem Fresh.turn {e : TypeId} {w wr w' : World} {v : Value} {xs : List Value} {g : Nat} (h : Fresh e w wr v xs) (k : wr.grownBy w' (some g)) (hv : v.ownBlock ≠ some g) (hg : w.heap.size ≤ g) : Fresh e w w' v xs :=
  ⟨h.own.kept k (.inr hv), h.bel.grown k h.bel.size (by intro q hq; simp at hq; omega), h.new⟩
theorem moved_ne {w : World} {v v' : Value} {b : Nat} (h : Moved w v v') (hv : v.ownBlock ≠ some b) (hb : b < w.heap.size) : v'.ownBlock ≠ some b := by
  rcases h with h | ⟨g, hg, hs⟩
  · rw [h]; exact hv
  · rw [hg]; simp; omega

section
variable {P : Program} {t e : TypeId} {z : Value} {bytes : Nat} {w : World}
/-- append(s, x...), both of integers: what comes of it is a slice, which is told. -/
theorem wp_app_ints {ops : Array Oper} {rest : List Oper} {o : Oper} {a : Act} {Q : Exit → Act → World → Prop} (hgd : o.guard = none) (s x : Operand)
    (ho : o.op = .call { callee := .builtin .append, args := #[s, x], argTypes := #[t, t] }) (E : Elem P t e z bytes)
    {v : Value} (hs : a.eval s = v) {k : IntKind} {xs : List Int} (hown : w.ownsRow 0 e 1 v (xs.map (Value.int k)).length (xs.map (Value.int k)))
    {ad : Option Addr} {l ys : List Int} {n c : Nat} (hx : a.eval x = .slice ad n c) (hn : n = l.length) (hI : Ints k w ad l) (hys : xs ++ l = ys)
    (hbytes : ys.length * bytes ≤ 140737488355328) (h63 : ys.length ≤ 140737488355328)
    (h : ∀ a' c' w', ys.length ≤ c' → c' ≤ 9223372036854775807 → Ints k w' a' ys → Grew e w w' v (.slice a' ys.length c') (ys.map (Value.int k)) → wpList P ops Q rest (a.put o.dst (.slice a' ys.length c')) w') : wpList P ops Q (o :: rest) a w := by
  subst hys
  rw [List.length_append] at hbytes h63
  refine wp_app hgd s x ho E hs hown hx hn hI (by rw [List.length_map]; exact hbytes) (by rw [List.length_map]; exact h63) ?_
  intro v' w' hg
  rw [← List.map_append] at hg
  obtain ⟨a', c', rfl, h1, h2, hI'⟩ := own_ints hg.own
  exact h a' c' w' h1 (by unfold maxLen at h2; omega) hI' hg
end
theorem own_emptyI (w : World) (e : TypeId) (k : IntKind) : (w.alloc (.cells #[] e)).ownsRow 0 e 1 (.slice (some ⟨w.heap.size, 0, none⟩) 0 0) (([] : List Int).map (Value.int k)).length (([] : List Int).map (Value.int k)) := own_empty w e
theorem own_nilI (w : World) (e : TypeId) (k : IntKind) : w.ownsRow 0 e 1 (.slice none 0 0) (([] : List Int).map (Value.int k)).length (([] : List Int).map (Value.int k)) := own_nil w e
end Go.Proofs.YtehgjenmcjgpnaaDoor
