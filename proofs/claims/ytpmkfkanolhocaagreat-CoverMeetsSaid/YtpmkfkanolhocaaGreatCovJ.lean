/- A map that a call makes: keys as they may be, whatever values. -/
import Derived.Test.YtpmkfkanolhocaaGreatCovI
import Derived.WideKeyEntry
namespace Go.Proofs.YtpmkfkanolhocaaGreat
open Go.RowKit Go.Maps Go.WideElems Go.ChangeMaps
open Go.WideMaps (KeyLaw)
set_option linter.unusedVariables false
set_option maxRecDepth 100000

theorem nodup_inj {α β : Type} {f : α → β} : ∀ {l : List α}, (l.map f).Nodup → ∀ {a b : α}, a ∈ l → b ∈ l → f a = f b → a = b
  | [], _, _, _, h, _, _ => by cases h
  | x :: l, hn, a, b, ha, hb, e => by
    rw [List.map_cons, List.nodup_cons] at hn
    rcases List.mem_cons.1 ha with ha' | ha' <;> rcases List.mem_cons.1 hb with hb' | hb'
    · rw [ha', hb']
    · exact absurd (List.mem_map.2 ⟨b, hb', by rw [← e, ha']⟩) hn.1
    · exact absurd (List.mem_map.2 ⟨a, ha', by rw [e, hb']⟩) hn.1
    · exact nodup_inj hn.2 ha' hb' e
def anyElem (v : Value) : Option (DataW Value × List MemPlace) := some (.held v, [])
/-- block b is a map of at most n keys: G tells what each has; z: what has none -/
def MapV (w : World) (k : TypeId) (b n : Nat) (z : Value) (G : Lit → Value) : Prop :=
  ∃ D : DataW Value, w.ownsMap Tryz.prog k anyElem b n D ∧ IsMap D ∧ ∀ kl, D.atKey kl (.held z) = .held (G kl)
theorem MapV.made (w : World) (k : TypeId) (z : Value) : MapV (w.alloc (.map #[] 0)) k w.heap.size 0 z (fun _ => z) :=
  ⟨_, World.ownsMap_made w _ k _, ⟨_, rfl⟩, fun _ => rfl⟩
section
variable {w w' : World} {k t e : TypeId} {b n : Nat} {z : Value} {G : Lit → Value} {row : Option Nat}
theorem MapV.by (h : MapV w k b n z G) (hb : w.grownBy w' row) (hne : some b ≠ row) : MapV w' k b n z G := by
  obtain ⟨D, h1, h2, h3⟩ := h
  exact ⟨D, h1.kept hb hne, h2, h3⟩
theorem MapV.below (h : MapV w k b n z G) (hb : Below w.heap.size w w') : MapV w' k b n z G := h.by (below_by_none hb) (by simp)
theorem MapV.lt (h : MapV w k b n z G) : b < w.heap.size := by
  obtain ⟨D, h1, _⟩ := h
  exact h1.lt
theorem MapV.nocell (h : MapV w k b n z G) (o : Nat) : w.cell? ⟨b, o, none⟩ = none := by
  obtain ⟨D, ⟨es, clock, hb, _⟩, _⟩ := h
  simp [World.cell?, hb]
theorem MapV.look (h : MapV w k b n z G) (K : Keyed Tryz.prog k) (ht : Tryz.prog.underlying t = some (.map k e)) (hz : (zeroValue e).run Tryz.prog w = .ok z w) {key : Value} {kl : Lit} (hkey : keyOf Tryz.prog k key = some kl) :
    (Instr.lookup t (.map (some b)) key false).run Tryz.prog w = .ok (G kl) w := by
  obtain ⟨D, h1, h2, h3⟩ := h
  obtain ⟨v, ps, hr, hv⟩ := h1.lookup K ht hz (show anyElem z = some (.held z, []) from rfl) hkey
  rw [h3] at hv
  unfold anyElem at hv
  simp at hv
  rw [hr, ← hv.1]
/-- between the two halves of 'm[k] = f(m[k])' -/
def MapMid (w : World) (k t : TypeId) (b n : Nat) (z : Value) (G : Lit → Value) (kl : Lit) (st : Nat) : Prop :=
  ∃ es clock, w.heap[b]? = some (.map es clock) ∧ ∀ (w2 : World) (v : Value), w2.heap[b]? = some (.map es clock) →
    ∃ w3, (Instr.entryStore t (.map (some b)) (goInt st) v).run Tryz.prog w2 = .ok () w3 ∧ MapV w3 k b (n + 1) z (fun x => if litEq x kl = true then v else G x) ∧ w2.grownBy w3 (some b)
theorem MapMid.by {kl : Lit} {st : Nat} (h : MapMid w k t b n z G kl st) (hb : w.grownBy w' row) (hne : some b ≠ row) : MapMid w' k t b n z G kl st := by
  obtain ⟨es, clock, h1, h2⟩ := h
  exact ⟨es, clock, (hb.block b (Array.getElem?_eq_some_iff.1 h1).1 hne).trans h1, h2⟩
theorem MapMid.below {kl : Lit} {st : Nat} (h : MapMid w k t b n z G kl st) (hb : Below w.heap.size w w') : MapMid w' k t b n z G kl st := h.by (below_by_none hb) (by simp)
theorem MapMid.nocell {kl : Lit} {st : Nat} (h : MapMid w k t b n z G kl st) (o : Nat) : w.cell? ⟨b, o, none⟩ = none := by
  obtain ⟨es, clock, hb, _⟩ := h
  simp [World.cell?, hb]
theorem MapMid.lt {kl : Lit} {st : Nat} (h : MapMid w k t b n z G kl st) : b < w.heap.size := by
  obtain ⟨es, clock, hb, _⟩ := h
  exact (Array.getElem?_eq_some_iff.1 hb).1
theorem by_block {es es' : Array MapEntry} {clock clock' : Nat} (hb : w.heap[b]? = some (.map es clock)) : w.grownBy (setBlock w b (.map es' clock')) (some b) :=
  ⟨rfl, rfl, rfl, by simp [setBlock], fun i _ hi => heap_setBlock_other hb _ (fun e => hi (by rw [e]))⟩
theorem MapV.entry (h : MapV w k b n z G) (K : KeyLaw Tryz.prog k) (ht : Tryz.prog.underlying t = some (.map k e)) (hz : ∀ u : World, (zeroValue e).run Tryz.prog u = .ok z u) (hn : n < 100000) {key : Value} {kl : Lit} (hkey : keyOf Tryz.prog k key = some kl) :
    ∃ (st : Nat) (w' : World), (Instr.mapEntry t (.map (some b)) key).run Tryz.prog w = .ok (.tuple #[G kl, goInt st]) w' ∧ MapMid w' k t b n z G kl st ∧ w.grownBy w' (some b) := by
  obtain ⟨D, h1, h2, h3⟩ := h
  have hup := fun v => h1.update (d := .held v) (ps := []) (val := v) (Keyed.of_law K) ht (by unfold maxLen; omega) hkey rfl
  obtain ⟨es, clock, hb, F, hs, hD⟩ := h1
  obtain ⟨v0, st, es1, clock1, hr, hv, hst⟩ := entry_then_store K ht hz hb F hkey
  have hv0 : v0 = G kl := by
    have hG := h3 kl
    rw [hD] at hG
    rcases Maps.fit_look false (Keyed.of_law K) ht (hz w) hb F hkey with ⟨_, hno, hat⟩ | ⟨e0, y, hm, hk, _, hR, hat, _⟩
    · rw [hat] at hG
      rcases hv with ⟨e1, he1, hk1, _⟩ | ⟨_, rfl⟩
      · exact absurd hk1 (hno e1 he1)
      · exact DataW.held.inj hG
    · rw [hat] at hG
      rcases hv with ⟨e1, he1, hk1, rfl⟩ | ⟨hno, _⟩
      · obtain rfl : e1 = e0 := nodup_inj F.stamped.2.2 he1 hm (hk1.trans hk.symm)
        obtain rfl := Option.some.inj hR
        exact DataW.held.inj hG
      · exact absurd hk (hno e0 hm)
  subst hv0
  refine ⟨st, _, hr, ⟨es1, clock1, heap_setBlock_same hb _, fun w2 v hw2 => ?_⟩, by_block hb⟩
  obtain ⟨es', clock', hs1, hs2⟩ := hst w2 v hw2
  obtain ⟨w', hr', ho, _⟩ := hup v
  rw [hs2] at hr'
  obtain rfl : setBlock w b (.map es' clock') = w' := by injection hr'
  obtain ⟨es2, clock2, hb2, F2, hs3, hD2⟩ := ho
  rw [heap_setBlock_same hb] at hb2
  cases hb2
  refine ⟨_, hs1, ⟨_, ⟨es', clock', heap_setBlock_same hw2 _, F2, hs3, hD2⟩, h2.put _ _, fun x => ?_⟩, by_block hw2⟩
  show _ = DataW.held (if litEq x kl = true then v else G x)
  by_cases e : x = kl
  · subst e
    rw [atKey_put_same h2 ((Keyed.of_law K).key hkey), if_pos (litEq_self x)]
  · rw [atKey_put_other e, h3, if_neg (by rw [litEq_not e]; simp)]
variable {ops : Array Oper} {rest : List Oper} {o : Oper} {a : Act} {Q : Exit → Act → World → Prop}
theorem wp_look11 (hg : o.guard = none) (m x : Operand) (hop : o.op = Op.lookup t m x false) (K : Keyed Tryz.prog k) (ht : Tryz.prog.underlying t = some (.map k e)) (hz : (zeroValue e).run Tryz.prog w = .ok z w) (hm : a.eval m = .map (some b)) (hs : MapV w k b n z G) (key : Value) (kl : Lit) (hx : a.eval x = key) (hkey : keyOf Tryz.prog k key = some kl)
    (hK : wpList Tryz.prog ops Q rest (a.put o.dst (G kl)) w) : wpList Tryz.prog ops Q (o :: rest) a w := by
  refine wpList_plain hg fun K' hK' => ?_
  unfold Oper.wp
  simp [execOp, hop, hm, hx, hs.look K ht hz hkey, Result.andThen]
  exact hK' _ _ hK
theorem wp_entry11 (hg : o.guard = none) (m x : Operand) (hop : o.op = Op.mapEntry t m x) (K : KeyLaw Tryz.prog k) (ht : Tryz.prog.underlying t = some (.map k e)) (hz : ∀ u : World, (zeroValue e).run Tryz.prog u = .ok z u) (hm : a.eval m = .map (some b)) (hs : MapV w k b n z G) (hn : n < 100000) (key : Value) (kl : Lit) (hx : a.eval x = key) (hkey : keyOf Tryz.prog k key = some kl)
    (hK : ∀ (st : Nat) (w' : World), MapMid w' k t b n z G kl st → w.grownBy w' (some b) → wpList Tryz.prog ops Q rest (a.put o.dst (.tuple #[G kl, goInt st])) w') : wpList Tryz.prog ops Q (o :: rest) a w := by
  refine wpList_plain hg fun K' hK' => ?_
  obtain ⟨st, w', hr, r1, r2⟩ := hs.entry K ht hz hn hkey
  unfold Oper.wp
  simp [execOp, hop, hm, hx, hr, Result.andThen]
  exact hK' _ _ (hK st w' r1 r2)
theorem wp_store11 {kl : Lit} {st : Nat} (hg : o.guard = none) (m s x : Operand) (hop : o.op = Op.entryStore t m s x) (hm : a.eval m = .map (some b)) (hs : MapMid w k t b n z G kl st) (hst : a.eval s = goInt st) {v : Value} (hv : a.eval x = v)
    (hK : ∀ w', MapV w' k b (n + 1) z (fun x => if litEq x kl = true then v else G x) → w.grownBy w' (some b) → wpList Tryz.prog ops Q rest (a.put o.dst undef) w') : wpList Tryz.prog ops Q (o :: rest) a w := by
  refine wpList_plain hg fun K' hK' => ?_
  obtain ⟨es, clock, hb, hs2⟩ := hs
  obtain ⟨w', hr, r1, r2⟩ := hs2 w v hb
  unfold Oper.wp
  simp [execOp, hop, hm, hst, hv, hr, Result.andThen]
  exact hK' _ _ (hK w' r1 r2)
end

/-! ### the keys: package cover's names -/
theorem zero_pats (w : World) : (zeroValue 70).run Tryz.prog w = .ok (.slice none 0 0) w := by kernel_rfl
theorem wideName11 : (match Tryz.prog.underlying 68 with | some (.array _ _) | some (.struct _) => true | _ => false) = true := by rw [Tryz.underlying68]
theorem nameLaw11 : KeyLaw Tryz.prog 68 := deep_law_laid laidOut9 (m := 2) (by omega) (of_decide_eq_true (by kernel_rfl)) (by kernel_rfl) wideName11
theorem nameKeyed11 : Keyed Tryz.prog 68 := Keyed.of_law nameLaw11
theorem nameKey11 {C F X : Int} (hC : -9223372036854775808 ≤ C ∧ C ≤ 9223372036854775807) (hF : -9223372036854775808 ≤ F ∧ F ≤ 9223372036854775807) (hX : 0 ≤ X ∧ X ≤ 18446744073709551615) :
    ∃ kl, keyOf Tryz.prog 68 (nameV C F X) = some kl := by
  have k1 : Tryz.prog.keyType 68 = true := by kernel_rfl
  have c3 : Tryz.prog.cellsOf 68 = 3 := by kernel_rfl
  have ci : Tryz.prog.cellsOf 3 = 1 := by kernel_rfl
  have cu : Tryz.prog.cellsOf 30 = 1 := by kernel_rfl
  have f1 : (nameV C F X).formed Tryz.prog 68 = true := by simp [nameV, Value.formed, Tryz.underlying68, c3]
  have hw1 : (Lit.int .i64 C).wf = true := by simp [Lit.wf, IntKind.min, IntKind.max, IntKind.bits, IntKind.signed]; omega
  have hw2 : (Lit.int .i64 F).wf = true := by simp [Lit.wf, IntKind.min, IntKind.max, IntKind.bits, IntKind.signed]; omega
  have hw3 : (Lit.int .u64 X).wf = true := by simp [Lit.wf, IntKind.min, IntKind.max, IntKind.bits, IntKind.signed]; omega
  obtain ⟨d, hd⟩ : ∃ d, Tryz.prog.types.size = d + 1 := ⟨Tryz.prog.types.size - 1, by have : 0 < Tryz.prog.types.size := of_decide_eq_true (by kernel_rfl); omega⟩
  have hk : Tryz.prog.keyLits (Tryz.prog.types.size + 1) 68 (nameV C F X).cells.toList = some [.int .i64 C, .int .i64 F, .int .u64 X] := by
    rw [hd]
    simp [Program.keyLits, nameV, Value.cells, Tryz.underlying68, Tryz.underlying3, Tryz.underlying30, c3, ci, cu, hw1, hw2, hw3]
  refine ⟨.string (keyBytes [.int .i64 C, .int .i64 F, .int .u64 X]), ?_⟩
  unfold keyOf
  rw [Tryz.underlying68]
  simp only [k1, f1, Bool.and_self, if_true, hk, Option.map_some]
/-- the key of a value -/
noncomputable def nameK (o : Ox9) : Lit := (keyOf Tryz.prog 68 (nameV o.C o.F o.X)).getD (.bool false)
theorem nameK_is {o : Ox9} (h : InR o) : keyOf Tryz.prog 68 (nameV o.C o.F o.X) = some (nameK o) := by
  obtain ⟨kl, hk⟩ := nameKey11 h.1 h.2.1 h.2.2
  unfold nameK
  rw [hk]; rfl
theorem nameK_eq {o p : Ox9} (h : InR o) (k : InR p) : litEq (nameK o) (nameK p) = alike9 o p := by
  rw [Bool.eq_iff_iff, litEq_iff, alike_iff9]
  constructor
  · intro e
    have := nameKeyed11.inj (nameK_is h) (e ▸ nameK_is k)
    unfold nameV at this
    simp at this
    exact this
  · rintro ⟨e1, e2, e3⟩
    unfold nameK
    rw [e1, e2, e3]
end Go.Proofs.YtpmkfkanolhocaaGreat
