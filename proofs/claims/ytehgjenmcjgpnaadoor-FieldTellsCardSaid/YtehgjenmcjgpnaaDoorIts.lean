/- Functions whose operations only reckon, or lay literals: run by the kernel. A list of items, as the machine holds it, in the place of code within code: a switch's blocks do not pile up. Over any program. -/
import Derived.Test.YtehgjenmcjgpnaaDoorBase
import Derived.Great.Walk
import Derived.Below
namespace Go.Proofs.YtehgjenmcjgpnaaDoor
open Go.RowKit

/-- what a list of items does -/
def Its (P : Program) (Q : Exit → Act → World → Prop) (l : List Item) (a : Act) (w : World) : Prop :=
  ∀ (b : Frame) (k : List Item) (cs : List Frame), ∃ e a' w', Q e a' w' ∧ Arrives P (lone (b.at a (l ++ k)) cs w) b k cs e a' w'

/-- two integers, compared -/
def cmpV : BinOp → Int → Int → Option Value
  | .eql, x, y => some (.bool (x == y))
  | .neq, x, y => some (.bool (x != y))
  | .lss, x, y => some (.bool (decide (x < y)))
  | .leq, x, y => some (.bool (decide (x ≤ y)))
  | .gtr, x, y => some (.bool (decide (x > y)))
  | .geq, x, y => some (.bool (decide (x ≥ y)))
  | _, _, _ => none

/-- the world with new blocks; the newest stands first -/
def laidOn (w : World) (os : List Obj) : World := os.foldr (fun o w => w.alloc o) w

theorem laidOn_size (w : World) (os : List Obj) : (laidOn w os).heap.size = w.heap.size + os.length := by
  induction os with
  | nil => rfl
  | cons o os ih =>
    show ((laidOn w os).alloc o).heap.size = _
    rw [World.size_alloc, ih, List.length_cons]
    omega
theorem laidOn_below (w : World) (os : List Obj) : Below w.heap.size w (laidOn w os) := by
  induction os with
  | nil => exact Below.refl _ _
  | cons o os ih => exact ih.alloc (by rw [laidOn_size]; omega) o

/-- the element of a slice's type -/
def elemOf (P : Program) (t : TypeId) : Option TypeId :=
  match P.underlying t with
  | some (.slice e) => some e
  | _ => none

/-- what an operation yields, and the blocks that stand behind it; s is the size of the heap below them -/
def opV (P : Program) (s : Nat) (a : Act) (os : List Obj) (o : Oper) : Option (Value × List Obj) :=
  match o.op with
  | .move x => some (a.eval x, os)
  | .assign x => some (a.eval x, os)
  | .pick c x y => match a.eval c with
    | .bool b => some (if b then a.eval x else a.eval y, os)
    | _ => none
  | .binOp op _ x y _ => match a.eval x, a.eval y with
    | .int k m, .int k' n => if k = k' then (cmpV op m n).map (fun v => (v, os)) else none
    | _, _ => none
  | .build t parts => (P.built t (parts.map fun (i, x) => (i, a.eval x)).toList).map (fun cs => (.agg cs, os))
  | .buildSlice t len parts => match elemOf P t with
    | some e => (P.builtSlice e len (parts.map fun (i, x) => (i, a.eval x)).toList).map (fun cs => (.slice (some ⟨s + os.length, 0, none⟩) len len, .cells cs e :: os))
    | none => none
  | _ => none

theorem opV_sound {P : Program} {w : World} {a : Act} {os os' : List Obj} {o : Oper} {v : Value} (h : opV P w.heap.size a os o = some (v, os')) :
    (execOp a.eval o).run P (laidOn w os) = .ok (.value v) (laidOn w os') := by
  unfold opV at h
  split at h
  · rename_i x ho
    simp at h
    obtain ⟨rfl, rfl⟩ := h
    simp [execOp, ho]
  · rename_i x ho
    simp at h
    obtain ⟨rfl, rfl⟩ := h
    simp [execOp, ho]
  · rename_i c x y ho
    split at h
    · rename_i b hb
      simp at h
      obtain ⟨rfl, rfl⟩ := h
      simp [execOp, ho, hb, asBool]
    · simp at h
  · rename_i op t x y t' ho
    split at h
    · rename_i k m k' n hx hy
      split at h
      · rename_i hk
        subst hk
        cases op <;> simp [cmpV] at h <;> obtain ⟨rfl, rfl⟩ := h <;> simp [execOp, ho, hx, hy, eqGuard, binOp, Op.intCmp]
      · simp at h
    · simp at h
  · rename_i t parts ho
    simp only [Option.map_eq_some_iff] at h
    obtain ⟨cs, hc, he⟩ := h
    simp at he
    obtain ⟨rfl, rfl⟩ := he
    simp only [execOp, ho, Sem.run_bind, run_build _ t _ _ hc, Result.andThen_ok]
    rfl
  · rename_i t len parts ho
    split at h
    · rename_i e he
      simp only [Option.map_eq_some_iff] at h
      obtain ⟨cs, hc, hv⟩ := h
      simp at hv
      obtain ⟨rfl, rfl⟩ := hv
      have hu : P.underlying t = some (.slice e) := by
        unfold elemOf at he
        split at he
        · rename_i e' h'; simp at he; rw [h', he]
        · simp at he
      unfold Program.builtSlice at hc
      cases hie : P.info? e with
      | none => simp [hie] at hc
      | some ie =>
        simp only [hie] at hc
        cases hz : ie.zero with
        | none => simp [hz] at hc
        | some z =>
          simp only [hz] at hc
          by_cases hb : len * ie.size > 2 ^ 24 ∨ len * ie.size = 0
          · simp [hb] at hc
          · rw [if_neg hb] at hc
            simp only [execOp, ho, Sem.run_bind, run_buildSlice (laidOn w os) t e len _ cs ie z hu hie hz (fun h' => hb (Or.inl h')) (fun h' => hb (Or.inr h')) hc, Result.andThen_ok, laidOn_size]
            rfl
    · simp at h
  · simp at h

/-- a list of operations -/
def opsV (P : Program) (s : Nat) (ops : Array Oper) : List Oper → Act → List Obj → Option (Act × List Obj)
  | [], a, os => some (a, os)
  | o :: r, a, os =>
    match Region.wanted o (yielded ops a.tmps) with
    | true => match opV P s a os o with
      | some (v, os') => opsV P s ops r (a.put o.dst v) os'
      | none => none
    | false => opsV P s ops r (a.put o.dst undef) os

theorem opsV_sound {P : Program} {w : World} {ops : Array Oper} {Q : Exit → Act → World → Prop} : ∀ (l : List Oper) (a : Act) (os : List Obj) {a' : Act} {os' : List Obj},
    opsV P w.heap.size ops l a os = some (a', os') → Q .normal a' (laidOn w os') → wpList P ops Q l a (laidOn w os) := by
  intro l
  induction l with
  | nil =>
    intro a os a' os' h hQ
    simp [opsV] at h
    obtain ⟨rfl, rfl⟩ := h
    exact hQ
  | cons o r ih =>
    intro a os a' os' h hQ
    unfold opsV at h
    split at h
    · rename_i hw
      split at h
      · rename_i v os1 hv
        unfold wpList
        rw [if_pos hw]
        left
        unfold Oper.wp
        rw [opV_sound hv, Oper.upon_value]
        exact ih _ _ h hQ
      · simp at h
    · rename_i hw
      unfold wpList
      rw [hw]
      exact ih _ _ h hQ

section
variable {P : Program} {Q : Exit → Act → World → Prop} {a : Act} {w : World} {l : List Item}
theorem exitTo_append {id : Nat} {l' : List Item} (k : List Item) (h : exitTo id l = some l') : exitTo id (l ++ k) = some (l' ++ k) := by
  induction l with
  | nil => simp [exitTo] at h
  | cons x l ih =>
    cases x <;> simp only [exitTo, List.cons_append] at h ⊢
    all_goals first
      | exact ih h
      | (split at h
         · rename_i hh; rw [if_pos hh]; simp at h; rw [h]
         · rename_i hh; rw [if_neg hh]; exact ih h)

theorem its_step {l' : List Item} (hs : ∀ (b : Frame) (k : List Item) (cs : List Frame), step P (lone (b.at a (l ++ k)) cs w) = .next (lone (b.at a (l' ++ k)) cs w)) (h : Its P Q l' a w) : Its P Q l a w :=
  fun b k cs => let ⟨e, a', w', q, r⟩ := h b k cs; ⟨e, a', w', q, .of_steps (.one (hs b k cs)) r⟩
theorem its_ret (h : Q .ret a w) : Its P Q (.code .ret :: l) a w := fun _ _ _ => ⟨.ret, a, w, h, _, .one step_ret⟩
theorem its_seq {x y : Code} (h : Its P Q (.code x :: .code y :: l) a w) : Its P Q (.code (.seq x y) :: l) a w := its_step (fun _ _ _ => step_seq) h
theorem its_block {id : Nat} {c : Code} (h : Its P Q (.code c :: .inBlock id :: l) a w) : Its P Q (.code (.block id c) :: l) a w := its_step (fun _ _ _ => step_block) h
theorem its_out {id : Nat} (h : Its P Q l a w) : Its P Q (.inBlock id :: l) a w := its_step (fun _ _ _ => step_inBlock) h
theorem its_skip (h : Its P Q l a w) : Its P Q (.code .skip :: l) a w := its_step (fun _ _ _ => step_skip) h
theorem its_exit {id : Nat} {l' : List Item} (hl : exitTo id l = some l') (h : Its P Q l' a w) : Its P Q (.code (.exit id) :: l) a w := its_step (fun _ k _ => step_exit (exitTo_append k hl)) h
theorem its_cond {c : Operand} {x y : Code} {t : Bool} (hc : a.eval c = .bool t) (h : Its P Q (.code (if t then x else y) :: l) a w) : Its P Q (.code (.cond c x y) :: l) a w := its_step (fun _ _ _ => step_cond hc) h
theorem its_true {c : Operand} {x y : Code} (hc : a.eval c = .bool true) (h : Its P Q (.code x :: l) a w) : Its P Q (.code (.cond c x y) :: l) a w := its_cond hc h
theorem its_false {c : Operand} {x y : Code} (hc : a.eval c = .bool false) (h : Its P Q (.code y :: l) a w) : Its P Q (.code (.cond c x y) :: l) a w := its_cond hc h
/-- code that ends as code does: what stands behind it goes on -/
theorem its_code {c : Code} (h : c.wp P (fun e a' w' => e = .normal ∧ Its P Q l a' w') a w) : Its P Q (.code c :: l) a w := by
  intro b k cs
  obtain ⟨e, a1, w1, ⟨rfl, hq⟩, harr⟩ := h b (l ++ k) cs
  obtain ⟨e2, a2, w2, hq2, harr2⟩ := hq b k cs
  exact ⟨e2, a2, w2, hq2, .of_steps harr harr2⟩
theorem its_wp {c : Code} (h : Its P Q [.code c] a w) : c.wp P Q a w := h
end

/-- a list of items, run up to a return -/
def itsV (P : Program) (s : Nat) : Nat → List Item → Act → List Obj → Option (Act × List Obj)
  | 0, _, _, _ => none
  | n + 1, .code c :: l, a, os =>
    match c with
    | .seq x y => itsV P s n (.code x :: .code y :: l) a os
    | .block id c => itsV P s n (.code c :: .inBlock id :: l) a os
    | .skip => itsV P s n l a os
    | .exit id => match exitTo id l with
      | some l' => itsV P s n l' a os
      | none => none
    | .ret => some (a, os)
    | .cond c x y => match a.eval c with
      | .bool true => itsV P s n (.code x :: l) a os
      | .bool false => itsV P s n (.code y :: l) a os
      | _ => none
    | .region _ ops false => match opsV P s ops ops.toList a os with
      | some (a', os') => itsV P s n l a' os'
      | none => none
    | _ => none
  | n + 1, .inBlock _ :: l, a, os => itsV P s n l a os
  | _ + 1, _, _, _ => none

theorem itsV_sound {P : Program} {Q : Exit → Act → World → Prop} {w : World} : ∀ (n : Nat) (l : List Item) (a : Act) (os : List Obj) {a' : Act} {os' : List Obj},
    itsV P w.heap.size n l a os = some (a', os') → Q .ret a' (laidOn w os') → Its P Q l a (laidOn w os) := by
  intro n
  induction n with
  | zero => intro l a os a' os' h; simp [itsV] at h
  | succ n ih =>
    intro l a os a' os' h hQ
    cases l with
    | nil => simp [itsV] at h
    | cons i l =>
      cases i with
      | inBlock id => exact its_out (ih _ _ _ (by simpa only [itsV] using h) hQ)
      | code c =>
        cases c with
        | seq x y => exact its_seq (ih _ _ _ (by simpa only [itsV] using h) hQ)
        | block id c => exact its_block (ih _ _ _ (by simpa only [itsV] using h) hQ)
        | skip => exact its_skip (ih _ _ _ (by simpa only [itsV] using h) hQ)
        | exit id =>
          simp only [itsV] at h
          split at h
          · rename_i hl; exact its_exit hl (ih _ _ _ h hQ)
          · simp at h
        | ret =>
          simp [itsV] at h
          obtain ⟨rfl, rfl⟩ := h
          exact its_ret hQ
        | cond c x y =>
          simp only [itsV] at h
          split at h
          · rename_i hc; exact its_cond hc (ih _ _ _ h hQ)
          · rename_i hc; exact its_cond hc (ih _ _ _ h hQ)
          · simp at h
        | region id ops d =>
          cases d with
          | true => simp [itsV] at h
          | false =>
            simp only [itsV] at h
            split at h
            · rename_i ho
              exact its_code (wp_region_list (opsV_sound _ _ _ ho ⟨rfl, ih _ _ _ h hQ⟩))
            · simp at h
        | _ => simp [itsV] at h
      | _ => simp [itsV] at h

/-- what a call of a function yields, and the blocks that it lays -/
def callV (P : Program) (s : Nat) (f : FuncId) (args : Array Value) : Option (Value × List Obj) :=
  match P.funcs[f]? with
  | some fn => match fn.body with
    | some c => match itsV P s 4000 [.code c] { tmps := args ++ Array.replicate (fn.ntmps - args.size) undef, defers := [] } [] with
      | some (a, os) => match a.defers, fn.results.toList with
        | [], [.tmp t] => some (a.tmps.getD t undef, os)
        | [], [.tmp t, .tmp u] => some (.tuple #[a.tmps.getD t undef, a.tmps.getD u undef], os)
        | _, _ => none
      | none => none
    | none => none
  | none => none

theorem callV_sound {P : Program} {f : FuncId} {args : Array Value} {w : World} {v : Value} {os : List Obj} (h : callV P w.heap.size f args = some (v, os)) :
    Calls P f args w fun e w' => e = .returned v ∧ w' = laidOn w os := by
  unfold callV at h
  split at h
  · rename_i fn hf
    split at h
    · rename_i c hb
      split at h
      · rename_i a os' hi
        refine calls_of_wp hf hb (its_wp ?_)
        split at h
        · rename_i t hd hr
          simp only [Option.some.injEq, Prod.mk.injEq] at h
          obtain ⟨rfl, rfl⟩ := h
          refine itsV_sound (w := w) 4000 _ _ [] hi ?_
          exact bodyPost_ret (results_tmp (t := t) (by rw [← Array.toList_inj, hr]) _ _ _) hd ⟨rfl, rfl⟩
        · rename_i t u hd hr
          simp only [Option.some.injEq, Prod.mk.injEq] at h
          obtain ⟨rfl, rfl⟩ := h
          refine itsV_sound (w := w) 4000 _ _ [] hi ?_
          exact bodyPost_ret (results_tmp2 (t := t) (u := u) (by rw [← Array.toList_inj, hr]) _ _ _) hd ⟨rfl, rfl⟩
        · simp at h
      · simp at h
    · simp at h
  · simp at h
end Go.Proofs.YtehgjenmcjgpnaaDoor
