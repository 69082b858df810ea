/- Contracts of package buffer: Hold, Fill. -/
import Derived.Test.YtkgjmpcdndohpaaDoorBufB
import Derived.Test.YtkgjmpcdndohpaaDoorRowS
namespace Go.Proofs.YtkgjmpcdndohpaaDoor
open Go.RowKit Go.Maps

/-! what is held -/
theorem look_append (H G : List (Int × Int)) (k : Int) : look (H ++ G) k = if H.any (fun p => p.1 == k) then look H k else look G k := by
  induction H with
  | nil => rfl
  | cons q H ih =>
    by_cases h : q.1 = k
    · simp [look, h]
    · have : (q.1 == k) = false := by simpa using h
      simp only [List.cons_append, look, h, if_false, ih, List.any_cons, this, Bool.false_or]
theorem look_any {H : List (Int × Int)} {k : Int} (h : H.any (fun p => p.1 == k) = false) : look H k = 0 := by
  induction H with
  | nil => rfl
  | cons q H ih =>
    simp at h
    simp [look, h.1]
    exact ih (by simp; exact fun a b hm => h.2 a b hm)
theorem look_mem {H : List (Int × Int)} {k n : Int} (h : look H k = n) (hn : n ≠ 0) : (k, n) ∈ H := by
  induction H with
  | nil => exact absurd h.symm hn
  | cons q H ih =>
    by_cases hq : q.1 = k
    · simp [look, hq] at h
      exact List.mem_cons.2 (.inl (by rw [← hq, ← h]))
    · simp [look, hq] at h
      exact List.mem_cons_of_mem _ (ih h)
theorem look_unheld (H : List (Int × Int)) (k j : Int) : look (unheld H k) j = if j = k then 0 else look H j := by
  induction H with
  | nil => simp [unheld, look]
  | cons q H ih =>
    unfold unheld at ih ⊢
    by_cases hq : q.1 = k
    · simp [hq, ih]
      split
      · rfl
      · rename_i hj
        simp [look, hq, show ¬ k = j from fun e => hj e.symm]
    · simp only [List.filter_cons, bne_iff_ne, ne_eq, hq, not_false_eq_true, if_true, look, ih]
      by_cases hj : q.1 = j
      · subst hj; simp [hq]
      · simp [hj]
theorem any_unheld (H : List (Int × Int)) (k j : Int) : (unheld H k).any (fun p => p.1 == j) = (if j = k then false else H.any (fun p => p.1 == j)) := by
  rw [Bool.eq_iff_iff]
  simp only [unheld, List.any_eq_true, List.mem_filter, bne_iff_ne, beq_iff_eq]
  split
  · rename_i h; subst h
    simp
  · rename_i h
    simp
    exact fun _ _ => h
theorem tied_put {D : DataW Unit} {H : List (Int × Int)} (h : Tied D H) {k n : Int} (hk : H.any (fun p => p.1 == k) = false) : Tied (D.put (.int .i64 k) (.lit (.int .i64 n))) (H ++ [(k, n)]) := by
  have hne : ∀ {j : Int}, j ≠ k → (Lit.int .i64 j) ≠ Lit.int .i64 k := fun hj e => hj (by simpa using e)
  refine ⟨fun j => ?_, fun j => ?_, ?_, h.tidy.put (by trivial) _, ?_⟩
  · rw [look_append]
    by_cases hj : j = k
    · subst hj
      rw [atKey_put_same h.tidy.isMap (by trivial)]
      simp [hk, look]
    · rw [atKey_put_other (hne hj), h.look]
      split
      · rfl
      · rename_i h'
        rw [look_any (by rw [← Bool.not_eq_true]; exact h')]
        simp [look, show ¬ k = j from fun e => hj e.symm]
  · rw [List.any_append]
    by_cases hj : j = k
    · subst hj
      rw [has_put_same h.tidy.isMap (by trivial)]
      simp
    · rw [has_put_other (hne hj), h.has]
      simp [show ¬ k = j from fun e => hj e.symm]
  · rw [size_put h.tidy, h.has, hk, h.size]
    simp
  · rw [List.map_append, List.nodup_append]
    refine ⟨h.uniq, by simp, ?_⟩
    intro a ha b hb
    simp at hb
    subst hb
    obtain ⟨q, hq, rfl⟩ := List.mem_map.1 ha
    rw [List.any_eq_false] at hk
    simpa using hk q hq
theorem tied_del {D : DataW Unit} {H : List (Int × Int)} (h : Tied D H) (k : Int) : Tied (D.del (.int .i64 k)) (unheld H k) := by
  have hne : ∀ {j : Int}, j ≠ k → (Lit.int .i64 j) ≠ Lit.int .i64 k := fun hj e => hj (by simpa using e)
  refine ⟨fun j => ?_, fun j => ?_, ?_, h.tidy.del _, ?_⟩
  · rw [look_unheld]
    by_cases hj : j = k
    · subst hj; rw [atKey_del_same]; simp
    · rw [atKey_del_other (hne hj), h.look]; simp [hj]
  · rw [any_unheld]
    by_cases hj : j = k
    · subst hj; rw [has_del_same]; simp
    · rw [has_del_other (hne hj), h.has]; simp [hj]
  · have h1 := size_del (k := .int .i64 k) h.tidy
    rw [h.has, h.size] at h1
    have h2 : ∀ (G : List (Int × Int)), (G.map Prod.fst).Nodup → (unheld G k).length + (if G.any (fun p => p.1 == k) then 1 else 0) = G.length := by
      intro G hG
      induction G with
      | nil => rfl
      | cons q G ih =>
        simp only [List.map_cons, List.nodup_cons] at hG
        have ih := ih hG.2
        unfold unheld at ih ⊢
        by_cases hq : q.1 = k
        · have : G.any (fun p => p.1 == k) = false := by
            rw [List.any_eq_false]
            intro p hp
            simp
            intro e
            exact hG.1 (List.mem_map.2 ⟨p, hp, by rw [e, hq]⟩)
          simp [this] at ih
          simp [hq]
          exact ih
        · simp only [List.filter_cons, bne_iff_ne, ne_eq, hq, not_false_eq_true, if_true, List.length_cons, List.any_cons, show (q.1 == k) = false by simpa using hq, Bool.false_or]
          omega
    have := h2 H h.uniq
    omega
  · unfold unheld
    exact ((List.filter_sublist (p := fun p : Int × Int => p.1 != k)).map Prod.fst).nodup h.uniq
theorem unheld_within {n : Nat} {H : List (Int × Int)} (h : Within n H) (k : Int) : Within n (unheld H k) := fun p hp => h p (List.mem_filter.1 hp).1
theorem map_tight {w : World} {m n : Nat} {D : DataW Unit} (h : w.ownsMap Tryd.prog 3 (plainElem Tryd.prog 3) m n D) : w.ownsMap Tryd.prog 3 (plainElem Tryd.prog 3) m (Maps.size D) D := by
  obtain ⟨es, clock, h1, h2, h3, rfl⟩ := h
  exact ⟨es, clock, h1, h2, by simp [Maps.size, length_sorted], rfl⟩

section
variable {P : Program} {t e : TypeId} {z : Value} {bytes : Nat} {w : World}
/-- copy(d[i:], s) into a slice of one's own, where all of s fits -/
theorem wp_copy_into {ops : Array Oper} {rest : List Oper} {o : Oper} {a : Act} {Q : Exit → Act → World → Prop} (hgd : o.guard = none) (d s : Operand)
    (ho : o.op = .call { callee := .builtin .copy, args := #[d, s], argTypes := #[t, t] }) (E : Elem P t e z bytes) {g i dn dc n sc cap : Nat} {sp : Option Addr} {k : IntKind} {l xs ys : List Int}
    (hown : w.ownsRow 0 e 1 (.slice (some ⟨g, 0, none⟩) l.length cap) (l.map (Value.int k)).length (l.map (Value.int k)))
    (hd : a.eval d = .slice (some ⟨g, i, none⟩) dn dc) (hs : a.eval s = .slice sp n sc) (hn : n = xs.length) (h0 : 0 < n) (hle : n ≤ dn) (hi : i + n ≤ l.length) (hI : Ints k w sp xs) (hys : splice l i xs = ys)
    (h : ∀ w', w'.ownsRow 0 e 1 (.slice (some ⟨g, 0, none⟩) l.length cap) (ys.map (Value.int k)).length (ys.map (Value.int k)) → w.grownBy w' (some g) → wpList P ops Q rest (a.put o.dst (goInt n)) w') : wpList P ops Q (o :: rest) a w := by
  subst hn
  subst hys
  have hsz : (P.info? e).map (·.size) = some 1 := by
    have := E.info
    cases hi : P.info? e with
    | none => rw [hi] at this; simp at this
    | some i => rw [hi] at this; simp at this ⊢; exact this.2.1
  rcases hown.2 with ⟨hv, _⟩ | ⟨g', cap', cur, hv, hbg, hg, hnc, hcm, hcs, htake⟩
  · simp at hv
  · simp at hv
    obtain ⟨rfl, hn', rfl⟩ := hv
    obtain ⟨b, off, rfl, _⟩ := hI 0 h0
    have hcl : (xs.map (Value.int k)).length = xs.length := List.length_map ..
    have hcur : l.length ≤ cur.size := by rw [List.length_map] at hnc; rw [hcs]; omega
    have hmin : Nat.min xs.length dn = xs.length := Nat.min_eq_left hle
    refine wpList_copy_own hgd d s t t ho e E.under hsz g i dn dc ⟨b, off, none⟩ xs.length sc hd hs cur e hg (xs.map (Value.int k)) (by rw [hcl, hmin]) ?_ (by rw [hcl]; omega) (by intro v hv; obtain ⟨x, _, rfl⟩ := List.mem_map.1 hv; rfl) ?_
    · intro j v hj
      have hjl : j < xs.length := by
        rcases Nat.lt_or_ge j xs.length with h' | h'
        · exact h'
        · rw [List.getElem?_eq_none (by simpa using h')] at hj; simp at hj
      obtain ⟨b', off', he, hc⟩ := hI j hjl
      simp at he
      obtain ⟨rfl, rfl⟩ := he
      rw [add_none, hc, ← hj]
      simp [List.getD, List.getElem?_eq_getElem hjl]
    · rw [hcl]
      have hcurl : cur.toList = l.map (Value.int k) ++ cur.toList.drop l.length := by
        rw [List.length_map, Nat.mul_one] at htake
        rw [← htake, List.take_append_drop]
      have hlm : (l.map (Value.int k)).length = l.length := List.length_map ..
      obtain ⟨more, hmore⟩ : ∃ more, more = cur.toList.drop l.length := ⟨_, rfl⟩
      rw [← hmore] at hcurl
      have hsp : cur.toList.take i ++ (xs.map (Value.int k) ++ cur.toList.drop (i + xs.length)) = (splice l i xs).map (Value.int k) ++ more := by
        rw [hcurl, List.take_append_of_le_length (by omega), List.drop_append_of_le_length (by omega)]
        simp [splice, List.map_take, List.map_drop, List.append_assoc]
      have hspl : (splice l i xs).length = l.length := length_splice l i xs hi
      have hall : l.length + more.length = cur.size := by
        have := congrArg List.length hcurl
        simpa using this.symm
      rw [hsp]
      refine h _ ⟨by simp, .inr ⟨g, cap, _, by rw [List.length_map, hspl], Nat.zero_le _, setRow_heap w g _ _ e _ hg, ?_, hcm, ?_, ?_⟩⟩ ⟨rfl, rfl, rfl, by simp [World.setRow], fun j _ hne => setRow_other w g j _ (by intro e; exact hne (by rw [e]))⟩
      · rw [List.length_map, hspl, ← hlm]; exact hnc
      · rw [List.size_toArray, List.length_append, List.length_map, hspl]; omega
      · rw [Nat.mul_one, List.toList_toArray, List.take_left]
end
end Go.Proofs.YtkgjmpcdndohpaaDoor
