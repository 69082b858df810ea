/- Put together out of several texts: what the laws of earlier stages left. -/
import Derived.Test.YtlikpafjlojagaaMrg5
import Derived.Test.YtlikpafjlojagaaMrg1
import Derived.Test.YtlikpafjlojagaaMrg4
import Derived.Maps.OwnSet
namespace Go.Proofs.Ytlikpafjlojagaa
open Go.RowKit Go.Maps

/-- The worlds w and w' are alike but for the blocks of S, and what is new. -/
structure Turn (S : Nat → Prop) (w w' : World) : Prop where
  os : w'.os = w.os
  tape : w'.tape = w.tape
  output : w'.output = w.output
  size : w.heap.size ≤ w'.heap.size
  block : ∀ k, k < w.heap.size → ¬ S k → w'.heap[k]? = w.heap[k]?

theorem Turn.refl (S : Nat → Prop) (w : World) : Turn S w w := ⟨rfl, rfl, rfl, Nat.le_refl _, fun _ _ _ => rfl⟩
theorem Turn.trans {S S' : Nat → Prop} {a b c : World} (h : Turn S a b) (k : Turn S' b c) (hs : ∀ i, i < a.heap.size → S' i → S i) : Turn S a c :=
  ⟨k.os.trans h.os, k.tape.trans h.tape, k.output.trans h.output, Nat.le_trans h.size k.size, fun i hi hn => (k.block i (Nat.lt_of_lt_of_le hi h.size) (fun e => hn (hs i hi e))).trans (h.block i hi hn)⟩
theorem Turn.of_by {S : Nat → Prop} {w w' : World} {row : Option Nat} (h : w.grownBy w' row) (hr : ∀ k, row = some k → S k) : Turn S w w' :=
  ⟨h.os, h.tape, h.output, h.size, fun k hk hn => h.block k hk (fun e => hn (hr k e.symm))⟩
theorem Turn.of_below {S : Nat → Prop} {w w' : World} (h : Below w.heap.size w w') : Turn S w w' := ⟨h.os, h.tape, h.output, h.size, fun k hk _ => h.block k hk⟩
theorem Turn.below {S : Nat → Prop} {B : Nat} {a w w' : World} (h : Turn S w w') (hb : Below B a w) (hB : B ≤ w.heap.size) (hS : ∀ k, S k → B ≤ k) : Below B a w' :=
  hb.trans ⟨h.os, h.tape, h.output, h.size, fun k hk => h.block k (by omega) (fun e => by have := hS k e; omega)⟩
theorem Turn.cell {S : Nat → Prop} {w w' : World} (h : Turn S w w') {p : Addr} {x : Value} (hc : w.cell? p = some x) (hn : ¬ S p.block) : w'.cell? p = some x :=
  (World.cell?_of_block (h.block p.block (World.block_lt_of_cell? w p hc) hn)).trans hc
theorem Turn.at_ {S : Nat → Prop} {w w' : World} (h : Turn S w w') {b : Nat} {o : Obj} (hb : w.heap[b]? = some o) (hn : ¬ S b) : w'.heap[b]? = some o := (h.block b (lt_of_block hb) hn).trans hb
theorem Turn.ints {S : Nat → Prop} {k : IntKind} {w w' : World} {M off : Nat} {l : List Int} (h : Turn S w w') (hI : Ints k w (some ⟨M, off, none⟩) l) (hn : ¬ S M) : Ints k w' (some ⟨M, off, none⟩) l := by
  intro i hi
  obtain ⟨b, o, he, hc⟩ := hI i hi
  simp at he
  obtain ⟨rfl, rfl⟩ := he
  exact ⟨M, off, rfl, h.cell hc hn⟩
/-- a slice of one's own depends on its block alone -/
theorem own_same {w w' : World} {base n size : Nat} {e : TypeId} {v : Value} {xs : List Value} (h : w.ownsRow base e size v n xs) (hb : ∀ b, v.ownBlock = some b → w'.heap[b]? = w.heap[b]?) : w'.ownsRow base e size v n xs := by
  refine ⟨h.1, ?_⟩
  rcases h.2 with h2 | ⟨g, cap, cur, rfl, h1, h3, h4⟩
  · exact .inl h2
  · exact .inr ⟨g, cap, cur, rfl, h1, (hb g rfl).trans h3, h4⟩
theorem Turn.fresh {S : Nat → Prop} {e : TypeId} {w wr w' : World} {v : Value} {xs : List Value} (k : Turn S wr w') (h : Fresh e w wr v xs) (hv : ∀ b, v.ownBlock = some b → ¬ S b) (hS : ∀ b, S b → w.heap.size ≤ b) : Fresh e w w' v xs :=
  ⟨own_same h.own (fun b hb => k.block b (h.own.lt b hb).2 (hv b hb)), k.below h.bel h.bel.size hS, h.new⟩

/-- the cells of a buffer -/
def bufCells (r : Int) (v : Value) (m : Nat) (f : Int) : Array Value := #[.bool true, .int .i64 r, v, .map (some m), .int .i64 f]
/-- how wide the zeros are that are held at k; 0: none are -/
def look : List (Int × Int) → Int → Int
  | [], _ => 0
  | p :: r, k => if p.1 = k then p.2 else look r k
/-- what is still held, when k is not any more -/
def unheld (H : List (Int × Int)) (k : Int) : List (Int × Int) := H.filter (fun p => p.1 != k)
/-- what is held stands in a map -/
structure Tied (D : DataW Unit) (H : List (Int × Int)) : Prop where
  look : ∀ k, D.atKey (.int .i64 k) (.lit (.int .i64 0)) = .lit (.int .i64 (look H k))
  has : ∀ k, Maps.has D (.int .i64 k) = H.any (fun p => p.1 == k)
  size : Maps.size D = H.length
  tidy : Tidy D
  uniq : (H.map Prod.fst).Nodup
/-- zeros that are held lie within -/
def Within (n : Nat) (H : List (Int × Int)) : Prop := ∀ p, p ∈ H → 0 ≤ p.1 ∧ 1 ≤ p.2 ∧ p.2 ≤ 8 ∧ p.1 + p.2 ≤ n
/-- the blocks of a buffer -/
def Foot (g m : Nat) (p : Option Nat) (k : Nat) : Prop := k = g ∨ k = m ∨ p = some k

theorem not_foot {g m k : Nat} {p : Option Nat} : ¬ Foot g m p k ↔ k ≠ g ∧ k ≠ m ∧ p ≠ some k := by unfold Foot; simp

section
variable {w w' : World} {g m : Nat} {p : Option Nat} {r : Nat} {l : List Int} {H : List (Int × Int)} {f : Int}
end

theorem lawInt : Keyed Try.prog 3 := int_keyed (q := .i64) (by kernel_rfl)
theorem zeroInt (w : World) : (zeroValue 3).run Try.prog w = .ok (.int .i64 0) w := by kernel_rfl

theorem tied_nil : Tied (.map []) [] := ⟨fun k => by rfl, fun k => by rfl, rfl, tidy_empty, List.nodup_nil⟩

section
variable {w : World} {g m : Nat} {p : Option Nat} {r : Nat} {l : List Int} {H : List (Int × Int)} {f : Int}
end
end Go.Proofs.Ytlikpafjlojagaa
namespace Go.Proofs.Ytlikpafjlojagaa
open Go.RowKit Go.Maps

section
variable {w w1 w' : World} {g m : Nat} {p p' : Option Nat} {r : Nat} {l : List Int} {H : List (Int × Int)} {f : Int}
end
end Go.Proofs.Ytlikpafjlojagaa
namespace Go.Proofs.Ytlikpafjlojagaa
open Go.RowKit Go.Maps

/-! what is held -/
theorem look_append (H G : List (Int × Int)) (k : Int) : look (H ++ G) k = if H.any (fun p => p.1 == k) then look H k else look G k := by
  induction H with
  | nil => rfl
  | cons q H ih =>
    by_cases h : q.1 = k
    · simp [look, h]
    · have : (q.1 == k) = false := by simpa using h
      simp only [List.cons_append, look, h, if_false, ih, List.any_cons, this, Bool.false_or]
theorem look_any {H : List (Int × Int)} {k : Int} (h : H.any (fun p => p.1 == k) = false) : look H k = 0 := by
  induction H with
  | nil => rfl
  | cons q H ih =>
    simp at h
    simp [look, h.1]
    exact ih (by simp; exact fun a b hm => h.2 a b hm)
theorem look_mem {H : List (Int × Int)} {k n : Int} (h : look H k = n) (hn : n ≠ 0) : (k, n) ∈ H := by
  induction H with
  | nil => exact absurd h.symm hn
  | cons q H ih =>
    by_cases hq : q.1 = k
    · simp [look, hq] at h
      exact List.mem_cons.2 (.inl (by rw [← hq, ← h]))
    · simp [look, hq] at h
      exact List.mem_cons_of_mem _ (ih h)
theorem look_unheld (H : List (Int × Int)) (k j : Int) : look (unheld H k) j = if j = k then 0 else look H j := by
  induction H with
  | nil => simp [unheld, look]
  | cons q H ih =>
    unfold unheld at ih ⊢
    by_cases hq : q.1 = k
    · simp [hq, ih]
      split
      · rfl
      · rename_i hj
        simp [look, hq, show ¬ k = j from fun e => hj e.symm]
    · simp only [List.filter_cons, bne_iff_ne, ne_eq, hq, not_false_eq_true, if_true, look, ih]
      by_cases hj : q.1 = j
      · subst hj; simp [hq]
      · simp [hj]
theorem any_unheld (H : List (Int × Int)) (k j : Int) : (unheld H k).any (fun p => p.1 == j) = (if j = k then false else H.any (fun p => p.1 == j)) := by
  rw [Bool.eq_iff_iff]
  simp only [unheld, List.any_eq_true, List.mem_filter, bne_iff_ne, beq_iff_eq]
  split
  · rename_i h; subst h
    simp
  · rename_i h
    simp
    exact fun _ _ => h
theorem tied_put {D : DataW Unit} {H : List (Int × Int)} (h : Tied D H) {k n : Int} (hk : H.any (fun p => p.1 == k) = false) : Tied (D.put (.int .i64 k) (.lit (.int .i64 n))) (H ++ [(k, n)]) := by
  have hne : ∀ {j : Int}, j ≠ k → (Lit.int .i64 j) ≠ Lit.int .i64 k := fun hj e => hj (by simpa using e)
  refine ⟨fun j => ?_, fun j => ?_, ?_, h.tidy.put (by trivial) _, ?_⟩
  · rw [look_append]
    by_cases hj : j = k
    · subst hj
      rw [atKey_put_same h.tidy.isMap (by trivial)]
      simp [hk, look]
    · rw [atKey_put_other (hne hj), h.look]
      split
      · rfl
      · rename_i h'
        rw [look_any (by rw [← Bool.not_eq_true]; exact h')]
        simp [look, show ¬ k = j from fun e => hj e.symm]
  · rw [List.any_append]
    by_cases hj : j = k
    · subst hj
      rw [has_put_same h.tidy.isMap (by trivial)]
      simp
    · rw [has_put_other (hne hj), h.has]
      simp [show ¬ k = j from fun e => hj e.symm]
  · rw [size_put h.tidy, h.has, hk, h.size]
    simp
  · rw [List.map_append, List.nodup_append]
    refine ⟨h.uniq, by simp, ?_⟩
    intro a ha b hb
    simp at hb
    subst hb
    obtain ⟨q, hq, rfl⟩ := List.mem_map.1 ha
    rw [List.any_eq_false] at hk
    simpa using hk q hq
theorem tied_del {D : DataW Unit} {H : List (Int × Int)} (h : Tied D H) (k : Int) : Tied (D.del (.int .i64 k)) (unheld H k) := by
  have hne : ∀ {j : Int}, j ≠ k → (Lit.int .i64 j) ≠ Lit.int .i64 k := fun hj e => hj (by simpa using e)
  refine ⟨fun j => ?_, fun j => ?_, ?_, h.tidy.del _, ?_⟩
  · rw [look_unheld]
    by_cases hj : j = k
    · subst hj; rw [atKey_del_same]; simp
    · rw [atKey_del_other (hne hj), h.look]; simp [hj]
  · rw [any_unheld]
    by_cases hj : j = k
    · subst hj; rw [has_del_same]; simp
    · rw [has_del_other (hne hj), h.has]; simp [hj]
  · have h1 := size_del (k := .int .i64 k) h.tidy
    rw [h.has, h.size] at h1
    have h2 : ∀ (G : List (Int × Int)), (G.map Prod.fst).Nodup → (unheld G k).length + (if G.any (fun p => p.1 == k) then 1 else 0) = G.length := by
      intro G hG
      induction G with
      | nil => rfl
      | cons q G ih =>
        simp only [List.map_cons, List.nodup_cons] at hG
        have ih := ih hG.2
        unfold unheld at ih ⊢
        by_cases hq : q.1 = k
        · have : G.any (fun p => p.1 == k) = false := by
            rw [List.any_eq_false]
            intro p hp
            simp
            intro e
            exact hG.1 (List.mem_map.2 ⟨p, hp, by rw [e, hq]⟩)
          simp [this] at ih
          simp [hq]
          exact ih
        · simp only [List.filter_cons, bne_iff_ne, ne_eq, hq, not_false_eq_true, if_true, List.length_cons, List.any_cons, show (q.1 == k) = false by simpa using hq, Bool.false_or]
          omega
    have := h2 H h.uniq
    omega
  · unfold unheld
    exact ((List.filter_sublist (p := fun p : Int × Int => p.1 != k)).map Prod.fst).nodup h.uniq
theorem unheld_within {n : Nat} {H : List (Int × Int)} (h : Within n H) (k : Int) : Within n (unheld H k) := fun p hp => h p (List.mem_filter.1 hp).1
theorem map_tight {w : World} {m n : Nat} {D : DataW Unit} (h : w.ownsMap Try.prog 3 (plainElem Try.prog 3) m n D) : w.ownsMap Try.prog 3 (plainElem Try.prog 3) m (Maps.size D) D := by
  obtain ⟨es, clock, h1, h2, h3, rfl⟩ := h
  exact ⟨es, clock, h1, h2, by simp [Maps.size, length_sorted], rfl⟩

section
variable {P : Program} {t e : TypeId} {z : Value} {bytes : Nat} {w : World}
/-- copy(d[i:], s) into a slice of one's own, where all of s fits -/
theorem wp_copy_into {ops : Array Oper} {rest : List Oper} {o : Oper} {a : Act} {Q : Exit → Act → World → Prop} (hgd : o.guard = none) (d s : Operand)
    (ho : o.op = .call { callee := .builtin .copy, args := #[d, s], argTypes := #[t, t] }) (E : Elem P t e z bytes) {g i dn dc n sc cap : Nat} {sp : Option Addr} {k : IntKind} {l xs ys : List Int}
    (hown : w.ownsRow 0 e 1 (.slice (some ⟨g, 0, none⟩) l.length cap) (l.map (Value.int k)).length (l.map (Value.int k)))
    (hd : a.eval d = .slice (some ⟨g, i, none⟩) dn dc) (hs : a.eval s = .slice sp n sc) (hn : n = xs.length) (h0 : 0 < n) (hle : n ≤ dn) (hi : i + n ≤ l.length) (hI : Ints k w sp xs) (hys : splice l i xs = ys)
    (h : ∀ w', w'.ownsRow 0 e 1 (.slice (some ⟨g, 0, none⟩) l.length cap) (ys.map (Value.int k)).length (ys.map (Value.int k)) → w.grownBy w' (some g) → wpList P ops Q rest (a.put o.dst (goInt n)) w') : wpList P ops Q (o :: rest) a w := by
  subst hn
  subst hys
  have hsz : (P.info? e).map (·.size) = some 1 := by
    have := E.info
    cases hi : P.info? e with
    | none => rw [hi] at this; simp at this
    | some i => rw [hi] at this; simp at this ⊢; exact this.2.1
  rcases hown.2 with ⟨hv, _⟩ | ⟨g', cap', cur, hv, hbg, hg, hnc, hcm, hcs, htake⟩
  · simp at hv
  · simp at hv
    obtain ⟨rfl, hn', rfl⟩ := hv
    obtain ⟨b, off, rfl, _⟩ := hI 0 h0
    have hcl : (xs.map (Value.int k)).length = xs.length := List.length_map ..
    have hcur : l.length ≤ cur.size := by rw [List.length_map] at hnc; rw [hcs]; omega
    have hmin : Nat.min xs.length dn = xs.length := Nat.min_eq_left hle
    refine wpList_copy_own hgd d s t t ho e E.under hsz g i dn dc ⟨b, off, none⟩ xs.length sc hd hs cur e hg (xs.map (Value.int k)) (by rw [hcl, hmin]) ?_ (by rw [hcl]; omega) (by intro v hv; obtain ⟨x, _, rfl⟩ := List.mem_map.1 hv; rfl) ?_
    · intro j v hj
      have hjl : j < xs.length := by
        rcases Nat.lt_or_ge j xs.length with h' | h'
        · exact h'
        · rw [List.getElem?_eq_none (by simpa using h')] at hj; simp at hj
      obtain ⟨b', off', he, hc⟩ := hI j hjl
      simp at he
      obtain ⟨rfl, rfl⟩ := he
      rw [add_none, hc, ← hj]
      simp [List.getD, List.getElem?_eq_getElem hjl]
    · rw [hcl]
      have hcurl : cur.toList = l.map (Value.int k) ++ cur.toList.drop l.length := by
        rw [List.length_map, Nat.mul_one] at htake
        rw [← htake, List.take_append_drop]
      have hlm : (l.map (Value.int k)).length = l.length := List.length_map ..
      obtain ⟨more, hmore⟩ : ∃ more, more = cur.toList.drop l.length := ⟨_, rfl⟩
      rw [← hmore] at hcurl
      have hsp : cur.toList.take i ++ (xs.map (Value.int k) ++ cur.toList.drop (i + xs.length)) = (splice l i xs).map (Value.int k) ++ more := by
        rw [hcurl, List.take_append_of_le_length (by omega), List.drop_append_of_le_length (by omega)]
        simp [splice, List.map_take, List.map_drop, List.append_assoc]
      have hspl : (splice l i xs).length = l.length := length_splice l i xs hi
      have hall : l.length + more.length = cur.size := by
        have := congrArg List.length hcurl
        simpa using this.symm
      rw [hsp]
      refine h _ ⟨by simp, .inr ⟨g, cap, _, by rw [List.length_map, hspl], Nat.zero_le _, setRow_heap w g _ _ e _ hg, ?_, hcm, ?_, ?_⟩⟩ ⟨rfl, rfl, rfl, by simp [World.setRow], fun j _ hne => setRow_other w g j _ (by intro e; exact hne (by rw [e]))⟩
      · rw [List.length_map, hspl, ← hlm]; exact hnc
      · rw [List.size_toArray, List.length_append, List.length_map, hspl]; omega
      · rw [Nat.mul_one, List.toList_toArray, List.take_left]
end
end Go.Proofs.Ytlikpafjlojagaa
namespace Go.Proofs.Ytlikpafjlojagaa
open Go.RowKit Go.Maps

section
variable {w w1 w' : World} {g m : Nat} {p p' : Option Nat} {r : Nat} {l : List Int} {H : List (Int × Int)} {f : Int}

end
end Go.Proofs.Ytlikpafjlojagaa
namespace Go.Proofs.Ytlikpafjlojagaa
open Go.RowKit Go.Maps

theorem p256_le8 {n : Nat} (h : n ≤ 8) {x : Int} (hx : x < p256 n) : x < p256 8 := Int.lt_of_lt_of_le hx (p256_mono h)
theorem putW_one {n : Nat} (h1 : 1 ≤ n) (h8 : n ≤ 8) {x : Int} (hx : x < p256 n) : putW [(n : Int)] [x] = some (bytesL x n) := by
  have e1 : rightW [(n : Int)] = true := by simp [rightW, allW, isW]; omega
  have e2 : countL [(n : Int)] = 1 := by simp [countL]; omega
  have e3 : ¬ (n : Int) < 0 := by omega
  have e4 : roomB x (n : Int) = true := by simp [roomB]; exact hx
  simp [putW, e1, e2, putL, e3, e4]
theorem putW_big {n x : Int} (hx : roomB x n = false) : putW [n] [x] = none := by
  unfold putW
  split
  · by_cases h : n < 0
    · rename_i h'
      simp [countL, show ¬ 0 < n by omega] at h'
    · simp [putL, h, hx]
  · rfl
theorem putW_wrong {n x : Int} (hn : n < 1 ∨ 8 < n) : putW [n] [x] = none := by
  unfold putW
  split
  · rename_i h
    simp [rightW, allW, isW, countL] at h
    by_cases h0 : 0 < n
    · omega
    · simp [h0] at h
  · rfl
theorem u64s_one {x : Int} (h0 : 0 ≤ x) (h : x < p256 8) : U64s [x] := by intro y hy; simp at hy; subst hy; exact ⟨h0, h⟩
/-- the two slices of one number each -/
theorem two_ones (w : World) (n x : Int) : Below w.heap.size w ((w.alloc (.cells #[.int .i64 n] 3)).alloc (.cells #[.int .u64 x] 23)) ∧ Ints .i64 ((w.alloc (.cells #[.int .i64 n] 3)).alloc (.cells #[.int .u64 x] 23)) (some ⟨w.heap.size, 0, none⟩) [n] ∧
    Ints .u64 ((w.alloc (.cells #[.int .i64 n] 3)).alloc (.cells #[.int .u64 x] 23)) (some ⟨w.heap.size + 1, 0, none⟩) [x] := by
  have hs : (w.alloc (.cells #[.int .i64 n] 3)).heap.size = w.heap.size + 1 := by simp
  refine ⟨((Below.refl _ _).alloc (Nat.le_refl _) _).alloc (by omega) _, (ints_one .i64 w n 3).below (below_alloc _ _), ?_⟩
  rw [← hs]
  exact ints_one .u64 _ x 23
/-- a slice of one's own that has something is a block -/
theorem own_block {w : World} {e : TypeId} {a : Option Addr} {n c : Nat} {xs : List Value} (h : w.ownsRow 0 e 1 (.slice a n c) xs.length xs) (h0 : 0 < n) : ∃ q, a = some ⟨q, 0, none⟩ ∧ n = xs.length ∧ n ≤ c := by
  rcases h.2 with ⟨hv, _⟩ | ⟨q, cap, cur, hv, _, _, h1, _⟩
  · simp at hv; omega
  · simp at hv
    obtain ⟨rfl, rfl, rfl⟩ := hv
    exact ⟨q, rfl, rfl, h1⟩

section
variable {w : World} {g m : Nat} {p : Option Nat} {r : Nat} {l : List Int} {H : List (Int × Int)} {f : Int}
end
end Go.Proofs.Ytlikpafjlojagaa
namespace Go.Proofs.Ytlikpafjlojagaa
open Go.RowKit Go.Maps

section
variable {w : World} {g m : Nat} {p : Option Nat} {r : Nat} {l : List Int} {H : List (Int × Int)} {f : Int}
theorem fresh_zeros {w w1 : World} {n c : Nat} (hF : Fresh 5 w w1 (.slice (some ⟨w.heap.size, 0, none⟩) n c) (List.replicate n (.int .u8 0))) : Ints .u8 w1 (some ⟨w.heap.size, 0, none⟩) (List.replicate n (0 : Int)) := by
  have h' := hF.own
  rw [show List.replicate n (Value.int .u8 0) = (List.replicate n (0 : Int)).map (Value.int .u8) by rw [List.map_replicate]] at h'
  obtain ⟨_, _, he, _, _, hI⟩ := own_ints h'
  simp at he
  obtain ⟨rfl, _⟩ := he
  exact hI
theorem over_cast {l n : Nat} (_hn : 1 ≤ n) : ((l : Int).tmod (n : Int)) = ((l % n : Nat) : Int) := by
  rw [Int.tmod_eq_emod_of_nonneg (by omega)]; omega
end
end Go.Proofs.Ytlikpafjlojagaa
namespace Go.Proofs.Ytlikpafjlojagaa
open Go.RowKit Go.Maps

theorem below_then {w0 w w' : World} (h : Below w0.heap.size w0 w) (hb : Below w.heap.size w w') : Below w0.heap.size w0 w' := h.trans (hb.mono h.size)
section
variable {w0 w w' : World} {g m : Nat} {p p' : Option Nat} {r : Nat} {l l' : List Int} {H H' : List (Int × Int)} {f f' : Int}
end

theorem b7 : bytesL 7 1 = [7] := by rfl
theorem b3 : bytesL 3 2 = [0, 3] := by rfl
theorem fill_s3 : splice [0, 0, 7] 0 (bytesL 3 2) = [0, 3, 7] := by rw [b3]; rfl
theorem rfl_beq (l : List Int) : (l == l) = true := by simp

end Go.Proofs.Ytlikpafjlojagaa
