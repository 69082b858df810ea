/- Laws on append over any program: what is appended to a slice that the call itself owns; the slice that comes of it lies where it lay, or in new memory. -/
import Derived.Test.YtehgjenmcjgpnaaDoorBase
namespace Go.Proofs.YtehgjenmcjgpnaaDoor
open Go.RowKit

/-- What the tables say of a slice type t with elements e of one cell. -/
structure Elem (P : Program) (t e : TypeId) (z : Value) (bytes : Nat) : Prop where
  under : P.underlying t = some (.slice e)
  info : (P.info? e).map (fun i => (i.zero, i.size, i.bytes)) = some (some z, 1, bytes)
  one : z.cells = #[z]

/-- v' lies where v lay, or in memory that is new behind w. -/
def Moved (w : World) (v v' : Value) : Prop := v'.ownBlock = v.ownBlock ∨ ∃ g, v'.ownBlock = some g ∧ w.heap.size ≤ g

/-- From w to w' the owned slice v has become v', which holds xs; nothing else has turned. -/
structure Grew (e : TypeId) (w w' : World) (v v' : Value) (xs : List Value) : Prop where
  own : w'.ownsRow 0 e 1 v' xs.length xs
  by_ : w.grownBy w' v.ownBlock
  moved : Moved w v v'

theorem Grew.refl {e : TypeId} {w : World} {v : Value} {xs : List Value} (h : w.ownsRow 0 e 1 v xs.length xs) : Grew e w w v v xs :=
  ⟨h, ⟨rfl, rfl, rfl, Nat.le_refl _, fun _ _ _ => rfl⟩, .inl rfl⟩

theorem grownBy_trans {a b c : World} {r r' : Option Nat} (h : a.grownBy b r) (k : b.grownBy c r') (hr : r' = r ∨ ∀ g, r' = some g → a.heap.size ≤ g) : a.grownBy c r := by
  refine ⟨k.os.trans h.os, k.tape.trans h.tape, k.output.trans h.output, Nat.le_trans h.size k.size, fun i hi hne => ?_⟩
  refine (k.block i (Nat.lt_of_lt_of_le hi h.size) ?_).trans (h.block i hi hne)
  rcases hr with rfl | hr
  · exact hne
  · intro e
    have := hr i e.symm
    omega

theorem Grew.trans {e : TypeId} {a b c : World} {v v1 v2 : Value} {xs ys : List Value} (h : Grew e a b v v1 xs) (k : Grew e b c v1 v2 ys) : Grew e a c v v2 ys := by
  refine ⟨k.own, grownBy_trans h.by_ k.by_ ?_, ?_⟩
  · rcases h.moved with h | ⟨g, hg, hs⟩
    · exact .inl h
    · right; intro g' hg'; rw [hg] at hg'; simp at hg'; omega
  · rcases k.moved with k1 | ⟨g, hg, hs⟩
    · rcases h.moved with h1 | ⟨g, hg, hs⟩
      · exact .inl (k1.trans h1)
      · exact .inr ⟨g, k1.trans hg, hs⟩
    · exact .inr ⟨g, hg, Nat.le_trans h.by_.size hs⟩

/-- A step that makes new memory alone, or draws, ahead of it. -/
theorem Grew.ahead {e : TypeId} {a b c : World} {v v2 : Value} {ys : List Value} (h : a.grownBy b none) (k : Grew e b c v v2 ys) : Grew e a c v v2 ys := by
  refine ⟨k.own, ?_, ?_⟩
  · have h' : a.grownBy b v.ownBlock := ⟨h.os, h.tape, h.output, h.size, fun i hi _ => h.block i hi (by simp)⟩
    exact grownBy_trans h' k.by_ (.inl rfl)
  · rcases k.moved with k1 | ⟨g, hg, hs⟩
    · exact .inl k1
    · exact .inr ⟨g, hg, Nat.le_trans h.size hs⟩

/-- A step that makes new memory alone, or draws, behind it. -/
theorem Grew.behind {e : TypeId} {a b c : World} {v v1 : Value} {xs : List Value} (h : Grew e a b v v1 xs) (k : b.grownBy c none) : Grew e a c v v1 xs := by
  refine ⟨h.own.kept k (by cases h' : v1.ownBlock <;> simp), ?_, h.moved⟩
  exact ⟨k.os.trans h.by_.os, k.tape.trans h.by_.tape, k.output.trans h.by_.output, Nat.le_trans h.by_.size k.size,
    fun i hi hne => (k.block i (Nat.lt_of_lt_of_le hi h.by_.size) (by simp)).trans (h.by_.block i hi hne)⟩

theorem Grew.below {e : TypeId} {w w' : World} {v v' : Value} {xs : List Value} {B : Nat} (h : Grew e w w' v v' xs) (hB : B ≤ w.heap.size) (hv : ∀ g, v.ownBlock = some g → B ≤ g) : Below B w w' :=
  (Below.refl B w).grown h.by_ hB hv

theorem Grew.base {e : TypeId} {w w' : World} {v v' : Value} {xs : List Value} {B : Nat} (h : Grew e w w' v v' xs) (hB : B ≤ w.heap.size) (hv : ∀ g, v.ownBlock = some g → B ≤ g) : ∀ g, v'.ownBlock = some g → B ≤ g := by
  intro g hg
  rcases h.moved with h1 | ⟨g', hg', hs⟩
  · exact hv g (h1 ▸ hg)
  · rw [hg'] at hg; simp at hg; omega

theorem Grew.cell {e : TypeId} {w w' : World} {v v' : Value} {xs : List Value} (h : Grew e w w' v v' xs) {p : Addr} {x : Value} (hp : w.cell? p = some x) (hne : v.ownBlock ≠ some p.block) : w'.cell? p = some x :=
  h.by_.cell hp (fun h => hne h.symm)

theorem below_by_none {w w' : World} (h : Below w.heap.size w w') : w.grownBy w' none := ⟨h.os, h.tape, h.output, h.size, fun i hi _ => h.block i hi⟩
theorem by_none_below {w w' : World} (h : w.grownBy w' none) : Below w.heap.size w w' := ⟨h.os, h.tape, h.output, h.size, fun i hi => h.block i hi (by simp)⟩
theorem by_none_alloc (w : World) (o : Obj) : w.grownBy (w.alloc o) none := World.grownBy_alloc w o none
theorem by_none_drewN (w : World) (n : Nat) : w.grownBy (w.drewN n) none := ⟨rfl, rfl, rfl, Nat.le_refl _, fun _ _ _ => rfl⟩

section
variable {P : Program} {t ty e : TypeId} {z : Value} {bytes : Nat} {w : World}

/-- append, whatever the source: n elements that lie there as news. -/
theorem run_app (E : Elem P t e z bytes) {v : Value} {xs : List Value} (hown : w.ownsRow 0 e 1 v xs.length xs) (x : Value) (news : List Value)
    (hlen : ∀ w, (Builtin.lenOf x).run P w = .ok news.length w) (hfirst : ∀ w' : World, (∀ a, w'.cell? a = w.cell? a) → (Builtin.firstCells 1 news.length x).run P w' = .ok news.toArray w')
    (h1 : ∀ u ∈ news, u.oneCell' = true) (hbytes : (xs.length + news.length) * bytes ≤ 140737488355328) (h63 : xs.length + news.length ≤ 140737488355328) :
    ∃ v' w', (Builtin.append_ #[t, t] ty #[v, x]).run P w = .ok v' w' ∧ Grew e w w' v v' (xs ++ news) := by
  obtain ⟨i, hi, hz, hs, hb⟩ : ∃ i, P.info? e = some i ∧ i.zero = some z ∧ i.size = 1 ∧ i.bytes = bytes := by
    have := E.info
    cases hi : P.info? e with
    | none => rw [hi] at this; simp at this
    | some i => rw [hi] at this; simp at this; exact ⟨i, rfl, this⟩
  have ht := E.under
  have hsz : z.cells.size = 1 := by rw [E.one]; rfl
  subst hb
  have hlenT : (xs ++ news).length = xs.length + news.length := List.length_append
  have grown : ∀ (old : Nat) (row : Option Nat),
      (w.drew.alloc (.cells (xs.toArray ++ news.toArray ++ Builtin.zeroCells z.cells (grownCap w (xs.length + news.length) old e - (xs.length + news.length))) e)).ownsRow 0 e 1
        (.slice (some ⟨w.heap.size, 0, none⟩) (xs ++ news).length (grownCap w (xs.length + news.length) old e)) (xs ++ news).length (xs ++ news) ∧
      w.grownBy (w.drew.alloc (.cells (xs.toArray ++ news.toArray ++ Builtin.zeroCells z.cells (grownCap w (xs.length + news.length) old e - (xs.length + news.length))) e)) row := by
    intro old row
    have hge := grownCap_ge w (xs.length + news.length) old e
    have hcm : grownCap w (xs.length + news.length) old e ≤ maxLen := grownCap_le_maxLen w (xs.length + news.length) old e (by unfold maxLen; omega)
    refine ⟨⟨by omega, .inr ⟨w.heap.size, _, _, rfl, Nat.zero_le _, heap_alloc_new w.drew _, by omega, hcm, ?_, ?_⟩⟩, ⟨rfl, rfl, rfl, by simp, fun k hk _ => _root_.Go.heap_alloc_old _ _ hk⟩⟩
    · simp only [Array.size_append, List.size_toArray, size_zeroCells, hsz]
      omega
    · simp only [Array.toList_append, List.append_assoc]
      rw [← List.append_assoc, Nat.mul_one]
      exact List.take_left
  rcases hown.2 with ⟨rfl, h0⟩ | ⟨g, cap, cur, hv, hbg, hg, hnc, hcm, hcs, htake⟩
  · have hx : xs = [] := List.eq_nil_of_length_eq_zero h0
    subst hx
    simp only [List.length_nil, Nat.zero_add, List.nil_append] at *
    by_cases hm : news.length = 0
    · have hn : news = [] := List.eq_nil_of_length_eq_zero hm
      subst hn
      refine ⟨.slice none 0 0, w, ?_, Grew.refl hown⟩
      have hf := hfirst w (fun _ => rfl)
      have hl := hlen w
      simp only [List.length_nil] at hf hl
      have hL0 : ∀ w, (Builtin.lenOf x).run P w = .ok 0 w := hlen
      simp [Builtin.append_, run_underlying ht, sizeOf, typeInfo, hi, hL0, hs, hf]
    · have h63' : ¬ (9223372036854775807 < (news.length : Int)) := by omega
      have h48' : ¬ (281474976710656 < Builtin.nextslicecap news.length 0 * i.bytes) := by rw [nextslicecap_zero (by omega)]; omega
      have hf := hfirst w.drew (fun _ => rfl)
      have hgr := grown 0 none
      refine ⟨.slice (some ⟨w.heap.size, 0, none⟩) news.length (grownCap w news.length 0 e), _, ?_, hgr.1, ⟨hgr.2.os, hgr.2.tape, hgr.2.output, hgr.2.size, fun k hk _ => hgr.2.block k hk (by simp)⟩, .inr ⟨_, rfl, Nat.le_refl _⟩⟩
      have hne : news ≠ [] := by intro h; subst h; simp at hm
      simp [Builtin.append_, run_underlying ht, sizeOf, typeInfo, zeroValue, hi, hz, hs, hlen, hne, h63', h48', Question.forced, run_firstCells_none, hf, newRow, grownCap]
  · subst hv
    by_cases hroom : xs.length + news.length ≤ cap
    · have hf := hfirst w (fun _ => rfl)
      have hst := run_storeCells_at P g xs.length e news 0 cur w hg (by omega) h1
      simp only [Nat.add_zero] at hst
      refine ⟨.slice (some ⟨g, 0, none⟩) (xs.length + news.length) cap, w.setRow g (cur.toList.take xs.length ++ news ++ cur.toList.drop (xs.length + news.length)).toArray, ?_, ⟨by omega, .inr ⟨g, cap, _, by rw [hlenT], Nat.zero_le _, setRow_heap w g cur _ e _ hg, by omega, hcm, ?_, ?_⟩⟩, ⟨rfl, rfl, rfl, by simp, fun k _ hk => setRow_other w g k _ (fun e => hk (by simp [Value.ownBlock, e]))⟩, .inl rfl⟩
      · simp [Builtin.append_, run_underlying ht, sizeOf, typeInfo, hi, hs, hlen, hroom, hf, Addr.add_lit, hst]
      · simp only [List.size_toArray, List.length_append, List.length_take, List.length_drop, Array.length_toList]
        omega
      · rw [Nat.mul_one] at htake ⊢
        show ((cur.toList.take xs.length ++ news) ++ cur.toList.drop (xs.length + news.length)).take (xs ++ news).length = _
        rw [htake]
        exact List.take_left
    · have hn : ¬ (xs.length + news.length ≤ cap) := hroom
      have h63' : ¬ (9223372036854775807 < ((xs.length : Int) + (news.length : Int))) := by omega
      have h48' : ¬ (281474976710656 < Builtin.nextslicecap (xs.length + news.length) cap * i.bytes) := by
        have := growslice_fits (bytes := i.bytes) (show cap < xs.length + news.length by omega) hbytes
        omega
      have hf := hfirst w.drew (fun _ => rfl)
      have holds : ∀ j u, xs[j]? = some u → w.cell? ((⟨g, 0, none⟩ : Addr).add j) = some u := hown.cells (g := g) rfl
      have hfo := run_firstCells_some (P := P) w.drew 1 xs.length ⟨g, 0, none⟩ xs.length cap xs (by omega) (by simpa using holds)
      have hgr := grown cap (Value.ownBlock (.slice (some ⟨g, 0, none⟩) xs.length cap))
      refine ⟨.slice (some ⟨w.heap.size, 0, none⟩) (xs ++ news).length (grownCap w (xs.length + news.length) cap e), _, ?_, hgr.1, hgr.2, .inr ⟨_, rfl, Nat.le_refl _⟩⟩
      simp [Builtin.append_, run_underlying ht, sizeOf, typeInfo, zeroValue, hi, hz, hs, hlen, hn, h63', h48', Question.forced, hf, hfo, newRow, grownCap]
      congr 2
      apply Array.ext'
      simp [List.append_assoc]
/-- append(s, make([]T, n)...): n zeros. -/
theorem run_app_zeros (E : Elem P t e z bytes) {v : Value} {xs : List Value} (hown : w.ownsRow 0 e 1 v xs.length xs) {tx : TypeId} {kx : IntKind} (htx : P.underlying tx = some (.int kx)) (n : Nat) (news : List Value) (hnews : news = List.replicate n z) (h1 : z.oneCell' = true) (hbytes : (xs.length + news.length) * bytes ≤ 140737488355328) (h63 : xs.length + news.length ≤ 140737488355328) :
    ∃ v' w', (Builtin.append_ #[t, tx] ty #[v, .int kx n]).run P w = .ok v' w' ∧ Grew e w w' v v' (xs ++ news) := by
  obtain ⟨i, hi, hz, hs, hb⟩ : ∃ i, P.info? e = some i ∧ i.zero = some z ∧ i.size = 1 ∧ i.bytes = bytes := by
    have := E.info
    cases hi : P.info? e with
    | none => rw [hi] at this; simp at this
    | some i => rw [hi] at this; simp at this; exact ⟨i, rfl, this⟩
  have ht := E.under
  have hnl : news.length = n := by rw [hnews]; simp
  have wn : IntKind.i64.wrap (n : Int) = n := by rw [IntKind.wrap_i64]; omega
  have hneg : ¬ ((n : Int) < 0) := by omega
  have hzc : Builtin.zeroCells z.cells n = news.toArray := by
    rw [E.one, hnews]
    apply Array.ext'
    simp [Builtin.zeroCells]
    apply List.ext_getElem?
    intro j
    by_cases hj : j < n <;> simp [hj, Nat.mod_one]
  have h1' : ∀ u ∈ news, u.oneCell' = true := by rw [hnews]; intro u hu; rw [List.eq_of_mem_replicate hu]; exact h1
  have h48n : ¬ (281474976710656 < (n : Int) * (i.bytes : Int)) := by
    have h : (xs.length + news.length) * i.bytes ≤ 140737488355328 := by rw [hb]; exact hbytes
    have h2 : n * i.bytes ≤ (xs.length + news.length) * i.bytes := Nat.mul_le_mul_right _ (by omega)
    have h3 : ((n * i.bytes : Nat) : Int) ≤ 281474976710656 := by omega
    rw [Int.natCast_mul] at h3
    omega
  have hsz : z.cells.size = 1 := by rw [E.one]; rfl
  subst hb
  have hlenT : (xs ++ news).length = xs.length + news.length := List.length_append
  have grown : ∀ (old : Nat) (row : Option Nat),
      (w.drew.alloc (.cells (xs.toArray ++ news.toArray ++ Builtin.zeroCells z.cells (grownCap w (xs.length + news.length) old e - (xs.length + news.length))) e)).ownsRow 0 e 1
        (.slice (some ⟨w.heap.size, 0, none⟩) (xs ++ news).length (grownCap w (xs.length + news.length) old e)) (xs ++ news).length (xs ++ news) ∧
      w.grownBy (w.drew.alloc (.cells (xs.toArray ++ news.toArray ++ Builtin.zeroCells z.cells (grownCap w (xs.length + news.length) old e - (xs.length + news.length))) e)) row := by
    intro old row
    have hge := grownCap_ge w (xs.length + news.length) old e
    have hcm : grownCap w (xs.length + news.length) old e ≤ maxLen := grownCap_le_maxLen w (xs.length + news.length) old e (by unfold maxLen; omega)
    refine ⟨⟨by omega, .inr ⟨w.heap.size, _, _, rfl, Nat.zero_le _, heap_alloc_new w.drew _, by omega, hcm, ?_, ?_⟩⟩, ⟨rfl, rfl, rfl, by simp, fun k hk _ => _root_.Go.heap_alloc_old _ _ hk⟩⟩
    · simp only [Array.size_append, List.size_toArray, size_zeroCells, hsz]
      omega
    · simp only [Array.toList_append, List.append_assoc]
      rw [← List.append_assoc, Nat.mul_one]
      exact List.take_left
  rcases hown.2 with ⟨rfl, h0⟩ | ⟨g, cap, cur, hv, hbg, hg, hnc, hcm, hcs, htake⟩
  · have hx : xs = [] := List.eq_nil_of_length_eq_zero h0
    subst hx
    simp only [List.length_nil, Nat.zero_add, List.nil_append] at *
    by_cases hm : news.length = 0
    · have hn : news = [] := List.eq_nil_of_length_eq_zero hm
      subst hn
      refine ⟨.slice none 0 0, w, ?_, Grew.refl hown⟩
      have hn0 : n = 0 := by rw [← hnl]; rfl
      subst hn0
      simp [Builtin.append_, run_underlying ht, run_underlying htx, sizeOf, typeInfo, hi, asInt, asIntOf, IntKind.wrap_i64]
    · have h63' : ¬ (9223372036854775807 < (news.length : Int)) := by omega
      have h48' : ¬ (281474976710656 < Builtin.nextslicecap news.length 0 * i.bytes) := by rw [nextslicecap_zero (by omega)]; omega
      have hnl0 : n ≠ 0 := by omega
      have hgr := grown 0 none
      refine ⟨.slice (some ⟨w.heap.size, 0, none⟩) news.length (grownCap w news.length 0 e), _, ?_, hgr.1, ⟨hgr.2.os, hgr.2.tape, hgr.2.output, hgr.2.size, fun k hk _ => hgr.2.block k hk (by simp)⟩, .inr ⟨_, rfl, Nat.le_refl _⟩⟩
      rw [hnl] at h63' h48'
      simp [Builtin.append_, run_underlying ht, sizeOf, typeInfo, zeroValue, hi, hz, hs, run_underlying htx, asInt, asIntOf, wn, hneg, h48n, hzc, hnl0, hnl, h63', h48', Question.forced, run_firstCells_none, newRow, grownCap]
  · subst hv
    by_cases hroom : xs.length + news.length ≤ cap
    · have hst := run_storeCells_at P g xs.length e news 0 cur w hg (by omega) h1'
      simp only [Nat.add_zero] at hst
      refine ⟨.slice (some ⟨g, 0, none⟩) (xs.length + news.length) cap, w.setRow g (cur.toList.take xs.length ++ news ++ cur.toList.drop (xs.length + news.length)).toArray, ?_, ⟨by omega, .inr ⟨g, cap, _, by rw [hlenT], Nat.zero_le _, setRow_heap w g cur _ e _ hg, by omega, hcm, ?_, ?_⟩⟩, ⟨rfl, rfl, rfl, by simp, fun k _ hk => setRow_other w g k _ (fun e => hk (by simp [Value.ownBlock, e]))⟩, .inl rfl⟩
      · by_cases hn0 : n = 0
        · have hne : news = [] := List.eq_nil_of_length_eq_zero (by omega)
          rw [hnl] at hroom hst
          simp only [hne, List.toArray] at hst ⊢
          subst hn0
          simp at hst
          simp [Builtin.append_, run_underlying ht, run_underlying htx, sizeOf, typeInfo, hi, hs, asInt, asIntOf, IntKind.wrap_i64, hnc]
          simpa [storeCells] using hst
        · rw [hnl] at hroom hst ⊢
          simp [Builtin.append_, run_underlying ht, run_underlying htx, sizeOf, typeInfo, zeroValue, hi, hz, hs, asInt, asIntOf, wn, hneg, h48n, hzc, hn0, hroom, Addr.add_lit, hst]
      · simp only [List.size_toArray, List.length_append, List.length_take, List.length_drop, Array.length_toList]
        omega
      · rw [Nat.mul_one] at htake ⊢
        show ((cur.toList.take xs.length ++ news) ++ cur.toList.drop (xs.length + news.length)).take (xs ++ news).length = _
        rw [htake]
        exact List.take_left
    · have hn : ¬ (xs.length + news.length ≤ cap) := hroom
      have h63' : ¬ (9223372036854775807 < ((xs.length : Int) + (news.length : Int))) := by omega
      have h48' : ¬ (281474976710656 < Builtin.nextslicecap (xs.length + news.length) cap * i.bytes) := by
        have := growslice_fits (bytes := i.bytes) (show cap < xs.length + news.length by omega) hbytes
        omega
      have holds : ∀ j u, xs[j]? = some u → w.cell? ((⟨g, 0, none⟩ : Addr).add j) = some u := hown.cells (g := g) rfl
      have hfo := run_firstCells_some (P := P) w.drew 1 xs.length ⟨g, 0, none⟩ xs.length cap xs (by omega) (by simpa using holds)
      have hgr := grown cap (Value.ownBlock (.slice (some ⟨g, 0, none⟩) xs.length cap))
      refine ⟨.slice (some ⟨w.heap.size, 0, none⟩) (xs ++ news).length (grownCap w (xs.length + news.length) cap e), _, ?_, hgr.1, hgr.2, .inr ⟨_, rfl, Nat.le_refl _⟩⟩
      have hn0 : n ≠ 0 := by omega
      rw [hnl] at h48' hn ⊢
      rw [hnl] at h63'
      simp [Builtin.append_, run_underlying ht, run_underlying htx, sizeOf, typeInfo, zeroValue, hi, hz, hs, asInt, asIntOf, wn, hneg, h48n, hzc, hn0, hn, h63', h48', Question.forced, hfo, newRow, grownCap]
      refine ⟨hnl.symm, ?_⟩
      congr 2
      rw [← List.append_toArray, Array.append_assoc]

theorem run_lenOf_slice (a : Option Addr) (n c : Nat) (w : World) : (Builtin.lenOf (.slice a n c)).run P w = .ok n w := by simp [Builtin.lenOf]

theorem first_ints {k : IntKind} {a : Option Addr} {l : List Int} {c : Nat} (h : Ints k w a l) (w' : World) (hw : ∀ a, w'.cell? a = w.cell? a) :
    (Builtin.firstCells 1 (l.map (Value.int k)).length (.slice a l.length c)).run P w' = .ok (l.map (Value.int k)).toArray w' := by
  cases l with
  | nil => cases a <;> simp [Builtin.firstCells, loadCells, loadCellsFrom]
  | cons x r =>
    obtain ⟨b, off, rfl, _⟩ := h 0 (by simp)
    rw [List.length_map]
    refine run_firstCells_some (P := P) w' 1 (x :: r).length ⟨b, off, none⟩ _ c _ (by simp) ?_
    intro j v hj
    have hlt : j < (x :: r).length := by
      rcases Nat.lt_or_ge j (x :: r).length with h' | h'
      · exact h'
      · rw [List.getElem?_eq_none (by simpa using h')] at hj; simp at hj
    obtain ⟨b', off', he, hc⟩ := h j hlt
    simp at he
    obtain ⟨rfl, rfl⟩ := he
    have : (⟨b, off, none⟩ : Addr).add j = ⟨b, off + j, none⟩ := by unfold Addr.add; split <;> simp_all
    rw [this, hw, hc, ← hj]
    rw [List.getElem?_map, List.getElem?_eq_getElem hlt]
    simp only [List.getD, List.getElem?_eq_getElem hlt, Option.getD_some, Option.map_some]

/-- append(s, x...), x a slice of integers that reads as l. -/
theorem app_wp {o : Oper} {a : Act} {K : Act → World → Prop} {Q : Exit → Act → World → Prop} (s x : Operand)
    (ho : o.op = .call { callee := .builtin .append, args := #[s, x], argTypes := #[t, t] }) (E : Elem P t e z bytes)
    {v : Value} (hs : a.eval s = v) {xs : List Value} (hown : w.ownsRow 0 e 1 v xs.length xs)
    {k : IntKind} {ad : Option Addr} {l : List Int} {n c : Nat} (hx : a.eval x = .slice ad n c) (hn : n = l.length) (hI : Ints k w ad l)
    (hbytes : (xs.length + l.length) * bytes ≤ 140737488355328) (h63 : xs.length + l.length ≤ 140737488355328)
    (h : ∀ v' w', Grew e w w' v v' (xs ++ l.map (Value.int k)) → K (a.put o.dst v') w') : o.wp P a w K Q := by
  subst hn
  obtain ⟨v', w', hr, hg⟩ := run_app (P := P) (ty := o.type) E hown (.slice ad l.length c) (l.map (Value.int k)) (fun w => by rw [List.length_map]; exact run_lenOf_slice _ _ _ _)
    (fun w' hw => first_ints hI w' hw) (by intro u hu; simp at hu; obtain ⟨q, _, rfl⟩ := hu; rfl) (by simpa using hbytes) (by simpa using h63)
  unfold Oper.wp execOp
  simp only [ho, resolve, invoke, builtin, Sem.run_bind, Sem.run_pure, Result.andThen_ok, List.map_toArray, List.map_cons, List.map_nil, hs, hx, hr]
  exact h v' w' hg

/-- append(s, x...), x a slice of integers that reads as l. -/
theorem wp_app {ops : Array Oper} {rest : List Oper} {o : Oper} {a : Act} {Q : Exit → Act → World → Prop} (hgd : o.guard = none) (s x : Operand)
    (ho : o.op = .call { callee := .builtin .append, args := #[s, x], argTypes := #[t, t] }) (E : Elem P t e z bytes)
    {v : Value} (hs : a.eval s = v) {xs : List Value} (hown : w.ownsRow 0 e 1 v xs.length xs)
    {k : IntKind} {ad : Option Addr} {l : List Int} {n c : Nat} (hx : a.eval x = .slice ad n c) (hn : n = l.length) (hI : Ints k w ad l)
    (hbytes : (xs.length + l.length) * bytes ≤ 140737488355328) (h63 : xs.length + l.length ≤ 140737488355328)
    (h : ∀ v' w', Grew e w w' v v' (xs ++ l.map (Value.int k)) → wpList P ops Q rest (a.put o.dst v') w') : wpList P ops Q (o :: rest) a w :=
  wpList_plain hgd fun _ hK => app_wp s x ho E hs hown hx hn hI hbytes h63 fun v' w' hg => hK _ _ (h v' w' hg)

/-- append(s, x...), x a slice of integers that reads as l. -/
theorem step_app {ops : Array Oper} {o : Oper} {a : Act} {K : Act → World → Prop} {Q : Exit → Act → World → Prop} {R : Prop} (hgd : o.guard = none) (s x : Operand)
    (ho : o.op = .call { callee := .builtin .append, args := #[s, x], argTypes := #[t, t] }) (E : Elem P t e z bytes)
    {v : Value} (hs : a.eval s = v) {xs : List Value} (hown : w.ownsRow 0 e 1 v xs.length xs)
    {k : IntKind} {ad : Option Addr} {l : List Int} {n c : Nat} (hx : a.eval x = .slice ad n c) (hn : n = l.length) (hI : Ints k w ad l)
    (hbytes : (xs.length + l.length) * bytes ≤ 140737488355328) (h63 : xs.length + l.length ≤ 140737488355328)
    (h : ∀ v' w', Grew e w w' v v' (xs ++ l.map (Value.int k)) → K (a.put o.dst v') w') : if Region.wanted o (yielded ops a.tmps) = true then Oper.wp P o a w K Q else R := by
  have hw : Region.wanted o (yielded ops a.tmps) = true := by simp [Region.wanted, hgd]
  rw [if_pos hw]
  exact app_wp s x ho E hs hown hx hn hI hbytes h63 h

/-- append(s, make([]T, n)...), as the translation has it. -/
theorem wp_app_zeros {ops : Array Oper} {rest : List Oper} {o : Oper} {a : Act} {Q : Exit → Act → World → Prop} (hgd : o.guard = none) (s x : Operand) {tx : TypeId} {kx : IntKind}
    (ho : o.op = .call { callee := .builtin .append, args := #[s, x], argTypes := #[t, tx] }) {k : IntKind} (E : Elem P t e (.int k 0) bytes) (htx : P.underlying tx = some (.int kx))
    {v : Value} (hs : a.eval s = v) {xs : List Value} (hown : w.ownsRow 0 e 1 v xs.length xs)
    {q : Int} {n : Nat} (hx : a.eval x = .int kx q) (hn : q = (n : Int))
    (hbytes : (xs.length + n) * bytes ≤ 140737488355328) (h63 : xs.length + n ≤ 140737488355328)
    (h : ∀ v' w', Grew e w w' v v' (xs ++ (List.replicate n (0 : Int)).map (Value.int k)) → wpList P ops Q rest (a.put o.dst v') w') : wpList P ops Q (o :: rest) a w := by
  subst hn
  refine wpList_plain hgd fun K hK => ?_
  obtain ⟨v', w', hr, hg⟩ := run_app_zeros (P := P) (ty := o.type) E hown htx n ((List.replicate n (0 : Int)).map (Value.int k)) (by simp) rfl (by simpa using hbytes) (by simpa using h63)
  unfold Oper.wp execOp
  simp only [ho, resolve, invoke, builtin, Sem.run_bind, Sem.run_pure, Result.andThen_ok, List.map_toArray, List.map_cons, List.map_nil, hs, hx, hr]
  exact hK _ _ (h v' w' hg)

/-- What is owned has the shape of a slice, and reads as it is. -/
theorem own_ints {k : IntKind} {v : Value} {l : List Int} (h : w.ownsRow 0 e 1 v (l.map (Value.int k)).length (l.map (Value.int k))) :
    ∃ a c, v = .slice a l.length c ∧ l.length ≤ c ∧ c ≤ maxLen ∧ Ints k w a l := by
  rcases h.2 with ⟨rfl, h0⟩ | ⟨g, cap, cur, rfl, _, hg, hnc, hcm, hcs, htake⟩
  · have : l = [] := List.eq_nil_of_length_eq_zero (by simpa using h0)
    subst this
    exact ⟨none, 0, rfl, by simp, by simp [maxLen], Ints.nil _ _ _⟩
  · refine ⟨some ⟨g, 0, none⟩, cap, by simp, by simpa using hnc, hcm, ?_⟩
    intro i hi
    refine ⟨g, 0, rfl, ?_⟩
    rw [Nat.zero_add, cell_of_row w g i cur e (0, 0) hg]
    have : (cur.toList.take ((l.map (Value.int k)).length * 1))[i]? = (l.map (Value.int k))[i]? := by rw [htake]
    rw [List.getElem?_take, if_pos (by simpa using hi)] at this
    rw [← Array.getElem?_toList, this, List.getElem?_map, List.getElem?_eq_getElem hi]
    simp only [List.getD, List.getElem?_eq_getElem hi, Option.getD_some, Option.map_some]

/-- What is handed back is a slice in new memory, which holds xs; nothing that was there has turned. -/
structure Fresh (e : TypeId) (w w' : World) (v : Value) (xs : List Value) : Prop where
  own : w'.ownsRow 0 e 1 v xs.length xs
  bel : Below w.heap.size w w'
  new : ∀ g, v.ownBlock = some g → w.heap.size ≤ g

/-- []T{} -/
theorem own_empty (w : World) (e : TypeId) : (w.alloc (.cells #[] e)).ownsRow 0 e 1 (.slice (some ⟨w.heap.size, 0, none⟩) 0 0) ([] : List Value).length [] :=
  World.ownsRow_made w #[] 0 (Nat.zero_le _) (Nat.zero_le _) rfl
theorem Grew.first {e : TypeId} {w w' : World} {v' : Value} {xs : List Value} (h : Grew e (w.alloc (.cells #[] e)) w' (.slice (some ⟨w.heap.size, 0, none⟩) 0 0) v' xs) : Fresh e w w' v' xs :=
  have hb : Below w.heap.size (w.alloc (.cells #[] e)) w' := h.below (by simp) (by intro g hg; simp [Value.ownBlock] at hg; omega)
  ⟨h.own, ((Below.refl _ _).alloc (Nat.le_refl _) _).trans hb, h.base (by simp) (by intro g hg; simp [Value.ownBlock] at hg; omega)⟩

/-- the slice of one element that append(s, x) makes -/
theorem ints_one (k : IntKind) (w : World) (q : Int) (e : TypeId) : Ints k (w.alloc (.cells #[.int k q] e)) (some ⟨w.heap.size, 0, none⟩) [q] := by
  intro i hi
  simp at hi
  subst hi
  exact ⟨_, _, rfl, by simp⟩

theorem Fresh.step {e : TypeId} {w wr w' : World} {v v' : Value} {xs ys : List Value} (h : Fresh e w wr v xs) (k : Grew e wr w' v v' ys) : Fresh e w w' v' ys :=
  ⟨k.own, h.bel.trans (k.below h.bel.size h.new), k.base h.bel.size h.new⟩
theorem Fresh.behind {e : TypeId} {w wr w' : World} {v : Value} {xs : List Value} (h : Fresh e w wr v xs) (k : wr.grownBy w' none) : Fresh e w w' v xs :=
  ⟨h.own.kept k (by cases h' : v.ownBlock <;> simp), h.bel.trans ((by_none_below k).mono h.bel.size), h.new⟩
theorem Fresh.made {e : TypeId} {w w1 w' : World} {v : Value} {xs : List Value} (h : w.grownBy w1 none) (k : Fresh e w1 w' v xs) : Fresh e w w' v xs :=
  ⟨k.own, (by_none_below h).trans (k.bel.mono h.size), fun g hg => Nat.le_trans h.size (k.new g hg)⟩

/-- make([]T, n), make([]T, n, m) -/
theorem wp_make {ops : Array Oper} {rest : List Oper} {o : Oper} {a : Act} {Q : Exit → Act → World → Prop} (hgd : o.guard = none) (x y : Operand)
    (ho : o.op = .makeSlice t x y) (E : Elem P t e z bytes) {kl kc : IntKind} {L C : Int} (hx : a.eval x = .int kl L) (hy : a.eval y = .int kc C) {n m : Nat} (hL : L = n) (hC : C = m) (hnm : n ≤ m)
    (hbytes : bytes * m ≤ 281474976710656) (h63 : m ≤ 281474976710656)
    (h : ∀ w', Fresh e w w' (.slice (some ⟨w.heap.size, 0, none⟩) n m) (List.replicate n z) → wpList P ops Q rest (a.put o.dst (.slice (some ⟨w.heap.size, 0, none⟩) n m)) w') : wpList P ops Q (o :: rest) a w := by
  obtain ⟨i, hi, hz, hs, hb⟩ : ∃ i, P.info? e = some i ∧ i.zero = some z ∧ i.size = 1 ∧ i.bytes = bytes := by
    have := E.info
    cases hi : P.info? e with
    | none => rw [hi] at this; simp at this
    | some i => rw [hi] at this; simp at this; exact ⟨i, rfl, this⟩
  subst hL
  subst hC
  subst hb
  refine wpList_plain hgd fun K hK => ?_
  have hb' : (i.bytes : Int) * (m : Int) ≤ 281474976710656 := by
    have h : ((i.bytes * m : Nat) : Int) ≤ 281474976710656 := by omega
    rwa [Int.natCast_mul] at h
  have hr := run_make (P := P) w t e i z E.under hi hz kl kc n m (by omega) (by omega) hb' (by omega)
  simp only [Int.toNat_natCast, hs, Nat.mul_one, E.one] at hr
  unfold Oper.wp
  simp [execOp, ho, hx, hy, hr, Result.andThen]
  refine hK _ _ (h _ ⟨⟨by simp, .inr ⟨w.heap.size, m, _, by simp, Nat.zero_le _, _root_.Go.heap_alloc_new w _, by simpa using hnm, by unfold maxLen; omega, by simp [madeCells], ?_⟩⟩, (Below.refl _ _).alloc (Nat.le_refl _) _, by simp [Value.ownBlock]⟩)
  rw [toList_madeCells_one]
  simp [List.take_replicate, hnm]

/-- a slice that is written out -/
theorem ints_lit (k : IntKind) (w : World) (l : List Int) (e : TypeId) : Ints k (w.alloc (.cells (l.map (Value.int k)).toArray e)) (some ⟨w.heap.size, 0, none⟩) l := by
  intro i hi
  refine ⟨_, 0, rfl, ?_⟩
  rw [Nat.zero_add, cell_of_row (w.alloc _) w.heap.size i _ e (0, 0) (_root_.Go.heap_alloc_new w _)]
  simp [List.getD, List.getElem?_eq_getElem hi]
theorem below_alloc (w : World) (o : Obj) : Below w.heap.size w (w.alloc o) := (Below.refl _ _).alloc (Nat.le_refl _) _

/-- a slice made, empty -/
theorem own_nil (w : World) (e : TypeId) : w.ownsRow 0 e 1 (.slice none 0 0) ([] : List Value).length [] := World.ownsRow_nil w 0 e 1
end
end Go.Proofs.YtehgjenmcjgpnaaDoor
