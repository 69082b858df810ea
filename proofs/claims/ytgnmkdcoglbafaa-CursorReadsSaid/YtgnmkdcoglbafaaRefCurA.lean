/- Contracts of the document's cursor: Fail, Bytes, Left, New. -/
import Derived.Test.YtgnmkdcoglbafaaCurS
namespace Go.Proofs.Ytgnmkdcoglbafaa
open Go.RowKit

theorem own_at (W : World) (e : TypeId) (k : IntKind) {g : Nat} (h : W.heap.size = g) : (W.alloc (.cells #[] e)).ownsRow 0 e 1 (.slice (some ⟨g, 0, none⟩) 0 0) (([] : List Int).map (Value.int k)).length (([] : List Int).map (Value.int k)) := by
  subst h; exact own_empty W e

theorem Grew.first_at {e : TypeId} {W w' : World} {v' : Value} {xs : List Value} {g : Nat} (hs : W.heap.size = g) (h : Grew e (W.alloc (.cells #[] e)) w' (.slice (some ⟨g, 0, none⟩) 0 0) v' xs) : Fresh e W w' v' xs := by
  subst hs; exact h.first

/-- a slice in new memory lies behind, or is nil -/
theorem fresh_far {e : TypeId} {W w' : World} {a : Option Addr} {m c : Nat} {xs : List Value} {B : Nat} (h : Fresh e W w' (.slice a m c) xs) (hB : B ≤ W.heap.size) : a = none ∨ ∃ q, a = some ⟨q, 0, none⟩ ∧ B ≤ q := by
  rcases h.own.2 with ⟨he, _⟩ | ⟨g, cap, cur, he, _⟩
  · simp at he; exact .inl he.1
  · simp at he
    obtain ⟨rfl, rfl, rfl⟩ := he
    exact .inr ⟨g, rfl, Nat.le_trans hB (h.new g rfl)⟩
theorem fresh_shape {e : TypeId} {W w' : World} {a : Option Addr} {m c : Nat} {xs : List Value} (h : Fresh e W w' (.slice a m c) xs) (hc : 0 < c) : ∃ b off, a = some ⟨b, off, none⟩ := by
  rcases h.own.2 with ⟨he, _⟩ | ⟨g, cap, cur, he, _⟩
  · simp at he; omega
  · simp at he; exact ⟨g, 0, he.1⟩
/-- a store beside it -/
theorem Ints.set {k : IntKind} {w : World} {a : Option Addr} {l : List Int} (h : Ints k w a l) {b : Nat} (hb : a = none ∨ ∃ q, a = some ⟨q, 0, none⟩ ∧ b ≠ q) (i : Nat) (u : Value) : Ints k (w.setCell ⟨b, i, none⟩ u) a l := by
  rcases hb with rfl | ⟨q, rfl, hq⟩
  · intro j hj
    obtain ⟨_, _, he, _⟩ := h j hj
    simp at he
  · exact h.by (by_setCell w b i u) (by simpa using hq)

/-- bytes that came in, or lie in new memory, as the slice a, l.length, c -/
structure Holds (w : World) (a : Option Addr) (c : Nat) (l : List Int) : Prop where
  cap : l.length ≤ c
  max : c ≤ 9223372036854775807
  ints : Ints .u8 w a l
  oct : Octets l
  shape : 0 < c → ∃ b off, a = some ⟨b, off, none⟩

/-- the same, and in new memory -/
structure Newly (w w' : World) (a : Option Addr) (c : Nat) (l : List Int) : Prop where
  holds : Holds w' a c l
  far : a = none ∨ ∃ q, a = some ⟨q, 0, none⟩ ∧ w.heap.size ≤ q

theorem Holds.below {w w' : World} {a : Option Addr} {c : Nat} {l : List Int} (h : Holds w a c l) (hb : Below w.heap.size w w') : Holds w' a c l := ⟨h.cap, h.max, h.ints.below hb, h.oct, h.shape⟩

/-- the document's cursor, as a value -/
def refV (a : Option Addr) (m c : Nat) (r s o f : Int) : Value := .agg #[.slice a m c, .int .i64 r, .int .i64 s, .int .i64 o, .int .i64 f]

theorem below_three (w : World) (o o' o2 : Obj) : Below w.heap.size w (((w.alloc o).alloc o').alloc o2) := (((Below.refl _ _).alloc (Nat.le_refl _) _).alloc (by simp) _).alloc (by simp; omega) _
/-- of what was there every cell and every mark reads as it did -/
theorem old_cells {W w1 : World} (hb : Below W.heap.size W w1) : (∀ b o, b < W.heap.size → w1.cell? ⟨b, o, none⟩ = W.cell? ⟨b, o, none⟩) ∧ (∀ b o, b < W.heap.size → w1.frozen? ⟨b, o, none⟩ = W.frozen? ⟨b, o, none⟩) :=
  ⟨fun b o h => hb.cell (p := ⟨b, o, none⟩) h, fun b o h => hb.frozen (p := ⟨b, o, none⟩) h⟩
theorem below_two (w : World) (o o' : Obj) : Below w.heap.size w ((w.alloc o).alloc o') := ((Below.refl _ _).alloc (Nat.le_refl _) _).alloc (by simp) _

theorem refLeft_any (w : World) (a : Option Addr) (m c : Nat) (r s o f : Int) (h0 : 0 ≤ r) (h1 : r ≤ m) (hm : m ≤ 9223372036854775807) :
    Calls Try.prog 15 #[.agg #[.slice a m c, .int .i64 r, .int .i64 s, .int .i64 o, .int .i64 f]] w fun e w' => e = .returned (.int .i64 (m - r)) ∧ Below w.heap.size w w' := by
  go_enter Try.func15, Try.ntmps15
  go_wp2
  go_ret
  exact ⟨rfl, below_alloc _ _⟩
theorem refNew_any (w : World) (a : Option Addr) (m c : Nat) (s o : Int) :
    Calls Try.prog 9 #[.slice a m c, .int .i64 s, .int .i64 o] w fun e w' => e = .returned (.agg #[.slice a m c, .int .i64 0, .int .i64 s, .int .i64 o, .int .i64 0]) ∧ Below w.heap.size w w' := by
  go_enter Try.func9, Try.ntmps9
  go_wp2
  refine bodyPost_ret (v := .agg #[.slice a m c, .int .i64 0, .int .i64 s, .int .i64 o, .int .i64 0]) (by simp [results, Try.results9, go_sem]) rfl ⟨rfl, ?_⟩
  exact (Below.refl _ _).alloc (Nat.le_refl _) _
theorem refFail_first (w : World) (a : Option Addr) (m c : Nat) (r s o q : Int) :
    Calls Try.prog 31 #[.agg #[.slice a m c, .int .i64 r, .int .i64 s, .int .i64 o, .int .i64 0], .int .i64 q] w fun e w' => e = .returned (.agg #[.slice a m c, .int .i64 r, .int .i64 s, .int .i64 o, .int .i64 q]) ∧ Below w.heap.size w w' := by
  go_enter Try.func31, Try.ntmps31
  go_wp2
  refine bodyPost_ret (v := .agg #[.slice a m c, .int .i64 r, .int .i64 s, .int .i64 o, .int .i64 q]) (by simp [results, Try.results31, go_sem]) rfl ⟨rfl, ?_⟩
  exact below_two _ _ _
theorem refFail_late (w : World) (a : Option Addr) (m c : Nat) (r s o f q : Int) (hf : f ≠ 0) :
    Calls Try.prog 31 #[.agg #[.slice a m c, .int .i64 r, .int .i64 s, .int .i64 o, .int .i64 f], .int .i64 q] w fun e w' => e = .returned (.agg #[.slice a m c, .int .i64 r, .int .i64 s, .int .i64 o, .int .i64 f]) ∧ Below w.heap.size w w' := by
  have e0 : (f == 0) = false := by simpa using hf
  clear hf
  go_enter Try.func31, Try.ntmps31
  go_wp2
  refine bodyPost_ret (v := .agg #[.slice a m c, .int .i64 r, .int .i64 s, .int .i64 o, .int .i64 f]) (by simp [results, Try.results31, go_sem]) rfl ⟨rfl, ?_⟩
  exact below_two _ _ _

theorem refBytes_neg (w : World) (a : Option Addr) (m c : Nat) (r s o : Int) {n : Int} (hn : n < 0) :
    Calls Try.prog 27 #[.agg #[.slice a m c, .int .i64 r, .int .i64 s, .int .i64 o, .int .i64 0], .int .i64 n] w fun e w' => e = .returned (.tuple #[.agg #[.slice a m c, .int .i64 r, .int .i64 s, .int .i64 o, .int .i64 10001], .slice none 0 0]) ∧ Below w.heap.size w w' := by
  go_enter Try.func27, Try.ntmps27
  go_wp2_with fail
  refine (refFail_first _ _ _ _ _ _ _ _).mono ?_
  rintro e w1 ⟨rfl, hB⟩
  obtain ⟨hc, hf⟩ := old_cells hB
  have hz : w.heap.size + 1 < w1.heap.size := by have := hB.size; simp at this; omega
  go_wp2
  refine bodyPost_ret (v := .tuple #[.agg #[.slice a m c, .int .i64 r, .int .i64 s, .int .i64 o, .int .i64 10001], .slice none 0 0]) (by simp [results, Try.results27, go_sem, hc]) rfl ⟨rfl, ?_⟩
  repeat refine Below.setCell ?_ (by simp) _
  exact below_more (below_two _ _ _) hB
theorem refBytes_negL (w : World) (a : Option Addr) (m c : Nat) (r s o f : Int) {n : Int} (hn : n < 0) (hf0 : f ≠ 0) :
    Calls Try.prog 27 #[.agg #[.slice a m c, .int .i64 r, .int .i64 s, .int .i64 o, .int .i64 f], .int .i64 n] w fun e w' => e = .returned (.tuple #[.agg #[.slice a m c, .int .i64 r, .int .i64 s, .int .i64 o, .int .i64 f], .slice none 0 0]) ∧ Below w.heap.size w w' := by
  have HF := hid hf0
  clear hf0
  go_enter Try.func27, Try.ntmps27
  go_wp2_with fail
  refine (refFail_late _ _ _ _ _ _ _ _ _ HF.out).mono ?_
  rintro e w1 ⟨rfl, hB⟩
  obtain ⟨hc, hf⟩ := old_cells hB
  have hz : w.heap.size + 1 < w1.heap.size := by have := hB.size; simp at this; omega
  go_wp2
  refine bodyPost_ret (v := .tuple #[.agg #[.slice a m c, .int .i64 r, .int .i64 s, .int .i64 o, .int .i64 f], .slice none 0 0]) (by simp [results, Try.results27, go_sem, hc]) rfl ⟨rfl, ?_⟩
  repeat refine Below.setCell ?_ (by simp) _
  exact below_more (below_two _ _ _) hB
theorem refBytes_short (w : World) (a : Option Addr) (m c : Nat) (r s o : Int) {n : Int} (hm : m ≤ 9223372036854775807) (h0 : 0 ≤ r) (h1 : r ≤ m) (hn : m - r < n) :
    Calls Try.prog 27 #[.agg #[.slice a m c, .int .i64 r, .int .i64 s, .int .i64 o, .int .i64 0], .int .i64 n] w fun e w' => e = .returned (.tuple #[.agg #[.slice a m c, .int .i64 r, .int .i64 s, .int .i64 o, .int .i64 s], .slice none 0 0]) ∧ Below w.heap.size w w' := by
  have n0 : ¬ n < 0 := by omega
  go_enter Try.func27, Try.ntmps27
  go_wp2_with fail
  refine (refFail_first _ _ _ _ _ _ _ _).mono ?_
  rintro e w1 ⟨rfl, hB⟩
  obtain ⟨hc, hf⟩ := old_cells hB
  have hz : w.heap.size + 1 < w1.heap.size := by have := hB.size; simp at this; omega
  go_wp2
  refine bodyPost_ret (v := .tuple #[.agg #[.slice a m c, .int .i64 r, .int .i64 s, .int .i64 o, .int .i64 s], .slice none 0 0]) (by simp [results, Try.results27, go_sem, hc]) rfl ⟨rfl, ?_⟩
  repeat refine Below.setCell ?_ (by simp) _
  exact below_more (below_two _ _ _) hB
theorem refBytes_late (w : World) (a : Option Addr) (m c : Nat) (r s o f : Int) {n : Int} (hn : 0 ≤ n) (hf0 : f ≠ 0) :
    Calls Try.prog 27 #[.agg #[.slice a m c, .int .i64 r, .int .i64 s, .int .i64 o, .int .i64 f], .int .i64 n] w fun e w' => e = .returned (.tuple #[.agg #[.slice a m c, .int .i64 r, .int .i64 s, .int .i64 o, .int .i64 f], .slice none 0 0]) ∧ Below w.heap.size w w' := by
  have e0 : (f != 0) = true := by simpa using hf0
  have n0 : ¬ n < 0 := by omega
  clear hf0
  go_enter Try.func27, Try.ntmps27
  go_wp2
  refine bodyPost_ret (v := .tuple #[.agg #[.slice a m c, .int .i64 r, .int .i64 s, .int .i64 o, .int .i64 f], .slice none 0 0]) (by simp [results, Try.results27, go_sem]) rfl ⟨rfl, ?_⟩
  exact below_two _ _ _

/-- what Bytes hands back where it reads -/
theorem refBytes_ok (w : World) (a : Option Addr) (c : Nat) (B : List Int) (hH : Holds w a c B) (s o : Int) (r n : Nat) (hn : r + n ≤ B.length) (hl : B.length ≤ 140737488355328) :
    Calls Try.prog 27 #[.agg #[.slice a B.length c, .int .i64 r, .int .i64 s, .int .i64 o, .int .i64 0], .int .i64 n] w fun e w' => ∃ a' c' out, Hid (out = (B.drop r).take n) ∧ Hid (out.length = n) ∧ e = .returned (.tuple #[.agg #[.slice a B.length c, .int .i64 (r + n), .int .i64 s, .int .i64 o, .int .i64 0], .slice a' out.length c']) ∧ Below w.heap.size w w' ∧
      Newly w w' a' c' out := by
  have n0 : ¬ (n : Int) < 0 := by omega
  have n1 : ¬ (B.length : Int) - (r : Int) < (n : Int) := by omega
  have n2 : (r : Int) + (n : Int) ≤ (B.length : Int) := by omega
  have hcap := hH.cap
  have hmax := hH.max
  have n3 : (r : Int) + (n : Int) ≤ (c : Int) := by omega
  obtain ⟨out, hout⟩ : ∃ out, out = (B.drop r).take n := ⟨_, rfl⟩
  have hol : out.length = n := by rw [hout, List.length_take, List.length_drop]; omega
  have HOL := hid hol
  have HOL2 := hid (show r + n - r = out.length by omega)
  have HO := hid hout
  have hol2 : out.length ≤ 140737488355328 := by omega
  have hoo : Octets out := by rw [hout]; exact (hH.oct.drop r).take n
  by_cases hcr : c = r
  · have hI0 : Ints .u8 w a out := by rw [hout, List.drop_of_length_le (by omega), List.take_nil]; exact Ints.nil _ _ _
    have HCR := hid hcr
    clear hol hout
    go_enter Try.func27, Try.ntmps27
    go_wp2_with ((at_builtin; refine wp_app_ints rfl (.tmp 27) (.tmp 36) rfl elemU8 rfl (own_at _ _ .u8 (by simp)) rfl HOL2.out (hI0.below (below_three _ _ _ _)) (List.nil_append _) ?_ ?_ ?_; omega; omega; intro a' c' w' h1 h2 hI2 hg; have hF := Grew.first_at (by simp) hg; clear hg; obtain ⟨hc, hf⟩ := old_cells hF.bel; have q0 := hc w.heap.size 0 (by simp; omega); have q1 := hc w.heap.size 1 (by simp; omega); have q2 := hc w.heap.size 2 (by simp; omega); have q3 := hc w.heap.size 3 (by simp; omega); have q4 := hc w.heap.size 4 (by simp; omega); simp at q0 q1 q2 q3 q4))
    have hne : a' = none ∨ ∃ q, a' = some ⟨q, 0, none⟩ ∧ w.heap.size + 2 ≤ q := fresh_far hF (by simp)
    have hI3 := hI2
    refine bodyPost_ret (v := .tuple #[.agg #[.slice a B.length r, .int .i64 (r + n), .int .i64 s, .int .i64 o, .int .i64 0], .slice a' out.length c']) (by simp [results, Try.results27, go_sem, hc]) rfl ⟨a', c', out, HO, HOL, rfl, ?_, ?_⟩
    · repeat refine Below.setCell ?_ (by simp) _
      exact below_more (below_two _ _ _) hF.bel
    · refine ⟨⟨h1, h2, ?_, hoo, fresh_shape hF⟩, hne.imp id (fun ⟨q, e, hq⟩ => ⟨q, e, by omega⟩)⟩
      repeat refine Ints.set ?_ (hne.imp id (fun ⟨q, e, hq⟩ => ⟨q, e, by simp; omega⟩)) _ _
      exact hI3
  · obtain ⟨b, off, rfl⟩ := hH.shape (by omega)
    have hI1 := hH.ints.drop (j := r) hcap
    have hI0 := hI1.take n
    rw [← hout, if_neg hcr] at hI0
    have hrc : r < c := by omega
    clear hol hout hI1
    go_enter Try.func27, Try.ntmps27
    go_wp2_with ((at_builtin; refine wp_app_ints rfl (.tmp 27) (.tmp 36) rfl elemU8 rfl (own_at _ _ .u8 (by simp)) rfl HOL2.out (hI0.below (below_three _ _ _ _)) (List.nil_append _) ?_ ?_ ?_; omega; omega; intro a' c' w' h1 h2 hI2 hg; have hF := Grew.first_at (by simp) hg; clear hg; obtain ⟨hc, hf⟩ := old_cells hF.bel; have q0 := hc w.heap.size 0 (by simp; omega); have q1 := hc w.heap.size 1 (by simp; omega); have q2 := hc w.heap.size 2 (by simp; omega); have q3 := hc w.heap.size 3 (by simp; omega); have q4 := hc w.heap.size 4 (by simp; omega); simp at q0 q1 q2 q3 q4))
    have hne : a' = none ∨ ∃ q, a' = some ⟨q, 0, none⟩ ∧ w.heap.size + 2 ≤ q := fresh_far hF (by simp)
    have hI3 := hI2
    refine bodyPost_ret (v := .tuple #[.agg #[.slice (some ⟨b, off, none⟩) B.length c, .int .i64 (r + n), .int .i64 s, .int .i64 o, .int .i64 0], .slice a' out.length c']) (by simp [results, Try.results27, go_sem, hc]) rfl ⟨a', c', out, HO, HOL, rfl, ?_, ?_⟩
    · repeat refine Below.setCell ?_ (by simp) _
      exact below_more (below_two _ _ _) hF.bel
    · refine ⟨⟨h1, h2, ?_, hoo, fresh_shape hF⟩, hne.imp id (fun ⟨q, e, hq⟩ => ⟨q, e, by omega⟩)⟩
      repeat refine Ints.set ?_ (hne.imp id (fun ⟨q, e, hq⟩ => ⟨q, e, by simp; omega⟩)) _ _
      exact hI3
end Go.Proofs.Ytgnmkdcoglbafaa
