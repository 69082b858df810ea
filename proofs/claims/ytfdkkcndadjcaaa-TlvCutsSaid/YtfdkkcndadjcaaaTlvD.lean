/- Package tlv: what One answers, as lists; One. -/
import Derived.Test.YtfdkkcndadjcaaaTlvC
import Derived.Test.YtfdkkcndadjcaaaRefCurA
namespace Go.Proofs.Ytfdkkcndadjcaaa
open Go.RowKit

/-- the first thing of bytes: its type, its body, how many bytes it has; or the error -/
def oneL (L S : Nat) (P : Bool) (B O : Int) (b : List Int) : Except Int (Int × List Int × Nat) :=
  if b.length < 4 then .error B
  else if lenOk L S P (numL ((b.drop 2).take 2)).toNat = false then .error B
  else if b.length < (numL ((b.drop 2).take 2)).toNat + zer S P (numL ((b.drop 2).take 2)).toNat then .error B
  else if zeros ((b.drop (numL ((b.drop 2).take 2)).toNat).take (zer S P (numL ((b.drop 2).take 2)).toNat)) = false then .error O
  else .ok (numL (b.take 2), (b.drop 4).take ((numL ((b.drop 2).take 2)).toNat - 4), (numL ((b.drop 2).take 2)).toNat + zer S P (numL ((b.drop 2).take 2)).toNat)

/-- what One answers -/
def OnePost (w : World) (r : Except Int (Int × List Int × Nat)) (e : Ending) (w' : World) : Prop :=
  match r with
  | .error q => e = .returned (.tuple #[.agg #[.int .i64 0, .slice none 0 0], .int .i64 0, .int .i64 q]) ∧ Below w.heap.size w w'
  | .ok (t, x, n) => ∃ a c, e = .returned (.tuple #[.agg #[.int .i64 t, .slice a x.length c], .int .i64 n, .int .i64 0]) ∧ x.length ≤ c ∧ c ≤ 9223372036854775807 ∧ Ints .u8 w' a x ∧ (a = none ∨ ∃ k, a = some ⟨k, 0, none⟩ ∧ w.heap.size ≤ k) ∧ Below w.heap.size w w'

theorem below_drew1 (w : World) : Below w.heap.size w w.drew := (Below.refl _ _).drew
/-- two cells of a block that may be written -/
structure Two (w : World) (b : Nat) (v0 v1 : Value) : Prop where
  c0 : w.cell? ⟨b, 0, none⟩ = some v0
  c1 : w.cell? ⟨b, 1, none⟩ = some v1
  f0 : w.frozen? ⟨b, 0, none⟩ = false
  f1 : w.frozen? ⟨b, 1, none⟩ = false
theorem frozen_keep {w w' : World} {p : Addr} {x : Value} (hc : w.cell? p = some x) (hb : Below w.heap.size w w') : w'.frozen? p = w.frozen? p := hb.frozen (World.block_lt_of_cell? w _ hc)
theorem Two.below {w w' : World} {b : Nat} {v0 v1 : Value} (h : Two w b v0 v1) (hb : Below w.heap.size w w') : Two w' b v0 v1 :=
  ⟨cell_keep h.c0 hb, cell_keep h.c1 hb, (frozen_keep h.c0 hb).trans h.f0, (frozen_keep h.c1 hb).trans h.f1⟩
theorem Two.of_block {w : World} {b : Nat} {v0 v1 : Value} {t : TypeId} (h : w.heap[b]? = some (.cells #[v0, v1] t (0, 0))) : Two w b v0 v1 := ⟨cell_of_cells h rfl, cell_of_cells h rfl, free_of_cells h 0, free_of_cells h 1⟩
theorem ShAt.of_block {w : World} {b : Nat} {L S : Int} {P : Bool} {B O : Int} {t : TypeId} (h : w.heap[b]? = some (.cells #[.int .i64 L, .int .i64 S, .bool P, .int .i64 B, .int .i64 O] t (0, 0))) : ShAt w b L S P B O :=
  ⟨cell_of_cells h rfl, cell_of_cells h rfl, cell_of_cells h rfl, cell_of_cells h rfl, cell_of_cells h rfl⟩

/-- a shape that has been boxed, and behind it a thing that is to be told -/
theorem boxed_thing (w : World) (L S : Int) (P : Bool) (B O : Int) (t u : TypeId) :
    ∃ W, (w.alloc (.cells #[.int .i64 L, .int .i64 S, .bool P, .int .i64 B, .int .i64 O] t)).alloc (.cells #[.int .i64 0, .slice none 0 0] u) = W ∧ Below w.heap.size w W ∧ W.heap.size = w.heap.size + 2 ∧ ShAt W w.heap.size L S P B O ∧ Two W (w.heap.size + 1) (.int .i64 0) (.slice none 0 0) := by
  have hs : (w.alloc (.cells #[.int .i64 L, .int .i64 S, .bool P, .int .i64 B, .int .i64 O] t)).heap.size = w.heap.size + 1 := by simp
  refine ⟨_, rfl, ((Below.refl _ _).alloc (Nat.le_refl _) _).alloc (by simp) _, by simp, (ShAt.of_block (t := t) ?_).below (below_alloc _ _), Two.of_block (t := u) ?_⟩
  · exact _root_.Go.heap_alloc_new w _
  · rw [← hs]; exact _root_.Go.heap_alloc_new _ _

theorem one_may_not (w : World) (L S : Int) (P : Bool) (B O : Int) (h : ¬ MayS L S B O) (v : Value) :
    Calls Try.prog 7 #[.agg #[.int .i64 L, .int .i64 S, .bool P, .int .i64 B, .int .i64 O], v] w (OnePost w (.error 10001)) := by
  obtain ⟨W, hW, hbW, hsz, hsh, htw⟩ := boxed_thing w L S P B O 24 28
  have HW := hid hW
  clear hW
  go_enter Try.func7, Try.ntmps7
  go_wp2_with fail
  rw [HW.out]
  refine (mayBe_no _ _ _ _ _ _ h).mono ?_
  rintro e w1 ⟨rfl, hb1⟩
  obtain ⟨c0, c1, f0, f1⟩ := htw.below hb1
  have hB := below_more hbW hb1
  go_wp2
  refine bodyPost_ret (v := .tuple #[.agg #[.int .i64 0, .slice none 0 0], .int .i64 0, .int .i64 10001]) (by simp [results, Try.results7, go_sem, *]) rfl ⟨rfl, ?_⟩
  repeat refine Below.setCell ?_ (by simp) _
  exact hB

theorem one_head (w : World) (L S : Nat) (P : Bool) (B O : Int) (h : MayS L S B O) (a : Option Addr) (n c : Nat) (q : Int) (hq : q ≠ 0)
    (hR : ∀ w1, Below w.heap.size w w1 → Calls Try.prog 19 #[.agg #[.int .i64 L, .int .i64 S, .bool P, .int .i64 B, .int .i64 O], .slice a n c] w1 fun e w' => ∃ x y, e = .returned (.tuple #[.int .i64 x, .int .i64 y, .int .i64 q]) ∧ Below w1.heap.size w1 w') :
    Calls Try.prog 7 #[.agg #[.int .i64 L, .int .i64 S, .bool P, .int .i64 B, .int .i64 O], .slice a n c] w (OnePost w (.error q)) := by
  obtain ⟨W, hW, hbW, hsz, hsh, htw⟩ := boxed_thing w L S P B O 24 28
  have HW := hid hW
  have hq0 : (q != 0) = true := by simpa using hq
  clear hW hq
  go_enter Try.func7, Try.ntmps7
  go_wp2_with fail
  rw [HW.out]
  refine (mayBe_yes _ _ _ _ _ _ h).mono ?_
  rintro e w1 ⟨rfl, hb1⟩
  have hsh1 := hsh.below hb1
  obtain ⟨d0, d1, d2, d3, d4⟩ := hsh1
  have htw1 := htw.below hb1
  have hB := below_more hbW hb1
  clear hsh htw
  go_wp2_with fail
  refine (hR _ hB).mono ?_
  rintro e w2 ⟨x, y, rfl, hb2⟩
  obtain ⟨c0, c1, f0, f1⟩ := htw1.below hb2
  have hB2 := below_more hB hb2
  go_wp2
  refine bodyPost_ret (v := .tuple #[.agg #[.int .i64 0, .slice none 0 0], .int .i64 0, .int .i64 q]) (by simp [results, Try.results7, go_sem, *]) rfl ⟨rfl, ?_⟩
  repeat refine Below.setCell ?_ (by simp) _
  exact hB2

/-- b[4:], whatever it is -/
theorem drop4 {k : IntKind} {w : World} {M off c : Nat} {b : List Int} (h : Ints k w (some ⟨M, off, none⟩) b) (hb : b.length ≤ c) : ∃ a', (if c = 4 then some (⟨M, off, none⟩ : Addr) else some ⟨M, off + 4, none⟩) = a' ∧ Ints k w a' (b.drop 4) := ⟨_, rfl, h.drop hb⟩

set_option maxRecDepth 100000 in
set_option maxHeartbeats 1000000 in
theorem one_body_bad (w : World) (L S : Nat) (P : Bool) (B O : Int) (h : MayS L S B O) (M off m c : Nat) (hm : 4 ≤ m) (hmc : m ≤ c) (hc : c ≤ 9223372036854775807) (t : Int) (n z : Nat) (hz : zer S P n = z) (hz64 : z ≤ 64) (hn4 : 4 ≤ n) (hn : n ≤ 1000000)
    (q : Int) (hq : q ≠ 0)
    (hH : ∀ w1, Below w.heap.size w w1 → Calls Try.prog 19 #[.agg #[.int .i64 L, .int .i64 S, .bool P, .int .i64 B, .int .i64 O], .slice (some ⟨M, off, none⟩) m c] w1 fun e w' => e = .returned (.tuple #[.int .i64 t, .int .i64 n, .int .i64 0]) ∧ Below w1.heap.size w1 w')
    (hR : ∀ w1, Below w.heap.size w w1 → Calls Try.prog 21 #[.agg #[.int .i64 L, .int .i64 S, .bool P, .int .i64 B, .int .i64 O], .slice (if c = 4 then some ⟨M, off, none⟩ else some ⟨M, off + 4, none⟩) (m - 4) (c - 4), .int .i64 ((n - 4 : Nat) : Int), .int .i64 z] w1 fun e w' => ∃ v, e = .returned (.tuple #[v, .int .i64 q]) ∧ Below w1.heap.size w1 w') :
    Calls Try.prog 7 #[.agg #[.int .i64 L, .int .i64 S, .bool P, .int .i64 B, .int .i64 O], .slice (some ⟨M, off, none⟩) m c] w (OnePost w (.error q)) := by
  obtain ⟨W, hW, hbW, hsz, hsh, htw⟩ := boxed_thing w L S P B O 24 28
  have HW := hid hW
  have hq0 : (q != 0) = true := by simpa using hq
  have hmi : (4 : Int) ≤ (m : Int) := by omega
  have hci : (4 : Int) ≤ (c : Int) := by omega
  have hmci : (m : Int) ≤ (c : Int) := by omega
  have hw1 : IntKind.i64.wrap ((n : Int) - 4) = ((n - 4 : Nat) : Int) := by rw [show (n : Int) - 4 = ((n - 4 : Nat) : Int) by omega]; exact wrap_nat (by omega)
  have hw2 : IntKind.i64.wrap ((n : Int) + (z : Int) - (n : Int)) = (z : Int) := by rw [show (n : Int) + (z : Int) - (n : Int) = (z : Int) by omega]; exact wrap_nat (by omega)
  have hm4 : ((m : Int) - 4).toNat = m - 4 := by omega
  have hc4 : ((c : Int) - 4).toNat = c - 4 := by omega
  have HZ := fun w => zeros_any w L S n P B O (by obtain ⟨_, _, h3, _⟩ := h; omega) (by obtain ⟨_, _, _, h4, _⟩ := h; omega)
  rw [hz] at HZ
  clear hW hz
  rcases Nat.eq_or_lt_of_le (show 4 ≤ c by omega) with hcc | hcc
  · obtain rfl : c = 4 := hcc.symm
    obtain rfl : m = 4 := by omega
    clear hcc
    rw [if_pos rfl] at hR
    go_enter Try.func7, Try.ntmps7
    go_wp2_with fail
    rw [HW.out]
    refine (mayBe_yes _ _ _ _ _ _ h).mono ?_
    rintro e w1 ⟨rfl, hb1⟩
    have hsh1 := hsh.below hb1
    obtain ⟨d0, d1, d2, d3, d4⟩ := hsh.below hb1
    have htw1 := htw.below hb1
    have hB := below_more hbW hb1
    have hs1 : w.heap.size + 2 ≤ w1.heap.size := by have := hb1.size; omega
    clear hsh htw
    go_wp2_with fail
    refine (hH _ hB).mono ?_
    rintro e w2 ⟨rfl, hb2⟩
    have hsh2 := hsh1.below hb2
    clear d0 d1 d2 d3 d4
    obtain ⟨d0, d1, d2, d3, d4⟩ := hsh1.below hb2
    have htw2 := htw1.below hb2
    have hB2 := below_more hB hb2
    have hs2 : w.heap.size + 2 ≤ w2.heap.size := by have := hb2.size; omega
    clear hsh1 htw1
    go_wp2_with fail
    refine (HZ _).mono ?_
    rintro e w3 ⟨rfl, hb3⟩
    have hsh3 := hsh2.below hb3
    clear d0 d1 d2 d3 d4
    obtain ⟨d0, d1, d2, d3, d4⟩ := hsh2.below hb3
    have htw3 := htw2.below hb3
    have hB3 := below_more hB2 hb3
    have hs3 : w.heap.size + 2 ≤ w3.heap.size := by have := hb3.size; omega
    have HRB := hid (hR _ (hB3.trans ((Below.refl _ _).drew)))
    have HH3 := hid (hsh3.below (below_drew1 w3))
    have HT3 := hid (htw3.below (below_drew1 w3))
    clear hsh2 htw2 hsh3 htw3
    go_upto_region 7 with fail
    go_region_held3 (fun w' => w'.cell? ⟨w.heap.size, 0, none⟩ = some (.int .i64 L) ∧ w'.cell? ⟨w.heap.size, 1, none⟩ = some (.int .i64 S) ∧ w'.cell? ⟨w.heap.size, 2, none⟩ = some (.bool P) ∧ w'.cell? ⟨w.heap.size, 3, none⟩ = some (.int .i64 B) ∧ w'.cell? ⟨w.heap.size, 4, none⟩ = some (.int .i64 O)) (go_keep) ((go_at_call 21; refine HRB.out.mono ?_; rintro e w4 ⟨v, rfl, hb4⟩; obtain ⟨e0, e1, e2, e3, e4⟩ := HH3.out.below hb4; obtain ⟨x0, x1, y0, y1⟩ := HT3.out.below hb4))
    have hB4 := below_more (hB3.trans ((Below.refl _ _).drew)) hb4
    go_wp2
    refine bodyPost_ret (v := .tuple #[.agg #[.int .i64 0, .slice none 0 0], .int .i64 0, .int .i64 q]) (by simp [results, Try.results7, go_sem, *]) rfl ⟨rfl, ?_⟩
    repeat refine Below.setCell ?_ (by simp) _
    exact hB4
  · have hc0 : ¬ c = 4 := by omega
    rw [if_neg hc0] at hR
    go_enter Try.func7, Try.ntmps7
    go_wp2_with fail
    rw [HW.out]
    refine (mayBe_yes _ _ _ _ _ _ h).mono ?_
    rintro e w1 ⟨rfl, hb1⟩
    have hsh1 := hsh.below hb1
    obtain ⟨d0, d1, d2, d3, d4⟩ := hsh.below hb1
    have htw1 := htw.below hb1
    have hB := below_more hbW hb1
    have hs1 : w.heap.size + 2 ≤ w1.heap.size := by have := hb1.size; omega
    clear hsh htw
    go_wp2_with fail
    refine (hH _ hB).mono ?_
    rintro e w2 ⟨rfl, hb2⟩
    have hsh2 := hsh1.below hb2
    clear d0 d1 d2 d3 d4
    obtain ⟨d0, d1, d2, d3, d4⟩ := hsh1.below hb2
    have htw2 := htw1.below hb2
    have hB2 := below_more hB hb2
    have hs2 : w.heap.size + 2 ≤ w2.heap.size := by have := hb2.size; omega
    clear hsh1 htw1
    go_wp2_with fail
    refine (HZ _).mono ?_
    rintro e w3 ⟨rfl, hb3⟩
    have hsh3 := hsh2.below hb3
    clear d0 d1 d2 d3 d4
    obtain ⟨d0, d1, d2, d3, d4⟩ := hsh2.below hb3
    have htw3 := htw2.below hb3
    have hB3 := below_more hB2 hb3
    have hs3 : w.heap.size + 2 ≤ w3.heap.size := by have := hb3.size; omega
    have HRB := hid (hR _ (hB3.trans ((Below.refl _ _).drew)))
    have HH3 := hid (hsh3.below (below_drew1 w3))
    have HT3 := hid (htw3.below (below_drew1 w3))
    clear hsh2 htw2 hsh3 htw3
    go_upto_region 7 with fail
    go_region_held3 (fun w' => w'.cell? ⟨w.heap.size, 0, none⟩ = some (.int .i64 L) ∧ w'.cell? ⟨w.heap.size, 1, none⟩ = some (.int .i64 S) ∧ w'.cell? ⟨w.heap.size, 2, none⟩ = some (.bool P) ∧ w'.cell? ⟨w.heap.size, 3, none⟩ = some (.int .i64 B) ∧ w'.cell? ⟨w.heap.size, 4, none⟩ = some (.int .i64 O)) (go_keep) ((go_at_call 21; refine HRB.out.mono ?_; rintro e w4 ⟨v, rfl, hb4⟩; obtain ⟨e0, e1, e2, e3, e4⟩ := HH3.out.below hb4; obtain ⟨x0, x1, y0, y1⟩ := HT3.out.below hb4))
    have hB4 := below_more (hB3.trans ((Below.refl _ _).drew)) hb4
    go_wp2
    refine bodyPost_ret (v := .tuple #[.agg #[.int .i64 0, .slice none 0 0], .int .i64 0, .int .i64 q]) (by simp [results, Try.results7, go_sem, *]) rfl ⟨rfl, ?_⟩
    repeat refine Below.setCell ?_ (by simp) _
    exact hB4

set_option maxRecDepth 100000 in
set_option maxHeartbeats 1000000 in
theorem one_body_ok (w : World) (L S : Nat) (P : Bool) (B O : Int) (h : MayS L S B O) (M off m c : Nat) (hm : 4 ≤ m) (hmc : m ≤ c) (hc : c ≤ 9223372036854775807) (t : Int) (n z : Nat) (hz : zer S P n = z) (hz64 : z ≤ 64) (hn4 : 4 ≤ n) (hn : n ≤ 1000000)
    (x : List Int) (hxl : x.length ≤ 1000000)
    (hH : ∀ w1, Below w.heap.size w w1 → Calls Try.prog 19 #[.agg #[.int .i64 L, .int .i64 S, .bool P, .int .i64 B, .int .i64 O], .slice (some ⟨M, off, none⟩) m c] w1 fun e w' => e = .returned (.tuple #[.int .i64 t, .int .i64 n, .int .i64 0]) ∧ Below w1.heap.size w1 w')
    (hR : ∀ w1, Below w.heap.size w w1 → Calls Try.prog 21 #[.agg #[.int .i64 L, .int .i64 S, .bool P, .int .i64 B, .int .i64 O], .slice (if c = 4 then some ⟨M, off, none⟩ else some ⟨M, off + 4, none⟩) (m - 4) (c - 4), .int .i64 ((n - 4 : Nat) : Int), .int .i64 z] w1 (BodyPost w1 x)) :
    Calls Try.prog 7 #[.agg #[.int .i64 L, .int .i64 S, .bool P, .int .i64 B, .int .i64 O], .slice (some ⟨M, off, none⟩) m c] w (OnePost w (.ok (t, x, n + z))) := by
  obtain ⟨W, hW, hbW, hsz, hsh, htw⟩ := boxed_thing w L S P B O 24 28
  have HW := hid hW
  have hmi : (4 : Int) ≤ (m : Int) := by omega
  have hci : (4 : Int) ≤ (c : Int) := by omega
  have hmci : (m : Int) ≤ (c : Int) := by omega
  have hw1 : IntKind.i64.wrap ((n : Int) - 4) = ((n - 4 : Nat) : Int) := by rw [show (n : Int) - 4 = ((n - 4 : Nat) : Int) by omega]; exact wrap_nat (by omega)
  have hw2 : IntKind.i64.wrap ((n : Int) + (z : Int) - (n : Int)) = (z : Int) := by rw [show (n : Int) + (z : Int) - (n : Int) = (z : Int) by omega]; exact wrap_nat (by omega)
  have hm4 : ((m : Int) - 4).toNat = m - 4 := by omega
  have hc4 : ((c : Int) - 4).toNat = c - 4 := by omega
  have HZ := fun w => zeros_any w L S n P B O (by obtain ⟨_, _, h3, _⟩ := h; omega) (by obtain ⟨_, _, _, h4, _⟩ := h; omega)
  rw [hz] at HZ
  clear hW hz
  rcases Nat.eq_or_lt_of_le (show 4 ≤ c by omega) with hcc | hcc
  · obtain rfl : c = 4 := hcc.symm
    obtain rfl : m = 4 := by omega
    clear hcc
    rw [if_pos rfl] at hR
    go_enter Try.func7, Try.ntmps7
    go_wp2_with fail
    rw [HW.out]
    refine (mayBe_yes _ _ _ _ _ _ h).mono ?_
    rintro e w1 ⟨rfl, hb1⟩
    have hsh1 := hsh.below hb1
    obtain ⟨d0, d1, d2, d3, d4⟩ := hsh.below hb1
    have htw1 := htw.below hb1
    have hB := below_more hbW hb1
    have hs1 : w.heap.size + 2 ≤ w1.heap.size := by have := hb1.size; omega
    clear hsh htw
    go_wp2_with fail
    refine (hH _ hB).mono ?_
    rintro e w2 ⟨rfl, hb2⟩
    have hsh2 := hsh1.below hb2
    clear d0 d1 d2 d3 d4
    obtain ⟨d0, d1, d2, d3, d4⟩ := hsh1.below hb2
    have htw2 := htw1.below hb2
    have hB2 := below_more hB hb2
    have hs2 : w.heap.size + 2 ≤ w2.heap.size := by have := hb2.size; omega
    clear hsh1 htw1
    go_wp2_with fail
    refine (HZ _).mono ?_
    rintro e w3 ⟨rfl, hb3⟩
    have hsh3 := hsh2.below hb3
    clear d0 d1 d2 d3 d4
    obtain ⟨d0, d1, d2, d3, d4⟩ := hsh2.below hb3
    have htw3 := htw2.below hb3
    have hB3 := below_more hB2 hb3
    have hs3 : w.heap.size + 2 ≤ w3.heap.size := by have := hb3.size; omega
    have HRB := hid (hR _ (hB3.trans ((Below.refl _ _).drew)))
    have HH3 := hid (hsh3.below (below_drew1 w3))
    have HT3 := hid (htw3.below (below_drew1 w3))
    clear hsh2 htw2 hsh3 htw3
    go_upto_region 7 with fail
    go_region_held3 (fun w' => w'.cell? ⟨w.heap.size, 0, none⟩ = some (.int .i64 L) ∧ w'.cell? ⟨w.heap.size, 1, none⟩ = some (.int .i64 S) ∧ w'.cell? ⟨w.heap.size, 2, none⟩ = some (.bool P) ∧ w'.cell? ⟨w.heap.size, 3, none⟩ = some (.int .i64 B) ∧ w'.cell? ⟨w.heap.size, 4, none⟩ = some (.int .i64 O)) (go_keep) ((go_at_call 21; refine HRB.out.mono ?_; rintro e w4 ⟨k, rfl, hk, hI4, hb4⟩; obtain ⟨e0, e1, e2, e3, e4⟩ := HH3.out.below hb4; obtain ⟨x0, x1, y0, y1⟩ := HT3.out.below hb4; have hk2 : w.heap.size + 2 ≤ k := by simp at hk; omega))
    have hB4 := below_more (hB3.trans ((Below.refl _ _).drew)) hb4
    go_wp2
    refine bodyPost_ret (v := .tuple #[.agg #[.int .i64 t, .slice (some ⟨k, 0, none⟩) x.length x.length], .int .i64 (n + z), .int .i64 0]) (by simp [results, Try.results7, go_sem, *]) rfl ⟨some ⟨k, 0, none⟩, x.length, by simp, Nat.le_refl _, by omega, ?_, .inr ⟨k, rfl, by omega⟩, ?_⟩
    · repeat refine Ints.set ?_ (.inr ⟨k, rfl, by simp; omega⟩) _ _
      exact hI4
    · repeat refine Below.setCell ?_ (by simp) _
      exact hB4
  · have hc0 : ¬ c = 4 := by omega
    rw [if_neg hc0] at hR
    go_enter Try.func7, Try.ntmps7
    go_wp2_with fail
    rw [HW.out]
    refine (mayBe_yes _ _ _ _ _ _ h).mono ?_
    rintro e w1 ⟨rfl, hb1⟩
    have hsh1 := hsh.below hb1
    obtain ⟨d0, d1, d2, d3, d4⟩ := hsh.below hb1
    have htw1 := htw.below hb1
    have hB := below_more hbW hb1
    have hs1 : w.heap.size + 2 ≤ w1.heap.size := by have := hb1.size; omega
    clear hsh htw
    go_wp2_with fail
    refine (hH _ hB).mono ?_
    rintro e w2 ⟨rfl, hb2⟩
    have hsh2 := hsh1.below hb2
    clear d0 d1 d2 d3 d4
    obtain ⟨d0, d1, d2, d3, d4⟩ := hsh1.below hb2
    have htw2 := htw1.below hb2
    have hB2 := below_more hB hb2
    have hs2 : w.heap.size + 2 ≤ w2.heap.size := by have := hb2.size; omega
    clear hsh1 htw1
    go_wp2_with fail
    refine (HZ _).mono ?_
    rintro e w3 ⟨rfl, hb3⟩
    have hsh3 := hsh2.below hb3
    clear d0 d1 d2 d3 d4
    obtain ⟨d0, d1, d2, d3, d4⟩ := hsh2.below hb3
    have htw3 := htw2.below hb3
    have hB3 := below_more hB2 hb3
    have hs3 : w.heap.size + 2 ≤ w3.heap.size := by have := hb3.size; omega
    have HRB := hid (hR _ (hB3.trans ((Below.refl _ _).drew)))
    have HH3 := hid (hsh3.below (below_drew1 w3))
    have HT3 := hid (htw3.below (below_drew1 w3))
    clear hsh2 htw2 hsh3 htw3
    go_upto_region 7 with fail
    go_region_held3 (fun w' => w'.cell? ⟨w.heap.size, 0, none⟩ = some (.int .i64 L) ∧ w'.cell? ⟨w.heap.size, 1, none⟩ = some (.int .i64 S) ∧ w'.cell? ⟨w.heap.size, 2, none⟩ = some (.bool P) ∧ w'.cell? ⟨w.heap.size, 3, none⟩ = some (.int .i64 B) ∧ w'.cell? ⟨w.heap.size, 4, none⟩ = some (.int .i64 O)) (go_keep) ((go_at_call 21; refine HRB.out.mono ?_; rintro e w4 ⟨k, rfl, hk, hI4, hb4⟩; obtain ⟨e0, e1, e2, e3, e4⟩ := HH3.out.below hb4; obtain ⟨x0, x1, y0, y1⟩ := HT3.out.below hb4; have hk2 : w.heap.size + 2 ≤ k := by simp at hk; omega))
    have hB4 := below_more (hB3.trans ((Below.refl _ _).drew)) hb4
    go_wp2
    refine bodyPost_ret (v := .tuple #[.agg #[.int .i64 t, .slice (some ⟨k, 0, none⟩) x.length x.length], .int .i64 (n + z), .int .i64 0]) (by simp [results, Try.results7, go_sem, *]) rfl ⟨some ⟨k, 0, none⟩, x.length, by simp, Nat.le_refl _, by omega, ?_, .inr ⟨k, rfl, by omega⟩, ?_⟩
    · repeat refine Ints.set ?_ (.inr ⟨k, rfl, by simp; omega⟩) _ _
      exact hI4
    · repeat refine Below.setCell ?_ (by simp) _
      exact hB4
end Go.Proofs.Ytfdkkcndadjcaaa
