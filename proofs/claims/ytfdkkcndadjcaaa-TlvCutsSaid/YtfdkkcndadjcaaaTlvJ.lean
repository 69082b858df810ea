/- Package tlv: a thing written. -/
import Derived.Test.YtfdkkcndadjcaaaTlvI
namespace Go.Proofs.Ytfdkkcndadjcaaa
open Go.RowKit

/-- a thing's bytes, or that it may not be -/
def writeL (L S : Nat) (P : Bool) (t : Int) (x : List Int) : Except Int (List Int) :=
  if lenOk L S P (4 + x.length) = true ∧ 0 ≤ t ∧ t < 65536 ∧ 4 + x.length < 65536 then .ok (bytesL t 2 ++ bytesL ((4 + x.length : Nat) : Int) 2 ++ x ++ List.replicate (zer S P (4 + x.length)) 0) else .error 10001

/-- what write answers -/
def WritePost (w : World) (r : Except Int (List Int)) (e : Ending) (w' : World) : Prop :=
  match r with
  | .error q => e = .returned (.tuple #[.slice none 0 0, .int .i64 q]) ∧ Below w.heap.size w w'
  | .ok bs => ∃ k, e = .returned (.tuple #[.slice (some ⟨k, 0, none⟩) bs.length bs.length, .int .i64 0]) ∧ w.heap.size ≤ k ∧ bs.length ≤ 9223372036854775807 ∧ Ints .u8 w' (some ⟨k, 0, none⟩) bs ∧ Below w.heap.size w w'

/-- beside a buffer: the shape's box, the thing's box, its body -/
structure WAt (w0 : World) (L S : Int) (P : Bool) (B O t : Int) (x : List Int) (a : Option Addr) (c : Nat) (g m : Nat) (p : Option Nat) (w : World) : Prop where
  sh : ShAt w w0.heap.size L S P B O
  tw : Two w (w0.heap.size + 1) (.int .i64 t) (.slice a x.length c)
  ints : Ints .u8 w a x
  bel : Below w0.heap.size w0 w
  base : ∀ k, Foot g m p k → w0.heap.size + 2 ≤ k

theorem Ints.turn {S : Nat → Prop} {k : IntKind} {w w' : World} {a : Option Addr} {l : List Int} (h : Turn S w w') (hI : Ints k w a l) (hn : ∀ q : Addr, a = some q → ¬ S q.block) : Ints k w' a l := by
  intro i hi
  obtain ⟨b, off, rfl, hc⟩ := hI i hi
  exact ⟨b, off, rfl, h.cell hc (hn ⟨b, off, none⟩ rfl)⟩
theorem Turn.free {S : Nat → Prop} {w w' : World} (h : Turn S w w') {p : Addr} {x : Value} (hc : w.cell? p = some x) (hn : ¬ S p.block) : w'.frozen? p = w.frozen? p :=
  World.frozen?_of_block (h.block p.block (World.block_lt_of_cell? w _ hc) hn)

section
variable {w0 w w' : World} {L S : Int} {P : Bool} {B O t : Int} {x : List Int} {a : Option Addr} {c g m : Nat} {p p' : Option Nat}
theorem WAt.below (h : WAt w0 L S P B O t x a c g m p w) (hb : Below w.heap.size w w') : WAt w0 L S P B O t x a c g m p w' :=
  ⟨h.sh.below hb, h.tw.below hb, h.ints.below hb, below_more h.bel hb, h.base⟩
theorem WAt.went {r : Nat} {l : List Int} {H : List (Int × Int)} {f : Int} (h : WAt w0 L S P B O t x a c g m p w) (ha : x ≠ [] → ∀ q : Addr, a = some q → q.block < w0.heap.size) (k : Went w w' g m p p' r l H f) : WAt w0 L S P B O t x a c g m p' w' := by
  have hlt : w0.heap.size + 1 < w.heap.size := World.block_lt_of_cell? w ⟨w0.heap.size + 1, 0, none⟩ h.tw.c0
  have n0 : ¬ Foot g m p w0.heap.size := fun e => by have := h.base _ e; omega
  have n1 : ¬ Foot g m p (w0.heap.size + 1) := fun e => by have := h.base _ e; omega
  refine ⟨⟨k.turn.cell h.sh.c0 n0, k.turn.cell h.sh.c1 n0, k.turn.cell h.sh.c2 n0, k.turn.cell h.sh.c3 n0, k.turn.cell h.sh.c4 n0⟩,
    ⟨k.turn.cell h.tw.c0 n1, k.turn.cell h.tw.c1 n1, (k.turn.free h.tw.c0 n1).trans h.tw.f0, (k.turn.free h.tw.c1 n1).trans h.tw.f1⟩,
    (by
      by_cases hx : x = []
      · subst hx; exact Ints.nil _ _ _
      · exact h.ints.turn k.turn (fun q hq e => by have := h.base _ e; have := ha hx q hq; omega)), k.turn.below h.bel h.bel.size (fun i e => by have := h.base i e; omega), k.base (by omega) h.base⟩
end

/-- two slices of two numbers each -/
theorem two_pairs (w : World) (n1 n2 x1 x2 : Int) : Below w.heap.size w ((w.alloc (.cells #[.int .i64 n1, .int .i64 n2] 3)).alloc (.cells #[.int .u64 x1, .int .u64 x2] 59)) ∧ Ints .i64 ((w.alloc (.cells #[.int .i64 n1, .int .i64 n2] 3)).alloc (.cells #[.int .u64 x1, .int .u64 x2] 59)) (some ⟨w.heap.size, 0, none⟩) [n1, n2] ∧
    Ints .u64 ((w.alloc (.cells #[.int .i64 n1, .int .i64 n2] 3)).alloc (.cells #[.int .u64 x1, .int .u64 x2] 59)) (some ⟨w.heap.size + 1, 0, none⟩) [x1, x2] := by
  have hs : (w.alloc (.cells #[.int .i64 n1, .int .i64 n2] 3)).heap.size = w.heap.size + 1 := by simp
  refine ⟨((Below.refl _ _).alloc (Nat.le_refl _) _).alloc (by omega) _, (ints_lit .i64 w [n1, n2] 3).below (below_alloc _ _), ?_⟩
  rw [← hs]
  exact ints_lit .u64 _ [x1, x2] 59

theorem put_head {t n : Int} (h1 : t < 65536) (h3 : n < 65536) : putW [2, 2] [t, n] = some (bytesL t 2 ++ bytesL n 2) := by
  have e1 : p256 2 = 65536 := rfl
  simp [putW, putL, rightW, countL, roomB, e1, h1, h3]
  rfl
theorem put_head_no {t n : Int} (h : ¬ (t < 65536 ∧ n < 65536)) : putW [2, 2] [t, n] = none := by
  have e1 : p256 2 = 65536 := rfl
  simp [putW, putL, rightW, countL, roomB, e1]
  intro _ _
  omega

/-- a shape that has been boxed, and behind it a thing -/
theorem boxed_item (w : World) (L S : Int) (P : Bool) (B O : Int) (v0 v1 : Value) (t u : TypeId) :
    ∃ W, (w.alloc (.cells #[.int .i64 L, .int .i64 S, .bool P, .int .i64 B, .int .i64 O] t)).alloc (.cells #[v0, v1] u) = W ∧ Below w.heap.size w W ∧ W.heap.size = w.heap.size + 2 ∧ ShAt W w.heap.size L S P B O ∧ Two W (w.heap.size + 1) v0 v1 := by
  have hs : (w.alloc (.cells #[.int .i64 L, .int .i64 S, .bool P, .int .i64 B, .int .i64 O] t)).heap.size = w.heap.size + 1 := by simp
  refine ⟨_, rfl, ((Below.refl _ _).alloc (Nat.le_refl _) _).alloc (by simp) _, by simp, (ShAt.of_block (t := t) ?_).below (below_alloc _ _), Two.of_block (t := u) ?_⟩
  · exact _root_.Go.heap_alloc_new w _
  · rw [← hs]; exact _root_.Go.heap_alloc_new _ _

theorem u64_wrap (t : Int) : ∃ u, IntKind.u64.wrap t = u ∧ 0 ≤ u ∧ u < p256 8 := by
  have e : p256 8 = 18446744073709551616 := rfl
  rw [e]
  refine ⟨_, rfl, ?_, ?_⟩ <;> simp only [IntKind.wrap_u64] <;> omega
theorem u64s_two {x y : Int} (h0 : 0 ≤ x) (h : x < p256 8) (k0 : 0 ≤ y) (k : y < p256 8) : U64s [x, y] := by
  intro z hz
  simp at hz
  rcases hz with rfl | rfl
  · exact ⟨h0, h⟩
  · exact ⟨k0, k⟩

set_option maxRecDepth 100000 in
set_option maxHeartbeats 2000000 in
theorem write_short (w : World) (L S : Nat) (P : Bool) (B O t : Int) (hS : 1 ≤ S) (hS64 : S ≤ 64) (x : List Int) (a : Option Addr) (c : Nat) (hx : x.length ≤ 1000000) (hI : Ints .u8 w a x) (ha : x ≠ [] → ∀ q : Addr, a = some q → q.block < w.heap.size) (hno : lenOk L S P (4 + x.length) = false) :
    Calls Try.prog 37 #[.agg #[.int .i64 L, .int .i64 S, .bool P, .int .i64 B, .int .i64 O], .agg #[.int .i64 t, .slice a x.length c]] w (WritePost w (.error 10001)) := by
  obtain ⟨W, hW, hbW, hsz, hsh, htw⟩ := boxed_item w L S P B O (.int .i64 t) (.slice a x.length c) 24 28
  have HW := hid hW
  have e4 : ((4 + x.length : Nat) : Int) = 4 + (x.length : Int) := by omega
  have HL : ∀ w, Calls Try.prog 30 #[.agg #[.int .i64 L, .int .i64 S, .bool P, .int .i64 B, .int .i64 O], .int .i64 (4 + (x.length : Int))] w fun e w' => e = .returned (.bool false) ∧ Below w.heap.size w w' := fun w => by
    have := isLength_any w L S (4 + x.length) P B O hS
    rwa [e4, hno] at this
  have HL := hid HL
  have HA := hid ha
  have HI := hid hI
  obtain ⟨u, hu, hu0, hu1⟩ := u64_wrap t
  have HU : U64s [u, 4 + (x.length : Int)] := u64s_two hu0 hu1 (by omega) (by have e : p256 8 = 18446744073709551616 := rfl; rw [e]; omega)
  have HU := hid HU
  clear hW hno ha hI hu0 hu1 e4
  go_enter Try.func37, Try.ntmps37
  go_wp2_with fail
  rw [HW.out]
  refine (bufNew_any 65599 _).mono ?_
  rintro e w1 ⟨g, m, rfl, hbuf, hb1, hg, hm⟩
  have hA : WAt w L S P B O t x a c g m none w1 := ⟨hsh.below hb1, htw.below hb1, HI.out.below (below_more hbW hb1), below_more hbW hb1, by rintro k (rfl | rfl | h); omega; omega; cases h⟩
  have hbuf : Buf w1 g m none 65599 [] [] 0 := hbuf
  clear hsh htw hg hm hb1
  obtain ⟨d0, d1, d2, d3, d4⟩ := hA.sh
  obtain ⟨x0, x1, y0, y1⟩ := hA.tw
  go_wp2_with fail
  refine (HL.out _).mono ?_
  rintro e w2 ⟨rfl, hb2⟩
  have hA2 := hA.below hb2
  have hbuf2 := hbuf.below hb2
  clear hA hbuf d0 d1 d2 d3 d4 x0 x1 y0 y1
  go_wp2_with fail
  refine (hbuf2.fail 10001).mono ?_
  rintro e w3 ⟨rfl, hbuf3, hg3⟩
  have hA3 := hA2.went HA.out (Went.by_g hbuf3 hg3)
  clear hA2 hbuf2 hg3
  obtain ⟨x0, x1, y0, y1⟩ := hA3.tw
  have hlt := World.block_lt_of_cell? w3 ⟨w.heap.size + 1, 0, none⟩ x0
  have hlt : w.heap.size + 1 < w3.heap.size := hlt
  have hne : ¬ w.heap.size + 1 = w3.heap.size := by omega
  have T := two_pairs w3 2 2 u (4 + (x.length : Int))
  have HR := hid ((hbuf3.below T.1).row_late (by decide) [2, 2] [u, 4 + (x.length : Int)] (some ⟨w3.heap.size, 0, none⟩) (some ⟨w3.heap.size + 1, 0, none⟩) 2 2 2 2 rfl rfl (by simp) (Nat.le_refl _) HU.out T.2.1 T.2.2)
  have HT := hid T.1
  clear T
  go_wp2_with fail
  refine HR.out.mono ?_
  rintro e w4 ⟨rfl, hb4⟩
  have hb34 := below_more HT.out hb4
  have hA4 := hA3.below hb34
  have hbuf4 := hbuf3.below hb34
  clear hA3 hbuf3 x0 x1 y0 y1 hb4 hlt hne
  obtain ⟨x0, x1, y0, y1⟩ := hA4.tw
  obtain ⟨d0, d1, d2, d3, d4⟩ := hA4.sh
  go_wp2_with fail
  refine (hbuf4.bytes_late (by decide) _).mono ?_
  rintro e w5 ⟨rfl, rfl⟩
  cases P
  · go_wp2_with fail
    refine (hbuf4.done_late (by decide)).mono ?_
    rintro e w6 ⟨rfl, hb6⟩
    go_wp2
    go_ret2
    exact ⟨rfl, below_more hA4.bel hb6⟩
  · go_wp2_with fail
    refine (hbuf4.even_late (by decide) hS hS64).mono ?_
    rintro e w5 ⟨rfl, hb5⟩
    go_wp2_with fail
    refine ((hbuf4.below hb5).done_late (by decide)).mono ?_
    rintro e w6 ⟨rfl, hb6⟩
    go_wp2
    go_ret2
    exact ⟨rfl, below_more (below_more hA4.bel hb5) hb6⟩

theorem u64_small {t u : Int} (hu : IntKind.u64.wrap t = u) (h1 : -9223372036854775808 ≤ t) (h2 : t ≤ 9223372036854775807) : (u < 65536 ↔ 0 ≤ t ∧ t < 65536) ∧ (0 ≤ t → u = t) := by
  rw [IntKind.wrap_u64] at hu
  omega

set_option maxRecDepth 100000 in
set_option maxHeartbeats 2000000 in
theorem write_big (w : World) (L S : Nat) (P : Bool) (B O t : Int) (hS : 1 ≤ S) (hS64 : S ≤ 64) (x : List Int) (a : Option Addr) (c : Nat) (hx : x.length ≤ 1000000) (hI : Ints .u8 w a x) (ha : x ≠ [] → ∀ q : Addr, a = some q → q.block < w.heap.size) (hok : lenOk L S P (4 + x.length) = true)
    (t1 : -9223372036854775808 ≤ t) (t2 : t ≤ 9223372036854775807) (hno : ¬ (0 ≤ t ∧ t < 65536 ∧ 4 + x.length < 65536)) :
    Calls Try.prog 37 #[.agg #[.int .i64 L, .int .i64 S, .bool P, .int .i64 B, .int .i64 O], .agg #[.int .i64 t, .slice a x.length c]] w (WritePost w (.error 10001)) := by
  obtain ⟨W, hW, hbW, hsz, hsh, htw⟩ := boxed_item w L S P B O (.int .i64 t) (.slice a x.length c) 24 28
  have HW := hid hW
  have e4 : ((4 + x.length : Nat) : Int) = 4 + (x.length : Int) := by omega
  have HL : ∀ w, Calls Try.prog 30 #[.agg #[.int .i64 L, .int .i64 S, .bool P, .int .i64 B, .int .i64 O], .int .i64 (4 + (x.length : Int))] w fun e w' => e = .returned (.bool true) ∧ Below w.heap.size w w' := fun w => by
    have := isLength_any w L S (4 + x.length) P B O hS
    rwa [e4, hok] at this
  have HL := hid HL
  have HA := hid ha
  have HI := hid hI
  obtain ⟨u, hu, hu0, hu1⟩ := u64_wrap t
  have HU : U64s [u, 4 + (x.length : Int)] := u64s_two hu0 hu1 (by omega) (by have e : p256 8 = 18446744073709551616 := rfl; rw [e]; omega)
  have HU := hid HU
  have hus := u64_small hu t1 t2
  have HN := hid (put_head_no (t := u) (n := 4 + (x.length : Int)) (by rw [hus.1]; omega))
  clear hW hok ha hI hu0 hu1 e4 hno hus t1 t2
  go_enter Try.func37, Try.ntmps37
  go_wp2_with fail
  rw [HW.out]
  refine (bufNew_any 65599 _).mono ?_
  rintro e w1 ⟨g, m, rfl, hbuf, hb1, hg, hm⟩
  have hA : WAt w L S P B O t x a c g m none w1 := ⟨hsh.below hb1, htw.below hb1, HI.out.below (below_more hbW hb1), below_more hbW hb1, by rintro k (rfl | rfl | h); omega; omega; cases h⟩
  have hbuf : Buf w1 g m none 65599 [] [] 0 := hbuf
  clear hsh htw hg hm hb1
  obtain ⟨d0, d1, d2, d3, d4⟩ := hA.sh
  obtain ⟨x0, x1, y0, y1⟩ := hA.tw
  go_wp2_with fail
  refine (HL.out _).mono ?_
  rintro e w3 ⟨rfl, hb2⟩
  have hA3 := hA.below hb2
  have hbuf3 := hbuf.below hb2
  clear hA hbuf d0 d1 d2 d3 d4 x0 x1 y0 y1
  obtain ⟨x0, x1, y0, y1⟩ := hA3.tw
  have hlt := World.block_lt_of_cell? w3 ⟨w.heap.size + 1, 0, none⟩ x0
  have hlt : w.heap.size + 1 < w3.heap.size := hlt
  have hne : ¬ w.heap.size + 1 = w3.heap.size := by omega
  have T := two_pairs w3 2 2 u (4 + (x.length : Int))
  have HR := hid ((hbuf3.below T.1).row_bad [2, 2] [u, 4 + (x.length : Int)] HN.out (some ⟨w3.heap.size, 0, none⟩) (some ⟨w3.heap.size + 1, 0, none⟩) 2 2 2 2 rfl rfl (by simp) (Nat.le_refl _) HU.out T.2.1 T.2.2)
  have HT := hid T.1
  clear T
  go_wp2_with fail
  refine HR.out.mono ?_
  rintro e w4 ⟨rfl, hw4⟩
  have hw34 := hw4.ahead HT.out
  have hA4 := hA3.went HA.out hw34
  have hbuf4 := hw34.buf
  clear hA3 hbuf3 x0 x1 y0 y1 hw4 hw34 hlt hne
  obtain ⟨x0, x1, y0, y1⟩ := hA4.tw
  obtain ⟨d0, d1, d2, d3, d4⟩ := hA4.sh
  go_wp2_with fail
  refine (hbuf4.bytes_late (by decide) _).mono ?_
  rintro e w5 ⟨rfl, rfl⟩
  cases P
  · go_wp2_with fail
    refine (hbuf4.done_late (by decide)).mono ?_
    rintro e w6 ⟨rfl, hb6⟩
    go_wp2
    go_ret2
    exact ⟨rfl, below_more hA4.bel hb6⟩
  · go_wp2_with fail
    refine (hbuf4.even_late (by decide) hS hS64).mono ?_
    rintro e w5 ⟨rfl, hb5⟩
    go_wp2_with fail
    refine ((hbuf4.below hb5).done_late (by decide)).mono ?_
    rintro e w6 ⟨rfl, hb6⟩
    go_wp2
    go_ret2
    exact ⟨rfl, below_more (below_more hA4.bel hb5) hb6⟩

theorem ints_fresh {w0 w : World} {n c : Nat} {k : Nat} {l : List Int} (h : Fresh 5 w0 w (.slice (some ⟨k, 0, none⟩) n c) (l.map (Value.int .u8))) : Ints .u8 w (some ⟨k, 0, none⟩) l := by
  obtain ⟨a, c', e, _, _, hI⟩ := own_ints h.own
  simp at e
  rw [e.1]
  exact hI

set_option maxRecDepth 100000 in
set_option maxHeartbeats 2000000 in
theorem write_ok (w : World) (L S : Nat) (P : Bool) (B O t : Int) (hS : 1 ≤ S) (hS64 : S ≤ 64) (x : List Int) (a : Option Addr) (c : Nat) (hI : Ints .u8 w a x) (ha : x ≠ [] → ∀ q : Addr, a = some q → q.block < w.heap.size) (hok : lenOk L S P (4 + x.length) = true)
    (t1 : 0 ≤ t) (t2 : t < 65536) (hx : 4 + x.length < 65536) :
    Calls Try.prog 37 #[.agg #[.int .i64 L, .int .i64 S, .bool P, .int .i64 B, .int .i64 O], .agg #[.int .i64 t, .slice a x.length c]] w
      (WritePost w (.ok (bytesL t 2 ++ bytesL ((4 + x.length : Nat) : Int) 2 ++ x ++ List.replicate (zer S P (4 + x.length)) 0))) := by
  obtain ⟨W, hW, hbW, hsz, hsh, htw⟩ := boxed_item w L S P B O (.int .i64 t) (.slice a x.length c) 24 28
  have HW := hid hW
  have e4 : ((4 + x.length : Nat) : Int) = 4 + (x.length : Int) := by omega
  have HL : ∀ w, Calls Try.prog 30 #[.agg #[.int .i64 L, .int .i64 S, .bool P, .int .i64 B, .int .i64 O], .int .i64 (4 + (x.length : Int))] w fun e w' => e = .returned (.bool true) ∧ Below w.heap.size w w' := fun w => by
    have := isLength_any w L S (4 + x.length) P B O hS
    rwa [e4, hok] at this
  have HL := hid HL
  have HA := hid ha
  have HI := hid hI
  obtain ⟨u, hu, hu0, hu1⟩ := u64_wrap t
  have HU : U64s [u, 4 + (x.length : Int)] := u64s_two hu0 hu1 (by omega) (by have e : p256 8 = 18446744073709551616 := rfl; rw [e]; omega)
  have HU := hid HU
  have hut := (u64_small hu (by omega) (by omega)).2 t1
  obtain ⟨hd, hhd⟩ : ∃ hd, hd = bytesL t 2 ++ bytesL ((4 + x.length : Nat) : Int) 2 := ⟨_, rfl⟩
  have hdl : hd.length = 4 := by rw [hhd, List.length_append, bytesL_length, bytesL_length]
  have hput : putW [2, 2] [u, 4 + (x.length : Int)] = some hd := by rw [hut, hhd, e4]; exact put_head t2 (by omega)
  have HN := hid hput
  rw [← hhd]
  obtain ⟨z, hz⟩ : ∃ z, z = zer S P (4 + x.length) := ⟨_, rfl⟩
  rw [← hz]
  have hz64 := zer_lt hS P (4 + x.length)
  rw [← hz] at hz64
  have HD := hid hdl
  have HZ := hid hz
  have hxl : x.length ≤ 1000000 := by omega
  clear hW hok ha hI hu0 hu1 e4 hut hhd hdl hput hz t1 t2
  go_enter Try.func37, Try.ntmps37
  go_wp2_with fail
  rw [HW.out]
  refine (bufNew_any 65599 _).mono ?_
  rintro e w1 ⟨g, m, rfl, hbuf, hb1, hg, hm⟩
  have hA : WAt w L S P B O t x a c g m none w1 := ⟨hsh.below hb1, htw.below hb1, HI.out.below (below_more hbW hb1), below_more hbW hb1, by rintro k (rfl | rfl | h); omega; omega; cases h⟩
  have hbuf : Buf w1 g m none 65599 [] [] 0 := hbuf
  clear hsh htw hg hm hb1
  obtain ⟨d0, d1, d2, d3, d4⟩ := hA.sh
  obtain ⟨x0, x1, y0, y1⟩ := hA.tw
  go_wp2_with fail
  refine (HL.out _).mono ?_
  rintro e w3 ⟨rfl, hb2⟩
  have hA3 := hA.below hb2
  have hbuf3 := hbuf.below hb2
  clear hA hbuf d0 d1 d2 d3 d4 x0 x1 y0 y1
  obtain ⟨x0, x1, y0, y1⟩ := hA3.tw
  have hlt := World.block_lt_of_cell? w3 ⟨w.heap.size + 1, 0, none⟩ x0
  have hlt : w.heap.size + 1 < w3.heap.size := hlt
  have hne : ¬ w.heap.size + 1 = w3.heap.size := by omega
  have T := two_pairs w3 2 2 u (4 + (x.length : Int))
  have HR := hid ((hbuf3.below T.1).row_ok [2, 2] [u, 4 + (x.length : Int)] hd HN.out (some ⟨w3.heap.size, 0, none⟩) (some ⟨w3.heap.size + 1, 0, none⟩) 2 2 2 2 rfl rfl (by simp) (Nat.le_refl _) HU.out T.2.1 T.2.2 (by rw [HD.out]; simp))
  have HT := hid T.1
  clear T
  go_wp2_with fail
  refine HR.out.mono ?_
  rintro e w4 ⟨rfl, p4, hw4⟩
  have hw34 := hw4.ahead HT.out
  have hA4 := hA3.went HA.out hw34
  have hbuf4 := hw34.buf
  clear hA3 hbuf3 x0 x1 y0 y1 hw4 hw34 hlt hne
  obtain ⟨x0, x1, y0, y1⟩ := hA4.tw
  go_wp2_with fail
  refine (hbuf4.bytes_ok x a c (by simp [HD.out]; omega) hA4.ints).mono ?_
  rintro e w5 ⟨rfl, p5, hw5⟩
  have hA5 := hA4.went HA.out hw5
  have hbuf5 := hw5.buf
  obtain ⟨yy, hyy⟩ : ∃ yy, yy = ([] : List Int) ++ hd ++ x := ⟨_, rfl⟩
  rw [← hyy] at hbuf5
  have hlen : yy.length = 4 + x.length := by rw [hyy]; simp [HD.out]
  have HLN := hid hlen
  have HYY := hid hyy
  clear hA4 hbuf4 x0 x1 y0 y1 hw5 hlen hyy
  obtain ⟨d0, d1, d2, d3, d4⟩ := hA5.sh
  have fin : ∀ (y : List Int) (w6 w7 : World), y = hd ++ x ++ List.replicate z 0 → Below w.heap.size w w6 → Fresh 5 w6 w7 (.slice (some ⟨w6.heap.size, 0, none⟩) y.length y.length) (y.map (Value.int .u8)) →
      WritePost w (.ok (hd ++ x ++ List.replicate z 0)) (.returned (.tuple #[.slice (some ⟨w6.heap.size, 0, none⟩) y.length y.length, .int .i64 0])) w7 := by
    rintro y w6 w7 rfl hb hF
    refine ⟨_, rfl, hb.size, ?_, ints_fresh hF, below_more hb hF.bel⟩
    have := HD.out
    simp
    omega
  have FIN := hid fin
  clear fin
  cases P
  · have hz0 : z = 0 := by rw [HZ.out]; simp [zer]
    go_wp2_with fail
    refine (hbuf5.done_ok).mono ?_
    rintro e w6 ⟨rfl, hF⟩
    go_wp2
    go_ret2
    exact FIN.out _ _ _ (by rw [hz0, HYY.out]; simp) hA5.bel hF
  · rcases Nat.eq_zero_or_pos ((4 + x.length) % S) with h0 | h0
    · have hz0 : z = 0 := by rw [HZ.out]; simp [zer, h0]
      have HH0 := hid h0
      clear h0
      go_wp2_with fail
      refine (hbuf5.even_same hS hS64 (by rw [HLN.out]; exact HH0.out)).mono ?_
      rintro e w5 ⟨rfl, rfl⟩
      go_wp2_with fail
      refine (hbuf5.done_ok).mono ?_
      rintro e w6 ⟨rfl, hF⟩
      go_wp2
      go_ret2
      exact FIN.out _ _ _ (by rw [hz0, HYY.out]; simp) hA5.bel hF
    · have hzz : (4 + x.length) % S + z = S := by
        have := Nat.mod_lt (4 + x.length) (show 0 < S by omega)
        rw [HZ.out]; simp [zer]; rw [if_neg (by omega)]; omega
      have hlt := Nat.mod_lt (4 + x.length) (show 0 < S by omega)
      have HE := hid (hbuf5.even_ok hS hS64 (q := z) (by omega) (by rw [HLN.out]; exact hzz) (by rw [HLN.out]; exact h0) (by rw [HLN.out]; omega))
      clear h0 hzz hlt
      go_wp2_with fail
      refine HE.out.mono ?_
      rintro e w6 ⟨rfl, p6, hw6⟩
      have hA6 := hA5.went HA.out hw6
      have hbuf6 := hw6.buf
      obtain ⟨y6, hy6⟩ : ∃ y6, y6 = yy ++ List.replicate z 0 := ⟨_, rfl⟩
      rw [← hy6] at hbuf6
      have HY6 := hid hy6
      clear hy6 hw6
      go_wp2_with fail
      refine (hbuf6.done_ok).mono ?_
      rintro e w7 ⟨rfl, hF⟩
      go_wp2
      go_ret2
      exact FIN.out _ _ _ (by rw [HY6.out, HYY.out]; simp) hA6.bel hF

theorem write_any (w : World) (L S : Nat) (P : Bool) (B O t : Int) (hS : 1 ≤ S) (hS64 : S ≤ 64) (x : List Int) (a : Option Addr) (c : Nat) (hx : x.length ≤ 1000000) (hI : Ints .u8 w a x) (ha : x ≠ [] → ∀ q : Addr, a = some q → q.block < w.heap.size)
    (t1 : -9223372036854775808 ≤ t) (t2 : t ≤ 9223372036854775807) :
    Calls Try.prog 37 #[.agg #[.int .i64 L, .int .i64 S, .bool P, .int .i64 B, .int .i64 O], .agg #[.int .i64 t, .slice a x.length c]] w (WritePost w (writeL L S P t x)) := by
  unfold writeL
  split
  · rename_i h
    exact write_ok w L S P B O t hS hS64 x a c hI ha h.1 h.2.1 h.2.2.1 h.2.2.2
  · rename_i h
    cases hl : lenOk L S P (4 + x.length) with
    | false => exact write_short w L S P B O t hS hS64 x a c hx hI ha hl
    | true => exact write_big w L S P B O t hS hS64 x a c hx hI ha hl t1 t2 (fun k => h ⟨hl, k⟩)
end Go.Proofs.Ytfdkkcndadjcaaa
