/- Contracts of the document's cursor: Rest, Row, Num, Sub. -/
import Derived.Test.YtgnmkdcoglbafaaRefCurA
import Derived.Deep.RegionHeld3
namespace Go.Proofs.Ytgnmkdcoglbafaa
open Go.RowKit

/-- five cells of a block -/
def Five (w : World) (b : Nat) (v0 v1 v2 v3 v4 : Value) : Prop := w.cell? ⟨b, 0, none⟩ = some v0 ∧ w.cell? ⟨b, 1, none⟩ = some v1 ∧ w.cell? ⟨b, 2, none⟩ = some v2 ∧ w.cell? ⟨b, 3, none⟩ = some v3 ∧ w.cell? ⟨b, 4, none⟩ = some v4
theorem Five.below {W w1 : World} {b : Nat} {v0 v1 v2 v3 v4 : Value} (h : Five W b v0 v1 v2 v3 v4) (hb : Below W.heap.size W w1) : Five w1 b v0 v1 v2 v3 v4 :=
  ⟨cell_keep h.1 hb, cell_keep h.2.1 hb, cell_keep h.2.2.1 hb, cell_keep h.2.2.2.1 hb, cell_keep h.2.2.2.2 hb⟩

/-- no cell of a block is frozen -/
theorem free_below {W w1 : World} {b : Nat} (h : ∀ o, W.frozen? ⟨b, o, none⟩ = false) (hlt : b < W.heap.size) (hb : Below W.heap.size W w1) : ∀ o, w1.frozen? ⟨b, o, none⟩ = false := fun o => (hb.frozen (p := ⟨b, o, none⟩) hlt).trans (h o)

theorem refLeft_nat (w : World) (a : Option Addr) (m c r n : Nat) (s o f : Int) (h1 : r + n = m) (hm : m ≤ 9223372036854775807) :
    Calls Try.prog 15 #[.agg #[.slice a m c, .int .i64 r, .int .i64 s, .int .i64 o, .int .i64 f]] w fun e w' => e = .returned (.int .i64 n) ∧ Below w.heap.size w w' := by
  refine (refLeft_any w a m c r s o f (by omega) (by omega) hm).mono ?_
  rintro e w' ⟨rfl, hB⟩
  exact ⟨ret_int (by omega), hB⟩

theorem refRest_ok (w : World) (a : Option Addr) (c : Nat) (B : List Int) (hH : Holds w a c B) (s o : Int) (r n : Nat) (hn : r + n = B.length) (hl : B.length ≤ 140737488355328) :
    Calls Try.prog 28 #[.agg #[.slice a B.length c, .int .i64 r, .int .i64 s, .int .i64 o, .int .i64 0]] w fun e w' => ∃ a' c' out, Hid (out = (B.drop r).take n) ∧ Hid (out.length = n) ∧ e = .returned (.tuple #[.agg #[.slice a B.length c, .int .i64 (r + n), .int .i64 s, .int .i64 o, .int .i64 0], .slice a' out.length c']) ∧ Below w.heap.size w w' ∧
      Newly w w' a' c' out := by
  have HN := hid hn
  have hn2 : r + n ≤ B.length := by omega
  clear hn
  go_enter Try.func28, Try.ntmps28
  go_wp2
  go_region_held3 (fun w' => w'.cell? ⟨w.heap.size, 0, none⟩ = some (.slice a B.length c) ∧ w'.cell? ⟨w.heap.size, 1, none⟩ = some (.int .i64 r) ∧ w'.cell? ⟨w.heap.size, 2, none⟩ = some (.int .i64 s) ∧ w'.cell? ⟨w.heap.size, 3, none⟩ = some (.int .i64 o) ∧ w'.cell? ⟨w.heap.size, 4, none⟩ = some (.int .i64 0)) (go_keep) ((first | (go_at_call 15; refine (refLeft_nat _ a B.length c r n s o 0 HN.out (by omega)).mono ?_; rintro e w1 ⟨rfl, hB1⟩; obtain ⟨q0, q1, q2, q3, q4⟩ := Five.below (b := w.heap.size) (v0 := .slice a B.length c) (v1 := .int .i64 r) (v2 := .int .i64 s) (v3 := .int .i64 o) (v4 := .int .i64 0) (by simp [Five]) hB1; obtain ⟨z0, z1, z2, z3, z4⟩ := Five.below (b := w.heap.size + 1) (v0 := .slice none 0 0) (v1 := .int .i64 0) (v2 := .int .i64 0) (v3 := .int .i64 0) (v4 := .int .i64 0) (by simp [Five]) hB1; have hz1 := free_below (b := w.heap.size + 1) (by simp) (by simp) hB1; have hzz1 : w.heap.size + 1 < w1.heap.size := by have := hB1.size; simp at this; omega) | (go_at_call 27; refine (refBytes_ok w1 a c B (hH.below (below_more (below_two _ _ _).drew hB1)) s o r n hn2 hl).mono ?_; rintro e w2 ⟨a', c', out, ho, hol, rfl, hB2, hO⟩; obtain ⟨p0, p1, p2, p3, p4⟩ := Five.below (b := w.heap.size) (v0 := .slice a B.length c) (v1 := .int .i64 r) (v2 := .int .i64 s) (v3 := .int .i64 o) (v4 := .int .i64 0) ⟨q0, q1, q2, q3, q4⟩ hB2; obtain ⟨y0, y1, y2, y3, y4⟩ := Five.below (b := w.heap.size + 1) (v0 := .slice none 0 0) (v1 := .int .i64 0) (v2 := .int .i64 0) (v3 := .int .i64 0) (v4 := .int .i64 0) ⟨z0, z1, z2, z3, z4⟩ hB2; have hz2 := free_below (b := w.heap.size + 1) hz1 hzz1 hB2)))
  have hB3 := below_more (below_more (below_two w _ _).drew hB1) hB2
  have hs1 := hB1.size
  simp at hs1
  clear hB1 hB2
  go_wp2
  refine bodyPost_ret (v := .tuple #[.agg #[.slice a B.length c, .int .i64 (r + n), .int .i64 s, .int .i64 o, .int .i64 0], .slice a' out.length c']) (by simp [results, Try.results28, go_sem, y0, y1, y2, y3, y4]) rfl ⟨a', c', out, ho, hol, rfl, ?_, ?_⟩
  · repeat refine Below.setCell ?_ (by simp) _
    exact hB3
  · have hne := hO.far
    refine ⟨⟨hO.holds.cap, hO.holds.max, ?_, hO.holds.oct, hO.holds.shape⟩, hne.imp id (fun ⟨q, e, hq⟩ => ⟨q, e, by omega⟩)⟩
    repeat refine Ints.set ?_ (hne.imp id (fun ⟨q, e, hq⟩ => ⟨q, e, by omega⟩)) _ _
    exact hO.holds.ints
end Go.Proofs.Ytgnmkdcoglbafaa
