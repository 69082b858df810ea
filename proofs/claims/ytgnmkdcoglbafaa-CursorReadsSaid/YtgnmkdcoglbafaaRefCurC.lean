/- Contracts of the document's cursor: Rest with a fault; Row. -/
import Derived.Test.YtgnmkdcoglbafaaRefCurB
import Derived.Deep.RegionWith
import Derived.IntWalk
namespace Go.Proofs.Ytgnmkdcoglbafaa
open Go.RowKit

theorem refRest_late (w : World) (a : Option Addr) (m c r n : Nat) (s o f : Int) (hn : r + n = m) (hm : m ≤ 9223372036854775807) (hf0 : f ≠ 0) :
    Calls Try.prog 28 #[.agg #[.slice a m c, .int .i64 r, .int .i64 s, .int .i64 o, .int .i64 f]] w fun e w' => e = .returned (.tuple #[.agg #[.slice a m c, .int .i64 r, .int .i64 s, .int .i64 o, .int .i64 f], .slice none 0 0]) ∧ Below w.heap.size w w' := by
  have HN := hid hn
  have HF := hid hf0
  clear hn hf0
  go_enter Try.func28, Try.ntmps28
  go_wp2
  go_region_held3 (fun w' => w'.cell? ⟨w.heap.size, 0, none⟩ = some (.slice a m c) ∧ w'.cell? ⟨w.heap.size, 1, none⟩ = some (.int .i64 r) ∧ w'.cell? ⟨w.heap.size, 2, none⟩ = some (.int .i64 s) ∧ w'.cell? ⟨w.heap.size, 3, none⟩ = some (.int .i64 o) ∧ w'.cell? ⟨w.heap.size, 4, none⟩ = some (.int .i64 f)) (go_keep) ((first | (go_at_call 15; refine (refLeft_nat _ a m c r n s o f HN.out hm).mono ?_; rintro e w1 ⟨rfl, hB1⟩; obtain ⟨q0, q1, q2, q3, q4⟩ := Five.below (b := w.heap.size) (v0 := .slice a m c) (v1 := .int .i64 r) (v2 := .int .i64 s) (v3 := .int .i64 o) (v4 := .int .i64 f) (by simp [Five]) hB1; obtain ⟨z0, z1, z2, z3, z4⟩ := Five.below (b := w.heap.size + 1) (v0 := .slice none 0 0) (v1 := .int .i64 0) (v2 := .int .i64 0) (v3 := .int .i64 0) (v4 := .int .i64 0) (by simp [Five]) hB1; have hz1 := free_below (b := w.heap.size + 1) (by simp) (by simp) hB1; have hzz1 : w.heap.size + 1 < w1.heap.size := by have := hB1.size; simp at this; omega) | (go_at_call 27; refine (refBytes_late w1 a m c r s o f (by omega) HF.out).mono ?_; rintro e w2 ⟨rfl, hB2⟩; obtain ⟨p0, p1, p2, p3, p4⟩ := Five.below (b := w.heap.size) (v0 := .slice a m c) (v1 := .int .i64 r) (v2 := .int .i64 s) (v3 := .int .i64 o) (v4 := .int .i64 f) ⟨q0, q1, q2, q3, q4⟩ hB2; obtain ⟨y0, y1, y2, y3, y4⟩ := Five.below (b := w.heap.size + 1) (v0 := .slice none 0 0) (v1 := .int .i64 0) (v2 := .int .i64 0) (v3 := .int .i64 0) (v4 := .int .i64 0) ⟨z0, z1, z2, z3, z4⟩ hB2; have hz2 := free_below (b := w.heap.size + 1) hz1 hzz1 hB2)))
  have hB3 := below_more (below_more (below_two w _ _).drew hB1) hB2
  have hs1 := hB1.size
  simp at hs1
  clear hB1 hB2
  go_wp2
  refine bodyPost_ret (v := .tuple #[.agg #[.slice a m c, .int .i64 r, .int .i64 s, .int .i64 o, .int .i64 f], .slice none 0 0]) (by simp [results, Try.results28, go_sem, y0, y1, y2, y3, y4]) rfl ⟨rfl, ?_⟩
  repeat refine Below.setCell ?_ (by simp) _
  exact hB3

/-- what Row hands back -/
def RefRow (w : World) (a : Option Addr) (m c : Nat) (r s o f : Int) (out : List Int) (e : Ending) (w' : World) : Prop :=
  ∃ a' c', e = .returned (.tuple #[.agg #[.slice a m c, .int .i64 r, .int .i64 s, .int .i64 o, .int .i64 f], .slice a' out.length c']) ∧ Below w.heap.size w w' ∧ Ints .u64 w' a' out ∧ (a' = none ∨ ∃ q, a' = some ⟨q, 0, none⟩ ∧ w.heap.size ≤ q)

theorem refRow_late (w : World) (a : Option Addr) (m c : Nat) (r s o f : Int) (x : Value) (hf0 : f ≠ 0) :
    Calls Try.prog 26 #[.agg #[.slice a m c, .int .i64 r, .int .i64 s, .int .i64 o, .int .i64 f], x] w (RefRow w a m c r s o f []) := by
  have e0 : (f != 0) = true := by simpa using hf0
  clear hf0
  go_enter Try.func26, Try.ntmps26
  go_wp2
  refine bodyPost_ret (v := .tuple #[.agg #[.slice a m c, .int .i64 r, .int .i64 s, .int .i64 o, .int .i64 f], .slice none 0 0]) (by simp [results, Try.results26, go_sem]) rfl ⟨none, 0, rfl, ?_, Ints.nil _ _ _, .inl rfl⟩
  exact below_two _ _ _

theorem rest_slice (w : World) (a : Option Addr) (c : Nat) (B : List Int) (hH : Holds w a c B) (r : Nat) (hr : r ≤ B.length) :
    (c = r ∧ B.drop r = []) ∨ (c ≠ r ∧ r < c ∧ ∃ b off, a = some ⟨b, off, none⟩ ∧ Ints .u8 w (some ⟨b, off + r, none⟩) (B.drop r)) := by
  have hcap := hH.cap
  by_cases h : c = r
  · exact .inl ⟨h, List.drop_of_length_le (by omega)⟩
  · obtain ⟨b, off, rfl⟩ := hH.shape (by omega)
    have := hH.ints.drop (j := r) hcap
    rw [if_neg h] at this
    exact .inr ⟨h, by omega, b, off, rfl, this⟩

set_option maxHeartbeats 1600000 in
set_option maxHeartbeats 1600000 in
set_option maxHeartbeats 1600000 in
set_option maxHeartbeats 1600000 in
set_option maxHeartbeats 1600000 in
set_option maxHeartbeats 1600000 in
set_option maxHeartbeats 1600000 in
theorem refRow_err1 (w : World) (a : Option Addr) (c : Nat) (B : List Int) (hH : Holds w a c B) (s o : Int) (r : Nat) (hr : r ≤ B.length) (_hl : B.length ≤ 140737488355328) (ws : List Int) (x : Option Addr) (d : Nat) (hw : ws.length ≤ 9223372036854775807) (hx : Ints .i64 w x ws) (hg : getW ws (B.drop r) = .error 1) :
    Calls Try.prog 26 #[.agg #[.slice a B.length c, .int .i64 r, .int .i64 s, .int .i64 o, .int .i64 0], .slice x ws.length d] w (RefRow w a B.length c r s o s []) := by
  have hcap := hH.cap
  have hmax := hH.max
  have hrl : (r : Int) ≤ (B.length : Int) := by omega
  have HD := hid (show (B.drop r).length = B.length - r from List.length_drop ..)
  have HG := hid hg
  have hoD := hH.oct.drop r
  clear hg
  rcases rest_slice w a c B hH r hr with ⟨rfl, hnil⟩ | ⟨hcr, hrc, b, off, rfl, hI⟩
  · rw [hnil] at HG
    clear hnil
    have G := fun w1 (hB : Below w.heap.size w w1) => refGet_any ws [] x a d 0 w1 hw (Nat.zero_le _) (by omega) (fun _ h => by cases h) (hx.below hB) (Ints.nil _ _ _)
    have hBc : B.length = c := by omega
    have HBC := hid hBc
    clear hBc
    have HGG := hid G
    clear G
    go_enter Try.func26, Try.ntmps26
    go_wp2_with fail
    refine (HGG.out _ (below_two _ _ _)).mono ?_
    rintro e w1 (⟨q, hq, rfl, hB1⟩ | ⟨ns, v, hq, _⟩)
    · obtain rfl : 1 = q := by rw [HG.out] at hq; simpa using hq
      obtain ⟨q0, q1, q2, q3, q4⟩ := Five.below (b := w.heap.size) (v0 := .slice a B.length c) (v1 := .int .i64 c) (v2 := .int .i64 s) (v3 := .int .i64 o) (v4 := .int .i64 0) (by simp [Five]) hB1
      obtain ⟨z0, z1, z2, z3, z4⟩ := Five.below (b := w.heap.size + 1) (v0 := .slice none 0 0) (v1 := .int .i64 0) (v2 := .int .i64 0) (v3 := .int .i64 0) (v4 := .int .i64 0) (by simp [Five]) hB1
      have hz1 := free_below (b := w.heap.size + 1) (by simp) (by simp) hB1
      have hzz1 : w.heap.size + 1 < w1.heap.size := by have := hB1.size; simp at this; omega
      have hB2 := below_more (below_two w _ _) hB1
      clear hB1 hq
      go_wp2_with fail
      refine (refFail_first _ _ _ _ _ _ _ _).mono ?_
      rintro e w2 ⟨rfl, hB3⟩
      obtain ⟨y0, y1, y2, y3, y4⟩ := Five.below (b := w.heap.size + 1) (v0 := .slice none 0 0) (v1 := .int .i64 0) (v2 := .int .i64 0) (v3 := .int .i64 0) (v4 := .int .i64 0) ⟨z0, z1, z2, z3, z4⟩ hB3
      have hz2 := free_below (b := w.heap.size + 1) hz1 hzz1 hB3
      have hB4 := below_more hB2 hB3
      clear hB3 hB2
      go_wp2
      refine bodyPost_ret (v := .tuple #[.agg #[.slice a B.length c, .int .i64 c, .int .i64 s, .int .i64 o, .int .i64 s], .slice none 0 0]) (by simp [results, Try.results26, go_sem, y0, y1, y2, y3, y4]) rfl ⟨none, 0, rfl, ?_, Ints.nil _ _ _, .inl rfl⟩
      repeat refine Below.setCell ?_ (by simp) _
      exact hB4
    · rw [HG.out] at hq; simp at hq
  · clear hcr
    have G := fun w1 (hB : Below w.heap.size w w1) => refGet_any ws (B.drop r) x (some ⟨b, off + r, none⟩) d (c - r) w1 hw (by rw [HD.out]; omega) (by omega) hoD (hx.below hB) (hI.below hB)
    rw [HD.out] at G
    have HGG := hid G
    clear G
    go_enter Try.func26, Try.ntmps26
    go_wp2_with fail
    refine (HGG.out _ (below_two _ _ _)).mono ?_
    rintro e w1 (⟨q, hq, rfl, hB1⟩ | ⟨ns, v, hq, _⟩)
    · obtain rfl : 1 = q := by rw [HG.out] at hq; simpa using hq
      obtain ⟨q0, q1, q2, q3, q4⟩ := Five.below (b := w.heap.size) (v0 := .slice (some ⟨b, off, none⟩) B.length c) (v1 := .int .i64 r) (v2 := .int .i64 s) (v3 := .int .i64 o) (v4 := .int .i64 0) (by simp [Five]) hB1
      obtain ⟨z0, z1, z2, z3, z4⟩ := Five.below (b := w.heap.size + 1) (v0 := .slice none 0 0) (v1 := .int .i64 0) (v2 := .int .i64 0) (v3 := .int .i64 0) (v4 := .int .i64 0) (by simp [Five]) hB1
      have hz1 := free_below (b := w.heap.size + 1) (by simp) (by simp) hB1
      have hzz1 : w.heap.size + 1 < w1.heap.size := by have := hB1.size; simp at this; omega
      have hB2 := below_more (below_two w _ _) hB1
      clear hB1 hq
      go_wp2_with fail
      refine (refFail_first _ _ _ _ _ _ _ _).mono ?_
      rintro e w2 ⟨rfl, hB3⟩
      obtain ⟨y0, y1, y2, y3, y4⟩ := Five.below (b := w.heap.size + 1) (v0 := .slice none 0 0) (v1 := .int .i64 0) (v2 := .int .i64 0) (v3 := .int .i64 0) (v4 := .int .i64 0) ⟨z0, z1, z2, z3, z4⟩ hB3
      have hz2 := free_below (b := w.heap.size + 1) hz1 hzz1 hB3
      have hB4 := below_more hB2 hB3
      clear hB3 hB2
      go_wp2
      refine bodyPost_ret (v := .tuple #[.agg #[.slice (some ⟨b, off, none⟩) B.length c, .int .i64 r, .int .i64 s, .int .i64 o, .int .i64 s], .slice none 0 0]) (by simp [results, Try.results26, go_sem, y0, y1, y2, y3, y4]) rfl ⟨none, 0, rfl, ?_, Ints.nil _ _ _, .inl rfl⟩
      repeat refine Below.setCell ?_ (by simp) _
      exact hB4
    · rw [HG.out] at hq; simp at hq

set_option maxHeartbeats 1600000 in
theorem refRow_err2 (w : World) (a : Option Addr) (c : Nat) (B : List Int) (hH : Holds w a c B) (s o : Int) (r : Nat) (hr : r ≤ B.length) (_hl : B.length ≤ 140737488355328) (ws : List Int) (x : Option Addr) (d : Nat) (hw : ws.length ≤ 9223372036854775807) (hx : Ints .i64 w x ws) (hg : getW ws (B.drop r) = .error 2) :
    Calls Try.prog 26 #[.agg #[.slice a B.length c, .int .i64 r, .int .i64 s, .int .i64 o, .int .i64 0], .slice x ws.length d] w (RefRow w a B.length c r s o o []) := by
  have hcap := hH.cap
  have hmax := hH.max
  have hrl : (r : Int) ≤ (B.length : Int) := by omega
  have HD := hid (show (B.drop r).length = B.length - r from List.length_drop ..)
  have HG := hid hg
  have hoD := hH.oct.drop r
  clear hg
  rcases rest_slice w a c B hH r hr with ⟨rfl, hnil⟩ | ⟨hcr, hrc, b, off, rfl, hI⟩
  · rw [hnil] at HG
    clear hnil
    have G := fun w1 (hB : Below w.heap.size w w1) => refGet_any ws [] x a d 0 w1 hw (Nat.zero_le _) (by omega) (fun _ h => by cases h) (hx.below hB) (Ints.nil _ _ _)
    have hBc : B.length = c := by omega
    have HBC := hid hBc
    clear hBc
    have HGG := hid G
    clear G
    go_enter Try.func26, Try.ntmps26
    go_wp2_with fail
    refine (HGG.out _ (below_two _ _ _)).mono ?_
    rintro e w1 (⟨q, hq, rfl, hB1⟩ | ⟨ns, v, hq, _⟩)
    · obtain rfl : 2 = q := by rw [HG.out] at hq; simpa using hq
      obtain ⟨q0, q1, q2, q3, q4⟩ := Five.below (b := w.heap.size) (v0 := .slice a B.length c) (v1 := .int .i64 c) (v2 := .int .i64 s) (v3 := .int .i64 o) (v4 := .int .i64 0) (by simp [Five]) hB1
      obtain ⟨z0, z1, z2, z3, z4⟩ := Five.below (b := w.heap.size + 1) (v0 := .slice none 0 0) (v1 := .int .i64 0) (v2 := .int .i64 0) (v3 := .int .i64 0) (v4 := .int .i64 0) (by simp [Five]) hB1
      have hz1 := free_below (b := w.heap.size + 1) (by simp) (by simp) hB1
      have hzz1 : w.heap.size + 1 < w1.heap.size := by have := hB1.size; simp at this; omega
      have hB2 := below_more (below_two w _ _) hB1
      clear hB1 hq
      go_wp2_with fail
      refine (refFail_first _ _ _ _ _ _ _ _).mono ?_
      rintro e w2 ⟨rfl, hB3⟩
      obtain ⟨y0, y1, y2, y3, y4⟩ := Five.below (b := w.heap.size + 1) (v0 := .slice none 0 0) (v1 := .int .i64 0) (v2 := .int .i64 0) (v3 := .int .i64 0) (v4 := .int .i64 0) ⟨z0, z1, z2, z3, z4⟩ hB3
      have hz2 := free_below (b := w.heap.size + 1) hz1 hzz1 hB3
      have hB4 := below_more hB2 hB3
      clear hB3 hB2
      go_wp2
      refine bodyPost_ret (v := .tuple #[.agg #[.slice a B.length c, .int .i64 c, .int .i64 s, .int .i64 o, .int .i64 o], .slice none 0 0]) (by simp [results, Try.results26, go_sem, y0, y1, y2, y3, y4]) rfl ⟨none, 0, rfl, ?_, Ints.nil _ _ _, .inl rfl⟩
      repeat refine Below.setCell ?_ (by simp) _
      exact hB4
    · rw [HG.out] at hq; simp at hq
  · clear hcr
    have G := fun w1 (hB : Below w.heap.size w w1) => refGet_any ws (B.drop r) x (some ⟨b, off + r, none⟩) d (c - r) w1 hw (by rw [HD.out]; omega) (by omega) hoD (hx.below hB) (hI.below hB)
    rw [HD.out] at G
    have HGG := hid G
    clear G
    go_enter Try.func26, Try.ntmps26
    go_wp2_with fail
    refine (HGG.out _ (below_two _ _ _)).mono ?_
    rintro e w1 (⟨q, hq, rfl, hB1⟩ | ⟨ns, v, hq, _⟩)
    · obtain rfl : 2 = q := by rw [HG.out] at hq; simpa using hq
      obtain ⟨q0, q1, q2, q3, q4⟩ := Five.below (b := w.heap.size) (v0 := .slice (some ⟨b, off, none⟩) B.length c) (v1 := .int .i64 r) (v2 := .int .i64 s) (v3 := .int .i64 o) (v4 := .int .i64 0) (by simp [Five]) hB1
      obtain ⟨z0, z1, z2, z3, z4⟩ := Five.below (b := w.heap.size + 1) (v0 := .slice none 0 0) (v1 := .int .i64 0) (v2 := .int .i64 0) (v3 := .int .i64 0) (v4 := .int .i64 0) (by simp [Five]) hB1
      have hz1 := free_below (b := w.heap.size + 1) (by simp) (by simp) hB1
      have hzz1 : w.heap.size + 1 < w1.heap.size := by have := hB1.size; simp at this; omega
      have hB2 := below_more (below_two w _ _) hB1
      clear hB1 hq
      go_wp2_with fail
      refine (refFail_first _ _ _ _ _ _ _ _).mono ?_
      rintro e w2 ⟨rfl, hB3⟩
      obtain ⟨y0, y1, y2, y3, y4⟩ := Five.below (b := w.heap.size + 1) (v0 := .slice none 0 0) (v1 := .int .i64 0) (v2 := .int .i64 0) (v3 := .int .i64 0) (v4 := .int .i64 0) ⟨z0, z1, z2, z3, z4⟩ hB3
      have hz2 := free_below (b := w.heap.size + 1) hz1 hzz1 hB3
      have hB4 := below_more hB2 hB3
      clear hB3 hB2
      go_wp2
      refine bodyPost_ret (v := .tuple #[.agg #[.slice (some ⟨b, off, none⟩) B.length c, .int .i64 r, .int .i64 s, .int .i64 o, .int .i64 o], .slice none 0 0]) (by simp [results, Try.results26, go_sem, y0, y1, y2, y3, y4]) rfl ⟨none, 0, rfl, ?_, Ints.nil _ _ _, .inl rfl⟩
      repeat refine Below.setCell ?_ (by simp) _
      exact hB4
    · rw [HG.out] at hq; simp at hq

theorem Ints.drew {k : IntKind} {w : World} {a : Option Addr} {l : List Int} (h : Ints k w a l) : Ints k w.drew a l := h.below (Below.refl _ _).drew
theorem below_drew (w : World) : Below w.heap.size w w.drew := (Below.refl _ _).drew
set_option maxHeartbeats 1600000 in
theorem refRow_ok (w : World) (a : Option Addr) (c : Nat) (B : List Int) (hH : Holds w a c B) (s o : Int) (r : Nat) (hr : r ≤ B.length) (hl : B.length ≤ 140737488355328) (ws ns : List Int) (x : Option Addr) (d : Nat) (hw : ws.length ≤ 9223372036854775807) (hx : Ints .i64 w x ws) (hg : getW ws (B.drop r) = .ok ns) :
    Calls Try.prog 26 #[.agg #[.slice a B.length c, .int .i64 r, .int .i64 s, .int .i64 o, .int .i64 0], .slice x ws.length d] w (RefRow w a B.length c (r + sizeL ws) s o 0 ns) := by
  have hcap := hH.cap
  have hmax := hH.max
  have hrl : (r : Int) ≤ (B.length : Int) := by omega
  have HD := hid (show (B.drop r).length = B.length - r from List.length_drop ..)
  have HG := hid hg
  have hoD := hH.oct.drop r
  have hok := getW_ok hg hoD
  have hsz := hok.2.1
  have hsw := hok.2.2.1
  clear hok
  have HSW := hid hsw
  have hsz2 : sizeL ws ≤ 140737488355328 := by rw [HD.out] at hsz; omega
  clear hsw hsz
  clear hg
  rcases rest_slice w a c B hH r hr with ⟨rfl, hnil⟩ | ⟨hcr, hrc, b, off, rfl, hI⟩
  · rw [hnil] at HG
    clear hnil
    have G := fun w1 (hB : Below w.heap.size w w1) => refGet_any ws [] x a d 0 w1 hw (Nat.zero_le _) (by omega) (fun _ h => by cases h) (hx.below hB) (Ints.nil _ _ _)
    have hBc : B.length = c := by omega
    have HBC := hid hBc
    clear hBc
    have HGG := hid G
    clear G
    go_enter Try.func26, Try.ntmps26
    go_wp2_with fail
    refine (HGG.out _ (below_two _ _ _)).mono ?_
    rintro e w1 (⟨q, hq, _⟩ | ⟨ns', v, hq, rfl, hF⟩)
    · rw [HG.out] at hq; simp at hq
    · obtain rfl : ns = ns' := by have := HG.out; rw [hq] at this; simpa using this.symm
      have hB1 := hF.bel
      obtain ⟨a3, c3, rfl, hl3, _, hI3⟩ := own_ints hF.own
      have hfar := fresh_far hF (Nat.le_refl _)
      simp at hfar
      obtain ⟨q0, q1, q2, q3, q4⟩ := Five.below (b := w.heap.size) (v0 := .slice a B.length c) (v1 := .int .i64 c) (v2 := .int .i64 s) (v3 := .int .i64 o) (v4 := .int .i64 0) (by simp [Five]) hB1
      obtain ⟨z0, z1, z2, z3, z4⟩ := Five.below (b := w.heap.size + 1) (v0 := .slice none 0 0) (v1 := .int .i64 0) (v2 := .int .i64 0) (v3 := .int .i64 0) (v4 := .int .i64 0) (by simp [Five]) hB1
      have hz1 := free_below (b := w.heap.size + 1) (by simp) (by simp) hB1
      have hz0 := free_below (b := w.heap.size) (by simp) (by simp; omega) hB1
      have hxs := hx.below (below_more (below_two w _ _) hB1)
      have hB2 := below_more (below_two w _ _) hB1
      clear hB1 hq hF
      go_wp2
      have hwr : IntKind.i64.wrap ((c : Int) + (sizeL ws : Int)) = (c : Int) + (sizeL ws : Int) := IntWalk.i64_in _ (by omega)
      go_region_with ((go_at_call 38; refine (refSize_any ws x d _ hw (hxs.below (below_drew _))).mono ?_; rintro e w' ⟨rfl, rfl⟩; rw [HSW.out]))
      all_goals clear hwr
      all_goals go_wp2
      all_goals
        refine bodyPost_ret (v := .tuple #[.agg #[.slice a B.length c, .int .i64 (c + sizeL ws), .int .i64 s, .int .i64 o, .int .i64 0], .slice a3 ns.length c3]) (by simp [results, Try.results26, go_sem, z0, z1, z2, z3, z4]) rfl ⟨a3, c3, rfl, ?_, ?_, hfar.imp id (fun ⟨q, e, hq⟩ => ⟨q, e, by omega⟩)⟩
        · repeat (first | with_reducible refine Below.setCell ?_ (by simp) _ | with_reducible refine Below.drew ?_)
          exact hB2
        · repeat (first | with_reducible refine Ints.set ?_ (hfar.imp id (fun ⟨q, e, hq⟩ => ⟨q, e, by omega⟩)) _ _ | with_reducible refine Ints.drew ?_)
          exact hI3
  · clear hcr
    have G := fun w1 (hB : Below w.heap.size w w1) => refGet_any ws (B.drop r) x (some ⟨b, off + r, none⟩) d (c - r) w1 hw (by rw [HD.out]; omega) (by omega) hoD (hx.below hB) (hI.below hB)
    rw [HD.out] at G
    have HGG := hid G
    clear G
    go_enter Try.func26, Try.ntmps26
    go_wp2_with fail
    refine (HGG.out _ (below_two _ _ _)).mono ?_
    rintro e w1 (⟨q, hq, _⟩ | ⟨ns', v, hq, rfl, hF⟩)
    · rw [HG.out] at hq; simp at hq
    · obtain rfl : ns = ns' := by have := HG.out; rw [hq] at this; simpa using this.symm
      have hB1 := hF.bel
      obtain ⟨a3, c3, rfl, hl3, _, hI3⟩ := own_ints hF.own
      have hfar := fresh_far hF (Nat.le_refl _)
      simp at hfar
      obtain ⟨q0, q1, q2, q3, q4⟩ := Five.below (b := w.heap.size) (v0 := .slice (some ⟨b, off, none⟩) B.length c) (v1 := .int .i64 r) (v2 := .int .i64 s) (v3 := .int .i64 o) (v4 := .int .i64 0) (by simp [Five]) hB1
      obtain ⟨z0, z1, z2, z3, z4⟩ := Five.below (b := w.heap.size + 1) (v0 := .slice none 0 0) (v1 := .int .i64 0) (v2 := .int .i64 0) (v3 := .int .i64 0) (v4 := .int .i64 0) (by simp [Five]) hB1
      have hz1 := free_below (b := w.heap.size + 1) (by simp) (by simp) hB1
      have hz0 := free_below (b := w.heap.size) (by simp) (by simp; omega) hB1
      have hxs := hx.below (below_more (below_two w _ _) hB1)
      have hB2 := below_more (below_two w _ _) hB1
      clear hB1 hq hF
      go_wp2
      have hwr : IntKind.i64.wrap ((r : Int) + (sizeL ws : Int)) = (r : Int) + (sizeL ws : Int) := IntWalk.i64_in _ (by omega)
      go_region_with ((go_at_call 38; refine (refSize_any ws x d _ hw (hxs.below (below_drew _))).mono ?_; rintro e w' ⟨rfl, rfl⟩; rw [HSW.out]))
      all_goals clear hwr
      all_goals go_wp2
      all_goals
        refine bodyPost_ret (v := .tuple #[.agg #[.slice (some ⟨b, off, none⟩) B.length c, .int .i64 (r + sizeL ws), .int .i64 s, .int .i64 o, .int .i64 0], .slice a3 ns.length c3]) (by simp [results, Try.results26, go_sem, z0, z1, z2, z3, z4]) rfl ⟨a3, c3, rfl, ?_, ?_, hfar.imp id (fun ⟨q, e, hq⟩ => ⟨q, e, by omega⟩)⟩
        · repeat (first | with_reducible refine Below.setCell ?_ (by simp) _ | with_reducible refine Below.drew ?_)
          exact hB2
        · repeat (first | with_reducible refine Ints.set ?_ (hfar.imp id (fun ⟨q, e, hq⟩ => ⟨q, e, by omega⟩)) _ _ | with_reducible refine Ints.drew ?_)
          exact hI3
end Go.Proofs.Ytgnmkdcoglbafaa
