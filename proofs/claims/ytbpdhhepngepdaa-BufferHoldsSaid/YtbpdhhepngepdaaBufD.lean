/- Contracts of package buffer: Hold, Fill. -/
import Derived.Test.YtbpdhhepngepdaaBufC
namespace Go.Proofs.Ytbpdhhepngepdaa
open Go.RowKit Go.Maps

section
variable {w w1 w' : World} {g m : Nat} {p p' : Option Nat} {r : Nat} {l : List Int} {H : List (Int × Int)} {f : Int}

theorem Buf.bytes_lit (h : Buf w g m p r l H 0) (x : List Int) (a : Option Addr) (n c : Nat) (en : n = x.length) (hx : l.length + x.length ≤ r) (hI : Ints .u8 w a x) :
    Calls Try.prog 7 #[.pointer (some ⟨g, 0, none⟩), .slice a n c] w fun e w' => e = .returned (.tuple #[]) ∧ ∃ p', Went w w' g m p p' r (l ++ x) H 0 := by
  subst en; exact h.bytes_ok x a c hx hI
theorem Buf.bytes_lit_long (h : Buf w g m p r l H 0) (x : List Int) (a : Option Addr) (n c : Nat) (en : n = x.length) (hx : r < l.length + x.length) (hm : x.length ≤ 9223372036854775807) :
    Calls Try.prog 7 #[.pointer (some ⟨g, 0, none⟩), .slice a n c] w fun e w' => e = .returned (.tuple #[]) ∧ ∃ p', Went w w' g m p p' r l H 10003 := by
  subst en; exact h.bytes_long x a c hx hm

/-- the map turned -/
theorem went_map {v : Value} {D : DataW Unit} {H' : List (Int × Int)} (h : Buf w g m p r l H f) (hv : v.ownBlock = p) (hg : w.heap[g]? = some (.cells (bufCells r v m f) 45 (0, 0)))
    (hr : w.ownsRow 0 5 1 v (l.map (Value.int .u8)).length (l.map (Value.int .u8))) (hb : w.grownBy w1 (some m)) (hm : w1.ownsMap Try.prog 3 (plainElem Try.prog 3) m H'.length D) (ht : Tied D H') (hw : Within l.length H') (hf : H'.length ≤ l.length) :
    Went w w1 g m p p r l H' f :=
  ⟨⟨⟨v, D, hv, block_by hg hb (by have := h.gm; simp; omega), hr.kept hb (.inr (by rw [hv]; exact h.mp)), hm, ht⟩, h.room, h.most, hw, hf, h.gm, h.gp, h.mp⟩,
    Turn.of_by hb (by rintro k e; simp at e; exact .inr (.inl e.symm)), fun _ e => .inl e⟩
/-- the bytes turned, in their block -/
theorem went_bytes {v : Value} {D : DataW Unit} {ys : List Int} {q : Nat} (h : Buf w g m p r l H f) (hv : v.ownBlock = p) (hq : p = some q) (hg : w.heap[g]? = some (.cells (bufCells r v m f) 45 (0, 0)))
    (hm : w.ownsMap Try.prog 3 (plainElem Try.prog 3) m H.length D) (ht : Tied D H) (hb : w.grownBy w1 (some q)) (hr : w1.ownsRow 0 5 1 v (ys.map (Value.int .u8)).length (ys.map (Value.int .u8))) (hl : ys.length = l.length) :
    Went w w1 g m p p r ys H f := by
  subst hq
  refine ⟨⟨⟨v, D, hv, block_by hg hb h.gp, hr, hm.kept hb (fun e => h.mp e.symm), ht⟩, by rw [hl]; exact h.room, h.most, by rw [hl]; exact h.held, by rw [hl]; exact h.few, h.gm, h.gp, h.mp⟩, ?_, fun _ e => .inl e⟩
  exact Turn.of_by hb (fun k e => .inr (.inr e))

theorem no_place (h : Buf w g m p r l H f) : H.any (fun q => q.1 == (l.length : Int)) = false := by
  rw [List.any_eq_false]
  intro q hq
  have := h.held q hq
  simp
  omega

theorem Buf.hold_late (h : Buf w g m p r l H f) (hf : f ≠ 0) {n : Int} (h1 : 1 ≤ n) (h8 : n ≤ 8) :
    Calls Try.prog 11 #[.pointer (some ⟨g, 0, none⟩), .int .i64 n] w fun e w' => e = .returned (.int .i64 0) ∧ Below w.heap.size w w' := by
  have e0 : (f == 0) = false := by simpa using hf
  have HF := hid hf
  obtain ⟨n, rfl⟩ := Int.eq_ofNat_of_zero_le (show 0 ≤ n by omega)
  clear hf
  go_enter Try.func11, Try.ntmps11
  go_wp2_with fail
  refine h.len.mono ?_
  rintro e w' ⟨rfl, rfl⟩
  go_wp2_with (at_make; refine wp_make rfl _ _ rfl elemU8 rfl rfl rfl rfl (Nat.le_refl _) (by omega) (by omega) ?_; intro w1 hF)
  refine ((h.below hF.bel).bytes_late HF.out _).mono ?_
  rintro e w' ⟨rfl, rfl⟩
  go_wp2_with fail
  refine ((h.below hF.bel).writes).mono ?_
  rintro e w' ⟨rfl, rfl⟩
  go_wp2
  go_ret
  exact ⟨rfl, hF.bel⟩
theorem Buf.hold_long (h : Buf w g m p r l H 0) {n : Nat} (h1 : 1 ≤ n) (h8 : n ≤ 8) (hr : r < l.length + n) :
    Calls Try.prog 11 #[.pointer (some ⟨g, 0, none⟩), .int .i64 n] w fun e w' => e = .returned (.int .i64 0) ∧ ∃ p', Went w w' g m p p' r l H 10003 := by
  go_enter Try.func11, Try.ntmps11
  go_wp2_with fail
  refine h.len.mono ?_
  rintro e w' ⟨rfl, rfl⟩
  go_wp2_with (at_make; refine wp_make rfl _ _ rfl elemU8 rfl rfl rfl rfl (Nat.le_refl _) (by omega) (by omega) ?_; intro w1 hF)
  refine ((h.below hF.bel).bytes_lit_long (List.replicate n 0) _ _ _ (by rw [List.length_replicate]) (by rw [List.length_replicate]; exact hr) (by rw [List.length_replicate]; omega)).mono ?_
  rintro e w2 ⟨rfl, p', hG⟩
  go_wp2_with fail
  refine hG.buf.writes.mono ?_
  rintro e w' ⟨rfl, rfl⟩
  go_wp2
  go_ret
  exact ⟨rfl, p', hG.ahead hF.bel⟩
theorem Buf.hold_ok (h : Buf w g m p r l H 0) {n : Nat} (h1 : 1 ≤ n) (h8 : n ≤ 8) (hr : l.length + n ≤ r) :
    Calls Try.prog 11 #[.pointer (some ⟨g, 0, none⟩), .int .i64 n] w fun e w' => e = .returned (.int .i64 l.length) ∧ ∃ p', Went w w' g m p p' r (l ++ List.replicate n 0) (H ++ [((l.length : Int), (n : Int))]) 0 := by
  have hno := hid (no_place h)
  have hmo := h.most
  have hfe := h.few
  have hkey : keyOf Try.prog 3 (.int .i64 (l.length : Int)) = some (.int .i64 (l.length : Int)) := keyOf_int_mk underInt (WalkArith.wf_i64 (by omega))
  go_enter Try.func11, Try.ntmps11
  go_wp2_with fail
  refine h.len.mono ?_
  rintro e w' ⟨rfl, rfl⟩
  go_wp2_with (at_make; refine wp_make rfl _ _ rfl elemU8 rfl rfl rfl rfl (Nat.le_refl _) (by omega) (by omega) ?_; intro w1 hF)
  have hI : Ints .u8 w1 (some ⟨w.heap.size, 0, none⟩) (List.replicate n (0 : Int)) := by
    have h' := hF.own
    rw [show List.replicate n (Value.int .u8 0) = (List.replicate n (0 : Int)).map (Value.int .u8) by rw [List.map_replicate]] at h'
    obtain ⟨_, _, he, _, _, hI⟩ := own_ints h'
    simp at he
    obtain ⟨rfl, _⟩ := he
    exact hI
  refine ((h.below hF.bel).bytes_lit (List.replicate n 0) _ _ _ (by rw [List.length_replicate]) (by rw [List.length_replicate]; exact hr) hI).mono ?_
  rintro e w2 ⟨rfl, p', hG⟩
  have hG' := hid (hG.ahead hF.bel)
  obtain ⟨v2, D2, hv2, hg2, hr2, hm2, ht2⟩ := hG.buf.ex
  have hB2 := hid hG.buf
  have c3 : w2.cell? ⟨g, 3, none⟩ = some (.map (some m)) := cell_of_cells hg2 rfl
  have HG2 := hid hg2
  have HR2 := hid hr2
  clear hG hF hI hg2 hr2 h
  go_wp2_with fail
  refine hB2.out.writes.mono ?_
  rintro e w' ⟨rfl, rfl⟩
  go_wp2_with (at_mapUpdate; refine wpList_mapUpdate_own _ rfl _ _ _ 43 rfl 3 3 lawInt underMap _ m _ D2 rfl hm2 (by unfold maxLen; omega) _ _ _ rfl rfl hkey _ [] (plainElem_int underInt (WalkArith.wf_i64 (by omega))) ?_; intro w3 hm3 hb3)
  go_ret
  refine ⟨rfl, p', hG'.out.trans (went_map hB2.out hv2 HG2.out HR2.out hb3 (by rw [List.length_append]; exact hm3) (tied_put ht2 hno.out) ?_ ?_)⟩
  · intro q hq
    have hlen : (l ++ List.replicate n (0 : Int)).length = l.length + n := by simp
    rw [hlen]
    rcases List.mem_append.1 hq with h' | h'
    · have := hB2.out.held q h'
      rw [hlen] at this
      exact this
    · simp at h'
      subst h'
      exact ⟨by simp, by simp; omega, by simp; omega, by simp⟩
  · simp
    omega
theorem Buf.hold_bad (h : Buf w g m p r l H 0) {n : Int} (hn : n < 1 ∨ 8 < n) :
    Calls Try.prog 11 #[.pointer (some ⟨g, 0, none⟩), .int .i64 n] w fun e w' => e = .returned (.int .i64 0) ∧ Went w w' g m p p r l H 10001 := by
  rcases hn with hn | hn
  · go_enter Try.func11, Try.ntmps11
    go_wp2_with fail
    refine (h.fail _).mono ?_
    rintro e w' ⟨rfl, hB, hb⟩
    go_wp2
    go_ret
    exact ⟨rfl, Went.by_g hB hb⟩
  · have h1 : ¬ n < 1 := by omega
    go_enter Try.func11, Try.ntmps11
    go_wp2_with fail
    refine (h.fail _).mono ?_
    rintro e w' ⟨rfl, hB, hb⟩
    go_wp2
    go_ret
    exact ⟨rfl, Went.by_g hB hb⟩
theorem hold_nil (w : World) {n : Nat} (h1 : 1 ≤ n) (h8 : n ≤ 8) :
    Calls Try.prog 11 #[.pointer none, .int .i64 n] w fun e w' => e = .returned (.int .i64 0) ∧ Below w.heap.size w w' := by
  go_enter Try.func11, Try.ntmps11
  go_wp2_with fail
  refine (buf_len_nil w).mono ?_
  rintro e w' ⟨rfl, rfl⟩
  go_wp2_with (at_make; refine wp_make rfl _ _ rfl elemU8 rfl rfl rfl rfl (Nat.le_refl _) (by omega) (by omega) ?_; intro w1 hF)
  refine (buf_bytes_nil _ _).mono ?_
  rintro e w' ⟨rfl, rfl⟩
  go_wp2_with fail
  refine (buf_writes_nil _).mono ?_
  rintro e w' ⟨rfl, rfl⟩
  go_wp2
  go_ret
  exact ⟨rfl, hF.bel⟩
end
end Go.Proofs.Ytbpdhhepngepdaa
