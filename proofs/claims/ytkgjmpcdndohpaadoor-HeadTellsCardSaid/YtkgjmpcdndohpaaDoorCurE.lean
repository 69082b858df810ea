/- Contracts of package cursor: Row, one, Num. -/
import Derived.Test.YtkgjmpcdndohpaaDoorCurD
import Derived.Test.YtkgjmpcdndohpaaDoorRowPlain
import Derived.Test.YtkgjmpcdndohpaaDoorRowLaws
namespace Go.Proofs.YtkgjmpcdndohpaaDoor
open Go.RowKit

section
variable {w : World} {g M : Nat} {l : List Int} {r s o f : Int}

theorem getW_err2 {ws b : List Int} {q : Int} (h : getW ws b = .error q) : q = 1 ∨ q = 2 := by
  unfold getW at h
  split at h
  · rename_i hr
    clear hr
    induction ws generalizing b with
    | nil => simp [getL] at h
    | cons x r ih =>
      rw [getL_cons] at h
      split at h
      · left; simpa using h.symm
      · split at h
        · cases hh : getL r (b.drop x.natAbs) with
          | error e => rw [hh] at h; simp [Except.map] at h; subst h; exact ih hh
          | ok y => rw [hh] at h; simp [Except.map] at h
        · split at h
          · exact ih h
          · right; simpa using h.symm
  · right; simpa using h.symm

theorem getW_ok {ws b ns : List Int} (h : getW ws b = .ok ns) (ho : Octets b) : rightW ws = true ∧ sizeL ws ≤ b.length ∧ sizeW ws = sizeL ws ∧ U64s ns ∧ ns.length = countL ws := by
  unfold getW at h
  split at h
  · rename_i hr
    obtain ⟨_, h2, h3, h4⟩ := get_put h (rightW_all hr) ho
    exact ⟨hr, h2, by simp [sizeW, hr], h4, h3.symm⟩
  · simp at h

theorem ne_of_new {w : World} {v : Value} {g : Nat} (h : ∀ k, v.ownBlock = some k → w.heap.size ≤ k) (hg : g < w.heap.size) : v.ownBlock = none ∨ v.ownBlock ≠ some g := by
  cases hv : v.ownBlock with
  | none => exact .inl rfl
  | some k => right; have := h k hv; simp; omega

/-- what Row hands back where it reads -/
def RowPost (w : World) (g M : Nat) (ns l : List Int) (r s o f : Int) (e : Ending) (w' : World) : Prop :=
  ∃ v, e = .returned v ∧ Gives 51 w w' (some g) v (ns.map (Value.int .u64)) ∧ Cur w' g M l r s o f

theorem Cur.row_late (h : Cur w g M l r s o f) (hf : f ≠ 0) (v : Value) : Calls Tryd.prog 24 #[.pointer (some ⟨g, 0, none⟩), v] w fun e w' => e = .returned (.slice none 0 0) ∧ w = w' := by
  have e0 : (f == 0) = false := by simpa using hf
  clear hf
  go_enter Tryd.func24, Tryd.ntmps24
  go_wp2_with (first | (go_at_call 38; refine h.reads.mono ?_; rintro e w' ⟨rfl, rfl⟩))
  go_ret
  exact ⟨rfl, rfl⟩
theorem Cur.row_ok (h : Cur w g M l r s o 0) (ws ns : List Int) (a : Option Addr) (c : Nat) (hl : ws.length ≤ 9223372036854775807) (ha : Ints .i64 w a ws) (hg : getW ws l = .ok ns) : Calls Tryd.prog 24 #[.pointer (some ⟨g, 0, none⟩), .slice a ws.length c] w
    (RowPost w g M ns (l.drop (sizeL ws)) (r + sizeL ws) s o 0) := by
  obtain ⟨off, cc, hc, h1, h2, h3⟩ := h.ex
  have c1 := hc.c1
  obtain ⟨_, hsz, hsw, _, _⟩ := getW_ok hg h.oct
  have HG := hid hg
  have HS := hid hsw
  clear hg hsw hc
  go_enter Tryd.func24, Tryd.ntmps24
  go_wp2_with fail
  refine h.reads.mono ?_
  rintro e w' ⟨rfl, rfl⟩
  go_wp2_with fail
  refine (get_any ws l a _ c cc w hl h1 h2 h.oct ha h3).mono ?_
  rintro e w1 (⟨q, hq, _⟩ | ⟨ns', v, hq, rfl, hf⟩)
  · rw [HG.out] at hq; simp at hq
  · obtain rfl : ns = ns' := by have := HG.out; rw [hq] at this; simpa using this.symm
    have h' := h.below hf.bel
    clear hq h3
    go_wp2_with fail
    refine (size_any ws a c w1 hl (ha.below hf.bel)).mono ?_
    rintro e w2 ⟨rfl, rfl⟩
    rw [HS.out]
    go_wp2_with fail
    refine (h'.take_ok hsz).mono ?_
    rintro e w2 ⟨off2, c2, rfl, _, _, _, hC, hB⟩
    go_wp2
    go_ret
    exact ⟨v, rfl, ⟨hf.own.kept hB (ne_of_new hf.new h.block_lt), grownBy_then (grownBy_more (below_by_none hf.bel)) hB, hf.new⟩, hC⟩
theorem Cur.row_short (h : Cur w g M l r s o 0) (ws : List Int) (a : Option Addr) (c : Nat) (hl : ws.length ≤ 9223372036854775807) (ha : Ints .i64 w a ws) (hg : getW ws l = .error 1) : Calls Tryd.prog 24 #[.pointer (some ⟨g, 0, none⟩), .slice a ws.length c] w
    fun e w' => e = .returned (.slice none 0 0) ∧ Cur w' g M l r s o s ∧ w.grownBy w' (some g) := by
  obtain ⟨off, cc, hc, h1, h2, h3⟩ := h.ex
  have c1 := hc.c1
  have c3 := hc.c3
  have HG := hid hg
  clear hg hc
  go_enter Tryd.func24, Tryd.ntmps24
  go_wp2_with fail
  refine h.reads.mono ?_
  rintro e w' ⟨rfl, rfl⟩
  go_wp2_with fail
  refine (get_no ws l 1 HG.out a _ c cc w hl h1 h2 h.oct ha h3).mono ?_
  rintro e w1 ⟨rfl, hB⟩
  have h' := h.below hB
  have c3' := cell_keep c3 hB
  clear h3 c3
  go_wp2_with fail
  refine (h'.fail _).mono ?_
  rintro e w2 ⟨rfl, hC, hB2⟩
  go_wp2
  go_ret
  exact ⟨rfl, hC, grownBy_then (grownBy_more (below_by_none hB)) hB2⟩
theorem Cur.row_odd (h : Cur w g M l r s o 0) (ws : List Int) (a : Option Addr) (c : Nat) (hl : ws.length ≤ 9223372036854775807) (ha : Ints .i64 w a ws) (hg : getW ws l = .error 2) : Calls Tryd.prog 24 #[.pointer (some ⟨g, 0, none⟩), .slice a ws.length c] w
    fun e w' => e = .returned (.slice none 0 0) ∧ Cur w' g M l r s o o ∧ w.grownBy w' (some g) := by
  obtain ⟨off, cc, hc, h1, h2, h3⟩ := h.ex
  have c1 := hc.c1
  have c4 := hc.c4
  have HG := hid hg
  clear hg hc
  go_enter Tryd.func24, Tryd.ntmps24
  go_wp2_with fail
  refine h.reads.mono ?_
  rintro e w' ⟨rfl, rfl⟩
  go_wp2_with fail
  refine (get_no ws l 2 HG.out a _ c cc w hl h1 h2 h.oct ha h3).mono ?_
  rintro e w1 ⟨rfl, hB⟩
  have h' := h.below hB
  have c4' := cell_keep c4 hB
  clear h3 c4
  go_wp2_with fail
  refine (h'.fail _).mono ?_
  rintro e w2 ⟨rfl, hC, hB2⟩
  go_wp2
  go_ret
  exact ⟨rfl, hC, grownBy_then (grownBy_more (below_by_none hB)) hB2⟩
theorem row_nil (w : World) (v : Value) : Calls Tryd.prog 24 #[.pointer none, v] w fun e w' => e = .returned (.slice none 0 0) ∧ w = w' := by
  go_enter Tryd.func24, Tryd.ntmps24
  go_wp2_with (first | (go_at_call 38; refine (reads_nil _).mono ?_; rintro e w' ⟨rfl, rfl⟩))
  go_ret
  exact ⟨rfl, rfl⟩

theorem getW_one {x : Nat} (h1 : 1 ≤ x) (h8 : x ≤ 8) {l : List Int} : getW [(x : Int)] l = if l.length < x then .error 1 else .ok [numL (l.take x)] := by
  have hw : isW (x : Int) = true := by simp [isW]; omega
  have hr : rightW [(x : Int)] = true := by simp [rightW, allW, hw]
  rw [getW, if_pos hr, getL_cons, Int.natAbs_natCast, if_pos (show (0 : Int) < x by omega)]
  rfl
theorem sizeL_one (x : Nat) : sizeL [(x : Int)] = x := by simp [sizeL]

end
end Go.Proofs.YtkgjmpcdndohpaaDoor
