/- Contracts of package cursor: Row, one, Num. -/
import Derived.Test.YtfdkkcndadjcaaaCurD
import Derived.Test.YtfdkkcndadjcaaaRowPlain
import Derived.Test.YtfdkkcndadjcaaaRowLaws
namespace Go.Proofs.Ytfdkkcndadjcaaa
open Go.RowKit

section
variable {w : World} {g M : Nat} {l : List Int} {r s o f : Int}

theorem getW_err2 {ws b : List Int} {q : Int} (h : getW ws b = .error q) : q = 1 ∨ q = 2 := by
  unfold getW at h
  split at h
  · rename_i hr
    clear hr
    induction ws generalizing b with
    | nil => simp [getL] at h
    | cons x r ih =>
      rw [getL_cons] at h
      split at h
      · left; simpa using h.symm
      · split at h
        · cases hh : getL r (b.drop x.natAbs) with
          | error e => rw [hh] at h; simp [Except.map] at h; subst h; exact ih hh
          | ok y => rw [hh] at h; simp [Except.map] at h
        · split at h
          · exact ih h
          · right; simpa using h.symm
  · right; simpa using h.symm

theorem getW_ok {ws b ns : List Int} (h : getW ws b = .ok ns) (ho : Octets b) : rightW ws = true ∧ sizeL ws ≤ b.length ∧ sizeW ws = sizeL ws ∧ U64s ns ∧ ns.length = countL ws := by
  unfold getW at h
  split at h
  · rename_i hr
    obtain ⟨_, h2, h3, h4⟩ := get_put h (rightW_all hr) ho
    exact ⟨hr, h2, by simp [sizeW, hr], h4, h3.symm⟩
  · simp at h

theorem ne_of_new {w : World} {v : Value} {g : Nat} (h : ∀ k, v.ownBlock = some k → w.heap.size ≤ k) (hg : g < w.heap.size) : v.ownBlock = none ∨ v.ownBlock ≠ some g := by
  cases hv : v.ownBlock with
  | none => exact .inl rfl
  | some k => right; have := h k hv; simp; omega

/-- what Row hands back where it reads -/
def RowPost (w : World) (g M : Nat) (ns l : List Int) (r s o f : Int) (e : Ending) (w' : World) : Prop :=
  ∃ v, e = .returned v ∧ Gives 59 w w' (some g) v (ns.map (Value.int .u64)) ∧ Cur w' g M l r s o f

theorem Cur.row_late (h : Cur w g M l r s o f) (hf : f ≠ 0) (v : Value) : Calls Try.prog 34 #[.pointer (some ⟨g, 0, none⟩), v] w fun e w' => e = .returned (.slice none 0 0) ∧ w = w' := by
  have e0 : (f == 0) = false := by simpa using hf
  clear hf
  go_enter Try.func34, Try.ntmps34
  go_wp2_with (first | (go_at_call 41; refine h.reads.mono ?_; rintro e w' ⟨rfl, rfl⟩))
  go_ret
  exact ⟨rfl, rfl⟩
theorem Cur.row_ok (h : Cur w g M l r s o 0) (ws ns : List Int) (a : Option Addr) (c : Nat) (hl : ws.length ≤ 9223372036854775807) (ha : Ints .i64 w a ws) (hg : getW ws l = .ok ns) : Calls Try.prog 34 #[.pointer (some ⟨g, 0, none⟩), .slice a ws.length c] w
    (RowPost w g M ns (l.drop (sizeL ws)) (r + sizeL ws) s o 0) := by
  obtain ⟨off, cc, hc, h1, h2, h3⟩ := h.ex
  have c1 := hc.c1
  obtain ⟨_, hsz, hsw, _, _⟩ := getW_ok hg h.oct
  have HG := hid hg
  have HS := hid hsw
  clear hg hsw hc
  go_enter Try.func34, Try.ntmps34
  go_wp2_with fail
  refine h.reads.mono ?_
  rintro e w' ⟨rfl, rfl⟩
  go_wp2_with fail
  refine (get_any ws l a _ c cc w hl h1 h2 h.oct ha h3).mono ?_
  rintro e w1 (⟨q, hq, _⟩ | ⟨ns', v, hq, rfl, hf⟩)
  · rw [HG.out] at hq; simp at hq
  · obtain rfl : ns = ns' := by have := HG.out; rw [hq] at this; simpa using this.symm
    have h' := h.below hf.bel
    clear hq h3
    go_wp2_with fail
    refine (size_any ws a c w1 hl (ha.below hf.bel)).mono ?_
    rintro e w2 ⟨rfl, rfl⟩
    rw [HS.out]
    go_wp2_with fail
    refine (h'.take_ok hsz).mono ?_
    rintro e w2 ⟨off2, c2, rfl, _, _, _, hC, hB⟩
    go_wp2
    go_ret
    exact ⟨v, rfl, ⟨hf.own.kept hB (ne_of_new hf.new h.block_lt), grownBy_then (grownBy_more (below_by_none hf.bel)) hB, hf.new⟩, hC⟩
theorem Cur.row_short (h : Cur w g M l r s o 0) (ws : List Int) (a : Option Addr) (c : Nat) (hl : ws.length ≤ 9223372036854775807) (ha : Ints .i64 w a ws) (hg : getW ws l = .error 1) : Calls Try.prog 34 #[.pointer (some ⟨g, 0, none⟩), .slice a ws.length c] w
    fun e w' => e = .returned (.slice none 0 0) ∧ Cur w' g M l r s o s ∧ w.grownBy w' (some g) := by
  obtain ⟨off, cc, hc, h1, h2, h3⟩ := h.ex
  have c1 := hc.c1
  have c3 := hc.c3
  have HG := hid hg
  clear hg hc
  go_enter Try.func34, Try.ntmps34
  go_wp2_with fail
  refine h.reads.mono ?_
  rintro e w' ⟨rfl, rfl⟩
  go_wp2_with fail
  refine (get_no ws l 1 HG.out a _ c cc w hl h1 h2 h.oct ha h3).mono ?_
  rintro e w1 ⟨rfl, hB⟩
  have h' := h.below hB
  have c3' := cell_keep c3 hB
  clear h3 c3
  go_wp2_with fail
  refine (h'.fail _).mono ?_
  rintro e w2 ⟨rfl, hC, hB2⟩
  go_wp2
  go_ret
  exact ⟨rfl, hC, grownBy_then (grownBy_more (below_by_none hB)) hB2⟩
theorem Cur.row_odd (h : Cur w g M l r s o 0) (ws : List Int) (a : Option Addr) (c : Nat) (hl : ws.length ≤ 9223372036854775807) (ha : Ints .i64 w a ws) (hg : getW ws l = .error 2) : Calls Try.prog 34 #[.pointer (some ⟨g, 0, none⟩), .slice a ws.length c] w
    fun e w' => e = .returned (.slice none 0 0) ∧ Cur w' g M l r s o o ∧ w.grownBy w' (some g) := by
  obtain ⟨off, cc, hc, h1, h2, h3⟩ := h.ex
  have c1 := hc.c1
  have c4 := hc.c4
  have HG := hid hg
  clear hg hc
  go_enter Try.func34, Try.ntmps34
  go_wp2_with fail
  refine h.reads.mono ?_
  rintro e w' ⟨rfl, rfl⟩
  go_wp2_with fail
  refine (get_no ws l 2 HG.out a _ c cc w hl h1 h2 h.oct ha h3).mono ?_
  rintro e w1 ⟨rfl, hB⟩
  have h' := h.below hB
  have c4' := cell_keep c4 hB
  clear h3 c4
  go_wp2_with fail
  refine (h'.fail _).mono ?_
  rintro e w2 ⟨rfl, hC, hB2⟩
  go_wp2
  go_ret
  exact ⟨rfl, hC, grownBy_then (grownBy_more (below_by_none hB)) hB2⟩
theorem row_nil (w : World) (v : Value) : Calls Try.prog 34 #[.pointer none, v] w fun e w' => e = .returned (.slice none 0 0) ∧ w = w' := by
  go_enter Try.func34, Try.ntmps34
  go_wp2_with (first | (go_at_call 41; refine (reads_nil _).mono ?_; rintro e w' ⟨rfl, rfl⟩))
  go_ret
  exact ⟨rfl, rfl⟩

theorem getW_one {x : Nat} (h1 : 1 ≤ x) (h8 : x ≤ 8) {l : List Int} : getW [(x : Int)] l = if l.length < x then .error 1 else .ok [numL (l.take x)] := by
  have hw : isW (x : Int) = true := by simp [isW]; omega
  have hr : rightW [(x : Int)] = true := by simp [rightW, allW, hw]
  rw [getW, if_pos hr, getL_cons, Int.natAbs_natCast, if_pos (show (0 : Int) < x by omega)]
  rfl
theorem sizeL_one (x : Nat) : sizeL [(x : Int)] = x := by simp [sizeL]

theorem one_late (h : Cur w g M l r s o f) (hf : f ≠ 0) (n : Int) : Calls Try.prog 40 #[.func (.func 34) #[.pointer (some ⟨g, 0, none⟩)] #[], .int .i64 n] w fun e w' => e = .returned (.int .u64 0) ∧ Below w.heap.size w w' := by
  have H := hid hf
  clear hf
  go_enter Try.func40, Try.ntmps40
  go_wp2_with (go_at_call 34; refine ((h.below (below_alloc _ _)).row_late H.out _).mono ?_; rintro e w' ⟨rfl, rfl⟩)
  go_ret
  exact ⟨rfl, below_alloc _ _⟩
theorem one_short (h : Cur w g M l r s o 0) {n : Nat} (h1 : 1 ≤ n) (h8 : n ≤ 8) (hn : l.length < n) : Calls Try.prog 40 #[.func (.func 34) #[.pointer (some ⟨g, 0, none⟩)] #[], .int .i64 n] w fun e w' => e = .returned (.int .u64 0) ∧ Cur w' g M l r s o s ∧ w.grownBy w' (some g) := by
  have HG := hid (show getW [(n : Int)] l = .error 1 by rw [getW_one h1 h8, if_pos hn])
  go_enter Try.func40, Try.ntmps40
  go_wp2_with (go_at_call 34; refine ((h.below (below_alloc _ _)).row_short [(n : Int)] (some ⟨w.heap.size, 0, none⟩) 1 (by simp) (ints_one _ _ _ _) HG.out).mono ?_; rintro e w' ⟨rfl, hC, hB⟩)
  go_ret
  exact ⟨rfl, hC, grownBy_then (grownBy_more (by_none_alloc _ _)) hB⟩
theorem one_ok (h : Cur w g M l r s o 0) {n : Nat} (h1 : 1 ≤ n) (h8 : n ≤ 8) (hn : n ≤ l.length) : Calls Try.prog 40 #[.func (.func 34) #[.pointer (some ⟨g, 0, none⟩)] #[], .int .i64 n] w fun e w' => e = .returned (.int .u64 (numL (l.take n))) ∧ Cur w' g M (l.drop n) (r + n) s o 0 ∧ w.grownBy w' (some g) := by
  have HG := hid (show getW [(n : Int)] l = .ok [numL (l.take n)] by rw [getW_one h1 h8, if_neg (by omega)])
  go_enter Try.func40, Try.ntmps40
  go_wp2_with fail
  refine ((h.below (below_alloc _ _)).row_ok [(n : Int)] [numL (l.take n)] (some ⟨w.heap.size, 0, none⟩) 1 (by simp) (ints_one _ _ _ _) HG.out).mono ?_
  rintro e w' ⟨v, rfl, hG, hC⟩
  obtain ⟨a, c, rfl, hlc, _, hI⟩ := own_ints hG.own
  obtain ⟨b, off, x, rfl, hcell, hx⟩ := hI.at (i := 0) (by simp)
  obtain rfl : numL (l.take n) = x := by simpa [Hid] using hx
  rw [sizeL_one] at hC
  rw [Nat.add_zero] at hcell
  simp only [List.length_singleton] at *
  have HB := hid hG.by_
  clear hG hx hI
  go_wp2
  go_ret
  exact ⟨rfl, hC, grownBy_then (grownBy_more (by_none_alloc _ _)) HB.out⟩

theorem Cur.num_late (h : Cur w g M l r s o f) (hf : f ≠ 0) (n : Int) : Calls Try.prog 29 #[.pointer (some ⟨g, 0, none⟩), .int .i64 n] w fun e w' => e = .returned (.int .u64 0) ∧ Below w.heap.size w w' := by
  have H := hid hf
  clear hf
  by_cases h1 : n < 1
  · go_enter Try.func29, Try.ntmps29
    go_wp2_with (go_at_call 31; refine (h.fail_late H.out _).mono ?_; rintro e w' ⟨rfl, rfl⟩)
    go_ret
    exact ⟨rfl, Below.refl _ _⟩
  · by_cases h8 : 8 < n
    · go_enter Try.func29, Try.ntmps29
      go_wp2_with (go_at_call 31; refine (h.fail_late H.out _).mono ?_; rintro e w' ⟨rfl, rfl⟩)
      go_ret
      exact ⟨rfl, Below.refl _ _⟩
    · have hmf : ∀ (fn : Fn) (first cap : Array Value) (w : World), (Instr.makeFunc fn first cap).run Try.prog w = .ok (.func fn first cap) w := fun _ _ _ _ => rfl
      go_enter Try.func29, Try.ntmps29
      go_wp2_with (go_at_call 40; refine (one_late h H.out _).mono ?_; rintro e w' ⟨rfl, hB⟩)
      go_ret
      exact ⟨rfl, hB⟩
theorem Cur.num_bad (h : Cur w g M l r s o 0) {n : Int} (hn : n < 1 ∨ 8 < n) : Calls Try.prog 29 #[.pointer (some ⟨g, 0, none⟩), .int .i64 n] w fun e w' => e = .returned (.int .u64 0) ∧ Cur w' g M l r s o 10001 ∧ w.grownBy w' (some g) := by
  by_cases h1 : n < 1
  · go_enter Try.func29, Try.ntmps29
    go_wp2_with (go_at_call 31; refine (h.fail _).mono ?_; rintro e w' ⟨rfl, hC, hB⟩)
    go_ret
    exact ⟨rfl, hC, hB⟩
  · have h8 : 8 < n := by omega
    clear hn
    go_enter Try.func29, Try.ntmps29
    go_wp2_with (go_at_call 31; refine (h.fail _).mono ?_; rintro e w' ⟨rfl, hC, hB⟩)
    go_ret
    exact ⟨rfl, hC, hB⟩
theorem Cur.num_short (h : Cur w g M l r s o 0) {n : Nat} (h1 : 1 ≤ n) (h8 : n ≤ 8) (hn : l.length < n) : Calls Try.prog 29 #[.pointer (some ⟨g, 0, none⟩), .int .i64 n] w fun e w' => e = .returned (.int .u64 0) ∧ Cur w' g M l r s o s ∧ w.grownBy w' (some g) := by
  have hmf : ∀ (fn : Fn) (first cap : Array Value) (w : World), (Instr.makeFunc fn first cap).run Try.prog w = .ok (.func fn first cap) w := fun _ _ _ _ => rfl
  have i1 : ¬ (n : Int) < 1 := by omega
  have i8 : ¬ 8 < (n : Int) := by omega
  go_enter Try.func29, Try.ntmps29
  go_wp2_with (go_at_call 40; refine (one_short h h1 h8 hn).mono ?_; rintro e w' ⟨rfl, hC, hB⟩)
  go_ret
  exact ⟨rfl, hC, hB⟩
theorem Cur.num_ok (h : Cur w g M l r s o 0) {n : Nat} (h1 : 1 ≤ n) (h8 : n ≤ 8) (hn : n ≤ l.length) : Calls Try.prog 29 #[.pointer (some ⟨g, 0, none⟩), .int .i64 n] w fun e w' => e = .returned (.int .u64 (numL (l.take n))) ∧ Cur w' g M (l.drop n) (r + n) s o 0 ∧ w.grownBy w' (some g) := by
  have hmf : ∀ (fn : Fn) (first cap : Array Value) (w : World), (Instr.makeFunc fn first cap).run Try.prog w = .ok (.func fn first cap) w := fun _ _ _ _ => rfl
  have i1 : ¬ (n : Int) < 1 := by omega
  have i8 : ¬ 8 < (n : Int) := by omega
  go_enter Try.func29, Try.ntmps29
  go_wp2_with (go_at_call 40; refine (one_ok h h1 h8 hn).mono ?_; rintro e w' ⟨rfl, hC, hB⟩)
  go_ret
  exact ⟨rfl, hC, hB⟩
theorem num_nil (w : World) {n : Nat} (h1 : 1 ≤ n) (h8 : n ≤ 8) : Calls Try.prog 29 #[.pointer none, .int .i64 n] w fun e w' => e = .returned (.int .u64 0) ∧ Below w.heap.size w w' := by
  have hmf : ∀ (fn : Fn) (first cap : Array Value) (w : World), (Instr.makeFunc fn first cap).run Try.prog w = .ok (.func fn first cap) w := fun _ _ _ _ => rfl
  have i1 : ¬ (n : Int) < 1 := by omega
  have i8 : ¬ 8 < (n : Int) := by omega
  go_enter Try.func29, Try.ntmps29
  go_wp2_with (first | (go_at_call 34; refine (row_nil _ _).mono ?_; rintro e w' ⟨rfl, rfl⟩) | go_in)
  go_ret
  exact ⟨rfl, below_alloc _ _⟩
end
end Go.Proofs.Ytfdkkcndadjcaaa
