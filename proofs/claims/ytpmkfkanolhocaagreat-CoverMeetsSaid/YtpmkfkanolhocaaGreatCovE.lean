/- Layer 11, pure: two values that are put together. -/
import Derived.Test.YtpmkfkanolhocaaGreatCovD
namespace Go.Proofs.YtpmkfkanolhocaaGreat
open Go.RowKit
set_option linter.unusedVariables false
set_option maxRecDepth 100000

theorem orL_length (a b : List Int) (n : Nat) : (orL a b n).length = n := by simp [orL]
theorem orL_oct (a b : List Int) (n : Nat) : Octets (orL a b n) := by
  intro x hx
  unfold orL at hx
  obtain ⟨i, _, rfl⟩ := List.mem_map.1 hx
  exact or_range _ _
theorem orL_getD (a b : List Int) {n i : Nat} (hi : i < n) : (orL a b n).getD i 0 = bits BinOp.or IntKind.u8 (a.getD i 0) (b.getD i 0) := by
  unfold orL
  rw [List.getD_eq_getElem?_getD, List.getElem?_map, List.getElem?_range hi]
  rfl
theorem orL_bit {a b : List Int} {n k : Nat} (ha : a.length = n) (hb : b.length = n) (oa : Octets a) (ob : Octets b) (hk : k < 8 * n) : bit11 (orL a b n) k = (bit11 a k || bit11 b k) := by
  unfold bit11
  rw [orL_length, orL_getD a b (by omega), ha, hb, or_bits (oct_getD oa _) (oct_getD ob _)]

section
variable {o y : Ox9}
theorem both_len (o y : Ox9) : (both11 o y).v.length = o.v.length := orL_length _ _ _
theorem both_oct (o y : Ox9) : Octets (both11 o y).v ∧ Octets (both11 o y).m := by
  refine ⟨orL_oct _ _ _, ?_⟩
  unfold both11
  simp only
  split
  · exact orL_oct _ _ _
  · intro x hx; cases hx
theorem both_vb (ho : OkV o) (hy : OkV y) (hl : o.v.length = y.v.length) {k : Nat} (hk : k < 8 * o.v.length) : vb (both11 o y) k = (vb o k || vb y k) := orL_bit rfl hl.symm ho.ov hy.ov hk
theorem both_alike (o y : Ox9) : alike9 (both11 o y) o = true := by rw [alike_iff9]; exact ⟨rfl, rfl, rfl⟩
/-- the mask of both: where one of them has a 1, or everywhere, where that is full -/
theorem both_mb (ho : OkV o) (hy : OkV y) (hl : o.v.length = y.v.length) {k : Nat} (hk : k < 8 * o.v.length) :
    mb (both11 o y) k = (mb o k || mb y k) ∨ (nbits11 o ≤ k ∧ mb (both11 o y) k = true) := by
  have hor : bit11 (orL (mask11 o) (mask11 y) o.v.length) k = (mb o k || mb y k) := orL_bit ho.ml (by rw [hy.ml, hl]) ho.mo hy.mo hk
  cases hH : (o.H && y.H && !full11 o y)
  · have hb : (both11 o y).H = false := hH
    have hm : mb (both11 o y) k = true := mb_none hb (by rw [both_len]; exact hk)
    by_cases hn : nbits11 o ≤ k
    · exact .inr ⟨hn, hm⟩
    · left
      rw [hm]
      cases h1 : o.H
      · rw [mb_none h1 hk]; rfl
      · cases h2 : y.H
        · rw [mb_none h2 (by omega), Bool.or_true]
        · rw [h1, h2] at hH
          have hf : full11 o y = true := by simpa using hH
          unfold full11 onesB at hf
          rw [List.all_eq_true] at hf
          have := hf k (by simp; omega)
          rw [← hor]
          exact this.symm
  · left
    unfold mb
    have hb : (both11 o y).H = true := hH
    have e : mask11 (both11 o y) = orL (mask11 o) (mask11 y) o.v.length := by
      unfold mask11
      rw [hb]
      unfold both11
      simp only
      rw [hH]
      rfl
    rw [e]
    exact hor
theorem off_mask (h : OkV o) {k : Nat} (hk : k < 8 * o.v.length) (hm : mb o k = false) : vb o k = false := by
  cases hv : vb o k
  · rfl
  · rw [h.inside hk hv] at hm; cases hm
/-- what both take together is what each takes -/
theorem both_taken {x : Ox9} (ho : OkV o) (hy : OkV y) (hx : OkV x) (hB : OkV (both11 o y)) (hal : alike9 o y = true) (hc : clash11 o y = false) : taken11 (both11 o y) x = (taken11 o x && taken11 y x) := by
  obtain ⟨hl, hcl⟩ := (clash_iff ho hy hal).1 hc
  rw [Bool.eq_iff_iff, Bool.and_eq_true, taken_iff hB hx, taken_iff ho hx, taken_iff hy hx, both_len]
  have hab : alike9 (both11 o y) x = true ↔ alike9 o x = true := by rw [alike_iff9, alike_iff9]; rfl
  constructor
  · rintro ⟨h1, h2, h3, h4⟩
    have h1' := hab.1 h1
    refine ⟨⟨h1', h2, h3, fun k hk hm => ?_⟩, alike_trans9 (by rw [alike_symm9]; exact hal) h1', h2, by omega, fun k hk hm => ?_⟩
    · have hmb : mb (both11 o y) k = true := by
        rcases both_mb ho hy hl hk with e | ⟨_, e⟩
        · rw [e, hm]; rfl
        · exact e
      have e := h4 k hk hmb
      rw [both_vb ho hy hl hk] at e
      rw [← e]
      cases hvy : vb y k
      · simp
      · have := hcl k hk hm (hy.inside (by omega) hvy)
        rw [this, hvy]; rfl
    · have hk' : k < 8 * o.v.length := by omega
      have hmb : mb (both11 o y) k = true := by
        rcases both_mb ho hy hl hk' with e | ⟨_, e⟩
        · rw [e, hm, Bool.or_true]
        · exact e
      have e := h4 k hk' hmb
      rw [both_vb ho hy hl hk'] at e
      rw [← e]
      cases hvo : vb o k
      · simp
      · have := hcl k hk' (ho.inside hk' hvo) hm
        rw [← this, hvo]; rfl
  · rintro ⟨⟨h1, h2, h3, h4⟩, _, _, _, h5⟩
    refine ⟨hab.2 h1, h2, h3, fun k hk hm => ?_⟩
    rw [both_vb ho hy hl hk]
    have low : (mb o k || mb y k) = true → (vb o k || vb y k) = vb x k := by
      intro hh
      cases hmo : mb o k
      · have hmy : mb y k = true := by rw [hmo] at hh; simpa using hh
        rw [off_mask ho hk hmo, Bool.false_or]
        exact h5 k (by omega) hmy
      · rw [h4 k hk hmo]
        cases hmy : mb y k
        · rw [off_mask hy (by omega) hmy, Bool.or_false]
        · rw [h5 k (by omega) hmy, Bool.or_self]
    rcases both_mb ho hy hl hk with e | ⟨hn, _⟩
    · rw [e] at hm; exact low hm
    · by_cases hC : o.C = 32768
      · have hy' := (alike_iff9 o y).1 hal
        have hx' := (alike_iff9 o x).1 h1
        rw [(ho.above hC hk hn).1, (hy.above (by rw [← hy'.1]; exact hC) (by omega) (by rw [← alike_nb hal hl]; exact hn)).1, (hx.above (by rw [← hx'.1]; exact hC) (by omega) (by rw [← alike_nb h1 h3]; exact hn)).1]
        rfl
      · rw [nb_extra hC] at hn; omega
/-- both together are within each -/
theorem both_over (ho : OkV o) (hy : OkV y) (hB : OkV (both11 o y)) (hal : alike9 o y = true) (hc : clash11 o y = false) : over11 (both11 o y) o = true ∧ over11 (both11 o y) y = true := by
  obtain ⟨hl, hcl⟩ := (clash_iff ho hy hal).1 hc
  constructor
  · refine (over_iff hB ho).2 ⟨both_alike o y, both_len o y, fun k hk hm => ?_⟩
    rw [both_len] at hk
    refine ⟨?_, ?_⟩
    · rcases both_mb ho hy hl hk with e | ⟨_, e⟩
      · rw [e, hm]; rfl
      · exact e
    · rw [both_vb ho hy hl hk]
      cases hvy : vb y k
      · simp
      · rw [hcl k hk hm (hy.inside (by omega) hvy), hvy]; rfl
  · refine (over_iff hB hy).2 ⟨alike_trans9 (both_alike o y) hal, by rw [both_len]; exact hl, fun k hk hm => ?_⟩
    rw [both_len] at hk
    refine ⟨?_, ?_⟩
    · rcases both_mb ho hy hl hk with e | ⟨_, e⟩
      · rw [e, hm, Bool.or_true]
      · exact e
    · rw [both_vb ho hy hl hk]
      cases hvo : vb o k
      · simp
      · rw [← hcl k hk (ho.inside hk hvo) hm, hvo]; rfl
theorem over_refl (ho : OkV o) : over11 o o = true := (over_iff ho ho).2 ⟨alike_refl9 o, rfl, fun k hk hm => ⟨hm, rfl⟩⟩
theorem over_trans {a b c : Ox9} (ha : OkV a) (hb : OkV b) (hc : OkV c) (h : over11 a b = true) (k : over11 b c = true) : over11 a c = true := by
  obtain ⟨h1, h2, h3⟩ := (over_iff ha hb).1 h
  obtain ⟨k1, k2, k3⟩ := (over_iff hb hc).1 k
  refine (over_iff ha hc).2 ⟨alike_trans9 h1 k1, by omega, fun j hj hm => ?_⟩
  obtain ⟨e1, e2⟩ := k3 j (by omega) hm
  obtain ⟨e3, e4⟩ := h3 j hj e1
  exact ⟨e3, e4.trans e2⟩
/-- what is within another one takes nothing that that one does not -/
theorem over_taken {a b x : Ox9} (ha : OkV a) (hb : OkV b) (hx : OkV x) (h : over11 a b = true) (k : taken11 a x = true) : taken11 b x = true := by
  obtain ⟨h1, h2, h3⟩ := (over_iff ha hb).1 h
  obtain ⟨k1, k2, k3, k4⟩ := (taken_iff ha hx).1 k
  refine (taken_iff hb hx).2 ⟨alike_trans9 (by rw [alike_symm9]; exact h1) k1, k2, by omega, fun j hj hm => ?_⟩
  obtain ⟨e1, e2⟩ := h3 j (by omega) hm
  rw [← e2]
  exact k4 j (by omega) e1
/-- two that clash take no value both -/
theorem clash_taken {a b x : Ox9} (ha : OkV a) (hb : OkV b) (hx : OkV x) (h : taken11 a x = true) (k : taken11 b x = true) : clash11 a b = false := by
  obtain ⟨h1, h2, h3, h4⟩ := (taken_iff ha hx).1 h
  obtain ⟨k1, k2, k3, k4⟩ := (taken_iff hb hx).1 k
  refine (clash_iff ha hb (alike_trans9 h1 (by rw [alike_symm9]; exact k1))).2 ⟨by omega, fun j hj e1 e2 => ?_⟩
  rw [h4 j hj e1, k4 j (by omega) e2]
theorem clash_self (ha : OkV o) : clash11 o o = false := (clash_iff ha ha (alike_refl9 o)).2 ⟨rfl, fun _ _ _ _ => rfl⟩
theorem clash_symm {a b : Ox9} (ha : OkV a) (hb : OkV b) : clash11 a b = clash11 b a := by
  cases hal : alike9 a b
  · have h2 : alike9 b a = false := by rw [alike_symm9]; exact hal
    unfold clash11; rw [hal, h2]; rfl
  · have h2 : alike9 b a = true := by rw [alike_symm9]; exact hal
    have key : clash11 a b = false ↔ clash11 b a = false := by
      rw [clash_iff ha hb hal, clash_iff hb ha h2]
      constructor <;> rintro ⟨e1, e2⟩ <;> exact ⟨e1.symm, fun k hk x y => (e2 k (by omega) y x).symm⟩
    cases h1 : clash11 a b <;> cases h3 : clash11 b a <;> first | rfl | (rw [h1, h3] at key; simp at key)
end
end Go.Proofs.YtpmkfkanolhocaaGreat
