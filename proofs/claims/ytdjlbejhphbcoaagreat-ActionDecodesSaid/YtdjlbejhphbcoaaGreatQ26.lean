/- Put together out of several texts. -/
import Derived.Test.YtdjlbejhphbcoaaGreatQ18
import Derived.Test.YtdjlbejhphbcoaaGreatQ25
import Derived.WalkMore
import Derived.Test.YtdjlbejhphbcoaaGreatQ23
import Derived.Test.YtdjlbejhphbcoaaGreatQ27
import Derived.Test.YtdjlbejhphbcoaaGreatQ4
namespace Go.Proofs.YtdjlbejhphbcoaaGreat
open Go.RowKit
set_option linter.unusedVariables false

/-- what the document's reading of the field that is set comes to -/
def RefSetPost12 (R : Except Int Ox9) (w : World) (e : Ending) (w' : World) : Prop :=
  (∃ (q C F : Int) (H : Bool) (X : Int) (va : Option Addr) (vl vc : Nat) (ma : Option Addr) (ml mc : Nat), R = .error q ∧ q ≠ 0 ∧ e = .returned (.tuple #[.agg #[.int .i64 C, .int .i64 F, .bool H, .int .u64 X, .slice va vl vc, .slice ma ml mc], .int .i64 q]) ∧ Below w.heap.size w w') ∨
  (∃ o a1 k1 a2 k2, R = .ok o ∧ e = .returned (.tuple #[.agg #[.int .i64 o.C, .int .i64 o.F, .bool o.H, .int .u64 o.X, .slice a1 o.v.length k1, .slice a2 o.m.length k2], .int .i64 0]) ∧ Below w.heap.size w w' ∧ Ints .u8 w' a1 o.v ∧ Ints .u8 w' a2 o.m ∧ o.m.length ≤ k2 ∧ New8 w a1 ∧ New8 w a2)
theorem zeros_snoc12 {l : List Int} {k : Nat} {x : Int} (h : zeros (l.take k) = true) (hx : l[k]? = some x) (h0 : x = 0) : zeros (l.take (k + 1)) = true := by
  rw [List.take_add_one, hx]
  unfold zeros at h ⊢
  simp only [List.all_append, h, Bool.true_and]
  simp [h0]
theorem zeros_not12 {l : List Int} {k : Nat} {x : Int} (hx : l[k]? = some x) (h0 : x ≠ 0) : zeros l = false := by
  unfold zeros
  rw [List.all_eq_false]
  exact ⟨x, List.mem_of_getElem? hx, by simpa using h0⟩
set_option maxRecDepth 100000 in
set_option maxHeartbeats 2000000 in
theorem refSet_no (b : List Int) (a : Option Addr) (c : Nat) (hbl : b.length ≤ 2000) (hbc : b.length ≤ c) (hc : c ≤ 9223372036854775807) (ho : Octets b) (w : World) (hI : Ints .u8 w a b) (q : Int) (hq : decL b = .error q) :
    Calls Tryz.prog 58 #[.slice a b.length c] w (RefSetPost12 (set12 b) w) := by
  obtain ⟨W, hW, hbW, hx⟩ := oxm_box w 0 0 false 0 none 0 0 none 0 0
  have HW := hid hW
  have HB := hid hbW
  have DE := hid (refDecode8_any b a c hbc hc ho hbl W (hI.below hbW))
  have HS := hid (set12_no hq)
  have HQ := hid hq
  clear hW hbW ho hI hq
  have HQ0 : Hid (q ≠ 0) := dec_err_pos10 HQ.out
  have ways : q = 1026 ∨ q = 1031 ∨ (q ≠ 1026 ∧ q ≠ 1031) := by omega
  rcases ways with hq1 | hq1 | ⟨hq1, hq2⟩
  · subst hq1
    go_enter Tryz.func58, Tryz.ntmps58
    go_wp2_with fail
    rw [HW.out]
    refine DE.out.mono ?_
    rintro e w1 (⟨q', hq', hq0, rfl, hb1⟩ | ⟨o, _, _, _, _, hq', _⟩)
    case inr => rw [HQ.out] at hq'; cases hq'
    rw [HQ.out] at hq'
    injection hq' with hq'
    subst hq'
    have hx1 := hx.below hb1
    obtain ⟨W2, hW2, hbW2, hy⟩ := oxm_box w1 0 0 false 0 none 0 0 none 0 0
    have HW2 := hid hW2
    have hx2 := hx1.below hbW2
    have HB2 := hid (below_on (below_on HB.out hb1) hbW2)
    have hne : w.heap.size < w1.heap.size := hx1.lt
    have n1 : ¬ w1.heap.size = w.heap.size := by omega
    have n2 : ¬ w.heap.size = w1.heap.size := by omega
    have z := hx2.free
    obtain ⟨d0, d1, d2, d3, d4, d5⟩ := hx2.six
    obtain ⟨f0, f1, f2, f3, f4, f5⟩ := hy.six
    clear hW2 hbW2 hb1 hx hx1 hq0
    go_upto_region 2 with fail
    rw [HW2.out]
    go_wp2_with fail
    have hkk := hx2.set6 (.int .i64 0) (.int .i64 0) (.bool false) (.int .u64 0) (.slice none 0 0) (.slice none 0 0)
    obtain ⟨k0, k1, k2, k3, k4, k5⟩ := hkk.six
    refine bodyPost_ret (v := .tuple #[.agg #[.int .i64 0, .int .i64 0, .bool false, .int .u64 0, .slice none 0 0, .slice none 0 0], .int .i64 527]) (by simp [results, Tryz.results58, go_sem, d0, d1, d2, d3, d4, d5]) rfl (.inl ⟨527, _, _, _, _, _, _, _, _, _, _, HS.out, by decide, rfl, ?_⟩)
    repeat (with_reducible refine Below.setCell ?_ (by simp) _)
    exact HB2.out
  · subst hq1
    go_enter Tryz.func58, Tryz.ntmps58
    go_wp2_with fail
    rw [HW.out]
    refine DE.out.mono ?_
    rintro e w1 (⟨q', hq', hq0, rfl, hb1⟩ | ⟨o, _, _, _, _, hq', _⟩)
    case inr => rw [HQ.out] at hq'; cases hq'
    rw [HQ.out] at hq'
    injection hq' with hq'
    subst hq'
    have hx1 := hx.below hb1
    obtain ⟨W2, hW2, hbW2, hy⟩ := oxm_box w1 0 0 false 0 none 0 0 none 0 0
    have HW2 := hid hW2
    have hx2 := hx1.below hbW2
    have HB2 := hid (below_on (below_on HB.out hb1) hbW2)
    have hne : w.heap.size < w1.heap.size := hx1.lt
    have n1 : ¬ w1.heap.size = w.heap.size := by omega
    have n2 : ¬ w.heap.size = w1.heap.size := by omega
    have z := hx2.free
    obtain ⟨d0, d1, d2, d3, d4, d5⟩ := hx2.six
    obtain ⟨f0, f1, f2, f3, f4, f5⟩ := hy.six
    clear hW2 hbW2 hb1 hx hx1 hq0
    go_upto_region 2 with fail
    rw [HW2.out]
    go_wp2_with fail
    have hkk := hx2.set6 (.int .i64 0) (.int .i64 0) (.bool false) (.int .u64 0) (.slice none 0 0) (.slice none 0 0)
    obtain ⟨k0, k1, k2, k3, k4, k5⟩ := hkk.six
    refine bodyPost_ret (v := .tuple #[.agg #[.int .i64 0, .int .i64 0, .bool false, .int .u64 0, .slice none 0 0, .slice none 0 0], .int .i64 526]) (by simp [results, Tryz.results58, go_sem, d0, d1, d2, d3, d4, d5]) rfl (.inl ⟨526, _, _, _, _, _, _, _, _, _, _, HS.out, by decide, rfl, ?_⟩)
    repeat (with_reducible refine Below.setCell ?_ (by simp) _)
    exact HB2.out
  · have c1 : (q == 1026) = false := by simpa using hq1
    have c2 : (q == 1031) = false := by simpa using hq2
    have c3 : (q != 0) = true := by simpa using HQ0.out
    rw [if_neg hq1, if_neg hq2] at HS
    clear hq1 hq2
    go_enter Tryz.func58, Tryz.ntmps58
    go_wp2_with fail
    rw [HW.out]
    refine DE.out.mono ?_
    rintro e w1 (⟨q', hq', hq0, rfl, hb1⟩ | ⟨o, _, _, _, _, hq', _⟩)
    case inr => rw [HQ.out] at hq'; cases hq'
    rw [HQ.out] at hq'
    injection hq' with hq'
    subst hq'
    have hx1 := hx.below hb1
    obtain ⟨W2, hW2, hbW2, hy⟩ := oxm_box w1 0 0 false 0 none 0 0 none 0 0
    have HW2 := hid hW2
    have hx2 := hx1.below hbW2
    have HB2 := hid (below_on (below_on HB.out hb1) hbW2)
    have hne : w.heap.size < w1.heap.size := hx1.lt
    have n1 : ¬ w1.heap.size = w.heap.size := by omega
    have n2 : ¬ w.heap.size = w1.heap.size := by omega
    have z := hx2.free
    obtain ⟨d0, d1, d2, d3, d4, d5⟩ := hx2.six
    obtain ⟨f0, f1, f2, f3, f4, f5⟩ := hy.six
    clear hW2 hbW2 hb1 hx hx1 hq0
    go_upto_region 2 with fail
    rw [HW2.out]
    go_wp2_with fail
    have hkk := hx2.set6 (.int .i64 0) (.int .i64 0) (.bool false) (.int .u64 0) (.slice none 0 0) (.slice none 0 0)
    obtain ⟨k0, k1, k2, k3, k4, k5⟩ := hkk.six
    refine bodyPost_ret (v := .tuple #[.agg #[.int .i64 0, .int .i64 0, .bool false, .int .u64 0, .slice none 0 0, .slice none 0 0], .int .i64 528]) (by simp [results, Tryz.results58, go_sem, d0, d1, d2, d3, d4, d5]) rfl (.inl ⟨528, _, _, _, _, _, _, _, _, _, _, HS.out, by decide, rfl, ?_⟩)
    repeat (with_reducible refine Below.setCell ?_ (by simp) _)
    exact HB2.out
set_option maxRecDepth 100000 in
set_option maxHeartbeats 2000000 in
theorem refSet_cls (b : List Int) (M off : Nat) (c : Nat) (hbl : b.length ≤ 2000) (hbc : b.length ≤ c) (hc : c ≤ 9223372036854775807) (ho : Octets b) (w : World) (hI : Ints .u8 w (some ⟨M, off, none⟩) b) (o : Oxm8) (hq : decL b = .ok o) (hC : o.C ≠ 32768) :
    Calls Tryz.prog 58 #[.slice (some ⟨M, off, none⟩) b.length c] w (RefSetPost12 (set12 b) w) := by
  obtain ⟨W, hW, hbW, hx⟩ := oxm_box w 0 0 false 0 none 0 0 none 0 0
  have HW := hid hW
  have HB := hid hbW
  have DE := hid (refDecode8_any b _ c hbc hc ho hbl W (hI.below hbW))
  have HQ := hid hq
  have IB := hid hI
  obtain ⟨hr, hn, -, hX0⟩ := dec_right hq ho
  have HS : Hid (set12 b = .error 526) := by obtain ⟨C, F, H, X, v, m, n⟩ := o; show _ = _; rw [set12_is hq]; exact if_pos (.inl hC)
  have gC : (o.C != 32768) = true := by simpa using hC
  clear hW hbW ho hI hq hr hn hX0 hC
  obtain ⟨C, F, H, X, v, m, n⟩ := o
  simp only at *
  go_enter Tryz.func58, Tryz.ntmps58
  go_wp2_with fail
  rw [HW.out]
  refine DE.out.mono ?_
  rintro e w1 (⟨q', hq', _⟩ | ⟨o', a1, c1, a2, c2, hq', rfl, hb1, i1, i2, hmc, hn1, hn2⟩)
  · rw [HQ.out] at hq'; cases hq'
  rw [HQ.out] at hq'
  cases hq'
  simp only at i1 i2 hmc
  have hx1 := hx.below hb1
  obtain ⟨W2, hW2, hbW2, hy⟩ := oxm_box w1 C F H X a1 v.length c1 a2 m.length c2
  have HW2 := hid hW2
  have hx2 := hx1.below hbW2
  have HB2 := hid (below_on (below_on HB.out hb1) hbW2)
  have I1 := hid (i1.below hbW2)
  have I2 := hid (i2.below hbW2)
  have hsW := HB.out.size
  have HN1 : Hid (New8 w a1) := fun q hq => by have := hn1 q hq; omega
  have HN2 : Hid (New8 w a2) := fun q hq => by have := hn2 q hq; omega
  have hxl := hx.lt
  have HM1 : Hid (∀ q : Addr, a1 = some q → q.block ≠ w.heap.size) := fun q hq => by have := hn1 q hq; omega
  have HM2 : Hid (∀ q : Addr, a2 = some q → q.block ≠ w.heap.size) := fun q hq => by have := hn2 q hq; omega
  have HMC := hid hmc
  have hne : w.heap.size < w1.heap.size := hx1.lt
  have n1 : ¬ w1.heap.size = w.heap.size := by omega
  have n2 : ¬ w.heap.size = w1.heap.size := by omega
  obtain ⟨f0, f1, f2, f3, f4, f5⟩ := hy.six
  have z := hx2.free
  obtain ⟨d0, d1, d2, d3, d4, d5⟩ := hx2.six
  clear hW2 hbW2 hb1 hx hx1 hn1 hn2 i1 i2 hmc
  go_upto_region 2 with fail
  rw [HW2.out]
  go_wp2_with fail
  have hkk := hx2.set6 (.int .i64 C) (.int .i64 F) (.bool H) (.int .u64 X) (.slice a1 v.length c1) (.slice a2 m.length c2)
  obtain ⟨k0, k1, k2, k3, k4, k5⟩ := hkk.six
  refine bodyPost_ret (v := .tuple #[.agg #[.int .i64 C, .int .i64 F, .bool H, .int .u64 X, .slice a1 v.length c1, .slice a2 m.length c2], .int .i64 526]) (by simp [results, Tryz.results58, go_sem, k0, k1, k2, k3, k4, k5]) rfl (.inl ⟨526, _, _, _, _, _, _, _, _, _, _, HS.out, by decide, rfl, ?_⟩)
  repeat (with_reducible refine Below.setCell ?_ (by simp) _)
  exact HB2.out
set_option maxRecDepth 100000 in
set_option maxHeartbeats 2000000 in
theorem refSet_fld (b : List Int) (M off : Nat) (c : Nat) (hbl : b.length ≤ 2000) (hbc : b.length ≤ c) (hc : c ≤ 9223372036854775807) (ho : Octets b) (w : World) (hI : Ints .u8 w (some ⟨M, off, none⟩) b) (o : Oxm8) (hq : decL b = .ok o) (hC : o.C = 32768) (hF : ¬ (2 < o.F ∧ o.F < 39)) :
    Calls Tryz.prog 58 #[.slice (some ⟨M, off, none⟩) b.length c] w (RefSetPost12 (set12 b) w) := by
  obtain ⟨W, hW, hbW, hx⟩ := oxm_box w 0 0 false 0 none 0 0 none 0 0
  have HW := hid hW
  have HB := hid hbW
  have DE := hid (refDecode8_any b _ c hbc hc ho hbl W (hI.below hbW))
  have HQ := hid hq
  have IB := hid hI
  obtain ⟨hr, hn, -, hX0⟩ := dec_right hq ho
  have HS : Hid (set12 b = .error 526) := by obtain ⟨C, F, H, X, v, m, n⟩ := o; show _ = _; rw [set12_is hq]; exact if_pos (.inr hF)
  have gC : (o.C != 32768) = false := by simpa using hC
  have ST := hid (fun V => fldRefSettable_any o.F V)
  rw [decide_eq_false hF] at ST
  clear hW hbW ho hI hq hr hn hX0 hC hF
  obtain ⟨C, F, H, X, v, m, n⟩ := o
  simp only at *
  go_enter Tryz.func58, Tryz.ntmps58
  go_wp2_with fail
  rw [HW.out]
  refine DE.out.mono ?_
  rintro e w1 (⟨q', hq', _⟩ | ⟨o', a1, c1, a2, c2, hq', rfl, hb1, i1, i2, hmc, hn1, hn2⟩)
  · rw [HQ.out] at hq'; cases hq'
  rw [HQ.out] at hq'
  cases hq'
  simp only at i1 i2 hmc
  have hx1 := hx.below hb1
  obtain ⟨W2, hW2, hbW2, hy⟩ := oxm_box w1 C F H X a1 v.length c1 a2 m.length c2
  have HW2 := hid hW2
  have hx2 := hx1.below hbW2
  have HB2 := hid (below_on (below_on HB.out hb1) hbW2)
  have I1 := hid (i1.below hbW2)
  have I2 := hid (i2.below hbW2)
  have hsW := HB.out.size
  have HN1 : Hid (New8 w a1) := fun q hq => by have := hn1 q hq; omega
  have HN2 : Hid (New8 w a2) := fun q hq => by have := hn2 q hq; omega
  have hxl := hx.lt
  have HM1 : Hid (∀ q : Addr, a1 = some q → q.block ≠ w.heap.size) := fun q hq => by have := hn1 q hq; omega
  have HM2 : Hid (∀ q : Addr, a2 = some q → q.block ≠ w.heap.size) := fun q hq => by have := hn2 q hq; omega
  have HMC := hid hmc
  have hne : w.heap.size < w1.heap.size := hx1.lt
  have n1 : ¬ w1.heap.size = w.heap.size := by omega
  have n2 : ¬ w.heap.size = w1.heap.size := by omega
  obtain ⟨f0, f1, f2, f3, f4, f5⟩ := hy.six
  have z := hx2.free
  obtain ⟨d0, d1, d2, d3, d4, d5⟩ := hx2.six
  clear hW2 hbW2 hb1 hx hx1 hn1 hn2 i1 i2 hmc
  go_upto_region 2 with fail
  rw [HW2.out]
  go_wp2_with fail
  refine (ST.out _).mono ?_
  rintro e w3 ⟨rfl, hb3⟩
  have hx3 := hx2.below hb3
  have hy3 := hy.below hb3
  have HB3 := hid (below_on HB2.out hb3)
  have J1 := hid (I1.out.below hb3)
  have J2 := hid (I2.out.below hb3)
  clear d0 d1 d2 d3 d4 d5 f0 f1 f2 f3 f4 f5 z hb3 hx2 hy
  obtain ⟨f0, f1, f2, f3, f4, f5⟩ := hy3.six
  have z := hx3.free
  obtain ⟨d0, d1, d2, d3, d4, d5⟩ := hx3.six
  go_wp2_with fail
  have hkk := hx3.set6 (.int .i64 C) (.int .i64 F) (.bool H) (.int .u64 X) (.slice a1 v.length c1) (.slice a2 m.length c2)
  obtain ⟨k0, k1, k2, k3, k4, k5⟩ := hkk.six
  refine bodyPost_ret (v := .tuple #[.agg #[.int .i64 C, .int .i64 F, .bool H, .int .u64 X, .slice a1 v.length c1, .slice a2 m.length c2], .int .i64 526]) (by simp [results, Tryz.results58, go_sem, k0, k1, k2, k3, k4, k5]) rfl (.inl ⟨526, _, _, _, _, _, _, _, _, _, _, HS.out, by decide, rfl, ?_⟩)
  repeat (with_reducible refine Below.setCell ?_ (by simp) _)
  exact HB3.out
set_option maxRecDepth 100000 in
set_option maxHeartbeats 2000000 in
theorem refSet_has (b : List Int) (M off : Nat) (c : Nat) (hbl : b.length ≤ 2000) (hbc : b.length ≤ c) (hc : c ≤ 9223372036854775807) (ho : Octets b) (w : World) (hI : Ints .u8 w (some ⟨M, off, none⟩) b) (o : Oxm8) (hq : decL b = .ok o) (hC : o.C = 32768) (hF : 2 < o.F ∧ o.F < 39) (hH : o.H = true) :
    Calls Tryz.prog 58 #[.slice (some ⟨M, off, none⟩) b.length c] w (RefSetPost12 (set12 b) w) := by
  obtain ⟨W, hW, hbW, hx⟩ := oxm_box w 0 0 false 0 none 0 0 none 0 0
  have HW := hid hW
  have HB := hid hbW
  have DE := hid (refDecode8_any b _ c hbc hc ho hbl W (hI.below hbW))
  have HQ := hid hq
  have IB := hid hI
  obtain ⟨hr, hn, -, hX0⟩ := dec_right hq ho
  have HS : Hid (set12 b = .error 528) := by obtain ⟨C, F, H, X, v, m, n⟩ := o; show _ = _; rw [set12_is hq, if_neg (fun k => k.elim (fun k => k hC) (fun k => k hF))]; exact if_pos hH
  have gC : (o.C != 32768) = false := by simpa using hC
  have ST := hid (fun V => fldRefSettable_any o.F V)
  rw [decide_eq_true hF] at ST
  have HHH := hid hH
  clear hW hbW ho hI hq hr hX0 hC hF hH hn
  obtain ⟨C, F, H, X, v, m, n⟩ := o
  have hH2 : H = true := HHH.out
  clear HHH
  subst hH2
  simp only at *
  go_enter Tryz.func58, Tryz.ntmps58
  go_wp2_with fail
  rw [HW.out]
  refine DE.out.mono ?_
  rintro e w1 (⟨q', hq', _⟩ | ⟨o', a1, c1, a2, c2, hq', rfl, hb1, i1, i2, hmc, hn1, hn2⟩)
  · rw [HQ.out] at hq'; cases hq'
  rw [HQ.out] at hq'
  cases hq'
  simp only at i1 i2 hmc
  have hx1 := hx.below hb1
  obtain ⟨W2, hW2, hbW2, hy⟩ := oxm_box w1 C F true X a1 v.length c1 a2 m.length c2
  have HW2 := hid hW2
  have hx2 := hx1.below hbW2
  have HB2 := hid (below_on (below_on HB.out hb1) hbW2)
  have I1 := hid (i1.below hbW2)
  have I2 := hid (i2.below hbW2)
  have hsW := HB.out.size
  have HN1 : Hid (New8 w a1) := fun q hq => by have := hn1 q hq; omega
  have HN2 : Hid (New8 w a2) := fun q hq => by have := hn2 q hq; omega
  have hxl := hx.lt
  have HM1 : Hid (∀ q : Addr, a1 = some q → q.block ≠ w.heap.size) := fun q hq => by have := hn1 q hq; omega
  have HM2 : Hid (∀ q : Addr, a2 = some q → q.block ≠ w.heap.size) := fun q hq => by have := hn2 q hq; omega
  have HMC := hid hmc
  have hne : w.heap.size < w1.heap.size := hx1.lt
  have n1 : ¬ w1.heap.size = w.heap.size := by omega
  have n2 : ¬ w.heap.size = w1.heap.size := by omega
  obtain ⟨f0, f1, f2, f3, f4, f5⟩ := hy.six
  have z := hx2.free
  obtain ⟨d0, d1, d2, d3, d4, d5⟩ := hx2.six
  clear hW2 hbW2 hb1 hx hx1 hn1 hn2 i1 i2 hmc
  go_upto_region 2 with fail
  rw [HW2.out]
  go_wp2_with fail
  refine (ST.out _).mono ?_
  rintro e w3 ⟨rfl, hb3⟩
  have hx3 := hx2.below hb3
  have hy3 := hy.below hb3
  have HB3 := hid (below_on HB2.out hb3)
  have J1 := hid (I1.out.below hb3)
  have J2 := hid (I2.out.below hb3)
  clear d0 d1 d2 d3 d4 d5 f0 f1 f2 f3 f4 f5 z hb3 hx2 hy
  obtain ⟨f0, f1, f2, f3, f4, f5⟩ := hy3.six
  have z := hx3.free
  obtain ⟨d0, d1, d2, d3, d4, d5⟩ := hx3.six
  go_wp2_with fail
  have hkk := hx3.set6 (.int .i64 C) (.int .i64 F) (.bool true) (.int .u64 X) (.slice a1 v.length c1) (.slice a2 m.length c2)
  obtain ⟨k0, k1, k2, k3, k4, k5⟩ := hkk.six
  refine bodyPost_ret (v := .tuple #[.agg #[.int .i64 C, .int .i64 F, .bool true, .int .u64 X, .slice a1 v.length c1, .slice a2 m.length c2], .int .i64 528]) (by simp [results, Tryz.results58, go_sem, k0, k1, k2, k3, k4, k5]) rfl (.inl ⟨528, _, _, _, _, _, _, _, _, _, _, HS.out, by decide, rfl, ?_⟩)
  repeat (with_reducible refine Below.setCell ?_ (by simp) _)
  exact HB3.out
set_option maxRecDepth 100000 in
set_option maxHeartbeats 2000000 in
theorem refSet_long (b : List Int) (M off : Nat) (c : Nat) (hbl : b.length ≤ 2000) (hbc : b.length ≤ c) (hc : c ≤ 9223372036854775807) (ho : Octets b) (w : World) (hI : Ints .u8 w (some ⟨M, off, none⟩) b) (o : Oxm8) (hq : decL b = .ok o) (hC : o.C = 32768) (hF : 2 < o.F ∧ o.F < 39) (hH : o.H = false) (h8 : o.n + 8 ≤ b.length) :
    Calls Tryz.prog 58 #[.slice (some ⟨M, off, none⟩) b.length c] w (RefSetPost12 (set12 b) w) := by
  obtain ⟨W, hW, hbW, hx⟩ := oxm_box w 0 0 false 0 none 0 0 none 0 0
  have HW := hid hW
  have HB := hid hbW
  have DE := hid (refDecode8_any b _ c hbc hc ho hbl W (hI.below hbW))
  have HQ := hid hq
  have IB := hid hI
  obtain ⟨hr, hn, -, hX0⟩ := dec_right hq ho
  have HS : Hid (set12 b = .error 527) := by obtain ⟨C, F, H, X, v, m, n⟩ := o; show _ = _; have hH2 : ¬ H = true := by rw [show H = false from hH]; decide
                                             rw [set12_is hq, if_neg (fun k => k.elim (fun k => k hC) (fun k => k hF)), if_neg hH2]; exact if_pos (.inl h8)
  have gC : (o.C != 32768) = false := by simpa using hC
  have ST := hid (fun V => fldRefSettable_any o.F V)
  rw [decide_eq_true hF] at ST
  have HHH := hid hH
  have g8 : (o.n : Int) + 8 ≤ (b.length : Int) := by omega
  clear hW hbW ho hI hq hr hX0 hC hF hH h8 hn
  obtain ⟨C, F, H, X, v, m, n⟩ := o
  have hH2 : H = false := HHH.out
  clear HHH
  subst hH2
  simp only at *
  go_enter Tryz.func58, Tryz.ntmps58
  go_wp2_with fail
  rw [HW.out]
  refine DE.out.mono ?_
  rintro e w1 (⟨q', hq', _⟩ | ⟨o', a1, c1, a2, c2, hq', rfl, hb1, i1, i2, hmc, hn1, hn2⟩)
  · rw [HQ.out] at hq'; cases hq'
  rw [HQ.out] at hq'
  cases hq'
  simp only at i1 i2 hmc
  have hx1 := hx.below hb1
  obtain ⟨W2, hW2, hbW2, hy⟩ := oxm_box w1 C F false X a1 v.length c1 a2 m.length c2
  have HW2 := hid hW2
  have hx2 := hx1.below hbW2
  have HB2 := hid (below_on (below_on HB.out hb1) hbW2)
  have I1 := hid (i1.below hbW2)
  have I2 := hid (i2.below hbW2)
  have hsW := HB.out.size
  have HN1 : Hid (New8 w a1) := fun q hq => by have := hn1 q hq; omega
  have HN2 : Hid (New8 w a2) := fun q hq => by have := hn2 q hq; omega
  have hxl := hx.lt
  have HM1 : Hid (∀ q : Addr, a1 = some q → q.block ≠ w.heap.size) := fun q hq => by have := hn1 q hq; omega
  have HM2 : Hid (∀ q : Addr, a2 = some q → q.block ≠ w.heap.size) := fun q hq => by have := hn2 q hq; omega
  have HMC := hid hmc
  have hne : w.heap.size < w1.heap.size := hx1.lt
  have n1 : ¬ w1.heap.size = w.heap.size := by omega
  have n2 : ¬ w.heap.size = w1.heap.size := by omega
  obtain ⟨f0, f1, f2, f3, f4, f5⟩ := hy.six
  have z := hx2.free
  obtain ⟨d0, d1, d2, d3, d4, d5⟩ := hx2.six
  clear hW2 hbW2 hb1 hx hx1 hn1 hn2 i1 i2 hmc
  go_upto_region 2 with fail
  rw [HW2.out]
  go_wp2_with fail
  refine (ST.out _).mono ?_
  rintro e w3 ⟨rfl, hb3⟩
  have hx3 := hx2.below hb3
  have hy3 := hy.below hb3
  have HB3 := hid (below_on HB2.out hb3)
  have J1 := hid (I1.out.below hb3)
  have J2 := hid (I2.out.below hb3)
  clear d0 d1 d2 d3 d4 d5 f0 f1 f2 f3 f4 f5 z hb3 hx2 hy
  obtain ⟨f0, f1, f2, f3, f4, f5⟩ := hy3.six
  have z := hx3.free
  obtain ⟨d0, d1, d2, d3, d4, d5⟩ := hx3.six
  go_wp2_with fail
  have hkk := hx3.set6 (.int .i64 C) (.int .i64 F) (.bool false) (.int .u64 X) (.slice a1 v.length c1) (.slice a2 m.length c2)
  obtain ⟨k0, k1, k2, k3, k4, k5⟩ := hkk.six
  refine bodyPost_ret (v := .tuple #[.agg #[.int .i64 C, .int .i64 F, .bool false, .int .u64 X, .slice a1 v.length c1, .slice a2 m.length c2], .int .i64 527]) (by simp [results, Tryz.results58, go_sem, k0, k1, k2, k3, k4, k5]) rfl (.inl ⟨527, _, _, _, _, _, _, _, _, _, _, HS.out, by decide, rfl, ?_⟩)
  repeat (with_reducible refine Below.setCell ?_ (by simp) _)
  exact HB3.out
set_option maxRecDepth 100000 in
set_option maxHeartbeats 2000000 in
theorem refSet_loop (b : List Int) (M off : Nat) (c : Nat) (hbl : b.length ≤ 2000) (hbc : b.length ≤ c) (hc : c ≤ 9223372036854775807) (ho : Octets b) (w : World) (hI : Ints .u8 w (some ⟨M, off, none⟩) b) (o : Oxm8) (hq : decL b = .ok o) (hC : o.C = 32768) (hF : 2 < o.F ∧ o.F < 39) (hH : o.H = false) (h8 : ¬ o.n + 8 ≤ b.length) :
    Calls Tryz.prog 58 #[.slice (some ⟨M, off, none⟩) b.length c] w (RefSetPost12 (set12 b) w) := by
  obtain ⟨W, hW, hbW, hx⟩ := oxm_box w 0 0 false 0 none 0 0 none 0 0
  have HW := hid hW
  have HB := hid hbW
  have DE := hid (refDecode8_any b _ c hbc hc ho hbl W (hI.below hbW))
  have HQ := hid hq
  have IB := hid hI
  obtain ⟨hr, hn, -, hX0⟩ := dec_right hq ho
  have HS0 : Hid (set12 b = if zeros (b.drop o.n) = false then .error 528 else .ok (ox12 o)) := by
    obtain ⟨C, F, H, X, v, m, n⟩ := o
    show _ = _
    have hH2 : ¬ H = true := by rw [show H = false from hH]; decide
    rw [set12_is hq, if_neg (fun k => k.elim (fun k => k hC) (fun k => k hF)), if_neg hH2, if_neg (by have h1 : n ≤ b.length := hn; have h2 : ¬ n + 8 ≤ b.length := h8; omega)]
    rfl
  have gC : (o.C != 32768) = false := by simpa using hC
  have ST := hid (fun V => fldRefSettable_any o.F V)
  rw [decide_eq_true hF] at ST
  have HHH := hid hH
  have g8 : ¬ (o.n : Int) + 8 ≤ (b.length : Int) := by omega
  have g9 : ¬ (b.length : Int) < (o.n : Int) := by omega
  clear hW hbW ho hI hq hr hX0 hC hF hH h8
  obtain ⟨C, F, H, X, v, m, n⟩ := o
  have hH2 : H = false := HHH.out
  clear HHH
  subst hH2
  simp only at *
  go_enter Tryz.func58, Tryz.ntmps58
  go_wp2_with fail
  rw [HW.out]
  refine DE.out.mono ?_
  rintro e w1 (⟨q', hq', _⟩ | ⟨o', a1, c1, a2, c2, hq', rfl, hb1, i1, i2, hmc, hn1, hn2⟩)
  · rw [HQ.out] at hq'; cases hq'
  rw [HQ.out] at hq'
  cases hq'
  simp only at i1 i2 hmc
  have hx1 := hx.below hb1
  obtain ⟨W2, hW2, hbW2, hy⟩ := oxm_box w1 C F false X a1 v.length c1 a2 m.length c2
  have HW2 := hid hW2
  have hx2 := hx1.below hbW2
  have HB2 := hid (below_on (below_on HB.out hb1) hbW2)
  have I1 := hid (i1.below hbW2)
  have I2 := hid (i2.below hbW2)
  have hsW := HB.out.size
  have HN1 : Hid (New8 w a1) := fun q hq => by have := hn1 q hq; omega
  have HN2 : Hid (New8 w a2) := fun q hq => by have := hn2 q hq; omega
  have hxl := hx.lt
  have HM1 : Hid (∀ q : Addr, a1 = some q → q.block ≠ w.heap.size) := fun q hq => by have := hn1 q hq; omega
  have HM2 : Hid (∀ q : Addr, a2 = some q → q.block ≠ w.heap.size) := fun q hq => by have := hn2 q hq; omega
  have HMC := hid hmc
  have hne : w.heap.size < w1.heap.size := hx1.lt
  have n1 : ¬ w1.heap.size = w.heap.size := by omega
  have n2 : ¬ w.heap.size = w1.heap.size := by omega
  obtain ⟨f0, f1, f2, f3, f4, f5⟩ := hy.six
  have z := hx2.free
  obtain ⟨d0, d1, d2, d3, d4, d5⟩ := hx2.six
  clear hW2 hbW2 hb1 hx hx1 hn1 hn2 i1 i2 hmc
  go_upto_region 2 with fail
  rw [HW2.out]
  go_wp2_with fail
  refine (ST.out _).mono ?_
  rintro e w3 ⟨rfl, hb3⟩
  have hx3 := hx2.below hb3
  have hy3 := hy.below hb3
  have HB3 := hid (below_on HB2.out hb3)
  have J1 := hid (I1.out.below hb3)
  have J2 := hid (I2.out.below hb3)
  clear d0 d1 d2 d3 d4 d5 f0 f1 f2 f3 f4 f5 z hb3 hx2 hy
  obtain ⟨f0, f1, f2, f3, f4, f5⟩ := hy3.six
  have z := hx3.free
  obtain ⟨d0, d1, d2, d3, d4, d5⟩ := hx3.six
  go_wp2_with fail
  clear d0 d1 d2 d3 d4 d5 f0 f1 f2 f3 f4 f5 z
  go_loopg [7] (b.length - n) (fun kx s7 wr => ∃ (i : Nat), s7 = .int .i64 i ∧ n ≤ i ∧ i ≤ b.length ∧ b.length - i ≤ kx ∧ Hid (zeros ((b.drop n).take (i - n)) = true) ∧ Hid (Below w3.heap.size w3 wr))
  case atStart => exact ⟨n, rfl, Nat.le_refl _, hn, by omega, by show _ = _; rw [Nat.sub_self]; rfl, Below.refl _ _⟩
  case round =>
    obtain ⟨i, rfl, hni, hi, hkx, hz, hbr⟩ := hrel
    have hx5 := hx3.below hbr.out
    have hy5 := hy3.below hbr.out
    have HB5 := hid (below_on HB3.out hbr.out)
    have L1 := hid (J1.out.below hbr.out)
    have L2 := hid (J2.out.below hbr.out)
    by_cases hlt : i < b.length
    · have hltz : (i : Int) < (b.length : Int) := by omega
      have hiz : (0 : Int) ≤ (i : Int) := by omega
      obtain ⟨M', off', x, he, c0, hget⟩ := (IB.out.below HB5.out).at hlt
      cases he
      have hgd : (b.drop n)[i - n]? = some x := by rw [List.getElem?_drop, show n + (i - n) = i by omega]; exact hget.out
      have HGD := hid hgd
      by_cases hx0 : x = 0
      · have HX0 := hid hx0
        have q0 : (x != 0) = false := by simpa using hx0
        clear hx0 hgd hget
        go_wp2_with fail
        go_roundg (b.length - (i + 1))
        case measure => omega
        case rel => exact ⟨i + 1, by first | rfl | go_num, by omega, by omega, Nat.le_refl _, by show _ = _; rw [show i + 1 - n = (i - n) + 1 by omega]; exact zeros_snoc12 hz.out HGD.out HX0.out, hbr⟩
      · have q0 : (x != 0) = true := by simpa using hx0
        have HS : Hid (set12 b = .error 528) := by have h := HS0.out; rw [zeros_not12 HGD.out hx0] at h; exact h
        clear hx0 hgd hget HS0
        obtain ⟨f0, f1, f2, f3, f4, f5⟩ := hy5.six
        have z := hx5.free
        obtain ⟨d0, d1, d2, d3, d4, d5⟩ := hx5.six
        go_wp2_with fail
        have hkk := hx5.set6 (.int .i64 C) (.int .i64 F) (.bool false) (.int .u64 X) (.slice a1 v.length c1) (.slice a2 m.length c2)
        obtain ⟨k0, k1, k2, k3, k4, k5⟩ := hkk.six
        refine bodyPost_ret (v := .tuple #[.agg #[.int .i64 C, .int .i64 F, .bool false, .int .u64 X, .slice a1 v.length c1, .slice a2 m.length c2], .int .i64 528]) (by simp [results, Tryz.results58, go_sem, k0, k1, k2, k3, k4, k5]) rfl (.inl ⟨528, _, _, _, _, _, _, _, _, _, _, HS.out, by decide, rfl, ?_⟩)
        repeat (with_reducible refine Below.setCell ?_ (by simp) _)
        exact HB5.out
    · have hie : i = b.length := by omega
      have hge : ¬ (i : Int) < (b.length : Int) := by omega
      have HS : Hid (set12 b = .ok ⟨C, F, false, X, v, m⟩) := by
        have h := HS0.out
        have hz2 := hz.out
        rw [List.take_of_length_le (by rw [List.length_drop]; omega)] at hz2
        rw [hz2] at h
        exact h
      clear hie hlt hz HS0
      obtain ⟨f0, f1, f2, f3, f4, f5⟩ := hy5.six
      have z := hx5.free
      obtain ⟨d0, d1, d2, d3, d4, d5⟩ := hx5.six
      go_wp2_with fail
      have hkk := hx5.set6 (.int .i64 C) (.int .i64 F) (.bool false) (.int .u64 X) (.slice a1 v.length c1) (.slice a2 m.length c2)
      obtain ⟨k0, k1, k2, k3, k4, k5⟩ := hkk.six
      refine bodyPost_ret (v := .tuple #[.agg #[.int .i64 C, .int .i64 F, .bool false, .int .u64 X, .slice a1 v.length c1, .slice a2 m.length c2], .int .i64 0]) (by simp [results, Tryz.results58, go_sem, k0, k1, k2, k3, k4, k5]) rfl (.inr ⟨⟨C, F, false, X, v, m⟩, a1, c1, a2, c2, HS.out, rfl, ?_, ?_, ?_, HMC.out, HN1.out, HN2.out⟩)
      · repeat (with_reducible refine Below.setCell ?_ (by simp) _)
        exact HB5.out
      · repeat (refine Ints.apart ?_ _ HM1.out)
        exact L1.out
      · repeat (refine Ints.apart ?_ _ HM2.out)
        exact L2.out
theorem refSet_any (b : List Int) (a : Option Addr) (c : Nat) (hbl : b.length ≤ 2000) (hbc : b.length ≤ c) (hc : c ≤ 9223372036854775807) (ho : Octets b) (w : World) (hI : Ints .u8 w a b) :
    Calls Tryz.prog 58 #[.slice a b.length c] w (RefSetPost12 (set12 b) w) := by
  cases hq : decL b with
  | error q => exact refSet_no b a c hbl hbc hc ho w hI q hq
  | ok o =>
    have h0 : 0 < b.length := by have := (dec_right hq ho).2.2.1; have h1 := congrArg List.length this; rw [oxmBytes_length, List.length_take] at h1; omega
    obtain ⟨M, off, rfl, _⟩ := hI 0 h0
    by_cases hC : o.C = 32768
    · by_cases hF : 2 < o.F ∧ o.F < 39
      · cases hH : o.H with
        | true => exact refSet_has b M off c hbl hbc hc ho w hI o hq hC hF hH
        | false =>
          by_cases h8 : o.n + 8 ≤ b.length
          · exact refSet_long b M off c hbl hbc hc ho w hI o hq hC hF hH h8
          · exact refSet_loop b M off c hbl hbc hc ho w hI o hq hC hF hH h8
      · exact refSet_fld b M off c hbl hbc hc ho w hI o hq hC hF
    · exact refSet_cls b M off c hbl hbc hc ho w hI o hq hC
end Go.Proofs.YtdjlbejhphbcoaaGreat
namespace Go.Proofs.YtdjlbejhphbcoaaGreat
open Go.RowKit
set_option linter.unusedVariables false

theorem item_box12r (w : World) (t : Int) (a : Option Addr) (n c : Nat) : ∃ W, w.alloc (.cells #[.int .i64 t, .slice a n c] 93) = W ∧ Below w.heap.size w W ∧ BoxL W w.heap.size [.int .i64 t, .slice a n c] := ⟨_, rfl, below_alloc _ _, BoxL.new _ _ _⟩
set_option maxRecDepth 100000 in
set_option maxHeartbeats 4000000 in
theorem refDec12_err (b : List Int) (a : Option Addr) (c : Nat) (hbl : b.length ≤ 2000) (w : World) (hH : Holds w a c b) (q : Int) (hr : oneL 8 8 false 514 514 b = .error q) :
    Calls Tryz.prog 17 #[.slice a b.length c] w (DecPost12 b w) := by
  obtain ⟨W, hW, hbW, hx⟩ := act_box w 0 0 0 0 0 false 0 none 0 0 none 0 0 none 0 0
  have HW := hid hW
  have HB := hid hbW
  have ONE := hid (refOne_any W 8 8 false 514 514 ⟨by decide, by decide, by decide, by decide, by decide, by decide⟩ b a c (hH.below hbW) (by omega))
  have HO := hid hH.oct
  rw [hr] at ONE
  have HR := hid hr
  have hxl := hx.lt
  have HD : Hid (dec12 b = .error q) := by show _ = _; rw [dec12_read, HR.out]
  have HQ : Hid (q ≠ 0) := oneL_err (by decide) (by decide) HR.out
  clear hH hW hbW hr
  go_enter Tryz.func17, Tryz.ntmps17
  go_wp2_with fail
  rw [HW.out]
  refine ONE.out.mono ?_
  rintro e w1 ⟨rfl, hb1⟩
  obtain ⟨W2, hW2, hbW2, hy⟩ := item_box12r w1 0 none 0 0
  have HW2 := hid hW2
  have hx2 := (hx.below hb1).below hbW2
  have HBE := hid (below_on (below_on HB.out hb1) hbW2)
  have q1 : (q != 0) = true := by simpa using HQ.out
  clear hW2 hbW2 hb1 hx
  go_upto_region 2 with fail
  rw [HW2.out]
  have z := hx2.free
  obtain ⟨u0, u1, u2, u3, u4, u5, u6, u7, u8, u9⟩ := hx2.ten
  go_wp2_with fail
  have hkk := hx2.set10 (.int .i64 0) (.int .u64 0) (.int .u64 0) (.int .i64 0) (.int .i64 0) (.bool false) (.int .u64 0) (.slice none 0 0) (.slice none 0 0) (.slice none 0 0)
  obtain ⟨k0, k1, k2, k3, k4, k5, k6, k7, k8, k9⟩ := hkk.ten
  refine bodyPost_ret (v := .tuple #[zero12, .int .i64 0, .int .i64 q]) (by simp [results, Tryz.results17, go_sem, zero12, k0, k1, k2, k3, k4, k5, k6, k7, k8, k9]) rfl (.inl ⟨q, HD.out, HQ.out, rfl, ?_⟩)
  repeat (with_reducible refine Below.setCell ?_ (by simp) _)
  exact HBE.out
set_option maxRecDepth 100000 in
set_option maxHeartbeats 4000000 in
theorem refDec12_set (b : List Int) (a : Option Addr) (c : Nat) (hbl : b.length ≤ 2000) (w : World) (hH : Holds w a c b) (t : Int) (x : List Int) (n : Nat) (hr : oneL 8 8 false 514 514 b = .ok (t, x, n)) (h25 : t = 25) :
    Calls Tryz.prog 17 #[.slice a b.length c] w (DecPost12 b w) := by
  obtain ⟨W, hW, hbW, hx⟩ := act_box w 0 0 0 0 0 false 0 none 0 0 none 0 0 none 0 0
  have HW := hid hW
  have HB := hid hbW
  have ONE := hid (refOne_any W 8 8 false 514 514 ⟨by decide, by decide, by decide, by decide, by decide, by decide⟩ b a c (hH.below hbW) (by omega))
  have HO := hid hH.oct
  rw [hr] at ONE
  have HR := hid hr
  have hxl := hx.lt
  obtain ⟨x4, xm, t0, t1, xl, ox⟩ := one_facts12 hH.oct hr
  have hxb : x.length ≤ 2000 := by
    obtain ⟨hw, h4, hk⟩ := write_one (by omega) hH.oct hr
    unfold writeL at hw
    split at hw
    · have h1 := congrArg List.length (Except.ok.inj hw)
      simp [bytesL_length] at h1
      omega
    · cases hw
  subst h25
  have RS := hid (fun V (a3 : Option Addr) (c3 : Nat) (h1 : x.length ≤ c3) (h2 : c3 ≤ 9223372036854775807) (i3 : Ints .u8 V a3 x) => refSet_any x a3 c3 hxb h1 h2 ox V i3)
  clear hH hW hbW hr xm t0 t1 xl ox hxb
  go_enter Tryz.func17, Tryz.ntmps17
  go_wp2_with fail
  rw [HW.out]
  refine ONE.out.mono ?_
  rintro e w1 ⟨a2, c2, rfl, h1, h2, i2, hnew, hb1⟩
  obtain ⟨M, off, he2, hc2⟩ := i2 0 (by omega)
  have hMl : M < w1.heap.size := World.block_lt_of_cell? w1 _ hc2
  subst he2
  obtain ⟨W2, hW2, hbW2, hy⟩ := item_box12r w1 25 (some ⟨M, off, none⟩) x.length c2
  have HW2 := hid hW2
  have hW2s : W2.heap.size = w1.heap.size + 1 := by rw [← hW2]; simp
  obtain ⟨W3, hW3, hbW3, hz⟩ := act_box W2 25 0 0 0 0 false 0 none 0 0 none 0 0 none 0 0
  have HW3 := hid hW3
  have hx3 := ((hx.below hb1).below hbW2).below hbW3
  have hy3 := hy.below hbW3
  have HB3 := hid (below_on (below_on (below_on HB.out hb1) hbW2) hbW3)
  have I3 := hid ((i2.below hbW2).below hbW3)
  have HC2 := hid (And.intro h1 h2)
  have hs1 := hb1.size
  obtain ⟨f0, f1⟩ := hy.two
  have HS2 := hid hW2s
  clear hW2 hW3 hW2s
  go_upto_region 2 with fail
  rw [HW2.out]
  go_upto_region 5 with fail
  rw [HW3.out]
  clear hbW2 hbW3 hb1 hx hy i2 f0 f1 h1 h2 hc2 hnew
  obtain ⟨f0, f1⟩ := hy3.two
  obtain ⟨d0, d1, d2, d3, d4, d5, d6, d7, d8, d9⟩ := hz.ten
  go_wp2_with fail
  refine (RS.out _ _ _ HC2.out.1 HC2.out.2 I3.out).mono ?_
  rintro e w4 (⟨q, C, F, H, X, va, vl, vc, ma, ml, mc, hq, hq0, rfl, hb4⟩ | ⟨o, a1, k1, a3, k2, hq, rfl, hb4, i1, i3, hmc, hn1, hn2⟩)
  · have HD : Hid (dec12 b = .error q) := by show _ = _; rw [dec12_read, HR.out]; show (match read12 25 x with | .error q => Except.error q | .ok a => Except.ok (a, n)) = _; unfold read12; rw [if_pos rfl, hq]
    have HQ := hid hq0
    have q1 : (q != 0) = true := by simpa using hq0
    obtain ⟨W5, hW5, hbW5, hv⟩ := oxm_box w4 C F H X va vl vc ma ml mc
    have HW5 := hid hW5
    have hx5 := (hx3.below hb4).below hbW5
    have HB5 := hid (below_on (below_on HB3.out hb4) hbW5)
    clear d0 d1 d2 d3 d4 d5 d6 d7 d8 d9
    clear hW5 hbW5 hb4 f0 f1 hq hq0
    go_upto_region 7 with fail
    rw [HW5.out]
    have z := hx5.free
    obtain ⟨u0, u1, u2, u3, u4, u5, u6, u7, u8, u9⟩ := hx5.ten
    go_wp2_with fail
    have hkk := hx5.set10 (.int .i64 0) (.int .u64 0) (.int .u64 0) (.int .i64 0) (.int .i64 0) (.bool false) (.int .u64 0) (.slice none 0 0) (.slice none 0 0) (.slice none 0 0)
    obtain ⟨k0, k1, k2, k3, k4, k5, k6, k7, k8, k9⟩ := hkk.ten
    refine bodyPost_ret (v := .tuple #[zero12, .int .i64 0, .int .i64 q]) (by simp [results, Tryz.results17, go_sem, zero12, k0, k1, k2, k3, k4, k5, k6, k7, k8, k9]) rfl (.inl ⟨q, HD.out, HQ.out, rfl, ?_⟩)
    repeat (with_reducible refine Below.setCell ?_ (by simp) _)
    exact HB5.out
  · obtain ⟨C, F, H, X, v, m⟩ := o
    simp only at i1 i3 hmc
    have HD : Hid (dec12 b = .ok (Ent12.act ⟨25, 0, 0, ⟨C, F, H, X, v, m⟩, a1, k1, a3, k2, [], none, 0⟩, n)) := by show _ = _; rw [dec12_read, HR.out]; show (match read12 25 x with | .error q => Except.error q | .ok a => Except.ok (a, n)) = _; unfold read12; rw [if_pos rfl, hq]; rfl
    obtain ⟨hac, _, _, _, hin, o1, o2, o3⟩ := dec_act HD.out HO.out
    have HIN := hid (fun V (jv : Ints .u8 V a1 v) (jm : Ints .u8 V a3 m) => act_in12 (g := ⟨25, 0, 0, ⟨C, F, H, X, v, m⟩, a1, k1, a3, k2, [], none, 0⟩) hac hin jv jm (Ints.nil _ _ _) o1 o2 o3 hmc)
    obtain ⟨W5, hW5, hbW5, hv⟩ := oxm_box w4 C F H X a1 v.length k1 a3 m.length k2
    have HW5 := hid hW5
    have hx5 := (hx3.below hb4).below hbW5
    have hz5 := (hz.below hb4).below hbW5
    have HB5 := hid (below_on (below_on HB3.out hb4) hbW5)
    have J1 := hid (i1.below hbW5)
    have J2 := hid (i3.below hbW5)
    have s3 := HB3.out.size
    have hW2s := HS2.out
    have hzl := hz.lt
    have s4 := hb4.size
    have N1 : Hid (New8 w a1) := fun y hy => by have := hn1 y hy; omega
    have N2 : Hid (New8 w a3) := fun y hy => by have := hn2 y hy; omega
    have M1 : Hid (∀ y : Addr, a1 = some y → y.block ≠ w.heap.size) := fun y hy => by have := hn1 y hy; omega
    have M2 : Hid (∀ y : Addr, a3 = some y → y.block ≠ w.heap.size) := fun y hy => by have := hn2 y hy; omega
    have M3 : Hid (∀ y : Addr, a1 = some y → y.block ≠ W2.heap.size) := fun y hy => by have := hn1 y hy; omega
    have M4 : Hid (∀ y : Addr, a3 = some y → y.block ≠ W2.heap.size) := fun y hy => by have := hn2 y hy; omega
    have hwW2 : w.heap.size ≤ W2.heap.size := by omega
    have m1 : ¬ W2.heap.size = w.heap.size := by omega
    have m2 : ¬ w.heap.size = W2.heap.size := by omega
    have m3 : ¬ W2.heap.size = w4.heap.size := by omega
    have m4 : ¬ w4.heap.size = W2.heap.size := by omega
    have m5 : ¬ w.heap.size = w4.heap.size := by omega
    have m6 : ¬ w4.heap.size = w.heap.size := by omega
    clear d0 d1 d2 d3 d4 d5 d6 d7 d8 d9
    clear hW5 hbW5 hb4 f0 f1 hq i1 i3 hn1 hn2 hac hin o1 o2 o3 hmc hW2s
    go_upto_region 7 with fail
    rw [HW5.out]
    obtain ⟨d0, d1, d2, d3, d4, d5, d6, d7, d8, d9⟩ := hz5.ten
    have zz := hz5.free
    obtain ⟨f0, f1, f2, f3, f4, f5⟩ := hv.six
    go_upto_region 10 with fail
    have hZ := (((((hz5.set 3 (.int .i64 C) (by simp)).set 4 (.int .i64 F) (by simp)).set 5 (.bool H) (by simp)).set 6 (.int .u64 X) (by simp)).set 7 (.slice a1 v.length k1) (by simp)).set 8 (.slice a3 m.length k2) (by simp)
    have hX := (((((hx5.far (c := W2.heap.size) (i := 3) (.int .i64 C) m1).far (c := W2.heap.size) (i := 4) (.int .i64 F) m1).far (c := W2.heap.size) (i := 5) (.bool H) m1).far (c := W2.heap.size) (i := 6) (.int .u64 X) m1).far (c := W2.heap.size) (i := 7) (.slice a1 v.length k1) m1).far (c := W2.heap.size) (i := 8) (.slice a3 m.length k2) m1
    clear d0 d1 d2 d3 d4 d5 d6 d7 d8 d9
    clear zz f0 f1 f2 f3 f4 f5 hz5 hx5 hv
    obtain ⟨d0, d1, d2, d3, d4, d5, d6, d7, d8, d9⟩ := hZ.ten
    obtain ⟨e0, e1, e2, e3, e4, e5, e6, e7, e8, e9⟩ := hX.ten
    have zX := hX.free
    go_wp2_with fail
    have hkk := hX.set10 (.int .i64 25) (.int .u64 0) (.int .u64 0) (.int .i64 C) (.int .i64 F) (.bool H) (.int .u64 X) (.slice a1 v.length k1) (.slice a3 m.length k2) (.slice none 0 0)
    obtain ⟨k0, k1', k2', k3, k4, k5, k6, k7, k8, k9⟩ := hkk.ten
    refine bodyPost_ret (v := .tuple #[.agg #[.int .i64 25, .int .u64 0, .int .u64 0, .int .i64 C, .int .i64 F, .bool H, .int .u64 X, .slice a1 v.length k1, .slice a3 m.length k2, .slice none 0 0], .int .i64 n, .int .i64 0]) (by simp [results, Tryz.results17, go_sem, k0, k1', k2', k3, k4, k5, k6, k7, k8, k9]) rfl (.inr ⟨⟨25, 0, 0, ⟨C, F, H, X, v, m⟩, a1, k1, a3, k2, [], none, 0⟩, n, HD.out, rfl, ?_, HIN.out _ ?_ ?_, N1.out, N2.out, fun y hy => by cases hy⟩)
    · repeat (with_reducible refine Below.setCell ?_ (by simp; try omega) _)
      exact HB5.out
    · repeat (first | refine Ints.apart ?_ _ M1.out | refine Ints.apart ?_ _ M3.out)
      exact J1.out
    · repeat (first | refine Ints.apart ?_ _ M2.out | refine Ints.apart ?_ _ M4.out)
      exact J2.out
end Go.Proofs.YtdjlbejhphbcoaaGreat
