/- Layer 11, pure: does a value take another one, do two clash, is one over another; two put together. -/
import Derived.Test.YtpmkfkanolhocaaGreatCovC
namespace Go.Proofs.YtpmkfkanolhocaaGreat
open Go.RowKit
set_option linter.unusedVariables false
set_option maxRecDepth 100000

def taken11 (o x : Ox9) : Bool := alike9 o x && (!x.H && ((o.v.length == x.v.length) && (List.range o.v.length).all fun i => same1 (o.v.getD i 0) (x.v.getD i 0) ((mask11 o).getD i 0)))
def clash1 (p q m n : Int) : Bool := bits BinOp.and IntKind.u8 (bits BinOp.and IntKind.u8 (bits BinOp.xor IntKind.u8 p q) m) n != 0
def clash11 (a b : Ox9) : Bool := alike9 a b && ((a.v.length != b.v.length) || (List.range a.v.length).any fun i => clash1 (a.v.getD i 0) (b.v.getD i 0) ((mask11 a).getD i 0) ((mask11 b).getD i 0))
/-- x is within y -/
def over11 (x y : Ox9) : Bool := alike9 x y && ((x.v.length == y.v.length) && (List.range x.v.length).all fun i => sub1 ((mask11 y).getD i 0) ((mask11 x).getD i 0) && same1 (x.v.getD i 0) (y.v.getD i 0) ((mask11 y).getD i 0))
def orL (a b : List Int) (n : Nat) : List Int := (List.range n).map fun i => bits BinOp.or IntKind.u8 (a.getD i 0) (b.getD i 0)
def full11 (a b : Ox9) : Bool := onesB (orL (mask11 a) (mask11 b) a.v.length) (nbits11 a)
def both11 (a b : Ox9) : Ox9 := ⟨a.C, a.F, a.H && b.H && !full11 a b, a.X, orL a.v b.v a.v.length, if (a.H && b.H && !full11 a b) = true then orL (mask11 a) (mask11 b) a.v.length else []⟩

theorem alike_refl9 (a : Ox9) : alike9 a a = true := by rw [alike_iff9]; exact ⟨rfl, rfl, rfl⟩
theorem alike_trans9 {a b c : Ox9} (h : alike9 a b = true) (k : alike9 b c = true) : alike9 a c = true := by
  rw [alike_iff9] at *; exact ⟨h.1.trans k.1, h.2.1.trans k.2.1, h.2.2.trans k.2.2⟩
theorem alike_nb {a b : Ox9} (h : alike9 a b = true) (hl : a.v.length = b.v.length) : nbits11 a = nbits11 b := by
  rw [alike_iff9] at h
  unfold nbits11
  rw [h.1, h.2.1, hl]
theorem taken_iff {o x : Ox9} (ho : OkV o) (hx : OkV x) : taken11 o x = true ↔ alike9 o x = true ∧ x.H = false ∧ o.v.length = x.v.length ∧ ∀ k, k < 8 * o.v.length → mb o k = true → vb o k = vb x k := by
  unfold taken11
  rw [Bool.and_eq_true, Bool.and_eq_true, Bool.and_eq_true, beq_iff_eq, Bool.not_eq_true']
  constructor
  · rintro ⟨h1, h2, h3, h4⟩
    exact ⟨h1, h2, h3, (same_list rfl h3.symm ho.ml ho.ov hx.ov ho.mo).1 h4⟩
  · rintro ⟨h1, h2, h3, h4⟩
    exact ⟨h1, h2, h3, (same_list rfl h3.symm ho.ml ho.ov hx.ov ho.mo).2 h4⟩
theorem clash1_bits {p q m n : Int} (hp : 0 ≤ p ∧ p ≤ 255) (hq : 0 ≤ q ∧ q ≤ 255) (hm : 0 ≤ m ∧ m ≤ 255) (hn : 0 ≤ n ∧ n ≤ 255) : clash1 p q m n = false ↔ ∀ t, t < 8 → bitOn t m = true → bitOn t n = true → bitOn t p = bitOn t q := by
  unfold clash1
  rw [bne_eq_false_iff_eq, bits_and, bits_and, bits_xor, b8_of, b8_of, b8_zero]
  constructor
  · intro h t ht hmt hnt
    have e := congrArg (fun r => r.getLsbD t) h
    simp only [BitVec.getLsbD_and, BitVec.getLsbD_xor, BitVec.getLsbD_zero] at e
    rw [bitOn_b8 hm.1 hm.2, Nat.mod_eq_of_lt ht] at hmt
    rw [bitOn_b8 hn.1 hn.2, Nat.mod_eq_of_lt ht] at hnt
    rw [hmt, hnt, Bool.and_true, Bool.and_true] at e
    rw [bitOn_b8 hp.1 hp.2, bitOn_b8 hq.1 hq.2, Nat.mod_eq_of_lt ht]
    simpa using e
  · intro h
    apply BitVec.eq_of_getLsbD_eq
    intro t ht
    simp only [BitVec.getLsbD_and, BitVec.getLsbD_xor, BitVec.getLsbD_zero]
    have := h t ht
    rw [bitOn_b8 hm.1 hm.2, bitOn_b8 hn.1 hn.2, bitOn_b8 hp.1 hp.2, bitOn_b8 hq.1 hq.2, Nat.mod_eq_of_lt ht] at this
    cases hmt : (b8 m).getLsbD t
    · simp
    · cases hnt : (b8 n).getLsbD t
      · simp
      · rw [this hmt hnt]; simp
theorem clash_iff {a b : Ox9} (ha : OkV a) (hb : OkV b) (hal : alike9 a b = true) : clash11 a b = false ↔ a.v.length = b.v.length ∧ ∀ k, k < 8 * a.v.length → mb a k = true → mb b k = true → vb a k = vb b k := by
  unfold clash11
  rw [hal, Bool.true_and, Bool.or_eq_false_iff, bne_eq_false_iff_eq, List.any_eq_false]
  have e : (∀ i ∈ List.range a.v.length, ¬ clash1 (a.v.getD i 0) (b.v.getD i 0) ((mask11 a).getD i 0) ((mask11 b).getD i 0) = true) ↔ ∀ i, i < a.v.length → ∀ t, t < 8 → (bitOn t ((mask11 a).getD i 0) = true → bitOn t ((mask11 b).getD i 0) = true → bitOn t (a.v.getD i 0) = bitOn t (b.v.getD i 0)) := by
    constructor
    · intro h i hi
      exact (clash1_bits (oct_getD ha.ov i) (oct_getD hb.ov i) (oct_getD ha.mo i) (oct_getD hb.mo i)).1 (by simpa using h i (by simpa using hi))
    · intro h i hi
      have := (clash1_bits (oct_getD ha.ov i) (oct_getD hb.ov i) (oct_getD ha.mo i) (oct_getD hb.mo i)).2 (h i (by simpa using hi))
      simpa using this
  rw [e, per_bit]
  unfold mb vb bit11
  rw [ha.ml, hb.ml]
  constructor
  · rintro ⟨h1, h2⟩
    refine ⟨h1, fun k hk => ?_⟩
    have := h2 k hk
    rw [h1] at this ⊢
    simpa only [bitOn_mod] using this
  · rintro ⟨h1, h2⟩
    refine ⟨h1, fun k hk => ?_⟩
    have := h2 k hk
    rw [h1] at this ⊢
    simpa only [bitOn_mod] using this
theorem over_iff {x y : Ox9} (hx : OkV x) (hy : OkV y) : over11 x y = true ↔ alike9 x y = true ∧ x.v.length = y.v.length ∧ ∀ k, k < 8 * x.v.length → mb y k = true → mb x k = true ∧ vb x k = vb y k := by
  unfold over11
  rw [Bool.and_eq_true, Bool.and_eq_true, beq_iff_eq]
  have split : x.v.length = y.v.length → (((List.range x.v.length).all fun i => sub1 ((mask11 y).getD i 0) ((mask11 x).getD i 0) && same1 (x.v.getD i 0) (y.v.getD i 0) ((mask11 y).getD i 0)) = true ↔ (∀ k, k < 8 * x.v.length → mb y k = true → mb x k = true) ∧ (∀ k, k < 8 * x.v.length → mb y k = true → vb x k = vb y k)) := by
    intro hl
    have h1 := sub_list (n := mask11 y) (m := mask11 x) (N := x.v.length) (by rw [hy.ml, hl]) hx.ml hy.mo hx.mo
    have h2 := same_list (p := x.v) (q := y.v) (m := mask11 y) (n := x.v.length) rfl hl.symm (by rw [hy.ml, hl]) hx.ov hy.ov hy.mo
    show _ ↔ (∀ k, k < 8 * x.v.length → bit11 (mask11 y) k = true → bit11 (mask11 x) k = true) ∧ (∀ k, k < 8 * x.v.length → bit11 (mask11 y) k = true → bit11 x.v k = bit11 y.v k)
    rw [← h1, ← h2]
    simp only [List.all_eq_true, Bool.and_eq_true]
    constructor
    · intro h; exact ⟨fun i hi => (h i hi).1, fun i hi => (h i hi).2⟩
    · rintro ⟨h3, h4⟩ i hi; exact ⟨h3 i hi, h4 i hi⟩
  constructor
  · rintro ⟨h1, h2, h3⟩
    obtain ⟨h4, h5⟩ := (split h2).1 h3
    exact ⟨h1, h2, fun k hk hm => ⟨h4 k hk hm, h5 k hk hm⟩⟩
  · rintro ⟨h1, h2, h3⟩
    exact ⟨h1, h2, (split h2).2 ⟨fun k hk hm => (h3 k hk hm).1, fun k hk hm => (h3 k hk hm).2⟩⟩
end Go.Proofs.YtpmkfkanolhocaaGreat
