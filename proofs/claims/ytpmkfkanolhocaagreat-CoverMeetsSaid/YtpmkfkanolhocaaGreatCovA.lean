/- Layer 11, pure: bits of bytes; values held against one another. -/
import Derived.Test.YtpmkfkanolhocaaGreatMrg8
namespace Go.Proofs.YtpmkfkanolhocaaGreat
open Go.RowKit
set_option linter.unusedVariables false
set_option maxRecDepth 100000

def b8 (x : Int) : BitVec 8 := BitVec.ofInt 8 x
theorem wrap8 (r : BitVec 8) : IntKind.u8.wrap (r.toNat : Int) = (r.toNat : Int) := by
  have := r.isLt
  simp [IntKind.wrap, IntKind.bits, IntKind.signed]
  omega
theorem bits_and (x y : Int) : bits BinOp.and IntKind.u8 x y = ((b8 x &&& b8 y).toNat : Int) := wrap8 _
theorem bits_or (x y : Int) : bits BinOp.or IntKind.u8 x y = ((b8 x ||| b8 y).toNat : Int) := wrap8 _
theorem bits_xor (x y : Int) : bits BinOp.xor IntKind.u8 x y = ((b8 x ^^^ b8 y).toNat : Int) := wrap8 _
theorem bits_not (x y : Int) : bits BinOp.andNot IntKind.u8 x y = ((b8 x &&& ~~~ b8 y).toNat : Int) := wrap8 _
theorem b8_of (r : BitVec 8) : b8 (r.toNat : Int) = r := by unfold b8; rw [BitVec.ofInt_natCast]; simp
theorem b8_zero (r : BitVec 8) : ((r.toNat : Int) = 0) ↔ r = 0#8 := by
  constructor
  · intro h; apply BitVec.eq_of_toNat_eq; simp; omega
  · rintro rfl; rfl
theorem bitOn_table : ∀ (p : Fin 256) (k : Fin 8), bitOn k.val (p.val : Int) = (b8 (p.val : Int)).getLsbD k.val := by decide +kernel
theorem bitOn_b8 {p : Int} (h0 : 0 ≤ p) (h1 : p ≤ 255) (k : Nat) : bitOn k p = (b8 p).getLsbD (k % 8) := by
  obtain ⟨q, rfl⟩ := Int.eq_ofNat_of_zero_le h0
  have h := bitOn_table ⟨q, by omega⟩ ⟨k % 8, by omega⟩
  simp only at h
  rw [← h]
  unfold bitOn
  rw [Nat.mod_mod]
theorem b8_inj {p q : Int} (h0 : 0 ≤ p) (h1 : p ≤ 255) (k0 : 0 ≤ q) (k1 : q ≤ 255) (h : ∀ t, t < 8 → bitOn t p = bitOn t q) : p = q := by
  have e : b8 p = b8 q := by
    apply BitVec.eq_of_getLsbD_eq
    intro t ht
    have := h t ht
    rw [bitOn_b8 h0 h1, bitOn_b8 k0 k1, Nat.mod_eq_of_lt ht] at this
    exact this
  obtain ⟨a, rfl⟩ := Int.eq_ofNat_of_zero_le h0
  obtain ⟨b, rfl⟩ := Int.eq_ofNat_of_zero_le k0
  have e2 := congrArg BitVec.toNat e
  unfold b8 at e2
  simp at e2
  omega
/-- where the mask has a 1, both have the same bit -/
def same1 (p q m : Int) : Bool := bits BinOp.and IntKind.u8 (bits BinOp.xor IntKind.u8 p q) m == 0
theorem same1_bits {p q m : Int} (hp : 0 ≤ p ∧ p ≤ 255) (hq : 0 ≤ q ∧ q ≤ 255) (hm : 0 ≤ m ∧ m ≤ 255) : same1 p q m = true ↔ ∀ t, t < 8 → bitOn t m = true → bitOn t p = bitOn t q := by
  unfold same1
  rw [beq_iff_eq, bits_and, bits_xor, b8_of, b8_zero]
  constructor
  · intro h t ht hmt
    have e := congrArg (fun r => r.getLsbD t) h
    simp only [BitVec.getLsbD_and, BitVec.getLsbD_xor, BitVec.getLsbD_zero] at e
    rw [bitOn_b8 hm.1 hm.2, Nat.mod_eq_of_lt ht] at hmt
    rw [hmt, Bool.and_true] at e
    rw [bitOn_b8 hp.1 hp.2, bitOn_b8 hq.1 hq.2, Nat.mod_eq_of_lt ht]
    simpa using e
  · intro h
    apply BitVec.eq_of_getLsbD_eq
    intro t ht
    simp only [BitVec.getLsbD_and, BitVec.getLsbD_xor, BitVec.getLsbD_zero]
    have := h t ht
    rw [bitOn_b8 hm.1 hm.2, bitOn_b8 hp.1 hp.2, bitOn_b8 hq.1 hq.2, Nat.mod_eq_of_lt ht] at this
    cases hmt : (b8 m).getLsbD t
    · simp
    · rw [this hmt]; simp
theorem or_range (p q : Int) : 0 ≤ bits BinOp.or IntKind.u8 p q ∧ bits BinOp.or IntKind.u8 p q ≤ 255 := by
  rw [bits_or]; have := (b8 p ||| b8 q).isLt; omega
theorem or_bits {p q : Int} (hp : 0 ≤ p ∧ p ≤ 255) (hq : 0 ≤ q ∧ q ≤ 255) (t : Nat) : bitOn t (bits BinOp.or IntKind.u8 p q) = (bitOn t p || bitOn t q) := by
  rw [bitOn_b8 (or_range p q).1 (or_range p q).2, bits_or, b8_of, BitVec.getLsbD_or, bitOn_b8 hp.1 hp.2, bitOn_b8 hq.1 hq.2]
/-- is each bit of one mask a bit of the other? -/
def sub1 (n m : Int) : Bool := bits BinOp.andNot IntKind.u8 n m == 0
theorem sub1_bits {n m : Int} (hn : 0 ≤ n ∧ n ≤ 255) (hm : 0 ≤ m ∧ m ≤ 255) : sub1 n m = true ↔ ∀ t, t < 8 → bitOn t n = true → bitOn t m = true := by
  unfold sub1
  rw [beq_iff_eq, bits_not, b8_zero]
  constructor
  · intro h t ht hnt
    have e := congrArg (fun r => r.getLsbD t) h
    simp only [BitVec.getLsbD_and, BitVec.getLsbD_not, BitVec.getLsbD_zero] at e
    rw [bitOn_b8 hn.1 hn.2, Nat.mod_eq_of_lt ht] at hnt
    rw [bitOn_b8 hm.1 hm.2, Nat.mod_eq_of_lt ht]
    simpa [hnt, ht] using e
  · intro h
    apply BitVec.eq_of_getLsbD_eq
    intro t ht
    simp only [BitVec.getLsbD_and, BitVec.getLsbD_not, BitVec.getLsbD_zero]
    have := h t ht
    rw [bitOn_b8 hn.1 hn.2, bitOn_b8 hm.1 hm.2, Nat.mod_eq_of_lt ht] at this
    cases hnt : (b8 n).getLsbD t
    · simp
    · rw [this hnt]; simp [ht]
end Go.Proofs.YtpmkfkanolhocaaGreat
