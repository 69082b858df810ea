/- The document's faults: digits, names. -/
import Derived.Test.YtlglgkigcompdaaDoorFltE
import Derived.Test.YtlglgkigcompdaaDoorFltD
namespace Go.Proofs.YtlglgkigcompdaaDoor
open Go.RowKit Go.Shelf

theorem itoa_nat (n : Nat) : Lib.itoa n = Lib.decDigits n := by
  unfold Lib.itoa
  rw [if_neg (by omega)]
  simp
theorem dec_low {n : Nat} (h : n < 10) : Lib.decDigits n = [UInt8.ofNat (48 + n)] := by rw [Lib.decDigits, dif_pos h]
theorem dec_high {n : Nat} (h : ¬ n < 10) : Lib.decDigits n = Lib.decDigits (n / 10) ++ [UInt8.ofNat (48 + n % 10)] := by rw [Lib.decDigits, dif_neg h]

theorem digits_1 (n : Nat) (h : n < 10) (w : World) :
    Calls Tryd.prog 25 #[.int .i64 n] w fun e w' => e = .returned (.string ⟨(Lib.decDigits n).toArray⟩) ∧ Below w.heap.size w w' := by
  have hd : (⟨(Lib.decDigits n).toArray⟩ : ByteArray) = (⟨#[48, 49, 50, 51, 52, 53, 54, 55, 56, 57]⟩ : ByteArray).extract n (n + 1) := by
    rw [dec_low h]
    have all : ∀ k : Fin 10, (⟨[UInt8.ofNat (48 + k.val)].toArray⟩ : ByteArray) = (⟨#[48, 49, 50, 51, 52, 53, 54, 55, 56, 57]⟩ : ByteArray).extract k.val (k.val + 1) := by decide
    exact all ⟨n, h⟩
  rw [hd]
  clear hd
  have c1 : (n : Int) < 10 := by omega
  have c2 : (0 : Int) ≤ n := by omega
  have c3 : (n : Int) + 1 ≤ 10 := by omega
  have c4 : (0 : Int) ≤ (n : Int) + 1 := by omega
  have hs := run_slice_string (P := Tryd.prog) w 9 ⟨#[48, 49, 50, 51, 52, 53, 54, 55, 56, 57]⟩ .i64 .i64 (n : Int) ((n : Int) + 1) Tryd.underlying9 c2 (by omega) (by show (n : Int) + 1 ≤ ((10 : Nat) : Int); omega)
  have e1 : ((n : Int) + 1).toNat = n + 1 := by omega
  rw [Int.toNat_natCast, e1] at hs
  clear e1
  go_enter Tryd.func25, Tryd.ntmps25
  go_wp2_with fail
  go_ret
  exact ⟨rfl, Below.refl _ _⟩

theorem digits_2 (n : Nat) (h : n < 100) (w : World) :
    Calls Tryd.prog 25 #[.int .i64 n] w fun e w' => e = .returned (.string ⟨(Lib.decDigits n).toArray⟩) ∧ Below w.heap.size w w' := by
  rcases Nat.lt_or_ge n 10 with h1 | h1
  · exact digits_1 n h1 w
  · have hd : (⟨(Lib.decDigits n).toArray⟩ : ByteArray) = ⟨(Lib.decDigits (n / 10)).toArray⟩ ++ ⟨(Lib.decDigits (n % 10)).toArray⟩ := by
      rw [dec_high (by omega), dec_low (show n % 10 < 10 by omega), ByteArray.mk_append_mk]
    rw [hd]
    clear hd
    have c1 : ¬ (n : Int) < 10 := by omega
    have q1 : (n : Int).tdiv 10 = ((n / 10 : Nat) : Int) := by rw [Int.tdiv_eq_ediv_of_nonneg (by omega)]; omega
    have q2 : (n : Int).tmod 10 = ((n % 10 : Nat) : Int) := by rw [Int.tmod_eq_emod_of_nonneg (by omega)]; omega
    obtain ⟨a, ha⟩ : ∃ a, n / 10 = a := ⟨_, rfl⟩
    obtain ⟨b, hb⟩ : ∃ b, n % 10 = b := ⟨_, rfl⟩
    have ha' : a < 10 := by omega
    have hb' : b < 10 := by omega
    rw [ha] at q1 ⊢
    rw [hb] at q2 ⊢
    have z1 := dec_low ha'
    have z2 := dec_low hb'
    have a1 : ∀ w, (Op.stringOp .add ⟨(Lib.decDigits a).toArray⟩ ⟨(Lib.decDigits b).toArray⟩).run Tryd.prog w = .ok (.string (⟨(Lib.decDigits a).toArray⟩ ++ ⟨(Lib.decDigits b).toArray⟩)) w := fun w => run_string_add_sum w _ _ (by rw [z1, z2]; show (1 : Nat) + 1 ≤ 9223372036854775807; omega)
    clear ha hb z1 z2
    go_enter Tryd.func25, Tryd.ntmps25
    go_wp2_with fail
    refine (digits_1 a ha' _).mono ?_
    rintro e w1 ⟨rfl, hb1⟩
    go_wp2_with fail
    refine (digits_1 b hb' _).mono ?_
    rintro e w2 ⟨rfl, hb2⟩
    go_wp2_with fail
    go_ret
    exact ⟨rfl, hb1.trans (hb2.mono hb1.size)⟩

theorem digits_3 (n : Nat) (h : n < 1000) (w : World) :
    Calls Tryd.prog 25 #[.int .i64 n] w fun e w' => e = .returned (.string ⟨(Lib.decDigits n).toArray⟩) ∧ Below w.heap.size w w' := by
  rcases Nat.lt_or_ge n 100 with h1 | h1
  · exact digits_2 n h1 w
  · have hd : (⟨(Lib.decDigits n).toArray⟩ : ByteArray) = ⟨(Lib.decDigits (n / 10)).toArray⟩ ++ ⟨(Lib.decDigits (n % 10)).toArray⟩ := by
      rw [dec_high (by omega), dec_low (show n % 10 < 10 by omega), ByteArray.mk_append_mk]
    rw [hd]
    clear hd
    have c1 : ¬ (n : Int) < 10 := by omega
    have q1 : (n : Int).tdiv 10 = ((n / 10 : Nat) : Int) := by rw [Int.tdiv_eq_ediv_of_nonneg (by omega)]; omega
    have q2 : (n : Int).tmod 10 = ((n % 10 : Nat) : Int) := by rw [Int.tmod_eq_emod_of_nonneg (by omega)]; omega
    obtain ⟨a, ha⟩ : ∃ a, n / 10 = a := ⟨_, rfl⟩
    obtain ⟨b, hb⟩ : ∃ b, n % 10 = b := ⟨_, rfl⟩
    have ha' : a < 100 := by omega
    have hb' : b < 10 := by omega
    have ha3 : ¬ a < 10 := by omega
    rw [ha] at q1 ⊢
    rw [hb] at q2 ⊢
    have z1 := dec_high ha3
    have z3 := dec_low (show a / 10 < 10 by omega)
    have z2 := dec_low hb'
    have a1 : ∀ w, (Op.stringOp .add ⟨(Lib.decDigits a).toArray⟩ ⟨(Lib.decDigits b).toArray⟩).run Tryd.prog w = .ok (.string (⟨(Lib.decDigits a).toArray⟩ ++ ⟨(Lib.decDigits b).toArray⟩)) w := fun w => run_string_add_sum w _ _ (by rw [z1, z2, z3]; show (2 : Nat) + 1 ≤ 9223372036854775807; omega)
    clear ha hb z1 z2 z3 ha3
    go_enter Tryd.func25, Tryd.ntmps25
    go_wp2_with fail
    refine (digits_2 a ha' _).mono ?_
    rintro e w1 ⟨rfl, hb1⟩
    go_wp2_with fail
    refine (digits_1 b hb' _).mono ?_
    rintro e w2 ⟨rfl, hb2⟩
    go_wp2_with fail
    go_ret
    exact ⟨rfl, hb1.trans (hb2.mono hb1.size)⟩
end Go.Proofs.YtlglgkigcompdaaDoor
