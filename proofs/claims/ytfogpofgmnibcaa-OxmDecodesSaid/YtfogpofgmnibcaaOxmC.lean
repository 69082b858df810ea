/- The document's values: masks, bit by bit; what is told of them both ways. -/
import Derived.Test.YtfogpofgmnibcaaOxmB
import Derived.Test.YtfogpofgmnibcaaMrg3
namespace Go.Proofs.Ytfogpofgmnibcaa
open Go.RowKit
set_option linter.unusedVariables false

theorem ref8Zeros_any (l : List Int) (a : Option Addr) (cap : Nat) (w : World) (hm : l.length ≤ 9223372036854775807) (hc : Ints .u8 w a l) :
    Calls Try.prog 53 #[.slice a l.length cap] w fun e w' => e = .returned (.bool (zeros l)) ∧ w = w' := by
  go_enter Try.func53, Try.ntmps53
  go_wp2
  go_loop [3] (fun i => ∃ k : Nat, k ≤ l.length ∧ i = .int .i64 k ∧ Hid (zeros (l.take k) = true)) (fun i => l.length - (intOf i).toNat)
  case atStart => exact ⟨0, Nat.zero_le _, rfl, rfl⟩
  case round =>
    obtain ⟨k, hk, rfl, hall⟩ := hrel
    by_cases hlt : k < l.length
    · obtain ⟨b, off, x, rfl, hcell, hx⟩ := hc.at hlt
      by_cases h0 : x = 0
      · subst h0
        have HN := hid (zeros_succ hx.out hall.out rfl)
        go_wp2_with fail
        go_round
        case rel => exact ⟨k + 1, by omega, by go_num, HN⟩
        case measure => simp [intOf]; omega
      · have HN := hid (zeros_false hx.out h0)
        have e0 : (x != 0) = true := by simpa using h0
        clear h0
        go_wp2_with fail
        go_ret
        exact ⟨ret_bool HN.out.symm, rfl⟩
    · have e : l.take k = l := List.take_of_length_le (by omega)
      rw [e] at hall
      go_wp2_with fail
      go_ret
      exact ⟨ret_bool hall.out.symm, rfl⟩

theorem bit_table : ∀ (p : Fin 256) (k : Fin 8), (bits BinOp.and IntKind.u8 ((p.val : Int) / 2 ^ k.val) 1 == 0) = !(bits BinOp.and IntKind.u8 ((p.val : Int) / 2 ^ k.val) 1 == 1) := by decide +kernel
theorem bit_not {p : Int} (h0 : 0 ≤ p) (h1 : p ≤ 255) (k : Nat) : (bits BinOp.and IntKind.u8 (p / 2 ^ (k % 8)) 1 == 0) = !bitOn k p := by
  obtain ⟨q, rfl⟩ := Int.eq_ofNat_of_zero_le h0
  exact bit_table ⟨q, by omega⟩ ⟨k % 8, by omega⟩
theorem bit_off {p : Int} (h0 : 0 ≤ p) (h1 : p ≤ 255) {k : Nat} (h : bitOn k p = false) : (bits BinOp.and IntKind.u8 (p / 2 ^ (k % 8)) 1 == 0) = true := by rw [bit_not h0 h1, h]; rfl
theorem bit_on {p : Int} (h0 : 0 ≤ p) (h1 : p ≤ 255) {k : Nat} (h : bitOn k p = true) : (bits BinOp.and IntKind.u8 (p / 2 ^ (k % 8)) 1 == 0) = false := by rw [bit_not h0 h1, h]; rfl
/-- whether the lowest bits are 1 -/
def onesB (m : List Int) (n : Nat) : Bool := (List.range n).all fun k => bitOn k (m.getD (m.length - 1 - k / 8) 0)
theorem ones_yes {m : List Int} {n : Nat} (h : ∀ k, k < n → bitOn k (m.getD (m.length - 1 - k / 8) 0) = true) : onesB m n = true := by
  unfold onesB
  rw [List.all_eq_true]
  intro j hj
  exact h j (by simpa using hj)
theorem ones_no {m : List Int} {n k : Nat} (hk : k < n) (h : bitOn k (m.getD (m.length - 1 - k / 8) 0) = false) : onesB m n = false := by
  unfold onesB
  rw [List.all_eq_false]
  exact ⟨k, by simpa using hk, by rw [h]; simp⟩

set_option maxRecDepth 100000 in
theorem ref8Ones_any (m : List Int) (n : Nat) (hn : n ≤ 8 * m.length) (hm : m.length ≤ 1000) (om : Octets m) (a : Option Addr) (cap : Nat) (w : World) (hc : Ints .u8 w a m) :
    Calls Try.prog 54 #[.slice a m.length cap, .int .i64 n] w fun e w' => e = .returned (.bool (onesB m n)) ∧ w = w' := by
  go_enter Try.func54, Try.ntmps54
  go_wp2
  go_loop [5] (fun i => ∃ k : Nat, k ≤ n ∧ i = .int .i64 k ∧ Hid (∀ j, j < k → bitOn j (m.getD (m.length - 1 - j / 8) 0) = true)) (fun i => n - (intOf i).toNat)
  case atStart => exact ⟨0, Nat.zero_le _, rfl, fun j h => by omega⟩
  case round =>
    obtain ⟨k, hk, rfl, hall⟩ := hrel
    by_cases hlt : k < n
    · have hx : m.length - 1 - k / 8 < m.length := by omega
      obtain ⟨b1, o1, p, rfl, e1, g1⟩ := hc.at hx
      have hd : (m.length : Int) - 1 - (k : Int) / 8 = ((m.length - 1 - k / 8 : Nat) : Int) := by omega
      have hp := getD_of g1.out
      have g2 := om.get g1.out
      have HNO := hid (fun h => ones_no (m := m) hlt (by rw [hp]; exact h))
      have HYES := hid (fun h => upto_more (P := fun j => bitOn j (m.getD (m.length - 1 - j / 8) 0) = true) hall.out (by rw [hp]; exact h))
      obtain ⟨j, hj⟩ : ∃ j, m.length - 1 - k / 8 = j := ⟨_, rfl⟩
      rw [hj] at hx e1 hd
      have hj2 : (j : Int) < (m.length : Int) := by omega
      clear hj hp g1
      cases hq : bitOn k p
      · have hq2 : (bits BinOp.and IntKind.u8 (p / 2 ^ (k % 8)) 1 == 1) = false := hq
        have hq3 : (bits BinOp.and IntKind.u8 (p / 2 ^ (k % 8)) 1 == 0) = true := bit_off g2.1 g2.2 hq
        have HN := hid (HNO.out hq)
        clear hq
        go_wp2_with fail
        go_ret
        exact ⟨ret_bool HN.out.symm, rfl⟩
      · have hq3 : (bits BinOp.and IntKind.u8 (p / 2 ^ (k % 8)) 1 == 0) = false := bit_on g2.1 g2.2 hq
        have HY := hid (HYES.out hq)
        clear hq
        go_wp2_with fail
        go_round
        case rel => exact ⟨k + 1, by omega, by go_num, HY⟩
        case measure => simp [intOf]; omega
    · obtain rfl : k = n := by omega
      have HN := hid (ones_yes hall.out)
      go_wp2_with fail
      go_ret
      exact ⟨ret_bool HN.out.symm, rfl⟩

theorem bv_inside (a b : BitVec 8) : (a &&& b = a) ↔ (a &&& ~~~b = 0#8) := by
  constructor
  all_goals
    intro h
    apply BitVec.eq_of_getElem_eq
    intro i hi
    have hh := congrArg (fun v => v[i]'hi) h
    simp at hh ⊢
    cases ha : a[i] <;> cases hb : b[i] <;> simp_all
theorem out_and {x y : Int} (h0 : 0 ≤ x) (h1 : x ≤ 255) : (bits BinOp.and IntKind.u8 x y != x) = outB x y := by
  obtain ⟨q, rfl⟩ := Int.eq_ofNat_of_zero_le h0
  obtain ⟨b, hb⟩ : ∃ b, BitVec.ofInt 8 y = b := ⟨_, rfl⟩
  have ha : BitVec.ofInt 8 (q : Int) = BitVec.ofNat 8 q := rfl
  have hq : (BitVec.ofNat 8 q).toNat = q := by simp; omega
  have e1 : bits BinOp.and IntKind.u8 (q : Int) y = ((BitVec.ofNat 8 q &&& b).toNat : Int) := by
    show IntKind.u8.wrap ((BitVec.ofInt 8 (q : Int) &&& BitVec.ofInt 8 y).toNat : Int) = _
    rw [ha, hb, wrap_u8]
    have := (BitVec.ofNat 8 q &&& b).isLt
    omega
  have e2 : bits BinOp.andNot IntKind.u8 (q : Int) y = ((BitVec.ofNat 8 q &&& ~~~b).toNat : Int) := by
    show IntKind.u8.wrap ((BitVec.ofInt 8 (q : Int) &&& ~~~(BitVec.ofInt 8 y)).toNat : Int) = _
    rw [ha, hb, wrap_u8]
    have := (BitVec.ofNat 8 q &&& ~~~b).isLt
    omega
  unfold outB
  rw [e1, e2, Bool.eq_iff_iff]
  simp only [bne_iff_ne, ne_eq]
  refine not_congr ?_
  rw [show (0 : Int) = ((0#8 : BitVec 8).toNat : Int) from rfl, show (q : Int) = ((BitVec.ofNat 8 q).toNat : Int) by rw [hq]]
  rw [Int.natCast_inj, Int.natCast_inj, BitVec.toNat_inj, BitVec.toNat_inj]
  exact bv_inside _ _

theorem below_drewN (w : World) (n : Nat) : Below w.heap.size w (w.drewN n) := by_none_below (by_none_drewN w n)
set_option maxRecDepth 100000 in
theorem ref8Inside_any (v m : List Int) (hvm : v.length ≤ m.length) (hm : m.length ≤ 1000) (ov : Octets v) (om : Octets m) (a b : Option Addr) (c d : Nat) (w : World) (iv : Ints .u8 w a v) (im : Ints .u8 w b m) :
    Calls Try.prog 55 #[.slice a v.length c, .slice b m.length d] w fun e w' => e = .returned (.bool (insideB v m)) ∧ Below w.heap.size w w' := by
  go_enter Try.func55, Try.ntmps55
  go_wp2
  go_loopw [5] (fun i wr => ∃ k n : Nat, k ≤ v.length ∧ i = .int .i64 k ∧ Hid (∀ j, j < k → outB (v.getD j 0) (m.getD j 0) = false) ∧ wr = w.drewN n) (fun i _ => v.length - (intOf i).toNat)
  case atStart => exact ⟨0, 0, Nat.zero_le _, rfl, fun j h => by omega, rfl⟩
  case round =>
    obtain ⟨k, n, hk, rfl, hall, rfl⟩ := hrel
    by_cases hlt : k < v.length
    · obtain ⟨b1, o1, x, rfl, e1, hx⟩ := iv.at hlt
      obtain ⟨b2, o2, y, rfl, e2, hy⟩ := im.at (show k < m.length by omega)
      have px := getD_of hx.out
      have py := getD_of hy.out
      have gx := ov.get hx.out
      have gy := om.get hy.out
      have hk2 : (k : Int) < (m.length : Int) := by omega
      have hq := out_and (y := y) gx.1 gx.2
      have HNO := hid (fun h => inside_no (m := m) hlt (by rw [px, py]; exact h))
      have HYES := hid (fun h => upto_more (P := fun j => outB (v.getD j 0) (m.getD j 0) = false) hall.out (by rw [px, py]; exact h))
      clear px py gx gy
      cases h : outB x y
      · rw [h] at hq
        have HN := hid (HYES.out h)
        clear h
        go_wp2
        go_quiet (fail)
        go_wp2
        go_roundw
        case rel => exact ⟨k + 1, _, by omega, by go_num, HN, rfl⟩
        case measure => simp [intOf]; omega
      · rw [h] at hq
        have HN := hid (HNO.out h)
        clear h
        go_wp2
        go_quiet (fail)
        go_wp2
        go_ret
        exact ⟨ret_bool HN.out.symm, by first | exact below_drewN _ _ | (rw [World.drewN_drewN]; exact below_drewN _ _)⟩
    · obtain rfl : k = v.length := by omega
      have HN := hid (inside_yes (m := m) hall.out)
      go_wp2
      go_ret
      exact ⟨ret_bool HN.out.symm, below_drewN _ _⟩
end Go.Proofs.Ytfogpofgmnibcaa
