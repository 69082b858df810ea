/- Put together out of several texts. -/
import Derived.Test.YtdjlbejhphbcoaaGreatV2
import Derived.Test.YtdjlbejhphbcoaaGreatV4
import Derived.Test.YtdjlbejhphbcoaaGreatV5
import Derived.WalkSmall
namespace Go.Proofs.YtdjlbejhphbcoaaGreat
open Go.RowKit
set_option linter.unusedVariables false

/-- a value, boxed -/
theorem oxm_box (w : World) (C F : Int) (H : Bool) (X : Int) (va : Option Addr) (vl vc : Nat) (ma : Option Addr) (ml mc : Nat) : ∃ W, w.alloc (.cells #[.int .i64 C, .int .i64 F, .bool H, .int .u64 X, .slice va vl vc, .slice ma ml mc] 25) = W ∧ Below w.heap.size w W ∧ BoxL W w.heap.size [.int .i64 C, .int .i64 F, .bool H, .int .u64 X, .slice va vl vc, .slice ma ml mc] :=
  ⟨_, rfl, below_alloc _ _, BoxL.new _ _ _⟩

/-- whether Field and Exp have room -/
def room8 (C F X : Int) : Bool := if C = 65535 then decide (0 ≤ F ∧ F ≤ 127 ∧ X ≤ 4294967295) else decide (X = 0)
/-- how many bytes the mask must have -/
def maskZ (H : Bool) (vl : Nat) : Nat := if H then vl else 0
/-- how many pieces of as many bytes there are -/
def pieces8 (H : Bool) : Nat := if H then 2 else 1
/-- how many bytes stand behind the length -/
def behind8 (C : Int) (vl ml : Nat) : Nat := if C = 65535 then vl + ml + 4 else vl + ml

theorem hasRoom8_any (C F : Int) (H : Bool) (X : Int) (va : Option Addr) (vl vc : Nat) (ma : Option Addr) (ml mc : Nat) (w : World) :
    Calls Tryz.prog 116 #[.agg #[.int .i64 C, .int .i64 F, .bool H, .int .u64 X, .slice va vl vc, .slice ma ml mc]] w fun e w' => e = .returned (.bool (room8 C F X)) ∧ Below w.heap.size w w' := by
  by_cases h : C = 65535
  · subst h
    by_cases h0 : 0 ≤ F
    · by_cases h1 : F ≤ 127
      · have e : room8 65535 F X = decide (X ≤ 4294967295) := by simp [room8, h0, h1]
        rw [e]
        clear e
        go_enter Tryz.func116, Tryz.ntmps116
        go_wp2
        go_ret
        exact ⟨rfl, below_alloc _ _⟩
      · have e : room8 65535 F X = false := by simp [room8, h1]
        rw [e]
        clear e
        go_enter Tryz.func116, Tryz.ntmps116
        go_wp2
        go_ret
        exact ⟨rfl, below_alloc _ _⟩
    · have e : room8 65535 F X = false := by simp [room8, h0]
      rw [e]
      clear e
      go_enter Tryz.func116, Tryz.ntmps116
      go_wp2
      go_ret
      exact ⟨rfl, below_alloc _ _⟩
  · have e : room8 C F X = (X == 0) := by simp only [room8, if_neg h]; by_cases h4 : X = 0 <;> simp [h4]
    have e0 : (C == 65535) = false := by simpa using h
    rw [e]
    clear e h
    go_enter Tryz.func116, Tryz.ntmps116
    go_wp2
    go_ret
    exact ⟨rfl, below_alloc _ _⟩

theorem maskSize_any (C F : Int) (H : Bool) (X : Int) (va : Option Addr) (vl vc : Nat) (ma : Option Addr) (ml mc : Nat) (w : World) :
    Calls Tryz.prog 117 #[.agg #[.int .i64 C, .int .i64 F, .bool H, .int .u64 X, .slice va vl vc, .slice ma ml mc]] w fun e w' => e = .returned (.int .i64 (maskZ H vl)) ∧ Below w.heap.size w w' := by
  cases H
  all_goals
    go_enter Tryz.func117, Tryz.ntmps117
    go_wp2
    go_ret
    exact ⟨rfl, below_alloc _ _⟩

theorem pieces8_any (C F : Int) (H : Bool) (X : Int) (va : Option Addr) (vl vc : Nat) (ma : Option Addr) (ml mc : Nat) (w : World) :
    Calls Tryz.prog 146 #[.agg #[.int .i64 C, .int .i64 F, .bool H, .int .u64 X, .slice va vl vc, .slice ma ml mc]] w fun e w' => e = .returned (.int .i64 (pieces8 H)) ∧ Below w.heap.size w w' := by
  cases H
  all_goals
    go_enter Tryz.func146, Tryz.ntmps146
    go_wp2
    go_ret
    exact ⟨rfl, below_alloc _ _⟩

theorem behind8_any (C F : Int) (H : Bool) (X : Int) (va : Option Addr) (vl vc : Nat) (ma : Option Addr) (ml mc : Nat) (w : World) (hv : vl ≤ 1000000000) (hm : ml ≤ 1000000000) :
    Calls Tryz.prog 81 #[.agg #[.int .i64 C, .int .i64 F, .bool H, .int .u64 X, .slice va vl vc, .slice ma ml mc]] w fun e w' => e = .returned (.int .i64 (behind8 C vl ml)) ∧ Below w.heap.size w w' := by
  by_cases h : C = 65535
  · subst h
    go_enter Tryz.func81, Tryz.ntmps81
    go_wp2
    go_ret
    exact ⟨rfl, below_alloc _ _⟩
  · have e0 : (C == 65535) = false := by simpa using h
    have e : behind8 C vl ml = vl + ml := by simp [behind8, h]
    rw [e]
    clear e h
    go_enter Tryz.func81, Tryz.ntmps81
    go_wp2
    go_ret
    exact ⟨rfl, below_alloc _ _⟩
end Go.Proofs.YtdjlbejhphbcoaaGreat
namespace Go.Proofs.YtdjlbejhphbcoaaGreat
open Go.RowKit
set_option linter.unusedVariables false

/-- how many bits of a byte are 1 -/
def popB (p : Int) : Nat := (List.range 8).countP fun t => bitOn t p
theorem pop_of (d : ByteArray) (hd : d.size = 256) (ht : ∀ q : Fin 256, (d[q.val]'(by rw [hd]; exact q.isLt)).toNat = popB (q.val : Int)) (p : Int) (h0 : 0 ≤ p) (h1 : p ≤ 255) (hp : p.toNat < d.size) :
    wrap64 ((d[p.toNat]'hp).toNat : Int) = (popB p : Int) := by
  obtain ⟨q, rfl⟩ := Int.eq_ofNat_of_zero_le h0
  have e := ht ⟨q, by omega⟩
  have e2 : d[(q : Int).toNat]'hp = d[q]'(by omega) := rfl
  rw [e2, e]
  have h8 : popB (q : Int) ≤ 8 := by
    have := List.countP_le_length (p := fun t => bitOn t (q : Int)) (l := List.range 8)
    simpa [popB] using this
  generalize popB (q : Int) = n at h8
  rcases (show n = 0 ∨ n = 1 ∨ n = 2 ∨ n = 3 ∨ n = 4 ∨ n = 5 ∨ n = 6 ∨ n = 7 ∨ n = 8 by omega) with rfl | rfl | rfl | rfl | rfl | rfl | rfl | rfl | rfl <;> decide +kernel

set_option maxRecDepth 100000 in
theorem ones8_any (p : Int) (h0 : 0 ≤ p) (h1 : p ≤ 255) (w : World) :
    Calls Tryz.prog 168 #[.int .u8 p] w fun e w' => e = .returned (.int .i64 (popB p)) ∧ w' = w := by
  go_enter Tryz.func168, Tryz.ntmps168
  go_wp2_with fail
  go_ret
  refine ⟨ret_int ?_, rfl⟩
  exact pop_of _ (by decide +kernel) (by decide +kernel) p h0 h1 _

/-- how many bits of bytes are 1 -/
def pops (m : List Int) : Nat := (m.map popB).sum
theorem pops_snoc {m : List Int} {k : Nat} {x : Int} (h : m[k]? = some x) : pops (m.take (k + 1)) = pops (m.take k) + popB x := by
  unfold pops
  rw [List.take_add_one, h]
  simp
theorem popB_le (p : Int) : popB p ≤ 8 := by
  have := List.countP_le_length (p := fun t => bitOn t p) (l := List.range 8)
  simpa [popB] using this
theorem pops_le (m : List Int) : pops m ≤ 8 * m.length := by
  induction m with
  | nil => simp [pops]
  | cons x r ih => have := popB_le x; simp only [pops, List.map_cons, List.sum_cons, List.length_cons] at *; omega
/-- what is not in a mask -/
def outB (x y : Int) : Bool := bits BinOp.andNot IntKind.u8 x y != 0
/-- whether each bit of a value is one of the mask -/
def insideB (v m : List Int) : Bool := (List.range v.length).all fun i => !outB (v.getD i 0) (m.getD i 0)
theorem inside_yes {v m : List Int} (h : ∀ i, i < v.length → outB (v.getD i 0) (m.getD i 0) = false) : insideB v m = true := by
  unfold insideB
  rw [List.all_eq_true]
  intro j hj
  rw [h j (by simpa using hj)]
  rfl
theorem inside_no {v m : List Int} {i : Nat} (hi : i < v.length) (h : outB (v.getD i 0) (m.getD i 0) = true) : insideB v m = false := by
  unfold insideB
  rw [List.all_eq_false]
  exact ⟨i, by simpa using hi, by rw [h]; simp⟩
/-- what is wrong of a mask of so many bits, and of the value under it -/
def maskE (v m : List Int) (n : Int) : Int := if pops m = 0 ∨ (pops m : Int) = n then 1033 else if insideB v m then 0 else 1030

set_option maxRecDepth 100000 in
set_option maxHeartbeats 1000000 in
theorem wrongMask_any (C F : Int) (H : Bool) (X : Int) (va : Option Addr) (vl vc : Nat) (ma : Option Addr) (ml mc : Nat) (v m : List Int) (n : Int) (ev : vl = v.length) (em : ml = m.length) (hvm : v.length ≤ m.length) (hm : m.length ≤ 1000) (hmc : ml ≤ mc) (ov : Octets v) (om : Octets m) (w : World) (iv : Ints .u8 w va v) (im : Ints .u8 w ma m) :
    Calls Tryz.prog 148 #[.agg #[.int .i64 C, .int .i64 F, .bool H, .int .u64 X, .slice va vl vc, .slice ma ml mc], .int .i64 n] w fun e w' => e = .returned (.int .i64 (maskE v m n)) ∧ Below w.heap.size w w' := by
  subst ev
  subst em
  obtain ⟨W, hW, hbW, hbox⟩ := oxm_box w C F H X va v.length vc ma m.length mc
  have HW := hid hW
  have IV := hid (iv.below hbW)
  have IM := hid (im.below hbW)
  have HB := hid hbW
  have OV := hid ov
  have OM := hid om
  obtain ⟨d0, d1, d2, d3, d4, d5⟩ := hbox.six
  clear hW iv im hbW ov om
  go_enter Tryz.func148, Tryz.ntmps148
  go_wp2_with fail
  rw [HW.out]
  go_wp2_with fail
  go_loop [5, 13] (fun s i => ∃ k : Nat, k ≤ m.length ∧ i = .int .i64 k ∧ s = .int .i64 ((pops (m.take k) : Nat) : Int)) (fun _ i => m.length - (intOf i).toNat)
  case atStart => exact ⟨0, Nat.zero_le _, rfl, rfl⟩
  case round =>
    obtain ⟨k, hk, rfl, rfl⟩ := hrel
    by_cases hlt : k < m.length
    · obtain ⟨b, off, x, rfl, hcell, hx⟩ := IM.out.at hlt
      obtain ⟨x1, x2⟩ := OM.out.get hx.out
      have hs := hid (pops_snoc hx.out)
      have h8 := popB_le x
      have hq1 := pops_le (m.take k)
      rw [List.length_take] at hq1
      have hq2 : pops (m.take k) ≤ 8000 := by omega
      clear hq1
      go_wp2_with (go_at_call 168; refine (ones8_any x x1 x2 _).mono ?_; rintro e w' ⟨rfl, rfl⟩)
      go_round
      case rel => exact ⟨k + 1, by omega, by go_num, by rw [hs.out]; simp⟩
      case measure => simp [intOf]; omega
    · have e : pops (m.take k) = pops m := by rw [List.take_of_length_le (by omega)]
      rw [e]
      clear e hk
      obtain ⟨q, hq⟩ : ∃ q, pops m = q := ⟨_, rfl⟩
      rw [hq]
      have hlt2 : ¬ (k : Int) < (m.length : Int) := by omega
      by_cases h0 : q = 0
      · subst h0
        have E := hid (show maskE v m n = 1033 by simp [maskE, hq])
        clear hq hlt
        go_wp2_with fail
        go_ret
        exact ⟨ret_int E.out.symm, HB.out⟩
      have i0 : ((q : Int) == 0) = false := by simp; omega
      by_cases h1 : (q : Int) = n
      · have E := hid (show maskE v m n = 1033 by simp [maskE, hq, h1])
        have i1 : ((q : Int) == n) = true := by simp [h1]
        clear hq hlt h0 h1
        go_wp2_with fail
        go_ret
        exact ⟨ret_int E.out.symm, HB.out⟩
      have i1 : ((q : Int) == n) = false := by simpa using h1
      have E := hid (show maskE v m n = if insideB v m then 0 else 1030 by simp [maskE, hq, h0, h1])
      clear hq hlt h0 h1
      go_wp2_with fail
      go_loop [32] (fun i => ∃ k : Nat, k ≤ v.length ∧ i = .int .i64 k ∧ Hid (∀ j, j < k → outB (v.getD j 0) (m.getD j 0) = false)) (fun i => v.length - (intOf i).toNat)
      case atStart => exact ⟨0, Nat.zero_le _, rfl, fun j h => by omega⟩
      case round =>
        obtain ⟨k, hk, rfl, hall⟩ := hrel
        by_cases hlt : k < v.length
        · obtain ⟨b, off, x, rfl, hcell, hx⟩ := IV.out.at hlt
          obtain ⟨b2, off2, y, rfl, hcell2, hy⟩ := IM.out.at (show k < m.length by omega)
          have px := getD_of hx.out
          have py := getD_of hy.out
          have hk2 : (k : Int) < (m.length : Int) := by omega
          cases hq : outB x y
          · have HN := hid (upto_more (P := fun j => outB (v.getD j 0) (m.getD j 0) = false) hall.out (by rw [px, py]; exact hq))
            have hq2 : (bits BinOp.andNot IntKind.u8 x y != 0) = false := hq
            clear hq px py
            go_wp2_with fail
            go_round
            case rel => exact ⟨k + 1, by omega, by go_num, HN⟩
            case measure => simp [intOf]; omega
          · have HN := hid (inside_no (m := m) hlt (by rw [px, py]; exact hq))
            have hq2 : (bits BinOp.andNot IntKind.u8 x y != 0) = true := hq
            clear hq px py
            go_wp2_with fail
            go_ret
            exact ⟨ret_int (by rw [E.out, HN.out]; rfl), HB.out⟩
        · obtain rfl : k = v.length := by omega
          have HN := hid (inside_yes (m := m) hall.out)
          go_wp2_with fail
          go_ret
          exact ⟨ret_int (by rw [E.out, HN.out]; rfl), HB.out⟩
end Go.Proofs.YtdjlbejhphbcoaaGreat
namespace Go.Proofs.YtdjlbejhphbcoaaGreat
open Go.RowKit
set_option linter.unusedVariables false

theorem ref8Zeros_any (l : List Int) (a : Option Addr) (cap : Nat) (w : World) (hm : l.length ≤ 9223372036854775807) (hc : Ints .u8 w a l) :
    Calls Tryz.prog 151 #[.slice a l.length cap] w fun e w' => e = .returned (.bool (zeros l)) ∧ w = w' := by
  go_enter Tryz.func151, Tryz.ntmps151
  go_wp2
  go_loop [3] (fun i => ∃ k : Nat, k ≤ l.length ∧ i = .int .i64 k ∧ Hid (zeros (l.take k) = true)) (fun i => l.length - (intOf i).toNat)
  case atStart => exact ⟨0, Nat.zero_le _, rfl, rfl⟩
  case round =>
    obtain ⟨k, hk, rfl, hall⟩ := hrel
    by_cases hlt : k < l.length
    · obtain ⟨b, off, x, rfl, hcell, hx⟩ := hc.at hlt
      by_cases h0 : x = 0
      · subst h0
        have HN := hid (zeros_succ hx.out hall.out rfl)
        go_wp2_with fail
        go_round
        case rel => exact ⟨k + 1, by omega, by go_num, HN⟩
        case measure => simp [intOf]; omega
      · have HN := hid (zeros_false hx.out h0)
        have e0 : (x != 0) = true := by simpa using h0
        clear h0
        go_wp2_with fail
        go_ret
        exact ⟨ret_bool HN.out.symm, rfl⟩
    · have e : l.take k = l := List.take_of_length_le (by omega)
      rw [e] at hall
      go_wp2_with fail
      go_ret
      exact ⟨ret_bool hall.out.symm, rfl⟩

theorem bit_table : ∀ (p : Fin 256) (k : Fin 8), (bits BinOp.and IntKind.u8 ((p.val : Int) / 2 ^ k.val) 1 == 0) = !(bits BinOp.and IntKind.u8 ((p.val : Int) / 2 ^ k.val) 1 == 1) := by decide +kernel
theorem bit_not {p : Int} (h0 : 0 ≤ p) (h1 : p ≤ 255) (k : Nat) : (bits BinOp.and IntKind.u8 (p / 2 ^ (k % 8)) 1 == 0) = !bitOn k p := by
  obtain ⟨q, rfl⟩ := Int.eq_ofNat_of_zero_le h0
  exact bit_table ⟨q, by omega⟩ ⟨k % 8, by omega⟩
theorem bit_off {p : Int} (h0 : 0 ≤ p) (h1 : p ≤ 255) {k : Nat} (h : bitOn k p = false) : (bits BinOp.and IntKind.u8 (p / 2 ^ (k % 8)) 1 == 0) = true := by rw [bit_not h0 h1, h]; rfl
theorem bit_on {p : Int} (h0 : 0 ≤ p) (h1 : p ≤ 255) {k : Nat} (h : bitOn k p = true) : (bits BinOp.and IntKind.u8 (p / 2 ^ (k % 8)) 1 == 0) = false := by rw [bit_not h0 h1, h]; rfl
/-- whether the lowest bits are 1 -/
def onesB (m : List Int) (n : Nat) : Bool := (List.range n).all fun k => bitOn k (m.getD (m.length - 1 - k / 8) 0)
theorem ones_yes {m : List Int} {n : Nat} (h : ∀ k, k < n → bitOn k (m.getD (m.length - 1 - k / 8) 0) = true) : onesB m n = true := by
  unfold onesB
  rw [List.all_eq_true]
  intro j hj
  exact h j (by simpa using hj)
theorem ones_no {m : List Int} {n k : Nat} (hk : k < n) (h : bitOn k (m.getD (m.length - 1 - k / 8) 0) = false) : onesB m n = false := by
  unfold onesB
  rw [List.all_eq_false]
  exact ⟨k, by simpa using hk, by rw [h]; simp⟩

set_option maxRecDepth 100000 in
theorem ref8Ones_any (m : List Int) (n : Nat) (hn : n ≤ 8 * m.length) (hm : m.length ≤ 1000) (om : Octets m) (a : Option Addr) (cap : Nat) (w : World) (hc : Ints .u8 w a m) :
    Calls Tryz.prog 152 #[.slice a m.length cap, .int .i64 n] w fun e w' => e = .returned (.bool (onesB m n)) ∧ w = w' := by
  go_enter Tryz.func152, Tryz.ntmps152
  go_wp2
  go_loop [5] (fun i => ∃ k : Nat, k ≤ n ∧ i = .int .i64 k ∧ Hid (∀ j, j < k → bitOn j (m.getD (m.length - 1 - j / 8) 0) = true)) (fun i => n - (intOf i).toNat)
  case atStart => exact ⟨0, Nat.zero_le _, rfl, fun j h => by omega⟩
  case round =>
    obtain ⟨k, hk, rfl, hall⟩ := hrel
    by_cases hlt : k < n
    · have hx : m.length - 1 - k / 8 < m.length := by omega
      obtain ⟨b1, o1, p, rfl, e1, g1⟩ := hc.at hx
      have hd : (m.length : Int) - 1 - (k : Int) / 8 = ((m.length - 1 - k / 8 : Nat) : Int) := by omega
      have hp := getD_of g1.out
      have g2 := om.get g1.out
      have HNO := hid (fun h => ones_no (m := m) hlt (by rw [hp]; exact h))
      have HYES := hid (fun h => upto_more (P := fun j => bitOn j (m.getD (m.length - 1 - j / 8) 0) = true) hall.out (by rw [hp]; exact h))
      obtain ⟨j, hj⟩ : ∃ j, m.length - 1 - k / 8 = j := ⟨_, rfl⟩
      rw [hj] at hx e1 hd
      have hj2 : (j : Int) < (m.length : Int) := by omega
      clear hj hp g1
      cases hq : bitOn k p
      · have hq2 : (bits BinOp.and IntKind.u8 (p / 2 ^ (k % 8)) 1 == 1) = false := hq
        have hq3 : (bits BinOp.and IntKind.u8 (p / 2 ^ (k % 8)) 1 == 0) = true := bit_off g2.1 g2.2 hq
        have HN := hid (HNO.out hq)
        clear hq
        go_wp2_with fail
        go_ret
        exact ⟨ret_bool HN.out.symm, rfl⟩
      · have hq3 : (bits BinOp.and IntKind.u8 (p / 2 ^ (k % 8)) 1 == 0) = false := bit_on g2.1 g2.2 hq
        have HY := hid (HYES.out hq)
        clear hq
        go_wp2_with fail
        go_round
        case rel => exact ⟨k + 1, by omega, by go_num, HY⟩
        case measure => simp [intOf]; omega
    · obtain rfl : k = n := by omega
      have HN := hid (ones_yes hall.out)
      go_wp2_with fail
      go_ret
      exact ⟨ret_bool HN.out.symm, rfl⟩

theorem bv_inside (a b : BitVec 8) : (a &&& b = a) ↔ (a &&& ~~~b = 0#8) := by
  constructor
  all_goals
    intro h
    apply BitVec.eq_of_getElem_eq
    intro i hi
    have hh := congrArg (fun v => v[i]'hi) h
    simp at hh ⊢
    cases ha : a[i] <;> cases hb : b[i] <;> simp_all
theorem out_and {x y : Int} (h0 : 0 ≤ x) (h1 : x ≤ 255) : (bits BinOp.and IntKind.u8 x y != x) = outB x y := by
  obtain ⟨q, rfl⟩ := Int.eq_ofNat_of_zero_le h0
  obtain ⟨b, hb⟩ : ∃ b, BitVec.ofInt 8 y = b := ⟨_, rfl⟩
  have ha : BitVec.ofInt 8 (q : Int) = BitVec.ofNat 8 q := rfl
  have hq : (BitVec.ofNat 8 q).toNat = q := by simp; omega
  have e1 : bits BinOp.and IntKind.u8 (q : Int) y = ((BitVec.ofNat 8 q &&& b).toNat : Int) := by
    show IntKind.u8.wrap ((BitVec.ofInt 8 (q : Int) &&& BitVec.ofInt 8 y).toNat : Int) = _
    rw [ha, hb, wrap_u8]
    have := (BitVec.ofNat 8 q &&& b).isLt
    omega
  have e2 : bits BinOp.andNot IntKind.u8 (q : Int) y = ((BitVec.ofNat 8 q &&& ~~~b).toNat : Int) := by
    show IntKind.u8.wrap ((BitVec.ofInt 8 (q : Int) &&& ~~~(BitVec.ofInt 8 y)).toNat : Int) = _
    rw [ha, hb, wrap_u8]
    have := (BitVec.ofNat 8 q &&& ~~~b).isLt
    omega
  unfold outB
  rw [e1, e2, Bool.eq_iff_iff]
  simp only [bne_iff_ne, ne_eq]
  refine not_congr ?_
  rw [show (0 : Int) = ((0#8 : BitVec 8).toNat : Int) from rfl, show (q : Int) = ((BitVec.ofNat 8 q).toNat : Int) by rw [hq]]
  rw [Int.natCast_inj, Int.natCast_inj, BitVec.toNat_inj, BitVec.toNat_inj]
  exact bv_inside _ _

theorem below_drewN (w : World) (n : Nat) : Below w.heap.size w (w.drewN n) := by_none_below (by_none_drewN w n)
set_option maxRecDepth 100000 in
theorem ref8Inside_any (v m : List Int) (hvm : v.length ≤ m.length) (hm : m.length ≤ 1000) (ov : Octets v) (om : Octets m) (a b : Option Addr) (c d : Nat) (w : World) (iv : Ints .u8 w a v) (im : Ints .u8 w b m) :
    Calls Tryz.prog 153 #[.slice a v.length c, .slice b m.length d] w fun e w' => e = .returned (.bool (insideB v m)) ∧ Below w.heap.size w w' := by
  go_enter Tryz.func153, Tryz.ntmps153
  go_wp2
  go_loopw [5] (fun i wr => ∃ k n : Nat, k ≤ v.length ∧ i = .int .i64 k ∧ Hid (∀ j, j < k → outB (v.getD j 0) (m.getD j 0) = false) ∧ wr = w.drewN n) (fun i _ => v.length - (intOf i).toNat)
  case atStart => exact ⟨0, 0, Nat.zero_le _, rfl, fun j h => by omega, rfl⟩
  case round =>
    obtain ⟨k, n, hk, rfl, hall, rfl⟩ := hrel
    by_cases hlt : k < v.length
    · obtain ⟨b1, o1, x, rfl, e1, hx⟩ := iv.at hlt
      obtain ⟨b2, o2, y, rfl, e2, hy⟩ := im.at (show k < m.length by omega)
      have px := getD_of hx.out
      have py := getD_of hy.out
      have gx := ov.get hx.out
      have gy := om.get hy.out
      have hk2 : (k : Int) < (m.length : Int) := by omega
      have hq := out_and (y := y) gx.1 gx.2
      have HNO := hid (fun h => inside_no (m := m) hlt (by rw [px, py]; exact h))
      have HYES := hid (fun h => upto_more (P := fun j => outB (v.getD j 0) (m.getD j 0) = false) hall.out (by rw [px, py]; exact h))
      clear px py gx gy
      cases h : outB x y
      · rw [h] at hq
        have HN := hid (HYES.out h)
        clear h
        go_wp2
        go_quiet (fail)
        go_wp2
        go_roundw
        case rel => exact ⟨k + 1, _, by omega, by go_num, HN, rfl⟩
        case measure => simp [intOf]; omega
      · rw [h] at hq
        have HN := hid (HNO.out h)
        clear h
        go_wp2
        go_quiet (fail)
        go_wp2
        go_ret
        exact ⟨ret_bool HN.out.symm, by first | exact below_drewN _ _ | (rw [World.drewN_drewN]; exact below_drewN _ _)⟩
    · obtain rfl : k = v.length := by omega
      have HN := hid (inside_yes (m := m) hall.out)
      go_wp2
      go_ret
      exact ⟨ret_bool HN.out.symm, below_drewN _ _⟩
end Go.Proofs.YtdjlbejhphbcoaaGreat
namespace Go.Proofs.YtdjlbejhphbcoaaGreat
open Go.RowKit
set_option linter.unusedVariables false

theorem pops_count (m : List Int) : pops m = (List.range (8 * m.length)).countP fun i => bitOn i (m.getD (m.length - 1 - i / 8) 0) := by
  induction m with
  | nil => rfl
  | cons x r ih =>
    rw [List.length_cons, show 8 * (r.length + 1) = 8 * r.length + 8 by omega, List.range_add, List.countP_append, List.countP_map]
    have e1 : (List.range (8 * r.length)).countP (fun i => bitOn i ((x :: r).getD (r.length + 1 - 1 - i / 8) 0)) = pops r := by
      rw [ih]
      refine List.countP_congr fun i hi => ?_
      have hi' : i < 8 * r.length := by simpa using hi
      have : r.length + 1 - 1 - i / 8 = (r.length - 1 - i / 8) + 1 := by omega
      rw [this, List.getD_cons_succ]
    have e2 : (List.range 8).countP ((fun i => bitOn i ((x :: r).getD (r.length + 1 - 1 - i / 8) 0)) ∘ fun t => 8 * r.length + t) = popB x := by
      unfold popB
      refine List.countP_congr fun t ht => ?_
      have ht' : t < 8 := by simpa using ht
      simp only [Function.comp]
      have : r.length + 1 - 1 - (8 * r.length + t) / 8 = 0 := by omega
      rw [this, List.getD_cons_zero, ← bitOn_mod, show (8 * r.length + t) % 8 = t by omega]
    rw [e1, e2]
    simp [pops]
    omega

theorem pop_zero_table : ∀ p : Fin 256, (popB (p.val : Int) == 0) = ((p.val : Int) == 0) := by decide +kernel
theorem pop_zero {p : Int} (h0 : 0 ≤ p) (h1 : p ≤ 255) : (popB p == 0) = (p == 0) := by
  obtain ⟨q, rfl⟩ := Int.eq_ofNat_of_zero_le h0
  exact pop_zero_table ⟨q, by omega⟩
theorem zeros_pops {m : List Int} (om : Octets m) : zeros m = decide (pops m = 0) := by
  induction m with
  | nil => rfl
  | cons x r ih =>
    have hx := om x (by simp)
    have ir := ih (fun y hy => om y (by simp [hy]))
    have e := pop_zero hx.1 hx.2
    have e3 : pops (x :: r) = popB x + pops r := by simp [pops]
    have e4 : zeros (x :: r) = ((x == 0) && zeros r) := by simp [zeros]
    rw [e3, e4, ir, ← e]
    by_cases h1 : popB x = 0 <;> by_cases h2 : pops r = 0 <;> simp [h1, h2]

/-- where no bit above the lowest n is 1: all of these are 1, if just as many are -/
theorem ones_pops {m : List Int} {n : Nat} (hn : n ≤ 8 * m.length) (hf : ∀ k, n ≤ k → k < 8 * m.length → bitOn k (m.getD (m.length - 1 - k / 8) 0) = false) : onesB m n = decide (pops m = n) := by
  rw [pops_count]
  obtain ⟨d, hd⟩ : ∃ d, 8 * m.length = n + d := ⟨8 * m.length - n, by omega⟩
  rw [hd, List.range_add, List.countP_append, List.countP_map]
  have e2 : (List.range d).countP ((fun i => bitOn i (m.getD (m.length - 1 - i / 8) 0)) ∘ fun t => n + t) = 0 := by
    rw [List.countP_eq_zero]
    intro t ht
    have ht' : t < d := by simpa using ht
    simp only [Function.comp]
    rw [hf (n + t) (by omega) (by omega)]
    simp
  rw [e2, Nat.add_zero]
  have e := List.countP_eq_length (p := fun i => bitOn i (m.getD (m.length - 1 - i / 8) 0)) (l := List.range n)
  rw [List.length_range] at e
  rw [Bool.eq_iff_iff, decide_eq_true_eq, e]
  unfold onesB
  rw [List.all_eq_true]
theorem ones_all {m : List Int} : onesB m (8 * m.length) = decide (pops m = 8 * m.length) := ones_pops (Nat.le_refl _) (fun k h1 h2 => by omega)
/-- a mask that fits its field has no bit above the field's -/
theorem fits_above {n : Int} {m : List Int} (h : fitsB n m = true) (om : Octets m) : (fld n).b.toNat ≤ 8 * m.length ∧ m.length = (fld n).z ∧ (0 ≤ n ∧ n < 40) ∧ 0 ≤ (fld n).b ∧ ∀ k, (fld n).b.toNat ≤ k → k < 8 * m.length → bitOn k (m.getD (m.length - 1 - k / 8) 0) = false := by
  unfold fitsB at h
  simp only [Bool.and_eq_true, decide_eq_true_eq] at h
  obtain ⟨⟨hn, hl⟩, hf⟩ := h
  obtain ⟨b0, b1, b2, b3⟩ := fld_dims hn
  refine ⟨by omega, hl, hn, b0, fun k h1 h2 => ?_⟩
  cases hb : bitOn k (m.getD (m.length - 1 - k / 8) 0)
  · rfl
  · exfalso
    rw [hl] at hb
    have := fitV_bit (A := (8 * ((fld n).z : Int) - (fld n).b).toNat) (b := (fld n).b) om hl (by omega) (k := k) (by omega) (by omega) hb
    rw [this] at hf
    exact absurd hf (by simp)
end Go.Proofs.YtdjlbejhphbcoaaGreat
namespace Go.Proofs.YtdjlbejhphbcoaaGreat
open Go.RowKit
set_option linter.unusedVariables false

/-- what is wrong first with Class, Field, Has and the length of what is behind -/
def headE (C F : Int) (H : Bool) (n : Int) : Int :=
  if C = 32768 then (if ¬ (0 ≤ F ∧ F < 40) then 1031 else if (H && !(fld F).m) = true then 1033 else if n ≠ ((fld F).z : Int) * pieces8 H then 1026 else 0)
  else if C = 65535 then (if n - 4 < 0 ∨ (n - 4) % (pieces8 H : Int) ≠ 0 ∨ 100 * (pieces8 H : Int) < n - 4 then 1026 else 0)
  else 1031

theorem pieces8_off (C F X : Int) (va : Option Addr) (vl vc : Nat) (ma : Option Addr) (ml mc : Nat) (W : World) :
    Calls Tryz.prog 146 #[.agg #[.int .i64 C, .int .i64 F, .bool false, .int .u64 X, .slice va vl vc, .slice ma ml mc]] W fun e w' => e = .returned (.int .i64 1) ∧ Below W.heap.size W w' :=
  pieces8_any C F false X va vl vc ma ml mc W
theorem pieces8_on (C F X : Int) (va : Option Addr) (vl vc : Nat) (ma : Option Addr) (ml mc : Nat) (W : World) :
    Calls Tryz.prog 146 #[.agg #[.int .i64 C, .int .i64 F, .bool true, .int .u64 X, .slice va vl vc, .slice ma ml mc]] W fun e w' => e = .returned (.int .i64 2) ∧ Below W.heap.size W w' :=
  pieces8_any C F true X va vl vc ma ml mc W
/-- a field, boxed -/
theorem fld_box (w : World) (b z : Int) (m : Bool) (d : Int) (v : Value) : ∃ W, w.alloc (.cells #[.int .i64 b, .int .i64 z, .bool m, .int .i64 d, v] 170) = W ∧ Below w.heap.size w W ∧ BoxL W w.heap.size [.int .i64 b, .int .i64 z, .bool m, .int .i64 d, v] :=
  ⟨_, rfl, below_alloc _ _, BoxL.new _ _ _⟩

set_option maxRecDepth 100000 in
set_option maxHeartbeats 1000000 in
theorem wrongHead_basic (F : Int) (H : Bool) (X : Int) (va : Option Addr) (vl vc : Nat) (ma : Option Addr) (ml mc : Nat) (n : Int) (w : World) :
    Calls Tryz.prog 118 #[.agg #[.int .i64 32768, .int .i64 F, .bool H, .int .u64 X, .slice va vl vc, .slice ma ml mc], .int .i64 n] w fun e w' => e = .returned (.int .i64 (headE 32768 F H n)) ∧ Below w.heap.size w w' := by
  obtain ⟨W, hW, hbW, hbox⟩ := oxm_box w 32768 F H X va vl vc ma ml mc
  have HW := hid hW
  have HB := hid hbW
  have HO := fun W => fldOf_any F W
  have HP := hid (fun W => pieces8_any 32768 F H X va vl vc ma ml mc W)
  obtain ⟨d0, d1, d2, d3, d4, d5⟩ := hbox.six
  by_cases hF : 0 ≤ F ∧ F < 40
  · have he : headE 32768 F H n = if (H && !(fld F).m) = true then 1033 else if n ≠ ((fld F).z : Int) * pieces8 H then 1026 else 0 := by simp [headE, hF]
    rw [he]
    rw [decide_eq_true hF] at HO
    have hz : ((fld F).z : Int) ≤ 16 := by have := (fld_dims hF).2.2.2; omega
    clear he
    obtain ⟨f, hf⟩ : ∃ f, fld F = f := ⟨_, rfl⟩
    rw [hf] at HO hz ⊢
    unfold fldV at HO
    have HO := hid HO
    clear hW hbW hf hF
    rcases (show (H = true ∧ f.m = false) ∨ (H = false ∨ H = true ∧ f.m = true) by cases H <;> cases f.m <;> simp) with ⟨rfl, hfm⟩ | rfl | ⟨rfl, hfm⟩
    · rw [hfm] at HO ⊢
      clear hfm
      go_enter Tryz.func118, Tryz.ntmps118
      go_wp2_with fail
      rw [HW.out]
      go_wp2_with fail
      refine (HO.out _).mono ?_
      rintro e w1 ⟨v, rfl, ⟨a', c', rfl, hI⟩, hb⟩
      clear hI
      have hbx := hbox.below hb
      have hlt := hbx.lt
      have n2 : ¬ w.heap.size = w1.heap.size := by omega
      obtain ⟨d0, d1, d2, d3, d4, d5⟩ := hbx.six
      have HB1 := hid (below_on HB.out hb)
      go_wp2_with fail
      go_ret
      exact ⟨rfl, below_on HB1.out (below_alloc _ _)⟩
    · have e : (if (false && !f.m) = true then 1033 else if n ≠ (f.z : Int) * (pieces8 false : Nat) then 1026 else 0 : Int) = if n ≠ (f.z : Int) * (pieces8 false : Nat) then 1026 else 0 := by simp
      rw [e]
      clear e
      replace HP := hid (fun W => (pieces8_off 32768 F X va vl vc ma ml mc W))
      obtain ⟨r, hr⟩ : ∃ r : Int, ((f.z : Int) : Int) = r := ⟨_, rfl⟩
      by_cases hn : n = (f.z : Int)
      · have e : (if n ≠ (f.z : Int) * (pieces8 false : Nat) then 1026 else 0 : Int) = 0 := by simp [pieces8, hn]
        rw [e]
        have hn2 : (n != (f.z : Int)) = false := by simpa using hn
        clear e hr hn
        go_enter Tryz.func118, Tryz.ntmps118
        go_wp2_with fail
        rw [HW.out]
        go_wp2_with fail
        refine (HO.out _).mono ?_
        rintro e w1 ⟨v, rfl, ⟨a', c', rfl, hI⟩, hb⟩
        clear hI
        have hbx := hbox.below hb
        have hlt := hbx.lt
        have n2 : ¬ w.heap.size = w1.heap.size := by omega
        obtain ⟨d0, d1, d2, d3, d4, d5⟩ := hbx.six
        have HB1 := hid (below_on HB.out hb)
        go_wp2_with fail
        obtain ⟨W1, rfl, hbW1, hbox1⟩ := fld_box w1 f.b f.z f.m f.d (.slice a' f.v.length c')
        have HB2 := hid (below_on HB1.out hbW1)
        clear d0 d1 d2 d3 d4 d5
        obtain ⟨d0, d1, d2, d3, d4, d5⟩ := (hbx.below hbW1).six
        have c0 := Wk.cell d0
        have c1 := Wk.cell d1
        have c2 := Wk.cell d2
        have c3 := Wk.cell d3
        have c4 := Wk.cell d4
        have c5 := Wk.cell d5
        obtain ⟨_, g1, _, _, _⟩ := hbox1.five
        have k1 := Wk.cell g1
        clear d0 d1 d2 d3 d4 d5 g1
        refine wp_region_wk (by kernel_rfl) (by kernel_rfl) ?_
        repeat (go_big_quiet_step ((go_at_call 146; exact Wk.call (HP.out _))))
        refine wpQuiet_nil ?_
        rintro w2 ⟨⟨_, hb2⟩, rfl⟩
        go_wp2_with fail
        go_ret
        exact ⟨rfl, below_on HB2.out hb2⟩
      · have e : (if n ≠ (f.z : Int) * (pieces8 false : Nat) then 1026 else 0 : Int) = 1026 := by simp [pieces8, hn]
        rw [e]
        have hn2 : (n != (f.z : Int)) = true := by simpa using hn
        clear e hr hn
        go_enter Tryz.func118, Tryz.ntmps118
        go_wp2_with fail
        rw [HW.out]
        go_wp2_with fail
        refine (HO.out _).mono ?_
        rintro e w1 ⟨v, rfl, ⟨a', c', rfl, hI⟩, hb⟩
        clear hI
        have hbx := hbox.below hb
        have hlt := hbx.lt
        have n2 : ¬ w.heap.size = w1.heap.size := by omega
        obtain ⟨d0, d1, d2, d3, d4, d5⟩ := hbx.six
        have HB1 := hid (below_on HB.out hb)
        go_wp2_with fail
        obtain ⟨W1, rfl, hbW1, hbox1⟩ := fld_box w1 f.b f.z f.m f.d (.slice a' f.v.length c')
        have HB2 := hid (below_on HB1.out hbW1)
        clear d0 d1 d2 d3 d4 d5
        obtain ⟨d0, d1, d2, d3, d4, d5⟩ := (hbx.below hbW1).six
        have c0 := Wk.cell d0
        have c1 := Wk.cell d1
        have c2 := Wk.cell d2
        have c3 := Wk.cell d3
        have c4 := Wk.cell d4
        have c5 := Wk.cell d5
        obtain ⟨_, g1, _, _, _⟩ := hbox1.five
        have k1 := Wk.cell g1
        clear d0 d1 d2 d3 d4 d5 g1
        refine wp_region_wk (by kernel_rfl) (by kernel_rfl) ?_
        repeat (go_big_quiet_step ((go_at_call 146; exact Wk.call (HP.out _))))
        refine wpQuiet_nil ?_
        rintro w2 ⟨⟨_, hb2⟩, rfl⟩
        go_wp2_with fail
        go_ret
        exact ⟨rfl, below_on HB2.out hb2⟩
    · have e : (if (true && !f.m) = true then 1033 else if n ≠ (f.z : Int) * (pieces8 true : Nat) then 1026 else 0 : Int) = if n ≠ (f.z : Int) * (pieces8 true : Nat) then 1026 else 0 := by simp [hfm]
      rw [e]
      clear e
      rw [hfm] at HO
      clear hfm
      replace HP := hid (fun W => (pieces8_on 32768 F X va vl vc ma ml mc W))
      obtain ⟨r, hr⟩ : ∃ r : Int, ((f.z : Int) * 2 : Int) = r := ⟨_, rfl⟩
      by_cases hn : n = (f.z : Int) * 2
      · have e : (if n ≠ (f.z : Int) * (pieces8 true : Nat) then 1026 else 0 : Int) = 0 := by simp [pieces8, hn]
        rw [e]
        have hn2 : (n != (f.z : Int) * 2) = false := by simpa using hn
        clear e hr hn
        go_enter Tryz.func118, Tryz.ntmps118
        go_wp2_with fail
        rw [HW.out]
        go_wp2_with fail
        refine (HO.out _).mono ?_
        rintro e w1 ⟨v, rfl, ⟨a', c', rfl, hI⟩, hb⟩
        clear hI
        have hbx := hbox.below hb
        have hlt := hbx.lt
        have n2 : ¬ w.heap.size = w1.heap.size := by omega
        obtain ⟨d0, d1, d2, d3, d4, d5⟩ := hbx.six
        have HB1 := hid (below_on HB.out hb)
        go_wp2_with fail
        obtain ⟨W1, rfl, hbW1, hbox1⟩ := fld_box w1 f.b f.z true f.d (.slice a' f.v.length c')
        have HB2 := hid (below_on HB1.out hbW1)
        clear d0 d1 d2 d3 d4 d5
        obtain ⟨d0, d1, d2, d3, d4, d5⟩ := (hbx.below hbW1).six
        have c0 := Wk.cell d0
        have c1 := Wk.cell d1
        have c2 := Wk.cell d2
        have c3 := Wk.cell d3
        have c4 := Wk.cell d4
        have c5 := Wk.cell d5
        obtain ⟨_, g1, _, _, _⟩ := hbox1.five
        have k1 := Wk.cell g1
        clear d0 d1 d2 d3 d4 d5 g1
        refine wp_region_wk (by kernel_rfl) (by kernel_rfl) ?_
        repeat (go_big_quiet_step ((go_at_call 146; exact Wk.call (HP.out _))))
        refine wpQuiet_nil ?_
        rintro w2 ⟨⟨_, hb2⟩, rfl⟩
        go_wp2_with fail
        go_ret
        exact ⟨rfl, below_on HB2.out hb2⟩
      · have e : (if n ≠ (f.z : Int) * (pieces8 true : Nat) then 1026 else 0 : Int) = 1026 := by simp [pieces8, hn]
        rw [e]
        have hn2 : (n != (f.z : Int) * 2) = true := by simpa using hn
        clear e hr hn
        go_enter Tryz.func118, Tryz.ntmps118
        go_wp2_with fail
        rw [HW.out]
        go_wp2_with fail
        refine (HO.out _).mono ?_
        rintro e w1 ⟨v, rfl, ⟨a', c', rfl, hI⟩, hb⟩
        clear hI
        have hbx := hbox.below hb
        have hlt := hbx.lt
        have n2 : ¬ w.heap.size = w1.heap.size := by omega
        obtain ⟨d0, d1, d2, d3, d4, d5⟩ := hbx.six
        have HB1 := hid (below_on HB.out hb)
        go_wp2_with fail
        obtain ⟨W1, rfl, hbW1, hbox1⟩ := fld_box w1 f.b f.z true f.d (.slice a' f.v.length c')
        have HB2 := hid (below_on HB1.out hbW1)
        clear d0 d1 d2 d3 d4 d5
        obtain ⟨d0, d1, d2, d3, d4, d5⟩ := (hbx.below hbW1).six
        have c0 := Wk.cell d0
        have c1 := Wk.cell d1
        have c2 := Wk.cell d2
        have c3 := Wk.cell d3
        have c4 := Wk.cell d4
        have c5 := Wk.cell d5
        obtain ⟨_, g1, _, _, _⟩ := hbox1.five
        have k1 := Wk.cell g1
        clear d0 d1 d2 d3 d4 d5 g1
        refine wp_region_wk (by kernel_rfl) (by kernel_rfl) ?_
        repeat (go_big_quiet_step ((go_at_call 146; exact Wk.call (HP.out _))))
        refine wpQuiet_nil ?_
        rintro w2 ⟨⟨_, hb2⟩, rfl⟩
        go_wp2_with fail
        go_ret
        exact ⟨rfl, below_on HB2.out hb2⟩
  · have he : headE 32768 F H n = 1031 := by simp [headE, hF]
    rw [he]
    rw [decide_eq_false hF, fld_out hF] at HO
    unfold fldV at HO
    have HO := hid HO
    clear hW hbW hF he
    go_enter Tryz.func118, Tryz.ntmps118
    go_wp2_with fail
    rw [HW.out]
    go_wp2_with fail
    refine (HO.out _).mono ?_
    rintro e w1 ⟨v, rfl, ⟨a', c', rfl, hI⟩, hb⟩
    clear hI
    go_wp2_with fail
    go_ret
    exact ⟨rfl, below_on (below_on HB.out hb) (below_alloc _ _)⟩

set_option maxRecDepth 100000 in
set_option maxHeartbeats 1000000 in
theorem wrongHead_extra (F : Int) (H : Bool) (X : Int) (va : Option Addr) (vl vc : Nat) (ma : Option Addr) (ml mc : Nat) (n : Int) (w : World) (h0 : 0 ≤ n) (h1 : n ≤ 100000) :
    Calls Tryz.prog 118 #[.agg #[.int .i64 65535, .int .i64 F, .bool H, .int .u64 X, .slice va vl vc, .slice ma ml mc], .int .i64 n] w fun e w' => e = .returned (.int .i64 (headE 65535 F H n)) ∧ Below w.heap.size w w' := by
  obtain ⟨W, hW, hbW, hbox⟩ := oxm_box w 65535 F H X va vl vc ma ml mc
  have HW := hid hW
  have HB := hid hbW
  obtain ⟨d0, d1, d2, d3, d4, d5⟩ := hbox.six
  clear hW hbW
  by_cases hn : n - 4 < 0
  · have e : headE 65535 F H n = 1026 := by simp [headE, hn]
    rw [e]
    clear e
    go_enter Tryz.func118, Tryz.ntmps118
    go_wp2_with fail
    rw [HW.out]
    go_wp2_with fail
    go_ret
    exact ⟨rfl, HB.out⟩
  · cases H
    · have HP := hid (fun W => pieces8_off 65535 F X va vl vc ma ml mc W)
      have e : headE 65535 F false n = if 100 < n - 4 then 1026 else 0 := by simp [headE, hn, pieces8, Int.emod_one]
      rw [e]
      clear e
      by_cases hm : 100 < n - 4
      · rw [if_pos hm]
        go_enter Tryz.func118, Tryz.ntmps118
        go_wp2_with fail
        rw [HW.out]
        go_wp2_with fail
        refine (HP.out _).mono ?_
        rintro e w1 ⟨rfl, hb1⟩
        clear d0 d1 d2 d3 d4 d5
        obtain ⟨d0, d1, d2, d3, d4, d5⟩ := (hbox.below hb1).six
        go_wp2_with fail
        refine (HP.out _).mono ?_
        rintro e w2 ⟨rfl, hb2⟩
        go_wp2_with fail
        go_ret
        exact ⟨rfl, below_on (below_on HB.out hb1) hb2⟩
      · rw [if_neg hm]
        go_enter Tryz.func118, Tryz.ntmps118
        go_wp2_with fail
        rw [HW.out]
        go_wp2_with fail
        refine (HP.out _).mono ?_
        rintro e w1 ⟨rfl, hb1⟩
        clear d0 d1 d2 d3 d4 d5
        obtain ⟨d0, d1, d2, d3, d4, d5⟩ := (hbox.below hb1).six
        go_wp2_with fail
        refine (HP.out _).mono ?_
        rintro e w2 ⟨rfl, hb2⟩
        go_wp2_with fail
        go_ret
        exact ⟨rfl, below_on (below_on HB.out hb1) hb2⟩
    · have HP := hid (fun W => pieces8_on 65535 F X va vl vc ma ml mc W)
      by_cases hr : (n - 4) % 2 = 0
      · have hr2 : ((n - 4) % 2 != 0) = false := by simpa using hr
        have e : headE 65535 F true n = if 200 < n - 4 then 1026 else 0 := by simp [headE, hn, pieces8, hr]
        rw [e]
        clear e hr
        by_cases hm : 200 < n - 4
        · rw [if_pos hm]
          go_enter Tryz.func118, Tryz.ntmps118
          go_wp2_with fail
          rw [HW.out]
          go_wp2_with fail
          refine (HP.out _).mono ?_
          rintro e w1 ⟨rfl, hb1⟩
          clear d0 d1 d2 d3 d4 d5
          obtain ⟨d0, d1, d2, d3, d4, d5⟩ := (hbox.below hb1).six
          go_wp2_with fail
          refine (HP.out _).mono ?_
          rintro e w2 ⟨rfl, hb2⟩
          go_wp2_with fail
          go_ret
          exact ⟨rfl, below_on (below_on HB.out hb1) hb2⟩
        · rw [if_neg hm]
          go_enter Tryz.func118, Tryz.ntmps118
          go_wp2_with fail
          rw [HW.out]
          go_wp2_with fail
          refine (HP.out _).mono ?_
          rintro e w1 ⟨rfl, hb1⟩
          clear d0 d1 d2 d3 d4 d5
          obtain ⟨d0, d1, d2, d3, d4, d5⟩ := (hbox.below hb1).six
          go_wp2_with fail
          refine (HP.out _).mono ?_
          rintro e w2 ⟨rfl, hb2⟩
          go_wp2_with fail
          go_ret
          exact ⟨rfl, below_on (below_on HB.out hb1) hb2⟩
      · have hr2 : ((n - 4) % 2 != 0) = true := by simpa using hr
        have e : headE 65535 F true n = 1026 := by simp [headE, pieces8, hr]
        rw [e]
        clear e hr
        go_enter Tryz.func118, Tryz.ntmps118
        go_wp2_with fail
        rw [HW.out]
        go_wp2_with fail
        refine (HP.out _).mono ?_
        rintro e w1 ⟨rfl, hb1⟩
        clear d0 d1 d2 d3 d4 d5
        obtain ⟨d0, d1, d2, d3, d4, d5⟩ := (hbox.below hb1).six
        go_wp2_with fail
        go_ret
        exact ⟨rfl, below_on HB.out hb1⟩

set_option maxRecDepth 100000 in
theorem wrongHead_none (C F : Int) (hb : (C == 32768) = false) (hx : (C == 65535) = false) (H : Bool) (X : Int) (va : Option Addr) (vl vc : Nat) (ma : Option Addr) (ml mc : Nat) (n : Int) (w : World) :
    Calls Tryz.prog 118 #[.agg #[.int .i64 C, .int .i64 F, .bool H, .int .u64 X, .slice va vl vc, .slice ma ml mc], .int .i64 n] w fun e w' => e = .returned (.int .i64 (headE C F H n)) ∧ Below w.heap.size w w' := by
  have e : headE C F H n = 1031 := by
    have h1 : C ≠ 32768 := by simpa using hb
    have h2 : C ≠ 65535 := by simpa using hx
    simp [headE, h1, h2]
  rw [e]
  clear e
  go_enter Tryz.func118, Tryz.ntmps118
  go_wp2
  go_ret
  exact ⟨rfl, below_alloc _ _⟩

theorem wrongHead_any (C F : Int) (H : Bool) (X : Int) (va : Option Addr) (vl vc : Nat) (ma : Option Addr) (ml mc : Nat) (n : Int) (w : World) (h0 : 0 ≤ n) (h1 : n ≤ 100000) :
    Calls Tryz.prog 118 #[.agg #[.int .i64 C, .int .i64 F, .bool H, .int .u64 X, .slice va vl vc, .slice ma ml mc], .int .i64 n] w fun e w' => e = .returned (.int .i64 (headE C F H n)) ∧ Below w.heap.size w w' := by
  by_cases hb : C = 32768
  · subst hb
    exact wrongHead_basic F H X va vl vc ma ml mc n w
  · by_cases hx : C = 65535
    · subst hx
      exact wrongHead_extra F H X va vl vc ma ml mc n w h0 h1
    · exact wrongHead_none C F (by simpa using hb) (by simpa using hx) H X va vl vc ma ml mc n w
end Go.Proofs.YtdjlbejhphbcoaaGreat
namespace Go.Proofs.YtdjlbejhphbcoaaGreat
open Go.RowKit
set_option linter.unusedVariables false

/-- whether the lowest bit of a number is 1 -/
def oddB (n : Int) : Bool := n % 2 == 1
theorem num_byte {l : List Int} (ho : Octets l) : 0 ≤ numL (l.take 1) ∧ numL (l.take 1) ≤ 255 := by
  have h := numL_snoc_bound (ho.take 1)
  have h1 : (l.take 1).length ≤ 1 := by rw [List.length_take]; omega
  have h2 := p256_mono h1
  have h3 : p256 1 = 256 := by decide
  omega
theorem num_two {l : List Int} (ho : Octets l) : 0 ≤ numL (l.take 2) ∧ numL (l.take 2) ≤ 65535 := by
  have h := numL_snoc_bound (ho.take 2)
  have h1 : (l.take 2).length ≤ 2 := by rw [List.length_take]; omega
  have h2 := p256_mono h1
  have h3 : p256 2 = 65536 := by decide
  omega
/-- a store into a block that is new -/
theorem by_set_new {w w1 : World} {row : Option Nat} (h : w.grownBy w1 row) {b i : Nat} (hb : w.heap.size ≤ b) (v : Value) : w.grownBy (w1.setCell ⟨b, i, none⟩ v) row :=
  grownBy_trans h (by_setCell w1 b i v) (.inr fun g hg => by cases hg; exact hb)
theorem by_new_row {w W w1 : World} {g : Nat} (h : w.grownBy W none) (k : W.grownBy w1 (some g)) : w.grownBy w1 (some g) := grownBy_then (grownBy_more h) k
/-- what has been read of a head, in a box -/
theorem box_by {w w' : World} {b g : Nat} {l : List Value} (h : BoxL w b l) (hb : w.grownBy w' (some g)) (hne : b ≠ g) : BoxL w' b l := h.by hb (by simpa using hne)

section
variable {w : World} {g M : Nat} {l : List Int} {r s o : Int}
set_option maxRecDepth 100000 in
set_option maxHeartbeats 2000000 in
theorem readHead8_ok (h : Cur w g M l r s o 0) (hM : M < w.heap.size) (hl : 4 ≤ l.length) {C n L : Int} (hC : numL (l.take 2) = C) (hn : numL ((l.drop 2).take 1) = n) (hL : numL (((l.drop 2).drop 1).take 1) = L) :
    Calls Tryz.prog 169 #[.func (.func 126) #[.pointer (some ⟨g, 0, none⟩)] #[]] w fun e w' => e = .returned (.tuple #[.agg #[.int .i64 C, .int .i64 (n / 2), .bool (oddB n), .int .u64 0, .slice none 0 0, .slice none 0 0], .int .i64 L]) ∧ Cur w' g M (((l.drop 2).drop 1).drop 1) (r + 2 + 1 + 1) s o 0 ∧ w.grownBy w' (some g) := by
  have oct := h.oct
  have hg := h.block_lt
  obtain ⟨W, hW, hbW, hbox⟩ := oxm_box w 0 0 false 0 none 0 0 none 0 0
  have HW := hid hW
  have hcW := h.below hbW
  have hcWX := hid hcW
  have HBW := hid (below_by_none hbW)
  have hne : w.heap.size ≠ g := by omega
  have hMW : M ≠ w.heap.size := by omega
  clear hW hbW
  have c0 := num_two oct
  have n0 := num_byte (oct.drop 2)
  have L0 := num_byte ((oct.drop 2).drop 1)
  rw [hC] at c0
  rw [hn] at n0
  rw [hL] at L0
  obtain ⟨c1, c2⟩ := c0
  obtain ⟨n1, n2⟩ := n0
  obtain ⟨L1, L2⟩ := L0
  have HC := hid hC
  have HN := hid hn
  have HL := hid hL
  have ho := and_one_u64 n n1 (by omega)
  clear hC hn hL oct
  go_enter Tryz.func169, Tryz.ntmps169
  have HX := hid (hcW.num_ok (n := 2) (by decide) (by decide) (by omega))
  clear hcW
  go_wp2_with fail
  rw [HW.out]
  refine HX.out.mono ?_
  rintro e w1 ⟨rfl, hc1, hb⟩
  have hbx1 := box_by hbox hb hne
  have HB1 := hid (by_new_row HBW.out hb)
  rw [HC.out]
  have hc1X := hid hc1
  clear hb HX
  have HX := hid (hc1.num_ok (n := 1) (by decide) (by decide) (by simp only [List.length_drop]; omega))
  clear hc1
  go_wp2_with fail
  refine HX.out.mono ?_
  rintro e w2 ⟨rfl, hc2, hb⟩
  have hbx2 := box_by hbx1 hb hne
  have HB2 := hid (grownBy_then HB1.out hb)
  rw [HN.out]
  have hc2X := hid hc2
  clear hb HX
  have HX := hid (hc2.num_ok (n := 1) (by decide) (by decide) (by simp only [List.length_drop]; omega))
  clear hc2
  go_wp2_with fail
  refine HX.out.mono ?_
  rintro e w3 ⟨rfl, hc3, hb⟩
  have hbx3 := box_by hbx2 hb hne
  have HB3 := hid (grownBy_then HB2.out hb)
  rw [HL.out]
  have hc3X := hid hc3
  clear hb HX
  have z := hbx3.free
  obtain ⟨d0, d1, d2, d3, d4, d5⟩ := hbx3.six
  clear hc3
  go_wp2_with fail
  have hk := hbx3.set6 (.int .i64 C) (.int .i64 (n / 2)) (.bool (n % 2 == 1)) (.int .u64 0) (.slice none 0 0) (.slice none 0 0)
  obtain ⟨k0, k1, k2, k3, k4, k5⟩ := hk.six
  refine bodyPost_ret (v := .tuple #[.agg #[.int .i64 C, .int .i64 (n / 2), .bool (n % 2 == 1), .int .u64 0, .slice none 0 0, .slice none 0 0], .int .i64 L]) (by simp [results, Tryz.results169, go_sem, k0, k1, k2, k3, k4, k5]) rfl ⟨rfl, ?_, ?_⟩
  · repeat (refine Cur.kept ?_ (by_setCell _ _ _ _) (by simpa using hne) (by simpa using fun e => hMW e.symm))
    exact hc3X.out
  · repeat (refine by_set_new ?_ (Nat.le_refl _) _)
    exact HB3.out

theorem and_zero8 : bits BinOp.and IntKind.u64 0 1 = 0 := by decide +kernel
/-- what is read of too few bytes -/
def HeadShort (w : World) (g M : Nat) (s o : Int) (e : Ending) (w' : World) : Prop :=
  ∃ (C n r : Int) (l : List Int), (0 ≤ n ∧ n ≤ 255) ∧ e = .returned (.tuple #[.agg #[.int .i64 C, .int .i64 (n / 2), .bool (oddB n), .int .u64 0, .slice none 0 0, .slice none 0 0], .int .i64 0]) ∧ Cur w' g M l r s o s ∧ w.grownBy w' (some g)
set_option maxRecDepth 100000 in
set_option maxHeartbeats 2000000 in
theorem readHead8_short (h : Cur w g M l r s o 0) (hs : s ≠ 0) (hM : M < w.heap.size) (hl : l.length < 4) :
    Calls Tryz.prog 169 #[.func (.func 126) #[.pointer (some ⟨g, 0, none⟩)] #[]] w (HeadShort w g M s o) := by
  have oct := h.oct
  have hg := h.block_lt
  obtain ⟨W, hW, hbW, hbox⟩ := oxm_box w 0 0 false 0 none 0 0 none 0 0
  have HW := hid hW
  have hcW := h.below hbW
  have hcWX := hid hcW
  have HBW := hid (below_by_none hbW)
  have hne : w.heap.size ≠ g := by omega
  have hMW : M ≠ w.heap.size := by omega
  clear hW hbW
  rcases (show l.length < 2 ∨ l.length = 2 ∨ l.length = 3 by omega) with hl2 | hl2 | hl2
  · have ho := and_zero8
    clear oct
    go_enter Tryz.func169, Tryz.ntmps169
    have HX := hid (hcW.num_short (n := 2) (by decide) (by decide) (by omega))
    clear hcW
    go_wp2_with fail
    rw [HW.out]
    refine HX.out.mono ?_
    rintro e w1 ⟨rfl, hc1, hb⟩
    have hbx1 := box_by hbox hb hne
    have HB1 := hid (by_new_row HBW.out hb)
    have hc1X := hid hc1
    clear hb HX
    have HX := hid (hc1.num_late hs 1)
    clear hc1
    go_wp2_with fail
    refine HX.out.mono ?_
    rintro e w2 ⟨rfl, hb⟩
    have hc2 := hc1X.out.below hb
    have hbx2 := hbx1.below hb
    have HB2 := hid (grownBy_then HB1.out (grownBy_more (below_by_none hb)) : w.grownBy _ (some g))
    have hc2X := hid hc2
    clear hb HX
    have HX := hid (hc2.num_late hs 1)
    clear hc2
    go_wp2_with fail
    refine HX.out.mono ?_
    rintro e w3 ⟨rfl, hb⟩
    have hc3 := hc2X.out.below hb
    have hbx3 := hbx2.below hb
    have HB3 := hid (grownBy_then HB2.out (grownBy_more (below_by_none hb)) : w.grownBy _ (some g))
    have hc3X := hid hc3
    clear hb HX
    have z := hbx3.free
    obtain ⟨d0, d1, d2, d3, d4, d5⟩ := hbx3.six
    clear hc3
    go_wp2_with fail
    have hk := hbx3.set6 (.int .i64 0) (.int .i64 (0)) (.bool (false)) (.int .u64 0) (.slice none 0 0) (.slice none 0 0)
    obtain ⟨k0, k1, k2, k3, k4, k5⟩ := hk.six
    refine bodyPost_ret (v := .tuple #[.agg #[.int .i64 0, .int .i64 (0), .bool (false), .int .u64 0, .slice none 0 0, .slice none 0 0], .int .i64 0]) (by simp [results, Tryz.results169, go_sem, k0, k1, k2, k3, k4, k5]) rfl ⟨0, 0, r, l, by decide, rfl, ?_, ?_⟩
    · repeat (refine Cur.kept ?_ (by_setCell _ _ _ _) (by simpa using hne) (by simpa using fun e => hMW e.symm))
      exact hc3X.out
    · repeat (refine by_set_new ?_ (Nat.le_refl _) _)
      exact HB3.out
  · have c0 := num_two oct
    obtain ⟨C, hC⟩ : ∃ C, numL (l.take 2) = C := ⟨_, rfl⟩
    rw [hC] at c0
    obtain ⟨c1, c2⟩ := c0
    have HC := hid hC
    have ho := and_zero8
    clear oct hC
    go_enter Tryz.func169, Tryz.ntmps169
    have HX := hid (hcW.num_ok (n := 2) (by decide) (by decide) (by omega))
    clear hcW
    go_wp2_with fail
    rw [HW.out]
    refine HX.out.mono ?_
    rintro e w1 ⟨rfl, hc1, hb⟩
    have hbx1 := box_by hbox hb hne
    have HB1 := hid (by_new_row HBW.out hb)
    rw [HC.out]
    have hc1X := hid hc1
    clear hb HX
    have HX := hid (hc1.num_short (n := 1) (by decide) (by decide) (by simp only [List.length_drop]; omega))
    clear hc1
    go_wp2_with fail
    refine HX.out.mono ?_
    rintro e w2 ⟨rfl, hc2, hb⟩
    have hbx2 := box_by hbx1 hb hne
    have HB2 := hid (grownBy_then HB1.out hb)
    have hc2X := hid hc2
    clear hb HX
    have HX := hid (hc2.num_late hs 1)
    clear hc2
    go_wp2_with fail
    refine HX.out.mono ?_
    rintro e w3 ⟨rfl, hb⟩
    have hc3 := hc2X.out.below hb
    have hbx3 := hbx2.below hb
    have HB3 := hid (grownBy_then HB2.out (grownBy_more (below_by_none hb)) : w.grownBy _ (some g))
    have hc3X := hid hc3
    clear hb HX
    have z := hbx3.free
    obtain ⟨d0, d1, d2, d3, d4, d5⟩ := hbx3.six
    clear hc3
    go_wp2_with fail
    have hk := hbx3.set6 (.int .i64 C) (.int .i64 (0)) (.bool (false)) (.int .u64 0) (.slice none 0 0) (.slice none 0 0)
    obtain ⟨k0, k1, k2, k3, k4, k5⟩ := hk.six
    refine bodyPost_ret (v := .tuple #[.agg #[.int .i64 C, .int .i64 (0), .bool (false), .int .u64 0, .slice none 0 0, .slice none 0 0], .int .i64 0]) (by simp [results, Tryz.results169, go_sem, k0, k1, k2, k3, k4, k5]) rfl ⟨C, 0, r + (2 : Nat), l.drop 2, by decide, rfl, ?_, ?_⟩
    · repeat (refine Cur.kept ?_ (by_setCell _ _ _ _) (by simpa using hne) (by simpa using fun e => hMW e.symm))
      exact hc3X.out
    · repeat (refine by_set_new ?_ (Nat.le_refl _) _)
      exact HB3.out
  · have c0 := num_two oct
    have n0 := num_byte (oct.drop 2)
    obtain ⟨C, hC⟩ : ∃ C, numL (l.take 2) = C := ⟨_, rfl⟩
    obtain ⟨n, hn⟩ : ∃ C, numL ((l.drop 2).take 1) = C := ⟨_, rfl⟩
    rw [hC] at c0
    rw [hn] at n0
    obtain ⟨c1, c2⟩ := c0
    obtain ⟨n1, n2⟩ := n0
    have HC := hid hC
    have HN := hid hn
    have ho := and_one_u64 n n1 (by omega)
    clear oct hC hn
    go_enter Tryz.func169, Tryz.ntmps169
    have HX := hid (hcW.num_ok (n := 2) (by decide) (by decide) (by omega))
    clear hcW
    go_wp2_with fail
    rw [HW.out]
    refine HX.out.mono ?_
    rintro e w1 ⟨rfl, hc1, hb⟩
    have hbx1 := box_by hbox hb hne
    have HB1 := hid (by_new_row HBW.out hb)
    rw [HC.out]
    have hc1X := hid hc1
    clear hb HX
    have HX := hid (hc1.num_ok (n := 1) (by decide) (by decide) (by simp only [List.length_drop]; omega))
    clear hc1
    go_wp2_with fail
    refine HX.out.mono ?_
    rintro e w2 ⟨rfl, hc2, hb⟩
    have hbx2 := box_by hbx1 hb hne
    have HB2 := hid (grownBy_then HB1.out hb)
    rw [HN.out]
    have hc2X := hid hc2
    clear hb HX
    have HX := hid (hc2.num_short (n := 1) (by decide) (by decide) (by simp only [List.length_drop]; omega))
    clear hc2
    go_wp2_with fail
    refine HX.out.mono ?_
    rintro e w3 ⟨rfl, hc3, hb⟩
    have hbx3 := box_by hbx2 hb hne
    have HB3 := hid (grownBy_then HB2.out hb)
    have hc3X := hid hc3
    clear hb HX
    have z := hbx3.free
    obtain ⟨d0, d1, d2, d3, d4, d5⟩ := hbx3.six
    clear hc3
    go_wp2_with fail
    have hk := hbx3.set6 (.int .i64 C) (.int .i64 (n / 2)) (.bool (n % 2 == 1)) (.int .u64 0) (.slice none 0 0) (.slice none 0 0)
    obtain ⟨k0, k1, k2, k3, k4, k5⟩ := hk.six
    refine bodyPost_ret (v := .tuple #[.agg #[.int .i64 C, .int .i64 (n / 2), .bool (n % 2 == 1), .int .u64 0, .slice none 0 0, .slice none 0 0], .int .i64 0]) (by simp [results, Tryz.results169, go_sem, k0, k1, k2, k3, k4, k5]) rfl ⟨C, n, r + (2 : Nat) + (1 : Nat), (l.drop 2).drop 1, ⟨n1, n2⟩, rfl, ?_, ?_⟩
    · repeat (refine Cur.kept ?_ (by_setCell _ _ _ _) (by simpa using hne) (by simpa using fun e => hMW e.symm))
      exact hc3X.out
    · repeat (refine by_set_new ?_ (Nat.le_refl _) _)
      exact HB3.out
end
end Go.Proofs.YtdjlbejhphbcoaaGreat
namespace Go.Proofs.YtdjlbejhphbcoaaGreat
open Go.RowKit
set_option linter.unusedVariables false

section
variable {w : World} {g M : Nat} {l : List Int} {r s o f : Int}
/-- memory that is new behind w -/
def New8 (w : World) (a : Option Addr) : Prop := ∀ q : Addr, a = some q → w.heap.size ≤ q.block
/-- two pieces of bytes read -/
def ReadOk (w : World) (g M : Nat) (v m l : List Int) (r s o : Int) (e : Ending) (w' : World) : Prop :=
  ∃ a1 c1 a2 c2, e = .returned (.tuple #[.slice a1 v.length c1, .slice a2 m.length c2]) ∧ Ints .u8 w' a1 v ∧ Ints .u8 w' a2 m ∧ m.length ≤ c2 ∧ New8 w a1 ∧ New8 w a2 ∧ Cur w' g M l r s o 0 ∧ w.grownBy w' (some g)
/-- not enough bytes, or a fault ahead -/
def ReadBad (w : World) (g M : Nat) (s o f : Int) (e : Ending) (w' : World) : Prop :=
  ∃ a1 n1 c1 a2 n2 c2 l r, e = .returned (.tuple #[.slice a1 n1 c1, .slice a2 n2 c2]) ∧ Cur w' g M l r s o f ∧ w.grownBy w' (some g)

theorem bytesPost_open {out : List Int} {e : Ending} {w' : World} (h : BytesPost w g M out l r s o f e w') : ∃ k, e = .returned (.slice (some ⟨k, 0, none⟩) out.length out.length) ∧ (Ints .u8 w' (some ⟨k, 0, none⟩) out ∧ w.heap.size ≤ k) ∧ Cur w' g M l r s o f ∧ w.grownBy w' (some g) := by
  obtain ⟨k, rfl, hG, hc⟩ := h
  obtain ⟨a, c, he, _, _, hI⟩ := own_ints hG.own
  have he1 : a = some ⟨k, 0, none⟩ := by simpa using (congrArg (fun x => match x with | Value.slice a _ _ => a | _ => none) he).symm
  exact ⟨k, rfl, ⟨by rw [← he1]; exact hI, hG.new k rfl⟩, hc, hG.by_⟩

set_option maxRecDepth 100000 in
set_option maxHeartbeats 1000000 in
theorem readBytes_late (h : Cur w g M l r s o f) (hf : f ≠ 0) (H : Bool) (n : Int) (n0 : -10000 ≤ n) (n1 : n ≤ 10000) :
    Calls Tryz.prog 170 #[.func (.func 36) #[.pointer (some ⟨g, 0, none⟩)] #[], .bool H, .int .i64 n] w (ReadBad w g M s o f) := by
  have HF := hid hf
  have HC := hid h
  clear hf
  cases H
  · go_enter Tryz.func170, Tryz.ntmps170
    go_wp2_with fail
    refine (HC.out.bytes_late HF.out _).mono ?_
    intro e w1 h1
    obtain ⟨k, rfl, hI, hc, hb⟩ := bytesPost_open h1
    clear h1 hI
    go_wp2_with fail
    go_ret2
    exact ⟨_, _, _, _, _, _, _, _, rfl, hc, hb⟩
  · go_enter Tryz.func170, Tryz.ntmps170
    go_wp2_with fail
    refine (HC.out.bytes_late HF.out _).mono ?_
    intro e w1 h1
    obtain ⟨k, rfl, hI, hc, hb⟩ := bytesPost_open h1
    clear h1 hI
    go_wp2_with fail
    refine (hc.bytes_late HF.out _).mono ?_
    intro e w2 h2
    obtain ⟨k2, rfl, hI2, hc2, hb2⟩ := bytesPost_open h2
    clear h2 hI2
    go_wp2_with fail
    go_ret2
    exact ⟨_, _, _, _, _, _, _, _, rfl, hc2, grownBy_then hb hb2⟩

set_option maxRecDepth 100000 in
set_option maxHeartbeats 1000000 in
theorem readBytes_one (h : Cur w g M l r s o 0) {n : Nat} (hn : n ≤ l.length) (n1 : n ≤ 10000) :
    Calls Tryz.prog 170 #[.func (.func 36) #[.pointer (some ⟨g, 0, none⟩)] #[], .bool false, .int .i64 n] w (ReadOk w g M (l.take n) [] (l.drop n) (r + n) s o) := by
  have HC := hid (h.bytes_ok hn)
  clear hn h
  go_enter Tryz.func170, Tryz.ntmps170
  go_wp2_with fail
  refine HC.out.mono ?_
  intro e w1 h1
  obtain ⟨k, rfl, hI, hc, hb⟩ := bytesPost_open h1
  have HI := hid hI
  clear h1 hI
  obtain ⟨z, hz⟩ : ∃ z, (l.take n).length = z := ⟨_, rfl⟩
  rw [hz]
  have HZ := hid hz
  clear hz
  go_wp2_with fail
  go_ret2
  exact ⟨_, _, none, 0, by rw [HZ.out]; rfl, HI.out.1, Ints.nil _ _ _, Nat.le_refl _, fun q hq => by cases hq; exact HI.out.2, (fun q hq => by cases hq), hc, hb⟩

set_option maxRecDepth 100000 in
set_option maxHeartbeats 1000000 in
theorem readBytes_one_short (h : Cur w g M l r s o 0) {n : Nat} (hn : l.length < n) (n1 : n ≤ 10000) :
    Calls Tryz.prog 170 #[.func (.func 36) #[.pointer (some ⟨g, 0, none⟩)] #[], .bool false, .int .i64 n] w (ReadBad w g M s o s) := by
  have HC := hid (h.bytes_short (n := n) (by omega))
  clear hn h
  go_enter Tryz.func170, Tryz.ntmps170
  go_wp2_with fail
  refine HC.out.mono ?_
  intro e w1 h1
  obtain ⟨k, rfl, hI, hc, hb⟩ := bytesPost_open h1
  clear h1 hI
  go_wp2_with fail
  go_ret2
  exact ⟨_, _, _, _, _, _, _, _, rfl, hc, hb⟩

set_option maxRecDepth 100000 in
set_option maxHeartbeats 1000000 in
theorem readBytes_two (h : Cur w g M l r s o 0) {n q : Nat} (hq : n = 2 * q) (hn : n ≤ l.length) (n1 : n ≤ 10000) {v m l1 l2 : List Int} (hv : l.take q = v) (hl1 : l.drop q = l1) (hm : l1.take q = m) (hl2 : l1.drop q = l2) :
    Calls Tryz.prog 170 #[.func (.func 36) #[.pointer (some ⟨g, 0, none⟩)] #[], .bool true, .int .i64 n] w (ReadOk w g M v m l2 (r + q + q) s o) := by
  have HC := hid (h.bytes_ok (n := q) (by omega))
  have hh : (n : Int) / 2 = (q : Int) := by omega
  have HL : Hid (q ≤ l1.length) := by show _ ≤ _; rw [← hl1, List.length_drop]; omega
  rw [hv, hl1] at HC
  have HM := hid hm
  have HL2 := hid hl2
  clear hn h hq hv hl1 hm hl2
  go_enter Tryz.func170, Tryz.ntmps170
  go_wp2_with fail
  refine HC.out.mono ?_
  intro e w1 h1
  obtain ⟨k, rfl, hI, hc, hb⟩ := bytesPost_open h1
  have HI := hid hI
  clear h1 hI
  have HD := hc.bytes_ok HL.out
  rw [HM.out, HL2.out] at HD
  have HD := hid HD
  have HB := hid hb
  have HCC := hid hc
  clear hb hc
  obtain ⟨z, hz⟩ : ∃ z, v.length = z := ⟨_, rfl⟩
  rw [hz]
  have HZ := hid hz
  clear hz
  go_wp2_with fail
  refine HD.out.mono ?_
  intro e w2 h2
  obtain ⟨k2, rfl, hI2, hc2, hb2⟩ := bytesPost_open h2
  have HI2 := hid hI2
  have HI1 := hid (HCC.out.ints HI.out.1 (by decide) hb2)
  have HC2 := hid hc2
  have HB2 := hid (grownBy_then HB.out hb2)
  clear h2 hI2 hb2 hc2
  obtain ⟨y, hy⟩ : ∃ z, m.length = z := ⟨_, rfl⟩
  rw [hy]
  have HY := hid hy
  clear hy
  go_wp2_with fail
  go_ret2
  exact ⟨_, _, _, y, by rw [HZ.out, HY.out]; rfl, HI1.out, HI2.out.1, by rw [HY.out]; exact Nat.le_refl _, fun q hq => by cases hq; exact HI.out.2, fun q hq => by cases hq; exact Nat.le_trans HB.out.size HI2.out.2, HC2.out, HB2.out⟩

set_option maxRecDepth 100000 in
set_option maxHeartbeats 1000000 in
theorem readBytes_two_short (h : Cur w g M l r s o 0) (hs : s ≠ 0) {n q : Nat} (hq : n = 2 * q) (hn : l.length < n) (n1 : n ≤ 10000) :
    Calls Tryz.prog 170 #[.func (.func 36) #[.pointer (some ⟨g, 0, none⟩)] #[], .bool true, .int .i64 n] w (ReadBad w g M s o s) := by
  have hh : (n : Int) / 2 = (q : Int) := by omega
  have HS := hid hs
  by_cases hl : l.length < q
  · have HC := hid (h.bytes_short (n := q) (by omega))
    clear hn h hq hl hs
    go_enter Tryz.func170, Tryz.ntmps170
    go_wp2_with fail
    refine HC.out.mono ?_
    intro e w1 h1
    obtain ⟨k, rfl, hI, hc, hb⟩ := bytesPost_open h1
    clear h1 hI
    go_wp2_with fail
    refine (hc.bytes_late HS.out _).mono ?_
    intro e w2 h2
    obtain ⟨k2, rfl, hI2, hc2, hb2⟩ := bytesPost_open h2
    clear h2 hI2
    go_wp2_with fail
    go_ret2
    exact ⟨_, _, _, _, _, _, _, _, rfl, hc2, grownBy_then hb hb2⟩
  · have HC := hid (h.bytes_ok (n := q) (by omega))
    have HL : Hid ((l.drop q).length < q) := by show _ < _; rw [List.length_drop]; omega
    clear hn h hq hl hs
    go_enter Tryz.func170, Tryz.ntmps170
    go_wp2_with fail
    refine HC.out.mono ?_
    intro e w1 h1
    obtain ⟨k, rfl, hI, hc, hb⟩ := bytesPost_open h1
    clear h1 hI
    have HD := hid (hc.bytes_short (n := q) (by have := HL.out; omega))
    clear hc
    obtain ⟨z, hz⟩ : ∃ z, (l.take q).length = z := ⟨_, rfl⟩
    rw [hz]
    clear hz
    go_wp2_with fail
    refine HD.out.mono ?_
    intro e w2 h2
    obtain ⟨k2, rfl, hI2, hc2, hb2⟩ := bytesPost_open h2
    clear h2 hI2
    go_wp2_with fail
    go_ret2
    exact ⟨_, _, _, _, _, _, _, _, rfl, hc2, grownBy_then hb hb2⟩
end
end Go.Proofs.YtdjlbejhphbcoaaGreat
namespace Go.Proofs.YtdjlbejhphbcoaaGreat
open Go.RowKit
set_option linter.unusedVariables false

section
variable {w : World} {g M : Nat} {l : List Int} {r s o f : Int}
/-- nothing that counts is read: there is a fault -/
def ReadNone (w : World) (g M : Nat) (s o f : Int) (e : Ending) (w' : World) : Prop :=
  ∃ (C F : Int) (H : Bool) (X : Int) (a1 : Option Addr) (n1 c1 : Nat) (a2 : Option Addr) (n2 c2 : Nat) (l : List Int) (r : Int), e = .returned (.agg #[.int .i64 C, .int .i64 F, .bool H, .int .u64 X, .slice a1 n1 c1, .slice a2 n2 c2]) ∧ Cur w' g M l r s o f ∧ w.grownBy w' (some g)

/-- a value is read -/
def ReadGood (w : World) (g M : Nat) (C F : Int) (H : Bool) (X : Int) (v m : List Int) (r s o : Int) (e : Ending) (w' : World) : Prop :=
  ∃ a1 c1 a2 c2, e = .returned (.agg #[.int .i64 C, .int .i64 F, .bool H, .int .u64 X, .slice a1 v.length c1, .slice a2 m.length c2]) ∧ Ints .u8 w' a1 v ∧ Ints .u8 w' a2 m ∧ m.length ≤ c2 ∧ (New8 w a1 ∧ New8 w a2) ∧ (∃ l, Cur w' g M l r s o 0) ∧ w.grownBy w' (some g)

set_option maxRecDepth 100000 in
set_option maxHeartbeats 2000000 in
theorem read8_few (h : Cur w g M l r s o 0) (hs : s ≠ 0) (hM : M < w.heap.size) (hl : l.length < 4) :
    Calls Tryz.prog 156 #[.pointer (some ⟨g, 0, none⟩)] w (ReadNone w g M s o s) := by
  have HS := hid hs
  have oct := h.oct
  have hg := h.block_lt
  obtain ⟨W, hW, hbW, hbox⟩ := oxm_box w 0 0 false 0 none 0 0 none 0 0
  have HW := hid hW
  have hcW := h.below hbW
  have hcWX := hid hcW
  have HBW := hid (below_by_none hbW)
  have hne : w.heap.size ≠ g := by omega
  have hMW : M ≠ w.heap.size := by omega
  clear hW hbW
  have hM2 : M < W.heap.size := by have := hbox.lt; omega
  have hmf : ∀ (fn : Fn) (first cap : Array Value) (w : World), (Instr.makeFunc fn first cap).run Tryz.prog w = .ok (.func fn first cap) w := fun _ _ _ _ => rfl
  have H1 := hid (readHead8_short hcW hs hM2 hl)
  clear hs hl hcW oct hcWX
  go_enter Tryz.func156, Tryz.ntmps156
  go_wp2_with fail
  rw [HW.out]
  refine H1.out.mono ?_
  rintro e w1 ⟨C, n, r1, l1, ⟨n0, n1⟩, rfl, hc, hb⟩
  obtain ⟨F, hF⟩ : ∃ F, n / 2 = F := ⟨_, rfl⟩
  obtain ⟨H, hH⟩ : ∃ F, oddB n = F := ⟨_, rfl⟩
  rw [hF, hH]
  clear hF hH n0 n1
  cases hC : (C == 65535)
  · skip
    have hR1 := box_by hbox hb hne
    have HB1 := hid (by_new_row HBW.out hb)
    have hs1 := hb.size
    have hs2 : w.heap.size < w1.heap.size := Nat.lt_of_lt_of_le hbox.lt hs1
    have hg1 := hc.block_lt
    obtain ⟨W1, hW1, hbW1, hX1⟩ := oxm_box w1 C F H 0 none 0 0 none 0 0
    have HW1 := hid hW1
    have hXg : w1.heap.size ≠ g := by omega
    have hXR : w1.heap.size ≠ w.heap.size := by omega
    have gX : some w1.heap.size ≠ some g := by simpa using hXg
    have gR : some w.heap.size ≠ some g := by simpa using hne
    have mX : some w1.heap.size ≠ some M := by simp; omega
    have mR : some w.heap.size ≠ some M := by simp; omega
    have hle : w.heap.size ≤ w1.heap.size := by omega
    have hc1 := hc.below hbW1
    have hR2 := hR1.below hbW1
    have HB2 := hid (grownBy_then HB1.out (grownBy_more (below_by_none hbW1)) : w.grownBy W1 (some g))
    clear hb hbox hc hR1 HB1 hW1 hbW1 hs1 hM2 hg1
    go_wp2_with fail
    rw [HW1.out]
    refine (wrongHead_any C F H 0 none 0 0 none 0 0 (0) _ (by omega) (by omega)).mono ?_
    rintro e w2 ⟨rfl, hb2⟩
    have hc2 := hc1.below hb2
    have hR3 := hR2.below hb2
    have hX2 := hX1.below hb2
    have HB3 := hid (grownBy_then HB2.out (grownBy_more (below_by_none hb2)) : w.grownBy w2 (some g))
    clear hc1 hR2 hX1 HB2 hb2 HW1
    obtain ⟨d0, d1, d2, d3, d4, d5⟩ := hX2.six
    have zX := hX2.free
    go_wp2_with fail
    refine (hc2.fail_late HS.out _).mono ?_
    rintro e w' ⟨rfl, rfl⟩
    have hc3 := hc2
    have hX3 := hX2
    have hR4 := hR3
    have HB4 := HB3
    clear hc2 hX2 hR3 HB3
    go_wp2_with fail
    have hc6 := hc3
    have hX6 := hX3
    have hR6 := hR4
    have HB6 := HB4
    clear hc3 hX3 hR4 HB4 d0 d1 d2 d3 d4 d5 zX
    refine (readBytes_late hc6 HS.out H _ (by omega) (by omega)).mono ?_
    rintro e w7 ⟨a1, n1, c1, a2, n2, c2, l5, r5, rfl, hc7, hb7⟩
    have hX7 := box_by hX6 hb7 hXg
    have hR7 := box_by hR6 hb7 hne
    have HB7 := hid (grownBy_then HB6.out hb7)
    clear hX6 hR6 HB6 hb7 hc6
    obtain ⟨d0, d1, d2, d3, d4, d5⟩ := hX7.six
    obtain ⟨e0, e1, e2, e3, e4, e5⟩ := hR7.six
    have zX := hX7.free
    have zR := hR7.free
    go_wp2_with fail
    have hk := ((hR7.far (i := 4) (.slice a1 n1 c1) hXR).far (i := 5) (.slice a2 n2 c2) hXR).set6 (.int .i64 C) (.int .i64 F) (.bool H) (.int .u64 0) (.slice a1 n1 c1) (.slice a2 n2 c2)
    obtain ⟨k0, k1, k2, k3, k4, k5⟩ := hk.six
    refine bodyPost_ret (v := .agg #[.int .i64 C, .int .i64 F, .bool H, .int .u64 0, .slice a1 n1 c1, .slice a2 n2 c2]) (by simp [results, Tryz.results156, go_sem, k0, k1, k2, k3, k4, k5]) rfl ⟨C, F, H, 0, a1, n1, c1, a2, n2, c2, l5, r5, rfl, ?_, ?_⟩
    · repeat (first | refine Cur.kept ?_ (by_setCell _ _ _ _) gR mR | refine Cur.kept ?_ (by_setCell _ _ _ _) gX mX)
      exact hc7
    · repeat (refine by_set_new ?_ (by omega) _)
      exact HB7.out
  · skip
    have hR1 := box_by hbox hb hne
    have HB1 := hid (by_new_row HBW.out hb)
    have hs1 := hb.size
    have hs2 : w.heap.size < w1.heap.size := Nat.lt_of_lt_of_le hbox.lt hs1
    have hg1 := hc.block_lt
    obtain ⟨W1, hW1, hbW1, hX1⟩ := oxm_box w1 C F H 0 none 0 0 none 0 0
    have HW1 := hid hW1
    have hXg : w1.heap.size ≠ g := by omega
    have hXR : w1.heap.size ≠ w.heap.size := by omega
    have gX : some w1.heap.size ≠ some g := by simpa using hXg
    have gR : some w.heap.size ≠ some g := by simpa using hne
    have mX : some w1.heap.size ≠ some M := by simp; omega
    have mR : some w.heap.size ≠ some M := by simp; omega
    have hle : w.heap.size ≤ w1.heap.size := by omega
    have hc1 := hc.below hbW1
    have hR2 := hR1.below hbW1
    have HB2 := hid (grownBy_then HB1.out (grownBy_more (below_by_none hbW1)) : w.grownBy W1 (some g))
    clear hb hbox hc hR1 HB1 hW1 hbW1 hs1 hM2 hg1
    go_wp2_with fail
    rw [HW1.out]
    refine (wrongHead_any C F H 0 none 0 0 none 0 0 (0) _ (by omega) (by omega)).mono ?_
    rintro e w2 ⟨rfl, hb2⟩
    have hc2 := hc1.below hb2
    have hR3 := hR2.below hb2
    have hX2 := hX1.below hb2
    have HB3 := hid (grownBy_then HB2.out (grownBy_more (below_by_none hb2)) : w.grownBy w2 (some g))
    clear hc1 hR2 hX1 HB2 hb2 HW1
    obtain ⟨d0, d1, d2, d3, d4, d5⟩ := hX2.six
    have zX := hX2.free
    go_wp2_with fail
    refine (hc2.fail_late HS.out _).mono ?_
    rintro e w' ⟨rfl, rfl⟩
    have hc3 := hc2
    have hX3 := hX2
    have hR4 := hR3
    have HB4 := HB3
    clear hc2 hX2 hR3 HB3
    go_wp2_with fail
    refine (hc3.num_late HS.out 4).mono ?_
    rintro e w4 ⟨rfl, hb4⟩
    have hc4 := hc3.below hb4
    have hX4 := hX3.below hb4
    have hR5 := hR4.below hb4
    have HB5 := hid (grownBy_then HB4.out (grownBy_more (below_by_none hb4)) : w.grownBy w4 (some g))
    clear hc3 hX3 hR4 HB4 hb4 d0 d1 d2 d3 d4 d5 zX
    obtain ⟨d0, d1, d2, d3, d4, d5⟩ := hX4.six
    have zX := hX4.free
    go_wp2_with fail
    have hc6 := hc4.kept (by_setCell w4 w1.heap.size 3 (.int .u64 0)) gX mX
    have hX6 := hX4.set 3 (.int .u64 0) (by simp)
    have hR6 := hR5.far (i := 3) (.int .u64 0) hXR
    have HB6 := hid (by_set_new (i := 3) HB5.out hle (.int .u64 0))
    clear hc4 hX4 hR5 HB5 d0 d1 d2 d3 d4 d5 zX
    refine (readBytes_late hc6 HS.out H _ (by omega) (by omega)).mono ?_
    rintro e w7 ⟨a1, n1, c1, a2, n2, c2, l5, r5, rfl, hc7, hb7⟩
    have hX7 := box_by hX6 hb7 hXg
    have hR7 := box_by hR6 hb7 hne
    have HB7 := hid (grownBy_then HB6.out hb7)
    clear hX6 hR6 HB6 hb7 hc6
    obtain ⟨d0, d1, d2, d3, d4, d5⟩ := hX7.six
    obtain ⟨e0, e1, e2, e3, e4, e5⟩ := hR7.six
    have zX := hX7.free
    have zR := hR7.free
    go_wp2_with fail
    have hk := ((hR7.far (i := 4) (.slice a1 n1 c1) hXR).far (i := 5) (.slice a2 n2 c2) hXR).set6 (.int .i64 C) (.int .i64 F) (.bool H) (.int .u64 0) (.slice a1 n1 c1) (.slice a2 n2 c2)
    obtain ⟨k0, k1, k2, k3, k4, k5⟩ := hk.six
    refine bodyPost_ret (v := .agg #[.int .i64 C, .int .i64 F, .bool H, .int .u64 0, .slice a1 n1 c1, .slice a2 n2 c2]) (by simp [results, Tryz.results156, go_sem, k0, k1, k2, k3, k4, k5]) rfl ⟨C, F, H, 0, a1, n1, c1, a2, n2, c2, l5, r5, rfl, ?_, ?_⟩
    · repeat (first | refine Cur.kept ?_ (by_setCell _ _ _ _) gR mR | refine Cur.kept ?_ (by_setCell _ _ _ _) gX mX)
      exact hc7
    · repeat (refine by_set_new ?_ (by omega) _)
      exact HB7.out

set_option maxRecDepth 100000 in
set_option maxHeartbeats 2000000 in
theorem read8_wrong (h : Cur w g M l r s o 0) (hs : s ≠ 0) (hM : M < w.heap.size) (hl : 4 ≤ l.length) {C n L F : Int} {H : Bool} (hC : numL (l.take 2) = C) (hn : numL ((l.drop 2).take 1) = n) (hL : numL (((l.drop 2).drop 1).take 1) = L) (hF : n / 2 = F) (hH : oddB n = H) (hE : headE C F H L ≠ 0) :
    Calls Tryz.prog 156 #[.pointer (some ⟨g, 0, none⟩)] w (ReadNone w g M s o (headE C F H L)) := by
  have HS := hid hE
  have oct := h.oct
  have hg := h.block_lt
  obtain ⟨W, hW, hbW, hbox⟩ := oxm_box w 0 0 false 0 none 0 0 none 0 0
  have HW := hid hW
  have hcW := h.below hbW
  have hcWX := hid hcW
  have HBW := hid (below_by_none hbW)
  have hne : w.heap.size ≠ g := by omega
  have hMW : M ≠ w.heap.size := by omega
  clear hW hbW
  have hM2 : M < W.heap.size := by have := hbox.lt; omega
  have hmf : ∀ (fn : Fn) (first cap : Array Value) (w : World), (Instr.makeFunc fn first cap).run Tryz.prog w = .ok (.func fn first cap) w := fun _ _ _ _ => rfl
  have L0 := num_byte ((oct.drop 2).drop 1)
  rw [hL] at L0
  obtain ⟨L1, L2⟩ := L0
  have H1 := readHead8_ok hcW hM2 hl hC hn hL
  rw [hF, hH] at H1
  have H1 := hid H1
  clear hs hl hcW oct hcWX hC hn hL hF hH hE
  cases hC : (C == 65535)
  · skip
    go_enter Tryz.func156, Tryz.ntmps156
    go_wp2_with fail
    rw [HW.out]
    refine H1.out.mono ?_
    rintro e w1 ⟨rfl, hc, hb⟩
    have hR1 := box_by hbox hb hne
    have HB1 := hid (by_new_row HBW.out hb)
    have hs1 := hb.size
    have hs2 : w.heap.size < w1.heap.size := Nat.lt_of_lt_of_le hbox.lt hs1
    have hg1 := hc.block_lt
    obtain ⟨W1, hW1, hbW1, hX1⟩ := oxm_box w1 C F H 0 none 0 0 none 0 0
    have HW1 := hid hW1
    have hXg : w1.heap.size ≠ g := by omega
    have hXR : w1.heap.size ≠ w.heap.size := by omega
    have gX : some w1.heap.size ≠ some g := by simpa using hXg
    have gR : some w.heap.size ≠ some g := by simpa using hne
    have mX : some w1.heap.size ≠ some M := by simp; omega
    have mR : some w.heap.size ≠ some M := by simp; omega
    have hle : w.heap.size ≤ w1.heap.size := by omega
    have hc1 := hc.below hbW1
    have hR2 := hR1.below hbW1
    have HB2 := hid (grownBy_then HB1.out (grownBy_more (below_by_none hbW1)) : w.grownBy W1 (some g))
    clear hb hbox hc hR1 HB1 hW1 hbW1 hs1 hM2 hg1
    go_wp2_with fail
    rw [HW1.out]
    refine (wrongHead_any C F H 0 none 0 0 none 0 0 (L) _ (by omega) (by omega)).mono ?_
    rintro e w2 ⟨rfl, hb2⟩
    have hc2 := hc1.below hb2
    have hR3 := hR2.below hb2
    have hX2 := hX1.below hb2
    have HB3 := hid (grownBy_then HB2.out (grownBy_more (below_by_none hb2)) : w.grownBy w2 (some g))
    clear hc1 hR2 hX1 HB2 hb2 HW1
    obtain ⟨d0, d1, d2, d3, d4, d5⟩ := hX2.six
    have zX := hX2.free
    go_wp2_with fail
    refine (hc2.fail _).mono ?_
    rintro e w3 ⟨rfl, hc3, hb3⟩
    have hX3 := box_by hX2 hb3 hXg
    have hR4 := box_by hR3 hb3 hne
    have HB4 := hid (grownBy_then HB3.out hb3)
    clear hc2 hX2 hR3 HB3 hb3 d0 d1 d2 d3 d4 d5 zX
    obtain ⟨d0, d1, d2, d3, d4, d5⟩ := hX3.six
    have zX := hX3.free
    go_wp2_with fail
    have hc6 := hc3
    have hX6 := hX3
    have hR6 := hR4
    have HB6 := HB4
    clear hc3 hX3 hR4 HB4 d0 d1 d2 d3 d4 d5 zX
    refine (readBytes_late hc6 HS.out H _ (by omega) (by omega)).mono ?_
    rintro e w7 ⟨a1, n1, c1, a2, n2, c2, l5, r5, rfl, hc7, hb7⟩
    have hX7 := box_by hX6 hb7 hXg
    have hR7 := box_by hR6 hb7 hne
    have HB7 := hid (grownBy_then HB6.out hb7)
    clear hX6 hR6 HB6 hb7 hc6
    obtain ⟨d0, d1, d2, d3, d4, d5⟩ := hX7.six
    obtain ⟨e0, e1, e2, e3, e4, e5⟩ := hR7.six
    have zX := hX7.free
    have zR := hR7.free
    go_wp2_with fail
    have hk := ((hR7.far (i := 4) (.slice a1 n1 c1) hXR).far (i := 5) (.slice a2 n2 c2) hXR).set6 (.int .i64 C) (.int .i64 F) (.bool H) (.int .u64 0) (.slice a1 n1 c1) (.slice a2 n2 c2)
    obtain ⟨k0, k1, k2, k3, k4, k5⟩ := hk.six
    refine bodyPost_ret (v := .agg #[.int .i64 C, .int .i64 F, .bool H, .int .u64 0, .slice a1 n1 c1, .slice a2 n2 c2]) (by simp [results, Tryz.results156, go_sem, k0, k1, k2, k3, k4, k5]) rfl ⟨C, F, H, 0, a1, n1, c1, a2, n2, c2, l5, r5, rfl, ?_, ?_⟩
    · repeat (first | refine Cur.kept ?_ (by_setCell _ _ _ _) gR mR | refine Cur.kept ?_ (by_setCell _ _ _ _) gX mX)
      exact hc7
    · repeat (refine by_set_new ?_ (by omega) _)
      exact HB7.out
  · skip
    go_enter Tryz.func156, Tryz.ntmps156
    go_wp2_with fail
    rw [HW.out]
    refine H1.out.mono ?_
    rintro e w1 ⟨rfl, hc, hb⟩
    have hR1 := box_by hbox hb hne
    have HB1 := hid (by_new_row HBW.out hb)
    have hs1 := hb.size
    have hs2 : w.heap.size < w1.heap.size := Nat.lt_of_lt_of_le hbox.lt hs1
    have hg1 := hc.block_lt
    obtain ⟨W1, hW1, hbW1, hX1⟩ := oxm_box w1 C F H 0 none 0 0 none 0 0
    have HW1 := hid hW1
    have hXg : w1.heap.size ≠ g := by omega
    have hXR : w1.heap.size ≠ w.heap.size := by omega
    have gX : some w1.heap.size ≠ some g := by simpa using hXg
    have gR : some w.heap.size ≠ some g := by simpa using hne
    have mX : some w1.heap.size ≠ some M := by simp; omega
    have mR : some w.heap.size ≠ some M := by simp; omega
    have hle : w.heap.size ≤ w1.heap.size := by omega
    have hc1 := hc.below hbW1
    have hR2 := hR1.below hbW1
    have HB2 := hid (grownBy_then HB1.out (grownBy_more (below_by_none hbW1)) : w.grownBy W1 (some g))
    clear hb hbox hc hR1 HB1 hW1 hbW1 hs1 hM2 hg1
    go_wp2_with fail
    rw [HW1.out]
    refine (wrongHead_any C F H 0 none 0 0 none 0 0 (L) _ (by omega) (by omega)).mono ?_
    rintro e w2 ⟨rfl, hb2⟩
    have hc2 := hc1.below hb2
    have hR3 := hR2.below hb2
    have hX2 := hX1.below hb2
    have HB3 := hid (grownBy_then HB2.out (grownBy_more (below_by_none hb2)) : w.grownBy w2 (some g))
    clear hc1 hR2 hX1 HB2 hb2 HW1
    obtain ⟨d0, d1, d2, d3, d4, d5⟩ := hX2.six
    have zX := hX2.free
    go_wp2_with fail
    refine (hc2.fail _).mono ?_
    rintro e w3 ⟨rfl, hc3, hb3⟩
    have hX3 := box_by hX2 hb3 hXg
    have hR4 := box_by hR3 hb3 hne
    have HB4 := hid (grownBy_then HB3.out hb3)
    clear hc2 hX2 hR3 HB3 hb3 d0 d1 d2 d3 d4 d5 zX
    obtain ⟨d0, d1, d2, d3, d4, d5⟩ := hX3.six
    have zX := hX3.free
    go_wp2_with fail
    refine (hc3.num_late HS.out 4).mono ?_
    rintro e w4 ⟨rfl, hb4⟩
    have hc4 := hc3.below hb4
    have hX4 := hX3.below hb4
    have hR5 := hR4.below hb4
    have HB5 := hid (grownBy_then HB4.out (grownBy_more (below_by_none hb4)) : w.grownBy w4 (some g))
    clear hc3 hX3 hR4 HB4 hb4 d0 d1 d2 d3 d4 d5 zX
    obtain ⟨d0, d1, d2, d3, d4, d5⟩ := hX4.six
    have zX := hX4.free
    go_wp2_with fail
    have hc6 := hc4.kept (by_setCell w4 w1.heap.size 3 (.int .u64 0)) gX mX
    have hX6 := hX4.set 3 (.int .u64 0) (by simp)
    have hR6 := hR5.far (i := 3) (.int .u64 0) hXR
    have HB6 := hid (by_set_new (i := 3) HB5.out hle (.int .u64 0))
    clear hc4 hX4 hR5 HB5 d0 d1 d2 d3 d4 d5 zX
    refine (readBytes_late hc6 HS.out H _ (by omega) (by omega)).mono ?_
    rintro e w7 ⟨a1, n1, c1, a2, n2, c2, l5, r5, rfl, hc7, hb7⟩
    have hX7 := box_by hX6 hb7 hXg
    have hR7 := box_by hR6 hb7 hne
    have HB7 := hid (grownBy_then HB6.out hb7)
    clear hX6 hR6 HB6 hb7 hc6
    obtain ⟨d0, d1, d2, d3, d4, d5⟩ := hX7.six
    obtain ⟨e0, e1, e2, e3, e4, e5⟩ := hR7.six
    have zX := hX7.free
    have zR := hR7.free
    go_wp2_with fail
    have hk := ((hR7.far (i := 4) (.slice a1 n1 c1) hXR).far (i := 5) (.slice a2 n2 c2) hXR).set6 (.int .i64 C) (.int .i64 F) (.bool H) (.int .u64 0) (.slice a1 n1 c1) (.slice a2 n2 c2)
    obtain ⟨k0, k1, k2, k3, k4, k5⟩ := hk.six
    refine bodyPost_ret (v := .agg #[.int .i64 C, .int .i64 F, .bool H, .int .u64 0, .slice a1 n1 c1, .slice a2 n2 c2]) (by simp [results, Tryz.results156, go_sem, k0, k1, k2, k3, k4, k5]) rfl ⟨C, F, H, 0, a1, n1, c1, a2, n2, c2, l5, r5, rfl, ?_, ?_⟩
    · repeat (first | refine Cur.kept ?_ (by_setCell _ _ _ _) gR mR | refine Cur.kept ?_ (by_setCell _ _ _ _) gX mX)
      exact hc7
    · repeat (refine by_set_new ?_ (by omega) _)
      exact HB7.out

set_option maxRecDepth 100000 in
set_option maxHeartbeats 2000000 in
theorem read8_basic_one (h : Cur w g M l r s o 0) (hs : s ≠ 0) (hM : M < w.heap.size) (hl : 4 ≤ l.length) {n F : Int} {N : Nat} {l4 : List Int} (hC : numL (l.take 2) = 32768) (hn : numL ((l.drop 2).take 1) = n) (hL : numL (((l.drop 2).drop 1).take 1) = (N : Int)) (h4 : ((l.drop 2).drop 1).drop 1 = l4) (hF : n / 2 = F) (hH : oddB n = false) (hE : headE 32768 F false ((N : Int)) = 0) {v m : List Int} (hm : m = []) (hv : l4.take N = v) (hq : N ≤ l4.length) :
    Calls Tryz.prog 156 #[.pointer (some ⟨g, 0, none⟩)] w (ReadGood w g M 32768 F false 0 v m (r + (2 : Nat) + (1 : Nat) + (1 : Nat) + (N : Nat)) s o) := by
  have HS := hid hs
  have oct := h.oct
  have hg := h.block_lt
  obtain ⟨W, hW, hbW, hbox⟩ := oxm_box w 0 0 false 0 none 0 0 none 0 0
  have HW := hid hW
  have hcW := h.below hbW
  have hcWX := hid hcW
  have HBW := hid (below_by_none hbW)
  have hne : w.heap.size ≠ g := by omega
  have hMW : M ≠ w.heap.size := by omega
  clear hW hbW
  have hM2 : M < W.heap.size := by have := hbox.lt; omega
  have hmf : ∀ (fn : Fn) (first cap : Array Value) (w : World), (Instr.makeFunc fn first cap).run Tryz.prog w = .ok (.func fn first cap) w := fun _ _ _ _ => rfl
  have L0 := num_byte ((oct.drop 2).drop 1)
  rw [hL] at L0
  obtain ⟨L1, L2⟩ := L0
  have HE := hid hE
  have H1 := readHead8_ok hcW hM2 hl hC hn hL
  rw [hF, hH, h4] at H1
  have H1 := hid H1
  have HQ := hid hq
  have HV := hid hv
  have RR : Hid (r + (2 : Nat) + (1 : Nat) + (1 : Nat) + (N : Nat) = r + (2 : Nat) + (1 : Nat) + (1 : Nat) + (N : Nat)) := hid rfl
  have HM := hid hm
  clear hq hv hm
  clear hs hl hcW oct hcWX hC hn hL h4 hF hH hE
  go_enter Tryz.func156, Tryz.ntmps156
  go_wp2_with fail
  rw [HW.out]
  refine H1.out.mono ?_
  rintro e w1 ⟨rfl, hc, hb⟩
  have hR1 := box_by hbox hb hne
  have HB1 := hid (by_new_row HBW.out hb)
  have hs1 := hb.size
  have hs2 : w.heap.size < w1.heap.size := Nat.lt_of_lt_of_le hbox.lt hs1
  have hg1 := hc.block_lt
  obtain ⟨W1, hW1, hbW1, hX1⟩ := oxm_box w1 32768 F false 0 none 0 0 none 0 0
  have HW1 := hid hW1
  have hXg : w1.heap.size ≠ g := by omega
  have hXR : w1.heap.size ≠ w.heap.size := by omega
  have gX : some w1.heap.size ≠ some g := by simpa using hXg
  have gR : some w.heap.size ≠ some g := by simpa using hne
  have mX : some w1.heap.size ≠ some M := by simp; omega
  have mR : some w.heap.size ≠ some M := by simp; omega
  have hle : w.heap.size ≤ w1.heap.size := by omega
  have hc1 := hc.below hbW1
  have hR2 := hR1.below hbW1
  have HB2 := hid (grownBy_then HB1.out (grownBy_more (below_by_none hbW1)) : w.grownBy W1 (some g))
  clear hb hbox hc hR1 HB1 hW1 hbW1 hs1 hM2 hg1
  go_wp2_with fail
  rw [HW1.out]
  refine (wrongHead_any 32768 F false 0 none 0 0 none 0 0 ((N : Int)) _ (by omega) (by omega)).mono ?_
  rintro e w2 ⟨rfl, hb2⟩
  have hc2 := hc1.below hb2
  have hR3 := hR2.below hb2
  have hX2 := hX1.below hb2
  have HB3 := hid (grownBy_then HB2.out (grownBy_more (below_by_none hb2)) : w.grownBy w2 (some g))
  clear hc1 hR2 hX1 HB2 hb2 HW1
  obtain ⟨d0, d1, d2, d3, d4, d5⟩ := hX2.six
  have zX := hX2.free
  go_wp2_with fail
  rw [HE.out]
  refine (hc2.fail _).mono ?_
  rintro e w3 ⟨rfl, hc3, hb3⟩
  have hX3 := box_by hX2 hb3 hXg
  have hR4 := box_by hR3 hb3 hne
  have HB4 := hid (grownBy_then HB3.out hb3)
  clear hc2 hX2 hR3 HB3 hb3 d0 d1 d2 d3 d4 d5 zX
  obtain ⟨d0, d1, d2, d3, d4, d5⟩ := hX3.six
  have zX := hX3.free
  go_wp2_with fail
  have hc6 := hc3
  have hX6 := hX3
  have hR6 := hR4
  have HB6 := HB4
  clear hc3 hX3 hR4 HB4 d0 d1 d2 d3 d4 d5 zX
  have hz := readBytes_one hc6 HQ.out (by omega)
  rw [HV.out, ← HM.out] at hz
  have hsz := hX6.lt
  refine (hz).mono ?_
  rintro e w7 ⟨a1, c1, a2, c2, rfl, i1, i2, hmc, hn1, hn2, hc7, hb7⟩
  have nR1 : ∀ q : Addr, a1 = some q → q.block ≠ w.heap.size := fun q hq => by have := hn1 q hq; omega
  have nX1 : ∀ q : Addr, a1 = some q → q.block ≠ w1.heap.size := fun q hq => by have := hn1 q hq; omega
  have nR2 : ∀ q : Addr, a2 = some q → q.block ≠ w.heap.size := fun q hq => by have := hn2 q hq; omega
  have nX2 : ∀ q : Addr, a2 = some q → q.block ≠ w1.heap.size := fun q hq => by have := hn2 q hq; omega
  have hw1 : New8 w a1 := fun q hq => by have := hn1 q hq; omega
  have hw2 : New8 w a2 := fun q hq => by have := hn2 q hq; omega
  clear hn1 hn2
  have hX7 := box_by hX6 hb7 hXg
  have hR7 := box_by hR6 hb7 hne
  have HB7 := hid (grownBy_then HB6.out hb7)
  clear hX6 hR6 HB6 hb7 hc6
  obtain ⟨d0, d1, d2, d3, d4, d5⟩ := hX7.six
  obtain ⟨e0, e1, e2, e3, e4, e5⟩ := hR7.six
  have zX := hX7.free
  have zR := hR7.free
  have I1 := hid i1
  have I2 := hid i2
  have HMC := hid hmc
  clear i1 i2 hmc
  obtain ⟨vl, hvl⟩ : ∃ n, v.length = n := ⟨_, rfl⟩
  obtain ⟨ml, hml⟩ : ∃ n, m.length = n := ⟨_, rfl⟩
  rw [hvl, hml]
  have HVL := hid hvl
  have HML := hid hml
  clear hvl hml
  go_wp2_with fail
  have hk := ((hR7.far (i := 4) (.slice a1 vl c1) hXR).far (i := 5) (.slice a2 ml c2) hXR).set6 (.int .i64 32768) (.int .i64 F) (.bool false) (.int .u64 0) (.slice a1 vl c1) (.slice a2 ml c2)
  obtain ⟨k0, k1, k2, k3, k4, k5⟩ := hk.six
  refine bodyPost_ret (v := .agg #[.int .i64 32768, .int .i64 F, .bool false, .int .u64 0, .slice a1 vl c1, .slice a2 ml c2]) (by simp [results, Tryz.results156, go_sem, k0, k1, k2, k3, k4, k5]) rfl ⟨a1, c1, a2, c2, by rw [HVL.out, HML.out], ?_, ?_, HMC.out, ⟨hw1, hw2⟩, ?_, ?_⟩
  · repeat (first | refine Ints.apart ?_ _ nR1 | refine Ints.apart ?_ _ nX1)
    exact I1.out
  · repeat (first | refine Ints.apart ?_ _ nR2 | refine Ints.apart ?_ _ nX2)
    exact I2.out
  · refine ⟨l4.drop N, ?_⟩
    repeat (first | refine Cur.kept ?_ (by_setCell _ _ _ _) gR mR | refine Cur.kept ?_ (by_setCell _ _ _ _) gX mX)
    exact hc7
  · repeat (refine by_set_new ?_ (by omega) _)
    exact HB7.out

set_option maxRecDepth 100000 in
set_option maxHeartbeats 2000000 in
theorem read8_basic_one_short (h : Cur w g M l r s o 0) (hs : s ≠ 0) (hM : M < w.heap.size) (hl : 4 ≤ l.length) {n F : Int} {N : Nat} {l4 : List Int} (hC : numL (l.take 2) = 32768) (hn : numL ((l.drop 2).take 1) = n) (hL : numL (((l.drop 2).drop 1).take 1) = (N : Int)) (h4 : ((l.drop 2).drop 1).drop 1 = l4) (hF : n / 2 = F) (hH : oddB n = false) (hE : headE 32768 F false ((N : Int)) = 0) (hq : l4.length < N) :
    Calls Tryz.prog 156 #[.pointer (some ⟨g, 0, none⟩)] w (ReadNone w g M s o s) := by
  have HS := hid hs
  have oct := h.oct
  have hg := h.block_lt
  obtain ⟨W, hW, hbW, hbox⟩ := oxm_box w 0 0 false 0 none 0 0 none 0 0
  have HW := hid hW
  have hcW := h.below hbW
  have hcWX := hid hcW
  have HBW := hid (below_by_none hbW)
  have hne : w.heap.size ≠ g := by omega
  have hMW : M ≠ w.heap.size := by omega
  clear hW hbW
  have hM2 : M < W.heap.size := by have := hbox.lt; omega
  have hmf : ∀ (fn : Fn) (first cap : Array Value) (w : World), (Instr.makeFunc fn first cap).run Tryz.prog w = .ok (.func fn first cap) w := fun _ _ _ _ => rfl
  have L0 := num_byte ((oct.drop 2).drop 1)
  rw [hL] at L0
  obtain ⟨L1, L2⟩ := L0
  have HE := hid hE
  have H1 := readHead8_ok hcW hM2 hl hC hn hL
  rw [hF, hH, h4] at H1
  have H1 := hid H1
  have HQ := hid hq
  clear hq
  clear hs hl hcW oct hcWX hC hn hL h4 hF hH hE
  go_enter Tryz.func156, Tryz.ntmps156
  go_wp2_with fail
  rw [HW.out]
  refine H1.out.mono ?_
  rintro e w1 ⟨rfl, hc, hb⟩
  have hR1 := box_by hbox hb hne
  have HB1 := hid (by_new_row HBW.out hb)
  have hs1 := hb.size
  have hs2 : w.heap.size < w1.heap.size := Nat.lt_of_lt_of_le hbox.lt hs1
  have hg1 := hc.block_lt
  obtain ⟨W1, hW1, hbW1, hX1⟩ := oxm_box w1 32768 F false 0 none 0 0 none 0 0
  have HW1 := hid hW1
  have hXg : w1.heap.size ≠ g := by omega
  have hXR : w1.heap.size ≠ w.heap.size := by omega
  have gX : some w1.heap.size ≠ some g := by simpa using hXg
  have gR : some w.heap.size ≠ some g := by simpa using hne
  have mX : some w1.heap.size ≠ some M := by simp; omega
  have mR : some w.heap.size ≠ some M := by simp; omega
  have hle : w.heap.size ≤ w1.heap.size := by omega
  have hc1 := hc.below hbW1
  have hR2 := hR1.below hbW1
  have HB2 := hid (grownBy_then HB1.out (grownBy_more (below_by_none hbW1)) : w.grownBy W1 (some g))
  clear hb hbox hc hR1 HB1 hW1 hbW1 hs1 hM2 hg1
  go_wp2_with fail
  rw [HW1.out]
  refine (wrongHead_any 32768 F false 0 none 0 0 none 0 0 ((N : Int)) _ (by omega) (by omega)).mono ?_
  rintro e w2 ⟨rfl, hb2⟩
  have hc2 := hc1.below hb2
  have hR3 := hR2.below hb2
  have hX2 := hX1.below hb2
  have HB3 := hid (grownBy_then HB2.out (grownBy_more (below_by_none hb2)) : w.grownBy w2 (some g))
  clear hc1 hR2 hX1 HB2 hb2 HW1
  obtain ⟨d0, d1, d2, d3, d4, d5⟩ := hX2.six
  have zX := hX2.free
  go_wp2_with fail
  rw [HE.out]
  refine (hc2.fail _).mono ?_
  rintro e w3 ⟨rfl, hc3, hb3⟩
  have hX3 := box_by hX2 hb3 hXg
  have hR4 := box_by hR3 hb3 hne
  have HB4 := hid (grownBy_then HB3.out hb3)
  clear hc2 hX2 hR3 HB3 hb3 d0 d1 d2 d3 d4 d5 zX
  obtain ⟨d0, d1, d2, d3, d4, d5⟩ := hX3.six
  have zX := hX3.free
  go_wp2_with fail
  have hc6 := hc3
  have hX6 := hX3
  have hR6 := hR4
  have HB6 := HB4
  clear hc3 hX3 hR4 HB4 d0 d1 d2 d3 d4 d5 zX
  refine (readBytes_one_short hc6 HQ.out (by omega)).mono ?_
  rintro e w7 ⟨a1, n1, c1, a2, n2, c2, l5, r5, rfl, hc7, hb7⟩
  have hX7 := box_by hX6 hb7 hXg
  have hR7 := box_by hR6 hb7 hne
  have HB7 := hid (grownBy_then HB6.out hb7)
  clear hX6 hR6 HB6 hb7 hc6
  obtain ⟨d0, d1, d2, d3, d4, d5⟩ := hX7.six
  obtain ⟨e0, e1, e2, e3, e4, e5⟩ := hR7.six
  have zX := hX7.free
  have zR := hR7.free
  go_wp2_with fail
  have hk := ((hR7.far (i := 4) (.slice a1 n1 c1) hXR).far (i := 5) (.slice a2 n2 c2) hXR).set6 (.int .i64 32768) (.int .i64 F) (.bool false) (.int .u64 0) (.slice a1 n1 c1) (.slice a2 n2 c2)
  obtain ⟨k0, k1, k2, k3, k4, k5⟩ := hk.six
  refine bodyPost_ret (v := .agg #[.int .i64 32768, .int .i64 F, .bool false, .int .u64 0, .slice a1 n1 c1, .slice a2 n2 c2]) (by simp [results, Tryz.results156, go_sem, k0, k1, k2, k3, k4, k5]) rfl ⟨32768, F, false, 0, a1, n1, c1, a2, n2, c2, l5, r5, rfl, ?_, ?_⟩
  · repeat (first | refine Cur.kept ?_ (by_setCell _ _ _ _) gR mR | refine Cur.kept ?_ (by_setCell _ _ _ _) gX mX)
    exact hc7
  · repeat (refine by_set_new ?_ (by omega) _)
    exact HB7.out

set_option maxRecDepth 100000 in
set_option maxHeartbeats 2000000 in
theorem read8_basic_two (h : Cur w g M l r s o 0) (hs : s ≠ 0) (hM : M < w.heap.size) (hl : 4 ≤ l.length) {n F : Int} {N : Nat} {l4 : List Int} (hC : numL (l.take 2) = 32768) (hn : numL ((l.drop 2).take 1) = n) (hL : numL (((l.drop 2).drop 1).take 1) = (N : Int)) (h4 : ((l.drop 2).drop 1).drop 1 = l4) (hF : n / 2 = F) (hH : oddB n = true) (hE : headE 32768 F true ((N : Int)) = 0) {v m l6 : List Int} {q : Nat} (hN : N = 2 * q) (hv : l4.take q = v) (hv2 : l4.drop q = l6) (hm : l6.take q = m) (hq : N ≤ l4.length) :
    Calls Tryz.prog 156 #[.pointer (some ⟨g, 0, none⟩)] w (ReadGood w g M 32768 F true 0 v m (r + (2 : Nat) + (1 : Nat) + (1 : Nat) + (N : Nat)) s o) := by
  have HS := hid hs
  have oct := h.oct
  have hg := h.block_lt
  obtain ⟨W, hW, hbW, hbox⟩ := oxm_box w 0 0 false 0 none 0 0 none 0 0
  have HW := hid hW
  have hcW := h.below hbW
  have hcWX := hid hcW
  have HBW := hid (below_by_none hbW)
  have hne : w.heap.size ≠ g := by omega
  have hMW : M ≠ w.heap.size := by omega
  clear hW hbW
  have hM2 : M < W.heap.size := by have := hbox.lt; omega
  have hmf : ∀ (fn : Fn) (first cap : Array Value) (w : World), (Instr.makeFunc fn first cap).run Tryz.prog w = .ok (.func fn first cap) w := fun _ _ _ _ => rfl
  have L0 := num_byte ((oct.drop 2).drop 1)
  rw [hL] at L0
  obtain ⟨L1, L2⟩ := L0
  have HE := hid hE
  have H1 := readHead8_ok hcW hM2 hl hC hn hL
  rw [hF, hH, h4] at H1
  have H1 := hid H1
  have HQ := hid hq
  have HN := hid hN
  have HV1 := hid hv
  have HV2 := hid hv2
  have HV3 := hid hm
  have RR : Hid (r + (2 : Nat) + (1 : Nat) + (1 : Nat) + (q : Nat) + (q : Nat) = r + (2 : Nat) + (1 : Nat) + (1 : Nat) + (N : Nat)) := by show _ = _; omega
  clear hq hv hv2 hm hN
  clear hs hl hcW oct hcWX hC hn hL h4 hF hH hE
  go_enter Tryz.func156, Tryz.ntmps156
  go_wp2_with fail
  rw [HW.out]
  refine H1.out.mono ?_
  rintro e w1 ⟨rfl, hc, hb⟩
  have hR1 := box_by hbox hb hne
  have HB1 := hid (by_new_row HBW.out hb)
  have hs1 := hb.size
  have hs2 : w.heap.size < w1.heap.size := Nat.lt_of_lt_of_le hbox.lt hs1
  have hg1 := hc.block_lt
  obtain ⟨W1, hW1, hbW1, hX1⟩ := oxm_box w1 32768 F true 0 none 0 0 none 0 0
  have HW1 := hid hW1
  have hXg : w1.heap.size ≠ g := by omega
  have hXR : w1.heap.size ≠ w.heap.size := by omega
  have gX : some w1.heap.size ≠ some g := by simpa using hXg
  have gR : some w.heap.size ≠ some g := by simpa using hne
  have mX : some w1.heap.size ≠ some M := by simp; omega
  have mR : some w.heap.size ≠ some M := by simp; omega
  have hle : w.heap.size ≤ w1.heap.size := by omega
  have hc1 := hc.below hbW1
  have hR2 := hR1.below hbW1
  have HB2 := hid (grownBy_then HB1.out (grownBy_more (below_by_none hbW1)) : w.grownBy W1 (some g))
  clear hb hbox hc hR1 HB1 hW1 hbW1 hs1 hM2 hg1
  go_wp2_with fail
  rw [HW1.out]
  refine (wrongHead_any 32768 F true 0 none 0 0 none 0 0 ((N : Int)) _ (by omega) (by omega)).mono ?_
  rintro e w2 ⟨rfl, hb2⟩
  have hc2 := hc1.below hb2
  have hR3 := hR2.below hb2
  have hX2 := hX1.below hb2
  have HB3 := hid (grownBy_then HB2.out (grownBy_more (below_by_none hb2)) : w.grownBy w2 (some g))
  clear hc1 hR2 hX1 HB2 hb2 HW1
  obtain ⟨d0, d1, d2, d3, d4, d5⟩ := hX2.six
  have zX := hX2.free
  go_wp2_with fail
  rw [HE.out]
  refine (hc2.fail _).mono ?_
  rintro e w3 ⟨rfl, hc3, hb3⟩
  have hX3 := box_by hX2 hb3 hXg
  have hR4 := box_by hR3 hb3 hne
  have HB4 := hid (grownBy_then HB3.out hb3)
  clear hc2 hX2 hR3 HB3 hb3 d0 d1 d2 d3 d4 d5 zX
  obtain ⟨d0, d1, d2, d3, d4, d5⟩ := hX3.six
  have zX := hX3.free
  go_wp2_with fail
  have hc6 := hc3
  have hX6 := hX3
  have hR6 := hR4
  have HB6 := HB4
  clear hc3 hX3 hR4 HB4 d0 d1 d2 d3 d4 d5 zX
  have hsz := hX6.lt
  refine (readBytes_two hc6 HN.out HQ.out (by omega) HV1.out HV2.out HV3.out rfl).mono ?_
  rintro e w7 ⟨a1, c1, a2, c2, rfl, i1, i2, hmc, hn1, hn2, hc7, hb7⟩
  have nR1 : ∀ q : Addr, a1 = some q → q.block ≠ w.heap.size := fun q hq => by have := hn1 q hq; omega
  have nX1 : ∀ q : Addr, a1 = some q → q.block ≠ w1.heap.size := fun q hq => by have := hn1 q hq; omega
  have nR2 : ∀ q : Addr, a2 = some q → q.block ≠ w.heap.size := fun q hq => by have := hn2 q hq; omega
  have nX2 : ∀ q : Addr, a2 = some q → q.block ≠ w1.heap.size := fun q hq => by have := hn2 q hq; omega
  have hw1 : New8 w a1 := fun q hq => by have := hn1 q hq; omega
  have hw2 : New8 w a2 := fun q hq => by have := hn2 q hq; omega
  clear hn1 hn2
  have hX7 := box_by hX6 hb7 hXg
  have hR7 := box_by hR6 hb7 hne
  have HB7 := hid (grownBy_then HB6.out hb7)
  clear hX6 hR6 HB6 hb7 hc6
  obtain ⟨d0, d1, d2, d3, d4, d5⟩ := hX7.six
  obtain ⟨e0, e1, e2, e3, e4, e5⟩ := hR7.six
  have zX := hX7.free
  have zR := hR7.free
  have I1 := hid i1
  have I2 := hid i2
  have HMC := hid hmc
  clear i1 i2 hmc
  obtain ⟨vl, hvl⟩ : ∃ n, v.length = n := ⟨_, rfl⟩
  obtain ⟨ml, hml⟩ : ∃ n, m.length = n := ⟨_, rfl⟩
  rw [hvl, hml]
  have HVL := hid hvl
  have HML := hid hml
  clear hvl hml
  go_wp2_with fail
  have hk := ((hR7.far (i := 4) (.slice a1 vl c1) hXR).far (i := 5) (.slice a2 ml c2) hXR).set6 (.int .i64 32768) (.int .i64 F) (.bool true) (.int .u64 0) (.slice a1 vl c1) (.slice a2 ml c2)
  obtain ⟨k0, k1, k2, k3, k4, k5⟩ := hk.six
  refine bodyPost_ret (v := .agg #[.int .i64 32768, .int .i64 F, .bool true, .int .u64 0, .slice a1 vl c1, .slice a2 ml c2]) (by simp [results, Tryz.results156, go_sem, k0, k1, k2, k3, k4, k5]) rfl ⟨a1, c1, a2, c2, by rw [HVL.out, HML.out], ?_, ?_, HMC.out, ⟨hw1, hw2⟩, ?_, ?_⟩
  · repeat (first | refine Ints.apart ?_ _ nR1 | refine Ints.apart ?_ _ nX1)
    exact I1.out
  · repeat (first | refine Ints.apart ?_ _ nR2 | refine Ints.apart ?_ _ nX2)
    exact I2.out
  · refine ⟨l6.drop q, ?_⟩
    rw [← RR.out]
    repeat (first | refine Cur.kept ?_ (by_setCell _ _ _ _) gR mR | refine Cur.kept ?_ (by_setCell _ _ _ _) gX mX)
    exact hc7
  · repeat (refine by_set_new ?_ (by omega) _)
    exact HB7.out

set_option maxRecDepth 100000 in
set_option maxHeartbeats 2000000 in
theorem read8_basic_two_short (h : Cur w g M l r s o 0) (hs : s ≠ 0) (hM : M < w.heap.size) (hl : 4 ≤ l.length) {n F : Int} {N : Nat} {l4 : List Int} (hC : numL (l.take 2) = 32768) (hn : numL ((l.drop 2).take 1) = n) (hL : numL (((l.drop 2).drop 1).take 1) = (N : Int)) (h4 : ((l.drop 2).drop 1).drop 1 = l4) (hF : n / 2 = F) (hH : oddB n = true) (hE : headE 32768 F true ((N : Int)) = 0) {q : Nat} (hN : N = 2 * q) (hq : l4.length < N) :
    Calls Tryz.prog 156 #[.pointer (some ⟨g, 0, none⟩)] w (ReadNone w g M s o s) := by
  have HS := hid hs
  have oct := h.oct
  have hg := h.block_lt
  obtain ⟨W, hW, hbW, hbox⟩ := oxm_box w 0 0 false 0 none 0 0 none 0 0
  have HW := hid hW
  have hcW := h.below hbW
  have hcWX := hid hcW
  have HBW := hid (below_by_none hbW)
  have hne : w.heap.size ≠ g := by omega
  have hMW : M ≠ w.heap.size := by omega
  clear hW hbW
  have hM2 : M < W.heap.size := by have := hbox.lt; omega
  have hmf : ∀ (fn : Fn) (first cap : Array Value) (w : World), (Instr.makeFunc fn first cap).run Tryz.prog w = .ok (.func fn first cap) w := fun _ _ _ _ => rfl
  have L0 := num_byte ((oct.drop 2).drop 1)
  rw [hL] at L0
  obtain ⟨L1, L2⟩ := L0
  have HE := hid hE
  have H1 := readHead8_ok hcW hM2 hl hC hn hL
  rw [hF, hH, h4] at H1
  have H1 := hid H1
  have HQ := hid hq
  have HN := hid hN
  clear hq hN
  clear hs hl hcW oct hcWX hC hn hL h4 hF hH hE
  go_enter Tryz.func156, Tryz.ntmps156
  go_wp2_with fail
  rw [HW.out]
  refine H1.out.mono ?_
  rintro e w1 ⟨rfl, hc, hb⟩
  have hR1 := box_by hbox hb hne
  have HB1 := hid (by_new_row HBW.out hb)
  have hs1 := hb.size
  have hs2 : w.heap.size < w1.heap.size := Nat.lt_of_lt_of_le hbox.lt hs1
  have hg1 := hc.block_lt
  obtain ⟨W1, hW1, hbW1, hX1⟩ := oxm_box w1 32768 F true 0 none 0 0 none 0 0
  have HW1 := hid hW1
  have hXg : w1.heap.size ≠ g := by omega
  have hXR : w1.heap.size ≠ w.heap.size := by omega
  have gX : some w1.heap.size ≠ some g := by simpa using hXg
  have gR : some w.heap.size ≠ some g := by simpa using hne
  have mX : some w1.heap.size ≠ some M := by simp; omega
  have mR : some w.heap.size ≠ some M := by simp; omega
  have hle : w.heap.size ≤ w1.heap.size := by omega
  have hc1 := hc.below hbW1
  have hR2 := hR1.below hbW1
  have HB2 := hid (grownBy_then HB1.out (grownBy_more (below_by_none hbW1)) : w.grownBy W1 (some g))
  clear hb hbox hc hR1 HB1 hW1 hbW1 hs1 hM2 hg1
  go_wp2_with fail
  rw [HW1.out]
  refine (wrongHead_any 32768 F true 0 none 0 0 none 0 0 ((N : Int)) _ (by omega) (by omega)).mono ?_
  rintro e w2 ⟨rfl, hb2⟩
  have hc2 := hc1.below hb2
  have hR3 := hR2.below hb2
  have hX2 := hX1.below hb2
  have HB3 := hid (grownBy_then HB2.out (grownBy_more (below_by_none hb2)) : w.grownBy w2 (some g))
  clear hc1 hR2 hX1 HB2 hb2 HW1
  obtain ⟨d0, d1, d2, d3, d4, d5⟩ := hX2.six
  have zX := hX2.free
  go_wp2_with fail
  rw [HE.out]
  refine (hc2.fail _).mono ?_
  rintro e w3 ⟨rfl, hc3, hb3⟩
  have hX3 := box_by hX2 hb3 hXg
  have hR4 := box_by hR3 hb3 hne
  have HB4 := hid (grownBy_then HB3.out hb3)
  clear hc2 hX2 hR3 HB3 hb3 d0 d1 d2 d3 d4 d5 zX
  obtain ⟨d0, d1, d2, d3, d4, d5⟩ := hX3.six
  have zX := hX3.free
  go_wp2_with fail
  have hc6 := hc3
  have hX6 := hX3
  have hR6 := hR4
  have HB6 := HB4
  clear hc3 hX3 hR4 HB4 d0 d1 d2 d3 d4 d5 zX
  refine (readBytes_two_short hc6 HS.out HN.out HQ.out (by omega)).mono ?_
  rintro e w7 ⟨a1, n1, c1, a2, n2, c2, l5, r5, rfl, hc7, hb7⟩
  have hX7 := box_by hX6 hb7 hXg
  have hR7 := box_by hR6 hb7 hne
  have HB7 := hid (grownBy_then HB6.out hb7)
  clear hX6 hR6 HB6 hb7 hc6
  obtain ⟨d0, d1, d2, d3, d4, d5⟩ := hX7.six
  obtain ⟨e0, e1, e2, e3, e4, e5⟩ := hR7.six
  have zX := hX7.free
  have zR := hR7.free
  go_wp2_with fail
  have hk := ((hR7.far (i := 4) (.slice a1 n1 c1) hXR).far (i := 5) (.slice a2 n2 c2) hXR).set6 (.int .i64 32768) (.int .i64 F) (.bool true) (.int .u64 0) (.slice a1 n1 c1) (.slice a2 n2 c2)
  obtain ⟨k0, k1, k2, k3, k4, k5⟩ := hk.six
  refine bodyPost_ret (v := .agg #[.int .i64 32768, .int .i64 F, .bool true, .int .u64 0, .slice a1 n1 c1, .slice a2 n2 c2]) (by simp [results, Tryz.results156, go_sem, k0, k1, k2, k3, k4, k5]) rfl ⟨32768, F, true, 0, a1, n1, c1, a2, n2, c2, l5, r5, rfl, ?_, ?_⟩
  · repeat (first | refine Cur.kept ?_ (by_setCell _ _ _ _) gR mR | refine Cur.kept ?_ (by_setCell _ _ _ _) gX mX)
    exact hc7
  · repeat (refine by_set_new ?_ (by omega) _)
    exact HB7.out

set_option maxRecDepth 100000 in
set_option maxHeartbeats 2000000 in
theorem read8_extra_one (h : Cur w g M l r s o 0) (hs : s ≠ 0) (hM : M < w.heap.size) (hl : 4 ≤ l.length) {n F : Int} {N : Nat} {l4 : List Int} (hC : numL (l.take 2) = 65535) (hn : numL ((l.drop 2).take 1) = n) (hL : numL (((l.drop 2).drop 1).take 1) = (N : Int) + 4) (h4 : ((l.drop 2).drop 1).drop 1 = l4) (hF : n / 2 = F) (hH : oddB n = false) (hE : headE 65535 F false ((N : Int) + 4) = 0) {XX : Int} {l5 : List Int} (hx4 : 4 ≤ l4.length) (hx : numL (l4.take 4) = XX) (h5 : l4.drop 4 = l5) {v m : List Int} (hm : m = []) (hv : l5.take N = v) (hq : N ≤ l5.length) :
    Calls Tryz.prog 156 #[.pointer (some ⟨g, 0, none⟩)] w (ReadGood w g M 65535 F false XX v m (r + (2 : Nat) + (1 : Nat) + (1 : Nat) + (4 : Nat) + (N : Nat)) s o) := by
  have HS := hid hs
  have oct := h.oct
  have hg := h.block_lt
  obtain ⟨W, hW, hbW, hbox⟩ := oxm_box w 0 0 false 0 none 0 0 none 0 0
  have HW := hid hW
  have hcW := h.below hbW
  have hcWX := hid hcW
  have HBW := hid (below_by_none hbW)
  have hne : w.heap.size ≠ g := by omega
  have hMW : M ≠ w.heap.size := by omega
  clear hW hbW
  have hM2 : M < W.heap.size := by have := hbox.lt; omega
  have hmf : ∀ (fn : Fn) (first cap : Array Value) (w : World), (Instr.makeFunc fn first cap).run Tryz.prog w = .ok (.func fn first cap) w := fun _ _ _ _ => rfl
  have L0 := num_byte ((oct.drop 2).drop 1)
  rw [hL] at L0
  obtain ⟨L1, L2⟩ := L0
  have HE := hid hE
  have H1 := readHead8_ok hcW hM2 hl hC hn hL
  rw [hF, hH, h4] at H1
  have H1 := hid H1
  have HL4 := hid hx4
  have HX := hid hx
  have H5 := hid h5
  clear hx4 hx h5
  have HQ := hid hq
  have HV := hid hv
  have RR : Hid (r + (2 : Nat) + (1 : Nat) + (1 : Nat) + (4 : Nat) + (N : Nat) = r + (2 : Nat) + (1 : Nat) + (1 : Nat) + (4 : Nat) + (N : Nat)) := hid rfl
  have HM := hid hm
  clear hq hv hm
  clear hs hl hcW oct hcWX hC hn hL h4 hF hH hE
  go_enter Tryz.func156, Tryz.ntmps156
  go_wp2_with fail
  rw [HW.out]
  refine H1.out.mono ?_
  rintro e w1 ⟨rfl, hc, hb⟩
  have hR1 := box_by hbox hb hne
  have HB1 := hid (by_new_row HBW.out hb)
  have hs1 := hb.size
  have hs2 : w.heap.size < w1.heap.size := Nat.lt_of_lt_of_le hbox.lt hs1
  have hg1 := hc.block_lt
  obtain ⟨W1, hW1, hbW1, hX1⟩ := oxm_box w1 65535 F false 0 none 0 0 none 0 0
  have HW1 := hid hW1
  have hXg : w1.heap.size ≠ g := by omega
  have hXR : w1.heap.size ≠ w.heap.size := by omega
  have gX : some w1.heap.size ≠ some g := by simpa using hXg
  have gR : some w.heap.size ≠ some g := by simpa using hne
  have mX : some w1.heap.size ≠ some M := by simp; omega
  have mR : some w.heap.size ≠ some M := by simp; omega
  have hle : w.heap.size ≤ w1.heap.size := by omega
  have hc1 := hc.below hbW1
  have hR2 := hR1.below hbW1
  have HB2 := hid (grownBy_then HB1.out (grownBy_more (below_by_none hbW1)) : w.grownBy W1 (some g))
  clear hb hbox hc hR1 HB1 hW1 hbW1 hs1 hM2 hg1
  go_wp2_with fail
  rw [HW1.out]
  refine (wrongHead_any 65535 F false 0 none 0 0 none 0 0 ((N : Int) + 4) _ (by omega) (by omega)).mono ?_
  rintro e w2 ⟨rfl, hb2⟩
  have hc2 := hc1.below hb2
  have hR3 := hR2.below hb2
  have hX2 := hX1.below hb2
  have HB3 := hid (grownBy_then HB2.out (grownBy_more (below_by_none hb2)) : w.grownBy w2 (some g))
  clear hc1 hR2 hX1 HB2 hb2 HW1
  obtain ⟨d0, d1, d2, d3, d4, d5⟩ := hX2.six
  have zX := hX2.free
  go_wp2_with fail
  rw [HE.out]
  refine (hc2.fail _).mono ?_
  rintro e w3 ⟨rfl, hc3, hb3⟩
  have hX3 := box_by hX2 hb3 hXg
  have hR4 := box_by hR3 hb3 hne
  have HB4 := hid (grownBy_then HB3.out hb3)
  clear hc2 hX2 hR3 HB3 hb3 d0 d1 d2 d3 d4 d5 zX
  obtain ⟨d0, d1, d2, d3, d4, d5⟩ := hX3.six
  have zX := hX3.free
  go_wp2_with fail
  refine (hc3.num_ok (n := 4) (by decide) (by decide) HL4.out).mono ?_
  rintro e w4 ⟨rfl, hc4, hb4⟩
  rw [HX.out]
  have hX4 := box_by hX3 hb4 hXg
  have hR5 := box_by hR4 hb4 hne
  have HB5 := hid (grownBy_then HB4.out hb4)
  clear hc3 hX3 hR4 HB4 hb4 d0 d1 d2 d3 d4 d5 zX
  obtain ⟨d0, d1, d2, d3, d4, d5⟩ := hX4.six
  have zX := hX4.free
  go_wp2_with fail
  rw [H5.out] at hc4
  have hc6 := hc4.kept (by_setCell w4 w1.heap.size 3 (.int .u64 XX)) gX mX
  have hX6 := hX4.set 3 (.int .u64 XX) (by simp)
  have hR6 := hR5.far (i := 3) (.int .u64 XX) hXR
  have HB6 := hid (by_set_new (i := 3) HB5.out hle (.int .u64 XX))
  clear hc4 hX4 hR5 HB5 d0 d1 d2 d3 d4 d5 zX
  have hz := readBytes_one hc6 HQ.out (by omega)
  rw [HV.out, ← HM.out] at hz
  have hsz := hX6.lt
  refine (hz).mono ?_
  rintro e w7 ⟨a1, c1, a2, c2, rfl, i1, i2, hmc, hn1, hn2, hc7, hb7⟩
  have nR1 : ∀ q : Addr, a1 = some q → q.block ≠ w.heap.size := fun q hq => by have := hn1 q hq; omega
  have nX1 : ∀ q : Addr, a1 = some q → q.block ≠ w1.heap.size := fun q hq => by have := hn1 q hq; omega
  have nR2 : ∀ q : Addr, a2 = some q → q.block ≠ w.heap.size := fun q hq => by have := hn2 q hq; omega
  have nX2 : ∀ q : Addr, a2 = some q → q.block ≠ w1.heap.size := fun q hq => by have := hn2 q hq; omega
  have hw1 : New8 w a1 := fun q hq => by have := hn1 q hq; omega
  have hw2 : New8 w a2 := fun q hq => by have := hn2 q hq; omega
  clear hn1 hn2
  have hX7 := box_by hX6 hb7 hXg
  have hR7 := box_by hR6 hb7 hne
  have HB7 := hid (grownBy_then HB6.out hb7)
  clear hX6 hR6 HB6 hb7 hc6
  obtain ⟨d0, d1, d2, d3, d4, d5⟩ := hX7.six
  obtain ⟨e0, e1, e2, e3, e4, e5⟩ := hR7.six
  have zX := hX7.free
  have zR := hR7.free
  have I1 := hid i1
  have I2 := hid i2
  have HMC := hid hmc
  clear i1 i2 hmc
  obtain ⟨vl, hvl⟩ : ∃ n, v.length = n := ⟨_, rfl⟩
  obtain ⟨ml, hml⟩ : ∃ n, m.length = n := ⟨_, rfl⟩
  rw [hvl, hml]
  have HVL := hid hvl
  have HML := hid hml
  clear hvl hml
  go_wp2_with fail
  have hk := ((hR7.far (i := 4) (.slice a1 vl c1) hXR).far (i := 5) (.slice a2 ml c2) hXR).set6 (.int .i64 65535) (.int .i64 F) (.bool false) (.int .u64 XX) (.slice a1 vl c1) (.slice a2 ml c2)
  obtain ⟨k0, k1, k2, k3, k4, k5⟩ := hk.six
  refine bodyPost_ret (v := .agg #[.int .i64 65535, .int .i64 F, .bool false, .int .u64 XX, .slice a1 vl c1, .slice a2 ml c2]) (by simp [results, Tryz.results156, go_sem, k0, k1, k2, k3, k4, k5]) rfl ⟨a1, c1, a2, c2, by rw [HVL.out, HML.out], ?_, ?_, HMC.out, ⟨hw1, hw2⟩, ?_, ?_⟩
  · repeat (first | refine Ints.apart ?_ _ nR1 | refine Ints.apart ?_ _ nX1)
    exact I1.out
  · repeat (first | refine Ints.apart ?_ _ nR2 | refine Ints.apart ?_ _ nX2)
    exact I2.out
  · refine ⟨l5.drop N, ?_⟩
    repeat (first | refine Cur.kept ?_ (by_setCell _ _ _ _) gR mR | refine Cur.kept ?_ (by_setCell _ _ _ _) gX mX)
    exact hc7
  · repeat (refine by_set_new ?_ (by omega) _)
    exact HB7.out

set_option maxRecDepth 100000 in
set_option maxHeartbeats 2000000 in
theorem read8_extra_one_short (h : Cur w g M l r s o 0) (hs : s ≠ 0) (hM : M < w.heap.size) (hl : 4 ≤ l.length) {n F : Int} {N : Nat} {l4 : List Int} (hC : numL (l.take 2) = 65535) (hn : numL ((l.drop 2).take 1) = n) (hL : numL (((l.drop 2).drop 1).take 1) = (N : Int) + 4) (h4 : ((l.drop 2).drop 1).drop 1 = l4) (hF : n / 2 = F) (hH : oddB n = false) (hE : headE 65535 F false ((N : Int) + 4) = 0) {XX : Int} {l5 : List Int} (hx4 : 4 ≤ l4.length) (hx : numL (l4.take 4) = XX) (h5 : l4.drop 4 = l5) (hq : l5.length < N) :
    Calls Tryz.prog 156 #[.pointer (some ⟨g, 0, none⟩)] w (ReadNone w g M s o s) := by
  have HS := hid hs
  have oct := h.oct
  have hg := h.block_lt
  obtain ⟨W, hW, hbW, hbox⟩ := oxm_box w 0 0 false 0 none 0 0 none 0 0
  have HW := hid hW
  have hcW := h.below hbW
  have hcWX := hid hcW
  have HBW := hid (below_by_none hbW)
  have hne : w.heap.size ≠ g := by omega
  have hMW : M ≠ w.heap.size := by omega
  clear hW hbW
  have hM2 : M < W.heap.size := by have := hbox.lt; omega
  have hmf : ∀ (fn : Fn) (first cap : Array Value) (w : World), (Instr.makeFunc fn first cap).run Tryz.prog w = .ok (.func fn first cap) w := fun _ _ _ _ => rfl
  have L0 := num_byte ((oct.drop 2).drop 1)
  rw [hL] at L0
  obtain ⟨L1, L2⟩ := L0
  have HE := hid hE
  have H1 := readHead8_ok hcW hM2 hl hC hn hL
  rw [hF, hH, h4] at H1
  have H1 := hid H1
  have HL4 := hid hx4
  have HX := hid hx
  have H5 := hid h5
  clear hx4 hx h5
  have HQ := hid hq
  clear hq
  clear hs hl hcW oct hcWX hC hn hL h4 hF hH hE
  go_enter Tryz.func156, Tryz.ntmps156
  go_wp2_with fail
  rw [HW.out]
  refine H1.out.mono ?_
  rintro e w1 ⟨rfl, hc, hb⟩
  have hR1 := box_by hbox hb hne
  have HB1 := hid (by_new_row HBW.out hb)
  have hs1 := hb.size
  have hs2 : w.heap.size < w1.heap.size := Nat.lt_of_lt_of_le hbox.lt hs1
  have hg1 := hc.block_lt
  obtain ⟨W1, hW1, hbW1, hX1⟩ := oxm_box w1 65535 F false 0 none 0 0 none 0 0
  have HW1 := hid hW1
  have hXg : w1.heap.size ≠ g := by omega
  have hXR : w1.heap.size ≠ w.heap.size := by omega
  have gX : some w1.heap.size ≠ some g := by simpa using hXg
  have gR : some w.heap.size ≠ some g := by simpa using hne
  have mX : some w1.heap.size ≠ some M := by simp; omega
  have mR : some w.heap.size ≠ some M := by simp; omega
  have hle : w.heap.size ≤ w1.heap.size := by omega
  have hc1 := hc.below hbW1
  have hR2 := hR1.below hbW1
  have HB2 := hid (grownBy_then HB1.out (grownBy_more (below_by_none hbW1)) : w.grownBy W1 (some g))
  clear hb hbox hc hR1 HB1 hW1 hbW1 hs1 hM2 hg1
  go_wp2_with fail
  rw [HW1.out]
  refine (wrongHead_any 65535 F false 0 none 0 0 none 0 0 ((N : Int) + 4) _ (by omega) (by omega)).mono ?_
  rintro e w2 ⟨rfl, hb2⟩
  have hc2 := hc1.below hb2
  have hR3 := hR2.below hb2
  have hX2 := hX1.below hb2
  have HB3 := hid (grownBy_then HB2.out (grownBy_more (below_by_none hb2)) : w.grownBy w2 (some g))
  clear hc1 hR2 hX1 HB2 hb2 HW1
  obtain ⟨d0, d1, d2, d3, d4, d5⟩ := hX2.six
  have zX := hX2.free
  go_wp2_with fail
  rw [HE.out]
  refine (hc2.fail _).mono ?_
  rintro e w3 ⟨rfl, hc3, hb3⟩
  have hX3 := box_by hX2 hb3 hXg
  have hR4 := box_by hR3 hb3 hne
  have HB4 := hid (grownBy_then HB3.out hb3)
  clear hc2 hX2 hR3 HB3 hb3 d0 d1 d2 d3 d4 d5 zX
  obtain ⟨d0, d1, d2, d3, d4, d5⟩ := hX3.six
  have zX := hX3.free
  go_wp2_with fail
  refine (hc3.num_ok (n := 4) (by decide) (by decide) HL4.out).mono ?_
  rintro e w4 ⟨rfl, hc4, hb4⟩
  rw [HX.out]
  have hX4 := box_by hX3 hb4 hXg
  have hR5 := box_by hR4 hb4 hne
  have HB5 := hid (grownBy_then HB4.out hb4)
  clear hc3 hX3 hR4 HB4 hb4 d0 d1 d2 d3 d4 d5 zX
  obtain ⟨d0, d1, d2, d3, d4, d5⟩ := hX4.six
  have zX := hX4.free
  go_wp2_with fail
  rw [H5.out] at hc4
  have hc6 := hc4.kept (by_setCell w4 w1.heap.size 3 (.int .u64 XX)) gX mX
  have hX6 := hX4.set 3 (.int .u64 XX) (by simp)
  have hR6 := hR5.far (i := 3) (.int .u64 XX) hXR
  have HB6 := hid (by_set_new (i := 3) HB5.out hle (.int .u64 XX))
  clear hc4 hX4 hR5 HB5 d0 d1 d2 d3 d4 d5 zX
  refine (readBytes_one_short hc6 HQ.out (by omega)).mono ?_
  rintro e w7 ⟨a1, n1, c1, a2, n2, c2, l5, r5, rfl, hc7, hb7⟩
  have hX7 := box_by hX6 hb7 hXg
  have hR7 := box_by hR6 hb7 hne
  have HB7 := hid (grownBy_then HB6.out hb7)
  clear hX6 hR6 HB6 hb7 hc6
  obtain ⟨d0, d1, d2, d3, d4, d5⟩ := hX7.six
  obtain ⟨e0, e1, e2, e3, e4, e5⟩ := hR7.six
  have zX := hX7.free
  have zR := hR7.free
  go_wp2_with fail
  have hk := ((hR7.far (i := 4) (.slice a1 n1 c1) hXR).far (i := 5) (.slice a2 n2 c2) hXR).set6 (.int .i64 65535) (.int .i64 F) (.bool false) (.int .u64 XX) (.slice a1 n1 c1) (.slice a2 n2 c2)
  obtain ⟨k0, k1, k2, k3, k4, k5⟩ := hk.six
  refine bodyPost_ret (v := .agg #[.int .i64 65535, .int .i64 F, .bool false, .int .u64 XX, .slice a1 n1 c1, .slice a2 n2 c2]) (by simp [results, Tryz.results156, go_sem, k0, k1, k2, k3, k4, k5]) rfl ⟨65535, F, false, XX, a1, n1, c1, a2, n2, c2, l5, r5, rfl, ?_, ?_⟩
  · repeat (first | refine Cur.kept ?_ (by_setCell _ _ _ _) gR mR | refine Cur.kept ?_ (by_setCell _ _ _ _) gX mX)
    exact hc7
  · repeat (refine by_set_new ?_ (by omega) _)
    exact HB7.out

set_option maxRecDepth 100000 in
set_option maxHeartbeats 2000000 in
theorem read8_extra_two (h : Cur w g M l r s o 0) (hs : s ≠ 0) (hM : M < w.heap.size) (hl : 4 ≤ l.length) {n F : Int} {N : Nat} {l4 : List Int} (hC : numL (l.take 2) = 65535) (hn : numL ((l.drop 2).take 1) = n) (hL : numL (((l.drop 2).drop 1).take 1) = (N : Int) + 4) (h4 : ((l.drop 2).drop 1).drop 1 = l4) (hF : n / 2 = F) (hH : oddB n = true) (hE : headE 65535 F true ((N : Int) + 4) = 0) {XX : Int} {l5 : List Int} (hx4 : 4 ≤ l4.length) (hx : numL (l4.take 4) = XX) (h5 : l4.drop 4 = l5) {v m l6 : List Int} {q : Nat} (hN : N = 2 * q) (hv : l5.take q = v) (hv2 : l5.drop q = l6) (hm : l6.take q = m) (hq : N ≤ l5.length) :
    Calls Tryz.prog 156 #[.pointer (some ⟨g, 0, none⟩)] w (ReadGood w g M 65535 F true XX v m (r + (2 : Nat) + (1 : Nat) + (1 : Nat) + (4 : Nat) + (N : Nat)) s o) := by
  have HS := hid hs
  have oct := h.oct
  have hg := h.block_lt
  obtain ⟨W, hW, hbW, hbox⟩ := oxm_box w 0 0 false 0 none 0 0 none 0 0
  have HW := hid hW
  have hcW := h.below hbW
  have hcWX := hid hcW
  have HBW := hid (below_by_none hbW)
  have hne : w.heap.size ≠ g := by omega
  have hMW : M ≠ w.heap.size := by omega
  clear hW hbW
  have hM2 : M < W.heap.size := by have := hbox.lt; omega
  have hmf : ∀ (fn : Fn) (first cap : Array Value) (w : World), (Instr.makeFunc fn first cap).run Tryz.prog w = .ok (.func fn first cap) w := fun _ _ _ _ => rfl
  have L0 := num_byte ((oct.drop 2).drop 1)
  rw [hL] at L0
  obtain ⟨L1, L2⟩ := L0
  have HE := hid hE
  have H1 := readHead8_ok hcW hM2 hl hC hn hL
  rw [hF, hH, h4] at H1
  have H1 := hid H1
  have HL4 := hid hx4
  have HX := hid hx
  have H5 := hid h5
  clear hx4 hx h5
  have HQ := hid hq
  have HN := hid hN
  have HV1 := hid hv
  have HV2 := hid hv2
  have HV3 := hid hm
  have RR : Hid (r + (2 : Nat) + (1 : Nat) + (1 : Nat) + (4 : Nat) + (q : Nat) + (q : Nat) = r + (2 : Nat) + (1 : Nat) + (1 : Nat) + (4 : Nat) + (N : Nat)) := by show _ = _; omega
  clear hq hv hv2 hm hN
  clear hs hl hcW oct hcWX hC hn hL h4 hF hH hE
  go_enter Tryz.func156, Tryz.ntmps156
  go_wp2_with fail
  rw [HW.out]
  refine H1.out.mono ?_
  rintro e w1 ⟨rfl, hc, hb⟩
  have hR1 := box_by hbox hb hne
  have HB1 := hid (by_new_row HBW.out hb)
  have hs1 := hb.size
  have hs2 : w.heap.size < w1.heap.size := Nat.lt_of_lt_of_le hbox.lt hs1
  have hg1 := hc.block_lt
  obtain ⟨W1, hW1, hbW1, hX1⟩ := oxm_box w1 65535 F true 0 none 0 0 none 0 0
  have HW1 := hid hW1
  have hXg : w1.heap.size ≠ g := by omega
  have hXR : w1.heap.size ≠ w.heap.size := by omega
  have gX : some w1.heap.size ≠ some g := by simpa using hXg
  have gR : some w.heap.size ≠ some g := by simpa using hne
  have mX : some w1.heap.size ≠ some M := by simp; omega
  have mR : some w.heap.size ≠ some M := by simp; omega
  have hle : w.heap.size ≤ w1.heap.size := by omega
  have hc1 := hc.below hbW1
  have hR2 := hR1.below hbW1
  have HB2 := hid (grownBy_then HB1.out (grownBy_more (below_by_none hbW1)) : w.grownBy W1 (some g))
  clear hb hbox hc hR1 HB1 hW1 hbW1 hs1 hM2 hg1
  go_wp2_with fail
  rw [HW1.out]
  refine (wrongHead_any 65535 F true 0 none 0 0 none 0 0 ((N : Int) + 4) _ (by omega) (by omega)).mono ?_
  rintro e w2 ⟨rfl, hb2⟩
  have hc2 := hc1.below hb2
  have hR3 := hR2.below hb2
  have hX2 := hX1.below hb2
  have HB3 := hid (grownBy_then HB2.out (grownBy_more (below_by_none hb2)) : w.grownBy w2 (some g))
  clear hc1 hR2 hX1 HB2 hb2 HW1
  obtain ⟨d0, d1, d2, d3, d4, d5⟩ := hX2.six
  have zX := hX2.free
  go_wp2_with fail
  rw [HE.out]
  refine (hc2.fail _).mono ?_
  rintro e w3 ⟨rfl, hc3, hb3⟩
  have hX3 := box_by hX2 hb3 hXg
  have hR4 := box_by hR3 hb3 hne
  have HB4 := hid (grownBy_then HB3.out hb3)
  clear hc2 hX2 hR3 HB3 hb3 d0 d1 d2 d3 d4 d5 zX
  obtain ⟨d0, d1, d2, d3, d4, d5⟩ := hX3.six
  have zX := hX3.free
  go_wp2_with fail
  refine (hc3.num_ok (n := 4) (by decide) (by decide) HL4.out).mono ?_
  rintro e w4 ⟨rfl, hc4, hb4⟩
  rw [HX.out]
  have hX4 := box_by hX3 hb4 hXg
  have hR5 := box_by hR4 hb4 hne
  have HB5 := hid (grownBy_then HB4.out hb4)
  clear hc3 hX3 hR4 HB4 hb4 d0 d1 d2 d3 d4 d5 zX
  obtain ⟨d0, d1, d2, d3, d4, d5⟩ := hX4.six
  have zX := hX4.free
  go_wp2_with fail
  rw [H5.out] at hc4
  have hc6 := hc4.kept (by_setCell w4 w1.heap.size 3 (.int .u64 XX)) gX mX
  have hX6 := hX4.set 3 (.int .u64 XX) (by simp)
  have hR6 := hR5.far (i := 3) (.int .u64 XX) hXR
  have HB6 := hid (by_set_new (i := 3) HB5.out hle (.int .u64 XX))
  clear hc4 hX4 hR5 HB5 d0 d1 d2 d3 d4 d5 zX
  have hsz := hX6.lt
  refine (readBytes_two hc6 HN.out HQ.out (by omega) HV1.out HV2.out HV3.out rfl).mono ?_
  rintro e w7 ⟨a1, c1, a2, c2, rfl, i1, i2, hmc, hn1, hn2, hc7, hb7⟩
  have nR1 : ∀ q : Addr, a1 = some q → q.block ≠ w.heap.size := fun q hq => by have := hn1 q hq; omega
  have nX1 : ∀ q : Addr, a1 = some q → q.block ≠ w1.heap.size := fun q hq => by have := hn1 q hq; omega
  have nR2 : ∀ q : Addr, a2 = some q → q.block ≠ w.heap.size := fun q hq => by have := hn2 q hq; omega
  have nX2 : ∀ q : Addr, a2 = some q → q.block ≠ w1.heap.size := fun q hq => by have := hn2 q hq; omega
  have hw1 : New8 w a1 := fun q hq => by have := hn1 q hq; omega
  have hw2 : New8 w a2 := fun q hq => by have := hn2 q hq; omega
  clear hn1 hn2
  have hX7 := box_by hX6 hb7 hXg
  have hR7 := box_by hR6 hb7 hne
  have HB7 := hid (grownBy_then HB6.out hb7)
  clear hX6 hR6 HB6 hb7 hc6
  obtain ⟨d0, d1, d2, d3, d4, d5⟩ := hX7.six
  obtain ⟨e0, e1, e2, e3, e4, e5⟩ := hR7.six
  have zX := hX7.free
  have zR := hR7.free
  have I1 := hid i1
  have I2 := hid i2
  have HMC := hid hmc
  clear i1 i2 hmc
  obtain ⟨vl, hvl⟩ : ∃ n, v.length = n := ⟨_, rfl⟩
  obtain ⟨ml, hml⟩ : ∃ n, m.length = n := ⟨_, rfl⟩
  rw [hvl, hml]
  have HVL := hid hvl
  have HML := hid hml
  clear hvl hml
  go_wp2_with fail
  have hk := ((hR7.far (i := 4) (.slice a1 vl c1) hXR).far (i := 5) (.slice a2 ml c2) hXR).set6 (.int .i64 65535) (.int .i64 F) (.bool true) (.int .u64 XX) (.slice a1 vl c1) (.slice a2 ml c2)
  obtain ⟨k0, k1, k2, k3, k4, k5⟩ := hk.six
  refine bodyPost_ret (v := .agg #[.int .i64 65535, .int .i64 F, .bool true, .int .u64 XX, .slice a1 vl c1, .slice a2 ml c2]) (by simp [results, Tryz.results156, go_sem, k0, k1, k2, k3, k4, k5]) rfl ⟨a1, c1, a2, c2, by rw [HVL.out, HML.out], ?_, ?_, HMC.out, ⟨hw1, hw2⟩, ?_, ?_⟩
  · repeat (first | refine Ints.apart ?_ _ nR1 | refine Ints.apart ?_ _ nX1)
    exact I1.out
  · repeat (first | refine Ints.apart ?_ _ nR2 | refine Ints.apart ?_ _ nX2)
    exact I2.out
  · refine ⟨l6.drop q, ?_⟩
    rw [← RR.out]
    repeat (first | refine Cur.kept ?_ (by_setCell _ _ _ _) gR mR | refine Cur.kept ?_ (by_setCell _ _ _ _) gX mX)
    exact hc7
  · repeat (refine by_set_new ?_ (by omega) _)
    exact HB7.out

set_option maxRecDepth 100000 in
set_option maxHeartbeats 2000000 in
theorem read8_extra_two_short (h : Cur w g M l r s o 0) (hs : s ≠ 0) (hM : M < w.heap.size) (hl : 4 ≤ l.length) {n F : Int} {N : Nat} {l4 : List Int} (hC : numL (l.take 2) = 65535) (hn : numL ((l.drop 2).take 1) = n) (hL : numL (((l.drop 2).drop 1).take 1) = (N : Int) + 4) (h4 : ((l.drop 2).drop 1).drop 1 = l4) (hF : n / 2 = F) (hH : oddB n = true) (hE : headE 65535 F true ((N : Int) + 4) = 0) {XX : Int} {l5 : List Int} (hx4 : 4 ≤ l4.length) (hx : numL (l4.take 4) = XX) (h5 : l4.drop 4 = l5) {q : Nat} (hN : N = 2 * q) (hq : l5.length < N) :
    Calls Tryz.prog 156 #[.pointer (some ⟨g, 0, none⟩)] w (ReadNone w g M s o s) := by
  have HS := hid hs
  have oct := h.oct
  have hg := h.block_lt
  obtain ⟨W, hW, hbW, hbox⟩ := oxm_box w 0 0 false 0 none 0 0 none 0 0
  have HW := hid hW
  have hcW := h.below hbW
  have hcWX := hid hcW
  have HBW := hid (below_by_none hbW)
  have hne : w.heap.size ≠ g := by omega
  have hMW : M ≠ w.heap.size := by omega
  clear hW hbW
  have hM2 : M < W.heap.size := by have := hbox.lt; omega
  have hmf : ∀ (fn : Fn) (first cap : Array Value) (w : World), (Instr.makeFunc fn first cap).run Tryz.prog w = .ok (.func fn first cap) w := fun _ _ _ _ => rfl
  have L0 := num_byte ((oct.drop 2).drop 1)
  rw [hL] at L0
  obtain ⟨L1, L2⟩ := L0
  have HE := hid hE
  have H1 := readHead8_ok hcW hM2 hl hC hn hL
  rw [hF, hH, h4] at H1
  have H1 := hid H1
  have HL4 := hid hx4
  have HX := hid hx
  have H5 := hid h5
  clear hx4 hx h5
  have HQ := hid hq
  have HN := hid hN
  clear hq hN
  clear hs hl hcW oct hcWX hC hn hL h4 hF hH hE
  go_enter Tryz.func156, Tryz.ntmps156
  go_wp2_with fail
  rw [HW.out]
  refine H1.out.mono ?_
  rintro e w1 ⟨rfl, hc, hb⟩
  have hR1 := box_by hbox hb hne
  have HB1 := hid (by_new_row HBW.out hb)
  have hs1 := hb.size
  have hs2 : w.heap.size < w1.heap.size := Nat.lt_of_lt_of_le hbox.lt hs1
  have hg1 := hc.block_lt
  obtain ⟨W1, hW1, hbW1, hX1⟩ := oxm_box w1 65535 F true 0 none 0 0 none 0 0
  have HW1 := hid hW1
  have hXg : w1.heap.size ≠ g := by omega
  have hXR : w1.heap.size ≠ w.heap.size := by omega
  have gX : some w1.heap.size ≠ some g := by simpa using hXg
  have gR : some w.heap.size ≠ some g := by simpa using hne
  have mX : some w1.heap.size ≠ some M := by simp; omega
  have mR : some w.heap.size ≠ some M := by simp; omega
  have hle : w.heap.size ≤ w1.heap.size := by omega
  have hc1 := hc.below hbW1
  have hR2 := hR1.below hbW1
  have HB2 := hid (grownBy_then HB1.out (grownBy_more (below_by_none hbW1)) : w.grownBy W1 (some g))
  clear hb hbox hc hR1 HB1 hW1 hbW1 hs1 hM2 hg1
  go_wp2_with fail
  rw [HW1.out]
  refine (wrongHead_any 65535 F true 0 none 0 0 none 0 0 ((N : Int) + 4) _ (by omega) (by omega)).mono ?_
  rintro e w2 ⟨rfl, hb2⟩
  have hc2 := hc1.below hb2
  have hR3 := hR2.below hb2
  have hX2 := hX1.below hb2
  have HB3 := hid (grownBy_then HB2.out (grownBy_more (below_by_none hb2)) : w.grownBy w2 (some g))
  clear hc1 hR2 hX1 HB2 hb2 HW1
  obtain ⟨d0, d1, d2, d3, d4, d5⟩ := hX2.six
  have zX := hX2.free
  go_wp2_with fail
  rw [HE.out]
  refine (hc2.fail _).mono ?_
  rintro e w3 ⟨rfl, hc3, hb3⟩
  have hX3 := box_by hX2 hb3 hXg
  have hR4 := box_by hR3 hb3 hne
  have HB4 := hid (grownBy_then HB3.out hb3)
  clear hc2 hX2 hR3 HB3 hb3 d0 d1 d2 d3 d4 d5 zX
  obtain ⟨d0, d1, d2, d3, d4, d5⟩ := hX3.six
  have zX := hX3.free
  go_wp2_with fail
  refine (hc3.num_ok (n := 4) (by decide) (by decide) HL4.out).mono ?_
  rintro e w4 ⟨rfl, hc4, hb4⟩
  rw [HX.out]
  have hX4 := box_by hX3 hb4 hXg
  have hR5 := box_by hR4 hb4 hne
  have HB5 := hid (grownBy_then HB4.out hb4)
  clear hc3 hX3 hR4 HB4 hb4 d0 d1 d2 d3 d4 d5 zX
  obtain ⟨d0, d1, d2, d3, d4, d5⟩ := hX4.six
  have zX := hX4.free
  go_wp2_with fail
  rw [H5.out] at hc4
  have hc6 := hc4.kept (by_setCell w4 w1.heap.size 3 (.int .u64 XX)) gX mX
  have hX6 := hX4.set 3 (.int .u64 XX) (by simp)
  have hR6 := hR5.far (i := 3) (.int .u64 XX) hXR
  have HB6 := hid (by_set_new (i := 3) HB5.out hle (.int .u64 XX))
  clear hc4 hX4 hR5 HB5 d0 d1 d2 d3 d4 d5 zX
  refine (readBytes_two_short hc6 HS.out HN.out HQ.out (by omega)).mono ?_
  rintro e w7 ⟨a1, n1, c1, a2, n2, c2, l5, r5, rfl, hc7, hb7⟩
  have hX7 := box_by hX6 hb7 hXg
  have hR7 := box_by hR6 hb7 hne
  have HB7 := hid (grownBy_then HB6.out hb7)
  clear hX6 hR6 HB6 hb7 hc6
  obtain ⟨d0, d1, d2, d3, d4, d5⟩ := hX7.six
  obtain ⟨e0, e1, e2, e3, e4, e5⟩ := hR7.six
  have zX := hX7.free
  have zR := hR7.free
  go_wp2_with fail
  have hk := ((hR7.far (i := 4) (.slice a1 n1 c1) hXR).far (i := 5) (.slice a2 n2 c2) hXR).set6 (.int .i64 65535) (.int .i64 F) (.bool true) (.int .u64 XX) (.slice a1 n1 c1) (.slice a2 n2 c2)
  obtain ⟨k0, k1, k2, k3, k4, k5⟩ := hk.six
  refine bodyPost_ret (v := .agg #[.int .i64 65535, .int .i64 F, .bool true, .int .u64 XX, .slice a1 n1 c1, .slice a2 n2 c2]) (by simp [results, Tryz.results156, go_sem, k0, k1, k2, k3, k4, k5]) rfl ⟨65535, F, true, XX, a1, n1, c1, a2, n2, c2, l5, r5, rfl, ?_, ?_⟩
  · repeat (first | refine Cur.kept ?_ (by_setCell _ _ _ _) gR mR | refine Cur.kept ?_ (by_setCell _ _ _ _) gX mX)
    exact hc7
  · repeat (refine by_set_new ?_ (by omega) _)
    exact HB7.out

set_option maxRecDepth 100000 in
set_option maxHeartbeats 2000000 in
theorem read8_extra_few (h : Cur w g M l r s o 0) (hs : s ≠ 0) (hM : M < w.heap.size) (hl : 4 ≤ l.length) {n F : Int} {N : Nat} {l4 : List Int} (hC : numL (l.take 2) = 65535) (hn : numL ((l.drop 2).take 1) = n) (hL : numL (((l.drop 2).drop 1).take 1) = (N : Int) + 4) (h4 : ((l.drop 2).drop 1).drop 1 = l4) (hF : n / 2 = F) {H : Bool} (hH : oddB n = H) (hE : headE 65535 F H ((N : Int) + 4) = 0) (hx4 : l4.length < 4) :
    Calls Tryz.prog 156 #[.pointer (some ⟨g, 0, none⟩)] w (ReadNone w g M s o s) := by
  have HS := hid hs
  have oct := h.oct
  have hg := h.block_lt
  obtain ⟨W, hW, hbW, hbox⟩ := oxm_box w 0 0 false 0 none 0 0 none 0 0
  have HW := hid hW
  have hcW := h.below hbW
  have hcWX := hid hcW
  have HBW := hid (below_by_none hbW)
  have hne : w.heap.size ≠ g := by omega
  have hMW : M ≠ w.heap.size := by omega
  clear hW hbW
  have hM2 : M < W.heap.size := by have := hbox.lt; omega
  have hmf : ∀ (fn : Fn) (first cap : Array Value) (w : World), (Instr.makeFunc fn first cap).run Tryz.prog w = .ok (.func fn first cap) w := fun _ _ _ _ => rfl
  have L0 := num_byte ((oct.drop 2).drop 1)
  rw [hL] at L0
  obtain ⟨L1, L2⟩ := L0
  have HE := hid hE
  have H1 := readHead8_ok hcW hM2 hl hC hn hL
  rw [hF, hH, h4] at H1
  have H1 := hid H1
  have HQ := hid hx4
  clear hx4
  clear hs hl hcW oct hcWX hC hn hL h4 hF hH hE
  go_enter Tryz.func156, Tryz.ntmps156
  go_wp2_with fail
  rw [HW.out]
  refine H1.out.mono ?_
  rintro e w1 ⟨rfl, hc, hb⟩
  have hR1 := box_by hbox hb hne
  have HB1 := hid (by_new_row HBW.out hb)
  have hs1 := hb.size
  have hs2 : w.heap.size < w1.heap.size := Nat.lt_of_lt_of_le hbox.lt hs1
  have hg1 := hc.block_lt
  obtain ⟨W1, hW1, hbW1, hX1⟩ := oxm_box w1 65535 F H 0 none 0 0 none 0 0
  have HW1 := hid hW1
  have hXg : w1.heap.size ≠ g := by omega
  have hXR : w1.heap.size ≠ w.heap.size := by omega
  have gX : some w1.heap.size ≠ some g := by simpa using hXg
  have gR : some w.heap.size ≠ some g := by simpa using hne
  have mX : some w1.heap.size ≠ some M := by simp; omega
  have mR : some w.heap.size ≠ some M := by simp; omega
  have hle : w.heap.size ≤ w1.heap.size := by omega
  have hc1 := hc.below hbW1
  have hR2 := hR1.below hbW1
  have HB2 := hid (grownBy_then HB1.out (grownBy_more (below_by_none hbW1)) : w.grownBy W1 (some g))
  clear hb hbox hc hR1 HB1 hW1 hbW1 hs1 hM2 hg1
  go_wp2_with fail
  rw [HW1.out]
  refine (wrongHead_any 65535 F H 0 none 0 0 none 0 0 ((N : Int) + 4) _ (by omega) (by omega)).mono ?_
  rintro e w2 ⟨rfl, hb2⟩
  have hc2 := hc1.below hb2
  have hR3 := hR2.below hb2
  have hX2 := hX1.below hb2
  have HB3 := hid (grownBy_then HB2.out (grownBy_more (below_by_none hb2)) : w.grownBy w2 (some g))
  clear hc1 hR2 hX1 HB2 hb2 HW1
  obtain ⟨d0, d1, d2, d3, d4, d5⟩ := hX2.six
  have zX := hX2.free
  go_wp2_with fail
  rw [HE.out]
  refine (hc2.fail _).mono ?_
  rintro e w3 ⟨rfl, hc3, hb3⟩
  have hX3 := box_by hX2 hb3 hXg
  have hR4 := box_by hR3 hb3 hne
  have HB4 := hid (grownBy_then HB3.out hb3)
  clear hc2 hX2 hR3 HB3 hb3 d0 d1 d2 d3 d4 d5 zX
  obtain ⟨d0, d1, d2, d3, d4, d5⟩ := hX3.six
  have zX := hX3.free
  go_wp2_with fail
  refine (hc3.num_short (n := 4) (by decide) (by decide) HQ.out).mono ?_
  rintro e w4 ⟨rfl, hc4, hb4⟩
  have hX4 := box_by hX3 hb4 hXg
  have hR5 := box_by hR4 hb4 hne
  have HB5 := hid (grownBy_then HB4.out hb4)
  clear hc3 hX3 hR4 HB4 hb4 d0 d1 d2 d3 d4 d5 zX
  obtain ⟨d0, d1, d2, d3, d4, d5⟩ := hX4.six
  have zX := hX4.free
  go_wp2_with fail
  have hc6 := hc4.kept (by_setCell w4 w1.heap.size 3 (.int .u64 0)) gX mX
  have hX6 := hX4.set 3 (.int .u64 0) (by simp)
  have hR6 := hR5.far (i := 3) (.int .u64 0) hXR
  have HB6 := hid (by_set_new (i := 3) HB5.out hle (.int .u64 0))
  clear hc4 hX4 hR5 HB5 d0 d1 d2 d3 d4 d5 zX
  refine (readBytes_late hc6 HS.out H _ (by omega) (by omega)).mono ?_
  rintro e w7 ⟨a1, n1, c1, a2, n2, c2, l5, r5, rfl, hc7, hb7⟩
  have hX7 := box_by hX6 hb7 hXg
  have hR7 := box_by hR6 hb7 hne
  have HB7 := hid (grownBy_then HB6.out hb7)
  clear hX6 hR6 HB6 hb7 hc6
  obtain ⟨d0, d1, d2, d3, d4, d5⟩ := hX7.six
  obtain ⟨e0, e1, e2, e3, e4, e5⟩ := hR7.six
  have zX := hX7.free
  have zR := hR7.free
  go_wp2_with fail
  have hk := ((hR7.far (i := 4) (.slice a1 n1 c1) hXR).far (i := 5) (.slice a2 n2 c2) hXR).set6 (.int .i64 65535) (.int .i64 F) (.bool H) (.int .u64 0) (.slice a1 n1 c1) (.slice a2 n2 c2)
  obtain ⟨k0, k1, k2, k3, k4, k5⟩ := hk.six
  refine bodyPost_ret (v := .agg #[.int .i64 65535, .int .i64 F, .bool H, .int .u64 0, .slice a1 n1 c1, .slice a2 n2 c2]) (by simp [results, Tryz.results156, go_sem, k0, k1, k2, k3, k4, k5]) rfl ⟨65535, F, H, 0, a1, n1, c1, a2, n2, c2, l5, r5, rfl, ?_, ?_⟩
  · repeat (first | refine Cur.kept ?_ (by_setCell _ _ _ _) gR mR | refine Cur.kept ?_ (by_setCell _ _ _ _) gX mX)
    exact hc7
  · repeat (refine by_set_new ?_ (by omega) _)
    exact HB7.out
end
end Go.Proofs.YtdjlbejhphbcoaaGreat
namespace Go.Proofs.YtdjlbejhphbcoaaGreat
open Go.RowKit
set_option linter.unusedVariables false

/-- what is wrong first with Value and Mask -/
def bytesE (C F : Int) (H : Bool) (v m : List Int) : Int :=
  if C = 32768 then (if fitsB F v = false then 1032 else if (H && !fitsB F m) = true then 1033 else if H = true then maskE v m (fld F).b else 0)
  else if C = 65535 then (if H = true then maskE v m (8 * m.length) else 0) else 0

theorem fits_len (n : Int) (v m : List Int) (hv : fitsB n v = true) (hm : fitsB n m = true) : v.length = m.length := by
  unfold fitsB at hv hm
  simp only [Bool.and_eq_true, decide_eq_true_eq] at hv hm
  rw [hv.1.2, hm.1.2]

set_option maxRecDepth 100000 in
set_option maxHeartbeats 1000000 in
theorem wrongBytes_basic (F : Int) (H : Bool) (X : Int) (va : Option Addr) (vc : Nat) (ma : Option Addr) (mc : Nat) (v m : List Int) (hm : m.length ≤ 1000) (hmc : m.length ≤ mc) (ov : Octets v) (om : Octets m) (w : World) (iv : Ints .u8 w va v) (im : Ints .u8 w ma m) :
    Calls Tryz.prog 119 #[.agg #[.int .i64 32768, .int .i64 F, .bool H, .int .u64 X, .slice va v.length vc, .slice ma m.length mc]] w fun e w' => e = .returned (.int .i64 (bytesE 32768 F H v m)) ∧ Below w.heap.size w w' := by
  obtain ⟨W, hW, hbW, hbox⟩ := oxm_box w 32768 F H X va v.length vc ma m.length mc
  have HW := hid hW
  have HB := hid hbW
  have HO := hid (fun W => fldOf_any F W)
  obtain ⟨d0, d1, d2, d3, d4, d5⟩ := hbox.six
  have IV := hid (iv.below hbW)
  have IM := hid (im.below hbW)
  have FV := hid (fun W' (h : Ints .u8 W' va v) => fldFits_any F v va vc W' h)
  have FM := hid (fun W' (h : Ints .u8 W' ma m) => fldFits_any F m ma mc W' h)
  clear hW hbW iv im
  have OV := hid ov
  have OM := hid om
  have hvm2 := fits_len F v m
  have HE : bytesE 32768 F H v m = if fitsB F v = false then 1032 else if (H && !fitsB F m) = true then 1033 else if H = true then maskE v m (fld F).b else 0 := by simp [bytesE]
  rw [HE]
  clear HE ov om
  obtain ⟨f, hf⟩ : ∃ f, fld F = f := ⟨_, rfl⟩
  rw [hf] at HO ⊢
  obtain ⟨t, ht⟩ : ∃ t, decide (0 ≤ F ∧ F < 40) = t := ⟨_, rfl⟩
  rw [ht] at HO
  clear ht hf
  unfold fldV at HO
  cases hv : fitsB F v
  · rw [hv] at FV
    clear hv hvm2
    simp only [if_true]
    go_enter Tryz.func119, Tryz.ntmps119
    go_wp2_with fail
    rw [HW.out]
    go_wp2_with fail
    refine (HO.out _).mono ?_
    rintro e w1 ⟨v', rfl, ⟨a', c', rfl, hI⟩, hb⟩
    clear hI
    have hlt := (hbox.below hb).lt
    have n2 : ¬ w.heap.size = w1.heap.size := by omega
    clear d0 d1 d2 d3 d4 d5
    obtain ⟨d0, d1, d2, d3, d4, d5⟩ := (hbox.below hb).six
    obtain ⟨W1, hW1, hbW1, hbox1⟩ := fld_box w1 f.b f.z f.m f.d (.slice a' f.v.length c')
    have HW1 := hid hW1
    have hA := below_on hb hbW1
    clear hW1 hbox1 hbW1 hb
    go_wp2_with fail
    rw [HW1.out]
    refine (FV.out _ (IV.out.below hA)).mono ?_
    rintro e w2 ⟨rfl, hb2⟩
    replace hA := below_on hA hb2
    clear d0 d1 d2 d3 d4 d5 hb2 HW1 n2 hlt
    obtain ⟨d0, d1, d2, d3, d4, d5⟩ := (hbox.below hA).six
    have HA := hid hA
    clear hA
    go_wp2_with fail
    go_ret
    exact ⟨rfl, below_on HB.out HA.out⟩
  · rw [hv] at FV
    cases H
    · clear hv hvm2
      simp only [Bool.false_and, Bool.false_eq_true, Bool.true_eq_false, if_false]
      go_enter Tryz.func119, Tryz.ntmps119
      go_wp2_with fail
      rw [HW.out]
      go_wp2_with fail
      refine (HO.out _).mono ?_
      rintro e w1 ⟨v', rfl, ⟨a', c', rfl, hI⟩, hb⟩
      clear hI
      have hlt := (hbox.below hb).lt
      have n2 : ¬ w.heap.size = w1.heap.size := by omega
      clear d0 d1 d2 d3 d4 d5
      obtain ⟨d0, d1, d2, d3, d4, d5⟩ := (hbox.below hb).six
      obtain ⟨W1, hW1, hbW1, hbox1⟩ := fld_box w1 f.b f.z f.m f.d (.slice a' f.v.length c')
      have HW1 := hid hW1
      have hA := below_on hb hbW1
      clear hW1 hbox1 hbW1 hb
      go_wp2_with fail
      rw [HW1.out]
      refine (FV.out _ (IV.out.below hA)).mono ?_
      rintro e w2 ⟨rfl, hb2⟩
      replace hA := below_on hA hb2
      clear d0 d1 d2 d3 d4 d5 hb2 HW1 n2 hlt
      obtain ⟨d0, d1, d2, d3, d4, d5⟩ := (hbox.below hA).six
      have HA := hid hA
      clear hA
      go_wp2_with fail
      go_ret
      exact ⟨rfl, below_on HB.out HA.out⟩
    · cases hfm : fitsB F m
      · rw [hfm] at FM
        clear hv hvm2 hfm
        simp only [Bool.not_false, Bool.and_true, Bool.true_eq_false, if_true, if_false]
        go_enter Tryz.func119, Tryz.ntmps119
        go_wp2_with fail
        rw [HW.out]
        go_wp2_with fail
        refine (HO.out _).mono ?_
        rintro e w1 ⟨v', rfl, ⟨a', c', rfl, hI⟩, hb⟩
        clear hI
        have hlt := (hbox.below hb).lt
        have n2 : ¬ w.heap.size = w1.heap.size := by omega
        clear d0 d1 d2 d3 d4 d5
        obtain ⟨d0, d1, d2, d3, d4, d5⟩ := (hbox.below hb).six
        obtain ⟨W1, hW1, hbW1, hbox1⟩ := fld_box w1 f.b f.z f.m f.d (.slice a' f.v.length c')
        have HW1 := hid hW1
        have hA := below_on hb hbW1
        clear hW1 hbox1 hbW1 hb
        go_wp2_with fail
        rw [HW1.out]
        refine (FV.out _ (IV.out.below hA)).mono ?_
        rintro e w2 ⟨rfl, hb2⟩
        replace hA := below_on hA hb2
        clear d0 d1 d2 d3 d4 d5 hb2 HW1 n2 hlt
        obtain ⟨d0, d1, d2, d3, d4, d5⟩ := (hbox.below hA).six
        have HA := hid hA
        clear hA
        go_wp2_with fail
        refine (FM.out _ (IM.out.below HA.out)).mono ?_
        rintro e w3 ⟨rfl, hb3⟩
        replace HA := hid (below_on HA.out hb3)
        clear d0 d1 d2 d3 d4 d5 hb3
        obtain ⟨d0, d1, d2, d3, d4, d5⟩ := (hbox.below HA.out).six
        go_wp2_with fail
        go_ret
        exact ⟨rfl, below_on HB.out HA.out⟩
      · rw [hfm] at FM
        have hvm : v.length ≤ m.length := Nat.le_of_eq (hvm2 hv hfm)
        clear hv hvm2 hfm
        simp only [Bool.not_true, Bool.and_false, Bool.true_eq_false, Bool.false_eq_true, if_true, if_false]
        go_enter Tryz.func119, Tryz.ntmps119
        go_wp2_with fail
        rw [HW.out]
        go_wp2_with fail
        refine (HO.out _).mono ?_
        rintro e w1 ⟨v', rfl, ⟨a', c', rfl, hI⟩, hb⟩
        clear hI
        have hlt := (hbox.below hb).lt
        have n2 : ¬ w.heap.size = w1.heap.size := by omega
        clear d0 d1 d2 d3 d4 d5
        obtain ⟨d0, d1, d2, d3, d4, d5⟩ := (hbox.below hb).six
        obtain ⟨W1, hW1, hbW1, hbox1⟩ := fld_box w1 f.b f.z f.m f.d (.slice a' f.v.length c')
        have HW1 := hid hW1
        have hA := below_on hb hbW1
        clear hW1 hbox1 hbW1 hb
        go_wp2_with fail
        rw [HW1.out]
        refine (FV.out _ (IV.out.below hA)).mono ?_
        rintro e w2 ⟨rfl, hb2⟩
        replace hA := below_on hA hb2
        clear d0 d1 d2 d3 d4 d5 hb2 HW1 n2 hlt
        obtain ⟨d0, d1, d2, d3, d4, d5⟩ := (hbox.below hA).six
        have HA := hid hA
        clear hA
        go_wp2_with fail
        refine (FM.out _ (IM.out.below HA.out)).mono ?_
        rintro e w3 ⟨rfl, hb3⟩
        replace HA := hid (below_on HA.out hb3)
        clear d0 d1 d2 d3 d4 d5 hb3
        obtain ⟨d0, d1, d2, d3, d4, d5⟩ := (hbox.below HA.out).six
        go_wp2_with fail
        refine (wrongMask_any 32768 F true X va v.length vc ma m.length mc v m f.b rfl rfl hvm hm hmc OV.out OM.out _ (IV.out.below HA.out) (IM.out.below HA.out)).mono ?_
        rintro e w4 ⟨rfl, hb4⟩
        go_wp2_with fail
        go_ret
        exact ⟨rfl, below_on HB.out (below_on HA.out hb4)⟩

set_option maxRecDepth 100000 in
set_option maxHeartbeats 1000000 in
theorem wrongBytes_extra (F : Int) (H : Bool) (X : Int) (va : Option Addr) (vc : Nat) (ma : Option Addr) (mc : Nat) (v m : List Int) (hvm : H = true → v.length ≤ m.length) (hm : m.length ≤ 1000) (hmc : m.length ≤ mc) (ov : Octets v) (om : Octets m) (w : World) (iv : Ints .u8 w va v) (im : Ints .u8 w ma m) :
    Calls Tryz.prog 119 #[.agg #[.int .i64 65535, .int .i64 F, .bool H, .int .u64 X, .slice va v.length vc, .slice ma m.length mc]] w fun e w' => e = .returned (.int .i64 (bytesE 65535 F H v m)) ∧ Below w.heap.size w w' := by
  obtain ⟨W, hW, hbW, hbox⟩ := oxm_box w 65535 F H X va v.length vc ma m.length mc
  have HW := hid hW
  have HB := hid hbW
  obtain ⟨d0, d1, d2, d3, d4, d5⟩ := hbox.six
  have IV := hid (iv.below hbW)
  have IM := hid (im.below hbW)
  clear hW hbW iv im
  have OV := hid ov
  have OM := hid om
  clear ov om
  cases H
  · have HE : bytesE 65535 F false v m = 0 := by simp [bytesE]
    rw [HE]
    clear HE hvm
    go_enter Tryz.func119, Tryz.ntmps119
    go_wp2_with fail
    rw [HW.out]
    go_wp2_with fail
    go_ret
    exact ⟨rfl, HB.out⟩
  · have HE : bytesE 65535 F true v m = maskE v m (8 * m.length) := by simp [bytesE]
    rw [HE]
    replace hvm := hvm rfl
    clear HE
    go_enter Tryz.func119, Tryz.ntmps119
    go_wp2_with fail
    rw [HW.out]
    go_wp2_with fail
    refine (wrongMask_any 65535 F true X va v.length vc ma m.length mc v m _ rfl rfl hvm hm hmc OV.out OM.out _ IV.out IM.out).mono ?_
    rintro e w4 ⟨rfl, hb4⟩
    go_wp2_with fail
    go_ret
    exact ⟨rfl, below_on HB.out hb4⟩

set_option maxRecDepth 100000 in
theorem wrongBytes_none (C F : Int) (hb : (C == 32768) = false) (hx : (C == 65535) = false) (H : Bool) (X : Int) (va : Option Addr) (vc : Nat) (ma : Option Addr) (mc : Nat) (v m : List Int) (hm : m.length ≤ 1000) (w : World) :
    Calls Tryz.prog 119 #[.agg #[.int .i64 C, .int .i64 F, .bool H, .int .u64 X, .slice va v.length vc, .slice ma m.length mc]] w fun e w' => e = .returned (.int .i64 (bytesE C F H v m)) ∧ Below w.heap.size w w' := by
  have e : bytesE C F H v m = 0 := by
    have h1 : C ≠ 32768 := by simpa using hb
    have h2 : C ≠ 65535 := by simpa using hx
    simp [bytesE, h1, h2]
  rw [e]
  clear e
  go_enter Tryz.func119, Tryz.ntmps119
  go_wp2
  go_ret
  exact ⟨rfl, below_alloc _ _⟩

theorem wrongBytes_any (C F : Int) (H : Bool) (X : Int) (va : Option Addr) (vc : Nat) (ma : Option Addr) (mc : Nat) (v m : List Int) (hvm : C = 65535 → H = true → v.length ≤ m.length) (hm : m.length ≤ 1000) (hmc : m.length ≤ mc) (ov : Octets v) (om : Octets m) (w : World) (iv : Ints .u8 w va v) (im : Ints .u8 w ma m) :
    Calls Tryz.prog 119 #[.agg #[.int .i64 C, .int .i64 F, .bool H, .int .u64 X, .slice va v.length vc, .slice ma m.length mc]] w fun e w' => e = .returned (.int .i64 (bytesE C F H v m)) ∧ Below w.heap.size w w' := by
  by_cases hb : C = 32768
  · subst hb
    exact wrongBytes_basic F H X va vc ma mc v m hm hmc ov om w iv im
  · by_cases hx : C = 65535
    · subst hx
      exact wrongBytes_extra F H X va vc ma mc v m (hvm rfl) hm hmc ov om w iv im
    · exact wrongBytes_none C F (by simpa using hb) (by simpa using hx) H X va vc ma mc v m hm w
end Go.Proofs.YtdjlbejhphbcoaaGreat
namespace Go.Proofs.YtdjlbejhphbcoaaGreat
open Go.RowKit
set_option linter.unusedVariables false

/-- a field with its value, and how many bytes it has -/
structure Oxm8 where
  C : Int
  F : Int
  H : Bool
  X : Int
  v : List Int
  m : List Int
  n : Nat
def cls8 (b : List Int) : Int := numL (b.take 2)
def fld8 (b : List Int) : Int := numL ((b.drop 2).take 1)
def len8 (b : List Int) : Int := numL (((b.drop 2).drop 1).take 1)
def rest8 (b : List Int) : List Int := ((b.drop 2).drop 1).drop 1
/-- the bytes behind what tells whose it is -/
def body8 (b : List Int) : List Int := if cls8 b = 65535 then (rest8 b).drop 4 else rest8 b
def exp8 (b : List Int) : Int := if cls8 b = 65535 then numL ((rest8 b).take 4) else 0
/-- how many bytes Value and Mask have -/
def both8 (b : List Int) : Nat := if cls8 b = 65535 then (len8 b).toNat - 4 else (len8 b).toNat
def val8 (b : List Int) : List Int := (body8 b).take (both8 b / pieces8 (oddB (fld8 b)))
def mask8 (b : List Int) : List Int := if oddB (fld8 b) then ((body8 b).drop (both8 b / 2)).take (both8 b / 2) else []
/-- a value as it stands, its bytes not looked at; or the error -/
def rawL (b : List Int) : Except Int Oxm8 :=
  if b.length < 4 then .error 1026
  else if headE (cls8 b) (fld8 b / 2) (oddB (fld8 b)) (len8 b) ≠ 0 then .error (headE (cls8 b) (fld8 b / 2) (oddB (fld8 b)) (len8 b))
  else if (rest8 b).length < (len8 b).toNat then .error 1026
  else .ok ⟨cls8 b, fld8 b / 2, oddB (fld8 b), exp8 b, val8 b, mask8 b, 4 + (len8 b).toNat⟩
/-- a value; or the error -/
def decL (b : List Int) : Except Int Oxm8 :=
  match rawL b with
  | .error q => .error q
  | .ok o => if bytesE o.C o.F o.H o.v o.m = 0 then .ok o else .error (bytesE o.C o.F o.H o.v o.m)

/-- what reading comes to -/
def ReadPost (R : Except Int Oxm8) (w : World) (g M : Nat) (e : Ending) (w' : World) : Prop :=
  (∃ q, R = .error q ∧ q ≠ 0 ∧ ReadNone w g M 1026 1026 q e w') ∨ (∃ o, R = .ok o ∧ ReadGood w g M o.C o.F o.H o.X o.v o.m o.n 1026 1026 e w')

theorem head_basic {F n : Int} {H : Bool} (h : headE 32768 F H n = 0) : (0 ≤ F ∧ F < 40) ∧ n = ((fld F).z : Int) * pieces8 H ∧ (H = true → (fld F).m = true) := by
  unfold headE at h
  simp only [if_true] at h
  by_cases hF : 0 ≤ F ∧ F < 40
  · by_cases hM : (H && !(fld F).m) = true
    · simp [hF, hM] at h
    · by_cases hn : n = ((fld F).z : Int) * pieces8 H
      · exact ⟨hF, hn, fun hh => by subst hh; simpa using hM⟩
      · simp [hF, hM, hn] at h
  · simp [hF] at h
theorem head_extra {F n : Int} {H : Bool} (h : headE 65535 F H n = 0) : 0 ≤ n - 4 ∧ (n - 4) % (pieces8 H : Int) = 0 ∧ n - 4 ≤ 100 * (pieces8 H : Int) := by
  unfold headE at h
  have e : ¬ (65535 : Int) = 32768 := by decide
  simp only [if_neg e, if_true] at h
  by_cases hh : n - 4 < 0 ∨ (n - 4) % (pieces8 H : Int) ≠ 0 ∨ 100 * (pieces8 H : Int) < n - 4
  · rw [if_pos hh] at h; simp at h
  · refine ⟨by omega, ?_, by omega⟩
    by_cases h2 : (n - 4) % (pieces8 H : Int) = 0
    · exact h2
    · exact absurd (.inr (.inl h2)) hh
theorem head_cls {C F n : Int} {H : Bool} (h : headE C F H n = 0) : C = 32768 ∨ C = 65535 := by
  by_cases h1 : C = 32768
  · exact .inl h1
  · by_cases h2 : C = 65535
    · exact .inr h2
    · simp [headE, h1, h2] at h

theorem read8_any {w : World} {g M : Nat} {l : List Int} (h : Cur w g M l 0 1026 1026 0) (hM : M < w.heap.size) :
    Calls Tryz.prog 156 #[.pointer (some ⟨g, 0, none⟩)] w (ReadPost (rawL l) w g M) := by
  have oct := h.oct
  by_cases hl : l.length < 4
  · refine (read8_few h (by decide) hM hl).mono fun e w' hr => .inl ⟨1026, ?_, by decide, hr⟩
    simp [rawL, hl]
  have hl4 : 4 ≤ l.length := by omega
  have L0 := num_byte ((oct.drop 2).drop 1)
  obtain ⟨L, hL⟩ : ∃ L, len8 l = L := ⟨_, rfl⟩
  have hL' : numL (((l.drop 2).drop 1).take 1) = L := hL
  rw [hL'] at L0
  by_cases hE : headE (cls8 l) (fld8 l / 2) (oddB (fld8 l)) L ≠ 0
  · refine (read8_wrong h (by decide) hM hl4 rfl rfl hL' rfl rfl hE).mono fun e w' hr => .inl ⟨_, ?_, hE, hr⟩
    simp only [rawL, if_neg hl, hL, if_pos hE]
  obtain ⟨H, hH⟩ : ∃ H, oddB (fld8 l) = H := ⟨_, rfl⟩
  have hE2 : ¬ headE (cls8 l) (fld8 l / 2) (oddB (fld8 l)) L ≠ 0 := hE
  have hr8 : ((l.drop 2).drop 1).drop 1 = rest8 l := rfl
  replace hE : headE (cls8 l) (fld8 l / 2) (oddB (fld8 l)) L = 0 := by simpa using hE
  rw [hH] at hE
  have few : ∀ {e w'}, (rest8 l).length < L.toNat → ReadNone w g M 1026 1026 1026 e w' → ReadPost (rawL l) w g M e w' := by
    intro e w' hf hr
    refine .inl ⟨1026, ?_, by decide, hr⟩
    simp only [rawL, if_neg hl, hL, if_neg hE2, if_pos hf]
  have good : ∀ {e w'} (hf : ¬ (rest8 l).length < L.toNat), ReadGood w g M (cls8 l) (fld8 l / 2) (oddB (fld8 l)) (exp8 l) (val8 l) (mask8 l) ((4 + L.toNat : Nat) : Int) 1026 1026 e w' → ReadPost (rawL l) w g M e w' := by
    intro e w' hf hr
    refine .inr ⟨⟨cls8 l, fld8 l / 2, oddB (fld8 l), exp8 l, val8 l, mask8 l, 4 + L.toNat⟩, ?_, hr⟩
    simp only [rawL, if_neg hl, hL, if_neg hE2, if_neg hf]
  rcases head_cls hE with hC | hC
  · rw [hC] at hE
    have hh := head_basic hE
    obtain ⟨N, hN⟩ : ∃ N : Nat, L = N := ⟨L.toNat, by omega⟩
    subst hN
    rw [Int.toNat_natCast] at few good
    have eb : body8 l = rest8 l := by simp [body8, hC]
    have ex : exp8 l = 0 := by simp [exp8, hC]
    have en : both8 l = N := by simp [both8, hC, hL]
    cases H
    · have ev : val8 l = (rest8 l).take N := by simp [val8, eb, en, hH, pieces8]
      have em : mask8 l = [] := by simp [mask8, hH]
      rw [hC, ex, ev, em, hH] at good
      by_cases hf : (rest8 l).length < N
      · exact (read8_basic_one_short h (by decide) hM hl4 hC rfl hL' hr8 rfl hH hE hf).mono fun e w' hr => few hf hr
      · refine (read8_basic_one h (by decide) hM hl4 hC rfl hL' hr8 rfl hH hE rfl rfl (by omega)).mono fun e w' hr => good hf ?_
        rw [show ((4 + N : Nat) : Int) = 0 + ((2 : Nat) : Int) + ((1 : Nat) : Int) + ((1 : Nat) : Int) + (N : Int) by omega]
        exact hr
    · obtain ⟨q, hq⟩ : ∃ q, N = 2 * q := ⟨(fld (fld8 l / 2)).z, by have := hh.2.1; simp [pieces8] at this; omega⟩
      have hq2 : N / 2 = q := by omega
      have ev : val8 l = (rest8 l).take q := by simp [val8, eb, en, hH, pieces8, hq2]
      have em : mask8 l = ((rest8 l).drop q).take q := by simp [mask8, eb, en, hH, hq2]
      rw [hC, ex, ev, em, hH] at good
      by_cases hf : (rest8 l).length < N
      · exact (read8_basic_two_short h (by decide) hM hl4 hC rfl hL' hr8 rfl hH hE hq hf).mono fun e w' hr => few hf hr
      · refine (read8_basic_two h (by decide) hM hl4 hC rfl hL' hr8 rfl hH hE hq rfl rfl rfl (by omega)).mono fun e w' hr => good hf ?_
        rw [show ((4 + N : Nat) : Int) = 0 + ((2 : Nat) : Int) + ((1 : Nat) : Int) + ((1 : Nat) : Int) + (N : Int) by omega]
        exact hr
  · rw [hC] at hE
    have hh := head_extra hE
    obtain ⟨N, hN⟩ : ∃ N : Nat, L = N + 4 := ⟨(L - 4).toNat, by omega⟩
    subst hN
    have e4 : ((N : Int) + 4).toNat = N + 4 := by omega
    rw [e4] at few good
    have eb : body8 l = (rest8 l).drop 4 := by simp [body8, hC]
    have ex : exp8 l = numL ((rest8 l).take 4) := by simp [exp8, hC]
    have en : both8 l = N := by simp only [both8, hC, hL, if_true]; omega
    by_cases h4 : (rest8 l).length < 4
    · exact (read8_extra_few h (by decide) hM hl4 hC rfl hL' hr8 rfl hH hE h4).mono fun e w' hr => few (by omega) hr
    have h4' : 4 ≤ (rest8 l).length := by omega
    have e5 : ((rest8 l).drop 4).length + 4 = (rest8 l).length := by rw [List.length_drop]; omega
    cases H
    · have ev : val8 l = ((rest8 l).drop 4).take N := by simp [val8, eb, en, hH, pieces8]
      have em : mask8 l = [] := by simp [mask8, hH]
      rw [hC, ex, ev, em, hH] at good
      by_cases hf : (rest8 l).length < N + 4
      · exact (read8_extra_one_short h (by decide) hM hl4 hC rfl hL' hr8 rfl hH hE h4' rfl rfl (by omega)).mono fun e w' hr => few hf hr
      · refine (read8_extra_one h (by decide) hM hl4 hC rfl hL' hr8 rfl hH hE h4' rfl rfl rfl rfl (by omega)).mono fun e w' hr => good hf ?_
        rw [show ((4 + (N + 4) : Nat) : Int) = 0 + ((2 : Nat) : Int) + ((1 : Nat) : Int) + ((1 : Nat) : Int) + ((4 : Nat) : Int) + (N : Int) by omega]
        exact hr
    · obtain ⟨q, hq⟩ : ∃ q, N = 2 * q := ⟨N / 2, by have := hh.2.1; simp [pieces8] at this; omega⟩
      have hq2 : N / 2 = q := by omega
      have ev : val8 l = ((rest8 l).drop 4).take q := by simp [val8, eb, en, hH, pieces8, hq2]
      have em : mask8 l = (((rest8 l).drop 4).drop q).take q := by simp [mask8, eb, en, hH, hq2]
      rw [hC, ex, ev, em, hH] at good
      by_cases hf : (rest8 l).length < N + 4
      · exact (read8_extra_two_short h (by decide) hM hl4 hC rfl hL' hr8 rfl hH hE h4' rfl rfl hq (by omega)).mono fun e w' hr => few hf hr
      · refine (read8_extra_two h (by decide) hM hl4 hC rfl hL' hr8 rfl hH hE h4' rfl rfl hq rfl rfl rfl (by omega)).mono fun e w' hr => good hf ?_
        rw [show ((4 + (N + 4) : Nat) : Int) = 0 + ((2 : Nat) : Int) + ((1 : Nat) : Int) + ((1 : Nat) : Int) + ((4 : Nat) : Int) + (N : Int) by omega]
        exact hr
end Go.Proofs.YtdjlbejhphbcoaaGreat
namespace Go.Proofs.YtdjlbejhphbcoaaGreat
open Go.RowKit
set_option linter.unusedVariables false

theorem refFld_box (w : World) (f : Fld) (v : Value) : ∃ W, w.alloc (.cells #[.string f.nm, .int .i64 f.b, .int .i64 f.z, .bool f.m, .int .i64 f.d, v] 151) = W ∧ Below w.heap.size w W ∧ BoxL W w.heap.size [.string f.nm, .int .i64 f.b, .int .i64 f.z, .bool f.m, .int .i64 f.d, v] :=
  ⟨_, rfl, below_alloc _ _, BoxL.new _ _ _⟩
theorem refFld_boxN (w : World) (f : Fld) (n : Nat) (_h : f.b = n) (v : Value) : ∃ W, w.alloc (.cells #[.string f.nm, .int .i64 (n : Int), .int .i64 f.z, .bool f.m, .int .i64 f.d, v] 151) = W ∧ Below w.heap.size w W ∧ BoxL W w.heap.size [.string f.nm, .int .i64 (n : Int), .int .i64 f.z, .bool f.m, .int .i64 f.d, v] :=
  ⟨_, rfl, below_alloc _ _, BoxL.new _ _ _⟩
/-- the ways in which a mask goes wrong, or right -/
def MaskWays (v m : List Int) (n : Nat) (r : Int) : Prop :=
  (zeros m = true ∧ r = 1033) ∨ (zeros m = false ∧ onesB m n = true ∧ r = 1033) ∨ (zeros m = false ∧ onesB m n = false ∧ insideB v m = false ∧ r = 1030) ∨ (zeros m = false ∧ onesB m n = false ∧ insideB v m = true ∧ r = 0)
theorem mask_ways (v m : List Int) (n : Nat) (om : Octets m) (hf : onesB m n = decide (pops m = n)) : MaskWays v m n (maskE v m n) := by
  unfold MaskWays
  rw [zeros_pops om, hf]
  unfold maskE
  by_cases h0 : pops m = 0
  · exact .inl ⟨by simp [h0], by simp [h0]⟩
  · by_cases h1 : pops m = n
    · exact .inr (.inl ⟨by simp [h0], by simp [h1], by rw [if_pos (.inr (by rw [h1]))]⟩)
    · cases hi : insideB v m
      · exact .inr (.inr (.inl ⟨by simp [h0], by simp [h1], rfl, by rw [if_neg (by omega)]; rfl⟩))
      · exact .inr (.inr (.inr ⟨by simp [h0], by simp [h1], rfl, by rw [if_neg (by omega)]; rfl⟩))

set_option maxRecDepth 100000 in
set_option maxHeartbeats 2000000 in
theorem refWrong_basic (F : Int) (H : Bool) (X : Int) (va : Option Addr) (vc : Nat) (ma : Option Addr) (mc : Nat) (v m : List Int) (hm : m.length ≤ 1000) (ov : Octets v) (om : Octets m) (w : World) (iv : Ints .u8 w va v) (im : Ints .u8 w ma m) :
    Calls Tryz.prog 121 #[.agg #[.int .i64 32768, .int .i64 F, .bool H, .int .u64 X, .slice va v.length vc, .slice ma m.length mc]] w fun e w' => e = .returned (.int .i64 (bytesE 32768 F H v m)) ∧ Below w.heap.size w w' := by
  obtain ⟨W, hW, hbW, hbox⟩ := oxm_box w 32768 F H X va v.length vc ma m.length mc
  have HW := hid hW
  have HB := hid hbW
  have HO := hid (fun W => refOf_any F W)
  obtain ⟨d0, d1, d2, d3, d4, d5⟩ := hbox.six
  have IV := hid (iv.below hbW)
  have IM := hid (im.below hbW)
  have FV := hid (fun W' (h : Ints .u8 W' va v) => fldRefFits_any F v va vc ov W' h)
  have FM := hid (fun W' (h : Ints .u8 W' ma m) => fldRefFits_any F m ma mc om W' h)
  clear hW hbW iv im
  have OV := hid ov
  have OM := hid om
  have hvm2 := fits_len F v m
  have hab := fun h => fits_above (n := F) (m := m) h om
  have HE : bytesE 32768 F H v m = if fitsB F v = false then 1032 else if (H && !fitsB F m) = true then 1033 else if H = true then maskE v m (fld F).b else 0 := by simp [bytesE]
  rw [HE]
  clear HE ov om
  obtain ⟨f, hf⟩ : ∃ f, fld F = f := ⟨_, rfl⟩
  rw [hf] at HO hab ⊢
  obtain ⟨t, ht⟩ : ∃ t, decide (0 ≤ F ∧ F < 40) = t := ⟨_, rfl⟩
  rw [ht] at HO
  clear ht hf
  unfold refFldV at HO
  cases hv : fitsB F v
  · rw [hv] at FV
    clear hv hvm2 hab
    simp only [if_true]
    go_enter Tryz.func121, Tryz.ntmps121
    go_wp2_with fail
    rw [HW.out]
    go_wp2_with fail
    refine (HO.out _).mono ?_
    rintro e w1 ⟨v', rfl, ⟨a', c', rfl, hI⟩, hb⟩
    clear hI
    have hlt := (hbox.below hb).lt
    have n2 : ¬ w.heap.size = w1.heap.size := by omega
    clear d0 d1 d2 d3 d4 d5
    obtain ⟨d0, d1, d2, d3, d4, d5⟩ := (hbox.below hb).six
    obtain ⟨W1, hW1, hbW1, hbox1⟩ := refFld_box w1 f (.slice a' f.v.length c')
    have HW1 := hid hW1
    have HA := hid (below_on hb hbW1)
    clear hW1 hbox1 hbW1 hb
    go_wp2_with fail
    rw [HW1.out]
    refine (FV.out _ (IV.out.below HA.out)).mono ?_
    rintro e w2 ⟨rfl, hb2⟩
    replace HA := hid (below_on HA.out hb2)
    clear d0 d1 d2 d3 d4 d5 hb2 HW1 n2 hlt
    obtain ⟨d0, d1, d2, d3, d4, d5⟩ := (hbox.below HA.out).six
    go_wp2_with fail
    go_ret
    exact ⟨rfl, below_on HB.out HA.out⟩
  · rw [hv] at FV
    cases H
    · clear hv hvm2 hab
      simp only [Bool.false_and, Bool.false_eq_true, Bool.true_eq_false, if_false]
      go_enter Tryz.func121, Tryz.ntmps121
      go_wp2_with fail
      rw [HW.out]
      go_wp2_with fail
      refine (HO.out _).mono ?_
      rintro e w1 ⟨v', rfl, ⟨a', c', rfl, hI⟩, hb⟩
      clear hI
      have hlt := (hbox.below hb).lt
      have n2 : ¬ w.heap.size = w1.heap.size := by omega
      clear d0 d1 d2 d3 d4 d5
      obtain ⟨d0, d1, d2, d3, d4, d5⟩ := (hbox.below hb).six
      obtain ⟨W1, hW1, hbW1, hbox1⟩ := refFld_box w1 f (.slice a' f.v.length c')
      have HW1 := hid hW1
      have HA := hid (below_on hb hbW1)
      clear hW1 hbox1 hbW1 hb
      go_wp2_with fail
      rw [HW1.out]
      refine (FV.out _ (IV.out.below HA.out)).mono ?_
      rintro e w2 ⟨rfl, hb2⟩
      replace HA := hid (below_on HA.out hb2)
      clear d0 d1 d2 d3 d4 d5 hb2 HW1 n2 hlt
      obtain ⟨d0, d1, d2, d3, d4, d5⟩ := (hbox.below HA.out).six
      go_wp2_with fail
      go_ret
      exact ⟨rfl, below_on HB.out HA.out⟩
    · cases hfm : fitsB F m
      · rw [hfm] at FM
        clear hv hvm2 hfm hab
        simp only [Bool.not_false, Bool.and_true, Bool.true_eq_false, if_true, if_false]
        go_enter Tryz.func121, Tryz.ntmps121
        go_wp2_with fail
        rw [HW.out]
        go_wp2_with fail
        refine (HO.out _).mono ?_
        rintro e w1 ⟨v', rfl, ⟨a', c', rfl, hI⟩, hb⟩
        clear hI
        have hlt := (hbox.below hb).lt
        have n2 : ¬ w.heap.size = w1.heap.size := by omega
        clear d0 d1 d2 d3 d4 d5
        obtain ⟨d0, d1, d2, d3, d4, d5⟩ := (hbox.below hb).six
        obtain ⟨W1, hW1, hbW1, hbox1⟩ := refFld_box w1 f (.slice a' f.v.length c')
        have HW1 := hid hW1
        have HA := hid (below_on hb hbW1)
        clear hW1 hbox1 hbW1 hb
        go_wp2_with fail
        rw [HW1.out]
        refine (FV.out _ (IV.out.below HA.out)).mono ?_
        rintro e w2 ⟨rfl, hb2⟩
        replace HA := hid (below_on HA.out hb2)
        clear d0 d1 d2 d3 d4 d5 hb2 HW1 n2 hlt
        obtain ⟨d0, d1, d2, d3, d4, d5⟩ := (hbox.below HA.out).six
        go_wp2_with fail
        refine (FM.out _ (IM.out.below HA.out)).mono ?_
        rintro e w3 ⟨rfl, hb3⟩
        replace HA := hid (below_on HA.out hb3)
        clear d0 d1 d2 d3 d4 d5 hb3
        obtain ⟨d0, d1, d2, d3, d4, d5⟩ := (hbox.below HA.out).six
        go_wp2_with fail
        go_ret
        exact ⟨rfl, below_on HB.out HA.out⟩
      · rw [hfm] at FM
        have hvm : v.length ≤ m.length := Nat.le_of_eq (hvm2 hv hfm)
        obtain ⟨hn, hlz, hin, b0, hup⟩ := hab hfm
        clear hlz hin
        clear hv hvm2 hfm hab
        simp only [Bool.not_true, Bool.and_false, Bool.true_eq_false, Bool.false_eq_true, if_true, if_false]
        obtain ⟨n, hnb⟩ : ∃ n : Nat, f.b = n := ⟨f.b.toNat, by omega⟩
        rw [hnb, Int.toNat_natCast] at hn hup
        have hq := mask_ways v m n OM.out (ones_pops hn hup)
        rw [hnb] at HO ⊢
        obtain ⟨r, hr⟩ : ∃ r, maskE v m n = r := ⟨_, rfl⟩
        rw [hr] at hq ⊢
        unfold MaskWays at hq
        clear hr hup b0
        rcases hq with ⟨hz, rfl⟩ | ⟨hz, ho, rfl⟩ | ⟨hz, ho, hi, rfl⟩ | ⟨hz, ho, hi, rfl⟩
        · go_enter Tryz.func121, Tryz.ntmps121
          go_wp2_with fail
          rw [HW.out]
          go_wp2_with fail
          refine (HO.out _).mono ?_
          rintro e w1 ⟨v', rfl, ⟨a', c', rfl, hI⟩, hb⟩
          clear hI
          have hlt := (hbox.below hb).lt
          have n2 : ¬ w.heap.size = w1.heap.size := by omega
          clear d0 d1 d2 d3 d4 d5
          obtain ⟨d0, d1, d2, d3, d4, d5⟩ := (hbox.below hb).six
          obtain ⟨W1, hW1, hbW1, hbox1⟩ := refFld_boxN w1 f n hnb (.slice a' f.v.length c')
          have HW1 := hid hW1
          have HA := hid (below_on hb hbW1)
          clear hW1 hbox1 hbW1 hb
          go_wp2_with fail
          rw [HW1.out]
          refine (FV.out _ (IV.out.below HA.out)).mono ?_
          rintro e w2 ⟨rfl, hb2⟩
          replace HA := hid (below_on HA.out hb2)
          clear d0 d1 d2 d3 d4 d5 hb2 HW1 n2 hlt
          obtain ⟨d0, d1, d2, d3, d4, d5⟩ := (hbox.below HA.out).six
          go_wp2_with fail
          refine (FM.out _ (IM.out.below HA.out)).mono ?_
          rintro e w3 ⟨rfl, hb3⟩
          replace HA := hid (below_on HA.out hb3)
          clear d0 d1 d2 d3 d4 d5 hb3
          obtain ⟨d0, d1, d2, d3, d4, d5⟩ := (hbox.below HA.out).six
          go_wp2_with fail
          refine (ref8Zeros_any m ma mc _ (by omega) (IM.out.below HA.out)).mono ?_
          rw [hz]
          rintro e w' ⟨rfl, rfl⟩
          go_wp2_with fail
          go_ret
          exact ⟨rfl, below_on HB.out HA.out⟩
        · go_enter Tryz.func121, Tryz.ntmps121
          go_wp2_with fail
          rw [HW.out]
          go_wp2_with fail
          refine (HO.out _).mono ?_
          rintro e w1 ⟨v', rfl, ⟨a', c', rfl, hI⟩, hb⟩
          clear hI
          have hlt := (hbox.below hb).lt
          have n2 : ¬ w.heap.size = w1.heap.size := by omega
          clear d0 d1 d2 d3 d4 d5
          obtain ⟨d0, d1, d2, d3, d4, d5⟩ := (hbox.below hb).six
          obtain ⟨W1, hW1, hbW1, hbox1⟩ := refFld_boxN w1 f n hnb (.slice a' f.v.length c')
          have HW1 := hid hW1
          have HA := hid (below_on hb hbW1)
          clear hW1 hbox1 hbW1 hb
          go_wp2_with fail
          rw [HW1.out]
          refine (FV.out _ (IV.out.below HA.out)).mono ?_
          rintro e w2 ⟨rfl, hb2⟩
          replace HA := hid (below_on HA.out hb2)
          clear d0 d1 d2 d3 d4 d5 hb2 HW1 n2 hlt
          obtain ⟨d0, d1, d2, d3, d4, d5⟩ := (hbox.below HA.out).six
          go_wp2_with fail
          refine (FM.out _ (IM.out.below HA.out)).mono ?_
          rintro e w3 ⟨rfl, hb3⟩
          replace HA := hid (below_on HA.out hb3)
          clear d0 d1 d2 d3 d4 d5 hb3
          obtain ⟨d0, d1, d2, d3, d4, d5⟩ := (hbox.below HA.out).six
          go_wp2_with fail
          refine (ref8Zeros_any m ma mc _ (by omega) (IM.out.below HA.out)).mono ?_
          rw [hz]
          rintro e w' ⟨rfl, rfl⟩
          go_wp2_with fail
          refine (ref8Ones_any m n hn (by omega) OM.out ma mc _ (IM.out.below HA.out)).mono ?_
          rw [ho]
          rintro e w' ⟨rfl, rfl⟩
          go_wp2_with fail
          go_ret
          exact ⟨rfl, below_on HB.out HA.out⟩
        · go_enter Tryz.func121, Tryz.ntmps121
          go_wp2_with fail
          rw [HW.out]
          go_wp2_with fail
          refine (HO.out _).mono ?_
          rintro e w1 ⟨v', rfl, ⟨a', c', rfl, hI⟩, hb⟩
          clear hI
          have hlt := (hbox.below hb).lt
          have n2 : ¬ w.heap.size = w1.heap.size := by omega
          clear d0 d1 d2 d3 d4 d5
          obtain ⟨d0, d1, d2, d3, d4, d5⟩ := (hbox.below hb).six
          obtain ⟨W1, hW1, hbW1, hbox1⟩ := refFld_boxN w1 f n hnb (.slice a' f.v.length c')
          have HW1 := hid hW1
          have HA := hid (below_on hb hbW1)
          clear hW1 hbox1 hbW1 hb
          go_wp2_with fail
          rw [HW1.out]
          refine (FV.out _ (IV.out.below HA.out)).mono ?_
          rintro e w2 ⟨rfl, hb2⟩
          replace HA := hid (below_on HA.out hb2)
          clear d0 d1 d2 d3 d4 d5 hb2 HW1 n2 hlt
          obtain ⟨d0, d1, d2, d3, d4, d5⟩ := (hbox.below HA.out).six
          go_wp2_with fail
          refine (FM.out _ (IM.out.below HA.out)).mono ?_
          rintro e w3 ⟨rfl, hb3⟩
          replace HA := hid (below_on HA.out hb3)
          clear d0 d1 d2 d3 d4 d5 hb3
          obtain ⟨d0, d1, d2, d3, d4, d5⟩ := (hbox.below HA.out).six
          go_wp2_with fail
          refine (ref8Zeros_any m ma mc _ (by omega) (IM.out.below HA.out)).mono ?_
          rw [hz]
          rintro e w' ⟨rfl, rfl⟩
          go_wp2_with fail
          refine (ref8Ones_any m n hn (by omega) OM.out ma mc _ (IM.out.below HA.out)).mono ?_
          rw [ho]
          rintro e w' ⟨rfl, rfl⟩
          go_wp2_with fail
          refine (ref8Inside_any v m hvm (by omega) OV.out OM.out va ma vc mc _ (IV.out.below HA.out) (IM.out.below HA.out)).mono ?_
          rw [hi]
          rintro e w5 ⟨rfl, hb5⟩
          go_wp2_with fail
          go_ret
          exact ⟨rfl, below_on HB.out (below_on HA.out hb5)⟩
        · go_enter Tryz.func121, Tryz.ntmps121
          go_wp2_with fail
          rw [HW.out]
          go_wp2_with fail
          refine (HO.out _).mono ?_
          rintro e w1 ⟨v', rfl, ⟨a', c', rfl, hI⟩, hb⟩
          clear hI
          have hlt := (hbox.below hb).lt
          have n2 : ¬ w.heap.size = w1.heap.size := by omega
          clear d0 d1 d2 d3 d4 d5
          obtain ⟨d0, d1, d2, d3, d4, d5⟩ := (hbox.below hb).six
          obtain ⟨W1, hW1, hbW1, hbox1⟩ := refFld_boxN w1 f n hnb (.slice a' f.v.length c')
          have HW1 := hid hW1
          have HA := hid (below_on hb hbW1)
          clear hW1 hbox1 hbW1 hb
          go_wp2_with fail
          rw [HW1.out]
          refine (FV.out _ (IV.out.below HA.out)).mono ?_
          rintro e w2 ⟨rfl, hb2⟩
          replace HA := hid (below_on HA.out hb2)
          clear d0 d1 d2 d3 d4 d5 hb2 HW1 n2 hlt
          obtain ⟨d0, d1, d2, d3, d4, d5⟩ := (hbox.below HA.out).six
          go_wp2_with fail
          refine (FM.out _ (IM.out.below HA.out)).mono ?_
          rintro e w3 ⟨rfl, hb3⟩
          replace HA := hid (below_on HA.out hb3)
          clear d0 d1 d2 d3 d4 d5 hb3
          obtain ⟨d0, d1, d2, d3, d4, d5⟩ := (hbox.below HA.out).six
          go_wp2_with fail
          refine (ref8Zeros_any m ma mc _ (by omega) (IM.out.below HA.out)).mono ?_
          rw [hz]
          rintro e w' ⟨rfl, rfl⟩
          go_wp2_with fail
          refine (ref8Ones_any m n hn (by omega) OM.out ma mc _ (IM.out.below HA.out)).mono ?_
          rw [ho]
          rintro e w' ⟨rfl, rfl⟩
          go_wp2_with fail
          refine (ref8Inside_any v m hvm (by omega) OV.out OM.out va ma vc mc _ (IV.out.below HA.out) (IM.out.below HA.out)).mono ?_
          rw [hi]
          rintro e w5 ⟨rfl, hb5⟩
          go_wp2_with fail
          go_ret
          exact ⟨rfl, below_on HB.out (below_on HA.out hb5)⟩

set_option maxRecDepth 100000 in
set_option maxHeartbeats 2000000 in
theorem refWrong_extra (F : Int) (H : Bool) (X : Int) (va : Option Addr) (vc : Nat) (ma : Option Addr) (mc : Nat) (v m : List Int) (hvm : H = true → v.length ≤ m.length) (hm : m.length ≤ 1000) (ov : Octets v) (om : Octets m) (w : World) (iv : Ints .u8 w va v) (im : Ints .u8 w ma m) :
    Calls Tryz.prog 121 #[.agg #[.int .i64 65535, .int .i64 F, .bool H, .int .u64 X, .slice va v.length vc, .slice ma m.length mc]] w fun e w' => e = .returned (.int .i64 (bytesE 65535 F H v m)) ∧ Below w.heap.size w w' := by
  obtain ⟨W, hW, hbW, hbox⟩ := oxm_box w 65535 F H X va v.length vc ma m.length mc
  have HW := hid hW
  have HB := hid hbW
  have HO := hid (fun W => refOf_any F W)
  obtain ⟨d0, d1, d2, d3, d4, d5⟩ := hbox.six
  have IV := hid (iv.below hbW)
  have IM := hid (im.below hbW)
  clear hW hbW iv im
  have OV := hid ov
  have OM := hid om
  clear ov om
  obtain ⟨f, hf⟩ : ∃ f, fld F = f := ⟨_, rfl⟩
  rw [hf] at HO
  obtain ⟨t, ht⟩ : ∃ t, decide (0 ≤ F ∧ F < 40) = t := ⟨_, rfl⟩
  rw [ht] at HO
  clear ht hf
  unfold refFldV at HO
  cases H
  · have HE : bytesE 65535 F false v m = 0 := by simp [bytesE]
    rw [HE]
    clear HE hvm
    go_enter Tryz.func121, Tryz.ntmps121
    go_wp2_with fail
    rw [HW.out]
    go_wp2_with fail
    refine (HO.out _).mono ?_
    rintro e w1 ⟨v', rfl, ⟨a', c', rfl, hI⟩, hb⟩
    clear hI
    have hlt := (hbox.below hb).lt
    have n2 : ¬ w.heap.size = w1.heap.size := by omega
    clear d0 d1 d2 d3 d4 d5
    obtain ⟨d0, d1, d2, d3, d4, d5⟩ := (hbox.below hb).six
    obtain ⟨W1, hW1, hbW1, hbox1⟩ := refFld_box w1 f (.slice a' f.v.length c')
    have HW1 := hid hW1
    have HA := hid (below_on hb hbW1)
    clear hW1 hbox1 hbW1 hb
    go_wp2_with fail
    rw [HW1.out]
    go_ret
    exact ⟨rfl, below_on HB.out HA.out⟩
  · have HE : bytesE 65535 F true v m = maskE v m ((8 * m.length : Nat) : Int) := by simp [bytesE]
    rw [HE]
    replace hvm := hvm rfl
    obtain ⟨n, hnn⟩ : ∃ n : Nat, 8 * m.length = n := ⟨_, rfl⟩
    have hn : n ≤ 8 * m.length := by omega
    have hni : 8 * (m.length : Int) = (n : Int) := by omega
    have hq := mask_ways v m n OM.out (by rw [← hnn]; exact ones_all)
    rw [hnn]
    obtain ⟨r, hr⟩ : ∃ r, maskE v m n = r := ⟨_, rfl⟩
    rw [hr] at hq ⊢
    unfold MaskWays at hq
    clear hr HE hnn
    rcases hq with ⟨hz, rfl⟩ | ⟨hz, ho, rfl⟩ | ⟨hz, ho, hi, rfl⟩ | ⟨hz, ho, hi, rfl⟩
    · go_enter Tryz.func121, Tryz.ntmps121
      go_wp2_with fail
      rw [HW.out]
      go_wp2_with fail
      refine (HO.out _).mono ?_
      rintro e w1 ⟨v', rfl, ⟨a', c', rfl, hI⟩, hb⟩
      clear hI
      have hlt := (hbox.below hb).lt
      have n2 : ¬ w.heap.size = w1.heap.size := by omega
      clear d0 d1 d2 d3 d4 d5
      obtain ⟨d0, d1, d2, d3, d4, d5⟩ := (hbox.below hb).six
      obtain ⟨W1, hW1, hbW1, hbox1⟩ := refFld_box w1 f (.slice a' f.v.length c')
      have HW1 := hid hW1
      have HA := hid (below_on hb hbW1)
      clear hW1 hbox1 hbW1 hb
      go_wp2_with fail
      rw [HW1.out]
      clear d0 d1 d2 d3 d4 d5 n2 hlt
      obtain ⟨d0, d1, d2, d3, d4, d5⟩ := (hbox.below HA.out).six
      refine (ref8Zeros_any m ma mc _ (by omega) (IM.out.below HA.out)).mono ?_
      rw [hz]
      rintro e w' ⟨rfl, rfl⟩
      go_wp2_with fail
      go_ret
      exact ⟨rfl, below_on HB.out HA.out⟩
    · go_enter Tryz.func121, Tryz.ntmps121
      go_wp2_with fail
      rw [HW.out]
      go_wp2_with fail
      refine (HO.out _).mono ?_
      rintro e w1 ⟨v', rfl, ⟨a', c', rfl, hI⟩, hb⟩
      clear hI
      have hlt := (hbox.below hb).lt
      have n2 : ¬ w.heap.size = w1.heap.size := by omega
      clear d0 d1 d2 d3 d4 d5
      obtain ⟨d0, d1, d2, d3, d4, d5⟩ := (hbox.below hb).six
      obtain ⟨W1, hW1, hbW1, hbox1⟩ := refFld_box w1 f (.slice a' f.v.length c')
      have HW1 := hid hW1
      have HA := hid (below_on hb hbW1)
      clear hW1 hbox1 hbW1 hb
      go_wp2_with fail
      rw [HW1.out]
      clear d0 d1 d2 d3 d4 d5 n2 hlt
      obtain ⟨d0, d1, d2, d3, d4, d5⟩ := (hbox.below HA.out).six
      refine (ref8Zeros_any m ma mc _ (by omega) (IM.out.below HA.out)).mono ?_
      rw [hz]
      rintro e w' ⟨rfl, rfl⟩
      go_wp2_with fail
      refine (ref8Ones_any m n hn (by omega) OM.out ma mc _ (IM.out.below HA.out)).mono ?_
      rw [ho]
      rintro e w' ⟨rfl, rfl⟩
      go_wp2_with fail
      go_ret
      exact ⟨rfl, below_on HB.out HA.out⟩
    · go_enter Tryz.func121, Tryz.ntmps121
      go_wp2_with fail
      rw [HW.out]
      go_wp2_with fail
      refine (HO.out _).mono ?_
      rintro e w1 ⟨v', rfl, ⟨a', c', rfl, hI⟩, hb⟩
      clear hI
      have hlt := (hbox.below hb).lt
      have n2 : ¬ w.heap.size = w1.heap.size := by omega
      clear d0 d1 d2 d3 d4 d5
      obtain ⟨d0, d1, d2, d3, d4, d5⟩ := (hbox.below hb).six
      obtain ⟨W1, hW1, hbW1, hbox1⟩ := refFld_box w1 f (.slice a' f.v.length c')
      have HW1 := hid hW1
      have HA := hid (below_on hb hbW1)
      clear hW1 hbox1 hbW1 hb
      go_wp2_with fail
      rw [HW1.out]
      clear d0 d1 d2 d3 d4 d5 n2 hlt
      obtain ⟨d0, d1, d2, d3, d4, d5⟩ := (hbox.below HA.out).six
      refine (ref8Zeros_any m ma mc _ (by omega) (IM.out.below HA.out)).mono ?_
      rw [hz]
      rintro e w' ⟨rfl, rfl⟩
      go_wp2_with fail
      refine (ref8Ones_any m n hn (by omega) OM.out ma mc _ (IM.out.below HA.out)).mono ?_
      rw [ho]
      rintro e w' ⟨rfl, rfl⟩
      go_wp2_with fail
      refine (ref8Inside_any v m hvm (by omega) OV.out OM.out va ma vc mc _ (IV.out.below HA.out) (IM.out.below HA.out)).mono ?_
      rw [hi]
      rintro e w5 ⟨rfl, hb5⟩
      go_wp2_with fail
      go_ret
      exact ⟨rfl, below_on HB.out (below_on HA.out hb5)⟩
    · go_enter Tryz.func121, Tryz.ntmps121
      go_wp2_with fail
      rw [HW.out]
      go_wp2_with fail
      refine (HO.out _).mono ?_
      rintro e w1 ⟨v', rfl, ⟨a', c', rfl, hI⟩, hb⟩
      clear hI
      have hlt := (hbox.below hb).lt
      have n2 : ¬ w.heap.size = w1.heap.size := by omega
      clear d0 d1 d2 d3 d4 d5
      obtain ⟨d0, d1, d2, d3, d4, d5⟩ := (hbox.below hb).six
      obtain ⟨W1, hW1, hbW1, hbox1⟩ := refFld_box w1 f (.slice a' f.v.length c')
      have HW1 := hid hW1
      have HA := hid (below_on hb hbW1)
      clear hW1 hbox1 hbW1 hb
      go_wp2_with fail
      rw [HW1.out]
      clear d0 d1 d2 d3 d4 d5 n2 hlt
      obtain ⟨d0, d1, d2, d3, d4, d5⟩ := (hbox.below HA.out).six
      refine (ref8Zeros_any m ma mc _ (by omega) (IM.out.below HA.out)).mono ?_
      rw [hz]
      rintro e w' ⟨rfl, rfl⟩
      go_wp2_with fail
      refine (ref8Ones_any m n hn (by omega) OM.out ma mc _ (IM.out.below HA.out)).mono ?_
      rw [ho]
      rintro e w' ⟨rfl, rfl⟩
      go_wp2_with fail
      refine (ref8Inside_any v m hvm (by omega) OV.out OM.out va ma vc mc _ (IV.out.below HA.out) (IM.out.below HA.out)).mono ?_
      rw [hi]
      rintro e w5 ⟨rfl, hb5⟩
      go_wp2_with fail
      go_ret
      exact ⟨rfl, below_on HB.out (below_on HA.out hb5)⟩
end Go.Proofs.YtdjlbejhphbcoaaGreat
namespace Go.Proofs.YtdjlbejhphbcoaaGreat
open Go.RowKit
set_option linter.unusedVariables false

/-- whether a value may be -/
def rightB (C F : Int) (H : Bool) (X : Int) (v m : List Int) : Bool :=
  room8 C F X && decide (m.length = maskZ H v.length) && decide (headE C F H (behind8 C v.length m.length) = 0) && decide (bytesE C F H v m = 0)
theorem right_room {C F X : Int} {H : Bool} {v m : List Int} (h : room8 C F X = false) : rightB C F H X v m = false := by simp [rightB, h]
theorem right_mask {C F X : Int} {H : Bool} {v m : List Int} (h : m.length ≠ maskZ H v.length) : rightB C F H X v m = false := by simp [rightB, h]
theorem right_head {C F X : Int} {H : Bool} {v m : List Int} (h : headE C F H (behind8 C v.length m.length) ≠ 0) : rightB C F H X v m = false := by simp [rightB, h]
theorem right_bytes {C F X : Int} {H : Bool} {v m : List Int} (h : bytesE C F H v m ≠ 0) : rightB C F H X v m = false := by simp [rightB, h]

set_option maxRecDepth 100000 in
set_option maxHeartbeats 1000000 in
theorem right8_any (C F : Int) (H : Bool) (X : Int) (va : Option Addr) (vc : Nat) (ma : Option Addr) (mc : Nat) (v m : List Int) (hv : v.length ≤ 1000) (hm : m.length ≤ 1000) (hmc : m.length ≤ mc) (ov : Octets v) (om : Octets m) (w : World) (iv : Ints .u8 w va v) (im : Ints .u8 w ma m) :
    Calls Tryz.prog 79 #[.agg #[.int .i64 C, .int .i64 F, .bool H, .int .u64 X, .slice va v.length vc, .slice ma m.length mc]] w fun e w' => e = .returned (.bool (rightB C F H X v m)) ∧ Below w.heap.size w w' := by
  obtain ⟨W, hW, hbW, hbox⟩ := oxm_box w C F H X va v.length vc ma m.length mc
  have HW := hid hW
  have HB := hid hbW
  obtain ⟨d0, d1, d2, d3, d4, d5⟩ := hbox.six
  have IV := hid (iv.below hbW)
  have IM := hid (im.below hbW)
  clear hW hbW iv im
  have hb1 : behind8 C v.length m.length ≤ 2004 := by unfold behind8; split <;> omega
  have R1 := hid (fun W => hasRoom8_any C F H X va v.length vc ma m.length mc W)
  have R2 := hid (fun W => maskSize_any C F H X va v.length vc ma m.length mc W)
  have R3 := hid (fun W => behind8_any C F H X va v.length vc ma m.length mc W (by omega) (by omega))
  have R4 := hid (fun W => wrongHead_any C F H X va v.length vc ma m.length mc (behind8 C v.length m.length) W (by omega) (by omega))
  cases h1 : room8 C F X
  · rw [right_room h1]
    rw [h1] at R1
    clear h1
    go_enter Tryz.func79, Tryz.ntmps79
    go_wp2_with fail
    rw [HW.out]
    have c0 := Wk.cell d0
    have c1 := Wk.cell d1
    have c2 := Wk.cell d2
    have c3 := Wk.cell d3
    have c4 := Wk.cell d4
    have c5 := Wk.cell d5
    clear d0 d1 d2 d3 d4 d5
    refine wp_region_wk (by kernel_rfl) (by kernel_rfl) ?_
    repeat (go_big_quiet_step (first | (go_at_call 116; exact Wk.call (R1.out _))))
    refine wpQuiet_nil ?_
    rintro w2 ⟨⟨_, hb2⟩, rfl⟩
    go_wp2_with fail
    go_ret
    exact ⟨rfl, below_on HB.out hb2⟩
  · rw [h1] at R1
    by_cases h2 : m.length = maskZ H v.length
    · have n2 : ((m.length : Int) == (maskZ H v.length : Int)) = true := by simp [h2]
      by_cases h3 : headE C F H (behind8 C v.length m.length) = 0
      · have R5 := hid (fun W iv im => wrongBytes_any C F H X va vc ma mc v m (fun _ h => by rw [h2, h]; exact Nat.le_refl _) hm hmc ov om W iv im)
        by_cases h4 : bytesE C F H v m = 0
        · rw [show rightB C F H X v m = true by simp [rightB, h1, h2.symm, h3, h4]]
          rw [h3] at R4
          rw [h4] at R5
          clear h1 h2 h3 h4 ov om
          go_enter Tryz.func79, Tryz.ntmps79
          go_wp2_with fail
          rw [HW.out]
          have c0 := Wk.cell d0
          have c1 := Wk.cell d1
          have c2 := Wk.cell d2
          have c3 := Wk.cell d3
          have c4 := Wk.cell d4
          have c5 := Wk.cell d5
          clear d0 d1 d2 d3 d4 d5
          refine wp_region_wk (by kernel_rfl) (by kernel_rfl) ?_
          repeat (go_big_quiet_step (first | (go_at_call 116; exact Wk.call (R1.out _)) | (go_at_call 117; exact Wk.call (R2.out _)) | (go_at_call 81; exact Wk.call (R3.out _)) | (go_at_call 118; exact Wk.call (R4.out _)) | (go_at_call 119; exact Wk.call (R5.out _ (IV.out.below (Wk.bel _)) (IM.out.below (Wk.bel _))))))
          refine wpQuiet_nil ?_
          rintro w2 ⟨⟨_, hb2⟩, rfl⟩
          go_wp2_with fail
          go_ret
          exact ⟨rfl, below_on HB.out hb2⟩
        · rw [right_bytes h4]
          rw [h3] at R4
          obtain ⟨q, hq⟩ : ∃ q, bytesE C F H v m = q := ⟨_, rfl⟩
          rw [hq] at R5 h4
          have n4 : (q == 0) = false := by simpa using h4
          clear h1 h2 h3 h4 ov om hq
          go_enter Tryz.func79, Tryz.ntmps79
          go_wp2_with fail
          rw [HW.out]
          have c0 := Wk.cell d0
          have c1 := Wk.cell d1
          have c2 := Wk.cell d2
          have c3 := Wk.cell d3
          have c4 := Wk.cell d4
          have c5 := Wk.cell d5
          clear d0 d1 d2 d3 d4 d5
          refine wp_region_wk (by kernel_rfl) (by kernel_rfl) ?_
          repeat (go_big_quiet_step (first | (go_at_call 116; exact Wk.call (R1.out _)) | (go_at_call 117; exact Wk.call (R2.out _)) | (go_at_call 81; exact Wk.call (R3.out _)) | (go_at_call 118; exact Wk.call (R4.out _)) | (go_at_call 119; exact Wk.call (R5.out _ (IV.out.below (Wk.bel _)) (IM.out.below (Wk.bel _))))))
          refine wpQuiet_nil ?_
          rintro w2 ⟨⟨_, hb2⟩, rfl⟩
          go_wp2_with fail
          go_ret
          exact ⟨rfl, below_on HB.out hb2⟩
      · rw [right_head h3]
        obtain ⟨q, hq⟩ : ∃ q, headE C F H (behind8 C v.length m.length) = q := ⟨_, rfl⟩
        rw [hq] at R4 h3
        have n4 : (q == 0) = false := by simpa using h3
        clear h1 h2 h3 ov om hq
        go_enter Tryz.func79, Tryz.ntmps79
        go_wp2_with fail
        rw [HW.out]
        have c0 := Wk.cell d0
        have c1 := Wk.cell d1
        have c2 := Wk.cell d2
        have c3 := Wk.cell d3
        have c4 := Wk.cell d4
        have c5 := Wk.cell d5
        clear d0 d1 d2 d3 d4 d5
        refine wp_region_wk (by kernel_rfl) (by kernel_rfl) ?_
        repeat (go_big_quiet_step (first | (go_at_call 116; exact Wk.call (R1.out _)) | (go_at_call 117; exact Wk.call (R2.out _)) | (go_at_call 81; exact Wk.call (R3.out _)) | (go_at_call 118; exact Wk.call (R4.out _))))
        refine wpQuiet_nil ?_
        rintro w2 ⟨⟨_, hb2⟩, rfl⟩
        go_wp2_with fail
        go_ret
        exact ⟨rfl, below_on HB.out hb2⟩
    · rw [right_mask h2]
      have n2 : ((m.length : Int) == (maskZ H v.length : Int)) = false := by simp; omega
      clear h1 h2 ov om
      go_enter Tryz.func79, Tryz.ntmps79
      go_wp2_with fail
      rw [HW.out]
      have c0 := Wk.cell d0
      have c1 := Wk.cell d1
      have c2 := Wk.cell d2
      have c3 := Wk.cell d3
      have c4 := Wk.cell d4
      have c5 := Wk.cell d5
      clear d0 d1 d2 d3 d4 d5
      refine wp_region_wk (by kernel_rfl) (by kernel_rfl) ?_
      repeat (go_big_quiet_step (first | (go_at_call 116; exact Wk.call (R1.out _)) | (go_at_call 117; exact Wk.call (R2.out _))))
      refine wpQuiet_nil ?_
      rintro w2 ⟨⟨_, hb2⟩, rfl⟩
      go_wp2_with fail
      go_ret
      exact ⟨rfl, below_on HB.out hb2⟩
end Go.Proofs.YtdjlbejhphbcoaaGreat
