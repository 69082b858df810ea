/- Package oxm and the document's values: masks, bit by bit. -/
import Derived.Test.YtfogpofgmnibcaaOxmA
namespace Go.Proofs.Ytfogpofgmnibcaa
open Go.RowKit
set_option linter.unusedVariables false

/-- how many bits of a byte are 1 -/
def popB (p : Int) : Nat := (List.range 8).countP fun t => bitOn t p
theorem pop_of (d : ByteArray) (hd : d.size = 256) (ht : ∀ q : Fin 256, (d[q.val]'(by rw [hd]; exact q.isLt)).toNat = popB (q.val : Int)) (p : Int) (h0 : 0 ≤ p) (h1 : p ≤ 255) (hp : p.toNat < d.size) :
    wrap64 ((d[p.toNat]'hp).toNat : Int) = (popB p : Int) := by
  obtain ⟨q, rfl⟩ := Int.eq_ofNat_of_zero_le h0
  have e := ht ⟨q, by omega⟩
  have e2 : d[(q : Int).toNat]'hp = d[q]'(by omega) := rfl
  rw [e2, e]
  have h8 : popB (q : Int) ≤ 8 := by
    have := List.countP_le_length (p := fun t => bitOn t (q : Int)) (l := List.range 8)
    simpa [popB] using this
  generalize popB (q : Int) = n at h8
  rcases (show n = 0 ∨ n = 1 ∨ n = 2 ∨ n = 3 ∨ n = 4 ∨ n = 5 ∨ n = 6 ∨ n = 7 ∨ n = 8 by omega) with rfl | rfl | rfl | rfl | rfl | rfl | rfl | rfl | rfl <;> decide +kernel

set_option maxRecDepth 100000 in
theorem ones8_any (p : Int) (h0 : 0 ≤ p) (h1 : p ≤ 255) (w : World) :
    Calls Try.prog 74 #[.int .u8 p] w fun e w' => e = .returned (.int .i64 (popB p)) ∧ w' = w := by
  go_enter Try.func74, Try.ntmps74
  go_wp2_with fail
  go_ret
  refine ⟨ret_int ?_, rfl⟩
  exact pop_of _ (by decide +kernel) (by decide +kernel) p h0 h1 _

/-- how many bits of bytes are 1 -/
def pops (m : List Int) : Nat := (m.map popB).sum
theorem pops_snoc {m : List Int} {k : Nat} {x : Int} (h : m[k]? = some x) : pops (m.take (k + 1)) = pops (m.take k) + popB x := by
  unfold pops
  rw [List.take_add_one, h]
  simp
theorem popB_le (p : Int) : popB p ≤ 8 := by
  have := List.countP_le_length (p := fun t => bitOn t p) (l := List.range 8)
  simpa [popB] using this
theorem pops_le (m : List Int) : pops m ≤ 8 * m.length := by
  induction m with
  | nil => simp [pops]
  | cons x r ih => have := popB_le x; simp only [pops, List.map_cons, List.sum_cons, List.length_cons] at *; omega
/-- what is not in a mask -/
def outB (x y : Int) : Bool := bits BinOp.andNot IntKind.u8 x y != 0
/-- whether each bit of a value is one of the mask -/
def insideB (v m : List Int) : Bool := (List.range v.length).all fun i => !outB (v.getD i 0) (m.getD i 0)
theorem inside_yes {v m : List Int} (h : ∀ i, i < v.length → outB (v.getD i 0) (m.getD i 0) = false) : insideB v m = true := by
  unfold insideB
  rw [List.all_eq_true]
  intro j hj
  rw [h j (by simpa using hj)]
  rfl
theorem inside_no {v m : List Int} {i : Nat} (hi : i < v.length) (h : outB (v.getD i 0) (m.getD i 0) = true) : insideB v m = false := by
  unfold insideB
  rw [List.all_eq_false]
  exact ⟨i, by simpa using hi, by rw [h]; simp⟩
/-- what is wrong of a mask of so many bits, and of the value under it -/
def maskE (v m : List Int) (n : Int) : Int := if pops m = 0 ∨ (pops m : Int) = n then 1033 else if insideB v m then 0 else 1030

set_option maxRecDepth 100000 in
set_option maxHeartbeats 1000000 in
theorem wrongMask_any (C F : Int) (H : Bool) (X : Int) (va : Option Addr) (vl vc : Nat) (ma : Option Addr) (ml mc : Nat) (v m : List Int) (n : Int) (ev : vl = v.length) (em : ml = m.length) (hvm : v.length ≤ m.length) (hm : m.length ≤ 1000) (hmc : ml ≤ mc) (ov : Octets v) (om : Octets m) (w : World) (iv : Ints .u8 w va v) (im : Ints .u8 w ma m) :
    Calls Try.prog 50 #[.agg #[.int .i64 C, .int .i64 F, .bool H, .int .u64 X, .slice va vl vc, .slice ma ml mc], .int .i64 n] w fun e w' => e = .returned (.int .i64 (maskE v m n)) ∧ Below w.heap.size w w' := by
  subst ev
  subst em
  obtain ⟨W, hW, hbW, hbox⟩ := oxm_box w C F H X va v.length vc ma m.length mc
  have HW := hid hW
  have IV := hid (iv.below hbW)
  have IM := hid (im.below hbW)
  have HB := hid hbW
  have OV := hid ov
  have OM := hid om
  obtain ⟨d0, d1, d2, d3, d4, d5⟩ := hbox.six
  clear hW iv im hbW ov om
  go_enter Try.func50, Try.ntmps50
  go_wp2_with fail
  rw [HW.out]
  go_wp2_with fail
  go_loop [5, 13] (fun s i => ∃ k : Nat, k ≤ m.length ∧ i = .int .i64 k ∧ s = .int .i64 ((pops (m.take k) : Nat) : Int)) (fun _ i => m.length - (intOf i).toNat)
  case atStart => exact ⟨0, Nat.zero_le _, rfl, rfl⟩
  case round =>
    obtain ⟨k, hk, rfl, rfl⟩ := hrel
    by_cases hlt : k < m.length
    · obtain ⟨b, off, x, rfl, hcell, hx⟩ := IM.out.at hlt
      obtain ⟨x1, x2⟩ := OM.out.get hx.out
      have hs := hid (pops_snoc hx.out)
      have h8 := popB_le x
      have hq1 := pops_le (m.take k)
      rw [List.length_take] at hq1
      have hq2 : pops (m.take k) ≤ 8000 := by omega
      clear hq1
      go_wp2_with (go_at_call 74; refine (ones8_any x x1 x2 _).mono ?_; rintro e w' ⟨rfl, rfl⟩)
      go_round
      case rel => exact ⟨k + 1, by omega, by go_num, by rw [hs.out]; simp⟩
      case measure => simp [intOf]; omega
    · have e : pops (m.take k) = pops m := by rw [List.take_of_length_le (by omega)]
      rw [e]
      clear e hk
      obtain ⟨q, hq⟩ : ∃ q, pops m = q := ⟨_, rfl⟩
      rw [hq]
      have hlt2 : ¬ (k : Int) < (m.length : Int) := by omega
      by_cases h0 : q = 0
      · subst h0
        have E := hid (show maskE v m n = 1033 by simp [maskE, hq])
        clear hq hlt
        go_wp2_with fail
        go_ret
        exact ⟨ret_int E.out.symm, HB.out⟩
      have i0 : ((q : Int) == 0) = false := by simp; omega
      by_cases h1 : (q : Int) = n
      · have E := hid (show maskE v m n = 1033 by simp [maskE, hq, h1])
        have i1 : ((q : Int) == n) = true := by simp [h1]
        clear hq hlt h0 h1
        go_wp2_with fail
        go_ret
        exact ⟨ret_int E.out.symm, HB.out⟩
      have i1 : ((q : Int) == n) = false := by simpa using h1
      have E := hid (show maskE v m n = if insideB v m then 0 else 1030 by simp [maskE, hq, h0, h1])
      clear hq hlt h0 h1
      go_wp2_with fail
      go_loop [32] (fun i => ∃ k : Nat, k ≤ v.length ∧ i = .int .i64 k ∧ Hid (∀ j, j < k → outB (v.getD j 0) (m.getD j 0) = false)) (fun i => v.length - (intOf i).toNat)
      case atStart => exact ⟨0, Nat.zero_le _, rfl, fun j h => by omega⟩
      case round =>
        obtain ⟨k, hk, rfl, hall⟩ := hrel
        by_cases hlt : k < v.length
        · obtain ⟨b, off, x, rfl, hcell, hx⟩ := IV.out.at hlt
          obtain ⟨b2, off2, y, rfl, hcell2, hy⟩ := IM.out.at (show k < m.length by omega)
          have px := getD_of hx.out
          have py := getD_of hy.out
          have hk2 : (k : Int) < (m.length : Int) := by omega
          cases hq : outB x y
          · have HN := hid (upto_more (P := fun j => outB (v.getD j 0) (m.getD j 0) = false) hall.out (by rw [px, py]; exact hq))
            have hq2 : (bits BinOp.andNot IntKind.u8 x y != 0) = false := hq
            clear hq px py
            go_wp2_with fail
            go_round
            case rel => exact ⟨k + 1, by omega, by go_num, HN⟩
            case measure => simp [intOf]; omega
          · have HN := hid (inside_no (m := m) hlt (by rw [px, py]; exact hq))
            have hq2 : (bits BinOp.andNot IntKind.u8 x y != 0) = true := hq
            clear hq px py
            go_wp2_with fail
            go_ret
            exact ⟨ret_int (by rw [E.out, HN.out]; rfl), HB.out⟩
        · obtain rfl : k = v.length := by omega
          have HN := hid (inside_yes (m := m) hall.out)
          go_wp2_with fail
          go_ret
          exact ⟨ret_int (by rw [E.out, HN.out]; rfl), HB.out⟩
end Go.Proofs.Ytfogpofgmnibcaa
