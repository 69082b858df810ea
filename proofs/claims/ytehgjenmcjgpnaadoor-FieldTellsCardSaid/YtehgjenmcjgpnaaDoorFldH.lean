/- Package field: whether bytes are a field's value. -/
import Derived.Test.YtehgjenmcjgpnaaDoorFldG
import Derived.Test.YtehgjenmcjgpnaaDoorNum
namespace Go.Proofs.YtehgjenmcjgpnaaDoor
open Go.RowKit

/-- whether of the highest B bits of a byte one is 1 -/
def topB (B : Nat) (p : Int) : Bool := p / 2 ^ (8 - min (B : Int) 8).toNat != 0
/-- whether of the highest A bits of bytes none is 1 -/
def fitV (A : Nat) (l : List Int) : Bool := (List.range l.length).all fun k => !topB (A - 8 * k) (l.getD k 0)
theorem fitV_yes {A : Nat} {l : List Int} (h : ∀ j, j < l.length → topB (A - 8 * j) (l.getD j 0) = false) : fitV A l = true := by
  unfold fitV
  rw [List.all_eq_true]
  intro j hj
  rw [h j (by simpa using hj)]
  rfl
theorem fitV_no {A : Nat} {l : List Int} {j : Nat} (hj : j < l.length) (h : topB (A - 8 * j) (l.getD j 0) = true) : fitV A l = false := by
  unfold fitV
  rw [List.all_eq_false]
  exact ⟨j, by simpa using hj, by rw [h]; simp⟩
/-- whether a bit of a byte is 1 -/
def bitOn (k : Nat) (p : Int) : Bool := bits BinOp.and IntKind.u8 (p / 2 ^ (k % 8)) 1 == 1
theorem top_table : ∀ (p : Fin 256) (B : Fin 9), topB B.val (p.val : Int) = (List.range 8).any fun t => decide (8 ≤ t + B.val) && bitOn t (p.val : Int) := by decide +kernel
theorem top_bits {B : Nat} {p : Int} (h0 : 0 ≤ p) (h1 : p ≤ 255) : topB B p = (List.range 8).any fun t => decide (8 ≤ t + B) && bitOn t p := by
  obtain ⟨q, rfl⟩ := Int.eq_ofNat_of_zero_le h0
  rcases Nat.lt_or_ge B 9 with hB | hB
  · exact top_table ⟨q, by omega⟩ ⟨B, hB⟩
  · have e := top_table ⟨q, by omega⟩ ⟨8, by omega⟩
    have e1 : topB B (q : Int) = topB 8 (q : Int) := by
      unfold topB
      rw [show min (B : Int) 8 = min ((8 : Nat) : Int) 8 by omega]
    rw [e1]
    refine e.trans ?_
    congr 1
    funext t
    rw [decide_eq_true (show 8 ≤ t + 8 by omega), decide_eq_true (show 8 ≤ t + B by omega)]
theorem bitOn_mod (k : Nat) (p : Int) : bitOn (k % 8) p = bitOn k p := by unfold bitOn; rw [Nat.mod_mod]
theorem octet_getD {l : List Int} (ho : Octets l) (k : Nat) : 0 ≤ l.getD k 0 ∧ l.getD k 0 ≤ 255 := by
  rw [List.getD_eq_getElem?_getD]
  cases h : l[k]? with
  | none => simp
  | some x => exact ho.get h
theorem fitV_bit {A z k : Nat} {b : Int} {l : List Int} (ho : Octets l) (hl : l.length = z) (hA : 8 * (z : Int) - b = A) (hk : (k : Int) < 8 * (z : Int)) (hb : b ≤ k) (h : bitOn k (l.getD (z - 1 - k / 8) 0) = true) : fitV A l = false := by
  refine fitV_no (j := z - 1 - k / 8) (by omega) ?_
  obtain ⟨h0, h1⟩ := octet_getD ho (z - 1 - k / 8)
  rw [top_bits h0 h1, List.any_eq_true]
  refine ⟨k % 8, by simp; omega, ?_⟩
  rw [bitOn_mod, h, decide_eq_true (by omega)]
  rfl
theorem fitV_bits {A z : Nat} {b : Int} {l : List Int} (ho : Octets l) (hl : l.length = z) (hA : 8 * (z : Int) - b = A) (h : ∀ k : Nat, (k : Int) < 8 * (z : Int) → b ≤ k → bitOn k (l.getD (z - 1 - k / 8) 0) = false) : fitV A l = true := by
  refine fitV_yes fun j hj => ?_
  obtain ⟨h0, h1⟩ := octet_getD ho j
  rw [top_bits h0 h1, List.any_eq_false]
  intro t ht
  have ht8 : t < 8 := by simpa using ht
  by_cases h8 : 8 ≤ t + (A - 8 * j)
  · have := h (8 * (z - 1 - j) + t) (by omega) (by omega)
    rw [show z - 1 - (8 * (z - 1 - j) + t) / 8 = j by omega, ← bitOn_mod, show (8 * (z - 1 - j) + t) % 8 = t by omega] at this
    rw [this]
    simp
  · rw [decide_eq_false h8]
    simp
theorem getD_of {l : List Int} {k : Nat} {p : Int} (h : l[k]? = some p) : l.getD k 0 = p := by rw [List.getD_eq_getElem?_getD, h]; rfl
theorem upto_more {P : Nat → Prop} {k : Nat} (h : ∀ j, j < k → P j) (hk : P k) : ∀ j, j < k + 1 → P j := by
  intro j hj
  rcases Nat.lt_or_ge j k with h1 | h1
  · exact h j h1
  · obtain rfl : j = k := by omega
    exact hk

set_option maxRecDepth 100000 in
set_option maxHeartbeats 2000000 in
theorem fldFits_loop (n : Int) (f : Fld) (hf : fld n = f) (A : Nat) (hA : 8 * (f.z : Int) - f.b = A) (hb0 : 0 ≤ f.b) (hb1 : f.b ≤ 128) (l : List Int) (a : Option Addr) (c : Nat) (hl : l.length = f.z) (hz : f.z ≤ 16) (hin : 0 ≤ n ∧ n < 40) (w : World) (hI : Ints .u8 w a l) :
    Calls Tryd.prog 17 #[.int .i64 n, .slice a l.length c] w fun e w' => e = .returned (.bool (fitV A l)) ∧ Below w.heap.size w w' := by
  have HO := fldOf_any n w
  rw [hf, decide_eq_true hin] at HO
  unfold fldV at HO
  have HO := hid HO
  have hlz : (l.length : Int) = (f.z : Int) := by omega
  have hlen : ((l.length : Int) != (f.z : Int)) = false := by simp [hlz]
  have hI1 := hid hI
  have hz1 : (f.z : Int) ≤ 16 := by omega
  have hA1 := hid hA
  have hA2 : A ≤ 128 := by omega
  have hL := hid hl
  clear hf hin hI hl hA
  go_enter Tryd.func17, Tryd.ntmps17
  go_wp2_with fail
  refine HO.out.mono ?_
  rintro e w1 ⟨v, rfl, ⟨va, vc, rfl, hI⟩, hb⟩
  clear hI
  have HI := hid (hI1.out.below (hb.alloc hb.size (.cells #[.int .i64 f.b, .int .i64 f.z, .bool f.m, .int .i64 f.d, .slice va f.v.length vc] 25)))
  have HB := hid (hb.alloc hb.size (.cells #[.int .i64 f.b, .int .i64 f.z, .bool f.m, .int .i64 f.d, .slice va f.v.length vc] 25))
  clear hb
  go_wp2_with fail
  rw [hA1.out]
  go_loop [7, 32] (fun ab i => ∃ k : Nat, k ≤ l.length ∧ i = .int .i64 k ∧ ab = .int .i64 ((A - 8 * k : Nat) : Int) ∧ Hid (∀ j, j < k → topB (A - 8 * j) (l.getD j 0) = false)) (fun _ i => l.length - (intOf i).toNat)
  case atStart => exact ⟨0, by omega, rfl, by simp, fun j h => by omega⟩
  case round =>
    obtain ⟨k, hk, rfl, rfl, hall⟩ := hrel
    by_cases hlt : k < l.length
    · have hk2 : (k : Int) < (l.length : Int) := by omega
      obtain ⟨b1, o1, p, rfl, e1, g1⟩ := HI.out.at hlt
      have hp := getD_of g1.out
      obtain ⟨B, hB⟩ : ∃ B, A - 8 * k = B := ⟨_, rfl⟩
      have HB2 : Hid ((max ((B : Int) - 8) 0 : Int) = ((A - 8 * (k + 1) : Nat) : Int)) := by show _ = _; omega
      have hB3 : (B : Int) ≤ 128 := by omega
      cases hq : topB B p
      · have HN := hid (upto_more (P := fun j => topB (A - 8 * j) (l.getD j 0) = false) hall.out (by rw [hp, hB]; exact hq))
        have hq2 : (p / 2 ^ (8 - min (B : Int) 8).toNat != 0) = false := hq
        rw [hB]
        clear hq hp hB
        go_wp2_with fail
        go_round
        case rel => exact ⟨k + 1, by omega, by go_num, by rw [HB2.out], HN⟩
        case measure => simp [intOf]; omega
      · have HN := hid (fitV_no (A := A) hlt (by rw [hp, hB]; exact hq))
        have hq2 : (p / 2 ^ (8 - min (B : Int) 8).toNat != 0) = true := hq
        rw [hB]
        clear hq hp hB
        go_wp2_with fail
        go_ret
        exact ⟨ret_bool HN.out.symm, HB.out⟩
    · obtain rfl : k = l.length := by omega
      have HN := hid (fitV_yes hall.out)
      go_wp2_with fail
      go_ret
      exact ⟨ret_bool HN.out.symm, HB.out⟩

set_option maxRecDepth 100000 in
set_option maxHeartbeats 2000000 in
theorem refFits_loop (n : Int) (f : Fld) (hf : fld n = f) (A : Nat) (hA : 8 * (f.z : Int) - f.b = A) (hb0 : 0 ≤ f.b) (hb1 : f.b ≤ 8 * (f.z : Int)) (l : List Int) (ho : Octets l) (a : Option Addr) (c : Nat) (hl : l.length = f.z) (hz : f.z ≤ 16) (hin : 0 ≤ n ∧ n < 40) (w : World) (hI : Ints .u8 w a l) :
    Calls Tryd.prog 18 #[.int .i64 n, .slice a l.length c] w fun e w' => e = .returned (.bool (fitV A l)) ∧ Below w.heap.size w w' := by
  have HO := refOf_any n w
  rw [hf, decide_eq_true hin] at HO
  unfold refFldV at HO
  have HO := hid HO
  have hlz : (l.length : Int) = (f.z : Int) := by omega
  have hlen : ((l.length : Int) != (f.z : Int)) = false := by simp [hlz]
  have hI1 := hid hI
  have hz1 : (f.z : Int) ≤ 16 := by omega
  have hL := hid hl
  have hA1 := hid hA
  have hO := hid ho
  clear hf hin hI hl hA ho
  go_enter Tryd.func18, Tryd.ntmps18
  go_wp2_with fail
  refine HO.out.mono ?_
  rintro e w1 ⟨v, rfl, ⟨va, vc, rfl, hI⟩, hb⟩
  clear hI
  have hb2 := hb.alloc hb.size (.cells #[.string f.nm, .int .i64 f.b, .int .i64 f.z, .bool f.m, .int .i64 f.d, .slice va f.v.length vc] 29)
  have HI := hid (hI1.out.below hb2)
  have HB := hid hb2
  clear hb hb2
  go_wp2_with fail
  go_loop [7] (fun i => ∃ k : Nat, (k : Int) ≤ 8 * (f.z : Int) ∧ f.b ≤ (k : Int) ∧ i = .int .i64 k ∧ Hid (∀ j : Nat, (j : Int) < k → f.b ≤ j → bitOn j (l.getD (f.z - 1 - j / 8) 0) = false)) (fun i => 8 * f.z - (intOf i).toNat)
  case atStart => exact ⟨f.b.toNat, by omega, by omega, by rw [Int.toNat_of_nonneg hb0], fun j h1 h2 => by omega⟩
  case round =>
    obtain ⟨k, hk, hbk, rfl, hall⟩ := hrel
    by_cases hlt : (k : Int) < 8 * (f.z : Int)
    · have hx : f.z - 1 - k / 8 < l.length := by rw [hL.out]; omega
      obtain ⟨b1, o1, p, rfl, e1, g1⟩ := HI.out.at hx
      have hd : (f.z : Int) - 1 - (k : Int) / 8 = ((f.z - 1 - k / 8 : Nat) : Int) := by omega
      have hp := getD_of g1.out
      have hno := fun h => fitV_bit (b := f.b) hO.out hL.out hA1.out hlt hbk (by rw [hp]; exact h)
      have hyes : bitOn k p = false → ∀ j : Nat, (j : Int) < (k : Int) + 1 → f.b ≤ j → bitOn j (l.getD (f.z - 1 - j / 8) 0) = false := by
        intro h j h1 h2
        rcases Int.lt_or_le (j : Int) k with h3 | h3
        · exact hall.out j h3 h2
        · obtain rfl : j = k := by omega
          rw [hp]
          exact h
      obtain ⟨j, hj⟩ : ∃ j, f.z - 1 - k / 8 = j := ⟨_, rfl⟩
      rw [hj] at hx e1 hd
      have hj2 : (j : Int) < (l.length : Int) := by omega
      have HNO := hid hno
      have HYES := hid hyes
      clear hj hx hp g1 hno hyes
      cases hq : bitOn k p
      · have hq2 : (bits BinOp.and IntKind.u8 (p / 2 ^ (k % 8)) 1 == 1) = false := hq
        have HY := hid (HYES.out hq)
        clear hq
        go_wp2_with fail
        go_round
        case rel => exact ⟨k + 1, by omega, by omega, by go_num, fun j h1 h2 => HY.out j (by omega) h2⟩
        case measure => simp [intOf]; omega
      · have hq2 : (bits BinOp.and IntKind.u8 (p / 2 ^ (k % 8)) 1 == 1) = true := hq
        have HN := hid (HNO.out hq)
        clear hq
        go_wp2_with fail
        go_ret
        exact ⟨ret_bool HN.out.symm, HB.out⟩
    · have HN := hid (fitV_bits (b := f.b) hO.out hL.out hA1.out (fun j h1 h2 => hall.out j (by omega) h2))
      go_wp2_with fail
      go_ret
      exact ⟨ret_bool HN.out.symm, HB.out⟩
end Go.Proofs.YtehgjenmcjgpnaaDoor
