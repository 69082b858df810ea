/- Contracts of package row and of the document's rows: bytes and numbers held against one another; all zero. -/
import Derived.Test.YtkgjmpcdndohpaaDoorRowB
import Derived.Deep.QuietTactic
import Derived.BigQuiet
namespace Go.Proofs.YtkgjmpcdndohpaaDoor
open Go.RowKit

theorem take_succ_eq {l m : List Int} {k : Nat} {x : Int} (hp : l.take k = m.take k) (hx : l[k]? = some x) (hy : m[k]? = some x) : l.take (k + 1) = m.take (k + 1) := by
  rw [List.take_add_one, List.take_add_one, hp, hx, hy]
theorem ne_of_get {l m : List Int} {k : Nat} {x y : Int} (hx : l[k]? = some x) (hy : m[k]? = some y) (h : x ≠ y) : (l == m) = false := by
  rw [beq_eq_false_iff_ne]
  rintro rfl
  rw [hx] at hy
  exact h (by simpa using hy)
theorem ne_of_len {l m : List Int} (h : l.length ≠ m.length) : (l == m) = false := by
  rw [beq_eq_false_iff_ne]
  rintro rfl
  exact h rfl

theorem bytes_any (l m : List Int) (a b : Option Addr) (c d : Nat) (w : World) (hl : l.length ≤ 9223372036854775807) (hm : m.length ≤ 9223372036854775807) (hc : Ints .u8 w a l) (hd : Ints .u8 w b m) :
    Calls Tryd.prog 13 #[.slice a l.length c, .slice b m.length d] w fun e w' => e = .returned (.bool (l == m)) ∧ ∃ n, w.drewN n = w' := by
  by_cases hlen : l.length = m.length
  · have HL := hid hlen
    have e0 : ((l.length : Int) != (m.length : Int)) = false := by simp; omega
    clear hlen
    go_enter Tryd.func13, Tryd.ntmps13
    go_wp2
    go_loopw [5] (fun i wr => ∃ k n : Nat, k ≤ l.length ∧ i = .int .i64 k ∧ Hid (l.take k = m.take k) ∧ wr = w.drewN n) (fun i _ => l.length - (intOf i).toNat)
    case atStart => exact ⟨0, 0, Nat.zero_le _, rfl, by simp [Hid], rfl⟩
    case round =>
      obtain ⟨k, n, hk, rfl, hp, rfl⟩ := hrel
      by_cases hlt : k < l.length
      · obtain ⟨b1, off1, x, rfl, hcell1, hx⟩ := hc.at hlt
        have hlt2 : k < m.length := by have := HL.out; omega
        obtain ⟨b2, off2, y, rfl, hcell2, hy⟩ := hd.at hlt2
        have i1 : (k : Int) < (l.length : Int) := by omega
        have i2 : (k : Int) < (m.length : Int) := by omega
        by_cases hxy : x = y
        · subst hxy
          go_wp2
          go_quiet (fail)
          go_wp2
          go_roundw
          case rel => exact ⟨k + 1, _, by omega, by go_num, take_succ_eq hp.out hx.out hy.out, rfl⟩
          case measure => simp [intOf]; omega
        · have E := hid (ne_of_get hx.out hy.out hxy)
          have e1 : (x != y) = true := by simp; omega
          clear hxy
          go_wp2
          go_quiet (fail)
          go_wp2
          go_ret
          exact ⟨ret_bool E.out.symm, _, by first | rfl | exact (World.drewN_drewN _ _ _).symm⟩
      · have E : Hid ((l == m) = true) := by
          have := hp.out
          rw [List.take_of_length_le (by omega), List.take_of_length_le (by have := HL.out; omega)] at this
          subst this
          simp [Hid]
        go_wp2
        go_ret
        exact ⟨ret_bool E.out.symm, _, by first | rfl | exact (World.drewN_drewN _ _ _).symm⟩
  · have E := hid (ne_of_len hlen)
    have e0 : ((l.length : Int) != (m.length : Int)) = true := by simp; omega
    clear hlen
    go_enter Tryd.func13, Tryd.ntmps13
    go_wp2
    go_ret
    exact ⟨ret_bool E.out.symm, 0, rfl⟩

/-- all bytes are 0 -/
def zeros (l : List Int) : Bool := l.all (fun x => x == 0)
theorem zeros_succ {l : List Int} {k : Nat} {x : Int} (h : l[k]? = some x) (hp : zeros (l.take k) = true) (hk : x = 0) : zeros (l.take (k + 1)) = true := by
  unfold zeros at *
  rw [List.take_add_one, List.all_append, hp, h]
  simp [hk]
theorem zeros_false {l : List Int} {k : Nat} {x : Int} (h : l[k]? = some x) (hk : x ≠ 0) : zeros l = false := by
  unfold zeros
  rw [List.all_eq_false]
  exact ⟨x, List.mem_of_getElem? h, by simpa using hk⟩

theorem allZero_any (l : List Int) (a : Option Addr) (cap : Nat) (w : World) (hm : l.length ≤ 9223372036854775807) (hc : Ints .u8 w a l) :
    Calls Tryd.prog 52 #[.slice a l.length cap] w fun e w' => e = .returned (.bool (zeros l)) ∧ w = w' := by
  go_enter Tryd.func52, Tryd.ntmps52
  go_wp2
  go_loop [7] (fun i => ∃ k : Nat, k ≤ l.length ∧ i = .int .i64 k ∧ Hid (zeros (l.take k) = true)) (fun i => l.length - (intOf i).toNat)
  case atStart => exact ⟨0, Nat.zero_le _, rfl, by simp [zeros, Hid]⟩
  case round =>
    obtain ⟨k, hk, rfl, hp⟩ := hrel
    by_cases hlt : k < l.length
    · obtain ⟨b, off, x, rfl, hcell, hx⟩ := hc.at hlt
      by_cases h0 : x = 0
      · have Z := hid (zeros_succ hx.out hp.out h0)
        subst h0
        go_wp2
        go_round
        case rel => exact ⟨k + 1, by omega, by go_num, Z⟩
        case measure => simp [intOf]; omega
      · have Z := hid (zeros_false hx.out h0)
        have e0 : (x != 0) = true := by simp; omega
        clear h0
        go_wp2
        go_ret
        exact ⟨ret_bool Z.out.symm, rfl⟩
    · have Z : Hid (zeros l = true) := by have := hp.out; rwa [List.take_of_length_le (by omega)] at this
      go_wp2
      go_ret
      exact ⟨ret_bool Z.out.symm, rfl⟩
end Go.Proofs.YtkgjmpcdndohpaaDoor
