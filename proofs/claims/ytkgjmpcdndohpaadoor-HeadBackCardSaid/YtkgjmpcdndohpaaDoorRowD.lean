/- Contracts of package row and of the document's rows: numbers as bytes, bytes as numbers. -/
import Derived.Test.YtkgjmpcdndohpaaDoorRowC
import Derived.Test.YtkgjmpcdndohpaaDoorNum
import Derived.Test.YtkgjmpcdndohpaaDoorApp
namespace Go.Proofs.YtkgjmpcdndohpaaDoor
open Go.RowKit

theorem elemU8 : Elem Tryd.prog 25 5 (.int .u8 0) 1 := ⟨by kernel_rfl, by kernel_rfl, rfl⟩
theorem elemU64 : Elem Tryd.prog 55 51 (.int .u64 0) 8 := ⟨by kernel_rfl, by kernel_rfl, rfl⟩
theorem underInt : Tryd.prog.underlying 3 = some (.int .i64) := by kernel_rfl

theorem number_any (l : List Int) (a : Option Addr) (cap : Nat) (w : World) (hm : l.length ≤ 8) (ho : Octets l) (hc : Ints .u8 w a l) :
    Calls Tryd.prog 51 #[.slice a l.length cap] w fun e w' => e = .returned (.int .u64 (numL l)) ∧ w = w' := by
  go_enter Tryd.func51, Tryd.ntmps51
  go_wp2
  go_loop [3, 8] (fun s i => ∃ k : Nat, k ≤ l.length ∧ i = .int .i64 k ∧ s = .int .u64 (numL (l.take k))) (fun _ i => l.length - (intOf i).toNat)
  case atStart => exact ⟨0, Nat.zero_le _, rfl, rfl⟩
  case round =>
    obtain ⟨k, hk, rfl, rfl⟩ := hrel
    by_cases hlt : k < l.length
    · obtain ⟨b, off, x, rfl, hcell, hx⟩ := hc.at hlt
      obtain ⟨x1, x2⟩ := ho.get hx.out
      obtain ⟨n1, n2⟩ := numL_bound7 ho (k := k) (by omega)
      have hs := hid (numL_succ hx.out)
      have hor := hid (or_low _ _ n1 n2 x1 x2)
      go_wp2
      go_round
      case rel => exact ⟨k + 1, by omega, by go_num, by rw [hs.out, hor.out]⟩
      case measure => simp [intOf]; omega
    · have e : numL (l.take k) = numL l := by rw [List.take_of_length_le (by omega)]
      have E := hid e
      clear e
      go_wp2
      go_ret
      exact ⟨ret_int (by rw [E.out]), rfl⟩

theorem value_any (l : List Int) (a : Option Addr) (cap : Nat) (w : World) (hm : l.length ≤ 8) (ho : Octets l) (hc : Ints .u8 w a l) :
    Calls Tryd.prog 43 #[.slice a l.length cap] w fun e w' => e = .returned (.int .u64 (numL l)) ∧ w = w' := by
  go_enter Tryd.func43, Tryd.ntmps43
  go_wp2
  go_loop [3, 4] (fun s i => ∃ k : Nat, k ≤ l.length ∧ i = .int .i64 k ∧ s = .int .u64 (numL (l.take k))) (fun _ i => l.length - (intOf i).toNat)
  case atStart => exact ⟨0, Nat.zero_le _, rfl, rfl⟩
  case round =>
    obtain ⟨k, hk, rfl, rfl⟩ := hrel
    by_cases hlt : k < l.length
    · obtain ⟨b, off, x, rfl, hcell, hx⟩ := hc.at hlt
      obtain ⟨x1, x2⟩ := ho.get hx.out
      obtain ⟨n1, n2⟩ := numL_bound7 ho (k := k) (by omega)
      have hs := hid (numL_succ hx.out)
      go_wp2
      go_round
      case rel => exact ⟨k + 1, by omega, by go_num, by rw [hs.out]⟩
      case measure => simp [intOf]; omega
    · have e : numL (l.take k) = numL l := by rw [List.take_of_length_le (by omega)]
      have E := hid e
      clear e
      go_wp2
      go_ret
      exact ⟨ret_int (by rw [E.out]), rfl⟩

/-- has n room in x bytes? -/
def roomB (n x : Int) : Bool := decide (n < p256 x.toNat)

theorem room_shift {n x : Int} (h0 : 0 ≤ n) (h1 : 1 ≤ x) : (n / 2 ^ (8 * x).toNat == 0) = roomB n x := by
  obtain ⟨k, rfl⟩ := Int.eq_ofNat_of_zero_le (show 0 ≤ x by omega)
  have e : (8 * (k : Int)).toNat = 8 * k := by omega
  rw [e, two_pow_p256, Bool.eq_iff_iff, beq_iff_eq]
  unfold roomB
  rw [decide_eq_true_iff, Int.toNat_natCast]
  have hp := p256_pos k
  constructor
  · intro h
    have := Int.mul_ediv_add_emod n (p256 k)
    have h2 := Int.emod_lt_of_pos n hp
    rw [h, Int.mul_zero] at this
    omega
  · intro h; exact Int.ediv_eq_zero_of_lt h0 h

theorem p256_8 : p256 8 = 18446744073709551616 := by decide

theorem fits_shift {n x : Int} (h8 : n < p256 8) (h1 : 1 ≤ x) (h2 : x ≤ 8) : (x == 8 || decide (n < IntKind.u64.wrap (2 ^ (8 * x).toNat))) = roomB n x := by
  obtain ⟨k, rfl⟩ := Int.eq_ofNat_of_zero_le (show 0 ≤ x by omega)
  have e : (8 * (k : Int)).toNat = 8 * k := by omega
  rw [e, two_pow_p256]
  unfold roomB
  rw [Int.toNat_natCast]
  by_cases hk : k = 8
  · subst hk; simp [h8]
  · have e1 : ((k : Int) == 8) = false := by simp; omega
    have hlt : p256 k ≤ p256 7 := p256_mono (by omega)
    have hp := p256_pos k
    rw [p256_7] at hlt
    have e2 : IntKind.u64.wrap (p256 k) = p256 k := by
      simp only [IntKind.wrap, IntKind.bits, IntKind.signed]
      simp
      omega
    rw [e1, e2]
    rfl

theorem hasRoom_any (n x : Int) (w : World) (h0 : 0 ≤ n) (h1 : 1 ≤ x) (h2 : x ≤ 8) :
    Calls Tryd.prog 48 #[.int .u64 n, .int .i64 x] w fun e w' => e = .returned (.bool (roomB n x)) ∧ w = w' := by
  have E := hid (room_shift h0 h1)
  go_enter Tryd.func48, Tryd.ntmps48
  go_wp2
  go_ret
  exact ⟨ret_bool E.out, rfl⟩

theorem fits_any (n x : Int) (w : World) (h8 : n < p256 8) (h1 : 1 ≤ x) (h2 : x ≤ 8) :
    Calls Tryd.prog 34 #[.int .u64 n, .int .i64 x] w fun e w' => e = .returned (.bool (roomB n x)) ∧ w = w' := by
  have E := hid (fits_shift h8 h1 h2)
  clear h8
  by_cases hx : x = 8
  · have e1 : (x == 8) = true := by simp [hx]
    rw [e1] at E
    clear hx
    go_enter Tryd.func34, Tryd.ntmps34
    go_wp2
    go_ret
    exact ⟨ret_bool E.out, rfl⟩
  · have e1 : (x == 8) = false := by simp [hx]
    rw [e1] at E
    clear hx
    go_enter Tryd.func34, Tryd.ntmps34
    go_wp2
    go_ret
    exact ⟨ret_bool E.out, rfl⟩

theorem shift_byte (n : Int) (k : Nat) : IntKind.u8.wrap (n / 2 ^ (8 * k)) = byteAt n k := by rw [wrap_u8, two_pow_p256]; rfl

theorem appendNumber_any (n : Int) (x : Nat) (v : Value) (xs : List Value) (w : World) (h2 : x ≤ 8) (hx : xs.length ≤ 65536)
    (hown : w.ownsRow 0 5 1 v xs.length xs) :
    Calls Tryd.prog 49 #[v, .int .u64 n, .int .i64 x] w fun e w' => ∃ v', e = .returned v' ∧ Grew 5 w w' v v' (xs ++ (bytesL n x).map (Value.int .u8)) := by
  go_enter Tryd.func49, Tryd.ntmps49
  go_wp2
  go_loopw [0, 9] (fun u i wr => ∃ k : Nat, k ≤ x ∧ i = .int .i64 k ∧ Grew 5 w wr v u (xs ++ ((bytesL n x).take k).map (Value.int .u8))) (fun _ i _ => x - (intOf i).toNat)
  case atStart => exact ⟨0, Nat.zero_le _, rfl, by simpa using Grew.refl hown⟩
  case round =>
    obtain ⟨k, hk, rfl, hg⟩ := hrel
    by_cases hlt : k < x
    · have hL : (xs ++ ((bytesL n x).take k).map (Value.int .u8)).length ≤ 65600 := by have := bytesL_length n x; simp; omega
      have hT : Hid ((xs ++ ((bytesL n x).take k).map (Value.int .u8)) ++ [n / 2 ^ (8 * (x - 1 - k)) % 256].map (Value.int .u8) = xs ++ ((bytesL n x).take (k + 1)).map (Value.int .u8)) := by
        unfold Hid
        rw [bytesL_succ hlt, List.append_assoc, ← List.map_append]
        unfold byteAt
        rw [two_pow_p256]
      go_wp2_with (at_builtin; refine wp_app rfl _ _ rfl elemU8 rfl (hg.own.alloc _) (k := .u8) (l := [n / 2 ^ (8 * (x - 1 - k)) % 256]) rfl rfl (ints_one _ _ _ _) ?_ ?_ ?_; (simp only [List.length_singleton]; omega); (simp only [List.length_singleton]; omega); intro v' w' hg')
      have hg2 := hg.trans (hg'.ahead (by_none_alloc _ _))
      rw [hT.out] at hg2
      clear hg hg' hL
      go_roundw
      case rel => exact ⟨k + 1, by omega, by go_num, hg2⟩
      case measure => simp [intOf]; omega
    · have e : (bytesL n x).take k = bytesL n x := by rw [List.take_of_length_le]; rw [bytesL_length]; omega
      rw [e] at hg
      go_wp2
      go_ret
      exact ⟨_, rfl, hg⟩

theorem num_rel {n : Int} {x i : Nat} (h : i < x) : ((List.replicate (x - i) (0 : Int) ++ bytesL n i).map (Value.int .u8)).set (x - 1 - i) (.int .u8 (n / 2 ^ (8 * i) % 256)) = (List.replicate (x - (i + 1)) (0 : Int) ++ bytesL n (i + 1)).map (Value.int .u8) := by
  rw [two_pow_p256, show n / p256 i % 256 = byteAt n i from rfl, ← List.map_set, List.set_append_left _ _ (by simp; omega)]
  congr 1
  obtain ⟨m, hm⟩ : ∃ m, x - i = m + 1 := ⟨x - i - 1, by omega⟩
  rw [show x - 1 - i = m from by omega, show x - (i + 1) = m from by omega, hm, List.replicate_succ', List.set_append_right _ _ (by simp)]
  simp [bytesL]

theorem num_any (n : Int) (x : Nat) (w : World) (h2 : x ≤ 8) :
    Calls Tryd.prog 35 #[.int .u64 n, .int .i64 x] w fun e w' => ∃ v', e = .returned v' ∧ Fresh 5 w w' v' ((bytesL n x).map (Value.int .u8)) := by
  go_enter Tryd.func35, Tryd.ntmps35
  go_wp2_with (at_make; refine wp_make rfl _ _ rfl elemU8 rfl rfl rfl rfl (Nat.le_refl _) (by omega) (by omega) ?_; intro w1 hf)
  go_loopw [6] (fun i wr => ∃ k : Nat, k ≤ x ∧ i = .int .i64 k ∧ wr.ownsRow 0 5 1 (.slice (some ⟨w.heap.size, 0, none⟩) x x) x ((List.replicate (x - k) (0 : Int) ++ bytesL n k).map (Value.int .u8)) ∧ Below w.heap.size w wr) (fun i _ => x - (intOf i).toNat)
  case atStart => exact ⟨0, Nat.zero_le _, rfl, by simpa [bytesL] using hf.own, hf.bel⟩
  case round =>
    obtain ⟨k, hk, rfl, hown, hb⟩ := hrel
    by_cases hlt : k < x
    · obtain ⟨old, hold⟩ : ∃ old, wr.cell? ⟨w.heap.size, x - 1 - k, none⟩ = some old := by
        rw [hown.cellAt _ (by omega)]
        have : x - 1 - k < ((List.replicate (x - k) (0 : Int) ++ bytesL n k).map (Value.int .u8)).length := by rw [hown.1]; omega
        exact ⟨_, List.getElem?_eq_getElem this⟩
      have hfr := hown.frozenAt (x - 1 - k)
      have hst := hown.stored (x - 1 - k) (.int .u8 (n / 2 ^ (8 * k) % 256))
      rw [num_rel hlt] at hst
      have HS := hid hst
      clear hst hown hf
      have hi : (x : Int) - 1 - k < (x : Int) := by omega
      go_wp2
      go_roundw
      case rel => exact ⟨k + 1, by omega, by go_num, HS.out.1, hb.setCell (Nat.le_refl _) _⟩
      case measure => simp [intOf]; omega
    · obtain rfl : k = x := by omega
      rw [Nat.sub_self, List.replicate_zero, List.nil_append] at hown
      have e : ((bytesL n k).map (Value.int .u8)).length = k := by rw [List.length_map, bytesL_length]
      clear hf hlt
      go_wp2
      go_ret
      exact ⟨_, rfl, by rw [e]; exact hown, hb, by simp [Value.ownBlock]⟩
end Go.Proofs.YtkgjmpcdndohpaaDoor
