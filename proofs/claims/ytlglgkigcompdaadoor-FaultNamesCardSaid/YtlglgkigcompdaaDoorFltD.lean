/- The document's faults: the error of a pair, the pair of an error. -/
import Derived.Test.YtlglgkigcompdaaDoorFltC
namespace Go.Proofs.YtlglgkigcompdaaDoor
open Go.RowKit

theorem refMake_any (t c : Int) (w : World) :
    Calls Tryd.prog 7 #[.int .i64 t, .int .i64 c] w fun e w' => e = .returned (.tuple #[.int .i64 (makeL t c), .bool (madeL t c)]) ∧ Below w.heap.size w w' := by
  rcases Int.lt_or_le c 0 with h0 | h0
  · have e1 : makeL t c = 0 := by unfold makeL; rw [if_neg (by omega)]
    have e2 : madeL t c = false := by unfold madeL; simp; omega
    rw [e1, e2]
    clear e1 e2
    go_enter Tryd.func7, Tryd.ntmps7
    go_wp2
    go_ret2
    exact ⟨rfl, by repeat (first | exact Below.refl _ _ | refine Below.drew ?_ | refine Below.alloc ?_ (by simp) _)⟩
  · rcases Int.lt_or_le c (codesL t) with h1 | h1
    · have e1 : makeL t c = 256 * t + c + 1 := by unfold makeL; rw [if_pos (by omega)]
      have e2 : madeL t c = true := by unfold madeL; simp; omega
      rw [e1, e2]
      clear e1 e2
      obtain ⟨b0, b1, b2⟩ := codesL_in h0 h1
      go_enter Tryd.func7, Tryd.ntmps7
      go_wp2_with (go_at_call 11; refine (refCodes_any _ _).mono ?_; rintro e w' ⟨rfl, hb⟩)
      go_ret2
      exact ⟨by congr, hb⟩
    · have e1 : makeL t c = 0 := by unfold makeL; rw [if_neg (by omega)]
      have e2 : madeL t c = false := by unfold madeL; simp; omega
      rw [e1, e2]
      clear e1 e2
      go_enter Tryd.func7, Tryd.ntmps7
      go_wp2_with (go_at_call 11; refine (refCodes_any _ _).mono ?_; rintro e w' ⟨rfl, hb⟩)
      go_ret2
      exact ⟨rfl, hb⟩

/-- among the pairs ahead of (t, c) none is of the error e -/
def Not (e t c : Int) : Prop := (∀ a b, 0 ≤ a → a < t → 0 ≤ b → b < codesL a → 256 * a + b + 1 ≠ e) ∧ ∀ b, 0 ≤ b → b < c → 256 * t + b + 1 ≠ e

theorem pair_found {t c : Int} (h0 : 0 ≤ c) (h1 : c < codesL t) : pairB (256 * t + c + 1) = true ∧ pairT (256 * t + c + 1) = t ∧ pairC (256 * t + c + 1) = c := by
  obtain ⟨b0, b1, b2⟩ := codesL_in h0 h1
  have e1 : (256 * t + c + 1 - 1) / 256 = t := by omega
  have e2 : (256 * t + c + 1 - 1) % 256 = c := by omega
  have : pairB (256 * t + c + 1) = true := by unfold pairB; rw [e1, e2]; simp; omega
  unfold pairT pairC
  rw [this, e1, e2]
  simp
theorem pair_none {e : Int} (h : Not e 14 0) : pairB e = false := by
  cases hb : pairB e
  · rfl
  · exfalso
    unfold pairB at hb
    simp at hb
    obtain ⟨hp, hc⟩ := hb
    have hm : 0 ≤ (e - 1) % 256 := by omega
    obtain ⟨b0, b1, _⟩ := codesL_in hm hc
    exact h.1 _ _ b0 (by omega) hm hc (by omega)

theorem refPair_any (e : Int) (w : World) :
    Calls Tryd.prog 9 #[.int .i64 e] w fun x w' => x = .returned (.tuple #[.int .i64 (pairT e), .int .i64 (pairC e), .bool (pairB e)]) ∧ Below w.heap.size w w' := by
  go_enter Tryd.func9, Tryd.ntmps9
  go_wp2
  go_loopw [5] (fun t wr => ∃ k : Nat, k ≤ 14 ∧ t = .int .i64 k ∧ Hid (Not e k 0) ∧ Below w.heap.size w wr) (fun t _ => 14 - (intOf t).toNat)
  case atStart => exact ⟨0, by omega, rfl, ⟨fun a b h h' => by simp at h'; omega, fun b h h' => by omega⟩, Below.refl _ _⟩
  case round =>
    obtain ⟨k, hk, rfl, hn, hb⟩ := hrel
    by_cases hlt : k < 14
    · have hd : decide ((k : Int) < 14) = true := by simp; omega
      go_wp2
      go_loopw [6] (fun c wx => ∃ j : Nat, j ≤ 16 ∧ c = .int .i64 j ∧ Hid (Not e k j) ∧ Below w.heap.size w wx) (fun c _ => 16 - (intOf c).toNat)
      case atStart => exact ⟨0, by omega, rfl, hn, hb⟩
      case round =>
        obtain ⟨j, hj, rfl, hm, hb2⟩ := hrel
        by_cases hc : (j : Int) < codesL k
        · have hj16 := (codesL_in (by omega) hc).2.2
          by_cases he : 256 * (k : Int) + j + 1 = e
          · obtain ⟨p1, p2, p3⟩ := pair_found (t := k) (c := j) (by omega) hc
            have ee : (256 * (k : Int) + j + 1 == e) = true := by simp [he]
            rw [he] at p1 p2 p3
            have P1 := hid p1
            have P2 := hid p2
            have P3 := hid p3
            clear p1 p2 p3 he
            go_wp2_with (go_at_call 11; refine (refCodes_any _ _).mono ?_; rintro e w' ⟨rfl, hb3⟩)
            go_ret3
            exact ⟨by rw [P1.out, P2.out, P3.out]; rfl, hb2.trans (hb3.mono hb2.size)⟩
          · have ee : (256 * (k : Int) + j + 1 == e) = false := by simp [he]
            have hm' : Not e k (j + 1 : Nat) := by
              refine ⟨hm.out.1, fun b h h' => ?_⟩
              rcases Int.lt_or_le b j with h2 | h2
              · exact hm.out.2 b h h2
              · obtain rfl : b = j := by omega
                exact he
            have HM := hid hm'
            clear hm' he
            go_wp2_with (go_at_call 11; refine (refCodes_any _ _).mono ?_; rintro e w' ⟨rfl, hb3⟩)
            go_roundw
            case rel => exact ⟨j + 1, by omega, by go_num, HM, hb2.trans (hb3.mono hb2.size)⟩
            case measure => simp [intOf]; omega
        · have hn' : Not e (k + 1 : Nat) 0 := by
            refine ⟨fun a b h h' g g' => ?_, fun b h h' => by omega⟩
            rcases Int.lt_or_le a k with h2 | h2
            · exact hm.out.1 a b h h2 g g'
            · obtain rfl : a = k := by omega
              exact hm.out.2 b g (by omega)
          have HN := hid hn'
          clear hn'
          go_wp2_with (go_at_call 11; refine (refCodes_any _ _).mono ?_; rintro e w' ⟨rfl, hb3⟩)
          go_roundw
          case rel => exact ⟨k + 1, by omega, by go_num, HN, hb2.trans (hb3.mono hb2.size)⟩
          case measure => simp [intOf]; omega
    · obtain rfl : k = 14 := by omega
      have P1 := hid (pair_none hn.out)
      go_wp2
      go_ret3
      exact ⟨by unfold pairT pairC; rw [P1.out]; rfl, hb⟩
end Go.Proofs.YtlglgkigcompdaaDoor
