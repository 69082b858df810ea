/- Package fault: the pair of an error. -/
import Derived.Test.YtlglgkigcompdaaDoorFltA
namespace Go.Proofs.YtlglgkigcompdaaDoor
open Go.RowKit

/-- whether an error has a type and a code, and these -/
def pairB (e : Int) : Bool := decide (0 < e ∧ (e - 1) % 256 < codesL ((e - 1) / 256))
def pairT (e : Int) : Int := if pairB e then (e - 1) / 256 else 0
def pairC (e : Int) : Int := if pairB e then (e - 1) % 256 else 0

theorem pair_any (e : Int) (h0 : -9223372036854775808 ≤ e) (h1 : e ≤ 9223372036854775807) (w : World) :
    Calls Tryd.prog 8 #[.int .i64 e] w fun x w' => x = .returned (.tuple #[.int .i64 (pairT e), .int .i64 (pairC e), .bool (pairB e)]) ∧ w = w' := by
  rcases Int.lt_or_le 0 e with hp | hp
  · have q1 : (e - 1).tdiv 256 = (e - 1) / 256 := Int.tdiv_eq_ediv_of_nonneg (by omega)
    have q2 : (e - 1).tmod 256 = (e - 1) % 256 := Int.tmod_eq_emod_of_nonneg (by omega)
    have b1 : 0 ≤ (e - 1) / 256 ∧ (e - 1) / 256 ≤ 9223372036854775807 := by omega
    have b2 : 0 ≤ (e - 1) % 256 ∧ (e - 1) % 256 ≤ 255 := by omega
    rcases Int.lt_or_le ((e - 1) % 256) (codesL ((e - 1) / 256)) with hc | hc
    · have eB : pairB e = true := by unfold pairB; simp; omega
      have E := hid eB
      unfold pairT pairC
      rw [eB]
      clear eB
      obtain ⟨t, ht⟩ : ∃ t, (e - 1) / 256 = t := ⟨_, rfl⟩
      obtain ⟨c, hc'⟩ : ∃ c, (e - 1) % 256 = c := ⟨_, rfl⟩
      rw [ht] at q1 b1 hc ⊢
      rw [hc'] at q2 b2 hc ⊢
      clear ht hc'
      go_enter Tryd.func8, Tryd.ntmps8
      go_wp2_with (go_at_call 10; refine (codes_any _ _).mono ?_; rintro e w' ⟨rfl, rfl⟩)
      go_ret3
      exact ⟨rfl, rfl⟩
    · have eB : pairB e = false := by unfold pairB; simp; omega
      unfold pairT pairC
      rw [eB]
      clear eB
      obtain ⟨t, ht⟩ : ∃ t, (e - 1) / 256 = t := ⟨_, rfl⟩
      obtain ⟨c, hc'⟩ : ∃ c, (e - 1) % 256 = c := ⟨_, rfl⟩
      rw [ht] at q1 b1 hc
      rw [hc'] at q2 b2 hc
      clear ht hc'
      go_enter Tryd.func8, Tryd.ntmps8
      go_wp2_with (go_at_call 10; refine (codes_any _ _).mono ?_; rintro e w' ⟨rfl, rfl⟩)
      go_ret3
      exact ⟨rfl, rfl⟩
  · have eB : pairB e = false := by unfold pairB; simp; omega
    unfold pairT pairC
    rw [eB]
    clear eB
    go_enter Tryd.func8, Tryd.ntmps8
    go_wp2
    go_ret3
    exact ⟨rfl, rfl⟩
end Go.Proofs.YtlglgkigcompdaaDoor
