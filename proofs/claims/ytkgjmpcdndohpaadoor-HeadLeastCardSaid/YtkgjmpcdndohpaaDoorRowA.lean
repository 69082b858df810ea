/- Contracts of package row and of the document's rows: Right. -/
import Derived.Test.YtkgjmpcdndohpaaDoorBase
namespace Go.Proofs.YtkgjmpcdndohpaaDoor
open Go.RowKit

/-- one width -/
def isW (n : Int) : Bool := (decide (0 < n) && decide (n ≤ 8)) || (decide (n < 0) && decide (-64 ≤ n))
/-- all widths -/
def allW (l : List Int) : Bool := l.all isW
def rightW (l : List Int) : Bool := decide (l.length ≤ 64) && allW l

theorem isWidth_any (n : Int) (w : World) : Calls Tryd.prog 53 #[.int .i64 n] w fun e w' => e = .returned (.bool (isW n)) ∧ w = w' := by
  by_cases h1 : 0 < n <;> by_cases h2 : n ≤ 8 <;> by_cases h3 : n < 0 <;> by_cases h4 : -64 ≤ n <;> (try (exfalso; omega)) <;>
  · go_enter Tryd.func53, Tryd.ntmps53
    go_wp2
    go_ret
    exact ⟨by simp [isW, *], rfl⟩

theorem all_take_succ {l : List Int} {k : Nat} {x : Int} (h : l[k]? = some x) (hp : allW (l.take k) = true) (hk : isW x = true) : allW (l.take (k + 1)) = true := by
  unfold allW at *
  rw [List.take_add_one, List.all_append, hp, h]
  simp [hk]

theorem allW_false {l : List Int} {k : Nat} {x : Int} (h : l[k]? = some x) (hk : isW x = false) : allW l = false := by
  unfold allW
  rw [List.all_eq_false]
  exact ⟨x, List.mem_of_getElem? h, by simp [hk]⟩

theorem right_any (l : List Int) (a : Option Addr) (cap : Nat) (w : World) (hm : l.length ≤ 9223372036854775807) (hc : Ints .i64 w a l) :
    Calls Tryd.prog 44 #[.slice a l.length cap] w fun e w' => e = .returned (.bool (rightW l)) ∧ w = w' := by
  by_cases h64 : 64 < l.length
  · go_enter Tryd.func44, Tryd.ntmps44
    go_wp2
    go_ret
    exact ⟨ret_bool (by unfold rightW; simp; intro h; omega), rfl⟩
  · go_enter Tryd.func44, Tryd.ntmps44
    go_wp2
    go_loop [9] (fun i => ∃ k : Nat, k ≤ l.length ∧ i = .int .i64 k ∧ Hid (allW (l.take k) = true)) (fun i => l.length - (intOf i).toNat)
    case atStart => exact ⟨0, Nat.zero_le _, rfl, by simp [allW, Hid]⟩
    case round =>
      obtain ⟨k, hk, rfl, hp⟩ := hrel
      by_cases hlt : k < l.length
      · obtain ⟨b, off, x, rfl, hcell, hx⟩ := hc.at hlt
        cases hw : isW x
        · go_wp2_with (go_at_call 53; refine (isWidth_any _ _).mono ?_; rintro e w' ⟨rfl, rfl⟩)
          go_ret
          exact ⟨ret_bool (by unfold rightW; rw [allW_false hx.out hw]; simp), rfl⟩
        · go_wp2_with (go_at_call 53; refine (isWidth_any _ _).mono ?_; rintro e w' ⟨rfl, rfl⟩)
          go_round
          case rel => exact ⟨k + 1, by omega, by go_num, all_take_succ hx.out hp.out hw⟩
          case measure => simp [intOf]; omega
      · go_wp2
        go_ret
        exact ⟨ret_bool (by unfold rightW; simp; refine ⟨by omega, ?_⟩; have := hp.out; rwa [List.take_of_length_le (by omega)] at this), rfl⟩
end Go.Proofs.YtkgjmpcdndohpaaDoor
