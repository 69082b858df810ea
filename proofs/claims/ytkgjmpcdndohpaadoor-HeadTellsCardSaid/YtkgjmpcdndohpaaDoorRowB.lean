/- Contracts of package row and of the document's rows: Right, Size, Count. -/
import Derived.Test.YtkgjmpcdndohpaaDoorRowA
namespace Go.Proofs.YtkgjmpcdndohpaaDoor
open Go.RowKit

theorem refRight_any (l : List Int) (a : Option Addr) (cap : Nat) (w : World) (hm : l.length ≤ 9223372036854775807) (hc : Ints .i64 w a l) :
    Calls Tryd.prog 32 #[.slice a l.length cap] w fun e w' => e = .returned (.bool (rightW l)) ∧ w = w' := by
  go_enter Tryd.func32, Tryd.ntmps32
  go_wp2
  go_loop [3] (fun i => ∃ k : Nat, k ≤ l.length ∧ i = .int .i64 k ∧ Hid (allW (l.take k) = true)) (fun i => l.length - (intOf i).toNat)
  case atStart => exact ⟨0, Nat.zero_le _, rfl, by simp [allW, Hid]⟩
  case round =>
    obtain ⟨k, hk, rfl, hp⟩ := hrel
    by_cases hlt : k < l.length
    · obtain ⟨b, off, x, rfl, hcell, hx⟩ := hc.at hlt
      have bad : isW x = false → rightW l = false := fun h => by unfold rightW; rw [allW_false hx.out h]; simp
      have good : isW x = true → allW (l.take (k + 1)) = true := fun h => all_take_succ hx.out hp.out h
      rcases (show x = 0 ∨ 8 < x ∨ x < -64 ∨ (0 < x ∧ x ≤ 8) ∨ (x < 0 ∧ -64 ≤ x) from by omega) with h | h | h | h | h
      · subst h
        have B := hid (bad rfl)
        clear bad good
        go_wp2
        go_ret
        exact ⟨ret_bool B.out.symm, rfl⟩
      · have B := hid (bad (by simp [isW]; omega))
        have e0 : (x == 0) = false := by simp; omega
        clear bad good
        go_wp2
        go_ret
        exact ⟨ret_bool B.out.symm, rfl⟩
      · have B := hid (bad (by simp [isW]; omega))
        have e0 : (x == 0) = false := by simp; omega
        have e1 : ¬ 8 < x := by omega
        clear bad good
        go_wp2
        go_ret
        exact ⟨ret_bool B.out.symm, rfl⟩
      all_goals
        have B := hid (good (by simp [isW]; omega))
        have e0 : (x == 0) = false := by simp; omega
        have e1 : ¬ 8 < x := by omega
        have e2 : ¬ x < -64 := by omega
        clear bad good
        go_wp2
        go_round
        case rel => exact ⟨k + 1, by omega, by go_num, B⟩
        case measure => simp [intOf]; omega
    · have hkl : k = l.length := by omega
      have hp' : allW l = true := by have := hp.out; rwa [List.take_of_length_le (by omega)] at this
      have HP := hid hp'
      clear hkl hp'
      go_wp2
      go_ret
      exact ⟨ret_bool (by unfold rightW; rw [HP.out]; simp; omega), rfl⟩

/-- how many bytes -/
def sizeL (l : List Int) : Nat := (l.map Int.natAbs).sum
/-- how many numbers -/
def countL (l : List Int) : Nat := l.countP (fun n => decide (0 < n))
def sizeW (l : List Int) : Nat := if rightW l then sizeL l else 0
def countW (l : List Int) : Nat := if rightW l then countL l else 0

theorem isW_abs {x : Int} (h : isW x = true) : x.natAbs ≤ 64 ∧ (x < 0 → x.natAbs ≤ 64 ∧ -64 ≤ x) ∧ (0 ≤ x → x ≤ 8 ∧ 0 < x) := by
  simp [isW] at h; omega

theorem rightW_get {l : List Int} (h : rightW l = true) {k : Nat} {x : Int} (hx : l[k]? = some x) : isW x = true := by
  simp [rightW, allW] at h
  exact h.2 x (List.mem_of_getElem? hx)

theorem sizeL_succ {l : List Int} {k : Nat} {x : Int} (h : l[k]? = some x) : sizeL (l.take (k + 1)) = sizeL (l.take k) + x.natAbs := by
  unfold sizeL
  rw [List.take_add_one, h]
  simp

theorem countL_succ {l : List Int} {k : Nat} {x : Int} (h : l[k]? = some x) : countL (l.take (k + 1)) = countL (l.take k) + if 0 < x then 1 else 0 := by
  unfold countL
  rw [List.take_add_one, h]
  simp [List.countP_append, List.countP_cons]

theorem sizeL_bound {l : List Int} (h : allW l = true) : sizeL l ≤ 64 * l.length := by
  induction l with
  | nil => simp [sizeL]
  | cons x r ih =>
    simp [allW] at h ih
    have := ih h.2
    have := isW_abs h.1
    simp [sizeL] at *
    omega

theorem countL_bound (l : List Int) : countL l ≤ l.length := List.countP_le_length

theorem rightW_len {l : List Int} (h : rightW l = true) : l.length ≤ 64 := by simp [rightW] at h; exact h.1
theorem rightW_all {l : List Int} (h : rightW l = true) : allW l = true := by simp [rightW] at h; exact h.2
theorem allW_take {l : List Int} (h : allW l = true) (k : Nat) : allW (l.take k) = true := by
  simp [allW] at *
  intro x hx; exact h x (List.mem_of_mem_take hx)
theorem sizeL_take_bound {l : List Int} (h : rightW l = true) (k : Nat) : sizeL (l.take k) ≤ 4096 := by
  have := sizeL_bound (allW_take (rightW_all h) k)
  have := rightW_len h
  have : (l.take k).length ≤ l.length := by simp; omega
  omega
theorem countL_take_bound {l : List Int} (h : rightW l = true) (k : Nat) : countL (l.take k) ≤ 64 := by
  have := countL_bound (l.take k)
  have := rightW_len h
  have : (l.take k).length ≤ l.length := by simp; omega
  omega

theorem size_any (l : List Int) (a : Option Addr) (cap : Nat) (w : World) (hm : l.length ≤ 9223372036854775807) (hc : Ints .i64 w a l) :
    Calls Tryd.prog 41 #[.slice a l.length cap] w fun e w' => e = .returned (.int .i64 (sizeW l)) ∧ w = w' := by
  cases hr : rightW l
  · go_enter Tryd.func41, Tryd.ntmps41
    go_wp2_with (go_at_call 44; refine (right_any _ _ _ _ hm hc).mono ?_; rintro e w' ⟨rfl, rfl⟩)
    go_ret
    exact ⟨ret_int (by simp [sizeW, hr]), rfl⟩
  · have hb := sizeL_take_bound hr
    have hlen := rightW_len hr
    have HB := hid hb
    clear hb
    go_enter Tryd.func41, Tryd.ntmps41
    go_wp2_with (go_at_call 44; refine (right_any _ _ _ _ hm hc).mono ?_; rintro e w' ⟨rfl, rfl⟩)
    go_loop [3, 10] (fun s i => ∃ k : Nat, k ≤ l.length ∧ i = .int .i64 k ∧ s = .int .i64 (sizeL (l.take k) : Nat)) (fun _ i => l.length - (intOf i).toNat)
    case atStart => exact ⟨0, Nat.zero_le _, rfl, by simp [sizeL]⟩
    case round =>
      obtain ⟨k, hk, rfl, rfl⟩ := hrel
      by_cases hlt : k < l.length
      · obtain ⟨b, off, x, rfl, hcell, hx⟩ := hc.at hlt
        have hi := isW_abs (rightW_get hr hx.out)
        have hs := HB.out k
        have hst := hid (sizeL_succ hx.out)
        by_cases hneg : x < 0
        all_goals
          have hx1 : -64 ≤ x := by omega
          have hx2 : x ≤ 64 := by omega
          clear hi
          go_wp2
          go_round
          case rel => exact ⟨k + 1, by omega, by go_num, by rw [hst.out]; congr 1; omega⟩
          case measure => simp [intOf]; omega
      · have e : sizeL (l.take k) = sizeW l := by rw [List.take_of_length_le (by omega)]; simp [sizeW, hr]
        have E := hid e
        clear e
        go_wp2
        go_ret
        exact ⟨ret_int (by rw [E.out]), rfl⟩

theorem count_any (l : List Int) (a : Option Addr) (cap : Nat) (w : World) (hm : l.length ≤ 9223372036854775807) (hc : Ints .i64 w a l) :
    Calls Tryd.prog 45 #[.slice a l.length cap] w fun e w' => e = .returned (.int .i64 (countW l)) ∧ w = w' := by
  cases hr : rightW l
  · go_enter Tryd.func45, Tryd.ntmps45
    go_wp2_with (go_at_call 44; refine (right_any _ _ _ _ hm hc).mono ?_; rintro e w' ⟨rfl, rfl⟩)
    go_ret
    exact ⟨ret_int (by simp [countW, hr]), rfl⟩
  · have HB := hid (countL_take_bound hr)
    have hlen := rightW_len hr
    go_enter Tryd.func45, Tryd.ntmps45
    go_wp2_with (go_at_call 44; refine (right_any _ _ _ _ hm hc).mono ?_; rintro e w' ⟨rfl, rfl⟩)
    go_loop [3, 10] (fun s i => ∃ k : Nat, k ≤ l.length ∧ i = .int .i64 k ∧ s = .int .i64 (countL (l.take k) : Nat)) (fun _ i => l.length - (intOf i).toNat)
    case atStart => exact ⟨0, Nat.zero_le _, rfl, by simp [countL]⟩
    case round =>
      obtain ⟨k, hk, rfl, rfl⟩ := hrel
      by_cases hlt : k < l.length
      · obtain ⟨b, off, x, rfl, hcell, hx⟩ := hc.at hlt
        have hs := HB.out k
        have hst := hid (countL_succ hx.out)
        by_cases hpos : 0 < x
        all_goals
          go_wp2
          go_round
          case rel => exact ⟨k + 1, by omega, by go_num, by rw [hst.out]; first | (rw [if_pos (by omega)]; go_num) | (rw [if_neg (by omega)]; go_num)⟩
          case measure => simp [intOf]; omega
      · have e : countL (l.take k) = countW l := by rw [List.take_of_length_le (by omega)]; simp [countW, hr]
        have E := hid e
        clear e
        go_wp2
        go_ret
        exact ⟨ret_int (by rw [E.out]), rfl⟩

theorem refCount_any (l : List Int) (a : Option Addr) (cap : Nat) (w : World) (hm : l.length ≤ 9223372036854775807) (hc : Ints .i64 w a l) :
    Calls Tryd.prog 33 #[.slice a l.length cap] w fun e w' => e = .returned (.int .i64 (countW l)) ∧ w = w' := by
  cases hr : rightW l
  · have e : countW l = 0 := by simp [countW, hr]
    have E := hid e
    clear e
    go_enter Tryd.func33, Tryd.ntmps33
    go_wp2
    refine wp_loop_rounds 1 ?_
    rw [rounds_succ]
    by_cases hz : (0 : Int) < (l.length : Int)
    all_goals
      go_wp2_with (go_at_call 32; refine (refRight_any _ _ _ _ hm hc).mono ?_; rintro e w' ⟨rfl, rfl⟩)
      go_ret
      exact ⟨ret_int (by rw [E.out]; rfl), rfl⟩
  · have HB := hid (countL_take_bound hr)
    have hlen := rightW_len hr
    go_enter Tryd.func33, Tryd.ntmps33
    go_wp2
    go_loop [3, 4] (fun s i => ∃ k : Nat, k ≤ l.length ∧ i = .int .i64 k ∧ s = .int .i64 (countL (l.take k) : Nat)) (fun _ i => l.length - (intOf i).toNat)
    case atStart => exact ⟨0, Nat.zero_le _, rfl, by simp [countL]⟩
    case round =>
      obtain ⟨k, hk, rfl, rfl⟩ := hrel
      by_cases hlt : k < l.length
      · obtain ⟨b, off, x, rfl, hcell, hx⟩ := hc.at hlt
        have hs := HB.out k
        have hst := hid (countL_succ hx.out)
        by_cases hpos : 0 < x
        all_goals
          go_wp2_with (go_at_call 32; refine (refRight_any _ _ _ _ hm hc).mono ?_; rintro e w' ⟨rfl, rfl⟩)
          go_round
          case rel => exact ⟨k + 1, by omega, by go_num, by rw [hst.out]; first | (rw [if_pos (by omega)]; go_num) | (rw [if_neg (by omega)]; go_num)⟩
          case measure => simp [intOf]; omega
      · have e : countL (l.take k) = countW l := by rw [List.take_of_length_le (by omega)]; simp [countW, hr]
        have E := hid e
        clear e
        go_wp2
        go_ret
        exact ⟨ret_int (by rw [E.out]), rfl⟩
end Go.Proofs.YtkgjmpcdndohpaaDoor
