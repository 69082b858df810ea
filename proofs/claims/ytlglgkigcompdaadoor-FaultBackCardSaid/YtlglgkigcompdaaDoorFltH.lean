/- The document's faults: all errors; the error of a name. -/
import Derived.Test.YtlglgkigcompdaaDoorFltG
import Derived.Test.YtlglgkigcompdaaDoorOwn
namespace Go.Proofs.YtlglgkigcompdaaDoor
open Go.RowKit Go.Shelf

theorem elemAll : Elem Tryd.prog 52 3 (.int .i64 0) 8 := ⟨by kernel_rfl, by kernel_rfl, rfl⟩

/-- the errors of a type, up to a code -/
def errsL (t : Nat) (c : Nat) : List Int := (List.range c).map (fun (b : Nat) => 256 * (t : Int) + (b : Int) + 1)
def ownsL : List Int := [0, 10001, 10002, 10003, 10004, 10005, 10006, 10007, 10008, 10337]
/-- all errors that have a name, up to a type -/
def allT : Nat → List Int
  | 0 => ownsL
  | t + 1 => allT t ++ errsL t (codesL t).toNat
def allL : List Int := allT 14

theorem errsL_succ (t c : Nat) : errsL t (c + 1) = errsL t c ++ [256 * (t : Int) + (c : Int) + 1] := by
  unfold errsL
  rw [List.range_succ, List.map_append]
  rfl
theorem errsL_length (t c : Nat) : (errsL t c).length = c := by simp [errsL]
theorem allT_length (t : Nat) : (allT t).length ≤ 10 + 16 * t := by
  induction t with
  | zero => decide
  | succ t ih =>
    have := codesL_bound t
    show (allT t ++ _).length ≤ _
    rw [List.length_append, errsL_length]
    omega

theorem own_lit (w : World) (e : TypeId) (k : IntKind) (l : List Int) (hl : l.length ≤ 1000) :
    (w.alloc (.cells (l.map (Value.int k)).toArray e)).ownsRow 0 e 1 (.slice (some ⟨w.heap.size, 0, none⟩) l.length l.length) (l.map (Value.int k)).length (l.map (Value.int k)) := by
  have e1 : (l.map (Value.int k)).length = l.length := List.length_map ..
  refine ⟨by omega, .inr ⟨w.heap.size, l.length, (l.map (Value.int k)).toArray, by rw [e1], Nat.zero_le _, _root_.Go.heap_alloc_new w _, by omega, by unfold maxLen; omega, by simp, ?_⟩⟩
  simp
  exact List.take_of_length_le (by simp)

theorem refAll_any (w : World) :
    Calls Tryd.prog 23 #[] w fun x w' => ∃ a c, x = .returned (.slice a allL.length c) ∧ Ints .i64 w' a allL ∧ allL.length ≤ c ∧ c ≤ 9223372036854775807 ∧ Below w.heap.size w w' := by
  have S := own_lit w 3 .i64 ownsL (by decide)
  go_enter Tryd.func23, Tryd.ntmps23
  go_wp2_with fail
  go_loopw [1, 2] (fun v t wr => ∃ k : Nat, k ≤ 14 ∧ t = .int .i64 k ∧ Fresh 3 w wr v ((allT k).map (Value.int .i64))) (fun _ t _ => 14 - (intOf t).toNat)
  case atStart => exact ⟨0, by omega, rfl, S, below_alloc _ _, by intro g hg; simp [Value.ownBlock] at hg; omega⟩
  case round =>
    obtain ⟨k, hk, rfl, hF⟩ := hrel
    have hAl := allT_length k
    by_cases hlt : k < 14
    · have hd : decide ((k : Int) < 14) = true := by simp; omega
      go_wp2_with fail
      go_loopw [1, 3] (fun v c wx => ∃ j : Nat, (j : Int) ≤ codesL k ∧ c = .int .i64 j ∧ Fresh 3 w wx v ((allT k ++ errsL k j).map (Value.int .i64))) (fun _ c _ => 16 - (intOf c).toNat)
      case atStart => exact ⟨0, (codesL_bound k).1, rfl, by simpa [errsL] using hF⟩
      case round =>
        clear hF S
        obtain ⟨j, hj, rfl, hF⟩ := hrel
        by_cases hc : (j : Int) < codesL k
        · have hj16 := (codesL_in (by omega) hc).2.2
          have HY := hid (show (allT k ++ errsL k j) ++ [256 * (k : Int) + (j : Int) + 1] = allT k ++ errsL k (j + 1) by rw [errsL_succ, List.append_assoc])
          have hlen : (allT k ++ errsL k (j + 1)).length ≤ 1000 := by rw [List.length_append, errsL_length]; omega
          have HL := hid hlen
          have hc1 : ((j + 1 : Nat) : Int) ≤ codesL k := by omega
          clear hlen hAl
          go_wp2_with fail
          refine (refCodes_any _ _).mono ?_
          rintro e w2 ⟨rfl, hb2⟩
          have hF2 := hF.behind (below_by_none hb2)
          have hF3 := hF2.behind (by_none_alloc w2 (.cells #[.int .i64 (256 * (k : Int) + (j : Int) + 1)] 3))
          go_wp2_with (at_builtin; refine wp_app_ints rfl (.tmp 15) (.tmp 21) rfl elemAll rfl hF3.own rfl rfl (ints_one .i64 w2 _ 3) HY.out ?_ ?_ ?_; (have := HL.out; omega); (have := HL.out; omega); intro a3 c3 w3 hl3 hc3 hI3 hg3)
          have hF4 := hF3.step hg3
          clear hF hF2 hF3 hg3
          go_roundw
          case rel => exact ⟨j + 1, hc1, by go_num, by rw [← List.length_append]; exact hF4⟩
          case measure => simp [intOf]; omega
        · have HJ := hid (show allT k ++ errsL k j = allT (k + 1) by
            have := codesL_bound k
            show _ = allT k ++ errsL k (codesL k).toNat
            congr 2
            omega)
          rw [HJ.out] at hF
          go_wp2_with fail
          refine (refCodes_any _ _).mono ?_
          rintro e w2 ⟨rfl, hb2⟩
          have hF2 := hF.behind (below_by_none hb2)
          go_wp2_with fail
          go_roundw
          case rel => exact ⟨k + 1, by omega, by go_num, hF2⟩
          case measure => simp [intOf]; omega
    · obtain rfl : k = 14 := by omega
      obtain ⟨av, cv, rfl, h1, h2, hI⟩ := own_ints hF.own
      go_wp2_with fail
      go_ret
      exact ⟨av, cv, rfl, hI, h1, by unfold maxLen at h2; omega, hF.bel⟩
end Go.Proofs.YtlglgkigcompdaaDoor
