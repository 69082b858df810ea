/- What is sure of package fault; the three laws' walks. -/
import Derived.Test.YtlglgkigcompdaaDoorFltL
namespace Go.Proofs.YtlglgkigcompdaaDoor
open Go.RowKit Go.Shelf

theorem sure5_any (w : World) (hL : Laid w) :
    Calls Tryd.prog 12 #[] w fun x w' => x = .returned (.bool true) ∧ Below w.heap.size w w' := by
  have m1 : makeL 2 13 = 526 := by decide +kernel
  have m2 : madeL 2 13 = true := by decide +kernel
  have p1 : pairT 526 = 2 := by decide +kernel
  have p2 : pairC 526 = 13 := by decide +kernel
  have p3 : pairB 526 = true := by decide +kernel
  have r1 : readC ⟨#[111, 119, 110, 32, 51, 51, 55]⟩ = (10337, true) := by decide +kernel
  have s1 : nameS 526 = ⟨#[97, 99, 116, 105, 111, 110, 32, 49, 51]⟩ := by decide +kernel
  have s2 : nameS 0 = ⟨#[111, 107]⟩ := by decide +kernel
  have hM := make_any 2 13 w
  rw [m1, m2] at hM
  have hP := fun W => pair_any 526 (by omega) (by omega) W
  rw [p1, p2, p3] at hP
  have hR := fun W h => read_any ⟨#[111, 119, 110, 32, 51, 51, 55]⟩ (by decide) W h
  rw [r1] at hR
  have hN := fun W h => name_any 526 (by omega) (by omega) W h
  rw [s1] at hN
  have hO := fun W h => name_any 0 (by omega) (by omega) W h
  rw [s2] at hO
  clear m1 m2 p1 p2 p3 r1 s1 s2
  have HP := hid hP
  have HR := hid hR
  have HN := hid hN
  have HO := hid hO
  clear hP hR hN hO
  go_enter Tryd.func12, Tryd.ntmps12
  go_wp2_with fail
  refine hM.mono ?_
  rintro x w' ⟨rfl, rfl⟩
  clear hM
  go_wp2_with fail
  refine (HP.out _).mono ?_
  rintro x w' ⟨rfl, rfl⟩
  go_wp2_with fail
  refine (HR.out _ hL).mono ?_
  rintro x w1 ⟨rfl, hb1⟩
  have hL1 := hL.below hb1
  go_wp2_with fail
  refine (HN.out _ hL1).mono ?_
  rintro x w2 ⟨rfl, hb2⟩
  have hb3 := hb1.trans (hb2.mono hb1.size)
  have hL2 := hL.below hb3
  go_wp2_with fail
  refine (HO.out _ hL2).mono ?_
  rintro x w3 ⟨rfl, hb4⟩
  have hb5 := hb3.trans (hb4.mono hb3.size)
  go_wp2_with fail
  go_ret
  exact ⟨rfl, hb5⟩
end Go.Proofs.YtlglgkigcompdaaDoor
