/- FaultBack's walk. -/
import Derived.Test.YtlglgkigcompdaaDoorFltN
namespace Go.Proofs.YtlglgkigcompdaaDoor
open Go.RowKit Go.Shelf

set_option maxRecDepth 100000 in
theorem nameS_size : ∀ e ∈ allL, (nameS e).size ≤ 1000 := by decide +kernel

theorem toList_nil {s : ByteArray} (h : (s.toList == []) = true) : s = ⟨#[]⟩ := list_same h

theorem FaultBack_tail (e f : Int) (s n : ByteArray) (hs : s = nameS e) (hn : n = nameS f) (hne : (s.toList == []) = false) : (s.toList == n.toList) = (e == f) := by
  by_cases h : e = f
  · subst h
    rw [hs, hn]
    simp
  · have h1 : (e == f) = false := by simp [h]
    rw [h1]
    cases hq : s.toList == n.toList
    · rfl
    · exfalso
      refine h (name_inj ?_ ?_)
      · intro hz
        rw [← hs] at hz
        rw [hz, ByteArray.toList_eq] at hne
        simp at hne
      · rw [← hs, ← hn]
        exact toList_same hq

set_option maxHeartbeats 1000000 in
theorem FaultBack_walk (e f : Int) (h0 : -9223372036854775808 ≤ e) (h1 : e ≤ 9223372036854775807) (g0 : -9223372036854775808 ≤ f) (g1 : f ≤ 9223372036854775807) (w : World) (hL : Laid w) :
    Calls Tryd.prog 5 #[.int .i64 e, .int .i64 f] w fun x w' => x = .returned (.bool true) ∧ Below w.heap.size w w' := by
  have P1 := fun W => pair_any e h0 h1 W
  have N1 := fun W h => name_any e h0 h1 W h
  have N2 := fun W h => name_any f g0 g1 W h
  obtain ⟨s, hs⟩ : ∃ s, s = nameS e := ⟨_, rfl⟩
  obtain ⟨n, hn⟩ : ∃ n, n = nameS f := ⟨_, rfl⟩
  cases hz : s.toList == []
  · have hT := FaultBack_tail e f s n hs hn hz
    have hin : e ∈ allL := name_in (fun h => by rw [← hs] at h; rw [h, ByteArray.toList_eq] at hz; simp at hz)
    have hR := readC_name e hin
    have hsz := nameS_size e hin
    have R1 := fun W h => read_any (nameS e) (by omega) W h
    rw [hR, ← hs] at R1
    rw [← hs] at N1
    rw [← hn] at N2
    have N1 := hid N1
    have N2 := hid N2
    have R1 := hid R1
    clear hs hn hin hR hsz
    have hT2 : (((s.toList == n.toList) : Bool) == (e == f)) = true := by rw [hT]; simp
    have HT := hid hT
    clear hT
    cases hp : pairB e
    · have e1 : pairT e = 0 := by unfold pairT; rw [hp]; rfl
      have e2 : pairC e = 0 := by unfold pairC; rw [hp]; rfl
      rw [e1, e2, hp] at P1
      have P1 := hid P1
      clear hp e1 e2
      go_enter Tryd.func5, Tryd.ntmps5
      go_wp2_with fail
      refine (P1.out _).mono ?_
      rintro x w' ⟨rfl, rfl⟩
      go_wp2_with fail
      refine (N1.out _ hL).mono ?_
      rintro x w1 ⟨rfl, hb1⟩
      have hL1 := hL.below hb1
      go_wp2_with fail
      refine (R1.out _ hL1).mono ?_
      rintro x w2 ⟨rfl, hb2⟩
      have hb3 := hb1.trans (hb2.mono hb1.size)
      have hL3 := hL.below hb3
      clear hb1 hb2 hL1
      go_wp2_with fail
      refine (N2.out _ hL3).mono ?_
      rintro x w3 ⟨rfl, hb4⟩
      have hb5 := hb3.trans (hb4.mono hb3.size)
      have hL5 := hL.below hb5
      clear hb3 hb4 hL3
      go_wp2_with fail
      refine (sure5_any _ hL5).mono ?_
      rintro x w4 ⟨rfl, hb6⟩
      go_wp2_with fail
      go_ret
      exact ⟨rfl, hb5.trans (hb6.mono hb5.size)⟩
    · obtain ⟨t0, t1, c0, c1, ee, cc⟩ := pair_in hp
      have M1 := fun W => make_any (pairT e) (pairC e) W
      have m1 : makeL (pairT e) (pairC e) = e := by unfold makeL; rw [if_pos ⟨c0, cc⟩]; exact ee.symm
      have m2 : madeL (pairT e) (pairC e) = true := by unfold madeL; simp; exact ⟨c0, cc⟩
      have C1 := fun W => codes_any (pairT e) W
      rw [m1, m2] at M1
      rw [hp] at P1
      obtain ⟨t, ht⟩ : ∃ t, pairT e = t := ⟨_, rfl⟩
      obtain ⟨c, hc⟩ : ∃ c, pairC e = c := ⟨_, rfl⟩
      obtain ⟨k, hk⟩ : ∃ k, codesL (pairT e) = k := ⟨_, rfl⟩
      rw [hk] at C1 cc
      rw [ht] at P1 M1 C1
      rw [hc] at P1 M1 cc
      have cc2 : ¬ k ≤ c := by omega
      have P1 := hid P1
      have M1 := hid M1
      have C1 := hid C1
      clear hp m1 m2 ht hc hk t0 t1 c0 c1 ee cc
      go_enter Tryd.func5, Tryd.ntmps5
      go_wp2_with fail
      refine (P1.out _).mono ?_
      rintro x w' ⟨rfl, rfl⟩
      go_wp2_with fail
      refine (M1.out _).mono ?_
      rintro x w' ⟨rfl, rfl⟩
      go_wp2_with fail
      refine (C1.out _).mono ?_
      rintro x w' ⟨rfl, rfl⟩
      go_wp2_with fail
      refine (N1.out _ hL).mono ?_
      rintro x w1 ⟨rfl, hb1⟩
      have hL1 := hL.below hb1
      go_wp2_with fail
      refine (R1.out _ hL1).mono ?_
      rintro x w2 ⟨rfl, hb2⟩
      have hb3 := hb1.trans (hb2.mono hb1.size)
      have hL3 := hL.below hb3
      clear hb1 hb2 hL1
      go_wp2_with fail
      refine (N2.out _ hL3).mono ?_
      rintro x w3 ⟨rfl, hb4⟩
      have hb5 := hb3.trans (hb4.mono hb3.size)
      have hL5 := hL.below hb5
      clear hb3 hb4 hL3
      go_wp2_with fail
      refine (sure5_any _ hL5).mono ?_
      rintro x w4 ⟨rfl, hb6⟩
      go_wp2_with fail
      go_ret
      exact ⟨rfl, hb5.trans (hb6.mono hb5.size)⟩
  · have hE := toList_nil hz
    rw [hs] at hE
    have hp : pairB e = false := by
      cases hp : pairB e
      · rfl
      · obtain ⟨t0, t1, c0, c1, ee, cc⟩ := pair_in hp
        have hh := readC_name e (all_pair hp)
        rw [hE] at hh
        have h3 : (readC ⟨#[]⟩).2 = false := by decide +kernel
        rw [hh] at h3
        simp at h3
    have he : e ≠ 0 := by
      intro h
      subst h
      exact absurd hE (by decide +kernel)
    have e1 : pairT e = 0 := by unfold pairT; rw [hp]; rfl
    have e2 : pairC e = 0 := by unfold pairC; rw [hp]; rfl
    have he2 : (e != 0) = true := by simp [he]
    rw [e1, e2, hp] at P1
    rw [← hs] at N1
    have P1 := hid P1
    have N1 := hid N1
    clear hp e1 e2 hE hs hn N2 he
    go_enter Tryd.func5, Tryd.ntmps5
    go_wp2_with fail
    refine (P1.out _).mono ?_
    rintro x w' ⟨rfl, rfl⟩
    go_wp2_with fail
    refine (N1.out _ hL).mono ?_
    rintro x w1 ⟨rfl, hb1⟩
    have hL1 := hL.below hb1
    go_wp2_with fail
    refine (sure5_any _ hL1).mono ?_
    rintro x w4 ⟨rfl, hb6⟩
    go_wp2_with fail
    go_ret
    exact ⟨rfl, hb1.trans (hb6.mono hb1.size)⟩
end Go.Proofs.YtlglgkigcompdaaDoor
