/- The law CoverMeets. -/
import Derived.Test.YtpmkfkanolhocaaGreatCovRD
namespace Go.Proofs.YtpmkfkanolhocaaGreat
open Go.RowKit
set_option linter.unusedVariables false
set_option maxRecDepth 100000

set_option maxHeartbeats 4000000 in
theorem CoverMeets_out0 (a : Option Addr) (l : List Ent9) (ca : Nat) (b : Option Addr) (m : List Ent9) (cb : Nat) (w : World) (hO : Oxms w a l) (h1' : l.length ≤ 9223372036854775807) (h0 : fewL9 l = false) :
    Calls Tryz.prog 3 #[.slice a l.length ca, .slice b m.length cb] w fun e w' => e = .returned (.bool true) ∧ Below w.heap.size w w' := by
  have HFA := hid (fun (W : World) (h : Below w.heap.size w W) => refFew9_any l a ca W (hO.below h) h1')
  rw [h0] at HFA
  have HS := hid (fun w => sure11_any w)
  clear hO h0
  go_enter Tryz.func3, Tryz.ntmps3
  go_wp2_with fail
  refine (HFA.out _ (Below.refl _ _)).mono ?_
  rintro e w1 ⟨rfl, hb1⟩
  have HB1 := hid (hb1)
  clear hb1
  go_wp2_with fail
  refine (HS.out _).mono ?_
  rintro e w20 ⟨rfl, hb20⟩
  have HB20 := hid (below_on HB1.out hb20)
  clear hb20
  go_wp2_with fail
  exact bodyPost_ret (v := .bool true) (by simp [results, Tryz.results3, go_sem]) rfl ⟨rfl, HB20.out⟩
set_option maxHeartbeats 4000000 in
theorem CoverMeets_out1 (a : Option Addr) (l : List Ent9) (ca : Nat) (b : Option Addr) (m : List Ent9) (cb : Nat) (w : World) (hO : Oxms w a l) (h1' : l.length ≤ 9223372036854775807) (hO2 : Oxms w b m) (h2' : m.length ≤ 9223372036854775807) (h0 : fewL9 l = true) (h1 : fewL9 m = false) :
    Calls Tryz.prog 3 #[.slice a l.length ca, .slice b m.length cb] w fun e w' => e = .returned (.bool true) ∧ Below w.heap.size w w' := by
  have HFA := hid (fun (W : World) (h : Below w.heap.size w W) => refFew9_any l a ca W (hO.below h) h1')
  rw [h0] at HFA
  have HFB := hid (fun (W : World) (h : Below w.heap.size w W) => refFew9_any m b cb W (hO2.below h) h2')
  rw [h1] at HFB
  have HS := hid (fun w => sure11_any w)
  clear hO hO2 h0 h1
  go_enter Tryz.func3, Tryz.ntmps3
  go_wp2_with fail
  refine (HFA.out _ (Below.refl _ _)).mono ?_
  rintro e w1 ⟨rfl, hb1⟩
  have HB1 := hid (hb1)
  clear hb1
  go_wp2_with fail
  refine (HFB.out _ HB1.out).mono ?_
  rintro e w2 ⟨rfl, hb2⟩
  have HB2 := hid (below_on HB1.out hb2)
  clear hb2
  go_wp2_with fail
  refine (HS.out _).mono ?_
  rintro e w20 ⟨rfl, hb20⟩
  have HB20 := hid (below_on HB2.out hb20)
  clear hb20
  go_wp2_with fail
  exact bodyPost_ret (v := .bool true) (by simp [results, Tryz.results3, go_sem]) rfl ⟨rfl, HB20.out⟩
set_option maxHeartbeats 4000000 in
theorem CoverMeets_main (a : Option Addr) (l : List Ent9) (ca : Nat) (b : Option Addr) (m : List Ent9) (cb : Nat) (w : World) (hL : L9 w a l) (hM : L9 w b m) (lc : l.length ≤ ca) (mc : m.length ≤ cb) (h0 : fewL9 l = true) (h1 : fewL9 m = true) :
    Calls Tryz.prog 3 #[.slice a l.length ca, .slice b m.length cb] w fun e w' => e = .returned (.bool true) ∧ Below w.heap.size w w' := by
  have HFA := hid (fun (W : World) (h : Below w.heap.size w W) => refFew9_any l a ca W (hL.below h).ox (by have := hL.len; omega))
  rw [h0] at HFA
  have HFB := hid (fun (W : World) (h : Below w.heap.size w W) => refFew9_any m b cb W (hM.below h).ox (by have := hM.len; omega))
  rw [h1] at HFB
  have MAB := hid (fun (W : World) (h : Below w.heap.size w W) => meet_any l m a b ca cb W (hL.below h) (hM.below h) lc mc (few_sixty h0) (few_sixty h1) (few_len10 h0) (few_len10 h1))
  have RAB := hid (fun (W : World) (h : Below w.heap.size w W) => refMeet_any l m a b ca cb W (hL.below h) (hM.below h) lc mc (few_sixty h0) (few_sixty h1) (few_len10 h0) (few_len10 h1))
  have HS := hid (fun w => sure11_any w)
  clear hL hM h0 h1
  go_enter Tryz.func3, Tryz.ntmps3
  go_wp2_with fail
  refine (HFA.out _ (Below.refl _ _)).mono ?_
  rintro e w1 ⟨rfl, hb1⟩
  have HB1 := hid (hb1)
  clear hb1
  go_wp2_with fail
  refine (HFB.out _ HB1.out).mono ?_
  rintro e w2 ⟨rfl, hb2⟩
  have HB2 := hid (below_on HB1.out hb2)
  clear hb2
  go_wp2_with fail
  refine (MAB.out _ HB2.out).mono ?_
  rintro e w3 ⟨va, vc, D, ok, rfl, hm, hD, hDc, hb3⟩
  have HB3 := hid (below_on HB2.out hb3)
  have HD := hid hD
  have HMM := hid hm
  clear hm hD hb3 hDc
  go_wp2_with fail
  refine (RAB.out _ HB3.out).mono ?_
  rintro e w4 ⟨va2, vc2, D2, ok2, rfl, hm2, hD2, hDc2, hb4⟩
  have hmm := HMM.out
  rw [hm2] at hmm
  have hoo : ok2 = ok := (Prod.mk.inj hmm).2
  have hDD : D2.map Ent9.o = D.map Ent9.o := (Prod.mk.inj hmm).1
  have HB4 := hid (below_on HB3.out hb4)
  have hsm := refSame9_any D D2 va va2 vc vc2 w4 (HD.out.below hb4) hD2
  rw [decide_eq_true (show D.map Ent9.o = D2.map Ent9.o from hDD.symm)] at hsm
  have HSM := hid hsm
  subst hoo
  clear hsm hmm hDD hm2 hD2 hDc2 hb4
  cases ok2
  · go_wp2_with fail
    refine HSM.out.mono ?_
    rintro e w5 ⟨rfl, hb5⟩
    have HB5 := hid (below_on HB4.out hb5)
    clear hb5
    go_wp2_with fail
    refine (HS.out _).mono ?_
    rintro e w20 ⟨rfl, hb20⟩
    have HB20 := hid (below_on HB5.out hb20)
    clear hb20
    go_wp2_with fail
    exact bodyPost_ret (v := .bool true) (by simp [results, Tryz.results3, go_sem]) rfl ⟨rfl, HB20.out⟩
  · go_wp2_with fail
    refine HSM.out.mono ?_
    rintro e w5 ⟨rfl, hb5⟩
    have HB5 := hid (below_on HB4.out hb5)
    clear hb5
    go_wp2_with fail
    refine (HS.out _).mono ?_
    rintro e w20 ⟨rfl, hb20⟩
    have HB20 := hid (below_on HB5.out hb20)
    clear hb20
    go_wp2_with fail
    exact bodyPost_ret (v := .bool true) (by simp [results, Tryz.results3, go_sem]) rfl ⟨rfl, HB20.out⟩
theorem CoverMeets_walk (a : Option Addr) (len cap : Nat) (b : Option Addr) (lenb capb : Nat) (w : World) (h0 : IsOxmsC w a len cap) (h1 : len ≤ 9223372036854775807) (h2 : IsOxmsC w b lenb capb) (h3 : lenb ≤ 9223372036854775807) :
    Calls Tryz.prog 3 #[.slice a len cap, .slice b lenb capb] w fun e w' => e = .returned (.bool true) ∧ Below w.heap.size w w' := by
  obtain ⟨hlc, hcm, l, rfl, hO, hE⟩ := h0
  obtain ⟨hlc2, hcm2, m, rfl, hO2, hE2⟩ := h2
  cases g0 : fewL9 l
  · exact CoverMeets_out0 a l cap b m capb w hO h1 g0
  cases g1 : fewL9 m
  · exact CoverMeets_out1 a l cap b m capb w hO h1 hO2 h3 g0 g1
  exact CoverMeets_main a l cap b m capb w (few_l9 hO hE g0) (few_l9 hO2 hE2 g1) hlc hlc2 g0 g1
end Go.Proofs.YtpmkfkanolhocaaGreat
