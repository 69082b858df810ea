/- The law of sorted lists. -/
import Derived.Test.YtlikpafjlojagaaNedO
namespace Go.Proofs.Ytlikpafjlojagaa
open Go.ChangeShapes Go.WideShapes Go.RowKit Go.Deep
set_option linter.unusedVariables false

/-- values that came in, and how many there is room for -/
def IsOxmsC (w : World) (a : Option Addr) (len cap : Nat) : Prop := len ≤ cap ∧ cap ≤ 9223372036854775807 ∧ IsOxms w a len
section
variable {H : Type} {enc : TypeId × Value → H} {w : World} {base : Nat} {held : Bool}
theorem open_oxms_c {fuel len cap : Nat} {a : Option Addr} {x : DataW H × List MemPlace} (h : DataW.trod enc Try.prog w base (fun _ => true) held fuel 22 [.slice a len cap] = some x) : len ≤ 9223372036854775807 ∧ IsOxmsC w a len cap := by
  obtain ⟨h1, h2⟩ := open_oxms h
  refine ⟨h1, ?_, ?_, h2⟩
  · rcases open_slice Try.underlying22 h with ⟨hcs, _⟩ | ⟨p, l, c, m, n, D, Pl, hcs, hb, hl, hm, hmm, hx, hi⟩
    · simp at hcs; omega
    · simp at hcs; omega
  · rcases open_slice Try.underlying22 h with ⟨hcs, _⟩ | ⟨p, l, c, m, n, D, Pl, hcs, hb, hl, hm, hmm, hx, hi⟩
    · simp at hcs; omega
    · simp at hcs
      unfold maxLen at hm
      omega
end
theorem few_l9 {w : World} {a : Option Addr} {l : List Ent9} (hO : Oxms w a l) (hE : ∀ h ∈ l, EntIn w h) (hf : fewL9 l = true) : L9 w a l := by
  unfold fewL9 at hf
  rw [Bool.and_eq_true, decide_eq_true_iff] at hf
  refine ⟨hO, hE, fun h hh => ?_, hf.2⟩
  have := List.all_eq_true.1 hf.1 h hh
  simp only [few9, decide_eq_true_eq] at this
  omega
set_option maxRecDepth 100000 in
set_option maxHeartbeats 2000000 in
theorem NeedSorted_walk (a : Option Addr) (len cap : Nat) (w : World) (h0 : IsOxmsC w a len cap) (h1 : len ≤ 9223372036854775807) :
    Calls Try.prog 4 #[.slice a len cap] w fun e w' => e = .returned (.bool true) ∧ Below w.heap.size w w' := by
  obtain ⟨hlc, hcm, l, rfl, hO, hE⟩ := h0
  have HF := hid (refFew9_any l a cap w hO h1)
  cases hf : fewL9 l
  · rw [hf] at HF
    clear hf hO hE
    go_enter Try.func4, Try.ntmps4
    go_wp2_with fail
    refine HF.out.mono ?_
    rintro e w1 ⟨rfl, hb1⟩
    have HB1 := hid hb1
    clear hb1
    go_wp2_with fail
    refine (sure9_any w1).mono ?_
    rintro e w2 ⟨rfl, hb2⟩
    have HB2 := hid (below_on HB1.out hb2)
    clear hb2
    go_wp2_with fail
    exact bodyPost_ret (v := .bool true) (by simp [results, Try.results4, go_sem]) rfl ⟨rfl, HB2.out⟩
  · rw [hf] at HF
    have hL := few_l9 hO hE hf
    have HL := hid hL
    have hll := hL.len
    obtain ⟨N, hN⟩ : ∃ N, N = l.length := ⟨_, rfl⟩
    obtain ⟨⟨p, q⟩, hck⟩ : ∃ r, check9 (l.map Ent9.o) = r := ⟨_, rfl⟩
    have HCK := hid hck
    have CC := hid (fun w1 (hb : Below w.heap.size w w1) => check_any9 l a cap w1 (HL.out.below hb) hlc)
    rw [hck] at CC
    have SS := hid (fun w1 (hb : Below w.heap.size w w1) => sort_l9 w1 a cap l (HL.out.below hb))
    unfold ckV at CC
    rw [← hN] at HF CC SS hlc hll h1 ⊢
    have HN := hid hN
    clear hf hO hE hL hck hN
    by_cases hq : q = 0
    · subst hq
      have hz : p = 0 := by have := chk_zero (l := l.map Ent9.o) (pre := []) (by rw [show chk9 [] (l.map Ent9.o) = _ from HCK.out]); rw [show chk9 [] (l.map Ent9.o) = _ from HCK.out] at this; exact congrArg Prod.fst this
      subst hz
      go_enter Try.func4, Try.ntmps4
      go_wp2_with fail
      refine HF.out.mono ?_
      rintro e w1 ⟨rfl, hb1⟩
      have HB1 := hid hb1
      clear hb1
      go_wp2_with fail
      refine (CC.out w1 HB1.out).mono ?_
      rintro e w2 ⟨rfl, hb2⟩
      have HB2 := hid (below_on HB1.out hb2)
      clear hb2
      go_wp2_with fail
      refine (SS.out w2 HB2.out).mono ?_
      rintro e w3 ⟨g, M, rfl, hm1, hm2, hm3, hb3, _⟩
      have HB3 := hid (below_on HB2.out hb3)
      have HM := hid (And.intro hm1 (And.intro hm2 hm3))
      clear hb3 hm1 hm2 hm3
      go_wp2_with fail
      obtain ⟨hm1, hm2, hm3⟩ := HM.out
      have S2 := sort_l9 w3 (some ⟨g, 0, none⟩) N M hm3
      rw [hm1] at S2
      have S2 := hid S2
      clear hm1 hm2 hm3
      refine S2.out.mono ?_
      rintro e w4 ⟨g2, M2, rfl, hm1, hm2, hm3, hb4, _⟩
      obtain ⟨hM1, hM2, hM3⟩ := HM.out
      have hsame : M2.map Ent9.o = M.map Ent9.o := by rw [hm2, hM2, sort_twice]
      have HS := refSame9_any M2 M (some ⟨g2, 0, none⟩) (some ⟨g, 0, none⟩) N N w4 hm3 (hM3.below hb4)
      rw [hm1, hM1, decide_eq_true hsame] at HS
      have HS := hid HS
      have HM4 := hid (hM3.below hb4)
      have HB4 := hid (below_on HB3.out hb4)
      have HMM := hid (And.intro hM1 hM2)
      clear hM1 hM2 hM3 hm1 hm2 hm3 hsame hb4 S2 HM
      go_wp2_with fail
      refine HS.out.mono ?_
      rintro e w5 ⟨rfl, hb5⟩
      have HB5 := hid (below_on HB4.out hb5)
      have HM5 := hid (HM4.out.below hb5)
      have hnn : ((N : Int) != (N : Int)) = false := by simp
      clear hb5 HS
      have C5 : Hid (Calls Try.prog 8 #[.slice (some ⟨g, 0, none⟩) N N] w5 fun e w' => e = .returned (.tuple #[.int .i64 0, .int .i64 0]) ∧ Below w5.heap.size w5 w') := by
        show Calls _ _ _ _ _
        have h := check_any9 M (some ⟨g, 0, none⟩) N w5 HM5.out (by rw [HMM.out.1]; exact Nat.le_refl _)
        rw [HMM.out.1, HMM.out.2] at h
        have hz : check9 (sort9 (l.map Ent9.o)) = (0, 0) := chk_zero (check_sorted (by rw [HCK.out]))
        rw [hz] at h
        exact h
      go_wp2_with fail
      refine C5.out.mono ?_
      rintro e w6 ⟨rfl, hb6⟩
      have HB6 := hid (below_on HB5.out hb6)
      have HM6 := hid (HM5.out.below hb6)
      clear hb6 C5
      have M6 := missing_any9 l a cap w6 (HL.out.below HB6.out)
      rw [← HN.out, missing_nil (show (check9 (l.map Ent9.o)).2 = 0 by rw [HCK.out])] at M6
      have M6 := hid M6
      go_wp2_with fail
      refine M6.out.mono ?_
      rintro e w7 ⟨v, rfl, hF⟩
      obtain ⟨a7, c7, rfl, _, _, _⟩ := own_ints (l := []) hF.own
      have HB7 := hid (below_on HB6.out hF.bel)
      have HM7 := hid (HM6.out.below hF.bel)
      clear hF M6
      simp only [List.length_nil]
      have M7 := missing_any9 M (some ⟨g, 0, none⟩) N w7 HM7.out
      rw [HMM.out.1, HMM.out.2, missing_nil (check_sorted (show (check9 (l.map Ent9.o)).2 = 0 by rw [HCK.out]))] at M7
      have M7 := hid M7
      go_wp2_with fail
      refine M7.out.mono ?_
      rintro e w8 ⟨v, rfl, hF⟩
      obtain ⟨a8, c8, rfl, _, _, _⟩ := own_ints (l := []) hF.own
      have HB8 := hid (below_on HB7.out hF.bel)
      clear hF M7
      simp only [List.length_nil]
      go_wp2_with fail
      refine (sure9_any w8).mono ?_
      rintro e w9 ⟨rfl, hb9⟩
      have HB9 := hid (below_on HB8.out hb9)
      clear hb9
      go_wp2_with fail
      exact bodyPost_ret (v := .bool true) (by simp [results, Try.results4, go_sem]) rfl ⟨rfl, HB9.out⟩
    · obtain ⟨k, hk, hpk, hgood, herr⟩ := chk_at (show chk9 [] (l.map Ent9.o) = (p, q) from HCK.out) hq
      rw [List.length_map] at hk
      simp only [List.length_nil, Nat.zero_add] at hpk
      subst hpk
      have hkN : k < N := by have := HN.out; omega
      obtain ⟨b, off, rfl, hoo⟩ := HL.out.ox k hk
      clear hoo
      have hqb : (q != 0) = true := by simpa using hq
      have hk0 : ¬ (k : Int) < 0 := by omega
      have hkn : ¬ (N : Int) ≤ (k : Int) := by omega
      have hkc : (k : Int) ≤ (cap : Int) := by omega
      have hkc1 : (k : Int) + 1 ≤ (cap : Int) := by omega
      have CA := hid (fun w1 (hb : Below w.heap.size w w1) => check_any9 (l.take k) (some ⟨b, off, none⟩) cap w1 ((HL.out.take k).below hb) (by rw [List.length_take]; have := HN.out; omega))
      have CB := hid (fun w1 (hb : Below w.heap.size w w1) => check_any9 (l.take (k + 1)) (some ⟨b, off, none⟩) cap w1 ((HL.out.take (k + 1)).below hb) (by rw [List.length_take]; have := HN.out; omega))
      have hz : check9 ((l.take k).map Ent9.o) = (0, 0) := by rw [List.map_take]; exact chk_zero (chk_good.2 hgood)
      obtain ⟨⟨p2, q2⟩, hr2⟩ : ∃ r, check9 ((l.take (k + 1)).map Ent9.o) = r := ⟨_, rfl⟩
      have hq2 : q2 = q := by
        have h := congrArg Prod.snd hr2
        rw [List.map_take] at h
        exact h.symm.trans herr
      subst hq2
      unfold ckV at CA CB
      rw [hz, show (l.take k).length = k by rw [List.length_take]; omega] at CA
      rw [hr2, show (l.take (k + 1)).length = k + 1 by rw [List.length_take]; omega] at CB
      have hqq : (q2 == q2) = true := by simp
      have HQ := hid hq
      clear hk hgood herr hz hr2 hq
      go_enter Try.func4, Try.ntmps4
      go_wp2_with fail
      refine HF.out.mono ?_
      rintro e w1 ⟨rfl, hb1⟩
      have HB1 := hid hb1
      clear hb1
      go_wp2_with fail
      refine (CC.out w1 HB1.out).mono ?_
      rintro e w2 ⟨rfl, hb2⟩
      have HB2 := hid (below_on HB1.out hb2)
      clear hb2
      go_wp2_with fail
      refine (SS.out w2 HB2.out).mono ?_
      rintro e w3 ⟨g, M, rfl, hm1, hm2, hm3, hb3, _⟩
      have HB3 := hid (below_on HB2.out hb3)
      have HM := hid (And.intro hm1 (And.intro hm2 hm3))
      clear hb3 hm1 hm2 hm3
      go_wp2_with fail
      obtain ⟨hm1, hm2, hm3⟩ := HM.out
      have S2 := sort_l9 w3 (some ⟨g, 0, none⟩) N M hm3
      rw [hm1] at S2
      have S2 := hid S2
      clear hm1 hm2 hm3
      refine S2.out.mono ?_
      rintro e w4 ⟨g2, M2, rfl, hm1, hm2, hm3, hb4, _⟩
      obtain ⟨hM1, hM2, hM3⟩ := HM.out
      have hsame : M2.map Ent9.o = M.map Ent9.o := by rw [hm2, hM2, sort_twice]
      have HS := refSame9_any M2 M (some ⟨g2, 0, none⟩) (some ⟨g, 0, none⟩) N N w4 hm3 (hM3.below hb4)
      rw [hm1, hM1, decide_eq_true hsame] at HS
      have HS := hid HS
      have HB4 := hid (below_on HB3.out hb4)
      clear hM1 hM2 hM3 hm1 hm2 hm3 hsame hb4 S2 HM
      go_wp2_with fail
      refine HS.out.mono ?_
      rintro e w5 ⟨rfl, hb5⟩
      have HB5 := hid (below_on HB4.out hb5)
      have hnn : ((N : Int) != (N : Int)) = false := by simp
      clear hb5 HS
      go_wp2_with fail
      refine (CA.out w5 HB5.out).mono ?_
      rintro e w6 ⟨rfl, hb6⟩
      have HB6 := hid (below_on HB5.out hb6)
      clear hb6
      go_wp2_with fail
      refine (CB.out w6 HB6.out).mono ?_
      rintro e w7 ⟨rfl, hb7⟩
      have HB7 := hid (below_on HB6.out hb7)
      clear hb7
      go_wp2_with fail
      refine (sure9_any w7).mono ?_
      rintro e w8 ⟨rfl, hb8⟩
      have HB8 := hid (below_on HB7.out hb8)
      clear hb8
      go_wp2_with fail
      exact bodyPost_ret (v := .bool true) (by simp [results, Try.results4, go_sem]) rfl ⟨rfl, HB8.out⟩
end Go.Proofs.Ytlikpafjlojagaa
