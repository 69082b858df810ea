/- Package match: what stands ahead of the values. -/
import Derived.Test.YteaimnlfbbkccaaMatJ
import Derived.Test.YteaimnlfbbkccaaMrg5
namespace Go.Proofs.Yteaimnlfbbkccaa
open Go.RowKit
set_option linter.unusedVariables false
set_option maxRecDepth 100000

/-- a cursor that was made since w0 -/
structure CurOn (w0 w : World) (g M : Nat) (l : List Int) (r s o f : Int) : Prop where
  cur : Cur w g M l r s o f
  bel : Below w0.heap.size w0 w
  bg : w0.heap.size ≤ g
  bM : w0.heap.size ≤ M
section
variable {w0 w w' : World} {g M : Nat} {l l' : List Int} {r r' s s' o o' f f' : Int}
theorem CurOn.by (h : CurOn w0 w g M l r s o f) (hb : w.grownBy w' (some g)) (hc : Cur w' g M l' r' s' o' f') : CurOn w0 w' g M l' r' s' o' f' :=
  ⟨hc, (Turn.of_by (S := fun k => k = g) hb (by rintro k e; simp at e; exact e.symm)).below h.bel h.bel.size (fun k e => by subst e; exact h.bg), h.bg, h.bM⟩
theorem CurOn.below (h : CurOn w0 w g M l r s o f) (hb : Below w.heap.size w w') : CurOn w0 w' g M l r s o f := ⟨h.cur.below hb, below_on h.bel hb, h.bg, h.bM⟩
end
/-- a head that may stand there -/
def HeadOk (b : List Int) (n : Nat) : Prop := num10 b = n ∧ 4 ≤ b.length ∧ numL (b.take 2) = 1 ∧ 4 ≤ n ∧ n ≤ 65528 ∧ n + zeros10 n ≤ b.length
/-- what reading the head comes to -/
def HeadPost10 (b : List Int) (w0 : World) (g M : Nat) (e : Ending) (w' : World) : Prop :=
  (∃ n : Nat, HeadOk b n ∧ e = .returned (.tuple #[.int .i64 ((n : Int) - 4), .int .i64 ((zeros10 n : Nat) : Int)]) ∧ CurOn w0 w' g M (b.drop 4) 4 1026 1026 0) ∨
  (∃ s z q, q ≠ 0 ∧ matchL b = .error q ∧ (∀ n, ¬ HeadOk b n) ∧ e = .returned (.tuple #[.int .i64 s, .int .i64 z]) ∧ ∃ l' r', CurOn w0 w' g M l' r' 1026 1026 q)
theorem num10_two {b : List Int} (ho : Octets b) : ∃ n : Nat, num10 b = n ∧ n ≤ 65535 := by
  have := num_two (ho.drop 2)
  exact ⟨(num10 b).toNat, by unfold num10; omega, by unfold num10; omega⟩
theorem match_few {b : List Int} (h : b.length < 4) : matchL b = .error 1026 := by unfold matchL; rw [if_pos h]
theorem match_type {b : List Int} (h : ¬ b.length < 4) (hv : numL (b.take 2) ≠ 1) : matchL b = .error 1025 := by unfold matchL; rw [if_neg h, if_pos hv]
theorem match_long {b : List Int} (h : ¬ b.length < 4) (hv : numL (b.take 2) = 1) {n : Nat} (hn : num10 b = n) (hl : n < 4 ∨ 65528 < n ∨ b.length < n + zeros10 n) : matchL b = .error 1026 := by
  unfold matchL
  rw [if_neg h, if_neg (by simp [hv]), if_pos (by rw [hn, Int.toNat_natCast]; omega)]
theorem zeros_rem {n : Nat} : (n : Int).tmod 8 = ((n % 8 : Nat) : Int) ∧ (8 - ((n % 8 : Nat) : Int)).tmod 8 = ((zeros10 n : Nat) : Int) := by
  constructor
  · rw [Int.tmod_eq_emod_of_nonneg (by omega)]; omega
  · rw [Int.tmod_eq_emod_of_nonneg (by omega)]; unfold zeros10; omega

set_option maxHeartbeats 4000000 in
theorem readHead10_few (b : List Int) (w0 w : World) (g M : Nat) (h : CurOn w0 w g M b 0 1026 1026 0) (h4 : b.length < 4) :
    Calls Try.prog 59 #[.pointer (some ⟨g, 0, none⟩)] w (HeadPost10 b w0 g M) := by
  have HM := hid (match_few h4)
  have HNG := hid (show ∀ n, ¬ HeadOk b n from fun n k => by have := k.2.1; omega)
  have H := hid h
  have HLT := hid h4
  have ho := h.cur.oct
  have hv := num_two ho
  clear h h4 ho
  rcases Nat.lt_or_ge b.length 2 with h2 | h2
  · have HN := hid (H.out.cur.num_short (n := 2) (by decide) (by decide) h2)
    go_enter Try.func59, Try.ntmps59
    go_wp2_with fail
    refine HN.out.mono ?_
    rintro e w1 ⟨rfl, hc1, hb1⟩
    have H1 := hid (H.out.by hb1 hc1)
    clear hc1 hb1
    go_wp2_with fail
    refine (H1.out.cur.num_late (by decide) _).mono ?_
    rintro e w2 ⟨rfl, hb2⟩
    have H2 := hid (H1.out.below hb2)
    clear hb2
    go_wp2_with fail
    refine (H2.out.cur.fail_late (by decide) _).mono ?_
    rintro e w9 ⟨rfl, rfl⟩
    go_wp2_with fail
    refine (H2.out.cur.fail_late (by decide) _).mono ?_
    rintro e w9 ⟨rfl, rfl⟩
    go_wp2_with fail
    go_ret2
    exact .inr ⟨_, _, 1026, by decide, HM.out, HNG.out, rfl, _, _, H2.out⟩
  · have HN := hid (H.out.cur.num_ok (n := 2) (by decide) (by decide) h2)
    obtain ⟨V, hV⟩ : ∃ V, numL (b.take 2) = V := ⟨_, rfl⟩
    rw [hV] at HN hv
    clear hV
    rcases Int.lt_trichotomy V 1 with hv1 | rfl | hv1
    all_goals
      (try have hv2 : (V != 1) = true := by simp; omega)
      go_enter Try.func59, Try.ntmps59
      go_wp2_with fail
      refine HN.out.mono ?_
      rintro e w1 ⟨rfl, hc1, hb1⟩
      have H1 := hid (H.out.by hb1 hc1)
      clear hc1 hb1
      go_wp2_with fail
      refine (H1.out.cur.num_short (n := 2) (by decide) (by decide) (by rw [List.length_drop]; have := HLT.out; omega)).mono ?_
      rintro e w2 ⟨rfl, hc2, hb2⟩
      have H2 := hid (H1.out.by hb2 hc2)
      clear hc2 hb2
      go_wp2_with fail
      refine (H2.out.cur.fail_late (by decide) _).mono ?_
      rintro e w9 ⟨rfl, rfl⟩
      go_wp2_with fail
      (try
        refine (H2.out.cur.fail_late (by decide) _).mono ?_
        rintro e w9 ⟨rfl, rfl⟩
        go_wp2_with fail)
      go_ret2
      exact .inr ⟨_, _, 1026, by decide, HM.out, HNG.out, rfl, _, _, H2.out⟩

set_option maxHeartbeats 8000000 in
theorem readHead10_type (b : List Int) (w0 w : World) (g M : Nat) (h : CurOn w0 w g M b 0 1026 1026 0) (h4 : ¬ b.length < 4) (hv1 : numL (b.take 2) ≠ 1) :
    Calls Try.prog 59 #[.pointer (some ⟨g, 0, none⟩)] w (HeadPost10 b w0 g M) := by
  have HM := hid (match_type h4 hv1)
  have HNG := hid (show ∀ n, ¬ HeadOk b n from fun n k => hv1 k.2.2.1)
  have H := hid h
  have ho := h.cur.oct
  have hv := num_two ho
  obtain ⟨n, hn, hn5⟩ := num10_two ho
  obtain ⟨r1, r2⟩ := zeros_rem (n := n)
  have HN1 := hid (h.cur.num_ok (n := 2) (by decide) (by decide) (by omega))
  have hz8 := zeros_lt10 n
  obtain ⟨z, hz⟩ : ∃ z, zeros10 n = z := ⟨_, rfl⟩
  obtain ⟨r, hr⟩ : ∃ r, n % 8 = r := ⟨_, rfl⟩
  have hr8 : r < 8 := by omega
  rw [hr] at r1 r2
  rw [hz] at r2 hz8
  have hn5' : (n : Int) ≤ 65535 := by omega
  have hbl : b.length ≤ 140737488355328 := by have := h.cur.rl; omega
  have hd4 : ((b.drop 2).drop 2).length + 4 = b.length := by rw [List.length_drop, List.length_drop]; omega
  obtain ⟨L, hL⟩ : ∃ L, ((b.drop 2).drop 2).length = L := ⟨_, rfl⟩
  rw [hL] at hd4
  have hv2 : (numL (b.take 2) != 1) = true := by simpa using hv1
  obtain ⟨V, hV⟩ : ∃ V, numL (b.take 2) = V := ⟨_, rfl⟩
  rw [hV] at HN1 hv hv1 hv2
  have HN := hid hn
  have HZ := hid hz
  have HL := hid hL
  have HD4 := hid hd4
  have HH4 := hid h4
  have HV := hid hV
  clear h ho hn hz hr hL hd4 hV h4
  rcases (show n < 4 ∨ (4 ≤ n ∧ 65528 < n) ∨ (4 ≤ n ∧ n ≤ 65528 ∧ (L : Int) < (n : Int) - 4 + (z : Int)) ∨ (4 ≤ n ∧ n ≤ 65528 ∧ (n : Int) - 4 + (z : Int) ≤ (L : Int)) by omega) with c1 | ⟨c1, c2⟩ | ⟨c1, c2, c3⟩ | ⟨c1, c2, c3⟩
  · have c1' : (n : Int) < 4 := by omega
    go_enter Try.func59, Try.ntmps59
    go_wp2_with fail
    refine HN1.out.mono ?_
    rintro e w1 ⟨rfl, hc1, hb1⟩
    have H1 := hid (H.out.by hb1 hc1)
    clear hc1 hb1
    go_wp2_with fail
    refine (H1.out.cur.num_ok (n := 2) (by decide) (by decide) (by rw [List.length_drop]; have := HH4.out; omega)).mono ?_
    rintro e w2 ⟨rfl, hc2, hb2⟩
    have H2 := hid (H1.out.by hb2 hc2)
    have hnn : numL ((b.drop 2).take 2) = (n : Int) := HN.out
    rw [hnn]
    clear hc2 hb2 hnn
    go_wp2_with fail
    refine (H2.out.cur.fail 1025).mono ?_
    rintro e w3 ⟨rfl, hc3, hb3⟩
    have H3 := hid (H2.out.by hb3 hc3)
    clear hc3 hb3
    go_wp2_with fail
    refine (H3.out.cur.fail_late (by decide) _).mono ?_
    rintro e w9 ⟨rfl, rfl⟩
    go_wp2_with fail
    go_ret2
    exact .inr ⟨_, _, 1025, by decide, HM.out, HNG.out, rfl, _, _, H3.out⟩
  · have c1' : ¬ (n : Int) < 4 := by omega
    have c2' : (65528 : Int) < (n : Int) := by omega
    go_enter Try.func59, Try.ntmps59
    go_wp2_with fail
    refine HN1.out.mono ?_
    rintro e w1 ⟨rfl, hc1, hb1⟩
    have H1 := hid (H.out.by hb1 hc1)
    clear hc1 hb1
    go_wp2_with fail
    refine (H1.out.cur.num_ok (n := 2) (by decide) (by decide) (by rw [List.length_drop]; have := HH4.out; omega)).mono ?_
    rintro e w2 ⟨rfl, hc2, hb2⟩
    have H2 := hid (H1.out.by hb2 hc2)
    have hnn : numL ((b.drop 2).take 2) = (n : Int) := HN.out
    rw [hnn]
    clear hc2 hb2 hnn
    go_wp2_with fail
    refine (H2.out.cur.fail 1025).mono ?_
    rintro e w3 ⟨rfl, hc3, hb3⟩
    have H3 := hid (H2.out.by hb3 hc3)
    clear hc3 hb3
    go_wp2_with fail
    refine (H3.out.cur.fail_late (by decide) _).mono ?_
    rintro e w9 ⟨rfl, rfl⟩
    go_wp2_with fail
    go_ret2
    exact .inr ⟨_, _, 1025, by decide, HM.out, HNG.out, rfl, _, _, H3.out⟩
  · have c1' : ¬ (n : Int) < 4 := by omega
    have c2' : ¬ (65528 : Int) < (n : Int) := by omega
    go_enter Try.func59, Try.ntmps59
    go_wp2_with fail
    refine HN1.out.mono ?_
    rintro e w1 ⟨rfl, hc1, hb1⟩
    have H1 := hid (H.out.by hb1 hc1)
    clear hc1 hb1
    go_wp2_with fail
    refine (H1.out.cur.num_ok (n := 2) (by decide) (by decide) (by rw [List.length_drop]; have := HH4.out; omega)).mono ?_
    rintro e w2 ⟨rfl, hc2, hb2⟩
    have H2 := hid (H1.out.by hb2 hc2)
    have hnn : numL ((b.drop 2).take 2) = (n : Int) := HN.out
    rw [hnn]
    clear hc2 hb2 hnn
    go_wp2_with fail
    refine (H2.out.cur.fail 1025).mono ?_
    rintro e w3 ⟨rfl, hc3, hb3⟩
    have H3 := hid (H2.out.by hb3 hc3)
    clear hc3 hb3
    go_wp2_with fail
    refine H3.out.cur.left.mono ?_
    rintro e w9 ⟨rfl, rfl⟩
    rw [HL.out]
    go_wp2_with fail
    refine (H3.out.cur.fail_late (by decide) _).mono ?_
    rintro e w9 ⟨rfl, rfl⟩
    go_wp2_with fail
    go_ret2
    exact .inr ⟨_, _, 1025, by decide, HM.out, HNG.out, rfl, _, _, H3.out⟩
  · have c1' : ¬ (n : Int) < 4 := by omega
    have c2' : ¬ (65528 : Int) < (n : Int) := by omega
    have c3' : ¬ (L : Int) < (n : Int) - 4 + (z : Int) := by omega
    go_enter Try.func59, Try.ntmps59
    go_wp2_with fail
    refine HN1.out.mono ?_
    rintro e w1 ⟨rfl, hc1, hb1⟩
    have H1 := hid (H.out.by hb1 hc1)
    clear hc1 hb1
    go_wp2_with fail
    refine (H1.out.cur.num_ok (n := 2) (by decide) (by decide) (by rw [List.length_drop]; have := HH4.out; omega)).mono ?_
    rintro e w2 ⟨rfl, hc2, hb2⟩
    have H2 := hid (H1.out.by hb2 hc2)
    have hnn : numL ((b.drop 2).take 2) = (n : Int) := HN.out
    rw [hnn]
    clear hc2 hb2 hnn
    go_wp2_with fail
    refine (H2.out.cur.fail 1025).mono ?_
    rintro e w3 ⟨rfl, hc3, hb3⟩
    have H3 := hid (H2.out.by hb3 hc3)
    clear hc3 hb3
    go_wp2_with fail
    refine H3.out.cur.left.mono ?_
    rintro e w9 ⟨rfl, rfl⟩
    rw [HL.out]
    go_wp2_with fail
    go_ret2
    exact .inr ⟨_, _, 1025, by decide, HM.out, HNG.out, rfl, _, _, H3.out⟩

set_option maxHeartbeats 8000000 in
theorem readHead10_one (b : List Int) (w0 w : World) (g M : Nat) (h : CurOn w0 w g M b 0 1026 1026 0) (h4 : ¬ b.length < 4) (hv1 : numL (b.take 2) = 1) :
    Calls Try.prog 59 #[.pointer (some ⟨g, 0, none⟩)] w (HeadPost10 b w0 g M) := by
  have HML := hid (fun (n : Nat) (hn : num10 b = n) hl => match_long h4 hv1 hn hl)
  have H := hid h
  have ho := h.cur.oct
  have hv := num_two ho
  obtain ⟨n, hn, hn5⟩ := num10_two ho
  obtain ⟨r1, r2⟩ := zeros_rem (n := n)
  have HN1 := hid (h.cur.num_ok (n := 2) (by decide) (by decide) (by omega))
  have hz8 := zeros_lt10 n
  obtain ⟨z, hz⟩ : ∃ z, zeros10 n = z := ⟨_, rfl⟩
  obtain ⟨r, hr⟩ : ∃ r, n % 8 = r := ⟨_, rfl⟩
  have hr8 : r < 8 := by omega
  rw [hr] at r1 r2
  rw [hz] at r2 hz8
  have hn5' : (n : Int) ≤ 65535 := by omega
  have hbl : b.length ≤ 140737488355328 := by have := h.cur.rl; omega
  have hd4 : ((b.drop 2).drop 2).length + 4 = b.length := by rw [List.length_drop, List.length_drop]; omega
  obtain ⟨L, hL⟩ : ∃ L, ((b.drop 2).drop 2).length = L := ⟨_, rfl⟩
  rw [hL] at hd4
  rw [hv1] at HN1
  have HN := hid hn
  have HZ := hid hz
  have HL := hid hL
  have HD4 := hid hd4
  have HH4 := hid h4
  have HV := hid hv1
  clear h ho hn hz hr hL hd4 h4 hv hv1
  rcases (show n < 4 ∨ (4 ≤ n ∧ 65528 < n) ∨ (4 ≤ n ∧ n ≤ 65528 ∧ (L : Int) < (n : Int) - 4 + (z : Int)) ∨ (4 ≤ n ∧ n ≤ 65528 ∧ (n : Int) - 4 + (z : Int) ≤ (L : Int)) by omega) with c1 | ⟨c1, c2⟩ | ⟨c1, c2, c3⟩ | ⟨c1, c2, c3⟩
  · have HM := hid (HML.out n HN.out (.inl c1))
    have HNG : Hid (∀ k, ¬ HeadOk b k) := fun j k => by have e : j = n := (by have h1 := k.1; rw [HN.out] at h1; omega); have := k.2.2.2.1; have := k.2.2.2.2.1; omega
    have c1' : (n : Int) < 4 := by omega
    go_enter Try.func59, Try.ntmps59
    go_wp2_with fail
    refine HN1.out.mono ?_
    rintro e w1 ⟨rfl, hc1, hb1⟩
    have H1 := hid (H.out.by hb1 hc1)
    clear hc1 hb1
    go_wp2_with fail
    refine (H1.out.cur.num_ok (n := 2) (by decide) (by decide) (by rw [List.length_drop]; have := HH4.out; omega)).mono ?_
    rintro e w2 ⟨rfl, hc2, hb2⟩
    have H2 := hid (H1.out.by hb2 hc2)
    have hnn : numL ((b.drop 2).take 2) = (n : Int) := HN.out
    rw [hnn]
    clear hc2 hb2 hnn
    go_wp2_with fail
    refine (H2.out.cur.fail 1026).mono ?_
    rintro e w3 ⟨rfl, hc3, hb3⟩
    have H3 := hid (H2.out.by hb3 hc3)
    clear hc3 hb3
    go_wp2_with fail
    go_ret2
    exact .inr ⟨_, _, 1026, by decide, HM.out, HNG.out, rfl, _, _, H3.out⟩
  · have HM := hid (HML.out n HN.out (.inr (.inl c2)))
    have HNG : Hid (∀ k, ¬ HeadOk b k) := fun j k => by have e : j = n := (by have h1 := k.1; rw [HN.out] at h1; omega); have := k.2.2.2.1; have := k.2.2.2.2.1; omega
    have c1' : ¬ (n : Int) < 4 := by omega
    have c2' : (65528 : Int) < (n : Int) := by omega
    go_enter Try.func59, Try.ntmps59
    go_wp2_with fail
    refine HN1.out.mono ?_
    rintro e w1 ⟨rfl, hc1, hb1⟩
    have H1 := hid (H.out.by hb1 hc1)
    clear hc1 hb1
    go_wp2_with fail
    refine (H1.out.cur.num_ok (n := 2) (by decide) (by decide) (by rw [List.length_drop]; have := HH4.out; omega)).mono ?_
    rintro e w2 ⟨rfl, hc2, hb2⟩
    have H2 := hid (H1.out.by hb2 hc2)
    have hnn : numL ((b.drop 2).take 2) = (n : Int) := HN.out
    rw [hnn]
    clear hc2 hb2 hnn
    go_wp2_with fail
    refine (H2.out.cur.fail 1026).mono ?_
    rintro e w3 ⟨rfl, hc3, hb3⟩
    have H3 := hid (H2.out.by hb3 hc3)
    clear hc3 hb3
    go_wp2_with fail
    go_ret2
    exact .inr ⟨_, _, 1026, by decide, HM.out, HNG.out, rfl, _, _, H3.out⟩
  · have HM := hid (HML.out n HN.out (.inr (.inr (by rw [HZ.out]; have := HD4.out; omega))))
    have HNG : Hid (∀ k, ¬ HeadOk b k) := fun j k => by have e : j = n := (by have h1 := k.1; rw [HN.out] at h1; omega); have := k.2.2.2.1; have := k.2.2.2.2.1; have := k.2.2.2.2.2; rw [e, HZ.out] at this; have := HD4.out; omega
    have c1' : ¬ (n : Int) < 4 := by omega
    have c2' : ¬ (65528 : Int) < (n : Int) := by omega
    go_enter Try.func59, Try.ntmps59
    go_wp2_with fail
    refine HN1.out.mono ?_
    rintro e w1 ⟨rfl, hc1, hb1⟩
    have H1 := hid (H.out.by hb1 hc1)
    clear hc1 hb1
    go_wp2_with fail
    refine (H1.out.cur.num_ok (n := 2) (by decide) (by decide) (by rw [List.length_drop]; have := HH4.out; omega)).mono ?_
    rintro e w2 ⟨rfl, hc2, hb2⟩
    have H2 := hid (H1.out.by hb2 hc2)
    have hnn : numL ((b.drop 2).take 2) = (n : Int) := HN.out
    rw [hnn]
    clear hc2 hb2 hnn
    go_wp2_with fail
    refine H2.out.cur.left.mono ?_
    rintro e w9 ⟨rfl, rfl⟩
    rw [HL.out]
    go_wp2_with fail
    refine (H2.out.cur.fail 1026).mono ?_
    rintro e w3 ⟨rfl, hc3, hb3⟩
    have H3 := hid (H2.out.by hb3 hc3)
    clear hc3 hb3
    go_wp2_with fail
    go_ret2
    exact .inr ⟨_, _, 1026, by decide, HM.out, HNG.out, rfl, _, _, H3.out⟩
  · have c1' : ¬ (n : Int) < 4 := by omega
    have c2' : ¬ (65528 : Int) < (n : Int) := by omega
    have c3' : ¬ (L : Int) < (n : Int) - 4 + (z : Int) := by omega
    go_enter Try.func59, Try.ntmps59
    go_wp2_with fail
    refine HN1.out.mono ?_
    rintro e w1 ⟨rfl, hc1, hb1⟩
    have H1 := hid (H.out.by hb1 hc1)
    clear hc1 hb1
    go_wp2_with fail
    refine (H1.out.cur.num_ok (n := 2) (by decide) (by decide) (by rw [List.length_drop]; have := HH4.out; omega)).mono ?_
    rintro e w2 ⟨rfl, hc2, hb2⟩
    have H2 := hid (H1.out.by hb2 hc2)
    have hnn : numL ((b.drop 2).take 2) = (n : Int) := HN.out
    rw [hnn]
    clear hc2 hb2 hnn
    go_wp2_with fail
    refine H2.out.cur.left.mono ?_
    rintro e w9 ⟨rfl, rfl⟩
    rw [HL.out]
    go_wp2_with fail
    go_ret2
    refine .inl ⟨n, ⟨HN.out, by have := HH4.out; omega, HV.out, c1, c2, by rw [HZ.out]; have := HD4.out; omega⟩, by rw [HZ.out]; rfl, ?_⟩
    have h2 := H2.out
    rw [List.drop_drop] at h2
    exact h2

theorem readHead10_any (b : List Int) (w0 w : World) (g M : Nat) (h : CurOn w0 w g M b 0 1026 1026 0) :
    Calls Try.prog 59 #[.pointer (some ⟨g, 0, none⟩)] w (HeadPost10 b w0 g M) := by
  by_cases h4 : b.length < 4
  · exact readHead10_few b w0 w g M h h4
  · by_cases hv : numL (b.take 2) = 1
    · exact readHead10_one b w0 w g M h h4 hv
    · exact readHead10_type b w0 w g M h h4 hv
end Go.Proofs.Yteaimnlfbbkccaa
