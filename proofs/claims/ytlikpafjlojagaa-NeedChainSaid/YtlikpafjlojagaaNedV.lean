/- The law of what lists are told. -/
import Derived.Test.YtlikpafjlojagaaNedU
import Derived.Test.YtlikpafjlojagaaNedP
import Derived.Deep.RegionHeld3
namespace Go.Proofs.Ytlikpafjlojagaa
open Go.RowKit
set_option linter.unusedVariables false

set_option maxRecDepth 100000 in
set_option maxHeartbeats 8000000 in
theorem NeedTells_walk (a : Option Addr) (len cap : Nat) (C F : Int) (G : Bool) (X : Int) (va : Option Addr) (vl vc : Nat) (ma : Option Addr) (ml mc : Nat) (v m : List Int) (w : World) (h0 : IsOxmsC w a len cap) (h1 : len ≤ 9223372036854775807) (ho : OxmIn w C F X va vl vc ma ml mc v m) :
    Calls Try.prog 3 #[.slice a len cap, .agg #[.int .i64 C, .int .i64 F, .bool G, .int .u64 X, .slice va vl vc, .slice ma ml mc]] w fun e w' => e = .returned (.bool true) ∧ Below w.heap.size w w' := by
  obtain ⟨hlc, hcm, l, rfl, hO, hE⟩ := h0
  obtain rfl := ho.lv
  obtain rfl := ho.lm
  clear ho
  have hmix : Try.prog.follows .mixedOrders = true := by kernel_rfl
  obtain ⟨W, hW, hbW, hx⟩ := oxm_box w C F G X va v.length vc ma m.length mc
  have HW := hid hW
  have HB := hid hbW
  have HX := hid hx
  have HF := hid (refFew9_any l a cap W (hO.below hbW) h1)
  cases hf : fewL9 l
  · rw [hf] at HF
    clear hf hO hE hW hbW hx
    go_enter Try.func3, Try.ntmps3
    go_wp2_with fail
    rw [HW.out]
    refine HF.out.mono ?_
    rintro e w1 ⟨rfl, hb1⟩
    have HB1 := hid (below_on HB.out hb1)
    clear hb1
    go_wp2_with fail
    refine (sure9_any w1).mono ?_
    rintro e w2 ⟨rfl, hb2⟩
    have HB2 := hid (below_on HB1.out hb2)
    clear hb2
    go_wp2_with fail
    exact bodyPost_ret (v := .bool true) (by simp [results, Try.results3, go_sem]) rfl ⟨rfl, HB2.out⟩
  · rw [hf] at HF
    have hL := few_l9 hO hE hf
    have HL := hid (hL.below hbW)
    have hll := hL.len
    obtain ⟨N, hN⟩ : ∃ N, N = l.length := ⟨_, rfl⟩
    obtain ⟨⟨p, q⟩, hck⟩ : ∃ r, check9 (l.map Ent9.o) = r := ⟨_, rfl⟩
    have CC := hid (fun w1 (hb : Below W.heap.size W w1) => check_any9 l a cap w1 (HL.out.below hb) hlc)
    have RC := hid (fun w1 (hb : Below W.heap.size W w1) => refCheck9_any l a cap w1 (HL.out.below hb) hlc)
    rw [hck] at CC RC
    unfold ckV at CC RC
    rw [← hN] at HF CC RC hlc hll h1 ⊢
    have HN := hid hN
    clear hf hO hE hL hck hN hW hbW hx
    go_enter Try.func3, Try.ntmps3
    go_wp2_with fail
    rw [HW.out]
    refine HF.out.mono ?_
    rintro e w1 ⟨rfl, hb1⟩
    have HB1 := hid hb1
    clear hb1
    go_wp2_with fail
    refine (CC.out w1 HB1.out).mono ?_
    rintro e w2 ⟨rfl, hb2⟩
    have HB2 := hid (below_on HB1.out hb2)
    clear hb2
    go_wp2_with fail
    refine (RC.out w2 HB2.out).mono ?_
    rintro e w5 ⟨rfl, hb5⟩
    have HB5 := hid (below_on HB2.out hb5)
    clear hb5
    have hpp : (p == p) = true := by simp
    have hqq : (q == q) = true := by simp
    have HL5 := hid (HL.out.below HB5.out)
    have HX5 := hid (HX.out.below HB5.out)
    obtain ⟨mt, hmt⟩ : ∃ mt, met9 (l.map Ent9.o) ⟨C, F, G, X, v, m⟩ = mt := ⟨_, rfl⟩
    have hmm : (mt == mt) = true := by simp
    obtain ⟨Zl, hZl⟩ : ∃ Z, missing9 (l.map Ent9.o) = Z := ⟨_, rfl⟩
    obtain ⟨Z, hZ⟩ : ∃ Z, Z = Zl.length := ⟨_, rfl⟩
    have HM1 : Hid (∀ Y, Below w5.heap.size w5 Y → Calls Try.prog 10 #[.slice a N cap, .agg #[.int .i64 C, .int .i64 F, .bool G, .int .u64 X, .slice va v.length vc, .slice ma m.length mc]] Y fun e w' => e = .returned (.bool mt) ∧ Below Y.heap.size Y w') := by
      show _
      intro Y hY
      have := met_any l ⟨⟨C, F, G, X, v, m⟩, va, vc, ma, mc⟩ a cap Y (HL5.out.below hY)
      rw [hmt, ← HN.out] at this
      exact this
    have HM2 : Hid (∀ Y, Below w5.heap.size w5 Y → Calls Try.prog 11 #[.slice a N cap, .agg #[.int .i64 C, .int .i64 F, .bool G, .int .u64 X, .slice va v.length vc, .slice ma m.length mc]] Y fun e w' => e = .returned (.bool mt) ∧ Below Y.heap.size Y w') := by
      show _
      intro Y hY
      have := refMet_any l ⟨⟨C, F, G, X, v, m⟩, va, vc, ma, mc⟩ a cap Y (HL5.out.below hY)
      rw [hmt, ← HN.out] at this
      exact this
    have HS1 : Hid (∀ Y, Below w5.heap.size w5 Y → Calls Try.prog 13 #[.slice a N cap] Y fun e w' => ∃ a' c', e = .returned (.slice a' Z c') ∧ Ints .i64 w' a' Zl ∧ Below Y.heap.size Y w') := by
      show _
      intro Y hY
      rw [HN.out]
      refine (missing_any9 l a cap Y (HL5.out.below hY)).mono ?_
      rintro e w' ⟨v, rfl, hF⟩
      rw [hZl] at hF
      obtain ⟨a', c', rfl, _, _, hI⟩ := own_ints hF.own
      exact ⟨a', c', by rw [hZ], hI, hF.bel⟩
    have HS2 : Hid (∀ Y, Below w5.heap.size w5 Y → Calls Try.prog 14 #[.slice a N cap] Y fun e w' => ∃ a' c', e = .returned (.slice a' Z c') ∧ Ints .i64 w' a' Zl ∧ Below Y.heap.size Y w') := by
      show _
      intro Y hY
      rw [HN.out]
      refine (refMissing_any l a cap Y (HL5.out.below hY)).mono ?_
      rintro e w' ⟨v, rfl, hF⟩
      rw [hZl] at hF
      obtain ⟨a', c', rfl, _, _, hI⟩ := own_ints hF.own
      exact ⟨a', c', by rw [hZ], hI, hF.bel⟩
    have HINTS : Hid (∀ Y a b c d, Ints .i64 Y a Zl → Ints .i64 Y b Zl → Calls Try.prog 12 #[.slice a Z c, .slice b Z d] Y fun e w' => e = .returned (.bool true) ∧ Below Y.heap.size Y w') := by
      show _
      intro Y a b c d h1 h2
      have hl : Zl.length ≤ 1000 := by
        rw [← hZl]
        unfold missing9
        have := List.length_filter_le (fun n => asked9 (l.map Ent9.o) n && !has9 (l.map Ent9.o) n) ((List.range 40).map (fun (k : Nat) => (k : Int)))
        simp at this ⊢
        omega
      have := refInts9_any Zl Zl a b c d Y h1 h2 hl hl
      rw [← hZ] at this
      simpa using this
    have HO1 : Hid (∀ Y, Below w5.heap.size w5 Y → Calls Try.prog 16 #[.slice a N cap] Y fun e w' => ∃ g M, e = .returned (.slice (some ⟨g, 0, none⟩) N N) ∧ M.length = N ∧ M.map Ent9.o = sort9 (l.map Ent9.o) ∧ L9 w' (some ⟨g, 0, none⟩) M ∧ Below Y.heap.size Y w') := by
      show _
      intro Y hY
      rw [HN.out]
      refine (sort_l9 Y a cap l (HL5.out.below hY)).mono ?_
      rintro e w' ⟨g, M, rfl, h1, h2, h3, h4, _⟩
      exact ⟨g, M, rfl, h1, h2, h3, h4⟩
    have HO2 : Hid (∀ Y, Below w5.heap.size w5 Y → Calls Try.prog 17 #[.slice a N cap] Y fun e w' => ∃ a' c' M, e = .returned (.slice a' N c') ∧ M.length = N ∧ M.map Ent9.o = sort9 (l.map Ent9.o) ∧ L9 w' a' M ∧ Below Y.heap.size Y w') := by
      show _
      intro Y hY
      rw [HN.out]
      refine (refSort_any l a cap Y (HL5.out.below hY)).mono ?_
      rintro e w' ⟨a', c', M, rfl, h1, h2, h3, h4, h5⟩
      have hl := (HL5.out.below hY).below h5
      exact ⟨a', c', M, rfl, h1, h2, ⟨h3, fun h hh => hl.ent h (h4 h hh), fun h hh => hl.few h (h4 h hh), by rw [h1]; exact hl.len⟩, h5⟩
    have HSAME : Hid (∀ Y g M a' c' M2, L9 Y (some ⟨g, 0, none⟩) M → L9 Y a' M2 → M.length = N → M2.length = N → M.map Ent9.o = sort9 (l.map Ent9.o) → M2.map Ent9.o = sort9 (l.map Ent9.o) → Calls Try.prog 15 #[.slice (some ⟨g, 0, none⟩) N N, .slice a' N c'] Y fun e w' => e = .returned (.bool true) ∧ Below Y.heap.size Y w') := by
      show _
      intro Y g M a' c' M2 h1 h2 h3 h4 h5 h6
      have := refSame9_any M M2 (some ⟨g, 0, none⟩) a' N c' Y h1 h2
      rw [h3, h4, decide_eq_true (h5.trans h6.symm)] at this
      exact this
    have KC : Hid (∀ w', Below w5.heap.size w5 w' → (fun w' => w'.cell? ⟨w.heap.size, 0, none⟩ = some (.int .i64 C) ∧ w'.cell? ⟨w.heap.size, 1, none⟩ = some (.int .i64 F) ∧ w'.cell? ⟨w.heap.size, 2, none⟩ = some (.bool G) ∧ w'.cell? ⟨w.heap.size, 3, none⟩ = some (.int .u64 X) ∧ w'.cell? ⟨w.heap.size, 4, none⟩ = some (.slice va v.length vc) ∧ w'.cell? ⟨w.heap.size, 5, none⟩ = some (.slice ma m.length mc)) w') := by
      show _
      intro w' hb
      have h1 := HX5.out.below hb
      exact ⟨h1.cell 0 _ rfl, h1.cell 1 _ rfl, h1.cell 2 _ rfl, h1.cell 3 _ rfl, h1.cell 4 _ rfl, h1.cell 5 _ rfl⟩
    have hx5 := HX5.out
    have k0 : w5.cell? ⟨w.heap.size, 0, none⟩ = some (.int .i64 C) := hx5.cell 0 _ rfl
    have k1 : w5.cell? ⟨w.heap.size, 1, none⟩ = some (.int .i64 F) := hx5.cell 1 _ rfl
    have k2 : w5.cell? ⟨w.heap.size, 2, none⟩ = some (.bool G) := hx5.cell 2 _ rfl
    have k3 : w5.cell? ⟨w.heap.size, 3, none⟩ = some (.int .u64 X) := hx5.cell 3 _ rfl
    have k4 : w5.cell? ⟨w.heap.size, 4, none⟩ = some (.slice va v.length vc) := hx5.cell 4 _ rfl
    have k5 : w5.cell? ⟨w.heap.size, 5, none⟩ = some (.slice ma m.length mc) := hx5.cell 5 _ rfl
    clear hx5 hmt hZl hZ
    go_upto_region 5 with fail
    go_region_held3 (fun w' => w'.cell? ⟨w.heap.size, 0, none⟩ = some (.int .i64 C) ∧ w'.cell? ⟨w.heap.size, 1, none⟩ = some (.int .i64 F) ∧ w'.cell? ⟨w.heap.size, 2, none⟩ = some (.bool G) ∧ w'.cell? ⟨w.heap.size, 3, none⟩ = some (.int .u64 X) ∧ w'.cell? ⟨w.heap.size, 4, none⟩ = some (.slice va v.length vc) ∧ w'.cell? ⟨w.heap.size, 5, none⟩ = some (.slice ma m.length mc)) (first | (refine KC.out _ ?_; (repeat (first | with_reducible exact hq14 | with_reducible exact hq13 | with_reducible exact hq12 | with_reducible exact hq11 | with_reducible exact hq10 | with_reducible exact hq9 | with_reducible exact hq8 | with_reducible exact hq7 | with_reducible exact hq6 | with_reducible exact Below.refl _ _ | with_reducible refine below_dr9 ?_ | with_reducible refine below_al9 ?_))) | go_keep) (first
    | (go_at_call 10; with_reducible refine (HM1.out _ ?_).mono ?_; ((repeat (first | with_reducible exact hq14 | with_reducible exact hq13 | with_reducible exact hq12 | with_reducible exact hq11 | with_reducible exact hq10 | with_reducible exact hq9 | with_reducible exact hq8 | with_reducible exact hq7 | with_reducible exact hq6 | with_reducible exact Below.refl _ _ | with_reducible refine below_dr9 ?_ | with_reducible refine below_al9 ?_))); rintro e w6 ⟨rfl, hb6⟩; have hq6 : Below w5.heap.size w5 w6 := below_on (by (repeat (first | with_reducible exact hq14 | with_reducible exact hq13 | with_reducible exact hq12 | with_reducible exact hq11 | with_reducible exact hq10 | with_reducible exact hq9 | with_reducible exact hq8 | with_reducible exact hq7 | with_reducible exact hq6 | with_reducible exact Below.refl _ _ | with_reducible refine below_dr9 ?_ | with_reducible refine below_al9 ?_))) hb6; clear hb6)
    | (go_at_call 11; with_reducible refine (HM2.out _ ?_).mono ?_; ((repeat (first | with_reducible exact hq14 | with_reducible exact hq13 | with_reducible exact hq12 | with_reducible exact hq11 | with_reducible exact hq10 | with_reducible exact hq9 | with_reducible exact hq8 | with_reducible exact hq7 | with_reducible exact hq6 | with_reducible exact Below.refl _ _ | with_reducible refine below_dr9 ?_ | with_reducible refine below_al9 ?_))); rintro e w7 ⟨rfl, hb7⟩; have hq7 : Below w5.heap.size w5 w7 := below_on (by (repeat (first | with_reducible exact hq14 | with_reducible exact hq13 | with_reducible exact hq12 | with_reducible exact hq11 | with_reducible exact hq10 | with_reducible exact hq9 | with_reducible exact hq8 | with_reducible exact hq7 | with_reducible exact hq6 | with_reducible exact Below.refl _ _ | with_reducible refine below_dr9 ?_ | with_reducible refine below_al9 ?_))) hb7; clear hb7)
    | (go_at_call 13; with_reducible refine (HS1.out _ ?_).mono ?_; ((repeat (first | with_reducible exact hq14 | with_reducible exact hq13 | with_reducible exact hq12 | with_reducible exact hq11 | with_reducible exact hq10 | with_reducible exact hq9 | with_reducible exact hq8 | with_reducible exact hq7 | with_reducible exact hq6 | with_reducible exact Below.refl _ _ | with_reducible refine below_dr9 ?_ | with_reducible refine below_al9 ?_))); rintro e w8 ⟨a8, c8, rfl, hI8, hb8⟩; have hq8 : Below w5.heap.size w5 w8 := below_on (by (repeat (first | with_reducible exact hq14 | with_reducible exact hq13 | with_reducible exact hq12 | with_reducible exact hq11 | with_reducible exact hq10 | with_reducible exact hq9 | with_reducible exact hq8 | with_reducible exact hq7 | with_reducible exact hq6 | with_reducible exact Below.refl _ _ | with_reducible refine below_dr9 ?_ | with_reducible refine below_al9 ?_))) hb8; clear hb8)
    | (go_at_call 14; with_reducible refine (HS2.out _ ?_).mono ?_; ((repeat (first | with_reducible exact hq14 | with_reducible exact hq13 | with_reducible exact hq12 | with_reducible exact hq11 | with_reducible exact hq10 | with_reducible exact hq9 | with_reducible exact hq8 | with_reducible exact hq7 | with_reducible exact hq6 | with_reducible exact Below.refl _ _ | with_reducible refine below_dr9 ?_ | with_reducible refine below_al9 ?_))); rintro e w9 ⟨a9, c9, rfl, hI9, hb9⟩; have hq9 : Below w5.heap.size w5 w9 := below_on (by (repeat (first | with_reducible exact hq14 | with_reducible exact hq13 | with_reducible exact hq12 | with_reducible exact hq11 | with_reducible exact hq10 | with_reducible exact hq9 | with_reducible exact hq8 | with_reducible exact hq7 | with_reducible exact hq6 | with_reducible exact Below.refl _ _ | with_reducible refine below_dr9 ?_ | with_reducible refine below_al9 ?_))) hb9; have hI89 : Ints .i64 w9 a8 Zl := hI8.below (below_on (by (repeat (first | with_reducible exact Below.refl _ _ | with_reducible refine below_dr9 ?_ | with_reducible refine below_al9 ?_))) hb9); clear hb9)
    | (go_at_call 12; with_reducible refine (HINTS.out _ _ _ _ _ ?_ ?_).mono ?_; (refine hI89.below ?_; (repeat (first | with_reducible exact Below.refl _ _ | with_reducible refine below_dr9 ?_ | with_reducible refine below_al9 ?_))); (refine hI9.below ?_; (repeat (first | with_reducible exact Below.refl _ _ | with_reducible refine below_dr9 ?_ | with_reducible refine below_al9 ?_))); rintro e w10 ⟨rfl, hb10⟩; have hq10 : Below w5.heap.size w5 w10 := below_on (by (repeat (first | with_reducible exact hq14 | with_reducible exact hq13 | with_reducible exact hq12 | with_reducible exact hq11 | with_reducible exact hq10 | with_reducible exact hq9 | with_reducible exact hq8 | with_reducible exact hq7 | with_reducible exact hq6 | with_reducible exact Below.refl _ _ | with_reducible refine below_dr9 ?_ | with_reducible refine below_al9 ?_))) hb10; clear hb10)
    | (go_at_call 16; with_reducible refine (HO1.out _ ?_).mono ?_; ((repeat (first | with_reducible exact hq14 | with_reducible exact hq13 | with_reducible exact hq12 | with_reducible exact hq11 | with_reducible exact hq10 | with_reducible exact hq9 | with_reducible exact hq8 | with_reducible exact hq7 | with_reducible exact hq6 | with_reducible exact Below.refl _ _ | with_reducible refine below_dr9 ?_ | with_reducible refine below_al9 ?_))); rintro e w11 ⟨g11, M11, rfl, hn11, hm11, hl11, hb11⟩; have hq11 : Below w5.heap.size w5 w11 := below_on (by (repeat (first | with_reducible exact hq14 | with_reducible exact hq13 | with_reducible exact hq12 | with_reducible exact hq11 | with_reducible exact hq10 | with_reducible exact hq9 | with_reducible exact hq8 | with_reducible exact hq7 | with_reducible exact hq6 | with_reducible exact Below.refl _ _ | with_reducible refine below_dr9 ?_ | with_reducible refine below_al9 ?_))) hb11; clear hb11)
    | (go_at_call 17; with_reducible refine (HO2.out _ ?_).mono ?_; ((repeat (first | with_reducible exact hq14 | with_reducible exact hq13 | with_reducible exact hq12 | with_reducible exact hq11 | with_reducible exact hq10 | with_reducible exact hq9 | with_reducible exact hq8 | with_reducible exact hq7 | with_reducible exact hq6 | with_reducible exact Below.refl _ _ | with_reducible refine below_dr9 ?_ | with_reducible refine below_al9 ?_))); rintro e w12 ⟨a12, c12, M12, rfl, hn12, hm12, hl12, hb12⟩; have hq12 : Below w5.heap.size w5 w12 := below_on (by (repeat (first | with_reducible exact hq14 | with_reducible exact hq13 | with_reducible exact hq12 | with_reducible exact hq11 | with_reducible exact hq10 | with_reducible exact hq9 | with_reducible exact hq8 | with_reducible exact hq7 | with_reducible exact hq6 | with_reducible exact Below.refl _ _ | with_reducible refine below_dr9 ?_ | with_reducible refine below_al9 ?_))) hb12; have hl112 : L9 w12 (some ⟨g11, 0, none⟩) M11 := hl11.below (below_on (by (repeat (first | with_reducible exact Below.refl _ _ | with_reducible refine below_dr9 ?_ | with_reducible refine below_al9 ?_))) hb12); clear hb12)
    | (go_at_call 15; with_reducible refine (HSAME.out _ _ _ _ _ _ ?_ ?_ hn11 hn12 hm11 hm12).mono ?_; (refine hl112.below ?_; (repeat (first | with_reducible exact Below.refl _ _ | with_reducible refine below_dr9 ?_ | with_reducible refine below_al9 ?_))); (refine hl12.below ?_; (repeat (first | with_reducible exact Below.refl _ _ | with_reducible refine below_dr9 ?_ | with_reducible refine below_al9 ?_))); rintro e w13 ⟨rfl, hb13⟩; have hq13 : Below w5.heap.size w5 w13 := below_on (by (repeat (first | with_reducible exact hq14 | with_reducible exact hq13 | with_reducible exact hq12 | with_reducible exact hq11 | with_reducible exact hq10 | with_reducible exact hq9 | with_reducible exact hq8 | with_reducible exact hq7 | with_reducible exact hq6 | with_reducible exact Below.refl _ _ | with_reducible refine below_dr9 ?_ | with_reducible refine below_al9 ?_))) hb13; clear hb13)
    | (go_at_call 7; with_reducible refine (sure9_any _).mono ?_; rintro e w14 ⟨rfl, hb14⟩; have hq14 : Below w5.heap.size w5 w14 := below_on (by (repeat (first | with_reducible exact hq14 | with_reducible exact hq13 | with_reducible exact hq12 | with_reducible exact hq11 | with_reducible exact hq10 | with_reducible exact hq9 | with_reducible exact hq8 | with_reducible exact hq7 | with_reducible exact hq6 | with_reducible exact Below.refl _ _ | with_reducible refine below_dr9 ?_ | with_reducible refine below_al9 ?_))) hb14; clear hb14)
    | fail)
    all_goals
      go_wp2_with fail
    all_goals
      exact bodyPost_ret (v := .bool true) (by simp [results, Try.results3, go_sem]) rfl ⟨rfl, below_on (below_on HB.out HB5.out) hq14⟩
end Go.Proofs.Ytlikpafjlojagaa
