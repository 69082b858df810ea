/- The law of fronts of matches. -/
import Derived.Test.YteaimnlfbbkccaaMatR
namespace Go.Proofs.Yteaimnlfbbkccaa
open Go.RowKit
set_option linter.unusedVariables false
set_option maxRecDepth 100000

theorem round_mono {m n : Nat} (h : m ≤ n) : m + zeros10 m ≤ n + zeros10 n := by unfold zeros10; omega
theorem head_bytes {n : Nat} (hn : n ≤ 65535) (r : List Int) : ∃ x y : Int, (head10 n ++ r)[2]? = some x ∧ (head10 n ++ r)[3]? = some y ∧ 0 ≤ x ∧ x ≤ 255 ∧ 0 ≤ y ∧ y ≤ 255 ∧ x * 256 + y = n := by
  refine ⟨byteAt n 1, byteAt n 0, ?_, ?_, ?_⟩
  · simp [head10, bytesL]
  · simp [head10, bytesL]
  · rw [byteAt_0, byteAt_1]
    omega
theorem front_parts (L : List Ox9) (k : Nat) : ((match10 (L.take k)).take (len10 (L.take k))).drop 4 = body10 (L.take k) ∧ ((match10 L).take (len10 (L.take k))).drop 4 = body10 (L.take k) := by
  constructor
  · have h := (parts10 (head10 (len10 (L.take k))) (body10 (L.take k)) (List.replicate (zeros10 (len10 (L.take k))) 0) [] (N := len10 (L.take k)) (by rw [head10_length]; rfl)).1
    rw [List.append_nil, ← match_eq] at h
    rw [h]
    have e := head10_length (len10 (L.take k))
    rw [List.drop_append, List.drop_of_length_le (by omega), e]
    simp
  · have hb := body_front L k
    have e := head10_length (len10 L)
    rw [match_eq, hb]
    have h := (parts10 (head10 (len10 L)) (body10 (L.take k)) (body10 (L.drop k)) (List.replicate (zeros10 (len10 L)) 0) (N := len10 (L.take k)) (by rw [e]; rfl)).1
    rw [h, List.drop_append, List.drop_of_length_le (by omega), e]
    simp

set_option maxHeartbeats 4000000 in
theorem MatchFront_few (a : Option Addr) (l : List Ent9) (cap : Nat) (n : Int) (w : World) (hO : Oxms w a l) (h1 : l.length ≤ 9223372036854775807) (hf : fewL9 l = false) :
    Calls Try.prog 7 #[.slice a l.length cap, .int .u8 n] w fun e w' => e = .returned (.bool true) ∧ Below w.heap.size w w' := by
  have HF := refFew9_any l a cap w hO h1
  have HS := hid (fun w => sure10_any w)
  rw [hf] at HF
  have HFF := hid HF
  clear HF hf hO
  go_enter Try.func7, Try.ntmps7
  go_wp2_with fail
  refine HFF.out.mono ?_
  rintro e w1 ⟨rfl, hb1⟩
  have HB1 := hid hb1
  clear hb1
  go_wp2_with fail
  refine (HS.out _).mono ?_
  rintro e w2 ⟨rfl, hb2⟩
  have HB2 := hid (below_on HB1.out hb2)
  clear hb2
  go_wp2_with fail
  exact bodyPost_ret (v := .bool true) (by simp [results, Try.results7, go_sem]) rfl ⟨rfl, HB2.out⟩

set_option maxHeartbeats 4000000 in
theorem MatchFront_no (a : Option Addr) (l : List Ent9) (cap : Nat) (n : Int) (w : World) (hL : L9 w a l) (hlc : l.length ≤ cap) (hf : fewL9 l = true) (hi : isMatch10 (l.map Ent9.o) = false) :
    Calls Try.prog 7 #[.slice a l.length cap, .int .u8 n] w fun e w' => e = .returned (.bool true) ∧ Below w.heap.size w w' := by
  have HF := refFew9_any l a cap w hL.ox (by have := hL.len; omega)
  have HS := hid (fun w => sure10_any w)
  rw [hf] at HF
  have HFF := hid HF
  have HR := hid (fun (W : World) (h : Below w.heap.size w W) => by have e := right10_any W a cap l (hL.below h) hlc (few_len10 hf); rw [hi] at e; exact e)
  clear HF hf hL hi
  go_enter Try.func7, Try.ntmps7
  go_wp2_with fail
  refine HFF.out.mono ?_
  rintro e w1 ⟨rfl, hb1⟩
  have HB1 := hid hb1
  clear hb1
  go_wp2_with fail
  refine (HR.out _ HB1.out).mono ?_
  rintro e w3 ⟨rfl, hb3⟩
  have HB3 := hid (below_on HB1.out hb3)
  clear hb3
  go_wp2_with fail
  refine (HS.out _).mono ?_
  rintro e w2 ⟨rfl, hb2⟩
  have HB2 := hid (below_on HB3.out hb2)
  clear hb2
  go_wp2_with fail
  exact bodyPost_ret (v := .bool true) (by simp [results, Try.results7, go_sem]) rfl ⟨rfl, HB2.out⟩

set_option maxHeartbeats 8000000 in
theorem MatchFront_yes (a : Option Addr) (l : List Ent9) (cap : Nat) (n : Int) (hn : 0 ≤ n ∧ n ≤ 255) (w : World) (hL : L9 w a l) (hlc : l.length ≤ cap) (hf : fewL9 l = true) (hi : isMatch10 (l.map Ent9.o) = true) :
    Calls Try.prog 7 #[.slice a l.length cap, .int .u8 n] w fun e w' => e = .returned (.bool true) ∧ Below w.heap.size w w' := by
  have hbig := few_len10 hf
  have HF := refFew9_any l a cap w hL.ox (by have := hL.len; omega)
  have HS := hid (fun w => sure10_any w)
  rw [hf] at HF
  have HFF := hid HF
  have hll : l.length ≤ 60 := by unfold fewL9 at hf; rw [Bool.and_eq_true, decide_eq_true_iff] at hf; exact hf.2
  have HR := hid (fun (W : World) (h : Below w.heap.size w W) => by have e := right10_any W a cap l (hL.below h) hlc hbig; rw [hi] at e; exact e)
  have HE := hid (fun (W : World) (h : Below w.heap.size w W) => by have e := encode10_any W a cap l (hL.below h) hlc hbig; unfold EncPost10 at e; rw [hi] at e; exact e)
  obtain ⟨k, hk⟩ : ∃ k : Nat, n.tmod ((l.length : Int) + 1) = k := ⟨(n.tmod ((l.length : Int) + 1)).toNat, by
    rw [Int.tmod_eq_emod_of_nonneg hn.1]; have := Int.emod_nonneg n (b := (l.length : Int) + 1) (by omega); omega⟩
  have hkl : k ≤ l.length := by
    rw [Int.tmod_eq_emod_of_nonneg hn.1] at hk
    have := Int.emod_lt_of_pos n (b := (l.length : Int) + 1) (by omega)
    omega
  have hik := match_front hi k
  have hlk := len_front (l.map Ent9.o) k
  have hlen : (l.take k).length = k := by rw [List.length_take]; omega
  have hmap : (l.take k).map Ent9.o = (l.map Ent9.o).take k := List.map_take
  have HEK := hid (fun (W : World) (h : Below w.heap.size w W) => by have e := encode10_any W a cap (l.take k) ((hL.take k).below h) (by rw [hlen]; omega) (by rw [hmap]; omega); unfold EncPost10 at e; rw [hmap, hik, hlen] at e; exact e)
  have HRK := hid (fun (W : World) (h : Below w.heap.size w W) => by have e := right10_any W a cap (l.take k) ((hL.take k).below h) (by rw [hlen]; omega) (by rw [hmap]; omega); rw [hmap, hik, hlen] at e; exact e)
  obtain ⟨p1, p2⟩ := front_parts (l.map Ent9.o) k
  have q1 := match10_length ((l.map Ent9.o).take k)
  have q2 := match10_length (l.map Ent9.o)
  have q3 := match_pos ((l.map Ent9.o).take k)
  have q4 := round_mono hlk
  obtain ⟨x, y, hx, hy, bx⟩ := head_bytes (n := len10 ((l.map Ent9.o).take k)) (by omega) (body10 ((l.map Ent9.o).take k) ++ List.replicate (zeros10 (len10 ((l.map Ent9.o).take k))) 0)
  rw [← match_eq] at hx hy
  have hN4 : 4 ≤ len10 ((l.map Ent9.o).take k) := by unfold len10; omega
  have hNs : len10 (l.map Ent9.o) ≤ 65528 := hbig
  obtain ⟨N, hNN⟩ : ∃ N, len10 ((l.map Ent9.o).take k) = N := ⟨_, rfl⟩
  obtain ⟨M, hM⟩ : ∃ M, match10 (l.map Ent9.o) = M := ⟨_, rfl⟩
  obtain ⟨K, hK⟩ : ∃ K, match10 ((l.map Ent9.o).take k) = K := ⟨_, rfl⟩
  obtain ⟨P, hP⟩ : ∃ P, body10 ((l.map Ent9.o).take k) = P := ⟨_, rfl⟩
  have hPl : P.length + 4 = N := by rw [← hNN, ← hP]; unfold len10; omega
  rw [hM] at HE q2 p2
  rw [hK] at HEK q1 q3 hx hy p1
  rw [hNN] at q1 q3 q4 bx p1 p2 hN4 hlk
  rw [hP] at p1 p2
  have hKM : K.length ≤ M.length := by omega
  have hNK : N ≤ K.length := by omega
  have hK8 : 8 ≤ K.length := q3.1
  have hNM : N ≤ M.length := by omega
  have hN6 : N ≤ 65528 := by omega
  have hMl : M.length ≤ 65536 := by have := zeros_lt10 (len10 (l.map Ent9.o)); omega
  have HP1 := hid p1
  have HP2 := hid p2
  have HX := hid hx
  have HY := hid hy
  have HBX := hid bx
  have HPL := hid hPl
  have hk' : n.tmod ((l.length : Int) + 1) = (k : Int) := hk
  have hkc : (k : Int) ≤ (cap : Int) := by omega
  have hnn := hn.1
  have hn5 := hn.2
  have hpos : ¬ ((l.length : Int) + 1 = 0) := by omega
  have hKMi : ¬ (M.length : Int) < (K.length : Int) := by omega
  have hK8i : ¬ (K.length : Int) < 8 := by omega
  clear HF hf hL hi hbig hik hlk hlen hmap p1 p2 q1 q2 q3 q4 hx hy bx hNN hM hK hP hPl hk hn hNs
  go_enter Try.func7, Try.ntmps7
  go_wp2_with fail
  refine HFF.out.mono ?_
  rintro e w1 ⟨rfl, hb1⟩
  have HB1 := hid hb1
  clear hb1
  go_wp2_with fail
  refine (HR.out _ HB1.out).mono ?_
  rintro e w2 ⟨rfl, hb2⟩
  have HB2 := hid (below_on HB1.out hb2)
  clear hb2
  go_wp2_with fail
  refine (HEK.out _ HB2.out).mono ?_
  rintro e w3 (⟨h, _⟩ | ⟨_, ga, rfl, hb3, hIa, _⟩)
  · cases h
  have HB3 := hid (below_on HB2.out hb3)
  have HIA := hid hIa
  clear hb3 hIa
  go_wp2_with fail
  refine (HE.out _ HB3.out).mono ?_
  rintro e w4 (⟨h, _⟩ | ⟨_, gb, rfl, hb4, hIb, _⟩)
  · cases h
  have HB4 := hid (below_on HB3.out hb4)
  have HIA4 := hid (HIA.out.below hb4)
  have HIB := hid hIb
  clear hb4 hIb
  go_upto_region 8 with fail
  obtain ⟨⟨b2, o2, x', e2, c2, hx2⟩, ⟨b3, o3, y', e3, c3, hy3⟩⟩ := And.intro (HIA4.out.at (show 2 < K.length by omega)) (HIA4.out.at (show 3 < K.length by omega))
  simp only [Option.some.injEq, Addr.mk.injEq] at e2 e3
  obtain ⟨rfl, rfl, _⟩ := e2
  obtain ⟨rfl, rfl, _⟩ := e3
  have ex : x' = x := by have := hx2.out; rw [HX.out] at this; simpa using this.symm
  have ey : y' = y := by have := hy3.out; rw [HY.out] at this; simpa using this.symm
  subst ex
  subst ey
  have d2 := Wk.cell c2
  have d3 := Wk.cell c3
  obtain ⟨bx0, bx1, by0, by1, bxy⟩ := HBX.out
  have HBXY := hid bxy
  have k2 : (2 : Int) < (K.length : Int) := by omega
  have k3 : (3 : Int) < (K.length : Int) := by omega
  clear c2 c3 hx2 hy3 bxy
  refine wp_region_wk (by kernel_rfl) (by kernel_rfl) ?_
  repeat (go_big_quiet_step (fail))
  refine wpQuiet_nil ?_
  rintro w5 ⟨⟨_, hb5⟩, rfl⟩
  clear d2 d3
  have HB5 := hid (below_on HB4.out hb5)
  have HIA5 := hid (HIA4.out.below hb5)
  have HIB5 := hid (HIB.out.below hb5)
  clear hb5
  rw [HBXY.out]
  have HCR : Hid (∀ j : Wk w5, Calls Try.prog 16 #[.slice a k cap] j.val fun e w'' => e = .returned (.bool true) ∧ ∃ m : Wk w5, w'' = m.val) := by
    show _
    intro j
    exact Wk.call (HRK.out j.val (below_on HB5.out j.bel))
  have HCB : Hid (∀ j : Wk w5, Calls Try.prog 17 #[.slice (some ⟨ga, 4, none⟩) (N - 4) (K.length - 4), .slice (some ⟨gb, 4, none⟩) (N - 4) (M.length - 4)] j.val fun e w'' => e = .returned (.bool true) ∧ ∃ m : Wk w5, w'' = m.val) := by
    show _
    intro j
    have e : N - 4 = P.length := by have := HPL.out; omega
    have i1 : Ints .u8 j.val (some ⟨ga, 4, none⟩) P := by
      have h := ((HIA5.out.below j.bel).take N).drop (j := 4) (show (K.take N).length ≤ K.length by rw [List.length_take]; omega)
      rw [if_neg (by omega), HP1.out] at h
      simpa using h
    have i2 : Ints .u8 j.val (some ⟨gb, 4, none⟩) P := by
      have h := ((HIB5.out.below j.bel).take N).drop (j := 4) (show (M.take N).length ≤ M.length by rw [List.length_take]; omega)
      rw [if_neg (by omega), HP2.out] at h
      simpa using h
    have h := bytes8_any P P _ _ (N - 4) (N - 4) (K.length - 4) (M.length - 4) e e j.val (by omega) (by omega) i1 i2
    rw [rfl_beq10] at h
    exact Wk.call h
  have HCS : Hid (∀ j : Wk w5, Calls Try.prog 9 #[] j.val fun e w'' => e = .returned (.bool true) ∧ ∃ m : Wk w5, w'' = m.val) := fun j => Wk.call (HS.out j.val)
  have r1 : (4 : Int) ≤ (N : Int) := by omega
  have r2 : (N : Int) ≤ (K.length : Int) := by omega
  have r3 : (N : Int) ≤ (M.length : Int) := by omega
  have r4 : ((N : Int) - 4).toNat = N - 4 := by omega
  have r5 : ((K.length : Int) - 4).toNat = K.length - 4 := by omega
  have r6 : ((M.length : Int) - 4).toNat = M.length - 4 := by omega
  have r7 : ¬ K.length = 4 := by omega
  have r8 : ¬ M.length = 4 := by omega
  clear hKM hNK hK8 hNM hN6 hMl hKMi hK8i k2 k3 bx0 bx1 by0 by1
  go_upto_region 9 with fail
  refine wp_region_wk (by kernel_rfl) (by kernel_rfl) ?_
  repeat (go_big_quiet_step (first | (go_at_call 16; exact HCR.out _) | (go_at_call 17; exact HCB.out _) | (go_at_call 9; exact HCS.out _) | fail))
  refine wpQuiet_nil ?_
  rintro w6 ⟨⟨_, hb6⟩, rfl⟩
  have HB6 := hid (below_on HB5.out hb6)
  clear hb6
  go_wp2_with fail
  exact bodyPost_ret (v := .bool true) (by simp [results, Try.results7, go_sem]) rfl ⟨rfl, HB6.out⟩
theorem MatchFront_walk (a : Option Addr) (len cap : Nat) (n : Int) (hn : 0 ≤ n ∧ n ≤ 255) (w : World) (h0 : IsOxmsC w a len cap) (h1 : len ≤ 9223372036854775807) :
    Calls Try.prog 7 #[.slice a len cap, .int .u8 n] w fun e w' => e = .returned (.bool true) ∧ Below w.heap.size w w' := by
  obtain ⟨hlc, hcm, l, rfl, hO, hE⟩ := h0
  by_cases hf : fewL9 l = true
  · have hL := few_l9 hO hE hf
    cases hi : isMatch10 (l.map Ent9.o)
    · exact MatchFront_no a l cap n w hL hlc hf hi
    · exact MatchFront_yes a l cap n hn w hL hlc hf hi
  · exact MatchFront_few a l cap n w hO h1 (by simpa using hf)
end Go.Proofs.Yteaimnlfbbkccaa
