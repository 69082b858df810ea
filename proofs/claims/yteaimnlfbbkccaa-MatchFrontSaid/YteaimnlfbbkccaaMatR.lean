/- The law of matches and back. -/
import Derived.Test.YteaimnlfbbkccaaMatQ
namespace Go.Proofs.Yteaimnlfbbkccaa
open Go.RowKit
set_option linter.unusedVariables false
set_option maxRecDepth 100000

theorem mres_ok {b : List Int} {L : List Ox9} {n : Nat} (h : matchL b = .ok (L, n)) : mres b = (L, n, 0) := by unfold mres; rw [h]
theorem mres_err {b : List Int} {q : Int} (h : matchL b = .error q) : mres b = ([], 0, q) := by unfold mres; rw [h]
theorem len8_rem (L : List Ox9) : (((match10 L).length : Nat) : Int).tmod 8 = 0 := by
  have := zeros_even10 (len10 L)
  rw [match10_length, Int.tmod_eq_emod_of_nonneg (by omega)]
  omega
theorem body_oct {L : List Ent9} {w : World} (h : ∀ x ∈ L, EntIn w x) : Octets (match10 (L.map Ent9.o)) := by
  have hb : Octets (body10 (L.map Ent9.o)) := by
    intro y hy
    unfold body10 at hy
    obtain ⟨o, ho, hyo⟩ := List.mem_flatMap.1 hy
    obtain ⟨x, hx, rfl⟩ := List.mem_map.1 ho
    exact oxm_octets (h x hx).ov (h x hx).om y hyo
  unfold match10 head10
  intro y hy
  rcases List.mem_append.1 hy with hy | hy
  · rcases List.mem_append.1 hy with hy | hy
    · rcases List.mem_append.1 hy with hy | hy
      · exact bytesL_octets _ _ y hy
      · rcases List.mem_append.1 hy with hy | hy
        · exact bytesL_octets _ _ y hy
        · cases hy
    · exact hb y hy
  · rw [List.eq_of_mem_replicate hy]; omega

set_option maxHeartbeats 4000000 in
theorem MatchBack_few (a : Option Addr) (l : List Ent9) (cap : Nat) (ba : Option Addr) (bc : Nat) (b : List Int) (w : World) (hO : Oxms w a l) (h1 : l.length ≤ 9223372036854775807) (hf : fewL9 l = false ∨ 1500 < b.length) :
    Calls Try.prog 6 #[.slice a l.length cap, .slice ba b.length bc] w fun e w' => e = .returned (.bool true) ∧ Below w.heap.size w w' := by
  have HF := refFew9_any l a cap w hO h1
  have HS := hid (fun w => sure10_any w)
  have ways : fewL9 l = false ∨ (fewL9 l = true ∧ (1500 : Int) < (b.length : Int)) := by
    rcases hf with h | h
    · exact .inl h
    · cases hx : fewL9 l
      · exact .inl rfl
      · exact .inr ⟨rfl, by omega⟩
  rcases ways with h | ⟨h, hm⟩
  all_goals
    rw [h] at HF
    have HFF := hid HF
    clear HF h hf hO
    go_enter Try.func6, Try.ntmps6
    go_wp2_with fail
    refine HFF.out.mono ?_
    rintro e w1 ⟨rfl, hb1⟩
    have HB1 := hid hb1
    clear hb1
    go_wp2_with fail
    refine (HS.out _).mono ?_
    rintro e w2 ⟨rfl, hb2⟩
    have HB2 := hid (below_on HB1.out hb2)
    clear hb2
    go_wp2_with fail
    exact bodyPost_ret (v := .bool true) (by simp [results, Try.results6, go_sem]) rfl ⟨rfl, HB2.out⟩

set_option maxHeartbeats 8000000 in
theorem MatchBack_noErr (a : Option Addr) (l : List Ent9) (cap : Nat) (ba : Option Addr) (bc : Nat) (b : List Int) (w : World) (hL : L9 w a l) (hlc : l.length ≤ cap) (hf : fewL9 l = true) (hbc : b.length ≤ bc) (hcm : bc ≤ 9223372036854775807) (hb : b.length ≤ 1500) (ho : Octets b) (hI : Ints .u8 w ba b) (hi : isMatch10 (l.map Ent9.o) = false) {q : Int} (hq : matchL b = .error q) (hq0 : q ≠ 0) :
    Calls Try.prog 6 #[.slice a l.length cap, .slice ba b.length bc] w fun e w' => e = .returned (.bool true) ∧ Below w.heap.size w w' := by
  have hbig := few_len10b hf
  have hll : l.length ≤ 60 := by unfold fewL9 at hf; rw [Bool.and_eq_true, decide_eq_true_iff] at hf; exact hf.2
  have HF := refFew9_any l a cap w hL.ox (by have := hL.len; omega)
  rw [hf] at HF
  have HFF := hid HF
  have HS := hid (fun w => sure10_any w)
  have hcb : (vals10 ((b.take (num10 b).toNat).drop 4)).1.length ≤ 1000 := by
    have h := vals_few10 _ ((b.take (num10 b).toNat).drop 4) (Nat.le_refl _) ((ho.take _).drop 4)
    have : ((b.take (num10 b).toNat).drop 4).length ≤ b.length := by rw [List.length_drop, List.length_take]; omega
    omega
  have HE := encode10_any w a cap l hL hlc (by omega)
  have HDB := hid (fun (W : World) (h : Below w.heap.size w W) => decode10_any b ba bc hbc (by omega) ho W (hI.below h) hcb)
  unfold EncPost10 at HE
  rw [hi] at HE
  have HI := hid hI
  have HL := hid hL
  have hbi : ¬ (1500 : Int) < (b.length : Int) := by omega
  have hb15 : (b.length : Int) ≤ 1500 := by omega
  have HRB := hid (mres_err hq)
  have gq : (q != 0) = true := by simpa using hq0
  clear hq hq0
  have HEE := hid (fun (W : World) (h : Below w.heap.size w W) => by have e := encode10_any W a cap l (hL.below h) hlc (by omega); unfold EncPost10 at e; rw [hi] at e; exact e)
  clear HE
  clear hL hf hbig HF hI hcb hi ho
  go_enter Try.func6, Try.ntmps6
  go_wp2_with fail
  refine HFF.out.mono ?_
  rintro e w1 ⟨rfl, hb1⟩
  have HB1 := hid hb1
  clear hb1
  go_wp2_with fail
  refine (HEE.out _ HB1.out).mono ?_
  rintro e w2 (⟨_, rfl, hb2⟩ | ⟨h, _⟩)
  rotate_left
  · cases h
  have HBX := hid (below_on HB1.out hb2)
  clear hb2
  go_wp2_with fail
  refine (HDB.out _ HBX.out).mono ?_
  intro e w8 hd
  obtain ⟨vb, vd, D8, rfl, hD8, hL8, hdc8, _, _, hb8⟩ := dec_uni hd
  rw [HRB.out] at hD8 ⊢
  have HB8 := hid (below_on HBX.out hb8)
  have HL8 := hid hL8
  have HD8 := hid hD8
  clear hd hb8 hL8 hD8
  simp only
  have hD80 : D8 = [] := List.map_eq_nil_iff.1 HD8.out
  subst hD80
  go_wp2_with fail
  refine (HS.out _).mono ?_
  rintro e w9 ⟨rfl, hb9⟩
  have HB9 := hid (below_on HB8.out hb9)
  clear hb9
  go_wp2_with fail
  exact bodyPost_ret (v := .bool true) (by simp [results, Try.results6, go_sem]) rfl ⟨rfl, HB9.out⟩

set_option maxHeartbeats 8000000 in
theorem MatchBack_noOk (a : Option Addr) (l : List Ent9) (cap : Nat) (ba : Option Addr) (bc : Nat) (b : List Int) (w : World) (hL : L9 w a l) (hlc : l.length ≤ cap) (hf : fewL9 l = true) (hbc : b.length ≤ bc) (hcm : bc ≤ 9223372036854775807) (hb : b.length ≤ 1500) (ho : Octets b) (hI : Ints .u8 w ba b) (hi : isMatch10 (l.map Ent9.o) = false) {L : List Ox9} {n : Nat} (hq : matchL b = .ok (L, n)) :
    Calls Try.prog 6 #[.slice a l.length cap, .slice ba b.length bc] w fun e w' => e = .returned (.bool true) ∧ Below w.heap.size w w' := by
  have hbig := few_len10b hf
  have hll : l.length ≤ 60 := by unfold fewL9 at hf; rw [Bool.and_eq_true, decide_eq_true_iff] at hf; exact hf.2
  have HF := refFew9_any l a cap w hL.ox (by have := hL.len; omega)
  rw [hf] at HF
  have HFF := hid HF
  have HS := hid (fun w => sure10_any w)
  have hcb : (vals10 ((b.take (num10 b).toNat).drop 4)).1.length ≤ 1000 := by
    have h := vals_few10 _ ((b.take (num10 b).toNat).drop 4) (Nat.le_refl _) ((ho.take _).drop 4)
    have : ((b.take (num10 b).toNat).drop 4).length ≤ b.length := by rw [List.length_drop, List.length_take]; omega
    omega
  have HE := encode10_any w a cap l hL hlc (by omega)
  have HDB := hid (fun (W : World) (h : Below w.heap.size w W) => decode10_any b ba bc hbc (by omega) ho W (hI.below h) hcb)
  unfold EncPost10 at HE
  rw [hi] at HE
  have HI := hid hI
  have HL := hid hL
  have hbi : ¬ (1500 : Int) < (b.length : Int) := by omega
  have hb15 : (b.length : Int) ≤ 1500 := by omega
  have HRB := hid (mres_ok hq)
  have hft := match_forth hq ho
  have HFT := hid hft
  have hnl : n ≤ b.length := hft.2.2.1
  have hnb : (n : Int) ≤ (b.length : Int) := by omega
  have hnc : (n : Int) ≤ (bc : Int) := by omega
  have hn15 : n ≤ 1500 := by omega
  obtain ⟨T, hT⟩ : ∃ T, b.take n = T := ⟨_, rfl⟩
  have hTl : T.length = n := by rw [← hT, List.length_take]; omega
  have HTL := hid hTl
  have HTT := hid hT
  have HMT := hid (show match10 L = T by rw [hft.2.1, hT])
  clear hq hft hT hTl
  have HEE := hid (fun (W : World) (h : Below w.heap.size w W) => by have e := encode10_any W a cap l (hL.below h) hlc (by omega); unfold EncPost10 at e; rw [hi] at e; exact e)
  clear HE
  clear hL hf hbig HF hI hcb hi ho
  go_enter Try.func6, Try.ntmps6
  go_wp2_with fail
  refine HFF.out.mono ?_
  rintro e w1 ⟨rfl, hb1⟩
  have HB1 := hid hb1
  clear hb1
  go_wp2_with fail
  refine (HEE.out _ HB1.out).mono ?_
  rintro e w2 (⟨_, rfl, hb2⟩ | ⟨h, _⟩)
  rotate_left
  · cases h
  have HBX := hid (below_on HB1.out hb2)
  clear hb2
  go_wp2_with fail
  refine (HDB.out _ HBX.out).mono ?_
  intro e w8 hd
  obtain ⟨vb, vd, D8, rfl, hD8, hL8, hdc8, _, _, hb8⟩ := dec_uni hd
  rw [HRB.out] at hD8 ⊢
  have HB8 := hid (below_on HBX.out hb8)
  have HL8 := hid hL8
  have HD8 := hid hD8
  clear hd hb8 hL8 hD8
  simp only
  have HE8 := encode10_any w8 vb vd D8 HL8.out hdc8 (by rw [HD8.out]; exact HFT.out.2.2.2.1)
  unfold EncPost10 at HE8
  rw [HD8.out, HFT.out.1, HMT.out] at HE8
  have HEX := hid HE8
  clear HE8
  go_wp2_with fail
  refine HEX.out.mono ?_
  rintro e w9 (⟨h, _⟩ | ⟨_, gx, rfl, hb9, hI9, _⟩)
  · cases h
  have HB9 := hid (below_on HB8.out hb9)
  have HI9 := hid hI9
  have HR9 := right10_any w9 vb vd D8 (HL8.out.below hb9) hdc8 (by rw [HD8.out]; exact HFT.out.2.2.2.1)
  rw [HD8.out, HFT.out.1] at HR9
  have HRX := hid HR9
  clear hb9 hI9 HR9
  go_wp2_with fail
  refine HRX.out.mono ?_
  rintro e w10 ⟨rfl, hb10⟩
  have HB10 := hid (below_on HB9.out hb10)
  have HC := hid (bytes8_any T T (some ⟨gx, 0, none⟩) ba T.length n T.length bc rfl HTL.out.symm w10 (by rw [HTL.out]; omega) (by rw [HTL.out]; omega) (HI9.out.below hb10) (by rw [← HTT.out]; exact ((HI.out.below HB10.out).take n)))
  rw [rfl_beq10] at HC
  clear hb10
  go_wp2_with fail
  refine HC.out.mono ?_
  rintro e w11 ⟨rfl, hb11⟩
  have HB11 := hid (below_on HB10.out hb11)
  clear hb11
  go_wp2_with fail
  refine (HS.out _).mono ?_
  rintro e w12 ⟨rfl, hb12⟩
  have HB12 := hid (below_on HB11.out hb12)
  clear hb12
  go_wp2_with fail
  exact bodyPost_ret (v := .bool true) (by simp [results, Try.results6, go_sem]) rfl ⟨rfl, HB12.out⟩

set_option maxHeartbeats 8000000 in
theorem MatchBack_yesErr (a : Option Addr) (l : List Ent9) (cap : Nat) (ba : Option Addr) (bc : Nat) (b : List Int) (w : World) (hL : L9 w a l) (hlc : l.length ≤ cap) (hf : fewL9 l = true) (hbc : b.length ≤ bc) (hcm : bc ≤ 9223372036854775807) (hb : b.length ≤ 1500) (ho : Octets b) (hI : Ints .u8 w ba b) (hi : isMatch10 (l.map Ent9.o) = true) {q : Int} (hq : matchL b = .error q) (hq0 : q ≠ 0) :
    Calls Try.prog 6 #[.slice a l.length cap, .slice ba b.length bc] w fun e w' => e = .returned (.bool true) ∧ Below w.heap.size w w' := by
  have hbig := few_len10b hf
  have hll : l.length ≤ 60 := by unfold fewL9 at hf; rw [Bool.and_eq_true, decide_eq_true_iff] at hf; exact hf.2
  have HF := refFew9_any l a cap w hL.ox (by have := hL.len; omega)
  rw [hf] at HF
  have HFF := hid HF
  have HS := hid (fun w => sure10_any w)
  have hcb : (vals10 ((b.take (num10 b).toNat).drop 4)).1.length ≤ 1000 := by
    have h := vals_few10 _ ((b.take (num10 b).toNat).drop 4) (Nat.le_refl _) ((ho.take _).drop 4)
    have : ((b.take (num10 b).toNat).drop 4).length ≤ b.length := by rw [List.length_drop, List.length_take]; omega
    omega
  have HE := encode10_any w a cap l hL hlc (by omega)
  have HDB := hid (fun (W : World) (h : Below w.heap.size w W) => decode10_any b ba bc hbc (by omega) ho W (hI.below h) hcb)
  unfold EncPost10 at HE
  rw [hi] at HE
  have HI := hid hI
  have HL := hid hL
  have hbi : ¬ (1500 : Int) < (b.length : Int) := by omega
  have hb15 : (b.length : Int) ≤ 1500 := by omega
  have HRB := hid (mres_err hq)
  have gq : (q != 0) = true := by simpa using hq0
  clear hq hq0
  have HEE := hid (fun (W : World) (h : Below w.heap.size w W) => by have e := encode10_any W a cap l (hL.below h) hlc (by omega); unfold EncPost10 at e; rw [hi] at e; exact e)
  clear HE
  have hX : ∀ o ∈ l.map Ent9.o, 0 ≤ o.X := by intro o ho; obtain ⟨x, hx, rfl⟩ := List.mem_map.1 ho; exact (hL.ent x hx).x.1
  obtain ⟨hbk, hbkh⟩ := match_back hi hX (by omega) b
  obtain ⟨hle, hleh⟩ := match_less (L := l.map Ent9.o) (by omega)
  have hmo := body_oct (L := l) (w := w) hL.ent
  have hm8 := len8_rem (l.map Ent9.o)
  have hp := match_pos (l.map Ent9.o)
  have hvb : ∀ n, HeadOk (match10 (l.map Ent9.o) ++ b) n → (vals10 (((match10 (l.map Ent9.o) ++ b).take n).drop 4)).1.length ≤ 1000 := by
    intro n hn
    have e : n = len10 (l.map Ent9.o) := by have h1 := hn.1; rw [hbkh.1] at h1; omega
    subst e
    have hm := hbk
    rw [match_body hn.1 hn.2.1 hn.2.2.1 hn.2.2.2.1 hn.2.2.2.2.1 hn.2.2.2.2.2] at hm
    split at hm
    · cases hm
    · split at hm
      · cases hm
      · simp only [Except.ok.injEq, Prod.mk.injEq] at hm
        rw [hm.1, List.length_map]; omega
  have hbL : len10 (l.map Ent9.o) ≤ 40000 := hbig
  obtain ⟨M, hM⟩ : ∃ M, match10 (l.map Ent9.o) = M := ⟨_, rfl⟩
  rw [hM] at HEE hbk hle hleh hmo hm8 hp hvb
  obtain ⟨Y, hY⟩ : ∃ Y, M ++ b = Y := ⟨_, rfl⟩
  have hYl : Y.length = M.length + b.length := by rw [← hY, List.length_append]
  have hYo : Octets Y := by rw [← hY]; intro x hx; rcases List.mem_append.1 hx with h | h; exact hmo x h; exact ho x h
  rw [hY] at hbk hvb
  obtain ⟨Z, hZ⟩ : ∃ Z, M.take (M.length - 1) = Z := ⟨_, rfl⟩
  have hZl : Z.length = M.length - 1 := by rw [← hZ, List.length_take]; omega
  have hZo : Octets Z := by rw [← hZ]; exact hmo.take _
  rw [hZ] at hle hleh
  have HDY := hid (fun (W : World) (a : Option Addr) (c : Nat) (h1 : Y.length ≤ c) (h2 : Ints .u8 W a Y) => decode10_gen Y a c h1 (by omega) hYo W h2 hvb)
  have HDZ := hid (fun (W : World) (a : Option Addr) (c : Nat) (h1 : Z.length ≤ c) (h2 : Ints .u8 W a Z) => decode10_gen Z a c h1 (by omega) hZo W h2 (fun n hn => absurd hn (hleh n)))
  rw [hZl] at HDZ
  have HYL := hid hYl
  have HY := hid hY
  have HZ := hid hZ
  have HZL := hid hZl
  have HRY := hid (mres_ok hbk)
  have HRZ := hid (mres_err hle)
  have hMp : 8 ≤ M.length := by omega
  have hMq : M.length ≤ 40007 := by omega
  have hMi : (8 : Int) ≤ (M.length : Int) := by omega
  have hMj : ((M.length : Int) - 1).toNat = M.length - 1 := by omega
  have HMR := hid hm8
  clear hX hbk hbkh hle hleh hmo hm8 hp hvb hbL hM hY hYl hYo hZ hZl hZo
  clear hL hf hbig HF hI hcb hi ho
  go_enter Try.func6, Try.ntmps6
  go_wp2_with fail
  refine HFF.out.mono ?_
  rintro e w1 ⟨rfl, hb1⟩
  have HB1 := hid hb1
  clear hb1
  go_wp2_with fail
  refine (HEE.out _ HB1.out).mono ?_
  rintro e w2 (⟨h, _⟩ | ⟨_, ga, rfl, hb2, hIa, _⟩)
  · cases h
  have HB2 := hid (below_on HB1.out hb2)
  have HIA := hid hIa
  clear hb2 hIa
  have HF0 := hid (own_emptyI w2 5 .u8)
  have hIm := HIA.out.below (below_alloc w2 (.cells #[] 5))
  have HIB := hid (HI.out.below HB2.out)
  go_wp2_with (first
    | (at_builtin; refine wp_app_ints rfl (.tmp 35) (.tmp 36) rfl elemU8 rfl HF0.out rfl rfl hIm (List.nil_append M) ?_ ?_ ?_; omega; omega; intro a5 c5 w3 hl5 hc5 hI5 hg5; have HF5 := hid hg5.first; have HIB3 := hid (HIB.out.below HF5.out.bel); clear hI5 hg5)
    | (at_builtin; refine wp_app_ints rfl (.tmp 37) (.tmp 38) rfl elemU8 rfl HF5.out.own rfl rfl HIB3.out HY.out ?_ ?_ ?_; (have := HYL.out; omega); (have := HYL.out; omega); intro a6 c6 w4 hl6 hc6 hI6 hg6; have HF6 := hid (HF5.out.step hg6); have HI6 := hid hI6; clear hI6 hg6)
    | fail)
  refine (HDY.out w4 a6 c6 hl6 HI6.out).mono ?_
  intro e w5 hd
  obtain ⟨va, vc, D, rfl, hD, hL5, _, _, _, hb5⟩ := dec_uni hd
  rw [HRY.out] at hD ⊢
  have HB25 := hid (below_on HF6.out.bel hb5)
  have HL5 := hid hL5
  have HD := hid hD
  clear hd hb5 hL5 hD
  simp only
  have hmr := HMR.out
  have HSM := refSame9_any l D a va cap vc w5 (HL.out.below (below_on HB2.out HB25.out)) HL5.out
  rw [same_yes10 rfl HD.out] at HSM
  have HSS := hid HSM
  clear HSM
  go_wp2_with fail
  refine HSS.out.mono ?_
  rintro e w6 ⟨rfl, hb6⟩
  have HB26 := hid (below_on HB25.out hb6)
  clear hb6 hmr HSS
  have HIZ := hid (show Ints .u8 w6 (some ⟨ga, 0, none⟩) Z by rw [← HZ.out]; exact (HIA.out.below HB26.out).take _)
  go_wp2_with fail
  refine (HDZ.out w6 (some ⟨ga, 0, none⟩) M.length (Nat.sub_le _ _) HIZ.out).mono ?_
  intro e w7 hd
  obtain ⟨va7, vc7, D7, rfl, _, _, _, _, _, hb7⟩ := dec_uni hd
  rw [HRZ.out]
  simp only
  have HBX := hid (below_on (below_on HB2.out HB26.out) hb7)
  clear hd hb7
  go_wp2_with fail
  refine (HDB.out _ HBX.out).mono ?_
  intro e w8 hd
  obtain ⟨vb, vd, D8, rfl, hD8, hL8, hdc8, _, _, hb8⟩ := dec_uni hd
  rw [HRB.out] at hD8 ⊢
  have HB8 := hid (below_on HBX.out hb8)
  have HL8 := hid hL8
  have HD8 := hid hD8
  clear hd hb8 hL8 hD8
  simp only
  have hD80 : D8 = [] := List.map_eq_nil_iff.1 HD8.out
  subst hD80
  go_wp2_with fail
  refine (HS.out _).mono ?_
  rintro e w9 ⟨rfl, hb9⟩
  have HB9 := hid (below_on HB8.out hb9)
  clear hb9
  go_wp2_with fail
  exact bodyPost_ret (v := .bool true) (by simp [results, Try.results6, go_sem]) rfl ⟨rfl, HB9.out⟩

set_option maxHeartbeats 8000000 in
theorem MatchBack_yesOk (a : Option Addr) (l : List Ent9) (cap : Nat) (ba : Option Addr) (bc : Nat) (b : List Int) (w : World) (hL : L9 w a l) (hlc : l.length ≤ cap) (hf : fewL9 l = true) (hbc : b.length ≤ bc) (hcm : bc ≤ 9223372036854775807) (hb : b.length ≤ 1500) (ho : Octets b) (hI : Ints .u8 w ba b) (hi : isMatch10 (l.map Ent9.o) = true) {L : List Ox9} {n : Nat} (hq : matchL b = .ok (L, n)) :
    Calls Try.prog 6 #[.slice a l.length cap, .slice ba b.length bc] w fun e w' => e = .returned (.bool true) ∧ Below w.heap.size w w' := by
  have hbig := few_len10b hf
  have hll : l.length ≤ 60 := by unfold fewL9 at hf; rw [Bool.and_eq_true, decide_eq_true_iff] at hf; exact hf.2
  have HF := refFew9_any l a cap w hL.ox (by have := hL.len; omega)
  rw [hf] at HF
  have HFF := hid HF
  have HS := hid (fun w => sure10_any w)
  have hcb : (vals10 ((b.take (num10 b).toNat).drop 4)).1.length ≤ 1000 := by
    have h := vals_few10 _ ((b.take (num10 b).toNat).drop 4) (Nat.le_refl _) ((ho.take _).drop 4)
    have : ((b.take (num10 b).toNat).drop 4).length ≤ b.length := by rw [List.length_drop, List.length_take]; omega
    omega
  have HE := encode10_any w a cap l hL hlc (by omega)
  have HDB := hid (fun (W : World) (h : Below w.heap.size w W) => decode10_any b ba bc hbc (by omega) ho W (hI.below h) hcb)
  unfold EncPost10 at HE
  rw [hi] at HE
  have HI := hid hI
  have HL := hid hL
  have hbi : ¬ (1500 : Int) < (b.length : Int) := by omega
  have hb15 : (b.length : Int) ≤ 1500 := by omega
  have HRB := hid (mres_ok hq)
  have hft := match_forth hq ho
  have HFT := hid hft
  have hnl : n ≤ b.length := hft.2.2.1
  have hnb : (n : Int) ≤ (b.length : Int) := by omega
  have hnc : (n : Int) ≤ (bc : Int) := by omega
  have hn15 : n ≤ 1500 := by omega
  obtain ⟨T, hT⟩ : ∃ T, b.take n = T := ⟨_, rfl⟩
  have hTl : T.length = n := by rw [← hT, List.length_take]; omega
  have HTL := hid hTl
  have HTT := hid hT
  have HMT := hid (show match10 L = T by rw [hft.2.1, hT])
  clear hq hft hT hTl
  have HEE := hid (fun (W : World) (h : Below w.heap.size w W) => by have e := encode10_any W a cap l (hL.below h) hlc (by omega); unfold EncPost10 at e; rw [hi] at e; exact e)
  clear HE
  have hX : ∀ o ∈ l.map Ent9.o, 0 ≤ o.X := by intro o ho; obtain ⟨x, hx, rfl⟩ := List.mem_map.1 ho; exact (hL.ent x hx).x.1
  obtain ⟨hbk, hbkh⟩ := match_back hi hX (by omega) b
  obtain ⟨hle, hleh⟩ := match_less (L := l.map Ent9.o) (by omega)
  have hmo := body_oct (L := l) (w := w) hL.ent
  have hm8 := len8_rem (l.map Ent9.o)
  have hp := match_pos (l.map Ent9.o)
  have hvb : ∀ n, HeadOk (match10 (l.map Ent9.o) ++ b) n → (vals10 (((match10 (l.map Ent9.o) ++ b).take n).drop 4)).1.length ≤ 1000 := by
    intro n hn
    have e : n = len10 (l.map Ent9.o) := by have h1 := hn.1; rw [hbkh.1] at h1; omega
    subst e
    have hm := hbk
    rw [match_body hn.1 hn.2.1 hn.2.2.1 hn.2.2.2.1 hn.2.2.2.2.1 hn.2.2.2.2.2] at hm
    split at hm
    · cases hm
    · split at hm
      · cases hm
      · simp only [Except.ok.injEq, Prod.mk.injEq] at hm
        rw [hm.1, List.length_map]; omega
  have hbL : len10 (l.map Ent9.o) ≤ 40000 := hbig
  obtain ⟨M, hM⟩ : ∃ M, match10 (l.map Ent9.o) = M := ⟨_, rfl⟩
  rw [hM] at HEE hbk hle hleh hmo hm8 hp hvb
  obtain ⟨Y, hY⟩ : ∃ Y, M ++ b = Y := ⟨_, rfl⟩
  have hYl : Y.length = M.length + b.length := by rw [← hY, List.length_append]
  have hYo : Octets Y := by rw [← hY]; intro x hx; rcases List.mem_append.1 hx with h | h; exact hmo x h; exact ho x h
  rw [hY] at hbk hvb
  obtain ⟨Z, hZ⟩ : ∃ Z, M.take (M.length - 1) = Z := ⟨_, rfl⟩
  have hZl : Z.length = M.length - 1 := by rw [← hZ, List.length_take]; omega
  have hZo : Octets Z := by rw [← hZ]; exact hmo.take _
  rw [hZ] at hle hleh
  have HDY := hid (fun (W : World) (a : Option Addr) (c : Nat) (h1 : Y.length ≤ c) (h2 : Ints .u8 W a Y) => decode10_gen Y a c h1 (by omega) hYo W h2 hvb)
  have HDZ := hid (fun (W : World) (a : Option Addr) (c : Nat) (h1 : Z.length ≤ c) (h2 : Ints .u8 W a Z) => decode10_gen Z a c h1 (by omega) hZo W h2 (fun n hn => absurd hn (hleh n)))
  rw [hZl] at HDZ
  have HYL := hid hYl
  have HY := hid hY
  have HZ := hid hZ
  have HZL := hid hZl
  have HRY := hid (mres_ok hbk)
  have HRZ := hid (mres_err hle)
  have hMp : 8 ≤ M.length := by omega
  have hMq : M.length ≤ 40007 := by omega
  have hMi : (8 : Int) ≤ (M.length : Int) := by omega
  have hMj : ((M.length : Int) - 1).toNat = M.length - 1 := by omega
  have HMR := hid hm8
  clear hX hbk hbkh hle hleh hmo hm8 hp hvb hbL hM hY hYl hYo hZ hZl hZo
  clear hL hf hbig HF hI hcb hi ho
  go_enter Try.func6, Try.ntmps6
  go_wp2_with fail
  refine HFF.out.mono ?_
  rintro e w1 ⟨rfl, hb1⟩
  have HB1 := hid hb1
  clear hb1
  go_wp2_with fail
  refine (HEE.out _ HB1.out).mono ?_
  rintro e w2 (⟨h, _⟩ | ⟨_, ga, rfl, hb2, hIa, _⟩)
  · cases h
  have HB2 := hid (below_on HB1.out hb2)
  have HIA := hid hIa
  clear hb2 hIa
  have HF0 := hid (own_emptyI w2 5 .u8)
  have hIm := HIA.out.below (below_alloc w2 (.cells #[] 5))
  have HIB := hid (HI.out.below HB2.out)
  go_wp2_with (first
    | (at_builtin; refine wp_app_ints rfl (.tmp 35) (.tmp 36) rfl elemU8 rfl HF0.out rfl rfl hIm (List.nil_append M) ?_ ?_ ?_; omega; omega; intro a5 c5 w3 hl5 hc5 hI5 hg5; have HF5 := hid hg5.first; have HIB3 := hid (HIB.out.below HF5.out.bel); clear hI5 hg5)
    | (at_builtin; refine wp_app_ints rfl (.tmp 37) (.tmp 38) rfl elemU8 rfl HF5.out.own rfl rfl HIB3.out HY.out ?_ ?_ ?_; (have := HYL.out; omega); (have := HYL.out; omega); intro a6 c6 w4 hl6 hc6 hI6 hg6; have HF6 := hid (HF5.out.step hg6); have HI6 := hid hI6; clear hI6 hg6)
    | fail)
  refine (HDY.out w4 a6 c6 hl6 HI6.out).mono ?_
  intro e w5 hd
  obtain ⟨va, vc, D, rfl, hD, hL5, _, _, _, hb5⟩ := dec_uni hd
  rw [HRY.out] at hD ⊢
  have HB25 := hid (below_on HF6.out.bel hb5)
  have HL5 := hid hL5
  have HD := hid hD
  clear hd hb5 hL5 hD
  simp only
  have hmr := HMR.out
  have HSM := refSame9_any l D a va cap vc w5 (HL.out.below (below_on HB2.out HB25.out)) HL5.out
  rw [same_yes10 rfl HD.out] at HSM
  have HSS := hid HSM
  clear HSM
  go_wp2_with fail
  refine HSS.out.mono ?_
  rintro e w6 ⟨rfl, hb6⟩
  have HB26 := hid (below_on HB25.out hb6)
  clear hb6 hmr HSS
  have HIZ := hid (show Ints .u8 w6 (some ⟨ga, 0, none⟩) Z by rw [← HZ.out]; exact (HIA.out.below HB26.out).take _)
  go_wp2_with fail
  refine (HDZ.out w6 (some ⟨ga, 0, none⟩) M.length (Nat.sub_le _ _) HIZ.out).mono ?_
  intro e w7 hd
  obtain ⟨va7, vc7, D7, rfl, _, _, _, _, _, hb7⟩ := dec_uni hd
  rw [HRZ.out]
  simp only
  have HBX := hid (below_on (below_on HB2.out HB26.out) hb7)
  clear hd hb7
  go_wp2_with fail
  refine (HDB.out _ HBX.out).mono ?_
  intro e w8 hd
  obtain ⟨vb, vd, D8, rfl, hD8, hL8, hdc8, _, _, hb8⟩ := dec_uni hd
  rw [HRB.out] at hD8 ⊢
  have HB8 := hid (below_on HBX.out hb8)
  have HL8 := hid hL8
  have HD8 := hid hD8
  clear hd hb8 hL8 hD8
  simp only
  have HE8 := encode10_any w8 vb vd D8 HL8.out hdc8 (by rw [HD8.out]; exact HFT.out.2.2.2.1)
  unfold EncPost10 at HE8
  rw [HD8.out, HFT.out.1, HMT.out] at HE8
  have HEX := hid HE8
  clear HE8
  go_wp2_with fail
  refine HEX.out.mono ?_
  rintro e w9 (⟨h, _⟩ | ⟨_, gx, rfl, hb9, hI9, _⟩)
  · cases h
  have HB9 := hid (below_on HB8.out hb9)
  have HI9 := hid hI9
  have HR9 := right10_any w9 vb vd D8 (HL8.out.below hb9) hdc8 (by rw [HD8.out]; exact HFT.out.2.2.2.1)
  rw [HD8.out, HFT.out.1] at HR9
  have HRX := hid HR9
  clear hb9 hI9 HR9
  go_wp2_with fail
  refine HRX.out.mono ?_
  rintro e w10 ⟨rfl, hb10⟩
  have HB10 := hid (below_on HB9.out hb10)
  have HC := hid (bytes8_any T T (some ⟨gx, 0, none⟩) ba T.length n T.length bc rfl HTL.out.symm w10 (by rw [HTL.out]; omega) (by rw [HTL.out]; omega) (HI9.out.below hb10) (by rw [← HTT.out]; exact ((HI.out.below HB10.out).take n)))
  rw [rfl_beq10] at HC
  clear hb10
  go_wp2_with fail
  refine HC.out.mono ?_
  rintro e w11 ⟨rfl, hb11⟩
  have HB11 := hid (below_on HB10.out hb11)
  clear hb11
  go_wp2_with fail
  refine (HS.out _).mono ?_
  rintro e w12 ⟨rfl, hb12⟩
  have HB12 := hid (below_on HB11.out hb12)
  clear hb12
  go_wp2_with fail
  exact bodyPost_ret (v := .bool true) (by simp [results, Try.results6, go_sem]) rfl ⟨rfl, HB12.out⟩

theorem match_err_pos {b : List Int} {q : Int} (h : matchL b = .error q) : q ≠ 0 := by
  unfold matchL at h
  split at h
  · cases h; decide
  · split at h
    · cases h; decide
    · split at h
      · cases h; decide
      · split at h
        · cases h; assumption
        · split at h
          · cases h; decide
          · cases h
theorem MatchBack_walk (a : Option Addr) (len cap : Nat) (ba : Option Addr) (bc : Nat) (b : List Int) (w : World) (h0 : IsOxmsC w a len cap) (h1 : len ≤ 9223372036854775807) (hbc : b.length ≤ bc) (hcm : bc ≤ 9223372036854775807) (ho : Octets b) (hI : Ints .u8 w ba b) :
    Calls Try.prog 6 #[.slice a len cap, .slice ba b.length bc] w fun e w' => e = .returned (.bool true) ∧ Below w.heap.size w w' := by
  obtain ⟨hlc, hcm', l, rfl, hO, hE⟩ := h0
  by_cases hf : fewL9 l = true
  · by_cases hb : b.length ≤ 1500
    · have hL := few_l9 hO hE hf
      cases hi : isMatch10 (l.map Ent9.o) <;> cases hm : matchL b with
      | error q => first | exact MatchBack_noErr a l cap ba bc b w hL hlc hf hbc hcm hb ho hI hi hm (match_err_pos hm) | exact MatchBack_yesErr a l cap ba bc b w hL hlc hf hbc hcm hb ho hI hi hm (match_err_pos hm)
      | ok p => first | exact MatchBack_noOk a l cap ba bc b w hL hlc hf hbc hcm hb ho hI hi (L := p.1) (n := p.2) hm | exact MatchBack_yesOk a l cap ba bc b w hL hlc hf hbc hcm hb ho hI hi (L := p.1) (n := p.2) hm
    · exact MatchBack_few a l cap ba bc b w hO h1 (.inr (by omega))
  · exact MatchBack_few a l cap ba bc b w hO h1 (.inl (by simpa using hf))
end Go.Proofs.Yteaimnlfbbkccaa
