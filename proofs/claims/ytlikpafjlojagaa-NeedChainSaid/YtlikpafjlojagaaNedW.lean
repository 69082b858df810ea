/- The law of the chain. -/
import Derived.Test.YtlikpafjlojagaaNedZ
namespace Go.Proofs.Ytlikpafjlojagaa
open Go.RowKit
set_option linter.unusedVariables false

set_option maxRecDepth 100000 in
set_option maxHeartbeats 8000000 in
theorem NeedChain_walk (n pick : Int) (w : World) (hp : 0 ≤ pick ∧ pick ≤ 255) :
    Calls Try.prog 5 #[.int .i64 n, .int .u8 pick] w fun e w' => e = .returned (.bool true) ∧ Below w.heap.size w w' := by
  have hmix : Try.prog.follows .mixedOrders = true := by kernel_rfl
  have HF := fldOf_any n w
  obtain ⟨⟨nm, fb, fz, fm, fd, fv⟩, hf⟩ : ∃ f, fld n = f := ⟨_, rfl⟩
  by_cases hn : 0 ≤ n ∧ n < 40
  · rw [decide_eq_true hn] at HF
    have HN := hid hn
    have hA := needs_in hn
    obtain ⟨A, hAA⟩ : ∃ A, needL n ++ [n] = A := ⟨_, rfl⟩
    have HA := hid (show (∀ x ∈ A, (0 ≤ x ∧ x < 40)) ∧ A.length ≤ 21 by rw [← hAA]; exact ⟨hA.1, by have := hA.2; simp; omega⟩)
    have HAA := hid hAA
    have hlen := hA.2
    rw [hf] at HF
    unfold fldV at HF
    simp only at HF
    have HFF := hid HF
    have HZ := hid hf
    clear hn hA HF hf hAA
    go_enter Try.func5, Try.ntmps5
    go_wp2_with fail
    refine HFF.out.mono ?_
    rintro e w1 ⟨v1, rfl, hU, hb1⟩
    obtain ⟨a1, c1, rfl, _⟩ := hU
    obtain ⟨W2, hW2, hbW2, hbox⟩ := fld_box9 w1 fb fz fm fd (.slice a1 fv.length c1)
    have HW2 := hid hW2
    have HBOX := hid hbox
    have HB2 := hid (below_on hb1 hbW2)
    clear hW2 hbox hb1 hbW2
    go_upto_region 2 with fail
    rw [HW2.out]
    go_wp2_with fail
    refine ((need_any n).1 W2).mono ?_
    rintro e w3 ⟨v, rfl, hF⟩
    obtain ⟨a3, c3, rfl, _, _, hI3⟩ := own_ints hF.own
    have hF2 := hF.behind (by_none_alloc w3 (.cells #[.int .i64 n] 3))
    have HB3 := hid (below_on HB2.out hF.bel)
    have HF3 := hid hF
    have hal : (needL n ++ [n]).length ≤ 21 := by simp; omega
    clear hF hI3
    go_upto_region 7 with (at_builtin; refine wp_app_ints rfl (.tmp 28) (.tmp 30) rfl elemNeed rfl hF2.own rfl rfl (ints_one .i64 w3 _ 3) HAA.out ?_ ?_ ?_; (have := HA.out.2; omega); (have := HA.out.2; omega); intro a4 c4 w4 hl4 hc4 hI4 hg4; have HI4 := hid hI4; have HB24 := hid (hF2.step hg4).bel; have HB4 := hid (below_on HB2.out (hF2.step hg4).bel); clear hI4 hg4 hF2)
    have HFC := HF3
    go_loopg [8, 9] (A.length) (fun kx s8 s9 wr => ∃ (i : Nat) (D : List Ent9) (va : Option Addr) (vc : Nat), s8 = .slice va i vc ∧ s9 = .int .i64 i ∧ i ≤ A.length ∧ A.length - i ≤ kx ∧ Hid (FreshO w4 wr (.slice va i vc) i D) ∧ Hid (D.map Ent9.o = (chain9 pick.toNat A).take i) ∧ Hid (ChainIn wr (.slice va i vc) D))
    case atStart => exact ⟨0, [], none, 0, rfl, rfl, by omega, by omega, FreshO.nil _, rfl, (by show ∀ _, _; simp)⟩
    case round =>
      obtain ⟨i, D, va, vc, rfl, rfl, hi, hkx, hF, hM, hD⟩ := hrel
      by_cases hlt : i < A.length
      · have hltz : (i : Int) < (A.length : Int) := by omega
        obtain ⟨ab, ao, rfl, ha⟩ := (HI4.out.below hF.out.bel) i hlt
        obtain ⟨q, hq⟩ : ∃ q, q = A[i] := ⟨_, rfl⟩
        rw [show A.getD i 0 = q by rw [hq]; simp [hlt]] at ha
        have hqr : 0 ≤ q ∧ q < 40 := by rw [hq]; exact HA.out.1 _ (List.getElem_mem hlt)
        have hz := size_in hqr
        have HG := fun W => fldOf_any q W
        obtain ⟨⟨gn, gb, gz, gm, gd, gv⟩, hg⟩ : ∃ f, fld q = f := ⟨_, rfl⟩
        rw [hg] at hz
        simp only [hg, decide_eq_true hqr, fldV] at HG
        have HGG := hid HG
        have HQ := hid hq
        have HQF := hid hg
        obtain ⟨hz1, hz2⟩ : 1 ≤ gz ∧ gz ≤ 16 := hz
        have HQR := hid hqr
        clear HG hq hg hqr
        obtain ⟨w0, hw0⟩ : ∃ x, x = wr := ⟨_, rfl⟩
        subst hw0
        go_wp2_with fail
        refine (HGG.out _).mono ?_
        rintro e w5 ⟨v5, rfl, hU5, hb5⟩
        obtain ⟨a5, c5, rfl, hU5⟩ := hU5
        obtain ⟨W6, hW6, hbW6, hbox6⟩ := fld_box9 w5 gb gz gm gd (.slice a5 gv.length c5)
        have HW6 := hid hW6
        have ha6 := cell_keep (cell_keep ha hb5) hbW6
        obtain ⟨k0, k1, k2, k3, k4⟩ := hbox6.five
        have HBOX6 := hid hbox6
        have HB6 := hid (below_on hb5 hbW6)
        have HB56 := hid hbW6
        have HU5 := hid hU5
        clear hW6 hbox6 hb5 hbW6
        go_upto_region 10 with fail
        rw [HW6.out]
        go_upto_region 12 with fail
        obtain ⟨R, hR, hmk⟩ := make9 (n := gz) (by omega)
        have hb6 : w5.heap.size < W6.heap.size := HBOX6.out.lt
        have hab : ab < W6.heap.size := World.block_lt_of_cell? W6 _ ha6
        have n1 : ¬ w5.heap.size = W6.heap.size := by omega
        have n2 : ¬ w5.heap.size = W6.heap.size + 1 := by omega
        have n3 : ¬ ab = W6.heap.size := by omega
        have n4 : ¬ ab = W6.heap.size + 1 := by omega
        go_cut [12] (fun t12 wx => ∃ X B, t12 = .pointer (some ⟨X, 0, none⟩) ∧ BoxL wx X [.int .i64 32768, .int .i64 q, .bool false, .int .u64 0, .slice (some ⟨B, 0, none⟩) gz gz, .slice none 0 0] ∧ BoxL wx B ((List.replicate gz (0 : Int)).map (Value.int .u8)) ∧ Below W6.heap.size W6 wx ∧ W6.heap.size ≤ X ∧ W6.heap.size ≤ B ∧ X ≠ B ∧ Six9 wx X)
        case first =>
          go_region
          · have h := arm_a (W := W6) (V := [.int .i64 32768, .int .i64 q, .bool false, .int .u64 0, .slice (some ⟨W6.heap.size, 0, none⟩) gz gz, .slice none 0 0]) (e := 5) (e' := 26) hR.out
            go_wp2_with fail
            go_meet
            exact ⟨W6.heap.size + 1, W6.heap.size, rfl, h.1, h.2.1, h.2.2, by omega, by omega, by omega, six_a rfl⟩
          · have h := arm_b (W := W6) (V := [.int .i64 32768, .int .i64 q, .bool false, .int .u64 0, .slice (some ⟨W6.heap.size + 1, 0, none⟩) gz gz, .slice none 0 0]) (e := 5) (e' := 26) hR.out
            go_wp2_with fail
            go_meet
            exact ⟨W6.heap.size, W6.heap.size + 1, rfl, h.1, h.2.1, h.2.2, by omega, by omega, by omega, six_b rfl⟩
        case rest =>
          obtain ⟨X, B, rfl, hX, hB, hbx, hWX, hWB, hXB, hS6⟩ := hcut
          obtain ⟨wx, hwx⟩ := hX.world9
          subst hwx
          obtain ⟨z1, hz3⟩ : ∃ z1, gz = z1 + 1 := ⟨gz - 1, by omega⟩
          have hzz : (gz : Int) - 1 = (z1 : Int) := by omega
          have hzl : (z1 : Int) < (gz : Int) := by omega
          obtain ⟨x0, x1, x2, x3, x4, x5⟩ := hX.six
          obtain ⟨k0, k1, k2, k3, k4⟩ := (HBOX6.out.below hbx).five
          have y0 := hB.cell z1 (.int .u8 0) (by rw [List.getElem?_map, List.getElem?_replicate, if_pos (by omega)]; rfl)
          have y1 := hB.free
          have HX := hid hX
          have HB := hid hB
          have HBX := hid hbx
          have HXB := hid hXB
          have HS6 := hid hS6
          have HZ3 := hid hz3
          have h21 := HA.out.2
          have hsz0 : w0.heap.size ≤ W6.heap.size := HB6.out.size
          clear hS6 hX hB hbx ha ha6 n1 n2 n3 n4 hmk hz3
          go_upto_region 14 with fail
          have hX2 := HX.out.far (c := B) (i := z1) (.int .u8 1) (fun e => HXB.out e.symm)
          have hB2 := HB.out.set z1 (.int .u8 1) (by simp; have := HZ3.out; omega)
          have hG2 := (HBOX6.out.below HBX.out).far (c := B) (i := z1) (.int .u8 1) (by omega)
          have hby := by_setCell wx B z1 (.int .u8 1)
          have hS2 := HS6.out.by HX.out.lt hby (by intro e; exact HXB.out (Option.some.inj e))
          have hbt := below_by9 (below_on HB6.out HBX.out) hby (by omega)
          have hbt6 : Below w5.heap.size w5 (wx.setCell ⟨B, z1, none⟩ (.int .u8 1)) := below_by9 (below_on HB56.out HBX.out) hby (by omega)
          generalize wx.setCell ⟨B, z1, none⟩ (.int .u8 1) = wt at hX2 hB2 hG2 hby hbt hbt6 hS2 ⊢
          obtain ⟨val, hval⟩ : ∃ v, v = one9 gz := ⟨_, rfl⟩
          have hvl : val.length = gz := by rw [hval]; simp [one9]; omega
          have hBv : BoxL wt B (val.map (Value.int .u8)) := by
            rw [hval]
            have e : (List.replicate gz (0 : Int)).set z1 1 = one9 gz := by rw [HZ3.out, one_set]; rfl
            rw [← e, List.map_set]
            exact hB2
          have hoct : Octets val := by
            rw [hval]
            intro x hx
            simp only [one9, List.mem_append, List.mem_replicate, List.mem_singleton] at hx
            omega
          have hIv : Ints .u8 wt (some ⟨B, 0, none⟩) val := ints_box9 hBv
          have HT := hid hbt
          have HSX := hid hS2
          have HVAL := hid hval
          have HXT : Hid (BoxL wt X [.int .i64 32768, .int .i64 q, .bool false, .int .u64 0, .slice (some ⟨B, 0, none⟩) val.length gz, .slice none 0 0]) := by show BoxL _ _ _; rw [hvl]; exact hX2
          have HHT : Hid (ChainIn wt (.slice va i vc) [⟨⟨32768, q, false, 0, val, []⟩, some ⟨B, 0, none⟩, gz, none, 0⟩]) := by
            show ChainIn _ _ _
            intro h hh
            rw [List.mem_singleton.1 hh]
            have hq := HQR.out
            refine ⟨⟨hIv, Ints.nil _ _ _, hoct, fun x hx => by simp at hx, ⟨by show val.length ≤ gz; omega, by show gz ≤ _; omega⟩, ⟨Nat.le_refl _, by simp⟩, ⟨by simp, by simp⟩, ⟨by show _ ≤ q; omega, by show q ≤ _; omega⟩, ⟨by simp, by simp⟩⟩, by show val.length ≤ 16; omega, by simp, rfl, fun a ha => ?_⟩
            obtain rfl := Option.some.inj ha
            refine ⟨hBv.lt, fun e => ?_⟩
            have hlt := own_lt9 hF.out.own e
            simp only at hlt
            omega
          have HG2 := hid hG2
          have HBT6 := hid hbt6
          clear hS2 hX2 hB2 hG2 hby hbt hbt6 hBv hoct hIv hval k0 k1 k2 k3 k4 x0 x1 x2 x3 x4 x5 y0 y1 hvl
          by_cases hlast : i + 1 < A.length
          · have hlz : (i : Int) + 1 < (A.length : Int) := by omega
            obtain ⟨q2, hq2⟩ : ∃ q2, q2 = A[i + 1] := ⟨_, rfl⟩
            obtain ⟨ab2, ao2, he2, ha2⟩ := (HI4.out.below (below_on hF.out.bel HT.out)) (i + 1) hlast
            simp only [Option.some.injEq, Addr.mk.injEq] at he2
            obtain ⟨rfl, rfl, _⟩ := he2
            rw [show A.getD (i + 1) 0 = q2 by rw [hq2]; simp [hlast]] at ha2
            have hqr2 : 0 ≤ q2 ∧ q2 < 40 := by rw [hq2]; exact HA.out.1 _ (List.getElem_mem hlast)
            have HG := fun W => fldOf_any q2 W
            obtain ⟨⟨nn, nb, nz, nmm, nd, nv⟩, hg⟩ : ∃ f, fld q2 = f := ⟨_, rfl⟩
            simp only [hg, decide_eq_true hqr2, fldV] at HG
            have HGG2 := hid HG
            have HQ2 := hid hq2
            have HQF2 := hid hg
            have HCV := chain_get pick.toNat A i hlt
            rw [dif_pos hlast, ← hq2, ← HQ.out] at HCV
            have HCV := hid HCV
            clear HG hq2 hg
            go_wp2_with fail
            refine (HGG2.out _).mono ?_
            rintro e w15 ⟨v15, rfl, hU15, hb15⟩
            obtain ⟨a15, c15, rfl, hU15⟩ := hU15
            obtain ⟨W16, hW16, hbW16, hbox16⟩ := fld_box9 w15 nb nz nmm nd (.slice a15 nv.length c15)
            have HW16 := hid hW16
            have HBOX16 := hid hbox16
            have hXn : X < w15.heap.size := (HXT.out.below hb15).lt
            have HT2 := hid (below_on HT.out (below_on hb15 hbW16))
            have HX16 := hid ((HXT.out.below hb15).below hbW16)
            have HH16 := hid ((HHT.out.below hb15).below hbW16)
            have HG16 := hid ((HG2.out.below hb15).below hbW16)
            have HU16 := hid (hU15.below hbW16)
            have HS16 := hid ((HSX.out.by HXT.out.lt (below_by_none hb15) (by simp)).by (HXT.out.below hb15).lt (below_by_none hbW16) (by simp))
            have HQR2 := hid (show 0 ≤ q2 ∧ q2 < 40 from hqr2)
            obtain ⟨g0, g1, g2, g3, g4⟩ := hbox16.five
            clear hW16 hbW16 hbox16 hb15 hU15 ha2 hqr2
            go_upto_region 16 with fail
            rw [HW16.out]
            by_cases hnv : nv = []
            · have hnl : ¬ (0 : Int) < (nv.length : Int) := by rw [hnv]; simp
              have HV : Hid ((chain9 pick.toNat A)[i]? = some ⟨32768, q, false, 0, val, []⟩) := by
                show _ = _
                rw [HCV.out]
                unfold hold9
                rw [HQF2.out, if_pos hnv, HQF.out, HVAL.out]
              clear hnv
              have HT := HT2
              have HXT := HX16
              have HHT := HH16
              obtain ⟨x0, x1, x2, x3, x4, x5⟩ := HXT.out.six
              have hFT := hF.out.behind HT.out
              go_wp2_with (at_builtin; refine wp_app_oxmsG rfl (.tmp 94) (.tmp 96) rfl (hFT.behind (below_alloc _ _)) rfl rfl (l := [⟨⟨32768, q, false, 0, val, []⟩, some ⟨B, 0, none⟩, gz, none, 0⟩]) rfl (oxms_one W16 ⟨⟨32768, q, false, 0, val, []⟩, some ⟨B, 0, none⟩, gz, none, 0⟩ _) (by omega) (N := i + 1) rfl ?_; intro va2 vc2 w8 hg8 hby8 hmv8; have HG8 := hid hg8; have HBY8 := hid hby8; have HMV8 := hid hmv8; clear hg8 hby8 hmv8)
              go_roundg (A.length - (i + 1))
              case measure => omega
              case rel =>
                refine ⟨i + 1, _, va2, vc2, rfl, by first | rfl | go_num, by omega, Nat.le_refl _, HG8.out, ?_, ?_⟩
                · show _ = _
                  rw [List.map_append, hM.out, List.take_add_one, HV.out]; rfl
                · exact ((((hD.out.below HT.out).snoc HHT.out).below (below_alloc _ _)).grew HBY8.out HMV8.out)
            · have hnl : (0 : Int) < (nv.length : Int) := by have := List.length_pos_iff.2 hnv; omega
              have hn0 : ¬ (nv.length : Int) = 0 := by omega
              obtain ⟨k, hk⟩ : ∃ k, pick.toNat % nv.length = k := ⟨_, rfl⟩
              have hkl : k < nv.length := by rw [← hk]; exact Nat.mod_lt _ (List.length_pos_iff.2 hnv)
              have hrem : Int.tmod pick (nv.length : Int) = (k : Int) := by
                rw [← hk]
                obtain ⟨pn, rfl⟩ : ∃ pn : Nat, pick = (pn : Int) := ⟨pick.toNat, by omega⟩
                simp [Int.tmod]
              have hkz : (k : Int) < (nv.length : Int) := by omega
              have hp0 : 0 ≤ pick := hp.1
              have hp1 : pick ≤ 255 := hp.2
              have hrem2 : pick % (nv.length : Int) = (k : Int) := by rw [← hrem, Int.tmod_eq_emod_of_nonneg hp0]
              have hwp : IntKind.i64.wrap pick = pick := by rw [IntKind.wrap_i64]; omega
              have hkL : (pick.tmod (nv.length : Int)).toNat = k := by rw [hrem]; simp
              have hnl1 : (1 : Int) ≤ (nv.length : Int) := by omega
              have hk00 : (0 : Int) ≤ (k : Int) := by omega
              obtain ⟨vb, vo, rfl, hv⟩ := HU16.out k hkl
              obtain ⟨vk, hvk⟩ : ∃ vk, nv.getD k 0 = vk := ⟨_, rfl⟩
              rw [hvk] at hv
              have hz8 : gz ≤ 8 := by
                have h := num_in HN.out i (by omega)
                rw [HAA.out, show A.getD (i + 1) 0 = q2 by rw [HQ2.out]; simp [hlast], show A.getD i 0 = q by rw [HQ.out]; simp [hlt], HQF2.out, HQF.out] at h
                exact h hnv
              have HV : Hid ((chain9 pick.toNat A)[i]? = some ⟨32768, q, false, 0, bytesL vk gz, []⟩) := by
                show _ = _
                rw [HCV.out]
                unfold hold9
                rw [HQF2.out, if_neg hnv, HQF.out]
                simp only
                rw [hk, hvk]
              have HKH := hid (And.intro hk (And.intro hvk hnv))
              obtain ⟨x0, x1, x2, x3, x4, x5⟩ := HX16.out.six
              obtain ⟨k0, k1, k2, k3, k4⟩ := HG16.out.five
              have KC : Hid (∀ w', Below W16.heap.size W16 w' → (fun w' => w'.cell? ⟨w15.heap.size, 4, none⟩ = some (.slice (some ⟨vb, vo, none⟩) nv.length c15) ∧ w'.cell? ⟨w5.heap.size, 1, none⟩ = some (.int .i64 gz) ∧ w'.cell? ⟨vb, vo + k, none⟩ = some (.int .u64 vk)) w') := by
                show _
                intro w' hb
                exact ⟨cell_keep g4 hb, cell_keep k1 hb, cell_keep hv hb⟩
              have y1 := HX16.out.free
              have hvk0 : vk ≠ 0 := by
                refine vals_not HQR2.out vk ?_
                rw [HQF2.out]
                show vk ∈ nv
                rw [← hvk, List.getD_eq_getElem?_getD, List.getElem?_eq_getElem hkl]
                exact List.getElem_mem hkl
              have hne3 : ¬ vb = X := far_six HX16.out HS16.out (by intro x e; cases e) (by intro x e; cases e) hvk0 hv
              have hne4 : ¬ w5.heap.size = X := by omega
              have hne1 : ¬ w15.heap.size = X := by omega
              have hne2 : ¬ X = w15.heap.size := by omega
              have hXw := HX16.out.lt
              clear hk hvk x0 x1 x2 x3 x5 k0 k2 k3 k4 g0 g1 g2 g3
              go_upto_region 17 with fail
              go_cut [12] (fun t12 wx => ∃ av vc, t12 = .pointer (some ⟨X, 0, none⟩) ∧ BoxL wx X [.int .i64 32768, .int .i64 q, .bool false, .int .u64 0, .slice av (bytesL vk gz).length vc, .slice none 0 0] ∧ Ints .u8 wx av (bytesL vk gz) ∧ (bytesL vk gz).length ≤ vc ∧ vc ≤ maxLen ∧ Below w0.heap.size w0 wx ∧ ∀ q : Addr, av = some q → w0.heap.size ≤ q.block ∧ q.block < wx.heap.size)
              case first =>
                go_region_held3 (fun w' => w'.cell? ⟨w15.heap.size, 4, none⟩ = some (.slice (some ⟨vb, vo, none⟩) nv.length c15) ∧ w'.cell? ⟨w5.heap.size, 1, none⟩ = some (.int .i64 gz) ∧ w'.cell? ⟨vb, vo + k, none⟩ = some (.int .u64 vk)) (first | (refine KC.out _ ?_; (repeat (first | with_reducible exact hq17 | with_reducible exact Below.refl _ _ | with_reducible refine below_dr9 ?_ | with_reducible refine below_al9 ?_)); done) | (refine And.intro ?_ (And.intro ?_ ?_) <;> first | exact keep_far (KC.out _ hq17).1 hne1 | exact keep_far (KC.out _ hq17).2.1 hne4 | exact keep_far (KC.out _ hq17).2.2 hne3) | exact keep_far (KC.out _ hq17).1 hne1 | exact keep_far (KC.out _ hq17).2.1 hne4 | exact keep_far (KC.out _ hq17).2.2 hne3 | go_keep) (first
                | (go_at_call 20; with_reducible refine (num_any vk gz _ hz8).mono ?_; rintro e w17 ⟨v17, rfl, hF17⟩; obtain ⟨a17, c17, rfl, h17a, h17b, hI17⟩ := own_ints hF17.own; have hq17 : Below W16.heap.size W16 w17 := below_on (by (repeat (first | with_reducible exact hq17 | with_reducible exact Below.refl _ _ | with_reducible refine below_dr9 ?_ | with_reducible refine below_al9 ?_))) hF17.bel; have hX17 := HX16.out.below hq17; have x17 := hX17.cell 4 _ rfl; have f17 := hX17.free; have k17 := cell_keep k1 hq17; have v17' := cell_keep hv hq17; have g17 := cell_keep g4 hq17)
                | fail)
                all_goals
                  go_wp2_with fail
                  go_meet
                  have hby17 := by_setCell w17 X 4 (.slice a17 (bytesL vk gz).length c17)
                  refine ⟨a17, c17, rfl, hX17.set 4 _ (by simp), ints_by9 hI17 hby17 (fun b hb e => ?_), h17a, h17b, below_by9 (below_on HT2.out hq17) hby17 (by omega), fun b hb => ?_⟩
                  · have h1 : W16.heap.size ≤ b.block := hF17.new b.block (by rw [hb]; rfl)
                    have h2 : b.block = X := Option.some.inj e
                    omega
                  · have h1 : W16.heap.size ≤ b.block := hF17.new b.block (by rw [hb]; rfl)
                    have h7 : w0.heap.size ≤ W16.heap.size := HT2.out.size
                    have h2 : b.block < w17.heap.size := own_lt9 hF17.own (b := b.block) (by rw [hb]; rfl)
                    have h4 : w17.heap.size ≤ (w17.setCell ⟨X, 4, none⟩ (.slice a17 (bytesL vk gz).length c17)).heap.size := hby17.size
                    have h5 := hq17.size
                    have h6 := hF17.bel.size
                    exact ⟨by omega, by omega⟩
              case rest =>
                obtain ⟨av, vc5, rfl, hX5, hI5, hl5, hc5, hb5, hav⟩ := hcut
                obtain ⟨wy, hwy⟩ := hX5.world9
                subst hwy
                have HT := hid hb5
                have HXT := hid hX5
                have HHT : Hid (ChainIn wy (.slice va i vc) [⟨⟨32768, q, false, 0, bytesL vk gz, []⟩, av, vc5, none, 0⟩]) := by
                  show ChainIn _ _ _
                  intro h hh
                  rw [List.mem_singleton.1 hh]
                  have hq := HQR.out
                  refine ⟨⟨hI5, Ints.nil _ _ _, bytesL_octets _ _, fun x hx => by simp at hx, ⟨hl5, by unfold maxLen at hc5; show vc5 ≤ _; omega⟩, ⟨Nat.le_refl _, by simp⟩, ⟨by simp, by simp⟩, ⟨by show _ ≤ q; omega, by show q ≤ _; omega⟩, ⟨by simp, by simp⟩⟩, by show (bytesL vk gz).length ≤ 16; rw [bytesL_length]; omega, by simp, rfl, fun a ha => ?_⟩
                  refine ⟨(hav a ha).2, fun e => ?_⟩
                  have hlt := own_lt9 hF.out.own e
                  have := (hav a ha).1
                  omega
                clear hX5 hI5 hb5 hav g4 x4 k1 hv y1
                obtain ⟨x0, x1, x2, x3, x4, x5⟩ := HXT.out.six
                have hFT := hF.out.behind HT.out
                go_wp2_with (at_builtin; refine wp_app_oxmsG rfl (.tmp 94) (.tmp 96) rfl (hFT.behind (below_alloc _ _)) rfl rfl (l := [⟨⟨32768, q, false, 0, bytesL vk gz, []⟩, av, vc5, none, 0⟩]) rfl (oxms_one wy ⟨⟨32768, q, false, 0, bytesL vk gz, []⟩, av, vc5, none, 0⟩ _) (by omega) (N := i + 1) rfl ?_; intro va2 vc2 w8 hg8 hby8 hmv8; have HG8 := hid hg8; have HBY8 := hid hby8; have HMV8 := hid hmv8; clear hg8 hby8 hmv8)
                go_roundg (A.length - (i + 1))
                case measure => omega
                case rel =>
                  refine ⟨i + 1, _, va2, vc2, rfl, by first | rfl | go_num, by omega, Nat.le_refl _, HG8.out, ?_, ?_⟩
                  · show _ = _
                    rw [List.map_append, hM.out, List.take_add_one, HV.out]; rfl
                  · exact ((((hD.out.below HT.out).snoc HHT.out).below (below_alloc _ _)).grew HBY8.out HMV8.out)
          · have hlz : ¬ (i : Int) + 1 < (A.length : Int) := by omega
            have HV : Hid ((chain9 pick.toNat A)[i]? = some ⟨32768, q, false, 0, val, []⟩) := by
              show _ = _
              rw [chain_get _ _ _ hlt, dif_neg hlast, HVAL.out, ← HQ.out, HQF.out]
            obtain ⟨x0, x1, x2, x3, x4, x5⟩ := HXT.out.six
            have hFT := hF.out.behind HT.out
            go_wp2_with (at_builtin; refine wp_app_oxmsG rfl (.tmp 94) (.tmp 96) rfl (hFT.behind (below_alloc _ _)) rfl rfl (l := [⟨⟨32768, q, false, 0, val, []⟩, some ⟨B, 0, none⟩, gz, none, 0⟩]) rfl (oxms_one wt ⟨⟨32768, q, false, 0, val, []⟩, some ⟨B, 0, none⟩, gz, none, 0⟩ _) (by omega) (N := i + 1) rfl ?_; intro va2 vc2 w8 hg8 hby8 hmv8; have HG8 := hid hg8; have HBY8 := hid hby8; have HMV8 := hid hmv8; clear hg8 hby8 hmv8)
            go_roundg (A.length - (i + 1))
            case measure => omega
            case rel =>
              refine ⟨i + 1, _, va2, vc2, rfl, by first | rfl | go_num, by omega, Nat.le_refl _, HG8.out, ?_, ?_⟩
              · show _ = _
                rw [List.map_append, hM.out, List.take_add_one, HV.out]; rfl
              · exact ((((hD.out.below HT.out).snoc HHT.out).below (below_alloc _ _)).grew HBY8.out HMV8.out)
      · obtain rfl : i = A.length := by omega
        have hM2 : D.map Ent9.o = chain9 pick.toNat A := by rw [hM.out, List.take_of_length_le (by rw [chain_len]; exact Nat.le_refl _)]
        have hL := chain_l9 hF.out hD.out HA.out.2
        obtain ⟨e1, e2, e3, e4⟩ := chain_end HN.out pick.toNat
        rw [HAA.out] at e1 e2 e3 e4
        rw [HZ.out] at e3
        rw [← hM2] at e1 e2 e4
        have hDl := hF.out.ox.1
        have hvc := hF.out.ox.2.1
        have hN1 : 1 ≤ A.length := by rw [← HAA.out]; simp
        simp only at e3
        obtain ⟨N, hN⟩ : ∃ N, A.length = N := ⟨_, rfl⟩
        have hF1 := hF.out
        rw [hN] at hF1 e3 e4 hDl hvc hN1 ⊢
        have CC := fun w1 (hb : Below wr.heap.size wr w1) => check_any9 D va vc w1 (hL.below hb) (by omega)
        have MM := fun w1 (hb : Below wr.heap.size wr w1) => missing_any9 D va vc w1 (hL.below hb)
        simp only [e1, e2, hDl, ckV] at CC MM
        have DD := chain_drop hF1 hL hN1 e4
        obtain ⟨g, rfl, D1, D2⟩ := DD
        have HCC := hid CC
        have HMM := hid MM
        have HBX := hid ((HBOX.out.below HB24.out).below hF.out.bel)
        have HBW := hid (below_on HB4.out hF.out.bel)
        have hN21 : N ≤ 21 := by rw [← hN]; exact HA.out.2
        have hvm := hF1.ox.2.2.1
        clear CC MM HBOX HB24 HB4 hF hD hL HA HAA HFF HI4 hM hM2 hN hkx hi hlt hl4 hc4 hal hlen e1 e2 hDl hF1 HF3 HB3 HB2 HW2
        have h21 : (1 : Int) ≤ N := by omega
        have hv1 : (1 : Int) ≤ vc := by omega
        by_cases hone : N = 1
        · subst hone
          have hfd : fd < 0 := e3.1 rfl
          simp only [ckV, if_true] at D1 D2
          have H1 := hid D1
          have H2 := hid D2
          clear e3 e4 D1 D2
          go_wp2_with fail
          refine (HCC.out _ (Below.refl _ _)).mono ?_
          rintro e w5 ⟨rfl, hb5⟩
          have HB5 := hid hb5
          clear hb5
          by_cases hvc1 : vc = 1
          · subst hvc1
            have D1 := H1.out rfl
            go_wp2_with fail
            refine (D1 _ HB5.out).mono ?_
            rintro e w6 ⟨rfl, hb6⟩
            have HB6 := hid (below_on HB5.out hb6)
            clear hb6
            go_wp2_with fail
            refine (HMM.out w6 HB6.out).mono ?_
            rintro e w7 ⟨v7, rfl, hF7⟩
            obtain ⟨a7, c7, rfl, _, _, _⟩ := own_ints (l := []) hF7.own
            have HB7 := hid (below_on HB6.out hF7.bel)
            obtain ⟨k0, k1, k2, k3, k4⟩ := (HBX.out.below HB7.out).five
            clear hF7
            go_wp2_with fail
            refine (sure9_any w7).mono ?_
            rintro e w8 ⟨rfl, hb8⟩
            have HB8 := hid (below_on HB7.out hb8)
            clear hb8
            go_wp2_with fail
            exact bodyPost_ret (v := .bool true) (by simp [results, Try.results5, go_sem]) rfl ⟨rfl, below_on HBW.out HB8.out⟩
          · have D2 := H2.out hvc1
            go_wp2_with fail
            refine (D2 _ HB5.out).mono ?_
            rintro e w6 ⟨rfl, hb6⟩
            have HB6 := hid (below_on HB5.out hb6)
            clear hb6
            go_wp2_with fail
            refine (HMM.out w6 HB6.out).mono ?_
            rintro e w7 ⟨v7, rfl, hF7⟩
            obtain ⟨a7, c7, rfl, _, _, _⟩ := own_ints (l := []) hF7.own
            have HB7 := hid (below_on HB6.out hF7.bel)
            obtain ⟨k0, k1, k2, k3, k4⟩ := (HBX.out.below HB7.out).five
            clear hF7
            go_wp2_with fail
            refine (sure9_any w7).mono ?_
            rintro e w8 ⟨rfl, hb8⟩
            have HB8 := hid (below_on HB7.out hb8)
            clear hb8
            go_wp2_with fail
            exact bodyPost_ret (v := .bool true) (by simp [results, Try.results5, go_sem]) rfl ⟨rfl, below_on HBW.out HB8.out⟩
        · have hfd : ¬ fd < 0 := fun h => hone (e3.2 h)
          have hn1 : ¬ (N : Int) = 1 := by omega
          have hn2 : (1 : Int) < (N : Int) := by omega
          have hbb : ((N : Int) == 1) = decide (fd < 0) := by rw [decide_eq_false hfd]; simp; omega
          have hvc1 : ¬ vc = 1 := by omega
          have D2 := D2 hvc1
          simp only [ckV, if_neg hone] at D2
          have H2 := hid D2
          clear e3 e4 D1 D2
          go_wp2_with fail
          refine (HCC.out _ (Below.refl _ _)).mono ?_
          rintro e w5 ⟨rfl, hb5⟩
          have HB5 := hid hb5
          clear hb5
          go_wp2_with fail
          refine (H2.out _ HB5.out).mono ?_
          rintro e w6 ⟨rfl, hb6⟩
          have HB6 := hid (below_on HB5.out hb6)
          clear hb6
          go_wp2_with fail
          refine (HMM.out w6 HB6.out).mono ?_
          rintro e w7 ⟨v7, rfl, hF7⟩
          obtain ⟨a7, c7, rfl, _, _, _⟩ := own_ints (l := []) hF7.own
          have HB7 := hid (below_on HB6.out hF7.bel)
          obtain ⟨k0, k1, k2, k3, k4⟩ := (HBX.out.below HB7.out).five
          clear hF7
          go_wp2_with fail
          refine (sure9_any w7).mono ?_
          rintro e w8 ⟨rfl, hb8⟩
          have HB8 := hid (below_on HB7.out hb8)
          clear hb8
          go_wp2_with fail
          exact bodyPost_ret (v := .bool true) (by simp [results, Try.results5, go_sem]) rfl ⟨rfl, below_on HBW.out HB8.out⟩
  · exact NeedChain_out n pick w hn
end Go.Proofs.Ytlikpafjlojagaa
