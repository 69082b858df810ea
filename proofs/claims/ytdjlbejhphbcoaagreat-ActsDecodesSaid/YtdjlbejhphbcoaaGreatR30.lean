/- Put together out of several texts. -/
import Derived.Test.YtdjlbejhphbcoaaGreatR29
namespace Go.Proofs.YtdjlbejhphbcoaaGreat
open Go.RowKit
set_option linter.unusedVariables false

set_option maxRecDepth 100000 in
set_option maxHeartbeats 8000000 in
theorem refDecode8_extra2z (b : List Int) (B off c : Nat) (hb : 4 ≤ b.length) (hbc : b.length ≤ c) (hc : c ≤ 9223372036854775807) (ob : Octets b) (w : World) (ib : Ints .u8 w (some ⟨B, off, none⟩) b) (hl : b.length ≤ 2000) {F : Int} {N : Nat} (hC : cls8 b = 65535) (hF : fld8 b / 2 = F) (hH : oddB (fld8 b) = true) (hL : len8 b = N) (hM : N = 4) (hs : ¬ (b.length : Int) < 4 + N) (hc8 : c = 8) :
    Calls Tryz.prog 105 #[.slice (some ⟨B, off, none⟩) b.length c] w (DecPost (decL b) w) := by
  obtain ⟨W, hW, hbW, hR⟩ := zero_box8 w
  have HW := hid hW
  have HB := hid hbW
  have ibW := ib.below hbW
  have hc2 := num_two ob
  have hx2 := num_byte (ob.drop 2)
  have hx3 := num_byte ((ob.drop 2).drop 1)
  have hC' : numL (b.take 2) = 65535 := hC
  rw [hC'] at hc2
  obtain ⟨x2, hx2'⟩ : ∃ x, fld8 b = x := ⟨_, rfl⟩
  have hx2e : numL ((b.drop 2).take 1) = x2 := hx2'
  have hLe : numL (((b.drop 2).drop 1).take 1) = N := hL
  rw [hx2e] at hx2
  rw [hLe] at hx3
  have hHb := hid hH
  have hFb := hid hF
  rw [hx2'] at hF hH
  obtain ⟨c20, c21⟩ := hc2
  obtain ⟨x20, x21⟩ := hx2
  obtain ⟨L0, L1⟩ := hx3
  obtain ⟨q0, q1, q2, q3, qr, hy⟩ := four_cons hb
  have hy2 : q2 = x2 := by rw [← hx2', hy]; exact (fld8_cons ..).symm
  have hy3 : q3 = N := by rw [← hL, hy]; exact (len8_cons ..).symm
  have cl2 : ∀ n : Wk W, n.val.cell? ⟨B, off + 2, none⟩ = some (.int .u8 x2) := by
    obtain ⟨b', o', x, he, hcell, hx⟩ := ibW.at (i := 2) (by omega)
    obtain ⟨rfl, rfl⟩ : B = b' ∧ off = o' := by simpa using he
    have hx0 : b[2]? = some x := hx
    rw [hy] at hx0
    obtain rfl : q2 = x := by simpa using hx0
    rw [← hy2]
    exact Wk.cell hcell
  have cl3 : ∀ n : Wk W, n.val.cell? ⟨B, off + 3, none⟩ = some (.int .u8 N) := by
    obtain ⟨b', o', x, he, hcell, hx⟩ := ibW.at (i := 3) (by omega)
    obtain ⟨rfl, rfl⟩ : B = b' ∧ off = o' := by simpa using he
    have hx0 : b[3]? = some x := hx
    rw [hy] at hx0
    obtain rfl : q3 = x := by simpa using hx0
    rw [← hy3]
    exact Wk.cell hcell
  have V2 := fun (w' : World) (hb' : Below W.heap.size W w') => value_any (b.take 2) (some ⟨B, off, none⟩) c w' (by rw [List.length_take]; omega) (ob.take 2) ((ibW.below hb').take 2)
  rw [List.length_take, Nat.min_eq_left (by omega : 2 ≤ b.length), hC'] at V2
  have V2 := hid V2
  have CL2 := hid cl2
  have CL3 := hid cl3
  have IBW := hid ibW
  have i4 : ¬ (b.length : Int) < 4 := by omega
  have i2c : (2 : Int) ≤ (c : Int) := by omega
  have ibl : (b.length : Int) ≤ (c : Int) := by omega
  have i3l : (3 : Int) < (b.length : Int) := by omega
  have i2l : (2 : Int) < (b.length : Int) := by omega
  have i6 : (b.length : Int) ≤ 2000 := by omega
  have c2D := cl2 ⟨W.drew, below_drew8 W⟩
  have hBlt : B < W.heap.size := World.block_lt_of_cell? W _ (cl2 ⟨W, Below.refl _ _⟩)
  have hBne : ¬ B = W.heap.size := by omega
  have hBw : B < w.heap.size := by
    obtain ⟨b', o', he, hcell⟩ := ib 0 (by omega)
    obtain ⟨rfl, rfl⟩ : B = b' ∧ off = o' := by simpa using he
    exact World.block_lt_of_cell? w _ hcell
  have hRlt := hR.lt
  obtain ⟨Wz, hWz, hbz, hz⟩ := zero_box8 W
  subst hWz
  obtain ⟨z0, z1, z2, z3, z4, z5⟩ := hz.six
  obtain ⟨y0, y1, y2, y3, y4, y5⟩ := hz.drew.six
  have zz := hz.free
  have yz := hz.drew.free
  have HK : Hid (∀ w', Below W.heap.size W w' → w'.cell? ⟨B, off + 2, none⟩ = some (.int .u8 x2)) := fun w' hb' => cl2 ⟨w', hb'⟩
  have E1 : Hid (IntKind.i64.wrap 65535 = 65535) := by show _ = _; decide
  have E2 : Hid (IntKind.i64.wrap ((IntKind.i64.wrap x2).tdiv 2) = F) := by
    show _ = _
    have e : IntKind.i64.wrap x2 = x2 := by simp [IntKind.wrap, IntKind.bits, IntKind.signed]; omega
    rw [e, Int.tdiv_eq_ediv_of_nonneg x20, hF]
    simp [IntKind.wrap, IntKind.bits, IntKind.signed]; omega
  have E3 : Hid ((x2.tmod 2 == 1) = true) := by
    show _ = _
    rw [Int.tmod_eq_emod_of_nonneg x20]
    exact hH
  have HO := fun W => refOf_any F W
  obtain ⟨f, hf⟩ : ∃ f, fld F = f := ⟨_, rfl⟩
  obtain ⟨t, ht⟩ : ∃ t, decide (0 ≤ F ∧ F < 40) = t := ⟨_, rfl⟩
  rw [hf, ht] at HO
  unfold refFldV at HO
  have HO := hid HO
  subst hc8
  obtain ⟨v, hv⟩ : ∃ v, (b.drop 8).take 0 = v := ⟨_, rfl⟩
  obtain ⟨m, hmm⟩ : ∃ m, (b.drop 8).take 0 = m := ⟨_, rfl⟩
  obtain ⟨x4, hx4⟩ : ∃ x4, (b.drop 4).take 4 = x4 := ⟨_, rfl⟩
  obtain ⟨xe, hxe⟩ : ∃ xe, numL x4 = xe := ⟨_, rfl⟩
  have hN4 : (N : Int) = ((0 + 4 : Nat) : Int) := by rw [hM]
  have hat := at_extra hC (hL.trans hN4)
  have hval := val_two (q := 0) hat.2.1 hat.2.2 rfl hHb.out
  have hex : exp8 b = xe := by rw [hat.1, hx4, hxe]
  have hD := hid (dec_body8 hb (by rw [hC, hHb.out, hFb.out, hL, headE, if_neg (by decide), if_pos rfl, if_neg (by simp only [pieces8, if_true]; omega)]) hs hC hFb.out hHb.out hL hex (hval.1.trans hv) (hval.2.trans hmm))
  have hMN : m.length = 0 := by rw [← hmm]; simp
  have hVN : v.length = 0 := by rw [← hv]; simp
  have hWR := fun W a5 c5 a7 c7 => refWrong_extra F true xe a5 c5 a7 c7 v m (fun _ => by omega) (by omega) (hv ▸ (ob.drop 8).take 0) (hmm ▸ (ob.drop 8).take 0) W
  obtain ⟨q, hq⟩ : ∃ q, bytesE 65535 F true v m = q := ⟨_, rfl⟩
  rw [hq] at hD hWR
  have hWR := hid hWR
  have HXO : Hid (Octets x4) := hx4 ▸ (ob.drop 4).take 4
  have HXN : Hid (x4.length = 4) := by show _ = _; rw [← hx4, List.length_take, List.length_drop]; omega
  have HX4 := hid hx4
  have HXE := hid hxe
  have h4 : ¬ (N : Int) < 4 := by omega
  have hev : ((N : Int) - 4) % 2 = 0 := by omega
  have h5 : ¬ (200 : Int) < (N : Int) - 4 := by omega
  have g6 : (((N : Int) - 4).tmod 2 != 0) = false := by
    rw [Int.tmod_eq_emod_of_nonneg (by omega)]
    have hev : ((N : Int) - 4) % 2 = 0 := by omega
    simpa using hev
  have I44 : Hid (¬ 8 = 4) := by show ¬ _; omega
  have I8c : Hid ((8 : Int) ≤ ((8 : Nat) : Int)) := by show _ ≤ _; omega
  have I4d : Hid (True) := trivial
  have I6a : Hid ((8 : Int) ≤ 4 + (N : Int)) := by show _ ≤ _; omega
  have I6c : Hid ((4 : Int) + (N : Int) ≤ ((8 : Nat) : Int)) := by show _ ≤ _; omega
  have HVN := hid hVN
  have HVE := hid hv
  have HME := hid hmm
  have HMN := hid hMN
  have E4 : Hid (((4 : Int) + N - 8) / 2 = 0) := by show _ = _; omega
  have HNL : Hid (0 ≤ 2000) := by show _ ≤ _; omega
  have HNS : Hid (N = 4) := by show _ = _; omega
  clear hv hmm hMN hVN hx4 hxe hN4 hM hat hval hex ob hq hHb hFb
  clear hf ht
  clear hW hbW ib ibW hC hC' hx2' hx2e hLe hL hy hy2 hy3 hF hH cl2 cl3 hbz
  go_enter Tryz.func105, Tryz.ntmps105
  go_wp2_with fail
  rw [HW.out]
  go_upto_region 3 with fail
  go_cut [5] (fun t5 wx => ∃ X, t5 = .pointer (some ⟨X, 0, none⟩) ∧ BoxL wx X [.int .i64 65535, .int .i64 F, .bool true, .int .u64 0, .slice none 0 0, .slice none 0 0] ∧ Below W.heap.size W wx ∧ W.heap.size ≤ X)
  case first =>
    go_region_held3 (fun w' => w'.cell? ⟨B, off + 2, none⟩ = some (.int .u8 x2)) (first | exact HK.out _ (below_alloc _ _).drew | exact HK.out _ (below_alloc _ _) | exact HK.out _ (below_drew8 _) | go_keep) (first | (go_at_call 103; refine (V2.out _ ?_).mono ?_; (first | exact below_drew8 W | exact (below_alloc W _).drew | exact below_alloc W _ | fail); rintro e w' ⟨rfl, rfl⟩) | fail)
    all_goals
      try rw [E1.out]
      rw [E2.out, E3.out]
      go_wp2_with fail
      go_meet
      exact ⟨W.heap.size, rfl, (BoxL.new W _ _).drew, (below_alloc _ _).drew, Nat.le_refl _⟩
  case rest =>
    obtain ⟨X, rfl, hX, hbx, hWX⟩ := hcut
    have hRx := hR.below hbx
    have cl3 := CL3.out ⟨_, hbx⟩
    have hXlt := hX.lt
    have hXR : X ≠ w.heap.size := by omega
    have HBx := hid (below_on HB.out hbx)
    have HBX1 := hid hbx
    obtain ⟨d0, d1, d2, d3, d4, d5⟩ := hX.six
    clear z0 z1 z2 z3 z4 z5 y0 y1 y2 y3 y4 y5 zz yz hz c2D HK CL2 V2
    go_wp2_with fail
    refine (HO.out _).mono ?_
    rintro e w1 ⟨v', rfl, ⟨a', c', rfl, hI⟩, hb1⟩
    clear hI d0 d1 d2 d3 d4 d5
    have hX1 := hX.below hb1
    have hR1 := hRx.below hb1
    have hXl1 := hX1.lt
    have hRl1 := hR1.lt
    have n2 : ¬ X = w1.heap.size := by omega
    have n3 : ¬ w.heap.size = w1.heap.size := by omega
    have HB1 := hid (below_on HBx.out hb1)
    have hb1' := hid hb1
    clear hX hRx hb1 cl3
    obtain ⟨d0, d1, d2, d3, d4, d5⟩ := hX1.six
    obtain ⟨r0, r1, r2, r3, r4, r5⟩ := hR1.six
    have zR := hR1.free
    obtain ⟨W1, hW1, hbW1, hY⟩ := refFld_box3 w1 f f.m (.slice a' f.v.length c')
    have HW1 := hid hW1
    have hX2 := hX1.below hbW1
    have hR2 := hR1.below hbW1
    have HB2 := hid (below_on HB1.out hbW1)
    have IB1 := hid (((IBW.out.below HBX1.out).below hb1'.out).below hbW1)
    clear hW1 hbW1 hY
    go_upto_region 18 with fail
    go_upto_region 20 with fail
    go_upto_region 22 with fail
    rename_i K1 a1 K2 a2
    have A1 := hid a1
    have A2 := hid a2
    clear a1 a2 HO CL3 IBW
    rw [HW1.out]
    clear d0 d1 d2 d3 d4 d5 r0 r1 r2 r3 r4 r5 zR
    obtain ⟨d0, d1, d2, d3, d4, d5⟩ := hX2.six
    have zX := hX2.free
    have hv4 := (IB1.out.drop (j := 4) hbc).take 4
    rw [HX4.out, if_neg I44.out] at hv4
    have V4 := value_any x4 (some ⟨B, off + 4, none⟩) (4) W1 (by have := HXN.out; omega) HXO.out hv4
    rw [HXN.out, HXE.out] at V4
    have V4 := hid V4
    clear hv4
    have i44 := I44.out
    have i8c := I8c.out
    go_upto_region 24 with fail
    refine A2.out _ _ ?_
    go_wp2_with fail
    refine V4.out.mono ?_
    rintro e w9 ⟨rfl, rfl⟩
    go_upto_region 24 with fail
    refine A1.out _ _ ?_
    clear A1 A2 V4 i44 i8c
    have hx3 : BoxL _ X [.int .i64 65535, .int .i64 F, .bool true, .int .u64 xe, .slice none 0 0, .slice none 0 0] := hX2.set 3 (.int .u64 xe) (by simp)
    have hr3 := hR2.far (c := X) (i := 3) (.int .u64 xe) hXR
    have hb3 : Below w.heap.size w (W1.setCell ⟨X, 3, none⟩ (.int .u64 xe)) := HB2.out.setCell (show w.heap.size ≤ X by omega) _
    have ib3 := IB1.out.apart (X := X) (i := 3) (.int .u64 xe) (fun k hk => by cases hk; show B ≠ X; omega)
    obtain ⟨W2, hW2⟩ : ∃ W2, W1.setCell ⟨X, 3, none⟩ (.int .u64 xe) = W2 := ⟨_, rfl⟩
    rw [hW2] at hx3 hr3 hb3 ib3
    clear HW1 hX2 hR2 HB2 IB1 d0 d1 d2 d3 d4 d5 zX
    have hX2 := hx3
    have hR2 := hr3
    have HB2 := hid hb3
    have IB1 := hid ib3
    rw [hW2]
    clear hx3 hr3 hb3 ib3 hW2
    obtain ⟨d0, d1, d2, d3, d4, d5⟩ := hX2.six
    have zX := hX2.free
    go_upto_region 25 with fail
    rw [E4.out]
    have hvi := (IB1.out.drop (j := 8) hbc).take 0
    rw [HVE.out, if_pos rfl] at hvi
    have HVI := hid hvi
    clear hvi
    go_upto_region 27 with (at_builtin; (first
      | (refine wp_app_ints rfl (.tmp 121) (.tmp 127) rfl elemU8 rfl (own_emptyI _ _ .u8) rfl (by have := HVN.out; omega) (HVI.out.below (below_alloc _ _)) (List.nil_append v) ?_ ?_ ?_; (rw [HVN.out]; have := HNL.out; omega); (rw [HVN.out]; have := HNL.out; omega); intro a5 c5 w5 hl5 hc5 hI5 hg5; have hF5 := hg5.first; have hX5 := hX2.below hF5.bel; have hXl5 := hX5.lt; clear d0 d1 d2 d3 d4 d5 zX; obtain ⟨d0, d1, d2, d3, d4, d5⟩ := hX5.six; have zX := hX5.free; have HF5 := hid hF5; have I5 := hid hI5; clear hF5 hg5 hI5)
      | fail))
    rename_i K3 a3
    have A3 := hid a3
    clear a3
    have hXl2 := hX2.lt
    have hx5 : BoxL _ X [.int .i64 65535, .int .i64 F, .bool true, .int .u64 xe, .slice a5 v.length c5, .slice none 0 0] := hX5.set 4 (.slice a5 v.length c5) (by simp)
    have hr5 := (hR2.below HF5.out.bel).far (c := X) (i := 4) (.slice a5 v.length c5) hXR
    have hb5 : Below w.heap.size w (w5.setCell ⟨X, 4, none⟩ (.slice a5 v.length c5)) := (below_on HB2.out HF5.out.bel).setCell (show w.heap.size ≤ X by omega) _
    have i5 := I5.out.apart (X := X) (i := 4) (.slice a5 v.length c5) (fun k hk => by have := fresh_new8 HF5.out k hk; omega)
    have m5 := (IB1.out.below HF5.out.bel).apart (X := X) (i := 4) (.slice a5 v.length c5) (fun k hk => by cases hk; show B ≠ X; omega)
    obtain ⟨W5, hW5⟩ : ∃ W5, w5.setCell ⟨X, 4, none⟩ (.slice a5 v.length c5) = W5 := ⟨_, rfl⟩
    rw [hW5] at hx5 hr5 hb5 i5 m5
    have HB5 := hid hb5
    have J5 := hid i5
    have NR5 : Hid (New8 W2 a5) := fresh_new8 HF5.out
    have hvi := (m5.drop (j := 8) hbc).take 0
    rw [HME.out, if_pos rfl] at hvi
    have HMI := hid hvi
    rw [hW5]
    clear d0 d1 d2 d3 d4 d5 zX hX5 I5 HF5 hb5 i5 hW5 m5 hvi
    obtain ⟨d0, d1, d2, d3, d4, d5⟩ := hx5.six
    have zX := hx5.free
    have i4d := I4d.out
    have i6a := I6a.out
    have i6c := I6c.out
    have hXl5 := hx5.lt
    go_upto_region 28 with (at_builtin; (first
      | (refine wp_app_ints rfl (.tmp 132) (.tmp 139) rfl elemU8 rfl (own_emptyI _ _ .u8) rfl (by have := HMN.out; have := HNS.out; omega) (HMI.out.below (below_alloc _ _)) (List.nil_append m) ?_ ?_ ?_; (rw [HMN.out]; have := HNL.out; omega); (rw [HMN.out]; have := HNL.out; omega); intro a7 c7 w7 hl7 hc7 hI7 hg7; have hF7 := hg7.first; have hX7 := hx5.below hF7.bel; have hXl7 := hX7.lt; clear d0 d1 d2 d3 d4 d5 zX; obtain ⟨d0, d1, d2, d3, d4, d5⟩ := hX7.six; have zX := hX7.free; have HF7 := hid hF7; have I7 := hid hI7; have HC2 := hid hl7; clear hF7 hg7 hI7 hl7)
      | fail))
    refine A3.out _ _ ?_
    clear A3 i4d i6a i6c
    have hx7 : BoxL _ X [.int .i64 65535, .int .i64 F, .bool true, .int .u64 xe, .slice a5 v.length c5, .slice a7 m.length c7] := hX7.set 5 (.slice a7 m.length c7) (by simp)
    have hr7 := (hr5.below HF7.out.bel).far (c := X) (i := 5) (.slice a7 m.length c7) hXR
    have hb7 : Below w.heap.size w (w7.setCell ⟨X, 5, none⟩ (.slice a7 m.length c7)) := (below_on HB5.out HF7.out.bel).setCell (show w.heap.size ≤ X by omega) _
    have i7 := (J5.out.below HF7.out.bel).apart (X := X) (i := 5) (.slice a7 m.length c7) (fun k hk => by have := NR5.out k hk; omega)
    have m7 := I7.out.apart (X := X) (i := 5) (.slice a7 m.length c7) (fun k hk => by have := fresh_new8 HF7.out k hk; omega)
    obtain ⟨W7, hW7⟩ : ∃ W7, w7.setCell ⟨X, 5, none⟩ (.slice a7 m.length c7) = W7 := ⟨_, rfl⟩
    rw [hW7] at hx7 hr7 hb7 i7 m7
    have HB7 := hid hb7
    have J7 := hid i7
    have M5 := hid m7
    have NR7 : Hid (New8 W5 a7) := fresh_new8 HF7.out
    rw [hW7]
    clear d0 d1 d2 d3 d4 d5 zX hX7 I7 HF7 hb7 i7 hW7 m7 HB5 J5 hr5
    obtain ⟨d0, d1, d2, d3, d4, d5⟩ := hx7.six
    go_upto_region 28 with fail
    rename_i K3 a3 K4 a4
    have A3 := hid a3
    have A4 := hid a4
    clear a3 a4
    go_wp2_with fail
    refine (hWR.out _ a5 c5 a7 c7 J7.out M5.out).mono ?_
    rintro e w6 ⟨rfl, hb6⟩
    have hx6 := hx7.below hb6
    have hr6 := hr7.below hb6
    have HB6 := hid (below_on HB7.out hb6)
    have J6 := hid (J7.out.below hb6)
    have M6 := hid (M5.out.below hb6)
    have hXl6 := hx6.lt
    have nXR : ¬ X = w.heap.size := hXR
    have nRX : ¬ w.heap.size = X := fun e => hXR e.symm
    have NR1 : Hid (∀ k : Addr, a5 = some k → k.block ≠ w.heap.size) := fun k hk => by have := NR5.out k hk; omega
    have NN1 : Hid (New8 w a5) := fun k hk => by have := NR5.out k hk; omega
    have NR2 : Hid (∀ k : Addr, a7 = some k → k.block ≠ w.heap.size) := fun k hk => by have := NR7.out k hk; omega
    have NN2 : Hid (New8 w a7) := fun k hk => by have := NR7.out k hk; omega
    clear d0 d1 d2 d3 d4 d5 hx7 hr7 HB7 J7 hb6 hWR NR5
    obtain ⟨d0, d1, d2, d3, d4, d5⟩ := hx6.six
    obtain ⟨r0, r1, r2, r3, r4, r5⟩ := hr6.six
    have zR := hr6.free
    by_cases hq0 : q = 0
    · subst hq0
      have hD' : Hid (decL b = .ok ⟨65535, F, true, xe, v, m, 4 + N⟩) := hD.out
      clear hD
      go_wp2_with fail
      refine A4.out _ _ ?_
      go_wp2_with fail
      refine A3.out _ _ ?_
      clear A3 A4
      go_wp2_with fail
      clear d0 d1 d2 d3 d4 d5 r0 r1 r2 r3 r4 r5
      have hkk := hr6.pre6 (.int .i64 65535) (.int .i64 F) (.bool true) (.int .u64 xe) (.slice a5 v.length c5) (.slice a7 m.length c7)
      obtain ⟨k0, k1, k2, k3, k4, k5⟩ := hkk
      refine bodyPost_ret (v := .tuple #[.agg #[.int .i64 65535, .int .i64 F, .bool true, .int .u64 xe, .slice a5 v.length c5, .slice a7 m.length c7], .int .i64 (4 + (N : Int)), .int .i64 0]) ?_ rfl (Or.inr ⟨⟨65535, F, true, xe, v, m, 4 + N⟩, a5, c5, a7, c7, hD'.out, rfl, ?_, ?_, ?_, ?_, NN1.out, NN2.out⟩)
      · simp only [results, Tryz.results105]
        simp [go_sem, k0, k1, k2, k3, k4, k5]
      · repeat (with_reducible refine Below.setCell ?_ (by simp) _)
        exact HB6.out
      · repeat (refine Ints.apart ?_ _ NR1.out)
        exact J6.out
      · repeat (refine Ints.apart ?_ _ NR2.out)
        exact M6.out
      · exact HC2.out
    · have hD' : Hid (decL b = .error q) := by show _ = _; rw [hD.out, if_neg hq0]
      have HQ := hid hq0
      have gq : (q != 0) = true := by simpa using hq0
      clear hD hq0
      go_wp2_with fail
      refine A4.out _ _ ?_
      go_wp2_with fail
      clear A3 A4 d0 d1 d2 d3 d4 d5 r0 r1 r2 r3 r4 r5
      have hkk := hr6.pre6 (.int .i64 0) (.int .i64 0) (.bool false) (.int .u64 0) (.slice none 0 0) (.slice none 0 0)
      obtain ⟨k0, k1, k2, k3, k4, k5⟩ := hkk
      refine bodyPost_ret (v := .tuple #[.agg #[.int .i64 0, .int .i64 0, .bool false, .int .u64 0, .slice none 0 0, .slice none 0 0], .int .i64 0, .int .i64 q]) ?_ rfl ?_
      · simp only [results, Tryz.results105]
        simp [go_sem, k0, k1, k2, k3, k4, k5]
      · refine Or.inl ⟨q, hD'.out, HQ.out, rfl, ?_⟩
        repeat (with_reducible refine Below.setCell ?_ (by simp) _)
        exact HB6.out
end Go.Proofs.YtdjlbejhphbcoaaGreat
namespace Go.Proofs.YtdjlbejhphbcoaaGreat
open Go.RowKit
set_option linter.unusedVariables false

theorem refDecode8_any (b : List Int) (a : Option Addr) (c : Nat) (hbc : b.length ≤ c) (hc : c ≤ 9223372036854775807) (ob : Octets b) (hl : b.length ≤ 2000) (w : World) (ib : Ints .u8 w a b) :
    Calls Tryz.prog 105 #[.slice a b.length c] w (DecPost (decL b) w) := by
  by_cases h4 : b.length < 4
  · exact refDecode8_few b a c h4 w
  have hb : 4 ≤ b.length := by omega
  obtain ⟨B, off, rfl, -⟩ := ib 0 (by omega)
  have hL := num_byte ((ob.drop 2).drop 1)
  obtain ⟨N, hN⟩ : ∃ N : Nat, len8 b = N := ⟨(len8 b).toNat, by unfold len8; omega⟩
  by_cases h1 : cls8 b = 32768
  · by_cases hF : 0 ≤ fld8 b / 2 ∧ fld8 b / 2 < 40
    · have h7 : (fld (fld8 b / 2)).z ≤ 2000 := by have := (fld_dims hF).2.2.2; omega
      cases hH : oddB (fld8 b)
      · by_cases h3 : (N : Int) = ((fld (fld8 b / 2)).z : Int)
        · by_cases hs : (b.length : Int) < 4 + N
          · exact refDecode8_short1 b B off c hb hbc hc ob w ib hl h1 rfl hH hN hF h3 hs h7
          · exact refDecode8_basic1 b B off c hb hbc hc ob w ib hl h1 rfl hH hN hF h3 hs h7
        · exact refDecode8_len1 b B off c hb hbc hc ob w ib hl h1 rfl hH hN hF h3 h7
      · cases hm : (fld (fld8 b / 2)).m
        · exact refDecode8_mask b B off c hb hbc hc ob w ib hl h1 rfl hH hN hF hm
        · by_cases h3 : (N : Int) = 2 * ((fld (fld8 b / 2)).z : Int)
          · by_cases hs : (b.length : Int) < 4 + N
            · exact refDecode8_short2 b B off c hb hbc hc ob w ib hl h1 rfl hH hN hF hm h3 hs h7
            · exact refDecode8_basic2 b B off c hb hbc hc ob w ib hl h1 rfl hH hN rfl hF hm h3 hs h7
          · exact refDecode8_len2 b B off c hb hbc hc ob w ib hl h1 rfl hH hN hF hm h3 h7
    · exact refDecode8_nofield b B off c hb hbc hc ob w ib hl h1 rfl rfl hN hF
  by_cases h2 : cls8 b = 65535
  · by_cases hx : (N : Int) < 4
    · cases hH : oddB (fld8 b)
      · exact refDecode8_xlen1a b B off c hb hbc hc ob w ib hl h2 rfl hH hN hx
      · exact refDecode8_xlen2a b B off c hb hbc hc ob w ib hl h2 rfl hH hN hx
    obtain ⟨M, hM⟩ : ∃ M, N = M + 4 := ⟨N - 4, by omega⟩
    cases hH : oddB (fld8 b)
    · by_cases h5 : (100 : Int) < (N : Int) - 4
      · exact refDecode8_xlen1b b B off c hb hbc hc ob w ib hl h2 rfl hH hN hx h5
      by_cases hs : (b.length : Int) < 4 + N
      · exact refDecode8_xshort1 b B off c hb hbc hc ob w ib hl h2 rfl hH hN hx h5 hs
      by_cases hc8 : c = 8
      · exact refDecode8_extra1z b B off c hb hbc hc ob w ib hl h2 rfl hH hN (by omega) hs hc8
      · exact refDecode8_extra1 b B off c hb hbc hc ob w ib hl h2 rfl hH hN hM (by omega) hs (by omega)
    · by_cases h5 : ((N : Int) - 4) % 2 = 0
      · by_cases h6 : (200 : Int) < (N : Int) - 4
        · exact refDecode8_xlen2c b B off c hb hbc hc ob w ib hl h2 rfl hH hN hx h5 h6
        by_cases hs : (b.length : Int) < 4 + N
        · exact refDecode8_xshort2 b B off c hb hbc hc ob w ib hl h2 rfl hH hN hx h5 h6 hs
        by_cases hc8 : c = 8
        · exact refDecode8_extra2z b B off c hb hbc hc ob w ib hl h2 rfl hH hN (by omega) hs hc8
        · obtain ⟨S, hS⟩ : ∃ S, M = 2 * S := ⟨M / 2, by omega⟩
          exact refDecode8_extra2 b B off c hb hbc hc ob w ib hl h2 rfl hH hN hM hS (by omega) hs (by omega)
      · exact refDecode8_xlen2b b B off c hb hbc hc ob w ib hl h2 rfl hH hN hx h5
  · exact refDecode8_other b B off c hb hbc hc ob w ib hl rfl rfl rfl hN h1 h2
end Go.Proofs.YtdjlbejhphbcoaaGreat
