/- The document's values: bytes as a value, a mask where none may be. -/
import Derived.Test.YtfogpofgmnibcaaOxmAA
namespace Go.Proofs.Ytfogpofgmnibcaa
open Go.RowKit
set_option linter.unusedVariables false

set_option maxRecDepth 100000 in
set_option maxHeartbeats 8000000 in
theorem refDecode8_mask (b : List Int) (B off c : Nat) (hb : 4 ≤ b.length) (hbc : b.length ≤ c) (hc : c ≤ 9223372036854775807) (ob : Octets b) (w : World) (ib : Ints .u8 w (some ⟨B, off, none⟩) b) (hl : b.length ≤ 600) {F L : Int} (hC : cls8 b = 32768) (hF : fld8 b / 2 = F) (hH : oddB (fld8 b) = true) (hL : len8 b = L) (h1 : 0 ≤ F ∧ F < 40) (hm : (fld F).m = false) :
    Calls Try.prog 16 #[.slice (some ⟨B, off, none⟩) b.length c] w (DecPost (decL b) w) := by
  obtain ⟨W, hW, hbW, hR⟩ := zero_box8 w
  have HW := hid hW
  have HB := hid hbW
  have ibW := ib.below hbW
  have hc2 := num_two ob
  have hx2 := num_byte (ob.drop 2)
  have hx3 := num_byte ((ob.drop 2).drop 1)
  have hC' : numL (b.take 2) = 32768 := hC
  rw [hC'] at hc2
  obtain ⟨x2, hx2'⟩ : ∃ x, fld8 b = x := ⟨_, rfl⟩
  have hx2e : numL ((b.drop 2).take 1) = x2 := hx2'
  have hLe : numL (((b.drop 2).drop 1).take 1) = L := hL
  rw [hx2e] at hx2
  rw [hLe] at hx3
  rw [hx2'] at hF hH
  obtain ⟨c20, c21⟩ := hc2
  obtain ⟨x20, x21⟩ := hx2
  obtain ⟨L0, L1⟩ := hx3
  obtain ⟨q0, q1, q2, q3, qr, hy⟩ := four_cons hb
  have hy2 : q2 = x2 := by rw [← hx2', hy]; exact (fld8_cons ..).symm
  have hy3 : q3 = L := by rw [← hL, hy]; exact (len8_cons ..).symm
  have cl2 : ∀ n : Wk W, n.val.cell? ⟨B, off + 2, none⟩ = some (.int .u8 x2) := by
    obtain ⟨b', o', x, he, hcell, hx⟩ := ibW.at (i := 2) (by omega)
    obtain ⟨rfl, rfl⟩ : B = b' ∧ off = o' := by simpa using he
    have hx0 : b[2]? = some x := hx
    rw [hy] at hx0
    obtain rfl : q2 = x := by simpa using hx0
    rw [← hy2]
    exact Wk.cell hcell
  have cl3 : ∀ n : Wk W, n.val.cell? ⟨B, off + 3, none⟩ = some (.int .u8 L) := by
    obtain ⟨b', o', x, he, hcell, hx⟩ := ibW.at (i := 3) (by omega)
    obtain ⟨rfl, rfl⟩ : B = b' ∧ off = o' := by simpa using he
    have hx0 : b[3]? = some x := hx
    rw [hy] at hx0
    obtain rfl : q3 = x := by simpa using hx0
    rw [← hy3]
    exact Wk.cell hcell
  have V2 := fun (w' : World) (hb' : Below W.heap.size W w') => value_any (b.take 2) (some ⟨B, off, none⟩) c w' (by rw [List.length_take]; omega) (ob.take 2) ((ibW.below hb').take 2)
  rw [List.length_take, Nat.min_eq_left (by omega : 2 ≤ b.length), hC'] at V2
  have V2 := hid V2
  have CL2 := hid cl2
  have CL3 := hid cl3
  have IBW := hid ibW
  have i4 : ¬ (b.length : Int) < 4 := by omega
  have i2c : (2 : Int) ≤ (c : Int) := by omega
  have ibl : (b.length : Int) ≤ (c : Int) := by omega
  have i3l : (3 : Int) < (b.length : Int) := by omega
  have i2l : (2 : Int) < (b.length : Int) := by omega
  have i6 : (b.length : Int) ≤ 600 := by omega
  have c2D := cl2 ⟨W.drew, below_drew8 W⟩
  have hBlt : B < W.heap.size := World.block_lt_of_cell? W _ (cl2 ⟨W, Below.refl _ _⟩)
  have hBne : ¬ B = W.heap.size := by omega
  have hBw : B < w.heap.size := by
    obtain ⟨b', o', he, hcell⟩ := ib 0 (by omega)
    obtain ⟨rfl, rfl⟩ : B = b' ∧ off = o' := by simpa using he
    exact World.block_lt_of_cell? w _ hcell
  have hRlt := hR.lt
  obtain ⟨Wz, hWz, hbz, hz⟩ := zero_box8 W
  subst hWz
  obtain ⟨z0, z1, z2, z3, z4, z5⟩ := hz.six
  obtain ⟨y0, y1, y2, y3, y4, y5⟩ := hz.drew.six
  have zz := hz.free
  have yz := hz.drew.free
  have HK : Hid (∀ w', Below W.heap.size W w' → w'.cell? ⟨B, off + 2, none⟩ = some (.int .u8 x2)) := fun w' hb' => cl2 ⟨w', hb'⟩
  have E1 : Hid (IntKind.i64.wrap 32768 = 32768) := by show _ = _; decide
  have E2 : Hid (IntKind.i64.wrap ((IntKind.i64.wrap x2).tdiv 2) = F) := by
    show _ = _
    have e : IntKind.i64.wrap x2 = x2 := by simp [IntKind.wrap, IntKind.bits, IntKind.signed]; omega
    rw [e, Int.tdiv_eq_ediv_of_nonneg x20, hF]
    simp [IntKind.wrap, IntKind.bits, IntKind.signed]; omega
  have E3 : Hid ((x2.tmod 2 == 1) = true) := by
    show _ = _
    rw [Int.tmod_eq_emod_of_nonneg x20]
    exact hH
  have HO := fun W => refOf_any F W
  obtain ⟨f, hf⟩ : ∃ f, fld F = f := ⟨_, rfl⟩
  obtain ⟨t, ht⟩ : ∃ t, decide (0 ≤ F ∧ F < 40) = t := ⟨_, rfl⟩
  rw [hf, ht] at HO
  unfold refFldV at HO
  have HO := hid HO
  have hD : Hid (decL b = .error 1033) := dec_head8 hb (by rw [hC, hx2', hF, hH, headE, if_pos rfl, if_neg (by simpa using h1), if_pos (by simp [hm])]) (by decide)
  obtain rfl : true = t := by rw [← ht]; exact (decide_eq_true h1).symm
  rw [hf] at hm
  clear h1
  clear hf ht
  clear hW hbW ib ibW hC hC' hx2' hx2e hLe hL hy hy2 hy3 hF hH cl2 cl3 hbz
  go_enter Try.func16, Try.ntmps16
  go_wp2_with fail
  rw [HW.out]
  go_upto_region 3 with fail
  go_cut [5] (fun t5 wx => ∃ X, t5 = .pointer (some ⟨X, 0, none⟩) ∧ BoxL wx X [.int .i64 32768, .int .i64 F, .bool true, .int .u64 0, .slice none 0 0, .slice none 0 0] ∧ Below W.heap.size W wx ∧ W.heap.size ≤ X)
  case first =>
    go_region_held3 (fun w' => w'.cell? ⟨B, off + 2, none⟩ = some (.int .u8 x2)) (first | exact HK.out _ (below_alloc _ _).drew | exact HK.out _ (below_alloc _ _) | exact HK.out _ (below_drew8 _) | go_keep) (first | (go_at_call 40; refine (V2.out _ ?_).mono ?_; (first | exact below_drew8 W | exact (below_alloc W _).drew | exact below_alloc W _ | fail); rintro e w' ⟨rfl, rfl⟩) | fail)
    all_goals
      try rw [E1.out]
      rw [E2.out, E3.out]
      go_wp2_with fail
      go_meet
      exact ⟨W.heap.size, rfl, (BoxL.new W _ _).drew, (below_alloc _ _).drew, Nat.le_refl _⟩
  case rest =>
    obtain ⟨X, rfl, hX, hbx, hWX⟩ := hcut
    have hRx := hR.below hbx
    have cl3 := CL3.out ⟨_, hbx⟩
    have hXlt := hX.lt
    have hXR : X ≠ w.heap.size := by omega
    have HBx := hid (below_on HB.out hbx)
    obtain ⟨d0, d1, d2, d3, d4, d5⟩ := hX.six
    clear z0 z1 z2 z3 z4 z5 y0 y1 y2 y3 y4 y5 zz yz hz c2D HK CL2 V2
    go_wp2_with fail
    refine (HO.out _).mono ?_
    rintro e w1 ⟨v', rfl, ⟨a', c', rfl, hI⟩, hb1⟩
    clear hI d0 d1 d2 d3 d4 d5
    have hX1 := hX.below hb1
    have hR1 := hRx.below hb1
    have hXl1 := hX1.lt
    have hRl1 := hR1.lt
    have n2 : ¬ X = w1.heap.size := by omega
    have n3 : ¬ w.heap.size = w1.heap.size := by omega
    have HB1 := hid (below_on HBx.out hb1)
    clear hX hRx hb1 cl3
    obtain ⟨d0, d1, d2, d3, d4, d5⟩ := hX1.six
    obtain ⟨r0, r1, r2, r3, r4, r5⟩ := hR1.six
    have zR := hR1.free
    obtain ⟨W1, hW1, hbW1, hY⟩ := refFld_box3 w1 f false (.slice a' f.v.length c')
    subst hW1
    have HB2 := hid (below_on HB1.out hbW1)
    obtain ⟨s0, s1, s2, s3, s4, s5⟩ := (hR1.below hbW1).six
    go_upto_region 12 with fail
    rename_i K1 a1 K2 a2
    have A1 := hid a1
    have A2 := hid a2
    clear a1 a2 HO CL3 IBW hY
    repeat (first | go_values | go_skip | go_guarded | go_step | go_upon | go_in | go_back)
    refine A2.out _ _ ?_
    go_wp2_with fail
    clear A1 A2 s0 s1 s2 s3 s4 s5 r0 r1 r2 r3 r4 r5 d0 d1 d2 d3 d4 d5
    obtain ⟨hbe, hke⟩ := dec_end HB1.out (Nat.le_refl _) hR1 (.cells #[.string f.nm, .int .i64 f.b, .int .i64 f.z, .bool false, .int .i64 f.d, .slice a' f.v.length c'] 57)
    have HBE := hid hbe
    obtain ⟨k0, k1, k2, k3, k4, k5⟩ := hke.six
    clear hbe hke
    refine bodyPost_ret (v := .tuple #[.agg #[.int .i64 0, .int .i64 0, .bool false, .int .u64 0, .slice none 0 0, .slice none 0 0], .int .i64 0, .int .i64 1033]) ?_ rfl ?_
    · clear HBE hR1 hX1 HB1 HB2 hD E1 E2 E3 HB
      simp only [results, Try.results16]
      simp [go_sem, k0, k1, k2, k3, k4, k5]
    · exact Or.inl ⟨1033, hD.out, by decide, rfl, HBE.out⟩
end Go.Proofs.Ytfogpofgmnibcaa
