/- Put together out of several texts. -/
import Derived.Test.YtdjlbejhphbcoaaGreatR7
import Derived.Deep.RegionHeld3
import Derived.Deep.DeepCutAuto
namespace Go.Proofs.YtdjlbejhphbcoaaGreat
open Go.RowKit
set_option linter.unusedVariables false

theorem zero_box8 (w : World) : ∃ W, w.alloc (.cells #[.int .i64 0, .int .i64 0, .bool false, .int .u64 0, .slice none 0 0, .slice none 0 0] 25) = W ∧ Below w.heap.size w W ∧ BoxL W w.heap.size [.int .i64 0, .int .i64 0, .bool false, .int .u64 0, .slice none 0 0, .slice none 0 0] := oxm_box w 0 0 false 0 none 0 0 none 0 0
set_option maxRecDepth 100000 in
set_option maxHeartbeats 2000000 in
theorem refDecode8_few (b : List Int) (a : Option Addr) (c : Nat) (hb : b.length < 4) (w : World) :
    Calls Tryz.prog 105 #[.slice a b.length c] w (DecPost (decL b) w) := by
  have hD : Hid (decL b = .error 1026) := by show _ = _; simp [decL, rawL, hb]
  have i4 : (b.length : Int) < 4 := by omega
  obtain ⟨W, hW, hbW, hR⟩ := zero_box8 w
  have HW := hid hW
  have HB := hid hbW
  obtain ⟨r0, r1, r2, r3, r4, r5⟩ := hR.six
  have zR := hR.free
  clear hW hbW hb
  go_enter Tryz.func105, Tryz.ntmps105
  go_wp2_with fail
  rw [HW.out]
  go_wp2_with fail
  refine bodyPost_ret (v := .tuple #[.agg #[.int .i64 0, .int .i64 0, .bool false, .int .u64 0, .slice none 0 0, .slice none 0 0], .int .i64 0, .int .i64 1026]) (by simp [results, Tryz.results105, go_sem, r0, r1, r2, r3, r4, r5]) rfl (.inl ⟨_, hD.out, by decide, rfl, ?_⟩)
  exact HB.out
end Go.Proofs.YtdjlbejhphbcoaaGreat
namespace Go.Proofs.YtdjlbejhphbcoaaGreat
open Go.RowKit
set_option linter.unusedVariables false

theorem dec_head8 {b : List Int} (h4 : 4 ≤ b.length) {q : Int} (h : headE (cls8 b) (fld8 b / 2) (oddB (fld8 b)) (len8 b) = q) (hq : q ≠ 0) : decL b = .error q := by
  have h' : headE (cls8 b) (fld8 b / 2) (oddB (fld8 b)) (len8 b) ≠ 0 := by rw [h]; exact hq
  unfold decL rawL
  rw [if_neg (by omega), if_pos h', h]
theorem dec_short8 {b : List Int} (h4 : 4 ≤ b.length) (h : headE (cls8 b) (fld8 b / 2) (oddB (fld8 b)) (len8 b) = 0) (hs : (b.length : Int) < 4 + len8 b) : decL b = .error 1026 := by
  have h' : ¬ headE (cls8 b) (fld8 b / 2) (oddB (fld8 b)) (len8 b) ≠ 0 := by simpa using h
  have hr : (rest8 b).length < (len8 b).toNat := by unfold rest8; simp only [List.length_drop]; omega
  unfold decL rawL
  rw [if_neg (by omega), if_neg h', if_pos hr]

theorem dec_end {w w1 : World} {R : Nat} (HB1 : Below w.heap.size w w1) (hle : w.heap.size ≤ R) (hR1 : BoxL w1 R [.int .i64 0, .int .i64 0, .bool false, .int .u64 0, .slice none 0 0, .slice none 0 0]) (Y : Obj) :
    Below w.heap.size w ((((((((w1.setCell ⟨R, 0, none⟩ (.int .i64 0)).setCell ⟨R, 1, none⟩ (.int .i64 0)).setCell ⟨R, 2, none⟩ (.bool false)).setCell ⟨R, 3, none⟩ (.int .u64 0)).setCell ⟨R, 4, none⟩ (.slice none 0 0)).setCell ⟨R, 5, none⟩ (.slice none 0 0))).alloc Y) ∧
    BoxL ((((((((w1.setCell ⟨R, 0, none⟩ (.int .i64 0)).setCell ⟨R, 1, none⟩ (.int .i64 0)).setCell ⟨R, 2, none⟩ (.bool false)).setCell ⟨R, 3, none⟩ (.int .u64 0)).setCell ⟨R, 4, none⟩ (.slice none 0 0)).setCell ⟨R, 5, none⟩ (.slice none 0 0))).alloc Y) R [.int .i64 0, .int .i64 0, .bool false, .int .u64 0, .slice none 0 0, .slice none 0 0] :=
  ⟨below_on ((((((HB1.setCell hle _).setCell hle _).setCell hle _).setCell hle _).setCell hle _).setCell hle _) (below_alloc _ _),
   (hR1.set6 (.int .i64 0) (.int .i64 0) (.bool false) (.int .u64 0) (.slice none 0 0) (.slice none 0 0)).alloc Y⟩

set_option maxRecDepth 100000 in
set_option maxHeartbeats 8000000 in
theorem refDecode8_other (b : List Int) (B off c : Nat) (hb : 4 ≤ b.length) (hbc : b.length ≤ c) (hc : c ≤ 9223372036854775807) (ob : Octets b) (w : World) (ib : Ints .u8 w (some ⟨B, off, none⟩) b) (hl : b.length ≤ 2000) {C F L : Int} {H : Bool} (hC : cls8 b = C) (hF : fld8 b / 2 = F) (hH : oddB (fld8 b) = H) (hL : len8 b = L) (h1 : C ≠ 32768) (h2 : C ≠ 65535) :
    Calls Tryz.prog 105 #[.slice (some ⟨B, off, none⟩) b.length c] w (DecPost (decL b) w) := by
  obtain ⟨W, hW, hbW, hR⟩ := zero_box8 w
  have HW := hid hW
  have HB := hid hbW
  have ibW := ib.below hbW
  have hc2 := num_two ob
  have hx2 := num_byte (ob.drop 2)
  have hx3 := num_byte ((ob.drop 2).drop 1)
  have hC' : numL (b.take 2) = C := hC
  rw [hC'] at hc2
  obtain ⟨x2, hx2'⟩ : ∃ x, fld8 b = x := ⟨_, rfl⟩
  have hx2e : numL ((b.drop 2).take 1) = x2 := hx2'
  have hLe : numL (((b.drop 2).drop 1).take 1) = L := hL
  rw [hx2e] at hx2
  rw [hLe] at hx3
  rw [hx2'] at hF hH
  obtain ⟨c20, c21⟩ := hc2
  obtain ⟨x20, x21⟩ := hx2
  obtain ⟨L0, L1⟩ := hx3
  obtain ⟨q0, q1, q2, q3, qr, hy⟩ := four_cons hb
  have hy2 : q2 = x2 := by rw [← hx2', hy]; exact (fld8_cons ..).symm
  have hy3 : q3 = L := by rw [← hL, hy]; exact (len8_cons ..).symm
  have cl2 : ∀ n : Wk W, n.val.cell? ⟨B, off + 2, none⟩ = some (.int .u8 x2) := by
    obtain ⟨b', o', x, he, hcell, hx⟩ := ibW.at (i := 2) (by omega)
    obtain ⟨rfl, rfl⟩ : B = b' ∧ off = o' := by simpa using he
    have hx0 : b[2]? = some x := hx
    rw [hy] at hx0
    obtain rfl : q2 = x := by simpa using hx0
    rw [← hy2]
    exact Wk.cell hcell
  have cl3 : ∀ n : Wk W, n.val.cell? ⟨B, off + 3, none⟩ = some (.int .u8 L) := by
    obtain ⟨b', o', x, he, hcell, hx⟩ := ibW.at (i := 3) (by omega)
    obtain ⟨rfl, rfl⟩ : B = b' ∧ off = o' := by simpa using he
    have hx0 : b[3]? = some x := hx
    rw [hy] at hx0
    obtain rfl : q3 = x := by simpa using hx0
    rw [← hy3]
    exact Wk.cell hcell
  have V2 := fun (w' : World) (hb' : Below W.heap.size W w') => value_any (b.take 2) (some ⟨B, off, none⟩) c w' (by rw [List.length_take]; omega) (ob.take 2) ((ibW.below hb').take 2)
  rw [List.length_take, Nat.min_eq_left (by omega : 2 ≤ b.length), hC'] at V2
  have V2 := hid V2
  have CL2 := hid cl2
  have CL3 := hid cl3
  have IBW := hid ibW
  have i4 : ¬ (b.length : Int) < 4 := by omega
  have i2c : (2 : Int) ≤ (c : Int) := by omega
  have ibl : (b.length : Int) ≤ (c : Int) := by omega
  have i3l : (3 : Int) < (b.length : Int) := by omega
  have i2l : (2 : Int) < (b.length : Int) := by omega
  have i6 : (b.length : Int) ≤ 2000 := by omega
  have c2D := cl2 ⟨W.drew, below_drew8 W⟩
  have hBlt : B < W.heap.size := World.block_lt_of_cell? W _ (cl2 ⟨W, Below.refl _ _⟩)
  have hBne : ¬ B = W.heap.size := by omega
  have hBw : B < w.heap.size := by
    obtain ⟨b', o', he, hcell⟩ := ib 0 (by omega)
    obtain ⟨rfl, rfl⟩ : B = b' ∧ off = o' := by simpa using he
    exact World.block_lt_of_cell? w _ hcell
  have hRlt := hR.lt
  obtain ⟨Wz, hWz, hbz, hz⟩ := zero_box8 W
  subst hWz
  obtain ⟨z0, z1, z2, z3, z4, z5⟩ := hz.six
  obtain ⟨y0, y1, y2, y3, y4, y5⟩ := hz.drew.six
  have zz := hz.free
  have yz := hz.drew.free
  have HK : Hid (∀ w', Below W.heap.size W w' → w'.cell? ⟨B, off + 2, none⟩ = some (.int .u8 x2)) := fun w' hb' => cl2 ⟨w', hb'⟩
  have E1 : Hid (IntKind.i64.wrap C = C) := by show _ = _; simp [IntKind.wrap, IntKind.bits, IntKind.signed]; omega
  have E2 : Hid (IntKind.i64.wrap ((IntKind.i64.wrap x2).tdiv 2) = F) := by
    show _ = _
    have e : IntKind.i64.wrap x2 = x2 := by simp [IntKind.wrap, IntKind.bits, IntKind.signed]; omega
    rw [e, Int.tdiv_eq_ediv_of_nonneg x20, hF]
    simp [IntKind.wrap, IntKind.bits, IntKind.signed]; omega
  have E3 : Hid ((x2.tmod 2 == 1) = H) := by
    show _ = _
    rw [Int.tmod_eq_emod_of_nonneg x20]
    exact hH
  have HO := fun W => refOf_any F W
  obtain ⟨f, hf⟩ : ∃ f, fld F = f := ⟨_, rfl⟩
  obtain ⟨t, ht⟩ : ∃ t, decide (0 ≤ F ∧ F < 40) = t := ⟨_, rfl⟩
  rw [hf, ht] at HO
  unfold refFldV at HO
  have HO := hid HO
  have hD : Hid (decL b = .error 1031) := dec_head8 hb (by rw [hC]; simp [headE, h1, h2]) (by decide)
  have g1 : (C != 32768) = true := by simpa using h1
  have g2 : (C != 65535) = true := by simpa using h2
  have g3 : (C == 32768) = false := by simpa using h1
  have g4 : (C == 65535) = false := by simpa using h2
  clear h1 h2
  clear hf ht
  clear hW hbW ib ibW hC hC' hx2' hx2e hLe hL hy hy2 hy3 hF hH cl2 cl3 hbz
  go_enter Tryz.func105, Tryz.ntmps105
  go_wp2_with fail
  rw [HW.out]
  go_upto_region 3 with fail
  go_cut [5] (fun t5 wx => ∃ X, t5 = .pointer (some ⟨X, 0, none⟩) ∧ BoxL wx X [.int .i64 C, .int .i64 F, .bool H, .int .u64 0, .slice none 0 0, .slice none 0 0] ∧ Below W.heap.size W wx ∧ W.heap.size ≤ X)
  case first =>
    go_region_held3 (fun w' => w'.cell? ⟨B, off + 2, none⟩ = some (.int .u8 x2)) (first | exact HK.out _ (below_alloc _ _).drew | exact HK.out _ (below_alloc _ _) | exact HK.out _ (below_drew8 _) | go_keep) (first | (go_at_call 103; refine (V2.out _ ?_).mono ?_; (first | exact below_drew8 W | exact (below_alloc W _).drew | exact below_alloc W _ | fail); rintro e w' ⟨rfl, rfl⟩) | fail)
    all_goals
      rw [E1.out, E2.out, E3.out]
      go_wp2_with fail
      go_meet
      exact ⟨W.heap.size, rfl, (BoxL.new W _ _).drew, (below_alloc _ _).drew, Nat.le_refl _⟩
  case rest =>
    obtain ⟨X, rfl, hX, hbx, hWX⟩ := hcut
    have hRx := hR.below hbx
    have cl3 := CL3.out ⟨_, hbx⟩
    have hXlt := hX.lt
    have hXR : X ≠ w.heap.size := by omega
    have HBx := hid (below_on HB.out hbx)
    obtain ⟨d0, d1, d2, d3, d4, d5⟩ := hX.six
    clear z0 z1 z2 z3 z4 z5 y0 y1 y2 y3 y4 y5 zz yz hz c2D HK CL2 V2
    go_wp2_with fail
    refine (HO.out _).mono ?_
    rintro e w1 ⟨v', rfl, ⟨a', c', rfl, hI⟩, hb1⟩
    clear hI d0 d1 d2 d3 d4 d5
    have hX1 := hX.below hb1
    have hR1 := hRx.below hb1
    have hXl1 := hX1.lt
    have hRl1 := hR1.lt
    have n2 : ¬ X = w1.heap.size := by omega
    have n3 : ¬ w.heap.size = w1.heap.size := by omega
    have HB1 := hid (below_on HBx.out hb1)
    clear hX hRx hb1 cl3
    obtain ⟨d0, d1, d2, d3, d4, d5⟩ := hX1.six
    obtain ⟨r0, r1, r2, r3, r4, r5⟩ := hR1.six
    have zR := hR1.free
    obtain ⟨W1, hW1, hbW1, hY⟩ := refFld_box3 w1 f f.m (.slice a' f.v.length c')
    subst hW1
    have HB2 := hid (below_on HB1.out hbW1)
    obtain ⟨s0, s1, s2, s3, s4, s5⟩ := (hR1.below hbW1).six
    go_upto_region 7 with fail
    rename_i K1 a1 K2 a2
    have A1 := hid a1
    have A2 := hid a2
    clear a1 a2 HO CL3 IBW hY
    repeat (first | go_values | go_skip | go_guarded | go_step | go_upon | go_in | go_back)
    refine A2.out _ _ ?_
    go_wp2_with fail
    clear A1 A2 s0 s1 s2 s3 s4 s5 r0 r1 r2 r3 r4 r5 d0 d1 d2 d3 d4 d5
    obtain ⟨hbe, hke⟩ := dec_end HB1.out (Nat.le_refl _) hR1 (.cells #[.string f.nm, .int .i64 f.b, .int .i64 f.z, .bool f.m, .int .i64 f.d, .slice a' f.v.length c'] 151)
    have HBE := hid hbe
    obtain ⟨k0, k1, k2, k3, k4, k5⟩ := hke.six
    clear hbe hke
    refine bodyPost_ret (v := .tuple #[.agg #[.int .i64 0, .int .i64 0, .bool false, .int .u64 0, .slice none 0 0, .slice none 0 0], .int .i64 0, .int .i64 1031]) ?_ rfl ?_
    · clear HBE hR1 hX1 HB1 HB2 hD E1 E2 E3 HB
      simp only [results, Tryz.results105]
      simp [go_sem, k0, k1, k2, k3, k4, k5]
    · exact Or.inl ⟨1031, hD.out, by decide, rfl, HBE.out⟩
end Go.Proofs.YtdjlbejhphbcoaaGreat
namespace Go.Proofs.YtdjlbejhphbcoaaGreat
open Go.RowKit
set_option linter.unusedVariables false

set_option maxRecDepth 100000 in
set_option maxHeartbeats 8000000 in
theorem refDecode8_nofield (b : List Int) (B off c : Nat) (hb : 4 ≤ b.length) (hbc : b.length ≤ c) (hc : c ≤ 9223372036854775807) (ob : Octets b) (w : World) (ib : Ints .u8 w (some ⟨B, off, none⟩) b) (hl : b.length ≤ 2000) {F L : Int} {H : Bool} (hC : cls8 b = 32768) (hF : fld8 b / 2 = F) (hH : oddB (fld8 b) = H) (hL : len8 b = L) (h1 : ¬ (0 ≤ F ∧ F < 40)) :
    Calls Tryz.prog 105 #[.slice (some ⟨B, off, none⟩) b.length c] w (DecPost (decL b) w) := by
  obtain ⟨W, hW, hbW, hR⟩ := zero_box8 w
  have HW := hid hW
  have HB := hid hbW
  have ibW := ib.below hbW
  have hc2 := num_two ob
  have hx2 := num_byte (ob.drop 2)
  have hx3 := num_byte ((ob.drop 2).drop 1)
  have hC' : numL (b.take 2) = 32768 := hC
  rw [hC'] at hc2
  obtain ⟨x2, hx2'⟩ : ∃ x, fld8 b = x := ⟨_, rfl⟩
  have hx2e : numL ((b.drop 2).take 1) = x2 := hx2'
  have hLe : numL (((b.drop 2).drop 1).take 1) = L := hL
  rw [hx2e] at hx2
  rw [hLe] at hx3
  rw [hx2'] at hF hH
  obtain ⟨c20, c21⟩ := hc2
  obtain ⟨x20, x21⟩ := hx2
  obtain ⟨L0, L1⟩ := hx3
  obtain ⟨q0, q1, q2, q3, qr, hy⟩ := four_cons hb
  have hy2 : q2 = x2 := by rw [← hx2', hy]; exact (fld8_cons ..).symm
  have hy3 : q3 = L := by rw [← hL, hy]; exact (len8_cons ..).symm
  have cl2 : ∀ n : Wk W, n.val.cell? ⟨B, off + 2, none⟩ = some (.int .u8 x2) := by
    obtain ⟨b', o', x, he, hcell, hx⟩ := ibW.at (i := 2) (by omega)
    obtain ⟨rfl, rfl⟩ : B = b' ∧ off = o' := by simpa using he
    have hx0 : b[2]? = some x := hx
    rw [hy] at hx0
    obtain rfl : q2 = x := by simpa using hx0
    rw [← hy2]
    exact Wk.cell hcell
  have cl3 : ∀ n : Wk W, n.val.cell? ⟨B, off + 3, none⟩ = some (.int .u8 L) := by
    obtain ⟨b', o', x, he, hcell, hx⟩ := ibW.at (i := 3) (by omega)
    obtain ⟨rfl, rfl⟩ : B = b' ∧ off = o' := by simpa using he
    have hx0 : b[3]? = some x := hx
    rw [hy] at hx0
    obtain rfl : q3 = x := by simpa using hx0
    rw [← hy3]
    exact Wk.cell hcell
  have V2 := fun (w' : World) (hb' : Below W.heap.size W w') => value_any (b.take 2) (some ⟨B, off, none⟩) c w' (by rw [List.length_take]; omega) (ob.take 2) ((ibW.below hb').take 2)
  rw [List.length_take, Nat.min_eq_left (by omega : 2 ≤ b.length), hC'] at V2
  have V2 := hid V2
  have CL2 := hid cl2
  have CL3 := hid cl3
  have IBW := hid ibW
  have i4 : ¬ (b.length : Int) < 4 := by omega
  have i2c : (2 : Int) ≤ (c : Int) := by omega
  have ibl : (b.length : Int) ≤ (c : Int) := by omega
  have i3l : (3 : Int) < (b.length : Int) := by omega
  have i2l : (2 : Int) < (b.length : Int) := by omega
  have i6 : (b.length : Int) ≤ 2000 := by omega
  have c2D := cl2 ⟨W.drew, below_drew8 W⟩
  have hBlt : B < W.heap.size := World.block_lt_of_cell? W _ (cl2 ⟨W, Below.refl _ _⟩)
  have hBne : ¬ B = W.heap.size := by omega
  have hBw : B < w.heap.size := by
    obtain ⟨b', o', he, hcell⟩ := ib 0 (by omega)
    obtain ⟨rfl, rfl⟩ : B = b' ∧ off = o' := by simpa using he
    exact World.block_lt_of_cell? w _ hcell
  have hRlt := hR.lt
  obtain ⟨Wz, hWz, hbz, hz⟩ := zero_box8 W
  subst hWz
  obtain ⟨z0, z1, z2, z3, z4, z5⟩ := hz.six
  obtain ⟨y0, y1, y2, y3, y4, y5⟩ := hz.drew.six
  have zz := hz.free
  have yz := hz.drew.free
  have HK : Hid (∀ w', Below W.heap.size W w' → w'.cell? ⟨B, off + 2, none⟩ = some (.int .u8 x2)) := fun w' hb' => cl2 ⟨w', hb'⟩
  have E1 : Hid (IntKind.i64.wrap 32768 = 32768) := by show _ = _; decide
  have E2 : Hid (IntKind.i64.wrap ((IntKind.i64.wrap x2).tdiv 2) = F) := by
    show _ = _
    have e : IntKind.i64.wrap x2 = x2 := by simp [IntKind.wrap, IntKind.bits, IntKind.signed]; omega
    rw [e, Int.tdiv_eq_ediv_of_nonneg x20, hF]
    simp [IntKind.wrap, IntKind.bits, IntKind.signed]; omega
  have E3 : Hid ((x2.tmod 2 == 1) = H) := by
    show _ = _
    rw [Int.tmod_eq_emod_of_nonneg x20]
    exact hH
  have HO := fun W => refOf_any F W
  obtain ⟨f, hf⟩ : ∃ f, fld F = f := ⟨_, rfl⟩
  obtain ⟨t, ht⟩ : ∃ t, decide (0 ≤ F ∧ F < 40) = t := ⟨_, rfl⟩
  rw [hf, ht] at HO
  unfold refFldV at HO
  have HO := hid HO
  have hD : Hid (decL b = .error 1031) := dec_head8 hb (by rw [hC, hx2', hF, headE, if_pos rfl, if_pos h1]) (by decide)
  obtain rfl : false = t := by rw [← ht]; exact (decide_eq_false h1).symm
  clear h1
  clear hf ht
  clear hW hbW ib ibW hC hC' hx2' hx2e hLe hL hy hy2 hy3 hF hH cl2 cl3 hbz
  go_enter Tryz.func105, Tryz.ntmps105
  go_wp2_with fail
  rw [HW.out]
  go_upto_region 3 with fail
  go_cut [5] (fun t5 wx => ∃ X, t5 = .pointer (some ⟨X, 0, none⟩) ∧ BoxL wx X [.int .i64 32768, .int .i64 F, .bool H, .int .u64 0, .slice none 0 0, .slice none 0 0] ∧ Below W.heap.size W wx ∧ W.heap.size ≤ X)
  case first =>
    go_region_held3 (fun w' => w'.cell? ⟨B, off + 2, none⟩ = some (.int .u8 x2)) (first | exact HK.out _ (below_alloc _ _).drew | exact HK.out _ (below_alloc _ _) | exact HK.out _ (below_drew8 _) | go_keep) (first | (go_at_call 103; refine (V2.out _ ?_).mono ?_; (first | exact below_drew8 W | exact (below_alloc W _).drew | exact below_alloc W _ | fail); rintro e w' ⟨rfl, rfl⟩) | fail)
    all_goals
      try rw [E1.out]
      rw [E2.out, E3.out]
      go_wp2_with fail
      go_meet
      exact ⟨W.heap.size, rfl, (BoxL.new W _ _).drew, (below_alloc _ _).drew, Nat.le_refl _⟩
  case rest =>
    obtain ⟨X, rfl, hX, hbx, hWX⟩ := hcut
    have hRx := hR.below hbx
    have cl3 := CL3.out ⟨_, hbx⟩
    have hXlt := hX.lt
    have hXR : X ≠ w.heap.size := by omega
    have HBx := hid (below_on HB.out hbx)
    obtain ⟨d0, d1, d2, d3, d4, d5⟩ := hX.six
    clear z0 z1 z2 z3 z4 z5 y0 y1 y2 y3 y4 y5 zz yz hz c2D HK CL2 V2
    go_wp2_with fail
    refine (HO.out _).mono ?_
    rintro e w1 ⟨v', rfl, ⟨a', c', rfl, hI⟩, hb1⟩
    clear hI d0 d1 d2 d3 d4 d5
    have hX1 := hX.below hb1
    have hR1 := hRx.below hb1
    have hXl1 := hX1.lt
    have hRl1 := hR1.lt
    have n2 : ¬ X = w1.heap.size := by omega
    have n3 : ¬ w.heap.size = w1.heap.size := by omega
    have HB1 := hid (below_on HBx.out hb1)
    clear hX hRx hb1 cl3
    obtain ⟨d0, d1, d2, d3, d4, d5⟩ := hX1.six
    obtain ⟨r0, r1, r2, r3, r4, r5⟩ := hR1.six
    have zR := hR1.free
    obtain ⟨W1, hW1, hbW1, hY⟩ := refFld_box3 w1 f f.m (.slice a' f.v.length c')
    subst hW1
    have HB2 := hid (below_on HB1.out hbW1)
    obtain ⟨s0, s1, s2, s3, s4, s5⟩ := (hR1.below hbW1).six
    go_upto_region 7 with fail
    rename_i K1 a1 K2 a2
    have A1 := hid a1
    have A2 := hid a2
    clear a1 a2 HO CL3 IBW hY
    repeat (first | go_values | go_skip | go_guarded | go_step | go_upon | go_in | go_back)
    refine A2.out _ _ ?_
    go_wp2_with fail
    clear A1 A2 s0 s1 s2 s3 s4 s5 r0 r1 r2 r3 r4 r5 d0 d1 d2 d3 d4 d5
    obtain ⟨hbe, hke⟩ := dec_end HB1.out (Nat.le_refl _) hR1 (.cells #[.string f.nm, .int .i64 f.b, .int .i64 f.z, .bool f.m, .int .i64 f.d, .slice a' f.v.length c'] 151)
    have HBE := hid hbe
    obtain ⟨k0, k1, k2, k3, k4, k5⟩ := hke.six
    clear hbe hke
    refine bodyPost_ret (v := .tuple #[.agg #[.int .i64 0, .int .i64 0, .bool false, .int .u64 0, .slice none 0 0, .slice none 0 0], .int .i64 0, .int .i64 1031]) ?_ rfl ?_
    · clear HBE hR1 hX1 HB1 HB2 hD E1 E2 E3 HB
      simp only [results, Tryz.results105]
      simp [go_sem, k0, k1, k2, k3, k4, k5]
    · exact Or.inl ⟨1031, hD.out, by decide, rfl, HBE.out⟩
end Go.Proofs.YtdjlbejhphbcoaaGreat
namespace Go.Proofs.YtdjlbejhphbcoaaGreat
open Go.RowKit
set_option linter.unusedVariables false

set_option maxRecDepth 100000 in
set_option maxHeartbeats 8000000 in
theorem refDecode8_mask (b : List Int) (B off c : Nat) (hb : 4 ≤ b.length) (hbc : b.length ≤ c) (hc : c ≤ 9223372036854775807) (ob : Octets b) (w : World) (ib : Ints .u8 w (some ⟨B, off, none⟩) b) (hl : b.length ≤ 2000) {F L : Int} (hC : cls8 b = 32768) (hF : fld8 b / 2 = F) (hH : oddB (fld8 b) = true) (hL : len8 b = L) (h1 : 0 ≤ F ∧ F < 40) (hm : (fld F).m = false) :
    Calls Tryz.prog 105 #[.slice (some ⟨B, off, none⟩) b.length c] w (DecPost (decL b) w) := by
  obtain ⟨W, hW, hbW, hR⟩ := zero_box8 w
  have HW := hid hW
  have HB := hid hbW
  have ibW := ib.below hbW
  have hc2 := num_two ob
  have hx2 := num_byte (ob.drop 2)
  have hx3 := num_byte ((ob.drop 2).drop 1)
  have hC' : numL (b.take 2) = 32768 := hC
  rw [hC'] at hc2
  obtain ⟨x2, hx2'⟩ : ∃ x, fld8 b = x := ⟨_, rfl⟩
  have hx2e : numL ((b.drop 2).take 1) = x2 := hx2'
  have hLe : numL (((b.drop 2).drop 1).take 1) = L := hL
  rw [hx2e] at hx2
  rw [hLe] at hx3
  rw [hx2'] at hF hH
  obtain ⟨c20, c21⟩ := hc2
  obtain ⟨x20, x21⟩ := hx2
  obtain ⟨L0, L1⟩ := hx3
  obtain ⟨q0, q1, q2, q3, qr, hy⟩ := four_cons hb
  have hy2 : q2 = x2 := by rw [← hx2', hy]; exact (fld8_cons ..).symm
  have hy3 : q3 = L := by rw [← hL, hy]; exact (len8_cons ..).symm
  have cl2 : ∀ n : Wk W, n.val.cell? ⟨B, off + 2, none⟩ = some (.int .u8 x2) := by
    obtain ⟨b', o', x, he, hcell, hx⟩ := ibW.at (i := 2) (by omega)
    obtain ⟨rfl, rfl⟩ : B = b' ∧ off = o' := by simpa using he
    have hx0 : b[2]? = some x := hx
    rw [hy] at hx0
    obtain rfl : q2 = x := by simpa using hx0
    rw [← hy2]
    exact Wk.cell hcell
  have cl3 : ∀ n : Wk W, n.val.cell? ⟨B, off + 3, none⟩ = some (.int .u8 L) := by
    obtain ⟨b', o', x, he, hcell, hx⟩ := ibW.at (i := 3) (by omega)
    obtain ⟨rfl, rfl⟩ : B = b' ∧ off = o' := by simpa using he
    have hx0 : b[3]? = some x := hx
    rw [hy] at hx0
    obtain rfl : q3 = x := by simpa using hx0
    rw [← hy3]
    exact Wk.cell hcell
  have V2 := fun (w' : World) (hb' : Below W.heap.size W w') => value_any (b.take 2) (some ⟨B, off, none⟩) c w' (by rw [List.length_take]; omega) (ob.take 2) ((ibW.below hb').take 2)
  rw [List.length_take, Nat.min_eq_left (by omega : 2 ≤ b.length), hC'] at V2
  have V2 := hid V2
  have CL2 := hid cl2
  have CL3 := hid cl3
  have IBW := hid ibW
  have i4 : ¬ (b.length : Int) < 4 := by omega
  have i2c : (2 : Int) ≤ (c : Int) := by omega
  have ibl : (b.length : Int) ≤ (c : Int) := by omega
  have i3l : (3 : Int) < (b.length : Int) := by omega
  have i2l : (2 : Int) < (b.length : Int) := by omega
  have i6 : (b.length : Int) ≤ 2000 := by omega
  have c2D := cl2 ⟨W.drew, below_drew8 W⟩
  have hBlt : B < W.heap.size := World.block_lt_of_cell? W _ (cl2 ⟨W, Below.refl _ _⟩)
  have hBne : ¬ B = W.heap.size := by omega
  have hBw : B < w.heap.size := by
    obtain ⟨b', o', he, hcell⟩ := ib 0 (by omega)
    obtain ⟨rfl, rfl⟩ : B = b' ∧ off = o' := by simpa using he
    exact World.block_lt_of_cell? w _ hcell
  have hRlt := hR.lt
  obtain ⟨Wz, hWz, hbz, hz⟩ := zero_box8 W
  subst hWz
  obtain ⟨z0, z1, z2, z3, z4, z5⟩ := hz.six
  obtain ⟨y0, y1, y2, y3, y4, y5⟩ := hz.drew.six
  have zz := hz.free
  have yz := hz.drew.free
  have HK : Hid (∀ w', Below W.heap.size W w' → w'.cell? ⟨B, off + 2, none⟩ = some (.int .u8 x2)) := fun w' hb' => cl2 ⟨w', hb'⟩
  have E1 : Hid (IntKind.i64.wrap 32768 = 32768) := by show _ = _; decide
  have E2 : Hid (IntKind.i64.wrap ((IntKind.i64.wrap x2).tdiv 2) = F) := by
    show _ = _
    have e : IntKind.i64.wrap x2 = x2 := by simp [IntKind.wrap, IntKind.bits, IntKind.signed]; omega
    rw [e, Int.tdiv_eq_ediv_of_nonneg x20, hF]
    simp [IntKind.wrap, IntKind.bits, IntKind.signed]; omega
  have E3 : Hid ((x2.tmod 2 == 1) = true) := by
    show _ = _
    rw [Int.tmod_eq_emod_of_nonneg x20]
    exact hH
  have HO := fun W => refOf_any F W
  obtain ⟨f, hf⟩ : ∃ f, fld F = f := ⟨_, rfl⟩
  obtain ⟨t, ht⟩ : ∃ t, decide (0 ≤ F ∧ F < 40) = t := ⟨_, rfl⟩
  rw [hf, ht] at HO
  unfold refFldV at HO
  have HO := hid HO
  have hD : Hid (decL b = .error 1033) := dec_head8 hb (by rw [hC, hx2', hF, hH, headE, if_pos rfl, if_neg (by simpa using h1), if_pos (by simp [hm])]) (by decide)
  obtain rfl : true = t := by rw [← ht]; exact (decide_eq_true h1).symm
  rw [hf] at hm
  clear h1
  clear hf ht
  clear hW hbW ib ibW hC hC' hx2' hx2e hLe hL hy hy2 hy3 hF hH cl2 cl3 hbz
  go_enter Tryz.func105, Tryz.ntmps105
  go_wp2_with fail
  rw [HW.out]
  go_upto_region 3 with fail
  go_cut [5] (fun t5 wx => ∃ X, t5 = .pointer (some ⟨X, 0, none⟩) ∧ BoxL wx X [.int .i64 32768, .int .i64 F, .bool true, .int .u64 0, .slice none 0 0, .slice none 0 0] ∧ Below W.heap.size W wx ∧ W.heap.size ≤ X)
  case first =>
    go_region_held3 (fun w' => w'.cell? ⟨B, off + 2, none⟩ = some (.int .u8 x2)) (first | exact HK.out _ (below_alloc _ _).drew | exact HK.out _ (below_alloc _ _) | exact HK.out _ (below_drew8 _) | go_keep) (first | (go_at_call 103; refine (V2.out _ ?_).mono ?_; (first | exact below_drew8 W | exact (below_alloc W _).drew | exact below_alloc W _ | fail); rintro e w' ⟨rfl, rfl⟩) | fail)
    all_goals
      try rw [E1.out]
      rw [E2.out, E3.out]
      go_wp2_with fail
      go_meet
      exact ⟨W.heap.size, rfl, (BoxL.new W _ _).drew, (below_alloc _ _).drew, Nat.le_refl _⟩
  case rest =>
    obtain ⟨X, rfl, hX, hbx, hWX⟩ := hcut
    have hRx := hR.below hbx
    have cl3 := CL3.out ⟨_, hbx⟩
    have hXlt := hX.lt
    have hXR : X ≠ w.heap.size := by omega
    have HBx := hid (below_on HB.out hbx)
    obtain ⟨d0, d1, d2, d3, d4, d5⟩ := hX.six
    clear z0 z1 z2 z3 z4 z5 y0 y1 y2 y3 y4 y5 zz yz hz c2D HK CL2 V2
    go_wp2_with fail
    refine (HO.out _).mono ?_
    rintro e w1 ⟨v', rfl, ⟨a', c', rfl, hI⟩, hb1⟩
    clear hI d0 d1 d2 d3 d4 d5
    have hX1 := hX.below hb1
    have hR1 := hRx.below hb1
    have hXl1 := hX1.lt
    have hRl1 := hR1.lt
    have n2 : ¬ X = w1.heap.size := by omega
    have n3 : ¬ w.heap.size = w1.heap.size := by omega
    have HB1 := hid (below_on HBx.out hb1)
    clear hX hRx hb1 cl3
    obtain ⟨d0, d1, d2, d3, d4, d5⟩ := hX1.six
    obtain ⟨r0, r1, r2, r3, r4, r5⟩ := hR1.six
    have zR := hR1.free
    obtain ⟨W1, hW1, hbW1, hY⟩ := refFld_box3 w1 f false (.slice a' f.v.length c')
    subst hW1
    have HB2 := hid (below_on HB1.out hbW1)
    obtain ⟨s0, s1, s2, s3, s4, s5⟩ := (hR1.below hbW1).six
    go_upto_region 12 with fail
    rename_i K1 a1 K2 a2
    have A1 := hid a1
    have A2 := hid a2
    clear a1 a2 HO CL3 IBW hY
    repeat (first | go_values | go_skip | go_guarded | go_step | go_upon | go_in | go_back)
    refine A2.out _ _ ?_
    go_wp2_with fail
    clear A1 A2 s0 s1 s2 s3 s4 s5 r0 r1 r2 r3 r4 r5 d0 d1 d2 d3 d4 d5
    obtain ⟨hbe, hke⟩ := dec_end HB1.out (Nat.le_refl _) hR1 (.cells #[.string f.nm, .int .i64 f.b, .int .i64 f.z, .bool false, .int .i64 f.d, .slice a' f.v.length c'] 151)
    have HBE := hid hbe
    obtain ⟨k0, k1, k2, k3, k4, k5⟩ := hke.six
    clear hbe hke
    refine bodyPost_ret (v := .tuple #[.agg #[.int .i64 0, .int .i64 0, .bool false, .int .u64 0, .slice none 0 0, .slice none 0 0], .int .i64 0, .int .i64 1033]) ?_ rfl ?_
    · clear HBE hR1 hX1 HB1 HB2 hD E1 E2 E3 HB
      simp only [results, Tryz.results105]
      simp [go_sem, k0, k1, k2, k3, k4, k5]
    · exact Or.inl ⟨1033, hD.out, by decide, rfl, HBE.out⟩
end Go.Proofs.YtdjlbejhphbcoaaGreat
namespace Go.Proofs.YtdjlbejhphbcoaaGreat
open Go.RowKit
set_option linter.unusedVariables false

set_option maxRecDepth 100000 in
set_option maxHeartbeats 8000000 in
theorem refDecode8_len1 (b : List Int) (B off c : Nat) (hb : 4 ≤ b.length) (hbc : b.length ≤ c) (hc : c ≤ 9223372036854775807) (ob : Octets b) (w : World) (ib : Ints .u8 w (some ⟨B, off, none⟩) b) (hl : b.length ≤ 2000) {F L : Int} (hC : cls8 b = 32768) (hF : fld8 b / 2 = F) (hH : oddB (fld8 b) = false) (hL : len8 b = L) (h1 : 0 ≤ F ∧ F < 40) (h3 : L ≠ ((fld F).z : Int)) (h7 : (fld F).z ≤ 2000) :
    Calls Tryz.prog 105 #[.slice (some ⟨B, off, none⟩) b.length c] w (DecPost (decL b) w) := by
  obtain ⟨W, hW, hbW, hR⟩ := zero_box8 w
  have HW := hid hW
  have HB := hid hbW
  have ibW := ib.below hbW
  have hc2 := num_two ob
  have hx2 := num_byte (ob.drop 2)
  have hx3 := num_byte ((ob.drop 2).drop 1)
  have hC' : numL (b.take 2) = 32768 := hC
  rw [hC'] at hc2
  obtain ⟨x2, hx2'⟩ : ∃ x, fld8 b = x := ⟨_, rfl⟩
  have hx2e : numL ((b.drop 2).take 1) = x2 := hx2'
  have hLe : numL (((b.drop 2).drop 1).take 1) = L := hL
  rw [hx2e] at hx2
  rw [hLe] at hx3
  rw [hx2'] at hF hH
  obtain ⟨c20, c21⟩ := hc2
  obtain ⟨x20, x21⟩ := hx2
  obtain ⟨L0, L1⟩ := hx3
  obtain ⟨q0, q1, q2, q3, qr, hy⟩ := four_cons hb
  have hy2 : q2 = x2 := by rw [← hx2', hy]; exact (fld8_cons ..).symm
  have hy3 : q3 = L := by rw [← hL, hy]; exact (len8_cons ..).symm
  have cl2 : ∀ n : Wk W, n.val.cell? ⟨B, off + 2, none⟩ = some (.int .u8 x2) := by
    obtain ⟨b', o', x, he, hcell, hx⟩ := ibW.at (i := 2) (by omega)
    obtain ⟨rfl, rfl⟩ : B = b' ∧ off = o' := by simpa using he
    have hx0 : b[2]? = some x := hx
    rw [hy] at hx0
    obtain rfl : q2 = x := by simpa using hx0
    rw [← hy2]
    exact Wk.cell hcell
  have cl3 : ∀ n : Wk W, n.val.cell? ⟨B, off + 3, none⟩ = some (.int .u8 L) := by
    obtain ⟨b', o', x, he, hcell, hx⟩ := ibW.at (i := 3) (by omega)
    obtain ⟨rfl, rfl⟩ : B = b' ∧ off = o' := by simpa using he
    have hx0 : b[3]? = some x := hx
    rw [hy] at hx0
    obtain rfl : q3 = x := by simpa using hx0
    rw [← hy3]
    exact Wk.cell hcell
  have V2 := fun (w' : World) (hb' : Below W.heap.size W w') => value_any (b.take 2) (some ⟨B, off, none⟩) c w' (by rw [List.length_take]; omega) (ob.take 2) ((ibW.below hb').take 2)
  rw [List.length_take, Nat.min_eq_left (by omega : 2 ≤ b.length), hC'] at V2
  have V2 := hid V2
  have CL2 := hid cl2
  have CL3 := hid cl3
  have IBW := hid ibW
  have i4 : ¬ (b.length : Int) < 4 := by omega
  have i2c : (2 : Int) ≤ (c : Int) := by omega
  have ibl : (b.length : Int) ≤ (c : Int) := by omega
  have i3l : (3 : Int) < (b.length : Int) := by omega
  have i2l : (2 : Int) < (b.length : Int) := by omega
  have i6 : (b.length : Int) ≤ 2000 := by omega
  have c2D := cl2 ⟨W.drew, below_drew8 W⟩
  have hBlt : B < W.heap.size := World.block_lt_of_cell? W _ (cl2 ⟨W, Below.refl _ _⟩)
  have hBne : ¬ B = W.heap.size := by omega
  have hBw : B < w.heap.size := by
    obtain ⟨b', o', he, hcell⟩ := ib 0 (by omega)
    obtain ⟨rfl, rfl⟩ : B = b' ∧ off = o' := by simpa using he
    exact World.block_lt_of_cell? w _ hcell
  have hRlt := hR.lt
  obtain ⟨Wz, hWz, hbz, hz⟩ := zero_box8 W
  subst hWz
  obtain ⟨z0, z1, z2, z3, z4, z5⟩ := hz.six
  obtain ⟨y0, y1, y2, y3, y4, y5⟩ := hz.drew.six
  have zz := hz.free
  have yz := hz.drew.free
  have HK : Hid (∀ w', Below W.heap.size W w' → w'.cell? ⟨B, off + 2, none⟩ = some (.int .u8 x2)) := fun w' hb' => cl2 ⟨w', hb'⟩
  have E1 : Hid (IntKind.i64.wrap 32768 = 32768) := by show _ = _; decide
  have E2 : Hid (IntKind.i64.wrap ((IntKind.i64.wrap x2).tdiv 2) = F) := by
    show _ = _
    have e : IntKind.i64.wrap x2 = x2 := by simp [IntKind.wrap, IntKind.bits, IntKind.signed]; omega
    rw [e, Int.tdiv_eq_ediv_of_nonneg x20, hF]
    simp [IntKind.wrap, IntKind.bits, IntKind.signed]; omega
  have E3 : Hid ((x2.tmod 2 == 1) = false) := by
    show _ = _
    rw [Int.tmod_eq_emod_of_nonneg x20]
    exact hH
  have HO := fun W => refOf_any F W
  obtain ⟨f, hf⟩ : ∃ f, fld F = f := ⟨_, rfl⟩
  obtain ⟨t, ht⟩ : ∃ t, decide (0 ≤ F ∧ F < 40) = t := ⟨_, rfl⟩
  rw [hf, ht] at HO
  unfold refFldV at HO
  have HO := hid HO
  have hD : Hid (decL b = .error 1026) := dec_head8 hb (by rw [hC, hx2', hF, hH, headE, if_pos rfl, if_neg (by simpa using h1), if_neg (by simp), if_pos (by rw [hL]; simpa [pieces8] using h3)]) (by decide)
  obtain rfl : true = t := by rw [← ht]; exact (decide_eq_true h1).symm
  rw [hf] at h3 h7
  have g5 : (L != (f.z : Int)) = true := by simpa using h3
  have hz' : (f.z : Int) ≤ 2000 := by omega
  clear h3 h7
  clear h1
  clear hf ht
  clear hW hbW ib ibW hC hC' hx2' hx2e hLe hL hy hy2 hy3 hF hH cl2 cl3 hbz
  go_enter Tryz.func105, Tryz.ntmps105
  go_wp2_with fail
  rw [HW.out]
  go_upto_region 3 with fail
  go_cut [5] (fun t5 wx => ∃ X, t5 = .pointer (some ⟨X, 0, none⟩) ∧ BoxL wx X [.int .i64 32768, .int .i64 F, .bool false, .int .u64 0, .slice none 0 0, .slice none 0 0] ∧ Below W.heap.size W wx ∧ W.heap.size ≤ X)
  case first =>
    go_region_held3 (fun w' => w'.cell? ⟨B, off + 2, none⟩ = some (.int .u8 x2)) (first | exact HK.out _ (below_alloc _ _).drew | exact HK.out _ (below_alloc _ _) | exact HK.out _ (below_drew8 _) | go_keep) (first | (go_at_call 103; refine (V2.out _ ?_).mono ?_; (first | exact below_drew8 W | exact (below_alloc W _).drew | exact below_alloc W _ | fail); rintro e w' ⟨rfl, rfl⟩) | fail)
    all_goals
      try rw [E1.out]
      rw [E2.out, E3.out]
      go_wp2_with fail
      go_meet
      exact ⟨W.heap.size, rfl, (BoxL.new W _ _).drew, (below_alloc _ _).drew, Nat.le_refl _⟩
  case rest =>
    obtain ⟨X, rfl, hX, hbx, hWX⟩ := hcut
    have hRx := hR.below hbx
    have cl3 := CL3.out ⟨_, hbx⟩
    have hXlt := hX.lt
    have hXR : X ≠ w.heap.size := by omega
    have HBx := hid (below_on HB.out hbx)
    obtain ⟨d0, d1, d2, d3, d4, d5⟩ := hX.six
    clear z0 z1 z2 z3 z4 z5 y0 y1 y2 y3 y4 y5 zz yz hz c2D HK CL2 V2
    go_wp2_with fail
    refine (HO.out _).mono ?_
    rintro e w1 ⟨v', rfl, ⟨a', c', rfl, hI⟩, hb1⟩
    clear hI d0 d1 d2 d3 d4 d5
    have hX1 := hX.below hb1
    have hR1 := hRx.below hb1
    have hXl1 := hX1.lt
    have hRl1 := hR1.lt
    have n2 : ¬ X = w1.heap.size := by omega
    have n3 : ¬ w.heap.size = w1.heap.size := by omega
    have HB1 := hid (below_on HBx.out hb1)
    clear hX hRx hb1 cl3
    obtain ⟨d0, d1, d2, d3, d4, d5⟩ := hX1.six
    obtain ⟨r0, r1, r2, r3, r4, r5⟩ := hR1.six
    have zR := hR1.free
    obtain ⟨W1, hW1, hbW1, hY⟩ := refFld_box3 w1 f f.m (.slice a' f.v.length c')
    subst hW1
    have HB2 := hid (below_on HB1.out hbW1)
    obtain ⟨s0, s1, s2, s3, s4, s5⟩ := (hR1.below hbW1).six
    go_upto_region 15 with fail
    go_upto_region 16 with fail
    rename_i K1 a1 K2 a2
    have A1 := hid a1
    have A2 := hid a2
    clear a1 a2 HO CL3 IBW hY
    repeat (first | go_values | go_skip | go_guarded | go_step | go_upon | go_in | go_back)
    refine A2.out _ _ ?_
    go_wp2_with fail
    clear A1 A2 s0 s1 s2 s3 s4 s5 r0 r1 r2 r3 r4 r5 d0 d1 d2 d3 d4 d5
    obtain ⟨hbe, hke⟩ := dec_end HB1.out (Nat.le_refl _) hR1 (.cells #[.string f.nm, .int .i64 f.b, .int .i64 f.z, .bool f.m, .int .i64 f.d, .slice a' f.v.length c'] 151)
    have HBE := hid hbe
    obtain ⟨k0, k1, k2, k3, k4, k5⟩ := hke.six
    clear hbe hke
    refine bodyPost_ret (v := .tuple #[.agg #[.int .i64 0, .int .i64 0, .bool false, .int .u64 0, .slice none 0 0, .slice none 0 0], .int .i64 0, .int .i64 1026]) ?_ rfl ?_
    · clear HBE hR1 hX1 HB1 HB2 hD E1 E2 E3 HB
      simp only [results, Tryz.results105]
      simp [go_sem, k0, k1, k2, k3, k4, k5]
    · exact Or.inl ⟨1026, hD.out, by decide, rfl, HBE.out⟩
end Go.Proofs.YtdjlbejhphbcoaaGreat
namespace Go.Proofs.YtdjlbejhphbcoaaGreat
open Go.RowKit
set_option linter.unusedVariables false

set_option maxRecDepth 100000 in
set_option maxHeartbeats 8000000 in
theorem refDecode8_len2 (b : List Int) (B off c : Nat) (hb : 4 ≤ b.length) (hbc : b.length ≤ c) (hc : c ≤ 9223372036854775807) (ob : Octets b) (w : World) (ib : Ints .u8 w (some ⟨B, off, none⟩) b) (hl : b.length ≤ 2000) {F L : Int} (hC : cls8 b = 32768) (hF : fld8 b / 2 = F) (hH : oddB (fld8 b) = true) (hL : len8 b = L) (h1 : 0 ≤ F ∧ F < 40) (hm : (fld F).m = true) (h3 : L ≠ 2 * ((fld F).z : Int)) (h7 : (fld F).z ≤ 2000) :
    Calls Tryz.prog 105 #[.slice (some ⟨B, off, none⟩) b.length c] w (DecPost (decL b) w) := by
  obtain ⟨W, hW, hbW, hR⟩ := zero_box8 w
  have HW := hid hW
  have HB := hid hbW
  have ibW := ib.below hbW
  have hc2 := num_two ob
  have hx2 := num_byte (ob.drop 2)
  have hx3 := num_byte ((ob.drop 2).drop 1)
  have hC' : numL (b.take 2) = 32768 := hC
  rw [hC'] at hc2
  obtain ⟨x2, hx2'⟩ : ∃ x, fld8 b = x := ⟨_, rfl⟩
  have hx2e : numL ((b.drop 2).take 1) = x2 := hx2'
  have hLe : numL (((b.drop 2).drop 1).take 1) = L := hL
  rw [hx2e] at hx2
  rw [hLe] at hx3
  rw [hx2'] at hF hH
  obtain ⟨c20, c21⟩ := hc2
  obtain ⟨x20, x21⟩ := hx2
  obtain ⟨L0, L1⟩ := hx3
  obtain ⟨q0, q1, q2, q3, qr, hy⟩ := four_cons hb
  have hy2 : q2 = x2 := by rw [← hx2', hy]; exact (fld8_cons ..).symm
  have hy3 : q3 = L := by rw [← hL, hy]; exact (len8_cons ..).symm
  have cl2 : ∀ n : Wk W, n.val.cell? ⟨B, off + 2, none⟩ = some (.int .u8 x2) := by
    obtain ⟨b', o', x, he, hcell, hx⟩ := ibW.at (i := 2) (by omega)
    obtain ⟨rfl, rfl⟩ : B = b' ∧ off = o' := by simpa using he
    have hx0 : b[2]? = some x := hx
    rw [hy] at hx0
    obtain rfl : q2 = x := by simpa using hx0
    rw [← hy2]
    exact Wk.cell hcell
  have cl3 : ∀ n : Wk W, n.val.cell? ⟨B, off + 3, none⟩ = some (.int .u8 L) := by
    obtain ⟨b', o', x, he, hcell, hx⟩ := ibW.at (i := 3) (by omega)
    obtain ⟨rfl, rfl⟩ : B = b' ∧ off = o' := by simpa using he
    have hx0 : b[3]? = some x := hx
    rw [hy] at hx0
    obtain rfl : q3 = x := by simpa using hx0
    rw [← hy3]
    exact Wk.cell hcell
  have V2 := fun (w' : World) (hb' : Below W.heap.size W w') => value_any (b.take 2) (some ⟨B, off, none⟩) c w' (by rw [List.length_take]; omega) (ob.take 2) ((ibW.below hb').take 2)
  rw [List.length_take, Nat.min_eq_left (by omega : 2 ≤ b.length), hC'] at V2
  have V2 := hid V2
  have CL2 := hid cl2
  have CL3 := hid cl3
  have IBW := hid ibW
  have i4 : ¬ (b.length : Int) < 4 := by omega
  have i2c : (2 : Int) ≤ (c : Int) := by omega
  have ibl : (b.length : Int) ≤ (c : Int) := by omega
  have i3l : (3 : Int) < (b.length : Int) := by omega
  have i2l : (2 : Int) < (b.length : Int) := by omega
  have i6 : (b.length : Int) ≤ 2000 := by omega
  have c2D := cl2 ⟨W.drew, below_drew8 W⟩
  have hBlt : B < W.heap.size := World.block_lt_of_cell? W _ (cl2 ⟨W, Below.refl _ _⟩)
  have hBne : ¬ B = W.heap.size := by omega
  have hBw : B < w.heap.size := by
    obtain ⟨b', o', he, hcell⟩ := ib 0 (by omega)
    obtain ⟨rfl, rfl⟩ : B = b' ∧ off = o' := by simpa using he
    exact World.block_lt_of_cell? w _ hcell
  have hRlt := hR.lt
  obtain ⟨Wz, hWz, hbz, hz⟩ := zero_box8 W
  subst hWz
  obtain ⟨z0, z1, z2, z3, z4, z5⟩ := hz.six
  obtain ⟨y0, y1, y2, y3, y4, y5⟩ := hz.drew.six
  have zz := hz.free
  have yz := hz.drew.free
  have HK : Hid (∀ w', Below W.heap.size W w' → w'.cell? ⟨B, off + 2, none⟩ = some (.int .u8 x2)) := fun w' hb' => cl2 ⟨w', hb'⟩
  have E1 : Hid (IntKind.i64.wrap 32768 = 32768) := by show _ = _; decide
  have E2 : Hid (IntKind.i64.wrap ((IntKind.i64.wrap x2).tdiv 2) = F) := by
    show _ = _
    have e : IntKind.i64.wrap x2 = x2 := by simp [IntKind.wrap, IntKind.bits, IntKind.signed]; omega
    rw [e, Int.tdiv_eq_ediv_of_nonneg x20, hF]
    simp [IntKind.wrap, IntKind.bits, IntKind.signed]; omega
  have E3 : Hid ((x2.tmod 2 == 1) = true) := by
    show _ = _
    rw [Int.tmod_eq_emod_of_nonneg x20]
    exact hH
  have HO := fun W => refOf_any F W
  obtain ⟨f, hf⟩ : ∃ f, fld F = f := ⟨_, rfl⟩
  obtain ⟨t, ht⟩ : ∃ t, decide (0 ≤ F ∧ F < 40) = t := ⟨_, rfl⟩
  rw [hf, ht] at HO
  unfold refFldV at HO
  have HO := hid HO
  have hD : Hid (decL b = .error 1026) := dec_head8 hb (by rw [hC, hx2', hF, hH, headE, if_pos rfl, if_neg (by simpa using h1), if_neg (by simp [hm]), if_pos (by rw [hL]; simpa [pieces8, Int.mul_comm] using h3)]) (by decide)
  obtain rfl : true = t := by rw [← ht]; exact (decide_eq_true h1).symm
  rw [hf] at h3 h7 hm
  have g5 : (L != 2 * (f.z : Int)) = true := by simpa using h3
  have hz' : (f.z : Int) ≤ 2000 := by omega
  clear h3 h7
  clear h1
  clear hf ht
  clear hW hbW ib ibW hC hC' hx2' hx2e hLe hL hy hy2 hy3 hF hH cl2 cl3 hbz
  go_enter Tryz.func105, Tryz.ntmps105
  go_wp2_with fail
  rw [HW.out]
  go_upto_region 3 with fail
  go_cut [5] (fun t5 wx => ∃ X, t5 = .pointer (some ⟨X, 0, none⟩) ∧ BoxL wx X [.int .i64 32768, .int .i64 F, .bool true, .int .u64 0, .slice none 0 0, .slice none 0 0] ∧ Below W.heap.size W wx ∧ W.heap.size ≤ X)
  case first =>
    go_region_held3 (fun w' => w'.cell? ⟨B, off + 2, none⟩ = some (.int .u8 x2)) (first | exact HK.out _ (below_alloc _ _).drew | exact HK.out _ (below_alloc _ _) | exact HK.out _ (below_drew8 _) | go_keep) (first | (go_at_call 103; refine (V2.out _ ?_).mono ?_; (first | exact below_drew8 W | exact (below_alloc W _).drew | exact below_alloc W _ | fail); rintro e w' ⟨rfl, rfl⟩) | fail)
    all_goals
      try rw [E1.out]
      rw [E2.out, E3.out]
      go_wp2_with fail
      go_meet
      exact ⟨W.heap.size, rfl, (BoxL.new W _ _).drew, (below_alloc _ _).drew, Nat.le_refl _⟩
  case rest =>
    obtain ⟨X, rfl, hX, hbx, hWX⟩ := hcut
    have hRx := hR.below hbx
    have cl3 := CL3.out ⟨_, hbx⟩
    have hXlt := hX.lt
    have hXR : X ≠ w.heap.size := by omega
    have HBx := hid (below_on HB.out hbx)
    obtain ⟨d0, d1, d2, d3, d4, d5⟩ := hX.six
    clear z0 z1 z2 z3 z4 z5 y0 y1 y2 y3 y4 y5 zz yz hz c2D HK CL2 V2
    go_wp2_with fail
    refine (HO.out _).mono ?_
    rintro e w1 ⟨v', rfl, ⟨a', c', rfl, hI⟩, hb1⟩
    clear hI d0 d1 d2 d3 d4 d5
    have hX1 := hX.below hb1
    have hR1 := hRx.below hb1
    have hXl1 := hX1.lt
    have hRl1 := hR1.lt
    have n2 : ¬ X = w1.heap.size := by omega
    have n3 : ¬ w.heap.size = w1.heap.size := by omega
    have HB1 := hid (below_on HBx.out hb1)
    clear hX hRx hb1 cl3
    obtain ⟨d0, d1, d2, d3, d4, d5⟩ := hX1.six
    obtain ⟨r0, r1, r2, r3, r4, r5⟩ := hR1.six
    have zR := hR1.free
    obtain ⟨W1, hW1, hbW1, hY⟩ := refFld_box3 w1 f true (.slice a' f.v.length c')
    subst hW1
    have HB2 := hid (below_on HB1.out hbW1)
    obtain ⟨s0, s1, s2, s3, s4, s5⟩ := (hR1.below hbW1).six
    go_upto_region 15 with fail
    go_upto_region 16 with fail
    rename_i K1 a1 K2 a2
    have A1 := hid a1
    have A2 := hid a2
    clear a1 a2 HO CL3 IBW hY
    repeat (first | go_values | go_skip | go_guarded | go_step | go_upon | go_in | go_back)
    refine A2.out _ _ ?_
    go_wp2_with fail
    clear A1 A2 s0 s1 s2 s3 s4 s5 r0 r1 r2 r3 r4 r5 d0 d1 d2 d3 d4 d5
    obtain ⟨hbe, hke⟩ := dec_end HB1.out (Nat.le_refl _) hR1 (.cells #[.string f.nm, .int .i64 f.b, .int .i64 f.z, .bool true, .int .i64 f.d, .slice a' f.v.length c'] 151)
    have HBE := hid hbe
    obtain ⟨k0, k1, k2, k3, k4, k5⟩ := hke.six
    clear hbe hke
    refine bodyPost_ret (v := .tuple #[.agg #[.int .i64 0, .int .i64 0, .bool false, .int .u64 0, .slice none 0 0, .slice none 0 0], .int .i64 0, .int .i64 1026]) ?_ rfl ?_
    · clear HBE hR1 hX1 HB1 HB2 hD E1 E2 E3 HB
      simp only [results, Tryz.results105]
      simp [go_sem, k0, k1, k2, k3, k4, k5]
    · exact Or.inl ⟨1026, hD.out, by decide, rfl, HBE.out⟩
end Go.Proofs.YtdjlbejhphbcoaaGreat
namespace Go.Proofs.YtdjlbejhphbcoaaGreat
open Go.RowKit
set_option linter.unusedVariables false

set_option maxRecDepth 100000 in
set_option maxHeartbeats 8000000 in
theorem refDecode8_short1 (b : List Int) (B off c : Nat) (hb : 4 ≤ b.length) (hbc : b.length ≤ c) (hc : c ≤ 9223372036854775807) (ob : Octets b) (w : World) (ib : Ints .u8 w (some ⟨B, off, none⟩) b) (hl : b.length ≤ 2000) {F L : Int} (hC : cls8 b = 32768) (hF : fld8 b / 2 = F) (hH : oddB (fld8 b) = false) (hL : len8 b = L) (h1 : 0 ≤ F ∧ F < 40) (h3 : L = ((fld F).z : Int)) (hs : (b.length : Int) < 4 + L) (h7 : (fld F).z ≤ 2000) :
    Calls Tryz.prog 105 #[.slice (some ⟨B, off, none⟩) b.length c] w (DecPost (decL b) w) := by
  obtain ⟨W, hW, hbW, hR⟩ := zero_box8 w
  have HW := hid hW
  have HB := hid hbW
  have ibW := ib.below hbW
  have hc2 := num_two ob
  have hx2 := num_byte (ob.drop 2)
  have hx3 := num_byte ((ob.drop 2).drop 1)
  have hC' : numL (b.take 2) = 32768 := hC
  rw [hC'] at hc2
  obtain ⟨x2, hx2'⟩ : ∃ x, fld8 b = x := ⟨_, rfl⟩
  have hx2e : numL ((b.drop 2).take 1) = x2 := hx2'
  have hLe : numL (((b.drop 2).drop 1).take 1) = L := hL
  rw [hx2e] at hx2
  rw [hLe] at hx3
  rw [hx2'] at hF hH
  obtain ⟨c20, c21⟩ := hc2
  obtain ⟨x20, x21⟩ := hx2
  obtain ⟨L0, L1⟩ := hx3
  obtain ⟨q0, q1, q2, q3, qr, hy⟩ := four_cons hb
  have hy2 : q2 = x2 := by rw [← hx2', hy]; exact (fld8_cons ..).symm
  have hy3 : q3 = L := by rw [← hL, hy]; exact (len8_cons ..).symm
  have cl2 : ∀ n : Wk W, n.val.cell? ⟨B, off + 2, none⟩ = some (.int .u8 x2) := by
    obtain ⟨b', o', x, he, hcell, hx⟩ := ibW.at (i := 2) (by omega)
    obtain ⟨rfl, rfl⟩ : B = b' ∧ off = o' := by simpa using he
    have hx0 : b[2]? = some x := hx
    rw [hy] at hx0
    obtain rfl : q2 = x := by simpa using hx0
    rw [← hy2]
    exact Wk.cell hcell
  have cl3 : ∀ n : Wk W, n.val.cell? ⟨B, off + 3, none⟩ = some (.int .u8 L) := by
    obtain ⟨b', o', x, he, hcell, hx⟩ := ibW.at (i := 3) (by omega)
    obtain ⟨rfl, rfl⟩ : B = b' ∧ off = o' := by simpa using he
    have hx0 : b[3]? = some x := hx
    rw [hy] at hx0
    obtain rfl : q3 = x := by simpa using hx0
    rw [← hy3]
    exact Wk.cell hcell
  have V2 := fun (w' : World) (hb' : Below W.heap.size W w') => value_any (b.take 2) (some ⟨B, off, none⟩) c w' (by rw [List.length_take]; omega) (ob.take 2) ((ibW.below hb').take 2)
  rw [List.length_take, Nat.min_eq_left (by omega : 2 ≤ b.length), hC'] at V2
  have V2 := hid V2
  have CL2 := hid cl2
  have CL3 := hid cl3
  have IBW := hid ibW
  have i4 : ¬ (b.length : Int) < 4 := by omega
  have i2c : (2 : Int) ≤ (c : Int) := by omega
  have ibl : (b.length : Int) ≤ (c : Int) := by omega
  have i3l : (3 : Int) < (b.length : Int) := by omega
  have i2l : (2 : Int) < (b.length : Int) := by omega
  have i6 : (b.length : Int) ≤ 2000 := by omega
  have c2D := cl2 ⟨W.drew, below_drew8 W⟩
  have hBlt : B < W.heap.size := World.block_lt_of_cell? W _ (cl2 ⟨W, Below.refl _ _⟩)
  have hBne : ¬ B = W.heap.size := by omega
  have hBw : B < w.heap.size := by
    obtain ⟨b', o', he, hcell⟩ := ib 0 (by omega)
    obtain ⟨rfl, rfl⟩ : B = b' ∧ off = o' := by simpa using he
    exact World.block_lt_of_cell? w _ hcell
  have hRlt := hR.lt
  obtain ⟨Wz, hWz, hbz, hz⟩ := zero_box8 W
  subst hWz
  obtain ⟨z0, z1, z2, z3, z4, z5⟩ := hz.six
  obtain ⟨y0, y1, y2, y3, y4, y5⟩ := hz.drew.six
  have zz := hz.free
  have yz := hz.drew.free
  have HK : Hid (∀ w', Below W.heap.size W w' → w'.cell? ⟨B, off + 2, none⟩ = some (.int .u8 x2)) := fun w' hb' => cl2 ⟨w', hb'⟩
  have E1 : Hid (IntKind.i64.wrap 32768 = 32768) := by show _ = _; decide
  have E2 : Hid (IntKind.i64.wrap ((IntKind.i64.wrap x2).tdiv 2) = F) := by
    show _ = _
    have e : IntKind.i64.wrap x2 = x2 := by simp [IntKind.wrap, IntKind.bits, IntKind.signed]; omega
    rw [e, Int.tdiv_eq_ediv_of_nonneg x20, hF]
    simp [IntKind.wrap, IntKind.bits, IntKind.signed]; omega
  have E3 : Hid ((x2.tmod 2 == 1) = false) := by
    show _ = _
    rw [Int.tmod_eq_emod_of_nonneg x20]
    exact hH
  have HO := fun W => refOf_any F W
  obtain ⟨f, hf⟩ : ∃ f, fld F = f := ⟨_, rfl⟩
  obtain ⟨t, ht⟩ : ∃ t, decide (0 ≤ F ∧ F < 40) = t := ⟨_, rfl⟩
  rw [hf, ht] at HO
  unfold refFldV at HO
  have HO := hid HO
  have hD : Hid (decL b = .error 1026) := dec_short8 hb (by rw [hC, hx2', hF, hH, hL, headE, if_pos rfl, if_neg (by simpa using h1), if_neg (by simp), if_neg (by simpa [pieces8] using h3)]) (by rw [hL]; exact hs)
  obtain rfl : true = t := by rw [← ht]; exact (decide_eq_true h1).symm
  rw [hf] at h3 h7
  have g5 : (L != (f.z : Int)) = false := by simpa using h3
  have hz' : (f.z : Int) ≤ 2000 := by omega
  clear h3 h7
  clear h1
  clear hf ht
  clear hW hbW ib ibW hC hC' hx2' hx2e hLe hL hy hy2 hy3 hF hH cl2 cl3 hbz
  go_enter Tryz.func105, Tryz.ntmps105
  go_wp2_with fail
  rw [HW.out]
  go_upto_region 3 with fail
  go_cut [5] (fun t5 wx => ∃ X, t5 = .pointer (some ⟨X, 0, none⟩) ∧ BoxL wx X [.int .i64 32768, .int .i64 F, .bool false, .int .u64 0, .slice none 0 0, .slice none 0 0] ∧ Below W.heap.size W wx ∧ W.heap.size ≤ X)
  case first =>
    go_region_held3 (fun w' => w'.cell? ⟨B, off + 2, none⟩ = some (.int .u8 x2)) (first | exact HK.out _ (below_alloc _ _).drew | exact HK.out _ (below_alloc _ _) | exact HK.out _ (below_drew8 _) | go_keep) (first | (go_at_call 103; refine (V2.out _ ?_).mono ?_; (first | exact below_drew8 W | exact (below_alloc W _).drew | exact below_alloc W _ | fail); rintro e w' ⟨rfl, rfl⟩) | fail)
    all_goals
      try rw [E1.out]
      rw [E2.out, E3.out]
      go_wp2_with fail
      go_meet
      exact ⟨W.heap.size, rfl, (BoxL.new W _ _).drew, (below_alloc _ _).drew, Nat.le_refl _⟩
  case rest =>
    obtain ⟨X, rfl, hX, hbx, hWX⟩ := hcut
    have hRx := hR.below hbx
    have cl3 := CL3.out ⟨_, hbx⟩
    have hXlt := hX.lt
    have hXR : X ≠ w.heap.size := by omega
    have HBx := hid (below_on HB.out hbx)
    obtain ⟨d0, d1, d2, d3, d4, d5⟩ := hX.six
    clear z0 z1 z2 z3 z4 z5 y0 y1 y2 y3 y4 y5 zz yz hz c2D HK CL2 V2
    go_wp2_with fail
    refine (HO.out _).mono ?_
    rintro e w1 ⟨v', rfl, ⟨a', c', rfl, hI⟩, hb1⟩
    clear hI d0 d1 d2 d3 d4 d5
    have hX1 := hX.below hb1
    have hR1 := hRx.below hb1
    have hXl1 := hX1.lt
    have hRl1 := hR1.lt
    have n2 : ¬ X = w1.heap.size := by omega
    have n3 : ¬ w.heap.size = w1.heap.size := by omega
    have HB1 := hid (below_on HBx.out hb1)
    clear hX hRx hb1 cl3
    obtain ⟨d0, d1, d2, d3, d4, d5⟩ := hX1.six
    obtain ⟨r0, r1, r2, r3, r4, r5⟩ := hR1.six
    have zR := hR1.free
    obtain ⟨W1, hW1, hbW1, hY⟩ := refFld_box3 w1 f f.m (.slice a' f.v.length c')
    subst hW1
    have HB2 := hid (below_on HB1.out hbW1)
    obtain ⟨s0, s1, s2, s3, s4, s5⟩ := (hR1.below hbW1).six
    go_upto_region 15 with fail
    go_upto_region 21 with fail
    rename_i K1 a1 K2 a2
    have A1 := hid a1
    have A2 := hid a2
    clear a1 a2 HO CL3 IBW hY
    repeat (first | go_values | go_skip | go_guarded | go_step | go_upon | go_in | go_back)
    refine A2.out _ _ ?_
    go_wp2_with fail
    clear A1 A2 s0 s1 s2 s3 s4 s5 r0 r1 r2 r3 r4 r5 d0 d1 d2 d3 d4 d5
    obtain ⟨hbe, hke⟩ := dec_end HB1.out (Nat.le_refl _) hR1 (.cells #[.string f.nm, .int .i64 f.b, .int .i64 f.z, .bool f.m, .int .i64 f.d, .slice a' f.v.length c'] 151)
    have HBE := hid hbe
    obtain ⟨k0, k1, k2, k3, k4, k5⟩ := hke.six
    clear hbe hke
    refine bodyPost_ret (v := .tuple #[.agg #[.int .i64 0, .int .i64 0, .bool false, .int .u64 0, .slice none 0 0, .slice none 0 0], .int .i64 0, .int .i64 1026]) ?_ rfl ?_
    · clear HBE hR1 hX1 HB1 HB2 hD E1 E2 E3 HB
      simp only [results, Tryz.results105]
      simp [go_sem, k0, k1, k2, k3, k4, k5]
    · exact Or.inl ⟨1026, hD.out, by decide, rfl, HBE.out⟩
end Go.Proofs.YtdjlbejhphbcoaaGreat
namespace Go.Proofs.YtdjlbejhphbcoaaGreat
open Go.RowKit
set_option linter.unusedVariables false

set_option maxRecDepth 100000 in
set_option maxHeartbeats 8000000 in
theorem refDecode8_short2 (b : List Int) (B off c : Nat) (hb : 4 ≤ b.length) (hbc : b.length ≤ c) (hc : c ≤ 9223372036854775807) (ob : Octets b) (w : World) (ib : Ints .u8 w (some ⟨B, off, none⟩) b) (hl : b.length ≤ 2000) {F L : Int} (hC : cls8 b = 32768) (hF : fld8 b / 2 = F) (hH : oddB (fld8 b) = true) (hL : len8 b = L) (h1 : 0 ≤ F ∧ F < 40) (hm : (fld F).m = true) (h3 : L = 2 * ((fld F).z : Int)) (hs : (b.length : Int) < 4 + L) (h7 : (fld F).z ≤ 2000) :
    Calls Tryz.prog 105 #[.slice (some ⟨B, off, none⟩) b.length c] w (DecPost (decL b) w) := by
  obtain ⟨W, hW, hbW, hR⟩ := zero_box8 w
  have HW := hid hW
  have HB := hid hbW
  have ibW := ib.below hbW
  have hc2 := num_two ob
  have hx2 := num_byte (ob.drop 2)
  have hx3 := num_byte ((ob.drop 2).drop 1)
  have hC' : numL (b.take 2) = 32768 := hC
  rw [hC'] at hc2
  obtain ⟨x2, hx2'⟩ : ∃ x, fld8 b = x := ⟨_, rfl⟩
  have hx2e : numL ((b.drop 2).take 1) = x2 := hx2'
  have hLe : numL (((b.drop 2).drop 1).take 1) = L := hL
  rw [hx2e] at hx2
  rw [hLe] at hx3
  rw [hx2'] at hF hH
  obtain ⟨c20, c21⟩ := hc2
  obtain ⟨x20, x21⟩ := hx2
  obtain ⟨L0, L1⟩ := hx3
  obtain ⟨q0, q1, q2, q3, qr, hy⟩ := four_cons hb
  have hy2 : q2 = x2 := by rw [← hx2', hy]; exact (fld8_cons ..).symm
  have hy3 : q3 = L := by rw [← hL, hy]; exact (len8_cons ..).symm
  have cl2 : ∀ n : Wk W, n.val.cell? ⟨B, off + 2, none⟩ = some (.int .u8 x2) := by
    obtain ⟨b', o', x, he, hcell, hx⟩ := ibW.at (i := 2) (by omega)
    obtain ⟨rfl, rfl⟩ : B = b' ∧ off = o' := by simpa using he
    have hx0 : b[2]? = some x := hx
    rw [hy] at hx0
    obtain rfl : q2 = x := by simpa using hx0
    rw [← hy2]
    exact Wk.cell hcell
  have cl3 : ∀ n : Wk W, n.val.cell? ⟨B, off + 3, none⟩ = some (.int .u8 L) := by
    obtain ⟨b', o', x, he, hcell, hx⟩ := ibW.at (i := 3) (by omega)
    obtain ⟨rfl, rfl⟩ : B = b' ∧ off = o' := by simpa using he
    have hx0 : b[3]? = some x := hx
    rw [hy] at hx0
    obtain rfl : q3 = x := by simpa using hx0
    rw [← hy3]
    exact Wk.cell hcell
  have V2 := fun (w' : World) (hb' : Below W.heap.size W w') => value_any (b.take 2) (some ⟨B, off, none⟩) c w' (by rw [List.length_take]; omega) (ob.take 2) ((ibW.below hb').take 2)
  rw [List.length_take, Nat.min_eq_left (by omega : 2 ≤ b.length), hC'] at V2
  have V2 := hid V2
  have CL2 := hid cl2
  have CL3 := hid cl3
  have IBW := hid ibW
  have i4 : ¬ (b.length : Int) < 4 := by omega
  have i2c : (2 : Int) ≤ (c : Int) := by omega
  have ibl : (b.length : Int) ≤ (c : Int) := by omega
  have i3l : (3 : Int) < (b.length : Int) := by omega
  have i2l : (2 : Int) < (b.length : Int) := by omega
  have i6 : (b.length : Int) ≤ 2000 := by omega
  have c2D := cl2 ⟨W.drew, below_drew8 W⟩
  have hBlt : B < W.heap.size := World.block_lt_of_cell? W _ (cl2 ⟨W, Below.refl _ _⟩)
  have hBne : ¬ B = W.heap.size := by omega
  have hBw : B < w.heap.size := by
    obtain ⟨b', o', he, hcell⟩ := ib 0 (by omega)
    obtain ⟨rfl, rfl⟩ : B = b' ∧ off = o' := by simpa using he
    exact World.block_lt_of_cell? w _ hcell
  have hRlt := hR.lt
  obtain ⟨Wz, hWz, hbz, hz⟩ := zero_box8 W
  subst hWz
  obtain ⟨z0, z1, z2, z3, z4, z5⟩ := hz.six
  obtain ⟨y0, y1, y2, y3, y4, y5⟩ := hz.drew.six
  have zz := hz.free
  have yz := hz.drew.free
  have HK : Hid (∀ w', Below W.heap.size W w' → w'.cell? ⟨B, off + 2, none⟩ = some (.int .u8 x2)) := fun w' hb' => cl2 ⟨w', hb'⟩
  have E1 : Hid (IntKind.i64.wrap 32768 = 32768) := by show _ = _; decide
  have E2 : Hid (IntKind.i64.wrap ((IntKind.i64.wrap x2).tdiv 2) = F) := by
    show _ = _
    have e : IntKind.i64.wrap x2 = x2 := by simp [IntKind.wrap, IntKind.bits, IntKind.signed]; omega
    rw [e, Int.tdiv_eq_ediv_of_nonneg x20, hF]
    simp [IntKind.wrap, IntKind.bits, IntKind.signed]; omega
  have E3 : Hid ((x2.tmod 2 == 1) = true) := by
    show _ = _
    rw [Int.tmod_eq_emod_of_nonneg x20]
    exact hH
  have HO := fun W => refOf_any F W
  obtain ⟨f, hf⟩ : ∃ f, fld F = f := ⟨_, rfl⟩
  obtain ⟨t, ht⟩ : ∃ t, decide (0 ≤ F ∧ F < 40) = t := ⟨_, rfl⟩
  rw [hf, ht] at HO
  unfold refFldV at HO
  have HO := hid HO
  have hD : Hid (decL b = .error 1026) := dec_short8 hb (by rw [hC, hx2', hF, hH, hL, headE, if_pos rfl, if_neg (by simpa using h1), if_neg (by simp [hm]), if_neg (by simpa [pieces8, Int.mul_comm] using h3)]) (by rw [hL]; exact hs)
  obtain rfl : true = t := by rw [← ht]; exact (decide_eq_true h1).symm
  rw [hf] at h3 h7 hm
  have g5 : (L != 2 * (f.z : Int)) = false := by simpa using h3
  have hz' : (f.z : Int) ≤ 2000 := by omega
  clear h3 h7
  clear h1
  clear hf ht
  clear hW hbW ib ibW hC hC' hx2' hx2e hLe hL hy hy2 hy3 hF hH cl2 cl3 hbz
  go_enter Tryz.func105, Tryz.ntmps105
  go_wp2_with fail
  rw [HW.out]
  go_upto_region 3 with fail
  go_cut [5] (fun t5 wx => ∃ X, t5 = .pointer (some ⟨X, 0, none⟩) ∧ BoxL wx X [.int .i64 32768, .int .i64 F, .bool true, .int .u64 0, .slice none 0 0, .slice none 0 0] ∧ Below W.heap.size W wx ∧ W.heap.size ≤ X)
  case first =>
    go_region_held3 (fun w' => w'.cell? ⟨B, off + 2, none⟩ = some (.int .u8 x2)) (first | exact HK.out _ (below_alloc _ _).drew | exact HK.out _ (below_alloc _ _) | exact HK.out _ (below_drew8 _) | go_keep) (first | (go_at_call 103; refine (V2.out _ ?_).mono ?_; (first | exact below_drew8 W | exact (below_alloc W _).drew | exact below_alloc W _ | fail); rintro e w' ⟨rfl, rfl⟩) | fail)
    all_goals
      try rw [E1.out]
      rw [E2.out, E3.out]
      go_wp2_with fail
      go_meet
      exact ⟨W.heap.size, rfl, (BoxL.new W _ _).drew, (below_alloc _ _).drew, Nat.le_refl _⟩
  case rest =>
    obtain ⟨X, rfl, hX, hbx, hWX⟩ := hcut
    have hRx := hR.below hbx
    have cl3 := CL3.out ⟨_, hbx⟩
    have hXlt := hX.lt
    have hXR : X ≠ w.heap.size := by omega
    have HBx := hid (below_on HB.out hbx)
    obtain ⟨d0, d1, d2, d3, d4, d5⟩ := hX.six
    clear z0 z1 z2 z3 z4 z5 y0 y1 y2 y3 y4 y5 zz yz hz c2D HK CL2 V2
    go_wp2_with fail
    refine (HO.out _).mono ?_
    rintro e w1 ⟨v', rfl, ⟨a', c', rfl, hI⟩, hb1⟩
    clear hI d0 d1 d2 d3 d4 d5
    have hX1 := hX.below hb1
    have hR1 := hRx.below hb1
    have hXl1 := hX1.lt
    have hRl1 := hR1.lt
    have n2 : ¬ X = w1.heap.size := by omega
    have n3 : ¬ w.heap.size = w1.heap.size := by omega
    have HB1 := hid (below_on HBx.out hb1)
    clear hX hRx hb1 cl3
    obtain ⟨d0, d1, d2, d3, d4, d5⟩ := hX1.six
    obtain ⟨r0, r1, r2, r3, r4, r5⟩ := hR1.six
    have zR := hR1.free
    obtain ⟨W1, hW1, hbW1, hY⟩ := refFld_box3 w1 f true (.slice a' f.v.length c')
    subst hW1
    have HB2 := hid (below_on HB1.out hbW1)
    obtain ⟨s0, s1, s2, s3, s4, s5⟩ := (hR1.below hbW1).six
    go_upto_region 15 with fail
    go_upto_region 21 with fail
    rename_i K1 a1 K2 a2
    have A1 := hid a1
    have A2 := hid a2
    clear a1 a2 HO CL3 IBW hY
    repeat (first | go_values | go_skip | go_guarded | go_step | go_upon | go_in | go_back)
    refine A2.out _ _ ?_
    go_wp2_with fail
    clear A1 A2 s0 s1 s2 s3 s4 s5 r0 r1 r2 r3 r4 r5 d0 d1 d2 d3 d4 d5
    obtain ⟨hbe, hke⟩ := dec_end HB1.out (Nat.le_refl _) hR1 (.cells #[.string f.nm, .int .i64 f.b, .int .i64 f.z, .bool true, .int .i64 f.d, .slice a' f.v.length c'] 151)
    have HBE := hid hbe
    obtain ⟨k0, k1, k2, k3, k4, k5⟩ := hke.six
    clear hbe hke
    refine bodyPost_ret (v := .tuple #[.agg #[.int .i64 0, .int .i64 0, .bool false, .int .u64 0, .slice none 0 0, .slice none 0 0], .int .i64 0, .int .i64 1026]) ?_ rfl ?_
    · clear HBE hR1 hX1 HB1 HB2 hD E1 E2 E3 HB
      simp only [results, Tryz.results105]
      simp [go_sem, k0, k1, k2, k3, k4, k5]
    · exact Or.inl ⟨1026, hD.out, by decide, rfl, HBE.out⟩
end Go.Proofs.YtdjlbejhphbcoaaGreat
namespace Go.Proofs.YtdjlbejhphbcoaaGreat
open Go.RowKit
set_option linter.unusedVariables false

set_option maxRecDepth 100000 in
set_option maxHeartbeats 8000000 in
theorem refDecode8_xlen1a (b : List Int) (B off c : Nat) (hb : 4 ≤ b.length) (hbc : b.length ≤ c) (hc : c ≤ 9223372036854775807) (ob : Octets b) (w : World) (ib : Ints .u8 w (some ⟨B, off, none⟩) b) (hl : b.length ≤ 2000) {F L : Int} (hC : cls8 b = 65535) (hF : fld8 b / 2 = F) (hH : oddB (fld8 b) = false) (hL : len8 b = L) (h3 : L < 4) :
    Calls Tryz.prog 105 #[.slice (some ⟨B, off, none⟩) b.length c] w (DecPost (decL b) w) := by
  obtain ⟨W, hW, hbW, hR⟩ := zero_box8 w
  have HW := hid hW
  have HB := hid hbW
  have ibW := ib.below hbW
  have hc2 := num_two ob
  have hx2 := num_byte (ob.drop 2)
  have hx3 := num_byte ((ob.drop 2).drop 1)
  have hC' : numL (b.take 2) = 65535 := hC
  rw [hC'] at hc2
  obtain ⟨x2, hx2'⟩ : ∃ x, fld8 b = x := ⟨_, rfl⟩
  have hx2e : numL ((b.drop 2).take 1) = x2 := hx2'
  have hLe : numL (((b.drop 2).drop 1).take 1) = L := hL
  rw [hx2e] at hx2
  rw [hLe] at hx3
  rw [hx2'] at hF hH
  obtain ⟨c20, c21⟩ := hc2
  obtain ⟨x20, x21⟩ := hx2
  obtain ⟨L0, L1⟩ := hx3
  obtain ⟨q0, q1, q2, q3, qr, hy⟩ := four_cons hb
  have hy2 : q2 = x2 := by rw [← hx2', hy]; exact (fld8_cons ..).symm
  have hy3 : q3 = L := by rw [← hL, hy]; exact (len8_cons ..).symm
  have cl2 : ∀ n : Wk W, n.val.cell? ⟨B, off + 2, none⟩ = some (.int .u8 x2) := by
    obtain ⟨b', o', x, he, hcell, hx⟩ := ibW.at (i := 2) (by omega)
    obtain ⟨rfl, rfl⟩ : B = b' ∧ off = o' := by simpa using he
    have hx0 : b[2]? = some x := hx
    rw [hy] at hx0
    obtain rfl : q2 = x := by simpa using hx0
    rw [← hy2]
    exact Wk.cell hcell
  have cl3 : ∀ n : Wk W, n.val.cell? ⟨B, off + 3, none⟩ = some (.int .u8 L) := by
    obtain ⟨b', o', x, he, hcell, hx⟩ := ibW.at (i := 3) (by omega)
    obtain ⟨rfl, rfl⟩ : B = b' ∧ off = o' := by simpa using he
    have hx0 : b[3]? = some x := hx
    rw [hy] at hx0
    obtain rfl : q3 = x := by simpa using hx0
    rw [← hy3]
    exact Wk.cell hcell
  have V2 := fun (w' : World) (hb' : Below W.heap.size W w') => value_any (b.take 2) (some ⟨B, off, none⟩) c w' (by rw [List.length_take]; omega) (ob.take 2) ((ibW.below hb').take 2)
  rw [List.length_take, Nat.min_eq_left (by omega : 2 ≤ b.length), hC'] at V2
  have V2 := hid V2
  have CL2 := hid cl2
  have CL3 := hid cl3
  have IBW := hid ibW
  have i4 : ¬ (b.length : Int) < 4 := by omega
  have i2c : (2 : Int) ≤ (c : Int) := by omega
  have ibl : (b.length : Int) ≤ (c : Int) := by omega
  have i3l : (3 : Int) < (b.length : Int) := by omega
  have i2l : (2 : Int) < (b.length : Int) := by omega
  have i6 : (b.length : Int) ≤ 2000 := by omega
  have c2D := cl2 ⟨W.drew, below_drew8 W⟩
  have hBlt : B < W.heap.size := World.block_lt_of_cell? W _ (cl2 ⟨W, Below.refl _ _⟩)
  have hBne : ¬ B = W.heap.size := by omega
  have hBw : B < w.heap.size := by
    obtain ⟨b', o', he, hcell⟩ := ib 0 (by omega)
    obtain ⟨rfl, rfl⟩ : B = b' ∧ off = o' := by simpa using he
    exact World.block_lt_of_cell? w _ hcell
  have hRlt := hR.lt
  obtain ⟨Wz, hWz, hbz, hz⟩ := zero_box8 W
  subst hWz
  obtain ⟨z0, z1, z2, z3, z4, z5⟩ := hz.six
  obtain ⟨y0, y1, y2, y3, y4, y5⟩ := hz.drew.six
  have zz := hz.free
  have yz := hz.drew.free
  have HK : Hid (∀ w', Below W.heap.size W w' → w'.cell? ⟨B, off + 2, none⟩ = some (.int .u8 x2)) := fun w' hb' => cl2 ⟨w', hb'⟩
  have E1 : Hid (IntKind.i64.wrap 65535 = 65535) := by show _ = _; decide
  have E2 : Hid (IntKind.i64.wrap ((IntKind.i64.wrap x2).tdiv 2) = F) := by
    show _ = _
    have e : IntKind.i64.wrap x2 = x2 := by simp [IntKind.wrap, IntKind.bits, IntKind.signed]; omega
    rw [e, Int.tdiv_eq_ediv_of_nonneg x20, hF]
    simp [IntKind.wrap, IntKind.bits, IntKind.signed]; omega
  have E3 : Hid ((x2.tmod 2 == 1) = false) := by
    show _ = _
    rw [Int.tmod_eq_emod_of_nonneg x20]
    exact hH
  have HO := fun W => refOf_any F W
  obtain ⟨f, hf⟩ : ∃ f, fld F = f := ⟨_, rfl⟩
  obtain ⟨t, ht⟩ : ∃ t, decide (0 ≤ F ∧ F < 40) = t := ⟨_, rfl⟩
  rw [hf, ht] at HO
  unfold refFldV at HO
  have HO := hid HO
  have hD : Hid (decL b = .error 1026) := dec_head8 hb (by rw [hC, hx2', hF, hH, hL, headE, if_neg (by decide), if_pos rfl, if_pos (by simp only [pieces8, Bool.false_eq_true, if_false]; omega)]) (by decide)
  have g6 : ¬ ((100 : Int) < L - 4) := by omega
  clear hf ht
  clear hW hbW ib ibW hC hC' hx2' hx2e hLe hL hy hy2 hy3 hF hH cl2 cl3 hbz
  go_enter Tryz.func105, Tryz.ntmps105
  go_wp2_with fail
  rw [HW.out]
  go_upto_region 3 with fail
  go_cut [5] (fun t5 wx => ∃ X, t5 = .pointer (some ⟨X, 0, none⟩) ∧ BoxL wx X [.int .i64 65535, .int .i64 F, .bool false, .int .u64 0, .slice none 0 0, .slice none 0 0] ∧ Below W.heap.size W wx ∧ W.heap.size ≤ X)
  case first =>
    go_region_held3 (fun w' => w'.cell? ⟨B, off + 2, none⟩ = some (.int .u8 x2)) (first | exact HK.out _ (below_alloc _ _).drew | exact HK.out _ (below_alloc _ _) | exact HK.out _ (below_drew8 _) | go_keep) (first | (go_at_call 103; refine (V2.out _ ?_).mono ?_; (first | exact below_drew8 W | exact (below_alloc W _).drew | exact below_alloc W _ | fail); rintro e w' ⟨rfl, rfl⟩) | fail)
    all_goals
      try rw [E1.out]
      rw [E2.out, E3.out]
      go_wp2_with fail
      go_meet
      exact ⟨W.heap.size, rfl, (BoxL.new W _ _).drew, (below_alloc _ _).drew, Nat.le_refl _⟩
  case rest =>
    obtain ⟨X, rfl, hX, hbx, hWX⟩ := hcut
    have hRx := hR.below hbx
    have cl3 := CL3.out ⟨_, hbx⟩
    have hXlt := hX.lt
    have hXR : X ≠ w.heap.size := by omega
    have HBx := hid (below_on HB.out hbx)
    obtain ⟨d0, d1, d2, d3, d4, d5⟩ := hX.six
    clear z0 z1 z2 z3 z4 z5 y0 y1 y2 y3 y4 y5 zz yz hz c2D HK CL2 V2
    go_wp2_with fail
    refine (HO.out _).mono ?_
    rintro e w1 ⟨v', rfl, ⟨a', c', rfl, hI⟩, hb1⟩
    clear hI d0 d1 d2 d3 d4 d5
    have hX1 := hX.below hb1
    have hR1 := hRx.below hb1
    have hXl1 := hX1.lt
    have hRl1 := hR1.lt
    have n2 : ¬ X = w1.heap.size := by omega
    have n3 : ¬ w.heap.size = w1.heap.size := by omega
    have HB1 := hid (below_on HBx.out hb1)
    clear hX hRx hb1 cl3
    obtain ⟨d0, d1, d2, d3, d4, d5⟩ := hX1.six
    obtain ⟨r0, r1, r2, r3, r4, r5⟩ := hR1.six
    have zR := hR1.free
    obtain ⟨W1, hW1, hbW1, hY⟩ := refFld_box3 w1 f f.m (.slice a' f.v.length c')
    subst hW1
    have HB2 := hid (below_on HB1.out hbW1)
    obtain ⟨s0, s1, s2, s3, s4, s5⟩ := (hR1.below hbW1).six
    go_upto_region 18 with fail
    go_upto_region 19 with fail
    rename_i K1 a1 K2 a2
    have A1 := hid a1
    have A2 := hid a2
    clear a1 a2 HO CL3 IBW hY
    repeat (first | go_values | go_skip | go_guarded | go_step | go_upon | go_in | go_back)
    refine A2.out _ _ ?_
    go_wp2_with fail
    clear A1 A2 s0 s1 s2 s3 s4 s5 r0 r1 r2 r3 r4 r5 d0 d1 d2 d3 d4 d5
    obtain ⟨hbe, hke⟩ := dec_end HB1.out (Nat.le_refl _) hR1 (.cells #[.string f.nm, .int .i64 f.b, .int .i64 f.z, .bool f.m, .int .i64 f.d, .slice a' f.v.length c'] 151)
    have HBE := hid hbe
    obtain ⟨k0, k1, k2, k3, k4, k5⟩ := hke.six
    clear hbe hke
    refine bodyPost_ret (v := .tuple #[.agg #[.int .i64 0, .int .i64 0, .bool false, .int .u64 0, .slice none 0 0, .slice none 0 0], .int .i64 0, .int .i64 1026]) ?_ rfl ?_
    · clear HBE hR1 hX1 HB1 HB2 hD E1 E2 E3 HB
      simp only [results, Tryz.results105]
      simp [go_sem, k0, k1, k2, k3, k4, k5]
    · exact Or.inl ⟨1026, hD.out, by decide, rfl, HBE.out⟩

set_option maxRecDepth 100000 in
set_option maxHeartbeats 8000000 in
theorem refDecode8_xlen1b (b : List Int) (B off c : Nat) (hb : 4 ≤ b.length) (hbc : b.length ≤ c) (hc : c ≤ 9223372036854775807) (ob : Octets b) (w : World) (ib : Ints .u8 w (some ⟨B, off, none⟩) b) (hl : b.length ≤ 2000) {F L : Int} (hC : cls8 b = 65535) (hF : fld8 b / 2 = F) (hH : oddB (fld8 b) = false) (hL : len8 b = L) (h4 : ¬ L < 4) (h5 : 100 < L - 4) :
    Calls Tryz.prog 105 #[.slice (some ⟨B, off, none⟩) b.length c] w (DecPost (decL b) w) := by
  obtain ⟨W, hW, hbW, hR⟩ := zero_box8 w
  have HW := hid hW
  have HB := hid hbW
  have ibW := ib.below hbW
  have hc2 := num_two ob
  have hx2 := num_byte (ob.drop 2)
  have hx3 := num_byte ((ob.drop 2).drop 1)
  have hC' : numL (b.take 2) = 65535 := hC
  rw [hC'] at hc2
  obtain ⟨x2, hx2'⟩ : ∃ x, fld8 b = x := ⟨_, rfl⟩
  have hx2e : numL ((b.drop 2).take 1) = x2 := hx2'
  have hLe : numL (((b.drop 2).drop 1).take 1) = L := hL
  rw [hx2e] at hx2
  rw [hLe] at hx3
  rw [hx2'] at hF hH
  obtain ⟨c20, c21⟩ := hc2
  obtain ⟨x20, x21⟩ := hx2
  obtain ⟨L0, L1⟩ := hx3
  obtain ⟨q0, q1, q2, q3, qr, hy⟩ := four_cons hb
  have hy2 : q2 = x2 := by rw [← hx2', hy]; exact (fld8_cons ..).symm
  have hy3 : q3 = L := by rw [← hL, hy]; exact (len8_cons ..).symm
  have cl2 : ∀ n : Wk W, n.val.cell? ⟨B, off + 2, none⟩ = some (.int .u8 x2) := by
    obtain ⟨b', o', x, he, hcell, hx⟩ := ibW.at (i := 2) (by omega)
    obtain ⟨rfl, rfl⟩ : B = b' ∧ off = o' := by simpa using he
    have hx0 : b[2]? = some x := hx
    rw [hy] at hx0
    obtain rfl : q2 = x := by simpa using hx0
    rw [← hy2]
    exact Wk.cell hcell
  have cl3 : ∀ n : Wk W, n.val.cell? ⟨B, off + 3, none⟩ = some (.int .u8 L) := by
    obtain ⟨b', o', x, he, hcell, hx⟩ := ibW.at (i := 3) (by omega)
    obtain ⟨rfl, rfl⟩ : B = b' ∧ off = o' := by simpa using he
    have hx0 : b[3]? = some x := hx
    rw [hy] at hx0
    obtain rfl : q3 = x := by simpa using hx0
    rw [← hy3]
    exact Wk.cell hcell
  have V2 := fun (w' : World) (hb' : Below W.heap.size W w') => value_any (b.take 2) (some ⟨B, off, none⟩) c w' (by rw [List.length_take]; omega) (ob.take 2) ((ibW.below hb').take 2)
  rw [List.length_take, Nat.min_eq_left (by omega : 2 ≤ b.length), hC'] at V2
  have V2 := hid V2
  have CL2 := hid cl2
  have CL3 := hid cl3
  have IBW := hid ibW
  have i4 : ¬ (b.length : Int) < 4 := by omega
  have i2c : (2 : Int) ≤ (c : Int) := by omega
  have ibl : (b.length : Int) ≤ (c : Int) := by omega
  have i3l : (3 : Int) < (b.length : Int) := by omega
  have i2l : (2 : Int) < (b.length : Int) := by omega
  have i6 : (b.length : Int) ≤ 2000 := by omega
  have c2D := cl2 ⟨W.drew, below_drew8 W⟩
  have hBlt : B < W.heap.size := World.block_lt_of_cell? W _ (cl2 ⟨W, Below.refl _ _⟩)
  have hBne : ¬ B = W.heap.size := by omega
  have hBw : B < w.heap.size := by
    obtain ⟨b', o', he, hcell⟩ := ib 0 (by omega)
    obtain ⟨rfl, rfl⟩ : B = b' ∧ off = o' := by simpa using he
    exact World.block_lt_of_cell? w _ hcell
  have hRlt := hR.lt
  obtain ⟨Wz, hWz, hbz, hz⟩ := zero_box8 W
  subst hWz
  obtain ⟨z0, z1, z2, z3, z4, z5⟩ := hz.six
  obtain ⟨y0, y1, y2, y3, y4, y5⟩ := hz.drew.six
  have zz := hz.free
  have yz := hz.drew.free
  have HK : Hid (∀ w', Below W.heap.size W w' → w'.cell? ⟨B, off + 2, none⟩ = some (.int .u8 x2)) := fun w' hb' => cl2 ⟨w', hb'⟩
  have E1 : Hid (IntKind.i64.wrap 65535 = 65535) := by show _ = _; decide
  have E2 : Hid (IntKind.i64.wrap ((IntKind.i64.wrap x2).tdiv 2) = F) := by
    show _ = _
    have e : IntKind.i64.wrap x2 = x2 := by simp [IntKind.wrap, IntKind.bits, IntKind.signed]; omega
    rw [e, Int.tdiv_eq_ediv_of_nonneg x20, hF]
    simp [IntKind.wrap, IntKind.bits, IntKind.signed]; omega
  have E3 : Hid ((x2.tmod 2 == 1) = false) := by
    show _ = _
    rw [Int.tmod_eq_emod_of_nonneg x20]
    exact hH
  have HO := fun W => refOf_any F W
  obtain ⟨f, hf⟩ : ∃ f, fld F = f := ⟨_, rfl⟩
  obtain ⟨t, ht⟩ : ∃ t, decide (0 ≤ F ∧ F < 40) = t := ⟨_, rfl⟩
  rw [hf, ht] at HO
  unfold refFldV at HO
  have HO := hid HO
  have hD : Hid (decL b = .error 1026) := dec_head8 hb (by rw [hC, hx2', hF, hH, hL, headE, if_neg (by decide), if_pos rfl, if_pos (by simp only [pieces8, Bool.false_eq_true, if_false]; omega)]) (by decide)
  have g6 : ((L - 4).tmod 1 != 0) = false := by rw [Int.tmod_one]; rfl
  clear hf ht
  clear hW hbW ib ibW hC hC' hx2' hx2e hLe hL hy hy2 hy3 hF hH cl2 cl3 hbz
  go_enter Tryz.func105, Tryz.ntmps105
  go_wp2_with fail
  rw [HW.out]
  go_upto_region 3 with fail
  go_cut [5] (fun t5 wx => ∃ X, t5 = .pointer (some ⟨X, 0, none⟩) ∧ BoxL wx X [.int .i64 65535, .int .i64 F, .bool false, .int .u64 0, .slice none 0 0, .slice none 0 0] ∧ Below W.heap.size W wx ∧ W.heap.size ≤ X)
  case first =>
    go_region_held3 (fun w' => w'.cell? ⟨B, off + 2, none⟩ = some (.int .u8 x2)) (first | exact HK.out _ (below_alloc _ _).drew | exact HK.out _ (below_alloc _ _) | exact HK.out _ (below_drew8 _) | go_keep) (first | (go_at_call 103; refine (V2.out _ ?_).mono ?_; (first | exact below_drew8 W | exact (below_alloc W _).drew | exact below_alloc W _ | fail); rintro e w' ⟨rfl, rfl⟩) | fail)
    all_goals
      try rw [E1.out]
      rw [E2.out, E3.out]
      go_wp2_with fail
      go_meet
      exact ⟨W.heap.size, rfl, (BoxL.new W _ _).drew, (below_alloc _ _).drew, Nat.le_refl _⟩
  case rest =>
    obtain ⟨X, rfl, hX, hbx, hWX⟩ := hcut
    have hRx := hR.below hbx
    have cl3 := CL3.out ⟨_, hbx⟩
    have hXlt := hX.lt
    have hXR : X ≠ w.heap.size := by omega
    have HBx := hid (below_on HB.out hbx)
    obtain ⟨d0, d1, d2, d3, d4, d5⟩ := hX.six
    clear z0 z1 z2 z3 z4 z5 y0 y1 y2 y3 y4 y5 zz yz hz c2D HK CL2 V2
    go_wp2_with fail
    refine (HO.out _).mono ?_
    rintro e w1 ⟨v', rfl, ⟨a', c', rfl, hI⟩, hb1⟩
    clear hI d0 d1 d2 d3 d4 d5
    have hX1 := hX.below hb1
    have hR1 := hRx.below hb1
    have hXl1 := hX1.lt
    have hRl1 := hR1.lt
    have n2 : ¬ X = w1.heap.size := by omega
    have n3 : ¬ w.heap.size = w1.heap.size := by omega
    have HB1 := hid (below_on HBx.out hb1)
    clear hX hRx hb1 cl3
    obtain ⟨d0, d1, d2, d3, d4, d5⟩ := hX1.six
    obtain ⟨r0, r1, r2, r3, r4, r5⟩ := hR1.six
    have zR := hR1.free
    obtain ⟨W1, hW1, hbW1, hY⟩ := refFld_box3 w1 f f.m (.slice a' f.v.length c')
    subst hW1
    have HB2 := hid (below_on HB1.out hbW1)
    obtain ⟨s0, s1, s2, s3, s4, s5⟩ := (hR1.below hbW1).six
    go_upto_region 18 with fail
    go_upto_region 19 with fail
    rename_i K1 a1 K2 a2
    have A1 := hid a1
    have A2 := hid a2
    clear a1 a2 HO CL3 IBW hY
    repeat (first | go_values | go_skip | go_guarded | go_step | go_upon | go_in | go_back)
    refine A2.out _ _ ?_
    go_wp2_with fail
    clear A1 A2 s0 s1 s2 s3 s4 s5 r0 r1 r2 r3 r4 r5 d0 d1 d2 d3 d4 d5
    obtain ⟨hbe, hke⟩ := dec_end HB1.out (Nat.le_refl _) hR1 (.cells #[.string f.nm, .int .i64 f.b, .int .i64 f.z, .bool f.m, .int .i64 f.d, .slice a' f.v.length c'] 151)
    have HBE := hid hbe
    obtain ⟨k0, k1, k2, k3, k4, k5⟩ := hke.six
    clear hbe hke
    refine bodyPost_ret (v := .tuple #[.agg #[.int .i64 0, .int .i64 0, .bool false, .int .u64 0, .slice none 0 0, .slice none 0 0], .int .i64 0, .int .i64 1026]) ?_ rfl ?_
    · clear HBE hR1 hX1 HB1 HB2 hD E1 E2 E3 HB
      simp only [results, Tryz.results105]
      simp [go_sem, k0, k1, k2, k3, k4, k5]
    · exact Or.inl ⟨1026, hD.out, by decide, rfl, HBE.out⟩

end Go.Proofs.YtdjlbejhphbcoaaGreat
namespace Go.Proofs.YtdjlbejhphbcoaaGreat
open Go.RowKit
set_option linter.unusedVariables false

set_option maxRecDepth 100000 in
set_option maxHeartbeats 8000000 in
theorem refDecode8_xlen2a (b : List Int) (B off c : Nat) (hb : 4 ≤ b.length) (hbc : b.length ≤ c) (hc : c ≤ 9223372036854775807) (ob : Octets b) (w : World) (ib : Ints .u8 w (some ⟨B, off, none⟩) b) (hl : b.length ≤ 2000) {F L : Int} (hC : cls8 b = 65535) (hF : fld8 b / 2 = F) (hH : oddB (fld8 b) = true) (hL : len8 b = L) (h3 : L < 4) :
    Calls Tryz.prog 105 #[.slice (some ⟨B, off, none⟩) b.length c] w (DecPost (decL b) w) := by
  obtain ⟨W, hW, hbW, hR⟩ := zero_box8 w
  have HW := hid hW
  have HB := hid hbW
  have ibW := ib.below hbW
  have hc2 := num_two ob
  have hx2 := num_byte (ob.drop 2)
  have hx3 := num_byte ((ob.drop 2).drop 1)
  have hC' : numL (b.take 2) = 65535 := hC
  rw [hC'] at hc2
  obtain ⟨x2, hx2'⟩ : ∃ x, fld8 b = x := ⟨_, rfl⟩
  have hx2e : numL ((b.drop 2).take 1) = x2 := hx2'
  have hLe : numL (((b.drop 2).drop 1).take 1) = L := hL
  rw [hx2e] at hx2
  rw [hLe] at hx3
  rw [hx2'] at hF hH
  obtain ⟨c20, c21⟩ := hc2
  obtain ⟨x20, x21⟩ := hx2
  obtain ⟨L0, L1⟩ := hx3
  obtain ⟨q0, q1, q2, q3, qr, hy⟩ := four_cons hb
  have hy2 : q2 = x2 := by rw [← hx2', hy]; exact (fld8_cons ..).symm
  have hy3 : q3 = L := by rw [← hL, hy]; exact (len8_cons ..).symm
  have cl2 : ∀ n : Wk W, n.val.cell? ⟨B, off + 2, none⟩ = some (.int .u8 x2) := by
    obtain ⟨b', o', x, he, hcell, hx⟩ := ibW.at (i := 2) (by omega)
    obtain ⟨rfl, rfl⟩ : B = b' ∧ off = o' := by simpa using he
    have hx0 : b[2]? = some x := hx
    rw [hy] at hx0
    obtain rfl : q2 = x := by simpa using hx0
    rw [← hy2]
    exact Wk.cell hcell
  have cl3 : ∀ n : Wk W, n.val.cell? ⟨B, off + 3, none⟩ = some (.int .u8 L) := by
    obtain ⟨b', o', x, he, hcell, hx⟩ := ibW.at (i := 3) (by omega)
    obtain ⟨rfl, rfl⟩ : B = b' ∧ off = o' := by simpa using he
    have hx0 : b[3]? = some x := hx
    rw [hy] at hx0
    obtain rfl : q3 = x := by simpa using hx0
    rw [← hy3]
    exact Wk.cell hcell
  have V2 := fun (w' : World) (hb' : Below W.heap.size W w') => value_any (b.take 2) (some ⟨B, off, none⟩) c w' (by rw [List.length_take]; omega) (ob.take 2) ((ibW.below hb').take 2)
  rw [List.length_take, Nat.min_eq_left (by omega : 2 ≤ b.length), hC'] at V2
  have V2 := hid V2
  have CL2 := hid cl2
  have CL3 := hid cl3
  have IBW := hid ibW
  have i4 : ¬ (b.length : Int) < 4 := by omega
  have i2c : (2 : Int) ≤ (c : Int) := by omega
  have ibl : (b.length : Int) ≤ (c : Int) := by omega
  have i3l : (3 : Int) < (b.length : Int) := by omega
  have i2l : (2 : Int) < (b.length : Int) := by omega
  have i6 : (b.length : Int) ≤ 2000 := by omega
  have c2D := cl2 ⟨W.drew, below_drew8 W⟩
  have hBlt : B < W.heap.size := World.block_lt_of_cell? W _ (cl2 ⟨W, Below.refl _ _⟩)
  have hBne : ¬ B = W.heap.size := by omega
  have hBw : B < w.heap.size := by
    obtain ⟨b', o', he, hcell⟩ := ib 0 (by omega)
    obtain ⟨rfl, rfl⟩ : B = b' ∧ off = o' := by simpa using he
    exact World.block_lt_of_cell? w _ hcell
  have hRlt := hR.lt
  obtain ⟨Wz, hWz, hbz, hz⟩ := zero_box8 W
  subst hWz
  obtain ⟨z0, z1, z2, z3, z4, z5⟩ := hz.six
  obtain ⟨y0, y1, y2, y3, y4, y5⟩ := hz.drew.six
  have zz := hz.free
  have yz := hz.drew.free
  have HK : Hid (∀ w', Below W.heap.size W w' → w'.cell? ⟨B, off + 2, none⟩ = some (.int .u8 x2)) := fun w' hb' => cl2 ⟨w', hb'⟩
  have E1 : Hid (IntKind.i64.wrap 65535 = 65535) := by show _ = _; decide
  have E2 : Hid (IntKind.i64.wrap ((IntKind.i64.wrap x2).tdiv 2) = F) := by
    show _ = _
    have e : IntKind.i64.wrap x2 = x2 := by simp [IntKind.wrap, IntKind.bits, IntKind.signed]; omega
    rw [e, Int.tdiv_eq_ediv_of_nonneg x20, hF]
    simp [IntKind.wrap, IntKind.bits, IntKind.signed]; omega
  have E3 : Hid ((x2.tmod 2 == 1) = true) := by
    show _ = _
    rw [Int.tmod_eq_emod_of_nonneg x20]
    exact hH
  have HO := fun W => refOf_any F W
  obtain ⟨f, hf⟩ : ∃ f, fld F = f := ⟨_, rfl⟩
  obtain ⟨t, ht⟩ : ∃ t, decide (0 ≤ F ∧ F < 40) = t := ⟨_, rfl⟩
  rw [hf, ht] at HO
  unfold refFldV at HO
  have HO := hid HO
  have hD : Hid (decL b = .error 1026) := dec_head8 hb (by rw [hC, hx2', hF, hH, hL, headE, if_neg (by decide), if_pos rfl, if_pos (by simp only [pieces8, if_true]; omega)]) (by decide)
  have g6 : ¬ ((200 : Int) < L - 4) := by omega
  clear hf ht
  clear hW hbW ib ibW hC hC' hx2' hx2e hLe hL hy hy2 hy3 hF hH cl2 cl3 hbz
  go_enter Tryz.func105, Tryz.ntmps105
  go_wp2_with fail
  rw [HW.out]
  go_upto_region 3 with fail
  go_cut [5] (fun t5 wx => ∃ X, t5 = .pointer (some ⟨X, 0, none⟩) ∧ BoxL wx X [.int .i64 65535, .int .i64 F, .bool true, .int .u64 0, .slice none 0 0, .slice none 0 0] ∧ Below W.heap.size W wx ∧ W.heap.size ≤ X)
  case first =>
    go_region_held3 (fun w' => w'.cell? ⟨B, off + 2, none⟩ = some (.int .u8 x2)) (first | exact HK.out _ (below_alloc _ _).drew | exact HK.out _ (below_alloc _ _) | exact HK.out _ (below_drew8 _) | go_keep) (first | (go_at_call 103; refine (V2.out _ ?_).mono ?_; (first | exact below_drew8 W | exact (below_alloc W _).drew | exact below_alloc W _ | fail); rintro e w' ⟨rfl, rfl⟩) | fail)
    all_goals
      try rw [E1.out]
      rw [E2.out, E3.out]
      go_wp2_with fail
      go_meet
      exact ⟨W.heap.size, rfl, (BoxL.new W _ _).drew, (below_alloc _ _).drew, Nat.le_refl _⟩
  case rest =>
    obtain ⟨X, rfl, hX, hbx, hWX⟩ := hcut
    have hRx := hR.below hbx
    have cl3 := CL3.out ⟨_, hbx⟩
    have hXlt := hX.lt
    have hXR : X ≠ w.heap.size := by omega
    have HBx := hid (below_on HB.out hbx)
    obtain ⟨d0, d1, d2, d3, d4, d5⟩ := hX.six
    clear z0 z1 z2 z3 z4 z5 y0 y1 y2 y3 y4 y5 zz yz hz c2D HK CL2 V2
    go_wp2_with fail
    refine (HO.out _).mono ?_
    rintro e w1 ⟨v', rfl, ⟨a', c', rfl, hI⟩, hb1⟩
    clear hI d0 d1 d2 d3 d4 d5
    have hX1 := hX.below hb1
    have hR1 := hRx.below hb1
    have hXl1 := hX1.lt
    have hRl1 := hR1.lt
    have n2 : ¬ X = w1.heap.size := by omega
    have n3 : ¬ w.heap.size = w1.heap.size := by omega
    have HB1 := hid (below_on HBx.out hb1)
    clear hX hRx hb1 cl3
    obtain ⟨d0, d1, d2, d3, d4, d5⟩ := hX1.six
    obtain ⟨r0, r1, r2, r3, r4, r5⟩ := hR1.six
    have zR := hR1.free
    obtain ⟨W1, hW1, hbW1, hY⟩ := refFld_box3 w1 f f.m (.slice a' f.v.length c')
    subst hW1
    have HB2 := hid (below_on HB1.out hbW1)
    obtain ⟨s0, s1, s2, s3, s4, s5⟩ := (hR1.below hbW1).six
    go_upto_region 18 with fail
    go_upto_region 19 with fail
    rename_i K1 a1 K2 a2
    have A1 := hid a1
    have A2 := hid a2
    clear a1 a2 HO CL3 IBW hY
    repeat (first | go_values | go_skip | go_guarded | go_step | go_upon | go_in | go_back)
    refine A2.out _ _ ?_
    go_wp2_with fail
    clear A1 A2 s0 s1 s2 s3 s4 s5 r0 r1 r2 r3 r4 r5 d0 d1 d2 d3 d4 d5
    obtain ⟨hbe, hke⟩ := dec_end HB1.out (Nat.le_refl _) hR1 (.cells #[.string f.nm, .int .i64 f.b, .int .i64 f.z, .bool f.m, .int .i64 f.d, .slice a' f.v.length c'] 151)
    have HBE := hid hbe
    obtain ⟨k0, k1, k2, k3, k4, k5⟩ := hke.six
    clear hbe hke
    refine bodyPost_ret (v := .tuple #[.agg #[.int .i64 0, .int .i64 0, .bool false, .int .u64 0, .slice none 0 0, .slice none 0 0], .int .i64 0, .int .i64 1026]) ?_ rfl ?_
    · clear HBE hR1 hX1 HB1 HB2 hD E1 E2 E3 HB
      simp only [results, Tryz.results105]
      simp [go_sem, k0, k1, k2, k3, k4, k5]
    · exact Or.inl ⟨1026, hD.out, by decide, rfl, HBE.out⟩

set_option maxRecDepth 100000 in
set_option maxHeartbeats 8000000 in
theorem refDecode8_xlen2b (b : List Int) (B off c : Nat) (hb : 4 ≤ b.length) (hbc : b.length ≤ c) (hc : c ≤ 9223372036854775807) (ob : Octets b) (w : World) (ib : Ints .u8 w (some ⟨B, off, none⟩) b) (hl : b.length ≤ 2000) {F L : Int} (hC : cls8 b = 65535) (hF : fld8 b / 2 = F) (hH : oddB (fld8 b) = true) (hL : len8 b = L) (h4 : ¬ L < 4) (h5 : (L - 4) % 2 ≠ 0) :
    Calls Tryz.prog 105 #[.slice (some ⟨B, off, none⟩) b.length c] w (DecPost (decL b) w) := by
  obtain ⟨W, hW, hbW, hR⟩ := zero_box8 w
  have HW := hid hW
  have HB := hid hbW
  have ibW := ib.below hbW
  have hc2 := num_two ob
  have hx2 := num_byte (ob.drop 2)
  have hx3 := num_byte ((ob.drop 2).drop 1)
  have hC' : numL (b.take 2) = 65535 := hC
  rw [hC'] at hc2
  obtain ⟨x2, hx2'⟩ : ∃ x, fld8 b = x := ⟨_, rfl⟩
  have hx2e : numL ((b.drop 2).take 1) = x2 := hx2'
  have hLe : numL (((b.drop 2).drop 1).take 1) = L := hL
  rw [hx2e] at hx2
  rw [hLe] at hx3
  rw [hx2'] at hF hH
  obtain ⟨c20, c21⟩ := hc2
  obtain ⟨x20, x21⟩ := hx2
  obtain ⟨L0, L1⟩ := hx3
  obtain ⟨q0, q1, q2, q3, qr, hy⟩ := four_cons hb
  have hy2 : q2 = x2 := by rw [← hx2', hy]; exact (fld8_cons ..).symm
  have hy3 : q3 = L := by rw [← hL, hy]; exact (len8_cons ..).symm
  have cl2 : ∀ n : Wk W, n.val.cell? ⟨B, off + 2, none⟩ = some (.int .u8 x2) := by
    obtain ⟨b', o', x, he, hcell, hx⟩ := ibW.at (i := 2) (by omega)
    obtain ⟨rfl, rfl⟩ : B = b' ∧ off = o' := by simpa using he
    have hx0 : b[2]? = some x := hx
    rw [hy] at hx0
    obtain rfl : q2 = x := by simpa using hx0
    rw [← hy2]
    exact Wk.cell hcell
  have cl3 : ∀ n : Wk W, n.val.cell? ⟨B, off + 3, none⟩ = some (.int .u8 L) := by
    obtain ⟨b', o', x, he, hcell, hx⟩ := ibW.at (i := 3) (by omega)
    obtain ⟨rfl, rfl⟩ : B = b' ∧ off = o' := by simpa using he
    have hx0 : b[3]? = some x := hx
    rw [hy] at hx0
    obtain rfl : q3 = x := by simpa using hx0
    rw [← hy3]
    exact Wk.cell hcell
  have V2 := fun (w' : World) (hb' : Below W.heap.size W w') => value_any (b.take 2) (some ⟨B, off, none⟩) c w' (by rw [List.length_take]; omega) (ob.take 2) ((ibW.below hb').take 2)
  rw [List.length_take, Nat.min_eq_left (by omega : 2 ≤ b.length), hC'] at V2
  have V2 := hid V2
  have CL2 := hid cl2
  have CL3 := hid cl3
  have IBW := hid ibW
  have i4 : ¬ (b.length : Int) < 4 := by omega
  have i2c : (2 : Int) ≤ (c : Int) := by omega
  have ibl : (b.length : Int) ≤ (c : Int) := by omega
  have i3l : (3 : Int) < (b.length : Int) := by omega
  have i2l : (2 : Int) < (b.length : Int) := by omega
  have i6 : (b.length : Int) ≤ 2000 := by omega
  have c2D := cl2 ⟨W.drew, below_drew8 W⟩
  have hBlt : B < W.heap.size := World.block_lt_of_cell? W _ (cl2 ⟨W, Below.refl _ _⟩)
  have hBne : ¬ B = W.heap.size := by omega
  have hBw : B < w.heap.size := by
    obtain ⟨b', o', he, hcell⟩ := ib 0 (by omega)
    obtain ⟨rfl, rfl⟩ : B = b' ∧ off = o' := by simpa using he
    exact World.block_lt_of_cell? w _ hcell
  have hRlt := hR.lt
  obtain ⟨Wz, hWz, hbz, hz⟩ := zero_box8 W
  subst hWz
  obtain ⟨z0, z1, z2, z3, z4, z5⟩ := hz.six
  obtain ⟨y0, y1, y2, y3, y4, y5⟩ := hz.drew.six
  have zz := hz.free
  have yz := hz.drew.free
  have HK : Hid (∀ w', Below W.heap.size W w' → w'.cell? ⟨B, off + 2, none⟩ = some (.int .u8 x2)) := fun w' hb' => cl2 ⟨w', hb'⟩
  have E1 : Hid (IntKind.i64.wrap 65535 = 65535) := by show _ = _; decide
  have E2 : Hid (IntKind.i64.wrap ((IntKind.i64.wrap x2).tdiv 2) = F) := by
    show _ = _
    have e : IntKind.i64.wrap x2 = x2 := by simp [IntKind.wrap, IntKind.bits, IntKind.signed]; omega
    rw [e, Int.tdiv_eq_ediv_of_nonneg x20, hF]
    simp [IntKind.wrap, IntKind.bits, IntKind.signed]; omega
  have E3 : Hid ((x2.tmod 2 == 1) = true) := by
    show _ = _
    rw [Int.tmod_eq_emod_of_nonneg x20]
    exact hH
  have HO := fun W => refOf_any F W
  obtain ⟨f, hf⟩ : ∃ f, fld F = f := ⟨_, rfl⟩
  obtain ⟨t, ht⟩ : ∃ t, decide (0 ≤ F ∧ F < 40) = t := ⟨_, rfl⟩
  rw [hf, ht] at HO
  unfold refFldV at HO
  have HO := hid HO
  have hD : Hid (decL b = .error 1026) := dec_head8 hb (by rw [hC, hx2', hF, hH, hL, headE, if_neg (by decide), if_pos rfl, if_pos (by simp only [pieces8, if_true]; omega)]) (by decide)
  have g6 : ((L - 4).tmod 2 != 0) = true := by rw [Int.tmod_eq_emod_of_nonneg (by omega)]; simpa using h5
  clear hf ht
  clear hW hbW ib ibW hC hC' hx2' hx2e hLe hL hy hy2 hy3 hF hH cl2 cl3 hbz
  go_enter Tryz.func105, Tryz.ntmps105
  go_wp2_with fail
  rw [HW.out]
  go_upto_region 3 with fail
  go_cut [5] (fun t5 wx => ∃ X, t5 = .pointer (some ⟨X, 0, none⟩) ∧ BoxL wx X [.int .i64 65535, .int .i64 F, .bool true, .int .u64 0, .slice none 0 0, .slice none 0 0] ∧ Below W.heap.size W wx ∧ W.heap.size ≤ X)
  case first =>
    go_region_held3 (fun w' => w'.cell? ⟨B, off + 2, none⟩ = some (.int .u8 x2)) (first | exact HK.out _ (below_alloc _ _).drew | exact HK.out _ (below_alloc _ _) | exact HK.out _ (below_drew8 _) | go_keep) (first | (go_at_call 103; refine (V2.out _ ?_).mono ?_; (first | exact below_drew8 W | exact (below_alloc W _).drew | exact below_alloc W _ | fail); rintro e w' ⟨rfl, rfl⟩) | fail)
    all_goals
      try rw [E1.out]
      rw [E2.out, E3.out]
      go_wp2_with fail
      go_meet
      exact ⟨W.heap.size, rfl, (BoxL.new W _ _).drew, (below_alloc _ _).drew, Nat.le_refl _⟩
  case rest =>
    obtain ⟨X, rfl, hX, hbx, hWX⟩ := hcut
    have hRx := hR.below hbx
    have cl3 := CL3.out ⟨_, hbx⟩
    have hXlt := hX.lt
    have hXR : X ≠ w.heap.size := by omega
    have HBx := hid (below_on HB.out hbx)
    obtain ⟨d0, d1, d2, d3, d4, d5⟩ := hX.six
    clear z0 z1 z2 z3 z4 z5 y0 y1 y2 y3 y4 y5 zz yz hz c2D HK CL2 V2
    go_wp2_with fail
    refine (HO.out _).mono ?_
    rintro e w1 ⟨v', rfl, ⟨a', c', rfl, hI⟩, hb1⟩
    clear hI d0 d1 d2 d3 d4 d5
    have hX1 := hX.below hb1
    have hR1 := hRx.below hb1
    have hXl1 := hX1.lt
    have hRl1 := hR1.lt
    have n2 : ¬ X = w1.heap.size := by omega
    have n3 : ¬ w.heap.size = w1.heap.size := by omega
    have HB1 := hid (below_on HBx.out hb1)
    clear hX hRx hb1 cl3
    obtain ⟨d0, d1, d2, d3, d4, d5⟩ := hX1.six
    obtain ⟨r0, r1, r2, r3, r4, r5⟩ := hR1.six
    have zR := hR1.free
    obtain ⟨W1, hW1, hbW1, hY⟩ := refFld_box3 w1 f f.m (.slice a' f.v.length c')
    subst hW1
    have HB2 := hid (below_on HB1.out hbW1)
    obtain ⟨s0, s1, s2, s3, s4, s5⟩ := (hR1.below hbW1).six
    go_upto_region 18 with fail
    go_upto_region 19 with fail
    rename_i K1 a1 K2 a2
    have A1 := hid a1
    have A2 := hid a2
    clear a1 a2 HO CL3 IBW hY
    repeat (first | go_values | go_skip | go_guarded | go_step | go_upon | go_in | go_back)
    refine A2.out _ _ ?_
    go_wp2_with fail
    clear A1 A2 s0 s1 s2 s3 s4 s5 r0 r1 r2 r3 r4 r5 d0 d1 d2 d3 d4 d5
    obtain ⟨hbe, hke⟩ := dec_end HB1.out (Nat.le_refl _) hR1 (.cells #[.string f.nm, .int .i64 f.b, .int .i64 f.z, .bool f.m, .int .i64 f.d, .slice a' f.v.length c'] 151)
    have HBE := hid hbe
    obtain ⟨k0, k1, k2, k3, k4, k5⟩ := hke.six
    clear hbe hke
    refine bodyPost_ret (v := .tuple #[.agg #[.int .i64 0, .int .i64 0, .bool false, .int .u64 0, .slice none 0 0, .slice none 0 0], .int .i64 0, .int .i64 1026]) ?_ rfl ?_
    · clear HBE hR1 hX1 HB1 HB2 hD E1 E2 E3 HB
      simp only [results, Tryz.results105]
      simp [go_sem, k0, k1, k2, k3, k4, k5]
    · exact Or.inl ⟨1026, hD.out, by decide, rfl, HBE.out⟩

set_option maxRecDepth 100000 in
set_option maxHeartbeats 8000000 in
theorem refDecode8_xlen2c (b : List Int) (B off c : Nat) (hb : 4 ≤ b.length) (hbc : b.length ≤ c) (hc : c ≤ 9223372036854775807) (ob : Octets b) (w : World) (ib : Ints .u8 w (some ⟨B, off, none⟩) b) (hl : b.length ≤ 2000) {F L : Int} (hC : cls8 b = 65535) (hF : fld8 b / 2 = F) (hH : oddB (fld8 b) = true) (hL : len8 b = L) (h4 : ¬ L < 4) (h5 : (L - 4) % 2 = 0) (h6 : 200 < L - 4) :
    Calls Tryz.prog 105 #[.slice (some ⟨B, off, none⟩) b.length c] w (DecPost (decL b) w) := by
  obtain ⟨W, hW, hbW, hR⟩ := zero_box8 w
  have HW := hid hW
  have HB := hid hbW
  have ibW := ib.below hbW
  have hc2 := num_two ob
  have hx2 := num_byte (ob.drop 2)
  have hx3 := num_byte ((ob.drop 2).drop 1)
  have hC' : numL (b.take 2) = 65535 := hC
  rw [hC'] at hc2
  obtain ⟨x2, hx2'⟩ : ∃ x, fld8 b = x := ⟨_, rfl⟩
  have hx2e : numL ((b.drop 2).take 1) = x2 := hx2'
  have hLe : numL (((b.drop 2).drop 1).take 1) = L := hL
  rw [hx2e] at hx2
  rw [hLe] at hx3
  rw [hx2'] at hF hH
  obtain ⟨c20, c21⟩ := hc2
  obtain ⟨x20, x21⟩ := hx2
  obtain ⟨L0, L1⟩ := hx3
  obtain ⟨q0, q1, q2, q3, qr, hy⟩ := four_cons hb
  have hy2 : q2 = x2 := by rw [← hx2', hy]; exact (fld8_cons ..).symm
  have hy3 : q3 = L := by rw [← hL, hy]; exact (len8_cons ..).symm
  have cl2 : ∀ n : Wk W, n.val.cell? ⟨B, off + 2, none⟩ = some (.int .u8 x2) := by
    obtain ⟨b', o', x, he, hcell, hx⟩ := ibW.at (i := 2) (by omega)
    obtain ⟨rfl, rfl⟩ : B = b' ∧ off = o' := by simpa using he
    have hx0 : b[2]? = some x := hx
    rw [hy] at hx0
    obtain rfl : q2 = x := by simpa using hx0
    rw [← hy2]
    exact Wk.cell hcell
  have cl3 : ∀ n : Wk W, n.val.cell? ⟨B, off + 3, none⟩ = some (.int .u8 L) := by
    obtain ⟨b', o', x, he, hcell, hx⟩ := ibW.at (i := 3) (by omega)
    obtain ⟨rfl, rfl⟩ : B = b' ∧ off = o' := by simpa using he
    have hx0 : b[3]? = some x := hx
    rw [hy] at hx0
    obtain rfl : q3 = x := by simpa using hx0
    rw [← hy3]
    exact Wk.cell hcell
  have V2 := fun (w' : World) (hb' : Below W.heap.size W w') => value_any (b.take 2) (some ⟨B, off, none⟩) c w' (by rw [List.length_take]; omega) (ob.take 2) ((ibW.below hb').take 2)
  rw [List.length_take, Nat.min_eq_left (by omega : 2 ≤ b.length), hC'] at V2
  have V2 := hid V2
  have CL2 := hid cl2
  have CL3 := hid cl3
  have IBW := hid ibW
  have i4 : ¬ (b.length : Int) < 4 := by omega
  have i2c : (2 : Int) ≤ (c : Int) := by omega
  have ibl : (b.length : Int) ≤ (c : Int) := by omega
  have i3l : (3 : Int) < (b.length : Int) := by omega
  have i2l : (2 : Int) < (b.length : Int) := by omega
  have i6 : (b.length : Int) ≤ 2000 := by omega
  have c2D := cl2 ⟨W.drew, below_drew8 W⟩
  have hBlt : B < W.heap.size := World.block_lt_of_cell? W _ (cl2 ⟨W, Below.refl _ _⟩)
  have hBne : ¬ B = W.heap.size := by omega
  have hBw : B < w.heap.size := by
    obtain ⟨b', o', he, hcell⟩ := ib 0 (by omega)
    obtain ⟨rfl, rfl⟩ : B = b' ∧ off = o' := by simpa using he
    exact World.block_lt_of_cell? w _ hcell
  have hRlt := hR.lt
  obtain ⟨Wz, hWz, hbz, hz⟩ := zero_box8 W
  subst hWz
  obtain ⟨z0, z1, z2, z3, z4, z5⟩ := hz.six
  obtain ⟨y0, y1, y2, y3, y4, y5⟩ := hz.drew.six
  have zz := hz.free
  have yz := hz.drew.free
  have HK : Hid (∀ w', Below W.heap.size W w' → w'.cell? ⟨B, off + 2, none⟩ = some (.int .u8 x2)) := fun w' hb' => cl2 ⟨w', hb'⟩
  have E1 : Hid (IntKind.i64.wrap 65535 = 65535) := by show _ = _; decide
  have E2 : Hid (IntKind.i64.wrap ((IntKind.i64.wrap x2).tdiv 2) = F) := by
    show _ = _
    have e : IntKind.i64.wrap x2 = x2 := by simp [IntKind.wrap, IntKind.bits, IntKind.signed]; omega
    rw [e, Int.tdiv_eq_ediv_of_nonneg x20, hF]
    simp [IntKind.wrap, IntKind.bits, IntKind.signed]; omega
  have E3 : Hid ((x2.tmod 2 == 1) = true) := by
    show _ = _
    rw [Int.tmod_eq_emod_of_nonneg x20]
    exact hH
  have HO := fun W => refOf_any F W
  obtain ⟨f, hf⟩ : ∃ f, fld F = f := ⟨_, rfl⟩
  obtain ⟨t, ht⟩ : ∃ t, decide (0 ≤ F ∧ F < 40) = t := ⟨_, rfl⟩
  rw [hf, ht] at HO
  unfold refFldV at HO
  have HO := hid HO
  have hD : Hid (decL b = .error 1026) := dec_head8 hb (by rw [hC, hx2', hF, hH, hL, headE, if_neg (by decide), if_pos rfl, if_pos (by simp only [pieces8, if_true]; omega)]) (by decide)
  have g6 : ((L - 4).tmod 2 != 0) = false := by rw [Int.tmod_eq_emod_of_nonneg (by omega)]; simpa using h5
  clear hf ht
  clear hW hbW ib ibW hC hC' hx2' hx2e hLe hL hy hy2 hy3 hF hH cl2 cl3 hbz
  go_enter Tryz.func105, Tryz.ntmps105
  go_wp2_with fail
  rw [HW.out]
  go_upto_region 3 with fail
  go_cut [5] (fun t5 wx => ∃ X, t5 = .pointer (some ⟨X, 0, none⟩) ∧ BoxL wx X [.int .i64 65535, .int .i64 F, .bool true, .int .u64 0, .slice none 0 0, .slice none 0 0] ∧ Below W.heap.size W wx ∧ W.heap.size ≤ X)
  case first =>
    go_region_held3 (fun w' => w'.cell? ⟨B, off + 2, none⟩ = some (.int .u8 x2)) (first | exact HK.out _ (below_alloc _ _).drew | exact HK.out _ (below_alloc _ _) | exact HK.out _ (below_drew8 _) | go_keep) (first | (go_at_call 103; refine (V2.out _ ?_).mono ?_; (first | exact below_drew8 W | exact (below_alloc W _).drew | exact below_alloc W _ | fail); rintro e w' ⟨rfl, rfl⟩) | fail)
    all_goals
      try rw [E1.out]
      rw [E2.out, E3.out]
      go_wp2_with fail
      go_meet
      exact ⟨W.heap.size, rfl, (BoxL.new W _ _).drew, (below_alloc _ _).drew, Nat.le_refl _⟩
  case rest =>
    obtain ⟨X, rfl, hX, hbx, hWX⟩ := hcut
    have hRx := hR.below hbx
    have cl3 := CL3.out ⟨_, hbx⟩
    have hXlt := hX.lt
    have hXR : X ≠ w.heap.size := by omega
    have HBx := hid (below_on HB.out hbx)
    obtain ⟨d0, d1, d2, d3, d4, d5⟩ := hX.six
    clear z0 z1 z2 z3 z4 z5 y0 y1 y2 y3 y4 y5 zz yz hz c2D HK CL2 V2
    go_wp2_with fail
    refine (HO.out _).mono ?_
    rintro e w1 ⟨v', rfl, ⟨a', c', rfl, hI⟩, hb1⟩
    clear hI d0 d1 d2 d3 d4 d5
    have hX1 := hX.below hb1
    have hR1 := hRx.below hb1
    have hXl1 := hX1.lt
    have hRl1 := hR1.lt
    have n2 : ¬ X = w1.heap.size := by omega
    have n3 : ¬ w.heap.size = w1.heap.size := by omega
    have HB1 := hid (below_on HBx.out hb1)
    clear hX hRx hb1 cl3
    obtain ⟨d0, d1, d2, d3, d4, d5⟩ := hX1.six
    obtain ⟨r0, r1, r2, r3, r4, r5⟩ := hR1.six
    have zR := hR1.free
    obtain ⟨W1, hW1, hbW1, hY⟩ := refFld_box3 w1 f f.m (.slice a' f.v.length c')
    subst hW1
    have HB2 := hid (below_on HB1.out hbW1)
    obtain ⟨s0, s1, s2, s3, s4, s5⟩ := (hR1.below hbW1).six
    go_upto_region 18 with fail
    go_upto_region 19 with fail
    rename_i K1 a1 K2 a2
    have A1 := hid a1
    have A2 := hid a2
    clear a1 a2 HO CL3 IBW hY
    repeat (first | go_values | go_skip | go_guarded | go_step | go_upon | go_in | go_back)
    refine A2.out _ _ ?_
    go_wp2_with fail
    clear A1 A2 s0 s1 s2 s3 s4 s5 r0 r1 r2 r3 r4 r5 d0 d1 d2 d3 d4 d5
    obtain ⟨hbe, hke⟩ := dec_end HB1.out (Nat.le_refl _) hR1 (.cells #[.string f.nm, .int .i64 f.b, .int .i64 f.z, .bool f.m, .int .i64 f.d, .slice a' f.v.length c'] 151)
    have HBE := hid hbe
    obtain ⟨k0, k1, k2, k3, k4, k5⟩ := hke.six
    clear hbe hke
    refine bodyPost_ret (v := .tuple #[.agg #[.int .i64 0, .int .i64 0, .bool false, .int .u64 0, .slice none 0 0, .slice none 0 0], .int .i64 0, .int .i64 1026]) ?_ rfl ?_
    · clear HBE hR1 hX1 HB1 HB2 hD E1 E2 E3 HB
      simp only [results, Tryz.results105]
      simp [go_sem, k0, k1, k2, k3, k4, k5]
    · exact Or.inl ⟨1026, hD.out, by decide, rfl, HBE.out⟩

end Go.Proofs.YtdjlbejhphbcoaaGreat
namespace Go.Proofs.YtdjlbejhphbcoaaGreat
open Go.RowKit
set_option linter.unusedVariables false

set_option maxRecDepth 100000 in
set_option maxHeartbeats 8000000 in
theorem refDecode8_xshort1 (b : List Int) (B off c : Nat) (hb : 4 ≤ b.length) (hbc : b.length ≤ c) (hc : c ≤ 9223372036854775807) (ob : Octets b) (w : World) (ib : Ints .u8 w (some ⟨B, off, none⟩) b) (hl : b.length ≤ 2000) {F L : Int} (hC : cls8 b = 65535) (hF : fld8 b / 2 = F) (hH : oddB (fld8 b) = false) (hL : len8 b = L) (h4 : ¬ L < 4) (h5 : ¬ 100 < L - 4) (hs : (b.length : Int) < 4 + L) :
    Calls Tryz.prog 105 #[.slice (some ⟨B, off, none⟩) b.length c] w (DecPost (decL b) w) := by
  obtain ⟨W, hW, hbW, hR⟩ := zero_box8 w
  have HW := hid hW
  have HB := hid hbW
  have ibW := ib.below hbW
  have hc2 := num_two ob
  have hx2 := num_byte (ob.drop 2)
  have hx3 := num_byte ((ob.drop 2).drop 1)
  have hC' : numL (b.take 2) = 65535 := hC
  rw [hC'] at hc2
  obtain ⟨x2, hx2'⟩ : ∃ x, fld8 b = x := ⟨_, rfl⟩
  have hx2e : numL ((b.drop 2).take 1) = x2 := hx2'
  have hLe : numL (((b.drop 2).drop 1).take 1) = L := hL
  rw [hx2e] at hx2
  rw [hLe] at hx3
  rw [hx2'] at hF hH
  obtain ⟨c20, c21⟩ := hc2
  obtain ⟨x20, x21⟩ := hx2
  obtain ⟨L0, L1⟩ := hx3
  obtain ⟨q0, q1, q2, q3, qr, hy⟩ := four_cons hb
  have hy2 : q2 = x2 := by rw [← hx2', hy]; exact (fld8_cons ..).symm
  have hy3 : q3 = L := by rw [← hL, hy]; exact (len8_cons ..).symm
  have cl2 : ∀ n : Wk W, n.val.cell? ⟨B, off + 2, none⟩ = some (.int .u8 x2) := by
    obtain ⟨b', o', x, he, hcell, hx⟩ := ibW.at (i := 2) (by omega)
    obtain ⟨rfl, rfl⟩ : B = b' ∧ off = o' := by simpa using he
    have hx0 : b[2]? = some x := hx
    rw [hy] at hx0
    obtain rfl : q2 = x := by simpa using hx0
    rw [← hy2]
    exact Wk.cell hcell
  have cl3 : ∀ n : Wk W, n.val.cell? ⟨B, off + 3, none⟩ = some (.int .u8 L) := by
    obtain ⟨b', o', x, he, hcell, hx⟩ := ibW.at (i := 3) (by omega)
    obtain ⟨rfl, rfl⟩ : B = b' ∧ off = o' := by simpa using he
    have hx0 : b[3]? = some x := hx
    rw [hy] at hx0
    obtain rfl : q3 = x := by simpa using hx0
    rw [← hy3]
    exact Wk.cell hcell
  have V2 := fun (w' : World) (hb' : Below W.heap.size W w') => value_any (b.take 2) (some ⟨B, off, none⟩) c w' (by rw [List.length_take]; omega) (ob.take 2) ((ibW.below hb').take 2)
  rw [List.length_take, Nat.min_eq_left (by omega : 2 ≤ b.length), hC'] at V2
  have V2 := hid V2
  have CL2 := hid cl2
  have CL3 := hid cl3
  have IBW := hid ibW
  have i4 : ¬ (b.length : Int) < 4 := by omega
  have i2c : (2 : Int) ≤ (c : Int) := by omega
  have ibl : (b.length : Int) ≤ (c : Int) := by omega
  have i3l : (3 : Int) < (b.length : Int) := by omega
  have i2l : (2 : Int) < (b.length : Int) := by omega
  have i6 : (b.length : Int) ≤ 2000 := by omega
  have c2D := cl2 ⟨W.drew, below_drew8 W⟩
  have hBlt : B < W.heap.size := World.block_lt_of_cell? W _ (cl2 ⟨W, Below.refl _ _⟩)
  have hBne : ¬ B = W.heap.size := by omega
  have hBw : B < w.heap.size := by
    obtain ⟨b', o', he, hcell⟩ := ib 0 (by omega)
    obtain ⟨rfl, rfl⟩ : B = b' ∧ off = o' := by simpa using he
    exact World.block_lt_of_cell? w _ hcell
  have hRlt := hR.lt
  obtain ⟨Wz, hWz, hbz, hz⟩ := zero_box8 W
  subst hWz
  obtain ⟨z0, z1, z2, z3, z4, z5⟩ := hz.six
  obtain ⟨y0, y1, y2, y3, y4, y5⟩ := hz.drew.six
  have zz := hz.free
  have yz := hz.drew.free
  have HK : Hid (∀ w', Below W.heap.size W w' → w'.cell? ⟨B, off + 2, none⟩ = some (.int .u8 x2)) := fun w' hb' => cl2 ⟨w', hb'⟩
  have E1 : Hid (IntKind.i64.wrap 65535 = 65535) := by show _ = _; decide
  have E2 : Hid (IntKind.i64.wrap ((IntKind.i64.wrap x2).tdiv 2) = F) := by
    show _ = _
    have e : IntKind.i64.wrap x2 = x2 := by simp [IntKind.wrap, IntKind.bits, IntKind.signed]; omega
    rw [e, Int.tdiv_eq_ediv_of_nonneg x20, hF]
    simp [IntKind.wrap, IntKind.bits, IntKind.signed]; omega
  have E3 : Hid ((x2.tmod 2 == 1) = false) := by
    show _ = _
    rw [Int.tmod_eq_emod_of_nonneg x20]
    exact hH
  have HO := fun W => refOf_any F W
  obtain ⟨f, hf⟩ : ∃ f, fld F = f := ⟨_, rfl⟩
  obtain ⟨t, ht⟩ : ∃ t, decide (0 ≤ F ∧ F < 40) = t := ⟨_, rfl⟩
  rw [hf, ht] at HO
  unfold refFldV at HO
  have HO := hid HO
  have hD : Hid (decL b = .error 1026) := dec_short8 hb (by rw [hC, hx2', hF, hH, hL, headE, if_neg (by decide), if_pos rfl, if_neg (by simp only [pieces8, Bool.false_eq_true, if_false]; omega)]) (by rw [hL]; exact hs)
  have g6 : ((L - 4).tmod 1 != 0) = false := by rw [Int.tmod_one]; rfl
  clear hf ht
  clear hW hbW ib ibW hC hC' hx2' hx2e hLe hL hy hy2 hy3 hF hH cl2 cl3 hbz
  go_enter Tryz.func105, Tryz.ntmps105
  go_wp2_with fail
  rw [HW.out]
  go_upto_region 3 with fail
  go_cut [5] (fun t5 wx => ∃ X, t5 = .pointer (some ⟨X, 0, none⟩) ∧ BoxL wx X [.int .i64 65535, .int .i64 F, .bool false, .int .u64 0, .slice none 0 0, .slice none 0 0] ∧ Below W.heap.size W wx ∧ W.heap.size ≤ X)
  case first =>
    go_region_held3 (fun w' => w'.cell? ⟨B, off + 2, none⟩ = some (.int .u8 x2)) (first | exact HK.out _ (below_alloc _ _).drew | exact HK.out _ (below_alloc _ _) | exact HK.out _ (below_drew8 _) | go_keep) (first | (go_at_call 103; refine (V2.out _ ?_).mono ?_; (first | exact below_drew8 W | exact (below_alloc W _).drew | exact below_alloc W _ | fail); rintro e w' ⟨rfl, rfl⟩) | fail)
    all_goals
      try rw [E1.out]
      rw [E2.out, E3.out]
      go_wp2_with fail
      go_meet
      exact ⟨W.heap.size, rfl, (BoxL.new W _ _).drew, (below_alloc _ _).drew, Nat.le_refl _⟩
  case rest =>
    obtain ⟨X, rfl, hX, hbx, hWX⟩ := hcut
    have hRx := hR.below hbx
    have cl3 := CL3.out ⟨_, hbx⟩
    have hXlt := hX.lt
    have hXR : X ≠ w.heap.size := by omega
    have HBx := hid (below_on HB.out hbx)
    obtain ⟨d0, d1, d2, d3, d4, d5⟩ := hX.six
    clear z0 z1 z2 z3 z4 z5 y0 y1 y2 y3 y4 y5 zz yz hz c2D HK CL2 V2
    go_wp2_with fail
    refine (HO.out _).mono ?_
    rintro e w1 ⟨v', rfl, ⟨a', c', rfl, hI⟩, hb1⟩
    clear hI d0 d1 d2 d3 d4 d5
    have hX1 := hX.below hb1
    have hR1 := hRx.below hb1
    have hXl1 := hX1.lt
    have hRl1 := hR1.lt
    have n2 : ¬ X = w1.heap.size := by omega
    have n3 : ¬ w.heap.size = w1.heap.size := by omega
    have HB1 := hid (below_on HBx.out hb1)
    clear hX hRx hb1 cl3
    obtain ⟨d0, d1, d2, d3, d4, d5⟩ := hX1.six
    obtain ⟨r0, r1, r2, r3, r4, r5⟩ := hR1.six
    have zR := hR1.free
    obtain ⟨W1, hW1, hbW1, hY⟩ := refFld_box3 w1 f f.m (.slice a' f.v.length c')
    subst hW1
    have HB2 := hid (below_on HB1.out hbW1)
    obtain ⟨s0, s1, s2, s3, s4, s5⟩ := (hR1.below hbW1).six
    go_upto_region 18 with fail
    go_upto_region 20 with fail
    go_upto_region 21 with fail
    rename_i K1 a1 K2 a2
    have A1 := hid a1
    have A2 := hid a2
    clear a1 a2 HO CL3 IBW hY
    repeat (first | go_values | go_skip | go_guarded | go_step | go_upon | go_in | go_back)
    refine A2.out _ _ ?_
    go_wp2_with fail
    clear A1 A2 s0 s1 s2 s3 s4 s5 r0 r1 r2 r3 r4 r5 d0 d1 d2 d3 d4 d5
    obtain ⟨hbe, hke⟩ := dec_end HB1.out (Nat.le_refl _) hR1 (.cells #[.string f.nm, .int .i64 f.b, .int .i64 f.z, .bool f.m, .int .i64 f.d, .slice a' f.v.length c'] 151)
    have HBE := hid hbe
    obtain ⟨k0, k1, k2, k3, k4, k5⟩ := hke.six
    clear hbe hke
    refine bodyPost_ret (v := .tuple #[.agg #[.int .i64 0, .int .i64 0, .bool false, .int .u64 0, .slice none 0 0, .slice none 0 0], .int .i64 0, .int .i64 1026]) ?_ rfl ?_
    · clear HBE hR1 hX1 HB1 HB2 hD E1 E2 E3 HB
      simp only [results, Tryz.results105]
      simp [go_sem, k0, k1, k2, k3, k4, k5]
    · exact Or.inl ⟨1026, hD.out, by decide, rfl, HBE.out⟩

set_option maxRecDepth 100000 in
set_option maxHeartbeats 8000000 in
theorem refDecode8_xshort2 (b : List Int) (B off c : Nat) (hb : 4 ≤ b.length) (hbc : b.length ≤ c) (hc : c ≤ 9223372036854775807) (ob : Octets b) (w : World) (ib : Ints .u8 w (some ⟨B, off, none⟩) b) (hl : b.length ≤ 2000) {F L : Int} (hC : cls8 b = 65535) (hF : fld8 b / 2 = F) (hH : oddB (fld8 b) = true) (hL : len8 b = L) (h4 : ¬ L < 4) (h5 : (L - 4) % 2 = 0) (h6 : ¬ 200 < L - 4) (hs : (b.length : Int) < 4 + L) :
    Calls Tryz.prog 105 #[.slice (some ⟨B, off, none⟩) b.length c] w (DecPost (decL b) w) := by
  obtain ⟨W, hW, hbW, hR⟩ := zero_box8 w
  have HW := hid hW
  have HB := hid hbW
  have ibW := ib.below hbW
  have hc2 := num_two ob
  have hx2 := num_byte (ob.drop 2)
  have hx3 := num_byte ((ob.drop 2).drop 1)
  have hC' : numL (b.take 2) = 65535 := hC
  rw [hC'] at hc2
  obtain ⟨x2, hx2'⟩ : ∃ x, fld8 b = x := ⟨_, rfl⟩
  have hx2e : numL ((b.drop 2).take 1) = x2 := hx2'
  have hLe : numL (((b.drop 2).drop 1).take 1) = L := hL
  rw [hx2e] at hx2
  rw [hLe] at hx3
  rw [hx2'] at hF hH
  obtain ⟨c20, c21⟩ := hc2
  obtain ⟨x20, x21⟩ := hx2
  obtain ⟨L0, L1⟩ := hx3
  obtain ⟨q0, q1, q2, q3, qr, hy⟩ := four_cons hb
  have hy2 : q2 = x2 := by rw [← hx2', hy]; exact (fld8_cons ..).symm
  have hy3 : q3 = L := by rw [← hL, hy]; exact (len8_cons ..).symm
  have cl2 : ∀ n : Wk W, n.val.cell? ⟨B, off + 2, none⟩ = some (.int .u8 x2) := by
    obtain ⟨b', o', x, he, hcell, hx⟩ := ibW.at (i := 2) (by omega)
    obtain ⟨rfl, rfl⟩ : B = b' ∧ off = o' := by simpa using he
    have hx0 : b[2]? = some x := hx
    rw [hy] at hx0
    obtain rfl : q2 = x := by simpa using hx0
    rw [← hy2]
    exact Wk.cell hcell
  have cl3 : ∀ n : Wk W, n.val.cell? ⟨B, off + 3, none⟩ = some (.int .u8 L) := by
    obtain ⟨b', o', x, he, hcell, hx⟩ := ibW.at (i := 3) (by omega)
    obtain ⟨rfl, rfl⟩ : B = b' ∧ off = o' := by simpa using he
    have hx0 : b[3]? = some x := hx
    rw [hy] at hx0
    obtain rfl : q3 = x := by simpa using hx0
    rw [← hy3]
    exact Wk.cell hcell
  have V2 := fun (w' : World) (hb' : Below W.heap.size W w') => value_any (b.take 2) (some ⟨B, off, none⟩) c w' (by rw [List.length_take]; omega) (ob.take 2) ((ibW.below hb').take 2)
  rw [List.length_take, Nat.min_eq_left (by omega : 2 ≤ b.length), hC'] at V2
  have V2 := hid V2
  have CL2 := hid cl2
  have CL3 := hid cl3
  have IBW := hid ibW
  have i4 : ¬ (b.length : Int) < 4 := by omega
  have i2c : (2 : Int) ≤ (c : Int) := by omega
  have ibl : (b.length : Int) ≤ (c : Int) := by omega
  have i3l : (3 : Int) < (b.length : Int) := by omega
  have i2l : (2 : Int) < (b.length : Int) := by omega
  have i6 : (b.length : Int) ≤ 2000 := by omega
  have c2D := cl2 ⟨W.drew, below_drew8 W⟩
  have hBlt : B < W.heap.size := World.block_lt_of_cell? W _ (cl2 ⟨W, Below.refl _ _⟩)
  have hBne : ¬ B = W.heap.size := by omega
  have hBw : B < w.heap.size := by
    obtain ⟨b', o', he, hcell⟩ := ib 0 (by omega)
    obtain ⟨rfl, rfl⟩ : B = b' ∧ off = o' := by simpa using he
    exact World.block_lt_of_cell? w _ hcell
  have hRlt := hR.lt
  obtain ⟨Wz, hWz, hbz, hz⟩ := zero_box8 W
  subst hWz
  obtain ⟨z0, z1, z2, z3, z4, z5⟩ := hz.six
  obtain ⟨y0, y1, y2, y3, y4, y5⟩ := hz.drew.six
  have zz := hz.free
  have yz := hz.drew.free
  have HK : Hid (∀ w', Below W.heap.size W w' → w'.cell? ⟨B, off + 2, none⟩ = some (.int .u8 x2)) := fun w' hb' => cl2 ⟨w', hb'⟩
  have E1 : Hid (IntKind.i64.wrap 65535 = 65535) := by show _ = _; decide
  have E2 : Hid (IntKind.i64.wrap ((IntKind.i64.wrap x2).tdiv 2) = F) := by
    show _ = _
    have e : IntKind.i64.wrap x2 = x2 := by simp [IntKind.wrap, IntKind.bits, IntKind.signed]; omega
    rw [e, Int.tdiv_eq_ediv_of_nonneg x20, hF]
    simp [IntKind.wrap, IntKind.bits, IntKind.signed]; omega
  have E3 : Hid ((x2.tmod 2 == 1) = true) := by
    show _ = _
    rw [Int.tmod_eq_emod_of_nonneg x20]
    exact hH
  have HO := fun W => refOf_any F W
  obtain ⟨f, hf⟩ : ∃ f, fld F = f := ⟨_, rfl⟩
  obtain ⟨t, ht⟩ : ∃ t, decide (0 ≤ F ∧ F < 40) = t := ⟨_, rfl⟩
  rw [hf, ht] at HO
  unfold refFldV at HO
  have HO := hid HO
  have hD : Hid (decL b = .error 1026) := dec_short8 hb (by rw [hC, hx2', hF, hH, hL, headE, if_neg (by decide), if_pos rfl, if_neg (by simp only [pieces8, if_true]; omega)]) (by rw [hL]; exact hs)
  have g6 : ((L - 4).tmod 2 != 0) = false := by rw [Int.tmod_eq_emod_of_nonneg (by omega)]; simpa using h5
  clear hf ht
  clear hW hbW ib ibW hC hC' hx2' hx2e hLe hL hy hy2 hy3 hF hH cl2 cl3 hbz
  go_enter Tryz.func105, Tryz.ntmps105
  go_wp2_with fail
  rw [HW.out]
  go_upto_region 3 with fail
  go_cut [5] (fun t5 wx => ∃ X, t5 = .pointer (some ⟨X, 0, none⟩) ∧ BoxL wx X [.int .i64 65535, .int .i64 F, .bool true, .int .u64 0, .slice none 0 0, .slice none 0 0] ∧ Below W.heap.size W wx ∧ W.heap.size ≤ X)
  case first =>
    go_region_held3 (fun w' => w'.cell? ⟨B, off + 2, none⟩ = some (.int .u8 x2)) (first | exact HK.out _ (below_alloc _ _).drew | exact HK.out _ (below_alloc _ _) | exact HK.out _ (below_drew8 _) | go_keep) (first | (go_at_call 103; refine (V2.out _ ?_).mono ?_; (first | exact below_drew8 W | exact (below_alloc W _).drew | exact below_alloc W _ | fail); rintro e w' ⟨rfl, rfl⟩) | fail)
    all_goals
      try rw [E1.out]
      rw [E2.out, E3.out]
      go_wp2_with fail
      go_meet
      exact ⟨W.heap.size, rfl, (BoxL.new W _ _).drew, (below_alloc _ _).drew, Nat.le_refl _⟩
  case rest =>
    obtain ⟨X, rfl, hX, hbx, hWX⟩ := hcut
    have hRx := hR.below hbx
    have cl3 := CL3.out ⟨_, hbx⟩
    have hXlt := hX.lt
    have hXR : X ≠ w.heap.size := by omega
    have HBx := hid (below_on HB.out hbx)
    obtain ⟨d0, d1, d2, d3, d4, d5⟩ := hX.six
    clear z0 z1 z2 z3 z4 z5 y0 y1 y2 y3 y4 y5 zz yz hz c2D HK CL2 V2
    go_wp2_with fail
    refine (HO.out _).mono ?_
    rintro e w1 ⟨v', rfl, ⟨a', c', rfl, hI⟩, hb1⟩
    clear hI d0 d1 d2 d3 d4 d5
    have hX1 := hX.below hb1
    have hR1 := hRx.below hb1
    have hXl1 := hX1.lt
    have hRl1 := hR1.lt
    have n2 : ¬ X = w1.heap.size := by omega
    have n3 : ¬ w.heap.size = w1.heap.size := by omega
    have HB1 := hid (below_on HBx.out hb1)
    clear hX hRx hb1 cl3
    obtain ⟨d0, d1, d2, d3, d4, d5⟩ := hX1.six
    obtain ⟨r0, r1, r2, r3, r4, r5⟩ := hR1.six
    have zR := hR1.free
    obtain ⟨W1, hW1, hbW1, hY⟩ := refFld_box3 w1 f f.m (.slice a' f.v.length c')
    subst hW1
    have HB2 := hid (below_on HB1.out hbW1)
    obtain ⟨s0, s1, s2, s3, s4, s5⟩ := (hR1.below hbW1).six
    go_upto_region 18 with fail
    go_upto_region 20 with fail
    go_upto_region 21 with fail
    rename_i K1 a1 K2 a2
    have A1 := hid a1
    have A2 := hid a2
    clear a1 a2 HO CL3 IBW hY
    repeat (first | go_values | go_skip | go_guarded | go_step | go_upon | go_in | go_back)
    refine A2.out _ _ ?_
    go_wp2_with fail
    clear A1 A2 s0 s1 s2 s3 s4 s5 r0 r1 r2 r3 r4 r5 d0 d1 d2 d3 d4 d5
    obtain ⟨hbe, hke⟩ := dec_end HB1.out (Nat.le_refl _) hR1 (.cells #[.string f.nm, .int .i64 f.b, .int .i64 f.z, .bool f.m, .int .i64 f.d, .slice a' f.v.length c'] 151)
    have HBE := hid hbe
    obtain ⟨k0, k1, k2, k3, k4, k5⟩ := hke.six
    clear hbe hke
    refine bodyPost_ret (v := .tuple #[.agg #[.int .i64 0, .int .i64 0, .bool false, .int .u64 0, .slice none 0 0, .slice none 0 0], .int .i64 0, .int .i64 1026]) ?_ rfl ?_
    · clear HBE hR1 hX1 HB1 HB2 hD E1 E2 E3 HB
      simp only [results, Tryz.results105]
      simp [go_sem, k0, k1, k2, k3, k4, k5]
    · exact Or.inl ⟨1026, hD.out, by decide, rfl, HBE.out⟩

end Go.Proofs.YtdjlbejhphbcoaaGreat
namespace Go.Proofs.YtdjlbejhphbcoaaGreat
open Go.RowKit
set_option linter.unusedVariables false

theorem fld_z1 {n : Int} (h : 0 ≤ n ∧ n < 40) : 1 ≤ (fld n).z := by
  rcases forty h with rfl | rfl | rfl | rfl | rfl | rfl | rfl | rfl | rfl | rfl | rfl | rfl | rfl | rfl | rfl | rfl | rfl | rfl | rfl | rfl | rfl | rfl | rfl | rfl | rfl | rfl | rfl | rfl | rfl | rfl | rfl | rfl | rfl | rfl | rfl | rfl | rfl | rfl | rfl | rfl <;> decide
theorem fresh_new8 {e : TypeId} {w w' : World} {a : Option Addr} {n c : Nat} {xs : List Value} (h : Fresh e w w' (.slice a n c) xs) : New8 w a := fun q hq => h.new q.block (by subst hq; rfl)
theorem BoxL.pre6 {w : World} {b : Nat} {u0 u1 u2 u3 u4 u5 : Value} (h : BoxL w b [u0, u1, u2, u3, u4, u5]) (v0 v1 v2 v3 v4 v5 : Value) :
    (w.setCell ⟨b, 0, none⟩ v0).cell? ⟨b, 0, none⟩ = some v0 ∧ ((w.setCell ⟨b, 0, none⟩ v0).setCell ⟨b, 1, none⟩ v1).cell? ⟨b, 1, none⟩ = some v1 ∧ (((w.setCell ⟨b, 0, none⟩ v0).setCell ⟨b, 1, none⟩ v1).setCell ⟨b, 2, none⟩ v2).cell? ⟨b, 2, none⟩ = some v2 ∧ ((((w.setCell ⟨b, 0, none⟩ v0).setCell ⟨b, 1, none⟩ v1).setCell ⟨b, 2, none⟩ v2).setCell ⟨b, 3, none⟩ v3).cell? ⟨b, 3, none⟩ = some v3 ∧ (((((w.setCell ⟨b, 0, none⟩ v0).setCell ⟨b, 1, none⟩ v1).setCell ⟨b, 2, none⟩ v2).setCell ⟨b, 3, none⟩ v3).setCell ⟨b, 4, none⟩ v4).cell? ⟨b, 4, none⟩ = some v4 ∧ ((((((w.setCell ⟨b, 0, none⟩ v0).setCell ⟨b, 1, none⟩ v1).setCell ⟨b, 2, none⟩ v2).setCell ⟨b, 3, none⟩ v3).setCell ⟨b, 4, none⟩ v4).setCell ⟨b, 5, none⟩ v5).cell? ⟨b, 5, none⟩ = some v5 := by
  have h0 := h.set 0 v0 (by simp)
  have h1 := h0.set 1 v1 (by simp)
  have h2 := h1.set 2 v2 (by simp)
  have h3 := h2.set 3 v3 (by simp)
  have h4 := h3.set 4 v4 (by simp)
  have h5 := h4.set 5 v5 (by simp)
  exact ⟨h0.cell 0 _ rfl, h1.cell 1 _ rfl, h2.cell 2 _ rfl, h3.cell 3 _ rfl, h4.cell 4 _ rfl, h5.cell 5 _ rfl⟩
theorem rest8_eq (b : List Int) : rest8 b = b.drop 4 := by simp [rest8, List.drop_drop]
theorem dec_body8 {b : List Int} (h4 : 4 ≤ b.length) (h : headE (cls8 b) (fld8 b / 2) (oddB (fld8 b)) (len8 b) = 0) {C F X : Int} {H : Bool} {v m : List Int} {N : Nat} (hs : ¬ (b.length : Int) < 4 + N) (hC : cls8 b = C) (hF : fld8 b / 2 = F) (hH : oddB (fld8 b) = H) (hN : len8 b = N) (hX : exp8 b = X) (hv : val8 b = v) (hm : mask8 b = m) :
    decL b = if bytesE C F H v m = 0 then .ok ⟨C, F, H, X, v, m, 4 + N⟩ else .error (bytesE C F H v m) := by
  have h' : ¬ headE (cls8 b) (fld8 b / 2) (oddB (fld8 b)) (len8 b) ≠ 0 := by simpa using h
  have hr : ¬ (rest8 b).length < (len8 b).toNat := by rw [rest8_eq, List.length_drop, hN]; omega
  unfold decL rawL
  rw [if_neg (by omega), if_neg h', if_neg hr, hC, hF, hH, hN, hX, hv, hm, Int.toNat_natCast]
theorem at_basic {b : List Int} {N : Nat} (hC : cls8 b = 32768) (hN : len8 b = N) : exp8 b = 0 ∧ body8 b = b.drop 4 ∧ both8 b = N := by
  have e : ¬ cls8 b = 65535 := by rw [hC]; decide
  refine ⟨by rw [exp8, if_neg e], by rw [body8, if_neg e, rest8_eq], by rw [both8, if_neg e, hN]; rfl⟩
theorem at_extra {b : List Int} {M : Nat} (hC : cls8 b = 65535) (hN : len8 b = ((M + 4 : Nat) : Int)) : exp8 b = numL ((b.drop 4).take 4) ∧ body8 b = b.drop 8 ∧ both8 b = M := by
  refine ⟨by rw [exp8, if_pos hC, rest8_eq], by rw [body8, if_pos hC, rest8_eq, List.drop_drop], by rw [both8, if_pos hC, hN]; omega⟩
theorem val_one {b : List Int} {K n : Nat} (hb : body8 b = b.drop K) (hn : both8 b = n) (hH : oddB (fld8 b) = false) : val8 b = (b.drop K).take n ∧ mask8 b = [] := by
  refine ⟨by rw [val8, hH, hb, hn]; simp [pieces8], by rw [mask8, hH]; rfl⟩
theorem val_two {b : List Int} {K n q : Nat} (hb : body8 b = b.drop K) (hn : both8 b = n) (hq : n = 2 * q) (hH : oddB (fld8 b) = true) : val8 b = (b.drop K).take q ∧ mask8 b = (b.drop (K + q)).take q := by
  have e : n / 2 = q := by omega
  refine ⟨by rw [val8, hH, hb, hn]; simp [pieces8, e], by rw [mask8, hH, hb, hn, if_pos rfl, e, List.drop_drop]⟩
end Go.Proofs.YtdjlbejhphbcoaaGreat
namespace Go.Proofs.YtdjlbejhphbcoaaGreat
open Go.RowKit
set_option linter.unusedVariables false

set_option maxRecDepth 100000 in
set_option maxHeartbeats 8000000 in
theorem refDecode8_basic1 (b : List Int) (B off c : Nat) (hb : 4 ≤ b.length) (hbc : b.length ≤ c) (hc : c ≤ 9223372036854775807) (ob : Octets b) (w : World) (ib : Ints .u8 w (some ⟨B, off, none⟩) b) (hl : b.length ≤ 2000) {F : Int} {N : Nat} (hC : cls8 b = 32768) (hF : fld8 b / 2 = F) (hH : oddB (fld8 b) = false) (hL : len8 b = N) (h1 : 0 ≤ F ∧ F < 40) (h3 : (N : Int) = ((fld F).z : Int)) (hs : ¬ (b.length : Int) < 4 + N) (h7 : (fld F).z ≤ 2000) :
    Calls Tryz.prog 105 #[.slice (some ⟨B, off, none⟩) b.length c] w (DecPost (decL b) w) := by
  obtain ⟨W, hW, hbW, hR⟩ := zero_box8 w
  have HW := hid hW
  have HB := hid hbW
  have ibW := ib.below hbW
  have hc2 := num_two ob
  have hx2 := num_byte (ob.drop 2)
  have hx3 := num_byte ((ob.drop 2).drop 1)
  have hC' : numL (b.take 2) = 32768 := hC
  rw [hC'] at hc2
  obtain ⟨x2, hx2'⟩ : ∃ x, fld8 b = x := ⟨_, rfl⟩
  have hx2e : numL ((b.drop 2).take 1) = x2 := hx2'
  have hLe : numL (((b.drop 2).drop 1).take 1) = N := hL
  rw [hx2e] at hx2
  rw [hLe] at hx3
  have hHb := hid hH
  have hFb := hid hF
  rw [hx2'] at hF hH
  obtain ⟨c20, c21⟩ := hc2
  obtain ⟨x20, x21⟩ := hx2
  obtain ⟨L0, L1⟩ := hx3
  obtain ⟨q0, q1, q2, q3, qr, hy⟩ := four_cons hb
  have hy2 : q2 = x2 := by rw [← hx2', hy]; exact (fld8_cons ..).symm
  have hy3 : q3 = N := by rw [← hL, hy]; exact (len8_cons ..).symm
  have cl2 : ∀ n : Wk W, n.val.cell? ⟨B, off + 2, none⟩ = some (.int .u8 x2) := by
    obtain ⟨b', o', x, he, hcell, hx⟩ := ibW.at (i := 2) (by omega)
    obtain ⟨rfl, rfl⟩ : B = b' ∧ off = o' := by simpa using he
    have hx0 : b[2]? = some x := hx
    rw [hy] at hx0
    obtain rfl : q2 = x := by simpa using hx0
    rw [← hy2]
    exact Wk.cell hcell
  have cl3 : ∀ n : Wk W, n.val.cell? ⟨B, off + 3, none⟩ = some (.int .u8 N) := by
    obtain ⟨b', o', x, he, hcell, hx⟩ := ibW.at (i := 3) (by omega)
    obtain ⟨rfl, rfl⟩ : B = b' ∧ off = o' := by simpa using he
    have hx0 : b[3]? = some x := hx
    rw [hy] at hx0
    obtain rfl : q3 = x := by simpa using hx0
    rw [← hy3]
    exact Wk.cell hcell
  have V2 := fun (w' : World) (hb' : Below W.heap.size W w') => value_any (b.take 2) (some ⟨B, off, none⟩) c w' (by rw [List.length_take]; omega) (ob.take 2) ((ibW.below hb').take 2)
  rw [List.length_take, Nat.min_eq_left (by omega : 2 ≤ b.length), hC'] at V2
  have V2 := hid V2
  have CL2 := hid cl2
  have CL3 := hid cl3
  have IBW := hid ibW
  have i4 : ¬ (b.length : Int) < 4 := by omega
  have i2c : (2 : Int) ≤ (c : Int) := by omega
  have ibl : (b.length : Int) ≤ (c : Int) := by omega
  have i3l : (3 : Int) < (b.length : Int) := by omega
  have i2l : (2 : Int) < (b.length : Int) := by omega
  have i6 : (b.length : Int) ≤ 2000 := by omega
  have c2D := cl2 ⟨W.drew, below_drew8 W⟩
  have hBlt : B < W.heap.size := World.block_lt_of_cell? W _ (cl2 ⟨W, Below.refl _ _⟩)
  have hBne : ¬ B = W.heap.size := by omega
  have hBw : B < w.heap.size := by
    obtain ⟨b', o', he, hcell⟩ := ib 0 (by omega)
    obtain ⟨rfl, rfl⟩ : B = b' ∧ off = o' := by simpa using he
    exact World.block_lt_of_cell? w _ hcell
  have hRlt := hR.lt
  obtain ⟨Wz, hWz, hbz, hz⟩ := zero_box8 W
  subst hWz
  obtain ⟨z0, z1, z2, z3, z4, z5⟩ := hz.six
  obtain ⟨y0, y1, y2, y3, y4, y5⟩ := hz.drew.six
  have zz := hz.free
  have yz := hz.drew.free
  have HK : Hid (∀ w', Below W.heap.size W w' → w'.cell? ⟨B, off + 2, none⟩ = some (.int .u8 x2)) := fun w' hb' => cl2 ⟨w', hb'⟩
  have E1 : Hid (IntKind.i64.wrap 32768 = 32768) := by show _ = _; decide
  have E2 : Hid (IntKind.i64.wrap ((IntKind.i64.wrap x2).tdiv 2) = F) := by
    show _ = _
    have e : IntKind.i64.wrap x2 = x2 := by simp [IntKind.wrap, IntKind.bits, IntKind.signed]; omega
    rw [e, Int.tdiv_eq_ediv_of_nonneg x20, hF]
    simp [IntKind.wrap, IntKind.bits, IntKind.signed]; omega
  have E3 : Hid ((x2.tmod 2 == 1) = false) := by
    show _ = _
    rw [Int.tmod_eq_emod_of_nonneg x20]
    exact hH
  have HO := fun W => refOf_any F W
  obtain ⟨f, hf⟩ : ∃ f, fld F = f := ⟨_, rfl⟩
  obtain ⟨t, ht⟩ : ∃ t, decide (0 ≤ F ∧ F < 40) = t := ⟨_, rfl⟩
  rw [hf, ht] at HO
  unfold refFldV at HO
  have HO := hid HO
  obtain rfl : true = t := by rw [← ht]; exact (decide_eq_true h1).symm
  obtain ⟨v, hv⟩ : ∃ v, (b.drop 4).take N = v := ⟨_, rfl⟩
  have hat := at_basic hC hL
  have hval := val_one hat.2.1 hat.2.2 hHb.out
  have hD := hid (dec_body8 hb (by rw [hC, hHb.out, hFb.out, hL, headE, if_pos rfl, if_neg (by simpa using h1), if_neg (by simp), if_neg (by simpa [pieces8] using h3)]) hs hC hFb.out hHb.out hL hat.1 (hval.1.trans hv) hval.2)
  have hWR := fun W a5 c5 => refWrong_basic F false 0 a5 c5 none 0 v [] (by simp) (hv ▸ (ob.drop 4).take N) (by intro x hx; simp at hx) W
  obtain ⟨q, hq⟩ : ∃ q, bytesE 32768 F false v [] = q := ⟨_, rfl⟩
  rw [hq] at hD hWR
  have hWR := hid hWR
  have z1 := fld_z1 h1
  rw [hf] at h3 h7 z1
  have I0 : Hid (¬ N = 0) := by show ¬ _; omega
  have I4c : Hid (¬ c = 4) := by show ¬ _; omega
  have I5a : Hid ((4 : Int) ≤ 4 + (N : Int)) := by show _ ≤ _; omega
  have I5c : Hid ((4 : Int) + (N : Int) ≤ (c : Int)) := by show _ ≤ _; omega
  have g5 : ((N : Int) != (f.z : Int)) = false := by simpa using h3
  have hz' : (f.z : Int) ≤ 2000 := by omega
  have HVN : Hid (v.length = N) := by show _ = _; rw [← hv, List.length_take, List.length_drop]; omega
  have HVE := hid hv
  have E4 : Hid ((4 : Int) + N - 4 = N) := by show _ = _; omega
  have HNL : Hid (N ≤ 2000) := by show _ ≤ _; omega
  clear hv hat hval z1 h3 h7 ob hq hHb hFb
  clear h1
  clear hf ht
  clear hW hbW ib ibW hC hC' hx2' hx2e hLe hL hy hy2 hy3 hF hH cl2 cl3 hbz
  go_enter Tryz.func105, Tryz.ntmps105
  go_wp2_with fail
  rw [HW.out]
  go_upto_region 3 with fail
  go_cut [5] (fun t5 wx => ∃ X, t5 = .pointer (some ⟨X, 0, none⟩) ∧ BoxL wx X [.int .i64 32768, .int .i64 F, .bool false, .int .u64 0, .slice none 0 0, .slice none 0 0] ∧ Below W.heap.size W wx ∧ W.heap.size ≤ X)
  case first =>
    go_region_held3 (fun w' => w'.cell? ⟨B, off + 2, none⟩ = some (.int .u8 x2)) (first | exact HK.out _ (below_alloc _ _).drew | exact HK.out _ (below_alloc _ _) | exact HK.out _ (below_drew8 _) | go_keep) (first | (go_at_call 103; refine (V2.out _ ?_).mono ?_; (first | exact below_drew8 W | exact (below_alloc W _).drew | exact below_alloc W _ | fail); rintro e w' ⟨rfl, rfl⟩) | fail)
    all_goals
      try rw [E1.out]
      rw [E2.out, E3.out]
      go_wp2_with fail
      go_meet
      exact ⟨W.heap.size, rfl, (BoxL.new W _ _).drew, (below_alloc _ _).drew, Nat.le_refl _⟩
  case rest =>
    obtain ⟨X, rfl, hX, hbx, hWX⟩ := hcut
    have hRx := hR.below hbx
    have cl3 := CL3.out ⟨_, hbx⟩
    have hXlt := hX.lt
    have hXR : X ≠ w.heap.size := by omega
    have HBx := hid (below_on HB.out hbx)
    have HBX1 := hid hbx
    obtain ⟨d0, d1, d2, d3, d4, d5⟩ := hX.six
    clear z0 z1 z2 z3 z4 z5 y0 y1 y2 y3 y4 y5 zz yz hz c2D HK CL2 V2
    go_wp2_with fail
    refine (HO.out _).mono ?_
    rintro e w1 ⟨v', rfl, ⟨a', c', rfl, hI⟩, hb1⟩
    clear hI d0 d1 d2 d3 d4 d5
    have hX1 := hX.below hb1
    have hR1 := hRx.below hb1
    have hXl1 := hX1.lt
    have hRl1 := hR1.lt
    have n2 : ¬ X = w1.heap.size := by omega
    have n3 : ¬ w.heap.size = w1.heap.size := by omega
    have HB1 := hid (below_on HBx.out hb1)
    have hb1' := hid hb1
    clear hX hRx hb1 cl3
    obtain ⟨d0, d1, d2, d3, d4, d5⟩ := hX1.six
    obtain ⟨r0, r1, r2, r3, r4, r5⟩ := hR1.six
    have zR := hR1.free
    obtain ⟨W1, hW1, hbW1, hY⟩ := refFld_box3 w1 f f.m (.slice a' f.v.length c')
    have HW1 := hid hW1
    have hX2 := hX1.below hbW1
    have hR2 := hR1.below hbW1
    have HB2 := hid (below_on HB1.out hbW1)
    have IB1 := hid (((IBW.out.below HBX1.out).below hb1'.out).below hbW1)
    clear hW1 hbW1 hY
    go_upto_region 15 with fail
    go_upto_region 20 with fail
    go_upto_region 22 with fail
    rename_i K1 a1 K2 a2
    have A1 := hid a1
    have A2 := hid a2
    clear a1 a2 HO CL3 IBW
    rw [HW1.out]
    clear d0 d1 d2 d3 d4 d5 r0 r1 r2 r3 r4 r5 zR
    obtain ⟨d0, d1, d2, d3, d4, d5⟩ := hX2.six
    have zX := hX2.free
    go_upto_region 24 with fail
    refine A2.out _ _ ?_
    go_upto_region 24 with fail
    refine A1.out _ _ ?_
    clear A1 A2
    go_upto_region 25 with fail
    rw [E4.out]
    have hvi := (IB1.out.drop (j := 4) hbc).take N
    rw [HVE.out, if_neg I4c.out] at hvi
    have HVI := hid hvi
    clear hvi
    have i0 := I0.out
    have i4c := I4c.out
    have i5a := I5a.out
    have i5c := I5c.out
    go_upto_region 28 with (at_builtin; (first
      | (refine wp_app_ints rfl (.tmp 121) (.tmp 127) rfl elemU8 rfl (own_emptyI _ _ .u8) rfl (by rw [HVN.out]; omega) (HVI.out.below (below_alloc _ _)) (List.nil_append v) ?_ ?_ ?_; (rw [HVN.out]; have := HNL.out; omega); (rw [HVN.out]; have := HNL.out; omega); intro a5 c5 w5 hl5 hc5 hI5 hg5; have hF5 := hg5.first; have hX5 := hX2.below hF5.bel; have hXl5 := hX5.lt; clear d0 d1 d2 d3 d4 d5 zX; obtain ⟨d0, d1, d2, d3, d4, d5⟩ := hX5.six; have zX := hX5.free; have HF5 := hid hF5; have I5 := hid hI5; clear hF5 hg5 hI5)
      | fail))
    rename_i K3 a3 K4 a4
    have A3 := hid a3
    have A4 := hid a4
    clear a3 a4
    have hXl2 := hX2.lt
    have hx5 : BoxL _ X [.int .i64 32768, .int .i64 F, .bool false, .int .u64 0, .slice a5 v.length c5, .slice none 0 0] := hX5.set 4 (.slice a5 v.length c5) (by simp)
    have hr5 := (hR2.below HF5.out.bel).far (c := X) (i := 4) (.slice a5 v.length c5) hXR
    have hb5 : Below w.heap.size w (w5.setCell ⟨X, 4, none⟩ (.slice a5 v.length c5)) := (below_on HB2.out HF5.out.bel).setCell (show w.heap.size ≤ X by omega) _
    have i5 := I5.out.apart (X := X) (i := 4) (.slice a5 v.length c5) (fun k hk => by have := fresh_new8 HF5.out k hk; omega)
    obtain ⟨W5, hW5⟩ : ∃ W5, w5.setCell ⟨X, 4, none⟩ (.slice a5 v.length c5) = W5 := ⟨_, rfl⟩
    rw [hW5] at hx5 hr5 hb5 i5
    have HB5 := hid hb5
    have J5 := hid i5
    have NR5 : Hid (New8 W1 a5) := fresh_new8 HF5.out
    rw [hW5]
    clear d0 d1 d2 d3 d4 d5 zX hX5 I5 HF5 hb5 i5 hW5
    obtain ⟨d0, d1, d2, d3, d4, d5⟩ := hx5.six
    go_wp2_with fail
    refine (hWR.out _ a5 c5 J5.out (Ints.nil _ _ _)).mono ?_
    rintro e w6 ⟨rfl, hb6⟩
    have hx6 := hx5.below hb6
    have hr6 := hr5.below hb6
    have HB6 := hid (below_on HB5.out hb6)
    have J6 := hid (J5.out.below hb6)
    have hXl6 := hx6.lt
    have nXR : ¬ X = w.heap.size := hXR
    have nRX : ¬ w.heap.size = X := fun e => hXR e.symm
    have NR1 : Hid (∀ k : Addr, a5 = some k → k.block ≠ w.heap.size) := fun k hk => by have := NR5.out k hk; omega
    have NN1 : Hid (New8 w a5) := fun k hk => by have := NR5.out k hk; omega
    clear d0 d1 d2 d3 d4 d5 hx5 hr5 HB5 J5 hb6 hWR NR5
    obtain ⟨d0, d1, d2, d3, d4, d5⟩ := hx6.six
    obtain ⟨r0, r1, r2, r3, r4, r5⟩ := hr6.six
    have zR := hr6.free
    by_cases hq0 : q = 0
    · subst hq0
      have hD' : Hid (decL b = .ok ⟨32768, F, false, 0, v, ([] : List Int), 4 + N⟩) := hD.out
      clear hD
      go_wp2_with fail
      refine A4.out _ _ ?_
      go_wp2_with fail
      refine A3.out _ _ ?_
      clear A3 A4
      go_wp2_with fail
      clear d0 d1 d2 d3 d4 d5 r0 r1 r2 r3 r4 r5
      have hkk := hr6.pre6 (.int .i64 32768) (.int .i64 F) (.bool false) (.int .u64 0) (.slice a5 v.length c5) (.slice none 0 0)
      obtain ⟨k0, k1, k2, k3, k4, k5⟩ := hkk
      refine bodyPost_ret (v := .tuple #[.agg #[.int .i64 32768, .int .i64 F, .bool false, .int .u64 0, .slice a5 v.length c5, .slice none 0 0], .int .i64 (4 + (N : Int)), .int .i64 0]) ?_ rfl (Or.inr ⟨⟨32768, F, false, 0, v, ([] : List Int), 4 + N⟩, a5, c5, none, 0, hD'.out, rfl, ?_, ?_, ?_, ?_, NN1.out, fun q e => by cases e⟩)
      · simp only [results, Tryz.results105]
        simp [go_sem, k0, k1, k2, k3, k4, k5]
      · repeat (with_reducible refine Below.setCell ?_ (by simp) _)
        exact HB6.out
      · repeat (refine Ints.apart ?_ _ NR1.out)
        exact J6.out
      · exact Ints.nil _ _ _
      · exact Nat.le_refl _
    · have hD' : Hid (decL b = .error q) := by show _ = _; rw [hD.out, if_neg hq0]
      have HQ := hid hq0
      have gq : (q != 0) = true := by simpa using hq0
      clear hD hq0
      go_wp2_with fail
      refine A4.out _ _ ?_
      go_wp2_with fail
      clear A3 A4 d0 d1 d2 d3 d4 d5 r0 r1 r2 r3 r4 r5
      have hkk := hr6.pre6 (.int .i64 0) (.int .i64 0) (.bool false) (.int .u64 0) (.slice none 0 0) (.slice none 0 0)
      obtain ⟨k0, k1, k2, k3, k4, k5⟩ := hkk
      refine bodyPost_ret (v := .tuple #[.agg #[.int .i64 0, .int .i64 0, .bool false, .int .u64 0, .slice none 0 0, .slice none 0 0], .int .i64 0, .int .i64 q]) ?_ rfl ?_
      · simp only [results, Tryz.results105]
        simp [go_sem, k0, k1, k2, k3, k4, k5]
      · refine Or.inl ⟨q, hD'.out, HQ.out, rfl, ?_⟩
        repeat (with_reducible refine Below.setCell ?_ (by simp) _)
        exact HB6.out
end Go.Proofs.YtdjlbejhphbcoaaGreat
namespace Go.Proofs.YtdjlbejhphbcoaaGreat
open Go.RowKit
set_option linter.unusedVariables false

set_option maxRecDepth 100000 in
set_option maxHeartbeats 8000000 in
theorem refDecode8_basic2 (b : List Int) (B off c : Nat) (hb : 4 ≤ b.length) (hbc : b.length ≤ c) (hc : c ≤ 9223372036854775807) (ob : Octets b) (w : World) (ib : Ints .u8 w (some ⟨B, off, none⟩) b) (hl : b.length ≤ 2000) {F : Int} {N : Nat} (hC : cls8 b = 32768) (hF : fld8 b / 2 = F) (hH : oddB (fld8 b) = true) (hL : len8 b = N) {S : Nat} (hS : (fld F).z = S) (h1 : 0 ≤ F ∧ F < 40) (hm : (fld F).m = true) (h3 : (N : Int) = 2 * ((fld F).z : Int)) (hs : ¬ (b.length : Int) < 4 + N) (h7 : (fld F).z ≤ 2000) :
    Calls Tryz.prog 105 #[.slice (some ⟨B, off, none⟩) b.length c] w (DecPost (decL b) w) := by
  obtain ⟨W, hW, hbW, hR⟩ := zero_box8 w
  have HW := hid hW
  have HB := hid hbW
  have ibW := ib.below hbW
  have hc2 := num_two ob
  have hx2 := num_byte (ob.drop 2)
  have hx3 := num_byte ((ob.drop 2).drop 1)
  have hC' : numL (b.take 2) = 32768 := hC
  rw [hC'] at hc2
  obtain ⟨x2, hx2'⟩ : ∃ x, fld8 b = x := ⟨_, rfl⟩
  have hx2e : numL ((b.drop 2).take 1) = x2 := hx2'
  have hLe : numL (((b.drop 2).drop 1).take 1) = N := hL
  rw [hx2e] at hx2
  rw [hLe] at hx3
  have hHb := hid hH
  have hFb := hid hF
  rw [hx2'] at hF hH
  obtain ⟨c20, c21⟩ := hc2
  obtain ⟨x20, x21⟩ := hx2
  obtain ⟨L0, L1⟩ := hx3
  obtain ⟨q0, q1, q2, q3, qr, hy⟩ := four_cons hb
  have hy2 : q2 = x2 := by rw [← hx2', hy]; exact (fld8_cons ..).symm
  have hy3 : q3 = N := by rw [← hL, hy]; exact (len8_cons ..).symm
  have cl2 : ∀ n : Wk W, n.val.cell? ⟨B, off + 2, none⟩ = some (.int .u8 x2) := by
    obtain ⟨b', o', x, he, hcell, hx⟩ := ibW.at (i := 2) (by omega)
    obtain ⟨rfl, rfl⟩ : B = b' ∧ off = o' := by simpa using he
    have hx0 : b[2]? = some x := hx
    rw [hy] at hx0
    obtain rfl : q2 = x := by simpa using hx0
    rw [← hy2]
    exact Wk.cell hcell
  have cl3 : ∀ n : Wk W, n.val.cell? ⟨B, off + 3, none⟩ = some (.int .u8 N) := by
    obtain ⟨b', o', x, he, hcell, hx⟩ := ibW.at (i := 3) (by omega)
    obtain ⟨rfl, rfl⟩ : B = b' ∧ off = o' := by simpa using he
    have hx0 : b[3]? = some x := hx
    rw [hy] at hx0
    obtain rfl : q3 = x := by simpa using hx0
    rw [← hy3]
    exact Wk.cell hcell
  have V2 := fun (w' : World) (hb' : Below W.heap.size W w') => value_any (b.take 2) (some ⟨B, off, none⟩) c w' (by rw [List.length_take]; omega) (ob.take 2) ((ibW.below hb').take 2)
  rw [List.length_take, Nat.min_eq_left (by omega : 2 ≤ b.length), hC'] at V2
  have V2 := hid V2
  have CL2 := hid cl2
  have CL3 := hid cl3
  have IBW := hid ibW
  have i4 : ¬ (b.length : Int) < 4 := by omega
  have i2c : (2 : Int) ≤ (c : Int) := by omega
  have ibl : (b.length : Int) ≤ (c : Int) := by omega
  have i3l : (3 : Int) < (b.length : Int) := by omega
  have i2l : (2 : Int) < (b.length : Int) := by omega
  have i6 : (b.length : Int) ≤ 2000 := by omega
  have c2D := cl2 ⟨W.drew, below_drew8 W⟩
  have hBlt : B < W.heap.size := World.block_lt_of_cell? W _ (cl2 ⟨W, Below.refl _ _⟩)
  have hBne : ¬ B = W.heap.size := by omega
  have hBw : B < w.heap.size := by
    obtain ⟨b', o', he, hcell⟩ := ib 0 (by omega)
    obtain ⟨rfl, rfl⟩ : B = b' ∧ off = o' := by simpa using he
    exact World.block_lt_of_cell? w _ hcell
  have hRlt := hR.lt
  obtain ⟨Wz, hWz, hbz, hz⟩ := zero_box8 W
  subst hWz
  obtain ⟨z0, z1, z2, z3, z4, z5⟩ := hz.six
  obtain ⟨y0, y1, y2, y3, y4, y5⟩ := hz.drew.six
  have zz := hz.free
  have yz := hz.drew.free
  have HK : Hid (∀ w', Below W.heap.size W w' → w'.cell? ⟨B, off + 2, none⟩ = some (.int .u8 x2)) := fun w' hb' => cl2 ⟨w', hb'⟩
  have E1 : Hid (IntKind.i64.wrap 32768 = 32768) := by show _ = _; decide
  have E2 : Hid (IntKind.i64.wrap ((IntKind.i64.wrap x2).tdiv 2) = F) := by
    show _ = _
    have e : IntKind.i64.wrap x2 = x2 := by simp [IntKind.wrap, IntKind.bits, IntKind.signed]; omega
    rw [e, Int.tdiv_eq_ediv_of_nonneg x20, hF]
    simp [IntKind.wrap, IntKind.bits, IntKind.signed]; omega
  have E3 : Hid ((x2.tmod 2 == 1) = true) := by
    show _ = _
    rw [Int.tmod_eq_emod_of_nonneg x20]
    exact hH
  have HO := fun W => refOf_any F W
  obtain ⟨f, hf⟩ : ∃ f, fld F = f := ⟨_, rfl⟩
  obtain ⟨t, ht⟩ : ∃ t, decide (0 ≤ F ∧ F < 40) = t := ⟨_, rfl⟩
  rw [hf, ht] at HO
  unfold refFldV at HO
  have HO := hid HO
  obtain rfl : true = t := by rw [← ht]; exact (decide_eq_true h1).symm
  obtain ⟨v, hv⟩ : ∃ v, (b.drop 4).take S = v := ⟨_, rfl⟩
  obtain ⟨m, hmm⟩ : ∃ m, (b.drop (4 + S)).take S = m := ⟨_, rfl⟩
  have hNS : N = 2 * S := by omega
  have hat := at_basic hC hL
  have hval := val_two hat.2.1 hat.2.2 hNS hHb.out
  have hD := hid (dec_body8 hb (by rw [hC, hHb.out, hFb.out, hL, headE, if_pos rfl, if_neg (by simpa using h1), if_neg (by simp [hm]), if_neg (by simpa [pieces8, Int.mul_comm] using h3)]) hs hC hFb.out hHb.out hL hat.1 (hval.1.trans hv) (hval.2.trans hmm))
  have hMN : m.length = S := by rw [← hmm, List.length_take, List.length_drop]; omega
  have hWR := fun W a5 c5 a7 c7 => refWrong_basic F true 0 a5 c5 a7 c7 v m (by omega) (hv ▸ (ob.drop 4).take S) (hmm ▸ (ob.drop (4 + S)).take S) W
  obtain ⟨q, hq⟩ : ∃ q, bytesE 32768 F true v m = q := ⟨_, rfl⟩
  rw [hq] at hD hWR
  have hWR := hid hWR
  have z1 := fld_z1 h1
  rw [hf] at h3 h7 z1 hm hS
  have I0 : Hid (¬ S = 0) := by show ¬ _; omega
  have I4c : Hid (¬ c = 4) := by show ¬ _; omega
  have I4d : Hid (¬ c = 4 + S) := by show ¬ _; omega
  have I5a : Hid ((4 : Int) ≤ 4 + (S : Int)) := by show _ ≤ _; omega
  have I5c : Hid ((4 : Int) + (S : Int) ≤ (c : Int)) := by show _ ≤ _; omega
  have I6a : Hid ((4 : Int) + (S : Int) ≤ 4 + (N : Int)) := by show _ ≤ _; omega
  have I6c : Hid ((4 : Int) + (N : Int) ≤ (c : Int)) := by show _ ≤ _; omega
  have g5 : ((N : Int) != 2 * (f.z : Int)) = false := by simpa using h3
  have hz' : (f.z : Int) ≤ 2000 := by omega
  have HVN : Hid (v.length = S) := by show _ = _; rw [← hv, List.length_take, List.length_drop]; omega
  have HVE := hid hv
  have HME := hid hmm
  have HMN := hid hMN
  have E4 : Hid (((4 : Int) + N - 4) / 2 = S) := by show _ = _; omega
  have HNL : Hid (S ≤ 2000) := by show _ ≤ _; omega
  have HNS := hid hNS
  clear hv hmm hMN hNS hat hval z1 h3 h7 ob hq hHb hFb hS
  clear h1
  clear hf ht
  clear hW hbW ib ibW hC hC' hx2' hx2e hLe hL hy hy2 hy3 hF hH cl2 cl3 hbz
  go_enter Tryz.func105, Tryz.ntmps105
  go_wp2_with fail
  rw [HW.out]
  go_upto_region 3 with fail
  go_cut [5] (fun t5 wx => ∃ X, t5 = .pointer (some ⟨X, 0, none⟩) ∧ BoxL wx X [.int .i64 32768, .int .i64 F, .bool true, .int .u64 0, .slice none 0 0, .slice none 0 0] ∧ Below W.heap.size W wx ∧ W.heap.size ≤ X)
  case first =>
    go_region_held3 (fun w' => w'.cell? ⟨B, off + 2, none⟩ = some (.int .u8 x2)) (first | exact HK.out _ (below_alloc _ _).drew | exact HK.out _ (below_alloc _ _) | exact HK.out _ (below_drew8 _) | go_keep) (first | (go_at_call 103; refine (V2.out _ ?_).mono ?_; (first | exact below_drew8 W | exact (below_alloc W _).drew | exact below_alloc W _ | fail); rintro e w' ⟨rfl, rfl⟩) | fail)
    all_goals
      try rw [E1.out]
      rw [E2.out, E3.out]
      go_wp2_with fail
      go_meet
      exact ⟨W.heap.size, rfl, (BoxL.new W _ _).drew, (below_alloc _ _).drew, Nat.le_refl _⟩
  case rest =>
    obtain ⟨X, rfl, hX, hbx, hWX⟩ := hcut
    have hRx := hR.below hbx
    have cl3 := CL3.out ⟨_, hbx⟩
    have hXlt := hX.lt
    have hXR : X ≠ w.heap.size := by omega
    have HBx := hid (below_on HB.out hbx)
    have HBX1 := hid hbx
    obtain ⟨d0, d1, d2, d3, d4, d5⟩ := hX.six
    clear z0 z1 z2 z3 z4 z5 y0 y1 y2 y3 y4 y5 zz yz hz c2D HK CL2 V2
    go_wp2_with fail
    refine (HO.out _).mono ?_
    rintro e w1 ⟨v', rfl, ⟨a', c', rfl, hI⟩, hb1⟩
    clear hI d0 d1 d2 d3 d4 d5
    have hX1 := hX.below hb1
    have hR1 := hRx.below hb1
    have hXl1 := hX1.lt
    have hRl1 := hR1.lt
    have n2 : ¬ X = w1.heap.size := by omega
    have n3 : ¬ w.heap.size = w1.heap.size := by omega
    have HB1 := hid (below_on HBx.out hb1)
    have hb1' := hid hb1
    clear hX hRx hb1 cl3
    obtain ⟨d0, d1, d2, d3, d4, d5⟩ := hX1.six
    obtain ⟨r0, r1, r2, r3, r4, r5⟩ := hR1.six
    have zR := hR1.free
    obtain ⟨W1, hW1, hbW1, hY⟩ := refFld_box3 w1 f true (.slice a' f.v.length c')
    have HW1 := hid hW1
    have hX2 := hX1.below hbW1
    have hR2 := hR1.below hbW1
    have HB2 := hid (below_on HB1.out hbW1)
    have IB1 := hid (((IBW.out.below HBX1.out).below hb1'.out).below hbW1)
    clear hW1 hbW1 hY
    go_upto_region 15 with fail
    go_upto_region 20 with fail
    go_upto_region 22 with fail
    rename_i K1 a1 K2 a2
    have A1 := hid a1
    have A2 := hid a2
    clear a1 a2 HO CL3 IBW
    rw [HW1.out]
    clear d0 d1 d2 d3 d4 d5 r0 r1 r2 r3 r4 r5 zR
    obtain ⟨d0, d1, d2, d3, d4, d5⟩ := hX2.six
    have zX := hX2.free
    go_upto_region 24 with fail
    refine A2.out _ _ ?_
    go_upto_region 24 with fail
    refine A1.out _ _ ?_
    clear A1 A2
    go_upto_region 25 with fail
    rw [E4.out]
    have hvi := (IB1.out.drop (j := 4) hbc).take S
    rw [HVE.out, if_neg I4c.out] at hvi
    have HVI := hid hvi
    clear hvi
    have i0 := I0.out
    have i4c := I4c.out
    have i5a := I5a.out
    have i5c := I5c.out
    go_upto_region 27 with (at_builtin; (first
      | (refine wp_app_ints rfl (.tmp 121) (.tmp 127) rfl elemU8 rfl (own_emptyI _ _ .u8) rfl (by rw [HVN.out]; omega) (HVI.out.below (below_alloc _ _)) (List.nil_append v) ?_ ?_ ?_; (rw [HVN.out]; have := HNL.out; omega); (rw [HVN.out]; have := HNL.out; omega); intro a5 c5 w5 hl5 hc5 hI5 hg5; have hF5 := hg5.first; have hX5 := hX2.below hF5.bel; have hXl5 := hX5.lt; clear d0 d1 d2 d3 d4 d5 zX; obtain ⟨d0, d1, d2, d3, d4, d5⟩ := hX5.six; have zX := hX5.free; have HF5 := hid hF5; have I5 := hid hI5; clear hF5 hg5 hI5)
      | fail))
    rename_i K3 a3
    have A3 := hid a3
    clear a3
    have hXl2 := hX2.lt
    have hx5 : BoxL _ X [.int .i64 32768, .int .i64 F, .bool true, .int .u64 0, .slice a5 v.length c5, .slice none 0 0] := hX5.set 4 (.slice a5 v.length c5) (by simp)
    have hr5 := (hR2.below HF5.out.bel).far (c := X) (i := 4) (.slice a5 v.length c5) hXR
    have hb5 : Below w.heap.size w (w5.setCell ⟨X, 4, none⟩ (.slice a5 v.length c5)) := (below_on HB2.out HF5.out.bel).setCell (show w.heap.size ≤ X by omega) _
    have i5 := I5.out.apart (X := X) (i := 4) (.slice a5 v.length c5) (fun k hk => by have := fresh_new8 HF5.out k hk; omega)
    have m5 := (IB1.out.below HF5.out.bel).apart (X := X) (i := 4) (.slice a5 v.length c5) (fun k hk => by cases hk; show B ≠ X; omega)
    obtain ⟨W5, hW5⟩ : ∃ W5, w5.setCell ⟨X, 4, none⟩ (.slice a5 v.length c5) = W5 := ⟨_, rfl⟩
    rw [hW5] at hx5 hr5 hb5 i5 m5
    have HB5 := hid hb5
    have J5 := hid i5
    have NR5 : Hid (New8 W1 a5) := fresh_new8 HF5.out
    have hvi := (m5.drop (j := 4 + S) hbc).take S
    rw [HME.out, if_neg I4d.out] at hvi
    have HMI := hid hvi
    rw [hW5]
    clear d0 d1 d2 d3 d4 d5 zX hX5 I5 HF5 hb5 i5 hW5 m5 hvi i4c i5a i5c
    obtain ⟨d0, d1, d2, d3, d4, d5⟩ := hx5.six
    have zX := hx5.free
    have i4d := I4d.out
    have i6a := I6a.out
    have i6c := I6c.out
    have hXl5 := hx5.lt
    go_upto_region 28 with (at_builtin; (first
      | (refine wp_app_ints rfl (.tmp 132) (.tmp 139) rfl elemU8 rfl (own_emptyI _ _ .u8) rfl (by rw [HMN.out]; have := HNS.out; omega) (HMI.out.below (below_alloc _ _)) (List.nil_append m) ?_ ?_ ?_; (rw [HMN.out]; have := HNL.out; omega); (rw [HMN.out]; have := HNL.out; omega); intro a7 c7 w7 hl7 hc7 hI7 hg7; have hF7 := hg7.first; have hX7 := hx5.below hF7.bel; have hXl7 := hX7.lt; clear d0 d1 d2 d3 d4 d5 zX; obtain ⟨d0, d1, d2, d3, d4, d5⟩ := hX7.six; have zX := hX7.free; have HF7 := hid hF7; have I7 := hid hI7; have HC2 := hid hl7; clear hF7 hg7 hI7 hl7)
      | fail))
    refine A3.out _ _ ?_
    clear A3 i4d i6a i6c
    have hx7 : BoxL _ X [.int .i64 32768, .int .i64 F, .bool true, .int .u64 0, .slice a5 v.length c5, .slice a7 m.length c7] := hX7.set 5 (.slice a7 m.length c7) (by simp)
    have hr7 := (hr5.below HF7.out.bel).far (c := X) (i := 5) (.slice a7 m.length c7) hXR
    have hb7 : Below w.heap.size w (w7.setCell ⟨X, 5, none⟩ (.slice a7 m.length c7)) := (below_on HB5.out HF7.out.bel).setCell (show w.heap.size ≤ X by omega) _
    have i7 := (J5.out.below HF7.out.bel).apart (X := X) (i := 5) (.slice a7 m.length c7) (fun k hk => by have := NR5.out k hk; omega)
    have m7 := I7.out.apart (X := X) (i := 5) (.slice a7 m.length c7) (fun k hk => by have := fresh_new8 HF7.out k hk; omega)
    obtain ⟨W7, hW7⟩ : ∃ W7, w7.setCell ⟨X, 5, none⟩ (.slice a7 m.length c7) = W7 := ⟨_, rfl⟩
    rw [hW7] at hx7 hr7 hb7 i7 m7
    have HB7 := hid hb7
    have J7 := hid i7
    have M5 := hid m7
    have NR7 : Hid (New8 W5 a7) := fresh_new8 HF7.out
    rw [hW7]
    clear d0 d1 d2 d3 d4 d5 zX hX7 I7 HF7 hb7 i7 hW7 m7 HB5 J5 hr5
    obtain ⟨d0, d1, d2, d3, d4, d5⟩ := hx7.six
    go_upto_region 28 with fail
    rename_i K3 a3 K4 a4
    have A3 := hid a3
    have A4 := hid a4
    clear a3 a4
    go_wp2_with fail
    refine (hWR.out _ a5 c5 a7 c7 J7.out M5.out).mono ?_
    rintro e w6 ⟨rfl, hb6⟩
    have hx6 := hx7.below hb6
    have hr6 := hr7.below hb6
    have HB6 := hid (below_on HB7.out hb6)
    have J6 := hid (J7.out.below hb6)
    have M6 := hid (M5.out.below hb6)
    have hXl6 := hx6.lt
    have nXR : ¬ X = w.heap.size := hXR
    have nRX : ¬ w.heap.size = X := fun e => hXR e.symm
    have NR1 : Hid (∀ k : Addr, a5 = some k → k.block ≠ w.heap.size) := fun k hk => by have := NR5.out k hk; omega
    have NN1 : Hid (New8 w a5) := fun k hk => by have := NR5.out k hk; omega
    have NR2 : Hid (∀ k : Addr, a7 = some k → k.block ≠ w.heap.size) := fun k hk => by have := NR7.out k hk; omega
    have NN2 : Hid (New8 w a7) := fun k hk => by have := NR7.out k hk; omega
    clear d0 d1 d2 d3 d4 d5 hx7 hr7 HB7 J7 hb6 hWR NR5
    obtain ⟨d0, d1, d2, d3, d4, d5⟩ := hx6.six
    obtain ⟨r0, r1, r2, r3, r4, r5⟩ := hr6.six
    have zR := hr6.free
    by_cases hq0 : q = 0
    · subst hq0
      have hD' : Hid (decL b = .ok ⟨32768, F, true, 0, v, m, 4 + N⟩) := hD.out
      clear hD
      go_wp2_with fail
      refine A4.out _ _ ?_
      go_wp2_with fail
      refine A3.out _ _ ?_
      clear A3 A4
      go_wp2_with fail
      clear d0 d1 d2 d3 d4 d5 r0 r1 r2 r3 r4 r5
      have hkk := hr6.pre6 (.int .i64 32768) (.int .i64 F) (.bool true) (.int .u64 0) (.slice a5 v.length c5) (.slice a7 m.length c7)
      obtain ⟨k0, k1, k2, k3, k4, k5⟩ := hkk
      refine bodyPost_ret (v := .tuple #[.agg #[.int .i64 32768, .int .i64 F, .bool true, .int .u64 0, .slice a5 v.length c5, .slice a7 m.length c7], .int .i64 (4 + (N : Int)), .int .i64 0]) ?_ rfl (Or.inr ⟨⟨32768, F, true, 0, v, m, 4 + N⟩, a5, c5, a7, c7, hD'.out, rfl, ?_, ?_, ?_, ?_, NN1.out, NN2.out⟩)
      · simp only [results, Tryz.results105]
        simp [go_sem, k0, k1, k2, k3, k4, k5]
      · repeat (with_reducible refine Below.setCell ?_ (by simp) _)
        exact HB6.out
      · repeat (refine Ints.apart ?_ _ NR1.out)
        exact J6.out
      · repeat (refine Ints.apart ?_ _ NR2.out)
        exact M6.out
      · exact HC2.out
    · have hD' : Hid (decL b = .error q) := by show _ = _; rw [hD.out, if_neg hq0]
      have HQ := hid hq0
      have gq : (q != 0) = true := by simpa using hq0
      clear hD hq0
      go_wp2_with fail
      refine A4.out _ _ ?_
      go_wp2_with fail
      clear A3 A4 d0 d1 d2 d3 d4 d5 r0 r1 r2 r3 r4 r5
      have hkk := hr6.pre6 (.int .i64 0) (.int .i64 0) (.bool false) (.int .u64 0) (.slice none 0 0) (.slice none 0 0)
      obtain ⟨k0, k1, k2, k3, k4, k5⟩ := hkk
      refine bodyPost_ret (v := .tuple #[.agg #[.int .i64 0, .int .i64 0, .bool false, .int .u64 0, .slice none 0 0, .slice none 0 0], .int .i64 0, .int .i64 q]) ?_ rfl ?_
      · simp only [results, Tryz.results105]
        simp [go_sem, k0, k1, k2, k3, k4, k5]
      · refine Or.inl ⟨q, hD'.out, HQ.out, rfl, ?_⟩
        repeat (with_reducible refine Below.setCell ?_ (by simp) _)
        exact HB6.out
end Go.Proofs.YtdjlbejhphbcoaaGreat
namespace Go.Proofs.YtdjlbejhphbcoaaGreat
open Go.RowKit
set_option linter.unusedVariables false

set_option maxRecDepth 100000 in
set_option maxHeartbeats 8000000 in
theorem refDecode8_extra1 (b : List Int) (B off c : Nat) (hb : 4 ≤ b.length) (hbc : b.length ≤ c) (hc : c ≤ 9223372036854775807) (ob : Octets b) (w : World) (ib : Ints .u8 w (some ⟨B, off, none⟩) b) (hl : b.length ≤ 2000) {F : Int} {N : Nat} (hC : cls8 b = 65535) (hF : fld8 b / 2 = F) (hH : oddB (fld8 b) = false) (hL : len8 b = N) {M : Nat} (hM : N = M + 4) (hmx : M ≤ 100) (hs : ¬ (b.length : Int) < 4 + N) (hc8 : 8 < c) :
    Calls Tryz.prog 105 #[.slice (some ⟨B, off, none⟩) b.length c] w (DecPost (decL b) w) := by
  obtain ⟨W, hW, hbW, hR⟩ := zero_box8 w
  have HW := hid hW
  have HB := hid hbW
  have ibW := ib.below hbW
  have hc2 := num_two ob
  have hx2 := num_byte (ob.drop 2)
  have hx3 := num_byte ((ob.drop 2).drop 1)
  have hC' : numL (b.take 2) = 65535 := hC
  rw [hC'] at hc2
  obtain ⟨x2, hx2'⟩ : ∃ x, fld8 b = x := ⟨_, rfl⟩
  have hx2e : numL ((b.drop 2).take 1) = x2 := hx2'
  have hLe : numL (((b.drop 2).drop 1).take 1) = N := hL
  rw [hx2e] at hx2
  rw [hLe] at hx3
  have hHb := hid hH
  have hFb := hid hF
  rw [hx2'] at hF hH
  obtain ⟨c20, c21⟩ := hc2
  obtain ⟨x20, x21⟩ := hx2
  obtain ⟨L0, L1⟩ := hx3
  obtain ⟨q0, q1, q2, q3, qr, hy⟩ := four_cons hb
  have hy2 : q2 = x2 := by rw [← hx2', hy]; exact (fld8_cons ..).symm
  have hy3 : q3 = N := by rw [← hL, hy]; exact (len8_cons ..).symm
  have cl2 : ∀ n : Wk W, n.val.cell? ⟨B, off + 2, none⟩ = some (.int .u8 x2) := by
    obtain ⟨b', o', x, he, hcell, hx⟩ := ibW.at (i := 2) (by omega)
    obtain ⟨rfl, rfl⟩ : B = b' ∧ off = o' := by simpa using he
    have hx0 : b[2]? = some x := hx
    rw [hy] at hx0
    obtain rfl : q2 = x := by simpa using hx0
    rw [← hy2]
    exact Wk.cell hcell
  have cl3 : ∀ n : Wk W, n.val.cell? ⟨B, off + 3, none⟩ = some (.int .u8 N) := by
    obtain ⟨b', o', x, he, hcell, hx⟩ := ibW.at (i := 3) (by omega)
    obtain ⟨rfl, rfl⟩ : B = b' ∧ off = o' := by simpa using he
    have hx0 : b[3]? = some x := hx
    rw [hy] at hx0
    obtain rfl : q3 = x := by simpa using hx0
    rw [← hy3]
    exact Wk.cell hcell
  have V2 := fun (w' : World) (hb' : Below W.heap.size W w') => value_any (b.take 2) (some ⟨B, off, none⟩) c w' (by rw [List.length_take]; omega) (ob.take 2) ((ibW.below hb').take 2)
  rw [List.length_take, Nat.min_eq_left (by omega : 2 ≤ b.length), hC'] at V2
  have V2 := hid V2
  have CL2 := hid cl2
  have CL3 := hid cl3
  have IBW := hid ibW
  have i4 : ¬ (b.length : Int) < 4 := by omega
  have i2c : (2 : Int) ≤ (c : Int) := by omega
  have ibl : (b.length : Int) ≤ (c : Int) := by omega
  have i3l : (3 : Int) < (b.length : Int) := by omega
  have i2l : (2 : Int) < (b.length : Int) := by omega
  have i6 : (b.length : Int) ≤ 2000 := by omega
  have c2D := cl2 ⟨W.drew, below_drew8 W⟩
  have hBlt : B < W.heap.size := World.block_lt_of_cell? W _ (cl2 ⟨W, Below.refl _ _⟩)
  have hBne : ¬ B = W.heap.size := by omega
  have hBw : B < w.heap.size := by
    obtain ⟨b', o', he, hcell⟩ := ib 0 (by omega)
    obtain ⟨rfl, rfl⟩ : B = b' ∧ off = o' := by simpa using he
    exact World.block_lt_of_cell? w _ hcell
  have hRlt := hR.lt
  obtain ⟨Wz, hWz, hbz, hz⟩ := zero_box8 W
  subst hWz
  obtain ⟨z0, z1, z2, z3, z4, z5⟩ := hz.six
  obtain ⟨y0, y1, y2, y3, y4, y5⟩ := hz.drew.six
  have zz := hz.free
  have yz := hz.drew.free
  have HK : Hid (∀ w', Below W.heap.size W w' → w'.cell? ⟨B, off + 2, none⟩ = some (.int .u8 x2)) := fun w' hb' => cl2 ⟨w', hb'⟩
  have E1 : Hid (IntKind.i64.wrap 65535 = 65535) := by show _ = _; decide
  have E2 : Hid (IntKind.i64.wrap ((IntKind.i64.wrap x2).tdiv 2) = F) := by
    show _ = _
    have e : IntKind.i64.wrap x2 = x2 := by simp [IntKind.wrap, IntKind.bits, IntKind.signed]; omega
    rw [e, Int.tdiv_eq_ediv_of_nonneg x20, hF]
    simp [IntKind.wrap, IntKind.bits, IntKind.signed]; omega
  have E3 : Hid ((x2.tmod 2 == 1) = false) := by
    show _ = _
    rw [Int.tmod_eq_emod_of_nonneg x20]
    exact hH
  have HO := fun W => refOf_any F W
  obtain ⟨f, hf⟩ : ∃ f, fld F = f := ⟨_, rfl⟩
  obtain ⟨t, ht⟩ : ∃ t, decide (0 ≤ F ∧ F < 40) = t := ⟨_, rfl⟩
  rw [hf, ht] at HO
  unfold refFldV at HO
  have HO := hid HO
  obtain ⟨v, hv⟩ : ∃ v, (b.drop 8).take M = v := ⟨_, rfl⟩
  obtain ⟨x4, hx4⟩ : ∃ x4, (b.drop 4).take 4 = x4 := ⟨_, rfl⟩
  obtain ⟨xe, hxe⟩ : ∃ xe, numL x4 = xe := ⟨_, rfl⟩
  have hN4 : (N : Int) = ((M + 4 : Nat) : Int) := by rw [hM]
  have hat := at_extra hC (hL.trans hN4)
  have hval := val_one hat.2.1 hat.2.2 hHb.out
  have hex : exp8 b = xe := by rw [hat.1, hx4, hxe]
  have hD := hid (dec_body8 hb (by rw [hC, hHb.out, hFb.out, hL, headE, if_neg (by decide), if_pos rfl, if_neg (by simp only [pieces8, Bool.false_eq_true, if_false]; omega)]) hs hC hFb.out hHb.out hL hex (hval.1.trans hv) hval.2)
  have hWR := fun W a5 c5 => refWrong_extra F false xe a5 c5 none 0 v [] (by simp) (by simp) (hv ▸ (ob.drop 8).take M) (by intro x hx; simp at hx) W
  obtain ⟨q, hq⟩ : ∃ q, bytesE 65535 F false v [] = q := ⟨_, rfl⟩
  rw [hq] at hD hWR
  have hWR := hid hWR
  have HXO : Hid (Octets x4) := hx4 ▸ (ob.drop 4).take 4
  have HXN : Hid (x4.length = 4) := by show _ = _; rw [← hx4, List.length_take, List.length_drop]; omega
  have HX4 := hid hx4
  have HXE := hid hxe
  have h4 : ¬ (N : Int) < 4 := by omega
  have h5 : ¬ (100 : Int) < (N : Int) - 4 := by omega
  have g6 : (((N : Int) - 4).tmod 1 != 0) = false := by rw [Int.tmod_one]; rfl
  have I44 : Hid (¬ c = 4) := by show ¬ _; omega
  have I8c : Hid ((8 : Int) ≤ (c : Int)) := by show _ ≤ _; omega
  have I4c : Hid (¬ c = 8) := by show ¬ _; omega
  have I5a : Hid ((8 : Int) ≤ 8 + (M : Int)) := by show _ ≤ _; omega
  have I5c : Hid ((8 : Int) + (M : Int) ≤ (c : Int)) := by show _ ≤ _; omega
  have HVN : Hid (v.length = M) := by show _ = _; rw [← hv, List.length_take, List.length_drop]; omega
  have HVE := hid hv
  have E4 : Hid ((4 : Int) + N - 8 = M) := by show _ = _; omega
  have HNL : Hid (M ≤ 2000) := by show _ ≤ _; omega
  clear hv hx4 hxe hN4 hM hat hval hex ob hq hHb hFb hc8
  clear hf ht
  clear hW hbW ib ibW hC hC' hx2' hx2e hLe hL hy hy2 hy3 hF hH cl2 cl3 hbz
  go_enter Tryz.func105, Tryz.ntmps105
  go_wp2_with fail
  rw [HW.out]
  go_upto_region 3 with fail
  go_cut [5] (fun t5 wx => ∃ X, t5 = .pointer (some ⟨X, 0, none⟩) ∧ BoxL wx X [.int .i64 65535, .int .i64 F, .bool false, .int .u64 0, .slice none 0 0, .slice none 0 0] ∧ Below W.heap.size W wx ∧ W.heap.size ≤ X)
  case first =>
    go_region_held3 (fun w' => w'.cell? ⟨B, off + 2, none⟩ = some (.int .u8 x2)) (first | exact HK.out _ (below_alloc _ _).drew | exact HK.out _ (below_alloc _ _) | exact HK.out _ (below_drew8 _) | go_keep) (first | (go_at_call 103; refine (V2.out _ ?_).mono ?_; (first | exact below_drew8 W | exact (below_alloc W _).drew | exact below_alloc W _ | fail); rintro e w' ⟨rfl, rfl⟩) | fail)
    all_goals
      try rw [E1.out]
      rw [E2.out, E3.out]
      go_wp2_with fail
      go_meet
      exact ⟨W.heap.size, rfl, (BoxL.new W _ _).drew, (below_alloc _ _).drew, Nat.le_refl _⟩
  case rest =>
    obtain ⟨X, rfl, hX, hbx, hWX⟩ := hcut
    have hRx := hR.below hbx
    have cl3 := CL3.out ⟨_, hbx⟩
    have hXlt := hX.lt
    have hXR : X ≠ w.heap.size := by omega
    have HBx := hid (below_on HB.out hbx)
    have HBX1 := hid hbx
    obtain ⟨d0, d1, d2, d3, d4, d5⟩ := hX.six
    clear z0 z1 z2 z3 z4 z5 y0 y1 y2 y3 y4 y5 zz yz hz c2D HK CL2 V2
    go_wp2_with fail
    refine (HO.out _).mono ?_
    rintro e w1 ⟨v', rfl, ⟨a', c', rfl, hI⟩, hb1⟩
    clear hI d0 d1 d2 d3 d4 d5
    have hX1 := hX.below hb1
    have hR1 := hRx.below hb1
    have hXl1 := hX1.lt
    have hRl1 := hR1.lt
    have n2 : ¬ X = w1.heap.size := by omega
    have n3 : ¬ w.heap.size = w1.heap.size := by omega
    have HB1 := hid (below_on HBx.out hb1)
    have hb1' := hid hb1
    clear hX hRx hb1 cl3
    obtain ⟨d0, d1, d2, d3, d4, d5⟩ := hX1.six
    obtain ⟨r0, r1, r2, r3, r4, r5⟩ := hR1.six
    have zR := hR1.free
    obtain ⟨W1, hW1, hbW1, hY⟩ := refFld_box3 w1 f f.m (.slice a' f.v.length c')
    have HW1 := hid hW1
    have hX2 := hX1.below hbW1
    have hR2 := hR1.below hbW1
    have HB2 := hid (below_on HB1.out hbW1)
    have IB1 := hid (((IBW.out.below HBX1.out).below hb1'.out).below hbW1)
    clear hW1 hbW1 hY
    go_upto_region 18 with fail
    go_upto_region 20 with fail
    go_upto_region 22 with fail
    rename_i K1 a1 K2 a2
    have A1 := hid a1
    have A2 := hid a2
    clear a1 a2 HO CL3 IBW
    rw [HW1.out]
    clear d0 d1 d2 d3 d4 d5 r0 r1 r2 r3 r4 r5 zR
    obtain ⟨d0, d1, d2, d3, d4, d5⟩ := hX2.six
    have zX := hX2.free
    have hv4 := (IB1.out.drop (j := 4) hbc).take 4
    rw [HX4.out, if_neg I44.out] at hv4
    have V4 := value_any x4 (some ⟨B, off + 4, none⟩) (c - 4) W1 (by have := HXN.out; omega) HXO.out hv4
    rw [HXN.out, HXE.out] at V4
    have V4 := hid V4
    clear hv4
    have i44 := I44.out
    have i8c := I8c.out
    go_upto_region 24 with fail
    refine A2.out _ _ ?_
    go_wp2_with fail
    refine V4.out.mono ?_
    rintro e w9 ⟨rfl, rfl⟩
    go_upto_region 24 with fail
    refine A1.out _ _ ?_
    clear A1 A2 V4 i44 i8c
    have hx3 : BoxL _ X [.int .i64 65535, .int .i64 F, .bool false, .int .u64 xe, .slice none 0 0, .slice none 0 0] := hX2.set 3 (.int .u64 xe) (by simp)
    have hr3 := hR2.far (c := X) (i := 3) (.int .u64 xe) hXR
    have hb3 : Below w.heap.size w (W1.setCell ⟨X, 3, none⟩ (.int .u64 xe)) := HB2.out.setCell (show w.heap.size ≤ X by omega) _
    have ib3 := IB1.out.apart (X := X) (i := 3) (.int .u64 xe) (fun k hk => by cases hk; show B ≠ X; omega)
    obtain ⟨W2, hW2⟩ : ∃ W2, W1.setCell ⟨X, 3, none⟩ (.int .u64 xe) = W2 := ⟨_, rfl⟩
    rw [hW2] at hx3 hr3 hb3 ib3
    clear HW1 hX2 hR2 HB2 IB1 d0 d1 d2 d3 d4 d5 zX
    have hX2 := hx3
    have hR2 := hr3
    have HB2 := hid hb3
    have IB1 := hid ib3
    rw [hW2]
    clear hx3 hr3 hb3 ib3 hW2
    obtain ⟨d0, d1, d2, d3, d4, d5⟩ := hX2.six
    have zX := hX2.free
    go_upto_region 25 with fail
    rw [E4.out]
    have hvi := (IB1.out.drop (j := 8) hbc).take M
    rw [HVE.out, if_neg I4c.out] at hvi
    have HVI := hid hvi
    clear hvi
    have i4c := I4c.out
    have i5a := I5a.out
    have i5c := I5c.out
    go_upto_region 28 with (at_builtin; (first
      | (refine wp_app_ints rfl (.tmp 121) (.tmp 127) rfl elemU8 rfl (own_emptyI _ _ .u8) rfl (by rw [HVN.out]; omega) (HVI.out.below (below_alloc _ _)) (List.nil_append v) ?_ ?_ ?_; (rw [HVN.out]; have := HNL.out; omega); (rw [HVN.out]; have := HNL.out; omega); intro a5 c5 w5 hl5 hc5 hI5 hg5; have hF5 := hg5.first; have hX5 := hX2.below hF5.bel; have hXl5 := hX5.lt; clear d0 d1 d2 d3 d4 d5 zX; obtain ⟨d0, d1, d2, d3, d4, d5⟩ := hX5.six; have zX := hX5.free; have HF5 := hid hF5; have I5 := hid hI5; clear hF5 hg5 hI5)
      | fail))
    rename_i K3 a3 K4 a4
    have A3 := hid a3
    have A4 := hid a4
    clear a3 a4
    have hXl2 := hX2.lt
    have hx5 : BoxL _ X [.int .i64 65535, .int .i64 F, .bool false, .int .u64 xe, .slice a5 v.length c5, .slice none 0 0] := hX5.set 4 (.slice a5 v.length c5) (by simp)
    have hr5 := (hR2.below HF5.out.bel).far (c := X) (i := 4) (.slice a5 v.length c5) hXR
    have hb5 : Below w.heap.size w (w5.setCell ⟨X, 4, none⟩ (.slice a5 v.length c5)) := (below_on HB2.out HF5.out.bel).setCell (show w.heap.size ≤ X by omega) _
    have i5 := I5.out.apart (X := X) (i := 4) (.slice a5 v.length c5) (fun k hk => by have := fresh_new8 HF5.out k hk; omega)
    obtain ⟨W5, hW5⟩ : ∃ W5, w5.setCell ⟨X, 4, none⟩ (.slice a5 v.length c5) = W5 := ⟨_, rfl⟩
    rw [hW5] at hx5 hr5 hb5 i5
    have HB5 := hid hb5
    have J5 := hid i5
    have NR5 : Hid (New8 W2 a5) := fresh_new8 HF5.out
    rw [hW5]
    clear d0 d1 d2 d3 d4 d5 zX hX5 I5 HF5 hb5 i5 hW5
    obtain ⟨d0, d1, d2, d3, d4, d5⟩ := hx5.six
    go_wp2_with fail
    refine (hWR.out _ a5 c5 J5.out (Ints.nil _ _ _)).mono ?_
    rintro e w6 ⟨rfl, hb6⟩
    have hx6 := hx5.below hb6
    have hr6 := hr5.below hb6
    have HB6 := hid (below_on HB5.out hb6)
    have J6 := hid (J5.out.below hb6)
    have hXl6 := hx6.lt
    have nXR : ¬ X = w.heap.size := hXR
    have nRX : ¬ w.heap.size = X := fun e => hXR e.symm
    have NR1 : Hid (∀ k : Addr, a5 = some k → k.block ≠ w.heap.size) := fun k hk => by have := NR5.out k hk; omega
    have NN1 : Hid (New8 w a5) := fun k hk => by have := NR5.out k hk; omega
    clear d0 d1 d2 d3 d4 d5 hx5 hr5 HB5 J5 hb6 hWR NR5
    obtain ⟨d0, d1, d2, d3, d4, d5⟩ := hx6.six
    obtain ⟨r0, r1, r2, r3, r4, r5⟩ := hr6.six
    have zR := hr6.free
    by_cases hq0 : q = 0
    · subst hq0
      have hD' : Hid (decL b = .ok ⟨65535, F, false, xe, v, ([] : List Int), 4 + N⟩) := hD.out
      clear hD
      go_wp2_with fail
      refine A4.out _ _ ?_
      go_wp2_with fail
      refine A3.out _ _ ?_
      clear A3 A4
      go_wp2_with fail
      clear d0 d1 d2 d3 d4 d5 r0 r1 r2 r3 r4 r5
      have hkk := hr6.pre6 (.int .i64 65535) (.int .i64 F) (.bool false) (.int .u64 xe) (.slice a5 v.length c5) (.slice none 0 0)
      obtain ⟨k0, k1, k2, k3, k4, k5⟩ := hkk
      refine bodyPost_ret (v := .tuple #[.agg #[.int .i64 65535, .int .i64 F, .bool false, .int .u64 xe, .slice a5 v.length c5, .slice none 0 0], .int .i64 (4 + (N : Int)), .int .i64 0]) ?_ rfl (Or.inr ⟨⟨65535, F, false, xe, v, ([] : List Int), 4 + N⟩, a5, c5, none, 0, hD'.out, rfl, ?_, ?_, ?_, ?_, NN1.out, fun q e => by cases e⟩)
      · simp only [results, Tryz.results105]
        simp [go_sem, k0, k1, k2, k3, k4, k5]
      · repeat (with_reducible refine Below.setCell ?_ (by simp) _)
        exact HB6.out
      · repeat (refine Ints.apart ?_ _ NR1.out)
        exact J6.out
      · exact Ints.nil _ _ _
      · exact Nat.le_refl _
    · have hD' : Hid (decL b = .error q) := by show _ = _; rw [hD.out, if_neg hq0]
      have HQ := hid hq0
      have gq : (q != 0) = true := by simpa using hq0
      clear hD hq0
      go_wp2_with fail
      refine A4.out _ _ ?_
      go_wp2_with fail
      clear A3 A4 d0 d1 d2 d3 d4 d5 r0 r1 r2 r3 r4 r5
      have hkk := hr6.pre6 (.int .i64 0) (.int .i64 0) (.bool false) (.int .u64 0) (.slice none 0 0) (.slice none 0 0)
      obtain ⟨k0, k1, k2, k3, k4, k5⟩ := hkk
      refine bodyPost_ret (v := .tuple #[.agg #[.int .i64 0, .int .i64 0, .bool false, .int .u64 0, .slice none 0 0, .slice none 0 0], .int .i64 0, .int .i64 q]) ?_ rfl ?_
      · simp only [results, Tryz.results105]
        simp [go_sem, k0, k1, k2, k3, k4, k5]
      · refine Or.inl ⟨q, hD'.out, HQ.out, rfl, ?_⟩
        repeat (with_reducible refine Below.setCell ?_ (by simp) _)
        exact HB6.out
end Go.Proofs.YtdjlbejhphbcoaaGreat
namespace Go.Proofs.YtdjlbejhphbcoaaGreat
open Go.RowKit
set_option linter.unusedVariables false

set_option maxRecDepth 100000 in
set_option maxHeartbeats 8000000 in
theorem refDecode8_extra2 (b : List Int) (B off c : Nat) (hb : 4 ≤ b.length) (hbc : b.length ≤ c) (hc : c ≤ 9223372036854775807) (ob : Octets b) (w : World) (ib : Ints .u8 w (some ⟨B, off, none⟩) b) (hl : b.length ≤ 2000) {F : Int} {N : Nat} (hC : cls8 b = 65535) (hF : fld8 b / 2 = F) (hH : oddB (fld8 b) = true) (hL : len8 b = N) {M S : Nat} (hM : N = M + 4) (hMS : M = 2 * S) (hmx : S ≤ 100) (hs : ¬ (b.length : Int) < 4 + N) (hc8 : 8 < c) :
    Calls Tryz.prog 105 #[.slice (some ⟨B, off, none⟩) b.length c] w (DecPost (decL b) w) := by
  obtain ⟨W, hW, hbW, hR⟩ := zero_box8 w
  have HW := hid hW
  have HB := hid hbW
  have ibW := ib.below hbW
  have hc2 := num_two ob
  have hx2 := num_byte (ob.drop 2)
  have hx3 := num_byte ((ob.drop 2).drop 1)
  have hC' : numL (b.take 2) = 65535 := hC
  rw [hC'] at hc2
  obtain ⟨x2, hx2'⟩ : ∃ x, fld8 b = x := ⟨_, rfl⟩
  have hx2e : numL ((b.drop 2).take 1) = x2 := hx2'
  have hLe : numL (((b.drop 2).drop 1).take 1) = N := hL
  rw [hx2e] at hx2
  rw [hLe] at hx3
  have hHb := hid hH
  have hFb := hid hF
  rw [hx2'] at hF hH
  obtain ⟨c20, c21⟩ := hc2
  obtain ⟨x20, x21⟩ := hx2
  obtain ⟨L0, L1⟩ := hx3
  obtain ⟨q0, q1, q2, q3, qr, hy⟩ := four_cons hb
  have hy2 : q2 = x2 := by rw [← hx2', hy]; exact (fld8_cons ..).symm
  have hy3 : q3 = N := by rw [← hL, hy]; exact (len8_cons ..).symm
  have cl2 : ∀ n : Wk W, n.val.cell? ⟨B, off + 2, none⟩ = some (.int .u8 x2) := by
    obtain ⟨b', o', x, he, hcell, hx⟩ := ibW.at (i := 2) (by omega)
    obtain ⟨rfl, rfl⟩ : B = b' ∧ off = o' := by simpa using he
    have hx0 : b[2]? = some x := hx
    rw [hy] at hx0
    obtain rfl : q2 = x := by simpa using hx0
    rw [← hy2]
    exact Wk.cell hcell
  have cl3 : ∀ n : Wk W, n.val.cell? ⟨B, off + 3, none⟩ = some (.int .u8 N) := by
    obtain ⟨b', o', x, he, hcell, hx⟩ := ibW.at (i := 3) (by omega)
    obtain ⟨rfl, rfl⟩ : B = b' ∧ off = o' := by simpa using he
    have hx0 : b[3]? = some x := hx
    rw [hy] at hx0
    obtain rfl : q3 = x := by simpa using hx0
    rw [← hy3]
    exact Wk.cell hcell
  have V2 := fun (w' : World) (hb' : Below W.heap.size W w') => value_any (b.take 2) (some ⟨B, off, none⟩) c w' (by rw [List.length_take]; omega) (ob.take 2) ((ibW.below hb').take 2)
  rw [List.length_take, Nat.min_eq_left (by omega : 2 ≤ b.length), hC'] at V2
  have V2 := hid V2
  have CL2 := hid cl2
  have CL3 := hid cl3
  have IBW := hid ibW
  have i4 : ¬ (b.length : Int) < 4 := by omega
  have i2c : (2 : Int) ≤ (c : Int) := by omega
  have ibl : (b.length : Int) ≤ (c : Int) := by omega
  have i3l : (3 : Int) < (b.length : Int) := by omega
  have i2l : (2 : Int) < (b.length : Int) := by omega
  have i6 : (b.length : Int) ≤ 2000 := by omega
  have c2D := cl2 ⟨W.drew, below_drew8 W⟩
  have hBlt : B < W.heap.size := World.block_lt_of_cell? W _ (cl2 ⟨W, Below.refl _ _⟩)
  have hBne : ¬ B = W.heap.size := by omega
  have hBw : B < w.heap.size := by
    obtain ⟨b', o', he, hcell⟩ := ib 0 (by omega)
    obtain ⟨rfl, rfl⟩ : B = b' ∧ off = o' := by simpa using he
    exact World.block_lt_of_cell? w _ hcell
  have hRlt := hR.lt
  obtain ⟨Wz, hWz, hbz, hz⟩ := zero_box8 W
  subst hWz
  obtain ⟨z0, z1, z2, z3, z4, z5⟩ := hz.six
  obtain ⟨y0, y1, y2, y3, y4, y5⟩ := hz.drew.six
  have zz := hz.free
  have yz := hz.drew.free
  have HK : Hid (∀ w', Below W.heap.size W w' → w'.cell? ⟨B, off + 2, none⟩ = some (.int .u8 x2)) := fun w' hb' => cl2 ⟨w', hb'⟩
  have E1 : Hid (IntKind.i64.wrap 65535 = 65535) := by show _ = _; decide
  have E2 : Hid (IntKind.i64.wrap ((IntKind.i64.wrap x2).tdiv 2) = F) := by
    show _ = _
    have e : IntKind.i64.wrap x2 = x2 := by simp [IntKind.wrap, IntKind.bits, IntKind.signed]; omega
    rw [e, Int.tdiv_eq_ediv_of_nonneg x20, hF]
    simp [IntKind.wrap, IntKind.bits, IntKind.signed]; omega
  have E3 : Hid ((x2.tmod 2 == 1) = true) := by
    show _ = _
    rw [Int.tmod_eq_emod_of_nonneg x20]
    exact hH
  have HO := fun W => refOf_any F W
  obtain ⟨f, hf⟩ : ∃ f, fld F = f := ⟨_, rfl⟩
  obtain ⟨t, ht⟩ : ∃ t, decide (0 ≤ F ∧ F < 40) = t := ⟨_, rfl⟩
  rw [hf, ht] at HO
  unfold refFldV at HO
  have HO := hid HO
  obtain ⟨v, hv⟩ : ∃ v, (b.drop 8).take S = v := ⟨_, rfl⟩
  obtain ⟨m, hmm⟩ : ∃ m, (b.drop (8 + S)).take S = m := ⟨_, rfl⟩
  obtain ⟨x4, hx4⟩ : ∃ x4, (b.drop 4).take 4 = x4 := ⟨_, rfl⟩
  obtain ⟨xe, hxe⟩ : ∃ xe, numL x4 = xe := ⟨_, rfl⟩
  have hN4 : (N : Int) = ((M + 4 : Nat) : Int) := by rw [hM]
  have hat := at_extra hC (hL.trans hN4)
  have hval := val_two hat.2.1 hat.2.2 hMS hHb.out
  have hex : exp8 b = xe := by rw [hat.1, hx4, hxe]
  have hD := hid (dec_body8 hb (by rw [hC, hHb.out, hFb.out, hL, headE, if_neg (by decide), if_pos rfl, if_neg (by simp only [pieces8, if_true]; omega)]) hs hC hFb.out hHb.out hL hex (hval.1.trans hv) (hval.2.trans hmm))
  have hMN : m.length = S := by rw [← hmm, List.length_take, List.length_drop]; omega
  have hVN : v.length = S := by rw [← hv, List.length_take, List.length_drop]; omega
  have hWR := fun W a5 c5 a7 c7 => refWrong_extra F true xe a5 c5 a7 c7 v m (fun _ => by omega) (by omega) (hv ▸ (ob.drop 8).take S) (hmm ▸ (ob.drop (8 + S)).take S) W
  obtain ⟨q, hq⟩ : ∃ q, bytesE 65535 F true v m = q := ⟨_, rfl⟩
  rw [hq] at hD hWR
  have hWR := hid hWR
  have HXO : Hid (Octets x4) := hx4 ▸ (ob.drop 4).take 4
  have HXN : Hid (x4.length = 4) := by show _ = _; rw [← hx4, List.length_take, List.length_drop]; omega
  have HX4 := hid hx4
  have HXE := hid hxe
  have h4 : ¬ (N : Int) < 4 := by omega
  have hev : ((N : Int) - 4) % 2 = 0 := by omega
  have h5 : ¬ (200 : Int) < (N : Int) - 4 := by omega
  have g6 : (((N : Int) - 4).tmod 2 != 0) = false := by
    rw [Int.tmod_eq_emod_of_nonneg (by omega)]
    have hev : ((N : Int) - 4) % 2 = 0 := by omega
    simpa using hev
  have I44 : Hid (¬ c = 4) := by show ¬ _; omega
  have I8c : Hid ((8 : Int) ≤ (c : Int)) := by show _ ≤ _; omega
  have I4c : Hid (¬ c = 8) := by show ¬ _; omega
  have I4d : Hid (¬ c = 8 + S) := by show ¬ _; omega
  have I5a : Hid ((8 : Int) ≤ 8 + (S : Int)) := by show _ ≤ _; omega
  have I5c : Hid ((8 : Int) + (S : Int) ≤ (c : Int)) := by show _ ≤ _; omega
  have I6a : Hid ((8 : Int) + (S : Int) ≤ 4 + (N : Int)) := by show _ ≤ _; omega
  have I6c : Hid ((4 : Int) + (N : Int) ≤ (c : Int)) := by show _ ≤ _; omega
  have HVN := hid hVN
  have HVE := hid hv
  have HME := hid hmm
  have HMN := hid hMN
  have E4 : Hid (((4 : Int) + N - 8) / 2 = S) := by show _ = _; omega
  have HNL : Hid (S ≤ 2000) := by show _ ≤ _; omega
  have HNS : Hid (N = 2 * S + 4) := by show _ = _; omega
  clear hv hmm hMN hVN hx4 hxe hN4 hM hMS hat hval hex ob hq hHb hFb hc8
  clear hf ht
  clear hW hbW ib ibW hC hC' hx2' hx2e hLe hL hy hy2 hy3 hF hH cl2 cl3 hbz
  go_enter Tryz.func105, Tryz.ntmps105
  go_wp2_with fail
  rw [HW.out]
  go_upto_region 3 with fail
  go_cut [5] (fun t5 wx => ∃ X, t5 = .pointer (some ⟨X, 0, none⟩) ∧ BoxL wx X [.int .i64 65535, .int .i64 F, .bool true, .int .u64 0, .slice none 0 0, .slice none 0 0] ∧ Below W.heap.size W wx ∧ W.heap.size ≤ X)
  case first =>
    go_region_held3 (fun w' => w'.cell? ⟨B, off + 2, none⟩ = some (.int .u8 x2)) (first | exact HK.out _ (below_alloc _ _).drew | exact HK.out _ (below_alloc _ _) | exact HK.out _ (below_drew8 _) | go_keep) (first | (go_at_call 103; refine (V2.out _ ?_).mono ?_; (first | exact below_drew8 W | exact (below_alloc W _).drew | exact below_alloc W _ | fail); rintro e w' ⟨rfl, rfl⟩) | fail)
    all_goals
      try rw [E1.out]
      rw [E2.out, E3.out]
      go_wp2_with fail
      go_meet
      exact ⟨W.heap.size, rfl, (BoxL.new W _ _).drew, (below_alloc _ _).drew, Nat.le_refl _⟩
  case rest =>
    obtain ⟨X, rfl, hX, hbx, hWX⟩ := hcut
    have hRx := hR.below hbx
    have cl3 := CL3.out ⟨_, hbx⟩
    have hXlt := hX.lt
    have hXR : X ≠ w.heap.size := by omega
    have HBx := hid (below_on HB.out hbx)
    have HBX1 := hid hbx
    obtain ⟨d0, d1, d2, d3, d4, d5⟩ := hX.six
    clear z0 z1 z2 z3 z4 z5 y0 y1 y2 y3 y4 y5 zz yz hz c2D HK CL2 V2
    go_wp2_with fail
    refine (HO.out _).mono ?_
    rintro e w1 ⟨v', rfl, ⟨a', c', rfl, hI⟩, hb1⟩
    clear hI d0 d1 d2 d3 d4 d5
    have hX1 := hX.below hb1
    have hR1 := hRx.below hb1
    have hXl1 := hX1.lt
    have hRl1 := hR1.lt
    have n2 : ¬ X = w1.heap.size := by omega
    have n3 : ¬ w.heap.size = w1.heap.size := by omega
    have HB1 := hid (below_on HBx.out hb1)
    have hb1' := hid hb1
    clear hX hRx hb1 cl3
    obtain ⟨d0, d1, d2, d3, d4, d5⟩ := hX1.six
    obtain ⟨r0, r1, r2, r3, r4, r5⟩ := hR1.six
    have zR := hR1.free
    obtain ⟨W1, hW1, hbW1, hY⟩ := refFld_box3 w1 f f.m (.slice a' f.v.length c')
    have HW1 := hid hW1
    have hX2 := hX1.below hbW1
    have hR2 := hR1.below hbW1
    have HB2 := hid (below_on HB1.out hbW1)
    have IB1 := hid (((IBW.out.below HBX1.out).below hb1'.out).below hbW1)
    clear hW1 hbW1 hY
    go_upto_region 18 with fail
    go_upto_region 20 with fail
    go_upto_region 22 with fail
    rename_i K1 a1 K2 a2
    have A1 := hid a1
    have A2 := hid a2
    clear a1 a2 HO CL3 IBW
    rw [HW1.out]
    clear d0 d1 d2 d3 d4 d5 r0 r1 r2 r3 r4 r5 zR
    obtain ⟨d0, d1, d2, d3, d4, d5⟩ := hX2.six
    have zX := hX2.free
    have hv4 := (IB1.out.drop (j := 4) hbc).take 4
    rw [HX4.out, if_neg I44.out] at hv4
    have V4 := value_any x4 (some ⟨B, off + 4, none⟩) (c - 4) W1 (by have := HXN.out; omega) HXO.out hv4
    rw [HXN.out, HXE.out] at V4
    have V4 := hid V4
    clear hv4
    have i44 := I44.out
    have i8c := I8c.out
    go_upto_region 24 with fail
    refine A2.out _ _ ?_
    go_wp2_with fail
    refine V4.out.mono ?_
    rintro e w9 ⟨rfl, rfl⟩
    go_upto_region 24 with fail
    refine A1.out _ _ ?_
    clear A1 A2 V4 i44 i8c
    have hx3 : BoxL _ X [.int .i64 65535, .int .i64 F, .bool true, .int .u64 xe, .slice none 0 0, .slice none 0 0] := hX2.set 3 (.int .u64 xe) (by simp)
    have hr3 := hR2.far (c := X) (i := 3) (.int .u64 xe) hXR
    have hb3 : Below w.heap.size w (W1.setCell ⟨X, 3, none⟩ (.int .u64 xe)) := HB2.out.setCell (show w.heap.size ≤ X by omega) _
    have ib3 := IB1.out.apart (X := X) (i := 3) (.int .u64 xe) (fun k hk => by cases hk; show B ≠ X; omega)
    obtain ⟨W2, hW2⟩ : ∃ W2, W1.setCell ⟨X, 3, none⟩ (.int .u64 xe) = W2 := ⟨_, rfl⟩
    rw [hW2] at hx3 hr3 hb3 ib3
    clear HW1 hX2 hR2 HB2 IB1 d0 d1 d2 d3 d4 d5 zX
    have hX2 := hx3
    have hR2 := hr3
    have HB2 := hid hb3
    have IB1 := hid ib3
    rw [hW2]
    clear hx3 hr3 hb3 ib3 hW2
    obtain ⟨d0, d1, d2, d3, d4, d5⟩ := hX2.six
    have zX := hX2.free
    go_upto_region 25 with fail
    rw [E4.out]
    have hvi := (IB1.out.drop (j := 8) hbc).take S
    rw [HVE.out, if_neg I4c.out] at hvi
    have HVI := hid hvi
    clear hvi
    have i4c := I4c.out
    have i5a := I5a.out
    have i5c := I5c.out
    go_upto_region 27 with (at_builtin; (first
      | (refine wp_app_ints rfl (.tmp 121) (.tmp 127) rfl elemU8 rfl (own_emptyI _ _ .u8) rfl (by have := HVN.out; omega) (HVI.out.below (below_alloc _ _)) (List.nil_append v) ?_ ?_ ?_; (rw [HVN.out]; have := HNL.out; omega); (rw [HVN.out]; have := HNL.out; omega); intro a5 c5 w5 hl5 hc5 hI5 hg5; have hF5 := hg5.first; have hX5 := hX2.below hF5.bel; have hXl5 := hX5.lt; clear d0 d1 d2 d3 d4 d5 zX; obtain ⟨d0, d1, d2, d3, d4, d5⟩ := hX5.six; have zX := hX5.free; have HF5 := hid hF5; have I5 := hid hI5; clear hF5 hg5 hI5)
      | fail))
    rename_i K3 a3
    have A3 := hid a3
    clear a3
    have hXl2 := hX2.lt
    have hx5 : BoxL _ X [.int .i64 65535, .int .i64 F, .bool true, .int .u64 xe, .slice a5 v.length c5, .slice none 0 0] := hX5.set 4 (.slice a5 v.length c5) (by simp)
    have hr5 := (hR2.below HF5.out.bel).far (c := X) (i := 4) (.slice a5 v.length c5) hXR
    have hb5 : Below w.heap.size w (w5.setCell ⟨X, 4, none⟩ (.slice a5 v.length c5)) := (below_on HB2.out HF5.out.bel).setCell (show w.heap.size ≤ X by omega) _
    have i5 := I5.out.apart (X := X) (i := 4) (.slice a5 v.length c5) (fun k hk => by have := fresh_new8 HF5.out k hk; omega)
    have m5 := (IB1.out.below HF5.out.bel).apart (X := X) (i := 4) (.slice a5 v.length c5) (fun k hk => by cases hk; show B ≠ X; omega)
    obtain ⟨W5, hW5⟩ : ∃ W5, w5.setCell ⟨X, 4, none⟩ (.slice a5 v.length c5) = W5 := ⟨_, rfl⟩
    rw [hW5] at hx5 hr5 hb5 i5 m5
    have HB5 := hid hb5
    have J5 := hid i5
    have NR5 : Hid (New8 W2 a5) := fresh_new8 HF5.out
    have hvi := (m5.drop (j := 8 + S) hbc).take S
    rw [HME.out, if_neg I4d.out] at hvi
    have HMI := hid hvi
    rw [hW5]
    clear d0 d1 d2 d3 d4 d5 zX hX5 I5 HF5 hb5 i5 hW5 m5 hvi i4c i5a i5c
    obtain ⟨d0, d1, d2, d3, d4, d5⟩ := hx5.six
    have zX := hx5.free
    have i4d := I4d.out
    have i6a := I6a.out
    have i6c := I6c.out
    have hXl5 := hx5.lt
    go_upto_region 28 with (at_builtin; (first
      | (refine wp_app_ints rfl (.tmp 132) (.tmp 139) rfl elemU8 rfl (own_emptyI _ _ .u8) rfl (by have := HMN.out; have := HNS.out; omega) (HMI.out.below (below_alloc _ _)) (List.nil_append m) ?_ ?_ ?_; (rw [HMN.out]; have := HNL.out; omega); (rw [HMN.out]; have := HNL.out; omega); intro a7 c7 w7 hl7 hc7 hI7 hg7; have hF7 := hg7.first; have hX7 := hx5.below hF7.bel; have hXl7 := hX7.lt; clear d0 d1 d2 d3 d4 d5 zX; obtain ⟨d0, d1, d2, d3, d4, d5⟩ := hX7.six; have zX := hX7.free; have HF7 := hid hF7; have I7 := hid hI7; have HC2 := hid hl7; clear hF7 hg7 hI7 hl7)
      | fail))
    refine A3.out _ _ ?_
    clear A3 i4d i6a i6c
    have hx7 : BoxL _ X [.int .i64 65535, .int .i64 F, .bool true, .int .u64 xe, .slice a5 v.length c5, .slice a7 m.length c7] := hX7.set 5 (.slice a7 m.length c7) (by simp)
    have hr7 := (hr5.below HF7.out.bel).far (c := X) (i := 5) (.slice a7 m.length c7) hXR
    have hb7 : Below w.heap.size w (w7.setCell ⟨X, 5, none⟩ (.slice a7 m.length c7)) := (below_on HB5.out HF7.out.bel).setCell (show w.heap.size ≤ X by omega) _
    have i7 := (J5.out.below HF7.out.bel).apart (X := X) (i := 5) (.slice a7 m.length c7) (fun k hk => by have := NR5.out k hk; omega)
    have m7 := I7.out.apart (X := X) (i := 5) (.slice a7 m.length c7) (fun k hk => by have := fresh_new8 HF7.out k hk; omega)
    obtain ⟨W7, hW7⟩ : ∃ W7, w7.setCell ⟨X, 5, none⟩ (.slice a7 m.length c7) = W7 := ⟨_, rfl⟩
    rw [hW7] at hx7 hr7 hb7 i7 m7
    have HB7 := hid hb7
    have J7 := hid i7
    have M5 := hid m7
    have NR7 : Hid (New8 W5 a7) := fresh_new8 HF7.out
    rw [hW7]
    clear d0 d1 d2 d3 d4 d5 zX hX7 I7 HF7 hb7 i7 hW7 m7 HB5 J5 hr5
    obtain ⟨d0, d1, d2, d3, d4, d5⟩ := hx7.six
    go_upto_region 28 with fail
    rename_i K3 a3 K4 a4
    have A3 := hid a3
    have A4 := hid a4
    clear a3 a4
    go_wp2_with fail
    refine (hWR.out _ a5 c5 a7 c7 J7.out M5.out).mono ?_
    rintro e w6 ⟨rfl, hb6⟩
    have hx6 := hx7.below hb6
    have hr6 := hr7.below hb6
    have HB6 := hid (below_on HB7.out hb6)
    have J6 := hid (J7.out.below hb6)
    have M6 := hid (M5.out.below hb6)
    have hXl6 := hx6.lt
    have nXR : ¬ X = w.heap.size := hXR
    have nRX : ¬ w.heap.size = X := fun e => hXR e.symm
    have NR1 : Hid (∀ k : Addr, a5 = some k → k.block ≠ w.heap.size) := fun k hk => by have := NR5.out k hk; omega
    have NN1 : Hid (New8 w a5) := fun k hk => by have := NR5.out k hk; omega
    have NR2 : Hid (∀ k : Addr, a7 = some k → k.block ≠ w.heap.size) := fun k hk => by have := NR7.out k hk; omega
    have NN2 : Hid (New8 w a7) := fun k hk => by have := NR7.out k hk; omega
    clear d0 d1 d2 d3 d4 d5 hx7 hr7 HB7 J7 hb6 hWR NR5
    obtain ⟨d0, d1, d2, d3, d4, d5⟩ := hx6.six
    obtain ⟨r0, r1, r2, r3, r4, r5⟩ := hr6.six
    have zR := hr6.free
    by_cases hq0 : q = 0
    · subst hq0
      have hD' : Hid (decL b = .ok ⟨65535, F, true, xe, v, m, 4 + N⟩) := hD.out
      clear hD
      go_wp2_with fail
      refine A4.out _ _ ?_
      go_wp2_with fail
      refine A3.out _ _ ?_
      clear A3 A4
      go_wp2_with fail
      clear d0 d1 d2 d3 d4 d5 r0 r1 r2 r3 r4 r5
      have hkk := hr6.pre6 (.int .i64 65535) (.int .i64 F) (.bool true) (.int .u64 xe) (.slice a5 v.length c5) (.slice a7 m.length c7)
      obtain ⟨k0, k1, k2, k3, k4, k5⟩ := hkk
      refine bodyPost_ret (v := .tuple #[.agg #[.int .i64 65535, .int .i64 F, .bool true, .int .u64 xe, .slice a5 v.length c5, .slice a7 m.length c7], .int .i64 (4 + (N : Int)), .int .i64 0]) ?_ rfl (Or.inr ⟨⟨65535, F, true, xe, v, m, 4 + N⟩, a5, c5, a7, c7, hD'.out, rfl, ?_, ?_, ?_, ?_, NN1.out, NN2.out⟩)
      · simp only [results, Tryz.results105]
        simp [go_sem, k0, k1, k2, k3, k4, k5]
      · repeat (with_reducible refine Below.setCell ?_ (by simp) _)
        exact HB6.out
      · repeat (refine Ints.apart ?_ _ NR1.out)
        exact J6.out
      · repeat (refine Ints.apart ?_ _ NR2.out)
        exact M6.out
      · exact HC2.out
    · have hD' : Hid (decL b = .error q) := by show _ = _; rw [hD.out, if_neg hq0]
      have HQ := hid hq0
      have gq : (q != 0) = true := by simpa using hq0
      clear hD hq0
      go_wp2_with fail
      refine A4.out _ _ ?_
      go_wp2_with fail
      clear A3 A4 d0 d1 d2 d3 d4 d5 r0 r1 r2 r3 r4 r5
      have hkk := hr6.pre6 (.int .i64 0) (.int .i64 0) (.bool false) (.int .u64 0) (.slice none 0 0) (.slice none 0 0)
      obtain ⟨k0, k1, k2, k3, k4, k5⟩ := hkk
      refine bodyPost_ret (v := .tuple #[.agg #[.int .i64 0, .int .i64 0, .bool false, .int .u64 0, .slice none 0 0, .slice none 0 0], .int .i64 0, .int .i64 q]) ?_ rfl ?_
      · simp only [results, Tryz.results105]
        simp [go_sem, k0, k1, k2, k3, k4, k5]
      · refine Or.inl ⟨q, hD'.out, HQ.out, rfl, ?_⟩
        repeat (with_reducible refine Below.setCell ?_ (by simp) _)
        exact HB6.out
end Go.Proofs.YtdjlbejhphbcoaaGreat
namespace Go.Proofs.YtdjlbejhphbcoaaGreat
open Go.RowKit
set_option linter.unusedVariables false

set_option maxRecDepth 100000 in
set_option maxHeartbeats 8000000 in
theorem refDecode8_extra1z (b : List Int) (B off c : Nat) (hb : 4 ≤ b.length) (hbc : b.length ≤ c) (hc : c ≤ 9223372036854775807) (ob : Octets b) (w : World) (ib : Ints .u8 w (some ⟨B, off, none⟩) b) (hl : b.length ≤ 2000) {F : Int} {N : Nat} (hC : cls8 b = 65535) (hF : fld8 b / 2 = F) (hH : oddB (fld8 b) = false) (hL : len8 b = N) (hM : N = 4) (hs : ¬ (b.length : Int) < 4 + N) (hc8 : c = 8) :
    Calls Tryz.prog 105 #[.slice (some ⟨B, off, none⟩) b.length c] w (DecPost (decL b) w) := by
  obtain ⟨W, hW, hbW, hR⟩ := zero_box8 w
  have HW := hid hW
  have HB := hid hbW
  have ibW := ib.below hbW
  have hc2 := num_two ob
  have hx2 := num_byte (ob.drop 2)
  have hx3 := num_byte ((ob.drop 2).drop 1)
  have hC' : numL (b.take 2) = 65535 := hC
  rw [hC'] at hc2
  obtain ⟨x2, hx2'⟩ : ∃ x, fld8 b = x := ⟨_, rfl⟩
  have hx2e : numL ((b.drop 2).take 1) = x2 := hx2'
  have hLe : numL (((b.drop 2).drop 1).take 1) = N := hL
  rw [hx2e] at hx2
  rw [hLe] at hx3
  have hHb := hid hH
  have hFb := hid hF
  rw [hx2'] at hF hH
  obtain ⟨c20, c21⟩ := hc2
  obtain ⟨x20, x21⟩ := hx2
  obtain ⟨L0, L1⟩ := hx3
  obtain ⟨q0, q1, q2, q3, qr, hy⟩ := four_cons hb
  have hy2 : q2 = x2 := by rw [← hx2', hy]; exact (fld8_cons ..).symm
  have hy3 : q3 = N := by rw [← hL, hy]; exact (len8_cons ..).symm
  have cl2 : ∀ n : Wk W, n.val.cell? ⟨B, off + 2, none⟩ = some (.int .u8 x2) := by
    obtain ⟨b', o', x, he, hcell, hx⟩ := ibW.at (i := 2) (by omega)
    obtain ⟨rfl, rfl⟩ : B = b' ∧ off = o' := by simpa using he
    have hx0 : b[2]? = some x := hx
    rw [hy] at hx0
    obtain rfl : q2 = x := by simpa using hx0
    rw [← hy2]
    exact Wk.cell hcell
  have cl3 : ∀ n : Wk W, n.val.cell? ⟨B, off + 3, none⟩ = some (.int .u8 N) := by
    obtain ⟨b', o', x, he, hcell, hx⟩ := ibW.at (i := 3) (by omega)
    obtain ⟨rfl, rfl⟩ : B = b' ∧ off = o' := by simpa using he
    have hx0 : b[3]? = some x := hx
    rw [hy] at hx0
    obtain rfl : q3 = x := by simpa using hx0
    rw [← hy3]
    exact Wk.cell hcell
  have V2 := fun (w' : World) (hb' : Below W.heap.size W w') => value_any (b.take 2) (some ⟨B, off, none⟩) c w' (by rw [List.length_take]; omega) (ob.take 2) ((ibW.below hb').take 2)
  rw [List.length_take, Nat.min_eq_left (by omega : 2 ≤ b.length), hC'] at V2
  have V2 := hid V2
  have CL2 := hid cl2
  have CL3 := hid cl3
  have IBW := hid ibW
  have i4 : ¬ (b.length : Int) < 4 := by omega
  have i2c : (2 : Int) ≤ (c : Int) := by omega
  have ibl : (b.length : Int) ≤ (c : Int) := by omega
  have i3l : (3 : Int) < (b.length : Int) := by omega
  have i2l : (2 : Int) < (b.length : Int) := by omega
  have i6 : (b.length : Int) ≤ 2000 := by omega
  have c2D := cl2 ⟨W.drew, below_drew8 W⟩
  have hBlt : B < W.heap.size := World.block_lt_of_cell? W _ (cl2 ⟨W, Below.refl _ _⟩)
  have hBne : ¬ B = W.heap.size := by omega
  have hBw : B < w.heap.size := by
    obtain ⟨b', o', he, hcell⟩ := ib 0 (by omega)
    obtain ⟨rfl, rfl⟩ : B = b' ∧ off = o' := by simpa using he
    exact World.block_lt_of_cell? w _ hcell
  have hRlt := hR.lt
  obtain ⟨Wz, hWz, hbz, hz⟩ := zero_box8 W
  subst hWz
  obtain ⟨z0, z1, z2, z3, z4, z5⟩ := hz.six
  obtain ⟨y0, y1, y2, y3, y4, y5⟩ := hz.drew.six
  have zz := hz.free
  have yz := hz.drew.free
  have HK : Hid (∀ w', Below W.heap.size W w' → w'.cell? ⟨B, off + 2, none⟩ = some (.int .u8 x2)) := fun w' hb' => cl2 ⟨w', hb'⟩
  have E1 : Hid (IntKind.i64.wrap 65535 = 65535) := by show _ = _; decide
  have E2 : Hid (IntKind.i64.wrap ((IntKind.i64.wrap x2).tdiv 2) = F) := by
    show _ = _
    have e : IntKind.i64.wrap x2 = x2 := by simp [IntKind.wrap, IntKind.bits, IntKind.signed]; omega
    rw [e, Int.tdiv_eq_ediv_of_nonneg x20, hF]
    simp [IntKind.wrap, IntKind.bits, IntKind.signed]; omega
  have E3 : Hid ((x2.tmod 2 == 1) = false) := by
    show _ = _
    rw [Int.tmod_eq_emod_of_nonneg x20]
    exact hH
  have HO := fun W => refOf_any F W
  obtain ⟨f, hf⟩ : ∃ f, fld F = f := ⟨_, rfl⟩
  obtain ⟨t, ht⟩ : ∃ t, decide (0 ≤ F ∧ F < 40) = t := ⟨_, rfl⟩
  rw [hf, ht] at HO
  unfold refFldV at HO
  have HO := hid HO
  subst hc8
  obtain ⟨v, hv⟩ : ∃ v, (b.drop 8).take 0 = v := ⟨_, rfl⟩
  obtain ⟨x4, hx4⟩ : ∃ x4, (b.drop 4).take 4 = x4 := ⟨_, rfl⟩
  obtain ⟨xe, hxe⟩ : ∃ xe, numL x4 = xe := ⟨_, rfl⟩
  have hN4 : (N : Int) = ((0 + 4 : Nat) : Int) := by rw [hM]
  have hat := at_extra hC (hL.trans hN4)
  have hval := val_one hat.2.1 hat.2.2 hHb.out
  have hex : exp8 b = xe := by rw [hat.1, hx4, hxe]
  have hD := hid (dec_body8 hb (by rw [hC, hHb.out, hFb.out, hL, headE, if_neg (by decide), if_pos rfl, if_neg (by simp only [pieces8, Bool.false_eq_true, if_false]; omega)]) hs hC hFb.out hHb.out hL hex (hval.1.trans hv) hval.2)
  have hWR := fun W a5 c5 => refWrong_extra F false xe a5 c5 none 0 v [] (by simp) (by simp) (hv ▸ (ob.drop 8).take 0) (by intro x hx; simp at hx) W
  obtain ⟨q, hq⟩ : ∃ q, bytesE 65535 F false v [] = q := ⟨_, rfl⟩
  rw [hq] at hD hWR
  have hWR := hid hWR
  have HXO : Hid (Octets x4) := hx4 ▸ (ob.drop 4).take 4
  have HXN : Hid (x4.length = 4) := by show _ = _; rw [← hx4, List.length_take, List.length_drop]; omega
  have HX4 := hid hx4
  have HXE := hid hxe
  have h4 : ¬ (N : Int) < 4 := by omega
  have h5 : ¬ (100 : Int) < (N : Int) - 4 := by omega
  have g6 : (((N : Int) - 4).tmod 1 != 0) = false := by rw [Int.tmod_one]; rfl
  have I44 : Hid (¬ 8 = 4) := by show ¬ _; omega
  have I8c : Hid ((8 : Int) ≤ ((8 : Nat) : Int)) := by show _ ≤ _; omega
  have HVN : Hid (v.length = 0) := by show _ = _; rw [← hv]; simp
  have HVE := hid hv
  have E4 : Hid ((4 : Int) + N - 8 = 0) := by show _ = _; omega
  have HNL : Hid (0 ≤ 2000) := by show _ ≤ _; omega
  clear hv hx4 hxe hN4 hM hat hval hex ob hq hHb hFb
  clear hf ht
  clear hW hbW ib ibW hC hC' hx2' hx2e hLe hL hy hy2 hy3 hF hH cl2 cl3 hbz
  go_enter Tryz.func105, Tryz.ntmps105
  go_wp2_with fail
  rw [HW.out]
  go_upto_region 3 with fail
  go_cut [5] (fun t5 wx => ∃ X, t5 = .pointer (some ⟨X, 0, none⟩) ∧ BoxL wx X [.int .i64 65535, .int .i64 F, .bool false, .int .u64 0, .slice none 0 0, .slice none 0 0] ∧ Below W.heap.size W wx ∧ W.heap.size ≤ X)
  case first =>
    go_region_held3 (fun w' => w'.cell? ⟨B, off + 2, none⟩ = some (.int .u8 x2)) (first | exact HK.out _ (below_alloc _ _).drew | exact HK.out _ (below_alloc _ _) | exact HK.out _ (below_drew8 _) | go_keep) (first | (go_at_call 103; refine (V2.out _ ?_).mono ?_; (first | exact below_drew8 W | exact (below_alloc W _).drew | exact below_alloc W _ | fail); rintro e w' ⟨rfl, rfl⟩) | fail)
    all_goals
      try rw [E1.out]
      rw [E2.out, E3.out]
      go_wp2_with fail
      go_meet
      exact ⟨W.heap.size, rfl, (BoxL.new W _ _).drew, (below_alloc _ _).drew, Nat.le_refl _⟩
  case rest =>
    obtain ⟨X, rfl, hX, hbx, hWX⟩ := hcut
    have hRx := hR.below hbx
    have cl3 := CL3.out ⟨_, hbx⟩
    have hXlt := hX.lt
    have hXR : X ≠ w.heap.size := by omega
    have HBx := hid (below_on HB.out hbx)
    have HBX1 := hid hbx
    obtain ⟨d0, d1, d2, d3, d4, d5⟩ := hX.six
    clear z0 z1 z2 z3 z4 z5 y0 y1 y2 y3 y4 y5 zz yz hz c2D HK CL2 V2
    go_wp2_with fail
    refine (HO.out _).mono ?_
    rintro e w1 ⟨v', rfl, ⟨a', c', rfl, hI⟩, hb1⟩
    clear hI d0 d1 d2 d3 d4 d5
    have hX1 := hX.below hb1
    have hR1 := hRx.below hb1
    have hXl1 := hX1.lt
    have hRl1 := hR1.lt
    have n2 : ¬ X = w1.heap.size := by omega
    have n3 : ¬ w.heap.size = w1.heap.size := by omega
    have HB1 := hid (below_on HBx.out hb1)
    have hb1' := hid hb1
    clear hX hRx hb1 cl3
    obtain ⟨d0, d1, d2, d3, d4, d5⟩ := hX1.six
    obtain ⟨r0, r1, r2, r3, r4, r5⟩ := hR1.six
    have zR := hR1.free
    obtain ⟨W1, hW1, hbW1, hY⟩ := refFld_box3 w1 f f.m (.slice a' f.v.length c')
    have HW1 := hid hW1
    have hX2 := hX1.below hbW1
    have hR2 := hR1.below hbW1
    have HB2 := hid (below_on HB1.out hbW1)
    have IB1 := hid (((IBW.out.below HBX1.out).below hb1'.out).below hbW1)
    clear hW1 hbW1 hY
    go_upto_region 18 with fail
    go_upto_region 20 with fail
    go_upto_region 22 with fail
    rename_i K1 a1 K2 a2
    have A1 := hid a1
    have A2 := hid a2
    clear a1 a2 HO CL3 IBW
    rw [HW1.out]
    clear d0 d1 d2 d3 d4 d5 r0 r1 r2 r3 r4 r5 zR
    obtain ⟨d0, d1, d2, d3, d4, d5⟩ := hX2.six
    have zX := hX2.free
    have hv4 := (IB1.out.drop (j := 4) hbc).take 4
    rw [HX4.out, if_neg I44.out] at hv4
    have V4 := value_any x4 (some ⟨B, off + 4, none⟩) (4) W1 (by have := HXN.out; omega) HXO.out hv4
    rw [HXN.out, HXE.out] at V4
    have V4 := hid V4
    clear hv4
    have i44 := I44.out
    have i8c := I8c.out
    go_upto_region 24 with fail
    refine A2.out _ _ ?_
    go_wp2_with fail
    refine V4.out.mono ?_
    rintro e w9 ⟨rfl, rfl⟩
    go_upto_region 24 with fail
    refine A1.out _ _ ?_
    clear A1 A2 V4 i44 i8c
    have hx3 : BoxL _ X [.int .i64 65535, .int .i64 F, .bool false, .int .u64 xe, .slice none 0 0, .slice none 0 0] := hX2.set 3 (.int .u64 xe) (by simp)
    have hr3 := hR2.far (c := X) (i := 3) (.int .u64 xe) hXR
    have hb3 : Below w.heap.size w (W1.setCell ⟨X, 3, none⟩ (.int .u64 xe)) := HB2.out.setCell (show w.heap.size ≤ X by omega) _
    have ib3 := IB1.out.apart (X := X) (i := 3) (.int .u64 xe) (fun k hk => by cases hk; show B ≠ X; omega)
    obtain ⟨W2, hW2⟩ : ∃ W2, W1.setCell ⟨X, 3, none⟩ (.int .u64 xe) = W2 := ⟨_, rfl⟩
    rw [hW2] at hx3 hr3 hb3 ib3
    clear HW1 hX2 hR2 HB2 IB1 d0 d1 d2 d3 d4 d5 zX
    have hX2 := hx3
    have hR2 := hr3
    have HB2 := hid hb3
    have IB1 := hid ib3
    rw [hW2]
    clear hx3 hr3 hb3 ib3 hW2
    obtain ⟨d0, d1, d2, d3, d4, d5⟩ := hX2.six
    have zX := hX2.free
    go_upto_region 25 with fail
    rw [E4.out]
    have hvi := (IB1.out.drop (j := 8) hbc).take 0
    rw [HVE.out, if_pos rfl] at hvi
    have HVI := hid hvi
    clear hvi
    go_upto_region 28 with (at_builtin; (first
      | (refine wp_app_ints rfl (.tmp 121) (.tmp 127) rfl elemU8 rfl (own_emptyI _ _ .u8) rfl (by have := HVN.out; omega) (HVI.out.below (below_alloc _ _)) (List.nil_append v) ?_ ?_ ?_; (rw [HVN.out]; have := HNL.out; omega); (rw [HVN.out]; have := HNL.out; omega); intro a5 c5 w5 hl5 hc5 hI5 hg5; have hF5 := hg5.first; have hX5 := hX2.below hF5.bel; have hXl5 := hX5.lt; clear d0 d1 d2 d3 d4 d5 zX; obtain ⟨d0, d1, d2, d3, d4, d5⟩ := hX5.six; have zX := hX5.free; have HF5 := hid hF5; have I5 := hid hI5; clear hF5 hg5 hI5)
      | fail))
    rename_i K3 a3 K4 a4
    have A3 := hid a3
    have A4 := hid a4
    clear a3 a4
    have hXl2 := hX2.lt
    have hx5 : BoxL _ X [.int .i64 65535, .int .i64 F, .bool false, .int .u64 xe, .slice a5 v.length c5, .slice none 0 0] := hX5.set 4 (.slice a5 v.length c5) (by simp)
    have hr5 := (hR2.below HF5.out.bel).far (c := X) (i := 4) (.slice a5 v.length c5) hXR
    have hb5 : Below w.heap.size w (w5.setCell ⟨X, 4, none⟩ (.slice a5 v.length c5)) := (below_on HB2.out HF5.out.bel).setCell (show w.heap.size ≤ X by omega) _
    have i5 := I5.out.apart (X := X) (i := 4) (.slice a5 v.length c5) (fun k hk => by have := fresh_new8 HF5.out k hk; omega)
    obtain ⟨W5, hW5⟩ : ∃ W5, w5.setCell ⟨X, 4, none⟩ (.slice a5 v.length c5) = W5 := ⟨_, rfl⟩
    rw [hW5] at hx5 hr5 hb5 i5
    have HB5 := hid hb5
    have J5 := hid i5
    have NR5 : Hid (New8 W2 a5) := fresh_new8 HF5.out
    rw [hW5]
    clear d0 d1 d2 d3 d4 d5 zX hX5 I5 HF5 hb5 i5 hW5
    obtain ⟨d0, d1, d2, d3, d4, d5⟩ := hx5.six
    go_wp2_with fail
    refine (hWR.out _ a5 c5 J5.out (Ints.nil _ _ _)).mono ?_
    rintro e w6 ⟨rfl, hb6⟩
    have hx6 := hx5.below hb6
    have hr6 := hr5.below hb6
    have HB6 := hid (below_on HB5.out hb6)
    have J6 := hid (J5.out.below hb6)
    have hXl6 := hx6.lt
    have nXR : ¬ X = w.heap.size := hXR
    have nRX : ¬ w.heap.size = X := fun e => hXR e.symm
    have NR1 : Hid (∀ k : Addr, a5 = some k → k.block ≠ w.heap.size) := fun k hk => by have := NR5.out k hk; omega
    have NN1 : Hid (New8 w a5) := fun k hk => by have := NR5.out k hk; omega
    clear d0 d1 d2 d3 d4 d5 hx5 hr5 HB5 J5 hb6 hWR NR5
    obtain ⟨d0, d1, d2, d3, d4, d5⟩ := hx6.six
    obtain ⟨r0, r1, r2, r3, r4, r5⟩ := hr6.six
    have zR := hr6.free
    by_cases hq0 : q = 0
    · subst hq0
      have hD' : Hid (decL b = .ok ⟨65535, F, false, xe, v, ([] : List Int), 4 + N⟩) := hD.out
      clear hD
      go_wp2_with fail
      refine A4.out _ _ ?_
      go_wp2_with fail
      refine A3.out _ _ ?_
      clear A3 A4
      go_wp2_with fail
      clear d0 d1 d2 d3 d4 d5 r0 r1 r2 r3 r4 r5
      have hkk := hr6.pre6 (.int .i64 65535) (.int .i64 F) (.bool false) (.int .u64 xe) (.slice a5 v.length c5) (.slice none 0 0)
      obtain ⟨k0, k1, k2, k3, k4, k5⟩ := hkk
      refine bodyPost_ret (v := .tuple #[.agg #[.int .i64 65535, .int .i64 F, .bool false, .int .u64 xe, .slice a5 v.length c5, .slice none 0 0], .int .i64 (4 + (N : Int)), .int .i64 0]) ?_ rfl (Or.inr ⟨⟨65535, F, false, xe, v, ([] : List Int), 4 + N⟩, a5, c5, none, 0, hD'.out, rfl, ?_, ?_, ?_, ?_, NN1.out, fun q e => by cases e⟩)
      · simp only [results, Tryz.results105]
        simp [go_sem, k0, k1, k2, k3, k4, k5]
      · repeat (with_reducible refine Below.setCell ?_ (by simp) _)
        exact HB6.out
      · repeat (refine Ints.apart ?_ _ NR1.out)
        exact J6.out
      · exact Ints.nil _ _ _
      · exact Nat.le_refl _
    · have hD' : Hid (decL b = .error q) := by show _ = _; rw [hD.out, if_neg hq0]
      have HQ := hid hq0
      have gq : (q != 0) = true := by simpa using hq0
      clear hD hq0
      go_wp2_with fail
      refine A4.out _ _ ?_
      go_wp2_with fail
      clear A3 A4 d0 d1 d2 d3 d4 d5 r0 r1 r2 r3 r4 r5
      have hkk := hr6.pre6 (.int .i64 0) (.int .i64 0) (.bool false) (.int .u64 0) (.slice none 0 0) (.slice none 0 0)
      obtain ⟨k0, k1, k2, k3, k4, k5⟩ := hkk
      refine bodyPost_ret (v := .tuple #[.agg #[.int .i64 0, .int .i64 0, .bool false, .int .u64 0, .slice none 0 0, .slice none 0 0], .int .i64 0, .int .i64 q]) ?_ rfl ?_
      · simp only [results, Tryz.results105]
        simp [go_sem, k0, k1, k2, k3, k4, k5]
      · refine Or.inl ⟨q, hD'.out, HQ.out, rfl, ?_⟩
        repeat (with_reducible refine Below.setCell ?_ (by simp) _)
        exact HB6.out
end Go.Proofs.YtdjlbejhphbcoaaGreat
