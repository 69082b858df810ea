/- Package oxm: bytes as a value. -/
import Derived.Test.YtfogpofgmnibcaaOxmQ
import Derived.Test.YtfogpofgmnibcaaOxmM
namespace Go.Proofs.Ytfogpofgmnibcaa
open Go.RowKit
set_option linter.unusedVariables false

theorem cls8_take (b : List Int) : cls8 (b.take 208) = cls8 b := by simp [cls8, List.take_take]
theorem fld8_take (b : List Int) : fld8 (b.take 208) = fld8 b := by simp [fld8, List.drop_take, List.take_take]
theorem len8_take (b : List Int) : len8 (b.take 208) = len8 b := by simp [len8, List.drop_take, List.take_take]
theorem rest8_take (b : List Int) : rest8 (b.take 208) = (rest8 b).take 204 := by simp [rest8, List.drop_take]
theorem fits_dims {F : Int} (h : 0 ≤ F ∧ F < 40) : (fld F).z ≤ 16 := (fld_dims h).2.2.2
theorem rawL_take (b : List Int) : rawL (b.take 208) = rawL b := by
  unfold rawL
  rw [cls8_take, fld8_take, len8_take, rest8_take]
  by_cases h4 : b.length < 4
  · rw [if_pos (by rw [List.length_take]; omega), if_pos h4]
  rw [if_neg (by rw [List.length_take]; omega), if_neg h4]
  by_cases hE : headE (cls8 b) (fld8 b / 2) (oddB (fld8 b)) (len8 b) = 0
  · have hne : ¬ headE (cls8 b) (fld8 b / 2) (oddB (fld8 b)) (len8 b) ≠ 0 := by simpa using hE
    rw [if_neg hne, if_neg hne]
    have hp : pieces8 (oddB (fld8 b)) = 1 ∨ pieces8 (oddB (fld8 b)) = 2 := by cases oddB (fld8 b) <;> simp [pieces8]
    have hL : (len8 b).toNat ≤ 204 ∧ both8 b ≤ 200 ∧ (cls8 b ≠ 65535 → both8 b ≤ 32) := by
      rcases head_cls hE with hC | hC
      · rw [hC] at hE
        have hh := head_basic hE
        have hz := fits_dims hh.1
        have : ((fld (fld8 b / 2)).z : Int) * (pieces8 (oddB (fld8 b)) : Int) ≤ 32 := by rcases hp with h | h <;> rw [h] <;> omega
        have en : both8 b = (len8 b).toNat := by simp [both8, hC]
        rw [en]
        omega
      · rw [hC] at hE
        have hh := head_extra hE
        have en : both8 b = (len8 b).toNat - 4 := by simp [both8, hC]
        rw [en]
        refine ⟨?_, ?_, fun h => absurd hC h⟩ <;> rcases hp with h | h <;> rw [h] at hh <;> omega
    have e1 : ((rest8 b).take 204).length < (len8 b).toNat ↔ (rest8 b).length < (len8 b).toNat := by rw [List.length_take]; omega
    have eb : both8 (b.take 208) = both8 b := by simp [both8, cls8_take, len8_take]
    have ebody : ∃ K, body8 (b.take 208) = (body8 b).take K ∧ both8 b ≤ K := by
      by_cases hC : cls8 b = 65535
      · exact ⟨200, by simp [body8, cls8_take, rest8_take, hC, List.drop_take], hL.2.1⟩
      · exact ⟨204, by simp [body8, cls8_take, rest8_take, hC], by have := hL.2.1; omega⟩
    obtain ⟨K, ebody, hK⟩ := ebody
    have ev : val8 (b.take 208) = val8 b := by
      unfold val8
      rw [ebody, eb, fld8_take, List.take_take]
      congr 1
      have : both8 b / pieces8 (oddB (fld8 b)) ≤ both8 b := Nat.div_le_self _ _
      omega
    have em : mask8 (b.take 208) = mask8 b := by
      unfold mask8
      rw [ebody, eb, fld8_take, List.drop_take, List.take_take]
      congr 2
      omega
    have ex : exp8 (b.take 208) = exp8 b := by
      unfold exp8
      rw [cls8_take, rest8_take, List.take_take]
      rfl
    simp only [e1, ev, em, ex]
  · rw [if_pos (show headE (cls8 b) (fld8 b / 2) (oddB (fld8 b)) (len8 b) ≠ 0 from hE), if_pos (show headE (cls8 b) (fld8 b / 2) (oddB (fld8 b)) (len8 b) ≠ 0 from hE)]

/-- what decoding comes to -/
def DecPost (R : Except Int Oxm8) (w : World) (e : Ending) (w' : World) : Prop :=
  (∃ q, R = .error q ∧ q ≠ 0 ∧ e = .returned (.tuple #[.agg #[.int .i64 0, .int .i64 0, .bool false, .int .u64 0, .slice none 0 0, .slice none 0 0], .int .i64 0, .int .i64 q]) ∧ Below w.heap.size w w') ∨
  (∃ o a1 c1 a2 c2, R = .ok o ∧ e = .returned (.tuple #[.agg #[.int .i64 o.C, .int .i64 o.F, .bool o.H, .int .u64 o.X, .slice a1 o.v.length c1, .slice a2 o.m.length c2], .int .i64 o.n, .int .i64 0]) ∧ Below w.heap.size w w' ∧ Ints .u8 w' a1 o.v ∧ Ints .u8 w' a2 o.m ∧ o.m.length ≤ c2)

theorem raw_octets {b : List Int} {o : Oxm8} (h : rawL b = .ok o) (ho : Octets b) : Octets o.v ∧ Octets o.m ∧ o.v.length ≤ 255 ∧ o.m.length ≤ 255 ∧ (o.H = true → o.v.length = o.m.length) := by
  unfold rawL at h
  by_cases h4 : b.length < 4
  · rw [if_pos h4] at h; simp at h
  rw [if_neg h4] at h
  by_cases hE : headE (cls8 b) (fld8 b / 2) (oddB (fld8 b)) (len8 b) ≠ 0
  · rw [if_pos hE] at h; simp at h
  rw [if_neg hE] at h
  by_cases hr : (rest8 b).length < (len8 b).toNat
  · rw [if_pos hr] at h; simp at h
  rw [if_neg hr] at h
  obtain rfl : _ = o := by simpa using h
  have oc : Octets (body8 b) := by
    unfold body8 rest8
    split
    · exact (((ho.drop 2).drop 1).drop 1).drop 4
    · exact ((ho.drop 2).drop 1).drop 1
  have hL := num_byte ((ho.drop 2).drop 1)
  have hL2 : (len8 b).toNat ≤ 255 := by unfold len8; omega
  have hboth : both8 b ≤ 255 := by unfold both8; split <;> omega
  have hbl : both8 b ≤ (body8 b).length := by
    unfold both8 body8
    split
    · rw [List.length_drop]; omega
    · omega
  refine ⟨oc.take _, ?_, ?_, ?_, ?_⟩
  · show Octets (mask8 b)
    unfold mask8
    split
    · exact (oc.drop _).take _
    · intro x hx; simp at hx
  · show (val8 b).length ≤ 255
    unfold val8
    rw [List.length_take]
    have : both8 b / pieces8 (oddB (fld8 b)) ≤ both8 b := Nat.div_le_self _ _
    omega
  · show (mask8 b).length ≤ 255
    unfold mask8
    split
    · rw [List.length_take]; omega
    · simp
  · intro hh
    have hh' : oddB (fld8 b) = true := hh
    show (val8 b).length = (mask8 b).length
    simp only [val8, mask8, hh', pieces8, if_true, List.length_take, List.length_drop]
    omega

theorem below_row {W w1 w2 : World} {g : Nat} (hb : Below W.heap.size W w1) (hg : W.heap.size ≤ g) (h : w1.grownBy w2 (some g)) : Below W.heap.size W w2 :=
  by_none_below (grownBy_trans (below_by_none hb) h (.inr fun k hk => by cases hk; exact hg))

set_option maxRecDepth 100000 in
set_option maxHeartbeats 2000000 in
theorem decode8_at (b l : List Int) (a : Option Addr) (c : Nat) (hl : b.take 208 = l) (hbc : b.length ≤ c) (hc : c ≤ 9223372036854775807) (ho : Octets b) (w : World) (hI : Ints .u8 w a b) (k : Nat) (hk : l.length = k) (hm : (min (b.length : Int) 208).toNat = k) :
    Calls Try.prog 15 #[.slice a b.length c] w (DecPost (decL b) w) := by
  have hk2 : k ≤ 208 := by rw [← hk, ← hl, List.length_take]; omega
  have HO : Hid (Octets l) := by rw [← hl]; exact ho.take 208
  obtain ⟨W, hW, hbW, hbox⟩ := oxm_box w 0 0 false 0 none 0 0 none 0 0
  have HW := hid hW
  have HBW := hid hbW
  have HN := hid (new_any l a c 1026 1026 W (by omega) HO.out (by rw [← hl]; exact (hI.take 208).below hbW))
  rw [hk] at HN
  have hraw : rawL l = rawL b := by rw [← hl]; exact rawL_take b
  have HRAW := hid hraw
  have HOB := hid ho
  have HM := hid hm
  clear hI ho hl hk hW hbW hraw hm
  go_enter Try.func15, Try.ntmps15
  go_wp2_with fail
  rw [HW.out, HM.out]
  refine HN.out.mono ?_
  rintro e w1 ⟨g, rfl, hc1, hb1, hg1, hg2⟩
  have hR1 := hbox.below hb1
  have hs1 := hbox.lt
  have HB1 := hid hb1
  clear hbox hb1
  go_wp2_with fail
  refine (read8_any hc1 (by omega)).mono ?_
  intro e w2 hP
  rw [HRAW.out] at hP
  have hne : w.heap.size ≠ g := by omega
  rcases hP with ⟨q, hq, hq0, C, F, H, X, a1, n1, c1, a2, n2, c2, l5, r5, rfl, hc2, hb2⟩ | ⟨⟨C, F, H, X, v, m, n⟩, hq, a1, c1, a2, c2, rfl, i1, i2, hmc, ⟨hw1, hw2⟩, ⟨l5, hc2⟩, hb2⟩
  · have hD : Hid (decL b = .error q) := by show _ = _; simp only [decL, hq]
    have hR2 := box_by hR1 hb2 hne
    have hq1 : (q != 0) = true := by simpa using hq0
    have HQ := hid hq0
    have HB2 := hid (below_row HB1.out (by omega) hb2)
    have hlt2 := hR2.lt
    obtain ⟨W2, hW2, hbW2, hX2⟩ := oxm_box w2 C F H X a1 n1 c1 a2 n2 c2
    have HW2 := hid hW2
    have hc3 := hc2.below hbW2
    have hR3 := hR2.below hbW2
    have HB3 := hid (below_on HB2.out hbW2)
    clear hc1 hc2 hq hq0 hR1 hR2 hW2 hb2 hbW2 hg1 hg2
    go_wp2_with fail
    rw [HW2.out]
    refine hc3.err.mono ?_
    rintro e w' ⟨rfl, rfl⟩
    have z := hR3.free
    obtain ⟨d0, d1, d2, d3, d4, d5⟩ := hR3.six
    go_wp2_with fail
    have hkk := hR3.set6 (.int .i64 0) (.int .i64 0) (.bool false) (.int .u64 0) (.slice none 0 0) (.slice none 0 0)
    obtain ⟨k0, k1, k2, k3, k4, k5⟩ := hkk.six
    refine bodyPost_ret (v := .tuple #[.agg #[.int .i64 0, .int .i64 0, .bool false, .int .u64 0, .slice none 0 0, .slice none 0 0], .int .i64 0, .int .i64 q]) (by simp [results, Try.results15, go_sem, k0, k1, k2, k3, k4, k5]) rfl (.inl ⟨q, hD.out, HQ.out, rfl, ?_⟩)
    repeat (with_reducible refine Below.setCell ?_ (by simp) _)
    exact below_on HBW.out HB3.out
  · simp only at i1 i2 hmc hc2
    have hoc := raw_octets hq HOB.out
    obtain ⟨ov, om, lv, lm, hvm⟩ := hoc
    simp only at ov om lv lm hvm
    have HW3 := hid (fun W iv im => wrongBytes_any C F H X a1 c1 a2 c2 v m (fun _ h => Nat.le_of_eq (hvm h)) (by omega) hmc ov om W iv im)
    have hR2 := box_by hR1 hb2 hne
    have HB2 := hid (below_row HB1.out (by omega) hb2)
    have hlt2 := hR2.lt
    obtain ⟨W2, hW2, hbW2, hX2⟩ := oxm_box w2 C F H X a1 v.length c1 a2 m.length c2
    have HW2 := hid hW2
    have hc3 := hc2.below hbW2
    have hR3 := hR2.below hbW2
    have HB3 := hid (below_on HB2.out hbW2)
    have I1 := hid (i1.below hbW2)
    have I2 := hid (i2.below hbW2)
    have HMC := hid hmc
    obtain ⟨d0, d1, d2, d3, d4, d5⟩ := hX2.six
    have hRX : w2.heap.size ≠ w.heap.size := by omega
    have nR1 : ∀ q : Addr, a1 = some q → q.block ≠ w.heap.size := fun q hq => by have := hw1 q hq; omega
    have nR2 : ∀ q : Addr, a2 = some q → q.block ≠ w.heap.size := fun q hq => by have := hw2 q hq; omega
    clear hw1 hw2
    by_cases hE : bytesE C F H v m = 0
    · have hD : Hid (decL b = .ok ⟨C, F, H, X, v, m, n⟩) := by show _ = _; simp only [decL, hq, hE, if_true]
      rw [hE] at HW3
      clear hc1 hc2 hq hR1 hR2 hW2 hb2 hbW2 hg1 hg2 hE ov om lv lm hvm i1 i2 hmc
      go_wp2_with fail
      rw [HW2.out]
      refine hc3.err.mono ?_
      rintro e w' ⟨rfl, rfl⟩
      go_wp2_with fail
      refine (HW3.out _ I1.out I2.out).mono ?_
      rintro e w4 ⟨rfl, hb4⟩
      have hc5 := hc3.below hb4
      have hR5 := hR3.below hb4
      have hX5 := hX2.below hb4
      have HB5 := hid (below_on HB3.out hb4)
      have I15 := hid (I1.out.below hb4)
      have I25 := hid (I2.out.below hb4)
      clear d0 d1 d2 d3 d4 d5 hc3 hR3 hX2 hb4 HW3
      obtain ⟨d0, d1, d2, d3, d4, d5⟩ := hX5.six
      have z := hR5.free
      obtain ⟨e0, e1, e2, e3, e4, e5⟩ := hR5.six
      have n1 : ¬ w2.heap.size = w.heap.size := hRX
      have n2 : ¬ w.heap.size = w2.heap.size := fun e => hRX e.symm
      have hc6 := hid (hc5.below (below_drew8 w4))
      go_wp2_with fail
      go_region_held3 (fun w' => w'.cell? ⟨w2.heap.size, 0, none⟩ = some (.int .i64 C) ∧ w'.cell? ⟨w2.heap.size, 1, none⟩ = some (.int .i64 F) ∧ w'.cell? ⟨w2.heap.size, 2, none⟩ = some (.bool H) ∧ w'.cell? ⟨w2.heap.size, 3, none⟩ = some (.int .u64 X) ∧ w'.cell? ⟨w2.heap.size, 4, none⟩ = some (.slice a1 v.length c1) ∧ w'.cell? ⟨w2.heap.size, 5, none⟩ = some (.slice a2 m.length c2)) (go_keep) (first
        | (go_at_call 39; refine hc6.out.pos.mono ?_; rintro e w' ⟨rfl, rfl⟩)
        | fail)
      go_wp2_with fail
      have hkk := hR5.set6 (.int .i64 C) (.int .i64 F) (.bool H) (.int .u64 X) (.slice a1 v.length c1) (.slice a2 m.length c2)
      replace hkk := hkk.drew
      obtain ⟨k0, k1, k2, k3, k4, k5⟩ := hkk.six
      refine bodyPost_ret (v := .tuple #[.agg #[.int .i64 C, .int .i64 F, .bool H, .int .u64 X, .slice a1 v.length c1, .slice a2 m.length c2], .int .i64 n, .int .i64 0]) (by simp [results, Try.results15, go_sem, k0, k1, k2, k3, k4, k5]) rfl (.inr ⟨⟨C, F, H, X, v, m, n⟩, a1, c1, a2, c2, hD.out, rfl, ?_, ?_, ?_, HMC.out⟩)
      · with_reducible refine Below.drew ?_
        repeat (with_reducible refine Below.setCell ?_ (by simp) _)
        exact below_on HBW.out HB5.out
      · refine Ints.below ?_ (below_drew8 _)
        repeat (refine Ints.apart ?_ _ nR1)
        exact I15.out
      · refine Ints.below ?_ (below_drew8 _)
        repeat (refine Ints.apart ?_ _ nR2)
        exact I25.out
    · have hD : Hid (decL b = .error (bytesE C F H v m)) := by show _ = _; simp only [decL, hq, if_neg hE]
      obtain ⟨q, hqe⟩ : ∃ q, bytesE C F H v m = q := ⟨_, rfl⟩
      rw [hqe] at HW3 hD hE
      have hq1 : (q != 0) = true := by simpa using hE
      have HQ := hid hE
      clear hc1 hc2 hq hR1 hR2 hW2 hb2 hbW2 hg1 hg2 hE ov om lv lm hvm i1 i2 hmc hqe
      go_wp2_with fail
      rw [HW2.out]
      refine hc3.err.mono ?_
      rintro e w' ⟨rfl, rfl⟩
      go_wp2_with fail
      refine (HW3.out _ I1.out I2.out).mono ?_
      rintro e w4 ⟨rfl, hb4⟩
      have hR5 := hR3.below hb4
      have HB5 := hid (below_on HB3.out hb4)
      clear d0 d1 d2 d3 d4 d5 hc3 hR3 hX2 hb4 HW3
      have z := hR5.free
      obtain ⟨d0, d1, d2, d3, d4, d5⟩ := hR5.six
      go_wp2_with fail
      have hkk := hR5.set6 (.int .i64 0) (.int .i64 0) (.bool false) (.int .u64 0) (.slice none 0 0) (.slice none 0 0)
      obtain ⟨k0, k1, k2, k3, k4, k5⟩ := hkk.six
      refine bodyPost_ret (v := .tuple #[.agg #[.int .i64 0, .int .i64 0, .bool false, .int .u64 0, .slice none 0 0, .slice none 0 0], .int .i64 0, .int .i64 q]) (by simp [results, Try.results15, go_sem, k0, k1, k2, k3, k4, k5]) rfl (.inl ⟨q, hD.out, HQ.out, rfl, ?_⟩)
      repeat (with_reducible refine Below.setCell ?_ (by simp) _)
      exact below_on HBW.out HB5.out
theorem decode8_any (b : List Int) (a : Option Addr) (c : Nat) (hbc : b.length ≤ c) (hc : c ≤ 9223372036854775807) (ho : Octets b) (w : World) (hI : Ints .u8 w a b) :
    Calls Try.prog 15 #[.slice a b.length c] w (DecPost (decL b) w) :=
  decode8_at b (b.take 208) a c rfl hbc hc ho w hI _ rfl (by rw [List.length_take]; omega)
end Go.Proofs.Ytfogpofgmnibcaa
