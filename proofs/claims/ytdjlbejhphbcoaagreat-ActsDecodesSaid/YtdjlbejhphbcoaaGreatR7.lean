/- Put together out of several texts. -/
import Derived.Test.YtdjlbejhphbcoaaGreatR3
import Derived.Test.YtdjlbejhphbcoaaGreatR1
import Derived.OpenShut
import Derived.ProofKit
import Derived.Deep.Slices
import Derived.Laws.BytesArg
import Derived.Deep.RegionHeld3
namespace Go.Proofs.YtdjlbejhphbcoaaGreat
open Go.RowKit
set_option linter.unusedVariables false

theorem few8_any (C F : Int) (H : Bool) (X : Int) (va : Option Addr) (vl vc : Nat) (ma : Option Addr) (ml mc : Nat) (w : World) :
    Calls Tryz.prog 42 #[.agg #[.int .i64 C, .int .i64 F, .bool H, .int .u64 X, .slice va vl vc, .slice ma ml mc]] w fun e w' => e = .returned (.bool (decide (vl ≤ 300 ∧ ml ≤ 300))) ∧ Below w.heap.size w w' := by
  by_cases h1 : vl ≤ 300
  · by_cases h2 : ml ≤ 300
    · have i1 : (vl : Int) ≤ 300 := by omega
      have i2 : (ml : Int) ≤ 300 := by omega
      rw [decide_eq_true (show vl ≤ 300 ∧ ml ≤ 300 from ⟨h1, h2⟩)]
      clear h1 h2
      go_enter Tryz.func42, Tryz.ntmps42
      go_wp2
      go_ret
      exact ⟨rfl, below_alloc _ _⟩
    · have i1 : (vl : Int) ≤ 300 := by omega
      have i2 : decide ((ml : Int) ≤ 300) = false := by simp; omega
      rw [decide_eq_false (show ¬ (vl ≤ 300 ∧ ml ≤ 300) by omega)]
      clear h1 h2
      go_enter Tryz.func42, Tryz.ntmps42
      go_wp2
      go_ret
      exact ⟨rfl, below_alloc _ _⟩
  · have i1 : 300 < (vl : Int) := by omega
    rw [decide_eq_false (show ¬ (vl ≤ 300 ∧ ml ≤ 300) by omega)]
    clear h1
    go_enter Tryz.func42, Tryz.ntmps42
    go_wp2
    go_ret
    exact ⟨rfl, below_alloc _ _⟩

end Go.Proofs.YtdjlbejhphbcoaaGreat
namespace Go.Proofs.YtdjlbejhphbcoaaGreat
open Go.RowKit
set_option linter.unusedVariables false

theorem cls8_take (b : List Int) : cls8 (b.take 208) = cls8 b := by simp [cls8, List.take_take]
theorem fld8_take (b : List Int) : fld8 (b.take 208) = fld8 b := by simp [fld8, List.drop_take, List.take_take]
theorem len8_take (b : List Int) : len8 (b.take 208) = len8 b := by simp [len8, List.drop_take, List.take_take]
theorem rest8_take (b : List Int) : rest8 (b.take 208) = (rest8 b).take 204 := by simp [rest8, List.drop_take]
theorem fits_dims {F : Int} (h : 0 ≤ F ∧ F < 40) : (fld F).z ≤ 16 := (fld_dims h).2.2.2
theorem rawL_take (b : List Int) : rawL (b.take 208) = rawL b := by
  unfold rawL
  rw [cls8_take, fld8_take, len8_take, rest8_take]
  by_cases h4 : b.length < 4
  · rw [if_pos (by rw [List.length_take]; omega), if_pos h4]
  rw [if_neg (by rw [List.length_take]; omega), if_neg h4]
  by_cases hE : headE (cls8 b) (fld8 b / 2) (oddB (fld8 b)) (len8 b) = 0
  · have hne : ¬ headE (cls8 b) (fld8 b / 2) (oddB (fld8 b)) (len8 b) ≠ 0 := by simpa using hE
    rw [if_neg hne, if_neg hne]
    have hp : pieces8 (oddB (fld8 b)) = 1 ∨ pieces8 (oddB (fld8 b)) = 2 := by cases oddB (fld8 b) <;> simp [pieces8]
    have hL : (len8 b).toNat ≤ 204 ∧ both8 b ≤ 200 ∧ (cls8 b ≠ 65535 → both8 b ≤ 32) := by
      rcases head_cls hE with hC | hC
      · rw [hC] at hE
        have hh := head_basic hE
        have hz := fits_dims hh.1
        have : ((fld (fld8 b / 2)).z : Int) * (pieces8 (oddB (fld8 b)) : Int) ≤ 32 := by rcases hp with h | h <;> rw [h] <;> omega
        have en : both8 b = (len8 b).toNat := by simp [both8, hC]
        rw [en]
        omega
      · rw [hC] at hE
        have hh := head_extra hE
        have en : both8 b = (len8 b).toNat - 4 := by simp [both8, hC]
        rw [en]
        refine ⟨?_, ?_, fun h => absurd hC h⟩ <;> rcases hp with h | h <;> rw [h] at hh <;> omega
    have e1 : ((rest8 b).take 204).length < (len8 b).toNat ↔ (rest8 b).length < (len8 b).toNat := by rw [List.length_take]; omega
    have eb : both8 (b.take 208) = both8 b := by simp [both8, cls8_take, len8_take]
    have ebody : ∃ K, body8 (b.take 208) = (body8 b).take K ∧ both8 b ≤ K := by
      by_cases hC : cls8 b = 65535
      · exact ⟨200, by simp [body8, cls8_take, rest8_take, hC, List.drop_take], hL.2.1⟩
      · exact ⟨204, by simp [body8, cls8_take, rest8_take, hC], by have := hL.2.1; omega⟩
    obtain ⟨K, ebody, hK⟩ := ebody
    have ev : val8 (b.take 208) = val8 b := by
      unfold val8
      rw [ebody, eb, fld8_take, List.take_take]
      congr 1
      have : both8 b / pieces8 (oddB (fld8 b)) ≤ both8 b := Nat.div_le_self _ _
      omega
    have em : mask8 (b.take 208) = mask8 b := by
      unfold mask8
      rw [ebody, eb, fld8_take, List.drop_take, List.take_take]
      congr 2
      omega
    have ex : exp8 (b.take 208) = exp8 b := by
      unfold exp8
      rw [cls8_take, rest8_take, List.take_take]
      rfl
    simp only [e1, ev, em, ex]
  · rw [if_pos (show headE (cls8 b) (fld8 b / 2) (oddB (fld8 b)) (len8 b) ≠ 0 from hE), if_pos (show headE (cls8 b) (fld8 b / 2) (oddB (fld8 b)) (len8 b) ≠ 0 from hE)]

/-- what decoding comes to -/
def DecPost (R : Except Int Oxm8) (w : World) (e : Ending) (w' : World) : Prop :=
  (∃ q, R = .error q ∧ q ≠ 0 ∧ e = .returned (.tuple #[.agg #[.int .i64 0, .int .i64 0, .bool false, .int .u64 0, .slice none 0 0, .slice none 0 0], .int .i64 0, .int .i64 q]) ∧ Below w.heap.size w w') ∨
  (∃ o a1 c1 a2 c2, R = .ok o ∧ e = .returned (.tuple #[.agg #[.int .i64 o.C, .int .i64 o.F, .bool o.H, .int .u64 o.X, .slice a1 o.v.length c1, .slice a2 o.m.length c2], .int .i64 o.n, .int .i64 0]) ∧ Below w.heap.size w w' ∧ Ints .u8 w' a1 o.v ∧ Ints .u8 w' a2 o.m ∧ o.m.length ≤ c2 ∧ New8 w a1 ∧ New8 w a2)

theorem raw_octets {b : List Int} {o : Oxm8} (h : rawL b = .ok o) (ho : Octets b) : Octets o.v ∧ Octets o.m ∧ o.v.length ≤ 255 ∧ o.m.length ≤ 255 ∧ (o.H = true → o.v.length = o.m.length) := by
  unfold rawL at h
  by_cases h4 : b.length < 4
  · rw [if_pos h4] at h; simp at h
  rw [if_neg h4] at h
  by_cases hE : headE (cls8 b) (fld8 b / 2) (oddB (fld8 b)) (len8 b) ≠ 0
  · rw [if_pos hE] at h; simp at h
  rw [if_neg hE] at h
  by_cases hr : (rest8 b).length < (len8 b).toNat
  · rw [if_pos hr] at h; simp at h
  rw [if_neg hr] at h
  obtain rfl : _ = o := by simpa using h
  have oc : Octets (body8 b) := by
    unfold body8 rest8
    split
    · exact (((ho.drop 2).drop 1).drop 1).drop 4
    · exact ((ho.drop 2).drop 1).drop 1
  have hL := num_byte ((ho.drop 2).drop 1)
  have hL2 : (len8 b).toNat ≤ 255 := by unfold len8; omega
  have hboth : both8 b ≤ 255 := by unfold both8; split <;> omega
  have hbl : both8 b ≤ (body8 b).length := by
    unfold both8 body8
    split
    · rw [List.length_drop]; omega
    · omega
  refine ⟨oc.take _, ?_, ?_, ?_, ?_⟩
  · show Octets (mask8 b)
    unfold mask8
    split
    · exact (oc.drop _).take _
    · intro x hx; simp at hx
  · show (val8 b).length ≤ 255
    unfold val8
    rw [List.length_take]
    have : both8 b / pieces8 (oddB (fld8 b)) ≤ both8 b := Nat.div_le_self _ _
    omega
  · show (mask8 b).length ≤ 255
    unfold mask8
    split
    · rw [List.length_take]; omega
    · simp
  · intro hh
    have hh' : oddB (fld8 b) = true := hh
    show (val8 b).length = (mask8 b).length
    simp only [val8, mask8, hh', pieces8, if_true, List.length_take, List.length_drop]
    omega

theorem below_row {W w1 w2 : World} {g : Nat} (hb : Below W.heap.size W w1) (hg : W.heap.size ≤ g) (h : w1.grownBy w2 (some g)) : Below W.heap.size W w2 :=
  by_none_below (grownBy_trans (below_by_none hb) h (.inr fun k hk => by cases hk; exact hg))

set_option maxRecDepth 100000 in
set_option maxHeartbeats 2000000 in
theorem decode8_at (b l : List Int) (a : Option Addr) (c : Nat) (hl : b.take 208 = l) (hbc : b.length ≤ c) (hc : c ≤ 9223372036854775807) (ho : Octets b) (w : World) (hI : Ints .u8 w a b) (k : Nat) (hk : l.length = k) (hm : (min (b.length : Int) 208).toNat = k) :
    Calls Tryz.prog 128 #[.slice a b.length c] w (DecPost (decL b) w) := by
  have hk2 : k ≤ 208 := by rw [← hk, ← hl, List.length_take]; omega
  have HO : Hid (Octets l) := by rw [← hl]; exact ho.take 208
  obtain ⟨W, hW, hbW, hbox⟩ := oxm_box w 0 0 false 0 none 0 0 none 0 0
  have HW := hid hW
  have HBW := hid hbW
  have HN := hid (new_any l a c 1026 1026 W (by omega) HO.out (by rw [← hl]; exact (hI.take 208).below hbW))
  rw [hk] at HN
  have hraw : rawL l = rawL b := by rw [← hl]; exact rawL_take b
  have HRAW := hid hraw
  have HOB := hid ho
  have HM := hid hm
  clear hI ho hl hk hW hbW hraw hm
  go_enter Tryz.func128, Tryz.ntmps128
  go_wp2_with fail
  rw [HW.out, HM.out]
  refine HN.out.mono ?_
  rintro e w1 ⟨g, rfl, hc1, hb1, hg1, hg2⟩
  have hR1 := hbox.below hb1
  have hs1 := hbox.lt
  have HB1 := hid hb1
  clear hbox hb1
  go_wp2_with fail
  refine (read8_any hc1 (by omega)).mono ?_
  intro e w2 hP
  rw [HRAW.out] at hP
  have hne : w.heap.size ≠ g := by omega
  rcases hP with ⟨q, hq, hq0, C, F, H, X, a1, n1, c1, a2, n2, c2, l5, r5, rfl, hc2, hb2⟩ | ⟨⟨C, F, H, X, v, m, n⟩, hq, a1, c1, a2, c2, rfl, i1, i2, hmc, ⟨hw1, hw2⟩, ⟨l5, hc2⟩, hb2⟩
  · have hD : Hid (decL b = .error q) := by show _ = _; simp only [decL, hq]
    have hR2 := box_by hR1 hb2 hne
    have hq1 : (q != 0) = true := by simpa using hq0
    have HQ := hid hq0
    have HB2 := hid (below_row HB1.out (by omega) hb2)
    have hlt2 := hR2.lt
    obtain ⟨W2, hW2, hbW2, hX2⟩ := oxm_box w2 C F H X a1 n1 c1 a2 n2 c2
    have HW2 := hid hW2
    have hc3 := hc2.below hbW2
    have hR3 := hR2.below hbW2
    have HB3 := hid (below_on HB2.out hbW2)
    clear hc1 hc2 hq hq0 hR1 hR2 hW2 hb2 hbW2 hg1 hg2
    go_wp2_with fail
    rw [HW2.out]
    refine hc3.err.mono ?_
    rintro e w' ⟨rfl, rfl⟩
    have z := hR3.free
    obtain ⟨d0, d1, d2, d3, d4, d5⟩ := hR3.six
    go_wp2_with fail
    have hkk := hR3.set6 (.int .i64 0) (.int .i64 0) (.bool false) (.int .u64 0) (.slice none 0 0) (.slice none 0 0)
    obtain ⟨k0, k1, k2, k3, k4, k5⟩ := hkk.six
    refine bodyPost_ret (v := .tuple #[.agg #[.int .i64 0, .int .i64 0, .bool false, .int .u64 0, .slice none 0 0, .slice none 0 0], .int .i64 0, .int .i64 q]) (by simp [results, Tryz.results128, go_sem, k0, k1, k2, k3, k4, k5]) rfl (.inl ⟨q, hD.out, HQ.out, rfl, ?_⟩)
    repeat (with_reducible refine Below.setCell ?_ (by simp) _)
    exact below_on HBW.out HB3.out
  · simp only at i1 i2 hmc hc2
    have hoc := raw_octets hq HOB.out
    obtain ⟨ov, om, lv, lm, hvm⟩ := hoc
    simp only at ov om lv lm hvm
    have HW3 := hid (fun W iv im => wrongBytes_any C F H X a1 c1 a2 c2 v m (fun _ h => Nat.le_of_eq (hvm h)) (by omega) hmc ov om W iv im)
    have hR2 := box_by hR1 hb2 hne
    have HB2 := hid (below_row HB1.out (by omega) hb2)
    have hlt2 := hR2.lt
    obtain ⟨W2, hW2, hbW2, hX2⟩ := oxm_box w2 C F H X a1 v.length c1 a2 m.length c2
    have HW2 := hid hW2
    have hc3 := hc2.below hbW2
    have hR3 := hR2.below hbW2
    have HB3 := hid (below_on HB2.out hbW2)
    have I1 := hid (i1.below hbW2)
    have I2 := hid (i2.below hbW2)
    have HMC := hid hmc
    obtain ⟨d0, d1, d2, d3, d4, d5⟩ := hX2.six
    have hRX : w2.heap.size ≠ w.heap.size := by omega
    have nR1 : ∀ q : Addr, a1 = some q → q.block ≠ w.heap.size := fun q hq => by have := hw1 q hq; omega
    have nR2 : ∀ q : Addr, a2 = some q → q.block ≠ w.heap.size := fun q hq => by have := hw2 q hq; omega
    have HN1 : Hid (New8 w a1) := fun q hq => by have := hw1 q hq; omega
    have HN2 : Hid (New8 w a2) := fun q hq => by have := hw2 q hq; omega
    clear hw1 hw2
    by_cases hE : bytesE C F H v m = 0
    · have hD : Hid (decL b = .ok ⟨C, F, H, X, v, m, n⟩) := by show _ = _; simp only [decL, hq, hE, if_true]
      rw [hE] at HW3
      clear hc1 hc2 hq hR1 hR2 hW2 hb2 hbW2 hg1 hg2 hE ov om lv lm hvm i1 i2 hmc
      go_wp2_with fail
      rw [HW2.out]
      refine hc3.err.mono ?_
      rintro e w' ⟨rfl, rfl⟩
      go_wp2_with fail
      refine (HW3.out _ I1.out I2.out).mono ?_
      rintro e w4 ⟨rfl, hb4⟩
      have hc5 := hc3.below hb4
      have hR5 := hR3.below hb4
      have hX5 := hX2.below hb4
      have HB5 := hid (below_on HB3.out hb4)
      have I15 := hid (I1.out.below hb4)
      have I25 := hid (I2.out.below hb4)
      clear d0 d1 d2 d3 d4 d5 hc3 hR3 hX2 hb4 HW3
      obtain ⟨d0, d1, d2, d3, d4, d5⟩ := hX5.six
      have z := hR5.free
      obtain ⟨e0, e1, e2, e3, e4, e5⟩ := hR5.six
      have n1 : ¬ w2.heap.size = w.heap.size := hRX
      have n2 : ¬ w.heap.size = w2.heap.size := fun e => hRX e.symm
      have hc6 := hid (hc5.below (below_drew8 w4))
      go_wp2_with fail
      go_region_held3 (fun w' => w'.cell? ⟨w2.heap.size, 0, none⟩ = some (.int .i64 C) ∧ w'.cell? ⟨w2.heap.size, 1, none⟩ = some (.int .i64 F) ∧ w'.cell? ⟨w2.heap.size, 2, none⟩ = some (.bool H) ∧ w'.cell? ⟨w2.heap.size, 3, none⟩ = some (.int .u64 X) ∧ w'.cell? ⟨w2.heap.size, 4, none⟩ = some (.slice a1 v.length c1) ∧ w'.cell? ⟨w2.heap.size, 5, none⟩ = some (.slice a2 m.length c2)) (go_keep) (first
        | (go_at_call 39; refine hc6.out.pos.mono ?_; rintro e w' ⟨rfl, rfl⟩)
        | fail)
      go_wp2_with fail
      have hkk := hR5.set6 (.int .i64 C) (.int .i64 F) (.bool H) (.int .u64 X) (.slice a1 v.length c1) (.slice a2 m.length c2)
      replace hkk := hkk.drew
      obtain ⟨k0, k1, k2, k3, k4, k5⟩ := hkk.six
      refine bodyPost_ret (v := .tuple #[.agg #[.int .i64 C, .int .i64 F, .bool H, .int .u64 X, .slice a1 v.length c1, .slice a2 m.length c2], .int .i64 n, .int .i64 0]) (by simp [results, Tryz.results128, go_sem, k0, k1, k2, k3, k4, k5]) rfl (.inr ⟨⟨C, F, H, X, v, m, n⟩, a1, c1, a2, c2, hD.out, rfl, ?_, ?_, ?_, HMC.out, HN1.out, HN2.out⟩)
      · with_reducible refine Below.drew ?_
        repeat (with_reducible refine Below.setCell ?_ (by simp) _)
        exact below_on HBW.out HB5.out
      · refine Ints.below ?_ (below_drew8 _)
        repeat (refine Ints.apart ?_ _ nR1)
        exact I15.out
      · refine Ints.below ?_ (below_drew8 _)
        repeat (refine Ints.apart ?_ _ nR2)
        exact I25.out
    · have hD : Hid (decL b = .error (bytesE C F H v m)) := by show _ = _; simp only [decL, hq, if_neg hE]
      obtain ⟨q, hqe⟩ : ∃ q, bytesE C F H v m = q := ⟨_, rfl⟩
      rw [hqe] at HW3 hD hE
      have hq1 : (q != 0) = true := by simpa using hE
      have HQ := hid hE
      clear hc1 hc2 hq hR1 hR2 hW2 hb2 hbW2 hg1 hg2 hE ov om lv lm hvm i1 i2 hmc hqe
      go_wp2_with fail
      rw [HW2.out]
      refine hc3.err.mono ?_
      rintro e w' ⟨rfl, rfl⟩
      go_wp2_with fail
      refine (HW3.out _ I1.out I2.out).mono ?_
      rintro e w4 ⟨rfl, hb4⟩
      have hR5 := hR3.below hb4
      have HB5 := hid (below_on HB3.out hb4)
      clear d0 d1 d2 d3 d4 d5 hc3 hR3 hX2 hb4 HW3
      have z := hR5.free
      obtain ⟨d0, d1, d2, d3, d4, d5⟩ := hR5.six
      go_wp2_with fail
      have hkk := hR5.set6 (.int .i64 0) (.int .i64 0) (.bool false) (.int .u64 0) (.slice none 0 0) (.slice none 0 0)
      obtain ⟨k0, k1, k2, k3, k4, k5⟩ := hkk.six
      refine bodyPost_ret (v := .tuple #[.agg #[.int .i64 0, .int .i64 0, .bool false, .int .u64 0, .slice none 0 0, .slice none 0 0], .int .i64 0, .int .i64 q]) (by simp [results, Tryz.results128, go_sem, k0, k1, k2, k3, k4, k5]) rfl (.inl ⟨q, hD.out, HQ.out, rfl, ?_⟩)
      repeat (with_reducible refine Below.setCell ?_ (by simp) _)
      exact below_on HBW.out HB5.out
theorem decode8_any (b : List Int) (a : Option Addr) (c : Nat) (hbc : b.length ≤ c) (hc : c ≤ 9223372036854775807) (ho : Octets b) (w : World) (hI : Ints .u8 w a b) :
    Calls Tryz.prog 128 #[.slice a b.length c] w (DecPost (decL b) w) :=
  decode8_at b (b.take 208) a c rfl hbc hc ho w hI _ rfl (by rw [List.length_take]; omega)
end Go.Proofs.YtdjlbejhphbcoaaGreat
namespace Go.Proofs.YtdjlbejhphbcoaaGreat
open Go.RowKit
set_option linter.unusedVariables false

theorem octets8 {l : List Int} (h : l.all (fun x => decide (0 ≤ x ∧ x ≤ 255)) = true) : Octets l := by
  intro x hx
  have := List.all_eq_true.1 h x hx
  simpa using this
theorem bytes8_any (l m : List Int) (a b : Option Addr) (n k c d : Nat) (hn : n = l.length) (hk : k = m.length) (w : World) (hl : l.length ≤ 1000000) (hm : m.length ≤ 1000000) (hc : Ints .u8 w a l) (hd : Ints .u8 w b m) :
    Calls Tryz.prog 15 #[.slice a n c, .slice b k d] w fun e w' => e = .returned (.bool (l == m)) ∧ Below w.heap.size w w' := by
  subst hn hk
  refine (bytes_any l m a b c d w (by omega) (by omega) hc hd).mono ?_
  rintro e w' ⟨rfl, n, rfl⟩
  exact ⟨rfl, below_drewN _ _⟩

end Go.Proofs.YtdjlbejhphbcoaaGreat
namespace Go.Proofs.YtdjlbejhphbcoaaGreat
open Go.ChangeShapes Go.WideShapes Go.RowKit Go.Deep
set_option linter.unusedVariables false

/-- a value that came in -/
structure OxmIn (w : World) (C F X : Int) (va : Option Addr) (vl vc : Nat) (ma : Option Addr) (ml mc : Nat) (v m : List Int) : Prop where
  c : -9223372036854775808 ≤ C ∧ C ≤ 9223372036854775807
  f : -9223372036854775808 ≤ F ∧ F ≤ 9223372036854775807
  x : 0 ≤ X ∧ X ≤ 18446744073709551615
  lv : vl = v.length
  lm : ml = m.length
  iv : Ints .u8 w va v
  im : Ints .u8 w ma m
  ov : Octets v
  om : Octets m
  cv : v.length ≤ vc ∧ vc ≤ 9223372036854775807
  cm : m.length ≤ mc ∧ mc ≤ 9223372036854775807

section
variable {H : Type} {enc : TypeId × Value → H} {w : World} {base : Nat} {held : Bool}
theorem open_bytes8 {fuel : Nat} {v : Value} {x : DataW H × List MemPlace} (h : DataW.trod enc Tryz.prog w base (fun _ => true) held fuel 23 [v] = some x) :
    ∃ a n c l, v = .slice a n c ∧ n = l.length ∧ Ints .u8 w a l ∧ Octets l ∧ l.length ≤ c ∧ c ≤ 9223372036854775807 := by
  have hC8 : Tryz.prog.cellsOf 5 = 1 := by kernel_rfl
  rcases open_ints Tryz.underlying23 Tryz.underlying5 hC8 h with ⟨hcs, _⟩ | ⟨p2, l2, cp2, zs, hcs, _, hl2, hm2, hz, _, hcell, hwz⟩
  · simp at hcs
    subst hcs
    exact ⟨none, 0, 0, [], rfl, rfl, Ints.nil _ _ _, fun x hx => by simp at hx, by simp, by simp⟩
  · simp at hcs
    subst hcs
    have hrow : IsRow .u8 w (some p2) l2 cp2 zs := .inr ⟨p2, rfl, hl2, hm2, by simpa using hz, hcell, hwz⟩
    obtain ⟨z, rfl, hz0, hz1, hz2, hz3⟩ := hrow.ints
    exact ⟨some p2, z.length, cp2, z, rfl, rfl, hz2, wf_u8 hz3, hz0, hz1⟩
end
end Go.Proofs.YtdjlbejhphbcoaaGreat
namespace Go.Proofs.YtdjlbejhphbcoaaGreat
open Go.RowKit
set_option linter.unusedVariables false

end Go.Proofs.YtdjlbejhphbcoaaGreat
namespace Go.Proofs.YtdjlbejhphbcoaaGreat
open Go.RowKit
set_option linter.unusedVariables false

/-- whether two are of the same field -/
def alikeB (C F X C' F' X' : Int) : Bool := C == C' && F == F' && X == X'
theorem alike_ways (C F X C' F' X' : Int) : ∃ r, alikeB C F X C' F' X' = r ∧ (((C == C') = false ∧ r = false) ∨ ((C == C') = true ∧ (F == F') = false ∧ r = false) ∨ ((C == C') = true ∧ (F == F') = true ∧ r = (X == X'))) := by
  refine ⟨_, rfl, ?_⟩
  unfold alikeB
  cases (C == C') <;> cases (F == F') <;> simp

set_option maxRecDepth 100000 in
theorem alike8_any (C F : Int) (H : Bool) (X : Int) (va : Option Addr) (vl vc : Nat) (ma : Option Addr) (ml mc : Nat) (C' F' : Int) (H' : Bool) (X' : Int) (va' : Option Addr) (vl' vc' : Nat) (ma' : Option Addr) (ml' mc' : Nat) (w : World) :
    Calls Tryz.prog 144 #[.agg #[.int .i64 C, .int .i64 F, .bool H, .int .u64 X, .slice va vl vc, .slice ma ml mc], .agg #[.int .i64 C', .int .i64 F', .bool H', .int .u64 X', .slice va' vl' vc', .slice ma' ml' mc']] w fun e w' => e = .returned (.bool (alikeB C F X C' F' X')) ∧ Below w.heap.size w w' := by
  obtain ⟨r, hr, hq⟩ := alike_ways C F X C' F' X'
  rw [hr]
  clear hr
  rcases hq with ⟨h1, rfl⟩ | ⟨h1, h2, rfl⟩ | ⟨h1, h2, rfl⟩
  all_goals
    go_enter Tryz.func144, Tryz.ntmps144
    go_wp2_with fail
    go_ret
    exact ⟨rfl, below_on (below_alloc _ _) (below_alloc _ _)⟩
set_option maxRecDepth 100000 in
theorem refAlike8_any (C F : Int) (H : Bool) (X : Int) (va : Option Addr) (vl vc : Nat) (ma : Option Addr) (ml mc : Nat) (C' F' : Int) (H' : Bool) (X' : Int) (va' : Option Addr) (vl' vc' : Nat) (ma' : Option Addr) (ml' mc' : Nat) (w : World) :
    Calls Tryz.prog 107 #[.agg #[.int .i64 C, .int .i64 F, .bool H, .int .u64 X, .slice va vl vc, .slice ma ml mc], .agg #[.int .i64 C', .int .i64 F', .bool H', .int .u64 X', .slice va' vl' vc', .slice ma' ml' mc']] w fun e w' => e = .returned (.bool (alikeB C F X C' F' X')) ∧ Below w.heap.size w w' := by
  obtain ⟨r, hr, hq⟩ := alike_ways C F X C' F' X'
  rw [hr]
  clear hr
  rcases hq with ⟨h1, rfl⟩ | ⟨h1, h2, rfl⟩ | ⟨h1, h2, rfl⟩
  all_goals
    go_enter Tryz.func107, Tryz.ntmps107
    go_wp2_with fail
    go_ret
    exact ⟨rfl, below_on (below_alloc _ _) (below_alloc _ _)⟩
theorem fresh8_any (l : List Int) (a : Option Addr) (c : Nat) (w : World) (hl : l.length ≤ 140737488355328) (hI : Ints .u8 w a l) :
    Calls Tryz.prog 143 #[.slice a l.length c] w fun e w' => e = .returned (.slice (some ⟨w.heap.size, 0, none⟩) l.length l.length) ∧ Fresh 5 w w' (.slice (some ⟨w.heap.size, 0, none⟩) l.length l.length) (l.map (Value.int .u8)) := by
  go_enter Tryz.func143, Tryz.ntmps143
  go_wp2_with (first | (at_make; refine wp_make rfl _ _ rfl elemU8 rfl rfl rfl rfl (Nat.le_refl _) (by omega) (by omega) ?_; intro w1 hf) | (with_reducible refine wp_copy_all rfl (.tmp 7) (.tmp 8) rfl elemU8 rfl rfl (List.length_replicate ..) hf rfl (hI.below hf.bel) ?_; intro w2 hf2))
  go_ret
  exact ⟨rfl, hf2⟩

theorem conv8 (w : World) (l : List Int) (a : Option Addr) (c : Nat) (hI : Ints .u8 w a l) : (convert 23 9 (.slice a l.length c)).run Tryz.prog w = .ok (.string (strOfNums l)) w := by
  have hs := Tryz.underlying23
  have he := Tryz.underlying5
  have hd := Tryz.underlying9
  cases l with
  | nil =>
    cases a with
    | none => exact run_convert_bytes_nil w _ _ hs he 0 c _ hd
    | some p =>
      rw [run_convert_bytes_string w _ _ _ _ _ c hs he hd]
      exact run_bytesToString w p 0 c [] (by rfl)
  | cons x r =>
    obtain ⟨b, off, rfl, h0⟩ := hI 0 (by simp)
    exact run_convert_bytes_arg w _ _ hs he b off (x :: r).length c (x :: r) rfl (fun i hi => by
      obtain ⟨b', off', he', hc⟩ := hI i hi
      obtain ⟨rfl, rfl⟩ : b = b' ∧ off = off' := by simpa using he'
      exact hc) _ hd

theorem byte_inj8 {x y : Int} (hx : 0 ≤ x ∧ x ≤ 255) (hy : 0 ≤ y ∧ y ≤ 255) (h : UInt8.ofNat x.toNat = UInt8.ofNat y.toNat) : x = y := by
  have h2 := congrArg UInt8.toNat h
  simp at h2
  omega
theorem map_inj8 : ∀ {l m : List Int}, Octets l → Octets m → (l.map fun n => UInt8.ofNat n.toNat) = (m.map fun n => UInt8.ofNat n.toNat) → l = m
  | [], [], _, _, _ => rfl
  | [], y :: m, _, _, h => by simp at h
  | x :: l, [], _, _, h => by simp at h
  | x :: l, y :: m, hl, hm, h => by
    rw [List.map_cons, List.map_cons, List.cons.injEq] at h
    rw [byte_inj8 (hl x (by simp)) (hm y (by simp)) h.1, map_inj8 (fun z hz => hl z (by simp [hz])) (fun z hz => hm z (by simp [hz])) h.2]
theorem strEq8 {l m : List Int} (ol : Octets l) (om : Octets m) : ((strOfNums l).toList == (strOfNums m).toList) = (l == m) := by
  rw [ByteArray.toList_eq, ByteArray.toList_eq, strOfNums_data, strOfNums_data, Bool.eq_iff_iff, beq_iff_eq, beq_iff_eq]
  exact ⟨map_inj8 ol om, fun h => by rw [h]⟩
set_option maxRecDepth 100000 in
theorem equal8_any (l m : List Int) (a b : Option Addr) (c d : Nat) (w : World) (hl : l.length ≤ 1000000) (hm : m.length ≤ 1000000) (ol : Octets l) (om : Octets m) (hc : Ints .u8 w a l) (hd : Ints .u8 w b m) :
    Calls Tryz.prog 114 #[.slice a l.length c, .slice b m.length d] w fun e w' => e = .returned (.bool (l == m)) ∧ Below w.heap.size w w' := by
  have k1 := conv8 w l a c hc
  have k2 := conv8 w m b d hd
  have HS := hid (strEq8 ol om)
  clear hc hd ol om
  go_enter Tryz.func114, Tryz.ntmps114
  go_wp2_with fail
  go_ret
  exact ⟨ret_bool HS.out, Below.refl _ _⟩

/-- whether two are the same -/
def sameB (C F : Int) (H : Bool) (X : Int) (C' F' : Int) (H' : Bool) (X' : Int) (v m v' m' : List Int) : Bool := alikeB C F X C' F' X' && H == H' && v == v' && m == m'
theorem same_ways (C F : Int) (H : Bool) (X : Int) (C' F' : Int) (H' : Bool) (X' : Int) (v m v' m' : List Int) : ∃ r, sameB C F H X C' F' H' X' v m v' m' = r ∧ ((alikeB C F X C' F' X' = false ∧ r = false) ∨ (alikeB C F X C' F' X' = true ∧ (H == H') = false ∧ r = false) ∨ (alikeB C F X C' F' X' = true ∧ (H == H') = true ∧ (v == v') = false ∧ r = false) ∨ (alikeB C F X C' F' X' = true ∧ (H == H') = true ∧ (v == v') = true ∧ r = (m == m'))) := by
  refine ⟨_, rfl, ?_⟩
  unfold sameB
  cases alikeB C F X C' F' X' <;> cases (H == H') <;> cases (v == v') <;> simp
theorem two_oxm (w : World) (C F : Int) (H : Bool) (X : Int) (va : Option Addr) (vl vc : Nat) (ma : Option Addr) (ml mc : Nat) (C' F' : Int) (H' : Bool) (X' : Int) (va' : Option Addr) (vl' vc' : Nat) (ma' : Option Addr) (ml' mc' : Nat) : ∃ W, (w.alloc (.cells #[.int .i64 C, .int .i64 F, .bool H, .int .u64 X, .slice va vl vc, .slice ma ml mc] 25)).alloc (.cells #[.int .i64 C', .int .i64 F', .bool H', .int .u64 X', .slice va' vl' vc', .slice ma' ml' mc'] 25) = W ∧ Below w.heap.size w W ∧ BoxL W w.heap.size [.int .i64 C, .int .i64 F, .bool H, .int .u64 X, .slice va vl vc, .slice ma ml mc] ∧ BoxL W (w.heap.size + 1) [.int .i64 C', .int .i64 F', .bool H', .int .u64 X', .slice va' vl' vc', .slice ma' ml' mc'] := by
  obtain ⟨W1, h1, b1, x1⟩ := oxm_box w C F H X va vl vc ma ml mc
  obtain ⟨W2, h2, b2, x2⟩ := oxm_box W1 C' F' H' X' va' vl' vc' ma' ml' mc'
  have hs : W1.heap.size = w.heap.size + 1 := by rw [← h1, World.size_alloc]
  rw [hs] at x2
  exact ⟨W2, by rw [h1, h2], below_on b1 b2, x1.below b2, x2⟩

set_option maxRecDepth 100000 in
set_option maxHeartbeats 1000000 in
theorem same8_any (C F : Int) (H : Bool) (X : Int) (va : Option Addr) (vc : Nat) (ma : Option Addr) (mc : Nat) (C' F' : Int) (H' : Bool) (X' : Int) (va' : Option Addr) (vc' : Nat) (ma' : Option Addr) (mc' : Nat) (v m v' m' : List Int) (hv : v.length ≤ 1000) (hm : m.length ≤ 1000) (hv' : v'.length ≤ 1000) (hm' : m'.length ≤ 1000) (ov : Octets v) (om : Octets m) (ov' : Octets v') (om' : Octets m') (w : World) (iv : Ints .u8 w va v) (im : Ints .u8 w ma m) (iv' : Ints .u8 w va' v') (im' : Ints .u8 w ma' m') :
    Calls Tryz.prog 113 #[.agg #[.int .i64 C, .int .i64 F, .bool H, .int .u64 X, .slice va v.length vc, .slice ma m.length mc], .agg #[.int .i64 C', .int .i64 F', .bool H', .int .u64 X', .slice va' v'.length vc', .slice ma' m'.length mc']] w fun e w' => e = .returned (.bool (sameB C F H X C' F' H' X' v m v' m')) ∧ Below w.heap.size w w' := by
  obtain ⟨W, hW, hbW, hx, hy⟩ := two_oxm w C F H X va v.length vc ma m.length mc C' F' H' X' va' v'.length vc' ma' m'.length mc'
  have HW := hid hW
  have HB := hid hbW
  have IV := hid (iv.below hbW)
  have IM := hid (im.below hbW)
  have IV' := hid (iv'.below hbW)
  have IM' := hid (im'.below hbW)
  have AL := hid (fun W => alike8_any C F H X va v.length vc ma m.length mc C' F' H' X' va' v'.length vc' ma' m'.length mc' W)
  have EV := hid (fun (n : Wk W) => equal8_any v v' va va' vc vc' n.val (by omega) (by omega) ov ov' (IV.out.below n.bel) (IV'.out.below n.bel))
  have EM := hid (fun (n : Wk W) => equal8_any m m' ma ma' mc mc' n.val (by omega) (by omega) om om' (IM.out.below n.bel) (IM'.out.below n.bel))
  obtain ⟨d0, d1, d2, d3, d4, d5⟩ := hx.six
  obtain ⟨e0, e1, e2, e3, e4, e5⟩ := hy.six
  obtain ⟨r, hr, hq⟩ := same_ways C F H X C' F' H' X' v m v' m'
  rw [hr]
  clear hr hW hbW iv im iv' im' ov om ov' om' hv hm hv' hm'
  rcases hq with ⟨h1, rfl⟩ | ⟨h1, h2, rfl⟩ | ⟨h1, h2, h3, rfl⟩ | ⟨h1, h2, h3, rfl⟩
  · rw [h1] at AL
    clear h1
    go_enter Tryz.func113, Tryz.ntmps113
    go_wp2_with fail
    rw [HW.out]
    have HA := hid (Below.refl W.heap.size W)
    go_wp2_with fail
    refine (AL.out _).mono ?_
    rintro e w1 ⟨rfl, hb⟩
    replace HA := hid (below_on HA.out hb)
    clear d0 d1 d2 d3 d4 d5 e0 e1 e2 e3 e4 e5 hb
    obtain ⟨d0, d1, d2, d3, d4, d5⟩ := (hx.below HA.out).six
    obtain ⟨e0, e1, e2, e3, e4, e5⟩ := (hy.below HA.out).six
    go_wp2_with fail
    go_ret
    exact ⟨rfl, below_on HB.out HA.out⟩
  · rw [h1] at AL
    clear h1
    go_enter Tryz.func113, Tryz.ntmps113
    go_wp2_with fail
    rw [HW.out]
    have HA := hid (Below.refl W.heap.size W)
    go_wp2_with fail
    refine (AL.out _).mono ?_
    rintro e w1 ⟨rfl, hb⟩
    replace HA := hid (below_on HA.out hb)
    clear d0 d1 d2 d3 d4 d5 e0 e1 e2 e3 e4 e5 hb
    obtain ⟨d0, d1, d2, d3, d4, d5⟩ := (hx.below HA.out).six
    obtain ⟨e0, e1, e2, e3, e4, e5⟩ := (hy.below HA.out).six
    go_wp2_with fail
    go_ret
    exact ⟨rfl, below_on HB.out HA.out⟩
  · rw [h1] at AL
    clear h1
    rw [h3] at EV
    clear h3
    go_enter Tryz.func113, Tryz.ntmps113
    go_wp2_with fail
    rw [HW.out]
    have HA := hid (Below.refl W.heap.size W)
    go_wp2_with fail
    refine (AL.out _).mono ?_
    rintro e w1 ⟨rfl, hb⟩
    replace HA := hid (below_on HA.out hb)
    clear d0 d1 d2 d3 d4 d5 e0 e1 e2 e3 e4 e5 hb
    obtain ⟨d0, d1, d2, d3, d4, d5⟩ := (hx.below HA.out).six
    obtain ⟨e0, e1, e2, e3, e4, e5⟩ := (hy.below HA.out).six
    go_wp2_with fail
    refine (EV.out ⟨_, HA.out⟩).mono ?_
    rintro e w1 ⟨rfl, hb⟩
    replace HA := hid (below_on HA.out hb)
    clear d0 d1 d2 d3 d4 d5 e0 e1 e2 e3 e4 e5 hb
    obtain ⟨d0, d1, d2, d3, d4, d5⟩ := (hx.below HA.out).six
    obtain ⟨e0, e1, e2, e3, e4, e5⟩ := (hy.below HA.out).six
    go_wp2_with fail
    go_ret
    exact ⟨rfl, below_on HB.out HA.out⟩
  · rw [h1] at AL
    clear h1
    rw [h3] at EV
    clear h3
    go_enter Tryz.func113, Tryz.ntmps113
    go_wp2_with fail
    rw [HW.out]
    have HA := hid (Below.refl W.heap.size W)
    go_wp2_with fail
    refine (AL.out _).mono ?_
    rintro e w1 ⟨rfl, hb⟩
    replace HA := hid (below_on HA.out hb)
    clear d0 d1 d2 d3 d4 d5 e0 e1 e2 e3 e4 e5 hb
    obtain ⟨d0, d1, d2, d3, d4, d5⟩ := (hx.below HA.out).six
    obtain ⟨e0, e1, e2, e3, e4, e5⟩ := (hy.below HA.out).six
    go_wp2_with fail
    refine (EV.out ⟨_, HA.out⟩).mono ?_
    rintro e w1 ⟨rfl, hb⟩
    replace HA := hid (below_on HA.out hb)
    clear d0 d1 d2 d3 d4 d5 e0 e1 e2 e3 e4 e5 hb
    obtain ⟨d0, d1, d2, d3, d4, d5⟩ := (hx.below HA.out).six
    obtain ⟨e0, e1, e2, e3, e4, e5⟩ := (hy.below HA.out).six
    go_wp2_with fail
    refine (EM.out ⟨_, HA.out⟩).mono ?_
    rintro e w1 ⟨rfl, hb⟩
    replace HA := hid (below_on HA.out hb)
    clear d0 d1 d2 d3 d4 d5 e0 e1 e2 e3 e4 e5 hb
    obtain ⟨d0, d1, d2, d3, d4, d5⟩ := (hx.below HA.out).six
    obtain ⟨e0, e1, e2, e3, e4, e5⟩ := (hy.below HA.out).six
    go_wp2_with fail
    go_ret
    exact ⟨rfl, below_on HB.out HA.out⟩

set_option maxRecDepth 100000 in
set_option maxHeartbeats 1000000 in
theorem refSame8_any (C F : Int) (H : Bool) (X : Int) (va : Option Addr) (vc : Nat) (ma : Option Addr) (mc : Nat) (C' F' : Int) (H' : Bool) (X' : Int) (va' : Option Addr) (vc' : Nat) (ma' : Option Addr) (mc' : Nat) (v m v' m' : List Int) (hv : v.length ≤ 1000) (hm : m.length ≤ 1000) (hv' : v'.length ≤ 1000) (hm' : m'.length ≤ 1000) (ov : Octets v) (om : Octets m) (ov' : Octets v') (om' : Octets m') (w : World) (iv : Ints .u8 w va v) (im : Ints .u8 w ma m) (iv' : Ints .u8 w va' v') (im' : Ints .u8 w ma' m') :
    Calls Tryz.prog 63 #[.agg #[.int .i64 C, .int .i64 F, .bool H, .int .u64 X, .slice va v.length vc, .slice ma m.length mc], .agg #[.int .i64 C', .int .i64 F', .bool H', .int .u64 X', .slice va' v'.length vc', .slice ma' m'.length mc']] w fun e w' => e = .returned (.bool (sameB C F H X C' F' H' X' v m v' m')) ∧ Below w.heap.size w w' := by
  obtain ⟨W, hW, hbW, hx, hy⟩ := two_oxm w C F H X va v.length vc ma m.length mc C' F' H' X' va' v'.length vc' ma' m'.length mc'
  have HW := hid hW
  have HB := hid hbW
  have IV := hid (iv.below hbW)
  have IM := hid (im.below hbW)
  have IV' := hid (iv'.below hbW)
  have IM' := hid (im'.below hbW)
  have AL := hid (fun W => refAlike8_any C F H X va v.length vc ma m.length mc C' F' H' X' va' v'.length vc' ma' m'.length mc' W)
  have EV := hid (fun (n : Wk W) => bytes8_any v v' va va' _ _ vc vc' rfl rfl n.val (by omega) (by omega) (IV.out.below n.bel) (IV'.out.below n.bel))
  have EM := hid (fun (n : Wk W) => bytes8_any m m' ma ma' _ _ mc mc' rfl rfl n.val (by omega) (by omega) (IM.out.below n.bel) (IM'.out.below n.bel))
  obtain ⟨d0, d1, d2, d3, d4, d5⟩ := hx.six
  obtain ⟨e0, e1, e2, e3, e4, e5⟩ := hy.six
  obtain ⟨r, hr, hq⟩ := same_ways C F H X C' F' H' X' v m v' m'
  rw [hr]
  clear hr hW hbW iv im iv' im' ov om ov' om' hv hm hv' hm'
  rcases hq with ⟨h1, rfl⟩ | ⟨h1, h2, rfl⟩ | ⟨h1, h2, h3, rfl⟩ | ⟨h1, h2, h3, rfl⟩
  · rw [h1] at AL
    clear h1
    go_enter Tryz.func63, Tryz.ntmps63
    go_wp2_with fail
    rw [HW.out]
    have HA := hid (Below.refl W.heap.size W)
    go_wp2_with fail
    refine (AL.out _).mono ?_
    rintro e w1 ⟨rfl, hb⟩
    replace HA := hid (below_on HA.out hb)
    clear d0 d1 d2 d3 d4 d5 e0 e1 e2 e3 e4 e5 hb
    obtain ⟨d0, d1, d2, d3, d4, d5⟩ := (hx.below HA.out).six
    obtain ⟨e0, e1, e2, e3, e4, e5⟩ := (hy.below HA.out).six
    go_wp2_with fail
    go_ret
    exact ⟨rfl, below_on HB.out HA.out⟩
  · rw [h1] at AL
    clear h1
    go_enter Tryz.func63, Tryz.ntmps63
    go_wp2_with fail
    rw [HW.out]
    have HA := hid (Below.refl W.heap.size W)
    go_wp2_with fail
    refine (AL.out _).mono ?_
    rintro e w1 ⟨rfl, hb⟩
    replace HA := hid (below_on HA.out hb)
    clear d0 d1 d2 d3 d4 d5 e0 e1 e2 e3 e4 e5 hb
    obtain ⟨d0, d1, d2, d3, d4, d5⟩ := (hx.below HA.out).six
    obtain ⟨e0, e1, e2, e3, e4, e5⟩ := (hy.below HA.out).six
    go_wp2_with fail
    go_ret
    exact ⟨rfl, below_on HB.out HA.out⟩
  · rw [h1] at AL
    clear h1
    rw [h3] at EV
    clear h3
    go_enter Tryz.func63, Tryz.ntmps63
    go_wp2_with fail
    rw [HW.out]
    have HA := hid (Below.refl W.heap.size W)
    go_wp2_with fail
    refine (AL.out _).mono ?_
    rintro e w1 ⟨rfl, hb⟩
    replace HA := hid (below_on HA.out hb)
    clear d0 d1 d2 d3 d4 d5 e0 e1 e2 e3 e4 e5 hb
    obtain ⟨d0, d1, d2, d3, d4, d5⟩ := (hx.below HA.out).six
    obtain ⟨e0, e1, e2, e3, e4, e5⟩ := (hy.below HA.out).six
    go_wp2_with fail
    refine (EV.out ⟨_, HA.out⟩).mono ?_
    rintro e w1 ⟨rfl, hb⟩
    replace HA := hid (below_on HA.out hb)
    clear d0 d1 d2 d3 d4 d5 e0 e1 e2 e3 e4 e5 hb
    obtain ⟨d0, d1, d2, d3, d4, d5⟩ := (hx.below HA.out).six
    obtain ⟨e0, e1, e2, e3, e4, e5⟩ := (hy.below HA.out).six
    go_wp2_with fail
    go_ret
    exact ⟨rfl, below_on HB.out HA.out⟩
  · rw [h1] at AL
    clear h1
    rw [h3] at EV
    clear h3
    go_enter Tryz.func63, Tryz.ntmps63
    go_wp2_with fail
    rw [HW.out]
    have HA := hid (Below.refl W.heap.size W)
    go_wp2_with fail
    refine (AL.out _).mono ?_
    rintro e w1 ⟨rfl, hb⟩
    replace HA := hid (below_on HA.out hb)
    clear d0 d1 d2 d3 d4 d5 e0 e1 e2 e3 e4 e5 hb
    obtain ⟨d0, d1, d2, d3, d4, d5⟩ := (hx.below HA.out).six
    obtain ⟨e0, e1, e2, e3, e4, e5⟩ := (hy.below HA.out).six
    go_wp2_with fail
    refine (EV.out ⟨_, HA.out⟩).mono ?_
    rintro e w1 ⟨rfl, hb⟩
    replace HA := hid (below_on HA.out hb)
    clear d0 d1 d2 d3 d4 d5 e0 e1 e2 e3 e4 e5 hb
    obtain ⟨d0, d1, d2, d3, d4, d5⟩ := (hx.below HA.out).six
    obtain ⟨e0, e1, e2, e3, e4, e5⟩ := (hy.below HA.out).six
    go_wp2_with fail
    refine (EM.out ⟨_, HA.out⟩).mono ?_
    rintro e w1 ⟨rfl, hb⟩
    replace HA := hid (below_on HA.out hb)
    clear d0 d1 d2 d3 d4 d5 e0 e1 e2 e3 e4 e5 hb
    obtain ⟨d0, d1, d2, d3, d4, d5⟩ := (hx.below HA.out).six
    obtain ⟨e0, e1, e2, e3, e4, e5⟩ := (hy.below HA.out).six
    go_wp2_with fail
    go_ret
    exact ⟨rfl, below_on HB.out HA.out⟩
end Go.Proofs.YtdjlbejhphbcoaaGreat
namespace Go.Proofs.YtdjlbejhphbcoaaGreat
open Go.RowKit
set_option linter.unusedVariables false

theorem numL_1 (x : Int) : numL [x] = x := by simp [numL]
theorem numL_2 (x y : Int) : numL [x, y] = x * 256 + y := by simp [numL]
theorem cls8_cons (x0 x1 x2 x3 : Int) (r : List Int) : cls8 (x0 :: x1 :: x2 :: x3 :: r) = x0 * 256 + x1 := numL_2 x0 x1
theorem fld8_cons (x0 x1 x2 x3 : Int) (r : List Int) : fld8 (x0 :: x1 :: x2 :: x3 :: r) = x2 := numL_1 x2
theorem len8_cons (x0 x1 x2 x3 : Int) (r : List Int) : len8 (x0 :: x1 :: x2 :: x3 :: r) = x3 := numL_1 x3
theorem rest8_cons (x0 x1 x2 x3 : Int) (r : List Int) : rest8 (x0 :: x1 :: x2 :: x3 :: r) = r := rfl
theorem four_cons {b : List Int} (h : 4 ≤ b.length) : ∃ x0 x1 x2 x3 r, b = x0 :: x1 :: x2 :: x3 :: r := by
  match b, h with
  | x0 :: x1 :: x2 :: x3 :: r, _ => exact ⟨x0, x1, x2, x3, r, rfl⟩
theorem byteAt_0 (n : Int) : byteAt n 0 = n % 256 := by simp [byteAt, p256]
theorem byteAt_1 (n : Int) : byteAt n 1 = n / 256 % 256 := by simp [byteAt, p256]
theorem field_half {F : Int} {H : Bool} (h0 : 0 ≤ F) (h1 : F ≤ 127) : byteAt (fieldN F H) 0 / 2 = F ∧ oddB (byteAt (fieldN F H) 0) = H := by
  rw [byteAt_0]
  cases H
  · have e : fieldN F false = 2 * F := rfl
    rw [e]
    refine ⟨by omega, ?_⟩
    simp only [oddB, beq_eq_false_iff_ne, ne_eq]
    omega
  · have e : fieldN F true = 2 * F + 1 := rfl
    rw [e]
    refine ⟨by omega, ?_⟩
    simp only [oddB, beq_iff_eq]
    omega
theorem bytes_cons (C F : Int) (H : Bool) (X : Int) (v m : List Int) : oxmBytes C F H X v m = byteAt C 1 :: byteAt C 0 :: byteAt (fieldN F H) 0 :: byteAt (behind8 C v.length m.length : Nat) 0 :: (expL C X ++ (v ++ m)) := by
  simp [oxmBytes, headL, bytesL]
theorem pos_z {F : Int} (h : 0 ≤ F ∧ F < 40) : 1 ≤ (fld F).z := by
  rcases forty h with rfl | rfl | rfl | rfl | rfl | rfl | rfl | rfl | rfl | rfl | rfl | rfl | rfl | rfl | rfl | rfl | rfl | rfl | rfl | rfl | rfl | rfl | rfl | rfl | rfl | rfl | rfl | rfl | rfl | rfl | rfl | rfl | rfl | rfl | rfl | rfl | rfl | rfl | rfl | rfl <;> decide +kernel

/-- what is so of bytes that begin with a value's -/
structure Begins (C F : Int) (H : Bool) (X : Int) (v m b : List Int) (k : Nat) : Prop where
  cls : cls8 b = C
  fd : fld8 b / 2 = F
  od : oddB (fld8 b) = H
  ln : len8 b = k
  hk : 1 ≤ k
  he : headE C F H k = 0
theorem right_begins {C F X : Int} {H : Bool} {v m : List Int} (h : rightB C F H X v m = true) (r : List Int) : Begins C F H X v m (byteAt C 1 :: byteAt C 0 :: byteAt (fieldN F H) 0 :: byteAt (behind8 C v.length m.length : Nat) 0 :: r) (behind8 C v.length m.length) := by
  have ft := right_facts h
  unfold rightB at h
  simp only [Bool.and_eq_true, decide_eq_true_eq] at h
  obtain ⟨⟨⟨h1, h2⟩, h3⟩, h4⟩ := h
  have hC : 0 ≤ C ∧ C < 65536 := by rcases ft.cls with h | h <;> omega
  have hf := field_half (H := H) ft.f0 ft.f1
  have hm := ft.most
  refine ⟨?_, ?_, ?_, ?_, ?_, h3⟩
  · rw [cls8_cons, byteAt_0, byteAt_1]; omega
  · rw [fld8_cons]; exact hf.1
  · rw [fld8_cons]; exact hf.2
  · rw [len8_cons, byteAt_0]; omega
  · rcases head_cls h3 with hc | hc
    · rw [hc] at h3 ⊢
      have hh := head_basic h3
      have hz := pos_z hh.1
      have := hh.2.1
      have hp : pieces8 H = 1 ∨ pieces8 H = 2 := by cases H <;> simp [pieces8]
      rcases hp with hp | hp <;> rw [hp] at this <;> omega
    · rw [hc] at h3 ⊢
      have := (head_extra h3).1
      omega
theorem back_raw {C F X : Int} {H : Bool} {v m : List Int} (h : rightB C F H X v m = true) (hX : 0 ≤ X) (b : List Int) : rawL (oxmBytes C F H X v m ++ b) = .ok ⟨C, F, H, X, v, m, (oxmBytes C F H X v m).length⟩ := by
  have ft := right_facts h
  have B := right_begins h (expL C X ++ (v ++ m) ++ b)
  have hs : oxmBytes C F H X v m ++ b = byteAt C 1 :: byteAt C 0 :: byteAt (fieldN F H) 0 :: byteAt (behind8 C v.length m.length : Nat) 0 :: (expL C X ++ (v ++ m) ++ b) := by rw [bytes_cons]; rfl
  have hlen := oxmBytes_length C F H X v m
  have hr : rest8 (oxmBytes C F H X v m ++ b) = expL C X ++ (v ++ m) ++ b := by rw [hs]; rfl
  rw [← hs] at B
  obtain ⟨s, hss⟩ : ∃ s, oxmBytes C F H X v m ++ b = s := ⟨_, rfl⟩
  have hsl : 4 ≤ s.length := by rw [← hss, List.length_append, hlen]; omega
  rw [hss] at B hr ⊢
  clear hs hss
  obtain ⟨e1, e2, e3, e4, e5, e6⟩ := B
  have hbody : body8 s = v ++ m ++ b := by
    unfold body8
    rw [e1, hr]
    unfold expL
    split
    · have e : (bytesL X 4).length = 4 := bytesL_length X 4
      rw [List.append_assoc, List.drop_append, List.drop_of_length_le (by omega), e]
      rfl
    · rfl
  have hboth : both8 s = v.length + m.length := by
    unfold both8
    rw [e1, e4]
    unfold behind8
    split <;> omega
  have hx : exp8 s = X := by
    unfold exp8
    rw [e1, hr]
    rcases ft.cls with hc | hc
    · have hx0 : X = 0 := by
        unfold rightB at h
        simp only [Bool.and_eq_true, decide_eq_true_eq] at h
        have := h.1.1.1
        simpa [room8, hc] using this
      simp [hc, hx0]
    · have e : (bytesL X 4).length = 4 := bytesL_length X 4
      have e2 : expL C X = bytesL X 4 := by simp [expL, hc]
      rw [if_pos hc, e2, List.append_assoc, List.take_append_of_le_length (by omega), List.take_of_length_le (by omega), numL_bytesL]
      have := ft.x1
      simp only [p256]
      omega
  have hrl : ¬ (rest8 s).length < (len8 s).toNat := by
    rw [hr, e4]
    simp only [List.length_append, expL_length, Int.toNat_natCast, behind8]
    split <;> omega
  have hv : val8 s = v := by
    unfold val8
    rw [hbody, hboth, e3]
    have hl := ft.len
    cases H
    · have hm : m.length = 0 := hl
      rw [show (v.length + m.length) / pieces8 false = v.length by simp [pieces8, hm], List.append_assoc, List.take_left]
    · have hm : m.length = v.length := hl
      rw [show (v.length + m.length) / pieces8 true = v.length by simp [pieces8, hm]; omega, List.append_assoc, List.take_left]
  have hm : mask8 s = m := by
    unfold mask8
    rw [hbody, hboth, e3]
    have hl := ft.len
    cases H
    · have hm : m.length = 0 := hl
      have : m = [] := List.eq_nil_of_length_eq_zero hm
      simp [this]
    · have hm : m.length = v.length := hl
      rw [if_pos rfl, show (v.length + m.length) / 2 = v.length by omega, List.append_assoc, List.drop_left]
      rw [← hm, List.take_left]
  have hn : (len8 s).toNat = behind8 C v.length m.length := by rw [e4]; exact Int.toNat_natCast _
  have he : ¬ headE (cls8 s) (fld8 s / 2) (oddB (fld8 s)) (len8 s) ≠ 0 := by rw [e1, e2, e3, e4]; simpa using e6
  unfold rawL
  rw [if_neg (by omega), if_neg he, if_neg hrl, e1, e2, e3, hx, hv, hm, hn, hlen]
theorem back_dec {C F X : Int} {H : Bool} {v m : List Int} (h : rightB C F H X v m = true) (hX : 0 ≤ X) (b : List Int) : decL (oxmBytes C F H X v m ++ b) = .ok ⟨C, F, H, X, v, m, (oxmBytes C F H X v m).length⟩ := by
  have hr := back_raw h hX b
  unfold rightB at h
  simp only [Bool.and_eq_true, decide_eq_true_eq] at h
  unfold decL
  rw [hr]
  simp only [h.2, if_true]
/-- a byte less -/
theorem back_less {C F X : Int} {H : Bool} {v m : List Int} (h : rightB C F H X v m = true) : decL ((oxmBytes C F H X v m).take ((oxmBytes C F H X v m).length - 1)) = .error 1026 ∧ 5 ≤ (oxmBytes C F H X v m).length := by
  have hlen := oxmBytes_length C F H X v m
  have B0 := right_begins h []
  have hk := B0.hk
  obtain ⟨k, hkk⟩ : ∃ k, behind8 C v.length m.length = k + 1 := ⟨behind8 C v.length m.length - 1, by omega⟩
  have B := right_begins h ((expL C X ++ (v ++ m)).take k)
  have hs : (oxmBytes C F H X v m).take ((oxmBytes C F H X v m).length - 1) = byteAt C 1 :: byteAt C 0 :: byteAt (fieldN F H) 0 :: byteAt (behind8 C v.length m.length : Nat) 0 :: (expL C X ++ (v ++ m)).take k := by
    rw [hlen, hkk, show 4 + (k + 1) - 1 = k + 1 + 1 + 1 + 1 by omega, bytes_cons, hkk]
    rfl
  have hel : (expL C X ++ (v ++ m)).length = k + 1 := by
    simp only [List.length_append, expL_length]
    unfold behind8 at hkk
    split at hkk <;> simp_all <;> omega
  rw [← hs] at B
  have hr : rest8 ((oxmBytes C F H X v m).take ((oxmBytes C F H X v m).length - 1)) = (expL C X ++ (v ++ m)).take k := by rw [hs]; rfl
  have hsl : 4 ≤ ((oxmBytes C F H X v m).take ((oxmBytes C F H X v m).length - 1)).length := by rw [hs]; simp
  obtain ⟨s, hss⟩ : ∃ s, (oxmBytes C F H X v m).take ((oxmBytes C F H X v m).length - 1) = s := ⟨_, rfl⟩
  rw [hss] at B hr hsl ⊢
  obtain ⟨e1, e2, e3, e4, e5, e6⟩ := B
  have he : ¬ headE (cls8 s) (fld8 s / 2) (oddB (fld8 s)) (len8 s) ≠ 0 := by rw [e1, e2, e3, e4]; simpa using e6
  have hrl : (rest8 s).length < (len8 s).toNat := by rw [hr, e4, List.length_take, hel, Int.toNat_natCast]; omega
  refine ⟨?_, by omega⟩
  unfold decL rawL
  rw [if_neg (by omega), if_neg he, if_pos hrl]

theorem field_whole {n : Int} (h0 : 0 ≤ n) (h1 : n ≤ 255) : fieldN (n / 2) (oddB n) = n := by
  unfold fieldN oddB
  by_cases h : n % 2 = 1
  · simp [h]; omega
  · simp [h]; omega
/-- what is decoded may be, and is those bytes -/
theorem dec_right {b : List Int} {o : Oxm8} (h : decL b = .ok o) (ho : Octets b) : rightB o.C o.F o.H o.X o.v o.m = true ∧ o.n ≤ b.length ∧ oxmBytes o.C o.F o.H o.X o.v o.m = b.take o.n ∧ 0 ≤ o.X := by
  have hraw : rawL b = .ok o ∧ bytesE o.C o.F o.H o.v o.m = 0 := by
    unfold decL at h
    cases hr : rawL b with
    | error q => rw [hr] at h; simp at h
    | ok o' =>
      rw [hr] at h
      simp only at h
      by_cases hb : bytesE o'.C o'.F o'.H o'.v o'.m = 0
      · rw [if_pos hb] at h
        obtain rfl : o' = o := by simpa using h
        exact ⟨rfl, hb⟩
      · rw [if_neg hb] at h; simp at h
  obtain ⟨hraw, hb⟩ := hraw
  have hvm := (raw_octets hraw ho).2.2.2.2
  unfold rawL at hraw
  by_cases h4 : b.length < 4
  · rw [if_pos h4] at hraw; simp at hraw
  rw [if_neg h4] at hraw
  by_cases hE : headE (cls8 b) (fld8 b / 2) (oddB (fld8 b)) (len8 b) ≠ 0
  · rw [if_pos hE] at hraw; simp at hraw
  rw [if_neg hE] at hraw
  by_cases hr : (rest8 b).length < (len8 b).toNat
  · rw [if_pos hr] at hraw; simp at hraw
  rw [if_neg hr] at hraw
  obtain rfl : _ = o := by simpa using hraw
  simp only at hb hvm ⊢
  have hE' : headE (cls8 b) (fld8 b / 2) (oddB (fld8 b)) (len8 b) = 0 := by simpa using hE
  obtain ⟨x0, x1, x2, x3, r, rfl⟩ := four_cons (b := b) (by omega)
  have q0 := ho x0 (by simp)
  have q1 := ho x1 (by simp)
  have q2 := ho x2 (by simp)
  have q3 := ho x3 (by simp)
  have orr : Octets r := fun y hy => ho y (by simp [hy])
  rw [len8_cons, rest8_cons] at hr
  have hL : (x3.toNat : Int) = x3 := Int.toNat_of_nonneg q3.1
  -- lengths
  have hbody : (body8 (x0 :: x1 :: x2 :: x3 :: r)).length ≥ both8 (x0 :: x1 :: x2 :: x3 :: r) ∧ both8 (x0 :: x1 :: x2 :: x3 :: r) + (if cls8 (x0 :: x1 :: x2 :: x3 :: r) = 65535 then 4 else 0) = x3.toNat ∧ (expL (cls8 (x0 :: x1 :: x2 :: x3 :: r)) (exp8 (x0 :: x1 :: x2 :: x3 :: r)) ++ (body8 (x0 :: x1 :: x2 :: x3 :: r)).take (both8 (x0 :: x1 :: x2 :: x3 :: r)) = r.take x3.toNat) ∧ room8 (cls8 (x0 :: x1 :: x2 :: x3 :: r)) (x2 / 2) (exp8 (x0 :: x1 :: x2 :: x3 :: r)) = true ∧ 0 ≤ exp8 (x0 :: x1 :: x2 :: x3 :: r) := by
    unfold body8 both8 exp8 expL room8
    rw [rest8_cons, len8_cons]
    by_cases hc : cls8 (x0 :: x1 :: x2 :: x3 :: r) = 65535
    · rw [len8_cons, hc] at hE'
      have hh := head_extra hE'
      have hl4 : (r.take 4).length = 4 := by rw [List.length_take]; omega
      have hb4 := numL_snoc_bound (orr.take 4)
      rw [hl4] at hb4
      have hp4 : p256 4 = 4294967296 := by decide
      simp only [hc, if_true]
      refine ⟨by rw [List.length_drop]; omega, by omega, ?_, by simp; omega, hb4.1⟩
      have e := bytesL_numL (orr.take 4)
      rw [hl4] at e
      rw [e, show x3.toNat = 4 + (x3.toNat - 4) by omega, List.take_add]
      simp
    · simp only [hc, if_false]
      refine ⟨by omega, by omega, by simp, by simp, by simp⟩
  obtain ⟨hb1, hb2, hb3, hb4, hb5⟩ := hbody
  obtain ⟨bd, hbd⟩ : ∃ l, body8 (x0 :: x1 :: x2 :: x3 :: r) = l := ⟨_, rfl⟩
  obtain ⟨bo, hbo⟩ : ∃ l, both8 (x0 :: x1 :: x2 :: x3 :: r) = l := ⟨_, rfl⟩
  obtain ⟨ex, hex⟩ : ∃ l, exp8 (x0 :: x1 :: x2 :: x3 :: r) = l := ⟨_, rfl⟩
  obtain ⟨cl, hcl⟩ : ∃ l, cls8 (x0 :: x1 :: x2 :: x3 :: r) = l := ⟨_, rfl⟩
  have hcl2 : cl = x0 * 256 + x1 := by rw [← hcl]; exact cls8_cons ..
  obtain ⟨vv, hvv⟩ : ∃ l, val8 (x0 :: x1 :: x2 :: x3 :: r) = l := ⟨_, rfl⟩
  obtain ⟨mm, hmm⟩ : ∃ l, mask8 (x0 :: x1 :: x2 :: x3 :: r) = l := ⟨_, rfl⟩
  have hv2 : vv = bd.take (bo / pieces8 (oddB x2)) := by rw [← hvv]; unfold val8; rw [hbd, hbo, fld8_cons]
  have hm2 : mm = if oddB x2 then (bd.drop (bo / 2)).take (bo / 2) else [] := by rw [← hmm]; unfold mask8; rw [hbd, hbo, fld8_cons]
  rw [hbd, hbo] at hb1
  rw [hbo, hcl] at hb2
  rw [hcl, hex, hbd, hbo] at hb3
  rw [hcl, hex] at hb4
  rw [hex] at hb5
  rw [hvv, hmm, hcl, fld8_cons] at hb
  rw [hvv, hmm, fld8_cons] at hvm
  rw [hcl, fld8_cons, len8_cons] at hE'
  rw [hvv, hmm, hcl, hex, fld8_cons, len8_cons]
  clear hvv hmm hcl hex hbd hbo hE hraw
  have hjoin : vv ++ mm = bd.take bo ∧ mm.length = maskZ (oddB x2) vv.length ∧ vv.length + mm.length = bo := by
    cases hH : oddB x2
    · rw [hH] at hv2 hm2
      have : mm = [] := by simpa using hm2
      rw [this, hv2]
      refine ⟨by simp [pieces8], rfl, by simp [pieces8]; omega⟩
    · rw [hH] at hv2 hm2
      have hmm2 : mm = (bd.drop (bo / 2)).take (bo / 2) := by simpa using hm2
      have hvv2 : vv = bd.take (bo / 2) := by simpa [pieces8] using hv2
      have heven : bo = bo / 2 + bo / 2 := by
        rw [hH] at hE'
        rcases head_cls hE' with hc | hc
        · rw [hc] at hE' hb2
          have := (head_basic hE').2.1
          simp [pieces8] at this
          simp at hb2
          omega
        · rw [hc] at hE' hb2
          have := (head_extra hE').2.1
          simp [pieces8] at this
          simp at hb2
          omega
      have hl1 : vv.length = bo / 2 := by rw [hvv2, List.length_take]; omega
      have hl2 : mm.length = bo / 2 := by rw [hmm2, List.length_take, List.length_drop]; omega
      refine ⟨?_, by rw [hl1, hl2]; rfl, by omega⟩
      rw [hvv2, hmm2, ← List.take_add, ← heven]
  obtain ⟨hj1, hj2, hj3⟩ := hjoin
  have hbeh : (behind8 cl vv.length mm.length : Int) = x3 := by
    unfold behind8
    split at hb2 <;> simp_all <;> omega
  refine ⟨?_, by simp; omega, ?_, hb5⟩
  · unfold rightB
    rw [hbeh]
    simp [hb4, hj2, hE', hb]
  · rw [bytes_cons, field_whole q2.1 q2.2, hbeh, byteAt_0, byteAt_0, byteAt_0, byteAt_1, hj1, hb3, hcl2]
    have e0 : (x0 * 256 + x1) / 256 % 256 = x0 := by omega
    have e1 : (x0 * 256 + x1) % 256 = x1 := by omega
    have e2 : x2 % 256 = x2 := by omega
    have e3 : x3 % 256 = x3 := by omega
    rw [e0, e1, e2, e3, show 4 + x3.toNat = x3.toNat + 1 + 1 + 1 + 1 by omega]
    rfl
end Go.Proofs.YtdjlbejhphbcoaaGreat
namespace Go.Proofs.YtdjlbejhphbcoaaGreat
open Go.RowKit
set_option linter.unusedVariables false

theorem dec_raw {b : List Int} {o : Oxm8} (h : decL b = .ok o) : rawL b = .ok o := by
  unfold decL at h
  cases hr : rawL b with
  | error q => rw [hr] at h; simp at h
  | ok o' =>
    rw [hr] at h
    simp only at h
    by_cases hb : bytesE o'.C o'.F o'.H o'.v o'.m = 0
    · rw [if_pos hb] at h
      obtain rfl : o' = o := by simpa using h
      rfl
    · rw [if_neg hb] at h; simp at h
theorem oxm_octets {C F X : Int} {H : Bool} {v m : List Int} (ov : Octets v) (om : Octets m) : Octets (oxmBytes C F H X v m) := by
  unfold oxmBytes headL expL
  refine Octets.append (Octets.append (bytesL_octets _ _) (Octets.append (bytesL_octets _ _) (Octets.append (bytesL_octets _ _) (fun x hx => by simp at hx)))) (Octets.append ?_ (Octets.append ov om))
  split
  · exact bytesL_octets _ _
  · intro x hx; simp at hx
end Go.Proofs.YtdjlbejhphbcoaaGreat
