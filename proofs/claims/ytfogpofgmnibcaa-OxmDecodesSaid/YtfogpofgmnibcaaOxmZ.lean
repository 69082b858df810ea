/- Layer 8's theorem. -/
import Derived.Test.YtfogpofgmnibcaaOxmY
import Derived.Test.YtfogpofgmnibcaaOxmV
import Derived.Deep.RegionHeld3
namespace Go.Proofs.Ytfogpofgmnibcaa
open Go.RowKit
set_option linter.unusedVariables false

theorem dec_raw {b : List Int} {o : Oxm8} (h : decL b = .ok o) : rawL b = .ok o := by
  unfold decL at h
  cases hr : rawL b with
  | error q => rw [hr] at h; simp at h
  | ok o' =>
    rw [hr] at h
    simp only at h
    by_cases hb : bytesE o'.C o'.F o'.H o'.v o'.m = 0
    · rw [if_pos hb] at h
      obtain rfl : o' = o := by simpa using h
      rfl
    · rw [if_neg hb] at h; simp at h
theorem oxm_octets {C F X : Int} {H : Bool} {v m : List Int} (ov : Octets v) (om : Octets m) : Octets (oxmBytes C F H X v m) := by
  unfold oxmBytes headL expL
  refine Octets.append (Octets.append (bytesL_octets _ _) (Octets.append (bytesL_octets _ _) (Octets.append (bytesL_octets _ _) (fun x hx => by simp at hx)))) (Octets.append ?_ (Octets.append ov om))
  split
  · exact bytesL_octets _ _
  · intro x hx; simp at hx
theorem sameB_refl8 (C F : Int) (H : Bool) (X : Int) (v m : List Int) : sameB C F H X C F H X v m v m = true := by simp [sameB, alikeB]
theorem rfl_beq8z (l : List Int) : (l == l) = true := by simp
theorem dec_err8 {b : List Int} {w : World} {e : Ending} {w' : World} {q : Int} (hd : decL b = .error q) (h : DecPost (decL b) w e w') : q ≠ 0 ∧ e = .returned (.tuple #[.agg #[.int .i64 0, .int .i64 0, .bool false, .int .u64 0, .slice none 0 0, .slice none 0 0], .int .i64 0, .int .i64 q]) ∧ Below w.heap.size w w' := by
  rcases h with ⟨q', hq, h0, he, hb⟩ | ⟨o, _, _, _, _, hq, _⟩
  · rw [hd] at hq
    obtain rfl : q = q' := by simpa using hq
    exact ⟨h0, he, hb⟩
  · rw [hd] at hq; simp at hq
theorem dec_ok8 {b : List Int} {w : World} {e : Ending} {w' : World} {o : Oxm8} (hd : decL b = .ok o) (h : DecPost (decL b) w e w') : ∃ a1 c1 a2 c2, e = .returned (.tuple #[.agg #[.int .i64 o.C, .int .i64 o.F, .bool o.H, .int .u64 o.X, .slice a1 o.v.length c1, .slice a2 o.m.length c2], .int .i64 o.n, .int .i64 0]) ∧ Below w.heap.size w w' ∧ Ints .u8 w' a1 o.v ∧ Ints .u8 w' a2 o.m ∧ o.m.length ≤ c2 := by
  rcases h with ⟨q', hq, _⟩ | ⟨o', a1, c1, a2, c2, hq, h2⟩
  · rw [hd] at hq; simp at hq
  · rw [hd] at hq
    obtain rfl : o = o' := by simpa using hq
    exact ⟨a1, c1, a2, c2, h2⟩
set_option maxRecDepth 100000 in
set_option maxHeartbeats 2000000 in
theorem decode8_free (b l : List Int) (a : Option Addr) (c : Nat) (hl : b.take 208 = l) (hbc : b.length ≤ c) (ho : Octets b) (w : World) (hI : Ints .u8 w a b) (k : Nat) (hk : l.length = k) (hm : (min (b.length : Int) 208).toNat = k) :
    Calls Try.prog 15 #[.slice a b.length c] w (DecPost (decL b) w) := by
  have hk2 : k ≤ 208 := by rw [← hk, ← hl, List.length_take]; omega
  have HO : Hid (Octets l) := by rw [← hl]; exact ho.take 208
  obtain ⟨W, hW, hbW, hbox⟩ := oxm_box w 0 0 false 0 none 0 0 none 0 0
  have HW := hid hW
  have HBW := hid hbW
  have HN := hid (new_any l a c 1026 1026 W (by omega) HO.out (by rw [← hl]; exact (hI.take 208).below hbW))
  rw [hk] at HN
  have hraw : rawL l = rawL b := by rw [← hl]; exact rawL_take b
  have HRAW := hid hraw
  have HOB := hid ho
  have HM := hid hm
  clear hI ho hl hk hW hbW hraw hm
  go_enter Try.func15, Try.ntmps15
  go_wp2_with fail
  rw [HW.out, HM.out]
  refine HN.out.mono ?_
  rintro e w1 ⟨g, rfl, hc1, hb1, hg1, hg2⟩
  have hR1 := hbox.below hb1
  have hs1 := hbox.lt
  have HB1 := hid hb1
  clear hbox hb1
  go_wp2_with fail
  refine (read8_any hc1 (by omega)).mono ?_
  intro e w2 hP
  rw [HRAW.out] at hP
  have hne : w.heap.size ≠ g := by omega
  rcases hP with ⟨q, hq, hq0, C, F, H, X, a1, n1, c1, a2, n2, c2, l5, r5, rfl, hc2, hb2⟩ | ⟨⟨C, F, H, X, v, m, n⟩, hq, a1, c1, a2, c2, rfl, i1, i2, hmc, ⟨hw1, hw2⟩, ⟨l5, hc2⟩, hb2⟩
  · have hD : Hid (decL b = .error q) := by show _ = _; simp only [decL, hq]
    have hR2 := box_by hR1 hb2 hne
    have hq1 : (q != 0) = true := by simpa using hq0
    have HQ := hid hq0
    have HB2 := hid (below_row HB1.out (by omega) hb2)
    have hlt2 := hR2.lt
    obtain ⟨W2, hW2, hbW2, hX2⟩ := oxm_box w2 C F H X a1 n1 c1 a2 n2 c2
    have HW2 := hid hW2
    have hc3 := hc2.below hbW2
    have hR3 := hR2.below hbW2
    have HB3 := hid (below_on HB2.out hbW2)
    clear hc1 hc2 hq hq0 hR1 hR2 hW2 hb2 hbW2 hg1 hg2
    go_wp2_with fail
    rw [HW2.out]
    refine hc3.err.mono ?_
    rintro e w' ⟨rfl, rfl⟩
    have z := hR3.free
    obtain ⟨d0, d1, d2, d3, d4, d5⟩ := hR3.six
    go_wp2_with fail
    have hkk := hR3.set6 (.int .i64 0) (.int .i64 0) (.bool false) (.int .u64 0) (.slice none 0 0) (.slice none 0 0)
    obtain ⟨k0, k1, k2, k3, k4, k5⟩ := hkk.six
    refine bodyPost_ret (v := .tuple #[.agg #[.int .i64 0, .int .i64 0, .bool false, .int .u64 0, .slice none 0 0, .slice none 0 0], .int .i64 0, .int .i64 q]) (by simp [results, Try.results15, go_sem, k0, k1, k2, k3, k4, k5]) rfl (.inl ⟨q, hD.out, HQ.out, rfl, ?_⟩)
    repeat (with_reducible refine Below.setCell ?_ (by simp) _)
    exact below_on HBW.out HB3.out
  · simp only at i1 i2 hmc hc2
    have hoc := raw_octets hq HOB.out
    obtain ⟨ov, om, lv, lm, hvm⟩ := hoc
    simp only at ov om lv lm hvm
    have HW3 := hid (fun W iv im => wrongBytes_any C F H X a1 c1 a2 c2 v m (fun _ h => Nat.le_of_eq (hvm h)) (by omega) hmc ov om W iv im)
    have hR2 := box_by hR1 hb2 hne
    have HB2 := hid (below_row HB1.out (by omega) hb2)
    have hlt2 := hR2.lt
    obtain ⟨W2, hW2, hbW2, hX2⟩ := oxm_box w2 C F H X a1 v.length c1 a2 m.length c2
    have HW2 := hid hW2
    have hc3 := hc2.below hbW2
    have hR3 := hR2.below hbW2
    have HB3 := hid (below_on HB2.out hbW2)
    have I1 := hid (i1.below hbW2)
    have I2 := hid (i2.below hbW2)
    have HMC := hid hmc
    obtain ⟨d0, d1, d2, d3, d4, d5⟩ := hX2.six
    have hRX : w2.heap.size ≠ w.heap.size := by omega
    have nR1 : ∀ q : Addr, a1 = some q → q.block ≠ w.heap.size := fun q hq => by have := hw1 q hq; omega
    have nR2 : ∀ q : Addr, a2 = some q → q.block ≠ w.heap.size := fun q hq => by have := hw2 q hq; omega
    clear hw1 hw2
    by_cases hE : bytesE C F H v m = 0
    · have hD : Hid (decL b = .ok ⟨C, F, H, X, v, m, n⟩) := by show _ = _; simp only [decL, hq, hE, if_true]
      rw [hE] at HW3
      clear hc1 hc2 hq hR1 hR2 hW2 hb2 hbW2 hg1 hg2 hE ov om lv lm hvm i1 i2 hmc
      go_wp2_with fail
      rw [HW2.out]
      refine hc3.err.mono ?_
      rintro e w' ⟨rfl, rfl⟩
      go_wp2_with fail
      refine (HW3.out _ I1.out I2.out).mono ?_
      rintro e w4 ⟨rfl, hb4⟩
      have hc5 := hc3.below hb4
      have hR5 := hR3.below hb4
      have hX5 := hX2.below hb4
      have HB5 := hid (below_on HB3.out hb4)
      have I15 := hid (I1.out.below hb4)
      have I25 := hid (I2.out.below hb4)
      clear d0 d1 d2 d3 d4 d5 hc3 hR3 hX2 hb4 HW3
      obtain ⟨d0, d1, d2, d3, d4, d5⟩ := hX5.six
      have z := hR5.free
      obtain ⟨e0, e1, e2, e3, e4, e5⟩ := hR5.six
      have n1 : ¬ w2.heap.size = w.heap.size := hRX
      have n2 : ¬ w.heap.size = w2.heap.size := fun e => hRX e.symm
      have hc6 := hid (hc5.below (below_drew8 w4))
      go_wp2_with fail
      go_region_held3 (fun w' => w'.cell? ⟨w2.heap.size, 0, none⟩ = some (.int .i64 C) ∧ w'.cell? ⟨w2.heap.size, 1, none⟩ = some (.int .i64 F) ∧ w'.cell? ⟨w2.heap.size, 2, none⟩ = some (.bool H) ∧ w'.cell? ⟨w2.heap.size, 3, none⟩ = some (.int .u64 X) ∧ w'.cell? ⟨w2.heap.size, 4, none⟩ = some (.slice a1 v.length c1) ∧ w'.cell? ⟨w2.heap.size, 5, none⟩ = some (.slice a2 m.length c2)) (go_keep) (first
        | (go_at_call 39; refine hc6.out.pos.mono ?_; rintro e w' ⟨rfl, rfl⟩)
        | fail)
      go_wp2_with fail
      have hkk := hR5.set6 (.int .i64 C) (.int .i64 F) (.bool H) (.int .u64 X) (.slice a1 v.length c1) (.slice a2 m.length c2)
      replace hkk := hkk.drew
      obtain ⟨k0, k1, k2, k3, k4, k5⟩ := hkk.six
      refine bodyPost_ret (v := .tuple #[.agg #[.int .i64 C, .int .i64 F, .bool H, .int .u64 X, .slice a1 v.length c1, .slice a2 m.length c2], .int .i64 n, .int .i64 0]) (by simp [results, Try.results15, go_sem, k0, k1, k2, k3, k4, k5]) rfl (.inr ⟨⟨C, F, H, X, v, m, n⟩, a1, c1, a2, c2, hD.out, rfl, ?_, ?_, ?_, HMC.out⟩)
      · with_reducible refine Below.drew ?_
        repeat (with_reducible refine Below.setCell ?_ (by simp) _)
        exact below_on HBW.out HB5.out
      · refine Ints.below ?_ (below_drew8 _)
        repeat (refine Ints.apart ?_ _ nR1)
        exact I15.out
      · refine Ints.below ?_ (below_drew8 _)
        repeat (refine Ints.apart ?_ _ nR2)
        exact I25.out
    · have hD : Hid (decL b = .error (bytesE C F H v m)) := by show _ = _; simp only [decL, hq, if_neg hE]
      obtain ⟨q, hqe⟩ : ∃ q, bytesE C F H v m = q := ⟨_, rfl⟩
      rw [hqe] at HW3 hD hE
      have hq1 : (q != 0) = true := by simpa using hE
      have HQ := hid hE
      clear hc1 hc2 hq hR1 hR2 hW2 hb2 hbW2 hg1 hg2 hE ov om lv lm hvm i1 i2 hmc hqe
      go_wp2_with fail
      rw [HW2.out]
      refine hc3.err.mono ?_
      rintro e w' ⟨rfl, rfl⟩
      go_wp2_with fail
      refine (HW3.out _ I1.out I2.out).mono ?_
      rintro e w4 ⟨rfl, hb4⟩
      have hR5 := hR3.below hb4
      have HB5 := hid (below_on HB3.out hb4)
      clear d0 d1 d2 d3 d4 d5 hc3 hR3 hX2 hb4 HW3
      have z := hR5.free
      obtain ⟨d0, d1, d2, d3, d4, d5⟩ := hR5.six
      go_wp2_with fail
      have hkk := hR5.set6 (.int .i64 0) (.int .i64 0) (.bool false) (.int .u64 0) (.slice none 0 0) (.slice none 0 0)
      obtain ⟨k0, k1, k2, k3, k4, k5⟩ := hkk.six
      refine bodyPost_ret (v := .tuple #[.agg #[.int .i64 0, .int .i64 0, .bool false, .int .u64 0, .slice none 0 0, .slice none 0 0], .int .i64 0, .int .i64 q]) (by simp [results, Try.results15, go_sem, k0, k1, k2, k3, k4, k5]) rfl (.inl ⟨q, hD.out, HQ.out, rfl, ?_⟩)
      repeat (with_reducible refine Below.setCell ?_ (by simp) _)
      exact below_on HBW.out HB5.out

set_option maxRecDepth 100000 in
set_option maxHeartbeats 4000000 in
theorem OxmBack_no_err (C F : Int) (H : Bool) (X : Int) (va : Option Addr) (vc : Nat) (ma : Option Addr) (mc : Nat) (v m bs : List Int) (a : Option Addr) (c : Nat) (hx : 0 ≤ X) (hv : v.length ≤ 300) (hm : m.length ≤ 300) (hmc : m.length ≤ mc) (ov : Octets v) (om : Octets m) (hbl : bs.length ≤ 600) (hbc : bs.length ≤ c) (hc : c ≤ 9223372036854775807) (ob : Octets bs) (w : World) (iv : Ints .u8 w va v) (im : Ints .u8 w ma m) (ib : Ints .u8 w a bs) (hr : rightB C F H X v m = false) {q : Int} (hdb : decL bs = .error q) :
    Calls Try.prog 6 #[.agg #[.int .i64 C, .int .i64 F, .bool H, .int .u64 X, .slice va v.length vc, .slice ma m.length mc], .slice a bs.length c] w fun e w' => e = .returned (.bool true) ∧ Below w.heap.size w w' := by
  obtain ⟨W, hW, hbW, hbox⟩ := oxm_box w C F H X va v.length vc ma m.length mc
  have HW := hid hW
  have HB := hid hbW
  have IV := hid iv
  have IM := hid im
  have IB := hid ib
  have FW := fun W => few8_any C F H X va v.length vc ma m.length mc W
  rw [decide_eq_true (show v.length ≤ 300 ∧ m.length ≤ 300 from ⟨hv, hm⟩)] at FW
  have FW := hid FW
  have i600 : (bs.length : Int) ≤ 600 := by omega
  have ibc : (bs.length : Int) ≤ (c : Int) := by omega
  have EN := hid (fun W iv im => encode8_any C F H X va vc ma mc v m (by omega) (by omega) hmc ov om W iv im hx)
  have SZ := hid (fun W iv im => size8_any C F H X va vc ma mc v m (by omega) (by omega) hmc ov om W iv im)
  have DB := hid (fun W ib => decode8_any bs a c hbc hc ob W ib)
  obtain ⟨d0, d1, d2, d3, d4, d5⟩ := hbox.six
  clear hW hbW iv im ib
  have HR := hid hr
  have HDB := hid hdb
  clear hr hdb hx hv hm hmc ov om hbl hbc hc ob
  go_enter Try.func6, Try.ntmps6
  go_wp2_with fail
  rw [HW.out]
  go_wp2_with fail
  refine (FW.out _).mono ?_
  rintro e w1 ⟨rfl, hb⟩
  have HA := hid (below_on HB.out hb)
  have hx1 := hbox.below hb
  clear hb hbox d0 d1 d2 d3 d4 d5
  obtain ⟨d0, d1, d2, d3, d4, d5⟩ := hx1.six
  go_wp2_with fail
  refine (EN.out _ (IV.out.below HA.out) (IM.out.below HA.out)).mono ?_
  rintro e w2 (⟨_, rfl, hb⟩ | ⟨hq, _⟩)
  case inr => rw [HR.out] at hq; simp at hq
  have HZ := hid (below_on HA.out hb)
  clear hb hx1 d0 d1 d2 d3 d4 d5 HA
  go_wp2_with fail
  refine (DB.out _ (IB.out.below HZ.out)).mono ?_
  intro e w20 hD
  obtain ⟨hq0, rfl, hb⟩ := dec_err8 HDB.out hD
  have HZ2 := hid (below_on HZ.out hb)
  clear hD hb
  go_wp2_with fail
  refine (sure8_any _).mono ?_
  rintro e w21 ⟨rfl, hb⟩
  go_wp2_with fail
  go_ret
  exact ⟨rfl, below_on HZ2.out (below_on (below_alloc _ _) hb)⟩

set_option maxRecDepth 100000 in
set_option maxHeartbeats 4000000 in
theorem OxmBack_no_ok (C F : Int) (H : Bool) (X : Int) (va : Option Addr) (vc : Nat) (ma : Option Addr) (mc : Nat) (v m bs : List Int) (a : Option Addr) (c : Nat) (hx : 0 ≤ X) (hv : v.length ≤ 300) (hm : m.length ≤ 300) (hmc : m.length ≤ mc) (ov : Octets v) (om : Octets m) (hbl : bs.length ≤ 600) (hbc : bs.length ≤ c) (hc : c ≤ 9223372036854775807) (ob : Octets bs) (w : World) (iv : Ints .u8 w va v) (im : Ints .u8 w ma m) (ib : Ints .u8 w a bs) (hr : rightB C F H X v m = false) {C' F' : Int} {H' : Bool} {X' : Int} {v' m' : List Int} {n' : Nat} (hdb : decL bs = .ok ⟨C', F', H', X', v', m', n'⟩) :
    Calls Try.prog 6 #[.agg #[.int .i64 C, .int .i64 F, .bool H, .int .u64 X, .slice va v.length vc, .slice ma m.length mc], .slice a bs.length c] w fun e w' => e = .returned (.bool true) ∧ Below w.heap.size w w' := by
  obtain ⟨W, hW, hbW, hbox⟩ := oxm_box w C F H X va v.length vc ma m.length mc
  have HW := hid hW
  have HB := hid hbW
  have IV := hid iv
  have IM := hid im
  have IB := hid ib
  have FW := fun W => few8_any C F H X va v.length vc ma m.length mc W
  rw [decide_eq_true (show v.length ≤ 300 ∧ m.length ≤ 300 from ⟨hv, hm⟩)] at FW
  have FW := hid FW
  have i600 : (bs.length : Int) ≤ 600 := by omega
  have ibc : (bs.length : Int) ≤ (c : Int) := by omega
  have EN := hid (fun W iv im => encode8_any C F H X va vc ma mc v m (by omega) (by omega) hmc ov om W iv im hx)
  have SZ := hid (fun W iv im => size8_any C F H X va vc ma mc v m (by omega) (by omega) hmc ov om W iv im)
  have DB := hid (fun W ib => decode8_any bs a c hbc hc ob W ib)
  obtain ⟨d0, d1, d2, d3, d4, d5⟩ := hbox.six
  clear hW hbW iv im ib
  have HR := hid hr
  have HDB := hid hdb
  obtain ⟨hr', hn', hbt, hx'⟩ := dec_right hdb ob
  have hro := raw_octets (dec_raw hdb) ob
  simp only at hr' hn' hbt hx' hro
  have HR' := hid hr'
  have HVM' : Hid (v'.length ≤ 255 ∧ m'.length ≤ 255) := ⟨hro.2.2.1, hro.2.2.2.1⟩
  have HOV' := hid hro.1
  have HOM' := hid hro.2.1
  have HX' := hid hx'
  have HBT := hid hbt
  have HTN : Hid ((bs.take n').length = n') := by show _ = _; rw [List.length_take]; omega
  have HN6 : Hid (n' ≤ 600) := by show _ ≤ _; omega
  have in1 : (n' : Int) ≤ (bs.length : Int) := by omega
  have in2 : (n' : Int) ≤ (c : Int) := by omega
  clear hr' hn' hbt hx' hro
  clear hr hdb hx hv hm hmc ov om hbl hbc hc ob
  go_enter Try.func6, Try.ntmps6
  go_wp2_with fail
  rw [HW.out]
  go_wp2_with fail
  refine (FW.out _).mono ?_
  rintro e w1 ⟨rfl, hb⟩
  have HA := hid (below_on HB.out hb)
  have hx1 := hbox.below hb
  clear hb hbox d0 d1 d2 d3 d4 d5
  obtain ⟨d0, d1, d2, d3, d4, d5⟩ := hx1.six
  go_wp2_with fail
  refine (EN.out _ (IV.out.below HA.out) (IM.out.below HA.out)).mono ?_
  rintro e w2 (⟨_, rfl, hb⟩ | ⟨hq, _⟩)
  case inr => rw [HR.out] at hq; simp at hq
  have HZ := hid (below_on HA.out hb)
  clear hb hx1 d0 d1 d2 d3 d4 d5 HA
  go_wp2_with fail
  refine (DB.out _ (IB.out.below HZ.out)).mono ?_
  intro e w20 hD
  obtain ⟨a1, c1, a2, c2, rfl, hb, j1, j2, hc2⟩ := dec_ok8 HDB.out hD
  simp only at j1 j2 hc2
  have HZ2 := hid (below_on HZ.out hb)
  obtain ⟨V, hV, hbV, hp⟩ := oxm_box w20 C' F' H' X' a1 v'.length c1 a2 m'.length c2
  have HV := hid hV
  have HZ3 := hid (below_on HZ2.out hbV)
  have P1 := hid (j1.below hbV)
  have P2 := hid (j2.below hbV)
  have EP := hid (encode8_any C' F' H' X' a1 c1 a2 c2 v' m' (by have := HVM'.out; omega) (by have := HVM'.out; omega) hc2 HOV'.out HOM'.out V P1.out P2.out HX'.out)
  have RP := hid (fun W iv im => right8_any C' F' H' X' a1 c1 a2 c2 v' m' (by have := HVM'.out; omega) (by have := HVM'.out; omega) hc2 HOV'.out HOM'.out W iv im)
  rw [HR'.out] at RP
  clear hD hb j1 j2 hc2 hV hbV
  simp only
  obtain ⟨e0, e1, e2, e3, e4, e5⟩ := hp.six
  go_upto_region 12 with fail
  rw [HV.out]
  go_wp2_with fail
  refine EP.out.mono ?_
  rintro e w22 (⟨hq, _⟩ | ⟨_, ad', cp', rfl, hb, hI2, hcp⟩)
  · rw [HR'.out] at hq; simp at hq
  rw [HBT.out] at hI2 hcp
  rw [HBT.out, HTN.out]
  have HZ4 := hid (below_on HZ3.out hb)
  have hp2 := hp.below hb
  have Q1 := hid (P1.out.below hb)
  have Q2 := hid (P2.out.below hb)
  have I2 := hid hI2
  clear hb hp hI2 hcp e0 e1 e2 e3 e4 e5 P1 P2 EP
  obtain ⟨e0, e1, e2, e3, e4, e5⟩ := hp2.six
  go_wp2_with fail
  have BY := hid (bytes8_any (bs.take n') (bs.take n') ad' a n' n' cp' c HTN.out.symm HTN.out.symm w22 (by rw [HTN.out]; have := HN6.out; omega) (by rw [HTN.out]; have := HN6.out; omega) I2.out ((IB.out.below HZ4.out).take n'))
  rw [rfl_beq8z] at BY
  refine BY.out.mono ?_
  rintro e w23 ⟨rfl, hb⟩
  have HZ5 := hid (below_on HZ4.out hb)
  have hp3 := hp2.below hb
  have R1 := hid (Q1.out.below hb)
  have R2 := hid (Q2.out.below hb)
  clear hb hp2 e0 e1 e2 e3 e4 e5 Q1 Q2 BY
  obtain ⟨e0, e1, e2, e3, e4, e5⟩ := hp3.six
  go_wp2_with fail
  refine (RP.out _ R1.out R2.out).mono ?_
  rintro e w24 ⟨rfl, hb⟩
  have HZ6 := hid (below_on HZ5.out hb)
  clear hb
  go_wp2_with fail
  refine (sure8_any _).mono ?_
  rintro e w25 ⟨rfl, hb⟩
  go_wp2_with fail
  go_ret
  exact ⟨rfl, below_on HZ6.out hb⟩

set_option maxRecDepth 100000 in
set_option maxHeartbeats 4000000 in
theorem OxmBack_yes_err (C F : Int) (H : Bool) (X : Int) (va : Option Addr) (vc : Nat) (ma : Option Addr) (mc : Nat) (v m bs : List Int) (a : Option Addr) (c : Nat) (hx : 0 ≤ X) (hv : v.length ≤ 300) (hm : m.length ≤ 300) (hmc : m.length ≤ mc) (ov : Octets v) (om : Octets m) (hbl : bs.length ≤ 600) (hbc : bs.length ≤ c) (hc : c ≤ 9223372036854775807) (ob : Octets bs) (w : World) (iv : Ints .u8 w va v) (im : Ints .u8 w ma m) (ib : Ints .u8 w a bs) (hr : rightB C F H X v m = true) {q : Int} (hdb : decL bs = .error q) :
    Calls Try.prog 6 #[.agg #[.int .i64 C, .int .i64 F, .bool H, .int .u64 X, .slice va v.length vc, .slice ma m.length mc], .slice a bs.length c] w fun e w' => e = .returned (.bool true) ∧ Below w.heap.size w w' := by
  obtain ⟨W, hW, hbW, hbox⟩ := oxm_box w C F H X va v.length vc ma m.length mc
  have HW := hid hW
  have HB := hid hbW
  have IV := hid iv
  have IM := hid im
  have IB := hid ib
  have FW := fun W => few8_any C F H X va v.length vc ma m.length mc W
  rw [decide_eq_true (show v.length ≤ 300 ∧ m.length ≤ 300 from ⟨hv, hm⟩)] at FW
  have FW := hid FW
  have i600 : (bs.length : Int) ≤ 600 := by omega
  have ibc : (bs.length : Int) ≤ (c : Int) := by omega
  have EN := hid (fun W iv im => encode8_any C F H X va vc ma mc v m (by omega) (by omega) hmc ov om W iv im hx)
  have SZ := hid (fun W iv im => size8_any C F H X va vc ma mc v m (by omega) (by omega) hmc ov om W iv im)
  have DB := hid (fun W ib => decode8_any bs a c hbc hc ob W ib)
  obtain ⟨d0, d1, d2, d3, d4, d5⟩ := hbox.six
  clear hW hbW iv im ib
  have HR := hid hr
  have hl := oxmBytes_length C F H X v m
  obtain ⟨xs, hxs⟩ : ∃ l, oxmBytes C F H X v m = l := ⟨_, rfl⟩
  have hdy := back_dec hr hx bs
  have hdx := back_less hr
  have hsz : size8 C F H X v m = 4 + behind8 C v.length m.length := by simp [size8, hr]
  have hox : Octets xs := by rw [← hxs]; exact oxm_octets ov om
  have hmost := (right_facts hr).most
  rw [hxs] at hdy hdx hl
  obtain ⟨N, hN⟩ : ∃ N, xs.length = N + 1 := ⟨xs.length - 1, by omega⟩
  rw [hsz, ← hl, hN] at SZ
  rw [hN, Nat.add_sub_cancel] at hdx
  obtain ⟨hdx, hN5⟩ := hdx
  obtain ⟨ys, hys⟩ : ∃ l, xs ++ bs = l := ⟨_, rfl⟩
  rw [hys, hN] at hdy
  have HXS := hid hxs
  have HNX := hid hN
  have HX2 : Hid (xs.length ≤ 300) := by show _ ≤ _; omega
  have HY := hid hys
  have HYL : Hid (ys.length ≤ 1000) := by show _ ≤ _; rw [← hys, List.length_append]; omega
  have HYO : Hid (Octets ys) := by rw [← hys]; exact hox.append ob
  have HXO : Hid (Octets (xs.take N)) := hox.take N
  have HDY := hid hdy
  have HDX := hid hdx
  have HTL : Hid ((xs.take N).length = N) := by show _ = _; rw [List.length_take]; omega
  have HVM : Hid (v.length ≤ 300 ∧ m.length ≤ 300) := ⟨hv, hm⟩
  have HOV := hid ov
  have HOM := hid om
  have i4 : (4 : Int) ≤ (N : Int) := by omega
  have i300 : (N : Int) ≤ 300 := by omega
  clear hl hxs hdy hdx hsz hox hmost hN hys hN5
  have HDB := hid hdb
  clear hr hdb hx hv hm hmc ov om hbl hbc hc ob
  go_enter Try.func6, Try.ntmps6
  go_wp2_with fail
  rw [HW.out]
  go_wp2_with fail
  refine (FW.out _).mono ?_
  rintro e w1 ⟨rfl, hb⟩
  have HA := hid (below_on HB.out hb)
  have hx1 := hbox.below hb
  clear hb hbox d0 d1 d2 d3 d4 d5
  obtain ⟨d0, d1, d2, d3, d4, d5⟩ := hx1.six
  go_wp2_with fail
  refine (EN.out _ (IV.out.below HA.out) (IM.out.below HA.out)).mono ?_
  rintro e w2 (⟨hq, _⟩ | ⟨_, ad, cp, rfl, hb, hI2, hcp⟩)
  · rw [HR.out] at hq; simp at hq
  rw [HXS.out] at hI2 hcp
  rw [HXS.out, HNX.out]
  have HA2 := hid (below_on HA.out hb)
  have hx2 := hx1.below hb
  have I2 := hid hI2
  have icp : ((N + 1 : Nat) : Int) ≤ (cp : Int) := by have := HNX.out; omega
  have HCP := hid hcp
  clear hb hx1 d0 d1 d2 d3 d4 d5 HA hI2 hcp
  obtain ⟨d0, d1, d2, d3, d4, d5⟩ := hx2.six
  go_wp2_with (at_builtin; (first
    | (refine wp_app_ints rfl (.tmp 35) (.tmp 36) rfl elemU8 rfl (own_emptyI _ _ .u8) rfl HNX.out.symm (I2.out.below (below_alloc _ _)) (List.nil_append xs) (by have := HX2.out; omega) (by have := HX2.out; omega) ?_; intro a5 c5 w5 hl5 hc5 hI5 hg5; have hF5 := hg5.first)
    | (refine wp_app_ints rfl (.tmp 37) (.tmp 38) rfl elemU8 rfl hF5.own rfl rfl (IB.out.below (below_on HA2.out hF5.bel)) HY.out (by have := HYL.out; omega) (by have := HYL.out; omega) ?_; intro a6 c6 w6 hl6 hc6 hI6 hg6; have hF6 := hF5.step hg6)
    | fail))
  have HA3 := hid (below_on HA2.out hF6.bel)
  have hx3 := hx2.below hF6.bel
  have J2 := hid (I2.out.below hF6.bel)
  have DY := hid (decode8_any ys a6 c6 hl6 hc6 HYO.out w6 hI6)
  clear hx2 d0 d1 d2 d3 d4 d5 HA2 I2 hF5 hF6 hg5 hg6 hI5 hI6 hl5 hl6 hc5 hc6
  refine DY.out.mono ?_
  intro e w7 hD
  obtain ⟨a1, c1, a2, c2, rfl, hb, j1, j2, hc2⟩ := dec_ok8 HDY.out hD
  simp only at j1 j2 hc2
  have hx4 := hx3.below hb
  have HA4 := hid (below_on HA3.out hb)
  have K2 := hid (J2.out.below hb)
  obtain ⟨W7, hW7, hbW7, hp7⟩ := oxm_box w7 C F H X a1 v.length c1 a2 m.length c2
  have HW7 := hid hW7
  have hx5 := hx4.below hbW7
  have HA5 := hid (below_on HA4.out hbW7)
  have L2 := hid (K2.out.below hbW7)
  have P1 := hid (j1.below hbW7)
  have P2 := hid (j2.below hbW7)
  have RS := fun W iv im iv' im' => refSame8_any C F H X va vc ma mc C F H X a1 c1 a2 c2 v m v m (by have := HVM.out; omega) (by have := HVM.out; omega) (by have := HVM.out; omega) (by have := HVM.out; omega) HOV.out HOM.out HOV.out HOM.out W iv im iv' im'
  rw [sameB_refl8] at RS
  have RS := hid RS
  clear hD hx3 hx4 hb j1 j2 hc2 HA3 HA4 J2 K2 hW7 hbW7 DY
  simp only
  obtain ⟨d0, d1, d2, d3, d4, d5⟩ := hx5.six
  obtain ⟨e0, e1, e2, e3, e4, e5⟩ := hp7.six
  go_upto_region 6 with fail
  rw [HW7.out]
  go_wp2_with fail
  refine (SZ.out _ (IV.out.below HA5.out) (IM.out.below HA5.out)).mono ?_
  rintro e w8 ⟨rfl, hb⟩
  have HA6 := hid (below_on HA5.out hb)
  have hx6 := hx5.below hb
  have hp8 := hp7.below hb
  have M2 := hid (L2.out.below hb)
  have Q1 := hid (P1.out.below hb)
  have Q2 := hid (P2.out.below hb)
  clear hb hx5 hp7 L2 P1 P2 HA5 d0 d1 d2 d3 d4 d5 e0 e1 e2 e3 e4 e5
  obtain ⟨d0, d1, d2, d3, d4, d5⟩ := hx6.six
  obtain ⟨e0, e1, e2, e3, e4, e5⟩ := hp8.six
  go_wp2_with fail
  refine (RS.out _ (IV.out.below HA6.out) (IM.out.below HA6.out) Q1.out Q2.out).mono ?_
  rintro e w9 ⟨rfl, hb⟩
  have HA7 := hid (below_on HA6.out hb)
  have N2 := hid (M2.out.below hb)
  clear hb hx6 hp8 M2 Q1 Q2 HA6 d0 d1 d2 d3 d4 d5 e0 e1 e2 e3 e4 e5 RS
  go_wp2_with fail
  have DX := hid (decode8_free (xs.take N) ((xs.take N).take 208) ad cp rfl (by rw [List.length_take]; have := HCP.out; omega) HXO.out w9 (N2.out.take N) _ rfl (by simp only [List.length_take]; omega))
  rw [HTL.out] at DX
  refine DX.out.mono ?_
  intro e w10 hD
  obtain ⟨_, rfl, hb⟩ := dec_err8 HDX.out hD
  have HZ := hid (below_on HA7.out (below_on hb (below_alloc w10 (.cells #[.int .i64 0, .int .i64 0, .bool false, .int .u64 0, .slice none 0 0, .slice none 0 0] 25))))
  clear hD hb N2 HA7 DX
  go_wp2_with fail
  refine (DB.out _ (IB.out.below HZ.out)).mono ?_
  intro e w20 hD
  obtain ⟨hq0, rfl, hb⟩ := dec_err8 HDB.out hD
  have HZ2 := hid (below_on HZ.out hb)
  clear hD hb
  go_wp2_with fail
  refine (sure8_any _).mono ?_
  rintro e w21 ⟨rfl, hb⟩
  go_wp2_with fail
  go_ret
  exact ⟨rfl, below_on HZ2.out (below_on (below_alloc _ _) hb)⟩

set_option maxRecDepth 100000 in
set_option maxHeartbeats 4000000 in
theorem OxmBack_yes_ok (C F : Int) (H : Bool) (X : Int) (va : Option Addr) (vc : Nat) (ma : Option Addr) (mc : Nat) (v m bs : List Int) (a : Option Addr) (c : Nat) (hx : 0 ≤ X) (hv : v.length ≤ 300) (hm : m.length ≤ 300) (hmc : m.length ≤ mc) (ov : Octets v) (om : Octets m) (hbl : bs.length ≤ 600) (hbc : bs.length ≤ c) (hc : c ≤ 9223372036854775807) (ob : Octets bs) (w : World) (iv : Ints .u8 w va v) (im : Ints .u8 w ma m) (ib : Ints .u8 w a bs) (hr : rightB C F H X v m = true) {C' F' : Int} {H' : Bool} {X' : Int} {v' m' : List Int} {n' : Nat} (hdb : decL bs = .ok ⟨C', F', H', X', v', m', n'⟩) :
    Calls Try.prog 6 #[.agg #[.int .i64 C, .int .i64 F, .bool H, .int .u64 X, .slice va v.length vc, .slice ma m.length mc], .slice a bs.length c] w fun e w' => e = .returned (.bool true) ∧ Below w.heap.size w w' := by
  obtain ⟨W, hW, hbW, hbox⟩ := oxm_box w C F H X va v.length vc ma m.length mc
  have HW := hid hW
  have HB := hid hbW
  have IV := hid iv
  have IM := hid im
  have IB := hid ib
  have FW := fun W => few8_any C F H X va v.length vc ma m.length mc W
  rw [decide_eq_true (show v.length ≤ 300 ∧ m.length ≤ 300 from ⟨hv, hm⟩)] at FW
  have FW := hid FW
  have i600 : (bs.length : Int) ≤ 600 := by omega
  have ibc : (bs.length : Int) ≤ (c : Int) := by omega
  have EN := hid (fun W iv im => encode8_any C F H X va vc ma mc v m (by omega) (by omega) hmc ov om W iv im hx)
  have SZ := hid (fun W iv im => size8_any C F H X va vc ma mc v m (by omega) (by omega) hmc ov om W iv im)
  have DB := hid (fun W ib => decode8_any bs a c hbc hc ob W ib)
  obtain ⟨d0, d1, d2, d3, d4, d5⟩ := hbox.six
  clear hW hbW iv im ib
  have HR := hid hr
  have hl := oxmBytes_length C F H X v m
  obtain ⟨xs, hxs⟩ : ∃ l, oxmBytes C F H X v m = l := ⟨_, rfl⟩
  have hdy := back_dec hr hx bs
  have hdx := back_less hr
  have hsz : size8 C F H X v m = 4 + behind8 C v.length m.length := by simp [size8, hr]
  have hox : Octets xs := by rw [← hxs]; exact oxm_octets ov om
  have hmost := (right_facts hr).most
  rw [hxs] at hdy hdx hl
  obtain ⟨N, hN⟩ : ∃ N, xs.length = N + 1 := ⟨xs.length - 1, by omega⟩
  rw [hsz, ← hl, hN] at SZ
  rw [hN, Nat.add_sub_cancel] at hdx
  obtain ⟨hdx, hN5⟩ := hdx
  obtain ⟨ys, hys⟩ : ∃ l, xs ++ bs = l := ⟨_, rfl⟩
  rw [hys, hN] at hdy
  have HXS := hid hxs
  have HNX := hid hN
  have HX2 : Hid (xs.length ≤ 300) := by show _ ≤ _; omega
  have HY := hid hys
  have HYL : Hid (ys.length ≤ 1000) := by show _ ≤ _; rw [← hys, List.length_append]; omega
  have HYO : Hid (Octets ys) := by rw [← hys]; exact hox.append ob
  have HXO : Hid (Octets (xs.take N)) := hox.take N
  have HDY := hid hdy
  have HDX := hid hdx
  have HTL : Hid ((xs.take N).length = N) := by show _ = _; rw [List.length_take]; omega
  have HVM : Hid (v.length ≤ 300 ∧ m.length ≤ 300) := ⟨hv, hm⟩
  have HOV := hid ov
  have HOM := hid om
  have i4 : (4 : Int) ≤ (N : Int) := by omega
  have i300 : (N : Int) ≤ 300 := by omega
  clear hl hxs hdy hdx hsz hox hmost hN hys hN5
  have HDB := hid hdb
  obtain ⟨hr', hn', hbt, hx'⟩ := dec_right hdb ob
  have hro := raw_octets (dec_raw hdb) ob
  simp only at hr' hn' hbt hx' hro
  have HR' := hid hr'
  have HVM' : Hid (v'.length ≤ 255 ∧ m'.length ≤ 255) := ⟨hro.2.2.1, hro.2.2.2.1⟩
  have HOV' := hid hro.1
  have HOM' := hid hro.2.1
  have HX' := hid hx'
  have HBT := hid hbt
  have HTN : Hid ((bs.take n').length = n') := by show _ = _; rw [List.length_take]; omega
  have HN6 : Hid (n' ≤ 600) := by show _ ≤ _; omega
  have in1 : (n' : Int) ≤ (bs.length : Int) := by omega
  have in2 : (n' : Int) ≤ (c : Int) := by omega
  clear hr' hn' hbt hx' hro
  clear hr hdb hx hv hm hmc ov om hbl hbc hc ob
  go_enter Try.func6, Try.ntmps6
  go_wp2_with fail
  rw [HW.out]
  go_wp2_with fail
  refine (FW.out _).mono ?_
  rintro e w1 ⟨rfl, hb⟩
  have HA := hid (below_on HB.out hb)
  have hx1 := hbox.below hb
  clear hb hbox d0 d1 d2 d3 d4 d5
  obtain ⟨d0, d1, d2, d3, d4, d5⟩ := hx1.six
  go_wp2_with fail
  refine (EN.out _ (IV.out.below HA.out) (IM.out.below HA.out)).mono ?_
  rintro e w2 (⟨hq, _⟩ | ⟨_, ad, cp, rfl, hb, hI2, hcp⟩)
  · rw [HR.out] at hq; simp at hq
  rw [HXS.out] at hI2 hcp
  rw [HXS.out, HNX.out]
  have HA2 := hid (below_on HA.out hb)
  have hx2 := hx1.below hb
  have I2 := hid hI2
  have icp : ((N + 1 : Nat) : Int) ≤ (cp : Int) := by have := HNX.out; omega
  have HCP := hid hcp
  clear hb hx1 d0 d1 d2 d3 d4 d5 HA hI2 hcp
  obtain ⟨d0, d1, d2, d3, d4, d5⟩ := hx2.six
  go_wp2_with (at_builtin; (first
    | (refine wp_app_ints rfl (.tmp 35) (.tmp 36) rfl elemU8 rfl (own_emptyI _ _ .u8) rfl HNX.out.symm (I2.out.below (below_alloc _ _)) (List.nil_append xs) (by have := HX2.out; omega) (by have := HX2.out; omega) ?_; intro a5 c5 w5 hl5 hc5 hI5 hg5; have hF5 := hg5.first)
    | (refine wp_app_ints rfl (.tmp 37) (.tmp 38) rfl elemU8 rfl hF5.own rfl rfl (IB.out.below (below_on HA2.out hF5.bel)) HY.out (by have := HYL.out; omega) (by have := HYL.out; omega) ?_; intro a6 c6 w6 hl6 hc6 hI6 hg6; have hF6 := hF5.step hg6)
    | fail))
  have HA3 := hid (below_on HA2.out hF6.bel)
  have hx3 := hx2.below hF6.bel
  have J2 := hid (I2.out.below hF6.bel)
  have DY := hid (decode8_any ys a6 c6 hl6 hc6 HYO.out w6 hI6)
  clear hx2 d0 d1 d2 d3 d4 d5 HA2 I2 hF5 hF6 hg5 hg6 hI5 hI6 hl5 hl6 hc5 hc6
  refine DY.out.mono ?_
  intro e w7 hD
  obtain ⟨a1, c1, a2, c2, rfl, hb, j1, j2, hc2⟩ := dec_ok8 HDY.out hD
  simp only at j1 j2 hc2
  have hx4 := hx3.below hb
  have HA4 := hid (below_on HA3.out hb)
  have K2 := hid (J2.out.below hb)
  obtain ⟨W7, hW7, hbW7, hp7⟩ := oxm_box w7 C F H X a1 v.length c1 a2 m.length c2
  have HW7 := hid hW7
  have hx5 := hx4.below hbW7
  have HA5 := hid (below_on HA4.out hbW7)
  have L2 := hid (K2.out.below hbW7)
  have P1 := hid (j1.below hbW7)
  have P2 := hid (j2.below hbW7)
  have RS := fun W iv im iv' im' => refSame8_any C F H X va vc ma mc C F H X a1 c1 a2 c2 v m v m (by have := HVM.out; omega) (by have := HVM.out; omega) (by have := HVM.out; omega) (by have := HVM.out; omega) HOV.out HOM.out HOV.out HOM.out W iv im iv' im'
  rw [sameB_refl8] at RS
  have RS := hid RS
  clear hD hx3 hx4 hb j1 j2 hc2 HA3 HA4 J2 K2 hW7 hbW7 DY
  simp only
  obtain ⟨d0, d1, d2, d3, d4, d5⟩ := hx5.six
  obtain ⟨e0, e1, e2, e3, e4, e5⟩ := hp7.six
  go_upto_region 6 with fail
  rw [HW7.out]
  go_wp2_with fail
  refine (SZ.out _ (IV.out.below HA5.out) (IM.out.below HA5.out)).mono ?_
  rintro e w8 ⟨rfl, hb⟩
  have HA6 := hid (below_on HA5.out hb)
  have hx6 := hx5.below hb
  have hp8 := hp7.below hb
  have M2 := hid (L2.out.below hb)
  have Q1 := hid (P1.out.below hb)
  have Q2 := hid (P2.out.below hb)
  clear hb hx5 hp7 L2 P1 P2 HA5 d0 d1 d2 d3 d4 d5 e0 e1 e2 e3 e4 e5
  obtain ⟨d0, d1, d2, d3, d4, d5⟩ := hx6.six
  obtain ⟨e0, e1, e2, e3, e4, e5⟩ := hp8.six
  go_wp2_with fail
  refine (RS.out _ (IV.out.below HA6.out) (IM.out.below HA6.out) Q1.out Q2.out).mono ?_
  rintro e w9 ⟨rfl, hb⟩
  have HA7 := hid (below_on HA6.out hb)
  have N2 := hid (M2.out.below hb)
  clear hb hx6 hp8 M2 Q1 Q2 HA6 d0 d1 d2 d3 d4 d5 e0 e1 e2 e3 e4 e5 RS
  go_wp2_with fail
  have DX := hid (decode8_free (xs.take N) ((xs.take N).take 208) ad cp rfl (by rw [List.length_take]; have := HCP.out; omega) HXO.out w9 (N2.out.take N) _ rfl (by simp only [List.length_take]; omega))
  rw [HTL.out] at DX
  refine DX.out.mono ?_
  intro e w10 hD
  obtain ⟨_, rfl, hb⟩ := dec_err8 HDX.out hD
  have HZ := hid (below_on HA7.out (below_on hb (below_alloc w10 (.cells #[.int .i64 0, .int .i64 0, .bool false, .int .u64 0, .slice none 0 0, .slice none 0 0] 25))))
  clear hD hb N2 HA7 DX
  go_wp2_with fail
  refine (DB.out _ (IB.out.below HZ.out)).mono ?_
  intro e w20 hD
  obtain ⟨a1, c1, a2, c2, rfl, hb, j1, j2, hc2⟩ := dec_ok8 HDB.out hD
  simp only at j1 j2 hc2
  have HZ2 := hid (below_on HZ.out hb)
  obtain ⟨V, hV, hbV, hp⟩ := oxm_box w20 C' F' H' X' a1 v'.length c1 a2 m'.length c2
  have HV := hid hV
  have HZ3 := hid (below_on HZ2.out hbV)
  have P1 := hid (j1.below hbV)
  have P2 := hid (j2.below hbV)
  have EP := hid (encode8_any C' F' H' X' a1 c1 a2 c2 v' m' (by have := HVM'.out; omega) (by have := HVM'.out; omega) hc2 HOV'.out HOM'.out V P1.out P2.out HX'.out)
  have RP := hid (fun W iv im => right8_any C' F' H' X' a1 c1 a2 c2 v' m' (by have := HVM'.out; omega) (by have := HVM'.out; omega) hc2 HOV'.out HOM'.out W iv im)
  rw [HR'.out] at RP
  clear hD hb j1 j2 hc2 hV hbV
  simp only
  obtain ⟨e0, e1, e2, e3, e4, e5⟩ := hp.six
  go_upto_region 12 with fail
  rw [HV.out]
  go_wp2_with fail
  refine EP.out.mono ?_
  rintro e w22 (⟨hq, _⟩ | ⟨_, ad', cp', rfl, hb, hI2, hcp⟩)
  · rw [HR'.out] at hq; simp at hq
  rw [HBT.out] at hI2 hcp
  rw [HBT.out, HTN.out]
  have HZ4 := hid (below_on HZ3.out hb)
  have hp2 := hp.below hb
  have Q1 := hid (P1.out.below hb)
  have Q2 := hid (P2.out.below hb)
  have I2 := hid hI2
  clear hb hp hI2 hcp e0 e1 e2 e3 e4 e5 P1 P2 EP
  obtain ⟨e0, e1, e2, e3, e4, e5⟩ := hp2.six
  go_wp2_with fail
  have BY := hid (bytes8_any (bs.take n') (bs.take n') ad' a n' n' cp' c HTN.out.symm HTN.out.symm w22 (by rw [HTN.out]; have := HN6.out; omega) (by rw [HTN.out]; have := HN6.out; omega) I2.out ((IB.out.below HZ4.out).take n'))
  rw [rfl_beq8z] at BY
  refine BY.out.mono ?_
  rintro e w23 ⟨rfl, hb⟩
  have HZ5 := hid (below_on HZ4.out hb)
  have hp3 := hp2.below hb
  have R1 := hid (Q1.out.below hb)
  have R2 := hid (Q2.out.below hb)
  clear hb hp2 e0 e1 e2 e3 e4 e5 Q1 Q2 BY
  obtain ⟨e0, e1, e2, e3, e4, e5⟩ := hp3.six
  go_wp2_with fail
  refine (RP.out _ R1.out R2.out).mono ?_
  rintro e w24 ⟨rfl, hb⟩
  have HZ6 := hid (below_on HZ5.out hb)
  clear hb
  go_wp2_with fail
  refine (sure8_any _).mono ?_
  rintro e w25 ⟨rfl, hb⟩
  go_wp2_with fail
  go_ret
  exact ⟨rfl, below_on HZ6.out hb⟩
end Go.Proofs.Ytfogpofgmnibcaa
