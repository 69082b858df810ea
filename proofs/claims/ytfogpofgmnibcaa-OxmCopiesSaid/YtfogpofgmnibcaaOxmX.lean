/- Layer 8's law of copies. -/
import Derived.Test.YtfogpofgmnibcaaOxmW
namespace Go.Proofs.Ytfogpofgmnibcaa
open Go.RowKit
set_option linter.unusedVariables false

theorem alikeB_refl (C F X : Int) : alikeB C F X C F X = true := by simp [alikeB]
theorem sameB_refl (C F : Int) (H : Bool) (X : Int) (v m : List Int) : sameB C F H X C F H X v m v m = true := by simp [sameB, alikeB]
theorem rfl_beq8b (s : ByteArray) : (s.toList == s.toList) = true := by simp
theorem fresh_ints8 {w w' : World} {p : Nat} {l : List Int} {n c : Nat} (h : Fresh 5 w w' (.slice (some ⟨p, 0, none⟩) n c) (l.map (Value.int .u8))) : Ints .u8 w' (some ⟨p, 0, none⟩) l := by
  obtain ⟨a, c', he, _, _, hI⟩ := own_ints h.own
  have he1 : a = some ⟨p, 0, none⟩ := by simpa using (congrArg (fun x => match x with | Value.slice a _ _ => a | _ => none) he).symm
  rw [← he1]
  exact hI
set_option maxRecDepth 100000 in
set_option maxHeartbeats 2000000 in
theorem OxmCopies_many (C F : Int) (H : Bool) (X : Int) (va : Option Addr) (vc : Nat) (ma : Option Addr) (mc : Nat) (C' F' : Int) (H' : Bool) (X' : Int) (va' : Option Addr) (vc' : Nat) (ma' : Option Addr) (mc' : Nat) (v m v' m' : List Int)
    (hv : v.length ≤ 300) (hm : m.length ≤ 300) (hv' : v'.length ≤ 300) (hm' : m'.length ≤ 300) (ov : Octets v) (om : Octets m) (ov' : Octets v') (om' : Octets m') (x : Int) (hx0 : 0 ≤ x ∧ x ≤ 255) (w : World) (iv : Ints .u8 w va v) (im : Ints .u8 w ma m) (iv' : Ints .u8 w va' v') (im' : Ints .u8 w ma' m') :
    Calls Try.prog 5 #[.agg #[.int .i64 C, .int .i64 F, .bool H, .int .u64 X, .slice va v.length vc, .slice ma m.length mc], .agg #[.int .i64 C', .int .i64 F', .bool H', .int .u64 X', .slice va' v'.length vc', .slice ma' m'.length mc'], .int .u8 x] w fun e w' => e = .returned (.bool true) ∧ Below w.heap.size w w' := by
  obtain ⟨W, hW, hbW, hx, hy⟩ := two_oxm w C F H X va v.length vc ma m.length mc C' F' H' X' va' v'.length vc' ma' m'.length mc'
  have HW := hid hW
  have HB := hid hbW
  have F1 := fun W => few8_any C F H X va v.length vc ma m.length mc W
  have F2 := fun W => few8_any C' F' H' X' va' v'.length vc' ma' m'.length mc' W
  rw [decide_eq_true (show v.length ≤ 300 ∧ m.length ≤ 300 from ⟨hv, hm⟩)] at F1
  rw [decide_eq_true (show v'.length ≤ 300 ∧ m'.length ≤ 300 from ⟨hv', hm'⟩)] at F2
  have F1 := hid F1
  have F2 := hid F2
  have CP := hid (fun W iv im => copy8_any C F H X va vc ma mc v m (by omega) (by omega) W iv im)
  have AL := hid (fun W => alike8_any C F H X va v.length vc ma m.length mc C' F' H' X' va' v'.length vc' ma' m'.length mc' W)
  have RA := hid (fun W => refAlike8_any C F H X va v.length vc ma m.length mc C' F' H' X' va' v'.length vc' ma' m'.length mc' W)
  have S1 := hid (fun W iv im iv' im' => same8_any C F H X va vc ma mc C' F' H' X' va' vc' ma' mc' v m v' m' (by omega) (by omega) (by omega) (by omega) ov om ov' om' W iv im iv' im')
  have R1 := hid (fun W iv im iv' im' => refSame8_any C F H X va vc ma mc C' F' H' X' va' vc' ma' mc' v m v' m' (by omega) (by omega) (by omega) (by omega) ov om ov' om' W iv im iv' im')
  have IV := hid iv
  have IM := hid im
  have IV' := hid iv'
  have IM' := hid im'
  obtain ⟨d0, d1, d2, d3, d4, d5⟩ := hx.six
  obtain ⟨e0, e1, e2, e3, e4, e5⟩ := hy.six
  clear hW hbW iv im iv' im'
  go_enter Try.func5, Try.ntmps5
  go_wp2_with fail
  rw [HW.out]
  go_wp2_with fail
  refine (F1.out _).mono ?_
  rintro e w1 ⟨rfl, hb⟩
  have HA := hid (below_on HB.out hb)
  have hx1 := hx.below hb
  have hy1 := hy.below hb
  clear hb hx hy d0 d1 d2 d3 d4 d5 e0 e1 e2 e3 e4 e5
  obtain ⟨d0, d1, d2, d3, d4, d5⟩ := hx1.six
  obtain ⟨e0, e1, e2, e3, e4, e5⟩ := hy1.six
  go_wp2_with fail
  refine (F2.out _).mono ?_
  rintro e w2 ⟨rfl, hb⟩
  have HA2 := hid (below_on HA.out hb)
  have hx2 := hx1.below hb
  have hy2 := hy1.below hb
  clear hb hx1 hy1 d0 d1 d2 d3 d4 d5 e0 e1 e2 e3 e4 e5
  obtain ⟨d0, d1, d2, d3, d4, d5⟩ := hx2.six
  obtain ⟨e0, e1, e2, e3, e4, e5⟩ := hy2.six
  go_wp2_with fail
  refine (CP.out _ (IV.out.below HA2.out) (IM.out.below HA2.out)).mono ?_
  rintro e w3 ⟨p, q, rfl, hb, hfp, hfq, hpq, hp⟩
  have HA3 := hid (below_on HA2.out hb)
  have hx3 := hx2.below hb
  have hy3 := hy2.below hb
  have hsz := HA2.out.size
  have hsw := hx2.lt
  clear hx2 hy2 d0 d1 d2 d3 d4 d5 e0 e1 e2 e3 e4 e5
  obtain ⟨W3, hW3, hbW3, hz3⟩ := oxm_box w3 C F H X (some ⟨p, 0, none⟩) v.length v.length (some ⟨q, 0, none⟩) m.length m.length
  have HW3 := hid hW3
  have HA4 := hid (below_on HA3.out hbW3)
  have hx4 := hx3.below hbW3
  have hy4 := hy3.below hbW3
  have fp := hfp.behind (below_by_none hbW3)
  have fq := hfq.behind (below_by_none hbW3)
  have hlt3 := hy3.lt
  have ip := fresh_ints8 fp
  have iq := fresh_ints8 fq
  obtain ⟨r, hr⟩ : ∃ r, sameB C F H X C' F' H' X' v m v' m' = r := ⟨_, rfl⟩
  obtain ⟨t, ht⟩ : ∃ r, alikeB C F X C' F' X' = r := ⟨_, rfl⟩
  rw [hr] at S1 R1
  rw [ht] at AL RA
  have RAC := fun n : Wk W3 => refSame8_any C F H X va vc ma mc C F H X (some ⟨p, 0, none⟩) v.length (some ⟨q, 0, none⟩) m.length v m v m (by omega) (by omega) (by omega) (by omega) ov om ov om n.val (IV.out.below (below_on HA4.out n.bel)) (IM.out.below (below_on HA4.out n.bel)) (ip.below n.bel) (iq.below n.bel)
  have SAC := fun n : Wk W3 => same8_any C F H X va vc ma mc C F H X (some ⟨p, 0, none⟩) v.length (some ⟨q, 0, none⟩) m.length v m v m (by omega) (by omega) (by omega) (by omega) ov om ov om n.val (IV.out.below (below_on HA4.out n.bel)) (IM.out.below (below_on HA4.out n.bel)) (ip.below n.bel) (iq.below n.bel)
  rw [sameB_refl] at RAC SAC
  have RAB := hid (fun n : Wk W3 => R1.out n.val (IV.out.below (below_on HA4.out n.bel)) (IM.out.below (below_on HA4.out n.bel)) (IV'.out.below (below_on HA4.out n.bel)) (IM'.out.below (below_on HA4.out n.bel)))
  have SAB := hid (fun n : Wk W3 => S1.out n.val (IV.out.below (below_on HA4.out n.bel)) (IM.out.below (below_on HA4.out n.bel)) (IV'.out.below (below_on HA4.out n.bel)) (IM'.out.below (below_on HA4.out n.bel)))
  have RAC := hid RAC
  have SAC := hid SAC
  obtain ⟨d0, d1, d2, d3, d4, d5⟩ := hx4.six
  obtain ⟨e0, e1, e2, e3, e4, e5⟩ := hy4.six
  obtain ⟨f0, f1, f2, f3, f4, f5⟩ := hz3.six
  have c80 := Wk.cell d0
  have c81 := Wk.cell d1
  have c82 := Wk.cell d2
  have c83 := Wk.cell d3
  have c84 := Wk.cell d4
  have c85 := Wk.cell d5
  have g80 := Wk.cell e0
  have g81 := Wk.cell e1
  have g82 := Wk.cell e2
  have g83 := Wk.cell e3
  have g84 := Wk.cell e4
  have g85 := Wk.cell e5
  have h90 := Wk.cell f0
  have h91 := Wk.cell f1
  have h92 := Wk.cell f2
  have h93 := Wk.cell f3
  have h94 := Wk.cell f4
  have h95 := Wk.cell f5
  have hp3 := own_lt8 hfp
  have hq3 := own_lt8 hfq
  have FP := hid fp
  have FQ := hid fq
  have HPQ := hid hpq
  clear d0 d1 d2 d3 d4 d5 e0 e1 e2 e3 e4 e5 f0 f1 f2 f3 f4 f5 hr ht S1 R1 hW3 hbW3 hfp hfq fp fq ip iq hb hx3 hy3 hpq
  go_upto_region 4 with fail
  rw [HW3.out]
  refine wp_region_wk (by kernel_rfl) (by kernel_rfl) ?_
  repeat (go_big_quiet_step (first
    | (go_at_call 17; first | with_reducible exact Wk.call (RAC.out _) | with_reducible exact Wk.call (RAB.out _))
    | (go_at_call 19; first | with_reducible exact Wk.call (SAC.out _) | with_reducible exact Wk.call (SAB.out _))
    | (go_at_call 20; exact Wk.call (AL.out _))
    | (go_at_call 21; exact Wk.call (RA.out _))))
  refine wpQuiet_nil ?_
  rintro w4 ⟨⟨_, hb4⟩, rfl⟩
  have HA5 := hid (below_on HA4.out hb4)
  have hx5 := hid (hx4.below hb4)
  have hz5 := hid (hz3.below hb4)
  have FP5 := hid (FP.out.behind (below_by_none hb4))
  have FQ5 := hid (FQ.out.behind (below_by_none hb4))
  clear hb4 hx4 hy4 hz3 FP FQ RAC SAC RAB SAB AL RA c80 c81 c82 c83 c84 c85 g80 g81 g82 g83 g84 g85 h90 h91 h92 h93 h94 h95
  obtain ⟨d0, d1, d2, d3, d4, d5⟩ := hx5.out.six
  obtain ⟨f0, f1, f2, f3, f4, f5⟩ := hz5.out.six
  have k1 := fun n : Wk w4 => conv8 n.val v va vc (IV.out.below (below_on HA5.out n.bel))
  have k2 := fun n : Wk w4 => conv8 n.val m ma mc (IM.out.below (below_on HA5.out n.bel))
  have c4 := Wk.cell d4
  have c5 := Wk.cell d5
  clear d0 d1 d2 d3 d4 d5 f0 f1 f2 f3 f4 f5
  go_upto_region 6 with fail
  refine wp_region_wk (by kernel_rfl) (by kernel_rfl) ?_
  repeat (go_big_quiet_step (fail))
  refine wpQuiet_nil ?_
  rintro w5 ⟨⟨_, hb5⟩, rfl⟩
  have HA6 := hid (below_on HA5.out hb5)
  have hx6 := hid (hx5.out.below hb5)
  have hz6 := hid (hz5.out.below hb5)
  have FP6 := hid (FP5.out.behind (below_by_none hb5))
  have FQ6 := hid (FQ5.out.behind (below_by_none hb5))
  clear hb5 hx5 hz5 FP5 FQ5 k1 k2 c4 c5 HA5
  obtain ⟨f0, f1, f2, f3, f4, f5⟩ := hz6.out.six
  go_wp2_with fail
  go_loopw [10] (fun i wr => ∃ (k : Nat) (xs : List Value), k ≤ v.length ∧ i = .int .i64 k ∧ wr.ownsRow 0 5 1 (.slice (some ⟨p, 0, none⟩) v.length v.length) v.length xs ∧ w5.grownBy wr (some p)) (fun i _ => v.length - (intOf i).toNat)
  case atStart => exact ⟨0, _, Nat.zero_le _, rfl, by have := FP6.out.own; rw [List.length_map] at this; exact this, grownBy_refl _ _⟩
  case round =>
    obtain ⟨k, xs, hk, rfl, hown, hb⟩ := hrel
    obtain ⟨f0, f1, f2, f3, f4, f5⟩ := (hz6.out.by hb (by simp; omega)).six
    by_cases hlt : k < v.length
    · obtain ⟨old, hold⟩ : ∃ old, wr.cell? ⟨p, k, none⟩ = some old := by
        rw [hown.cellAt _ (by omega)]
        have : k < xs.length := by rw [hown.1]; omega
        exact ⟨_, List.getElem?_eq_getElem this⟩
      have hfr := hown.frozenAt k
      have hst := hid (hown.stored k (.int .u8 x)).1
      have HBB := hid hb
      have i1 : (k : Int) < (v.length : Int) := by omega
      clear hown hb
      go_wp2_with fail
      go_roundw
      case rel => exact ⟨k + 1, _, by omega, by go_num, hst.out, grownBy_then HBB.out (by_setCell _ _ _ _)⟩
      case measure => simp [intOf]; omega
    · have hFQ := hid (FQ6.out.turn hb (by have := HPQ.out; simp [Value.ownBlock]; omega) (by omega))
      have HB6 := hid hb
      have hz7 := hid (hz6.out.by hb (by simp; omega))
      have HA7 := hid (below_row HA6.out (by omega) hb)
      clear hown hb FQ6 FP6 hz6 HA6
      go_wp2_with fail
      clear hlt hk f0 f1 f2 f3 f4 f5 xs
      go_loopw [11] (fun i wz => ∃ (k : Nat) (xs : List Value), k ≤ m.length ∧ i = .int .i64 k ∧ wz.ownsRow 0 5 1 (.slice (some ⟨q, 0, none⟩) m.length m.length) m.length xs ∧ wr.grownBy wz (some q)) (fun i _ => m.length - (intOf i).toNat)
      case atStart => exact ⟨0, _, Nat.zero_le _, rfl, by have := hFQ.out.own; rw [List.length_map] at this; exact this, grownBy_refl _ _⟩
      case round =>
        obtain ⟨k, xs, hk, rfl, hown, hb⟩ := hrel
        clear f0 f1 f2 f3 f4 f5
        obtain ⟨f0, f1, f2, f3, f4, f5⟩ := (hz7.out.by hb (by simp; omega)).six
        by_cases hlt : k < m.length
        · obtain ⟨old, hold⟩ : ∃ old, wr.cell? ⟨q, k, none⟩ = some old := by
            rw [hown.cellAt _ (by omega)]
            have : k < xs.length := by rw [hown.1]; omega
            exact ⟨_, List.getElem?_eq_getElem this⟩
          have hfr := hown.frozenAt k
          have hst := hid (hown.stored k (.int .u8 x)).1
          have HBB := hid hb
          have i1 : (k : Int) < (m.length : Int) := by omega
          clear hown hb
          go_wp2_with fail
          go_roundw
          case rel => exact ⟨k + 1, _, by omega, by go_num, hst.out, grownBy_then HBB.out (by_setCell _ _ _ _)⟩
          case measure => simp [intOf]; omega
        · have HA8 := hid (below_row HA7.out (by have := HPQ.out; omega) hb)
          have k1 := conv8 wr v va vc (IV.out.below HA8.out)
          have k2 := conv8 wr m ma mc (IM.out.below HA8.out)
          have hx9 := (hx6.out.by HB6.out (by simp; omega)).by hb (by have := HPQ.out; simp; omega)
          obtain ⟨d0, d1, d2, d3, d4, d5⟩ := hx9.six
          have s1 := rfl_beq8b (strOfNums v)
          have s2 := rfl_beq8b (strOfNums m)
          clear hown hb
          go_wp2_with fail
          refine (sure8_any _).mono ?_
          rintro e w9 ⟨rfl, hb9⟩
          go_wp2_with fail
          go_ret
          exact ⟨rfl, below_on HA8.out hb9⟩

set_option maxRecDepth 100000 in
set_option maxHeartbeats 2000000 in
theorem OxmCopies_few (C F : Int) (H : Bool) (X : Int) (va : Option Addr) (vl vc : Nat) (ma : Option Addr) (ml mc : Nat) (C' F' : Int) (H' : Bool) (X' : Int) (va' : Option Addr) (vl' vc' : Nat) (ma' : Option Addr) (ml' mc' : Nat)
    (hn : ¬ ((vl ≤ 300 ∧ ml ≤ 300) ∧ (vl' ≤ 300 ∧ ml' ≤ 300))) (x : Int) (w : World) :
    Calls Try.prog 5 #[.agg #[.int .i64 C, .int .i64 F, .bool H, .int .u64 X, .slice va vl vc, .slice ma ml mc], .agg #[.int .i64 C', .int .i64 F', .bool H', .int .u64 X', .slice va' vl' vc', .slice ma' ml' mc'], .int .u8 x] w fun e w' => e = .returned (.bool true) ∧ Below w.heap.size w w' := by
  obtain ⟨W, hW, hbW, hx, hy⟩ := two_oxm w C F H X va vl vc ma ml mc C' F' H' X' va' vl' vc' ma' ml' mc'
  have HW := hid hW
  have HB := hid hbW
  have F1 := fun W => few8_any C F H X va vl vc ma ml mc W
  have F2 := fun W => few8_any C' F' H' X' va' vl' vc' ma' ml' mc' W
  obtain ⟨d0, d1, d2, d3, d4, d5⟩ := hx.six
  obtain ⟨e0, e1, e2, e3, e4, e5⟩ := hy.six
  by_cases h1 : vl ≤ 300 ∧ ml ≤ 300
  · rw [decide_eq_true h1] at F1
    rw [decide_eq_false (show ¬ (vl' ≤ 300 ∧ ml' ≤ 300) from fun h => hn ⟨h1, h⟩)] at F2
    have F1 := hid F1
    have F2 := hid F2
    clear hW hbW h1 hn
    go_enter Try.func5, Try.ntmps5
    go_wp2_with fail
    rw [HW.out]
    go_wp2_with fail
    refine (F1.out _).mono ?_
    rintro e w1 ⟨rfl, hb⟩
    have HA := hid (below_on HB.out hb)
    have hx1 := hx.below hb
    have hy1 := hy.below hb
    clear hb hx hy d0 d1 d2 d3 d4 d5 e0 e1 e2 e3 e4 e5
    obtain ⟨d0, d1, d2, d3, d4, d5⟩ := hx1.six
    obtain ⟨e0, e1, e2, e3, e4, e5⟩ := hy1.six
    go_wp2_with fail
    refine (F2.out _).mono ?_
    rintro e w2 ⟨rfl, hb⟩
    have HA2 := hid (below_on HA.out hb)
    clear hb
    go_wp2_with fail
    refine (sure8_any _).mono ?_
    rintro e w9 ⟨rfl, hb9⟩
    go_wp2_with fail
    go_ret
    exact ⟨rfl, below_on HA2.out hb9⟩
  · rw [decide_eq_false h1] at F1
    have F1 := hid F1
    clear hW hbW h1 hn F2
    go_enter Try.func5, Try.ntmps5
    go_wp2_with fail
    rw [HW.out]
    go_wp2_with fail
    refine (F1.out _).mono ?_
    rintro e w1 ⟨rfl, hb⟩
    have HA := hid (below_on HB.out hb)
    clear hb
    go_wp2_with fail
    refine (sure8_any _).mono ?_
    rintro e w9 ⟨rfl, hb9⟩
    go_wp2_with fail
    go_ret
    exact ⟨rfl, below_on HA.out hb9⟩
theorem OxmCopies_walk (C F : Int) (H : Bool) (X : Int) (va : Option Addr) (vl vc : Nat) (ma : Option Addr) (ml mc : Nat) (C' F' : Int) (H' : Bool) (X' : Int) (va' : Option Addr) (vl' vc' : Nat) (ma' : Option Addr) (ml' mc' : Nat) (v m v' m' : List Int)
    (x : Int) (hx : 0 ≤ x ∧ x ≤ 255) (w : World) (h1 : OxmIn w C F X va vl vc ma ml mc v m) (h2 : OxmIn w C' F' X' va' vl' vc' ma' ml' mc' v' m') :
    Calls Try.prog 5 #[.agg #[.int .i64 C, .int .i64 F, .bool H, .int .u64 X, .slice va vl vc, .slice ma ml mc], .agg #[.int .i64 C', .int .i64 F', .bool H', .int .u64 X', .slice va' vl' vc', .slice ma' ml' mc'], .int .u8 x] w fun e w' => e = .returned (.bool true) ∧ Below w.heap.size w w' := by
  by_cases hn : (vl ≤ 300 ∧ ml ≤ 300) ∧ (vl' ≤ 300 ∧ ml' ≤ 300)
  · obtain ⟨_, _, _, rfl, rfl, iv, im, ov, om, _, _⟩ := h1
    obtain ⟨_, _, _, rfl, rfl, iv', im', ov', om', _, _⟩ := h2
    exact OxmCopies_many C F H X va vc ma mc C' F' H' X' va' vc' ma' mc' v m v' m' hn.1.1 hn.1.2 hn.2.1 hn.2.2 ov om ov' om' x hx w iv im iv' im'
  · exact OxmCopies_few C F H X va vl vc ma ml mc C' F' H' X' va' vl' vc' ma' ml' mc' hn x w
end Go.Proofs.Ytfogpofgmnibcaa
