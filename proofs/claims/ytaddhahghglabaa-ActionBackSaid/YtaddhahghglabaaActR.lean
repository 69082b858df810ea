/- Layer 12's law of copies. -/
import Derived.Test.YtaddhahghglabaaActE
import Derived.Test.YtaddhahghglabaaActQ
import Derived.Test.YtaddhahghglabaaMrg3
namespace Go.Proofs.Ytaddhahghglabaa
open Go.RowKit
set_option linter.unusedVariables false

theorem same12_refl (a : Act12) : same12 a a = true := (same12_iff a a).2 rfl
set_option maxRecDepth 100000 in
set_option maxHeartbeats 4000000 in
theorem ActionCopies_many (g g' : Ent12) (hv : g.o.v.length ≤ 300) (hm : g.o.m.length ≤ 300) (hd : g.d.length ≤ 500) (hv' : g'.o.v.length ≤ 300) (hm' : g'.o.m.length ≤ 300) (hd' : g'.d.length ≤ 500) (x : Int) (hx0 : 0 ≤ x ∧ x ≤ 255) (w : World) (hi : ActIn w g) (hi' : ActIn w g') :
    Calls Try.prog 3 #[g.val, g'.val, .int .u8 x] w fun e w' => e = .returned (.bool true) ∧ Below w.heap.size w w' := by
  obtain ⟨W, hW, hbW, hx, hy⟩ := two_act w g.T g.A g.B g.o.C g.o.F g.o.H g.o.X g.va g.o.v.length g.vc g.ma g.o.m.length g.mc g.da g.d.length g.dc g'.T g'.A g'.B g'.o.C g'.o.F g'.o.H g'.o.X g'.va g'.o.v.length g'.vc g'.ma g'.o.m.length g'.mc g'.da g'.d.length g'.dc
  have HW := hid hW
  have HB := hid hbW
  have F1 := fun V => actFew_any g.T g.A g.B g.o.C g.o.F g.o.H g.o.X g.va g.o.v.length g.vc g.ma g.o.m.length g.mc g.da g.d.length g.dc V
  have F2 := fun V => actFew_any g'.T g'.A g'.B g'.o.C g'.o.F g'.o.H g'.o.X g'.va g'.o.v.length g'.vc g'.ma g'.o.m.length g'.mc g'.da g'.d.length g'.dc V
  rw [decide_eq_true (show g.o.v.length ≤ 300 ∧ g.o.m.length ≤ 300 from ⟨hv, hm⟩), decide_eq_true hd] at F1
  rw [decide_eq_true (show g'.o.v.length ≤ 300 ∧ g'.o.m.length ≤ 300 from ⟨hv', hm'⟩), decide_eq_true hd'] at F2
  rw [Bool.true_and] at F1 F2
  have F1 := hid F1
  have F2 := hid F2
  have CP := hid (fun V (hV : Below w.heap.size w V) => actCopy_any g V (hi.below hV))
  have S1 := hid (fun V (hV : Below w.heap.size w V) => actSame_any g g' V (hi.below hV) (hi'.below hV))
  have R1 := hid (fun V (hV : Below w.heap.size w V) => refActSame_any g g' V (hi.below hV) (hi'.below hV))
  have S2 := hid (fun V (hV : Below w.heap.size w V) (gc : Ent12) (hc : ActIn V gc) => actSame_any g gc V (hi.below hV) hc)
  have R2 := hid (fun V (hV : Below w.heap.size w V) (gc : Ent12) (hc : ActIn V gc) => refActSame_any g gc V (hi.below hV) hc)
  have IN := hid hi
  have IV := hid hi.iv
  have ID := hid hi.id
  obtain ⟨r, hr⟩ : ∃ r, same12 g.act g'.act = r := ⟨_, rfl⟩
  rw [hr] at S1 R1
  clear hr hi hi' hW hbW hd' hv' hm'
  obtain ⟨T, A, B, ⟨C, F, H, X, v, m⟩, va, vc, ma, mc, d, da, dc⟩ := g
  obtain ⟨T', A', B', ⟨C', F', H', X', v', m'⟩, va', vc', ma', mc', d', da', dc'⟩ := g'
  unfold Ent12.val at *
  simp only at *
  obtain ⟨d0, d1, d2, d3, d4, d5, d6, d7, d8, d9⟩ := hx.ten
  obtain ⟨e0, e1, e2, e3, e4, e5, e6, e7, e8, e9⟩ := hy.ten
  go_enter Try.func3, Try.ntmps3
  go_wp2_with fail
  rw [HW.out]
  go_wp2_with fail
  refine (F1.out _).mono ?_
  rintro e w1 ⟨rfl, hb⟩
  have HA := hid (below_on HB.out hb)
  have hx1 := hx.below hb
  have hy1 := hy.below hb
  clear hb hx hy
  clear d0 d1 d2 d3 d4 d5 d6 d7 d8 d9 e0 e1 e2 e3 e4 e5 e6 e7 e8 e9
  obtain ⟨d0, d1, d2, d3, d4, d5, d6, d7, d8, d9⟩ := hx1.ten
  obtain ⟨e0, e1, e2, e3, e4, e5, e6, e7, e8, e9⟩ := hy1.ten
  go_wp2_with fail
  refine (F2.out _).mono ?_
  rintro e w2 ⟨rfl, hb⟩
  have HA2 := hid (below_on HA.out hb)
  have hx2 := hx1.below hb
  have hy2 := hy1.below hb
  clear hb hx1 hy1
  clear d0 d1 d2 d3 d4 d5 d6 d7 d8 d9 e0 e1 e2 e3 e4 e5 e6 e7 e8 e9
  obtain ⟨d0, d1, d2, d3, d4, d5, d6, d7, d8, d9⟩ := hx2.ten
  obtain ⟨e0, e1, e2, e3, e4, e5, e6, e7, e8, e9⟩ := hy2.ten
  go_wp2_with fail
  refine (CP.out _ HA2.out).mono ?_
  rintro e w3 ⟨p, q, s, rfl, hb, hfp, hfq, hfs, hsp, hpq, hs⟩
  simp only at hfp hfq hfs
  have HA3 := hid (below_on HA2.out hb)
  have hx3 := hx2.below hb
  have hy3 := hy2.below hb
  have hsz := HA2.out.size
  have hsw := hx2.lt
  have hsy := hy2.lt
  clear hx2 hy2
  clear d0 d1 d2 d3 d4 d5 d6 d7 d8 d9 e0 e1 e2 e3 e4 e5 e6 e7 e8 e9
  obtain ⟨W3, hW3, hbW3, hz3⟩ := act_box w3 T A B C F H X (some ⟨p, 0, none⟩) v.length v.length (some ⟨q, 0, none⟩) m.length m.length (some ⟨s, 0, none⟩) d.length d.length
  have HW3 := hid hW3
  have HA4 := hid (below_on HA3.out hbW3)
  have hx4 := hx3.below hbW3
  have hy4 := hy3.below hbW3
  have fp := hfp.behind (below_by_none hbW3)
  have fq := hfq.behind (below_by_none hbW3)
  have fs := hfs.behind (below_by_none hbW3)
  have hlt3 := hy3.lt
  have ip := fresh_ints8 fp
  have iq := fresh_ints8 fq
  have is := fresh_ints8 fs
  have hin := IN.out
  have GC : ActIn W3 ⟨T, A, B, ⟨C, F, H, X, v, m⟩, some ⟨p, 0, none⟩, v.length, some ⟨q, 0, none⟩, m.length, d, some ⟨s, 0, none⟩, d.length⟩ := ⟨hin.t, hin.a, hin.b, hin.c, hin.f, hin.x, hin.lv, hin.lm, hin.ld, ip, iq, is, hin.ov, hin.om, hin.od, Nat.le_refl _⟩
  have RAC := fun n : Wk W3 => R2.out n.val (below_on HA4.out n.bel) _ (GC.below n.bel)
  have SAC := fun n : Wk W3 => S2.out n.val (below_on HA4.out n.bel) _ (GC.below n.bel)
  have er : same12 (Ent12.act ⟨T, A, B, ⟨C, F, H, X, v, m⟩, va, vc, ma, mc, d, da, dc⟩) (Ent12.act ⟨T, A, B, ⟨C, F, H, X, v, m⟩, some ⟨p, 0, none⟩, v.length, some ⟨q, 0, none⟩, m.length, d, some ⟨s, 0, none⟩, d.length⟩) = true := same12_refl _
  rw [er] at RAC SAC
  have RAB := hid (fun n : Wk W3 => R1.out n.val (below_on HA4.out n.bel))
  have SAB := hid (fun n : Wk W3 => S1.out n.val (below_on HA4.out n.bel))
  have RAC := hid RAC
  have SAC := hid SAC
  obtain ⟨d0, d1, d2, d3, d4, d5, d6, d7, d8, d9⟩ := hx4.ten
  obtain ⟨e0, e1, e2, e3, e4, e5, e6, e7, e8, e9⟩ := hy4.ten
  obtain ⟨f0, f1, f2, f3, f4, f5, f6, f7, f8, f9⟩ := hz3.ten
  have cd0 := Wk.cell d0
  have cd1 := Wk.cell d1
  have cd2 := Wk.cell d2
  have cd3 := Wk.cell d3
  have cd4 := Wk.cell d4
  have cd5 := Wk.cell d5
  have cd6 := Wk.cell d6
  have cd7 := Wk.cell d7
  have cd8 := Wk.cell d8
  have cd9 := Wk.cell d9
  have ce0 := Wk.cell e0
  have ce1 := Wk.cell e1
  have ce2 := Wk.cell e2
  have ce3 := Wk.cell e3
  have ce4 := Wk.cell e4
  have ce5 := Wk.cell e5
  have ce6 := Wk.cell e6
  have ce7 := Wk.cell e7
  have ce8 := Wk.cell e8
  have ce9 := Wk.cell e9
  have cf0 := Wk.cell f0
  have cf1 := Wk.cell f1
  have cf2 := Wk.cell f2
  have cf3 := Wk.cell f3
  have cf4 := Wk.cell f4
  have cf5 := Wk.cell f5
  have cf6 := Wk.cell f6
  have cf7 := Wk.cell f7
  have cf8 := Wk.cell f8
  have cf9 := Wk.cell f9
  have hp3 := own_lt8 hfp
  have hq3 := own_lt8 hfq
  have hs3 := own_lt8 hfs
  have FP := hid fp
  have FS := hid fs
  have HSP := hid hsp
  clear hW3 hbW3 hfp hfq hfs fp fq fs ip iq is hb hx3 hy3 hsp er GC hin S1 R1 S2 R2 CP F1 F2
  clear d0 d1 d2 d3 d4 d5 d6 d7 d8 d9 e0 e1 e2 e3 e4 e5 e6 e7 e8 e9 f0 f1 f2 f3 f4 f5 f6 f7 f8 f9
  go_upto_region 4 with fail
  rw [HW3.out]
  refine wp_region_wk (by kernel_rfl) (by kernel_rfl) ?_
  repeat (go_big_quiet_step (first
    | (go_at_call 8; first | with_reducible exact Wk.call (RAC.out _) | with_reducible exact Wk.call (RAB.out _))
    | (go_at_call 9; first | with_reducible exact Wk.call (SAC.out _) | with_reducible exact Wk.call (SAB.out _))))
  refine wpQuiet_nil ?_
  rintro w4 ⟨⟨_, hb4⟩, rfl⟩
  have HA5 := hid (below_on HA4.out hb4)
  have hx5 := hid (hx4.below hb4)
  have hz5 := hid (hz3.below hb4)
  have FP5 := hid (FP.out.behind (below_by_none hb4))
  have FS5 := hid (FS.out.behind (below_by_none hb4))
  clear hb4 hx4 hy4 hz3 FP FS RAC SAC RAB SAB cd0 cd1 cd2 cd3 cd4 cd5 cd6 cd7 cd8 cd9 ce0 ce1 ce2 ce3 ce4 ce5 ce6 ce7 ce8 ce9 cf0 cf1 cf2 cf3 cf4 cf5 cf6 cf7 cf8 cf9
  obtain ⟨d0, d1, d2, d3, d4, d5, d6, d7, d8, d9⟩ := hx5.out.ten
  have k1 := fun n : Wk w4 => conv8 n.val d da dc (ID.out.below (below_on HA5.out n.bel))
  have k2 := fun n : Wk w4 => conv8 n.val v va vc (IV.out.below (below_on HA5.out n.bel))
  have c9 := Wk.cell d9
  have c7 := Wk.cell d7
  clear d0 d1 d2 d3 d4 d5 d6 d7 d8 d9
  go_upto_region 6 with fail
  refine wp_region_wk (by kernel_rfl) (by kernel_rfl) ?_
  repeat (go_big_quiet_step (fail))
  refine wpQuiet_nil ?_
  rintro w5 ⟨⟨_, hb5⟩, rfl⟩
  have HA6 := hid (below_on HA5.out hb5)
  have hx6 := hid (hx5.out.below hb5)
  have hz6 := hid (hz5.out.below hb5)
  have FP6 := hid (FP5.out.behind (below_by_none hb5))
  have FS6 := hid (FS5.out.behind (below_by_none hb5))
  clear hb5 hx5 hz5 FP5 FS5 k1 k2 c9 c7 HA5
  obtain ⟨f0, f1, f2, f3, f4, f5, f6, f7, f8, f9⟩ := hz6.out.ten
  go_wp2_with fail
  go_loopw [10] (fun i wr => ∃ (k : Nat) (xs : List Value), k ≤ d.length ∧ i = .int .i64 k ∧ wr.ownsRow 0 5 1 (.slice (some ⟨s, 0, none⟩) d.length d.length) d.length xs ∧ w5.grownBy wr (some s)) (fun i _ => d.length - (intOf i).toNat)
  case atStart => exact ⟨0, _, Nat.zero_le _, rfl, by have := FS6.out.own; rw [List.length_map] at this; exact this, grownBy_refl _ _⟩
  case round =>
    obtain ⟨k, xs, hk, rfl, hown, hb⟩ := hrel
    obtain ⟨f0, f1, f2, f3, f4, f5, f6, f7, f8, f9⟩ := (hz6.out.by hb (by simp; omega)).ten
    by_cases hlt : k < d.length
    · obtain ⟨old, hold⟩ : ∃ old, wr.cell? ⟨s, k, none⟩ = some old := by
        rw [hown.cellAt _ (by omega)]
        have : k < xs.length := by rw [hown.1]; omega
        exact ⟨_, List.getElem?_eq_getElem this⟩
      have hfr := hown.frozenAt k
      have hst := hid (hown.stored k (.int .u8 x)).1
      have HBB := hid hb
      have i1 : (k : Int) < (d.length : Int) := by omega
      clear hown hb
      go_wp2_with fail
      go_roundw
      case rel => exact ⟨k + 1, _, by omega, by go_num, hst.out, grownBy_then HBB.out (by_setCell _ _ _ _)⟩
      case measure => simp [intOf]; omega
    · have hFP := hid (FP6.out.turn hb (by have := HSP.out; simp [Value.ownBlock]; omega) (by omega))
      have HB6 := hid hb
      have hz7 := hid (hz6.out.by hb (by simp; omega))
      have HA7 := hid (below_row HA6.out (by omega) hb)
      clear hown hb FP6 FS6 hz6 HA6
      go_wp2_with fail
      clear hlt hk xs
      clear f0 f1 f2 f3 f4 f5 f6 f7 f8 f9
      go_loopw [11] (fun i wz => ∃ (k : Nat) (xs : List Value), k ≤ v.length ∧ i = .int .i64 k ∧ wz.ownsRow 0 5 1 (.slice (some ⟨p, 0, none⟩) v.length v.length) v.length xs ∧ wr.grownBy wz (some p)) (fun i _ => v.length - (intOf i).toNat)
      case atStart => exact ⟨0, _, Nat.zero_le _, rfl, by have := hFP.out.own; rw [List.length_map] at this; exact this, grownBy_refl _ _⟩
      case round =>
        obtain ⟨k, xs, hk, rfl, hown, hb⟩ := hrel
        obtain ⟨f0, f1, f2, f3, f4, f5, f6, f7, f8, f9⟩ := (hz7.out.by hb (by simp; omega)).ten
        by_cases hlt : k < v.length
        · obtain ⟨old, hold⟩ : ∃ old, wr.cell? ⟨p, k, none⟩ = some old := by
            rw [hown.cellAt _ (by omega)]
            have : k < xs.length := by rw [hown.1]; omega
            exact ⟨_, List.getElem?_eq_getElem this⟩
          have hfr := hown.frozenAt k
          have hst := hid (hown.stored k (.int .u8 x)).1
          have HBB := hid hb
          have i1 : (k : Int) < (v.length : Int) := by omega
          clear hown hb
          go_wp2_with fail
          go_roundw
          case rel => exact ⟨k + 1, _, by omega, by go_num, hst.out, grownBy_then HBB.out (by_setCell _ _ _ _)⟩
          case measure => simp [intOf]; omega
        · have HA8 := hid (below_row HA7.out (by have := HSP.out; omega) hb)
          have k1 := conv8 wr d da dc (ID.out.below HA8.out)
          have k2 := conv8 wr v va vc (IV.out.below HA8.out)
          have hx9 := (hx6.out.by HB6.out (by simp; omega)).by hb (by have := HSP.out; simp; omega)
          obtain ⟨d0, d1, d2, d3, d4, d5, d6, d7, d8, d9⟩ := hx9.ten
          have s1 := rfl_beq8b (strOfNums d)
          have s2 := rfl_beq8b (strOfNums v)
          clear hown hb
          go_wp2_with fail
          refine (sure12_any _).mono ?_
          rintro e w9 ⟨rfl, hb9⟩
          go_wp2_with fail
          go_ret
          exact ⟨rfl, below_on HA8.out hb9⟩
set_option maxRecDepth 100000 in
set_option maxHeartbeats 2000000 in
theorem ActionCopies_few (T A B C F : Int) (H : Bool) (X : Int) (va : Option Addr) (vl vc : Nat) (ma : Option Addr) (ml mc : Nat) (da : Option Addr) (dl dc : Nat) (T' A' B' C' F' : Int) (H' : Bool) (X' : Int) (va' : Option Addr) (vl' vc' : Nat) (ma' : Option Addr) (ml' mc' : Nat) (da' : Option Addr) (dl' dc' : Nat)
    (r r' : Bool) (h1 : (decide (vl ≤ 300 ∧ ml ≤ 300) && decide (dl ≤ 500)) = r) (h2 : (decide (vl' ≤ 300 ∧ ml' ≤ 300) && decide (dl' ≤ 500)) = r') (hn : r = false ∨ (r = true ∧ r' = false)) (x : Int) (w : World) :
    Calls Try.prog 3 #[.agg #[.int .i64 T, .int .u64 A, .int .u64 B, .int .i64 C, .int .i64 F, .bool H, .int .u64 X, .slice va vl vc, .slice ma ml mc, .slice da dl dc], .agg #[.int .i64 T', .int .u64 A', .int .u64 B', .int .i64 C', .int .i64 F', .bool H', .int .u64 X', .slice va' vl' vc', .slice ma' ml' mc', .slice da' dl' dc'], .int .u8 x] w fun e w' => e = .returned (.bool true) ∧ Below w.heap.size w w' := by
  obtain ⟨W, hW, hbW, hx, hy⟩ := two_act w T A B C F H X va vl vc ma ml mc da dl dc T' A' B' C' F' H' X' va' vl' vc' ma' ml' mc' da' dl' dc'
  have HW := hid hW
  have HB := hid hbW
  have F1 := fun V => actFew_any T A B C F H X va vl vc ma ml mc da dl dc V
  have F2 := fun V => actFew_any T' A' B' C' F' H' X' va' vl' vc' ma' ml' mc' da' dl' dc' V
  rw [h1] at F1
  rw [h2] at F2
  have F1 := hid F1
  have F2 := hid F2
  obtain ⟨d0, d1, d2, d3, d4, d5, d6, d7, d8, d9⟩ := hx.ten
  obtain ⟨e0, e1, e2, e3, e4, e5, e6, e7, e8, e9⟩ := hy.ten
  clear hW hbW h1 h2
  rcases hn with rfl | ⟨rfl, rfl⟩
  · go_enter Try.func3, Try.ntmps3
    go_wp2_with fail
    rw [HW.out]
    go_wp2_with fail
    refine (F1.out _).mono ?_
    rintro e w1 ⟨rfl, hb⟩
    have HA := hid (below_on HB.out hb)
    clear hb
    go_wp2_with fail
    refine (sure12_any _).mono ?_
    rintro e w9 ⟨rfl, hb9⟩
    go_wp2_with fail
    go_ret
    exact ⟨rfl, below_on HA.out hb9⟩
  · go_enter Try.func3, Try.ntmps3
    go_wp2_with fail
    rw [HW.out]
    go_wp2_with fail
    refine (F1.out _).mono ?_
    rintro e w1 ⟨rfl, hb⟩
    have HA := hid (below_on HB.out hb)
    have hx1 := hx.below hb
    have hy1 := hy.below hb
    clear hb hx hy
    clear d0 d1 d2 d3 d4 d5 d6 d7 d8 d9 e0 e1 e2 e3 e4 e5 e6 e7 e8 e9
    obtain ⟨d0, d1, d2, d3, d4, d5, d6, d7, d8, d9⟩ := hx1.ten
    obtain ⟨e0, e1, e2, e3, e4, e5, e6, e7, e8, e9⟩ := hy1.ten
    go_wp2_with fail
    refine (F2.out _).mono ?_
    rintro e w2 ⟨rfl, hb⟩
    have HA2 := hid (below_on HA.out hb)
    clear hb
    go_wp2_with fail
    refine (sure12_any _).mono ?_
    rintro e w9 ⟨rfl, hb9⟩
    go_wp2_with fail
    go_ret
    exact ⟨rfl, below_on HA2.out hb9⟩
/-- an action that came in -/
structure ActArg (w : World) (g : Ent12) : Prop where
  t : -9223372036854775808 ≤ g.T ∧ g.T ≤ 9223372036854775807
  a : 0 ≤ g.A ∧ g.A ≤ 18446744073709551615
  b : 0 ≤ g.B ∧ g.B ≤ 18446744073709551615
  c : -9223372036854775808 ≤ g.o.C ∧ g.o.C ≤ 9223372036854775807
  f : -9223372036854775808 ≤ g.o.F ∧ g.o.F ≤ 9223372036854775807
  x : 0 ≤ g.o.X ∧ g.o.X ≤ 18446744073709551615
  iv : Ints .u8 w g.va g.o.v
  im : Ints .u8 w g.ma g.o.m
  id : Ints .u8 w g.da g.d
  ov : Octets g.o.v
  om : Octets g.o.m
  od : Octets g.d
  cm : g.o.m.length ≤ g.mc
theorem ActArg.few {w : World} {g : Ent12} (h : ActArg w g) (hf : (decide (g.o.v.length ≤ 300 ∧ g.o.m.length ≤ 300) && decide (g.d.length ≤ 500)) = true) : ActIn w g ∧ g.o.v.length ≤ 300 ∧ g.o.m.length ≤ 300 ∧ g.d.length ≤ 500 := by
  simp only [Bool.and_eq_true, decide_eq_true_eq] at hf
  exact ⟨⟨h.t, h.a, h.b, h.c, h.f, h.x, by omega, by omega, by omega, h.iv, h.im, h.id, h.ov, h.om, h.od, h.cm⟩, hf.1.1, hf.1.2, hf.2⟩
theorem ActionCopies_walk (g g' : Ent12) (x : Int) (hx : 0 ≤ x ∧ x ≤ 255) (w : World) (h1 : ActArg w g) (h2 : ActArg w g') :
    Calls Try.prog 3 #[g.val, g'.val, .int .u8 x] w fun e w' => e = .returned (.bool true) ∧ Below w.heap.size w w' := by
  cases hf : (decide (g.o.v.length ≤ 300 ∧ g.o.m.length ≤ 300) && decide (g.d.length ≤ 500)) with
  | false => exact ActionCopies_few _ _ _ _ _ _ _ _ _ _ _ _ _ _ _ _ _ _ _ _ _ _ _ _ _ _ _ _ _ _ _ _ _ _ hf rfl (.inl rfl) x w
  | true =>
    cases hf' : (decide (g'.o.v.length ≤ 300 ∧ g'.o.m.length ≤ 300) && decide (g'.d.length ≤ 500)) with
    | false => exact ActionCopies_few _ _ _ _ _ _ _ _ _ _ _ _ _ _ _ _ _ _ _ _ _ _ _ _ _ _ _ _ _ _ _ _ _ _ hf hf' (.inr ⟨rfl, rfl⟩) x w
    | true =>
      obtain ⟨i1, a1, a2, a3⟩ := h1.few hf
      obtain ⟨i2, b1, b2, b3⟩ := h2.few hf'
      exact ActionCopies_many g g' a1 a2 a3 b1 b2 b3 x hx w i1 i2
end Go.Proofs.Ytaddhahghglabaa
