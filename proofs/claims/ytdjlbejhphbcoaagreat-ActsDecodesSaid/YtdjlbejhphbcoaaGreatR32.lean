/- Put together out of several texts. -/
import Derived.Test.YtdjlbejhphbcoaaGreatR28
import Derived.Test.YtdjlbejhphbcoaaGreatR23
import Derived.Test.YtdjlbejhphbcoaaGreatR31
import Derived.Test.YtdjlbejhphbcoaaGreatR4
import Derived.Deep.RegionHeld3
import Derived.Deep.DeepCutAuto
import Derived.Deep.RegionWith
namespace Go.Proofs.YtdjlbejhphbcoaaGreat
open Go.RowKit
set_option linter.unusedVariables false

theorem item_box12r (w : World) (t : Int) (a : Option Addr) (n c : Nat) : ∃ W, w.alloc (.cells #[.int .i64 t, .slice a n c] 93) = W ∧ Below w.heap.size w W ∧ BoxL W w.heap.size [.int .i64 t, .slice a n c] := ⟨_, rfl, below_alloc _ _, BoxL.new _ _ _⟩
set_option maxRecDepth 100000 in
set_option maxHeartbeats 4000000 in
theorem refDec12_err (b : List Int) (a : Option Addr) (c : Nat) (hbl : b.length ≤ 2000) (w : World) (hH : Holds w a c b) (q : Int) (hr : oneL 8 8 false 514 514 b = .error q) :
    Calls Tryz.prog 17 #[.slice a b.length c] w (DecPost12 b w) := by
  obtain ⟨W, hW, hbW, hx⟩ := act_box w 0 0 0 0 0 false 0 none 0 0 none 0 0 none 0 0
  have HW := hid hW
  have HB := hid hbW
  have ONE := hid (refOne_any W 8 8 false 514 514 ⟨by decide, by decide, by decide, by decide, by decide, by decide⟩ b a c (hH.below hbW) (by omega))
  have HO := hid hH.oct
  rw [hr] at ONE
  have HR := hid hr
  have hxl := hx.lt
  have HD : Hid (dec12 b = .error q) := by show _ = _; rw [dec12_read, HR.out]
  have HQ : Hid (q ≠ 0) := oneL_err (by decide) (by decide) HR.out
  clear hH hW hbW hr
  go_enter Tryz.func17, Tryz.ntmps17
  go_wp2_with fail
  rw [HW.out]
  refine ONE.out.mono ?_
  rintro e w1 ⟨rfl, hb1⟩
  obtain ⟨W2, hW2, hbW2, hy⟩ := item_box12r w1 0 none 0 0
  have HW2 := hid hW2
  have hx2 := (hx.below hb1).below hbW2
  have HBE := hid (below_on (below_on HB.out hb1) hbW2)
  have q1 : (q != 0) = true := by simpa using HQ.out
  clear hW2 hbW2 hb1 hx
  go_upto_region 2 with fail
  rw [HW2.out]
  have z := hx2.free
  obtain ⟨u0, u1, u2, u3, u4, u5, u6, u7, u8, u9⟩ := hx2.ten
  go_wp2_with fail
  have hkk := hx2.set10 (.int .i64 0) (.int .u64 0) (.int .u64 0) (.int .i64 0) (.int .i64 0) (.bool false) (.int .u64 0) (.slice none 0 0) (.slice none 0 0) (.slice none 0 0)
  obtain ⟨k0, k1, k2, k3, k4, k5, k6, k7, k8, k9⟩ := hkk.ten
  refine bodyPost_ret (v := .tuple #[zero12, .int .i64 0, .int .i64 q]) (by simp [results, Tryz.results17, go_sem, zero12, k0, k1, k2, k3, k4, k5, k6, k7, k8, k9]) rfl (.inl ⟨q, HD.out, HQ.out, rfl, ?_⟩)
  repeat (with_reducible refine Below.setCell ?_ (by simp) _)
  exact HBE.out
set_option maxRecDepth 100000 in
set_option maxHeartbeats 4000000 in
theorem refDec12_set (b : List Int) (a : Option Addr) (c : Nat) (hbl : b.length ≤ 2000) (w : World) (hH : Holds w a c b) (t : Int) (x : List Int) (n : Nat) (hr : oneL 8 8 false 514 514 b = .ok (t, x, n)) (h25 : t = 25) :
    Calls Tryz.prog 17 #[.slice a b.length c] w (DecPost12 b w) := by
  obtain ⟨W, hW, hbW, hx⟩ := act_box w 0 0 0 0 0 false 0 none 0 0 none 0 0 none 0 0
  have HW := hid hW
  have HB := hid hbW
  have ONE := hid (refOne_any W 8 8 false 514 514 ⟨by decide, by decide, by decide, by decide, by decide, by decide⟩ b a c (hH.below hbW) (by omega))
  have HO := hid hH.oct
  rw [hr] at ONE
  have HR := hid hr
  have hxl := hx.lt
  obtain ⟨x4, xm, t0, t1, xl, ox⟩ := one_facts12 hH.oct hr
  have hxb : x.length ≤ 2000 := by
    obtain ⟨hw, h4, hk⟩ := write_one (by omega) hH.oct hr
    unfold writeL at hw
    split at hw
    · have h1 := congrArg List.length (Except.ok.inj hw)
      simp [bytesL_length] at h1
      omega
    · cases hw
  subst h25
  have RS := hid (fun V (a3 : Option Addr) (c3 : Nat) (h1 : x.length ≤ c3) (h2 : c3 ≤ 9223372036854775807) (i3 : Ints .u8 V a3 x) => refSet_any x a3 c3 hxb h1 h2 ox V i3)
  clear hH hW hbW hr xm t0 t1 xl ox hxb
  go_enter Tryz.func17, Tryz.ntmps17
  go_wp2_with fail
  rw [HW.out]
  refine ONE.out.mono ?_
  rintro e w1 ⟨a2, c2, rfl, h1, h2, i2, hnew, hb1⟩
  obtain ⟨M, off, he2, hc2⟩ := i2 0 (by omega)
  have hMl : M < w1.heap.size := World.block_lt_of_cell? w1 _ hc2
  subst he2
  obtain ⟨W2, hW2, hbW2, hy⟩ := item_box12r w1 25 (some ⟨M, off, none⟩) x.length c2
  have HW2 := hid hW2
  have hW2s : W2.heap.size = w1.heap.size + 1 := by rw [← hW2]; simp
  obtain ⟨W3, hW3, hbW3, hz⟩ := act_box W2 25 0 0 0 0 false 0 none 0 0 none 0 0 none 0 0
  have HW3 := hid hW3
  have hx3 := ((hx.below hb1).below hbW2).below hbW3
  have hy3 := hy.below hbW3
  have HB3 := hid (below_on (below_on (below_on HB.out hb1) hbW2) hbW3)
  have I3 := hid ((i2.below hbW2).below hbW3)
  have HC2 := hid (And.intro h1 h2)
  have hs1 := hb1.size
  obtain ⟨f0, f1⟩ := hy.two
  have HS2 := hid hW2s
  clear hW2 hW3 hW2s
  go_upto_region 2 with fail
  rw [HW2.out]
  go_upto_region 5 with fail
  rw [HW3.out]
  clear hbW2 hbW3 hb1 hx hy i2 f0 f1 h1 h2 hc2 hnew
  obtain ⟨f0, f1⟩ := hy3.two
  obtain ⟨d0, d1, d2, d3, d4, d5, d6, d7, d8, d9⟩ := hz.ten
  go_wp2_with fail
  refine (RS.out _ _ _ HC2.out.1 HC2.out.2 I3.out).mono ?_
  rintro e w4 (⟨q, C, F, H, X, va, vl, vc, ma, ml, mc, hq, hq0, rfl, hb4⟩ | ⟨o, a1, k1, a3, k2, hq, rfl, hb4, i1, i3, hmc, hn1, hn2⟩)
  · have HD : Hid (dec12 b = .error q) := by show _ = _; rw [dec12_read, HR.out]; show (match read12 25 x with | .error q => Except.error q | .ok a => Except.ok (a, n)) = _; unfold read12; rw [if_pos rfl, hq]
    have HQ := hid hq0
    have q1 : (q != 0) = true := by simpa using hq0
    obtain ⟨W5, hW5, hbW5, hv⟩ := oxm_box w4 C F H X va vl vc ma ml mc
    have HW5 := hid hW5
    have hx5 := (hx3.below hb4).below hbW5
    have HB5 := hid (below_on (below_on HB3.out hb4) hbW5)
    clear d0 d1 d2 d3 d4 d5 d6 d7 d8 d9
    clear hW5 hbW5 hb4 f0 f1 hq hq0
    go_upto_region 7 with fail
    rw [HW5.out]
    have z := hx5.free
    obtain ⟨u0, u1, u2, u3, u4, u5, u6, u7, u8, u9⟩ := hx5.ten
    go_wp2_with fail
    have hkk := hx5.set10 (.int .i64 0) (.int .u64 0) (.int .u64 0) (.int .i64 0) (.int .i64 0) (.bool false) (.int .u64 0) (.slice none 0 0) (.slice none 0 0) (.slice none 0 0)
    obtain ⟨k0, k1, k2, k3, k4, k5, k6, k7, k8, k9⟩ := hkk.ten
    refine bodyPost_ret (v := .tuple #[zero12, .int .i64 0, .int .i64 q]) (by simp [results, Tryz.results17, go_sem, zero12, k0, k1, k2, k3, k4, k5, k6, k7, k8, k9]) rfl (.inl ⟨q, HD.out, HQ.out, rfl, ?_⟩)
    repeat (with_reducible refine Below.setCell ?_ (by simp) _)
    exact HB5.out
  · obtain ⟨C, F, H, X, v, m⟩ := o
    simp only at i1 i3 hmc
    have HD : Hid (dec12 b = .ok (Ent12.act ⟨25, 0, 0, ⟨C, F, H, X, v, m⟩, a1, k1, a3, k2, [], none, 0⟩, n)) := by show _ = _; rw [dec12_read, HR.out]; show (match read12 25 x with | .error q => Except.error q | .ok a => Except.ok (a, n)) = _; unfold read12; rw [if_pos rfl, hq]; rfl
    obtain ⟨hac, _, _, _, hin, o1, o2, o3⟩ := dec_act HD.out HO.out
    have HIN := hid (fun V (jv : Ints .u8 V a1 v) (jm : Ints .u8 V a3 m) => act_in12 (g := ⟨25, 0, 0, ⟨C, F, H, X, v, m⟩, a1, k1, a3, k2, [], none, 0⟩) hac hin jv jm (Ints.nil _ _ _) o1 o2 o3 hmc)
    obtain ⟨W5, hW5, hbW5, hv⟩ := oxm_box w4 C F H X a1 v.length k1 a3 m.length k2
    have HW5 := hid hW5
    have hx5 := (hx3.below hb4).below hbW5
    have hz5 := (hz.below hb4).below hbW5
    have HB5 := hid (below_on (below_on HB3.out hb4) hbW5)
    have J1 := hid (i1.below hbW5)
    have J2 := hid (i3.below hbW5)
    have s3 := HB3.out.size
    have hW2s := HS2.out
    have hzl := hz.lt
    have s4 := hb4.size
    have N1 : Hid (New8 w a1) := fun y hy => by have := hn1 y hy; omega
    have N2 : Hid (New8 w a3) := fun y hy => by have := hn2 y hy; omega
    have M1 : Hid (∀ y : Addr, a1 = some y → y.block ≠ w.heap.size) := fun y hy => by have := hn1 y hy; omega
    have M2 : Hid (∀ y : Addr, a3 = some y → y.block ≠ w.heap.size) := fun y hy => by have := hn2 y hy; omega
    have M3 : Hid (∀ y : Addr, a1 = some y → y.block ≠ W2.heap.size) := fun y hy => by have := hn1 y hy; omega
    have M4 : Hid (∀ y : Addr, a3 = some y → y.block ≠ W2.heap.size) := fun y hy => by have := hn2 y hy; omega
    have hwW2 : w.heap.size ≤ W2.heap.size := by omega
    have m1 : ¬ W2.heap.size = w.heap.size := by omega
    have m2 : ¬ w.heap.size = W2.heap.size := by omega
    have m3 : ¬ W2.heap.size = w4.heap.size := by omega
    have m4 : ¬ w4.heap.size = W2.heap.size := by omega
    have m5 : ¬ w.heap.size = w4.heap.size := by omega
    have m6 : ¬ w4.heap.size = w.heap.size := by omega
    clear d0 d1 d2 d3 d4 d5 d6 d7 d8 d9
    clear hW5 hbW5 hb4 f0 f1 hq i1 i3 hn1 hn2 hac hin o1 o2 o3 hmc hW2s
    go_upto_region 7 with fail
    rw [HW5.out]
    obtain ⟨d0, d1, d2, d3, d4, d5, d6, d7, d8, d9⟩ := hz5.ten
    have zz := hz5.free
    obtain ⟨f0, f1, f2, f3, f4, f5⟩ := hv.six
    go_upto_region 10 with fail
    have hZ := (((((hz5.set 3 (.int .i64 C) (by simp)).set 4 (.int .i64 F) (by simp)).set 5 (.bool H) (by simp)).set 6 (.int .u64 X) (by simp)).set 7 (.slice a1 v.length k1) (by simp)).set 8 (.slice a3 m.length k2) (by simp)
    have hX := (((((hx5.far (c := W2.heap.size) (i := 3) (.int .i64 C) m1).far (c := W2.heap.size) (i := 4) (.int .i64 F) m1).far (c := W2.heap.size) (i := 5) (.bool H) m1).far (c := W2.heap.size) (i := 6) (.int .u64 X) m1).far (c := W2.heap.size) (i := 7) (.slice a1 v.length k1) m1).far (c := W2.heap.size) (i := 8) (.slice a3 m.length k2) m1
    clear d0 d1 d2 d3 d4 d5 d6 d7 d8 d9
    clear zz f0 f1 f2 f3 f4 f5 hz5 hx5 hv
    obtain ⟨d0, d1, d2, d3, d4, d5, d6, d7, d8, d9⟩ := hZ.ten
    obtain ⟨e0, e1, e2, e3, e4, e5, e6, e7, e8, e9⟩ := hX.ten
    have zX := hX.free
    go_wp2_with fail
    have hkk := hX.set10 (.int .i64 25) (.int .u64 0) (.int .u64 0) (.int .i64 C) (.int .i64 F) (.bool H) (.int .u64 X) (.slice a1 v.length k1) (.slice a3 m.length k2) (.slice none 0 0)
    obtain ⟨k0, k1', k2', k3, k4, k5, k6, k7, k8, k9⟩ := hkk.ten
    refine bodyPost_ret (v := .tuple #[.agg #[.int .i64 25, .int .u64 0, .int .u64 0, .int .i64 C, .int .i64 F, .bool H, .int .u64 X, .slice a1 v.length k1, .slice a3 m.length k2, .slice none 0 0], .int .i64 n, .int .i64 0]) (by simp [results, Tryz.results17, go_sem, k0, k1', k2', k3, k4, k5, k6, k7, k8, k9]) rfl (.inr ⟨⟨25, 0, 0, ⟨C, F, H, X, v, m⟩, a1, k1, a3, k2, [], none, 0⟩, n, HD.out, rfl, ?_, HIN.out _ ?_ ?_, N1.out, N2.out, fun y hy => by cases hy⟩)
    · repeat (with_reducible refine Below.setCell ?_ (by simp; try omega) _)
      exact HB5.out
    · repeat (first | refine Ints.apart ?_ _ M1.out | refine Ints.apart ?_ _ M3.out)
      exact J1.out
    · repeat (first | refine Ints.apart ?_ _ M2.out | refine Ints.apart ?_ _ M4.out)
      exact J2.out
end Go.Proofs.YtdjlbejhphbcoaaGreat
namespace Go.Proofs.YtdjlbejhphbcoaaGreat
open Go.RowKit
set_option linter.unusedVariables false

set_option maxRecDepth 100000 in
set_option maxHeartbeats 4000000 in
theorem refDec12_norow (b : List Int) (a : Option Addr) (c : Nat) (hbl : b.length ≤ 2000) (w : World) (hH : Holds w a c b) (t : Int) (x : List Int) (n : Nat) (hr : oneL 8 8 false 514 514 b = .ok (t, x, n)) (h25 : t ≠ 25) (hrow : row12 t = none) :
    Calls Tryz.prog 17 #[.slice a b.length c] w (DecPost12 b w) := by
  obtain ⟨W, hW, hbW, hx⟩ := act_box w 0 0 0 0 0 false 0 none 0 0 none 0 0 none 0 0
  have HW := hid hW
  have HB := hid hbW
  have ONE := hid (refOne_any W 8 8 false 514 514 ⟨by decide, by decide, by decide, by decide, by decide, by decide⟩ b a c (hH.below hbW) (by omega))
  have HO := hid hH.oct
  rw [hr] at ONE
  have HR := hid hr
  have hxl := hx.lt
  obtain ⟨x4, xm, t0, t1, xl, ox⟩ := one_facts12 hH.oct hr
  have hxb : x.length ≤ 2000 := by
    obtain ⟨hw, h4, hk⟩ := write_one (by omega) hH.oct hr
    unfold writeL at hw
    split at hw
    · have h1 := congrArg List.length (Except.ok.inj hw)
      simp [bytesL_length] at h1
      omega
    · cases hw
  have HD : Hid (dec12 b = .error 513) := by show _ = _; rw [dec12_read, HR.out]; show (match read12 t x with | .error q => Except.error q | .ok a => Except.ok (a, n)) = _; unfold read12; rw [if_neg h25, hrow]
  have RO := hid (fun V => refRow12_any t V)
  have e8 : rowP t = [] := by simp [rowP, hrow]
  have e9 : (row12 t).isSome = false := by rw [hrow]; rfl
  rw [e8, e9] at RO
  have c25 : (t == 25) = false := by simpa using h25
  clear hH hW hbW hr xm t0 t1 xl ox hxb hrow e8 e9 h25
  go_enter Tryz.func17, Tryz.ntmps17
  go_wp2_with fail
  rw [HW.out]
  refine ONE.out.mono ?_
  rintro e w1 ⟨a2, c2, rfl, h1, h2, i2, hnew, hb1⟩
  obtain ⟨M, off, he2, hc2⟩ := i2 0 (by omega)
  have hMl : M < w1.heap.size := World.block_lt_of_cell? w1 _ hc2
  subst he2
  obtain ⟨W2, hW2, hbW2, hy⟩ := item_box12r w1 t (some ⟨M, off, none⟩) x.length c2
  have HW2 := hid hW2
  have hW2s : W2.heap.size = w1.heap.size + 1 := by rw [← hW2]; simp
  obtain ⟨W3, hW3, hbW3, hz⟩ := act_box W2 t 0 0 0 0 false 0 none 0 0 none 0 0 none 0 0
  have HW3 := hid hW3
  have hx3 := ((hx.below hb1).below hbW2).below hbW3
  have hy3 := hy.below hbW3
  have HB3 := hid (below_on (below_on (below_on HB.out hb1) hbW2) hbW3)
  have I3 := hid ((i2.below hbW2).below hbW3)
  have HC2 := hid (And.intro h1 h2)
  have hs1 := hb1.size
  obtain ⟨f0, f1⟩ := hy.two
  have HS2 := hid hW2s
  clear hW2 hW3 hW2s
  go_upto_region 2 with fail
  rw [HW2.out]
  go_upto_region 5 with fail
  rw [HW3.out]
  clear hbW2 hbW3 hb1 hx hy i2 f0 f1 h1 h2 hc2 hnew
  obtain ⟨f0, f1⟩ := hy3.two
  obtain ⟨d0, d1, d2, d3, d4, d5, d6, d7, d8, d9⟩ := hz.ten
  go_wp2_with fail
  refine (RO.out _).mono ?_
  rintro e w4 ⟨ra, rfl, hI4, hb4⟩
  have hx4 := hx3.below hb4
  have HB4 := hid (below_on HB3.out hb4)
  clear d0 d1 d2 d3 d4 d5 d6 d7 d8 d9
  clear hb4 f0 f1
  have z := hx4.free
  obtain ⟨u0, u1, u2, u3, u4, u5, u6, u7, u8, u9⟩ := hx4.ten
  go_wp2_with fail
  have hkk := hx4.set10 (.int .i64 0) (.int .u64 0) (.int .u64 0) (.int .i64 0) (.int .i64 0) (.bool false) (.int .u64 0) (.slice none 0 0) (.slice none 0 0) (.slice none 0 0)
  obtain ⟨k0, k1, k2, k3, k4, k5, k6, k7, k8, k9⟩ := hkk.ten
  refine bodyPost_ret (v := .tuple #[zero12, .int .i64 0, .int .i64 513]) (by simp [results, Tryz.results17, go_sem, zero12, k0, k1, k2, k3, k4, k5, k6, k7, k8, k9]) rfl (.inl ⟨513, HD.out, by decide, rfl, ?_⟩)
  repeat (with_reducible refine Below.setCell ?_ (by simp) _)
  exact HB4.out
set_option maxRecDepth 100000 in
set_option maxHeartbeats 4000000 in
theorem refDec12_size (b : List Int) (a : Option Addr) (c : Nat) (hbl : b.length ≤ 2000) (w : World) (hH : Holds w a c b) (t : Int) (x : List Int) (n : Nat) (hr : oneL 8 8 false 514 514 b = .ok (t, x, n)) (l : List Int) (h25 : t ≠ 25) (hrow : row12 t = some l) (hx1 : t ≠ 65535) (hxs : x.length ≠ sizeL l) :
    Calls Tryz.prog 17 #[.slice a b.length c] w (DecPost12 b w) := by
  obtain ⟨W, hW, hbW, hx⟩ := act_box w 0 0 0 0 0 false 0 none 0 0 none 0 0 none 0 0
  have HW := hid hW
  have HB := hid hbW
  have ONE := hid (refOne_any W 8 8 false 514 514 ⟨by decide, by decide, by decide, by decide, by decide, by decide⟩ b a c (hH.below hbW) (by omega))
  have HO := hid hH.oct
  rw [hr] at ONE
  have HR := hid hr
  have hxl := hx.lt
  obtain ⟨x4, xm, t0, t1, xl, ox⟩ := one_facts12 hH.oct hr
  have hxb : x.length ≤ 2000 := by
    obtain ⟨hw, h4, hk⟩ := write_one (by omega) hH.oct hr
    unfold writeL at hw
    split at hw
    · have h1 := congrArg List.length (Except.ok.inj hw)
      simp [bytesL_length] at h1
      omega
    · cases hw
  have RO := hid (fun V => refRow12_any t V)
  obtain ⟨k1, k2, k3, k4, k5, k6⟩ := count_le12 t
  have e8 : rowP t = l := by simp [rowP, hrow]
  have e9 : (row12 t).isSome = true := by rw [hrow]; rfl
  rw [e8] at RO k1 k2 k3 k4 k5 k6
  rw [e9] at RO
  have c25 : (t == 25) = false := by simpa using h25
  have HD : Hid (dec12 b = .error 514) := by show _ = _; rw [dec12_read, HR.out]; show (match read12 t x with | .error q => Except.error q | .ok a => Except.ok (a, n)) = _; unfold read12; rw [if_neg h25, hrow]; simp only; rw [if_pos ⟨hx1, hxs⟩]
  have g1 : (t != 65535) = true := by simpa using hx1
  obtain ⟨sl, hsl⟩ : ∃ s, sizeL l = s := ⟨_, rfl⟩
  rw [hsl] at hxs k3
  have K3 := hid k3
  have g2 : (((x.length : Nat) : Int) != (sl : Int)) = true := by simp; omega
  clear hH hW hbW hr xm t0 t1 xl ox hxb hrow e8 e9 h25 k1 k2 k3 k4 k6 hx1 hxs hsl
  go_enter Tryz.func17, Tryz.ntmps17
  go_wp2_with fail
  rw [HW.out]
  refine ONE.out.mono ?_
  rintro e w1 ⟨a2, c2, rfl, h1, h2, i2, hnew, hb1⟩
  obtain ⟨M, off, he2, hc2⟩ := i2 0 (by omega)
  have hMl : M < w1.heap.size := World.block_lt_of_cell? w1 _ hc2
  subst he2
  obtain ⟨W2, hW2, hbW2, hy⟩ := item_box12r w1 t (some ⟨M, off, none⟩) x.length c2
  have HW2 := hid hW2
  have hW2s : W2.heap.size = w1.heap.size + 1 := by rw [← hW2]; simp
  obtain ⟨W3, hW3, hbW3, hz⟩ := act_box W2 t 0 0 0 0 false 0 none 0 0 none 0 0 none 0 0
  have HW3 := hid hW3
  have hx3 := ((hx.below hb1).below hbW2).below hbW3
  have hy3 := hy.below hbW3
  have HB3 := hid (below_on (below_on (below_on HB.out hb1) hbW2) hbW3)
  have I3 := hid ((i2.below hbW2).below hbW3)
  have HC2 := hid (And.intro h1 h2)
  have hs1 := hb1.size
  obtain ⟨f0, f1⟩ := hy.two
  have HS2 := hid hW2s
  clear hW2 hW3 hW2s
  go_upto_region 2 with fail
  rw [HW2.out]
  go_upto_region 5 with fail
  rw [HW3.out]
  clear hbW2 hbW3 hb1 hx hy i2 f0 f1 h1 h2 hc2 hnew
  obtain ⟨f0, f1⟩ := hy3.two
  obtain ⟨d0, d1, d2, d3, d4, d5, d6, d7, d8, d9⟩ := hz.ten
  go_wp2_with fail
  refine (RO.out _).mono ?_
  rintro e w4 ⟨ra, rfl, hI4, hb4⟩
  have hx4 := hx3.below hb4
  have hy4 := hy3.below hb4
  have hz4 := hz.below hb4
  have HB4 := hid (below_on HB3.out hb4)
  have I4 := hid (I3.out.below hb4)
  have R4 := hid hI4
  have hs4 := hb4.size
  have hs3 := HB3.out.size
  have hzl := hz.lt
  clear d0 d1 d2 d3 d4 d5 d6 d7 d8 d9
  clear hb4 hI4 f0 f1 hx3 hy3 hz
  obtain ⟨f0, f1⟩ := hy4.two
  obtain ⟨d0, d1, d2, d3, d4, d5, d6, d7, d8, d9⟩ := hz4.ten
  go_wp2_with fail
  have SZ := hid (refSize_any l ra l.length w4 (by omega) R4.out)
  rw [K3.out] at SZ
  refine SZ.out.mono ?_
  rintro e w' ⟨rfl, rfl⟩
  have z := hx4.free
  obtain ⟨u0, u1, u2, u3, u4, u5, u6, u7, u8, u9⟩ := hx4.ten
  go_wp2_with fail
  have hkk := hx4.set10 (.int .i64 0) (.int .u64 0) (.int .u64 0) (.int .i64 0) (.int .i64 0) (.bool false) (.int .u64 0) (.slice none 0 0) (.slice none 0 0) (.slice none 0 0)
  obtain ⟨k0, k1, k2, k3, k4, k5, k6, k7, k8, k9⟩ := hkk.ten
  refine bodyPost_ret (v := .tuple #[zero12, .int .i64 0, .int .i64 514]) (by simp [results, Tryz.results17, go_sem, zero12, k0, k1, k2, k3, k4, k5, k6, k7, k8, k9]) rfl (.inl ⟨514, HD.out, by decide, rfl, ?_⟩)
  repeat (with_reducible refine Below.setCell ?_ (by simp) _)
  exact HB4.out
set_option maxRecDepth 100000 in
set_option maxHeartbeats 4000000 in
theorem refDec12_odd (b : List Int) (a : Option Addr) (c : Nat) (hbl : b.length ≤ 2000) (w : World) (hH : Holds w a c b) (t : Int) (x : List Int) (n : Nat) (hr : oneL 8 8 false 514 514 b = .ok (t, x, n)) (l : List Int) (h25 : t ≠ 25) (hrow : row12 t = some l) (hx1 : t ≠ 65535) (hxs : x.length = sizeL l) (hg : getL l x = .error 2) :
    Calls Tryz.prog 17 #[.slice a b.length c] w (DecPost12 b w) := by
  obtain ⟨W, hW, hbW, hx⟩ := act_box w 0 0 0 0 0 false 0 none 0 0 none 0 0 none 0 0
  have HW := hid hW
  have HB := hid hbW
  have ONE := hid (refOne_any W 8 8 false 514 514 ⟨by decide, by decide, by decide, by decide, by decide, by decide⟩ b a c (hH.below hbW) (by omega))
  have HO := hid hH.oct
  rw [hr] at ONE
  have HR := hid hr
  have hxl := hx.lt
  obtain ⟨x4, xm, t0, t1, xl, ox⟩ := one_facts12 hH.oct hr
  have hxb : x.length ≤ 2000 := by
    obtain ⟨hw, h4, hk⟩ := write_one (by omega) hH.oct hr
    unfold writeL at hw
    split at hw
    · have h1 := congrArg List.length (Except.ok.inj hw)
      simp [bytesL_length] at h1
      omega
    · cases hw
  have RO := hid (fun V => refRow12_any t V)
  obtain ⟨k1, k2, k3, k4, k5, k6⟩ := count_le12 t
  have e8 : rowP t = l := by simp [rowP, hrow]
  have e9 : (row12 t).isSome = true := by rw [hrow]; rfl
  rw [e8] at RO k1 k2 k3 k4 k5 k6
  rw [e9] at RO
  have c25 : (t == 25) = false := by simpa using h25
  have hgw : getW l x = .error 2 := by rw [getW_yes12 (row_facts hrow).ok]; exact hg
  have HGW := hid hgw
  have OX := hid ox
  have HD : Hid (dec12 b = .error 518) := by show _ = _; rw [dec12_read, HR.out]; show (match read12 t x with | .error q => Except.error q | .ok a => Except.ok (a, n)) = _; unfold read12; rw [if_neg h25, hrow]; simp only; rw [if_neg (by simp [hxs]), hgw]
  obtain ⟨sl, hsl⟩ : ∃ s, sizeL l = s := ⟨_, rfl⟩
  rw [hsl] at hxs k3
  have K3 := hid k3
  have g2 : (((x.length : Nat) : Int) != (sl : Int)) = false := by rw [hxs]; simp
  have g1 : (t != 65535) = true := by simpa using hx1
  clear hH hW hbW hr xm t0 t1 xl ox hxb hrow e8 e9 h25 k1 k2 k3 k4 k6 hx1 hxs hsl hg hgw
  go_enter Tryz.func17, Tryz.ntmps17
  go_wp2_with fail
  rw [HW.out]
  refine ONE.out.mono ?_
  rintro e w1 ⟨a2, c2, rfl, h1, h2, i2, hnew, hb1⟩
  obtain ⟨M, off, he2, hc2⟩ := i2 0 (by omega)
  have hMl : M < w1.heap.size := World.block_lt_of_cell? w1 _ hc2
  subst he2
  obtain ⟨W2, hW2, hbW2, hy⟩ := item_box12r w1 t (some ⟨M, off, none⟩) x.length c2
  have HW2 := hid hW2
  have hW2s : W2.heap.size = w1.heap.size + 1 := by rw [← hW2]; simp
  obtain ⟨W3, hW3, hbW3, hz⟩ := act_box W2 t 0 0 0 0 false 0 none 0 0 none 0 0 none 0 0
  have HW3 := hid hW3
  have hx3 := ((hx.below hb1).below hbW2).below hbW3
  have hy3 := hy.below hbW3
  have HB3 := hid (below_on (below_on (below_on HB.out hb1) hbW2) hbW3)
  have I3 := hid ((i2.below hbW2).below hbW3)
  have HC2 := hid (And.intro h1 h2)
  have hs1 := hb1.size
  obtain ⟨f0, f1⟩ := hy.two
  have HS2 := hid hW2s
  clear hW2 hW3 hW2s
  go_upto_region 2 with fail
  rw [HW2.out]
  go_upto_region 5 with fail
  rw [HW3.out]
  clear hbW2 hbW3 hb1 hx hy i2 f0 f1 h1 h2 hc2 hnew
  obtain ⟨f0, f1⟩ := hy3.two
  obtain ⟨d0, d1, d2, d3, d4, d5, d6, d7, d8, d9⟩ := hz.ten
  go_wp2_with fail
  refine (RO.out _).mono ?_
  rintro e w4 ⟨ra, rfl, hI4, hb4⟩
  have hx4 := hx3.below hb4
  have hy4 := hy3.below hb4
  have hz4 := hz.below hb4
  have HB4 := hid (below_on HB3.out hb4)
  have I4 := hid (I3.out.below hb4)
  have R4 := hid hI4
  have hs4 := hb4.size
  have hs3 := HB3.out.size
  have hzl := hz.lt
  clear d0 d1 d2 d3 d4 d5 d6 d7 d8 d9
  clear hb4 hI4 f0 f1 hx3 hy3 hz
  obtain ⟨f0, f1⟩ := hy4.two
  obtain ⟨d0, d1, d2, d3, d4, d5, d6, d7, d8, d9⟩ := hz4.ten
  go_wp2_with fail
  have SZ := hid (refSize_any l ra l.length w4 (by omega) R4.out)
  rw [K3.out] at SZ
  refine SZ.out.mono ?_
  rintro e w' ⟨rfl, rfl⟩
  have GT := hid (refGet_any l x ra (some ⟨M, off, none⟩) l.length c2 w4 (by omega) HC2.out.1 HC2.out.2 OX.out R4.out I4.out)
  rw [HGW.out] at GT
  go_wp2_with fail
  refine GT.out.mono ?_
  rintro e w5 (⟨q, hq, rfl, hb5⟩ | ⟨ns, v5, hq, _⟩)
  case inr => cases hq
  obtain rfl : 2 = q := by injection hq
  have hx5 := hx4.below hb5
  have HB5 := hid (below_on HB4.out hb5)
  clear d0 d1 d2 d3 d4 d5 d6 d7 d8 d9
  clear hb5 f0 f1
  have z := hx5.free
  obtain ⟨u0, u1, u2, u3, u4, u5, u6, u7, u8, u9⟩ := hx5.ten
  go_wp2_with fail
  have hkk := hx5.set10 (.int .i64 0) (.int .u64 0) (.int .u64 0) (.int .i64 0) (.int .i64 0) (.bool false) (.int .u64 0) (.slice none 0 0) (.slice none 0 0) (.slice none 0 0)
  obtain ⟨k0, k1, k2, k3, k4, k5, k6, k7, k8, k9⟩ := hkk.ten
  refine bodyPost_ret (v := .tuple #[zero12, .int .i64 0, .int .i64 518]) (by simp [results, Tryz.results17, go_sem, zero12, k0, k1, k2, k3, k4, k5, k6, k7, k8, k9]) rfl (.inl ⟨518, HD.out, by decide, rfl, ?_⟩)
  repeat (with_reducible refine Below.setCell ?_ (by simp) _)
  exact HB5.out
set_option maxRecDepth 100000 in
set_option maxHeartbeats 4000000 in
theorem refDec12_fix1_bad (b : List Int) (a : Option Addr) (c : Nat) (hbl : b.length ≤ 2000) (w : World) (hH : Holds w a c b) (t : Int) (x : List Int) (n : Nat) (hr : oneL 8 8 false 514 514 b = .ok (t, x, n)) (l : List Int) (h25 : t ≠ 25) (hrow : row12 t = some l) (ns : List Int) (hg : getL l x = .ok ns) (hK : ns.length = 1) (hx1 : t ≠ 65535) (hxs : x.length = sizeL l) (has : asked12 t (ns.getD 0 0) ≠ 0) :
    Calls Tryz.prog 17 #[.slice a b.length c] w (DecPost12 b w) := by
  obtain ⟨W, hW, hbW, hx⟩ := act_box w 0 0 0 0 0 false 0 none 0 0 none 0 0 none 0 0
  have HW := hid hW
  have HB := hid hbW
  have ONE := hid (refOne_any W 8 8 false 514 514 ⟨by decide, by decide, by decide, by decide, by decide, by decide⟩ b a c (hH.below hbW) (by omega))
  have HO := hid hH.oct
  rw [hr] at ONE
  have HR := hid hr
  have hxl := hx.lt
  obtain ⟨x4, xm, t0, t1, xl, ox⟩ := one_facts12 hH.oct hr
  have hxb : x.length ≤ 2000 := by
    obtain ⟨hw, h4, hk⟩ := write_one (by omega) hH.oct hr
    unfold writeL at hw
    split at hw
    · have h1 := congrArg List.length (Except.ok.inj hw)
      simp [bytesL_length] at h1
      omega
    · cases hw
  have RO := hid (fun V => refRow12_any t V)
  obtain ⟨k1, k2, k3, k4, k5, k6⟩ := count_le12 t
  have e8 : rowP t = l := by simp [rowP, hrow]
  have e9 : (row12 t).isSome = true := by rw [hrow]; rfl
  rw [e8] at RO k1 k2 k3 k4 k5 k6
  rw [e9] at RO
  have c25 : (t == 25) = false := by simpa using h25
  have hgw : getW l x = .ok ns := by rw [getW_yes12 (row_facts hrow).ok]; exact hg
  have hsle := (getL_len12 hg).2
  have HGW := hid hgw
  have OX := hid ox
  have HD : Hid (dec12 b = .error (asked12 t (ns.getD 0 0))) := by show _ = _; rw [dec12_read, HR.out]; show (match read12 t x with | .error q => Except.error q | .ok a => Except.ok (a, n)) = _; unfold read12; rw [if_neg h25, hrow]; simp only; rw [if_neg (by simp [hxs]), hgw]; simp only; rw [if_pos has]
  have AS := hid (fun V => refAsked_any t (ns.getD 0 0) V)
  obtain ⟨q, hq⟩ : ∃ q, asked12 t (ns.getD 0 0) = q := ⟨_, rfl⟩
  rw [hq] at HD AS has
  have HQ := hid has
  have q1 : (q != 0) = true := by simpa using has
  clear hq
  obtain ⟨sl, hsl⟩ : ∃ s, sizeL l = s := ⟨_, rfl⟩
  rw [hsl] at k3 hsle hxs
  have K3 := hid k3
  have g2 : (((x.length : Nat) : Int) != (sl : Int)) = false := by rw [hxs]; simp
  have g1 : (t != 65535) = true := by simpa using hx1
  have is0 : (0 : Int) ≤ (sl : Int) := by omega
  have is1 : (sl : Int) ≤ (x.length : Int) := by omega
  obtain ⟨nA, hnA⟩ : ∃ A, ns.getD 0 0 = A := ⟨_, rfl⟩
  rw [hnA] at AS
  have HNA := hid hnA
  have HK := hid hK
  clear hH hW hbW hr xm t0 t1 xl ox hxb hrow e8 e9 h25 k1 k2 k3 k4 k6 hsl hg hgw hnA hsle has hK hxs hx1
  go_enter Tryz.func17, Tryz.ntmps17
  go_wp2_with fail
  rw [HW.out]
  refine ONE.out.mono ?_
  rintro e w1 ⟨a2, c2, rfl, h1, h2, i2, hnew, hb1⟩
  obtain ⟨M, off, he2, hc2⟩ := i2 0 (by omega)
  have hMl : M < w1.heap.size := World.block_lt_of_cell? w1 _ hc2
  subst he2
  obtain ⟨W2, hW2, hbW2, hy⟩ := item_box12r w1 t (some ⟨M, off, none⟩) x.length c2
  have HW2 := hid hW2
  have hW2s : W2.heap.size = w1.heap.size + 1 := by rw [← hW2]; simp
  obtain ⟨W3, hW3, hbW3, hz⟩ := act_box W2 t 0 0 0 0 false 0 none 0 0 none 0 0 none 0 0
  have HW3 := hid hW3
  have hx3 := ((hx.below hb1).below hbW2).below hbW3
  have hy3 := hy.below hbW3
  have HB3 := hid (below_on (below_on (below_on HB.out hb1) hbW2) hbW3)
  have I3 := hid ((i2.below hbW2).below hbW3)
  have HC2 := hid (And.intro h1 h2)
  have hs1 := hb1.size
  obtain ⟨f0, f1⟩ := hy.two
  have HS2 := hid hW2s
  clear hW2 hW3 hW2s
  go_upto_region 2 with fail
  rw [HW2.out]
  go_upto_region 5 with fail
  rw [HW3.out]
  clear hbW2 hbW3 hb1 hx hy i2 f0 f1 h1 h2 hc2 hnew
  obtain ⟨f0, f1⟩ := hy3.two
  obtain ⟨d0, d1, d2, d3, d4, d5, d6, d7, d8, d9⟩ := hz.ten
  go_wp2_with fail
  refine (RO.out _).mono ?_
  rintro e w4 ⟨ra, rfl, hI4, hb4⟩
  have hx4 := hx3.below hb4
  have hy4 := hy3.below hb4
  have hz4 := hz.below hb4
  have HB4 := hid (below_on HB3.out hb4)
  have I4 := hid (I3.out.below hb4)
  have R4 := hid hI4
  have hs4 := hb4.size
  have hs3 := HB3.out.size
  have hzl := hz.lt
  clear d0 d1 d2 d3 d4 d5 d6 d7 d8 d9
  clear hb4 hI4 f0 f1 hx3 hy3 hz
  obtain ⟨f0, f1⟩ := hy4.two
  obtain ⟨d0, d1, d2, d3, d4, d5, d6, d7, d8, d9⟩ := hz4.ten
  go_wp2_with fail
  have SZ := hid (refSize_any l ra l.length w4 (by omega) R4.out)
  rw [K3.out] at SZ
  refine SZ.out.mono ?_
  rintro e w' ⟨rfl, rfl⟩
  have GT := hid (refGet_any l x ra (some ⟨M, off, none⟩) l.length c2 w4 (by omega) HC2.out.1 HC2.out.2 OX.out R4.out I4.out)
  rw [HGW.out] at GT
  go_wp2_with fail
  refine GT.out.mono ?_
  rintro e w5 (⟨q', hq, _⟩ | ⟨ns', v5, hq, rfl, hF⟩)
  · cases hq
  cases hq
  obtain ⟨a5, c5, rfl, _, _, hI5⟩ := own_ints hF.own
  rw [HK.out]
  have hx5 := hx4.below hF.bel
  have hy5 := hy4.below hF.bel
  have hz5 := hz4.below hF.bel
  have HB5 := hid (below_on HB4.out hF.bel)
  have I5 := hid (I4.out.below hF.bel)
  have hs5 := hF.bel.size
  have hnew5 := hF.new
  obtain ⟨nb, noff, ea, cA⟩ := hI5 0 (by rw [HK.out]; decide)
  rw [HNA.out, Nat.add_zero] at cA
  subst ea
  have hnb : W2.heap.size ≠ nb := by have := hnew5 nb (by simp [Value.ownBlock]; try rfl); omega
  have hnb2 : ¬ nb = W2.heap.size := fun e => hnb e.symm
  have hnb3 : ¬ W2.heap.size = nb := hnb
  have hW2s := HS2.out
  have hwW2 : w.heap.size ≤ W2.heap.size := by omega
  have m1 : ¬ W2.heap.size = w.heap.size := by omega
  have m2 : ¬ w.heap.size = W2.heap.size := by omega
  have m3 : ¬ W2.heap.size = w1.heap.size := by omega
  have m4 : ¬ w1.heap.size = W2.heap.size := by omega
  have mM : ∀ y : Addr, some (⟨M, off, none⟩ : Addr) = some y → y.block ≠ W2.heap.size := by rintro y hy; cases hy; simp; omega
  clear d0 d1 d2 d3 d4 d5 d6 d7 d8 d9
  clear f0 f1 hF hI5 hx4 hy4 hz4 hnew5 hW2s
  obtain ⟨f0, f1⟩ := hy5.two
  obtain ⟨d0, d1, d2, d3, d4, d5, d6, d7, d8, d9⟩ := hz5.ten
  have zz := hz5.free
  go_upto_region 24 with fail
  have hz6 := (hz5.set 1 (.int .u64 nA) (by simp))
  have hx6 := (hx5.far (c := W2.heap.size) (i := 1) (.int .u64 nA) m1)
  have hy6 := (hy5.far (c := W2.heap.size) (i := 1) (.int .u64 nA) m3)
  have HB6 : Below w.heap.size w _ := (Below.setCell (p := ⟨W2.heap.size, 1, none⟩) HB5.out hwW2 (.int .u64 nA))
  have I6 := (Ints.apart (X := W2.heap.size) (i := 1) I5.out (.int .u64 nA) mM)
  obtain ⟨W6, hW6⟩ : ∃ W, w5.setCell ⟨W2.heap.size, 1, none⟩ (.int .u64 nA) = W := ⟨_, rfl⟩
  rw [hW6] at hz6 hx6 hy6 HB6 I6 ⊢
  have HW6 := hid hW6
  have hs6 : W6.heap.size = w5.heap.size := by rw [← hW6]; simp
  clear d0 d1 d2 d3 d4 d5 d6 d7 d8 d9
  clear f0 f1 zz hz5 hx5 hy5 hW6
  have HB6 := hid HB6
  have I6 := hid I6
  obtain ⟨f0, f1⟩ := hy6.two
  obtain ⟨d0, d1, d2, d3, d4, d5, d6, d7, d8, d9⟩ := hz6.ten
  go_wp2_with fail
  refine (AS.out _).mono ?_
  rintro e w' ⟨rfl, hw'⟩
  have hw2 := hw'.symm
  subst hw2
  clear d0 d1 d2 d3 d4 d5 d6 d7 d8 d9
  clear f0 f1
  have z := hx6.free
  obtain ⟨u0, u1, u2, u3, u4, u5, u6, u7, u8, u9⟩ := hx6.ten
  go_wp2_with fail
  have hkk := hx6.set10 (.int .i64 0) (.int .u64 0) (.int .u64 0) (.int .i64 0) (.int .i64 0) (.bool false) (.int .u64 0) (.slice none 0 0) (.slice none 0 0) (.slice none 0 0)
  obtain ⟨k0, k1, k2, k3, k4, k5, k6, k7, k8, k9⟩ := hkk.ten
  refine bodyPost_ret (v := .tuple #[zero12, .int .i64 0, .int .i64 q]) (by simp [results, Tryz.results17, go_sem, zero12, k0, k1, k2, k3, k4, k5, k6, k7, k8, k9]) rfl (.inl ⟨q, HD.out, HQ.out, rfl, ?_⟩)
  repeat (with_reducible refine Below.setCell ?_ (by simp) _)
  exact HB6.out
set_option maxRecDepth 100000 in
set_option maxHeartbeats 4000000 in
theorem refDec12_fix2_bad (b : List Int) (a : Option Addr) (c : Nat) (hbl : b.length ≤ 2000) (w : World) (hH : Holds w a c b) (t : Int) (x : List Int) (n : Nat) (hr : oneL 8 8 false 514 514 b = .ok (t, x, n)) (l : List Int) (h25 : t ≠ 25) (hrow : row12 t = some l) (ns : List Int) (hg : getL l x = .ok ns) (hK : ns.length = 2) (hx1 : t ≠ 65535) (hxs : x.length = sizeL l) (has : asked12 t (ns.getD 0 0) ≠ 0) :
    Calls Tryz.prog 17 #[.slice a b.length c] w (DecPost12 b w) := by
  obtain ⟨W, hW, hbW, hx⟩ := act_box w 0 0 0 0 0 false 0 none 0 0 none 0 0 none 0 0
  have HW := hid hW
  have HB := hid hbW
  have ONE := hid (refOne_any W 8 8 false 514 514 ⟨by decide, by decide, by decide, by decide, by decide, by decide⟩ b a c (hH.below hbW) (by omega))
  have HO := hid hH.oct
  rw [hr] at ONE
  have HR := hid hr
  have hxl := hx.lt
  obtain ⟨x4, xm, t0, t1, xl, ox⟩ := one_facts12 hH.oct hr
  have hxb : x.length ≤ 2000 := by
    obtain ⟨hw, h4, hk⟩ := write_one (by omega) hH.oct hr
    unfold writeL at hw
    split at hw
    · have h1 := congrArg List.length (Except.ok.inj hw)
      simp [bytesL_length] at h1
      omega
    · cases hw
  have RO := hid (fun V => refRow12_any t V)
  obtain ⟨k1, k2, k3, k4, k5, k6⟩ := count_le12 t
  have e8 : rowP t = l := by simp [rowP, hrow]
  have e9 : (row12 t).isSome = true := by rw [hrow]; rfl
  rw [e8] at RO k1 k2 k3 k4 k5 k6
  rw [e9] at RO
  have c25 : (t == 25) = false := by simpa using h25
  have hgw : getW l x = .ok ns := by rw [getW_yes12 (row_facts hrow).ok]; exact hg
  have hsle := (getL_len12 hg).2
  have HGW := hid hgw
  have OX := hid ox
  have HD : Hid (dec12 b = .error (asked12 t (ns.getD 0 0))) := by show _ = _; rw [dec12_read, HR.out]; show (match read12 t x with | .error q => Except.error q | .ok a => Except.ok (a, n)) = _; unfold read12; rw [if_neg h25, hrow]; simp only; rw [if_neg (by simp [hxs]), hgw]; simp only; rw [if_pos has]
  have AS := hid (fun V => refAsked_any t (ns.getD 0 0) V)
  obtain ⟨q, hq⟩ : ∃ q, asked12 t (ns.getD 0 0) = q := ⟨_, rfl⟩
  rw [hq] at HD AS has
  have HQ := hid has
  have q1 : (q != 0) = true := by simpa using has
  clear hq
  obtain ⟨sl, hsl⟩ : ∃ s, sizeL l = s := ⟨_, rfl⟩
  rw [hsl] at k3 hsle hxs
  have K3 := hid k3
  have g2 : (((x.length : Nat) : Int) != (sl : Int)) = false := by rw [hxs]; simp
  have g1 : (t != 65535) = true := by simpa using hx1
  have is0 : (0 : Int) ≤ (sl : Int) := by omega
  have is1 : (sl : Int) ≤ (x.length : Int) := by omega
  obtain ⟨nA, hnA⟩ : ∃ A, ns.getD 0 0 = A := ⟨_, rfl⟩
  rw [hnA] at AS
  have HNA := hid hnA
  obtain ⟨nB, hnB⟩ : ∃ A, ns.getD 1 0 = A := ⟨_, rfl⟩
  have HNB := hid hnB
  clear hnB
  have HK := hid hK
  clear hH hW hbW hr xm t0 t1 xl ox hxb hrow e8 e9 h25 k1 k2 k3 k4 k6 hsl hg hgw hnA hsle has hK hxs hx1
  go_enter Tryz.func17, Tryz.ntmps17
  go_wp2_with fail
  rw [HW.out]
  refine ONE.out.mono ?_
  rintro e w1 ⟨a2, c2, rfl, h1, h2, i2, hnew, hb1⟩
  obtain ⟨M, off, he2, hc2⟩ := i2 0 (by omega)
  have hMl : M < w1.heap.size := World.block_lt_of_cell? w1 _ hc2
  subst he2
  obtain ⟨W2, hW2, hbW2, hy⟩ := item_box12r w1 t (some ⟨M, off, none⟩) x.length c2
  have HW2 := hid hW2
  have hW2s : W2.heap.size = w1.heap.size + 1 := by rw [← hW2]; simp
  obtain ⟨W3, hW3, hbW3, hz⟩ := act_box W2 t 0 0 0 0 false 0 none 0 0 none 0 0 none 0 0
  have HW3 := hid hW3
  have hx3 := ((hx.below hb1).below hbW2).below hbW3
  have hy3 := hy.below hbW3
  have HB3 := hid (below_on (below_on (below_on HB.out hb1) hbW2) hbW3)
  have I3 := hid ((i2.below hbW2).below hbW3)
  have HC2 := hid (And.intro h1 h2)
  have hs1 := hb1.size
  obtain ⟨f0, f1⟩ := hy.two
  have HS2 := hid hW2s
  clear hW2 hW3 hW2s
  go_upto_region 2 with fail
  rw [HW2.out]
  go_upto_region 5 with fail
  rw [HW3.out]
  clear hbW2 hbW3 hb1 hx hy i2 f0 f1 h1 h2 hc2 hnew
  obtain ⟨f0, f1⟩ := hy3.two
  obtain ⟨d0, d1, d2, d3, d4, d5, d6, d7, d8, d9⟩ := hz.ten
  go_wp2_with fail
  refine (RO.out _).mono ?_
  rintro e w4 ⟨ra, rfl, hI4, hb4⟩
  have hx4 := hx3.below hb4
  have hy4 := hy3.below hb4
  have hz4 := hz.below hb4
  have HB4 := hid (below_on HB3.out hb4)
  have I4 := hid (I3.out.below hb4)
  have R4 := hid hI4
  have hs4 := hb4.size
  have hs3 := HB3.out.size
  have hzl := hz.lt
  clear d0 d1 d2 d3 d4 d5 d6 d7 d8 d9
  clear hb4 hI4 f0 f1 hx3 hy3 hz
  obtain ⟨f0, f1⟩ := hy4.two
  obtain ⟨d0, d1, d2, d3, d4, d5, d6, d7, d8, d9⟩ := hz4.ten
  go_wp2_with fail
  have SZ := hid (refSize_any l ra l.length w4 (by omega) R4.out)
  rw [K3.out] at SZ
  refine SZ.out.mono ?_
  rintro e w' ⟨rfl, rfl⟩
  have GT := hid (refGet_any l x ra (some ⟨M, off, none⟩) l.length c2 w4 (by omega) HC2.out.1 HC2.out.2 OX.out R4.out I4.out)
  rw [HGW.out] at GT
  go_wp2_with fail
  refine GT.out.mono ?_
  rintro e w5 (⟨q', hq, _⟩ | ⟨ns', v5, hq, rfl, hF⟩)
  · cases hq
  cases hq
  obtain ⟨a5, c5, rfl, _, _, hI5⟩ := own_ints hF.own
  rw [HK.out]
  have hx5 := hx4.below hF.bel
  have hy5 := hy4.below hF.bel
  have hz5 := hz4.below hF.bel
  have HB5 := hid (below_on HB4.out hF.bel)
  have I5 := hid (I4.out.below hF.bel)
  have hs5 := hF.bel.size
  have hnew5 := hF.new
  obtain ⟨nb, noff, ea, cA⟩ := hI5 0 (by rw [HK.out]; decide)
  rw [HNA.out, Nat.add_zero] at cA
  obtain ⟨nb', noff', eb, cB⟩ := hI5 1 (by rw [HK.out]; decide)
  rw [HNB.out] at cB
  subst ea
  have hnb : W2.heap.size ≠ nb := by have := hnew5 nb (by simp [Value.ownBlock]; try rfl); omega
  have hnb2 : ¬ nb = W2.heap.size := fun e => hnb e.symm
  have hnb3 : ¬ W2.heap.size = nb := hnb
  cases eb
  have hW2s := HS2.out
  have hwW2 : w.heap.size ≤ W2.heap.size := by omega
  have m1 : ¬ W2.heap.size = w.heap.size := by omega
  have m2 : ¬ w.heap.size = W2.heap.size := by omega
  have m3 : ¬ W2.heap.size = w1.heap.size := by omega
  have m4 : ¬ w1.heap.size = W2.heap.size := by omega
  have mM : ∀ y : Addr, some (⟨M, off, none⟩ : Addr) = some y → y.block ≠ W2.heap.size := by rintro y hy; cases hy; simp; omega
  clear d0 d1 d2 d3 d4 d5 d6 d7 d8 d9
  clear f0 f1 hF hI5 hx4 hy4 hz4 hnew5 hW2s
  obtain ⟨f0, f1⟩ := hy5.two
  obtain ⟨d0, d1, d2, d3, d4, d5, d6, d7, d8, d9⟩ := hz5.ten
  have zz := hz5.free
  go_upto_region 24 with fail
  have hz6 := ((hz5.set 1 (.int .u64 nA) (by simp)).set 2 (.int .u64 nB) (by simp))
  have hx6 := ((hx5.far (c := W2.heap.size) (i := 1) (.int .u64 nA) m1).far (c := W2.heap.size) (i := 2) (.int .u64 nB) m1)
  have hy6 := ((hy5.far (c := W2.heap.size) (i := 1) (.int .u64 nA) m3).far (c := W2.heap.size) (i := 2) (.int .u64 nB) m3)
  have HB6 : Below w.heap.size w _ := (Below.setCell (p := ⟨W2.heap.size, 2, none⟩) (Below.setCell (p := ⟨W2.heap.size, 1, none⟩) HB5.out hwW2 (.int .u64 nA)) hwW2 (.int .u64 nB))
  have I6 := (Ints.apart (X := W2.heap.size) (i := 2) (Ints.apart (X := W2.heap.size) (i := 1) I5.out (.int .u64 nA) mM) (.int .u64 nB) mM)
  obtain ⟨W6, hW6⟩ : ∃ W, (w5.setCell ⟨W2.heap.size, 1, none⟩ (.int .u64 nA)).setCell ⟨W2.heap.size, 2, none⟩ (.int .u64 nB) = W := ⟨_, rfl⟩
  rw [hW6] at hz6 hx6 hy6 HB6 I6 ⊢
  have HW6 := hid hW6
  have hs6 : W6.heap.size = w5.heap.size := by rw [← hW6]; simp
  clear d0 d1 d2 d3 d4 d5 d6 d7 d8 d9
  clear f0 f1 zz hz5 hx5 hy5 hW6
  have HB6 := hid HB6
  have I6 := hid I6
  obtain ⟨f0, f1⟩ := hy6.two
  obtain ⟨d0, d1, d2, d3, d4, d5, d6, d7, d8, d9⟩ := hz6.ten
  go_wp2_with fail
  refine (AS.out _).mono ?_
  rintro e w' ⟨rfl, hw'⟩
  have hw2 := hw'.symm
  subst hw2
  clear d0 d1 d2 d3 d4 d5 d6 d7 d8 d9
  clear f0 f1
  have z := hx6.free
  obtain ⟨u0, u1, u2, u3, u4, u5, u6, u7, u8, u9⟩ := hx6.ten
  go_wp2_with fail
  have hkk := hx6.set10 (.int .i64 0) (.int .u64 0) (.int .u64 0) (.int .i64 0) (.int .i64 0) (.bool false) (.int .u64 0) (.slice none 0 0) (.slice none 0 0) (.slice none 0 0)
  obtain ⟨k0, k1, k2, k3, k4, k5, k6, k7, k8, k9⟩ := hkk.ten
  refine bodyPost_ret (v := .tuple #[zero12, .int .i64 0, .int .i64 q]) (by simp [results, Tryz.results17, go_sem, zero12, k0, k1, k2, k3, k4, k5, k6, k7, k8, k9]) rfl (.inl ⟨q, HD.out, HQ.out, rfl, ?_⟩)
  repeat (with_reducible refine Below.setCell ?_ (by simp) _)
  exact HB6.out
set_option maxRecDepth 100000 in
set_option maxHeartbeats 4000000 in
theorem refDec12_fix0_bad (b : List Int) (a : Option Addr) (c : Nat) (hbl : b.length ≤ 2000) (w : World) (hH : Holds w a c b) (t : Int) (x : List Int) (n : Nat) (hr : oneL 8 8 false 514 514 b = .ok (t, x, n)) (l : List Int) (h25 : t ≠ 25) (hrow : row12 t = some l) (ns : List Int) (hg : getL l x = .ok ns) (hK : ns.length = 0) (hx1 : t ≠ 65535) (hxs : x.length = sizeL l) (has : asked12 t (ns.getD 0 0) ≠ 0) :
    Calls Tryz.prog 17 #[.slice a b.length c] w (DecPost12 b w) := by
  obtain ⟨W, hW, hbW, hx⟩ := act_box w 0 0 0 0 0 false 0 none 0 0 none 0 0 none 0 0
  have HW := hid hW
  have HB := hid hbW
  have ONE := hid (refOne_any W 8 8 false 514 514 ⟨by decide, by decide, by decide, by decide, by decide, by decide⟩ b a c (hH.below hbW) (by omega))
  have HO := hid hH.oct
  rw [hr] at ONE
  have HR := hid hr
  have hxl := hx.lt
  obtain ⟨x4, xm, t0, t1, xl, ox⟩ := one_facts12 hH.oct hr
  have hxb : x.length ≤ 2000 := by
    obtain ⟨hw, h4, hk⟩ := write_one (by omega) hH.oct hr
    unfold writeL at hw
    split at hw
    · have h1 := congrArg List.length (Except.ok.inj hw)
      simp [bytesL_length] at h1
      omega
    · cases hw
  have RO := hid (fun V => refRow12_any t V)
  obtain ⟨k1, k2, k3, k4, k5, k6⟩ := count_le12 t
  have e8 : rowP t = l := by simp [rowP, hrow]
  have e9 : (row12 t).isSome = true := by rw [hrow]; rfl
  rw [e8] at RO k1 k2 k3 k4 k5 k6
  rw [e9] at RO
  have c25 : (t == 25) = false := by simpa using h25
  have hgw : getW l x = .ok ns := by rw [getW_yes12 (row_facts hrow).ok]; exact hg
  have hsle := (getL_len12 hg).2
  have HGW := hid hgw
  have OX := hid ox
  have HD : Hid (dec12 b = .error (asked12 t (ns.getD 0 0))) := by show _ = _; rw [dec12_read, HR.out]; show (match read12 t x with | .error q => Except.error q | .ok a => Except.ok (a, n)) = _; unfold read12; rw [if_neg h25, hrow]; simp only; rw [if_neg (by simp [hxs]), hgw]; simp only; rw [if_pos has]
  have AS := hid (fun V => refAsked_any t (ns.getD 0 0) V)
  obtain ⟨q, hq⟩ : ∃ q, asked12 t (ns.getD 0 0) = q := ⟨_, rfl⟩
  rw [hq] at HD AS has
  have HQ := hid has
  have q1 : (q != 0) = true := by simpa using has
  clear hq
  obtain ⟨sl, hsl⟩ : ∃ s, sizeL l = s := ⟨_, rfl⟩
  rw [hsl] at k3 hsle hxs
  have K3 := hid k3
  have g2 : (((x.length : Nat) : Int) != (sl : Int)) = false := by rw [hxs]; simp
  have g1 : (t != 65535) = true := by simpa using hx1
  have is0 : (0 : Int) ≤ (sl : Int) := by omega
  have is1 : (sl : Int) ≤ (x.length : Int) := by omega
  obtain ⟨nA, hnA⟩ : ∃ A, ns.getD 0 0 = A := ⟨_, rfl⟩
  rw [hnA] at AS
  have hA0 : (0 : Int) = nA := by rw [← hnA, List.eq_nil_of_length_eq_zero hK]; rfl
  subst hA0
  have HK := hid hK
  clear hH hW hbW hr xm t0 t1 xl ox hxb hrow e8 e9 h25 k1 k2 k3 k4 k6 hsl hg hgw hnA hsle has hK hxs hx1
  go_enter Tryz.func17, Tryz.ntmps17
  go_wp2_with fail
  rw [HW.out]
  refine ONE.out.mono ?_
  rintro e w1 ⟨a2, c2, rfl, h1, h2, i2, hnew, hb1⟩
  obtain ⟨M, off, he2, hc2⟩ := i2 0 (by omega)
  have hMl : M < w1.heap.size := World.block_lt_of_cell? w1 _ hc2
  subst he2
  obtain ⟨W2, hW2, hbW2, hy⟩ := item_box12r w1 t (some ⟨M, off, none⟩) x.length c2
  have HW2 := hid hW2
  have hW2s : W2.heap.size = w1.heap.size + 1 := by rw [← hW2]; simp
  obtain ⟨W3, hW3, hbW3, hz⟩ := act_box W2 t 0 0 0 0 false 0 none 0 0 none 0 0 none 0 0
  have HW3 := hid hW3
  have hx3 := ((hx.below hb1).below hbW2).below hbW3
  have hy3 := hy.below hbW3
  have HB3 := hid (below_on (below_on (below_on HB.out hb1) hbW2) hbW3)
  have I3 := hid ((i2.below hbW2).below hbW3)
  have HC2 := hid (And.intro h1 h2)
  have hs1 := hb1.size
  obtain ⟨f0, f1⟩ := hy.two
  have HS2 := hid hW2s
  clear hW2 hW3 hW2s
  go_upto_region 2 with fail
  rw [HW2.out]
  go_upto_region 5 with fail
  rw [HW3.out]
  clear hbW2 hbW3 hb1 hx hy i2 f0 f1 h1 h2 hc2 hnew
  obtain ⟨f0, f1⟩ := hy3.two
  obtain ⟨d0, d1, d2, d3, d4, d5, d6, d7, d8, d9⟩ := hz.ten
  go_wp2_with fail
  refine (RO.out _).mono ?_
  rintro e w4 ⟨ra, rfl, hI4, hb4⟩
  have hx4 := hx3.below hb4
  have hy4 := hy3.below hb4
  have hz4 := hz.below hb4
  have HB4 := hid (below_on HB3.out hb4)
  have I4 := hid (I3.out.below hb4)
  have R4 := hid hI4
  have hs4 := hb4.size
  have hs3 := HB3.out.size
  have hzl := hz.lt
  clear d0 d1 d2 d3 d4 d5 d6 d7 d8 d9
  clear hb4 hI4 f0 f1 hx3 hy3 hz
  obtain ⟨f0, f1⟩ := hy4.two
  obtain ⟨d0, d1, d2, d3, d4, d5, d6, d7, d8, d9⟩ := hz4.ten
  go_wp2_with fail
  have SZ := hid (refSize_any l ra l.length w4 (by omega) R4.out)
  rw [K3.out] at SZ
  refine SZ.out.mono ?_
  rintro e w' ⟨rfl, rfl⟩
  have GT := hid (refGet_any l x ra (some ⟨M, off, none⟩) l.length c2 w4 (by omega) HC2.out.1 HC2.out.2 OX.out R4.out I4.out)
  rw [HGW.out] at GT
  go_wp2_with fail
  refine GT.out.mono ?_
  rintro e w5 (⟨q', hq, _⟩ | ⟨ns', v5, hq, rfl, hF⟩)
  · cases hq
  cases hq
  obtain ⟨a5, c5, rfl, _, _, hI5⟩ := own_ints hF.own
  rw [HK.out]
  have hx5 := hx4.below hF.bel
  have hy5 := hy4.below hF.bel
  have hz5 := hz4.below hF.bel
  have HB5 := hid (below_on HB4.out hF.bel)
  have I5 := hid (I4.out.below hF.bel)
  have hs5 := hF.bel.size
  have hnew5 := hF.new
  have hW2s := HS2.out
  have hwW2 : w.heap.size ≤ W2.heap.size := by omega
  have m1 : ¬ W2.heap.size = w.heap.size := by omega
  have m2 : ¬ w.heap.size = W2.heap.size := by omega
  have m3 : ¬ W2.heap.size = w1.heap.size := by omega
  have m4 : ¬ w1.heap.size = W2.heap.size := by omega
  have mM : ∀ y : Addr, some (⟨M, off, none⟩ : Addr) = some y → y.block ≠ W2.heap.size := by rintro y hy; cases hy; simp; omega
  clear d0 d1 d2 d3 d4 d5 d6 d7 d8 d9
  clear f0 f1 hF hI5 hx4 hy4 hz4 hnew5 hW2s
  obtain ⟨f0, f1⟩ := hy5.two
  obtain ⟨d0, d1, d2, d3, d4, d5, d6, d7, d8, d9⟩ := hz5.ten
  have zz := hz5.free
  go_upto_region 24 with fail
  have hz6 := hz5
  have hx6 := hx5
  have hy6 := hy5
  have HB6 : Below w.heap.size w _ := HB5.out
  have I6 := I5.out
  have hs6 : w5.heap.size = w5.heap.size := rfl
  clear d0 d1 d2 d3 d4 d5 d6 d7 d8 d9
  clear f0 f1 zz hz5 hx5 hy5
  have HB6 := hid HB6
  have I6 := hid I6
  obtain ⟨f0, f1⟩ := hy6.two
  obtain ⟨d0, d1, d2, d3, d4, d5, d6, d7, d8, d9⟩ := hz6.ten
  go_wp2_with fail
  refine (AS.out _).mono ?_
  rintro e w' ⟨rfl, hw'⟩
  have hw2 := hw'.symm
  subst hw2
  clear d0 d1 d2 d3 d4 d5 d6 d7 d8 d9
  clear f0 f1
  have z := hx6.free
  obtain ⟨u0, u1, u2, u3, u4, u5, u6, u7, u8, u9⟩ := hx6.ten
  go_wp2_with fail
  have hkk := hx6.set10 (.int .i64 0) (.int .u64 0) (.int .u64 0) (.int .i64 0) (.int .i64 0) (.bool false) (.int .u64 0) (.slice none 0 0) (.slice none 0 0) (.slice none 0 0)
  obtain ⟨k0, k1, k2, k3, k4, k5, k6, k7, k8, k9⟩ := hkk.ten
  refine bodyPost_ret (v := .tuple #[zero12, .int .i64 0, .int .i64 q]) (by simp [results, Tryz.results17, go_sem, zero12, k0, k1, k2, k3, k4, k5, k6, k7, k8, k9]) rfl (.inl ⟨q, HD.out, HQ.out, rfl, ?_⟩)
  repeat (with_reducible refine Below.setCell ?_ (by simp) _)
  exact HB6.out
end Go.Proofs.YtdjlbejhphbcoaaGreat
