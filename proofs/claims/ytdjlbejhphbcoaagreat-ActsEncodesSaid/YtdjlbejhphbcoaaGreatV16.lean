/- Put together out of several texts. -/
import Derived.Test.YtdjlbejhphbcoaaGreatV14
import Derived.Deep.RegionHeld3
import Derived.Deep.DeepCutAuto
namespace Go.Proofs.YtdjlbejhphbcoaaGreat
open Go.RowKit
set_option linter.unusedVariables false

set_option maxRecDepth 100000 in
set_option maxHeartbeats 2000000 in
theorem readSet_b_zero (b : List Int) (M off : Nat) (c : Nat) (hbl : b.length ≤ 100000) (hbc : b.length ≤ c) (hc : c ≤ 9223372036854775807) (ho : Octets b) (w : World) (hI : Ints .u8 w (some ⟨M, off, none⟩) b) (o : Oxm8) (hq : decL b = .ok o) (hbad : wset12 (ox12 o) ≠ 0) (hz : b.length ≤ o.n) (hcn : ¬ c = o.n) :
    Calls Tryz.prog 99 #[.slice (some ⟨M, off, none⟩) b.length c] w (SetPost12 (set12 b) w) := by
  obtain ⟨W, hW, hbW, hx⟩ := act_box w 0 0 0 0 0 false 0 none 0 0 none 0 0 none 0 0
  have HW := hid hW
  have HB := hid hbW
  have DE := hid (decode8_any b _ c hbc hc ho W (hI.below hbW))
  obtain ⟨hr, hn, -, hX0⟩ := dec_right hq ho
  obtain ⟨hov, hom, hlv, hlm, -⟩ := raw_octets (dec_raw hq) ho
  have HS := hid (set12_bad hq ho hbad)
  obtain ⟨ws, hws⟩ : ∃ ws, wset12 (ox12 o) = ws := ⟨_, rfl⟩
  have HWS := hid (fun (V : World) (a1 a2 : Option Addr) (c1 c2 : Nat) (hc2 : o.m.length ≤ c2) (i1 : Ints .u8 V a1 o.v) (i2 : Ints .u8 V a2 o.m) => wrongSet_any (ox12 o) a1 c1 a2 c2 V (show o.v.length ≤ 1000 by omega) (show o.m.length ≤ 1000 by omega) hc2 hov hom i1 i2)
  rw [hws] at HWS
  rw [hws] at HS hbad
  have HQ := hid hq
  have OR := hid (ho.drop o.n)
  have hI0 := hid hI
  obtain ⟨C, F, H, X, v, m, n⟩ := o
  simp only [ox12] at *
  obtain ⟨rest, hrest⟩ : ∃ l, b.drop n = l := ⟨_, rfl⟩
  have hrl : rest.length = b.length - n := by rw [← hrest, List.length_drop]
  rw [hrest] at OR
  have HRE := hid hrest
  have IR : Hid (∀ V : World, Below w.heap.size w V → Ints .u8 V (some ⟨M, off + n, none⟩) rest) := by
    intro V hV
    have := (hI.below hV).drop (j := n) (cap := c) (by omega)
    rw [hrest] at this
    rw [if_neg hcn] at this
    exact this
  have e1 : (0 : Int) ≤ n := by omega
  have e2 : (n : Int) ≤ b.length := by omega
  have e3 : (n : Int) ≤ c := by omega
  clear hW hbW ho hI hq hr hX0 hov hom hws hrest
  go_enter Tryz.func99, Tryz.ntmps99
  go_wp2_with fail
  rw [HW.out]
  refine DE.out.mono ?_
  rintro e w1 (⟨q', hq', _⟩ | ⟨o', a1, c1, a2, c2, hq', rfl, hb1, i1, i2, hmc, hn1, hn2⟩)
  · rw [HQ.out] at hq'; cases hq'
  rw [HQ.out] at hq'
  cases hq'
  simp only at i1 i2 hmc
  have hx1 := hx.below hb1
  obtain ⟨W2, hW2, hbW2, hy⟩ := oxm_box w1 C F H X a1 v.length c1 a2 m.length c2
  have HW2 := hid hW2
  have hx2 := hx1.below hbW2
  have HB2 := hid (below_on (below_on HB.out hb1) hbW2)
  have I1 := hid (i1.below hbW2)
  have I2 := hid (i2.below hbW2)
  have HN1 : Hid (New8 w a1) := fun q hq => by have := hn1 q hq; have := HB.out.size; omega
  have HN2 : Hid (New8 w a2) := fun q hq => by have := hn2 q hq; have := HB.out.size; omega
  have HN1' : Hid (∀ q : Addr, a1 = some q → q.block ≠ w.heap.size) := fun q hq => by have := hn1 q hq; have := hx.lt; omega
  have HN2' : Hid (∀ q : Addr, a2 = some q → q.block ≠ w.heap.size) := fun q hq => by have := hn2 q hq; have := hx.lt; omega
  have HMC := hid hmc
  have hne : w.heap.size ≠ w1.heap.size := by have := hx1.lt; omega
  clear hW2 hbW2 hb1 hx hx1 hn1 hn2 i1 i2 hmc
  go_wp2_with fail
  rw [HW2.out]
  refine (new_lit rest _ _ _ 527 528 W2 (by omega) (by omega) OR.out (IR.out _ HB2.out)).mono ?_
  rintro e w3 ⟨g, rfl, hc3, hb3, hg1, hg2⟩
  have H3 : Hid (CurOn W2 w3 g W2.heap.size rest 0 527 528 0) := ⟨hc3, hb3, by omega, Nat.le_refl _⟩
  clear hc3 hb3 hg1 hg2
  obtain ⟨f0, f1, f2, f3, f4, f5⟩ := (hy.below H3.out.bel).six
  go_wp2_with fail
  refine (HWS.out _ a1 a2 c1 c2 HMC.out (I1.out.below H3.out.bel) (I2.out.below H3.out.bel)).mono ?_
  rintro e w4 ⟨rfl, hb4⟩
  have H4 := hid (H3.out.below hb4)
  clear hb4 f0 f1 f2 f3 f4 f5
  go_wp2_with fail
  refine (H4.out.cur.fail _).mono ?_
  rintro e w5 ⟨rfl, hc5, hb5⟩
  have H5 := hid (H4.out.by hb5 hc5)
  clear hc5 hb5
  go_wp2_with fail
  refine (H5.out.cur.left).mono ?_
  rintro e w' ⟨rfl, rfl⟩
  obtain ⟨z, hz0⟩ : ∃ z, rest.length = z := ⟨_, rfl⟩
  have HZ0 := hid hz0
  rw [hz0] at hrl ⊢
  have z8 : z = 0 := by omega
  subst z8
  clear hrl hz0
  have hxE := hx2.below H5.out.bel
  have hyE := hy.below H5.out.bel
  have HBE := hid (below_on HB2.out H5.out.bel)
  have I1E := hid (I1.out.below H5.out.bel)
  have I2E := hid (I2.out.below H5.out.bel)
  have n1 : ¬ w1.heap.size = w.heap.size := fun e => hne e.symm
  have n2 : ¬ w.heap.size = w1.heap.size := hne
  have HcD := hid (H5.out.cur.below (below_drew8 _))
  have zf := hxE.free
  obtain ⟨d0, d1, d2, d3, d4, d5, d6, d7, d8, d9⟩ :=  hxE.ten
  obtain ⟨f0, f1, f2, f3, f4, f5⟩ := hyE.six
  go_upto_region 11 with fail
  go_region_held3 (fun w' => w'.cell? ⟨w1.heap.size, 0, none⟩ = some (.int .i64 C) ∧ w'.cell? ⟨w1.heap.size, 1, none⟩ = some (.int .i64 F) ∧ w'.cell? ⟨w1.heap.size, 2, none⟩ = some (.bool H) ∧ w'.cell? ⟨w1.heap.size, 3, none⟩ = some (.int .u64 X) ∧ w'.cell? ⟨w1.heap.size, 4, none⟩ = some (.slice a1 v.length c1) ∧ w'.cell? ⟨w1.heap.size, 5, none⟩ = some (.slice a2 m.length c2)) (go_keep) (first
    | (go_at_call 38; refine HcD.out.err.mono ?_; rintro e w' ⟨rfl, rfl⟩)
    | fail)
  go_wp2_with fail
  have hkk := hxE.set10 (.int .i64 25) (.int .u64 0) (.int .u64 0) (.int .i64 C) (.int .i64 F) (.bool H) (.int .u64 X) (.slice a1 v.length c1) (.slice a2 m.length c2) (.slice none 0 0)
  replace hkk := hkk.drew
  obtain ⟨k0, k1, k2, k3, k4, k5, k6, k7, k8, k9⟩ := hkk.ten
  refine bodyPost_ret (v := .tuple #[.agg #[.int .i64 25, .int .u64 0, .int .u64 0, .int .i64 C, .int .i64 F, .bool H, .int .u64 X, .slice a1 v.length c1, .slice a2 m.length c2, .slice none 0 0], .int .i64 ws]) (by simp [results, Tryz.results99, go_sem, k0, k1, k2, k3, k4, k5, k6, k7, k8, k9]) rfl (.inl ⟨_, HS.out, hbad, bad12, ?_⟩)
  with_reducible refine Below.drew ?_
  repeat (with_reducible refine Below.setCell ?_ (by simp) _)
  exact HBE.out

set_option maxRecDepth 100000 in
set_option maxHeartbeats 2000000 in
theorem readSet_b_cap (b : List Int) (M off : Nat) (c : Nat) (hbl : b.length ≤ 100000) (hbc : b.length ≤ c) (hc : c ≤ 9223372036854775807) (ho : Octets b) (w : World) (hI : Ints .u8 w (some ⟨M, off, none⟩) b) (o : Oxm8) (hq : decL b = .ok o) (hbad : wset12 (ox12 o) ≠ 0) (hz : b.length ≤ o.n) (hcn : c = o.n) :
    Calls Tryz.prog 99 #[.slice (some ⟨M, off, none⟩) b.length c] w (SetPost12 (set12 b) w) := by
  obtain ⟨W, hW, hbW, hx⟩ := act_box w 0 0 0 0 0 false 0 none 0 0 none 0 0 none 0 0
  have HW := hid hW
  have HB := hid hbW
  have DE := hid (decode8_any b _ c hbc hc ho W (hI.below hbW))
  obtain ⟨hr, hn, -, hX0⟩ := dec_right hq ho
  obtain ⟨hov, hom, hlv, hlm, -⟩ := raw_octets (dec_raw hq) ho
  have HS := hid (set12_bad hq ho hbad)
  obtain ⟨ws, hws⟩ : ∃ ws, wset12 (ox12 o) = ws := ⟨_, rfl⟩
  have HWS := hid (fun (V : World) (a1 a2 : Option Addr) (c1 c2 : Nat) (hc2 : o.m.length ≤ c2) (i1 : Ints .u8 V a1 o.v) (i2 : Ints .u8 V a2 o.m) => wrongSet_any (ox12 o) a1 c1 a2 c2 V (show o.v.length ≤ 1000 by omega) (show o.m.length ≤ 1000 by omega) hc2 hov hom i1 i2)
  rw [hws] at HWS
  rw [hws] at HS hbad
  have HQ := hid hq
  have OR := hid (ho.drop o.n)
  have hI0 := hid hI
  obtain ⟨C, F, H, X, v, m, n⟩ := o
  simp only [ox12] at *
  obtain ⟨rest, hrest⟩ : ∃ l, b.drop n = l := ⟨_, rfl⟩
  have hrl : rest.length = b.length - n := by rw [← hrest, List.length_drop]
  rw [hrest] at OR
  have HRE := hid hrest
  have IR : Hid (∀ V : World, Below w.heap.size w V → Ints .u8 V (some ⟨M, off, none⟩) rest) := by
    intro V hV
    have := (hI.below hV).drop (j := n) (cap := c) (by omega)
    rw [hrest] at this
    rw [if_pos hcn] at this
    exact this
  have e1 : (0 : Int) ≤ n := by omega
  have e2 : (n : Int) ≤ b.length := by omega
  have e3 : (n : Int) ≤ c := by omega
  clear hW hbW ho hI hq hr hX0 hov hom hws hrest
  subst hcn
  go_enter Tryz.func99, Tryz.ntmps99
  go_wp2_with fail
  rw [HW.out]
  refine DE.out.mono ?_
  rintro e w1 (⟨q', hq', _⟩ | ⟨o', a1, c1, a2, c2, hq', rfl, hb1, i1, i2, hmc, hn1, hn2⟩)
  · rw [HQ.out] at hq'; cases hq'
  rw [HQ.out] at hq'
  cases hq'
  simp only at i1 i2 hmc
  have hx1 := hx.below hb1
  obtain ⟨W2, hW2, hbW2, hy⟩ := oxm_box w1 C F H X a1 v.length c1 a2 m.length c2
  have HW2 := hid hW2
  have hx2 := hx1.below hbW2
  have HB2 := hid (below_on (below_on HB.out hb1) hbW2)
  have I1 := hid (i1.below hbW2)
  have I2 := hid (i2.below hbW2)
  have HN1 : Hid (New8 w a1) := fun q hq => by have := hn1 q hq; have := HB.out.size; omega
  have HN2 : Hid (New8 w a2) := fun q hq => by have := hn2 q hq; have := HB.out.size; omega
  have HN1' : Hid (∀ q : Addr, a1 = some q → q.block ≠ w.heap.size) := fun q hq => by have := hn1 q hq; have := hx.lt; omega
  have HN2' : Hid (∀ q : Addr, a2 = some q → q.block ≠ w.heap.size) := fun q hq => by have := hn2 q hq; have := hx.lt; omega
  have HMC := hid hmc
  have hne : w.heap.size ≠ w1.heap.size := by have := hx1.lt; omega
  clear hW2 hbW2 hb1 hx hx1 hn1 hn2 i1 i2 hmc
  go_wp2_with fail
  rw [HW2.out]
  refine (new_lit rest _ _ _ 527 528 W2 (by omega) (by omega) OR.out (IR.out _ HB2.out)).mono ?_
  rintro e w3 ⟨g, rfl, hc3, hb3, hg1, hg2⟩
  have H3 : Hid (CurOn W2 w3 g W2.heap.size rest 0 527 528 0) := ⟨hc3, hb3, by omega, Nat.le_refl _⟩
  clear hc3 hb3 hg1 hg2
  obtain ⟨f0, f1, f2, f3, f4, f5⟩ := (hy.below H3.out.bel).six
  go_wp2_with fail
  refine (HWS.out _ a1 a2 c1 c2 HMC.out (I1.out.below H3.out.bel) (I2.out.below H3.out.bel)).mono ?_
  rintro e w4 ⟨rfl, hb4⟩
  have H4 := hid (H3.out.below hb4)
  clear hb4 f0 f1 f2 f3 f4 f5
  go_wp2_with fail
  refine (H4.out.cur.fail _).mono ?_
  rintro e w5 ⟨rfl, hc5, hb5⟩
  have H5 := hid (H4.out.by hb5 hc5)
  clear hc5 hb5
  go_wp2_with fail
  refine (H5.out.cur.left).mono ?_
  rintro e w' ⟨rfl, rfl⟩
  obtain ⟨z, hz0⟩ : ∃ z, rest.length = z := ⟨_, rfl⟩
  have HZ0 := hid hz0
  rw [hz0] at hrl ⊢
  have z8 : z = 0 := by omega
  subst z8
  clear hrl hz0
  have hxE := hx2.below H5.out.bel
  have hyE := hy.below H5.out.bel
  have HBE := hid (below_on HB2.out H5.out.bel)
  have I1E := hid (I1.out.below H5.out.bel)
  have I2E := hid (I2.out.below H5.out.bel)
  have n1 : ¬ w1.heap.size = w.heap.size := fun e => hne e.symm
  have n2 : ¬ w.heap.size = w1.heap.size := hne
  have HcD := hid (H5.out.cur.below (below_drew8 _))
  have zf := hxE.free
  obtain ⟨d0, d1, d2, d3, d4, d5, d6, d7, d8, d9⟩ :=  hxE.ten
  obtain ⟨f0, f1, f2, f3, f4, f5⟩ := hyE.six
  go_upto_region 11 with fail
  go_region_held3 (fun w' => w'.cell? ⟨w1.heap.size, 0, none⟩ = some (.int .i64 C) ∧ w'.cell? ⟨w1.heap.size, 1, none⟩ = some (.int .i64 F) ∧ w'.cell? ⟨w1.heap.size, 2, none⟩ = some (.bool H) ∧ w'.cell? ⟨w1.heap.size, 3, none⟩ = some (.int .u64 X) ∧ w'.cell? ⟨w1.heap.size, 4, none⟩ = some (.slice a1 v.length c1) ∧ w'.cell? ⟨w1.heap.size, 5, none⟩ = some (.slice a2 m.length c2)) (go_keep) (first
    | (go_at_call 38; refine HcD.out.err.mono ?_; rintro e w' ⟨rfl, rfl⟩)
    | fail)
  go_wp2_with fail
  have hkk := hxE.set10 (.int .i64 25) (.int .u64 0) (.int .u64 0) (.int .i64 C) (.int .i64 F) (.bool H) (.int .u64 X) (.slice a1 v.length c1) (.slice a2 m.length c2) (.slice none 0 0)
  replace hkk := hkk.drew
  obtain ⟨k0, k1, k2, k3, k4, k5, k6, k7, k8, k9⟩ := hkk.ten
  refine bodyPost_ret (v := .tuple #[.agg #[.int .i64 25, .int .u64 0, .int .u64 0, .int .i64 C, .int .i64 F, .bool H, .int .u64 X, .slice a1 v.length c1, .slice a2 m.length c2, .slice none 0 0], .int .i64 ws]) (by simp [results, Tryz.results99, go_sem, k0, k1, k2, k3, k4, k5, k6, k7, k8, k9]) rfl (.inl ⟨_, HS.out, hbad, bad12, ?_⟩)
  with_reducible refine Below.drew ?_
  repeat (with_reducible refine Below.setCell ?_ (by simp) _)
  exact HBE.out
end Go.Proofs.YtdjlbejhphbcoaaGreat
namespace Go.Proofs.YtdjlbejhphbcoaaGreat
open Go.RowKit
set_option linter.unusedVariables false

set_option maxRecDepth 100000 in
set_option maxHeartbeats 2000000 in
theorem readSet_g_ge (b : List Int) (M off : Nat) (c : Nat) (hbl : b.length ≤ 100000) (hbc : b.length ≤ c) (hc : c ≤ 9223372036854775807) (ho : Octets b) (w : World) (hI : Ints .u8 w (some ⟨M, off, none⟩) b) (o : Oxm8) (hq : decL b = .ok o) (hbad : wset12 (ox12 o) = 0) (hz : o.n + 8 ≤ b.length) (hcn : ¬ c = o.n) :
    Calls Tryz.prog 99 #[.slice (some ⟨M, off, none⟩) b.length c] w (SetPost12 (set12 b) w) := by
  obtain ⟨W, hW, hbW, hx⟩ := act_box w 0 0 0 0 0 false 0 none 0 0 none 0 0 none 0 0
  have HW := hid hW
  have HB := hid hbW
  have DE := hid (decode8_any b _ c hbc hc ho W (hI.below hbW))
  obtain ⟨hr, hn, -, hX0⟩ := dec_right hq ho
  obtain ⟨hov, hom, hlv, hlm, -⟩ := raw_octets (dec_raw hq) ho
  have HS := set12_good hq ho hbad
  rw [if_pos hz] at HS
  have HS := hid HS
  obtain ⟨ws, hws⟩ : ∃ ws, wset12 (ox12 o) = ws := ⟨_, rfl⟩
  have HWS := hid (fun (V : World) (a1 a2 : Option Addr) (c1 c2 : Nat) (hc2 : o.m.length ≤ c2) (i1 : Ints .u8 V a1 o.v) (i2 : Ints .u8 V a2 o.m) => wrongSet_any (ox12 o) a1 c1 a2 c2 V (show o.v.length ≤ 1000 by omega) (show o.m.length ≤ 1000 by omega) hc2 hov hom i1 i2)
  rw [hws] at HWS
  rw [hws] at hbad
  subst hbad
  have HQ := hid hq
  have OR := hid (ho.drop o.n)
  have hI0 := hid hI
  obtain ⟨C, F, H, X, v, m, n⟩ := o
  simp only [ox12] at *
  obtain ⟨rest, hrest⟩ : ∃ l, b.drop n = l := ⟨_, rfl⟩
  have hrl : rest.length = b.length - n := by rw [← hrest, List.length_drop]
  rw [hrest] at OR
  have HRE := hid hrest
  have IR : Hid (∀ V : World, Below w.heap.size w V → Ints .u8 V (some ⟨M, off + n, none⟩) rest) := by
    intro V hV
    have := (hI.below hV).drop (j := n) (cap := c) (by omega)
    rw [hrest] at this
    rw [if_neg hcn] at this
    exact this
  have e1 : (0 : Int) ≤ n := by omega
  have e2 : (n : Int) ≤ b.length := by omega
  have e3 : (n : Int) ≤ c := by omega
  clear hW hbW ho hI hq hr hX0 hov hom hws hrest
  go_enter Tryz.func99, Tryz.ntmps99
  go_wp2_with fail
  rw [HW.out]
  refine DE.out.mono ?_
  rintro e w1 (⟨q', hq', _⟩ | ⟨o', a1, c1, a2, c2, hq', rfl, hb1, i1, i2, hmc, hn1, hn2⟩)
  · rw [HQ.out] at hq'; cases hq'
  rw [HQ.out] at hq'
  cases hq'
  simp only at i1 i2 hmc
  have hx1 := hx.below hb1
  obtain ⟨W2, hW2, hbW2, hy⟩ := oxm_box w1 C F H X a1 v.length c1 a2 m.length c2
  have HW2 := hid hW2
  have hx2 := hx1.below hbW2
  have HB2 := hid (below_on (below_on HB.out hb1) hbW2)
  have I1 := hid (i1.below hbW2)
  have I2 := hid (i2.below hbW2)
  have HN1 : Hid (New8 w a1) := fun q hq => by have := hn1 q hq; have := HB.out.size; omega
  have HN2 : Hid (New8 w a2) := fun q hq => by have := hn2 q hq; have := HB.out.size; omega
  have HN1' : Hid (∀ q : Addr, a1 = some q → q.block ≠ w.heap.size) := fun q hq => by have := hn1 q hq; have := hx.lt; omega
  have HN2' : Hid (∀ q : Addr, a2 = some q → q.block ≠ w.heap.size) := fun q hq => by have := hn2 q hq; have := hx.lt; omega
  have HMC := hid hmc
  have hne : w.heap.size ≠ w1.heap.size := by have := hx1.lt; omega
  clear hW2 hbW2 hb1 hx hx1 hn1 hn2 i1 i2 hmc
  go_wp2_with fail
  rw [HW2.out]
  refine (new_lit rest _ _ _ 527 528 W2 (by omega) (by omega) OR.out (IR.out _ HB2.out)).mono ?_
  rintro e w3 ⟨g, rfl, hc3, hb3, hg1, hg2⟩
  have H3 : Hid (CurOn W2 w3 g W2.heap.size rest 0 527 528 0) := ⟨hc3, hb3, by omega, Nat.le_refl _⟩
  clear hc3 hb3 hg1 hg2
  obtain ⟨f0, f1, f2, f3, f4, f5⟩ := (hy.below H3.out.bel).six
  go_wp2_with fail
  refine (HWS.out _ a1 a2 c1 c2 HMC.out (I1.out.below H3.out.bel) (I2.out.below H3.out.bel)).mono ?_
  rintro e w4 ⟨rfl, hb4⟩
  have H4 := hid (H3.out.below hb4)
  clear hb4 f0 f1 f2 f3 f4 f5
  go_wp2_with fail
  refine (H4.out.cur.fail _).mono ?_
  rintro e w5 ⟨rfl, hc5, hb5⟩
  have H5 := hid (H4.out.by hb5 hc5)
  clear hc5 hb5
  go_wp2_with fail
  refine (H5.out.cur.left).mono ?_
  rintro e w' ⟨rfl, rfl⟩
  obtain ⟨z, hz0⟩ : ∃ z, rest.length = z := ⟨_, rfl⟩
  have HZ0 := hid hz0
  rw [hz0] at hrl ⊢
  have z8 : (8 : Int) ≤ z := by omega
  clear hrl hz0
  go_wp2_with fail
  refine (H5.out.cur.fail _).mono ?_
  rintro e w6 ⟨rfl, hc6, hb6⟩
  have H6 := hid (H5.out.by hb6 hc6)
  clear hc6 hb6
  have hxE := hx2.below H6.out.bel
  have hyE := hy.below H6.out.bel
  have HBE := hid (below_on HB2.out H6.out.bel)
  have I1E := hid (I1.out.below H6.out.bel)
  have I2E := hid (I2.out.below H6.out.bel)
  have n1 : ¬ w1.heap.size = w.heap.size := fun e => hne e.symm
  have n2 : ¬ w.heap.size = w1.heap.size := hne
  have HcD := hid (H6.out.cur.below (below_drew8 _))
  have zf := hxE.free
  obtain ⟨d0, d1, d2, d3, d4, d5, d6, d7, d8, d9⟩ :=  hxE.ten
  obtain ⟨f0, f1, f2, f3, f4, f5⟩ := hyE.six
  go_upto_region 11 with fail
  go_region_held3 (fun w' => w'.cell? ⟨w1.heap.size, 0, none⟩ = some (.int .i64 C) ∧ w'.cell? ⟨w1.heap.size, 1, none⟩ = some (.int .i64 F) ∧ w'.cell? ⟨w1.heap.size, 2, none⟩ = some (.bool H) ∧ w'.cell? ⟨w1.heap.size, 3, none⟩ = some (.int .u64 X) ∧ w'.cell? ⟨w1.heap.size, 4, none⟩ = some (.slice a1 v.length c1) ∧ w'.cell? ⟨w1.heap.size, 5, none⟩ = some (.slice a2 m.length c2)) (go_keep) (first
    | (go_at_call 38; refine HcD.out.err.mono ?_; rintro e w' ⟨rfl, rfl⟩)
    | fail)
  go_wp2_with fail
  have hkk := hxE.set10 (.int .i64 25) (.int .u64 0) (.int .u64 0) (.int .i64 C) (.int .i64 F) (.bool H) (.int .u64 X) (.slice a1 v.length c1) (.slice a2 m.length c2) (.slice none 0 0)
  replace hkk := hkk.drew
  obtain ⟨k0, k1, k2, k3, k4, k5, k6, k7, k8, k9⟩ := hkk.ten
  refine bodyPost_ret (v := .tuple #[.agg #[.int .i64 25, .int .u64 0, .int .u64 0, .int .i64 C, .int .i64 F, .bool H, .int .u64 X, .slice a1 v.length c1, .slice a2 m.length c2, .slice none 0 0], .int .i64 527]) (by simp [results, Tryz.results99, go_sem, k0, k1, k2, k3, k4, k5, k6, k7, k8, k9]) rfl (.inl ⟨_, HS.out, by decide, bad12, ?_⟩)
  with_reducible refine Below.drew ?_
  repeat (with_reducible refine Below.setCell ?_ (by simp) _)
  exact HBE.out

set_option maxRecDepth 100000 in
set_option maxHeartbeats 2000000 in
theorem readSet_g_yes (b : List Int) (M off : Nat) (c : Nat) (hbl : b.length ≤ 100000) (hbc : b.length ≤ c) (hc : c ≤ 9223372036854775807) (ho : Octets b) (w : World) (hI : Ints .u8 w (some ⟨M, off, none⟩) b) (o : Oxm8) (hq : decL b = .ok o) (hbad : wset12 (ox12 o) = 0) (hz : o.n < b.length ∧ b.length < o.n + 8) (hcn : ¬ c = o.n) (hzz : zeros (b.drop o.n) = true) :
    Calls Tryz.prog 99 #[.slice (some ⟨M, off, none⟩) b.length c] w (SetPost12 (set12 b) w) := by
  obtain ⟨W, hW, hbW, hx⟩ := act_box w 0 0 0 0 0 false 0 none 0 0 none 0 0 none 0 0
  have HW := hid hW
  have HB := hid hbW
  have DE := hid (decode8_any b _ c hbc hc ho W (hI.below hbW))
  obtain ⟨hr, hn, -, hX0⟩ := dec_right hq ho
  obtain ⟨hov, hom, hlv, hlm, -⟩ := raw_octets (dec_raw hq) ho
  have HS := set12_good hq ho hbad
  rw [if_neg (by omega), if_neg (by rw [hzz]; decide)] at HS
  have HZ := hid hzz
  have HS := hid HS
  obtain ⟨ws, hws⟩ : ∃ ws, wset12 (ox12 o) = ws := ⟨_, rfl⟩
  have HWS := hid (fun (V : World) (a1 a2 : Option Addr) (c1 c2 : Nat) (hc2 : o.m.length ≤ c2) (i1 : Ints .u8 V a1 o.v) (i2 : Ints .u8 V a2 o.m) => wrongSet_any (ox12 o) a1 c1 a2 c2 V (show o.v.length ≤ 1000 by omega) (show o.m.length ≤ 1000 by omega) hc2 hov hom i1 i2)
  rw [hws] at HWS
  rw [hws] at hbad
  subst hbad
  have HQ := hid hq
  have OR := hid (ho.drop o.n)
  have hI0 := hid hI
  obtain ⟨C, F, H, X, v, m, n⟩ := o
  simp only [ox12] at *
  obtain ⟨rest, hrest⟩ : ∃ l, b.drop n = l := ⟨_, rfl⟩
  have hrl : rest.length = b.length - n := by rw [← hrest, List.length_drop]
  rw [hrest] at OR HZ
  have HRE := hid hrest
  have IR : Hid (∀ V : World, Below w.heap.size w V → Ints .u8 V (some ⟨M, off + n, none⟩) rest) := by
    intro V hV
    have := (hI.below hV).drop (j := n) (cap := c) (by omega)
    rw [hrest] at this
    rw [if_neg hcn] at this
    exact this
  have e1 : (0 : Int) ≤ n := by omega
  have e2 : (n : Int) ≤ b.length := by omega
  have e3 : (n : Int) ≤ c := by omega
  clear hW hbW ho hI hq hr hX0 hov hom hws hrest
  go_enter Tryz.func99, Tryz.ntmps99
  go_wp2_with fail
  rw [HW.out]
  refine DE.out.mono ?_
  rintro e w1 (⟨q', hq', _⟩ | ⟨o', a1, c1, a2, c2, hq', rfl, hb1, i1, i2, hmc, hn1, hn2⟩)
  · rw [HQ.out] at hq'; cases hq'
  rw [HQ.out] at hq'
  cases hq'
  simp only at i1 i2 hmc
  have hx1 := hx.below hb1
  obtain ⟨W2, hW2, hbW2, hy⟩ := oxm_box w1 C F H X a1 v.length c1 a2 m.length c2
  have HW2 := hid hW2
  have hx2 := hx1.below hbW2
  have HB2 := hid (below_on (below_on HB.out hb1) hbW2)
  have I1 := hid (i1.below hbW2)
  have I2 := hid (i2.below hbW2)
  have HN1 : Hid (New8 w a1) := fun q hq => by have := hn1 q hq; have := HB.out.size; omega
  have HN2 : Hid (New8 w a2) := fun q hq => by have := hn2 q hq; have := HB.out.size; omega
  have HN1' : Hid (∀ q : Addr, a1 = some q → q.block ≠ w.heap.size) := fun q hq => by have := hn1 q hq; have := hx.lt; omega
  have HN2' : Hid (∀ q : Addr, a2 = some q → q.block ≠ w.heap.size) := fun q hq => by have := hn2 q hq; have := hx.lt; omega
  have HMC := hid hmc
  have hne : w.heap.size ≠ w1.heap.size := by have := hx1.lt; omega
  clear hW2 hbW2 hb1 hx hx1 hn1 hn2 i1 i2 hmc
  go_wp2_with fail
  rw [HW2.out]
  refine (new_lit rest _ _ _ 527 528 W2 (by omega) (by omega) OR.out (IR.out _ HB2.out)).mono ?_
  rintro e w3 ⟨g, rfl, hc3, hb3, hg1, hg2⟩
  have H3 : Hid (CurOn W2 w3 g W2.heap.size rest 0 527 528 0) := ⟨hc3, hb3, by omega, Nat.le_refl _⟩
  clear hc3 hb3 hg1 hg2
  obtain ⟨f0, f1, f2, f3, f4, f5⟩ := (hy.below H3.out.bel).six
  go_wp2_with fail
  refine (HWS.out _ a1 a2 c1 c2 HMC.out (I1.out.below H3.out.bel) (I2.out.below H3.out.bel)).mono ?_
  rintro e w4 ⟨rfl, hb4⟩
  have H4 := hid (H3.out.below hb4)
  clear hb4 f0 f1 f2 f3 f4 f5
  go_wp2_with fail
  refine (H4.out.cur.fail _).mono ?_
  rintro e w5 ⟨rfl, hc5, hb5⟩
  have H5 := hid (H4.out.by hb5 hc5)
  clear hc5 hb5
  go_wp2_with fail
  refine (H5.out.cur.left).mono ?_
  rintro e w' ⟨rfl, rfl⟩
  obtain ⟨z, hz0⟩ : ∃ z, rest.length = z := ⟨_, rfl⟩
  have HZ0 := hid hz0
  rw [hz0] at hrl ⊢
  have z8 : ¬ (8 : Int) ≤ z := by omega
  have z0 : (0 : Int) < z := by omega
  have HZ1 : Hid (0 < z ∧ z < 8) := ⟨by omega, by omega⟩
  clear hrl hz0
  go_wp2_with fail
  have GZ := getW_zeros12 HZ0.out HZ1.out.1 HZ1.out.2
  rw [HZ.out] at GZ
  have GZ := hid GZ
  have H5a := hid (H5.out.below (below_alloc _ (.cells #[.int .i64 (-(z : Int))] 3)))
  refine (H5a.out.cur.row_ok [-(z : Int)] [] _ 1 (by simp) (ints_one .i64 _ _ _) GZ.out).mono ?_
  rintro e w6 ⟨v6, rfl, hG6, hc6⟩
  have H6 := hid (H5a.out.by hG6.by_ hc6)
  clear hc6 hG6 H5
  have hxE := hx2.below H6.out.bel
  have hyE := hy.below H6.out.bel
  have HBE := hid (below_on HB2.out H6.out.bel)
  have I1E := hid (I1.out.below H6.out.bel)
  have I2E := hid (I2.out.below H6.out.bel)
  have n1 : ¬ w1.heap.size = w.heap.size := fun e => hne e.symm
  have n2 : ¬ w.heap.size = w1.heap.size := hne
  have HcD := hid (H6.out.cur.below (below_drew8 _))
  have zf := hxE.free
  obtain ⟨d0, d1, d2, d3, d4, d5, d6, d7, d8, d9⟩ :=  hxE.ten
  obtain ⟨f0, f1, f2, f3, f4, f5⟩ := hyE.six
  go_upto_region 11 with fail
  go_region_held3 (fun w' => w'.cell? ⟨w1.heap.size, 0, none⟩ = some (.int .i64 C) ∧ w'.cell? ⟨w1.heap.size, 1, none⟩ = some (.int .i64 F) ∧ w'.cell? ⟨w1.heap.size, 2, none⟩ = some (.bool H) ∧ w'.cell? ⟨w1.heap.size, 3, none⟩ = some (.int .u64 X) ∧ w'.cell? ⟨w1.heap.size, 4, none⟩ = some (.slice a1 v.length c1) ∧ w'.cell? ⟨w1.heap.size, 5, none⟩ = some (.slice a2 m.length c2)) (go_keep) (first
    | (go_at_call 38; refine HcD.out.err.mono ?_; rintro e w' ⟨rfl, rfl⟩)
    | fail)
  go_wp2_with fail
  have hkk := hxE.set10 (.int .i64 25) (.int .u64 0) (.int .u64 0) (.int .i64 C) (.int .i64 F) (.bool H) (.int .u64 X) (.slice a1 v.length c1) (.slice a2 m.length c2) (.slice none 0 0)
  replace hkk := hkk.drew
  obtain ⟨k0, k1, k2, k3, k4, k5, k6, k7, k8, k9⟩ := hkk.ten
  refine bodyPost_ret (v := .tuple #[.agg #[.int .i64 25, .int .u64 0, .int .u64 0, .int .i64 C, .int .i64 F, .bool H, .int .u64 X, .slice a1 v.length c1, .slice a2 m.length c2, .slice none 0 0], .int .i64 0]) (by simp [results, Tryz.results99, go_sem, k0, k1, k2, k3, k4, k5, k6, k7, k8, k9]) rfl (.inr ⟨⟨C, F, H, X, v, m⟩, a1, c1, a2, c2, HS.out, rfl, ?_, ?_, ?_, HMC.out, HN1.out, HN2.out⟩)
  · with_reducible refine Below.drew ?_
    repeat (with_reducible refine Below.setCell ?_ (by simp) _)
    exact HBE.out
  · refine Ints.below ?_ (below_drew8 _)
    repeat (refine Ints.apart ?_ _ HN1'.out)
    exact I1E.out
  · refine Ints.below ?_ (below_drew8 _)
    repeat (refine Ints.apart ?_ _ HN2'.out)
    exact I2E.out

set_option maxRecDepth 100000 in
set_option maxHeartbeats 2000000 in
theorem readSet_g_no (b : List Int) (M off : Nat) (c : Nat) (hbl : b.length ≤ 100000) (hbc : b.length ≤ c) (hc : c ≤ 9223372036854775807) (ho : Octets b) (w : World) (hI : Ints .u8 w (some ⟨M, off, none⟩) b) (o : Oxm8) (hq : decL b = .ok o) (hbad : wset12 (ox12 o) = 0) (hz : o.n < b.length ∧ b.length < o.n + 8) (hcn : ¬ c = o.n) (hzz : zeros (b.drop o.n) = false) :
    Calls Tryz.prog 99 #[.slice (some ⟨M, off, none⟩) b.length c] w (SetPost12 (set12 b) w) := by
  obtain ⟨W, hW, hbW, hx⟩ := act_box w 0 0 0 0 0 false 0 none 0 0 none 0 0 none 0 0
  have HW := hid hW
  have HB := hid hbW
  have DE := hid (decode8_any b _ c hbc hc ho W (hI.below hbW))
  obtain ⟨hr, hn, -, hX0⟩ := dec_right hq ho
  obtain ⟨hov, hom, hlv, hlm, -⟩ := raw_octets (dec_raw hq) ho
  have HS := set12_good hq ho hbad
  rw [if_neg (by omega), if_pos hzz] at HS
  have HZ := hid hzz
  have HS := hid HS
  obtain ⟨ws, hws⟩ : ∃ ws, wset12 (ox12 o) = ws := ⟨_, rfl⟩
  have HWS := hid (fun (V : World) (a1 a2 : Option Addr) (c1 c2 : Nat) (hc2 : o.m.length ≤ c2) (i1 : Ints .u8 V a1 o.v) (i2 : Ints .u8 V a2 o.m) => wrongSet_any (ox12 o) a1 c1 a2 c2 V (show o.v.length ≤ 1000 by omega) (show o.m.length ≤ 1000 by omega) hc2 hov hom i1 i2)
  rw [hws] at HWS
  rw [hws] at hbad
  subst hbad
  have HQ := hid hq
  have OR := hid (ho.drop o.n)
  have hI0 := hid hI
  obtain ⟨C, F, H, X, v, m, n⟩ := o
  simp only [ox12] at *
  obtain ⟨rest, hrest⟩ : ∃ l, b.drop n = l := ⟨_, rfl⟩
  have hrl : rest.length = b.length - n := by rw [← hrest, List.length_drop]
  rw [hrest] at OR HZ
  have HRE := hid hrest
  have IR : Hid (∀ V : World, Below w.heap.size w V → Ints .u8 V (some ⟨M, off + n, none⟩) rest) := by
    intro V hV
    have := (hI.below hV).drop (j := n) (cap := c) (by omega)
    rw [hrest] at this
    rw [if_neg hcn] at this
    exact this
  have e1 : (0 : Int) ≤ n := by omega
  have e2 : (n : Int) ≤ b.length := by omega
  have e3 : (n : Int) ≤ c := by omega
  clear hW hbW ho hI hq hr hX0 hov hom hws hrest
  go_enter Tryz.func99, Tryz.ntmps99
  go_wp2_with fail
  rw [HW.out]
  refine DE.out.mono ?_
  rintro e w1 (⟨q', hq', _⟩ | ⟨o', a1, c1, a2, c2, hq', rfl, hb1, i1, i2, hmc, hn1, hn2⟩)
  · rw [HQ.out] at hq'; cases hq'
  rw [HQ.out] at hq'
  cases hq'
  simp only at i1 i2 hmc
  have hx1 := hx.below hb1
  obtain ⟨W2, hW2, hbW2, hy⟩ := oxm_box w1 C F H X a1 v.length c1 a2 m.length c2
  have HW2 := hid hW2
  have hx2 := hx1.below hbW2
  have HB2 := hid (below_on (below_on HB.out hb1) hbW2)
  have I1 := hid (i1.below hbW2)
  have I2 := hid (i2.below hbW2)
  have HN1 : Hid (New8 w a1) := fun q hq => by have := hn1 q hq; have := HB.out.size; omega
  have HN2 : Hid (New8 w a2) := fun q hq => by have := hn2 q hq; have := HB.out.size; omega
  have HN1' : Hid (∀ q : Addr, a1 = some q → q.block ≠ w.heap.size) := fun q hq => by have := hn1 q hq; have := hx.lt; omega
  have HN2' : Hid (∀ q : Addr, a2 = some q → q.block ≠ w.heap.size) := fun q hq => by have := hn2 q hq; have := hx.lt; omega
  have HMC := hid hmc
  have hne : w.heap.size ≠ w1.heap.size := by have := hx1.lt; omega
  clear hW2 hbW2 hb1 hx hx1 hn1 hn2 i1 i2 hmc
  go_wp2_with fail
  rw [HW2.out]
  refine (new_lit rest _ _ _ 527 528 W2 (by omega) (by omega) OR.out (IR.out _ HB2.out)).mono ?_
  rintro e w3 ⟨g, rfl, hc3, hb3, hg1, hg2⟩
  have H3 : Hid (CurOn W2 w3 g W2.heap.size rest 0 527 528 0) := ⟨hc3, hb3, by omega, Nat.le_refl _⟩
  clear hc3 hb3 hg1 hg2
  obtain ⟨f0, f1, f2, f3, f4, f5⟩ := (hy.below H3.out.bel).six
  go_wp2_with fail
  refine (HWS.out _ a1 a2 c1 c2 HMC.out (I1.out.below H3.out.bel) (I2.out.below H3.out.bel)).mono ?_
  rintro e w4 ⟨rfl, hb4⟩
  have H4 := hid (H3.out.below hb4)
  clear hb4 f0 f1 f2 f3 f4 f5
  go_wp2_with fail
  refine (H4.out.cur.fail _).mono ?_
  rintro e w5 ⟨rfl, hc5, hb5⟩
  have H5 := hid (H4.out.by hb5 hc5)
  clear hc5 hb5
  go_wp2_with fail
  refine (H5.out.cur.left).mono ?_
  rintro e w' ⟨rfl, rfl⟩
  obtain ⟨z, hz0⟩ : ∃ z, rest.length = z := ⟨_, rfl⟩
  have HZ0 := hid hz0
  rw [hz0] at hrl ⊢
  have z8 : ¬ (8 : Int) ≤ z := by omega
  have z0 : (0 : Int) < z := by omega
  have HZ1 : Hid (0 < z ∧ z < 8) := ⟨by omega, by omega⟩
  clear hrl hz0
  go_wp2_with fail
  have GZ := getW_zeros12 HZ0.out HZ1.out.1 HZ1.out.2
  rw [HZ.out] at GZ
  have GZ := hid GZ
  have H5a := hid (H5.out.below (below_alloc _ (.cells #[.int .i64 (-(z : Int))] 3)))
  refine (H5a.out.cur.row_odd [-(z : Int)] _ 1 (by simp) (ints_one .i64 _ _ _) GZ.out).mono ?_
  rintro e w6 ⟨rfl, hc6, hb6⟩
  have H6 := hid (H5a.out.by hb6 hc6)
  clear hc6 hb6 H5
  have hxE := hx2.below H6.out.bel
  have hyE := hy.below H6.out.bel
  have HBE := hid (below_on HB2.out H6.out.bel)
  have I1E := hid (I1.out.below H6.out.bel)
  have I2E := hid (I2.out.below H6.out.bel)
  have n1 : ¬ w1.heap.size = w.heap.size := fun e => hne e.symm
  have n2 : ¬ w.heap.size = w1.heap.size := hne
  have HcD := hid (H6.out.cur.below (below_drew8 _))
  have zf := hxE.free
  obtain ⟨d0, d1, d2, d3, d4, d5, d6, d7, d8, d9⟩ :=  hxE.ten
  obtain ⟨f0, f1, f2, f3, f4, f5⟩ := hyE.six
  go_upto_region 11 with fail
  go_region_held3 (fun w' => w'.cell? ⟨w1.heap.size, 0, none⟩ = some (.int .i64 C) ∧ w'.cell? ⟨w1.heap.size, 1, none⟩ = some (.int .i64 F) ∧ w'.cell? ⟨w1.heap.size, 2, none⟩ = some (.bool H) ∧ w'.cell? ⟨w1.heap.size, 3, none⟩ = some (.int .u64 X) ∧ w'.cell? ⟨w1.heap.size, 4, none⟩ = some (.slice a1 v.length c1) ∧ w'.cell? ⟨w1.heap.size, 5, none⟩ = some (.slice a2 m.length c2)) (go_keep) (first
    | (go_at_call 38; refine HcD.out.err.mono ?_; rintro e w' ⟨rfl, rfl⟩)
    | fail)
  go_wp2_with fail
  have hkk := hxE.set10 (.int .i64 25) (.int .u64 0) (.int .u64 0) (.int .i64 C) (.int .i64 F) (.bool H) (.int .u64 X) (.slice a1 v.length c1) (.slice a2 m.length c2) (.slice none 0 0)
  replace hkk := hkk.drew
  obtain ⟨k0, k1, k2, k3, k4, k5, k6, k7, k8, k9⟩ := hkk.ten
  refine bodyPost_ret (v := .tuple #[.agg #[.int .i64 25, .int .u64 0, .int .u64 0, .int .i64 C, .int .i64 F, .bool H, .int .u64 X, .slice a1 v.length c1, .slice a2 m.length c2, .slice none 0 0], .int .i64 528]) (by simp [results, Tryz.results99, go_sem, k0, k1, k2, k3, k4, k5, k6, k7, k8, k9]) rfl (.inl ⟨_, HS.out, by decide, bad12, ?_⟩)
  with_reducible refine Below.drew ?_
  repeat (with_reducible refine Below.setCell ?_ (by simp) _)
  exact HBE.out
end Go.Proofs.YtdjlbejhphbcoaaGreat
namespace Go.Proofs.YtdjlbejhphbcoaaGreat
open Go.RowKit
set_option linter.unusedVariables false

set_option maxRecDepth 100000 in
set_option maxHeartbeats 2000000 in
theorem readSet_g_zero (b : List Int) (M off : Nat) (c : Nat) (hbl : b.length ≤ 100000) (hbc : b.length ≤ c) (hc : c ≤ 9223372036854775807) (ho : Octets b) (w : World) (hI : Ints .u8 w (some ⟨M, off, none⟩) b) (o : Oxm8) (hq : decL b = .ok o) (hbad : wset12 (ox12 o) = 0) (hz : b.length ≤ o.n) (hcn : ¬ c = o.n) :
    Calls Tryz.prog 99 #[.slice (some ⟨M, off, none⟩) b.length c] w (SetPost12 (set12 b) w) := by
  obtain ⟨W, hW, hbW, hx⟩ := act_box w 0 0 0 0 0 false 0 none 0 0 none 0 0 none 0 0
  have HW := hid hW
  have HB := hid hbW
  have DE := hid (decode8_any b _ c hbc hc ho W (hI.below hbW))
  obtain ⟨hr, hn, -, hX0⟩ := dec_right hq ho
  obtain ⟨hov, hom, hlv, hlm, -⟩ := raw_octets (dec_raw hq) ho
  have HS := set12_good hq ho hbad
  have hd0 : b.drop o.n = [] := List.drop_eq_nil_of_le (by omega)
  rw [if_neg (by omega), if_neg (by rw [hd0]; decide)] at HS
  clear hd0
  have HS := hid HS
  obtain ⟨ws, hws⟩ : ∃ ws, wset12 (ox12 o) = ws := ⟨_, rfl⟩
  have HWS := hid (fun (V : World) (a1 a2 : Option Addr) (c1 c2 : Nat) (hc2 : o.m.length ≤ c2) (i1 : Ints .u8 V a1 o.v) (i2 : Ints .u8 V a2 o.m) => wrongSet_any (ox12 o) a1 c1 a2 c2 V (show o.v.length ≤ 1000 by omega) (show o.m.length ≤ 1000 by omega) hc2 hov hom i1 i2)
  rw [hws] at HWS
  rw [hws] at hbad
  subst hbad
  have HQ := hid hq
  have OR := hid (ho.drop o.n)
  have hI0 := hid hI
  obtain ⟨C, F, H, X, v, m, n⟩ := o
  simp only [ox12] at *
  obtain ⟨rest, hrest⟩ : ∃ l, b.drop n = l := ⟨_, rfl⟩
  have hrl : rest.length = b.length - n := by rw [← hrest, List.length_drop]
  rw [hrest] at OR
  have HRE := hid hrest
  have IR : Hid (∀ V : World, Below w.heap.size w V → Ints .u8 V (some ⟨M, off + n, none⟩) rest) := by
    intro V hV
    have := (hI.below hV).drop (j := n) (cap := c) (by omega)
    rw [hrest] at this
    rw [if_neg hcn] at this
    exact this
  have e1 : (0 : Int) ≤ n := by omega
  have e2 : (n : Int) ≤ b.length := by omega
  have e3 : (n : Int) ≤ c := by omega
  clear hW hbW ho hI hq hr hX0 hov hom hws hrest
  go_enter Tryz.func99, Tryz.ntmps99
  go_wp2_with fail
  rw [HW.out]
  refine DE.out.mono ?_
  rintro e w1 (⟨q', hq', _⟩ | ⟨o', a1, c1, a2, c2, hq', rfl, hb1, i1, i2, hmc, hn1, hn2⟩)
  · rw [HQ.out] at hq'; cases hq'
  rw [HQ.out] at hq'
  cases hq'
  simp only at i1 i2 hmc
  have hx1 := hx.below hb1
  obtain ⟨W2, hW2, hbW2, hy⟩ := oxm_box w1 C F H X a1 v.length c1 a2 m.length c2
  have HW2 := hid hW2
  have hx2 := hx1.below hbW2
  have HB2 := hid (below_on (below_on HB.out hb1) hbW2)
  have I1 := hid (i1.below hbW2)
  have I2 := hid (i2.below hbW2)
  have HN1 : Hid (New8 w a1) := fun q hq => by have := hn1 q hq; have := HB.out.size; omega
  have HN2 : Hid (New8 w a2) := fun q hq => by have := hn2 q hq; have := HB.out.size; omega
  have HN1' : Hid (∀ q : Addr, a1 = some q → q.block ≠ w.heap.size) := fun q hq => by have := hn1 q hq; have := hx.lt; omega
  have HN2' : Hid (∀ q : Addr, a2 = some q → q.block ≠ w.heap.size) := fun q hq => by have := hn2 q hq; have := hx.lt; omega
  have HMC := hid hmc
  have hne : w.heap.size ≠ w1.heap.size := by have := hx1.lt; omega
  clear hW2 hbW2 hb1 hx hx1 hn1 hn2 i1 i2 hmc
  go_wp2_with fail
  rw [HW2.out]
  refine (new_lit rest _ _ _ 527 528 W2 (by omega) (by omega) OR.out (IR.out _ HB2.out)).mono ?_
  rintro e w3 ⟨g, rfl, hc3, hb3, hg1, hg2⟩
  have H3 : Hid (CurOn W2 w3 g W2.heap.size rest 0 527 528 0) := ⟨hc3, hb3, by omega, Nat.le_refl _⟩
  clear hc3 hb3 hg1 hg2
  obtain ⟨f0, f1, f2, f3, f4, f5⟩ := (hy.below H3.out.bel).six
  go_wp2_with fail
  refine (HWS.out _ a1 a2 c1 c2 HMC.out (I1.out.below H3.out.bel) (I2.out.below H3.out.bel)).mono ?_
  rintro e w4 ⟨rfl, hb4⟩
  have H4 := hid (H3.out.below hb4)
  clear hb4 f0 f1 f2 f3 f4 f5
  go_wp2_with fail
  refine (H4.out.cur.fail _).mono ?_
  rintro e w5 ⟨rfl, hc5, hb5⟩
  have H5 := hid (H4.out.by hb5 hc5)
  clear hc5 hb5
  go_wp2_with fail
  refine (H5.out.cur.left).mono ?_
  rintro e w' ⟨rfl, rfl⟩
  obtain ⟨z, hz0⟩ : ∃ z, rest.length = z := ⟨_, rfl⟩
  have HZ0 := hid hz0
  rw [hz0] at hrl ⊢
  have z8 : z = 0 := by omega
  subst z8
  clear hrl hz0
  have hxE := hx2.below H5.out.bel
  have hyE := hy.below H5.out.bel
  have HBE := hid (below_on HB2.out H5.out.bel)
  have I1E := hid (I1.out.below H5.out.bel)
  have I2E := hid (I2.out.below H5.out.bel)
  have n1 : ¬ w1.heap.size = w.heap.size := fun e => hne e.symm
  have n2 : ¬ w.heap.size = w1.heap.size := hne
  have HcD := hid (H5.out.cur.below (below_drew8 _))
  have zf := hxE.free
  obtain ⟨d0, d1, d2, d3, d4, d5, d6, d7, d8, d9⟩ :=  hxE.ten
  obtain ⟨f0, f1, f2, f3, f4, f5⟩ := hyE.six
  go_upto_region 11 with fail
  go_region_held3 (fun w' => w'.cell? ⟨w1.heap.size, 0, none⟩ = some (.int .i64 C) ∧ w'.cell? ⟨w1.heap.size, 1, none⟩ = some (.int .i64 F) ∧ w'.cell? ⟨w1.heap.size, 2, none⟩ = some (.bool H) ∧ w'.cell? ⟨w1.heap.size, 3, none⟩ = some (.int .u64 X) ∧ w'.cell? ⟨w1.heap.size, 4, none⟩ = some (.slice a1 v.length c1) ∧ w'.cell? ⟨w1.heap.size, 5, none⟩ = some (.slice a2 m.length c2)) (go_keep) (first
    | (go_at_call 38; refine HcD.out.err.mono ?_; rintro e w' ⟨rfl, rfl⟩)
    | fail)
  go_wp2_with fail
  have hkk := hxE.set10 (.int .i64 25) (.int .u64 0) (.int .u64 0) (.int .i64 C) (.int .i64 F) (.bool H) (.int .u64 X) (.slice a1 v.length c1) (.slice a2 m.length c2) (.slice none 0 0)
  replace hkk := hkk.drew
  obtain ⟨k0, k1, k2, k3, k4, k5, k6, k7, k8, k9⟩ := hkk.ten
  refine bodyPost_ret (v := .tuple #[.agg #[.int .i64 25, .int .u64 0, .int .u64 0, .int .i64 C, .int .i64 F, .bool H, .int .u64 X, .slice a1 v.length c1, .slice a2 m.length c2, .slice none 0 0], .int .i64 0]) (by simp [results, Tryz.results99, go_sem, k0, k1, k2, k3, k4, k5, k6, k7, k8, k9]) rfl (.inr ⟨⟨C, F, H, X, v, m⟩, a1, c1, a2, c2, HS.out, rfl, ?_, ?_, ?_, HMC.out, HN1.out, HN2.out⟩)
  · with_reducible refine Below.drew ?_
    repeat (with_reducible refine Below.setCell ?_ (by simp) _)
    exact HBE.out
  · refine Ints.below ?_ (below_drew8 _)
    repeat (refine Ints.apart ?_ _ HN1'.out)
    exact I1E.out
  · refine Ints.below ?_ (below_drew8 _)
    repeat (refine Ints.apart ?_ _ HN2'.out)
    exact I2E.out

set_option maxRecDepth 100000 in
set_option maxHeartbeats 2000000 in
theorem readSet_g_cap (b : List Int) (M off : Nat) (c : Nat) (hbl : b.length ≤ 100000) (hbc : b.length ≤ c) (hc : c ≤ 9223372036854775807) (ho : Octets b) (w : World) (hI : Ints .u8 w (some ⟨M, off, none⟩) b) (o : Oxm8) (hq : decL b = .ok o) (hbad : wset12 (ox12 o) = 0) (hz : b.length ≤ o.n) (hcn : c = o.n) :
    Calls Tryz.prog 99 #[.slice (some ⟨M, off, none⟩) b.length c] w (SetPost12 (set12 b) w) := by
  obtain ⟨W, hW, hbW, hx⟩ := act_box w 0 0 0 0 0 false 0 none 0 0 none 0 0 none 0 0
  have HW := hid hW
  have HB := hid hbW
  have DE := hid (decode8_any b _ c hbc hc ho W (hI.below hbW))
  obtain ⟨hr, hn, -, hX0⟩ := dec_right hq ho
  obtain ⟨hov, hom, hlv, hlm, -⟩ := raw_octets (dec_raw hq) ho
  have HS := set12_good hq ho hbad
  have hd0 : b.drop o.n = [] := List.drop_eq_nil_of_le (by omega)
  rw [if_neg (by omega), if_neg (by rw [hd0]; decide)] at HS
  clear hd0
  have HS := hid HS
  obtain ⟨ws, hws⟩ : ∃ ws, wset12 (ox12 o) = ws := ⟨_, rfl⟩
  have HWS := hid (fun (V : World) (a1 a2 : Option Addr) (c1 c2 : Nat) (hc2 : o.m.length ≤ c2) (i1 : Ints .u8 V a1 o.v) (i2 : Ints .u8 V a2 o.m) => wrongSet_any (ox12 o) a1 c1 a2 c2 V (show o.v.length ≤ 1000 by omega) (show o.m.length ≤ 1000 by omega) hc2 hov hom i1 i2)
  rw [hws] at HWS
  rw [hws] at hbad
  subst hbad
  have HQ := hid hq
  have OR := hid (ho.drop o.n)
  have hI0 := hid hI
  obtain ⟨C, F, H, X, v, m, n⟩ := o
  simp only [ox12] at *
  obtain ⟨rest, hrest⟩ : ∃ l, b.drop n = l := ⟨_, rfl⟩
  have hrl : rest.length = b.length - n := by rw [← hrest, List.length_drop]
  rw [hrest] at OR
  have HRE := hid hrest
  have IR : Hid (∀ V : World, Below w.heap.size w V → Ints .u8 V (some ⟨M, off, none⟩) rest) := by
    intro V hV
    have := (hI.below hV).drop (j := n) (cap := c) (by omega)
    rw [hrest] at this
    rw [if_pos hcn] at this
    exact this
  have e1 : (0 : Int) ≤ n := by omega
  have e2 : (n : Int) ≤ b.length := by omega
  have e3 : (n : Int) ≤ c := by omega
  clear hW hbW ho hI hq hr hX0 hov hom hws hrest
  subst hcn
  go_enter Tryz.func99, Tryz.ntmps99
  go_wp2_with fail
  rw [HW.out]
  refine DE.out.mono ?_
  rintro e w1 (⟨q', hq', _⟩ | ⟨o', a1, c1, a2, c2, hq', rfl, hb1, i1, i2, hmc, hn1, hn2⟩)
  · rw [HQ.out] at hq'; cases hq'
  rw [HQ.out] at hq'
  cases hq'
  simp only at i1 i2 hmc
  have hx1 := hx.below hb1
  obtain ⟨W2, hW2, hbW2, hy⟩ := oxm_box w1 C F H X a1 v.length c1 a2 m.length c2
  have HW2 := hid hW2
  have hx2 := hx1.below hbW2
  have HB2 := hid (below_on (below_on HB.out hb1) hbW2)
  have I1 := hid (i1.below hbW2)
  have I2 := hid (i2.below hbW2)
  have HN1 : Hid (New8 w a1) := fun q hq => by have := hn1 q hq; have := HB.out.size; omega
  have HN2 : Hid (New8 w a2) := fun q hq => by have := hn2 q hq; have := HB.out.size; omega
  have HN1' : Hid (∀ q : Addr, a1 = some q → q.block ≠ w.heap.size) := fun q hq => by have := hn1 q hq; have := hx.lt; omega
  have HN2' : Hid (∀ q : Addr, a2 = some q → q.block ≠ w.heap.size) := fun q hq => by have := hn2 q hq; have := hx.lt; omega
  have HMC := hid hmc
  have hne : w.heap.size ≠ w1.heap.size := by have := hx1.lt; omega
  clear hW2 hbW2 hb1 hx hx1 hn1 hn2 i1 i2 hmc
  go_wp2_with fail
  rw [HW2.out]
  refine (new_lit rest _ _ _ 527 528 W2 (by omega) (by omega) OR.out (IR.out _ HB2.out)).mono ?_
  rintro e w3 ⟨g, rfl, hc3, hb3, hg1, hg2⟩
  have H3 : Hid (CurOn W2 w3 g W2.heap.size rest 0 527 528 0) := ⟨hc3, hb3, by omega, Nat.le_refl _⟩
  clear hc3 hb3 hg1 hg2
  obtain ⟨f0, f1, f2, f3, f4, f5⟩ := (hy.below H3.out.bel).six
  go_wp2_with fail
  refine (HWS.out _ a1 a2 c1 c2 HMC.out (I1.out.below H3.out.bel) (I2.out.below H3.out.bel)).mono ?_
  rintro e w4 ⟨rfl, hb4⟩
  have H4 := hid (H3.out.below hb4)
  clear hb4 f0 f1 f2 f3 f4 f5
  go_wp2_with fail
  refine (H4.out.cur.fail _).mono ?_
  rintro e w5 ⟨rfl, hc5, hb5⟩
  have H5 := hid (H4.out.by hb5 hc5)
  clear hc5 hb5
  go_wp2_with fail
  refine (H5.out.cur.left).mono ?_
  rintro e w' ⟨rfl, rfl⟩
  obtain ⟨z, hz0⟩ : ∃ z, rest.length = z := ⟨_, rfl⟩
  have HZ0 := hid hz0
  rw [hz0] at hrl ⊢
  have z8 : z = 0 := by omega
  subst z8
  clear hrl hz0
  have hxE := hx2.below H5.out.bel
  have hyE := hy.below H5.out.bel
  have HBE := hid (below_on HB2.out H5.out.bel)
  have I1E := hid (I1.out.below H5.out.bel)
  have I2E := hid (I2.out.below H5.out.bel)
  have n1 : ¬ w1.heap.size = w.heap.size := fun e => hne e.symm
  have n2 : ¬ w.heap.size = w1.heap.size := hne
  have HcD := hid (H5.out.cur.below (below_drew8 _))
  have zf := hxE.free
  obtain ⟨d0, d1, d2, d3, d4, d5, d6, d7, d8, d9⟩ :=  hxE.ten
  obtain ⟨f0, f1, f2, f3, f4, f5⟩ := hyE.six
  go_upto_region 11 with fail
  go_region_held3 (fun w' => w'.cell? ⟨w1.heap.size, 0, none⟩ = some (.int .i64 C) ∧ w'.cell? ⟨w1.heap.size, 1, none⟩ = some (.int .i64 F) ∧ w'.cell? ⟨w1.heap.size, 2, none⟩ = some (.bool H) ∧ w'.cell? ⟨w1.heap.size, 3, none⟩ = some (.int .u64 X) ∧ w'.cell? ⟨w1.heap.size, 4, none⟩ = some (.slice a1 v.length c1) ∧ w'.cell? ⟨w1.heap.size, 5, none⟩ = some (.slice a2 m.length c2)) (go_keep) (first
    | (go_at_call 38; refine HcD.out.err.mono ?_; rintro e w' ⟨rfl, rfl⟩)
    | fail)
  go_wp2_with fail
  have hkk := hxE.set10 (.int .i64 25) (.int .u64 0) (.int .u64 0) (.int .i64 C) (.int .i64 F) (.bool H) (.int .u64 X) (.slice a1 v.length c1) (.slice a2 m.length c2) (.slice none 0 0)
  replace hkk := hkk.drew
  obtain ⟨k0, k1, k2, k3, k4, k5, k6, k7, k8, k9⟩ := hkk.ten
  refine bodyPost_ret (v := .tuple #[.agg #[.int .i64 25, .int .u64 0, .int .u64 0, .int .i64 C, .int .i64 F, .bool H, .int .u64 X, .slice a1 v.length c1, .slice a2 m.length c2, .slice none 0 0], .int .i64 0]) (by simp [results, Tryz.results99, go_sem, k0, k1, k2, k3, k4, k5, k6, k7, k8, k9]) rfl (.inr ⟨⟨C, F, H, X, v, m⟩, a1, c1, a2, c2, HS.out, rfl, ?_, ?_, ?_, HMC.out, HN1.out, HN2.out⟩)
  · with_reducible refine Below.drew ?_
    repeat (with_reducible refine Below.setCell ?_ (by simp) _)
    exact HBE.out
  · refine Ints.below ?_ (below_drew8 _)
    repeat (refine Ints.apart ?_ _ HN1'.out)
    exact I1E.out
  · refine Ints.below ?_ (below_drew8 _)
    repeat (refine Ints.apart ?_ _ HN2'.out)
    exact I2E.out
end Go.Proofs.YtdjlbejhphbcoaaGreat
namespace Go.Proofs.YtdjlbejhphbcoaaGreat
open Go.RowKit
set_option linter.unusedVariables false

theorem readSet_any (b : List Int) (a : Option Addr) (c : Nat) (hbl : b.length ≤ 100000) (hbc : b.length ≤ c) (hc : c ≤ 9223372036854775807) (ho : Octets b) (w : World) (hI : Ints .u8 w a b) :
    Calls Tryz.prog 99 #[.slice a b.length c] w (SetPost12 (set12 b) w) := by
  cases hq : decL b with
  | error q => exact readSet_no b a c hbc hc ho w hI q hq
  | ok o =>
    have hn := (dec_right hq ho).2.1
    have h0 : 0 < b.length := by have := (dec_right hq ho).2.2.1; have h1 := congrArg List.length this; rw [oxmBytes_length, List.length_take] at h1; omega
    obtain ⟨M, off, rfl, _⟩ := hI 0 h0
    by_cases hw : wset12 (ox12 o) = 0
    · by_cases h8 : o.n + 8 ≤ b.length
      · exact readSet_g_ge b M off c hbl hbc hc ho w hI o hq hw h8 (by omega)
      · by_cases hz : b.length ≤ o.n
        · by_cases hcn : c = o.n
          · exact readSet_g_cap b M off c hbl hbc hc ho w hI o hq hw hz hcn
          · exact readSet_g_zero b M off c hbl hbc hc ho w hI o hq hw hz hcn
        · cases hzz : zeros (b.drop o.n)
          · exact readSet_g_no b M off c hbl hbc hc ho w hI o hq hw ⟨by omega, by omega⟩ (by omega) hzz
          · exact readSet_g_yes b M off c hbl hbc hc ho w hI o hq hw ⟨by omega, by omega⟩ (by omega) hzz
    · by_cases h8 : o.n + 8 ≤ b.length
      · exact readSet_b_ge b M off c hbl hbc hc ho w hI o hq hw h8 (by omega)
      · by_cases hz : b.length ≤ o.n
        · by_cases hcn : c = o.n
          · exact readSet_b_cap b M off c hbl hbc hc ho w hI o hq hw hz hcn
          · exact readSet_b_zero b M off c hbl hbc hc ho w hI o hq hw hz hcn
        · exact readSet_b_mid b M off c hbl hbc hc ho w hI o hq hw ⟨by omega, by omega⟩ (by omega)
end Go.Proofs.YtdjlbejhphbcoaaGreat
