/- Put together out of several texts. -/
import Derived.Test.YtdjlbejhphbcoaaGreatR22
import Derived.Test.YtdjlbejhphbcoaaGreatR10
namespace Go.Proofs.YtdjlbejhphbcoaaGreat
open Go.RowKit
set_option linter.unusedVariables false

theorem read12_any (t : Int) (x : List Int) (a : Option Addr) (c : Nat) (hbl : x.length ≤ 100000) (hbc : x.length ≤ c) (hc : c ≤ 9223372036854775807) (ho : Octets x) (h4 : 4 ≤ x.length) (hm : (4 + x.length) % 8 = 0) (w : World) (hI : Ints .u8 w a x) (ht : -9223372036854775808 ≤ t ∧ t ≤ 9223372036854775807) :
    Calls Tryz.prog 56 #[.agg #[.int .i64 t, .slice a x.length c]] w (ReadPost12 (read12 t x) w) := by
  by_cases h25 : t = 25
  · exact read12_set t x a c hbl hbc hc ho h4 w hI h25
  · cases hr : row12 t with
    | none => exact read12_none t x a c hbl hbc hc ho h4 w hI hr h25
    | some l =>
      by_cases hx : t = 65535
      · have hl : l = [4] := by rw [hx] at hr; exact (Option.some.inj hr).symm
        have hs : sizeL l ≤ x.length := by rw [hl]; simpa [sizeL] using h4
        cases hg : getL l x with
        | error q =>
          exfalso
          rw [hl] at hg
          unfold getL at hg
          rw [if_neg (by simpa using h4), if_pos (by decide)] at hg
          simp [getL, Except.map] at hg
        | ok ns => exact read12_exp t x a c hbl hbc hc ho h4 hm w hI ht l ns hr h25 hx hg
      · by_cases hxl : x.length = sizeL l
        · cases hg : getL l x with
          | error q =>
            have := getL_err12 hg (by omega)
            subst this
            exact read12_odd t x a c hbl hbc hc ho h4 hm w hI ht l hr h25 hx hxl hg
          | ok ns => exact read12_ok t x a c hbl hbc hc ho h4 hm w hI ht l ns hr h25 hx hxl hg
        · exact read12_size t x a c hbl hbc hc ho h4 w hI l hr h25 hx hxl
theorem one_facts12 {b : List Int} {t : Int} {x : List Int} {n : Nat} (ho : Octets b) (h : oneL 8 8 false 514 514 b = .ok (t, x, n)) : 4 ≤ x.length ∧ (4 + x.length) % 8 = 0 ∧ 0 ≤ t ∧ t < 65536 ∧ x.length ≤ 65531 ∧ Octets x := by
  obtain ⟨hw, h4, hk⟩ := write_one (by omega) ho h
  unfold writeL at hw
  split at hw
  · rename_i c
    obtain ⟨c1, c2, c3, c4⟩ := c
    have hz : zer 8 false (4 + x.length) = 0 := by unfold zer; simp
    rw [hz, List.replicate_zero, List.append_nil, List.append_assoc] at hw
    have hbk := (Except.ok.inj hw).symm
    unfold lenOk at c1
    simp at c1
    refine ⟨by omega, by omega, c2, c3, by omega, ?_⟩
    intro y hy
    refine ho.take n y ?_
    rw [hbk]
    simp [hy]
  · cases hw
/-- what bytes as an action come to -/
def DecPost12 (b : List Int) (w : World) (e : Ending) (w' : World) : Prop :=
  (∃ q, dec12 b = .error q ∧ q ≠ 0 ∧ e = .returned (.tuple #[zero12, .int .i64 0, .int .i64 q]) ∧ Below w.heap.size w w') ∨
  (∃ (g : Ent12) (n : Nat), dec12 b = .ok (g.act, n) ∧ e = .returned (.tuple #[g.val, .int .i64 n, .int .i64 0]) ∧ Below w.heap.size w w' ∧ ActIn w' g ∧ New8 w g.va ∧ New8 w g.ma ∧ New8 w g.da)
theorem act_in12 {w : World} {g : Ent12} {x : List Int} (h : act12 g.act = some x) (hI : g.act.In) (iv : Ints .u8 w g.va g.o.v) (im : Ints .u8 w g.ma g.o.m) (id : Ints .u8 w g.da g.d) (ov : Octets g.o.v) (om : Octets g.o.m) (od : Octets g.d) (cm : g.o.m.length ≤ g.mc) : ActIn w g := by
  obtain ⟨b, hb, hw, hx, hl, h8, h9, h10, h11, h12⟩ := act_write h
  have e : p256 8 = 18446744073709551616 := by decide
  have hA := hI.A
  have hB := hI.B
  rw [e] at hA hB
  have hA' : 0 ≤ g.A ∧ g.A < 18446744073709551616 := hA
  have hB' : 0 ≤ g.B ∧ g.B < 18446744073709551616 := hB
  have hT : 0 ≤ g.T ∧ g.T < 65536 := ⟨h11, h12⟩
  by_cases h25 : g.T = 25
  · obtain ⟨_, _, hd, hs, _⟩ := body_25 hb h25
    have hr : right10 g.o = true := by
      unfold setOk12 at hs
      simp only [Bool.and_eq_true] at hs
      exact hs.2
    have ft := right_facts hr
    have hsm := (bytes10_small hr).2
    have hbl : (bytes10 g.o).length = 4 + behind8 g.o.C g.o.v.length g.o.m.length := oxmBytes_length _ _ _ _ _ _
    have hbe : g.o.v.length + g.o.m.length ≤ behind8 g.o.C g.o.v.length g.o.m.length := by unfold behind8; split <;> omega
    have hd' : g.d = [] := hd
    have c0 := ft.cls
    have f0 := ft.f0
    have f1 := ft.f1
    have x1 := ft.x1
    have hX := hI.X
    have hX' : 0 ≤ g.o.X := hX
    exact ⟨by omega, by omega, by omega, by rcases c0 with h | h <;> omega, by omega, by omega, by omega, by omega, by rw [hd']; simp, iv, im, id, ov, om, od, cm⟩
  · obtain ⟨w', p, hr, h1, h2, h3, h4, h5, h6, h7, hp, hc, hbb⟩ := body_row hb h25
    have ho : g.o = noOx := h1
    have h7' : g.d.length ≤ 65520 := h7
    exact ⟨by omega, by omega, by omega, by rw [ho]; simp [noOx], by rw [ho]; simp [noOx], by rw [ho]; exact zero_in, by rw [ho]; simp [noOx], by rw [ho]; simp [noOx], by omega, iv, im, id, ov, om, od, cm⟩
theorem item_box12 (w : World) (t : Int) (a : Option Addr) (n c : Nat) : ∃ W, w.alloc (.cells #[.int .i64 t, .slice a n c] 86) = W ∧ Below w.heap.size w W ∧ BoxL W w.heap.size [.int .i64 t, .slice a n c] := ⟨_, rfl, below_alloc _ _, BoxL.new _ _ _⟩
set_option maxRecDepth 100000 in
set_option maxHeartbeats 4000000 in
theorem actDecode_any (b : List Int) (a : Option Addr) (c : Nat) (w : World) (hH : Holds w a c b) :
    Calls Tryz.prog 16 #[.slice a b.length c] w (DecPost12 b w) := by
  obtain ⟨W, hW, hbW, hx⟩ := act_box w 0 0 0 0 0 false 0 none 0 0 none 0 0 none 0 0
  have HW := hid hW
  have HB := hid hbW
  have ONE := hid (one_any W 8 8 false 514 514 ⟨by decide, by decide, by decide, by decide, by decide, by decide⟩ b a c (hH.below hbW))
  have HO := hid hH.oct
  obtain ⟨r, hr⟩ : ∃ r, oneL 8 8 false 514 514 b = r := ⟨_, rfl⟩
  rw [hr] at ONE
  have HR := hid hr
  have hxl := hx.lt
  clear hH hW hbW hr
  rcases r with q | ⟨t, x, n⟩
  · have HD : Hid (dec12 b = .error q) := by show _ = _; rw [dec12_read, HR.out]
    have HQ : Hid (q ≠ 0) := oneL_err (by decide) (by decide) HR.out
    go_enter Tryz.func16, Tryz.ntmps16
    go_wp2_with fail
    rw [HW.out]
    refine ONE.out.mono ?_
    rintro e w1 ⟨rfl, hb1⟩
    obtain ⟨W2, hW2, hbW2, hy⟩ := item_box12 w1 0 none 0 0
    have HW2 := hid hW2
    have hx2 := (hx.below hb1).below hbW2
    have HBE := hid (below_on (below_on HB.out hb1) hbW2)
    have q1 : (q != 0) = true := by simpa using HQ.out
    clear hW2 hbW2 hb1 hx
    go_upto_region 2 with fail
    rw [HW2.out]
    have z := hx2.free
    obtain ⟨d0, d1, d2, d3, d4, d5, d6, d7, d8, d9⟩ :=  hx2.ten
    go_wp2_with fail
    have hkk := hx2.set10 (.int .i64 0) (.int .u64 0) (.int .u64 0) (.int .i64 0) (.int .i64 0) (.bool false) (.int .u64 0) (.slice none 0 0) (.slice none 0 0) (.slice none 0 0)
    obtain ⟨k0, k1, k2, k3, k4, k5, k6, k7, k8, k9⟩ := hkk.ten
    refine bodyPost_ret (v := .tuple #[zero12, .int .i64 0, .int .i64 q]) (by simp [results, Tryz.results16, go_sem, zero12, k0, k1, k2, k3, k4, k5, k6, k7, k8, k9]) rfl (.inl ⟨q, HD.out, HQ.out, rfl, ?_⟩)
    repeat (with_reducible refine Below.setCell ?_ (by simp) _)
    exact HBE.out
  · obtain ⟨x4, xm, t0, t1, xl, ox⟩ := one_facts12 HO.out HR.out
    have RD := hid (fun (V : World) (a2 : Option Addr) (c2 : Nat) (h1 : x.length ≤ c2) (h2 : c2 ≤ 9223372036854775807) (i2 : Ints .u8 V a2 x) => read12_any t x a2 c2 (by omega) h1 h2 ox x4 xm V i2 (by omega))
    clear x4 xm t0 t1 xl ox
    go_enter Tryz.func16, Tryz.ntmps16
    go_wp2_with fail
    rw [HW.out]
    refine ONE.out.mono ?_
    rintro e w1 ⟨a2, c2, rfl, h1, h2, i2, _, hb1⟩
    obtain ⟨W2, hW2, hbW2, hy⟩ := item_box12 w1 t a2 x.length c2
    have HW2 := hid hW2
    have hx2 := (hx.below hb1).below hbW2
    have HB2 := hid (below_on (below_on HB.out hb1) hbW2)
    have RR := hid (RD.out W2 a2 c2 h1 h2 (i2.below hbW2))
    obtain ⟨f0, f1⟩ := hy.two
    clear hW2 hbW2 hb1 hx hy i2 RD h1 h2
    go_upto_region 2 with fail
    rw [HW2.out]
    go_wp2_with fail
    refine RR.out.mono ?_
    rintro e w3 (⟨q, hq, hq0, ⟨T, A, B, C, F, H, X, va, vl, vc, ma, ml, mc, da, dl, dc, rfl⟩, hb3⟩ | ⟨g, hq, rfl, hb3, iv, im, idd, cm, n1, n2, n3⟩)
    · have HD : Hid (dec12 b = .error q) := by show _ = _; rw [dec12_read, HR.out]; simp only; rw [hq]
      have HQ := hid hq0
      obtain ⟨W4, hW4, hbW4, hz⟩ := act_box w3 T A B C F H X va vl vc ma ml mc da dl dc
      have HW4 := hid hW4
      have hx4 := (hx2.below hb3).below hbW4
      have HBE := hid (below_on (below_on HB2.out hb3) hbW4)
      have q1 : (q != 0) = true := by simpa using hq0
      clear hW4 hbW4 hb3 hx2 hz hq hq0 f0 f1
      go_upto_region 5 with fail
      rw [HW4.out]
      have z := hx4.free
      obtain ⟨d0, d1, d2, d3, d4, d5, d6, d7, d8, d9⟩ :=  hx4.ten
      go_wp2_with fail
      have hkk := hx4.set10 (.int .i64 0) (.int .u64 0) (.int .u64 0) (.int .i64 0) (.int .i64 0) (.bool false) (.int .u64 0) (.slice none 0 0) (.slice none 0 0) (.slice none 0 0)
      obtain ⟨k0, k1, k2, k3, k4, k5, k6, k7, k8, k9⟩ := hkk.ten
      refine bodyPost_ret (v := .tuple #[zero12, .int .i64 0, .int .i64 q]) (by simp [results, Tryz.results16, go_sem, zero12, k0, k1, k2, k3, k4, k5, k6, k7, k8, k9]) rfl (.inl ⟨q, HD.out, HQ.out, rfl, ?_⟩)
      repeat (with_reducible refine Below.setCell ?_ (by simp) _)
      exact HBE.out
    · have HD : Hid (dec12 b = .ok (g.act, n)) := by show _ = _; rw [dec12_read, HR.out]; simp only; rw [hq]
      obtain ⟨hac, _, _, _, hin, o1, o2, o3⟩ := dec_act HD.out HO.out
      have HIN := hid (fun V (jv : Ints .u8 V g.va g.o.v) (jm : Ints .u8 V g.ma g.o.m) (jd : Ints .u8 V g.da g.d) => act_in12 hac hin jv jm jd o1 o2 o3 cm)
      obtain ⟨T, A, B, ⟨C, F, H, X, v, m⟩, va, vc, ma, mc, d, da, dc⟩ := g
      unfold Ent12.val
      simp only at iv im idd n1 n2 n3 HIN ⊢
      obtain ⟨W4, hW4, hbW4, hz⟩ := act_box w3 T A B C F H X va v.length vc ma m.length mc da d.length dc
      have HW4 := hid hW4
      have hx4 := (hx2.below hb3).below hbW4
      have hz4 := hz
      have HBE := hid (below_on (below_on HB2.out hb3) hbW4)
      have J1 := hid (iv.below hbW4)
      have J2 := hid (im.below hbW4)
      have J3 := hid (idd.below hbW4)
      have s2 := HB2.out.size
      have hx2l := hx2.lt
      have s3 := hb3.size
      have N1 : Hid (New8 w va) := fun y hy => by have := n1 y hy; omega
      have N2 : Hid (New8 w ma) := fun y hy => by have := n2 y hy; omega
      have N3 : Hid (New8 w da) := fun y hy => by have := n3 y hy; omega
      have M1 : Hid (∀ y : Addr, va = some y → y.block ≠ w.heap.size) := fun y hy => by have := n1 y hy; omega
      have M2 : Hid (∀ y : Addr, ma = some y → y.block ≠ w.heap.size) := fun y hy => by have := n2 y hy; omega
      have M3 : Hid (∀ y : Addr, da = some y → y.block ≠ w.heap.size) := fun y hy => by have := n3 y hy; omega
      have m1 : ¬ w3.heap.size = w.heap.size := by omega
      have m2 : ¬ w.heap.size = w3.heap.size := by omega
      clear hW4 hbW4 hb3 hx2 hz hq f0 f1 iv im idd n1 n2 n3 hac hin o1 o2 o3 cm
      go_upto_region 5 with fail
      rw [HW4.out]
      have z := hx4.free
      obtain ⟨d0, d1, d2, d3, d4, d5, d6, d7, d8, d9⟩ :=  hx4.ten
      obtain ⟨u0, u1, u2, u3, u4, u5, u6, u7, u8, u9⟩ := hz4.ten
      go_wp2_with fail
      have hkk := hx4.set10 (.int .i64 T) (.int .u64 A) (.int .u64 B) (.int .i64 C) (.int .i64 F) (.bool H) (.int .u64 X) (.slice va v.length vc) (.slice ma m.length mc) (.slice da d.length dc)
      obtain ⟨k0, k1, k2, k3, k4, k5, k6, k7, k8, k9⟩ := hkk.ten
      refine bodyPost_ret (v := .tuple #[.agg #[.int .i64 T, .int .u64 A, .int .u64 B, .int .i64 C, .int .i64 F, .bool H, .int .u64 X, .slice va v.length vc, .slice ma m.length mc, .slice da d.length dc], .int .i64 n, .int .i64 0]) (by simp [results, Tryz.results16, go_sem, k0, k1, k2, k3, k4, k5, k6, k7, k8, k9]) rfl (.inr ⟨⟨T, A, B, ⟨C, F, H, X, v, m⟩, va, vc, ma, mc, d, da, dc⟩, n, HD.out, rfl, ?_, HIN.out _ ?_ ?_ ?_, N1.out, N2.out, N3.out⟩)
      · repeat (with_reducible refine Below.setCell ?_ (by simp) _)
        exact HBE.out
      · repeat (refine Ints.apart ?_ _ M1.out)
        exact J1.out
      · repeat (refine Ints.apart ?_ _ M2.out)
        exact J2.out
      · repeat (refine Ints.apart ?_ _ M3.out)
        exact J3.out
end Go.Proofs.YtdjlbejhphbcoaaGreat
