/- Put together out of several texts. -/
import Derived.Test.YtdjlbejhphbcoaaGreatV18
import Derived.Test.YtdjlbejhphbcoaaGreatV10
import Derived.Test.YtdjlbejhphbcoaaGreatV17
import Derived.Test.YtdjlbejhphbcoaaGreatV4
import Derived.Test.YtdjlbejhphbcoaaGreatV6
namespace Go.Proofs.YtdjlbejhphbcoaaGreat
open Go.RowKit
set_option linter.unusedVariables false

theorem read12_any (t : Int) (x : List Int) (a : Option Addr) (c : Nat) (hbl : x.length ≤ 100000) (hbc : x.length ≤ c) (hc : c ≤ 9223372036854775807) (ho : Octets x) (h4 : 4 ≤ x.length) (hm : (4 + x.length) % 8 = 0) (w : World) (hI : Ints .u8 w a x) (ht : -9223372036854775808 ≤ t ∧ t ≤ 9223372036854775807) :
    Calls Tryz.prog 56 #[.agg #[.int .i64 t, .slice a x.length c]] w (ReadPost12 (read12 t x) w) := by
  by_cases h25 : t = 25
  · exact read12_set t x a c hbl hbc hc ho h4 w hI h25
  · cases hr : row12 t with
    | none => exact read12_none t x a c hbl hbc hc ho h4 w hI hr h25
    | some l =>
      by_cases hx : t = 65535
      · have hl : l = [4] := by rw [hx] at hr; exact (Option.some.inj hr).symm
        have hs : sizeL l ≤ x.length := by rw [hl]; simpa [sizeL] using h4
        cases hg : getL l x with
        | error q =>
          exfalso
          rw [hl] at hg
          unfold getL at hg
          rw [if_neg (by simpa using h4), if_pos (by decide)] at hg
          simp [getL, Except.map] at hg
        | ok ns => exact read12_exp t x a c hbl hbc hc ho h4 hm w hI ht l ns hr h25 hx hg
      · by_cases hxl : x.length = sizeL l
        · cases hg : getL l x with
          | error q =>
            have := getL_err12 hg (by omega)
            subst this
            exact read12_odd t x a c hbl hbc hc ho h4 hm w hI ht l hr h25 hx hxl hg
          | ok ns => exact read12_ok t x a c hbl hbc hc ho h4 hm w hI ht l ns hr h25 hx hxl hg
        · exact read12_size t x a c hbl hbc hc ho h4 w hI l hr h25 hx hxl
theorem one_facts12 {b : List Int} {t : Int} {x : List Int} {n : Nat} (ho : Octets b) (h : oneL 8 8 false 514 514 b = .ok (t, x, n)) : 4 ≤ x.length ∧ (4 + x.length) % 8 = 0 ∧ 0 ≤ t ∧ t < 65536 ∧ x.length ≤ 65531 ∧ Octets x := by
  obtain ⟨hw, h4, hk⟩ := write_one (by omega) ho h
  unfold writeL at hw
  split at hw
  · rename_i c
    obtain ⟨c1, c2, c3, c4⟩ := c
    have hz : zer 8 false (4 + x.length) = 0 := by unfold zer; simp
    rw [hz, List.replicate_zero, List.append_nil, List.append_assoc] at hw
    have hbk := (Except.ok.inj hw).symm
    unfold lenOk at c1
    simp at c1
    refine ⟨by omega, by omega, c2, c3, by omega, ?_⟩
    intro y hy
    refine ho.take n y ?_
    rw [hbk]
    simp [hy]
  · cases hw
/-- what bytes as an action come to -/
def DecPost12 (b : List Int) (w : World) (e : Ending) (w' : World) : Prop :=
  (∃ q, dec12 b = .error q ∧ q ≠ 0 ∧ e = .returned (.tuple #[zero12, .int .i64 0, .int .i64 q]) ∧ Below w.heap.size w w') ∨
  (∃ (g : Ent12) (n : Nat), dec12 b = .ok (g.act, n) ∧ e = .returned (.tuple #[g.val, .int .i64 n, .int .i64 0]) ∧ Below w.heap.size w w' ∧ ActIn w' g ∧ New8 w g.va ∧ New8 w g.ma ∧ New8 w g.da)
theorem act_in12 {w : World} {g : Ent12} {x : List Int} (h : act12 g.act = some x) (hI : g.act.In) (iv : Ints .u8 w g.va g.o.v) (im : Ints .u8 w g.ma g.o.m) (id : Ints .u8 w g.da g.d) (ov : Octets g.o.v) (om : Octets g.o.m) (od : Octets g.d) (cm : g.o.m.length ≤ g.mc) : ActIn w g := by
  obtain ⟨b, hb, hw, hx, hl, h8, h9, h10, h11, h12⟩ := act_write h
  have e : p256 8 = 18446744073709551616 := by decide
  have hA := hI.A
  have hB := hI.B
  rw [e] at hA hB
  have hA' : 0 ≤ g.A ∧ g.A < 18446744073709551616 := hA
  have hB' : 0 ≤ g.B ∧ g.B < 18446744073709551616 := hB
  have hT : 0 ≤ g.T ∧ g.T < 65536 := ⟨h11, h12⟩
  by_cases h25 : g.T = 25
  · obtain ⟨_, _, hd, hs, _⟩ := body_25 hb h25
    have hr : right10 g.o = true := by
      unfold setOk12 at hs
      simp only [Bool.and_eq_true] at hs
      exact hs.2
    have ft := right_facts hr
    have hsm := (bytes10_small hr).2
    have hbl : (bytes10 g.o).length = 4 + behind8 g.o.C g.o.v.length g.o.m.length := oxmBytes_length _ _ _ _ _ _
    have hbe : g.o.v.length + g.o.m.length ≤ behind8 g.o.C g.o.v.length g.o.m.length := by unfold behind8; split <;> omega
    have hd' : g.d = [] := hd
    have c0 := ft.cls
    have f0 := ft.f0
    have f1 := ft.f1
    have x1 := ft.x1
    have hX := hI.X
    have hX' : 0 ≤ g.o.X := hX
    exact ⟨by omega, by omega, by omega, by rcases c0 with h | h <;> omega, by omega, by omega, by omega, by omega, by rw [hd']; simp, iv, im, id, ov, om, od, cm⟩
  · obtain ⟨w', p, hr, h1, h2, h3, h4, h5, h6, h7, hp, hc, hbb⟩ := body_row hb h25
    have ho : g.o = noOx := h1
    have h7' : g.d.length ≤ 65520 := h7
    exact ⟨by omega, by omega, by omega, by rw [ho]; simp [noOx], by rw [ho]; simp [noOx], by rw [ho]; exact zero_in, by rw [ho]; simp [noOx], by rw [ho]; simp [noOx], by omega, iv, im, id, ov, om, od, cm⟩
theorem item_box12 (w : World) (t : Int) (a : Option Addr) (n c : Nat) : ∃ W, w.alloc (.cells #[.int .i64 t, .slice a n c] 86) = W ∧ Below w.heap.size w W ∧ BoxL W w.heap.size [.int .i64 t, .slice a n c] := ⟨_, rfl, below_alloc _ _, BoxL.new _ _ _⟩
set_option maxRecDepth 100000 in
set_option maxHeartbeats 4000000 in
theorem actDecode_any (b : List Int) (a : Option Addr) (c : Nat) (w : World) (hH : Holds w a c b) :
    Calls Tryz.prog 16 #[.slice a b.length c] w (DecPost12 b w) := by
  obtain ⟨W, hW, hbW, hx⟩ := act_box w 0 0 0 0 0 false 0 none 0 0 none 0 0 none 0 0
  have HW := hid hW
  have HB := hid hbW
  have ONE := hid (one_any W 8 8 false 514 514 ⟨by decide, by decide, by decide, by decide, by decide, by decide⟩ b a c (hH.below hbW))
  have HO := hid hH.oct
  obtain ⟨r, hr⟩ : ∃ r, oneL 8 8 false 514 514 b = r := ⟨_, rfl⟩
  rw [hr] at ONE
  have HR := hid hr
  have hxl := hx.lt
  clear hH hW hbW hr
  rcases r with q | ⟨t, x, n⟩
  · have HD : Hid (dec12 b = .error q) := by show _ = _; rw [dec12_read, HR.out]
    have HQ : Hid (q ≠ 0) := oneL_err (by decide) (by decide) HR.out
    go_enter Tryz.func16, Tryz.ntmps16
    go_wp2_with fail
    rw [HW.out]
    refine ONE.out.mono ?_
    rintro e w1 ⟨rfl, hb1⟩
    obtain ⟨W2, hW2, hbW2, hy⟩ := item_box12 w1 0 none 0 0
    have HW2 := hid hW2
    have hx2 := (hx.below hb1).below hbW2
    have HBE := hid (below_on (below_on HB.out hb1) hbW2)
    have q1 : (q != 0) = true := by simpa using HQ.out
    clear hW2 hbW2 hb1 hx
    go_upto_region 2 with fail
    rw [HW2.out]
    have z := hx2.free
    obtain ⟨d0, d1, d2, d3, d4, d5, d6, d7, d8, d9⟩ :=  hx2.ten
    go_wp2_with fail
    have hkk := hx2.set10 (.int .i64 0) (.int .u64 0) (.int .u64 0) (.int .i64 0) (.int .i64 0) (.bool false) (.int .u64 0) (.slice none 0 0) (.slice none 0 0) (.slice none 0 0)
    obtain ⟨k0, k1, k2, k3, k4, k5, k6, k7, k8, k9⟩ := hkk.ten
    refine bodyPost_ret (v := .tuple #[zero12, .int .i64 0, .int .i64 q]) (by simp [results, Tryz.results16, go_sem, zero12, k0, k1, k2, k3, k4, k5, k6, k7, k8, k9]) rfl (.inl ⟨q, HD.out, HQ.out, rfl, ?_⟩)
    repeat (with_reducible refine Below.setCell ?_ (by simp) _)
    exact HBE.out
  · obtain ⟨x4, xm, t0, t1, xl, ox⟩ := one_facts12 HO.out HR.out
    have RD := hid (fun (V : World) (a2 : Option Addr) (c2 : Nat) (h1 : x.length ≤ c2) (h2 : c2 ≤ 9223372036854775807) (i2 : Ints .u8 V a2 x) => read12_any t x a2 c2 (by omega) h1 h2 ox x4 xm V i2 (by omega))
    clear x4 xm t0 t1 xl ox
    go_enter Tryz.func16, Tryz.ntmps16
    go_wp2_with fail
    rw [HW.out]
    refine ONE.out.mono ?_
    rintro e w1 ⟨a2, c2, rfl, h1, h2, i2, _, hb1⟩
    obtain ⟨W2, hW2, hbW2, hy⟩ := item_box12 w1 t a2 x.length c2
    have HW2 := hid hW2
    have hx2 := (hx.below hb1).below hbW2
    have HB2 := hid (below_on (below_on HB.out hb1) hbW2)
    have RR := hid (RD.out W2 a2 c2 h1 h2 (i2.below hbW2))
    obtain ⟨f0, f1⟩ := hy.two
    clear hW2 hbW2 hb1 hx hy i2 RD h1 h2
    go_upto_region 2 with fail
    rw [HW2.out]
    go_wp2_with fail
    refine RR.out.mono ?_
    rintro e w3 (⟨q, hq, hq0, ⟨T, A, B, C, F, H, X, va, vl, vc, ma, ml, mc, da, dl, dc, rfl⟩, hb3⟩ | ⟨g, hq, rfl, hb3, iv, im, idd, cm, n1, n2, n3⟩)
    · have HD : Hid (dec12 b = .error q) := by show _ = _; rw [dec12_read, HR.out]; simp only; rw [hq]
      have HQ := hid hq0
      obtain ⟨W4, hW4, hbW4, hz⟩ := act_box w3 T A B C F H X va vl vc ma ml mc da dl dc
      have HW4 := hid hW4
      have hx4 := (hx2.below hb3).below hbW4
      have HBE := hid (below_on (below_on HB2.out hb3) hbW4)
      have q1 : (q != 0) = true := by simpa using hq0
      clear hW4 hbW4 hb3 hx2 hz hq hq0 f0 f1
      go_upto_region 5 with fail
      rw [HW4.out]
      have z := hx4.free
      obtain ⟨d0, d1, d2, d3, d4, d5, d6, d7, d8, d9⟩ :=  hx4.ten
      go_wp2_with fail
      have hkk := hx4.set10 (.int .i64 0) (.int .u64 0) (.int .u64 0) (.int .i64 0) (.int .i64 0) (.bool false) (.int .u64 0) (.slice none 0 0) (.slice none 0 0) (.slice none 0 0)
      obtain ⟨k0, k1, k2, k3, k4, k5, k6, k7, k8, k9⟩ := hkk.ten
      refine bodyPost_ret (v := .tuple #[zero12, .int .i64 0, .int .i64 q]) (by simp [results, Tryz.results16, go_sem, zero12, k0, k1, k2, k3, k4, k5, k6, k7, k8, k9]) rfl (.inl ⟨q, HD.out, HQ.out, rfl, ?_⟩)
      repeat (with_reducible refine Below.setCell ?_ (by simp) _)
      exact HBE.out
    · have HD : Hid (dec12 b = .ok (g.act, n)) := by show _ = _; rw [dec12_read, HR.out]; simp only; rw [hq]
      obtain ⟨hac, _, _, _, hin, o1, o2, o3⟩ := dec_act HD.out HO.out
      have HIN := hid (fun V (jv : Ints .u8 V g.va g.o.v) (jm : Ints .u8 V g.ma g.o.m) (jd : Ints .u8 V g.da g.d) => act_in12 hac hin jv jm jd o1 o2 o3 cm)
      obtain ⟨T, A, B, ⟨C, F, H, X, v, m⟩, va, vc, ma, mc, d, da, dc⟩ := g
      unfold Ent12.val
      simp only at iv im idd n1 n2 n3 HIN ⊢
      obtain ⟨W4, hW4, hbW4, hz⟩ := act_box w3 T A B C F H X va v.length vc ma m.length mc da d.length dc
      have HW4 := hid hW4
      have hx4 := (hx2.below hb3).below hbW4
      have hz4 := hz
      have HBE := hid (below_on (below_on HB2.out hb3) hbW4)
      have J1 := hid (iv.below hbW4)
      have J2 := hid (im.below hbW4)
      have J3 := hid (idd.below hbW4)
      have s2 := HB2.out.size
      have hx2l := hx2.lt
      have s3 := hb3.size
      have N1 : Hid (New8 w va) := fun y hy => by have := n1 y hy; omega
      have N2 : Hid (New8 w ma) := fun y hy => by have := n2 y hy; omega
      have N3 : Hid (New8 w da) := fun y hy => by have := n3 y hy; omega
      have M1 : Hid (∀ y : Addr, va = some y → y.block ≠ w.heap.size) := fun y hy => by have := n1 y hy; omega
      have M2 : Hid (∀ y : Addr, ma = some y → y.block ≠ w.heap.size) := fun y hy => by have := n2 y hy; omega
      have M3 : Hid (∀ y : Addr, da = some y → y.block ≠ w.heap.size) := fun y hy => by have := n3 y hy; omega
      have m1 : ¬ w3.heap.size = w.heap.size := by omega
      have m2 : ¬ w.heap.size = w3.heap.size := by omega
      clear hW4 hbW4 hb3 hx2 hz hq f0 f1 iv im idd n1 n2 n3 hac hin o1 o2 o3 cm
      go_upto_region 5 with fail
      rw [HW4.out]
      have z := hx4.free
      obtain ⟨d0, d1, d2, d3, d4, d5, d6, d7, d8, d9⟩ :=  hx4.ten
      obtain ⟨u0, u1, u2, u3, u4, u5, u6, u7, u8, u9⟩ := hz4.ten
      go_wp2_with fail
      have hkk := hx4.set10 (.int .i64 T) (.int .u64 A) (.int .u64 B) (.int .i64 C) (.int .i64 F) (.bool H) (.int .u64 X) (.slice va v.length vc) (.slice ma m.length mc) (.slice da d.length dc)
      obtain ⟨k0, k1, k2, k3, k4, k5, k6, k7, k8, k9⟩ := hkk.ten
      refine bodyPost_ret (v := .tuple #[.agg #[.int .i64 T, .int .u64 A, .int .u64 B, .int .i64 C, .int .i64 F, .bool H, .int .u64 X, .slice va v.length vc, .slice ma m.length mc, .slice da d.length dc], .int .i64 n, .int .i64 0]) (by simp [results, Tryz.results16, go_sem, k0, k1, k2, k3, k4, k5, k6, k7, k8, k9]) rfl (.inr ⟨⟨T, A, B, ⟨C, F, H, X, v, m⟩, va, vc, ma, mc, d, da, dc⟩, n, HD.out, rfl, ?_, HIN.out _ ?_ ?_ ?_, N1.out, N2.out, N3.out⟩)
      · repeat (with_reducible refine Below.setCell ?_ (by simp) _)
        exact HBE.out
      · repeat (refine Ints.apart ?_ _ M1.out)
        exact J1.out
      · repeat (refine Ints.apart ?_ _ M2.out)
        exact J2.out
      · repeat (refine Ints.apart ?_ _ M3.out)
        exact J3.out
end Go.Proofs.YtdjlbejhphbcoaaGreat
namespace Go.Proofs.YtdjlbejhphbcoaaGreat
open Go.RowKit
set_option linter.unusedVariables false

theorem same12_iff (a b : Act12) : same12 a b = true ↔ a = b := by
  obtain ⟨T, A, B, o, d⟩ := a
  obtain ⟨T', A', B', o', d'⟩ := b
  have e : sameO o o' = same9 o o' := rfl
  simp only [same12, Bool.and_eq_true, beq_iff_eq, Act12.mk.injEq, e, same9_iff, and_assoc]
/-- may it be? as the program asks -/
def right12 (g : Ent12) : Bool := rowB g.T && bare12 g && wrong12 g.act == 0 && (putW (rowP g.T) (nums12 g.act (rowP g.T))).isSome && decide (size12 g.act ≤ 65528)
theorem right12_iff (g : Ent12) : right12 g = true ↔ rowB g.T = true ∧ bare12 g = true ∧ wrong12 g.act = 0 ∧ (putW (rowP g.T) (nums12 g.act (rowP g.T))).isSome = true ∧ size12 g.act ≤ 65528 := by
  unfold right12
  simp [and_assoc]
theorem size8_none : size8 0 0 false 0 [] [] = 0 := by decide
theorem up_ok {n : Nat} (h : n ≤ 60000) : up12 n ≤ 65528 := by unfold up12; omega
/-- what the document asks of an action whose type has a row -/
def cond12 (a : Act12) (w : List Int) : Prop := a.o = noOx ∧ asked12 a.T a.A = 0 ∧ (countL w < 2 → a.B = 0) ∧ (countL w < 1 → a.A = 0) ∧ (a.T ≠ 65535 → a.d = []) ∧ a.d.length % 8 = 0 ∧ a.d.length ≤ 65520
theorem right_row {a : Act12} {w : List Int} (h : row12 a.T = some w) (h25 : a.T ≠ 25) : (act12 a).isSome = true ↔ cond12 a w ∧ (putW w (nums12 a w)).isSome = true := by
  unfold act12 body12
  rw [if_neg h25, h, Option.isSome_map]
  simp only
  unfold cond12
  by_cases hc : a.o = noOx ∧ asked12 a.T a.A = 0 ∧ (countL w < 2 → a.B = 0) ∧ (countL w < 1 → a.A = 0) ∧ (a.T ≠ 65535 → a.d = []) ∧ a.d.length % 8 = 0 ∧ a.d.length ≤ 65520
  · rw [if_pos hc, Option.isSome_map]
    exact ⟨fun h => ⟨hc, h⟩, fun h => h.2⟩
  · rw [if_neg hc]
    exact ⟨fun h => by simp at h, fun h => absurd h.1 hc⟩
theorem right_set {a : Act12} (h25 : a.T = 25) : (act12 a).isSome = true ↔ a.A = 0 ∧ a.B = 0 ∧ a.d = [] ∧ setOk12 a.o = true := by
  unfold act12 body12
  rw [if_pos h25, Option.isSome_map]
  by_cases hc : a.A = 0 ∧ a.B = 0 ∧ a.d = [] ∧ setOk12 a.o = true
  · rw [if_pos hc]
    exact ⟨fun _ => hc, fun _ => rfl⟩
  · rw [if_neg hc]
    exact ⟨fun h => by simp at h, fun h => absurd h hc⟩
theorem wset_ok (o : Ox9) : wset12 o = 0 ↔ setOk12 o = true := by
  unfold wset12 setOk12
  simp only [Bool.and_eq_true, decide_eq_true_eq, Bool.not_eq_true']
  by_cases h1 : o.C = 32768 ∧ 2 < o.F ∧ o.F < 39
  · rw [if_pos h1]
    by_cases h2 : o.H = false ∧ right10 o = true
    · rw [if_pos h2]
      exact ⟨fun _ => ⟨⟨⟨h1.1, h2.1⟩, h1.2⟩, h2.2⟩, fun _ => rfl⟩
    · rw [if_neg h2]
      exact ⟨fun h => by simp at h, fun h => absurd ⟨h.1.1.2, h.2⟩ h2⟩
  · rw [if_neg h1]
    exact ⟨fun h => by simp at h, fun h => absurd ⟨h.1.1.1, h.1.2⟩ h1⟩
theorem bare_set {g : Ent12} (h : g.T = 25) : bare12 g = true ↔ g.A = 0 ∧ g.B = 0 ∧ g.d = [] := by
  unfold bare12
  rw [same12_iff]
  have e : strip12 g = ⟨g.T, g.A, g.B, noOx, none, 0, none, 0, g.d, g.da, g.dc⟩ := by unfold strip12; rw [if_pos h]
  rw [e]
  constructor
  · intro k; injection k with k1 k2 k3 k4 k5; exact ⟨k2, k3, k5⟩
  · rintro ⟨k1, k2, k3⟩; simp only [Ent12.act, none12, k1, k2, k3]
theorem bare_exp {g : Ent12} (h : g.T = 65535) : bare12 g = true ↔ g.B = 0 ∧ g.o = noOx := by
  unfold bare12
  rw [same12_iff]
  have e : strip12 g = ⟨g.T, 0, g.B, g.o, g.va, g.vc, g.ma, g.mc, [], none, 0⟩ := by unfold strip12; rw [if_neg (by omega), if_pos h]
  rw [e]
  constructor
  · intro k; injection k with k1 k2 k3 k4 k5; exact ⟨k3, k4⟩
  · rintro ⟨k1, k2⟩; simp only [Ent12.act, none12, k1, k2]
theorem bare_out {g : Ent12} (h : g.T = 0) : bare12 g = true ↔ g.o = noOx ∧ g.d = [] := by
  unfold bare12
  rw [same12_iff]
  have e : strip12 g = ⟨g.T, 0, 0, g.o, g.va, g.vc, g.ma, g.mc, g.d, g.da, g.dc⟩ := by unfold strip12; rw [if_neg (by omega), if_neg (by omega), if_pos h]
  rw [e]
  constructor
  · intro k; injection k with k1 k2 k3 k4 k5; exact ⟨k4, k5⟩
  · rintro ⟨k1, k2⟩; simp only [Ent12.act, none12, k1, k2]
theorem bare_num {g : Ent12} (h : g.T = 22 ∨ g.T = 21 ∨ g.T = 15 ∨ g.T = 23 ∨ g.T = 17 ∨ g.T = 19 ∨ g.T = 26 ∨ g.T = 20) : bare12 g = true ↔ g.B = 0 ∧ g.o = noOx ∧ g.d = [] := by
  unfold bare12
  rw [same12_iff]
  have e : strip12 g = ⟨g.T, 0, g.B, g.o, g.va, g.vc, g.ma, g.mc, g.d, g.da, g.dc⟩ := by unfold strip12; rw [if_neg (by omega), if_neg (by omega), if_neg (by omega), if_pos h]
  rw [e]
  constructor
  · intro k; injection k with k1 k2 k3 k4 k5; exact ⟨k3, k4, k5⟩
  · rintro ⟨k1, k2, k3⟩; simp only [Ent12.act, none12, k1, k2, k3]
theorem bare_no {g : Ent12} (h : g.T = 11 ∨ g.T = 12 ∨ g.T = 16 ∨ g.T = 18 ∨ g.T = 24 ∨ g.T = 27) : bare12 g = true ↔ g.A = 0 ∧ g.B = 0 ∧ g.o = noOx ∧ g.d = [] := by
  unfold bare12
  rw [same12_iff]
  have e : strip12 g = g := by unfold strip12; rw [if_neg (by omega), if_neg (by omega), if_neg (by omega), if_neg (by omega)]
  rw [e]
  constructor
  · intro k; injection k with k1 k2 k3 k4 k5; exact ⟨k2, k3, k4, k5⟩
  · rintro ⟨k1, k2, k3, k4⟩; simp only [Ent12.act, none12, k1, k2, k3, k4]
theorem size_noOx {g : Ent12} {w : List Int} (hw : row12 g.T = some w) (ho : g.o = noOx) : size12 g.act = up12 (4 + sizeL w + g.d.length) := by
  unfold size12
  have e2 : rowP g.act.T = w := by show rowP g.T = w; simp [rowP, hw]
  have e3 : size8 g.act.o.C g.act.o.F g.act.o.H g.act.o.X g.act.o.v g.act.o.m = 0 := by
    show size8 g.o.C g.o.F g.o.H g.o.X g.o.v g.o.m = 0
    rw [ho]
    exact size8_none
  rw [e2, e3]
  rfl
theorem wrong_row {g : Ent12} (h25 : g.T ≠ 25) (hx : g.T ≠ 65535) : wrong12 g.act = asked12 g.T g.A := by
  unfold wrong12
  rw [if_neg (show ¬ g.act.T = 25 from h25), if_neg (show ¬ g.act.T = 65535 from hx)]
  rfl
theorem right_by_row (g : Ent12) (w : List Int) (hw : row12 g.T = some w) (h25 : g.T ≠ 25) (hk : (bare12 g = true ∧ wrong12 g.act = 0 ∧ size12 g.act ≤ 65528) ↔ cond12 g.act w) : right12 g = true ↔ (act12 g.act).isSome = true := by
  rw [right_row (a := g.act) hw h25, right12_iff, ← hk]
  have e1 : rowB g.T = true := by simp [rowB, hw]
  have e2 : rowP g.T = w := by simp [rowP, hw]
  rw [e1, e2]
  exact ⟨fun ⟨_, h1, h2, h3, h4⟩ => ⟨⟨h1, h2, h4⟩, h3⟩, fun ⟨⟨h1, h2, h4⟩, h3⟩ => ⟨rfl, h1, h2, h3, h4⟩⟩
theorem right_act (g : Ent12) (hd : g.d.length ≤ 100000) : right12 g = (act12 g.act).isSome := by
  rw [Bool.eq_iff_iff]
  by_cases h25 : g.T = 25
  · rw [right12_iff, right_set h25, bare_set h25]
    have e1 : rowB g.T = true := by rw [h25]; decide
    have e2 : rowP g.T = [] := by rw [h25]; decide
    have e3 : putW [] (nums12 g.act []) = some [] := by simp [nums12, countL, putW, rightW, allW, putL]
    have e4 : wrong12 g.act = wset12 g.o := by unfold wrong12; rw [if_pos (show g.act.T = 25 from h25)]; rfl
    rw [e1, e2, e3, e4, wset_ok]
    constructor
    · rintro ⟨_, ⟨h1, h2, h3⟩, h4, _, _⟩
      exact ⟨h1, h2, h3, h4⟩
    · rintro ⟨h1, h2, h3, h4⟩
      refine ⟨rfl, ⟨h1, h2, h3⟩, h4, rfl, ?_⟩
      unfold size12
      have s0 := size8_le g.o.C g.o.F g.o.H g.o.X g.o.v g.o.m
      have e5 : rowP g.act.T = [] := e2
      have e6 : g.act.d = [] := h3
      rw [e5, e6]
      refine up_ok ?_
      show 4 + sizeL [] + size8 g.o.C g.o.F g.o.H g.o.X g.o.v g.o.m + 0 ≤ 60000
      simp [sizeL]
      omega
  · cases hr : row12 g.T with
    | none =>
      have e1 : rowB g.T = false := by simp [rowB, hr, h25]
      have e2 : act12 g.act = none := by
        unfold act12 body12
        rw [if_neg (show ¬ g.act.T = 25 from h25), show row12 g.act.T = none from hr]
        rfl
      rw [right12_iff, e1, e2]
      exact ⟨fun h => by simp at h, fun h => by simp at h⟩
    | some w =>
      refine right_by_row g w hr h25 ?_
      have hsz := fun ho => size_noOx hr ho
      unfold cond12
      by_cases hx : g.T = 65535
      · have hw : w = [4] := by rw [hx] at hr; exact (Option.some.inj hr).symm
        subst hw
        rw [bare_exp hx]
        have e4 : wrong12 g.act = if g.d.length % 8 = 0 then 0 else 514 := by unfold wrong12; rw [if_neg (show ¬ g.act.T = 25 from h25), if_pos (show g.act.T = 65535 from hx)]; rfl
        have e5 : asked12 g.act.T g.act.A = 0 := by show asked12 g.T g.A = 0; rw [hx]; simp [asked12]
        rw [e4, e5]
        constructor
        · rintro ⟨⟨h1, h2⟩, h3, h4⟩
          have h5 : g.d.length % 8 = 0 := by
            by_cases hh : g.d.length % 8 = 0
            · exact hh
            · rw [if_neg hh] at h3; simp at h3
          rw [hsz h2] at h4
          have : g.d.length ≤ 65520 := by unfold up12 at h4; simp [sizeL] at h4; omega
          exact ⟨h2, rfl, fun _ => h1, fun h => absurd h (by decide), fun h => absurd hx h, h5, this⟩
        · rintro ⟨h2, _, h1, _, _, h5, h6⟩
          refine ⟨⟨h1 (by decide), h2⟩, by rw [if_pos (show g.d.length % 8 = 0 from h5)], ?_⟩
          have h6' : g.d.length ≤ 65520 := h6
          have h5' : g.d.length % 8 = 0 := h5
          rw [hsz h2]
          unfold up12
          simp [sizeL]
          omega
      · rw [wrong_row h25 hx]
        have hsmall : g.o = noOx → g.d = [] → size12 g.act ≤ 65528 := by
          intro ho hd0
          rw [hsz ho, hd0]
          have := (row_facts hr).size
          exact up_ok (by simp; omega)
        have fin : ∀ (P : Prop), (P ↔ g.o = noOx ∧ (countL w < 2 → g.B = 0) ∧ (countL w < 1 → g.A = 0) ∧ g.d = []) → ((P ∧ asked12 g.T g.A = 0 ∧ size12 g.act ≤ 65528) ↔ g.act.o = noOx ∧ asked12 g.act.T g.act.A = 0 ∧ (countL w < 2 → g.act.B = 0) ∧ (countL w < 1 → g.act.A = 0) ∧ (g.act.T ≠ 65535 → g.act.d = []) ∧ g.act.d.length % 8 = 0 ∧ g.act.d.length ≤ 65520) := by
          intro P hP
          rw [hP]
          constructor
          · rintro ⟨⟨h1, h2, h3, h4⟩, h5, _⟩
            have h4' : g.act.d = [] := h4
            exact ⟨h1, h5, h2, h3, fun _ => h4, by rw [h4']; rfl, by rw [h4']; simp⟩
          · rintro ⟨h1, h5, h2, h3, h4, _, _⟩
            exact ⟨⟨h1, h2, h3, h4 hx⟩, h5, hsmall h1 (h4 hx)⟩
        refine fin _ ?_
        rcases row_ways hr with ⟨k, rfl⟩ | ⟨k, rfl⟩ | ⟨k, rfl⟩ | ⟨k, rfl⟩ | ⟨k, rfl⟩
        · rw [bare_out k]
          exact ⟨fun ⟨h1, h2⟩ => ⟨h1, fun h => absurd h (by decide), fun h => absurd h (by decide), h2⟩, fun ⟨h1, _, _, h2⟩ => ⟨h1, h2⟩⟩
        · rw [bare_num (by omega)]
          exact ⟨fun ⟨h0, h1, h2⟩ => ⟨h1, fun _ => h0, fun h => absurd h (by decide), h2⟩, fun ⟨h1, h0, _, h2⟩ => ⟨h0 (by decide), h1, h2⟩⟩
        · rw [bare_num (by omega)]
          exact ⟨fun ⟨h0, h1, h2⟩ => ⟨h1, fun _ => h0, fun h => absurd h (by decide), h2⟩, fun ⟨h1, h0, _, h2⟩ => ⟨h0 (by decide), h1, h2⟩⟩
        · rw [bare_no k]
          exact ⟨fun ⟨hA, h0, h1, h2⟩ => ⟨h1, fun _ => h0, fun _ => hA, h2⟩, fun ⟨h1, h0, hA, h2⟩ => ⟨hA (by decide), h0 (by decide), h1, h2⟩⟩
        · rw [bare_num (by omega)]
          exact ⟨fun ⟨h0, h1, h2⟩ => ⟨h1, fun _ => h0, fun h => absurd h (by decide), h2⟩, fun ⟨h1, h0, _, h2⟩ => ⟨h0 (by decide), h1, h2⟩⟩
end Go.Proofs.YtdjlbejhphbcoaaGreat
namespace Go.Proofs.YtdjlbejhphbcoaaGreat
open Go.RowKit
set_option linter.unusedVariables false

theorem right_ways (g : Ent12) : ∃ r, right12 g = r ∧ ((rowB g.T = false ∧ r = false) ∨ (rowB g.T = true ∧ bare12 g = false ∧ r = false) ∨ (rowB g.T = true ∧ bare12 g = true ∧ wrong12 g.act ≠ 0 ∧ r = false) ∨ (rowB g.T = true ∧ bare12 g = true ∧ wrong12 g.act = 0 ∧ putW (rowP g.T) (nums12 g.act (rowP g.T)) = none ∧ r = false) ∨ (∃ bs, rowB g.T = true ∧ bare12 g = true ∧ wrong12 g.act = 0 ∧ putW (rowP g.T) (nums12 g.act (rowP g.T)) = some bs ∧ r = decide (size12 g.act ≤ 65528))) := by
  refine ⟨_, rfl, ?_⟩
  unfold right12
  cases h1 : rowB g.T
  · exact .inl ⟨rfl, by simp⟩
  · cases h2 : bare12 g
    · exact .inr (.inl ⟨rfl, rfl, by simp⟩)
    · by_cases h3 : wrong12 g.act = 0
      · cases h4 : putW (rowP g.T) (nums12 g.act (rowP g.T)) with
        | none => exact .inr (.inr (.inr (.inl ⟨rfl, rfl, h3, rfl, by simp⟩)))
        | some bs => exact .inr (.inr (.inr (.inr ⟨bs, rfl, rfl, h3, rfl, by simp [h3]⟩)))
      · exact .inr (.inr (.inl ⟨rfl, rfl, h3, by simp [h3]⟩))

set_option maxRecDepth 100000 in
set_option maxHeartbeats 2000000 in
theorem actRight_any (g : Ent12) (w : World) (hi : ActIn w g) :
    Calls Tryz.prog 13 #[g.val] w fun e w' => e = .returned (.bool (right12 g)) ∧ Below w.heap.size w w' := by
  obtain ⟨W, hW, hbW, hx⟩ := act_box w g.T g.A g.B g.o.C g.o.F g.o.H g.o.X g.va g.o.v.length g.vc g.ma g.o.m.length g.mc g.da g.d.length g.dc
  have HW := hid hW
  have HB := hid hbW
  obtain ⟨k1, k2, k3, k4, k5, k6⟩ := count_le12 g.T
  have RO := hid (rowOf_any g.T W)
  have BA := hid (fun (V : World) (hV : Below w.heap.size w V) => isBare_any g V (hi.below hV))
  have WR := hid (fun (V : World) (hV : Below w.heap.size w V) => wrong_any g V (hi.below hV))
  have SZ := hid (fun (V : World) (hV : Below w.heap.size w V) => actSize_any g V (hi.below hV))
  have NU := hid (fun (V : World) (a : Option Addr) (c : Nat) (ia : Ints .i64 V a (rowP g.T)) => numbers_at g.T g.A g.B g.o.C g.o.F g.o.H g.o.X g.va g.o.v.length g.vc g.ma g.o.m.length g.mc g.da g.d.length g.dc (rowP g.T) a c (countL (rowP g.T)) k2 k1 (by omega) V ia)
  have HU : Hid (U64s (nums12 g.act (rowP g.T))) := nums_u64 hi.num _
  have NL : Hid ((nums12 g.act (rowP g.T)).length = countL (rowP g.T)) := nums_len k1
  obtain ⟨r, hr, hq⟩ := right_ways g
  rw [hr]
  clear hr hi hW hbW k2 k3 k4 k6
  obtain ⟨nl, hnl⟩ : ∃ nl, nums12 g.act (rowP g.T) = nl := ⟨_, rfl⟩
  have HN : Hid ([g.A, g.B].take (countL (rowP g.T)) = nl) := hnl
  rw [hnl] at HU NL hq
  clear hnl
  obtain ⟨sz, hsz⟩ : ∃ sz, size12 g.act = sz := ⟨_, rfl⟩
  obtain ⟨wr, hwr⟩ : ∃ wr, wrong12 g.act = wr := ⟨_, rfl⟩
  obtain ⟨ba, hba⟩ : ∃ ba, bare12 g = ba := ⟨_, rfl⟩
  rw [hsz] at SZ hq
  rw [hwr] at WR hq
  rw [hba] at BA hq
  clear hsz hwr hba
  obtain ⟨T, A, B, ⟨C, F, H, X, v, m⟩, va, vc, ma, mc, d, da, dc⟩ := g
  simp only at *
  obtain ⟨l, hl⟩ : ∃ l, rowP T = l := ⟨_, rfl⟩
  obtain ⟨rb, hrb⟩ : ∃ b, rowB T = b := ⟨_, rfl⟩
  rw [hl] at RO NU NL HN k1 k5 hq
  rw [hrb] at RO hq
  obtain ⟨cl, hcl⟩ : ∃ c, countL l = c := ⟨_, rfl⟩
  rw [hcl] at NU NL HN k1
  clear hl hrb hcl
  unfold Ent12.val at *
  simp only at *
  obtain ⟨d0, d1, d2, d3, d4, d5, d6, d7, d8, d9⟩ := hx.ten
  rcases hq with ⟨rfl, rfl⟩ | ⟨rfl, rfl, rfl⟩ | ⟨rfl, rfl, hw0, rfl⟩ | ⟨rfl, rfl, rfl, hp, rfl⟩ | ⟨bs, rfl, rfl, rfl, hp, rfl⟩

  · go_enter Tryz.func13, Tryz.ntmps13
    go_wp2_with fail
    rw [HW.out]
    go_wp2_with fail
    refine RO.out.mono ?_
    rintro e w1 ⟨a, rfl, hI1, hb1⟩
    have HA1 := hid (below_on HB.out hb1)
    have I1 := hid hI1
    have HC1 := hid hb1
    clear hb1 hI1 d0 d1 d2 d3 d4 d5 d6 d7 d8 d9
    obtain ⟨d0, d1, d2, d3, d4, d5, d6, d7, d8, d9⟩ := (hx.below HC1.out).ten
    go_wp2_with fail
    go_ret
    exact ⟨rfl, HA1.out⟩
  · go_enter Tryz.func13, Tryz.ntmps13
    go_wp2_with fail
    rw [HW.out]
    go_wp2_with fail
    refine RO.out.mono ?_
    rintro e w1 ⟨a, rfl, hI1, hb1⟩
    have HA1 := hid (below_on HB.out hb1)
    have I1 := hid hI1
    have HC1 := hid hb1
    clear hb1 hI1 d0 d1 d2 d3 d4 d5 d6 d7 d8 d9
    obtain ⟨d0, d1, d2, d3, d4, d5, d6, d7, d8, d9⟩ := (hx.below HC1.out).ten
    go_wp2_with fail
    refine (BA.out _ HA1.out).mono ?_
    rintro e w2 ⟨rfl, hb2⟩
    have HA2 := hid (below_on HA1.out hb2)
    have HC2 := hid (below_on HC1.out hb2)
    clear hb2 d0 d1 d2 d3 d4 d5 d6 d7 d8 d9
    obtain ⟨d0, d1, d2, d3, d4, d5, d6, d7, d8, d9⟩ := (hx.below HC2.out).ten
    go_wp2_with fail
    go_ret
    exact ⟨rfl, HA2.out⟩
  · have hw1 : (wr != 0) = true := by simpa using hw0
    clear hw0
    go_enter Tryz.func13, Tryz.ntmps13
    go_wp2_with fail
    rw [HW.out]
    go_wp2_with fail
    refine RO.out.mono ?_
    rintro e w1 ⟨a, rfl, hI1, hb1⟩
    have HA1 := hid (below_on HB.out hb1)
    have I1 := hid hI1
    have HC1 := hid hb1
    clear hb1 hI1 d0 d1 d2 d3 d4 d5 d6 d7 d8 d9
    obtain ⟨d0, d1, d2, d3, d4, d5, d6, d7, d8, d9⟩ := (hx.below HC1.out).ten
    go_wp2_with fail
    refine (BA.out _ HA1.out).mono ?_
    rintro e w2 ⟨rfl, hb2⟩
    have HA2 := hid (below_on HA1.out hb2)
    have HC2 := hid (below_on HC1.out hb2)
    clear hb2 d0 d1 d2 d3 d4 d5 d6 d7 d8 d9
    obtain ⟨d0, d1, d2, d3, d4, d5, d6, d7, d8, d9⟩ := (hx.below HC2.out).ten
    go_wp2_with fail
    refine (WR.out _ HA2.out).mono ?_
    rintro e w3 ⟨rfl, hb3⟩
    have HA3 := hid (below_on HA2.out hb3)
    have HC3 := hid (below_on HC2.out hb3)
    clear hb3 d0 d1 d2 d3 d4 d5 d6 d7 d8 d9
    obtain ⟨d0, d1, d2, d3, d4, d5, d6, d7, d8, d9⟩ := (hx.below HC3.out).ten
    go_wp2_with fail
    go_ret
    exact ⟨rfl, HA3.out⟩
  · have HP := hid hp
    clear hp
    go_enter Tryz.func13, Tryz.ntmps13
    go_wp2_with fail
    rw [HW.out]
    go_wp2_with fail
    refine RO.out.mono ?_
    rintro e w1 ⟨a, rfl, hI1, hb1⟩
    have HA1 := hid (below_on HB.out hb1)
    have I1 := hid hI1
    have HC1 := hid hb1
    clear hb1 hI1 d0 d1 d2 d3 d4 d5 d6 d7 d8 d9
    obtain ⟨d0, d1, d2, d3, d4, d5, d6, d7, d8, d9⟩ := (hx.below HC1.out).ten
    go_wp2_with fail
    refine (BA.out _ HA1.out).mono ?_
    rintro e w2 ⟨rfl, hb2⟩
    have HA2 := hid (below_on HA1.out hb2)
    have HE2 := hid hb2
    have HC2 := hid (below_on HC1.out hb2)
    clear hb2 d0 d1 d2 d3 d4 d5 d6 d7 d8 d9
    obtain ⟨d0, d1, d2, d3, d4, d5, d6, d7, d8, d9⟩ := (hx.below HC2.out).ten
    go_wp2_with fail
    refine (WR.out _ HA2.out).mono ?_
    rintro e w3 ⟨rfl, hb3⟩
    have HA3 := hid (below_on HA2.out hb3)
    have HE3 := hid hb3
    have HC3 := hid (below_on HC2.out hb3)
    clear hb3 d0 d1 d2 d3 d4 d5 d6 d7 d8 d9
    obtain ⟨d0, d1, d2, d3, d4, d5, d6, d7, d8, d9⟩ := (hx.below HC3.out).ten
    go_wp2_with fail
    refine (NU.out _ a _ (I1.out.below (below_on HE2.out HE3.out))).mono ?_
    rintro e w4 ⟨b, rfl, hI4, hb4⟩
    rw [HN.out] at hI4
    have HA4 := hid (below_on HA3.out hb4)
    have HE4 := hid hb4
    have HC4 := hid (below_on HC3.out hb4)
    have I4 := hid hI4
    clear hb4 hI4 d0 d1 d2 d3 d4 d5 d6 d7 d8 d9
    obtain ⟨d0, d1, d2, d3, d4, d5, d6, d7, d8, d9⟩ := (hx.below HC4.out).ten
    have hnl := NL.out
    have PU := put_no l nl HP.out a b l.length 2 w4 (by omega) (by omega) HU.out (I1.out.below (below_on (below_on HE2.out HE3.out) HE4.out)) I4.out
    rw [hnl] at PU
    have PU := hid PU
    clear hnl
    go_wp2_with fail
    refine PU.out.mono ?_
    rintro e w5 ⟨rfl, hb5⟩
    have HA5 := hid (below_on HA4.out hb5)
    clear hb5
    go_wp2_with fail
    go_ret
    exact ⟨rfl, HA5.out⟩
  · have HP := hid hp
    clear hp
    go_enter Tryz.func13, Tryz.ntmps13
    go_wp2_with fail
    rw [HW.out]
    go_wp2_with fail
    refine RO.out.mono ?_
    rintro e w1 ⟨a, rfl, hI1, hb1⟩
    have HA1 := hid (below_on HB.out hb1)
    have I1 := hid hI1
    have HC1 := hid hb1
    clear hb1 hI1 d0 d1 d2 d3 d4 d5 d6 d7 d8 d9
    obtain ⟨d0, d1, d2, d3, d4, d5, d6, d7, d8, d9⟩ := (hx.below HC1.out).ten
    go_wp2_with fail
    refine (BA.out _ HA1.out).mono ?_
    rintro e w2 ⟨rfl, hb2⟩
    have HA2 := hid (below_on HA1.out hb2)
    have HE2 := hid hb2
    have HC2 := hid (below_on HC1.out hb2)
    clear hb2 d0 d1 d2 d3 d4 d5 d6 d7 d8 d9
    obtain ⟨d0, d1, d2, d3, d4, d5, d6, d7, d8, d9⟩ := (hx.below HC2.out).ten
    go_wp2_with fail
    refine (WR.out _ HA2.out).mono ?_
    rintro e w3 ⟨rfl, hb3⟩
    have HA3 := hid (below_on HA2.out hb3)
    have HE3 := hid hb3
    have HC3 := hid (below_on HC2.out hb3)
    clear hb3 d0 d1 d2 d3 d4 d5 d6 d7 d8 d9
    obtain ⟨d0, d1, d2, d3, d4, d5, d6, d7, d8, d9⟩ := (hx.below HC3.out).ten
    go_wp2_with fail
    refine (NU.out _ a _ (I1.out.below (below_on HE2.out HE3.out))).mono ?_
    rintro e w4 ⟨b, rfl, hI4, hb4⟩
    rw [HN.out] at hI4
    have HA4 := hid (below_on HA3.out hb4)
    have HE4 := hid hb4
    have HC4 := hid (below_on HC3.out hb4)
    have I4 := hid hI4
    clear hb4 hI4 d0 d1 d2 d3 d4 d5 d6 d7 d8 d9
    obtain ⟨d0, d1, d2, d3, d4, d5, d6, d7, d8, d9⟩ := (hx.below HC4.out).ten
    have hnl := NL.out
    have PU := put_yes l nl bs HP.out a b l.length 2 w4 (by omega) (by omega) HU.out (I1.out.below (below_on (below_on HE2.out HE3.out) HE4.out)) I4.out
    rw [hnl] at PU
    have PU := hid PU
    clear hnl
    go_wp2_with fail
    refine PU.out.mono ?_
    rintro e w5 ⟨ad, cp, rfl, hb5, _, _⟩
    have HA5 := hid (below_on HA4.out hb5)
    have HC5 := hid (below_on HC4.out hb5)
    clear hb5 d0 d1 d2 d3 d4 d5 d6 d7 d8 d9
    obtain ⟨d0, d1, d2, d3, d4, d5, d6, d7, d8, d9⟩ := (hx.below HC5.out).ten
    go_wp2_with fail
    refine (SZ.out _ HA5.out).mono ?_
    rintro e w6 ⟨rfl, hb6⟩
    have HA6 := hid (below_on HA5.out hb6)
    clear hb6
    go_wp2_with fail
    go_ret
    exact ⟨ret_bool (by simp; try omega), HA6.out⟩

/-- how many bytes it has; 0: it may not be -/
def sizeS12 (g : Ent12) : Nat := if right12 g then size12 g.act else 0
set_option maxRecDepth 100000 in
set_option maxHeartbeats 2000000 in
theorem actSizeS_any (g : Ent12) (w : World) (hi : ActIn w g) :
    Calls Tryz.prog 14 #[g.val] w fun e w' => e = .returned (.int .i64 (sizeS12 g)) ∧ Below w.heap.size w w' := by
  obtain ⟨W, hW, hbW, hx⟩ := act_box w g.T g.A g.B g.o.C g.o.F g.o.H g.o.X g.va g.o.v.length g.vc g.ma g.o.m.length g.mc g.da g.d.length g.dc
  have HW := hid hW
  have HB := hid hbW
  have RI := hid (fun (V : World) (hV : Below w.heap.size w V) => actRight_any g V (hi.below hV))
  have SZ := hid (fun (V : World) (hV : Below w.heap.size w V) => actSize_any g V (hi.below hV))
  unfold sizeS12
  obtain ⟨r, hr⟩ : ∃ r, right12 g = r := ⟨_, rfl⟩
  obtain ⟨sz, hsz⟩ : ∃ sz, size12 g.act = sz := ⟨_, rfl⟩
  rw [hr] at RI ⊢
  rw [hsz] at SZ ⊢
  clear hr hsz hi hW hbW
  obtain ⟨T, A, B, ⟨C, F, H, X, v, m⟩, va, vc, ma, mc, d, da, dc⟩ := g
  unfold Ent12.val at *
  simp only at *
  obtain ⟨d0, d1, d2, d3, d4, d5, d6, d7, d8, d9⟩ := hx.ten
  cases r
  · go_enter Tryz.func14, Tryz.ntmps14
    go_wp2_with fail
    rw [HW.out]
    go_wp2_with fail
    refine (RI.out _ HB.out).mono ?_
    rintro e w1 ⟨rfl, hb⟩
    go_wp2_with fail
    go_ret
    exact ⟨rfl, below_on HB.out hb⟩
  · go_enter Tryz.func14, Tryz.ntmps14
    go_wp2_with fail
    rw [HW.out]
    go_wp2_with fail
    refine (RI.out _ HB.out).mono ?_
    rintro e w1 ⟨rfl, hb⟩
    clear d0 d1 d2 d3 d4 d5 d6 d7 d8 d9
    obtain ⟨d0, d1, d2, d3, d4, d5, d6, d7, d8, d9⟩ := (hx.below hb).ten
    have HB1 := hid (below_on HB.out hb)
    clear hb
    go_wp2_with fail
    refine (SZ.out _ HB1.out).mono ?_
    rintro e w2 ⟨rfl, hb⟩
    go_wp2_with fail
    go_ret
    exact ⟨rfl, below_on HB1.out hb⟩
end Go.Proofs.YtdjlbejhphbcoaaGreat
namespace Go.Proofs.YtdjlbejhphbcoaaGreat
open Go.RowKit
set_option linter.unusedVariables false

/-- what encoding comes to -/
def EncPost12 (g : Ent12) (w : World) (e : Ending) (w' : World) : Prop :=
  (act12 g.act = none ∧ e = .returned (.tuple #[.slice none 0 0, .int .i64 10001]) ∧ Below w.heap.size w w') ∨
  (∃ x p, act12 g.act = some x ∧ e = .returned (.tuple #[.slice (some ⟨p, 0, none⟩) x.length x.length, .int .i64 0]) ∧ Below w.heap.size w w' ∧ Ints .u8 w' (some ⟨p, 0, none⟩) x ∧ w.heap.size ≤ p)
def head12 (t : Int) (n : Nat) : List Int := bytesL t 2 ++ (bytesL (n : Int) 2 ++ [])
theorem head12_length (t : Int) (n : Nat) : (head12 t n).length = 4 := by simp [head12, bytesL_length]
theorem putW_head12 {t : Int} {n : Nat} (h0 : 0 ≤ t) (h1 : t < 65536) (hn : n ≤ 65528) : putW [2, 2] [t, (n : Int)] = some (head12 t n) := by
  have r1 : rightW [2, 2] = true := by decide
  have r2 : countL [2, 2] = 2 := by decide
  have p2 : roomB t 2 = true := by simp [roomB, p256]; omega
  have p1 : roomB (n : Int) 2 = true := by simp [roomB, p256]; omega
  simp [putW, r1, r2, putL, p2, p1, head12]
theorem size_act {g : Ent12} {x : List Int} (h : act12 g.act = some x) : size12 g.act = x.length := by
  obtain ⟨b, hb, hw, hx, hl, h8, h9, h10, h11, h12⟩ := act_write h
  by_cases hT : g.T = 25
  · obtain ⟨_, _, hd, hs, rfl⟩ := body_25 hb hT
    have hr : rightB g.o.C g.o.F g.o.H g.o.X g.o.v g.o.m = true := by
      unfold setOk12 at hs
      simp only [Bool.and_eq_true] at hs
      exact hs.2
    have e1 : size8 g.o.C g.o.F g.o.H g.o.X g.o.v g.o.m = (bytes10 g.o).length := by
      unfold size8
      rw [if_pos hr]
      exact (oxmBytes_length _ _ _ _ _ _).symm
    unfold size12
    have e2 : rowP g.act.T = [] := by rw [show g.act.T = 25 from hT]; decide
    have e3 : g.act.d = [] := hd
    rw [e2, e3]
    show up12 (4 + sizeL [] + size8 g.o.C g.o.F g.o.H g.o.X g.o.v g.o.m + 0) = _
    rw [e1, hl]
    have ho : g.act.o = g.o := rfl
    rw [ho, List.length_append, List.length_replicate]
    have := pad_fits (bytes10 g.o).length
    unfold up12
    simp [sizeL]
    omega
  · obtain ⟨w, p, hr, h1, h2, h3, h4, h5, h6, h7, hp, hc, rfl⟩ := body_row hb hT
    have hl2 : x.length = 4 + (sizeL w + g.d.length) := by rw [hl, List.length_append, (putL_octets hp).2]; rfl
    rw [size_noOx hr h1]
    unfold up12
    omega
theorem row12_at {W V : World} {g mm r : Nat} {p : Option Nat} {l0 hd ws ns : List Int} {a b : Option Addr} {n k c d : Nat} (hP : putW ws ns = some hd) (hl : l0.length + hd.length ≤ r) (hU : U64s ns) (hw : ws.length ≤ 64) (en : n = ws.length) (ek : k = ns.length) (hd2 : k ≤ d) (O : BufOn W V g mm p r l0 [] 0) (ia : Ints .i64 V a ws) (ib : Ints .u64 V b ns) :
    Calls Tryz.prog 44 #[.pointer (some ⟨g, 0, none⟩), .slice a n c, .slice b k d] V fun e w' => e = .returned (.tuple #[]) ∧ ∃ p', BufOn W w' g mm p' r (l0 ++ hd) [] 0 := by
  refine (O.buf.row_ok ws ns hd hP a b n k c d en ek (by omega) hd2 hU ia ib hl).mono ?_
  rintro e w' ⟨rfl, p', hG⟩
  exact ⟨rfl, p', O.went hG⟩
theorem encode12_no (g : Ent12) (w : World) (hi : ActIn w g) (hn : act12 g.act = none) :
    Calls Tryz.prog 11 #[g.val] w (EncPost12 g w) := by
  obtain ⟨W, hW, hbW, hx⟩ := act_box w g.T g.A g.B g.o.C g.o.F g.o.H g.o.X g.va g.o.v.length g.vc g.ma g.o.m.length g.mc g.da g.d.length g.dc
  have HW := hid hW
  have HB := hid hbW
  have HN := hid hn
  have RI := hid (fun (V : World) (hV : Below w.heap.size w V) => actRight_any g V (hi.below hV))
  have hr : right12 g = false := by rw [right_act g hi.ld, hn]; rfl
  rw [hr] at RI
  clear hr hn hi hW hbW
  obtain ⟨T, A, B, ⟨C, F, H, X, v, m⟩, va, vc, ma, mc, d, da, dc⟩ := g
  unfold Ent12.val at *
  simp only at *
  obtain ⟨d0, d1, d2, d3, d4, d5, d6, d7, d8, d9⟩ := hx.ten
  go_enter Tryz.func11, Tryz.ntmps11
  go_wp2_with fail
  rw [HW.out]
  go_wp2_with fail
  refine (RI.out _ HB.out).mono ?_
  rintro e w1 ⟨rfl, hb⟩
  go_wp2_with fail
  go_ret2
  exact .inl ⟨HN.out, rfl, below_on HB.out hb⟩
end Go.Proofs.YtdjlbejhphbcoaaGreat
