/- Put together out of several texts. -/
import Derived.Test.YtdjlbejhphbcoaaGreatQ22
import Derived.Test.YtdjlbejhphbcoaaGreatQ10
import Derived.Test.YtdjlbejhphbcoaaGreatQ14
import Derived.Deep.RegionHeld3
import Derived.Deep.DeepCutAuto
import Derived.Test.YtdjlbejhphbcoaaGreatQ6
namespace Go.Proofs.YtdjlbejhphbcoaaGreat
open Go.RowKit
set_option linter.unusedVariables false

theorem read12_any (t : Int) (x : List Int) (a : Option Addr) (c : Nat) (hbl : x.length ≤ 100000) (hbc : x.length ≤ c) (hc : c ≤ 9223372036854775807) (ho : Octets x) (h4 : 4 ≤ x.length) (hm : (4 + x.length) % 8 = 0) (w : World) (hI : Ints .u8 w a x) (ht : -9223372036854775808 ≤ t ∧ t ≤ 9223372036854775807) :
    Calls Tryz.prog 56 #[.agg #[.int .i64 t, .slice a x.length c]] w (ReadPost12 (read12 t x) w) := by
  by_cases h25 : t = 25
  · exact read12_set t x a c hbl hbc hc ho h4 w hI h25
  · cases hr : row12 t with
    | none => exact read12_none t x a c hbl hbc hc ho h4 w hI hr h25
    | some l =>
      by_cases hx : t = 65535
      · have hl : l = [4] := by rw [hx] at hr; exact (Option.some.inj hr).symm
        have hs : sizeL l ≤ x.length := by rw [hl]; simpa [sizeL] using h4
        cases hg : getL l x with
        | error q =>
          exfalso
          rw [hl] at hg
          unfold getL at hg
          rw [if_neg (by simpa using h4), if_pos (by decide)] at hg
          simp [getL, Except.map] at hg
        | ok ns => exact read12_exp t x a c hbl hbc hc ho h4 hm w hI ht l ns hr h25 hx hg
      · by_cases hxl : x.length = sizeL l
        · cases hg : getL l x with
          | error q =>
            have := getL_err12 hg (by omega)
            subst this
            exact read12_odd t x a c hbl hbc hc ho h4 hm w hI ht l hr h25 hx hxl hg
          | ok ns => exact read12_ok t x a c hbl hbc hc ho h4 hm w hI ht l ns hr h25 hx hxl hg
        · exact read12_size t x a c hbl hbc hc ho h4 w hI l hr h25 hx hxl
theorem one_facts12 {b : List Int} {t : Int} {x : List Int} {n : Nat} (ho : Octets b) (h : oneL 8 8 false 514 514 b = .ok (t, x, n)) : 4 ≤ x.length ∧ (4 + x.length) % 8 = 0 ∧ 0 ≤ t ∧ t < 65536 ∧ x.length ≤ 65531 ∧ Octets x := by
  obtain ⟨hw, h4, hk⟩ := write_one (by omega) ho h
  unfold writeL at hw
  split at hw
  · rename_i c
    obtain ⟨c1, c2, c3, c4⟩ := c
    have hz : zer 8 false (4 + x.length) = 0 := by unfold zer; simp
    rw [hz, List.replicate_zero, List.append_nil, List.append_assoc] at hw
    have hbk := (Except.ok.inj hw).symm
    unfold lenOk at c1
    simp at c1
    refine ⟨by omega, by omega, c2, c3, by omega, ?_⟩
    intro y hy
    refine ho.take n y ?_
    rw [hbk]
    simp [hy]
  · cases hw
/-- what bytes as an action come to -/
def DecPost12 (b : List Int) (w : World) (e : Ending) (w' : World) : Prop :=
  (∃ q, dec12 b = .error q ∧ q ≠ 0 ∧ e = .returned (.tuple #[zero12, .int .i64 0, .int .i64 q]) ∧ Below w.heap.size w w') ∨
  (∃ (g : Ent12) (n : Nat), dec12 b = .ok (g.act, n) ∧ e = .returned (.tuple #[g.val, .int .i64 n, .int .i64 0]) ∧ Below w.heap.size w w' ∧ ActIn w' g ∧ New8 w g.va ∧ New8 w g.ma ∧ New8 w g.da)
theorem act_in12 {w : World} {g : Ent12} {x : List Int} (h : act12 g.act = some x) (hI : g.act.In) (iv : Ints .u8 w g.va g.o.v) (im : Ints .u8 w g.ma g.o.m) (id : Ints .u8 w g.da g.d) (ov : Octets g.o.v) (om : Octets g.o.m) (od : Octets g.d) (cm : g.o.m.length ≤ g.mc) : ActIn w g := by
  obtain ⟨b, hb, hw, hx, hl, h8, h9, h10, h11, h12⟩ := act_write h
  have e : p256 8 = 18446744073709551616 := by decide
  have hA := hI.A
  have hB := hI.B
  rw [e] at hA hB
  have hA' : 0 ≤ g.A ∧ g.A < 18446744073709551616 := hA
  have hB' : 0 ≤ g.B ∧ g.B < 18446744073709551616 := hB
  have hT : 0 ≤ g.T ∧ g.T < 65536 := ⟨h11, h12⟩
  by_cases h25 : g.T = 25
  · obtain ⟨_, _, hd, hs, _⟩ := body_25 hb h25
    have hr : right10 g.o = true := by
      unfold setOk12 at hs
      simp only [Bool.and_eq_true] at hs
      exact hs.2
    have ft := right_facts hr
    have hsm := (bytes10_small hr).2
    have hbl : (bytes10 g.o).length = 4 + behind8 g.o.C g.o.v.length g.o.m.length := oxmBytes_length _ _ _ _ _ _
    have hbe : g.o.v.length + g.o.m.length ≤ behind8 g.o.C g.o.v.length g.o.m.length := by unfold behind8; split <;> omega
    have hd' : g.d = [] := hd
    have c0 := ft.cls
    have f0 := ft.f0
    have f1 := ft.f1
    have x1 := ft.x1
    have hX := hI.X
    have hX' : 0 ≤ g.o.X := hX
    exact ⟨by omega, by omega, by omega, by rcases c0 with h | h <;> omega, by omega, by omega, by omega, by omega, by rw [hd']; simp, iv, im, id, ov, om, od, cm⟩
  · obtain ⟨w', p, hr, h1, h2, h3, h4, h5, h6, h7, hp, hc, hbb⟩ := body_row hb h25
    have ho : g.o = noOx := h1
    have h7' : g.d.length ≤ 65520 := h7
    exact ⟨by omega, by omega, by omega, by rw [ho]; simp [noOx], by rw [ho]; simp [noOx], by rw [ho]; exact zero_in, by rw [ho]; simp [noOx], by rw [ho]; simp [noOx], by omega, iv, im, id, ov, om, od, cm⟩
theorem item_box12 (w : World) (t : Int) (a : Option Addr) (n c : Nat) : ∃ W, w.alloc (.cells #[.int .i64 t, .slice a n c] 86) = W ∧ Below w.heap.size w W ∧ BoxL W w.heap.size [.int .i64 t, .slice a n c] := ⟨_, rfl, below_alloc _ _, BoxL.new _ _ _⟩
set_option maxRecDepth 100000 in
set_option maxHeartbeats 4000000 in
theorem actDecode_any (b : List Int) (a : Option Addr) (c : Nat) (w : World) (hH : Holds w a c b) :
    Calls Tryz.prog 16 #[.slice a b.length c] w (DecPost12 b w) := by
  obtain ⟨W, hW, hbW, hx⟩ := act_box w 0 0 0 0 0 false 0 none 0 0 none 0 0 none 0 0
  have HW := hid hW
  have HB := hid hbW
  have ONE := hid (one_any W 8 8 false 514 514 ⟨by decide, by decide, by decide, by decide, by decide, by decide⟩ b a c (hH.below hbW))
  have HO := hid hH.oct
  obtain ⟨r, hr⟩ : ∃ r, oneL 8 8 false 514 514 b = r := ⟨_, rfl⟩
  rw [hr] at ONE
  have HR := hid hr
  have hxl := hx.lt
  clear hH hW hbW hr
  rcases r with q | ⟨t, x, n⟩
  · have HD : Hid (dec12 b = .error q) := by show _ = _; rw [dec12_read, HR.out]
    have HQ : Hid (q ≠ 0) := oneL_err (by decide) (by decide) HR.out
    go_enter Tryz.func16, Tryz.ntmps16
    go_wp2_with fail
    rw [HW.out]
    refine ONE.out.mono ?_
    rintro e w1 ⟨rfl, hb1⟩
    obtain ⟨W2, hW2, hbW2, hy⟩ := item_box12 w1 0 none 0 0
    have HW2 := hid hW2
    have hx2 := (hx.below hb1).below hbW2
    have HBE := hid (below_on (below_on HB.out hb1) hbW2)
    have q1 : (q != 0) = true := by simpa using HQ.out
    clear hW2 hbW2 hb1 hx
    go_upto_region 2 with fail
    rw [HW2.out]
    have z := hx2.free
    obtain ⟨d0, d1, d2, d3, d4, d5, d6, d7, d8, d9⟩ :=  hx2.ten
    go_wp2_with fail
    have hkk := hx2.set10 (.int .i64 0) (.int .u64 0) (.int .u64 0) (.int .i64 0) (.int .i64 0) (.bool false) (.int .u64 0) (.slice none 0 0) (.slice none 0 0) (.slice none 0 0)
    obtain ⟨k0, k1, k2, k3, k4, k5, k6, k7, k8, k9⟩ := hkk.ten
    refine bodyPost_ret (v := .tuple #[zero12, .int .i64 0, .int .i64 q]) (by simp [results, Tryz.results16, go_sem, zero12, k0, k1, k2, k3, k4, k5, k6, k7, k8, k9]) rfl (.inl ⟨q, HD.out, HQ.out, rfl, ?_⟩)
    repeat (with_reducible refine Below.setCell ?_ (by simp) _)
    exact HBE.out
  · obtain ⟨x4, xm, t0, t1, xl, ox⟩ := one_facts12 HO.out HR.out
    have RD := hid (fun (V : World) (a2 : Option Addr) (c2 : Nat) (h1 : x.length ≤ c2) (h2 : c2 ≤ 9223372036854775807) (i2 : Ints .u8 V a2 x) => read12_any t x a2 c2 (by omega) h1 h2 ox x4 xm V i2 (by omega))
    clear x4 xm t0 t1 xl ox
    go_enter Tryz.func16, Tryz.ntmps16
    go_wp2_with fail
    rw [HW.out]
    refine ONE.out.mono ?_
    rintro e w1 ⟨a2, c2, rfl, h1, h2, i2, _, hb1⟩
    obtain ⟨W2, hW2, hbW2, hy⟩ := item_box12 w1 t a2 x.length c2
    have HW2 := hid hW2
    have hx2 := (hx.below hb1).below hbW2
    have HB2 := hid (below_on (below_on HB.out hb1) hbW2)
    have RR := hid (RD.out W2 a2 c2 h1 h2 (i2.below hbW2))
    obtain ⟨f0, f1⟩ := hy.two
    clear hW2 hbW2 hb1 hx hy i2 RD h1 h2
    go_upto_region 2 with fail
    rw [HW2.out]
    go_wp2_with fail
    refine RR.out.mono ?_
    rintro e w3 (⟨q, hq, hq0, ⟨T, A, B, C, F, H, X, va, vl, vc, ma, ml, mc, da, dl, dc, rfl⟩, hb3⟩ | ⟨g, hq, rfl, hb3, iv, im, idd, cm, n1, n2, n3⟩)
    · have HD : Hid (dec12 b = .error q) := by show _ = _; rw [dec12_read, HR.out]; simp only; rw [hq]
      have HQ := hid hq0
      obtain ⟨W4, hW4, hbW4, hz⟩ := act_box w3 T A B C F H X va vl vc ma ml mc da dl dc
      have HW4 := hid hW4
      have hx4 := (hx2.below hb3).below hbW4
      have HBE := hid (below_on (below_on HB2.out hb3) hbW4)
      have q1 : (q != 0) = true := by simpa using hq0
      clear hW4 hbW4 hb3 hx2 hz hq hq0 f0 f1
      go_upto_region 5 with fail
      rw [HW4.out]
      have z := hx4.free
      obtain ⟨d0, d1, d2, d3, d4, d5, d6, d7, d8, d9⟩ :=  hx4.ten
      go_wp2_with fail
      have hkk := hx4.set10 (.int .i64 0) (.int .u64 0) (.int .u64 0) (.int .i64 0) (.int .i64 0) (.bool false) (.int .u64 0) (.slice none 0 0) (.slice none 0 0) (.slice none 0 0)
      obtain ⟨k0, k1, k2, k3, k4, k5, k6, k7, k8, k9⟩ := hkk.ten
      refine bodyPost_ret (v := .tuple #[zero12, .int .i64 0, .int .i64 q]) (by simp [results, Tryz.results16, go_sem, zero12, k0, k1, k2, k3, k4, k5, k6, k7, k8, k9]) rfl (.inl ⟨q, HD.out, HQ.out, rfl, ?_⟩)
      repeat (with_reducible refine Below.setCell ?_ (by simp) _)
      exact HBE.out
    · have HD : Hid (dec12 b = .ok (g.act, n)) := by show _ = _; rw [dec12_read, HR.out]; simp only; rw [hq]
      obtain ⟨hac, _, _, _, hin, o1, o2, o3⟩ := dec_act HD.out HO.out
      have HIN := hid (fun V (jv : Ints .u8 V g.va g.o.v) (jm : Ints .u8 V g.ma g.o.m) (jd : Ints .u8 V g.da g.d) => act_in12 hac hin jv jm jd o1 o2 o3 cm)
      obtain ⟨T, A, B, ⟨C, F, H, X, v, m⟩, va, vc, ma, mc, d, da, dc⟩ := g
      unfold Ent12.val
      simp only at iv im idd n1 n2 n3 HIN ⊢
      obtain ⟨W4, hW4, hbW4, hz⟩ := act_box w3 T A B C F H X va v.length vc ma m.length mc da d.length dc
      have HW4 := hid hW4
      have hx4 := (hx2.below hb3).below hbW4
      have hz4 := hz
      have HBE := hid (below_on (below_on HB2.out hb3) hbW4)
      have J1 := hid (iv.below hbW4)
      have J2 := hid (im.below hbW4)
      have J3 := hid (idd.below hbW4)
      have s2 := HB2.out.size
      have hx2l := hx2.lt
      have s3 := hb3.size
      have N1 : Hid (New8 w va) := fun y hy => by have := n1 y hy; omega
      have N2 : Hid (New8 w ma) := fun y hy => by have := n2 y hy; omega
      have N3 : Hid (New8 w da) := fun y hy => by have := n3 y hy; omega
      have M1 : Hid (∀ y : Addr, va = some y → y.block ≠ w.heap.size) := fun y hy => by have := n1 y hy; omega
      have M2 : Hid (∀ y : Addr, ma = some y → y.block ≠ w.heap.size) := fun y hy => by have := n2 y hy; omega
      have M3 : Hid (∀ y : Addr, da = some y → y.block ≠ w.heap.size) := fun y hy => by have := n3 y hy; omega
      have m1 : ¬ w3.heap.size = w.heap.size := by omega
      have m2 : ¬ w.heap.size = w3.heap.size := by omega
      clear hW4 hbW4 hb3 hx2 hz hq f0 f1 iv im idd n1 n2 n3 hac hin o1 o2 o3 cm
      go_upto_region 5 with fail
      rw [HW4.out]
      have z := hx4.free
      obtain ⟨d0, d1, d2, d3, d4, d5, d6, d7, d8, d9⟩ :=  hx4.ten
      obtain ⟨u0, u1, u2, u3, u4, u5, u6, u7, u8, u9⟩ := hz4.ten
      go_wp2_with fail
      have hkk := hx4.set10 (.int .i64 T) (.int .u64 A) (.int .u64 B) (.int .i64 C) (.int .i64 F) (.bool H) (.int .u64 X) (.slice va v.length vc) (.slice ma m.length mc) (.slice da d.length dc)
      obtain ⟨k0, k1, k2, k3, k4, k5, k6, k7, k8, k9⟩ := hkk.ten
      refine bodyPost_ret (v := .tuple #[.agg #[.int .i64 T, .int .u64 A, .int .u64 B, .int .i64 C, .int .i64 F, .bool H, .int .u64 X, .slice va v.length vc, .slice ma m.length mc, .slice da d.length dc], .int .i64 n, .int .i64 0]) (by simp [results, Tryz.results16, go_sem, k0, k1, k2, k3, k4, k5, k6, k7, k8, k9]) rfl (.inr ⟨⟨T, A, B, ⟨C, F, H, X, v, m⟩, va, vc, ma, mc, d, da, dc⟩, n, HD.out, rfl, ?_, HIN.out _ ?_ ?_ ?_, N1.out, N2.out, N3.out⟩)
      · repeat (with_reducible refine Below.setCell ?_ (by simp) _)
        exact HBE.out
      · repeat (refine Ints.apart ?_ _ M1.out)
        exact J1.out
      · repeat (refine Ints.apart ?_ _ M2.out)
        exact J2.out
      · repeat (refine Ints.apart ?_ _ M3.out)
        exact J3.out
end Go.Proofs.YtdjlbejhphbcoaaGreat
namespace Go.Proofs.YtdjlbejhphbcoaaGreat
open Go.RowKit
set_option linter.unusedVariables false

/-- bytes stand in no buffer's struct: what turns it leaves them -/
theorem Buf.ints8 {w w' : World} {g m : Nat} {p : Option Nat} {r : Nat} {l : List Int} {H : List (Int × Int)} {f : Int} {a : Option Addr} {x : List Int} (h : Buf w g m p r l H f) (hI : Ints .u8 w a x) (hb : w.grownBy w' (some g)) : Ints .u8 w' a x := by
  intro i hi
  obtain ⟨b, off, ha, hc⟩ := hI i hi
  refine ⟨b, off, ha, ?_⟩
  by_cases hbg : b = g
  · exfalso
    subst hbg
    obtain ⟨v, D, hv, hg, hr, _⟩ := h.ex
    obtain ⟨a', c', rfl, _⟩ := own_ints hr
    rw [World.cell?, hg] at hc
    simp only [bufCells] at hc
    rcases (show off + i = 0 ∨ off + i = 1 ∨ off + i = 2 ∨ off + i = 3 ∨ off + i = 4 ∨ 5 ≤ off + i by omega) with k | k | k | k | k | k
    · simp [k] at hc
    · simp [k] at hc
    · simp [k] at hc
    · simp [k] at hc
    · simp [k] at hc
    · rw [Array.getElem?_eq_none (by simpa using k)] at hc
      simp at hc
  · exact hb.cell hc (by simpa using hbg)

set_option maxRecDepth 100000 in
set_option maxHeartbeats 4000000 in
theorem encode12_row (g : Ent12) (w : World) (hi : ActIn w g) (xs : List Int) (hn : act12 g.act = some xs) (hT : g.T ≠ 25) :
    Calls Tryz.prog 11 #[g.val] w (EncPost12 g w) := by
  obtain ⟨W, hW, hbW, hx⟩ := act_box w g.T g.A g.B g.o.C g.o.F g.o.H g.o.X g.va g.o.v.length g.vc g.ma g.o.m.length g.mc g.da g.d.length g.dc
  have HW := hid hW
  have HB := hid hbW
  have HN := hid hn
  have RI := hid (fun (V : World) (hV : Below w.heap.size w V) => actRight_any g V (hi.below hV))
  have hr : right12 g = true := by rw [right_act g hi.ld, hn]; rfl
  rw [hr] at RI
  have SZ := hid (fun (V : World) (hV : Below w.heap.size w V) => actSize_any g V (hi.below hV))
  rw [size_act hn] at SZ
  obtain ⟨k1, k2, k3, k4, k5, k6⟩ := count_le12 g.T
  have k4' := k4
  have RO := hid (fun V => rowOf_any g.T V)
  have NU := hid (fun (V : World) (a : Option Addr) (c : Nat) (ia : Ints .i64 V a (rowP g.T)) => numbers_at g.T g.A g.B g.o.C g.o.F g.o.H g.o.X g.va g.o.v.length g.vc g.ma g.o.m.length g.mc g.da g.d.length g.dc (rowP g.T) a c (countL (rowP g.T)) k2 k1 (by omega) V ia)
  have HU : Hid (U64s (nums12 g.act (rowP g.T))) := nums_u64 hi.num _
  have NL : Hid ((nums12 g.act (rowP g.T)).length = countL (rowP g.T)) := nums_len k1
  have ID := hid (fun (V : World) (hV : Below w.heap.size w V) => hi.id.below hV)
  obtain ⟨bb, hbb, hww, hxx, hll, h8, hm8, hbig, ht0, ht1⟩ := act_write hn
  obtain ⟨ww, p, hrow, _, _, _, _, _, _, _, hput, hcw, hbd⟩ := body_row hbb hT
  have erow : rowP g.T = ww := by simp [rowP, show row12 g.T = some ww from hrow]
  have hPT : putW (rowP g.T) (nums12 g.act (rowP g.T)) = some p := by
    rw [erow]
    have rr := (row_facts hrow).ok
    simp [putW, rr, hcw, hput]
  have HX : Hid (xs = head12 g.T xs.length ++ p ++ g.d) := by
    show xs = _
    unfold head12
    rw [hll]
    refine hxx.trans ?_
    rw [hbd]
    show bytesL g.T 2 ++ (bytesL _ 2 ++ (p ++ g.d)) = _
    simp
  have hP2 := putW_head12 (t := g.T) (n := xs.length) ht0 ht1 hbig
  have HL4 := hid (head12_length g.T xs.length)
  have wT : IntKind.u64.wrap g.T = g.T := by rw [u64_wrap8]; have : g.act.T = g.T := rfl; omega
  have wN : IntKind.u64.wrap (xs.length : Int) = (xs.length : Int) := by rw [u64_wrap8]; omega
  have HU2 : Hid (U64s [IntKind.u64.wrap g.T, IntKind.u64.wrap (xs.length : Int)]) := by
    rw [wT, wN]
    intro y hy
    simp only [List.mem_cons, List.not_mem_nil, or_false] at hy
    rw [p256_8]
    have : g.act.T = g.T := rfl
    rcases hy with rfl | rfl <;> omega
  have HP2 : Hid (putW [2, 2] [IntKind.u64.wrap g.T, IntKind.u64.wrap (xs.length : Int)] = some (head12 g.T xs.length)) := by rw [wT, wN]; exact hP2
  have HPT := hid hPT
  have xl : Hid (xs.length % 8 = 0) := hm8
  obtain ⟨hd, hhd⟩ : ∃ hd, head12 g.T xs.length = hd := ⟨_, rfl⟩
  rw [hhd] at HX HL4 HP2
  clear hr hn hi hW hbW k2 k3 k4 k6 hPT wT wN hhd hP2 hm8 hxx hww hbb hll
  obtain ⟨nl, hnl⟩ : ∃ nl, nums12 g.act (rowP g.T) = nl := ⟨_, rfl⟩
  have HNL : Hid ([g.A, g.B].take (countL (rowP g.T)) = nl) := hnl
  rw [hnl] at HU NL HPT
  clear hnl
  have hpl : Hid (p.length ≤ 12) := by show p.length ≤ 12; rw [(putL_octets hput).2, ← erow]; exact k4'
  clear hrow hput hcw hbd erow
  obtain ⟨T, A, B, ⟨C, F, H, X, v, m⟩, va, vc, ma, mc, d, da, dc⟩ := g
  have hT1 : (T == 25) = false := by simpa using hT
  clear hT
  obtain ⟨l, hl⟩ : ∃ l, rowP T = l := ⟨_, rfl⟩
  obtain ⟨rb, hrb⟩ : ∃ b, rowB T = b := ⟨_, rfl⟩
  simp only at *
  rw [hl] at RO NU NL HNL HPT k1 k5
  rw [hrb] at RO
  obtain ⟨cl, hcl⟩ : ∃ c, countL l = c := ⟨_, rfl⟩
  rw [hcl] at NU NL HNL k1
  clear hl hrb hcl
  unfold Ent12.val at *
  simp only at *
  obtain ⟨nx, hnx⟩ : ∃ n, xs.length = n := ⟨_, rfl⟩
  rw [hnx] at SZ HU2 HP2 xl h8 hbig
  have HNX := hid hnx
  clear hnx
  obtain ⟨d0, d1, d2, d3, d4, d5, d6, d7, d8, d9⟩ :=  hx.ten
  go_enter Tryz.func11, Tryz.ntmps11
  go_wp2_with fail
  rw [HW.out]
  go_wp2_with fail
  refine (RI.out _ HB.out).mono ?_
  rintro e w1 ⟨rfl, hb1⟩
  have HC1 := hid hb1
  clear d0 d1 d2 d3 d4 d5 d6 d7 d8 d9
  obtain ⟨d0, d1, d2, d3, d4, d5, d6, d7, d8, d9⟩ :=  (hx.below HC1.out).ten
  clear hb1
  go_wp2_with fail
  refine (RO.out _).mono ?_
  rintro e w2 ⟨a, rfl, hI2, hb2⟩
  have HC2 := hid (below_on HC1.out hb2)
  have I2 := hid hI2
  clear hb2 hI2
  go_wp2_with fail
  refine (bufNew_any 65528 _).mono ?_
  rintro e w3 ⟨gb, mm, rfl, hB, hb3, hg, hmm⟩
  have O1 : BufOn w2 w3 gb mm none 65528 [] [] 0 := ⟨hB, hb3, by rintro i (e | e | e); omega; omega; simp at e⟩
  have HW2 := hid (below_on HB.out HC2.out)
  have hx2 := hx.below HC2.out
  clear d0 d1 d2 d3 d4 d5 d6 d7 d8 d9
  obtain ⟨d0, d1, d2, d3, d4, d5, d6, d7, d8, d9⟩ :=  (hx2.below O1.bel).ten
  have OD := O1.below (below_drew8 w3)
  have hxD := hx2.below OD.bel
  clear hb3 hB hg hmm hx
  go_upto_region 5 with fail
  go_cut [19] (fun t19 wx => ∃ p, BufOn w2 wx gb mm p 65528 hd [] 0)
  case first =>
    go_region_held3 (fun w' => w'.cell? ⟨w.heap.size, 0, none⟩ = some (.int .i64 T) ∧ w'.cell? ⟨w.heap.size, 1, none⟩ = some (.int .u64 A) ∧ w'.cell? ⟨w.heap.size, 2, none⟩ = some (.int .u64 B) ∧ w'.cell? ⟨w.heap.size, 3, none⟩ = some (.int .i64 C) ∧ w'.cell? ⟨w.heap.size, 4, none⟩ = some (.int .i64 F) ∧ w'.cell? ⟨w.heap.size, 5, none⟩ = some (.bool H) ∧ w'.cell? ⟨w.heap.size, 6, none⟩ = some (.int .u64 X) ∧ w'.cell? ⟨w.heap.size, 7, none⟩ = some (.slice va v.length vc) ∧ w'.cell? ⟨w.heap.size, 8, none⟩ = some (.slice ma m.length mc) ∧ w'.cell? ⟨w.heap.size, 9, none⟩ = some (.slice da d.length dc)) (go_keep) (first
      | (go_at_call 45; refine (SZ.out _ ?_).mono ?_; (first | exact below_on HW2.out OD.bel | exact below_on HW2.out (below_on OD.bel (below_alloc _ _)) | fail); rintro e w5 ⟨rfl, hb5⟩; have hB5 : Below w3.drew.heap.size w3.drew w5 := (by first | exact hb5 | exact below_on (below_alloc _ _) hb5 | fail); obtain ⟨e0, e1, e2, e3, e4, e5, e6, e7, e8, e9⟩ := (hxD.below hB5).ten)
      | (go_at_call 44; refine (row12_at (ns := [IntKind.u64.wrap T, IntKind.u64.wrap (nx : Int)]) HP2.out (by rw [HL4.out]; decide) HU2.out (by decide) rfl rfl (Nat.le_refl _) (OD.below ?_) ?_ ?_).mono ?_; (first | exact below_on hB5 (below_alloc _ _) | exact below_on (below_on hB5 (below_alloc _ _)) (below_alloc _ _) | fail); (first | exact lit_at .i64 [2, 2] (below_on (below_drew8 _) (below_on hb5 (below_alloc _ _))) rfl rfl | exact lit_at .i64 [2, 2] (below_on hb5 (below_alloc _ _)) rfl rfl | exact lit_at .i64 [2, 2] (below_alloc _ _) rfl rfl | exact lit_at .i64 [2, 2] (Below.refl _ _) rfl rfl | exact lit_at .i64 [2, 2] (Below.refl _ _) (World.size_alloc _ _) rfl | fail); (first | exact lit_at .u64 [IntKind.u64.wrap T, IntKind.u64.wrap (nx : Int)] (Below.refl _ _) rfl rfl | exact lit_at .u64 [IntKind.u64.wrap T, IntKind.u64.wrap (nx : Int)] (Below.refl _ _) (World.size_alloc _ _) rfl | exact lit_at .u64 [IntKind.u64.wrap T, IntKind.u64.wrap (nx : Int)] (below_alloc _ _) rfl rfl | fail); rintro e w7 ⟨rfl, p', O7⟩; obtain ⟨e0, e1, e2, e3, e4, e5, e6, e7, e8, e9⟩ := (hx2.below O7.bel).ten))
    all_goals
      go_wp2_with fail
      go_meet
      exact ⟨_, O7⟩
  case rest =>
    obtain ⟨p8, O8⟩ := hcut
    clear OD hxD O1 d0 d1 d2 d3 d4 d5 d6 d7 d8 d9
    obtain ⟨d0, d1, d2, d3, d4, d5, d6, d7, d8, d9⟩ :=  (hx2.below O8.bel).ten
    go_wp2_with fail
    refine (NU.out _ a _ (I2.out.below O8.bel)).mono ?_
    rintro e w9 ⟨b9, rfl, hI9, hb9⟩
    rw [HNL.out] at hI9
    have O9 := O8.below hb9
    clear d0 d1 d2 d3 d4 d5 d6 d7 d8 d9
    obtain ⟨d0, d1, d2, d3, d4, d5, d6, d7, d8, d9⟩ :=  (hx2.below O9.bel).ten
    clear hb9 O8
    go_wp2_with fail
    refine (row12_at HPT.out (by rw [HL4.out]; have := hpl.out; omega) HU.out (by omega) rfl NL.out.symm k1 O9 (I2.out.below O9.bel) hI9).mono ?_
    rintro e w10 ⟨rfl, p10, OA⟩
    clear d0 d1 d2 d3 d4 d5 d6 d7 d8 d9
    obtain ⟨d0, d1, d2, d3, d4, d5, d6, d7, d8, d9⟩ :=  (hx2.below OA.bel).ten
    clear hI9 O9
    have hx1 := HX.out
    have hn1 := HNX.out
    have hlA : (hd ++ p).length + d.length = nx := by rw [← List.length_append, ← hx1, hn1]
    have xl1 := xl.out
    obtain ⟨l0, hl0⟩ : ∃ l0, hd ++ p = l0 := ⟨_, rfl⟩
    rw [hl0] at OA hlA hx1
    have HX2 := hid hx1
    clear hx1 hl0 hn1 xl1
    go_wp2_with fail
    refine (OA.buf.bytes_ok d da dc (by omega) ((ID.out _ (below_on HW2.out OA.bel)))).mono ?_
    rintro e w11 ⟨rfl, p11, hG⟩
    have OB := OA.went hG
    rw [← HX2.out] at OB
    clear d0 d1 d2 d3 d4 d5 d6 d7 d8 d9 hG OA
    have hev : Hid (xs.length % 8 = 0) := by rw [HNX.out]; exact xl.out
    go_wp2_with fail
    refine (OB.buf.even_same (n := 8) (by decide) (by decide) hev.out).mono ?_
    rintro e w12 ⟨rfl, rfl⟩
    go_wp2_with fail
    refine OB.buf.done_ok.mono ?_
    rintro e w13 ⟨rfl, hF⟩
    obtain ⟨ad, cp, he, hl, hc, hI⟩ := own_ints hF.own
    have he1 : ad = some ⟨w11.heap.size, 0, none⟩ := by simpa using (congrArg (fun x => match x with | Value.slice a _ _ => a | _ => none) he).symm
    have HF := hid hF.bel
    have HI := hid hI
    have HE1 := hid he1
    have hsz := OB.bel.size
    have hsz2 := HW2.out.size
    clear he hl hc hI hF he1
    go_wp2_with fail
    go_ret2
    exact .inr ⟨xs, w11.heap.size, HN.out, rfl, below_on HW2.out (below_on OB.bel HF.out), by rw [← HE1.out]; exact HI.out, by omega⟩


set_option maxRecDepth 100000 in
set_option maxHeartbeats 4000000 in
theorem encode12_set (g : Ent12) (w : World) (hi : ActIn w g) (xs : List Int) (hn : act12 g.act = some xs) (hT : g.T = 25) :
    Calls Tryz.prog 11 #[g.val] w (EncPost12 g w) := by
  obtain ⟨W, hW, hbW, hx⟩ := act_box w g.T g.A g.B g.o.C g.o.F g.o.H g.o.X g.va g.o.v.length g.vc g.ma g.o.m.length g.mc g.da g.d.length g.dc
  have HW := hid hW
  have HB := hid hbW
  have HN := hid hn
  have RI := hid (fun (V : World) (hV : Below w.heap.size w V) => actRight_any g V (hi.below hV))
  have hr : right12 g = true := by rw [right_act g hi.ld, hn]; rfl
  rw [hr] at RI
  have SZ := hid (fun (V : World) (hV : Below w.heap.size w V) => actSize_any g V (hi.below hV))
  rw [size_act hn] at SZ
  obtain ⟨k1, k2, k3, k4, k5, k6⟩ := count_le12 g.T
  have RO := hid (fun V => rowOf_any g.T V)
  have NU := hid (fun (V : World) (a : Option Addr) (c : Nat) (ia : Ints .i64 V a (rowP g.T)) => numbers_at g.T g.A g.B g.o.C g.o.F g.o.H g.o.X g.va g.o.v.length g.vc g.ma g.o.m.length g.mc g.da g.d.length g.dc (rowP g.T) a c (countL (rowP g.T)) k2 k1 (by omega) V ia)
  have HU : Hid (U64s (nums12 g.act (rowP g.T))) := nums_u64 hi.num _
  have NL : Hid ((nums12 g.act (rowP g.T)).length = countL (rowP g.T)) := nums_len k1
  have ID := hid (fun (V : World) (hV : Below w.heap.size w V) => hi.id.below hV)
  have OE := hid (fun (V : World) (hV : Below w.heap.size w V) => encode8_any g.o.C g.o.F g.o.H g.o.X g.va g.vc g.ma g.mc g.o.v g.o.m hi.lv hi.lm hi.cm hi.ov hi.om V (hi.iv.below hV) (hi.im.below hV) hi.x.1)
  obtain ⟨bb, hbb, hww, hxx, hll, h8, hm8, hbig, ht0, ht1⟩ := act_write hn
  obtain ⟨_, _, hd0, hset, hbd⟩ := body_25 hbb hT
  have hro : rightB g.o.C g.o.F g.o.H g.o.X g.o.v g.o.m = true := by
    unfold setOk12 at hset
    simp only [Bool.and_eq_true] at hset
    exact hset.2
  have hPT : putW (rowP g.T) (nums12 g.act (rowP g.T)) = some [] := by
    rw [hT]
    simp [rowP, row12, nums12, countL, putW, rightW, allW, putL]
  have HX : Hid (xs = head12 g.T xs.length ++ bytes10 g.o ++ List.replicate (pad12 (bytes10 g.o).length) 0) := by
    show xs = _
    unfold head12
    rw [hll]
    refine hxx.trans ?_
    rw [hbd]
    show bytesL g.T 2 ++ (bytesL _ 2 ++ (bytes10 g.o ++ List.replicate (pad12 (bytes10 g.o).length) 0)) = _
    simp
  obtain ⟨hpad, hpad2⟩ := pad_fits (bytes10 g.o).length
  have hP2 := putW_head12 (t := g.T) (n := xs.length) ht0 ht1 hbig
  have HL4 := hid (head12_length g.T xs.length)
  have wT : IntKind.u64.wrap g.T = g.T := by rw [u64_wrap8]; have : g.act.T = g.T := rfl; omega
  have wN : IntKind.u64.wrap (xs.length : Int) = (xs.length : Int) := by rw [u64_wrap8]; omega
  have HU2 : Hid (U64s [IntKind.u64.wrap g.T, IntKind.u64.wrap (xs.length : Int)]) := by
    rw [wT, wN]
    intro y hy
    simp only [List.mem_cons, List.not_mem_nil, or_false] at hy
    rw [p256_8]
    have : g.act.T = g.T := rfl
    rcases hy with rfl | rfl <;> omega
  have HP2 : Hid (putW [2, 2] [IntKind.u64.wrap g.T, IntKind.u64.wrap (xs.length : Int)] = some (head12 g.T xs.length)) := by rw [wT, wN]; exact hP2
  have HPT := hid hPT
  have xl : Hid (xs.length % 8 = 0) := hm8
  obtain ⟨hd, hhd⟩ : ∃ hd, head12 g.T xs.length = hd := ⟨_, rfl⟩
  rw [hhd] at HX HL4 HP2
  clear hr hn hi hW hbW k2 k3 k4 k6 hPT wT wN hhd hP2 hm8 hxx hww hbb hll
  obtain ⟨nl, hnl⟩ : ∃ nl, nums12 g.act (rowP g.T) = nl := ⟨_, rfl⟩
  have HNL : Hid ([g.A, g.B].take (countL (rowP g.T)) = nl) := hnl
  rw [hnl] at HU NL HPT
  clear hnl
  obtain ⟨ob, hob⟩ : ∃ ob, bytes10 g.o = ob := ⟨_, rfl⟩
  rw [hob] at HX hpad hpad2
  have HOB := hid hob
  have HRO := hid hro
  obtain ⟨pd, hpd⟩ : ∃ pd, pad12 ob.length = pd := ⟨_, rfl⟩
  rw [hpd] at HX hpad hpad2
  clear hset hbd hob hro hpd
  obtain ⟨T, A, B, ⟨C, F, H, X, v, m⟩, va, vc, ma, mc, d, da, dc⟩ := g
  have hd1 : d = [] := hd0
  have hT2 : T = 25 := hT
  clear hT hd0
  subst hT2
  subst hd1
  obtain ⟨l, hl⟩ : ∃ l, rowP 25 = l := ⟨_, rfl⟩
  obtain ⟨rb, hrb⟩ : ∃ b, rowB 25 = b := ⟨_, rfl⟩
  simp only [List.length_nil] at *
  rw [hl] at RO NU NL HNL HPT k1 k5
  rw [hrb] at RO
  obtain ⟨cl, hcl⟩ : ∃ c, countL l = c := ⟨_, rfl⟩
  rw [hcl] at NU NL HNL k1
  clear hl hrb hcl
  unfold Ent12.val at *
  simp only at *
  obtain ⟨nx, hnx⟩ : ∃ n, xs.length = n := ⟨_, rfl⟩
  rw [hnx] at SZ HU2 HP2 xl h8 hbig
  have HNX := hid hnx
  clear hnx
  obtain ⟨d0, d1, d2, d3, d4, d5, d6, d7, d8, d9⟩ :=  hx.ten
  go_enter Tryz.func11, Tryz.ntmps11
  go_wp2_with fail
  rw [HW.out]
  go_wp2_with fail
  refine (RI.out _ HB.out).mono ?_
  rintro e w1 ⟨rfl, hb1⟩
  have HC1 := hid hb1
  clear d0 d1 d2 d3 d4 d5 d6 d7 d8 d9
  obtain ⟨d0, d1, d2, d3, d4, d5, d6, d7, d8, d9⟩ :=  (hx.below HC1.out).ten
  clear hb1
  go_wp2_with fail
  refine (RO.out _).mono ?_
  rintro e w2 ⟨a, rfl, hI2, hb2⟩
  have HC2 := hid (below_on HC1.out hb2)
  have I2 := hid hI2
  clear hb2 hI2
  go_wp2_with fail
  refine (bufNew_any 65528 _).mono ?_
  rintro e w3 ⟨gb, mm, rfl, hB, hb3, hg, hmm⟩
  have O1 : BufOn w2 w3 gb mm none 65528 [] [] 0 := ⟨hB, hb3, by rintro i (e | e | e); omega; omega; simp at e⟩
  have HW2 := hid (below_on HB.out HC2.out)
  have hx2 := hx.below HC2.out
  clear d0 d1 d2 d3 d4 d5 d6 d7 d8 d9
  obtain ⟨d0, d1, d2, d3, d4, d5, d6, d7, d8, d9⟩ :=  (hx2.below O1.bel).ten
  have OD := O1.below (below_drew8 w3)
  have hxD := hx2.below OD.bel
  clear hb3 hB hg hmm hx
  go_upto_region 5 with fail
  go_cut [19] (fun t19 wx => ∃ p, BufOn w2 wx gb mm p 65528 hd [] 0)
  case first =>
    go_region_held3 (fun w' => w'.cell? ⟨w.heap.size, 0, none⟩ = some (.int .i64 25) ∧ w'.cell? ⟨w.heap.size, 1, none⟩ = some (.int .u64 A) ∧ w'.cell? ⟨w.heap.size, 2, none⟩ = some (.int .u64 B) ∧ w'.cell? ⟨w.heap.size, 3, none⟩ = some (.int .i64 C) ∧ w'.cell? ⟨w.heap.size, 4, none⟩ = some (.int .i64 F) ∧ w'.cell? ⟨w.heap.size, 5, none⟩ = some (.bool H) ∧ w'.cell? ⟨w.heap.size, 6, none⟩ = some (.int .u64 X) ∧ w'.cell? ⟨w.heap.size, 7, none⟩ = some (.slice va v.length vc) ∧ w'.cell? ⟨w.heap.size, 8, none⟩ = some (.slice ma m.length mc) ∧ w'.cell? ⟨w.heap.size, 9, none⟩ = some (.slice da 0 dc)) (go_keep) (first
      | (go_at_call 45; refine (SZ.out _ ?_).mono ?_; (first | exact below_on HW2.out OD.bel | exact below_on HW2.out (below_on OD.bel (below_alloc _ _)) | fail); rintro e w5 ⟨rfl, hb5⟩; have hB5 : Below w3.drew.heap.size w3.drew w5 := (by first | exact hb5 | exact below_on (below_alloc _ _) hb5 | fail); obtain ⟨e0, e1, e2, e3, e4, e5, e6, e7, e8, e9⟩ := (hxD.below hB5).ten)
      | (go_at_call 44; refine (row12_at (ns := [IntKind.u64.wrap 25, IntKind.u64.wrap (nx : Int)]) HP2.out (by rw [HL4.out]; decide) HU2.out (by decide) rfl rfl (Nat.le_refl _) (OD.below ?_) ?_ ?_).mono ?_; (first | exact below_on hB5 (below_alloc _ _) | exact below_on (below_on hB5 (below_alloc _ _)) (below_alloc _ _) | fail); (first | exact lit_at .i64 [2, 2] (below_on (below_drew8 _) (below_on hb5 (below_alloc _ _))) rfl rfl | exact lit_at .i64 [2, 2] (below_on hb5 (below_alloc _ _)) rfl rfl | exact lit_at .i64 [2, 2] (below_alloc _ _) rfl rfl | exact lit_at .i64 [2, 2] (Below.refl _ _) rfl rfl | exact lit_at .i64 [2, 2] (Below.refl _ _) (World.size_alloc _ _) rfl | fail); (first | exact lit_at .u64 [IntKind.u64.wrap 25, IntKind.u64.wrap (nx : Int)] (Below.refl _ _) rfl rfl | exact lit_at .u64 [IntKind.u64.wrap 25, IntKind.u64.wrap (nx : Int)] (Below.refl _ _) (World.size_alloc _ _) rfl | exact lit_at .u64 [IntKind.u64.wrap 25, IntKind.u64.wrap (nx : Int)] (below_alloc _ _) rfl rfl | fail); rintro e w7 ⟨rfl, p', O7⟩; obtain ⟨e0, e1, e2, e3, e4, e5, e6, e7, e8, e9⟩ := (hx2.below O7.bel).ten))
    all_goals
      go_wp2_with fail
      go_meet
      exact ⟨_, O7⟩
  case rest =>
    obtain ⟨p8, O8⟩ := hcut
    clear OD hxD O1 d0 d1 d2 d3 d4 d5 d6 d7 d8 d9
    obtain ⟨d0, d1, d2, d3, d4, d5, d6, d7, d8, d9⟩ :=  (hx2.below O8.bel).ten
    go_wp2_with fail
    refine (NU.out _ a _ (I2.out.below O8.bel)).mono ?_
    rintro e w9 ⟨b9, rfl, hI9, hb9⟩
    rw [HNL.out] at hI9
    have O9 := O8.below hb9
    clear d0 d1 d2 d3 d4 d5 d6 d7 d8 d9
    obtain ⟨d0, d1, d2, d3, d4, d5, d6, d7, d8, d9⟩ :=  (hx2.below O9.bel).ten
    clear hb9 O8
    go_wp2_with fail
    refine (row12_at HPT.out (by rw [HL4.out]; decide) HU.out (by omega) rfl NL.out.symm k1 O9 (I2.out.below O9.bel) hI9).mono ?_
    rintro e w10 ⟨rfl, p10, OA⟩
    clear d0 d1 d2 d3 d4 d5 d6 d7 d8 d9
    obtain ⟨d0, d1, d2, d3, d4, d5, d6, d7, d8, d9⟩ :=  (hx2.below OA.bel).ten
    clear hI9 O9
    rw [List.append_nil] at OA
    go_wp2_with fail
    refine (OE.out _ (below_on HW2.out OA.bel)).mono ?_
    rintro e w11 (⟨hq, _⟩ | ⟨_, ad, cp, rfl, hb11, hI11, hcp⟩)
    · rw [HRO.out] at hq; simp at hq
    have hob : oxmBytes C F H X v m = ob := HOB.out
    rw [hob] at hI11 hcp ⊢
    have OB := OA.below hb11
    have I11 := hid hI11
    clear d0 d1 d2 d3 d4 d5 d6 d7 d8 d9 hb11 hI11 OA hob
    go_wp2_with fail
    refine (OB.buf.fail 0).mono ?_
    rintro e w12 ⟨rfl, hB12, hg12⟩
    have OC := OB.went (Went.by_g hB12 hg12)
    have I12 := hid (OB.buf.ints8 I11.out hg12)
    clear hB12 hg12
    have hx1 := HX.out
    have hn1 := HNX.out
    have hlA : hd.length + ob.length + pd = nx := by rw [← hn1, hx1]; simp; omega
    have xl1 := xl.out
    have hl4 := HL4.out
    go_wp2_with fail
    refine (OC.buf.bytes_ok ob ad cp (by omega) I12.out).mono ?_
    rintro e w13 ⟨rfl, p13, hG⟩
    have O_D := OC.went hG
    clear hG OC
    obtain ⟨d0, d1, d2, d3, d4, d5, d6, d7, d8, d9⟩ :=  (hx2.below O_D.bel).ten
    go_wp2_with fail
    refine (O_D.buf.bytes_ok [] da dc (by simp; omega) (Ints.nil _ _ _)).mono ?_
    rintro e w14 ⟨rfl, p14, hG⟩
    have OF := O_D.went hG
    rw [List.append_nil] at OF
    clear d0 d1 d2 d3 d4 d5 d6 d7 d8 d9 hG O_D
    obtain ⟨l0, hl0⟩ : ∃ l0, hd ++ ob = l0 := ⟨_, rfl⟩
    have hl0l : l0.length = 4 + ob.length := by rw [← hl0, List.length_append, hl4]
    rw [hl0] at OF hx1
    have HX2 := hid hx1
    clear hx1 hl0 hn1 xl1
    have fin : ∀ w15 p15, BufOn w2 w15 gb mm p15 65528 xs [] 0 → True := fun _ _ _ => trivial
    by_cases hp0 : pd = 0
    · subst hp0
      have hev : Hid (l0.length % 8 = 0) := by show l0.length % 8 = 0; omega
      have hxe : xs = l0 := by rw [HX2.out]; simp
      rw [← hxe] at OF hev
      clear hl0l hxe
      go_wp2_with fail
      refine (OF.buf.even_same (n := 8) (by decide) (by decide) hev.out).mono ?_
      rintro e w15 ⟨rfl, rfl⟩
      go_wp2_with fail
      refine OF.buf.done_ok.mono ?_
      rintro e w16 ⟨rfl, hF⟩
      obtain ⟨ad', cp', he, hl, hc, hI⟩ := own_ints hF.own
      have he1 : ad' = some ⟨w14.heap.size, 0, none⟩ := by simpa using (congrArg (fun x => match x with | Value.slice a _ _ => a | _ => none) he).symm
      have HF := hid hF.bel
      have HI := hid hI
      have HE1 := hid he1
      have hsz := OF.bel.size
      have hsz2 := HW2.out.size
      clear he hl hc hI hF he1
      go_wp2_with fail
      go_ret2
      exact .inr ⟨xs, w14.heap.size, HN.out, rfl, below_on HW2.out (below_on OF.bel HF.out), by rw [← HE1.out]; exact HI.out, by omega⟩
    · have h1 : l0.length % 8 + pd = 8 := by omega
      have h2 : 0 < l0.length % 8 := by omega
      have h3 : l0.length + pd ≤ 65528 := by omega
      have EV := hid (OF.buf.even_ok (n := 8) (q := pd) (by decide) (by decide) (by omega) h1 h2 h3)
      clear h1 h2 h3 hl0l
      go_wp2_with fail
      refine EV.out.mono ?_
      rintro e w15 ⟨rfl, p15, hG⟩
      have OG := OF.went hG
      rw [← HX2.out] at OG
      clear hG OF EV
      go_wp2_with fail
      refine OG.buf.done_ok.mono ?_
      rintro e w16 ⟨rfl, hF⟩
      obtain ⟨ad', cp', he, hl, hc, hI⟩ := own_ints hF.own
      have he1 : ad' = some ⟨w15.heap.size, 0, none⟩ := by simpa using (congrArg (fun x => match x with | Value.slice a _ _ => a | _ => none) he).symm
      have HF := hid hF.bel
      have HI := hid hI
      have HE1 := hid he1
      have hsz := OG.bel.size
      have hsz2 := HW2.out.size
      clear he hl hc hI hF he1
      go_wp2_with fail
      go_ret2
      exact .inr ⟨xs, w15.heap.size, HN.out, rfl, below_on HW2.out (below_on OG.bel HF.out), by rw [← HE1.out]; exact HI.out, by omega⟩


theorem actEncode_any (g : Ent12) (w : World) (hi : ActIn w g) : Calls Tryz.prog 11 #[g.val] w (EncPost12 g w) := by
  cases h : act12 g.act with
  | none => exact encode12_no g w hi h
  | some x =>
    by_cases hT : g.T = 25
    · exact encode12_set g w hi x h hT
    · exact encode12_row g w hi x h hT
end Go.Proofs.YtdjlbejhphbcoaaGreat
namespace Go.Proofs.YtdjlbejhphbcoaaGreat
open Go.RowKit
set_option linter.unusedVariables false

def lit12a : List Int := [0, 0, 0, 16, 0, 0, 0, 3, 255, 255, 0, 0, 0, 0, 0, 0]
def lit12b : List Int := [0, 25, 0, 16, 128, 0, 6, 6, 1, 2, 3, 4, 5, 6, 0, 1]
def outA12 : Act12 := ⟨0, 3, 65535, noOx, []⟩
theorem s12_1 : dec12 lit12a = .ok (outA12, 16) := by kernel_rfl
theorem s12_2 : dec12 lit12b = .error 528 := by kernel_rfl
theorem s12_3 : act12 outA12 = some lit12a := by kernel_rfl
theorem holds_lit12 (w : World) (l : List Int) (ho : Octets l) (hl : l.length ≤ 1000) : Holds (w.alloc (.cells (l.map (Value.int .u8)).toArray 5)) (some ⟨w.heap.size, 0, none⟩) l.length l :=
  ⟨Nat.le_refl _, by omega, ints_lit .u8 w l 5, ho, fun _ => ⟨_, _, rfl⟩⟩
theorem ent12_of {g : Ent12} (h : g.act = outA12) : ∃ va vc ma mc da dc, g = ⟨0, 3, 65535, noOx, va, vc, ma, mc, [], da, dc⟩ := by
  obtain ⟨T, A, B, o, va, vc, ma, mc, d, da, dc⟩ := g
  injection h with h1 h2 h3 h4 h5
  subst h1 h2 h3 h4 h5
  exact ⟨va, vc, ma, mc, da, dc, rfl⟩
set_option maxRecDepth 100000 in
set_option maxHeartbeats 2000000 in
theorem sure12_any (w : World) : Calls Tryz.prog 10 #[] w fun e w' => e = .returned (.bool true) ∧ Below w.heap.size w w' := by
  have hI1 := ints_lit .u8 w lit12a 5
  have hb0 := below_alloc w (.cells (lit12a.map (Value.int .u8)).toArray 5)
  have G1 := hid (actDecode_any lit12a _ 16 _ (holds_lit12 w lit12a (octets8 (by decide)) (by decide)))
  have HB0 := hid hb0
  have HI1 := hid hI1
  clear hI1 hb0
  go_enter Tryz.func10, Tryz.ntmps10
  go_wp2_with fail
  refine G1.out.mono ?_
  rintro e w1 (⟨q, hq, _⟩ | ⟨g, n, hq, rfl, hb1, hin, _⟩)
  · rw [s12_1] at hq; cases hq
  rw [s12_1] at hq
  obtain ⟨hg1, hg2⟩ : outA12 = g.act ∧ 16 = n := by injection hq with h; injection h with h1 h2; exact ⟨h1, h2⟩
  subst hg2
  obtain ⟨va, vc, ma, mc, da, dc, rfl⟩ := ent12_of hg1.symm
  have HB1 := hid (below_on HB0.out hb1)
  have I1 := hid (HI1.out.below hb1)
  have HIN := hid hin
  clear hb1 hq G1 hin hg1 HI1
  unfold Ent12.val noOx
  simp only [List.length_nil]
  obtain ⟨W1, hW1, hbW1, hX1⟩ := act_box w1 0 3 65535 0 0 false 0 va 0 vc ma 0 mc da 0 dc
  have HW1 := hid hW1
  have HB2 := hid (below_on HB1.out hbW1)
  have I2 := hid (I1.out.below hbW1)
  have IN2 := HIN.out.below hbW1
  have hb2 := below_alloc W1 (.cells (lit12b.map (Value.int .u8)).toArray 5)
  have G2 := hid (actDecode_any lit12b _ 16 _ (holds_lit12 W1 lit12b (octets8 (by decide)) (by decide)))
  have HB3 := hid (below_on HB2.out hb2)
  have hX2 := hX1.below hb2
  have I3 := hid (I2.out.below hb2)
  have IN3 := hid (IN2.below hb2)
  clear hW1 hbW1 hX1 hb2 I1 I2 IN2 HIN
  go_upto_region 3 with fail
  rw [HW1.out]
  go_wp2_with fail
  refine G2.out.mono ?_
  rintro e w2 (⟨q, hq, _, rfl, hb3⟩ | ⟨g, n, hq, _⟩)
  case inr => rw [s12_2] at hq; cases hq
  rw [s12_2] at hq
  obtain rfl : 528 = q := by injection hq
  have HB4 := hid (below_on HB3.out hb3)
  have hX3 := hX2.below hb3
  have I4 := hid (I3.out.below hb3)
  have IN4 := IN3.out.below hb3
  obtain ⟨V, hV, hbV, hXV⟩ := act_box w2 0 0 0 0 0 false 0 none 0 0 none 0 0 none 0 0
  have HV := hid hV
  have HB5 := hid (below_on HB4.out hbV)
  have hX4 := hX3.below hbV
  have I5 := hid (I4.out.below hbV)
  have IN5 := hid (IN4.below hbV)
  have G3 := hid (actEncode_any _ V IN5.out)
  clear hb3 hX2 hq G2 hV hbV hXV hX3 I3 I4 IN3 IN4
  unfold zero12
  go_upto_region 4 with fail
  rw [HV.out]
  obtain ⟨d0, d1, d2, d3, d4, d5, d6, d7, d8, d9⟩ := hX4.ten
  go_wp2_with fail
  refine G3.out.mono ?_
  rintro e w3 (⟨hq, _⟩ | ⟨xs, p, hq, rfl, hb4, hI, _⟩)
  · have : act12 outA12 = none := hq
    rw [s12_3] at this; cases this
  have hq2 : act12 outA12 = some xs := hq
  rw [s12_3] at hq2
  obtain rfl : lit12a = xs := by injection hq2
  have HB6 := hid (below_on HB5.out hb4)
  have hX5 := hX4.below hb4
  have I6 := hid (I5.out.below hb4)
  have IN6 := hid (IN5.out.below hb4)
  have HI := hid hI
  clear d0 d1 d2 d3 d4 d5 d6 d7 d8 d9 hb4 hX4 G3 hq hI hq2 I5 IN5
  obtain ⟨d0, d1, d2, d3, d4, d5, d6, d7, d8, d9⟩ := hX5.ten
  have hl : lit12a.length = 16 := rfl
  rw [hl]
  have BY := hid (bytes8_any lit12a lit12a (some ⟨p, 0, none⟩) (some ⟨w.heap.size, 0, none⟩) 16 16 16 16 rfl rfl w3 (by decide) (by decide) HI.out I6.out)
  have RI := hid (fun V hV => actRight_any _ V (IN6.out.below hV))
  have hr : ∀ g : Ent12, g.act = outA12 → right12 g = true := by
    intro g hg
    rw [right_act g (by rw [show g.d = [] from congrArg Act12.d hg]; simp), hg, s12_3]
    rfl
  have HRR : Hid (right12 ⟨0, 3, 65535, noOx, va, vc, ma, mc, [], da, dc⟩ = true) := hr _ rfl
  rw [HRR.out] at RI
  clear hr hl
  go_wp2_with fail
  refine BY.out.mono ?_
  rintro e w4 ⟨he, hb5⟩
  obtain rfl : e = .returned (.bool true) := he
  have HB7 := hid (below_on HB6.out hb5)
  clear d0 d1 d2 d3 d4 d5 d6 d7 d8 d9
  obtain ⟨d0, d1, d2, d3, d4, d5, d6, d7, d8, d9⟩ := (hX5.below hb5).ten
  go_wp2_with fail
  refine (RI.out _ hb5).mono ?_
  rintro e w5 ⟨rfl, hb6⟩
  have HB8 := hid (below_on HB7.out hb6)
  go_wp2_with fail
  go_ret
  exact ⟨rfl, HB8.out⟩
end Go.Proofs.YtdjlbejhphbcoaaGreat
