/- Layer 12's theorem: what was encoded is decoded. -/
import Derived.Test.YtaddhahghglabaaActT
namespace Go.Proofs.Ytaddhahghglabaa
open Go.RowKit
set_option linter.unusedVariables false

theorem row_holds12 {w : World} {a : Option Addr} {cap : Nat} {l : List Int} {zs : List Int} (h : IsRow .u8 w a l.length cap zs) (h1 : l.length ≤ cap) (h2 : cap ≤ 9223372036854775807) (h3 : Ints .u8 w a l) (h4 : Octets l) : Holds w a cap l := ⟨h1, h2, h3, h4, fun hc => h.shape hc⟩
theorem holds_some12 {w : World} {a : Option Addr} {c : Nat} {l : List Int} (h1 : l.length ≤ c) (h2 : c ≤ 9223372036854775807) (h3 : Ints .u8 w a l) (h4 : Octets l) (h0 : 0 < l.length) : Holds w a c l :=
  ⟨h1, h2, h3, h4, fun _ => by obtain ⟨b, off, he, _⟩ := h3 0 h0; exact ⟨b, off, he⟩⟩
theorem dec_no12 {b : List Int} {w : World} {e : Ending} {w' : World} {q : Int} (hd : dec12 b = .error q) (h : DecPost12 b w e w') : q ≠ 0 ∧ e = .returned (.tuple #[zero12, .int .i64 0, .int .i64 q]) ∧ Below w.heap.size w w' := by
  rcases h with ⟨q', hq, h0, he, hb⟩ | ⟨g, n, hq, _⟩
  · rw [hd] at hq
    cases hq
    exact ⟨h0, he, hb⟩
  · rw [hd] at hq; cases hq
theorem dec_yes12 {b : List Int} {w : World} {e : Ending} {w' : World} {a : Act12} {n : Nat} (hd : dec12 b = .ok (a, n)) (h : DecPost12 b w e w') : ∃ g : Ent12, g.act = a ∧ e = .returned (.tuple #[g.val, .int .i64 n, .int .i64 0]) ∧ Below w.heap.size w w' ∧ ActIn w' g := by
  rcases h with ⟨q', hq, h0, he, hb⟩ | ⟨g, n', hq, he, hb, hi, _⟩
  · rw [hd] at hq; cases hq
  · rw [hd] at hq
    injection hq with h1
    injection h1 with h1 h2
    subst h2
    exact ⟨g, h1.symm, he, hb, hi⟩
theorem act_octets {a : Act12} {x : List Int} (h : act12 a = some x) (ov : Octets a.o.v) (om : Octets a.o.m) (od : Octets a.d) : Octets x := by
  obtain ⟨b, hb, hw, hx, hl, h8, h9, h10, h11, h12⟩ := act_write h
  have hbo : Octets b := by
    by_cases hT : a.T = 25
    · obtain ⟨_, _, _, _, rfl⟩ := body_25 hb hT
      refine Octets.append (oxm_octets ov om) ?_
      intro y hy
      rw [List.mem_replicate] at hy
      omega
    · obtain ⟨w', p, _, _, _, _, _, _, _, _, hp, _, rfl⟩ := body_row hb hT
      exact Octets.append (putL_octets hp).1 od
  rw [hx]
  exact (bytesL_octets _ _).append ((bytesL_octets _ _).append hbo)
set_option maxRecDepth 100000 in
set_option maxHeartbeats 4000000 in
theorem ActionBack_no_err (g : Ent12) (hv : g.o.v.length ≤ 300) (hm : g.o.m.length ≤ 300) (hd : g.d.length ≤ 500) (bs : List Int) (a : Option Addr) (c : Nat) (hbl : bs.length ≤ 600) (w : World) (hi : ActIn w g) (hH : Holds w a c bs) (he : act12 g.act = none) (q : Int) (hdb : dec12 bs = .error q) :
    Calls Try.prog 4 #[g.val, .slice a bs.length c] w fun e w' => e = .returned (.bool true) ∧ Below w.heap.size w w' := by
  obtain ⟨W, hW, hbW, hx⟩ := act_box w g.T g.A g.B g.o.C g.o.F g.o.H g.o.X g.va g.o.v.length g.vc g.ma g.o.m.length g.mc g.da g.d.length g.dc
  have HW := hid hW
  have HB := hid hbW
  have F1 := fun V => actFew_any g.T g.A g.B g.o.C g.o.F g.o.H g.o.X g.va g.o.v.length g.vc g.ma g.o.m.length g.mc g.da g.d.length g.dc V
  rw [decide_eq_true (show g.o.v.length ≤ 300 ∧ g.o.m.length ≤ 300 from ⟨hv, hm⟩), decide_eq_true hd] at F1
  rw [Bool.true_and] at F1
  have F1 := hid F1
  have i600 : (bs.length : Int) ≤ 600 := by omega
  have HH := hid hH
  have EN := hid (fun V (hV : Below w.heap.size w V) => actEncode_any g V (hi.below hV))
  have DB := hid (fun V (hV : Below w.heap.size w V) => actDecode_any bs a c V (hH.below hV))
  have HE := hid he
  have HD := hid hdb
  clear hi hH hW hbW hv hm hd hbl he hdb
  obtain ⟨T, A, B, ⟨C, F, H, X, v, m⟩, va, vc, ma, mc, d, da, dc⟩ := g
  unfold Ent12.val at *
  simp only at *
  obtain ⟨d0, d1, d2, d3, d4, d5, d6, d7, d8, d9⟩ := hx.ten
  go_enter Try.func4, Try.ntmps4
  go_wp2_with fail
  rw [HW.out]
  go_wp2_with fail
  refine (F1.out _).mono ?_
  rintro e w1 ⟨rfl, hb⟩
  have HA := hid (below_on HB.out hb)
  have hx1 := hx.below hb
  clear hb hx
  clear d0 d1 d2 d3 d4 d5 d6 d7 d8 d9
  obtain ⟨d0, d1, d2, d3, d4, d5, d6, d7, d8, d9⟩ := hx1.ten
  go_wp2_with fail
  refine (EN.out _ HA.out).mono ?_
  rintro e w2 (⟨_, rfl, hb⟩ | ⟨_, _, hq, _⟩)
  case inr => rw [HE.out] at hq; cases hq
  have HZ := hid (below_on HA.out hb)
  clear hb hx1
  clear d0 d1 d2 d3 d4 d5 d6 d7 d8 d9
  go_wp2_with fail
  refine (DB.out _ HZ.out).mono ?_
  intro e w20 hD
  obtain ⟨hq0, rfl, hb⟩ := dec_no12 HD.out hD
  have HY1 := hid (below_on HZ.out hb)
  obtain ⟨W21, hW21, hbW21, hp⟩ := act_box w20 0 0 0 0 0 false 0 none 0 0 none 0 0 none 0 0
  have HW21 := hid hW21
  have HY2 := hid (below_on HY1.out hbW21)
  have q1 : (q != 0) = true := by simpa using hq0
  obtain ⟨e0, e1, e2, e3, e4, e5, e6, e7, e8, e9⟩ := hp.ten
  clear hD hb hW21 hbW21 hq0
  unfold zero12
  go_upto_region 12 with fail
  rw [HW21.out]
  go_wp2_with fail
  refine (sure12_any _).mono ?_
  rintro e w9 ⟨rfl, hb9⟩
  go_wp2_with fail
  go_ret
  exact ⟨rfl, below_on HY2.out hb9⟩
set_option maxRecDepth 100000 in
set_option maxHeartbeats 4000000 in
theorem ActionBack_no_ok (g : Ent12) (hv : g.o.v.length ≤ 300) (hm : g.o.m.length ≤ 300) (hd : g.d.length ≤ 500) (bs : List Int) (a : Option Addr) (c : Nat) (hbl : bs.length ≤ 600) (w : World) (hi : ActIn w g) (hH : Holds w a c bs) (he : act12 g.act = none) (a2 : Act12) (n2 : Nat) (hdb : dec12 bs = .ok (a2, n2)) :
    Calls Try.prog 4 #[g.val, .slice a bs.length c] w fun e w' => e = .returned (.bool true) ∧ Below w.heap.size w w' := by
  obtain ⟨W, hW, hbW, hx⟩ := act_box w g.T g.A g.B g.o.C g.o.F g.o.H g.o.X g.va g.o.v.length g.vc g.ma g.o.m.length g.mc g.da g.d.length g.dc
  have HW := hid hW
  have HB := hid hbW
  have F1 := fun V => actFew_any g.T g.A g.B g.o.C g.o.F g.o.H g.o.X g.va g.o.v.length g.vc g.ma g.o.m.length g.mc g.da g.d.length g.dc V
  rw [decide_eq_true (show g.o.v.length ≤ 300 ∧ g.o.m.length ≤ 300 from ⟨hv, hm⟩), decide_eq_true hd] at F1
  rw [Bool.true_and] at F1
  have F1 := hid F1
  have i600 : (bs.length : Int) ≤ 600 := by omega
  have HH := hid hH
  have EN := hid (fun V (hV : Below w.heap.size w V) => actEncode_any g V (hi.below hV))
  have DB := hid (fun V (hV : Below w.heap.size w V) => actDecode_any bs a c V (hH.below hV))
  have HE := hid he
  have HD := hid hdb
  obtain ⟨hac2, hn2, hn8, _, hin2, o1, o2, o3⟩ := dec_act hdb hH.oct
  have HAC2 := hid hac2
  have in1 : (n2 : Int) ≤ (bs.length : Int) := by omega
  have in2 : (n2 : Int) ≤ (c : Int) := by have := hH.cap; omega
  have in0 : (0 : Int) ≤ (n2 : Int) := by omega
  have HTN : Hid ((bs.take n2).length = n2 ∧ n2 ≤ 600) := by show _ ∧ _; rw [List.length_take]; omega
  clear hac2 hn2 hn8 hin2 o1 o2 o3
  clear hi hH hW hbW hv hm hd hbl he hdb
  obtain ⟨T, A, B, ⟨C, F, H, X, v, m⟩, va, vc, ma, mc, d, da, dc⟩ := g
  unfold Ent12.val at *
  simp only at *
  obtain ⟨d0, d1, d2, d3, d4, d5, d6, d7, d8, d9⟩ := hx.ten
  go_enter Try.func4, Try.ntmps4
  go_wp2_with fail
  rw [HW.out]
  go_wp2_with fail
  refine (F1.out _).mono ?_
  rintro e w1 ⟨rfl, hb⟩
  have HA := hid (below_on HB.out hb)
  have hx1 := hx.below hb
  clear hb hx
  clear d0 d1 d2 d3 d4 d5 d6 d7 d8 d9
  obtain ⟨d0, d1, d2, d3, d4, d5, d6, d7, d8, d9⟩ := hx1.ten
  go_wp2_with fail
  refine (EN.out _ HA.out).mono ?_
  rintro e w2 (⟨_, rfl, hb⟩ | ⟨_, _, hq, _⟩)
  case inr => rw [HE.out] at hq; cases hq
  have HZ := hid (below_on HA.out hb)
  clear hb hx1
  clear d0 d1 d2 d3 d4 d5 d6 d7 d8 d9
  go_wp2_with fail
  refine (DB.out _ HZ.out).mono ?_
  intro e w20 hD
  obtain ⟨g3, hg3, rfl, hb, hi3⟩ := dec_yes12 HD.out hD
  have HY1 := hid (below_on HZ.out hb)
  have EN3 := hid (fun V (hV : Below w20.heap.size w20 V) => actEncode_any g3 V (hi3.below hV))
  have RI3 := hid (fun V (hV : Below w20.heap.size w20 V) => actRight_any g3 V (hi3.below hV))
  have HR3 : Hid (right12 g3 = true) := by show _ = _; rw [right_act g3 hi3.ld, hg3, HAC2.out]; rfl
  rw [HR3.out] at RI3
  have HE3 : Hid (act12 g3.act = some (bs.take n2)) := by show _ = _; rw [hg3, HAC2.out]
  clear hD hb hi3 hg3 HR3
  obtain ⟨T3, A3, B3, ⟨C3, F3, H3, X3, v3, m3⟩, va3, vc3, ma3, mc3, d3, da3, dc3⟩ := g3
  unfold Ent12.val at *
  simp only at *
  obtain ⟨W21, hW21, hbW21, hp⟩ := act_box w20 T3 A3 B3 C3 F3 H3 X3 va3 v3.length vc3 ma3 m3.length mc3 da3 d3.length dc3
  have HW21 := hid hW21
  have HC21 := hid hbW21
  have HY2 := hid (below_on HY1.out hbW21)
  obtain ⟨e0, e1, e2, e3, e4, e5, e6, e7, e8, e9⟩ := hp.ten
  clear hW21 hbW21
  go_upto_region 12 with fail
  rw [HW21.out]
  go_wp2_with fail
  refine (EN3.out _ HC21.out).mono ?_
  rintro e w22 (⟨hq, _⟩ | ⟨zs, p3, hq, rfl, hb, hI3, _⟩)
  · rw [HE3.out] at hq; cases hq
  rw [HE3.out] at hq
  obtain rfl : bs.take n2 = zs := by injection hq
  rw [HTN.out.1]
  have HY3 := hid (below_on HY2.out hb)
  have HC22 := hid (below_on HC21.out hb)
  have hp2 := hp.below hb
  have I3 := hid hI3
  clear hb hp hI3 hq
  clear e0 e1 e2 e3 e4 e5 e6 e7 e8 e9
  obtain ⟨e0, e1, e2, e3, e4, e5, e6, e7, e8, e9⟩ := hp2.ten
  go_wp2_with fail
  refine (RI3.out _ HC22.out).mono ?_
  rintro e w23 ⟨rfl, hb⟩
  have HY4 := hid (below_on HY3.out hb)
  have I4 := hid (I3.out.below hb)
  have BY := hid (bytes8_any (bs.take n2) (bs.take n2) (some ⟨p3, 0, none⟩) a n2 n2 n2 c HTN.out.1.symm HTN.out.1.symm w23 (by have := HTN.out; omega) (by have := HTN.out; omega) I4.out ((HH.out.ints.below HY4.out).take n2))
  rw [rfl_beq8z] at BY
  clear hb hp2 I3
  clear e0 e1 e2 e3 e4 e5 e6 e7 e8 e9
  go_wp2_with fail
  refine BY.out.mono ?_
  rintro e w24 ⟨rfl, hb⟩
  have HY5 := hid (below_on HY4.out hb)
  clear hb
  go_wp2_with fail
  refine (sure12_any _).mono ?_
  rintro e w9 ⟨rfl, hb9⟩
  go_wp2_with fail
  go_ret
  exact ⟨rfl, below_on HY5.out hb9⟩
set_option maxRecDepth 100000 in
set_option maxHeartbeats 4000000 in
theorem ActionBack_yes_err (g : Ent12) (hv : g.o.v.length ≤ 300) (hm : g.o.m.length ≤ 300) (hd : g.d.length ≤ 500) (bs : List Int) (a : Option Addr) (c : Nat) (hbl : bs.length ≤ 600) (w : World) (hi : ActIn w g) (hH : Holds w a c bs) (xs : List Int) (he : act12 g.act = some xs) (q : Int) (hdb : dec12 bs = .error q) :
    Calls Try.prog 4 #[g.val, .slice a bs.length c] w fun e w' => e = .returned (.bool true) ∧ Below w.heap.size w w' := by
  obtain ⟨W, hW, hbW, hx⟩ := act_box w g.T g.A g.B g.o.C g.o.F g.o.H g.o.X g.va g.o.v.length g.vc g.ma g.o.m.length g.mc g.da g.d.length g.dc
  have HW := hid hW
  have HB := hid hbW
  have F1 := fun V => actFew_any g.T g.A g.B g.o.C g.o.F g.o.H g.o.X g.va g.o.v.length g.vc g.ma g.o.m.length g.mc g.da g.d.length g.dc V
  rw [decide_eq_true (show g.o.v.length ≤ 300 ∧ g.o.m.length ≤ 300 from ⟨hv, hm⟩), decide_eq_true hd] at F1
  rw [Bool.true_and] at F1
  have F1 := hid F1
  have i600 : (bs.length : Int) ≤ 600 := by omega
  have HH := hid hH
  have EN := hid (fun V (hV : Below w.heap.size w V) => actEncode_any g V (hi.below hV))
  have DB := hid (fun V (hV : Below w.heap.size w V) => actDecode_any bs a c V (hH.below hV))
  have HE := hid he
  have HD := hid hdb
  obtain ⟨_, -, -, -, hl8, hl8', hm8, hbig, -, -⟩ := act_write he
  have hox := act_octets he hi.ov hi.om hi.od
  have hdy := act_dec he hi.num bs
  have hdx := act_less he
  have SZ := hid (fun V (hV : Below w.heap.size w V) => actSizeS_any g V (hi.below hV))
  have hsz : sizeS12 g = xs.length := by unfold sizeS12; rw [right_act g hi.ld, he]; exact size_act he
  have RS := hid (fun V (hV : Below w.heap.size w V) (g2 : Ent12) (h2 : ActIn V g2) => refActSame_any g g2 V (hi.below hV) h2)
  obtain ⟨N, hN⟩ : ∃ N, xs.length = N + 1 := ⟨xs.length - 1, by omega⟩
  rw [hsz, hN] at SZ
  rw [hN, Nat.add_sub_cancel] at hdx
  obtain ⟨ys, hys⟩ : ∃ l, xs ++ bs = l := ⟨_, rfl⟩
  rw [hys, hN] at hdy
  have HNX := hid hN
  have HX2 : Hid (xs.length ≤ 65528) := hbig
  have HY := hid hys
  have HYL : Hid (8 ≤ ys.length ∧ ys.length ≤ 70000) := by show _ ∧ _; rw [← hys, List.length_append]; omega
  have HYO : Hid (Octets ys) := by rw [← hys]; exact hox.append hH.oct
  have HXO : Hid (Octets (xs.take N)) := hox.take N
  have HDY := hid hdy
  have HDX := hid hdx
  have HTL : Hid ((xs.take N).length = N) := by show _ = _; rw [List.length_take]; omega
  have i7 : (7 : Int) ≤ (N : Int) := by omega
  have i70 : (N : Int) ≤ 65527 := by omega
  have t1 : ((N : Int) + 1).tmod 8 = 0 := by rw [Int.tmod_eq_emod_of_nonneg (by omega)]; omega
  have t2 : ((N : Int) + 1) % 8 = 0 := by omega
  clear hl8 hl8' hm8 hbig hox hdy hdx hsz hN hys
  clear hi hH hW hbW hv hm hd hbl he hdb
  obtain ⟨T, A, B, ⟨C, F, H, X, v, m⟩, va, vc, ma, mc, d, da, dc⟩ := g
  unfold Ent12.val at *
  simp only at *
  obtain ⟨d0, d1, d2, d3, d4, d5, d6, d7, d8, d9⟩ := hx.ten
  go_enter Try.func4, Try.ntmps4
  go_wp2_with fail
  rw [HW.out]
  go_wp2_with fail
  refine (F1.out _).mono ?_
  rintro e w1 ⟨rfl, hb⟩
  have HA := hid (below_on HB.out hb)
  have hx1 := hx.below hb
  clear hb hx
  clear d0 d1 d2 d3 d4 d5 d6 d7 d8 d9
  obtain ⟨d0, d1, d2, d3, d4, d5, d6, d7, d8, d9⟩ := hx1.ten
  go_wp2_with fail
  refine (EN.out _ HA.out).mono ?_
  rintro e w2 (⟨hq, _⟩ | ⟨xs', p, hq, rfl, hb, hI2, _⟩)
  · rw [HE.out] at hq; cases hq
  rw [HE.out] at hq
  cases hq
  rw [HNX.out]
  have HA2 := hid (below_on HA.out hb)
  have hx2 := hx1.below hb
  have I2 := hid hI2
  clear hb hx1 hI2
  clear d0 d1 d2 d3 d4 d5 d6 d7 d8 d9
  obtain ⟨d0, d1, d2, d3, d4, d5, d6, d7, d8, d9⟩ := hx2.ten
  go_wp2_with (at_builtin; (first
    | (refine wp_app_ints rfl (.tmp 35) (.tmp 36) rfl elemU8 rfl (own_emptyI _ _ .u8) rfl HNX.out.symm (I2.out.below (below_alloc _ _)) (List.nil_append xs) (by have := HX2.out; omega) (by have := HX2.out; omega) ?_; intro a5 c5 w5 hl5 hc5 hI5 hg5; have hF5 := hg5.first)
    | (refine wp_app_ints rfl (.tmp 37) (.tmp 38) rfl elemU8 rfl hF5.own rfl rfl (HH.out.ints.below (below_on HA2.out hF5.bel)) HY.out (by have := HYL.out; omega) (by have := HYL.out; omega) ?_; intro a6 c6 w6 hl6 hc6 hI6 hg6; have hF6 := hF5.step hg6)
    | fail))
  have HA3 := hid (below_on HA2.out hF6.bel)
  have hx3 := hx2.below hF6.bel
  have J2 := hid (I2.out.below hF6.bel)
  have DY := hid (actDecode_any ys a6 c6 w6 (holds_some12 hl6 hc6 hI6 HYO.out (by have := HYL.out; omega)))
  clear hx2 HA2 I2 hF5 hF6 hg5 hg6 hI5 hI6 hl5 hl6 hc5 hc6
  clear d0 d1 d2 d3 d4 d5 d6 d7 d8 d9
  refine DY.out.mono ?_
  intro e w7 hD
  obtain ⟨g2, hg2, rfl, hb, hi2⟩ := dec_yes12 HDY.out hD
  have RS2 := RS.out w7 (below_on HA3.out hb) g2 hi2
  rw [show same12 (Ent12.act ⟨T, A, B, ⟨C, F, H, X, v, m⟩, va, vc, ma, mc, d, da, dc⟩) g2.act = true by rw [hg2]; exact same12_refl _] at RS2
  have RS := hid (fun V (hV : Below w7.heap.size w7 V) => by
    have := RS.out V (below_on (below_on HA3.out hb) hV) g2 (hi2.below hV)
    rw [show same12 (Ent12.act ⟨T, A, B, ⟨C, F, H, X, v, m⟩, va, vc, ma, mc, d, da, dc⟩) g2.act = true by rw [hg2]; exact same12_refl _] at this
    exact this)
  have hx4 := hx3.below hb
  have HA4 := hid (below_on HA3.out hb)
  have K2 := hid (J2.out.below hb)
  clear hD hx3 hb hi2 hg2 J2 DY RS2 HA3
  obtain ⟨T2, A2, B2, ⟨C2, F2, H2, X2, v2, m2⟩, va2, vc2, ma2, mc2, d2, da2, dc2⟩ := g2
  unfold Ent12.val at *
  simp only at *
  obtain ⟨W7, hW7, hbW7, hp7⟩ := act_box w7 T2 A2 B2 C2 F2 H2 X2 va2 v2.length vc2 ma2 m2.length mc2 da2 d2.length dc2
  have HW7 := hid hW7
  have HC7 := hid hbW7
  have hx5 := hx4.below hbW7
  have HA5 := hid (below_on HA4.out hbW7)
  have L2 := hid (K2.out.below hbW7)
  clear hx4 hW7 hbW7 K2
  obtain ⟨d0, d1, d2, d3, d4, d5, d6, d7, d8, d9⟩ := hx5.ten
  obtain ⟨e0, e1, e2, e3, e4, e5, e6, e7, e8, e9⟩ := hp7.ten
  go_upto_region 6 with fail
  rw [HW7.out]
  go_wp2_with fail
  refine (SZ.out _ HA5.out).mono ?_
  rintro e w8 ⟨rfl, hb⟩
  have HA6 := hid (below_on HA5.out hb)
  have HC8 := hid (below_on HC7.out hb)
  have hx6 := hx5.below hb
  have hp8 := hp7.below hb
  have M2 := hid (L2.out.below hb)
  clear hb hx5 hp7 L2 HA5
  clear d0 d1 d2 d3 d4 d5 d6 d7 d8 d9 e0 e1 e2 e3 e4 e5 e6 e7 e8 e9
  obtain ⟨d0, d1, d2, d3, d4, d5, d6, d7, d8, d9⟩ := hx6.ten
  obtain ⟨e0, e1, e2, e3, e4, e5, e6, e7, e8, e9⟩ := hp8.ten
  go_wp2_with fail
  refine (RS.out _ HC8.out).mono ?_
  rintro e w9 ⟨rfl, hb⟩
  have HA7 := hid (below_on HA6.out hb)
  have N2 := hid (M2.out.below hb)
  clear hb hx6 hp8 M2 HA6 RS
  clear d0 d1 d2 d3 d4 d5 d6 d7 d8 d9 e0 e1 e2 e3 e4 e5 e6 e7 e8 e9
  go_wp2_with fail
  have DX := hid (actDecode_any (xs.take N) (some ⟨p, 0, none⟩) (N + 1) w9 (holds_some12 (by rw [HTL.out]; omega) (by omega) (N2.out.take N) HXO.out (by rw [HTL.out]; omega)))
  rw [HTL.out] at DX
  refine DX.out.mono ?_
  intro e w10 hD
  obtain ⟨_, rfl, hb⟩ := dec_no12 HDX.out hD
  have HZ := hid (below_on HA7.out (below_on hb (below_alloc w10 (.cells #[.int .i64 0, .int .u64 0, .int .u64 0, .int .i64 0, .int .i64 0, .bool false, .int .u64 0, .slice none 0 0, .slice none 0 0, .slice none 0 0] 27))))
  clear hD hb N2 HA7 DX
  unfold zero12
  go_wp2_with fail
  refine (DB.out _ HZ.out).mono ?_
  intro e w20 hD
  obtain ⟨hq0, rfl, hb⟩ := dec_no12 HD.out hD
  have HY1 := hid (below_on HZ.out hb)
  obtain ⟨W21, hW21, hbW21, hp⟩ := act_box w20 0 0 0 0 0 false 0 none 0 0 none 0 0 none 0 0
  have HW21 := hid hW21
  have HY2 := hid (below_on HY1.out hbW21)
  have q1 : (q != 0) = true := by simpa using hq0
  obtain ⟨e0, e1, e2, e3, e4, e5, e6, e7, e8, e9⟩ := hp.ten
  clear hD hb hW21 hbW21 hq0
  unfold zero12
  go_upto_region 12 with fail
  rw [HW21.out]
  go_wp2_with fail
  refine (sure12_any _).mono ?_
  rintro e w9 ⟨rfl, hb9⟩
  go_wp2_with fail
  go_ret
  exact ⟨rfl, below_on HY2.out hb9⟩
set_option maxRecDepth 100000 in
set_option maxHeartbeats 4000000 in
theorem ActionBack_yes_ok (g : Ent12) (hv : g.o.v.length ≤ 300) (hm : g.o.m.length ≤ 300) (hd : g.d.length ≤ 500) (bs : List Int) (a : Option Addr) (c : Nat) (hbl : bs.length ≤ 600) (w : World) (hi : ActIn w g) (hH : Holds w a c bs) (xs : List Int) (he : act12 g.act = some xs) (a2 : Act12) (n2 : Nat) (hdb : dec12 bs = .ok (a2, n2)) :
    Calls Try.prog 4 #[g.val, .slice a bs.length c] w fun e w' => e = .returned (.bool true) ∧ Below w.heap.size w w' := by
  obtain ⟨W, hW, hbW, hx⟩ := act_box w g.T g.A g.B g.o.C g.o.F g.o.H g.o.X g.va g.o.v.length g.vc g.ma g.o.m.length g.mc g.da g.d.length g.dc
  have HW := hid hW
  have HB := hid hbW
  have F1 := fun V => actFew_any g.T g.A g.B g.o.C g.o.F g.o.H g.o.X g.va g.o.v.length g.vc g.ma g.o.m.length g.mc g.da g.d.length g.dc V
  rw [decide_eq_true (show g.o.v.length ≤ 300 ∧ g.o.m.length ≤ 300 from ⟨hv, hm⟩), decide_eq_true hd] at F1
  rw [Bool.true_and] at F1
  have F1 := hid F1
  have i600 : (bs.length : Int) ≤ 600 := by omega
  have HH := hid hH
  have EN := hid (fun V (hV : Below w.heap.size w V) => actEncode_any g V (hi.below hV))
  have DB := hid (fun V (hV : Below w.heap.size w V) => actDecode_any bs a c V (hH.below hV))
  have HE := hid he
  have HD := hid hdb
  obtain ⟨_, -, -, -, hl8, hl8', hm8, hbig, -, -⟩ := act_write he
  have hox := act_octets he hi.ov hi.om hi.od
  have hdy := act_dec he hi.num bs
  have hdx := act_less he
  have SZ := hid (fun V (hV : Below w.heap.size w V) => actSizeS_any g V (hi.below hV))
  have hsz : sizeS12 g = xs.length := by unfold sizeS12; rw [right_act g hi.ld, he]; exact size_act he
  have RS := hid (fun V (hV : Below w.heap.size w V) (g2 : Ent12) (h2 : ActIn V g2) => refActSame_any g g2 V (hi.below hV) h2)
  obtain ⟨N, hN⟩ : ∃ N, xs.length = N + 1 := ⟨xs.length - 1, by omega⟩
  rw [hsz, hN] at SZ
  rw [hN, Nat.add_sub_cancel] at hdx
  obtain ⟨ys, hys⟩ : ∃ l, xs ++ bs = l := ⟨_, rfl⟩
  rw [hys, hN] at hdy
  have HNX := hid hN
  have HX2 : Hid (xs.length ≤ 65528) := hbig
  have HY := hid hys
  have HYL : Hid (8 ≤ ys.length ∧ ys.length ≤ 70000) := by show _ ∧ _; rw [← hys, List.length_append]; omega
  have HYO : Hid (Octets ys) := by rw [← hys]; exact hox.append hH.oct
  have HXO : Hid (Octets (xs.take N)) := hox.take N
  have HDY := hid hdy
  have HDX := hid hdx
  have HTL : Hid ((xs.take N).length = N) := by show _ = _; rw [List.length_take]; omega
  have i7 : (7 : Int) ≤ (N : Int) := by omega
  have i70 : (N : Int) ≤ 65527 := by omega
  have t1 : ((N : Int) + 1).tmod 8 = 0 := by rw [Int.tmod_eq_emod_of_nonneg (by omega)]; omega
  have t2 : ((N : Int) + 1) % 8 = 0 := by omega
  clear hl8 hl8' hm8 hbig hox hdy hdx hsz hN hys
  obtain ⟨hac2, hn2, hn8, _, hin2, o1, o2, o3⟩ := dec_act hdb hH.oct
  have HAC2 := hid hac2
  have in1 : (n2 : Int) ≤ (bs.length : Int) := by omega
  have in2 : (n2 : Int) ≤ (c : Int) := by have := hH.cap; omega
  have in0 : (0 : Int) ≤ (n2 : Int) := by omega
  have HTN : Hid ((bs.take n2).length = n2 ∧ n2 ≤ 600) := by show _ ∧ _; rw [List.length_take]; omega
  clear hac2 hn2 hn8 hin2 o1 o2 o3
  clear hi hH hW hbW hv hm hd hbl he hdb
  obtain ⟨T, A, B, ⟨C, F, H, X, v, m⟩, va, vc, ma, mc, d, da, dc⟩ := g
  unfold Ent12.val at *
  simp only at *
  obtain ⟨d0, d1, d2, d3, d4, d5, d6, d7, d8, d9⟩ := hx.ten
  go_enter Try.func4, Try.ntmps4
  go_wp2_with fail
  rw [HW.out]
  go_wp2_with fail
  refine (F1.out _).mono ?_
  rintro e w1 ⟨rfl, hb⟩
  have HA := hid (below_on HB.out hb)
  have hx1 := hx.below hb
  clear hb hx
  clear d0 d1 d2 d3 d4 d5 d6 d7 d8 d9
  obtain ⟨d0, d1, d2, d3, d4, d5, d6, d7, d8, d9⟩ := hx1.ten
  go_wp2_with fail
  refine (EN.out _ HA.out).mono ?_
  rintro e w2 (⟨hq, _⟩ | ⟨xs', p, hq, rfl, hb, hI2, _⟩)
  · rw [HE.out] at hq; cases hq
  rw [HE.out] at hq
  cases hq
  rw [HNX.out]
  have HA2 := hid (below_on HA.out hb)
  have hx2 := hx1.below hb
  have I2 := hid hI2
  clear hb hx1 hI2
  clear d0 d1 d2 d3 d4 d5 d6 d7 d8 d9
  obtain ⟨d0, d1, d2, d3, d4, d5, d6, d7, d8, d9⟩ := hx2.ten
  go_wp2_with (at_builtin; (first
    | (refine wp_app_ints rfl (.tmp 35) (.tmp 36) rfl elemU8 rfl (own_emptyI _ _ .u8) rfl HNX.out.symm (I2.out.below (below_alloc _ _)) (List.nil_append xs) (by have := HX2.out; omega) (by have := HX2.out; omega) ?_; intro a5 c5 w5 hl5 hc5 hI5 hg5; have hF5 := hg5.first)
    | (refine wp_app_ints rfl (.tmp 37) (.tmp 38) rfl elemU8 rfl hF5.own rfl rfl (HH.out.ints.below (below_on HA2.out hF5.bel)) HY.out (by have := HYL.out; omega) (by have := HYL.out; omega) ?_; intro a6 c6 w6 hl6 hc6 hI6 hg6; have hF6 := hF5.step hg6)
    | fail))
  have HA3 := hid (below_on HA2.out hF6.bel)
  have hx3 := hx2.below hF6.bel
  have J2 := hid (I2.out.below hF6.bel)
  have DY := hid (actDecode_any ys a6 c6 w6 (holds_some12 hl6 hc6 hI6 HYO.out (by have := HYL.out; omega)))
  clear hx2 HA2 I2 hF5 hF6 hg5 hg6 hI5 hI6 hl5 hl6 hc5 hc6
  clear d0 d1 d2 d3 d4 d5 d6 d7 d8 d9
  refine DY.out.mono ?_
  intro e w7 hD
  obtain ⟨g2, hg2, rfl, hb, hi2⟩ := dec_yes12 HDY.out hD
  have RS2 := RS.out w7 (below_on HA3.out hb) g2 hi2
  rw [show same12 (Ent12.act ⟨T, A, B, ⟨C, F, H, X, v, m⟩, va, vc, ma, mc, d, da, dc⟩) g2.act = true by rw [hg2]; exact same12_refl _] at RS2
  have RS := hid (fun V (hV : Below w7.heap.size w7 V) => by
    have := RS.out V (below_on (below_on HA3.out hb) hV) g2 (hi2.below hV)
    rw [show same12 (Ent12.act ⟨T, A, B, ⟨C, F, H, X, v, m⟩, va, vc, ma, mc, d, da, dc⟩) g2.act = true by rw [hg2]; exact same12_refl _] at this
    exact this)
  have hx4 := hx3.below hb
  have HA4 := hid (below_on HA3.out hb)
  have K2 := hid (J2.out.below hb)
  clear hD hx3 hb hi2 hg2 J2 DY RS2 HA3
  obtain ⟨T2, A2, B2, ⟨C2, F2, H2, X2, v2, m2⟩, va2, vc2, ma2, mc2, d2, da2, dc2⟩ := g2
  unfold Ent12.val at *
  simp only at *
  obtain ⟨W7, hW7, hbW7, hp7⟩ := act_box w7 T2 A2 B2 C2 F2 H2 X2 va2 v2.length vc2 ma2 m2.length mc2 da2 d2.length dc2
  have HW7 := hid hW7
  have HC7 := hid hbW7
  have hx5 := hx4.below hbW7
  have HA5 := hid (below_on HA4.out hbW7)
  have L2 := hid (K2.out.below hbW7)
  clear hx4 hW7 hbW7 K2
  obtain ⟨d0, d1, d2, d3, d4, d5, d6, d7, d8, d9⟩ := hx5.ten
  obtain ⟨e0, e1, e2, e3, e4, e5, e6, e7, e8, e9⟩ := hp7.ten
  go_upto_region 6 with fail
  rw [HW7.out]
  go_wp2_with fail
  refine (SZ.out _ HA5.out).mono ?_
  rintro e w8 ⟨rfl, hb⟩
  have HA6 := hid (below_on HA5.out hb)
  have HC8 := hid (below_on HC7.out hb)
  have hx6 := hx5.below hb
  have hp8 := hp7.below hb
  have M2 := hid (L2.out.below hb)
  clear hb hx5 hp7 L2 HA5
  clear d0 d1 d2 d3 d4 d5 d6 d7 d8 d9 e0 e1 e2 e3 e4 e5 e6 e7 e8 e9
  obtain ⟨d0, d1, d2, d3, d4, d5, d6, d7, d8, d9⟩ := hx6.ten
  obtain ⟨e0, e1, e2, e3, e4, e5, e6, e7, e8, e9⟩ := hp8.ten
  go_wp2_with fail
  refine (RS.out _ HC8.out).mono ?_
  rintro e w9 ⟨rfl, hb⟩
  have HA7 := hid (below_on HA6.out hb)
  have N2 := hid (M2.out.below hb)
  clear hb hx6 hp8 M2 HA6 RS
  clear d0 d1 d2 d3 d4 d5 d6 d7 d8 d9 e0 e1 e2 e3 e4 e5 e6 e7 e8 e9
  go_wp2_with fail
  have DX := hid (actDecode_any (xs.take N) (some ⟨p, 0, none⟩) (N + 1) w9 (holds_some12 (by rw [HTL.out]; omega) (by omega) (N2.out.take N) HXO.out (by rw [HTL.out]; omega)))
  rw [HTL.out] at DX
  refine DX.out.mono ?_
  intro e w10 hD
  obtain ⟨_, rfl, hb⟩ := dec_no12 HDX.out hD
  have HZ := hid (below_on HA7.out (below_on hb (below_alloc w10 (.cells #[.int .i64 0, .int .u64 0, .int .u64 0, .int .i64 0, .int .i64 0, .bool false, .int .u64 0, .slice none 0 0, .slice none 0 0, .slice none 0 0] 27))))
  clear hD hb N2 HA7 DX
  unfold zero12
  go_wp2_with fail
  refine (DB.out _ HZ.out).mono ?_
  intro e w20 hD
  obtain ⟨g3, hg3, rfl, hb, hi3⟩ := dec_yes12 HD.out hD
  have HY1 := hid (below_on HZ.out hb)
  have EN3 := hid (fun V (hV : Below w20.heap.size w20 V) => actEncode_any g3 V (hi3.below hV))
  have RI3 := hid (fun V (hV : Below w20.heap.size w20 V) => actRight_any g3 V (hi3.below hV))
  have HR3 : Hid (right12 g3 = true) := by show _ = _; rw [right_act g3 hi3.ld, hg3, HAC2.out]; rfl
  rw [HR3.out] at RI3
  have HE3 : Hid (act12 g3.act = some (bs.take n2)) := by show _ = _; rw [hg3, HAC2.out]
  clear hD hb hi3 hg3 HR3
  obtain ⟨T3, A3, B3, ⟨C3, F3, H3, X3, v3, m3⟩, va3, vc3, ma3, mc3, d3, da3, dc3⟩ := g3
  unfold Ent12.val at *
  simp only at *
  obtain ⟨W21, hW21, hbW21, hp⟩ := act_box w20 T3 A3 B3 C3 F3 H3 X3 va3 v3.length vc3 ma3 m3.length mc3 da3 d3.length dc3
  have HW21 := hid hW21
  have HC21 := hid hbW21
  have HY2 := hid (below_on HY1.out hbW21)
  obtain ⟨e0, e1, e2, e3, e4, e5, e6, e7, e8, e9⟩ := hp.ten
  clear hW21 hbW21
  go_upto_region 12 with fail
  rw [HW21.out]
  go_wp2_with fail
  refine (EN3.out _ HC21.out).mono ?_
  rintro e w22 (⟨hq, _⟩ | ⟨zs, p3, hq, rfl, hb, hI3, _⟩)
  · rw [HE3.out] at hq; cases hq
  rw [HE3.out] at hq
  obtain rfl : bs.take n2 = zs := by injection hq
  rw [HTN.out.1]
  have HY3 := hid (below_on HY2.out hb)
  have HC22 := hid (below_on HC21.out hb)
  have hp2 := hp.below hb
  have I3 := hid hI3
  clear hb hp hI3 hq
  clear e0 e1 e2 e3 e4 e5 e6 e7 e8 e9
  obtain ⟨e0, e1, e2, e3, e4, e5, e6, e7, e8, e9⟩ := hp2.ten
  go_wp2_with fail
  refine (RI3.out _ HC22.out).mono ?_
  rintro e w23 ⟨rfl, hb⟩
  have HY4 := hid (below_on HY3.out hb)
  have I4 := hid (I3.out.below hb)
  have BY := hid (bytes8_any (bs.take n2) (bs.take n2) (some ⟨p3, 0, none⟩) a n2 n2 n2 c HTN.out.1.symm HTN.out.1.symm w23 (by have := HTN.out; omega) (by have := HTN.out; omega) I4.out ((HH.out.ints.below HY4.out).take n2))
  rw [rfl_beq8z] at BY
  clear hb hp2 I3
  clear e0 e1 e2 e3 e4 e5 e6 e7 e8 e9
  go_wp2_with fail
  refine BY.out.mono ?_
  rintro e w24 ⟨rfl, hb⟩
  have HY5 := hid (below_on HY4.out hb)
  clear hb
  go_wp2_with fail
  refine (sure12_any _).mono ?_
  rintro e w9 ⟨rfl, hb9⟩
  go_wp2_with fail
  go_ret
  exact ⟨rfl, below_on HY5.out hb9⟩
set_option maxRecDepth 100000 in
set_option maxHeartbeats 2000000 in
theorem ActionBack_many (T A B C F : Int) (H : Bool) (X : Int) (va : Option Addr) (vl vc : Nat) (ma : Option Addr) (ml mc : Nat) (da : Option Addr) (dl dc : Nat) (a : Option Addr) (n c : Nat) (r : Bool) (h1 : (decide (vl ≤ 300 ∧ ml ≤ 300) && decide (dl ≤ 500)) = r) (hn : r = false ∨ (r = true ∧ 600 < n)) (w : World) :
    Calls Try.prog 4 #[.agg #[.int .i64 T, .int .u64 A, .int .u64 B, .int .i64 C, .int .i64 F, .bool H, .int .u64 X, .slice va vl vc, .slice ma ml mc, .slice da dl dc], .slice a n c] w fun e w' => e = .returned (.bool true) ∧ Below w.heap.size w w' := by
  obtain ⟨W, hW, hbW, hx⟩ := act_box w T A B C F H X va vl vc ma ml mc da dl dc
  have HW := hid hW
  have HB := hid hbW
  have F1 := fun V => actFew_any T A B C F H X va vl vc ma ml mc da dl dc V
  rw [h1] at F1
  have F1 := hid F1
  obtain ⟨d0, d1, d2, d3, d4, d5, d6, d7, d8, d9⟩ := hx.ten
  clear hW hbW h1
  rcases hn with rfl | ⟨rfl, hn⟩
  · go_enter Try.func4, Try.ntmps4
    go_wp2_with fail
    rw [HW.out]
    go_wp2_with fail
    refine (F1.out _).mono ?_
    rintro e w1 ⟨rfl, hb⟩
    have HA := hid (below_on HB.out hb)
    clear hb
    go_wp2_with fail
    refine (sure12_any _).mono ?_
    rintro e w9 ⟨rfl, hb9⟩
    go_wp2_with fail
    go_ret
    exact ⟨rfl, below_on HA.out hb9⟩
  · have i600 : 600 < (n : Int) := by omega
    clear hn
    go_enter Try.func4, Try.ntmps4
    go_wp2_with fail
    rw [HW.out]
    go_wp2_with fail
    refine (F1.out _).mono ?_
    rintro e w1 ⟨rfl, hb⟩
    have HA := hid (below_on HB.out hb)
    clear hb
    go_wp2_with fail
    refine (sure12_any _).mono ?_
    rintro e w9 ⟨rfl, hb9⟩
    go_wp2_with fail
    go_ret
    exact ⟨rfl, below_on HA.out hb9⟩
theorem ActionBack_walk (g : Ent12) (bs : List Int) (a : Option Addr) (c : Nat) (w : World) (h1 : ActArg w g) (hH : Holds w a c bs) :
    Calls Try.prog 4 #[g.val, .slice a bs.length c] w fun e w' => e = .returned (.bool true) ∧ Below w.heap.size w w' := by
  cases hf : (decide (g.o.v.length ≤ 300 ∧ g.o.m.length ≤ 300) && decide (g.d.length ≤ 500)) with
  | false => exact ActionBack_many _ _ _ _ _ _ _ _ _ _ _ _ _ _ _ _ _ _ _ _ hf (.inl rfl) w
  | true =>
    by_cases hbl : bs.length ≤ 600
    · obtain ⟨i1, a1, a2, a3⟩ := h1.few hf
      cases he : act12 g.act with
      | none =>
        cases hd : dec12 bs with
        | error q => exact ActionBack_no_err g a1 a2 a3 bs a c hbl w i1 hH he q hd
        | ok r => obtain ⟨a', n'⟩ := r; exact ActionBack_no_ok g a1 a2 a3 bs a c hbl w i1 hH he a' n' hd
      | some xs =>
        cases hd : dec12 bs with
        | error q => exact ActionBack_yes_err g a1 a2 a3 bs a c hbl w i1 hH xs he q hd
        | ok r => obtain ⟨a', n'⟩ := r; exact ActionBack_yes_ok g a1 a2 a3 bs a c hbl w i1 hH xs he a' n' hd
    · exact ActionBack_many _ _ _ _ _ _ _ _ _ _ _ _ _ _ _ _ _ _ _ _ hf (.inr ⟨rfl, by omega⟩) w
end Go.Proofs.Ytaddhahghglabaa
