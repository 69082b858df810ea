/- Put together out of several texts. -/
import Derived.Test.YtdjlbejhphbcoaaGreatR32
import Derived.Deep.RegionHeld3
import Derived.Deep.DeepCutAuto
import Derived.Deep.RegionWith
import Derived.Test.YtdjlbejhphbcoaaGreatR33
namespace Go.Proofs.YtdjlbejhphbcoaaGreat
open Go.RowKit
set_option linter.unusedVariables false

set_option maxRecDepth 100000 in
set_option maxHeartbeats 4000000 in
theorem refDec12_fix1_ok (b : List Int) (a : Option Addr) (c : Nat) (hbl : b.length ≤ 2000) (w : World) (hH : Holds w a c b) (t : Int) (x : List Int) (n : Nat) (hr : oneL 8 8 false 514 514 b = .ok (t, x, n)) (l : List Int) (h25 : t ≠ 25) (hrow : row12 t = some l) (ns : List Int) (hg : getL l x = .ok ns) (hK : ns.length = 1) (hx1 : t ≠ 65535) (hxs : x.length = sizeL l) (has : asked12 t (ns.getD 0 0) = 0) :
    Calls Tryz.prog 17 #[.slice a b.length c] w (DecPost12 b w) := by
  obtain ⟨W, hW, hbW, hx⟩ := act_box w 0 0 0 0 0 false 0 none 0 0 none 0 0 none 0 0
  have HW := hid hW
  have HB := hid hbW
  have ONE := hid (refOne_any W 8 8 false 514 514 ⟨by decide, by decide, by decide, by decide, by decide, by decide⟩ b a c (hH.below hbW) (by omega))
  have HO := hid hH.oct
  rw [hr] at ONE
  have HR := hid hr
  have hxl := hx.lt
  obtain ⟨x4, xm, t0, t1, xl, ox⟩ := one_facts12 hH.oct hr
  have hxb : x.length ≤ 2000 := by
    obtain ⟨hw, h4, hk⟩ := write_one (by omega) hH.oct hr
    unfold writeL at hw
    split at hw
    · have h1 := congrArg List.length (Except.ok.inj hw)
      simp [bytesL_length] at h1
      omega
    · cases hw
  have RO := hid (fun V => refRow12_any t V)
  obtain ⟨k1, k2, k3, k4, k5, k6⟩ := count_le12 t
  have e8 : rowP t = l := by simp [rowP, hrow]
  have e9 : (row12 t).isSome = true := by rw [hrow]; rfl
  rw [e8] at RO k1 k2 k3 k4 k5 k6
  rw [e9] at RO
  have c25 : (t == 25) = false := by simpa using h25
  have hgw : getW l x = .ok ns := by rw [getW_yes12 (row_facts hrow).ok]; exact hg
  have hsle := (getL_len12 hg).2
  have HGW := hid hgw
  have OX := hid ox
  have HXL : Hid (x.length ≤ 2000) := hxb
  have hD : dec12 b = .ok (⟨t, ns.getD 0 0, ns.getD 1 0, noOx, x.drop (sizeL l)⟩, n) := by show _ = _; rw [dec12_read, HR.out]; show (match read12 t x with | .error q => Except.error q | .ok a => Except.ok (a, n)) = _; unfold read12; rw [if_neg h25, hrow]; simp only; rw [if_neg (by simp [hxs]), hgw]; simp only; rw [if_neg (fun k => k has)]
  obtain ⟨hac, _, _, _, hin, o1, o2, o3⟩ := dec_act hD hH.oct
  have HACT := hid (And.intro hac hin)
  have HO3 : Hid (Octets (x.drop (sizeL l))) := o3
  have HD := hid hD
  have AS := hid (fun V => refAsked_any t (ns.getD 0 0) V)
  rw [has] at AS
  obtain ⟨sl, hsl⟩ : ∃ s, sizeL l = s := ⟨_, rfl⟩
  rw [hsl] at k3 hsle hxs HD HACT HO3
  have K3 := hid k3
  have g2 : (((x.length : Nat) : Int) != (sl : Int)) = false := by rw [hxs]; simp
  have g1 : (t != 65535) = true := by simpa using hx1
  have is0 : (0 : Int) ≤ (sl : Int) := by omega
  have is1 : (sl : Int) ≤ (x.length : Int) := by omega
  obtain ⟨nA, hnA⟩ : ∃ A, ns.getD 0 0 = A := ⟨_, rfl⟩
  rw [hnA] at AS HD HACT
  have HNA := hid hnA
  obtain ⟨nB, hnB⟩ : ∃ A, ns.getD 1 0 = A := ⟨_, rfl⟩
  rw [hnB] at HD HACT
  have hB0 : (0 : Int) = nB := by rw [← hnB]; match ns, hK with | [_], _ => rfl
  subst hB0
  clear hnB hac hin o1 o2 o3 hD
  have HK := hid hK
  clear hH hW hbW hr xm t0 t1 xl ox hxb hrow e8 e9 h25 k1 k2 k3 k4 k6 hsl hg hgw hnA hsle has hK hxs hx1
  go_enter Tryz.func17, Tryz.ntmps17
  go_wp2_with fail
  rw [HW.out]
  refine ONE.out.mono ?_
  rintro e w1 ⟨a2, c2, rfl, h1, h2, i2, hnew, hb1⟩
  obtain ⟨M, off, he2, hc2⟩ := i2 0 (by omega)
  have hMl : M < w1.heap.size := World.block_lt_of_cell? w1 _ hc2
  subst he2
  obtain ⟨W2, hW2, hbW2, hy⟩ := item_box12r w1 t (some ⟨M, off, none⟩) x.length c2
  have HW2 := hid hW2
  have hW2s : W2.heap.size = w1.heap.size + 1 := by rw [← hW2]; simp
  obtain ⟨W3, hW3, hbW3, hz⟩ := act_box W2 t 0 0 0 0 false 0 none 0 0 none 0 0 none 0 0
  have HW3 := hid hW3
  have hx3 := ((hx.below hb1).below hbW2).below hbW3
  have hy3 := hy.below hbW3
  have HB3 := hid (below_on (below_on (below_on HB.out hb1) hbW2) hbW3)
  have I3 := hid ((i2.below hbW2).below hbW3)
  have HC2 := hid (And.intro h1 h2)
  have hs1 := hb1.size
  obtain ⟨f0, f1⟩ := hy.two
  have HS2 := hid hW2s
  clear hW2 hW3 hW2s
  go_upto_region 2 with fail
  rw [HW2.out]
  go_upto_region 5 with fail
  rw [HW3.out]
  clear hbW2 hbW3 hb1 hx hy i2 f0 f1 h1 h2 hc2 hnew
  obtain ⟨f0, f1⟩ := hy3.two
  obtain ⟨d0, d1, d2, d3, d4, d5, d6, d7, d8, d9⟩ := hz.ten
  go_wp2_with fail
  refine (RO.out _).mono ?_
  rintro e w4 ⟨ra, rfl, hI4, hb4⟩
  have hx4 := hx3.below hb4
  have hy4 := hy3.below hb4
  have hz4 := hz.below hb4
  have HB4 := hid (below_on HB3.out hb4)
  have I4 := hid (I3.out.below hb4)
  have R4 := hid hI4
  have hs4 := hb4.size
  have hs3 := HB3.out.size
  have hzl := hz.lt
  clear d0 d1 d2 d3 d4 d5 d6 d7 d8 d9
  clear hb4 hI4 f0 f1 hx3 hy3 hz
  obtain ⟨f0, f1⟩ := hy4.two
  obtain ⟨d0, d1, d2, d3, d4, d5, d6, d7, d8, d9⟩ := hz4.ten
  go_wp2_with fail
  have SZ := hid (refSize_any l ra l.length w4 (by omega) R4.out)
  rw [K3.out] at SZ
  refine SZ.out.mono ?_
  rintro e w' ⟨rfl, rfl⟩
  have GT := hid (refGet_any l x ra (some ⟨M, off, none⟩) l.length c2 w4 (by omega) HC2.out.1 HC2.out.2 OX.out R4.out I4.out)
  rw [HGW.out] at GT
  go_wp2_with fail
  refine GT.out.mono ?_
  rintro e w5 (⟨q', hq, _⟩ | ⟨ns', v5, hq, rfl, hF⟩)
  · cases hq
  cases hq
  obtain ⟨a5, c5, rfl, _, _, hI5⟩ := own_ints hF.own
  rw [HK.out]
  have hx5 := hx4.below hF.bel
  have hy5 := hy4.below hF.bel
  have hz5 := hz4.below hF.bel
  have HB5 := hid (below_on HB4.out hF.bel)
  have I5 := hid (I4.out.below hF.bel)
  have hs5 := hF.bel.size
  have hnew5 := hF.new
  obtain ⟨nb, noff, ea, cA⟩ := hI5 0 (by rw [HK.out]; decide)
  rw [HNA.out, Nat.add_zero] at cA
  subst ea
  have hnb : W2.heap.size ≠ nb := by have := hnew5 nb (by simp [Value.ownBlock]; try rfl); omega
  have hnb2 : ¬ nb = W2.heap.size := fun e => hnb e.symm
  have hnb3 : ¬ W2.heap.size = nb := hnb
  have hW2s := HS2.out
  have hwW2 : w.heap.size ≤ W2.heap.size := by omega
  have m1 : ¬ W2.heap.size = w.heap.size := by omega
  have m2 : ¬ w.heap.size = W2.heap.size := by omega
  have m3 : ¬ W2.heap.size = w1.heap.size := by omega
  have m4 : ¬ w1.heap.size = W2.heap.size := by omega
  have mM : ∀ y : Addr, some (⟨M, off, none⟩ : Addr) = some y → y.block ≠ W2.heap.size := by rintro y hy; cases hy; simp; omega
  clear d0 d1 d2 d3 d4 d5 d6 d7 d8 d9
  clear f0 f1 hF hI5 hx4 hy4 hz4 hnew5 hW2s
  obtain ⟨f0, f1⟩ := hy5.two
  obtain ⟨d0, d1, d2, d3, d4, d5, d6, d7, d8, d9⟩ := hz5.ten
  have zz := hz5.free
  go_upto_region 24 with fail
  have hz6 := (hz5.set 1 (.int .u64 nA) (by simp))
  have hx6 := (hx5.far (c := W2.heap.size) (i := 1) (.int .u64 nA) m1)
  have hy6 := (hy5.far (c := W2.heap.size) (i := 1) (.int .u64 nA) m3)
  have HB6 : Below w.heap.size w _ := (Below.setCell (p := ⟨W2.heap.size, 1, none⟩) HB5.out hwW2 (.int .u64 nA))
  have I6 := (Ints.apart (X := W2.heap.size) (i := 1) I5.out (.int .u64 nA) mM)
  obtain ⟨W6, hW6⟩ : ∃ W, w5.setCell ⟨W2.heap.size, 1, none⟩ (.int .u64 nA) = W := ⟨_, rfl⟩
  rw [hW6] at hz6 hx6 hy6 HB6 I6 ⊢
  have HW6 := hid hW6
  have hs6 : W6.heap.size = w5.heap.size := by rw [← hW6]; simp
  clear d0 d1 d2 d3 d4 d5 d6 d7 d8 d9
  clear f0 f1 zz hz5 hx5 hy5 hW6
  have HB6 := hid HB6
  have I6 := hid I6
  obtain ⟨f0, f1⟩ := hy6.two
  obtain ⟨d0, d1, d2, d3, d4, d5, d6, d7, d8, d9⟩ := hz6.ten
  go_wp2_with fail
  refine (AS.out _).mono ?_
  rintro e w' ⟨rfl, hw'⟩
  have hw2 := hw'.symm
  subst hw2
  obtain ⟨dd, hdd⟩ : ∃ d, x.drop sl = d := ⟨_, rfl⟩
  have hdl : dd.length = x.length - sl := by rw [← hdd, List.length_drop]
  rw [hdd] at HD HACT HO3
  have ic2 : (sl : Int) ≤ (c2 : Int) := by have := HC2.out.1; omega
  by_cases hcs : c2 = sl
  · skip
    have IR : Hid (∀ V : World, Below W6.heap.size W6 V → Ints .u8 V (some ⟨M, off, none⟩) dd) := by
      intro V hV
      have := (I6.out.below hV).drop (j := sl) (cap := c2) HC2.out.1
      rw [hdd] at this
      rw [if_pos hcs] at this
      exact this
    subst hcs
    have HDL := hid hdl
    clear hdl hdd
    have hz6D := hz6.below (below_drew8 W6)
    clear d0 d1 d2 d3 d4 d5 d6 d7 d8 d9
    clear f0 f1
    obtain ⟨d0, d1, d2, d3, d4, d5, d6, d7, d8, d9⟩ := hz6D.ten
    obtain ⟨f0, f1⟩ := (hy6.below (below_drew8 W6)).two
    have zz := hz6D.free
    obtain ⟨g0, g1', g2', g3, g4, g5, g6, g7, g8, g9⟩ := hz6.ten
    have zg := hz6.free
    go_upto_region 27 with fail
    go_cut [103] (fun t103 wx => ∃ a8 c8, BoxL wx W2.heap.size [.int .i64 t, .int .u64 nA, .int .u64 0, .int .i64 0, .int .i64 0, .bool false, .int .u64 0, .slice none 0 0, .slice none 0 0, .slice a8 dd.length c8] ∧ Ints .u8 wx a8 dd ∧ BoxL wx w.heap.size [.int .i64 0, .int .u64 0, .int .u64 0, .int .i64 0, .int .i64 0, .bool false, .int .u64 0, .slice none 0 0, .slice none 0 0, .slice none 0 0] ∧ Below w.heap.size w wx ∧ (∀ y : Addr, a8 = some y → W6.heap.size ≤ y.block) ∧ W6.heap.size ≤ wx.heap.size)
    case first =>
      go_region_law (first
        | (refine step_app (v := .slice none 0 0) rfl _ _ rfl elemU8 rfl (xs := ([] : List Int).map (Value.int .u8)) (own_nilI _ _ .u8) rfl (l := dd) (by rw [HDL.out]) (IR.out _ ?_) ?_ ?_ ?_; (exact below_drew8 _); (simp; have := HDL.out; have := HXL.out; omega); (simp; have := HDL.out; have := HXL.out; omega); intro v8 w8 hg8; rw [← List.map_append, List.nil_append] at hg8; obtain ⟨a8, c8, rfl, _, _, hI8⟩ := own_ints hg8.own; have hb8 := hg8.below (B := W6.drew.heap.size) (Nat.le_refl _) (by intro k hk; simp [Value.ownBlock] at hk); have hn8 := hg8.base (B := W6.drew.heap.size) (Nat.le_refl _) (by intro k hk; simp [Value.ownBlock] at hk); obtain ⟨u0, u1, u2, u3, u4, u5, u6, u7, u8, u9⟩ := (hz6D.below hb8).ten; have zu := (hz6D.below hb8).free)
        | fail)
      all_goals
        go_wp2_with fail
        go_meet
        have hn9 : ∀ y : Addr, a8 = some y → W6.heap.size ≤ y.block := by intro y hy; subst hy; exact hn8 y.block (by obtain ⟨yb, yo, ys⟩ := y; rfl)
        have hne8 : ∀ y : Addr, a8 = some y → y.block ≠ W2.heap.size := by intro y hy; have := hn9 y hy; have := hz6.lt; omega
        exact ⟨a8, c8, (hz6D.below hb8).set 9 (.slice a8 dd.length c8) (by simp), hI8.apart _ hne8, ((hx6.below (below_drew8 _)).below hb8).far _ m1, Below.setCell (below_on (below_on HB6.out (below_drew8 _)) hb8) (by simp; omega) _, hn9, by have := hb8.size; simp at this ⊢; exact this⟩
    case rest =>
      obtain ⟨a8, c8, hz8, hI8, hx8, hb8, hn8, hs8⟩ := hcut
      have N8 : Hid (New8 w a8) := fun y hy => by have := hn8 y hy; omega
      have M8 : Hid (∀ y : Addr, a8 = some y → y.block ≠ w.heap.size) := fun y hy => by have := hn8 y hy; omega
      have HI8 := hid hI8
      have HB8 := hid hb8
      clear hI8 hb8 hn8 zz zg g0 g1' g2' g3 g4 g5 g6 g7 g8 g9 f0 f1 hz6D
      clear d0 d1 d2 d3 d4 d5 d6 d7 d8 d9
      obtain ⟨d0, d1, d2, d3, d4, d5, d6, d7, d8, d9⟩ := hz8.ten
      obtain ⟨e0, e1, e2, e3, e4, e5, e6, e7, e8, e9⟩ := hx8.ten
      have zX := hx8.free
      go_wp2_with fail
      have hkk := hx8.set10 (.int .i64 t) (.int .u64 nA) (.int .u64 0) (.int .i64 0) (.int .i64 0) (.bool false) (.int .u64 0) (.slice none 0 0) (.slice none 0 0) (.slice a8 dd.length c8)
      obtain ⟨k0, k1', k2', k3, k4, k5', k6, k7, k8, k9⟩ := hkk.ten
      refine bodyPost_ret (v := .tuple #[.agg #[.int .i64 t, .int .u64 nA, .int .u64 0, .int .i64 0, .int .i64 0, .bool false, .int .u64 0, .slice none 0 0, .slice none 0 0, .slice a8 dd.length c8], .int .i64 n, .int .i64 0]) (by simp [results, Tryz.results17, go_sem, k0, k1', k2', k3, k4, k5', k6, k7, k8, k9]) rfl (.inr ⟨⟨t, nA, 0, noOx, none, 0, none, 0, dd, a8, c8⟩, n, HD.out, rfl, ?_, act_in12 (g := ⟨t, nA, 0, noOx, none, 0, none, 0, dd, a8, c8⟩) HACT.out.1 HACT.out.2 (Ints.nil _ _ _) (Ints.nil _ _ _) ?_ (by intro y hy; cases hy) (by intro y hy; cases hy) HO3.out (by simp [noOx]), (fun y hy => by cases hy), (fun y hy => by cases hy), N8.out⟩)
      · repeat (with_reducible refine Below.setCell ?_ (by simp) _)
        exact HB8.out
      · repeat (refine Ints.apart ?_ _ M8.out)
        exact HI8.out
  · skip
    have IR : Hid (∀ V : World, Below W6.heap.size W6 V → Ints .u8 V (some ⟨M, off + sl, none⟩) dd) := by
      intro V hV
      have := (I6.out.below hV).drop (j := sl) (cap := c2) HC2.out.1
      rw [hdd] at this
      rw [if_neg hcs] at this
      exact this
    have HDL := hid hdl
    clear hdl hdd
    have hz6D := hz6.below (below_drew8 W6)
    clear d0 d1 d2 d3 d4 d5 d6 d7 d8 d9
    clear f0 f1
    obtain ⟨d0, d1, d2, d3, d4, d5, d6, d7, d8, d9⟩ := hz6D.ten
    obtain ⟨f0, f1⟩ := (hy6.below (below_drew8 W6)).two
    have zz := hz6D.free
    obtain ⟨g0, g1', g2', g3, g4, g5, g6, g7, g8, g9⟩ := hz6.ten
    have zg := hz6.free
    go_upto_region 27 with fail
    go_cut [103] (fun t103 wx => ∃ a8 c8, BoxL wx W2.heap.size [.int .i64 t, .int .u64 nA, .int .u64 0, .int .i64 0, .int .i64 0, .bool false, .int .u64 0, .slice none 0 0, .slice none 0 0, .slice a8 dd.length c8] ∧ Ints .u8 wx a8 dd ∧ BoxL wx w.heap.size [.int .i64 0, .int .u64 0, .int .u64 0, .int .i64 0, .int .i64 0, .bool false, .int .u64 0, .slice none 0 0, .slice none 0 0, .slice none 0 0] ∧ Below w.heap.size w wx ∧ (∀ y : Addr, a8 = some y → W6.heap.size ≤ y.block) ∧ W6.heap.size ≤ wx.heap.size)
    case first =>
      go_region_law (first
        | (refine step_app (v := .slice none 0 0) rfl _ _ rfl elemU8 rfl (xs := ([] : List Int).map (Value.int .u8)) (own_nilI _ _ .u8) rfl (l := dd) (by rw [HDL.out]) (IR.out _ ?_) ?_ ?_ ?_; (exact below_drew8 _); (simp; have := HDL.out; have := HXL.out; omega); (simp; have := HDL.out; have := HXL.out; omega); intro v8 w8 hg8; rw [← List.map_append, List.nil_append] at hg8; obtain ⟨a8, c8, rfl, _, _, hI8⟩ := own_ints hg8.own; have hb8 := hg8.below (B := W6.drew.heap.size) (Nat.le_refl _) (by intro k hk; simp [Value.ownBlock] at hk); have hn8 := hg8.base (B := W6.drew.heap.size) (Nat.le_refl _) (by intro k hk; simp [Value.ownBlock] at hk); obtain ⟨u0, u1, u2, u3, u4, u5, u6, u7, u8, u9⟩ := (hz6D.below hb8).ten; have zu := (hz6D.below hb8).free)
        | fail)
      all_goals
        go_wp2_with fail
        go_meet
        have hn9 : ∀ y : Addr, a8 = some y → W6.heap.size ≤ y.block := by intro y hy; subst hy; exact hn8 y.block (by obtain ⟨yb, yo, ys⟩ := y; rfl)
        have hne8 : ∀ y : Addr, a8 = some y → y.block ≠ W2.heap.size := by intro y hy; have := hn9 y hy; have := hz6.lt; omega
        exact ⟨a8, c8, (hz6D.below hb8).set 9 (.slice a8 dd.length c8) (by simp), hI8.apart _ hne8, ((hx6.below (below_drew8 _)).below hb8).far _ m1, Below.setCell (below_on (below_on HB6.out (below_drew8 _)) hb8) (by simp; omega) _, hn9, by have := hb8.size; simp at this ⊢; exact this⟩
    case rest =>
      obtain ⟨a8, c8, hz8, hI8, hx8, hb8, hn8, hs8⟩ := hcut
      have N8 : Hid (New8 w a8) := fun y hy => by have := hn8 y hy; omega
      have M8 : Hid (∀ y : Addr, a8 = some y → y.block ≠ w.heap.size) := fun y hy => by have := hn8 y hy; omega
      have HI8 := hid hI8
      have HB8 := hid hb8
      clear hI8 hb8 hn8 zz zg g0 g1' g2' g3 g4 g5 g6 g7 g8 g9 f0 f1 hz6D
      clear d0 d1 d2 d3 d4 d5 d6 d7 d8 d9
      obtain ⟨d0, d1, d2, d3, d4, d5, d6, d7, d8, d9⟩ := hz8.ten
      obtain ⟨e0, e1, e2, e3, e4, e5, e6, e7, e8, e9⟩ := hx8.ten
      have zX := hx8.free
      go_wp2_with fail
      have hkk := hx8.set10 (.int .i64 t) (.int .u64 nA) (.int .u64 0) (.int .i64 0) (.int .i64 0) (.bool false) (.int .u64 0) (.slice none 0 0) (.slice none 0 0) (.slice a8 dd.length c8)
      obtain ⟨k0, k1', k2', k3, k4, k5', k6, k7, k8, k9⟩ := hkk.ten
      refine bodyPost_ret (v := .tuple #[.agg #[.int .i64 t, .int .u64 nA, .int .u64 0, .int .i64 0, .int .i64 0, .bool false, .int .u64 0, .slice none 0 0, .slice none 0 0, .slice a8 dd.length c8], .int .i64 n, .int .i64 0]) (by simp [results, Tryz.results17, go_sem, k0, k1', k2', k3, k4, k5', k6, k7, k8, k9]) rfl (.inr ⟨⟨t, nA, 0, noOx, none, 0, none, 0, dd, a8, c8⟩, n, HD.out, rfl, ?_, act_in12 (g := ⟨t, nA, 0, noOx, none, 0, none, 0, dd, a8, c8⟩) HACT.out.1 HACT.out.2 (Ints.nil _ _ _) (Ints.nil _ _ _) ?_ (by intro y hy; cases hy) (by intro y hy; cases hy) HO3.out (by simp [noOx]), (fun y hy => by cases hy), (fun y hy => by cases hy), N8.out⟩)
      · repeat (with_reducible refine Below.setCell ?_ (by simp) _)
        exact HB8.out
      · repeat (refine Ints.apart ?_ _ M8.out)
        exact HI8.out
set_option maxRecDepth 100000 in
set_option maxHeartbeats 4000000 in
theorem refDec12_fix2_ok (b : List Int) (a : Option Addr) (c : Nat) (hbl : b.length ≤ 2000) (w : World) (hH : Holds w a c b) (t : Int) (x : List Int) (n : Nat) (hr : oneL 8 8 false 514 514 b = .ok (t, x, n)) (l : List Int) (h25 : t ≠ 25) (hrow : row12 t = some l) (ns : List Int) (hg : getL l x = .ok ns) (hK : ns.length = 2) (hx1 : t ≠ 65535) (hxs : x.length = sizeL l) (has : asked12 t (ns.getD 0 0) = 0) :
    Calls Tryz.prog 17 #[.slice a b.length c] w (DecPost12 b w) := by
  obtain ⟨W, hW, hbW, hx⟩ := act_box w 0 0 0 0 0 false 0 none 0 0 none 0 0 none 0 0
  have HW := hid hW
  have HB := hid hbW
  have ONE := hid (refOne_any W 8 8 false 514 514 ⟨by decide, by decide, by decide, by decide, by decide, by decide⟩ b a c (hH.below hbW) (by omega))
  have HO := hid hH.oct
  rw [hr] at ONE
  have HR := hid hr
  have hxl := hx.lt
  obtain ⟨x4, xm, t0, t1, xl, ox⟩ := one_facts12 hH.oct hr
  have hxb : x.length ≤ 2000 := by
    obtain ⟨hw, h4, hk⟩ := write_one (by omega) hH.oct hr
    unfold writeL at hw
    split at hw
    · have h1 := congrArg List.length (Except.ok.inj hw)
      simp [bytesL_length] at h1
      omega
    · cases hw
  have RO := hid (fun V => refRow12_any t V)
  obtain ⟨k1, k2, k3, k4, k5, k6⟩ := count_le12 t
  have e8 : rowP t = l := by simp [rowP, hrow]
  have e9 : (row12 t).isSome = true := by rw [hrow]; rfl
  rw [e8] at RO k1 k2 k3 k4 k5 k6
  rw [e9] at RO
  have c25 : (t == 25) = false := by simpa using h25
  have hgw : getW l x = .ok ns := by rw [getW_yes12 (row_facts hrow).ok]; exact hg
  have hsle := (getL_len12 hg).2
  have HGW := hid hgw
  have OX := hid ox
  have HXL : Hid (x.length ≤ 2000) := hxb
  have hD : dec12 b = .ok (⟨t, ns.getD 0 0, ns.getD 1 0, noOx, x.drop (sizeL l)⟩, n) := by show _ = _; rw [dec12_read, HR.out]; show (match read12 t x with | .error q => Except.error q | .ok a => Except.ok (a, n)) = _; unfold read12; rw [if_neg h25, hrow]; simp only; rw [if_neg (by simp [hxs]), hgw]; simp only; rw [if_neg (fun k => k has)]
  obtain ⟨hac, _, _, _, hin, o1, o2, o3⟩ := dec_act hD hH.oct
  have HACT := hid (And.intro hac hin)
  have HO3 : Hid (Octets (x.drop (sizeL l))) := o3
  have HD := hid hD
  have AS := hid (fun V => refAsked_any t (ns.getD 0 0) V)
  rw [has] at AS
  obtain ⟨sl, hsl⟩ : ∃ s, sizeL l = s := ⟨_, rfl⟩
  rw [hsl] at k3 hsle hxs HD HACT HO3
  have K3 := hid k3
  have g2 : (((x.length : Nat) : Int) != (sl : Int)) = false := by rw [hxs]; simp
  have g1 : (t != 65535) = true := by simpa using hx1
  have is0 : (0 : Int) ≤ (sl : Int) := by omega
  have is1 : (sl : Int) ≤ (x.length : Int) := by omega
  obtain ⟨nA, hnA⟩ : ∃ A, ns.getD 0 0 = A := ⟨_, rfl⟩
  rw [hnA] at AS HD HACT
  have HNA := hid hnA
  obtain ⟨nB, hnB⟩ : ∃ A, ns.getD 1 0 = A := ⟨_, rfl⟩
  rw [hnB] at HD HACT
  have HNB := hid hnB
  clear hnB hac hin o1 o2 o3 hD
  have HK := hid hK
  clear hH hW hbW hr xm t0 t1 xl ox hxb hrow e8 e9 h25 k1 k2 k3 k4 k6 hsl hg hgw hnA hsle has hK hxs hx1
  go_enter Tryz.func17, Tryz.ntmps17
  go_wp2_with fail
  rw [HW.out]
  refine ONE.out.mono ?_
  rintro e w1 ⟨a2, c2, rfl, h1, h2, i2, hnew, hb1⟩
  obtain ⟨M, off, he2, hc2⟩ := i2 0 (by omega)
  have hMl : M < w1.heap.size := World.block_lt_of_cell? w1 _ hc2
  subst he2
  obtain ⟨W2, hW2, hbW2, hy⟩ := item_box12r w1 t (some ⟨M, off, none⟩) x.length c2
  have HW2 := hid hW2
  have hW2s : W2.heap.size = w1.heap.size + 1 := by rw [← hW2]; simp
  obtain ⟨W3, hW3, hbW3, hz⟩ := act_box W2 t 0 0 0 0 false 0 none 0 0 none 0 0 none 0 0
  have HW3 := hid hW3
  have hx3 := ((hx.below hb1).below hbW2).below hbW3
  have hy3 := hy.below hbW3
  have HB3 := hid (below_on (below_on (below_on HB.out hb1) hbW2) hbW3)
  have I3 := hid ((i2.below hbW2).below hbW3)
  have HC2 := hid (And.intro h1 h2)
  have hs1 := hb1.size
  obtain ⟨f0, f1⟩ := hy.two
  have HS2 := hid hW2s
  clear hW2 hW3 hW2s
  go_upto_region 2 with fail
  rw [HW2.out]
  go_upto_region 5 with fail
  rw [HW3.out]
  clear hbW2 hbW3 hb1 hx hy i2 f0 f1 h1 h2 hc2 hnew
  obtain ⟨f0, f1⟩ := hy3.two
  obtain ⟨d0, d1, d2, d3, d4, d5, d6, d7, d8, d9⟩ := hz.ten
  go_wp2_with fail
  refine (RO.out _).mono ?_
  rintro e w4 ⟨ra, rfl, hI4, hb4⟩
  have hx4 := hx3.below hb4
  have hy4 := hy3.below hb4
  have hz4 := hz.below hb4
  have HB4 := hid (below_on HB3.out hb4)
  have I4 := hid (I3.out.below hb4)
  have R4 := hid hI4
  have hs4 := hb4.size
  have hs3 := HB3.out.size
  have hzl := hz.lt
  clear d0 d1 d2 d3 d4 d5 d6 d7 d8 d9
  clear hb4 hI4 f0 f1 hx3 hy3 hz
  obtain ⟨f0, f1⟩ := hy4.two
  obtain ⟨d0, d1, d2, d3, d4, d5, d6, d7, d8, d9⟩ := hz4.ten
  go_wp2_with fail
  have SZ := hid (refSize_any l ra l.length w4 (by omega) R4.out)
  rw [K3.out] at SZ
  refine SZ.out.mono ?_
  rintro e w' ⟨rfl, rfl⟩
  have GT := hid (refGet_any l x ra (some ⟨M, off, none⟩) l.length c2 w4 (by omega) HC2.out.1 HC2.out.2 OX.out R4.out I4.out)
  rw [HGW.out] at GT
  go_wp2_with fail
  refine GT.out.mono ?_
  rintro e w5 (⟨q', hq, _⟩ | ⟨ns', v5, hq, rfl, hF⟩)
  · cases hq
  cases hq
  obtain ⟨a5, c5, rfl, _, _, hI5⟩ := own_ints hF.own
  rw [HK.out]
  have hx5 := hx4.below hF.bel
  have hy5 := hy4.below hF.bel
  have hz5 := hz4.below hF.bel
  have HB5 := hid (below_on HB4.out hF.bel)
  have I5 := hid (I4.out.below hF.bel)
  have hs5 := hF.bel.size
  have hnew5 := hF.new
  obtain ⟨nb, noff, ea, cA⟩ := hI5 0 (by rw [HK.out]; decide)
  rw [HNA.out, Nat.add_zero] at cA
  obtain ⟨nb', noff', eb, cB⟩ := hI5 1 (by rw [HK.out]; decide)
  rw [HNB.out] at cB
  subst ea
  have hnb : W2.heap.size ≠ nb := by have := hnew5 nb (by simp [Value.ownBlock]; try rfl); omega
  have hnb2 : ¬ nb = W2.heap.size := fun e => hnb e.symm
  have hnb3 : ¬ W2.heap.size = nb := hnb
  cases eb
  have hW2s := HS2.out
  have hwW2 : w.heap.size ≤ W2.heap.size := by omega
  have m1 : ¬ W2.heap.size = w.heap.size := by omega
  have m2 : ¬ w.heap.size = W2.heap.size := by omega
  have m3 : ¬ W2.heap.size = w1.heap.size := by omega
  have m4 : ¬ w1.heap.size = W2.heap.size := by omega
  have mM : ∀ y : Addr, some (⟨M, off, none⟩ : Addr) = some y → y.block ≠ W2.heap.size := by rintro y hy; cases hy; simp; omega
  clear d0 d1 d2 d3 d4 d5 d6 d7 d8 d9
  clear f0 f1 hF hI5 hx4 hy4 hz4 hnew5 hW2s
  obtain ⟨f0, f1⟩ := hy5.two
  obtain ⟨d0, d1, d2, d3, d4, d5, d6, d7, d8, d9⟩ := hz5.ten
  have zz := hz5.free
  go_upto_region 24 with fail
  have hz6 := ((hz5.set 1 (.int .u64 nA) (by simp)).set 2 (.int .u64 nB) (by simp))
  have hx6 := ((hx5.far (c := W2.heap.size) (i := 1) (.int .u64 nA) m1).far (c := W2.heap.size) (i := 2) (.int .u64 nB) m1)
  have hy6 := ((hy5.far (c := W2.heap.size) (i := 1) (.int .u64 nA) m3).far (c := W2.heap.size) (i := 2) (.int .u64 nB) m3)
  have HB6 : Below w.heap.size w _ := (Below.setCell (p := ⟨W2.heap.size, 2, none⟩) (Below.setCell (p := ⟨W2.heap.size, 1, none⟩) HB5.out hwW2 (.int .u64 nA)) hwW2 (.int .u64 nB))
  have I6 := (Ints.apart (X := W2.heap.size) (i := 2) (Ints.apart (X := W2.heap.size) (i := 1) I5.out (.int .u64 nA) mM) (.int .u64 nB) mM)
  obtain ⟨W6, hW6⟩ : ∃ W, (w5.setCell ⟨W2.heap.size, 1, none⟩ (.int .u64 nA)).setCell ⟨W2.heap.size, 2, none⟩ (.int .u64 nB) = W := ⟨_, rfl⟩
  rw [hW6] at hz6 hx6 hy6 HB6 I6 ⊢
  have HW6 := hid hW6
  have hs6 : W6.heap.size = w5.heap.size := by rw [← hW6]; simp
  clear d0 d1 d2 d3 d4 d5 d6 d7 d8 d9
  clear f0 f1 zz hz5 hx5 hy5 hW6
  have HB6 := hid HB6
  have I6 := hid I6
  obtain ⟨f0, f1⟩ := hy6.two
  obtain ⟨d0, d1, d2, d3, d4, d5, d6, d7, d8, d9⟩ := hz6.ten
  go_wp2_with fail
  refine (AS.out _).mono ?_
  rintro e w' ⟨rfl, hw'⟩
  have hw2 := hw'.symm
  subst hw2
  obtain ⟨dd, hdd⟩ : ∃ d, x.drop sl = d := ⟨_, rfl⟩
  have hdl : dd.length = x.length - sl := by rw [← hdd, List.length_drop]
  rw [hdd] at HD HACT HO3
  have ic2 : (sl : Int) ≤ (c2 : Int) := by have := HC2.out.1; omega
  by_cases hcs : c2 = sl
  · skip
    have IR : Hid (∀ V : World, Below W6.heap.size W6 V → Ints .u8 V (some ⟨M, off, none⟩) dd) := by
      intro V hV
      have := (I6.out.below hV).drop (j := sl) (cap := c2) HC2.out.1
      rw [hdd] at this
      rw [if_pos hcs] at this
      exact this
    subst hcs
    have HDL := hid hdl
    clear hdl hdd
    have hz6D := hz6.below (below_drew8 W6)
    clear d0 d1 d2 d3 d4 d5 d6 d7 d8 d9
    clear f0 f1
    obtain ⟨d0, d1, d2, d3, d4, d5, d6, d7, d8, d9⟩ := hz6D.ten
    obtain ⟨f0, f1⟩ := (hy6.below (below_drew8 W6)).two
    have zz := hz6D.free
    obtain ⟨g0, g1', g2', g3, g4, g5, g6, g7, g8, g9⟩ := hz6.ten
    have zg := hz6.free
    go_upto_region 27 with fail
    go_cut [103] (fun t103 wx => ∃ a8 c8, BoxL wx W2.heap.size [.int .i64 t, .int .u64 nA, .int .u64 nB, .int .i64 0, .int .i64 0, .bool false, .int .u64 0, .slice none 0 0, .slice none 0 0, .slice a8 dd.length c8] ∧ Ints .u8 wx a8 dd ∧ BoxL wx w.heap.size [.int .i64 0, .int .u64 0, .int .u64 0, .int .i64 0, .int .i64 0, .bool false, .int .u64 0, .slice none 0 0, .slice none 0 0, .slice none 0 0] ∧ Below w.heap.size w wx ∧ (∀ y : Addr, a8 = some y → W6.heap.size ≤ y.block) ∧ W6.heap.size ≤ wx.heap.size)
    case first =>
      go_region_law (first
        | (refine step_app (v := .slice none 0 0) rfl _ _ rfl elemU8 rfl (xs := ([] : List Int).map (Value.int .u8)) (own_nilI _ _ .u8) rfl (l := dd) (by rw [HDL.out]) (IR.out _ ?_) ?_ ?_ ?_; (exact below_drew8 _); (simp; have := HDL.out; have := HXL.out; omega); (simp; have := HDL.out; have := HXL.out; omega); intro v8 w8 hg8; rw [← List.map_append, List.nil_append] at hg8; obtain ⟨a8, c8, rfl, _, _, hI8⟩ := own_ints hg8.own; have hb8 := hg8.below (B := W6.drew.heap.size) (Nat.le_refl _) (by intro k hk; simp [Value.ownBlock] at hk); have hn8 := hg8.base (B := W6.drew.heap.size) (Nat.le_refl _) (by intro k hk; simp [Value.ownBlock] at hk); obtain ⟨u0, u1, u2, u3, u4, u5, u6, u7, u8, u9⟩ := (hz6D.below hb8).ten; have zu := (hz6D.below hb8).free)
        | fail)
      all_goals
        go_wp2_with fail
        go_meet
        have hn9 : ∀ y : Addr, a8 = some y → W6.heap.size ≤ y.block := by intro y hy; subst hy; exact hn8 y.block (by obtain ⟨yb, yo, ys⟩ := y; rfl)
        have hne8 : ∀ y : Addr, a8 = some y → y.block ≠ W2.heap.size := by intro y hy; have := hn9 y hy; have := hz6.lt; omega
        exact ⟨a8, c8, (hz6D.below hb8).set 9 (.slice a8 dd.length c8) (by simp), hI8.apart _ hne8, ((hx6.below (below_drew8 _)).below hb8).far _ m1, Below.setCell (below_on (below_on HB6.out (below_drew8 _)) hb8) (by simp; omega) _, hn9, by have := hb8.size; simp at this ⊢; exact this⟩
    case rest =>
      obtain ⟨a8, c8, hz8, hI8, hx8, hb8, hn8, hs8⟩ := hcut
      have N8 : Hid (New8 w a8) := fun y hy => by have := hn8 y hy; omega
      have M8 : Hid (∀ y : Addr, a8 = some y → y.block ≠ w.heap.size) := fun y hy => by have := hn8 y hy; omega
      have HI8 := hid hI8
      have HB8 := hid hb8
      clear hI8 hb8 hn8 zz zg g0 g1' g2' g3 g4 g5 g6 g7 g8 g9 f0 f1 hz6D
      clear d0 d1 d2 d3 d4 d5 d6 d7 d8 d9
      obtain ⟨d0, d1, d2, d3, d4, d5, d6, d7, d8, d9⟩ := hz8.ten
      obtain ⟨e0, e1, e2, e3, e4, e5, e6, e7, e8, e9⟩ := hx8.ten
      have zX := hx8.free
      go_wp2_with fail
      have hkk := hx8.set10 (.int .i64 t) (.int .u64 nA) (.int .u64 nB) (.int .i64 0) (.int .i64 0) (.bool false) (.int .u64 0) (.slice none 0 0) (.slice none 0 0) (.slice a8 dd.length c8)
      obtain ⟨k0, k1', k2', k3, k4, k5', k6, k7, k8, k9⟩ := hkk.ten
      refine bodyPost_ret (v := .tuple #[.agg #[.int .i64 t, .int .u64 nA, .int .u64 nB, .int .i64 0, .int .i64 0, .bool false, .int .u64 0, .slice none 0 0, .slice none 0 0, .slice a8 dd.length c8], .int .i64 n, .int .i64 0]) (by simp [results, Tryz.results17, go_sem, k0, k1', k2', k3, k4, k5', k6, k7, k8, k9]) rfl (.inr ⟨⟨t, nA, nB, noOx, none, 0, none, 0, dd, a8, c8⟩, n, HD.out, rfl, ?_, act_in12 (g := ⟨t, nA, nB, noOx, none, 0, none, 0, dd, a8, c8⟩) HACT.out.1 HACT.out.2 (Ints.nil _ _ _) (Ints.nil _ _ _) ?_ (by intro y hy; cases hy) (by intro y hy; cases hy) HO3.out (by simp [noOx]), (fun y hy => by cases hy), (fun y hy => by cases hy), N8.out⟩)
      · repeat (with_reducible refine Below.setCell ?_ (by simp) _)
        exact HB8.out
      · repeat (refine Ints.apart ?_ _ M8.out)
        exact HI8.out
  · skip
    have IR : Hid (∀ V : World, Below W6.heap.size W6 V → Ints .u8 V (some ⟨M, off + sl, none⟩) dd) := by
      intro V hV
      have := (I6.out.below hV).drop (j := sl) (cap := c2) HC2.out.1
      rw [hdd] at this
      rw [if_neg hcs] at this
      exact this
    have HDL := hid hdl
    clear hdl hdd
    have hz6D := hz6.below (below_drew8 W6)
    clear d0 d1 d2 d3 d4 d5 d6 d7 d8 d9
    clear f0 f1
    obtain ⟨d0, d1, d2, d3, d4, d5, d6, d7, d8, d9⟩ := hz6D.ten
    obtain ⟨f0, f1⟩ := (hy6.below (below_drew8 W6)).two
    have zz := hz6D.free
    obtain ⟨g0, g1', g2', g3, g4, g5, g6, g7, g8, g9⟩ := hz6.ten
    have zg := hz6.free
    go_upto_region 27 with fail
    go_cut [103] (fun t103 wx => ∃ a8 c8, BoxL wx W2.heap.size [.int .i64 t, .int .u64 nA, .int .u64 nB, .int .i64 0, .int .i64 0, .bool false, .int .u64 0, .slice none 0 0, .slice none 0 0, .slice a8 dd.length c8] ∧ Ints .u8 wx a8 dd ∧ BoxL wx w.heap.size [.int .i64 0, .int .u64 0, .int .u64 0, .int .i64 0, .int .i64 0, .bool false, .int .u64 0, .slice none 0 0, .slice none 0 0, .slice none 0 0] ∧ Below w.heap.size w wx ∧ (∀ y : Addr, a8 = some y → W6.heap.size ≤ y.block) ∧ W6.heap.size ≤ wx.heap.size)
    case first =>
      go_region_law (first
        | (refine step_app (v := .slice none 0 0) rfl _ _ rfl elemU8 rfl (xs := ([] : List Int).map (Value.int .u8)) (own_nilI _ _ .u8) rfl (l := dd) (by rw [HDL.out]) (IR.out _ ?_) ?_ ?_ ?_; (exact below_drew8 _); (simp; have := HDL.out; have := HXL.out; omega); (simp; have := HDL.out; have := HXL.out; omega); intro v8 w8 hg8; rw [← List.map_append, List.nil_append] at hg8; obtain ⟨a8, c8, rfl, _, _, hI8⟩ := own_ints hg8.own; have hb8 := hg8.below (B := W6.drew.heap.size) (Nat.le_refl _) (by intro k hk; simp [Value.ownBlock] at hk); have hn8 := hg8.base (B := W6.drew.heap.size) (Nat.le_refl _) (by intro k hk; simp [Value.ownBlock] at hk); obtain ⟨u0, u1, u2, u3, u4, u5, u6, u7, u8, u9⟩ := (hz6D.below hb8).ten; have zu := (hz6D.below hb8).free)
        | fail)
      all_goals
        go_wp2_with fail
        go_meet
        have hn9 : ∀ y : Addr, a8 = some y → W6.heap.size ≤ y.block := by intro y hy; subst hy; exact hn8 y.block (by obtain ⟨yb, yo, ys⟩ := y; rfl)
        have hne8 : ∀ y : Addr, a8 = some y → y.block ≠ W2.heap.size := by intro y hy; have := hn9 y hy; have := hz6.lt; omega
        exact ⟨a8, c8, (hz6D.below hb8).set 9 (.slice a8 dd.length c8) (by simp), hI8.apart _ hne8, ((hx6.below (below_drew8 _)).below hb8).far _ m1, Below.setCell (below_on (below_on HB6.out (below_drew8 _)) hb8) (by simp; omega) _, hn9, by have := hb8.size; simp at this ⊢; exact this⟩
    case rest =>
      obtain ⟨a8, c8, hz8, hI8, hx8, hb8, hn8, hs8⟩ := hcut
      have N8 : Hid (New8 w a8) := fun y hy => by have := hn8 y hy; omega
      have M8 : Hid (∀ y : Addr, a8 = some y → y.block ≠ w.heap.size) := fun y hy => by have := hn8 y hy; omega
      have HI8 := hid hI8
      have HB8 := hid hb8
      clear hI8 hb8 hn8 zz zg g0 g1' g2' g3 g4 g5 g6 g7 g8 g9 f0 f1 hz6D
      clear d0 d1 d2 d3 d4 d5 d6 d7 d8 d9
      obtain ⟨d0, d1, d2, d3, d4, d5, d6, d7, d8, d9⟩ := hz8.ten
      obtain ⟨e0, e1, e2, e3, e4, e5, e6, e7, e8, e9⟩ := hx8.ten
      have zX := hx8.free
      go_wp2_with fail
      have hkk := hx8.set10 (.int .i64 t) (.int .u64 nA) (.int .u64 nB) (.int .i64 0) (.int .i64 0) (.bool false) (.int .u64 0) (.slice none 0 0) (.slice none 0 0) (.slice a8 dd.length c8)
      obtain ⟨k0, k1', k2', k3, k4, k5', k6, k7, k8, k9⟩ := hkk.ten
      refine bodyPost_ret (v := .tuple #[.agg #[.int .i64 t, .int .u64 nA, .int .u64 nB, .int .i64 0, .int .i64 0, .bool false, .int .u64 0, .slice none 0 0, .slice none 0 0, .slice a8 dd.length c8], .int .i64 n, .int .i64 0]) (by simp [results, Tryz.results17, go_sem, k0, k1', k2', k3, k4, k5', k6, k7, k8, k9]) rfl (.inr ⟨⟨t, nA, nB, noOx, none, 0, none, 0, dd, a8, c8⟩, n, HD.out, rfl, ?_, act_in12 (g := ⟨t, nA, nB, noOx, none, 0, none, 0, dd, a8, c8⟩) HACT.out.1 HACT.out.2 (Ints.nil _ _ _) (Ints.nil _ _ _) ?_ (by intro y hy; cases hy) (by intro y hy; cases hy) HO3.out (by simp [noOx]), (fun y hy => by cases hy), (fun y hy => by cases hy), N8.out⟩)
      · repeat (with_reducible refine Below.setCell ?_ (by simp) _)
        exact HB8.out
      · repeat (refine Ints.apart ?_ _ M8.out)
        exact HI8.out
end Go.Proofs.YtdjlbejhphbcoaaGreat
namespace Go.Proofs.YtdjlbejhphbcoaaGreat
open Go.RowKit
set_option linter.unusedVariables false

theorem refDecode12_any (b : List Int) (a : Option Addr) (c : Nat) (hbl : b.length ≤ 2000) (w : World) (hH : Holds w a c b) :
    Calls Tryz.prog 17 #[.slice a b.length c] w (DecPost12 b w) := by
  cases hr : oneL 8 8 false 514 514 b with
  | error q => exact refDec12_err b a c hbl w hH q hr
  | ok r =>
    obtain ⟨t, x, n⟩ := r
    obtain ⟨x4, _⟩ := one_facts12 hH.oct hr
    by_cases h25 : t = 25
    · exact refDec12_set b a c hbl w hH t x n hr h25
    · cases hrow : row12 t with
      | none => exact refDec12_norow b a c hbl w hH t x n hr h25 hrow
      | some l =>
        by_cases hx1 : t = 65535
        · have hl : l = [4] := by rw [hx1] at hrow; exact (Option.some.inj hrow).symm
          cases hg : getL l x with
          | error q =>
            exfalso
            rw [hl] at hg
            unfold getL at hg
            rw [if_neg (by simpa using x4), if_pos (by decide)] at hg
            simp [getL, Except.map] at hg
          | ok ns =>
            have hK : ns.length = 1 := by
              rw [hl] at hg
              unfold getL at hg
              rw [if_neg (by simpa using x4), if_pos (by decide)] at hg
              simp [getL, Except.map] at hg
              rw [← hg]; rfl
            exact refDec12_exp1_ok b a c hbl w hH t x n hr l h25 hrow ns hg hK hx1 (by rw [hx1]; simp [asked12])
        · by_cases hxs : x.length = sizeL l
          · cases hg : getL l x with
            | error q =>
              have := getL_err12 hg (by omega)
              subst this
              exact refDec12_odd b a c hbl w hH t x n hr l h25 hrow hx1 hxs hg
            | ok ns =>
              have hk : ns.length ≤ 2 := by
                obtain ⟨_, _, hc, _⟩ := get_put hg (row_facts hrow).all (one_facts12 hH.oct hr).2.2.2.2.2
                have := (row_facts hrow).count
                omega
              by_cases has : asked12 t (ns.getD 0 0) = 0
              · rcases (show ns.length = 0 ∨ ns.length = 1 ∨ ns.length = 2 by omega) with h | h | h
                · exact refDec12_fix0_ok b a c hbl w hH t x n hr l h25 hrow ns hg h hx1 hxs has
                · exact refDec12_fix1_ok b a c hbl w hH t x n hr l h25 hrow ns hg h hx1 hxs has
                · exact refDec12_fix2_ok b a c hbl w hH t x n hr l h25 hrow ns hg h hx1 hxs has
              · rcases (show ns.length = 0 ∨ ns.length = 1 ∨ ns.length = 2 by omega) with h | h | h
                · exact refDec12_fix0_bad b a c hbl w hH t x n hr l h25 hrow ns hg h hx1 hxs has
                · exact refDec12_fix1_bad b a c hbl w hH t x n hr l h25 hrow ns hg h hx1 hxs has
                · exact refDec12_fix2_bad b a c hbl w hH t x n hr l h25 hrow ns hg h hx1 hxs has
          · exact refDec12_size b a c hbl w hH t x n hr l h25 hrow hx1 hxs
end Go.Proofs.YtdjlbejhphbcoaaGreat
