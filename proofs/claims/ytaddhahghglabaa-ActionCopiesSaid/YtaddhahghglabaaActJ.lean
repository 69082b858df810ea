/- Package action: Right, Size. -/
import Derived.Test.YtaddhahghglabaaActI
import Derived.Test.YtaddhahghglabaaMrg4
namespace Go.Proofs.Ytaddhahghglabaa
open Go.RowKit
set_option linter.unusedVariables false

theorem right_ways (g : Ent12) : ∃ r, right12 g = r ∧ ((rowB g.T = false ∧ r = false) ∨ (rowB g.T = true ∧ bare12 g = false ∧ r = false) ∨ (rowB g.T = true ∧ bare12 g = true ∧ wrong12 g.act ≠ 0 ∧ r = false) ∨ (rowB g.T = true ∧ bare12 g = true ∧ wrong12 g.act = 0 ∧ putW (rowP g.T) (nums12 g.act (rowP g.T)) = none ∧ r = false) ∨ (∃ bs, rowB g.T = true ∧ bare12 g = true ∧ wrong12 g.act = 0 ∧ putW (rowP g.T) (nums12 g.act (rowP g.T)) = some bs ∧ r = decide (size12 g.act ≤ 65528))) := by
  refine ⟨_, rfl, ?_⟩
  unfold right12
  cases h1 : rowB g.T
  · exact .inl ⟨rfl, by simp⟩
  · cases h2 : bare12 g
    · exact .inr (.inl ⟨rfl, rfl, by simp⟩)
    · by_cases h3 : wrong12 g.act = 0
      · cases h4 : putW (rowP g.T) (nums12 g.act (rowP g.T)) with
        | none => exact .inr (.inr (.inr (.inl ⟨rfl, rfl, h3, rfl, by simp⟩)))
        | some bs => exact .inr (.inr (.inr (.inr ⟨bs, rfl, rfl, h3, rfl, by simp [h3]⟩)))
      · exact .inr (.inr (.inl ⟨rfl, rfl, h3, by simp [h3]⟩))

set_option maxRecDepth 100000 in
set_option maxHeartbeats 2000000 in
theorem actRight_any (g : Ent12) (w : World) (hi : ActIn w g) :
    Calls Try.prog 13 #[g.val] w fun e w' => e = .returned (.bool (right12 g)) ∧ Below w.heap.size w w' := by
  obtain ⟨W, hW, hbW, hx⟩ := act_box w g.T g.A g.B g.o.C g.o.F g.o.H g.o.X g.va g.o.v.length g.vc g.ma g.o.m.length g.mc g.da g.d.length g.dc
  have HW := hid hW
  have HB := hid hbW
  obtain ⟨k1, k2, k3, k4, k5, k6⟩ := count_le12 g.T
  have RO := hid (rowOf_any g.T W)
  have BA := hid (fun (V : World) (hV : Below w.heap.size w V) => isBare_any g V (hi.below hV))
  have WR := hid (fun (V : World) (hV : Below w.heap.size w V) => wrong_any g V (hi.below hV))
  have SZ := hid (fun (V : World) (hV : Below w.heap.size w V) => actSize_any g V (hi.below hV))
  have NU := hid (fun (V : World) (a : Option Addr) (c : Nat) (ia : Ints .i64 V a (rowP g.T)) => numbers_at g.T g.A g.B g.o.C g.o.F g.o.H g.o.X g.va g.o.v.length g.vc g.ma g.o.m.length g.mc g.da g.d.length g.dc (rowP g.T) a c (countL (rowP g.T)) k2 k1 (by omega) V ia)
  have HU : Hid (U64s (nums12 g.act (rowP g.T))) := nums_u64 hi.num _
  have NL : Hid ((nums12 g.act (rowP g.T)).length = countL (rowP g.T)) := nums_len k1
  obtain ⟨r, hr, hq⟩ := right_ways g
  rw [hr]
  clear hr hi hW hbW k2 k3 k4 k6
  obtain ⟨nl, hnl⟩ : ∃ nl, nums12 g.act (rowP g.T) = nl := ⟨_, rfl⟩
  have HN : Hid ([g.A, g.B].take (countL (rowP g.T)) = nl) := hnl
  rw [hnl] at HU NL hq
  clear hnl
  obtain ⟨sz, hsz⟩ : ∃ sz, size12 g.act = sz := ⟨_, rfl⟩
  obtain ⟨wr, hwr⟩ : ∃ wr, wrong12 g.act = wr := ⟨_, rfl⟩
  obtain ⟨ba, hba⟩ : ∃ ba, bare12 g = ba := ⟨_, rfl⟩
  rw [hsz] at SZ hq
  rw [hwr] at WR hq
  rw [hba] at BA hq
  clear hsz hwr hba
  obtain ⟨T, A, B, ⟨C, F, H, X, v, m⟩, va, vc, ma, mc, d, da, dc⟩ := g
  simp only at *
  obtain ⟨l, hl⟩ : ∃ l, rowP T = l := ⟨_, rfl⟩
  obtain ⟨rb, hrb⟩ : ∃ b, rowB T = b := ⟨_, rfl⟩
  rw [hl] at RO NU NL HN k1 k5 hq
  rw [hrb] at RO hq
  obtain ⟨cl, hcl⟩ : ∃ c, countL l = c := ⟨_, rfl⟩
  rw [hcl] at NU NL HN k1
  clear hl hrb hcl
  unfold Ent12.val at *
  simp only at *
  obtain ⟨d0, d1, d2, d3, d4, d5, d6, d7, d8, d9⟩ := hx.ten
  rcases hq with ⟨rfl, rfl⟩ | ⟨rfl, rfl, rfl⟩ | ⟨rfl, rfl, hw0, rfl⟩ | ⟨rfl, rfl, rfl, hp, rfl⟩ | ⟨bs, rfl, rfl, rfl, hp, rfl⟩

  · go_enter Try.func13, Try.ntmps13
    go_wp2_with fail
    rw [HW.out]
    go_wp2_with fail
    refine RO.out.mono ?_
    rintro e w1 ⟨a, rfl, hI1, hb1⟩
    have HA1 := hid (below_on HB.out hb1)
    have I1 := hid hI1
    have HC1 := hid hb1
    clear hb1 hI1 d0 d1 d2 d3 d4 d5 d6 d7 d8 d9
    obtain ⟨d0, d1, d2, d3, d4, d5, d6, d7, d8, d9⟩ := (hx.below HC1.out).ten
    go_wp2_with fail
    go_ret
    exact ⟨rfl, HA1.out⟩
  · go_enter Try.func13, Try.ntmps13
    go_wp2_with fail
    rw [HW.out]
    go_wp2_with fail
    refine RO.out.mono ?_
    rintro e w1 ⟨a, rfl, hI1, hb1⟩
    have HA1 := hid (below_on HB.out hb1)
    have I1 := hid hI1
    have HC1 := hid hb1
    clear hb1 hI1 d0 d1 d2 d3 d4 d5 d6 d7 d8 d9
    obtain ⟨d0, d1, d2, d3, d4, d5, d6, d7, d8, d9⟩ := (hx.below HC1.out).ten
    go_wp2_with fail
    refine (BA.out _ HA1.out).mono ?_
    rintro e w2 ⟨rfl, hb2⟩
    have HA2 := hid (below_on HA1.out hb2)
    have HC2 := hid (below_on HC1.out hb2)
    clear hb2 d0 d1 d2 d3 d4 d5 d6 d7 d8 d9
    obtain ⟨d0, d1, d2, d3, d4, d5, d6, d7, d8, d9⟩ := (hx.below HC2.out).ten
    go_wp2_with fail
    go_ret
    exact ⟨rfl, HA2.out⟩
  · have hw1 : (wr != 0) = true := by simpa using hw0
    clear hw0
    go_enter Try.func13, Try.ntmps13
    go_wp2_with fail
    rw [HW.out]
    go_wp2_with fail
    refine RO.out.mono ?_
    rintro e w1 ⟨a, rfl, hI1, hb1⟩
    have HA1 := hid (below_on HB.out hb1)
    have I1 := hid hI1
    have HC1 := hid hb1
    clear hb1 hI1 d0 d1 d2 d3 d4 d5 d6 d7 d8 d9
    obtain ⟨d0, d1, d2, d3, d4, d5, d6, d7, d8, d9⟩ := (hx.below HC1.out).ten
    go_wp2_with fail
    refine (BA.out _ HA1.out).mono ?_
    rintro e w2 ⟨rfl, hb2⟩
    have HA2 := hid (below_on HA1.out hb2)
    have HC2 := hid (below_on HC1.out hb2)
    clear hb2 d0 d1 d2 d3 d4 d5 d6 d7 d8 d9
    obtain ⟨d0, d1, d2, d3, d4, d5, d6, d7, d8, d9⟩ := (hx.below HC2.out).ten
    go_wp2_with fail
    refine (WR.out _ HA2.out).mono ?_
    rintro e w3 ⟨rfl, hb3⟩
    have HA3 := hid (below_on HA2.out hb3)
    have HC3 := hid (below_on HC2.out hb3)
    clear hb3 d0 d1 d2 d3 d4 d5 d6 d7 d8 d9
    obtain ⟨d0, d1, d2, d3, d4, d5, d6, d7, d8, d9⟩ := (hx.below HC3.out).ten
    go_wp2_with fail
    go_ret
    exact ⟨rfl, HA3.out⟩
  · have HP := hid hp
    clear hp
    go_enter Try.func13, Try.ntmps13
    go_wp2_with fail
    rw [HW.out]
    go_wp2_with fail
    refine RO.out.mono ?_
    rintro e w1 ⟨a, rfl, hI1, hb1⟩
    have HA1 := hid (below_on HB.out hb1)
    have I1 := hid hI1
    have HC1 := hid hb1
    clear hb1 hI1 d0 d1 d2 d3 d4 d5 d6 d7 d8 d9
    obtain ⟨d0, d1, d2, d3, d4, d5, d6, d7, d8, d9⟩ := (hx.below HC1.out).ten
    go_wp2_with fail
    refine (BA.out _ HA1.out).mono ?_
    rintro e w2 ⟨rfl, hb2⟩
    have HA2 := hid (below_on HA1.out hb2)
    have HE2 := hid hb2
    have HC2 := hid (below_on HC1.out hb2)
    clear hb2 d0 d1 d2 d3 d4 d5 d6 d7 d8 d9
    obtain ⟨d0, d1, d2, d3, d4, d5, d6, d7, d8, d9⟩ := (hx.below HC2.out).ten
    go_wp2_with fail
    refine (WR.out _ HA2.out).mono ?_
    rintro e w3 ⟨rfl, hb3⟩
    have HA3 := hid (below_on HA2.out hb3)
    have HE3 := hid hb3
    have HC3 := hid (below_on HC2.out hb3)
    clear hb3 d0 d1 d2 d3 d4 d5 d6 d7 d8 d9
    obtain ⟨d0, d1, d2, d3, d4, d5, d6, d7, d8, d9⟩ := (hx.below HC3.out).ten
    go_wp2_with fail
    refine (NU.out _ a _ (I1.out.below (below_on HE2.out HE3.out))).mono ?_
    rintro e w4 ⟨b, rfl, hI4, hb4⟩
    rw [HN.out] at hI4
    have HA4 := hid (below_on HA3.out hb4)
    have HE4 := hid hb4
    have HC4 := hid (below_on HC3.out hb4)
    have I4 := hid hI4
    clear hb4 hI4 d0 d1 d2 d3 d4 d5 d6 d7 d8 d9
    obtain ⟨d0, d1, d2, d3, d4, d5, d6, d7, d8, d9⟩ := (hx.below HC4.out).ten
    have hnl := NL.out
    have PU := put_no l nl HP.out a b l.length 2 w4 (by omega) (by omega) HU.out (I1.out.below (below_on (below_on HE2.out HE3.out) HE4.out)) I4.out
    rw [hnl] at PU
    have PU := hid PU
    clear hnl
    go_wp2_with fail
    refine PU.out.mono ?_
    rintro e w5 ⟨rfl, hb5⟩
    have HA5 := hid (below_on HA4.out hb5)
    clear hb5
    go_wp2_with fail
    go_ret
    exact ⟨rfl, HA5.out⟩
  · have HP := hid hp
    clear hp
    go_enter Try.func13, Try.ntmps13
    go_wp2_with fail
    rw [HW.out]
    go_wp2_with fail
    refine RO.out.mono ?_
    rintro e w1 ⟨a, rfl, hI1, hb1⟩
    have HA1 := hid (below_on HB.out hb1)
    have I1 := hid hI1
    have HC1 := hid hb1
    clear hb1 hI1 d0 d1 d2 d3 d4 d5 d6 d7 d8 d9
    obtain ⟨d0, d1, d2, d3, d4, d5, d6, d7, d8, d9⟩ := (hx.below HC1.out).ten
    go_wp2_with fail
    refine (BA.out _ HA1.out).mono ?_
    rintro e w2 ⟨rfl, hb2⟩
    have HA2 := hid (below_on HA1.out hb2)
    have HE2 := hid hb2
    have HC2 := hid (below_on HC1.out hb2)
    clear hb2 d0 d1 d2 d3 d4 d5 d6 d7 d8 d9
    obtain ⟨d0, d1, d2, d3, d4, d5, d6, d7, d8, d9⟩ := (hx.below HC2.out).ten
    go_wp2_with fail
    refine (WR.out _ HA2.out).mono ?_
    rintro e w3 ⟨rfl, hb3⟩
    have HA3 := hid (below_on HA2.out hb3)
    have HE3 := hid hb3
    have HC3 := hid (below_on HC2.out hb3)
    clear hb3 d0 d1 d2 d3 d4 d5 d6 d7 d8 d9
    obtain ⟨d0, d1, d2, d3, d4, d5, d6, d7, d8, d9⟩ := (hx.below HC3.out).ten
    go_wp2_with fail
    refine (NU.out _ a _ (I1.out.below (below_on HE2.out HE3.out))).mono ?_
    rintro e w4 ⟨b, rfl, hI4, hb4⟩
    rw [HN.out] at hI4
    have HA4 := hid (below_on HA3.out hb4)
    have HE4 := hid hb4
    have HC4 := hid (below_on HC3.out hb4)
    have I4 := hid hI4
    clear hb4 hI4 d0 d1 d2 d3 d4 d5 d6 d7 d8 d9
    obtain ⟨d0, d1, d2, d3, d4, d5, d6, d7, d8, d9⟩ := (hx.below HC4.out).ten
    have hnl := NL.out
    have PU := put_yes l nl bs HP.out a b l.length 2 w4 (by omega) (by omega) HU.out (I1.out.below (below_on (below_on HE2.out HE3.out) HE4.out)) I4.out
    rw [hnl] at PU
    have PU := hid PU
    clear hnl
    go_wp2_with fail
    refine PU.out.mono ?_
    rintro e w5 ⟨ad, cp, rfl, hb5, _, _⟩
    have HA5 := hid (below_on HA4.out hb5)
    have HC5 := hid (below_on HC4.out hb5)
    clear hb5 d0 d1 d2 d3 d4 d5 d6 d7 d8 d9
    obtain ⟨d0, d1, d2, d3, d4, d5, d6, d7, d8, d9⟩ := (hx.below HC5.out).ten
    go_wp2_with fail
    refine (SZ.out _ HA5.out).mono ?_
    rintro e w6 ⟨rfl, hb6⟩
    have HA6 := hid (below_on HA5.out hb6)
    clear hb6
    go_wp2_with fail
    go_ret
    exact ⟨ret_bool (by simp; try omega), HA6.out⟩

/-- how many bytes it has; 0: it may not be -/
def sizeS12 (g : Ent12) : Nat := if right12 g then size12 g.act else 0
set_option maxRecDepth 100000 in
set_option maxHeartbeats 2000000 in
theorem actSizeS_any (g : Ent12) (w : World) (hi : ActIn w g) :
    Calls Try.prog 12 #[g.val] w fun e w' => e = .returned (.int .i64 (sizeS12 g)) ∧ Below w.heap.size w w' := by
  obtain ⟨W, hW, hbW, hx⟩ := act_box w g.T g.A g.B g.o.C g.o.F g.o.H g.o.X g.va g.o.v.length g.vc g.ma g.o.m.length g.mc g.da g.d.length g.dc
  have HW := hid hW
  have HB := hid hbW
  have RI := hid (fun (V : World) (hV : Below w.heap.size w V) => actRight_any g V (hi.below hV))
  have SZ := hid (fun (V : World) (hV : Below w.heap.size w V) => actSize_any g V (hi.below hV))
  unfold sizeS12
  obtain ⟨r, hr⟩ : ∃ r, right12 g = r := ⟨_, rfl⟩
  obtain ⟨sz, hsz⟩ : ∃ sz, size12 g.act = sz := ⟨_, rfl⟩
  rw [hr] at RI ⊢
  rw [hsz] at SZ ⊢
  clear hr hsz hi hW hbW
  obtain ⟨T, A, B, ⟨C, F, H, X, v, m⟩, va, vc, ma, mc, d, da, dc⟩ := g
  unfold Ent12.val at *
  simp only at *
  obtain ⟨d0, d1, d2, d3, d4, d5, d6, d7, d8, d9⟩ := hx.ten
  cases r
  · go_enter Try.func12, Try.ntmps12
    go_wp2_with fail
    rw [HW.out]
    go_wp2_with fail
    refine (RI.out _ HB.out).mono ?_
    rintro e w1 ⟨rfl, hb⟩
    go_wp2_with fail
    go_ret
    exact ⟨rfl, below_on HB.out hb⟩
  · go_enter Try.func12, Try.ntmps12
    go_wp2_with fail
    rw [HW.out]
    go_wp2_with fail
    refine (RI.out _ HB.out).mono ?_
    rintro e w1 ⟨rfl, hb⟩
    clear d0 d1 d2 d3 d4 d5 d6 d7 d8 d9
    obtain ⟨d0, d1, d2, d3, d4, d5, d6, d7, d8, d9⟩ := (hx.below hb).ten
    have HB1 := hid (below_on HB.out hb)
    clear hb
    go_wp2_with fail
    refine (SZ.out _ HB1.out).mono ?_
    rintro e w2 ⟨rfl, hb⟩
    go_wp2_with fail
    go_ret
    exact ⟨rfl, below_on HB1.out hb⟩
end Go.Proofs.Ytaddhahghglabaa
