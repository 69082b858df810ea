/- RowBack's walk. -/
import Derived.Test.YteflagnkjjpjnaaRowLaws
import Derived.Test.YteflagnkjjpjnaaRowPlain
import Derived.Test.YteflagnkjjpjnaaQuiet
namespace Go.Proofs.Yteflagnkjjpjnaa
open Go.RowKit

theorem getW_yes {l bs : List Int} (h : rightW l = true) : getW l bs = getL l bs := by simp [getW, h]

set_option maxHeartbeats 1600000 in
theorem RowBack_walk (l ns mo : List Int) (a b f : Option Addr) (c d g : Nat) (w : World) (hl : l.length ≤ 9223372036854775807) (hcd : ns.length ≤ d) (hu : U64s ns)
    (hfg : mo.length ≤ g) (hg : g ≤ 9223372036854775807) (ho : Octets mo)
    (ha : Ints .i64 w a l) (hb : Ints .u64 w b ns) (hf : Ints .u8 w f mo) :
    Calls Try.prog 6 #[.slice a l.length c, .slice b ns.length d, .slice f mo.length g] w fun e w' => e = .returned (.bool true) ∧ Below w.heap.size w w' := by
  by_cases hbig : 500 < l.length ∨ 500 < ns.length ∨ 100 < mo.length
  · by_cases h1 : 500 < l.length
    · go_enter Try.func6, Try.ntmps6
      go_wp2_with (go_at_call 8; refine (sure_any _).mono ?_; rintro e w' ⟨rfl, hz⟩)
      go_ret
      exact ⟨rfl, hz⟩
    · by_cases h2 : 500 < ns.length
      · go_enter Try.func6, Try.ntmps6
        go_wp2_with (go_at_call 8; refine (sure_any _).mono ?_; rintro e w' ⟨rfl, hz⟩)
        go_ret
        exact ⟨rfl, hz⟩
      · have h3 : 100 < mo.length := by omega
        go_enter Try.func6, Try.ntmps6
        go_wp2_with (go_at_call 8; refine (sure_any _).mono ?_; rintro e w' ⟨rfl, hz⟩)
        go_ret
        exact ⟨rfl, hz⟩
  · have h1 : ¬ 500 < l.length := by omega
    have h2 : ¬ 500 < ns.length := by omega
    have h3 : ¬ 100 < mo.length := by omega
    clear hbig
    cases hp0 : putW l ns with
    | none =>
      have hp := hid hp0
      clear hp0
      go_enter Try.func6, Try.ntmps6
      go_wp2_with fail
      refine (put_no l ns hp.out a b c d w hl hcd hu ha hb).mono ?_
      rintro e w1 ⟨rfl, B1⟩
      go_wp2_with fail
      refine (sure_any _).mono ?_
      rintro e w9 ⟨rfl, hb9⟩
      have B9 := B1.trans (hb9.mono B1.size)
      clear B1 hb9
      go_wp2
      go_ret
      exact ⟨rfl, B9⟩
    | some bs =>
      obtain ⟨hr, hcl, hpl⟩ : rightW l = true ∧ countL l = ns.length ∧ putL l ns = some bs := by
        unfold putW at hp0
        split at hp0
        · rename_i h; simp at h; exact ⟨h.1, h.2, hp0⟩
        · simp at hp0
      have hw := rightW_all hr
      have hob := putL_octets hpl
      have hsw : sizeW l = bs.length := by rw [hob.2]; simp [sizeW, hr]
      have hbl : bs.length ≤ 4096 := by have := sizeL_take_bound hr l.length; rw [List.take_length] at this; omega
      have G1 : Hid (getW l (bs ++ mo) = .ok ns) := by unfold Hid; rw [getW_yes hr]; exact put_get hpl hw hcl hu mo
      have G2 : Hid (0 < bs.length → getW l (bs.take (bs.length - 1)) = .error 1) := by
        intro h0; rw [getW_yes hr]; exact put_short hpl hw _ (by omega)
      have G3 : Hid (∀ m, getW l mo = .ok m → putW l m = some (mo.take (sizeL l)) ∧ sizeL l ≤ mo.length ∧ U64s m) := by
        intro m hm
        rw [getW_yes hr] at hm
        obtain ⟨i1, i2, i3, i4⟩ := get_put hm hw ho
        exact ⟨by rw [putW_yes hr i3, i1], i2, i4⟩
      have HO := hid hob.1
      have HSW := hid hsw
      have hp := hid hp0
      clear hp0 hob hw hsw hpl hcl hr
      go_enter Try.func6, Try.ntmps6
      go_wp2_with fail
      refine (put_yes l ns bs hp.out a b c d w hl hcd hu ha hb).mono ?_
      rintro e w1 ⟨a1, c1, rfl, B1, I1, L1, M1⟩
      have hbl2 : (bs.map (Value.int .u8)).length ≤ 4096 := by rw [List.length_map]; exact hbl
      go_wp2_with (first | (at_builtin; refine wp_app rfl (.tmp 47) (.tmp 48) rfl elemU8 rfl (own_empty w1 _) rfl rfl (I1.below (below_alloc _ _)) ?_ ?_ ?_; (simp only [List.length_nil]; omega); (simp only [List.length_nil]; omega); intro v2 w2 hg2; have F2 := hg2.first; rw [List.nil_append] at F2; have fI := hf.below (B1.trans (F2.bel.mono B1.size)); clear hg2) | (at_builtin; refine wp_app rfl (.tmp 49) (.tmp 50) rfl elemU8 rfl F2.own rfl rfl fI ?_ ?_ ?_; omega; omega; intro v3 w3 hg3))
      have F3 := F2.step hg3
      rw [← List.map_append] at F3
      obtain ⟨a3, c3, rfl, L3, M3, I3⟩ := own_ints F3.own
      have B3 := B1.trans (F3.bel.mono B1.size)
      have I13 := I1.below F3.bel
      have M3' : c3 ≤ 9223372036854775807 := by unfold maxLen at M3; omega
      clear hg3 F2 F3 fI M3 B1 I1
      go_wp2_with fail
      refine (get_yes l (bs ++ mo) ns G1.out a a3 c c3 w3 hl L3 M3' (HO.out.append ho) (ha.below B3) I3).mono ?_
      rintro e w4 ⟨a4, c4, rfl, hb4, I4, L4, M4⟩
      have B4 := B3.trans (hb4.mono B3.size)
      have I14 := I13.below hb4
      clear hb4 B3 I13 I3 L3
      go_wp2_with fail
      refine (nums_at ns ns _ _ _ _ _ _ _ rfl rfl (by omega) (by omega) I4 (hb.below B4)).mono ?_
      rintro e w5 ⟨rfl, hb5⟩
      rw [beq_rfl]
      have B5 := B4.trans (hb5.mono B4.size)
      have I15 := I14.below hb5
      clear hb5 B4 I14 I4
      go_wp2_with fail
      refine (size_any _ _ _ _ hl (ha.below B5)).mono ?_
      rintro e w6 ⟨rfl, rfl⟩
      rw [HSW.out]
      obtain ⟨wz, Bz, hwz⟩ : ∃ wz : World, Below w.heap.size w wz ∧ wz = w5 := ⟨w5, B5, rfl⟩
      by_cases h0 : 0 < bs.length
      · have hi0 : (0 : Int) < (bs.length : Int) := by omega
        have hi1 : (1 : Int) ≤ (bs.length : Int) := by omega
        clear hwz Bz wz
        go_wp2_with fail
        have P := get_no l (bs.take (bs.length - 1)) 1 (G2.out h0) a a1 c c1 w5 hl (by rw [List.length_take]; omega) (by omega) (HO.out.take _) (ha.below B5) (I15.take _)
        have e1 : (bs.take (bs.length - 1)).length = bs.length - 1 := by rw [List.length_take]; omega
        rw [e1] at P
        refine P.mono ?_
        rintro e wz ⟨rfl, hb6⟩
        have Bz := B5.trans (hb6.mono B5.size)
        clear hb6 P e1 B5 I15 G1 G2
        go_wp2_with fail
        cases hm0 : getW l mo with
        | error q =>
          have hq := getW_err hm0
          have e1 : (q != 0) = true := by simp; omega
          have hm := hid hm0
          clear hm0 G3 hq
          refine (get_no l mo q hm.out a f c g wz hl hfg hg ho (ha.below Bz) (hf.below Bz)).mono ?_
          rintro e w7 ⟨rfl, hb7⟩
          have B7 := Bz.trans (hb7.mono Bz.size)
          clear hb7 Bz
          go_wp2_with fail
          refine (sure_any _).mono ?_
          rintro e w9 ⟨rfl, hb9⟩
          have B9 := B7.trans (hb9.mono B7.size)
          clear B7 hb9
          go_wp2
          go_ret
          exact ⟨rfl, B9⟩
        | ok m =>
          have g3 := G3.out m hm0
          have hm := hid hm0
          obtain ⟨ag, hag⟩ : ∃ ag, ag = mo.take (sizeL l) := ⟨_, rfl⟩
          rw [← hag] at g3
          have hal : ag.length ≤ mo.length := by rw [hag, List.length_take]; omega
          have hat : mo.take ag.length = ag := by rw [hag, List.length_take, Nat.min_eq_left g3.2.1]
          have HP := hid g3.1
          have HU := hid g3.2.2
          have HAT := hid hat
          clear hm0 G3 g3 hag hat
          refine (get_yes l mo m hm.out a f c g wz hl hfg hg ho (ha.below Bz) (hf.below Bz)).mono ?_
          rintro e w7 ⟨a7, c7, rfl, hb7, I7, L7, M7⟩
          have B7 := Bz.trans (hb7.mono Bz.size)
          clear hb7 Bz
          go_wp2_with fail
          refine (put_yes l m ag HP.out a a7 c c7 w7 hl L7 HU.out (ha.below B7) I7).mono ?_
          rintro e w8 ⟨a8, c8, rfl, hb8, I8, L8, M8⟩
          have B8 := B7.trans (hb8.mono B7.size)
          clear hb8 B7 I7
          have i8 : (ag.length : Int) ≤ (mo.length : Int) := by omega
          have P := bytes_at ag (mo.take ag.length) a8 f ag.length ag.length c8 g w8 rfl (by rw [List.length_take]; omega) (by omega) (by rw [List.length_take]; omega) I8 ((hf.below B8).take _)
          rw [HAT.out, beq_rfl] at P
          have HPP := hid P
          clear P I8
          go_wp2_with fail
          refine HPP.out.mono ?_
          rintro e w10 ⟨rfl, hb10⟩
          have B10 := B8.trans (hb10.mono B8.size)
          clear hb10 B8 HPP
          go_wp2_with fail
          refine (sure_any _).mono ?_
          rintro e w9 ⟨rfl, hb9⟩
          have B9 := B10.trans (hb9.mono B10.size)
          clear B10 hb9
          go_wp2
          go_ret
          exact ⟨rfl, B9⟩
      · have hi0 : ¬ (0 : Int) < (bs.length : Int) := by omega
        subst hwz
        clear B5 I15 G1 G2
        go_wp2_with fail
        cases hm0 : getW l mo with
        | error q =>
          have hq := getW_err hm0
          have e1 : (q != 0) = true := by simp; omega
          have hm := hid hm0
          clear hm0 G3 hq
          refine (get_no l mo q hm.out a f c g wz hl hfg hg ho (ha.below Bz) (hf.below Bz)).mono ?_
          rintro e w7 ⟨rfl, hb7⟩
          have B7 := Bz.trans (hb7.mono Bz.size)
          clear hb7 Bz
          go_wp2_with fail
          refine (sure_any _).mono ?_
          rintro e w9 ⟨rfl, hb9⟩
          have B9 := B7.trans (hb9.mono B7.size)
          clear B7 hb9
          go_wp2
          go_ret
          exact ⟨rfl, B9⟩
        | ok m =>
          have g3 := G3.out m hm0
          have hm := hid hm0
          obtain ⟨ag, hag⟩ : ∃ ag, ag = mo.take (sizeL l) := ⟨_, rfl⟩
          rw [← hag] at g3
          have hal : ag.length ≤ mo.length := by rw [hag, List.length_take]; omega
          have hat : mo.take ag.length = ag := by rw [hag, List.length_take, Nat.min_eq_left g3.2.1]
          have HP := hid g3.1
          have HU := hid g3.2.2
          have HAT := hid hat
          clear hm0 G3 g3 hag hat
          refine (get_yes l mo m hm.out a f c g wz hl hfg hg ho (ha.below Bz) (hf.below Bz)).mono ?_
          rintro e w7 ⟨a7, c7, rfl, hb7, I7, L7, M7⟩
          have B7 := Bz.trans (hb7.mono Bz.size)
          clear hb7 Bz
          go_wp2_with fail
          refine (put_yes l m ag HP.out a a7 c c7 w7 hl L7 HU.out (ha.below B7) I7).mono ?_
          rintro e w8 ⟨a8, c8, rfl, hb8, I8, L8, M8⟩
          have B8 := B7.trans (hb8.mono B7.size)
          clear hb8 B7 I7
          have i8 : (ag.length : Int) ≤ (mo.length : Int) := by omega
          have P := bytes_at ag (mo.take ag.length) a8 f ag.length ag.length c8 g w8 rfl (by rw [List.length_take]; omega) (by omega) (by rw [List.length_take]; omega) I8 ((hf.below B8).take _)
          rw [HAT.out, beq_rfl] at P
          have HPP := hid P
          clear P I8
          go_wp2_with fail
          refine HPP.out.mono ?_
          rintro e w10 ⟨rfl, hb10⟩
          have B10 := B8.trans (hb10.mono B8.size)
          clear hb10 B8 HPP
          go_wp2_with fail
          refine (sure_any _).mono ?_
          rintro e w9 ⟨rfl, hb9⟩
          have B9 := B10.trans (hb9.mono B10.size)
          clear B10 hb9
          go_wp2
          go_ret
          exact ⟨rfl, B9⟩
end Go.Proofs.Yteflagnkjjpjnaa
