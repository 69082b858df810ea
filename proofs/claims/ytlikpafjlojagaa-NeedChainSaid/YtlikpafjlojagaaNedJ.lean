/- Package need: Met. -/
import Derived.Test.YtlikpafjlojagaaNedI
import Derived.WalkMore
namespace Go.Proofs.Ytlikpafjlojagaa
open Go.RowKit
set_option linter.unusedVariables false

theorem asks_table {n : Int} (h : 0 ≤ n ∧ n < 40) (hd : 0 ≤ (fld n).d) : Asks9 (fld n).d (fld n).v := by
  unfold Asks9
  revert hd
  rcases forty h with rfl | rfl | rfl | rfl | rfl | rfl | rfl | rfl | rfl | rfl | rfl | rfl | rfl | rfl | rfl | rfl | rfl | rfl | rfl | rfl | rfl | rfl | rfl | rfl | rfl | rfl | rfl | rfl | rfl | rfl | rfl | rfl | rfl | rfl | rfl | rfl | rfl | rfl | rfl | rfl <;> decide
theorem sat_mt {d : Int} {vals : List Int} {x : Ox9} (hC : x.C = 32768) (hF : x.F = d) : sat9 d vals x = mt9 x vals := by
  unfold sat9 mt9 any9
  rw [hC, hF]
  simp
theorem sat_no {d : Int} {vals : List Int} {x : Ox9} (h : x.C ≠ 32768 ∨ x.F ≠ d) : sat9 d vals x = false := by
  unfold sat9
  rcases h with h | h <;> simp [h]
/-- a list of values that came in, or of one's own -/
structure L9 (w : World) (a : Option Addr) (l : List Ent9) : Prop where
  ox : Oxms w a l
  ent : ∀ h ∈ l, EntIn w h
  few : ∀ h ∈ l, h.o.v.length ≤ 1000 ∧ h.o.m.length ≤ 1000
  len : l.length ≤ 60
theorem L9.below {w w' : World} {a : Option Addr} {l : List Ent9} (h : L9 w a l) (hb : Below w.heap.size w w') : L9 w' a l :=
  ⟨h.ox.below hb, fun x hx => (h.ent x hx).below hb, h.few, h.len⟩
theorem L9.take {w : World} {a : Option Addr} {l : List Ent9} (h : L9 w a l) (j : Nat) : L9 w a (l.take j) :=
  ⟨h.ox.take j, fun x hx => h.ent x (List.mem_of_mem_take hx), fun x hx => h.few x (List.mem_of_mem_take hx), by rw [List.length_take]; have := h.len; omega⟩
set_option maxRecDepth 100000 in
set_option maxHeartbeats 2000000 in
theorem met_yes (l : List Ent9) (o : Ent9) (a : Option Addr) (c : Nat) (w : World) (hA : asks9 o.o = false) :
    Calls Try.prog 10 #[.slice a l.length c, o.val] w fun e w' => e = .returned (.bool true) ∧ Below w.heap.size w w' := by
  obtain ⟨⟨C, F, H, X, v, m⟩, va, vc, ma, mc⟩ := o
  obtain ⟨W, hW, hbW, hx⟩ := oxm_box w C F H X va v.length vc ma m.length mc
  have HW := hid hW
  obtain ⟨d0, d1, d2, d3, d4, d5⟩ := hx.six
  have HX := hid hx
  have HB := hid hbW
  have HF := fldOf_any F W
  simp only [asks9] at hA
  obtain ⟨ok, hok⟩ : ∃ ok, decide (0 ≤ F ∧ F < 40) = ok := ⟨_, rfl⟩
  rw [hok] at HF hA
  obtain ⟨⟨nm, fb, fz', fm, fd, fv⟩, hf⟩ : ∃ f, fld F = f := ⟨_, rfl⟩
  rw [hf] at HF hA
  unfold fldV at HF
  simp only at HF hA
  have HFF := hid HF
  have ways : (C == 32768) = false ∨ ((C == 32768) = true ∧ ok = false) ∨ ((C == 32768) = true ∧ ok = true ∧ fd < 0) := by
    cases hc : (C == 32768)
    · exact .inl rfl
    · rw [hc] at hA
      cases ok
      · exact .inr (.inl ⟨rfl, rfl⟩)
      · refine .inr (.inr ⟨rfl, rfl, ?_⟩)
        simpa using hA
  unfold Ent9.val
  simp only
  rcases ways with hc | ⟨hc, rfl⟩ | ⟨hc, rfl, hd⟩
  · have hc1 : (C != 32768) = true := by simpa using hc
    clear hW hbW hx hA HF hf hok hc
    go_enter Try.func10, Try.ntmps10
    go_wp2_with fail
    rw [HW.out]
    go_step3
    go_wp2_with fail
    refine HFF.out.mono ?_
    rintro e w1 ⟨v1, rfl, hU, hb1⟩
    obtain ⟨a1, c1, rfl, _⟩ := hU
    obtain ⟨W2, hW2, hbW2, hbox⟩ := fld_box9 w1 fb fz' fm fd (.slice a1 fv.length c1)
    have HW2 := hid hW2
    have hxx := (HX.out.below hb1).below hbW2
    obtain ⟨g0, g1, g2, g3, g4, g5⟩ := hxx.six
    obtain ⟨k0, k1, k2, k3, k4⟩ := hbox.five
    have HB1 := hid hb1
    have HBW2 := hid hbW2
    clear hW2 hxx hbox hb1 hbW2
    go_upto_region 2 with fail
    rw [HW2.out]
    go_wp2_with fail
    try rw [Exit.noGoto_ret]
    exact bodyPost_ret (v := .bool true) (by simp [results, Try.results10, go_sem]) rfl ⟨rfl, below_on (below_on HB.out HB1.out) HBW2.out⟩
  · have hc1 : (C != 32768) = false := by simpa using hc
    clear hW hbW hx hA HF hf hok hc
    go_enter Try.func10, Try.ntmps10
    go_wp2_with fail
    rw [HW.out]
    go_step3
    go_wp2_with fail
    refine HFF.out.mono ?_
    rintro e w1 ⟨v1, rfl, hU, hb1⟩
    obtain ⟨a1, c1, rfl, _⟩ := hU
    obtain ⟨W2, hW2, hbW2, hbox⟩ := fld_box9 w1 fb fz' fm fd (.slice a1 fv.length c1)
    have HW2 := hid hW2
    have hxx := (HX.out.below hb1).below hbW2
    obtain ⟨g0, g1, g2, g3, g4, g5⟩ := hxx.six
    obtain ⟨k0, k1, k2, k3, k4⟩ := hbox.five
    have HB1 := hid hb1
    have HBW2 := hid hbW2
    clear hW2 hxx hbox hb1 hbW2
    go_upto_region 2 with fail
    rw [HW2.out]
    go_wp2_with fail
    try rw [Exit.noGoto_ret]
    exact bodyPost_ret (v := .bool true) (by simp [results, Try.results10, go_sem]) rfl ⟨rfl, below_on (below_on HB.out HB1.out) HBW2.out⟩
  · have hc1 : (C != 32768) = false := by simpa using hc
    clear hW hbW hx hA HF hf hok hc
    go_enter Try.func10, Try.ntmps10
    go_wp2_with fail
    rw [HW.out]
    go_step3
    go_wp2_with fail
    refine HFF.out.mono ?_
    rintro e w1 ⟨v1, rfl, hU, hb1⟩
    obtain ⟨a1, c1, rfl, _⟩ := hU
    obtain ⟨W2, hW2, hbW2, hbox⟩ := fld_box9 w1 fb fz' fm fd (.slice a1 fv.length c1)
    have HW2 := hid hW2
    have hxx := (HX.out.below hb1).below hbW2
    obtain ⟨g0, g1, g2, g3, g4, g5⟩ := hxx.six
    obtain ⟨k0, k1, k2, k3, k4⟩ := hbox.five
    have HB1 := hid hb1
    have HBW2 := hid hbW2
    clear hW2 hxx hbox hb1 hbW2
    go_upto_region 2 with fail
    rw [HW2.out]
    go_wp2_with fail
    try rw [Exit.noGoto_ret]
    exact bodyPost_ret (v := .bool true) (by simp [results, Try.results10, go_sem]) rfl ⟨rfl, below_on (below_on HB.out HB1.out) HBW2.out⟩

set_option maxRecDepth 100000 in
set_option maxHeartbeats 2000000 in
theorem met_loop (l : List Ent9) (o : Ent9) (a : Option Addr) (c : Nat) (w : World) (hA : asks9 o.o = true) (hL : L9 w a l) :
    Calls Try.prog 10 #[.slice a l.length c, o.val] w fun e w' => e = .returned (.bool ((l.map Ent9.o).any (sat9 (fld o.o.F).d (fld o.o.F).v))) ∧ Below w.heap.size w w' := by
  obtain ⟨⟨C, F, H, X, v, m⟩, va, vc, ma, mc⟩ := o
  obtain ⟨W, hW, hbW, hx⟩ := oxm_box w C F H X va v.length vc ma m.length mc
  have HW := hid hW
  obtain ⟨d0, d1, d2, d3, d4, d5⟩ := hx.six
  have HX := hid hx
  have HB := hid hbW
  have HL := hid (hL.below hbW)
  have HF := fldOf_any F W
  simp only [asks9, Bool.and_eq_true, beq_iff_eq, decide_eq_true_eq] at hA
  obtain ⟨rfl, hr, hd⟩ := hA
  rw [decide_eq_true hr] at HF
  have HAT := asks_table hr hd
  simp only
  obtain ⟨⟨nm, fb, fz', fm, fd, fv⟩, hf⟩ : ∃ f, fld F = f := ⟨_, rfl⟩
  rw [hf] at HF hd HAT ⊢
  unfold fldV at HF
  simp only at HF hd HAT ⊢
  have HFF := hid HF
  have HA := hid HAT
  obtain ⟨r, hrr⟩ : ∃ r, (l.map Ent9.o).any (sat9 fd fv) = r := ⟨_, rfl⟩
  rw [hrr]
  have HR := hid hrr
  have hll : l.length ≤ 60 := hL.len
  unfold Ent9.val
  simp only
  have hdn : ¬ fd < 0 := by omega
  clear hW hbW hx HF hf hr hrr HAT hL hd
  go_enter Try.func10, Try.ntmps10
  go_wp2_with fail
  rw [HW.out]
  go_step3
  go_wp2_with fail
  refine HFF.out.mono ?_
  rintro e w1 ⟨v1, rfl, hU, hb1⟩
  obtain ⟨a1, c1, rfl, hU⟩ := hU
  obtain ⟨W2, hW2, hbW2, hbox⟩ := fld_box9 w1 fb fz' fm fd (.slice a1 fv.length c1)
  have HW2 := hid hW2
  have hxx := (HX.out.below hb1).below hbW2
  have HXX := hid hxx
  have HBOX := hid hbox
  have HU := hid (hU.below hbW2)
  have HL2 := hid ((HL.out.below hb1).below hbW2)
  obtain ⟨g0, g1, g2, g3, g4, g5⟩ := hxx.six
  obtain ⟨k0, k1, k2, k3, k4⟩ := hbox.five
  have HB2 := hid (below_on (below_on HB.out hb1) hbW2)
  clear hW2 hxx hbox hb1 hbW2 hU HL
  go_upto_region 2 with fail
  rw [HW2.out]
  go_wp2_with fail
  go_step3
  go_wp2_with fail
  go_loopg [7, 30] (l.length) (fun kx s7 s30 wr => ∃ (i : Nat), s7 = .bool false ∧ s30 = .int .i64 i ∧ i ≤ l.length ∧ l.length - i ≤ kx ∧ Hid (((l.map Ent9.o).take i).any (sat9 fd fv) = false) ∧ Hid (Below W2.heap.size W2 wr))
  case atStart => exact ⟨0, rfl, rfl, by omega, by omega, rfl, Below.refl _ _⟩
  case round =>
    clear g0 g1 g2 g3 g4 g5 k0 k1 k2 k3 k4
    obtain ⟨i, rfl, rfl, hi, hkx, hn, hb⟩ := hrel
    by_cases hlt : i < l.length
    · have hltz : (i : Int) < (l.length : Int) := by omega
      have hl := HL2.out.below hb.out
      obtain ⟨b, off, rfl, c0, c1', c2, c3, c4, c5⟩ := hl.ox i hlt
      have hE := hl.ent l[i] (List.getElem_mem hlt)
      have hsz := hl.few l[i] (List.getElem_mem hlt)
      have hget : (l.map Ent9.o)[i]? = some l[i].o := by simp [hlt]
      generalize l[i] = h at c0 c1' c2 c3 c4 c5 hE hsz hget
      obtain ⟨W3, hW3, hbW3, hx3⟩ := oxm_box wr h.o.C h.o.F h.o.H h.o.X h.va h.o.v.length h.vc h.ma h.o.m.length h.mc
      have HW3 := hid hW3
      have HX3 := hid hx3
      obtain ⟨x0, x1, x2, x3, x4, x5⟩ := hx3.six
      have hb5 := (HBOX.out.below hb.out).below hbW3
      obtain ⟨k0, k1, k2, k3, k4⟩ := hb5.five
      have HE := hid (And.intro (hE.below hbW3) (And.intro hsz hget))
      have HB3 := hid (below_on hb.out hbW3)
      have HNX : Hid (∀ s : Bool, sat9 fd fv h.o = s → ((l.map Ent9.o).take (i + 1)).any (sat9 fd fv) = s) := by
        show _
        intro s hs
        have h0 := hn.out
        rw [List.take_add_one, hget]
        simp [h0, hs]
      clear hl hE hsz hget hW3 hx3 hb5 hbW3
      go_upto_region 8 with fail
      rw [HW3.out]
      by_cases hC : h.o.C = 32768
      · have hc1 : (h.o.C != 32768) = false := by simp [hC]
        by_cases hF : h.o.F = fd
        · have hf1 : (h.o.F != fd) = false := by simp [hF]
          have hS := sat_mt (vals := fv) hC hF
          have HM := hid (meets_any h fv a1 c1 W3 (by rw [hF]; exact HA.out) HE.out.1 HE.out.2.1.1 (HU.out.below HB3.out))
          unfold Ent9.val at HM
          rw [← hS] at HM
          clear hC hF hS
          cases hs : sat9 fd fv h.o
          · rw [hs] at HM
            have HS := hid hs
            clear hs
            go_wp2_with fail
            refine HM.out.mono ?_
            rintro e w4 ⟨rfl, hb4⟩
            have HB4 := hid (below_on HB3.out hb4)
            clear hb4
            go_wp2_with fail
            go_roundg (l.length - (i + 1))
            case measure => omega
            case rel => exact ⟨i + 1, rfl, by first | rfl | go_num, by omega, Nat.le_refl _, HNX.out false HS.out, HB4.out⟩
          · rw [hs] at HM
            have HS := hid hs
            clear hs
            go_wp2_with fail
            refine HM.out.mono ?_
            rintro e w4 ⟨rfl, hb4⟩
            have HB4 := hid (below_on HB3.out hb4)
            clear hb4
            go_wp2_with fail
            try rw [Exit.noGoto_ret]
            have hr : r = true := by
              rw [← HR.out]
              obtain ⟨z, hz, hz2⟩ := List.any_eq_true.1 (HNX.out true HS.out)
              exact List.any_eq_true.2 ⟨z, List.mem_of_mem_take hz, hz2⟩
            exact bodyPost_ret (v := .bool true) (by simp [results, Try.results10, go_sem]) rfl ⟨by rw [hr], below_on HB2.out HB4.out⟩
        · have hf1 : (h.o.F != fd) = true := by simpa using hF
          have hS := sat_no (vals := fv) (x := h.o) (d := fd) (.inr hF)
          have HS := hid hS
          clear hC hF hS
          go_wp2_with fail
          go_roundg (l.length - (i + 1))
          case measure => omega
          case rel => exact ⟨i + 1, rfl, by first | rfl | go_num, by omega, Nat.le_refl _, HNX.out false HS.out, HB3.out⟩
      · have hc1 : (h.o.C != 32768) = true := by simpa using hC
        have hS := sat_no (vals := fv) (x := h.o) (d := fd) (.inl hC)
        have HS := hid hS
        clear hC hS
        go_wp2_with fail
        go_roundg (l.length - (i + 1))
        case measure => omega
        case rel => exact ⟨i + 1, rfl, by first | rfl | go_num, by omega, Nat.le_refl _, HNX.out false HS.out, HB3.out⟩
    · have hltz : ¬ (i : Int) < (l.length : Int) := by omega
      go_wp2_with fail
      try rw [Exit.noGoto_ret]
      have hr : r = false := by
        rw [← HR.out]
        have h0 := hn.out
        rwa [List.take_of_length_le (by rw [List.length_map]; omega)] at h0
      exact bodyPost_ret (v := .bool false) (by simp [results, Try.results10, go_sem]) rfl ⟨by rw [hr], below_on HB2.out hb.out⟩
theorem met_any (l : List Ent9) (o : Ent9) (a : Option Addr) (c : Nat) (w : World) (hL : L9 w a l) :
    Calls Try.prog 10 #[.slice a l.length c, o.val] w fun e w' => e = .returned (.bool (met9 (l.map Ent9.o) o.o)) ∧ Below w.heap.size w w' := by
  unfold met9
  cases h : asks9 o.o
  · exact met_yes l o a c w h
  · simp only [Bool.not_true, Bool.false_or]
    exact met_loop l o a c w h hL
end Go.Proofs.Ytlikpafjlojagaa
