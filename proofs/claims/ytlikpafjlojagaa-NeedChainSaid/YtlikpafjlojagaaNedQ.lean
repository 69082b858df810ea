/- The document's Met. -/
import Derived.Test.YtlikpafjlojagaaNedP
namespace Go.Proofs.Ytlikpafjlojagaa
open Go.RowKit
set_option linter.unusedVariables false

theorem refFld_box9 (w : World) (nm : ByteArray) (b : Int) (z : Nat) (m : Bool) (d : Int) (v : Value) : ∃ W, w.alloc (.cells #[.string nm, .int .i64 b, .int .i64 z, .bool m, .int .i64 d, v] 55) = W ∧ Below w.heap.size w W ∧ BoxL W w.heap.size [.string nm, .int .i64 b, .int .i64 z, .bool m, .int .i64 d, v] :=
  ⟨_, rfl, below_alloc _ _, BoxL.new _ _ _⟩
set_option maxRecDepth 100000 in
set_option maxHeartbeats 2000000 in
theorem refMet_yes (l : List Ent9) (o : Ent9) (a : Option Addr) (c : Nat) (w : World) (hA : asks9 o.o = false) :
    Calls Try.prog 11 #[.slice a l.length c, o.val] w fun e w' => e = .returned (.bool true) ∧ Below w.heap.size w w' := by
  obtain ⟨⟨C, F, H, X, v, m⟩, va, vc, ma, mc⟩ := o
  obtain ⟨W, hW, hbW, hx⟩ := oxm_box w C F H X va v.length vc ma m.length mc
  have HW := hid hW
  obtain ⟨d0, d1, d2, d3, d4, d5⟩ := hx.six
  have HX := hid hx
  have HB := hid hbW
  have HF := refOf_any F W
  simp only [asks9] at hA
  obtain ⟨ok, hok⟩ : ∃ ok, decide (0 ≤ F ∧ F < 40) = ok := ⟨_, rfl⟩
  rw [hok] at HF hA
  obtain ⟨⟨nm, fb, fz', fm, fd, fv⟩, hf⟩ : ∃ f, fld F = f := ⟨_, rfl⟩
  rw [hf] at HF hA
  unfold refFldV at HF
  simp only at HF hA
  have HFF := hid HF
  have ways : (C == 32768) = false ∨ ((C == 32768) = true ∧ ok = false) ∨ ((C == 32768) = true ∧ ok = true ∧ fd < 0) := by
    cases hc : (C == 32768)
    · exact .inl rfl
    · rw [hc] at hA
      cases ok
      · exact .inr (.inl ⟨rfl, rfl⟩)
      · refine .inr (.inr ⟨rfl, rfl, ?_⟩)
        simpa using hA
  unfold Ent9.val
  simp only
  rcases ways with hc | ⟨hc, rfl⟩ | ⟨hc, rfl, hd⟩
  case' inl => have hc1 : (C != 32768) = true := by simpa using hc
  case' inr.inl => have hc1 : (C != 32768) = false := by simpa using hc
  case' inr.inr => have hc1 : (C != 32768) = false := by simpa using hc
  all_goals
    clear hW hbW hx hA HF hf hok hc
    go_enter Try.func11, Try.ntmps11
    go_wp2_with fail
    rw [HW.out]
    refine HFF.out.mono ?_
    rintro e w1 ⟨v1, rfl, hU, hb1⟩
    obtain ⟨a1, c1, rfl, _⟩ := hU
    obtain ⟨W2, hW2, hbW2, hbox⟩ := refFld_box9 w1 nm fb fz' fm fd (.slice a1 fv.length c1)
    have HW2 := hid hW2
    have hxx := (HX.out.below hb1).below hbW2
    obtain ⟨g0, g1, g2, g3, g4, g5⟩ := hxx.six
    obtain ⟨k0, k1, k2, k3, k4, k5⟩ := hbox.six
    have HB1 := hid hb1
    have HBW2 := hid hbW2
    clear hW2 hxx hbox hb1 hbW2
    go_upto_region 2 with fail
    rw [HW2.out]
    go_wp2_with fail
    exact bodyPost_ret (v := .bool true) (by simp [results, Try.results11, go_sem]) rfl ⟨rfl, below_on (below_on HB.out HB1.out) HBW2.out⟩
/-- a number as bytes -/
theorem num9_any (n : Int) (z : Nat) (w : World) (hz : z ≤ 8) : Calls Try.prog 20 #[.int .u64 n, .int .i64 z] w fun e w' => ∃ a c, e = .returned (.slice a z c) ∧ Ints .u8 w' a (bytesL n z) ∧ Below w.heap.size w w' := by
  refine (num_any n z w hz).mono ?_
  rintro e w' ⟨v, rfl, hF⟩
  obtain ⟨a, c, rfl, _, _, hI⟩ := own_ints hF.own
  rw [bytesL_length]
  exact ⟨a, c, rfl, hI, hF.bel⟩
set_option maxRecDepth 100000 in
set_option maxHeartbeats 4000000 in
theorem refMet_loop (l : List Ent9) (o : Ent9) (a : Option Addr) (c : Nat) (w : World) (hA : asks9 o.o = true) (hL : L9 w a l) :
    Calls Try.prog 11 #[.slice a l.length c, o.val] w fun e w' => e = .returned (.bool ((l.map Ent9.o).any (sat9 (fld o.o.F).d (fld o.o.F).v))) ∧ Below w.heap.size w w' := by
  have hmix : Try.prog.follows .mixedOrders = true := by kernel_rfl
  obtain ⟨⟨C, F, H, X, v, m⟩, va, vc, ma, mc⟩ := o
  obtain ⟨W, hW, hbW, hx⟩ := oxm_box w C F H X va v.length vc ma m.length mc
  have HW := hid hW
  obtain ⟨d0, d1, d2, d3, d4, d5⟩ := hx.six
  have HX := hid hx
  have HB := hid hbW
  have HL := hid (hL.below hbW)
  have HF := refOf_any F W
  simp only [asks9, Bool.and_eq_true, beq_iff_eq, decide_eq_true_eq] at hA
  obtain ⟨rfl, hr, hd⟩ := hA
  rw [decide_eq_true hr] at HF
  have HAT := asks_table hr hd
  have hd40 := need_lower hr
  simp only
  obtain ⟨⟨nm, fb, fz', fm, fd, fv⟩, hf⟩ : ∃ f, fld F = f := ⟨_, rfl⟩
  rw [hf] at HF hd HAT hd40 ⊢
  unfold refFldV at HF
  simp only at HF hd HAT hd40 ⊢
  have HFF := hid HF
  have HA := hid HAT
  have HG := hid (fun W => refOf_any fd W)
  rw [decide_eq_true (show 0 ≤ fd ∧ fd < 40 from ⟨hd, hd40.2⟩)] at HG
  obtain ⟨⟨nm2, fb2, gz, fm2, fd2, fv2⟩, hg⟩ : ∃ f, fld fd = f := ⟨_, rfl⟩
  have hgz : (fld fd).z = gz := by rw [hg]
  rw [hg] at HG
  unfold refFldV at HG
  simp only at HG
  have HGZ := hid hgz
  obtain ⟨r, hrr⟩ : ∃ r, (l.map Ent9.o).any (sat9 fd fv) = r := ⟨_, rfl⟩
  rw [hrr]
  have HR := hid hrr
  have hll : l.length ≤ 60 := hL.len
  have hvl : fv.length ≤ 1000 := HAT.1
  unfold Ent9.val
  simp only
  have hdn : ¬ fd < 0 := by omega
  clear hW hbW hx HF hf hg hgz hr hrr HAT hL hd hd40
  go_enter Try.func11, Try.ntmps11
  go_wp2_with fail
  rw [HW.out]
  refine HFF.out.mono ?_
  rintro e w1 ⟨v1, rfl, hU, hb1⟩
  obtain ⟨a1, c1, rfl, hU⟩ := hU
  obtain ⟨W2, hW2, hbW2, hbox⟩ := refFld_box9 w1 nm fb fz' fm fd (.slice a1 fv.length c1)
  have HW2 := hid hW2
  have hxx := (HX.out.below hb1).below hbW2
  have HBOX := hid hbox
  have HU := hid (hU.below hbW2)
  have HL2 := hid ((HL.out.below hb1).below hbW2)
  obtain ⟨g0, g1, g2, g3, g4, g5⟩ := hxx.six
  obtain ⟨k0, k1, k2, k3, k4, k5⟩ := hbox.six
  have HB2 := hid (below_on (below_on HB.out hb1) hbW2)
  clear hW2 hxx hbox hb1 hbW2 hU HL
  go_upto_region 2 with fail
  rw [HW2.out]
  go_wp2_with fail
  refine (HG.out W2).mono ?_
  rintro e w3 ⟨v3, rfl, hU3, hb3⟩
  obtain ⟨a3, c3, rfl, _⟩ := hU3
  obtain ⟨W4, hW4, hbW4, hbox4⟩ := refFld_box9 w3 nm2 fb2 gz fm2 fd2 (.slice a3 fv2.length c3)
  have HW4 := hid hW4
  have HBOX4 := hid hbox4
  have HBX := hid ((HBOX.out.below hb3).below hbW4)
  have HU4 := hid ((HU.out.below hb3).below hbW4)
  have HL4 := hid ((HL2.out.below hb3).below hbW4)
  have HB4 := hid (below_on (below_on HB2.out hb3) hbW4)
  clear g0 g1 g2 g3 g4 g5 k0 k1 k2 k3 k4 k5 hW4 hbox4 hb3 hbW4 HL2 HBOX HU
  go_upto_region 5 with fail
  rw [HW4.out]
  go_wp2_with fail
  go_loopg [9] (l.length) (fun kx s9 wr => ∃ (i : Nat), s9 = .int .i64 i ∧ i ≤ l.length ∧ l.length - i ≤ kx ∧ Hid (((l.map Ent9.o).take i).any (sat9 fd fv) = false) ∧ Hid (Below W4.heap.size W4 wr))
  case atStart => exact ⟨0, rfl, by omega, by omega, rfl, Below.refl _ _⟩
  case round =>
    obtain ⟨i, rfl, hi, hkx, hn, hb⟩ := hrel
    by_cases hlt : i < l.length
    · have hltz : (i : Int) < (l.length : Int) := by omega
      have hl := HL4.out.below hb.out
      obtain ⟨b, off, rfl, c0, c1', c2, c3, c4, c5⟩ := hl.ox i hlt
      have hE := hl.ent l[i] (List.getElem_mem hlt)
      have hsz := hl.few l[i] (List.getElem_mem hlt)
      have hget : (l.map Ent9.o)[i]? = some l[i].o := by simp [hlt]
      generalize l[i] = h at c0 c1' c2 c3 c4 c5 hE hsz hget
      obtain ⟨W3, hW3, hbW3, hx3⟩ := oxm_box wr h.o.C h.o.F h.o.H h.o.X h.va h.o.v.length h.vc h.ma h.o.m.length h.mc
      have HW3 := hid hW3
      have HX3 := hid hx3
      obtain ⟨x0, x1, x2, x3, x4, x5⟩ := hx3.six
      have hb5 := (HBX.out.below hb.out).below hbW3
      have HBX3 := hid hb5
      have HBG3 := hid ((HBOX4.out.below hb.out).below hbW3)
      obtain ⟨k0, k1, k2, k3, k4, k5⟩ := hb5.six
      have HE := hid (And.intro (hE.below hbW3) (And.intro hsz hget))
      have HB3 := hid (below_on hb.out hbW3)
      have HNX : Hid (∀ s : Bool, sat9 fd fv h.o = s → ((l.map Ent9.o).take (i + 1)).any (sat9 fd fv) = s) := by
        show _
        intro s hs
        have h0 := hn.out
        rw [List.take_add_one, hget]
        simp [h0, hs]
      have HYES : Hid (sat9 fd fv h.o = true → r = true) := by
        show _
        intro hs
        rw [← HR.out]
        obtain ⟨z, hz, hz2⟩ := List.any_eq_true.1 (HNX.out true hs)
        exact List.any_eq_true.2 ⟨z, List.mem_of_mem_take hz, hz2⟩
      have hvsz : h.o.v.length ≤ 1000 := hsz.1
      clear hl hE hsz hget hW3 hx3 hb5 hbW3
      go_upto_region 9 with fail
      rw [HW3.out]
      by_cases hC : h.o.C = 32768
      · have hc1 : (h.o.C != 32768) = false := by simp [hC]
        by_cases hF : h.o.F = fd
        · have hf1 : (h.o.F != fd) = false := by simp [hF]
          have hS : Hid (sat9 fd fv h.o = mt9 h.o fv) := sat_mt (vals := fv) hC hF
          have HFd := hid hF
          clear hC hF
          by_cases hv0 : fv = []
          · subst hv0
            have HM : Hid (sat9 fd [] h.o = any9 h.o.v) := by show _ = _; rw [hS.out]; rfl
            clear hS
            go_wp2_with fail
            go_loopg [11] (h.o.v.length) (fun kx s11 wq => wq = W3 ∧ ∃ (k : Nat), s11 = .int .i64 k ∧ k ≤ h.o.v.length ∧ h.o.v.length - k ≤ kx ∧ Hid (any9 (h.o.v.take k) = false))
            case atStart => exact ⟨rfl, 0, rfl, by omega, by omega, rfl⟩
            case round =>
              obtain ⟨rfl, k, rfl, hk, hkk, hA9⟩ := hrel
              by_cases hkl : k < h.o.v.length
              · have hkz : (k : Int) < (h.o.v.length : Int) := by omega
                obtain ⟨b7, o7, y, ha7, hc7, hy⟩ := HE.out.1.iv.at hkl
                rw [ha7] at x4
                cases he : (y != 0)
                · have HY := hid (And.intro hy.out he)
                  clear hy
                  go_wp2_with fail
                  go_roundg (h.o.v.length - (k + 1))
                  case measure => omega
                  case rel =>
                    refine ⟨rfl, k + 1, by first | rfl | go_num, by omega, Nat.le_refl _, ?_⟩
                    show _ = _
                    have h9 := hA9.out
                    unfold any9 at h9 ⊢
                    rw [List.take_add_one, HY.out.1]
                    simp only [Option.toList_some, List.any_append, h9, List.any_cons, HY.out.2, List.any_nil]; rfl
                · have HY := hid (And.intro hy.out he)
                  clear hy
                  go_wp2_with fail
                  have hr : r = true := HYES.out (by rw [HM.out]; exact List.any_eq_true.2 ⟨y, List.mem_of_getElem? HY.out.1, HY.out.2⟩)
                  exact bodyPost_ret (v := .bool true) (by simp [results, Try.results11, go_sem]) rfl ⟨by first | rfl | rw [hr], below_on HB4.out HB3.out⟩
              · have hkz : ¬ (k : Int) < (h.o.v.length : Int) := by omega
                have h9 := hA9.out
                rw [List.take_of_length_le (by omega)] at h9
                have H9 := hid h9
                clear h9
                go_wp2_with fail
                go_roundg (l.length - (i + 1))
                case measure => omega
                case rel => exact ⟨i + 1, by first | rfl | go_num, by omega, Nat.le_refl _, HNX.out false (by rw [HM.out, H9.out]), HB3.out⟩
          · have hvz : ((fv.length : Int) == 0) = false := by simp; exact hv0
            obtain ⟨⟨_, _⟩, hz2, hkr⟩ := HA.out.2 hv0
            have hgz2 : gz ≤ 2 := by rw [← HGZ.out]; exact hz2
            have HMM : Hid (sat9 fd fv h.o = (!h.o.H && fv.any (fun k => h.o.v == bytesL k gz))) := by
              show _ = _
              rw [hS.out]; unfold mt9; rw [if_neg hv0, HFd.out, HGZ.out]
            clear hS hv0 hz2 hkr
            obtain ⟨wr0, hwr0⟩ : ∃ x, x = wr := ⟨_, rfl⟩
            subst hwr0
            go_wp2_with fail
            go_loopg [12] (fv.length) (fun kx s12 wq => ∃ (k : Nat), s12 = .int .i64 k ∧ k ≤ fv.length ∧ fv.length - k ≤ kx ∧ Hid ((!h.o.H && (fv.take k).any (fun k => h.o.v == bytesL k gz)) = false) ∧ Hid (Below W3.heap.size W3 wq))
            case atStart => exact ⟨0, rfl, by omega, by omega, (by simp [Hid]), Below.refl _ _⟩
            case round =>
              clear x0 x1 x2 x3 x4 x5 k0 k1 k2 k3 k4 k5
              obtain ⟨k, rfl, hk, hkk, hA9, hb9⟩ := hrel
              obtain ⟨x0, x1, x2, x3, x4, x5⟩ := (HX3.out.below hb9.out).six
              obtain ⟨k0, k1, k2, k3, k4, k5⟩ := (HBX3.out.below hb9.out).six
              obtain ⟨q0, q1, q2, q3, q4, q5⟩ := (HBG3.out.below hb9.out).six
              by_cases hkl : k < fv.length
              · have hkz : (k : Int) < (fv.length : Int) := by omega
                obtain ⟨b6, o6, y, ha6, hc6, hy⟩ := ((HU4.out.below HB3.out).below hb9.out).at hkl
                subst ha6
                have HY := hid hy.out
                clear hy
                rcases (show h.o.H = false ∨ h.o.H = true by cases h.o.H <;> simp) with hH | hH
                · rw [hH] at x2
                  obtain ⟨bb, hbb⟩ : ∃ bb, (h.o.v == bytesL y gz) = bb := ⟨_, rfl⟩
                  have HBB := hid hbb
                  have HHH := hid hH
                  have KC : Hid (∀ w', Below wr.heap.size wr w' → (fun w' => w'.cell? ⟨wr0.heap.size, 2, none⟩ = some (.bool false) ∧ w'.cell? ⟨wr0.heap.size, 4, none⟩ = some (.slice h.va h.o.v.length h.vc) ∧ w'.cell? ⟨w1.heap.size, 5, none⟩ = some (.slice (some ⟨b6, o6, none⟩) fv.length c1) ∧ w'.cell? ⟨b6, o6 + k, none⟩ = some (.int .u64 y) ∧ w'.cell? ⟨w3.heap.size, 2, none⟩ = some (.int .i64 (gz : Int))) w') := by
                    show _
                    intro w' hb
                    exact ⟨cell_keep x2 hb, cell_keep x4 hb, cell_keep k5 hb, cell_keep hc6 hb, cell_keep q2 hb⟩
                  have HNUM := hid (fun W => num9_any y gz W (by omega))
                  have HBYT : Hid (∀ W a c, Below wr.heap.size wr W → Ints .u8 W a (bytesL y gz) → Calls Try.prog 25 #[.slice h.va h.o.v.length h.vc, .slice a gz c] W fun e w' => e = .returned (.bool bb) ∧ Below W.heap.size W w') := by
                    show _
                    intro W a c hW hI
                    have h9 : W3.heap.size ≤ wr.heap.size := hb9.out.size
                    have := bytes8_any h.o.v (bytesL y gz) h.va a h.o.v.length gz h.vc c rfl (bytesL_length _ _).symm W (by omega) (by rw [bytesL_length]; omega) ((HE.out.1.iv.below hb9.out).below hW) hI
                    rw [hbb] at this
                    exact this
                  clear hbb hH
                  go_wp2_with fail
                  go_region_held3 (fun w' => w'.cell? ⟨wr0.heap.size, 2, none⟩ = some (.bool false) ∧ w'.cell? ⟨wr0.heap.size, 4, none⟩ = some (.slice h.va h.o.v.length h.vc) ∧ w'.cell? ⟨w1.heap.size, 5, none⟩ = some (.slice (some ⟨b6, o6, none⟩) fv.length c1) ∧ w'.cell? ⟨b6, o6 + k, none⟩ = some (.int .u64 y) ∧ w'.cell? ⟨w3.heap.size, 2, none⟩ = some (.int .i64 (gz : Int))) (first | (refine KC.out _ ?_; (repeat (first | with_reducible exact hq6 | with_reducible exact hq5 | with_reducible exact Below.refl _ _ | with_reducible refine below_dr9 ?_ | with_reducible refine below_al9 ?_))) | go_keep) ((first
                    | (go_at_call 20; with_reducible refine (HNUM.out _).mono ?_; rintro e w5 ⟨a5, c5', rfl, hI5, hb5⟩; have hq5 : Below wr.heap.size wr w5 := below_on (by (repeat (first | with_reducible exact hq6 | with_reducible exact hq5 | with_reducible exact Below.refl _ _ | with_reducible refine below_dr9 ?_ | with_reducible refine below_al9 ?_))) hb5; clear hb5)
                    | (go_at_call 25; with_reducible refine (HBYT.out _ _ _ ?_ ?_).mono ?_; ((repeat (first | with_reducible exact hq6 | with_reducible exact hq5 | with_reducible exact Below.refl _ _ | with_reducible refine below_dr9 ?_ | with_reducible refine below_al9 ?_))); exact hI5; rintro e w6 ⟨rfl, hb6⟩; have hq6 : Below wr.heap.size wr w6 := below_on (by (repeat (first | with_reducible exact hq6 | with_reducible exact hq5 | with_reducible exact Below.refl _ _ | with_reducible refine below_dr9 ?_ | with_reducible refine below_al9 ?_))) hb6; clear hb6)
                    | fail))
                  all_goals
                    have HQ6 := hid (below_on hb9.out hq6)
                    clear x0 x1 x2 x3 x4 x5 k0 k1 k2 k3 k4 k5 q0 q1 q2 q3 q4 q5 hc6
                    cases bb
                    · go_wp2_with fail
                      go_roundg (fv.length - (k + 1))
                      case measure => omega
                      case rel =>
                        refine ⟨k + 1, by first | rfl | go_num, by omega, Nat.le_refl _, ?_, HQ6.out⟩
                        show _ = _
                        have h9 := hA9.out
                        rw [HHH.out] at h9 ⊢
                        simp only [Bool.not_false, Bool.true_and] at h9 ⊢
                        rw [List.take_add_one, HY.out]
                        simp only [Option.toList_some, List.any_append, h9, List.any_cons, HBB.out, List.any_nil]; rfl
                    · go_wp2_with fail
                      have hr : r = true := HYES.out (by rw [HMM.out, HHH.out]; simp only [Bool.not_false, Bool.true_and]; exact List.any_eq_true.2 ⟨y, List.mem_of_getElem? HY.out, HBB.out⟩)
                      exact bodyPost_ret (v := .bool true) (by simp [results, Try.results11, go_sem]) rfl ⟨by first | rfl | rw [hr], below_on HB4.out (below_on HB3.out HQ6.out)⟩
                · rw [hH] at x2
                  have HHH := hid hH
                  clear hH
                  go_wp2_with fail
                  have x2 := Wk.cell x2
                  clear x0 x1 x3 x4 x5 k0 k1 k2 k3 k4 k5 q0 q1 q2 q3 q4 q5 hc6
                  refine wp_region_wk (by kernel_rfl) (by kernel_rfl) ?_
                  repeat (go_big_quiet_step (fail))
                  refine wpQuiet_nil ?_
                  rintro w6 ⟨⟨_, hb6⟩, rfl⟩
                  go_wp2_with fail
                  go_roundg (fv.length - (k + 1))
                  case measure => omega
                  case rel =>
                    refine ⟨k + 1, by first | rfl | go_num, by omega, Nat.le_refl _, ?_, below_on hb9.out hb6⟩
                    show _ = _
                    rw [HHH.out]; rfl
              · have hkz : ¬ (k : Int) < (fv.length : Int) := by omega
                have h9 := hA9.out
                rw [List.take_of_length_le (by omega)] at h9
                have H9 := hid h9
                clear h9
                go_wp2_with fail
                go_roundg (l.length - (i + 1))
                case measure => omega
                case rel => exact ⟨i + 1, by first | rfl | go_num, by omega, Nat.le_refl _, HNX.out false (by rw [HMM.out, H9.out]), below_on HB3.out hb9.out⟩
        · have hf1 : (h.o.F != fd) = true := by simpa using hF
          have hS := sat_no (vals := fv) (x := h.o) (d := fd) (.inr hF)
          have HS := hid hS
          clear hC hF hS
          go_wp2_with fail
          go_roundg (l.length - (i + 1))
          case measure => omega
          case rel => exact ⟨i + 1, by first | rfl | go_num, by omega, Nat.le_refl _, HNX.out false HS.out, HB3.out⟩
      · have hc1 : (h.o.C != 32768) = true := by simpa using hC
        have hS := sat_no (vals := fv) (x := h.o) (d := fd) (.inl hC)
        have HS := hid hS
        clear hC hS
        go_wp2_with fail
        go_roundg (l.length - (i + 1))
        case measure => omega
        case rel => exact ⟨i + 1, by first | rfl | go_num, by omega, Nat.le_refl _, HNX.out false HS.out, HB3.out⟩
    · have hltz : ¬ (i : Int) < (l.length : Int) := by omega
      go_wp2_with fail
      have hr : r = false := by
        rw [← HR.out]
        have h0 := hn.out
        rwa [List.take_of_length_le (by rw [List.length_map]; omega)] at h0
      exact bodyPost_ret (v := .bool false) (by simp [results, Try.results11, go_sem]) rfl ⟨by first | rfl | rw [hr], below_on HB4.out hb.out⟩
theorem refMet_any (l : List Ent9) (o : Ent9) (a : Option Addr) (c : Nat) (w : World) (hL : L9 w a l) :
    Calls Try.prog 11 #[.slice a l.length c, o.val] w fun e w' => e = .returned (.bool (met9 (l.map Ent9.o) o.o)) ∧ Below w.heap.size w w' := by
  unfold met9
  cases h : asks9 o.o
  · exact refMet_yes l o a c w h
  · simp only [Bool.not_true, Bool.false_or]
    exact refMet_loop l o a c w h hL
end Go.Proofs.Ytlikpafjlojagaa
