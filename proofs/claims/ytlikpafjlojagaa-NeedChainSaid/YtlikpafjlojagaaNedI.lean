/- Package need: meets, Met. -/
import Derived.Test.YtlikpafjlojagaaNedH
namespace Go.Proofs.Ytlikpafjlojagaa
open Go.RowKit
set_option linter.unusedVariables false

/-- a value meets what is asked: one of these numbers; any but 0, if there are none -/
def mt9 (o : Ox9) (vals : List Int) : Bool := if vals = [] then any9 o.v else (!o.H && vals.any (fun k => o.v == bytesL k (fld o.F).z))
theorem mt9_len {o : Ox9} {vals : List Int} (hv : vals ≠ []) (h : o.H = true ∨ o.v.length ≠ (fld o.F).z) : mt9 o vals = false := by
  unfold mt9
  rw [if_neg hv]
  rcases h with h | h
  · rw [h]; rfl
  · cases o.H
    · simp only [Bool.not_false, Bool.true_and]
      rw [List.any_eq_false]
      intro k _
      simp only [beq_iff_eq]
      intro e
      rw [e, bytesL_length] at h
      exact h rfl
    · rfl
theorem bytes_is {v : List Int} {z : Nat} {k : Int} (ho : Octets v) (hl : v.length = z) (h0 : 0 ≤ k) (h1 : k < p256 z) : (v == bytesL k z) = (k == numL v) := by
  rw [Bool.eq_iff_iff, beq_iff_eq, beq_iff_eq]
  constructor
  · intro e
    rw [e, numL_bytesL]
    exact (Int.emod_eq_of_lt h0 h1).symm
  · intro e
    rw [e, ← hl, bytesL_numL ho]
theorem mt9_num {o : Ox9} {vals : List Int} (hv : vals ≠ []) (hH : o.H = false) (hl : o.v.length = (fld o.F).z) (ho : Octets o.v) (hk : ∀ k ∈ vals, 0 ≤ k ∧ k < p256 (fld o.F).z) : mt9 o vals = vals.contains (numL o.v) := by
  unfold mt9
  rw [if_neg hv, hH]
  simp only [Bool.not_false, Bool.true_and]
  rw [Bool.eq_iff_iff, List.any_eq_true, List.contains_iff_mem]
  constructor
  · rintro ⟨k, hm, e⟩
    rw [bytes_is ho hl (hk k hm).1 (hk k hm).2, beq_iff_eq] at e
    rw [← e]; exact hm
  · intro hm
    exact ⟨_, hm, by rw [bytes_is ho hl (hk _ hm).1 (hk _ hm).2]; simp⟩
/-- what is asked, and of which field -/
def Asks9 (F : Int) (vals : List Int) : Prop := vals.length ≤ 1000 ∧ (vals ≠ [] → (0 ≤ F ∧ F < 40) ∧ (fld F).z ≤ 2 ∧ ∀ k ∈ vals, 0 ≤ k ∧ k < p256 (fld F).z)
theorem fld_box9 (w : World) (b : Int) (z : Nat) (m : Bool) (d : Int) (v : Value) : ∃ W, w.alloc (.cells #[.int .i64 b, .int .i64 z, .bool m, .int .i64 d, v] 42) = W ∧ Below w.heap.size w W ∧ BoxL W w.heap.size [.int .i64 b, .int .i64 z, .bool m, .int .i64 d, v] :=
  ⟨_, rfl, below_alloc _ _, BoxL.new _ _ _⟩
set_option maxRecDepth 100000 in
set_option maxHeartbeats 2000000 in
theorem meets_any (h : Ent9) (vals : List Int) (a : Option Addr) (c : Nat) (w : World) (hA : Asks9 h.o.F vals) (hI : EntIn w h) (hs : h.o.v.length ≤ 1000) (hV : Ints .u64 w a vals) :
    Calls Try.prog 23 #[h.val, .slice a vals.length c] w fun e w' => e = .returned (.bool (mt9 h.o vals)) ∧ Below w.heap.size w w' := by
  obtain ⟨⟨C, F, H, X, v, m⟩, va, vc, ma, mc⟩ := h
  simp only at hA hs
  obtain ⟨W, hW, hbW, hx⟩ := oxm_box w C F H X va v.length vc ma m.length mc
  have HW := hid hW
  have hIW := hI.below hbW
  have HI := hid hIW
  have HV := hid (hV.below hbW)
  obtain ⟨d0, d1, d2, d3, d4, d5⟩ := hx.six
  have HX := hid hx
  have HB := hid hbW
  have HA := hid hA
  have hl : vals.length ≤ 1000 := hA.1
  obtain ⟨r, hr⟩ : ∃ r, mt9 ⟨C, F, H, X, v, m⟩ vals = r := ⟨_, rfl⟩
  have HR := hid hr
  unfold Ent9.val
  simp only
  rw [hr]
  by_cases hn : vals = []
  · subst hn
    have hr2 : any9 v = r := hr
    have HC := hid (containsFunc9_any v va vc W (by omega) hIW.iv)
    rw [hr2] at HC
    clear hW hbW hI hIW hx hV hA hr hr2
    go_enter Try.func23, Try.ntmps23
    go_wp2_with fail
    rw [HW.out]
    refine HC.out.mono ?_
    rintro e w' ⟨rfl, rfl⟩
    go_wp2_with fail
    exact bodyPost_ret (v := .bool r) (by simp [results, Try.results23, go_sem]) rfl ⟨rfl, HB.out⟩
  · obtain ⟨⟨f0, f1⟩, fz, fk⟩ := hA.2 hn
    have hvl : ¬ vals.length = 0 := fun e => hn (List.eq_nil_of_length_eq_zero e)
    have hvz : ((vals.length : Int) == 0) = false := by simp; exact hn
    have HF := fldOf_any F W
    rw [decide_eq_true (show 0 ≤ F ∧ F < 40 from ⟨f0, f1⟩)] at HF
    have ov := hI.ov
    simp only at ov
    obtain ⟨⟨nm, fb, fz', fm, fd, fv⟩, hf⟩ : ∃ f, fld F = f := ⟨_, rfl⟩
    rw [hf] at HF fz fk
    unfold fldV at HF
    simp only at HF fz fk
    have HFF := hid HF
    have HZ := hid hf
    by_cases hg : H = false ∧ v.length = fz'
    · obtain ⟨rfl, hl'⟩ := hg
      have hr2 : vals.contains (numL v) = r := by
        rw [← hr]
        exact (mt9_num (o := ⟨C, F, false, X, v, m⟩) hn rfl (by rw [hf]; exact hl') ov (by rw [hf]; exact fk)).symm
      have HN := hid (fun W' (h' : Ints .u8 W' va v) => number9_any v va vc ov (by omega) W' h')
      have HC := hid (fun W' (h' : Ints .u64 W' a vals) => contains9_any vals (numL v) a c hl W' h')
      rw [hr2] at HC
      have hlz : ((v.length : Int) == (fz' : Int)) = true := by simp; omega
      clear hW hbW hI hIW hx hV hA hr hr2 HF hf fk f0 f1 ov hl' fz hn
      go_enter Try.func23, Try.ntmps23
      go_wp2_with fail
      rw [HW.out]
      refine HFF.out.mono ?_
      rintro e w1 ⟨v1, rfl, hU, hb1⟩
      obtain ⟨a1, c1, rfl, _⟩ := hU
      obtain ⟨W2, hW2, hbW2, hbox⟩ := fld_box9 w1 fb fz' fm fd (.slice a1 fv.length c1)
      have HW2 := hid hW2
      have hxx := (HX.out.below hb1).below hbW2
      obtain ⟨g0, g1, g2, g3, g4, g5⟩ := hxx.six
      obtain ⟨k0, k1, k2, k3, k4⟩ := hbox.five
      have HB1 := hid hb1
      have HBW2 := hid hbW2
      clear hW2 hxx hbox hb1 hbW2
      go_upto_region 4 with fail
      rw [HW2.out]
      go_wp2_with fail
      refine (HN.out W2 ((HI.out.iv.below HB1.out).below HBW2.out)).mono ?_
      rintro e w4 ⟨rfl, rfl⟩
      go_wp2_with fail
      refine (HC.out w4 ((HV.out.below HB1.out).below HBW2.out)).mono ?_
      rintro e w5 ⟨rfl, rfl⟩
      go_wp2_with fail
      exact bodyPost_ret (v := .bool r) (by simp [results, Try.results23, go_sem]) rfl ⟨rfl, below_on (below_on HB.out HB1.out) HBW2.out⟩
    · have hr2 : false = r := by rw [← hr]; exact (mt9_len (o := ⟨C, F, H, X, v, m⟩) hn (by rw [hf]; by_cases hH : H = true; exact .inl hH; right; intro e; exact hg ⟨by simpa using hH, e⟩)).symm
      subst hr2
      by_cases hH : H = true
      · subst hH
        clear hW hbW hI hIW hx hV hA hr HF hf fk f0 f1 ov fz hn hg
        go_enter Try.func23, Try.ntmps23
        go_wp2_with fail
        rw [HW.out]
        refine HFF.out.mono ?_
        rintro e w1 ⟨v1, rfl, hU, hb1⟩
        obtain ⟨a1, c1, rfl, _⟩ := hU
        obtain ⟨W2, hW2, hbW2, hbox⟩ := fld_box9 w1 fb fz' fm fd (.slice a1 fv.length c1)
        have HW2 := hid hW2
        have hxx := (HX.out.below hb1).below hbW2
        obtain ⟨g0, g1, g2, g3, g4, g5⟩ := hxx.six
        obtain ⟨k0, k1, k2, k3, k4⟩ := hbox.five
        have HB1 := hid hb1
        have HBW2 := hid hbW2
        clear hW2 hxx hbox hb1 hbW2
        go_upto_region 4 with fail
        rw [HW2.out]
        go_wp2_with fail
        exact bodyPost_ret (v := .bool false) (by simp [results, Try.results23, go_sem]) rfl ⟨rfl, below_on (below_on HB.out HB1.out) HBW2.out⟩
      · obtain rfl : H = false := by simpa using hH
        have hlz : ((v.length : Int) == (fz' : Int)) = false := by
          rw [beq_eq_false_iff_ne]
          intro e
          exact hg ⟨rfl, by omega⟩
        clear hW hbW hI hIW hx hV hA hr HF hf fk f0 f1 ov fz hn hg hH
        go_enter Try.func23, Try.ntmps23
        go_wp2_with fail
        rw [HW.out]
        refine HFF.out.mono ?_
        rintro e w1 ⟨v1, rfl, hU, hb1⟩
        obtain ⟨a1, c1, rfl, _⟩ := hU
        obtain ⟨W2, hW2, hbW2, hbox⟩ := fld_box9 w1 fb fz' fm fd (.slice a1 fv.length c1)
        have HW2 := hid hW2
        have hxx := (HX.out.below hb1).below hbW2
        obtain ⟨g0, g1, g2, g3, g4, g5⟩ := hxx.six
        obtain ⟨k0, k1, k2, k3, k4⟩ := hbox.five
        have HB1 := hid hb1
        have HBW2 := hid hbW2
        clear hW2 hxx hbox hb1 hbW2
        go_upto_region 4 with fail
        rw [HW2.out]
        go_wp2_with fail
        exact bodyPost_ret (v := .bool false) (by simp [results, Try.results23, go_sem]) rfl ⟨rfl, below_on (below_on HB.out HB1.out) HBW2.out⟩
end Go.Proofs.Ytlikpafjlojagaa
