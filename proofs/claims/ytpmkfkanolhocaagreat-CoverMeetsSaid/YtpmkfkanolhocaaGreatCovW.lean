/- Sure of layer 11. -/
import Derived.Test.YtpmkfkanolhocaaGreatCovV
namespace Go.Proofs.YtpmkfkanolhocaaGreat
open Go.RowKit
set_option linter.unusedVariables false
set_option maxRecDepth 100000

theorem few_sixty {l : List Ent9} (h : fewL9 l = true) : l.length ≤ 60 := by
  unfold fewL9 at h
  rw [Bool.and_eq_true, decide_eq_true_iff] at h
  exact h.2
def ip11 : Ox9 := ⟨32768, 5, false, 0, [8, 0], []⟩
def la11 : List Ox9 := [ip11, ⟨32768, 11, true, 0, [10, 0, 0, 0], [255, 0, 0, 0]⟩]
def lb11 : List Ox9 := [ip11, ⟨32768, 11, true, 0, [10, 1, 0, 0], [255, 255, 0, 0]⟩]
def lp11 : List Ox9 := [ip11, ⟨32768, 11, false, 0, [10, 2, 3, 4], []⟩]
theorem s11_a : isMatch10 la11 = true := by decide +kernel
theorem s11_b : isMatch10 lb11 = true := by decide +kernel
theorem s11_p : isMatch10 lp11 = true := by decide +kernel
theorem s11_1 : meet11 la11 lb11 = (lb11, true) := by decide +kernel
theorem s11_2 : within11 lb11 la11 = true := by decide +kernel
theorem s11_3 : within11 la11 lb11 = false := by decide +kernel
theorem s11_4 : takes11 la11 lp11 = true := by decide +kernel
theorem s11_5 : takes11 lb11 lp11 = false := by decide +kernel
theorem s11_6 : apart11 la11 lb11 = false := by decide +kernel
theorem s11_7 : len10 la11 ≤ 65528 := by decide +kernel
theorem s11_8 : len10 lb11 ≤ 65528 := by decide +kernel
/-- a value with a mask, whose bytes are written out -/
def mkM (F : Int) (v m : List Int) (b c : Nat) : Ent9 := ⟨⟨32768, F, true, 0, v, m⟩, some ⟨b, 0, none⟩, v.length, some ⟨c, 0, none⟩, m.length⟩
theorem mkM_in {w : World} {F : Int} {v m : List Int} {b c : Nat} (hF : 0 ≤ F ∧ F ≤ 100) (ho : Octets v) (hm : Octets m) (hI : Ints .u8 w (some ⟨b, 0, none⟩) v) (hJ : Ints .u8 w (some ⟨c, 0, none⟩) m) : EntIn w (mkM F v m b c) :=
  ⟨hI, hJ, ho, hm, Nat.le_refl _, ⟨by simp [mkM], by simp [mkM]⟩, ⟨by simp only [mkM]; omega, by simp only [mkM]; omega⟩, ⟨by simp [mkM], by simp [mkM]⟩⟩
/-- a list of two, the second one with a mask -/
theorem list_mask (w : World) (n a b c d p q r s : Int) (hv : Octets [a, b, c, d]) (hm : Octets [p, q, r, s]) {k : Nat} (h0 : EntIn w (mkE 5 [8, 0] k)) :
    ∃ W, ((w.alloc (.cells #[.int .u8 a, .int .u8 b, .int .u8 c, .int .u8 d] 5)).alloc (.cells #[.int .u8 p, .int .u8 q, .int .u8 r, .int .u8 s] 5)).alloc (.cells #[.int .i64 32768, .int .i64 5, .bool false, .int .u64 0, .slice (some ⟨k, 0, none⟩) 2 2, .slice none 0 0, .int .i64 32768, .int .i64 11, .bool true, .int .u64 0, .slice (some ⟨w.heap.size, 0, none⟩) 4 4, .slice (some ⟨w.heap.size + 1, 0, none⟩) 4 4] 33) = W ∧
      Below w.heap.size w W ∧ L9 W (some ⟨w.heap.size + 2, 0, none⟩) [mkE 5 [8, 0] k, mkM 11 [a, b, c, d] [p, q, r, s] w.heap.size (w.heap.size + 1)] ∧ W.heap.size = w.heap.size + 3 := by
  obtain ⟨W1, h1, b1, x1, s1⟩ := box_any w ([a, b, c, d].map (Value.int .u8)) 5
  obtain ⟨W2, h2, b2, x2, s2⟩ := box_any W1 ([p, q, r, s].map (Value.int .u8)) 5
  rw [s1] at x2 s2
  have i1 := (box_ints x1).below b2
  have i2 := box_ints x2
  have hE : ∀ h ∈ [mkE 5 [8, 0] k, mkM 11 [a, b, c, d] [p, q, r, s] w.heap.size (w.heap.size + 1)], EntIn W2 h := by
    intro h hh
    simp at hh
    rcases hh with rfl | rfl
    · exact (h0.below b1).below b2
    · exact mkM_in (by omega) hv hm i1 i2
  have hL := l9_lit (t := 33) hE (by intro h hh; simp at hh; rcases hh with rfl | rfl <;> simp [mkE, mkM]) (by simp)
  rw [s2] at hL
  exact ⟨_, by rw [← h2, ← h1]; rfl, below_al9 (below_on b1 b2), hL, by rw [World.size_alloc, s2]⟩
/-- a list of two, both without a mask -/
theorem list_bare (w : World) (a b c d : Int) (hv : Octets [a, b, c, d]) {k : Nat} (h0 : EntIn w (mkE 5 [8, 0] k)) :
    ∃ W, (w.alloc (.cells #[.int .u8 a, .int .u8 b, .int .u8 c, .int .u8 d] 5)).alloc (.cells #[.int .i64 32768, .int .i64 5, .bool false, .int .u64 0, .slice (some ⟨k, 0, none⟩) 2 2, .slice none 0 0, .int .i64 32768, .int .i64 11, .bool false, .int .u64 0, .slice (some ⟨w.heap.size, 0, none⟩) 4 4, .slice none 0 0] 33) = W ∧
      Below w.heap.size w W ∧ L9 W (some ⟨w.heap.size + 1, 0, none⟩) [mkE 5 [8, 0] k, mkE 11 [a, b, c, d] w.heap.size] ∧ W.heap.size = w.heap.size + 2 := by
  obtain ⟨W1, h1, b1, x1, s1⟩ := box_any w ([a, b, c, d].map (Value.int .u8)) 5
  have hE : ∀ h ∈ [mkE 5 [8, 0] k, mkE 11 [a, b, c, d] w.heap.size], EntIn W1 h := by
    intro h hh
    simp at hh
    rcases hh with rfl | rfl
    · exact h0.below b1
    · exact mkE_in (by omega) hv (by simp) (box_ints x1)
  have hL := l9_lit (t := 33) hE (by intro h hh; simp at hh; rcases hh with rfl | rfl <;> simp [mkE]) (by simp)
  rw [s1] at hL
  exact ⟨_, by rw [← h1]; rfl, below_al9 b1, hL, by rw [World.size_alloc, s1]⟩
set_option maxHeartbeats 4000000 in
theorem sure11_any (w : World) : Calls Tryz.prog 6 #[] w fun e w' => e = .returned (.bool true) ∧ Below w.heap.size w w' := by
  obtain ⟨W0, h0, b0, x0, s0⟩ := box_any w ([8, 0].map (Value.int .u8)) 5
  obtain ⟨W1, h1, b1, x1, s1⟩ := box_any W0 [.int .i64 32768, .int .i64 5, .bool false, .int .u64 0, .slice (some ⟨w.heap.size, 0, none⟩) 2 2, .slice none 0 0] 33
  have HW1 : Hid ((w.alloc (.cells #[.int .u8 8, .int .u8 0] 5)).alloc (.cells #[.int .i64 32768, .int .i64 5, .bool false, .int .u64 0, .slice (some ⟨w.heap.size, 0, none⟩) 2 2, .slice none 0 0] 33) = W1) := by
    show _ = _
    rw [← h1, ← h0]; rfl
  have e1 : EntIn W1 (mkE 5 [8, 0] w.heap.size) := mkE_in (by omega) (octets8 (by decide)) (by decide) ((box_ints x0).below b1)
  rw [s0] at x1 s1
  obtain ⟨W2, h2, b2, l2, s2⟩ := list_mask W1 0 10 0 0 0 255 0 0 0 (octets8 (by decide)) (octets8 (by decide)) e1
  obtain ⟨W3, h3, b3, l3, s3⟩ := list_mask W2 0 10 1 0 0 255 255 0 0 (octets8 (by decide)) (octets8 (by decide)) (e1.below b2)
  have HW2 := hid h2
  have HW3 := hid h3
  have HLA := hid (l2.below b3)
  have HLB := hid l3
  have HB3 := hid (below_on (below_on (below_on b0 b1) b2) b3)
  have HE := hid ((e1.below b2).below b3)
  have x1' := x1.below b2
  have HX3 := hid (x1'.below b3)
  obtain ⟨c0, c1, c2, c3, c4, c5⟩ := x1.six
  obtain ⟨d0, d1, d2, d3, d4, d5⟩ := x1'.six
  have oA : OkL la11 := okL_of HLA.out s11_a
  have oB : OkL lb11 := okL_of HLB.out s11_b
  have HC : Hid (Calls Tryz.prog 7 #[.slice (some ⟨W1.heap.size + 1 + 1, 0, none⟩) 2 2, .slice (some ⟨W2.heap.size + 1 + 1, 0, none⟩) 2 2] W3 (MeetPost la11 lb11 W3)) := meet_any _ _ _ _ 2 2 W3 HLA.out HLB.out (by simp) (by simp) (by simp) (by simp) s11_7 s11_8
  have HBA : Hid (∀ w' : World, Below W3.heap.size W3 w' → Calls Tryz.prog 13 #[.slice (some ⟨W2.heap.size + 1 + 1, 0, none⟩) 2 2, .slice (some ⟨W1.heap.size + 1 + 1, 0, none⟩) 2 2] w' fun e w'' => e = .returned (.bool (within11 lb11 la11)) ∧ Below w'.heap.size w' w'') := fun w' hb => within_any _ _ _ _ 2 2 w' (HLB.out.below hb) (HLA.out.below hb) oB oA
  have HAB : Hid (∀ w' : World, Below W3.heap.size W3 w' → Calls Tryz.prog 13 #[.slice (some ⟨W1.heap.size + 1 + 1, 0, none⟩) 2 2, .slice (some ⟨W2.heap.size + 1 + 1, 0, none⟩) 2 2] w' fun e w'' => e = .returned (.bool (within11 la11 lb11)) ∧ Below w'.heap.size w' w'') := fun w' hb => within_any _ _ _ _ 2 2 w' (HLA.out.below hb) (HLB.out.below hb) oA oB
  have HAP : Hid (∀ w' : World, Below W3.heap.size W3 w' → Calls Tryz.prog 14 #[.slice (some ⟨W1.heap.size + 1 + 1, 0, none⟩) 2 2, .slice (some ⟨W2.heap.size + 1 + 1, 0, none⟩) 2 2] w' fun e w'' => e = .returned (.bool (apart11 la11 lb11)) ∧ Below w'.heap.size w' w'') := fun w' hb => apart_any _ _ _ _ 2 2 w' (HLA.out.below hb) (HLB.out.below hb) oA oB
  rw [s11_2] at HBA
  rw [s11_3] at HAB
  rw [s11_6] at HAP
  have HOA := hid oA
  have HOB := hid oB
  clear h0 b0 x0 h1 b1 x1 h2 b2 l2 h3 b3 l3 e1 x1' s0 s1 s2 s3 oA oB
  go_enter Tryz.func6, Tryz.ntmps6
  go_upto_region 2 with fail
  rw [HW1.out]
  go_upto_region 3 with fail
  rw [HW2.out]
  go_upto_region 4 with fail
  rw [HW3.out]
  clear c0 c1 c2 c3 c4 c5 d0 d1 d2 d3 d4 d5
  go_wp2_with fail
  refine HC.out.mono ?_
  rintro e w4 ⟨va, vc, D, ok, rfl, hm, hD, hDc, hb4⟩
  rw [s11_1] at hm
  obtain ⟨hDo, rfl⟩ : lb11 = D.map Ent9.o ∧ ok = true := by
    have := Prod.mk.inj hm
    exact ⟨this.1, this.2.symm⟩
  have HB4 := hid hb4
  have e4 := HE.out.below hb4
  obtain ⟨c0, c1, c2, c3, c4, c5⟩ := (HX3.out.below hb4).six
  obtain ⟨W5, h5, b5, l5, s5⟩ := list_bare w4 10 2 3 4 (octets8 (by decide)) e4
  have HW5 := hid h5
  have HB5 := hid (below_on hb4 b5)
  have HD5 := hid (hD.below b5)
  have oP : OkL lp11 := okL_of l5 s11_p
  have HLP := hid l5
  have HDO := hid hDo
  have HSM : Hid (Calls Tryz.prog 9 #[.slice va D.length vc, .slice (some ⟨W2.heap.size + 1 + 1, 0, none⟩) 2 2] W5 fun e w'' => e = .returned (.bool true) ∧ Below W5.heap.size W5 w'') := by
    show Calls _ _ _ _ _
    have := refSame9_any D _ va (some ⟨W2.heap.size + 2, 0, none⟩) vc 2 W5 HD5.out (HLB.out.below HB5.out)
    rw [decide_eq_true (show D.map Ent9.o = [mkE 5 [8, 0] w.heap.size, mkM 11 [10, 1, 0, 0] [255, 255, 0, 0] W2.heap.size (W2.heap.size + 1)].map Ent9.o from hDo.symm)] at this
    exact this
  have HTA : Hid (∀ w' : World, Below W5.heap.size W5 w' → Calls Tryz.prog 12 #[.slice (some ⟨W1.heap.size + 1 + 1, 0, none⟩) 2 2, .slice (some ⟨w4.heap.size + 1, 0, none⟩) 2 2] w' fun e w'' => e = .returned (.bool (takes11 la11 lp11)) ∧ Below w'.heap.size w' w'') := fun w' hb => takes_any _ _ _ _ 2 2 w' (HLA.out.below (below_on HB5.out hb)) (HLP.out.below hb) HOA.out oP
  have HTB : Hid (∀ w' : World, Below W5.heap.size W5 w' → Calls Tryz.prog 12 #[.slice (some ⟨W2.heap.size + 1 + 1, 0, none⟩) 2 2, .slice (some ⟨w4.heap.size + 1, 0, none⟩) 2 2] w' fun e w'' => e = .returned (.bool (takes11 lb11 lp11)) ∧ Below w'.heap.size w' w'') := fun w' hb => takes_any _ _ _ _ 2 2 w' (HLB.out.below (below_on HB5.out hb)) (HLP.out.below hb) HOB.out oP
  rw [s11_4] at HTA
  rw [s11_5] at HTB
  clear hm hD hb4 e4 h5 b5 l5 s5 oP hDo HDO
  go_upto_region 6 with fail
  rw [HW5.out]
  clear c0 c1 c2 c3 c4 c5
  go_wp2_with fail
  refine HSM.out.mono ?_
  rintro e w6 ⟨rfl, hb6⟩
  go_wp2_with fail
  refine (HBA.out _ (below_on HB5.out hb6)).mono ?_
  rintro e w7 ⟨rfl, hb7⟩
  have HB7 := hid (below_on hb6 hb7)
  clear hb6 hb7
  go_wp2_with fail
  refine (HAB.out _ (below_on HB5.out HB7.out)).mono ?_
  rintro e w8 ⟨rfl, hb8⟩
  have HB8 := hid (below_on HB7.out hb8)
  clear hb8
  go_wp2_with fail
  refine (HTA.out _ HB8.out).mono ?_
  rintro e w9 ⟨rfl, hb9⟩
  have HB9 := hid (below_on HB8.out hb9)
  clear hb9
  go_wp2_with fail
  refine (HTB.out _ HB9.out).mono ?_
  rintro e wa ⟨rfl, hba⟩
  have HBA := hid (below_on HB9.out hba)
  clear hba
  go_wp2_with fail
  refine (HAP.out _ (below_on HB5.out HBA.out)).mono ?_
  rintro e wb ⟨rfl, hbb⟩
  have HBB := hid (below_on HBA.out hbb)
  clear hbb
  go_wp2_with fail
  go_ret
  exact ⟨rfl, below_on (below_on HB3.out HB5.out) HBB.out⟩
end Go.Proofs.YtpmkfkanolhocaaGreat
