/- What must come whatever the input is. -/
import Derived.Test.YtlikpafjlojagaaNedN
import Derived.Deep.RegionHeld3
namespace Go.Proofs.Ytlikpafjlojagaa
open Go.RowKit
set_option linter.unusedVariables false

theorem oxms_box {w : World} {b : Nat} {l : List Ent9} (h : BoxL w b (oxmCells l)) : Oxms w (some ⟨b, 0, none⟩) l := by
  have H := holds_box h
  intro i hi
  have c := fun j (hj : j < 6) => (Sort.HoldsK.cell H (i := i) (c := j) (by simpa using hi) hj).1
  have e : l.toArray[i]! = l[i] := by simp [hi]
  rw [e] at c
  exact ⟨b, 0, rfl, c 0 (by decide), c 1 (by decide), c 2 (by decide), c 3 (by decide), c 4 (by decide), c 5 (by decide)⟩
theorem l9_lit {w : World} {l : List Ent9} {t : TypeId} (h1 : ∀ h ∈ l, EntIn w h) (h2 : ∀ h ∈ l, h.o.v.length ≤ 1000 ∧ h.o.m.length ≤ 1000) (h3 : l.length ≤ 60) : L9 (w.alloc (.cells (oxmCells l).toArray t)) (some ⟨w.heap.size, 0, none⟩) l :=
  ⟨oxms_box (BoxL.new w (oxmCells l) t), fun h hh => (h1 h hh).below (below_alloc _ _), h2, h3⟩
theorem below_al9 {w X : World} (h : Below w.heap.size w X) {o : Obj} : Below w.heap.size w (X.alloc o) := below_on h (below_alloc _ _)
theorem below_dr9 {w X : World} (h : Below w.heap.size w X) : Below w.heap.size w X.drew := below_on h (below_drew8 _)
/-- a value whose bytes are written out -/
def mkE (F : Int) (v : List Int) (b : Nat) : Ent9 := ⟨⟨32768, F, false, 0, v, []⟩, some ⟨b, 0, none⟩, v.length, none, 0⟩
theorem mkE_in {w : World} {F : Int} {v : List Int} {b : Nat} (hF : 0 ≤ F ∧ F ≤ 100) (ho : Octets v) (hl : v.length ≤ 100) (hI : Ints .u8 w (some ⟨b, 0, none⟩) v) : EntIn w (mkE F v b) :=
  ⟨hI, Ints.nil _ _ _, ho, fun x hx => by simp [mkE] at hx, ⟨Nat.le_refl _, by simp only [mkE]; omega⟩, ⟨Nat.le_refl _, by simp [mkE]⟩, ⟨by simp [mkE], by simp [mkE]⟩, ⟨by simp only [mkE]; omega, by simp only [mkE]; omega⟩, ⟨by simp [mkE], by simp [mkE]⟩⟩
/-- a list that is sorted -/
theorem sort_l9 (w : World) (a : Option Addr) (c : Nat) (l : List Ent9) (hL : L9 w a l) : Calls Try.prog 16 #[.slice a l.length c] w fun e w' => ∃ g M, e = .returned (.slice (some ⟨g, 0, none⟩) l.length l.length) ∧ M.length = l.length ∧ M.map Ent9.o = sort9 (l.map Ent9.o) ∧ L9 w' (some ⟨g, 0, none⟩) M ∧ Below w.heap.size w w' ∧ w.heap.size ≤ g := by
  refine (sort_any w a c l hL.len hL.ox hL.ent hL.few).mono ?_
  rintro e w' ⟨g, M, he, h1, h2, h3, h4, h5, h6⟩
  refine ⟨g, M, he, h1, h2, ⟨h3, h4, fun h hh => ?_, by rw [h1]; exact hL.len⟩, h5, h6⟩
  have hm : h.o ∈ sort9 (l.map Ent9.o) := by rw [← h2]; exact List.mem_map_of_mem hh
  obtain ⟨h', hh', e⟩ := List.mem_map.1 ((sort_perm _).mem_iff.1 hm)
  rw [← e]
  exact hL.few h' hh'
theorem lit510 (w : World) : Ints .i64 (w.alloc (.cells #[.int .i64 5, .int .i64 10] 3)) (some ⟨w.heap.size, 0, none⟩) [5, 10] := ints_lit .i64 w [5, 10] 3
theorem s9_1 (b : Nat) : check9 ([mkE 13 [0, 80] b].map Ent9.o) = (0, 1034) := by simp only [List.map_cons, List.map_nil, mkE]; decide +kernel
theorem s9_2 (a b c : Nat) : check9 ([mkE 5 [8, 0] a, mkE 10 [6] b, mkE 13 [0, 80] c].map Ent9.o) = (0, 0) := by simp only [List.map_cons, List.map_nil, mkE]; decide +kernel
theorem s9_3 (b : Nat) : missing9 ([mkE 13 [0, 80] b].map Ent9.o) = [5, 10] := by simp only [List.map_cons, List.map_nil, mkE]; decide +kernel
theorem s9_4 (a b c : Nat) : met9 ([mkE 5 [8, 0] a, mkE 10 [6] b, mkE 13 [0, 80] c].map Ent9.o) (mkE 13 [0, 80] c).o = true := by simp only [List.map_cons, List.map_nil, mkE]; decide +kernel
theorem s9_5 (a b c : Nat) : sort9 ([mkE 13 [0, 80] c, mkE 5 [8, 0] a, mkE 10 [6] b].map Ent9.o) = [mkE 5 [8, 0] a, mkE 10 [6] b, mkE 13 [0, 80] c].map Ent9.o := by simp only [List.map_cons, List.map_nil, mkE]; decide +kernel
theorem s9_few (a b c : Nat) : ∀ h ∈ [mkE 5 [8, 0] a, mkE 10 [6] b, mkE 13 [0, 80] c], h.o.v.length ≤ 1000 ∧ h.o.m.length ≤ 1000 := by
  intro h hh
  simp at hh
  rcases hh with rfl | rfl | rfl <;> simp [mkE]
set_option maxRecDepth 100000 in
set_option maxHeartbeats 4000000 in
theorem sure9_any (w : World) : Calls Try.prog 7 #[] w fun e w' => e = .returned (.bool true) ∧ Below w.heap.size w w' := by
  have hmix : Try.prog.follows .mixedOrders = true := by kernel_rfl
  obtain ⟨W1, hW1⟩ : ∃ W1, (w.alloc (.cells #[.int .u8 0, .int .u8 80] 5)).alloc (.cells #[.int .i64 32768, .int .i64 13, .bool false, .int .u64 0, .slice (some ⟨w.heap.size, 0, none⟩) 2 2, .slice none 0 0] 26) = W1 := ⟨_, rfl⟩
  have hI0 := (ints_lit .u8 w [0, 80] 5).below (below_alloc _ (.cells #[.int .i64 32768, .int .i64 13, .bool false, .int .u64 0, .slice (some ⟨w.heap.size, 0, none⟩) 2 2, .slice none 0 0] 26))
  have hx1 := BoxL.new (w.alloc (.cells #[.int .u8 0, .int .u8 80] 5)) (mkE 13 [0, 80] w.heap.size).cs 26
  have hb1 : Below w.heap.size w W1 := by rw [← hW1]; exact below_on (below_alloc _ _) (below_alloc _ _)
  have hI1 : Ints .u8 W1 (some ⟨w.heap.size, 0, none⟩) [0, 80] := by rw [← hW1]; exact hI0
  have hX1 : BoxL W1 (w.heap.size + 1) (mkE 13 [0, 80] w.heap.size).cs := by rw [← hW1]; rw [World.size_alloc] at hx1; exact hx1
  clear hI0 hx1
  have hE1 : EntIn W1 (mkE 13 [0, 80] w.heap.size) := mkE_in (by omega) (octets8 (by decide)) (by decide) hI1
  have HW1 := hid hW1
  have HB1 := hid hb1
  have HE1 := hid hE1
  have HX1 := hid hX1
  have C1 := hid (check_any9 [mkE 13 [0, 80] w.heap.size] (some ⟨W1.heap.size, 0, none⟩) 1 (W1.alloc (.cells (oxmCells [mkE 13 [0, 80] w.heap.size]).toArray 26)) (l9_lit (by intro h hh; rw [List.mem_singleton.1 hh]; exact hE1) (by intro h hh; rw [List.mem_singleton.1 hh]; simp [mkE]) (by simp)) (by simp))
  rw [s9_1] at C1
  obtain ⟨x0, x1, x2, x3, x4, x5⟩ := hX1.six
  clear hW1 hb1 hI1 hX1 hE1
  go_enter Try.func7, Try.ntmps7
  go_upto_region 2 with fail
  rw [HW1.out]
  go_wp2_with fail
  refine C1.out.mono ?_
  rintro e w3 ⟨rfl, hb3⟩
  have HB3 := hid (below_on (below_alloc W1 _) hb3)
  clear hb3 C1
  have hX3 := HX1.out.below HB3.out
  have HX3 := hid hX3
  clear hX3 x0 x1 x2 x3 x4 x5
  unfold ckV
  have hlt : w.heap.size + 1 < w3.heap.size := HX3.out.lt
  have q1 : ¬ w.heap.size + 1 = w3.heap.size := by omega
  have q2 : ¬ w.heap.size + 1 = w3.heap.size + 1 := by omega
  have q3 : ¬ w.heap.size = w3.heap.size := by omega
  have q4 : ¬ w.heap.size = w3.heap.size + 1 := by omega
  obtain ⟨Wb, hWb⟩ : ∃ Wb, (w3.alloc (.cells #[.int .u8 8, .int .u8 0] 5)).alloc (.cells #[.int .u8 6] 5) = Wb := ⟨_, rfl⟩
  have hbb : Below w3.heap.size w3 Wb := by rw [← hWb]; exact below_on (below_alloc _ _) (below_alloc _ _)
  have hsb : Wb.heap.size = w3.heap.size + 1 + 1 := by rw [← hWb, World.size_alloc, World.size_alloc]
  have hi5 : Ints .u8 Wb (some ⟨w3.heap.size, 0, none⟩) [8, 0] := by rw [← hWb]; exact (ints_lit .u8 w3 [8, 0] 5).below (below_alloc _ _)
  have hi6 : Ints .u8 Wb (some ⟨w3.heap.size + 1, 0, none⟩) [6] := by
    have := ints_lit .u8 (w3.alloc (.cells #[.int .u8 8, .int .u8 0] 5)) [6] 5
    rw [World.size_alloc] at this
    rw [← hWb]; exact this
  have hents : ∀ h ∈ [mkE 5 [8, 0] w3.heap.size, mkE 10 [6] (w3.heap.size + 1), mkE 13 [0, 80] w.heap.size], EntIn Wb h := by
    intro h hh
    simp at hh
    rcases hh with rfl | rfl | rfl
    · exact mkE_in (by omega) (octets8 (by decide)) (by decide) hi5
    · exact mkE_in (by omega) (octets8 (by decide)) (by decide) hi6
    · exact (HE1.out.below HB3.out).below hbb
  have hL4 := l9_lit (t := 26) hents (s9_few _ _ _) (by simp)
  obtain ⟨W4, hW4⟩ : ∃ W4, Wb.alloc (.cells (oxmCells [mkE 5 [8, 0] w3.heap.size, mkE 10 [6] (w3.heap.size + 1), mkE 13 [0, 80] w.heap.size]).toArray 26) = W4 := ⟨_, rfl⟩
  rw [hW4] at hL4
  have HL4 := hid hL4
  have hx4 : BoxL W4 (w.heap.size + 1) (mkE 13 [0, 80] w.heap.size).cs := by rw [← hW4]; exact (HX3.out.below hbb).below (below_alloc _ _)
  have hl4 : BoxL W4 (w3.heap.size + 1 + 1) (oxmCells [mkE 5 [8, 0] w3.heap.size, mkE 10 [6] (w3.heap.size + 1), mkE 13 [0, 80] w.heap.size]) := by
    have := BoxL.new Wb (oxmCells [mkE 5 [8, 0] w3.heap.size, mkE 10 [6] (w3.heap.size + 1), mkE 13 [0, 80] w.heap.size]) 26
    rw [hW4, hsb] at this
    exact this
  have HX4 := hid hx4
  have HLB := hid hl4
  have HB4 : Hid (Below w3.heap.size w3 W4) := by show Below _ _ _; rw [← hW4]; exact below_on hbb (below_alloc _ _)
  have C2 := hid (check_any9 _ _ 3 W4 hL4 (by simp))
  rw [s9_2, hsb] at C2
  have HW4 : Hid (((w3.alloc (.cells #[.int .u8 8, .int .u8 0] 5)).alloc (.cells #[.int .u8 6] 5)).alloc (.cells (oxmCells [mkE 5 [8, 0] w3.heap.size, mkE 10 [6] (w3.heap.size + 1), mkE 13 [0, 80] w.heap.size]).toArray 26) = W4) := by show _ = _; rw [hWb]; exact hW4
  have HSB := hid hsb
  rw [hsb] at HL4
  have hxb : BoxL ((w3.alloc (.cells #[.int .u8 8, .int .u8 0] 5)).alloc (.cells #[.int .u8 6] 5)) (w.heap.size + 1) [.int .i64 32768, .int .i64 13, .bool false, .int .u64 0, .slice (some ⟨w.heap.size, 0, none⟩) 2 2, .slice none 0 0] := (HX3.out.below (below_alloc _ _)).below (below_alloc _ _)
  obtain ⟨y0, y1, y2, y3, y4, y5⟩ := hxb.six
  clear hxb
  clear hWb hbb hi5 hi6 hents hL4 hW4 hx4 hl4 hsb
  go_upto_region 4 with fail
  rw [show (((w3.alloc (.cells #[.int .u8 8, .int .u8 0] 5)).alloc (.cells #[.int .u8 6] 5)).alloc (.cells #[.int .i64 32768, .int .i64 5, .bool false, .int .u64 0, .slice (some ⟨w3.heap.size, 0, none⟩) 2 2, .slice none 0 0, .int .i64 32768, .int .i64 10, .bool false, .int .u64 0, .slice (some ⟨w3.heap.size + 1, 0, none⟩) 1 1, .slice none 0 0, .int .i64 32768, .int .i64 13, .bool false, .int .u64 0, .slice (some ⟨w.heap.size, 0, none⟩) 2 2, .slice none 0 0] 26)) = W4 from HW4.out]
  clear y0 y1 y2 y3 y4 y5
  go_wp2_with fail
  refine C2.out.mono ?_
  rintro e w5 ⟨rfl, hb5⟩
  have HB5 := hid hb5
  have hX5 := HX4.out.below hb5
  have hLB5 := HLB.out.below hb5
  have HX5 := hid hX5
  have HLB5 := hid hLB5
  have HL5 := hid (HL4.out.below hb5)
  clear hb5 C2
  unfold ckV
  go_upto_region 5 with fail
  obtain ⟨hx5, hlb5⟩ := And.intro HX5.out HLB5.out
  have EN5 : Hid (∀ h ∈ [mkE 5 [8, 0] w3.heap.size, mkE 10 [6] (w3.heap.size + 1), mkE 13 [0, 80] w.heap.size], EntIn w5 h) := HL5.out.ent
  have HMISS : Hid (∀ Y X n, n = Y.heap.size → Below w5.heap.size w5 Y → Below (Y.alloc (.cells #[.int .i64 32768, .int .i64 13, .bool false, .int .u64 0, .slice (some ⟨w.heap.size, 0, none⟩) 2 2, .slice none 0 0] 26)).heap.size (Y.alloc (.cells #[.int .i64 32768, .int .i64 13, .bool false, .int .u64 0, .slice (some ⟨w.heap.size, 0, none⟩) 2 2, .slice none 0 0] 26)) X → Calls Try.prog 13 #[.slice (some ⟨n, 0, none⟩) 1 1] X fun e w' => ∃ a c, e = .returned (.slice a 2 c) ∧ Ints .i64 w' a [5, 10] ∧ Below X.heap.size X w') := by
    show _
    intro Y X n hn hY hX
    subst hn
    have hl : L9 (Y.alloc (.cells (oxmCells [mkE 13 [0, 80] w.heap.size]).toArray 26)) (some ⟨Y.heap.size, 0, none⟩) [mkE 13 [0, 80] w.heap.size] := l9_lit (by intro h hh; rw [List.mem_singleton.1 hh]; exact (EN5.out _ (by simp)).below hY) (by intro h hh; rw [List.mem_singleton.1 hh]; simp [mkE]) (by simp)
    refine (missing_any9 [mkE 13 [0, 80] w.heap.size] _ 1 X (hl.below hX)).mono ?_
    rintro e w' ⟨v, rfl, hF⟩
    rw [s9_3] at hF
    obtain ⟨a, c, rfl, _, _, hI⟩ := own_ints hF.own
    exact ⟨a, c, rfl, hI, hF.bel⟩
  have HINTS : Hid (∀ X a c b, Ints .i64 X a [5, 10] → Ints .i64 X b [5, 10] → Calls Try.prog 12 #[.slice a 2 c, .slice b 2 2] X fun e w' => e = .returned (.bool true) ∧ Below X.heap.size X w') := by
    show _
    intro X a c b h1 h2
    exact refInts9_any [5, 10] [5, 10] a b c 2 X h1 h2 (by decide) (by decide)
  have HMET : Hid (∀ X, Below w5.heap.size w5 X → Calls Try.prog 10 #[.slice (some ⟨w3.heap.size + 1 + 1, 0, none⟩) 3 3, .agg #[.int .i64 32768, .int .i64 13, .bool false, .int .u64 0, .slice (some ⟨w.heap.size, 0, none⟩) 2 2, .slice none 0 0]] X fun e w' => e = .returned (.bool true) ∧ Below X.heap.size X w') := by
    show _
    intro X hX
    have := met_any [mkE 5 [8, 0] w3.heap.size, mkE 10 [6] (w3.heap.size + 1), mkE 13 [0, 80] w.heap.size] (mkE 13 [0, 80] w.heap.size) (some ⟨w3.heap.size + 1 + 1, 0, none⟩) 3 X (HL5.out.below hX)
    rw [s9_4] at this
    exact this
  have HSORT : Hid (∀ Y X, Below w5.heap.size w5 Y → Below (Y.alloc (.cells #[.int .i64 32768, .int .i64 13, .bool false, .int .u64 0, .slice (some ⟨w.heap.size, 0, none⟩) 2 2, .slice none 0 0, .int .i64 32768, .int .i64 5, .bool false, .int .u64 0, .slice (some ⟨w3.heap.size, 0, none⟩) 2 2, .slice none 0 0, .int .i64 32768, .int .i64 10, .bool false, .int .u64 0, .slice (some ⟨w3.heap.size + 1, 0, none⟩) 1 1, .slice none 0 0] 26)).heap.size (Y.alloc (.cells #[.int .i64 32768, .int .i64 13, .bool false, .int .u64 0, .slice (some ⟨w.heap.size, 0, none⟩) 2 2, .slice none 0 0, .int .i64 32768, .int .i64 5, .bool false, .int .u64 0, .slice (some ⟨w3.heap.size, 0, none⟩) 2 2, .slice none 0 0, .int .i64 32768, .int .i64 10, .bool false, .int .u64 0, .slice (some ⟨w3.heap.size + 1, 0, none⟩) 1 1, .slice none 0 0] 26)) X → Calls Try.prog 16 #[.slice (some ⟨Y.heap.size, 0, none⟩) 3 3] X fun e w' => ∃ g M, e = .returned (.slice (some ⟨g, 0, none⟩) 3 3) ∧ L9 w' (some ⟨g, 0, none⟩) M ∧ M.map Ent9.o = [mkE 5 [8, 0] w3.heap.size, mkE 10 [6] (w3.heap.size + 1), mkE 13 [0, 80] w.heap.size].map Ent9.o ∧ M.length = 3 ∧ Below X.heap.size X w') := by
    show _
    intro Y X hY hX
    have hl : L9 (Y.alloc (.cells (oxmCells [mkE 13 [0, 80] w.heap.size, mkE 5 [8, 0] w3.heap.size, mkE 10 [6] (w3.heap.size + 1)]).toArray 26)) (some ⟨Y.heap.size, 0, none⟩) [mkE 13 [0, 80] w.heap.size, mkE 5 [8, 0] w3.heap.size, mkE 10 [6] (w3.heap.size + 1)] := l9_lit (by intro h hh; exact (EN5.out h (by simp at hh ⊢; rcases hh with rfl | rfl | rfl <;> simp)).below hY) (by intro h hh; simp at hh; rcases hh with rfl | rfl | rfl <;> simp [mkE]) (by simp)
    refine (sort_l9 X _ 3 [mkE 13 [0, 80] w.heap.size, mkE 5 [8, 0] w3.heap.size, mkE 10 [6] (w3.heap.size + 1)] (hl.below hX)).mono ?_
    rintro e w' ⟨g, M, rfl, h1, h2, h3, h4, h5⟩
    rw [s9_5] at h2
    exact ⟨g, M, rfl, h3, h2, h1, h4⟩
  have HSAME : Hid (∀ X g M, L9 X (some ⟨g, 0, none⟩) M → M.map Ent9.o = [mkE 5 [8, 0] w3.heap.size, mkE 10 [6] (w3.heap.size + 1), mkE 13 [0, 80] w.heap.size].map Ent9.o → M.length = 3 → Below w5.heap.size w5 X → Calls Try.prog 15 #[.slice (some ⟨g, 0, none⟩) 3 3, .slice (some ⟨w3.heap.size + 1 + 1, 0, none⟩) 3 3] X fun e w' => e = .returned (.bool true) ∧ Below X.heap.size X w') := by
    show _
    intro X g M h1 h2 h3 hX
    have := refSame9_any M [mkE 5 [8, 0] w3.heap.size, mkE 10 [6] (w3.heap.size + 1), mkE 13 [0, 80] w.heap.size] (some ⟨g, 0, none⟩) (some ⟨w3.heap.size + 1 + 1, 0, none⟩) 3 3 X h1 (HL5.out.below hX)
    rw [h3, decide_eq_true h2] at this
    exact this
  have HLIT := hid (lit510 w5)
  have HLIT2 : Hid (Ints .i64 ((w5.alloc (.cells #[.int .i64 32768, .int .i64 13, .bool false, .int .u64 0, .slice (some ⟨w.heap.size, 0, none⟩) 2 2, .slice none 0 0] 26)).alloc (.cells #[.int .i64 5, .int .i64 10] 3)) (some ⟨w5.heap.size + 1, 0, none⟩) [5, 10]) := by
    show Ints _ _ _ _
    have := lit510 (w5.alloc (.cells #[.int .i64 32768, .int .i64 13, .bool false, .int .u64 0, .slice (some ⟨w.heap.size, 0, none⟩) 2 2, .slice none 0 0] 26))
    rw [World.size_alloc] at this
    exact this
  have KC : Hid (∀ w', Below w5.heap.size w5 w' → (fun w' => w'.cell? ⟨w.heap.size + 1, 0, none⟩ = some (.int .i64 32768) ∧ w'.cell? ⟨w.heap.size + 1, 1, none⟩ = some (.int .i64 13) ∧ w'.cell? ⟨w.heap.size + 1, 2, none⟩ = some (.bool false) ∧ w'.cell? ⟨w.heap.size + 1, 3, none⟩ = some (.int .u64 0) ∧ w'.cell? ⟨w.heap.size + 1, 4, none⟩ = some (.slice (some ⟨w.heap.size, 0, none⟩) 2 2) ∧ w'.cell? ⟨w.heap.size + 1, 5, none⟩ = some (.slice none 0 0) ∧ w'.cell? ⟨w3.heap.size + 1 + 1, 0, none⟩ = some (.int .i64 32768) ∧ w'.cell? ⟨w3.heap.size + 1 + 1, 1, none⟩ = some (.int .i64 5) ∧ w'.cell? ⟨w3.heap.size + 1 + 1, 2, none⟩ = some (.bool false) ∧ w'.cell? ⟨w3.heap.size + 1 + 1, 3, none⟩ = some (.int .u64 0) ∧ w'.cell? ⟨w3.heap.size + 1 + 1, 4, none⟩ = some (.slice (some ⟨w3.heap.size, 0, none⟩) 2 2) ∧ w'.cell? ⟨w3.heap.size + 1 + 1, 5, none⟩ = some (.slice none 0 0) ∧ w'.cell? ⟨w3.heap.size + 1 + 1, 6, none⟩ = some (.int .i64 32768) ∧ w'.cell? ⟨w3.heap.size + 1 + 1, 7, none⟩ = some (.int .i64 10) ∧ w'.cell? ⟨w3.heap.size + 1 + 1, 8, none⟩ = some (.bool false) ∧ w'.cell? ⟨w3.heap.size + 1 + 1, 9, none⟩ = some (.int .u64 0) ∧ w'.cell? ⟨w3.heap.size + 1 + 1, 10, none⟩ = some (.slice (some ⟨w3.heap.size + 1, 0, none⟩) 1 1) ∧ w'.cell? ⟨w3.heap.size + 1 + 1, 11, none⟩ = some (.slice none 0 0) ∧ w'.cell? ⟨w3.heap.size + 1 + 1, 12, none⟩ = some (.int .i64 32768) ∧ w'.cell? ⟨w3.heap.size + 1 + 1, 13, none⟩ = some (.int .i64 13) ∧ w'.cell? ⟨w3.heap.size + 1 + 1, 14, none⟩ = some (.bool false) ∧ w'.cell? ⟨w3.heap.size + 1 + 1, 15, none⟩ = some (.int .u64 0) ∧ w'.cell? ⟨w3.heap.size + 1 + 1, 16, none⟩ = some (.slice (some ⟨w.heap.size, 0, none⟩) 2 2) ∧ w'.cell? ⟨w3.heap.size + 1 + 1, 17, none⟩ = some (.slice none 0 0)) w') := by
    show _
    intro w' hb
    have h1 := HX5.out.below hb
    have h2 := HLB5.out.below hb
    exact ⟨h1.cell 0 _ rfl, h1.cell 1 _ rfl, h1.cell 2 _ rfl, h1.cell 3 _ rfl, h1.cell 4 _ rfl, h1.cell 5 _ rfl, h2.cell 0 _ rfl, h2.cell 1 _ rfl, h2.cell 2 _ rfl, h2.cell 3 _ rfl, h2.cell 4 _ rfl, h2.cell 5 _ rfl, h2.cell 6 _ rfl, h2.cell 7 _ rfl, h2.cell 8 _ rfl, h2.cell 9 _ rfl, h2.cell 10 _ rfl, h2.cell 11 _ rfl, h2.cell 12 _ rfl, h2.cell 13 _ rfl, h2.cell 14 _ rfl, h2.cell 15 _ rfl, h2.cell 16 _ rfl, h2.cell 17 _ rfl⟩
  have k0 : w5.cell? ⟨w.heap.size + 1, 0, none⟩ = some (.int .i64 32768) := hx5.cell 0 _ rfl
  have k1 : w5.cell? ⟨w.heap.size + 1, 1, none⟩ = some (.int .i64 13) := hx5.cell 1 _ rfl
  have k2 : w5.cell? ⟨w.heap.size + 1, 2, none⟩ = some (.bool false) := hx5.cell 2 _ rfl
  have k3 : w5.cell? ⟨w.heap.size + 1, 3, none⟩ = some (.int .u64 0) := hx5.cell 3 _ rfl
  have k4 : w5.cell? ⟨w.heap.size + 1, 4, none⟩ = some (.slice (some ⟨w.heap.size, 0, none⟩) 2 2) := hx5.cell 4 _ rfl
  have k5 : w5.cell? ⟨w.heap.size + 1, 5, none⟩ = some (.slice none 0 0) := hx5.cell 5 _ rfl
  have k6 : w5.cell? ⟨w3.heap.size + 1 + 1, 0, none⟩ = some (.int .i64 32768) := hlb5.cell 0 _ rfl
  have k7 : w5.cell? ⟨w3.heap.size + 1 + 1, 1, none⟩ = some (.int .i64 5) := hlb5.cell 1 _ rfl
  have k8 : w5.cell? ⟨w3.heap.size + 1 + 1, 2, none⟩ = some (.bool false) := hlb5.cell 2 _ rfl
  have k9 : w5.cell? ⟨w3.heap.size + 1 + 1, 3, none⟩ = some (.int .u64 0) := hlb5.cell 3 _ rfl
  have k10 : w5.cell? ⟨w3.heap.size + 1 + 1, 4, none⟩ = some (.slice (some ⟨w3.heap.size, 0, none⟩) 2 2) := hlb5.cell 4 _ rfl
  have k11 : w5.cell? ⟨w3.heap.size + 1 + 1, 5, none⟩ = some (.slice none 0 0) := hlb5.cell 5 _ rfl
  have k12 : w5.cell? ⟨w3.heap.size + 1 + 1, 6, none⟩ = some (.int .i64 32768) := hlb5.cell 6 _ rfl
  have k13 : w5.cell? ⟨w3.heap.size + 1 + 1, 7, none⟩ = some (.int .i64 10) := hlb5.cell 7 _ rfl
  have k14 : w5.cell? ⟨w3.heap.size + 1 + 1, 8, none⟩ = some (.bool false) := hlb5.cell 8 _ rfl
  have k15 : w5.cell? ⟨w3.heap.size + 1 + 1, 9, none⟩ = some (.int .u64 0) := hlb5.cell 9 _ rfl
  have k16 : w5.cell? ⟨w3.heap.size + 1 + 1, 10, none⟩ = some (.slice (some ⟨w3.heap.size + 1, 0, none⟩) 1 1) := hlb5.cell 10 _ rfl
  have k17 : w5.cell? ⟨w3.heap.size + 1 + 1, 11, none⟩ = some (.slice none 0 0) := hlb5.cell 11 _ rfl
  have k18 : w5.cell? ⟨w3.heap.size + 1 + 1, 12, none⟩ = some (.int .i64 32768) := hlb5.cell 12 _ rfl
  have k19 : w5.cell? ⟨w3.heap.size + 1 + 1, 13, none⟩ = some (.int .i64 13) := hlb5.cell 13 _ rfl
  have k20 : w5.cell? ⟨w3.heap.size + 1 + 1, 14, none⟩ = some (.bool false) := hlb5.cell 14 _ rfl
  have k21 : w5.cell? ⟨w3.heap.size + 1 + 1, 15, none⟩ = some (.int .u64 0) := hlb5.cell 15 _ rfl
  have k22 : w5.cell? ⟨w3.heap.size + 1 + 1, 16, none⟩ = some (.slice (some ⟨w.heap.size, 0, none⟩) 2 2) := hlb5.cell 16 _ rfl
  have k23 : w5.cell? ⟨w3.heap.size + 1 + 1, 17, none⟩ = some (.slice none 0 0) := hlb5.cell 17 _ rfl
  clear hx5 hlb5
  go_region_held3 (fun w' => w'.cell? ⟨w.heap.size + 1, 0, none⟩ = some (.int .i64 32768) ∧ w'.cell? ⟨w.heap.size + 1, 1, none⟩ = some (.int .i64 13) ∧ w'.cell? ⟨w.heap.size + 1, 2, none⟩ = some (.bool false) ∧ w'.cell? ⟨w.heap.size + 1, 3, none⟩ = some (.int .u64 0) ∧ w'.cell? ⟨w.heap.size + 1, 4, none⟩ = some (.slice (some ⟨w.heap.size, 0, none⟩) 2 2) ∧ w'.cell? ⟨w.heap.size + 1, 5, none⟩ = some (.slice none 0 0) ∧ w'.cell? ⟨w3.heap.size + 1 + 1, 0, none⟩ = some (.int .i64 32768) ∧ w'.cell? ⟨w3.heap.size + 1 + 1, 1, none⟩ = some (.int .i64 5) ∧ w'.cell? ⟨w3.heap.size + 1 + 1, 2, none⟩ = some (.bool false) ∧ w'.cell? ⟨w3.heap.size + 1 + 1, 3, none⟩ = some (.int .u64 0) ∧ w'.cell? ⟨w3.heap.size + 1 + 1, 4, none⟩ = some (.slice (some ⟨w3.heap.size, 0, none⟩) 2 2) ∧ w'.cell? ⟨w3.heap.size + 1 + 1, 5, none⟩ = some (.slice none 0 0) ∧ w'.cell? ⟨w3.heap.size + 1 + 1, 6, none⟩ = some (.int .i64 32768) ∧ w'.cell? ⟨w3.heap.size + 1 + 1, 7, none⟩ = some (.int .i64 10) ∧ w'.cell? ⟨w3.heap.size + 1 + 1, 8, none⟩ = some (.bool false) ∧ w'.cell? ⟨w3.heap.size + 1 + 1, 9, none⟩ = some (.int .u64 0) ∧ w'.cell? ⟨w3.heap.size + 1 + 1, 10, none⟩ = some (.slice (some ⟨w3.heap.size + 1, 0, none⟩) 1 1) ∧ w'.cell? ⟨w3.heap.size + 1 + 1, 11, none⟩ = some (.slice none 0 0) ∧ w'.cell? ⟨w3.heap.size + 1 + 1, 12, none⟩ = some (.int .i64 32768) ∧ w'.cell? ⟨w3.heap.size + 1 + 1, 13, none⟩ = some (.int .i64 13) ∧ w'.cell? ⟨w3.heap.size + 1 + 1, 14, none⟩ = some (.bool false) ∧ w'.cell? ⟨w3.heap.size + 1 + 1, 15, none⟩ = some (.int .u64 0) ∧ w'.cell? ⟨w3.heap.size + 1 + 1, 16, none⟩ = some (.slice (some ⟨w.heap.size, 0, none⟩) 2 2) ∧ w'.cell? ⟨w3.heap.size + 1 + 1, 17, none⟩ = some (.slice none 0 0)) (first | (refine KC.out _ ?_; (repeat (first | with_reducible exact hq10 | with_reducible exact hq9 | with_reducible exact hq8 | with_reducible exact hq7 | with_reducible exact hq6 | with_reducible exact Below.refl _ _ | with_reducible refine below_dr9 ?_ | with_reducible refine below_al9 ?_))) | go_keep) ((first
    | (go_at_call 13; with_reducible refine (HMISS.out w5 _ _ rfl (Below.refl _ _) ?_).mono ?_; ((repeat (first | with_reducible exact Below.refl _ _ | with_reducible refine below_dr9 ?_ | with_reducible refine below_al9 ?_))); rintro e w6 ⟨a6, c6, rfl, hI6, hb6⟩; have hq6 : Below w5.heap.size w5 w6 := below_on (by (repeat (first | with_reducible exact hq10 | with_reducible exact hq9 | with_reducible exact hq8 | with_reducible exact hq7 | with_reducible exact hq6 | with_reducible exact Below.refl _ _ | with_reducible refine below_dr9 ?_ | with_reducible refine below_al9 ?_))) hb6)
    | (go_at_call 13; with_reducible refine (HMISS.out (w5.alloc (.cells #[.int .i64 5, .int .i64 10] 3)) _ (w5.heap.size + 1) (by simp) (below_al9 (Below.refl _ _)) ?_).mono ?_; ((repeat (first | with_reducible exact Below.refl _ _ | with_reducible refine below_dr9 ?_ | with_reducible refine below_al9 ?_))); rintro e w6 ⟨a6, c6, rfl, hI6, hb6⟩; have hq6 : Below w5.heap.size w5 w6 := below_on (by (repeat (first | with_reducible exact hq10 | with_reducible exact hq9 | with_reducible exact hq8 | with_reducible exact hq7 | with_reducible exact hq6 | with_reducible exact Below.refl _ _ | with_reducible refine below_dr9 ?_ | with_reducible refine below_al9 ?_))) hb6)
    | (go_at_call 12; with_reducible refine (HINTS.out _ _ _ _ ?_ ?_).mono ?_; (refine hI6.below ?_; (repeat (first | with_reducible exact Below.refl _ _ | with_reducible refine below_dr9 ?_ | with_reducible refine below_al9 ?_))); (first | exact lit510 w6 | exact (lit510 w6).below (below_drew8 _) | (refine HLIT.out.below (below_on ?_ hb6); ((repeat (first | with_reducible exact Below.refl _ _ | with_reducible refine below_dr9 ?_ | with_reducible refine below_al9 ?_)))) | (refine HLIT2.out.below (below_on ?_ hb6); ((repeat (first | with_reducible exact Below.refl _ _ | with_reducible refine below_dr9 ?_ | with_reducible refine below_al9 ?_))))); rintro e w7 ⟨rfl, hb7⟩; have hq7 : Below w5.heap.size w5 w7 := below_on (by (repeat (first | with_reducible exact hq10 | with_reducible exact hq9 | with_reducible exact hq8 | with_reducible exact hq7 | with_reducible exact hq6 | with_reducible exact Below.refl _ _ | with_reducible refine below_dr9 ?_ | with_reducible refine below_al9 ?_))) hb7; clear hb7)
    | (go_at_call 10; with_reducible refine (HMET.out _ ?_).mono ?_; ((repeat (first | with_reducible exact hq10 | with_reducible exact hq9 | with_reducible exact hq8 | with_reducible exact hq7 | with_reducible exact hq6 | with_reducible exact Below.refl _ _ | with_reducible refine below_dr9 ?_ | with_reducible refine below_al9 ?_))); rintro e w8 ⟨rfl, hb8⟩; have hq8 : Below w5.heap.size w5 w8 := below_on (by (repeat (first | with_reducible exact hq10 | with_reducible exact hq9 | with_reducible exact hq8 | with_reducible exact hq7 | with_reducible exact hq6 | with_reducible exact Below.refl _ _ | with_reducible refine below_dr9 ?_ | with_reducible refine below_al9 ?_))) hb8; clear hb8)
    | (go_at_call 16; with_reducible refine (HSORT.out w8 _ hq8 ?_).mono ?_; ((repeat (first | with_reducible exact Below.refl _ _ | with_reducible refine below_dr9 ?_ | with_reducible refine below_al9 ?_))); rintro e w9 ⟨g9, M9, rfl, hl9, hm9, hn9, hb9⟩; have hq9 : Below w5.heap.size w5 w9 := below_on (by (repeat (first | with_reducible exact hq10 | with_reducible exact hq9 | with_reducible exact hq8 | with_reducible exact hq7 | with_reducible exact hq6 | with_reducible exact Below.refl _ _ | with_reducible refine below_dr9 ?_ | with_reducible refine below_al9 ?_))) hb9; clear hb9)
    | (go_at_call 15; with_reducible refine (HSAME.out _ _ _ ?_ hm9 hn9 ?_).mono ?_; (refine hl9.below ?_; (repeat (first | with_reducible exact Below.refl _ _ | with_reducible refine below_dr9 ?_ | with_reducible refine below_al9 ?_))); ((repeat (first | with_reducible exact hq10 | with_reducible exact hq9 | with_reducible exact hq8 | with_reducible exact hq7 | with_reducible exact hq6 | with_reducible exact Below.refl _ _ | with_reducible refine below_dr9 ?_ | with_reducible refine below_al9 ?_))); rintro e w10 ⟨rfl, hb10⟩; have hq10 : Below w5.heap.size w5 w10 := below_on (by (repeat (first | with_reducible exact hq10 | with_reducible exact hq9 | with_reducible exact hq8 | with_reducible exact hq7 | with_reducible exact hq6 | with_reducible exact Below.refl _ _ | with_reducible refine below_dr9 ?_ | with_reducible refine below_al9 ?_))) hb10; clear hb10)
    | fail))
  all_goals
    go_wp2_with fail
  all_goals
    exact bodyPost_ret (v := .bool true) (by simp [results, Try.results7, go_sem]) rfl ⟨rfl, below_on (below_on (below_on (below_on HB1.out HB3.out) HB4.out) HB5.out) hq10⟩
end Go.Proofs.Ytlikpafjlojagaa
