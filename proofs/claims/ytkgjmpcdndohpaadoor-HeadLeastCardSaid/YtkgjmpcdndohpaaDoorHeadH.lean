/- HeadTells's walk. -/
import Derived.Test.YtkgjmpcdndohpaaDoorHeadG
import Derived.Test.YtkgjmpcdndohpaaDoorShell
namespace Go.Proofs.YtkgjmpcdndohpaaDoor
open Go.RowKit

/-- what both say of a head that is put -/
theorem put_both (V T L X : Int) (hV : -9223372036854775808 ≤ V ∧ V ≤ 9223372036854775807) (hT : -9223372036854775808 ≤ T ∧ T ≤ 9223372036854775807) (hL : -9223372036854775808 ≤ L ∧ L ≤ 9223372036854775807) (hX : 0 ≤ X ∧ X ≤ 4294967295) :
    ∃ (n : Nat) (xs : List Int) (q : Int), n = xs.length ∧ n ≤ 8 ∧
      (∀ w, Calls Tryd.prog 7 #[.agg #[.int .i64 V, .int .i64 T, .int .i64 L, .int .u32 X]] w fun e w' => ∃ a c, e = .returned (.tuple #[.slice a n c, .int .i64 q]) ∧ Below w.heap.size w w' ∧ Ints .u8 w' a xs) ∧
      (∀ w, Calls Tryd.prog 8 #[.agg #[.int .i64 V, .int .i64 T, .int .i64 L, .int .u32 X]] w fun e w' => ∃ a c, e = .returned (.tuple #[.slice a n c, .int .i64 q]) ∧ Below w.heap.size w w' ∧ Ints .u8 w' a xs) := by
  by_cases h : MayPut V T L
  · refine ⟨8, headBytes V T L X, 0, (headBytes_length _ _ _ _).symm, by omega, fun w => (headPut_any V T L X hV hT hL hX w).mono ?_, fun w => (refHeadPut_any V T L X hX w).mono ?_⟩
    all_goals
      rintro e w' (⟨h', _⟩ | ⟨_, a, c, he, hb, hI, _⟩)
      · exact absurd h h'
      · exact ⟨a, c, he, hb, hI⟩
  · refine ⟨0, [], 10001, rfl, by omega, fun w => (headPut_any V T L X hV hT hL hX w).mono ?_, fun w => (refHeadPut_any V T L X hX w).mono ?_⟩
    all_goals
      rintro e w' (⟨_, he, hb⟩ | ⟨h', _⟩)
      · exact ⟨none, 0, he, hb, Ints.nil _ _ _⟩
      · exact absurd h' h

set_option maxRecDepth 100000 in
set_option maxHeartbeats 2000000 in
theorem HeadTells_many (V T L X t : Int) (b : List Int) (ba : Option Addr) (bc : Nat) (w : World) (hm : 1000 < b.length) (hL : HeadLaid w) :
    Calls Tryd.prog 3 #[.agg #[.int .i64 V, .int .i64 T, .int .i64 L, .int .u32 X], .slice ba b.length bc, .int .i64 t] w fun x w' => x = .returned (.bool true) ∧ Below w.heap.size w w' := by
  have hm2 : (1000 : Int) < (b.length : Int) := by omega
  go_enter Tryd.func3, Tryd.ntmps3
  go_wp2_with fail
  refine (sure6_any _ (hL.below (below_alloc _ _))).mono ?_
  rintro e w1 ⟨rfl, hb1⟩
  go_wp2_with fail
  go_ret
  exact ⟨rfl, below_then (below_alloc _ _) hb1⟩

set_option maxRecDepth 100000 in
set_option maxHeartbeats 4000000 in
theorem HeadTells_few (V T L X t : Int) (b : List Int) (ba : Option Addr) (bc : Nat) (w : World) (hm : b.length ≤ 1000) (hL : HeadLaid w)
    (hV : -9223372036854775808 ≤ V ∧ V ≤ 9223372036854775807) (hT : -9223372036854775808 ≤ T ∧ T ≤ 9223372036854775807) (hl : -9223372036854775808 ≤ L ∧ L ≤ 9223372036854775807) (hX : 0 ≤ X ∧ X ≤ 4294967295)
    (hbc : b.length ≤ bc) (hc : bc ≤ 9223372036854775807) (ho : Octets b) (hI : Ints .u8 w ba b) :
    Calls Tryd.prog 3 #[.agg #[.int .i64 V, .int .i64 T, .int .i64 L, .int .u32 X], .slice ba b.length bc, .int .i64 t] w fun x w' => x = .returned (.bool true) ∧ Below w.heap.size w w' := by
  obtain ⟨pn, xs, pq, hpn, hp8, P1, P2⟩ := put_both V T L X hV hT hl hX
  obtain ⟨gV, gT, gL, gX, gq, hg, hgr⟩ := head_of b ho
  obtain ⟨a, k, _, A1, A2⟩ := answer_any t
  have G1 := fun W h => headGet_any (q := gq) hg hgr ba b.length bc W rfl hbc ho h
  have G2 := fun W h => refHeadGet_any (q := gq) hg hgr ba b.length bc W rfl hbc hc ho h
  have C1 := fun W h => check_any V T L X W h
  have C2 := fun W => refCheck_any V T L X W
  have M1 := fun W h => least_any t W h
  have M2 := fun W => refLeast_any t W
  have Y := fun a c a' c' W h1 h2 => bytes_at xs xs a a' pn pn c c' W hpn hpn (by omega) (by omega) h1 h2
  obtain ⟨q, hq⟩ : ∃ q, checkL V T L = q := ⟨_, rfl⟩
  obtain ⟨n, hn⟩ : ∃ n, leastL t = n := ⟨_, rfl⟩
  simp only [rfl_beq] at Y
  simp only [hq] at C1 C2
  simp only [hn] at M1 M2
  replace P1 := hid P1
  replace P2 := hid P2
  replace G1 := hid G1
  replace G2 := hid G2
  replace A1 := hid A1
  replace A2 := hid A2
  replace C1 := hid C1
  replace C2 := hid C2
  replace M1 := hid M1
  replace M2 := hid M2
  replace Y := hid Y
  have hm2 : (b.length : Int) ≤ 1000 := by omega
  have HI := hid hI
  have HX := hid hX
  clear hV hT hl hX hbc hc ho hI hm hg hgr hpn hp8 hq hn
  obtain ⟨W, hW⟩ : ∃ W, (w.alloc (.cells #[.int .i64 V, .int .i64 T, .int .i64 L, .int .u32 X] 24)).alloc (.cells #[.int .i64 V, .int .i64 T, .int .i64 L, .int .u32 X] 27) = W := ⟨_, rfl⟩
  have hbW : Below w.heap.size w W := by rw [← hW]; exact below_then (below_alloc _ _) (below_alloc _ _)
  have h1 : HdBox W w.heap.size V T L X := by rw [← hW]; exact (HdBox.new _ _ _ _ _ _).below (below_alloc _ _)
  have h2 : HdBox W (w.heap.size + 1) V T L X := by rw [← hW]; have := HdBox.new (w.alloc (.cells #[.int .i64 V, .int .i64 T, .int .i64 L, .int .u32 X] 24)) V T L X 27; rwa [World.size_alloc] at this
  have HW := hid hW
  clear hW
  go_enter Tryd.func3, Tryd.ntmps3
  go_wp2_with fail
  rw [HW.out]
  refine (P1.out _).mono ?_
  rintro e w1 ⟨xa, xc, rfl, hb1, hx⟩
  replace h1 := h1.below hb1
  replace h2 := h2.below hb1
  have hB1 := below_then hbW hb1
  clear hb1 hbW
  obtain ⟨⟨d0, d1, d2, d3⟩, hz, hlt⟩ := id h2
  go_wp2_with fail
  refine (P2.out _).mono ?_
  rintro e w2 ⟨ya, yc, rfl, hb2, hy⟩
  replace hx := hx.below hb2
  replace h1 := h1.below hb2
  replace h2 := h2.below hb2
  replace hB1 := below_then hB1 hb2
  clear hb2 d0 d1 d2 d3 hz hlt
  go_wp2_with fail
  refine (G1.out _ (HI.out.below hB1)).mono ?_
  rintro e w3 ⟨rfl, hb3⟩
  replace hx := hx.below hb3
  replace hy := hy.below hb3
  replace h1 := h1.below hb3
  replace h2 := h2.below hb3
  replace hB1 := below_then hB1 hb3
  clear hb3
  go_upto_region 7 with fail
  obtain ⟨W3, hW3⟩ : ∃ W, w3.alloc (.cells #[.int .i64 gV, .int .i64 gT, .int .i64 gL, .int .u32 gX] 24) = W := ⟨_, rfl⟩
  have hbW3 : Below w3.heap.size w3 W3 := by rw [← hW3]; exact below_alloc _ _
  have h3 : HdBox W3 w3.heap.size gV gT gL gX := by rw [← hW3]; exact HdBox.new _ _ _ _ _ _
  rw [hW3]
  clear hW3
  replace hx := hx.below hbW3
  replace hy := hy.below hbW3
  replace h1 := h1.below hbW3
  replace h2 := h2.below hbW3
  replace hB1 := below_then hB1 hbW3
  clear hbW3
  go_wp2_with fail
  refine (G2.out _ (HI.out.below hB1)).mono ?_
  rintro e w4 ⟨rfl, hb4⟩
  replace hx := hx.below hb4
  replace hy := hy.below hb4
  replace h1 := h1.below hb4
  replace h2 := h2.below hb4
  replace h3 := h3.below hb4
  replace hB1 := below_then hB1 hb4
  clear hb4
  go_upto_region 8 with fail
  obtain ⟨W4, hW4⟩ : ∃ W, w4.alloc (.cells #[.int .i64 gV, .int .i64 gT, .int .i64 gL, .int .u32 gX] 27) = W := ⟨_, rfl⟩
  have hbW4 : Below w4.heap.size w4 W4 := by rw [← hW4]; exact below_alloc _ _
  have h4 : HdBox W4 w4.heap.size gV gT gL gX := by rw [← hW4]; exact HdBox.new _ _ _ _ _ _
  rw [hW4]
  clear hW4
  replace hx := hx.below hbW4
  replace hy := hy.below hbW4
  replace h1 := h1.below hbW4
  replace h2 := h2.below hbW4
  replace h3 := h3.below hbW4
  replace hB1 := below_then hB1 hbW4
  clear hbW4
  go_wp2_with fail
  refine (A1.out _).mono ?_
  rintro e w' ⟨rfl, rfl⟩
  go_wp2_with fail
  refine (A2.out _).mono ?_
  rintro e w' ⟨rfl, rfl⟩
  go_upto_region 10 with fail
  have HL : ∀ n : Wk W4, HeadLaid n.val := fun n => (hL.below hB1).below n.bel
  have f10 := fun n : Wk W4 => Wk.cell h1.at_.c0 n
  have f11 := fun n : Wk W4 => Wk.cell h1.at_.c1 n
  have f12 := fun n : Wk W4 => Wk.cell h1.at_.c2 n
  have f13 := fun n : Wk W4 => Wk.cell h1.at_.c3 n
  have f20 := fun n : Wk W4 => Wk.cell h2.at_.c0 n
  have f21 := fun n : Wk W4 => Wk.cell h2.at_.c1 n
  have f22 := fun n : Wk W4 => Wk.cell h2.at_.c2 n
  have f23 := fun n : Wk W4 => Wk.cell h2.at_.c3 n
  have f30 := fun n : Wk W4 => Wk.cell h3.at_.c0 n
  have f31 := fun n : Wk W4 => Wk.cell h3.at_.c1 n
  have f32 := fun n : Wk W4 => Wk.cell h3.at_.c2 n
  have f33 := fun n : Wk W4 => Wk.cell h3.at_.c3 n
  have f40 := fun n : Wk W4 => Wk.cell h4.at_.c0 n
  have f41 := fun n : Wk W4 => Wk.cell h4.at_.c1 n
  have f42 := fun n : Wk W4 => Wk.cell h4.at_.c2 n
  have f43 := fun n : Wk W4 => Wk.cell h4.at_.c3 n
  have hX4 := fun n : Wk W4 => Wk.ints hx n
  have hY4 := fun n : Wk W4 => Wk.ints hy n
  have HB := hid hB1
  clear h1 h2 h3 h4 hx hy hB1 P1 P2 G1 G2 A1 A2 HW HI HX hm2
  refine wp_region_wk (by kernel_rfl) (by kernel_rfl) ?_
  repeat (go_big_quiet_step (first | (go_at_call 13; exact Wk.call (Y.out _ _ _ _ _ (hX4 _) (hY4 _))) | (go_at_call 14; exact Wk.call (C1.out _ (HL _))) | (go_at_call 15; exact Wk.call (C2.out _)) | (go_at_call 16; exact Wk.same (M1.out _ (HL _))) | (go_at_call 17; exact Wk.call (M2.out _)) | (go_at_call 6; exact Wk.call (sure6_any _ (HL _)))))
  refine wpQuiet_nil ?_
  rintro w5 ⟨⟨_, hb5⟩, rfl⟩
  go_wp2_with fail
  go_ret
  exact ⟨rfl, below_then HB.out hb5⟩

theorem HeadTells_walk (V T L X t : Int) (b : List Int) (ba : Option Addr) (bc : Nat) (w : World) (hL : HeadLaid w)
    (hV : -9223372036854775808 ≤ V ∧ V ≤ 9223372036854775807) (hT : -9223372036854775808 ≤ T ∧ T ≤ 9223372036854775807) (hl : -9223372036854775808 ≤ L ∧ L ≤ 9223372036854775807) (hX : 0 ≤ X ∧ X ≤ 4294967295)
    (hbc : b.length ≤ bc) (hc : bc ≤ 9223372036854775807) (ho : Octets b) (hI : Ints .u8 w ba b) :
    Calls Tryd.prog 3 #[.agg #[.int .i64 V, .int .i64 T, .int .i64 L, .int .u32 X], .slice ba b.length bc, .int .i64 t] w fun x w' => x = .returned (.bool true) ∧ Below w.heap.size w w' := by
  by_cases hm : 1000 < b.length
  · exact HeadTells_many V T L X t b ba bc w hm hL
  · exact HeadTells_few V T L X t b ba bc w (by omega) hL hV hT hl hX hbc hc ho hI
end Go.Proofs.YtkgjmpcdndohpaaDoor
