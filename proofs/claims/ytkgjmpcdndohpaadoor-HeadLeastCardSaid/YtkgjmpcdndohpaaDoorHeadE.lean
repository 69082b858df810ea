/- The document's heads: bytes as a head; what both answer. -/
import Derived.Test.YtkgjmpcdndohpaaDoorHeadD
namespace Go.Proofs.YtkgjmpcdndohpaaDoor
open Go.RowKit

set_option maxRecDepth 100000 in
set_option maxHeartbeats 1000000 in
theorem refHeadGet_short (b : List Int) (a : Option Addr) (c : Nat) (w : World) (hb8 : b.length < 8) (hbc : b.length ≤ c) (hc : c ≤ 9223372036854775807) (ho : Octets b) (hI : Ints .u8 w a b) :
    Calls Tryd.prog 10 #[.slice a b.length c] w fun e w' => e = .returned (.tuple #[.agg #[.int .i64 0, .int .i64 0, .int .i64 0, .int .u32 0], .int .i64 10002]) ∧ Below w.heap.size w w' := by
  obtain ⟨W, hW⟩ : ∃ W, w.alloc (.cells #[.int .i64 0, .int .i64 0, .int .i64 0, .int .u32 0] 27) = W := ⟨_, rfl⟩
  have hbW : Below w.heap.size w W := by rw [← hW]; exact below_alloc _ _
  have hd : HdBox W w.heap.size 0 0 0 0 := by rw [← hW]; exact HdBox.new _ _ _ _ _ _
  have HW := hid hW
  have HG := hid (getW_head_short hb8)
  have eW : W.heap.size = w.heap.size + 1 := by rw [← hW, World.size_alloc]
  have hI1 := ints_lit .i64 W [1, 1, 2, 4] 3
  have hal := below_alloc W (.cells ([1, 1, 2, 4].map (Value.int .i64)).toArray 3)
  have hR := refGet_any [1, 1, 2, 4] b _ a 4 c _ (by decide) hbc hc ho hI1 ((hI.below hbW).below hal)
  rw [eW] at hR
  have HR := hid hR
  have hd1 := hd.below hal
  have HAL := hid hal
  clear hI ho hW hb8 hbc hI1 hR hd hal
  go_enter Tryd.func10, Tryd.ntmps10
  go_wp2_with fail
  rw [HW.out]
  refine HR.out.mono ?_
  rintro e w1 (⟨q, hq, rfl, hB1⟩ | ⟨ns, v, hq, _⟩)
  · obtain rfl : 1 = q := by rw [HG.out] at hq; simpa using hq
    obtain ⟨⟨d0, d1, d2, d3⟩, hz, hlt⟩ := hd1.below hB1
    clear HR hq hd1
    go_wp2_with fail
    refine bodyPost_ret (v := .tuple #[.agg #[.int .i64 0, .int .i64 0, .int .i64 0, .int .u32 0], .int .i64 10002]) (by simp [results, Tryd.results10, go_sem, d0, d1, d2, d3]) rfl ⟨rfl, ?_⟩
    repeat refine Below.setCell ?_ (by simp) _
    exact below_then hbW (below_then HAL.out hB1)
  · rw [HG.out] at hq; simp at hq

set_option maxRecDepth 100000 in
set_option maxHeartbeats 2000000 in
theorem refHeadGet_ok (b : List Int) (a : Option Addr) (c : Nat) (w : World) (V T L X : Int) (hbc : b.length ≤ c) (hc : c ≤ 9223372036854775807) (ho : Octets b) (hI : Ints .u8 w a b) (hG : getW [1, 1, 2, 4] b = .ok [V, T, L, X])
    (hV : 0 ≤ V ∧ V ≤ 255) (hT : 0 ≤ T ∧ T ≤ 255) (hL : 0 ≤ L ∧ L ≤ 65535) (hX : 0 ≤ X ∧ X ≤ 4294967295) :
    Calls Tryd.prog 10 #[.slice a b.length c] w fun e w' => e = .returned (.tuple #[.agg #[.int .i64 V, .int .i64 T, .int .i64 L, .int .u32 X], .int .i64 0]) ∧ Below w.heap.size w w' := by
  obtain ⟨W, hW⟩ : ∃ W, w.alloc (.cells #[.int .i64 0, .int .i64 0, .int .i64 0, .int .u32 0] 27) = W := ⟨_, rfl⟩
  have hbW : Below w.heap.size w W := by rw [← hW]; exact below_alloc _ _
  have hd : HdBox W w.heap.size 0 0 0 0 := by rw [← hW]; exact HdBox.new _ _ _ _ _ _
  have HW := hid hW
  have HG := hid hG
  have eW : W.heap.size = w.heap.size + 1 := by rw [← hW, World.size_alloc]
  have hI1 := ints_lit .i64 W [1, 1, 2, 4] 3
  have hal := below_alloc W (.cells ([1, 1, 2, 4].map (Value.int .i64)).toArray 3)
  have hR := refGet_any [1, 1, 2, 4] b _ a 4 c _ (by decide) hbc hc ho hI1 ((hI.below hbW).below hal)
  have hsz : w.heap.size < (W.alloc (.cells ([1, 1, 2, 4].map (Value.int .i64)).toArray 3)).heap.size := by simp [eW]; omega
  have HSZ := hid hsz
  rw [eW] at hR
  have HR := hid hR
  have hd1 := hd.below hal
  have HAL := hid hal
  have e1 := hid (i64_same hV.1 (by omega))
  have e2 := hid (i64_same hT.1 (by omega))
  have e3 := hid (i64_same hL.1 (by omega))
  have e4 := hid (u32_same hX.1 hX.2)
  clear hI ho hW hbc hI1 hR hd hal hG hV hT hL hX hsz
  go_enter Tryd.func10, Tryd.ntmps10
  go_wp2_with fail
  rw [HW.out]
  refine HR.out.mono ?_
  rintro e w1 (⟨q, hq, _⟩ | ⟨ns, v, hq, rfl, hF⟩)
  · rw [HG.out] at hq; simp at hq
  · obtain rfl : [V, T, L, X] = ns := by rw [HG.out] at hq; simpa using hq
    have hd2 := hd1.below hF.bel
    have hB1 := hF.bel
    obtain ⟨ad, cp, rfl, _, _, hI2⟩ := own_ints hF.own
    obtain ⟨q, off, rfl, c0, c1, c2, c3⟩ := four_ints hI2
    have hn := hF.new q rfl
    have hq1 : ¬ w.heap.size = q := by have := HSZ.out; omega
    have hq2 : ¬ q = w.heap.size := fun e => hq1 e.symm
    obtain ⟨⟨d0, d1, d2, d3⟩, hz, hlt⟩ := hd2
    clear HR hq hd1 hF hI2 hn eW
    go_upto_region 4 with fail
    go_region_held3 (fun w' => w'.cell? ⟨q, off, none⟩ = some (.int .u64 V) ∧ w'.cell? ⟨q, off + 1, none⟩ = some (.int .u64 T) ∧ w'.cell? ⟨q, off + 2, none⟩ = some (.int .u64 L) ∧ w'.cell? ⟨q, off + 3, none⟩ = some (.int .u64 X)) (go_keep) (fail)
    rw [e1.out, e2.out, e3.out, e4.out]
    go_wp2
    refine bodyPost_ret (v := .tuple #[.agg #[.int .i64 V, .int .i64 T, .int .i64 L, .int .u32 X], .int .i64 0]) (by simp [results, Tryd.results10, go_sem, d0, d1, d2, d3]) rfl ⟨rfl, ?_⟩
    repeat (first | with_reducible refine Below.setCell ?_ (by simp) _ | with_reducible refine Below.drew ?_)
    exact below_then hbW (below_then HAL.out hB1)

/-- the head that bytes are, and the error -/
theorem head_of (b : List Int) (ho : Octets b) : ∃ V T L X q : Int, ((b.length < 8 ∧ V = 0 ∧ T = 0 ∧ L = 0 ∧ X = 0 ∧ q = 10002) ∨ (8 ≤ b.length ∧ q = 0 ∧ getW [1, 1, 2, 4] b = .ok [V, T, L, X])) ∧
    (0 ≤ V ∧ V ≤ 255) ∧ (0 ≤ T ∧ T ≤ 255) ∧ (0 ≤ L ∧ L ≤ 65535) ∧ (0 ≤ X ∧ X ≤ 4294967295) := by
  by_cases h : b.length < 8
  · exact ⟨0, 0, 0, 0, 10002, .inl ⟨h, rfl, rfl, rfl, rfl, rfl⟩, by omega, by omega, by omega, by omega⟩
  · obtain ⟨V, T, L, X, hg, r⟩ := getW_head (b := b) (by omega) ho
    exact ⟨V, T, L, X, 0, .inr ⟨by omega, rfl, hg⟩, r⟩

theorem headGet_any {b : List Int} {V T L X q : Int} (h : (b.length < 8 ∧ V = 0 ∧ T = 0 ∧ L = 0 ∧ X = 0 ∧ q = 10002) ∨ (8 ≤ b.length ∧ q = 0 ∧ getW [1, 1, 2, 4] b = .ok [V, T, L, X]))
    (hr : (0 ≤ V ∧ V ≤ 255) ∧ (0 ≤ T ∧ T ≤ 255) ∧ (0 ≤ L ∧ L ≤ 65535) ∧ (0 ≤ X ∧ X ≤ 4294967295)) (a : Option Addr) (n c : Nat) (w : World) (hn : n = b.length) (hbc : b.length ≤ c) (ho : Octets b) (hI : Ints .u8 w a b) :
    Calls Tryd.prog 9 #[.slice a n c] w fun e w' => e = .returned (.tuple #[.agg #[.int .i64 V, .int .i64 T, .int .i64 L, .int .u32 X], .int .i64 q]) ∧ Below w.heap.size w w' := by
  subst hn
  rcases h with ⟨h, rfl, rfl, rfl, rfl, rfl⟩ | ⟨h, rfl, hg⟩
  · exact headGet_short b a c w h hbc ho hI
  · exact headGet_ok b a c w V T L X h hbc ho hI hg hr.1 hr.2.1 hr.2.2.1 hr.2.2.2
theorem refHeadGet_any {b : List Int} {V T L X q : Int} (h : (b.length < 8 ∧ V = 0 ∧ T = 0 ∧ L = 0 ∧ X = 0 ∧ q = 10002) ∨ (8 ≤ b.length ∧ q = 0 ∧ getW [1, 1, 2, 4] b = .ok [V, T, L, X]))
    (hr : (0 ≤ V ∧ V ≤ 255) ∧ (0 ≤ T ∧ T ≤ 255) ∧ (0 ≤ L ∧ L ≤ 65535) ∧ (0 ≤ X ∧ X ≤ 4294967295)) (a : Option Addr) (n c : Nat) (w : World) (hn : n = b.length) (hbc : b.length ≤ c) (hc : c ≤ 9223372036854775807) (ho : Octets b) (hI : Ints .u8 w a b) :
    Calls Tryd.prog 10 #[.slice a n c] w fun e w' => e = .returned (.tuple #[.agg #[.int .i64 V, .int .i64 T, .int .i64 L, .int .u32 X], .int .i64 q]) ∧ Below w.heap.size w w' := by
  subst hn
  rcases h with ⟨h, rfl, rfl, rfl, rfl, rfl⟩ | ⟨h, rfl, hg⟩
  · exact refHeadGet_short b a c w h hbc hc ho hI
  · exact refHeadGet_ok b a c w V T L X hbc hc ho hI hg hr.1 hr.2.1 hr.2.2.1 hr.2.2.2
end Go.Proofs.YtkgjmpcdndohpaaDoor
