/- HeadBack's walk. -/
import Derived.Test.YtkgjmpcdndohpaaDoorHeadH
namespace Go.Proofs.YtkgjmpcdndohpaaDoor
open Go.RowKit

set_option maxRecDepth 100000 in
set_option maxHeartbeats 2000000 in
theorem HeadBack_many (V T L X : Int) (b : List Int) (ba : Option Addr) (bc : Nat) (w : World) (hm : 1000 < b.length) (hL : HeadLaid w) :
    Calls Tryd.prog 4 #[.agg #[.int .i64 V, .int .i64 T, .int .i64 L, .int .u32 X], .slice ba b.length bc] w fun x w' => x = .returned (.bool true) ∧ Below w.heap.size w w' := by
  have hm2 : (1000 : Int) < (b.length : Int) := by omega
  go_enter Tryd.func4, Tryd.ntmps4
  go_wp2_with fail
  refine (sure6_any _ (hL.below (below_alloc _ _))).mono ?_
  rintro e w1 ⟨rfl, hb1⟩
  go_wp2_with fail
  go_ret
  exact ⟨rfl, below_then (below_alloc _ _) hb1⟩

set_option maxRecDepth 100000 in
set_option maxHeartbeats 4000000 in
theorem HeadBack_few (V T L X : Int) (b : List Int) (ba : Option Addr) (bc : Nat) (w : World) (hm : b.length ≤ 1000) (hL : HeadLaid w)
    (hV : -9223372036854775808 ≤ V ∧ V ≤ 9223372036854775807) (hT : -9223372036854775808 ≤ T ∧ T ≤ 9223372036854775807) (hl : -9223372036854775808 ≤ L ∧ L ≤ 9223372036854775807) (hX : 0 ≤ X ∧ X ≤ 4294967295)
    (hbc : b.length ≤ bc) (hc : bc ≤ 9223372036854775807) (ho : Octets b) (hI : Ints .u8 w ba b) :
    Calls Tryd.prog 4 #[.agg #[.int .i64 V, .int .i64 T, .int .i64 L, .int .u32 X], .slice ba b.length bc] w fun x w' => x = .returned (.bool true) ∧ Below w.heap.size w w' := by
  obtain ⟨W, hW⟩ : ∃ W, w.alloc (.cells #[.int .i64 V, .int .i64 T, .int .i64 L, .int .u32 X] 24) = W := ⟨_, rfl⟩
  have hbW : Below w.heap.size w W := by rw [← hW]; exact below_alloc _ _
  have h1 : HdBox W w.heap.size V T L X := by rw [← hW]; exact HdBox.new _ _ _ _ _ _
  have hm2 : (b.length : Int) ≤ 1000 := by omega
  have P1 := headPut_any V T L X hV hT hl hX W
  have G0 := fun (h : MayPut V T L) a n c W h1 h2 h3 => headGet_any (b := headBytes V T L X ++ b) (V := V) (T := T) (L := L) (X := X) (q := 0) (.inr ⟨by rw [List.length_append, headBytes_length]; omega, rfl, head_back h hX b⟩) ⟨h.1, h.2.1, ⟨by have := h.2.2; omega, h.2.2.2⟩, hX⟩ a n c W h1 h2 ((headBytes_octets V T L X).append ho) h3
  have hlen : (headBytes V T L X ++ b).length = 8 + b.length := by rw [List.length_append, headBytes_length]
  obtain ⟨gV, gT, gL, gX, gq, hg, hgr⟩ := head_of b ho
  have G1 := fun W h => headGet_any (q := gq) hg hgr ba b.length bc W rfl hbc ho h
  have P2 := fun W => headPut_any gV gT gL gX (by omega) (by omega) (by omega) hgr.2.2.2 W
  have hgg : (b.length < 8 ∧ gV = 0 ∧ gT = 0 ∧ gL = 0 ∧ gX = 0 ∧ gq = 10002) ∨ (8 ≤ b.length ∧ gq = 0 ∧ MayPut gV gT gL ∧ 8 ≤ gL ∧ headBytes gV gT gL gX = b.take 8) ∨ (8 ≤ b.length ∧ gq = 0 ∧ ¬ MayPut gV gT gL ∧ gL < 8) := by
    rcases hg with h | ⟨h8, hq, hg⟩
    · exact .inl h
    · rcases (show 8 ≤ gL ∨ gL < 8 by omega) with h | h
      · exact .inr (.inl ⟨h8, hq, ⟨hgr.1, hgr.2.1, h, hgr.2.2.1.2⟩, h, head_forth hg ho hgr.1.2 hgr.2.1.2 hgr.2.2.1.2 hgr.2.2.2.2⟩)
      · exact .inr (.inr ⟨h8, hq, fun h' => by have := h'.2.2.1; omega, h⟩)
  replace P1 := hid P1
  replace P2 := hid P2
  replace G0 := hid G0
  replace G1 := hid G1
  replace hlen := hid hlen
  replace hgg := hid hgg
  have HI := hid hI
  have HW := hid hW
  have HBC := hid hbc
  have HC := hid hc
  have HM := hid hm
  clear hV hT hl hX hbc hc ho hI hm hg hgr hW
  go_enter Tryd.func4, Tryd.ntmps4
  go_wp2_with fail
  rw [HW.out]
  refine P1.out.mono ?_
  rintro e wA (⟨hmay, rfl, hb1⟩ | ⟨hmay, xa, xc, rfl, hb1, hx, hxc⟩)
  case' inl =>
    have hBA := below_then hbW hb1
    clear hmay hbW h1 hb1
    go_upto_region 8 with fail
    have hBB := hBA
    clear hBA
  case' inr =>
    replace h1 := h1.below hb1
    have hBA := below_then hbW hb1
    replace hmay := hid hmay
    clear hbW hb1
    go_wp2_with (first | (at_builtin; refine wp_app_ints rfl (.tmp 25) (.tmp 26) rfl elemU8 rfl (own_emptyI wA _ .u8) rfl (headBytes_length V T L X).symm (hx.below (below_alloc _ _)) (List.nil_append _) ?_ ?_ ?_; (rw [headBytes_length]; omega); (rw [headBytes_length]; omega); intro a2 c2 w2 hl2 hc2 hI2 hg2; have F2 := hg2.first; have hb2 := F2.bel; have J2 := HI.out.below (below_then hBA hb2); clear hg2) | (at_builtin; refine wp_app_ints rfl (.tmp 27) (.tmp 28) rfl elemU8 rfl F2.own rfl rfl J2 rfl ?_ ?_ ?_; (rw [hlen.out]; have := HM.out; omega); (rw [hlen.out]; have := HM.out; omega); intro a3 c3 w3 hl3 hc3 hI3 hg3; have F3 := F2.step hg3; clear hg3))
    have hcap : (headBytes V T L X).length + b.length ≤ c3 := by rw [List.length_append] at hl3; exact hl3
    refine (G0.out hmay.out a3 _ c3 w3 (by rw [List.length_append]) (by rw [List.length_append]; exact hcap) hI3).mono ?_
    rintro e w4 ⟨rfl, hb4⟩
    replace h1 := h1.below (F3.bel.trans (hb4.mono F3.bel.size))
    replace hBA := below_then hBA (F3.bel.trans (hb4.mono F3.bel.size))
    clear hI3 hcap hl3 hc3 F3 hb4 F2 J2 hI2 hl2 hc2 hb2 hx
    go_upto_region 6 with fail
    obtain ⟨W5, hW5⟩ : ∃ W, w4.alloc (.cells #[.int .i64 V, .int .i64 T, .int .i64 L, .int .u32 X] 24) = W := ⟨_, rfl⟩
    have hbW5 : Below w4.heap.size w4 W5 := by rw [← hW5]; exact below_alloc _ _
    have h2 : HdBox W5 w4.heap.size V T L X := by rw [← hW5]; exact HdBox.new _ _ _ _ _ _
    rw [hW5]
    replace h1 := h1.below hbW5
    have hBB := below_then hBA hbW5
    clear hW5 hbW5 hBA
    obtain ⟨⟨d0, d1, d2, d3⟩, _, _⟩ := h1
    obtain ⟨⟨e0, e1, e2, e3⟩, _, _⟩ := h2
    go_upto_region 8 with fail
    clear d0 d1 d2 d3 e0 e1 e2 e3
  all_goals
    go_wp2_with fail
    refine (G1.out _ (HI.out.below hBB)).mono ?_
    rintro e w6 ⟨rfl, hb6⟩
    have hBC := below_then hBB hb6
    clear hBB hb6
    go_upto_region 9 with fail
    obtain ⟨W6, hW6⟩ : ∃ W, w6.alloc (.cells #[.int .i64 gV, .int .i64 gT, .int .i64 gL, .int .u32 gX] 24) = W := ⟨_, rfl⟩
    have hbW6 : Below w6.heap.size w6 W6 := by rw [← hW6]; exact below_alloc _ _
    have h3 : HdBox W6 w6.heap.size gV gT gL gX := by rw [← hW6]; exact HdBox.new _ _ _ _ _ _
    rw [hW6]
    have hBD := below_then hBC hbW6
    clear hW6 hbW6 hBC
    have hL6 := hL.below hBD
    obtain ⟨⟨d0, d1, d2, d3⟩, hz, hlt⟩ := id h3
    rcases hgg.out with ⟨g8, rfl, rfl, rfl, rfl, rfl⟩ | ⟨g8, rfl, gmay, gL8, gby⟩ | ⟨g8, rfl, gmay, gL8⟩
    · have g8i : (b.length : Int) < 8 := by omega
      clear P1 P2 G0 G1 hgg hlen HBC HC HM g8
      go_wp2_with fail
      refine (sure6_any _ hL6).mono ?_
      rintro e w7 ⟨rfl, hb7⟩
      go_wp2_with fail
      go_ret
      exact ⟨rfl, below_then hBD hb7⟩
    · have gc8 : (8 : Int) ≤ (bc : Int) := by have := HBC.out; omega
      have gl8 : (8 : Int) ≤ (b.length : Int) := by omega
      have ht8 : (b.take 8).length = 8 := by rw [List.length_take]; omega
      have Y := fun a c a' c' W h1 h2 => bytes_at (b.take 8) (b.take 8) a a' 8 8 c c' W ht8.symm ht8.symm (by rw [ht8]; decide) (by rw [ht8]; decide) h1 h2
      simp only [rfl_beq] at Y
      replace Y := hid Y
      replace gmay := hid gmay
      replace gby := hid gby
      clear P1 G0 G1 hgg hlen HBC HC HM g8 ht8
      go_wp2_with fail
      refine (P2.out _).mono ?_
      rintro e w7 (⟨hno, _⟩ | ⟨_, pa, pc, rfl, hb7, hI7, hpc⟩)
      · exact absurd gmay.out hno
      · rw [gby.out] at hI7
        have hbE := below_then hBD hb7
        have hJ7 := (HI.out.below hbE).take 8
        clear d0 d1 d2 d3 hz hlt
        obtain ⟨⟨d0, d1, d2, d3⟩, hz, hlt⟩ := h3.below hb7
        go_wp2_with fail
        refine (Y.out _ _ _ _ _ hI7 hJ7).mono ?_
        rintro e w8 ⟨rfl, hb8⟩
        have hbF := below_then hbE hb8
        go_wp2_with fail
        refine (sure6_any _ (hL.below hbF)).mono ?_
        rintro e w9 ⟨rfl, hb9⟩
        go_wp2_with fail
        go_ret
        exact ⟨rfl, below_then hbF hb9⟩
    · have g8n : decide (8 ≤ gL) = false := by simp; omega
      replace gmay := hid gmay
      clear P1 G0 G1 hgg hlen HBC HC HM g8
      go_wp2_with fail
      refine (P2.out _).mono ?_
      rintro e w7 (⟨_, rfl, hb7⟩ | ⟨hyes, _⟩)
      · have hbE := below_then hBD hb7
        clear d0 d1 d2 d3 hz hlt
        obtain ⟨⟨d0, d1, d2, d3⟩, hz, hlt⟩ := h3.below hb7
        go_wp2_with fail
        refine (sure6_any _ (hL.below hbE)).mono ?_
        rintro e w9 ⟨rfl, hb9⟩
        go_wp2_with fail
        go_ret
        exact ⟨rfl, below_then hbE hb9⟩
      · exact absurd hyes gmay.out

theorem HeadBack_walk (V T L X : Int) (b : List Int) (ba : Option Addr) (bc : Nat) (w : World) (hL : HeadLaid w)
    (hV : -9223372036854775808 ≤ V ∧ V ≤ 9223372036854775807) (hT : -9223372036854775808 ≤ T ∧ T ≤ 9223372036854775807) (hl : -9223372036854775808 ≤ L ∧ L ≤ 9223372036854775807) (hX : 0 ≤ X ∧ X ≤ 4294967295)
    (hbc : b.length ≤ bc) (hc : bc ≤ 9223372036854775807) (ho : Octets b) (hI : Ints .u8 w ba b) :
    Calls Tryd.prog 4 #[.agg #[.int .i64 V, .int .i64 T, .int .i64 L, .int .u32 X], .slice ba b.length bc] w fun x w' => x = .returned (.bool true) ∧ Below w.heap.size w w' := by
  by_cases hm : 1000 < b.length
  · exact HeadBack_many V T L X b ba bc w hm hL
  · exact HeadBack_few V T L X b ba bc w (by omega) hL hV hT hl hX hbc hc ho hI
end Go.Proofs.YtkgjmpcdndohpaaDoor
