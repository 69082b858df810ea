/- Package oxm and the document's values: a value as bytes, both. -/
import Derived.Test.YtfogpofgmnibcaaOxmK
namespace Go.Proofs.Ytfogpofgmnibcaa
open Go.RowKit
set_option linter.unusedVariables false

theorem by_none_drew8 (w : World) : w.grownBy w.drew none := by_none_drewN w 1
/-- what comes of a value that is encoded -/
def EncPost (C F : Int) (H : Bool) (X : Int) (v m : List Int) (w : World) (e : Ending) (w' : World) : Prop :=
  (rightB C F H X v m = false ∧ e = .returned (.tuple #[.slice none 0 0, .int .i64 10001]) ∧ Below w.heap.size w w') ∨
  (rightB C F H X v m = true ∧ ∃ ad cp, e = .returned (.tuple #[.slice ad (oxmBytes C F H X v m).length cp, .int .i64 0]) ∧ Below w.heap.size w w' ∧ Ints .u8 w' ad (oxmBytes C F H X v m) ∧ (oxmBytes C F H X v m).length ≤ cp)
theorem encode8_any (C F : Int) (H : Bool) (X : Int) (va : Option Addr) (vc : Nat) (ma : Option Addr) (mc : Nat) (v m : List Int) (hv : v.length ≤ 1000) (hm : m.length ≤ 1000) (hmc : m.length ≤ mc) (ov : Octets v) (om : Octets m) (w : World) (iv : Ints .u8 w va v) (im : Ints .u8 w ma m) (hX0 : 0 ≤ X) : Calls Try.prog 9 #[.agg #[.int .i64 C, .int .i64 F, .bool H, .int .u64 X, .slice va v.length vc, .slice ma m.length mc]] w (EncPost C F H X v m w) := by
  cases hr : rightB C F H X v m
  · exact (encode8_no C F H X va vc ma mc v m hv hm hmc ov om w iv im hr).mono fun e w' h => .inl ⟨hr, h.1, h.2⟩
  · exact (encode8_yes C F H X va vc ma mc v m hv hm hmc ov om w iv im hX0 hr).mono fun e w' h => .inr ⟨hr, h⟩

set_option maxRecDepth 100000 in
set_option maxHeartbeats 1000000 in
theorem ref8Bytes_basic (C F : Int) (H : Bool) (X : Int) (va : Option Addr) (vc : Nat) (ma : Option Addr) (mc : Nat) (v m : List Int) (hv : v.length ≤ 1000) (hm : m.length ≤ 1000) (hmc : m.length ≤ mc) (ov : Octets v) (om : Octets m) (w : World) (iv : Ints .u8 w va v) (im : Ints .u8 w ma m) (hC : C = 32768) (ft : Facts8 C F H X v m) :
    Calls Try.prog 29 #[.agg #[.int .i64 C, .int .i64 F, .bool H, .int .u64 X, .slice va v.length vc, .slice ma m.length mc]] w fun e w' => ∃ ad cp, e = .returned (.slice ad (oxmBytes C F H X v m).length cp) ∧ Below w.heap.size w w' ∧ Ints .u8 w' ad (oxmBytes C F H X v m) ∧ (oxmBytes C F H X v m).length ≤ cp := by
  obtain ⟨W, hW, hbW, hbox⟩ := oxm_box w C F H X va v.length vc ma m.length mc
  have HW := hid hW
  have HB := hid hbW
  obtain ⟨d0, d1, d2, d3, d4, d5⟩ := hbox.six
  have IV := hid (iv.below hbW)
  have IM := hid (im.below hbW)
  clear hW hbW iv im
  subst hC
  have hv1 := ft.v1
  have hf0 := ft.f0
  have hf1 := ft.f1
  have hm1 : m.length ≤ 100 := by rw [ft.len]; cases H <;> simp [maskZ] <;> omega
  obtain ⟨b, hbb⟩ : ∃ b, expL 32768 X = b := ⟨_, rfl⟩
  have hb0 : b = [] := by rw [← hbb]; simp [expL]
  have hF0 : Fresh 5 W W.drew (.slice none 0 0) (b.map (Value.int .u8)) := by
    subst hb0
    exact ⟨own_nilI _ _ _, below_drew8 W, fun g h => by simp [Value.ownBlock] at h⟩
  have hb4 : b.length ≤ 4 := by subst hb0; decide
  have HBB := hid hbb
  have HB0 := hid hb0
  clear hbb hb0
  go_enter Try.func29, Try.ntmps29
  go_wp2_with fail
  rw [HW.out]
  go_upto_region 4 with fail
  go_region_held3 (fun w' => w'.cell? ⟨w.heap.size, 4, none⟩ = some (.slice va v.length vc) ∧ w'.cell? ⟨w.heap.size, 5, none⟩ = some (.slice ma m.length mc)) (go_keep) (first
    | (refine step_app rfl _ _ rfl elemU8 rfl hF0.own rfl rfl (IV.out.below (below_drew8 W)) ?_ ?_ ?_; (simp; omega); (simp; omega); intro v4 w4 hg4; have hF1 := hF0.step hg4; rw [← List.map_append] at hF1; obtain ⟨e0, e1, e2, e3, e4, e5⟩ := (hbox.below hF1.bel).six)
    | (refine step_app rfl _ _ rfl elemU8 rfl hF1.own rfl rfl (IM.out.below hF1.bel) ?_ ?_ ?_; (simp; omega); (simp; omega); intro v5 w5 hg5; have hF2 := hF1.step hg5; rw [← List.map_append] at hF2; obtain ⟨e0, e1, e2, e3, e4, e5⟩ := (hbox.below hF2.bel).six)
    | fail)
  obtain ⟨a5, c5, rfl, _, _, hI5⟩ := own_ints hF2.own
  have hbl : (b ++ v ++ m).length = behind8 32768 v.length m.length := by rw [HB0.out]; simp [behind8]
  have hk := ft.most
  have HO : Hid (oxmBytes 32768 F H X v m = headL 32768 F H (behind8 32768 v.length m.length) ++ (b ++ v ++ m)) := by rw [← HBB.out]; simp [oxmBytes, Hid]
  obtain ⟨k, hkk⟩ : ∃ k, behind8 32768 v.length m.length = k := ⟨_, rfl⟩
  rw [hkk] at hbl hk HO
  obtain ⟨bd, hbd⟩ : ∃ bd, b ++ v ++ m = bd := ⟨_, rfl⟩
  rw [hbd] at hbl hI5 hF2 HO
  rw [hbl] at hF2
  have hbelow := hF2.bel
  rw [hbd, hbl]
  have hk2 : (k : Int) ≤ 204 := by omega
  have HKB := hid hbl
  have HI5 := hid hI5
  have HF2 := hid hbelow
  clear hbl hk hkk hbd hF2 hF1 hF0 hg4 hg5 e0 e1 e2 e3 e4 e5 d0 d1 d2 d3 d4 d5 hb4 HBB HB0 hm1 hv1 hI5
  obtain ⟨d0, d1, d2, d3, d4, d5⟩ := (hbox.below hbelow).six
  clear hbelow
  have HC := fun W => num_any 32768 2 W (by decide)
  obtain ⟨l2, hl2⟩ : ∃ l, bytesL 32768 2 = l := ⟨_, rfl⟩
  rw [hl2] at HC
  have HC := hid HC
  have HL2 := hid hl2
  clear hl2
  cases H
  · have HY : Hid (l2 ++ [2 * F, (k : Int)] = headL 32768 F false k) := by
      rw [← HL2.out]
      simp [headL, bytesL, fieldN, byteAt, p256, Hid]
      omega
    obtain ⟨l4, hl4⟩ : ∃ l, headL 32768 F false k = l := ⟨_, rfl⟩
    have h4 := headL_length 32768 F false k
    rw [hl4] at HY HO h4
    obtain ⟨xs, hxs⟩ : ∃ l, l4 ++ bd = l := ⟨_, rfl⟩
    have hx4 : xs.length ≤ 208 := by rw [← hxs, List.length_append, h4, HKB.out]; omega
    rw [hxs] at HO
    have HZ := hid hxs
    have H4 := hid h4
    have HX := hid hx4
    clear hxs h4 hl4 hx4
    go_wp2_with fail
    refine (HC.out _).mono ?_
    rintro e w6 ⟨v6, rfl, hF6⟩
    obtain ⟨a6, c6, rfl, _, _, hI6⟩ := own_ints hF6.own
    have hFA := hid (fun o => hF6.behind (by_none_alloc w6 o))
    clear hF6 hI6
    go_wp2_with (at_builtin; (first
      | (refine wp_app_ints rfl _ _ rfl elemU8 rfl (hFA.out _).own rfl (l := [2 * F, (k : Int)]) rfl (ints_lit .u8 w6 [2 * F, (k : Int)] _) HY.out (by rw [H4.out]; decide) (by rw [H4.out]; decide) ?_; intro a7 c7 w7 hl7 hc7 hI7 hg7; have hF7 := (hFA.out _).step hg7)
      | (refine wp_app_ints rfl _ _ rfl elemU8 rfl hF7.own rfl HKB.out.symm (HI5.out.below hF7.bel) HZ.out (by have := HX.out; omega) (by have := HX.out; omega) ?_; intro a8 c8 w8 hl8 hc8 hI8 hg8; have hF8 := hF7.step hg8)
      | fail))
    go_ret
    rw [HO.out]
    exact ⟨a8, c8, rfl, below_on HB.out (below_on HF2.out hF8.bel), hI8, hl8⟩
  · have HY : Hid (l2 ++ [2 * F + 1, (k : Int)] = headL 32768 F true k) := by
      rw [← HL2.out]
      simp [headL, bytesL, fieldN, byteAt, p256, Hid]
      omega
    obtain ⟨l4, hl4⟩ : ∃ l, headL 32768 F true k = l := ⟨_, rfl⟩
    have h4 := headL_length 32768 F true k
    rw [hl4] at HY HO h4
    obtain ⟨xs, hxs⟩ : ∃ l, l4 ++ bd = l := ⟨_, rfl⟩
    have hx4 : xs.length ≤ 208 := by rw [← hxs, List.length_append, h4, HKB.out]; omega
    rw [hxs] at HO
    have HZ := hid hxs
    have H4 := hid h4
    have HX := hid hx4
    clear hxs h4 hl4 hx4
    go_wp2_with fail
    refine (HC.out _).mono ?_
    rintro e w6 ⟨v6, rfl, hF6⟩
    obtain ⟨a6, c6, rfl, _, _, hI6⟩ := own_ints hF6.own
    have hFA := hid (fun o => hF6.behind (by_none_alloc w6 o))
    clear hF6 hI6
    go_wp2_with (at_builtin; (first
      | (refine wp_app_ints rfl _ _ rfl elemU8 rfl (hFA.out _).own rfl (l := [2 * F + 1, (k : Int)]) rfl (ints_lit .u8 w6 [2 * F + 1, (k : Int)] _) HY.out (by rw [H4.out]; decide) (by rw [H4.out]; decide) ?_; intro a7 c7 w7 hl7 hc7 hI7 hg7; have hF7 := (hFA.out _).step hg7)
      | (refine wp_app_ints rfl _ _ rfl elemU8 rfl hF7.own rfl HKB.out.symm (HI5.out.below hF7.bel) HZ.out (by have := HX.out; omega) (by have := HX.out; omega) ?_; intro a8 c8 w8 hl8 hc8 hI8 hg8; have hF8 := hF7.step hg8)
      | fail))
    go_ret
    rw [HO.out]
    exact ⟨a8, c8, rfl, below_on HB.out (below_on HF2.out hF8.bel), hI8, hl8⟩

set_option maxRecDepth 100000 in
set_option maxHeartbeats 1000000 in
theorem ref8Bytes_extra (C F : Int) (H : Bool) (X : Int) (va : Option Addr) (vc : Nat) (ma : Option Addr) (mc : Nat) (v m : List Int) (hv : v.length ≤ 1000) (hm : m.length ≤ 1000) (hmc : m.length ≤ mc) (ov : Octets v) (om : Octets m) (w : World) (iv : Ints .u8 w va v) (im : Ints .u8 w ma m) (hX0 : 0 ≤ X) (hC : C = 65535) (ft : Facts8 C F H X v m) :
    Calls Try.prog 29 #[.agg #[.int .i64 C, .int .i64 F, .bool H, .int .u64 X, .slice va v.length vc, .slice ma m.length mc]] w fun e w' => ∃ ad cp, e = .returned (.slice ad (oxmBytes C F H X v m).length cp) ∧ Below w.heap.size w w' ∧ Ints .u8 w' ad (oxmBytes C F H X v m) ∧ (oxmBytes C F H X v m).length ≤ cp := by
  obtain ⟨W, hW, hbW, hbox⟩ := oxm_box w C F H X va v.length vc ma m.length mc
  have HW := hid hW
  have HB := hid hbW
  obtain ⟨d0, d1, d2, d3, d4, d5⟩ := hbox.six
  have IV := hid (iv.below hbW)
  have IM := hid (im.below hbW)
  clear hW hbW iv im
  subst hC
  have hv1 := ft.v1
  have hf0 := ft.f0
  have hf1 := ft.f1
  have hm1 : m.length ≤ 100 := by rw [ft.len]; cases H <;> simp [maskZ] <;> omega
  obtain ⟨b, hbb⟩ : ∃ b, expL 65535 X = b := ⟨_, rfl⟩
  have hb0 : bytesL X 4 = b := by rw [← hbb]; simp [expL]
  have hb4 : b.length = 4 := by rw [← hb0, bytesL_length]
  have hxx := ft.x1
  have HN := fun W => num_any X 4 W (by decide)
  rw [hb0] at HN
  have HN := hid HN
  have HBB := hid hbb
  have HB0 := hid hb4
  replace hb4 : b.length ≤ 4 := by omega
  clear hbb hb0
  go_enter Try.func29, Try.ntmps29
  go_wp2_with fail
  rw [HW.out]
  go_wp2_with fail
  refine (HN.out _).mono ?_
  rintro e w2 ⟨vb, rfl, hFb⟩
  obtain ⟨ab, cb, rfl, _, _, _⟩ := own_ints hFb.own
  have hF0 := hFb.behind (by_none_drew8 w2)
  clear d0 d1 d2 d3 d4 d5
  obtain ⟨d0, d1, d2, d3, d4, d5⟩ := (hbox.below hFb.bel).six
  go_upto_region 4 with fail
  go_region_held3 (fun w' => w'.cell? ⟨w.heap.size, 4, none⟩ = some (.slice va v.length vc) ∧ w'.cell? ⟨w.heap.size, 5, none⟩ = some (.slice ma m.length mc)) (go_keep) (first
    | (refine step_app rfl _ _ rfl elemU8 rfl hF0.own rfl rfl (IV.out.below hF0.bel) ?_ ?_ ?_; (simp; omega); (simp; omega); intro v4 w4 hg4; have hF1 := hF0.step hg4; rw [← List.map_append] at hF1; obtain ⟨e0, e1, e2, e3, e4, e5⟩ := (hbox.below hF1.bel).six)
    | (refine step_app rfl _ _ rfl elemU8 rfl hF1.own rfl rfl (IM.out.below hF1.bel) ?_ ?_ ?_; (simp; omega); (simp; omega); intro v5 w5 hg5; have hF2 := hF1.step hg5; rw [← List.map_append] at hF2; obtain ⟨e0, e1, e2, e3, e4, e5⟩ := (hbox.below hF2.bel).six)
    | fail)
  obtain ⟨a5, c5, rfl, _, _, hI5⟩ := own_ints hF2.own
  have hbl : (b ++ v ++ m).length = behind8 65535 v.length m.length := by have h4 := HB0.out; simp [behind8]; omega
  have hk := ft.most
  have HO : Hid (oxmBytes 65535 F H X v m = headL 65535 F H (behind8 65535 v.length m.length) ++ (b ++ v ++ m)) := by rw [← HBB.out]; simp [oxmBytes, Hid]
  obtain ⟨k, hkk⟩ : ∃ k, behind8 65535 v.length m.length = k := ⟨_, rfl⟩
  rw [hkk] at hbl hk HO
  obtain ⟨bd, hbd⟩ : ∃ bd, b ++ v ++ m = bd := ⟨_, rfl⟩
  rw [hbd] at hbl hI5 hF2 HO
  rw [hbl] at hF2
  have hbelow := hF2.bel
  rw [hbd, hbl]
  have hk2 : (k : Int) ≤ 204 := by omega
  have HKB := hid hbl
  have HI5 := hid hI5
  have HF2 := hid hbelow
  clear hbl hk hkk hbd hF2 hF1 hF0 hFb hxx HN hg4 hg5 e0 e1 e2 e3 e4 e5 d0 d1 d2 d3 d4 d5 hb4 HBB HB0 hm1 hv1 hI5
  obtain ⟨d0, d1, d2, d3, d4, d5⟩ := (hbox.below hbelow).six
  clear hbelow
  have HC := fun W => num_any 65535 2 W (by decide)
  obtain ⟨l2, hl2⟩ : ∃ l, bytesL 65535 2 = l := ⟨_, rfl⟩
  rw [hl2] at HC
  have HC := hid HC
  have HL2 := hid hl2
  clear hl2
  cases H
  · have HY : Hid (l2 ++ [2 * F, (k : Int)] = headL 65535 F false k) := by
      rw [← HL2.out]
      simp [headL, bytesL, fieldN, byteAt, p256, Hid]
      omega
    obtain ⟨l4, hl4⟩ : ∃ l, headL 65535 F false k = l := ⟨_, rfl⟩
    have h4 := headL_length 65535 F false k
    rw [hl4] at HY HO h4
    obtain ⟨xs, hxs⟩ : ∃ l, l4 ++ bd = l := ⟨_, rfl⟩
    have hx4 : xs.length ≤ 208 := by rw [← hxs, List.length_append, h4, HKB.out]; omega
    rw [hxs] at HO
    have HZ := hid hxs
    have H4 := hid h4
    have HX := hid hx4
    clear hxs h4 hl4 hx4
    go_wp2_with fail
    refine (HC.out _).mono ?_
    rintro e w6 ⟨v6, rfl, hF6⟩
    obtain ⟨a6, c6, rfl, _, _, hI6⟩ := own_ints hF6.own
    have hFA := hid (fun o => hF6.behind (by_none_alloc w6 o))
    clear hF6 hI6
    go_wp2_with (at_builtin; (first
      | (refine wp_app_ints rfl _ _ rfl elemU8 rfl (hFA.out _).own rfl (l := [2 * F, (k : Int)]) rfl (ints_lit .u8 w6 [2 * F, (k : Int)] _) HY.out (by rw [H4.out]; decide) (by rw [H4.out]; decide) ?_; intro a7 c7 w7 hl7 hc7 hI7 hg7; have hF7 := (hFA.out _).step hg7)
      | (refine wp_app_ints rfl _ _ rfl elemU8 rfl hF7.own rfl HKB.out.symm (HI5.out.below hF7.bel) HZ.out (by have := HX.out; omega) (by have := HX.out; omega) ?_; intro a8 c8 w8 hl8 hc8 hI8 hg8; have hF8 := hF7.step hg8)
      | fail))
    go_ret
    rw [HO.out]
    exact ⟨a8, c8, rfl, below_on HB.out (below_on HF2.out hF8.bel), hI8, hl8⟩
  · have HY : Hid (l2 ++ [2 * F + 1, (k : Int)] = headL 65535 F true k) := by
      rw [← HL2.out]
      simp [headL, bytesL, fieldN, byteAt, p256, Hid]
      omega
    obtain ⟨l4, hl4⟩ : ∃ l, headL 65535 F true k = l := ⟨_, rfl⟩
    have h4 := headL_length 65535 F true k
    rw [hl4] at HY HO h4
    obtain ⟨xs, hxs⟩ : ∃ l, l4 ++ bd = l := ⟨_, rfl⟩
    have hx4 : xs.length ≤ 208 := by rw [← hxs, List.length_append, h4, HKB.out]; omega
    rw [hxs] at HO
    have HZ := hid hxs
    have H4 := hid h4
    have HX := hid hx4
    clear hxs h4 hl4 hx4
    go_wp2_with fail
    refine (HC.out _).mono ?_
    rintro e w6 ⟨v6, rfl, hF6⟩
    obtain ⟨a6, c6, rfl, _, _, hI6⟩ := own_ints hF6.own
    have hFA := hid (fun o => hF6.behind (by_none_alloc w6 o))
    clear hF6 hI6
    go_wp2_with (at_builtin; (first
      | (refine wp_app_ints rfl _ _ rfl elemU8 rfl (hFA.out _).own rfl (l := [2 * F + 1, (k : Int)]) rfl (ints_lit .u8 w6 [2 * F + 1, (k : Int)] _) HY.out (by rw [H4.out]; decide) (by rw [H4.out]; decide) ?_; intro a7 c7 w7 hl7 hc7 hI7 hg7; have hF7 := (hFA.out _).step hg7)
      | (refine wp_app_ints rfl _ _ rfl elemU8 rfl hF7.own rfl HKB.out.symm (HI5.out.below hF7.bel) HZ.out (by have := HX.out; omega) (by have := HX.out; omega) ?_; intro a8 c8 w8 hl8 hc8 hI8 hg8; have hF8 := hF7.step hg8)
      | fail))
    go_ret
    rw [HO.out]
    exact ⟨a8, c8, rfl, below_on HB.out (below_on HF2.out hF8.bel), hI8, hl8⟩
end Go.Proofs.Ytfogpofgmnibcaa
