/- Put together out of several texts. -/
import Derived.Test.YtdjlbejhphbcoaaGreatQ13
import Derived.Test.YtdjlbejhphbcoaaGreatQ6
import Derived.Deep.RegionHeld3
import Derived.Test.YtdjlbejhphbcoaaGreatQ4
namespace Go.Proofs.YtdjlbejhphbcoaaGreat
open Go.RowKit
set_option linter.unusedVariables false

set_option maxRecDepth 100000 in
set_option maxHeartbeats 2000000 in
theorem refRow12_any (t : Int) (w : World) : Calls Tryz.prog 59 #[.int .i64 t] w (RowPost12 (rowP t) (row12 t).isSome w) := by
  rcases type_ways t with rfl | rfl | rfl | rfl | rfl | rfl | rfl | rfl | rfl | rfl | rfl | rfl | rfl | rfl | rfl | rfl | rfl | h

  · exact row_lit (l := [4, 2, -6]) (by kernel_rfl)
  · exact row_lit (l := [-4]) (by kernel_rfl)
  · exact row_lit (l := [-4]) (by kernel_rfl)
  · exact row_lit (l := [1, -3]) (by kernel_rfl)
  · exact row_lit (l := [-4]) (by kernel_rfl)
  · exact row_lit (l := [2, -2]) (by kernel_rfl)
  · exact row_lit (l := [-4]) (by kernel_rfl)
  · exact row_lit (l := [2, -2]) (by kernel_rfl)
  · exact row_lit (l := [2, -2]) (by kernel_rfl)
  · exact row_lit (l := [4]) (by kernel_rfl)
  · exact row_lit (l := [4]) (by kernel_rfl)
  · exact row_lit (l := [1, -3]) (by kernel_rfl)
  · exact row_lit (l := [-4]) (by kernel_rfl)
  · have e1 : rowP 25 = [] := by decide
    have e2 : (row12 25).isSome = false := by decide
    rw [e1, e2]
    exact row_none (by kernel_rfl)
  · exact row_lit (l := [2, -2]) (by kernel_rfl)
  · exact row_lit (l := [-4]) (by kernel_rfl)
  · exact row_lit (l := [4]) (by kernel_rfl)
  · have e1 : rowP t = [] := by simp [rowP, row12, h]
    have e2 : (row12 t).isSome = false := by simp [row12, h]
    rw [e1, e2]
    have c0 : (t == 0) = false := by simp [h]
    have c1 : (t == 11) = false := by simp [h]
    have c2 : (t == 12) = false := by simp [h]
    have c3 : (t == 15) = false := by simp [h]
    have c4 : (t == 16) = false := by simp [h]
    have c5 : (t == 17) = false := by simp [h]
    have c6 : (t == 18) = false := by simp [h]
    have c7 : (t == 19) = false := by simp [h]
    have c8 : (t == 20) = false := by simp [h]
    have c9 : (t == 21) = false := by simp [h]
    have c10 : (t == 22) = false := by simp [h]
    have c11 : (t == 23) = false := by simp [h]
    have c12 : (t == 24) = false := by simp [h]
    have c13 : (t == 26) = false := by simp [h]
    have c14 : (t == 27) = false := by simp [h]
    have c15 : (t == 65535) = false := by simp [h]
    clear h e1 e2
    go_enter Tryz.func59, Tryz.ntmps59
    go_wp2_with fail
    go_ret2
    exact ⟨none, rfl, Ints.nil _ _ _, Below.refl _ _⟩

set_option maxRecDepth 100000 in
set_option maxHeartbeats 2000000 in
theorem asked_out_no (t n : Int) (w : World) (hT : t = 0) (hA : n = 0) :
    Calls Tryz.prog 62 #[.int .i64 t, .int .u64 n] w fun e w' => e = .returned (.int .i64 (asked12 t n)) ∧ w' = w := by
  have hq : asked12 t n = 517 := by simp [asked12, hT, hA]
  rw [hq]
  clear hq
  subst hT
  subst hA
  go_enter Tryz.func62, Tryz.ntmps62
  go_wp2_with fail
  go_ret
  exact ⟨rfl, rfl⟩

set_option maxRecDepth 100000 in
set_option maxHeartbeats 2000000 in
theorem asked_out_yes (t n : Int) (w : World) (hT : t = 0) (hA : n ≠ 0) :
    Calls Tryz.prog 62 #[.int .i64 t, .int .u64 n] w fun e w' => e = .returned (.int .i64 (asked12 t n)) ∧ w' = w := by
  have hq : asked12 t n = 0 := by simp [asked12, hT, hA]
  rw [hq]
  clear hq
  subst hT
  have c : (n == 0) = false := by simpa using hA
  clear hA
  go_enter Tryz.func62, Tryz.ntmps62
  go_wp2_with fail
  go_ret
  exact ⟨rfl, rfl⟩

set_option maxRecDepth 100000 in
set_option maxHeartbeats 2000000 in
theorem asked_grp_no (t n : Int) (w : World) (hT : t = 22) (hA : 4294967040 < n) :
    Calls Tryz.prog 62 #[.int .i64 t, .int .u64 n] w fun e w' => e = .returned (.int .i64 (asked12 t n)) ∧ w' = w := by
  have hq : asked12 t n = 522 := by simp [asked12, hT, hA]
  rw [hq]
  clear hq
  subst hT
  go_enter Tryz.func62, Tryz.ntmps62
  go_wp2_with fail
  go_ret
  exact ⟨rfl, rfl⟩

set_option maxRecDepth 100000 in
set_option maxHeartbeats 2000000 in
theorem asked_grp_yes (t n : Int) (w : World) (hT : t = 22) (hA : ¬ 4294967040 < n) :
    Calls Tryz.prog 62 #[.int .i64 t, .int .u64 n] w fun e w' => e = .returned (.int .i64 (asked12 t n)) ∧ w' = w := by
  have hq : asked12 t n = 0 := by simp [asked12, hT, hA]
  rw [hq]
  clear hq
  subst hT
  go_enter Tryz.func62, Tryz.ntmps62
  go_wp2_with fail
  go_ret
  exact ⟨rfl, rfl⟩

set_option maxRecDepth 100000 in
set_option maxHeartbeats 2000000 in
theorem asked_vlan_a (t n : Int) (w : World) (hT : t = 17) (hA : n = 33024) :
    Calls Tryz.prog 62 #[.int .i64 t, .int .u64 n] w fun e w' => e = .returned (.int .i64 (asked12 t n)) ∧ w' = w := by
  have hq : asked12 t n = 0 := by simp [asked12, hT, hA]
  rw [hq]
  clear hq
  subst hT
  subst hA
  go_enter Tryz.func62, Tryz.ntmps62
  go_wp2_with fail
  go_ret
  exact ⟨rfl, rfl⟩

set_option maxRecDepth 100000 in
set_option maxHeartbeats 2000000 in
theorem asked_vlan_b (t n : Int) (w : World) (hT : t = 17) (hA : n = 34984) :
    Calls Tryz.prog 62 #[.int .i64 t, .int .u64 n] w fun e w' => e = .returned (.int .i64 (asked12 t n)) ∧ w' = w := by
  have hq : asked12 t n = 0 := by simp [asked12, hT, hA]
  rw [hq]
  clear hq
  subst hT
  subst hA
  go_enter Tryz.func62, Tryz.ntmps62
  go_wp2_with fail
  go_ret
  exact ⟨rfl, rfl⟩

set_option maxRecDepth 100000 in
set_option maxHeartbeats 2000000 in
theorem asked_vlan_no (t n : Int) (w : World) (hT : t = 17) (hA : n ≠ 33024) (hA2 : n ≠ 34984) :
    Calls Tryz.prog 62 #[.int .i64 t, .int .u64 n] w fun e w' => e = .returned (.int .i64 (asked12 t n)) ∧ w' = w := by
  have hq : asked12 t n = 518 := by simp [asked12, hT, hA, hA2]
  rw [hq]
  clear hq
  subst hT
  have c : (n != 33024) = true := by simpa using hA
  have c2 : (n != 34984) = true := by simpa using hA2
  clear hA hA2
  go_enter Tryz.func62, Tryz.ntmps62
  go_wp2_with fail
  go_ret
  exact ⟨rfl, rfl⟩

set_option maxRecDepth 100000 in
set_option maxHeartbeats 2000000 in
theorem asked_mpls_a (t n : Int) (w : World) (hT : t = 19) (hA : n = 34887) :
    Calls Tryz.prog 62 #[.int .i64 t, .int .u64 n] w fun e w' => e = .returned (.int .i64 (asked12 t n)) ∧ w' = w := by
  have hq : asked12 t n = 0 := by simp [asked12, hT, hA]
  rw [hq]
  clear hq
  subst hT
  subst hA
  go_enter Tryz.func62, Tryz.ntmps62
  go_wp2_with fail
  go_ret
  exact ⟨rfl, rfl⟩

set_option maxRecDepth 100000 in
set_option maxHeartbeats 2000000 in
theorem asked_mpls_b (t n : Int) (w : World) (hT : t = 19) (hA : n = 34888) :
    Calls Tryz.prog 62 #[.int .i64 t, .int .u64 n] w fun e w' => e = .returned (.int .i64 (asked12 t n)) ∧ w' = w := by
  have hq : asked12 t n = 0 := by simp [asked12, hT, hA]
  rw [hq]
  clear hq
  subst hT
  subst hA
  go_enter Tryz.func62, Tryz.ntmps62
  go_wp2_with fail
  go_ret
  exact ⟨rfl, rfl⟩

set_option maxRecDepth 100000 in
set_option maxHeartbeats 2000000 in
theorem asked_mpls_no (t n : Int) (w : World) (hT : t = 19) (hA : n ≠ 34887) (hA2 : n ≠ 34888) :
    Calls Tryz.prog 62 #[.int .i64 t, .int .u64 n] w fun e w' => e = .returned (.int .i64 (asked12 t n)) ∧ w' = w := by
  have hq : asked12 t n = 518 := by simp [asked12, hT, hA, hA2]
  rw [hq]
  clear hq
  subst hT
  have c : (n != 34887) = true := by simpa using hA
  have c2 : (n != 34888) = true := by simpa using hA2
  clear hA hA2
  go_enter Tryz.func62, Tryz.ntmps62
  go_wp2_with fail
  go_ret
  exact ⟨rfl, rfl⟩

set_option maxRecDepth 100000 in
set_option maxHeartbeats 2000000 in
theorem asked_pbb_a (t n : Int) (w : World) (hT : t = 26) (hA : n = 35047) :
    Calls Tryz.prog 62 #[.int .i64 t, .int .u64 n] w fun e w' => e = .returned (.int .i64 (asked12 t n)) ∧ w' = w := by
  have hq : asked12 t n = 0 := by simp [asked12, hT, hA]
  rw [hq]
  clear hq
  subst hT
  subst hA
  go_enter Tryz.func62, Tryz.ntmps62
  go_wp2_with fail
  go_ret
  exact ⟨rfl, rfl⟩

set_option maxRecDepth 100000 in
set_option maxHeartbeats 2000000 in
theorem asked_pbb_no (t n : Int) (w : World) (hT : t = 26) (hA : n ≠ 35047) :
    Calls Tryz.prog 62 #[.int .i64 t, .int .u64 n] w fun e w' => e = .returned (.int .i64 (asked12 t n)) ∧ w' = w := by
  have hq : asked12 t n = 518 := by simp [asked12, hT, hA]
  rw [hq]
  clear hq
  subst hT
  have c : (n != 35047) = true := by simpa using hA
  clear hA
  go_enter Tryz.func62, Tryz.ntmps62
  go_wp2_with fail
  go_ret
  exact ⟨rfl, rfl⟩

set_option maxRecDepth 100000 in
set_option maxHeartbeats 2000000 in
theorem asked_else (t n : Int) (w : World) (hT : t ≠ 0 ∧ t ≠ 22 ∧ t ≠ 17 ∧ t ≠ 19 ∧ t ≠ 26) :
    Calls Tryz.prog 62 #[.int .i64 t, .int .u64 n] w fun e w' => e = .returned (.int .i64 (asked12 t n)) ∧ w' = w := by
  have hq : asked12 t n = 0 := by simp [asked12, hT]
  rw [hq]
  clear hq
  obtain ⟨h0, h1, h2, h3, h4⟩ := hT
  have c0 : (t == 0) = false := by simpa using h0
  have c1 : (t == 22) = false := by simpa using h1
  have c2 : (t == 17) = false := by simpa using h2
  have c3 : (t == 19) = false := by simpa using h3
  have c4 : (t == 26) = false := by simpa using h4
  clear h0 h1 h2 h3 h4
  go_enter Tryz.func62, Tryz.ntmps62
  go_wp2_with fail
  go_ret
  exact ⟨rfl, rfl⟩

theorem refAsked_any (t n : Int) (w : World) : Calls Tryz.prog 62 #[.int .i64 t, .int .u64 n] w fun e w' => e = .returned (.int .i64 (asked12 t n)) ∧ w' = w := by
  rcases (show t = 0 ∨ t = 22 ∨ t = 17 ∨ t = 19 ∨ t = 26 ∨ (t ≠ 0 ∧ t ≠ 22 ∧ t ≠ 17 ∧ t ≠ 19 ∧ t ≠ 26) by omega) with h | h | h | h | h | h
  · by_cases hA : n = 0
    · exact asked_out_no t n w h hA
    · exact asked_out_yes t n w h hA
  · by_cases hA : 4294967040 < n
    · exact asked_grp_no t n w h hA
    · exact asked_grp_yes t n w h hA
  · by_cases hA : n = 33024
    · exact asked_vlan_a t n w h hA
    · by_cases hA2 : n = 34984
      · exact asked_vlan_b t n w h hA2
      · exact asked_vlan_no t n w h hA hA2
  · by_cases hA : n = 34887
    · exact asked_mpls_a t n w h hA
    · by_cases hA2 : n = 34888
      · exact asked_mpls_b t n w h hA2
      · exact asked_mpls_no t n w h hA hA2
  · by_cases hA : n = 35047
    · exact asked_pbb_a t n w h hA
    · exact asked_pbb_no t n w h hA
  · exact asked_else t n w h
set_option maxRecDepth 100000 in
set_option maxHeartbeats 2000000 in
theorem refNums_at (T A B C F : Int) (H : Bool) (X : Int) (va : Option Addr) (vl vc : Nat) (ma : Option Addr) (ml mc : Nat) (da : Option Addr) (dl dc : Nat) (l : List Int) (a : Option Addr) (c : Nat) (k : Nat) (hk : countW l = k) (hk2 : k ≤ 2) (hl : l.length ≤ 64) (w : World) (hI : Ints .i64 w a l) :
    Calls Tryz.prog 87 #[.agg #[.int .i64 T, .int .u64 A, .int .u64 B, .int .i64 C, .int .i64 F, .bool H, .int .u64 X, .slice va vl vc, .slice ma ml mc, .slice da dl dc], .slice a l.length c] w fun e w' => ∃ b, e = .returned (.slice b k 2) ∧ Ints .u64 w' b ([A, B].take k) ∧ Below w.heap.size w w' := by
  obtain ⟨W, hW, hbW, hx⟩ := act_box w T A B C F H X va vl vc ma ml mc da dl dc
  have HW := hid hW
  have HB := hid hbW
  have CO := hid (fun (V : World) (hV : Below W.heap.size W V) => refCount_any l a c V (by omega) ((hI.below HB.out).below hV))
  rw [hk] at CO
  have hk0 : (0 : Int) ≤ k := by omega
  have hk3 : (k : Int) ≤ 2 := by omega
  clear hW hbW hI hk
  obtain ⟨d0, d1, d2, d3, d4, d5, d6, d7, d8, d9⟩ := hx.ten
  go_enter Tryz.func87, Tryz.ntmps87
  go_wp2_with fail
  rw [HW.out]
  go_wp2_with fail
  refine (CO.out _ (below_alloc W _)).mono ?_
  rintro e w' ⟨rfl, rfl⟩
  go_wp2_with fail
  go_ret
  have hws : W.heap.size = w.heap.size + 1 := by rw [← HW.out]; simp
  exact ⟨_, rfl, (lit_at .u64 [A, B] (e := 22) (Below.refl (W.alloc _).heap.size (W.alloc _)) hws rfl).take k, below_on HB.out (below_alloc _ _)⟩
end Go.Proofs.YtdjlbejhphbcoaaGreat
namespace Go.Proofs.YtdjlbejhphbcoaaGreat
open Go.RowKit
set_option linter.unusedVariables false

set_option maxRecDepth 100000 in
set_option maxHeartbeats 1000000 in
theorem ref8Bytes_own (C F : Int) (H : Bool) (X : Int) (va : Option Addr) (vc : Nat) (ma : Option Addr) (mc : Nat) (v m : List Int) (hv : v.length ≤ 1000) (hm : m.length ≤ 1000) (hmc : m.length ≤ mc) (ov : Octets v) (om : Octets m) (w : World) (iv : Ints .u8 w va v) (im : Ints .u8 w ma m) (hC : C = 32768) (ft : Facts8 C F H X v m) :
    Calls Tryz.prog 86 #[.agg #[.int .i64 C, .int .i64 F, .bool H, .int .u64 X, .slice va v.length vc, .slice ma m.length mc]] w fun e w' => ∃ ad cp, e = .returned (.slice ad (oxmBytes C F H X v m).length cp) ∧ Fresh 5 w w' (.slice ad (oxmBytes C F H X v m).length cp) ((oxmBytes C F H X v m).map (Value.int .u8)) := by
  obtain ⟨W, hW, hbW, hbox⟩ := oxm_box w C F H X va v.length vc ma m.length mc
  have HW := hid hW
  have HB := hid hbW
  obtain ⟨d0, d1, d2, d3, d4, d5⟩ := hbox.six
  have IV := hid (iv.below hbW)
  have IM := hid (im.below hbW)
  clear hW hbW iv im
  subst hC
  have hv1 := ft.v1
  have hf0 := ft.f0
  have hf1 := ft.f1
  have hm1 : m.length ≤ 100 := by rw [ft.len]; cases H <;> simp [maskZ] <;> omega
  obtain ⟨b, hbb⟩ : ∃ b, expL 32768 X = b := ⟨_, rfl⟩
  have hb0 : b = [] := by rw [← hbb]; simp [expL]
  have hF0 : Fresh 5 W W.drew (.slice none 0 0) (b.map (Value.int .u8)) := by
    subst hb0
    exact ⟨own_nilI _ _ _, below_drew8 W, fun g h => by simp [Value.ownBlock] at h⟩
  have hb4 : b.length ≤ 4 := by subst hb0; decide
  have HBB := hid hbb
  have HB0 := hid hb0
  clear hbb hb0
  go_enter Tryz.func86, Tryz.ntmps86
  go_wp2_with fail
  rw [HW.out]
  go_upto_region 4 with fail
  go_region_held3 (fun w' => w'.cell? ⟨w.heap.size, 4, none⟩ = some (.slice va v.length vc) ∧ w'.cell? ⟨w.heap.size, 5, none⟩ = some (.slice ma m.length mc)) (go_keep) (first
    | (refine step_app rfl _ _ rfl elemU8 rfl hF0.own rfl rfl (IV.out.below (below_drew8 W)) ?_ ?_ ?_; (simp; omega); (simp; omega); intro v4 w4 hg4; have hF1 := hF0.step hg4; rw [← List.map_append] at hF1; obtain ⟨e0, e1, e2, e3, e4, e5⟩ := (hbox.below hF1.bel).six)
    | (refine step_app rfl _ _ rfl elemU8 rfl hF1.own rfl rfl (IM.out.below hF1.bel) ?_ ?_ ?_; (simp; omega); (simp; omega); intro v5 w5 hg5; have hF2 := hF1.step hg5; rw [← List.map_append] at hF2; obtain ⟨e0, e1, e2, e3, e4, e5⟩ := (hbox.below hF2.bel).six)
    | fail)
  obtain ⟨a5, c5, rfl, _, _, hI5⟩ := own_ints hF2.own
  have hbl : (b ++ v ++ m).length = behind8 32768 v.length m.length := by rw [HB0.out]; simp [behind8]
  have hk := ft.most
  have HO : Hid (oxmBytes 32768 F H X v m = headL 32768 F H (behind8 32768 v.length m.length) ++ (b ++ v ++ m)) := by rw [← HBB.out]; simp [oxmBytes, Hid]
  obtain ⟨k, hkk⟩ : ∃ k, behind8 32768 v.length m.length = k := ⟨_, rfl⟩
  rw [hkk] at hbl hk HO
  obtain ⟨bd, hbd⟩ : ∃ bd, b ++ v ++ m = bd := ⟨_, rfl⟩
  rw [hbd] at hbl hI5 hF2 HO
  rw [hbl] at hF2
  have hbelow := hF2.bel
  rw [hbd, hbl]
  have hk2 : (k : Int) ≤ 204 := by omega
  have HKB := hid hbl
  have HI5 := hid hI5
  have HF2 := hid hbelow
  clear hbl hk hkk hbd hF2 hF1 hF0 hg4 hg5 e0 e1 e2 e3 e4 e5 d0 d1 d2 d3 d4 d5 hb4 HBB HB0 hm1 hv1 hI5
  obtain ⟨d0, d1, d2, d3, d4, d5⟩ := (hbox.below hbelow).six
  clear hbelow
  have HC := fun W => num_any 32768 2 W (by decide)
  obtain ⟨l2, hl2⟩ : ∃ l, bytesL 32768 2 = l := ⟨_, rfl⟩
  rw [hl2] at HC
  have HC := hid HC
  have HL2 := hid hl2
  clear hl2
  cases H
  · have HY : Hid (l2 ++ [2 * F, (k : Int)] = headL 32768 F false k) := by
      rw [← HL2.out]
      simp [headL, bytesL, fieldN, byteAt, p256, Hid]
      omega
    obtain ⟨l4, hl4⟩ : ∃ l, headL 32768 F false k = l := ⟨_, rfl⟩
    have h4 := headL_length 32768 F false k
    rw [hl4] at HY HO h4
    obtain ⟨xs, hxs⟩ : ∃ l, l4 ++ bd = l := ⟨_, rfl⟩
    have hx4 : xs.length ≤ 208 := by rw [← hxs, List.length_append, h4, HKB.out]; omega
    rw [hxs] at HO
    have HZ := hid hxs
    have H4 := hid h4
    have HX := hid hx4
    clear hxs h4 hl4 hx4
    go_wp2_with fail
    refine (HC.out _).mono ?_
    rintro e w6 ⟨v6, rfl, hF6⟩
    obtain ⟨a6, c6, rfl, _, _, hI6⟩ := own_ints hF6.own
    have hFA := hid (fun o => hF6.behind (by_none_alloc w6 o))
    clear hF6 hI6
    go_wp2_with (at_builtin; (first
      | (refine wp_app_ints rfl _ _ rfl elemU8 rfl (hFA.out _).own rfl (l := [2 * F, (k : Int)]) rfl (ints_lit .u8 w6 [2 * F, (k : Int)] _) HY.out (by rw [H4.out]; decide) (by rw [H4.out]; decide) ?_; intro a7 c7 w7 hl7 hc7 hI7 hg7; have hF7 := (hFA.out _).step hg7)
      | (refine wp_app_ints rfl _ _ rfl elemU8 rfl hF7.own rfl HKB.out.symm (HI5.out.below hF7.bel) HZ.out (by have := HX.out; omega) (by have := HX.out; omega) ?_; intro a8 c8 w8 hl8 hc8 hI8 hg8; have hF8 := hF7.step hg8)
      | fail))
    go_ret
    rw [HO.out]
    exact ⟨a8, c8, rfl, Fresh.made (below_by_none (below_on HB.out HF2.out)) hF8⟩
  · have HY : Hid (l2 ++ [2 * F + 1, (k : Int)] = headL 32768 F true k) := by
      rw [← HL2.out]
      simp [headL, bytesL, fieldN, byteAt, p256, Hid]
      omega
    obtain ⟨l4, hl4⟩ : ∃ l, headL 32768 F true k = l := ⟨_, rfl⟩
    have h4 := headL_length 32768 F true k
    rw [hl4] at HY HO h4
    obtain ⟨xs, hxs⟩ : ∃ l, l4 ++ bd = l := ⟨_, rfl⟩
    have hx4 : xs.length ≤ 208 := by rw [← hxs, List.length_append, h4, HKB.out]; omega
    rw [hxs] at HO
    have HZ := hid hxs
    have H4 := hid h4
    have HX := hid hx4
    clear hxs h4 hl4 hx4
    go_wp2_with fail
    refine (HC.out _).mono ?_
    rintro e w6 ⟨v6, rfl, hF6⟩
    obtain ⟨a6, c6, rfl, _, _, hI6⟩ := own_ints hF6.own
    have hFA := hid (fun o => hF6.behind (by_none_alloc w6 o))
    clear hF6 hI6
    go_wp2_with (at_builtin; (first
      | (refine wp_app_ints rfl _ _ rfl elemU8 rfl (hFA.out _).own rfl (l := [2 * F + 1, (k : Int)]) rfl (ints_lit .u8 w6 [2 * F + 1, (k : Int)] _) HY.out (by rw [H4.out]; decide) (by rw [H4.out]; decide) ?_; intro a7 c7 w7 hl7 hc7 hI7 hg7; have hF7 := (hFA.out _).step hg7)
      | (refine wp_app_ints rfl _ _ rfl elemU8 rfl hF7.own rfl HKB.out.symm (HI5.out.below hF7.bel) HZ.out (by have := HX.out; omega) (by have := HX.out; omega) ?_; intro a8 c8 w8 hl8 hc8 hI8 hg8; have hF8 := hF7.step hg8)
      | fail))
    go_ret
    rw [HO.out]
    exact ⟨a8, c8, rfl, Fresh.made (below_by_none (below_on HB.out HF2.out)) hF8⟩
end Go.Proofs.YtdjlbejhphbcoaaGreat
namespace Go.Proofs.YtdjlbejhphbcoaaGreat
open Go.RowKit
set_option linter.unusedVariables false

theorem same12_iff (a b : Act12) : same12 a b = true ↔ a = b := by
  obtain ⟨T, A, B, o, d⟩ := a
  obtain ⟨T', A', B', o', d'⟩ := b
  have e : sameO o o' = same9 o o' := rfl
  simp only [same12, Bool.and_eq_true, beq_iff_eq, Act12.mk.injEq, e, same9_iff, and_assoc]
/-- may it be? as the program asks -/
def right12 (g : Ent12) : Bool := rowB g.T && bare12 g && wrong12 g.act == 0 && (putW (rowP g.T) (nums12 g.act (rowP g.T))).isSome && decide (size12 g.act ≤ 65528)
theorem right12_iff (g : Ent12) : right12 g = true ↔ rowB g.T = true ∧ bare12 g = true ∧ wrong12 g.act = 0 ∧ (putW (rowP g.T) (nums12 g.act (rowP g.T))).isSome = true ∧ size12 g.act ≤ 65528 := by
  unfold right12
  simp [and_assoc]
theorem size8_none : size8 0 0 false 0 [] [] = 0 := by decide
theorem up_ok {n : Nat} (h : n ≤ 60000) : up12 n ≤ 65528 := by unfold up12; omega
/-- what the document asks of an action whose type has a row -/
def cond12 (a : Act12) (w : List Int) : Prop := a.o = noOx ∧ asked12 a.T a.A = 0 ∧ (countL w < 2 → a.B = 0) ∧ (countL w < 1 → a.A = 0) ∧ (a.T ≠ 65535 → a.d = []) ∧ a.d.length % 8 = 0 ∧ a.d.length ≤ 65520
theorem right_row {a : Act12} {w : List Int} (h : row12 a.T = some w) (h25 : a.T ≠ 25) : (act12 a).isSome = true ↔ cond12 a w ∧ (putW w (nums12 a w)).isSome = true := by
  unfold act12 body12
  rw [if_neg h25, h, Option.isSome_map]
  simp only
  unfold cond12
  by_cases hc : a.o = noOx ∧ asked12 a.T a.A = 0 ∧ (countL w < 2 → a.B = 0) ∧ (countL w < 1 → a.A = 0) ∧ (a.T ≠ 65535 → a.d = []) ∧ a.d.length % 8 = 0 ∧ a.d.length ≤ 65520
  · rw [if_pos hc, Option.isSome_map]
    exact ⟨fun h => ⟨hc, h⟩, fun h => h.2⟩
  · rw [if_neg hc]
    exact ⟨fun h => by simp at h, fun h => absurd h.1 hc⟩
theorem right_set {a : Act12} (h25 : a.T = 25) : (act12 a).isSome = true ↔ a.A = 0 ∧ a.B = 0 ∧ a.d = [] ∧ setOk12 a.o = true := by
  unfold act12 body12
  rw [if_pos h25, Option.isSome_map]
  by_cases hc : a.A = 0 ∧ a.B = 0 ∧ a.d = [] ∧ setOk12 a.o = true
  · rw [if_pos hc]
    exact ⟨fun _ => hc, fun _ => rfl⟩
  · rw [if_neg hc]
    exact ⟨fun h => by simp at h, fun h => absurd h hc⟩
theorem wset_ok (o : Ox9) : wset12 o = 0 ↔ setOk12 o = true := by
  unfold wset12 setOk12
  simp only [Bool.and_eq_true, decide_eq_true_eq, Bool.not_eq_true']
  by_cases h1 : o.C = 32768 ∧ 2 < o.F ∧ o.F < 39
  · rw [if_pos h1]
    by_cases h2 : o.H = false ∧ right10 o = true
    · rw [if_pos h2]
      exact ⟨fun _ => ⟨⟨⟨h1.1, h2.1⟩, h1.2⟩, h2.2⟩, fun _ => rfl⟩
    · rw [if_neg h2]
      exact ⟨fun h => by simp at h, fun h => absurd ⟨h.1.1.2, h.2⟩ h2⟩
  · rw [if_neg h1]
    exact ⟨fun h => by simp at h, fun h => absurd ⟨h.1.1.1, h.1.2⟩ h1⟩
theorem bare_set {g : Ent12} (h : g.T = 25) : bare12 g = true ↔ g.A = 0 ∧ g.B = 0 ∧ g.d = [] := by
  unfold bare12
  rw [same12_iff]
  have e : strip12 g = ⟨g.T, g.A, g.B, noOx, none, 0, none, 0, g.d, g.da, g.dc⟩ := by unfold strip12; rw [if_pos h]
  rw [e]
  constructor
  · intro k; injection k with k1 k2 k3 k4 k5; exact ⟨k2, k3, k5⟩
  · rintro ⟨k1, k2, k3⟩; simp only [Ent12.act, none12, k1, k2, k3]
theorem bare_exp {g : Ent12} (h : g.T = 65535) : bare12 g = true ↔ g.B = 0 ∧ g.o = noOx := by
  unfold bare12
  rw [same12_iff]
  have e : strip12 g = ⟨g.T, 0, g.B, g.o, g.va, g.vc, g.ma, g.mc, [], none, 0⟩ := by unfold strip12; rw [if_neg (by omega), if_pos h]
  rw [e]
  constructor
  · intro k; injection k with k1 k2 k3 k4 k5; exact ⟨k3, k4⟩
  · rintro ⟨k1, k2⟩; simp only [Ent12.act, none12, k1, k2]
theorem bare_out {g : Ent12} (h : g.T = 0) : bare12 g = true ↔ g.o = noOx ∧ g.d = [] := by
  unfold bare12
  rw [same12_iff]
  have e : strip12 g = ⟨g.T, 0, 0, g.o, g.va, g.vc, g.ma, g.mc, g.d, g.da, g.dc⟩ := by unfold strip12; rw [if_neg (by omega), if_neg (by omega), if_pos h]
  rw [e]
  constructor
  · intro k; injection k with k1 k2 k3 k4 k5; exact ⟨k4, k5⟩
  · rintro ⟨k1, k2⟩; simp only [Ent12.act, none12, k1, k2]
theorem bare_num {g : Ent12} (h : g.T = 22 ∨ g.T = 21 ∨ g.T = 15 ∨ g.T = 23 ∨ g.T = 17 ∨ g.T = 19 ∨ g.T = 26 ∨ g.T = 20) : bare12 g = true ↔ g.B = 0 ∧ g.o = noOx ∧ g.d = [] := by
  unfold bare12
  rw [same12_iff]
  have e : strip12 g = ⟨g.T, 0, g.B, g.o, g.va, g.vc, g.ma, g.mc, g.d, g.da, g.dc⟩ := by unfold strip12; rw [if_neg (by omega), if_neg (by omega), if_neg (by omega), if_pos h]
  rw [e]
  constructor
  · intro k; injection k with k1 k2 k3 k4 k5; exact ⟨k3, k4, k5⟩
  · rintro ⟨k1, k2, k3⟩; simp only [Ent12.act, none12, k1, k2, k3]
theorem bare_no {g : Ent12} (h : g.T = 11 ∨ g.T = 12 ∨ g.T = 16 ∨ g.T = 18 ∨ g.T = 24 ∨ g.T = 27) : bare12 g = true ↔ g.A = 0 ∧ g.B = 0 ∧ g.o = noOx ∧ g.d = [] := by
  unfold bare12
  rw [same12_iff]
  have e : strip12 g = g := by unfold strip12; rw [if_neg (by omega), if_neg (by omega), if_neg (by omega), if_neg (by omega)]
  rw [e]
  constructor
  · intro k; injection k with k1 k2 k3 k4 k5; exact ⟨k2, k3, k4, k5⟩
  · rintro ⟨k1, k2, k3, k4⟩; simp only [Ent12.act, none12, k1, k2, k3, k4]
theorem size_noOx {g : Ent12} {w : List Int} (hw : row12 g.T = some w) (ho : g.o = noOx) : size12 g.act = up12 (4 + sizeL w + g.d.length) := by
  unfold size12
  have e2 : rowP g.act.T = w := by show rowP g.T = w; simp [rowP, hw]
  have e3 : size8 g.act.o.C g.act.o.F g.act.o.H g.act.o.X g.act.o.v g.act.o.m = 0 := by
    show size8 g.o.C g.o.F g.o.H g.o.X g.o.v g.o.m = 0
    rw [ho]
    exact size8_none
  rw [e2, e3]
  rfl
theorem wrong_row {g : Ent12} (h25 : g.T ≠ 25) (hx : g.T ≠ 65535) : wrong12 g.act = asked12 g.T g.A := by
  unfold wrong12
  rw [if_neg (show ¬ g.act.T = 25 from h25), if_neg (show ¬ g.act.T = 65535 from hx)]
  rfl
theorem right_by_row (g : Ent12) (w : List Int) (hw : row12 g.T = some w) (h25 : g.T ≠ 25) (hk : (bare12 g = true ∧ wrong12 g.act = 0 ∧ size12 g.act ≤ 65528) ↔ cond12 g.act w) : right12 g = true ↔ (act12 g.act).isSome = true := by
  rw [right_row (a := g.act) hw h25, right12_iff, ← hk]
  have e1 : rowB g.T = true := by simp [rowB, hw]
  have e2 : rowP g.T = w := by simp [rowP, hw]
  rw [e1, e2]
  exact ⟨fun ⟨_, h1, h2, h3, h4⟩ => ⟨⟨h1, h2, h4⟩, h3⟩, fun ⟨⟨h1, h2, h4⟩, h3⟩ => ⟨rfl, h1, h2, h3, h4⟩⟩
theorem right_act (g : Ent12) (hd : g.d.length ≤ 100000) : right12 g = (act12 g.act).isSome := by
  rw [Bool.eq_iff_iff]
  by_cases h25 : g.T = 25
  · rw [right12_iff, right_set h25, bare_set h25]
    have e1 : rowB g.T = true := by rw [h25]; decide
    have e2 : rowP g.T = [] := by rw [h25]; decide
    have e3 : putW [] (nums12 g.act []) = some [] := by simp [nums12, countL, putW, rightW, allW, putL]
    have e4 : wrong12 g.act = wset12 g.o := by unfold wrong12; rw [if_pos (show g.act.T = 25 from h25)]; rfl
    rw [e1, e2, e3, e4, wset_ok]
    constructor
    · rintro ⟨_, ⟨h1, h2, h3⟩, h4, _, _⟩
      exact ⟨h1, h2, h3, h4⟩
    · rintro ⟨h1, h2, h3, h4⟩
      refine ⟨rfl, ⟨h1, h2, h3⟩, h4, rfl, ?_⟩
      unfold size12
      have s0 := size8_le g.o.C g.o.F g.o.H g.o.X g.o.v g.o.m
      have e5 : rowP g.act.T = [] := e2
      have e6 : g.act.d = [] := h3
      rw [e5, e6]
      refine up_ok ?_
      show 4 + sizeL [] + size8 g.o.C g.o.F g.o.H g.o.X g.o.v g.o.m + 0 ≤ 60000
      simp [sizeL]
      omega
  · cases hr : row12 g.T with
    | none =>
      have e1 : rowB g.T = false := by simp [rowB, hr, h25]
      have e2 : act12 g.act = none := by
        unfold act12 body12
        rw [if_neg (show ¬ g.act.T = 25 from h25), show row12 g.act.T = none from hr]
        rfl
      rw [right12_iff, e1, e2]
      exact ⟨fun h => by simp at h, fun h => by simp at h⟩
    | some w =>
      refine right_by_row g w hr h25 ?_
      have hsz := fun ho => size_noOx hr ho
      unfold cond12
      by_cases hx : g.T = 65535
      · have hw : w = [4] := by rw [hx] at hr; exact (Option.some.inj hr).symm
        subst hw
        rw [bare_exp hx]
        have e4 : wrong12 g.act = if g.d.length % 8 = 0 then 0 else 514 := by unfold wrong12; rw [if_neg (show ¬ g.act.T = 25 from h25), if_pos (show g.act.T = 65535 from hx)]; rfl
        have e5 : asked12 g.act.T g.act.A = 0 := by show asked12 g.T g.A = 0; rw [hx]; simp [asked12]
        rw [e4, e5]
        constructor
        · rintro ⟨⟨h1, h2⟩, h3, h4⟩
          have h5 : g.d.length % 8 = 0 := by
            by_cases hh : g.d.length % 8 = 0
            · exact hh
            · rw [if_neg hh] at h3; simp at h3
          rw [hsz h2] at h4
          have : g.d.length ≤ 65520 := by unfold up12 at h4; simp [sizeL] at h4; omega
          exact ⟨h2, rfl, fun _ => h1, fun h => absurd h (by decide), fun h => absurd hx h, h5, this⟩
        · rintro ⟨h2, _, h1, _, _, h5, h6⟩
          refine ⟨⟨h1 (by decide), h2⟩, by rw [if_pos (show g.d.length % 8 = 0 from h5)], ?_⟩
          have h6' : g.d.length ≤ 65520 := h6
          have h5' : g.d.length % 8 = 0 := h5
          rw [hsz h2]
          unfold up12
          simp [sizeL]
          omega
      · rw [wrong_row h25 hx]
        have hsmall : g.o = noOx → g.d = [] → size12 g.act ≤ 65528 := by
          intro ho hd0
          rw [hsz ho, hd0]
          have := (row_facts hr).size
          exact up_ok (by simp; omega)
        have fin : ∀ (P : Prop), (P ↔ g.o = noOx ∧ (countL w < 2 → g.B = 0) ∧ (countL w < 1 → g.A = 0) ∧ g.d = []) → ((P ∧ asked12 g.T g.A = 0 ∧ size12 g.act ≤ 65528) ↔ g.act.o = noOx ∧ asked12 g.act.T g.act.A = 0 ∧ (countL w < 2 → g.act.B = 0) ∧ (countL w < 1 → g.act.A = 0) ∧ (g.act.T ≠ 65535 → g.act.d = []) ∧ g.act.d.length % 8 = 0 ∧ g.act.d.length ≤ 65520) := by
          intro P hP
          rw [hP]
          constructor
          · rintro ⟨⟨h1, h2, h3, h4⟩, h5, _⟩
            have h4' : g.act.d = [] := h4
            exact ⟨h1, h5, h2, h3, fun _ => h4, by rw [h4']; rfl, by rw [h4']; simp⟩
          · rintro ⟨h1, h5, h2, h3, h4, _, _⟩
            exact ⟨⟨h1, h2, h3, h4 hx⟩, h5, hsmall h1 (h4 hx)⟩
        refine fin _ ?_
        rcases row_ways hr with ⟨k, rfl⟩ | ⟨k, rfl⟩ | ⟨k, rfl⟩ | ⟨k, rfl⟩ | ⟨k, rfl⟩
        · rw [bare_out k]
          exact ⟨fun ⟨h1, h2⟩ => ⟨h1, fun h => absurd h (by decide), fun h => absurd h (by decide), h2⟩, fun ⟨h1, _, _, h2⟩ => ⟨h1, h2⟩⟩
        · rw [bare_num (by omega)]
          exact ⟨fun ⟨h0, h1, h2⟩ => ⟨h1, fun _ => h0, fun h => absurd h (by decide), h2⟩, fun ⟨h1, h0, _, h2⟩ => ⟨h0 (by decide), h1, h2⟩⟩
        · rw [bare_num (by omega)]
          exact ⟨fun ⟨h0, h1, h2⟩ => ⟨h1, fun _ => h0, fun h => absurd h (by decide), h2⟩, fun ⟨h1, h0, _, h2⟩ => ⟨h0 (by decide), h1, h2⟩⟩
        · rw [bare_no k]
          exact ⟨fun ⟨hA, h0, h1, h2⟩ => ⟨h1, fun _ => h0, fun _ => hA, h2⟩, fun ⟨h1, h0, hA, h2⟩ => ⟨hA (by decide), h0 (by decide), h1, h2⟩⟩
        · rw [bare_num (by omega)]
          exact ⟨fun ⟨h0, h1, h2⟩ => ⟨h1, fun _ => h0, fun h => absurd h (by decide), h2⟩, fun ⟨h1, h0, _, h2⟩ => ⟨h0 (by decide), h1, h2⟩⟩
end Go.Proofs.YtdjlbejhphbcoaaGreat
namespace Go.Proofs.YtdjlbejhphbcoaaGreat
open Go.RowKit
set_option linter.unusedVariables false

theorem right_ways (g : Ent12) : ∃ r, right12 g = r ∧ ((rowB g.T = false ∧ r = false) ∨ (rowB g.T = true ∧ bare12 g = false ∧ r = false) ∨ (rowB g.T = true ∧ bare12 g = true ∧ wrong12 g.act ≠ 0 ∧ r = false) ∨ (rowB g.T = true ∧ bare12 g = true ∧ wrong12 g.act = 0 ∧ putW (rowP g.T) (nums12 g.act (rowP g.T)) = none ∧ r = false) ∨ (∃ bs, rowB g.T = true ∧ bare12 g = true ∧ wrong12 g.act = 0 ∧ putW (rowP g.T) (nums12 g.act (rowP g.T)) = some bs ∧ r = decide (size12 g.act ≤ 65528))) := by
  refine ⟨_, rfl, ?_⟩
  unfold right12
  cases h1 : rowB g.T
  · exact .inl ⟨rfl, by simp⟩
  · cases h2 : bare12 g
    · exact .inr (.inl ⟨rfl, rfl, by simp⟩)
    · by_cases h3 : wrong12 g.act = 0
      · cases h4 : putW (rowP g.T) (nums12 g.act (rowP g.T)) with
        | none => exact .inr (.inr (.inr (.inl ⟨rfl, rfl, h3, rfl, by simp⟩)))
        | some bs => exact .inr (.inr (.inr (.inr ⟨bs, rfl, rfl, h3, rfl, by simp [h3]⟩)))
      · exact .inr (.inr (.inl ⟨rfl, rfl, h3, by simp [h3]⟩))

set_option maxRecDepth 100000 in
set_option maxHeartbeats 2000000 in
theorem actRight_any (g : Ent12) (w : World) (hi : ActIn w g) :
    Calls Tryz.prog 13 #[g.val] w fun e w' => e = .returned (.bool (right12 g)) ∧ Below w.heap.size w w' := by
  obtain ⟨W, hW, hbW, hx⟩ := act_box w g.T g.A g.B g.o.C g.o.F g.o.H g.o.X g.va g.o.v.length g.vc g.ma g.o.m.length g.mc g.da g.d.length g.dc
  have HW := hid hW
  have HB := hid hbW
  obtain ⟨k1, k2, k3, k4, k5, k6⟩ := count_le12 g.T
  have RO := hid (rowOf_any g.T W)
  have BA := hid (fun (V : World) (hV : Below w.heap.size w V) => isBare_any g V (hi.below hV))
  have WR := hid (fun (V : World) (hV : Below w.heap.size w V) => wrong_any g V (hi.below hV))
  have SZ := hid (fun (V : World) (hV : Below w.heap.size w V) => actSize_any g V (hi.below hV))
  have NU := hid (fun (V : World) (a : Option Addr) (c : Nat) (ia : Ints .i64 V a (rowP g.T)) => numbers_at g.T g.A g.B g.o.C g.o.F g.o.H g.o.X g.va g.o.v.length g.vc g.ma g.o.m.length g.mc g.da g.d.length g.dc (rowP g.T) a c (countL (rowP g.T)) k2 k1 (by omega) V ia)
  have HU : Hid (U64s (nums12 g.act (rowP g.T))) := nums_u64 hi.num _
  have NL : Hid ((nums12 g.act (rowP g.T)).length = countL (rowP g.T)) := nums_len k1
  obtain ⟨r, hr, hq⟩ := right_ways g
  rw [hr]
  clear hr hi hW hbW k2 k3 k4 k6
  obtain ⟨nl, hnl⟩ : ∃ nl, nums12 g.act (rowP g.T) = nl := ⟨_, rfl⟩
  have HN : Hid ([g.A, g.B].take (countL (rowP g.T)) = nl) := hnl
  rw [hnl] at HU NL hq
  clear hnl
  obtain ⟨sz, hsz⟩ : ∃ sz, size12 g.act = sz := ⟨_, rfl⟩
  obtain ⟨wr, hwr⟩ : ∃ wr, wrong12 g.act = wr := ⟨_, rfl⟩
  obtain ⟨ba, hba⟩ : ∃ ba, bare12 g = ba := ⟨_, rfl⟩
  rw [hsz] at SZ hq
  rw [hwr] at WR hq
  rw [hba] at BA hq
  clear hsz hwr hba
  obtain ⟨T, A, B, ⟨C, F, H, X, v, m⟩, va, vc, ma, mc, d, da, dc⟩ := g
  simp only at *
  obtain ⟨l, hl⟩ : ∃ l, rowP T = l := ⟨_, rfl⟩
  obtain ⟨rb, hrb⟩ : ∃ b, rowB T = b := ⟨_, rfl⟩
  rw [hl] at RO NU NL HN k1 k5 hq
  rw [hrb] at RO hq
  obtain ⟨cl, hcl⟩ : ∃ c, countL l = c := ⟨_, rfl⟩
  rw [hcl] at NU NL HN k1
  clear hl hrb hcl
  unfold Ent12.val at *
  simp only at *
  obtain ⟨d0, d1, d2, d3, d4, d5, d6, d7, d8, d9⟩ := hx.ten
  rcases hq with ⟨rfl, rfl⟩ | ⟨rfl, rfl, rfl⟩ | ⟨rfl, rfl, hw0, rfl⟩ | ⟨rfl, rfl, rfl, hp, rfl⟩ | ⟨bs, rfl, rfl, rfl, hp, rfl⟩

  · go_enter Tryz.func13, Tryz.ntmps13
    go_wp2_with fail
    rw [HW.out]
    go_wp2_with fail
    refine RO.out.mono ?_
    rintro e w1 ⟨a, rfl, hI1, hb1⟩
    have HA1 := hid (below_on HB.out hb1)
    have I1 := hid hI1
    have HC1 := hid hb1
    clear hb1 hI1 d0 d1 d2 d3 d4 d5 d6 d7 d8 d9
    obtain ⟨d0, d1, d2, d3, d4, d5, d6, d7, d8, d9⟩ := (hx.below HC1.out).ten
    go_wp2_with fail
    go_ret
    exact ⟨rfl, HA1.out⟩
  · go_enter Tryz.func13, Tryz.ntmps13
    go_wp2_with fail
    rw [HW.out]
    go_wp2_with fail
    refine RO.out.mono ?_
    rintro e w1 ⟨a, rfl, hI1, hb1⟩
    have HA1 := hid (below_on HB.out hb1)
    have I1 := hid hI1
    have HC1 := hid hb1
    clear hb1 hI1 d0 d1 d2 d3 d4 d5 d6 d7 d8 d9
    obtain ⟨d0, d1, d2, d3, d4, d5, d6, d7, d8, d9⟩ := (hx.below HC1.out).ten
    go_wp2_with fail
    refine (BA.out _ HA1.out).mono ?_
    rintro e w2 ⟨rfl, hb2⟩
    have HA2 := hid (below_on HA1.out hb2)
    have HC2 := hid (below_on HC1.out hb2)
    clear hb2 d0 d1 d2 d3 d4 d5 d6 d7 d8 d9
    obtain ⟨d0, d1, d2, d3, d4, d5, d6, d7, d8, d9⟩ := (hx.below HC2.out).ten
    go_wp2_with fail
    go_ret
    exact ⟨rfl, HA2.out⟩
  · have hw1 : (wr != 0) = true := by simpa using hw0
    clear hw0
    go_enter Tryz.func13, Tryz.ntmps13
    go_wp2_with fail
    rw [HW.out]
    go_wp2_with fail
    refine RO.out.mono ?_
    rintro e w1 ⟨a, rfl, hI1, hb1⟩
    have HA1 := hid (below_on HB.out hb1)
    have I1 := hid hI1
    have HC1 := hid hb1
    clear hb1 hI1 d0 d1 d2 d3 d4 d5 d6 d7 d8 d9
    obtain ⟨d0, d1, d2, d3, d4, d5, d6, d7, d8, d9⟩ := (hx.below HC1.out).ten
    go_wp2_with fail
    refine (BA.out _ HA1.out).mono ?_
    rintro e w2 ⟨rfl, hb2⟩
    have HA2 := hid (below_on HA1.out hb2)
    have HC2 := hid (below_on HC1.out hb2)
    clear hb2 d0 d1 d2 d3 d4 d5 d6 d7 d8 d9
    obtain ⟨d0, d1, d2, d3, d4, d5, d6, d7, d8, d9⟩ := (hx.below HC2.out).ten
    go_wp2_with fail
    refine (WR.out _ HA2.out).mono ?_
    rintro e w3 ⟨rfl, hb3⟩
    have HA3 := hid (below_on HA2.out hb3)
    have HC3 := hid (below_on HC2.out hb3)
    clear hb3 d0 d1 d2 d3 d4 d5 d6 d7 d8 d9
    obtain ⟨d0, d1, d2, d3, d4, d5, d6, d7, d8, d9⟩ := (hx.below HC3.out).ten
    go_wp2_with fail
    go_ret
    exact ⟨rfl, HA3.out⟩
  · have HP := hid hp
    clear hp
    go_enter Tryz.func13, Tryz.ntmps13
    go_wp2_with fail
    rw [HW.out]
    go_wp2_with fail
    refine RO.out.mono ?_
    rintro e w1 ⟨a, rfl, hI1, hb1⟩
    have HA1 := hid (below_on HB.out hb1)
    have I1 := hid hI1
    have HC1 := hid hb1
    clear hb1 hI1 d0 d1 d2 d3 d4 d5 d6 d7 d8 d9
    obtain ⟨d0, d1, d2, d3, d4, d5, d6, d7, d8, d9⟩ := (hx.below HC1.out).ten
    go_wp2_with fail
    refine (BA.out _ HA1.out).mono ?_
    rintro e w2 ⟨rfl, hb2⟩
    have HA2 := hid (below_on HA1.out hb2)
    have HE2 := hid hb2
    have HC2 := hid (below_on HC1.out hb2)
    clear hb2 d0 d1 d2 d3 d4 d5 d6 d7 d8 d9
    obtain ⟨d0, d1, d2, d3, d4, d5, d6, d7, d8, d9⟩ := (hx.below HC2.out).ten
    go_wp2_with fail
    refine (WR.out _ HA2.out).mono ?_
    rintro e w3 ⟨rfl, hb3⟩
    have HA3 := hid (below_on HA2.out hb3)
    have HE3 := hid hb3
    have HC3 := hid (below_on HC2.out hb3)
    clear hb3 d0 d1 d2 d3 d4 d5 d6 d7 d8 d9
    obtain ⟨d0, d1, d2, d3, d4, d5, d6, d7, d8, d9⟩ := (hx.below HC3.out).ten
    go_wp2_with fail
    refine (NU.out _ a _ (I1.out.below (below_on HE2.out HE3.out))).mono ?_
    rintro e w4 ⟨b, rfl, hI4, hb4⟩
    rw [HN.out] at hI4
    have HA4 := hid (below_on HA3.out hb4)
    have HE4 := hid hb4
    have HC4 := hid (below_on HC3.out hb4)
    have I4 := hid hI4
    clear hb4 hI4 d0 d1 d2 d3 d4 d5 d6 d7 d8 d9
    obtain ⟨d0, d1, d2, d3, d4, d5, d6, d7, d8, d9⟩ := (hx.below HC4.out).ten
    have hnl := NL.out
    have PU := put_no l nl HP.out a b l.length 2 w4 (by omega) (by omega) HU.out (I1.out.below (below_on (below_on HE2.out HE3.out) HE4.out)) I4.out
    rw [hnl] at PU
    have PU := hid PU
    clear hnl
    go_wp2_with fail
    refine PU.out.mono ?_
    rintro e w5 ⟨rfl, hb5⟩
    have HA5 := hid (below_on HA4.out hb5)
    clear hb5
    go_wp2_with fail
    go_ret
    exact ⟨rfl, HA5.out⟩
  · have HP := hid hp
    clear hp
    go_enter Tryz.func13, Tryz.ntmps13
    go_wp2_with fail
    rw [HW.out]
    go_wp2_with fail
    refine RO.out.mono ?_
    rintro e w1 ⟨a, rfl, hI1, hb1⟩
    have HA1 := hid (below_on HB.out hb1)
    have I1 := hid hI1
    have HC1 := hid hb1
    clear hb1 hI1 d0 d1 d2 d3 d4 d5 d6 d7 d8 d9
    obtain ⟨d0, d1, d2, d3, d4, d5, d6, d7, d8, d9⟩ := (hx.below HC1.out).ten
    go_wp2_with fail
    refine (BA.out _ HA1.out).mono ?_
    rintro e w2 ⟨rfl, hb2⟩
    have HA2 := hid (below_on HA1.out hb2)
    have HE2 := hid hb2
    have HC2 := hid (below_on HC1.out hb2)
    clear hb2 d0 d1 d2 d3 d4 d5 d6 d7 d8 d9
    obtain ⟨d0, d1, d2, d3, d4, d5, d6, d7, d8, d9⟩ := (hx.below HC2.out).ten
    go_wp2_with fail
    refine (WR.out _ HA2.out).mono ?_
    rintro e w3 ⟨rfl, hb3⟩
    have HA3 := hid (below_on HA2.out hb3)
    have HE3 := hid hb3
    have HC3 := hid (below_on HC2.out hb3)
    clear hb3 d0 d1 d2 d3 d4 d5 d6 d7 d8 d9
    obtain ⟨d0, d1, d2, d3, d4, d5, d6, d7, d8, d9⟩ := (hx.below HC3.out).ten
    go_wp2_with fail
    refine (NU.out _ a _ (I1.out.below (below_on HE2.out HE3.out))).mono ?_
    rintro e w4 ⟨b, rfl, hI4, hb4⟩
    rw [HN.out] at hI4
    have HA4 := hid (below_on HA3.out hb4)
    have HE4 := hid hb4
    have HC4 := hid (below_on HC3.out hb4)
    have I4 := hid hI4
    clear hb4 hI4 d0 d1 d2 d3 d4 d5 d6 d7 d8 d9
    obtain ⟨d0, d1, d2, d3, d4, d5, d6, d7, d8, d9⟩ := (hx.below HC4.out).ten
    have hnl := NL.out
    have PU := put_yes l nl bs HP.out a b l.length 2 w4 (by omega) (by omega) HU.out (I1.out.below (below_on (below_on HE2.out HE3.out) HE4.out)) I4.out
    rw [hnl] at PU
    have PU := hid PU
    clear hnl
    go_wp2_with fail
    refine PU.out.mono ?_
    rintro e w5 ⟨ad, cp, rfl, hb5, _, _⟩
    have HA5 := hid (below_on HA4.out hb5)
    have HC5 := hid (below_on HC4.out hb5)
    clear hb5 d0 d1 d2 d3 d4 d5 d6 d7 d8 d9
    obtain ⟨d0, d1, d2, d3, d4, d5, d6, d7, d8, d9⟩ := (hx.below HC5.out).ten
    go_wp2_with fail
    refine (SZ.out _ HA5.out).mono ?_
    rintro e w6 ⟨rfl, hb6⟩
    have HA6 := hid (below_on HA5.out hb6)
    clear hb6
    go_wp2_with fail
    go_ret
    exact ⟨ret_bool (by simp; try omega), HA6.out⟩

/-- how many bytes it has; 0: it may not be -/
def sizeS12 (g : Ent12) : Nat := if right12 g then size12 g.act else 0
set_option maxRecDepth 100000 in
set_option maxHeartbeats 2000000 in
theorem actSizeS_any (g : Ent12) (w : World) (hi : ActIn w g) :
    Calls Tryz.prog 14 #[g.val] w fun e w' => e = .returned (.int .i64 (sizeS12 g)) ∧ Below w.heap.size w w' := by
  obtain ⟨W, hW, hbW, hx⟩ := act_box w g.T g.A g.B g.o.C g.o.F g.o.H g.o.X g.va g.o.v.length g.vc g.ma g.o.m.length g.mc g.da g.d.length g.dc
  have HW := hid hW
  have HB := hid hbW
  have RI := hid (fun (V : World) (hV : Below w.heap.size w V) => actRight_any g V (hi.below hV))
  have SZ := hid (fun (V : World) (hV : Below w.heap.size w V) => actSize_any g V (hi.below hV))
  unfold sizeS12
  obtain ⟨r, hr⟩ : ∃ r, right12 g = r := ⟨_, rfl⟩
  obtain ⟨sz, hsz⟩ : ∃ sz, size12 g.act = sz := ⟨_, rfl⟩
  rw [hr] at RI ⊢
  rw [hsz] at SZ ⊢
  clear hr hsz hi hW hbW
  obtain ⟨T, A, B, ⟨C, F, H, X, v, m⟩, va, vc, ma, mc, d, da, dc⟩ := g
  unfold Ent12.val at *
  simp only at *
  obtain ⟨d0, d1, d2, d3, d4, d5, d6, d7, d8, d9⟩ := hx.ten
  cases r
  · go_enter Tryz.func14, Tryz.ntmps14
    go_wp2_with fail
    rw [HW.out]
    go_wp2_with fail
    refine (RI.out _ HB.out).mono ?_
    rintro e w1 ⟨rfl, hb⟩
    go_wp2_with fail
    go_ret
    exact ⟨rfl, below_on HB.out hb⟩
  · go_enter Tryz.func14, Tryz.ntmps14
    go_wp2_with fail
    rw [HW.out]
    go_wp2_with fail
    refine (RI.out _ HB.out).mono ?_
    rintro e w1 ⟨rfl, hb⟩
    clear d0 d1 d2 d3 d4 d5 d6 d7 d8 d9
    obtain ⟨d0, d1, d2, d3, d4, d5, d6, d7, d8, d9⟩ := (hx.below hb).ten
    have HB1 := hid (below_on HB.out hb)
    clear hb
    go_wp2_with fail
    refine (SZ.out _ HB1.out).mono ?_
    rintro e w2 ⟨rfl, hb⟩
    go_wp2_with fail
    go_ret
    exact ⟨rfl, below_on HB1.out hb⟩
end Go.Proofs.YtdjlbejhphbcoaaGreat
namespace Go.Proofs.YtdjlbejhphbcoaaGreat
open Go.RowKit
set_option linter.unusedVariables false

/-- what encoding comes to -/
def EncPost12 (g : Ent12) (w : World) (e : Ending) (w' : World) : Prop :=
  (act12 g.act = none ∧ e = .returned (.tuple #[.slice none 0 0, .int .i64 10001]) ∧ Below w.heap.size w w') ∨
  (∃ x p, act12 g.act = some x ∧ e = .returned (.tuple #[.slice (some ⟨p, 0, none⟩) x.length x.length, .int .i64 0]) ∧ Below w.heap.size w w' ∧ Ints .u8 w' (some ⟨p, 0, none⟩) x ∧ w.heap.size ≤ p)
def head12 (t : Int) (n : Nat) : List Int := bytesL t 2 ++ (bytesL (n : Int) 2 ++ [])
theorem head12_length (t : Int) (n : Nat) : (head12 t n).length = 4 := by simp [head12, bytesL_length]
theorem putW_head12 {t : Int} {n : Nat} (h0 : 0 ≤ t) (h1 : t < 65536) (hn : n ≤ 65528) : putW [2, 2] [t, (n : Int)] = some (head12 t n) := by
  have r1 : rightW [2, 2] = true := by decide
  have r2 : countL [2, 2] = 2 := by decide
  have p2 : roomB t 2 = true := by simp [roomB, p256]; omega
  have p1 : roomB (n : Int) 2 = true := by simp [roomB, p256]; omega
  simp [putW, r1, r2, putL, p2, p1, head12]
theorem size_act {g : Ent12} {x : List Int} (h : act12 g.act = some x) : size12 g.act = x.length := by
  obtain ⟨b, hb, hw, hx, hl, h8, h9, h10, h11, h12⟩ := act_write h
  by_cases hT : g.T = 25
  · obtain ⟨_, _, hd, hs, rfl⟩ := body_25 hb hT
    have hr : rightB g.o.C g.o.F g.o.H g.o.X g.o.v g.o.m = true := by
      unfold setOk12 at hs
      simp only [Bool.and_eq_true] at hs
      exact hs.2
    have e1 : size8 g.o.C g.o.F g.o.H g.o.X g.o.v g.o.m = (bytes10 g.o).length := by
      unfold size8
      rw [if_pos hr]
      exact (oxmBytes_length _ _ _ _ _ _).symm
    unfold size12
    have e2 : rowP g.act.T = [] := by rw [show g.act.T = 25 from hT]; decide
    have e3 : g.act.d = [] := hd
    rw [e2, e3]
    show up12 (4 + sizeL [] + size8 g.o.C g.o.F g.o.H g.o.X g.o.v g.o.m + 0) = _
    rw [e1, hl]
    have ho : g.act.o = g.o := rfl
    rw [ho, List.length_append, List.length_replicate]
    have := pad_fits (bytes10 g.o).length
    unfold up12
    simp [sizeL]
    omega
  · obtain ⟨w, p, hr, h1, h2, h3, h4, h5, h6, h7, hp, hc, rfl⟩ := body_row hb hT
    have hl2 : x.length = 4 + (sizeL w + g.d.length) := by rw [hl, List.length_append, (putL_octets hp).2]; rfl
    rw [size_noOx hr h1]
    unfold up12
    omega
theorem row12_at {W V : World} {g mm r : Nat} {p : Option Nat} {l0 hd ws ns : List Int} {a b : Option Addr} {n k c d : Nat} (hP : putW ws ns = some hd) (hl : l0.length + hd.length ≤ r) (hU : U64s ns) (hw : ws.length ≤ 64) (en : n = ws.length) (ek : k = ns.length) (hd2 : k ≤ d) (O : BufOn W V g mm p r l0 [] 0) (ia : Ints .i64 V a ws) (ib : Ints .u64 V b ns) :
    Calls Tryz.prog 44 #[.pointer (some ⟨g, 0, none⟩), .slice a n c, .slice b k d] V fun e w' => e = .returned (.tuple #[]) ∧ ∃ p', BufOn W w' g mm p' r (l0 ++ hd) [] 0 := by
  refine (O.buf.row_ok ws ns hd hP a b n k c d en ek (by omega) hd2 hU ia ib hl).mono ?_
  rintro e w' ⟨rfl, p', hG⟩
  exact ⟨rfl, p', O.went hG⟩
theorem encode12_no (g : Ent12) (w : World) (hi : ActIn w g) (hn : act12 g.act = none) :
    Calls Tryz.prog 11 #[g.val] w (EncPost12 g w) := by
  obtain ⟨W, hW, hbW, hx⟩ := act_box w g.T g.A g.B g.o.C g.o.F g.o.H g.o.X g.va g.o.v.length g.vc g.ma g.o.m.length g.mc g.da g.d.length g.dc
  have HW := hid hW
  have HB := hid hbW
  have HN := hid hn
  have RI := hid (fun (V : World) (hV : Below w.heap.size w V) => actRight_any g V (hi.below hV))
  have hr : right12 g = false := by rw [right_act g hi.ld, hn]; rfl
  rw [hr] at RI
  clear hr hn hi hW hbW
  obtain ⟨T, A, B, ⟨C, F, H, X, v, m⟩, va, vc, ma, mc, d, da, dc⟩ := g
  unfold Ent12.val at *
  simp only at *
  obtain ⟨d0, d1, d2, d3, d4, d5, d6, d7, d8, d9⟩ := hx.ten
  go_enter Tryz.func11, Tryz.ntmps11
  go_wp2_with fail
  rw [HW.out]
  go_wp2_with fail
  refine (RI.out _ HB.out).mono ?_
  rintro e w1 ⟨rfl, hb⟩
  go_wp2_with fail
  go_ret2
  exact .inl ⟨HN.out, rfl, below_on HB.out hb⟩
end Go.Proofs.YtdjlbejhphbcoaaGreat
