/- Put together out of several texts. -/
import Derived.Test.YtdjlbejhphbcoaaGreatR16
import Derived.Test.YtdjlbejhphbcoaaGreatR3
import Derived.Deep.RegionHeld3
import Derived.Test.YtdjlbejhphbcoaaGreatR17
import Derived.WalkMore
import Derived.Test.YtdjlbejhphbcoaaGreatR18
import Derived.Test.YtdjlbejhphbcoaaGreatR30
namespace Go.Proofs.YtdjlbejhphbcoaaGreat
open Go.RowKit
set_option linter.unusedVariables false

set_option maxRecDepth 100000 in
set_option maxHeartbeats 2000000 in
theorem refRow12_any (t : Int) (w : World) : Calls Tryz.prog 59 #[.int .i64 t] w (RowPost12 (rowP t) (row12 t).isSome w) := by
  rcases type_ways t with rfl | rfl | rfl | rfl | rfl | rfl | rfl | rfl | rfl | rfl | rfl | rfl | rfl | rfl | rfl | rfl | rfl | h

  · exact row_lit (l := [4, 2, -6]) (by kernel_rfl)
  · exact row_lit (l := [-4]) (by kernel_rfl)
  · exact row_lit (l := [-4]) (by kernel_rfl)
  · exact row_lit (l := [1, -3]) (by kernel_rfl)
  · exact row_lit (l := [-4]) (by kernel_rfl)
  · exact row_lit (l := [2, -2]) (by kernel_rfl)
  · exact row_lit (l := [-4]) (by kernel_rfl)
  · exact row_lit (l := [2, -2]) (by kernel_rfl)
  · exact row_lit (l := [2, -2]) (by kernel_rfl)
  · exact row_lit (l := [4]) (by kernel_rfl)
  · exact row_lit (l := [4]) (by kernel_rfl)
  · exact row_lit (l := [1, -3]) (by kernel_rfl)
  · exact row_lit (l := [-4]) (by kernel_rfl)
  · have e1 : rowP 25 = [] := by decide
    have e2 : (row12 25).isSome = false := by decide
    rw [e1, e2]
    exact row_none (by kernel_rfl)
  · exact row_lit (l := [2, -2]) (by kernel_rfl)
  · exact row_lit (l := [-4]) (by kernel_rfl)
  · exact row_lit (l := [4]) (by kernel_rfl)
  · have e1 : rowP t = [] := by simp [rowP, row12, h]
    have e2 : (row12 t).isSome = false := by simp [row12, h]
    rw [e1, e2]
    have c0 : (t == 0) = false := by simp [h]
    have c1 : (t == 11) = false := by simp [h]
    have c2 : (t == 12) = false := by simp [h]
    have c3 : (t == 15) = false := by simp [h]
    have c4 : (t == 16) = false := by simp [h]
    have c5 : (t == 17) = false := by simp [h]
    have c6 : (t == 18) = false := by simp [h]
    have c7 : (t == 19) = false := by simp [h]
    have c8 : (t == 20) = false := by simp [h]
    have c9 : (t == 21) = false := by simp [h]
    have c10 : (t == 22) = false := by simp [h]
    have c11 : (t == 23) = false := by simp [h]
    have c12 : (t == 24) = false := by simp [h]
    have c13 : (t == 26) = false := by simp [h]
    have c14 : (t == 27) = false := by simp [h]
    have c15 : (t == 65535) = false := by simp [h]
    clear h e1 e2
    go_enter Tryz.func59, Tryz.ntmps59
    go_wp2_with fail
    go_ret2
    exact ⟨none, rfl, Ints.nil _ _ _, Below.refl _ _⟩

set_option maxRecDepth 100000 in
set_option maxHeartbeats 2000000 in
theorem asked_out_no (t n : Int) (w : World) (hT : t = 0) (hA : n = 0) :
    Calls Tryz.prog 62 #[.int .i64 t, .int .u64 n] w fun e w' => e = .returned (.int .i64 (asked12 t n)) ∧ w' = w := by
  have hq : asked12 t n = 517 := by simp [asked12, hT, hA]
  rw [hq]
  clear hq
  subst hT
  subst hA
  go_enter Tryz.func62, Tryz.ntmps62
  go_wp2_with fail
  go_ret
  exact ⟨rfl, rfl⟩

set_option maxRecDepth 100000 in
set_option maxHeartbeats 2000000 in
theorem asked_out_yes (t n : Int) (w : World) (hT : t = 0) (hA : n ≠ 0) :
    Calls Tryz.prog 62 #[.int .i64 t, .int .u64 n] w fun e w' => e = .returned (.int .i64 (asked12 t n)) ∧ w' = w := by
  have hq : asked12 t n = 0 := by simp [asked12, hT, hA]
  rw [hq]
  clear hq
  subst hT
  have c : (n == 0) = false := by simpa using hA
  clear hA
  go_enter Tryz.func62, Tryz.ntmps62
  go_wp2_with fail
  go_ret
  exact ⟨rfl, rfl⟩

set_option maxRecDepth 100000 in
set_option maxHeartbeats 2000000 in
theorem asked_grp_no (t n : Int) (w : World) (hT : t = 22) (hA : 4294967040 < n) :
    Calls Tryz.prog 62 #[.int .i64 t, .int .u64 n] w fun e w' => e = .returned (.int .i64 (asked12 t n)) ∧ w' = w := by
  have hq : asked12 t n = 522 := by simp [asked12, hT, hA]
  rw [hq]
  clear hq
  subst hT
  go_enter Tryz.func62, Tryz.ntmps62
  go_wp2_with fail
  go_ret
  exact ⟨rfl, rfl⟩

set_option maxRecDepth 100000 in
set_option maxHeartbeats 2000000 in
theorem asked_grp_yes (t n : Int) (w : World) (hT : t = 22) (hA : ¬ 4294967040 < n) :
    Calls Tryz.prog 62 #[.int .i64 t, .int .u64 n] w fun e w' => e = .returned (.int .i64 (asked12 t n)) ∧ w' = w := by
  have hq : asked12 t n = 0 := by simp [asked12, hT, hA]
  rw [hq]
  clear hq
  subst hT
  go_enter Tryz.func62, Tryz.ntmps62
  go_wp2_with fail
  go_ret
  exact ⟨rfl, rfl⟩

set_option maxRecDepth 100000 in
set_option maxHeartbeats 2000000 in
theorem asked_vlan_a (t n : Int) (w : World) (hT : t = 17) (hA : n = 33024) :
    Calls Tryz.prog 62 #[.int .i64 t, .int .u64 n] w fun e w' => e = .returned (.int .i64 (asked12 t n)) ∧ w' = w := by
  have hq : asked12 t n = 0 := by simp [asked12, hT, hA]
  rw [hq]
  clear hq
  subst hT
  subst hA
  go_enter Tryz.func62, Tryz.ntmps62
  go_wp2_with fail
  go_ret
  exact ⟨rfl, rfl⟩

set_option maxRecDepth 100000 in
set_option maxHeartbeats 2000000 in
theorem asked_vlan_b (t n : Int) (w : World) (hT : t = 17) (hA : n = 34984) :
    Calls Tryz.prog 62 #[.int .i64 t, .int .u64 n] w fun e w' => e = .returned (.int .i64 (asked12 t n)) ∧ w' = w := by
  have hq : asked12 t n = 0 := by simp [asked12, hT, hA]
  rw [hq]
  clear hq
  subst hT
  subst hA
  go_enter Tryz.func62, Tryz.ntmps62
  go_wp2_with fail
  go_ret
  exact ⟨rfl, rfl⟩

set_option maxRecDepth 100000 in
set_option maxHeartbeats 2000000 in
theorem asked_vlan_no (t n : Int) (w : World) (hT : t = 17) (hA : n ≠ 33024) (hA2 : n ≠ 34984) :
    Calls Tryz.prog 62 #[.int .i64 t, .int .u64 n] w fun e w' => e = .returned (.int .i64 (asked12 t n)) ∧ w' = w := by
  have hq : asked12 t n = 518 := by simp [asked12, hT, hA, hA2]
  rw [hq]
  clear hq
  subst hT
  have c : (n != 33024) = true := by simpa using hA
  have c2 : (n != 34984) = true := by simpa using hA2
  clear hA hA2
  go_enter Tryz.func62, Tryz.ntmps62
  go_wp2_with fail
  go_ret
  exact ⟨rfl, rfl⟩

set_option maxRecDepth 100000 in
set_option maxHeartbeats 2000000 in
theorem asked_mpls_a (t n : Int) (w : World) (hT : t = 19) (hA : n = 34887) :
    Calls Tryz.prog 62 #[.int .i64 t, .int .u64 n] w fun e w' => e = .returned (.int .i64 (asked12 t n)) ∧ w' = w := by
  have hq : asked12 t n = 0 := by simp [asked12, hT, hA]
  rw [hq]
  clear hq
  subst hT
  subst hA
  go_enter Tryz.func62, Tryz.ntmps62
  go_wp2_with fail
  go_ret
  exact ⟨rfl, rfl⟩

set_option maxRecDepth 100000 in
set_option maxHeartbeats 2000000 in
theorem asked_mpls_b (t n : Int) (w : World) (hT : t = 19) (hA : n = 34888) :
    Calls Tryz.prog 62 #[.int .i64 t, .int .u64 n] w fun e w' => e = .returned (.int .i64 (asked12 t n)) ∧ w' = w := by
  have hq : asked12 t n = 0 := by simp [asked12, hT, hA]
  rw [hq]
  clear hq
  subst hT
  subst hA
  go_enter Tryz.func62, Tryz.ntmps62
  go_wp2_with fail
  go_ret
  exact ⟨rfl, rfl⟩

set_option maxRecDepth 100000 in
set_option maxHeartbeats 2000000 in
theorem asked_mpls_no (t n : Int) (w : World) (hT : t = 19) (hA : n ≠ 34887) (hA2 : n ≠ 34888) :
    Calls Tryz.prog 62 #[.int .i64 t, .int .u64 n] w fun e w' => e = .returned (.int .i64 (asked12 t n)) ∧ w' = w := by
  have hq : asked12 t n = 518 := by simp [asked12, hT, hA, hA2]
  rw [hq]
  clear hq
  subst hT
  have c : (n != 34887) = true := by simpa using hA
  have c2 : (n != 34888) = true := by simpa using hA2
  clear hA hA2
  go_enter Tryz.func62, Tryz.ntmps62
  go_wp2_with fail
  go_ret
  exact ⟨rfl, rfl⟩

set_option maxRecDepth 100000 in
set_option maxHeartbeats 2000000 in
theorem asked_pbb_a (t n : Int) (w : World) (hT : t = 26) (hA : n = 35047) :
    Calls Tryz.prog 62 #[.int .i64 t, .int .u64 n] w fun e w' => e = .returned (.int .i64 (asked12 t n)) ∧ w' = w := by
  have hq : asked12 t n = 0 := by simp [asked12, hT, hA]
  rw [hq]
  clear hq
  subst hT
  subst hA
  go_enter Tryz.func62, Tryz.ntmps62
  go_wp2_with fail
  go_ret
  exact ⟨rfl, rfl⟩

set_option maxRecDepth 100000 in
set_option maxHeartbeats 2000000 in
theorem asked_pbb_no (t n : Int) (w : World) (hT : t = 26) (hA : n ≠ 35047) :
    Calls Tryz.prog 62 #[.int .i64 t, .int .u64 n] w fun e w' => e = .returned (.int .i64 (asked12 t n)) ∧ w' = w := by
  have hq : asked12 t n = 518 := by simp [asked12, hT, hA]
  rw [hq]
  clear hq
  subst hT
  have c : (n != 35047) = true := by simpa using hA
  clear hA
  go_enter Tryz.func62, Tryz.ntmps62
  go_wp2_with fail
  go_ret
  exact ⟨rfl, rfl⟩

set_option maxRecDepth 100000 in
set_option maxHeartbeats 2000000 in
theorem asked_else (t n : Int) (w : World) (hT : t ≠ 0 ∧ t ≠ 22 ∧ t ≠ 17 ∧ t ≠ 19 ∧ t ≠ 26) :
    Calls Tryz.prog 62 #[.int .i64 t, .int .u64 n] w fun e w' => e = .returned (.int .i64 (asked12 t n)) ∧ w' = w := by
  have hq : asked12 t n = 0 := by simp [asked12, hT]
  rw [hq]
  clear hq
  obtain ⟨h0, h1, h2, h3, h4⟩ := hT
  have c0 : (t == 0) = false := by simpa using h0
  have c1 : (t == 22) = false := by simpa using h1
  have c2 : (t == 17) = false := by simpa using h2
  have c3 : (t == 19) = false := by simpa using h3
  have c4 : (t == 26) = false := by simpa using h4
  clear h0 h1 h2 h3 h4
  go_enter Tryz.func62, Tryz.ntmps62
  go_wp2_with fail
  go_ret
  exact ⟨rfl, rfl⟩

theorem refAsked_any (t n : Int) (w : World) : Calls Tryz.prog 62 #[.int .i64 t, .int .u64 n] w fun e w' => e = .returned (.int .i64 (asked12 t n)) ∧ w' = w := by
  rcases (show t = 0 ∨ t = 22 ∨ t = 17 ∨ t = 19 ∨ t = 26 ∨ (t ≠ 0 ∧ t ≠ 22 ∧ t ≠ 17 ∧ t ≠ 19 ∧ t ≠ 26) by omega) with h | h | h | h | h | h
  · by_cases hA : n = 0
    · exact asked_out_no t n w h hA
    · exact asked_out_yes t n w h hA
  · by_cases hA : 4294967040 < n
    · exact asked_grp_no t n w h hA
    · exact asked_grp_yes t n w h hA
  · by_cases hA : n = 33024
    · exact asked_vlan_a t n w h hA
    · by_cases hA2 : n = 34984
      · exact asked_vlan_b t n w h hA2
      · exact asked_vlan_no t n w h hA hA2
  · by_cases hA : n = 34887
    · exact asked_mpls_a t n w h hA
    · by_cases hA2 : n = 34888
      · exact asked_mpls_b t n w h hA2
      · exact asked_mpls_no t n w h hA hA2
  · by_cases hA : n = 35047
    · exact asked_pbb_a t n w h hA
    · exact asked_pbb_no t n w h hA
  · exact asked_else t n w h
end Go.Proofs.YtdjlbejhphbcoaaGreat
namespace Go.Proofs.YtdjlbejhphbcoaaGreat
open Go.RowKit
set_option linter.unusedVariables false

end Go.Proofs.YtdjlbejhphbcoaaGreat
namespace Go.Proofs.YtdjlbejhphbcoaaGreat
open Go.RowKit
set_option linter.unusedVariables false

/-- what is behind the length, or that there is nothing such -/
def BodyPost12 (a : Act12) (w : World) (e : Ending) (w' : World) : Prop :=
  (body12 a = none ∧ e = .returned (.tuple #[.slice none 0 0, .bool false]) ∧ Below w.heap.size w w') ∨
  (∃ x ad cp, body12 a = some x ∧ e = .returned (.tuple #[.slice ad x.length cp, .bool true]) ∧ Below w.heap.size w w' ∧ Ints .u8 w' ad x)
end Go.Proofs.YtdjlbejhphbcoaaGreat
namespace Go.Proofs.YtdjlbejhphbcoaaGreat
open Go.RowKit
set_option linter.unusedVariables false

end Go.Proofs.YtdjlbejhphbcoaaGreat
namespace Go.Proofs.YtdjlbejhphbcoaaGreat
open Go.RowKit
set_option linter.unusedVariables false

end Go.Proofs.YtdjlbejhphbcoaaGreat
namespace Go.Proofs.YtdjlbejhphbcoaaGreat
open Go.RowKit
set_option linter.unusedVariables false

end Go.Proofs.YtdjlbejhphbcoaaGreat
namespace Go.Proofs.YtdjlbejhphbcoaaGreat
open Go.RowKit
set_option linter.unusedVariables false

end Go.Proofs.YtdjlbejhphbcoaaGreat
namespace Go.Proofs.YtdjlbejhphbcoaaGreat
open Go.RowKit
set_option linter.unusedVariables false

/-- what the document's encoding comes to -/
def RefEncPost12 (a : Act12) (w : World) (e : Ending) (w' : World) : Prop :=
  (act12 a = none ∧ e = .returned (.tuple #[.slice none 0 0, .int .i64 10001]) ∧ Below w.heap.size w w') ∨
  (∃ x ad cp, act12 a = some x ∧ e = .returned (.tuple #[.slice ad x.length cp, .int .i64 0]) ∧ Below w.heap.size w w' ∧ Ints .u8 w' ad x)
end Go.Proofs.YtdjlbejhphbcoaaGreat
namespace Go.Proofs.YtdjlbejhphbcoaaGreat
open Go.RowKit
set_option linter.unusedVariables false

/-- what the document's reading of the field that is set comes to -/
def RefSetPost12 (R : Except Int Ox9) (w : World) (e : Ending) (w' : World) : Prop :=
  (∃ (q C F : Int) (H : Bool) (X : Int) (va : Option Addr) (vl vc : Nat) (ma : Option Addr) (ml mc : Nat), R = .error q ∧ q ≠ 0 ∧ e = .returned (.tuple #[.agg #[.int .i64 C, .int .i64 F, .bool H, .int .u64 X, .slice va vl vc, .slice ma ml mc], .int .i64 q]) ∧ Below w.heap.size w w') ∨
  (∃ o a1 k1 a2 k2, R = .ok o ∧ e = .returned (.tuple #[.agg #[.int .i64 o.C, .int .i64 o.F, .bool o.H, .int .u64 o.X, .slice a1 o.v.length k1, .slice a2 o.m.length k2], .int .i64 0]) ∧ Below w.heap.size w w' ∧ Ints .u8 w' a1 o.v ∧ Ints .u8 w' a2 o.m ∧ o.m.length ≤ k2 ∧ New8 w a1 ∧ New8 w a2)
theorem zeros_snoc12 {l : List Int} {k : Nat} {x : Int} (h : zeros (l.take k) = true) (hx : l[k]? = some x) (h0 : x = 0) : zeros (l.take (k + 1)) = true := by
  rw [List.take_add_one, hx]
  unfold zeros at h ⊢
  simp only [List.all_append, h, Bool.true_and]
  simp [h0]
theorem zeros_not12 {l : List Int} {k : Nat} {x : Int} (hx : l[k]? = some x) (h0 : x ≠ 0) : zeros l = false := by
  unfold zeros
  rw [List.all_eq_false]
  exact ⟨x, List.mem_of_getElem? hx, by simpa using h0⟩
set_option maxRecDepth 100000 in
set_option maxHeartbeats 2000000 in
theorem refSet_no (b : List Int) (a : Option Addr) (c : Nat) (hbl : b.length ≤ 2000) (hbc : b.length ≤ c) (hc : c ≤ 9223372036854775807) (ho : Octets b) (w : World) (hI : Ints .u8 w a b) (q : Int) (hq : decL b = .error q) :
    Calls Tryz.prog 58 #[.slice a b.length c] w (RefSetPost12 (set12 b) w) := by
  obtain ⟨W, hW, hbW, hx⟩ := oxm_box w 0 0 false 0 none 0 0 none 0 0
  have HW := hid hW
  have HB := hid hbW
  have DE := hid (refDecode8_any b a c hbc hc ho hbl W (hI.below hbW))
  have HS := hid (set12_no hq)
  have HQ := hid hq
  clear hW hbW ho hI hq
  have HQ0 : Hid (q ≠ 0) := dec_err_pos10 HQ.out
  have ways : q = 1026 ∨ q = 1031 ∨ (q ≠ 1026 ∧ q ≠ 1031) := by omega
  rcases ways with hq1 | hq1 | ⟨hq1, hq2⟩
  · subst hq1
    go_enter Tryz.func58, Tryz.ntmps58
    go_wp2_with fail
    rw [HW.out]
    refine DE.out.mono ?_
    rintro e w1 (⟨q', hq', hq0, rfl, hb1⟩ | ⟨o, _, _, _, _, hq', _⟩)
    case inr => rw [HQ.out] at hq'; cases hq'
    rw [HQ.out] at hq'
    injection hq' with hq'
    subst hq'
    have hx1 := hx.below hb1
    obtain ⟨W2, hW2, hbW2, hy⟩ := oxm_box w1 0 0 false 0 none 0 0 none 0 0
    have HW2 := hid hW2
    have hx2 := hx1.below hbW2
    have HB2 := hid (below_on (below_on HB.out hb1) hbW2)
    have hne : w.heap.size < w1.heap.size := hx1.lt
    have n1 : ¬ w1.heap.size = w.heap.size := by omega
    have n2 : ¬ w.heap.size = w1.heap.size := by omega
    have z := hx2.free
    obtain ⟨d0, d1, d2, d3, d4, d5⟩ := hx2.six
    obtain ⟨f0, f1, f2, f3, f4, f5⟩ := hy.six
    clear hW2 hbW2 hb1 hx hx1 hq0
    go_upto_region 2 with fail
    rw [HW2.out]
    go_wp2_with fail
    have hkk := hx2.set6 (.int .i64 0) (.int .i64 0) (.bool false) (.int .u64 0) (.slice none 0 0) (.slice none 0 0)
    obtain ⟨k0, k1, k2, k3, k4, k5⟩ := hkk.six
    refine bodyPost_ret (v := .tuple #[.agg #[.int .i64 0, .int .i64 0, .bool false, .int .u64 0, .slice none 0 0, .slice none 0 0], .int .i64 527]) (by simp [results, Tryz.results58, go_sem, d0, d1, d2, d3, d4, d5]) rfl (.inl ⟨527, _, _, _, _, _, _, _, _, _, _, HS.out, by decide, rfl, ?_⟩)
    repeat (with_reducible refine Below.setCell ?_ (by simp) _)
    exact HB2.out
  · subst hq1
    go_enter Tryz.func58, Tryz.ntmps58
    go_wp2_with fail
    rw [HW.out]
    refine DE.out.mono ?_
    rintro e w1 (⟨q', hq', hq0, rfl, hb1⟩ | ⟨o, _, _, _, _, hq', _⟩)
    case inr => rw [HQ.out] at hq'; cases hq'
    rw [HQ.out] at hq'
    injection hq' with hq'
    subst hq'
    have hx1 := hx.below hb1
    obtain ⟨W2, hW2, hbW2, hy⟩ := oxm_box w1 0 0 false 0 none 0 0 none 0 0
    have HW2 := hid hW2
    have hx2 := hx1.below hbW2
    have HB2 := hid (below_on (below_on HB.out hb1) hbW2)
    have hne : w.heap.size < w1.heap.size := hx1.lt
    have n1 : ¬ w1.heap.size = w.heap.size := by omega
    have n2 : ¬ w.heap.size = w1.heap.size := by omega
    have z := hx2.free
    obtain ⟨d0, d1, d2, d3, d4, d5⟩ := hx2.six
    obtain ⟨f0, f1, f2, f3, f4, f5⟩ := hy.six
    clear hW2 hbW2 hb1 hx hx1 hq0
    go_upto_region 2 with fail
    rw [HW2.out]
    go_wp2_with fail
    have hkk := hx2.set6 (.int .i64 0) (.int .i64 0) (.bool false) (.int .u64 0) (.slice none 0 0) (.slice none 0 0)
    obtain ⟨k0, k1, k2, k3, k4, k5⟩ := hkk.six
    refine bodyPost_ret (v := .tuple #[.agg #[.int .i64 0, .int .i64 0, .bool false, .int .u64 0, .slice none 0 0, .slice none 0 0], .int .i64 526]) (by simp [results, Tryz.results58, go_sem, d0, d1, d2, d3, d4, d5]) rfl (.inl ⟨526, _, _, _, _, _, _, _, _, _, _, HS.out, by decide, rfl, ?_⟩)
    repeat (with_reducible refine Below.setCell ?_ (by simp) _)
    exact HB2.out
  · have c1 : (q == 1026) = false := by simpa using hq1
    have c2 : (q == 1031) = false := by simpa using hq2
    have c3 : (q != 0) = true := by simpa using HQ0.out
    rw [if_neg hq1, if_neg hq2] at HS
    clear hq1 hq2
    go_enter Tryz.func58, Tryz.ntmps58
    go_wp2_with fail
    rw [HW.out]
    refine DE.out.mono ?_
    rintro e w1 (⟨q', hq', hq0, rfl, hb1⟩ | ⟨o, _, _, _, _, hq', _⟩)
    case inr => rw [HQ.out] at hq'; cases hq'
    rw [HQ.out] at hq'
    injection hq' with hq'
    subst hq'
    have hx1 := hx.below hb1
    obtain ⟨W2, hW2, hbW2, hy⟩ := oxm_box w1 0 0 false 0 none 0 0 none 0 0
    have HW2 := hid hW2
    have hx2 := hx1.below hbW2
    have HB2 := hid (below_on (below_on HB.out hb1) hbW2)
    have hne : w.heap.size < w1.heap.size := hx1.lt
    have n1 : ¬ w1.heap.size = w.heap.size := by omega
    have n2 : ¬ w.heap.size = w1.heap.size := by omega
    have z := hx2.free
    obtain ⟨d0, d1, d2, d3, d4, d5⟩ := hx2.six
    obtain ⟨f0, f1, f2, f3, f4, f5⟩ := hy.six
    clear hW2 hbW2 hb1 hx hx1 hq0
    go_upto_region 2 with fail
    rw [HW2.out]
    go_wp2_with fail
    have hkk := hx2.set6 (.int .i64 0) (.int .i64 0) (.bool false) (.int .u64 0) (.slice none 0 0) (.slice none 0 0)
    obtain ⟨k0, k1, k2, k3, k4, k5⟩ := hkk.six
    refine bodyPost_ret (v := .tuple #[.agg #[.int .i64 0, .int .i64 0, .bool false, .int .u64 0, .slice none 0 0, .slice none 0 0], .int .i64 528]) (by simp [results, Tryz.results58, go_sem, d0, d1, d2, d3, d4, d5]) rfl (.inl ⟨528, _, _, _, _, _, _, _, _, _, _, HS.out, by decide, rfl, ?_⟩)
    repeat (with_reducible refine Below.setCell ?_ (by simp) _)
    exact HB2.out
set_option maxRecDepth 100000 in
set_option maxHeartbeats 2000000 in
theorem refSet_cls (b : List Int) (M off : Nat) (c : Nat) (hbl : b.length ≤ 2000) (hbc : b.length ≤ c) (hc : c ≤ 9223372036854775807) (ho : Octets b) (w : World) (hI : Ints .u8 w (some ⟨M, off, none⟩) b) (o : Oxm8) (hq : decL b = .ok o) (hC : o.C ≠ 32768) :
    Calls Tryz.prog 58 #[.slice (some ⟨M, off, none⟩) b.length c] w (RefSetPost12 (set12 b) w) := by
  obtain ⟨W, hW, hbW, hx⟩ := oxm_box w 0 0 false 0 none 0 0 none 0 0
  have HW := hid hW
  have HB := hid hbW
  have DE := hid (refDecode8_any b _ c hbc hc ho hbl W (hI.below hbW))
  have HQ := hid hq
  have IB := hid hI
  obtain ⟨hr, hn, -, hX0⟩ := dec_right hq ho
  have HS : Hid (set12 b = .error 526) := by obtain ⟨C, F, H, X, v, m, n⟩ := o; show _ = _; rw [set12_is hq]; exact if_pos (.inl hC)
  have gC : (o.C != 32768) = true := by simpa using hC
  clear hW hbW ho hI hq hr hn hX0 hC
  obtain ⟨C, F, H, X, v, m, n⟩ := o
  simp only at *
  go_enter Tryz.func58, Tryz.ntmps58
  go_wp2_with fail
  rw [HW.out]
  refine DE.out.mono ?_
  rintro e w1 (⟨q', hq', _⟩ | ⟨o', a1, c1, a2, c2, hq', rfl, hb1, i1, i2, hmc, hn1, hn2⟩)
  · rw [HQ.out] at hq'; cases hq'
  rw [HQ.out] at hq'
  cases hq'
  simp only at i1 i2 hmc
  have hx1 := hx.below hb1
  obtain ⟨W2, hW2, hbW2, hy⟩ := oxm_box w1 C F H X a1 v.length c1 a2 m.length c2
  have HW2 := hid hW2
  have hx2 := hx1.below hbW2
  have HB2 := hid (below_on (below_on HB.out hb1) hbW2)
  have I1 := hid (i1.below hbW2)
  have I2 := hid (i2.below hbW2)
  have hsW := HB.out.size
  have HN1 : Hid (New8 w a1) := fun q hq => by have := hn1 q hq; omega
  have HN2 : Hid (New8 w a2) := fun q hq => by have := hn2 q hq; omega
  have hxl := hx.lt
  have HM1 : Hid (∀ q : Addr, a1 = some q → q.block ≠ w.heap.size) := fun q hq => by have := hn1 q hq; omega
  have HM2 : Hid (∀ q : Addr, a2 = some q → q.block ≠ w.heap.size) := fun q hq => by have := hn2 q hq; omega
  have HMC := hid hmc
  have hne : w.heap.size < w1.heap.size := hx1.lt
  have n1 : ¬ w1.heap.size = w.heap.size := by omega
  have n2 : ¬ w.heap.size = w1.heap.size := by omega
  obtain ⟨f0, f1, f2, f3, f4, f5⟩ := hy.six
  have z := hx2.free
  obtain ⟨d0, d1, d2, d3, d4, d5⟩ := hx2.six
  clear hW2 hbW2 hb1 hx hx1 hn1 hn2 i1 i2 hmc
  go_upto_region 2 with fail
  rw [HW2.out]
  go_wp2_with fail
  have hkk := hx2.set6 (.int .i64 C) (.int .i64 F) (.bool H) (.int .u64 X) (.slice a1 v.length c1) (.slice a2 m.length c2)
  obtain ⟨k0, k1, k2, k3, k4, k5⟩ := hkk.six
  refine bodyPost_ret (v := .tuple #[.agg #[.int .i64 C, .int .i64 F, .bool H, .int .u64 X, .slice a1 v.length c1, .slice a2 m.length c2], .int .i64 526]) (by simp [results, Tryz.results58, go_sem, k0, k1, k2, k3, k4, k5]) rfl (.inl ⟨526, _, _, _, _, _, _, _, _, _, _, HS.out, by decide, rfl, ?_⟩)
  repeat (with_reducible refine Below.setCell ?_ (by simp) _)
  exact HB2.out
set_option maxRecDepth 100000 in
set_option maxHeartbeats 2000000 in
theorem refSet_fld (b : List Int) (M off : Nat) (c : Nat) (hbl : b.length ≤ 2000) (hbc : b.length ≤ c) (hc : c ≤ 9223372036854775807) (ho : Octets b) (w : World) (hI : Ints .u8 w (some ⟨M, off, none⟩) b) (o : Oxm8) (hq : decL b = .ok o) (hC : o.C = 32768) (hF : ¬ (2 < o.F ∧ o.F < 39)) :
    Calls Tryz.prog 58 #[.slice (some ⟨M, off, none⟩) b.length c] w (RefSetPost12 (set12 b) w) := by
  obtain ⟨W, hW, hbW, hx⟩ := oxm_box w 0 0 false 0 none 0 0 none 0 0
  have HW := hid hW
  have HB := hid hbW
  have DE := hid (refDecode8_any b _ c hbc hc ho hbl W (hI.below hbW))
  have HQ := hid hq
  have IB := hid hI
  obtain ⟨hr, hn, -, hX0⟩ := dec_right hq ho
  have HS : Hid (set12 b = .error 526) := by obtain ⟨C, F, H, X, v, m, n⟩ := o; show _ = _; rw [set12_is hq]; exact if_pos (.inr hF)
  have gC : (o.C != 32768) = false := by simpa using hC
  have ST := hid (fun V => fldRefSettable_any o.F V)
  rw [decide_eq_false hF] at ST
  clear hW hbW ho hI hq hr hn hX0 hC hF
  obtain ⟨C, F, H, X, v, m, n⟩ := o
  simp only at *
  go_enter Tryz.func58, Tryz.ntmps58
  go_wp2_with fail
  rw [HW.out]
  refine DE.out.mono ?_
  rintro e w1 (⟨q', hq', _⟩ | ⟨o', a1, c1, a2, c2, hq', rfl, hb1, i1, i2, hmc, hn1, hn2⟩)
  · rw [HQ.out] at hq'; cases hq'
  rw [HQ.out] at hq'
  cases hq'
  simp only at i1 i2 hmc
  have hx1 := hx.below hb1
  obtain ⟨W2, hW2, hbW2, hy⟩ := oxm_box w1 C F H X a1 v.length c1 a2 m.length c2
  have HW2 := hid hW2
  have hx2 := hx1.below hbW2
  have HB2 := hid (below_on (below_on HB.out hb1) hbW2)
  have I1 := hid (i1.below hbW2)
  have I2 := hid (i2.below hbW2)
  have hsW := HB.out.size
  have HN1 : Hid (New8 w a1) := fun q hq => by have := hn1 q hq; omega
  have HN2 : Hid (New8 w a2) := fun q hq => by have := hn2 q hq; omega
  have hxl := hx.lt
  have HM1 : Hid (∀ q : Addr, a1 = some q → q.block ≠ w.heap.size) := fun q hq => by have := hn1 q hq; omega
  have HM2 : Hid (∀ q : Addr, a2 = some q → q.block ≠ w.heap.size) := fun q hq => by have := hn2 q hq; omega
  have HMC := hid hmc
  have hne : w.heap.size < w1.heap.size := hx1.lt
  have n1 : ¬ w1.heap.size = w.heap.size := by omega
  have n2 : ¬ w.heap.size = w1.heap.size := by omega
  obtain ⟨f0, f1, f2, f3, f4, f5⟩ := hy.six
  have z := hx2.free
  obtain ⟨d0, d1, d2, d3, d4, d5⟩ := hx2.six
  clear hW2 hbW2 hb1 hx hx1 hn1 hn2 i1 i2 hmc
  go_upto_region 2 with fail
  rw [HW2.out]
  go_wp2_with fail
  refine (ST.out _).mono ?_
  rintro e w3 ⟨rfl, hb3⟩
  have hx3 := hx2.below hb3
  have hy3 := hy.below hb3
  have HB3 := hid (below_on HB2.out hb3)
  have J1 := hid (I1.out.below hb3)
  have J2 := hid (I2.out.below hb3)
  clear d0 d1 d2 d3 d4 d5 f0 f1 f2 f3 f4 f5 z hb3 hx2 hy
  obtain ⟨f0, f1, f2, f3, f4, f5⟩ := hy3.six
  have z := hx3.free
  obtain ⟨d0, d1, d2, d3, d4, d5⟩ := hx3.six
  go_wp2_with fail
  have hkk := hx3.set6 (.int .i64 C) (.int .i64 F) (.bool H) (.int .u64 X) (.slice a1 v.length c1) (.slice a2 m.length c2)
  obtain ⟨k0, k1, k2, k3, k4, k5⟩ := hkk.six
  refine bodyPost_ret (v := .tuple #[.agg #[.int .i64 C, .int .i64 F, .bool H, .int .u64 X, .slice a1 v.length c1, .slice a2 m.length c2], .int .i64 526]) (by simp [results, Tryz.results58, go_sem, k0, k1, k2, k3, k4, k5]) rfl (.inl ⟨526, _, _, _, _, _, _, _, _, _, _, HS.out, by decide, rfl, ?_⟩)
  repeat (with_reducible refine Below.setCell ?_ (by simp) _)
  exact HB3.out
set_option maxRecDepth 100000 in
set_option maxHeartbeats 2000000 in
theorem refSet_has (b : List Int) (M off : Nat) (c : Nat) (hbl : b.length ≤ 2000) (hbc : b.length ≤ c) (hc : c ≤ 9223372036854775807) (ho : Octets b) (w : World) (hI : Ints .u8 w (some ⟨M, off, none⟩) b) (o : Oxm8) (hq : decL b = .ok o) (hC : o.C = 32768) (hF : 2 < o.F ∧ o.F < 39) (hH : o.H = true) :
    Calls Tryz.prog 58 #[.slice (some ⟨M, off, none⟩) b.length c] w (RefSetPost12 (set12 b) w) := by
  obtain ⟨W, hW, hbW, hx⟩ := oxm_box w 0 0 false 0 none 0 0 none 0 0
  have HW := hid hW
  have HB := hid hbW
  have DE := hid (refDecode8_any b _ c hbc hc ho hbl W (hI.below hbW))
  have HQ := hid hq
  have IB := hid hI
  obtain ⟨hr, hn, -, hX0⟩ := dec_right hq ho
  have HS : Hid (set12 b = .error 528) := by obtain ⟨C, F, H, X, v, m, n⟩ := o; show _ = _; rw [set12_is hq, if_neg (fun k => k.elim (fun k => k hC) (fun k => k hF))]; exact if_pos hH
  have gC : (o.C != 32768) = false := by simpa using hC
  have ST := hid (fun V => fldRefSettable_any o.F V)
  rw [decide_eq_true hF] at ST
  have HHH := hid hH
  clear hW hbW ho hI hq hr hX0 hC hF hH hn
  obtain ⟨C, F, H, X, v, m, n⟩ := o
  have hH2 : H = true := HHH.out
  clear HHH
  subst hH2
  simp only at *
  go_enter Tryz.func58, Tryz.ntmps58
  go_wp2_with fail
  rw [HW.out]
  refine DE.out.mono ?_
  rintro e w1 (⟨q', hq', _⟩ | ⟨o', a1, c1, a2, c2, hq', rfl, hb1, i1, i2, hmc, hn1, hn2⟩)
  · rw [HQ.out] at hq'; cases hq'
  rw [HQ.out] at hq'
  cases hq'
  simp only at i1 i2 hmc
  have hx1 := hx.below hb1
  obtain ⟨W2, hW2, hbW2, hy⟩ := oxm_box w1 C F true X a1 v.length c1 a2 m.length c2
  have HW2 := hid hW2
  have hx2 := hx1.below hbW2
  have HB2 := hid (below_on (below_on HB.out hb1) hbW2)
  have I1 := hid (i1.below hbW2)
  have I2 := hid (i2.below hbW2)
  have hsW := HB.out.size
  have HN1 : Hid (New8 w a1) := fun q hq => by have := hn1 q hq; omega
  have HN2 : Hid (New8 w a2) := fun q hq => by have := hn2 q hq; omega
  have hxl := hx.lt
  have HM1 : Hid (∀ q : Addr, a1 = some q → q.block ≠ w.heap.size) := fun q hq => by have := hn1 q hq; omega
  have HM2 : Hid (∀ q : Addr, a2 = some q → q.block ≠ w.heap.size) := fun q hq => by have := hn2 q hq; omega
  have HMC := hid hmc
  have hne : w.heap.size < w1.heap.size := hx1.lt
  have n1 : ¬ w1.heap.size = w.heap.size := by omega
  have n2 : ¬ w.heap.size = w1.heap.size := by omega
  obtain ⟨f0, f1, f2, f3, f4, f5⟩ := hy.six
  have z := hx2.free
  obtain ⟨d0, d1, d2, d3, d4, d5⟩ := hx2.six
  clear hW2 hbW2 hb1 hx hx1 hn1 hn2 i1 i2 hmc
  go_upto_region 2 with fail
  rw [HW2.out]
  go_wp2_with fail
  refine (ST.out _).mono ?_
  rintro e w3 ⟨rfl, hb3⟩
  have hx3 := hx2.below hb3
  have hy3 := hy.below hb3
  have HB3 := hid (below_on HB2.out hb3)
  have J1 := hid (I1.out.below hb3)
  have J2 := hid (I2.out.below hb3)
  clear d0 d1 d2 d3 d4 d5 f0 f1 f2 f3 f4 f5 z hb3 hx2 hy
  obtain ⟨f0, f1, f2, f3, f4, f5⟩ := hy3.six
  have z := hx3.free
  obtain ⟨d0, d1, d2, d3, d4, d5⟩ := hx3.six
  go_wp2_with fail
  have hkk := hx3.set6 (.int .i64 C) (.int .i64 F) (.bool true) (.int .u64 X) (.slice a1 v.length c1) (.slice a2 m.length c2)
  obtain ⟨k0, k1, k2, k3, k4, k5⟩ := hkk.six
  refine bodyPost_ret (v := .tuple #[.agg #[.int .i64 C, .int .i64 F, .bool true, .int .u64 X, .slice a1 v.length c1, .slice a2 m.length c2], .int .i64 528]) (by simp [results, Tryz.results58, go_sem, k0, k1, k2, k3, k4, k5]) rfl (.inl ⟨528, _, _, _, _, _, _, _, _, _, _, HS.out, by decide, rfl, ?_⟩)
  repeat (with_reducible refine Below.setCell ?_ (by simp) _)
  exact HB3.out
set_option maxRecDepth 100000 in
set_option maxHeartbeats 2000000 in
theorem refSet_long (b : List Int) (M off : Nat) (c : Nat) (hbl : b.length ≤ 2000) (hbc : b.length ≤ c) (hc : c ≤ 9223372036854775807) (ho : Octets b) (w : World) (hI : Ints .u8 w (some ⟨M, off, none⟩) b) (o : Oxm8) (hq : decL b = .ok o) (hC : o.C = 32768) (hF : 2 < o.F ∧ o.F < 39) (hH : o.H = false) (h8 : o.n + 8 ≤ b.length) :
    Calls Tryz.prog 58 #[.slice (some ⟨M, off, none⟩) b.length c] w (RefSetPost12 (set12 b) w) := by
  obtain ⟨W, hW, hbW, hx⟩ := oxm_box w 0 0 false 0 none 0 0 none 0 0
  have HW := hid hW
  have HB := hid hbW
  have DE := hid (refDecode8_any b _ c hbc hc ho hbl W (hI.below hbW))
  have HQ := hid hq
  have IB := hid hI
  obtain ⟨hr, hn, -, hX0⟩ := dec_right hq ho
  have HS : Hid (set12 b = .error 527) := by obtain ⟨C, F, H, X, v, m, n⟩ := o; show _ = _; have hH2 : ¬ H = true := by rw [show H = false from hH]; decide
                                             rw [set12_is hq, if_neg (fun k => k.elim (fun k => k hC) (fun k => k hF)), if_neg hH2]; exact if_pos (.inl h8)
  have gC : (o.C != 32768) = false := by simpa using hC
  have ST := hid (fun V => fldRefSettable_any o.F V)
  rw [decide_eq_true hF] at ST
  have HHH := hid hH
  have g8 : (o.n : Int) + 8 ≤ (b.length : Int) := by omega
  clear hW hbW ho hI hq hr hX0 hC hF hH h8 hn
  obtain ⟨C, F, H, X, v, m, n⟩ := o
  have hH2 : H = false := HHH.out
  clear HHH
  subst hH2
  simp only at *
  go_enter Tryz.func58, Tryz.ntmps58
  go_wp2_with fail
  rw [HW.out]
  refine DE.out.mono ?_
  rintro e w1 (⟨q', hq', _⟩ | ⟨o', a1, c1, a2, c2, hq', rfl, hb1, i1, i2, hmc, hn1, hn2⟩)
  · rw [HQ.out] at hq'; cases hq'
  rw [HQ.out] at hq'
  cases hq'
  simp only at i1 i2 hmc
  have hx1 := hx.below hb1
  obtain ⟨W2, hW2, hbW2, hy⟩ := oxm_box w1 C F false X a1 v.length c1 a2 m.length c2
  have HW2 := hid hW2
  have hx2 := hx1.below hbW2
  have HB2 := hid (below_on (below_on HB.out hb1) hbW2)
  have I1 := hid (i1.below hbW2)
  have I2 := hid (i2.below hbW2)
  have hsW := HB.out.size
  have HN1 : Hid (New8 w a1) := fun q hq => by have := hn1 q hq; omega
  have HN2 : Hid (New8 w a2) := fun q hq => by have := hn2 q hq; omega
  have hxl := hx.lt
  have HM1 : Hid (∀ q : Addr, a1 = some q → q.block ≠ w.heap.size) := fun q hq => by have := hn1 q hq; omega
  have HM2 : Hid (∀ q : Addr, a2 = some q → q.block ≠ w.heap.size) := fun q hq => by have := hn2 q hq; omega
  have HMC := hid hmc
  have hne : w.heap.size < w1.heap.size := hx1.lt
  have n1 : ¬ w1.heap.size = w.heap.size := by omega
  have n2 : ¬ w.heap.size = w1.heap.size := by omega
  obtain ⟨f0, f1, f2, f3, f4, f5⟩ := hy.six
  have z := hx2.free
  obtain ⟨d0, d1, d2, d3, d4, d5⟩ := hx2.six
  clear hW2 hbW2 hb1 hx hx1 hn1 hn2 i1 i2 hmc
  go_upto_region 2 with fail
  rw [HW2.out]
  go_wp2_with fail
  refine (ST.out _).mono ?_
  rintro e w3 ⟨rfl, hb3⟩
  have hx3 := hx2.below hb3
  have hy3 := hy.below hb3
  have HB3 := hid (below_on HB2.out hb3)
  have J1 := hid (I1.out.below hb3)
  have J2 := hid (I2.out.below hb3)
  clear d0 d1 d2 d3 d4 d5 f0 f1 f2 f3 f4 f5 z hb3 hx2 hy
  obtain ⟨f0, f1, f2, f3, f4, f5⟩ := hy3.six
  have z := hx3.free
  obtain ⟨d0, d1, d2, d3, d4, d5⟩ := hx3.six
  go_wp2_with fail
  have hkk := hx3.set6 (.int .i64 C) (.int .i64 F) (.bool false) (.int .u64 X) (.slice a1 v.length c1) (.slice a2 m.length c2)
  obtain ⟨k0, k1, k2, k3, k4, k5⟩ := hkk.six
  refine bodyPost_ret (v := .tuple #[.agg #[.int .i64 C, .int .i64 F, .bool false, .int .u64 X, .slice a1 v.length c1, .slice a2 m.length c2], .int .i64 527]) (by simp [results, Tryz.results58, go_sem, k0, k1, k2, k3, k4, k5]) rfl (.inl ⟨527, _, _, _, _, _, _, _, _, _, _, HS.out, by decide, rfl, ?_⟩)
  repeat (with_reducible refine Below.setCell ?_ (by simp) _)
  exact HB3.out
set_option maxRecDepth 100000 in
set_option maxHeartbeats 2000000 in
theorem refSet_loop (b : List Int) (M off : Nat) (c : Nat) (hbl : b.length ≤ 2000) (hbc : b.length ≤ c) (hc : c ≤ 9223372036854775807) (ho : Octets b) (w : World) (hI : Ints .u8 w (some ⟨M, off, none⟩) b) (o : Oxm8) (hq : decL b = .ok o) (hC : o.C = 32768) (hF : 2 < o.F ∧ o.F < 39) (hH : o.H = false) (h8 : ¬ o.n + 8 ≤ b.length) :
    Calls Tryz.prog 58 #[.slice (some ⟨M, off, none⟩) b.length c] w (RefSetPost12 (set12 b) w) := by
  obtain ⟨W, hW, hbW, hx⟩ := oxm_box w 0 0 false 0 none 0 0 none 0 0
  have HW := hid hW
  have HB := hid hbW
  have DE := hid (refDecode8_any b _ c hbc hc ho hbl W (hI.below hbW))
  have HQ := hid hq
  have IB := hid hI
  obtain ⟨hr, hn, -, hX0⟩ := dec_right hq ho
  have HS0 : Hid (set12 b = if zeros (b.drop o.n) = false then .error 528 else .ok (ox12 o)) := by
    obtain ⟨C, F, H, X, v, m, n⟩ := o
    show _ = _
    have hH2 : ¬ H = true := by rw [show H = false from hH]; decide
    rw [set12_is hq, if_neg (fun k => k.elim (fun k => k hC) (fun k => k hF)), if_neg hH2, if_neg (by have h1 : n ≤ b.length := hn; have h2 : ¬ n + 8 ≤ b.length := h8; omega)]
    rfl
  have gC : (o.C != 32768) = false := by simpa using hC
  have ST := hid (fun V => fldRefSettable_any o.F V)
  rw [decide_eq_true hF] at ST
  have HHH := hid hH
  have g8 : ¬ (o.n : Int) + 8 ≤ (b.length : Int) := by omega
  have g9 : ¬ (b.length : Int) < (o.n : Int) := by omega
  clear hW hbW ho hI hq hr hX0 hC hF hH h8
  obtain ⟨C, F, H, X, v, m, n⟩ := o
  have hH2 : H = false := HHH.out
  clear HHH
  subst hH2
  simp only at *
  go_enter Tryz.func58, Tryz.ntmps58
  go_wp2_with fail
  rw [HW.out]
  refine DE.out.mono ?_
  rintro e w1 (⟨q', hq', _⟩ | ⟨o', a1, c1, a2, c2, hq', rfl, hb1, i1, i2, hmc, hn1, hn2⟩)
  · rw [HQ.out] at hq'; cases hq'
  rw [HQ.out] at hq'
  cases hq'
  simp only at i1 i2 hmc
  have hx1 := hx.below hb1
  obtain ⟨W2, hW2, hbW2, hy⟩ := oxm_box w1 C F false X a1 v.length c1 a2 m.length c2
  have HW2 := hid hW2
  have hx2 := hx1.below hbW2
  have HB2 := hid (below_on (below_on HB.out hb1) hbW2)
  have I1 := hid (i1.below hbW2)
  have I2 := hid (i2.below hbW2)
  have hsW := HB.out.size
  have HN1 : Hid (New8 w a1) := fun q hq => by have := hn1 q hq; omega
  have HN2 : Hid (New8 w a2) := fun q hq => by have := hn2 q hq; omega
  have hxl := hx.lt
  have HM1 : Hid (∀ q : Addr, a1 = some q → q.block ≠ w.heap.size) := fun q hq => by have := hn1 q hq; omega
  have HM2 : Hid (∀ q : Addr, a2 = some q → q.block ≠ w.heap.size) := fun q hq => by have := hn2 q hq; omega
  have HMC := hid hmc
  have hne : w.heap.size < w1.heap.size := hx1.lt
  have n1 : ¬ w1.heap.size = w.heap.size := by omega
  have n2 : ¬ w.heap.size = w1.heap.size := by omega
  obtain ⟨f0, f1, f2, f3, f4, f5⟩ := hy.six
  have z := hx2.free
  obtain ⟨d0, d1, d2, d3, d4, d5⟩ := hx2.six
  clear hW2 hbW2 hb1 hx hx1 hn1 hn2 i1 i2 hmc
  go_upto_region 2 with fail
  rw [HW2.out]
  go_wp2_with fail
  refine (ST.out _).mono ?_
  rintro e w3 ⟨rfl, hb3⟩
  have hx3 := hx2.below hb3
  have hy3 := hy.below hb3
  have HB3 := hid (below_on HB2.out hb3)
  have J1 := hid (I1.out.below hb3)
  have J2 := hid (I2.out.below hb3)
  clear d0 d1 d2 d3 d4 d5 f0 f1 f2 f3 f4 f5 z hb3 hx2 hy
  obtain ⟨f0, f1, f2, f3, f4, f5⟩ := hy3.six
  have z := hx3.free
  obtain ⟨d0, d1, d2, d3, d4, d5⟩ := hx3.six
  go_wp2_with fail
  clear d0 d1 d2 d3 d4 d5 f0 f1 f2 f3 f4 f5 z
  go_loopg [7] (b.length - n) (fun kx s7 wr => ∃ (i : Nat), s7 = .int .i64 i ∧ n ≤ i ∧ i ≤ b.length ∧ b.length - i ≤ kx ∧ Hid (zeros ((b.drop n).take (i - n)) = true) ∧ Hid (Below w3.heap.size w3 wr))
  case atStart => exact ⟨n, rfl, Nat.le_refl _, hn, by omega, by show _ = _; rw [Nat.sub_self]; rfl, Below.refl _ _⟩
  case round =>
    obtain ⟨i, rfl, hni, hi, hkx, hz, hbr⟩ := hrel
    have hx5 := hx3.below hbr.out
    have hy5 := hy3.below hbr.out
    have HB5 := hid (below_on HB3.out hbr.out)
    have L1 := hid (J1.out.below hbr.out)
    have L2 := hid (J2.out.below hbr.out)
    by_cases hlt : i < b.length
    · have hltz : (i : Int) < (b.length : Int) := by omega
      have hiz : (0 : Int) ≤ (i : Int) := by omega
      obtain ⟨M', off', x, he, c0, hget⟩ := (IB.out.below HB5.out).at hlt
      cases he
      have hgd : (b.drop n)[i - n]? = some x := by rw [List.getElem?_drop, show n + (i - n) = i by omega]; exact hget.out
      have HGD := hid hgd
      by_cases hx0 : x = 0
      · have HX0 := hid hx0
        have q0 : (x != 0) = false := by simpa using hx0
        clear hx0 hgd hget
        go_wp2_with fail
        go_roundg (b.length - (i + 1))
        case measure => omega
        case rel => exact ⟨i + 1, by first | rfl | go_num, by omega, by omega, Nat.le_refl _, by show _ = _; rw [show i + 1 - n = (i - n) + 1 by omega]; exact zeros_snoc12 hz.out HGD.out HX0.out, hbr⟩
      · have q0 : (x != 0) = true := by simpa using hx0
        have HS : Hid (set12 b = .error 528) := by have h := HS0.out; rw [zeros_not12 HGD.out hx0] at h; exact h
        clear hx0 hgd hget HS0
        obtain ⟨f0, f1, f2, f3, f4, f5⟩ := hy5.six
        have z := hx5.free
        obtain ⟨d0, d1, d2, d3, d4, d5⟩ := hx5.six
        go_wp2_with fail
        have hkk := hx5.set6 (.int .i64 C) (.int .i64 F) (.bool false) (.int .u64 X) (.slice a1 v.length c1) (.slice a2 m.length c2)
        obtain ⟨k0, k1, k2, k3, k4, k5⟩ := hkk.six
        refine bodyPost_ret (v := .tuple #[.agg #[.int .i64 C, .int .i64 F, .bool false, .int .u64 X, .slice a1 v.length c1, .slice a2 m.length c2], .int .i64 528]) (by simp [results, Tryz.results58, go_sem, k0, k1, k2, k3, k4, k5]) rfl (.inl ⟨528, _, _, _, _, _, _, _, _, _, _, HS.out, by decide, rfl, ?_⟩)
        repeat (with_reducible refine Below.setCell ?_ (by simp) _)
        exact HB5.out
    · have hie : i = b.length := by omega
      have hge : ¬ (i : Int) < (b.length : Int) := by omega
      have HS : Hid (set12 b = .ok ⟨C, F, false, X, v, m⟩) := by
        have h := HS0.out
        have hz2 := hz.out
        rw [List.take_of_length_le (by rw [List.length_drop]; omega)] at hz2
        rw [hz2] at h
        exact h
      clear hie hlt hz HS0
      obtain ⟨f0, f1, f2, f3, f4, f5⟩ := hy5.six
      have z := hx5.free
      obtain ⟨d0, d1, d2, d3, d4, d5⟩ := hx5.six
      go_wp2_with fail
      have hkk := hx5.set6 (.int .i64 C) (.int .i64 F) (.bool false) (.int .u64 X) (.slice a1 v.length c1) (.slice a2 m.length c2)
      obtain ⟨k0, k1, k2, k3, k4, k5⟩ := hkk.six
      refine bodyPost_ret (v := .tuple #[.agg #[.int .i64 C, .int .i64 F, .bool false, .int .u64 X, .slice a1 v.length c1, .slice a2 m.length c2], .int .i64 0]) (by simp [results, Tryz.results58, go_sem, k0, k1, k2, k3, k4, k5]) rfl (.inr ⟨⟨C, F, false, X, v, m⟩, a1, c1, a2, c2, HS.out, rfl, ?_, ?_, ?_, HMC.out, HN1.out, HN2.out⟩)
      · repeat (with_reducible refine Below.setCell ?_ (by simp) _)
        exact HB5.out
      · repeat (refine Ints.apart ?_ _ HM1.out)
        exact L1.out
      · repeat (refine Ints.apart ?_ _ HM2.out)
        exact L2.out
theorem refSet_any (b : List Int) (a : Option Addr) (c : Nat) (hbl : b.length ≤ 2000) (hbc : b.length ≤ c) (hc : c ≤ 9223372036854775807) (ho : Octets b) (w : World) (hI : Ints .u8 w a b) :
    Calls Tryz.prog 58 #[.slice a b.length c] w (RefSetPost12 (set12 b) w) := by
  cases hq : decL b with
  | error q => exact refSet_no b a c hbl hbc hc ho w hI q hq
  | ok o =>
    have h0 : 0 < b.length := by have := (dec_right hq ho).2.2.1; have h1 := congrArg List.length this; rw [oxmBytes_length, List.length_take] at h1; omega
    obtain ⟨M, off, rfl, _⟩ := hI 0 h0
    by_cases hC : o.C = 32768
    · by_cases hF : 2 < o.F ∧ o.F < 39
      · cases hH : o.H with
        | true => exact refSet_has b M off c hbl hbc hc ho w hI o hq hC hF hH
        | false =>
          by_cases h8 : o.n + 8 ≤ b.length
          · exact refSet_long b M off c hbl hbc hc ho w hI o hq hC hF hH h8
          · exact refSet_loop b M off c hbl hbc hc ho w hI o hq hC hF hH h8
      · exact refSet_fld b M off c hbl hbc hc ho w hI o hq hC hF
    · exact refSet_cls b M off c hbl hbc hc ho w hI o hq hC
end Go.Proofs.YtdjlbejhphbcoaaGreat
