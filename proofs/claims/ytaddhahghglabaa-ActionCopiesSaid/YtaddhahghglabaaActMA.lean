/- Package action: the field that is set, read. -/
import Derived.Test.YtaddhahghglabaaActG
import Derived.Test.YtaddhahghglabaaMrg10
import Derived.Test.YtaddhahghglabaaMrg3
import Derived.Deep.RegionHeld3
import Derived.Deep.DeepCutAuto
namespace Go.Proofs.Ytaddhahghglabaa
open Go.RowKit
set_option linter.unusedVariables false

/-- an error, and some action beside it -/
def Bad12 (q : Int) (e : Ending) : Prop := ∃ (T A B C F : Int) (H : Bool) (X : Int) (va : Option Addr) (vl vc : Nat) (ma : Option Addr) (ml mc : Nat) (da : Option Addr) (dl dc : Nat), e = .returned (.tuple #[.agg #[.int .i64 T, .int .u64 A, .int .u64 B, .int .i64 C, .int .i64 F, .bool H, .int .u64 X, .slice va vl vc, .slice ma ml mc, .slice da dl dc], .int .i64 q])
theorem bad12 {q T A B C F : Int} {H : Bool} {X : Int} {va : Option Addr} {vl vc : Nat} {ma : Option Addr} {ml mc : Nat} {da : Option Addr} {dl dc : Nat} : Bad12 q (.returned (.tuple #[.agg #[.int .i64 T, .int .u64 A, .int .u64 B, .int .i64 C, .int .i64 F, .bool H, .int .u64 X, .slice va vl vc, .slice ma ml mc, .slice da dl dc], .int .i64 q])) := ⟨_, _, _, _, _, _, _, _, _, _, _, _, _, _, _, _, rfl⟩
/-- what reading the field that is set comes to -/
def SetPost12 (R : Except Int Ox9) (w : World) (e : Ending) (w' : World) : Prop :=
  (∃ q, R = .error q ∧ q ≠ 0 ∧ Bad12 q e ∧ Below w.heap.size w w') ∨
  (∃ o a1 k1 a2 k2, R = .ok o ∧ e = .returned (.tuple #[.agg #[.int .i64 25, .int .u64 0, .int .u64 0, .int .i64 o.C, .int .i64 o.F, .bool o.H, .int .u64 o.X, .slice a1 o.v.length k1, .slice a2 o.m.length k2, .slice none 0 0], .int .i64 0]) ∧ Below w.heap.size w w' ∧ Ints .u8 w' a1 o.v ∧ Ints .u8 w' a2 o.m ∧ o.m.length ≤ k2 ∧ New8 w a1 ∧ New8 w a2)
def ox12 (o : Oxm8) : Ox9 := ⟨o.C, o.F, o.H, o.X, o.v, o.m⟩
theorem set12_no {x : List Int} {q : Int} (h : decL x = .error q) : set12 x = .error (if q = 1026 then 527 else if q = 1031 then 526 else 528) := by unfold set12; rw [h]
theorem set12_is {x : List Int} {C F : Int} {H : Bool} {X : Int} {v m : List Int} {n : Nat} (h : decL x = .ok ⟨C, F, H, X, v, m, n⟩) : set12 x = (if C ≠ 32768 ∨ ¬ (2 < F ∧ F < 39) then .error 526 else if H = true then .error 528 else if n + 8 ≤ x.length ∨ x.length < n then .error 527 else if zeros (x.drop n) = false then .error 528 else .ok ⟨C, F, H, X, v, m⟩) := by
  unfold set12
  rw [h]
theorem wset_is (C F : Int) (H : Bool) (X : Int) (v m : List Int) : wset12 ⟨C, F, H, X, v, m⟩ = (if C = 32768 ∧ 2 < F ∧ F < 39 then (if H = false ∧ rightB C F H X v m = true then 0 else 528) else 526) := rfl
theorem set12_bad {x : List Int} {o : Oxm8} (h : decL x = .ok o) (ho : Octets x) (hw : wset12 (ox12 o) ≠ 0) : set12 x = .error (wset12 (ox12 o)) := by
  have hr := (dec_right h ho).1
  obtain ⟨C, F, H, X, v, m, n⟩ := o
  rw [set12_is h]
  have e : wset12 (ox12 ⟨C, F, H, X, v, m, n⟩) = wset12 ⟨C, F, H, X, v, m⟩ := rfl
  rw [e, wset_is] at hw ⊢
  have hr : rightB C F H X v m = true := hr
  by_cases h1 : C = 32768 ∧ 2 < F ∧ F < 39
  · rw [if_pos h1] at hw ⊢
    by_cases h2 : H = false
    · exact absurd (by rw [if_pos ⟨h2, hr⟩]) hw
    · rw [if_neg (fun k => k.elim (fun k => k h1.1) (fun k => k h1.2)), if_pos (by simpa using h2), if_neg (fun k => h2 k.1)]
  · rw [if_neg h1, if_pos (by
      by_cases h3 : C = 32768
      · exact .inr (fun k => h1 ⟨h3, k⟩)
      · exact .inl h3)]
theorem set12_good {x : List Int} {o : Oxm8} (h : decL x = .ok o) (ho : Octets x) (hw : wset12 (ox12 o) = 0) : set12 x = if o.n + 8 ≤ x.length then .error 527 else if zeros (x.drop o.n) = false then .error 528 else .ok (ox12 o) := by
  obtain ⟨hr, hn, -, -⟩ := dec_right h ho
  obtain ⟨C, F, H, X, v, m, n⟩ := o
  rw [set12_is h]
  have e : wset12 (ox12 ⟨C, F, H, X, v, m, n⟩) = wset12 ⟨C, F, H, X, v, m⟩ := rfl
  rw [e, wset_is] at hw
  have hn : n ≤ x.length := hn
  show _ = if n + 8 ≤ x.length then _ else if zeros (x.drop n) = false then _ else _
  by_cases h1 : C = 32768 ∧ 2 < F ∧ F < 39
  · rw [if_pos h1] at hw
    by_cases h2 : H = false ∧ rightB C F H X v m = true
    · rw [if_neg (fun k => k.elim (fun k => k h1.1) (fun k => k h1.2)), if_neg (by simp [h2.1])]
      by_cases h8 : n + 8 ≤ x.length
      · rw [if_pos h8, if_pos (.inl h8)]
      · rw [if_neg h8, if_neg (by omega)]
        rfl
    · rw [if_neg h2] at hw; simp at hw
  · rw [if_neg h1] at hw; simp at hw
theorem getW_zeros12 {l : List Int} {z : Nat} (hl : l.length = z) (h0 : 0 < z) (h8 : z < 8) : getW [-(z : Int)] l = if zeros l then .ok [] else .error 2 := by
  have hr : rightW [-(z : Int)] = true := by simp [rightW, allW, isW]; omega
  have e : (-(z : Int)).natAbs = z := by omega
  rw [getW_yes12 hr]
  simp only [getL, e]
  rw [if_neg (by omega), if_neg (by omega), List.take_of_length_le (by omega)]

set_option maxRecDepth 100000 in
set_option maxHeartbeats 2000000 in
theorem readSet_no (b : List Int) (a : Option Addr) (c : Nat) (hbc : b.length ≤ c) (hc : c ≤ 9223372036854775807) (ho : Octets b) (w : World) (hI : Ints .u8 w a b) (q : Int) (hq : decL b = .error q) :
    Calls Try.prog 51 #[.slice a b.length c] w (SetPost12 (set12 b) w) := by
  obtain ⟨W, hW, hbW, hx⟩ := act_box w 0 0 0 0 0 false 0 none 0 0 none 0 0 none 0 0
  have HW := hid hW
  have HB := hid hbW
  have DE := hid (decode8_any b a c hbc hc ho W (hI.below hbW))
  have HS := hid (set12_no hq)
  have HQ := hid hq
  clear hW hbW ho hI hq
  go_enter Try.func51, Try.ntmps51
  go_wp2_with fail
  rw [HW.out]
  refine DE.out.mono ?_
  rintro e w1 (⟨q', hq', hq0, rfl, hb1⟩ | ⟨o, _, _, _, _, hq', _⟩)
  case inr => rw [HQ.out] at hq'; cases hq'
  rw [HQ.out] at hq'
  cases hq'
  have hx1 := hx.below hb1
  obtain ⟨W2, hW2, hbW2, hy⟩ := oxm_box w1 0 0 false 0 none 0 0 none 0 0
  have HW2 := hid hW2
  have hx2 := hx1.below hbW2
  have HB2 := hid (below_on (below_on HB.out hb1) hbW2)
  have hq1 : (q != 0) = true := by simpa using hq0
  have SE := hid (setError_any q W2)
  have HE : Hid ((if q = 1026 then 527 else if q = 1031 then 526 else 528 : Int) ≠ 0) := by show _ ≠ _; split <;> (try split) <;> decide
  obtain ⟨q2, hq2⟩ : ∃ q2 : Int, (if q = 1026 then 527 else if q = 1031 then 526 else 528) = q2 := ⟨_, rfl⟩
  rw [hq2] at SE HE HS
  clear hq2 hW2 hbW2 hb1 hx hx1 hq0
  go_wp2_with fail
  rw [HW2.out]
  refine SE.out.mono ?_
  rintro e w' ⟨rfl, rfl⟩
  have z := hx2.free
  obtain ⟨d0, d1, d2, d3, d4, d5, d6, d7, d8, d9⟩ :=  hx2.ten
  go_wp2_with fail
  have hkk := hx2.set10 (.int .i64 0) (.int .u64 0) (.int .u64 0) (.int .i64 0) (.int .i64 0) (.bool false) (.int .u64 0) (.slice none 0 0) (.slice none 0 0) (.slice none 0 0)
  obtain ⟨k0, k1, k2, k3, k4, k5, k6, k7, k8, k9⟩ := hkk.ten
  refine bodyPost_ret (v := .tuple #[zero12, .int .i64 q2]) (by simp [results, Try.results51, go_sem, zero12, k0, k1, k2, k3, k4, k5, k6, k7, k8, k9]) rfl (.inl ⟨q2, HS.out, HE.out, bad12, ?_⟩)
  repeat (with_reducible refine Below.setCell ?_ (by simp) _)
  exact HB2.out
end Go.Proofs.Ytaddhahghglabaa
