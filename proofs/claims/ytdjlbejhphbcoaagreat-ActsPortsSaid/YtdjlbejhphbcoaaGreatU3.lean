/- Put together out of several texts. -/
import Derived.Test.YtdjlbejhphbcoaaGreatU2
import Derived.Test.YtdjlbejhphbcoaaGreatU4
import Derived.Test.YtdjlbejhphbcoaaGreatU5
import Derived.WalkSmall
import Derived.Test.YtdjlbejhphbcoaaGreatU6
import Derived.Deep.RegionHeld3
import Derived.Deep.DeepCutAuto
import Derived.Test.YtdjlbejhphbcoaaGreatU1
import Derived.OpenShut
import Derived.ProofKit
import Derived.Deep.Slices
import Derived.Laws.BytesArg
namespace Go.Proofs.YtdjlbejhphbcoaaGreat
open Go.RowKit
set_option linter.unusedVariables false

/-- a value, boxed -/
theorem oxm_box (w : World) (C F : Int) (H : Bool) (X : Int) (va : Option Addr) (vl vc : Nat) (ma : Option Addr) (ml mc : Nat) : ∃ W, w.alloc (.cells #[.int .i64 C, .int .i64 F, .bool H, .int .u64 X, .slice va vl vc, .slice ma ml mc] 25) = W ∧ Below w.heap.size w W ∧ BoxL W w.heap.size [.int .i64 C, .int .i64 F, .bool H, .int .u64 X, .slice va vl vc, .slice ma ml mc] :=
  ⟨_, rfl, below_alloc _ _, BoxL.new _ _ _⟩

/-- whether Field and Exp have room -/
def room8 (C F X : Int) : Bool := if C = 65535 then decide (0 ≤ F ∧ F ≤ 127 ∧ X ≤ 4294967295) else decide (X = 0)
/-- how many bytes the mask must have -/
def maskZ (H : Bool) (vl : Nat) : Nat := if H then vl else 0
/-- how many pieces of as many bytes there are -/
def pieces8 (H : Bool) : Nat := if H then 2 else 1
/-- how many bytes stand behind the length -/
def behind8 (C : Int) (vl ml : Nat) : Nat := if C = 65535 then vl + ml + 4 else vl + ml

theorem hasRoom8_any (C F : Int) (H : Bool) (X : Int) (va : Option Addr) (vl vc : Nat) (ma : Option Addr) (ml mc : Nat) (w : World) :
    Calls Tryz.prog 116 #[.agg #[.int .i64 C, .int .i64 F, .bool H, .int .u64 X, .slice va vl vc, .slice ma ml mc]] w fun e w' => e = .returned (.bool (room8 C F X)) ∧ Below w.heap.size w w' := by
  by_cases h : C = 65535
  · subst h
    by_cases h0 : 0 ≤ F
    · by_cases h1 : F ≤ 127
      · have e : room8 65535 F X = decide (X ≤ 4294967295) := by simp [room8, h0, h1]
        rw [e]
        clear e
        go_enter Tryz.func116, Tryz.ntmps116
        go_wp2
        go_ret
        exact ⟨rfl, below_alloc _ _⟩
      · have e : room8 65535 F X = false := by simp [room8, h1]
        rw [e]
        clear e
        go_enter Tryz.func116, Tryz.ntmps116
        go_wp2
        go_ret
        exact ⟨rfl, below_alloc _ _⟩
    · have e : room8 65535 F X = false := by simp [room8, h0]
      rw [e]
      clear e
      go_enter Tryz.func116, Tryz.ntmps116
      go_wp2
      go_ret
      exact ⟨rfl, below_alloc _ _⟩
  · have e : room8 C F X = (X == 0) := by simp only [room8, if_neg h]; by_cases h4 : X = 0 <;> simp [h4]
    have e0 : (C == 65535) = false := by simpa using h
    rw [e]
    clear e h
    go_enter Tryz.func116, Tryz.ntmps116
    go_wp2
    go_ret
    exact ⟨rfl, below_alloc _ _⟩

theorem maskSize_any (C F : Int) (H : Bool) (X : Int) (va : Option Addr) (vl vc : Nat) (ma : Option Addr) (ml mc : Nat) (w : World) :
    Calls Tryz.prog 117 #[.agg #[.int .i64 C, .int .i64 F, .bool H, .int .u64 X, .slice va vl vc, .slice ma ml mc]] w fun e w' => e = .returned (.int .i64 (maskZ H vl)) ∧ Below w.heap.size w w' := by
  cases H
  all_goals
    go_enter Tryz.func117, Tryz.ntmps117
    go_wp2
    go_ret
    exact ⟨rfl, below_alloc _ _⟩

theorem pieces8_any (C F : Int) (H : Bool) (X : Int) (va : Option Addr) (vl vc : Nat) (ma : Option Addr) (ml mc : Nat) (w : World) :
    Calls Tryz.prog 146 #[.agg #[.int .i64 C, .int .i64 F, .bool H, .int .u64 X, .slice va vl vc, .slice ma ml mc]] w fun e w' => e = .returned (.int .i64 (pieces8 H)) ∧ Below w.heap.size w w' := by
  cases H
  all_goals
    go_enter Tryz.func146, Tryz.ntmps146
    go_wp2
    go_ret
    exact ⟨rfl, below_alloc _ _⟩

theorem behind8_any (C F : Int) (H : Bool) (X : Int) (va : Option Addr) (vl vc : Nat) (ma : Option Addr) (ml mc : Nat) (w : World) (hv : vl ≤ 1000000000) (hm : ml ≤ 1000000000) :
    Calls Tryz.prog 81 #[.agg #[.int .i64 C, .int .i64 F, .bool H, .int .u64 X, .slice va vl vc, .slice ma ml mc]] w fun e w' => e = .returned (.int .i64 (behind8 C vl ml)) ∧ Below w.heap.size w w' := by
  by_cases h : C = 65535
  · subst h
    go_enter Tryz.func81, Tryz.ntmps81
    go_wp2
    go_ret
    exact ⟨rfl, below_alloc _ _⟩
  · have e0 : (C == 65535) = false := by simpa using h
    have e : behind8 C vl ml = vl + ml := by simp [behind8, h]
    rw [e]
    clear e h
    go_enter Tryz.func81, Tryz.ntmps81
    go_wp2
    go_ret
    exact ⟨rfl, below_alloc _ _⟩
end Go.Proofs.YtdjlbejhphbcoaaGreat
namespace Go.Proofs.YtdjlbejhphbcoaaGreat
open Go.RowKit
set_option linter.unusedVariables false

/-- how many bits of a byte are 1 -/
def popB (p : Int) : Nat := (List.range 8).countP fun t => bitOn t p
theorem pop_of (d : ByteArray) (hd : d.size = 256) (ht : ∀ q : Fin 256, (d[q.val]'(by rw [hd]; exact q.isLt)).toNat = popB (q.val : Int)) (p : Int) (h0 : 0 ≤ p) (h1 : p ≤ 255) (hp : p.toNat < d.size) :
    wrap64 ((d[p.toNat]'hp).toNat : Int) = (popB p : Int) := by
  obtain ⟨q, rfl⟩ := Int.eq_ofNat_of_zero_le h0
  have e := ht ⟨q, by omega⟩
  have e2 : d[(q : Int).toNat]'hp = d[q]'(by omega) := rfl
  rw [e2, e]
  have h8 : popB (q : Int) ≤ 8 := by
    have := List.countP_le_length (p := fun t => bitOn t (q : Int)) (l := List.range 8)
    simpa [popB] using this
  generalize popB (q : Int) = n at h8
  rcases (show n = 0 ∨ n = 1 ∨ n = 2 ∨ n = 3 ∨ n = 4 ∨ n = 5 ∨ n = 6 ∨ n = 7 ∨ n = 8 by omega) with rfl | rfl | rfl | rfl | rfl | rfl | rfl | rfl | rfl <;> decide +kernel

set_option maxRecDepth 100000 in
theorem ones8_any (p : Int) (h0 : 0 ≤ p) (h1 : p ≤ 255) (w : World) :
    Calls Tryz.prog 168 #[.int .u8 p] w fun e w' => e = .returned (.int .i64 (popB p)) ∧ w' = w := by
  go_enter Tryz.func168, Tryz.ntmps168
  go_wp2_with fail
  go_ret
  refine ⟨ret_int ?_, rfl⟩
  exact pop_of _ (by decide +kernel) (by decide +kernel) p h0 h1 _

/-- how many bits of bytes are 1 -/
def pops (m : List Int) : Nat := (m.map popB).sum
theorem pops_snoc {m : List Int} {k : Nat} {x : Int} (h : m[k]? = some x) : pops (m.take (k + 1)) = pops (m.take k) + popB x := by
  unfold pops
  rw [List.take_add_one, h]
  simp
theorem popB_le (p : Int) : popB p ≤ 8 := by
  have := List.countP_le_length (p := fun t => bitOn t p) (l := List.range 8)
  simpa [popB] using this
theorem pops_le (m : List Int) : pops m ≤ 8 * m.length := by
  induction m with
  | nil => simp [pops]
  | cons x r ih => have := popB_le x; simp only [pops, List.map_cons, List.sum_cons, List.length_cons] at *; omega
/-- what is not in a mask -/
def outB (x y : Int) : Bool := bits BinOp.andNot IntKind.u8 x y != 0
/-- whether each bit of a value is one of the mask -/
def insideB (v m : List Int) : Bool := (List.range v.length).all fun i => !outB (v.getD i 0) (m.getD i 0)
theorem inside_yes {v m : List Int} (h : ∀ i, i < v.length → outB (v.getD i 0) (m.getD i 0) = false) : insideB v m = true := by
  unfold insideB
  rw [List.all_eq_true]
  intro j hj
  rw [h j (by simpa using hj)]
  rfl
theorem inside_no {v m : List Int} {i : Nat} (hi : i < v.length) (h : outB (v.getD i 0) (m.getD i 0) = true) : insideB v m = false := by
  unfold insideB
  rw [List.all_eq_false]
  exact ⟨i, by simpa using hi, by rw [h]; simp⟩
/-- what is wrong of a mask of so many bits, and of the value under it -/
def maskE (v m : List Int) (n : Int) : Int := if pops m = 0 ∨ (pops m : Int) = n then 1033 else if insideB v m then 0 else 1030

set_option maxRecDepth 100000 in
set_option maxHeartbeats 1000000 in
theorem wrongMask_any (C F : Int) (H : Bool) (X : Int) (va : Option Addr) (vl vc : Nat) (ma : Option Addr) (ml mc : Nat) (v m : List Int) (n : Int) (ev : vl = v.length) (em : ml = m.length) (hvm : v.length ≤ m.length) (hm : m.length ≤ 1000) (hmc : ml ≤ mc) (ov : Octets v) (om : Octets m) (w : World) (iv : Ints .u8 w va v) (im : Ints .u8 w ma m) :
    Calls Tryz.prog 148 #[.agg #[.int .i64 C, .int .i64 F, .bool H, .int .u64 X, .slice va vl vc, .slice ma ml mc], .int .i64 n] w fun e w' => e = .returned (.int .i64 (maskE v m n)) ∧ Below w.heap.size w w' := by
  subst ev
  subst em
  obtain ⟨W, hW, hbW, hbox⟩ := oxm_box w C F H X va v.length vc ma m.length mc
  have HW := hid hW
  have IV := hid (iv.below hbW)
  have IM := hid (im.below hbW)
  have HB := hid hbW
  have OV := hid ov
  have OM := hid om
  obtain ⟨d0, d1, d2, d3, d4, d5⟩ := hbox.six
  clear hW iv im hbW ov om
  go_enter Tryz.func148, Tryz.ntmps148
  go_wp2_with fail
  rw [HW.out]
  go_wp2_with fail
  go_loop [5, 13] (fun s i => ∃ k : Nat, k ≤ m.length ∧ i = .int .i64 k ∧ s = .int .i64 ((pops (m.take k) : Nat) : Int)) (fun _ i => m.length - (intOf i).toNat)
  case atStart => exact ⟨0, Nat.zero_le _, rfl, rfl⟩
  case round =>
    obtain ⟨k, hk, rfl, rfl⟩ := hrel
    by_cases hlt : k < m.length
    · obtain ⟨b, off, x, rfl, hcell, hx⟩ := IM.out.at hlt
      obtain ⟨x1, x2⟩ := OM.out.get hx.out
      have hs := hid (pops_snoc hx.out)
      have h8 := popB_le x
      have hq1 := pops_le (m.take k)
      rw [List.length_take] at hq1
      have hq2 : pops (m.take k) ≤ 8000 := by omega
      clear hq1
      go_wp2_with (go_at_call 168; refine (ones8_any x x1 x2 _).mono ?_; rintro e w' ⟨rfl, rfl⟩)
      go_round
      case rel => exact ⟨k + 1, by omega, by go_num, by rw [hs.out]; simp⟩
      case measure => simp [intOf]; omega
    · have e : pops (m.take k) = pops m := by rw [List.take_of_length_le (by omega)]
      rw [e]
      clear e hk
      obtain ⟨q, hq⟩ : ∃ q, pops m = q := ⟨_, rfl⟩
      rw [hq]
      have hlt2 : ¬ (k : Int) < (m.length : Int) := by omega
      by_cases h0 : q = 0
      · subst h0
        have E := hid (show maskE v m n = 1033 by simp [maskE, hq])
        clear hq hlt
        go_wp2_with fail
        go_ret
        exact ⟨ret_int E.out.symm, HB.out⟩
      have i0 : ((q : Int) == 0) = false := by simp; omega
      by_cases h1 : (q : Int) = n
      · have E := hid (show maskE v m n = 1033 by simp [maskE, hq, h1])
        have i1 : ((q : Int) == n) = true := by simp [h1]
        clear hq hlt h0 h1
        go_wp2_with fail
        go_ret
        exact ⟨ret_int E.out.symm, HB.out⟩
      have i1 : ((q : Int) == n) = false := by simpa using h1
      have E := hid (show maskE v m n = if insideB v m then 0 else 1030 by simp [maskE, hq, h0, h1])
      clear hq hlt h0 h1
      go_wp2_with fail
      go_loop [32] (fun i => ∃ k : Nat, k ≤ v.length ∧ i = .int .i64 k ∧ Hid (∀ j, j < k → outB (v.getD j 0) (m.getD j 0) = false)) (fun i => v.length - (intOf i).toNat)
      case atStart => exact ⟨0, Nat.zero_le _, rfl, fun j h => by omega⟩
      case round =>
        obtain ⟨k, hk, rfl, hall⟩ := hrel
        by_cases hlt : k < v.length
        · obtain ⟨b, off, x, rfl, hcell, hx⟩ := IV.out.at hlt
          obtain ⟨b2, off2, y, rfl, hcell2, hy⟩ := IM.out.at (show k < m.length by omega)
          have px := getD_of hx.out
          have py := getD_of hy.out
          have hk2 : (k : Int) < (m.length : Int) := by omega
          cases hq : outB x y
          · have HN := hid (upto_more (P := fun j => outB (v.getD j 0) (m.getD j 0) = false) hall.out (by rw [px, py]; exact hq))
            have hq2 : (bits BinOp.andNot IntKind.u8 x y != 0) = false := hq
            clear hq px py
            go_wp2_with fail
            go_round
            case rel => exact ⟨k + 1, by omega, by go_num, HN⟩
            case measure => simp [intOf]; omega
          · have HN := hid (inside_no (m := m) hlt (by rw [px, py]; exact hq))
            have hq2 : (bits BinOp.andNot IntKind.u8 x y != 0) = true := hq
            clear hq px py
            go_wp2_with fail
            go_ret
            exact ⟨ret_int (by rw [E.out, HN.out]; rfl), HB.out⟩
        · obtain rfl : k = v.length := by omega
          have HN := hid (inside_yes (m := m) hall.out)
          go_wp2_with fail
          go_ret
          exact ⟨ret_int (by rw [E.out, HN.out]; rfl), HB.out⟩
end Go.Proofs.YtdjlbejhphbcoaaGreat
namespace Go.Proofs.YtdjlbejhphbcoaaGreat
open Go.RowKit
set_option linter.unusedVariables false

/-- whether the lowest bits are 1 -/
def onesB (m : List Int) (n : Nat) : Bool := (List.range n).all fun k => bitOn k (m.getD (m.length - 1 - k / 8) 0)
theorem below_drewN (w : World) (n : Nat) : Below w.heap.size w (w.drewN n) := by_none_below (by_none_drewN w n)
end Go.Proofs.YtdjlbejhphbcoaaGreat
namespace Go.Proofs.YtdjlbejhphbcoaaGreat
open Go.RowKit
set_option linter.unusedVariables false

end Go.Proofs.YtdjlbejhphbcoaaGreat
namespace Go.Proofs.YtdjlbejhphbcoaaGreat
open Go.RowKit
set_option linter.unusedVariables false

/-- what is wrong first with Class, Field, Has and the length of what is behind -/
def headE (C F : Int) (H : Bool) (n : Int) : Int :=
  if C = 32768 then (if ¬ (0 ≤ F ∧ F < 40) then 1031 else if (H && !(fld F).m) = true then 1033 else if n ≠ ((fld F).z : Int) * pieces8 H then 1026 else 0)
  else if C = 65535 then (if n - 4 < 0 ∨ (n - 4) % (pieces8 H : Int) ≠ 0 ∨ 100 * (pieces8 H : Int) < n - 4 then 1026 else 0)
  else 1031

theorem pieces8_off (C F X : Int) (va : Option Addr) (vl vc : Nat) (ma : Option Addr) (ml mc : Nat) (W : World) :
    Calls Tryz.prog 146 #[.agg #[.int .i64 C, .int .i64 F, .bool false, .int .u64 X, .slice va vl vc, .slice ma ml mc]] W fun e w' => e = .returned (.int .i64 1) ∧ Below W.heap.size W w' :=
  pieces8_any C F false X va vl vc ma ml mc W
theorem pieces8_on (C F X : Int) (va : Option Addr) (vl vc : Nat) (ma : Option Addr) (ml mc : Nat) (W : World) :
    Calls Tryz.prog 146 #[.agg #[.int .i64 C, .int .i64 F, .bool true, .int .u64 X, .slice va vl vc, .slice ma ml mc]] W fun e w' => e = .returned (.int .i64 2) ∧ Below W.heap.size W w' :=
  pieces8_any C F true X va vl vc ma ml mc W
/-- a field, boxed -/
theorem fld_box (w : World) (b z : Int) (m : Bool) (d : Int) (v : Value) : ∃ W, w.alloc (.cells #[.int .i64 b, .int .i64 z, .bool m, .int .i64 d, v] 170) = W ∧ Below w.heap.size w W ∧ BoxL W w.heap.size [.int .i64 b, .int .i64 z, .bool m, .int .i64 d, v] :=
  ⟨_, rfl, below_alloc _ _, BoxL.new _ _ _⟩

set_option maxRecDepth 100000 in
set_option maxHeartbeats 1000000 in
theorem wrongHead_basic (F : Int) (H : Bool) (X : Int) (va : Option Addr) (vl vc : Nat) (ma : Option Addr) (ml mc : Nat) (n : Int) (w : World) :
    Calls Tryz.prog 118 #[.agg #[.int .i64 32768, .int .i64 F, .bool H, .int .u64 X, .slice va vl vc, .slice ma ml mc], .int .i64 n] w fun e w' => e = .returned (.int .i64 (headE 32768 F H n)) ∧ Below w.heap.size w w' := by
  obtain ⟨W, hW, hbW, hbox⟩ := oxm_box w 32768 F H X va vl vc ma ml mc
  have HW := hid hW
  have HB := hid hbW
  have HO := fun W => fldOf_any F W
  have HP := hid (fun W => pieces8_any 32768 F H X va vl vc ma ml mc W)
  obtain ⟨d0, d1, d2, d3, d4, d5⟩ := hbox.six
  by_cases hF : 0 ≤ F ∧ F < 40
  · have he : headE 32768 F H n = if (H && !(fld F).m) = true then 1033 else if n ≠ ((fld F).z : Int) * pieces8 H then 1026 else 0 := by simp [headE, hF]
    rw [he]
    rw [decide_eq_true hF] at HO
    have hz : ((fld F).z : Int) ≤ 16 := by have := (fld_dims hF).2.2.2; omega
    clear he
    obtain ⟨f, hf⟩ : ∃ f, fld F = f := ⟨_, rfl⟩
    rw [hf] at HO hz ⊢
    unfold fldV at HO
    have HO := hid HO
    clear hW hbW hf hF
    rcases (show (H = true ∧ f.m = false) ∨ (H = false ∨ H = true ∧ f.m = true) by cases H <;> cases f.m <;> simp) with ⟨rfl, hfm⟩ | rfl | ⟨rfl, hfm⟩
    · rw [hfm] at HO ⊢
      clear hfm
      go_enter Tryz.func118, Tryz.ntmps118
      go_wp2_with fail
      rw [HW.out]
      go_wp2_with fail
      refine (HO.out _).mono ?_
      rintro e w1 ⟨v, rfl, ⟨a', c', rfl, hI⟩, hb⟩
      clear hI
      have hbx := hbox.below hb
      have hlt := hbx.lt
      have n2 : ¬ w.heap.size = w1.heap.size := by omega
      obtain ⟨d0, d1, d2, d3, d4, d5⟩ := hbx.six
      have HB1 := hid (below_on HB.out hb)
      go_wp2_with fail
      go_ret
      exact ⟨rfl, below_on HB1.out (below_alloc _ _)⟩
    · have e : (if (false && !f.m) = true then 1033 else if n ≠ (f.z : Int) * (pieces8 false : Nat) then 1026 else 0 : Int) = if n ≠ (f.z : Int) * (pieces8 false : Nat) then 1026 else 0 := by simp
      rw [e]
      clear e
      replace HP := hid (fun W => (pieces8_off 32768 F X va vl vc ma ml mc W))
      obtain ⟨r, hr⟩ : ∃ r : Int, ((f.z : Int) : Int) = r := ⟨_, rfl⟩
      by_cases hn : n = (f.z : Int)
      · have e : (if n ≠ (f.z : Int) * (pieces8 false : Nat) then 1026 else 0 : Int) = 0 := by simp [pieces8, hn]
        rw [e]
        have hn2 : (n != (f.z : Int)) = false := by simpa using hn
        clear e hr hn
        go_enter Tryz.func118, Tryz.ntmps118
        go_wp2_with fail
        rw [HW.out]
        go_wp2_with fail
        refine (HO.out _).mono ?_
        rintro e w1 ⟨v, rfl, ⟨a', c', rfl, hI⟩, hb⟩
        clear hI
        have hbx := hbox.below hb
        have hlt := hbx.lt
        have n2 : ¬ w.heap.size = w1.heap.size := by omega
        obtain ⟨d0, d1, d2, d3, d4, d5⟩ := hbx.six
        have HB1 := hid (below_on HB.out hb)
        go_wp2_with fail
        obtain ⟨W1, rfl, hbW1, hbox1⟩ := fld_box w1 f.b f.z f.m f.d (.slice a' f.v.length c')
        have HB2 := hid (below_on HB1.out hbW1)
        clear d0 d1 d2 d3 d4 d5
        obtain ⟨d0, d1, d2, d3, d4, d5⟩ := (hbx.below hbW1).six
        have c0 := Wk.cell d0
        have c1 := Wk.cell d1
        have c2 := Wk.cell d2
        have c3 := Wk.cell d3
        have c4 := Wk.cell d4
        have c5 := Wk.cell d5
        obtain ⟨_, g1, _, _, _⟩ := hbox1.five
        have k1 := Wk.cell g1
        clear d0 d1 d2 d3 d4 d5 g1
        refine wp_region_wk (by kernel_rfl) (by kernel_rfl) ?_
        repeat (go_big_quiet_step ((go_at_call 146; exact Wk.call (HP.out _))))
        refine wpQuiet_nil ?_
        rintro w2 ⟨⟨_, hb2⟩, rfl⟩
        go_wp2_with fail
        go_ret
        exact ⟨rfl, below_on HB2.out hb2⟩
      · have e : (if n ≠ (f.z : Int) * (pieces8 false : Nat) then 1026 else 0 : Int) = 1026 := by simp [pieces8, hn]
        rw [e]
        have hn2 : (n != (f.z : Int)) = true := by simpa using hn
        clear e hr hn
        go_enter Tryz.func118, Tryz.ntmps118
        go_wp2_with fail
        rw [HW.out]
        go_wp2_with fail
        refine (HO.out _).mono ?_
        rintro e w1 ⟨v, rfl, ⟨a', c', rfl, hI⟩, hb⟩
        clear hI
        have hbx := hbox.below hb
        have hlt := hbx.lt
        have n2 : ¬ w.heap.size = w1.heap.size := by omega
        obtain ⟨d0, d1, d2, d3, d4, d5⟩ := hbx.six
        have HB1 := hid (below_on HB.out hb)
        go_wp2_with fail
        obtain ⟨W1, rfl, hbW1, hbox1⟩ := fld_box w1 f.b f.z f.m f.d (.slice a' f.v.length c')
        have HB2 := hid (below_on HB1.out hbW1)
        clear d0 d1 d2 d3 d4 d5
        obtain ⟨d0, d1, d2, d3, d4, d5⟩ := (hbx.below hbW1).six
        have c0 := Wk.cell d0
        have c1 := Wk.cell d1
        have c2 := Wk.cell d2
        have c3 := Wk.cell d3
        have c4 := Wk.cell d4
        have c5 := Wk.cell d5
        obtain ⟨_, g1, _, _, _⟩ := hbox1.five
        have k1 := Wk.cell g1
        clear d0 d1 d2 d3 d4 d5 g1
        refine wp_region_wk (by kernel_rfl) (by kernel_rfl) ?_
        repeat (go_big_quiet_step ((go_at_call 146; exact Wk.call (HP.out _))))
        refine wpQuiet_nil ?_
        rintro w2 ⟨⟨_, hb2⟩, rfl⟩
        go_wp2_with fail
        go_ret
        exact ⟨rfl, below_on HB2.out hb2⟩
    · have e : (if (true && !f.m) = true then 1033 else if n ≠ (f.z : Int) * (pieces8 true : Nat) then 1026 else 0 : Int) = if n ≠ (f.z : Int) * (pieces8 true : Nat) then 1026 else 0 := by simp [hfm]
      rw [e]
      clear e
      rw [hfm] at HO
      clear hfm
      replace HP := hid (fun W => (pieces8_on 32768 F X va vl vc ma ml mc W))
      obtain ⟨r, hr⟩ : ∃ r : Int, ((f.z : Int) * 2 : Int) = r := ⟨_, rfl⟩
      by_cases hn : n = (f.z : Int) * 2
      · have e : (if n ≠ (f.z : Int) * (pieces8 true : Nat) then 1026 else 0 : Int) = 0 := by simp [pieces8, hn]
        rw [e]
        have hn2 : (n != (f.z : Int) * 2) = false := by simpa using hn
        clear e hr hn
        go_enter Tryz.func118, Tryz.ntmps118
        go_wp2_with fail
        rw [HW.out]
        go_wp2_with fail
        refine (HO.out _).mono ?_
        rintro e w1 ⟨v, rfl, ⟨a', c', rfl, hI⟩, hb⟩
        clear hI
        have hbx := hbox.below hb
        have hlt := hbx.lt
        have n2 : ¬ w.heap.size = w1.heap.size := by omega
        obtain ⟨d0, d1, d2, d3, d4, d5⟩ := hbx.six
        have HB1 := hid (below_on HB.out hb)
        go_wp2_with fail
        obtain ⟨W1, rfl, hbW1, hbox1⟩ := fld_box w1 f.b f.z true f.d (.slice a' f.v.length c')
        have HB2 := hid (below_on HB1.out hbW1)
        clear d0 d1 d2 d3 d4 d5
        obtain ⟨d0, d1, d2, d3, d4, d5⟩ := (hbx.below hbW1).six
        have c0 := Wk.cell d0
        have c1 := Wk.cell d1
        have c2 := Wk.cell d2
        have c3 := Wk.cell d3
        have c4 := Wk.cell d4
        have c5 := Wk.cell d5
        obtain ⟨_, g1, _, _, _⟩ := hbox1.five
        have k1 := Wk.cell g1
        clear d0 d1 d2 d3 d4 d5 g1
        refine wp_region_wk (by kernel_rfl) (by kernel_rfl) ?_
        repeat (go_big_quiet_step ((go_at_call 146; exact Wk.call (HP.out _))))
        refine wpQuiet_nil ?_
        rintro w2 ⟨⟨_, hb2⟩, rfl⟩
        go_wp2_with fail
        go_ret
        exact ⟨rfl, below_on HB2.out hb2⟩
      · have e : (if n ≠ (f.z : Int) * (pieces8 true : Nat) then 1026 else 0 : Int) = 1026 := by simp [pieces8, hn]
        rw [e]
        have hn2 : (n != (f.z : Int) * 2) = true := by simpa using hn
        clear e hr hn
        go_enter Tryz.func118, Tryz.ntmps118
        go_wp2_with fail
        rw [HW.out]
        go_wp2_with fail
        refine (HO.out _).mono ?_
        rintro e w1 ⟨v, rfl, ⟨a', c', rfl, hI⟩, hb⟩
        clear hI
        have hbx := hbox.below hb
        have hlt := hbx.lt
        have n2 : ¬ w.heap.size = w1.heap.size := by omega
        obtain ⟨d0, d1, d2, d3, d4, d5⟩ := hbx.six
        have HB1 := hid (below_on HB.out hb)
        go_wp2_with fail
        obtain ⟨W1, rfl, hbW1, hbox1⟩ := fld_box w1 f.b f.z true f.d (.slice a' f.v.length c')
        have HB2 := hid (below_on HB1.out hbW1)
        clear d0 d1 d2 d3 d4 d5
        obtain ⟨d0, d1, d2, d3, d4, d5⟩ := (hbx.below hbW1).six
        have c0 := Wk.cell d0
        have c1 := Wk.cell d1
        have c2 := Wk.cell d2
        have c3 := Wk.cell d3
        have c4 := Wk.cell d4
        have c5 := Wk.cell d5
        obtain ⟨_, g1, _, _, _⟩ := hbox1.five
        have k1 := Wk.cell g1
        clear d0 d1 d2 d3 d4 d5 g1
        refine wp_region_wk (by kernel_rfl) (by kernel_rfl) ?_
        repeat (go_big_quiet_step ((go_at_call 146; exact Wk.call (HP.out _))))
        refine wpQuiet_nil ?_
        rintro w2 ⟨⟨_, hb2⟩, rfl⟩
        go_wp2_with fail
        go_ret
        exact ⟨rfl, below_on HB2.out hb2⟩
  · have he : headE 32768 F H n = 1031 := by simp [headE, hF]
    rw [he]
    rw [decide_eq_false hF, fld_out hF] at HO
    unfold fldV at HO
    have HO := hid HO
    clear hW hbW hF he
    go_enter Tryz.func118, Tryz.ntmps118
    go_wp2_with fail
    rw [HW.out]
    go_wp2_with fail
    refine (HO.out _).mono ?_
    rintro e w1 ⟨v, rfl, ⟨a', c', rfl, hI⟩, hb⟩
    clear hI
    go_wp2_with fail
    go_ret
    exact ⟨rfl, below_on (below_on HB.out hb) (below_alloc _ _)⟩

set_option maxRecDepth 100000 in
set_option maxHeartbeats 1000000 in
theorem wrongHead_extra (F : Int) (H : Bool) (X : Int) (va : Option Addr) (vl vc : Nat) (ma : Option Addr) (ml mc : Nat) (n : Int) (w : World) (h0 : 0 ≤ n) (h1 : n ≤ 100000) :
    Calls Tryz.prog 118 #[.agg #[.int .i64 65535, .int .i64 F, .bool H, .int .u64 X, .slice va vl vc, .slice ma ml mc], .int .i64 n] w fun e w' => e = .returned (.int .i64 (headE 65535 F H n)) ∧ Below w.heap.size w w' := by
  obtain ⟨W, hW, hbW, hbox⟩ := oxm_box w 65535 F H X va vl vc ma ml mc
  have HW := hid hW
  have HB := hid hbW
  obtain ⟨d0, d1, d2, d3, d4, d5⟩ := hbox.six
  clear hW hbW
  by_cases hn : n - 4 < 0
  · have e : headE 65535 F H n = 1026 := by simp [headE, hn]
    rw [e]
    clear e
    go_enter Tryz.func118, Tryz.ntmps118
    go_wp2_with fail
    rw [HW.out]
    go_wp2_with fail
    go_ret
    exact ⟨rfl, HB.out⟩
  · cases H
    · have HP := hid (fun W => pieces8_off 65535 F X va vl vc ma ml mc W)
      have e : headE 65535 F false n = if 100 < n - 4 then 1026 else 0 := by simp [headE, hn, pieces8, Int.emod_one]
      rw [e]
      clear e
      by_cases hm : 100 < n - 4
      · rw [if_pos hm]
        go_enter Tryz.func118, Tryz.ntmps118
        go_wp2_with fail
        rw [HW.out]
        go_wp2_with fail
        refine (HP.out _).mono ?_
        rintro e w1 ⟨rfl, hb1⟩
        clear d0 d1 d2 d3 d4 d5
        obtain ⟨d0, d1, d2, d3, d4, d5⟩ := (hbox.below hb1).six
        go_wp2_with fail
        refine (HP.out _).mono ?_
        rintro e w2 ⟨rfl, hb2⟩
        go_wp2_with fail
        go_ret
        exact ⟨rfl, below_on (below_on HB.out hb1) hb2⟩
      · rw [if_neg hm]
        go_enter Tryz.func118, Tryz.ntmps118
        go_wp2_with fail
        rw [HW.out]
        go_wp2_with fail
        refine (HP.out _).mono ?_
        rintro e w1 ⟨rfl, hb1⟩
        clear d0 d1 d2 d3 d4 d5
        obtain ⟨d0, d1, d2, d3, d4, d5⟩ := (hbox.below hb1).six
        go_wp2_with fail
        refine (HP.out _).mono ?_
        rintro e w2 ⟨rfl, hb2⟩
        go_wp2_with fail
        go_ret
        exact ⟨rfl, below_on (below_on HB.out hb1) hb2⟩
    · have HP := hid (fun W => pieces8_on 65535 F X va vl vc ma ml mc W)
      by_cases hr : (n - 4) % 2 = 0
      · have hr2 : ((n - 4) % 2 != 0) = false := by simpa using hr
        have e : headE 65535 F true n = if 200 < n - 4 then 1026 else 0 := by simp [headE, hn, pieces8, hr]
        rw [e]
        clear e hr
        by_cases hm : 200 < n - 4
        · rw [if_pos hm]
          go_enter Tryz.func118, Tryz.ntmps118
          go_wp2_with fail
          rw [HW.out]
          go_wp2_with fail
          refine (HP.out _).mono ?_
          rintro e w1 ⟨rfl, hb1⟩
          clear d0 d1 d2 d3 d4 d5
          obtain ⟨d0, d1, d2, d3, d4, d5⟩ := (hbox.below hb1).six
          go_wp2_with fail
          refine (HP.out _).mono ?_
          rintro e w2 ⟨rfl, hb2⟩
          go_wp2_with fail
          go_ret
          exact ⟨rfl, below_on (below_on HB.out hb1) hb2⟩
        · rw [if_neg hm]
          go_enter Tryz.func118, Tryz.ntmps118
          go_wp2_with fail
          rw [HW.out]
          go_wp2_with fail
          refine (HP.out _).mono ?_
          rintro e w1 ⟨rfl, hb1⟩
          clear d0 d1 d2 d3 d4 d5
          obtain ⟨d0, d1, d2, d3, d4, d5⟩ := (hbox.below hb1).six
          go_wp2_with fail
          refine (HP.out _).mono ?_
          rintro e w2 ⟨rfl, hb2⟩
          go_wp2_with fail
          go_ret
          exact ⟨rfl, below_on (below_on HB.out hb1) hb2⟩
      · have hr2 : ((n - 4) % 2 != 0) = true := by simpa using hr
        have e : headE 65535 F true n = 1026 := by simp [headE, pieces8, hr]
        rw [e]
        clear e hr
        go_enter Tryz.func118, Tryz.ntmps118
        go_wp2_with fail
        rw [HW.out]
        go_wp2_with fail
        refine (HP.out _).mono ?_
        rintro e w1 ⟨rfl, hb1⟩
        clear d0 d1 d2 d3 d4 d5
        obtain ⟨d0, d1, d2, d3, d4, d5⟩ := (hbox.below hb1).six
        go_wp2_with fail
        go_ret
        exact ⟨rfl, below_on HB.out hb1⟩

set_option maxRecDepth 100000 in
theorem wrongHead_none (C F : Int) (hb : (C == 32768) = false) (hx : (C == 65535) = false) (H : Bool) (X : Int) (va : Option Addr) (vl vc : Nat) (ma : Option Addr) (ml mc : Nat) (n : Int) (w : World) :
    Calls Tryz.prog 118 #[.agg #[.int .i64 C, .int .i64 F, .bool H, .int .u64 X, .slice va vl vc, .slice ma ml mc], .int .i64 n] w fun e w' => e = .returned (.int .i64 (headE C F H n)) ∧ Below w.heap.size w w' := by
  have e : headE C F H n = 1031 := by
    have h1 : C ≠ 32768 := by simpa using hb
    have h2 : C ≠ 65535 := by simpa using hx
    simp [headE, h1, h2]
  rw [e]
  clear e
  go_enter Tryz.func118, Tryz.ntmps118
  go_wp2
  go_ret
  exact ⟨rfl, below_alloc _ _⟩

theorem wrongHead_any (C F : Int) (H : Bool) (X : Int) (va : Option Addr) (vl vc : Nat) (ma : Option Addr) (ml mc : Nat) (n : Int) (w : World) (h0 : 0 ≤ n) (h1 : n ≤ 100000) :
    Calls Tryz.prog 118 #[.agg #[.int .i64 C, .int .i64 F, .bool H, .int .u64 X, .slice va vl vc, .slice ma ml mc], .int .i64 n] w fun e w' => e = .returned (.int .i64 (headE C F H n)) ∧ Below w.heap.size w w' := by
  by_cases hb : C = 32768
  · subst hb
    exact wrongHead_basic F H X va vl vc ma ml mc n w
  · by_cases hx : C = 65535
    · subst hx
      exact wrongHead_extra F H X va vl vc ma ml mc n w h0 h1
    · exact wrongHead_none C F (by simpa using hb) (by simpa using hx) H X va vl vc ma ml mc n w
end Go.Proofs.YtdjlbejhphbcoaaGreat
namespace Go.Proofs.YtdjlbejhphbcoaaGreat
open Go.RowKit
set_option linter.unusedVariables false

/-- whether the lowest bit of a number is 1 -/
def oddB (n : Int) : Bool := n % 2 == 1
theorem num_byte {l : List Int} (ho : Octets l) : 0 ≤ numL (l.take 1) ∧ numL (l.take 1) ≤ 255 := by
  have h := numL_snoc_bound (ho.take 1)
  have h1 : (l.take 1).length ≤ 1 := by rw [List.length_take]; omega
  have h2 := p256_mono h1
  have h3 : p256 1 = 256 := by decide
  omega
theorem num_two {l : List Int} (ho : Octets l) : 0 ≤ numL (l.take 2) ∧ numL (l.take 2) ≤ 65535 := by
  have h := numL_snoc_bound (ho.take 2)
  have h1 : (l.take 2).length ≤ 2 := by rw [List.length_take]; omega
  have h2 := p256_mono h1
  have h3 : p256 2 = 65536 := by decide
  omega
/-- a store into a block that is new -/
theorem by_set_new {w w1 : World} {row : Option Nat} (h : w.grownBy w1 row) {b i : Nat} (hb : w.heap.size ≤ b) (v : Value) : w.grownBy (w1.setCell ⟨b, i, none⟩ v) row :=
  grownBy_trans h (by_setCell w1 b i v) (.inr fun g hg => by cases hg; exact hb)
theorem by_new_row {w W w1 : World} {g : Nat} (h : w.grownBy W none) (k : W.grownBy w1 (some g)) : w.grownBy w1 (some g) := grownBy_then (grownBy_more h) k
/-- what has been read of a head, in a box -/
theorem box_by {w w' : World} {b g : Nat} {l : List Value} (h : BoxL w b l) (hb : w.grownBy w' (some g)) (hne : b ≠ g) : BoxL w' b l := h.by hb (by simpa using hne)

section
variable {w : World} {g M : Nat} {l : List Int} {r s o : Int}
set_option maxRecDepth 100000 in
set_option maxHeartbeats 2000000 in
theorem readHead8_ok (h : Cur w g M l r s o 0) (hM : M < w.heap.size) (hl : 4 ≤ l.length) {C n L : Int} (hC : numL (l.take 2) = C) (hn : numL ((l.drop 2).take 1) = n) (hL : numL (((l.drop 2).drop 1).take 1) = L) :
    Calls Tryz.prog 169 #[.func (.func 126) #[.pointer (some ⟨g, 0, none⟩)] #[]] w fun e w' => e = .returned (.tuple #[.agg #[.int .i64 C, .int .i64 (n / 2), .bool (oddB n), .int .u64 0, .slice none 0 0, .slice none 0 0], .int .i64 L]) ∧ Cur w' g M (((l.drop 2).drop 1).drop 1) (r + 2 + 1 + 1) s o 0 ∧ w.grownBy w' (some g) := by
  have oct := h.oct
  have hg := h.block_lt
  obtain ⟨W, hW, hbW, hbox⟩ := oxm_box w 0 0 false 0 none 0 0 none 0 0
  have HW := hid hW
  have hcW := h.below hbW
  have hcWX := hid hcW
  have HBW := hid (below_by_none hbW)
  have hne : w.heap.size ≠ g := by omega
  have hMW : M ≠ w.heap.size := by omega
  clear hW hbW
  have c0 := num_two oct
  have n0 := num_byte (oct.drop 2)
  have L0 := num_byte ((oct.drop 2).drop 1)
  rw [hC] at c0
  rw [hn] at n0
  rw [hL] at L0
  obtain ⟨c1, c2⟩ := c0
  obtain ⟨n1, n2⟩ := n0
  obtain ⟨L1, L2⟩ := L0
  have HC := hid hC
  have HN := hid hn
  have HL := hid hL
  have ho := and_one_u64 n n1 (by omega)
  clear hC hn hL oct
  go_enter Tryz.func169, Tryz.ntmps169
  have HX := hid (hcW.num_ok (n := 2) (by decide) (by decide) (by omega))
  clear hcW
  go_wp2_with fail
  rw [HW.out]
  refine HX.out.mono ?_
  rintro e w1 ⟨rfl, hc1, hb⟩
  have hbx1 := box_by hbox hb hne
  have HB1 := hid (by_new_row HBW.out hb)
  rw [HC.out]
  have hc1X := hid hc1
  clear hb HX
  have HX := hid (hc1.num_ok (n := 1) (by decide) (by decide) (by simp only [List.length_drop]; omega))
  clear hc1
  go_wp2_with fail
  refine HX.out.mono ?_
  rintro e w2 ⟨rfl, hc2, hb⟩
  have hbx2 := box_by hbx1 hb hne
  have HB2 := hid (grownBy_then HB1.out hb)
  rw [HN.out]
  have hc2X := hid hc2
  clear hb HX
  have HX := hid (hc2.num_ok (n := 1) (by decide) (by decide) (by simp only [List.length_drop]; omega))
  clear hc2
  go_wp2_with fail
  refine HX.out.mono ?_
  rintro e w3 ⟨rfl, hc3, hb⟩
  have hbx3 := box_by hbx2 hb hne
  have HB3 := hid (grownBy_then HB2.out hb)
  rw [HL.out]
  have hc3X := hid hc3
  clear hb HX
  have z := hbx3.free
  obtain ⟨d0, d1, d2, d3, d4, d5⟩ := hbx3.six
  clear hc3
  go_wp2_with fail
  have hk := hbx3.set6 (.int .i64 C) (.int .i64 (n / 2)) (.bool (n % 2 == 1)) (.int .u64 0) (.slice none 0 0) (.slice none 0 0)
  obtain ⟨k0, k1, k2, k3, k4, k5⟩ := hk.six
  refine bodyPost_ret (v := .tuple #[.agg #[.int .i64 C, .int .i64 (n / 2), .bool (n % 2 == 1), .int .u64 0, .slice none 0 0, .slice none 0 0], .int .i64 L]) (by simp [results, Tryz.results169, go_sem, k0, k1, k2, k3, k4, k5]) rfl ⟨rfl, ?_, ?_⟩
  · repeat (refine Cur.kept ?_ (by_setCell _ _ _ _) (by simpa using hne) (by simpa using fun e => hMW e.symm))
    exact hc3X.out
  · repeat (refine by_set_new ?_ (Nat.le_refl _) _)
    exact HB3.out

theorem and_zero8 : bits BinOp.and IntKind.u64 0 1 = 0 := by decide +kernel
/-- what is read of too few bytes -/
def HeadShort (w : World) (g M : Nat) (s o : Int) (e : Ending) (w' : World) : Prop :=
  ∃ (C n r : Int) (l : List Int), (0 ≤ n ∧ n ≤ 255) ∧ e = .returned (.tuple #[.agg #[.int .i64 C, .int .i64 (n / 2), .bool (oddB n), .int .u64 0, .slice none 0 0, .slice none 0 0], .int .i64 0]) ∧ Cur w' g M l r s o s ∧ w.grownBy w' (some g)
set_option maxRecDepth 100000 in
set_option maxHeartbeats 2000000 in
theorem readHead8_short (h : Cur w g M l r s o 0) (hs : s ≠ 0) (hM : M < w.heap.size) (hl : l.length < 4) :
    Calls Tryz.prog 169 #[.func (.func 126) #[.pointer (some ⟨g, 0, none⟩)] #[]] w (HeadShort w g M s o) := by
  have oct := h.oct
  have hg := h.block_lt
  obtain ⟨W, hW, hbW, hbox⟩ := oxm_box w 0 0 false 0 none 0 0 none 0 0
  have HW := hid hW
  have hcW := h.below hbW
  have hcWX := hid hcW
  have HBW := hid (below_by_none hbW)
  have hne : w.heap.size ≠ g := by omega
  have hMW : M ≠ w.heap.size := by omega
  clear hW hbW
  rcases (show l.length < 2 ∨ l.length = 2 ∨ l.length = 3 by omega) with hl2 | hl2 | hl2
  · have ho := and_zero8
    clear oct
    go_enter Tryz.func169, Tryz.ntmps169
    have HX := hid (hcW.num_short (n := 2) (by decide) (by decide) (by omega))
    clear hcW
    go_wp2_with fail
    rw [HW.out]
    refine HX.out.mono ?_
    rintro e w1 ⟨rfl, hc1, hb⟩
    have hbx1 := box_by hbox hb hne
    have HB1 := hid (by_new_row HBW.out hb)
    have hc1X := hid hc1
    clear hb HX
    have HX := hid (hc1.num_late hs 1)
    clear hc1
    go_wp2_with fail
    refine HX.out.mono ?_
    rintro e w2 ⟨rfl, hb⟩
    have hc2 := hc1X.out.below hb
    have hbx2 := hbx1.below hb
    have HB2 := hid (grownBy_then HB1.out (grownBy_more (below_by_none hb)) : w.grownBy _ (some g))
    have hc2X := hid hc2
    clear hb HX
    have HX := hid (hc2.num_late hs 1)
    clear hc2
    go_wp2_with fail
    refine HX.out.mono ?_
    rintro e w3 ⟨rfl, hb⟩
    have hc3 := hc2X.out.below hb
    have hbx3 := hbx2.below hb
    have HB3 := hid (grownBy_then HB2.out (grownBy_more (below_by_none hb)) : w.grownBy _ (some g))
    have hc3X := hid hc3
    clear hb HX
    have z := hbx3.free
    obtain ⟨d0, d1, d2, d3, d4, d5⟩ := hbx3.six
    clear hc3
    go_wp2_with fail
    have hk := hbx3.set6 (.int .i64 0) (.int .i64 (0)) (.bool (false)) (.int .u64 0) (.slice none 0 0) (.slice none 0 0)
    obtain ⟨k0, k1, k2, k3, k4, k5⟩ := hk.six
    refine bodyPost_ret (v := .tuple #[.agg #[.int .i64 0, .int .i64 (0), .bool (false), .int .u64 0, .slice none 0 0, .slice none 0 0], .int .i64 0]) (by simp [results, Tryz.results169, go_sem, k0, k1, k2, k3, k4, k5]) rfl ⟨0, 0, r, l, by decide, rfl, ?_, ?_⟩
    · repeat (refine Cur.kept ?_ (by_setCell _ _ _ _) (by simpa using hne) (by simpa using fun e => hMW e.symm))
      exact hc3X.out
    · repeat (refine by_set_new ?_ (Nat.le_refl _) _)
      exact HB3.out
  · have c0 := num_two oct
    obtain ⟨C, hC⟩ : ∃ C, numL (l.take 2) = C := ⟨_, rfl⟩
    rw [hC] at c0
    obtain ⟨c1, c2⟩ := c0
    have HC := hid hC
    have ho := and_zero8
    clear oct hC
    go_enter Tryz.func169, Tryz.ntmps169
    have HX := hid (hcW.num_ok (n := 2) (by decide) (by decide) (by omega))
    clear hcW
    go_wp2_with fail
    rw [HW.out]
    refine HX.out.mono ?_
    rintro e w1 ⟨rfl, hc1, hb⟩
    have hbx1 := box_by hbox hb hne
    have HB1 := hid (by_new_row HBW.out hb)
    rw [HC.out]
    have hc1X := hid hc1
    clear hb HX
    have HX := hid (hc1.num_short (n := 1) (by decide) (by decide) (by simp only [List.length_drop]; omega))
    clear hc1
    go_wp2_with fail
    refine HX.out.mono ?_
    rintro e w2 ⟨rfl, hc2, hb⟩
    have hbx2 := box_by hbx1 hb hne
    have HB2 := hid (grownBy_then HB1.out hb)
    have hc2X := hid hc2
    clear hb HX
    have HX := hid (hc2.num_late hs 1)
    clear hc2
    go_wp2_with fail
    refine HX.out.mono ?_
    rintro e w3 ⟨rfl, hb⟩
    have hc3 := hc2X.out.below hb
    have hbx3 := hbx2.below hb
    have HB3 := hid (grownBy_then HB2.out (grownBy_more (below_by_none hb)) : w.grownBy _ (some g))
    have hc3X := hid hc3
    clear hb HX
    have z := hbx3.free
    obtain ⟨d0, d1, d2, d3, d4, d5⟩ := hbx3.six
    clear hc3
    go_wp2_with fail
    have hk := hbx3.set6 (.int .i64 C) (.int .i64 (0)) (.bool (false)) (.int .u64 0) (.slice none 0 0) (.slice none 0 0)
    obtain ⟨k0, k1, k2, k3, k4, k5⟩ := hk.six
    refine bodyPost_ret (v := .tuple #[.agg #[.int .i64 C, .int .i64 (0), .bool (false), .int .u64 0, .slice none 0 0, .slice none 0 0], .int .i64 0]) (by simp [results, Tryz.results169, go_sem, k0, k1, k2, k3, k4, k5]) rfl ⟨C, 0, r + (2 : Nat), l.drop 2, by decide, rfl, ?_, ?_⟩
    · repeat (refine Cur.kept ?_ (by_setCell _ _ _ _) (by simpa using hne) (by simpa using fun e => hMW e.symm))
      exact hc3X.out
    · repeat (refine by_set_new ?_ (Nat.le_refl _) _)
      exact HB3.out
  · have c0 := num_two oct
    have n0 := num_byte (oct.drop 2)
    obtain ⟨C, hC⟩ : ∃ C, numL (l.take 2) = C := ⟨_, rfl⟩
    obtain ⟨n, hn⟩ : ∃ C, numL ((l.drop 2).take 1) = C := ⟨_, rfl⟩
    rw [hC] at c0
    rw [hn] at n0
    obtain ⟨c1, c2⟩ := c0
    obtain ⟨n1, n2⟩ := n0
    have HC := hid hC
    have HN := hid hn
    have ho := and_one_u64 n n1 (by omega)
    clear oct hC hn
    go_enter Tryz.func169, Tryz.ntmps169
    have HX := hid (hcW.num_ok (n := 2) (by decide) (by decide) (by omega))
    clear hcW
    go_wp2_with fail
    rw [HW.out]
    refine HX.out.mono ?_
    rintro e w1 ⟨rfl, hc1, hb⟩
    have hbx1 := box_by hbox hb hne
    have HB1 := hid (by_new_row HBW.out hb)
    rw [HC.out]
    have hc1X := hid hc1
    clear hb HX
    have HX := hid (hc1.num_ok (n := 1) (by decide) (by decide) (by simp only [List.length_drop]; omega))
    clear hc1
    go_wp2_with fail
    refine HX.out.mono ?_
    rintro e w2 ⟨rfl, hc2, hb⟩
    have hbx2 := box_by hbx1 hb hne
    have HB2 := hid (grownBy_then HB1.out hb)
    rw [HN.out]
    have hc2X := hid hc2
    clear hb HX
    have HX := hid (hc2.num_short (n := 1) (by decide) (by decide) (by simp only [List.length_drop]; omega))
    clear hc2
    go_wp2_with fail
    refine HX.out.mono ?_
    rintro e w3 ⟨rfl, hc3, hb⟩
    have hbx3 := box_by hbx2 hb hne
    have HB3 := hid (grownBy_then HB2.out hb)
    have hc3X := hid hc3
    clear hb HX
    have z := hbx3.free
    obtain ⟨d0, d1, d2, d3, d4, d5⟩ := hbx3.six
    clear hc3
    go_wp2_with fail
    have hk := hbx3.set6 (.int .i64 C) (.int .i64 (n / 2)) (.bool (n % 2 == 1)) (.int .u64 0) (.slice none 0 0) (.slice none 0 0)
    obtain ⟨k0, k1, k2, k3, k4, k5⟩ := hk.six
    refine bodyPost_ret (v := .tuple #[.agg #[.int .i64 C, .int .i64 (n / 2), .bool (n % 2 == 1), .int .u64 0, .slice none 0 0, .slice none 0 0], .int .i64 0]) (by simp [results, Tryz.results169, go_sem, k0, k1, k2, k3, k4, k5]) rfl ⟨C, n, r + (2 : Nat) + (1 : Nat), (l.drop 2).drop 1, ⟨n1, n2⟩, rfl, ?_, ?_⟩
    · repeat (refine Cur.kept ?_ (by_setCell _ _ _ _) (by simpa using hne) (by simpa using fun e => hMW e.symm))
      exact hc3X.out
    · repeat (refine by_set_new ?_ (Nat.le_refl _) _)
      exact HB3.out
end
end Go.Proofs.YtdjlbejhphbcoaaGreat
namespace Go.Proofs.YtdjlbejhphbcoaaGreat
open Go.RowKit
set_option linter.unusedVariables false

section
variable {w : World} {g M : Nat} {l : List Int} {r s o f : Int}
/-- memory that is new behind w -/
def New8 (w : World) (a : Option Addr) : Prop := ∀ q : Addr, a = some q → w.heap.size ≤ q.block
/-- two pieces of bytes read -/
def ReadOk (w : World) (g M : Nat) (v m l : List Int) (r s o : Int) (e : Ending) (w' : World) : Prop :=
  ∃ a1 c1 a2 c2, e = .returned (.tuple #[.slice a1 v.length c1, .slice a2 m.length c2]) ∧ Ints .u8 w' a1 v ∧ Ints .u8 w' a2 m ∧ m.length ≤ c2 ∧ New8 w a1 ∧ New8 w a2 ∧ Cur w' g M l r s o 0 ∧ w.grownBy w' (some g)
/-- not enough bytes, or a fault ahead -/
def ReadBad (w : World) (g M : Nat) (s o f : Int) (e : Ending) (w' : World) : Prop :=
  ∃ a1 n1 c1 a2 n2 c2 l r, e = .returned (.tuple #[.slice a1 n1 c1, .slice a2 n2 c2]) ∧ Cur w' g M l r s o f ∧ w.grownBy w' (some g)

theorem bytesPost_open {out : List Int} {e : Ending} {w' : World} (h : BytesPost w g M out l r s o f e w') : ∃ k, e = .returned (.slice (some ⟨k, 0, none⟩) out.length out.length) ∧ (Ints .u8 w' (some ⟨k, 0, none⟩) out ∧ w.heap.size ≤ k) ∧ Cur w' g M l r s o f ∧ w.grownBy w' (some g) := by
  obtain ⟨k, rfl, hG, hc⟩ := h
  obtain ⟨a, c, he, _, _, hI⟩ := own_ints hG.own
  have he1 : a = some ⟨k, 0, none⟩ := by simpa using (congrArg (fun x => match x with | Value.slice a _ _ => a | _ => none) he).symm
  exact ⟨k, rfl, ⟨by rw [← he1]; exact hI, hG.new k rfl⟩, hc, hG.by_⟩

set_option maxRecDepth 100000 in
set_option maxHeartbeats 1000000 in
theorem readBytes_late (h : Cur w g M l r s o f) (hf : f ≠ 0) (H : Bool) (n : Int) (n0 : -10000 ≤ n) (n1 : n ≤ 10000) :
    Calls Tryz.prog 170 #[.func (.func 36) #[.pointer (some ⟨g, 0, none⟩)] #[], .bool H, .int .i64 n] w (ReadBad w g M s o f) := by
  have HF := hid hf
  have HC := hid h
  clear hf
  cases H
  · go_enter Tryz.func170, Tryz.ntmps170
    go_wp2_with fail
    refine (HC.out.bytes_late HF.out _).mono ?_
    intro e w1 h1
    obtain ⟨k, rfl, hI, hc, hb⟩ := bytesPost_open h1
    clear h1 hI
    go_wp2_with fail
    go_ret2
    exact ⟨_, _, _, _, _, _, _, _, rfl, hc, hb⟩
  · go_enter Tryz.func170, Tryz.ntmps170
    go_wp2_with fail
    refine (HC.out.bytes_late HF.out _).mono ?_
    intro e w1 h1
    obtain ⟨k, rfl, hI, hc, hb⟩ := bytesPost_open h1
    clear h1 hI
    go_wp2_with fail
    refine (hc.bytes_late HF.out _).mono ?_
    intro e w2 h2
    obtain ⟨k2, rfl, hI2, hc2, hb2⟩ := bytesPost_open h2
    clear h2 hI2
    go_wp2_with fail
    go_ret2
    exact ⟨_, _, _, _, _, _, _, _, rfl, hc2, grownBy_then hb hb2⟩

set_option maxRecDepth 100000 in
set_option maxHeartbeats 1000000 in
theorem readBytes_one (h : Cur w g M l r s o 0) {n : Nat} (hn : n ≤ l.length) (n1 : n ≤ 10000) :
    Calls Tryz.prog 170 #[.func (.func 36) #[.pointer (some ⟨g, 0, none⟩)] #[], .bool false, .int .i64 n] w (ReadOk w g M (l.take n) [] (l.drop n) (r + n) s o) := by
  have HC := hid (h.bytes_ok hn)
  clear hn h
  go_enter Tryz.func170, Tryz.ntmps170
  go_wp2_with fail
  refine HC.out.mono ?_
  intro e w1 h1
  obtain ⟨k, rfl, hI, hc, hb⟩ := bytesPost_open h1
  have HI := hid hI
  clear h1 hI
  obtain ⟨z, hz⟩ : ∃ z, (l.take n).length = z := ⟨_, rfl⟩
  rw [hz]
  have HZ := hid hz
  clear hz
  go_wp2_with fail
  go_ret2
  exact ⟨_, _, none, 0, by rw [HZ.out]; rfl, HI.out.1, Ints.nil _ _ _, Nat.le_refl _, fun q hq => by cases hq; exact HI.out.2, (fun q hq => by cases hq), hc, hb⟩

set_option maxRecDepth 100000 in
set_option maxHeartbeats 1000000 in
theorem readBytes_one_short (h : Cur w g M l r s o 0) {n : Nat} (hn : l.length < n) (n1 : n ≤ 10000) :
    Calls Tryz.prog 170 #[.func (.func 36) #[.pointer (some ⟨g, 0, none⟩)] #[], .bool false, .int .i64 n] w (ReadBad w g M s o s) := by
  have HC := hid (h.bytes_short (n := n) (by omega))
  clear hn h
  go_enter Tryz.func170, Tryz.ntmps170
  go_wp2_with fail
  refine HC.out.mono ?_
  intro e w1 h1
  obtain ⟨k, rfl, hI, hc, hb⟩ := bytesPost_open h1
  clear h1 hI
  go_wp2_with fail
  go_ret2
  exact ⟨_, _, _, _, _, _, _, _, rfl, hc, hb⟩

set_option maxRecDepth 100000 in
set_option maxHeartbeats 1000000 in
theorem readBytes_two (h : Cur w g M l r s o 0) {n q : Nat} (hq : n = 2 * q) (hn : n ≤ l.length) (n1 : n ≤ 10000) {v m l1 l2 : List Int} (hv : l.take q = v) (hl1 : l.drop q = l1) (hm : l1.take q = m) (hl2 : l1.drop q = l2) :
    Calls Tryz.prog 170 #[.func (.func 36) #[.pointer (some ⟨g, 0, none⟩)] #[], .bool true, .int .i64 n] w (ReadOk w g M v m l2 (r + q + q) s o) := by
  have HC := hid (h.bytes_ok (n := q) (by omega))
  have hh : (n : Int) / 2 = (q : Int) := by omega
  have HL : Hid (q ≤ l1.length) := by show _ ≤ _; rw [← hl1, List.length_drop]; omega
  rw [hv, hl1] at HC
  have HM := hid hm
  have HL2 := hid hl2
  clear hn h hq hv hl1 hm hl2
  go_enter Tryz.func170, Tryz.ntmps170
  go_wp2_with fail
  refine HC.out.mono ?_
  intro e w1 h1
  obtain ⟨k, rfl, hI, hc, hb⟩ := bytesPost_open h1
  have HI := hid hI
  clear h1 hI
  have HD := hc.bytes_ok HL.out
  rw [HM.out, HL2.out] at HD
  have HD := hid HD
  have HB := hid hb
  have HCC := hid hc
  clear hb hc
  obtain ⟨z, hz⟩ : ∃ z, v.length = z := ⟨_, rfl⟩
  rw [hz]
  have HZ := hid hz
  clear hz
  go_wp2_with fail
  refine HD.out.mono ?_
  intro e w2 h2
  obtain ⟨k2, rfl, hI2, hc2, hb2⟩ := bytesPost_open h2
  have HI2 := hid hI2
  have HI1 := hid (HCC.out.ints HI.out.1 (by decide) hb2)
  have HC2 := hid hc2
  have HB2 := hid (grownBy_then HB.out hb2)
  clear h2 hI2 hb2 hc2
  obtain ⟨y, hy⟩ : ∃ z, m.length = z := ⟨_, rfl⟩
  rw [hy]
  have HY := hid hy
  clear hy
  go_wp2_with fail
  go_ret2
  exact ⟨_, _, _, y, by rw [HZ.out, HY.out]; rfl, HI1.out, HI2.out.1, by rw [HY.out]; exact Nat.le_refl _, fun q hq => by cases hq; exact HI.out.2, fun q hq => by cases hq; exact Nat.le_trans HB.out.size HI2.out.2, HC2.out, HB2.out⟩

set_option maxRecDepth 100000 in
set_option maxHeartbeats 1000000 in
theorem readBytes_two_short (h : Cur w g M l r s o 0) (hs : s ≠ 0) {n q : Nat} (hq : n = 2 * q) (hn : l.length < n) (n1 : n ≤ 10000) :
    Calls Tryz.prog 170 #[.func (.func 36) #[.pointer (some ⟨g, 0, none⟩)] #[], .bool true, .int .i64 n] w (ReadBad w g M s o s) := by
  have hh : (n : Int) / 2 = (q : Int) := by omega
  have HS := hid hs
  by_cases hl : l.length < q
  · have HC := hid (h.bytes_short (n := q) (by omega))
    clear hn h hq hl hs
    go_enter Tryz.func170, Tryz.ntmps170
    go_wp2_with fail
    refine HC.out.mono ?_
    intro e w1 h1
    obtain ⟨k, rfl, hI, hc, hb⟩ := bytesPost_open h1
    clear h1 hI
    go_wp2_with fail
    refine (hc.bytes_late HS.out _).mono ?_
    intro e w2 h2
    obtain ⟨k2, rfl, hI2, hc2, hb2⟩ := bytesPost_open h2
    clear h2 hI2
    go_wp2_with fail
    go_ret2
    exact ⟨_, _, _, _, _, _, _, _, rfl, hc2, grownBy_then hb hb2⟩
  · have HC := hid (h.bytes_ok (n := q) (by omega))
    have HL : Hid ((l.drop q).length < q) := by show _ < _; rw [List.length_drop]; omega
    clear hn h hq hl hs
    go_enter Tryz.func170, Tryz.ntmps170
    go_wp2_with fail
    refine HC.out.mono ?_
    intro e w1 h1
    obtain ⟨k, rfl, hI, hc, hb⟩ := bytesPost_open h1
    clear h1 hI
    have HD := hid (hc.bytes_short (n := q) (by have := HL.out; omega))
    clear hc
    obtain ⟨z, hz⟩ : ∃ z, (l.take q).length = z := ⟨_, rfl⟩
    rw [hz]
    clear hz
    go_wp2_with fail
    refine HD.out.mono ?_
    intro e w2 h2
    obtain ⟨k2, rfl, hI2, hc2, hb2⟩ := bytesPost_open h2
    clear h2 hI2
    go_wp2_with fail
    go_ret2
    exact ⟨_, _, _, _, _, _, _, _, rfl, hc2, grownBy_then hb hb2⟩
end
end Go.Proofs.YtdjlbejhphbcoaaGreat
namespace Go.Proofs.YtdjlbejhphbcoaaGreat
open Go.RowKit
set_option linter.unusedVariables false

section
variable {w : World} {g M : Nat} {l : List Int} {r s o f : Int}
/-- nothing that counts is read: there is a fault -/
def ReadNone (w : World) (g M : Nat) (s o f : Int) (e : Ending) (w' : World) : Prop :=
  ∃ (C F : Int) (H : Bool) (X : Int) (a1 : Option Addr) (n1 c1 : Nat) (a2 : Option Addr) (n2 c2 : Nat) (l : List Int) (r : Int), e = .returned (.agg #[.int .i64 C, .int .i64 F, .bool H, .int .u64 X, .slice a1 n1 c1, .slice a2 n2 c2]) ∧ Cur w' g M l r s o f ∧ w.grownBy w' (some g)

/-- a value is read -/
def ReadGood (w : World) (g M : Nat) (C F : Int) (H : Bool) (X : Int) (v m : List Int) (r s o : Int) (e : Ending) (w' : World) : Prop :=
  ∃ a1 c1 a2 c2, e = .returned (.agg #[.int .i64 C, .int .i64 F, .bool H, .int .u64 X, .slice a1 v.length c1, .slice a2 m.length c2]) ∧ Ints .u8 w' a1 v ∧ Ints .u8 w' a2 m ∧ m.length ≤ c2 ∧ (New8 w a1 ∧ New8 w a2) ∧ (∃ l, Cur w' g M l r s o 0) ∧ w.grownBy w' (some g)

set_option maxRecDepth 100000 in
set_option maxHeartbeats 2000000 in
theorem read8_few (h : Cur w g M l r s o 0) (hs : s ≠ 0) (hM : M < w.heap.size) (hl : l.length < 4) :
    Calls Tryz.prog 156 #[.pointer (some ⟨g, 0, none⟩)] w (ReadNone w g M s o s) := by
  have HS := hid hs
  have oct := h.oct
  have hg := h.block_lt
  obtain ⟨W, hW, hbW, hbox⟩ := oxm_box w 0 0 false 0 none 0 0 none 0 0
  have HW := hid hW
  have hcW := h.below hbW
  have hcWX := hid hcW
  have HBW := hid (below_by_none hbW)
  have hne : w.heap.size ≠ g := by omega
  have hMW : M ≠ w.heap.size := by omega
  clear hW hbW
  have hM2 : M < W.heap.size := by have := hbox.lt; omega
  have hmf : ∀ (fn : Fn) (first cap : Array Value) (w : World), (Instr.makeFunc fn first cap).run Tryz.prog w = .ok (.func fn first cap) w := fun _ _ _ _ => rfl
  have H1 := hid (readHead8_short hcW hs hM2 hl)
  clear hs hl hcW oct hcWX
  go_enter Tryz.func156, Tryz.ntmps156
  go_wp2_with fail
  rw [HW.out]
  refine H1.out.mono ?_
  rintro e w1 ⟨C, n, r1, l1, ⟨n0, n1⟩, rfl, hc, hb⟩
  obtain ⟨F, hF⟩ : ∃ F, n / 2 = F := ⟨_, rfl⟩
  obtain ⟨H, hH⟩ : ∃ F, oddB n = F := ⟨_, rfl⟩
  rw [hF, hH]
  clear hF hH n0 n1
  cases hC : (C == 65535)
  · skip
    have hR1 := box_by hbox hb hne
    have HB1 := hid (by_new_row HBW.out hb)
    have hs1 := hb.size
    have hs2 : w.heap.size < w1.heap.size := Nat.lt_of_lt_of_le hbox.lt hs1
    have hg1 := hc.block_lt
    obtain ⟨W1, hW1, hbW1, hX1⟩ := oxm_box w1 C F H 0 none 0 0 none 0 0
    have HW1 := hid hW1
    have hXg : w1.heap.size ≠ g := by omega
    have hXR : w1.heap.size ≠ w.heap.size := by omega
    have gX : some w1.heap.size ≠ some g := by simpa using hXg
    have gR : some w.heap.size ≠ some g := by simpa using hne
    have mX : some w1.heap.size ≠ some M := by simp; omega
    have mR : some w.heap.size ≠ some M := by simp; omega
    have hle : w.heap.size ≤ w1.heap.size := by omega
    have hc1 := hc.below hbW1
    have hR2 := hR1.below hbW1
    have HB2 := hid (grownBy_then HB1.out (grownBy_more (below_by_none hbW1)) : w.grownBy W1 (some g))
    clear hb hbox hc hR1 HB1 hW1 hbW1 hs1 hM2 hg1
    go_wp2_with fail
    rw [HW1.out]
    refine (wrongHead_any C F H 0 none 0 0 none 0 0 (0) _ (by omega) (by omega)).mono ?_
    rintro e w2 ⟨rfl, hb2⟩
    have hc2 := hc1.below hb2
    have hR3 := hR2.below hb2
    have hX2 := hX1.below hb2
    have HB3 := hid (grownBy_then HB2.out (grownBy_more (below_by_none hb2)) : w.grownBy w2 (some g))
    clear hc1 hR2 hX1 HB2 hb2 HW1
    obtain ⟨d0, d1, d2, d3, d4, d5⟩ := hX2.six
    have zX := hX2.free
    go_wp2_with fail
    refine (hc2.fail_late HS.out _).mono ?_
    rintro e w' ⟨rfl, rfl⟩
    have hc3 := hc2
    have hX3 := hX2
    have hR4 := hR3
    have HB4 := HB3
    clear hc2 hX2 hR3 HB3
    go_wp2_with fail
    have hc6 := hc3
    have hX6 := hX3
    have hR6 := hR4
    have HB6 := HB4
    clear hc3 hX3 hR4 HB4 d0 d1 d2 d3 d4 d5 zX
    refine (readBytes_late hc6 HS.out H _ (by omega) (by omega)).mono ?_
    rintro e w7 ⟨a1, n1, c1, a2, n2, c2, l5, r5, rfl, hc7, hb7⟩
    have hX7 := box_by hX6 hb7 hXg
    have hR7 := box_by hR6 hb7 hne
    have HB7 := hid (grownBy_then HB6.out hb7)
    clear hX6 hR6 HB6 hb7 hc6
    obtain ⟨d0, d1, d2, d3, d4, d5⟩ := hX7.six
    obtain ⟨e0, e1, e2, e3, e4, e5⟩ := hR7.six
    have zX := hX7.free
    have zR := hR7.free
    go_wp2_with fail
    have hk := ((hR7.far (i := 4) (.slice a1 n1 c1) hXR).far (i := 5) (.slice a2 n2 c2) hXR).set6 (.int .i64 C) (.int .i64 F) (.bool H) (.int .u64 0) (.slice a1 n1 c1) (.slice a2 n2 c2)
    obtain ⟨k0, k1, k2, k3, k4, k5⟩ := hk.six
    refine bodyPost_ret (v := .agg #[.int .i64 C, .int .i64 F, .bool H, .int .u64 0, .slice a1 n1 c1, .slice a2 n2 c2]) (by simp [results, Tryz.results156, go_sem, k0, k1, k2, k3, k4, k5]) rfl ⟨C, F, H, 0, a1, n1, c1, a2, n2, c2, l5, r5, rfl, ?_, ?_⟩
    · repeat (first | refine Cur.kept ?_ (by_setCell _ _ _ _) gR mR | refine Cur.kept ?_ (by_setCell _ _ _ _) gX mX)
      exact hc7
    · repeat (refine by_set_new ?_ (by omega) _)
      exact HB7.out
  · skip
    have hR1 := box_by hbox hb hne
    have HB1 := hid (by_new_row HBW.out hb)
    have hs1 := hb.size
    have hs2 : w.heap.size < w1.heap.size := Nat.lt_of_lt_of_le hbox.lt hs1
    have hg1 := hc.block_lt
    obtain ⟨W1, hW1, hbW1, hX1⟩ := oxm_box w1 C F H 0 none 0 0 none 0 0
    have HW1 := hid hW1
    have hXg : w1.heap.size ≠ g := by omega
    have hXR : w1.heap.size ≠ w.heap.size := by omega
    have gX : some w1.heap.size ≠ some g := by simpa using hXg
    have gR : some w.heap.size ≠ some g := by simpa using hne
    have mX : some w1.heap.size ≠ some M := by simp; omega
    have mR : some w.heap.size ≠ some M := by simp; omega
    have hle : w.heap.size ≤ w1.heap.size := by omega
    have hc1 := hc.below hbW1
    have hR2 := hR1.below hbW1
    have HB2 := hid (grownBy_then HB1.out (grownBy_more (below_by_none hbW1)) : w.grownBy W1 (some g))
    clear hb hbox hc hR1 HB1 hW1 hbW1 hs1 hM2 hg1
    go_wp2_with fail
    rw [HW1.out]
    refine (wrongHead_any C F H 0 none 0 0 none 0 0 (0) _ (by omega) (by omega)).mono ?_
    rintro e w2 ⟨rfl, hb2⟩
    have hc2 := hc1.below hb2
    have hR3 := hR2.below hb2
    have hX2 := hX1.below hb2
    have HB3 := hid (grownBy_then HB2.out (grownBy_more (below_by_none hb2)) : w.grownBy w2 (some g))
    clear hc1 hR2 hX1 HB2 hb2 HW1
    obtain ⟨d0, d1, d2, d3, d4, d5⟩ := hX2.six
    have zX := hX2.free
    go_wp2_with fail
    refine (hc2.fail_late HS.out _).mono ?_
    rintro e w' ⟨rfl, rfl⟩
    have hc3 := hc2
    have hX3 := hX2
    have hR4 := hR3
    have HB4 := HB3
    clear hc2 hX2 hR3 HB3
    go_wp2_with fail
    refine (hc3.num_late HS.out 4).mono ?_
    rintro e w4 ⟨rfl, hb4⟩
    have hc4 := hc3.below hb4
    have hX4 := hX3.below hb4
    have hR5 := hR4.below hb4
    have HB5 := hid (grownBy_then HB4.out (grownBy_more (below_by_none hb4)) : w.grownBy w4 (some g))
    clear hc3 hX3 hR4 HB4 hb4 d0 d1 d2 d3 d4 d5 zX
    obtain ⟨d0, d1, d2, d3, d4, d5⟩ := hX4.six
    have zX := hX4.free
    go_wp2_with fail
    have hc6 := hc4.kept (by_setCell w4 w1.heap.size 3 (.int .u64 0)) gX mX
    have hX6 := hX4.set 3 (.int .u64 0) (by simp)
    have hR6 := hR5.far (i := 3) (.int .u64 0) hXR
    have HB6 := hid (by_set_new (i := 3) HB5.out hle (.int .u64 0))
    clear hc4 hX4 hR5 HB5 d0 d1 d2 d3 d4 d5 zX
    refine (readBytes_late hc6 HS.out H _ (by omega) (by omega)).mono ?_
    rintro e w7 ⟨a1, n1, c1, a2, n2, c2, l5, r5, rfl, hc7, hb7⟩
    have hX7 := box_by hX6 hb7 hXg
    have hR7 := box_by hR6 hb7 hne
    have HB7 := hid (grownBy_then HB6.out hb7)
    clear hX6 hR6 HB6 hb7 hc6
    obtain ⟨d0, d1, d2, d3, d4, d5⟩ := hX7.six
    obtain ⟨e0, e1, e2, e3, e4, e5⟩ := hR7.six
    have zX := hX7.free
    have zR := hR7.free
    go_wp2_with fail
    have hk := ((hR7.far (i := 4) (.slice a1 n1 c1) hXR).far (i := 5) (.slice a2 n2 c2) hXR).set6 (.int .i64 C) (.int .i64 F) (.bool H) (.int .u64 0) (.slice a1 n1 c1) (.slice a2 n2 c2)
    obtain ⟨k0, k1, k2, k3, k4, k5⟩ := hk.six
    refine bodyPost_ret (v := .agg #[.int .i64 C, .int .i64 F, .bool H, .int .u64 0, .slice a1 n1 c1, .slice a2 n2 c2]) (by simp [results, Tryz.results156, go_sem, k0, k1, k2, k3, k4, k5]) rfl ⟨C, F, H, 0, a1, n1, c1, a2, n2, c2, l5, r5, rfl, ?_, ?_⟩
    · repeat (first | refine Cur.kept ?_ (by_setCell _ _ _ _) gR mR | refine Cur.kept ?_ (by_setCell _ _ _ _) gX mX)
      exact hc7
    · repeat (refine by_set_new ?_ (by omega) _)
      exact HB7.out

set_option maxRecDepth 100000 in
set_option maxHeartbeats 2000000 in
theorem read8_wrong (h : Cur w g M l r s o 0) (hs : s ≠ 0) (hM : M < w.heap.size) (hl : 4 ≤ l.length) {C n L F : Int} {H : Bool} (hC : numL (l.take 2) = C) (hn : numL ((l.drop 2).take 1) = n) (hL : numL (((l.drop 2).drop 1).take 1) = L) (hF : n / 2 = F) (hH : oddB n = H) (hE : headE C F H L ≠ 0) :
    Calls Tryz.prog 156 #[.pointer (some ⟨g, 0, none⟩)] w (ReadNone w g M s o (headE C F H L)) := by
  have HS := hid hE
  have oct := h.oct
  have hg := h.block_lt
  obtain ⟨W, hW, hbW, hbox⟩ := oxm_box w 0 0 false 0 none 0 0 none 0 0
  have HW := hid hW
  have hcW := h.below hbW
  have hcWX := hid hcW
  have HBW := hid (below_by_none hbW)
  have hne : w.heap.size ≠ g := by omega
  have hMW : M ≠ w.heap.size := by omega
  clear hW hbW
  have hM2 : M < W.heap.size := by have := hbox.lt; omega
  have hmf : ∀ (fn : Fn) (first cap : Array Value) (w : World), (Instr.makeFunc fn first cap).run Tryz.prog w = .ok (.func fn first cap) w := fun _ _ _ _ => rfl
  have L0 := num_byte ((oct.drop 2).drop 1)
  rw [hL] at L0
  obtain ⟨L1, L2⟩ := L0
  have H1 := readHead8_ok hcW hM2 hl hC hn hL
  rw [hF, hH] at H1
  have H1 := hid H1
  clear hs hl hcW oct hcWX hC hn hL hF hH hE
  cases hC : (C == 65535)
  · skip
    go_enter Tryz.func156, Tryz.ntmps156
    go_wp2_with fail
    rw [HW.out]
    refine H1.out.mono ?_
    rintro e w1 ⟨rfl, hc, hb⟩
    have hR1 := box_by hbox hb hne
    have HB1 := hid (by_new_row HBW.out hb)
    have hs1 := hb.size
    have hs2 : w.heap.size < w1.heap.size := Nat.lt_of_lt_of_le hbox.lt hs1
    have hg1 := hc.block_lt
    obtain ⟨W1, hW1, hbW1, hX1⟩ := oxm_box w1 C F H 0 none 0 0 none 0 0
    have HW1 := hid hW1
    have hXg : w1.heap.size ≠ g := by omega
    have hXR : w1.heap.size ≠ w.heap.size := by omega
    have gX : some w1.heap.size ≠ some g := by simpa using hXg
    have gR : some w.heap.size ≠ some g := by simpa using hne
    have mX : some w1.heap.size ≠ some M := by simp; omega
    have mR : some w.heap.size ≠ some M := by simp; omega
    have hle : w.heap.size ≤ w1.heap.size := by omega
    have hc1 := hc.below hbW1
    have hR2 := hR1.below hbW1
    have HB2 := hid (grownBy_then HB1.out (grownBy_more (below_by_none hbW1)) : w.grownBy W1 (some g))
    clear hb hbox hc hR1 HB1 hW1 hbW1 hs1 hM2 hg1
    go_wp2_with fail
    rw [HW1.out]
    refine (wrongHead_any C F H 0 none 0 0 none 0 0 (L) _ (by omega) (by omega)).mono ?_
    rintro e w2 ⟨rfl, hb2⟩
    have hc2 := hc1.below hb2
    have hR3 := hR2.below hb2
    have hX2 := hX1.below hb2
    have HB3 := hid (grownBy_then HB2.out (grownBy_more (below_by_none hb2)) : w.grownBy w2 (some g))
    clear hc1 hR2 hX1 HB2 hb2 HW1
    obtain ⟨d0, d1, d2, d3, d4, d5⟩ := hX2.six
    have zX := hX2.free
    go_wp2_with fail
    refine (hc2.fail _).mono ?_
    rintro e w3 ⟨rfl, hc3, hb3⟩
    have hX3 := box_by hX2 hb3 hXg
    have hR4 := box_by hR3 hb3 hne
    have HB4 := hid (grownBy_then HB3.out hb3)
    clear hc2 hX2 hR3 HB3 hb3 d0 d1 d2 d3 d4 d5 zX
    obtain ⟨d0, d1, d2, d3, d4, d5⟩ := hX3.six
    have zX := hX3.free
    go_wp2_with fail
    have hc6 := hc3
    have hX6 := hX3
    have hR6 := hR4
    have HB6 := HB4
    clear hc3 hX3 hR4 HB4 d0 d1 d2 d3 d4 d5 zX
    refine (readBytes_late hc6 HS.out H _ (by omega) (by omega)).mono ?_
    rintro e w7 ⟨a1, n1, c1, a2, n2, c2, l5, r5, rfl, hc7, hb7⟩
    have hX7 := box_by hX6 hb7 hXg
    have hR7 := box_by hR6 hb7 hne
    have HB7 := hid (grownBy_then HB6.out hb7)
    clear hX6 hR6 HB6 hb7 hc6
    obtain ⟨d0, d1, d2, d3, d4, d5⟩ := hX7.six
    obtain ⟨e0, e1, e2, e3, e4, e5⟩ := hR7.six
    have zX := hX7.free
    have zR := hR7.free
    go_wp2_with fail
    have hk := ((hR7.far (i := 4) (.slice a1 n1 c1) hXR).far (i := 5) (.slice a2 n2 c2) hXR).set6 (.int .i64 C) (.int .i64 F) (.bool H) (.int .u64 0) (.slice a1 n1 c1) (.slice a2 n2 c2)
    obtain ⟨k0, k1, k2, k3, k4, k5⟩ := hk.six
    refine bodyPost_ret (v := .agg #[.int .i64 C, .int .i64 F, .bool H, .int .u64 0, .slice a1 n1 c1, .slice a2 n2 c2]) (by simp [results, Tryz.results156, go_sem, k0, k1, k2, k3, k4, k5]) rfl ⟨C, F, H, 0, a1, n1, c1, a2, n2, c2, l5, r5, rfl, ?_, ?_⟩
    · repeat (first | refine Cur.kept ?_ (by_setCell _ _ _ _) gR mR | refine Cur.kept ?_ (by_setCell _ _ _ _) gX mX)
      exact hc7
    · repeat (refine by_set_new ?_ (by omega) _)
      exact HB7.out
  · skip
    go_enter Tryz.func156, Tryz.ntmps156
    go_wp2_with fail
    rw [HW.out]
    refine H1.out.mono ?_
    rintro e w1 ⟨rfl, hc, hb⟩
    have hR1 := box_by hbox hb hne
    have HB1 := hid (by_new_row HBW.out hb)
    have hs1 := hb.size
    have hs2 : w.heap.size < w1.heap.size := Nat.lt_of_lt_of_le hbox.lt hs1
    have hg1 := hc.block_lt
    obtain ⟨W1, hW1, hbW1, hX1⟩ := oxm_box w1 C F H 0 none 0 0 none 0 0
    have HW1 := hid hW1
    have hXg : w1.heap.size ≠ g := by omega
    have hXR : w1.heap.size ≠ w.heap.size := by omega
    have gX : some w1.heap.size ≠ some g := by simpa using hXg
    have gR : some w.heap.size ≠ some g := by simpa using hne
    have mX : some w1.heap.size ≠ some M := by simp; omega
    have mR : some w.heap.size ≠ some M := by simp; omega
    have hle : w.heap.size ≤ w1.heap.size := by omega
    have hc1 := hc.below hbW1
    have hR2 := hR1.below hbW1
    have HB2 := hid (grownBy_then HB1.out (grownBy_more (below_by_none hbW1)) : w.grownBy W1 (some g))
    clear hb hbox hc hR1 HB1 hW1 hbW1 hs1 hM2 hg1
    go_wp2_with fail
    rw [HW1.out]
    refine (wrongHead_any C F H 0 none 0 0 none 0 0 (L) _ (by omega) (by omega)).mono ?_
    rintro e w2 ⟨rfl, hb2⟩
    have hc2 := hc1.below hb2
    have hR3 := hR2.below hb2
    have hX2 := hX1.below hb2
    have HB3 := hid (grownBy_then HB2.out (grownBy_more (below_by_none hb2)) : w.grownBy w2 (some g))
    clear hc1 hR2 hX1 HB2 hb2 HW1
    obtain ⟨d0, d1, d2, d3, d4, d5⟩ := hX2.six
    have zX := hX2.free
    go_wp2_with fail
    refine (hc2.fail _).mono ?_
    rintro e w3 ⟨rfl, hc3, hb3⟩
    have hX3 := box_by hX2 hb3 hXg
    have hR4 := box_by hR3 hb3 hne
    have HB4 := hid (grownBy_then HB3.out hb3)
    clear hc2 hX2 hR3 HB3 hb3 d0 d1 d2 d3 d4 d5 zX
    obtain ⟨d0, d1, d2, d3, d4, d5⟩ := hX3.six
    have zX := hX3.free
    go_wp2_with fail
    refine (hc3.num_late HS.out 4).mono ?_
    rintro e w4 ⟨rfl, hb4⟩
    have hc4 := hc3.below hb4
    have hX4 := hX3.below hb4
    have hR5 := hR4.below hb4
    have HB5 := hid (grownBy_then HB4.out (grownBy_more (below_by_none hb4)) : w.grownBy w4 (some g))
    clear hc3 hX3 hR4 HB4 hb4 d0 d1 d2 d3 d4 d5 zX
    obtain ⟨d0, d1, d2, d3, d4, d5⟩ := hX4.six
    have zX := hX4.free
    go_wp2_with fail
    have hc6 := hc4.kept (by_setCell w4 w1.heap.size 3 (.int .u64 0)) gX mX
    have hX6 := hX4.set 3 (.int .u64 0) (by simp)
    have hR6 := hR5.far (i := 3) (.int .u64 0) hXR
    have HB6 := hid (by_set_new (i := 3) HB5.out hle (.int .u64 0))
    clear hc4 hX4 hR5 HB5 d0 d1 d2 d3 d4 d5 zX
    refine (readBytes_late hc6 HS.out H _ (by omega) (by omega)).mono ?_
    rintro e w7 ⟨a1, n1, c1, a2, n2, c2, l5, r5, rfl, hc7, hb7⟩
    have hX7 := box_by hX6 hb7 hXg
    have hR7 := box_by hR6 hb7 hne
    have HB7 := hid (grownBy_then HB6.out hb7)
    clear hX6 hR6 HB6 hb7 hc6
    obtain ⟨d0, d1, d2, d3, d4, d5⟩ := hX7.six
    obtain ⟨e0, e1, e2, e3, e4, e5⟩ := hR7.six
    have zX := hX7.free
    have zR := hR7.free
    go_wp2_with fail
    have hk := ((hR7.far (i := 4) (.slice a1 n1 c1) hXR).far (i := 5) (.slice a2 n2 c2) hXR).set6 (.int .i64 C) (.int .i64 F) (.bool H) (.int .u64 0) (.slice a1 n1 c1) (.slice a2 n2 c2)
    obtain ⟨k0, k1, k2, k3, k4, k5⟩ := hk.six
    refine bodyPost_ret (v := .agg #[.int .i64 C, .int .i64 F, .bool H, .int .u64 0, .slice a1 n1 c1, .slice a2 n2 c2]) (by simp [results, Tryz.results156, go_sem, k0, k1, k2, k3, k4, k5]) rfl ⟨C, F, H, 0, a1, n1, c1, a2, n2, c2, l5, r5, rfl, ?_, ?_⟩
    · repeat (first | refine Cur.kept ?_ (by_setCell _ _ _ _) gR mR | refine Cur.kept ?_ (by_setCell _ _ _ _) gX mX)
      exact hc7
    · repeat (refine by_set_new ?_ (by omega) _)
      exact HB7.out

set_option maxRecDepth 100000 in
set_option maxHeartbeats 2000000 in
theorem read8_basic_one (h : Cur w g M l r s o 0) (hs : s ≠ 0) (hM : M < w.heap.size) (hl : 4 ≤ l.length) {n F : Int} {N : Nat} {l4 : List Int} (hC : numL (l.take 2) = 32768) (hn : numL ((l.drop 2).take 1) = n) (hL : numL (((l.drop 2).drop 1).take 1) = (N : Int)) (h4 : ((l.drop 2).drop 1).drop 1 = l4) (hF : n / 2 = F) (hH : oddB n = false) (hE : headE 32768 F false ((N : Int)) = 0) {v m : List Int} (hm : m = []) (hv : l4.take N = v) (hq : N ≤ l4.length) :
    Calls Tryz.prog 156 #[.pointer (some ⟨g, 0, none⟩)] w (ReadGood w g M 32768 F false 0 v m (r + (2 : Nat) + (1 : Nat) + (1 : Nat) + (N : Nat)) s o) := by
  have HS := hid hs
  have oct := h.oct
  have hg := h.block_lt
  obtain ⟨W, hW, hbW, hbox⟩ := oxm_box w 0 0 false 0 none 0 0 none 0 0
  have HW := hid hW
  have hcW := h.below hbW
  have hcWX := hid hcW
  have HBW := hid (below_by_none hbW)
  have hne : w.heap.size ≠ g := by omega
  have hMW : M ≠ w.heap.size := by omega
  clear hW hbW
  have hM2 : M < W.heap.size := by have := hbox.lt; omega
  have hmf : ∀ (fn : Fn) (first cap : Array Value) (w : World), (Instr.makeFunc fn first cap).run Tryz.prog w = .ok (.func fn first cap) w := fun _ _ _ _ => rfl
  have L0 := num_byte ((oct.drop 2).drop 1)
  rw [hL] at L0
  obtain ⟨L1, L2⟩ := L0
  have HE := hid hE
  have H1 := readHead8_ok hcW hM2 hl hC hn hL
  rw [hF, hH, h4] at H1
  have H1 := hid H1
  have HQ := hid hq
  have HV := hid hv
  have RR : Hid (r + (2 : Nat) + (1 : Nat) + (1 : Nat) + (N : Nat) = r + (2 : Nat) + (1 : Nat) + (1 : Nat) + (N : Nat)) := hid rfl
  have HM := hid hm
  clear hq hv hm
  clear hs hl hcW oct hcWX hC hn hL h4 hF hH hE
  go_enter Tryz.func156, Tryz.ntmps156
  go_wp2_with fail
  rw [HW.out]
  refine H1.out.mono ?_
  rintro e w1 ⟨rfl, hc, hb⟩
  have hR1 := box_by hbox hb hne
  have HB1 := hid (by_new_row HBW.out hb)
  have hs1 := hb.size
  have hs2 : w.heap.size < w1.heap.size := Nat.lt_of_lt_of_le hbox.lt hs1
  have hg1 := hc.block_lt
  obtain ⟨W1, hW1, hbW1, hX1⟩ := oxm_box w1 32768 F false 0 none 0 0 none 0 0
  have HW1 := hid hW1
  have hXg : w1.heap.size ≠ g := by omega
  have hXR : w1.heap.size ≠ w.heap.size := by omega
  have gX : some w1.heap.size ≠ some g := by simpa using hXg
  have gR : some w.heap.size ≠ some g := by simpa using hne
  have mX : some w1.heap.size ≠ some M := by simp; omega
  have mR : some w.heap.size ≠ some M := by simp; omega
  have hle : w.heap.size ≤ w1.heap.size := by omega
  have hc1 := hc.below hbW1
  have hR2 := hR1.below hbW1
  have HB2 := hid (grownBy_then HB1.out (grownBy_more (below_by_none hbW1)) : w.grownBy W1 (some g))
  clear hb hbox hc hR1 HB1 hW1 hbW1 hs1 hM2 hg1
  go_wp2_with fail
  rw [HW1.out]
  refine (wrongHead_any 32768 F false 0 none 0 0 none 0 0 ((N : Int)) _ (by omega) (by omega)).mono ?_
  rintro e w2 ⟨rfl, hb2⟩
  have hc2 := hc1.below hb2
  have hR3 := hR2.below hb2
  have hX2 := hX1.below hb2
  have HB3 := hid (grownBy_then HB2.out (grownBy_more (below_by_none hb2)) : w.grownBy w2 (some g))
  clear hc1 hR2 hX1 HB2 hb2 HW1
  obtain ⟨d0, d1, d2, d3, d4, d5⟩ := hX2.six
  have zX := hX2.free
  go_wp2_with fail
  rw [HE.out]
  refine (hc2.fail _).mono ?_
  rintro e w3 ⟨rfl, hc3, hb3⟩
  have hX3 := box_by hX2 hb3 hXg
  have hR4 := box_by hR3 hb3 hne
  have HB4 := hid (grownBy_then HB3.out hb3)
  clear hc2 hX2 hR3 HB3 hb3 d0 d1 d2 d3 d4 d5 zX
  obtain ⟨d0, d1, d2, d3, d4, d5⟩ := hX3.six
  have zX := hX3.free
  go_wp2_with fail
  have hc6 := hc3
  have hX6 := hX3
  have hR6 := hR4
  have HB6 := HB4
  clear hc3 hX3 hR4 HB4 d0 d1 d2 d3 d4 d5 zX
  have hz := readBytes_one hc6 HQ.out (by omega)
  rw [HV.out, ← HM.out] at hz
  have hsz := hX6.lt
  refine (hz).mono ?_
  rintro e w7 ⟨a1, c1, a2, c2, rfl, i1, i2, hmc, hn1, hn2, hc7, hb7⟩
  have nR1 : ∀ q : Addr, a1 = some q → q.block ≠ w.heap.size := fun q hq => by have := hn1 q hq; omega
  have nX1 : ∀ q : Addr, a1 = some q → q.block ≠ w1.heap.size := fun q hq => by have := hn1 q hq; omega
  have nR2 : ∀ q : Addr, a2 = some q → q.block ≠ w.heap.size := fun q hq => by have := hn2 q hq; omega
  have nX2 : ∀ q : Addr, a2 = some q → q.block ≠ w1.heap.size := fun q hq => by have := hn2 q hq; omega
  have hw1 : New8 w a1 := fun q hq => by have := hn1 q hq; omega
  have hw2 : New8 w a2 := fun q hq => by have := hn2 q hq; omega
  clear hn1 hn2
  have hX7 := box_by hX6 hb7 hXg
  have hR7 := box_by hR6 hb7 hne
  have HB7 := hid (grownBy_then HB6.out hb7)
  clear hX6 hR6 HB6 hb7 hc6
  obtain ⟨d0, d1, d2, d3, d4, d5⟩ := hX7.six
  obtain ⟨e0, e1, e2, e3, e4, e5⟩ := hR7.six
  have zX := hX7.free
  have zR := hR7.free
  have I1 := hid i1
  have I2 := hid i2
  have HMC := hid hmc
  clear i1 i2 hmc
  obtain ⟨vl, hvl⟩ : ∃ n, v.length = n := ⟨_, rfl⟩
  obtain ⟨ml, hml⟩ : ∃ n, m.length = n := ⟨_, rfl⟩
  rw [hvl, hml]
  have HVL := hid hvl
  have HML := hid hml
  clear hvl hml
  go_wp2_with fail
  have hk := ((hR7.far (i := 4) (.slice a1 vl c1) hXR).far (i := 5) (.slice a2 ml c2) hXR).set6 (.int .i64 32768) (.int .i64 F) (.bool false) (.int .u64 0) (.slice a1 vl c1) (.slice a2 ml c2)
  obtain ⟨k0, k1, k2, k3, k4, k5⟩ := hk.six
  refine bodyPost_ret (v := .agg #[.int .i64 32768, .int .i64 F, .bool false, .int .u64 0, .slice a1 vl c1, .slice a2 ml c2]) (by simp [results, Tryz.results156, go_sem, k0, k1, k2, k3, k4, k5]) rfl ⟨a1, c1, a2, c2, by rw [HVL.out, HML.out], ?_, ?_, HMC.out, ⟨hw1, hw2⟩, ?_, ?_⟩
  · repeat (first | refine Ints.apart ?_ _ nR1 | refine Ints.apart ?_ _ nX1)
    exact I1.out
  · repeat (first | refine Ints.apart ?_ _ nR2 | refine Ints.apart ?_ _ nX2)
    exact I2.out
  · refine ⟨l4.drop N, ?_⟩
    repeat (first | refine Cur.kept ?_ (by_setCell _ _ _ _) gR mR | refine Cur.kept ?_ (by_setCell _ _ _ _) gX mX)
    exact hc7
  · repeat (refine by_set_new ?_ (by omega) _)
    exact HB7.out

set_option maxRecDepth 100000 in
set_option maxHeartbeats 2000000 in
theorem read8_basic_one_short (h : Cur w g M l r s o 0) (hs : s ≠ 0) (hM : M < w.heap.size) (hl : 4 ≤ l.length) {n F : Int} {N : Nat} {l4 : List Int} (hC : numL (l.take 2) = 32768) (hn : numL ((l.drop 2).take 1) = n) (hL : numL (((l.drop 2).drop 1).take 1) = (N : Int)) (h4 : ((l.drop 2).drop 1).drop 1 = l4) (hF : n / 2 = F) (hH : oddB n = false) (hE : headE 32768 F false ((N : Int)) = 0) (hq : l4.length < N) :
    Calls Tryz.prog 156 #[.pointer (some ⟨g, 0, none⟩)] w (ReadNone w g M s o s) := by
  have HS := hid hs
  have oct := h.oct
  have hg := h.block_lt
  obtain ⟨W, hW, hbW, hbox⟩ := oxm_box w 0 0 false 0 none 0 0 none 0 0
  have HW := hid hW
  have hcW := h.below hbW
  have hcWX := hid hcW
  have HBW := hid (below_by_none hbW)
  have hne : w.heap.size ≠ g := by omega
  have hMW : M ≠ w.heap.size := by omega
  clear hW hbW
  have hM2 : M < W.heap.size := by have := hbox.lt; omega
  have hmf : ∀ (fn : Fn) (first cap : Array Value) (w : World), (Instr.makeFunc fn first cap).run Tryz.prog w = .ok (.func fn first cap) w := fun _ _ _ _ => rfl
  have L0 := num_byte ((oct.drop 2).drop 1)
  rw [hL] at L0
  obtain ⟨L1, L2⟩ := L0
  have HE := hid hE
  have H1 := readHead8_ok hcW hM2 hl hC hn hL
  rw [hF, hH, h4] at H1
  have H1 := hid H1
  have HQ := hid hq
  clear hq
  clear hs hl hcW oct hcWX hC hn hL h4 hF hH hE
  go_enter Tryz.func156, Tryz.ntmps156
  go_wp2_with fail
  rw [HW.out]
  refine H1.out.mono ?_
  rintro e w1 ⟨rfl, hc, hb⟩
  have hR1 := box_by hbox hb hne
  have HB1 := hid (by_new_row HBW.out hb)
  have hs1 := hb.size
  have hs2 : w.heap.size < w1.heap.size := Nat.lt_of_lt_of_le hbox.lt hs1
  have hg1 := hc.block_lt
  obtain ⟨W1, hW1, hbW1, hX1⟩ := oxm_box w1 32768 F false 0 none 0 0 none 0 0
  have HW1 := hid hW1
  have hXg : w1.heap.size ≠ g := by omega
  have hXR : w1.heap.size ≠ w.heap.size := by omega
  have gX : some w1.heap.size ≠ some g := by simpa using hXg
  have gR : some w.heap.size ≠ some g := by simpa using hne
  have mX : some w1.heap.size ≠ some M := by simp; omega
  have mR : some w.heap.size ≠ some M := by simp; omega
  have hle : w.heap.size ≤ w1.heap.size := by omega
  have hc1 := hc.below hbW1
  have hR2 := hR1.below hbW1
  have HB2 := hid (grownBy_then HB1.out (grownBy_more (below_by_none hbW1)) : w.grownBy W1 (some g))
  clear hb hbox hc hR1 HB1 hW1 hbW1 hs1 hM2 hg1
  go_wp2_with fail
  rw [HW1.out]
  refine (wrongHead_any 32768 F false 0 none 0 0 none 0 0 ((N : Int)) _ (by omega) (by omega)).mono ?_
  rintro e w2 ⟨rfl, hb2⟩
  have hc2 := hc1.below hb2
  have hR3 := hR2.below hb2
  have hX2 := hX1.below hb2
  have HB3 := hid (grownBy_then HB2.out (grownBy_more (below_by_none hb2)) : w.grownBy w2 (some g))
  clear hc1 hR2 hX1 HB2 hb2 HW1
  obtain ⟨d0, d1, d2, d3, d4, d5⟩ := hX2.six
  have zX := hX2.free
  go_wp2_with fail
  rw [HE.out]
  refine (hc2.fail _).mono ?_
  rintro e w3 ⟨rfl, hc3, hb3⟩
  have hX3 := box_by hX2 hb3 hXg
  have hR4 := box_by hR3 hb3 hne
  have HB4 := hid (grownBy_then HB3.out hb3)
  clear hc2 hX2 hR3 HB3 hb3 d0 d1 d2 d3 d4 d5 zX
  obtain ⟨d0, d1, d2, d3, d4, d5⟩ := hX3.six
  have zX := hX3.free
  go_wp2_with fail
  have hc6 := hc3
  have hX6 := hX3
  have hR6 := hR4
  have HB6 := HB4
  clear hc3 hX3 hR4 HB4 d0 d1 d2 d3 d4 d5 zX
  refine (readBytes_one_short hc6 HQ.out (by omega)).mono ?_
  rintro e w7 ⟨a1, n1, c1, a2, n2, c2, l5, r5, rfl, hc7, hb7⟩
  have hX7 := box_by hX6 hb7 hXg
  have hR7 := box_by hR6 hb7 hne
  have HB7 := hid (grownBy_then HB6.out hb7)
  clear hX6 hR6 HB6 hb7 hc6
  obtain ⟨d0, d1, d2, d3, d4, d5⟩ := hX7.six
  obtain ⟨e0, e1, e2, e3, e4, e5⟩ := hR7.six
  have zX := hX7.free
  have zR := hR7.free
  go_wp2_with fail
  have hk := ((hR7.far (i := 4) (.slice a1 n1 c1) hXR).far (i := 5) (.slice a2 n2 c2) hXR).set6 (.int .i64 32768) (.int .i64 F) (.bool false) (.int .u64 0) (.slice a1 n1 c1) (.slice a2 n2 c2)
  obtain ⟨k0, k1, k2, k3, k4, k5⟩ := hk.six
  refine bodyPost_ret (v := .agg #[.int .i64 32768, .int .i64 F, .bool false, .int .u64 0, .slice a1 n1 c1, .slice a2 n2 c2]) (by simp [results, Tryz.results156, go_sem, k0, k1, k2, k3, k4, k5]) rfl ⟨32768, F, false, 0, a1, n1, c1, a2, n2, c2, l5, r5, rfl, ?_, ?_⟩
  · repeat (first | refine Cur.kept ?_ (by_setCell _ _ _ _) gR mR | refine Cur.kept ?_ (by_setCell _ _ _ _) gX mX)
    exact hc7
  · repeat (refine by_set_new ?_ (by omega) _)
    exact HB7.out

set_option maxRecDepth 100000 in
set_option maxHeartbeats 2000000 in
theorem read8_basic_two (h : Cur w g M l r s o 0) (hs : s ≠ 0) (hM : M < w.heap.size) (hl : 4 ≤ l.length) {n F : Int} {N : Nat} {l4 : List Int} (hC : numL (l.take 2) = 32768) (hn : numL ((l.drop 2).take 1) = n) (hL : numL (((l.drop 2).drop 1).take 1) = (N : Int)) (h4 : ((l.drop 2).drop 1).drop 1 = l4) (hF : n / 2 = F) (hH : oddB n = true) (hE : headE 32768 F true ((N : Int)) = 0) {v m l6 : List Int} {q : Nat} (hN : N = 2 * q) (hv : l4.take q = v) (hv2 : l4.drop q = l6) (hm : l6.take q = m) (hq : N ≤ l4.length) :
    Calls Tryz.prog 156 #[.pointer (some ⟨g, 0, none⟩)] w (ReadGood w g M 32768 F true 0 v m (r + (2 : Nat) + (1 : Nat) + (1 : Nat) + (N : Nat)) s o) := by
  have HS := hid hs
  have oct := h.oct
  have hg := h.block_lt
  obtain ⟨W, hW, hbW, hbox⟩ := oxm_box w 0 0 false 0 none 0 0 none 0 0
  have HW := hid hW
  have hcW := h.below hbW
  have hcWX := hid hcW
  have HBW := hid (below_by_none hbW)
  have hne : w.heap.size ≠ g := by omega
  have hMW : M ≠ w.heap.size := by omega
  clear hW hbW
  have hM2 : M < W.heap.size := by have := hbox.lt; omega
  have hmf : ∀ (fn : Fn) (first cap : Array Value) (w : World), (Instr.makeFunc fn first cap).run Tryz.prog w = .ok (.func fn first cap) w := fun _ _ _ _ => rfl
  have L0 := num_byte ((oct.drop 2).drop 1)
  rw [hL] at L0
  obtain ⟨L1, L2⟩ := L0
  have HE := hid hE
  have H1 := readHead8_ok hcW hM2 hl hC hn hL
  rw [hF, hH, h4] at H1
  have H1 := hid H1
  have HQ := hid hq
  have HN := hid hN
  have HV1 := hid hv
  have HV2 := hid hv2
  have HV3 := hid hm
  have RR : Hid (r + (2 : Nat) + (1 : Nat) + (1 : Nat) + (q : Nat) + (q : Nat) = r + (2 : Nat) + (1 : Nat) + (1 : Nat) + (N : Nat)) := by show _ = _; omega
  clear hq hv hv2 hm hN
  clear hs hl hcW oct hcWX hC hn hL h4 hF hH hE
  go_enter Tryz.func156, Tryz.ntmps156
  go_wp2_with fail
  rw [HW.out]
  refine H1.out.mono ?_
  rintro e w1 ⟨rfl, hc, hb⟩
  have hR1 := box_by hbox hb hne
  have HB1 := hid (by_new_row HBW.out hb)
  have hs1 := hb.size
  have hs2 : w.heap.size < w1.heap.size := Nat.lt_of_lt_of_le hbox.lt hs1
  have hg1 := hc.block_lt
  obtain ⟨W1, hW1, hbW1, hX1⟩ := oxm_box w1 32768 F true 0 none 0 0 none 0 0
  have HW1 := hid hW1
  have hXg : w1.heap.size ≠ g := by omega
  have hXR : w1.heap.size ≠ w.heap.size := by omega
  have gX : some w1.heap.size ≠ some g := by simpa using hXg
  have gR : some w.heap.size ≠ some g := by simpa using hne
  have mX : some w1.heap.size ≠ some M := by simp; omega
  have mR : some w.heap.size ≠ some M := by simp; omega
  have hle : w.heap.size ≤ w1.heap.size := by omega
  have hc1 := hc.below hbW1
  have hR2 := hR1.below hbW1
  have HB2 := hid (grownBy_then HB1.out (grownBy_more (below_by_none hbW1)) : w.grownBy W1 (some g))
  clear hb hbox hc hR1 HB1 hW1 hbW1 hs1 hM2 hg1
  go_wp2_with fail
  rw [HW1.out]
  refine (wrongHead_any 32768 F true 0 none 0 0 none 0 0 ((N : Int)) _ (by omega) (by omega)).mono ?_
  rintro e w2 ⟨rfl, hb2⟩
  have hc2 := hc1.below hb2
  have hR3 := hR2.below hb2
  have hX2 := hX1.below hb2
  have HB3 := hid (grownBy_then HB2.out (grownBy_more (below_by_none hb2)) : w.grownBy w2 (some g))
  clear hc1 hR2 hX1 HB2 hb2 HW1
  obtain ⟨d0, d1, d2, d3, d4, d5⟩ := hX2.six
  have zX := hX2.free
  go_wp2_with fail
  rw [HE.out]
  refine (hc2.fail _).mono ?_
  rintro e w3 ⟨rfl, hc3, hb3⟩
  have hX3 := box_by hX2 hb3 hXg
  have hR4 := box_by hR3 hb3 hne
  have HB4 := hid (grownBy_then HB3.out hb3)
  clear hc2 hX2 hR3 HB3 hb3 d0 d1 d2 d3 d4 d5 zX
  obtain ⟨d0, d1, d2, d3, d4, d5⟩ := hX3.six
  have zX := hX3.free
  go_wp2_with fail
  have hc6 := hc3
  have hX6 := hX3
  have hR6 := hR4
  have HB6 := HB4
  clear hc3 hX3 hR4 HB4 d0 d1 d2 d3 d4 d5 zX
  have hsz := hX6.lt
  refine (readBytes_two hc6 HN.out HQ.out (by omega) HV1.out HV2.out HV3.out rfl).mono ?_
  rintro e w7 ⟨a1, c1, a2, c2, rfl, i1, i2, hmc, hn1, hn2, hc7, hb7⟩
  have nR1 : ∀ q : Addr, a1 = some q → q.block ≠ w.heap.size := fun q hq => by have := hn1 q hq; omega
  have nX1 : ∀ q : Addr, a1 = some q → q.block ≠ w1.heap.size := fun q hq => by have := hn1 q hq; omega
  have nR2 : ∀ q : Addr, a2 = some q → q.block ≠ w.heap.size := fun q hq => by have := hn2 q hq; omega
  have nX2 : ∀ q : Addr, a2 = some q → q.block ≠ w1.heap.size := fun q hq => by have := hn2 q hq; omega
  have hw1 : New8 w a1 := fun q hq => by have := hn1 q hq; omega
  have hw2 : New8 w a2 := fun q hq => by have := hn2 q hq; omega
  clear hn1 hn2
  have hX7 := box_by hX6 hb7 hXg
  have hR7 := box_by hR6 hb7 hne
  have HB7 := hid (grownBy_then HB6.out hb7)
  clear hX6 hR6 HB6 hb7 hc6
  obtain ⟨d0, d1, d2, d3, d4, d5⟩ := hX7.six
  obtain ⟨e0, e1, e2, e3, e4, e5⟩ := hR7.six
  have zX := hX7.free
  have zR := hR7.free
  have I1 := hid i1
  have I2 := hid i2
  have HMC := hid hmc
  clear i1 i2 hmc
  obtain ⟨vl, hvl⟩ : ∃ n, v.length = n := ⟨_, rfl⟩
  obtain ⟨ml, hml⟩ : ∃ n, m.length = n := ⟨_, rfl⟩
  rw [hvl, hml]
  have HVL := hid hvl
  have HML := hid hml
  clear hvl hml
  go_wp2_with fail
  have hk := ((hR7.far (i := 4) (.slice a1 vl c1) hXR).far (i := 5) (.slice a2 ml c2) hXR).set6 (.int .i64 32768) (.int .i64 F) (.bool true) (.int .u64 0) (.slice a1 vl c1) (.slice a2 ml c2)
  obtain ⟨k0, k1, k2, k3, k4, k5⟩ := hk.six
  refine bodyPost_ret (v := .agg #[.int .i64 32768, .int .i64 F, .bool true, .int .u64 0, .slice a1 vl c1, .slice a2 ml c2]) (by simp [results, Tryz.results156, go_sem, k0, k1, k2, k3, k4, k5]) rfl ⟨a1, c1, a2, c2, by rw [HVL.out, HML.out], ?_, ?_, HMC.out, ⟨hw1, hw2⟩, ?_, ?_⟩
  · repeat (first | refine Ints.apart ?_ _ nR1 | refine Ints.apart ?_ _ nX1)
    exact I1.out
  · repeat (first | refine Ints.apart ?_ _ nR2 | refine Ints.apart ?_ _ nX2)
    exact I2.out
  · refine ⟨l6.drop q, ?_⟩
    rw [← RR.out]
    repeat (first | refine Cur.kept ?_ (by_setCell _ _ _ _) gR mR | refine Cur.kept ?_ (by_setCell _ _ _ _) gX mX)
    exact hc7
  · repeat (refine by_set_new ?_ (by omega) _)
    exact HB7.out

set_option maxRecDepth 100000 in
set_option maxHeartbeats 2000000 in
theorem read8_basic_two_short (h : Cur w g M l r s o 0) (hs : s ≠ 0) (hM : M < w.heap.size) (hl : 4 ≤ l.length) {n F : Int} {N : Nat} {l4 : List Int} (hC : numL (l.take 2) = 32768) (hn : numL ((l.drop 2).take 1) = n) (hL : numL (((l.drop 2).drop 1).take 1) = (N : Int)) (h4 : ((l.drop 2).drop 1).drop 1 = l4) (hF : n / 2 = F) (hH : oddB n = true) (hE : headE 32768 F true ((N : Int)) = 0) {q : Nat} (hN : N = 2 * q) (hq : l4.length < N) :
    Calls Tryz.prog 156 #[.pointer (some ⟨g, 0, none⟩)] w (ReadNone w g M s o s) := by
  have HS := hid hs
  have oct := h.oct
  have hg := h.block_lt
  obtain ⟨W, hW, hbW, hbox⟩ := oxm_box w 0 0 false 0 none 0 0 none 0 0
  have HW := hid hW
  have hcW := h.below hbW
  have hcWX := hid hcW
  have HBW := hid (below_by_none hbW)
  have hne : w.heap.size ≠ g := by omega
  have hMW : M ≠ w.heap.size := by omega
  clear hW hbW
  have hM2 : M < W.heap.size := by have := hbox.lt; omega
  have hmf : ∀ (fn : Fn) (first cap : Array Value) (w : World), (Instr.makeFunc fn first cap).run Tryz.prog w = .ok (.func fn first cap) w := fun _ _ _ _ => rfl
  have L0 := num_byte ((oct.drop 2).drop 1)
  rw [hL] at L0
  obtain ⟨L1, L2⟩ := L0
  have HE := hid hE
  have H1 := readHead8_ok hcW hM2 hl hC hn hL
  rw [hF, hH, h4] at H1
  have H1 := hid H1
  have HQ := hid hq
  have HN := hid hN
  clear hq hN
  clear hs hl hcW oct hcWX hC hn hL h4 hF hH hE
  go_enter Tryz.func156, Tryz.ntmps156
  go_wp2_with fail
  rw [HW.out]
  refine H1.out.mono ?_
  rintro e w1 ⟨rfl, hc, hb⟩
  have hR1 := box_by hbox hb hne
  have HB1 := hid (by_new_row HBW.out hb)
  have hs1 := hb.size
  have hs2 : w.heap.size < w1.heap.size := Nat.lt_of_lt_of_le hbox.lt hs1
  have hg1 := hc.block_lt
  obtain ⟨W1, hW1, hbW1, hX1⟩ := oxm_box w1 32768 F true 0 none 0 0 none 0 0
  have HW1 := hid hW1
  have hXg : w1.heap.size ≠ g := by omega
  have hXR : w1.heap.size ≠ w.heap.size := by omega
  have gX : some w1.heap.size ≠ some g := by simpa using hXg
  have gR : some w.heap.size ≠ some g := by simpa using hne
  have mX : some w1.heap.size ≠ some M := by simp; omega
  have mR : some w.heap.size ≠ some M := by simp; omega
  have hle : w.heap.size ≤ w1.heap.size := by omega
  have hc1 := hc.below hbW1
  have hR2 := hR1.below hbW1
  have HB2 := hid (grownBy_then HB1.out (grownBy_more (below_by_none hbW1)) : w.grownBy W1 (some g))
  clear hb hbox hc hR1 HB1 hW1 hbW1 hs1 hM2 hg1
  go_wp2_with fail
  rw [HW1.out]
  refine (wrongHead_any 32768 F true 0 none 0 0 none 0 0 ((N : Int)) _ (by omega) (by omega)).mono ?_
  rintro e w2 ⟨rfl, hb2⟩
  have hc2 := hc1.below hb2
  have hR3 := hR2.below hb2
  have hX2 := hX1.below hb2
  have HB3 := hid (grownBy_then HB2.out (grownBy_more (below_by_none hb2)) : w.grownBy w2 (some g))
  clear hc1 hR2 hX1 HB2 hb2 HW1
  obtain ⟨d0, d1, d2, d3, d4, d5⟩ := hX2.six
  have zX := hX2.free
  go_wp2_with fail
  rw [HE.out]
  refine (hc2.fail _).mono ?_
  rintro e w3 ⟨rfl, hc3, hb3⟩
  have hX3 := box_by hX2 hb3 hXg
  have hR4 := box_by hR3 hb3 hne
  have HB4 := hid (grownBy_then HB3.out hb3)
  clear hc2 hX2 hR3 HB3 hb3 d0 d1 d2 d3 d4 d5 zX
  obtain ⟨d0, d1, d2, d3, d4, d5⟩ := hX3.six
  have zX := hX3.free
  go_wp2_with fail
  have hc6 := hc3
  have hX6 := hX3
  have hR6 := hR4
  have HB6 := HB4
  clear hc3 hX3 hR4 HB4 d0 d1 d2 d3 d4 d5 zX
  refine (readBytes_two_short hc6 HS.out HN.out HQ.out (by omega)).mono ?_
  rintro e w7 ⟨a1, n1, c1, a2, n2, c2, l5, r5, rfl, hc7, hb7⟩
  have hX7 := box_by hX6 hb7 hXg
  have hR7 := box_by hR6 hb7 hne
  have HB7 := hid (grownBy_then HB6.out hb7)
  clear hX6 hR6 HB6 hb7 hc6
  obtain ⟨d0, d1, d2, d3, d4, d5⟩ := hX7.six
  obtain ⟨e0, e1, e2, e3, e4, e5⟩ := hR7.six
  have zX := hX7.free
  have zR := hR7.free
  go_wp2_with fail
  have hk := ((hR7.far (i := 4) (.slice a1 n1 c1) hXR).far (i := 5) (.slice a2 n2 c2) hXR).set6 (.int .i64 32768) (.int .i64 F) (.bool true) (.int .u64 0) (.slice a1 n1 c1) (.slice a2 n2 c2)
  obtain ⟨k0, k1, k2, k3, k4, k5⟩ := hk.six
  refine bodyPost_ret (v := .agg #[.int .i64 32768, .int .i64 F, .bool true, .int .u64 0, .slice a1 n1 c1, .slice a2 n2 c2]) (by simp [results, Tryz.results156, go_sem, k0, k1, k2, k3, k4, k5]) rfl ⟨32768, F, true, 0, a1, n1, c1, a2, n2, c2, l5, r5, rfl, ?_, ?_⟩
  · repeat (first | refine Cur.kept ?_ (by_setCell _ _ _ _) gR mR | refine Cur.kept ?_ (by_setCell _ _ _ _) gX mX)
    exact hc7
  · repeat (refine by_set_new ?_ (by omega) _)
    exact HB7.out

set_option maxRecDepth 100000 in
set_option maxHeartbeats 2000000 in
theorem read8_extra_one (h : Cur w g M l r s o 0) (hs : s ≠ 0) (hM : M < w.heap.size) (hl : 4 ≤ l.length) {n F : Int} {N : Nat} {l4 : List Int} (hC : numL (l.take 2) = 65535) (hn : numL ((l.drop 2).take 1) = n) (hL : numL (((l.drop 2).drop 1).take 1) = (N : Int) + 4) (h4 : ((l.drop 2).drop 1).drop 1 = l4) (hF : n / 2 = F) (hH : oddB n = false) (hE : headE 65535 F false ((N : Int) + 4) = 0) {XX : Int} {l5 : List Int} (hx4 : 4 ≤ l4.length) (hx : numL (l4.take 4) = XX) (h5 : l4.drop 4 = l5) {v m : List Int} (hm : m = []) (hv : l5.take N = v) (hq : N ≤ l5.length) :
    Calls Tryz.prog 156 #[.pointer (some ⟨g, 0, none⟩)] w (ReadGood w g M 65535 F false XX v m (r + (2 : Nat) + (1 : Nat) + (1 : Nat) + (4 : Nat) + (N : Nat)) s o) := by
  have HS := hid hs
  have oct := h.oct
  have hg := h.block_lt
  obtain ⟨W, hW, hbW, hbox⟩ := oxm_box w 0 0 false 0 none 0 0 none 0 0
  have HW := hid hW
  have hcW := h.below hbW
  have hcWX := hid hcW
  have HBW := hid (below_by_none hbW)
  have hne : w.heap.size ≠ g := by omega
  have hMW : M ≠ w.heap.size := by omega
  clear hW hbW
  have hM2 : M < W.heap.size := by have := hbox.lt; omega
  have hmf : ∀ (fn : Fn) (first cap : Array Value) (w : World), (Instr.makeFunc fn first cap).run Tryz.prog w = .ok (.func fn first cap) w := fun _ _ _ _ => rfl
  have L0 := num_byte ((oct.drop 2).drop 1)
  rw [hL] at L0
  obtain ⟨L1, L2⟩ := L0
  have HE := hid hE
  have H1 := readHead8_ok hcW hM2 hl hC hn hL
  rw [hF, hH, h4] at H1
  have H1 := hid H1
  have HL4 := hid hx4
  have HX := hid hx
  have H5 := hid h5
  clear hx4 hx h5
  have HQ := hid hq
  have HV := hid hv
  have RR : Hid (r + (2 : Nat) + (1 : Nat) + (1 : Nat) + (4 : Nat) + (N : Nat) = r + (2 : Nat) + (1 : Nat) + (1 : Nat) + (4 : Nat) + (N : Nat)) := hid rfl
  have HM := hid hm
  clear hq hv hm
  clear hs hl hcW oct hcWX hC hn hL h4 hF hH hE
  go_enter Tryz.func156, Tryz.ntmps156
  go_wp2_with fail
  rw [HW.out]
  refine H1.out.mono ?_
  rintro e w1 ⟨rfl, hc, hb⟩
  have hR1 := box_by hbox hb hne
  have HB1 := hid (by_new_row HBW.out hb)
  have hs1 := hb.size
  have hs2 : w.heap.size < w1.heap.size := Nat.lt_of_lt_of_le hbox.lt hs1
  have hg1 := hc.block_lt
  obtain ⟨W1, hW1, hbW1, hX1⟩ := oxm_box w1 65535 F false 0 none 0 0 none 0 0
  have HW1 := hid hW1
  have hXg : w1.heap.size ≠ g := by omega
  have hXR : w1.heap.size ≠ w.heap.size := by omega
  have gX : some w1.heap.size ≠ some g := by simpa using hXg
  have gR : some w.heap.size ≠ some g := by simpa using hne
  have mX : some w1.heap.size ≠ some M := by simp; omega
  have mR : some w.heap.size ≠ some M := by simp; omega
  have hle : w.heap.size ≤ w1.heap.size := by omega
  have hc1 := hc.below hbW1
  have hR2 := hR1.below hbW1
  have HB2 := hid (grownBy_then HB1.out (grownBy_more (below_by_none hbW1)) : w.grownBy W1 (some g))
  clear hb hbox hc hR1 HB1 hW1 hbW1 hs1 hM2 hg1
  go_wp2_with fail
  rw [HW1.out]
  refine (wrongHead_any 65535 F false 0 none 0 0 none 0 0 ((N : Int) + 4) _ (by omega) (by omega)).mono ?_
  rintro e w2 ⟨rfl, hb2⟩
  have hc2 := hc1.below hb2
  have hR3 := hR2.below hb2
  have hX2 := hX1.below hb2
  have HB3 := hid (grownBy_then HB2.out (grownBy_more (below_by_none hb2)) : w.grownBy w2 (some g))
  clear hc1 hR2 hX1 HB2 hb2 HW1
  obtain ⟨d0, d1, d2, d3, d4, d5⟩ := hX2.six
  have zX := hX2.free
  go_wp2_with fail
  rw [HE.out]
  refine (hc2.fail _).mono ?_
  rintro e w3 ⟨rfl, hc3, hb3⟩
  have hX3 := box_by hX2 hb3 hXg
  have hR4 := box_by hR3 hb3 hne
  have HB4 := hid (grownBy_then HB3.out hb3)
  clear hc2 hX2 hR3 HB3 hb3 d0 d1 d2 d3 d4 d5 zX
  obtain ⟨d0, d1, d2, d3, d4, d5⟩ := hX3.six
  have zX := hX3.free
  go_wp2_with fail
  refine (hc3.num_ok (n := 4) (by decide) (by decide) HL4.out).mono ?_
  rintro e w4 ⟨rfl, hc4, hb4⟩
  rw [HX.out]
  have hX4 := box_by hX3 hb4 hXg
  have hR5 := box_by hR4 hb4 hne
  have HB5 := hid (grownBy_then HB4.out hb4)
  clear hc3 hX3 hR4 HB4 hb4 d0 d1 d2 d3 d4 d5 zX
  obtain ⟨d0, d1, d2, d3, d4, d5⟩ := hX4.six
  have zX := hX4.free
  go_wp2_with fail
  rw [H5.out] at hc4
  have hc6 := hc4.kept (by_setCell w4 w1.heap.size 3 (.int .u64 XX)) gX mX
  have hX6 := hX4.set 3 (.int .u64 XX) (by simp)
  have hR6 := hR5.far (i := 3) (.int .u64 XX) hXR
  have HB6 := hid (by_set_new (i := 3) HB5.out hle (.int .u64 XX))
  clear hc4 hX4 hR5 HB5 d0 d1 d2 d3 d4 d5 zX
  have hz := readBytes_one hc6 HQ.out (by omega)
  rw [HV.out, ← HM.out] at hz
  have hsz := hX6.lt
  refine (hz).mono ?_
  rintro e w7 ⟨a1, c1, a2, c2, rfl, i1, i2, hmc, hn1, hn2, hc7, hb7⟩
  have nR1 : ∀ q : Addr, a1 = some q → q.block ≠ w.heap.size := fun q hq => by have := hn1 q hq; omega
  have nX1 : ∀ q : Addr, a1 = some q → q.block ≠ w1.heap.size := fun q hq => by have := hn1 q hq; omega
  have nR2 : ∀ q : Addr, a2 = some q → q.block ≠ w.heap.size := fun q hq => by have := hn2 q hq; omega
  have nX2 : ∀ q : Addr, a2 = some q → q.block ≠ w1.heap.size := fun q hq => by have := hn2 q hq; omega
  have hw1 : New8 w a1 := fun q hq => by have := hn1 q hq; omega
  have hw2 : New8 w a2 := fun q hq => by have := hn2 q hq; omega
  clear hn1 hn2
  have hX7 := box_by hX6 hb7 hXg
  have hR7 := box_by hR6 hb7 hne
  have HB7 := hid (grownBy_then HB6.out hb7)
  clear hX6 hR6 HB6 hb7 hc6
  obtain ⟨d0, d1, d2, d3, d4, d5⟩ := hX7.six
  obtain ⟨e0, e1, e2, e3, e4, e5⟩ := hR7.six
  have zX := hX7.free
  have zR := hR7.free
  have I1 := hid i1
  have I2 := hid i2
  have HMC := hid hmc
  clear i1 i2 hmc
  obtain ⟨vl, hvl⟩ : ∃ n, v.length = n := ⟨_, rfl⟩
  obtain ⟨ml, hml⟩ : ∃ n, m.length = n := ⟨_, rfl⟩
  rw [hvl, hml]
  have HVL := hid hvl
  have HML := hid hml
  clear hvl hml
  go_wp2_with fail
  have hk := ((hR7.far (i := 4) (.slice a1 vl c1) hXR).far (i := 5) (.slice a2 ml c2) hXR).set6 (.int .i64 65535) (.int .i64 F) (.bool false) (.int .u64 XX) (.slice a1 vl c1) (.slice a2 ml c2)
  obtain ⟨k0, k1, k2, k3, k4, k5⟩ := hk.six
  refine bodyPost_ret (v := .agg #[.int .i64 65535, .int .i64 F, .bool false, .int .u64 XX, .slice a1 vl c1, .slice a2 ml c2]) (by simp [results, Tryz.results156, go_sem, k0, k1, k2, k3, k4, k5]) rfl ⟨a1, c1, a2, c2, by rw [HVL.out, HML.out], ?_, ?_, HMC.out, ⟨hw1, hw2⟩, ?_, ?_⟩
  · repeat (first | refine Ints.apart ?_ _ nR1 | refine Ints.apart ?_ _ nX1)
    exact I1.out
  · repeat (first | refine Ints.apart ?_ _ nR2 | refine Ints.apart ?_ _ nX2)
    exact I2.out
  · refine ⟨l5.drop N, ?_⟩
    repeat (first | refine Cur.kept ?_ (by_setCell _ _ _ _) gR mR | refine Cur.kept ?_ (by_setCell _ _ _ _) gX mX)
    exact hc7
  · repeat (refine by_set_new ?_ (by omega) _)
    exact HB7.out

set_option maxRecDepth 100000 in
set_option maxHeartbeats 2000000 in
theorem read8_extra_one_short (h : Cur w g M l r s o 0) (hs : s ≠ 0) (hM : M < w.heap.size) (hl : 4 ≤ l.length) {n F : Int} {N : Nat} {l4 : List Int} (hC : numL (l.take 2) = 65535) (hn : numL ((l.drop 2).take 1) = n) (hL : numL (((l.drop 2).drop 1).take 1) = (N : Int) + 4) (h4 : ((l.drop 2).drop 1).drop 1 = l4) (hF : n / 2 = F) (hH : oddB n = false) (hE : headE 65535 F false ((N : Int) + 4) = 0) {XX : Int} {l5 : List Int} (hx4 : 4 ≤ l4.length) (hx : numL (l4.take 4) = XX) (h5 : l4.drop 4 = l5) (hq : l5.length < N) :
    Calls Tryz.prog 156 #[.pointer (some ⟨g, 0, none⟩)] w (ReadNone w g M s o s) := by
  have HS := hid hs
  have oct := h.oct
  have hg := h.block_lt
  obtain ⟨W, hW, hbW, hbox⟩ := oxm_box w 0 0 false 0 none 0 0 none 0 0
  have HW := hid hW
  have hcW := h.below hbW
  have hcWX := hid hcW
  have HBW := hid (below_by_none hbW)
  have hne : w.heap.size ≠ g := by omega
  have hMW : M ≠ w.heap.size := by omega
  clear hW hbW
  have hM2 : M < W.heap.size := by have := hbox.lt; omega
  have hmf : ∀ (fn : Fn) (first cap : Array Value) (w : World), (Instr.makeFunc fn first cap).run Tryz.prog w = .ok (.func fn first cap) w := fun _ _ _ _ => rfl
  have L0 := num_byte ((oct.drop 2).drop 1)
  rw [hL] at L0
  obtain ⟨L1, L2⟩ := L0
  have HE := hid hE
  have H1 := readHead8_ok hcW hM2 hl hC hn hL
  rw [hF, hH, h4] at H1
  have H1 := hid H1
  have HL4 := hid hx4
  have HX := hid hx
  have H5 := hid h5
  clear hx4 hx h5
  have HQ := hid hq
  clear hq
  clear hs hl hcW oct hcWX hC hn hL h4 hF hH hE
  go_enter Tryz.func156, Tryz.ntmps156
  go_wp2_with fail
  rw [HW.out]
  refine H1.out.mono ?_
  rintro e w1 ⟨rfl, hc, hb⟩
  have hR1 := box_by hbox hb hne
  have HB1 := hid (by_new_row HBW.out hb)
  have hs1 := hb.size
  have hs2 : w.heap.size < w1.heap.size := Nat.lt_of_lt_of_le hbox.lt hs1
  have hg1 := hc.block_lt
  obtain ⟨W1, hW1, hbW1, hX1⟩ := oxm_box w1 65535 F false 0 none 0 0 none 0 0
  have HW1 := hid hW1
  have hXg : w1.heap.size ≠ g := by omega
  have hXR : w1.heap.size ≠ w.heap.size := by omega
  have gX : some w1.heap.size ≠ some g := by simpa using hXg
  have gR : some w.heap.size ≠ some g := by simpa using hne
  have mX : some w1.heap.size ≠ some M := by simp; omega
  have mR : some w.heap.size ≠ some M := by simp; omega
  have hle : w.heap.size ≤ w1.heap.size := by omega
  have hc1 := hc.below hbW1
  have hR2 := hR1.below hbW1
  have HB2 := hid (grownBy_then HB1.out (grownBy_more (below_by_none hbW1)) : w.grownBy W1 (some g))
  clear hb hbox hc hR1 HB1 hW1 hbW1 hs1 hM2 hg1
  go_wp2_with fail
  rw [HW1.out]
  refine (wrongHead_any 65535 F false 0 none 0 0 none 0 0 ((N : Int) + 4) _ (by omega) (by omega)).mono ?_
  rintro e w2 ⟨rfl, hb2⟩
  have hc2 := hc1.below hb2
  have hR3 := hR2.below hb2
  have hX2 := hX1.below hb2
  have HB3 := hid (grownBy_then HB2.out (grownBy_more (below_by_none hb2)) : w.grownBy w2 (some g))
  clear hc1 hR2 hX1 HB2 hb2 HW1
  obtain ⟨d0, d1, d2, d3, d4, d5⟩ := hX2.six
  have zX := hX2.free
  go_wp2_with fail
  rw [HE.out]
  refine (hc2.fail _).mono ?_
  rintro e w3 ⟨rfl, hc3, hb3⟩
  have hX3 := box_by hX2 hb3 hXg
  have hR4 := box_by hR3 hb3 hne
  have HB4 := hid (grownBy_then HB3.out hb3)
  clear hc2 hX2 hR3 HB3 hb3 d0 d1 d2 d3 d4 d5 zX
  obtain ⟨d0, d1, d2, d3, d4, d5⟩ := hX3.six
  have zX := hX3.free
  go_wp2_with fail
  refine (hc3.num_ok (n := 4) (by decide) (by decide) HL4.out).mono ?_
  rintro e w4 ⟨rfl, hc4, hb4⟩
  rw [HX.out]
  have hX4 := box_by hX3 hb4 hXg
  have hR5 := box_by hR4 hb4 hne
  have HB5 := hid (grownBy_then HB4.out hb4)
  clear hc3 hX3 hR4 HB4 hb4 d0 d1 d2 d3 d4 d5 zX
  obtain ⟨d0, d1, d2, d3, d4, d5⟩ := hX4.six
  have zX := hX4.free
  go_wp2_with fail
  rw [H5.out] at hc4
  have hc6 := hc4.kept (by_setCell w4 w1.heap.size 3 (.int .u64 XX)) gX mX
  have hX6 := hX4.set 3 (.int .u64 XX) (by simp)
  have hR6 := hR5.far (i := 3) (.int .u64 XX) hXR
  have HB6 := hid (by_set_new (i := 3) HB5.out hle (.int .u64 XX))
  clear hc4 hX4 hR5 HB5 d0 d1 d2 d3 d4 d5 zX
  refine (readBytes_one_short hc6 HQ.out (by omega)).mono ?_
  rintro e w7 ⟨a1, n1, c1, a2, n2, c2, l5, r5, rfl, hc7, hb7⟩
  have hX7 := box_by hX6 hb7 hXg
  have hR7 := box_by hR6 hb7 hne
  have HB7 := hid (grownBy_then HB6.out hb7)
  clear hX6 hR6 HB6 hb7 hc6
  obtain ⟨d0, d1, d2, d3, d4, d5⟩ := hX7.six
  obtain ⟨e0, e1, e2, e3, e4, e5⟩ := hR7.six
  have zX := hX7.free
  have zR := hR7.free
  go_wp2_with fail
  have hk := ((hR7.far (i := 4) (.slice a1 n1 c1) hXR).far (i := 5) (.slice a2 n2 c2) hXR).set6 (.int .i64 65535) (.int .i64 F) (.bool false) (.int .u64 XX) (.slice a1 n1 c1) (.slice a2 n2 c2)
  obtain ⟨k0, k1, k2, k3, k4, k5⟩ := hk.six
  refine bodyPost_ret (v := .agg #[.int .i64 65535, .int .i64 F, .bool false, .int .u64 XX, .slice a1 n1 c1, .slice a2 n2 c2]) (by simp [results, Tryz.results156, go_sem, k0, k1, k2, k3, k4, k5]) rfl ⟨65535, F, false, XX, a1, n1, c1, a2, n2, c2, l5, r5, rfl, ?_, ?_⟩
  · repeat (first | refine Cur.kept ?_ (by_setCell _ _ _ _) gR mR | refine Cur.kept ?_ (by_setCell _ _ _ _) gX mX)
    exact hc7
  · repeat (refine by_set_new ?_ (by omega) _)
    exact HB7.out

set_option maxRecDepth 100000 in
set_option maxHeartbeats 2000000 in
theorem read8_extra_two (h : Cur w g M l r s o 0) (hs : s ≠ 0) (hM : M < w.heap.size) (hl : 4 ≤ l.length) {n F : Int} {N : Nat} {l4 : List Int} (hC : numL (l.take 2) = 65535) (hn : numL ((l.drop 2).take 1) = n) (hL : numL (((l.drop 2).drop 1).take 1) = (N : Int) + 4) (h4 : ((l.drop 2).drop 1).drop 1 = l4) (hF : n / 2 = F) (hH : oddB n = true) (hE : headE 65535 F true ((N : Int) + 4) = 0) {XX : Int} {l5 : List Int} (hx4 : 4 ≤ l4.length) (hx : numL (l4.take 4) = XX) (h5 : l4.drop 4 = l5) {v m l6 : List Int} {q : Nat} (hN : N = 2 * q) (hv : l5.take q = v) (hv2 : l5.drop q = l6) (hm : l6.take q = m) (hq : N ≤ l5.length) :
    Calls Tryz.prog 156 #[.pointer (some ⟨g, 0, none⟩)] w (ReadGood w g M 65535 F true XX v m (r + (2 : Nat) + (1 : Nat) + (1 : Nat) + (4 : Nat) + (N : Nat)) s o) := by
  have HS := hid hs
  have oct := h.oct
  have hg := h.block_lt
  obtain ⟨W, hW, hbW, hbox⟩ := oxm_box w 0 0 false 0 none 0 0 none 0 0
  have HW := hid hW
  have hcW := h.below hbW
  have hcWX := hid hcW
  have HBW := hid (below_by_none hbW)
  have hne : w.heap.size ≠ g := by omega
  have hMW : M ≠ w.heap.size := by omega
  clear hW hbW
  have hM2 : M < W.heap.size := by have := hbox.lt; omega
  have hmf : ∀ (fn : Fn) (first cap : Array Value) (w : World), (Instr.makeFunc fn first cap).run Tryz.prog w = .ok (.func fn first cap) w := fun _ _ _ _ => rfl
  have L0 := num_byte ((oct.drop 2).drop 1)
  rw [hL] at L0
  obtain ⟨L1, L2⟩ := L0
  have HE := hid hE
  have H1 := readHead8_ok hcW hM2 hl hC hn hL
  rw [hF, hH, h4] at H1
  have H1 := hid H1
  have HL4 := hid hx4
  have HX := hid hx
  have H5 := hid h5
  clear hx4 hx h5
  have HQ := hid hq
  have HN := hid hN
  have HV1 := hid hv
  have HV2 := hid hv2
  have HV3 := hid hm
  have RR : Hid (r + (2 : Nat) + (1 : Nat) + (1 : Nat) + (4 : Nat) + (q : Nat) + (q : Nat) = r + (2 : Nat) + (1 : Nat) + (1 : Nat) + (4 : Nat) + (N : Nat)) := by show _ = _; omega
  clear hq hv hv2 hm hN
  clear hs hl hcW oct hcWX hC hn hL h4 hF hH hE
  go_enter Tryz.func156, Tryz.ntmps156
  go_wp2_with fail
  rw [HW.out]
  refine H1.out.mono ?_
  rintro e w1 ⟨rfl, hc, hb⟩
  have hR1 := box_by hbox hb hne
  have HB1 := hid (by_new_row HBW.out hb)
  have hs1 := hb.size
  have hs2 : w.heap.size < w1.heap.size := Nat.lt_of_lt_of_le hbox.lt hs1
  have hg1 := hc.block_lt
  obtain ⟨W1, hW1, hbW1, hX1⟩ := oxm_box w1 65535 F true 0 none 0 0 none 0 0
  have HW1 := hid hW1
  have hXg : w1.heap.size ≠ g := by omega
  have hXR : w1.heap.size ≠ w.heap.size := by omega
  have gX : some w1.heap.size ≠ some g := by simpa using hXg
  have gR : some w.heap.size ≠ some g := by simpa using hne
  have mX : some w1.heap.size ≠ some M := by simp; omega
  have mR : some w.heap.size ≠ some M := by simp; omega
  have hle : w.heap.size ≤ w1.heap.size := by omega
  have hc1 := hc.below hbW1
  have hR2 := hR1.below hbW1
  have HB2 := hid (grownBy_then HB1.out (grownBy_more (below_by_none hbW1)) : w.grownBy W1 (some g))
  clear hb hbox hc hR1 HB1 hW1 hbW1 hs1 hM2 hg1
  go_wp2_with fail
  rw [HW1.out]
  refine (wrongHead_any 65535 F true 0 none 0 0 none 0 0 ((N : Int) + 4) _ (by omega) (by omega)).mono ?_
  rintro e w2 ⟨rfl, hb2⟩
  have hc2 := hc1.below hb2
  have hR3 := hR2.below hb2
  have hX2 := hX1.below hb2
  have HB3 := hid (grownBy_then HB2.out (grownBy_more (below_by_none hb2)) : w.grownBy w2 (some g))
  clear hc1 hR2 hX1 HB2 hb2 HW1
  obtain ⟨d0, d1, d2, d3, d4, d5⟩ := hX2.six
  have zX := hX2.free
  go_wp2_with fail
  rw [HE.out]
  refine (hc2.fail _).mono ?_
  rintro e w3 ⟨rfl, hc3, hb3⟩
  have hX3 := box_by hX2 hb3 hXg
  have hR4 := box_by hR3 hb3 hne
  have HB4 := hid (grownBy_then HB3.out hb3)
  clear hc2 hX2 hR3 HB3 hb3 d0 d1 d2 d3 d4 d5 zX
  obtain ⟨d0, d1, d2, d3, d4, d5⟩ := hX3.six
  have zX := hX3.free
  go_wp2_with fail
  refine (hc3.num_ok (n := 4) (by decide) (by decide) HL4.out).mono ?_
  rintro e w4 ⟨rfl, hc4, hb4⟩
  rw [HX.out]
  have hX4 := box_by hX3 hb4 hXg
  have hR5 := box_by hR4 hb4 hne
  have HB5 := hid (grownBy_then HB4.out hb4)
  clear hc3 hX3 hR4 HB4 hb4 d0 d1 d2 d3 d4 d5 zX
  obtain ⟨d0, d1, d2, d3, d4, d5⟩ := hX4.six
  have zX := hX4.free
  go_wp2_with fail
  rw [H5.out] at hc4
  have hc6 := hc4.kept (by_setCell w4 w1.heap.size 3 (.int .u64 XX)) gX mX
  have hX6 := hX4.set 3 (.int .u64 XX) (by simp)
  have hR6 := hR5.far (i := 3) (.int .u64 XX) hXR
  have HB6 := hid (by_set_new (i := 3) HB5.out hle (.int .u64 XX))
  clear hc4 hX4 hR5 HB5 d0 d1 d2 d3 d4 d5 zX
  have hsz := hX6.lt
  refine (readBytes_two hc6 HN.out HQ.out (by omega) HV1.out HV2.out HV3.out rfl).mono ?_
  rintro e w7 ⟨a1, c1, a2, c2, rfl, i1, i2, hmc, hn1, hn2, hc7, hb7⟩
  have nR1 : ∀ q : Addr, a1 = some q → q.block ≠ w.heap.size := fun q hq => by have := hn1 q hq; omega
  have nX1 : ∀ q : Addr, a1 = some q → q.block ≠ w1.heap.size := fun q hq => by have := hn1 q hq; omega
  have nR2 : ∀ q : Addr, a2 = some q → q.block ≠ w.heap.size := fun q hq => by have := hn2 q hq; omega
  have nX2 : ∀ q : Addr, a2 = some q → q.block ≠ w1.heap.size := fun q hq => by have := hn2 q hq; omega
  have hw1 : New8 w a1 := fun q hq => by have := hn1 q hq; omega
  have hw2 : New8 w a2 := fun q hq => by have := hn2 q hq; omega
  clear hn1 hn2
  have hX7 := box_by hX6 hb7 hXg
  have hR7 := box_by hR6 hb7 hne
  have HB7 := hid (grownBy_then HB6.out hb7)
  clear hX6 hR6 HB6 hb7 hc6
  obtain ⟨d0, d1, d2, d3, d4, d5⟩ := hX7.six
  obtain ⟨e0, e1, e2, e3, e4, e5⟩ := hR7.six
  have zX := hX7.free
  have zR := hR7.free
  have I1 := hid i1
  have I2 := hid i2
  have HMC := hid hmc
  clear i1 i2 hmc
  obtain ⟨vl, hvl⟩ : ∃ n, v.length = n := ⟨_, rfl⟩
  obtain ⟨ml, hml⟩ : ∃ n, m.length = n := ⟨_, rfl⟩
  rw [hvl, hml]
  have HVL := hid hvl
  have HML := hid hml
  clear hvl hml
  go_wp2_with fail
  have hk := ((hR7.far (i := 4) (.slice a1 vl c1) hXR).far (i := 5) (.slice a2 ml c2) hXR).set6 (.int .i64 65535) (.int .i64 F) (.bool true) (.int .u64 XX) (.slice a1 vl c1) (.slice a2 ml c2)
  obtain ⟨k0, k1, k2, k3, k4, k5⟩ := hk.six
  refine bodyPost_ret (v := .agg #[.int .i64 65535, .int .i64 F, .bool true, .int .u64 XX, .slice a1 vl c1, .slice a2 ml c2]) (by simp [results, Tryz.results156, go_sem, k0, k1, k2, k3, k4, k5]) rfl ⟨a1, c1, a2, c2, by rw [HVL.out, HML.out], ?_, ?_, HMC.out, ⟨hw1, hw2⟩, ?_, ?_⟩
  · repeat (first | refine Ints.apart ?_ _ nR1 | refine Ints.apart ?_ _ nX1)
    exact I1.out
  · repeat (first | refine Ints.apart ?_ _ nR2 | refine Ints.apart ?_ _ nX2)
    exact I2.out
  · refine ⟨l6.drop q, ?_⟩
    rw [← RR.out]
    repeat (first | refine Cur.kept ?_ (by_setCell _ _ _ _) gR mR | refine Cur.kept ?_ (by_setCell _ _ _ _) gX mX)
    exact hc7
  · repeat (refine by_set_new ?_ (by omega) _)
    exact HB7.out

set_option maxRecDepth 100000 in
set_option maxHeartbeats 2000000 in
theorem read8_extra_two_short (h : Cur w g M l r s o 0) (hs : s ≠ 0) (hM : M < w.heap.size) (hl : 4 ≤ l.length) {n F : Int} {N : Nat} {l4 : List Int} (hC : numL (l.take 2) = 65535) (hn : numL ((l.drop 2).take 1) = n) (hL : numL (((l.drop 2).drop 1).take 1) = (N : Int) + 4) (h4 : ((l.drop 2).drop 1).drop 1 = l4) (hF : n / 2 = F) (hH : oddB n = true) (hE : headE 65535 F true ((N : Int) + 4) = 0) {XX : Int} {l5 : List Int} (hx4 : 4 ≤ l4.length) (hx : numL (l4.take 4) = XX) (h5 : l4.drop 4 = l5) {q : Nat} (hN : N = 2 * q) (hq : l5.length < N) :
    Calls Tryz.prog 156 #[.pointer (some ⟨g, 0, none⟩)] w (ReadNone w g M s o s) := by
  have HS := hid hs
  have oct := h.oct
  have hg := h.block_lt
  obtain ⟨W, hW, hbW, hbox⟩ := oxm_box w 0 0 false 0 none 0 0 none 0 0
  have HW := hid hW
  have hcW := h.below hbW
  have hcWX := hid hcW
  have HBW := hid (below_by_none hbW)
  have hne : w.heap.size ≠ g := by omega
  have hMW : M ≠ w.heap.size := by omega
  clear hW hbW
  have hM2 : M < W.heap.size := by have := hbox.lt; omega
  have hmf : ∀ (fn : Fn) (first cap : Array Value) (w : World), (Instr.makeFunc fn first cap).run Tryz.prog w = .ok (.func fn first cap) w := fun _ _ _ _ => rfl
  have L0 := num_byte ((oct.drop 2).drop 1)
  rw [hL] at L0
  obtain ⟨L1, L2⟩ := L0
  have HE := hid hE
  have H1 := readHead8_ok hcW hM2 hl hC hn hL
  rw [hF, hH, h4] at H1
  have H1 := hid H1
  have HL4 := hid hx4
  have HX := hid hx
  have H5 := hid h5
  clear hx4 hx h5
  have HQ := hid hq
  have HN := hid hN
  clear hq hN
  clear hs hl hcW oct hcWX hC hn hL h4 hF hH hE
  go_enter Tryz.func156, Tryz.ntmps156
  go_wp2_with fail
  rw [HW.out]
  refine H1.out.mono ?_
  rintro e w1 ⟨rfl, hc, hb⟩
  have hR1 := box_by hbox hb hne
  have HB1 := hid (by_new_row HBW.out hb)
  have hs1 := hb.size
  have hs2 : w.heap.size < w1.heap.size := Nat.lt_of_lt_of_le hbox.lt hs1
  have hg1 := hc.block_lt
  obtain ⟨W1, hW1, hbW1, hX1⟩ := oxm_box w1 65535 F true 0 none 0 0 none 0 0
  have HW1 := hid hW1
  have hXg : w1.heap.size ≠ g := by omega
  have hXR : w1.heap.size ≠ w.heap.size := by omega
  have gX : some w1.heap.size ≠ some g := by simpa using hXg
  have gR : some w.heap.size ≠ some g := by simpa using hne
  have mX : some w1.heap.size ≠ some M := by simp; omega
  have mR : some w.heap.size ≠ some M := by simp; omega
  have hle : w.heap.size ≤ w1.heap.size := by omega
  have hc1 := hc.below hbW1
  have hR2 := hR1.below hbW1
  have HB2 := hid (grownBy_then HB1.out (grownBy_more (below_by_none hbW1)) : w.grownBy W1 (some g))
  clear hb hbox hc hR1 HB1 hW1 hbW1 hs1 hM2 hg1
  go_wp2_with fail
  rw [HW1.out]
  refine (wrongHead_any 65535 F true 0 none 0 0 none 0 0 ((N : Int) + 4) _ (by omega) (by omega)).mono ?_
  rintro e w2 ⟨rfl, hb2⟩
  have hc2 := hc1.below hb2
  have hR3 := hR2.below hb2
  have hX2 := hX1.below hb2
  have HB3 := hid (grownBy_then HB2.out (grownBy_more (below_by_none hb2)) : w.grownBy w2 (some g))
  clear hc1 hR2 hX1 HB2 hb2 HW1
  obtain ⟨d0, d1, d2, d3, d4, d5⟩ := hX2.six
  have zX := hX2.free
  go_wp2_with fail
  rw [HE.out]
  refine (hc2.fail _).mono ?_
  rintro e w3 ⟨rfl, hc3, hb3⟩
  have hX3 := box_by hX2 hb3 hXg
  have hR4 := box_by hR3 hb3 hne
  have HB4 := hid (grownBy_then HB3.out hb3)
  clear hc2 hX2 hR3 HB3 hb3 d0 d1 d2 d3 d4 d5 zX
  obtain ⟨d0, d1, d2, d3, d4, d5⟩ := hX3.six
  have zX := hX3.free
  go_wp2_with fail
  refine (hc3.num_ok (n := 4) (by decide) (by decide) HL4.out).mono ?_
  rintro e w4 ⟨rfl, hc4, hb4⟩
  rw [HX.out]
  have hX4 := box_by hX3 hb4 hXg
  have hR5 := box_by hR4 hb4 hne
  have HB5 := hid (grownBy_then HB4.out hb4)
  clear hc3 hX3 hR4 HB4 hb4 d0 d1 d2 d3 d4 d5 zX
  obtain ⟨d0, d1, d2, d3, d4, d5⟩ := hX4.six
  have zX := hX4.free
  go_wp2_with fail
  rw [H5.out] at hc4
  have hc6 := hc4.kept (by_setCell w4 w1.heap.size 3 (.int .u64 XX)) gX mX
  have hX6 := hX4.set 3 (.int .u64 XX) (by simp)
  have hR6 := hR5.far (i := 3) (.int .u64 XX) hXR
  have HB6 := hid (by_set_new (i := 3) HB5.out hle (.int .u64 XX))
  clear hc4 hX4 hR5 HB5 d0 d1 d2 d3 d4 d5 zX
  refine (readBytes_two_short hc6 HS.out HN.out HQ.out (by omega)).mono ?_
  rintro e w7 ⟨a1, n1, c1, a2, n2, c2, l5, r5, rfl, hc7, hb7⟩
  have hX7 := box_by hX6 hb7 hXg
  have hR7 := box_by hR6 hb7 hne
  have HB7 := hid (grownBy_then HB6.out hb7)
  clear hX6 hR6 HB6 hb7 hc6
  obtain ⟨d0, d1, d2, d3, d4, d5⟩ := hX7.six
  obtain ⟨e0, e1, e2, e3, e4, e5⟩ := hR7.six
  have zX := hX7.free
  have zR := hR7.free
  go_wp2_with fail
  have hk := ((hR7.far (i := 4) (.slice a1 n1 c1) hXR).far (i := 5) (.slice a2 n2 c2) hXR).set6 (.int .i64 65535) (.int .i64 F) (.bool true) (.int .u64 XX) (.slice a1 n1 c1) (.slice a2 n2 c2)
  obtain ⟨k0, k1, k2, k3, k4, k5⟩ := hk.six
  refine bodyPost_ret (v := .agg #[.int .i64 65535, .int .i64 F, .bool true, .int .u64 XX, .slice a1 n1 c1, .slice a2 n2 c2]) (by simp [results, Tryz.results156, go_sem, k0, k1, k2, k3, k4, k5]) rfl ⟨65535, F, true, XX, a1, n1, c1, a2, n2, c2, l5, r5, rfl, ?_, ?_⟩
  · repeat (first | refine Cur.kept ?_ (by_setCell _ _ _ _) gR mR | refine Cur.kept ?_ (by_setCell _ _ _ _) gX mX)
    exact hc7
  · repeat (refine by_set_new ?_ (by omega) _)
    exact HB7.out

set_option maxRecDepth 100000 in
set_option maxHeartbeats 2000000 in
theorem read8_extra_few (h : Cur w g M l r s o 0) (hs : s ≠ 0) (hM : M < w.heap.size) (hl : 4 ≤ l.length) {n F : Int} {N : Nat} {l4 : List Int} (hC : numL (l.take 2) = 65535) (hn : numL ((l.drop 2).take 1) = n) (hL : numL (((l.drop 2).drop 1).take 1) = (N : Int) + 4) (h4 : ((l.drop 2).drop 1).drop 1 = l4) (hF : n / 2 = F) {H : Bool} (hH : oddB n = H) (hE : headE 65535 F H ((N : Int) + 4) = 0) (hx4 : l4.length < 4) :
    Calls Tryz.prog 156 #[.pointer (some ⟨g, 0, none⟩)] w (ReadNone w g M s o s) := by
  have HS := hid hs
  have oct := h.oct
  have hg := h.block_lt
  obtain ⟨W, hW, hbW, hbox⟩ := oxm_box w 0 0 false 0 none 0 0 none 0 0
  have HW := hid hW
  have hcW := h.below hbW
  have hcWX := hid hcW
  have HBW := hid (below_by_none hbW)
  have hne : w.heap.size ≠ g := by omega
  have hMW : M ≠ w.heap.size := by omega
  clear hW hbW
  have hM2 : M < W.heap.size := by have := hbox.lt; omega
  have hmf : ∀ (fn : Fn) (first cap : Array Value) (w : World), (Instr.makeFunc fn first cap).run Tryz.prog w = .ok (.func fn first cap) w := fun _ _ _ _ => rfl
  have L0 := num_byte ((oct.drop 2).drop 1)
  rw [hL] at L0
  obtain ⟨L1, L2⟩ := L0
  have HE := hid hE
  have H1 := readHead8_ok hcW hM2 hl hC hn hL
  rw [hF, hH, h4] at H1
  have H1 := hid H1
  have HQ := hid hx4
  clear hx4
  clear hs hl hcW oct hcWX hC hn hL h4 hF hH hE
  go_enter Tryz.func156, Tryz.ntmps156
  go_wp2_with fail
  rw [HW.out]
  refine H1.out.mono ?_
  rintro e w1 ⟨rfl, hc, hb⟩
  have hR1 := box_by hbox hb hne
  have HB1 := hid (by_new_row HBW.out hb)
  have hs1 := hb.size
  have hs2 : w.heap.size < w1.heap.size := Nat.lt_of_lt_of_le hbox.lt hs1
  have hg1 := hc.block_lt
  obtain ⟨W1, hW1, hbW1, hX1⟩ := oxm_box w1 65535 F H 0 none 0 0 none 0 0
  have HW1 := hid hW1
  have hXg : w1.heap.size ≠ g := by omega
  have hXR : w1.heap.size ≠ w.heap.size := by omega
  have gX : some w1.heap.size ≠ some g := by simpa using hXg
  have gR : some w.heap.size ≠ some g := by simpa using hne
  have mX : some w1.heap.size ≠ some M := by simp; omega
  have mR : some w.heap.size ≠ some M := by simp; omega
  have hle : w.heap.size ≤ w1.heap.size := by omega
  have hc1 := hc.below hbW1
  have hR2 := hR1.below hbW1
  have HB2 := hid (grownBy_then HB1.out (grownBy_more (below_by_none hbW1)) : w.grownBy W1 (some g))
  clear hb hbox hc hR1 HB1 hW1 hbW1 hs1 hM2 hg1
  go_wp2_with fail
  rw [HW1.out]
  refine (wrongHead_any 65535 F H 0 none 0 0 none 0 0 ((N : Int) + 4) _ (by omega) (by omega)).mono ?_
  rintro e w2 ⟨rfl, hb2⟩
  have hc2 := hc1.below hb2
  have hR3 := hR2.below hb2
  have hX2 := hX1.below hb2
  have HB3 := hid (grownBy_then HB2.out (grownBy_more (below_by_none hb2)) : w.grownBy w2 (some g))
  clear hc1 hR2 hX1 HB2 hb2 HW1
  obtain ⟨d0, d1, d2, d3, d4, d5⟩ := hX2.six
  have zX := hX2.free
  go_wp2_with fail
  rw [HE.out]
  refine (hc2.fail _).mono ?_
  rintro e w3 ⟨rfl, hc3, hb3⟩
  have hX3 := box_by hX2 hb3 hXg
  have hR4 := box_by hR3 hb3 hne
  have HB4 := hid (grownBy_then HB3.out hb3)
  clear hc2 hX2 hR3 HB3 hb3 d0 d1 d2 d3 d4 d5 zX
  obtain ⟨d0, d1, d2, d3, d4, d5⟩ := hX3.six
  have zX := hX3.free
  go_wp2_with fail
  refine (hc3.num_short (n := 4) (by decide) (by decide) HQ.out).mono ?_
  rintro e w4 ⟨rfl, hc4, hb4⟩
  have hX4 := box_by hX3 hb4 hXg
  have hR5 := box_by hR4 hb4 hne
  have HB5 := hid (grownBy_then HB4.out hb4)
  clear hc3 hX3 hR4 HB4 hb4 d0 d1 d2 d3 d4 d5 zX
  obtain ⟨d0, d1, d2, d3, d4, d5⟩ := hX4.six
  have zX := hX4.free
  go_wp2_with fail
  have hc6 := hc4.kept (by_setCell w4 w1.heap.size 3 (.int .u64 0)) gX mX
  have hX6 := hX4.set 3 (.int .u64 0) (by simp)
  have hR6 := hR5.far (i := 3) (.int .u64 0) hXR
  have HB6 := hid (by_set_new (i := 3) HB5.out hle (.int .u64 0))
  clear hc4 hX4 hR5 HB5 d0 d1 d2 d3 d4 d5 zX
  refine (readBytes_late hc6 HS.out H _ (by omega) (by omega)).mono ?_
  rintro e w7 ⟨a1, n1, c1, a2, n2, c2, l5, r5, rfl, hc7, hb7⟩
  have hX7 := box_by hX6 hb7 hXg
  have hR7 := box_by hR6 hb7 hne
  have HB7 := hid (grownBy_then HB6.out hb7)
  clear hX6 hR6 HB6 hb7 hc6
  obtain ⟨d0, d1, d2, d3, d4, d5⟩ := hX7.six
  obtain ⟨e0, e1, e2, e3, e4, e5⟩ := hR7.six
  have zX := hX7.free
  have zR := hR7.free
  go_wp2_with fail
  have hk := ((hR7.far (i := 4) (.slice a1 n1 c1) hXR).far (i := 5) (.slice a2 n2 c2) hXR).set6 (.int .i64 65535) (.int .i64 F) (.bool H) (.int .u64 0) (.slice a1 n1 c1) (.slice a2 n2 c2)
  obtain ⟨k0, k1, k2, k3, k4, k5⟩ := hk.six
  refine bodyPost_ret (v := .agg #[.int .i64 65535, .int .i64 F, .bool H, .int .u64 0, .slice a1 n1 c1, .slice a2 n2 c2]) (by simp [results, Tryz.results156, go_sem, k0, k1, k2, k3, k4, k5]) rfl ⟨65535, F, H, 0, a1, n1, c1, a2, n2, c2, l5, r5, rfl, ?_, ?_⟩
  · repeat (first | refine Cur.kept ?_ (by_setCell _ _ _ _) gR mR | refine Cur.kept ?_ (by_setCell _ _ _ _) gX mX)
    exact hc7
  · repeat (refine by_set_new ?_ (by omega) _)
    exact HB7.out
end
end Go.Proofs.YtdjlbejhphbcoaaGreat
namespace Go.Proofs.YtdjlbejhphbcoaaGreat
open Go.RowKit
set_option linter.unusedVariables false

/-- what is wrong first with Value and Mask -/
def bytesE (C F : Int) (H : Bool) (v m : List Int) : Int :=
  if C = 32768 then (if fitsB F v = false then 1032 else if (H && !fitsB F m) = true then 1033 else if H = true then maskE v m (fld F).b else 0)
  else if C = 65535 then (if H = true then maskE v m (8 * m.length) else 0) else 0

theorem fits_len (n : Int) (v m : List Int) (hv : fitsB n v = true) (hm : fitsB n m = true) : v.length = m.length := by
  unfold fitsB at hv hm
  simp only [Bool.and_eq_true, decide_eq_true_eq] at hv hm
  rw [hv.1.2, hm.1.2]

set_option maxRecDepth 100000 in
set_option maxHeartbeats 1000000 in
theorem wrongBytes_basic (F : Int) (H : Bool) (X : Int) (va : Option Addr) (vc : Nat) (ma : Option Addr) (mc : Nat) (v m : List Int) (hm : m.length ≤ 1000) (hmc : m.length ≤ mc) (ov : Octets v) (om : Octets m) (w : World) (iv : Ints .u8 w va v) (im : Ints .u8 w ma m) :
    Calls Tryz.prog 119 #[.agg #[.int .i64 32768, .int .i64 F, .bool H, .int .u64 X, .slice va v.length vc, .slice ma m.length mc]] w fun e w' => e = .returned (.int .i64 (bytesE 32768 F H v m)) ∧ Below w.heap.size w w' := by
  obtain ⟨W, hW, hbW, hbox⟩ := oxm_box w 32768 F H X va v.length vc ma m.length mc
  have HW := hid hW
  have HB := hid hbW
  have HO := hid (fun W => fldOf_any F W)
  obtain ⟨d0, d1, d2, d3, d4, d5⟩ := hbox.six
  have IV := hid (iv.below hbW)
  have IM := hid (im.below hbW)
  have FV := hid (fun W' (h : Ints .u8 W' va v) => fldFits_any F v va vc W' h)
  have FM := hid (fun W' (h : Ints .u8 W' ma m) => fldFits_any F m ma mc W' h)
  clear hW hbW iv im
  have OV := hid ov
  have OM := hid om
  have hvm2 := fits_len F v m
  have HE : bytesE 32768 F H v m = if fitsB F v = false then 1032 else if (H && !fitsB F m) = true then 1033 else if H = true then maskE v m (fld F).b else 0 := by simp [bytesE]
  rw [HE]
  clear HE ov om
  obtain ⟨f, hf⟩ : ∃ f, fld F = f := ⟨_, rfl⟩
  rw [hf] at HO ⊢
  obtain ⟨t, ht⟩ : ∃ t, decide (0 ≤ F ∧ F < 40) = t := ⟨_, rfl⟩
  rw [ht] at HO
  clear ht hf
  unfold fldV at HO
  cases hv : fitsB F v
  · rw [hv] at FV
    clear hv hvm2
    simp only [if_true]
    go_enter Tryz.func119, Tryz.ntmps119
    go_wp2_with fail
    rw [HW.out]
    go_wp2_with fail
    refine (HO.out _).mono ?_
    rintro e w1 ⟨v', rfl, ⟨a', c', rfl, hI⟩, hb⟩
    clear hI
    have hlt := (hbox.below hb).lt
    have n2 : ¬ w.heap.size = w1.heap.size := by omega
    clear d0 d1 d2 d3 d4 d5
    obtain ⟨d0, d1, d2, d3, d4, d5⟩ := (hbox.below hb).six
    obtain ⟨W1, hW1, hbW1, hbox1⟩ := fld_box w1 f.b f.z f.m f.d (.slice a' f.v.length c')
    have HW1 := hid hW1
    have hA := below_on hb hbW1
    clear hW1 hbox1 hbW1 hb
    go_wp2_with fail
    rw [HW1.out]
    refine (FV.out _ (IV.out.below hA)).mono ?_
    rintro e w2 ⟨rfl, hb2⟩
    replace hA := below_on hA hb2
    clear d0 d1 d2 d3 d4 d5 hb2 HW1 n2 hlt
    obtain ⟨d0, d1, d2, d3, d4, d5⟩ := (hbox.below hA).six
    have HA := hid hA
    clear hA
    go_wp2_with fail
    go_ret
    exact ⟨rfl, below_on HB.out HA.out⟩
  · rw [hv] at FV
    cases H
    · clear hv hvm2
      simp only [Bool.false_and, Bool.false_eq_true, Bool.true_eq_false, if_false]
      go_enter Tryz.func119, Tryz.ntmps119
      go_wp2_with fail
      rw [HW.out]
      go_wp2_with fail
      refine (HO.out _).mono ?_
      rintro e w1 ⟨v', rfl, ⟨a', c', rfl, hI⟩, hb⟩
      clear hI
      have hlt := (hbox.below hb).lt
      have n2 : ¬ w.heap.size = w1.heap.size := by omega
      clear d0 d1 d2 d3 d4 d5
      obtain ⟨d0, d1, d2, d3, d4, d5⟩ := (hbox.below hb).six
      obtain ⟨W1, hW1, hbW1, hbox1⟩ := fld_box w1 f.b f.z f.m f.d (.slice a' f.v.length c')
      have HW1 := hid hW1
      have hA := below_on hb hbW1
      clear hW1 hbox1 hbW1 hb
      go_wp2_with fail
      rw [HW1.out]
      refine (FV.out _ (IV.out.below hA)).mono ?_
      rintro e w2 ⟨rfl, hb2⟩
      replace hA := below_on hA hb2
      clear d0 d1 d2 d3 d4 d5 hb2 HW1 n2 hlt
      obtain ⟨d0, d1, d2, d3, d4, d5⟩ := (hbox.below hA).six
      have HA := hid hA
      clear hA
      go_wp2_with fail
      go_ret
      exact ⟨rfl, below_on HB.out HA.out⟩
    · cases hfm : fitsB F m
      · rw [hfm] at FM
        clear hv hvm2 hfm
        simp only [Bool.not_false, Bool.and_true, Bool.true_eq_false, if_true, if_false]
        go_enter Tryz.func119, Tryz.ntmps119
        go_wp2_with fail
        rw [HW.out]
        go_wp2_with fail
        refine (HO.out _).mono ?_
        rintro e w1 ⟨v', rfl, ⟨a', c', rfl, hI⟩, hb⟩
        clear hI
        have hlt := (hbox.below hb).lt
        have n2 : ¬ w.heap.size = w1.heap.size := by omega
        clear d0 d1 d2 d3 d4 d5
        obtain ⟨d0, d1, d2, d3, d4, d5⟩ := (hbox.below hb).six
        obtain ⟨W1, hW1, hbW1, hbox1⟩ := fld_box w1 f.b f.z f.m f.d (.slice a' f.v.length c')
        have HW1 := hid hW1
        have hA := below_on hb hbW1
        clear hW1 hbox1 hbW1 hb
        go_wp2_with fail
        rw [HW1.out]
        refine (FV.out _ (IV.out.below hA)).mono ?_
        rintro e w2 ⟨rfl, hb2⟩
        replace hA := below_on hA hb2
        clear d0 d1 d2 d3 d4 d5 hb2 HW1 n2 hlt
        obtain ⟨d0, d1, d2, d3, d4, d5⟩ := (hbox.below hA).six
        have HA := hid hA
        clear hA
        go_wp2_with fail
        refine (FM.out _ (IM.out.below HA.out)).mono ?_
        rintro e w3 ⟨rfl, hb3⟩
        replace HA := hid (below_on HA.out hb3)
        clear d0 d1 d2 d3 d4 d5 hb3
        obtain ⟨d0, d1, d2, d3, d4, d5⟩ := (hbox.below HA.out).six
        go_wp2_with fail
        go_ret
        exact ⟨rfl, below_on HB.out HA.out⟩
      · rw [hfm] at FM
        have hvm : v.length ≤ m.length := Nat.le_of_eq (hvm2 hv hfm)
        clear hv hvm2 hfm
        simp only [Bool.not_true, Bool.and_false, Bool.true_eq_false, Bool.false_eq_true, if_true, if_false]
        go_enter Tryz.func119, Tryz.ntmps119
        go_wp2_with fail
        rw [HW.out]
        go_wp2_with fail
        refine (HO.out _).mono ?_
        rintro e w1 ⟨v', rfl, ⟨a', c', rfl, hI⟩, hb⟩
        clear hI
        have hlt := (hbox.below hb).lt
        have n2 : ¬ w.heap.size = w1.heap.size := by omega
        clear d0 d1 d2 d3 d4 d5
        obtain ⟨d0, d1, d2, d3, d4, d5⟩ := (hbox.below hb).six
        obtain ⟨W1, hW1, hbW1, hbox1⟩ := fld_box w1 f.b f.z f.m f.d (.slice a' f.v.length c')
        have HW1 := hid hW1
        have hA := below_on hb hbW1
        clear hW1 hbox1 hbW1 hb
        go_wp2_with fail
        rw [HW1.out]
        refine (FV.out _ (IV.out.below hA)).mono ?_
        rintro e w2 ⟨rfl, hb2⟩
        replace hA := below_on hA hb2
        clear d0 d1 d2 d3 d4 d5 hb2 HW1 n2 hlt
        obtain ⟨d0, d1, d2, d3, d4, d5⟩ := (hbox.below hA).six
        have HA := hid hA
        clear hA
        go_wp2_with fail
        refine (FM.out _ (IM.out.below HA.out)).mono ?_
        rintro e w3 ⟨rfl, hb3⟩
        replace HA := hid (below_on HA.out hb3)
        clear d0 d1 d2 d3 d4 d5 hb3
        obtain ⟨d0, d1, d2, d3, d4, d5⟩ := (hbox.below HA.out).six
        go_wp2_with fail
        refine (wrongMask_any 32768 F true X va v.length vc ma m.length mc v m f.b rfl rfl hvm hm hmc OV.out OM.out _ (IV.out.below HA.out) (IM.out.below HA.out)).mono ?_
        rintro e w4 ⟨rfl, hb4⟩
        go_wp2_with fail
        go_ret
        exact ⟨rfl, below_on HB.out (below_on HA.out hb4)⟩

set_option maxRecDepth 100000 in
set_option maxHeartbeats 1000000 in
theorem wrongBytes_extra (F : Int) (H : Bool) (X : Int) (va : Option Addr) (vc : Nat) (ma : Option Addr) (mc : Nat) (v m : List Int) (hvm : H = true → v.length ≤ m.length) (hm : m.length ≤ 1000) (hmc : m.length ≤ mc) (ov : Octets v) (om : Octets m) (w : World) (iv : Ints .u8 w va v) (im : Ints .u8 w ma m) :
    Calls Tryz.prog 119 #[.agg #[.int .i64 65535, .int .i64 F, .bool H, .int .u64 X, .slice va v.length vc, .slice ma m.length mc]] w fun e w' => e = .returned (.int .i64 (bytesE 65535 F H v m)) ∧ Below w.heap.size w w' := by
  obtain ⟨W, hW, hbW, hbox⟩ := oxm_box w 65535 F H X va v.length vc ma m.length mc
  have HW := hid hW
  have HB := hid hbW
  obtain ⟨d0, d1, d2, d3, d4, d5⟩ := hbox.six
  have IV := hid (iv.below hbW)
  have IM := hid (im.below hbW)
  clear hW hbW iv im
  have OV := hid ov
  have OM := hid om
  clear ov om
  cases H
  · have HE : bytesE 65535 F false v m = 0 := by simp [bytesE]
    rw [HE]
    clear HE hvm
    go_enter Tryz.func119, Tryz.ntmps119
    go_wp2_with fail
    rw [HW.out]
    go_wp2_with fail
    go_ret
    exact ⟨rfl, HB.out⟩
  · have HE : bytesE 65535 F true v m = maskE v m (8 * m.length) := by simp [bytesE]
    rw [HE]
    replace hvm := hvm rfl
    clear HE
    go_enter Tryz.func119, Tryz.ntmps119
    go_wp2_with fail
    rw [HW.out]
    go_wp2_with fail
    refine (wrongMask_any 65535 F true X va v.length vc ma m.length mc v m _ rfl rfl hvm hm hmc OV.out OM.out _ IV.out IM.out).mono ?_
    rintro e w4 ⟨rfl, hb4⟩
    go_wp2_with fail
    go_ret
    exact ⟨rfl, below_on HB.out hb4⟩

set_option maxRecDepth 100000 in
theorem wrongBytes_none (C F : Int) (hb : (C == 32768) = false) (hx : (C == 65535) = false) (H : Bool) (X : Int) (va : Option Addr) (vc : Nat) (ma : Option Addr) (mc : Nat) (v m : List Int) (hm : m.length ≤ 1000) (w : World) :
    Calls Tryz.prog 119 #[.agg #[.int .i64 C, .int .i64 F, .bool H, .int .u64 X, .slice va v.length vc, .slice ma m.length mc]] w fun e w' => e = .returned (.int .i64 (bytesE C F H v m)) ∧ Below w.heap.size w w' := by
  have e : bytesE C F H v m = 0 := by
    have h1 : C ≠ 32768 := by simpa using hb
    have h2 : C ≠ 65535 := by simpa using hx
    simp [bytesE, h1, h2]
  rw [e]
  clear e
  go_enter Tryz.func119, Tryz.ntmps119
  go_wp2
  go_ret
  exact ⟨rfl, below_alloc _ _⟩

theorem wrongBytes_any (C F : Int) (H : Bool) (X : Int) (va : Option Addr) (vc : Nat) (ma : Option Addr) (mc : Nat) (v m : List Int) (hvm : C = 65535 → H = true → v.length ≤ m.length) (hm : m.length ≤ 1000) (hmc : m.length ≤ mc) (ov : Octets v) (om : Octets m) (w : World) (iv : Ints .u8 w va v) (im : Ints .u8 w ma m) :
    Calls Tryz.prog 119 #[.agg #[.int .i64 C, .int .i64 F, .bool H, .int .u64 X, .slice va v.length vc, .slice ma m.length mc]] w fun e w' => e = .returned (.int .i64 (bytesE C F H v m)) ∧ Below w.heap.size w w' := by
  by_cases hb : C = 32768
  · subst hb
    exact wrongBytes_basic F H X va vc ma mc v m hm hmc ov om w iv im
  · by_cases hx : C = 65535
    · subst hx
      exact wrongBytes_extra F H X va vc ma mc v m (hvm rfl) hm hmc ov om w iv im
    · exact wrongBytes_none C F (by simpa using hb) (by simpa using hx) H X va vc ma mc v m hm w
end Go.Proofs.YtdjlbejhphbcoaaGreat
namespace Go.Proofs.YtdjlbejhphbcoaaGreat
open Go.RowKit
set_option linter.unusedVariables false

/-- a field with its value, and how many bytes it has -/
structure Oxm8 where
  C : Int
  F : Int
  H : Bool
  X : Int
  v : List Int
  m : List Int
  n : Nat
def cls8 (b : List Int) : Int := numL (b.take 2)
def fld8 (b : List Int) : Int := numL ((b.drop 2).take 1)
def len8 (b : List Int) : Int := numL (((b.drop 2).drop 1).take 1)
def rest8 (b : List Int) : List Int := ((b.drop 2).drop 1).drop 1
/-- the bytes behind what tells whose it is -/
def body8 (b : List Int) : List Int := if cls8 b = 65535 then (rest8 b).drop 4 else rest8 b
def exp8 (b : List Int) : Int := if cls8 b = 65535 then numL ((rest8 b).take 4) else 0
/-- how many bytes Value and Mask have -/
def both8 (b : List Int) : Nat := if cls8 b = 65535 then (len8 b).toNat - 4 else (len8 b).toNat
def val8 (b : List Int) : List Int := (body8 b).take (both8 b / pieces8 (oddB (fld8 b)))
def mask8 (b : List Int) : List Int := if oddB (fld8 b) then ((body8 b).drop (both8 b / 2)).take (both8 b / 2) else []
/-- a value as it stands, its bytes not looked at; or the error -/
def rawL (b : List Int) : Except Int Oxm8 :=
  if b.length < 4 then .error 1026
  else if headE (cls8 b) (fld8 b / 2) (oddB (fld8 b)) (len8 b) ≠ 0 then .error (headE (cls8 b) (fld8 b / 2) (oddB (fld8 b)) (len8 b))
  else if (rest8 b).length < (len8 b).toNat then .error 1026
  else .ok ⟨cls8 b, fld8 b / 2, oddB (fld8 b), exp8 b, val8 b, mask8 b, 4 + (len8 b).toNat⟩
/-- a value; or the error -/
def decL (b : List Int) : Except Int Oxm8 :=
  match rawL b with
  | .error q => .error q
  | .ok o => if bytesE o.C o.F o.H o.v o.m = 0 then .ok o else .error (bytesE o.C o.F o.H o.v o.m)

/-- what reading comes to -/
def ReadPost (R : Except Int Oxm8) (w : World) (g M : Nat) (e : Ending) (w' : World) : Prop :=
  (∃ q, R = .error q ∧ q ≠ 0 ∧ ReadNone w g M 1026 1026 q e w') ∨ (∃ o, R = .ok o ∧ ReadGood w g M o.C o.F o.H o.X o.v o.m o.n 1026 1026 e w')

theorem head_basic {F n : Int} {H : Bool} (h : headE 32768 F H n = 0) : (0 ≤ F ∧ F < 40) ∧ n = ((fld F).z : Int) * pieces8 H ∧ (H = true → (fld F).m = true) := by
  unfold headE at h
  simp only [if_true] at h
  by_cases hF : 0 ≤ F ∧ F < 40
  · by_cases hM : (H && !(fld F).m) = true
    · simp [hF, hM] at h
    · by_cases hn : n = ((fld F).z : Int) * pieces8 H
      · exact ⟨hF, hn, fun hh => by subst hh; simpa using hM⟩
      · simp [hF, hM, hn] at h
  · simp [hF] at h
theorem head_extra {F n : Int} {H : Bool} (h : headE 65535 F H n = 0) : 0 ≤ n - 4 ∧ (n - 4) % (pieces8 H : Int) = 0 ∧ n - 4 ≤ 100 * (pieces8 H : Int) := by
  unfold headE at h
  have e : ¬ (65535 : Int) = 32768 := by decide
  simp only [if_neg e, if_true] at h
  by_cases hh : n - 4 < 0 ∨ (n - 4) % (pieces8 H : Int) ≠ 0 ∨ 100 * (pieces8 H : Int) < n - 4
  · rw [if_pos hh] at h; simp at h
  · refine ⟨by omega, ?_, by omega⟩
    by_cases h2 : (n - 4) % (pieces8 H : Int) = 0
    · exact h2
    · exact absurd (.inr (.inl h2)) hh
theorem head_cls {C F n : Int} {H : Bool} (h : headE C F H n = 0) : C = 32768 ∨ C = 65535 := by
  by_cases h1 : C = 32768
  · exact .inl h1
  · by_cases h2 : C = 65535
    · exact .inr h2
    · simp [headE, h1, h2] at h

theorem read8_any {w : World} {g M : Nat} {l : List Int} (h : Cur w g M l 0 1026 1026 0) (hM : M < w.heap.size) :
    Calls Tryz.prog 156 #[.pointer (some ⟨g, 0, none⟩)] w (ReadPost (rawL l) w g M) := by
  have oct := h.oct
  by_cases hl : l.length < 4
  · refine (read8_few h (by decide) hM hl).mono fun e w' hr => .inl ⟨1026, ?_, by decide, hr⟩
    simp [rawL, hl]
  have hl4 : 4 ≤ l.length := by omega
  have L0 := num_byte ((oct.drop 2).drop 1)
  obtain ⟨L, hL⟩ : ∃ L, len8 l = L := ⟨_, rfl⟩
  have hL' : numL (((l.drop 2).drop 1).take 1) = L := hL
  rw [hL'] at L0
  by_cases hE : headE (cls8 l) (fld8 l / 2) (oddB (fld8 l)) L ≠ 0
  · refine (read8_wrong h (by decide) hM hl4 rfl rfl hL' rfl rfl hE).mono fun e w' hr => .inl ⟨_, ?_, hE, hr⟩
    simp only [rawL, if_neg hl, hL, if_pos hE]
  obtain ⟨H, hH⟩ : ∃ H, oddB (fld8 l) = H := ⟨_, rfl⟩
  have hE2 : ¬ headE (cls8 l) (fld8 l / 2) (oddB (fld8 l)) L ≠ 0 := hE
  have hr8 : ((l.drop 2).drop 1).drop 1 = rest8 l := rfl
  replace hE : headE (cls8 l) (fld8 l / 2) (oddB (fld8 l)) L = 0 := by simpa using hE
  rw [hH] at hE
  have few : ∀ {e w'}, (rest8 l).length < L.toNat → ReadNone w g M 1026 1026 1026 e w' → ReadPost (rawL l) w g M e w' := by
    intro e w' hf hr
    refine .inl ⟨1026, ?_, by decide, hr⟩
    simp only [rawL, if_neg hl, hL, if_neg hE2, if_pos hf]
  have good : ∀ {e w'} (hf : ¬ (rest8 l).length < L.toNat), ReadGood w g M (cls8 l) (fld8 l / 2) (oddB (fld8 l)) (exp8 l) (val8 l) (mask8 l) ((4 + L.toNat : Nat) : Int) 1026 1026 e w' → ReadPost (rawL l) w g M e w' := by
    intro e w' hf hr
    refine .inr ⟨⟨cls8 l, fld8 l / 2, oddB (fld8 l), exp8 l, val8 l, mask8 l, 4 + L.toNat⟩, ?_, hr⟩
    simp only [rawL, if_neg hl, hL, if_neg hE2, if_neg hf]
  rcases head_cls hE with hC | hC
  · rw [hC] at hE
    have hh := head_basic hE
    obtain ⟨N, hN⟩ : ∃ N : Nat, L = N := ⟨L.toNat, by omega⟩
    subst hN
    rw [Int.toNat_natCast] at few good
    have eb : body8 l = rest8 l := by simp [body8, hC]
    have ex : exp8 l = 0 := by simp [exp8, hC]
    have en : both8 l = N := by simp [both8, hC, hL]
    cases H
    · have ev : val8 l = (rest8 l).take N := by simp [val8, eb, en, hH, pieces8]
      have em : mask8 l = [] := by simp [mask8, hH]
      rw [hC, ex, ev, em, hH] at good
      by_cases hf : (rest8 l).length < N
      · exact (read8_basic_one_short h (by decide) hM hl4 hC rfl hL' hr8 rfl hH hE hf).mono fun e w' hr => few hf hr
      · refine (read8_basic_one h (by decide) hM hl4 hC rfl hL' hr8 rfl hH hE rfl rfl (by omega)).mono fun e w' hr => good hf ?_
        rw [show ((4 + N : Nat) : Int) = 0 + ((2 : Nat) : Int) + ((1 : Nat) : Int) + ((1 : Nat) : Int) + (N : Int) by omega]
        exact hr
    · obtain ⟨q, hq⟩ : ∃ q, N = 2 * q := ⟨(fld (fld8 l / 2)).z, by have := hh.2.1; simp [pieces8] at this; omega⟩
      have hq2 : N / 2 = q := by omega
      have ev : val8 l = (rest8 l).take q := by simp [val8, eb, en, hH, pieces8, hq2]
      have em : mask8 l = ((rest8 l).drop q).take q := by simp [mask8, eb, en, hH, hq2]
      rw [hC, ex, ev, em, hH] at good
      by_cases hf : (rest8 l).length < N
      · exact (read8_basic_two_short h (by decide) hM hl4 hC rfl hL' hr8 rfl hH hE hq hf).mono fun e w' hr => few hf hr
      · refine (read8_basic_two h (by decide) hM hl4 hC rfl hL' hr8 rfl hH hE hq rfl rfl rfl (by omega)).mono fun e w' hr => good hf ?_
        rw [show ((4 + N : Nat) : Int) = 0 + ((2 : Nat) : Int) + ((1 : Nat) : Int) + ((1 : Nat) : Int) + (N : Int) by omega]
        exact hr
  · rw [hC] at hE
    have hh := head_extra hE
    obtain ⟨N, hN⟩ : ∃ N : Nat, L = N + 4 := ⟨(L - 4).toNat, by omega⟩
    subst hN
    have e4 : ((N : Int) + 4).toNat = N + 4 := by omega
    rw [e4] at few good
    have eb : body8 l = (rest8 l).drop 4 := by simp [body8, hC]
    have ex : exp8 l = numL ((rest8 l).take 4) := by simp [exp8, hC]
    have en : both8 l = N := by simp only [both8, hC, hL, if_true]; omega
    by_cases h4 : (rest8 l).length < 4
    · exact (read8_extra_few h (by decide) hM hl4 hC rfl hL' hr8 rfl hH hE h4).mono fun e w' hr => few (by omega) hr
    have h4' : 4 ≤ (rest8 l).length := by omega
    have e5 : ((rest8 l).drop 4).length + 4 = (rest8 l).length := by rw [List.length_drop]; omega
    cases H
    · have ev : val8 l = ((rest8 l).drop 4).take N := by simp [val8, eb, en, hH, pieces8]
      have em : mask8 l = [] := by simp [mask8, hH]
      rw [hC, ex, ev, em, hH] at good
      by_cases hf : (rest8 l).length < N + 4
      · exact (read8_extra_one_short h (by decide) hM hl4 hC rfl hL' hr8 rfl hH hE h4' rfl rfl (by omega)).mono fun e w' hr => few hf hr
      · refine (read8_extra_one h (by decide) hM hl4 hC rfl hL' hr8 rfl hH hE h4' rfl rfl rfl rfl (by omega)).mono fun e w' hr => good hf ?_
        rw [show ((4 + (N + 4) : Nat) : Int) = 0 + ((2 : Nat) : Int) + ((1 : Nat) : Int) + ((1 : Nat) : Int) + ((4 : Nat) : Int) + (N : Int) by omega]
        exact hr
    · obtain ⟨q, hq⟩ : ∃ q, N = 2 * q := ⟨N / 2, by have := hh.2.1; simp [pieces8] at this; omega⟩
      have hq2 : N / 2 = q := by omega
      have ev : val8 l = ((rest8 l).drop 4).take q := by simp [val8, eb, en, hH, pieces8, hq2]
      have em : mask8 l = (((rest8 l).drop 4).drop q).take q := by simp [mask8, eb, en, hH, hq2]
      rw [hC, ex, ev, em, hH] at good
      by_cases hf : (rest8 l).length < N + 4
      · exact (read8_extra_two_short h (by decide) hM hl4 hC rfl hL' hr8 rfl hH hE h4' rfl rfl hq (by omega)).mono fun e w' hr => few hf hr
      · refine (read8_extra_two h (by decide) hM hl4 hC rfl hL' hr8 rfl hH hE h4' rfl rfl hq rfl rfl rfl (by omega)).mono fun e w' hr => good hf ?_
        rw [show ((4 + (N + 4) : Nat) : Int) = 0 + ((2 : Nat) : Int) + ((1 : Nat) : Int) + ((1 : Nat) : Int) + ((4 : Nat) : Int) + (N : Int) by omega]
        exact hr
end Go.Proofs.YtdjlbejhphbcoaaGreat
namespace Go.Proofs.YtdjlbejhphbcoaaGreat
open Go.RowKit
set_option linter.unusedVariables false

/-- the ways in which a mask goes wrong, or right -/
def MaskWays (v m : List Int) (n : Nat) (r : Int) : Prop :=
  (zeros m = true ∧ r = 1033) ∨ (zeros m = false ∧ onesB m n = true ∧ r = 1033) ∨ (zeros m = false ∧ onesB m n = false ∧ insideB v m = false ∧ r = 1030) ∨ (zeros m = false ∧ onesB m n = false ∧ insideB v m = true ∧ r = 0)
end Go.Proofs.YtdjlbejhphbcoaaGreat
namespace Go.Proofs.YtdjlbejhphbcoaaGreat
open Go.RowKit
set_option linter.unusedVariables false

/-- whether a value may be -/
def rightB (C F : Int) (H : Bool) (X : Int) (v m : List Int) : Bool :=
  room8 C F X && decide (m.length = maskZ H v.length) && decide (headE C F H (behind8 C v.length m.length) = 0) && decide (bytesE C F H v m = 0)
theorem right_room {C F X : Int} {H : Bool} {v m : List Int} (h : room8 C F X = false) : rightB C F H X v m = false := by simp [rightB, h]
theorem right_mask {C F X : Int} {H : Bool} {v m : List Int} (h : m.length ≠ maskZ H v.length) : rightB C F H X v m = false := by simp [rightB, h]
theorem right_head {C F X : Int} {H : Bool} {v m : List Int} (h : headE C F H (behind8 C v.length m.length) ≠ 0) : rightB C F H X v m = false := by simp [rightB, h]
theorem right_bytes {C F X : Int} {H : Bool} {v m : List Int} (h : bytesE C F H v m ≠ 0) : rightB C F H X v m = false := by simp [rightB, h]

set_option maxRecDepth 100000 in
set_option maxHeartbeats 1000000 in
theorem right8_any (C F : Int) (H : Bool) (X : Int) (va : Option Addr) (vc : Nat) (ma : Option Addr) (mc : Nat) (v m : List Int) (hv : v.length ≤ 1000) (hm : m.length ≤ 1000) (hmc : m.length ≤ mc) (ov : Octets v) (om : Octets m) (w : World) (iv : Ints .u8 w va v) (im : Ints .u8 w ma m) :
    Calls Tryz.prog 79 #[.agg #[.int .i64 C, .int .i64 F, .bool H, .int .u64 X, .slice va v.length vc, .slice ma m.length mc]] w fun e w' => e = .returned (.bool (rightB C F H X v m)) ∧ Below w.heap.size w w' := by
  obtain ⟨W, hW, hbW, hbox⟩ := oxm_box w C F H X va v.length vc ma m.length mc
  have HW := hid hW
  have HB := hid hbW
  obtain ⟨d0, d1, d2, d3, d4, d5⟩ := hbox.six
  have IV := hid (iv.below hbW)
  have IM := hid (im.below hbW)
  clear hW hbW iv im
  have hb1 : behind8 C v.length m.length ≤ 2004 := by unfold behind8; split <;> omega
  have R1 := hid (fun W => hasRoom8_any C F H X va v.length vc ma m.length mc W)
  have R2 := hid (fun W => maskSize_any C F H X va v.length vc ma m.length mc W)
  have R3 := hid (fun W => behind8_any C F H X va v.length vc ma m.length mc W (by omega) (by omega))
  have R4 := hid (fun W => wrongHead_any C F H X va v.length vc ma m.length mc (behind8 C v.length m.length) W (by omega) (by omega))
  cases h1 : room8 C F X
  · rw [right_room h1]
    rw [h1] at R1
    clear h1
    go_enter Tryz.func79, Tryz.ntmps79
    go_wp2_with fail
    rw [HW.out]
    have c0 := Wk.cell d0
    have c1 := Wk.cell d1
    have c2 := Wk.cell d2
    have c3 := Wk.cell d3
    have c4 := Wk.cell d4
    have c5 := Wk.cell d5
    clear d0 d1 d2 d3 d4 d5
    refine wp_region_wk (by kernel_rfl) (by kernel_rfl) ?_
    repeat (go_big_quiet_step (first | (go_at_call 116; exact Wk.call (R1.out _))))
    refine wpQuiet_nil ?_
    rintro w2 ⟨⟨_, hb2⟩, rfl⟩
    go_wp2_with fail
    go_ret
    exact ⟨rfl, below_on HB.out hb2⟩
  · rw [h1] at R1
    by_cases h2 : m.length = maskZ H v.length
    · have n2 : ((m.length : Int) == (maskZ H v.length : Int)) = true := by simp [h2]
      by_cases h3 : headE C F H (behind8 C v.length m.length) = 0
      · have R5 := hid (fun W iv im => wrongBytes_any C F H X va vc ma mc v m (fun _ h => by rw [h2, h]; exact Nat.le_refl _) hm hmc ov om W iv im)
        by_cases h4 : bytesE C F H v m = 0
        · rw [show rightB C F H X v m = true by simp [rightB, h1, h2.symm, h3, h4]]
          rw [h3] at R4
          rw [h4] at R5
          clear h1 h2 h3 h4 ov om
          go_enter Tryz.func79, Tryz.ntmps79
          go_wp2_with fail
          rw [HW.out]
          have c0 := Wk.cell d0
          have c1 := Wk.cell d1
          have c2 := Wk.cell d2
          have c3 := Wk.cell d3
          have c4 := Wk.cell d4
          have c5 := Wk.cell d5
          clear d0 d1 d2 d3 d4 d5
          refine wp_region_wk (by kernel_rfl) (by kernel_rfl) ?_
          repeat (go_big_quiet_step (first | (go_at_call 116; exact Wk.call (R1.out _)) | (go_at_call 117; exact Wk.call (R2.out _)) | (go_at_call 81; exact Wk.call (R3.out _)) | (go_at_call 118; exact Wk.call (R4.out _)) | (go_at_call 119; exact Wk.call (R5.out _ (IV.out.below (Wk.bel _)) (IM.out.below (Wk.bel _))))))
          refine wpQuiet_nil ?_
          rintro w2 ⟨⟨_, hb2⟩, rfl⟩
          go_wp2_with fail
          go_ret
          exact ⟨rfl, below_on HB.out hb2⟩
        · rw [right_bytes h4]
          rw [h3] at R4
          obtain ⟨q, hq⟩ : ∃ q, bytesE C F H v m = q := ⟨_, rfl⟩
          rw [hq] at R5 h4
          have n4 : (q == 0) = false := by simpa using h4
          clear h1 h2 h3 h4 ov om hq
          go_enter Tryz.func79, Tryz.ntmps79
          go_wp2_with fail
          rw [HW.out]
          have c0 := Wk.cell d0
          have c1 := Wk.cell d1
          have c2 := Wk.cell d2
          have c3 := Wk.cell d3
          have c4 := Wk.cell d4
          have c5 := Wk.cell d5
          clear d0 d1 d2 d3 d4 d5
          refine wp_region_wk (by kernel_rfl) (by kernel_rfl) ?_
          repeat (go_big_quiet_step (first | (go_at_call 116; exact Wk.call (R1.out _)) | (go_at_call 117; exact Wk.call (R2.out _)) | (go_at_call 81; exact Wk.call (R3.out _)) | (go_at_call 118; exact Wk.call (R4.out _)) | (go_at_call 119; exact Wk.call (R5.out _ (IV.out.below (Wk.bel _)) (IM.out.below (Wk.bel _))))))
          refine wpQuiet_nil ?_
          rintro w2 ⟨⟨_, hb2⟩, rfl⟩
          go_wp2_with fail
          go_ret
          exact ⟨rfl, below_on HB.out hb2⟩
      · rw [right_head h3]
        obtain ⟨q, hq⟩ : ∃ q, headE C F H (behind8 C v.length m.length) = q := ⟨_, rfl⟩
        rw [hq] at R4 h3
        have n4 : (q == 0) = false := by simpa using h3
        clear h1 h2 h3 ov om hq
        go_enter Tryz.func79, Tryz.ntmps79
        go_wp2_with fail
        rw [HW.out]
        have c0 := Wk.cell d0
        have c1 := Wk.cell d1
        have c2 := Wk.cell d2
        have c3 := Wk.cell d3
        have c4 := Wk.cell d4
        have c5 := Wk.cell d5
        clear d0 d1 d2 d3 d4 d5
        refine wp_region_wk (by kernel_rfl) (by kernel_rfl) ?_
        repeat (go_big_quiet_step (first | (go_at_call 116; exact Wk.call (R1.out _)) | (go_at_call 117; exact Wk.call (R2.out _)) | (go_at_call 81; exact Wk.call (R3.out _)) | (go_at_call 118; exact Wk.call (R4.out _))))
        refine wpQuiet_nil ?_
        rintro w2 ⟨⟨_, hb2⟩, rfl⟩
        go_wp2_with fail
        go_ret
        exact ⟨rfl, below_on HB.out hb2⟩
    · rw [right_mask h2]
      have n2 : ((m.length : Int) == (maskZ H v.length : Int)) = false := by simp; omega
      clear h1 h2 ov om
      go_enter Tryz.func79, Tryz.ntmps79
      go_wp2_with fail
      rw [HW.out]
      have c0 := Wk.cell d0
      have c1 := Wk.cell d1
      have c2 := Wk.cell d2
      have c3 := Wk.cell d3
      have c4 := Wk.cell d4
      have c5 := Wk.cell d5
      clear d0 d1 d2 d3 d4 d5
      refine wp_region_wk (by kernel_rfl) (by kernel_rfl) ?_
      repeat (go_big_quiet_step (first | (go_at_call 116; exact Wk.call (R1.out _)) | (go_at_call 117; exact Wk.call (R2.out _))))
      refine wpQuiet_nil ?_
      rintro w2 ⟨⟨_, hb2⟩, rfl⟩
      go_wp2_with fail
      go_ret
      exact ⟨rfl, below_on HB.out hb2⟩
end Go.Proofs.YtdjlbejhphbcoaaGreat
namespace Go.Proofs.YtdjlbejhphbcoaaGreat
open Go.RowKit
set_option linter.unusedVariables false

theorem fits_z {n : Int} {v : List Int} (h : fitsB n v = true) : v.length = (fld n).z ∧ 0 ≤ n ∧ n < 40 := by
  unfold fitsB at h
  simp only [Bool.and_eq_true, decide_eq_true_eq] at h
  exact ⟨h.1.2, h.1.1⟩
theorem right_long {F X : Int} {H : Bool} {v m : List Int} (h2 : m.length = maskZ H v.length) (hl : 100 < v.length) : rightB 65535 F H X v m = false := by
  refine right_head ?_
  rw [h2]
  cases H
  · simp [headE, behind8, maskZ, pieces8, Int.emod_one]
    omega
  · simp [headE, behind8, maskZ, pieces8]
    omega
theorem right_none {C F X : Int} {H : Bool} {v m : List Int} (h1 : C ≠ 32768) (h2 : C ≠ 65535) : rightB C F H X v m = false :=
  right_head (by simp [headE, h1, h2])

end Go.Proofs.YtdjlbejhphbcoaaGreat
namespace Go.Proofs.YtdjlbejhphbcoaaGreat
open Go.RowKit
set_option linter.unusedVariables false

/-- what is so of a value that may be -/
structure Facts8 (C F : Int) (H : Bool) (X : Int) (v m : List Int) : Prop where
  cls : C = 32768 ∨ C = 65535
  f0 : 0 ≤ F
  f1 : F ≤ 127
  len : m.length = maskZ H v.length
  most : behind8 C v.length m.length ≤ 204
  x1 : X ≤ 4294967295
  v1 : v.length ≤ 100
theorem right_facts {C F X : Int} {H : Bool} {v m : List Int} (h : rightB C F H X v m = true) : Facts8 C F H X v m := by
  unfold rightB at h
  simp only [Bool.and_eq_true, decide_eq_true_eq] at h
  obtain ⟨⟨⟨h1, h2⟩, h3⟩, h4⟩ := h
  by_cases hb : C = 32768
  · subst hb
    have hv : fitsB F v = true := by
      cases h : fitsB F v
      · simp [bytesE, h] at h4
      · rfl
    obtain ⟨hz, g0, g1⟩ := fits_z hv
    have hz16 := (fld_dims ⟨g0, g1⟩).2.2.2
    have hx : X = 0 := by simpa [room8] using h1
    refine ⟨.inl rfl, g0, by omega, h2, ?_, by omega, by omega⟩
    rw [h2]
    cases H <;> simp [behind8, maskZ] <;> omega
  · by_cases hx : C = 65535
    · subst hx
      simp [room8] at h1
      by_cases hl : v.length ≤ 100
      · refine ⟨.inr rfl, h1.1, h1.2.1, h2, ?_, h1.2.2, hl⟩
        rw [h2]
        cases H <;> simp [behind8, maskZ] <;> omega
      · exfalso
        have := right_long (F := F) (X := X) h2 (by omega)
        simp [rightB, room8, h1, h2.symm, h3, h4] at this
    · exfalso
      have := right_none (F := F) (X := X) (H := H) (v := v) (m := m) hb hx
      simp [rightB, h1, h2.symm, h3, h4] at this

/-- how many bytes a value has -/
def size8 (C F : Int) (H : Bool) (X : Int) (v m : List Int) : Nat := if rightB C F H X v m then 4 + behind8 C v.length m.length else 0

set_option maxRecDepth 100000 in
set_option maxHeartbeats 1000000 in
theorem size8_any (C F : Int) (H : Bool) (X : Int) (va : Option Addr) (vc : Nat) (ma : Option Addr) (mc : Nat) (v m : List Int) (hv : v.length ≤ 1000) (hm : m.length ≤ 1000) (hmc : m.length ≤ mc) (ov : Octets v) (om : Octets m) (w : World) (iv : Ints .u8 w va v) (im : Ints .u8 w ma m) :
    Calls Tryz.prog 77 #[.agg #[.int .i64 C, .int .i64 F, .bool H, .int .u64 X, .slice va v.length vc, .slice ma m.length mc]] w fun e w' => e = .returned (.int .i64 (size8 C F H X v m)) ∧ Below w.heap.size w w' := by
  obtain ⟨W, hW, hbW, hbox⟩ := oxm_box w C F H X va v.length vc ma m.length mc
  have HW := hid hW
  have HB := hid hbW
  obtain ⟨d0, d1, d2, d3, d4, d5⟩ := hbox.six
  have IV := hid (iv.below hbW)
  have IM := hid (im.below hbW)
  clear hW hbW iv im
  have RR := hid (fun W iv im => right8_any C F H X va vc ma mc v m hv hm hmc ov om W iv im)
  have R3 := hid (fun W => behind8_any C F H X va v.length vc ma m.length mc W (by omega) (by omega))
  clear ov om
  cases hr : rightB C F H X v m
  · rw [show size8 C F H X v m = 0 by simp [size8, hr]]
    rw [hr] at RR
    clear hr
    go_enter Tryz.func77, Tryz.ntmps77
    go_wp2_with fail
    rw [HW.out]
    go_wp2_with fail
    refine (RR.out _ IV.out IM.out).mono ?_
    rintro e w1 ⟨rfl, hb⟩
    go_wp2_with fail
    go_ret
    exact ⟨rfl, below_on HB.out hb⟩
  · have hb1 : (behind8 C v.length m.length : Int) ≤ 204 := by have := (right_facts hr).most; omega
    rw [show size8 C F H X v m = 4 + behind8 C v.length m.length by simp [size8, hr]]
    rw [hr] at RR
    clear hr
    obtain ⟨q, hq⟩ : ∃ q, behind8 C v.length m.length = q := ⟨_, rfl⟩
    rw [hq] at R3 hb1 ⊢
    clear hq
    go_enter Tryz.func77, Tryz.ntmps77
    go_wp2_with fail
    rw [HW.out]
    go_wp2_with fail
    refine (RR.out _ IV.out IM.out).mono ?_
    rintro e w1 ⟨rfl, hb⟩
    clear d0 d1 d2 d3 d4 d5
    obtain ⟨d0, d1, d2, d3, d4, d5⟩ := (hbox.below hb).six
    go_wp2_with fail
    refine (R3.out _).mono ?_
    rintro e w2 ⟨rfl, hb2⟩
    go_wp2_with fail
    go_ret
    exact ⟨ret_int (by omega), below_on HB.out (below_on hb hb2)⟩

/-- twice the Field, and 1 with a mask -/
def fieldN (F : Int) (H : Bool) : Int := if H then 2 * F + 1 else 2 * F
theorem or_one {F : Int} (h0 : 0 ≤ F) (h1 : F ≤ 127) : bits BinOp.or IntKind.u64 (F * 2) 1 = 2 * F + 1 := by
  rw [u64_or _ _ (by omega) (by omega) (by omega) (by omega)]
  obtain ⟨a, rfl⟩ := Int.eq_ofNat_of_zero_le h0
  have e : ((a : Int) * 2).toNat = 2 ^ 1 * a := by omega
  have e1 : (1 : Int).toNat = 1 := rfl
  rw [e, e1, ← Nat.two_pow_add_eq_or_of_lt (by omega)]
  omega

set_option maxRecDepth 100000 in
theorem fieldByte_any (C F : Int) (H : Bool) (X : Int) (va : Option Addr) (vl vc : Nat) (ma : Option Addr) (ml mc : Nat) (w : World) (h0 : 0 ≤ F) (h1 : F ≤ 127) :
    Calls Tryz.prog 80 #[.agg #[.int .i64 C, .int .i64 F, .bool H, .int .u64 X, .slice va vl vc, .slice ma ml mc]] w fun e w' => e = .returned (.int .u64 (fieldN F H)) ∧ Below w.heap.size w w' := by
  have ho := or_one h0 h1
  cases H
  · go_enter Tryz.func80, Tryz.ntmps80
    go_wp2
    go_ret
    exact ⟨ret_int (by simp [fieldN]; omega), below_alloc _ _⟩
  · go_enter Tryz.func80, Tryz.ntmps80
    go_wp2
    trace_state
    go_ret
    exact ⟨ret_int (by simp [fieldN]), below_alloc _ _⟩
end Go.Proofs.YtdjlbejhphbcoaaGreat
namespace Go.Proofs.YtdjlbejhphbcoaaGreat
open Go.RowKit
set_option linter.unusedVariables false

theorem below_drew8 (w : World) : Below w.heap.size w w.drew := (Below.refl _ _).drew
/-- the four bytes that stand first -/
def headL (C F : Int) (H : Bool) (k : Nat) : List Int := bytesL C 2 ++ (bytesL (fieldN F H) 1 ++ (bytesL (k : Int) 1 ++ []))
theorem headL_length (C F : Int) (H : Bool) (k : Nat) : (headL C F H k).length = 4 := by simp [headL, bytesL_length]
/-- whose it is -/
def expL (C X : Int) : List Int := if C = 65535 then bytesL X 4 else []
/-- its bytes -/
def oxmBytes (C F : Int) (H : Bool) (X : Int) (v m : List Int) : List Int := headL C F H (behind8 C v.length m.length) ++ (expL C X ++ (v ++ m))
theorem expL_length (C X : Int) : (expL C X).length = if C = 65535 then 4 else 0 := by unfold expL; split <;> simp [bytesL_length]
theorem oxmBytes_length (C F : Int) (H : Bool) (X : Int) (v m : List Int) : (oxmBytes C F H X v m).length = 4 + behind8 C v.length m.length := by
  simp only [oxmBytes, List.length_append, headL_length, expL_length, behind8]
  split <;> omega
theorem putW_oxm {C F : Int} {H : Bool} {k : Nat} (hC : 0 ≤ C ∧ C < 65536) (hF : 0 ≤ F ∧ F ≤ 127) (hk : k < 256) : putW [2, 1, 1] [C, fieldN F H, (k : Int)] = some (headL C F H k) := by
  have hf : fieldN F H < 256 := by unfold fieldN; split <;> omega
  have r1 : rightW [2, 1, 1] = true := by decide
  have r2 : countL [2, 1, 1] = 3 := by decide
  have p2 : roomB C 2 = true := by simp [roomB, p256, hC.2]
  have p1 : roomB (fieldN F H) 1 = true := by simp [roomB, p256, hf]
  have p0 : roomB (k : Int) 1 = true := by simp [roomB, p256]; omega
  simp [putW, r1, r2, putL, p2, p1, p0, headL]

set_option maxRecDepth 100000 in
set_option maxHeartbeats 1000000 in
theorem encode8_no (C F : Int) (H : Bool) (X : Int) (va : Option Addr) (vc : Nat) (ma : Option Addr) (mc : Nat) (v m : List Int) (hv : v.length ≤ 1000) (hm : m.length ≤ 1000) (hmc : m.length ≤ mc) (ov : Octets v) (om : Octets m) (w : World) (iv : Ints .u8 w va v) (im : Ints .u8 w ma m) (hr : rightB C F H X v m = false) :
    Calls Tryz.prog 47 #[.agg #[.int .i64 C, .int .i64 F, .bool H, .int .u64 X, .slice va v.length vc, .slice ma m.length mc]] w fun e w' => e = .returned (.tuple #[.slice none 0 0, .int .i64 10001]) ∧ Below w.heap.size w w' := by
  obtain ⟨W, hW, hbW, hbox⟩ := oxm_box w C F H X va v.length vc ma m.length mc
  have HW := hid hW
  have HB := hid hbW
  obtain ⟨d0, d1, d2, d3, d4, d5⟩ := hbox.six
  have IV := hid (iv.below hbW)
  have IM := hid (im.below hbW)
  clear hW hbW iv im
  have RR := hid (fun W iv im => right8_any C F H X va vc ma mc v m hv hm hmc ov om W iv im)
  rw [hr] at RR
  clear hr ov om
  go_enter Tryz.func47, Tryz.ntmps47
  go_wp2_with fail
  rw [HW.out]
  go_wp2_with fail
  refine (RR.out _ IV.out IM.out).mono ?_
  rintro e w1 ⟨rfl, hb⟩
  go_wp2_with fail
  go_ret2
  exact ⟨rfl, below_on HB.out hb⟩

theorem u64_wrap8 (n : Int) : IntKind.u64.wrap n = n % 18446744073709551616 := by simp [IntKind.wrap, IntKind.bits, IntKind.signed]
theorem lit_at (k : IntKind) {w : World} (l : List Int) {e : TypeId} {g : Nat} {cs : Array Value} {w' : World} (hb : Below (w.alloc (.cells cs e)).heap.size (w.alloc (.cells cs e)) w') (hg : w.heap.size = g) (hcs : (l.map (Value.int k)).toArray = cs) : Ints k w' (some ⟨g, 0, none⟩) l := by
  subst hg
  subst hcs
  exact (ints_lit k w l e).below hb
theorem row8_any {W V : World} {g mm : Nat} {C F fn : Int} {H : Bool} {k : Nat} {a b : Option Addr} {c2 k2 : Int} (hP : putW [2, 1, 1] [c2, fn, k2] = some (headL C F H k)) (hU : U64s [c2, fn, k2]) (O : BufOn W V g mm none 208 [] [] 0) (ia : Ints .i64 V a [2, 1, 1]) (ib : Ints .u64 V b [c2, fn, k2]) :
    Calls Tryz.prog 44 #[.pointer (some ⟨g, 0, none⟩), .slice a 3 3, .slice b 3 3] V fun e w' => e = .returned (.tuple #[]) ∧ ∃ p', BufOn W w' g mm p' 208 (headL C F H k) [] 0 := by
  refine (O.buf.row_ok [2, 1, 1] [c2, fn, k2] (headL C F H k) hP a b 3 3 3 3 rfl rfl (by decide) (Nat.le_refl _) hU ia ib (by rw [headL_length]; decide)).mono ?_
  rintro e w' ⟨rfl, p', hG⟩
  exact ⟨rfl, p', O.went hG⟩

set_option maxRecDepth 100000 in
set_option maxHeartbeats 1000000 in
theorem encode8_yes (C F : Int) (H : Bool) (X : Int) (va : Option Addr) (vc : Nat) (ma : Option Addr) (mc : Nat) (v m : List Int) (hv : v.length ≤ 1000) (hm : m.length ≤ 1000) (hmc : m.length ≤ mc) (ov : Octets v) (om : Octets m) (w : World) (iv : Ints .u8 w va v) (im : Ints .u8 w ma m) (hX0 : 0 ≤ X) (hr : rightB C F H X v m = true) :
    Calls Tryz.prog 47 #[.agg #[.int .i64 C, .int .i64 F, .bool H, .int .u64 X, .slice va v.length vc, .slice ma m.length mc]] w fun e w' => ∃ ad cp, e = .returned (.tuple #[.slice ad (oxmBytes C F H X v m).length cp, .int .i64 0]) ∧ Below w.heap.size w w' ∧ Ints .u8 w' ad (oxmBytes C F H X v m) ∧ (oxmBytes C F H X v m).length ≤ cp := by
  obtain ⟨W, hW, hbW, hbox⟩ := oxm_box w C F H X va v.length vc ma m.length mc
  have HW := hid hW
  have HB := hid hbW
  obtain ⟨d0, d1, d2, d3, d4, d5⟩ := hbox.six
  have IV := hid (iv.below hbW)
  have IM := hid (im.below hbW)
  clear hW hbW iv im
  have RR := hid (fun W iv im => right8_any C F H X va vc ma mc v m hv hm hmc ov om W iv im)
  have R3 := hid (fun W => behind8_any C F H X va v.length vc ma m.length mc W (by omega) (by omega))
  have ft := right_facts hr
  have RF := hid (fun W => fieldByte_any C F H X va v.length vc ma m.length mc W ft.f0 ft.f1)
  rw [hr] at RR
  clear ov om
  go_enter Tryz.func47, Tryz.ntmps47
  go_wp2_with fail
  rw [HW.out]
  go_wp2_with fail
  refine (RR.out _ IV.out IM.out).mono ?_
  rintro e w1 ⟨rfl, hb⟩
  clear d0 d1 d2 d3 d4 d5
  obtain ⟨d0, d1, d2, d3, d4, d5⟩ := (hbox.below hb).six
  have HA := hid hb
  go_wp2_with fail
  refine (bufNew_any 208 _).mono ?_
  rintro e w2 ⟨g, mm, rfl, hB, hb2, hg, hmm⟩
  have O1 : BufOn W w2 g mm none 208 [] [] 0 := ⟨hB, below_on HA.out hb2, by have := HA.out.size; rintro i (e | e | e); omega; omega; simp at e⟩
  clear d0 d1 d2 d3 d4 d5
  obtain ⟨d0, d1, d2, d3, d4, d5⟩ := (hbox.below O1.bel).six
  have kx := ft.most
  have hP := putW_oxm (C := C) (H := H) (k := behind8 C v.length m.length) (by rcases ft.cls with h | h <;> omega) ⟨ft.f0, ft.f1⟩ (by omega)
  have HH := hid (headL_length C F H (behind8 C v.length m.length))
  obtain ⟨k, hk⟩ : ∃ k, behind8 C v.length m.length = k := ⟨_, rfl⟩
  have hfn : 0 ≤ fieldN F H ∧ fieldN F H ≤ 255 := by have := ft.f0; have := ft.f1; unfold fieldN; split <;> omega
  obtain ⟨fn, hfn2⟩ : ∃ n, fieldN F H = n := ⟨_, rfl⟩
  rw [hk] at hP HH R3 kx
  rw [hfn2] at hP RF hfn
  have wC : IntKind.u64.wrap C = C := by rw [u64_wrap8]; rcases ft.cls with h | h <;> omega
  have wk : IntKind.u64.wrap (k : Int) = (k : Int) := by rw [u64_wrap8]; omega
  have HU : Hid (U64s [IntKind.u64.wrap C, fn, IntKind.u64.wrap (k : Int)]) := by
    rw [wC, wk]
    intro x hx
    simp only [List.mem_cons, List.not_mem_nil, or_false] at hx
    rw [p256_8]
    rcases ft.cls with h | h <;> rcases hx with rfl | rfl | rfl <;> omega
  have HP : Hid (putW [2, 1, 1] [IntKind.u64.wrap C, fn, IntKind.u64.wrap (k : Int)] = some (headL C F H k)) := by rw [wC, wk]; exact hP
  clear wC wk
  have HK := hid hk
  have hC0 : 0 ≤ C := by rcases ft.cls with h | h <;> omega
  have hC1 : C ≤ 65535 := by rcases ft.cls with h | h <;> omega
  have OD := O1.below (below_drew8 w2)
  have hboxD := (hbox.below OD.bel)
  have FT := hid ft
  clear hP hk hfn2 hr hb hb2 hB hg hmm ft
  have kx2 : (k : Int) ≤ 204 := by omega
  go_upto_region 4 with fail
  go_cut [9] (fun t9 wx => ∃ p, BufOn W wx g mm p 208 (headL C F H k) [] 0)
  case first =>
    go_region_held3 (fun w' => w'.cell? ⟨w.heap.size, 0, none⟩ = some (.int .i64 C) ∧ w'.cell? ⟨w.heap.size, 1, none⟩ = some (.int .i64 F) ∧ w'.cell? ⟨w.heap.size, 2, none⟩ = some (.bool H) ∧ w'.cell? ⟨w.heap.size, 3, none⟩ = some (.int .u64 X) ∧ w'.cell? ⟨w.heap.size, 4, none⟩ = some (.slice va v.length vc) ∧ w'.cell? ⟨w.heap.size, 5, none⟩ = some (.slice ma m.length mc)) (go_keep) (first
      | (go_at_call 80; refine (RF.out _).mono ?_; rintro e w5 ⟨rfl, hb5⟩; have hB5 : Below w2.drew.heap.size w2.drew w5 := (by first | exact hb5 | exact below_on (below_alloc _ _) hb5 | fail); obtain ⟨e0, e1, e2, e3, e4, e5⟩ := (hboxD.below hB5).six)
      | (go_at_call 81; refine (R3.out _).mono ?_; rintro e w6 ⟨rfl, hb6⟩; have hB6 : Below w2.drew.heap.size w2.drew w6 := (by first | exact below_on hB5 hb6 | exact below_on (below_on hB5 (below_alloc _ _)) hb6 | fail); obtain ⟨e0, e1, e2, e3, e4, e5⟩ := (hboxD.below hB6).six)
      | (go_at_call 44; refine (row8_any HP.out HU.out (OD.below ?_) ?_ ?_).mono ?_; (first | exact below_on hB6 (below_alloc _ _) | exact below_on (below_on hB6 (below_alloc _ _)) (below_alloc _ _) | fail); (first | exact lit_at .i64 [2, 1, 1] (below_on (below_drew8 _) (below_on (below_on hb5 hb6) (below_alloc _ _))) rfl rfl | exact lit_at .i64 [2, 1, 1] (below_on (below_on hb5 hb6) (below_alloc _ _)) rfl rfl | exact lit_at .i64 [2, 1, 1] (below_on hb6 (below_alloc _ _)) rfl rfl | exact lit_at .i64 [2, 1, 1] (below_alloc _ _) rfl rfl | exact lit_at .i64 [2, 1, 1] (Below.refl _ _) rfl rfl | exact lit_at .i64 [2, 1, 1] (Below.refl _ _) (World.size_alloc _ _) rfl | fail); (first | exact lit_at .u64 [IntKind.u64.wrap C, fn, IntKind.u64.wrap (k : Int)] (Below.refl _ _) rfl rfl | exact lit_at .u64 [IntKind.u64.wrap C, fn, IntKind.u64.wrap (k : Int)] (Below.refl _ _) (World.size_alloc _ _) rfl | exact lit_at .u64 [IntKind.u64.wrap C, fn, IntKind.u64.wrap (k : Int)] (below_alloc _ _) rfl rfl | fail); rintro e w7 ⟨rfl, p', O7⟩; obtain ⟨e0, e1, e2, e3, e4, e5⟩ := (hbox.below O7.bel).six))
    all_goals
      go_wp2_with fail
      go_meet
      exact ⟨_, O7⟩
  case rest =>
    obtain ⟨p, O8⟩ := hcut
    have HO : Hid (oxmBytes C F H X v m = headL C F H k ++ expL C X ++ v ++ m) := by rw [← HK.out]; simp [oxmBytes, Hid]
    have hl4 := HH.out
    have hk := HK.out
    have hx1 := FT.out.x1
    obtain ⟨hd, hhd⟩ : ∃ l, headL C F H k = l := ⟨_, rfl⟩
    rw [hhd] at O8 hl4 HO
    clear hhd RR R3 RF HU HP OD hboxD HA O1 d0 d1 d2 d3 d4 d5 HH
    obtain ⟨d0, d1, d2, d3, d4, d5⟩ := (hbox.below O8.bel).six
    rcases FT.out.cls with rfl | rfl
    · have hkk : v.length + m.length = k := by rw [← hk]; rfl
      obtain ⟨l0, hl0⟩ : ∃ l0, hd ++ expL 32768 X = l0 := ⟨_, rfl⟩
      have hl1 : hd = l0 := by rw [← hl0]; simp [expL]
      rw [hl0] at HO
      rw [hl1] at O8 hl4
      have hlA : l0.length + v.length + m.length ≤ 208 := by omega
      have OA := O8
      clear hk FT O8 hl0 hl1 hl4 hkk
      go_wp2_with fail
      refine (OA.buf.bytes_ok v va vc (by omega) (IV.out.below OA.bel)).mono ?_
      rintro e w8 ⟨rfl, p8, hG⟩
      have OB := OA.went hG
      clear d0 d1 d2 d3 d4 d5 hG OA
      obtain ⟨d0, d1, d2, d3, d4, d5⟩ := (hbox.below OB.bel).six
      have hlB : (l0 ++ v).length + m.length ≤ 208 := by rw [List.length_append]; omega
      go_wp2_with fail
      refine (OB.buf.bytes_ok m ma mc hlB (IM.out.below OB.bel)).mono ?_
      rintro e w9 ⟨rfl, p9, hG⟩
      have OC := OB.went hG
      clear d0 d1 d2 d3 d4 d5 hG OB
      obtain ⟨xs, hxs⟩ : ∃ xs, l0 ++ v ++ m = xs := ⟨_, rfl⟩
      rw [hxs] at OC
      rw [hxs] at HO
      clear hxs hlB hlA
      go_wp2_with fail
      refine OC.buf.done_ok.mono ?_
      rintro e w10 ⟨rfl, hF⟩
      obtain ⟨ad, cp, he, hl, hc, hI⟩ := own_ints hF.own
      have he1 : ad = some ⟨w9.heap.size, 0, none⟩ := by simpa using (congrArg (fun x => match x with | Value.slice a _ _ => a | _ => none) he).symm
      have HF := hid hF.bel
      have HI := hid hI
      have HE1 := hid he1
      clear he hl hc hI hF he1
      go_wp2_with fail
      go_ret2
      rw [HO.out]
      exact ⟨some ⟨w9.heap.size, 0, none⟩, xs.length, rfl, below_on HB.out (below_on OC.bel HF.out), by rw [← HE1.out]; exact HI.out, Nat.le_refl _⟩
    · have hkk : v.length + m.length + 4 = k := by rw [← hk]; rfl
      obtain ⟨l0, hl0⟩ : ∃ l0, hd ++ expL 65535 X = l0 := ⟨_, rfl⟩
      have hl1 : hd ++ bytesL X 4 = l0 := by rw [← hl0]; simp [expL]
      rw [hl0] at HO
      have hl2 : l0.length = 8 := by rw [← hl1, List.length_append, hl4, bytesL_length]
      have hx4 : X < p256 4 := by simp [p256]; omega
      have HN := hid (O8.buf.num_ok (n := 4) (by decide) (by decide) hX0 hx4 (by omega))
      rw [hl1] at HN
      have hlA : l0.length + v.length + m.length ≤ 208 := by omega
      clear hk FT hl0 hl1 hl2 hl4 hkk hx4
      go_wp2_with fail
      refine HN.out.mono ?_
      rintro e w7 ⟨rfl, p7, hG⟩
      have OA := O8.went hG
      clear d0 d1 d2 d3 d4 d5 hG O8 HN
      obtain ⟨d0, d1, d2, d3, d4, d5⟩ := (hbox.below OA.bel).six
      go_wp2_with fail
      refine (OA.buf.bytes_ok v va vc (by omega) (IV.out.below OA.bel)).mono ?_
      rintro e w8 ⟨rfl, p8, hG⟩
      have OB := OA.went hG
      clear d0 d1 d2 d3 d4 d5 hG OA
      obtain ⟨d0, d1, d2, d3, d4, d5⟩ := (hbox.below OB.bel).six
      have hlB : (l0 ++ v).length + m.length ≤ 208 := by rw [List.length_append]; omega
      go_wp2_with fail
      refine (OB.buf.bytes_ok m ma mc hlB (IM.out.below OB.bel)).mono ?_
      rintro e w9 ⟨rfl, p9, hG⟩
      have OC := OB.went hG
      clear d0 d1 d2 d3 d4 d5 hG OB
      obtain ⟨xs, hxs⟩ : ∃ xs, l0 ++ v ++ m = xs := ⟨_, rfl⟩
      rw [hxs] at OC
      rw [hxs] at HO
      clear hxs hlB hlA
      go_wp2_with fail
      refine OC.buf.done_ok.mono ?_
      rintro e w10 ⟨rfl, hF⟩
      obtain ⟨ad, cp, he, hl, hc, hI⟩ := own_ints hF.own
      have he1 : ad = some ⟨w9.heap.size, 0, none⟩ := by simpa using (congrArg (fun x => match x with | Value.slice a _ _ => a | _ => none) he).symm
      have HF := hid hF.bel
      have HI := hid hI
      have HE1 := hid he1
      clear he hl hc hI hF he1
      go_wp2_with fail
      go_ret2
      rw [HO.out]
      exact ⟨some ⟨w9.heap.size, 0, none⟩, xs.length, rfl, below_on HB.out (below_on OC.bel HF.out), by rw [← HE1.out]; exact HI.out, Nat.le_refl _⟩
end Go.Proofs.YtdjlbejhphbcoaaGreat
namespace Go.Proofs.YtdjlbejhphbcoaaGreat
open Go.RowKit
set_option linter.unusedVariables false

/-- what comes of a value that is encoded -/
def EncPost (C F : Int) (H : Bool) (X : Int) (v m : List Int) (w : World) (e : Ending) (w' : World) : Prop :=
  (rightB C F H X v m = false ∧ e = .returned (.tuple #[.slice none 0 0, .int .i64 10001]) ∧ Below w.heap.size w w') ∨
  (rightB C F H X v m = true ∧ ∃ ad cp, e = .returned (.tuple #[.slice ad (oxmBytes C F H X v m).length cp, .int .i64 0]) ∧ Below w.heap.size w w' ∧ Ints .u8 w' ad (oxmBytes C F H X v m) ∧ (oxmBytes C F H X v m).length ≤ cp)
theorem encode8_any (C F : Int) (H : Bool) (X : Int) (va : Option Addr) (vc : Nat) (ma : Option Addr) (mc : Nat) (v m : List Int) (hv : v.length ≤ 1000) (hm : m.length ≤ 1000) (hmc : m.length ≤ mc) (ov : Octets v) (om : Octets m) (w : World) (iv : Ints .u8 w va v) (im : Ints .u8 w ma m) (hX0 : 0 ≤ X) : Calls Tryz.prog 47 #[.agg #[.int .i64 C, .int .i64 F, .bool H, .int .u64 X, .slice va v.length vc, .slice ma m.length mc]] w (EncPost C F H X v m w) := by
  cases hr : rightB C F H X v m
  · exact (encode8_no C F H X va vc ma mc v m hv hm hmc ov om w iv im hr).mono fun e w' h => .inl ⟨hr, h.1, h.2⟩
  · exact (encode8_yes C F H X va vc ma mc v m hv hm hmc ov om w iv im hX0 hr).mono fun e w' h => .inr ⟨hr, h⟩

end Go.Proofs.YtdjlbejhphbcoaaGreat
namespace Go.Proofs.YtdjlbejhphbcoaaGreat
open Go.RowKit
set_option linter.unusedVariables false

theorem few8_any (C F : Int) (H : Bool) (X : Int) (va : Option Addr) (vl vc : Nat) (ma : Option Addr) (ml mc : Nat) (w : World) :
    Calls Tryz.prog 42 #[.agg #[.int .i64 C, .int .i64 F, .bool H, .int .u64 X, .slice va vl vc, .slice ma ml mc]] w fun e w' => e = .returned (.bool (decide (vl ≤ 300 ∧ ml ≤ 300))) ∧ Below w.heap.size w w' := by
  by_cases h1 : vl ≤ 300
  · by_cases h2 : ml ≤ 300
    · have i1 : (vl : Int) ≤ 300 := by omega
      have i2 : (ml : Int) ≤ 300 := by omega
      rw [decide_eq_true (show vl ≤ 300 ∧ ml ≤ 300 from ⟨h1, h2⟩)]
      clear h1 h2
      go_enter Tryz.func42, Tryz.ntmps42
      go_wp2
      go_ret
      exact ⟨rfl, below_alloc _ _⟩
    · have i1 : (vl : Int) ≤ 300 := by omega
      have i2 : decide ((ml : Int) ≤ 300) = false := by simp; omega
      rw [decide_eq_false (show ¬ (vl ≤ 300 ∧ ml ≤ 300) by omega)]
      clear h1 h2
      go_enter Tryz.func42, Tryz.ntmps42
      go_wp2
      go_ret
      exact ⟨rfl, below_alloc _ _⟩
  · have i1 : 300 < (vl : Int) := by omega
    rw [decide_eq_false (show ¬ (vl ≤ 300 ∧ ml ≤ 300) by omega)]
    clear h1
    go_enter Tryz.func42, Tryz.ntmps42
    go_wp2
    go_ret
    exact ⟨rfl, below_alloc _ _⟩

end Go.Proofs.YtdjlbejhphbcoaaGreat
namespace Go.Proofs.YtdjlbejhphbcoaaGreat
open Go.RowKit
set_option linter.unusedVariables false

theorem cls8_take (b : List Int) : cls8 (b.take 208) = cls8 b := by simp [cls8, List.take_take]
theorem fld8_take (b : List Int) : fld8 (b.take 208) = fld8 b := by simp [fld8, List.drop_take, List.take_take]
theorem len8_take (b : List Int) : len8 (b.take 208) = len8 b := by simp [len8, List.drop_take, List.take_take]
theorem rest8_take (b : List Int) : rest8 (b.take 208) = (rest8 b).take 204 := by simp [rest8, List.drop_take]
theorem fits_dims {F : Int} (h : 0 ≤ F ∧ F < 40) : (fld F).z ≤ 16 := (fld_dims h).2.2.2
theorem rawL_take (b : List Int) : rawL (b.take 208) = rawL b := by
  unfold rawL
  rw [cls8_take, fld8_take, len8_take, rest8_take]
  by_cases h4 : b.length < 4
  · rw [if_pos (by rw [List.length_take]; omega), if_pos h4]
  rw [if_neg (by rw [List.length_take]; omega), if_neg h4]
  by_cases hE : headE (cls8 b) (fld8 b / 2) (oddB (fld8 b)) (len8 b) = 0
  · have hne : ¬ headE (cls8 b) (fld8 b / 2) (oddB (fld8 b)) (len8 b) ≠ 0 := by simpa using hE
    rw [if_neg hne, if_neg hne]
    have hp : pieces8 (oddB (fld8 b)) = 1 ∨ pieces8 (oddB (fld8 b)) = 2 := by cases oddB (fld8 b) <;> simp [pieces8]
    have hL : (len8 b).toNat ≤ 204 ∧ both8 b ≤ 200 ∧ (cls8 b ≠ 65535 → both8 b ≤ 32) := by
      rcases head_cls hE with hC | hC
      · rw [hC] at hE
        have hh := head_basic hE
        have hz := fits_dims hh.1
        have : ((fld (fld8 b / 2)).z : Int) * (pieces8 (oddB (fld8 b)) : Int) ≤ 32 := by rcases hp with h | h <;> rw [h] <;> omega
        have en : both8 b = (len8 b).toNat := by simp [both8, hC]
        rw [en]
        omega
      · rw [hC] at hE
        have hh := head_extra hE
        have en : both8 b = (len8 b).toNat - 4 := by simp [both8, hC]
        rw [en]
        refine ⟨?_, ?_, fun h => absurd hC h⟩ <;> rcases hp with h | h <;> rw [h] at hh <;> omega
    have e1 : ((rest8 b).take 204).length < (len8 b).toNat ↔ (rest8 b).length < (len8 b).toNat := by rw [List.length_take]; omega
    have eb : both8 (b.take 208) = both8 b := by simp [both8, cls8_take, len8_take]
    have ebody : ∃ K, body8 (b.take 208) = (body8 b).take K ∧ both8 b ≤ K := by
      by_cases hC : cls8 b = 65535
      · exact ⟨200, by simp [body8, cls8_take, rest8_take, hC, List.drop_take], hL.2.1⟩
      · exact ⟨204, by simp [body8, cls8_take, rest8_take, hC], by have := hL.2.1; omega⟩
    obtain ⟨K, ebody, hK⟩ := ebody
    have ev : val8 (b.take 208) = val8 b := by
      unfold val8
      rw [ebody, eb, fld8_take, List.take_take]
      congr 1
      have : both8 b / pieces8 (oddB (fld8 b)) ≤ both8 b := Nat.div_le_self _ _
      omega
    have em : mask8 (b.take 208) = mask8 b := by
      unfold mask8
      rw [ebody, eb, fld8_take, List.drop_take, List.take_take]
      congr 2
      omega
    have ex : exp8 (b.take 208) = exp8 b := by
      unfold exp8
      rw [cls8_take, rest8_take, List.take_take]
      rfl
    simp only [e1, ev, em, ex]
  · rw [if_pos (show headE (cls8 b) (fld8 b / 2) (oddB (fld8 b)) (len8 b) ≠ 0 from hE), if_pos (show headE (cls8 b) (fld8 b / 2) (oddB (fld8 b)) (len8 b) ≠ 0 from hE)]

/-- what decoding comes to -/
def DecPost (R : Except Int Oxm8) (w : World) (e : Ending) (w' : World) : Prop :=
  (∃ q, R = .error q ∧ q ≠ 0 ∧ e = .returned (.tuple #[.agg #[.int .i64 0, .int .i64 0, .bool false, .int .u64 0, .slice none 0 0, .slice none 0 0], .int .i64 0, .int .i64 q]) ∧ Below w.heap.size w w') ∨
  (∃ o a1 c1 a2 c2, R = .ok o ∧ e = .returned (.tuple #[.agg #[.int .i64 o.C, .int .i64 o.F, .bool o.H, .int .u64 o.X, .slice a1 o.v.length c1, .slice a2 o.m.length c2], .int .i64 o.n, .int .i64 0]) ∧ Below w.heap.size w w' ∧ Ints .u8 w' a1 o.v ∧ Ints .u8 w' a2 o.m ∧ o.m.length ≤ c2 ∧ New8 w a1 ∧ New8 w a2)

theorem raw_octets {b : List Int} {o : Oxm8} (h : rawL b = .ok o) (ho : Octets b) : Octets o.v ∧ Octets o.m ∧ o.v.length ≤ 255 ∧ o.m.length ≤ 255 ∧ (o.H = true → o.v.length = o.m.length) := by
  unfold rawL at h
  by_cases h4 : b.length < 4
  · rw [if_pos h4] at h; simp at h
  rw [if_neg h4] at h
  by_cases hE : headE (cls8 b) (fld8 b / 2) (oddB (fld8 b)) (len8 b) ≠ 0
  · rw [if_pos hE] at h; simp at h
  rw [if_neg hE] at h
  by_cases hr : (rest8 b).length < (len8 b).toNat
  · rw [if_pos hr] at h; simp at h
  rw [if_neg hr] at h
  obtain rfl : _ = o := by simpa using h
  have oc : Octets (body8 b) := by
    unfold body8 rest8
    split
    · exact (((ho.drop 2).drop 1).drop 1).drop 4
    · exact ((ho.drop 2).drop 1).drop 1
  have hL := num_byte ((ho.drop 2).drop 1)
  have hL2 : (len8 b).toNat ≤ 255 := by unfold len8; omega
  have hboth : both8 b ≤ 255 := by unfold both8; split <;> omega
  have hbl : both8 b ≤ (body8 b).length := by
    unfold both8 body8
    split
    · rw [List.length_drop]; omega
    · omega
  refine ⟨oc.take _, ?_, ?_, ?_, ?_⟩
  · show Octets (mask8 b)
    unfold mask8
    split
    · exact (oc.drop _).take _
    · intro x hx; simp at hx
  · show (val8 b).length ≤ 255
    unfold val8
    rw [List.length_take]
    have : both8 b / pieces8 (oddB (fld8 b)) ≤ both8 b := Nat.div_le_self _ _
    omega
  · show (mask8 b).length ≤ 255
    unfold mask8
    split
    · rw [List.length_take]; omega
    · simp
  · intro hh
    have hh' : oddB (fld8 b) = true := hh
    show (val8 b).length = (mask8 b).length
    simp only [val8, mask8, hh', pieces8, if_true, List.length_take, List.length_drop]
    omega

theorem below_row {W w1 w2 : World} {g : Nat} (hb : Below W.heap.size W w1) (hg : W.heap.size ≤ g) (h : w1.grownBy w2 (some g)) : Below W.heap.size W w2 :=
  by_none_below (grownBy_trans (below_by_none hb) h (.inr fun k hk => by cases hk; exact hg))

set_option maxRecDepth 100000 in
set_option maxHeartbeats 2000000 in
theorem decode8_at (b l : List Int) (a : Option Addr) (c : Nat) (hl : b.take 208 = l) (hbc : b.length ≤ c) (hc : c ≤ 9223372036854775807) (ho : Octets b) (w : World) (hI : Ints .u8 w a b) (k : Nat) (hk : l.length = k) (hm : (min (b.length : Int) 208).toNat = k) :
    Calls Tryz.prog 128 #[.slice a b.length c] w (DecPost (decL b) w) := by
  have hk2 : k ≤ 208 := by rw [← hk, ← hl, List.length_take]; omega
  have HO : Hid (Octets l) := by rw [← hl]; exact ho.take 208
  obtain ⟨W, hW, hbW, hbox⟩ := oxm_box w 0 0 false 0 none 0 0 none 0 0
  have HW := hid hW
  have HBW := hid hbW
  have HN := hid (new_any l a c 1026 1026 W (by omega) HO.out (by rw [← hl]; exact (hI.take 208).below hbW))
  rw [hk] at HN
  have hraw : rawL l = rawL b := by rw [← hl]; exact rawL_take b
  have HRAW := hid hraw
  have HOB := hid ho
  have HM := hid hm
  clear hI ho hl hk hW hbW hraw hm
  go_enter Tryz.func128, Tryz.ntmps128
  go_wp2_with fail
  rw [HW.out, HM.out]
  refine HN.out.mono ?_
  rintro e w1 ⟨g, rfl, hc1, hb1, hg1, hg2⟩
  have hR1 := hbox.below hb1
  have hs1 := hbox.lt
  have HB1 := hid hb1
  clear hbox hb1
  go_wp2_with fail
  refine (read8_any hc1 (by omega)).mono ?_
  intro e w2 hP
  rw [HRAW.out] at hP
  have hne : w.heap.size ≠ g := by omega
  rcases hP with ⟨q, hq, hq0, C, F, H, X, a1, n1, c1, a2, n2, c2, l5, r5, rfl, hc2, hb2⟩ | ⟨⟨C, F, H, X, v, m, n⟩, hq, a1, c1, a2, c2, rfl, i1, i2, hmc, ⟨hw1, hw2⟩, ⟨l5, hc2⟩, hb2⟩
  · have hD : Hid (decL b = .error q) := by show _ = _; simp only [decL, hq]
    have hR2 := box_by hR1 hb2 hne
    have hq1 : (q != 0) = true := by simpa using hq0
    have HQ := hid hq0
    have HB2 := hid (below_row HB1.out (by omega) hb2)
    have hlt2 := hR2.lt
    obtain ⟨W2, hW2, hbW2, hX2⟩ := oxm_box w2 C F H X a1 n1 c1 a2 n2 c2
    have HW2 := hid hW2
    have hc3 := hc2.below hbW2
    have hR3 := hR2.below hbW2
    have HB3 := hid (below_on HB2.out hbW2)
    clear hc1 hc2 hq hq0 hR1 hR2 hW2 hb2 hbW2 hg1 hg2
    go_wp2_with fail
    rw [HW2.out]
    refine hc3.err.mono ?_
    rintro e w' ⟨rfl, rfl⟩
    have z := hR3.free
    obtain ⟨d0, d1, d2, d3, d4, d5⟩ := hR3.six
    go_wp2_with fail
    have hkk := hR3.set6 (.int .i64 0) (.int .i64 0) (.bool false) (.int .u64 0) (.slice none 0 0) (.slice none 0 0)
    obtain ⟨k0, k1, k2, k3, k4, k5⟩ := hkk.six
    refine bodyPost_ret (v := .tuple #[.agg #[.int .i64 0, .int .i64 0, .bool false, .int .u64 0, .slice none 0 0, .slice none 0 0], .int .i64 0, .int .i64 q]) (by simp [results, Tryz.results128, go_sem, k0, k1, k2, k3, k4, k5]) rfl (.inl ⟨q, hD.out, HQ.out, rfl, ?_⟩)
    repeat (with_reducible refine Below.setCell ?_ (by simp) _)
    exact below_on HBW.out HB3.out
  · simp only at i1 i2 hmc hc2
    have hoc := raw_octets hq HOB.out
    obtain ⟨ov, om, lv, lm, hvm⟩ := hoc
    simp only at ov om lv lm hvm
    have HW3 := hid (fun W iv im => wrongBytes_any C F H X a1 c1 a2 c2 v m (fun _ h => Nat.le_of_eq (hvm h)) (by omega) hmc ov om W iv im)
    have hR2 := box_by hR1 hb2 hne
    have HB2 := hid (below_row HB1.out (by omega) hb2)
    have hlt2 := hR2.lt
    obtain ⟨W2, hW2, hbW2, hX2⟩ := oxm_box w2 C F H X a1 v.length c1 a2 m.length c2
    have HW2 := hid hW2
    have hc3 := hc2.below hbW2
    have hR3 := hR2.below hbW2
    have HB3 := hid (below_on HB2.out hbW2)
    have I1 := hid (i1.below hbW2)
    have I2 := hid (i2.below hbW2)
    have HMC := hid hmc
    obtain ⟨d0, d1, d2, d3, d4, d5⟩ := hX2.six
    have hRX : w2.heap.size ≠ w.heap.size := by omega
    have nR1 : ∀ q : Addr, a1 = some q → q.block ≠ w.heap.size := fun q hq => by have := hw1 q hq; omega
    have nR2 : ∀ q : Addr, a2 = some q → q.block ≠ w.heap.size := fun q hq => by have := hw2 q hq; omega
    have HN1 : Hid (New8 w a1) := fun q hq => by have := hw1 q hq; omega
    have HN2 : Hid (New8 w a2) := fun q hq => by have := hw2 q hq; omega
    clear hw1 hw2
    by_cases hE : bytesE C F H v m = 0
    · have hD : Hid (decL b = .ok ⟨C, F, H, X, v, m, n⟩) := by show _ = _; simp only [decL, hq, hE, if_true]
      rw [hE] at HW3
      clear hc1 hc2 hq hR1 hR2 hW2 hb2 hbW2 hg1 hg2 hE ov om lv lm hvm i1 i2 hmc
      go_wp2_with fail
      rw [HW2.out]
      refine hc3.err.mono ?_
      rintro e w' ⟨rfl, rfl⟩
      go_wp2_with fail
      refine (HW3.out _ I1.out I2.out).mono ?_
      rintro e w4 ⟨rfl, hb4⟩
      have hc5 := hc3.below hb4
      have hR5 := hR3.below hb4
      have hX5 := hX2.below hb4
      have HB5 := hid (below_on HB3.out hb4)
      have I15 := hid (I1.out.below hb4)
      have I25 := hid (I2.out.below hb4)
      clear d0 d1 d2 d3 d4 d5 hc3 hR3 hX2 hb4 HW3
      obtain ⟨d0, d1, d2, d3, d4, d5⟩ := hX5.six
      have z := hR5.free
      obtain ⟨e0, e1, e2, e3, e4, e5⟩ := hR5.six
      have n1 : ¬ w2.heap.size = w.heap.size := hRX
      have n2 : ¬ w.heap.size = w2.heap.size := fun e => hRX e.symm
      have hc6 := hid (hc5.below (below_drew8 w4))
      go_wp2_with fail
      go_region_held3 (fun w' => w'.cell? ⟨w2.heap.size, 0, none⟩ = some (.int .i64 C) ∧ w'.cell? ⟨w2.heap.size, 1, none⟩ = some (.int .i64 F) ∧ w'.cell? ⟨w2.heap.size, 2, none⟩ = some (.bool H) ∧ w'.cell? ⟨w2.heap.size, 3, none⟩ = some (.int .u64 X) ∧ w'.cell? ⟨w2.heap.size, 4, none⟩ = some (.slice a1 v.length c1) ∧ w'.cell? ⟨w2.heap.size, 5, none⟩ = some (.slice a2 m.length c2)) (go_keep) (first
        | (go_at_call 39; refine hc6.out.pos.mono ?_; rintro e w' ⟨rfl, rfl⟩)
        | fail)
      go_wp2_with fail
      have hkk := hR5.set6 (.int .i64 C) (.int .i64 F) (.bool H) (.int .u64 X) (.slice a1 v.length c1) (.slice a2 m.length c2)
      replace hkk := hkk.drew
      obtain ⟨k0, k1, k2, k3, k4, k5⟩ := hkk.six
      refine bodyPost_ret (v := .tuple #[.agg #[.int .i64 C, .int .i64 F, .bool H, .int .u64 X, .slice a1 v.length c1, .slice a2 m.length c2], .int .i64 n, .int .i64 0]) (by simp [results, Tryz.results128, go_sem, k0, k1, k2, k3, k4, k5]) rfl (.inr ⟨⟨C, F, H, X, v, m, n⟩, a1, c1, a2, c2, hD.out, rfl, ?_, ?_, ?_, HMC.out, HN1.out, HN2.out⟩)
      · with_reducible refine Below.drew ?_
        repeat (with_reducible refine Below.setCell ?_ (by simp) _)
        exact below_on HBW.out HB5.out
      · refine Ints.below ?_ (below_drew8 _)
        repeat (refine Ints.apart ?_ _ nR1)
        exact I15.out
      · refine Ints.below ?_ (below_drew8 _)
        repeat (refine Ints.apart ?_ _ nR2)
        exact I25.out
    · have hD : Hid (decL b = .error (bytesE C F H v m)) := by show _ = _; simp only [decL, hq, if_neg hE]
      obtain ⟨q, hqe⟩ : ∃ q, bytesE C F H v m = q := ⟨_, rfl⟩
      rw [hqe] at HW3 hD hE
      have hq1 : (q != 0) = true := by simpa using hE
      have HQ := hid hE
      clear hc1 hc2 hq hR1 hR2 hW2 hb2 hbW2 hg1 hg2 hE ov om lv lm hvm i1 i2 hmc hqe
      go_wp2_with fail
      rw [HW2.out]
      refine hc3.err.mono ?_
      rintro e w' ⟨rfl, rfl⟩
      go_wp2_with fail
      refine (HW3.out _ I1.out I2.out).mono ?_
      rintro e w4 ⟨rfl, hb4⟩
      have hR5 := hR3.below hb4
      have HB5 := hid (below_on HB3.out hb4)
      clear d0 d1 d2 d3 d4 d5 hc3 hR3 hX2 hb4 HW3
      have z := hR5.free
      obtain ⟨d0, d1, d2, d3, d4, d5⟩ := hR5.six
      go_wp2_with fail
      have hkk := hR5.set6 (.int .i64 0) (.int .i64 0) (.bool false) (.int .u64 0) (.slice none 0 0) (.slice none 0 0)
      obtain ⟨k0, k1, k2, k3, k4, k5⟩ := hkk.six
      refine bodyPost_ret (v := .tuple #[.agg #[.int .i64 0, .int .i64 0, .bool false, .int .u64 0, .slice none 0 0, .slice none 0 0], .int .i64 0, .int .i64 q]) (by simp [results, Tryz.results128, go_sem, k0, k1, k2, k3, k4, k5]) rfl (.inl ⟨q, hD.out, HQ.out, rfl, ?_⟩)
      repeat (with_reducible refine Below.setCell ?_ (by simp) _)
      exact below_on HBW.out HB5.out
theorem decode8_any (b : List Int) (a : Option Addr) (c : Nat) (hbc : b.length ≤ c) (hc : c ≤ 9223372036854775807) (ho : Octets b) (w : World) (hI : Ints .u8 w a b) :
    Calls Tryz.prog 128 #[.slice a b.length c] w (DecPost (decL b) w) :=
  decode8_at b (b.take 208) a c rfl hbc hc ho w hI _ rfl (by rw [List.length_take]; omega)
end Go.Proofs.YtdjlbejhphbcoaaGreat
namespace Go.Proofs.YtdjlbejhphbcoaaGreat
open Go.RowKit
set_option linter.unusedVariables false

theorem octets8 {l : List Int} (h : l.all (fun x => decide (0 ≤ x ∧ x ≤ 255)) = true) : Octets l := by
  intro x hx
  have := List.all_eq_true.1 h x hx
  simpa using this
end Go.Proofs.YtdjlbejhphbcoaaGreat
namespace Go.Proofs.YtdjlbejhphbcoaaGreat
open Go.ChangeShapes Go.WideShapes Go.RowKit Go.Deep
set_option linter.unusedVariables false

/-- a value that came in -/
structure OxmIn (w : World) (C F X : Int) (va : Option Addr) (vl vc : Nat) (ma : Option Addr) (ml mc : Nat) (v m : List Int) : Prop where
  c : -9223372036854775808 ≤ C ∧ C ≤ 9223372036854775807
  f : -9223372036854775808 ≤ F ∧ F ≤ 9223372036854775807
  x : 0 ≤ X ∧ X ≤ 18446744073709551615
  lv : vl = v.length
  lm : ml = m.length
  iv : Ints .u8 w va v
  im : Ints .u8 w ma m
  ov : Octets v
  om : Octets m
  cv : v.length ≤ vc ∧ vc ≤ 9223372036854775807
  cm : m.length ≤ mc ∧ mc ≤ 9223372036854775807

section
variable {H : Type} {enc : TypeId × Value → H} {w : World} {base : Nat} {held : Bool}
theorem open_bytes8 {fuel : Nat} {v : Value} {x : DataW H × List MemPlace} (h : DataW.trod enc Tryz.prog w base (fun _ => true) held fuel 23 [v] = some x) :
    ∃ a n c l, v = .slice a n c ∧ n = l.length ∧ Ints .u8 w a l ∧ Octets l ∧ l.length ≤ c ∧ c ≤ 9223372036854775807 := by
  have hC8 : Tryz.prog.cellsOf 5 = 1 := by kernel_rfl
  rcases open_ints Tryz.underlying23 Tryz.underlying5 hC8 h with ⟨hcs, _⟩ | ⟨p2, l2, cp2, zs, hcs, _, hl2, hm2, hz, _, hcell, hwz⟩
  · simp at hcs
    subst hcs
    exact ⟨none, 0, 0, [], rfl, rfl, Ints.nil _ _ _, fun x hx => by simp at hx, by simp, by simp⟩
  · simp at hcs
    subst hcs
    have hrow : IsRow .u8 w (some p2) l2 cp2 zs := .inr ⟨p2, rfl, hl2, hm2, by simpa using hz, hcell, hwz⟩
    obtain ⟨z, rfl, hz0, hz1, hz2, hz3⟩ := hrow.ints
    exact ⟨some p2, z.length, cp2, z, rfl, rfl, hz2, wf_u8 hz3, hz0, hz1⟩
end
end Go.Proofs.YtdjlbejhphbcoaaGreat
namespace Go.Proofs.YtdjlbejhphbcoaaGreat
open Go.RowKit
set_option linter.unusedVariables false

end Go.Proofs.YtdjlbejhphbcoaaGreat
namespace Go.Proofs.YtdjlbejhphbcoaaGreat
open Go.RowKit
set_option linter.unusedVariables false

/-- whether two are of the same field -/
def alikeB (C F X C' F' X' : Int) : Bool := C == C' && F == F' && X == X'
theorem alike_ways (C F X C' F' X' : Int) : ∃ r, alikeB C F X C' F' X' = r ∧ (((C == C') = false ∧ r = false) ∨ ((C == C') = true ∧ (F == F') = false ∧ r = false) ∨ ((C == C') = true ∧ (F == F') = true ∧ r = (X == X'))) := by
  refine ⟨_, rfl, ?_⟩
  unfold alikeB
  cases (C == C') <;> cases (F == F') <;> simp

set_option maxRecDepth 100000 in
theorem alike8_any (C F : Int) (H : Bool) (X : Int) (va : Option Addr) (vl vc : Nat) (ma : Option Addr) (ml mc : Nat) (C' F' : Int) (H' : Bool) (X' : Int) (va' : Option Addr) (vl' vc' : Nat) (ma' : Option Addr) (ml' mc' : Nat) (w : World) :
    Calls Tryz.prog 144 #[.agg #[.int .i64 C, .int .i64 F, .bool H, .int .u64 X, .slice va vl vc, .slice ma ml mc], .agg #[.int .i64 C', .int .i64 F', .bool H', .int .u64 X', .slice va' vl' vc', .slice ma' ml' mc']] w fun e w' => e = .returned (.bool (alikeB C F X C' F' X')) ∧ Below w.heap.size w w' := by
  obtain ⟨r, hr, hq⟩ := alike_ways C F X C' F' X'
  rw [hr]
  clear hr
  rcases hq with ⟨h1, rfl⟩ | ⟨h1, h2, rfl⟩ | ⟨h1, h2, rfl⟩
  all_goals
    go_enter Tryz.func144, Tryz.ntmps144
    go_wp2_with fail
    go_ret
    exact ⟨rfl, below_on (below_alloc _ _) (below_alloc _ _)⟩
theorem conv8 (w : World) (l : List Int) (a : Option Addr) (c : Nat) (hI : Ints .u8 w a l) : (convert 23 9 (.slice a l.length c)).run Tryz.prog w = .ok (.string (strOfNums l)) w := by
  have hs := Tryz.underlying23
  have he := Tryz.underlying5
  have hd := Tryz.underlying9
  cases l with
  | nil =>
    cases a with
    | none => exact run_convert_bytes_nil w _ _ hs he 0 c _ hd
    | some p =>
      rw [run_convert_bytes_string w _ _ _ _ _ c hs he hd]
      exact run_bytesToString w p 0 c [] (by rfl)
  | cons x r =>
    obtain ⟨b, off, rfl, h0⟩ := hI 0 (by simp)
    exact run_convert_bytes_arg w _ _ hs he b off (x :: r).length c (x :: r) rfl (fun i hi => by
      obtain ⟨b', off', he', hc⟩ := hI i hi
      obtain ⟨rfl, rfl⟩ : b = b' ∧ off = off' := by simpa using he'
      exact hc) _ hd

theorem byte_inj8 {x y : Int} (hx : 0 ≤ x ∧ x ≤ 255) (hy : 0 ≤ y ∧ y ≤ 255) (h : UInt8.ofNat x.toNat = UInt8.ofNat y.toNat) : x = y := by
  have h2 := congrArg UInt8.toNat h
  simp at h2
  omega
theorem map_inj8 : ∀ {l m : List Int}, Octets l → Octets m → (l.map fun n => UInt8.ofNat n.toNat) = (m.map fun n => UInt8.ofNat n.toNat) → l = m
  | [], [], _, _, _ => rfl
  | [], y :: m, _, _, h => by simp at h
  | x :: l, [], _, _, h => by simp at h
  | x :: l, y :: m, hl, hm, h => by
    rw [List.map_cons, List.map_cons, List.cons.injEq] at h
    rw [byte_inj8 (hl x (by simp)) (hm y (by simp)) h.1, map_inj8 (fun z hz => hl z (by simp [hz])) (fun z hz => hm z (by simp [hz])) h.2]
theorem strEq8 {l m : List Int} (ol : Octets l) (om : Octets m) : ((strOfNums l).toList == (strOfNums m).toList) = (l == m) := by
  rw [ByteArray.toList_eq, ByteArray.toList_eq, strOfNums_data, strOfNums_data, Bool.eq_iff_iff, beq_iff_eq, beq_iff_eq]
  exact ⟨map_inj8 ol om, fun h => by rw [h]⟩
set_option maxRecDepth 100000 in
theorem equal8_any (l m : List Int) (a b : Option Addr) (c d : Nat) (w : World) (hl : l.length ≤ 1000000) (hm : m.length ≤ 1000000) (ol : Octets l) (om : Octets m) (hc : Ints .u8 w a l) (hd : Ints .u8 w b m) :
    Calls Tryz.prog 114 #[.slice a l.length c, .slice b m.length d] w fun e w' => e = .returned (.bool (l == m)) ∧ Below w.heap.size w w' := by
  have k1 := conv8 w l a c hc
  have k2 := conv8 w m b d hd
  have HS := hid (strEq8 ol om)
  clear hc hd ol om
  go_enter Tryz.func114, Tryz.ntmps114
  go_wp2_with fail
  go_ret
  exact ⟨ret_bool HS.out, Below.refl _ _⟩

/-- whether two are the same -/
def sameB (C F : Int) (H : Bool) (X : Int) (C' F' : Int) (H' : Bool) (X' : Int) (v m v' m' : List Int) : Bool := alikeB C F X C' F' X' && H == H' && v == v' && m == m'
theorem same_ways (C F : Int) (H : Bool) (X : Int) (C' F' : Int) (H' : Bool) (X' : Int) (v m v' m' : List Int) : ∃ r, sameB C F H X C' F' H' X' v m v' m' = r ∧ ((alikeB C F X C' F' X' = false ∧ r = false) ∨ (alikeB C F X C' F' X' = true ∧ (H == H') = false ∧ r = false) ∨ (alikeB C F X C' F' X' = true ∧ (H == H') = true ∧ (v == v') = false ∧ r = false) ∨ (alikeB C F X C' F' X' = true ∧ (H == H') = true ∧ (v == v') = true ∧ r = (m == m'))) := by
  refine ⟨_, rfl, ?_⟩
  unfold sameB
  cases alikeB C F X C' F' X' <;> cases (H == H') <;> cases (v == v') <;> simp
theorem two_oxm (w : World) (C F : Int) (H : Bool) (X : Int) (va : Option Addr) (vl vc : Nat) (ma : Option Addr) (ml mc : Nat) (C' F' : Int) (H' : Bool) (X' : Int) (va' : Option Addr) (vl' vc' : Nat) (ma' : Option Addr) (ml' mc' : Nat) : ∃ W, (w.alloc (.cells #[.int .i64 C, .int .i64 F, .bool H, .int .u64 X, .slice va vl vc, .slice ma ml mc] 25)).alloc (.cells #[.int .i64 C', .int .i64 F', .bool H', .int .u64 X', .slice va' vl' vc', .slice ma' ml' mc'] 25) = W ∧ Below w.heap.size w W ∧ BoxL W w.heap.size [.int .i64 C, .int .i64 F, .bool H, .int .u64 X, .slice va vl vc, .slice ma ml mc] ∧ BoxL W (w.heap.size + 1) [.int .i64 C', .int .i64 F', .bool H', .int .u64 X', .slice va' vl' vc', .slice ma' ml' mc'] := by
  obtain ⟨W1, h1, b1, x1⟩ := oxm_box w C F H X va vl vc ma ml mc
  obtain ⟨W2, h2, b2, x2⟩ := oxm_box W1 C' F' H' X' va' vl' vc' ma' ml' mc'
  have hs : W1.heap.size = w.heap.size + 1 := by rw [← h1, World.size_alloc]
  rw [hs] at x2
  exact ⟨W2, by rw [h1, h2], below_on b1 b2, x1.below b2, x2⟩

set_option maxRecDepth 100000 in
set_option maxHeartbeats 1000000 in
theorem same8_any (C F : Int) (H : Bool) (X : Int) (va : Option Addr) (vc : Nat) (ma : Option Addr) (mc : Nat) (C' F' : Int) (H' : Bool) (X' : Int) (va' : Option Addr) (vc' : Nat) (ma' : Option Addr) (mc' : Nat) (v m v' m' : List Int) (hv : v.length ≤ 1000) (hm : m.length ≤ 1000) (hv' : v'.length ≤ 1000) (hm' : m'.length ≤ 1000) (ov : Octets v) (om : Octets m) (ov' : Octets v') (om' : Octets m') (w : World) (iv : Ints .u8 w va v) (im : Ints .u8 w ma m) (iv' : Ints .u8 w va' v') (im' : Ints .u8 w ma' m') :
    Calls Tryz.prog 113 #[.agg #[.int .i64 C, .int .i64 F, .bool H, .int .u64 X, .slice va v.length vc, .slice ma m.length mc], .agg #[.int .i64 C', .int .i64 F', .bool H', .int .u64 X', .slice va' v'.length vc', .slice ma' m'.length mc']] w fun e w' => e = .returned (.bool (sameB C F H X C' F' H' X' v m v' m')) ∧ Below w.heap.size w w' := by
  obtain ⟨W, hW, hbW, hx, hy⟩ := two_oxm w C F H X va v.length vc ma m.length mc C' F' H' X' va' v'.length vc' ma' m'.length mc'
  have HW := hid hW
  have HB := hid hbW
  have IV := hid (iv.below hbW)
  have IM := hid (im.below hbW)
  have IV' := hid (iv'.below hbW)
  have IM' := hid (im'.below hbW)
  have AL := hid (fun W => alike8_any C F H X va v.length vc ma m.length mc C' F' H' X' va' v'.length vc' ma' m'.length mc' W)
  have EV := hid (fun (n : Wk W) => equal8_any v v' va va' vc vc' n.val (by omega) (by omega) ov ov' (IV.out.below n.bel) (IV'.out.below n.bel))
  have EM := hid (fun (n : Wk W) => equal8_any m m' ma ma' mc mc' n.val (by omega) (by omega) om om' (IM.out.below n.bel) (IM'.out.below n.bel))
  obtain ⟨d0, d1, d2, d3, d4, d5⟩ := hx.six
  obtain ⟨e0, e1, e2, e3, e4, e5⟩ := hy.six
  obtain ⟨r, hr, hq⟩ := same_ways C F H X C' F' H' X' v m v' m'
  rw [hr]
  clear hr hW hbW iv im iv' im' ov om ov' om' hv hm hv' hm'
  rcases hq with ⟨h1, rfl⟩ | ⟨h1, h2, rfl⟩ | ⟨h1, h2, h3, rfl⟩ | ⟨h1, h2, h3, rfl⟩
  · rw [h1] at AL
    clear h1
    go_enter Tryz.func113, Tryz.ntmps113
    go_wp2_with fail
    rw [HW.out]
    have HA := hid (Below.refl W.heap.size W)
    go_wp2_with fail
    refine (AL.out _).mono ?_
    rintro e w1 ⟨rfl, hb⟩
    replace HA := hid (below_on HA.out hb)
    clear d0 d1 d2 d3 d4 d5 e0 e1 e2 e3 e4 e5 hb
    obtain ⟨d0, d1, d2, d3, d4, d5⟩ := (hx.below HA.out).six
    obtain ⟨e0, e1, e2, e3, e4, e5⟩ := (hy.below HA.out).six
    go_wp2_with fail
    go_ret
    exact ⟨rfl, below_on HB.out HA.out⟩
  · rw [h1] at AL
    clear h1
    go_enter Tryz.func113, Tryz.ntmps113
    go_wp2_with fail
    rw [HW.out]
    have HA := hid (Below.refl W.heap.size W)
    go_wp2_with fail
    refine (AL.out _).mono ?_
    rintro e w1 ⟨rfl, hb⟩
    replace HA := hid (below_on HA.out hb)
    clear d0 d1 d2 d3 d4 d5 e0 e1 e2 e3 e4 e5 hb
    obtain ⟨d0, d1, d2, d3, d4, d5⟩ := (hx.below HA.out).six
    obtain ⟨e0, e1, e2, e3, e4, e5⟩ := (hy.below HA.out).six
    go_wp2_with fail
    go_ret
    exact ⟨rfl, below_on HB.out HA.out⟩
  · rw [h1] at AL
    clear h1
    rw [h3] at EV
    clear h3
    go_enter Tryz.func113, Tryz.ntmps113
    go_wp2_with fail
    rw [HW.out]
    have HA := hid (Below.refl W.heap.size W)
    go_wp2_with fail
    refine (AL.out _).mono ?_
    rintro e w1 ⟨rfl, hb⟩
    replace HA := hid (below_on HA.out hb)
    clear d0 d1 d2 d3 d4 d5 e0 e1 e2 e3 e4 e5 hb
    obtain ⟨d0, d1, d2, d3, d4, d5⟩ := (hx.below HA.out).six
    obtain ⟨e0, e1, e2, e3, e4, e5⟩ := (hy.below HA.out).six
    go_wp2_with fail
    refine (EV.out ⟨_, HA.out⟩).mono ?_
    rintro e w1 ⟨rfl, hb⟩
    replace HA := hid (below_on HA.out hb)
    clear d0 d1 d2 d3 d4 d5 e0 e1 e2 e3 e4 e5 hb
    obtain ⟨d0, d1, d2, d3, d4, d5⟩ := (hx.below HA.out).six
    obtain ⟨e0, e1, e2, e3, e4, e5⟩ := (hy.below HA.out).six
    go_wp2_with fail
    go_ret
    exact ⟨rfl, below_on HB.out HA.out⟩
  · rw [h1] at AL
    clear h1
    rw [h3] at EV
    clear h3
    go_enter Tryz.func113, Tryz.ntmps113
    go_wp2_with fail
    rw [HW.out]
    have HA := hid (Below.refl W.heap.size W)
    go_wp2_with fail
    refine (AL.out _).mono ?_
    rintro e w1 ⟨rfl, hb⟩
    replace HA := hid (below_on HA.out hb)
    clear d0 d1 d2 d3 d4 d5 e0 e1 e2 e3 e4 e5 hb
    obtain ⟨d0, d1, d2, d3, d4, d5⟩ := (hx.below HA.out).six
    obtain ⟨e0, e1, e2, e3, e4, e5⟩ := (hy.below HA.out).six
    go_wp2_with fail
    refine (EV.out ⟨_, HA.out⟩).mono ?_
    rintro e w1 ⟨rfl, hb⟩
    replace HA := hid (below_on HA.out hb)
    clear d0 d1 d2 d3 d4 d5 e0 e1 e2 e3 e4 e5 hb
    obtain ⟨d0, d1, d2, d3, d4, d5⟩ := (hx.below HA.out).six
    obtain ⟨e0, e1, e2, e3, e4, e5⟩ := (hy.below HA.out).six
    go_wp2_with fail
    refine (EM.out ⟨_, HA.out⟩).mono ?_
    rintro e w1 ⟨rfl, hb⟩
    replace HA := hid (below_on HA.out hb)
    clear d0 d1 d2 d3 d4 d5 e0 e1 e2 e3 e4 e5 hb
    obtain ⟨d0, d1, d2, d3, d4, d5⟩ := (hx.below HA.out).six
    obtain ⟨e0, e1, e2, e3, e4, e5⟩ := (hy.below HA.out).six
    go_wp2_with fail
    go_ret
    exact ⟨rfl, below_on HB.out HA.out⟩

end Go.Proofs.YtdjlbejhphbcoaaGreat
