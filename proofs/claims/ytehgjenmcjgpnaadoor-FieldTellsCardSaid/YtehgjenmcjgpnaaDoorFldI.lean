/- Package field and the document's fields: whether bytes are a field's value, for all; what is sure of layer 7. -/
import Derived.Test.YtehgjenmcjgpnaaDoorFldH
namespace Go.Proofs.YtehgjenmcjgpnaaDoor
open Go.RowKit

theorem fld_dims {n : Int} (h : 0 ≤ n ∧ n < 40) : 0 ≤ (fld n).b ∧ (fld n).b ≤ 128 ∧ (fld n).b ≤ 8 * ((fld n).z : Int) ∧ (fld n).z ≤ 16 := by
  rcases forty h with rfl | rfl | rfl | rfl | rfl | rfl | rfl | rfl | rfl | rfl | rfl | rfl | rfl | rfl | rfl | rfl | rfl | rfl | rfl | rfl | rfl | rfl | rfl | rfl | rfl | rfl | rfl | rfl | rfl | rfl | rfl | rfl | rfl | rfl | rfl | rfl | rfl | rfl | rfl | rfl <;> decide

theorem fld_vals {n : Int} (h : 0 ≤ n ∧ n < 40) : (fld n).v.length ≤ 1000 := by
  rcases forty h with rfl | rfl | rfl | rfl | rfl | rfl | rfl | rfl | rfl | rfl | rfl | rfl | rfl | rfl | rfl | rfl | rfl | rfl | rfl | rfl | rfl | rfl | rfl | rfl | rfl | rfl | rfl | rfl | rfl | rfl | rfl | rfl | rfl | rfl | rfl | rfl | rfl | rfl | rfl | rfl <;> decide

/-- whether bytes are a value of a field -/
def fitsB (n : Int) (l : List Int) : Bool := decide (0 ≤ n ∧ n < 40) && decide (l.length = (fld n).z) && fitV (8 * ((fld n).z : Int) - (fld n).b).toNat l

set_option maxRecDepth 100000 in
theorem fldFits_any (n : Int) (l : List Int) (a : Option Addr) (c : Nat) (w : World) (hI : Ints .u8 w a l) :
    Calls Tryd.prog 17 #[.int .i64 n, .slice a l.length c] w fun e w' => e = .returned (.bool (fitsB n l)) ∧ Below w.heap.size w w' := by
  have HO := fldOf_any n w
  by_cases hin : 0 ≤ n ∧ n < 40
  · obtain ⟨d0, d1, d2, d3⟩ := fld_dims hin
    by_cases hl : l.length = (fld n).z
    · have e : fitsB n l = fitV (8 * ((fld n).z : Int) - (fld n).b).toNat l := by unfold fitsB; rw [decide_eq_true hin, decide_eq_true hl]; rfl
      rw [e]
      exact fldFits_loop n (fld n) rfl _ (by omega) d0 d1 l a c hl d3 hin w hI
    · have e : fitsB n l = false := by unfold fitsB; rw [decide_eq_false hl]; simp
      rw [e]
      obtain ⟨f, hf⟩ : ∃ f, fld n = f := ⟨_, rfl⟩
      rw [hf, decide_eq_true hin] at HO
      rw [hf] at hl
      unfold fldV at HO
      have hlen : ((l.length : Int) != (f.z : Int)) = true := by simp; omega
      have HO := hid HO
      clear e hf hin hl d0 d1 d2 d3 hI
      go_enter Tryd.func17, Tryd.ntmps17
      go_wp2_with fail
      refine HO.out.mono ?_
      rintro e w1 ⟨v, rfl, ⟨va, vc, rfl, hI⟩, hb⟩
      clear hI
      go_wp2_with fail
      go_ret
      exact ⟨rfl, hb.alloc hb.size _⟩
  · have e : fitsB n l = false := by unfold fitsB; rw [decide_eq_false hin]; rfl
    rw [e]
    obtain ⟨f, hf⟩ : ∃ f, fld n = f := ⟨_, rfl⟩
    rw [hf, decide_eq_false hin] at HO
    unfold fldV at HO
    have HO := hid HO
    clear e hf hin hI
    go_enter Tryd.func17, Tryd.ntmps17
    go_wp2_with fail
    refine HO.out.mono ?_
    rintro e w1 ⟨v, rfl, ⟨va, vc, rfl, hI⟩, hb⟩
    clear hI
    go_wp2_with fail
    go_ret
    exact ⟨rfl, hb.alloc hb.size _⟩

set_option maxRecDepth 100000 in
theorem fldRefFits_any (n : Int) (l : List Int) (a : Option Addr) (c : Nat) (ho : Octets l) (w : World) (hI : Ints .u8 w a l) :
    Calls Tryd.prog 18 #[.int .i64 n, .slice a l.length c] w fun e w' => e = .returned (.bool (fitsB n l)) ∧ Below w.heap.size w w' := by
  have HO := refOf_any n w
  by_cases hin : 0 ≤ n ∧ n < 40
  · obtain ⟨d0, d1, d2, d3⟩ := fld_dims hin
    by_cases hl : l.length = (fld n).z
    · have e : fitsB n l = fitV (8 * ((fld n).z : Int) - (fld n).b).toNat l := by unfold fitsB; rw [decide_eq_true hin, decide_eq_true hl]; rfl
      rw [e]
      exact refFits_loop n (fld n) rfl _ (by omega) d0 d2 l ho a c hl d3 hin w hI
    · have e : fitsB n l = false := by unfold fitsB; rw [decide_eq_false hl]; simp
      rw [e]
      obtain ⟨f, hf⟩ : ∃ f, fld n = f := ⟨_, rfl⟩
      rw [hf, decide_eq_true hin] at HO
      rw [hf] at hl
      unfold refFldV at HO
      have hlen : ((l.length : Int) != (f.z : Int)) = true := by simp; omega
      have HO := hid HO
      clear e hf hin hl d0 d1 d2 d3 hI
      go_enter Tryd.func18, Tryd.ntmps18
      go_wp2_with fail
      refine HO.out.mono ?_
      rintro e w1 ⟨v, rfl, ⟨va, vc, rfl, hI⟩, hb⟩
      clear hI
      go_wp2_with fail
      go_ret
      exact ⟨rfl, hb.alloc hb.size _⟩
  · have e : fitsB n l = false := by unfold fitsB; rw [decide_eq_false hin]; rfl
    rw [e]
    obtain ⟨f, hf⟩ : ∃ f, fld n = f := ⟨_, rfl⟩
    rw [hf, decide_eq_false hin] at HO
    unfold refFldV at HO
    have HO := hid HO
    clear e hf hin hI
    go_enter Tryd.func18, Tryd.ntmps18
    go_wp2_with fail
    refine HO.out.mono ?_
    rintro e w1 ⟨v, rfl, ⟨va, vc, rfl, hI⟩, hb⟩
    clear hI
    go_wp2_with fail
    go_ret
    exact ⟨rfl, hb.alloc hb.size _⟩

theorem three_ints {k : IntKind} {w : World} {a : Option Addr} {x0 x1 x2 : Int} (h : Ints k w a [x0, x1, x2]) :
    ∃ q off, a = some ⟨q, off, none⟩ ∧ w.cell? ⟨q, off, none⟩ = some (.int k x0) ∧ w.cell? ⟨q, off + 1, none⟩ = some (.int k x1) ∧ w.cell? ⟨q, off + 2, none⟩ = some (.int k x2) := by
  obtain ⟨q, off, rfl, c0⟩ := h 0 (by simp)
  obtain ⟨q1, off1, e1, c1⟩ := h 1 (by simp)
  obtain ⟨q2, off2, e2, c2⟩ := h 2 (by simp)
  simp at e1 e2
  obtain ⟨rfl, rfl⟩ := e1
  obtain ⟨rfl, rfl⟩ := e2
  exact ⟨q, off, rfl, c0, c1, c2⟩
theorem one_ints {k : IntKind} {w : World} {a : Option Addr} {x0 : Int} (h : Ints k w a [x0]) : ∃ q off, a = some ⟨q, off, none⟩ ∧ w.cell? ⟨q, off, none⟩ = some (.int k x0) := by
  obtain ⟨q, off, rfl, c0⟩ := h 0 (by simp)
  exact ⟨q, off, rfl, c0⟩

set_option maxRecDepth 100000 in
set_option maxHeartbeats 2000000 in
theorem sure7_any (w : World) (hL : FldLaid w) :
    Calls Tryd.prog 6 #[] w fun e w' => e = .returned (.bool true) ∧ Below w.heap.size w w' := by
  have HN := hid (fun W => (need_any 31).1 W)
  have HF := hid (fun W h => fldFind_any ⟨#[105, 112, 118, 54, 95, 110, 100, 95, 116, 108, 108]⟩ W h)
  have ef := hid (show findV ⟨#[105, 112, 118, 54, 95, 110, 100, 95, 116, 108, 108]⟩ = .tuple #[.int .i64 33, .bool true] by kernel_rfl)
  have HO : Hid (∀ W, Calls Tryd.prog 7 #[.int .i64 33] W fun e w' => ∃ v, e = .returned (.tuple #[.agg #[.int .i64 48, .int .i64 6, .bool false, .int .i64 29, v], .bool true]) ∧ U64s7 w' v [136] ∧ Below W.heap.size W w') := fun W => fldOf_any 33 W
  have HT := hid (fun l a c W hI => fldFits_any 7 l a c W hI)
  have en := hid (show needL 31 = [5, 10, 29] by decide +kernel)
  have f8 := hid (show fitsB 7 [8] = false by decide +kernel)
  have f7 := hid (show fitsB 7 [7] = true by decide +kernel)
  have hL1 := hid hL
  clear hL
  go_enter Tryd.func6, Tryd.ntmps6
  go_wp2_with fail
  refine (HN.out _).mono ?_
  rintro e w1 ⟨v, rfl, hF⟩
  rw [en.out] at hF
  obtain ⟨a, c, rfl, _, _, hI⟩ := own_ints hF.own
  have hb1 := hF.bel
  clear hF
  go_wp2_with fail
  refine (HF.out _ (hL1.out.below hb1)).mono ?_
  rintro e w' ⟨rfl, rfl⟩
  rw [ef.out]
  go_wp2_with fail
  refine (HO.out _).mono ?_
  rintro e w2 ⟨v, rfl, ⟨va, vc, rfl, hV⟩, hb2⟩
  have hI2 := hI.below (below_on (Below.refl _ _) hb2)
  have HB := hid (below_on hb1 hb2)
  obtain ⟨q, off, rfl, c0, c1, c2⟩ := three_ints hI2
  obtain ⟨q', off', rfl, c3⟩ := one_ints hV
  have hq : q < w2.heap.size := World.block_lt_of_cell? w2 _ c0
  have hq' : q' < w2.heap.size := World.block_lt_of_cell? w2 _ c3
  have hqn : ¬ q = w2.heap.size := by omega
  have hqn' : ¬ q' = w2.heap.size := by omega
  obtain ⟨W, hW, hbW⟩ : ∃ W, w2.alloc (.cells #[.int .i64 48, .int .i64 6, .bool false, .int .i64 29, .slice (some ⟨q', off', none⟩) 1 vc] 25) = W ∧ Below w.heap.size w W := ⟨_, rfl, HB.out.alloc HB.out.size _⟩
  have HW := hid hW
  have hsz : W.heap.size = w2.heap.size + 1 := by rw [← hW]; simp
  have h8 : Calls Tryd.prog 17 #[.int .i64 7, .slice (some ⟨w2.heap.size + 1, 0, none⟩) 1 1] (W.alloc (.cells #[.int .u8 8] 5)) fun e w' => e = .returned (.bool false) ∧ Below (W.alloc (.cells #[.int .u8 8] 5)).heap.size (W.alloc (.cells #[.int .u8 8] 5)) w' := by
    have := HT.out [8] _ 1 _ (ints_lit .u8 W [8] 5)
    rw [hsz, f8.out] at this
    exact this
  have h7 : ∀ V : World, Calls Tryd.prog 17 #[.int .i64 7, .slice (some ⟨V.heap.size, 0, none⟩) 1 1] (V.alloc (.cells #[.int .u8 7] 5)) fun e w' => e = .returned (.bool true) ∧ Below (V.alloc (.cells #[.int .u8 7] 5)).heap.size (V.alloc (.cells #[.int .u8 7] 5)) w' := by
    intro V
    have := HT.out [7] _ 1 _ (ints_lit .u8 V [7] 5)
    rw [f7.out] at this
    exact this
  have H8 := hid h8
  have H7 := hid h7
  clear hI hI2 hV hb1 hb2 hW hsz h8 h7
  go_wp2_with fail
  rw [HW.out]
  refine H8.out.mono ?_
  rintro e w3 ⟨rfl, hb3⟩
  have HB4 := hid ((hbW.alloc hbW.size (.cells #[.int .u8 8] 5)).trans (hb3.mono (by simp; have := hbW.size; omega)))
  clear hb3 hbW c0 c1 c2 c3
  go_wp2_with fail
  refine (H7.out _).mono ?_
  rintro e w4 ⟨rfl, hb5⟩
  go_wp2_with fail
  go_ret
  exact ⟨rfl, (HB4.out.alloc HB4.out.size (.cells #[.int .u8 7] 5)).trans (hb5.mono (by simp; have := HB4.out.size; omega))⟩
end Go.Proofs.YtehgjenmcjgpnaaDoor
