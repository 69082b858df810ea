/- Package action: an action's numbers; how many bytes it has. -/
import Derived.Test.YtaddhahghglabaaActF
import Derived.Test.YtaddhahghglabaaActG
namespace Go.Proofs.Ytaddhahghglabaa
open Go.RowKit
set_option linter.unusedVariables false

theorem count_le12 (t : Int) : countL (rowP t) ≤ 2 ∧ countW (rowP t) = countL (rowP t) ∧ sizeW (rowP t) = sizeL (rowP t) ∧ sizeL (rowP t) ≤ 12 ∧ (rowP t).length ≤ 3 ∧ rightW (rowP t) = true := by
  unfold rowP
  cases h : row12 t with
  | none => decide
  | some w =>
    rcases row_ways h with ⟨_, rfl⟩ | ⟨_, rfl⟩ | ⟨_, rfl⟩ | ⟨_, rfl⟩ | ⟨_, rfl⟩ <;> decide
set_option maxRecDepth 100000 in
set_option maxHeartbeats 2000000 in
theorem numbers_at (T A B C F : Int) (H : Bool) (X : Int) (va : Option Addr) (vl vc : Nat) (ma : Option Addr) (ml mc : Nat) (da : Option Addr) (dl dc : Nat) (l : List Int) (a : Option Addr) (c : Nat) (k : Nat) (hk : countW l = k) (hk2 : k ≤ 2) (hl : l.length ≤ 64) (w : World) (hI : Ints .i64 w a l) :
    Calls Try.prog 24 #[.agg #[.int .i64 T, .int .u64 A, .int .u64 B, .int .i64 C, .int .i64 F, .bool H, .int .u64 X, .slice va vl vc, .slice ma ml mc, .slice da dl dc], .slice a l.length c] w fun e w' => ∃ b, e = .returned (.slice b k 2) ∧ Ints .u64 w' b ([A, B].take k) ∧ Below w.heap.size w w' := by
  obtain ⟨W, hW, hbW, hx⟩ := act_box w T A B C F H X va vl vc ma ml mc da dl dc
  have HW := hid hW
  have HB := hid hbW
  have CO := hid (fun (V : World) (hV : Below W.heap.size W V) => count_any l a c V (by omega) ((hI.below HB.out).below hV))
  rw [hk] at CO
  have hk0 : (0 : Int) ≤ k := by omega
  have hk3 : (k : Int) ≤ 2 := by omega
  clear hW hbW hI hk
  obtain ⟨d0, d1, d2, d3, d4, d5, d6, d7, d8, d9⟩ := (hx.below (below_drew8 W)).ten
  go_enter Try.func24, Try.ntmps24
  go_wp2_with fail
  rw [HW.out]
  go_region_with (first
    | (go_at_call 40; refine (CO.out _ ?_).mono ?_; (first | exact below_drew8 W | exact below_on (below_drew8 W) (below_alloc _ _) | fail); rintro e w5 ⟨rfl, rfl⟩)
    | fail)
  all_goals
    go_wp2_with fail
    go_ret
    exact ⟨_, rfl, (ints_lit .u64 _ [A, B] 22).take k, below_on HB.out (below_on (below_drew8 W) (below_alloc _ _))⟩

/-- up to a multiple of 8 -/
def up12 (n : Nat) : Nat := (n + 7) / 8 * 8
/-- its length, if it may be but for that -/
def size12 (g : Act12) : Nat := up12 (4 + sizeL (rowP g.T) + size8 g.o.C g.o.F g.o.H g.o.X g.o.v g.o.m + g.d.length)
theorem size8_le (C F : Int) (H : Bool) (X : Int) (v m : List Int) : size8 C F H X v m ≤ 212 := by
  unfold size8
  cases h : rightB C F H X v m
  · simp
  · rw [if_pos rfl]
    have ft := right_facts h
    have := ft.most
    omega
set_option maxRecDepth 100000 in
set_option maxHeartbeats 2000000 in
theorem actSize_any (g : Ent12) (w : World) (hi : ActIn w g) :
    Calls Try.prog 23 #[g.val] w fun e w' => e = .returned (.int .i64 (size12 g.act)) ∧ Below w.heap.size w w' := by
  obtain ⟨W, hW, hbW, hx⟩ := act_box w g.T g.A g.B g.o.C g.o.F g.o.H g.o.X g.va g.o.v.length g.vc g.ma g.o.m.length g.mc g.da g.d.length g.dc
  have HW := hid hW
  have HB := hid hbW
  obtain ⟨k1, k2, k3, k4, k5, k6⟩ := count_le12 g.T
  have RO := hid (rowOf_any g.T W)
  have SO := hid (fun (V : World) (hV : Below w.heap.size w V) => size8_any g.o.C g.o.F g.o.H g.o.X g.va g.vc g.ma g.mc g.o.v g.o.m hi.lv hi.lm hi.cm hi.ov hi.om V (hi.iv.below hV) (hi.im.below hV))
  have sl := size8_le g.o.C g.o.F g.o.H g.o.X g.o.v g.o.m
  have ld := hi.ld
  clear hi hW hbW
  have hq : size12 g.act = up12 (4 + sizeL (rowP g.T) + size8 g.o.C g.o.F g.o.H g.o.X g.o.v g.o.m + g.d.length) := rfl
  rw [hq]
  clear hq
  obtain ⟨T, A, B, ⟨C, F, H, X, v, m⟩, va, vc, ma, mc, d, da, dc⟩ := g
  simp only at *
  obtain ⟨n2, h2⟩ : ∃ n, size8 C F H X v m = n := ⟨_, rfl⟩
  rw [h2] at SO sl ⊢
  obtain ⟨l, hl⟩ : ∃ l, rowP T = l := ⟨_, rfl⟩
  obtain ⟨rb, hrb⟩ : ∃ b, rowB T = b := ⟨_, rfl⟩
  rw [hl] at RO k1 k2 k3 k4 k5 k6 ⊢
  rw [hrb] at RO
  obtain ⟨n1, h1⟩ : ∃ n, sizeL l = n := ⟨_, rfl⟩
  rw [h1] at k3 k4 ⊢
  have K3 := hid k3
  obtain ⟨q, hq⟩ : ∃ q, (4 + n1 + n2 + d.length + 7) / 8 = q := ⟨_, rfl⟩
  have hup : up12 (4 + n1 + n2 + d.length) = q * 8 := by unfold up12; rw [hq]
  rw [hup]
  have hqq : ((4 : Int) + n1 + n2 + d.length + 8 - 1) / 8 = (q : Int) := by omega
  have hq3 : (q : Int) ≤ 20000 := by omega
  have HQ := hid hqq
  have hq0 : (0 : Int) ≤ q := by omega
  clear h2 hl hrb h1 hq hup k1 k2 k3 k6 hqq
  unfold Ent12.val
  simp only
  obtain ⟨d0, d1, d2, d3, d4, d5, d6, d7, d8, d9⟩ := hx.ten
  go_enter Try.func23, Try.ntmps23
  go_wp2_with fail
  rw [HW.out]
  go_wp2_with fail
  refine RO.out.mono ?_
  rintro e w1 ⟨a, rfl, hI, hb⟩
  have HB1 := hid (below_on HB.out hb)
  have SZ := hid (fun (n : Wk w1) => size_any l a l.length n.val (by omega) (hI.below n.bel))
  rw [K3.out] at SZ
  clear d0 d1 d2 d3 d4 d5 d6 d7 d8 d9 hI
  obtain ⟨d0, d1, d2, d3, d4, d5, d6, d7, d8, d9⟩ := (hx.below hb).ten
  have c3 := Wk.cell d3
  have c4 := Wk.cell d4
  have c5 := Wk.cell d5
  have c6 := Wk.cell d6
  have c7 := Wk.cell d7
  have c8 := Wk.cell d8
  have c9 := Wk.cell d9
  clear d0 d1 d2 d3 d4 d5 d6 d7 d8 d9 hb
  go_upto_region 2 with fail
  refine wp_region_wk (by kernel_rfl) (by kernel_rfl) ?_
  repeat (go_big_quiet_step (first
    | (go_at_call 38; exact Wk.same (SZ.out _))
    | (go_at_call 39; exact Wk.call (SO.out _ (below_on HB1.out (Wk.bel _))))))
  refine wpQuiet_nil ?_
  rintro w4 ⟨⟨_, hb4⟩, rfl⟩
  go_wp2_with fail
  go_ret
  exact ⟨ret_int (by have := HQ.out; omega), below_on HB1.out hb4⟩
end Go.Proofs.Ytaddhahghglabaa
