/- Put together out of several texts. -/
import Derived.Test.YtdjlbejhphbcoaaGreatV12
import Derived.Test.YtdjlbejhphbcoaaGreatV11
import Derived.Test.YtdjlbejhphbcoaaGreatV22
import Derived.Sort.LotB
import Derived.Sort.LotC
import Derived.Deep.DeepCutAuto
namespace Go.Proofs.YtdjlbejhphbcoaaGreat
open Go.RowKit
set_option linter.unusedVariables false
set_option maxRecDepth 100000

def few12 (g : Ent12) : Bool := decide (g.o.v.length ≤ 300 ∧ g.o.m.length ≤ 300) && decide (g.d.length ≤ 500)
def few13 (l : List Ent12) : Bool := l.all few12 && decide (l.length ≤ 80)
theorem few13_in {w : World} {l : List Ent12} (h : few13 l = true) (ha : ∀ g ∈ l, ActArg w g) : AllIn w l ∧ l.length ≤ 80 ∧ ∀ g ∈ l, g.o.v.length ≤ 300 ∧ g.o.m.length ≤ 300 ∧ g.d.length ≤ 500 := by
  unfold few13 at h
  simp only [Bool.and_eq_true, decide_eq_true_eq, List.all_eq_true] at h
  exact ⟨fun g hg => ((ha g hg).few (h.1 g hg)).1, h.2, fun g hg => ((ha g hg).few (h.1 g hg)).2⟩
set_option maxHeartbeats 4000000 in
theorem few13_any (l : List Ent12) (a : Option Addr) (c : Nat) (w : World) (hL : Acts w a l) (hll : l.length ≤ 9223372036854775807) :
    Calls Tryz.prog 19 #[.slice a l.length c] w fun e w' => e = .returned (.bool (few13 l)) ∧ Below w.heap.size w w' := by
  obtain ⟨r, hr⟩ : ∃ r, few13 l = r := ⟨_, rfl⟩
  rw [hr]
  have HR := hid hr
  have HL := hid hL
  obtain ⟨N, hN⟩ : ∃ N, N = l.length := ⟨_, rfl⟩
  have HN := hid hN
  rw [← hN] at hll ⊢
  clear hr hL hN
  go_enter Tryz.func19, Tryz.ntmps19
  go_wp2_with fail
  go_loopg [3] N (fun kx s3 wr => ∃ (i : Nat), s3 = .int .i64 i ∧ i ≤ N ∧ N - i ≤ kx ∧ Hid ((l.take i).all few12 = true) ∧ Hid (Below w.heap.size w wr))
  case atStart => exact ⟨0, rfl, by omega, by omega, rfl, Below.refl _ _⟩
  case round =>
    obtain ⟨i, rfl, hi, hkx, hn, hb⟩ := hrel
    by_cases hlt : i < N
    · have hltz : (i : Int) < (N : Int) := by omega
      have hil : i < l.length := by have := HN.out; omega
      obtain ⟨b, off, rfl, -⟩ := HL.out i hil
      obtain ⟨c0, c1, c2, c3, c4, c5, c6, c7, c8, c9⟩ := (HL.out.below hb.out).ten i hil
      have hg : l[i]? = some l[i] := List.getElem?_eq_getElem hil
      generalize l[i] = g at c0 c1 c2 c3 c4 c5 c6 c7 c8 c9 hg
      have HF := hid (actFew_any g.T g.A g.B g.o.C g.o.F g.o.H g.o.X g.va g.o.v.length g.vc g.ma g.o.m.length g.mc g.da g.d.length g.dc wr)
      obtain ⟨f, hf⟩ : ∃ f, (decide (g.o.v.length ≤ 300 ∧ g.o.m.length ≤ 300) && decide (g.d.length ≤ 500)) = f := ⟨_, rfl⟩
      rw [hf] at HF
      have HFE : Hid (few12 g = f) := hf
      have HG := hid hg
      clear hf hg
      go_wp2_with fail
      refine HF.out.mono ?_
      rintro e w2 ⟨rfl, hb2⟩
      have HB2 := hid (below_on hb.out hb2)
      clear hb2 c0 c1 c2 c3 c4 c5 c6 c7 c8 c9
      cases f
      · have hrf : r = false := by
          rw [← HR.out]
          unfold few13
          have : l.all few12 = false := List.all_eq_false.2 ⟨g, List.mem_of_getElem? HG.out, by rw [HFE.out]; simp⟩
          rw [this]; rfl
        go_wp2_with fail
        refine bodyPost_ret (v := .bool false) (by simp [results, Tryz.results19, go_sem]) rfl ⟨by rw [hrf], HB2.out⟩
      · have hn2 : (l.take (i + 1)).all few12 = true := by
          rw [List.take_add_one, HG.out, List.all_append, hn.out]
          simp [HFE.out]
        have HN2 := hid hn2
        clear hn2
        go_wp2_with fail
        go_roundg (N - (i + 1))
        case rel => exact ⟨i + 1, by go_num, by omega, by omega, HN2.out, HB2.out⟩
        case measure => omega
    · have hge : (N : Int) ≤ (i : Int) := by omega
      have hrt : r = decide (N ≤ 80) := by
        have h := hn.out
        rw [List.take_of_length_le (by have := HN.out; omega)] at h
        rw [← HR.out, HN.out]
        unfold few13
        rw [h, Bool.true_and]
      have hre : decide ((N : Int) ≤ 80) = r := by
        rw [hrt]
        exact decide_eq_decide.2 (by omega)
      have HRE := hid hre
      clear hrt hre
      go_wp2_with fail
      exact bodyPost_ret (v := .bool (decide ((N : Int) ≤ 80))) (by simp [results, Tryz.results19, go_sem]) rfl ⟨by rw [HRE.out], hb.out⟩
end Go.Proofs.YtdjlbejhphbcoaaGreat
namespace Go.Proofs.YtdjlbejhphbcoaaGreat
open Go.RowKit Go.Sort
set_option linter.unusedVariables false
set_option maxRecDepth 100000

/-- what a step of the sort comes to: block blk has d', nothing else turned -/
structure GotU (w : World) (blk n : Nat) (d' : Array Int) (w' : World) : Prop where
  row : RowU w' blk d'
  turn : TurnU blk w w'
  size : d'.size = n
theorem GotU.below {w w1 w2 : World} {blk n : Nat} {d : Array Int} (h : GotU w blk n d w1) (k : Below w1.heap.size w1 w2) : GotU w blk n d w2 := ⟨h.row.below k, h.turn.below k, h.size⟩
theorem GotU.swp {w w1 : World} {blk n : Nat} {d : Array Int} (h : GotU w blk n d w1) {i j : Nat} (hi : i < n) (hj : j < n) {x y : Int} (hx : d[j]! = x) (hy : d[i]! = y) :
    GotU w blk n (swp d i j) ((w1.setCell ⟨blk, i, none⟩ (.int .u64 x)).setCell ⟨blk, j, none⟩ (.int .u64 y)).drew :=
  ⟨(by rw [← hx, ← hy]; exact (h.row.swp i j (by rw [h.size]; exact hi) (by rw [h.size]; exact hj)).drew), (h.turn.swp i j _ _).drew, by rw [size_swp]; exact h.size⟩
theorem GotU.cell {w w1 : World} {blk n : Nat} {d : Array Int} (h : GotU w blk n d w1) {i : Nat} (hi : i < n) {x : Int} (hx : d[i]! = x) : w1.cell? ⟨blk, i, none⟩ = some (.int .u64 x) := by rw [← hx]; exact h.row.cell (by rw [h.size]; exact hi)
theorem GotU.refl {w : World} {blk : Nat} {d : Array Int} (h : RowU w blk d) : GotU w blk d.size d w := ⟨h, TurnU.refl _ _, rfl⟩
theorem GotU.trans {w w1 w2 : World} {blk n : Nat} {d d' : Array Int} (h : GotU w blk n d w1) (k : GotU w1 blk n d' w2) : GotU w blk n d' w2 := ⟨k.row, h.turn.trans k.turn, k.size⟩
set_option maxHeartbeats 4000000 in
theorem reverseU_any (w : World) (blk cap a b n : Nat) (d : Array Int) (hH : RowU w blk d) (hn : d.size = n) (hab : a < b) (hb : b ≤ n) (hsz : n < 4611686018427387904) :
    Calls Tryz.prog 136 #[.slice (some ⟨blk, 0, none⟩) n cap, .int .i64 a, .int .i64 b] w fun e w' =>
      e = .returned (.tuple #[]) ∧ ∃ d', GotU w blk n d' w' ∧ PermIn a b d d' := by
  have HD := hid hH
  have HN := hid hn
  clear hH hn
  go_enter Tryz.func136, Tryz.ntmps136
  go_wp2_with fail
  go_loopw [6, 7] (fun vi vj wr => ∃ (i j : Nat) (dk : Array Int), vi = .int .i64 i ∧ vj = .int .i64 j ∧ a ≤ i ∧ j < b ∧ i ≤ b ∧ Hid (GotU w blk n dk wr) ∧ Hid (PermIn a b d dk)) (fun vi vj _ => (intOf vj).toNat + 1 - (intOf vi).toNat)
  case atStart => exact ⟨a, b - 1, d, rfl, by go_num, Nat.le_refl _, by omega, by omega, by rw [← HN.out]; exact GotU.refl HD.out, permIn_refl d a b⟩
  case round =>
    obtain ⟨i, j, dk, rfl, rfl, hai, hjb, hib, hG, hP⟩ := hrel
    by_cases hlt : i < j
    · have hlti : (i : Int) < (j : Int) := by omega
      have h1 : (i : Int) < (n : Int) := by omega
      have h2 : (j : Int) < (n : Int) := by omega
      have ⟨x, hx⟩ : ∃ x, dk[j]! = x := ⟨_, rfl⟩
      have ⟨y, hy⟩ : ∃ y, dk[i]! = y := ⟨_, rfl⟩
      have k1 := hG.out.cell (i := j) (by omega) hx
      have k2 := hG.out.cell (i := i) (by omega) hy
      have hf := hG.out.row.free
      have HS := hid (hG.out.swp (i := i) (j := j) (by omega) (by omega) hx hy)
      have HP2 := hid (permIn_trans dk dk dk a b (permIn_refl dk a b) (permIn_refl dk a b))
      have HPN := hid (permIn_trans d dk (swp dk i j) a b hP.out (swp_permIn dk a b i j hai (by omega) (by omega) hjb (by rw [hG.out.size]; exact hb)))
      clear hx hy
      go_upto_region 3 with fail
      go_region
      have hS := HS.out
      generalize ((wr.setCell ⟨blk, i, none⟩ (.int .u64 x)).setCell ⟨blk, j, none⟩ (.int .u64 y)).drew = w4 at hS ⊢
      have HS4 := hid hS
      clear hS k1 k2 hf
      go_wp2_with fail
      go_roundw
      case rel => exact ⟨i + 1, j - 1, swp dk i j, by go_num, by go_num, by omega, by omega, by omega, HS4.out, HPN.out⟩
      case measure => simp [intOf]; omega
    · have hge : (j : Int) ≤ (i : Int) := by omega
      go_wp2_with fail
      go_end0
      exact ⟨rfl, dk, hG.out, hP.out⟩
end Go.Proofs.YtdjlbejhphbcoaaGreat
namespace Go.Proofs.YtdjlbejhphbcoaaGreat
open Go.RowKit Go.Sort
set_option linter.unusedVariables false
set_option maxRecDepth 100000

/-- the numbers stay; the count of exchanges, in block sw, may turn -/
structure PivU (w : World) (blk : Nat) (d : Array Int) (sw : Nat) (w' : World) : Prop where
  row : RowU w' blk d
  cell : ∃ s : Int, Cell13 w' sw (.int .i64 s)
  turn : w.grownBy w' (some sw)
theorem PivU.trans {w w1 w2 : World} {blk : Nat} {d : Array Int} {sw : Nat} (h : PivU w blk d sw w1) (k : PivU w1 blk d sw w2) : PivU w blk d sw w2 := ⟨k.row, k.cell, grownBy_trans h.turn k.turn (.inl rfl)⟩
set_option maxHeartbeats 2000000 in
theorem order2U_any (w : World) (blk cap a b lo hi n sw : Nat) (d : Array Int) (hR : RowU w blk d) (hn : d.size = n) (hne : blk ≠ sw) (s : Int) (hC : Cell13 w sw (.int .i64 s)) (h1 : lo ≤ a ∧ a < hi) (h2 : lo ≤ b ∧ b < hi) (hhi : hi ≤ n) (hsz : n ≤ 1000) :
    Calls Tryz.prog 171 #[.slice (some ⟨blk, 0, none⟩) n cap, .int .i64 a, .int .i64 b, .pointer (some ⟨sw, 0, none⟩)] w fun e w' =>
      (∃ p q : Nat, e = .returned (.tuple #[.int .i64 p, .int .i64 q]) ∧ (lo ≤ p ∧ p < hi) ∧ (lo ≤ q ∧ q < hi)) ∧ PivU w blk d sw w' := by
  have HG : Hid (GotU w blk n d w) := by show GotU _ _ _ _ _; rw [← hn]; exact GotU.refl hR
  have HC := hid hC
  have HNE := hid hne
  have ⟨x, hx⟩ : ∃ x, d[b]! = x := ⟨_, rfl⟩
  have ⟨y, hy⟩ : ∃ y, d[a]! = y := ⟨_, rfl⟩
  have i1 : (a : Int) < (n : Int) := by omega
  have i2 : (b : Int) < (n : Int) := by omega
  have c1 := Wk.cell (HG.out.cell (i := b) (by omega) hx)
  have c2 := Wk.cell (HG.out.cell (i := a) (by omega) hy)
  obtain ⟨r, hr⟩ : ∃ r, ltInt x y = r := ⟨_, rfl⟩
  have HL := hid (fun w => less_at hr w)
  have H12 := hid (And.intro h1 h2)
  clear hR hn hne hC hx hy hr h1 h2
  go_enter Tryz.func171, Tryz.ntmps171
  go_upto_region 1 with fail
  refine wp_region_wk (by kernel_rfl) (by kernel_rfl) ?_
  repeat (go_big_quiet_step (first | (go_at_call 138; exact Wk.same (HL.out _)) | fail))
  refine wpQuiet_nil ?_
  rintro w3 ⟨⟨_, hb3⟩, rfl⟩
  have hC3 := HC.out.below hb3
  have HB3 := hid hb3
  have HC3 := hid hC3
  clear c1 c2 hb3
  cases r
  · clear hC3
    go_wp2_with fail
    refine bodyPost_ret (v := .tuple #[.int .i64 a, .int .i64 b]) (by simp [results, Tryz.results171, go_sem]) rfl ⟨⟨a, b, rfl, H12.out.1, H12.out.2⟩, ⟨HG.out.row.below HB3.out, ⟨s, HC3.out⟩, (below_by_none HB3.out).but _⟩⟩
  · obtain ⟨k1, k2⟩ := hC3
    have HS := hid (fun u => HC3.out.set u)
    go_wp2_with fail
    refine bodyPost_ret (v := .tuple #[.int .i64 b, .int .i64 a]) (by simp [results, Tryz.results171, go_sem]) rfl ⟨⟨b, a, rfl, H12.out.2, H12.out.1⟩, ⟨(BoxL.far (HG.out.row.below HB3.out) _ (fun e => HNE.out e.symm) : RowU _ _ _), ⟨_, HS.out _⟩, grownBy_trans ((below_by_none HB3.out).but (some sw)) (by_setCell _ _ _ _) (.inl rfl)⟩⟩
theorem PivU.self {w : World} {blk : Nat} {d : Array Int} {sw : Nat} (hR : RowU w blk d) (s : Int) (hC : Cell13 w sw (.int .i64 s)) : PivU w blk d sw w := ⟨hR, ⟨s, hC⟩, ⟨rfl, rfl, rfl, Nat.le_refl _, fun _ _ _ => rfl⟩⟩
theorem order2U_piv (w w1 : World) (blk cap a b lo hi n sw : Nat) (d : Array Int) (hP : PivU w blk d sw w1) (hn : d.size = n) (hne : blk ≠ sw) (h1 : lo ≤ a ∧ a < hi) (h2 : lo ≤ b ∧ b < hi) (hhi : hi ≤ n) (hsz : n ≤ 1000) :
    Calls Tryz.prog 171 #[.slice (some ⟨blk, 0, none⟩) n cap, .int .i64 a, .int .i64 b, .pointer (some ⟨sw, 0, none⟩)] w1 fun e w' =>
      (∃ p q : Nat, e = .returned (.tuple #[.int .i64 p, .int .i64 q]) ∧ (lo ≤ p ∧ p < hi) ∧ (lo ≤ q ∧ q < hi)) ∧ PivU w blk d sw w' := by
  obtain ⟨s, hs⟩ := hP.cell
  exact (order2U_any w1 blk cap a b lo hi n sw d hP.row hn hne s hs h1 h2 hhi hsz).mono fun e w' h => ⟨h.1, hP.trans h.2⟩
theorem medianU_any (w w0 : World) (blk cap a b c lo hi n sw : Nat) (d : Array Int) (hP : PivU w blk d sw w0) (hn : d.size = n) (hne : blk ≠ sw) (h1 : lo ≤ a ∧ a < hi) (h2 : lo ≤ b ∧ b < hi) (h3 : lo ≤ c ∧ c < hi) (hhi : hi ≤ n) (hsz : n ≤ 1000) :
    Calls Tryz.prog 163 #[.slice (some ⟨blk, 0, none⟩) n cap, .int .i64 a, .int .i64 b, .int .i64 c, .pointer (some ⟨sw, 0, none⟩)] w0 fun e w' =>
      (∃ p : Nat, e = .returned (.int .i64 p) ∧ (lo ≤ p ∧ p < hi)) ∧ PivU w blk d sw w' := by
  have HO := hid (fun (w1 : World) (a b : Nat) (h : PivU w blk d sw w1) (h1 : lo ≤ a ∧ a < hi) (h2 : lo ≤ b ∧ b < hi) => order2U_piv w w1 blk cap a b lo hi n sw d h hn hne h1 h2 hhi hsz)
  have HP := hid hP
  have H := hid (And.intro h1 (And.intro h2 h3))
  clear hP h1 h2 h3 hn hne
  go_enter Tryz.func163, Tryz.ntmps163
  go_wp2_with fail
  refine (HO.out _ a b HP.out H.out.1 H.out.2.1).mono ?_
  rintro e w1 ⟨⟨p, q, rfl, hp, hq⟩, hP1⟩
  have HP1 := hid hP1
  have H1 := hid (And.intro hp hq)
  clear hP1 hp hq
  go_wp2_with fail
  refine (HO.out _ q c HP1.out H1.out.2 H.out.2.2).mono ?_
  rintro e w2 ⟨⟨p2, q2, rfl, hp, hq⟩, hP2⟩
  have HP2 := hid hP2
  have H2 := hid (And.intro hp hq)
  clear hP2 hp hq
  go_wp2_with fail
  refine (HO.out _ p p2 HP2.out H1.out.1 H2.out.1).mono ?_
  rintro e w3 ⟨⟨p3, q3, rfl, hp, hq⟩, hP3⟩
  have HP3 := hid hP3
  have H3 := hid (And.intro hp hq)
  clear hP3 hp hq
  go_wp2_with fail
  go_ret
  exact ⟨⟨q3, rfl, H3.out.2⟩, HP3.out⟩
theorem medianAdjU_any (w w0 : World) (blk cap a lo hi n sw : Nat) (d : Array Int) (hP : PivU w blk d sw w0) (hn : d.size = n) (hne : blk ≠ sw) (h1 : lo + 1 ≤ a ∧ a + 1 < hi) (hhi : hi ≤ n) (hsz : n ≤ 1000) :
    Calls Tryz.prog 162 #[.slice (some ⟨blk, 0, none⟩) n cap, .int .i64 a, .pointer (some ⟨sw, 0, none⟩)] w0 fun e w' =>
      (∃ p : Nat, e = .returned (.int .i64 p) ∧ (lo ≤ p ∧ p < hi)) ∧ PivU w blk d sw w' := by
  obtain ⟨a1, ha1⟩ : ∃ a1, a1 = a - 1 := ⟨_, rfl⟩
  obtain ⟨a2, ha2⟩ : ∃ a2, a2 = a + 1 := ⟨_, rfl⟩
  have e1 : (a : Int) - 1 = (a1 : Int) := by omega
  have e2 : (a : Int) + 1 = (a2 : Int) := by omega
  have HM := hid (medianU_any w w0 blk cap a1 a a2 lo hi n sw d hP hn hne (by omega) (by omega) (by omega) hhi hsz)
  clear hP hn hne ha1 ha2
  go_enter Tryz.func162, Tryz.ntmps162
  go_wp2_with fail
  refine HM.out.mono ?_
  rintro e w1 ⟨⟨p, rfl, hp⟩, hP1⟩
  have HP1 := hid (And.intro hp hP1)
  clear hp hP1
  go_wp2_with fail
  go_ret
  exact ⟨⟨p, rfl, HP1.out.1⟩, HP1.out.2⟩
end Go.Proofs.YtdjlbejhphbcoaaGreat
namespace Go.Proofs.YtdjlbejhphbcoaaGreat
open Go.RowKit Go.Sort
set_option linter.unusedVariables false
set_option maxRecDepth 100000

set_option maxHeartbeats 4000000 in
theorem pivotU_any (w : World) (blk cap a b n : Nat) (d : Array Int) (hR : RowU w blk d) (hn : d.size = n) (hab : a + 12 < b) (hb : b ≤ n) (hsz : n ≤ 1000) :
    Calls Tryz.prog 135 #[.slice (some ⟨blk, 0, none⟩) n cap, .int .i64 a, .int .i64 b] w fun e w' =>
      (∃ (p : Nat) (h : Int), e = .returned (.tuple #[.int .i64 p, .int .i64 h]) ∧ a ≤ p ∧ p < b) ∧ RowU w' blk d ∧ Below w.heap.size w w' := by
  obtain ⟨W, hW⟩ : ∃ W, w.alloc (.cells #[.int .i64 0] 3) = W := ⟨_, rfl⟩
  have hC : Cell13 W w.heap.size (.int .i64 0) := by rw [← hW]; exact Cell13.new _ _ _
  have hbW : Below w.heap.size w W := by rw [← hW]; exact below_alloc _ _
  have hlt : blk < w.heap.size := BoxL.lt hR
  have hne : blk ≠ w.heap.size := by omega
  have HP0 : Hid (PivU W blk d w.heap.size W) := PivU.self (hR.below hbW) 0 hC
  have HW := hid hW
  have HB := hid hbW
  obtain ⟨l, hl⟩ : ∃ l, l = b - a := ⟨_, rfl⟩
  have hli : (b : Int) - (a : Int) = (l : Int) := by omega
  obtain ⟨q, hq⟩ : ∃ q, q = l / 4 := ⟨_, rfl⟩
  have hqi : (l : Int) / 4 = (q : Int) := by omega
  have hqt : (l : Int).tdiv 4 = (q : Int) := by rw [Int.tdiv_eq_ediv_of_nonneg (by omega)]; omega
  obtain ⟨i, hi⟩ : ∃ i, i = a + q * 1 := ⟨_, rfl⟩
  obtain ⟨j, hj⟩ : ∃ j, j = a + q * 2 := ⟨_, rfl⟩
  obtain ⟨k, hk⟩ : ∃ k, k = a + q * 3 := ⟨_, rfl⟩
  have hii : (a : Int) + (q : Int) * 1 = (i : Int) := by omega
  have hii2 : (a : Int) + (q : Int) = (i : Int) := by omega
  have hji : (a : Int) + (q : Int) * 2 = (j : Int) := by omega
  have hki : (a : Int) + (q : Int) * 3 = (k : Int) := by omega
  have hl8 : (8 : Int) ≤ (l : Int) := by omega
  have bi : a + 3 ≤ i ∧ i + 1 < b := by omega
  have bj : a + 3 ≤ j ∧ j + 1 < b := by omega
  have bk : a + 3 ≤ k ∧ k + 1 < b := by omega
  have HME := hid (fun (w1 : World) (x y z : Nat) (h : PivU W blk d w.heap.size w1) (h1 : a ≤ x ∧ x < b) (h2 : a ≤ y ∧ y < b) (h3 : a ≤ z ∧ z < b) => medianU_any W w1 blk cap x y z a b n w.heap.size d h hn hne h1 h2 h3 hb hsz)
  have HMA := hid (fun (w1 : World) (x : Nat) (h : PivU W blk d w.heap.size w1) (h1 : a + 1 ≤ x ∧ x + 1 < b) => medianAdjU_any W w1 blk cap x a b n w.heap.size d h hn hne h1 hb hsz)
  have HBI := hid (And.intro bi (And.intro bj bk))
  have q300 : (q : Int) ≤ 300 := by omega
  clear hR hn hW hC hbW hne hl hq hi hj hk bi bj bk
  go_enter Tryz.func135, Tryz.ntmps135
  go_upto_region 3 with fail
  rw [HW.out]
  go_upto_if 32 with fail
  go_cut [10, 11, 12] (fun _ t11 _ wx => ∃ p : Nat, t11 = .int .i64 p ∧ a ≤ p ∧ p < b ∧ Hid (PivU W blk d w.heap.size wx))
  case first =>
    by_cases h50 : 50 ≤ l
    · have h50i : (50 : Int) ≤ (l : Int) := by omega
      go_wp2_with fail
      refine (HMA.out _ i HP0.out (by have := HBI.out; omega)).mono ?_
      rintro e w1 ⟨⟨i1, rfl, hi1⟩, hP1⟩
      have HP1 := hid hP1
      have H1 := hid hi1
      clear hP1 hi1
      go_wp2_with fail
      refine (HMA.out _ j HP1.out (by have := HBI.out; omega)).mono ?_
      rintro e w2 ⟨⟨j1, rfl, hj1⟩, hP2⟩
      have HP2 := hid hP2
      have H2 := hid hj1
      clear hP2 hj1
      go_wp2_with fail
      refine (HMA.out _ k HP2.out (by have := HBI.out; omega)).mono ?_
      rintro e w3 ⟨⟨k1, rfl, hk1⟩, hP3⟩
      have HP3 := hid hP3
      have H3 := hid hk1
      clear hP3 hk1
      go_wp2_with fail
      refine (HME.out _ i1 j1 k1 HP3.out H1.out H2.out H3.out).mono ?_
      rintro e w4 ⟨⟨p, rfl, hp⟩, hP4⟩
      have HP4 := hid hP4
      have H4 := hid hp
      clear hP4 hp
      go_wp2_with fail
      go_meet
      exact ⟨p, rfl, H4.out.1, H4.out.2, HP4.out⟩
    · have h50i : ¬ (50 : Int) ≤ (l : Int) := by omega
      go_wp2_with fail
      refine (HME.out _ i j k HP0.out (by have := HBI.out; omega) (by have := HBI.out; omega) (by have := HBI.out; omega)).mono ?_
      rintro e w4 ⟨⟨p, rfl, hp⟩, hP4⟩
      have HP4 := hid hP4
      have H4 := hid hp
      clear hP4 hp
      go_wp2_with fail
      go_meet
      exact ⟨p, rfl, H4.out.1, H4.out.2, HP4.out⟩
  obtain ⟨p, rfl, hp1, hp2, hP⟩ := hcut
  obtain ⟨s, hs⟩ := hP.out.cell
  have HB2 : Hid (Below w.heap.size w wc) := HB.out.grown hP.out.turn HB.out.size (fun k e => by cases e; exact Nat.le_refl _)
  have HRW := hid hP.out.row
  have HPP := hid (And.intro hp1 hp2)
  obtain ⟨s1, s2⟩ := hs
  clear HP0 hP hp1 hp2
  by_cases hs0 : s = 0
  · subst hs0
    go_wp2_with fail
    refine bodyPost_ret (v := .tuple #[.int .i64 p, .int .i64 1]) (by simp [results, Tryz.results135, go_sem]) rfl ⟨⟨p, 1, rfl, HPP.out.1, HPP.out.2⟩, HRW.out, HB2.out⟩
  · have hs0b : (s == 0) = false := by simpa using hs0
    by_cases hs12 : s = 12
    · subst hs12
      go_wp2_with fail
      refine bodyPost_ret (v := .tuple #[.int .i64 p, .int .i64 2]) (by simp [results, Tryz.results135, go_sem]) rfl ⟨⟨p, 2, rfl, HPP.out.1, HPP.out.2⟩, HRW.out, HB2.out⟩
    · have hs12b : (s == 12) = false := by simpa using hs12
      go_wp2_with fail
      refine bodyPost_ret (v := .tuple #[.int .i64 p, .int .i64 0]) (by simp [results, Tryz.results135, go_sem]) rfl ⟨⟨p, 0, rfl, HPP.out.1, HPP.out.2⟩, HRW.out, HB2.out⟩
end Go.Proofs.YtdjlbejhphbcoaaGreat
namespace Go.Proofs.YtdjlbejhphbcoaaGreat
open Go.RowKit Go.Sort
set_option linter.unusedVariables false
set_option maxRecDepth 100000

theorem wrapB64 (r : BitVec 64) : IntKind.u64.wrap (r.toNat : Int) = (r.toNat : Int) := by
  have := r.isLt
  simp [IntKind.wrap, IntKind.bits, IntKind.signed]
  omega
theorem and64_le (x y : Int) (h0 : 0 ≤ y) (h1 : y < 18446744073709551616) : ∃ o : Nat, bits BinOp.and IntKind.u64 x y = (o : Int) ∧ (o : Int) ≤ y := by
  refine ⟨(BitVec.ofInt 64 x &&& BitVec.ofInt 64 y).toNat, wrapB64 _, ?_⟩
  rw [BitVec.toNat_and]
  have h := Nat.and_le_right (n := (BitVec.ofInt 64 x).toNat) (m := (BitVec.ofInt 64 y).toNat)
  have e : (BitVec.ofInt 64 y).toNat = y.toNat := by
    rw [BitVec.toNat_ofInt]
    omega
  omega
theorem len_of (d : ByteArray) (hd : d.size = 256) (ht : ∀ q : Fin 256, (d[q.val]'(by rw [hd]; exact q.isLt)).toNat ≤ 8 ∧ (0 < q.val → 2 ^ (d[q.val]'(by rw [hd]; exact q.isLt)).toNat ≤ 2 * q.val)) (p : Int) (h0 : 0 ≤ p) (h1 : p ≤ 255) (hp : p.toNat < d.size) :
    ∃ r : Nat, ((d[p.toNat]'hp).toNat : Int) = (r : Int) ∧ r ≤ 8 ∧ (0 < p → 2 ^ r ≤ 2 * p.toNat) := by
  obtain ⟨q, rfl⟩ := Int.eq_ofNat_of_zero_le h0
  have e := ht ⟨q, by omega⟩
  exact ⟨_, rfl, e.1, fun h => e.2 (by show 0 < q; omega)⟩
theorem len_ret (d : ByteArray) (hd : d.size = 256) (ht : ∀ q : Fin 256, (d[q.val]'(by rw [hd]; exact q.isLt)).toNat ≤ 8 ∧ (0 < q.val → 2 ^ (d[q.val]'(by rw [hd]; exact q.isLt)).toNat ≤ 2 * q.val)) (p : Int) (h0 : 0 ≤ p) (h1 : p ≤ 255) (hp : p.toNat < d.size) :
    ∃ r : Nat, Ending.returned (Value.int .i64 (wrap64 (wrap64 ((d[p.toNat]'hp).toNat : Int)))) = .returned (.int .i64 r) ∧ r ≤ 8 ∧ (0 < p → 2 ^ r ≤ 2 * p.toNat) := by
  obtain ⟨r, e, h8, h2⟩ := len_of d hd ht p h0 h1 hp
  refine ⟨r, ?_, h8, h2⟩
  rw [e]
  have e2 : wrap64 (wrap64 (r : Int)) = (r : Int) := by
    unfold wrap64; omega
  rw [e2]
theorem len64V_any (x : Int) (h0 : 0 ≤ x) (h1 : x ≤ 255) (w : World) : Calls Tryz.prog 142 #[.int .u64 x] w fun e w' => (∃ r : Nat, e = .returned (.int .i64 r) ∧ r ≤ 8 ∧ (0 < x → 2 ^ r ≤ 2 * x.toNat)) ∧ w = w' := by
  have g1 : ¬ (4294967296 : Int) ≤ x := by omega
  have g2 : ¬ (65536 : Int) ≤ x := by omega
  have g3 : ¬ (256 : Int) ≤ x := by omega
  have g4 : x % 256 = x := by omega
  have g5 : x.toNat < 256 := by omega
  go_enter Tryz.func142, Tryz.ntmps142
  go_wp2_with fail
  go_ret
  refine ⟨?_, rfl⟩
  show ∃ r : Nat, Ending.returned (Value.int .i64 (wrap64 (wrap64 _))) = _ ∧ _
  exact len_ret _ (by decide +kernel) (by decide +kernel) x h0 h1 _
theorem lenV_any (x : Int) (h0 : 0 ≤ x) (h1 : x ≤ 255) (w : World) : Calls Tryz.prog 109 #[.int .u64 x] w fun e w' => (∃ r : Nat, e = .returned (.int .i64 r) ∧ r ≤ 8 ∧ (0 < x → 2 ^ r ≤ 2 * x.toNat)) ∧ w = w' := by
  have H := hid (fun w => len64V_any x h0 h1 w)
  go_enter Tryz.func109, Tryz.ntmps109
  go_wp2_with fail
  refine (H.out _).mono ?_
  rintro e w1 ⟨⟨r, rfl, h8, h2⟩, rfl⟩
  have HH := hid (And.intro h8 h2)
  clear h8 h2
  go_wp2_with fail
  go_ret
  exact ⟨⟨r, rfl, HH.out.1, HH.out.2⟩, rfl⟩
theorem pow2_any (n : Nat) (h0 : 0 < n) (h1 : n ≤ 255) (w : World) : Calls Tryz.prog 160 #[.int .i64 n] w fun e w' => (∃ m : Nat, e = .returned (.int .u64 m) ∧ 0 < m ∧ m ≤ 2 * n) ∧ w = w' := by
  have H := hid (fun w => lenV_any (n : Int) (by omega) (by omega) w)
  have hn : (n : Int) ≤ 255 := by omega
  go_enter Tryz.func160, Tryz.ntmps160
  go_wp2_with fail
  refine (H.out _).mono ?_
  rintro e w1 ⟨⟨r, rfl, h8, h2⟩, rfl⟩
  have hm : 2 ^ r ≤ 2 * n := by have := h2 (by omega); simpa using this
  have HM := hid hm
  clear h2 hm H
  rcases (show r = 0 ∨ r = 1 ∨ r = 2 ∨ r = 3 ∨ r = 4 ∨ r = 5 ∨ r = 6 ∨ r = 7 ∨ r = 8 by omega) with rfl | rfl | rfl | rfl | rfl | rfl | rfl | rfl | rfl
  all_goals
    go_wp2_with fail
    go_ret
    exact ⟨⟨_, rfl, by decide, HM.out⟩, rfl⟩
theorem next_step {w w1 : World} {rb : Nat} {r : Int} (hC : Cell13 w1 rb (.int .u64 r)) (hT : TurnU rb w w1) (u : Int) :
    Cell13 (w1.setCell ⟨rb, 0, none⟩ (.int .u64 u)).drew rb (.int .u64 u) ∧ TurnU rb w (w1.setCell ⟨rb, 0, none⟩ (.int .u64 u)).drew :=
  ⟨⟨(hC.set (.int .u64 u)).c, (hC.set (.int .u64 u)).f⟩, (hT.trans (by_setCell w1 rb 0 _)).drew⟩
set_option maxHeartbeats 4000000 in
theorem nextU_any (w : World) (rb : Nat) (r : Int) (hC : Cell13 w rb (.int .u64 r)) : Calls Tryz.prog 161 #[.pointer (some ⟨rb, 0, none⟩)] w fun e w' => (∃ v : Int, e = .returned (.int .u64 v) ∧ Cell13 w' rb (.int .u64 v)) ∧ w.grownBy w' (some rb) := by
  have HC := hid (And.intro hC (TurnU.refl rb w))
  clear hC
  go_enter Tryz.func161, Tryz.ntmps161
  obtain ⟨k1, k2⟩ := HC.out.1
  go_upto_region 1 with fail
  go_region
  have HC1 := hid (next_step HC.out.1 HC.out.2)
  generalize bits BinOp.xor IntKind.u64 r (IntKind.u64.wrap (r * 8192)) = u1
  have hS := HC1.out u1
  generalize (w.setCell ⟨rb, 0, none⟩ (.int .u64 u1)).drew = w1 at hS ⊢
  have HC2 := hid hS
  clear hS HC1 k1 k2
  obtain ⟨k1, k2⟩ := HC2.out.1
  go_upto_region 2 with fail
  go_region
  have HC1 := hid (next_step HC2.out.1 HC2.out.2)
  generalize bits BinOp.xor IntKind.u64 u1 (u1 / 128) = u2
  have hS := HC1.out u2
  generalize (w1.setCell ⟨rb, 0, none⟩ (.int .u64 u2)).drew = w2 at hS ⊢
  have HC3 := hid hS
  clear hS HC1 k1 k2
  obtain ⟨k1, k2⟩ := HC3.out.1
  go_upto_region 3 with fail
  go_region
  have HC1 := hid (next_step HC3.out.1 HC3.out.2)
  generalize bits BinOp.xor IntKind.u64 u2 (IntKind.u64.wrap (u2 * 131072)) = u3
  have hS := HC1.out u3
  generalize (w2.setCell ⟨rb, 0, none⟩ (.int .u64 u3)).drew = w3 at hS ⊢
  have HC4 := hid hS
  clear hS HC1 k1 k2
  obtain ⟨k1, k2⟩ := HC4.out.1
  go_wp2_with fail
  go_ret
  exact ⟨⟨u3, rfl, HC4.out.1⟩, HC4.out.2⟩
end Go.Proofs.YtdjlbejhphbcoaaGreat
namespace Go.Proofs.YtdjlbejhphbcoaaGreat
open Go.RowKit Go.Sort
set_option linter.unusedVariables false
set_option maxRecDepth 100000

theorem scanUp_go {p : Int → Bool} {d : Array Int} {j i : Nat} (h : (decide (i ≤ j) && p d[i]!) = true) : scanUp p d j i = scanUp p d j (i + 1) := by rw [scanUp, if_pos h]
theorem scanUp_end {p : Int → Bool} {d : Array Int} {j i : Nat} (h : (decide (i ≤ j) && p d[i]!) = false) : scanUp p d j i = i := by rw [scanUp, if_neg (by rw [h]; simp)]
theorem scanDown_go {p : Int → Bool} {d : Array Int} {i j : Nat} (hj : 0 < j) (h : (decide (i ≤ j) && p d[j]!) = true) : scanDown p d i j = scanDown p d i (j - 1) := by
  obtain ⟨k, rfl⟩ : ∃ k, j = k + 1 := ⟨j - 1, by omega⟩
  rw [scanDown, if_pos h]; rfl
theorem scanDown_end {p : Int → Bool} {d : Array Int} {i j : Nat} (h : (decide (i ≤ j) && p d[j]!) = false) : scanDown p d i j = j := by
  cases j with
  | zero => rfl
  | succ k => rw [scanDown, if_neg (by rw [h]; simp)]
theorem lt_of_scans {p : Int → Bool} {d : Array Int} {i j j0 : Nat} (h1 : (decide (i ≤ j0) && p d[i]!) = false) (h2 : (decide (i ≤ j) && (!p d[j]!)) = false) (hj : j ≤ j0) (hij : i ≤ j) : i < j := by
  rcases Nat.lt_or_ge i j with h | h
  · exact h
  · exfalso
    obtain rfl : i = j := by omega
    rw [decide_eq_true hj, Bool.true_and] at h1
    rw [decide_eq_true (Nat.le_refl i), Bool.true_and, h1] at h2
    cases h2
theorem GotU.cell2 {w w1 : World} {blk n : Nat} {d : Array Int} (h : GotU w blk n d w1) {i j : Nat} (hi : i < n) (hj : j < n) {x : Int} (hx : d[j]! = x) : (w1.setCell ⟨blk, i, none⟩ (.int .u64 x)).cell? ⟨blk, j, none⟩ = some (.int .u64 x) := by
  by_cases e : i = j
  · subst e; exact World.cell?_setCell_same _ _ _ (h.cell hi rfl)
  · exact (World.cell?_setCell_other _ _ _ _ (by intro e2; injection e2 with _ e3; omega)).trans (h.cell hj hx)
set_option maxHeartbeats 8000000 in
theorem partU_any (w : World) (blk cap a b pivot n : Nat) (d : Array Int) (hH : RowU w blk d) (hn : d.size = n) (hap : a ≤ pivot) (hpb : pivot < b) (h2 : a + 1 < b) (hb : b ≤ n) (hsz : n ≤ 1000) :
    Calls Tryz.prog 140 #[.slice (some ⟨blk, 0, none⟩) n cap, .int .i64 a, .int .i64 b, .int .i64 pivot] w fun e w' =>
      (∃ q, e = .returned (.tuple #[.int .i64 ((partition ltInt d a b pivot).1 : Nat), .bool q])) ∧ GotU w blk n (partition ltInt d a b pivot).2.2 w' := by
  have HG0 : Hid (GotU w blk n d w) := by show GotU _ _ _ _ _; rw [← hn]; exact GotU.refl hH
  have HN := hid hn
  clear hH hn
  go_enter Tryz.func140, Tryz.ntmps140
  have ⟨x, hx⟩ : ∃ x, d[pivot]! = x := ⟨_, rfl⟩
  have ⟨y, hy⟩ : ∃ y, d[a]! = y := ⟨_, rfl⟩
  have k1 := HG0.out.cell (i := pivot) (by omega) hx
  have k2 := HG0.out.cell (i := a) (by omega) hy
  have k3 := HG0.out.cell2 (i := a) (j := pivot) (by omega) (by omega) hx
  have hf := HG0.out.row.free
  have s1 : (a : Int) < (n : Int) := by omega
  have s2 : (pivot : Int) < (n : Int) := by omega
  have HS := hid (HG0.out.swp (i := a) (j := pivot) (by omega) (by omega) hx hy)
  clear hx hy
  go_upto_region 1 with fail
  go_region
  have hS := HS.out
  generalize ((w.setCell ⟨blk, a, none⟩ (.int .u64 x)).setCell ⟨blk, pivot, none⟩ (.int .u64 y)).drew = w1 at hS ⊢
  have HG1 := hid hS
  clear hS k1 k2 k3 hf s1 s2
  obtain ⟨d1, hd1⟩ : ∃ d1, d1 = swp d a pivot := ⟨_, rfl⟩
  rw [← hd1] at HG1
  have HD1 := hid hd1
  clear hd1
  obtain ⟨i0, hi0⟩ : ∃ i0, i0 = a + 1 := ⟨_, rfl⟩
  obtain ⟨j0, hj0⟩ : ∃ j0, j0 = b - 1 := ⟨_, rfl⟩
  have hi0i : (a : Int) + 1 = (i0 : Int) := by omega
  have hj0i : (b : Int) - 1 = (j0 : Int) := by omega
  have hij0 : i0 ≤ j0 + 1 := by omega
  have hai0 : a < i0 := by omega
  have hjb0 : j0 < b := by omega
  have HIJ := hid (And.intro hi0 hj0)
  clear hi0 hj0
  have HG := hid HG1.out
  go_wp2_with fail
  go_loopw [10] (fun v wx => ∃ (k : Nat), v = .int .i64 k ∧ i0 ≤ k ∧ k ≤ j0 + 1 ∧ Hid (GotU w blk n d1 wx) ∧ Hid (scanUp (fun x => ltInt x d1[a]!) d1 j0 k = scanUp (fun x => ltInt x d1[a]!) d1 j0 i0)) (fun v _ => j0 + 2 - (intOf v).toNat)
  case atStart => exact ⟨i0, by first | rfl | go_num, by omega, by omega, HG.out, rfl⟩
  case round =>
    clear HG
    obtain ⟨k, rfl, hk1, hk2, HG, HEQ⟩ := hrel
    go_upto_region 3 with fail
    go_cut [43] (fun t wx => ∃ q, t = .bool q ∧ Hid ((decide (k ≤ j0) && (fun x => ltInt x d1[a]!) d1[k]!) = q) ∧ Hid (Below wr.heap.size wr wx))
    case first =>
      by_cases hg : k ≤ j0
      · have hd : decide ((k : Int) ≤ (j0 : Int)) = true := decide_eq_true (by omega)
        have hdn : decide (k ≤ j0) = true := decide_eq_true hg
        have ⟨x, hx⟩ : ∃ x, d1[k]! = x := ⟨_, rfl⟩
        have ⟨y, hy⟩ : ∃ y, d1[a]! = y := ⟨_, rfl⟩
        have bd1 : (k : Int) < (n : Int) := by omega
        have bd2 : (a : Int) < (n : Int) := by omega
        have c1 := Wk.cell (HG.out.cell (i := k) (by omega) hx)
        have c2 := Wk.cell (HG.out.cell (i := a) (by omega) hy)
        obtain ⟨r, hr⟩ : ∃ r, ltInt x y = r := ⟨_, rfl⟩
        have HL := hid (fun w => less_at hr w)
        have HRR : Hid ((decide (k ≤ j0) && (fun x => ltInt x d1[a]!) d1[k]!) = r) := by
          show _ = _
          rw [hdn]
          simp only [Bool.true_and]
          rw [hx, hy, hr]
        clear hx hy hr
        refine wp_region_wk (by kernel_rfl) (by kernel_rfl) ?_
        repeat (go_big_quiet_step (first | (go_at_call 138; exact Wk.same (HL.out _)) | fail))
        refine wpQuiet_nil ?_
        rintro w3 ⟨⟨_, hb3⟩, rfl⟩
        go_wp2_with fail
        go_meet
        exact ⟨r, rfl, HRR.out, hb3⟩
      · have hd : decide ((k : Int) ≤ (j0 : Int)) = false := decide_eq_false (by omega)
        have HRR : Hid ((decide (k ≤ j0) && (fun x => ltInt x d1[a]!) d1[k]!) = false) := by
          show _ = _
          rw [decide_eq_false hg]; rfl
        refine wp_region_wk (by kernel_rfl) (by kernel_rfl) ?_
        repeat (go_big_quiet_step (fail))
        refine wpQuiet_nil ?_
        rintro w3 ⟨⟨_, hb3⟩, rfl⟩
        go_wp2_with fail
        go_meet
        exact ⟨false, rfl, HRR.out, hb3⟩
    obtain ⟨q, rfl, hqq, hbc⟩ := hcut
    have HG := hid (HG.out.below hbc.out)
    cases q
    case true =>
      have hkk : k ≤ j0 := by have h := hqq.out; simp only [Bool.and_eq_true, decide_eq_true_eq] at h; exact h.1
      have HEQ2 := hid ((scanUp_go hqq.out).symm.trans HEQ.out)
      go_wp2_with fail
      go_roundw
      case rel => exact ⟨k + 1, by go_num, by omega, by omega, HG.out, HEQ2.out⟩
      case measure => first | (simp [intOf]; done) | (simp [intOf]; omega)
    have HU := hid (HEQ.out.symm.trans (scanUp_end hqq.out))
    obtain ⟨i1, rfl⟩ : ∃ i1, i1 = k := ⟨_, rfl⟩
    have HQ1 := hid hqq.out
    clear HEQ hqq hbc
    go_wp2_with fail
    go_loopw [11] (fun v wx => ∃ (m : Nat), v = .int .i64 m ∧ m ≤ j0 ∧ i1 ≤ m + 1 ∧ Hid (GotU w blk n d1 wx) ∧ Hid (scanDown (fun x => !ltInt x d1[a]!) d1 i1 m = scanDown (fun x => !ltInt x d1[a]!) d1 i1 j0)) (fun v _ => (intOf v).toNat)
    case atStart => exact ⟨j0, by first | rfl | go_num, by omega, by omega, HG.out, rfl⟩
    case round =>
      clear HG
      obtain ⟨m, rfl, hk1, hk2, HG, HEQ⟩ := hrel
      go_upto_region 5 with fail
      go_cut [60] (fun t wx => ∃ q, t = .bool q ∧ Hid ((decide (i1 ≤ m) && (fun x => !ltInt x d1[a]!) d1[m]!) = q) ∧ Hid (Below wr.heap.size wr wx))
      case first =>
        by_cases hg : i1 ≤ m
        · have hd : decide ((i1 : Int) ≤ (m : Int)) = true := decide_eq_true (by omega)
          have hdn : decide (i1 ≤ m) = true := decide_eq_true hg
          have ⟨x, hx⟩ : ∃ x, d1[m]! = x := ⟨_, rfl⟩
          have ⟨y, hy⟩ : ∃ y, d1[a]! = y := ⟨_, rfl⟩
          have bd1 : (m : Int) < (n : Int) := by omega
          have bd2 : (a : Int) < (n : Int) := by omega
          have c1 := Wk.cell (HG.out.cell (i := m) (by omega) hx)
          have c2 := Wk.cell (HG.out.cell (i := a) (by omega) hy)
          obtain ⟨r, hr⟩ : ∃ r, ltInt x y = r := ⟨_, rfl⟩
          have HL := hid (fun w => less_at hr w)
          have HRR : Hid ((decide (i1 ≤ m) && (fun x => !ltInt x d1[a]!) d1[m]!) = (!r)) := by
            show _ = _
            rw [hdn]
            simp only [Bool.true_and]
            rw [hx, hy, hr]
          clear hx hy hr
          refine wp_region_wk (by kernel_rfl) (by kernel_rfl) ?_
          repeat (go_big_quiet_step (first | (go_at_call 138; exact Wk.same (HL.out _)) | fail))
          refine wpQuiet_nil ?_
          rintro w3 ⟨⟨_, hb3⟩, rfl⟩
          go_wp2_with fail
          go_meet
          exact ⟨(!r), rfl, HRR.out, hb3⟩
        · have hd : decide ((i1 : Int) ≤ (m : Int)) = false := decide_eq_false (by omega)
          have HRR : Hid ((decide (i1 ≤ m) && (fun x => !ltInt x d1[a]!) d1[m]!) = false) := by
            show _ = _
            rw [decide_eq_false hg]; rfl
          refine wp_region_wk (by kernel_rfl) (by kernel_rfl) ?_
          repeat (go_big_quiet_step (fail))
          refine wpQuiet_nil ?_
          rintro w3 ⟨⟨_, hb3⟩, rfl⟩
          go_wp2_with fail
          go_meet
          exact ⟨false, rfl, HRR.out, hb3⟩
      obtain ⟨q, rfl, hqq, hbc⟩ := hcut
      have HG := hid (HG.out.below hbc.out)
      cases q
      case true =>
        have hkk : i1 ≤ m := by have h := hqq.out; simp only [Bool.and_eq_true, decide_eq_true_eq] at h; exact h.1
        have HEQ2 := hid ((scanDown_go (by omega) hqq.out).symm.trans HEQ.out)
        go_wp2_with fail
        go_roundw
        case rel => exact ⟨m - 1, by go_num, by omega, by omega, HG.out, HEQ2.out⟩
        case measure => first | (simp [intOf]; done) | (simp [intOf]; omega)
      have HV := hid (HEQ.out.symm.trans (scanDown_end hqq.out))
      obtain ⟨j1, rfl⟩ : ∃ j1, j1 = m := ⟨_, rfl⟩
      have HQ2 := hid hqq.out
      clear HEQ hqq hbc
      have HPL := hid (partLoop_eq ltInt a i0 j0 d1)
      by_cases hgt : j1 < i1
      · have hgti : (j1 : Int) < (i1 : Int) := by omega
        have HRES : Hid ((partition ltInt d a b pivot).1 = j1 ∧ (partition ltInt d a b pivot).2.2 = swp d1 j1 a) := by
          have h := HPL.out
          rw [HU.out, HV.out, if_pos hgt] at h
          show _ ∧ _
          rw [partition_fst, partition_arr, ← HD1.out, ← HIJ.out.1, ← HIJ.out.2, h]
          exact ⟨rfl, rfl⟩
        have ⟨x, hx⟩ : ∃ x, d1[a]! = x := ⟨_, rfl⟩
        have ⟨y, hy⟩ : ∃ y, d1[j1]! = y := ⟨_, rfl⟩
        have k1 := HG.out.cell (i := a) (by omega) hx
        have k2 := HG.out.cell (i := j1) (by omega) hy
        have k3 := HG.out.cell2 (i := j1) (j := a) (by omega) (by omega) hx
        have hf := HG.out.row.free
        have s1 : (j1 : Int) < (n : Int) := by omega
        have s2 : (a : Int) < (n : Int) := by omega
        have HS := hid (HG.out.swp (i := j1) (j := a) (by omega) (by omega) hx hy)
        clear hx hy
        go_upto_region 8 with fail
        go_region
        have hS := HS.out
        generalize ((wc.setCell ⟨blk, j1, none⟩ (.int .u64 x)).setCell ⟨blk, a, none⟩ (.int .u64 y)).drew = w2 at hS ⊢
        have HG2 := hid hS
        clear hS k1 k2 k3 hf s1 s2
        go_wp2_with fail
        refine bodyPost_ret (v := .tuple #[.int .i64 j1, .bool true]) (by simp [results, Tryz.results140, go_sem]) rfl ⟨.inr (by rw [HRES.out.1]), by rw [HRES.out.2]; exact HG2.out⟩
      · have hgti : ¬ (j1 : Int) < (i1 : Int) := by omega
        have hlt12 : i1 < j1 := lt_of_scans (p := fun x => ltInt x d1[a]!) HQ1.out HQ2.out (by omega) (by omega)
        have HRES : Hid (partLoop ltInt a i0 j0 d1 = partLoop ltInt a (i1 + 1) (j1 - 1) (swp d1 i1 j1)) := by
          have h := HPL.out
          rw [HU.out, HV.out, if_neg (by omega)] at h
          exact h
        have ⟨x, hx⟩ : ∃ x, d1[j1]! = x := ⟨_, rfl⟩
        have ⟨y, hy⟩ : ∃ y, d1[i1]! = y := ⟨_, rfl⟩
        have k1 := HG.out.cell (i := j1) (by omega) hx
        have k2 := HG.out.cell (i := i1) (by omega) hy
        have k3 := HG.out.cell2 (i := i1) (j := j1) (by omega) (by omega) hx
        have hf := HG.out.row.free
        have s1 : (i1 : Int) < (n : Int) := by omega
        have s2 : (j1 : Int) < (n : Int) := by omega
        have HS := hid (HG.out.swp (i := i1) (j := j1) (by omega) (by omega) hx hy)
        clear hx hy
        go_upto_region 10 with fail
        go_region
        have hS := HS.out
        generalize ((wc.setCell ⟨blk, i1, none⟩ (.int .u64 x)).setCell ⟨blk, j1, none⟩ (.int .u64 y)).drew = w2 at hS ⊢
        have HG2 := hid hS
        clear hS k1 k2 k3 hf s1 s2
        go_wp2_with fail
        obtain ⟨i2, hi2⟩ : ∃ i2, i2 = i1 + 1 := ⟨_, rfl⟩
        obtain ⟨j2, hj2⟩ : ∃ j2, j2 = j1 - 1 := ⟨_, rfl⟩
        have b1 : a < i2 := by omega
        have b2 : i2 ≤ j2 + 1 := by omega
        have b3 : j2 < b := by omega
        have e0 : 1 ≤ j1 := by clear hi2 hj2; omega
        have e1 : (i1 : Int) + 1 = (i2 : Int) := by omega
        have e2 : (j1 : Int) - 1 = (j2 : Int) := by omega
        obtain ⟨d2, hd2⟩ : ∃ d2, d2 = swp d1 i1 j1 := ⟨_, rfl⟩
        rw [← hi2, ← hj2, ← hd2] at HRES
        rw [← hd2] at HG2
        clear hi2 hj2 hd2
        go_loopw [10, 11] (fun vi vj wr => ∃ (i j : Nat) (dk : Array Int), vi = .int .i64 i ∧ vj = .int .i64 j ∧ a < i ∧ i ≤ j + 1 ∧ j < b ∧ Hid (GotU w blk n dk wr) ∧ Hid (partLoop ltInt a i j dk = partLoop ltInt a i0 j0 d1)) (fun vi vj _ => (intOf vj).toNat + 2 - (intOf vi).toNat)
        case atStart => exact ⟨i2, j2, d2, by first | rfl | go_num, by first | rfl | go_num, b1, b2, b3, HG2.out, HRES.out.symm⟩
        case round =>
          clear HG HG2 HRES HU HV b1 b2 b3 e1 e2 HPL
          obtain ⟨i, j, dk, rfl, rfl, hai, hij, hjb, HG, HP⟩ := hrel
          have HPL := hid (partLoop_eq ltInt a i j dk)
          go_wp2_with fail
          go_loopw [10] (fun v wx => ∃ (k : Nat), v = .int .i64 k ∧ i ≤ k ∧ k ≤ j + 1 ∧ Hid (GotU w blk n dk wx) ∧ Hid (scanUp (fun x => ltInt x dk[a]!) dk j k = scanUp (fun x => ltInt x dk[a]!) dk j i)) (fun v _ => j + 2 - (intOf v).toNat)
          case atStart => exact ⟨i, by first | rfl | go_num, by omega, by omega, HG.out, rfl⟩
          case round =>
            clear HG
            obtain ⟨k, rfl, hk1, hk2, HG, HEQ⟩ := hrel
            go_upto_region 13 with fail
            go_cut [112] (fun t wx => ∃ q, t = .bool q ∧ Hid ((decide (k ≤ j) && (fun x => ltInt x dk[a]!) dk[k]!) = q) ∧ Hid (Below wr.heap.size wr wx))
            case first =>
              by_cases hg : k ≤ j
              · have hd : decide ((k : Int) ≤ (j : Int)) = true := decide_eq_true (by omega)
                have hdn : decide (k ≤ j) = true := decide_eq_true hg
                have ⟨x, hx⟩ : ∃ x, dk[k]! = x := ⟨_, rfl⟩
                have ⟨y, hy⟩ : ∃ y, dk[a]! = y := ⟨_, rfl⟩
                have bd1 : (k : Int) < (n : Int) := by omega
                have bd2 : (a : Int) < (n : Int) := by omega
                have c1 := Wk.cell (HG.out.cell (i := k) (by omega) hx)
                have c2 := Wk.cell (HG.out.cell (i := a) (by omega) hy)
                obtain ⟨r, hr⟩ : ∃ r, ltInt x y = r := ⟨_, rfl⟩
                have HL := hid (fun w => less_at hr w)
                have HRR : Hid ((decide (k ≤ j) && (fun x => ltInt x dk[a]!) dk[k]!) = r) := by
                  show _ = _
                  rw [hdn]
                  simp only [Bool.true_and]
                  rw [hx, hy, hr]
                clear hx hy hr
                refine wp_region_wk (by kernel_rfl) (by kernel_rfl) ?_
                repeat (go_big_quiet_step (first | (go_at_call 138; exact Wk.same (HL.out _)) | fail))
                refine wpQuiet_nil ?_
                rintro w3 ⟨⟨_, hb3⟩, rfl⟩
                go_wp2_with fail
                go_meet
                exact ⟨r, rfl, HRR.out, hb3⟩
              · have hd : decide ((k : Int) ≤ (j : Int)) = false := decide_eq_false (by omega)
                have HRR : Hid ((decide (k ≤ j) && (fun x => ltInt x dk[a]!) dk[k]!) = false) := by
                  show _ = _
                  rw [decide_eq_false hg]; rfl
                refine wp_region_wk (by kernel_rfl) (by kernel_rfl) ?_
                repeat (go_big_quiet_step (fail))
                refine wpQuiet_nil ?_
                rintro w3 ⟨⟨_, hb3⟩, rfl⟩
                go_wp2_with fail
                go_meet
                exact ⟨false, rfl, HRR.out, hb3⟩
            obtain ⟨q, rfl, hqq, hbc⟩ := hcut
            have HG := hid (HG.out.below hbc.out)
            cases q
            case true =>
              have hkk : k ≤ j := by have h := hqq.out; simp only [Bool.and_eq_true, decide_eq_true_eq] at h; exact h.1
              have HEQ2 := hid ((scanUp_go hqq.out).symm.trans HEQ.out)
              go_wp2_with fail
              go_roundw
              case rel => exact ⟨k + 1, by go_num, by omega, by omega, HG.out, HEQ2.out⟩
              case measure => first | (simp [intOf]; done) | (simp [intOf]; omega)
            have HU := hid (HEQ.out.symm.trans (scanUp_end hqq.out))
            obtain ⟨i3, rfl⟩ : ∃ i3, i3 = k := ⟨_, rfl⟩
            have HQ3 := hid hqq.out
            clear HEQ hqq hbc
            go_wp2_with fail
            go_loopw [11] (fun v wx => ∃ (m : Nat), v = .int .i64 m ∧ m ≤ j ∧ i3 ≤ m + 1 ∧ Hid (GotU w blk n dk wx) ∧ Hid (scanDown (fun x => !ltInt x dk[a]!) dk i3 m = scanDown (fun x => !ltInt x dk[a]!) dk i3 j)) (fun v _ => (intOf v).toNat)
            case atStart => exact ⟨j, by first | rfl | go_num, by omega, by omega, HG.out, rfl⟩
            case round =>
              clear HG
              obtain ⟨m, rfl, hk1, hk2, HG, HEQ⟩ := hrel
              go_upto_region 15 with fail
              go_cut [129] (fun t wx => ∃ q, t = .bool q ∧ Hid ((decide (i3 ≤ m) && (fun x => !ltInt x dk[a]!) dk[m]!) = q) ∧ Hid (Below wr.heap.size wr wx))
              case first =>
                by_cases hg : i3 ≤ m
                · have hd : decide ((i3 : Int) ≤ (m : Int)) = true := decide_eq_true (by omega)
                  have hdn : decide (i3 ≤ m) = true := decide_eq_true hg
                  have ⟨x, hx⟩ : ∃ x, dk[m]! = x := ⟨_, rfl⟩
                  have ⟨y, hy⟩ : ∃ y, dk[a]! = y := ⟨_, rfl⟩
                  have bd1 : (m : Int) < (n : Int) := by omega
                  have bd2 : (a : Int) < (n : Int) := by omega
                  have c1 := Wk.cell (HG.out.cell (i := m) (by omega) hx)
                  have c2 := Wk.cell (HG.out.cell (i := a) (by omega) hy)
                  obtain ⟨r, hr⟩ : ∃ r, ltInt x y = r := ⟨_, rfl⟩
                  have HL := hid (fun w => less_at hr w)
                  have HRR : Hid ((decide (i3 ≤ m) && (fun x => !ltInt x dk[a]!) dk[m]!) = (!r)) := by
                    show _ = _
                    rw [hdn]
                    simp only [Bool.true_and]
                    rw [hx, hy, hr]
                  clear hx hy hr
                  refine wp_region_wk (by kernel_rfl) (by kernel_rfl) ?_
                  repeat (go_big_quiet_step (first | (go_at_call 138; exact Wk.same (HL.out _)) | fail))
                  refine wpQuiet_nil ?_
                  rintro w3 ⟨⟨_, hb3⟩, rfl⟩
                  go_wp2_with fail
                  go_meet
                  exact ⟨(!r), rfl, HRR.out, hb3⟩
                · have hd : decide ((i3 : Int) ≤ (m : Int)) = false := decide_eq_false (by omega)
                  have HRR : Hid ((decide (i3 ≤ m) && (fun x => !ltInt x dk[a]!) dk[m]!) = false) := by
                    show _ = _
                    rw [decide_eq_false hg]; rfl
                  refine wp_region_wk (by kernel_rfl) (by kernel_rfl) ?_
                  repeat (go_big_quiet_step (fail))
                  refine wpQuiet_nil ?_
                  rintro w3 ⟨⟨_, hb3⟩, rfl⟩
                  go_wp2_with fail
                  go_meet
                  exact ⟨false, rfl, HRR.out, hb3⟩
              obtain ⟨q, rfl, hqq, hbc⟩ := hcut
              have HG := hid (HG.out.below hbc.out)
              cases q
              case true =>
                have hkk : i3 ≤ m := by have h := hqq.out; simp only [Bool.and_eq_true, decide_eq_true_eq] at h; exact h.1
                have HEQ2 := hid ((scanDown_go (by omega) hqq.out).symm.trans HEQ.out)
                go_wp2_with fail
                go_roundw
                case rel => exact ⟨m - 1, by go_num, by omega, by omega, HG.out, HEQ2.out⟩
                case measure => first | (simp [intOf]; done) | (simp [intOf]; omega)
              have HV := hid (HEQ.out.symm.trans (scanDown_end hqq.out))
              obtain ⟨j3, rfl⟩ : ∃ j3, j3 = m := ⟨_, rfl⟩
              have HQ4 := hid hqq.out
              clear HEQ hqq hbc
              by_cases hgt : j3 < i3
              · have hgti : (j3 : Int) < (i3 : Int) := by omega
                have HRES : Hid ((partition ltInt d a b pivot).1 = j3 ∧ (partition ltInt d a b pivot).2.2 = swp dk j3 a) := by
                  have h := HPL.out
                  rw [HU.out, HV.out, if_pos hgt] at h
                  show _ ∧ _
                  rw [partition_fst, partition_arr, ← HD1.out, ← HIJ.out.1, ← HIJ.out.2, ← HP.out, h]
                  exact ⟨rfl, rfl⟩
                have ⟨x, hx⟩ : ∃ x, dk[a]! = x := ⟨_, rfl⟩
                have ⟨y, hy⟩ : ∃ y, dk[j3]! = y := ⟨_, rfl⟩
                have k1 := HG.out.cell (i := a) (by omega) hx
                have k2 := HG.out.cell (i := j3) (by omega) hy
                have k3 := HG.out.cell2 (i := j3) (j := a) (by omega) (by omega) hx
                have hf := HG.out.row.free
                have s1 : (j3 : Int) < (n : Int) := by omega
                have s2 : (a : Int) < (n : Int) := by omega
                have HS := hid (HG.out.swp (i := j3) (j := a) (by omega) (by omega) hx hy)
                clear hx hy
                go_upto_region 21 with fail
                go_region
                have hS := HS.out
                generalize ((wc.setCell ⟨blk, j3, none⟩ (.int .u64 x)).setCell ⟨blk, a, none⟩ (.int .u64 y)).drew = w3 at hS ⊢
                have HG3 := hid hS
                clear hS k1 k2 k3 hf s1 s2
                go_wp2_with fail
                refine bodyPost_ret (v := .tuple #[.int .i64 j3, .bool false]) (by simp [results, Tryz.results140, go_sem]) rfl ⟨.inl (by rw [HRES.out.1]), by rw [HRES.out.2]; exact HG3.out⟩
              · have hgti : ¬ (j3 : Int) < (i3 : Int) := by omega
                have hlt34 : i3 < j3 := lt_of_scans (p := fun x => ltInt x dk[a]!) HQ3.out HQ4.out (by omega) (by omega)
                have HRES : Hid (partLoop ltInt a (i3 + 1) (j3 - 1) (swp dk i3 j3) = partLoop ltInt a i0 j0 d1) := by
                  have h := HPL.out
                  rw [HU.out, HV.out, if_neg (by omega)] at h
                  show _ = _
                  rw [← h]; exact HP.out
                have ⟨x, hx⟩ : ∃ x, dk[j3]! = x := ⟨_, rfl⟩
                have ⟨y, hy⟩ : ∃ y, dk[i3]! = y := ⟨_, rfl⟩
                have k1 := HG.out.cell (i := j3) (by omega) hx
                have k2 := HG.out.cell (i := i3) (by omega) hy
                have k3 := HG.out.cell2 (i := i3) (j := j3) (by omega) (by omega) hx
                have hf := HG.out.row.free
                have s1 : (i3 : Int) < (n : Int) := by omega
                have s2 : (j3 : Int) < (n : Int) := by omega
                have HS := hid (HG.out.swp (i := i3) (j := j3) (by omega) (by omega) hx hy)
                clear hx hy
                go_upto_region 18 with fail
                go_region
                have hS := HS.out
                generalize ((wc.setCell ⟨blk, i3, none⟩ (.int .u64 x)).setCell ⟨blk, j3, none⟩ (.int .u64 y)).drew = w3 at hS ⊢
                have HG3 := hid hS
                clear hS k1 k2 k3 hf s1 s2
                go_wp2_with fail
                go_roundw
                case rel => exact ⟨i3 + 1, j3 - 1, swp dk i3 j3, by go_num, by go_num, by omega, by omega, by omega, HG3.out, HRES.out⟩
                case measure => first | (simp [intOf]; done) | (simp [intOf]; omega)
end Go.Proofs.YtdjlbejhphbcoaaGreat
namespace Go.Proofs.YtdjlbejhphbcoaaGreat
open Go.RowKit Go.Sort
set_option linter.unusedVariables false
set_option maxRecDepth 100000

theorem wrapO {o m : Nat} (h : (o : Int) ≤ (m : Int)) (hm : (m : Int) ≤ 600) : wrap64 (o : Int) = (o : Int) := by unfold wrap64; omega
theorem ltO {o m l : Nat} (h : (o : Int) ≤ (m : Int)) (hm : m < 2 * l) : o < 2 * l := by omega
set_option maxHeartbeats 8000000 in
theorem breakU_any (w : World) (blk cap a b n : Nat) (d : Array Int) (hR : RowU w blk d) (hn : d.size = n) (hab : a + 8 ≤ b) (hb : b ≤ n) (hsz : n ≤ 255) :
    Calls Tryz.prog 134 #[.slice (some ⟨blk, 0, none⟩) n cap, .int .i64 a, .int .i64 b] w fun e w' =>
      e = .returned (.tuple #[]) ∧ ∃ d', GotU w blk n d' w' ∧ PermIn a b d d' := by
  obtain ⟨l, hl⟩ : ∃ l, l = b - a := ⟨_, rfl⟩
  have hli : (b : Int) - (a : Int) = (l : Int) := by omega
  have hl8 : (8 : Int) ≤ (l : Int) := by omega
  have hl255 : (l : Int) ≤ 255 := by omega
  have ha255 : (a : Int) ≤ 255 := by omega
  obtain ⟨q, hq⟩ : ∃ q, q = l / 4 := ⟨_, rfl⟩
  have hqi : (l : Int) / 4 = (q : Int) := by omega
  have hqt : (l : Int).tdiv 4 = (q : Int) := by rw [Int.tdiv_eq_ediv_of_nonneg (by omega)]; omega
  obtain ⟨m, hm⟩ : ∃ m, m = a + q * 2 := ⟨_, rfl⟩
  have hmi : (a : Int) + (q : Int) * 2 = (m : Int) := by omega
  have bm : a + 4 ≤ m ∧ m + 1 < b := by omega
  obtain ⟨W, hW⟩ : ∃ W, w.alloc (.cells #[.int .u64 l] 179) = W := ⟨_, rfl⟩
  have hC : Cell13 W w.heap.size (.int .u64 l) := by rw [← hW]; exact Cell13.new _ _ _
  have hbW : Below w.heap.size w W := by rw [← hW]; exact below_alloc _ _
  have hlt : blk < w.heap.size := BoxL.lt hR
  have HG0 : Hid (GotU w blk n d W) := by show GotU _ _ _ _ _; rw [← hn]; exact (GotU.refl hR).below hbW
  have HW := hid hW
  have HP := hid (fun w => pow2_any l (by omega) (by omega) w)
  have HBM := hid bm
  have HX := hid (And.intro hl (And.intro hb hlt))
  clear hR hn hW hbW hl hq hm bm
  go_enter Tryz.func134, Tryz.ntmps134
  go_upto_region 3 with fail
  rw [HW.out]
  go_wp2_with fail
  refine (HP.out _).mono ?_
  rintro e w1 ⟨⟨pw, rfl, hp0, hp2⟩, rfl⟩
  have pw0 : (0 : Int) < (pw : Int) := by omega
  have pw600 : (pw : Int) ≤ 600 := by omega
  have HP2 := hid hp2
  clear hp0 hp2
  go_wp2_with fail
  go_loopw [9] (fun v wr => ∃ (k : Nat) (dk : Array Int), v = .int .i64 k ∧ m - 1 ≤ k ∧ k ≤ m + 2 ∧ Hid (GotU w blk n dk wr) ∧ Hid (PermIn a b d dk) ∧ Hid (∃ r, Cell13 wr w.heap.size (.int .u64 r))) (fun v _ => m + 3 - (intOf v).toNat)
  case atStart => exact ⟨m - 1, d, by first | rfl | (have := HBM.out; go_num), by omega, by omega, HG0.out, permIn_refl d a b, ⟨_, hC⟩⟩
  case round =>
    obtain ⟨k, dk, rfl, hk1, hk2, hG, hPm, hCr⟩ := hrel
    by_cases hk : k ≤ m + 1
    · have hki : (k : Int) ≤ (m : Int) + 1 := by omega
      obtain ⟨r, hr⟩ := hCr.out
      have HN := hid (nextU_any wr w.heap.size r hr)
      clear hr
      go_upto_region 7 with fail
      go_wp2_with fail
      refine HN.out.mono ?_
      rintro e w2 ⟨⟨v, rfl, hv⟩, hg⟩
      have HG2 : Hid (GotU w blk n dk w2) := by
        have := HX.out.2.2
        exact ⟨BoxL.by hG.out.row hg (by intro e; cases e; omega), grownBy_trans hG.out.turn hg (.inr (fun g e => by cases e; exact Nat.le_refl _)), hG.out.size⟩
      have HC2 : Hid (∃ r, Cell13 w2 w.heap.size (.int .u64 r)) := ⟨v, hv⟩
      obtain ⟨m1, hm1⟩ : ∃ m1 : Nat, (pw : Int) - 1 = (m1 : Int) := ⟨pw - 1, by omega⟩
      have hm6 : (m1 : Int) ≤ 600 := by omega
      have HM1 : Hid (m1 < 2 * l) := by have := HP2.out; show _ < _; omega
      clear hg hv HN
      go_upto_region 8 with fail
      have hA := and64_le v m1 (by clear hli hl8 hmi hki; omega) (by clear hli hl8 hmi hki; omega)
      generalize bits BinOp.and IntKind.u64 v (m1 : Int) = z at hA ⊢
      obtain ⟨o, rfl, hom⟩ := hA
      rw [wrapO hom hm6]
      clear hqi hqt hl255 ha255 hl8 pw0 pw600 hm1 hli
      have hol : Hid (o < 2 * l) := ltO hom HM1.out
      have ho6 : (o : Int) ≤ 600 := Int.le_trans hom hm6
      clear hom
      go_upto_if 43 with fail
      go_cut [10] (fun t10 wx => ∃ o2 : Nat, t10 = .int .i64 o2 ∧ o2 < l ∧ Hid (w2 = wx))
      case first =>
        by_cases hlo : l ≤ o
        · have hloi : (l : Int) ≤ (o : Int) := by omega
          have hd : decide ((l : Int) ≤ (o : Int)) = true := decide_eq_true hloi
          go_wp2_with fail
          go_meet
          exact ⟨o - l, by go_num, by have := hol.out; omega, rfl⟩
        · have hloi : ¬ (l : Int) ≤ (o : Int) := by omega
          have hd : decide ((l : Int) ≤ (o : Int)) = false := decide_eq_false hloi
          go_wp2_with fail
          go_meet
          exact ⟨o, rfl, by omega, rfl⟩
      obtain ⟨o2, rfl, ho2, hw2⟩ := hcut
      cases hw2.out
      obtain ⟨t, ht⟩ : ∃ t, t = a + o2 := ⟨_, rfl⟩
      have hti : (a : Int) + (o2 : Int) = (t : Int) := by clear hmi hki; omega
      have hbb := HX.out
      have bt : t < b := by clear hmi hki; omega
      have at_ : a ≤ t := by clear hmi hki; omega
      have bk : a ≤ k ∧ k < b := by have := HBM.out; clear hmi hki; omega
      have h1 : (k : Int) < (n : Int) := by clear hmi hki; omega
      have h2 : (t : Int) < (n : Int) := by clear hmi hki; omega
      have ⟨x, hx⟩ : ∃ x, dk[t]! = x := ⟨_, rfl⟩
      have ⟨y, hy⟩ : ∃ y, dk[k]! = y := ⟨_, rfl⟩
      have k1 := HG2.out.cell (i := t) (by clear hmi hki; omega) hx
      have k2 := HG2.out.cell (i := k) (by clear hmi hki; omega) hy
      have k3 := HG2.out.cell2 (i := k) (j := t) (by clear hmi hki; omega) (by clear hmi hki; omega) hx
      have hf := HG2.out.row.free
      have HS := hid (HG2.out.swp (i := k) (j := t) (by clear hmi hki; omega) (by clear hmi hki; omega) hx hy)
      have HPN := hid (permIn_trans d dk (swp dk k t) a b hPm.out (swp_permIn dk a b k t bk.1 bk.2 at_ bt (by rw [HG2.out.size]; exact hbb.2.1)))
      have HC4 : Hid (∃ r, Cell13 ((w2.setCell ⟨blk, k, none⟩ (.int .u64 x)).setCell ⟨blk, t, none⟩ (.int .u64 y)).drew w.heap.size (.int .u64 r)) := by
        obtain ⟨r, hr⟩ := HC2.out
        have hr2 := (hr.far (g := blk) (by have := hbb.2.2; omega) (.int .u64 x))
        exact ⟨r, ⟨(World.cell?_setCell_other _ _ _ _ (by intro e; injection e with e1; have := hbb.2.2; omega)).trans ((World.cell?_setCell_other _ _ _ _ (by intro e; injection e with e1; have := hbb.2.2; omega)).trans hr.c), (World.frozen?_setCell _ _ _ _).trans ((World.frozen?_setCell _ _ _ _).trans hr.f)⟩⟩
      have HBK := hid (And.intro bt (And.intro at_ bk))
      clear hx hy ht hbb bt at_ bk HC2 HG2 hG hCr
      go_upto_region 10 with fail
      go_region
      have hS := HS.out
      have hC4 := HC4.out
      generalize ((w2.setCell ⟨blk, k, none⟩ (.int .u64 x)).setCell ⟨blk, t, none⟩ (.int .u64 y)).drew = w4 at hS hC4 ⊢
      have HS4 := hid hS
      have HC5 := hid hC4
      clear hS hC4 k1 k2 k3 hf HS HC4
      go_wp2_with fail
      go_roundw
      case rel => exact ⟨k + 1, swp dk k t, by first | rfl | go_num, by omega, by omega, HS4.out, HPN.out, HC5.out⟩
      case measure => simp [intOf]; omega
    · have hki : ¬ (k : Int) ≤ (m : Int) + 1 := by omega
      go_wp2_with fail
      go_end0
      exact ⟨rfl, dk, hG.out, hPm.out⟩
end Go.Proofs.YtdjlbejhphbcoaaGreat
