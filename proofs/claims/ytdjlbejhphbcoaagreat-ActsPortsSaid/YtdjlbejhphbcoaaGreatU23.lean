/- Put together out of several texts. -/
import Derived.Test.YtdjlbejhphbcoaaGreatU21
import Derived.Sort.LotC
import Derived.Deep.DeepCutAuto
namespace Go.Proofs.YtdjlbejhphbcoaaGreat
open Go.RowKit Go.Sort
set_option linter.unusedVariables false
set_option maxRecDepth 100000

theorem wrapB64 (r : BitVec 64) : IntKind.u64.wrap (r.toNat : Int) = (r.toNat : Int) := by
  have := r.isLt
  simp [IntKind.wrap, IntKind.bits, IntKind.signed]
  omega
theorem and64_le (x y : Int) (h0 : 0 ≤ y) (h1 : y < 18446744073709551616) : ∃ o : Nat, bits BinOp.and IntKind.u64 x y = (o : Int) ∧ (o : Int) ≤ y := by
  refine ⟨(BitVec.ofInt 64 x &&& BitVec.ofInt 64 y).toNat, wrapB64 _, ?_⟩
  rw [BitVec.toNat_and]
  have h := Nat.and_le_right (n := (BitVec.ofInt 64 x).toNat) (m := (BitVec.ofInt 64 y).toNat)
  have e : (BitVec.ofInt 64 y).toNat = y.toNat := by
    rw [BitVec.toNat_ofInt]
    omega
  omega
theorem len_of (d : ByteArray) (hd : d.size = 256) (ht : ∀ q : Fin 256, (d[q.val]'(by rw [hd]; exact q.isLt)).toNat ≤ 8 ∧ (0 < q.val → 2 ^ (d[q.val]'(by rw [hd]; exact q.isLt)).toNat ≤ 2 * q.val)) (p : Int) (h0 : 0 ≤ p) (h1 : p ≤ 255) (hp : p.toNat < d.size) :
    ∃ r : Nat, ((d[p.toNat]'hp).toNat : Int) = (r : Int) ∧ r ≤ 8 ∧ (0 < p → 2 ^ r ≤ 2 * p.toNat) := by
  obtain ⟨q, rfl⟩ := Int.eq_ofNat_of_zero_le h0
  have e := ht ⟨q, by omega⟩
  exact ⟨_, rfl, e.1, fun h => e.2 (by show 0 < q; omega)⟩
theorem len_ret (d : ByteArray) (hd : d.size = 256) (ht : ∀ q : Fin 256, (d[q.val]'(by rw [hd]; exact q.isLt)).toNat ≤ 8 ∧ (0 < q.val → 2 ^ (d[q.val]'(by rw [hd]; exact q.isLt)).toNat ≤ 2 * q.val)) (p : Int) (h0 : 0 ≤ p) (h1 : p ≤ 255) (hp : p.toNat < d.size) :
    ∃ r : Nat, Ending.returned (Value.int .i64 (wrap64 (wrap64 ((d[p.toNat]'hp).toNat : Int)))) = .returned (.int .i64 r) ∧ r ≤ 8 ∧ (0 < p → 2 ^ r ≤ 2 * p.toNat) := by
  obtain ⟨r, e, h8, h2⟩ := len_of d hd ht p h0 h1 hp
  refine ⟨r, ?_, h8, h2⟩
  rw [e]
  have e2 : wrap64 (wrap64 (r : Int)) = (r : Int) := by
    unfold wrap64; omega
  rw [e2]
theorem len64V_any (x : Int) (h0 : 0 ≤ x) (h1 : x ≤ 255) (w : World) : Calls Tryz.prog 142 #[.int .u64 x] w fun e w' => (∃ r : Nat, e = .returned (.int .i64 r) ∧ r ≤ 8 ∧ (0 < x → 2 ^ r ≤ 2 * x.toNat)) ∧ w = w' := by
  have g1 : ¬ (4294967296 : Int) ≤ x := by omega
  have g2 : ¬ (65536 : Int) ≤ x := by omega
  have g3 : ¬ (256 : Int) ≤ x := by omega
  have g4 : x % 256 = x := by omega
  have g5 : x.toNat < 256 := by omega
  go_enter Tryz.func142, Tryz.ntmps142
  go_wp2_with fail
  go_ret
  refine ⟨?_, rfl⟩
  show ∃ r : Nat, Ending.returned (Value.int .i64 (wrap64 (wrap64 _))) = _ ∧ _
  exact len_ret _ (by decide +kernel) (by decide +kernel) x h0 h1 _
theorem lenV_any (x : Int) (h0 : 0 ≤ x) (h1 : x ≤ 255) (w : World) : Calls Tryz.prog 109 #[.int .u64 x] w fun e w' => (∃ r : Nat, e = .returned (.int .i64 r) ∧ r ≤ 8 ∧ (0 < x → 2 ^ r ≤ 2 * x.toNat)) ∧ w = w' := by
  have H := hid (fun w => len64V_any x h0 h1 w)
  go_enter Tryz.func109, Tryz.ntmps109
  go_wp2_with fail
  refine (H.out _).mono ?_
  rintro e w1 ⟨⟨r, rfl, h8, h2⟩, rfl⟩
  have HH := hid (And.intro h8 h2)
  clear h8 h2
  go_wp2_with fail
  go_ret
  exact ⟨⟨r, rfl, HH.out.1, HH.out.2⟩, rfl⟩
theorem pow2_any (n : Nat) (h0 : 0 < n) (h1 : n ≤ 255) (w : World) : Calls Tryz.prog 160 #[.int .i64 n] w fun e w' => (∃ m : Nat, e = .returned (.int .u64 m) ∧ 0 < m ∧ m ≤ 2 * n) ∧ w = w' := by
  have H := hid (fun w => lenV_any (n : Int) (by omega) (by omega) w)
  have hn : (n : Int) ≤ 255 := by omega
  go_enter Tryz.func160, Tryz.ntmps160
  go_wp2_with fail
  refine (H.out _).mono ?_
  rintro e w1 ⟨⟨r, rfl, h8, h2⟩, rfl⟩
  have hm : 2 ^ r ≤ 2 * n := by have := h2 (by omega); simpa using this
  have HM := hid hm
  clear h2 hm H
  rcases (show r = 0 ∨ r = 1 ∨ r = 2 ∨ r = 3 ∨ r = 4 ∨ r = 5 ∨ r = 6 ∨ r = 7 ∨ r = 8 by omega) with rfl | rfl | rfl | rfl | rfl | rfl | rfl | rfl | rfl
  all_goals
    go_wp2_with fail
    go_ret
    exact ⟨⟨_, rfl, by decide, HM.out⟩, rfl⟩
theorem next_step {w w1 : World} {rb : Nat} {r : Int} (hC : Cell13 w1 rb (.int .u64 r)) (hT : TurnU rb w w1) (u : Int) :
    Cell13 (w1.setCell ⟨rb, 0, none⟩ (.int .u64 u)).drew rb (.int .u64 u) ∧ TurnU rb w (w1.setCell ⟨rb, 0, none⟩ (.int .u64 u)).drew :=
  ⟨⟨(hC.set (.int .u64 u)).c, (hC.set (.int .u64 u)).f⟩, (hT.trans (by_setCell w1 rb 0 _)).drew⟩
set_option maxHeartbeats 4000000 in
theorem nextU_any (w : World) (rb : Nat) (r : Int) (hC : Cell13 w rb (.int .u64 r)) : Calls Tryz.prog 161 #[.pointer (some ⟨rb, 0, none⟩)] w fun e w' => (∃ v : Int, e = .returned (.int .u64 v) ∧ Cell13 w' rb (.int .u64 v)) ∧ w.grownBy w' (some rb) := by
  have HC := hid (And.intro hC (TurnU.refl rb w))
  clear hC
  go_enter Tryz.func161, Tryz.ntmps161
  obtain ⟨k1, k2⟩ := HC.out.1
  go_upto_region 1 with fail
  go_region
  have HC1 := hid (next_step HC.out.1 HC.out.2)
  generalize bits BinOp.xor IntKind.u64 r (IntKind.u64.wrap (r * 8192)) = u1
  have hS := HC1.out u1
  generalize (w.setCell ⟨rb, 0, none⟩ (.int .u64 u1)).drew = w1 at hS ⊢
  have HC2 := hid hS
  clear hS HC1 k1 k2
  obtain ⟨k1, k2⟩ := HC2.out.1
  go_upto_region 2 with fail
  go_region
  have HC1 := hid (next_step HC2.out.1 HC2.out.2)
  generalize bits BinOp.xor IntKind.u64 u1 (u1 / 128) = u2
  have hS := HC1.out u2
  generalize (w1.setCell ⟨rb, 0, none⟩ (.int .u64 u2)).drew = w2 at hS ⊢
  have HC3 := hid hS
  clear hS HC1 k1 k2
  obtain ⟨k1, k2⟩ := HC3.out.1
  go_upto_region 3 with fail
  go_region
  have HC1 := hid (next_step HC3.out.1 HC3.out.2)
  generalize bits BinOp.xor IntKind.u64 u2 (IntKind.u64.wrap (u2 * 131072)) = u3
  have hS := HC1.out u3
  generalize (w2.setCell ⟨rb, 0, none⟩ (.int .u64 u3)).drew = w3 at hS ⊢
  have HC4 := hid hS
  clear hS HC1 k1 k2
  obtain ⟨k1, k2⟩ := HC4.out.1
  go_wp2_with fail
  go_ret
  exact ⟨⟨u3, rfl, HC4.out.1⟩, HC4.out.2⟩
end Go.Proofs.YtdjlbejhphbcoaaGreat
namespace Go.Proofs.YtdjlbejhphbcoaaGreat
open Go.RowKit Go.Sort
set_option linter.unusedVariables false
set_option maxRecDepth 100000

theorem scanUp_go {p : Int → Bool} {d : Array Int} {j i : Nat} (h : (decide (i ≤ j) && p d[i]!) = true) : scanUp p d j i = scanUp p d j (i + 1) := by rw [scanUp, if_pos h]
theorem scanUp_end {p : Int → Bool} {d : Array Int} {j i : Nat} (h : (decide (i ≤ j) && p d[i]!) = false) : scanUp p d j i = i := by rw [scanUp, if_neg (by rw [h]; simp)]
theorem scanDown_go {p : Int → Bool} {d : Array Int} {i j : Nat} (hj : 0 < j) (h : (decide (i ≤ j) && p d[j]!) = true) : scanDown p d i j = scanDown p d i (j - 1) := by
  obtain ⟨k, rfl⟩ : ∃ k, j = k + 1 := ⟨j - 1, by omega⟩
  rw [scanDown, if_pos h]; rfl
theorem scanDown_end {p : Int → Bool} {d : Array Int} {i j : Nat} (h : (decide (i ≤ j) && p d[j]!) = false) : scanDown p d i j = j := by
  cases j with
  | zero => rfl
  | succ k => rw [scanDown, if_neg (by rw [h]; simp)]
theorem lt_of_scans {p : Int → Bool} {d : Array Int} {i j j0 : Nat} (h1 : (decide (i ≤ j0) && p d[i]!) = false) (h2 : (decide (i ≤ j) && (!p d[j]!)) = false) (hj : j ≤ j0) (hij : i ≤ j) : i < j := by
  rcases Nat.lt_or_ge i j with h | h
  · exact h
  · exfalso
    obtain rfl : i = j := by omega
    rw [decide_eq_true hj, Bool.true_and] at h1
    rw [decide_eq_true (Nat.le_refl i), Bool.true_and, h1] at h2
    cases h2
theorem GotU.cell2 {w w1 : World} {blk n : Nat} {d : Array Int} (h : GotU w blk n d w1) {i j : Nat} (hi : i < n) (hj : j < n) {x : Int} (hx : d[j]! = x) : (w1.setCell ⟨blk, i, none⟩ (.int .u64 x)).cell? ⟨blk, j, none⟩ = some (.int .u64 x) := by
  by_cases e : i = j
  · subst e; exact World.cell?_setCell_same _ _ _ (h.cell hi rfl)
  · exact (World.cell?_setCell_other _ _ _ _ (by intro e2; injection e2 with _ e3; omega)).trans (h.cell hj hx)
set_option maxHeartbeats 8000000 in
theorem partU_any (w : World) (blk cap a b pivot n : Nat) (d : Array Int) (hH : RowU w blk d) (hn : d.size = n) (hap : a ≤ pivot) (hpb : pivot < b) (h2 : a + 1 < b) (hb : b ≤ n) (hsz : n ≤ 1000) :
    Calls Tryz.prog 140 #[.slice (some ⟨blk, 0, none⟩) n cap, .int .i64 a, .int .i64 b, .int .i64 pivot] w fun e w' =>
      (∃ q, e = .returned (.tuple #[.int .i64 ((partition ltInt d a b pivot).1 : Nat), .bool q])) ∧ GotU w blk n (partition ltInt d a b pivot).2.2 w' := by
  have HG0 : Hid (GotU w blk n d w) := by show GotU _ _ _ _ _; rw [← hn]; exact GotU.refl hH
  have HN := hid hn
  clear hH hn
  go_enter Tryz.func140, Tryz.ntmps140
  have ⟨x, hx⟩ : ∃ x, d[pivot]! = x := ⟨_, rfl⟩
  have ⟨y, hy⟩ : ∃ y, d[a]! = y := ⟨_, rfl⟩
  have k1 := HG0.out.cell (i := pivot) (by omega) hx
  have k2 := HG0.out.cell (i := a) (by omega) hy
  have k3 := HG0.out.cell2 (i := a) (j := pivot) (by omega) (by omega) hx
  have hf := HG0.out.row.free
  have s1 : (a : Int) < (n : Int) := by omega
  have s2 : (pivot : Int) < (n : Int) := by omega
  have HS := hid (HG0.out.swp (i := a) (j := pivot) (by omega) (by omega) hx hy)
  clear hx hy
  go_upto_region 1 with fail
  go_region
  have hS := HS.out
  generalize ((w.setCell ⟨blk, a, none⟩ (.int .u64 x)).setCell ⟨blk, pivot, none⟩ (.int .u64 y)).drew = w1 at hS ⊢
  have HG1 := hid hS
  clear hS k1 k2 k3 hf s1 s2
  obtain ⟨d1, hd1⟩ : ∃ d1, d1 = swp d a pivot := ⟨_, rfl⟩
  rw [← hd1] at HG1
  have HD1 := hid hd1
  clear hd1
  obtain ⟨i0, hi0⟩ : ∃ i0, i0 = a + 1 := ⟨_, rfl⟩
  obtain ⟨j0, hj0⟩ : ∃ j0, j0 = b - 1 := ⟨_, rfl⟩
  have hi0i : (a : Int) + 1 = (i0 : Int) := by omega
  have hj0i : (b : Int) - 1 = (j0 : Int) := by omega
  have hij0 : i0 ≤ j0 + 1 := by omega
  have hai0 : a < i0 := by omega
  have hjb0 : j0 < b := by omega
  have HIJ := hid (And.intro hi0 hj0)
  clear hi0 hj0
  have HG := hid HG1.out
  go_wp2_with fail
  go_loopw [10] (fun v wx => ∃ (k : Nat), v = .int .i64 k ∧ i0 ≤ k ∧ k ≤ j0 + 1 ∧ Hid (GotU w blk n d1 wx) ∧ Hid (scanUp (fun x => ltInt x d1[a]!) d1 j0 k = scanUp (fun x => ltInt x d1[a]!) d1 j0 i0)) (fun v _ => j0 + 2 - (intOf v).toNat)
  case atStart => exact ⟨i0, by first | rfl | go_num, by omega, by omega, HG.out, rfl⟩
  case round =>
    clear HG
    obtain ⟨k, rfl, hk1, hk2, HG, HEQ⟩ := hrel
    go_upto_region 3 with fail
    go_cut [43] (fun t wx => ∃ q, t = .bool q ∧ Hid ((decide (k ≤ j0) && (fun x => ltInt x d1[a]!) d1[k]!) = q) ∧ Hid (Below wr.heap.size wr wx))
    case first =>
      by_cases hg : k ≤ j0
      · have hd : decide ((k : Int) ≤ (j0 : Int)) = true := decide_eq_true (by omega)
        have hdn : decide (k ≤ j0) = true := decide_eq_true hg
        have ⟨x, hx⟩ : ∃ x, d1[k]! = x := ⟨_, rfl⟩
        have ⟨y, hy⟩ : ∃ y, d1[a]! = y := ⟨_, rfl⟩
        have bd1 : (k : Int) < (n : Int) := by omega
        have bd2 : (a : Int) < (n : Int) := by omega
        have c1 := Wk.cell (HG.out.cell (i := k) (by omega) hx)
        have c2 := Wk.cell (HG.out.cell (i := a) (by omega) hy)
        obtain ⟨r, hr⟩ : ∃ r, ltInt x y = r := ⟨_, rfl⟩
        have HL := hid (fun w => less_at hr w)
        have HRR : Hid ((decide (k ≤ j0) && (fun x => ltInt x d1[a]!) d1[k]!) = r) := by
          show _ = _
          rw [hdn]
          simp only [Bool.true_and]
          rw [hx, hy, hr]
        clear hx hy hr
        refine wp_region_wk (by kernel_rfl) (by kernel_rfl) ?_
        repeat (go_big_quiet_step (first | (go_at_call 138; exact Wk.same (HL.out _)) | fail))
        refine wpQuiet_nil ?_
        rintro w3 ⟨⟨_, hb3⟩, rfl⟩
        go_wp2_with fail
        go_meet
        exact ⟨r, rfl, HRR.out, hb3⟩
      · have hd : decide ((k : Int) ≤ (j0 : Int)) = false := decide_eq_false (by omega)
        have HRR : Hid ((decide (k ≤ j0) && (fun x => ltInt x d1[a]!) d1[k]!) = false) := by
          show _ = _
          rw [decide_eq_false hg]; rfl
        refine wp_region_wk (by kernel_rfl) (by kernel_rfl) ?_
        repeat (go_big_quiet_step (fail))
        refine wpQuiet_nil ?_
        rintro w3 ⟨⟨_, hb3⟩, rfl⟩
        go_wp2_with fail
        go_meet
        exact ⟨false, rfl, HRR.out, hb3⟩
    obtain ⟨q, rfl, hqq, hbc⟩ := hcut
    have HG := hid (HG.out.below hbc.out)
    cases q
    case true =>
      have hkk : k ≤ j0 := by have h := hqq.out; simp only [Bool.and_eq_true, decide_eq_true_eq] at h; exact h.1
      have HEQ2 := hid ((scanUp_go hqq.out).symm.trans HEQ.out)
      go_wp2_with fail
      go_roundw
      case rel => exact ⟨k + 1, by go_num, by omega, by omega, HG.out, HEQ2.out⟩
      case measure => first | (simp [intOf]; done) | (simp [intOf]; omega)
    have HU := hid (HEQ.out.symm.trans (scanUp_end hqq.out))
    obtain ⟨i1, rfl⟩ : ∃ i1, i1 = k := ⟨_, rfl⟩
    have HQ1 := hid hqq.out
    clear HEQ hqq hbc
    go_wp2_with fail
    go_loopw [11] (fun v wx => ∃ (m : Nat), v = .int .i64 m ∧ m ≤ j0 ∧ i1 ≤ m + 1 ∧ Hid (GotU w blk n d1 wx) ∧ Hid (scanDown (fun x => !ltInt x d1[a]!) d1 i1 m = scanDown (fun x => !ltInt x d1[a]!) d1 i1 j0)) (fun v _ => (intOf v).toNat)
    case atStart => exact ⟨j0, by first | rfl | go_num, by omega, by omega, HG.out, rfl⟩
    case round =>
      clear HG
      obtain ⟨m, rfl, hk1, hk2, HG, HEQ⟩ := hrel
      go_upto_region 5 with fail
      go_cut [60] (fun t wx => ∃ q, t = .bool q ∧ Hid ((decide (i1 ≤ m) && (fun x => !ltInt x d1[a]!) d1[m]!) = q) ∧ Hid (Below wr.heap.size wr wx))
      case first =>
        by_cases hg : i1 ≤ m
        · have hd : decide ((i1 : Int) ≤ (m : Int)) = true := decide_eq_true (by omega)
          have hdn : decide (i1 ≤ m) = true := decide_eq_true hg
          have ⟨x, hx⟩ : ∃ x, d1[m]! = x := ⟨_, rfl⟩
          have ⟨y, hy⟩ : ∃ y, d1[a]! = y := ⟨_, rfl⟩
          have bd1 : (m : Int) < (n : Int) := by omega
          have bd2 : (a : Int) < (n : Int) := by omega
          have c1 := Wk.cell (HG.out.cell (i := m) (by omega) hx)
          have c2 := Wk.cell (HG.out.cell (i := a) (by omega) hy)
          obtain ⟨r, hr⟩ : ∃ r, ltInt x y = r := ⟨_, rfl⟩
          have HL := hid (fun w => less_at hr w)
          have HRR : Hid ((decide (i1 ≤ m) && (fun x => !ltInt x d1[a]!) d1[m]!) = (!r)) := by
            show _ = _
            rw [hdn]
            simp only [Bool.true_and]
            rw [hx, hy, hr]
          clear hx hy hr
          refine wp_region_wk (by kernel_rfl) (by kernel_rfl) ?_
          repeat (go_big_quiet_step (first | (go_at_call 138; exact Wk.same (HL.out _)) | fail))
          refine wpQuiet_nil ?_
          rintro w3 ⟨⟨_, hb3⟩, rfl⟩
          go_wp2_with fail
          go_meet
          exact ⟨(!r), rfl, HRR.out, hb3⟩
        · have hd : decide ((i1 : Int) ≤ (m : Int)) = false := decide_eq_false (by omega)
          have HRR : Hid ((decide (i1 ≤ m) && (fun x => !ltInt x d1[a]!) d1[m]!) = false) := by
            show _ = _
            rw [decide_eq_false hg]; rfl
          refine wp_region_wk (by kernel_rfl) (by kernel_rfl) ?_
          repeat (go_big_quiet_step (fail))
          refine wpQuiet_nil ?_
          rintro w3 ⟨⟨_, hb3⟩, rfl⟩
          go_wp2_with fail
          go_meet
          exact ⟨false, rfl, HRR.out, hb3⟩
      obtain ⟨q, rfl, hqq, hbc⟩ := hcut
      have HG := hid (HG.out.below hbc.out)
      cases q
      case true =>
        have hkk : i1 ≤ m := by have h := hqq.out; simp only [Bool.and_eq_true, decide_eq_true_eq] at h; exact h.1
        have HEQ2 := hid ((scanDown_go (by omega) hqq.out).symm.trans HEQ.out)
        go_wp2_with fail
        go_roundw
        case rel => exact ⟨m - 1, by go_num, by omega, by omega, HG.out, HEQ2.out⟩
        case measure => first | (simp [intOf]; done) | (simp [intOf]; omega)
      have HV := hid (HEQ.out.symm.trans (scanDown_end hqq.out))
      obtain ⟨j1, rfl⟩ : ∃ j1, j1 = m := ⟨_, rfl⟩
      have HQ2 := hid hqq.out
      clear HEQ hqq hbc
      have HPL := hid (partLoop_eq ltInt a i0 j0 d1)
      by_cases hgt : j1 < i1
      · have hgti : (j1 : Int) < (i1 : Int) := by omega
        have HRES : Hid ((partition ltInt d a b pivot).1 = j1 ∧ (partition ltInt d a b pivot).2.2 = swp d1 j1 a) := by
          have h := HPL.out
          rw [HU.out, HV.out, if_pos hgt] at h
          show _ ∧ _
          rw [partition_fst, partition_arr, ← HD1.out, ← HIJ.out.1, ← HIJ.out.2, h]
          exact ⟨rfl, rfl⟩
        have ⟨x, hx⟩ : ∃ x, d1[a]! = x := ⟨_, rfl⟩
        have ⟨y, hy⟩ : ∃ y, d1[j1]! = y := ⟨_, rfl⟩
        have k1 := HG.out.cell (i := a) (by omega) hx
        have k2 := HG.out.cell (i := j1) (by omega) hy
        have k3 := HG.out.cell2 (i := j1) (j := a) (by omega) (by omega) hx
        have hf := HG.out.row.free
        have s1 : (j1 : Int) < (n : Int) := by omega
        have s2 : (a : Int) < (n : Int) := by omega
        have HS := hid (HG.out.swp (i := j1) (j := a) (by omega) (by omega) hx hy)
        clear hx hy
        go_upto_region 8 with fail
        go_region
        have hS := HS.out
        generalize ((wc.setCell ⟨blk, j1, none⟩ (.int .u64 x)).setCell ⟨blk, a, none⟩ (.int .u64 y)).drew = w2 at hS ⊢
        have HG2 := hid hS
        clear hS k1 k2 k3 hf s1 s2
        go_wp2_with fail
        refine bodyPost_ret (v := .tuple #[.int .i64 j1, .bool true]) (by simp [results, Tryz.results140, go_sem]) rfl ⟨.inr (by rw [HRES.out.1]), by rw [HRES.out.2]; exact HG2.out⟩
      · have hgti : ¬ (j1 : Int) < (i1 : Int) := by omega
        have hlt12 : i1 < j1 := lt_of_scans (p := fun x => ltInt x d1[a]!) HQ1.out HQ2.out (by omega) (by omega)
        have HRES : Hid (partLoop ltInt a i0 j0 d1 = partLoop ltInt a (i1 + 1) (j1 - 1) (swp d1 i1 j1)) := by
          have h := HPL.out
          rw [HU.out, HV.out, if_neg (by omega)] at h
          exact h
        have ⟨x, hx⟩ : ∃ x, d1[j1]! = x := ⟨_, rfl⟩
        have ⟨y, hy⟩ : ∃ y, d1[i1]! = y := ⟨_, rfl⟩
        have k1 := HG.out.cell (i := j1) (by omega) hx
        have k2 := HG.out.cell (i := i1) (by omega) hy
        have k3 := HG.out.cell2 (i := i1) (j := j1) (by omega) (by omega) hx
        have hf := HG.out.row.free
        have s1 : (i1 : Int) < (n : Int) := by omega
        have s2 : (j1 : Int) < (n : Int) := by omega
        have HS := hid (HG.out.swp (i := i1) (j := j1) (by omega) (by omega) hx hy)
        clear hx hy
        go_upto_region 10 with fail
        go_region
        have hS := HS.out
        generalize ((wc.setCell ⟨blk, i1, none⟩ (.int .u64 x)).setCell ⟨blk, j1, none⟩ (.int .u64 y)).drew = w2 at hS ⊢
        have HG2 := hid hS
        clear hS k1 k2 k3 hf s1 s2
        go_wp2_with fail
        obtain ⟨i2, hi2⟩ : ∃ i2, i2 = i1 + 1 := ⟨_, rfl⟩
        obtain ⟨j2, hj2⟩ : ∃ j2, j2 = j1 - 1 := ⟨_, rfl⟩
        have b1 : a < i2 := by omega
        have b2 : i2 ≤ j2 + 1 := by omega
        have b3 : j2 < b := by omega
        have e0 : 1 ≤ j1 := by clear hi2 hj2; omega
        have e1 : (i1 : Int) + 1 = (i2 : Int) := by omega
        have e2 : (j1 : Int) - 1 = (j2 : Int) := by omega
        obtain ⟨d2, hd2⟩ : ∃ d2, d2 = swp d1 i1 j1 := ⟨_, rfl⟩
        rw [← hi2, ← hj2, ← hd2] at HRES
        rw [← hd2] at HG2
        clear hi2 hj2 hd2
        go_loopw [10, 11] (fun vi vj wr => ∃ (i j : Nat) (dk : Array Int), vi = .int .i64 i ∧ vj = .int .i64 j ∧ a < i ∧ i ≤ j + 1 ∧ j < b ∧ Hid (GotU w blk n dk wr) ∧ Hid (partLoop ltInt a i j dk = partLoop ltInt a i0 j0 d1)) (fun vi vj _ => (intOf vj).toNat + 2 - (intOf vi).toNat)
        case atStart => exact ⟨i2, j2, d2, by first | rfl | go_num, by first | rfl | go_num, b1, b2, b3, HG2.out, HRES.out.symm⟩
        case round =>
          clear HG HG2 HRES HU HV b1 b2 b3 e1 e2 HPL
          obtain ⟨i, j, dk, rfl, rfl, hai, hij, hjb, HG, HP⟩ := hrel
          have HPL := hid (partLoop_eq ltInt a i j dk)
          go_wp2_with fail
          go_loopw [10] (fun v wx => ∃ (k : Nat), v = .int .i64 k ∧ i ≤ k ∧ k ≤ j + 1 ∧ Hid (GotU w blk n dk wx) ∧ Hid (scanUp (fun x => ltInt x dk[a]!) dk j k = scanUp (fun x => ltInt x dk[a]!) dk j i)) (fun v _ => j + 2 - (intOf v).toNat)
          case atStart => exact ⟨i, by first | rfl | go_num, by omega, by omega, HG.out, rfl⟩
          case round =>
            clear HG
            obtain ⟨k, rfl, hk1, hk2, HG, HEQ⟩ := hrel
            go_upto_region 13 with fail
            go_cut [112] (fun t wx => ∃ q, t = .bool q ∧ Hid ((decide (k ≤ j) && (fun x => ltInt x dk[a]!) dk[k]!) = q) ∧ Hid (Below wr.heap.size wr wx))
            case first =>
              by_cases hg : k ≤ j
              · have hd : decide ((k : Int) ≤ (j : Int)) = true := decide_eq_true (by omega)
                have hdn : decide (k ≤ j) = true := decide_eq_true hg
                have ⟨x, hx⟩ : ∃ x, dk[k]! = x := ⟨_, rfl⟩
                have ⟨y, hy⟩ : ∃ y, dk[a]! = y := ⟨_, rfl⟩
                have bd1 : (k : Int) < (n : Int) := by omega
                have bd2 : (a : Int) < (n : Int) := by omega
                have c1 := Wk.cell (HG.out.cell (i := k) (by omega) hx)
                have c2 := Wk.cell (HG.out.cell (i := a) (by omega) hy)
                obtain ⟨r, hr⟩ : ∃ r, ltInt x y = r := ⟨_, rfl⟩
                have HL := hid (fun w => less_at hr w)
                have HRR : Hid ((decide (k ≤ j) && (fun x => ltInt x dk[a]!) dk[k]!) = r) := by
                  show _ = _
                  rw [hdn]
                  simp only [Bool.true_and]
                  rw [hx, hy, hr]
                clear hx hy hr
                refine wp_region_wk (by kernel_rfl) (by kernel_rfl) ?_
                repeat (go_big_quiet_step (first | (go_at_call 138; exact Wk.same (HL.out _)) | fail))
                refine wpQuiet_nil ?_
                rintro w3 ⟨⟨_, hb3⟩, rfl⟩
                go_wp2_with fail
                go_meet
                exact ⟨r, rfl, HRR.out, hb3⟩
              · have hd : decide ((k : Int) ≤ (j : Int)) = false := decide_eq_false (by omega)
                have HRR : Hid ((decide (k ≤ j) && (fun x => ltInt x dk[a]!) dk[k]!) = false) := by
                  show _ = _
                  rw [decide_eq_false hg]; rfl
                refine wp_region_wk (by kernel_rfl) (by kernel_rfl) ?_
                repeat (go_big_quiet_step (fail))
                refine wpQuiet_nil ?_
                rintro w3 ⟨⟨_, hb3⟩, rfl⟩
                go_wp2_with fail
                go_meet
                exact ⟨false, rfl, HRR.out, hb3⟩
            obtain ⟨q, rfl, hqq, hbc⟩ := hcut
            have HG := hid (HG.out.below hbc.out)
            cases q
            case true =>
              have hkk : k ≤ j := by have h := hqq.out; simp only [Bool.and_eq_true, decide_eq_true_eq] at h; exact h.1
              have HEQ2 := hid ((scanUp_go hqq.out).symm.trans HEQ.out)
              go_wp2_with fail
              go_roundw
              case rel => exact ⟨k + 1, by go_num, by omega, by omega, HG.out, HEQ2.out⟩
              case measure => first | (simp [intOf]; done) | (simp [intOf]; omega)
            have HU := hid (HEQ.out.symm.trans (scanUp_end hqq.out))
            obtain ⟨i3, rfl⟩ : ∃ i3, i3 = k := ⟨_, rfl⟩
            have HQ3 := hid hqq.out
            clear HEQ hqq hbc
            go_wp2_with fail
            go_loopw [11] (fun v wx => ∃ (m : Nat), v = .int .i64 m ∧ m ≤ j ∧ i3 ≤ m + 1 ∧ Hid (GotU w blk n dk wx) ∧ Hid (scanDown (fun x => !ltInt x dk[a]!) dk i3 m = scanDown (fun x => !ltInt x dk[a]!) dk i3 j)) (fun v _ => (intOf v).toNat)
            case atStart => exact ⟨j, by first | rfl | go_num, by omega, by omega, HG.out, rfl⟩
            case round =>
              clear HG
              obtain ⟨m, rfl, hk1, hk2, HG, HEQ⟩ := hrel
              go_upto_region 15 with fail
              go_cut [129] (fun t wx => ∃ q, t = .bool q ∧ Hid ((decide (i3 ≤ m) && (fun x => !ltInt x dk[a]!) dk[m]!) = q) ∧ Hid (Below wr.heap.size wr wx))
              case first =>
                by_cases hg : i3 ≤ m
                · have hd : decide ((i3 : Int) ≤ (m : Int)) = true := decide_eq_true (by omega)
                  have hdn : decide (i3 ≤ m) = true := decide_eq_true hg
                  have ⟨x, hx⟩ : ∃ x, dk[m]! = x := ⟨_, rfl⟩
                  have ⟨y, hy⟩ : ∃ y, dk[a]! = y := ⟨_, rfl⟩
                  have bd1 : (m : Int) < (n : Int) := by omega
                  have bd2 : (a : Int) < (n : Int) := by omega
                  have c1 := Wk.cell (HG.out.cell (i := m) (by omega) hx)
                  have c2 := Wk.cell (HG.out.cell (i := a) (by omega) hy)
                  obtain ⟨r, hr⟩ : ∃ r, ltInt x y = r := ⟨_, rfl⟩
                  have HL := hid (fun w => less_at hr w)
                  have HRR : Hid ((decide (i3 ≤ m) && (fun x => !ltInt x dk[a]!) dk[m]!) = (!r)) := by
                    show _ = _
                    rw [hdn]
                    simp only [Bool.true_and]
                    rw [hx, hy, hr]
                  clear hx hy hr
                  refine wp_region_wk (by kernel_rfl) (by kernel_rfl) ?_
                  repeat (go_big_quiet_step (first | (go_at_call 138; exact Wk.same (HL.out _)) | fail))
                  refine wpQuiet_nil ?_
                  rintro w3 ⟨⟨_, hb3⟩, rfl⟩
                  go_wp2_with fail
                  go_meet
                  exact ⟨(!r), rfl, HRR.out, hb3⟩
                · have hd : decide ((i3 : Int) ≤ (m : Int)) = false := decide_eq_false (by omega)
                  have HRR : Hid ((decide (i3 ≤ m) && (fun x => !ltInt x dk[a]!) dk[m]!) = false) := by
                    show _ = _
                    rw [decide_eq_false hg]; rfl
                  refine wp_region_wk (by kernel_rfl) (by kernel_rfl) ?_
                  repeat (go_big_quiet_step (fail))
                  refine wpQuiet_nil ?_
                  rintro w3 ⟨⟨_, hb3⟩, rfl⟩
                  go_wp2_with fail
                  go_meet
                  exact ⟨false, rfl, HRR.out, hb3⟩
              obtain ⟨q, rfl, hqq, hbc⟩ := hcut
              have HG := hid (HG.out.below hbc.out)
              cases q
              case true =>
                have hkk : i3 ≤ m := by have h := hqq.out; simp only [Bool.and_eq_true, decide_eq_true_eq] at h; exact h.1
                have HEQ2 := hid ((scanDown_go (by omega) hqq.out).symm.trans HEQ.out)
                go_wp2_with fail
                go_roundw
                case rel => exact ⟨m - 1, by go_num, by omega, by omega, HG.out, HEQ2.out⟩
                case measure => first | (simp [intOf]; done) | (simp [intOf]; omega)
              have HV := hid (HEQ.out.symm.trans (scanDown_end hqq.out))
              obtain ⟨j3, rfl⟩ : ∃ j3, j3 = m := ⟨_, rfl⟩
              have HQ4 := hid hqq.out
              clear HEQ hqq hbc
              by_cases hgt : j3 < i3
              · have hgti : (j3 : Int) < (i3 : Int) := by omega
                have HRES : Hid ((partition ltInt d a b pivot).1 = j3 ∧ (partition ltInt d a b pivot).2.2 = swp dk j3 a) := by
                  have h := HPL.out
                  rw [HU.out, HV.out, if_pos hgt] at h
                  show _ ∧ _
                  rw [partition_fst, partition_arr, ← HD1.out, ← HIJ.out.1, ← HIJ.out.2, ← HP.out, h]
                  exact ⟨rfl, rfl⟩
                have ⟨x, hx⟩ : ∃ x, dk[a]! = x := ⟨_, rfl⟩
                have ⟨y, hy⟩ : ∃ y, dk[j3]! = y := ⟨_, rfl⟩
                have k1 := HG.out.cell (i := a) (by omega) hx
                have k2 := HG.out.cell (i := j3) (by omega) hy
                have k3 := HG.out.cell2 (i := j3) (j := a) (by omega) (by omega) hx
                have hf := HG.out.row.free
                have s1 : (j3 : Int) < (n : Int) := by omega
                have s2 : (a : Int) < (n : Int) := by omega
                have HS := hid (HG.out.swp (i := j3) (j := a) (by omega) (by omega) hx hy)
                clear hx hy
                go_upto_region 21 with fail
                go_region
                have hS := HS.out
                generalize ((wc.setCell ⟨blk, j3, none⟩ (.int .u64 x)).setCell ⟨blk, a, none⟩ (.int .u64 y)).drew = w3 at hS ⊢
                have HG3 := hid hS
                clear hS k1 k2 k3 hf s1 s2
                go_wp2_with fail
                refine bodyPost_ret (v := .tuple #[.int .i64 j3, .bool false]) (by simp [results, Tryz.results140, go_sem]) rfl ⟨.inl (by rw [HRES.out.1]), by rw [HRES.out.2]; exact HG3.out⟩
              · have hgti : ¬ (j3 : Int) < (i3 : Int) := by omega
                have hlt34 : i3 < j3 := lt_of_scans (p := fun x => ltInt x dk[a]!) HQ3.out HQ4.out (by omega) (by omega)
                have HRES : Hid (partLoop ltInt a (i3 + 1) (j3 - 1) (swp dk i3 j3) = partLoop ltInt a i0 j0 d1) := by
                  have h := HPL.out
                  rw [HU.out, HV.out, if_neg (by omega)] at h
                  show _ = _
                  rw [← h]; exact HP.out
                have ⟨x, hx⟩ : ∃ x, dk[j3]! = x := ⟨_, rfl⟩
                have ⟨y, hy⟩ : ∃ y, dk[i3]! = y := ⟨_, rfl⟩
                have k1 := HG.out.cell (i := j3) (by omega) hx
                have k2 := HG.out.cell (i := i3) (by omega) hy
                have k3 := HG.out.cell2 (i := i3) (j := j3) (by omega) (by omega) hx
                have hf := HG.out.row.free
                have s1 : (i3 : Int) < (n : Int) := by omega
                have s2 : (j3 : Int) < (n : Int) := by omega
                have HS := hid (HG.out.swp (i := i3) (j := j3) (by omega) (by omega) hx hy)
                clear hx hy
                go_upto_region 18 with fail
                go_region
                have hS := HS.out
                generalize ((wc.setCell ⟨blk, i3, none⟩ (.int .u64 x)).setCell ⟨blk, j3, none⟩ (.int .u64 y)).drew = w3 at hS ⊢
                have HG3 := hid hS
                clear hS k1 k2 k3 hf s1 s2
                go_wp2_with fail
                go_roundw
                case rel => exact ⟨i3 + 1, j3 - 1, swp dk i3 j3, by go_num, by go_num, by omega, by omega, by omega, HG3.out, HRES.out⟩
                case measure => first | (simp [intOf]; done) | (simp [intOf]; omega)
end Go.Proofs.YtdjlbejhphbcoaaGreat
namespace Go.Proofs.YtdjlbejhphbcoaaGreat
open Go.RowKit Go.Sort
set_option linter.unusedVariables false
set_option maxRecDepth 100000

theorem wrapO {o m : Nat} (h : (o : Int) ≤ (m : Int)) (hm : (m : Int) ≤ 600) : wrap64 (o : Int) = (o : Int) := by unfold wrap64; omega
theorem ltO {o m l : Nat} (h : (o : Int) ≤ (m : Int)) (hm : m < 2 * l) : o < 2 * l := by omega
set_option maxHeartbeats 8000000 in
theorem breakU_any (w : World) (blk cap a b n : Nat) (d : Array Int) (hR : RowU w blk d) (hn : d.size = n) (hab : a + 8 ≤ b) (hb : b ≤ n) (hsz : n ≤ 255) :
    Calls Tryz.prog 134 #[.slice (some ⟨blk, 0, none⟩) n cap, .int .i64 a, .int .i64 b] w fun e w' =>
      e = .returned (.tuple #[]) ∧ ∃ d', GotU w blk n d' w' ∧ PermIn a b d d' := by
  obtain ⟨l, hl⟩ : ∃ l, l = b - a := ⟨_, rfl⟩
  have hli : (b : Int) - (a : Int) = (l : Int) := by omega
  have hl8 : (8 : Int) ≤ (l : Int) := by omega
  have hl255 : (l : Int) ≤ 255 := by omega
  have ha255 : (a : Int) ≤ 255 := by omega
  obtain ⟨q, hq⟩ : ∃ q, q = l / 4 := ⟨_, rfl⟩
  have hqi : (l : Int) / 4 = (q : Int) := by omega
  have hqt : (l : Int).tdiv 4 = (q : Int) := by rw [Int.tdiv_eq_ediv_of_nonneg (by omega)]; omega
  obtain ⟨m, hm⟩ : ∃ m, m = a + q * 2 := ⟨_, rfl⟩
  have hmi : (a : Int) + (q : Int) * 2 = (m : Int) := by omega
  have bm : a + 4 ≤ m ∧ m + 1 < b := by omega
  obtain ⟨W, hW⟩ : ∃ W, w.alloc (.cells #[.int .u64 l] 179) = W := ⟨_, rfl⟩
  have hC : Cell13 W w.heap.size (.int .u64 l) := by rw [← hW]; exact Cell13.new _ _ _
  have hbW : Below w.heap.size w W := by rw [← hW]; exact below_alloc _ _
  have hlt : blk < w.heap.size := BoxL.lt hR
  have HG0 : Hid (GotU w blk n d W) := by show GotU _ _ _ _ _; rw [← hn]; exact (GotU.refl hR).below hbW
  have HW := hid hW
  have HP := hid (fun w => pow2_any l (by omega) (by omega) w)
  have HBM := hid bm
  have HX := hid (And.intro hl (And.intro hb hlt))
  clear hR hn hW hbW hl hq hm bm
  go_enter Tryz.func134, Tryz.ntmps134
  go_upto_region 3 with fail
  rw [HW.out]
  go_wp2_with fail
  refine (HP.out _).mono ?_
  rintro e w1 ⟨⟨pw, rfl, hp0, hp2⟩, rfl⟩
  have pw0 : (0 : Int) < (pw : Int) := by omega
  have pw600 : (pw : Int) ≤ 600 := by omega
  have HP2 := hid hp2
  clear hp0 hp2
  go_wp2_with fail
  go_loopw [9] (fun v wr => ∃ (k : Nat) (dk : Array Int), v = .int .i64 k ∧ m - 1 ≤ k ∧ k ≤ m + 2 ∧ Hid (GotU w blk n dk wr) ∧ Hid (PermIn a b d dk) ∧ Hid (∃ r, Cell13 wr w.heap.size (.int .u64 r))) (fun v _ => m + 3 - (intOf v).toNat)
  case atStart => exact ⟨m - 1, d, by first | rfl | (have := HBM.out; go_num), by omega, by omega, HG0.out, permIn_refl d a b, ⟨_, hC⟩⟩
  case round =>
    obtain ⟨k, dk, rfl, hk1, hk2, hG, hPm, hCr⟩ := hrel
    by_cases hk : k ≤ m + 1
    · have hki : (k : Int) ≤ (m : Int) + 1 := by omega
      obtain ⟨r, hr⟩ := hCr.out
      have HN := hid (nextU_any wr w.heap.size r hr)
      clear hr
      go_upto_region 7 with fail
      go_wp2_with fail
      refine HN.out.mono ?_
      rintro e w2 ⟨⟨v, rfl, hv⟩, hg⟩
      have HG2 : Hid (GotU w blk n dk w2) := by
        have := HX.out.2.2
        exact ⟨BoxL.by hG.out.row hg (by intro e; cases e; omega), grownBy_trans hG.out.turn hg (.inr (fun g e => by cases e; exact Nat.le_refl _)), hG.out.size⟩
      have HC2 : Hid (∃ r, Cell13 w2 w.heap.size (.int .u64 r)) := ⟨v, hv⟩
      obtain ⟨m1, hm1⟩ : ∃ m1 : Nat, (pw : Int) - 1 = (m1 : Int) := ⟨pw - 1, by omega⟩
      have hm6 : (m1 : Int) ≤ 600 := by omega
      have HM1 : Hid (m1 < 2 * l) := by have := HP2.out; show _ < _; omega
      clear hg hv HN
      go_upto_region 8 with fail
      have hA := and64_le v m1 (by clear hli hl8 hmi hki; omega) (by clear hli hl8 hmi hki; omega)
      generalize bits BinOp.and IntKind.u64 v (m1 : Int) = z at hA ⊢
      obtain ⟨o, rfl, hom⟩ := hA
      rw [wrapO hom hm6]
      clear hqi hqt hl255 ha255 hl8 pw0 pw600 hm1 hli
      have hol : Hid (o < 2 * l) := ltO hom HM1.out
      have ho6 : (o : Int) ≤ 600 := Int.le_trans hom hm6
      clear hom
      go_upto_if 43 with fail
      go_cut [10] (fun t10 wx => ∃ o2 : Nat, t10 = .int .i64 o2 ∧ o2 < l ∧ Hid (w2 = wx))
      case first =>
        by_cases hlo : l ≤ o
        · have hloi : (l : Int) ≤ (o : Int) := by omega
          have hd : decide ((l : Int) ≤ (o : Int)) = true := decide_eq_true hloi
          go_wp2_with fail
          go_meet
          exact ⟨o - l, by go_num, by have := hol.out; omega, rfl⟩
        · have hloi : ¬ (l : Int) ≤ (o : Int) := by omega
          have hd : decide ((l : Int) ≤ (o : Int)) = false := decide_eq_false hloi
          go_wp2_with fail
          go_meet
          exact ⟨o, rfl, by omega, rfl⟩
      obtain ⟨o2, rfl, ho2, hw2⟩ := hcut
      cases hw2.out
      obtain ⟨t, ht⟩ : ∃ t, t = a + o2 := ⟨_, rfl⟩
      have hti : (a : Int) + (o2 : Int) = (t : Int) := by clear hmi hki; omega
      have hbb := HX.out
      have bt : t < b := by clear hmi hki; omega
      have at_ : a ≤ t := by clear hmi hki; omega
      have bk : a ≤ k ∧ k < b := by have := HBM.out; clear hmi hki; omega
      have h1 : (k : Int) < (n : Int) := by clear hmi hki; omega
      have h2 : (t : Int) < (n : Int) := by clear hmi hki; omega
      have ⟨x, hx⟩ : ∃ x, dk[t]! = x := ⟨_, rfl⟩
      have ⟨y, hy⟩ : ∃ y, dk[k]! = y := ⟨_, rfl⟩
      have k1 := HG2.out.cell (i := t) (by clear hmi hki; omega) hx
      have k2 := HG2.out.cell (i := k) (by clear hmi hki; omega) hy
      have k3 := HG2.out.cell2 (i := k) (j := t) (by clear hmi hki; omega) (by clear hmi hki; omega) hx
      have hf := HG2.out.row.free
      have HS := hid (HG2.out.swp (i := k) (j := t) (by clear hmi hki; omega) (by clear hmi hki; omega) hx hy)
      have HPN := hid (permIn_trans d dk (swp dk k t) a b hPm.out (swp_permIn dk a b k t bk.1 bk.2 at_ bt (by rw [HG2.out.size]; exact hbb.2.1)))
      have HC4 : Hid (∃ r, Cell13 ((w2.setCell ⟨blk, k, none⟩ (.int .u64 x)).setCell ⟨blk, t, none⟩ (.int .u64 y)).drew w.heap.size (.int .u64 r)) := by
        obtain ⟨r, hr⟩ := HC2.out
        have hr2 := (hr.far (g := blk) (by have := hbb.2.2; omega) (.int .u64 x))
        exact ⟨r, ⟨(World.cell?_setCell_other _ _ _ _ (by intro e; injection e with e1; have := hbb.2.2; omega)).trans ((World.cell?_setCell_other _ _ _ _ (by intro e; injection e with e1; have := hbb.2.2; omega)).trans hr.c), (World.frozen?_setCell _ _ _ _).trans ((World.frozen?_setCell _ _ _ _).trans hr.f)⟩⟩
      have HBK := hid (And.intro bt (And.intro at_ bk))
      clear hx hy ht hbb bt at_ bk HC2 HG2 hG hCr
      go_upto_region 10 with fail
      go_region
      have hS := HS.out
      have hC4 := HC4.out
      generalize ((w2.setCell ⟨blk, k, none⟩ (.int .u64 x)).setCell ⟨blk, t, none⟩ (.int .u64 y)).drew = w4 at hS hC4 ⊢
      have HS4 := hid hS
      have HC5 := hid hC4
      clear hS hC4 k1 k2 k3 hf HS HC4
      go_wp2_with fail
      go_roundw
      case rel => exact ⟨k + 1, swp dk k t, by first | rfl | go_num, by omega, by omega, HS4.out, HPN.out, HC5.out⟩
      case measure => simp [intOf]; omega
    · have hki : ¬ (k : Int) ≤ (m : Int) + 1 := by omega
      go_wp2_with fail
      go_end0
      exact ⟨rfl, dk, hG.out, hPm.out⟩
end Go.Proofs.YtdjlbejhphbcoaaGreat
namespace Go.Proofs.YtdjlbejhphbcoaaGreat
open Go.RowKit Go.Sort
set_option linter.unusedVariables false
set_option maxRecDepth 100000

theorem sift_end {hi first root : Nat} {d : Array Int} (h : hi ≤ 2 * root + 1) : siftDown ltInt hi first root d = d := by
  rw [siftDown, dif_pos h]
theorem sift_one {hi first root : Nat} {d : Array Int} (h : 2 * root + 1 < hi) (hc : (decide (2 * root + 1 + 1 < hi) && ltInt d[first + (2 * root + 1)]! d[first + (2 * root + 1) + 1]!) = false) :
    siftDown ltInt hi first root d = if ltInt d[first + root]! d[first + (2 * root + 1)]! = true then siftDown ltInt hi first (2 * root + 1) (swp d (first + root) (first + (2 * root + 1))) else d := by
  rw [siftDown, dif_neg (by omega), if_neg (by rw [hc]; simp)]
  cases ltInt d[first + root]! d[first + (2 * root + 1)]! <;> simp
theorem sift_two {hi first root : Nat} {d : Array Int} (h : 2 * root + 1 < hi) (hc : (decide (2 * root + 1 + 1 < hi) && ltInt d[first + (2 * root + 1)]! d[first + (2 * root + 1) + 1]!) = true) :
    siftDown ltInt hi first root d = if ltInt d[first + root]! d[first + (2 * root + 2)]! = true then siftDown ltInt hi first (2 * root + 2) (swp d (first + root) (first + (2 * root + 2))) else d := by
  have h2 : 2 * root + 2 < hi := by simp only [Bool.and_eq_true, decide_eq_true_eq] at hc; omega
  rw [siftDown, dif_neg (by omega), if_pos hc]
  cases ltInt d[first + root]! d[first + (2 * root + 2)]!
  · simp
  · simp [h2]
set_option maxHeartbeats 4000000 in
theorem siftU_any (w : World) (blk cap lo hi first n : Nat) (d : Array Int) (hH : RowU w blk d) (hn : d.size = n) (hhi : first + hi ≤ n) (hlo : lo ≤ 1000) (hsz : n ≤ 1000) :
    Calls Tryz.prog 159 #[.slice (some ⟨blk, 0, none⟩) n cap, .int .i64 lo, .int .i64 hi, .int .i64 first] w fun e w' =>
      e = .returned (.tuple #[]) ∧ GotU w blk n (siftDown ltInt hi first lo d) w' := by
  have HD := hid hH
  have HN := hid hn
  clear hH hn
  go_enter Tryz.func159, Tryz.ntmps159
  go_wp2_with fail
  go_loopw [8] (fun v wr => ∃ (root : Nat) (dk : Array Int), v = .int .i64 root ∧ root ≤ 1000 ∧ Hid (GotU w blk n dk wr) ∧ Hid (siftDown ltInt hi first root dk = siftDown ltInt hi first lo d)) (fun v _ => 2000 - (intOf v).toNat)
  case atStart => exact ⟨lo, d, rfl, hlo, by rw [← HN.out]; exact GotU.refl HD.out, rfl⟩
  case round =>
    obtain ⟨root, dk, rfl, hr, hG, hE⟩ := hrel
    obtain ⟨ch, hch⟩ : ∃ ch, ch = 2 * root + 1 := ⟨_, rfl⟩
    have hchi : (2 : Int) * (root : Int) + 1 = (ch : Int) := by omega
    have HCH := hid hch
    have hm : (2 : Int) * (root : Int) ≤ 2000 := by omega
    have hm0 : 0 ≤ (2 : Int) * (root : Int) := by omega
    clear hch
    by_cases hlt : ch < hi
    · have hlti : ¬ (hi : Int) ≤ (ch : Int) := by omega
      have hc1 : ch + 1 ≤ 2002 := by have := HCH.out; omega
      go_upto_region 3 with fail
      go_cut [36] (fun t36 wx => ∃ r, t36 = .bool r ∧ Hid ((decide (2 * root + 1 + 1 < hi) && ltInt dk[first + (2 * root + 1)]! dk[first + (2 * root + 1) + 1]!) = r) ∧ Hid (Below wr.heap.size wr wx))
      case first =>
        clear hm hm0
        by_cases hg : ch + 1 < hi
        · have hd : decide ((ch : Int) + 1 < (hi : Int)) = true := decide_eq_true (by omega)
          have hdn : decide (ch + 1 < hi) = true := decide_eq_true hg
          have ⟨x, hx⟩ : ∃ x, dk[first + ch]! = x := ⟨_, rfl⟩
          have ⟨y, hy⟩ : ∃ y, dk[first + ch + 1]! = y := ⟨_, rfl⟩
          have i1 : (first : Int) + (ch : Int) < (n : Int) := by omega
          have i2 : (first : Int) + (ch : Int) + 1 < (n : Int) := by omega
          have j1 : ((first : Int) + (ch : Int)).toNat = first + ch := by omega
          have j2 : ((first : Int) + (ch : Int) + 1).toNat = first + ch + 1 := by omega
          have z1 : (0 : Int) ≤ (first : Int) + (ch : Int) := by omega
          have z2 : (0 : Int) ≤ (first : Int) + (ch : Int) + 1 := by omega
          have c1 := Wk.cell (hG.out.cell (i := first + ch) (by omega) hx)
          have c2 := Wk.cell (hG.out.cell (i := first + ch + 1) (by omega) hy)
          obtain ⟨r, hr2⟩ : ∃ r, ltInt x y = r := ⟨_, rfl⟩
          have HL := hid (fun w => less_at hr2 w)
          have HRR : Hid ((decide (2 * root + 1 + 1 < hi) && ltInt dk[first + (2 * root + 1)]! dk[first + (2 * root + 1) + 1]!) = r) := by
            show _ = _
            rw [← HCH.out, hdn, hx, hy, hr2]; rfl
          clear hx hy hr2
          refine wp_region_wk (by kernel_rfl) (by kernel_rfl) ?_
          repeat (go_big_quiet_step (first | (go_at_call 138; exact Wk.same (HL.out _)) | fail))
          refine wpQuiet_nil ?_
          rintro w3 ⟨⟨_, hb3⟩, rfl⟩
          go_wp2_with fail
          go_meet
          exact ⟨r, rfl, HRR.out, hb3⟩
        · have hd : decide ((ch : Int) + 1 < (hi : Int)) = false := decide_eq_false (by omega)
          have hdn : decide (ch + 1 < hi) = false := decide_eq_false hg
          have HRR : Hid ((decide (2 * root + 1 + 1 < hi) && ltInt dk[first + (2 * root + 1)]! dk[first + (2 * root + 1) + 1]!) = false) := by
            show _ = _
            rw [← HCH.out, hdn]; rfl
          refine wp_region_wk (by kernel_rfl) (by kernel_rfl) ?_
          repeat (go_big_quiet_step (fail))
          refine wpQuiet_nil ?_
          rintro w3 ⟨⟨_, hb3⟩, rfl⟩
          go_wp2_with fail
          go_meet
          exact ⟨false, rfl, HRR.out, hb3⟩
      obtain ⟨r, rfl, hrr, hbc⟩ := hcut
      have hGc := hid (hG.out.below hbc.out)
      cases r
      · obtain ⟨c, hc⟩ : ∃ c, c = ch := ⟨_, rfl⟩
        have hci : (ch : Int) = (c : Int) := by omega
        have hcn : first + c < n := by omega
        have HC := hid (show c = 2 * root + 1 by have := HCH.out; omega)
        have hstep := sift_one (first := first) (d := dk) (by have := HCH.out; omega) hrr.out
        have hroot : first + root < n := by have := HC.out; omega
        have ⟨x, hx⟩ : ∃ x, dk[first + root]! = x := ⟨_, rfl⟩
        have ⟨y, hy⟩ : ∃ y, dk[first + c]! = y := ⟨_, rfl⟩
        have i1 : (first : Int) + (root : Int) < (n : Int) := by omega
        have i2 : (first : Int) + (c : Int) < (n : Int) := by omega
        have j1 : ((first : Int) + (root : Int)).toNat = first + root := by omega
        have j2 : ((first : Int) + (c : Int)).toNat = first + c := by omega
        have z1 : (0 : Int) ≤ (first : Int) + (root : Int) := by omega
        have z2 : (0 : Int) ≤ (first : Int) + (c : Int) := by omega
        have k1 := hGc.out.cell (i := first + root) (by omega) hx
        have k2 := hGc.out.cell (i := first + c) (by omega) hy
        have K := hid (And.intro k1 k2)
        have c1 := Wk.cell k1
        have c2 := Wk.cell k2
        obtain ⟨r, hr2⟩ : ∃ r, ltInt x y = r := ⟨_, rfl⟩
        have HL := hid (fun w => less_at hr2 w)
        rw [← HC.out, hx, hy, hr2] at hstep
        have HST := hid hstep
        have HXY := hid (And.intro hx hy)
        clear k1 k2 hx hy hr2 hstep hc
        go_upto_region 5 with fail
        refine wp_region_wk (by kernel_rfl) (by kernel_rfl) ?_
        repeat (go_big_quiet_step (first | (go_at_call 138; exact Wk.same (HL.out _)) | fail))
        refine wpQuiet_nil ?_
        rintro w3 ⟨⟨_, hb3⟩, rfl⟩
        have hG3 := hid (hGc.out.below hb3)
        clear c1 c2 hb3
        cases r
        · have HE2 : Hid (siftDown ltInt hi first lo d = dk) := by show _ = _; rw [← hE.out, HST.out]; rfl
          go_wp2_with fail
          exact bodyPost_ret (results_none rfl _ _ _) rfl ⟨rfl, by rw [HE2.out]; exact hG3.out⟩
        · have HE2 : Hid (siftDown ltInt hi first c (swp dk (first + root) (first + c)) = siftDown ltInt hi first lo d) := by show _ = _; rw [← hE.out, HST.out]; rfl
          have k1 := hG3.out.cell (i := first + c) (by omega) HXY.out.2
          have k2 := hG3.out.cell (i := first + root) (by omega) HXY.out.1
          have hf := hG3.out.row.free
          have HS := hid (hG3.out.swp (i := first + root) (j := first + c) (by omega) (by omega) HXY.out.2 HXY.out.1)
          go_upto_region 6 with fail
          go_region
          have hS := HS.out
          generalize ((w3.setCell ⟨blk, first + root, none⟩ (.int .u64 y)).setCell ⟨blk, first + c, none⟩ (.int .u64 x)).drew = w4 at hS ⊢
          have HS4 := hid hS
          clear hS k1 k2 hf
          go_wp2_with fail
          go_roundw
          case rel => exact ⟨c, swp dk (first + root) (first + c), by first | rfl | go_num, by omega, HS4.out, HE2.out⟩
          case measure => simp [intOf]; have := HC.out; omega
      · obtain ⟨c, hc⟩ : ∃ c, c = ch + 1 := ⟨_, rfl⟩
        have hci : (ch : Int) + 1 = (c : Int) := by omega
        have hcn : first + c < n := by have h := hrr.out; simp only [Bool.and_eq_true, decide_eq_true_eq] at h; have := HCH.out; omega
        have HC := hid (show c = 2 * root + 2 by have := HCH.out; omega)
        have hstep := sift_two (first := first) (d := dk) (by have := HCH.out; omega) hrr.out
        have hroot : first + root < n := by have := HC.out; omega
        have ⟨x, hx⟩ : ∃ x, dk[first + root]! = x := ⟨_, rfl⟩
        have ⟨y, hy⟩ : ∃ y, dk[first + c]! = y := ⟨_, rfl⟩
        have i1 : (first : Int) + (root : Int) < (n : Int) := by omega
        have i2 : (first : Int) + (c : Int) < (n : Int) := by omega
        have j1 : ((first : Int) + (root : Int)).toNat = first + root := by omega
        have j2 : ((first : Int) + (c : Int)).toNat = first + c := by omega
        have z1 : (0 : Int) ≤ (first : Int) + (root : Int) := by omega
        have z2 : (0 : Int) ≤ (first : Int) + (c : Int) := by omega
        have k1 := hGc.out.cell (i := first + root) (by omega) hx
        have k2 := hGc.out.cell (i := first + c) (by omega) hy
        have K := hid (And.intro k1 k2)
        have c1 := Wk.cell k1
        have c2 := Wk.cell k2
        obtain ⟨r, hr2⟩ : ∃ r, ltInt x y = r := ⟨_, rfl⟩
        have HL := hid (fun w => less_at hr2 w)
        rw [← HC.out, hx, hy, hr2] at hstep
        have HST := hid hstep
        have HXY := hid (And.intro hx hy)
        clear k1 k2 hx hy hr2 hstep hc
        go_upto_region 5 with fail
        refine wp_region_wk (by kernel_rfl) (by kernel_rfl) ?_
        repeat (go_big_quiet_step (first | (go_at_call 138; exact Wk.same (HL.out _)) | fail))
        refine wpQuiet_nil ?_
        rintro w3 ⟨⟨_, hb3⟩, rfl⟩
        have hG3 := hid (hGc.out.below hb3)
        clear c1 c2 hb3
        cases r
        · have HE2 : Hid (siftDown ltInt hi first lo d = dk) := by show _ = _; rw [← hE.out, HST.out]; rfl
          go_wp2_with fail
          exact bodyPost_ret (results_none rfl _ _ _) rfl ⟨rfl, by rw [HE2.out]; exact hG3.out⟩
        · have HE2 : Hid (siftDown ltInt hi first c (swp dk (first + root) (first + c)) = siftDown ltInt hi first lo d) := by show _ = _; rw [← hE.out, HST.out]; rfl
          have k1 := hG3.out.cell (i := first + c) (by omega) HXY.out.2
          have k2 := hG3.out.cell (i := first + root) (by omega) HXY.out.1
          have hf := hG3.out.row.free
          have HS := hid (hG3.out.swp (i := first + root) (j := first + c) (by omega) (by omega) HXY.out.2 HXY.out.1)
          go_upto_region 6 with fail
          go_region
          have hS := HS.out
          generalize ((w3.setCell ⟨blk, first + root, none⟩ (.int .u64 y)).setCell ⟨blk, first + c, none⟩ (.int .u64 x)).drew = w4 at hS ⊢
          have HS4 := hid hS
          clear hS k1 k2 hf
          go_wp2_with fail
          go_roundw
          case rel => exact ⟨c, swp dk (first + root) (first + c), by first | rfl | go_num, by omega, HS4.out, HE2.out⟩
          case measure => simp [intOf]; have := HC.out; omega
    · have hlti : (hi : Int) ≤ (ch : Int) := by omega
      have HE2 : Hid (siftDown ltInt hi first lo d = dk) := by show _ = _; rw [← hE.out]; exact sift_end (by have := HCH.out; omega)
      go_wp2_with fail
      first
        | exact bodyPost_ret (results_none rfl _ _ _) rfl ⟨rfl, by rw [HE2.out]; exact hG.out⟩
        | (go_end0; exact ⟨rfl, by rw [HE2.out]; exact hG.out⟩)
end Go.Proofs.YtdjlbejhphbcoaaGreat
namespace Go.Proofs.YtdjlbejhphbcoaaGreat
open Go.RowKit Go.Sort
set_option linter.unusedVariables false
set_option maxRecDepth 100000

set_option maxHeartbeats 4000000 in
theorem heapU_any (w : World) (blk cap a b n : Nat) (d : Array Int) (hH : RowU w blk d) (hn : d.size = n) (hab : a < b) (hb : b ≤ n) (hsz : n ≤ 1000) :
    Calls Tryz.prog 133 #[.slice (some ⟨blk, 0, none⟩) n cap, .int .i64 a, .int .i64 b] w fun e w' =>
      e = .returned (.tuple #[]) ∧ GotU w blk n (heapSort ltInt d a b) w' := by
  have HD := hid hH
  have HN := hid hn
  obtain ⟨h, hh⟩ : ∃ h, h = b - a := ⟨_, rfl⟩
  have hhi : (b : Int) - (a : Int) = (h : Int) := by omega
  have h0 : 0 < h := by omega
  have HHH := hid hh
  obtain ⟨q, hq⟩ : ∃ q, q = (h - 1) / 2 := ⟨_, rfl⟩
  have hqi : ((h : Int) - 1).tdiv 2 = (q : Int) := by rw [Int.tdiv_eq_ediv_of_nonneg (by omega)]; omega
  have hqd : ((h : Int) - 1) / 2 = (q : Int) := by omega
  have HQ := hid hq
  clear hH hn hh hq
  go_enter Tryz.func133, Tryz.ntmps133
  go_wp2_with fail
  go_loopw [9] (fun v wr => ∃ (k : Nat) (dk : Array Int), v = .int .i64 ((k : Int) - 1) ∧ k ≤ q + 1 ∧ Hid (GotU w blk n dk wr) ∧ Hid (heapBuild ltInt h a k dk = heapBuild ltInt h a (q + 1) d)) (fun v _ => (intOf v + 1).toNat)
  case atStart => exact ⟨q + 1, d, by go_num, Nat.le_refl _, by rw [← HN.out]; exact GotU.refl HD.out, rfl⟩
  case round =>
    obtain ⟨k, dk, rfl, hk, hG, hE⟩ := hrel
    by_cases hk0 : 0 < k
    · obtain ⟨j, rfl⟩ : ∃ j, k = j + 1 := ⟨k - 1, by omega⟩
      have hji : (((j + 1 : Nat) : Int) - 1) = (j : Int) := by omega
      have hj0 : (0 : Int) ≤ (j : Int) := by omega
      have hqh : q ≤ 1000 := by have := HQ.out; have := HHH.out; omega
      have HS := hid (siftU_any wr blk cap j h a n dk hG.out.row hG.out.size (by have := HHH.out; omega) (by omega) hsz)
      have HE2 : Hid (heapBuild ltInt h a j (siftDown ltInt h a j dk) = heapBuild ltInt h a (q + 1) d) := hE.out
      rw [hji]
      go_wp2_with fail
      refine HS.out.mono ?_
      rintro e w2 ⟨rfl, hg⟩
      have HG2 := hid (hG.out.trans hg)
      clear hg
      go_wp2_with fail
      go_roundw
      case rel => exact ⟨j, siftDown ltInt h a j dk, by go_num, by omega, HG2.out, HE2.out⟩
      case measure => first | (simp [intOf]; done) | (simp [intOf]; omega)
    · obtain rfl : k = 0 := by omega
      have HE2 : Hid (dk = heapBuild ltInt h a (q + 1) d) := hE.out
      go_wp2_with fail
      go_loopw [10] (fun v wr => ∃ (k : Nat) (dl : Array Int), v = .int .i64 ((k : Int) - 1) ∧ k ≤ h ∧ Hid (GotU w blk n dl wr) ∧ Hid (heapPop ltInt a k dl = heapPop ltInt a h dk)) (fun v _ => (intOf v + 1).toNat)
      case atStart => exact ⟨h, dk, by go_num, Nat.le_refl _, hG.out, rfl⟩
      case round =>
        obtain ⟨k, dl, rfl, hk2, hG2, hE3⟩ := hrel
        by_cases hk0 : 0 < k
        · obtain ⟨j, rfl⟩ : ∃ j, k = j + 1 := ⟨k - 1, by omega⟩
          have hji : (((j + 1 : Nat) : Int) - 1) = (j : Int) := by omega
          have hj0 : (0 : Int) ≤ (j : Int) := by omega
          have hjh : j < h := by omega
          have hHb : a + h = b := by have := HHH.out; omega
          have ⟨x, hx⟩ : ∃ x, dl[a + j]! = x := ⟨_, rfl⟩
          have ⟨y, hy⟩ : ∃ y, dl[a]! = y := ⟨_, rfl⟩
          have i1 : (a : Int) + (j : Int) < (n : Int) := by omega
          have i2 : (a : Int) < (n : Int) := by omega
          have j1 : ((a : Int) + (j : Int)).toNat = a + j := by omega
          have z1 : (0 : Int) ≤ (a : Int) + (j : Int) := by omega
          have k1 := hG2.out.cell (i := a + j) (by omega) hx
          have k2 := hG2.out.cell (i := a) (by omega) hy
          have hf := hG2.out.row.free
          have k3 : (wr.setCell ⟨blk, a, none⟩ (.int .u64 x)).cell? ⟨blk, a + j, none⟩ = some (.int .u64 x) := by
            by_cases hjz : j = 0
            · subst hjz; exact World.cell?_setCell_same _ _ _ k2
            · exact (World.cell?_setCell_other _ _ _ _ (by intro e; injection e with _ e2; omega)).trans k1
          have HS := hid (hG2.out.swp (i := a) (j := a + j) (by omega) (by omega) hx hy)
          have HE4 : Hid (heapPop ltInt a j (siftDown ltInt j a 0 (swp dl a (a + j))) = heapPop ltInt a h dk) := hE3.out
          clear hx hy hHb
          rw [hji]
          go_upto_region 10 with fail
          go_region
          have hS := HS.out
          generalize ((wr.setCell ⟨blk, a, none⟩ (.int .u64 x)).setCell ⟨blk, a + j, none⟩ (.int .u64 y)).drew = w4 at hS ⊢
          have HS4 := hid hS
          have HSI := hid (siftU_any w4 blk cap 0 j a n (swp dl a (a + j)) HS4.out.row HS4.out.size (by omega) (by omega) hsz)
          clear hS k1 k2 k3 hf
          go_wp2_with fail
          refine HSI.out.mono ?_
          rintro e w5 ⟨rfl, hg⟩
          have HG5 := hid (HS4.out.trans hg)
          clear hg
          go_wp2_with fail
          go_roundw
          case rel => exact ⟨_, _, _, _, _, _, _, _, _, _, _, _, _, _, _, _, _, _, _, _, _, _, _, _, _, _, _, _, ⟨j, _, by go_num, by omega, HG5.out, HE4.out⟩, rfl⟩
          case measure => first | (simp [intOf]; done) | (simp [intOf]; omega)
        · obtain rfl : k = 0 := by omega
          have HE5 : Hid (heapSort ltInt d a b = dl) := by
            show _ = _
            unfold heapSort
            rw [← HHH.out, ← HQ.out, ← HE2.out, ← hE3.out]; rfl
          go_wp2_with fail
          go_end0
          exact ⟨rfl, by rw [HE5.out]; exact hG2.out⟩
end Go.Proofs.YtdjlbejhphbcoaaGreat
