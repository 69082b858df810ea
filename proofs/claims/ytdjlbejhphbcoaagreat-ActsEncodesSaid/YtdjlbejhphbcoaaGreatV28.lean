/- Put together out of several texts. -/
import Derived.Test.YtdjlbejhphbcoaaGreatV27
import Derived.Sort.LotA
import Derived.Deep.DeepCutAuto
import Derived.Sort.LotB
import Derived.Sort.LotC
import Derived.Sort.LotD3
namespace Go.Proofs.YtdjlbejhphbcoaaGreat
open Go.RowKit Go.Sort
set_option linter.unusedVariables false
set_option maxRecDepth 100000

theorem sift_end {hi first root : Nat} {d : Array Int} (h : hi ≤ 2 * root + 1) : siftDown ltInt hi first root d = d := by
  rw [siftDown, dif_pos h]
theorem sift_one {hi first root : Nat} {d : Array Int} (h : 2 * root + 1 < hi) (hc : (decide (2 * root + 1 + 1 < hi) && ltInt d[first + (2 * root + 1)]! d[first + (2 * root + 1) + 1]!) = false) :
    siftDown ltInt hi first root d = if ltInt d[first + root]! d[first + (2 * root + 1)]! = true then siftDown ltInt hi first (2 * root + 1) (swp d (first + root) (first + (2 * root + 1))) else d := by
  rw [siftDown, dif_neg (by omega), if_neg (by rw [hc]; simp)]
  cases ltInt d[first + root]! d[first + (2 * root + 1)]! <;> simp
theorem sift_two {hi first root : Nat} {d : Array Int} (h : 2 * root + 1 < hi) (hc : (decide (2 * root + 1 + 1 < hi) && ltInt d[first + (2 * root + 1)]! d[first + (2 * root + 1) + 1]!) = true) :
    siftDown ltInt hi first root d = if ltInt d[first + root]! d[first + (2 * root + 2)]! = true then siftDown ltInt hi first (2 * root + 2) (swp d (first + root) (first + (2 * root + 2))) else d := by
  have h2 : 2 * root + 2 < hi := by simp only [Bool.and_eq_true, decide_eq_true_eq] at hc; omega
  rw [siftDown, dif_neg (by omega), if_pos hc]
  cases ltInt d[first + root]! d[first + (2 * root + 2)]!
  · simp
  · simp [h2]
set_option maxHeartbeats 4000000 in
theorem siftU_any (w : World) (blk cap lo hi first n : Nat) (d : Array Int) (hH : RowU w blk d) (hn : d.size = n) (hhi : first + hi ≤ n) (hlo : lo ≤ 1000) (hsz : n ≤ 1000) :
    Calls Tryz.prog 159 #[.slice (some ⟨blk, 0, none⟩) n cap, .int .i64 lo, .int .i64 hi, .int .i64 first] w fun e w' =>
      e = .returned (.tuple #[]) ∧ GotU w blk n (siftDown ltInt hi first lo d) w' := by
  have HD := hid hH
  have HN := hid hn
  clear hH hn
  go_enter Tryz.func159, Tryz.ntmps159
  go_wp2_with fail
  go_loopw [8] (fun v wr => ∃ (root : Nat) (dk : Array Int), v = .int .i64 root ∧ root ≤ 1000 ∧ Hid (GotU w blk n dk wr) ∧ Hid (siftDown ltInt hi first root dk = siftDown ltInt hi first lo d)) (fun v _ => 2000 - (intOf v).toNat)
  case atStart => exact ⟨lo, d, rfl, hlo, by rw [← HN.out]; exact GotU.refl HD.out, rfl⟩
  case round =>
    obtain ⟨root, dk, rfl, hr, hG, hE⟩ := hrel
    obtain ⟨ch, hch⟩ : ∃ ch, ch = 2 * root + 1 := ⟨_, rfl⟩
    have hchi : (2 : Int) * (root : Int) + 1 = (ch : Int) := by omega
    have HCH := hid hch
    have hm : (2 : Int) * (root : Int) ≤ 2000 := by omega
    have hm0 : 0 ≤ (2 : Int) * (root : Int) := by omega
    clear hch
    by_cases hlt : ch < hi
    · have hlti : ¬ (hi : Int) ≤ (ch : Int) := by omega
      have hc1 : ch + 1 ≤ 2002 := by have := HCH.out; omega
      go_upto_region 3 with fail
      go_cut [36] (fun t36 wx => ∃ r, t36 = .bool r ∧ Hid ((decide (2 * root + 1 + 1 < hi) && ltInt dk[first + (2 * root + 1)]! dk[first + (2 * root + 1) + 1]!) = r) ∧ Hid (Below wr.heap.size wr wx))
      case first =>
        clear hm hm0
        by_cases hg : ch + 1 < hi
        · have hd : decide ((ch : Int) + 1 < (hi : Int)) = true := decide_eq_true (by omega)
          have hdn : decide (ch + 1 < hi) = true := decide_eq_true hg
          have ⟨x, hx⟩ : ∃ x, dk[first + ch]! = x := ⟨_, rfl⟩
          have ⟨y, hy⟩ : ∃ y, dk[first + ch + 1]! = y := ⟨_, rfl⟩
          have i1 : (first : Int) + (ch : Int) < (n : Int) := by omega
          have i2 : (first : Int) + (ch : Int) + 1 < (n : Int) := by omega
          have j1 : ((first : Int) + (ch : Int)).toNat = first + ch := by omega
          have j2 : ((first : Int) + (ch : Int) + 1).toNat = first + ch + 1 := by omega
          have z1 : (0 : Int) ≤ (first : Int) + (ch : Int) := by omega
          have z2 : (0 : Int) ≤ (first : Int) + (ch : Int) + 1 := by omega
          have c1 := Wk.cell (hG.out.cell (i := first + ch) (by omega) hx)
          have c2 := Wk.cell (hG.out.cell (i := first + ch + 1) (by omega) hy)
          obtain ⟨r, hr2⟩ : ∃ r, ltInt x y = r := ⟨_, rfl⟩
          have HL := hid (fun w => less_at hr2 w)
          have HRR : Hid ((decide (2 * root + 1 + 1 < hi) && ltInt dk[first + (2 * root + 1)]! dk[first + (2 * root + 1) + 1]!) = r) := by
            show _ = _
            rw [← HCH.out, hdn, hx, hy, hr2]; rfl
          clear hx hy hr2
          refine wp_region_wk (by kernel_rfl) (by kernel_rfl) ?_
          repeat (go_big_quiet_step (first | (go_at_call 138; exact Wk.same (HL.out _)) | fail))
          refine wpQuiet_nil ?_
          rintro w3 ⟨⟨_, hb3⟩, rfl⟩
          go_wp2_with fail
          go_meet
          exact ⟨r, rfl, HRR.out, hb3⟩
        · have hd : decide ((ch : Int) + 1 < (hi : Int)) = false := decide_eq_false (by omega)
          have hdn : decide (ch + 1 < hi) = false := decide_eq_false hg
          have HRR : Hid ((decide (2 * root + 1 + 1 < hi) && ltInt dk[first + (2 * root + 1)]! dk[first + (2 * root + 1) + 1]!) = false) := by
            show _ = _
            rw [← HCH.out, hdn]; rfl
          refine wp_region_wk (by kernel_rfl) (by kernel_rfl) ?_
          repeat (go_big_quiet_step (fail))
          refine wpQuiet_nil ?_
          rintro w3 ⟨⟨_, hb3⟩, rfl⟩
          go_wp2_with fail
          go_meet
          exact ⟨false, rfl, HRR.out, hb3⟩
      obtain ⟨r, rfl, hrr, hbc⟩ := hcut
      have hGc := hid (hG.out.below hbc.out)
      cases r
      · obtain ⟨c, hc⟩ : ∃ c, c = ch := ⟨_, rfl⟩
        have hci : (ch : Int) = (c : Int) := by omega
        have hcn : first + c < n := by omega
        have HC := hid (show c = 2 * root + 1 by have := HCH.out; omega)
        have hstep := sift_one (first := first) (d := dk) (by have := HCH.out; omega) hrr.out
        have hroot : first + root < n := by have := HC.out; omega
        have ⟨x, hx⟩ : ∃ x, dk[first + root]! = x := ⟨_, rfl⟩
        have ⟨y, hy⟩ : ∃ y, dk[first + c]! = y := ⟨_, rfl⟩
        have i1 : (first : Int) + (root : Int) < (n : Int) := by omega
        have i2 : (first : Int) + (c : Int) < (n : Int) := by omega
        have j1 : ((first : Int) + (root : Int)).toNat = first + root := by omega
        have j2 : ((first : Int) + (c : Int)).toNat = first + c := by omega
        have z1 : (0 : Int) ≤ (first : Int) + (root : Int) := by omega
        have z2 : (0 : Int) ≤ (first : Int) + (c : Int) := by omega
        have k1 := hGc.out.cell (i := first + root) (by omega) hx
        have k2 := hGc.out.cell (i := first + c) (by omega) hy
        have K := hid (And.intro k1 k2)
        have c1 := Wk.cell k1
        have c2 := Wk.cell k2
        obtain ⟨r, hr2⟩ : ∃ r, ltInt x y = r := ⟨_, rfl⟩
        have HL := hid (fun w => less_at hr2 w)
        rw [← HC.out, hx, hy, hr2] at hstep
        have HST := hid hstep
        have HXY := hid (And.intro hx hy)
        clear k1 k2 hx hy hr2 hstep hc
        go_upto_region 5 with fail
        refine wp_region_wk (by kernel_rfl) (by kernel_rfl) ?_
        repeat (go_big_quiet_step (first | (go_at_call 138; exact Wk.same (HL.out _)) | fail))
        refine wpQuiet_nil ?_
        rintro w3 ⟨⟨_, hb3⟩, rfl⟩
        have hG3 := hid (hGc.out.below hb3)
        clear c1 c2 hb3
        cases r
        · have HE2 : Hid (siftDown ltInt hi first lo d = dk) := by show _ = _; rw [← hE.out, HST.out]; rfl
          go_wp2_with fail
          exact bodyPost_ret (results_none rfl _ _ _) rfl ⟨rfl, by rw [HE2.out]; exact hG3.out⟩
        · have HE2 : Hid (siftDown ltInt hi first c (swp dk (first + root) (first + c)) = siftDown ltInt hi first lo d) := by show _ = _; rw [← hE.out, HST.out]; rfl
          have k1 := hG3.out.cell (i := first + c) (by omega) HXY.out.2
          have k2 := hG3.out.cell (i := first + root) (by omega) HXY.out.1
          have hf := hG3.out.row.free
          have HS := hid (hG3.out.swp (i := first + root) (j := first + c) (by omega) (by omega) HXY.out.2 HXY.out.1)
          go_upto_region 6 with fail
          go_region
          have hS := HS.out
          generalize ((w3.setCell ⟨blk, first + root, none⟩ (.int .u64 y)).setCell ⟨blk, first + c, none⟩ (.int .u64 x)).drew = w4 at hS ⊢
          have HS4 := hid hS
          clear hS k1 k2 hf
          go_wp2_with fail
          go_roundw
          case rel => exact ⟨c, swp dk (first + root) (first + c), by first | rfl | go_num, by omega, HS4.out, HE2.out⟩
          case measure => simp [intOf]; have := HC.out; omega
      · obtain ⟨c, hc⟩ : ∃ c, c = ch + 1 := ⟨_, rfl⟩
        have hci : (ch : Int) + 1 = (c : Int) := by omega
        have hcn : first + c < n := by have h := hrr.out; simp only [Bool.and_eq_true, decide_eq_true_eq] at h; have := HCH.out; omega
        have HC := hid (show c = 2 * root + 2 by have := HCH.out; omega)
        have hstep := sift_two (first := first) (d := dk) (by have := HCH.out; omega) hrr.out
        have hroot : first + root < n := by have := HC.out; omega
        have ⟨x, hx⟩ : ∃ x, dk[first + root]! = x := ⟨_, rfl⟩
        have ⟨y, hy⟩ : ∃ y, dk[first + c]! = y := ⟨_, rfl⟩
        have i1 : (first : Int) + (root : Int) < (n : Int) := by omega
        have i2 : (first : Int) + (c : Int) < (n : Int) := by omega
        have j1 : ((first : Int) + (root : Int)).toNat = first + root := by omega
        have j2 : ((first : Int) + (c : Int)).toNat = first + c := by omega
        have z1 : (0 : Int) ≤ (first : Int) + (root : Int) := by omega
        have z2 : (0 : Int) ≤ (first : Int) + (c : Int) := by omega
        have k1 := hGc.out.cell (i := first + root) (by omega) hx
        have k2 := hGc.out.cell (i := first + c) (by omega) hy
        have K := hid (And.intro k1 k2)
        have c1 := Wk.cell k1
        have c2 := Wk.cell k2
        obtain ⟨r, hr2⟩ : ∃ r, ltInt x y = r := ⟨_, rfl⟩
        have HL := hid (fun w => less_at hr2 w)
        rw [← HC.out, hx, hy, hr2] at hstep
        have HST := hid hstep
        have HXY := hid (And.intro hx hy)
        clear k1 k2 hx hy hr2 hstep hc
        go_upto_region 5 with fail
        refine wp_region_wk (by kernel_rfl) (by kernel_rfl) ?_
        repeat (go_big_quiet_step (first | (go_at_call 138; exact Wk.same (HL.out _)) | fail))
        refine wpQuiet_nil ?_
        rintro w3 ⟨⟨_, hb3⟩, rfl⟩
        have hG3 := hid (hGc.out.below hb3)
        clear c1 c2 hb3
        cases r
        · have HE2 : Hid (siftDown ltInt hi first lo d = dk) := by show _ = _; rw [← hE.out, HST.out]; rfl
          go_wp2_with fail
          exact bodyPost_ret (results_none rfl _ _ _) rfl ⟨rfl, by rw [HE2.out]; exact hG3.out⟩
        · have HE2 : Hid (siftDown ltInt hi first c (swp dk (first + root) (first + c)) = siftDown ltInt hi first lo d) := by show _ = _; rw [← hE.out, HST.out]; rfl
          have k1 := hG3.out.cell (i := first + c) (by omega) HXY.out.2
          have k2 := hG3.out.cell (i := first + root) (by omega) HXY.out.1
          have hf := hG3.out.row.free
          have HS := hid (hG3.out.swp (i := first + root) (j := first + c) (by omega) (by omega) HXY.out.2 HXY.out.1)
          go_upto_region 6 with fail
          go_region
          have hS := HS.out
          generalize ((w3.setCell ⟨blk, first + root, none⟩ (.int .u64 y)).setCell ⟨blk, first + c, none⟩ (.int .u64 x)).drew = w4 at hS ⊢
          have HS4 := hid hS
          clear hS k1 k2 hf
          go_wp2_with fail
          go_roundw
          case rel => exact ⟨c, swp dk (first + root) (first + c), by first | rfl | go_num, by omega, HS4.out, HE2.out⟩
          case measure => simp [intOf]; have := HC.out; omega
    · have hlti : (hi : Int) ≤ (ch : Int) := by omega
      have HE2 : Hid (siftDown ltInt hi first lo d = dk) := by show _ = _; rw [← hE.out]; exact sift_end (by have := HCH.out; omega)
      go_wp2_with fail
      first
        | exact bodyPost_ret (results_none rfl _ _ _) rfl ⟨rfl, by rw [HE2.out]; exact hG.out⟩
        | (go_end0; exact ⟨rfl, by rw [HE2.out]; exact hG.out⟩)
end Go.Proofs.YtdjlbejhphbcoaaGreat
namespace Go.Proofs.YtdjlbejhphbcoaaGreat
open Go.RowKit Go.Sort
set_option linter.unusedVariables false
set_option maxRecDepth 100000

set_option maxHeartbeats 4000000 in
theorem heapU_any (w : World) (blk cap a b n : Nat) (d : Array Int) (hH : RowU w blk d) (hn : d.size = n) (hab : a < b) (hb : b ≤ n) (hsz : n ≤ 1000) :
    Calls Tryz.prog 133 #[.slice (some ⟨blk, 0, none⟩) n cap, .int .i64 a, .int .i64 b] w fun e w' =>
      e = .returned (.tuple #[]) ∧ GotU w blk n (heapSort ltInt d a b) w' := by
  have HD := hid hH
  have HN := hid hn
  obtain ⟨h, hh⟩ : ∃ h, h = b - a := ⟨_, rfl⟩
  have hhi : (b : Int) - (a : Int) = (h : Int) := by omega
  have h0 : 0 < h := by omega
  have HHH := hid hh
  obtain ⟨q, hq⟩ : ∃ q, q = (h - 1) / 2 := ⟨_, rfl⟩
  have hqi : ((h : Int) - 1).tdiv 2 = (q : Int) := by rw [Int.tdiv_eq_ediv_of_nonneg (by omega)]; omega
  have hqd : ((h : Int) - 1) / 2 = (q : Int) := by omega
  have HQ := hid hq
  clear hH hn hh hq
  go_enter Tryz.func133, Tryz.ntmps133
  go_wp2_with fail
  go_loopw [9] (fun v wr => ∃ (k : Nat) (dk : Array Int), v = .int .i64 ((k : Int) - 1) ∧ k ≤ q + 1 ∧ Hid (GotU w blk n dk wr) ∧ Hid (heapBuild ltInt h a k dk = heapBuild ltInt h a (q + 1) d)) (fun v _ => (intOf v + 1).toNat)
  case atStart => exact ⟨q + 1, d, by go_num, Nat.le_refl _, by rw [← HN.out]; exact GotU.refl HD.out, rfl⟩
  case round =>
    obtain ⟨k, dk, rfl, hk, hG, hE⟩ := hrel
    by_cases hk0 : 0 < k
    · obtain ⟨j, rfl⟩ : ∃ j, k = j + 1 := ⟨k - 1, by omega⟩
      have hji : (((j + 1 : Nat) : Int) - 1) = (j : Int) := by omega
      have hj0 : (0 : Int) ≤ (j : Int) := by omega
      have hqh : q ≤ 1000 := by have := HQ.out; have := HHH.out; omega
      have HS := hid (siftU_any wr blk cap j h a n dk hG.out.row hG.out.size (by have := HHH.out; omega) (by omega) hsz)
      have HE2 : Hid (heapBuild ltInt h a j (siftDown ltInt h a j dk) = heapBuild ltInt h a (q + 1) d) := hE.out
      rw [hji]
      go_wp2_with fail
      refine HS.out.mono ?_
      rintro e w2 ⟨rfl, hg⟩
      have HG2 := hid (hG.out.trans hg)
      clear hg
      go_wp2_with fail
      go_roundw
      case rel => exact ⟨j, siftDown ltInt h a j dk, by go_num, by omega, HG2.out, HE2.out⟩
      case measure => first | (simp [intOf]; done) | (simp [intOf]; omega)
    · obtain rfl : k = 0 := by omega
      have HE2 : Hid (dk = heapBuild ltInt h a (q + 1) d) := hE.out
      go_wp2_with fail
      go_loopw [10] (fun v wr => ∃ (k : Nat) (dl : Array Int), v = .int .i64 ((k : Int) - 1) ∧ k ≤ h ∧ Hid (GotU w blk n dl wr) ∧ Hid (heapPop ltInt a k dl = heapPop ltInt a h dk)) (fun v _ => (intOf v + 1).toNat)
      case atStart => exact ⟨h, dk, by go_num, Nat.le_refl _, hG.out, rfl⟩
      case round =>
        obtain ⟨k, dl, rfl, hk2, hG2, hE3⟩ := hrel
        by_cases hk0 : 0 < k
        · obtain ⟨j, rfl⟩ : ∃ j, k = j + 1 := ⟨k - 1, by omega⟩
          have hji : (((j + 1 : Nat) : Int) - 1) = (j : Int) := by omega
          have hj0 : (0 : Int) ≤ (j : Int) := by omega
          have hjh : j < h := by omega
          have hHb : a + h = b := by have := HHH.out; omega
          have ⟨x, hx⟩ : ∃ x, dl[a + j]! = x := ⟨_, rfl⟩
          have ⟨y, hy⟩ : ∃ y, dl[a]! = y := ⟨_, rfl⟩
          have i1 : (a : Int) + (j : Int) < (n : Int) := by omega
          have i2 : (a : Int) < (n : Int) := by omega
          have j1 : ((a : Int) + (j : Int)).toNat = a + j := by omega
          have z1 : (0 : Int) ≤ (a : Int) + (j : Int) := by omega
          have k1 := hG2.out.cell (i := a + j) (by omega) hx
          have k2 := hG2.out.cell (i := a) (by omega) hy
          have hf := hG2.out.row.free
          have k3 : (wr.setCell ⟨blk, a, none⟩ (.int .u64 x)).cell? ⟨blk, a + j, none⟩ = some (.int .u64 x) := by
            by_cases hjz : j = 0
            · subst hjz; exact World.cell?_setCell_same _ _ _ k2
            · exact (World.cell?_setCell_other _ _ _ _ (by intro e; injection e with _ e2; omega)).trans k1
          have HS := hid (hG2.out.swp (i := a) (j := a + j) (by omega) (by omega) hx hy)
          have HE4 : Hid (heapPop ltInt a j (siftDown ltInt j a 0 (swp dl a (a + j))) = heapPop ltInt a h dk) := hE3.out
          clear hx hy hHb
          rw [hji]
          go_upto_region 10 with fail
          go_region
          have hS := HS.out
          generalize ((wr.setCell ⟨blk, a, none⟩ (.int .u64 x)).setCell ⟨blk, a + j, none⟩ (.int .u64 y)).drew = w4 at hS ⊢
          have HS4 := hid hS
          have HSI := hid (siftU_any w4 blk cap 0 j a n (swp dl a (a + j)) HS4.out.row HS4.out.size (by omega) (by omega) hsz)
          clear hS k1 k2 k3 hf
          go_wp2_with fail
          refine HSI.out.mono ?_
          rintro e w5 ⟨rfl, hg⟩
          have HG5 := hid (HS4.out.trans hg)
          clear hg
          go_wp2_with fail
          go_roundw
          case rel => exact ⟨_, _, _, _, _, _, _, _, _, _, _, _, _, _, _, _, _, _, _, _, _, _, _, _, _, _, _, _, ⟨j, _, by go_num, by omega, HG5.out, HE4.out⟩, rfl⟩
          case measure => first | (simp [intOf]; done) | (simp [intOf]; omega)
        · obtain rfl : k = 0 := by omega
          have HE5 : Hid (heapSort ltInt d a b = dl) := by
            show _ = _
            unfold heapSort
            rw [← HHH.out, ← HQ.out, ← HE2.out, ← hE3.out]; rfl
          go_wp2_with fail
          go_end0
          exact ⟨rfl, by rw [HE5.out]; exact hG2.out⟩
end Go.Proofs.YtdjlbejhphbcoaaGreat
namespace Go.Proofs.YtdjlbejhphbcoaaGreat
open Go.RowKit Go.Sort
set_option linter.unusedVariables false
set_option maxRecDepth 100000

theorem lt_of_scans2 {p q : Int → Bool} (hpq : ∀ x, q x = !p x) {d : Array Int} {i j j0 : Nat} (h1 : (decide (i ≤ j0) && p d[i]!) = false) (h2 : (decide (i ≤ j) && q d[j]!) = false) (hj : j ≤ j0) (hij : i ≤ j) : i < j :=
  lt_of_scans (p := p) h1 (by rw [← hpq]; exact h2) hj hij
set_option maxHeartbeats 8000000 in
theorem partEqU_any (w : World) (blk cap a b pivot n : Nat) (d : Array Int) (hH : RowU w blk d) (hn : d.size = n) (hap : a ≤ pivot) (hpb : pivot < b) (h2 : a + 1 < b) (hb : b ≤ n) (hsz : n ≤ 1000) :
    Calls Tryz.prog 139 #[.slice (some ⟨blk, 0, none⟩) n cap, .int .i64 a, .int .i64 b, .int .i64 pivot] w fun e w' =>
      e = .returned (.int .i64 ((partitionEqual ltInt d a b pivot).1 : Nat)) ∧ GotU w blk n (partitionEqual ltInt d a b pivot).2 w' := by
  have HG0 : Hid (GotU w blk n d w) := by show GotU _ _ _ _ _; rw [← hn]; exact GotU.refl hH
  have HN := hid hn
  clear hH hn
  go_enter Tryz.func139, Tryz.ntmps139
  have ⟨x, hx⟩ : ∃ x, d[pivot]! = x := ⟨_, rfl⟩
  have ⟨y, hy⟩ : ∃ y, d[a]! = y := ⟨_, rfl⟩
  have k1 := HG0.out.cell (i := pivot) (by omega) hx
  have k2 := HG0.out.cell (i := a) (by omega) hy
  have k3 := HG0.out.cell2 (i := a) (j := pivot) (by omega) (by omega) hx
  have hf := HG0.out.row.free
  have s1 : (a : Int) < (n : Int) := by omega
  have s2 : (pivot : Int) < (n : Int) := by omega
  have HS := hid (HG0.out.swp (i := a) (j := pivot) (by omega) (by omega) hx hy)
  clear hx hy
  go_upto_region 1 with fail
  go_region
  have hS := HS.out
  generalize ((w.setCell ⟨blk, a, none⟩ (.int .u64 x)).setCell ⟨blk, pivot, none⟩ (.int .u64 y)).drew = w1 at hS ⊢
  have HG1 := hid hS
  clear hS k1 k2 k3 hf s1 s2
  obtain ⟨d1, hd1⟩ : ∃ d1, d1 = swp d a pivot := ⟨_, rfl⟩
  rw [← hd1] at HG1
  have HD1 := hid hd1
  clear hd1
  obtain ⟨i0, hi0⟩ : ∃ i0, i0 = a + 1 := ⟨_, rfl⟩
  obtain ⟨j0, hj0⟩ : ∃ j0, j0 = b - 1 := ⟨_, rfl⟩
  have hi0i : (a : Int) + 1 = (i0 : Int) := by omega
  have hj0i : (b : Int) - 1 = (j0 : Int) := by omega
  have hij0 : i0 ≤ j0 + 1 := by omega
  have hai0 : a < i0 := by omega
  have hjb0 : j0 < b := by omega
  have HIJ := hid (And.intro hi0 hj0)
  clear hi0 hj0
  go_wp2_with fail
  go_loopw [9, 10] (fun vi vj wr => ∃ (i j : Nat) (dk : Array Int), vi = .int .i64 i ∧ vj = .int .i64 j ∧ a < i ∧ i ≤ j + 1 ∧ j < b ∧ Hid (GotU w blk n dk wr) ∧ Hid (partEqLoop ltInt a i j dk = partEqLoop ltInt a i0 j0 d1)) (fun vi vj _ => (intOf vj).toNat + 2 - (intOf vi).toNat)
  case atStart => exact ⟨i0, j0, d1, by first | rfl | go_num, by first | rfl | go_num, hai0, hij0, hjb0, HG1.out, rfl⟩
  case round =>
    clear HG1 hij0 hai0 hjb0
    obtain ⟨i, j, dk, rfl, rfl, hai, hij, hjb, HG, HP⟩ := hrel
    have HPL := hid (partEqLoop_eq ltInt a i j dk)
    go_wp2_with fail
    go_loopw [9] (fun v wx => ∃ (k : Nat), v = .int .i64 k ∧ i ≤ k ∧ k ≤ j + 1 ∧ Hid (GotU w blk n dk wx) ∧ Hid (scanUp (fun x => !ltInt dk[a]! x) dk j k = scanUp (fun x => !ltInt dk[a]! x) dk j i)) (fun v _ => j + 2 - (intOf v).toNat)
    case atStart => exact ⟨i, by first | rfl | go_num, by omega, by omega, HG.out, rfl⟩
    case round =>
      clear HG
      obtain ⟨k, rfl, hk1, hk2, HG, HEQ⟩ := hrel
      go_upto_region 3 with fail
      go_cut [43] (fun t wx => ∃ q, t = .bool q ∧ Hid ((decide (k ≤ j) && (fun x => !ltInt dk[a]! x) dk[k]!) = q) ∧ Hid (Below wr.heap.size wr wx))
      case first =>
        by_cases hg : k ≤ j
        · have hd : decide ((k : Int) ≤ (j : Int)) = true := decide_eq_true (by omega)
          have hdn : decide (k ≤ j) = true := decide_eq_true hg
          have ⟨x, hx⟩ : ∃ x, dk[a]! = x := ⟨_, rfl⟩
          have ⟨y, hy⟩ : ∃ y, dk[k]! = y := ⟨_, rfl⟩
          have bd1 : (k : Int) < (n : Int) := by omega
          have bd2 : (a : Int) < (n : Int) := by omega
          have c1 := Wk.cell (HG.out.cell (i := a) (by omega) hx)
          have c2 := Wk.cell (HG.out.cell (i := k) (by omega) hy)
          obtain ⟨r, hr⟩ : ∃ r, ltInt x y = r := ⟨_, rfl⟩
          have HL := hid (fun w => less_at hr w)
          have HRR : Hid ((decide (k ≤ j) && (fun x => !ltInt dk[a]! x) dk[k]!) = (!r)) := by
            show _ = _
            rw [hdn]
            simp only [Bool.true_and]
            rw [hx, hy, hr]
          clear hx hy hr
          refine wp_region_wk (by kernel_rfl) (by kernel_rfl) ?_
          repeat (go_big_quiet_step (first | (go_at_call 138; exact Wk.same (HL.out _)) | fail))
          refine wpQuiet_nil ?_
          rintro w3 ⟨⟨_, hb3⟩, rfl⟩
          go_wp2_with fail
          go_meet
          exact ⟨(!r), rfl, HRR.out, hb3⟩
        · have hd : decide ((k : Int) ≤ (j : Int)) = false := decide_eq_false (by omega)
          have HRR : Hid ((decide (k ≤ j) && (fun x => !ltInt dk[a]! x) dk[k]!) = false) := by
            show _ = _
            rw [decide_eq_false hg]; rfl
          refine wp_region_wk (by kernel_rfl) (by kernel_rfl) ?_
          repeat (go_big_quiet_step (fail))
          refine wpQuiet_nil ?_
          rintro w3 ⟨⟨_, hb3⟩, rfl⟩
          go_wp2_with fail
          go_meet
          exact ⟨false, rfl, HRR.out, hb3⟩
      obtain ⟨q, rfl, hqq, hbc⟩ := hcut
      have HG := hid (HG.out.below hbc.out)
      cases q
      case true =>
        have hkk : k ≤ j := by have h := hqq.out; simp only [Bool.and_eq_true, decide_eq_true_eq] at h; exact h.1
        have HEQ2 := hid ((scanUp_go hqq.out).symm.trans HEQ.out)
        go_wp2_with fail
        go_roundw
        case rel => exact ⟨k + 1, by go_num, by omega, by omega, HG.out, HEQ2.out⟩
        case measure => first | (simp [intOf]; done) | (simp [intOf]; omega)
      have HU := hid (HEQ.out.symm.trans (scanUp_end hqq.out))
      obtain ⟨i3, rfl⟩ : ∃ i3, i3 = k := ⟨_, rfl⟩
      have HQ3 := hid hqq.out
      clear HEQ hqq hbc
      go_wp2_with fail
      go_loopw [10] (fun v wx => ∃ (m : Nat), v = .int .i64 m ∧ m ≤ j ∧ i3 ≤ m + 1 ∧ Hid (GotU w blk n dk wx) ∧ Hid (scanDown (fun x => ltInt dk[a]! x) dk i3 m = scanDown (fun x => ltInt dk[a]! x) dk i3 j)) (fun v _ => (intOf v).toNat)
      case atStart => exact ⟨j, by first | rfl | go_num, by omega, by omega, HG.out, rfl⟩
      case round =>
        clear HG
        obtain ⟨m, rfl, hk1, hk2, HG, HEQ⟩ := hrel
        go_upto_region 5 with fail
        go_cut [59] (fun t wx => ∃ q, t = .bool q ∧ Hid ((decide (i3 ≤ m) && (fun x => ltInt dk[a]! x) dk[m]!) = q) ∧ Hid (Below wr.heap.size wr wx))
        case first =>
          by_cases hg : i3 ≤ m
          · have hd : decide ((i3 : Int) ≤ (m : Int)) = true := decide_eq_true (by omega)
            have hdn : decide (i3 ≤ m) = true := decide_eq_true hg
            have ⟨x, hx⟩ : ∃ x, dk[a]! = x := ⟨_, rfl⟩
            have ⟨y, hy⟩ : ∃ y, dk[m]! = y := ⟨_, rfl⟩
            have bd1 : (m : Int) < (n : Int) := by omega
            have bd2 : (a : Int) < (n : Int) := by omega
            have c1 := Wk.cell (HG.out.cell (i := a) (by omega) hx)
            have c2 := Wk.cell (HG.out.cell (i := m) (by omega) hy)
            obtain ⟨r, hr⟩ : ∃ r, ltInt x y = r := ⟨_, rfl⟩
            have HL := hid (fun w => less_at hr w)
            have HRR : Hid ((decide (i3 ≤ m) && (fun x => ltInt dk[a]! x) dk[m]!) = r) := by
              show _ = _
              rw [hdn]
              simp only [Bool.true_and]
              rw [hx, hy, hr]
            clear hx hy hr
            refine wp_region_wk (by kernel_rfl) (by kernel_rfl) ?_
            repeat (go_big_quiet_step (first | (go_at_call 138; exact Wk.same (HL.out _)) | fail))
            refine wpQuiet_nil ?_
            rintro w3 ⟨⟨_, hb3⟩, rfl⟩
            go_wp2_with fail
            go_meet
            exact ⟨r, rfl, HRR.out, hb3⟩
          · have hd : decide ((i3 : Int) ≤ (m : Int)) = false := decide_eq_false (by omega)
            have HRR : Hid ((decide (i3 ≤ m) && (fun x => ltInt dk[a]! x) dk[m]!) = false) := by
              show _ = _
              rw [decide_eq_false hg]; rfl
            refine wp_region_wk (by kernel_rfl) (by kernel_rfl) ?_
            repeat (go_big_quiet_step (fail))
            refine wpQuiet_nil ?_
            rintro w3 ⟨⟨_, hb3⟩, rfl⟩
            go_wp2_with fail
            go_meet
            exact ⟨false, rfl, HRR.out, hb3⟩
        obtain ⟨q, rfl, hqq, hbc⟩ := hcut
        have HG := hid (HG.out.below hbc.out)
        cases q
        case true =>
          have hkk : i3 ≤ m := by have h := hqq.out; simp only [Bool.and_eq_true, decide_eq_true_eq] at h; exact h.1
          have HEQ2 := hid ((scanDown_go (by omega) hqq.out).symm.trans HEQ.out)
          go_wp2_with fail
          go_roundw
          case rel => exact ⟨m - 1, by go_num, by omega, by omega, HG.out, HEQ2.out⟩
          case measure => first | (simp [intOf]; done) | (simp [intOf]; omega)
        have HV := hid (HEQ.out.symm.trans (scanDown_end hqq.out))
        obtain ⟨j3, rfl⟩ : ∃ j3, j3 = m := ⟨_, rfl⟩
        have HQ4 := hid hqq.out
        clear HEQ hqq hbc
        by_cases hgt : j3 < i3
        · have hgti : (j3 : Int) < (i3 : Int) := by omega
          have HRES : Hid (partitionEqual ltInt d a b pivot = (i3, dk)) := by
            have h := HPL.out
            rw [HU.out, HV.out, if_pos hgt] at h
            show _ = _
            unfold partitionEqual
            rw [← HD1.out, ← HIJ.out.1, ← HIJ.out.2, ← HP.out, h]
          go_wp2_with fail
          refine bodyPost_ret (v := .int .i64 i3) (by simp [results, Tryz.results139, go_sem]) rfl ⟨by rw [HRES.out], by rw [HRES.out]; exact HG.out⟩
        · have hgti : ¬ (j3 : Int) < (i3 : Int) := by omega
          have hlt34 : i3 < j3 := lt_of_scans2 (p := fun x => !ltInt dk[a]! x) (q := fun x => ltInt dk[a]! x) (fun x => by simp) HQ3.out HQ4.out (by omega) (by omega)
          have HRES : Hid (partEqLoop ltInt a (i3 + 1) (j3 - 1) (swp dk i3 j3) = partEqLoop ltInt a i0 j0 d1) := by
            have h := HPL.out
            rw [HU.out, HV.out, if_neg (by omega)] at h
            show _ = _
            rw [← h]; exact HP.out
          have ⟨x, hx⟩ : ∃ x, dk[j3]! = x := ⟨_, rfl⟩
          have ⟨y, hy⟩ : ∃ y, dk[i3]! = y := ⟨_, rfl⟩
          have k1 := HG.out.cell (i := j3) (by omega) hx
          have k2 := HG.out.cell (i := i3) (by omega) hy
          have k3 := HG.out.cell2 (i := i3) (j := j3) (by omega) (by omega) hx
          have hf := HG.out.row.free
          have s1 : (i3 : Int) < (n : Int) := by omega
          have s2 : (j3 : Int) < (n : Int) := by omega
          have HS := hid (HG.out.swp (i := i3) (j := j3) (by omega) (by omega) hx hy)
          clear hx hy
          go_upto_region 8 with fail
          go_region
          have hS := HS.out
          generalize ((wc.setCell ⟨blk, i3, none⟩ (.int .u64 x)).setCell ⟨blk, j3, none⟩ (.int .u64 y)).drew = w3 at hS ⊢
          have HG3 := hid hS
          clear hS k1 k2 k3 hf s1 s2
          go_wp2_with fail
          go_roundw
          case rel => exact ⟨i3 + 1, j3 - 1, swp dk i3 j3, by go_num, by go_num, by omega, by omega, by omega, HG3.out, HRES.out⟩
          case measure => first | (simp [intOf]; done) | (simp [intOf]; omega)
end Go.Proofs.YtdjlbejhphbcoaaGreat
namespace Go.Proofs.YtdjlbejhphbcoaaGreat
open Go.RowKit Go.Sort
set_option linter.unusedVariables false
set_option maxRecDepth 100000

theorem scanSorted_go {d : Array Int} {b i : Nat} (h : (decide (i < b) && !ltInt d[i]! d[i - 1]!) = true) : scanSorted ltInt d b i = scanSorted ltInt d b (i + 1) := by rw [scanSorted, if_pos h]
theorem scanSorted_end {d : Array Int} {b i : Nat} (h : (decide (i < b) && !ltInt d[i]! d[i - 1]!) = false) : scanSorted ltInt d b i = i := by rw [scanSorted, if_neg (by rw [h]; simp)]
theorem shiftDown_go {d : Array Int} {j : Nat} (h0 : 1 ≤ j) (h : ltInt d[j]! d[j - 1]! = true) : shiftDown ltInt j d = shiftDown ltInt (j - 1) (swp d j (j - 1)) := by
  obtain ⟨k, rfl⟩ : ∃ k, j = k + 1 := ⟨j - 1, by omega⟩
  rw [Nat.add_sub_cancel] at h ⊢
  rw [shiftDown, if_neg (by rw [h]; simp)]
theorem shiftDown_end {d : Array Int} {j : Nat} (h : j = 0 ∨ ltInt d[j]! d[j - 1]! = false) : shiftDown ltInt j d = d := by
  cases j with
  | zero => rfl
  | succ k =>
    rw [Nat.add_sub_cancel] at h
    rcases h with h | h
    · cases h
    · rw [shiftDown, if_pos (by rw [h]; rfl)]
theorem shiftUp_go {d : Array Int} {b j : Nat} (h0 : j < b) (h : ltInt d[j]! d[j - 1]! = true) : shiftUp ltInt b j d = shiftUp ltInt b (j + 1) (swp d j (j - 1)) := by
  rw [shiftUp, if_pos h0, if_neg (by rw [h]; simp)]
theorem shiftUp_end {d : Array Int} {b j : Nat} (h : b ≤ j ∨ ltInt d[j]! d[j - 1]! = false) : shiftUp ltInt b j d = d := by
  rw [shiftUp]
  by_cases hj : j < b
  · rw [if_pos hj]
    rcases h with h | h
    · omega
    · rw [if_pos (by rw [h]; rfl)]
  · rw [if_neg hj]
set_option maxHeartbeats 8000000 in
theorem partInsU_any (w : World) (blk cap a b n : Nat) (d : Array Int) (hH : RowU w blk d) (hn : d.size = n) (hab : a < b) (hb : b ≤ n) (hsz : n ≤ 1000) :
    Calls Tryz.prog 137 #[.slice (some ⟨blk, 0, none⟩) n cap, .int .i64 a, .int .i64 b] w fun e w' =>
      e = .returned (.bool (partialInsertionSort ltInt d a b).2) ∧ GotU w blk n (partialInsertionSort ltInt d a b).1 w' := by
  have HG0 : Hid (GotU w blk n d w) := by show GotU _ _ _ _ _; rw [← hn]; exact GotU.refl hH
  clear hH hn
  unfold partialInsertionSort
  obtain ⟨Z, hZ⟩ : ∃ Z, partialIns ltInt a b 5 (a + 1) d = Z := ⟨_, rfl⟩
  rw [hZ]
  have HZ := hid hZ
  clear hZ
  go_enter Tryz.func137, Tryz.ntmps137
  go_wp2_with fail
  go_loopw [7, 8] (fun vi vj wr => ∃ (i j s : Nat) (dk : Array Int), vi = .int .i64 i ∧ vj = .int .i64 j ∧ j + s = 5 ∧ a < i ∧ i ≤ b ∧ Hid (GotU w blk n dk wr) ∧ Hid (partialIns ltInt a b s i dk = Z)) (fun _ vj _ => 5 - (intOf vj).toNat)
  case atStart => exact ⟨a + 1, 0, 5, d, by first | rfl | go_num, by first | rfl | go_num, rfl, by omega, by omega, HG0.out, HZ.out⟩
  case round =>
    clear HG0 HZ
    obtain ⟨i0, j, s, dk, rfl, rfl, hjs, hai, hib, HG, HP⟩ := hrel
    by_cases hs : 0 < s
    · obtain ⟨s, rfl⟩ : ∃ s', s = s' + 1 := ⟨s - 1, by omega⟩
      have hj5 : (j : Int) < 5 := by omega
      have HP2 := hid HP.out
      go_wp2_with fail
      go_loopw [7] (fun v wx => ∃ (k : Nat), v = .int .i64 k ∧ a < k ∧ k ≤ b ∧ Hid (GotU w blk n dk wx) ∧ Hid (scanSorted ltInt dk b k = scanSorted ltInt dk b i0)) (fun v _ => b + 2 - (intOf v).toNat)
      case atStart => exact ⟨i0, by first | rfl | go_num, by omega, by omega, HG.out, rfl⟩
      case round =>
        clear HG
        obtain ⟨k, rfl, hk1, hk2, HG, HEQ⟩ := hrel
        go_upto_region 5 with fail
        go_cut [32] (fun t wx => ∃ q, t = .bool q ∧ Hid ((decide (k < b) && !ltInt dk[k]! dk[k - 1]!) = q) ∧ Hid (Below wr.heap.size wr wx))
        case first =>
          by_cases hg : k < b
          · have hd : decide ((k : Int) < (b : Int)) = true := decide_eq_true (by omega)
            have hdn : decide (k < b) = true := decide_eq_true hg
            have ⟨x, hx⟩ : ∃ x, dk[k]! = x := ⟨_, rfl⟩
            have ⟨y, hy⟩ : ∃ y, dk[k - 1]! = y := ⟨_, rfl⟩
            have bd1 : (k : Int) < (n : Int) := by omega
            have bd2 : (k : Int) - 1 < (n : Int) := by omega
            have bd3 : (0 : Int) ≤ (k : Int) - 1 := by omega
            have bd4 : ((k : Int) - 1).toNat = k - 1 := by omega
            have c1 := Wk.cell (HG.out.cell (i := k) (by omega) hx)
            have c2 := Wk.cell (HG.out.cell (i := k - 1) (by omega) hy)
            obtain ⟨r, hr⟩ : ∃ r, ltInt x y = r := ⟨_, rfl⟩
            have HL := hid (fun w => less_at hr w)
            have HR : Hid (ltInt dk[k]! dk[k - 1]! = r) := by show _ = _; rw [hx, hy]; exact hr
            clear hx hy hr
            have HRR : Hid ((decide (k < b) && !ltInt dk[k]! dk[k - 1]!) = (!r)) := by show _ = _; rw [hdn, HR.out]; rfl
            refine wp_region_wk (by kernel_rfl) (by kernel_rfl) ?_
            repeat (go_big_quiet_step (first | (go_at_call 138; exact Wk.same (HL.out _)) | fail))
            refine wpQuiet_nil ?_
            rintro w3 ⟨⟨_, hb3⟩, rfl⟩
            go_wp2_with fail
            go_meet
            exact ⟨!r, rfl, HRR.out, hb3⟩
          · have hd : decide ((k : Int) < (b : Int)) = false := decide_eq_false (by omega)
            have HRR : Hid ((decide (k < b) && !ltInt dk[k]! dk[k - 1]!) = false) := by show _ = _; rw [decide_eq_false hg]; rfl
            refine wp_region_wk (by kernel_rfl) (by kernel_rfl) ?_
            repeat (go_big_quiet_step (fail))
            refine wpQuiet_nil ?_
            rintro w3 ⟨⟨_, hb3⟩, rfl⟩
            go_wp2_with fail
            go_meet
            exact ⟨false, rfl, HRR.out, hb3⟩
        obtain ⟨q, rfl, hqq, hbc⟩ := hcut
        have HG := hid (HG.out.below hbc.out)
        cases q
        case true =>
          have hkk : k < b := by have h := hqq.out; simp only [Bool.and_eq_true, decide_eq_true_eq] at h; exact h.1
          have HEQ2 := hid ((scanSorted_go hqq.out).symm.trans HEQ.out)
          go_wp2_with fail
          go_roundw
          case rel => exact ⟨k + 1, by go_num, by omega, by omega, HG.out, HEQ2.out⟩
          case measure => first | (simp [intOf]; done) | (simp [intOf]; omega)
        have HU := hid (HEQ.out.symm.trans (scanSorted_end hqq.out))
        clear HEQ hqq hbc
        have HP3 : Hid ((if k = b then (dk, true) else if b - a < 50 then (dk, false) else partialIns ltInt a b s k (if b - k ≥ 2 then shiftUp ltInt b (k + 1) (if k - a ≥ 2 then shiftDown ltInt (k - 1) (swp dk k (k - 1)) else swp dk k (k - 1)) else (if k - a ≥ 2 then shiftDown ltInt (k - 1) (swp dk k (k - 1)) else swp dk k (k - 1)))) = Z) := by
          have h := HP2.out
          rw [partialIns] at h
          simp only [HU.out] at h
          exact h
        by_cases hkb : k = b
        · have hkbi : (k : Int) = (b : Int) := by omega
          have HZ : Hid (Z = (dk, true)) := by show _ = _; rw [← HP3.out, if_pos hkb]
          clear hkb
          go_wp2_with fail
          refine bodyPost_ret (v := .bool true) (by simp [results, Tryz.results137, go_sem]) rfl ⟨by rw [HZ.out], by rw [HZ.out]; exact HG.out⟩
        · have hkbi : ((k : Int) == (b : Int)) = false := by simp; omega
          have hkbi2 : ¬ (k : Int) = (b : Int) := by omega
          by_cases h50 : b - a < 50
          · have h50i : (b : Int) - (a : Int) < 50 := by omega
            have HZ : Hid (Z = (dk, false)) := by show _ = _; rw [← HP3.out, if_neg hkb, if_pos h50]
            go_wp2_with fail
            refine bodyPost_ret (v := .bool false) (by simp [results, Tryz.results137, go_sem]) rfl ⟨by rw [HZ.out], by rw [HZ.out]; exact HG.out⟩
          · have h50i : ¬ (b : Int) - (a : Int) < 50 := by omega
            have HP4 : Hid (partialIns ltInt a b s k (if b - k ≥ 2 then shiftUp ltInt b (k + 1) (if k - a ≥ 2 then shiftDown ltInt (k - 1) (swp dk k (k - 1)) else swp dk k (k - 1)) else (if k - a ≥ 2 then shiftDown ltInt (k - 1) (swp dk k (k - 1)) else swp dk k (k - 1))) = Z) := by
              have h := HP3.out
              rw [if_neg hkb, if_neg h50] at h
              exact h
            have hk1b : k < b := by omega
            clear hkb HP3 HP2 HU
            have ⟨x, hx⟩ : ∃ x, dk[k - 1]! = x := ⟨_, rfl⟩
            have ⟨y, hy⟩ : ∃ y, dk[k]! = y := ⟨_, rfl⟩
            have k1 := HG.out.cell (i := k - 1) (by omega) hx
            have k2 := HG.out.cell (i := k) (by omega) hy
            have hf := HG.out.row.free
            have s1 : (k : Int) < (n : Int) := by omega
            have s2 : (k : Int) - 1 < (n : Int) := by omega
            have s3 : (0 : Int) ≤ (k : Int) - 1 := by omega
            have s4 : ((k : Int) - 1).toNat = k - 1 := by omega
            have HS := hid (HG.out.swp (i := k) (j := k - 1) (by omega) (by omega) hx hy)
            clear hx hy
            go_upto_region 11 with fail
            go_region
            have hS := HS.out
            generalize ((wc.setCell ⟨blk, k, none⟩ (.int .u64 x)).setCell ⟨blk, k - 1, none⟩ (.int .u64 y)).drew = w4 at hS ⊢
            have HG4 := hid hS
            clear hS k1 k2 hf s1 s2 s3 s4
            obtain ⟨d4, hd4⟩ : ∃ d4, d4 = swp dk k (k - 1) := ⟨_, rfl⟩
            rw [← hd4] at HP4 HG4
            clear hd4 HG
            obtain ⟨d6, hd6⟩ : ∃ d6, d6 = (if k - a ≥ 2 then shiftDown ltInt (k - 1) d4 else d4) := ⟨_, rfl⟩
            rw [← hd6] at HP4
            have HD6 := hid hd6
            clear hd6
            go_upto_if 61 with fail
            go_cut [9] (fun _ wx => Hid (GotU w blk n d6 wx))
            case first =>
              by_cases hk2' : k - a ≥ 2
              · have hk2i : (2 : Int) ≤ (k : Int) - (a : Int) := by omega
                have HDS : Hid (d6 = shiftDown ltInt (k - 1) d4) := by show _ = _; rw [HD6.out, if_pos hk2']
                go_wp2_with fail
                go_loopw [9] (fun v wx => ∃ (m : Nat) (dm : Array Int), v = .int .i64 m ∧ m < k ∧ Hid (GotU w blk n dm wx) ∧ Hid (shiftDown ltInt m dm = shiftDown ltInt (k - 1) d4)) (fun v _ => (intOf v).toNat)
                case atStart => exact ⟨k - 1, d4, by go_num, by omega, HG4.out, rfl⟩
                case round =>
                  obtain ⟨m, dm, rfl, hmk, HGm, HSm⟩ := hrel
                  by_cases hm1 : 1 ≤ m
                  · have hm1i : (1 : Int) ≤ (m : Int) := by omega
                    have ⟨x, hx⟩ : ∃ x, dm[m]! = x := ⟨_, rfl⟩
                    have ⟨y, hy⟩ : ∃ y, dm[m - 1]! = y := ⟨_, rfl⟩
                    have bd1 : (m : Int) < (n : Int) := by omega
                    have bd2 : (m : Int) - 1 < (n : Int) := by omega
                    have bd3 : (0 : Int) ≤ (m : Int) - 1 := by omega
                    have bd4 : ((m : Int) - 1).toNat = m - 1 := by omega
                    have c1 := Wk.cell (HGm.out.cell (i := m) (by omega) hx)
                    have c2 := Wk.cell (HGm.out.cell (i := m - 1) (by omega) hy)
                    obtain ⟨r, hr⟩ : ∃ r, ltInt x y = r := ⟨_, rfl⟩
                    have HL := hid (fun w => less_at hr w)
                    have HR : Hid (ltInt dm[m]! dm[m - 1]! = r) := by show _ = _; rw [hx, hy]; exact hr
                    clear hx hy hr
                    go_upto_region 16 with fail
                    refine wp_region_wk (by kernel_rfl) (by kernel_rfl) ?_
                    repeat (go_big_quiet_step (first | (go_at_call 138; exact Wk.same (HL.out _)) | fail))
                    refine wpQuiet_nil ?_
                    rintro w3 ⟨⟨_, hb3⟩, rfl⟩
                    have HGm := hid (HGm.out.below hb3)
                    clear c1 c2 hb3 bd1 bd2 bd3 bd4
                    cases r
                    · have HE5 : Hid (shiftDown ltInt (k - 1) d4 = dm) := by show _ = _; rw [← HSm.out]; exact shiftDown_end (.inr HR.out)
                      go_wp2_with fail
                      go_meet
                      show GotU _ _ _ _ _
                      rw [HDS.out, HE5.out]; exact HGm.out
                    · have HE5 : Hid (shiftDown ltInt (m - 1) (swp dm m (m - 1)) = shiftDown ltInt (k - 1) d4) := by show _ = _; rw [← HSm.out]; exact (shiftDown_go hm1 HR.out).symm
                      have ⟨x, hx⟩ : ∃ x, dm[m - 1]! = x := ⟨_, rfl⟩
                      have ⟨y, hy⟩ : ∃ y, dm[m]! = y := ⟨_, rfl⟩
                      have k1 := HGm.out.cell (i := m - 1) (by omega) hx
                      have k2 := HGm.out.cell (i := m) (by omega) hy
                      have hf := HGm.out.row.free
                      have s1 : (m : Int) < (n : Int) := by omega
                      have s2 : (m : Int) - 1 < (n : Int) := by omega
                      have s3 : (0 : Int) ≤ (m : Int) - 1 := by omega
                      have s4 : ((m : Int) - 1).toNat = m - 1 := by omega
                      have HS := hid (HGm.out.swp (i := m) (j := m - 1) (by omega) (by omega) hx hy)
                      clear hx hy
                      go_upto_region 17 with fail
                      go_region
                      have hS := HS.out
                      generalize ((w3.setCell ⟨blk, m, none⟩ (.int .u64 x)).setCell ⟨blk, m - 1, none⟩ (.int .u64 y)).drew = w5 at hS ⊢
                      have HG5 := hid hS
                      clear hS k1 k2 hf s1 s2 s3 s4
                      go_wp2_with fail
                      go_roundw
                      case rel => exact ⟨m - 1, swp dm m (m - 1), by go_num, by omega, HG5.out, HE5.out⟩
                      case measure => first | (simp [intOf]; done) | (simp [intOf]; omega)
                  · have hm1i : ¬ (1 : Int) ≤ (m : Int) := by omega
                    obtain rfl : m = 0 := by omega
                    have HE5 : Hid (shiftDown ltInt (k - 1) d4 = dm) := by show _ = _; rw [← HSm.out]; exact shiftDown_end (.inl rfl)
                    go_wp2_with fail
                    go_meet
                    show GotU _ _ _ _ _
                    rw [HDS.out, HE5.out]; exact HGm.out
              · have hk2i : ¬ (2 : Int) ≤ (k : Int) - (a : Int) := by omega
                have HDS : Hid (d6 = d4) := by show _ = _; rw [HD6.out, if_neg hk2']
                go_wp2_with fail
                go_meet
                show GotU _ _ _ _ _
                rw [HDS.out]
                exact HG4.out
            have HG6 := hcut
            clear HD6 HG4 hcut
            obtain ⟨d7, hd7⟩ : ∃ d7, d7 = (if b - k ≥ 2 then shiftUp ltInt b (k + 1) d6 else d6) := ⟨_, rfl⟩
            rw [← hd7] at HP4
            have HD7 := hid hd7
            clear hd7
            go_upto_if 98 with fail
            · skip
              by_cases hk2' : b - k ≥ 2
              · have hk2i : (2 : Int) ≤ (b : Int) - (k : Int) := by omega
                have HDS : Hid (d7 = shiftUp ltInt b (k + 1) d6) := by show _ = _; rw [HD7.out, if_pos hk2']
                go_wp2_with fail
                go_loopw [10] (fun v wx => ∃ (m : Nat) (dm : Array Int), v = .int .i64 m ∧ k < m ∧ m ≤ b ∧ Hid (GotU w blk n dm wx) ∧ Hid (shiftUp ltInt b m dm = shiftUp ltInt b (k + 1) d6)) (fun v _ => b + 1 - (intOf v).toNat)
                case atStart => exact ⟨k + 1, d6, by go_num, by omega, by omega, HG6.out, rfl⟩
                case round =>
                  obtain ⟨m, dm, rfl, hkm, hmb, HGm, HSm⟩ := hrel
                  by_cases hm1 : m < b
                  · have hm1i : (m : Int) < (b : Int) := by omega
                    have ⟨x, hx⟩ : ∃ x, dm[m]! = x := ⟨_, rfl⟩
                    have ⟨y, hy⟩ : ∃ y, dm[m - 1]! = y := ⟨_, rfl⟩
                    have bd1 : (m : Int) < (n : Int) := by omega
                    have bd2 : (m : Int) - 1 < (n : Int) := by omega
                    have bd3 : (0 : Int) ≤ (m : Int) - 1 := by omega
                    have bd4 : ((m : Int) - 1).toNat = m - 1 := by omega
                    have c1 := Wk.cell (HGm.out.cell (i := m) (by omega) hx)
                    have c2 := Wk.cell (HGm.out.cell (i := m - 1) (by omega) hy)
                    obtain ⟨r, hr⟩ : ∃ r, ltInt x y = r := ⟨_, rfl⟩
                    have HL := hid (fun w => less_at hr w)
                    have HR : Hid (ltInt dm[m]! dm[m - 1]! = r) := by show _ = _; rw [hx, hy]; exact hr
                    clear hx hy hr
                    go_upto_region 22 with fail
                    refine wp_region_wk (by kernel_rfl) (by kernel_rfl) ?_
                    repeat (go_big_quiet_step (first | (go_at_call 138; exact Wk.same (HL.out _)) | fail))
                    refine wpQuiet_nil ?_
                    rintro w3 ⟨⟨_, hb3⟩, rfl⟩
                    have HGm := hid (HGm.out.below hb3)
                    clear c1 c2 hb3 bd1 bd2 bd3 bd4
                    cases r
                    · have HE5 : Hid (shiftUp ltInt b (k + 1) d6 = dm) := by show _ = _; rw [← HSm.out]; exact shiftUp_end (.inr HR.out)
                      go_wp2_with fail
                      go_roundw
                      case rel => exact ⟨k, j + 1, s, d7, by first | rfl | go_num, by go_num, by omega, by omega, by omega, (show Hid (GotU w blk n d7 _) from by show GotU _ _ _ _ _; rw [HDS.out, HE5.out]; exact HGm.out), HP4.out⟩
                      case measure => first | (simp [intOf]; done) | (simp [intOf]; omega)
                    · have HE5 : Hid (shiftUp ltInt b (m + 1) (swp dm m (m - 1)) = shiftUp ltInt b (k + 1) d6) := by show _ = _; rw [← HSm.out]; exact (shiftUp_go hm1 HR.out).symm
                      have ⟨x, hx⟩ : ∃ x, dm[m - 1]! = x := ⟨_, rfl⟩
                      have ⟨y, hy⟩ : ∃ y, dm[m]! = y := ⟨_, rfl⟩
                      have k1 := HGm.out.cell (i := m - 1) (by omega) hx
                      have k2 := HGm.out.cell (i := m) (by omega) hy
                      have hf := HGm.out.row.free
                      have s1 : (m : Int) < (n : Int) := by omega
                      have s2 : (m : Int) - 1 < (n : Int) := by omega
                      have s3 : (0 : Int) ≤ (m : Int) - 1 := by omega
                      have s4 : ((m : Int) - 1).toNat = m - 1 := by omega
                      have HS := hid (HGm.out.swp (i := m) (j := m - 1) (by omega) (by omega) hx hy)
                      clear hx hy
                      go_upto_region 23 with fail
                      go_region
                      have hS := HS.out
                      generalize ((w3.setCell ⟨blk, m, none⟩ (.int .u64 x)).setCell ⟨blk, m - 1, none⟩ (.int .u64 y)).drew = w5 at hS ⊢
                      have HG5 := hid hS
                      clear hS k1 k2 hf s1 s2 s3 s4
                      go_wp2_with fail
                      go_roundw
                      case rel => exact ⟨m + 1, swp dm m (m - 1), by go_num, by omega, by omega, HG5.out, HE5.out⟩
                      case measure => first | (simp [intOf]; done) | (simp [intOf]; omega)
                  · have hm1i : ¬ (m : Int) < (b : Int) := by omega
                    have HE5 : Hid (shiftUp ltInt b (k + 1) d6 = dm) := by show _ = _; rw [← HSm.out]; exact shiftUp_end (.inl (by omega))
                    go_wp2_with fail
                    go_roundw
                    case rel => exact ⟨k, j + 1, s, d7, by first | rfl | go_num, by go_num, by omega, by omega, by omega, (show Hid (GotU w blk n d7 _) from by show GotU _ _ _ _ _; rw [HDS.out, HE5.out]; exact HGm.out), HP4.out⟩
                    case measure => first | (simp [intOf]; done) | (simp [intOf]; omega)
              · have hk2i : ¬ (2 : Int) ≤ (b : Int) - (k : Int) := by omega
                have HDS : Hid (d7 = d6) := by show _ = _; rw [HD7.out, if_neg hk2']
                go_wp2_with fail
                go_roundw
                case rel => exact ⟨k, j + 1, s, d7, by first | rfl | go_num, by go_num, by omega, by omega, by omega, (show Hid (GotU w blk n d7 _) from by show GotU _ _ _ _ _; rw [HDS.out]; exact HG6.out), HP4.out⟩
                case measure => first | (simp [intOf]; done) | (simp [intOf]; omega)
    · obtain rfl : s = 0 := by omega
      obtain rfl : j = 5 := by omega
      have HZ : Hid (Z = (dk, false)) := by show _ = _; rw [← HP.out]; rfl
      go_wp2_with fail
      refine bodyPost_ret (v := .bool false) (by simp [results, Tryz.results137, go_sem]) rfl ⟨by rw [HZ.out], by rw [HZ.out]; exact HG.out⟩
end Go.Proofs.YtdjlbejhphbcoaaGreat
namespace Go.Proofs.YtdjlbejhphbcoaaGreat
open Go.RowKit Go.Sort
set_option linter.unusedVariables false
set_option maxRecDepth 100000

/-- what the sort comes to -/
structure DoneU (w : World) (blk n a b : Nat) (d : Array Int) (w' : World) : Prop where
  done : ∃ d', GotU w blk n d' w' ∧ PermIn a b d d' ∧ SortedIn ltInt a b d'
/-- where a round begins: whatever sorts what is left, has sorted all -/
structure AtU (w : World) (blk n a b : Nat) (d : Array Int) (p q : Nat) (dk : Array Int) (wr : World) : Prop where
  got : GotU w blk n dk wr
  le : p ≤ q ∧ q ≤ n
  below : Go.Sort.Below ltInt p q dk
  fut : ∀ R, PermIn p q dk R → SortedIn ltInt p q R → PermIn a b d R ∧ SortedIn ltInt a b R
variable {w wr : World} {blk n a b p q : Nat} {d dk : Array Int}
theorem AtU.size (h : AtU w blk n a b d p q dk wr) : q ≤ dk.size := by rw [h.got.size]; exact h.le.2
theorem AtU.step (h : AtU w blk n a b d p q dk wr) {d1 : Array Int} {w1 : World} (hg : GotU w blk n d1 w1) (hp : PermIn p q dk d1) : AtU w blk n a b d p q d1 w1 :=
  ⟨hg, h.le, h.below.perm h.size hp, fun R hR hS => h.fut R (permIn_trans _ _ _ p q hp hR) hS⟩
theorem AtU.to (h : AtU w blk n a b d p q dk wr) {w1 : World} (hg : GotU w blk n dk w1) : AtU w blk n a b d p q dk w1 := ⟨hg, h.le, h.below, h.fut⟩
theorem AtU.end (h : AtU w blk n a b d p q dk wr) {d1 : Array Int} {w1 : World} (hg : GotU w blk n d1 w1) (hp : PermIn p q dk d1) (hs : SortedIn ltInt p q d1) : DoneU w blk n a b d w1 :=
  ⟨d1, hg, (h.fut d1 hp hs).1, (h.fut d1 hp hs).2⟩
theorem ins_step (h : AtU w blk n a b d p q dk wr) (hsz : n ≤ 255) (cap : Nat) :
    Calls Tryz.prog 132 #[.slice (some ⟨blk, 0, none⟩) n cap, .int .i64 p, .int .i64 q] wr fun e w' => e = .returned (.tuple #[]) ∧ DoneU w blk n a b d w' := by
  have hs := h.got.size
  have H := insertionSort_holds swo_ltInt dk p q h.le.1 h.size
  have C := insertU_any wr blk cap p q dk h.got.row h.le.1 h.size (by omega)
  rw [hs] at C
  exact C.mono fun e w' k => ⟨k.1, h.end (h.got.trans ⟨k.2.1, k.2.2, by rw [H.1.1]; exact hs⟩) H.1 H.2⟩
theorem heap_step (h : AtU w blk n a b d p q dk wr) (hsz : n ≤ 255) (hpq : p < q) (cap : Nat) :
    Calls Tryz.prog 133 #[.slice (some ⟨blk, 0, none⟩) n cap, .int .i64 p, .int .i64 q] wr fun e w' => e = .returned (.tuple #[]) ∧ DoneU w blk n a b d w' := by
  have H := heapSort_holds swo_ltInt dk p q h.le.1 h.size
  exact (heapU_any wr blk cap p q n dk h.got.row h.got.size hpq h.le.2 (by omega)).mono fun e w' k => ⟨k.1, h.end (h.got.trans k.2) H.1 H.2⟩
theorem break_step (h : AtU w blk n a b d p q dk wr) (hsz : n ≤ 255) (hpq : p + 8 ≤ q) (cap : Nat) :
    Calls Tryz.prog 134 #[.slice (some ⟨blk, 0, none⟩) n cap, .int .i64 p, .int .i64 q] wr fun e w' => e = .returned (.tuple #[]) ∧ ∃ d1, AtU w blk n a b d p q d1 w' :=
  (breakU_any wr blk cap p q n dk h.got.row h.got.size hpq h.le.2 hsz).mono fun e w' ⟨k1, d1, k2, k3⟩ => ⟨k1, d1, h.step (h.got.trans k2) k3⟩
theorem rev_step (h : AtU w blk n a b d p q dk wr) (hsz : n ≤ 255) (hpq : p < q) (cap : Nat) :
    Calls Tryz.prog 136 #[.slice (some ⟨blk, 0, none⟩) n cap, .int .i64 p, .int .i64 q] wr fun e w' => e = .returned (.tuple #[]) ∧ ∃ d1, AtU w blk n a b d p q d1 w' :=
  (reverseU_any wr blk cap p q n dk h.got.row h.got.size hpq h.le.2 (by omega)).mono fun e w' ⟨k1, d1, k2, k3⟩ => ⟨k1, d1, h.step (h.got.trans k2) k3⟩
theorem pivot_step (h : AtU w blk n a b d p q dk wr) (hsz : n ≤ 255) (hpq : p + 12 < q) (cap : Nat) :
    Calls Tryz.prog 135 #[.slice (some ⟨blk, 0, none⟩) n cap, .int .i64 p, .int .i64 q] wr fun e w' => (∃ (i : Nat) (t : Int), e = .returned (.tuple #[.int .i64 i, .int .i64 t]) ∧ p ≤ i ∧ i < q) ∧ AtU w blk n a b d p q dk w' :=
  (pivotU_any wr blk cap p q n dk h.got.row h.got.size hpq h.le.2 (by omega)).mono fun e w' k => ⟨k.1, h.to (h.got.below k.2.2)⟩
theorem pin_step (h : AtU w blk n a b d p q dk wr) (hsz : n ≤ 255) (hpq : p < q) (cap : Nat) :
    Calls Tryz.prog 137 #[.slice (some ⟨blk, 0, none⟩) n cap, .int .i64 p, .int .i64 q] wr fun e w' => ∃ t, e = .returned (.bool t) ∧ (t = true → DoneU w blk n a b d w') ∧ ∃ d1, AtU w blk n a b d p q d1 w' := by
  have H := partialInsertionSort_holds swo_ltInt dk p q hpq h.size h.below
  exact (partInsU_any wr blk cap p q n dk h.got.row h.got.size hpq h.le.2 (by omega)).mono fun e w' k => ⟨_, k.1, fun t => h.end (h.got.trans k.2) H.1 (H.2 t), _, h.step (h.got.trans k.2) H.1⟩
theorem peq_step (h : AtU w blk n a b d p q dk wr) (hsz : n ≤ 255) (hpq : p + 12 < q) {i : Nat} (h1 : p ≤ i) (h2 : i < q) (h0 : 0 < p) (hl : ltInt dk[p - 1]! dk[i]! = false) (cap : Nat) :
    Calls Tryz.prog 139 #[.slice (some ⟨blk, 0, none⟩) n cap, .int .i64 p, .int .i64 q, .int .i64 i] wr fun e w' => ∃ m : Nat, e = .returned (.int .i64 m) ∧ p < m ∧ m ≤ q ∧ ∃ d1, AtU w blk n a b d m q d1 w' := by
  obtain ⟨r1, r2, r3, r4, r5⟩ := round_eq swo_ltInt (partitionEqual_holds (lt := ltInt)) h0 h1 h2 h.size h.below hl rfl
  exact (partEqU_any wr blk cap p q i n dk h.got.row h.got.size h1 h2 (by omega) h.le.2 (by omega)).mono fun e w' k => ⟨_, k.1, r1, r2, _, h.got.trans k.2, ⟨r2, h.le.2⟩, r4, fun R hR hS => h.fut R (r5 R hR hS).1 (r5 R hR hS).2⟩
theorem part_step (h : AtU w blk n a b d p q dk wr) (hsz : n ≤ 255) (hpq : p + 12 < q) {i : Nat} (h1 : p ≤ i) (h2 : i < q) (cap : Nat) :
    Calls Tryz.prog 140 #[.slice (some ⟨blk, 0, none⟩) n cap, .int .i64 p, .int .i64 q, .int .i64 i] wr fun e w' => ∃ (m : Nat) (t : Bool), e = .returned (.tuple #[.int .i64 m, .bool t]) ∧ p ≤ m ∧ m < q ∧ ∃ d1, GotU w blk n d1 w' ∧
      Go.Sort.Below ltInt p m d1 ∧ Go.Sort.Below ltInt (m + 1) q d1 ∧
      (∀ L w2, GotU w blk n L w2 → PermIn p m d1 L → SortedIn ltInt p m L → AtU w blk n a b d (m + 1) q L w2) ∧
      (∀ L w2, GotU w blk n L w2 → PermIn (m + 1) q d1 L → SortedIn ltInt (m + 1) q L → AtU w blk n a b d p m L w2) := by
  obtain ⟨r1, r2, r3, r4, r5, r6, r7⟩ := round_part swo_ltInt (partition_holds (lt := ltInt)) h1 h2 h.size h.below rfl
  have hq := h.le.2
  exact (partU_any wr blk cap p q i n dk h.got.row h.got.size h1 h2 (by omega) h.le.2 (by omega)).mono fun e w' ⟨⟨t, k1⟩, k2⟩ => ⟨_, t, k1, r1, r2, _, h.got.trans k2, r4, r5,
    fun L w2 hL p1 p2 => ⟨hL, ⟨r2, hq⟩, (r6 L p1 p2).1, fun R hR hS => h.fut R ((r6 L p1 p2).2 R hR hS).1 ((r6 L p1 p2).2 R hR hS).2⟩,
    fun L w2 hL p1 p2 => ⟨hL, ⟨r1, Nat.le_trans (Nat.le_of_lt r2) hq⟩, (r7 L p1 p2).1, fun R hR hS => h.fut R ((r7 L p1 p2).2 R hR hS).1 ((r7 L p1 p2).2 R hR hS).2⟩⟩
end Go.Proofs.YtdjlbejhphbcoaaGreat
