/- Package match: a match is read. -/
import Derived.Test.YteaimnlfbbkccaaMatK
namespace Go.Proofs.Yteaimnlfbbkccaa
open Go.RowKit
set_option linter.unusedVariables false
set_option maxRecDepth 100000

/-- what reading a match comes to -/
def ReadPost10 (b : List Int) (w0 : World) (w : World) (g M : Nat) (e : Ending) (w' : World) : Prop :=
  (∃ L n va vc D, matchL b = .ok (L, n) ∧ e = .returned (.slice va D.length vc) ∧ D.map Ent9.o = L ∧ L9 w' va D ∧ D.length ≤ vc ∧ vc ≤ 9223372036854775807 ∧ New9 w0 va D ∧ ∃ l', CurOn w0 w' g M l' n 1026 1026 0) ∨
  (∃ q v, matchL b = .error q ∧ q ≠ 0 ∧ e = .returned v ∧ ∃ l' r', CurOn w0 w' g M l' r' 1026 1026 q)
theorem getW_zeros10 {z : Nat} (h1 : 1 ≤ z) (h64 : z ≤ 64) {l : List Int} : getW [-(z : Int)] l = if l.length < z then .error 1 else if zeros (l.take z) then .ok [] else .error 2 := by
  have hw : isW (-(z : Int)) = true := by simp [isW]; omega
  have hr : rightW [-(z : Int)] = true := by simp [rightW, allW, hw]
  rw [getW, if_pos hr]
  simp only [getL, Int.natAbs_neg, Int.natAbs_natCast]
  rw [if_neg (show ¬ 0 < -(z : Int) by omega)]

theorem val_nil10 : valE [] = 0 := rfl
theorem vals_few10 (k : Nat) : ∀ b : List Int, b.length ≤ k → Octets b → 4 * (vals10 b).1.length ≤ b.length := by
  induction k with
  | zero => intro b hb _; rw [List.eq_nil_of_length_eq_zero (by omega : b.length = 0)]; simp [vals_nil]
  | succ k ih =>
    intro b hb ho
    by_cases hn : b = []
    · subst hn; simp [vals_nil]
    · have hp : 0 < b.length := List.length_pos_iff.2 hn
      cases hd : decL b with
      | error q => rw [vals_err hn hd]; simp
      | ok o =>
        have h4 := dec_pos10 hd
        obtain ⟨_, r2, _, _⟩ := dec_right hd ho
        have := ih (b.drop o.n) (by rw [List.length_drop]; omega) (ho.drop _)
        rw [vals_ok hn hd]
        rw [List.length_drop] at this
        simp only [List.length_cons]
        omega
/-- the match, once its head is read -/
theorem match_body {b : List Int} {n : Nat} (hn : num10 b = n) (h4 : 4 ≤ b.length) (hv : numL (b.take 2) = 1) (hn4 : 4 ≤ n) (hn5 : n ≤ 65528) (hl : n + zeros10 n ≤ b.length) :
    matchL b = if valE ((b.take n).drop 4) ≠ 0 then .error (valE ((b.take n).drop 4)) else if ((b.drop n).take (zeros10 n)).any (fun x => x != 0) = true then .error 1026 else .ok ((vals10 ((b.take n).drop 4)).1, n + zeros10 n) := by
  unfold matchL
  rw [if_neg (by omega), if_neg (by simp [hv]), if_neg (by rw [hn, Int.toNat_natCast]; omega), hn, Int.toNat_natCast]
theorem chk_err10 (l : List Ox9) : (check9 l).2 = 0 ∨ (check9 l).2 = 1034 ∨ (check9 l).2 = 1035 := by
  rcases chk_ok (pre := []) (l := l) with h | ⟨q, h, h2⟩
  · left; unfold check9; rw [h]
  · right; unfold check9; rw [h]; exact h2

set_option maxHeartbeats 4000000 in
theorem read10_bad (b : List Int) (w0 w : World) (g M : Nat) (h : CurOn w0 w g M b 0 1026 1026 0) {q : Int} (hq : matchL b = .error q) (hh : ∀ n, ¬ HeadOk b n) :
    Calls Try.prog 37 #[.pointer (some ⟨g, 0, none⟩)] w (ReadPost10 b w0 w g M) := by
  have HH := hid (readHead10_any b w0 w g M h)
  have HQ := hid hq
  have HN := hid hh
  clear h hq hh
  go_enter Try.func37, Try.ntmps37
  go_wp2_with fail
  refine HH.out.mono ?_
  rintro e w1 (⟨n, a1, _⟩ | ⟨s, z, q', hq0, hq', _, rfl, l', r', hc1⟩)
  · exact absurd a1 (HN.out n)
  have hqq : q' = q := by have := HQ.out; rw [hq'] at this; simpa using this
  subst hqq
  have H1 := hid hc1
  have HQ0 := hid hq0
  clear hc1 hq' hq0
  go_wp2_with fail
  refine (H1.out.cur.bytes_late HQ0.out _).mono ?_
  rintro e w2 ⟨k, rfl, hG, hc2⟩
  have H2 := hid (H1.out.by hG.by_ hc2)
  clear hG hc2
  go_wp2_with fail
  refine (readValues10_any w2 (some ⟨k, 0, none⟩) 0 [] (by simp) (by simp) (fun x hx => by cases hx) (Ints.nil _ _ _) (by simp [vals_nil])).mono ?_
  rintro e w3 ⟨va, vc, D, rfl, hD, _, _, _, hb3, _⟩
  rw [val_nil10]
  have H3 := hid (H2.out.below hb3)
  clear hD hb3
  go_wp2_with fail
  refine (H3.out.cur.fail_late HQ0.out _).mono ?_
  rintro e w4 ⟨rfl, rfl⟩
  by_cases hz : 0 < z
  · go_wp2_with fail
    refine ((H3.out.below (below_alloc _ _)).cur.row_late HQ0.out _).mono ?_
    rintro e w5 ⟨rfl, rfl⟩
    go_wp2_with fail
    go_ret
    exact .inr ⟨_, _, HQ.out, HQ0.out, rfl, _, _, H3.out.below (below_alloc _ _)⟩
  · go_wp2_with fail
    go_ret
    exact .inr ⟨_, _, HQ.out, HQ0.out, rfl, _, _, H3.out⟩
set_option maxHeartbeats 8000000 in
theorem read10_good (b : List Int) (w0 w : World) (g M : Nat) (h : CurOn w0 w g M b 0 1026 1026 0) {n : Nat} (hok : HeadOk b n) (hcnt : (vals10 ((b.take n).drop 4)).1.length ≤ 1000) :
    Calls Try.prog 37 #[.pointer (some ⟨g, 0, none⟩)] w (ReadPost10 b w0 w g M) := by
  have HOK := hid hok
  obtain ⟨hn, h4, hv, hn4, hn5, hl⟩ := hok
  have HH := hid (readHead10_any b w0 w g M h)
  have hmb := match_body hn h4 hv hn4 hn5 hl
  have hbl : b.length ≤ 140737488355328 := by have := h.cur.rl; omega
  have HO := hid h.cur.oct
  have hlt := h.cur.ne
  have hgw : g < w.heap.size := h.cur.block_lt
  obtain ⟨m, rfl⟩ : ∃ m, n = m + 4 := ⟨n - 4, by omega⟩
  have hbody : (b.take (m + 4)).drop 4 = (b.drop 4).take m := by rw [List.drop_take, Nat.add_sub_cancel]
  have hrest : (b.drop 4).drop m = b.drop (m + 4) := by rw [List.drop_drop, Nat.add_comm]
  rw [hbody] at hmb hcnt
  have hbl2 : ((b.drop 4).take m).length = m := by rw [List.length_take, List.length_drop]; omega
  have hrl : (b.drop (m + 4)).length + (m + 4) = b.length := by rw [List.length_drop]; omega
  have hob : Octets ((b.drop 4).take m) := (HO.out.drop 4).take m
  obtain ⟨B, hB⟩ : ∃ B, (b.drop 4).take m = B := ⟨_, rfl⟩
  obtain ⟨R, hR⟩ : ∃ R, b.drop (m + 4) = R := ⟨_, rfl⟩
  rw [hB] at hmb hcnt hbl2 hob
  rw [hR] at hmb hrl hrest
  obtain ⟨z, hz⟩ : ∃ z, zeros10 (m + 4) = z := ⟨_, rfl⟩
  have hz8 := zeros_lt10 (m + 4)
  rw [hz] at hmb hl hz8
  obtain ⟨E, hE⟩ : ∃ E, valE B = E := ⟨_, rfl⟩
  rw [hE] at hmb
  have HNB := hid hn
  have HZ := hid hz
  have HB := hid hB
  have HMB := hid hmb
  have HE := hid hE
  have HRL := hid hrl
  have HCNT := hid hcnt
  have HBL := hid hbl2
  have HOB := hid hob
  have HREST := hid hrest
  have HL := hid hl
  have H0 := hid (And.intro h4 hv)
  have HGW := hid hgw
  clear h hn h4 hv hmb hbody hrest hB hR hz hE hrl hl hcnt hbl2 hob hlt hgw
  go_enter Try.func37, Try.ntmps37
  go_wp2_with fail
  refine HH.out.mono ?_
  rintro e w1 (⟨n', hok', rfl, hc1⟩ | ⟨s, z', q', _, _, hno, _⟩)
  rotate_left
  · exact absurd HOK.out (hno _)
  have hnn : n' = m + 4 := by have h1 := hok'.1; rw [HNB.out] at h1; omega
  subst hnn
  rw [HZ.out]
  have hm4 : ((m + 4 : Nat) : Int) - 4 = (m : Int) := by omega
  rw [hm4]
  have H1 := hid hc1
  clear hok' hc1 hm4
  go_wp2_with fail
  refine (H1.out.cur.bytes_ok (n := m) (by rw [List.length_drop]; have := HRL.out; omega)).mono ?_
  rw [HB.out, HREST.out]
  rintro e w2 hbp
  obtain ⟨k, rfl, ⟨hIk, hk⟩, hc2, hb2⟩ := bytesPost_open hbp
  have H2 := hid (H1.out.by hb2 hc2)
  have hkm : B.length ≤ 9223372036854775807 := by rw [HBL.out]; omega
  have HRV := hid (readValues10_any w2 (some ⟨k, 0, none⟩) B.length B (Nat.le_refl _) hkm HOB.out hIk HCNT.out)
  have hs12 := hb2.size
  have hs1 := H1.out.cur.block_lt
  clear hbp hIk hc2 hb2 hkm
  go_wp2_with fail
  refine HRV.out.mono ?_
  rintro e w3 ⟨va, vc, D, rfl, hD, hL9, hdc, hcm, hb3, hnew⟩
  rw [HE.out]
  have H3 := hid (H2.out.below hb3)
  have hs3 := hb3.size
  have HD := hid hD
  have HL9 := hid hL9
  have hg2 : g < w2.heap.size := by omega
  have HNEW := hid hnew
  have HS := hid (And.intro hs3 hg2)
  have HN0 := hid (hnew.since (w0 := w0) H2.out.bel.size)
  clear hD hL9 hb3 hnew hs3 hs12 hs1
  by_cases hE : E = 0
  · have hmk := HMB.out
    rw [hE, if_neg (by simp)] at hmk
    rw [hE]
    have HMK := hid hmk
    clear hmk hE
    go_wp2_with fail
    refine (H3.out.cur.fail 0).mono ?_
    rintro e w4 ⟨rfl, hc4, hb4⟩
    have H4 := hid (H3.out.by hb4 hc4)
    have HL4 := hid (HL9.out.by_new HNEW.out hb4 HS.out.2)
    clear hc4 hb4
    by_cases hz : 0 < z
    · have hzi : (0 : Int) < (z : Int) := by omega
      have HG := hid (getW_zeros10 (z := z) hz (by omega) (l := R))
      have hrz : ¬ R.length < z := by have := HRL.out; have := HL.out; omega
      rw [if_neg hrz] at HG
      have hneg : ((0 : Int) - (z : Int)) = -(z : Int) := by omega
      have H5 := hid (H4.out.below (below_alloc w4 (.cells #[.int .i64 (-(z : Int))] 3)))
      have HLI := hid (ints_one .i64 w4 (-(z : Int)) 3)
      have HL5 := hid (HL4.out.below (below_alloc w4 (.cells #[.int .i64 (-(z : Int))] 3)))
      cases hzs : zeros (R.take z)
      · rw [hzs] at HG
        have hany : (R.take z).any (fun x => x != 0) = true := by
          unfold zeros at hzs
          rw [List.all_eq_false] at hzs
          obtain ⟨x, hx, hx0⟩ := hzs
          exact List.any_eq_true.2 ⟨x, hx, by simpa using hx0⟩
        have hmk := HMK.out
        rw [if_pos hany] at hmk
        have HMK2 := hid hmk
        clear hany hmk hzs hrz hneg
        go_wp2_with fail
        refine (H5.out.cur.row_odd [-(z : Int)] _ 1 (by simp) HLI.out (by simpa using HG.out)).mono ?_
        rintro e w6 ⟨rfl, hc6, hb6⟩
        have H6 := hid (H5.out.by hb6 hc6)
        clear hc6 hb6
        go_wp2_with fail
        go_ret
        exact .inr ⟨1026, _, HMK2.out, by decide, rfl, _, _, H6.out⟩
      · rw [hzs] at HG
        have hany : (R.take z).any (fun x => x != 0) = false := by
          unfold zeros at hzs
          cases h : (R.take z).any (fun x => x != 0)
          · rfl
          · obtain ⟨x, hx, hx0⟩ := List.any_eq_true.1 h
            have := List.all_eq_true.1 hzs x hx
            simp at this hx0
            exact absurd this hx0
        have hmk := HMK.out
        rw [if_neg (by rw [hany]; simp)] at hmk
        have HMK2 := hid hmk
        clear hany hmk hzs hrz hneg
        go_wp2_with fail
        refine (H5.out.cur.row_ok [-(z : Int)] [] _ 1 (by simp) HLI.out (by simpa using HG.out)).mono ?_
        rintro e w6 ⟨v, rfl, hG6, hc6⟩
        have H6 := hid (H5.out.by hG6.by_ hc6)
        have HL6 := hid (HL5.out.by_new HNEW.out hG6.by_ HS.out.2)
        clear hc6 hG6
        go_wp2_with fail
        go_ret
        have h6 := H6.out
        have er : (4 : Int) + (m : Int) + ((sizeL [-(z : Int)] : Nat) : Int) = ((m + 4 + z : Nat) : Int) := by simp [sizeL]; omega
        rw [er] at h6
        exact .inl ⟨_, _, va, vc, D, HMK2.out, rfl, HD.out, HL6.out, hdc, hcm, HN0.out, _, h6⟩
    · have hzi : ¬ (0 : Int) < (z : Int) := by omega
      have hz0 : z = 0 := by omega
      have hmk := HMK.out
      rw [hz0, List.take_zero, if_neg (by simp)] at hmk
      have HMK2 := hid hmk
      clear hmk hz0
      go_wp2_with fail
      go_ret
      have h4 := H4.out
      have er : (4 : Int) + (m : Int) = ((m + 4 + 0 : Nat) : Int) := by omega
      rw [er] at h4
      exact .inl ⟨_, _, va, vc, D, HMK2.out, rfl, HD.out, HL4.out, hdc, hcm, HN0.out, _, h4⟩
  · have hmk := HMB.out
    rw [if_pos hE] at hmk
    have HMK := hid hmk
    have HE0 := hid hE
    clear hmk hE
    go_wp2_with fail
    refine (H3.out.cur.fail E).mono ?_
    rintro e w4 ⟨rfl, hc4, hb4⟩
    have H4 := hid (H3.out.by hb4 hc4)
    clear hc4 hb4
    by_cases hz : 0 < z
    · have hzi : (0 : Int) < (z : Int) := by omega
      go_wp2_with fail
      refine ((H4.out.below (below_alloc _ _)).cur.row_late HE0.out _).mono ?_
      rintro e w5 ⟨rfl, rfl⟩
      go_wp2_with fail
      go_ret
      exact .inr ⟨_, _, HMK.out, HE0.out, rfl, _, _, H4.out.below (below_alloc _ _)⟩
    · have hzi : ¬ (0 : Int) < (z : Int) := by omega
      go_wp2_with fail
      go_ret
      exact .inr ⟨_, _, HMK.out, HE0.out, rfl, _, _, H4.out⟩
theorem read10_any (b : List Int) (w0 w : World) (g M : Nat) (h : CurOn w0 w g M b 0 1026 1026 0) (hcnt : ∀ n, HeadOk b n → (vals10 ((b.take n).drop 4)).1.length ≤ 1000) :
    Calls Try.prog 37 #[.pointer (some ⟨g, 0, none⟩)] w (ReadPost10 b w0 w g M) := by
  obtain ⟨n, hn, _⟩ := num10_two h.cur.oct
  by_cases hok : HeadOk b n
  · exact read10_good b w0 w g M h hok (hcnt n hok)
  · have hno : ∀ k, ¬ HeadOk b k := fun k hk => hok (by have : k = n := (by have := hk.1; rw [hn] at this; omega); rw [← this]; exact hk)
    have herr : ∃ q, matchL b = .error q := by
      by_cases h4 : b.length < 4
      · exact ⟨_, match_few h4⟩
      · by_cases hv : numL (b.take 2) = 1
        · refine ⟨_, match_long h4 hv hn ?_⟩
          by_cases c1 : n < 4
          · exact .inl c1
          · by_cases c2 : 65528 < n
            · exact .inr (.inl c2)
            · refine .inr (.inr ?_)
              by_cases c3 : b.length < n + zeros10 n
              · exact c3
              · exact absurd ⟨hn, by omega, hv, by omega, by omega, by omega⟩ hok
        · exact ⟨_, match_type h4 hv⟩
    obtain ⟨q, hq⟩ := herr
    exact read10_bad b w0 w g M h hq hno
/-- what decoding a match comes to -/
def DecPost10 (b : List Int) (w : World) (e : Ending) (w' : World) : Prop :=
  (∃ L n va vc D, matchL b = .ok (L, n) ∧ e = .returned (.tuple #[.slice va D.length vc, .int .i64 (n : Nat), .int .i64 0]) ∧ D.map Ent9.o = L ∧ L9 w' va D ∧ D.length ≤ vc ∧ vc ≤ 9223372036854775807 ∧ New9 w va D ∧ Below w.heap.size w w') ∨
  (∃ q, matchL b = .error q ∧ q ≠ 0 ∧ e = .returned (.tuple #[.slice none 0 0, .int .i64 0, .int .i64 q]) ∧ Below w.heap.size w w')
set_option maxHeartbeats 4000000 in
theorem decode10_gen (b : List Int) (a : Option Addr) (c : Nat) (hbc : b.length ≤ c) (hb6 : b.length ≤ 65528) (ho : Octets b) (w : World) (hI : Ints .u8 w a b) (hcnt : ∀ n, HeadOk b n → (vals10 ((b.take n).drop 4)).1.length ≤ 1000) :
    Calls Try.prog 18 #[.slice a b.length c] w (DecPost10 b w) := by
  have HC := hid hcnt
  have hN := new_any b a c 1026 1026 w (by omega) ho hI
  have hbi : (b.length : Int) ≤ (c : Int) := by omega
  have hb6i : (b.length : Int) ≤ 65528 := by omega
  have HB := hid hI
  clear hcnt hI ho
  obtain ⟨N, hNN⟩ : ∃ N, b.length = N := ⟨_, rfl⟩
  rw [hNN] at hN hbi hb6i hbc ⊢
  have HNN := hid hNN
  have HN := hid hN
  have hmin : (min (N : Int) 65528).toNat = N := by omega
  have HMIN := hid hmin
  clear hN hNN hb6 hmin
  go_enter Try.func18, Try.ntmps18
  go_wp2_with fail
  rw [HMIN.out]
  refine HN.out.mono ?_
  rintro e w1 ⟨g, rfl, hc1, hb1, hg1, hg2⟩
  have H1 : Hid (CurOn w w1 g w.heap.size b 0 1026 1026 0) := ⟨hc1, hb1, by omega, Nat.le_refl _⟩
  clear hc1 hb1
  go_wp2_with fail
  refine (read10_any b w w1 g w.heap.size H1.out HC.out).mono ?_
  rintro e w2 (⟨L, n, va, vc, D, hm, rfl, hD, hl9, hdc, hcm, hnew, l', hc2⟩ | ⟨q, v, hm, hq, rfl, l', r', hc2⟩)
  · have H2 := hid hc2
    have HM := hid hm
    have HD := hid hD
    have HL := hid hl9
    have HW := hid hnew
    clear hc2 hm hD hl9 hnew
    go_wp2_with fail
    refine H2.out.cur.err.mono ?_
    rintro e w3 ⟨rfl, rfl⟩
    go_wp2_with fail
    refine H2.out.cur.pos.mono ?_
    rintro e w3 ⟨rfl, rfl⟩
    go_wp2_with fail
    refine bodyPost_ret (v := .tuple #[.slice va D.length vc, .int .i64 (n : Nat), .int .i64 0]) ?_ rfl (.inl ⟨L, n, va, vc, D, HM.out, rfl, HD.out, HL.out, hdc, hcm, HW.out, H2.out.bel⟩)
    simp [results, Try.results18, go_sem]
  · have H2 := hid hc2
    have HM := hid hm
    have HQ := hid hq
    have gq : (q != 0) = true := by simpa using hq
    clear hc2 hm hq
    go_wp2_with fail
    refine H2.out.cur.err.mono ?_
    rintro e w3 ⟨rfl, rfl⟩
    go_wp2_with fail
    refine bodyPost_ret (v := .tuple #[.slice none 0 0, .int .i64 0, .int .i64 q]) ?_ rfl (.inr ⟨q, HM.out, HQ.out, rfl, H2.out.bel⟩)
    simp [results, Try.results18, go_sem]
theorem decode10_any (b : List Int) (a : Option Addr) (c : Nat) (hbc : b.length ≤ c) (hb6 : b.length ≤ 65528) (ho : Octets b) (w : World) (hI : Ints .u8 w a b) (hcnt : (vals10 ((b.take (num10 b).toNat).drop 4)).1.length ≤ 1000) :
    Calls Try.prog 18 #[.slice a b.length c] w (DecPost10 b w) :=
  decode10_gen b a c hbc hb6 ho w hI (fun n hn => by have e := hn.1; rw [e, Int.toNat_natCast] at hcnt; exact hcnt)
end Go.Proofs.Yteaimnlfbbkccaa
