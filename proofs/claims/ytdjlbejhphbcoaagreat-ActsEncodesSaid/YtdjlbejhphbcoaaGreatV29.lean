/- Put together out of several texts. -/
import Derived.Test.YtdjlbejhphbcoaaGreatV28
import Derived.Test.YtdjlbejhphbcoaaGreatV20
import Derived.Test.YtdjlbejhphbcoaaGreatV22
import Derived.Test.YtdjlbejhphbcoaaGreatV27
import Derived.Test.YtdjlbejhphbcoaaGreatV12
import Derived.Test.YtdjlbejhphbcoaaGreatV4
namespace Go.Proofs.YtdjlbejhphbcoaaGreat
open Go.RowKit Go.Sort
set_option linter.unusedVariables false
set_option maxRecDepth 100000

/-- what a call for fewer numbers comes to -/
def LessU (blk n cap k : Nat) : Prop := ∀ (w : World) (a b : Nat) (d : Array Int) (r : Int), RowU w blk d → d.size = n → a ≤ b → b ≤ n → b - a < k → Go.Sort.Below ltInt a b d →
  Calls Tryz.prog 108 #[.slice (some ⟨blk, 0, none⟩) n cap, .int .i64 a, .int .i64 b, .int .i64 r] w fun e w' => e = .returned (.tuple #[]) ∧ DoneU w blk n a b d w'
set_option maxHeartbeats 16000000 in
theorem pdq_step (w : World) (blk n cap a b : Nat) (d : Array Int) (r : Int) (hR : RowU w blk d) (hn : d.size = n) (hab : a ≤ b) (hb : b ≤ n) (hsz : n ≤ 255) (hB : Go.Sort.Below ltInt a b d) (hL : LessU blk n cap (b - a)) :
    Calls Tryz.prog 108 #[.slice (some ⟨blk, 0, none⟩) n cap, .int .i64 a, .int .i64 b, .int .i64 r] w fun e w' => e = .returned (.tuple #[]) ∧ DoneU w blk n a b d w' := by
  have HA0 : Hid (AtU w blk n a b d a b d w) := ⟨by rw [← hn]; exact GotU.refl hR, ⟨hab, hb⟩, hB, fun R h1 h2 => ⟨h1, h2⟩⟩
  have HL := hid hL
  have HSZ := hid hsz
  have HAB := hid (And.intro hab hb)
  clear hR hn hB hL hab hb hsz
  go_enter Tryz.func108, Tryz.ntmps108
  go_wp2_with fail
  go_loopw [1, 2, 3, 8, 9] (fun v1 v2 v3 v8 v9 wr => ∃ (p q : Nat) (r : Int) (q8 q9 : Bool) (dk : Array Int), v1 = .int .i64 p ∧ v2 = .int .i64 q ∧ v3 = .int .i64 r ∧ v8 = .bool q8 ∧ v9 = .bool q9 ∧ Hid (p ≤ q ∧ q ≤ n ∧ q - p ≤ b - a) ∧ Hid (AtU w blk n a b d p q dk wr)) (fun v1 v2 _ _ _ _ => (intOf v2).toNat - (intOf v1).toNat)
  case atStart => exact ⟨a, b, r, true, true, d, rfl, rfl, rfl, rfl, rfl, ⟨HAB.out.1, HAB.out.2, Nat.le_refl _⟩, HA0.out⟩
  case round =>
    obtain ⟨p, q, r, q8, q9, dk, rfl, rfl, rfl, rfl, rfl, HPQ, HA⟩ := hrel
    obtain ⟨l, hl⟩ : ∃ l, l = q - p := ⟨_, rfl⟩
    have hli : (q : Int) - (p : Int) = (l : Int) := by have := HPQ.out; omega
    have hq255 : (q : Int) ≤ 255 := by have := HPQ.out; have := HSZ.out; omega
    have hp255 : (p : Int) ≤ (q : Int) := by have := HPQ.out; omega
    have HLQ := hid hl
    clear hl
    by_cases h12 : l ≤ 12
    · have h12i : (l : Int) ≤ 12 := by omega
      have HI := hid (ins_step HA.out HSZ.out cap)
      go_wp2_with fail
      refine HI.out.mono ?_
      rintro e w1 ⟨rfl, hd⟩
      have HD := hid hd
      clear hd
      go_wp2_with fail
      exact bodyPost_ret (results_none rfl _ _ _) rfl ⟨rfl, HD.out⟩
    have h12i : ¬ (l : Int) ≤ 12 := by omega
    have h12p : Hid (p + 12 < q) := by have := HLQ.out; show _ < _; omega
    by_cases hr0 : r = 0
    · subst hr0
      have HI := hid (heap_step HA.out HSZ.out (by have := h12p.out; omega) cap)
      go_wp2_with fail
      refine HI.out.mono ?_
      rintro e w1 ⟨rfl, hd⟩
      have HD := hid hd
      clear hd
      go_wp2_with fail
      exact bodyPost_ret (results_none rfl _ _ _) rfl ⟨rfl, HD.out⟩
    have hr0b : (r == 0) = false := by simpa using hr0
    go_upto_if 35 with fail
    go_cut [3] (fun t3 wx => ∃ (r1 : Int) (d1 : Array Int), t3 = .int .i64 r1 ∧ Hid (AtU w blk n a b d p q d1 wx))
    case first =>
      cases q8
      · have HI := hid (break_step HA.out HSZ.out (by have := h12p.out; omega) cap)
        go_wp2_with fail
        refine HI.out.mono ?_
        rintro e w1 ⟨rfl, d1, hd⟩
        have HD := hid hd
        clear hd
        go_wp2_with fail
        go_meet
        exact ⟨_, d1, rfl, HD.out⟩
      · go_wp2_with fail
        go_meet
        exact ⟨r, dk, rfl, HA.out⟩
    obtain ⟨r1, d1, rfl, HA1⟩ := hcut
    clear HA
    have HI := hid (pivot_step HA1.out HSZ.out h12p.out cap)
    go_wp2_with fail
    refine HI.out.mono ?_
    rintro e w1 ⟨⟨i, t, rfl, hi1, hi2⟩, hA⟩
    have HA2 := hid hA
    have hi1i : (p : Int) ≤ (i : Int) := by omega
    have hi2i : (i : Int) < (q : Int) := by omega
    have HII := hid (And.intro hi1 hi2)
    clear hA hi1 hi2 HI HA1
    go_upto_if 50 with fail
    go_cut [11, 12] (fun t11 t12 wx => ∃ (j : Nat) (t : Int) (d2 : Array Int), t11 = .int .i64 j ∧ t12 = .int .i64 t ∧ Hid (p ≤ j ∧ j < q) ∧ Hid (AtU w blk n a b d p q d2 wx))
    case first =>
      by_cases ht : t = 2
      · subst ht
        have HI := hid (rev_step HA2.out HSZ.out (by have := h12p.out; omega) cap)
        obtain ⟨j, hj⟩ : ∃ j, j = (q - 1) - (i - p) := ⟨_, rfl⟩
        have hji : (q : Int) - 1 - ((i : Int) - (p : Int)) = (j : Int) := by omega
        have HJ := hid (show p ≤ j ∧ j < q by omega)
        clear hj
        go_wp2_with fail
        refine HI.out.mono ?_
        rintro e w2 ⟨rfl, d2, hd⟩
        have HD := hid hd
        clear hd
        go_wp2_with fail
        go_meet
        exact ⟨j, 1, d2, rfl, rfl, HJ.out, HD.out⟩
      · have htb : (t == 2) = false := by simpa using ht
        go_wp2_with fail
        go_meet
        exact ⟨i, t, d1, rfl, rfl, HII.out, HA2.out⟩
    clear hi1i hi2i HII HA2
    obtain ⟨j, t2, d2, rfl, rfl, HJ, HA3⟩ := hcut
    go_upto_region 15 with fail
    go_cut [68] (fun t68 wx => ∃ s, t68 = .bool s ∧ Hid (wc = wx))
    case first =>
      cases q8
      · go_wp2_with fail
        go_meet
        exact ⟨_, rfl, rfl⟩
      · cases q9
        · go_wp2_with fail
          go_meet
          exact ⟨_, rfl, rfl⟩
        · by_cases ht : t2 = 1
          · subst ht
            go_wp2_with fail
            go_meet
            exact ⟨_, rfl, rfl⟩
          · have htb : (t2 == 1) = false := by simpa using ht
            go_wp2_with fail
            go_meet
            exact ⟨_, rfl, rfl⟩
    obtain ⟨s, rfl, hwx⟩ := hcut
    cases hwx.out
    go_upto_if 68 with fail
    go_cut [72] (fun _ wx => ∃ d3, Hid (AtU w blk n a b d p q d3 wx))
    case first =>
      cases s
      · go_wp2_with fail
        go_meet
        exact ⟨d2, HA3.out⟩
      · have HI := hid (pin_step HA3.out HSZ.out (by have := h12p.out; omega) cap)
        go_wp2_with fail
        refine HI.out.mono ?_
        rintro e w2 ⟨t, rfl, ht, d3, hd⟩
        have HT := hid ht
        have HD := hid hd
        clear ht hd
        cases t
        · go_wp2_with fail
          go_meet
          exact ⟨d3, HD.out⟩
        · go_wp2_with fail
          exact bodyPost_ret (results_none rfl _ _ _) rfl ⟨rfl, HT.out trivial⟩
    clear HA3
    obtain ⟨d3, HA4⟩ := hcut
    go_upto_region 17 with fail
    go_cut [87] (fun t wx => ∃ z, t = .bool z ∧ Hid ((decide (0 < p) && !ltInt d3[p - 1]! d3[j]!) = z) ∧ Hid (Go.RowKit.Below wc.heap.size wc wx))
    case first =>
      by_cases hp0 : 0 < p
      · have hd : decide ((0 : Int) < (p : Int)) = true := decide_eq_true (by omega)
        have hdn : decide (0 < p) = true := decide_eq_true hp0
        obtain ⟨p1, hp1⟩ : ∃ p1, p1 = p - 1 := ⟨_, rfl⟩
        have hp1i : (p : Int) - 1 = (p1 : Int) := by omega
        have hqn := HPQ.out.2.1
        have hjq := HJ.out
        have h12q := h12p.out
        have ⟨x, hx⟩ : ∃ x, d3[p1]! = x := ⟨_, rfl⟩
        have ⟨y, hy⟩ : ∃ y, d3[j]! = y := ⟨_, rfl⟩
        have bd1 : (p1 : Int) < (n : Int) := by omega
        have bd2 : (j : Int) < (n : Int) := by omega
        have c1 := Wk.cell (HA4.out.got.cell (i := p1) (by omega) hx)
        have c2 := Wk.cell (HA4.out.got.cell (i := j) (by omega) hy)
        obtain ⟨z, hz⟩ : ∃ z, ltInt x y = z := ⟨_, rfl⟩
        have HLS := hid (fun w => less_at hz w)
        have HRR : Hid ((decide (0 < p) && !ltInt d3[p - 1]! d3[j]!) = !z) := by
          show _ = _
          rw [hdn]
          simp only [Bool.true_and]
          rw [← hp1, hx, hy, hz]
        clear hx hy hz hqn hjq h12q hp1
        refine wp_region_wk (by kernel_rfl) (by kernel_rfl) ?_
        repeat (go_big_quiet_step (first | (go_at_call 138; exact Wk.same (HLS.out _)) | fail))
        refine wpQuiet_nil ?_
        rintro w3 ⟨⟨_, hb3⟩, rfl⟩
        go_wp2_with fail
        go_meet
        exact ⟨!z, rfl, HRR.out, hb3⟩
      · have hd : decide ((0 : Int) < (p : Int)) = false := decide_eq_false (by omega)
        have HRR : Hid ((decide (0 < p) && !ltInt d3[p - 1]! d3[j]!) = false) := by
          show _ = _
          rw [decide_eq_false hp0]; rfl
        refine wp_region_wk (by kernel_rfl) (by kernel_rfl) ?_
        repeat (go_big_quiet_step (fail))
        refine wpQuiet_nil ?_
        rintro w3 ⟨⟨_, hb3⟩, rfl⟩
        go_wp2_with fail
        go_meet
        exact ⟨false, rfl, HRR.out, hb3⟩
    obtain ⟨z, rfl, HZ, hbc⟩ := hcut
    have HA5 := hid (HA4.out.to (HA4.out.got.below hbc.out))
    clear HA4 hbc
    cases z
    case true =>
      have HI := hid (peq_step HA5.out HSZ.out h12p.out HJ.out.1 HJ.out.2 (by have h := HZ.out; simp only [Bool.and_eq_true, decide_eq_true_eq] at h; exact h.1) (by have h := HZ.out; simp only [Bool.and_eq_true, Bool.not_eq_true'] at h; exact h.2) cap)
      go_wp2_with fail
      refine HI.out.mono ?_
      rintro e w2 ⟨m, rfl, hm1, hm2, d4, hd⟩
      have HD := hid hd
      have HM := hid (And.intro hm1 hm2)
      clear hd hm1 hm2
      go_wp2_with fail
      go_roundw
      case rel => exact ⟨m, q, r1, q8, q9, d4, rfl, rfl, rfl, rfl, rfl, (by have := HM.out; have := HPQ.out; show _ ∧ _; omega), HD.out⟩
      case measure => have := HM.out; simp [intOf]; omega
    case false =>
      have HI := hid (part_step HA5.out HSZ.out h12p.out HJ.out.1 HJ.out.2 cap)
      obtain ⟨lq, hlq⟩ : ∃ lq, lq = l / 8 := ⟨_, rfl⟩
      have hlqi : (l : Int) / 8 = (lq : Int) := by omega
      have hlqt : (l : Int).tdiv 8 = (lq : Int) := by rw [Int.tdiv_eq_ediv_of_nonneg (by omega)]; omega
      clear hlq
      go_wp2_with fail
      refine HI.out.mono ?_
      rintro e w2 ⟨m, t, rfl, hm1, hm2, d4, hg, hB1, hB2, hx, hy⟩
      have HD := hid (And.intro hg (And.intro hB1 (And.intro hB2 (And.intro hx hy))))
      have HM := hid (And.intro hm1 hm2)
      obtain ⟨ml, hml⟩ : ∃ ml, ml = m - p := ⟨_, rfl⟩
      obtain ⟨mr, hmr⟩ : ∃ mr, mr = q - m := ⟨_, rfl⟩
      obtain ⟨ms, hms⟩ : ∃ ms, ms = m + 1 := ⟨_, rfl⟩
      have hmli : (m : Int) - (p : Int) = (ml : Int) := by omega
      have hmri : (q : Int) - (m : Int) = (mr : Int) := by omega
      have hmsi : (m : Int) + 1 = (ms : Int) := by omega
      have hm255 : (m : Int) ≤ (q : Int) := by omega
      have HMS := hid hms
      clear hg hB1 hB2 hx hy hm1 hm2 hml hmr HI HA5 hms
      go_upto_region 24 with fail
      by_cases hlr : ml < mr
      · have hlri : (ml : Int) < (mr : Int) := by omega
        have HR := hid (HL.out w2 p m d4 r1 HD.out.1.row HD.out.1.size HM.out.1 (by have := HM.out; have := HPQ.out; omega) (by have := HM.out; have := HPQ.out; omega) HD.out.2.1)
        go_wp2_with fail
        refine HR.out.mono ?_
        rintro e w3 ⟨rfl, ⟨d5, k1, k2, k3⟩⟩
        have HA6 := hid (HD.out.2.2.2.1 d5 w3 (HD.out.1.trans k1) k2 k3)
        rw [← HMS.out] at HA6
        clear k1 k2 k3
        go_wp2_with fail
        go_roundw
        case rel => exact ⟨ms, q, r1, _, _, d5, rfl, rfl, rfl, rfl, rfl, (by have := HM.out; have := HPQ.out; have := HMS.out; show _ ∧ _; omega), HA6.out⟩
        case measure => have := HM.out; have := HMS.out; simp [intOf]; omega
      · have hlri : ¬ (ml : Int) < (mr : Int) := by omega
        have HR := hid (HL.out w2 ms q d4 r1 HD.out.1.row HD.out.1.size (by have := HM.out; have := HMS.out; omega) HPQ.out.2.1 (by have := HM.out; have := HPQ.out; have := HMS.out; omega) (by rw [HMS.out]; exact HD.out.2.2.1))
        go_wp2_with fail
        refine HR.out.mono ?_
        rintro e w3 ⟨rfl, ⟨d5, k1, k2, k3⟩⟩
        rw [HMS.out] at k2 k3
        have HA6 := hid (HD.out.2.2.2.2 d5 w3 (HD.out.1.trans k1) k2 k3)
        clear k1 k2 k3
        go_wp2_with fail
        go_roundw
        case rel => exact ⟨p, m, r1, _, _, d5, rfl, rfl, rfl, rfl, rfl, (by have := HM.out; have := HPQ.out; have := HMS.out; show _ ∧ _; omega), HA6.out⟩
        case measure => have := HM.out; have := HMS.out; simp [intOf]; omega
theorem pdq_any (blk n cap : Nat) (hsz : n ≤ 255) : ∀ k, LessU blk n cap k := by
  intro k
  induction k with
  | zero => intro w a b d r _ _ _ _ h; omega
  | succ k ih => exact fun w a b d r hR hn hab hb hk hB => pdq_step w blk n cap a b d r hR hn hab hb hsz hB (fun w a' b' d r hR hn hab hb hk' hB => ih w a' b' d r hR hn hab hb (by omega) hB)
/-- any 255 numbers -/
theorem sortU255 : SortU 255 := sortU_of 255 (Nat.le_refl _) fun w blk cap d r hR h255 _ =>
  (pdq_any blk d.size cap h255 (d.size + 1) w 0 d.size d r hR rfl (Nat.zero_le _) (Nat.le_refl _) (by omega) (Or.inl rfl)).mono fun e w' ⟨he, ⟨d', h1, h2, h3⟩⟩ => ⟨he, d', h1.row, h2, h3, h1.turn⟩
end Go.Proofs.YtdjlbejhphbcoaaGreat
namespace Go.Proofs.YtdjlbejhphbcoaaGreat
open Go.RowKit
set_option linter.unusedVariables false
set_option maxRecDepth 100000

theorem insPort_len (n : Int) (p : List Int) : (insPort n p).length ≤ p.length + 1 := by
  induction p with
  | nil => simp [insPort]
  | cons x p ih =>
    unfold insPort
    split
    · simp
    · split <;> simp <;> omega
theorem ports_len (L : List Act12) : (ports13 L).length ≤ L.length := by
  have h : ∀ (l p : List Int), (l.foldl (fun p n => insPort n p) p).length ≤ p.length + l.length := by
    intro l
    induction l with
    | nil => intro p; simp
    | cons x l ih =>
      intro p
      have h1 := ih (insPort x p)
      have h2 := insPort_len x p
      simp only [List.foldl_cons, List.length_cons]
      omega
  have h1 := h (outs13 L) []
  have h2 : (outs13 L).length ≤ L.length := by
    unfold outs13
    rw [List.length_map]
    exact List.length_filter_le _ _
  simp only [List.length_nil, Nat.zero_add] at h1
  exact Nat.le_trans h1 h2
end Go.Proofs.YtdjlbejhphbcoaaGreat
namespace Go.Proofs.YtdjlbejhphbcoaaGreat
open Go.RowKit
set_option linter.unusedVariables false
set_option maxRecDepth 100000

section
variable {P : Program} {t e : TypeId} {z : Value} {bytes : Nat} {w : World}
/-- append(s, x...), of integers, where a guard is on -/
theorem wp_app_ints_w13 {ops : Array Oper} {rest : List Oper} {o : Oper} {a : Act} {Q : Exit → Act → World → Prop} (hgd : Region.wanted o (yielded ops a.tmps) = true) (s x : Operand)
    (ho : o.op = .call { callee := .builtin .append, args := #[s, x], argTypes := #[t, t] }) (E : Elem P t e z bytes)
    {v : Value} (hs : a.eval s = v) {k : IntKind} {xs : List Int} (hown : w.ownsRow 0 e 1 v (xs.map (Value.int k)).length (xs.map (Value.int k)))
    {ad : Option Addr} {l ys : List Int} {n c : Nat} (hx : a.eval x = .slice ad n c) (hn : n = l.length) (hI : Ints k w ad l) (hys : xs ++ l = ys)
    (hbytes : ys.length * bytes ≤ 140737488355328) (h63 : ys.length ≤ 140737488355328)
    (h : ∀ a' c' w', ys.length ≤ c' → c' ≤ 9223372036854775807 → Ints k w' a' ys → Grew e w w' v (.slice a' ys.length c') (ys.map (Value.int k)) → wpList P ops Q rest (a.put o.dst (.slice a' ys.length c')) w') : wpList P ops Q (o :: rest) a w := by
  subst hys
  rw [List.length_append] at hbytes h63
  refine wpList_step fun K hK => ?_
  rw [if_pos hgd]
  refine app_wp s x ho E hs hown hx hn hI (by rw [List.length_map]; exact hbytes) (by rw [List.length_map]; exact h63) fun v' w' hg => hK _ _ ?_
  rw [← List.map_append] at hg
  obtain ⟨a', c', rfl, h1, h2, hI'⟩ := own_ints hg.own
  exact h a' c' w' h1 (by unfold maxLen at h2; omega) hI' hg
end
theorem rfl_beq13 (l : List Int) : (l == l) = true := by simp
set_option maxHeartbeats 4000000 in
theorem ActsEncodes_few (l : List Ent12) (la : Option Addr) (lc : Nat) (ma : Option Addr) (mc nm : Nat) (w : World) (hL : Acts w la l) (hl : l.length ≤ 9223372036854775807) (hf : few13 l = false ∨ 100 < nm) :
    Calls Tryz.prog 5 #[.slice la l.length lc, .slice ma nm mc] w fun e w' => e = .returned (.bool true) ∧ Below w.heap.size w w' := by
  have F1 := few13_any l la lc w hL hl
  have HS := hid (fun V => sure13_any V)
  have ways : few13 l = false ∨ (few13 l = true ∧ (100 : Int) < (nm : Int)) := by
    rcases hf with h | h
    · exact .inl h
    · cases hx : few13 l
      · exact .inl rfl
      · exact .inr ⟨rfl, by omega⟩
  obtain ⟨n, hn⟩ : ∃ n, n = l.length := ⟨_, rfl⟩
  rw [← hn] at F1 hl ⊢
  rcases ways with h | ⟨h, hm⟩
  all_goals
    rw [h] at F1
    have HFF := hid F1
    clear F1 h hf hL hn
    go_enter Tryz.func5, Tryz.ntmps5
    go_wp2_with fail
    refine HFF.out.mono ?_
    rintro e w1 ⟨rfl, hb1⟩
    have HB1 := hid hb1
    clear hb1
    go_wp2_with fail
    refine (HS.out _).mono ?_
    rintro e w2 ⟨rfl, hb2⟩
    have HB2 := hid (below_on HB1.out hb2)
    clear hb2
    go_wp2_with fail
    exact bodyPost_ret (v := .bool true) (by simp [results, Tryz.results5, go_sem]) rfl ⟨rfl, HB2.out⟩
set_option maxHeartbeats 8000000 in
theorem ActsEncodes_no (l : List Ent12) (la : Option Addr) (lc : Nat) (ma : Option Addr) (mc : Nat) (more : List Int) (w : World) (hL : Acts w la l) (aL : AllIn w l) (hll : l.length ≤ 80) (hfl : few13 l = true) (hm : more.length ≤ 100) (hI : Ints .u8 w ma more) (hno : enc13 (l.map Ent12.act) = .error 10001) :
    Calls Tryz.prog 5 #[.slice la l.length lc, .slice ma more.length mc] w fun e w' => e = .returned (.bool true) ∧ Below w.heap.size w w' := by
  have F1 := few13_any l la lc w hL (by omega)
  rw [hfl] at F1
  have F1 := hid F1
  have HS := hid (fun V => sure13_any V)
  have HE := hid (fun (W : World) (hb : Below w.heap.size w W) => encode13_any W la lc l (hL.below hb) (aL.below hb) (by omega))
  have HR := hid (fun (W : World) (hb : Below w.heap.size w W) => refEncode13_any W la lc l (hL.below hb) (aL.below hb) (by omega))
  have HP := hid (fun (w0 W : World) (hb : Below w.heap.size w W) {g m : Nat} {p : Option Nat} {r : Nat} {ll : List Int} (hB : BufOn w0 W g m p r ll [] 0) => put13_no w0 W la lc l (hL.below hb) (aL.below hb) (by omega) hB hno)
  have HRI := fun (W : World) (hb : Below w.heap.size w W) => right13_any W la lc l (hL.below hb) (aL.below hb) (by omega)
  have HSI := fun (W : World) (hb : Below w.heap.size w W) => sizeof13_any W la lc l (hL.below hb) (aL.below hb) (by omega)
  rw [(size_err hno).2] at HRI
  rw [(size_err hno).1] at HSI
  have HRI := hid HRI
  have HSI := hid HSI
  have hpl : (ports13 (l.map Ent12.act)).length ≤ 80 := by have := ports_len (l.map Ent12.act); rw [List.length_map] at this; omega
  have G1 := hid (fun V (hV : Below w.heap.size w V) => ports13_any 255 sortU255 sortNil V la lc l (hL.below hV) (aL.below hV) (by omega) (by omega))
  have G2 := hid (fun V (hV : Below w.heap.size w V) => refPorts13_any V la lc l (hL.below hV) (aL.below hV) (by omega))
  obtain ⟨P, hP⟩ : ∃ P, ports13 (l.map Ent12.act) = P := ⟨_, rfl⟩
  rw [hP] at G1 G2 hpl
  have HNO := hid hno
  have HI := hid hI
  have hmi : ¬ (100 : Int) < (more.length : Int) := by omega
  obtain ⟨n, hn⟩ : ∃ n, n = l.length := ⟨_, rfl⟩
  rw [← hn] at F1 HE HR HP HRI HSI G1 G2 hll ⊢
  clear hL aL hfl hI hno hP hn
  go_enter Tryz.func5, Tryz.ntmps5
  go_wp2_with fail
  refine F1.out.mono ?_
  rintro e w1 ⟨rfl, hb1⟩
  have HB1 := hid hb1
  clear hb1
  go_wp2_with fail
  refine (HE.out _ HB1.out).mono ?_
  rintro e w2 h
  obtain ⟨rfl, hb2⟩ : e = .returned (.tuple #[.slice none 0 0, .int .i64 10001]) ∧ Below w1.heap.size w1 w2 := by
    rcases h with ⟨_, h1, h2⟩ | ⟨_, _, h1, _⟩
    · exact ⟨h1, h2⟩
    · rw [HNO.out] at h1; cases h1
  have HB2 := hid (below_on HB1.out hb2)
  clear h hb2
  go_wp2_with fail
  refine (HR.out _ HB2.out).mono ?_
  rintro e w3 h
  obtain ⟨xa, xc, rfl, hb3⟩ : ∃ xa xc, e = .returned (.tuple #[.slice xa 0 xc, .int .i64 10001]) ∧ Below w2.heap.size w2 w3 := by
    obtain ⟨X, xa, xc, q, h1, h2, _, ⟨h3, _⟩ | ⟨_, h3, h4⟩⟩ := h
    · rw [HNO.out] at h3; cases h3
    · subst h3 h4
      exact ⟨xa, xc, h1, h2⟩
  have HB3 := hid (below_on HB2.out hb3)
  clear h hb3
  go_wp2_with fail
  refine (bufNew_any 100000 _).mono ?_
  rintro e w4 ⟨g, m, rfl, hB, hb4, hg, hmm⟩
  have O4 : BufOn w w4 g m none 100000 [] [] 0 := ⟨hB, below_on HB3.out hb4, by have := HB3.out.size; rintro i (e | e | e); omega; omega; simp at e⟩
  clear hB hb4 hg hmm
  go_wp2_with fail
  refine (O4.buf.bytes_ok more ma mc (by rw [List.length_nil]; omega) (HI.out.below O4.bel)).mono ?_
  rintro e w5 ⟨rfl, p5, hG⟩
  have O5 := O4.went hG
  rw [List.nil_append] at O5
  clear hG O4
  go_wp2_with fail
  refine (HP.out w w5 O5.bel O5).mono ?_
  rintro e w6 ⟨rfl, O6⟩
  clear O5
  go_wp2_with fail
  refine (O6.buf.done_late (by decide)).mono ?_
  rintro e w7 ⟨rfl, hb7⟩
  have HB7 := hid (below_on O6.bel hb7)
  clear hb7 O6
  go_wp2_with fail
  refine (HRI.out _ HB7.out).mono ?_
  rintro e w8 ⟨rfl, hb8⟩
  have HB8 := hid (below_on HB7.out hb8)
  clear hb8
  go_wp2_with fail
  refine (HSI.out _ HB8.out).mono ?_
  rintro e w9 ⟨rfl, hb9⟩
  have HB9 := hid (below_on HB8.out hb9)
  have HC1 := hid (bytes8_any [] [] none xa 0 0 0 xc rfl rfl w9 (by decide) (by decide) (Ints.nil _ _ _) (Ints.nil _ _ _))
  rw [rfl_beq13] at HC1
  clear hb9
  go_wp2_with fail
  refine HC1.out.mono ?_
  rintro e w10 ⟨rfl, hb10⟩
  have HB10 := hid (below_on HB9.out hb10)
  clear hb10
  go_wp2_with fail
  refine (G1.out _ HB10.out).mono ?_
  rintro e w11 ⟨pa, pc, rfl, hI11, hb11⟩
  have HB11 := hid (below_on HB10.out hb11)
  have HI11 := hid hI11
  clear hI11 hb11
  go_wp2_with fail
  refine (G2.out _ HB11.out).mono ?_
  rintro e w12 ⟨qa, qc, rfl, hI12, hb12⟩
  have HB12 := hid (below_on HB11.out hb12)
  have HC2 := hid (nums_at P P pa qa P.length P.length pc qc w12 rfl rfl (by omega) (by omega) (HI11.out.below hb12) hI12)
  rw [rfl_beq13] at HC2
  clear hI12 hb12
  go_wp2_with fail
  refine HC2.out.mono ?_
  rintro e w13 ⟨rfl, hb13⟩
  have HB13 := hid (below_on HB12.out hb13)
  clear hb13
  go_wp2_with fail
  refine (HS.out _).mono ?_
  rintro e w14 ⟨rfl, hb14⟩
  have HB14 := hid (below_on HB13.out hb14)
  clear hb14
  go_wp2_with fail
  exact bodyPost_ret (v := .bool true) (by simp [results, Tryz.results5, go_sem]) rfl ⟨rfl, HB14.out⟩
set_option maxHeartbeats 8000000 in
theorem ActsEncodes_yes (l : List Ent12) (la : Option Addr) (lc : Nat) (ma : Option Addr) (mc : Nat) (more : List Int) (w : World) (hL : Acts w la l) (aL : AllIn w l) (hll : l.length ≤ 80) (hfl : few13 l = true) (hm : more.length ≤ 100) (hI : Ints .u8 w ma more) (M : List Int) (hyes : enc13 (l.map Ent12.act) = .ok M) :
    Calls Tryz.prog 5 #[.slice la l.length lc, .slice ma more.length mc] w fun e w' => e = .returned (.bool true) ∧ Below w.heap.size w w' := by
  have F1 := few13_any l la lc w hL (by omega)
  rw [hfl] at F1
  have F1 := hid F1
  have HS := hid (fun V => sure13_any V)
  have HE := hid (fun (W : World) (hb : Below w.heap.size w W) => encode13_any W la lc l (hL.below hb) (aL.below hb) (by omega))
  have HR := hid (fun (W : World) (hb : Below w.heap.size w W) => refEncode13_any W la lc l (hL.below hb) (aL.below hb) (by omega))
  have HP := hid (fun (w0 W : World) (hb : Below w.heap.size w W) {g m : Nat} {p : Option Nat} {r : Nat} {ll : List Int} (hB : BufOn w0 W g m p r ll [] 0) (hr : ll.length + M.length ≤ r) => put13_yes w0 W la lc l (hL.below hb) (aL.below hb) (by omega) hB hyes hr)
  have HRI := fun (W : World) (hb : Below w.heap.size w W) => right13_any W la lc l (hL.below hb) (aL.below hb) (by omega)
  have HSI := fun (W : World) (hb : Below w.heap.size w W) => sizeof13_any W la lc l (hL.below hb) (aL.below hb) (by omega)
  rw [(size_ok13 hyes).2] at HRI
  rw [(size_ok13 hyes).1] at HSI
  have HRI := hid HRI
  have HSI := hid HSI
  have hpl : (ports13 (l.map Ent12.act)).length ≤ 80 := by have := ports_len (l.map Ent12.act); rw [List.length_map] at this; omega
  have G1 := hid (fun V (hV : Below w.heap.size w V) => ports13_any 255 sortU255 sortNil V la lc l (hL.below hV) (aL.below hV) (by omega) (by omega))
  have G2 := hid (fun V (hV : Below w.heap.size w V) => refPorts13_any V la lc l (hL.below hV) (aL.below hV) (by omega))
  obtain ⟨P, hP⟩ : ∃ P, ports13 (l.map Ent12.act) = P := ⟨_, rfl⟩
  rw [hP] at G1 G2 hpl
  have HYES := hid hyes
  have HI := hid hI
  have hmi : ¬ (100 : Int) < (more.length : Int) := by omega
  have hMl : M.length ≤ 65528 := (enc_raw13 hyes).2.2
  obtain ⟨n, hn⟩ : ∃ n, n = l.length := ⟨_, rfl⟩
  rw [← hn] at F1 HE HR HP HRI HSI G1 G2 hll ⊢
  clear hL aL hfl hI hyes hP hn
  go_enter Tryz.func5, Tryz.ntmps5
  go_wp2_with fail
  refine F1.out.mono ?_
  rintro e w1 ⟨rfl, hb1⟩
  have HB1 := hid hb1
  clear hb1
  go_wp2_with fail
  refine (HE.out _ HB1.out).mono ?_
  rintro e w2 (⟨h1, _⟩ | ⟨M1, ga, h1, rfl, hb2, hIa, _⟩)
  · rw [HYES.out] at h1; cases h1
  obtain rfl : M = M1 := by have := HYES.out; rw [h1] at this; cases this; rfl
  have HB2 := hid (below_on HB1.out hb2)
  have HIA := hid hIa
  clear hb2 hIa h1
  go_wp2_with fail
  refine (HR.out _ HB2.out).mono ?_
  rintro e w3 ⟨M1, bd, bc, q, rfl, hb3, hIb, ⟨h1, rfl⟩ | ⟨h1, _⟩⟩
  case inr => rw [HYES.out] at h1; cases h1
  obtain rfl : M = M1 := by have := HYES.out; rw [h1] at this; cases this; rfl
  have HB3 := hid (below_on HB2.out hb3)
  have HIA3 := hid (HIA.out.below hb3)
  have HIB := hid hIb
  clear hb3 hIb h1
  go_wp2_with fail
  refine (bufNew_any 100000 _).mono ?_
  rintro e w4 ⟨g, m, rfl, hB, hb4, hg, hmm⟩
  have O4 : BufOn w3 w4 g m none 100000 [] [] 0 := ⟨hB, hb4, by rintro i (e | e | e); omega; omega; simp at e⟩
  clear hB hb4 hg hmm
  go_wp2_with fail
  refine (O4.buf.bytes_ok more ma mc (by rw [List.length_nil]; omega) ((HI.out.below HB3.out).below O4.bel)).mono ?_
  rintro e w5 ⟨rfl, p5, hG⟩
  have O5 := O4.went hG
  rw [List.nil_append] at O5
  clear hG O4
  go_wp2_with fail
  refine (HP.out w3 w5 (below_on HB3.out O5.bel) O5 (by omega)).mono ?_
  rintro e w6 ⟨rfl, p6, O6⟩
  clear O5
  obtain ⟨Y, hY⟩ : ∃ Y, more ++ M = Y := ⟨_, rfl⟩
  have hYl : Y.length = more.length + M.length := by rw [← hY, List.length_append]
  rw [hY] at O6
  have HYL := hid hYl
  have HY := hid hY
  clear hY hYl
  go_wp2_with fail
  refine O6.buf.done_ok.mono ?_
  rintro e w7 ⟨rfl, hFr⟩
  obtain ⟨ad, cp, he, hl, hc, hI⟩ := own_ints hFr.own
  have he1 : ad = some ⟨w6.heap.size, 0, none⟩ := by simpa using (congrArg (fun x => match x with | Value.slice a _ _ => a | _ => none) he).symm
  subst he1
  have HB37 := hid (below_on O6.bel hFr.bel)
  have HB7 := hid (below_on HB3.out HB37.out)
  have HIY := hid hI
  clear he hl hc hI hFr O6
  go_wp2_with fail
  refine (HRI.out _ HB7.out).mono ?_
  rintro e w8 ⟨rfl, hb8⟩
  have HB8 := hid (below_on HB37.out hb8)
  have HIY8 := hid (HIY.out.below hb8)
  clear hb8
  go_wp2_with fail
  refine (HSI.out _ (below_on HB3.out HB8.out)).mono ?_
  rintro e w8b ⟨rfl, hb8b⟩
  have HB8b := hid (below_on HB8.out hb8b)
  have HIY8b := hid (HIY8.out.below hb8b)
  clear hb8b
  have HC1 := hid (bytes8_any M M (some ⟨ga, 0, none⟩) bd M.length M.length M.length bc rfl rfl w8b (by omega) (by omega) (HIA3.out.below HB8b.out) (HIB.out.below HB8b.out))
  rw [rfl_beq13] at HC1
  go_wp2_with fail
  refine HC1.out.mono ?_
  rintro e w9 ⟨rfl, hb9⟩
  have HB9 := hid (below_on HB8b.out hb9)
  have HIY9 := hid (HIY8b.out.below hb9)
  clear hb9 HC1
  go_wp2_with fail
  refine (G1.out _ (below_on HB3.out HB9.out)).mono ?_
  rintro e w10 ⟨pa, pc, rfl, hI10, hb10⟩
  have HB10 := hid (below_on HB9.out hb10)
  have HIY10 := hid (HIY9.out.below hb10)
  have HI10 := hid hI10
  clear hI10 hb10
  go_wp2_with fail
  refine (G2.out _ (below_on HB3.out HB10.out)).mono ?_
  rintro e w11 ⟨qa, qc, rfl, hI11, hb11⟩
  have HB11 := hid (below_on HB10.out hb11)
  have HIY11 := hid (HIY10.out.below hb11)
  have HC2 := hid (nums_at P P pa qa P.length P.length pc qc w11 rfl rfl (by omega) (by omega) (HI10.out.below hb11) hI11)
  rw [rfl_beq13] at HC2
  clear hI11 hb11
  go_wp2_with fail
  refine HC2.out.mono ?_
  rintro e w12 ⟨rfl, hb12⟩
  have HB12 := hid (below_on HB11.out hb12)
  have HIY12 := hid (HIY11.out.below hb12)
  have hIm := ((HI.out.below HB3.out).below HB12.out).below (below_alloc w12 (.cells #[] 5))
  have hIb9 := HIB.out.below HB12.out
  have HIB9 := hid hIb9
  have HF0 := hid (own_emptyI w12 5 .u8)
  clear hb12 HC2 hIb9
  go_wp2_with (first
    | (at_builtin; refine wp_app_ints_w13 (by first | rfl | (simp [Region.wanted, yielded])) (.tmp 83) (.tmp 84) rfl elemU8 rfl HF0.out rfl rfl hIm (List.nil_append more) ?_ ?_ ?_; omega; omega; intro a5 c5 w13 hl5 hc5 hI5 hg5; have HF5 := hid hg5.first; have HIB10 := hid (HIB9.out.below HF5.out.bel); clear hI5 hg5)
    | (at_builtin; refine wp_app_ints_w13 (by first | rfl | (simp [Region.wanted, yielded])) (.tmp 85) (.tmp 86) rfl elemU8 rfl HF5.out.own rfl rfl HIB10.out HY.out ?_ ?_ ?_; (have := HYL.out; omega); (have := HYL.out; omega); intro a6 c6 w14 hl6 hc6 hI6 hg6; have HF6 := hid (HF5.out.step hg6); have HI6 := hid hI6; clear hI6 hg6)
    | fail)
  have HC3 := hid (bytes8_any Y Y (some ⟨w6.heap.size, 0, none⟩) a6 Y.length Y.length Y.length c6 rfl rfl w14 (by have := HYL.out; omega) (by have := HYL.out; omega) (HIY12.out.below HF6.out.bel) HI6.out)
  rw [rfl_beq13] at HC3
  refine HC3.out.mono ?_
  rintro e w15 ⟨rfl, hb15⟩
  have HB15 := hid (below_on (below_on (below_on HB3.out HB12.out) HF6.out.bel) hb15)
  clear hb15 HC3
  go_wp2_with fail
  refine (HS.out _).mono ?_
  rintro e w16 ⟨rfl, hb16⟩
  have HB16 := hid (below_on HB15.out hb16)
  clear hb16
  go_wp2_with fail
  exact bodyPost_ret (v := .bool true) (by simp [results, Tryz.results5, go_sem]) rfl ⟨rfl, HB16.out⟩
theorem ActsEncodes_walk (la : Option Addr) (ln lc : Nat) (more : List Int) (ma : Option Addr) (mc : Nat) (w : World) (h0 : ln ≤ 9223372036854775807 ∧ IsActs w la ln) (hI : Ints .u8 w ma more) :
    Calls Tryz.prog 5 #[.slice la ln lc, .slice ma more.length mc] w fun e w' => e = .returned (.bool true) ∧ Below w.heap.size w w' := by
  obtain ⟨hl, l, rfl, aL, iL⟩ := h0
  by_cases h : few13 l = true ∧ more.length ≤ 100
  · obtain ⟨f1, f2⟩ := h
    obtain ⟨i1, l1, _⟩ := few13_in f1 iL
    rcases enc_or (l.map Ent12.act) with h | ⟨x, h1, _, _, _⟩
    · exact ActsEncodes_no l la lc ma mc more w aL i1 l1 f1 f2 hI h
    · exact ActsEncodes_yes l la lc ma mc more w aL i1 l1 f1 f2 hI x h1
  · refine ActsEncodes_few l la lc ma mc more.length w aL hl ?_
    cases h1 : few13 l
    · exact .inl rfl
    · exact .inr (by
        rw [h1] at h
        simp at h
        exact h)
end Go.Proofs.YtdjlbejhphbcoaaGreat
