/- Put together out of several texts. -/
import Derived.Test.YtdjlbejhphbcoaaGreatU20
import Derived.Test.YtdjlbejhphbcoaaGreatU21
import Derived.Test.YtdjlbejhphbcoaaGreatU12
import Derived.Test.YtdjlbejhphbcoaaGreatU24
namespace Go.Proofs.YtdjlbejhphbcoaaGreat
open Go.RowKit
set_option linter.unusedVariables false
set_option maxRecDepth 100000

theorem insPort_len (n : Int) (p : List Int) : (insPort n p).length ≤ p.length + 1 := by
  induction p with
  | nil => simp [insPort]
  | cons x p ih =>
    unfold insPort
    split
    · simp
    · split <;> simp <;> omega
theorem ports_len (L : List Act12) : (ports13 L).length ≤ L.length := by
  have h : ∀ (l p : List Int), (l.foldl (fun p n => insPort n p) p).length ≤ p.length + l.length := by
    intro l
    induction l with
    | nil => intro p; simp
    | cons x l ih =>
      intro p
      have h1 := ih (insPort x p)
      have h2 := insPort_len x p
      simp only [List.foldl_cons, List.length_cons]
      omega
  have h1 := h (outs13 L) []
  have h2 : (outs13 L).length ≤ L.length := by
    unfold outs13
    rw [List.length_map]
    exact List.length_filter_le _ _
  simp only [List.length_nil, Nat.zero_add] at h1
  exact Nat.le_trans h1 h2
theorem any_take_succ {α : Type} (f : α → Bool) (P : List α) (k : Nat) (hk : k < P.length) : (P.take (k + 1)).any f = ((P.take k).any f || f P[k]) := by
  rw [List.take_add_one, List.getElem?_eq_getElem hk, List.any_append]
  simp
theorem getD_is (P : List Int) {i : Nat} (h : i < P.length) : P.getD i 0 = P[i] := by
  rw [List.getD_eq_getElem?_getD, List.getElem?_eq_getElem h]
  rfl
theorem back_step (l : List Ent12) (j : Nat) (hj : j < l.length) : (l.drop (j + 1)).reverse ++ [l[j]] = (l.drop j).reverse := by
  rw [List.drop_eq_getElem_cons hj, List.reverse_cons]
set_option maxHeartbeats 8000000 in
theorem ActsPorts_main (l : List Ent12) (la : Option Addr) (lc : Nat) (w : World) (hL : Acts w la l) (aL : AllIn w l) (hll : l.length ≤ 80) (hfl : few13 l = true) :
    Calls Tryz.prog 8 #[.slice la l.length lc] w fun e w' => e = .returned (.bool true) ∧ Below w.heap.size w w' := by
  have F1 := few13_any l la lc w hL (by omega)
  rw [hfl] at F1
  have F1 := hid F1
  have HL := hid (show ListA w la l from ⟨hL, aL⟩)
  obtain ⟨P, hP⟩ : ∃ P, ports13 (l.map Ent12.act) = P := ⟨_, rfl⟩
  have hpl : P.length ≤ 80 := by
    rw [← hP]
    have := ports_len (l.map Ent12.act)
    rw [List.length_map] at this
    omega
  have G1 := hid (fun V (hV : Below w.heap.size w V) => ports13_any 255 sortU255 sortNil V la lc l (hL.below hV) (aL.below hV) (by omega) (by rw [hP]; omega))
  have HS := hid (fun V => sure13_any V)
  rw [hP] at G1
  have HP := hid hP
  obtain ⟨n, hn⟩ : ∃ n, n = l.length := ⟨_, rfl⟩
  obtain ⟨np, hnp⟩ : ∃ np, np = P.length := ⟨_, rfl⟩
  have HN := hid hn
  have HNP := hid hnp
  rw [← hn] at F1 G1 hll ⊢
  rw [← hnp] at G1 hpl
  clear hL aL hfl hP hn hnp
  go_enter Tryz.func8, Tryz.ntmps8
  go_wp2_with fail
  refine F1.out.mono ?_
  rintro e w1 ⟨rfl, hb1⟩
  have HB1 := hid hb1
  clear hb1
  go_wp2_with fail
  refine (G1.out _ HB1.out).mono ?_
  rintro e w2 ⟨pa, pc, rfl, hI2, hb2⟩
  have HI2 := hid hI2
  have HB2 := hid (below_on HB1.out hb2)
  clear hI2 hb2
  go_wp2_with fail
  go_loopw [4, 5] (fun v4 v5 wr => ∃ (i k : Nat) (ab : Option Addr) (cb : Nat), v4 = .slice ab k cb ∧ v5 = .int .i64 ((i : Int) - 1) ∧ i ≤ n ∧ k + i = n ∧ Hid (FreshA w2 wr (.slice ab k cb) k (l.drop i).reverse)) (fun _ v5 _ => (intOf v5 + 1).toNat)
  case atStart => exact ⟨n, 0, none, 0, rfl, by first | rfl | go_num, Nat.le_refl _, by omega, by rw [List.drop_of_length_le (by have := HN.out; omega)]; exact FreshA.nil _⟩
  case round =>
    obtain ⟨i, k, ab, cb, rfl, rfl, hin, hki, hF⟩ := hrel
    by_cases hi0 : 0 < i
    · obtain ⟨j, rfl⟩ : ∃ j, i = j + 1 := ⟨i - 1, by omega⟩
      have hji : (((j + 1 : Nat) : Int) - 1) = (j : Int) := by omega
      rw [hji]
      have hj0 : (0 : Int) ≤ (j : Int) := by omega
      have hjn : (j : Int) < (n : Int) := by omega
      have hjl : j < l.length := by have := HN.out; omega
      have HLR := hid (HL.out.below (below_on HB2.out hF.out.bel))
      obtain ⟨b, off, rfl, -⟩ := HLR.out.acts j hjl
      obtain ⟨c0, c1, c2, c3, c4, c5, c6, c7, c8, c9⟩ := HLR.out.acts.ten j hjl
      have HBS := hid (back_step l j hjl)
      have HTEN := hid (fun V (hV : Below w.heap.size w V) => (HL.out.acts.below hV).ten j hjl)
      have HMP : Hid (l[j].T = 0 → l[j].A ∈ P) := by
        show _ → _
        rw [← HP.out]
        exact fun h => mem_ports.2 ⟨l[j].act, List.mem_map_of_mem (List.getElem_mem hjl), h, rfl⟩
      generalize l[j] = g at c0 c1 c2 c3 c4 c5 c6 c7 c8 c9 HBS HTEN HMP
      have HF1 := hid (hF.out.behind (below_alloc wr (.cells g.cs.toArray 27)))
      have HONE := hid (acts_one wr g 27)
      go_upto_region 9 with (at_builtin; refine wp_app_acts rfl (.tmp 24) (.tmp 29) rfl HF1.out rfl rfl rfl HONE.out (by omega) rfl ?_; intro va' vc' w5 hg5; have HF5 := hid hg5; clear hg5)
      clear c0 c1 c2 c3 c4 c5 c6 c7 c8 c9
      rw [HBS.out] at HF5
      have HB5 := hid (below_on HB2.out HF5.out.bel)
      obtain ⟨d0, d1, -⟩ := HTEN.out _ HB5.out
      by_cases hT : g.T = 0
      · have HA := hid (HMP.out hT)
        rw [hT] at d0
        go_wp2_with fail
        go_loopw [6, 7] (fun v6 v7 wx => ∃ (i : Nat) (q : Bool), v6 = .bool q ∧ v7 = .int .i64 i ∧ i ≤ np ∧ Hid ((P.take i).any (fun x => x == g.A) = q) ∧ Hid (Below w5.heap.size w5 wx)) (fun _ v7 _ => np - (intOf v7).toNat)
        case atStart => exact ⟨0, false, rfl, rfl, Nat.zero_le _, rfl, Below.refl _ _⟩
        case round =>
          obtain ⟨i, q, rfl, rfl, hi, hq, hbx⟩ := hrel
          by_cases hlt : i < np
          · have hlti : (i : Int) < (np : Int) := by omega
            have hil : i < P.length := by have := HNP.out; omega
            cases q
            case true =>
              have HQ2 : Hid ((P.take (i + 1)).any (fun x => x == g.A) = true) := by
                show _ = _
                rw [any_take_succ _ P i hil, hq.out]; rfl
              go_upto_region 14 with fail
              refine wp_region_wk (by kernel_rfl) (by kernel_rfl) ?_
              repeat (go_big_quiet_step (fail))
              refine wpQuiet_nil ?_
              rintro w6 ⟨⟨_, hb6⟩, rfl⟩
              have HB6 := hid (below_on hbx.out hb6)
              clear hb6
              go_wp2_with fail
              go_roundw
              case rel => exact ⟨i + 1, true, rfl, by go_num, by omega, HQ2.out, HB6.out⟩
              case measure => simp [intOf]; omega
            case false =>
              obtain ⟨pb, po, rfl, hpc⟩ := HI2.out i hil
              rw [getD_is P hil] at hpc
              have hpi : P[i]? = some P[i] := List.getElem?_eq_getElem hil
              have HQ2 : Hid ((P.take (i + 1)).any (fun x => x == g.A) = (P[i] == g.A)) := by
                show _ = _
                rw [any_take_succ _ P i hil, hq.out]; rfl
              generalize P[i] = x at hpc HQ2
              have z1 := Wk.cell (cell_keep hpc (below_on HF5.out.bel hbx.out))
              have z2 := Wk.cell (cell_keep d1 hbx.out)
              have HD1 := hid d1
              clear hpc hpi d1 d0
              go_upto_region 14 with fail
              refine wp_region_wk (by kernel_rfl) (by kernel_rfl) ?_
              repeat (go_big_quiet_step (fail))
              refine wpQuiet_nil ?_
              rintro w6 ⟨⟨_, hb6⟩, rfl⟩
              have HB6 := hid (below_on hbx.out hb6)
              clear hb6 z1 z2
              go_wp2_with fail
              go_roundw
              case rel => exact ⟨i + 1, _, rfl, by go_num, by omega, HQ2.out, HB6.out⟩
              case measure => simp [intOf]; omega
          · have hge : ¬ (i : Int) < (np : Int) := by omega
            obtain rfl : i = np := by omega
            have hqt : q = true := by
              have h := hq.out
              rw [List.take_of_length_le (by have := HNP.out; omega)] at h
              rw [← h, List.any_eq_true]
              exact ⟨g.A, HA.out, by simp⟩
            subst hqt
            have HB7 := hid (show FreshA w2 wr (.slice va' (k + 1) vc') (k + 1) (l.drop j).reverse from HF5.out.behind hbx.out)
            clear hbx hq d0 d1
            go_wp2_with fail
            go_roundw
            case rel => exact ⟨j, k + 1, va', vc', rfl, by first | rfl | go_num, by omega, by omega, HB7.out⟩
            case measure => simp [intOf]
      · have hTe : (g.T == 0) = false := by simpa using hT
        clear d1
        go_wp2_with fail
        go_roundw
        case rel => exact ⟨j, k + 1, va', vc', rfl, by first | rfl | go_num, by omega, by omega, HF5.out⟩
        case measure => simp [intOf]
    · obtain rfl : i = 0 := by omega
      obtain rfl : k = n := by omega
      have HFB := hid (show FreshA w2 wr (.slice ab k cb) k l.reverse from hF.out)
      have HMQ : Hid (∀ y, y ∈ P → ∃ g ∈ l, g.T = 0 ∧ g.A = y) := by
        show ∀ y, _
        intro y hy
        rw [← HP.out, mem_ports] at hy
        obtain ⟨a, ha, h1, h2⟩ := hy
        obtain ⟨g, hg, rfl⟩ := List.mem_map.1 ha
        exact ⟨g, hg, h1, h2⟩
      have HRISE : Hid (P.Pairwise (· < ·)) := by show List.Pairwise _ _; rw [← HP.out]; exact ports_rise _
      clear hF
      go_wp2_with fail
      go_loopw [8] (fun v8 wx => ∃ (i : Nat), v8 = .int .i64 i ∧ i ≤ np ∧ Hid (FreshA w2 wx (.slice ab k cb) k l.reverse)) (fun v8 _ => np - (intOf v8).toNat)
      case atStart => exact ⟨0, rfl, Nat.zero_le _, HFB.out⟩
      case round =>
        clear HFB
        obtain ⟨i, rfl, hi, HFB⟩ := hrel
        by_cases hlt : i < np
        · have hlti : (i : Int) < (np : Int) := by omega
          have hil : i < P.length := by have := HNP.out; omega
          obtain ⟨pb, po, rfl, hpc⟩ := HI2.out i hil
          rw [getD_is P hil] at hpc
          have hpi : P[i]? = some P[i] := List.getElem?_eq_getElem hil
          obtain ⟨y, hy⟩ : ∃ y, P[i] = y := ⟨_, rfl⟩
          rw [hy] at hpc
          have HY := hid (HMQ.out y (by rw [← hy]; exact List.getElem_mem hil))
          have HPC := hid hpc
          have HPY := hid hy
          clear hpc hpi hy
          go_wp2_with fail
          go_loopw [9, 10] (fun v9 v10 wx => ∃ (t : Nat) (q : Bool), v9 = .bool q ∧ v10 = .int .i64 t ∧ t ≤ k ∧ Hid ((l.take t).any (fun g => g.T == 0 && g.A == y) = q) ∧ Hid (FreshA w2 wx (.slice ab k cb) k l.reverse)) (fun _ v10 _ => k - (intOf v10).toNat)
          case atStart => exact ⟨0, false, rfl, rfl, Nat.zero_le _, rfl, HFB.out⟩
          case round =>
            clear HFB
            obtain ⟨t, q, rfl, rfl, ht, hq, HFB⟩ := hrel
            by_cases htk : t < k
            · have htki : (t : Int) < (k : Int) := by omega
              have htl : t < l.length := by have := HN.out; omega
              cases q
              case true =>
                have HQ2 : Hid ((l.take (t + 1)).any (fun g => g.T == 0 && g.A == y) = true) := by
                  show _ = _
                  rw [any_take_succ _ l t htl, hq.out]; rfl
                go_upto_region 24 with fail
                refine wp_region_wk (by kernel_rfl) (by kernel_rfl) ?_
                repeat (go_big_quiet_step (fail))
                refine wpQuiet_nil ?_
                rintro w6 ⟨⟨_, hb6⟩, rfl⟩
                have HB6 := hid (HFB.out.behind hb6)
                clear hb6
                go_wp2_with fail
                go_roundw
                case rel => exact ⟨t + 1, true, rfl, by go_num, by omega, HQ2.out, HB6.out⟩
                case measure => simp [intOf]; omega
              case false =>
                obtain ⟨lb, lo, rfl, -⟩ := HL.out.acts t htl
                obtain ⟨d0, d1, -⟩ := (HL.out.acts.below (below_on HB2.out HFB.out.bel)).ten t htl
                have HQ2 : Hid ((l.take (t + 1)).any (fun g => g.T == 0 && g.A == y) = (l[t].T == 0 && l[t].A == y)) := by
                  show _ = _
                  rw [any_take_succ _ l t htl, hq.out]; rfl
                generalize l[t] = g at d0 d1 HQ2
                have z2 := Wk.cell (cell_keep HPC.out HFB.out.bel)
                have z0 := Wk.cell d0
                have z1 := Wk.cell d1
                clear d0 d1
                by_cases hT : g.T = 0
                · rw [hT] at z0 HQ2
                  go_upto_region 24 with fail
                  refine wp_region_wk (by kernel_rfl) (by kernel_rfl) ?_
                  repeat (go_big_quiet_step (fail))
                  refine wpQuiet_nil ?_
                  rintro w6 ⟨⟨_, hb6⟩, rfl⟩
                  have HB6 := hid (HFB.out.behind hb6)
                  clear hb6 z0 z1 z2
                  go_wp2_with fail
                  go_roundw
                  case rel => exact ⟨t + 1, _, rfl, by go_num, by omega, HQ2.out, HB6.out⟩
                  case measure => simp [intOf]; omega
                · have hTe : (g.T == 0) = false := by simpa using hT
                  rw [hTe] at HQ2
                  go_upto_region 24 with fail
                  refine wp_region_wk (by kernel_rfl) (by kernel_rfl) ?_
                  repeat (go_big_quiet_step (fail))
                  refine wpQuiet_nil ?_
                  rintro w6 ⟨⟨_, hb6⟩, rfl⟩
                  have HB6 := hid (HFB.out.behind hb6)
                  clear hb6 z0 z1 z2
                  go_wp2_with fail
                  go_roundw
                  case rel => exact ⟨t + 1, _, rfl, by go_num, by omega, HQ2.out, HB6.out⟩
                  case measure => simp [intOf]; omega
            · have hge : ¬ (t : Int) < (k : Int) := by omega
              have hqt : q = true := by
                have h := hq.out
                rw [List.take_of_length_le (by have := HN.out; omega)] at h
                obtain ⟨g, hg, h1, h2⟩ := HY.out
                rw [← h, List.any_eq_true]
                exact ⟨g, hg, by simp [h1, h2]⟩
              subst hqt
              clear hq
              have z2 := Wk.cell (cell_keep HPC.out HFB.out.bel)
              go_upto_region 25 with fail
              go_cut [108] (fun t wx => t = .bool false ∧ Hid (FreshA w2 wx (.slice ab k cb) k l.reverse))
              case first =>
                by_cases hi0 : 0 < i
                · have hd : decide ((0 : Int) < (i : Int)) = true := decide_eq_true (by omega)
                  obtain ⟨i1, rfl⟩ : ∃ i1, i = i1 + 1 := ⟨i - 1, by omega⟩
                  have hi1i : ((i1 + 1 : Nat) : Int) - 1 = (i1 : Int) := by omega
                  have hi1n : (i1 : Int) < (np : Int) := by omega
                  have hil1 : i1 < P.length := by omega
                  obtain ⟨_, _, ee, hpc1⟩ := HI2.out i1 hil1
                  cases ee
                  rw [getD_is P hil1] at hpc1
                  have hxy : P[i1] < y := by rw [← HPY.out]; exact List.pairwise_iff_getElem.1 HRISE.out i1 (i1 + 1) hil1 hil (by omega)
                  generalize P[i1] = x at hpc1 hxy
                  have hde : decide (y ≤ x) = false := decide_eq_false (by omega)
                  have z1 := Wk.cell (cell_keep hpc1 HFB.out.bel)
                  clear hpc1 hxy
                  refine wp_region_wk (by kernel_rfl) (by kernel_rfl) ?_
                  repeat (go_big_quiet_step (fail))
                  refine wpQuiet_nil ?_
                  rintro w6 ⟨⟨_, hb6⟩, rfl⟩
                  have HB6 := hid (HFB.out.behind hb6)
                  clear hb6 z1 z2
                  go_wp2_with fail
                  go_meet
                  exact ⟨rfl, HB6.out⟩
                · have hd : decide ((0 : Int) < (i : Int)) = false := decide_eq_false (by omega)
                  refine wp_region_wk (by kernel_rfl) (by kernel_rfl) ?_
                  repeat (go_big_quiet_step (fail))
                  refine wpQuiet_nil ?_
                  rintro w6 ⟨⟨_, hb6⟩, rfl⟩
                  have HB6 := hid (HFB.out.behind hb6)
                  clear hb6 z2
                  go_wp2_with fail
                  go_meet
                  exact ⟨rfl, HB6.out⟩
              obtain ⟨rfl, hF⟩ := hcut
              go_wp2_with fail
              go_roundw
              case rel => exact ⟨i + 1, by go_num, by omega, hF.out⟩
              case measure => simp [intOf]; omega
        · have hge : ¬ (i : Int) < (np : Int) := by omega
          have HBK := HFB.out.list
          have hall : AllIn wr l.reverse := fun g hg => (HL.out.all.below (below_on HB2.out HFB.out.bel)) g (List.mem_reverse.1 hg)
          have HPR : ports13 (l.reverse.map Ent12.act) = P := by
            rw [← HP.out]
            exact ports_order fun a => by simp
          have G2 := hid (ports13_any 255 sortU255 sortNil wr ab cb l.reverse HBK.2.2.2 hall (by rw [HBK.1]; omega) (by rw [HPR, ← HNP.out]; omega))
          rw [HPR, HBK.1] at G2
          have HPI := HI2.out.below HFB.out.bel
          have HNU := hid (fun a' c' V (hV : Go.RowKit.Below wr.heap.size wr V) (hI : Ints .u64 V a' P) => nums_any P P a' pa c' pc V (by have := HNP.out; omega) (by have := HNP.out; omega) hI (HPI.below hV))
          have HBW := hid (below_on HB2.out HFB.out.bel)
          rw [← HNP.out] at HNU G2
          clear HBK hall HPR HPI
          go_wp2_with fail
          refine G2.out.mono ?_
          rintro e w6 ⟨qa, qc, rfl, hI6, hb6⟩
          have HI6 := hid hI6
          have HB6 := hid hb6
          clear hI6 hb6
          go_wp2_with fail
          refine (HNU.out qa qc w6 HB6.out HI6.out).mono ?_
          rintro e w7 ⟨he, nd, rfl⟩
          obtain rfl : e = .returned (.bool true) := by rw [he]; simp
          have HB7 := hid (below_on (below_on HBW.out HB6.out) (below_drewN w6 nd))
          clear he
          go_wp2_with fail
          refine (HS.out _).mono ?_
          rintro e w8 ⟨rfl, hb8⟩
          have HB8 := hid (below_on HB7.out hb8)
          clear hb8
          go_wp2_with fail
          go_ret
          exact ⟨rfl, HB8.out⟩
theorem ActsPorts_few (l : List Ent12) (la : Option Addr) (lc : Nat) (w : World) (hL : Acts w la l) (hl : l.length ≤ 9223372036854775807) (hf : few13 l = false) :
    Calls Tryz.prog 8 #[.slice la l.length lc] w fun e w' => e = .returned (.bool true) ∧ Below w.heap.size w w' := by
  have F1 := few13_any l la lc w hL hl
  rw [hf] at F1
  have F1 := hid F1
  have HS := hid (fun V => sure13_any V)
  obtain ⟨n, hn⟩ : ∃ n, n = l.length := ⟨_, rfl⟩
  rw [← hn] at F1 hl ⊢
  clear hL hf hn
  go_enter Tryz.func8, Tryz.ntmps8
  go_wp2_with fail
  refine F1.out.mono ?_
  rintro e w1 ⟨rfl, hb1⟩
  have HB1 := hid hb1
  clear hb1
  go_wp2_with fail
  refine (HS.out _).mono ?_
  rintro e w2 ⟨rfl, hb2⟩
  have HB2 := hid (below_on HB1.out hb2)
  clear hb2
  go_wp2_with fail
  go_ret
  exact ⟨rfl, HB2.out⟩
theorem ActsPorts_walk (la : Option Addr) (ln lc : Nat) (w : World) (h0 : ln ≤ 9223372036854775807 ∧ IsActs w la ln) :
    Calls Tryz.prog 8 #[.slice la ln lc] w fun e w' => e = .returned (.bool true) ∧ Below w.heap.size w w' := by
  obtain ⟨hl, l, rfl, aL, iL⟩ := h0
  cases h : few13 l
  · exact ActsPorts_few l la lc w aL hl h
  · obtain ⟨i1, l1, _⟩ := few13_in h iL
    exact ActsPorts_main l la lc w aL i1 l1 h
end Go.Proofs.YtdjlbejhphbcoaaGreat
