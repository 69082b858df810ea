/- The document's Sort: how much room the sorted list has. -/
import Derived.Test.YtpmkfkanolhocaaGreatCovRC
namespace Go.Proofs.YtpmkfkanolhocaaGreat
open Go.RowKit
set_option linter.unusedVariables false
set_option maxRecDepth 100000

/-- sorted: a list of one's own, with its room -/
def SortedToC (w : World) (l : List Ent9) (e : Ending) (w' : World) : Prop :=
  ∃ va vc M, e = .returned (.slice va l.length vc) ∧ M.length = l.length ∧ M.map Ent9.o = sort9 (l.map Ent9.o) ∧ Oxms w' va M ∧ (∀ h ∈ M, h ∈ l) ∧ Below w.heap.size w w' ∧ l.length ≤ vc
set_option maxRecDepth 100000 in
set_option maxHeartbeats 4000000 in
theorem refSortC_any (l : List Ent9) (a : Option Addr) (c : Nat) (w : World) (hL : L9 w a l) :
    Calls Tryz.prog 24 #[.slice a l.length c] w (SortedToC w l) := by
  have HL := hid hL
  have hll : l.length ≤ 1000 := hL.len
  clear hL
  go_enter Tryz.func24, Tryz.ntmps24
  go_wp2_with fail
  go_loopg [3, 4] (l.length) (fun kx s3 s4 wr => ∃ (i : Nat) (D : List Ent9) (va : Option Addr) (vc : Nat), s3 = .slice va i vc ∧ s4 = .int .i64 i ∧ i ≤ l.length ∧ l.length - i ≤ kx ∧ Hid (FreshO w wr (.slice va i vc) i D) ∧ Hid (D.map Ent9.o = ((l.take i).map Ent9.o).foldl (fun out o => ins9 o out) []) ∧ Hid (∀ h ∈ D, h ∈ l) ∧ Hid (va = none → i = 0 ∧ vc = 0))
  case atStart => exact ⟨0, [], none, 0, rfl, rfl, by omega, by omega, FreshO.nil _, rfl, (by simp [Hid]), fun _ => ⟨rfl, rfl⟩⟩
  case round =>
    obtain ⟨i, D, va, vc, rfl, rfl, hi, hkx, hF, hM, hD, hva⟩ := hrel
    by_cases hlt : i < l.length
    · have hltz : (i : Int) < (l.length : Int) := by omega
      obtain ⟨b, off, rfl, hoo⟩ := HL.out.ox i hlt
      clear hoo
      obtain ⟨h, hh⟩ : ∃ h, h = l[i] := ⟨_, rfl⟩
      have HH := hid hh
      have HS : Hid (Sorted9 (D.map Ent9.o)) := by show Sorted9 _; rw [hM.out]; exact fold_sorted _ List.Pairwise.nil
      clear hh
      obtain ⟨w0, hw0⟩ : ∃ x, x = wr := ⟨_, rfl⟩
      subst hw0
      cases va with
      | none =>
        obtain ⟨rfl, rfl⟩ := hva.out rfl
        have hD0 : D = [] := List.eq_nil_of_length_eq_zero hF.out.ox.1
        subst hD0
        go_wp2_with fail
        go_loopg [5] 0 (fun kx s5 wr => s5 = .int .i64 0 ∧ Hid (FreshO w wr (.slice none 0 0) 0 []))
        case atStart => exact ⟨rfl, hF⟩
        case round =>
          obtain ⟨rfl, hF2⟩ := hrel
          go_wp2_with fail
          refine wp_region_wk (by kernel_rfl) (by kernel_rfl) ?_
          repeat (go_big_quiet_step (fail))
          refine wpQuiet_nil ?_
          rintro w6 ⟨⟨_, hb6⟩, rfl⟩
          have HF6 := hid (hF2.out.behind hb6)
          clear hb6
          have HL6 := hid (HL.out.below HF6.out.bel)
          go_upto_region 9 with (at_builtin; refine wp_app_oxms rfl (.tmp 31) (.tmp 34) rfl (FreshO.empty w6) rfl rfl (l := []) rfl (Oxms.nil _ _) (by omega) (N := 0) (by omega) ?_; intro va1 vc1 w7 hg7; have HG7 := hid hg7; clear hg7)
          have hl7 := HL6.out.below HG7.out.bel
          obtain ⟨b7, o7, he7, c0, c1, c2, c3, c4, c5⟩ := hl7.ox 0 hlt
          simp only [Option.some.injEq, Addr.mk.injEq] at he7
          obtain ⟨rfl, rfl, _⟩ := he7
          rw [← HH.out] at c0 c1 c2 c3 c4 c5
          simp only [Nat.zero_mul, Nat.add_zero] at c0 c1 c2 c3 c4 c5
          clear hl7
          go_upto_region 10 with (at_builtin; refine wp_app_oxms rfl (.tmp 36) (.tmp 41) rfl (HG7.out.behind (below_alloc _ _)) rfl rfl (l := [h]) rfl (oxms_one w7 h _) (by omega) (N := 0 + 1) rfl ?_; intro va2 vc2 w8 hg8; have HG8 := hid hg8; clear hg8)
          clear c0 c1 c2 c3 c4 c5
          go_wp2_with (at_builtin; refine wp_app_oxms rfl (.tmp 43) (.tmp 46) rfl HG8.out rfl rfl (l := []) rfl (Oxms.nil _ _) (by omega) (N := 0 + 1) (by omega) ?_; intro va3 vc3 w9 hg9; have HG9 := hid hg9; clear hg9)
          go_roundg (l.length - (0 + 1))
          case measure => omega
          case rel =>
            refine ⟨0 + 1, _, va3, vc3, rfl, by first | rfl | go_num, by omega, Nat.le_refl _, HG9.out.made HF6.out.bel, ?_, ?_, ?_⟩
            · show _ = _
              rw [fold_step9 hlt, ← HH.out, ← hM.out]
              exact rfl
            · show ∀ _, _
              intro x hx
              have hl : h ∈ l := by rw [HH.out]; exact List.getElem_mem hlt
              simp at hx; rw [hx]; exact hl
            · show _ → _
              intro hv
              have hox := HG9.out.ox
              rw [hv] at hox
              exfalso
              obtain ⟨e1, _, _, e2⟩ := hox
              obtain ⟨b, off, e, _⟩ := e2 0 (by omega)
              cases e
      | some ad =>
        obtain ⟨b2, o2, rfl⟩ : ∃ b2 o2, ad = ⟨b2, o2, none⟩ := by
          obtain ⟨g, rfl⟩ := hF.out.spot
          exact ⟨g, 0, rfl⟩
        go_wp2_with fail
        go_loopg [5] i (fun kx s5 wr => ∃ k : Nat, s5 = .int .i64 k ∧ k ≤ i ∧ k ≤ kx ∧ Hid (∀ j, (hj : j < D.length) → k ≤ j → before9 h.o D[j].o = true) ∧ Hid (FreshO w wr (.slice (some ⟨b2, o2, none⟩) i vc) i D))
        case atStart => exact ⟨i, rfl, by omega, by omega, (by show ∀ _, _; intro j hj hij; have := hF.out.ox.1; omega), hF⟩
        case round =>
          obtain ⟨k, rfl, hk, hkk, HJ, hF2⟩ := hrel
          by_cases hk0 : 0 < k
          · obtain ⟨j, hkj⟩ : ∃ j, k = j + 1 := ⟨k - 1, by omega⟩
            have hkz : (k : Int) - 1 = (j : Int) := by omega
            have hkp : (0 : Int) < (k : Int) := by omega
            have hji : (j : Int) < (i : Int) := by omega
            have HKJ := hid hkj
            clear hkj
            obtain ⟨b1, o1, he1, d0, d1, d2, d3, d4, d5⟩ := (HL.out.below hF2.out.bel).ox i hlt
            simp only [Option.some.injEq, Addr.mk.injEq] at he1
            obtain ⟨rfl, rfl, _⟩ := he1
            rw [← HH.out] at d0 d1 d2 d3 d4 d5
            have hjl : j < D.length := by rw [hF2.out.ox.1]; omega
            obtain ⟨b3, o3, he3, c0, c1, c2, c3, c4, c5⟩ := hF2.out.ox.2.2.2 j hjl
            simp only [Option.some.injEq, Addr.mk.injEq] at he3
            obtain ⟨rfl, rfl, _⟩ := he3
            obtain ⟨g, hg⟩ : ∃ g, g = D[j]'hjl := ⟨_, rfl⟩
            rw [← hg] at c0 c1 c2 c3 c4 c5
            have HG := hid hg
            obtain ⟨bf, hbf⟩ : ∃ bf, before9 h.o g.o = bf := ⟨_, rfl⟩
            have HC := hid (fun n : Wk wr => Wk.call (refBefore9_any h.o.C h.o.F h.o.H h.o.X h.va h.vc h.ma h.mc h.o.v h.o.m g.o.C g.o.F g.o.H g.o.X g.va g.vc g.ma g.mc g.o.v g.o.m n.val))
            have hbf2 : before9 ⟨h.o.C, h.o.F, h.o.H, h.o.X, h.o.v, h.o.m⟩ ⟨g.o.C, g.o.F, g.o.H, g.o.X, g.o.v, g.o.m⟩ = bf := hbf
            rw [hbf2] at HC
            have HBF := hid hbf
            have c0 := Wk.cell c0
            have c1 := Wk.cell c1
            have c2 := Wk.cell c2
            have c3 := Wk.cell c3
            have c4 := Wk.cell c4
            have c5 := Wk.cell c5
            have d0 := Wk.cell d0
            have d1 := Wk.cell d1
            have d2 := Wk.cell d2
            have d3 := Wk.cell d3
            have d4 := Wk.cell d4
            have d5 := Wk.cell d5
            clear hg hbf hbf2
            go_wp2_with fail
            refine wp_region_wk (by kernel_rfl) (by kernel_rfl) ?_
            repeat (go_big_quiet_step (first | (go_at_call 47; exact HC.out _) | fail))
            refine wpQuiet_nil ?_
            rintro w6 ⟨⟨_, hb6⟩, rfl⟩
            clear c0 c1 c2 c3 c4 c5 d0 d1 d2 d3 d4 d5
            cases bf
            · have HK1 : Hid (∀ j, (hj : j < D.length) → j + 1 = k → before9 h.o D[j].o = false) := by
                show ∀ _, _
                intro j' hj' e
                obtain rfl : j' = j := by have := HKJ.out; omega
                rw [← HG.out]; exact HBF.out
              clear hkz
              have HF6 := hid (hF2.out.behind hb6)
              clear hb6
              have hox6 := HF6.out.ox
              have HOX6 := hid hox6.2.2.2
              have hDl : D.length = i := hox6.1
              have hkv : (k : Int) ≤ (vc : Int) := by have := hox6.2.1; omega
              have HDL := hid hDl
              have HCUT := hid (cut9 HS.out (k := k) (h := h) (by omega) HJ.out HK1.out)
              have htl : Hid ((D.take k).length = k) := by show _ = _; rw [List.length_take]; omega
              have hdl : Hid ((D.drop k).length = i - k) := by show _ = _; rw [List.length_drop]; omega
              clear hox6 hDl
              have HL6 := hid (HL.out.below HF6.out.bel)
              go_upto_region 9 with (at_builtin; refine wp_app_oxms rfl (.tmp 31) (.tmp 34) rfl (FreshO.empty w6) rfl rfl (l := D.take k) htl.out ((HOX6.out.take k).below (below_alloc _ _)) (by omega) (N := k) (by omega) ?_; intro va1 vc1 w7 hg7; have HG7 := hid hg7; clear hg7)
              have hl7 := HL6.out.below HG7.out.bel
              obtain ⟨b7, o7, he7, c0, c1, c2, c3, c4, c5⟩ := hl7.ox i hlt
              simp only [Option.some.injEq, Addr.mk.injEq] at he7
              obtain ⟨rfl, rfl, _⟩ := he7
              rw [← HH.out] at c0 c1 c2 c3 c4 c5
              clear hl7
              go_upto_region 10 with (at_builtin; refine wp_app_oxms rfl (.tmp 36) (.tmp 41) rfl (HG7.out.behind (below_alloc _ _)) rfl rfl (l := [h]) rfl (oxms_one w7 h _) (by omega) (N := k + 1) rfl ?_; intro va2 vc2 w8 hg8; have HG8 := hid hg8; clear hg8)
              clear c0 c1 c2 c3 c4 c5
              have hox8 := HOX6.out.below HG8.out.bel
              have hd8 := hox8.drop (j := k) (cap := vc) (by rw [HDL.out]; have := HF6.out.ox.2.1; omega)
              clear hox8
              have hki : (k : Int) ≤ (i : Int) := by omega
              have hvk2 : k ≤ vc := by omega
              by_cases hvk : k = vc
              · subst hvk
                rw [if_pos rfl] at hd8
                have HD8 := hid hd8
                clear hd8
                go_wp2_with (at_builtin; refine wp_app_oxms rfl (.tmp 43) (.tmp 46) rfl HG8.out rfl rfl (l := D.drop k) hdl.out HD8.out (by omega) (N := i + 1) (by omega) ?_; intro va3 vc3 w9 hg9; have HG9 := hid hg9; clear hg9)
                go_roundg (l.length - (i + 1))
                case measure => omega
                case rel =>
                  refine ⟨i + 1, _, va3, vc3, rfl, by first | rfl | go_num, by omega, Nat.le_refl _, HG9.out.made HF6.out.bel, ?_, ?_, ?_⟩
                  · show _ = _
                    rw [fold_step9 hlt, ← HH.out, ← hM.out]
                    exact (by rw [List.nil_append, List.append_assoc]; exact HCUT.out)
                  · show ∀ _, _
                    intro x hx
                    have hl : h ∈ l := by rw [HH.out]; exact List.getElem_mem hlt
                    rw [List.nil_append] at hx; simp at hx; rcases hx with hx | rfl | hx; exact hD.out _ (List.mem_of_mem_take hx); exact hl; exact hD.out _ (List.mem_of_mem_drop hx)
                  · show _ → _
                    intro hv
                    have hox := HG9.out.ox
                    rw [hv] at hox
                    exfalso
                    obtain ⟨e1, _, _, e2⟩ := hox
                    obtain ⟨b, off, e, _⟩ := e2 0 (by omega)
                    cases e
              · have hvk3 : ¬ vc = k := fun e => hvk e.symm
                rw [if_neg hvk3] at hd8
                have HD8 := hid hd8
                clear hd8
                go_wp2_with (at_builtin; refine wp_app_oxms rfl (.tmp 43) (.tmp 46) rfl HG8.out rfl rfl (l := D.drop k) hdl.out HD8.out (by omega) (N := i + 1) (by omega) ?_; intro va3 vc3 w9 hg9; have HG9 := hid hg9; clear hg9)
                go_roundg (l.length - (i + 1))
                case measure => omega
                case rel =>
                  refine ⟨i + 1, _, va3, vc3, rfl, by first | rfl | go_num, by omega, Nat.le_refl _, HG9.out.made HF6.out.bel, ?_, ?_, ?_⟩
                  · show _ = _
                    rw [fold_step9 hlt, ← HH.out, ← hM.out]
                    exact (by rw [List.nil_append, List.append_assoc]; exact HCUT.out)
                  · show ∀ _, _
                    intro x hx
                    have hl : h ∈ l := by rw [HH.out]; exact List.getElem_mem hlt
                    rw [List.nil_append] at hx; simp at hx; rcases hx with hx | rfl | hx; exact hD.out _ (List.mem_of_mem_take hx); exact hl; exact hD.out _ (List.mem_of_mem_drop hx)
                  · show _ → _
                    intro hv
                    have hox := HG9.out.ox
                    rw [hv] at hox
                    exfalso
                    obtain ⟨e1, _, _, e2⟩ := hox
                    obtain ⟨b, off, e, _⟩ := e2 0 (by omega)
                    cases e
            · go_wp2_with fail
              go_roundg j
              case measure => have := HKJ.out; omega
              case rel =>
                refine ⟨j, by first | rfl | go_num, by have := HKJ.out; omega, Nat.le_refl _, ?_, hF2.out.behind hb6⟩
                show ∀ _, _
                intro j' hj' hle
                by_cases e : j' = j
                · subst e; rw [← HG.out]; exact HBF.out
                · exact HJ.out j' hj' (by have := HKJ.out; omega)
          · have hkn : ¬ (0 : Int) < (k : Int) := by omega
            have hkd : decide ((0 : Int) < (k : Int)) = false := decide_eq_false hkn
            have HK1 : Hid (∀ j, (hj : j < D.length) → j + 1 = k → before9 h.o D[j].o = false) := by
              show ∀ _, _
              intro j' hj' e
              omega
            go_wp2_with fail
            refine wp_region_wk (by kernel_rfl) (by kernel_rfl) ?_
            repeat (go_big_quiet_step (fail))
            refine wpQuiet_nil ?_
            rintro w6 ⟨⟨_, hb6⟩, rfl⟩
            have HF6 := hid (hF2.out.behind hb6)
            clear hb6
            have hox6 := HF6.out.ox
            have HOX6 := hid hox6.2.2.2
            have hDl : D.length = i := hox6.1
            have hkv : (k : Int) ≤ (vc : Int) := by have := hox6.2.1; omega
            have HDL := hid hDl
            have HCUT := hid (cut9 HS.out (k := k) (h := h) (by omega) HJ.out HK1.out)
            have htl : Hid ((D.take k).length = k) := by show _ = _; rw [List.length_take]; omega
            have hdl : Hid ((D.drop k).length = i - k) := by show _ = _; rw [List.length_drop]; omega
            clear hox6 hDl
            have HL6 := hid (HL.out.below HF6.out.bel)
            go_upto_region 9 with (at_builtin; refine wp_app_oxms rfl (.tmp 31) (.tmp 34) rfl (FreshO.empty w6) rfl rfl (l := D.take k) htl.out ((HOX6.out.take k).below (below_alloc _ _)) (by omega) (N := k) (by omega) ?_; intro va1 vc1 w7 hg7; have HG7 := hid hg7; clear hg7)
            have hl7 := HL6.out.below HG7.out.bel
            obtain ⟨b7, o7, he7, c0, c1, c2, c3, c4, c5⟩ := hl7.ox i hlt
            simp only [Option.some.injEq, Addr.mk.injEq] at he7
            obtain ⟨rfl, rfl, _⟩ := he7
            rw [← HH.out] at c0 c1 c2 c3 c4 c5
            clear hl7
            go_upto_region 10 with (at_builtin; refine wp_app_oxms rfl (.tmp 36) (.tmp 41) rfl (HG7.out.behind (below_alloc _ _)) rfl rfl (l := [h]) rfl (oxms_one w7 h _) (by omega) (N := k + 1) rfl ?_; intro va2 vc2 w8 hg8; have HG8 := hid hg8; clear hg8)
            clear c0 c1 c2 c3 c4 c5
            have hox8 := HOX6.out.below HG8.out.bel
            have hd8 := hox8.drop (j := k) (cap := vc) (by rw [HDL.out]; have := HF6.out.ox.2.1; omega)
            clear hox8
            have hki : (k : Int) ≤ (i : Int) := by omega
            have hvk2 : k ≤ vc := by omega
            by_cases hvk : k = vc
            · subst hvk
              rw [if_pos rfl] at hd8
              have HD8 := hid hd8
              clear hd8
              go_wp2_with (at_builtin; refine wp_app_oxms rfl (.tmp 43) (.tmp 46) rfl HG8.out rfl rfl (l := D.drop k) hdl.out HD8.out (by omega) (N := i + 1) (by omega) ?_; intro va3 vc3 w9 hg9; have HG9 := hid hg9; clear hg9)
              go_roundg (l.length - (i + 1))
              case measure => omega
              case rel =>
                refine ⟨i + 1, _, va3, vc3, rfl, by first | rfl | go_num, by omega, Nat.le_refl _, HG9.out.made HF6.out.bel, ?_, ?_, ?_⟩
                · show _ = _
                  rw [fold_step9 hlt, ← HH.out, ← hM.out]
                  exact (by rw [List.nil_append, List.append_assoc]; exact HCUT.out)
                · show ∀ _, _
                  intro x hx
                  have hl : h ∈ l := by rw [HH.out]; exact List.getElem_mem hlt
                  rw [List.nil_append] at hx; simp at hx; rcases hx with hx | rfl | hx; exact hD.out _ (List.mem_of_mem_take hx); exact hl; exact hD.out _ (List.mem_of_mem_drop hx)
                · show _ → _
                  intro hv
                  have hox := HG9.out.ox
                  rw [hv] at hox
                  exfalso
                  obtain ⟨e1, _, _, e2⟩ := hox
                  obtain ⟨b, off, e, _⟩ := e2 0 (by omega)
                  cases e
            · have hvk3 : ¬ vc = k := fun e => hvk e.symm
              rw [if_neg hvk3] at hd8
              have HD8 := hid hd8
              clear hd8
              go_wp2_with (at_builtin; refine wp_app_oxms rfl (.tmp 43) (.tmp 46) rfl HG8.out rfl rfl (l := D.drop k) hdl.out HD8.out (by omega) (N := i + 1) (by omega) ?_; intro va3 vc3 w9 hg9; have HG9 := hid hg9; clear hg9)
              go_roundg (l.length - (i + 1))
              case measure => omega
              case rel =>
                refine ⟨i + 1, _, va3, vc3, rfl, by first | rfl | go_num, by omega, Nat.le_refl _, HG9.out.made HF6.out.bel, ?_, ?_, ?_⟩
                · show _ = _
                  rw [fold_step9 hlt, ← HH.out, ← hM.out]
                  exact (by rw [List.nil_append, List.append_assoc]; exact HCUT.out)
                · show ∀ _, _
                  intro x hx
                  have hl : h ∈ l := by rw [HH.out]; exact List.getElem_mem hlt
                  rw [List.nil_append] at hx; simp at hx; rcases hx with hx | rfl | hx; exact hD.out _ (List.mem_of_mem_take hx); exact hl; exact hD.out _ (List.mem_of_mem_drop hx)
                · show _ → _
                  intro hv
                  have hox := HG9.out.ox
                  rw [hv] at hox
                  exfalso
                  obtain ⟨e1, _, _, e2⟩ := hox
                  obtain ⟨b, off, e, _⟩ := e2 0 (by omega)
                  cases e
    · have hltz : ¬ (i : Int) < (l.length : Int) := by omega
      obtain rfl : i = l.length := by omega
      go_wp2_with fail
      obtain ⟨hn, hnc, _, hox⟩ := hF.out.ox
      exact bodyPost_ret (v := .slice va l.length vc) (by simp [results, Tryz.results24, go_sem]) rfl ⟨va, vc, D, rfl, hn, by rw [hM.out, List.take_length]; rfl, hox, hD.out, hF.out.bel, hnc⟩
end Go.Proofs.YtpmkfkanolhocaaGreat
