/- Package field and the document's fields: which an action may set; all that a field asks for. -/
import Derived.Test.YtehgjenmcjgpnaaDoorFldE
import Derived.Deep.RegionHeld3
import Derived.Deep.RegionWith
import Derived.Deep.DeepCutAuto
namespace Go.Proofs.YtehgjenmcjgpnaaDoor
open Go.RowKit

theorem fldSettable_any (n : Int) (w : World) :
    Calls Tryd.prog 15 #[.int .i64 n] w fun e w' => e = .returned (.bool (decide (2 < n ∧ n < 39))) ∧ w' = w := by
  have HF := isField_any n
  rcases (show n = 0 ∨ n = 1 ∨ n = 2 ∨ n = 39 ∨ (n ≠ 0 ∧ n ≠ 1 ∧ n ≠ 2 ∧ n ≠ 39) by omega) with rfl | rfl | rfl | rfl | ⟨h0, h1, h2, h3⟩
  · exact callV_sound (os := []) (by kernel_rfl)
  · exact callV_sound (os := []) (by kernel_rfl)
  · exact callV_sound (os := []) (by kernel_rfl)
  · exact callV_sound (os := []) (by kernel_rfl)
  · rw [show decide (0 ≤ n ∧ n < 40) = decide (2 < n ∧ n < 39) from decide_eq_decide.2 (by omega)] at HF
    have HF := hid HF
    have c0 : (n == 0) = false := by simp [h0]
    have c1 : (n == 1) = false := by simp [h1]
    have c2 : (n == 2) = false := by simp [h2]
    have c3 : (n == 39) = false := by simp [h3]
    obtain ⟨v, hv⟩ : ∃ v, decide (2 < n ∧ n < 39) = v := ⟨_, rfl⟩
    rw [hv] at HF ⊢
    clear h0 h1 h2 h3 hv
    go_enter Tryd.func15, Tryd.ntmps15
    go_wp2_with fail
    refine (HF.out _).mono ?_
    rintro e w' ⟨rfl, rfl⟩
    go_wp2_with fail
    go_ret
    exact ⟨rfl, rfl⟩

set_option maxRecDepth 100000 in
theorem fldRefSettable_any (n : Int) (w : World) :
    Calls Tryd.prog 16 #[.int .i64 n] w fun e w' => e = .returned (.bool (decide (2 < n ∧ n < 39))) ∧ Below w.heap.size w w' := by
  have HO := refOf_any n w
  obtain ⟨f, hf⟩ : ∃ f, fld n = f := ⟨_, rfl⟩
  rw [hf] at HO
  unfold refFldV at HO
  rcases (show ¬ (0 ≤ n ∧ n < 40) ∨ (0 ≤ n ∧ n ≤ 2) ∨ n = 39 ∨ (2 < n ∧ n < 39) by omega) with h | h | rfl | h
  · rw [decide_eq_false h] at HO
    rw [decide_eq_false (by omega)]
    have HO := hid HO
    clear h hf
    go_enter Tryd.func16, Tryd.ntmps16
    go_wp2_with fail
    refine HO.out.mono ?_
    rintro e w1 ⟨v, rfl, ⟨a, c, rfl, hI⟩, hb⟩
    clear hI
    go_wp2_with fail
    go_ret
    exact ⟨rfl, hb.alloc hb.size _⟩
  · rw [decide_eq_true (show 0 ≤ n ∧ n < 40 by omega)] at HO
    rw [decide_eq_false (by omega)]
    have HO := hid HO
    have h2 : n ≤ 2 := h.2
    clear h hf
    go_enter Tryd.func16, Tryd.ntmps16
    go_wp2_with fail
    refine HO.out.mono ?_
    rintro e w1 ⟨v, rfl, ⟨a, c, rfl, hI⟩, hb⟩
    clear hI
    go_wp2_with fail
    go_ret
    exact ⟨rfl, hb.alloc hb.size _⟩
  · rw [decide_eq_true (show (0 : Int) ≤ 39 ∧ (39 : Int) < 40 by omega)] at HO
    rw [decide_eq_false (by omega)]
    have HO := hid HO
    clear hf
    go_enter Tryd.func16, Tryd.ntmps16
    go_wp2_with fail
    refine HO.out.mono ?_
    rintro e w1 ⟨v, rfl, ⟨a, c, rfl, hI⟩, hb⟩
    clear hI
    go_wp2_with fail
    go_ret
    exact ⟨rfl, hb.alloc hb.size _⟩
  · rw [decide_eq_true (show 0 ≤ n ∧ n < 40 by omega)] at HO
    rw [decide_eq_true h]
    have HO := hid HO
    have h2 : 2 < n := h.1
    have h3 : (n != 39) = true := by simp; omega
    clear h hf
    go_enter Tryd.func16, Tryd.ntmps16
    go_wp2_with fail
    refine HO.out.mono ?_
    rintro e w1 ⟨v, rfl, ⟨a, c, rfl, hI⟩, hb⟩
    clear hI
    go_wp2_with fail
    go_ret
    exact ⟨rfl, hb.alloc hb.size _⟩

/-- all that a field asks for -/
def needU : Nat → Int → List Int
  | 0, _ => []
  | k + 1, n => if (fld n).d = -1 ∨ ¬ (0 ≤ n ∧ n < 40) then [] else needU k (fld n).d ++ [(fld n).d]
def needL (n : Int) : List Int := needU 4 n
theorem elemNeed : Elem Tryd.prog 34 3 (.int .i64 0) 8 := ⟨by kernel_rfl, by kernel_rfl, rfl⟩

/-- what Needs tells: a slice of one's own -/
def NeedPost (w : World) (l : List Int) (e : Ending) (w' : World) : Prop := ∃ v, e = .returned v ∧ Fresh 3 w w' v (l.map (Value.int .i64))
theorem need_nothing {w w' : World} (hb : Below w.heap.size w w') : NeedPost w [] (.returned (.slice none 0 0)) w' :=
  ⟨_, rfl, own_nilI w' 3 .i64, hb, fun g hg => by simp [Value.ownBlock] at hg⟩

set_option maxRecDepth 100000 in
theorem fldNeeds_none (n : Int) (h : (fld n).d = -1 ∨ ¬ (0 ≤ n ∧ n < 40)) (w : World) :
    Calls Tryd.prog 11 #[.int .i64 n] w (NeedPost w []) := by
  have HO := fldOf_any n w
  obtain ⟨f, hf⟩ : ∃ f, fld n = f := ⟨_, rfl⟩
  rw [hf] at HO h
  unfold fldV at HO
  by_cases hin : 0 ≤ n ∧ n < 40
  · rw [decide_eq_true hin] at HO
    have hd : f.d = -1 := h.resolve_right (fun e => e hin)
    rw [hd] at HO
    have HO := hid HO
    clear h hf hin hd
    go_enter Tryd.func11, Tryd.ntmps11
    go_wp2_with fail
    refine HO.out.mono ?_
    rintro e w1 ⟨v, rfl, ⟨a, c, rfl, hI⟩, hb⟩
    clear hI
    go_wp2_with fail
    go_ret
    exact need_nothing (hb.alloc hb.size _)
  · rw [decide_eq_false hin] at HO
    have HO := hid HO
    clear h hf hin
    go_enter Tryd.func11, Tryd.ntmps11
    go_wp2_with fail
    refine HO.out.mono ?_
    rintro e w1 ⟨v, rfl, ⟨a, c, rfl, hI⟩, hb⟩
    clear hI
    go_wp2_with fail
    go_ret
    exact need_nothing (hb.alloc hb.size _)

set_option maxRecDepth 100000 in
set_option maxHeartbeats 2000000 in
theorem fldNeeds_step (n : Int) (h : (fld n).d ≠ -1 ∧ 0 ≤ n ∧ n < 40) (l : List Int) (hl : l.length ≤ 1000) (H : ∀ W, Calls Tryd.prog 11 #[.int .i64 (fld n).d] W (NeedPost W l)) (w : World) :
    Calls Tryd.prog 11 #[.int .i64 n] w (NeedPost w (l ++ [(fld n).d])) := by
  have HO := fldOf_any n w
  obtain ⟨f, hf⟩ : ∃ f, fld n = f := ⟨_, rfl⟩
  rw [hf] at HO h H ⊢
  unfold fldV at HO
  rw [decide_eq_true h.2] at HO
  obtain ⟨d, hd⟩ : ∃ d, f.d = d := ⟨_, rfl⟩
  rw [hd] at HO h H ⊢
  have hd1 : (d == -1) = false := by simpa using h.1
  have HO := hid HO
  have HN := hid H
  have HL := hid hl
  clear h hf hd H hl
  go_enter Tryd.func11, Tryd.ntmps11
  go_wp2_with fail
  refine HO.out.mono ?_
  rintro e w1 ⟨v, rfl, ⟨a, c, rfl, hI⟩, hb⟩
  obtain ⟨WB, hWB, hbB, hc⟩ : ∃ WB, w1.alloc (.cells #[.int .i64 f.b, .int .i64 f.z, .bool f.m, .int .i64 d, .slice a f.v.length c] 25) = WB ∧ Below w.heap.size w WB ∧ WB.cell? ⟨w1.heap.size, 3, none⟩ = some (.int .i64 d) :=
    ⟨_, rfl, hb.alloc hb.size _, (BoxL.new w1 [.int .i64 f.b, .int .i64 f.z, .bool f.m, .int .i64 d, .slice a f.v.length c] 25).cell 3 _ rfl⟩
  have HB := hid hWB
  have KC : Hid (∀ w', Below WB.heap.size WB w' → w'.cell? ⟨w1.heap.size, 3, none⟩ = some (.int .i64 d)) := fun w' hb' => cell_keep hc hb'
  clear hI hWB hb
  go_upto_region 4 with fail
  rw [HB.out]
  go_region_held3 (fun w' => w'.cell? ⟨w1.heap.size, 3, none⟩ = some (.int .i64 d)) (first | go_keep | exact KC.out _ hf3.bel | exact KC.out _ (hf3.behind (by_none_alloc _ _)).bel | exact KC.out _ hf4.bel) ((first | (go_at_call 11; refine (HN.out _).mono ?_; rintro e w5 ⟨v5, rfl, hF⟩; obtain ⟨a5, c5, rfl, _, _, hI5⟩ := own_ints hF.own; have hf3 : Fresh 3 WB w5 (.slice a5 l.length c5) (l.map (Value.int .i64)) := (by first | exact hF | exact Fresh.made (by_none_drewN WB 1) hF | exact Fresh.made (grownBy_trans (by_none_alloc _ _) (by_none_drewN _ 1) (.inl rfl)) hF | exact Fresh.made (grownBy_trans (by_none_drewN WB 1) (by_none_alloc _ _) (.inl rfl)) hF)) | (first
    | (refine step_app rfl _ _ rfl elemNeed rfl (hf3.own) rfl rfl (l := [d]) ((ints_lit .i64 WB.drew [d] 3).below hF.bel) ?_ ?_ ?_; (simp; have := HL.out; omega); (simp; have := HL.out; omega); intro v4 w4 hg4; have hf4 := hf3.step hg4)
    | (refine step_app rfl _ _ rfl elemNeed rfl ((hf3.behind (by_none_alloc _ _)).own) rfl rfl (l := [d]) (ints_lit .i64 _ [d] 3) ?_ ?_ ?_; (simp; have := HL.out; omega); (simp; have := HL.out; omega); intro v4 w4 hg4; have hf4 := (hf3.behind (by_none_alloc _ _)).step hg4))))
  all_goals
    go_wp2
    go_ret
    exact ⟨_, rfl, by rw [List.map_append]; exact Fresh.made (below_by_none hbB) (by first | exact hf4 | exact hf4.behind (by_none_drewN _ 1))⟩
set_option maxRecDepth 100000 in
theorem fldRefNeeds_none (n : Int) (h : (fld n).d = -1 ∨ ¬ (0 ≤ n ∧ n < 40)) (w : World) :
    Calls Tryd.prog 12 #[.int .i64 n] w (NeedPost w []) := by
  have HO := refOf_any n w
  obtain ⟨f, hf⟩ : ∃ f, fld n = f := ⟨_, rfl⟩
  rw [hf] at HO h
  unfold refFldV at HO
  by_cases hin : 0 ≤ n ∧ n < 40
  · rw [decide_eq_true hin] at HO
    have hd : f.d = -1 := h.resolve_right (fun e => e hin)
    rw [hd] at HO
    have HO := hid HO
    clear h hf hin hd
    go_enter Tryd.func12, Tryd.ntmps12
    go_wp2_with fail
    refine HO.out.mono ?_
    rintro e w1 ⟨v, rfl, ⟨a, c, rfl, hI⟩, hb⟩
    clear hI
    go_wp2_with fail
    go_ret
    exact need_nothing (hb.alloc hb.size _)
  · rw [decide_eq_false hin] at HO
    have HO := hid HO
    clear h hf hin
    go_enter Tryd.func12, Tryd.ntmps12
    go_wp2_with fail
    refine HO.out.mono ?_
    rintro e w1 ⟨v, rfl, ⟨a, c, rfl, hI⟩, hb⟩
    clear hI
    go_wp2_with fail
    go_ret
    exact need_nothing (hb.alloc hb.size _)

set_option maxRecDepth 100000 in
set_option maxHeartbeats 2000000 in
theorem fldRefNeeds_step (n : Int) (h : (fld n).d ≠ -1 ∧ 0 ≤ n ∧ n < 40) (hge : ¬ (fld n).d < 0) (l : List Int) (hl : l.length ≤ 1000) (H : ∀ W, Calls Tryd.prog 12 #[.int .i64 (fld n).d] W (NeedPost W l)) (w : World) :
    Calls Tryd.prog 12 #[.int .i64 n] w (NeedPost w (l ++ [(fld n).d])) := by
  have HO := refOf_any n w
  obtain ⟨f, hf⟩ : ∃ f, fld n = f := ⟨_, rfl⟩
  rw [hf] at HO h hge H ⊢
  unfold refFldV at HO
  rw [decide_eq_true h.2] at HO
  obtain ⟨d, hd⟩ : ∃ d, f.d = d := ⟨_, rfl⟩
  rw [hd] at HO h H ⊢
  have hd1 : ¬ d < 0 := by rw [← hd]; exact hge
  have HO := hid HO
  have HN := hid H
  have HL := hid hl
  clear h hf hd H hl hge
  go_enter Tryd.func12, Tryd.ntmps12
  go_wp2_with fail
  refine HO.out.mono ?_
  rintro e w1 ⟨v, rfl, ⟨a, c, rfl, hI⟩, hb⟩
  obtain ⟨WB, hWB, hbB, hc⟩ : ∃ WB, w1.alloc (.cells #[.string f.nm, .int .i64 f.b, .int .i64 f.z, .bool f.m, .int .i64 d, .slice a f.v.length c] 29) = WB ∧ Below w.heap.size w WB ∧ WB.cell? ⟨w1.heap.size, 4, none⟩ = some (.int .i64 d) :=
    ⟨_, rfl, hb.alloc hb.size _, (BoxL.new w1 [.string f.nm, .int .i64 f.b, .int .i64 f.z, .bool f.m, .int .i64 d, .slice a f.v.length c] 29).cell 4 _ rfl⟩
  have HB := hid hWB
  have KC : Hid (∀ w', Below WB.heap.size WB w' → w'.cell? ⟨w1.heap.size, 4, none⟩ = some (.int .i64 d)) := fun w' hb' => cell_keep hc hb'
  clear hI hWB hb
  go_upto_region 4 with fail
  rw [HB.out]
  go_region_held3 (fun w' => w'.cell? ⟨w1.heap.size, 4, none⟩ = some (.int .i64 d)) (first | go_keep | exact KC.out _ hf3.bel | exact KC.out _ (hf3.behind (by_none_alloc _ _)).bel | exact KC.out _ hf4.bel) ((first | (go_at_call 12; refine (HN.out _).mono ?_; rintro e w5 ⟨v5, rfl, hF⟩; obtain ⟨a5, c5, rfl, _, _, hI5⟩ := own_ints hF.own; have hf3 : Fresh 3 WB w5 (.slice a5 l.length c5) (l.map (Value.int .i64)) := (by first | exact hF | exact Fresh.made (by_none_drewN WB 1) hF | exact Fresh.made (grownBy_trans (by_none_alloc _ _) (by_none_drewN _ 1) (.inl rfl)) hF | exact Fresh.made (grownBy_trans (by_none_drewN WB 1) (by_none_alloc _ _) (.inl rfl)) hF)) | (first
    | (refine step_app rfl _ _ rfl elemNeed rfl (hf3.own) rfl rfl (l := [d]) ((ints_lit .i64 WB.drew [d] 3).below hF.bel) ?_ ?_ ?_; (simp; have := HL.out; omega); (simp; have := HL.out; omega); intro v4 w4 hg4; have hf4 := hf3.step hg4)
    | (refine step_app rfl _ _ rfl elemNeed rfl ((hf3.behind (by_none_alloc _ _)).own) rfl rfl (l := [d]) (ints_lit .i64 _ [d] 3) ?_ ?_ ?_; (simp; have := HL.out; omega); (simp; have := HL.out; omega); intro v4 w4 hg4; have hf4 := (hf3.behind (by_none_alloc _ _)).step hg4))))
  all_goals
    go_wp2
    go_ret
    exact ⟨_, rfl, by rw [List.map_append]; exact Fresh.made (below_by_none hbB) (by first | exact hf4 | exact hf4.behind (by_none_drewN _ 1))⟩

theorem fld_asks {n : Int} (h : 0 ≤ n ∧ n < 40) : (fld n).d = -1 ∨ (fld n).d = 0 ∨ (fld n).d = 5 ∨ (fld n).d = 6 ∨ (fld n).d = 10 ∨ (fld n).d = 29 := by
  rcases forty h with rfl | rfl | rfl | rfl | rfl | rfl | rfl | rfl | rfl | rfl | rfl | rfl | rfl | rfl | rfl | rfl | rfl | rfl | rfl | rfl | rfl | rfl | rfl | rfl | rfl | rfl | rfl | rfl | rfl | rfl | rfl | rfl | rfl | rfl | rfl | rfl | rfl | rfl | rfl | rfl <;> decide
theorem needU_length (k : Nat) (n : Int) : (needU k n).length ≤ k := by
  induction k generalizing n with
  | zero => simp [needU]
  | succ k ih =>
    unfold needU
    split
    · simp
    · have := ih (fld n).d
      simp; omega

/-- both tell so much -/
def NeedBoth (l : List Int) (n : Int) : Prop := (∀ W, Calls Tryd.prog 11 #[.int .i64 n] W (NeedPost W l)) ∧ ∀ W, Calls Tryd.prog 12 #[.int .i64 n] W (NeedPost W l)
theorem needBoth_none {n : Int} (h : (fld n).d = -1 ∨ ¬ (0 ≤ n ∧ n < 40)) (k : Nat) : NeedBoth (needU (k + 1) n) n := by
  have e : needU (k + 1) n = [] := by unfold needU; rw [if_pos h]
  rw [e]
  exact ⟨fun W => fldNeeds_none n h W, fun W => fldRefNeeds_none n h W⟩
theorem needBoth_step {n : Int} {k : Nat} (hk : k ≤ 1000) (h : 0 ≤ (fld n).d ∧ 0 ≤ n ∧ n < 40) (H : NeedBoth (needU k (fld n).d) (fld n).d) : NeedBoth (needU (k + 1) n) n := by
  have e : needU (k + 1) n = needU k (fld n).d ++ [(fld n).d] := by
    conv => lhs; unfold needU
    rw [if_neg (by omega)]
  rw [e]
  have hl := needU_length k (fld n).d
  exact ⟨fldNeeds_step n (by omega) _ (by omega) H.1, fldRefNeeds_step n (by omega) (by omega) _ (by omega) H.2⟩
theorem need_any (n : Int) : NeedBoth (needL n) n := by
  have b5 : ∀ k, NeedBoth (needU (k + 1) 5) 5 := needBoth_none (.inl (by decide))
  have b10 : ∀ k, k ≤ 900 → NeedBoth (needU (k + 2) 10) 10 := fun k hk => needBoth_step (n := 10) (k := k + 1) (by omega) (by decide) (b5 k)
  have b29 : NeedBoth (needU 3 29) 29 := needBoth_step (n := 29) (k := 2) (by omega) (by decide) (b10 0 (by omega))
  unfold needL
  by_cases h : 0 ≤ n ∧ n < 40
  · rcases fld_asks h with hd | hd | hd | hd | hd | hd
    · exact needBoth_none (.inl hd) 3
    · exact needBoth_step (by omega) (by omega) (by rw [hd]; exact needBoth_none (.inl (by decide)) 2)
    · exact needBoth_step (by omega) (by omega) (by rw [hd]; exact b5 2)
    · exact needBoth_step (by omega) (by omega) (by rw [hd]; exact needBoth_none (.inl (by decide)) 2)
    · exact needBoth_step (by omega) (by omega) (by rw [hd]; exact b10 1 (by omega))
    · exact needBoth_step (by omega) (by omega) (by rw [hd]; exact b29)
  · exact needBoth_none (.inr h) 3
end Go.Proofs.YtehgjenmcjgpnaaDoor
