/- Package head and the document's heads: whether a message may begin so. -/
import Derived.Test.YtkgjmpcdndohpaaDoorHeadA
import Derived.Test.YtkgjmpcdndohpaaDoorQuiet
namespace Go.Proofs.YtkgjmpcdndohpaaDoor
open Go.RowKit

/-- whether a message of the type may have the version -/
def verB (V T : Int) : Bool := if T = 0 then decide (1 ≤ V) && decide (V ≤ 255) else decide (V = 4)
/-- whether a message may begin so: 0, or the error -/
def checkL (V T L : Int) : Int := if verB V T = false then 257 else if ¬ (0 ≤ T ∧ T < 30) then 258 else if L < leastL T ∨ 65535 < L then 263 else 0

theorem verB_any (V T L X : Int) (w : World) :
    Calls Tryd.prog 27 #[.agg #[.int .i64 V, .int .i64 T, .int .i64 L, .int .u32 X]] w fun e w' => e = .returned (.bool (verB V T)) ∧ Below w.heap.size w w' := by
  by_cases h : T = 0
  · subst h
    by_cases hV : 1 ≤ V
    · have e : verB V 0 = decide (V ≤ 255) := by simp [verB, hV]
      rw [e]
      clear e
      go_enter Tryd.func27, Tryd.ntmps27
      go_wp2
      go_ret
      exact ⟨rfl, below_alloc _ _⟩
    · have e : verB V 0 = false := by simp [verB, hV]
      rw [e]
      clear e
      go_enter Tryd.func27, Tryd.ntmps27
      go_wp2
      go_ret
      exact ⟨rfl, below_alloc _ _⟩
  · have e : verB V T = (V == 4) := by
      simp only [verB, if_neg h]
      by_cases h4 : V = 4 <;> simp [h4]
    have e0 : (T == 0) = false := by simpa using h
    rw [e]
    clear e h
    go_enter Tryd.func27, Tryd.ntmps27
    go_wp2
    go_ret
    exact ⟨rfl, below_alloc _ _⟩

/-- the cells of a head -/
structure HdAt (w : World) (b : Nat) (V T L X : Int) : Prop where
  c0 : w.cell? ⟨b, 0, none⟩ = some (.int .i64 V)
  c1 : w.cell? ⟨b, 1, none⟩ = some (.int .i64 T)
  c2 : w.cell? ⟨b, 2, none⟩ = some (.int .i64 L)
  c3 : w.cell? ⟨b, 3, none⟩ = some (.int .u32 X)
theorem HdAt.of_block {w : World} {b : Nat} {V T L X : Int} {t : TypeId} (h : w.heap[b]? = some (.cells #[.int .i64 V, .int .i64 T, .int .i64 L, .int .u32 X] t (0, 0))) : HdAt w b V T L X :=
  ⟨by simp [World.cell?, h], by simp [World.cell?, h], by simp [World.cell?, h], by simp [World.cell?, h]⟩
theorem HdAt.below {w w' : World} {b : Nat} {V T L X : Int} (h : HdAt w b V T L X) (hb : Below w.heap.size w w') : HdAt w' b V T L X :=
  ⟨cell_keep h.c0 hb, cell_keep h.c1 hb, cell_keep h.c2 hb, cell_keep h.c3 hb⟩

theorem check_any (V T L X : Int) (w : World) (hL : HeadLaid w) :
    Calls Tryd.prog 14 #[.agg #[.int .i64 V, .int .i64 T, .int .i64 L, .int .u32 X]] w fun e w' => e = .returned (.int .i64 (checkL V T L)) ∧ Below w.heap.size w w' := by
  obtain ⟨W, hW⟩ : ∃ W, w.alloc (.cells #[.int .i64 V, .int .i64 T, .int .i64 L, .int .u32 X] 24) = W := ⟨_, rfl⟩
  have hbW : Below w.heap.size w W := by rw [← hW]; exact below_alloc _ _
  have hd : HdAt W w.heap.size V T L X := by rw [← hW]; exact HdAt.of_block (t := 24) (_root_.Go.heap_alloc_new w _)
  have HW := hid hW
  have HV := hid (fun W => verB_any V T L X W)
  have HD := hid hd
  clear hW
  cases hv : verB V T
  · have e : checkL V T L = 257 := by simp [checkL, hv]
    rw [hv] at HV
    rw [e]
    clear e hv
    obtain ⟨d0, d1, d2, d3⟩ := hd
    go_enter Tryd.func14, Tryd.ntmps14
    go_wp2_with fail
    rw [HW.out]
    go_wp2_with fail
    refine (HV.out _).mono ?_
    rintro e w1 ⟨rfl, hb⟩
    go_wp2_with fail
    go_ret
    exact ⟨rfl, below_then hbW hb⟩
  · rw [hv] at HV
    by_cases ht : 0 ≤ T ∧ T < 30
    · have HT := hid (fun W => isType_any T W)
      rw [show decide (0 ≤ T ∧ T < 30) = true by simp [ht]] at HT
      have HM := hid (fun W h => least_any T W h)
      by_cases hl : L < leastL T
      · have e : checkL V T L = 263 := by simp [checkL, hv, ht, hl]
        rw [e]
        clear e hv ht
        obtain ⟨d0, d1, d2, d3⟩ := hd
        go_enter Tryd.func14, Tryd.ntmps14
        go_wp2_with fail
        rw [HW.out]
        go_wp2_with fail
        refine (HV.out _).mono ?_
        rintro e w1 ⟨rfl, hb⟩
        have hB := below_then hbW hb
        clear d0 d1 d2 d3
        obtain ⟨d0, d1, d2, d3⟩ := HD.out.below hb
        go_wp2_with fail
        refine (HT.out _).mono ?_
        rintro e w' ⟨rfl, rfl⟩
        go_wp2_with fail
        have hL1 := hL.below hB
        have hLn : ∀ n : Wk w1, HeadLaid n.val := fun n => hL1.below n.bel
        have f1 := fun n : Wk w1 => Wk.cell d1 n
        have f2 := fun n : Wk w1 => Wk.cell d2 n
        refine wp_region_wk (by kernel_rfl) (by kernel_rfl) ?_
        repeat (go_big_quiet_step ((go_at_call 16; exact Wk.same (HM.out _ (hLn _)))))
        refine wpQuiet_nil ?_
        rintro w2 ⟨⟨_, hb2⟩, rfl⟩
        go_wp2_with fail
        go_ret
        exact ⟨rfl, below_then hB hb2⟩
      · have e : checkL V T L = if 65535 < L then 263 else 0 := by simp [checkL, hv, ht, hl]
        rw [e]
        have hl2 : leastL T ≤ L := by omega
        have g1 : decide (L < leastL T) = false := by simpa using hl2
        clear e hv ht
        rcases Int.lt_or_le 65535 L with h6 | h6
        · rw [if_pos h6]
          obtain ⟨d0, d1, d2, d3⟩ := hd
          go_enter Tryd.func14, Tryd.ntmps14
          go_wp2_with fail
          rw [HW.out]
          go_wp2_with fail
          refine (HV.out _).mono ?_
          rintro e w1 ⟨rfl, hb⟩
          have hB := below_then hbW hb
          clear d0 d1 d2 d3
          obtain ⟨d0, d1, d2, d3⟩ := HD.out.below hb
          go_wp2_with fail
          refine (HT.out _).mono ?_
          rintro e w' ⟨rfl, rfl⟩
          go_wp2_with fail
          have hL1 := hL.below hB
          have hLn : ∀ n : Wk w1, HeadLaid n.val := fun n => hL1.below n.bel
          have f1 := fun n : Wk w1 => Wk.cell d1 n
          have f2 := fun n : Wk w1 => Wk.cell d2 n
          refine wp_region_wk (by kernel_rfl) (by kernel_rfl) ?_
          repeat (go_big_quiet_step ((go_at_call 16; exact Wk.same (HM.out _ (hLn _)))))
          refine wpQuiet_nil ?_
          rintro w2 ⟨⟨_, hb2⟩, rfl⟩
          go_wp2_with fail
          go_ret
          exact ⟨rfl, below_then hB hb2⟩
        · rw [if_neg (by omega)]
          obtain ⟨d0, d1, d2, d3⟩ := hd
          go_enter Tryd.func14, Tryd.ntmps14
          go_wp2_with fail
          rw [HW.out]
          go_wp2_with fail
          refine (HV.out _).mono ?_
          rintro e w1 ⟨rfl, hb⟩
          have hB := below_then hbW hb
          clear d0 d1 d2 d3
          obtain ⟨d0, d1, d2, d3⟩ := HD.out.below hb
          go_wp2_with fail
          refine (HT.out _).mono ?_
          rintro e w' ⟨rfl, rfl⟩
          go_wp2_with fail
          have hL1 := hL.below hB
          have hLn : ∀ n : Wk w1, HeadLaid n.val := fun n => hL1.below n.bel
          have f1 := fun n : Wk w1 => Wk.cell d1 n
          have f2 := fun n : Wk w1 => Wk.cell d2 n
          refine wp_region_wk (by kernel_rfl) (by kernel_rfl) ?_
          repeat (go_big_quiet_step ((go_at_call 16; exact Wk.same (HM.out _ (hLn _)))))
          refine wpQuiet_nil ?_
          rintro w2 ⟨⟨_, hb2⟩, rfl⟩
          go_wp2_with fail
          go_ret
          exact ⟨rfl, below_then hB hb2⟩
    · have HT := hid (fun W => isType_any T W)
      rw [show decide (0 ≤ T ∧ T < 30) = false by simp [ht]] at HT
      have e : checkL V T L = 258 := by simp only [checkL, hv, if_pos ht]; simp
      rw [e]
      clear e hv ht
      obtain ⟨d0, d1, d2, d3⟩ := hd
      go_enter Tryd.func14, Tryd.ntmps14
      go_wp2_with fail
      rw [HW.out]
      go_wp2_with fail
      refine (HV.out _).mono ?_
      rintro e w1 ⟨rfl, hb⟩
      have hB := below_then hbW hb
      clear d0 d1 d2 d3
      obtain ⟨d0, d1, d2, d3⟩ := HD.out.below hb
      go_wp2_with fail
      refine (HT.out _).mono ?_
      rintro e w' ⟨rfl, rfl⟩
      go_wp2_with fail
      go_ret
      exact ⟨rfl, hB⟩

theorem leastT_pos (t : Nat) (h : t < 30) : 8 ≤ leastT.getD t 0 ∧ leastT.getD t 0 ≤ 80 := by
  have all : ∀ k : Fin 30, 8 ≤ leastT.getD k.val 0 ∧ leastT.getD k.val 0 ≤ 80 := by decide
  exact all ⟨t, h⟩
theorem leastL_in {t : Int} (h : 0 ≤ t ∧ t < 30) : 8 ≤ leastL t ∧ leastL t ≤ 80 := by
  unfold leastL; rw [if_pos h]; exact leastT_pos _ (by omega)
theorem leastL_out {t : Int} (h : ¬ (0 ≤ t ∧ t < 30)) : leastL t = 0 := by unfold leastL; rw [if_neg h]

theorem refCheck_ver (V T L X : Int) (hv : verB V T = false) (w : World) :
    Calls Tryd.prog 15 #[.agg #[.int .i64 V, .int .i64 T, .int .i64 L, .int .u32 X]] w fun e w' => e = .returned (.int .i64 257) ∧ Below w.heap.size w w' := by
  by_cases h : T = 0
  · subst h
    by_cases hV : 1 ≤ V
    · have c2 : ¬ V ≤ 255 := by simpa [verB, hV] using hv
      have c4 : (V != 4) = true := by simp; omega
      clear hv
      go_enter Tryd.func15, Tryd.ntmps15
      go_wp2
      go_ret
      exact ⟨rfl, below_alloc _ _⟩
    · have c4 : (V != 4) = true := by simp; omega
      clear hv
      go_enter Tryd.func15, Tryd.ntmps15
      go_wp2
      go_ret
      exact ⟨rfl, below_alloc _ _⟩
  · have c4 : (V != 4) = true := by simpa [verB, if_neg h] using hv
    have c0 : (T == 0) = false := by simpa using h
    clear hv h
    go_enter Tryd.func15, Tryd.ntmps15
    go_wp2
    go_ret
    exact ⟨rfl, below_alloc _ _⟩

theorem refCheck_type (T L X : Int) (ht : ¬ (0 ≤ T ∧ T < 30)) (w : World) :
    Calls Tryd.prog 15 #[.agg #[.int .i64 4, .int .i64 T, .int .i64 L, .int .u32 X]] w fun e w' => e = .returned (.int .i64 258) ∧ Below w.heap.size w w' := by
  have HM := hid (fun W => refLeast_any T W)
  rw [leastL_out ht] at HM
  clear ht
  go_enter Tryd.func15, Tryd.ntmps15
  go_wp2_with fail
  refine (HM.out _).mono ?_
  rintro e w1 ⟨rfl, hb⟩
  go_wp2_with fail
  go_ret
  exact ⟨rfl, below_then (below_alloc _ _) hb⟩

set_option maxHeartbeats 2000000 in
theorem refCheck_four (T L X m q : Int) (t0 : 0 ≤ T) (t1 : T < 30) (hm : leastL T = m) (hq : L < m ∧ q = 263 ∨ (m ≤ L ∧ 65535 < L) ∧ q = 263 ∨ (m ≤ L ∧ L ≤ 65535) ∧ q = 0) (w : World) :
    Calls Tryd.prog 15 #[.agg #[.int .i64 4, .int .i64 T, .int .i64 L, .int .u32 X]] w fun e w' => e = .returned (.int .i64 q) ∧ Below w.heap.size w w' := by
  obtain ⟨W, hW⟩ : ∃ W, w.alloc (.cells #[.int .i64 4, .int .i64 T, .int .i64 L, .int .u32 X] 27) = W := ⟨_, rfl⟩
  have hbW : Below w.heap.size w W := by rw [← hW]; exact below_alloc _ _
  have hd : HdAt W w.heap.size 4 T L X := by rw [← hW]; exact HdAt.of_block (t := 27) (_root_.Go.heap_alloc_new w _)
  have HW := hid hW
  have HD := hid hd
  have HM := hid (fun W => refLeast_any T W)
  have hle := leastL_in (t := T) (by omega)
  rw [hm] at HM hle
  clear hW hm
  have m0 : (m == 0) = false := by simp; omega
  clear hle
  obtain ⟨d0, d1, d2, d3⟩ := hd
  rcases hq with ⟨h, rfl⟩ | ⟨⟨h, h'⟩, rfl⟩ | ⟨⟨h, h'⟩, rfl⟩
  case' inr.inl => have g1 : decide (L < m) = false := by simpa using h
  case' inr.inr => have g1 : decide (L < m) = false := by simpa using h
  all_goals
    go_enter Tryd.func15, Tryd.ntmps15
    go_wp2_with fail
    rw [HW.out]
    go_wp2_with fail
    refine (HM.out _).mono ?_
    rintro e w1 ⟨rfl, hb⟩
    have hB := below_then hbW hb
    clear d0 d1 d2 d3
    obtain ⟨d0, d1, d2, d3⟩ := HD.out.below hb
    go_wp2_with fail
    have f1 := fun n : Wk w1 => Wk.cell d1 n
    have f2 := fun n : Wk w1 => Wk.cell d2 n
    refine wp_region_wk (by kernel_rfl) (by kernel_rfl) ?_
    repeat (go_big_quiet_step ((go_at_call 17; exact Wk.call (HM.out _))))
    refine wpQuiet_nil ?_
    rintro w2 ⟨⟨_, hb2⟩, rfl⟩
    go_wp2_with fail
    go_ret
    exact ⟨rfl, below_then hB hb2⟩

set_option maxHeartbeats 2000000 in
theorem refCheck_zero (V L X m q : Int) (n4 : (V != 4) = true) (h1 : 1 ≤ V) (h2 : V ≤ 255) (hm : leastL 0 = m) (hq : L < m ∧ q = 263 ∨ (m ≤ L ∧ 65535 < L) ∧ q = 263 ∨ (m ≤ L ∧ L ≤ 65535) ∧ q = 0) (w : World) :
    Calls Tryd.prog 15 #[.agg #[.int .i64 V, .int .i64 0, .int .i64 L, .int .u32 X]] w fun e w' => e = .returned (.int .i64 q) ∧ Below w.heap.size w w' := by
  obtain ⟨W, hW⟩ : ∃ W, w.alloc (.cells #[.int .i64 V, .int .i64 0, .int .i64 L, .int .u32 X] 27) = W := ⟨_, rfl⟩
  have hbW : Below w.heap.size w W := by rw [← hW]; exact below_alloc _ _
  have hd : HdAt W w.heap.size V 0 L X := by rw [← hW]; exact HdAt.of_block (t := 27) (_root_.Go.heap_alloc_new w _)
  have HW := hid hW
  have HD := hid hd
  have HM := hid (fun W => refLeast_any 0 W)
  have hle := leastL_in (t := 0) (by omega)
  rw [hm] at HM hle
  clear hW hm
  have m0 : (m == 0) = false := by simp; omega
  clear hle
  obtain ⟨d0, d1, d2, d3⟩ := hd
  rcases hq with ⟨h, rfl⟩ | ⟨⟨h, h'⟩, rfl⟩ | ⟨⟨h, h'⟩, rfl⟩
  case' inr.inl => have g1 : decide (L < m) = false := by simpa using h
  case' inr.inr => have g1 : decide (L < m) = false := by simpa using h
  all_goals
    go_enter Tryd.func15, Tryd.ntmps15
    go_wp2_with fail
    rw [HW.out]
    go_wp2_with fail
    refine (HM.out _).mono ?_
    rintro e w1 ⟨rfl, hb⟩
    have hB := below_then hbW hb
    clear d0 d1 d2 d3
    obtain ⟨d0, d1, d2, d3⟩ := HD.out.below hb
    go_wp2_with fail
    have f1 := fun n : Wk w1 => Wk.cell d1 n
    have f2 := fun n : Wk w1 => Wk.cell d2 n
    refine wp_region_wk (by kernel_rfl) (by kernel_rfl) ?_
    repeat (go_big_quiet_step ((go_at_call 17; exact Wk.call (HM.out _))))
    refine wpQuiet_nil ?_
    rintro w2 ⟨⟨_, hb2⟩, rfl⟩
    go_wp2_with fail
    go_ret
    exact ⟨rfl, below_then hB hb2⟩

theorem refCheck_any (V T L X : Int) (w : World) :
    Calls Tryd.prog 15 #[.agg #[.int .i64 V, .int .i64 T, .int .i64 L, .int .u32 X]] w fun e w' => e = .returned (.int .i64 (checkL V T L)) ∧ Below w.heap.size w w' := by
  cases hv : verB V T
  · have e : checkL V T L = 257 := by simp [checkL, hv]
    rw [e]
    exact refCheck_ver V T L X hv w
  · have hv' : V = 4 ∨ T = 0 ∧ 1 ≤ V ∧ V ≤ 255 := by
      unfold verB at hv
      split at hv
      · rename_i h; simp at hv; exact .inr ⟨h, hv⟩
      · simp at hv; exact .inl hv
    by_cases ht : 0 ≤ T ∧ T < 30
    · have e : checkL V T L = if L < leastL T ∨ 65535 < L then 263 else 0 := by simp [checkL, hv, ht]
      have hq : L < leastL T ∧ checkL V T L = 263 ∨ (leastL T ≤ L ∧ 65535 < L) ∧ checkL V T L = 263 ∨ (leastL T ≤ L ∧ L ≤ 65535) ∧ checkL V T L = 0 := by
        rw [e]
        split <;> omega
      by_cases h4 : V = 4
      · subst h4
        exact refCheck_four T L X _ _ ht.1 ht.2 rfl hq w
      · obtain ⟨rfl, h1, h2⟩ : T = 0 ∧ 1 ≤ V ∧ V ≤ 255 := by omega
        exact refCheck_zero V L X _ _ (by simpa using h4) h1 h2 rfl hq w
    · have e : checkL V T L = 258 := by simp only [checkL, hv, if_pos ht]; simp
      rw [e]
      obtain rfl : V = 4 := by omega
      exact refCheck_type T L X ht w
end Go.Proofs.YtkgjmpcdndohpaaDoor
