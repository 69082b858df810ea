/- Put together out of several texts: what the laws of earlier stages left. -/
import Derived.Test.YtaddhahghglabaaMrg1
import Derived.Test.YtaddhahghglabaaMrg6
import Derived.Test.YtaddhahghglabaaMrg5
import Derived.OneCell
import Derived.Test.YtaddhahghglabaaMrg4
import Derived.Deep.RegionWith
import Derived.Deep.RegionHeld3
import Derived.Deep.DeepCutAuto
import Derived.Deep.CutBlock
import Derived.StillTailTactics
namespace Go.Proofs.Ytaddhahghglabaa
open Go.RowKit
set_option maxRecDepth 100000

/-- a shape, as a value -/
def shV (L S : Int) (P : Bool) (B O : Int) : Value := .agg #[.int .i64 L, .int .i64 S, .bool P, .int .i64 B, .int .i64 O]
/-- a shape that may be -/
def MayS (L S B O : Int) : Prop := 4 ≤ L ∧ L ≤ 60000 ∧ 1 ≤ S ∧ S ≤ 64 ∧ B ≠ 0 ∧ O ≠ 0
/-- a shape stands in a block -/
structure ShAt (w : World) (b : Nat) (L S : Int) (P : Bool) (B O : Int) : Prop where
  c0 : w.cell? ⟨b, 0, none⟩ = some (.int .i64 L)
  c1 : w.cell? ⟨b, 1, none⟩ = some (.int .i64 S)
  c2 : w.cell? ⟨b, 2, none⟩ = some (.bool P)
  c3 : w.cell? ⟨b, 3, none⟩ = some (.int .i64 B)
  c4 : w.cell? ⟨b, 4, none⟩ = some (.int .i64 O)

theorem mayBe_yes (w : World) (L S : Int) (P : Bool) (B O : Int) (h : MayS L S B O) :
    Calls Try.prog 47 #[.agg #[.int .i64 L, .int .i64 S, .bool P, .int .i64 B, .int .i64 O]] w fun e w' => e = .returned (.bool true) ∧ Below w.heap.size w w' := by
  obtain ⟨h1, h2, h3, h4, h5, h6⟩ := h
  have e5 : (B != 0) = true := by simpa using h5
  have e6 : (O != 0) = true := by simpa using h6
  clear h5 h6
  go_enter Try.func47, Try.ntmps47
  go_wp2
  go_ret
  exact ⟨rfl, below_alloc _ _⟩
theorem mayBe_no (w : World) (L S : Int) (P : Bool) (B O : Int) (h : ¬ MayS L S B O) :
    Calls Try.prog 47 #[.agg #[.int .i64 L, .int .i64 S, .bool P, .int .i64 B, .int .i64 O]] w fun e w' => e = .returned (.bool false) ∧ Below w.heap.size w w' := by
  have HH := hid h
  clear h
  go_enter Try.func47, Try.ntmps47
  go_wp2
  all_goals go_ret
  all_goals refine ⟨?_, below_alloc _ _⟩
  all_goals first | rfl | (refine ret_bool ?_; have := HH.out; unfold MayS at this; simp only [ne_eq] at *; simp; omega)

/-- whether a thing may tell the length n -/
def lenOk (L S : Nat) (P : Bool) (n : Nat) : Bool := decide (L ≤ n) && (P || n % S == 0)
/-- how many zeros stand behind a thing of the length n -/
def zer (S : Nat) (P : Bool) (n : Nat) : Nat := if P = false ∨ n % S = 0 then 0 else S - n % S

theorem zer_lt {S : Nat} (hS : 1 ≤ S) (P : Bool) (n : Nat) : zer S P n < S := by unfold zer; split <;> omega

theorem isLength_any (w : World) (L S n : Nat) (P : Bool) (B O : Int) (hS : 1 ≤ S) :
    Calls Try.prog 69 #[.agg #[.int .i64 L, .int .i64 S, .bool P, .int .i64 B, .int .i64 O], .int .i64 n] w fun e w' => e = .returned (.bool (lenOk L S P n)) ∧ Below w.heap.size w w' := by
  have hto := over_cast (l := n) hS
  have hn0 : ((S : Int) == 0) = false := by simp; omega
  unfold lenOk
  by_cases h1 : L ≤ n
  · have h1' : (L : Int) ≤ (n : Int) := by omega
    have e1 : decide (L ≤ n) = true := by simpa using h1
    rw [e1]
    clear e1 h1
    cases P
    · obtain ⟨o, ho⟩ : ∃ o, o = n % S := ⟨_, rfl⟩
      rw [← ho] at hto ⊢
      clear ho
      rcases Nat.eq_zero_or_pos o with h0 | h0
      · subst h0
        go_enter Try.func69, Try.ntmps69
        go_wp2
        go_ret
        exact ⟨rfl, below_alloc _ _⟩
      · have e0 : (o == 0) = false := by simp; omega
        have e0' : ((o : Int) == 0) = false := by simp; omega
        rw [e0]
        clear e0 h0
        go_enter Try.func69, Try.ntmps69
        go_wp2
        go_ret
        exact ⟨rfl, below_alloc _ _⟩
    · clear hto
      go_enter Try.func69, Try.ntmps69
      go_wp2
      go_ret
      exact ⟨rfl, below_alloc _ _⟩
  · have h1' : (n : Int) < (L : Int) := by omega
    have e1 : decide (L ≤ n) = false := by simpa using h1
    rw [e1]
    clear e1 h1 hto
    go_enter Try.func69, Try.ntmps69
    go_wp2
    go_ret
    exact ⟨rfl, below_alloc _ _⟩

theorem zeros_any (w : World) (L S n : Nat) (P : Bool) (B O : Int) (hS : 1 ≤ S) (hS64 : S ≤ 64) :
    Calls Try.prog 49 #[.agg #[.int .i64 L, .int .i64 S, .bool P, .int .i64 B, .int .i64 O], .int .i64 n] w fun e w' => e = .returned (.int .i64 (zer S P n)) ∧ Below w.heap.size w w' := by
  have hto := over_cast (l := n) hS
  have hn0 : ((S : Int) == 0) = false := by simp; omega
  have hlt : n % S < S := Nat.mod_lt _ (by omega)
  obtain ⟨z, hz⟩ : ∃ z, z = zer S P n := ⟨_, rfl⟩
  rw [← hz]
  unfold zer at hz
  obtain ⟨o, ho⟩ : ∃ o, o = n % S := ⟨_, rfl⟩
  rw [← ho] at hto hlt hz
  clear ho
  cases P
  · obtain rfl : z = 0 := by simpa using hz
    clear hz
    go_enter Try.func49, Try.ntmps49
    go_wp2
    go_ret
    exact ⟨rfl, below_alloc _ _⟩
  · rcases Nat.eq_zero_or_pos o with h0 | h0
    · subst h0
      obtain rfl : z = 0 := by simpa using hz
      clear hz
      go_enter Try.func49, Try.ntmps49
      go_wp2
      go_ret
      exact ⟨rfl, below_alloc _ _⟩
    · have e0' : ((o : Int) == 0) = false := by simp; omega
      have e1 : ¬ o = 0 := by omega
      have hso : (S : Int) - (o : Int) = (z : Int) := by simp [e1] at hz; omega
      clear h0 hz e1 hlt
      go_enter Try.func49, Try.ntmps49
      go_wp2
      go_ret
      exact ⟨rfl, below_alloc _ _⟩

end Go.Proofs.Ytaddhahghglabaa
namespace Go.Proofs.Ytaddhahghglabaa
open Go.RowKit
set_option maxRecDepth 100000

theorem ShAt.below {w w' : World} {b : Nat} {L S : Int} {P : Bool} {B O : Int} (h : ShAt w b L S P B O) (hb : Below w.heap.size w w') : ShAt w' b L S P B O :=
  ⟨cell_keep h.c0 hb, cell_keep h.c1 hb, cell_keep h.c2 hb, cell_keep h.c3 hb, cell_keep h.c4 hb⟩
theorem ShAt.by_ {w w' : World} {b : Nat} {L S : Int} {P : Bool} {B O : Int} (h : ShAt w b L S P B O) {row : Option Nat} (hb : w.grownBy w' row) (hne : row ≠ some b) : ShAt w' b L S P B O :=
  ⟨hb.cell h.c0 (fun e => hne e.symm), hb.cell h.c1 (fun e => hne e.symm), hb.cell h.c2 (fun e => hne e.symm), hb.cell h.c3 (fun e => hne e.symm), hb.cell h.c4 (fun e => hne e.symm)⟩
theorem new_lit (l : List Int) (a : Option Addr) (n c : Nat) (s o : Int) (w : World) (hn : n = l.length) (hl : l.length ≤ 140737488355328) (ho : Octets l) (hI : Ints .u8 w a l) :
    Calls Try.prog 52 #[.slice a n c, .int .i64 s, .int .i64 o] w fun e w' => ∃ g, e = .returned (.pointer (some ⟨g, 0, none⟩)) ∧ Cur w' g w.heap.size l 0 s o 0 ∧ Below w.heap.size w w' ∧ w.heap.size < g ∧ g < w'.heap.size := by
  subst hn; exact new_any l a c s o w hl ho hI
/-- a shape that has just been boxed -/
theorem boxed_shape (w : World) (L S : Int) (P : Bool) (B O : Int) (t : TypeId) :
    ∃ W, (w.alloc (.cells #[.int .i64 L, .int .i64 S, .bool P, .int .i64 B, .int .i64 O] t)).drew = W ∧ Below w.heap.size w W ∧ w.heap.size < W.heap.size ∧ ShAt W w.heap.size L S P B O := by
  have hc : ∀ i v, (#[Value.int .i64 L, .int .i64 S, .bool P, .int .i64 B, .int .i64 O] : Array Value)[i]? = some v → ((w.alloc (.cells #[.int .i64 L, .int .i64 S, .bool P, .int .i64 B, .int .i64 O] t)).drew).cell? ⟨w.heap.size, i, none⟩ = some v :=
    fun i v h => cell_of_cells (t := t) (_root_.Go.heap_alloc_new w _) h
  exact ⟨_, rfl, (Below.refl _ _).alloc (Nat.le_refl _) _ |>.drew, by simp, hc 0 _ rfl, hc 1 _ rfl, hc 2 _ rfl, hc 3 _ rfl, hc 4 _ rfl⟩

set_option maxRecDepth 100000 in
theorem readHead_ok (w : World) (L S : Nat) (P : Bool) (B O : Int) (hS : 1 ≤ S) (b : List Int) (a : Option Addr) (c : Nat) (hb : b.length ≤ c) (hc : c ≤ 9223372036854775807) (hI : Ints .u8 w a b) (ho : Octets b) (h4 : 4 ≤ b.length)
    (n : Nat) (hn : numL ((b.drop 2).take 2) = n) (hok : lenOk L S P n = true) :
    Calls Try.prog 48 #[.agg #[.int .i64 L, .int .i64 S, .bool P, .int .i64 B, .int .i64 O], .slice a b.length c] w fun e w' =>
      e = .returned (.tuple #[.int .i64 (numL (b.take 2)), .int .i64 n, .int .i64 0]) ∧ Below w.heap.size w w' := by
  obtain ⟨M, off, rfl⟩ : ∃ M off, a = some ⟨M, off, none⟩ := by obtain ⟨M, off, h, _⟩ := hI 0 (by omega); exact ⟨M, off, h⟩
  have hc4 : 4 ≤ c := by omega
  have hc4i : (4 : Int) ≤ (c : Int) := by omega
  have hmin : ((if (4 : Int) < (b.length : Int) then 4 else (b.length : Int)) : Int) = 4 := by split <;> omega
  obtain ⟨W, hW, hbW, hlt, hsh⟩ := boxed_shape w L S P B O 62
  have HW := hid hW
  clear hW
  have hIW : Ints .u8 W (some ⟨M, off, none⟩) (b.take 4) := (hI.take 4).below hbW
  have hl4 : (b.take 4).length = 4 := by rw [List.length_take]; omega
  have ho4 : Octets (b.take 4) := ho.take 4
  have hv1 : (b.take 4).take 2 = b.take 2 := by rw [List.take_take]; rfl
  have hv2 : ((b.take 4).drop 2).take 2 = (b.drop 2).take 2 := by rw [List.drop_take, List.take_take]; rfl
  have hnb := numL_snoc_bound (ho.take 2)
  have hnm := numL_snoc_bound ((ho.drop 2).take 2)
  have hl2 : (b.take 2).length = 2 := by rw [List.length_take]; omega
  have hl22 : ((b.drop 2).take 2).length = 2 := by rw [List.length_take, List.length_drop]; omega
  have hp2 : p256 2 = 65536 := by decide
  rw [hl2, hp2] at hnb
  rw [hl22, hp2, hn] at hnm
  obtain ⟨t, ht⟩ : ∃ t, t = numL (b.take 2) := ⟨_, rfl⟩
  rw [← ht] at hnb ⊢
  obtain ⟨hd, hhd⟩ : ∃ hd, hd = b.take 4 := ⟨_, rfl⟩
  rw [← hhd] at hIW hl4 ho4 hv1 hv2
  rw [← hv1] at ht
  rw [← hv2] at hn
  have LW := fun W => isLength_any W L S n P B O hS
  rw [hok] at LW
  have HN := hid hn
  have HT := hid ht
  have H4 := hid hl4
  clear hI ho hv1 hv2 hl2 hl22 hp2 hn ht hhd hok hl4
  go_enter Try.func48, Try.ntmps48
  go_upto_region 1 with fail
  refine wp_tail 9 (by kernel_rfl) (by kernel_rfl) ?_
  simp only [List.take_succ_cons, List.take_zero, List.drop_succ_cons, List.drop_zero]
  repeat still_step
  refine wpStill_nil ?_
  rw [HW.out]
  go_wp2_with fail
  refine (new_lit hd _ _ _ _ _ W (by rw [H4.out]) (by rw [H4.out]; omega) ho4 hIW).mono ?_
  rintro e w1 ⟨g, rfl, hcur, hb1, hg1, hg2⟩
  have hsh1 := hsh.below hb1
  have hB1 := below_more hbW hb1
  go_wp2_with fail
  refine (hcur.num_ok (n := 2) (by omega) (by omega) (by rw [H4.out]; omega)).mono ?_
  rintro e w2 ⟨rfl, hcur2, hb2⟩
  rw [← HT.out]
  have hsh2 := hsh1.by_ hb2 (by simp; omega)
  have hB2 := below_by hB1 hb2 (by omega)
  go_wp2_with fail
  refine (hcur2.num_ok (n := 2) (by omega) (by omega) (by rw [List.length_drop, H4.out]; omega)).mono ?_
  rintro e w3 ⟨rfl, hcur3, hb3⟩
  rw [HN.out]
  obtain ⟨c0, c1, c2, c3, c4⟩ := hsh2.by_ hb3 (by simp; omega)
  have hB3 := below_by hB2 hb3 (by omega)
  clear hsh hsh1 hsh2 hB1 hB2 hcur hcur2
  go_wp2_with fail
  refine (LW _).mono ?_
  rintro e w4 ⟨rfl, hb4⟩
  go_wp2_with fail
  refine (hcur3.below hb4).err.mono ?_
  rintro e w5 ⟨rfl, rfl⟩
  go_wp2
  refine bodyPost_ret (v := .tuple #[.int .i64 t, .int .i64 n, .int .i64 0]) (by simp [results, Try.results48, go_sem]) rfl ⟨rfl, ?_⟩
  exact below_more hB3 hb4

set_option maxRecDepth 100000 in
theorem readHead_wrong (w : World) (L S : Nat) (P : Bool) (B O : Int) (hS : 1 ≤ S) (b : List Int) (a : Option Addr) (c : Nat) (hb : b.length ≤ c) (hc : c ≤ 9223372036854775807) (hI : Ints .u8 w a b) (ho : Octets b) (h4 : 4 ≤ b.length)
    (n : Nat) (hn : numL ((b.drop 2).take 2) = n) (hok : lenOk L S P n = false) :
    Calls Try.prog 48 #[.agg #[.int .i64 L, .int .i64 S, .bool P, .int .i64 B, .int .i64 O], .slice a b.length c] w fun e w' =>
      ∃ x y, e = .returned (.tuple #[.int .i64 x, .int .i64 y, .int .i64 B]) ∧ Below w.heap.size w w' := by
  obtain ⟨M, off, rfl⟩ : ∃ M off, a = some ⟨M, off, none⟩ := by obtain ⟨M, off, h, _⟩ := hI 0 (by omega); exact ⟨M, off, h⟩
  have hc4 : 4 ≤ c := by omega
  have hc4i : (4 : Int) ≤ (c : Int) := by omega
  have hmin : ((if (4 : Int) < (b.length : Int) then 4 else (b.length : Int)) : Int) = 4 := by split <;> omega
  obtain ⟨W, hW, hbW, hlt, hsh⟩ := boxed_shape w L S P B O 62
  have HW := hid hW
  clear hW
  have hIW : Ints .u8 W (some ⟨M, off, none⟩) (b.take 4) := (hI.take 4).below hbW
  have hl4 : (b.take 4).length = 4 := by rw [List.length_take]; omega
  have ho4 : Octets (b.take 4) := ho.take 4
  have hv2 : ((b.take 4).drop 2).take 2 = (b.drop 2).take 2 := by rw [List.drop_take, List.take_take]; rfl
  have hnb := numL_snoc_bound ((ho.take 4).take 2)
  have hnm := numL_snoc_bound ((ho.drop 2).take 2)
  have hl2 : ((b.take 4).take 2).length = 2 := by rw [List.length_take]; omega
  have hl22 : ((b.drop 2).take 2).length = 2 := by rw [List.length_take, List.length_drop]; omega
  have hp2 : p256 2 = 65536 := by decide
  rw [hl2, hp2] at hnb
  rw [hl22, hp2, hn] at hnm
  obtain ⟨hd, hhd⟩ : ∃ hd, hd = b.take 4 := ⟨_, rfl⟩
  rw [← hhd] at hIW hl4 ho4 hv2 hnb
  obtain ⟨t, ht⟩ : ∃ t, t = numL (hd.take 2) := ⟨_, rfl⟩
  rw [← ht] at hnb
  rw [← hv2] at hn
  have LW := fun W => isLength_any W L S n P B O hS
  rw [hok] at LW
  have HN := hid hn
  have HT := hid ht
  have H4 := hid hl4
  clear hI ho hv2 hl2 hl22 hp2 hn ht hhd hok hl4
  go_enter Try.func48, Try.ntmps48
  go_upto_region 1 with fail
  refine wp_tail 9 (by kernel_rfl) (by kernel_rfl) ?_
  simp only [List.take_succ_cons, List.take_zero, List.drop_succ_cons, List.drop_zero]
  repeat still_step
  refine wpStill_nil ?_
  rw [HW.out]
  go_wp2_with fail
  refine (new_lit hd _ _ _ _ _ W (by rw [H4.out]) (by rw [H4.out]; omega) ho4 hIW).mono ?_
  rintro e w1 ⟨g, rfl, hcur, hb1, hg1, hg2⟩
  have hsh1 := hsh.below hb1
  have hB1 := below_more hbW hb1
  go_wp2_with fail
  refine (hcur.num_ok (n := 2) (by omega) (by omega) (by rw [H4.out]; omega)).mono ?_
  rintro e w2 ⟨rfl, hcur2, hb2⟩
  rw [← HT.out]
  have hsh2 := hsh1.by_ hb2 (by simp; omega)
  have hB2 := below_by hB1 hb2 (by omega)
  go_wp2_with fail
  refine (hcur2.num_ok (n := 2) (by omega) (by omega) (by rw [List.length_drop, H4.out]; omega)).mono ?_
  rintro e w3 ⟨rfl, hcur3, hb3⟩
  rw [HN.out]
  obtain ⟨c0, c1, c2, c3, c4⟩ := hsh2.by_ hb3 (by simp; omega)
  have hsh3 := hsh2.by_ hb3 (by simp; omega)
  have hB3 := below_by hB2 hb3 (by omega)
  clear hsh hsh1 hsh2 hB1 hB2 hcur hcur2
  go_wp2_with fail
  refine (LW _).mono ?_
  rintro e w4 ⟨rfl, hb4⟩
  obtain ⟨d0, d1, d2, d3, d4⟩ := hsh3.below hb4
  go_wp2_with fail
  refine ((hcur3.below hb4).fail B).mono ?_
  rintro e w5 ⟨rfl, hcur5, hb5⟩
  go_wp2_with fail
  refine hcur5.err.mono ?_
  rintro e w6 ⟨rfl, rfl⟩
  go_wp2
  refine bodyPost_ret (v := .tuple #[.int .i64 t, .int .i64 n, .int .i64 B]) (by simp [results, Try.results48, go_sem]) rfl ⟨t, n, rfl, ?_⟩
  exact below_by (below_more hB3 hb4) hb5 (by omega)

set_option maxRecDepth 100000 in
theorem readHead_short (w : World) (L S : Nat) (P : Bool) (B O : Int) (hS : 1 ≤ S) (hL : 4 ≤ L) (hB : B ≠ 0) (b : List Int) (a : Option Addr) (c : Nat) (hb : b.length ≤ c) (hI : Ints .u8 w a b) (ho : Octets b) (h4 : b.length < 4) :
    Calls Try.prog 48 #[.agg #[.int .i64 L, .int .i64 S, .bool P, .int .i64 B, .int .i64 O], .slice a b.length c] w fun e w' =>
      ∃ x y, e = .returned (.tuple #[.int .i64 x, .int .i64 y, .int .i64 B]) ∧ Below w.heap.size w w' := by
  have hbi : (b.length : Int) ≤ (c : Int) := by omega
  have hmin : ((if (4 : Int) < (b.length : Int) then 4 else (b.length : Int)) : Int) = b.length := by split <;> omega
  have h4i : (b.length : Int) < 4 := by omega
  obtain ⟨W, hW, hbW, hlt, hsh⟩ := boxed_shape w L S P B O 62
  have HW := hid hW
  have hIW : Ints .u8 W a b := hI.below hbW
  have LW := fun W => isLength_any W L S 0 P B O hS
  rw [show lenOk L S P 0 = false by unfold lenOk; simp; omega] at LW
  have HB := hid hB
  clear hI hW hB
  rcases Nat.lt_or_ge b.length 2 with h2 | h2
  · go_enter Try.func48, Try.ntmps48
    go_upto_region 1 with fail
    refine wp_tail 9 (by kernel_rfl) (by kernel_rfl) ?_
    simp only [List.take_succ_cons, List.take_zero, List.drop_succ_cons, List.drop_zero]
    repeat still_step
    refine wpStill_nil ?_
    rw [HW.out]
    go_wp2_with fail
    refine (new_lit b _ _ _ _ _ W rfl (by omega) ho hIW).mono ?_
    rintro e w1 ⟨g, rfl, hcur, hb1, hg1, hg2⟩
    have hsh1 := hsh.below hb1
    have hB1 := below_more hbW hb1
    go_wp2_with fail
    refine (hcur.num_short (n := 2) (by omega) (by omega) (by omega)).mono ?_
    rintro e w2 ⟨rfl, hcur2, hb2⟩
    have hsh2 := hsh1.by_ hb2 (by simp; omega)
    have hB2 := below_by hB1 hb2 (by omega)
    go_wp2_with fail
    refine (hcur2.num_late HB.out 2).mono ?_
    rintro e w3 ⟨rfl, hb3⟩
    have hsh3 := hsh2.below hb3
    obtain ⟨c0, c1, c2, c3, c4⟩ := hsh2.below hb3
    have hB3 := below_more hB2 hb3
    have hcur3 := hcur2.below hb3
    clear hsh hsh1 hsh2 hB1 hB2 hcur hcur2
    go_wp2_with fail
    refine (LW _).mono ?_
    rintro e w4 ⟨rfl, hb4⟩
    obtain ⟨d0, d1, d2, d3, d4⟩ := hsh3.below hb4
    go_wp2_with fail
    refine ((hcur3.below hb4).fail_late HB.out B).mono ?_
    rintro e w5 ⟨rfl, rfl⟩
    go_wp2_with fail
    refine (hcur3.below hb4).err.mono ?_
    rintro e w6 ⟨rfl, rfl⟩
    go_wp2
    refine bodyPost_ret (v := .tuple #[.int .i64 0, .int .i64 0, .int .i64 B]) (by simp [results, Try.results48, go_sem]) rfl ⟨0, 0, rfl, ?_⟩
    exact below_more hB3 hb4
  · have hnb := numL_snoc_bound (ho.take 2)
    rw [show (b.take 2).length = 2 by rw [List.length_take]; omega, show p256 2 = 65536 by decide] at hnb
    obtain ⟨t, ht⟩ : ∃ t, t = numL (b.take 2) := ⟨_, rfl⟩
    rw [← ht] at hnb
    have HT := hid ht
    clear ht
    go_enter Try.func48, Try.ntmps48
    go_upto_region 1 with fail
    refine wp_tail 9 (by kernel_rfl) (by kernel_rfl) ?_
    simp only [List.take_succ_cons, List.take_zero, List.drop_succ_cons, List.drop_zero]
    repeat still_step
    refine wpStill_nil ?_
    rw [HW.out]
    go_wp2_with fail
    refine (new_lit b _ _ _ _ _ W rfl (by omega) ho hIW).mono ?_
    rintro e w1 ⟨g, rfl, hcur, hb1, hg1, hg2⟩
    have hsh1 := hsh.below hb1
    have hB1 := below_more hbW hb1
    go_wp2_with fail
    refine (hcur.num_ok (n := 2) (by omega) (by omega) (by omega)).mono ?_
    rintro e w2 ⟨rfl, hcur2, hb2⟩
    rw [← HT.out]
    have hsh2 := hsh1.by_ hb2 (by simp; omega)
    have hB2 := below_by hB1 hb2 (by omega)
    go_wp2_with fail
    refine (hcur2.num_short (n := 2) (by omega) (by omega) (by rw [List.length_drop]; omega)).mono ?_
    rintro e w3 ⟨rfl, hcur3, hb3⟩
    have hsh3 := hsh2.by_ hb3 (by simp; omega)
    obtain ⟨c0, c1, c2, c3, c4⟩ := hsh2.by_ hb3 (by simp; omega)
    have hB3 := below_by hB2 hb3 (by omega)
    clear hsh hsh1 hsh2 hB1 hB2 hcur hcur2
    go_wp2_with fail
    refine (LW _).mono ?_
    rintro e w4 ⟨rfl, hb4⟩
    obtain ⟨d0, d1, d2, d3, d4⟩ := hsh3.below hb4
    go_wp2_with fail
    refine ((hcur3.below hb4).fail_late HB.out B).mono ?_
    rintro e w5 ⟨rfl, rfl⟩
    go_wp2_with fail
    refine (hcur3.below hb4).err.mono ?_
    rintro e w6 ⟨rfl, rfl⟩
    go_wp2
    refine bodyPost_ret (v := .tuple #[.int .i64 t, .int .i64 0, .int .i64 B]) (by simp [results, Try.results48, go_sem]) rfl ⟨t, 0, rfl, ?_⟩
    exact below_more hB3 hb4
end Go.Proofs.Ytaddhahghglabaa
namespace Go.Proofs.Ytaddhahghglabaa
open Go.RowKit
set_option maxRecDepth 100000

theorem getW_zeros {z : Nat} (h1 : 1 ≤ z) (h64 : z ≤ 64) {l : List Int} : getW [-(z : Int)] l = if l.length < z then .error 1 else if zeros (l.take z) then .ok [] else .error 2 := by
  have hw : isW (-(z : Int)) = true := by simp [isW]; omega
  have hr : rightW [-(z : Int)] = true := by simp [rightW, allW, hw]
  rw [getW, if_pos hr]
  simp only [getL, Int.natAbs_neg, Int.natAbs_natCast]
  rw [if_neg (show ¬ 0 < -(z : Int) by omega)]

theorem gives_ints {w w' : World} {row : Option Nat} {k : Nat} {out : List Int} (h : Gives 5 w w' row (.slice (some ⟨k, 0, none⟩) out.length out.length) (out.map (Value.int .u8))) : Ints .u8 w' (some ⟨k, 0, none⟩) out ∧ w.heap.size ≤ k ∧ k < w'.heap.size := by
  have ho := h.own
  rw [show out.map (Value.int .u8) = out.map (Value.int .u8) from rfl] at ho
  refine ⟨?_, h.new k rfl, (ho.lt k rfl).2⟩
  obtain ⟨a, c, he, _, _, hI⟩ := own_ints ho
  simp at he
  obtain ⟨rfl, _⟩ := he
  exact hI

theorem wrap_nat {n : Nat} (h : n ≤ 9223372036854775807) : IntKind.i64.wrap (n : Int) = n := by simp [IntKind.wrap, IntKind.bits, IntKind.signed]; omega

/-- what readBody leaves where it reads -/
def BodyPost (w : World) (out : List Int) (e : Ending) (w' : World) : Prop :=
  ∃ k, e = .returned (.tuple #[.slice (some ⟨k, 0, none⟩) out.length out.length, .int .i64 0]) ∧ w.heap.size ≤ k ∧ Ints .u8 w' (some ⟨k, 0, none⟩) out ∧ Below w.heap.size w w'

set_option maxRecDepth 100000 in
theorem readBody_plain (w : World) (L S : Int) (P : Bool) (B O : Int) (b : List Int) (a : Option Addr) (c n : Nat) (hb : b.length ≤ c) (hI : Ints .u8 w a b) (ho : Octets b) (hn : n ≤ b.length) (hm : n ≤ 1000000) :
    Calls Try.prog 50 #[.agg #[.int .i64 L, .int .i64 S, .bool P, .int .i64 B, .int .i64 O], .slice a b.length c, .int .i64 n, .int .i64 0] w (BodyPost w (b.take n)) := by
  have hnc : n ≤ c := by omega
  have hnci : (n : Int) ≤ (c : Int) := by omega
  have hmin : ((if n < b.length then (n : Int) else (b.length : Int)) : Int) = n := by split <;> omega
  have hni : (n : Int) ≤ (b.length : Int) := by omega
  have hwr := wrap_nat (n := n) (by omega)
  obtain ⟨W, hW, hbW, hlt, hsh⟩ := boxed_shape w L S P B O 62
  have HW := hid hW
  have hIW : Ints .u8 W a (b.take n) := (hI.take n).below hbW
  have hl : (b.take n).length = n := by rw [List.length_take]; omega
  have ho' : Octets (b.take n) := ho.take n
  have htt : (b.take n).take n = b.take n := by rw [List.take_take, Nat.min_self]
  obtain ⟨out, hout⟩ : ∃ out, out = b.take n := ⟨_, rfl⟩
  rw [← hout] at hIW hl ho' htt ⊢
  have HL := hid hl
  have HT := hid htt
  clear hI hW hl htt hout
  go_enter Try.func50, Try.ntmps50
  go_upto_region 1 with fail
  refine wp_tail 12 (by kernel_rfl) (by kernel_rfl) ?_
  simp only [List.take_succ_cons, List.take_zero, List.drop_succ_cons, List.drop_zero]
  repeat still_step
  refine wpStill_nil ?_
  rw [HW.out]
  go_wp2_with fail
  refine (new_lit out _ _ _ _ _ W (by rw [HL.out]) (by rw [HL.out]; omega) ho' hIW).mono ?_
  rintro e w1 ⟨g, rfl, hcur, hb1, hg1, hg2⟩
  have hB1 := below_more hbW hb1
  go_wp2_with fail
  refine (hcur.bytes_ok (n := n) (by rw [HL.out]; omega)).mono ?_
  rintro e w2 hpost
  rw [HT.out] at hpost
  obtain ⟨k, rfl, hG, hcur2⟩ := hpost
  obtain ⟨hI2, hk, hk2⟩ := gives_ints hG
  have hB2 := below_by hB1 hG.by_ (by omega)
  go_wp2_with fail
  refine hcur2.err.mono ?_
  rintro e w6 ⟨rfl, rfl⟩
  go_wp2
  refine bodyPost_ret (v := .tuple #[.slice (some ⟨k, 0, none⟩) out.length out.length, .int .i64 0]) (by simp [results, Try.results50, go_sem]) rfl ⟨k, rfl, ?_, hI2, hB2⟩
  have := hbW.size
  have := hb1.size
  omega

set_option maxRecDepth 100000 in
theorem readBody_zeros (w : World) (L S : Int) (P : Bool) (B O : Int) (b : List Int) (a : Option Addr) (c n z : Nat) (hz : 1 ≤ z) (hz64 : z ≤ 64) (hb : b.length ≤ c) (hc : c ≤ 9223372036854775807) (hI : Ints .u8 w a b) (ho : Octets b) (hn : n + z ≤ b.length) (hm : n ≤ 1000000)
    (ok : Bool) (hok : zeros ((b.drop n).take z) = ok) :
    Calls Try.prog 50 #[.agg #[.int .i64 L, .int .i64 S, .bool P, .int .i64 B, .int .i64 O], .slice a b.length c, .int .i64 n, .int .i64 z] w
      (fun e w' => if ok then BodyPost w (b.take n) e w' else ∃ v, e = .returned (.tuple #[v, .int .i64 O]) ∧ Below w.heap.size w w') := by
  obtain ⟨m, hmm⟩ : ∃ m : Nat, m = n + z := ⟨_, rfl⟩
  have hmc : m ≤ c := by omega
  have hmci : (m : Int) ≤ (c : Int) := by omega
  have hmin : ((if m < b.length then (m : Int) else (b.length : Int)) : Int) = m := by split <;> omega
  have hni : (m : Int) ≤ (b.length : Int) := by omega
  have hwr : IntKind.i64.wrap ((n : Int) + (z : Int)) = m := by rw [← Int.natCast_add, ← hmm]; exact wrap_nat (by omega)
  have hz0 : (0 : Int) < (z : Int) := by omega
  obtain ⟨W, hW, hbW, hlt, hsh⟩ := boxed_shape w L S P B O 62
  have HW := hid hW
  have hIW : Ints .u8 W a (b.take m) := (hI.take m).below hbW
  have hl : (b.take m).length = m := by rw [List.length_take]; omega
  have ho' : Octets (b.take m) := ho.take m
  have htt : (b.take m).take n = b.take n := by rw [List.take_take]; congr 1; omega
  have hdt : ((b.take m).drop n).take z = (b.drop n).take z := by rw [List.drop_take, List.take_take]; congr 1; omega
  have hln : (b.take n).length = n := by rw [List.length_take]; omega
  obtain ⟨all, hall⟩ : ∃ all, all = b.take m := ⟨_, rfl⟩
  obtain ⟨out, hout⟩ : ∃ out, out = b.take n := ⟨_, rfl⟩
  rw [← hall] at hIW hl ho' htt hdt
  rw [← hout] at htt hln ⊢
  rw [← hdt] at hok
  have hgw := getW_zeros hz hz64 (l := all.drop n)
  rw [if_neg (by rw [List.length_drop]; omega), hok] at hgw
  have HL := hid hl
  have HT := hid htt
  have HG := hid hgw
  have HM := hid hmm
  have HN := hid hln
  clear hI hW hl htt hdt hall hout hok hgw hmm hln
  go_enter Try.func50, Try.ntmps50
  go_upto_region 1 with fail
  refine wp_tail 12 (by kernel_rfl) (by kernel_rfl) ?_
  simp only [List.take_succ_cons, List.take_zero, List.drop_succ_cons, List.drop_zero]
  repeat still_step
  refine wpStill_nil ?_
  rw [HW.out]
  go_wp2_with fail
  refine (new_lit all _ _ _ _ _ W (by rw [HL.out]) (by rw [HL.out]; have := HM.out; omega) ho' hIW).mono ?_
  rintro e w1 ⟨g, rfl, hcur, hb1, hg1, hg2⟩
  have hB1 := below_more hbW hb1
  go_wp2_with fail
  refine (hcur.bytes_ok (n := n) (by rw [HL.out]; have := HM.out; omega)).mono ?_
  rintro e w2 hpost
  rw [HT.out] at hpost
  obtain ⟨k, rfl, hG, hcur2⟩ := hpost
  obtain ⟨hI2, hk, hk2⟩ := gives_ints hG
  have hB2 := below_by hB1 hG.by_ (by omega)
  have hgk : g < k := by omega
  have hk0 : w.heap.size ≤ k := by have := hbW.size; have := hb1.size; omega
  go_wp2_with fail
  cases ok
  · refine ((hcur2.below (below_alloc _ _)).row_odd [-(z : Int)] _ _ (by simp) (ints_one _ _ _ _) HG.out).mono ?_
    rintro e w3 ⟨rfl, hcur3, hb3⟩
    have hB3 := below_by (below_more hB2 (below_alloc _ _)) hb3 (by omega)
    go_wp2_with fail
    refine hcur3.err.mono ?_
    rintro e w6 ⟨rfl, rfl⟩
    go_wp2
    refine bodyPost_ret (v := .tuple #[.slice (some ⟨k, 0, none⟩) out.length out.length, .int .i64 O]) (by simp [results, Try.results50, go_sem]) rfl ?_
    exact ⟨⟨_, rfl⟩, hB3⟩
  · refine ((hcur2.below (below_alloc _ _)).row_ok [-(z : Int)] [] _ _ (by simp) (ints_one _ _ _ _) HG.out).mono ?_
    rintro e w3 ⟨v, rfl, hG3, hcur3⟩
    have hB3 := below_by (below_more hB2 (below_alloc _ _)) hG3.by_ (by omega)
    have hI3 := (hI2.below (below_alloc _ _)).by hG3.by_ (by simp; omega)
    go_wp2_with fail
    refine hcur3.err.mono ?_
    rintro e w6 ⟨rfl, rfl⟩
    go_wp2
    refine bodyPost_ret (v := .tuple #[.slice (some ⟨k, 0, none⟩) out.length out.length, .int .i64 0]) (by simp [results, Try.results50, go_sem]) rfl ?_
    exact ⟨k, rfl, hk0, hI3, hB3⟩

set_option maxRecDepth 100000 in
theorem readBody_short (w : World) (L S : Int) (P : Bool) (B O : Int) (hB : B ≠ 0) (b : List Int) (a : Option Addr) (c n z : Nat) (hz64 : z ≤ 64) (hb : b.length ≤ c) (hc : c ≤ 9223372036854775807) (hI : Ints .u8 w a b) (ho : Octets b) (hn : b.length < n + z) (hm : n ≤ 1000000) :
    Calls Try.prog 50 #[.agg #[.int .i64 L, .int .i64 S, .bool P, .int .i64 B, .int .i64 O], .slice a b.length c, .int .i64 n, .int .i64 z] w
      (fun e w' => ∃ v, e = .returned (.tuple #[v, .int .i64 B]) ∧ Below w.heap.size w w') := by
  obtain ⟨m, hmm⟩ : ∃ m : Nat, m = n + z := ⟨_, rfl⟩
  have hbi : (b.length : Int) ≤ (c : Int) := by omega
  have hni : ¬ (m : Int) < (b.length : Int) := by omega
  have hwr : IntKind.i64.wrap ((n : Int) + (z : Int)) = m := by rw [← Int.natCast_add, ← hmm]; exact wrap_nat (by omega)
  obtain ⟨W, hW, hbW, hlt, hsh⟩ := boxed_shape w L S P B O 62
  have HW := hid hW
  have hIW : Ints .u8 W a b := hI.below hbW
  have HM := hid hmm
  have HN := hid hn
  have HB := hid hB
  clear hI hW hmm hn hB
  go_enter Try.func50, Try.ntmps50
  go_upto_region 1 with fail
  refine wp_tail 12 (by kernel_rfl) (by kernel_rfl) ?_
  simp only [List.take_succ_cons, List.take_zero, List.drop_succ_cons, List.drop_zero]
  repeat still_step
  refine wpStill_nil ?_
  rw [HW.out]
  go_wp2_with fail
  refine (new_any b _ _ _ _ W (by have := HN.out; omega) ho hIW).mono ?_
  rintro e w1 ⟨g, rfl, hcur, hb1, hg1, hg2⟩
  have hB1 := below_more hbW hb1
  rcases Nat.lt_or_ge b.length n with h | h
  · go_wp2_with fail
    refine (hcur.bytes_short (n := (n : Int)) (by omega)).mono ?_
    rintro e w2 ⟨k, rfl, hG, hcur2⟩
    have hB2 := below_by hB1 hG.by_ (by omega)
    rcases Nat.eq_zero_or_pos z with hz | hz
    · subst hz
      go_wp2_with fail
      refine hcur2.err.mono ?_
      rintro e w6 ⟨rfl, rfl⟩
      go_wp2
      refine bodyPost_ret (v := .tuple #[.slice (some ⟨k, 0, none⟩) 0 0, .int .i64 B]) (by simp [results, Try.results50, go_sem]) rfl ?_
      exact ⟨_, rfl, hB2⟩
    · have hz0 : (0 : Int) < (z : Int) := by omega
      go_wp2_with fail
      refine ((hcur2.below (below_alloc _ _)).row_late HB.out _).mono ?_
      rintro e w3 ⟨rfl, rfl⟩
      go_wp2_with fail
      refine (hcur2.below (below_alloc _ _)).err.mono ?_
      rintro e w6 ⟨rfl, rfl⟩
      go_wp2
      refine bodyPost_ret (v := .tuple #[.slice (some ⟨k, 0, none⟩) 0 0, .int .i64 B]) (by simp [results, Try.results50, go_sem]) rfl ?_
      exact ⟨_, rfl, below_more hB2 (below_alloc _ _)⟩
  · have hz : 1 ≤ z := by have := HN.out; omega
    have hz0 : (0 : Int) < (z : Int) := by omega
    have hgw := getW_zeros hz hz64 (l := b.drop n)
    rw [if_pos (by rw [List.length_drop]; have := HN.out; omega)] at hgw
    have HG := hid hgw
    have hl : (b.take n).length = n := by rw [List.length_take]; omega
    obtain ⟨out, hout⟩ : ∃ out, out = b.take n := ⟨_, rfl⟩
    rw [← hout] at hl
    have HO := hid hout
    have HL := hid hl
    clear hgw hout hl
    go_wp2_with fail
    refine (hcur.bytes_ok (n := n) h).mono ?_
    rintro e w2 hpost
    rw [← HO.out] at hpost
    obtain ⟨k, rfl, hG, hcur2⟩ := hpost
    have hB2 := below_by hB1 hG.by_ (by omega)
    go_wp2_with fail
    refine ((hcur2.below (below_alloc _ _)).row_short [-(z : Int)] _ _ (by simp) (ints_one _ _ _ _) HG.out).mono ?_
    rintro e w3 ⟨rfl, hcur3, hb3⟩
    have hB3 := below_by (below_more hB2 (below_alloc _ _)) hb3 (by omega)
    go_wp2_with fail
    refine hcur3.err.mono ?_
    rintro e w6 ⟨rfl, rfl⟩
    go_wp2
    refine bodyPost_ret (v := .tuple #[.slice (some ⟨k, 0, none⟩) out.length out.length, .int .i64 B]) (by simp [results, Try.results50, go_sem]) rfl ?_
    exact ⟨_, rfl, hB3⟩
end Go.Proofs.Ytaddhahghglabaa
namespace Go.Proofs.Ytaddhahghglabaa
open Go.RowKit
set_option maxRecDepth 100000

theorem own_at (W : World) (e : TypeId) (k : IntKind) {g : Nat} (h : W.heap.size = g) : (W.alloc (.cells #[] e)).ownsRow 0 e 1 (.slice (some ⟨g, 0, none⟩) 0 0) (([] : List Int).map (Value.int k)).length (([] : List Int).map (Value.int k)) := by
  subst h; exact own_empty W e

theorem Grew.first_at {e : TypeId} {W w' : World} {v' : Value} {xs : List Value} {g : Nat} (hs : W.heap.size = g) (h : Grew e (W.alloc (.cells #[] e)) w' (.slice (some ⟨g, 0, none⟩) 0 0) v' xs) : Fresh e W w' v' xs := by
  subst hs; exact h.first

/-- a slice in new memory lies behind, or is nil -/
theorem fresh_far {e : TypeId} {W w' : World} {a : Option Addr} {m c : Nat} {xs : List Value} {B : Nat} (h : Fresh e W w' (.slice a m c) xs) (hB : B ≤ W.heap.size) : a = none ∨ ∃ q, a = some ⟨q, 0, none⟩ ∧ B ≤ q := by
  rcases h.own.2 with ⟨he, _⟩ | ⟨g, cap, cur, he, _⟩
  · simp at he; exact .inl he.1
  · simp at he
    obtain ⟨rfl, rfl, rfl⟩ := he
    exact .inr ⟨g, rfl, Nat.le_trans hB (h.new g rfl)⟩
theorem fresh_shape {e : TypeId} {W w' : World} {a : Option Addr} {m c : Nat} {xs : List Value} (h : Fresh e W w' (.slice a m c) xs) (hc : 0 < c) : ∃ b off, a = some ⟨b, off, none⟩ := by
  rcases h.own.2 with ⟨he, _⟩ | ⟨g, cap, cur, he, _⟩
  · simp at he; omega
  · simp at he; exact ⟨g, 0, he.1⟩
/-- a store beside it -/
theorem Ints.set {k : IntKind} {w : World} {a : Option Addr} {l : List Int} (h : Ints k w a l) {b : Nat} (hb : a = none ∨ ∃ q, a = some ⟨q, 0, none⟩ ∧ b ≠ q) (i : Nat) (u : Value) : Ints k (w.setCell ⟨b, i, none⟩ u) a l := by
  rcases hb with rfl | ⟨q, rfl, hq⟩
  · intro j hj
    obtain ⟨_, _, he, _⟩ := h j hj
    simp at he
  · exact h.by (by_setCell w b i u) (by simpa using hq)

/-- bytes that came in, or lie in new memory, as the slice a, l.length, c -/
structure Holds (w : World) (a : Option Addr) (c : Nat) (l : List Int) : Prop where
  cap : l.length ≤ c
  max : c ≤ 9223372036854775807
  ints : Ints .u8 w a l
  oct : Octets l
  shape : 0 < c → ∃ b off, a = some ⟨b, off, none⟩

/-- the same, and in new memory -/
structure Newly (w w' : World) (a : Option Addr) (c : Nat) (l : List Int) : Prop where
  holds : Holds w' a c l
  far : a = none ∨ ∃ q, a = some ⟨q, 0, none⟩ ∧ w.heap.size ≤ q

theorem Holds.below {w w' : World} {a : Option Addr} {c : Nat} {l : List Int} (h : Holds w a c l) (hb : Below w.heap.size w w') : Holds w' a c l := ⟨h.cap, h.max, h.ints.below hb, h.oct, h.shape⟩

/-- the document's cursor, as a value -/
def refV (a : Option Addr) (m c : Nat) (r s o f : Int) : Value := .agg #[.slice a m c, .int .i64 r, .int .i64 s, .int .i64 o, .int .i64 f]

theorem below_three (w : World) (o o' o2 : Obj) : Below w.heap.size w (((w.alloc o).alloc o').alloc o2) := (((Below.refl _ _).alloc (Nat.le_refl _) _).alloc (by simp) _).alloc (by simp; omega) _
/-- of what was there every cell and every mark reads as it did -/
theorem old_cells {W w1 : World} (hb : Below W.heap.size W w1) : (∀ b o, b < W.heap.size → w1.cell? ⟨b, o, none⟩ = W.cell? ⟨b, o, none⟩) ∧ (∀ b o, b < W.heap.size → w1.frozen? ⟨b, o, none⟩ = W.frozen? ⟨b, o, none⟩) :=
  ⟨fun b o h => hb.cell (p := ⟨b, o, none⟩) h, fun b o h => hb.frozen (p := ⟨b, o, none⟩) h⟩
theorem below_two (w : World) (o o' : Obj) : Below w.heap.size w ((w.alloc o).alloc o') := ((Below.refl _ _).alloc (Nat.le_refl _) _).alloc (by simp) _

end Go.Proofs.Ytaddhahghglabaa
namespace Go.Proofs.Ytaddhahghglabaa
open Go.RowKit
set_option maxRecDepth 100000

/-- the first thing of bytes: its type, its body, how many bytes it has; or the error -/
def oneL (L S : Nat) (P : Bool) (B O : Int) (b : List Int) : Except Int (Int × List Int × Nat) :=
  if b.length < 4 then .error B
  else if lenOk L S P (numL ((b.drop 2).take 2)).toNat = false then .error B
  else if b.length < (numL ((b.drop 2).take 2)).toNat + zer S P (numL ((b.drop 2).take 2)).toNat then .error B
  else if zeros ((b.drop (numL ((b.drop 2).take 2)).toNat).take (zer S P (numL ((b.drop 2).take 2)).toNat)) = false then .error O
  else .ok (numL (b.take 2), (b.drop 4).take ((numL ((b.drop 2).take 2)).toNat - 4), (numL ((b.drop 2).take 2)).toNat + zer S P (numL ((b.drop 2).take 2)).toNat)

/-- what One answers -/
def OnePost (w : World) (r : Except Int (Int × List Int × Nat)) (e : Ending) (w' : World) : Prop :=
  match r with
  | .error q => e = .returned (.tuple #[.agg #[.int .i64 0, .slice none 0 0], .int .i64 0, .int .i64 q]) ∧ Below w.heap.size w w'
  | .ok (t, x, n) => ∃ a c, e = .returned (.tuple #[.agg #[.int .i64 t, .slice a x.length c], .int .i64 n, .int .i64 0]) ∧ x.length ≤ c ∧ c ≤ 9223372036854775807 ∧ Ints .u8 w' a x ∧ (a = none ∨ ∃ k, a = some ⟨k, 0, none⟩ ∧ w.heap.size ≤ k) ∧ Below w.heap.size w w'

theorem below_drew1 (w : World) : Below w.heap.size w w.drew := (Below.refl _ _).drew
/-- two cells of a block that may be written -/
structure Two (w : World) (b : Nat) (v0 v1 : Value) : Prop where
  c0 : w.cell? ⟨b, 0, none⟩ = some v0
  c1 : w.cell? ⟨b, 1, none⟩ = some v1
  f0 : w.frozen? ⟨b, 0, none⟩ = false
  f1 : w.frozen? ⟨b, 1, none⟩ = false
theorem frozen_keep {w w' : World} {p : Addr} {x : Value} (hc : w.cell? p = some x) (hb : Below w.heap.size w w') : w'.frozen? p = w.frozen? p := hb.frozen (World.block_lt_of_cell? w _ hc)
theorem Two.below {w w' : World} {b : Nat} {v0 v1 : Value} (h : Two w b v0 v1) (hb : Below w.heap.size w w') : Two w' b v0 v1 :=
  ⟨cell_keep h.c0 hb, cell_keep h.c1 hb, (frozen_keep h.c0 hb).trans h.f0, (frozen_keep h.c1 hb).trans h.f1⟩
theorem Two.of_block {w : World} {b : Nat} {v0 v1 : Value} {t : TypeId} (h : w.heap[b]? = some (.cells #[v0, v1] t (0, 0))) : Two w b v0 v1 := ⟨cell_of_cells h rfl, cell_of_cells h rfl, free_of_cells h 0, free_of_cells h 1⟩
theorem ShAt.of_block {w : World} {b : Nat} {L S : Int} {P : Bool} {B O : Int} {t : TypeId} (h : w.heap[b]? = some (.cells #[.int .i64 L, .int .i64 S, .bool P, .int .i64 B, .int .i64 O] t (0, 0))) : ShAt w b L S P B O :=
  ⟨cell_of_cells h rfl, cell_of_cells h rfl, cell_of_cells h rfl, cell_of_cells h rfl, cell_of_cells h rfl⟩

/-- a shape that has been boxed, and behind it a thing that is to be told -/
theorem boxed_thing (w : World) (L S : Int) (P : Bool) (B O : Int) (t u : TypeId) :
    ∃ W, (w.alloc (.cells #[.int .i64 L, .int .i64 S, .bool P, .int .i64 B, .int .i64 O] t)).alloc (.cells #[.int .i64 0, .slice none 0 0] u) = W ∧ Below w.heap.size w W ∧ W.heap.size = w.heap.size + 2 ∧ ShAt W w.heap.size L S P B O ∧ Two W (w.heap.size + 1) (.int .i64 0) (.slice none 0 0) := by
  have hs : (w.alloc (.cells #[.int .i64 L, .int .i64 S, .bool P, .int .i64 B, .int .i64 O] t)).heap.size = w.heap.size + 1 := by simp
  refine ⟨_, rfl, ((Below.refl _ _).alloc (Nat.le_refl _) _).alloc (by simp) _, by simp, (ShAt.of_block (t := t) ?_).below (below_alloc _ _), Two.of_block (t := u) ?_⟩
  · exact _root_.Go.heap_alloc_new w _
  · rw [← hs]; exact _root_.Go.heap_alloc_new _ _

theorem one_may_not (w : World) (L S : Int) (P : Bool) (B O : Int) (h : ¬ MayS L S B O) (v : Value) :
    Calls Try.prog 30 #[.agg #[.int .i64 L, .int .i64 S, .bool P, .int .i64 B, .int .i64 O], v] w (OnePost w (.error 10001)) := by
  obtain ⟨W, hW, hbW, hsz, hsh, htw⟩ := boxed_thing w L S P B O 62 58
  have HW := hid hW
  clear hW
  go_enter Try.func30, Try.ntmps30
  go_wp2_with fail
  rw [HW.out]
  refine (mayBe_no _ _ _ _ _ _ h).mono ?_
  rintro e w1 ⟨rfl, hb1⟩
  obtain ⟨c0, c1, f0, f1⟩ := htw.below hb1
  have hB := below_more hbW hb1
  go_wp2
  refine bodyPost_ret (v := .tuple #[.agg #[.int .i64 0, .slice none 0 0], .int .i64 0, .int .i64 10001]) (by simp [results, Try.results30, go_sem, *]) rfl ⟨rfl, ?_⟩
  repeat refine Below.setCell ?_ (by simp) _
  exact hB

theorem one_head (w : World) (L S : Nat) (P : Bool) (B O : Int) (h : MayS L S B O) (a : Option Addr) (n c : Nat) (q : Int) (hq : q ≠ 0)
    (hR : ∀ w1, Below w.heap.size w w1 → Calls Try.prog 48 #[.agg #[.int .i64 L, .int .i64 S, .bool P, .int .i64 B, .int .i64 O], .slice a n c] w1 fun e w' => ∃ x y, e = .returned (.tuple #[.int .i64 x, .int .i64 y, .int .i64 q]) ∧ Below w1.heap.size w1 w') :
    Calls Try.prog 30 #[.agg #[.int .i64 L, .int .i64 S, .bool P, .int .i64 B, .int .i64 O], .slice a n c] w (OnePost w (.error q)) := by
  obtain ⟨W, hW, hbW, hsz, hsh, htw⟩ := boxed_thing w L S P B O 62 58
  have HW := hid hW
  have hq0 : (q != 0) = true := by simpa using hq
  clear hW hq
  go_enter Try.func30, Try.ntmps30
  go_wp2_with fail
  rw [HW.out]
  refine (mayBe_yes _ _ _ _ _ _ h).mono ?_
  rintro e w1 ⟨rfl, hb1⟩
  have hsh1 := hsh.below hb1
  obtain ⟨d0, d1, d2, d3, d4⟩ := hsh1
  have htw1 := htw.below hb1
  have hB := below_more hbW hb1
  clear hsh htw
  go_wp2_with fail
  refine (hR _ hB).mono ?_
  rintro e w2 ⟨x, y, rfl, hb2⟩
  obtain ⟨c0, c1, f0, f1⟩ := htw1.below hb2
  have hB2 := below_more hB hb2
  go_wp2
  refine bodyPost_ret (v := .tuple #[.agg #[.int .i64 0, .slice none 0 0], .int .i64 0, .int .i64 q]) (by simp [results, Try.results30, go_sem, *]) rfl ⟨rfl, ?_⟩
  repeat refine Below.setCell ?_ (by simp) _
  exact hB2

/-- b[4:], whatever it is -/
theorem drop4 {k : IntKind} {w : World} {M off c : Nat} {b : List Int} (h : Ints k w (some ⟨M, off, none⟩) b) (hb : b.length ≤ c) : ∃ a', (if c = 4 then some (⟨M, off, none⟩ : Addr) else some ⟨M, off + 4, none⟩) = a' ∧ Ints k w a' (b.drop 4) := ⟨_, rfl, h.drop hb⟩

set_option maxRecDepth 100000 in
set_option maxHeartbeats 1000000 in
theorem one_body_bad (w : World) (L S : Nat) (P : Bool) (B O : Int) (h : MayS L S B O) (M off m c : Nat) (hm : 4 ≤ m) (hmc : m ≤ c) (hc : c ≤ 9223372036854775807) (t : Int) (n z : Nat) (hz : zer S P n = z) (hz64 : z ≤ 64) (hn4 : 4 ≤ n) (hn : n ≤ 1000000)
    (q : Int) (hq : q ≠ 0)
    (hH : ∀ w1, Below w.heap.size w w1 → Calls Try.prog 48 #[.agg #[.int .i64 L, .int .i64 S, .bool P, .int .i64 B, .int .i64 O], .slice (some ⟨M, off, none⟩) m c] w1 fun e w' => e = .returned (.tuple #[.int .i64 t, .int .i64 n, .int .i64 0]) ∧ Below w1.heap.size w1 w')
    (hR : ∀ w1, Below w.heap.size w w1 → Calls Try.prog 50 #[.agg #[.int .i64 L, .int .i64 S, .bool P, .int .i64 B, .int .i64 O], .slice (if c = 4 then some ⟨M, off, none⟩ else some ⟨M, off + 4, none⟩) (m - 4) (c - 4), .int .i64 ((n - 4 : Nat) : Int), .int .i64 z] w1 fun e w' => ∃ v, e = .returned (.tuple #[v, .int .i64 q]) ∧ Below w1.heap.size w1 w') :
    Calls Try.prog 30 #[.agg #[.int .i64 L, .int .i64 S, .bool P, .int .i64 B, .int .i64 O], .slice (some ⟨M, off, none⟩) m c] w (OnePost w (.error q)) := by
  obtain ⟨W, hW, hbW, hsz, hsh, htw⟩ := boxed_thing w L S P B O 62 58
  have HW := hid hW
  have hq0 : (q != 0) = true := by simpa using hq
  have hmi : (4 : Int) ≤ (m : Int) := by omega
  have hci : (4 : Int) ≤ (c : Int) := by omega
  have hmci : (m : Int) ≤ (c : Int) := by omega
  have hw1 : IntKind.i64.wrap ((n : Int) - 4) = ((n - 4 : Nat) : Int) := by rw [show (n : Int) - 4 = ((n - 4 : Nat) : Int) by omega]; exact wrap_nat (by omega)
  have hw2 : IntKind.i64.wrap ((n : Int) + (z : Int) - (n : Int)) = (z : Int) := by rw [show (n : Int) + (z : Int) - (n : Int) = (z : Int) by omega]; exact wrap_nat (by omega)
  have hm4 : ((m : Int) - 4).toNat = m - 4 := by omega
  have hc4 : ((c : Int) - 4).toNat = c - 4 := by omega
  have HZ := fun w => zeros_any w L S n P B O (by obtain ⟨_, _, h3, _⟩ := h; omega) (by obtain ⟨_, _, _, h4, _⟩ := h; omega)
  rw [hz] at HZ
  clear hW hz
  rcases Nat.eq_or_lt_of_le (show 4 ≤ c by omega) with hcc | hcc
  · obtain rfl : c = 4 := hcc.symm
    obtain rfl : m = 4 := by omega
    clear hcc
    rw [if_pos rfl] at hR
    go_enter Try.func30, Try.ntmps30
    go_wp2_with fail
    rw [HW.out]
    refine (mayBe_yes _ _ _ _ _ _ h).mono ?_
    rintro e w1 ⟨rfl, hb1⟩
    have hsh1 := hsh.below hb1
    obtain ⟨d0, d1, d2, d3, d4⟩ := hsh.below hb1
    have htw1 := htw.below hb1
    have hB := below_more hbW hb1
    have hs1 : w.heap.size + 2 ≤ w1.heap.size := by have := hb1.size; omega
    clear hsh htw
    go_wp2_with fail
    refine (hH _ hB).mono ?_
    rintro e w2 ⟨rfl, hb2⟩
    have hsh2 := hsh1.below hb2
    clear d0 d1 d2 d3 d4
    obtain ⟨d0, d1, d2, d3, d4⟩ := hsh1.below hb2
    have htw2 := htw1.below hb2
    have hB2 := below_more hB hb2
    have hs2 : w.heap.size + 2 ≤ w2.heap.size := by have := hb2.size; omega
    clear hsh1 htw1
    go_wp2_with fail
    refine (HZ _).mono ?_
    rintro e w3 ⟨rfl, hb3⟩
    have hsh3 := hsh2.below hb3
    clear d0 d1 d2 d3 d4
    obtain ⟨d0, d1, d2, d3, d4⟩ := hsh2.below hb3
    have htw3 := htw2.below hb3
    have hB3 := below_more hB2 hb3
    have hs3 : w.heap.size + 2 ≤ w3.heap.size := by have := hb3.size; omega
    have HRB := hid (hR _ (hB3.trans ((Below.refl _ _).drew)))
    have HH3 := hid (hsh3.below (below_drew1 w3))
    have HT3 := hid (htw3.below (below_drew1 w3))
    clear hsh2 htw2 hsh3 htw3
    go_upto_region 7 with fail
    go_region_held3 (fun w' => w'.cell? ⟨w.heap.size, 0, none⟩ = some (.int .i64 L) ∧ w'.cell? ⟨w.heap.size, 1, none⟩ = some (.int .i64 S) ∧ w'.cell? ⟨w.heap.size, 2, none⟩ = some (.bool P) ∧ w'.cell? ⟨w.heap.size, 3, none⟩ = some (.int .i64 B) ∧ w'.cell? ⟨w.heap.size, 4, none⟩ = some (.int .i64 O)) (go_keep) ((go_at_call 50; refine HRB.out.mono ?_; rintro e w4 ⟨v, rfl, hb4⟩; obtain ⟨e0, e1, e2, e3, e4⟩ := HH3.out.below hb4; obtain ⟨x0, x1, y0, y1⟩ := HT3.out.below hb4))
    have hB4 := below_more (hB3.trans ((Below.refl _ _).drew)) hb4
    go_wp2
    refine bodyPost_ret (v := .tuple #[.agg #[.int .i64 0, .slice none 0 0], .int .i64 0, .int .i64 q]) (by simp [results, Try.results30, go_sem, *]) rfl ⟨rfl, ?_⟩
    repeat refine Below.setCell ?_ (by simp) _
    exact hB4
  · have hc0 : ¬ c = 4 := by omega
    rw [if_neg hc0] at hR
    go_enter Try.func30, Try.ntmps30
    go_wp2_with fail
    rw [HW.out]
    refine (mayBe_yes _ _ _ _ _ _ h).mono ?_
    rintro e w1 ⟨rfl, hb1⟩
    have hsh1 := hsh.below hb1
    obtain ⟨d0, d1, d2, d3, d4⟩ := hsh.below hb1
    have htw1 := htw.below hb1
    have hB := below_more hbW hb1
    have hs1 : w.heap.size + 2 ≤ w1.heap.size := by have := hb1.size; omega
    clear hsh htw
    go_wp2_with fail
    refine (hH _ hB).mono ?_
    rintro e w2 ⟨rfl, hb2⟩
    have hsh2 := hsh1.below hb2
    clear d0 d1 d2 d3 d4
    obtain ⟨d0, d1, d2, d3, d4⟩ := hsh1.below hb2
    have htw2 := htw1.below hb2
    have hB2 := below_more hB hb2
    have hs2 : w.heap.size + 2 ≤ w2.heap.size := by have := hb2.size; omega
    clear hsh1 htw1
    go_wp2_with fail
    refine (HZ _).mono ?_
    rintro e w3 ⟨rfl, hb3⟩
    have hsh3 := hsh2.below hb3
    clear d0 d1 d2 d3 d4
    obtain ⟨d0, d1, d2, d3, d4⟩ := hsh2.below hb3
    have htw3 := htw2.below hb3
    have hB3 := below_more hB2 hb3
    have hs3 : w.heap.size + 2 ≤ w3.heap.size := by have := hb3.size; omega
    have HRB := hid (hR _ (hB3.trans ((Below.refl _ _).drew)))
    have HH3 := hid (hsh3.below (below_drew1 w3))
    have HT3 := hid (htw3.below (below_drew1 w3))
    clear hsh2 htw2 hsh3 htw3
    go_upto_region 7 with fail
    go_region_held3 (fun w' => w'.cell? ⟨w.heap.size, 0, none⟩ = some (.int .i64 L) ∧ w'.cell? ⟨w.heap.size, 1, none⟩ = some (.int .i64 S) ∧ w'.cell? ⟨w.heap.size, 2, none⟩ = some (.bool P) ∧ w'.cell? ⟨w.heap.size, 3, none⟩ = some (.int .i64 B) ∧ w'.cell? ⟨w.heap.size, 4, none⟩ = some (.int .i64 O)) (go_keep) ((go_at_call 50; refine HRB.out.mono ?_; rintro e w4 ⟨v, rfl, hb4⟩; obtain ⟨e0, e1, e2, e3, e4⟩ := HH3.out.below hb4; obtain ⟨x0, x1, y0, y1⟩ := HT3.out.below hb4))
    have hB4 := below_more (hB3.trans ((Below.refl _ _).drew)) hb4
    go_wp2
    refine bodyPost_ret (v := .tuple #[.agg #[.int .i64 0, .slice none 0 0], .int .i64 0, .int .i64 q]) (by simp [results, Try.results30, go_sem, *]) rfl ⟨rfl, ?_⟩
    repeat refine Below.setCell ?_ (by simp) _
    exact hB4

set_option maxRecDepth 100000 in
set_option maxHeartbeats 1000000 in
theorem one_body_ok (w : World) (L S : Nat) (P : Bool) (B O : Int) (h : MayS L S B O) (M off m c : Nat) (hm : 4 ≤ m) (hmc : m ≤ c) (hc : c ≤ 9223372036854775807) (t : Int) (n z : Nat) (hz : zer S P n = z) (hz64 : z ≤ 64) (hn4 : 4 ≤ n) (hn : n ≤ 1000000)
    (x : List Int) (hxl : x.length ≤ 1000000)
    (hH : ∀ w1, Below w.heap.size w w1 → Calls Try.prog 48 #[.agg #[.int .i64 L, .int .i64 S, .bool P, .int .i64 B, .int .i64 O], .slice (some ⟨M, off, none⟩) m c] w1 fun e w' => e = .returned (.tuple #[.int .i64 t, .int .i64 n, .int .i64 0]) ∧ Below w1.heap.size w1 w')
    (hR : ∀ w1, Below w.heap.size w w1 → Calls Try.prog 50 #[.agg #[.int .i64 L, .int .i64 S, .bool P, .int .i64 B, .int .i64 O], .slice (if c = 4 then some ⟨M, off, none⟩ else some ⟨M, off + 4, none⟩) (m - 4) (c - 4), .int .i64 ((n - 4 : Nat) : Int), .int .i64 z] w1 (BodyPost w1 x)) :
    Calls Try.prog 30 #[.agg #[.int .i64 L, .int .i64 S, .bool P, .int .i64 B, .int .i64 O], .slice (some ⟨M, off, none⟩) m c] w (OnePost w (.ok (t, x, n + z))) := by
  obtain ⟨W, hW, hbW, hsz, hsh, htw⟩ := boxed_thing w L S P B O 62 58
  have HW := hid hW
  have hmi : (4 : Int) ≤ (m : Int) := by omega
  have hci : (4 : Int) ≤ (c : Int) := by omega
  have hmci : (m : Int) ≤ (c : Int) := by omega
  have hw1 : IntKind.i64.wrap ((n : Int) - 4) = ((n - 4 : Nat) : Int) := by rw [show (n : Int) - 4 = ((n - 4 : Nat) : Int) by omega]; exact wrap_nat (by omega)
  have hw2 : IntKind.i64.wrap ((n : Int) + (z : Int) - (n : Int)) = (z : Int) := by rw [show (n : Int) + (z : Int) - (n : Int) = (z : Int) by omega]; exact wrap_nat (by omega)
  have hm4 : ((m : Int) - 4).toNat = m - 4 := by omega
  have hc4 : ((c : Int) - 4).toNat = c - 4 := by omega
  have HZ := fun w => zeros_any w L S n P B O (by obtain ⟨_, _, h3, _⟩ := h; omega) (by obtain ⟨_, _, _, h4, _⟩ := h; omega)
  rw [hz] at HZ
  clear hW hz
  rcases Nat.eq_or_lt_of_le (show 4 ≤ c by omega) with hcc | hcc
  · obtain rfl : c = 4 := hcc.symm
    obtain rfl : m = 4 := by omega
    clear hcc
    rw [if_pos rfl] at hR
    go_enter Try.func30, Try.ntmps30
    go_wp2_with fail
    rw [HW.out]
    refine (mayBe_yes _ _ _ _ _ _ h).mono ?_
    rintro e w1 ⟨rfl, hb1⟩
    have hsh1 := hsh.below hb1
    obtain ⟨d0, d1, d2, d3, d4⟩ := hsh.below hb1
    have htw1 := htw.below hb1
    have hB := below_more hbW hb1
    have hs1 : w.heap.size + 2 ≤ w1.heap.size := by have := hb1.size; omega
    clear hsh htw
    go_wp2_with fail
    refine (hH _ hB).mono ?_
    rintro e w2 ⟨rfl, hb2⟩
    have hsh2 := hsh1.below hb2
    clear d0 d1 d2 d3 d4
    obtain ⟨d0, d1, d2, d3, d4⟩ := hsh1.below hb2
    have htw2 := htw1.below hb2
    have hB2 := below_more hB hb2
    have hs2 : w.heap.size + 2 ≤ w2.heap.size := by have := hb2.size; omega
    clear hsh1 htw1
    go_wp2_with fail
    refine (HZ _).mono ?_
    rintro e w3 ⟨rfl, hb3⟩
    have hsh3 := hsh2.below hb3
    clear d0 d1 d2 d3 d4
    obtain ⟨d0, d1, d2, d3, d4⟩ := hsh2.below hb3
    have htw3 := htw2.below hb3
    have hB3 := below_more hB2 hb3
    have hs3 : w.heap.size + 2 ≤ w3.heap.size := by have := hb3.size; omega
    have HRB := hid (hR _ (hB3.trans ((Below.refl _ _).drew)))
    have HH3 := hid (hsh3.below (below_drew1 w3))
    have HT3 := hid (htw3.below (below_drew1 w3))
    clear hsh2 htw2 hsh3 htw3
    go_upto_region 7 with fail
    go_region_held3 (fun w' => w'.cell? ⟨w.heap.size, 0, none⟩ = some (.int .i64 L) ∧ w'.cell? ⟨w.heap.size, 1, none⟩ = some (.int .i64 S) ∧ w'.cell? ⟨w.heap.size, 2, none⟩ = some (.bool P) ∧ w'.cell? ⟨w.heap.size, 3, none⟩ = some (.int .i64 B) ∧ w'.cell? ⟨w.heap.size, 4, none⟩ = some (.int .i64 O)) (go_keep) ((go_at_call 50; refine HRB.out.mono ?_; rintro e w4 ⟨k, rfl, hk, hI4, hb4⟩; obtain ⟨e0, e1, e2, e3, e4⟩ := HH3.out.below hb4; obtain ⟨x0, x1, y0, y1⟩ := HT3.out.below hb4; have hk2 : w.heap.size + 2 ≤ k := by simp at hk; omega))
    have hB4 := below_more (hB3.trans ((Below.refl _ _).drew)) hb4
    go_wp2
    refine bodyPost_ret (v := .tuple #[.agg #[.int .i64 t, .slice (some ⟨k, 0, none⟩) x.length x.length], .int .i64 (n + z), .int .i64 0]) (by simp [results, Try.results30, go_sem, *]) rfl ⟨some ⟨k, 0, none⟩, x.length, by simp, Nat.le_refl _, by omega, ?_, .inr ⟨k, rfl, by omega⟩, ?_⟩
    · repeat refine Ints.set ?_ (.inr ⟨k, rfl, by simp; omega⟩) _ _
      exact hI4
    · repeat refine Below.setCell ?_ (by simp) _
      exact hB4
  · have hc0 : ¬ c = 4 := by omega
    rw [if_neg hc0] at hR
    go_enter Try.func30, Try.ntmps30
    go_wp2_with fail
    rw [HW.out]
    refine (mayBe_yes _ _ _ _ _ _ h).mono ?_
    rintro e w1 ⟨rfl, hb1⟩
    have hsh1 := hsh.below hb1
    obtain ⟨d0, d1, d2, d3, d4⟩ := hsh.below hb1
    have htw1 := htw.below hb1
    have hB := below_more hbW hb1
    have hs1 : w.heap.size + 2 ≤ w1.heap.size := by have := hb1.size; omega
    clear hsh htw
    go_wp2_with fail
    refine (hH _ hB).mono ?_
    rintro e w2 ⟨rfl, hb2⟩
    have hsh2 := hsh1.below hb2
    clear d0 d1 d2 d3 d4
    obtain ⟨d0, d1, d2, d3, d4⟩ := hsh1.below hb2
    have htw2 := htw1.below hb2
    have hB2 := below_more hB hb2
    have hs2 : w.heap.size + 2 ≤ w2.heap.size := by have := hb2.size; omega
    clear hsh1 htw1
    go_wp2_with fail
    refine (HZ _).mono ?_
    rintro e w3 ⟨rfl, hb3⟩
    have hsh3 := hsh2.below hb3
    clear d0 d1 d2 d3 d4
    obtain ⟨d0, d1, d2, d3, d4⟩ := hsh2.below hb3
    have htw3 := htw2.below hb3
    have hB3 := below_more hB2 hb3
    have hs3 : w.heap.size + 2 ≤ w3.heap.size := by have := hb3.size; omega
    have HRB := hid (hR _ (hB3.trans ((Below.refl _ _).drew)))
    have HH3 := hid (hsh3.below (below_drew1 w3))
    have HT3 := hid (htw3.below (below_drew1 w3))
    clear hsh2 htw2 hsh3 htw3
    go_upto_region 7 with fail
    go_region_held3 (fun w' => w'.cell? ⟨w.heap.size, 0, none⟩ = some (.int .i64 L) ∧ w'.cell? ⟨w.heap.size, 1, none⟩ = some (.int .i64 S) ∧ w'.cell? ⟨w.heap.size, 2, none⟩ = some (.bool P) ∧ w'.cell? ⟨w.heap.size, 3, none⟩ = some (.int .i64 B) ∧ w'.cell? ⟨w.heap.size, 4, none⟩ = some (.int .i64 O)) (go_keep) ((go_at_call 50; refine HRB.out.mono ?_; rintro e w4 ⟨k, rfl, hk, hI4, hb4⟩; obtain ⟨e0, e1, e2, e3, e4⟩ := HH3.out.below hb4; obtain ⟨x0, x1, y0, y1⟩ := HT3.out.below hb4; have hk2 : w.heap.size + 2 ≤ k := by simp at hk; omega))
    have hB4 := below_more (hB3.trans ((Below.refl _ _).drew)) hb4
    go_wp2
    refine bodyPost_ret (v := .tuple #[.agg #[.int .i64 t, .slice (some ⟨k, 0, none⟩) x.length x.length], .int .i64 (n + z), .int .i64 0]) (by simp [results, Try.results30, go_sem, *]) rfl ⟨some ⟨k, 0, none⟩, x.length, by simp, Nat.le_refl _, by omega, ?_, .inr ⟨k, rfl, by omega⟩, ?_⟩
    · repeat refine Ints.set ?_ (.inr ⟨k, rfl, by simp; omega⟩) _ _
      exact hI4
    · repeat refine Below.setCell ?_ (by simp) _
      exact hB4
end Go.Proofs.Ytaddhahghglabaa
namespace Go.Proofs.Ytaddhahghglabaa
open Go.RowKit
set_option maxRecDepth 100000

theorem drop4_ints {k : IntKind} {w : World} {M off c : Nat} {b : List Int} (h : Ints k w (some ⟨M, off, none⟩) b) (hb : b.length ≤ c) : Ints k w (if c = 4 then some (⟨M, off, none⟩ : Addr) else some ⟨M, off + 4, none⟩) (b.drop 4) := h.drop hb

theorem head_bounds {b : List Int} (ho : Octets b) : ∃ n : Nat, numL ((b.drop 2).take 2) = n ∧ n ≤ 65535 := by
  have h := numL_snoc_bound ((ho.drop 2).take 2)
  have h2 : p256 ((b.drop 2).take 2).length ≤ p256 2 := p256_mono (by rw [List.length_take]; omega)
  have h3 : p256 2 = 65536 := by decide
  exact ⟨(numL ((b.drop 2).take 2)).toNat, by omega, by omega⟩

theorem one_any (w : World) (L S : Nat) (P : Bool) (B O : Int) (h : MayS L S B O) (b : List Int) (a : Option Addr) (c : Nat) (hH : Holds w a c b) :
    Calls Try.prog 30 #[.agg #[.int .i64 L, .int .i64 S, .bool P, .int .i64 B, .int .i64 O], .slice a b.length c] w (OnePost w (oneL L S P B O b)) := by
  obtain ⟨m1, m2, m3, m4, m5, m6⟩ := h
  have h := And.intro m1 (And.intro m2 (And.intro m3 (And.intro m4 (And.intro m5 m6))))
  change MayS L S B O at h
  unfold oneL
  split
  · rename_i h4
    exact one_head w L S P B O h a b.length c B m5 (fun w1 hb1 => readHead_short w1 L S P B O (by omega) (by omega) m5 b a c hH.cap (hH.ints.below hb1) hH.oct h4)
  · rename_i h4
    obtain ⟨n, hn, hn65⟩ := head_bounds hH.oct
    rw [hn, Int.toNat_natCast]
    obtain ⟨M, off, rfl⟩ := hH.shape (by have := hH.cap; omega)
    split
    · rename_i hlen
      exact one_head w L S P B O h _ b.length c B m5 (fun w1 hb1 => readHead_wrong w1 L S P B O (by omega) b _ c hH.cap hH.max (hH.ints.below hb1) hH.oct (by omega) n hn hlen)
    · rename_i hlen
      have hok : lenOk L S P n = true := by simpa using hlen
      have hLn : L ≤ n := by unfold lenOk at hok; simp at hok; exact hok.1
      obtain ⟨z, hz⟩ : ∃ z, z = zer S P n := ⟨_, rfl⟩
      have hz64 : z ≤ 64 := by have := zer_lt (S := S) (by omega) P n; omega
      rw [← hz]
      have hd := hH.ints.drop (j := 4) hH.cap
      have hdo := hH.oct.drop 4
      have hdl : (b.drop 4).length = b.length - 4 := List.length_drop
      have hcap := hH.cap
      have hmax := hH.max
      have hHead := fun w1 (hb1 : Below w.heap.size w w1) => readHead_ok w1 L S P B O (by omega) b (some ⟨M, off, none⟩) c hH.cap hH.max (hH.ints.below hb1) hH.oct (by omega) n hn hok
      split
      · rename_i hs
        refine one_body_bad w L S P B O h M off b.length c (by omega) hH.cap hH.max _ n z hz.symm hz64 (by omega) (by omega) B m5 hHead (fun w1 hb1 => ?_)
        have := readBody_short w1 L S P B O m5 (b.drop 4) _ (c - 4) (n - 4) z hz64 (by omega) (by omega) (hd.below hb1) hdo (by omega) (by omega)
        rwa [hdl] at this
      · rename_i hs
        split
        · rename_i hzz
          rcases Nat.eq_zero_or_pos z with h0 | h0
          · subst h0; simp [zeros] at hzz
          · refine one_body_bad w L S P B O h M off b.length c (by omega) hH.cap hH.max _ n z hz.symm hz64 (by omega) (by omega) O m6 hHead (fun w1 hb1 => ?_)
            have := readBody_zeros w1 L S P B O (b.drop 4) _ (c - 4) (n - 4) z h0 hz64 (by omega) (by omega) (hd.below hb1) hdo (by omega) (by omega) false (by rw [List.drop_drop, show 4 + (n - 4) = n by omega]; exact hzz)
            rw [hdl] at this
            exact this
        · rename_i hzz
          refine one_body_ok w L S P B O h M off b.length c (by omega) hH.cap hH.max _ n z hz.symm hz64 (by omega) (by omega) ((b.drop 4).take (n - 4)) (by rw [List.length_take]; omega) hHead (fun w1 hb1 => ?_)
          rcases Nat.eq_zero_or_pos z with h0 | h0
          · subst h0
            have := readBody_plain w1 L S P B O (b.drop 4) _ (c - 4) (n - 4) (by omega) (hd.below hb1) hdo (by omega) (by omega)
            rw [hdl] at this
            exact this
          · have := readBody_zeros w1 L S P B O (b.drop 4) _ (c - 4) (n - 4) z h0 hz64 (by omega) (by omega) (hd.below hb1) hdo (by omega) (by omega) true (by rw [List.drop_drop, show 4 + (n - 4) = n by omega]; simpa using hzz)
            rw [hdl] at this
            exact this
end Go.Proofs.Ytaddhahghglabaa
namespace Go.Proofs.Ytaddhahghglabaa
open Go.RowKit
set_option maxRecDepth 100000

/-- what comes behind some things -/
def after (pre : List (Int × List Int)) : Except Int (List (Int × List Int)) → Except Int (List (Int × List Int))
  | .error q => .error q
  | .ok r => .ok (pre ++ r)

theorem after_after (pre mid : List (Int × List Int)) (r : Except Int (List (Int × List Int))) : after pre (after mid r) = after (pre ++ mid) r := by
  cases r <;> simp [after]
theorem after_nil (r : Except Int (List (Int × List Int))) : after [] r = r := by cases r <;> rfl

/-- the things that bytes are, in no more than so many steps -/
def cutF (L S : Nat) (P : Bool) (B O : Int) : Nat → List Int → Except Int (List (Int × List Int))
  | 0, _ => .ok []
  | k + 1, b =>
    if b = [] then .ok []
    else match oneL L S P B O b with
      | .error q => .error q
      | .ok (t, x, n) => after [(t, x)] (cutF L S P B O k (b.drop n))
/-- the things that bytes are, or the first error -/
def cutL (L S : Nat) (P : Bool) (B O : Int) (b : List Int) : Except Int (List (Int × List Int)) := cutF L S P B O b.length b

section
variable {L S : Nat} {P : Bool} {B O : Int}
theorem oneL_ok (hL : 4 ≤ L) {b : List Int} {t : Int} {x : List Int} {n : Nat} (h : oneL L S P B O b = .ok (t, x, n)) :
    4 ≤ n ∧ n ≤ b.length ∧ x.length + 4 ≤ n := by
  unfold oneL at h
  obtain ⟨m, hm⟩ : ∃ m, m = (numL ((b.drop 2).take 2)).toNat := ⟨_, rfl⟩
  rw [← hm] at h
  split at h
  · cases h
  · split at h
    · cases h
    · rename_i hlen
      split at h
      · cases h
      · split at h
        · cases h
        · simp only [Except.ok.injEq, Prod.mk.injEq] at h
          obtain ⟨_, rfl, rfl⟩ := h
          have hok : lenOk L S P m = true := by simpa using hlen
          have hLn : L ≤ m := by unfold lenOk at hok; simp at hok; exact hok.1
          rw [List.length_take]
          omega

theorem cutF_enough (hL : 4 ≤ L) : ∀ (k : Nat) (b : List Int), b.length ≤ k → cutF L S P B O k b = cutF L S P B O b.length b := by
  intro k
  induction k using Nat.strongRecOn with
  | ind k ih =>
    intro b hb
    cases k with
    | zero =>
      have : b.length = 0 := by omega
      rw [this]
    | succ k =>
      cases b with
      | nil => rfl
      | cons x b =>
        show cutF L S P B O (k + 1) (x :: b) = cutF L S P B O (b.length + 1) (x :: b)
        have hk : b.length + 1 ≤ k + 1 := hb
        unfold cutF
        cases ho : oneL L S P B O (x :: b) with
        | error q => rfl
        | ok r =>
          obtain ⟨t, y, n⟩ := r
          have hn := oneL_ok hL ho
          have hd : ((x :: b).drop n).length ≤ b.length := by rw [List.length_drop]; simp only [List.length_cons]; omega
          simp only [reduceCtorEq, if_false]
          rw [ih k (by omega) _ (by omega), ih b.length (by omega) _ hd]

theorem cutL_nil : cutL L S P B O [] = .ok [] := rfl
theorem cutL_err {b : List Int} (hb : b ≠ []) {q : Int} (h : oneL L S P B O b = .error q) : cutL L S P B O b = .error q := by
  cases b with
  | nil => exact absurd rfl hb
  | cons x b =>
    show cutF L S P B O (b.length + 1) (x :: b) = _
    unfold cutF
    rw [h]
    simp
theorem cutL_ok (hL : 4 ≤ L) {b : List Int} (hb : b ≠ []) {t : Int} {x : List Int} {n : Nat} (h : oneL L S P B O b = .ok (t, x, n)) : cutL L S P B O b = after [(t, x)] (cutL L S P B O (b.drop n)) := by
  cases b with
  | nil => exact absurd rfl hb
  | cons y b =>
    have hn := oneL_ok hL h
    show cutF L S P B O (b.length + 1) (y :: b) = _
    unfold cutF
    rw [h]
    have hd : ((y :: b).drop n).length ≤ b.length := by rw [List.length_drop]; simp only [List.length_cons]; omega
    simp only [reduceCtorEq, if_false]
    rw [cutF_enough hL _ _ hd]
    rfl
end

/-- a thing as it comes: its type, its body, where that lies -/
structure Thing where
  t : Int
  x : List Int
  a : Option Addr
  c : Nat
def Thing.val (h : Thing) : Int × List Int := (h.t, h.x)
/-- as a value -/
def Thing.v (h : Thing) : Value := .agg #[.int .i64 h.t, .slice h.a h.x.length h.c]
/-- its body stands in memory that has been made since there were B blocks -/
structure Thing.ok (B : Nat) (h : Thing) (w : World) : Prop where
  cap : h.x.length ≤ h.c
  max : h.c ≤ 9223372036854775807
  ints : Ints .u8 w h.a h.x
  far : h.a = none ∨ ∃ k, h.a = some ⟨k, 0, none⟩ ∧ B ≤ k
theorem Thing.ok.below {B : Nat} {h : Thing} {w w' : World} (k : h.ok B w) (hb : Below w.heap.size w w') : h.ok B w' := ⟨k.cap, k.max, k.ints.below hb, k.far⟩

/-- memory that lies in blocks that have been kept -/
theorem Ints.kept {k : IntKind} {w w' : World} {a : Option Addr} {l : List Int} (h : Ints k w a l) (hb : ∀ p : Addr, a = some p → w'.heap[p.block]? = w.heap[p.block]?) : Ints k w' a l := by
  intro i hi
  obtain ⟨b, off, rfl, hc⟩ := h i hi
  exact ⟨b, off, rfl, (World.cell?_of_block (a := ⟨b, off + i, none⟩) (hb ⟨b, off, none⟩ rfl)).trans hc⟩
theorem Ints.lt {k : IntKind} {w : World} {a : Option Addr} {l : List Int} (h : Ints k w a l) (hl : l ≠ []) {q : Addr} (hq : a = some q) : q.block < w.heap.size := by
  obtain ⟨b, off, ha, hc⟩ := h 0 (by cases l; exact absurd rfl hl; simp)
  rw [hq] at ha
  cases ha
  exact World.block_lt_of_cell? w _ hc
theorem ShAt.kept {w w' : World} {b : Nat} {L S : Int} {P : Bool} {B O : Int} (h : ShAt w b L S P B O) (hb : w'.heap[b]? = w.heap[b]?) : ShAt w' b L S P B O :=
  ⟨(World.cell?_of_block (a := ⟨b, 0, none⟩) hb).trans h.c0, (World.cell?_of_block (a := ⟨b, 1, none⟩) hb).trans h.c1, (World.cell?_of_block (a := ⟨b, 2, none⟩) hb).trans h.c2, (World.cell?_of_block (a := ⟨b, 3, none⟩) hb).trans h.c3, (World.cell?_of_block (a := ⟨b, 4, none⟩) hb).trans h.c4⟩
end Go.Proofs.Ytaddhahghglabaa
namespace Go.Proofs.Ytaddhahghglabaa
open Go.RowKit
set_option maxRecDepth 100000
attribute [local go_sem] Oper.semAt_some

theorem Holds.drop {w : World} {M off c : Nat} {b : List Int} (h : Holds w (some ⟨M, off, none⟩) c b) {j : Nat} (hj : j < b.length) : Holds w (some ⟨M, off + j, none⟩) (c - j) (b.drop j) := by
  have h1 := h.cap
  have h2 := h.max
  have hI := h.ints.drop (j := j) h1
  rw [if_neg (by omega)] at hI
  exact ⟨by rw [List.length_drop]; omega, by omega, hI, h.oct.drop j, fun _ => ⟨M, off + j, rfl⟩⟩

/-- a thing that is to be told, in new memory -/
theorem new_thing (w : World) (u : TypeId) : Below w.heap.size w (w.alloc (.cells #[.int .i64 0, .slice none 0 0] u)).drew := ((Below.refl _ _).alloc (Nat.le_refl _) _).drew
theorem new_two (w : World) (u : TypeId) : Two (w.alloc (.cells #[.int .i64 0, .slice none 0 0] u)).drew w.heap.size (.int .i64 0) (.slice none 0 0) ∧ (w.alloc (.cells #[.int .i64 0, .slice none 0 0] u)).drew.heap.size = w.heap.size + 1 :=
  ⟨(Two.of_block (t := u) (_root_.Go.heap_alloc_new w _)).below (below_drew1 _), by simp⟩

/-- what the iterator reads: b's box, the shape's box, b's memory -/
def Reads (p s : Nat) (a : Option Addr) (b : List Int) (k : Nat) : Prop := k = p ∨ k = s ∨ (b ≠ [] ∧ ∃ q : Addr, a = some q ∧ k = q.block)

/-- the iterator's state between two rounds -/
structure Iter (L S : Nat) (P : Bool) (B O : Int) (b : List Int) (a : Option Addr) (c p s : Nat) (at_ : Nat) (pre : List Thing) (w : World) : Prop where
  le : at_ ≤ b.length
  few : pre.length ≤ at_
  cut : Hid (cutL L S P B O b = after (pre.map Thing.val) (cutL L S P B O (b.drop at_)))
  shape : ShAt w s L S P B O
  box : w.cell? ⟨p, 0, none⟩ = some (.slice a b.length c)
  holds : Holds w a c b
  hp : p < w.heap.size
  hs : s < w.heap.size

theorem Iter.below {L S : Nat} {P : Bool} {B O : Int} {b : List Int} {a : Option Addr} {c p s at_ : Nat} {pre : List Thing} {w w' : World} (h : Iter L S P B O b a c p s at_ pre w) (hb : Below w.heap.size w w') : Iter L S P B O b a c p s at_ pre w' :=
  ⟨h.le, h.few, h.cut, h.shape.below hb, cell_keep h.box hb, h.holds.below hb, Nat.lt_of_lt_of_le h.hp hb.size, Nat.lt_of_lt_of_le h.hs hb.size⟩
theorem Iter.kept {L S : Nat} {P : Bool} {B O : Int} {b : List Int} {a : Option Addr} {c p s at_ : Nat} {pre : List Thing} {w w' : World} (h : Iter L S P B O b a c p s at_ pre w) (hs : w.heap.size ≤ w'.heap.size) (hk : ∀ k, Reads p s a b k → k < w.heap.size → w'.heap[k]? = w.heap[k]?) : Iter L S P B O b a c p s at_ pre w' :=
  ⟨h.le, h.few, h.cut, h.shape.kept (hk s (.inr (.inl rfl)) h.hs), (World.cell?_of_block (a := ⟨p, 0, none⟩) (hk p (.inl rfl) h.hp)).trans h.box,
    ⟨h.holds.cap, h.holds.max, (by
      by_cases hb : b = []
      · subst hb; exact Ints.nil _ _ _
      · exact h.holds.ints.kept (fun q hq => hk q.block (.inr (.inr ⟨hb, q, hq, rfl⟩)) (h.holds.ints.lt hb hq))), h.holds.oct, h.holds.shape⟩, Nat.lt_of_lt_of_le h.hp hs, Nat.lt_of_lt_of_le h.hs hs⟩

theorem two_new (W : World) (v0 v1 : Value) (t : TypeId) : Two (W.alloc (.cells #[v0, v1] t)) W.heap.size v0 v1 := Two.of_block (t := t) (_root_.Go.heap_alloc_new W _)
theorem two_set {W : World} {X : Nat} {a b : Value} (h : Two W X a b) (v0 v1 : Value) : Two ((W.setCell ⟨X, 0, none⟩ v0).setCell ⟨X, 1, none⟩ v1) X v0 v1 := by
  obtain ⟨x0, x1, y0, y1⟩ := h
  have ne1 : (⟨X, 1, none⟩ : Addr) ≠ ⟨X, 0, none⟩ := by intro e; injection e with _ e2; exact absurd e2 (by decide)
  have ne2 : (⟨X, 0, none⟩ : Addr) ≠ ⟨X, 1, none⟩ := fun e => ne1 e.symm
  refine ⟨(World.cell?_setCell_other _ _ _ _ ne1).trans (World.cell?_setCell_same _ _ _ x0), World.cell?_setCell_same _ _ _ ((World.cell?_setCell_other _ _ _ _ ne2).trans x1), ?_, ?_⟩
  · exact ((World.frozen?_setCell _ _ _ _).trans (World.frozen?_setCell _ _ _ _)).trans y0
  · exact ((World.frozen?_setCell _ _ _ _).trans (World.frozen?_setCell _ _ _ _)).trans y1
theorem Ints.beside {k : IntKind} {w : World} {a : Option Addr} {l : List Int} (h : Ints k w a l) {X i : Nat} (v : Value) (hne : ∀ q : Addr, a = some q → q.block ≠ X) : Ints k (w.setCell ⟨X, i, none⟩ v) a l := by
  intro j hj
  obtain ⟨b, off, rfl, hc⟩ := h j hj
  exact ⟨b, off, rfl, (World.cell?_setCell_other _ _ _ _ (by intro e; injection e with e1; exact hne _ rfl e1.symm)).trans hc⟩

/-- a thing that has been told, in a block X -/
structure Told (B : Nat) (t : Int) (x : List Int) (X : Nat) (a : Option Addr) (c : Nat) (wr wx : World) : Prop where
  two : Two wx X (.int .i64 t) (.slice a x.length c)
  ok : Thing.ok B ⟨t, x, a, c⟩ wx
  bel : Below wr.heap.size wr wx

theorem told_late {B : Nat} {wr V w4 : World} {x : List Int} {a : Option Addr} {c : Nat} (t : Int) (T : TypeId) (hB : B ≤ wr.heap.size) (hV : Below wr.heap.size wr V)
    (h : x.length ≤ c ∧ c ≤ 9223372036854775807 ∧ Ints .u8 w4 a x ∧ (a = none ∨ ∃ k, a = some ⟨k, 0, none⟩ ∧ V.heap.size ≤ k) ∧ Below V.heap.size V w4) :
    Told B t x w4.heap.size a c wr (w4.alloc (.cells #[.int .i64 t, .slice a x.length c] T)) := by
  obtain ⟨h1, h2, h3, h4, h5⟩ := h
  refine ⟨two_new _ _ _ _, ⟨h1, h2, h3.below (below_alloc _ _), ?_⟩, (below_more hV h5).alloc (below_more hV h5).size _⟩
  rcases h4 with h4 | ⟨k, h4, hk⟩
  · exact .inl h4
  · exact .inr ⟨k, h4, by have := hV.size; omega⟩
theorem told_early {B X : Nat} {wr V w4 : World} {x : List Int} {a : Option Addr} {c : Nat} {u v : Value} (t : Int) (hB : B ≤ wr.heap.size) (hV : Below wr.heap.size wr V) (hX : wr.heap.size ≤ X) (hXV : X < V.heap.size) (h2 : Two w4 X u v)
    (h : x.length ≤ c ∧ c ≤ 9223372036854775807 ∧ Ints .u8 w4 a x ∧ (a = none ∨ ∃ k, a = some ⟨k, 0, none⟩ ∧ V.heap.size ≤ k) ∧ Below V.heap.size V w4) :
    Told B t x X a c wr ((w4.setCell ⟨X, 0, none⟩ (.int .i64 t)).setCell ⟨X, 1, none⟩ (.slice a x.length c)) := by
  obtain ⟨h1, h2', h3, h4, h5⟩ := h
  have hne : ∀ q : Addr, a = some q → q.block ≠ X := by
    intro q hq e
    rcases h4 with h4 | ⟨k, h4, hk⟩
    · rw [h4] at hq; cases hq
    · rw [h4] at hq; simp at hq; subst hq; simp at e; omega
  refine ⟨two_set h2 _ _, ⟨h1, h2', (h3.beside _ hne).beside _ hne, ?_⟩, ((below_more hV h5).setCell hX _).setCell hX _⟩
  rcases h4 with h4 | ⟨k, h4, hk⟩
  · exact .inl h4
  · exact .inr ⟨k, h4, by have := hV.size; omega⟩

theorem oneL_err {L S : Nat} {P : Bool} {B O : Int} (hB : B ≠ 0) (hO : O ≠ 0) {b : List Int} {q : Int} (h : oneL L S P B O b = .error q) : q ≠ 0 := by
  unfold oneL at h
  repeat (split at h; (first | (cases h; assumption) | skip))
  all_goals cases h

theorem Iter.step {L S : Nat} {P : Bool} {B O : Int} {b : List Int} {a : Option Addr} {c p s at_ : Nat} {pre : List Thing} {w : World} (h : Iter L S P B O b a c p s at_ pre w) (hL : 4 ≤ L) {t : Int} {x : List Int} {n : Nat} {a' : Option Addr} {c' : Nat}
    (ho : oneL L S P B O (b.drop at_) = .ok (t, x, n)) (hn0 : 4 ≤ n) (hlt : at_ < b.length) (hn : at_ + n ≤ b.length) : Iter L S P B O b a c p s (at_ + n) (pre ++ [⟨t, x, a', c'⟩]) w := by
  refine ⟨hn, by rw [List.length_append]; simp; have := h.few; omega, ?_, h.shape, h.box, h.holds, h.hp, h.hs⟩
  have h1 := cutL_ok (P := P) (B := B) (O := O) hL (b := b.drop at_) (by intro e; have := congrArg List.length e; rw [List.length_drop] at this; simp at this; omega) ho
  show cutL L S P B O b = _
  rw [h.cut.out, h1, after_after, List.drop_drop, List.map_append]
  rfl

end Go.Proofs.Ytaddhahghglabaa
namespace Go.Proofs.Ytaddhahghglabaa
open Go.RowKit
set_option maxRecDepth 100000

/-- a thing's cells -/
def Thing.cs (h : Thing) : List Value := [.int .i64 h.t, .slice h.a h.x.length h.c]
/-- the things' cells, one behind the other -/
def thingCells (l : List Thing) : List Value := l.flatMap Thing.cs
theorem thingCells_snoc (l : List Thing) (h : Thing) : thingCells (l ++ [h]) = thingCells l ++ [.int .i64 h.t, .slice h.a h.x.length h.c] := by simp [thingCells, Thing.cs]
theorem thingCells_length (l : List Thing) : (thingCells l).length = l.length * 2 := by
  induction l with
  | nil => rfl
  | cons h l ih => simp only [thingCells, List.flatMap_cons, List.length_append, List.length_cons] at *; rw [ih]; simp [Thing.cs]; omega
theorem thingCells_at (l : List Thing) (i : Nat) (hi : i < l.length) : (thingCells l)[i * 2]? = some (.int .i64 l[i].t) ∧ (thingCells l)[i * 2 + 1]? = some (.slice l[i].a l[i].x.length l[i].c) := by
  induction l generalizing i with
  | nil => simp at hi
  | cons h l ih =>
    have e : thingCells (h :: l) = .int .i64 h.t :: .slice h.a h.x.length h.c :: thingCells l := by simp [thingCells, Thing.cs]
    rw [e]
    cases i with
    | zero => exact ⟨rfl, rfl⟩
    | succ i =>
      have := ih i (by simpa using hi)
      rw [show (i + 1) * 2 = i * 2 + 1 + 1 by omega]
      exact this

/-- a slice of things that lies at a -/
def Items (w : World) (a : Option Addr) (l : List Thing) : Prop :=
  ∀ i, (hi : i < l.length) → ∃ b off, a = some ⟨b, off, none⟩ ∧ w.cell? ⟨b, off + i * 2, none⟩ = some (.int .i64 l[i].t) ∧ w.cell? ⟨b, off + i * 2 + 1, none⟩ = some (.slice l[i].a l[i].x.length l[i].c)
theorem Items.below {w w' : World} {a : Option Addr} {l : List Thing} (h : Items w a l) (hb : Below w.heap.size w w') : Items w' a l := by
  intro i hi
  obtain ⟨b, off, ha, h1, h2⟩ := h i hi
  exact ⟨b, off, ha, cell_keep h1 hb, cell_keep h2 hb⟩
theorem Items.nil (w : World) (a : Option Addr) : Items w a [] := fun i hi => absurd hi (by simp)

theorem own_items {w : World} {e : TypeId} {v : Value} {l : List Thing} (h : w.ownsRow 0 e 2 v l.length (thingCells l)) :
    ∃ a c, v = .slice a l.length c ∧ l.length ≤ c ∧ c ≤ 9223372036854775807 ∧ Items w a l ∧ (a = none ∨ ∃ g, a = some ⟨g, 0, none⟩ ∧ v.ownBlock = some g) := by
  rcases h.2 with ⟨rfl, h0⟩ | ⟨g, cap, cur, rfl, _, hg, hnc, hcm, hcs, htake⟩
  · have : l = [] := List.eq_nil_of_length_eq_zero h0
    subst this
    exact ⟨none, 0, rfl, by simp, by simp, Items.nil _ _, .inl rfl⟩
  · refine ⟨some ⟨g, 0, none⟩, cap, rfl, hnc, by unfold maxLen at hcm; omega, ?_, .inr ⟨g, rfl, rfl⟩⟩
    have at_ : ∀ j, j < l.length * 2 → w.cell? ⟨g, 0 + j, none⟩ = (thingCells l)[j]? := by
      intro j hj
      rw [Nat.zero_add, cell_of_row w g j cur e (0, 0) hg, ← htake, List.getElem?_take, if_pos hj, Array.getElem?_toList]
    intro i hi
    obtain ⟨h1, h2⟩ := thingCells_at l i hi
    exact ⟨g, 0, rfl, (at_ _ (by omega)).trans h1, by rw [Nat.add_assoc]; exact (at_ _ (by omega)).trans h2⟩

end Go.Proofs.Ytaddhahghglabaa
namespace Go.Proofs.Ytaddhahghglabaa
open Go.RowKit
set_option maxRecDepth 100000
attribute [local go_sem] Oper.semAt_some

/-- what Cut answers -/
def CutPost (w : World) (r : Except Int (List (Int × List Int))) (e : Ending) (w' : World) : Prop :=
  match r with
  | .error q => e = .returned (.tuple #[.slice none 0 0, .int .i64 q]) ∧ Below w.heap.size w w'
  | .ok xs => ∃ (l : List Thing) (a : Option Addr) (c : Nat), l.map Thing.val = xs ∧ e = .returned (.tuple #[.slice a l.length c, .int .i64 0]) ∧ l.length ≤ c ∧ c ≤ 9223372036854775807 ∧ Items w' a l ∧ (∀ h ∈ l, Thing.ok w.heap.size h w') ∧ (∀ q : Addr, a = some q → w.heap.size ≤ q.block ∧ q.block < w'.heap.size) ∧ Below w.heap.size w w'

/-- memory whose cells a step kept -/
theorem Ints.others {k : IntKind} {W W' : World} {row : Option Nat} {a : Option Addr} {l : List Int} (h : Ints k W a l) (hg : W.grownBy W' row) (hr : ∀ r, row = some r → ∃ o : Obj, W.heap[r]? = some o ∧ o.isCells = false) : Ints k W' a l := by
  intro i hi
  obtain ⟨b, off, rfl, hc⟩ := h i hi
  exact ⟨b, off, rfl, cell_kept hc hg hr⟩
theorem Thing.ok.others {B : Nat} {h : Thing} {W W' : World} {row : Option Nat} (k : h.ok B W) (hg : W.grownBy W' row) (hr : ∀ r, row = some r → ∃ o : Obj, W.heap[r]? = some o ∧ o.isCells = false) : h.ok B W' := ⟨k.cap, k.max, k.ints.others hg hr, k.far⟩
theorem Thing.ok.turned {B : Nat} {h : Thing} {W W' : World} {row : Option Nat} (k : h.ok B W) (hg : W.grownBy W' row) (hne : ∀ q : Addr, h.a = some q → row ≠ some q.block) : h.ok B W' :=
  ⟨k.cap, k.max, by
    intro i hi
    obtain ⟨b, off, ha, hc⟩ := k.ints i hi
    exact ⟨b, off, ha, hg.cell hc (fun e => hne _ ha e.symm)⟩, k.far⟩
theorem own_not_other {W : World} {e : TypeId} {size n : Nat} {v : Value} {xs : List Value} (h : W.ownsRow 0 e size v n xs) {row : Option Nat} (hr : ∀ r, row = some r → ∃ o : Obj, W.heap[r]? = some o ∧ o.isCells = false) : v.ownBlock = none ∨ v.ownBlock ≠ row := by
  rcases h.2 with ⟨rfl, _⟩ | ⟨g, cap, cur, rfl, _, hg, _⟩
  · exact .inl rfl
  · right
    intro e
    obtain ⟨o, ho, hc⟩ := hr g e.symm
    rw [hg] at ho
    cases ho
    cases hc

/-- between two rounds of a loop that gathers things in the cell X; R4, R5: the results' cells -/
structure CutAt (T : TypeId) (w0 : World) (B1 X R4 R5 : Nat) (pre : List Thing) (W : World) : Prop where
  v : ∃ v, W.cell? ⟨X, 0, none⟩ = some v ∧ W.ownsRow 0 T 2 v pre.length (thingCells pre) ∧ (∀ g, v.ownBlock = some g → B1 ≤ g) ∧ (pre = [] → v.ownBlock = none)
  fx : W.frozen? ⟨X, 0, none⟩ = false
  c4 : W.cell? ⟨R4, 0, none⟩ = some (.slice none 0 0)
  f4 : W.frozen? ⟨R4, 0, none⟩ = false
  c5 : W.cell? ⟨R5, 0, none⟩ = some (.int .i64 0)
  f5 : W.frozen? ⟨R5, 0, none⟩ = false
  ok : ∀ h ∈ pre, Thing.ok B1 h W
  bel : Below w0.heap.size w0 W

theorem frozen_kept' {W W' : World} {row : Option Nat} {a : Addr} {v : Value} (hf : W.frozen? a = false) (h : W.cell? a = some v) (hg : W.grownBy W' row) (hr : ∀ r, row = some r → ∃ o : Obj, W.heap[r]? = some o ∧ o.isCells = false) : W'.frozen? a = false := (frozen_kept h hg hr).trans hf
theorem CutAt.own {T : TypeId} {w0 : World} {B1 X R4 R5 : Nat} (hB : w0.heap.size ≤ B1) : OwnFrom B1 (CutAt T w0 B1 X R4 R5) := by
  intro pre W W' row h hg hr
  have hr2 : ∀ r, row = some r → ∃ o : Obj, W.heap[r]? = some o ∧ o.isCells = false := fun r e => (hr r e).2
  obtain ⟨v, h1, h2, h3⟩ := h.v
  exact ⟨⟨v, cell_kept h1 hg hr2, h2.kept hg (own_not_other h2 hr2), h3⟩, (frozen_kept' h.fx h1 hg hr2), cell_kept h.c4 hg hr2, frozen_kept' h.f4 h.c4 hg hr2, cell_kept h.c5 hg hr2, frozen_kept' h.f5 h.c5 hg hr2,
    fun x hx => (h.ok x hx).others hg hr2, ownFrom_below (Nat.le_refl _) hB () W W' row h.bel hg hr⟩

theorem Thing.ok.kinds {B : Nat} {h : Thing} {W W' : World} {T : TypeId} {n : Nat} {v : Value} {pre : List Thing} (k : h.ok B W) (hown : W.ownsRow 0 T 2 v n (thingCells pre)) (hpre : pre = [] → v.ownBlock = none) (hg : W.grownBy W' v.ownBlock) : h.ok B W' := by
  refine ⟨k.cap, k.max, ?_, k.far⟩
  intro i hi
  obtain ⟨b, off, ha, hc⟩ := k.ints i hi
  obtain ⟨b0, off0, ha0, hc0⟩ := k.ints 0 (by omega)
  rw [ha] at ha0
  simp at ha0
  obtain ⟨rfl, rfl⟩ := ha0
  obtain rfl : off = 0 := by
    rcases k.far with h0 | ⟨q, h0, _⟩
    · rw [h0] at ha; cases ha
    · rw [h0] at ha; simp at ha; exact ha.2.symm
  refine ⟨b, 0, ha, hg.cell hc (fun e => ?_)⟩
  cases pre with
  | nil => rw [hpre rfl] at e; cases e
  | cons x pre =>
    rcases hown.2 with ⟨rfl, _⟩ | ⟨g, cap, cur, rfl, _, hgc, hnc, hcm, hcs, htake⟩
    · cases e
    · simp [Value.ownBlock] at e
      subst e
      have h1 := cell_of_row W b 0 cur T (0, 0) hgc
      rw [hc0] at h1
      have h2 : (cur.toList.take (n * 2))[0]? = some (.int .i64 x.t) := by rw [htake]; rfl
      rw [List.getElem?_take] at h2
      split at h2
      · rw [Array.getElem?_toList, ← h1] at h2
        simp at h2
      · cases h2

theorem CutAt.step {T T' : TypeId} {w0 : World} {B1 X R4 R5 : Nat} {pre : List Thing} {W : World} (h : CutAt T w0 B1 X R4 R5 pre W) (hX : X < B1) (h4 : R4 < B1) (h5 : R5 < B1) (hX4 : X ≠ R4) (hX5 : X ≠ R5) (hw0 : w0.heap.size ≤ X) (hB1 : B1 ≤ W.heap.size)
    {x : Thing} (hx : x.ok B1 W) {v v' : Value} (hv : W.cell? ⟨X, 0, none⟩ = some v) (hown : W.ownsRow 0 T 2 v pre.length (thingCells pre)) (hvB : ∀ g, v.ownBlock = some g → B1 ≤ g) (hvn : pre = [] → v.ownBlock = none)
    {w1 w' : World} (hw1 : W.alloc (.cells #[.int .i64 x.t, .slice x.a x.x.length x.c] T') = w1) (hg : GrewN T 2 w1 w' v v' (pre.length + 1) (thingCells pre ++ [.int .i64 x.t, .slice x.a x.x.length x.c])) (K : Nat → Prop) (hK : ∀ k, K k → k < B1 ∧ k ≠ X) :
    KeepsFrom B1 W (w'.setCell ⟨X, 0, none⟩ v') ∧ (∀ k, K k → k < W.heap.size → (w'.setCell ⟨X, 0, none⟩ v').heap[k]? = W.heap[k]?) ∧ CutAt T w0 B1 X R4 R5 (pre ++ [x]) (w'.setCell ⟨X, 0, none⟩ v') := by
  have ha : W.grownBy w1 none := by rw [← hw1]; exact by_none_alloc _ _
  have hs1 : B1 ≤ w1.heap.size := Nat.le_trans hB1 ha.size
  have hvX : ∀ j, j < B1 → v.ownBlock ≠ some j := fun j hj e => by have := hvB j e; omega
  have hv'B := hg.base hs1 hvB
  have hv'X : ∀ j, j < B1 → v'.ownBlock ≠ some j := fun j hj e => by have := hv'B j e; omega
  have old : ∀ j, j < B1 → j ≠ X → (w'.setCell ⟨X, 0, none⟩ v').heap[j]? = W.heap[j]? := fun j hj hne =>
    (Below.heap_setCell _ _ _ _ hne).trans ((hg.by_.block j (by omega) (fun e => hvX j hj e.symm)).trans (ha.block j (by omega) (by simp)))
  have mid : ∀ {p : Addr} {u : Value}, p.block < B1 → W.cell? p = some u → w'.cell? p = some u := fun {p u} hp hu => (hg.by_.cell (ha.cell hu (by simp)) (fun e => hvX _ hp e.symm))
  have cellX : w'.cell? ⟨X, 0, none⟩ = some v := mid (p := ⟨X, 0, none⟩) hX hv
  have keep : ∀ {p : Addr} {u : Value}, p.block < B1 → p.block ≠ X → W.cell? p = some u → (w'.setCell ⟨X, 0, none⟩ v').cell? p = some u := fun {p u} hp hne hu => (World.cell?_of_block (old p.block hp hne)).trans hu
  have keepf : ∀ {p : Addr}, p.block < B1 → p.block ≠ X → W.frozen? p = false → (w'.setCell ⟨X, 0, none⟩ v').frozen? p = false := fun {p} hp hne hu => (World.frozen?_of_block (old p.block hp hne)).trans hu
  have hset : w'.grownBy (w'.setCell ⟨X, 0, none⟩ v') (some X) := ⟨rfl, rfl, rfl, by simp [World.setCell], fun k hk hne => Below.heap_setCell _ _ _ _ (fun e => hne (by rw [e]))⟩
  have okk : ∀ y : Thing, y.ok B1 W → y.ok B1 (w'.setCell ⟨X, 0, none⟩ v') := fun y hy =>
    ((hy.turned ha (fun q _ => by simp)).kinds (hown.kept ha (by cases v.ownBlock <;> simp)) hvn hg.by_).turned hset (fun q hq e => by
      rcases hy.far with h0 | ⟨k, h0, hk⟩
      · rw [h0] at hq; cases hq
      · rw [h0] at hq; cases hq; simp at e; omega)
  refine ⟨?_, fun k hk hkw => old k (hK k hk).1 (hK k hk).2, ⟨v', ?_, ?_, hv'B, by simp⟩, ?_, keep h4 (Ne.symm hX4) h.c4, keepf h4 (Ne.symm hX4) h.f4, keep h5 (Ne.symm hX5) h.c5, keepf h5 (Ne.symm hX5) h.f5, ?_, ?_⟩
  · refine (((KeepsOthers.of_grownBy ha (fun j o e => by cases e)).trans (KeepsOthers.of_grownBy hg.by_ (fun j o e ho => ?_))).trans (KeepsOthers.setCell _ _ _)).from _
    have hown1 := hown.kept ha (by cases v.ownBlock <;> simp)
    rcases hown1.2 with ⟨rfl, _⟩ | ⟨g, cap, cur, rfl, _, hgc, _⟩
    · cases e
    · cases e; rw [hgc] at ho; cases ho; rfl
  · exact World.cell?_setCell_same _ _ _ cellX
  · have h2 := hg.own.kept hset (.inr (hv'X X hX))
    rw [List.length_append, thingCells_snoc]
    exact h2
  · rw [World.frozen?_setCell]
    have e1 : w'.frozen? ⟨X, 0, none⟩ = w1.frozen? ⟨X, 0, none⟩ := World.frozen?_of_block (hg.by_.block X (by omega) (fun e => hvX X hX e.symm))
    have e2 : w1.frozen? ⟨X, 0, none⟩ = W.frozen? ⟨X, 0, none⟩ := World.frozen?_of_block (ha.block X (by omega) (by simp))
    exact e1.trans (e2.trans h.fx)
  · intro y hy
    rcases List.mem_append.1 hy with hy | hy
    · exact okk y (h.ok y hy)
    · simp at hy; subst hy; exact okk y hx
  · have b1 : Below w0.heap.size w0 w1 := by rw [← hw1]; exact h.bel.alloc h.bel.size _
    exact (b1.grown hg.by_ b1.size (fun k e => by have := hvB k e; omega)).setCell hw0 _

theorem built_news (W : World) (v0 v1 : Value) (T : TypeId) : ∀ j u, [v0, v1][j]? = some u → (W.alloc (.cells #[v0, v1] T)).cell? ((⟨W.heap.size, 0, none⟩ : Addr).add j) = some u := by
  intro j u hj
  rw [add_none, Nat.zero_add]
  have h := Two.of_block (t := T) (_root_.Go.heap_alloc_new W (.cells #[v0, v1] T))
  match j, hj with
  | 0, hj => simp at hj; subst hj; exact h.c0
  | 1, hj => simp at hj; subst hj; exact h.c1
  | j + 2, hj => simp at hj
theorem Two.others {W W' : World} {X : Nat} {v0 v1 : Value} {row : Option Nat} (h : Two W X v0 v1) (hg : W.grownBy W' row) (hr : ∀ r, row = some r → ∃ o : Obj, W.heap[r]? = some o ∧ o.isCells = false) : Two W' X v0 v1 :=
  ⟨cell_kept h.c0 hg hr, cell_kept h.c1 hg hr, frozen_kept' h.f0 h.c0 hg hr, frozen_kept' h.f1 h.c1 hg hr⟩

/-- a cell that may be written -/
structure One1 (w : World) (b : Nat) (v : Value) : Prop where
  c : w.cell? ⟨b, 0, none⟩ = some v
  f : w.frozen? ⟨b, 0, none⟩ = false
theorem One1.below {w w' : World} {b : Nat} {v : Value} (h : One1 w b v) (hb : Below w.heap.size w w') : One1 w' b v := ⟨cell_keep h.c hb, (frozen_keep h.c hb).trans h.f⟩
theorem One1.new (w : World) (v : Value) (T : TypeId) : One1 (w.alloc (.cells #[v] T)) w.heap.size v := ⟨by simp, by simp⟩

/-- a shape that has been boxed, and behind it two results -/
theorem boxed_two (w : World) (L S : Int) (P : Bool) (B O : Int) (v4 v5 : Value) (t t4 t5 : TypeId) :
    ∃ W, ((w.alloc (.cells #[.int .i64 L, .int .i64 S, .bool P, .int .i64 B, .int .i64 O] t)).alloc (.cells #[v4] t4)).alloc (.cells #[v5] t5) = W ∧ Below w.heap.size w W ∧ W.heap.size = w.heap.size + 3 ∧ ShAt W w.heap.size L S P B O ∧ One1 W (w.heap.size + 1) v4 ∧ One1 W (w.heap.size + 1 + 1) v5 := by
  obtain ⟨W1, hW1⟩ : ∃ W1, w.alloc (.cells #[.int .i64 L, .int .i64 S, .bool P, .int .i64 B, .int .i64 O] t) = W1 := ⟨_, rfl⟩
  have b1 : Below w.heap.size w W1 := by rw [← hW1]; exact below_alloc _ _
  have s1 : W1.heap.size = w.heap.size + 1 := by rw [← hW1]; simp
  have h1 : ShAt W1 w.heap.size L S P B O := by rw [← hW1]; exact ShAt.of_block (t := t) (_root_.Go.heap_alloc_new w _)
  obtain ⟨W2, hW2⟩ : ∃ W2, W1.alloc (.cells #[v4] t4) = W2 := ⟨_, rfl⟩
  have b2 : Below W1.heap.size W1 W2 := by rw [← hW2]; exact below_alloc _ _
  have s2 : W2.heap.size = W1.heap.size + 1 := by rw [← hW2]; simp
  have h2 : One1 W2 W1.heap.size v4 := by rw [← hW2]; exact One1.new _ _ _
  obtain ⟨W3, hW3⟩ : ∃ W3, W2.alloc (.cells #[v5] t5) = W3 := ⟨_, rfl⟩
  have b3 : Below W2.heap.size W2 W3 := by rw [← hW3]; exact below_alloc _ _
  have s3 : W3.heap.size = W2.heap.size + 1 := by rw [← hW3]; simp
  have h3 : One1 W3 W2.heap.size v5 := by rw [← hW3]; exact One1.new _ _ _
  rw [hW1, hW2, hW3]
  refine ⟨W3, rfl, below_more (below_more b1 b2) b3, by omega, (h1.below b2).below b3, ?_, ?_⟩
  · have := h2.below b3; rwa [s1] at this
  · rwa [s2, s1] at h3

theorem own_lt {W : World} {e : TypeId} {size n : Nat} {v : Value} {xs : List Value} (h : W.ownsRow 0 e size v n xs) {b : Nat} (hb : v.ownBlock = some b) : b < W.heap.size := by
  rcases h.2 with ⟨rfl, _⟩ | ⟨g, cap, cur, rfl, _, hg, _⟩
  · cases hb
  · cases hb; exact lt_of_block hg
theorem own_shape {W : World} {e : TypeId} {size n : Nat} {v : Value} {xs : List Value} (h : W.ownsRow 0 e size v n xs) : ∃ a c, v = .slice a n c := by
  rcases h.2 with ⟨rfl, rfl⟩ | ⟨g, cap, cur, rfl, _⟩
  · exact ⟨_, _, rfl⟩
  · exact ⟨_, _, rfl⟩
theorem set_two {W : World} {R4 R5 : Nat} {u4 u5 : Value} (h4 : W.cell? ⟨R4, 0, none⟩ = some u4) (h5 : W.cell? ⟨R5, 0, none⟩ = some u5) (hne : R4 ≠ R5) (v4 v5 : Value) :
    ((W.setCell ⟨R4, 0, none⟩ v4).setCell ⟨R5, 0, none⟩ v5).cell? ⟨R4, 0, none⟩ = some v4 ∧ ((W.setCell ⟨R4, 0, none⟩ v4).setCell ⟨R5, 0, none⟩ v5).cell? ⟨R5, 0, none⟩ = some v5 := by
  have ne1 : (⟨R4, 0, none⟩ : Addr) ≠ ⟨R5, 0, none⟩ := by intro e; injection e with e1; exact hne e1
  have ne2 : (⟨R5, 0, none⟩ : Addr) ≠ ⟨R4, 0, none⟩ := fun e => ne1 e.symm
  exact ⟨(World.cell?_setCell_other _ _ _ _ ne2).trans (World.cell?_setCell_same _ _ _ h4), World.cell?_setCell_same _ _ _ ((World.cell?_setCell_other _ _ _ _ ne1).trans h5)⟩
theorem by_set (W : World) (R : Nat) (v : Value) : W.grownBy (W.setCell ⟨R, 0, none⟩ v) (some R) := ⟨rfl, rfl, rfl, by simp [World.setCell], fun k hk hne => Below.heap_setCell _ _ _ _ (fun e => hne (by rw [e]))⟩

theorem CutAt.done {T : TypeId} {w0 : World} {B1 X R4 R5 D : Nat} {pre : List Thing} {W : World} (h : CutAt T w0 B1 X R4 R5 pre W) (h4 : R4 < B1) (h5 : R5 < B1) (h45 : R4 ≠ R5) (h40 : w0.heap.size ≤ R4) (h50 : w0.heap.size ≤ R5) (hD : B1 ≤ D) (hK : W.heap[D]? = some (.deferred (some [])))
    {va : Option Addr} {vc : Nat} (hown : W.ownsRow 0 T 2 (.slice va pre.length vc) pre.length (thingCells pre)) (hvB : ∀ g, (Value.slice va pre.length vc).ownBlock = some g → B1 ≤ g) :
    ∃ W1, ((W.setCell ⟨R4, 0, none⟩ (.slice va pre.length vc)).setCell ⟨R5, 0, none⟩ (.int .i64 0)) = W1 ∧ W1.heap[D]? = some (.deferred (some [])) ∧
      (W1.putObj D (.deferred none)).cell? ⟨R4, 0, none⟩ = some (.slice va pre.length vc) ∧ (W1.putObj D (.deferred none)).cell? ⟨R5, 0, none⟩ = some (.int .i64 0) ∧
      pre.length ≤ vc ∧ vc ≤ 9223372036854775807 ∧ Items (W1.putObj D (.deferred none)) va pre ∧ (∀ x ∈ pre, Thing.ok w0.heap.size x (W1.putObj D (.deferred none))) ∧ (∀ q : Addr, va = some q → w0.heap.size ≤ q.block ∧ q.block < (W1.putObj D (.deferred none)).heap.size) ∧ Below w0.heap.size w0 (W1.putObj D (.deferred none)) := by
  have hvne : ∀ j, j < B1 → (Value.slice va pre.length vc).ownBlock ≠ some j := fun j hj e => by have := hvB j e; omega
  obtain ⟨W1, hW1⟩ : ∃ W1, ((W.setCell ⟨R4, 0, none⟩ (.slice va pre.length vc)).setCell ⟨R5, 0, none⟩ (.int .i64 0)) = W1 := ⟨_, rfl⟩
  have hset := set_two h.c4 h.c5 h45 (.slice va pre.length vc) (.int .i64 0)
  have hown1 := (hown.kept (by_set W R4 (.slice va pre.length vc)) (.inr (hvne _ h4))).kept (by_set _ R5 (.int .i64 0)) (.inr (hvne _ h5))
  have far : ∀ x ∈ pre, ∀ q : Addr, x.a = some q → B1 ≤ q.block := fun x hx q hq => by
    rcases (h.ok x hx).far with h0 | ⟨k, h0, hk⟩
    · rw [h0] at hq; cases hq
    · rw [h0] at hq; cases hq; exact hk
  have hok1 : ∀ x ∈ pre, Thing.ok B1 x W1 := fun x hx => by
    rw [← hW1]
    exact ((h.ok x hx).turned (by_set W R4 _) (fun q hq e => by have := far x hx q hq; simp at e; omega)).turned (by_set _ R5 _) (fun q hq e => by have := far x hx q hq; simp at e; omega)
  have hbel1 : Below w0.heap.size w0 W1 := by rw [← hW1]; exact (h.bel.setCell h40 _).setCell h50 _
  have hK1 : W1.heap[D]? = some (.deferred (some [])) := by
    rw [← hW1]; exact (Below.heap_setCell _ _ _ _ (by simp; omega)).trans ((Below.heap_setCell _ _ _ _ (by simp; omega)).trans hK)
  rw [hW1] at hset hown1
  have hgp := grownBy_putObj' W1 D (.deferred none)
  have hr : ∀ r, some D = some r → ∃ o : Obj, W1.heap[r]? = some o ∧ o.isCells = false := fun r e => by cases e; exact ⟨_, hK1, rfl⟩
  have hown2 := hown1.kept hgp (own_not_other hown1 hr)
  obtain ⟨a', c', e', h1, h2, h3, h4'⟩ := own_items hown2
  simp at e'
  obtain ⟨rfl, rfl⟩ := e'
  refine ⟨W1, hW1, hK1, cell_kept hset.1 hgp hr, cell_kept hset.2 hgp hr, h1, h2, h3, fun x hx => ?_, fun q hq => ?_, hbel1.grown hgp hbel1.size (fun k e => by cases e; omega)⟩
  · have := (hok1 x hx).others hgp hr
    exact ⟨this.cap, this.max, this.ints, this.far.imp id fun ⟨k, e, hk⟩ => ⟨k, e, by omega⟩⟩
  · have := hvB q.block (by rw [hq]; rfl)
    exact ⟨by omega, own_lt hown2 (by rw [hq]; rfl)⟩

end Go.Proofs.Ytaddhahghglabaa
namespace Go.Proofs.Ytaddhahghglabaa
open Go.RowKit
set_option maxRecDepth 100000

/-- a thing's bytes, or that it may not be -/
def writeL (L S : Nat) (P : Bool) (t : Int) (x : List Int) : Except Int (List Int) :=
  if lenOk L S P (4 + x.length) = true ∧ 0 ≤ t ∧ t < 65536 ∧ 4 + x.length < 65536 then .ok (bytesL t 2 ++ bytesL ((4 + x.length : Nat) : Int) 2 ++ x ++ List.replicate (zer S P (4 + x.length)) 0) else .error 10001

/-- what write answers -/
def WritePost (w : World) (r : Except Int (List Int)) (e : Ending) (w' : World) : Prop :=
  match r with
  | .error q => e = .returned (.tuple #[.slice none 0 0, .int .i64 q]) ∧ Below w.heap.size w w'
  | .ok bs => ∃ k, e = .returned (.tuple #[.slice (some ⟨k, 0, none⟩) bs.length bs.length, .int .i64 0]) ∧ w.heap.size ≤ k ∧ bs.length ≤ 9223372036854775807 ∧ Ints .u8 w' (some ⟨k, 0, none⟩) bs ∧ Below w.heap.size w w'

/-- beside a buffer: the shape's box, the thing's box, its body -/
structure WAt (w0 : World) (L S : Int) (P : Bool) (B O t : Int) (x : List Int) (a : Option Addr) (c : Nat) (g m : Nat) (p : Option Nat) (w : World) : Prop where
  sh : ShAt w w0.heap.size L S P B O
  tw : Two w (w0.heap.size + 1) (.int .i64 t) (.slice a x.length c)
  ints : Ints .u8 w a x
  bel : Below w0.heap.size w0 w
  base : ∀ k, Foot g m p k → w0.heap.size + 2 ≤ k

theorem Ints.turn {S : Nat → Prop} {k : IntKind} {w w' : World} {a : Option Addr} {l : List Int} (h : Turn S w w') (hI : Ints k w a l) (hn : ∀ q : Addr, a = some q → ¬ S q.block) : Ints k w' a l := by
  intro i hi
  obtain ⟨b, off, rfl, hc⟩ := hI i hi
  exact ⟨b, off, rfl, h.cell hc (hn ⟨b, off, none⟩ rfl)⟩
theorem Turn.free {S : Nat → Prop} {w w' : World} (h : Turn S w w') {p : Addr} {x : Value} (hc : w.cell? p = some x) (hn : ¬ S p.block) : w'.frozen? p = w.frozen? p :=
  World.frozen?_of_block (h.block p.block (World.block_lt_of_cell? w _ hc) hn)

section
variable {w0 w w' : World} {L S : Int} {P : Bool} {B O t : Int} {x : List Int} {a : Option Addr} {c g m : Nat} {p p' : Option Nat}
theorem WAt.below (h : WAt w0 L S P B O t x a c g m p w) (hb : Below w.heap.size w w') : WAt w0 L S P B O t x a c g m p w' :=
  ⟨h.sh.below hb, h.tw.below hb, h.ints.below hb, below_more h.bel hb, h.base⟩
theorem WAt.went {r : Nat} {l : List Int} {H : List (Int × Int)} {f : Int} (h : WAt w0 L S P B O t x a c g m p w) (ha : x ≠ [] → ∀ q : Addr, a = some q → q.block < w0.heap.size) (k : Went w w' g m p p' r l H f) : WAt w0 L S P B O t x a c g m p' w' := by
  have hlt : w0.heap.size + 1 < w.heap.size := World.block_lt_of_cell? w ⟨w0.heap.size + 1, 0, none⟩ h.tw.c0
  have n0 : ¬ Foot g m p w0.heap.size := fun e => by have := h.base _ e; omega
  have n1 : ¬ Foot g m p (w0.heap.size + 1) := fun e => by have := h.base _ e; omega
  refine ⟨⟨k.turn.cell h.sh.c0 n0, k.turn.cell h.sh.c1 n0, k.turn.cell h.sh.c2 n0, k.turn.cell h.sh.c3 n0, k.turn.cell h.sh.c4 n0⟩,
    ⟨k.turn.cell h.tw.c0 n1, k.turn.cell h.tw.c1 n1, (k.turn.free h.tw.c0 n1).trans h.tw.f0, (k.turn.free h.tw.c1 n1).trans h.tw.f1⟩,
    (by
      by_cases hx : x = []
      · subst hx; exact Ints.nil _ _ _
      · exact h.ints.turn k.turn (fun q hq e => by have := h.base _ e; have := ha hx q hq; omega)), k.turn.below h.bel h.bel.size (fun i e => by have := h.base i e; omega), k.base (by omega) h.base⟩
end

/-- two slices of two numbers each -/
theorem two_pairs (w : World) (n1 n2 x1 x2 : Int) : Below w.heap.size w ((w.alloc (.cells #[.int .i64 n1, .int .i64 n2] 3)).alloc (.cells #[.int .u64 x1, .int .u64 x2] 22)) ∧ Ints .i64 ((w.alloc (.cells #[.int .i64 n1, .int .i64 n2] 3)).alloc (.cells #[.int .u64 x1, .int .u64 x2] 22)) (some ⟨w.heap.size, 0, none⟩) [n1, n2] ∧
    Ints .u64 ((w.alloc (.cells #[.int .i64 n1, .int .i64 n2] 3)).alloc (.cells #[.int .u64 x1, .int .u64 x2] 22)) (some ⟨w.heap.size + 1, 0, none⟩) [x1, x2] := by
  have hs : (w.alloc (.cells #[.int .i64 n1, .int .i64 n2] 3)).heap.size = w.heap.size + 1 := by simp
  refine ⟨((Below.refl _ _).alloc (Nat.le_refl _) _).alloc (by omega) _, (ints_lit .i64 w [n1, n2] 3).below (below_alloc _ _), ?_⟩
  rw [← hs]
  exact ints_lit .u64 _ [x1, x2] 22

theorem put_head {t n : Int} (h1 : t < 65536) (h3 : n < 65536) : putW [2, 2] [t, n] = some (bytesL t 2 ++ bytesL n 2) := by
  have e1 : p256 2 = 65536 := rfl
  simp [putW, putL, rightW, countL, roomB, e1, h1, h3]
  rfl
theorem put_head_no {t n : Int} (h : ¬ (t < 65536 ∧ n < 65536)) : putW [2, 2] [t, n] = none := by
  have e1 : p256 2 = 65536 := rfl
  simp [putW, putL, rightW, countL, roomB, e1]
  intro _ _
  omega

/-- a shape that has been boxed, and behind it a thing -/
theorem boxed_item (w : World) (L S : Int) (P : Bool) (B O : Int) (v0 v1 : Value) (t u : TypeId) :
    ∃ W, (w.alloc (.cells #[.int .i64 L, .int .i64 S, .bool P, .int .i64 B, .int .i64 O] t)).alloc (.cells #[v0, v1] u) = W ∧ Below w.heap.size w W ∧ W.heap.size = w.heap.size + 2 ∧ ShAt W w.heap.size L S P B O ∧ Two W (w.heap.size + 1) v0 v1 := by
  have hs : (w.alloc (.cells #[.int .i64 L, .int .i64 S, .bool P, .int .i64 B, .int .i64 O] t)).heap.size = w.heap.size + 1 := by simp
  refine ⟨_, rfl, ((Below.refl _ _).alloc (Nat.le_refl _) _).alloc (by simp) _, by simp, (ShAt.of_block (t := t) ?_).below (below_alloc _ _), Two.of_block (t := u) ?_⟩
  · exact _root_.Go.heap_alloc_new w _
  · rw [← hs]; exact _root_.Go.heap_alloc_new _ _

theorem u64_wrap (t : Int) : ∃ u, IntKind.u64.wrap t = u ∧ 0 ≤ u ∧ u < p256 8 := by
  have e : p256 8 = 18446744073709551616 := rfl
  rw [e]
  refine ⟨_, rfl, ?_, ?_⟩ <;> simp only [IntKind.wrap_u64] <;> omega
theorem u64s_two {x y : Int} (h0 : 0 ≤ x) (h : x < p256 8) (k0 : 0 ≤ y) (k : y < p256 8) : U64s [x, y] := by
  intro z hz
  simp at hz
  rcases hz with rfl | rfl
  · exact ⟨h0, h⟩
  · exact ⟨k0, k⟩

theorem u64_small {t u : Int} (hu : IntKind.u64.wrap t = u) (h1 : -9223372036854775808 ≤ t) (h2 : t ≤ 9223372036854775807) : (u < 65536 ↔ 0 ≤ t ∧ t < 65536) ∧ (0 ≤ t → u = t) := by
  rw [IntKind.wrap_u64] at hu
  omega

theorem ints_fresh {w0 w : World} {n c : Nat} {k : Nat} {l : List Int} (h : Fresh 5 w0 w (.slice (some ⟨k, 0, none⟩) n c) (l.map (Value.int .u8))) : Ints .u8 w (some ⟨k, 0, none⟩) l := by
  obtain ⟨a, c', e, _, _, hI⟩ := own_ints h.own
  simp at e
  rw [e.1]
  exact hI

end Go.Proofs.Ytaddhahghglabaa
namespace Go.Proofs.Ytaddhahghglabaa
open Go.RowKit
set_option maxRecDepth 100000
attribute [local go_sem] Oper.semAt_some

/-- what comes behind some pieces -/
def afterB (pre : List (List Int)) : Except Int (List (List Int)) → Except Int (List (List Int))
  | .error q => .error q
  | .ok r => .ok (pre ++ r)
theorem afterB_afterB (pre mid : List (List Int)) (r : Except Int (List (List Int))) : afterB pre (afterB mid r) = afterB (pre ++ mid) r := by
  cases r <;> simp [afterB]
theorem afterB_nil (r : Except Int (List (List Int))) : afterB [] r = r := by cases r <;> rfl

/-- things as pieces of bytes, or the first error -/
def joinL (L S : Nat) (P : Bool) : List (Int × List Int) → Except Int (List (List Int))
  | [] => .ok []
  | h :: r => match writeL L S P h.1 h.2 with
    | .error q => .error q
    | .ok b => afterB [b] (joinL L S P r)

/-- a piece as it comes: its bytes, its block -/
structure Chunk where
  b : List Int
  k : Nat
def Chunk.v (h : Chunk) : Value := .slice (some ⟨h.k, 0, none⟩) h.b.length h.b.length
structure Chunk.ok (B : Nat) (h : Chunk) (w : World) : Prop where
  max : h.b.length ≤ 65600
  ints : Ints .u8 w (some ⟨h.k, 0, none⟩) h.b
  far : B ≤ h.k

/-- a thing that may come in -/
structure Thing.fits (B : Nat) (h : Thing) : Prop where
  len : h.x.length ≤ 1000000
  cap : h.x.length ≤ h.c
  max : h.c ≤ 9223372036854775807
  lo : -9223372036854775808 ≤ h.t
  hi : h.t ≤ 9223372036854775807
  far : h.x ≠ [] → ∀ q : Addr, h.a = some q → q.block < B

/-- what the iterator reads: the boxes, and what came in -/
def ReadsB (p s Bin : Nat) (k : Nat) : Prop := k = p ∨ k = s ∨ k < Bin

/-- the iterator's state between two rounds -/
structure WIter (L S : Nat) (P : Bool) (B O : Int) (l : List Thing) (a : Option Addr) (s Bin at_ : Nat) (pre : List Chunk) (w : World) : Prop where
  le : at_ ≤ l.length
  few : pre.length ≤ at_
  join : Hid (joinL L S P (l.map Thing.val) = afterB (pre.map Chunk.b) (joinL L S P ((l.drop at_).map Thing.val)))
  shape : ShAt w s L S P B O
  items : Items w a l
  bodies : ∀ h ∈ l, Ints .u8 w h.a h.x
  hs : s < w.heap.size
  ha : l ≠ [] → ∀ q : Addr, a = some q → q.block < Bin
  hBin : Bin ≤ w.heap.size

theorem Items.lt {w : World} {a : Option Addr} {l : List Thing} (h : Items w a l) (hl : l ≠ []) {q : Addr} (hq : a = some q) : q.block < w.heap.size := by
  obtain ⟨b, off, ha, hc, _⟩ := h 0 (by cases l; exact absurd rfl hl; simp)
  rw [hq] at ha
  cases ha
  exact World.block_lt_of_cell? w _ hc
theorem Items.kept {w w' : World} {a : Option Addr} {l : List Thing} (h : Items w a l) (hb : ∀ q : Addr, a = some q → w'.heap[q.block]? = w.heap[q.block]?) : Items w' a l := by
  intro i hi
  obtain ⟨b, off, rfl, h1, h2⟩ := h i hi
  exact ⟨b, off, rfl, (World.cell?_of_block (a := ⟨b, off + i * 2, none⟩) (hb ⟨b, off, none⟩ rfl)).trans h1, (World.cell?_of_block (a := ⟨b, off + i * 2 + 1, none⟩) (hb ⟨b, off, none⟩ rfl)).trans h2⟩

section
variable {L S : Nat} {P : Bool} {B O : Int} {l : List Thing} {a : Option Addr} {s Bin at_ : Nat} {pre : List Chunk} {w w' : World}
theorem WIter.below (h : WIter L S P B O l a s Bin at_ pre w) (hb : Below w.heap.size w w') : WIter L S P B O l a s Bin at_ pre w' :=
  ⟨h.le, h.few, h.join, h.shape.below hb, h.items.below hb, fun x hx => (h.bodies x hx).below hb, Nat.lt_of_lt_of_le h.hs hb.size, h.ha, Nat.le_trans h.hBin hb.size⟩
theorem WIter.kept (h : WIter L S P B O l a s Bin at_ pre w) (hf : ∀ x ∈ l, Thing.fits Bin x) (hs : w.heap.size ≤ w'.heap.size) {p : Nat} (hk : ∀ k, ReadsB p s Bin k → k < w.heap.size → w'.heap[k]? = w.heap[k]?) : WIter L S P B O l a s Bin at_ pre w' :=
  ⟨h.le, h.few, h.join, h.shape.kept (hk s (.inr (.inl rfl)) h.hs), (by
      by_cases hl : l = []
      · subst hl; exact Items.nil _ _
      · exact h.items.kept (fun q hq => hk q.block (.inr (.inr (h.ha hl q hq))) (Nat.lt_of_lt_of_le (h.ha hl q hq) h.hBin))),
    fun x hx => (by
      by_cases hx0 : x.x = []
      · rw [hx0]; exact Ints.nil _ _ _
      · exact (h.bodies x hx).kept (fun q hq => hk q.block (.inr (.inr ((hf x hx).far hx0 q hq))) (Nat.lt_of_lt_of_le ((hf x hx).far hx0 q hq) h.hBin))), Nat.lt_of_lt_of_le h.hs hs, h.ha, Nat.le_trans h.hBin hs⟩
theorem WIter.step (h : WIter L S P B O l a s Bin at_ pre w) (hlt : at_ < l.length) {b : List Int} {k : Nat} (hw : writeL L S P l[at_].t l[at_].x = .ok b) : WIter L S P B O l a s Bin (at_ + 1) (pre ++ [⟨b, k⟩]) w := by
  refine ⟨hlt, by rw [List.length_append]; simp; have := h.few; omega, ?_, h.shape, h.items, h.bodies, h.hs, h.ha, h.hBin⟩
  have hd : l.drop at_ = l[at_] :: l.drop (at_ + 1) := List.drop_eq_getElem_cons hlt
  show joinL L S P (l.map Thing.val) = _
  rw [h.join.out, hd, List.map_cons]
  show afterB _ (match writeL L S P l[at_].t l[at_].x with | .error q => .error q | .ok b => afterB [b] (joinL L S P ((l.drop (at_ + 1)).map Thing.val))) = _
  rw [hw]
  simp only []
  rw [afterB_afterB, List.map_append]
  rfl
theorem WIter.stop (h : WIter L S P B O l a s Bin at_ pre w) (hlt : at_ < l.length) {q : Int} (hw : writeL L S P l[at_].t l[at_].x = .error q) : joinL L S P (l.map Thing.val) = .error q := by
  have hd : l.drop at_ = l[at_] :: l.drop (at_ + 1) := List.drop_eq_getElem_cons hlt
  rw [h.join.out, hd, List.map_cons]
  show afterB _ (match writeL L S P l[at_].t l[at_].x with | .error q => .error q | .ok b => afterB [b] (joinL L S P ((l.drop (at_ + 1)).map Thing.val))) = _
  rw [hw]
  rfl
end

theorem writeL_len {L S : Nat} {P : Bool} {t : Int} {x bs : List Int} (hS : 1 ≤ S) (hS64 : S ≤ 64) (h : writeL L S P t x = .ok bs) : bs.length ≤ 65600 ∧ 4 ≤ bs.length := by
  unfold writeL at h
  split at h
  · rename_i k
    have hz := zer_lt hS P (4 + x.length)
    simp only [Except.ok.injEq] at h
    subst h
    simp [bytesL_length]
    omega
  · cases h
theorem writeL_err {L S : Nat} {P : Bool} {t : Int} {x : List Int} {q : Int} (h : writeL L S P t x = .error q) : q ≠ 0 := by
  unfold writeL at h
  split at h
  · cases h
  · cases h; decide

end Go.Proofs.Ytaddhahghglabaa
namespace Go.Proofs.Ytaddhahghglabaa
open Go.RowKit
set_option maxRecDepth 100000

section
variable {L S : Nat} {P : Bool} {B O : Int}

theorem p256_two : p256 2 = 65536 := rfl

theorem one_write {t : Int} {x bs : List Int} (h : writeL L S P t x = .ok bs) (rest : List Int) : oneL L S P B O (bs ++ rest) = .ok (t, x, bs.length) := by
  unfold writeL at h
  split at h
  · rename_i k
    obtain ⟨k1, k2, k3, k4⟩ := k
    simp only [Except.ok.injEq] at h
    obtain ⟨n, hn⟩ : ∃ n, n = 4 + x.length := ⟨_, rfl⟩
    rw [← hn] at h k1 k4
    obtain ⟨z, hz⟩ : ∃ z, z = zer S P n := ⟨_, rfl⟩
    rw [← hz] at h
    have l1 : (bytesL t 2).length = 2 := bytesL_length t 2
    have l2 : (bytesL (n : Int) 2).length = 2 := bytesL_length _ 2
    have hnum : numL (bytesL (n : Int) 2) = n := by rw [numL_bytesL, p256_two]; omega
    have hnt : numL (bytesL t 2) = t := by rw [numL_bytesL, p256_two]; omega
    have hlen : bs.length = n + z := by rw [← h, List.length_append, List.length_append, List.length_append, l1, l2, List.length_replicate]; omega
    have e0 : bs ++ rest = bytesL t 2 ++ (bytesL (n : Int) 2 ++ (x ++ (List.replicate z 0 ++ rest))) := by rw [← h]; simp
    have d2 : (bs ++ rest).drop 2 = bytesL (n : Int) 2 ++ (x ++ (List.replicate z 0 ++ rest)) := by
      rw [e0]
      have := List.drop_left (l₁ := bytesL t 2) (l₂ := bytesL (n : Int) 2 ++ (x ++ (List.replicate z 0 ++ rest)))
      rwa [l1] at this
    have d4 : (bs ++ rest).drop 4 = x ++ (List.replicate z 0 ++ rest) := by
      rw [show 4 = 2 + 2 from rfl, ← List.drop_drop, d2]
      have := List.drop_left (l₁ := bytesL (n : Int) 2) (l₂ := x ++ (List.replicate z 0 ++ rest))
      rwa [l2] at this
    have dn : (bs ++ rest).drop n = List.replicate z 0 ++ rest := by
      rw [hn, ← List.drop_drop, d4, List.drop_left]
    have t2 : (bs ++ rest).take 2 = bytesL t 2 := by
      rw [e0]
      have := List.take_left (l₁ := bytesL t 2) (l₂ := bytesL (n : Int) 2 ++ (x ++ (List.replicate z 0 ++ rest)))
      rwa [l1] at this
    have t22 : ((bs ++ rest).drop 2).take 2 = bytesL (n : Int) 2 := by
      rw [d2]
      have := List.take_left (l₁ := bytesL (n : Int) 2) (l₂ := x ++ (List.replicate z 0 ++ rest))
      rwa [l2] at this
    have hll : (bs ++ rest).length = n + z + rest.length := by rw [List.length_append, hlen]
    unfold oneL
    rw [t22, hnum, Int.toNat_natCast, k1, t2, hnt, ← hz, dn, d4, hll, if_neg (by omega), if_neg (by simp), if_neg (by omega)]
    have hzz : (List.replicate z (0 : Int) ++ rest).take z = List.replicate z 0 := by
      have := List.take_left (l₁ := List.replicate z (0 : Int)) (l₂ := rest)
      rwa [List.length_replicate] at this
    rw [hzz, zeros_replicate, if_neg (by simp)]
    have hx : (x ++ (List.replicate z 0 ++ rest)).take (n - 4) = x := by
      rw [show n - 4 = x.length by omega, List.take_left]
    rw [hx, hlen]
  · cases h

theorem writeL_pos {t : Int} {x bs : List Int} (h : writeL L S P t x = .ok bs) : 4 ≤ bs.length := by
  unfold writeL at h
  split at h
  · simp only [Except.ok.injEq] at h
    subst h
    simp [bytesL_length]
    omega
  · cases h

theorem joinL_cons {h : Int × List Int} {r : List (Int × List Int)} {cs : List (List Int)} (k : joinL L S P (h :: r) = .ok cs) : ∃ b bs, writeL L S P h.1 h.2 = .ok b ∧ joinL L S P r = .ok bs ∧ cs = b :: bs := by
  unfold joinL at k
  split at k
  · cases k
  · rename_i b hb
    cases hr : joinL L S P r with
    | error q => rw [hr] at k; cases k
    | ok bs =>
      rw [hr] at k
      simp [afterB] at k
      exact ⟨b, bs, hb, rfl, k.symm⟩

theorem cut_join (hL : 4 ≤ L) : ∀ {l : List (Int × List Int)} {cs : List (List Int)}, joinL L S P l = .ok cs → cutL L S P B O cs.flatten = .ok l := by
  intro l
  induction l with
  | nil =>
    intro cs h
    unfold joinL at h
    simp at h
    subst h
    rfl
  | cons h r ih =>
    intro cs k
    obtain ⟨b, bs, hb, hr, rfl⟩ := joinL_cons k
    have hp := writeL_pos hb
    rw [List.flatten_cons]
    have hne : b ++ bs.flatten ≠ [] := by
      intro e
      have := congrArg List.length e
      simp at this
      have := this.1
      subst this
      simp at hp
    rw [cutL_ok hL hne (one_write hb _), List.drop_left, ih hr]
    rfl

theorem joinL_length : ∀ {l : List (Int × List Int)} {cs : List (List Int)}, joinL L S P l = .ok cs → cs.length = l.length := by
  intro l
  induction l with
  | nil => intro cs h; unfold joinL at h; simp at h; subst h; rfl
  | cons h r ih =>
    intro cs k
    obtain ⟨b, bs, hb, hr, rfl⟩ := joinL_cons k
    simp [ih hr]

theorem writeL_oct {t : Int} {x bs : List Int} (h : writeL L S P t x = .ok bs) (hx : Octets x) : Octets bs := by
  unfold writeL at h
  split at h
  · simp only [Except.ok.injEq] at h
    subst h
    refine (((bytesL_octets _ _).append (bytesL_octets _ _)).append hx).append ?_
    intro y hy
    rw [List.eq_of_mem_replicate hy]
    decide
  · cases h
theorem joinL_oct : ∀ {l : List (Int × List Int)} {cs : List (List Int)}, joinL L S P l = .ok cs → (∀ h ∈ l, Octets h.2) → Octets cs.flatten := by
  intro l
  induction l with
  | nil => intro cs h _; unfold joinL at h; simp at h; subst h; intro y hy; simp at hy
  | cons h r ih =>
    intro cs k ho
    obtain ⟨b, bs, hb, hr, rfl⟩ := joinL_cons k
    rw [List.flatten_cons]
    exact (writeL_oct hb (ho h (by simp))).append (ih hr (fun x hx => ho x (by simp [hx])))
theorem joinL_bound (hS : 1 ≤ S) (hS64 : S ≤ 64) : ∀ {l : List (Int × List Int)} {cs : List (List Int)}, joinL L S P l = .ok cs → cs.flatten.length ≤ l.length * 65600 := by
  intro l
  induction l with
  | nil => intro cs h; unfold joinL at h; simp at h; subst h; simp
  | cons h r ih =>
    intro cs k
    obtain ⟨b, bs, hb, hr, rfl⟩ := joinL_cons k
    have h1 := (writeL_len hS hS64 hb).1
    have h2 := ih hr
    rw [List.flatten_cons, List.length_append, List.length_cons]
    omega
theorem joinL_errne : ∀ {l : List (Int × List Int)} {q : Int}, joinL L S P l = .error q → q ≠ 0 := by
  intro l
  induction l with
  | nil => intro q h; unfold joinL at h; cases h
  | cons h r ih =>
    intro q k
    unfold joinL at k
    split at k
    · rename_i e he
      cases k
      exact writeL_err he
    · cases hr : joinL L S P r with
      | error e => rw [hr] at k; cases k; exact ih hr
      | ok bs => rw [hr] at k; cases k
theorem cutL_errne (hL : 4 ≤ L) (hB : B ≠ 0) (hO : O ≠ 0) : ∀ (k : Nat) {b : List Int} {q : Int}, b.length ≤ k → cutL L S P B O b = .error q → q ≠ 0 := by
  intro k
  induction k with
  | zero =>
    intro b q hk h
    have : b = [] := List.eq_nil_of_length_eq_zero (by omega)
    subst this
    rw [cutL_nil] at h
    cases h
  | succ k ih =>
    intro b q hk h
    by_cases hb : b = []
    · subst hb; rw [cutL_nil] at h; cases h
    · cases hone : oneL L S P B O b with
      | error e => rw [cutL_err hb hone] at h; cases h; exact oneL_err hB hO hone
      | ok r =>
        obtain ⟨t, x, n⟩ := r
        rw [cutL_ok hL hb hone] at h
        obtain ⟨h4, hn, _⟩ := oneL_ok hL hone
        cases hc : cutL L S P B O (b.drop n) with
        | error e => rw [hc] at h; cases h; exact ih (by rw [List.length_drop]; omega) hc
        | ok m => rw [hc] at h; cases h

/-- the bytes ahead of the thing i -/
def ahead (cs : List (List Int)) (i : Nat) : Nat := ((cs.take i).flatten).length

theorem one_at {l : List (Int × List Int)} {cs : List (List Int)} (k : joinL L S P l = .ok cs) {i : Nat} (hi : i < l.length) :
    ∃ n, oneL L S P B O (cs.flatten.drop (ahead cs i)) = .ok (l[i].1, l[i].2, n) ∧ 4 ≤ n ∧ ahead cs (i + 1) = ahead cs i + n ∧ ahead cs i + n ≤ cs.flatten.length := by
  induction l generalizing cs i with
  | nil => simp at hi
  | cons h r ih =>
    obtain ⟨b, bs, hb, hr, rfl⟩ := joinL_cons k
    cases i with
    | zero =>
      refine ⟨b.length, ?_, writeL_pos hb, ?_, ?_⟩
      · simp only [ahead, List.take_zero, List.flatten_nil, List.length_nil, List.drop_zero, List.flatten_cons, List.getElem_cons_zero]
        exact one_write hb _
      · simp [ahead]
      · simp [ahead]
    | succ i =>
      obtain ⟨n, h1, h2, h3, h4⟩ := ih hr (i := i) (by simpa using hi)
      have e1 : ahead (b :: bs) (i + 1) = b.length + ahead bs i := by simp [ahead]
      have e2 : ahead (b :: bs) (i + 1 + 1) = b.length + ahead bs (i + 1) := by simp [ahead]
      refine ⟨n, ?_, h2, by rw [e1, e2, h3]; omega, by rw [e1, List.flatten_cons, List.length_append]; omega⟩
      rw [e1, List.flatten_cons, ← List.drop_drop, List.drop_left]
      exact h1
theorem ahead_all {l : List (Int × List Int)} {cs : List (List Int)} (k : joinL L S P l = .ok cs) : ahead cs l.length = cs.flatten.length := by
  unfold ahead
  rw [← joinL_length k, List.take_length]

theorem write_one (hL : 4 ≤ L) {b : List Int} (ho : Octets b) {t : Int} {x : List Int} {n : Nat} (h : oneL L S P B O b = .ok (t, x, n)) : writeL L S P t x = .ok (b.take n) ∧ 4 ≤ n ∧ n ≤ b.length := by
  have hb := oneL_ok hL h
  unfold oneL at h
  have hm := numL_snoc_bound ((ho.drop 2).take 2)
  have ht := numL_snoc_bound (ho.take 2)
  obtain ⟨m, hmm⟩ : ∃ m, m = (numL ((b.drop 2).take 2)).toNat := ⟨_, rfl⟩
  have hmi : (m : Int) = numL ((b.drop 2).take 2) := by omega
  rw [← hmm] at h
  split at h
  · cases h
  · rename_i h4
    split at h
    · cases h
    · rename_i hlen
      split at h
      · cases h
      · rename_i hle
        split at h
        · cases h
        · rename_i hz
          simp only [Except.ok.injEq, Prod.mk.injEq] at h
          obtain ⟨rfl, rfl, rfl⟩ := h
          have hok : lenOk L S P m = true := by simpa using hlen
          have hLm : L ≤ m := by unfold lenOk at hok; simp at hok; exact hok.1
          have l2 : (b.take 2).length = 2 := by rw [List.length_take]; omega
          have l22 : ((b.drop 2).take 2).length = 2 := by rw [List.length_take, List.length_drop]; omega
          rw [l2, p256_two] at ht
          rw [l22, p256_two] at hm
          have lx : ((b.drop 4).take (m - 4)).length = m - 4 := by rw [List.length_take, List.length_drop]; omega
          have e4 : 4 + ((b.drop 4).take (m - 4)).length = m := by rw [lx]; omega
          refine ⟨?_, hb.1, hb.2.1⟩
          unfold writeL
          rw [e4, if_pos ⟨hok, ht.1, ht.2, by omega⟩]
          have b1 : bytesL (numL (b.take 2)) 2 = b.take 2 := by have := bytesL_numL (ho.take 2); rwa [l2] at this
          have b2 : bytesL (m : Int) 2 = (b.drop 2).take 2 := by rw [hmi]; have := bytesL_numL ((ho.drop 2).take 2); rwa [l22] at this
          have hzz : zeros ((b.drop m).take (zer S P m)) = true := by simpa using hz
          have b3 := zeros_eq hzz
          have lz : ((b.drop m).take (zer S P m)).length = zer S P m := by rw [List.length_take, List.length_drop]; omega
          rw [lz] at b3
          rw [b1, b2, ← b3]
          congr 1
          have s1 : b.take 4 = b.take 2 ++ (b.drop 2).take 2 := List.take_add (i := 2) (j := 2)
          have s2 : b.take m = b.take 4 ++ (b.drop 4).take (m - 4) := by
            have := List.take_add (l := b) (i := 4) (j := m - 4)
            rwa [show 4 + (m - 4) = m by omega] at this
          rw [List.take_add, s2, s1]

theorem join_cut (hL : 4 ≤ L) : ∀ (k : Nat) {b : List Int} {m : List (Int × List Int)}, b.length ≤ k → Octets b → cutL L S P B O b = .ok m → ∃ cs, joinL L S P m = .ok cs ∧ cs.flatten = b := by
  intro k
  induction k with
  | zero =>
    intro b m hk ho h
    have : b = [] := List.eq_nil_of_length_eq_zero (by omega)
    subst this
    rw [cutL_nil] at h
    cases h
    exact ⟨[], rfl, rfl⟩
  | succ k ih =>
    intro b m hk ho h
    by_cases hb : b = []
    · subst hb
      rw [cutL_nil] at h
      cases h
      exact ⟨[], rfl, rfl⟩
    · cases hone : oneL L S P B O b with
      | error q => rw [cutL_err hb hone] at h; cases h
      | ok r =>
        obtain ⟨t, x, n⟩ := r
        rw [cutL_ok hL hb hone] at h
        obtain ⟨hw, h4, hn⟩ := write_one hL ho hone
        cases hc : cutL L S P B O (b.drop n) with
        | error q => rw [hc] at h; cases h
        | ok m' =>
          rw [hc] at h
          simp [after] at h
          subst h
          obtain ⟨cs, hj, hf⟩ := ih (by rw [List.length_drop]; omega) (ho.drop n) hc
          refine ⟨b.take n :: cs, ?_, by rw [List.flatten_cons, hf, List.take_append_drop]⟩
          unfold joinL
          simp only [hw, hj]
          rfl

theorem cutL_len (hL : 4 ≤ L) : ∀ (k : Nat) {b : List Int} {m : List (Int × List Int)}, b.length ≤ k → Octets b → cutL L S P B O b = .ok m → m.length ≤ b.length ∧ ∀ h ∈ m, h.2.length ≤ b.length ∧ 0 ≤ h.1 ∧ h.1 < 65536 := by
  intro k
  induction k with
  | zero =>
    intro b m hk ho h
    have : b = [] := List.eq_nil_of_length_eq_zero (by omega)
    subst this
    rw [cutL_nil] at h
    cases h
    simp
  | succ k ih =>
    intro b m hk ho h
    by_cases hb : b = []
    · subst hb
      rw [cutL_nil] at h
      cases h
      simp
    · cases hone : oneL L S P B O b with
      | error q => rw [cutL_err hb hone] at h; cases h
      | ok r =>
        obtain ⟨t, x, n⟩ := r
        rw [cutL_ok hL hb hone] at h
        obtain ⟨h4, hn, hx⟩ := oneL_ok hL hone
        cases hc : cutL L S P B O (b.drop n) with
        | error q => rw [hc] at h; cases h
        | ok m' =>
          rw [hc] at h
          simp [after] at h
          subst h
          have hd : (b.drop n).length = b.length - n := List.length_drop
          obtain ⟨h1, h2⟩ := ih (by omega) (ho.drop n) hc
          obtain ⟨hw, _, _⟩ := write_one hL ho hone
          have ht : 0 ≤ t ∧ t < 65536 := by
            unfold writeL at hw
            split at hw
            · rename_i k; exact ⟨k.2.1, k.2.2.1⟩
            · cases hw
          refine ⟨by simp; omega, ?_⟩
          intro y hy
          rcases List.mem_cons.1 hy with rfl | hy
          · exact ⟨by simp only; omega, ht.1, ht.2⟩
          · have := h2 y hy; exact ⟨by omega, this.2⟩
end
end Go.Proofs.Ytaddhahghglabaa
