/- Put together out of several texts. -/
import Derived.Test.YtdjlbejhphbcoaaGreatV1
import Derived.Test.YtdjlbejhphbcoaaGreatV7
import Derived.Test.YtdjlbejhphbcoaaGreatV5
import Derived.OneCell
import Derived.Test.YtdjlbejhphbcoaaGreatV4
import Derived.Deep.RegionWith
import Derived.Deep.RegionHeld3
import Derived.Deep.DeepCutAuto
import Derived.Deep.CutBlock
import Derived.StillTailTactics
namespace Go.Proofs.YtdjlbejhphbcoaaGreat
open Go.RowKit
set_option maxRecDepth 100000

/-- a shape, as a value -/
def shV (L S : Int) (P : Bool) (B O : Int) : Value := .agg #[.int .i64 L, .int .i64 S, .bool P, .int .i64 B, .int .i64 O]
/-- a shape that may be -/
def MayS (L S B O : Int) : Prop := 4 ≤ L ∧ L ≤ 60000 ∧ 1 ≤ S ∧ S ≤ 64 ∧ B ≠ 0 ∧ O ≠ 0
/-- a shape stands in a block -/
structure ShAt (w : World) (b : Nat) (L S : Int) (P : Bool) (B O : Int) : Prop where
  c0 : w.cell? ⟨b, 0, none⟩ = some (.int .i64 L)
  c1 : w.cell? ⟨b, 1, none⟩ = some (.int .i64 S)
  c2 : w.cell? ⟨b, 2, none⟩ = some (.bool P)
  c3 : w.cell? ⟨b, 3, none⟩ = some (.int .i64 B)
  c4 : w.cell? ⟨b, 4, none⟩ = some (.int .i64 O)

theorem mayBe_yes (w : World) (L S : Int) (P : Bool) (B O : Int) (h : MayS L S B O) :
    Calls Tryz.prog 95 #[.agg #[.int .i64 L, .int .i64 S, .bool P, .int .i64 B, .int .i64 O]] w fun e w' => e = .returned (.bool true) ∧ Below w.heap.size w w' := by
  obtain ⟨h1, h2, h3, h4, h5, h6⟩ := h
  have e5 : (B != 0) = true := by simpa using h5
  have e6 : (O != 0) = true := by simpa using h6
  clear h5 h6
  go_enter Tryz.func95, Tryz.ntmps95
  go_wp2
  go_ret
  exact ⟨rfl, below_alloc _ _⟩
/-- whether a thing may tell the length n -/
def lenOk (L S : Nat) (P : Bool) (n : Nat) : Bool := decide (L ≤ n) && (P || n % S == 0)
/-- how many zeros stand behind a thing of the length n -/
def zer (S : Nat) (P : Bool) (n : Nat) : Nat := if P = false ∨ n % S = 0 then 0 else S - n % S

theorem zer_lt {S : Nat} (hS : 1 ≤ S) (P : Bool) (n : Nat) : zer S P n < S := by unfold zer; split <;> omega

theorem isLength_any (w : World) (L S n : Nat) (P : Bool) (B O : Int) (hS : 1 ≤ S) :
    Calls Tryz.prog 127 #[.agg #[.int .i64 L, .int .i64 S, .bool P, .int .i64 B, .int .i64 O], .int .i64 n] w fun e w' => e = .returned (.bool (lenOk L S P n)) ∧ Below w.heap.size w w' := by
  have hto := over_cast (l := n) hS
  have hn0 : ((S : Int) == 0) = false := by simp; omega
  unfold lenOk
  by_cases h1 : L ≤ n
  · have h1' : (L : Int) ≤ (n : Int) := by omega
    have e1 : decide (L ≤ n) = true := by simpa using h1
    rw [e1]
    clear e1 h1
    cases P
    · obtain ⟨o, ho⟩ : ∃ o, o = n % S := ⟨_, rfl⟩
      rw [← ho] at hto ⊢
      clear ho
      rcases Nat.eq_zero_or_pos o with h0 | h0
      · subst h0
        go_enter Tryz.func127, Tryz.ntmps127
        go_wp2
        go_ret
        exact ⟨rfl, below_alloc _ _⟩
      · have e0 : (o == 0) = false := by simp; omega
        have e0' : ((o : Int) == 0) = false := by simp; omega
        rw [e0]
        clear e0 h0
        go_enter Tryz.func127, Tryz.ntmps127
        go_wp2
        go_ret
        exact ⟨rfl, below_alloc _ _⟩
    · clear hto
      go_enter Tryz.func127, Tryz.ntmps127
      go_wp2
      go_ret
      exact ⟨rfl, below_alloc _ _⟩
  · have h1' : (n : Int) < (L : Int) := by omega
    have e1 : decide (L ≤ n) = false := by simpa using h1
    rw [e1]
    clear e1 h1 hto
    go_enter Tryz.func127, Tryz.ntmps127
    go_wp2
    go_ret
    exact ⟨rfl, below_alloc _ _⟩

theorem zeros_any (w : World) (L S n : Nat) (P : Bool) (B O : Int) (hS : 1 ≤ S) (hS64 : S ≤ 64) :
    Calls Tryz.prog 97 #[.agg #[.int .i64 L, .int .i64 S, .bool P, .int .i64 B, .int .i64 O], .int .i64 n] w fun e w' => e = .returned (.int .i64 (zer S P n)) ∧ Below w.heap.size w w' := by
  have hto := over_cast (l := n) hS
  have hn0 : ((S : Int) == 0) = false := by simp; omega
  have hlt : n % S < S := Nat.mod_lt _ (by omega)
  obtain ⟨z, hz⟩ : ∃ z, z = zer S P n := ⟨_, rfl⟩
  rw [← hz]
  unfold zer at hz
  obtain ⟨o, ho⟩ : ∃ o, o = n % S := ⟨_, rfl⟩
  rw [← ho] at hto hlt hz
  clear ho
  cases P
  · obtain rfl : z = 0 := by simpa using hz
    clear hz
    go_enter Tryz.func97, Tryz.ntmps97
    go_wp2
    go_ret
    exact ⟨rfl, below_alloc _ _⟩
  · rcases Nat.eq_zero_or_pos o with h0 | h0
    · subst h0
      obtain rfl : z = 0 := by simpa using hz
      clear hz
      go_enter Tryz.func97, Tryz.ntmps97
      go_wp2
      go_ret
      exact ⟨rfl, below_alloc _ _⟩
    · have e0' : ((o : Int) == 0) = false := by simp; omega
      have e1 : ¬ o = 0 := by omega
      have hso : (S : Int) - (o : Int) = (z : Int) := by simp [e1] at hz; omega
      clear h0 hz e1 hlt
      go_enter Tryz.func97, Tryz.ntmps97
      go_wp2
      go_ret
      exact ⟨rfl, below_alloc _ _⟩

end Go.Proofs.YtdjlbejhphbcoaaGreat
namespace Go.Proofs.YtdjlbejhphbcoaaGreat
open Go.RowKit
set_option maxRecDepth 100000

theorem ShAt.below {w w' : World} {b : Nat} {L S : Int} {P : Bool} {B O : Int} (h : ShAt w b L S P B O) (hb : Below w.heap.size w w') : ShAt w' b L S P B O :=
  ⟨cell_keep h.c0 hb, cell_keep h.c1 hb, cell_keep h.c2 hb, cell_keep h.c3 hb, cell_keep h.c4 hb⟩
theorem ShAt.by_ {w w' : World} {b : Nat} {L S : Int} {P : Bool} {B O : Int} (h : ShAt w b L S P B O) {row : Option Nat} (hb : w.grownBy w' row) (hne : row ≠ some b) : ShAt w' b L S P B O :=
  ⟨hb.cell h.c0 (fun e => hne e.symm), hb.cell h.c1 (fun e => hne e.symm), hb.cell h.c2 (fun e => hne e.symm), hb.cell h.c3 (fun e => hne e.symm), hb.cell h.c4 (fun e => hne e.symm)⟩
theorem new_lit (l : List Int) (a : Option Addr) (n c : Nat) (s o : Int) (w : World) (hn : n = l.length) (hl : l.length ≤ 140737488355328) (ho : Octets l) (hI : Ints .u8 w a l) :
    Calls Tryz.prog 35 #[.slice a n c, .int .i64 s, .int .i64 o] w fun e w' => ∃ g, e = .returned (.pointer (some ⟨g, 0, none⟩)) ∧ Cur w' g w.heap.size l 0 s o 0 ∧ Below w.heap.size w w' ∧ w.heap.size < g ∧ g < w'.heap.size := by
  subst hn; exact new_any l a c s o w hl ho hI
/-- a shape that has just been boxed -/
theorem boxed_shape (w : World) (L S : Int) (P : Bool) (B O : Int) (t : TypeId) :
    ∃ W, (w.alloc (.cells #[.int .i64 L, .int .i64 S, .bool P, .int .i64 B, .int .i64 O] t)).drew = W ∧ Below w.heap.size w W ∧ w.heap.size < W.heap.size ∧ ShAt W w.heap.size L S P B O := by
  have hc : ∀ i v, (#[Value.int .i64 L, .int .i64 S, .bool P, .int .i64 B, .int .i64 O] : Array Value)[i]? = some v → ((w.alloc (.cells #[.int .i64 L, .int .i64 S, .bool P, .int .i64 B, .int .i64 O] t)).drew).cell? ⟨w.heap.size, i, none⟩ = some v :=
    fun i v h => cell_of_cells (t := t) (_root_.Go.heap_alloc_new w _) h
  exact ⟨_, rfl, (Below.refl _ _).alloc (Nat.le_refl _) _ |>.drew, by simp, hc 0 _ rfl, hc 1 _ rfl, hc 2 _ rfl, hc 3 _ rfl, hc 4 _ rfl⟩

set_option maxRecDepth 100000 in
theorem readHead_ok (w : World) (L S : Nat) (P : Bool) (B O : Int) (hS : 1 ≤ S) (b : List Int) (a : Option Addr) (c : Nat) (hb : b.length ≤ c) (hc : c ≤ 9223372036854775807) (hI : Ints .u8 w a b) (ho : Octets b) (h4 : 4 ≤ b.length)
    (n : Nat) (hn : numL ((b.drop 2).take 2) = n) (hok : lenOk L S P n = true) :
    Calls Tryz.prog 96 #[.agg #[.int .i64 L, .int .i64 S, .bool P, .int .i64 B, .int .i64 O], .slice a b.length c] w fun e w' =>
      e = .returned (.tuple #[.int .i64 (numL (b.take 2)), .int .i64 n, .int .i64 0]) ∧ Below w.heap.size w w' := by
  obtain ⟨M, off, rfl⟩ : ∃ M off, a = some ⟨M, off, none⟩ := by obtain ⟨M, off, h, _⟩ := hI 0 (by omega); exact ⟨M, off, h⟩
  have hc4 : 4 ≤ c := by omega
  have hc4i : (4 : Int) ≤ (c : Int) := by omega
  have hmin : ((if (4 : Int) < (b.length : Int) then 4 else (b.length : Int)) : Int) = 4 := by split <;> omega
  obtain ⟨W, hW, hbW, hlt, hsh⟩ := boxed_shape w L S P B O 90
  have HW := hid hW
  clear hW
  have hIW : Ints .u8 W (some ⟨M, off, none⟩) (b.take 4) := (hI.take 4).below hbW
  have hl4 : (b.take 4).length = 4 := by rw [List.length_take]; omega
  have ho4 : Octets (b.take 4) := ho.take 4
  have hv1 : (b.take 4).take 2 = b.take 2 := by rw [List.take_take]; rfl
  have hv2 : ((b.take 4).drop 2).take 2 = (b.drop 2).take 2 := by rw [List.drop_take, List.take_take]; rfl
  have hnb := numL_snoc_bound (ho.take 2)
  have hnm := numL_snoc_bound ((ho.drop 2).take 2)
  have hl2 : (b.take 2).length = 2 := by rw [List.length_take]; omega
  have hl22 : ((b.drop 2).take 2).length = 2 := by rw [List.length_take, List.length_drop]; omega
  have hp2 : p256 2 = 65536 := by decide
  rw [hl2, hp2] at hnb
  rw [hl22, hp2, hn] at hnm
  obtain ⟨t, ht⟩ : ∃ t, t = numL (b.take 2) := ⟨_, rfl⟩
  rw [← ht] at hnb ⊢
  obtain ⟨hd, hhd⟩ : ∃ hd, hd = b.take 4 := ⟨_, rfl⟩
  rw [← hhd] at hIW hl4 ho4 hv1 hv2
  rw [← hv1] at ht
  rw [← hv2] at hn
  have LW := fun W => isLength_any W L S n P B O hS
  rw [hok] at LW
  have HN := hid hn
  have HT := hid ht
  have H4 := hid hl4
  clear hI ho hv1 hv2 hl2 hl22 hp2 hn ht hhd hok hl4
  go_enter Tryz.func96, Tryz.ntmps96
  go_upto_region 1 with fail
  refine wp_tail 9 (by kernel_rfl) (by kernel_rfl) ?_
  simp only [List.take_succ_cons, List.take_zero, List.drop_succ_cons, List.drop_zero]
  repeat still_step
  refine wpStill_nil ?_
  rw [HW.out]
  go_wp2_with fail
  refine (new_lit hd _ _ _ _ _ W (by rw [H4.out]) (by rw [H4.out]; omega) ho4 hIW).mono ?_
  rintro e w1 ⟨g, rfl, hcur, hb1, hg1, hg2⟩
  have hsh1 := hsh.below hb1
  have hB1 := below_more hbW hb1
  go_wp2_with fail
  refine (hcur.num_ok (n := 2) (by omega) (by omega) (by rw [H4.out]; omega)).mono ?_
  rintro e w2 ⟨rfl, hcur2, hb2⟩
  rw [← HT.out]
  have hsh2 := hsh1.by_ hb2 (by simp; omega)
  have hB2 := below_by hB1 hb2 (by omega)
  go_wp2_with fail
  refine (hcur2.num_ok (n := 2) (by omega) (by omega) (by rw [List.length_drop, H4.out]; omega)).mono ?_
  rintro e w3 ⟨rfl, hcur3, hb3⟩
  rw [HN.out]
  obtain ⟨c0, c1, c2, c3, c4⟩ := hsh2.by_ hb3 (by simp; omega)
  have hB3 := below_by hB2 hb3 (by omega)
  clear hsh hsh1 hsh2 hB1 hB2 hcur hcur2
  go_wp2_with fail
  refine (LW _).mono ?_
  rintro e w4 ⟨rfl, hb4⟩
  go_wp2_with fail
  refine (hcur3.below hb4).err.mono ?_
  rintro e w5 ⟨rfl, rfl⟩
  go_wp2
  refine bodyPost_ret (v := .tuple #[.int .i64 t, .int .i64 n, .int .i64 0]) (by simp [results, Tryz.results96, go_sem]) rfl ⟨rfl, ?_⟩
  exact below_more hB3 hb4

set_option maxRecDepth 100000 in
theorem readHead_wrong (w : World) (L S : Nat) (P : Bool) (B O : Int) (hS : 1 ≤ S) (b : List Int) (a : Option Addr) (c : Nat) (hb : b.length ≤ c) (hc : c ≤ 9223372036854775807) (hI : Ints .u8 w a b) (ho : Octets b) (h4 : 4 ≤ b.length)
    (n : Nat) (hn : numL ((b.drop 2).take 2) = n) (hok : lenOk L S P n = false) :
    Calls Tryz.prog 96 #[.agg #[.int .i64 L, .int .i64 S, .bool P, .int .i64 B, .int .i64 O], .slice a b.length c] w fun e w' =>
      ∃ x y, e = .returned (.tuple #[.int .i64 x, .int .i64 y, .int .i64 B]) ∧ Below w.heap.size w w' := by
  obtain ⟨M, off, rfl⟩ : ∃ M off, a = some ⟨M, off, none⟩ := by obtain ⟨M, off, h, _⟩ := hI 0 (by omega); exact ⟨M, off, h⟩
  have hc4 : 4 ≤ c := by omega
  have hc4i : (4 : Int) ≤ (c : Int) := by omega
  have hmin : ((if (4 : Int) < (b.length : Int) then 4 else (b.length : Int)) : Int) = 4 := by split <;> omega
  obtain ⟨W, hW, hbW, hlt, hsh⟩ := boxed_shape w L S P B O 90
  have HW := hid hW
  clear hW
  have hIW : Ints .u8 W (some ⟨M, off, none⟩) (b.take 4) := (hI.take 4).below hbW
  have hl4 : (b.take 4).length = 4 := by rw [List.length_take]; omega
  have ho4 : Octets (b.take 4) := ho.take 4
  have hv2 : ((b.take 4).drop 2).take 2 = (b.drop 2).take 2 := by rw [List.drop_take, List.take_take]; rfl
  have hnb := numL_snoc_bound ((ho.take 4).take 2)
  have hnm := numL_snoc_bound ((ho.drop 2).take 2)
  have hl2 : ((b.take 4).take 2).length = 2 := by rw [List.length_take]; omega
  have hl22 : ((b.drop 2).take 2).length = 2 := by rw [List.length_take, List.length_drop]; omega
  have hp2 : p256 2 = 65536 := by decide
  rw [hl2, hp2] at hnb
  rw [hl22, hp2, hn] at hnm
  obtain ⟨hd, hhd⟩ : ∃ hd, hd = b.take 4 := ⟨_, rfl⟩
  rw [← hhd] at hIW hl4 ho4 hv2 hnb
  obtain ⟨t, ht⟩ : ∃ t, t = numL (hd.take 2) := ⟨_, rfl⟩
  rw [← ht] at hnb
  rw [← hv2] at hn
  have LW := fun W => isLength_any W L S n P B O hS
  rw [hok] at LW
  have HN := hid hn
  have HT := hid ht
  have H4 := hid hl4
  clear hI ho hv2 hl2 hl22 hp2 hn ht hhd hok hl4
  go_enter Tryz.func96, Tryz.ntmps96
  go_upto_region 1 with fail
  refine wp_tail 9 (by kernel_rfl) (by kernel_rfl) ?_
  simp only [List.take_succ_cons, List.take_zero, List.drop_succ_cons, List.drop_zero]
  repeat still_step
  refine wpStill_nil ?_
  rw [HW.out]
  go_wp2_with fail
  refine (new_lit hd _ _ _ _ _ W (by rw [H4.out]) (by rw [H4.out]; omega) ho4 hIW).mono ?_
  rintro e w1 ⟨g, rfl, hcur, hb1, hg1, hg2⟩
  have hsh1 := hsh.below hb1
  have hB1 := below_more hbW hb1
  go_wp2_with fail
  refine (hcur.num_ok (n := 2) (by omega) (by omega) (by rw [H4.out]; omega)).mono ?_
  rintro e w2 ⟨rfl, hcur2, hb2⟩
  rw [← HT.out]
  have hsh2 := hsh1.by_ hb2 (by simp; omega)
  have hB2 := below_by hB1 hb2 (by omega)
  go_wp2_with fail
  refine (hcur2.num_ok (n := 2) (by omega) (by omega) (by rw [List.length_drop, H4.out]; omega)).mono ?_
  rintro e w3 ⟨rfl, hcur3, hb3⟩
  rw [HN.out]
  obtain ⟨c0, c1, c2, c3, c4⟩ := hsh2.by_ hb3 (by simp; omega)
  have hsh3 := hsh2.by_ hb3 (by simp; omega)
  have hB3 := below_by hB2 hb3 (by omega)
  clear hsh hsh1 hsh2 hB1 hB2 hcur hcur2
  go_wp2_with fail
  refine (LW _).mono ?_
  rintro e w4 ⟨rfl, hb4⟩
  obtain ⟨d0, d1, d2, d3, d4⟩ := hsh3.below hb4
  go_wp2_with fail
  refine ((hcur3.below hb4).fail B).mono ?_
  rintro e w5 ⟨rfl, hcur5, hb5⟩
  go_wp2_with fail
  refine hcur5.err.mono ?_
  rintro e w6 ⟨rfl, rfl⟩
  go_wp2
  refine bodyPost_ret (v := .tuple #[.int .i64 t, .int .i64 n, .int .i64 B]) (by simp [results, Tryz.results96, go_sem]) rfl ⟨t, n, rfl, ?_⟩
  exact below_by (below_more hB3 hb4) hb5 (by omega)

set_option maxRecDepth 100000 in
theorem readHead_short (w : World) (L S : Nat) (P : Bool) (B O : Int) (hS : 1 ≤ S) (hL : 4 ≤ L) (hB : B ≠ 0) (b : List Int) (a : Option Addr) (c : Nat) (hb : b.length ≤ c) (hI : Ints .u8 w a b) (ho : Octets b) (h4 : b.length < 4) :
    Calls Tryz.prog 96 #[.agg #[.int .i64 L, .int .i64 S, .bool P, .int .i64 B, .int .i64 O], .slice a b.length c] w fun e w' =>
      ∃ x y, e = .returned (.tuple #[.int .i64 x, .int .i64 y, .int .i64 B]) ∧ Below w.heap.size w w' := by
  have hbi : (b.length : Int) ≤ (c : Int) := by omega
  have hmin : ((if (4 : Int) < (b.length : Int) then 4 else (b.length : Int)) : Int) = b.length := by split <;> omega
  have h4i : (b.length : Int) < 4 := by omega
  obtain ⟨W, hW, hbW, hlt, hsh⟩ := boxed_shape w L S P B O 90
  have HW := hid hW
  have hIW : Ints .u8 W a b := hI.below hbW
  have LW := fun W => isLength_any W L S 0 P B O hS
  rw [show lenOk L S P 0 = false by unfold lenOk; simp; omega] at LW
  have HB := hid hB
  clear hI hW hB
  rcases Nat.lt_or_ge b.length 2 with h2 | h2
  · go_enter Tryz.func96, Tryz.ntmps96
    go_upto_region 1 with fail
    refine wp_tail 9 (by kernel_rfl) (by kernel_rfl) ?_
    simp only [List.take_succ_cons, List.take_zero, List.drop_succ_cons, List.drop_zero]
    repeat still_step
    refine wpStill_nil ?_
    rw [HW.out]
    go_wp2_with fail
    refine (new_lit b _ _ _ _ _ W rfl (by omega) ho hIW).mono ?_
    rintro e w1 ⟨g, rfl, hcur, hb1, hg1, hg2⟩
    have hsh1 := hsh.below hb1
    have hB1 := below_more hbW hb1
    go_wp2_with fail
    refine (hcur.num_short (n := 2) (by omega) (by omega) (by omega)).mono ?_
    rintro e w2 ⟨rfl, hcur2, hb2⟩
    have hsh2 := hsh1.by_ hb2 (by simp; omega)
    have hB2 := below_by hB1 hb2 (by omega)
    go_wp2_with fail
    refine (hcur2.num_late HB.out 2).mono ?_
    rintro e w3 ⟨rfl, hb3⟩
    have hsh3 := hsh2.below hb3
    obtain ⟨c0, c1, c2, c3, c4⟩ := hsh2.below hb3
    have hB3 := below_more hB2 hb3
    have hcur3 := hcur2.below hb3
    clear hsh hsh1 hsh2 hB1 hB2 hcur hcur2
    go_wp2_with fail
    refine (LW _).mono ?_
    rintro e w4 ⟨rfl, hb4⟩
    obtain ⟨d0, d1, d2, d3, d4⟩ := hsh3.below hb4
    go_wp2_with fail
    refine ((hcur3.below hb4).fail_late HB.out B).mono ?_
    rintro e w5 ⟨rfl, rfl⟩
    go_wp2_with fail
    refine (hcur3.below hb4).err.mono ?_
    rintro e w6 ⟨rfl, rfl⟩
    go_wp2
    refine bodyPost_ret (v := .tuple #[.int .i64 0, .int .i64 0, .int .i64 B]) (by simp [results, Tryz.results96, go_sem]) rfl ⟨0, 0, rfl, ?_⟩
    exact below_more hB3 hb4
  · have hnb := numL_snoc_bound (ho.take 2)
    rw [show (b.take 2).length = 2 by rw [List.length_take]; omega, show p256 2 = 65536 by decide] at hnb
    obtain ⟨t, ht⟩ : ∃ t, t = numL (b.take 2) := ⟨_, rfl⟩
    rw [← ht] at hnb
    have HT := hid ht
    clear ht
    go_enter Tryz.func96, Tryz.ntmps96
    go_upto_region 1 with fail
    refine wp_tail 9 (by kernel_rfl) (by kernel_rfl) ?_
    simp only [List.take_succ_cons, List.take_zero, List.drop_succ_cons, List.drop_zero]
    repeat still_step
    refine wpStill_nil ?_
    rw [HW.out]
    go_wp2_with fail
    refine (new_lit b _ _ _ _ _ W rfl (by omega) ho hIW).mono ?_
    rintro e w1 ⟨g, rfl, hcur, hb1, hg1, hg2⟩
    have hsh1 := hsh.below hb1
    have hB1 := below_more hbW hb1
    go_wp2_with fail
    refine (hcur.num_ok (n := 2) (by omega) (by omega) (by omega)).mono ?_
    rintro e w2 ⟨rfl, hcur2, hb2⟩
    rw [← HT.out]
    have hsh2 := hsh1.by_ hb2 (by simp; omega)
    have hB2 := below_by hB1 hb2 (by omega)
    go_wp2_with fail
    refine (hcur2.num_short (n := 2) (by omega) (by omega) (by rw [List.length_drop]; omega)).mono ?_
    rintro e w3 ⟨rfl, hcur3, hb3⟩
    have hsh3 := hsh2.by_ hb3 (by simp; omega)
    obtain ⟨c0, c1, c2, c3, c4⟩ := hsh2.by_ hb3 (by simp; omega)
    have hB3 := below_by hB2 hb3 (by omega)
    clear hsh hsh1 hsh2 hB1 hB2 hcur hcur2
    go_wp2_with fail
    refine (LW _).mono ?_
    rintro e w4 ⟨rfl, hb4⟩
    obtain ⟨d0, d1, d2, d3, d4⟩ := hsh3.below hb4
    go_wp2_with fail
    refine ((hcur3.below hb4).fail_late HB.out B).mono ?_
    rintro e w5 ⟨rfl, rfl⟩
    go_wp2_with fail
    refine (hcur3.below hb4).err.mono ?_
    rintro e w6 ⟨rfl, rfl⟩
    go_wp2
    refine bodyPost_ret (v := .tuple #[.int .i64 t, .int .i64 0, .int .i64 B]) (by simp [results, Tryz.results96, go_sem]) rfl ⟨t, 0, rfl, ?_⟩
    exact below_more hB3 hb4
end Go.Proofs.YtdjlbejhphbcoaaGreat
namespace Go.Proofs.YtdjlbejhphbcoaaGreat
open Go.RowKit
set_option maxRecDepth 100000

theorem getW_zeros {z : Nat} (h1 : 1 ≤ z) (h64 : z ≤ 64) {l : List Int} : getW [-(z : Int)] l = if l.length < z then .error 1 else if zeros (l.take z) then .ok [] else .error 2 := by
  have hw : isW (-(z : Int)) = true := by simp [isW]; omega
  have hr : rightW [-(z : Int)] = true := by simp [rightW, allW, hw]
  rw [getW, if_pos hr]
  simp only [getL, Int.natAbs_neg, Int.natAbs_natCast]
  rw [if_neg (show ¬ 0 < -(z : Int) by omega)]

theorem gives_ints {w w' : World} {row : Option Nat} {k : Nat} {out : List Int} (h : Gives 5 w w' row (.slice (some ⟨k, 0, none⟩) out.length out.length) (out.map (Value.int .u8))) : Ints .u8 w' (some ⟨k, 0, none⟩) out ∧ w.heap.size ≤ k ∧ k < w'.heap.size := by
  have ho := h.own
  rw [show out.map (Value.int .u8) = out.map (Value.int .u8) from rfl] at ho
  refine ⟨?_, h.new k rfl, (ho.lt k rfl).2⟩
  obtain ⟨a, c, he, _, _, hI⟩ := own_ints ho
  simp at he
  obtain ⟨rfl, _⟩ := he
  exact hI

theorem wrap_nat {n : Nat} (h : n ≤ 9223372036854775807) : IntKind.i64.wrap (n : Int) = n := by simp [IntKind.wrap, IntKind.bits, IntKind.signed]; omega

/-- what readBody leaves where it reads -/
def BodyPost (w : World) (out : List Int) (e : Ending) (w' : World) : Prop :=
  ∃ k, e = .returned (.tuple #[.slice (some ⟨k, 0, none⟩) out.length out.length, .int .i64 0]) ∧ w.heap.size ≤ k ∧ Ints .u8 w' (some ⟨k, 0, none⟩) out ∧ Below w.heap.size w w'

set_option maxRecDepth 100000 in
theorem readBody_plain (w : World) (L S : Int) (P : Bool) (B O : Int) (b : List Int) (a : Option Addr) (c n : Nat) (hb : b.length ≤ c) (hI : Ints .u8 w a b) (ho : Octets b) (hn : n ≤ b.length) (hm : n ≤ 1000000) :
    Calls Tryz.prog 98 #[.agg #[.int .i64 L, .int .i64 S, .bool P, .int .i64 B, .int .i64 O], .slice a b.length c, .int .i64 n, .int .i64 0] w (BodyPost w (b.take n)) := by
  have hnc : n ≤ c := by omega
  have hnci : (n : Int) ≤ (c : Int) := by omega
  have hmin : ((if n < b.length then (n : Int) else (b.length : Int)) : Int) = n := by split <;> omega
  have hni : (n : Int) ≤ (b.length : Int) := by omega
  have hwr := wrap_nat (n := n) (by omega)
  obtain ⟨W, hW, hbW, hlt, hsh⟩ := boxed_shape w L S P B O 90
  have HW := hid hW
  have hIW : Ints .u8 W a (b.take n) := (hI.take n).below hbW
  have hl : (b.take n).length = n := by rw [List.length_take]; omega
  have ho' : Octets (b.take n) := ho.take n
  have htt : (b.take n).take n = b.take n := by rw [List.take_take, Nat.min_self]
  obtain ⟨out, hout⟩ : ∃ out, out = b.take n := ⟨_, rfl⟩
  rw [← hout] at hIW hl ho' htt ⊢
  have HL := hid hl
  have HT := hid htt
  clear hI hW hl htt hout
  go_enter Tryz.func98, Tryz.ntmps98
  go_upto_region 1 with fail
  refine wp_tail 12 (by kernel_rfl) (by kernel_rfl) ?_
  simp only [List.take_succ_cons, List.take_zero, List.drop_succ_cons, List.drop_zero]
  repeat still_step
  refine wpStill_nil ?_
  rw [HW.out]
  go_wp2_with fail
  refine (new_lit out _ _ _ _ _ W (by rw [HL.out]) (by rw [HL.out]; omega) ho' hIW).mono ?_
  rintro e w1 ⟨g, rfl, hcur, hb1, hg1, hg2⟩
  have hB1 := below_more hbW hb1
  go_wp2_with fail
  refine (hcur.bytes_ok (n := n) (by rw [HL.out]; omega)).mono ?_
  rintro e w2 hpost
  rw [HT.out] at hpost
  obtain ⟨k, rfl, hG, hcur2⟩ := hpost
  obtain ⟨hI2, hk, hk2⟩ := gives_ints hG
  have hB2 := below_by hB1 hG.by_ (by omega)
  go_wp2_with fail
  refine hcur2.err.mono ?_
  rintro e w6 ⟨rfl, rfl⟩
  go_wp2
  refine bodyPost_ret (v := .tuple #[.slice (some ⟨k, 0, none⟩) out.length out.length, .int .i64 0]) (by simp [results, Tryz.results98, go_sem]) rfl ⟨k, rfl, ?_, hI2, hB2⟩
  have := hbW.size
  have := hb1.size
  omega

set_option maxRecDepth 100000 in
theorem readBody_zeros (w : World) (L S : Int) (P : Bool) (B O : Int) (b : List Int) (a : Option Addr) (c n z : Nat) (hz : 1 ≤ z) (hz64 : z ≤ 64) (hb : b.length ≤ c) (hc : c ≤ 9223372036854775807) (hI : Ints .u8 w a b) (ho : Octets b) (hn : n + z ≤ b.length) (hm : n ≤ 1000000)
    (ok : Bool) (hok : zeros ((b.drop n).take z) = ok) :
    Calls Tryz.prog 98 #[.agg #[.int .i64 L, .int .i64 S, .bool P, .int .i64 B, .int .i64 O], .slice a b.length c, .int .i64 n, .int .i64 z] w
      (fun e w' => if ok then BodyPost w (b.take n) e w' else ∃ v, e = .returned (.tuple #[v, .int .i64 O]) ∧ Below w.heap.size w w') := by
  obtain ⟨m, hmm⟩ : ∃ m : Nat, m = n + z := ⟨_, rfl⟩
  have hmc : m ≤ c := by omega
  have hmci : (m : Int) ≤ (c : Int) := by omega
  have hmin : ((if m < b.length then (m : Int) else (b.length : Int)) : Int) = m := by split <;> omega
  have hni : (m : Int) ≤ (b.length : Int) := by omega
  have hwr : IntKind.i64.wrap ((n : Int) + (z : Int)) = m := by rw [← Int.natCast_add, ← hmm]; exact wrap_nat (by omega)
  have hz0 : (0 : Int) < (z : Int) := by omega
  obtain ⟨W, hW, hbW, hlt, hsh⟩ := boxed_shape w L S P B O 90
  have HW := hid hW
  have hIW : Ints .u8 W a (b.take m) := (hI.take m).below hbW
  have hl : (b.take m).length = m := by rw [List.length_take]; omega
  have ho' : Octets (b.take m) := ho.take m
  have htt : (b.take m).take n = b.take n := by rw [List.take_take]; congr 1; omega
  have hdt : ((b.take m).drop n).take z = (b.drop n).take z := by rw [List.drop_take, List.take_take]; congr 1; omega
  have hln : (b.take n).length = n := by rw [List.length_take]; omega
  obtain ⟨all, hall⟩ : ∃ all, all = b.take m := ⟨_, rfl⟩
  obtain ⟨out, hout⟩ : ∃ out, out = b.take n := ⟨_, rfl⟩
  rw [← hall] at hIW hl ho' htt hdt
  rw [← hout] at htt hln ⊢
  rw [← hdt] at hok
  have hgw := getW_zeros hz hz64 (l := all.drop n)
  rw [if_neg (by rw [List.length_drop]; omega), hok] at hgw
  have HL := hid hl
  have HT := hid htt
  have HG := hid hgw
  have HM := hid hmm
  have HN := hid hln
  clear hI hW hl htt hdt hall hout hok hgw hmm hln
  go_enter Tryz.func98, Tryz.ntmps98
  go_upto_region 1 with fail
  refine wp_tail 12 (by kernel_rfl) (by kernel_rfl) ?_
  simp only [List.take_succ_cons, List.take_zero, List.drop_succ_cons, List.drop_zero]
  repeat still_step
  refine wpStill_nil ?_
  rw [HW.out]
  go_wp2_with fail
  refine (new_lit all _ _ _ _ _ W (by rw [HL.out]) (by rw [HL.out]; have := HM.out; omega) ho' hIW).mono ?_
  rintro e w1 ⟨g, rfl, hcur, hb1, hg1, hg2⟩
  have hB1 := below_more hbW hb1
  go_wp2_with fail
  refine (hcur.bytes_ok (n := n) (by rw [HL.out]; have := HM.out; omega)).mono ?_
  rintro e w2 hpost
  rw [HT.out] at hpost
  obtain ⟨k, rfl, hG, hcur2⟩ := hpost
  obtain ⟨hI2, hk, hk2⟩ := gives_ints hG
  have hB2 := below_by hB1 hG.by_ (by omega)
  have hgk : g < k := by omega
  have hk0 : w.heap.size ≤ k := by have := hbW.size; have := hb1.size; omega
  go_wp2_with fail
  cases ok
  · refine ((hcur2.below (below_alloc _ _)).row_odd [-(z : Int)] _ _ (by simp) (ints_one _ _ _ _) HG.out).mono ?_
    rintro e w3 ⟨rfl, hcur3, hb3⟩
    have hB3 := below_by (below_more hB2 (below_alloc _ _)) hb3 (by omega)
    go_wp2_with fail
    refine hcur3.err.mono ?_
    rintro e w6 ⟨rfl, rfl⟩
    go_wp2
    refine bodyPost_ret (v := .tuple #[.slice (some ⟨k, 0, none⟩) out.length out.length, .int .i64 O]) (by simp [results, Tryz.results98, go_sem]) rfl ?_
    exact ⟨⟨_, rfl⟩, hB3⟩
  · refine ((hcur2.below (below_alloc _ _)).row_ok [-(z : Int)] [] _ _ (by simp) (ints_one _ _ _ _) HG.out).mono ?_
    rintro e w3 ⟨v, rfl, hG3, hcur3⟩
    have hB3 := below_by (below_more hB2 (below_alloc _ _)) hG3.by_ (by omega)
    have hI3 := (hI2.below (below_alloc _ _)).by hG3.by_ (by simp; omega)
    go_wp2_with fail
    refine hcur3.err.mono ?_
    rintro e w6 ⟨rfl, rfl⟩
    go_wp2
    refine bodyPost_ret (v := .tuple #[.slice (some ⟨k, 0, none⟩) out.length out.length, .int .i64 0]) (by simp [results, Tryz.results98, go_sem]) rfl ?_
    exact ⟨k, rfl, hk0, hI3, hB3⟩

set_option maxRecDepth 100000 in
theorem readBody_short (w : World) (L S : Int) (P : Bool) (B O : Int) (hB : B ≠ 0) (b : List Int) (a : Option Addr) (c n z : Nat) (hz64 : z ≤ 64) (hb : b.length ≤ c) (hc : c ≤ 9223372036854775807) (hI : Ints .u8 w a b) (ho : Octets b) (hn : b.length < n + z) (hm : n ≤ 1000000) :
    Calls Tryz.prog 98 #[.agg #[.int .i64 L, .int .i64 S, .bool P, .int .i64 B, .int .i64 O], .slice a b.length c, .int .i64 n, .int .i64 z] w
      (fun e w' => ∃ v, e = .returned (.tuple #[v, .int .i64 B]) ∧ Below w.heap.size w w') := by
  obtain ⟨m, hmm⟩ : ∃ m : Nat, m = n + z := ⟨_, rfl⟩
  have hbi : (b.length : Int) ≤ (c : Int) := by omega
  have hni : ¬ (m : Int) < (b.length : Int) := by omega
  have hwr : IntKind.i64.wrap ((n : Int) + (z : Int)) = m := by rw [← Int.natCast_add, ← hmm]; exact wrap_nat (by omega)
  obtain ⟨W, hW, hbW, hlt, hsh⟩ := boxed_shape w L S P B O 90
  have HW := hid hW
  have hIW : Ints .u8 W a b := hI.below hbW
  have HM := hid hmm
  have HN := hid hn
  have HB := hid hB
  clear hI hW hmm hn hB
  go_enter Tryz.func98, Tryz.ntmps98
  go_upto_region 1 with fail
  refine wp_tail 12 (by kernel_rfl) (by kernel_rfl) ?_
  simp only [List.take_succ_cons, List.take_zero, List.drop_succ_cons, List.drop_zero]
  repeat still_step
  refine wpStill_nil ?_
  rw [HW.out]
  go_wp2_with fail
  refine (new_any b _ _ _ _ W (by have := HN.out; omega) ho hIW).mono ?_
  rintro e w1 ⟨g, rfl, hcur, hb1, hg1, hg2⟩
  have hB1 := below_more hbW hb1
  rcases Nat.lt_or_ge b.length n with h | h
  · go_wp2_with fail
    refine (hcur.bytes_short (n := (n : Int)) (by omega)).mono ?_
    rintro e w2 ⟨k, rfl, hG, hcur2⟩
    have hB2 := below_by hB1 hG.by_ (by omega)
    rcases Nat.eq_zero_or_pos z with hz | hz
    · subst hz
      go_wp2_with fail
      refine hcur2.err.mono ?_
      rintro e w6 ⟨rfl, rfl⟩
      go_wp2
      refine bodyPost_ret (v := .tuple #[.slice (some ⟨k, 0, none⟩) 0 0, .int .i64 B]) (by simp [results, Tryz.results98, go_sem]) rfl ?_
      exact ⟨_, rfl, hB2⟩
    · have hz0 : (0 : Int) < (z : Int) := by omega
      go_wp2_with fail
      refine ((hcur2.below (below_alloc _ _)).row_late HB.out _).mono ?_
      rintro e w3 ⟨rfl, rfl⟩
      go_wp2_with fail
      refine (hcur2.below (below_alloc _ _)).err.mono ?_
      rintro e w6 ⟨rfl, rfl⟩
      go_wp2
      refine bodyPost_ret (v := .tuple #[.slice (some ⟨k, 0, none⟩) 0 0, .int .i64 B]) (by simp [results, Tryz.results98, go_sem]) rfl ?_
      exact ⟨_, rfl, below_more hB2 (below_alloc _ _)⟩
  · have hz : 1 ≤ z := by have := HN.out; omega
    have hz0 : (0 : Int) < (z : Int) := by omega
    have hgw := getW_zeros hz hz64 (l := b.drop n)
    rw [if_pos (by rw [List.length_drop]; have := HN.out; omega)] at hgw
    have HG := hid hgw
    have hl : (b.take n).length = n := by rw [List.length_take]; omega
    obtain ⟨out, hout⟩ : ∃ out, out = b.take n := ⟨_, rfl⟩
    rw [← hout] at hl
    have HO := hid hout
    have HL := hid hl
    clear hgw hout hl
    go_wp2_with fail
    refine (hcur.bytes_ok (n := n) h).mono ?_
    rintro e w2 hpost
    rw [← HO.out] at hpost
    obtain ⟨k, rfl, hG, hcur2⟩ := hpost
    have hB2 := below_by hB1 hG.by_ (by omega)
    go_wp2_with fail
    refine ((hcur2.below (below_alloc _ _)).row_short [-(z : Int)] _ _ (by simp) (ints_one _ _ _ _) HG.out).mono ?_
    rintro e w3 ⟨rfl, hcur3, hb3⟩
    have hB3 := below_by (below_more hB2 (below_alloc _ _)) hb3 (by omega)
    go_wp2_with fail
    refine hcur3.err.mono ?_
    rintro e w6 ⟨rfl, rfl⟩
    go_wp2
    refine bodyPost_ret (v := .tuple #[.slice (some ⟨k, 0, none⟩) out.length out.length, .int .i64 B]) (by simp [results, Tryz.results98, go_sem]) rfl ?_
    exact ⟨_, rfl, hB3⟩
end Go.Proofs.YtdjlbejhphbcoaaGreat
namespace Go.Proofs.YtdjlbejhphbcoaaGreat
open Go.RowKit
set_option maxRecDepth 100000

/-- a store beside it -/
theorem Ints.set {k : IntKind} {w : World} {a : Option Addr} {l : List Int} (h : Ints k w a l) {b : Nat} (hb : a = none ∨ ∃ q, a = some ⟨q, 0, none⟩ ∧ b ≠ q) (i : Nat) (u : Value) : Ints k (w.setCell ⟨b, i, none⟩ u) a l := by
  rcases hb with rfl | ⟨q, rfl, hq⟩
  · intro j hj
    obtain ⟨_, _, he, _⟩ := h j hj
    simp at he
  · exact h.by (by_setCell w b i u) (by simpa using hq)

/-- bytes that came in, or lie in new memory, as the slice a, l.length, c -/
structure Holds (w : World) (a : Option Addr) (c : Nat) (l : List Int) : Prop where
  cap : l.length ≤ c
  max : c ≤ 9223372036854775807
  ints : Ints .u8 w a l
  oct : Octets l
  shape : 0 < c → ∃ b off, a = some ⟨b, off, none⟩

/-- the same, and in new memory -/
structure Newly (w w' : World) (a : Option Addr) (c : Nat) (l : List Int) : Prop where
  holds : Holds w' a c l
  far : a = none ∨ ∃ q, a = some ⟨q, 0, none⟩ ∧ w.heap.size ≤ q

theorem Holds.below {w w' : World} {a : Option Addr} {c : Nat} {l : List Int} (h : Holds w a c l) (hb : Below w.heap.size w w') : Holds w' a c l := ⟨h.cap, h.max, h.ints.below hb, h.oct, h.shape⟩

/-- the document's cursor, as a value -/
def refV (a : Option Addr) (m c : Nat) (r s o f : Int) : Value := .agg #[.slice a m c, .int .i64 r, .int .i64 s, .int .i64 o, .int .i64 f]

end Go.Proofs.YtdjlbejhphbcoaaGreat
namespace Go.Proofs.YtdjlbejhphbcoaaGreat
open Go.RowKit
set_option maxRecDepth 100000

/-- the first thing of bytes: its type, its body, how many bytes it has; or the error -/
def oneL (L S : Nat) (P : Bool) (B O : Int) (b : List Int) : Except Int (Int × List Int × Nat) :=
  if b.length < 4 then .error B
  else if lenOk L S P (numL ((b.drop 2).take 2)).toNat = false then .error B
  else if b.length < (numL ((b.drop 2).take 2)).toNat + zer S P (numL ((b.drop 2).take 2)).toNat then .error B
  else if zeros ((b.drop (numL ((b.drop 2).take 2)).toNat).take (zer S P (numL ((b.drop 2).take 2)).toNat)) = false then .error O
  else .ok (numL (b.take 2), (b.drop 4).take ((numL ((b.drop 2).take 2)).toNat - 4), (numL ((b.drop 2).take 2)).toNat + zer S P (numL ((b.drop 2).take 2)).toNat)

/-- what One answers -/
def OnePost (w : World) (r : Except Int (Int × List Int × Nat)) (e : Ending) (w' : World) : Prop :=
  match r with
  | .error q => e = .returned (.tuple #[.agg #[.int .i64 0, .slice none 0 0], .int .i64 0, .int .i64 q]) ∧ Below w.heap.size w w'
  | .ok (t, x, n) => ∃ a c, e = .returned (.tuple #[.agg #[.int .i64 t, .slice a x.length c], .int .i64 n, .int .i64 0]) ∧ x.length ≤ c ∧ c ≤ 9223372036854775807 ∧ Ints .u8 w' a x ∧ (a = none ∨ ∃ k, a = some ⟨k, 0, none⟩ ∧ w.heap.size ≤ k) ∧ Below w.heap.size w w'

theorem below_drew1 (w : World) : Below w.heap.size w w.drew := (Below.refl _ _).drew
/-- two cells of a block that may be written -/
structure Two (w : World) (b : Nat) (v0 v1 : Value) : Prop where
  c0 : w.cell? ⟨b, 0, none⟩ = some v0
  c1 : w.cell? ⟨b, 1, none⟩ = some v1
  f0 : w.frozen? ⟨b, 0, none⟩ = false
  f1 : w.frozen? ⟨b, 1, none⟩ = false
theorem frozen_keep {w w' : World} {p : Addr} {x : Value} (hc : w.cell? p = some x) (hb : Below w.heap.size w w') : w'.frozen? p = w.frozen? p := hb.frozen (World.block_lt_of_cell? w _ hc)
theorem Two.below {w w' : World} {b : Nat} {v0 v1 : Value} (h : Two w b v0 v1) (hb : Below w.heap.size w w') : Two w' b v0 v1 :=
  ⟨cell_keep h.c0 hb, cell_keep h.c1 hb, (frozen_keep h.c0 hb).trans h.f0, (frozen_keep h.c1 hb).trans h.f1⟩
theorem Two.of_block {w : World} {b : Nat} {v0 v1 : Value} {t : TypeId} (h : w.heap[b]? = some (.cells #[v0, v1] t (0, 0))) : Two w b v0 v1 := ⟨cell_of_cells h rfl, cell_of_cells h rfl, free_of_cells h 0, free_of_cells h 1⟩
theorem ShAt.of_block {w : World} {b : Nat} {L S : Int} {P : Bool} {B O : Int} {t : TypeId} (h : w.heap[b]? = some (.cells #[.int .i64 L, .int .i64 S, .bool P, .int .i64 B, .int .i64 O] t (0, 0))) : ShAt w b L S P B O :=
  ⟨cell_of_cells h rfl, cell_of_cells h rfl, cell_of_cells h rfl, cell_of_cells h rfl, cell_of_cells h rfl⟩

/-- a shape that has been boxed, and behind it a thing that is to be told -/
theorem boxed_thing (w : World) (L S : Int) (P : Bool) (B O : Int) (t u : TypeId) :
    ∃ W, (w.alloc (.cells #[.int .i64 L, .int .i64 S, .bool P, .int .i64 B, .int .i64 O] t)).alloc (.cells #[.int .i64 0, .slice none 0 0] u) = W ∧ Below w.heap.size w W ∧ W.heap.size = w.heap.size + 2 ∧ ShAt W w.heap.size L S P B O ∧ Two W (w.heap.size + 1) (.int .i64 0) (.slice none 0 0) := by
  have hs : (w.alloc (.cells #[.int .i64 L, .int .i64 S, .bool P, .int .i64 B, .int .i64 O] t)).heap.size = w.heap.size + 1 := by simp
  refine ⟨_, rfl, ((Below.refl _ _).alloc (Nat.le_refl _) _).alloc (by simp) _, by simp, (ShAt.of_block (t := t) ?_).below (below_alloc _ _), Two.of_block (t := u) ?_⟩
  · exact _root_.Go.heap_alloc_new w _
  · rw [← hs]; exact _root_.Go.heap_alloc_new _ _

theorem one_head (w : World) (L S : Nat) (P : Bool) (B O : Int) (h : MayS L S B O) (a : Option Addr) (n c : Nat) (q : Int) (hq : q ≠ 0)
    (hR : ∀ w1, Below w.heap.size w w1 → Calls Tryz.prog 96 #[.agg #[.int .i64 L, .int .i64 S, .bool P, .int .i64 B, .int .i64 O], .slice a n c] w1 fun e w' => ∃ x y, e = .returned (.tuple #[.int .i64 x, .int .i64 y, .int .i64 q]) ∧ Below w1.heap.size w1 w') :
    Calls Tryz.prog 55 #[.agg #[.int .i64 L, .int .i64 S, .bool P, .int .i64 B, .int .i64 O], .slice a n c] w (OnePost w (.error q)) := by
  obtain ⟨W, hW, hbW, hsz, hsh, htw⟩ := boxed_thing w L S P B O 90 86
  have HW := hid hW
  have hq0 : (q != 0) = true := by simpa using hq
  clear hW hq
  go_enter Tryz.func55, Tryz.ntmps55
  go_wp2_with fail
  rw [HW.out]
  refine (mayBe_yes _ _ _ _ _ _ h).mono ?_
  rintro e w1 ⟨rfl, hb1⟩
  have hsh1 := hsh.below hb1
  obtain ⟨d0, d1, d2, d3, d4⟩ := hsh1
  have htw1 := htw.below hb1
  have hB := below_more hbW hb1
  clear hsh htw
  go_wp2_with fail
  refine (hR _ hB).mono ?_
  rintro e w2 ⟨x, y, rfl, hb2⟩
  obtain ⟨c0, c1, f0, f1⟩ := htw1.below hb2
  have hB2 := below_more hB hb2
  go_wp2
  refine bodyPost_ret (v := .tuple #[.agg #[.int .i64 0, .slice none 0 0], .int .i64 0, .int .i64 q]) (by simp [results, Tryz.results55, go_sem, *]) rfl ⟨rfl, ?_⟩
  repeat refine Below.setCell ?_ (by simp) _
  exact hB2

set_option maxRecDepth 100000 in
set_option maxHeartbeats 1000000 in
theorem one_body_bad (w : World) (L S : Nat) (P : Bool) (B O : Int) (h : MayS L S B O) (M off m c : Nat) (hm : 4 ≤ m) (hmc : m ≤ c) (hc : c ≤ 9223372036854775807) (t : Int) (n z : Nat) (hz : zer S P n = z) (hz64 : z ≤ 64) (hn4 : 4 ≤ n) (hn : n ≤ 1000000)
    (q : Int) (hq : q ≠ 0)
    (hH : ∀ w1, Below w.heap.size w w1 → Calls Tryz.prog 96 #[.agg #[.int .i64 L, .int .i64 S, .bool P, .int .i64 B, .int .i64 O], .slice (some ⟨M, off, none⟩) m c] w1 fun e w' => e = .returned (.tuple #[.int .i64 t, .int .i64 n, .int .i64 0]) ∧ Below w1.heap.size w1 w')
    (hR : ∀ w1, Below w.heap.size w w1 → Calls Tryz.prog 98 #[.agg #[.int .i64 L, .int .i64 S, .bool P, .int .i64 B, .int .i64 O], .slice (if c = 4 then some ⟨M, off, none⟩ else some ⟨M, off + 4, none⟩) (m - 4) (c - 4), .int .i64 ((n - 4 : Nat) : Int), .int .i64 z] w1 fun e w' => ∃ v, e = .returned (.tuple #[v, .int .i64 q]) ∧ Below w1.heap.size w1 w') :
    Calls Tryz.prog 55 #[.agg #[.int .i64 L, .int .i64 S, .bool P, .int .i64 B, .int .i64 O], .slice (some ⟨M, off, none⟩) m c] w (OnePost w (.error q)) := by
  obtain ⟨W, hW, hbW, hsz, hsh, htw⟩ := boxed_thing w L S P B O 90 86
  have HW := hid hW
  have hq0 : (q != 0) = true := by simpa using hq
  have hmi : (4 : Int) ≤ (m : Int) := by omega
  have hci : (4 : Int) ≤ (c : Int) := by omega
  have hmci : (m : Int) ≤ (c : Int) := by omega
  have hw1 : IntKind.i64.wrap ((n : Int) - 4) = ((n - 4 : Nat) : Int) := by rw [show (n : Int) - 4 = ((n - 4 : Nat) : Int) by omega]; exact wrap_nat (by omega)
  have hw2 : IntKind.i64.wrap ((n : Int) + (z : Int) - (n : Int)) = (z : Int) := by rw [show (n : Int) + (z : Int) - (n : Int) = (z : Int) by omega]; exact wrap_nat (by omega)
  have hm4 : ((m : Int) - 4).toNat = m - 4 := by omega
  have hc4 : ((c : Int) - 4).toNat = c - 4 := by omega
  have HZ := fun w => zeros_any w L S n P B O (by obtain ⟨_, _, h3, _⟩ := h; omega) (by obtain ⟨_, _, _, h4, _⟩ := h; omega)
  rw [hz] at HZ
  clear hW hz
  rcases Nat.eq_or_lt_of_le (show 4 ≤ c by omega) with hcc | hcc
  · obtain rfl : c = 4 := hcc.symm
    obtain rfl : m = 4 := by omega
    clear hcc
    rw [if_pos rfl] at hR
    go_enter Tryz.func55, Tryz.ntmps55
    go_wp2_with fail
    rw [HW.out]
    refine (mayBe_yes _ _ _ _ _ _ h).mono ?_
    rintro e w1 ⟨rfl, hb1⟩
    have hsh1 := hsh.below hb1
    obtain ⟨d0, d1, d2, d3, d4⟩ := hsh.below hb1
    have htw1 := htw.below hb1
    have hB := below_more hbW hb1
    have hs1 : w.heap.size + 2 ≤ w1.heap.size := by have := hb1.size; omega
    clear hsh htw
    go_wp2_with fail
    refine (hH _ hB).mono ?_
    rintro e w2 ⟨rfl, hb2⟩
    have hsh2 := hsh1.below hb2
    clear d0 d1 d2 d3 d4
    obtain ⟨d0, d1, d2, d3, d4⟩ := hsh1.below hb2
    have htw2 := htw1.below hb2
    have hB2 := below_more hB hb2
    have hs2 : w.heap.size + 2 ≤ w2.heap.size := by have := hb2.size; omega
    clear hsh1 htw1
    go_wp2_with fail
    refine (HZ _).mono ?_
    rintro e w3 ⟨rfl, hb3⟩
    have hsh3 := hsh2.below hb3
    clear d0 d1 d2 d3 d4
    obtain ⟨d0, d1, d2, d3, d4⟩ := hsh2.below hb3
    have htw3 := htw2.below hb3
    have hB3 := below_more hB2 hb3
    have hs3 : w.heap.size + 2 ≤ w3.heap.size := by have := hb3.size; omega
    have HRB := hid (hR _ (hB3.trans ((Below.refl _ _).drew)))
    have HH3 := hid (hsh3.below (below_drew1 w3))
    have HT3 := hid (htw3.below (below_drew1 w3))
    clear hsh2 htw2 hsh3 htw3
    go_upto_region 7 with fail
    go_region_held3 (fun w' => w'.cell? ⟨w.heap.size, 0, none⟩ = some (.int .i64 L) ∧ w'.cell? ⟨w.heap.size, 1, none⟩ = some (.int .i64 S) ∧ w'.cell? ⟨w.heap.size, 2, none⟩ = some (.bool P) ∧ w'.cell? ⟨w.heap.size, 3, none⟩ = some (.int .i64 B) ∧ w'.cell? ⟨w.heap.size, 4, none⟩ = some (.int .i64 O)) (go_keep) ((go_at_call 98; refine HRB.out.mono ?_; rintro e w4 ⟨v, rfl, hb4⟩; obtain ⟨e0, e1, e2, e3, e4⟩ := HH3.out.below hb4; obtain ⟨x0, x1, y0, y1⟩ := HT3.out.below hb4))
    have hB4 := below_more (hB3.trans ((Below.refl _ _).drew)) hb4
    go_wp2
    refine bodyPost_ret (v := .tuple #[.agg #[.int .i64 0, .slice none 0 0], .int .i64 0, .int .i64 q]) (by simp [results, Tryz.results55, go_sem, *]) rfl ⟨rfl, ?_⟩
    repeat refine Below.setCell ?_ (by simp) _
    exact hB4
  · have hc0 : ¬ c = 4 := by omega
    rw [if_neg hc0] at hR
    go_enter Tryz.func55, Tryz.ntmps55
    go_wp2_with fail
    rw [HW.out]
    refine (mayBe_yes _ _ _ _ _ _ h).mono ?_
    rintro e w1 ⟨rfl, hb1⟩
    have hsh1 := hsh.below hb1
    obtain ⟨d0, d1, d2, d3, d4⟩ := hsh.below hb1
    have htw1 := htw.below hb1
    have hB := below_more hbW hb1
    have hs1 : w.heap.size + 2 ≤ w1.heap.size := by have := hb1.size; omega
    clear hsh htw
    go_wp2_with fail
    refine (hH _ hB).mono ?_
    rintro e w2 ⟨rfl, hb2⟩
    have hsh2 := hsh1.below hb2
    clear d0 d1 d2 d3 d4
    obtain ⟨d0, d1, d2, d3, d4⟩ := hsh1.below hb2
    have htw2 := htw1.below hb2
    have hB2 := below_more hB hb2
    have hs2 : w.heap.size + 2 ≤ w2.heap.size := by have := hb2.size; omega
    clear hsh1 htw1
    go_wp2_with fail
    refine (HZ _).mono ?_
    rintro e w3 ⟨rfl, hb3⟩
    have hsh3 := hsh2.below hb3
    clear d0 d1 d2 d3 d4
    obtain ⟨d0, d1, d2, d3, d4⟩ := hsh2.below hb3
    have htw3 := htw2.below hb3
    have hB3 := below_more hB2 hb3
    have hs3 : w.heap.size + 2 ≤ w3.heap.size := by have := hb3.size; omega
    have HRB := hid (hR _ (hB3.trans ((Below.refl _ _).drew)))
    have HH3 := hid (hsh3.below (below_drew1 w3))
    have HT3 := hid (htw3.below (below_drew1 w3))
    clear hsh2 htw2 hsh3 htw3
    go_upto_region 7 with fail
    go_region_held3 (fun w' => w'.cell? ⟨w.heap.size, 0, none⟩ = some (.int .i64 L) ∧ w'.cell? ⟨w.heap.size, 1, none⟩ = some (.int .i64 S) ∧ w'.cell? ⟨w.heap.size, 2, none⟩ = some (.bool P) ∧ w'.cell? ⟨w.heap.size, 3, none⟩ = some (.int .i64 B) ∧ w'.cell? ⟨w.heap.size, 4, none⟩ = some (.int .i64 O)) (go_keep) ((go_at_call 98; refine HRB.out.mono ?_; rintro e w4 ⟨v, rfl, hb4⟩; obtain ⟨e0, e1, e2, e3, e4⟩ := HH3.out.below hb4; obtain ⟨x0, x1, y0, y1⟩ := HT3.out.below hb4))
    have hB4 := below_more (hB3.trans ((Below.refl _ _).drew)) hb4
    go_wp2
    refine bodyPost_ret (v := .tuple #[.agg #[.int .i64 0, .slice none 0 0], .int .i64 0, .int .i64 q]) (by simp [results, Tryz.results55, go_sem, *]) rfl ⟨rfl, ?_⟩
    repeat refine Below.setCell ?_ (by simp) _
    exact hB4

set_option maxRecDepth 100000 in
set_option maxHeartbeats 1000000 in
theorem one_body_ok (w : World) (L S : Nat) (P : Bool) (B O : Int) (h : MayS L S B O) (M off m c : Nat) (hm : 4 ≤ m) (hmc : m ≤ c) (hc : c ≤ 9223372036854775807) (t : Int) (n z : Nat) (hz : zer S P n = z) (hz64 : z ≤ 64) (hn4 : 4 ≤ n) (hn : n ≤ 1000000)
    (x : List Int) (hxl : x.length ≤ 1000000)
    (hH : ∀ w1, Below w.heap.size w w1 → Calls Tryz.prog 96 #[.agg #[.int .i64 L, .int .i64 S, .bool P, .int .i64 B, .int .i64 O], .slice (some ⟨M, off, none⟩) m c] w1 fun e w' => e = .returned (.tuple #[.int .i64 t, .int .i64 n, .int .i64 0]) ∧ Below w1.heap.size w1 w')
    (hR : ∀ w1, Below w.heap.size w w1 → Calls Tryz.prog 98 #[.agg #[.int .i64 L, .int .i64 S, .bool P, .int .i64 B, .int .i64 O], .slice (if c = 4 then some ⟨M, off, none⟩ else some ⟨M, off + 4, none⟩) (m - 4) (c - 4), .int .i64 ((n - 4 : Nat) : Int), .int .i64 z] w1 (BodyPost w1 x)) :
    Calls Tryz.prog 55 #[.agg #[.int .i64 L, .int .i64 S, .bool P, .int .i64 B, .int .i64 O], .slice (some ⟨M, off, none⟩) m c] w (OnePost w (.ok (t, x, n + z))) := by
  obtain ⟨W, hW, hbW, hsz, hsh, htw⟩ := boxed_thing w L S P B O 90 86
  have HW := hid hW
  have hmi : (4 : Int) ≤ (m : Int) := by omega
  have hci : (4 : Int) ≤ (c : Int) := by omega
  have hmci : (m : Int) ≤ (c : Int) := by omega
  have hw1 : IntKind.i64.wrap ((n : Int) - 4) = ((n - 4 : Nat) : Int) := by rw [show (n : Int) - 4 = ((n - 4 : Nat) : Int) by omega]; exact wrap_nat (by omega)
  have hw2 : IntKind.i64.wrap ((n : Int) + (z : Int) - (n : Int)) = (z : Int) := by rw [show (n : Int) + (z : Int) - (n : Int) = (z : Int) by omega]; exact wrap_nat (by omega)
  have hm4 : ((m : Int) - 4).toNat = m - 4 := by omega
  have hc4 : ((c : Int) - 4).toNat = c - 4 := by omega
  have HZ := fun w => zeros_any w L S n P B O (by obtain ⟨_, _, h3, _⟩ := h; omega) (by obtain ⟨_, _, _, h4, _⟩ := h; omega)
  rw [hz] at HZ
  clear hW hz
  rcases Nat.eq_or_lt_of_le (show 4 ≤ c by omega) with hcc | hcc
  · obtain rfl : c = 4 := hcc.symm
    obtain rfl : m = 4 := by omega
    clear hcc
    rw [if_pos rfl] at hR
    go_enter Tryz.func55, Tryz.ntmps55
    go_wp2_with fail
    rw [HW.out]
    refine (mayBe_yes _ _ _ _ _ _ h).mono ?_
    rintro e w1 ⟨rfl, hb1⟩
    have hsh1 := hsh.below hb1
    obtain ⟨d0, d1, d2, d3, d4⟩ := hsh.below hb1
    have htw1 := htw.below hb1
    have hB := below_more hbW hb1
    have hs1 : w.heap.size + 2 ≤ w1.heap.size := by have := hb1.size; omega
    clear hsh htw
    go_wp2_with fail
    refine (hH _ hB).mono ?_
    rintro e w2 ⟨rfl, hb2⟩
    have hsh2 := hsh1.below hb2
    clear d0 d1 d2 d3 d4
    obtain ⟨d0, d1, d2, d3, d4⟩ := hsh1.below hb2
    have htw2 := htw1.below hb2
    have hB2 := below_more hB hb2
    have hs2 : w.heap.size + 2 ≤ w2.heap.size := by have := hb2.size; omega
    clear hsh1 htw1
    go_wp2_with fail
    refine (HZ _).mono ?_
    rintro e w3 ⟨rfl, hb3⟩
    have hsh3 := hsh2.below hb3
    clear d0 d1 d2 d3 d4
    obtain ⟨d0, d1, d2, d3, d4⟩ := hsh2.below hb3
    have htw3 := htw2.below hb3
    have hB3 := below_more hB2 hb3
    have hs3 : w.heap.size + 2 ≤ w3.heap.size := by have := hb3.size; omega
    have HRB := hid (hR _ (hB3.trans ((Below.refl _ _).drew)))
    have HH3 := hid (hsh3.below (below_drew1 w3))
    have HT3 := hid (htw3.below (below_drew1 w3))
    clear hsh2 htw2 hsh3 htw3
    go_upto_region 7 with fail
    go_region_held3 (fun w' => w'.cell? ⟨w.heap.size, 0, none⟩ = some (.int .i64 L) ∧ w'.cell? ⟨w.heap.size, 1, none⟩ = some (.int .i64 S) ∧ w'.cell? ⟨w.heap.size, 2, none⟩ = some (.bool P) ∧ w'.cell? ⟨w.heap.size, 3, none⟩ = some (.int .i64 B) ∧ w'.cell? ⟨w.heap.size, 4, none⟩ = some (.int .i64 O)) (go_keep) ((go_at_call 98; refine HRB.out.mono ?_; rintro e w4 ⟨k, rfl, hk, hI4, hb4⟩; obtain ⟨e0, e1, e2, e3, e4⟩ := HH3.out.below hb4; obtain ⟨x0, x1, y0, y1⟩ := HT3.out.below hb4; have hk2 : w.heap.size + 2 ≤ k := by simp at hk; omega))
    have hB4 := below_more (hB3.trans ((Below.refl _ _).drew)) hb4
    go_wp2
    refine bodyPost_ret (v := .tuple #[.agg #[.int .i64 t, .slice (some ⟨k, 0, none⟩) x.length x.length], .int .i64 (n + z), .int .i64 0]) (by simp [results, Tryz.results55, go_sem, *]) rfl ⟨some ⟨k, 0, none⟩, x.length, by simp, Nat.le_refl _, by omega, ?_, .inr ⟨k, rfl, by omega⟩, ?_⟩
    · repeat refine Ints.set ?_ (.inr ⟨k, rfl, by simp; omega⟩) _ _
      exact hI4
    · repeat refine Below.setCell ?_ (by simp) _
      exact hB4
  · have hc0 : ¬ c = 4 := by omega
    rw [if_neg hc0] at hR
    go_enter Tryz.func55, Tryz.ntmps55
    go_wp2_with fail
    rw [HW.out]
    refine (mayBe_yes _ _ _ _ _ _ h).mono ?_
    rintro e w1 ⟨rfl, hb1⟩
    have hsh1 := hsh.below hb1
    obtain ⟨d0, d1, d2, d3, d4⟩ := hsh.below hb1
    have htw1 := htw.below hb1
    have hB := below_more hbW hb1
    have hs1 : w.heap.size + 2 ≤ w1.heap.size := by have := hb1.size; omega
    clear hsh htw
    go_wp2_with fail
    refine (hH _ hB).mono ?_
    rintro e w2 ⟨rfl, hb2⟩
    have hsh2 := hsh1.below hb2
    clear d0 d1 d2 d3 d4
    obtain ⟨d0, d1, d2, d3, d4⟩ := hsh1.below hb2
    have htw2 := htw1.below hb2
    have hB2 := below_more hB hb2
    have hs2 : w.heap.size + 2 ≤ w2.heap.size := by have := hb2.size; omega
    clear hsh1 htw1
    go_wp2_with fail
    refine (HZ _).mono ?_
    rintro e w3 ⟨rfl, hb3⟩
    have hsh3 := hsh2.below hb3
    clear d0 d1 d2 d3 d4
    obtain ⟨d0, d1, d2, d3, d4⟩ := hsh2.below hb3
    have htw3 := htw2.below hb3
    have hB3 := below_more hB2 hb3
    have hs3 : w.heap.size + 2 ≤ w3.heap.size := by have := hb3.size; omega
    have HRB := hid (hR _ (hB3.trans ((Below.refl _ _).drew)))
    have HH3 := hid (hsh3.below (below_drew1 w3))
    have HT3 := hid (htw3.below (below_drew1 w3))
    clear hsh2 htw2 hsh3 htw3
    go_upto_region 7 with fail
    go_region_held3 (fun w' => w'.cell? ⟨w.heap.size, 0, none⟩ = some (.int .i64 L) ∧ w'.cell? ⟨w.heap.size, 1, none⟩ = some (.int .i64 S) ∧ w'.cell? ⟨w.heap.size, 2, none⟩ = some (.bool P) ∧ w'.cell? ⟨w.heap.size, 3, none⟩ = some (.int .i64 B) ∧ w'.cell? ⟨w.heap.size, 4, none⟩ = some (.int .i64 O)) (go_keep) ((go_at_call 98; refine HRB.out.mono ?_; rintro e w4 ⟨k, rfl, hk, hI4, hb4⟩; obtain ⟨e0, e1, e2, e3, e4⟩ := HH3.out.below hb4; obtain ⟨x0, x1, y0, y1⟩ := HT3.out.below hb4; have hk2 : w.heap.size + 2 ≤ k := by simp at hk; omega))
    have hB4 := below_more (hB3.trans ((Below.refl _ _).drew)) hb4
    go_wp2
    refine bodyPost_ret (v := .tuple #[.agg #[.int .i64 t, .slice (some ⟨k, 0, none⟩) x.length x.length], .int .i64 (n + z), .int .i64 0]) (by simp [results, Tryz.results55, go_sem, *]) rfl ⟨some ⟨k, 0, none⟩, x.length, by simp, Nat.le_refl _, by omega, ?_, .inr ⟨k, rfl, by omega⟩, ?_⟩
    · repeat refine Ints.set ?_ (.inr ⟨k, rfl, by simp; omega⟩) _ _
      exact hI4
    · repeat refine Below.setCell ?_ (by simp) _
      exact hB4
end Go.Proofs.YtdjlbejhphbcoaaGreat
namespace Go.Proofs.YtdjlbejhphbcoaaGreat
open Go.RowKit
set_option maxRecDepth 100000

theorem head_bounds {b : List Int} (ho : Octets b) : ∃ n : Nat, numL ((b.drop 2).take 2) = n ∧ n ≤ 65535 := by
  have h := numL_snoc_bound ((ho.drop 2).take 2)
  have h2 : p256 ((b.drop 2).take 2).length ≤ p256 2 := p256_mono (by rw [List.length_take]; omega)
  have h3 : p256 2 = 65536 := by decide
  exact ⟨(numL ((b.drop 2).take 2)).toNat, by omega, by omega⟩

theorem one_any (w : World) (L S : Nat) (P : Bool) (B O : Int) (h : MayS L S B O) (b : List Int) (a : Option Addr) (c : Nat) (hH : Holds w a c b) :
    Calls Tryz.prog 55 #[.agg #[.int .i64 L, .int .i64 S, .bool P, .int .i64 B, .int .i64 O], .slice a b.length c] w (OnePost w (oneL L S P B O b)) := by
  obtain ⟨m1, m2, m3, m4, m5, m6⟩ := h
  have h := And.intro m1 (And.intro m2 (And.intro m3 (And.intro m4 (And.intro m5 m6))))
  change MayS L S B O at h
  unfold oneL
  split
  · rename_i h4
    exact one_head w L S P B O h a b.length c B m5 (fun w1 hb1 => readHead_short w1 L S P B O (by omega) (by omega) m5 b a c hH.cap (hH.ints.below hb1) hH.oct h4)
  · rename_i h4
    obtain ⟨n, hn, hn65⟩ := head_bounds hH.oct
    rw [hn, Int.toNat_natCast]
    obtain ⟨M, off, rfl⟩ := hH.shape (by have := hH.cap; omega)
    split
    · rename_i hlen
      exact one_head w L S P B O h _ b.length c B m5 (fun w1 hb1 => readHead_wrong w1 L S P B O (by omega) b _ c hH.cap hH.max (hH.ints.below hb1) hH.oct (by omega) n hn hlen)
    · rename_i hlen
      have hok : lenOk L S P n = true := by simpa using hlen
      have hLn : L ≤ n := by unfold lenOk at hok; simp at hok; exact hok.1
      obtain ⟨z, hz⟩ : ∃ z, z = zer S P n := ⟨_, rfl⟩
      have hz64 : z ≤ 64 := by have := zer_lt (S := S) (by omega) P n; omega
      rw [← hz]
      have hd := hH.ints.drop (j := 4) hH.cap
      have hdo := hH.oct.drop 4
      have hdl : (b.drop 4).length = b.length - 4 := List.length_drop
      have hcap := hH.cap
      have hmax := hH.max
      have hHead := fun w1 (hb1 : Below w.heap.size w w1) => readHead_ok w1 L S P B O (by omega) b (some ⟨M, off, none⟩) c hH.cap hH.max (hH.ints.below hb1) hH.oct (by omega) n hn hok
      split
      · rename_i hs
        refine one_body_bad w L S P B O h M off b.length c (by omega) hH.cap hH.max _ n z hz.symm hz64 (by omega) (by omega) B m5 hHead (fun w1 hb1 => ?_)
        have := readBody_short w1 L S P B O m5 (b.drop 4) _ (c - 4) (n - 4) z hz64 (by omega) (by omega) (hd.below hb1) hdo (by omega) (by omega)
        rwa [hdl] at this
      · rename_i hs
        split
        · rename_i hzz
          rcases Nat.eq_zero_or_pos z with h0 | h0
          · subst h0; simp [zeros] at hzz
          · refine one_body_bad w L S P B O h M off b.length c (by omega) hH.cap hH.max _ n z hz.symm hz64 (by omega) (by omega) O m6 hHead (fun w1 hb1 => ?_)
            have := readBody_zeros w1 L S P B O (b.drop 4) _ (c - 4) (n - 4) z h0 hz64 (by omega) (by omega) (hd.below hb1) hdo (by omega) (by omega) false (by rw [List.drop_drop, show 4 + (n - 4) = n by omega]; exact hzz)
            rw [hdl] at this
            exact this
        · rename_i hzz
          refine one_body_ok w L S P B O h M off b.length c (by omega) hH.cap hH.max _ n z hz.symm hz64 (by omega) (by omega) ((b.drop 4).take (n - 4)) (by rw [List.length_take]; omega) hHead (fun w1 hb1 => ?_)
          rcases Nat.eq_zero_or_pos z with h0 | h0
          · subst h0
            have := readBody_plain w1 L S P B O (b.drop 4) _ (c - 4) (n - 4) (by omega) (hd.below hb1) hdo (by omega) (by omega)
            rw [hdl] at this
            exact this
          · have := readBody_zeros w1 L S P B O (b.drop 4) _ (c - 4) (n - 4) z h0 hz64 (by omega) (by omega) (hd.below hb1) hdo (by omega) (by omega) true (by rw [List.drop_drop, show 4 + (n - 4) = n by omega]; simpa using hzz)
            rw [hdl] at this
            exact this
end Go.Proofs.YtdjlbejhphbcoaaGreat
namespace Go.Proofs.YtdjlbejhphbcoaaGreat
open Go.RowKit
set_option maxRecDepth 100000

/-- what comes behind some things -/
def after (pre : List (Int × List Int)) : Except Int (List (Int × List Int)) → Except Int (List (Int × List Int))
  | .error q => .error q
  | .ok r => .ok (pre ++ r)

/-- the things that bytes are, in no more than so many steps -/
def cutF (L S : Nat) (P : Bool) (B O : Int) : Nat → List Int → Except Int (List (Int × List Int))
  | 0, _ => .ok []
  | k + 1, b =>
    if b = [] then .ok []
    else match oneL L S P B O b with
      | .error q => .error q
      | .ok (t, x, n) => after [(t, x)] (cutF L S P B O k (b.drop n))
/-- the things that bytes are, or the first error -/
def cutL (L S : Nat) (P : Bool) (B O : Int) (b : List Int) : Except Int (List (Int × List Int)) := cutF L S P B O b.length b

section
variable {L S : Nat} {P : Bool} {B O : Int}
theorem oneL_ok (hL : 4 ≤ L) {b : List Int} {t : Int} {x : List Int} {n : Nat} (h : oneL L S P B O b = .ok (t, x, n)) :
    4 ≤ n ∧ n ≤ b.length ∧ x.length + 4 ≤ n := by
  unfold oneL at h
  obtain ⟨m, hm⟩ : ∃ m, m = (numL ((b.drop 2).take 2)).toNat := ⟨_, rfl⟩
  rw [← hm] at h
  split at h
  · cases h
  · split at h
    · cases h
    · rename_i hlen
      split at h
      · cases h
      · split at h
        · cases h
        · simp only [Except.ok.injEq, Prod.mk.injEq] at h
          obtain ⟨_, rfl, rfl⟩ := h
          have hok : lenOk L S P m = true := by simpa using hlen
          have hLn : L ≤ m := by unfold lenOk at hok; simp at hok; exact hok.1
          rw [List.length_take]
          omega

end

/-- a thing as it comes: its type, its body, where that lies -/
structure Thing where
  t : Int
  x : List Int
  a : Option Addr
  c : Nat
def Thing.val (h : Thing) : Int × List Int := (h.t, h.x)
/-- as a value -/
def Thing.v (h : Thing) : Value := .agg #[.int .i64 h.t, .slice h.a h.x.length h.c]
/-- its body stands in memory that has been made since there were B blocks -/
structure Thing.ok (B : Nat) (h : Thing) (w : World) : Prop where
  cap : h.x.length ≤ h.c
  max : h.c ≤ 9223372036854775807
  ints : Ints .u8 w h.a h.x
  far : h.a = none ∨ ∃ k, h.a = some ⟨k, 0, none⟩ ∧ B ≤ k
end Go.Proofs.YtdjlbejhphbcoaaGreat
namespace Go.Proofs.YtdjlbejhphbcoaaGreat
open Go.RowKit
set_option maxRecDepth 100000
attribute [local go_sem] Oper.semAt_some

/-- what the iterator reads: b's box, the shape's box, b's memory -/
def Reads (p s : Nat) (a : Option Addr) (b : List Int) (k : Nat) : Prop := k = p ∨ k = s ∨ (b ≠ [] ∧ ∃ q : Addr, a = some q ∧ k = q.block)

/-- the iterator's state between two rounds -/
structure Iter (L S : Nat) (P : Bool) (B O : Int) (b : List Int) (a : Option Addr) (c p s : Nat) (at_ : Nat) (pre : List Thing) (w : World) : Prop where
  le : at_ ≤ b.length
  few : pre.length ≤ at_
  cut : Hid (cutL L S P B O b = after (pre.map Thing.val) (cutL L S P B O (b.drop at_)))
  shape : ShAt w s L S P B O
  box : w.cell? ⟨p, 0, none⟩ = some (.slice a b.length c)
  holds : Holds w a c b
  hp : p < w.heap.size
  hs : s < w.heap.size

/-- a thing that has been told, in a block X -/
structure Told (B : Nat) (t : Int) (x : List Int) (X : Nat) (a : Option Addr) (c : Nat) (wr wx : World) : Prop where
  two : Two wx X (.int .i64 t) (.slice a x.length c)
  ok : Thing.ok B ⟨t, x, a, c⟩ wx
  bel : Below wr.heap.size wr wx

theorem oneL_err {L S : Nat} {P : Bool} {B O : Int} (hB : B ≠ 0) (hO : O ≠ 0) {b : List Int} {q : Int} (h : oneL L S P B O b = .error q) : q ≠ 0 := by
  unfold oneL at h
  repeat (split at h; (first | (cases h; assumption) | skip))
  all_goals cases h

end Go.Proofs.YtdjlbejhphbcoaaGreat
namespace Go.Proofs.YtdjlbejhphbcoaaGreat
open Go.RowKit
set_option maxRecDepth 100000

/-- a thing's cells -/
def Thing.cs (h : Thing) : List Value := [.int .i64 h.t, .slice h.a h.x.length h.c]
/-- the things' cells, one behind the other -/
def thingCells (l : List Thing) : List Value := l.flatMap Thing.cs
/-- a slice of things that lies at a -/
def Items (w : World) (a : Option Addr) (l : List Thing) : Prop :=
  ∀ i, (hi : i < l.length) → ∃ b off, a = some ⟨b, off, none⟩ ∧ w.cell? ⟨b, off + i * 2, none⟩ = some (.int .i64 l[i].t) ∧ w.cell? ⟨b, off + i * 2 + 1, none⟩ = some (.slice l[i].a l[i].x.length l[i].c)
end Go.Proofs.YtdjlbejhphbcoaaGreat
namespace Go.Proofs.YtdjlbejhphbcoaaGreat
open Go.RowKit
set_option maxRecDepth 100000
attribute [local go_sem] Oper.semAt_some

/-- what Cut answers -/
def CutPost (w : World) (r : Except Int (List (Int × List Int))) (e : Ending) (w' : World) : Prop :=
  match r with
  | .error q => e = .returned (.tuple #[.slice none 0 0, .int .i64 q]) ∧ Below w.heap.size w w'
  | .ok xs => ∃ (l : List Thing) (a : Option Addr) (c : Nat), l.map Thing.val = xs ∧ e = .returned (.tuple #[.slice a l.length c, .int .i64 0]) ∧ l.length ≤ c ∧ c ≤ 9223372036854775807 ∧ Items w' a l ∧ (∀ h ∈ l, Thing.ok w.heap.size h w') ∧ (∀ q : Addr, a = some q → w.heap.size ≤ q.block ∧ q.block < w'.heap.size) ∧ Below w.heap.size w w'

/-- between two rounds of a loop that gathers things in the cell X; R4, R5: the results' cells -/
structure CutAt (T : TypeId) (w0 : World) (B1 X R4 R5 : Nat) (pre : List Thing) (W : World) : Prop where
  v : ∃ v, W.cell? ⟨X, 0, none⟩ = some v ∧ W.ownsRow 0 T 2 v pre.length (thingCells pre) ∧ (∀ g, v.ownBlock = some g → B1 ≤ g) ∧ (pre = [] → v.ownBlock = none)
  fx : W.frozen? ⟨X, 0, none⟩ = false
  c4 : W.cell? ⟨R4, 0, none⟩ = some (.slice none 0 0)
  f4 : W.frozen? ⟨R4, 0, none⟩ = false
  c5 : W.cell? ⟨R5, 0, none⟩ = some (.int .i64 0)
  f5 : W.frozen? ⟨R5, 0, none⟩ = false
  ok : ∀ h ∈ pre, Thing.ok B1 h W
  bel : Below w0.heap.size w0 W

/-- a cell that may be written -/
structure One1 (w : World) (b : Nat) (v : Value) : Prop where
  c : w.cell? ⟨b, 0, none⟩ = some v
  f : w.frozen? ⟨b, 0, none⟩ = false
end Go.Proofs.YtdjlbejhphbcoaaGreat
namespace Go.Proofs.YtdjlbejhphbcoaaGreat
open Go.RowKit
set_option maxRecDepth 100000

/-- a thing's bytes, or that it may not be -/
def writeL (L S : Nat) (P : Bool) (t : Int) (x : List Int) : Except Int (List Int) :=
  if lenOk L S P (4 + x.length) = true ∧ 0 ≤ t ∧ t < 65536 ∧ 4 + x.length < 65536 then .ok (bytesL t 2 ++ bytesL ((4 + x.length : Nat) : Int) 2 ++ x ++ List.replicate (zer S P (4 + x.length)) 0) else .error 10001

/-- what write answers -/
def WritePost (w : World) (r : Except Int (List Int)) (e : Ending) (w' : World) : Prop :=
  match r with
  | .error q => e = .returned (.tuple #[.slice none 0 0, .int .i64 q]) ∧ Below w.heap.size w w'
  | .ok bs => ∃ k, e = .returned (.tuple #[.slice (some ⟨k, 0, none⟩) bs.length bs.length, .int .i64 0]) ∧ w.heap.size ≤ k ∧ bs.length ≤ 9223372036854775807 ∧ Ints .u8 w' (some ⟨k, 0, none⟩) bs ∧ Below w.heap.size w w'

/-- beside a buffer: the shape's box, the thing's box, its body -/
structure WAt (w0 : World) (L S : Int) (P : Bool) (B O t : Int) (x : List Int) (a : Option Addr) (c : Nat) (g m : Nat) (p : Option Nat) (w : World) : Prop where
  sh : ShAt w w0.heap.size L S P B O
  tw : Two w (w0.heap.size + 1) (.int .i64 t) (.slice a x.length c)
  ints : Ints .u8 w a x
  bel : Below w0.heap.size w0 w
  base : ∀ k, Foot g m p k → w0.heap.size + 2 ≤ k

section
variable {w0 w w' : World} {L S : Int} {P : Bool} {B O t : Int} {x : List Int} {a : Option Addr} {c g m : Nat} {p p' : Option Nat}
end

end Go.Proofs.YtdjlbejhphbcoaaGreat
namespace Go.Proofs.YtdjlbejhphbcoaaGreat
open Go.RowKit
set_option maxRecDepth 100000
attribute [local go_sem] Oper.semAt_some

/-- what comes behind some pieces -/
def afterB (pre : List (List Int)) : Except Int (List (List Int)) → Except Int (List (List Int))
  | .error q => .error q
  | .ok r => .ok (pre ++ r)
/-- things as pieces of bytes, or the first error -/
def joinL (L S : Nat) (P : Bool) : List (Int × List Int) → Except Int (List (List Int))
  | [] => .ok []
  | h :: r => match writeL L S P h.1 h.2 with
    | .error q => .error q
    | .ok b => afterB [b] (joinL L S P r)

/-- a piece as it comes: its bytes, its block -/
structure Chunk where
  b : List Int
  k : Nat
def Chunk.v (h : Chunk) : Value := .slice (some ⟨h.k, 0, none⟩) h.b.length h.b.length
structure Chunk.ok (B : Nat) (h : Chunk) (w : World) : Prop where
  max : h.b.length ≤ 65600
  ints : Ints .u8 w (some ⟨h.k, 0, none⟩) h.b
  far : B ≤ h.k

/-- a thing that may come in -/
structure Thing.fits (B : Nat) (h : Thing) : Prop where
  len : h.x.length ≤ 1000000
  cap : h.x.length ≤ h.c
  max : h.c ≤ 9223372036854775807
  lo : -9223372036854775808 ≤ h.t
  hi : h.t ≤ 9223372036854775807
  far : h.x ≠ [] → ∀ q : Addr, h.a = some q → q.block < B

/-- what the iterator reads: the boxes, and what came in -/
def ReadsB (p s Bin : Nat) (k : Nat) : Prop := k = p ∨ k = s ∨ k < Bin

/-- the iterator's state between two rounds -/
structure WIter (L S : Nat) (P : Bool) (B O : Int) (l : List Thing) (a : Option Addr) (s Bin at_ : Nat) (pre : List Chunk) (w : World) : Prop where
  le : at_ ≤ l.length
  few : pre.length ≤ at_
  join : Hid (joinL L S P (l.map Thing.val) = afterB (pre.map Chunk.b) (joinL L S P ((l.drop at_).map Thing.val)))
  shape : ShAt w s L S P B O
  items : Items w a l
  bodies : ∀ h ∈ l, Ints .u8 w h.a h.x
  hs : s < w.heap.size
  ha : l ≠ [] → ∀ q : Addr, a = some q → q.block < Bin
  hBin : Bin ≤ w.heap.size

section
variable {L S : Nat} {P : Bool} {B O : Int} {l : List Thing} {a : Option Addr} {s Bin at_ : Nat} {pre : List Chunk} {w w' : World}
end

end Go.Proofs.YtdjlbejhphbcoaaGreat
namespace Go.Proofs.YtdjlbejhphbcoaaGreat
open Go.RowKit
set_option maxRecDepth 100000

section
variable {L S : Nat} {P : Bool} {B O : Int}

theorem p256_two : p256 2 = 65536 := rfl

/-- the bytes ahead of the thing i -/
def ahead (cs : List (List Int)) (i : Nat) : Nat := ((cs.take i).flatten).length

theorem write_one (hL : 4 ≤ L) {b : List Int} (ho : Octets b) {t : Int} {x : List Int} {n : Nat} (h : oneL L S P B O b = .ok (t, x, n)) : writeL L S P t x = .ok (b.take n) ∧ 4 ≤ n ∧ n ≤ b.length := by
  have hb := oneL_ok hL h
  unfold oneL at h
  have hm := numL_snoc_bound ((ho.drop 2).take 2)
  have ht := numL_snoc_bound (ho.take 2)
  obtain ⟨m, hmm⟩ : ∃ m, m = (numL ((b.drop 2).take 2)).toNat := ⟨_, rfl⟩
  have hmi : (m : Int) = numL ((b.drop 2).take 2) := by omega
  rw [← hmm] at h
  split at h
  · cases h
  · rename_i h4
    split at h
    · cases h
    · rename_i hlen
      split at h
      · cases h
      · rename_i hle
        split at h
        · cases h
        · rename_i hz
          simp only [Except.ok.injEq, Prod.mk.injEq] at h
          obtain ⟨rfl, rfl, rfl⟩ := h
          have hok : lenOk L S P m = true := by simpa using hlen
          have hLm : L ≤ m := by unfold lenOk at hok; simp at hok; exact hok.1
          have l2 : (b.take 2).length = 2 := by rw [List.length_take]; omega
          have l22 : ((b.drop 2).take 2).length = 2 := by rw [List.length_take, List.length_drop]; omega
          rw [l2, p256_two] at ht
          rw [l22, p256_two] at hm
          have lx : ((b.drop 4).take (m - 4)).length = m - 4 := by rw [List.length_take, List.length_drop]; omega
          have e4 : 4 + ((b.drop 4).take (m - 4)).length = m := by rw [lx]; omega
          refine ⟨?_, hb.1, hb.2.1⟩
          unfold writeL
          rw [e4, if_pos ⟨hok, ht.1, ht.2, by omega⟩]
          have b1 : bytesL (numL (b.take 2)) 2 = b.take 2 := by have := bytesL_numL (ho.take 2); rwa [l2] at this
          have b2 : bytesL (m : Int) 2 = (b.drop 2).take 2 := by rw [hmi]; have := bytesL_numL ((ho.drop 2).take 2); rwa [l22] at this
          have hzz : zeros ((b.drop m).take (zer S P m)) = true := by simpa using hz
          have b3 := zeros_eq hzz
          have lz : ((b.drop m).take (zer S P m)).length = zer S P m := by rw [List.length_take, List.length_drop]; omega
          rw [lz] at b3
          rw [b1, b2, ← b3]
          congr 1
          have s1 : b.take 4 = b.take 2 ++ (b.drop 2).take 2 := List.take_add (i := 2) (j := 2)
          have s2 : b.take m = b.take 4 ++ (b.drop 4).take (m - 4) := by
            have := List.take_add (l := b) (i := 4) (j := m - 4)
            rwa [show 4 + (m - 4) = m by omega] at this
          rw [List.take_add, s2, s1]

end
end Go.Proofs.YtdjlbejhphbcoaaGreat
