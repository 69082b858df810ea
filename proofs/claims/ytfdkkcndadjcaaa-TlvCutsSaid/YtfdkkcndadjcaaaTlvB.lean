/- Package tlv: a thing's head and its body are read. -/
import Derived.Test.YtfdkkcndadjcaaaTlvA
import Derived.Test.YtfdkkcndadjcaaaCurS
import Derived.Test.YtfdkkcndadjcaaaRowE
import Derived.Deep.RegionWith
import Derived.Deep.RegionHeld3
import Derived.Deep.DeepCutAuto
import Derived.Deep.CutBlock
import Derived.StillTailTactics
namespace Go.Proofs.Ytfdkkcndadjcaaa
open Go.RowKit

theorem ShAt.below {w w' : World} {b : Nat} {L S : Int} {P : Bool} {B O : Int} (h : ShAt w b L S P B O) (hb : Below w.heap.size w w') : ShAt w' b L S P B O :=
  ⟨cell_keep h.c0 hb, cell_keep h.c1 hb, cell_keep h.c2 hb, cell_keep h.c3 hb, cell_keep h.c4 hb⟩
theorem ShAt.by_ {w w' : World} {b : Nat} {L S : Int} {P : Bool} {B O : Int} (h : ShAt w b L S P B O) {row : Option Nat} (hb : w.grownBy w' row) (hne : row ≠ some b) : ShAt w' b L S P B O :=
  ⟨hb.cell h.c0 (fun e => hne e.symm), hb.cell h.c1 (fun e => hne e.symm), hb.cell h.c2 (fun e => hne e.symm), hb.cell h.c3 (fun e => hne e.symm), hb.cell h.c4 (fun e => hne e.symm)⟩
theorem new_lit (l : List Int) (a : Option Addr) (n c : Nat) (s o : Int) (w : World) (hn : n = l.length) (hl : l.length ≤ 140737488355328) (ho : Octets l) (hI : Ints .u8 w a l) :
    Calls Try.prog 28 #[.slice a n c, .int .i64 s, .int .i64 o] w fun e w' => ∃ g, e = .returned (.pointer (some ⟨g, 0, none⟩)) ∧ Cur w' g w.heap.size l 0 s o 0 ∧ Below w.heap.size w w' ∧ w.heap.size < g ∧ g < w'.heap.size := by
  subst hn; exact new_any l a c s o w hl ho hI
/-- a shape that has just been boxed -/
theorem boxed_shape (w : World) (L S : Int) (P : Bool) (B O : Int) (t : TypeId) :
    ∃ W, (w.alloc (.cells #[.int .i64 L, .int .i64 S, .bool P, .int .i64 B, .int .i64 O] t)).drew = W ∧ Below w.heap.size w W ∧ w.heap.size < W.heap.size ∧ ShAt W w.heap.size L S P B O := by
  have hc : ∀ i v, (#[Value.int .i64 L, .int .i64 S, .bool P, .int .i64 B, .int .i64 O] : Array Value)[i]? = some v → ((w.alloc (.cells #[.int .i64 L, .int .i64 S, .bool P, .int .i64 B, .int .i64 O] t)).drew).cell? ⟨w.heap.size, i, none⟩ = some v :=
    fun i v h => cell_of_cells (t := t) (_root_.Go.heap_alloc_new w _) h
  exact ⟨_, rfl, (Below.refl _ _).alloc (Nat.le_refl _) _ |>.drew, by simp, hc 0 _ rfl, hc 1 _ rfl, hc 2 _ rfl, hc 3 _ rfl, hc 4 _ rfl⟩

set_option maxRecDepth 100000 in
theorem readHead_ok (w : World) (L S : Nat) (P : Bool) (B O : Int) (hS : 1 ≤ S) (b : List Int) (a : Option Addr) (c : Nat) (hb : b.length ≤ c) (hc : c ≤ 9223372036854775807) (hI : Ints .u8 w a b) (ho : Octets b) (h4 : 4 ≤ b.length)
    (n : Nat) (hn : numL ((b.drop 2).take 2) = n) (hok : lenOk L S P n = true) :
    Calls Try.prog 19 #[.agg #[.int .i64 L, .int .i64 S, .bool P, .int .i64 B, .int .i64 O], .slice a b.length c] w fun e w' =>
      e = .returned (.tuple #[.int .i64 (numL (b.take 2)), .int .i64 n, .int .i64 0]) ∧ Below w.heap.size w w' := by
  obtain ⟨M, off, rfl⟩ : ∃ M off, a = some ⟨M, off, none⟩ := by obtain ⟨M, off, h, _⟩ := hI 0 (by omega); exact ⟨M, off, h⟩
  have hc4 : 4 ≤ c := by omega
  have hc4i : (4 : Int) ≤ (c : Int) := by omega
  have hmin : ((if (4 : Int) < (b.length : Int) then 4 else (b.length : Int)) : Int) = 4 := by split <;> omega
  obtain ⟨W, hW, hbW, hlt, hsh⟩ := boxed_shape w L S P B O 24
  have HW := hid hW
  clear hW
  have hIW : Ints .u8 W (some ⟨M, off, none⟩) (b.take 4) := (hI.take 4).below hbW
  have hl4 : (b.take 4).length = 4 := by rw [List.length_take]; omega
  have ho4 : Octets (b.take 4) := ho.take 4
  have hv1 : (b.take 4).take 2 = b.take 2 := by rw [List.take_take]; rfl
  have hv2 : ((b.take 4).drop 2).take 2 = (b.drop 2).take 2 := by rw [List.drop_take, List.take_take]; rfl
  have hnb := numL_snoc_bound (ho.take 2)
  have hnm := numL_snoc_bound ((ho.drop 2).take 2)
  have hl2 : (b.take 2).length = 2 := by rw [List.length_take]; omega
  have hl22 : ((b.drop 2).take 2).length = 2 := by rw [List.length_take, List.length_drop]; omega
  have hp2 : p256 2 = 65536 := by decide
  rw [hl2, hp2] at hnb
  rw [hl22, hp2, hn] at hnm
  obtain ⟨t, ht⟩ : ∃ t, t = numL (b.take 2) := ⟨_, rfl⟩
  rw [← ht] at hnb ⊢
  obtain ⟨hd, hhd⟩ : ∃ hd, hd = b.take 4 := ⟨_, rfl⟩
  rw [← hhd] at hIW hl4 ho4 hv1 hv2
  rw [← hv1] at ht
  rw [← hv2] at hn
  have LW := fun W => isLength_any W L S n P B O hS
  rw [hok] at LW
  have HN := hid hn
  have HT := hid ht
  have H4 := hid hl4
  clear hI ho hv1 hv2 hl2 hl22 hp2 hn ht hhd hok hl4
  go_enter Try.func19, Try.ntmps19
  go_upto_region 1 with fail
  refine wp_tail 9 (by kernel_rfl) (by kernel_rfl) ?_
  simp only [List.take_succ_cons, List.take_zero, List.drop_succ_cons, List.drop_zero]
  repeat still_step
  refine wpStill_nil ?_
  rw [HW.out]
  go_wp2_with fail
  refine (new_lit hd _ _ _ _ _ W (by rw [H4.out]) (by rw [H4.out]; omega) ho4 hIW).mono ?_
  rintro e w1 ⟨g, rfl, hcur, hb1, hg1, hg2⟩
  have hsh1 := hsh.below hb1
  have hB1 := below_more hbW hb1
  go_wp2_with fail
  refine (hcur.num_ok (n := 2) (by omega) (by omega) (by rw [H4.out]; omega)).mono ?_
  rintro e w2 ⟨rfl, hcur2, hb2⟩
  rw [← HT.out]
  have hsh2 := hsh1.by_ hb2 (by simp; omega)
  have hB2 := below_by hB1 hb2 (by omega)
  go_wp2_with fail
  refine (hcur2.num_ok (n := 2) (by omega) (by omega) (by rw [List.length_drop, H4.out]; omega)).mono ?_
  rintro e w3 ⟨rfl, hcur3, hb3⟩
  rw [HN.out]
  obtain ⟨c0, c1, c2, c3, c4⟩ := hsh2.by_ hb3 (by simp; omega)
  have hB3 := below_by hB2 hb3 (by omega)
  clear hsh hsh1 hsh2 hB1 hB2 hcur hcur2
  go_wp2_with fail
  refine (LW _).mono ?_
  rintro e w4 ⟨rfl, hb4⟩
  go_wp2_with fail
  refine (hcur3.below hb4).err.mono ?_
  rintro e w5 ⟨rfl, rfl⟩
  go_wp2
  refine bodyPost_ret (v := .tuple #[.int .i64 t, .int .i64 n, .int .i64 0]) (by simp [results, Try.results19, go_sem]) rfl ⟨rfl, ?_⟩
  exact below_more hB3 hb4

set_option maxRecDepth 100000 in
theorem readHead_wrong (w : World) (L S : Nat) (P : Bool) (B O : Int) (hS : 1 ≤ S) (b : List Int) (a : Option Addr) (c : Nat) (hb : b.length ≤ c) (hc : c ≤ 9223372036854775807) (hI : Ints .u8 w a b) (ho : Octets b) (h4 : 4 ≤ b.length)
    (n : Nat) (hn : numL ((b.drop 2).take 2) = n) (hok : lenOk L S P n = false) :
    Calls Try.prog 19 #[.agg #[.int .i64 L, .int .i64 S, .bool P, .int .i64 B, .int .i64 O], .slice a b.length c] w fun e w' =>
      ∃ x y, e = .returned (.tuple #[.int .i64 x, .int .i64 y, .int .i64 B]) ∧ Below w.heap.size w w' := by
  obtain ⟨M, off, rfl⟩ : ∃ M off, a = some ⟨M, off, none⟩ := by obtain ⟨M, off, h, _⟩ := hI 0 (by omega); exact ⟨M, off, h⟩
  have hc4 : 4 ≤ c := by omega
  have hc4i : (4 : Int) ≤ (c : Int) := by omega
  have hmin : ((if (4 : Int) < (b.length : Int) then 4 else (b.length : Int)) : Int) = 4 := by split <;> omega
  obtain ⟨W, hW, hbW, hlt, hsh⟩ := boxed_shape w L S P B O 24
  have HW := hid hW
  clear hW
  have hIW : Ints .u8 W (some ⟨M, off, none⟩) (b.take 4) := (hI.take 4).below hbW
  have hl4 : (b.take 4).length = 4 := by rw [List.length_take]; omega
  have ho4 : Octets (b.take 4) := ho.take 4
  have hv2 : ((b.take 4).drop 2).take 2 = (b.drop 2).take 2 := by rw [List.drop_take, List.take_take]; rfl
  have hnb := numL_snoc_bound ((ho.take 4).take 2)
  have hnm := numL_snoc_bound ((ho.drop 2).take 2)
  have hl2 : ((b.take 4).take 2).length = 2 := by rw [List.length_take]; omega
  have hl22 : ((b.drop 2).take 2).length = 2 := by rw [List.length_take, List.length_drop]; omega
  have hp2 : p256 2 = 65536 := by decide
  rw [hl2, hp2] at hnb
  rw [hl22, hp2, hn] at hnm
  obtain ⟨hd, hhd⟩ : ∃ hd, hd = b.take 4 := ⟨_, rfl⟩
  rw [← hhd] at hIW hl4 ho4 hv2 hnb
  obtain ⟨t, ht⟩ : ∃ t, t = numL (hd.take 2) := ⟨_, rfl⟩
  rw [← ht] at hnb
  rw [← hv2] at hn
  have LW := fun W => isLength_any W L S n P B O hS
  rw [hok] at LW
  have HN := hid hn
  have HT := hid ht
  have H4 := hid hl4
  clear hI ho hv2 hl2 hl22 hp2 hn ht hhd hok hl4
  go_enter Try.func19, Try.ntmps19
  go_upto_region 1 with fail
  refine wp_tail 9 (by kernel_rfl) (by kernel_rfl) ?_
  simp only [List.take_succ_cons, List.take_zero, List.drop_succ_cons, List.drop_zero]
  repeat still_step
  refine wpStill_nil ?_
  rw [HW.out]
  go_wp2_with fail
  refine (new_lit hd _ _ _ _ _ W (by rw [H4.out]) (by rw [H4.out]; omega) ho4 hIW).mono ?_
  rintro e w1 ⟨g, rfl, hcur, hb1, hg1, hg2⟩
  have hsh1 := hsh.below hb1
  have hB1 := below_more hbW hb1
  go_wp2_with fail
  refine (hcur.num_ok (n := 2) (by omega) (by omega) (by rw [H4.out]; omega)).mono ?_
  rintro e w2 ⟨rfl, hcur2, hb2⟩
  rw [← HT.out]
  have hsh2 := hsh1.by_ hb2 (by simp; omega)
  have hB2 := below_by hB1 hb2 (by omega)
  go_wp2_with fail
  refine (hcur2.num_ok (n := 2) (by omega) (by omega) (by rw [List.length_drop, H4.out]; omega)).mono ?_
  rintro e w3 ⟨rfl, hcur3, hb3⟩
  rw [HN.out]
  obtain ⟨c0, c1, c2, c3, c4⟩ := hsh2.by_ hb3 (by simp; omega)
  have hsh3 := hsh2.by_ hb3 (by simp; omega)
  have hB3 := below_by hB2 hb3 (by omega)
  clear hsh hsh1 hsh2 hB1 hB2 hcur hcur2
  go_wp2_with fail
  refine (LW _).mono ?_
  rintro e w4 ⟨rfl, hb4⟩
  obtain ⟨d0, d1, d2, d3, d4⟩ := hsh3.below hb4
  go_wp2_with fail
  refine ((hcur3.below hb4).fail B).mono ?_
  rintro e w5 ⟨rfl, hcur5, hb5⟩
  go_wp2_with fail
  refine hcur5.err.mono ?_
  rintro e w6 ⟨rfl, rfl⟩
  go_wp2
  refine bodyPost_ret (v := .tuple #[.int .i64 t, .int .i64 n, .int .i64 B]) (by simp [results, Try.results19, go_sem]) rfl ⟨t, n, rfl, ?_⟩
  exact below_by (below_more hB3 hb4) hb5 (by omega)

set_option maxRecDepth 100000 in
theorem readHead_short (w : World) (L S : Nat) (P : Bool) (B O : Int) (hS : 1 ≤ S) (hL : 4 ≤ L) (hB : B ≠ 0) (b : List Int) (a : Option Addr) (c : Nat) (hb : b.length ≤ c) (hI : Ints .u8 w a b) (ho : Octets b) (h4 : b.length < 4) :
    Calls Try.prog 19 #[.agg #[.int .i64 L, .int .i64 S, .bool P, .int .i64 B, .int .i64 O], .slice a b.length c] w fun e w' =>
      ∃ x y, e = .returned (.tuple #[.int .i64 x, .int .i64 y, .int .i64 B]) ∧ Below w.heap.size w w' := by
  have hbi : (b.length : Int) ≤ (c : Int) := by omega
  have hmin : ((if (4 : Int) < (b.length : Int) then 4 else (b.length : Int)) : Int) = b.length := by split <;> omega
  have h4i : (b.length : Int) < 4 := by omega
  obtain ⟨W, hW, hbW, hlt, hsh⟩ := boxed_shape w L S P B O 24
  have HW := hid hW
  have hIW : Ints .u8 W a b := hI.below hbW
  have LW := fun W => isLength_any W L S 0 P B O hS
  rw [show lenOk L S P 0 = false by unfold lenOk; simp; omega] at LW
  have HB := hid hB
  clear hI hW hB
  rcases Nat.lt_or_ge b.length 2 with h2 | h2
  · go_enter Try.func19, Try.ntmps19
    go_upto_region 1 with fail
    refine wp_tail 9 (by kernel_rfl) (by kernel_rfl) ?_
    simp only [List.take_succ_cons, List.take_zero, List.drop_succ_cons, List.drop_zero]
    repeat still_step
    refine wpStill_nil ?_
    rw [HW.out]
    go_wp2_with fail
    refine (new_lit b _ _ _ _ _ W rfl (by omega) ho hIW).mono ?_
    rintro e w1 ⟨g, rfl, hcur, hb1, hg1, hg2⟩
    have hsh1 := hsh.below hb1
    have hB1 := below_more hbW hb1
    go_wp2_with fail
    refine (hcur.num_short (n := 2) (by omega) (by omega) (by omega)).mono ?_
    rintro e w2 ⟨rfl, hcur2, hb2⟩
    have hsh2 := hsh1.by_ hb2 (by simp; omega)
    have hB2 := below_by hB1 hb2 (by omega)
    go_wp2_with fail
    refine (hcur2.num_late HB.out 2).mono ?_
    rintro e w3 ⟨rfl, hb3⟩
    have hsh3 := hsh2.below hb3
    obtain ⟨c0, c1, c2, c3, c4⟩ := hsh2.below hb3
    have hB3 := below_more hB2 hb3
    have hcur3 := hcur2.below hb3
    clear hsh hsh1 hsh2 hB1 hB2 hcur hcur2
    go_wp2_with fail
    refine (LW _).mono ?_
    rintro e w4 ⟨rfl, hb4⟩
    obtain ⟨d0, d1, d2, d3, d4⟩ := hsh3.below hb4
    go_wp2_with fail
    refine ((hcur3.below hb4).fail_late HB.out B).mono ?_
    rintro e w5 ⟨rfl, rfl⟩
    go_wp2_with fail
    refine (hcur3.below hb4).err.mono ?_
    rintro e w6 ⟨rfl, rfl⟩
    go_wp2
    refine bodyPost_ret (v := .tuple #[.int .i64 0, .int .i64 0, .int .i64 B]) (by simp [results, Try.results19, go_sem]) rfl ⟨0, 0, rfl, ?_⟩
    exact below_more hB3 hb4
  · have hnb := numL_snoc_bound (ho.take 2)
    rw [show (b.take 2).length = 2 by rw [List.length_take]; omega, show p256 2 = 65536 by decide] at hnb
    obtain ⟨t, ht⟩ : ∃ t, t = numL (b.take 2) := ⟨_, rfl⟩
    rw [← ht] at hnb
    have HT := hid ht
    clear ht
    go_enter Try.func19, Try.ntmps19
    go_upto_region 1 with fail
    refine wp_tail 9 (by kernel_rfl) (by kernel_rfl) ?_
    simp only [List.take_succ_cons, List.take_zero, List.drop_succ_cons, List.drop_zero]
    repeat still_step
    refine wpStill_nil ?_
    rw [HW.out]
    go_wp2_with fail
    refine (new_lit b _ _ _ _ _ W rfl (by omega) ho hIW).mono ?_
    rintro e w1 ⟨g, rfl, hcur, hb1, hg1, hg2⟩
    have hsh1 := hsh.below hb1
    have hB1 := below_more hbW hb1
    go_wp2_with fail
    refine (hcur.num_ok (n := 2) (by omega) (by omega) (by omega)).mono ?_
    rintro e w2 ⟨rfl, hcur2, hb2⟩
    rw [← HT.out]
    have hsh2 := hsh1.by_ hb2 (by simp; omega)
    have hB2 := below_by hB1 hb2 (by omega)
    go_wp2_with fail
    refine (hcur2.num_short (n := 2) (by omega) (by omega) (by rw [List.length_drop]; omega)).mono ?_
    rintro e w3 ⟨rfl, hcur3, hb3⟩
    have hsh3 := hsh2.by_ hb3 (by simp; omega)
    obtain ⟨c0, c1, c2, c3, c4⟩ := hsh2.by_ hb3 (by simp; omega)
    have hB3 := below_by hB2 hb3 (by omega)
    clear hsh hsh1 hsh2 hB1 hB2 hcur hcur2
    go_wp2_with fail
    refine (LW _).mono ?_
    rintro e w4 ⟨rfl, hb4⟩
    obtain ⟨d0, d1, d2, d3, d4⟩ := hsh3.below hb4
    go_wp2_with fail
    refine ((hcur3.below hb4).fail_late HB.out B).mono ?_
    rintro e w5 ⟨rfl, rfl⟩
    go_wp2_with fail
    refine (hcur3.below hb4).err.mono ?_
    rintro e w6 ⟨rfl, rfl⟩
    go_wp2
    refine bodyPost_ret (v := .tuple #[.int .i64 t, .int .i64 0, .int .i64 B]) (by simp [results, Try.results19, go_sem]) rfl ⟨t, 0, rfl, ?_⟩
    exact below_more hB3 hb4
end Go.Proofs.Ytfdkkcndadjcaaa
