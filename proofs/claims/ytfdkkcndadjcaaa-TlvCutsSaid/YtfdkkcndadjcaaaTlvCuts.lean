/- TlvCuts: the walk. -/
import Derived.Test.YtfdkkcndadjcaaaTlvR
namespace Go.Proofs.Ytfdkkcndadjcaaa
open Go.RowKit

def oneParts : Except Int (Int × List Int × Nat) → Int × List Int × Nat × Int
  | .error q => (0, [], 0, q)
  | .ok (t, x, n) => (t, x, n, 0)
def cutParts : Except Int (List (Int × List Int)) → List (Int × List Int) × Int
  | .error q => ([], q)
  | .ok xs => (xs, 0)
/-- what One answers: the thing's type, its body, where that lies; the bytes; the error -/
theorem OnePost.parts {w : World} {r : Except Int (Int × List Int × Nat)} {e : Ending} {w' : World} (h : OnePost w r e w') :
    ∃ (t : Int) (x : List Int) (a : Option Addr) (c : Nat) (n : Nat) (q : Int), e = .returned (.tuple #[.agg #[.int .i64 t, .slice a x.length c], .int .i64 n, .int .i64 q]) ∧ x.length ≤ 9223372036854775807 ∧ Ints .u8 w' a x ∧ Below w.heap.size w w' ∧ (t, x, n, q) = oneParts r := by
  cases r with
  | error q =>
    obtain ⟨rfl, hb⟩ := h
    exact ⟨0, [], none, 0, 0, q, rfl, by simp, Ints.nil _ _ _, hb, rfl⟩
  | ok y =>
    obtain ⟨t, x, n⟩ := y
    obtain ⟨a, c, rfl, h1, h2, h3, _, hb⟩ := h
    exact ⟨t, x, a, c, n, 0, rfl, by omega, h3, hb, rfl⟩
/-- what Cut answers: the things; the error -/
theorem CutPost.parts {w : World} {r : Except Int (List (Int × List Int))} {e : Ending} {w' : World} (h : CutPost w r e w') :
    ∃ (l : List Thing) (a : Option Addr) (c : Nat) (q : Int), e = .returned (.tuple #[.slice a l.length c, .int .i64 q]) ∧ Items w' a l ∧ (∀ h ∈ l, Thing.ok w.heap.size h w') ∧ Below w.heap.size w w' ∧ (l.map Thing.val, q) = cutParts r := by
  cases r with
  | error q =>
    obtain ⟨rfl, hb⟩ := h
    exact ⟨[], none, 0, q, rfl, Items.nil _ _, by simp, hb, rfl⟩
  | ok xs =>
    obtain ⟨l, a, c, hl, rfl, _, _, hit, hok, _, hb⟩ := h
    subst hl
    exact ⟨l, a, c, 0, rfl, hit, hok, hb, rfl⟩
theorem RefCutPost.parts {w : World} {r : Except Int (List (Int × List Int))} {e : Ending} {w' : World} (h : RefCutPost w r e w') :
    ∃ (l : List Thing) (a : Option Addr) (c : Nat) (q : Int), e = .returned (.tuple #[.slice a l.length c, .int .i64 q]) ∧ Items w' a l ∧ (∀ h ∈ l, Thing.ok w.heap.size h w') ∧ Below w.heap.size w w' ∧ (l.map Thing.val, q) = cutParts r := by
  cases r with
  | error q =>
    obtain ⟨rfl, hb⟩ := h
    exact ⟨[], none, 0, q, rfl, Items.nil _ _, by simp, hb, rfl⟩
  | ok xs =>
    obtain ⟨l, a, c, hl, rfl, hit, hok, hb⟩ := h
    subst hl
    exact ⟨l, a, c, 0, rfl, hit, hok, hb, rfl⟩

theorem TlvCuts_many (w : World) (L S : Int) (P : Bool) (B O : Int) (b : List Int) (ba : Option Addr) (bc : Nat) (hbl : 3000 < b.length) :
    Calls Try.prog 3 #[.agg #[.int .i64 L, .int .i64 S, .bool P, .int .i64 B, .int .i64 O], .slice ba b.length bc] w fun e w' => e = .returned (.bool true) ∧ Below w.heap.size w w' := by
  obtain ⟨W, hW⟩ : ∃ W, w.alloc (.cells #[.int .i64 L, .int .i64 S, .bool P, .int .i64 B, .int .i64 O] 24) = W := ⟨_, rfl⟩
  have hbW : Below w.heap.size w W := by rw [← hW]; exact below_alloc _ _
  have HW := hid hW
  have hbi : (3000 : Int) < (b.length : Int) := by omega
  clear hW
  go_enter Try.func3, Try.ntmps3
  go_wp2_with fail
  rw [HW.out]
  refine (sure4_any _).mono ?_
  rintro e w2 ⟨rfl, hb2⟩
  go_wp2
  go_ret
  exact ⟨rfl, below_more hbW hb2⟩

set_option maxRecDepth 100000 in
set_option maxHeartbeats 4000000 in
theorem TlvCuts_few (w : World) (L S : Int) (P : Bool) (B O : Int) (b : List Int) (ba : Option Addr) (bc : Nat) (hbl : b.length ≤ 3000) (r : Except Int (Int × List Int × Nat)) (s : Except Int (List (Int × List Int)))
    (h1 : ∀ W, Below w.heap.size w W → Calls Try.prog 7 #[.agg #[.int .i64 L, .int .i64 S, .bool P, .int .i64 B, .int .i64 O], .slice ba b.length bc] W (OnePost W r))
    (h2 : ∀ W, Below w.heap.size w W → Calls Try.prog 8 #[.agg #[.int .i64 L, .int .i64 S, .bool P, .int .i64 B, .int .i64 O], .slice ba b.length bc] W (OnePost W r))
    (h3 : ∀ W, Below w.heap.size w W → Calls Try.prog 10 #[.agg #[.int .i64 L, .int .i64 S, .bool P, .int .i64 B, .int .i64 O], .slice ba b.length bc] W (CutPost W s))
    (h4 : ∀ W, Below w.heap.size w W → Calls Try.prog 11 #[.agg #[.int .i64 L, .int .i64 S, .bool P, .int .i64 B, .int .i64 O], .slice ba b.length bc] W (RefCutPost W s))
    (hsl : ∀ xs, s = .ok xs → xs.length ≤ 3000) :
    Calls Try.prog 3 #[.agg #[.int .i64 L, .int .i64 S, .bool P, .int .i64 B, .int .i64 O], .slice ba b.length bc] w fun e w' => e = .returned (.bool true) ∧ Below w.heap.size w w' := by
  obtain ⟨W, hW⟩ : ∃ W, w.alloc (.cells #[.int .i64 L, .int .i64 S, .bool P, .int .i64 B, .int .i64 O] 24) = W := ⟨_, rfl⟩
  have hbW : Below w.heap.size w W := by rw [← hW]; exact below_alloc _ _
  have hsh : ShAt W w.heap.size L S P B O := by rw [← hW]; exact ShAt.of_block (t := 24) (_root_.Go.heap_alloc_new w _)
  have HW := hid hW
  have H1 := hid h1
  have H2 := hid h2
  have H3 := hid h3
  have H4 := hid h4
  have HSL := hid hsl
  have hbi : (b.length : Int) ≤ 3000 := by omega
  clear hW h1 h2 h3 h4 hsl
  obtain ⟨d0, d1, d2, d3, d4⟩ := hsh
  have hsh : ShAt W w.heap.size L S P B O := ⟨d0, d1, d2, d3, d4⟩
  go_enter Try.func3, Try.ntmps3
  go_wp2_with fail
  rw [HW.out]
  refine (H1.out _ hbW).mono ?_
  intro e w2 hp1
  obtain ⟨t1, x1, a1, c1, n1, q1, rfl, hx1, hI1, hb2, hv1⟩ := hp1.parts
  have HI1 := hid hI1
  have HV1 := hid hv1
  have hB2 := below_more hbW hb2
  have hsl : w.heap.size < w2.heap.size := World.block_lt_of_cell? w2 _ (hsh.below hb2).c0
  have hsn : ¬ w.heap.size = w2.heap.size := by omega
  have hsh2 := hid (hsh.below hb2)
  clear hp1 hI1 hv1 d0 d1 d2 d3 d4
  obtain ⟨d0, d1, d2, d3, d4⟩ := hsh2.out
  have hT1 := hid (two_new w2 (.int .i64 t1) (.slice a1 x1.length c1) 28)
  have hbA := below_alloc w2 (.cells #[.int .i64 t1, .slice a1 x1.length c1] 28)
  go_wp2_with fail
  refine (plain_any _ _ _ _ _ _).mono ?_
  rintro e w3 ⟨rfl, hb3⟩
  have hb23 := below_more hbA hb3
  have hB3 := below_more hB2 hb23
  have hT1 := hid (hT1.out.below hb3)
  clear hbA d0 d1 d2 d3 d4
  go_wp2_with fail
  refine (H2.out _ hB3).mono ?_
  intro e w4 hp2
  obtain ⟨t2, x2, a2, c2, n2, q2, rfl, hx2, hI2, hb4, hv2⟩ := hp2.parts
  have hvv : (t2, x2, n2, q2) = (t1, x1, n1, q1) := hv2.trans HV1.out.symm
  simp only [Prod.mk.injEq] at hvv
  obtain ⟨rfl, rfl, rfl, rfl⟩ := hvv
  have HI2 := hid hI2
  have hB4 := below_more hB3 hb4
  have hsh4 := hid ((hsh2.out.below hb23).below hb4)
  have hsl4 : w.heap.size < w4.heap.size := World.block_lt_of_cell? w4 _ hsh4.out.c0
  have hsn4 : ¬ w.heap.size = w4.heap.size := by omega
  have hT1 := hid (hT1.out.below hb4)
  have hI1 := hid ((HI1.out.below hb23).below hb4)
  clear hp2 hI2 hv2 HI1 HV1 hsl hsn
  obtain ⟨d0, d1, d2, d3, d4⟩ := hsh4.out
  have hT2 := hid (two_new w4 (.int .i64 t2) (.slice a2 x2.length c2) 31)
  have hbA := below_alloc w4 (.cells #[.int .i64 t2, .slice a2 x2.length c2] 31)
  have hH3 := hid (H3.out _ (below_more hB4 hbA))
  go_wp2_with fail
  refine hH3.out.mono ?_
  intro e w5 hp3
  obtain ⟨l3, a3, c3, q3, rfl, hit3, hok3, hb5, hv3⟩ := hp3.parts
  have hb45 := below_more hbA hb5
  have hB5 := below_more hB4 hb45
  have hT1 := hid (hT1.out.below hb45)
  have hT2 := hid (hT2.out.below hb5)
  have hI1 := hid (hI1.out.below hb45)
  have hI2 := hid (HI2.out.below hb45)
  have HIT3 := hid hit3
  have HOK3 := hid hok3
  have HV3 := hid hv3
  clear hp3 hit3 hok3 hv3 hbA hH3 HI2 d0 d1 d2 d3 d4 hsl4 hsn4
  obtain ⟨d0, d1, d2, d3, d4⟩ := hsh4.out.below hb45
  go_wp2_with fail
  refine (plain_any _ _ _ _ _ _).mono ?_
  rintro e w6 ⟨rfl, hb6⟩
  have hB6 := below_more hB5 hb6
  have hH4 := hid (H4.out _ hB6)
  clear d0 d1 d2 d3 d4
  go_wp2_with fail
  refine hH4.out.mono ?_
  intro e w7 hp4
  obtain ⟨l4, a4, c4, q4, rfl, hit4, hok4, hb7, hv4⟩ := hp4.parts
  have hb57 := below_more hb6 hb7
  have hB7 := below_more hB6 hb7
  have hvv : (l4.map Thing.val, q4) = (l3.map Thing.val, q3) := hv4.trans HV3.out.symm
  simp only [Prod.mk.injEq] at hvv
  obtain ⟨hll, rfl⟩ := hvv
  have HLL := hid hll
  have hlen : l3.length ≤ 3000 := by
    have h1 := HV3.out
    cases s with
    | error q => simp [cutParts] at h1; rw [h1.1]; simp
    | ok xs => simp [cutParts] at h1; have := HSL.out xs rfl; rw [← h1.1, List.length_map] at this; exact this
  have hlen4 : l4.length = l3.length := by have := congrArg List.length hll; simpa using this
  have HL4 := hid hlen4
  have HIT4 := hid hit4
  have HOK4 := hid hok4
  obtain ⟨p0, p1, _, _⟩ := hT1.out.below hb57
  obtain ⟨r0, r1, _, _⟩ := hT2.out.below hb57
  have HBy := hid (bytes_at x2 x2 a1 a2 x2.length x2.length c1 c2 w7 rfl rfl hx2 hx2 (hI1.out.below hb57) (hI2.out.below hb57))
  have e0 : (x2 == x2) = true := by simp
  rw [e0] at HBy
  clear hp4 hit4 hok4 hv4 hll hlen4 hH4 e0
  go_wp2_with fail
  refine HBy.out.mono ?_
  rintro e w8 ⟨rfl, hb8⟩
  have hB8 := below_more hB7 hb8
  have HC := hid (conv_items w8 l3 a3 c3 ((HIT3.out.below hb57).below hb8) (by omega))
  go_wp2_with fail
  refine HC.out.mono ?_
  rintro e w9 ⟨a9, c9, rfl, hit9, _, _, hb9⟩
  have hB9 := below_more hB8 hb9
  have HSA := hid (same_any4 w9 l3 l4 a9 a4 c9 c4 hit9 ((HIT4.out.below hb8).below hb9) (fun x hx => (((HOK3.out x hx).ints.below hb57).below hb8).below hb9) (fun x hx => ((HOK4.out x hx).ints.below hb8).below hb9) (by omega) (fun x hx => by have h1 := (HOK3.out x hx).cap; have h2 := (HOK3.out x hx).max; omega) (fun x hx => by have h1 := (HOK4.out x hx).cap; have h2 := (HOK4.out x hx).max; omega))
  have hsame : sameB l3 l4 = true := by unfold sameB; rw [HLL.out]; simp
  rw [hsame] at HSA
  clear hit9 hsame
  go_wp2_with fail
  refine HSA.out.mono ?_
  rintro e w10 ⟨rfl, hb10⟩
  go_wp2_with fail
  refine (sure4_any _).mono ?_
  rintro e w11 ⟨rfl, hb11⟩
  go_wp2
  go_ret
  exact ⟨rfl, below_more (below_more hB9 hb10) hb11⟩

theorem TlvCuts_walk (w : World) (L S : Int) (P : Bool) (B O : Int) (b : List Int) (ba : Option Addr) (bc : Nat) (hH : Holds w ba bc b) :
    Calls Try.prog 3 #[.agg #[.int .i64 L, .int .i64 S, .bool P, .int .i64 B, .int .i64 O], .slice ba b.length bc] w fun e w' => e = .returned (.bool true) ∧ Below w.heap.size w w' := by
  rcases Nat.lt_or_ge 3000 b.length with hbl | hbl
  · exact TlvCuts_many w L S P B O b ba bc hbl
  · by_cases h : MayS L S B O
    · obtain ⟨m1, m2, m3, m4, m5, m6⟩ := h
      obtain ⟨L, rfl⟩ := Int.eq_ofNat_of_zero_le (show 0 ≤ L by omega)
      obtain ⟨S, rfl⟩ := Int.eq_ofNat_of_zero_le (show 0 ≤ S by omega)
      have h : MayS L S B O := ⟨m1, m2, m3, m4, m5, m6⟩
      exact TlvCuts_few w L S P B O b ba bc hbl (oneL L S P B O b) (cutL L S P B O b) (fun W hb => one_any W L S P B O h b ba bc (hH.below hb)) (fun W hb => refOne_any W L S P B O h b ba bc (hH.below hb) (by omega))
        (fun W hb => cut_any W L S P B O h b (by omega) ba bc (hH.below hb)) (fun W hb => refCut_any W L S P B O h b ba bc (hH.below hb) (by omega)) (fun xs hxs => by have := (cutL_len (by omega) _ (Nat.le_refl _) hH.oct hxs).1; omega)
    · exact TlvCuts_few w L S P B O b ba bc hbl (.error 10001) (.error 10001) (fun W _ => one_may_not W L S P B O h _) (fun W _ => refOne_may_not W L S P B O h _) (fun W _ => cut_may_not W L S P B O h _) (fun W _ => refCut_may_not W L S P B O h _) (fun xs hxs => by cases hxs)
end Go.Proofs.Ytfdkkcndadjcaaa
