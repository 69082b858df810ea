/- TlvJoins: the walk. -/
import Derived.Test.YtfdkkcndadjcaaaTlvBack
import Derived.Test.YtfdkkcndadjcaaaTlvP
namespace Go.Proofs.Ytfdkkcndadjcaaa
open Go.RowKit

set_option maxRecDepth 100000 in
set_option maxHeartbeats 4000000 in
theorem TlvJoins_many (w : World) (L S : Int) (P : Bool) (B O : Int) (l : List Thing) (a : Option Addr) (c : Nat) (hT : ThingsIn w a l) (hf : fewL l = false) :
    Calls Try.prog 4 #[.agg #[.int .i64 L, .int .i64 S, .bool P, .int .i64 B, .int .i64 O], .slice a l.length c] w fun e w' => e = .returned (.bool true) ∧ Below w.heap.size w w' := by
  obtain ⟨W, hW⟩ : ∃ W, w.alloc (.cells #[.int .i64 L, .int .i64 S, .bool P, .int .i64 B, .int .i64 O] 24) = W := ⟨_, rfl⟩
  have hbW : Below w.heap.size w W := by rw [← hW]; exact below_alloc _ _
  have HW := hid hW
  have HF := hid (few_any4 W l a c (hT.items.below hbW) hT.len)
  rw [hf] at HF
  clear hW hT hf
  go_enter Try.func4, Try.ntmps4
  go_wp2_with fail
  rw [HW.out]
  refine HF.out.mono ?_
  rintro e w1 ⟨rfl, rfl⟩
  go_wp2_with fail
  refine (sure4_any _).mono ?_
  rintro e w2 ⟨rfl, hb2⟩
  go_wp2
  go_ret
  exact ⟨rfl, below_more hbW hb2⟩

set_option maxRecDepth 100000 in
set_option maxHeartbeats 4000000 in
theorem TlvJoins_few (w : World) (L S : Int) (P : Bool) (B O : Int) (l : List Thing) (a : Option Addr) (c : Nat) (hT : ThingsIn w a l) (hf : fewL l = true) (r : Except Int (List (List Int)))
    (hJ : ∀ W, Below w.heap.size w W → Calls Try.prog 16 #[.agg #[.int .i64 L, .int .i64 S, .bool P, .int .i64 B, .int .i64 O], .slice a l.length c] W (JoinPost W r))
    (hR : ∀ W a' c', Below w.heap.size w W → Items W a' l → Calls Try.prog 17 #[.agg #[.int .i64 L, .int .i64 S, .bool P, .int .i64 B, .int .i64 O], .slice a' l.length c'] W (RefJoinPost W r))
    (hlen : ∀ cs, r = .ok cs → cs.flatten.length ≤ 1000000000) :
    Calls Try.prog 4 #[.agg #[.int .i64 L, .int .i64 S, .bool P, .int .i64 B, .int .i64 O], .slice a l.length c] w fun e w' => e = .returned (.bool true) ∧ Below w.heap.size w w' := by
  obtain ⟨W, hW⟩ : ∃ W, w.alloc (.cells #[.int .i64 L, .int .i64 S, .bool P, .int .i64 B, .int .i64 O] 24) = W := ⟨_, rfl⟩
  have hbW : Below w.heap.size w W := by rw [← hW]; exact below_alloc _ _
  have hsh : ShAt W w.heap.size L S P B O := by rw [← hW]; exact ShAt.of_block (t := 24) (_root_.Go.heap_alloc_new w _)
  have HW := hid hW
  have HF := hid (few_any4 W l a c (hT.items.below hbW) hT.len)
  rw [hf] at HF
  have hl40 := (few_yes hf).1
  have HT := hid hT
  have HJ := hid hJ
  have HR := hid hR
  have HLEN := hid hlen
  clear hW hT hf hJ hR hlen
  cases r with
  | error q =>
    go_enter Try.func4, Try.ntmps4
    go_wp2_with fail
    rw [HW.out]
    refine HF.out.mono ?_
    rintro e w1 ⟨rfl, rfl⟩
    obtain ⟨d0, d1, d2, d3, d4⟩ := hsh
    have hsh : ShAt W w.heap.size L S P B O := ⟨d0, d1, d2, d3, d4⟩
    go_wp2_with fail
    refine (HJ.out _ hbW).mono ?_
    rintro e w2 ⟨rfl, hb2⟩
    have hB2 := below_more hbW hb2
    clear d0 d1 d2 d3 d4
    obtain ⟨d0, d1, d2, d3, d4⟩ := hsh.below hb2
    go_wp2_with fail
    refine (plain_any _ _ _ _ _ _).mono ?_
    rintro e w3 ⟨rfl, hb3⟩
    have hB3 := below_more hB2 hb3
    have HC := hid (conv_items w3 l a c (HT.out.items.below hB3) (by omega))
    go_wp2_with fail
    refine HC.out.mono ?_
    rintro e w4 ⟨a4, c4, rfl, hit4, _, _, hb4⟩
    have hB4 := below_more hB3 hb4
    have HR4 := hid (HR.out w4 a4 c4 hB4 hit4)
    clear hit4
    go_wp2_with fail
    refine HR4.out.mono ?_
    rintro e w5 ⟨rfl, hb5⟩
    have hB5 := below_more hB4 hb5
    go_wp2_with fail
    refine (bytes_at [] [] none none 0 0 0 0 _ rfl rfl (by decide) (by decide) (Ints.nil _ _ _) (Ints.nil _ _ _)).mono ?_
    rintro e w6 ⟨rfl, hb6⟩
    go_wp2_with fail
    refine (sure4_any _).mono ?_
    rintro e w7 ⟨rfl, hb7⟩
    go_wp2
    go_ret
    exact ⟨rfl, below_more (below_more hB5 hb6) hb7⟩
  | ok cs =>
    obtain ⟨xs, hxs⟩ : ∃ xs, xs = cs.flatten := ⟨_, rfl⟩
    have hxl : xs.length ≤ 1000000000 := by rw [hxs]; exact HLEN.out cs rfl
    have HX := hid hxs
    clear hxs
    go_enter Try.func4, Try.ntmps4
    go_wp2_with fail
    rw [HW.out]
    refine HF.out.mono ?_
    rintro e w1 ⟨rfl, rfl⟩
    obtain ⟨d0, d1, d2, d3, d4⟩ := hsh
    have hsh : ShAt W w.heap.size L S P B O := ⟨d0, d1, d2, d3, d4⟩
    go_wp2_with fail
    refine (HJ.out _ hbW).mono ?_
    rintro e w2 ⟨a2, c2, rfl, _, _, hI2, _, _, hb2⟩
    rw [← HX.out] at hI2
    rw [← HX.out]
    have hB2 := below_more hbW hb2
    clear d0 d1 d2 d3 d4
    obtain ⟨d0, d1, d2, d3, d4⟩ := hsh.below hb2
    have HI2 := hid hI2
    clear hI2
    go_wp2_with fail
    refine (plain_any _ _ _ _ _ _).mono ?_
    rintro e w3 ⟨rfl, hb3⟩
    have hB3 := below_more hB2 hb3
    have HC := hid (conv_items w3 l a c (HT.out.items.below hB3) (by omega))
    go_wp2_with fail
    refine HC.out.mono ?_
    rintro e w4 ⟨a4, c4, rfl, hit4, _, _, hb4⟩
    have hB4 := below_more hB3 hb4
    have HR4 := hid (HR.out w4 a4 c4 hB4 hit4)
    clear hit4
    go_wp2_with fail
    refine HR4.out.mono ?_
    rintro e w5 ⟨a5, c5, rfl, hI5, hb5⟩
    rw [← HX.out] at hI5
    rw [← HX.out]
    have hB5 := below_more hB4 hb5
    have HBy := hid (bytes_at xs xs a2 a5 xs.length xs.length c2 c5 w5 rfl rfl (by omega) (by omega) (((HI2.out.below hb3).below hb4).below hb5) hI5)
    have e0 : (xs == xs) = true := by simp
    rw [e0] at HBy
    clear e0 hI5
    go_wp2_with fail
    refine HBy.out.mono ?_
    rintro e w6 ⟨rfl, hb6⟩
    go_wp2_with fail
    refine (sure4_any _).mono ?_
    rintro e w7 ⟨rfl, hb7⟩
    go_wp2
    go_ret
    exact ⟨rfl, below_more (below_more hB5 hb6) hb7⟩

theorem TlvJoins_walk (w : World) (L S : Int) (P : Bool) (B O : Int) (l : List Thing) (a : Option Addr) (c : Nat) (hT : ThingsIn w a l) :
    Calls Try.prog 4 #[.agg #[.int .i64 L, .int .i64 S, .bool P, .int .i64 B, .int .i64 O], .slice a l.length c] w fun e w' => e = .returned (.bool true) ∧ Below w.heap.size w w' := by
  cases hf : fewL l with
  | false => exact TlvJoins_many w L S P B O l a c hT hf
  | true =>
    by_cases h : MayS L S B O
    · obtain ⟨m1, m2, m3, m4, m5, m6⟩ := h
      obtain ⟨L, rfl⟩ := Int.eq_ofNat_of_zero_le (show 0 ≤ L by omega)
      obtain ⟨S, rfl⟩ := Int.eq_ofNat_of_zero_le (show 0 ≤ S by omega)
      have hfy := few_yes hf
      refine TlvJoins_few w L S P B O l a c hT hf (joinL L S P (l.map Thing.val)) (fun W hb => ?_) (fun W a' c' hb hit => ?_) (fun cs hcs => ?_)
      · exact join_any W L S P B O ⟨m1, m2, m3, m4, m5, m6⟩ l (by omega) a c (hT.items.below hb) (fun x hx => (hT.bodies x hx).below hb) (fun x hx => (hT.below hb).fits (fun x hx => by have := hfy.2 x hx; omega) x hx)
      · exact refJoin_any W L S P B O ⟨m1, m2, m3, m4, m5, m6⟩ l (by omega) a' c' hit (fun x hx => (hT.bodies x hx).below hb) (fun x hx => by have := hfy.2 x hx; omega)
      · have := joinL_bound (by omega) (by omega) hcs
        rw [List.length_map] at this
        omega
    · exact TlvJoins_few w L S P B O l a c hT hf (.error 10001) (fun W _ => join_may_not W L S P B O h _) (fun W _ _ _ _ => refJoin_may_not W L S P B O h _) (fun cs hcs => by cases hcs)
end Go.Proofs.Ytfdkkcndadjcaaa
