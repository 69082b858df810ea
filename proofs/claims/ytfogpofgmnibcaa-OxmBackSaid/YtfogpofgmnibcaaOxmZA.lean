/- Layer 8's theorem, for every input. -/
import Derived.Test.YtfogpofgmnibcaaOxmZ
import Derived.Test.YtfogpofgmnibcaaOxmT
namespace Go.Proofs.Ytfogpofgmnibcaa
open Go.RowKit
set_option linter.unusedVariables false

set_option maxRecDepth 100000 in
set_option maxHeartbeats 2000000 in
theorem OxmBack_many (C F : Int) (H : Bool) (X : Int) (va : Option Addr) (vl vc : Nat) (ma : Option Addr) (ml mc : Nat) (a : Option Addr) (n c : Nat) (hn : ¬ ((vl ≤ 300 ∧ ml ≤ 300) ∧ n ≤ 600)) (w : World) :
    Calls Try.prog 6 #[.agg #[.int .i64 C, .int .i64 F, .bool H, .int .u64 X, .slice va vl vc, .slice ma ml mc], .slice a n c] w fun e w' => e = .returned (.bool true) ∧ Below w.heap.size w w' := by
  obtain ⟨W, hW, hbW, hbox⟩ := oxm_box w C F H X va vl vc ma ml mc
  have HW := hid hW
  have HB := hid hbW
  have FW := fun W => few8_any C F H X va vl vc ma ml mc W
  obtain ⟨d0, d1, d2, d3, d4, d5⟩ := hbox.six
  by_cases h1 : vl ≤ 300 ∧ ml ≤ 300
  · rw [decide_eq_true h1] at FW
    have FW := hid FW
    have i600 : 600 < (n : Int) := by omega
    clear hW hbW h1 hn
    go_enter Try.func6, Try.ntmps6
    go_wp2_with fail
    rw [HW.out]
    go_wp2_with fail
    refine (FW.out _).mono ?_
    rintro e w1 ⟨rfl, hb⟩
    have HA := hid (below_on HB.out hb)
    clear hb
    go_wp2_with fail
    refine (sure8_any _).mono ?_
    rintro e w9 ⟨rfl, hb9⟩
    go_wp2_with fail
    go_ret
    exact ⟨rfl, below_on HA.out hb9⟩
  · rw [decide_eq_false h1] at FW
    have FW := hid FW
    clear hW hbW h1 hn
    go_enter Try.func6, Try.ntmps6
    go_wp2_with fail
    rw [HW.out]
    go_wp2_with fail
    refine (FW.out _).mono ?_
    rintro e w1 ⟨rfl, hb⟩
    have HA := hid (below_on HB.out hb)
    clear hb
    go_wp2_with fail
    refine (sure8_any _).mono ?_
    rintro e w9 ⟨rfl, hb9⟩
    go_wp2_with fail
    go_ret
    exact ⟨rfl, below_on HA.out hb9⟩
theorem OxmBack_walk (C F : Int) (H : Bool) (X : Int) (va : Option Addr) (vl vc : Nat) (ma : Option Addr) (ml mc : Nat) (v m bs : List Int) (a : Option Addr) (c : Nat) (w : World) (h1 : OxmIn w C F X va vl vc ma ml mc v m) (hbc : bs.length ≤ c) (hc : c ≤ 9223372036854775807) (ob : Octets bs) (ib : Ints .u8 w a bs) :
    Calls Try.prog 6 #[.agg #[.int .i64 C, .int .i64 F, .bool H, .int .u64 X, .slice va vl vc, .slice ma ml mc], .slice a bs.length c] w fun e w' => e = .returned (.bool true) ∧ Below w.heap.size w w' := by
  by_cases hn : (vl ≤ 300 ∧ ml ≤ 300) ∧ bs.length ≤ 600
  · obtain ⟨_, _, hx, rfl, rfl, iv, im, ov, om, _, hcm⟩ := h1
    cases hr : rightB C F H X v m with
    | false =>
      cases hd : decL bs with
      | error q => exact OxmBack_no_err C F H X va vc ma mc v m bs a c hx.1 hn.1.1 hn.1.2 hcm.1 ov om hn.2 hbc hc ob w iv im ib hr hd
      | ok o => obtain ⟨C', F', H', X', v', m', n'⟩ := o; exact OxmBack_no_ok C F H X va vc ma mc v m bs a c hx.1 hn.1.1 hn.1.2 hcm.1 ov om hn.2 hbc hc ob w iv im ib hr hd
    | true =>
      cases hd : decL bs with
      | error q => exact OxmBack_yes_err C F H X va vc ma mc v m bs a c hx.1 hn.1.1 hn.1.2 hcm.1 ov om hn.2 hbc hc ob w iv im ib hr hd
      | ok o => obtain ⟨C', F', H', X', v', m', n'⟩ := o; exact OxmBack_yes_ok C F H X va vc ma mc v m bs a c hx.1 hn.1.1 hn.1.2 hcm.1 ov om hn.2 hbc hc ob w iv im ib hr hd
  · exact OxmBack_many C F H X va vl vc ma ml mc a bs.length c hn w
end Go.Proofs.Ytfogpofgmnibcaa
