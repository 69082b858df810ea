/- The law of the chain, of what is no field. -/
import Derived.Test.YtlikpafjlojagaaNedX
namespace Go.Proofs.Ytlikpafjlojagaa
open Go.RowKit
set_option linter.unusedVariables false
set_option maxRecDepth 100000 in
set_option maxHeartbeats 2000000 in
theorem NeedChain_out (n pick : Int) (w : World) (hn : ¬ (0 ≤ n ∧ n < 40)) :
    Calls Try.prog 5 #[.int .i64 n, .int .u8 pick] w fun e w' => e = .returned (.bool true) ∧ Below w.heap.size w w' := by
  have HF := fldOf_any n w
  obtain ⟨⟨nm, fb, fz, fm, fd, fv⟩, hf⟩ : ∃ f, fld n = f := ⟨_, rfl⟩
  rw [decide_eq_false hn, hf] at HF
  unfold fldV at HF
  simp only at HF
  have HFF := hid HF
  clear hn HF hf
  go_enter Try.func5, Try.ntmps5
  go_wp2_with fail
  refine HFF.out.mono ?_
  rintro e w1 ⟨v1, rfl, hU, hb1⟩
  obtain ⟨a1, c1, rfl, _⟩ := hU
  obtain ⟨W2, hW2, hbW2, hbox⟩ := fld_box9 w1 fb fz fm fd (.slice a1 fv.length c1)
  have HW2 := hid hW2
  have HB2 := hid (below_on hb1 hbW2)
  clear hW2 hbox hb1 hbW2
  go_upto_region 2 with fail
  rw [HW2.out]
  go_wp2_with fail
  refine (sure9_any W2).mono ?_
  rintro e w3 ⟨rfl, hb3⟩
  have HB3 := hid (below_on HB2.out hb3)
  clear hb3
  go_wp2_with fail
  exact bodyPost_ret (v := .bool true) (by simp [results, Try.results5, go_sem]) rfl ⟨rfl, HB3.out⟩
end Go.Proofs.Ytlikpafjlojagaa
