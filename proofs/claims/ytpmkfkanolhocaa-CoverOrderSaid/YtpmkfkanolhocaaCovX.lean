/- The law CoverOrder. -/
import Derived.Test.YtpmkfkanolhocaaCovW
import Derived.Test.YtpmkfkanolhocaaMrg7
namespace Go.Proofs.Ytpmkfkanolhocaa
open Go.RowKit
set_option linter.unusedVariables false
set_option maxRecDepth 100000

set_option maxHeartbeats 4000000 in
theorem CoverOrder_out0 (a : Option Addr) (l : List Ent9) (ca : Nat) (b : Option Addr) (m : List Ent9) (cb : Nat) (c : Option Addr) (n : List Ent9) (cc : Nat) (w : World) (hO : Oxms w a l) (h1' : l.length ≤ 9223372036854775807) (hO2 : Oxms w b m) (h2' : m.length ≤ 9223372036854775807) (hO3 : Oxms w c n) (h3' : n.length ≤ 9223372036854775807) (h0 : fewL9 l = false) :
    Calls Try.prog 3 #[.slice a l.length ca, .slice b m.length cb, .slice c n.length cc] w fun e w' => e = .returned (.bool true) ∧ Below w.heap.size w w' := by
  have HFA := hid (fun (W : World) (h : Below w.heap.size w W) => refFew9_any l a ca W (hO.below h) h1')
  rw [h0] at HFA
  have HS := hid (fun w => sure11_any w)
  clear hO hO2 hO3 h0
  go_enter Try.func3, Try.ntmps3
  go_wp2_with fail
  refine (HFA.out _ (Below.refl _ _)).mono ?_
  rintro e w1 ⟨rfl, hb1⟩
  have HB1 := hid (hb1)
  clear hb1
  go_wp2_with fail
  refine (HS.out _).mono ?_
  rintro e w20 ⟨rfl, hb20⟩
  have HB20 := hid (below_on HB1.out hb20)
  clear hb20
  go_wp2_with fail
  exact bodyPost_ret (v := .bool true) (by simp [results, Try.results3, go_sem]) rfl ⟨rfl, HB20.out⟩
set_option maxHeartbeats 4000000 in
theorem CoverOrder_out1 (a : Option Addr) (l : List Ent9) (ca : Nat) (b : Option Addr) (m : List Ent9) (cb : Nat) (c : Option Addr) (n : List Ent9) (cc : Nat) (w : World) (hO : Oxms w a l) (h1' : l.length ≤ 9223372036854775807) (hO2 : Oxms w b m) (h2' : m.length ≤ 9223372036854775807) (hO3 : Oxms w c n) (h3' : n.length ≤ 9223372036854775807) (h0 : fewL9 l = true) (h1 : fewL9 m = false) :
    Calls Try.prog 3 #[.slice a l.length ca, .slice b m.length cb, .slice c n.length cc] w fun e w' => e = .returned (.bool true) ∧ Below w.heap.size w w' := by
  have HFA := hid (fun (W : World) (h : Below w.heap.size w W) => refFew9_any l a ca W (hO.below h) h1')
  rw [h0] at HFA
  have HFB := hid (fun (W : World) (h : Below w.heap.size w W) => refFew9_any m b cb W (hO2.below h) h2')
  rw [h1] at HFB
  have HS := hid (fun w => sure11_any w)
  clear hO hO2 hO3 h0 h1
  go_enter Try.func3, Try.ntmps3
  go_wp2_with fail
  refine (HFA.out _ (Below.refl _ _)).mono ?_
  rintro e w1 ⟨rfl, hb1⟩
  have HB1 := hid (hb1)
  clear hb1
  go_wp2_with fail
  refine (HFB.out _ HB1.out).mono ?_
  rintro e w2 ⟨rfl, hb2⟩
  have HB2 := hid (below_on HB1.out hb2)
  clear hb2
  go_wp2_with fail
  refine (HS.out _).mono ?_
  rintro e w20 ⟨rfl, hb20⟩
  have HB20 := hid (below_on HB2.out hb20)
  clear hb20
  go_wp2_with fail
  exact bodyPost_ret (v := .bool true) (by simp [results, Try.results3, go_sem]) rfl ⟨rfl, HB20.out⟩
set_option maxHeartbeats 4000000 in
theorem CoverOrder_out2 (a : Option Addr) (l : List Ent9) (ca : Nat) (b : Option Addr) (m : List Ent9) (cb : Nat) (c : Option Addr) (n : List Ent9) (cc : Nat) (w : World) (hO : Oxms w a l) (h1' : l.length ≤ 9223372036854775807) (hO2 : Oxms w b m) (h2' : m.length ≤ 9223372036854775807) (hO3 : Oxms w c n) (h3' : n.length ≤ 9223372036854775807) (h0 : fewL9 l = true) (h1 : fewL9 m = true) (h2 : fewL9 n = false) :
    Calls Try.prog 3 #[.slice a l.length ca, .slice b m.length cb, .slice c n.length cc] w fun e w' => e = .returned (.bool true) ∧ Below w.heap.size w w' := by
  have HFA := hid (fun (W : World) (h : Below w.heap.size w W) => refFew9_any l a ca W (hO.below h) h1')
  rw [h0] at HFA
  have HFB := hid (fun (W : World) (h : Below w.heap.size w W) => refFew9_any m b cb W (hO2.below h) h2')
  rw [h1] at HFB
  have HFC := hid (fun (W : World) (h : Below w.heap.size w W) => refFew9_any n c cc W (hO3.below h) h3')
  rw [h2] at HFC
  have HS := hid (fun w => sure11_any w)
  clear hO hO2 hO3 h0 h1 h2
  go_enter Try.func3, Try.ntmps3
  go_wp2_with fail
  refine (HFA.out _ (Below.refl _ _)).mono ?_
  rintro e w1 ⟨rfl, hb1⟩
  have HB1 := hid (hb1)
  clear hb1
  go_wp2_with fail
  refine (HFB.out _ HB1.out).mono ?_
  rintro e w2 ⟨rfl, hb2⟩
  have HB2 := hid (below_on HB1.out hb2)
  clear hb2
  go_wp2_with fail
  refine (HFC.out _ HB2.out).mono ?_
  rintro e w3 ⟨rfl, hb3⟩
  have HB3 := hid (below_on HB2.out hb3)
  clear hb3
  go_wp2_with fail
  refine (HS.out _).mono ?_
  rintro e w20 ⟨rfl, hb20⟩
  have HB20 := hid (below_on HB3.out hb20)
  clear hb20
  go_wp2_with fail
  exact bodyPost_ret (v := .bool true) (by simp [results, Try.results3, go_sem]) rfl ⟨rfl, HB20.out⟩
set_option maxHeartbeats 4000000 in
theorem CoverOrder_out3 (a : Option Addr) (l : List Ent9) (ca : Nat) (b : Option Addr) (m : List Ent9) (cb : Nat) (c : Option Addr) (n : List Ent9) (cc : Nat) (w : World) (hO : Oxms w a l) (h1' : l.length ≤ 9223372036854775807) (hO2 : Oxms w b m) (h2' : m.length ≤ 9223372036854775807) (hO3 : Oxms w c n) (h3' : n.length ≤ 9223372036854775807) (hL : L9 w a l) (hM : L9 w b m) (hN : L9 w c n) (lc : l.length ≤ ca) (mc : m.length ≤ cb) (nc : n.length ≤ cc) (h0 : fewL9 l = true) (h1 : fewL9 m = true) (h2 : fewL9 n = true) (h3 : isMatch10 (l.map Ent9.o) = false) :
    Calls Try.prog 3 #[.slice a l.length ca, .slice b m.length cb, .slice c n.length cc] w fun e w' => e = .returned (.bool true) ∧ Below w.heap.size w w' := by
  have HFA := hid (fun (W : World) (h : Below w.heap.size w W) => refFew9_any l a ca W (hO.below h) h1')
  rw [h0] at HFA
  have HFB := hid (fun (W : World) (h : Below w.heap.size w W) => refFew9_any m b cb W (hO2.below h) h2')
  rw [h1] at HFB
  have HFC := hid (fun (W : World) (h : Below w.heap.size w W) => refFew9_any n c cc W (hO3.below h) h3')
  rw [h2] at HFC
  have HRA := hid (fun (W : World) (h : Below w.heap.size w W) => right10_any W a ca l (hL.below h) lc (few_len10 h0))
  rw [h3] at HRA
  have HS := hid (fun w => sure11_any w)
  clear hO hO2 hO3 hL hM hN h0 h1 h2 h3
  go_enter Try.func3, Try.ntmps3
  go_wp2_with fail
  refine (HFA.out _ (Below.refl _ _)).mono ?_
  rintro e w1 ⟨rfl, hb1⟩
  have HB1 := hid (hb1)
  clear hb1
  go_wp2_with fail
  refine (HFB.out _ HB1.out).mono ?_
  rintro e w2 ⟨rfl, hb2⟩
  have HB2 := hid (below_on HB1.out hb2)
  clear hb2
  go_wp2_with fail
  refine (HFC.out _ HB2.out).mono ?_
  rintro e w3 ⟨rfl, hb3⟩
  have HB3 := hid (below_on HB2.out hb3)
  clear hb3
  go_wp2_with fail
  refine (HRA.out _ HB3.out).mono ?_
  rintro e w4 ⟨rfl, hb4⟩
  have HB4 := hid (below_on HB3.out hb4)
  clear hb4
  go_wp2_with fail
  refine (HS.out _).mono ?_
  rintro e w20 ⟨rfl, hb20⟩
  have HB20 := hid (below_on HB4.out hb20)
  clear hb20
  go_wp2_with fail
  exact bodyPost_ret (v := .bool true) (by simp [results, Try.results3, go_sem]) rfl ⟨rfl, HB20.out⟩
set_option maxHeartbeats 4000000 in
theorem CoverOrder_out4 (a : Option Addr) (l : List Ent9) (ca : Nat) (b : Option Addr) (m : List Ent9) (cb : Nat) (c : Option Addr) (n : List Ent9) (cc : Nat) (w : World) (hO : Oxms w a l) (h1' : l.length ≤ 9223372036854775807) (hO2 : Oxms w b m) (h2' : m.length ≤ 9223372036854775807) (hO3 : Oxms w c n) (h3' : n.length ≤ 9223372036854775807) (hL : L9 w a l) (hM : L9 w b m) (hN : L9 w c n) (lc : l.length ≤ ca) (mc : m.length ≤ cb) (nc : n.length ≤ cc) (h0 : fewL9 l = true) (h1 : fewL9 m = true) (h2 : fewL9 n = true) (h3 : isMatch10 (l.map Ent9.o) = true) (h4 : isMatch10 (m.map Ent9.o) = false) :
    Calls Try.prog 3 #[.slice a l.length ca, .slice b m.length cb, .slice c n.length cc] w fun e w' => e = .returned (.bool true) ∧ Below w.heap.size w w' := by
  have HFA := hid (fun (W : World) (h : Below w.heap.size w W) => refFew9_any l a ca W (hO.below h) h1')
  rw [h0] at HFA
  have HFB := hid (fun (W : World) (h : Below w.heap.size w W) => refFew9_any m b cb W (hO2.below h) h2')
  rw [h1] at HFB
  have HFC := hid (fun (W : World) (h : Below w.heap.size w W) => refFew9_any n c cc W (hO3.below h) h3')
  rw [h2] at HFC
  have HRA := hid (fun (W : World) (h : Below w.heap.size w W) => right10_any W a ca l (hL.below h) lc (few_len10 h0))
  rw [h3] at HRA
  have HRB := hid (fun (W : World) (h : Below w.heap.size w W) => right10_any W b cb m (hM.below h) mc (few_len10 h1))
  rw [h4] at HRB
  have HS := hid (fun w => sure11_any w)
  clear hO hO2 hO3 hL hM hN h0 h1 h2 h3 h4
  go_enter Try.func3, Try.ntmps3
  go_wp2_with fail
  refine (HFA.out _ (Below.refl _ _)).mono ?_
  rintro e w1 ⟨rfl, hb1⟩
  have HB1 := hid (hb1)
  clear hb1
  go_wp2_with fail
  refine (HFB.out _ HB1.out).mono ?_
  rintro e w2 ⟨rfl, hb2⟩
  have HB2 := hid (below_on HB1.out hb2)
  clear hb2
  go_wp2_with fail
  refine (HFC.out _ HB2.out).mono ?_
  rintro e w3 ⟨rfl, hb3⟩
  have HB3 := hid (below_on HB2.out hb3)
  clear hb3
  go_wp2_with fail
  refine (HRA.out _ HB3.out).mono ?_
  rintro e w4 ⟨rfl, hb4⟩
  have HB4 := hid (below_on HB3.out hb4)
  clear hb4
  go_wp2_with fail
  refine (HRB.out _ HB4.out).mono ?_
  rintro e w5 ⟨rfl, hb5⟩
  have HB5 := hid (below_on HB4.out hb5)
  clear hb5
  go_wp2_with fail
  refine (HS.out _).mono ?_
  rintro e w20 ⟨rfl, hb20⟩
  have HB20 := hid (below_on HB5.out hb20)
  clear hb20
  go_wp2_with fail
  exact bodyPost_ret (v := .bool true) (by simp [results, Try.results3, go_sem]) rfl ⟨rfl, HB20.out⟩
set_option maxHeartbeats 4000000 in
theorem CoverOrder_out5 (a : Option Addr) (l : List Ent9) (ca : Nat) (b : Option Addr) (m : List Ent9) (cb : Nat) (c : Option Addr) (n : List Ent9) (cc : Nat) (w : World) (hO : Oxms w a l) (h1' : l.length ≤ 9223372036854775807) (hO2 : Oxms w b m) (h2' : m.length ≤ 9223372036854775807) (hO3 : Oxms w c n) (h3' : n.length ≤ 9223372036854775807) (hL : L9 w a l) (hM : L9 w b m) (hN : L9 w c n) (lc : l.length ≤ ca) (mc : m.length ≤ cb) (nc : n.length ≤ cc) (h0 : fewL9 l = true) (h1 : fewL9 m = true) (h2 : fewL9 n = true) (h3 : isMatch10 (l.map Ent9.o) = true) (h4 : isMatch10 (m.map Ent9.o) = true) (h5 : isMatch10 (n.map Ent9.o) = false) :
    Calls Try.prog 3 #[.slice a l.length ca, .slice b m.length cb, .slice c n.length cc] w fun e w' => e = .returned (.bool true) ∧ Below w.heap.size w w' := by
  have HFA := hid (fun (W : World) (h : Below w.heap.size w W) => refFew9_any l a ca W (hO.below h) h1')
  rw [h0] at HFA
  have HFB := hid (fun (W : World) (h : Below w.heap.size w W) => refFew9_any m b cb W (hO2.below h) h2')
  rw [h1] at HFB
  have HFC := hid (fun (W : World) (h : Below w.heap.size w W) => refFew9_any n c cc W (hO3.below h) h3')
  rw [h2] at HFC
  have HRA := hid (fun (W : World) (h : Below w.heap.size w W) => right10_any W a ca l (hL.below h) lc (few_len10 h0))
  rw [h3] at HRA
  have HRB := hid (fun (W : World) (h : Below w.heap.size w W) => right10_any W b cb m (hM.below h) mc (few_len10 h1))
  rw [h4] at HRB
  have HRC := hid (fun (W : World) (h : Below w.heap.size w W) => right10_any W c cc n (hN.below h) nc (few_len10 h2))
  rw [h5] at HRC
  have HS := hid (fun w => sure11_any w)
  clear hO hO2 hO3 hL hM hN h0 h1 h2 h3 h4 h5
  go_enter Try.func3, Try.ntmps3
  go_wp2_with fail
  refine (HFA.out _ (Below.refl _ _)).mono ?_
  rintro e w1 ⟨rfl, hb1⟩
  have HB1 := hid (hb1)
  clear hb1
  go_wp2_with fail
  refine (HFB.out _ HB1.out).mono ?_
  rintro e w2 ⟨rfl, hb2⟩
  have HB2 := hid (below_on HB1.out hb2)
  clear hb2
  go_wp2_with fail
  refine (HFC.out _ HB2.out).mono ?_
  rintro e w3 ⟨rfl, hb3⟩
  have HB3 := hid (below_on HB2.out hb3)
  clear hb3
  go_wp2_with fail
  refine (HRA.out _ HB3.out).mono ?_
  rintro e w4 ⟨rfl, hb4⟩
  have HB4 := hid (below_on HB3.out hb4)
  clear hb4
  go_wp2_with fail
  refine (HRB.out _ HB4.out).mono ?_
  rintro e w5 ⟨rfl, hb5⟩
  have HB5 := hid (below_on HB4.out hb5)
  clear hb5
  go_wp2_with fail
  refine (HRC.out _ HB5.out).mono ?_
  rintro e w6 ⟨rfl, hb6⟩
  have HB6 := hid (below_on HB5.out hb6)
  clear hb6
  go_wp2_with fail
  refine (HS.out _).mono ?_
  rintro e w20 ⟨rfl, hb20⟩
  have HB20 := hid (below_on HB6.out hb20)
  clear hb20
  go_wp2_with fail
  exact bodyPost_ret (v := .bool true) (by simp [results, Try.results3, go_sem]) rfl ⟨rfl, HB20.out⟩
set_option maxHeartbeats 8000000 in
theorem CoverOrder_main (a : Option Addr) (l : List Ent9) (ca : Nat) (b : Option Addr) (m : List Ent9) (cb : Nat) (c : Option Addr) (n : List Ent9) (cc : Nat) (w : World) (hL : L9 w a l) (hM : L9 w b m) (hN : L9 w c n) (lc : l.length ≤ ca) (mc : m.length ≤ cb) (nc : n.length ≤ cc) (h0 : fewL9 l = true) (h1 : fewL9 m = true) (h2 : fewL9 n = true) (h3 : isMatch10 (l.map Ent9.o) = true) (h4 : isMatch10 (m.map Ent9.o) = true) (h5 : isMatch10 (n.map Ent9.o) = true) :
    Calls Try.prog 3 #[.slice a l.length ca, .slice b m.length cb, .slice c n.length cc] w fun e w' => e = .returned (.bool true) ∧ Below w.heap.size w w' := by
  have HFA := hid (fun (W : World) (h : Below w.heap.size w W) => refFew9_any l a ca W (hL.below h).ox (by have := hL.len; omega))
  rw [h0] at HFA
  have HFB := hid (fun (W : World) (h : Below w.heap.size w W) => refFew9_any m b cb W (hM.below h).ox (by have := hM.len; omega))
  rw [h1] at HFB
  have HFC := hid (fun (W : World) (h : Below w.heap.size w W) => refFew9_any n c cc W (hN.below h).ox (by have := hN.len; omega))
  rw [h2] at HFC
  have HRA := hid (fun (W : World) (h : Below w.heap.size w W) => right10_any W a ca l (hL.below h) lc (few_len10 h0))
  rw [h3] at HRA
  have HRB := hid (fun (W : World) (h : Below w.heap.size w W) => right10_any W b cb m (hM.below h) mc (few_len10 h1))
  rw [h4] at HRB
  have HRC := hid (fun (W : World) (h : Below w.heap.size w W) => right10_any W c cc n (hN.below h) nc (few_len10 h2))
  rw [h5] at HRC
  have oA := okL_of hL h3
  have oB := okL_of hM h4
  have oC := okL_of hN h5
  have fl := few_sixty h0
  have fm := few_sixty h1
  have fn := few_sixty h2
  have WAB := hid (fun (W : World) (h : Below w.heap.size w W) => within_any l m a b ca cb W (hL.below h) (hM.below h) oA oB)
  have WBC := hid (fun (W : World) (h : Below w.heap.size w W) => within_any m n b c cb cc W (hM.below h) (hN.below h) oB oC)
  have WAC := hid (fun (W : World) (h : Below w.heap.size w W) => within_any l n a c ca cc W (hL.below h) (hN.below h) oA oC)
  have PAB := hid (fun (W : World) (h : Below w.heap.size w W) => apart_any l m a b ca cb W (hL.below h) (hM.below h) oA oB)
  have PBA := hid (fun (W : World) (h : Below w.heap.size w W) => apart_any m l b a cb ca W (hM.below h) (hL.below h) oB oA)
  have PAA := hid (fun (W : World) (h : Below w.heap.size w W) => apart_any l l a a ca ca W (hL.below h) (hL.below h) oA oA)
  have MAA := hid (fun (W : World) (h : Below w.heap.size w W) => meet_any l l a a ca ca W (hL.below h) (hL.below h) lc lc fl fl (few_len10 h0) (few_len10 h0))
  have MAB := hid (fun (W : World) (h : Below w.heap.size w W) => meet_any l m a b ca cb W (hL.below h) (hM.below h) lc mc fl fm (few_len10 h0) (few_len10 h1))
  have SA := hid (fun (W : World) (h : Below w.heap.size w W) => refSort_any l a ca W (hL.below h))
  have HS := hid (fun w => sure11_any w)
  rw [apart_symm oB oA] at PBA
  rw [apart_self oA] at PAA
  have rA : rightL (l.map Ent9.o) = true := by rw [rightL_is (few_len10 h0)]; exact h3
  have rB : rightL (m.map Ent9.o) = true := by rw [rightL_is (few_len10 h1)]; exact h4
  have HOWN := hid (meet_own oA oA rA rA (within_self oA))
  have HIN := hid (fun h => meet_own oA oB rA rB h)
  have HTR := hid (fun h k => within_trans oA oB oC h k)
  obtain ⟨wab, hwab⟩ : ∃ x, within11 (l.map Ent9.o) (m.map Ent9.o) = x := ⟨_, rfl⟩
  obtain ⟨wbc, hwbc⟩ : ∃ x, within11 (m.map Ent9.o) (n.map Ent9.o) = x := ⟨_, rfl⟩
  obtain ⟨wac, hwac⟩ : ∃ x, within11 (l.map Ent9.o) (n.map Ent9.o) = x := ⟨_, rfl⟩
  obtain ⟨pab, hpab⟩ : ∃ x, apart11 (l.map Ent9.o) (m.map Ent9.o) = x := ⟨_, rfl⟩
  rw [hwab] at WAB HIN HTR
  rw [hwbc] at WBC HTR
  rw [hwac] at WAC HTR
  rw [hpab] at PAB PBA
  have HL := hid hL
  have HNE := hid (show (pab != pab) = false by simp)
  clear hL hM hN h0 h1 h2 h3 h4 h5 oA oB oC rA rB fl fm fn hwab hwbc hwac hpab
  go_enter Try.func3, Try.ntmps3
  go_wp2_with fail
  refine (HFA.out _ (Below.refl _ _)).mono ?_
  rintro e w1 ⟨rfl, hb1⟩
  have HB1 := hid (hb1)
  clear hb1
  go_wp2_with fail
  refine (HFB.out _ HB1.out).mono ?_
  rintro e w2 ⟨rfl, hb2⟩
  have HB2 := hid (below_on HB1.out hb2)
  clear hb2
  go_wp2_with fail
  refine (HFC.out _ HB2.out).mono ?_
  rintro e w3 ⟨rfl, hb3⟩
  have HB3 := hid (below_on HB2.out hb3)
  clear hb3
  go_wp2_with fail
  refine (HRA.out _ HB3.out).mono ?_
  rintro e w4 ⟨rfl, hb4⟩
  have HB4 := hid (below_on HB3.out hb4)
  clear hb4
  go_wp2_with fail
  refine (HRB.out _ HB4.out).mono ?_
  rintro e w5 ⟨rfl, hb5⟩
  have HB5 := hid (below_on HB4.out hb5)
  clear hb5
  go_wp2_with fail
  refine (HRC.out _ HB5.out).mono ?_
  rintro e w6 ⟨rfl, hb6⟩
  have HB6 := hid (below_on HB5.out hb6)
  clear hb6
  go_upto_region 3 with fail
  go_cut [67] (fun t67 wx => t67 = .bool false ∧ Below w6.heap.size w6 wx)
  case first =>
    cases wab
    · go_wp2_with fail
      refine (WAB.out _ HB6.out).mono ?_
      rintro e w7 ⟨rfl, hb7⟩
      have HC7 := hid (hb7)
      clear hb7
      go_wp2_with fail
      refine (PAB.out _ (below_on HB6.out HC7.out)).mono ?_
      rintro e w11 ⟨rfl, hb11⟩
      have HC11 := hid (below_on HC7.out hb11)
      clear hb11
      go_wp2_with fail
      refine (PBA.out _ (below_on HB6.out HC11.out)).mono ?_
      rintro e w12 ⟨rfl, hb12⟩
      have HC12 := hid (below_on HC11.out hb12)
      clear hb12
      have hne := HNE.out
      go_wp2_with fail
      refine (PAA.out _ (below_on HB6.out HC12.out)).mono ?_
      rintro e w13 ⟨rfl, hb13⟩
      have HC13 := hid (below_on HC12.out hb13)
      clear hb13
      go_wp2_with fail
      go_meet
      exact ⟨rfl, HC13.out⟩
    · cases wbc
      · go_wp2_with fail
        refine (WAB.out _ HB6.out).mono ?_
        rintro e w7 ⟨rfl, hb7⟩
        have HC7 := hid (hb7)
        clear hb7
        go_wp2_with fail
        refine (WBC.out _ (below_on HB6.out HC7.out)).mono ?_
        rintro e w8 ⟨rfl, hb8⟩
        have HC8 := hid (below_on HC7.out hb8)
        clear hb8
        go_wp2_with fail
        refine (PAB.out _ (below_on HB6.out HC8.out)).mono ?_
        rintro e w11 ⟨rfl, hb11⟩
        have HC11 := hid (below_on HC8.out hb11)
        clear hb11
        go_wp2_with fail
        refine (PBA.out _ (below_on HB6.out HC11.out)).mono ?_
        rintro e w12 ⟨rfl, hb12⟩
        have HC12 := hid (below_on HC11.out hb12)
        clear hb12
        have hne := HNE.out
        go_wp2_with fail
        refine (PAA.out _ (below_on HB6.out HC12.out)).mono ?_
        rintro e w13 ⟨rfl, hb13⟩
        have HC13 := hid (below_on HC12.out hb13)
        clear hb13
        go_wp2_with fail
        go_meet
        exact ⟨rfl, HC13.out⟩
      · obtain rfl : wac = true := HTR.out rfl rfl
        go_wp2_with fail
        refine (WAB.out _ HB6.out).mono ?_
        rintro e w7 ⟨rfl, hb7⟩
        have HC7 := hid (hb7)
        clear hb7
        go_wp2_with fail
        refine (WBC.out _ (below_on HB6.out HC7.out)).mono ?_
        rintro e w8 ⟨rfl, hb8⟩
        have HC8 := hid (below_on HC7.out hb8)
        clear hb8
        go_wp2_with fail
        refine (WAC.out _ (below_on HB6.out HC8.out)).mono ?_
        rintro e w9 ⟨rfl, hb9⟩
        have HC9 := hid (below_on HC8.out hb9)
        clear hb9
        go_wp2_with fail
        refine (PAB.out _ (below_on HB6.out HC9.out)).mono ?_
        rintro e w11 ⟨rfl, hb11⟩
        have HC11 := hid (below_on HC9.out hb11)
        clear hb11
        go_wp2_with fail
        refine (PBA.out _ (below_on HB6.out HC11.out)).mono ?_
        rintro e w12 ⟨rfl, hb12⟩
        have HC12 := hid (below_on HC11.out hb12)
        clear hb12
        have hne := HNE.out
        go_wp2_with fail
        refine (PAA.out _ (below_on HB6.out HC12.out)).mono ?_
        rintro e w13 ⟨rfl, hb13⟩
        have HC13 := hid (below_on HC12.out hb13)
        clear hb13
        go_wp2_with fail
        go_meet
        exact ⟨rfl, HC13.out⟩
  case rest =>
    obtain ⟨rfl, hbc⟩ := hcut
    obtain ⟨w14, hw14⟩ : ∃ x, x = wc := ⟨_, rfl⟩
    subst hw14
    have HB14 := hid (below_on HB6.out hbc)
    clear hbc
    go_wp2_with fail
    refine (MAA.out _ HB14.out).mono ?_
    rintro e w15 ⟨va, vc, D, ok, rfl, hm, hD, hDc, hb15⟩
    rw [HOWN.out] at hm
    obtain ⟨hDo, rfl⟩ : D.map Ent9.o = sort9 (l.map Ent9.o) ∧ ok = true := ⟨(Prod.mk.inj hm).1.symm, (Prod.mk.inj hm).2.symm⟩
    have HB15 := hid (below_on HB14.out hb15)
    have HD := hid hD
    have HDO := hid hDo
    clear hm hD hDc hb15 hDo
    go_wp2_with fail
    refine (SA.out _ HB15.out).mono ?_
    rintro e w16 ⟨sa, sc, M, rfl, hMl, hMo, hMx, hMm, hb16⟩
    have HB16 := hid (below_on HB15.out hb16)
    have hlM : L9 w16 sa M := ⟨hMx, fun x hx => (HL.out.ent x (hMm x hx)).below (below_on HB15.out hb16), fun x hx => HL.out.few x (hMm x hx), by rw [hMl]; exact HL.out.len⟩
    have hsm := refSame9_any D M va sa vc sc w16 (HD.out.below hb16) hlM
    rw [hMl, decide_eq_true (show D.map Ent9.o = M.map Ent9.o by rw [HDO.out, hMo])] at hsm
    have HSM := hid hsm
    have HD16 := hid (HD.out.below hb16)
    clear hMl hMo hMx hMm hb16 hlM hsm
    go_wp2_with fail
    refine (HSM.out).mono ?_
    rintro e w17 ⟨rfl, hb17⟩
    have HB17 := hid (below_on HB16.out hb17)
    have HB1617 := hid hb17; clear hb17
    go_wp2_with fail
    refine (MAB.out _ HB17.out).mono ?_
    rintro e w18 ⟨va2, vc2, D2, ok2, rfl, hm, hD2, hDc2, hb18⟩
    have HB18 := hid (below_on HB17.out hb18)
    have HB1718 := hid hb18
    have HM2 := hid hm
    have HD2 := hid hD2
    clear hm hD2 hDc2 hb18
    cases wab
    · go_wp2_with fail
      refine (WAB.out _ HB18.out).mono ?_
      rintro e w19 ⟨rfl, hb19⟩
      have HB19 := hid (below_on HB18.out hb19)
      clear hb19
      go_wp2_with fail
      refine (HS.out _).mono ?_
      rintro e w20 ⟨rfl, hb20⟩
      have HB20 := hid (below_on HB19.out hb20)
      clear hb20
      go_wp2_with fail
      exact bodyPost_ret (v := .bool true) (by simp [results, Try.results3, go_sem]) rfl ⟨rfl, HB20.out⟩
    · obtain ⟨hDo2, rfl⟩ : D2.map Ent9.o = sort9 (l.map Ent9.o) ∧ ok2 = true := by
        have := HM2.out
        rw [HIN.out rfl] at this
        exact ⟨(Prod.mk.inj this).1.symm, (Prod.mk.inj this).2.symm⟩
      have HDO2 := hid hDo2
      clear hDo2
      go_wp2_with fail
      refine (WAB.out _ HB18.out).mono ?_
      rintro e w19 ⟨rfl, hb19⟩
      have HB19 := hid (below_on HB18.out hb19)
      have HB1819 := hid hb19; clear hb19
      have hsm := refSame9_any D2 D va2 va vc2 vc w19 (HD2.out.below HB1819.out) (HD16.out.below (below_on HB1617.out (below_on HB1718.out HB1819.out)))
      rw [decide_eq_true (show D2.map Ent9.o = D.map Ent9.o by rw [HDO2.out, HDO.out])] at hsm
      have HSM2 := hid hsm
      clear hsm
      go_wp2_with fail
      refine (HSM2.out).mono ?_
      rintro e w21 ⟨rfl, hb21⟩
      have HB21 := hid (below_on HB19.out hb21)
      clear hb21
      go_wp2_with fail
      refine (HS.out _).mono ?_
      rintro e w20 ⟨rfl, hb20⟩
      have HB20 := hid (below_on HB21.out hb20)
      clear hb20
      go_wp2_with fail
      exact bodyPost_ret (v := .bool true) (by simp [results, Try.results3, go_sem]) rfl ⟨rfl, HB20.out⟩
theorem CoverOrder_walk (a : Option Addr) (len cap : Nat) (b : Option Addr) (lenb capb : Nat) (c : Option Addr) (lenc capc : Nat) (w : World) (h0 : IsOxmsC w a len cap) (h1 : len ≤ 9223372036854775807) (h2 : IsOxmsC w b lenb capb) (h3 : lenb ≤ 9223372036854775807) (h4 : IsOxmsC w c lenc capc) (h5 : lenc ≤ 9223372036854775807) :
    Calls Try.prog 3 #[.slice a len cap, .slice b lenb capb, .slice c lenc capc] w fun e w' => e = .returned (.bool true) ∧ Below w.heap.size w w' := by
  obtain ⟨hlc, hcm, l, rfl, hO, hE⟩ := h0
  obtain ⟨hlc2, hcm2, m, rfl, hO2, hE2⟩ := h2
  obtain ⟨hlc3, hcm3, n, rfl, hO3, hE3⟩ := h4
  cases g0 : fewL9 l
  · exact CoverOrder_out0 a l cap b m capb c n capc w hO h1 hO2 h3 hO3 h5 g0
  cases g1 : fewL9 m
  · exact CoverOrder_out1 a l cap b m capb c n capc w hO h1 hO2 h3 hO3 h5 g0 g1
  cases g2 : fewL9 n
  · exact CoverOrder_out2 a l cap b m capb c n capc w hO h1 hO2 h3 hO3 h5 g0 g1 g2
  have hL := few_l9 hO hE g0
  have hM := few_l9 hO2 hE2 g1
  have hN := few_l9 hO3 hE3 g2
  cases g3 : isMatch10 (l.map Ent9.o)
  · exact CoverOrder_out3 a l cap b m capb c n capc w hO h1 hO2 h3 hO3 h5 hL hM hN hlc hlc2 hlc3 g0 g1 g2 g3
  cases g4 : isMatch10 (m.map Ent9.o)
  · exact CoverOrder_out4 a l cap b m capb c n capc w hO h1 hO2 h3 hO3 h5 hL hM hN hlc hlc2 hlc3 g0 g1 g2 g3 g4
  cases g5 : isMatch10 (n.map Ent9.o)
  · exact CoverOrder_out5 a l cap b m capb c n capc w hO h1 hO2 h3 hO3 h5 hL hM hN hlc hlc2 hlc3 g0 g1 g2 g3 g4 g5
  exact CoverOrder_main a l cap b m capb c n capc w hL hM hN hlc hlc2 hlc3 g0 g1 g2 g3 g4 g5
end Go.Proofs.Ytpmkfkanolhocaa
