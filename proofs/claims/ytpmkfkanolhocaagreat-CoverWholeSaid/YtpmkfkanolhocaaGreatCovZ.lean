/- The law CoverWhole. -/
import Derived.Test.YtpmkfkanolhocaaGreatCovY
namespace Go.Proofs.YtpmkfkanolhocaaGreat
open Go.RowKit
set_option linter.unusedVariables false
set_option maxRecDepth 100000

set_option maxHeartbeats 4000000 in
theorem CoverWhole_out0 (a : Option Addr) (l : List Ent9) (ca : Nat) (b : Option Addr) (m : List Ent9) (cb : Nat) (c : Option Addr) (n : List Ent9) (cc : Nat) (w : World) (hO : Oxms w a l) (h1' : l.length ≤ 9223372036854775807) (hO2 : Oxms w b m) (h2' : m.length ≤ 9223372036854775807) (hO3 : Oxms w c n) (h3' : n.length ≤ 9223372036854775807) (h0 : fewL9 l = false) :
    Calls Tryz.prog 4 #[.slice a l.length ca, .slice b m.length cb, .slice c n.length cc] w fun e w' => e = .returned (.bool true) ∧ Below w.heap.size w w' := by
  have HFA := hid (fun (W : World) (h : Below w.heap.size w W) => refFew9_any l a ca W (hO.below h) h1')
  rw [h0] at HFA
  have HS := hid (fun w => sure11_any w)
  clear hO hO2 hO3 h0
  go_enter Tryz.func4, Tryz.ntmps4
  go_wp2_with fail
  refine (HFA.out _ (Below.refl _ _)).mono ?_
  rintro e w1 ⟨rfl, hb1⟩
  have HB1 := hid (hb1)
  clear hb1
  go_wp2_with fail
  refine (HS.out _).mono ?_
  rintro e w20 ⟨rfl, hb20⟩
  have HB20 := hid (below_on HB1.out hb20)
  clear hb20
  go_wp2_with fail
  exact bodyPost_ret (v := .bool true) (by simp [results, Tryz.results4, go_sem]) rfl ⟨rfl, HB20.out⟩
set_option maxHeartbeats 4000000 in
theorem CoverWhole_out1 (a : Option Addr) (l : List Ent9) (ca : Nat) (b : Option Addr) (m : List Ent9) (cb : Nat) (c : Option Addr) (n : List Ent9) (cc : Nat) (w : World) (hO : Oxms w a l) (h1' : l.length ≤ 9223372036854775807) (hO2 : Oxms w b m) (h2' : m.length ≤ 9223372036854775807) (hO3 : Oxms w c n) (h3' : n.length ≤ 9223372036854775807) (h0 : fewL9 l = true) (h1 : fewL9 m = false) :
    Calls Tryz.prog 4 #[.slice a l.length ca, .slice b m.length cb, .slice c n.length cc] w fun e w' => e = .returned (.bool true) ∧ Below w.heap.size w w' := by
  have HFA := hid (fun (W : World) (h : Below w.heap.size w W) => refFew9_any l a ca W (hO.below h) h1')
  rw [h0] at HFA
  have HFB := hid (fun (W : World) (h : Below w.heap.size w W) => refFew9_any m b cb W (hO2.below h) h2')
  rw [h1] at HFB
  have HS := hid (fun w => sure11_any w)
  clear hO hO2 hO3 h0 h1
  go_enter Tryz.func4, Tryz.ntmps4
  go_wp2_with fail
  refine (HFA.out _ (Below.refl _ _)).mono ?_
  rintro e w1 ⟨rfl, hb1⟩
  have HB1 := hid (hb1)
  clear hb1
  go_wp2_with fail
  refine (HFB.out _ HB1.out).mono ?_
  rintro e w2 ⟨rfl, hb2⟩
  have HB2 := hid (below_on HB1.out hb2)
  clear hb2
  go_wp2_with fail
  refine (HS.out _).mono ?_
  rintro e w20 ⟨rfl, hb20⟩
  have HB20 := hid (below_on HB2.out hb20)
  clear hb20
  go_wp2_with fail
  exact bodyPost_ret (v := .bool true) (by simp [results, Tryz.results4, go_sem]) rfl ⟨rfl, HB20.out⟩
set_option maxHeartbeats 4000000 in
theorem CoverWhole_out2 (a : Option Addr) (l : List Ent9) (ca : Nat) (b : Option Addr) (m : List Ent9) (cb : Nat) (c : Option Addr) (n : List Ent9) (cc : Nat) (w : World) (hO : Oxms w a l) (h1' : l.length ≤ 9223372036854775807) (hO2 : Oxms w b m) (h2' : m.length ≤ 9223372036854775807) (hO3 : Oxms w c n) (h3' : n.length ≤ 9223372036854775807) (h0 : fewL9 l = true) (h1 : fewL9 m = true) (h2 : fewL9 n = false) :
    Calls Tryz.prog 4 #[.slice a l.length ca, .slice b m.length cb, .slice c n.length cc] w fun e w' => e = .returned (.bool true) ∧ Below w.heap.size w w' := by
  have HFA := hid (fun (W : World) (h : Below w.heap.size w W) => refFew9_any l a ca W (hO.below h) h1')
  rw [h0] at HFA
  have HFB := hid (fun (W : World) (h : Below w.heap.size w W) => refFew9_any m b cb W (hO2.below h) h2')
  rw [h1] at HFB
  have HFC := hid (fun (W : World) (h : Below w.heap.size w W) => refFew9_any n c cc W (hO3.below h) h3')
  rw [h2] at HFC
  have HS := hid (fun w => sure11_any w)
  clear hO hO2 hO3 h0 h1 h2
  go_enter Tryz.func4, Tryz.ntmps4
  go_wp2_with fail
  refine (HFA.out _ (Below.refl _ _)).mono ?_
  rintro e w1 ⟨rfl, hb1⟩
  have HB1 := hid (hb1)
  clear hb1
  go_wp2_with fail
  refine (HFB.out _ HB1.out).mono ?_
  rintro e w2 ⟨rfl, hb2⟩
  have HB2 := hid (below_on HB1.out hb2)
  clear hb2
  go_wp2_with fail
  refine (HFC.out _ HB2.out).mono ?_
  rintro e w3 ⟨rfl, hb3⟩
  have HB3 := hid (below_on HB2.out hb3)
  clear hb3
  go_wp2_with fail
  refine (HS.out _).mono ?_
  rintro e w20 ⟨rfl, hb20⟩
  have HB20 := hid (below_on HB3.out hb20)
  clear hb20
  go_wp2_with fail
  exact bodyPost_ret (v := .bool true) (by simp [results, Tryz.results4, go_sem]) rfl ⟨rfl, HB20.out⟩
set_option maxHeartbeats 4000000 in
theorem CoverWhole_out3 (a : Option Addr) (l : List Ent9) (ca : Nat) (b : Option Addr) (m : List Ent9) (cb : Nat) (c : Option Addr) (n : List Ent9) (cc : Nat) (w : World) (hO : Oxms w a l) (h1' : l.length ≤ 9223372036854775807) (hO2 : Oxms w b m) (h2' : m.length ≤ 9223372036854775807) (hO3 : Oxms w c n) (h3' : n.length ≤ 9223372036854775807) (hL : L9 w a l) (hM : L9 w b m) (hN : L9 w c n) (lc : l.length ≤ ca) (mc : m.length ≤ cb) (nc : n.length ≤ cc) (h0 : fewL9 l = true) (h1 : fewL9 m = true) (h2 : fewL9 n = true) (h3 : isMatch10 (l.map Ent9.o) = false) :
    Calls Tryz.prog 4 #[.slice a l.length ca, .slice b m.length cb, .slice c n.length cc] w fun e w' => e = .returned (.bool true) ∧ Below w.heap.size w w' := by
  have HFA := hid (fun (W : World) (h : Below w.heap.size w W) => refFew9_any l a ca W (hO.below h) h1')
  rw [h0] at HFA
  have HFB := hid (fun (W : World) (h : Below w.heap.size w W) => refFew9_any m b cb W (hO2.below h) h2')
  rw [h1] at HFB
  have HFC := hid (fun (W : World) (h : Below w.heap.size w W) => refFew9_any n c cc W (hO3.below h) h3')
  rw [h2] at HFC
  have HRA := hid (fun (W : World) (h : Below w.heap.size w W) => right10_any W a ca l (hL.below h) lc (few_len10 h0))
  rw [h3] at HRA
  have HS := hid (fun w => sure11_any w)
  clear hO hO2 hO3 hL hM hN h0 h1 h2 h3
  go_enter Tryz.func4, Tryz.ntmps4
  go_wp2_with fail
  refine (HFA.out _ (Below.refl _ _)).mono ?_
  rintro e w1 ⟨rfl, hb1⟩
  have HB1 := hid (hb1)
  clear hb1
  go_wp2_with fail
  refine (HFB.out _ HB1.out).mono ?_
  rintro e w2 ⟨rfl, hb2⟩
  have HB2 := hid (below_on HB1.out hb2)
  clear hb2
  go_wp2_with fail
  refine (HFC.out _ HB2.out).mono ?_
  rintro e w3 ⟨rfl, hb3⟩
  have HB3 := hid (below_on HB2.out hb3)
  clear hb3
  go_wp2_with fail
  refine (HRA.out _ HB3.out).mono ?_
  rintro e w4 ⟨rfl, hb4⟩
  have HB4 := hid (below_on HB3.out hb4)
  clear hb4
  go_wp2_with fail
  refine (HS.out _).mono ?_
  rintro e w20 ⟨rfl, hb20⟩
  have HB20 := hid (below_on HB4.out hb20)
  clear hb20
  go_wp2_with fail
  exact bodyPost_ret (v := .bool true) (by simp [results, Tryz.results4, go_sem]) rfl ⟨rfl, HB20.out⟩
set_option maxHeartbeats 4000000 in
theorem CoverWhole_out4 (a : Option Addr) (l : List Ent9) (ca : Nat) (b : Option Addr) (m : List Ent9) (cb : Nat) (c : Option Addr) (n : List Ent9) (cc : Nat) (w : World) (hO : Oxms w a l) (h1' : l.length ≤ 9223372036854775807) (hO2 : Oxms w b m) (h2' : m.length ≤ 9223372036854775807) (hO3 : Oxms w c n) (h3' : n.length ≤ 9223372036854775807) (hL : L9 w a l) (hM : L9 w b m) (hN : L9 w c n) (lc : l.length ≤ ca) (mc : m.length ≤ cb) (nc : n.length ≤ cc) (h0 : fewL9 l = true) (h1 : fewL9 m = true) (h2 : fewL9 n = true) (h3 : isMatch10 (l.map Ent9.o) = true) (h4 : isMatch10 (m.map Ent9.o) = false) :
    Calls Tryz.prog 4 #[.slice a l.length ca, .slice b m.length cb, .slice c n.length cc] w fun e w' => e = .returned (.bool true) ∧ Below w.heap.size w w' := by
  have HFA := hid (fun (W : World) (h : Below w.heap.size w W) => refFew9_any l a ca W (hO.below h) h1')
  rw [h0] at HFA
  have HFB := hid (fun (W : World) (h : Below w.heap.size w W) => refFew9_any m b cb W (hO2.below h) h2')
  rw [h1] at HFB
  have HFC := hid (fun (W : World) (h : Below w.heap.size w W) => refFew9_any n c cc W (hO3.below h) h3')
  rw [h2] at HFC
  have HRA := hid (fun (W : World) (h : Below w.heap.size w W) => right10_any W a ca l (hL.below h) lc (few_len10 h0))
  rw [h3] at HRA
  have HRB := hid (fun (W : World) (h : Below w.heap.size w W) => right10_any W b cb m (hM.below h) mc (few_len10 h1))
  rw [h4] at HRB
  have HS := hid (fun w => sure11_any w)
  clear hO hO2 hO3 hL hM hN h0 h1 h2 h3 h4
  go_enter Tryz.func4, Tryz.ntmps4
  go_wp2_with fail
  refine (HFA.out _ (Below.refl _ _)).mono ?_
  rintro e w1 ⟨rfl, hb1⟩
  have HB1 := hid (hb1)
  clear hb1
  go_wp2_with fail
  refine (HFB.out _ HB1.out).mono ?_
  rintro e w2 ⟨rfl, hb2⟩
  have HB2 := hid (below_on HB1.out hb2)
  clear hb2
  go_wp2_with fail
  refine (HFC.out _ HB2.out).mono ?_
  rintro e w3 ⟨rfl, hb3⟩
  have HB3 := hid (below_on HB2.out hb3)
  clear hb3
  go_wp2_with fail
  refine (HRA.out _ HB3.out).mono ?_
  rintro e w4 ⟨rfl, hb4⟩
  have HB4 := hid (below_on HB3.out hb4)
  clear hb4
  go_wp2_with fail
  refine (HRB.out _ HB4.out).mono ?_
  rintro e w5 ⟨rfl, hb5⟩
  have HB5 := hid (below_on HB4.out hb5)
  clear hb5
  go_wp2_with fail
  refine (HS.out _).mono ?_
  rintro e w20 ⟨rfl, hb20⟩
  have HB20 := hid (below_on HB5.out hb20)
  clear hb20
  go_wp2_with fail
  exact bodyPost_ret (v := .bool true) (by simp [results, Tryz.results4, go_sem]) rfl ⟨rfl, HB20.out⟩
set_option maxHeartbeats 16000000 in
theorem CoverWhole_main (a : Option Addr) (l : List Ent9) (ca : Nat) (b : Option Addr) (m : List Ent9) (cb : Nat) (c : Option Addr) (n : List Ent9) (cc : Nat) (w : World) (hL : L9 w a l) (hM : L9 w b m) (hN : L9 w c n) (lc : l.length ≤ ca) (mc : m.length ≤ cb) (nc : n.length ≤ cc) (h0 : fewL9 l = true) (h1 : fewL9 m = true) (h2 : fewL9 n = true) (h3 : isMatch10 (l.map Ent9.o) = true) (h4 : isMatch10 (m.map Ent9.o) = true) :
    Calls Tryz.prog 4 #[.slice a l.length ca, .slice b m.length cb, .slice c n.length cc] w fun e w' => e = .returned (.bool true) ∧ Below w.heap.size w w' := by
  have HFA := hid (fun (W : World) (h : Below w.heap.size w W) => refFew9_any l a ca W (hL.below h).ox (by have := hL.len; omega))
  rw [h0] at HFA
  have HFB := hid (fun (W : World) (h : Below w.heap.size w W) => refFew9_any m b cb W (hM.below h).ox (by have := hM.len; omega))
  rw [h1] at HFB
  have HFC := hid (fun (W : World) (h : Below w.heap.size w W) => refFew9_any n c cc W (hN.below h).ox (by have := hN.len; omega))
  rw [h2] at HFC
  have HRA := hid (fun (W : World) (h : Below w.heap.size w W) => right10_any W a ca l (hL.below h) lc (few_len10 h0))
  rw [h3] at HRA
  have HRB := hid (fun (W : World) (h : Below w.heap.size w W) => right10_any W b cb m (hM.below h) mc (few_len10 h1))
  rw [h4] at HRB
  have HON := hid (fun (W : World) (h : Below w.heap.size w W) => once_any n c cc W (hN.below h))
  have oA := okL_of hL h3
  have oB := okL_of hM h4
  have fl := few_sixty h0
  have fm := few_sixty h1
  have HS := hid (fun w => sure11_any w)
  have HL := hid hL
  have HM := hid hM
  have HN := hid hN
  have OA := hid oA
  have OB := hid oB
  have LA := hid (few_len10 h0)
  have LB := hid (few_len10 h1)
  have rA : rightL (l.map Ent9.o) = true := by rw [rightL_is (few_len10 h0)]; exact h3
  have rB : rightL (m.map Ent9.o) = true := by rw [rightL_is (few_len10 h1)]; exact h4
  have RAB := hid (And.intro rA rB)
  clear hL hM hN h0 h1 h2 h3 h4 oA oB rA rB
  go_enter Tryz.func4, Tryz.ntmps4
  go_wp2_with fail
  refine (HFA.out _ (Below.refl _ _)).mono ?_
  rintro e w1 ⟨rfl, hb1⟩
  have HB1 := hid (hb1)
  clear hb1
  go_wp2_with fail
  refine (HFB.out _ HB1.out).mono ?_
  rintro e w2 ⟨rfl, hb2⟩
  have HB2 := hid (below_on HB1.out hb2)
  clear hb2
  go_wp2_with fail
  refine (HFC.out _ HB2.out).mono ?_
  rintro e w3 ⟨rfl, hb3⟩
  have HB3 := hid (below_on HB2.out hb3)
  clear hb3
  go_wp2_with fail
  refine (HRA.out _ HB3.out).mono ?_
  rintro e w4 ⟨rfl, hb4⟩
  have HB4 := hid (below_on HB3.out hb4)
  clear hb4
  go_wp2_with fail
  refine (HRB.out _ HB4.out).mono ?_
  rintro e w5 ⟨rfl, hb5⟩
  have HB5 := hid (below_on HB4.out hb5)
  clear hb5
  go_wp2_with fail
  refine (HON.out _ HB5.out).mono ?_
  rintro e w6 ⟨r, rfl, hr, hb6⟩
  have HB6 := hid (below_on HB5.out hb6)
  have HR := hid hr
  clear hr hb6
  cases r
  · go_wp2_with fail
    refine (HS.out _).mono ?_
    rintro e w20 ⟨rfl, hb20⟩
    have HB20 := hid (below_on HB6.out hb20)
    clear hb20
    go_wp2_with fail
    exact bodyPost_ret (v := .bool true) (by simp [results, Tryz.results4, go_sem]) rfl ⟨rfl, HB20.out⟩
  · have oP : OkL (n.map Ent9.o) := ⟨fun o ho => ⟨(HR.out rfl).1 o ho, (by obtain ⟨x, hx, rfl⟩ := List.mem_map.1 ho; exact (HN.out.ent x hx).ov), (by obtain ⟨x, hx, rfl⟩ := List.mem_map.1 ho; exact (HN.out.ent x hx).om)⟩, (HR.out rfl).2⟩
    have OP := hid oP
    have TAP := hid (fun (W : World) (h : Below w.heap.size w W) => takes_any l n a c ca cc W (HL.out.below h) (HN.out.below h) OA.out oP)
    have TBP := hid (fun (W : World) (h : Below w.heap.size w W) => takes_any m n b c cb cc W (HM.out.below h) (HN.out.below h) OB.out oP)
    have WAB := hid (fun (W : World) (h : Below w.heap.size w W) => within_any l m a b ca cb W (HL.out.below h) (HM.out.below h) OA.out OB.out)
    have PAB := hid (fun (W : World) (h : Below w.heap.size w W) => apart_any l m a b ca cb W (HL.out.below h) (HM.out.below h) OA.out OB.out)
    have WAA := hid (fun (W : World) (h : Below w.heap.size w W) => within_any l l a a ca ca W (HL.out.below h) (HL.out.below h) OA.out OA.out)
    have WAN : Hid (∀ (W : World), Below w.heap.size w W → Calls Tryz.prog 13 #[.slice a l.length ca, .slice none 0 0] W fun e w' => e = .returned (.bool true) ∧ Below W.heap.size W w') := fun W h => within_any l [] a none ca 0 W (HL.out.below h) (l9_nil10 W none) OA.out ⟨by simp, by simp⟩
    have MAB := hid (fun (W : World) (h : Below w.heap.size w W) => meet_any l m a b ca cb W (HL.out.below h) (HM.out.below h) lc mc fl fm LA.out LB.out)
    have MBA := hid (fun (W : World) (h : Below w.heap.size w W) => meet_any m l b a cb ca W (HM.out.below h) (HL.out.below h) mc lc fm fl LB.out LA.out)
    rw [within_self OA.out] at WAA
    have HWT := hid (fun h k => takes_within OA.out OB.out oP h k)
    have HPT := hid (fun h k => takes_apart OA.out OB.out oP h k)
    have HMT := hid (fun hc hz => meet_takes OA.out OB.out oP hc hz)
    have HMW := hid (fun hc hz => meet_within OA.out OB.out hc hz)
    obtain ⟨x, hx⟩ : ∃ r, takes11 (l.map Ent9.o) (n.map Ent9.o) = r := ⟨_, rfl⟩
    obtain ⟨y, hy⟩ : ∃ r, takes11 (m.map Ent9.o) (n.map Ent9.o) = r := ⟨_, rfl⟩
    obtain ⟨wab, hwab⟩ : ∃ r, within11 (l.map Ent9.o) (m.map Ent9.o) = r := ⟨_, rfl⟩
    obtain ⟨pab, hpab⟩ : ∃ r, apart11 (l.map Ent9.o) (m.map Ent9.o) = r := ⟨_, rfl⟩
    rw [hx] at TAP HWT HPT HMT
    rw [hy] at TBP HWT HPT HMT
    rw [hwab] at WAB HWT
    rw [hpab] at PAB HPT
    have HPAB := hid hpab
    clear hx hy hwab hpab oP
    go_wp2_with fail
    refine (TAP.out _ HB6.out).mono ?_
    rintro e w7 ⟨rfl, hb7⟩
    have HB7 := hid (below_on HB6.out hb7)
    clear hb7
    go_wp2_with fail
    refine (TBP.out _ HB7.out).mono ?_
    rintro e w8 ⟨rfl, hb8⟩
    have HB8 := hid (below_on HB7.out hb8)
    clear hb8
    go_upto_region 4 with fail
    go_cut [79] (fun t79 wx => t79 = .bool false ∧ Below w8.heap.size w8 wx)
    case first =>
      have hT := HWT.out
      have hP := HPT.out
      have hcon : (wab = true → x = true → y = true) ∧ (x = true → y = true → pab = false) := ⟨hT, hP⟩
      clear hT hP HWT HPT HMT HMW
      cases wab <;> cases x <;> cases y <;> cases pab <;> first
        | (exfalso; simp at hcon; done)
        | (clear hcon
           go_wp2_with fail
           refine (WAB.out _ HB8.out).mono ?_
           rintro e w9 ⟨rfl, hb9⟩
           have HB9 := hid (hb9)
           clear hb9
           go_wp2_with fail
           refine (PAB.out _ (below_on HB8.out HB9.out)).mono ?_
           rintro e w10 ⟨rfl, hb10⟩
           have HB10 := hid (below_on HB9.out hb10)
           clear hb10
           go_wp2_with fail
           refine (WAA.out _ (below_on HB8.out HB10.out)).mono ?_
           rintro e w11 ⟨rfl, hb11⟩
           have HB11 := hid (below_on HB10.out hb11)
           clear hb11
           go_wp2_with fail
           refine (WAN.out _ (below_on HB8.out HB11.out)).mono ?_
           rintro e w12 ⟨rfl, hb12⟩
           have HB12 := hid (below_on HB11.out hb12)
           clear hb12
           go_wp2_with fail
           go_meet
           exact ⟨rfl, HB12.out⟩)
    case rest =>
      obtain ⟨rfl, hbc⟩ := hcut
      obtain ⟨w13, hw13⟩ : ∃ x, x = wc := ⟨_, rfl⟩
      subst hw13
      have HB13 := hid (below_on HB8.out hbc)
      clear hbc
      go_wp2_with fail
      refine (MAB.out _ HB13.out).mono ?_
      rintro e w14 ⟨va, vc, D, ok, rfl, hm, hD, hDc, hb14⟩
      have HB14 := hid (below_on HB13.out hb14)
      have HD := hid hD
      have HMM := hid hm
      clear hm hD hb14
      cases ok
      · have hD0 : D = [] := by
          have := HMM.out
          unfold meet11 at this
          split at this
          · exact absurd (Prod.mk.inj this).2 (by simp)
          · exact List.map_eq_nil_iff.1 (Prod.mk.inj this).1.symm
        subst hD0
        go_wp2_with fail
        refine (HS.out _).mono ?_
        rintro e w20 ⟨rfl, hb20⟩
        have HB20 := hid (below_on HB14.out hb20)
        clear hb20
        go_wp2_with fail
        exact bodyPost_ret (v := .bool true) (by simp [results, Tryz.results4, go_sem]) rfl ⟨rfl, HB20.out⟩
      · have hok : meetOk (l.map Ent9.o) (m.map Ent9.o) = true := by
          cases e : meetOk (l.map Ent9.o) (m.map Ent9.o)
          · have := HMM.out
            rw [meet_no e] at this
            exact absurd (Prod.mk.inj this).2 (by simp)
          · rfl
        have hDo : D.map Ent9.o = sort9 (out11 (l.map Ent9.o) (m.map Ent9.o)) := by
          have := HMM.out
          rw [meet_yes hok] at this
          exact (Prod.mk.inj this).1.symm
        have hparts := hok
        unfold meetOk at hparts
        simp only [Bool.and_eq_true, Bool.not_eq_true'] at hparts
        obtain ⟨⟨⟨_, _⟩, hap⟩, hrt⟩ := hparts
        have hrt2 := hrt
        unfold rightL at hrt2
        rw [Bool.and_eq_true, decide_eq_true_iff] at hrt2
        rw [← hDo] at hrt2
        have oD := okL_of HD.out hrt2.1
        have hz : ∀ z ∈ out11 (l.map Ent9.o) (m.map Ent9.o), OkV z := fun z hz => oD.ok z (by rw [hDo]; exact mem_sort.2 hz)
        have RD := hid (fun (W : World) (h : Below w14.heap.size w14 W) => right10_any W va vc D (HD.out.below h) hDc hrt2.2)
        rw [hrt2.1] at RD
        have TDP := hid (fun (W : World) (h : Below w14.heap.size w14 W) => takes_any D n va c vc cc W (HD.out.below h) (HN.out.below (below_on HB14.out h)) oD OP.out)
        rw [hDo, HMT.out hap hz] at TDP
        have WDA := hid (fun (W : World) (h : Below w14.heap.size w14 W) => within_any D l va a vc ca W (HD.out.below h) (HL.out.below (below_on HB14.out h)) oD OA.out)
        have WDB := hid (fun (W : World) (h : Below w14.heap.size w14 W) => within_any D m va b vc cb W (HD.out.below h) (HM.out.below (below_on HB14.out h)) oD OB.out)
        rw [hDo, (HMW.out hap hz).1] at WDA
        rw [hDo, (HMW.out hap hz).2] at WDB
        have HDO := hid hDo
        clear hok hDo hap hrt hrt2 oD hz hDc HWT HPT HMT HMW
        go_wp2_with fail
        refine (MBA.out _ HB14.out).mono ?_
        rintro e w15 ⟨va2, vc2, D2, ok2, rfl, hm2, hD2, hDc2, hb15⟩
        rw [meet_symm OB.out OA.out, HMM.out] at hm2
        obtain ⟨hDo2, rfl⟩ : D2.map Ent9.o = D.map Ent9.o ∧ ok2 = true := ⟨(Prod.mk.inj hm2).1.symm, (Prod.mk.inj hm2).2.symm⟩
        have HB15 := hid hb15
        have HD2 := hid hD2
        have HDO2 := hid hDo2
        clear hm2 hD2 hDc2 hb15 hDo2
        cases x <;> cases y
        · go_wp2_with fail
          refine (RD.out _ HB15.out).mono ?_
          rintro e w16 ⟨rfl, hb16⟩
          have HB16 := hid (below_on HB15.out hb16)
          have HC16 := hid hb16; clear hb16
          go_wp2_with fail
          refine (TDP.out _ HB16.out).mono ?_
          rintro e w17 ⟨rfl, hb17⟩
          have HB17 := hid (below_on HB16.out hb17)
          have HC17 := hid hb17; clear hb17
          go_wp2_with fail
          refine (WDA.out _ HB17.out).mono ?_
          rintro e w18 ⟨rfl, hb18⟩
          have HB18 := hid (below_on HB17.out hb18)
          have HC18 := hid hb18; clear hb18
          go_wp2_with fail
          refine (WDB.out _ HB18.out).mono ?_
          rintro e w19 ⟨rfl, hb19⟩
          have HB19 := hid (below_on HB18.out hb19)
          have HC19 := hid hb19; clear hb19
          have h1519 : Below w15.heap.size w15 w19 := below_on HC16.out (below_on HC17.out (below_on HC18.out HC19.out))
          have hsm := same10_any D D2 va va2 vc vc2 w19 (HD.out.below HB19.out) (HD2.out.below h1519)
          rw [decide_eq_true (show D.map Ent9.o = D2.map Ent9.o from HDO2.out.symm)] at hsm
          have HSM := hid hsm
          clear hsm h1519
          go_wp2_with fail
          refine (HSM.out).mono ?_
          rintro e w21 ⟨rfl, hb21⟩
          have HB21 := hid (below_on HB19.out hb21)
          clear hb21
          go_wp2_with fail
          refine (HS.out _).mono ?_
          rintro e w20 ⟨rfl, hb20⟩
          have HB20 := hid (below_on HB21.out hb20)
          clear hb20
          go_wp2_with fail
          exact bodyPost_ret (v := .bool true) (by simp [results, Tryz.results4, go_sem]) rfl ⟨rfl, (below_on HB14.out HB20.out)⟩
        · go_wp2_with fail
          refine (RD.out _ HB15.out).mono ?_
          rintro e w16 ⟨rfl, hb16⟩
          have HB16 := hid (below_on HB15.out hb16)
          have HC16 := hid hb16; clear hb16
          go_wp2_with fail
          refine (TDP.out _ HB16.out).mono ?_
          rintro e w17 ⟨rfl, hb17⟩
          have HB17 := hid (below_on HB16.out hb17)
          have HC17 := hid hb17; clear hb17
          go_wp2_with fail
          refine (WDA.out _ HB17.out).mono ?_
          rintro e w18 ⟨rfl, hb18⟩
          have HB18 := hid (below_on HB17.out hb18)
          have HC18 := hid hb18; clear hb18
          go_wp2_with fail
          refine (WDB.out _ HB18.out).mono ?_
          rintro e w19 ⟨rfl, hb19⟩
          have HB19 := hid (below_on HB18.out hb19)
          have HC19 := hid hb19; clear hb19
          have h1519 : Below w15.heap.size w15 w19 := below_on HC16.out (below_on HC17.out (below_on HC18.out HC19.out))
          have hsm := same10_any D D2 va va2 vc vc2 w19 (HD.out.below HB19.out) (HD2.out.below h1519)
          rw [decide_eq_true (show D.map Ent9.o = D2.map Ent9.o from HDO2.out.symm)] at hsm
          have HSM := hid hsm
          clear hsm h1519
          go_wp2_with fail
          refine (HSM.out).mono ?_
          rintro e w21 ⟨rfl, hb21⟩
          have HB21 := hid (below_on HB19.out hb21)
          clear hb21
          go_wp2_with fail
          refine (HS.out _).mono ?_
          rintro e w20 ⟨rfl, hb20⟩
          have HB20 := hid (below_on HB21.out hb20)
          clear hb20
          go_wp2_with fail
          exact bodyPost_ret (v := .bool true) (by simp [results, Tryz.results4, go_sem]) rfl ⟨rfl, (below_on HB14.out HB20.out)⟩
        · go_wp2_with fail
          refine (RD.out _ HB15.out).mono ?_
          rintro e w16 ⟨rfl, hb16⟩
          have HB16 := hid (below_on HB15.out hb16)
          have HC16 := hid hb16; clear hb16
          go_wp2_with fail
          refine (TDP.out _ HB16.out).mono ?_
          rintro e w17 ⟨rfl, hb17⟩
          have HB17 := hid (below_on HB16.out hb17)
          have HC17 := hid hb17; clear hb17
          go_wp2_with fail
          refine (WDA.out _ HB17.out).mono ?_
          rintro e w18 ⟨rfl, hb18⟩
          have HB18 := hid (below_on HB17.out hb18)
          have HC18 := hid hb18; clear hb18
          go_wp2_with fail
          refine (WDB.out _ HB18.out).mono ?_
          rintro e w19 ⟨rfl, hb19⟩
          have HB19 := hid (below_on HB18.out hb19)
          have HC19 := hid hb19; clear hb19
          have h1519 : Below w15.heap.size w15 w19 := below_on HC16.out (below_on HC17.out (below_on HC18.out HC19.out))
          have hsm := same10_any D D2 va va2 vc vc2 w19 (HD.out.below HB19.out) (HD2.out.below h1519)
          rw [decide_eq_true (show D.map Ent9.o = D2.map Ent9.o from HDO2.out.symm)] at hsm
          have HSM := hid hsm
          clear hsm h1519
          go_wp2_with fail
          refine (HSM.out).mono ?_
          rintro e w21 ⟨rfl, hb21⟩
          have HB21 := hid (below_on HB19.out hb21)
          clear hb21
          go_wp2_with fail
          refine (HS.out _).mono ?_
          rintro e w20 ⟨rfl, hb20⟩
          have HB20 := hid (below_on HB21.out hb20)
          clear hb20
          go_wp2_with fail
          exact bodyPost_ret (v := .bool true) (by simp [results, Tryz.results4, go_sem]) rfl ⟨rfl, (below_on HB14.out HB20.out)⟩
        · go_wp2_with fail
          refine (RD.out _ HB15.out).mono ?_
          rintro e w16 ⟨rfl, hb16⟩
          have HB16 := hid (below_on HB15.out hb16)
          have HC16 := hid hb16; clear hb16
          go_wp2_with fail
          refine (TDP.out _ HB16.out).mono ?_
          rintro e w17 ⟨rfl, hb17⟩
          have HB17 := hid (below_on HB16.out hb17)
          have HC17 := hid hb17; clear hb17
          go_wp2_with fail
          refine (WDA.out _ HB17.out).mono ?_
          rintro e w18 ⟨rfl, hb18⟩
          have HB18 := hid (below_on HB17.out hb18)
          have HC18 := hid hb18; clear hb18
          go_wp2_with fail
          refine (WDB.out _ HB18.out).mono ?_
          rintro e w19 ⟨rfl, hb19⟩
          have HB19 := hid (below_on HB18.out hb19)
          have HC19 := hid hb19; clear hb19
          have h1519 : Below w15.heap.size w15 w19 := below_on HC16.out (below_on HC17.out (below_on HC18.out HC19.out))
          have hsm := same10_any D D2 va va2 vc vc2 w19 (HD.out.below HB19.out) (HD2.out.below h1519)
          rw [decide_eq_true (show D.map Ent9.o = D2.map Ent9.o from HDO2.out.symm)] at hsm
          have HSM := hid hsm
          clear hsm h1519
          go_wp2_with fail
          refine (HSM.out).mono ?_
          rintro e w21 ⟨rfl, hb21⟩
          have HB21 := hid (below_on HB19.out hb21)
          clear hb21
          go_wp2_with fail
          refine (HS.out _).mono ?_
          rintro e w20 ⟨rfl, hb20⟩
          have HB20 := hid (below_on HB21.out hb20)
          clear hb20
          go_wp2_with fail
          exact bodyPost_ret (v := .bool true) (by simp [results, Tryz.results4, go_sem]) rfl ⟨rfl, (below_on HB14.out HB20.out)⟩
theorem CoverWhole_walk (a : Option Addr) (len cap : Nat) (b : Option Addr) (lenb capb : Nat) (c : Option Addr) (lenc capc : Nat) (w : World) (h0 : IsOxmsC w a len cap) (h1 : len ≤ 9223372036854775807) (h2 : IsOxmsC w b lenb capb) (h3 : lenb ≤ 9223372036854775807) (h4 : IsOxmsC w c lenc capc) (h5 : lenc ≤ 9223372036854775807) :
    Calls Tryz.prog 4 #[.slice a len cap, .slice b lenb capb, .slice c lenc capc] w fun e w' => e = .returned (.bool true) ∧ Below w.heap.size w w' := by
  obtain ⟨hlc, hcm, l, rfl, hO, hE⟩ := h0
  obtain ⟨hlc2, hcm2, m, rfl, hO2, hE2⟩ := h2
  obtain ⟨hlc3, hcm3, n, rfl, hO3, hE3⟩ := h4
  cases g0 : fewL9 l
  · exact CoverWhole_out0 a l cap b m capb c n capc w hO h1 hO2 h3 hO3 h5 g0
  cases g1 : fewL9 m
  · exact CoverWhole_out1 a l cap b m capb c n capc w hO h1 hO2 h3 hO3 h5 g0 g1
  cases g2 : fewL9 n
  · exact CoverWhole_out2 a l cap b m capb c n capc w hO h1 hO2 h3 hO3 h5 g0 g1 g2
  have hL := few_l9 hO hE g0
  have hM := few_l9 hO2 hE2 g1
  have hN := few_l9 hO3 hE3 g2
  cases g3 : isMatch10 (l.map Ent9.o)
  · exact CoverWhole_out3 a l cap b m capb c n capc w hO h1 hO2 h3 hO3 h5 hL hM hN hlc hlc2 hlc3 g0 g1 g2 g3
  cases g4 : isMatch10 (m.map Ent9.o)
  · exact CoverWhole_out4 a l cap b m capb c n capc w hO h1 hO2 h3 hO3 h5 hL hM hN hlc hlc2 hlc3 g0 g1 g2 g3 g4
  exact CoverWhole_main a l cap b m capb c n capc w hL hM hN hlc hlc2 hlc3 g0 g1 g2 g3 g4
end Go.Proofs.YtpmkfkanolhocaaGreat
