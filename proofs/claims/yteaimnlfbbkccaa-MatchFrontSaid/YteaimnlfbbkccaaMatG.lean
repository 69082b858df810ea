/- The document's matches as bytes. -/
import Derived.Test.YteaimnlfbbkccaaMatF
namespace Go.Proofs.Yteaimnlfbbkccaa
open Go.RowKit
set_option linter.unusedVariables false
set_option maxRecDepth 100000

theorem underInt10 : Try.prog.underlying 3 = some (.int .i64) := by kernel_rfl
set_option maxHeartbeats 4000000 in
theorem refBytes10_any (w : World) (a : Option Addr) (c : Nat) (l : List Ent9) (hL : L9 w a l) (hbig : len10 (l.map Ent9.o) ≤ 65528) (hall : (l.map Ent9.o).all right10 = true) :
    Calls Try.prog 34 #[.slice a l.length c] w fun e w' => ∃ ad cp, e = .returned (.slice ad (match10 (l.map Ent9.o)).length cp) ∧ Below w.heap.size w w' ∧ Ints .u8 w' ad (match10 (l.map Ent9.o)) ∧ (match10 (l.map Ent9.o)).length ≤ cp ∧ cp ≤ 9223372036854775807 := by
  have HL := hid hL
  have hll : l.length ≤ 1000 := hL.len
  have HBIG := hid hbig
  have HALL := hid hall
  obtain ⟨MM, hMM⟩ : ∃ MM, match10 (l.map Ent9.o) = MM := ⟨_, rfl⟩
  rw [hMM]
  have HMM := hid hMM
  clear hL hbig hall hMM
  go_enter Try.func34, Try.ntmps34
  go_wp2_with fail
  go_loopg [3, 4] (l.length) (fun kx s3 s4 wr => ∃ (i : Nat) (va : Option Addr) (vc : Nat) (out : List Int), s3 = .slice va out.length vc ∧ s4 = .int .i64 i ∧ i ≤ l.length ∧ l.length - i ≤ kx ∧ Hid (out = body10 ((l.map Ent9.o).take i)) ∧ out.length ≤ 65524 ∧ Hid (Fresh 5 w wr (.slice va out.length vc) (out.map (Value.int .u8))))
  case atStart => exact ⟨0, none, 0, [], rfl, rfl, by omega, by omega, rfl, by simp, ⟨own_nilI _ _ _, Below.refl _ _, fun g e => by cases e⟩⟩
  case round =>
    obtain ⟨i, va, vc, out, rfl, rfl, hi, hkx, hout, hol, hF⟩ := hrel
    by_cases hlt : i < l.length
    · have hltz : (i : Int) < (l.length : Int) := by omega
      have hl := HL.out.below hF.out.bel
      obtain ⟨b, off, rfl, c0, c1, c2, c3, c4, c5⟩ := hl.ox i hlt
      have hE := hl.ent l[i] (List.getElem_mem hlt)
      have hW := hl.few l[i] (List.getElem_mem hlt)
      have hget : (l.map Ent9.o)[i]? = some l[i].o := by simp [hlt]
      generalize l[i] = h at c0 c1 c2 c3 c4 c5 hE hW hget
      have htk : (l.map Ent9.o).take (i + 1) = (l.map Ent9.o).take i ++ [h.o] := by rw [List.take_add_one, hget]; rfl
      have hr8 : right10 h.o = true := List.all_eq_true.1 HALL.out h.o (List.mem_of_getElem? hget)
      have hr9 : rightB h.o.C h.o.F h.o.H h.o.X h.o.v h.o.m = true := hr8
      have HBY := hid (ref8Bytes_any h.o.C h.o.F h.o.H h.o.X h.va h.vc h.ma h.mc h.o.v h.o.m hW.1 hW.2 hE.cm hE.ov hE.om wr hE.iv hE.im hE.x.1 (right_facts hr9))
      have hnew : out ++ oxmBytes h.o.C h.o.F h.o.H h.o.X h.o.v h.o.m = body10 ((l.map Ent9.o).take (i + 1)) := by
        rw [htk, body_append10, hout.out]
        have : body10 [h.o] = oxmBytes h.o.C h.o.F h.o.H h.o.X h.o.v h.o.m := by simp [body10, bytes10]
        rw [this]
      have hlen2 : (body10 ((l.map Ent9.o).take (i + 1))).length ≤ 65524 := by
        have e : body10 (l.map Ent9.o) = body10 ((l.map Ent9.o).take (i + 1)) ++ body10 ((l.map Ent9.o).drop (i + 1)) := by rw [← body_append10, List.take_append_drop]
        have := HBIG.out
        unfold len10 at this
        rw [e, List.length_append] at this
        omega
      obtain ⟨bs, hbs⟩ : ∃ bs, oxmBytes h.o.C h.o.F h.o.H h.o.X h.o.v h.o.m = bs := ⟨_, rfl⟩
      rw [hbs] at HBY hnew
      obtain ⟨ys, hys⟩ : ∃ ys, body10 ((l.map Ent9.o).take (i + 1)) = ys := ⟨_, rfl⟩
      rw [hys] at hnew hlen2
      have HNEW := hid hnew
      have HYS := hid hys
      clear hr8 hr9 htk hget hE hW hl hbs hys hnew
      go_wp2_with fail
      refine HBY.out.mono ?_
      rintro e w1 ⟨ad, cp, rfl, hb1, hI, hcp⟩
      have hF2 := hF.out.behind (below_by_none hb1)
      have HF2 := hid hF2
      clear hF2 hb1 hcp c0 c1 c2 c3 c4 c5
      go_wp2_with (at_builtin; refine wp_app_ints rfl (.tmp 13) (.tmp 18) rfl elemU8 rfl HF2.out.own rfl rfl hI HNEW.out ?_ ?_ ?_; omega; omega; intro a3 c3 w3 hl3 hc3 hI3 hg3; have HG3 := hid (HF2.out.step hg3); clear hI3 hg3)
      go_roundg (l.length - (i + 1))
      case rel => exact ⟨i + 1, a3, c3, ys, rfl, by go_num, by omega, by omega, HYS.out.symm, hlen2, HG3.out⟩
      case measure => omega
    · have hge : (l.length : Int) ≤ (i : Int) := by omega
      have hi2 : i = l.length := by omega
      have hob := hout.out
      rw [List.take_of_length_le (by rw [List.length_map]; omega)] at hob
      have hn : 4 + out.length = len10 (l.map Ent9.o) := by rw [hob]; rfl
      have hM : match10 (l.map Ent9.o) = bytesL 1 2 ++ bytesL ((4 + out.length : Nat) : Int) 2 ++ out ++ List.replicate (zeros10 (4 + out.length)) 0 := by
        unfold match10 head10
        rw [← hn, ← hob]
        simp
      obtain ⟨n, hn2⟩ : ∃ n, 4 + out.length = n := ⟨_, rfl⟩
      rw [hn2] at hM
      have hni : (4 : Int) + (out.length : Int) = (n : Int) := by omega
      have wn : IntKind.u64.wrap (n : Int) = (n : Int) := by rw [u64_wrap8]; omega
      have l1 : (bytesL 1 2).length = 2 := bytesL_length 1 2
      have l2 : (bytesL (n : Int) 2).length = 2 := bytesL_length _ 2
      obtain ⟨y1, hy1⟩ : ∃ y1, bytesL 1 2 ++ bytesL (n : Int) 2 = y1 := ⟨_, rfl⟩
      have q1 : y1.length = 4 := by rw [← hy1, List.length_append, l1, l2]
      obtain ⟨y2, hy2⟩ : ∃ y2, y1 ++ out = y2 := ⟨_, rfl⟩
      have q2 : y2.length = n := by rw [← hy2, List.length_append, q1]; omega
      obtain ⟨y3, hy3⟩ : ∃ y3, y2 ++ List.replicate (zeros10 n) 0 = y3 := ⟨_, rfl⟩
      have q3 : y3.length = n + zeros10 n := by rw [← hy3, List.length_append, q2, List.length_replicate]
      have hM3 : MM = y3 := by rw [← HMM.out, hM, hy1, hy2, hy3]
      have HN1 := hid (fun W => num_any 1 2 W (by decide))
      have HN2 := hid (fun W => num_any (n : Int) 2 W (by decide))
      have hn6 : n ≤ 65528 := by omega
      have HZR := hid (fun W => refZeros10_any W n (by omega))
      have hz8 := zeros_lt10 n
      obtain ⟨z, hz⟩ : ∃ z, zeros10 n = z := ⟨_, rfl⟩
      rw [hz] at HZR hz8 hy3 q3
      have HY1 := hid hy1
      have HY2 := hid hy2
      have HY3 := hid hy3
      have HQ3 := hid q3
      have HB1 := hid l1
      have HB2 := hid l2
      have hO := hF.out
      have HO : Hid (Ints .u8 wr va out ∧ out.length ≤ vc) := by
        obtain ⟨a', c', he, h1, h2, h3⟩ := own_ints hO.own
        simp at he
        obtain ⟨rfl, rfl⟩ := he
        exact ⟨h3, h1⟩
      have HFR := hid hO
      have HN := hid hn2
      have HNI := hid hni
      have hq3 : y3.length ≤ 65536 := by omega
      have HWN := hid wn
      have HM3 := hid hM3
      have HQ1 := hid q1
      have HQ2 := hid q2
      clear hO hn hM hM3 hn2 l1 l2 hy1 hy2 hy3 hz q3 q1 q2 hob hi2
      go_wp2_with fail
      refine (HN1.out _).mono ?_
      rintro e w2 ⟨v2, rfl, hF2⟩
      obtain ⟨a2, c2, rfl, _, _, _⟩ := own_ints hF2.own
      have HF2 := hid hF2
      clear hF2
      rw [HB1.out]
      go_wp2_with fail
      refine (HN2.out _).mono ?_
      rintro e w3 ⟨v3, rfl, hF3⟩
      obtain ⟨a3, c3, rfl, _, _, hI3⟩ := own_ints hF3.own
      have hFa := HF2.out.behind (below_by_none hF3.bel)
      rw [HB2.out]
      clear hF3
      go_upto_region 8 with (at_builtin; refine wp_app_ints rfl (.tmp 23) (.tmp 26) rfl elemU8 rfl hFa.own rfl rfl hI3 HY1.out ?_ ?_ ?_; (have := HQ1.out; omega); (have := HQ1.out; omega); intro a4 c4 w4 hl4 hc4 hI4 hg4)
      have hFb := hFa.step hg4
      have hIo := HO.out.1.below hFb.bel
      have HFB := hid hFb
      clear hFa hg4 hI4 hI3 hFb
      go_wp2_with (at_builtin; refine wp_app_ints rfl (.tmp 28) (.tmp 29) rfl elemU8 rfl HFB.out.own rfl rfl hIo HY2.out ?_ ?_ ?_; (have := HQ2.out; omega); (have := HQ2.out; omega); intro a5 c5 w5 hl5 hc5 hI5 hg5; have HFC := hid (HFB.out.step hg5); clear hg5 hI5)
      refine (HZR.out _).mono ?_
      rintro e w6 ⟨rfl, rfl⟩
      go_wp2_with (at_builtin; refine wp_app_zeros rfl (.tmp 30) (.tmp 32) rfl elemU8 underInt10 rfl HFC.out.own (n := z) rfl rfl ?_ ?_ ?_; (simp only [List.length_map]; have := HQ2.out; omega); (simp only [List.length_map]; have := HQ2.out; omega); intro v8 w8 hg8; rw [← List.map_append, HY3.out] at hg8; have HFD := hid (HFC.out.step hg8); clear hg8)
      obtain ⟨va8, vc8, rfl, hl8, hc8, hI8⟩ := own_ints HFD.out.own
      go_ret
      rw [HM3.out]
      exact ⟨va8, vc8, rfl, below_on HFR.out.bel HFD.out.bel, hI8, hl8, by unfold maxLen at hc8; omega⟩
/-- what comes of a list that the document encodes -/
def RefEncPost10 (L : List Ox9) (w : World) (e : Ending) (w' : World) : Prop :=
  (isMatch10 L = false ∧ e = .returned (.tuple #[.slice none 0 0, .int .i64 10001]) ∧ Below w.heap.size w w') ∨
  (isMatch10 L = true ∧ ∃ ad cp, e = .returned (.tuple #[.slice ad (match10 L).length cp, .int .i64 0]) ∧ Below w.heap.size w w' ∧ Ints .u8 w' ad (match10 L))
set_option maxHeartbeats 2000000 in
theorem refEncode10_any (w : World) (a : Option Addr) (c : Nat) (l : List Ent9) (hL : L9 w a l) (hlc : l.length ≤ c) (hbig : len10 (l.map Ent9.o) ≤ 65528) :
    Calls Try.prog 11 #[.slice a l.length c] w (RefEncPost10 (l.map Ent9.o) w) := by
  have HR := refRight10_any w a c l hL hlc hbig
  cases hm : isMatch10 (l.map Ent9.o)
  · rw [hm] at HR
    have HRR := hid HR
    have HM := hid hm
    clear hL hbig HR hm
    go_enter Try.func11, Try.ntmps11
    go_wp2_with fail
    refine HRR.out.mono ?_
    rintro e w1 ⟨rfl, hb1⟩
    have HB := hid hb1
    clear hb1
    go_wp2_with fail
    go_ret2
    exact .inl ⟨HM.out, rfl, HB.out⟩
  · rw [hm] at HR
    have hall : (l.map Ent9.o).all right10 = true := by unfold isMatch10 at hm; rw [Bool.and_eq_true] at hm; exact hm.1
    have HBY := hid (fun (W : World) (hb : Below w.heap.size w W) => refBytes10_any W a c l (hL.below hb) hbig hall)
    obtain ⟨MM, hMM⟩ : ∃ MM, match10 (l.map Ent9.o) = MM := ⟨_, rfl⟩
    rw [hMM] at HBY
    have HMM := hid hMM
    have HRR := hid HR
    have HM := hid hm
    clear hL hbig HR hm hall hMM
    go_enter Try.func11, Try.ntmps11
    go_wp2_with fail
    refine HRR.out.mono ?_
    rintro e w1 ⟨rfl, hb1⟩
    have HB := hid hb1
    clear hb1
    go_wp2_with fail
    refine (HBY.out _ HB.out).mono ?_
    rintro e w2 ⟨ad, cp, rfl, hb2, hI, _, _⟩
    go_wp2_with fail
    go_ret2
    refine .inr ⟨HM.out, ad, cp, ?_, below_on HB.out hb2, ?_⟩
    · rw [HMM.out]; rfl
    · rw [HMM.out]; exact hI
end Go.Proofs.Yteaimnlfbbkccaa
