/- Package match: Put; the document's zeros and Right. -/
import Derived.Test.YteaimnlfbbkccaaMatE
import Derived.Test.YteaimnlfbbkccaaMrg7
import Derived.Test.YteaimnlfbbkccaaMrg3
namespace Go.Proofs.Yteaimnlfbbkccaa
open Go.RowKit
set_option linter.unusedVariables false
set_option maxRecDepth 100000

/-- a match is written, or the buffer has a fault -/
theorem put10_yes (w0 w : World) (a : Option Addr) (c : Nat) (l : List Ent9) (hL : L9 w a l) (hlc : l.length ≤ c) (hbig : len10 (l.map Ent9.o) ≤ 65528) {g m : Nat} {p : Option Nat} {r : Nat} {ll : List Int} (hB : BufOn w0 w g m p r ll [] 0)
    (hm : isMatch10 (l.map Ent9.o) = true) (hr : ll.length + (match10 (l.map Ent9.o)).length ≤ r) :
    Calls Try.prog 14 #[.pointer (some ⟨g, 0, none⟩), .slice a l.length c] w fun e w' => e = .returned (.tuple #[]) ∧ ∃ p', BufOn w0 w' g m p' r (ll ++ match10 (l.map Ent9.o)) [] 0 := by
  have HE := hid (encode10_any w a c l hL hlc hbig)
  have HB := hid hB
  have HM := hid hm
  have hlt := hB.buf.lt g (.inl rfl)
  clear hL hbig hB hm
  obtain ⟨M, hM⟩ : ∃ M, match10 (l.map Ent9.o) = M := ⟨_, rfl⟩
  rw [hM] at hr ⊢
  have HMM := hid hM
  clear hM
  go_enter Try.func14, Try.ntmps14
  go_wp2_with fail
  refine HE.out.mono ?_
  rintro e w1 (⟨hno, _⟩ | ⟨_, h, rfl, hb1, hI, hh⟩)
  · rw [HM.out] at hno; cases hno
  rw [HMM.out] at hI
  rw [HMM.out]
  have O1 := HB.out.below hb1
  have HI := hid hI
  clear hb1 hI
  go_wp2_with fail
  refine (O1.buf.fail 0).mono ?_
  rintro e w2 ⟨rfl, hbuf, hby⟩
  have O2 := O1.went (Went.by_g hbuf hby)
  have hI2 : Ints .u8 w2 (some ⟨h, 0, none⟩) M := (Turn.of_by (S := fun k => k = g) hby (by rintro k e; simp at e; exact e.symm)).ints HI.out (by omega)
  have HI2 := hid hI2
  clear O1 hbuf hby hI2
  go_wp2_with fail
  refine (O2.buf.bytes_ok M _ _ hr HI2.out).mono ?_
  rintro e w3 ⟨rfl, p', hG⟩
  have O3 := O2.went hG
  clear O2 hG
  go_wp2
  exact bodyPost_end (v := .tuple #[]) (by simp [results, Try.results14, go_sem]) rfl ⟨rfl, p', O3⟩
theorem put10_no (w0 w : World) (a : Option Addr) (c : Nat) (l : List Ent9) (hL : L9 w a l) (hlc : l.length ≤ c) (hbig : len10 (l.map Ent9.o) ≤ 65528) {g m : Nat} {p : Option Nat} {r : Nat} {ll : List Int} (hB : BufOn w0 w g m p r ll [] 0)
    (hm : isMatch10 (l.map Ent9.o) = false) :
    Calls Try.prog 14 #[.pointer (some ⟨g, 0, none⟩), .slice a l.length c] w fun e w' => e = .returned (.tuple #[]) ∧ BufOn w0 w' g m p r ll [] 10001 := by
  have HE := hid (encode10_any w a c l hL hlc hbig)
  have HB := hid hB
  have HM := hid hm
  clear hL hbig hB hm
  go_enter Try.func14, Try.ntmps14
  go_wp2_with fail
  refine HE.out.mono ?_
  rintro e w1 hcase
  obtain ⟨rfl, hb1⟩ : e = .returned (.tuple #[.slice none 0 0, .int .i64 10001]) ∧ Below w.heap.size w w1 := by
    rcases hcase with ⟨_, h1, h2⟩ | ⟨hno, _⟩
    · exact ⟨h1, h2⟩
    · rw [HM.out] at hno; cases hno
  clear hcase
  have O1 := HB.out.below hb1
  clear hb1
  go_wp2_with fail
  refine (O1.buf.fail 10001).mono ?_
  rintro e w2 ⟨rfl, hbuf, hby⟩
  have O2 := O1.went (Went.by_g hbuf hby)
  clear O1 hbuf hby
  go_wp2_with fail
  refine (O2.buf.bytes_late (by decide) _).mono ?_
  rintro e w3 ⟨rfl, rfl⟩
  go_wp2
  exact bodyPost_end (v := .tuple #[]) (by simp [results, Try.results14, go_sem]) rfl ⟨rfl, O2⟩

theorem refZeros10_any (w : World) (n : Nat) (hn : n ≤ 1000000) : Calls Try.prog 39 #[.int .i64 n] w fun e w' => e = .returned (.int .i64 ((zeros10 n : Nat) : Int)) ∧ w = w' := by
  have h1 : ((n : Int)).tmod 8 = ((n % 8 : Nat) : Int) := by rw [Int.tmod_eq_emod_of_nonneg (by omega)]; omega
  have h2 : (8 - ((n % 8 : Nat) : Int)).tmod 8 = ((zeros10 n : Nat) : Int) := by rw [Int.tmod_eq_emod_of_nonneg (by omega)]; unfold zeros10; omega
  obtain ⟨r, hr⟩ : ∃ r, n % 8 = r := ⟨_, rfl⟩
  obtain ⟨z, hz⟩ : ∃ z, zeros10 n = z := ⟨_, rfl⟩
  have hr8 : r < 8 := by omega
  rw [hr] at h1 h2
  rw [hz] at h2 ⊢
  clear hz hr
  go_enter Try.func39, Try.ntmps39
  go_wp2
  go_ret
  exact ⟨rfl, rfl⟩

set_option maxHeartbeats 2000000 in
theorem refRight10_any (w : World) (a : Option Addr) (c : Nat) (l : List Ent9) (hL : L9 w a l) (hlc : l.length ≤ c) (hbig : len10 (l.map Ent9.o) ≤ 65528) :
    Calls Try.prog 33 #[.slice a l.length c] w fun e w' => e = .returned (.bool (isMatch10 (l.map Ent9.o))) ∧ Below w.heap.size w w' := by
  have HL := hid hL
  have hll : l.length ≤ 1000 := hL.len
  have HBIG := hid hbig
  obtain ⟨R, hR⟩ : ∃ R, isMatch10 (l.map Ent9.o) = R := ⟨_, rfl⟩
  have HR := hid hR
  rw [hR]
  clear hL hbig hR
  go_enter Try.func33, Try.ntmps33
  go_wp2_with fail
  go_loopg [3, 4] (l.length) (fun kx s3 s4 wr => ∃ (i n : Nat), s3 = .int .i64 n ∧ s4 = .int .i64 i ∧ i ≤ l.length ∧ l.length - i ≤ kx ∧ Hid (n = 4 + (body10 ((l.map Ent9.o).take i)).length) ∧ n ≤ 65528 ∧ Hid (((l.map Ent9.o).take i).all right10 = true) ∧ Hid (Below w.heap.size w wr))
  case atStart => exact ⟨0, 4, rfl, rfl, by omega, by omega, rfl, by omega, rfl, Below.refl _ _⟩
  case round =>
    obtain ⟨i, n, rfl, rfl, hi, hkx, hn, hn6, hrt, hb⟩ := hrel
    by_cases hlt : i < l.length
    · have hltz : (i : Int) < (l.length : Int) := by omega
      have hl := HL.out.below hb.out
      obtain ⟨b, off, rfl, c0, c1, c2, c3, c4, c5⟩ := hl.ox i hlt
      have hE := hl.ent l[i] (List.getElem_mem hlt)
      have hF := hl.few l[i] (List.getElem_mem hlt)
      have hget : (l.map Ent9.o)[i]? = some l[i].o := by simp [hlt]
      generalize l[i] = h at c0 c1 c2 c3 c4 c5 hE hF hget
      have htk : (l.map Ent9.o).take (i + 1) = (l.map Ent9.o).take i ++ [h.o] := by rw [List.take_add_one, hget]; rfl
      have HRT := hid (ref8Right_any h.o.C h.o.F h.o.H h.o.X h.va h.vc h.ma h.mc h.o.v h.o.m hF.1 hF.2 hE.ov hE.om wr hE.iv hE.im hE.x.1)
      cases hr8 : right10 h.o
      · have hno : isMatch10 (l.map Ent9.o) = false := by
          unfold isMatch10
          rw [all_not10 hget hr8]; rfl
        have hRf : R = false := by rw [← HR.out]; exact hno
        subst hRf
        have hr9 : rightB h.o.C h.o.F h.o.H h.o.X h.o.v h.o.m = false := hr8
        rw [hr9] at HRT
        clear hr8 hr9 hno htk hget hE hF hl
        go_wp2_with fail
        refine HRT.out.mono ?_
        rintro e w1 ⟨rfl, hb1⟩
        have HB1 := hid (below_on hb.out hb1)
        clear hb1 c0 c1 c2 c3 c4 c5
        go_wp2_with fail
        exact bodyPost_ret (v := .bool false) (by simp [results, Try.results33, go_sem]) rfl ⟨rfl, HB1.out⟩
      · have hr9 : rightB h.o.C h.o.F h.o.H h.o.X h.o.v h.o.m = true := hr8
        rw [hr9] at HRT
        have HBY := hid (fun (W : World) (hb1 : Below wr.heap.size wr W) => ref8Bytes_any h.o.C h.o.F h.o.H h.o.X h.va h.vc h.ma h.mc h.o.v h.o.m hF.1 hF.2 hE.cm hE.ov hE.om W (hE.iv.below hb1) (hE.im.below hb1) hE.x.1 (right_facts hr9))
        have hlen : n + (oxmBytes h.o.C h.o.F h.o.H h.o.X h.o.v h.o.m).length = 4 + (body10 ((l.map Ent9.o).take (i + 1))).length := by
          rw [htk, body_append10, List.length_append, hn.out]
          have : body10 [h.o] = oxmBytes h.o.C h.o.F h.o.H h.o.X h.o.v h.o.m := by simp [body10, bytes10]
          rw [this]; omega
        have hlen2 : 4 + (body10 ((l.map Ent9.o).take (i + 1))).length ≤ 65528 := by
          have e : body10 (l.map Ent9.o) = body10 ((l.map Ent9.o).take (i + 1)) ++ body10 ((l.map Ent9.o).drop (i + 1)) := by rw [← body_append10, List.take_append_drop]
          have := HBIG.out
          unfold len10 at this
          rw [e, List.length_append] at this
          omega
        have hall : ((l.map Ent9.o).take (i + 1)).all right10 = true := by rw [htk, List.all_append, hrt.out]; simp [hr8]
        have HALL := hid hall
        obtain ⟨bl, hbl⟩ : ∃ bl, (oxmBytes h.o.C h.o.F h.o.H h.o.X h.o.v h.o.m).length = bl := ⟨_, rfl⟩
        have HBL := hid hbl
        rw [hbl] at hlen
        have hsum : (n : Int) + (bl : Int) ≤ 65528 := by omega
        have HLEN := hid hlen
        have Hc := hid (And.intro c0 (And.intro c1 (And.intro c2 (And.intro c3 (And.intro c4 c5)))))
        clear hr8 hr9 htk hget hE hF hl hlen hlen2 hall hbl
        go_wp2_with fail
        refine HRT.out.mono ?_
        rintro e w1 ⟨rfl, hb1⟩
        clear c0 c1 c2 c3 c4 c5
        obtain ⟨c0, c1, c2, c3, c4, c5⟩ := Hc.out
        replace c0 := cell_keep c0 hb1
        replace c1 := cell_keep c1 hb1
        replace c2 := cell_keep c2 hb1
        replace c3 := cell_keep c3 hb1
        replace c4 := cell_keep c4 hb1
        replace c5 := cell_keep c5 hb1
        have HB1 := hid hb1
        clear hb1
        go_wp2_with fail
        refine (HBY.out _ HB1.out).mono ?_
        rintro e w2 ⟨ad, cp, rfl, hb2, _, _⟩
        have HB2 := hid (below_on (below_on hb.out HB1.out) hb2)
        clear hb2 c0 c1 c2 c3 c4 c5
        rw [HBL.out]
        go_wp2_with fail
        go_roundg (l.length - (i + 1))
        case rel => exact ⟨i + 1, n + bl, by go_num, by go_num, by omega, by omega, HLEN.out, by omega, HALL.out, HB2.out⟩
        case measure => omega
    · have hge : (l.length : Int) ≤ (i : Int) := by omega
      have hi2 : i = l.length := by omega
      have hall := hrt.out
      rw [List.take_of_length_le (by rw [List.length_map]; omega)] at hall
      have HC := refCheck9_any l a c wr (HL.out.below hb.out) hlc
      obtain ⟨⟨p1, q1⟩, hck⟩ : ∃ r, check9 (l.map Ent9.o) = r := ⟨_, rfl⟩
      rw [hck] at HC
      unfold ckV at HC
      have HCC := hid HC
      have hR2 : (q1 == 0) = R := by rw [← HR.out]; unfold isMatch10; rw [hall, hck]; rfl
      have HR2 := hid hR2
      have hn7 : (n : Int) ≤ 65528 := by omega
      clear HC hck hR2 hall hi2
      obtain ⟨z, hz⟩ : ∃ z, (q1 == 0) = z := ⟨_, rfl⟩
      rw [hz] at HR2
      go_wp2_with fail
      refine HCC.out.mono ?_
      rintro e w1 ⟨rfl, hb1⟩
      have HB1 := hid (below_on hb.out hb1)
      clear hb1
      have HRZ := HR2.out
      subst HRZ
      cases z
      · go_wp2_with fail
        exact bodyPost_ret (v := .bool false) (by simp [results, Try.results33, go_sem]) rfl ⟨rfl, HB1.out⟩
      · go_wp2_with fail
        exact bodyPost_ret (v := .bool true) (by simp [results, Try.results33, go_sem]) rfl ⟨rfl, HB1.out⟩
end Go.Proofs.Yteaimnlfbbkccaa
