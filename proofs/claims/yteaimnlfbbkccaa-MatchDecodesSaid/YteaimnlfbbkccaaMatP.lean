/- Package match: Take; the law of matches that are decoded. -/
import Derived.Test.YteaimnlfbbkccaaMatO
import Derived.Test.YteaimnlfbbkccaaMatN
namespace Go.Proofs.Yteaimnlfbbkccaa
open Go.RowKit
set_option linter.unusedVariables false
set_option maxRecDepth 100000

/-- what bytes are as a match: the list, how many, the error -/
def mres (b : List Int) : List Ox9 × Nat × Int := match matchL b with | .ok p => (p.1, p.2, 0) | .error q => ([], 0, q)
def DecUni (b : List Int) (w : World) (e : Ending) (w' : World) : Prop :=
  ∃ va vc D, e = .returned (.tuple #[.slice va D.length vc, .int .i64 (((mres b).2.1 : Nat) : Int), .int .i64 (mres b).2.2]) ∧ D.map Ent9.o = (mres b).1 ∧ L9 w' va D ∧ D.length ≤ vc ∧ vc ≤ 9223372036854775807 ∧ New9 w va D ∧ Below w.heap.size w w'
theorem dec_uni {b : List Int} {w w' : World} {e : Ending} (h : DecPost10 b w e w') : DecUni b w e w' := by
  rcases h with ⟨L, n, va, vc, D, hm, rfl, h1, h2, h3, h4, h5, h6⟩ | ⟨q, hm, hq, rfl, h6⟩
  · have e : mres b = (L, n, 0) := by unfold mres; rw [hm]
    exact ⟨va, vc, D, by rw [e], by rw [e]; exact h1, h2, h3, h4, h5, h6⟩
  · have e : mres b = ([], 0, q) := by unfold mres; rw [hm]
    exact ⟨none, 0, [], by rw [e]; rfl, by rw [e]; rfl, l9_nil10 _ _, by simp, by simp, ⟨(fun q e => by cases e), by simp⟩, h6⟩
theorem match_le {b : List Int} {L : List Ox9} {n : Nat} (h : matchL b = .ok (L, n)) : n ≤ b.length := by
  unfold matchL at h
  split at h
  · cases h
  · split at h
    · cases h
    · split at h
      · cases h
      · split at h
        · cases h
        · split at h
          · cases h
          · simp only [Except.ok.injEq, Prod.mk.injEq] at h
            rename_i hx _ _
            omega
theorem mres_le (b : List Int) : (mres b).2.1 ≤ b.length := by
  unfold mres
  cases h : matchL b with
  | error q => simp
  | ok p => exact match_le (L := p.1) (n := p.2) h
theorem mres_zero {b : List Int} (h : (mres b).2.2 ≠ 0) : (mres b).2.1 = 0 ∧ (mres b).1 = [] := by
  unfold mres at *
  cases hm : matchL b with
  | error q => simp
  | ok p => rw [hm] at h; simp at h

def TakePost10 (l : List Int) (w0 : World) (g M : Nat) (r s o : Int) (e : Ending) (w' : World) : Prop :=
  ∃ va vc D, e = .returned (.slice va D.length vc) ∧ D.map Ent9.o = (mres l).1 ∧ L9 w' va D ∧ CurOn w0 w' g M (l.drop (mres l).2.1) (r + (((mres l).2.1 : Nat) : Int)) s o (mres l).2.2
set_option maxHeartbeats 4000000 in
theorem take10_any (l : List Int) (w0 w : World) (g M : Nat) (r s o : Int) (h : CurOn w0 w g M l r s o 0) (hl : l.length ≤ 65528) (hcnt : (vals10 ((l.take (num10 l).toNat).drop 4)).1.length ≤ 1000) :
    Calls Try.prog 22 #[.pointer (some ⟨g, 0, none⟩)] w (TakePost10 l w0 g M r s o) := by
  have H := hid h
  have HCN := hid hcnt
  have HLE := hid (mres_le l)
  have HZ := hid (mres_zero (b := l))
  obtain ⟨⟨L, n, q⟩, hR⟩ : ∃ R, mres l = R := ⟨_, rfl⟩
  rw [hR] at HLE HZ
  have HR := hid hR
  have HOC := hid h.cur.oct
  unfold TakePost10
  rw [hR]
  clear h hcnt hR
  go_enter Try.func22, Try.ntmps22
  go_wp2_with fail
  refine H.out.cur.look_ok.mono ?_
  rintro e w1 ⟨rfl, hF⟩
  obtain ⟨a, c, he, _, _, hI⟩ := own_ints hF.own
  have he1 : a = some ⟨w.heap.size, 0, none⟩ := by simpa using (congrArg (fun x => match x with | Value.slice a _ _ => a | _ => none) he).symm
  subst he1
  have H1 := hid (H.out.below hF.bel)
  have hgl := H.out.cur.block_lt
  have hs1 := hF.bel.size
  have HI := hid hI
  clear he hI hF
  go_wp2_with fail
  refine (decode10_any l (some ⟨w.heap.size, 0, none⟩) l.length (Nat.le_refl _) hl HOC.out w1 HI.out HCN.out).mono ?_
  intro e w2 hd
  obtain ⟨va, vc, D, rfl, hD, hL9, _, _, hnew, hb2⟩ := dec_uni hd
  rw [HR.out] at hD ⊢
  have H2 := hid (H1.out.below hb2)
  have HL := hid hL9
  have HN := hid hnew
  have HD := hid hD
  clear hd hD hL9 hnew hb2
  simp only
  go_wp2_with fail
  refine (H2.out.cur.fail q).mono ?_
  rintro e w3 ⟨rfl, hc3, hb3⟩
  have H3 := hid (H2.out.by hb3 hc3)
  have HL3 := hid (HL.out.by_new HN.out hb3 (by omega))
  clear hc3 hb3
  go_wp2_with fail
  by_cases hq : q = 0
  · subst hq
    have hnn := HLE.out
    refine (H3.out.cur.bytes_ok (n := n) hnn).mono ?_
    rintro e w4 ⟨k, rfl, hG, hc4⟩
    have H4 := hid (H3.out.by hG.by_ hc4)
    have HL4 := hid (HL3.out.by_new HN.out hG.by_ (by omega))
    clear hG hc4
    go_wp2_with fail
    go_ret
    exact ⟨va, vc, D, rfl, HD.out, HL4.out, H4.out⟩
  · have hn0 : n = 0 := (HZ.out hq).1
    subst hn0
    refine (H3.out.cur.bytes_late hq _).mono ?_
    rintro e w4 ⟨k, rfl, hG, hc4⟩
    have H4 := hid (H3.out.by hG.by_ hc4)
    have HL4 := hid (HL3.out.by_new HN.out hG.by_ (by omega))
    clear hG hc4
    go_wp2_with fail
    go_ret
    refine ⟨va, vc, D, rfl, HD.out, HL4.out, ?_⟩
    have h4 := H4.out
    rw [List.drop_zero, Int.natCast_zero, Int.add_zero]
    exact h4

set_option maxHeartbeats 4000000 in
theorem MatchDecodes_few (a : Option Addr) (cap : Nat) (b : List Int) (ma : Option Addr) (mc : Nat) (more : List Int) (w : World) (hf : 1500 < b.length ∨ 100 < more.length) :
    Calls Try.prog 4 #[.slice a b.length cap, .slice ma more.length mc] w fun e w' => e = .returned (.bool true) ∧ Below w.heap.size w w' := by
  have HS := hid (fun w => sure10_any w)
  have ways : (1500 : Int) < (b.length : Int) ∨ (¬ (1500 : Int) < (b.length : Int) ∧ (100 : Int) < (more.length : Int)) := by omega
  clear hf
  rcases ways with h1 | ⟨h1, h2⟩
  all_goals
    go_enter Try.func4, Try.ntmps4
    go_wp2_with fail
    refine (HS.out _).mono ?_
    rintro e w2 ⟨rfl, hb2⟩
    have HB2 := hid hb2
    clear hb2
    go_wp2_with fail
    exact bodyPost_ret (v := .bool true) (by simp [results, Try.results4, go_sem]) rfl ⟨rfl, HB2.out⟩
theorem same_yes10 {D D' : List Ent9} {L : List Ox9} (h : D.map Ent9.o = L) (h' : D'.map Ent9.o = L) : decide (D.map Ent9.o = D'.map Ent9.o) = true := by rw [h, h']; simp

set_option maxHeartbeats 8000000 in
theorem MatchDecodes_main (a : Option Addr) (cap : Nat) (b : List Int) (ma : Option Addr) (mc : Nat) (more : List Int) (w : World) (hbc : b.length ≤ cap) (hcm : cap ≤ 9223372036854775807) (hb : b.length ≤ 1500) (hm : more.length ≤ 100) (ho : Octets b) (hmo : Octets more) (hI : Ints .u8 w a b) (hMI : Ints .u8 w ma more) :
    Calls Try.prog 4 #[.slice a b.length cap, .slice ma more.length mc] w fun e w' => e = .returned (.bool true) ∧ Below w.heap.size w w' := by
  have HS := hid (fun w => sure10_any w)
  have hcnt : (vals10 ((b.take (num10 b).toNat).drop 4)).1.length ≤ 1000 := by
    have h := vals_few10 _ ((b.take (num10 b).toNat).drop 4) (Nat.le_refl _) ((ho.take _).drop 4)
    have : ((b.take (num10 b).toNat).drop 4).length ≤ b.length := by rw [List.length_drop, List.length_take]; omega
    omega
  have HDE := hid (fun (W : World) (h : Below w.heap.size w W) => decode10_any b a cap hbc (by omega) ho W (hI.below h) hcnt)
  have HRE := hid (fun (W : World) (h : Below w.heap.size w W) => refDecode10_any b a cap hbc hcm (by omega) ho W (hI.below h))
  have HTK := hid (fun (w0 w : World) (g M : Nat) (r s o : Int) h => take10_any b w0 w g M r s o h (by omega) hcnt)
  have h1 : ¬ (1500 : Int) < (b.length : Int) := by omega
  have h2 : ¬ (100 : Int) < (more.length : Int) := by omega
  have HI := hid hI
  have HMI := hid hMI
  obtain ⟨⟨L, n, q⟩, hR⟩ : ∃ R, mres b = R := ⟨_, rfl⟩
  have HR := hid hR
  obtain ⟨Y, hY⟩ : ∃ Y, more ++ b = Y := ⟨_, rfl⟩
  have hYl : Y.length = more.length + b.length := by rw [← hY, List.length_append]
  have hYo : Octets Y := by rw [← hY]; intro x hx; rcases List.mem_append.1 hx with h | h; exact hmo x h; exact ho x h
  have HYL := hid hYl
  have HY := hid hY
  have HYO := hid hYo
  have hn15 : n ≤ 1500 := by have := mres_le b; rw [hR] at this; simp only at this; omega
  clear hI hMI hR hcnt hY hYl hYo ho hmo
  go_enter Try.func4, Try.ntmps4
  go_wp2_with fail
  refine (HDE.out _ (Below.refl _ _)).mono ?_
  intro e w1 hd
  obtain ⟨va, vc, D, rfl, hD, hL1, _, _, _, hb1⟩ := dec_uni hd
  rw [HR.out] at hD ⊢
  have HB1 := hid hb1
  have HL1 := hid hL1
  have HD := hid hD
  clear hd hb1 hL1 hD
  simp only
  go_wp2_with fail
  refine (HRE.out _ HB1.out).mono ?_
  intro e w2 hd
  obtain ⟨vb, vd, D', rfl, hD, hL2, _, _, _, hb2⟩ := dec_uni hd
  rw [HR.out] at hD ⊢
  have HB2 := hid (below_on HB1.out hb2)
  have HL1' := hid (HL1.out.below hb2)
  have HL2 := hid hL2
  have HD' := hid hD
  clear hd hb2 hL2 hD
  simp only
  have HF0 := hid (own_emptyI w2 5 .u8)
  have hIm := (HMI.out.below HB2.out).below (below_alloc w2 (.cells #[] 5))
  have HIB := hid (HI.out.below HB2.out)
  go_wp2_with (first
    | (at_builtin; refine wp_app_ints rfl (.tmp 34) (.tmp 35) rfl elemU8 rfl HF0.out rfl rfl hIm (List.nil_append more) ?_ ?_ ?_; omega; omega; intro a5 c5 w3 hl5 hc5 hI5 hg5; have HF5 := hid hg5.first; have HIB3 := hid (HIB.out.below HF5.out.bel); clear hI5 hg5)
    | (at_builtin; refine wp_app_ints rfl (.tmp 36) (.tmp 37) rfl elemU8 rfl HF5.out.own rfl rfl HIB3.out HY.out ?_ ?_ ?_; (have := HYL.out; omega); (have := HYL.out; omega); intro a6 c6 w4 hl6 hc6 hI6 hg6; have HF6 := hid (HF5.out.step hg6); have HI6 := hid hI6; clear hI6 hg6)
    | fail)
  refine (new_any Y a6 c6 263 263 w4 (by have := HYL.out; omega) HYO.out HI6.out).mono ?_
  rintro e w5 ⟨g, rfl, hc5', hb5, hg1, hg2⟩
  have hs24 := HF6.out.bel.size
  have O5 : Hid (CurOn w2 w5 g w4.heap.size Y 0 263 263 0) := ⟨hc5', below_on HF6.out.bel hb5, by omega, hs24⟩
  clear hc5' hb5
  go_wp2_with fail
  refine (O5.out.cur.bytes_ok (n := more.length) (by have := HYL.out; omega)).mono ?_
  rintro e w6 ⟨k, rfl, hG, hc6'⟩
  have hyd : Y.drop more.length = b := by rw [← HY.out, List.drop_left]
  rw [hyd] at hc6'
  have O6 := hid (O5.out.by hG.by_ hc6')
  clear hG hc6' hyd
  go_wp2_with fail
  refine (HTK.out w2 w6 g w4.heap.size _ _ _ O6.out).mono ?_
  rintro e w7 ⟨vx, vy, D2, rfl, hD2, hL7, hc7⟩
  rw [HR.out] at hD2 hc7
  have O7 := hid hc7
  have HL7 := hid hL7
  have HD2 := hid hD2
  clear hc7 hL7 hD2
  have hB27 := O7.out.bel
  have HB7 := hid (below_on HB2.out hB27)
  have HS1 := refSame9_any D D' va vb vc vd w7 (HL1'.out.below hB27) (HL2.out.below hB27)
  rw [same_yes10 HD.out HD'.out] at HS1
  have HSA := hid HS1
  clear hB27 HS1
  go_wp2_with fail
  refine HSA.out.mono ?_
  rintro e w8 ⟨rfl, hb8⟩
  have O8 := hid (O7.out.below hb8)
  have HL8 := hid (HL7.out.below hb8)
  have HL8' := hid (HL2.out.below O8.out.bel)
  have HS2 := refSame9_any D2 D' vx vb vy vd w8 HL8.out HL8'.out
  rw [same_yes10 HD2.out HD'.out] at HS2
  have HSB := hid HS2
  clear HS2 hb8
  go_wp2_with fail
  refine HSB.out.mono ?_
  rintro e w9 ⟨rfl, hb9⟩
  have O9 := hid (O8.out.below hb9)
  clear hb9
  go_wp2_with fail
  refine O9.out.cur.err.mono ?_
  rintro e w10 ⟨rfl, rfl⟩
  go_wp2_with fail
  refine O9.out.cur.pos.mono ?_
  rintro e w10 ⟨rfl, rfl⟩
  go_wp2_with fail
  refine (HS.out _).mono ?_
  rintro e w11 ⟨rfl, hb11⟩
  have HB11 := hid (below_on (below_on HB2.out O9.out.bel) hb11)
  clear hb11
  go_wp2_with fail
  exact bodyPost_ret (v := .bool true) (by simp [results, Try.results4, go_sem]) rfl ⟨rfl, HB11.out⟩
theorem MatchDecodes_walk (a : Option Addr) (cap : Nat) (b : List Int) (ma : Option Addr) (mc : Nat) (more : List Int) (w : World) (hbc : b.length ≤ cap) (hcm : cap ≤ 9223372036854775807) (ho : Octets b) (hmo : Octets more) (hI : Ints .u8 w a b) (hMI : Ints .u8 w ma more) :
    Calls Try.prog 4 #[.slice a b.length cap, .slice ma more.length mc] w fun e w' => e = .returned (.bool true) ∧ Below w.heap.size w w' := by
  by_cases hb : b.length ≤ 1500
  · by_cases hm : more.length ≤ 100
    · exact MatchDecodes_main a cap b ma mc more w hbc hcm hb hm ho hmo hI hMI
    · exact MatchDecodes_few a cap b ma mc more w (.inr (by omega))
  · exact MatchDecodes_few a cap b ma mc more w (.inl (by omega))
end Go.Proofs.Yteaimnlfbbkccaa
