/- Package cover: a finder is asked. -/
import Derived.Test.YtpmkfkanolhocaaGreatCovM
namespace Go.Proofs.YtpmkfkanolhocaaGreat
open Go.RowKit
set_option linter.unusedVariables false
set_option maxRecDepth 100000

set_option maxHeartbeats 4000000 in
theorem find_any {f : FuncId} {hp : Ox9 → Ox9 → Bool} (hH : Holds11 f hp) (h : Ent9) (w : World) (bk b3 B : Nat) (L : List Ox9) (hF : Finder11 w f bk b3 B L) (hL : OkL L) (hs : ∀ x ∈ L, x.v.length ≤ 1000) (hI : EntIn w h) (ho : OkV h.o) (ht : h.o.v.length ≤ 1000) :
    Calls Tryz.prog 55 #[h.val, .pointer (some ⟨bk, 0, none⟩), .pointer (some ⟨b3, 0, none⟩)] w fun e w' => e = .returned (.bool (find11 hp L h.o)) ∧ Below w.heap.size w w' := by
  have hin := hI.inR
  have hkey := nameK_is hin
  have HP := hid (fun W' (h' : EntIn W' h) => patternOf_any h W' h' ho ht)
  have HN := hid (fun W' => nameOf_any h W')
  obtain ⟨n, G, hM, hn, hG⟩ := hF.known
  have hgot := hG h.o hin
  have HF := hid (And.intro hF.fn hF.kn)
  obtain ⟨r, hr⟩ : ∃ r, find11 hp L h.o = r := ⟨_, rfl⟩
  obtain ⟨kl, hkl⟩ : ∃ k, nameK h.o = k := ⟨_, rfl⟩
  rw [hkl] at hkey hgot
  rw [hr]
  have hways : ∃ gv, G kl = gv ∧ ∀ (W' : World), Below w.heap.size w W' → ∀ b5, Asked11 W' f b3 b5 h.o → Calls Tryz.prog 56 #[gv, .func (.func 57) #[] #[.pointer (some ⟨b3, 0, none⟩), .pointer (some ⟨b5, 0, none⟩)]] W' fun e w' => e = .returned (.bool r) ∧ Below W'.heap.size W' w' := by
    rcases hgot with ⟨x, hx, hal, hps⟩ | ⟨hno, hz⟩
    · refine ⟨_, rfl, fun W' hb b5 hA => ?_⟩
      rw [← hr, find_one hL.once hx hal]
      exact hasPat_one hH W' _ x h.o b3 b5 (hps.below hb) hA (hL.ok x hx) ho (hs x hx) ht
    · refine ⟨_, rfl, fun W' hb b5 hA => ?_⟩
      rw [← hr, find_none hno, hz]
      exact hasPat_none W' _
  obtain ⟨gv, hgv, hways⟩ := hways
  have HQ := hid hways
  have HM := hid hM
  have HI := hid hI
  clear hways hgot hG hn hF hM hkl hin hr hL hs ho hH
  obtain ⟨⟨C, F, H, X, v, m⟩, va, vc, ma, mc⟩ := h
  unfold nameV at hkey
  unfold Ent9.val nameV at *
  simp only at *
  obtain ⟨W, hW, hbW, hx⟩ := oxm_box w C F H X va v.length vc ma m.length mc
  have HW := hid hW
  have HB := hid hbW
  obtain ⟨d0, d1, d2, d3, d4, d5⟩ := hx.six
  have HX := hid hx
  have HP1 := hid (HP.out W (HI.out.below hbW))
  have HKEY := hid hkey
  have HGV := hid hgv
  clear hW hbW hx hkey hgv hI HP
  go_enter Tryz.func55, Tryz.ntmps55
  go_upto_region 1 with fail
  rw [HW.out]
  go_wp2_with fail
  refine HP1.out.mono ?_
  rintro e w1 ⟨x, rfl, hpv, hb1, pva, pvc, ppa, ppc, rfl⟩
  obtain ⟨W3, hW3, hbW3, hx3, hs3⟩ := box_any w1 [.bool H, .slice pva v.length pvc, .slice ppa v.length ppc] 43
  have HW3 := hid hW3
  have HB3 := hid (below_on (below_on HB.out hb1) hbW3)
  have hA : Asked11 W3 f b3 w1.heap.size ⟨C, F, H, X, v, m⟩ := by
    obtain ⟨va', vc', pa', pc', e, i1, i2⟩ := hpv
    simp at e
    obtain ⟨⟨rfl, rfl⟩, rfl, rfl⟩ := e
    exact ⟨cell_keep HF.out.1 HB3.out, pva, pvc, ppa, ppc, hx3, i1.below hbW3, i2.below hbW3⟩
  have hxD := ((HX.out.below hb1).below hbW3).below (below_drew8 W3)
  have HA := hid (hA.below (below_drew8 W3))
  have HBD := hid (below_dr9 HB3.out)
  clear hA hW3 hx3 hpv hb1 hbW3 d0 d1 d2 d3 d4 d5 HX
  have HXD := hid hxD
  obtain ⟨d0, d1, d2, d3, d4, d5⟩ := hxD.six
  have k0 := cell_keep HF.out.2 HBD.out
  clear hxD
  go_upto_region 2 with fail
  rw [HW3.out]
  go_region_with (first
    | (go_at_call 53; (with_reducible refine (HN.out _).mono ?_); rintro e w5 ⟨rfl, hb5⟩; obtain ⟨e0, e1, e2, e3, e4, e5⟩ := (HXD.out.below hb5).six; have k5 := cell_keep k0 hb5; have hlk := (HM.out.below (below_on HBD.out hb5)).look nameKeyed11 Tryz.underlying66 (zero_pats _) HKEY.out; rw [HGV.out] at hlk)
    | (go_at_call 56; (with_reducible refine (HQ.out _ (below_on HBD.out hb5) _ (HA.out.below hb5)).mono ?_); rintro e w6 ⟨rfl, hb6⟩)
    | fail)
  all_goals
    go_wp2_with fail
    go_ret
    exact ⟨rfl, below_on (below_on HBD.out hb5) hb6⟩
end Go.Proofs.YtpmkfkanolhocaaGreat
