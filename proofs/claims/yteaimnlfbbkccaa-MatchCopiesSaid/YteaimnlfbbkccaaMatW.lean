/- Package match: Copy. -/
import Derived.Test.YteaimnlfbbkccaaMatV
namespace Go.Proofs.Yteaimnlfbbkccaa
open Go.RowKit Go.Sort
set_option linter.unusedVariables false
set_option maxRecDepth 100000

/-- a value's bytes may be written -/
def Free10 (w : World) (h : Ent9) : Prop := ∀ p, h.va = some ⟨p, 0, none⟩ → p < w.heap.size ∧ ∀ i, w.frozen? ⟨p, i, none⟩ = false
theorem Free10.kept {w w' : World} {h : Ent9} (k : Free10 w h) (hs : w.heap.size ≤ w'.heap.size) (hb : ∀ p, h.va = some ⟨p, 0, none⟩ → w'.heap[p]? = w.heap[p]?) : Free10 w' h :=
  fun p e => ⟨Nat.lt_of_lt_of_le (k p e).1 hs, fun i => (World.frozen?_of_block (a := ⟨p, i, none⟩) (hb p e)).trans ((k p e).2 i)⟩
theorem Free10.below {w w' : World} {h : Ent9} (k : Free10 w h) (hb : Below w.heap.size w w') : Free10 w' h := k.kept hb.size (fun p e => hb.block p (k p e).1)
theorem free_fresh {w w' : World} {p n c : Nat} {xs : List Value} {h : Ent9} (hF : Fresh 5 w w' (.slice (some ⟨p, 0, none⟩) n c) xs) (hp : h.va = some ⟨p, 0, none⟩) : Free10 w' h := by
  intro p' e
  rw [hp] at e
  cases e
  rcases hF.own.2 with ⟨e, _⟩ | ⟨g, cap, cur, e, _, hg, _⟩
  · cases e
  · simp at e
    obtain ⟨rfl, _⟩ := e
    exact ⟨(Array.getElem?_eq_some_iff.1 hg).1, fun i => free_of_cells hg i⟩
/-- what copying a list comes to -/
def CopyPost10 (w : World) (l : List Ent9) (e : Ending) (w' : World) : Prop :=
  ∃ M, e = .returned (.slice (some ⟨w.heap.size, 0, none⟩) l.length l.length) ∧ M.length = l.length ∧ M.map Ent9.o = l.map Ent9.o ∧ BoxL w' w.heap.size (oxmCells M) ∧ (∀ h ∈ M, EntIn w' h ∧ Far9 w.heap.size h ∧ Free10 w' h) ∧ Below w.heap.size w w'
set_option maxHeartbeats 4000000 in
theorem each10_any (w : World) (a : Option Addr) (c : Nat) (l : List Ent9) (hL : L9 w a l) :
    Calls Try.prog 48 #[.slice a l.length c, .func (.func 49) #[] #[]] w (CopyPost10 w l) := by
  obtain ⟨N, hN⟩ : ∃ N, N = l.length := ⟨_, rfl⟩
  have hl' : N ≤ 1000 := by have := hL.len; omega
  have HN := hid hN
  have HO := hid hL.ox
  have HI := hid hL.ent
  have HS := hid hL.few
  unfold CopyPost10
  rw [← hN]
  clear hN hL
  go_enter Try.func48, Try.ntmps48
  go_wp2_with (at_make; refine wp_make_box rfl _ _ rfl elemOxm rfl rfl rfl rfl (by omega) (by omega) ?_; intro w1 R hR hB hb1)
  have HB1 := hid hb1
  go_loopg [13] N (fun kx s13 wr => ∃ (i : Nat) (D : List Ent9) (R : List Value), s13 = .int .i64 i ∧ i ≤ N ∧ N - i ≤ kx ∧ Hid (D.length = i) ∧ Hid (R.length = (N - i) * 6) ∧ Hid (BoxL wr w.heap.size (oxmCells D ++ R)) ∧ Hid (Below w.heap.size w wr) ∧ Hid (D.map Ent9.o = (l.take i).map Ent9.o) ∧ Hid (∀ h ∈ D, EntIn wr h ∧ Far9 w.heap.size h ∧ Free10 wr h))
  case atStart => exact ⟨0, [], R, rfl, by omega, by omega, rfl, hR, hB, hb1, rfl, (by simp [Hid])⟩
  case round =>
    clear hB hb1
    obtain ⟨i, D, R, rfl, hi, hkx, lD, lR, hB, hb, hD, hF⟩ := hrel
    by_cases hlt : i < N
    · have hltz : (i : Int) < (N : Int) := by omega
      have hn := HN.out
      have hil : i < l.length := by omega
      obtain ⟨b, off, rfl, c0, c1, c2, c3, c4, c5⟩ := (HO.out.below hb.out) i hil
      have hEin := (HI.out l[i] (List.getElem_mem hil)).below hb.out
      have hsz := HS.out l[i] (List.getElem_mem hil)
      generalize hh : l[i] = h at c0 c1 c2 c3 c4 c5 hEin hsz
      have HH := hid hh
      have HE := hid hEin
      have HZ := hid hsz
      obtain ⟨W, hW, hbW, _⟩ := oxm_box wr h.o.C h.o.F h.o.H h.o.X h.va h.o.v.length h.vc h.ma h.o.m.length h.mc
      have HW := hid hW
      have HBW := hid hbW
      have hgn : w.heap.size < wr.heap.size := hB.out.lt
      clear hn hh hEin hsz hW hbW
      go_wp2_with fail
      rw [HW.out]
      go_wp2_with fail
      refine (copy8_any h.o.C h.o.F h.o.H h.o.X h.va h.vc h.ma h.mc h.o.v h.o.m HZ.out.1 HZ.out.2 W (HE.out.iv.below HBW.out) (HE.out.im.below HBW.out)).mono ?_
      rintro e w2 ⟨p, q, rfl, hb2, hf1, hf2, hpq, hWp⟩
      have HB2 := hid hb2
      have HF1 := hid hf1
      have HF2 := hid hf2
      have HP := hid (And.intro hpq hWp)
      have hbx := (hB.out.below HBW.out).below hb2
      obtain ⟨k, hk⟩ : ∃ k, N - i = k + 1 := ⟨N - i - 1, by omega⟩
      obtain ⟨u0, u1, u2, u3, u4, u5, R', rfl, hR'⟩ := six_of (R := R) (k := k) (by rw [lR.out, hk])
      have hc : (oxmCells D).length = i * 6 := by rw [oxmCells_length, lD.out]
      have k0 := hbx.cell (i * 6) u0 (by rw [List.getElem?_append_right (by omega)]; simp [hc])
      have k1 := hbx.cell (i * 6 + 1) u1 (by rw [List.getElem?_append_right (by omega)]; simp [hc])
      have k2 := hbx.cell (i * 6 + 2) u2 (by rw [List.getElem?_append_right (by omega)]; simp [hc])
      have k3 := hbx.cell (i * 6 + 3) u3 (by rw [List.getElem?_append_right (by omega)]; simp [hc])
      have k4 := hbx.cell (i * 6 + 4) u4 (by rw [List.getElem?_append_right (by omega)]; simp [hc])
      have k5 := hbx.cell (i * 6 + 5) u5 (by rw [List.getElem?_append_right (by omega)]; simp [hc])
      have z := hbx.free
      have HBX := hid hbx
      have HR' := hid hR'
      have HC := hid hc
      have HK := hid hk
      clear hbx hR' hc hk hb2 hf1 hf2 hpq hWp c0 c1 c2 c3 c4 c5
      go_wp2_with fail
      have hB3 := HBX.out.put6 HC.out (.int .i64 h.o.C) (.int .i64 h.o.F) (.bool h.o.H) (.int .u64 h.o.X) (.slice (some ⟨p, 0, none⟩) h.o.v.length h.o.v.length) (.slice (some ⟨q, 0, none⟩) h.o.m.length h.o.m.length)
      have hby := grownBy_then (grownBy_then (grownBy_then (grownBy_then (grownBy_then (by_setCell w2 w.heap.size (i * 6) (.int .i64 h.o.C)) (by_setCell _ w.heap.size (i * 6 + 1) (.int .i64 h.o.F))) (by_setCell _ w.heap.size (i * 6 + 2) (.bool h.o.H))) (by_setCell _ w.heap.size (i * 6 + 3) (.int .u64 h.o.X))) (by_setCell _ w.heap.size (i * 6 + 4) (.slice (some ⟨p, 0, none⟩) h.o.v.length h.o.v.length))) (by_setCell _ w.heap.size (i * 6 + 5) (.slice (some ⟨q, 0, none⟩) h.o.m.length h.o.m.length))
      generalize ((((((w2.setCell ⟨w.heap.size, i * 6, none⟩ (.int .i64 h.o.C)).setCell ⟨w.heap.size, i * 6 + 1, none⟩ (.int .i64 h.o.F)).setCell ⟨w.heap.size, i * 6 + 2, none⟩ (.bool h.o.H)).setCell ⟨w.heap.size, i * 6 + 3, none⟩ (.int .u64 h.o.X)).setCell ⟨w.heap.size, i * 6 + 4, none⟩ (.slice (some ⟨p, 0, none⟩) h.o.v.length h.o.v.length)).setCell ⟨w.heap.size, i * 6 + 5, none⟩ (.slice (some ⟨q, 0, none⟩) h.o.m.length h.o.m.length)) = w3 at hB3 hby ⊢
      go_roundg (N - (i + 1))
      case measure => omega
      case rel =>
        have hw2 : Below w.heap.size w w2 := below_on (below_on hb.out HBW.out) HB2.out
        have hWs : wr.heap.size ≤ W.heap.size := HBW.out.size
        obtain ⟨hpq, hWp⟩ := HP.out
        refine ⟨i + 1, D ++ [⟨h.o, some ⟨p, 0, none⟩, h.o.v.length, some ⟨q, 0, none⟩, h.o.m.length⟩], R', by first | rfl | go_num, by omega, Nat.le_refl _, ?_, ?_, ?_, below_by9 hw2 hby (Nat.le_refl _), ?_, ?_⟩
        · show _ = _; rw [List.length_append, lD.out]; rfl
        · show _ = _; rw [HR'.out]; have := HK.out; omega
        · show BoxL _ _ _
          rw [oxmCells_snoc]
          simpa [Ent9.cs] using hB3
        · show _ = _
          rw [List.map_append, hD.out, List.take_add_one, List.getElem?_eq_getElem hil, HH.out]
          simp
        · show ∀ _, _
          intro h' hm
          rcases List.mem_append.1 hm with hm | hm
          · obtain ⟨e1, ⟨p', q', e2, e3, e4, e5⟩, e6⟩ := hF.out h' hm
            exact ⟨((e1.below HBW.out).below HB2.out).by hby (fun x hx => by rw [e2] at hx; simp at hx; rw [← hx]; show p' ≠ _; omega) (fun x hx => by rw [e3] at hx; simp at hx; rw [← hx]; show q' ≠ _; omega), ⟨p', q', e2, e3, e4, e5⟩, ((e6.below HBW.out).below HB2.out).kept hby.size (fun p e => by rw [e2] at e; cases e; exact hby.block p' (by have := ((e6.below HBW.out).below HB2.out) p' e2; exact this.1) (by simp; omega))⟩
          · obtain rfl := List.mem_singleton.1 hm
            have hx := HE.out
            have hz := HZ.out
            refine ⟨EntIn.by (w := w2) ⟨fresh_ints8 HF1.out, fresh_ints8 HF2.out, hx.ov, hx.om, Nat.le_refl _, hx.c, hx.f, hx.x⟩ hby (fun x hx => by simp at hx; rw [← hx]; show p ≠ _; omega) (fun x hx => by simp at hx; rw [← hx]; show q ≠ _; omega), ⟨p, q, rfl, rfl, by omega, by omega⟩, (free_fresh (h := ⟨h.o, some ⟨p, 0, none⟩, h.o.v.length, some ⟨q, 0, none⟩, h.o.m.length⟩) HF1.out rfl).kept hby.size (fun p' e => by cases e; exact hby.block p (own_lt9 HF1.out.own rfl) (by simp; omega))⟩
    · have hltz : (N : Int) ≤ (i : Int) := by omega
      obtain rfl : i = N := by omega
      have hR0 : R = [] := List.eq_nil_of_length_eq_zero (by rw [lR.out]; omega)
      have hBD : BoxL wr w.heap.size (oxmCells D) := by have := hB.out; rw [hR0, List.append_nil] at this; exact this
      have HBD := hid hBD
      clear hBD hR0
      go_wp2_with fail
      refine bodyPost_ret (v := .slice (some ⟨w.heap.size, 0, none⟩) i i) (by simp [results, Try.results48, go_sem]) rfl ⟨D, rfl, lD.out, ?_, HBD.out, hF.out, hb.out⟩
      rw [hD.out, List.take_of_length_le (by have := HN.out; omega)]
theorem copy10_any (w : World) (a : Option Addr) (c : Nat) (l : List Ent9) (hL : L9 w a l) :
    Calls Try.prog 26 #[.slice a l.length c] w (CopyPost10 w l) := by
  have H := hid (each10_any w a c l hL)
  clear hL
  go_enter Try.func26, Try.ntmps26
  go_wp2_with fail
  refine H.out.mono ?_
  rintro e w1 ⟨M, rfl, h⟩
  go_wp2_with fail
  go_ret
  exact ⟨M, rfl, h⟩
end Go.Proofs.Yteaimnlfbbkccaa
