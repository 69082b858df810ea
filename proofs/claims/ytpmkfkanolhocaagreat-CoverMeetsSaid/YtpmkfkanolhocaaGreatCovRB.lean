/- The document's cover: Apart. -/
import Derived.Test.YtpmkfkanolhocaaGreatCovRA
namespace Go.Proofs.YtpmkfkanolhocaaGreat
open Go.RowKit
set_option linter.unusedVariables false
set_option maxRecDepth 100000

set_option maxHeartbeats 4000000 in
theorem refApart_any (l m : List Ent9) (a b : Option Addr) (c d : Nat) (w : World) (hL : L9 w a l) (hM : L9 w b m) (oL : OkL (l.map Ent9.o)) (oM : OkL (m.map Ent9.o)) :
    Calls Tryz.prog 21 #[.slice a l.length c, .slice b m.length d] w fun e w' => e = .returned (.bool (apart11 (l.map Ent9.o) (m.map Ent9.o))) ∧ Below w.heap.size w w' := by
  have HL := hid hL
  have HM := hid hM
  have OL := hid oL
  have OM := hid oM
  have hll : l.length ≤ 1000 := hL.len
  have hml : m.length ≤ 1000 := hM.len
  obtain ⟨r, hr⟩ : ∃ r, apart11 (l.map Ent9.o) (m.map Ent9.o) = r := ⟨_, rfl⟩
  rw [hr]
  have HR := hid hr
  clear hL hM oL oM hr
  go_enter Tryz.func21, Tryz.ntmps21
  go_wp2_with fail
  go_loopg [5] (l.length) (fun kx s5 wr => ∃ i : Nat, s5 = .int .i64 i ∧ i ≤ l.length ∧ l.length - i ≤ kx ∧ Hid (∀ x ∈ (l.map Ent9.o).take i, ∀ y ∈ m.map Ent9.o, clash11 x y = false) ∧ Hid (Below w.heap.size w wr))
  case atStart => exact ⟨0, rfl, by omega, by omega, by simp [Hid], Below.refl _ _⟩
  case round =>
    obtain ⟨i, rfl, hi, hkx, hn, hb⟩ := hrel
    by_cases hlt : i < l.length
    · have hltz : (i : Int) < (l.length : Int) := by omega
      obtain ⟨h, hh⟩ : ∃ h, l[i] = h := ⟨_, rfl⟩
      have hget : (l.map Ent9.o)[i]? = some h.o := by simp [hlt, hh]
      have HGET := hid (And.intro hget hh)
      have hmem : h ∈ l := by rw [← hh]; exact List.getElem_mem hlt
      have HMEM := hid hmem
      clear hget hh hmem
      obtain ⟨w0, hw0⟩ : ∃ x, x = wr := ⟨_, rfl⟩
      subst hw0
      go_wp2_with fail
      go_loopg [6] (m.length) (fun kx s6 wr => ∃ k : Nat, s6 = .int .i64 k ∧ k ≤ m.length ∧ m.length - k ≤ kx ∧ Hid (∀ y ∈ (m.map Ent9.o).take k, clash11 h.o y = false) ∧ Hid (Below w.heap.size w wr))
      case atStart => exact ⟨0, rfl, by omega, by omega, by simp [Hid], hb⟩
      case round =>
        obtain ⟨k, rfl, hk, hkk, hal, hbr⟩ := hrel
        by_cases hkl : k < m.length
        · have hkz : (k : Int) < (m.length : Int) := by omega
          have hl := HL.out.below hbr.out
          have hm := HM.out.below hbr.out
          obtain ⟨b1, o1, rfl, c0, c1, c2, c3, c4, c5⟩ := hl.ox i hlt
          obtain ⟨b2, o2, rfl, d0, d1, d2, d3, d4, d5⟩ := hm.ox k hkl
          rw [HGET.out.2] at c0 c1 c2 c3 c4 c5
          have hgk : (m.map Ent9.o)[k]? = some m[k].o := by simp [hkl]
          have hgm : m[k] ∈ m := List.getElem_mem hkl
          generalize m[k] = g at d0 d1 d2 d3 d4 d5 hgk hgm
          have HGK := hid (And.intro hgk hgm)
          have HC := hid (fun n : Wk wr => refClash_any h g n.val ((hl.ent h HMEM.out).below n.bel) ((hm.ent g hgm).below n.bel) (OL.out.ok h.o (List.mem_map.2 ⟨h, HMEM.out, rfl⟩)) (OM.out.ok g.o (List.mem_map.2 ⟨g, hgm, rfl⟩)) (hl.few h HMEM.out).1 (hm.few g hgm).1)
          unfold Ent9.val at HC
          have k0 := Wk.cell c0
          have k1 := Wk.cell c1
          have k2 := Wk.cell c2
          have k3 := Wk.cell c3
          have k4 := Wk.cell c4
          have k5 := Wk.cell c5
          have j0 := Wk.cell d0
          have j1 := Wk.cell d1
          have j2 := Wk.cell d2
          have j3 := Wk.cell d3
          have j4 := Wk.cell d4
          have j5 := Wk.cell d5
          obtain ⟨q, hq⟩ : ∃ q, clash11 h.o g.o = q := ⟨_, rfl⟩
          rw [hq] at HC
          have HQ := hid hq
          clear hl hm c0 c1 c2 c3 c4 c5 d0 d1 d2 d3 d4 d5 hgk hgm hq
          go_upto_region 7 with fail
          refine wp_region_wk (by kernel_rfl) (by kernel_rfl) ?_
          repeat (go_big_quiet_step ((go_at_call 44; exact Wk.call (HC.out _))))
          refine wpQuiet_nil ?_
          rintro w6 ⟨⟨_, hb6⟩, rfl⟩
          have HB6 := hid (below_on hbr.out hb6)
          clear hb6 k0 k1 k2 k3 k4 k5 j0 j1 j2 j3 j4 j5
          cases q
          · go_wp2_with fail
            go_roundg (m.length - (k + 1))
            case measure => omega
            case rel =>
              refine ⟨k + 1, by first | rfl | go_num, by omega, Nat.le_refl _, ?_, HB6⟩
              show ∀ _, _
              intro x hx
              rw [List.take_add_one, HGK.out.1] at hx
              rcases List.mem_append.1 hx with hx | hx
              · exact hal.out x hx
              · simp at hx; rw [hx]; exact HQ.out
          · go_wp2_with fail
            go_ret
            refine ⟨ret_bool ?_, HB6.out⟩
            rw [← HR.out]
            unfold apart11
            symm
            rw [List.any_eq_true]
            exact ⟨h.o, List.mem_map.2 ⟨h, HMEM.out, rfl⟩, List.any_eq_true.2 ⟨g.o, List.mem_map.2 ⟨g, HGK.out.2, rfl⟩, HQ.out⟩⟩
        · have hkz : ¬ (k : Int) < (m.length : Int) := by omega
          go_wp2_with fail
          go_roundg (l.length - (i + 1))
          case measure => omega
          case rel =>
            refine ⟨i + 1, by first | rfl | go_num, by omega, Nat.le_refl _, ?_, hbr⟩
            show ∀ _, _
            intro x hx y hy
            rw [List.take_add_one, HGET.out.1] at hx
            rcases List.mem_append.1 hx with hx | hx
            · exact hn.out x hx y hy
            · simp at hx
              rw [hx]
              have := hal.out
              rw [List.take_of_length_le (by rw [List.length_map]; omega)] at this
              exact this y hy
    · have hltz : ¬ (i : Int) < (l.length : Int) := by omega
      go_wp2_with fail
      go_ret
      refine ⟨ret_bool ?_, hb.out⟩
      rw [← HR.out]
      symm
      rw [apart_iff]
      have := hn.out
      rwa [List.take_of_length_le (by rw [List.length_map]; omega)] at this
end Go.Proofs.YtpmkfkanolhocaaGreat
