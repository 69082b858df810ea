/- The document's Check. -/
import Derived.Test.YtlikpafjlojagaaNedQ
namespace Go.Proofs.Ytlikpafjlojagaa
open Go.RowKit
set_option linter.unusedVariables false

set_option maxRecDepth 100000 in
set_option maxHeartbeats 4000000 in
theorem refCheck9_any (l : List Ent9) (a : Option Addr) (c : Nat) (w : World) (hL : L9 w a l) (hlc : l.length ≤ c) :
    Calls Try.prog 9 #[.slice a l.length c] w fun e w' => e = .returned (ckV (check9 (l.map Ent9.o))) ∧ Below w.heap.size w w' := by
  obtain ⟨⟨p, q⟩, hr⟩ : ∃ r, check9 (l.map Ent9.o) = r := ⟨_, rfl⟩
  rw [hr]
  have HR := hid hr
  have HL := hid hL
  have hll : l.length ≤ 60 := hL.len
  have hmix : Try.prog.follows .mixedOrders = true := by kernel_rfl
  unfold ckV
  clear hr hL
  go_enter Try.func9, Try.ntmps9
  go_wp2_with fail
  go_loopg [4] (l.length) (fun kx s4 wr => ∃ (i : Nat), s4 = .int .i64 i ∧ i ≤ l.length ∧ l.length - i ≤ kx ∧ Hid (chk9 ((l.map Ent9.o).take i) ((l.map Ent9.o).drop i) = (p, q)) ∧ Hid (Below w.heap.size w wr))
  case atStart => exact ⟨0, rfl, by omega, by omega, HR.out, Below.refl _ _⟩
  case round =>
    obtain ⟨i, rfl, hi, hkx, hC, hb⟩ := hrel
    by_cases hlt : i < l.length
    · have hltz : (i : Int) < (l.length : Int) := by omega
      obtain ⟨b, off, rfl, hoo⟩ := HL.out.ox i hlt
      clear hoo
      have hget : (l.map Ent9.o)[i]? = some l[i].o := by simp [hlt]
      obtain ⟨h, hh⟩ : ∃ h, h = l[i] := ⟨_, rfl⟩
      rw [← hh] at hget
      have HH := hid hh
      have HST := hid (chk_step hget)
      have HBB := hid hb.out
      clear hget hh
      go_wp2_with fail
      go_loopg [5] i (fun kx s5 wr => ∃ (k : Nat), s5 = .int .i64 k ∧ k ≤ i ∧ i - k ≤ kx ∧ Hid (((l.map Ent9.o).take k).any (fun x => alike9 x h.o) = false) ∧ Hid (Below w.heap.size w wr))
      case atStart => exact ⟨0, rfl, by omega, by omega, rfl, HBB.out⟩
      case round =>
        obtain ⟨k, rfl, hk, hkk, hn, hb2⟩ := hrel
        have hl := HL.out.below hb2.out
        obtain ⟨b1, o1, he1, d0, d1, d2, d3, d4, d5⟩ := hl.ox i hlt
        simp only [Option.some.injEq, Addr.mk.injEq] at he1
        obtain ⟨rfl, rfl, _⟩ := he1
        rw [← HH.out] at d0 d1 d2 d3 d4 d5
        by_cases hki : k < i
        · have hkz : (k : Int) < (i : Int) := by omega
          have hkl : k < l.length := by omega
          obtain ⟨b2, o2, he2, c0, c1, c2, c3, c4, c5⟩ := hl.ox k hkl
          simp only [Option.some.injEq, Addr.mk.injEq] at he2
          obtain ⟨rfl, rfl, _⟩ := he2
          have hget : (l.map Ent9.o)[k]? = some l[k].o := by simp [hkl]
          generalize l[k] = g at c0 c1 c2 c3 c4 c5 hget
          have HG := hid hget
          have HC := hid (fun n : Wk wr => Wk.call (refAlike8_any g.o.C g.o.F g.o.H g.o.X g.va g.o.v.length g.vc g.ma g.o.m.length g.mc h.o.C h.o.F h.o.H h.o.X h.va h.o.v.length h.vc h.ma h.o.m.length h.mc n.val))
          obtain ⟨al, hal⟩ : ∃ al, alikeB g.o.C g.o.F g.o.X h.o.C h.o.F h.o.X = al := ⟨_, rfl⟩
          rw [hal] at HC
          have HAL : Hid (alike9 g.o h.o = al) := hal
          have hkl2 : (k : Int) < (l.length : Int) := by omega
          have c0 := Wk.cell c0
          have c1 := Wk.cell c1
          have c2 := Wk.cell c2
          have c3 := Wk.cell c3
          have c4 := Wk.cell c4
          have c5 := Wk.cell c5
          have d0 := Wk.cell d0
          have d1 := Wk.cell d1
          have d2 := Wk.cell d2
          have d3 := Wk.cell d3
          have d4 := Wk.cell d4
          have d5 := Wk.cell d5
          clear hl hget hal
          go_wp2_with fail
          refine wp_region_wk (by kernel_rfl) (by kernel_rfl) ?_
          repeat (go_big_quiet_step (first | (go_at_call 22; exact HC.out _) | fail))
          refine wpQuiet_nil ?_
          rintro w6 ⟨⟨_, hb6⟩, rfl⟩
          clear c0 c1 c2 c3 c4 c5 d0 d1 d2 d3 d4 d5
          have HB6 := hid (below_on hb2.out hb6)
          cases al
          · go_wp2_with fail
            go_roundg (i - (k + 1))
            case measure => omega
            case rel =>
              refine ⟨k + 1, by first | rfl | go_num, by omega, Nat.le_refl _, ?_, HB6.out⟩
              show _ = _
              rw [List.take_add_one, HG.out]
              simp only [Option.toList_some, List.any_append, hn.out, List.any_cons, HAL.out, List.any_nil]; rfl
          · go_wp2_with fail
            have hc := hC.out
            have htw : twice9 ((l.map Ent9.o).take i) h.o = true := by
              refine List.any_eq_true.2 ⟨g.o, ?_, HAL.out⟩
              rw [List.mem_take_iff_getElem]
              obtain ⟨hq1, hq2⟩ := List.getElem?_eq_some_iff.1 HG.out
              exact ⟨k, by omega, hq2⟩
            rw [HST.out, if_pos htw] at hc
            obtain ⟨rfl, rfl⟩ := Prod.mk.inj hc
            exact bodyPost_ret (v := .tuple #[.int .i64 (i : Int), .int .i64 1035]) (by simp [results, Try.results9, go_sem]) rfl ⟨rfl, HB6.out⟩
        · have hkz : ¬ (k : Int) < (i : Int) := by omega
          obtain rfl : k = i := by omega
          have HTW : Hid (twice9 ((l.map Ent9.o).take k) h.o = false) := hn.out
          have HMET : Hid (∀ n : Wk wr, Calls Try.prog 11 #[.slice (some ⟨b, off, none⟩) k c, .agg #[.int .i64 h.o.C, .int .i64 h.o.F, .bool h.o.H, .int .u64 h.o.X, .slice h.va h.o.v.length h.vc, .slice h.ma h.o.m.length h.mc]] n.val fun e w'' => e = .returned (.bool (met9 ((l.map Ent9.o).take k) h.o)) ∧ ∃ m : Wk wr, w'' = m.val) := by
            show _
            intro n
            have := Wk.call (refMet_any (l.take k) h (some ⟨b, off, none⟩) c n.val (((HL.out.take k).below hb2.out).below n.bel))
            rw [List.length_take, Nat.min_eq_left hi, List.map_take] at this
            exact this
          have hic : (k : Int) ≤ (c : Int) := by omega
          obtain ⟨mt, hmt⟩ : ∃ mt, met9 ((l.map Ent9.o).take k) h.o = mt := ⟨_, rfl⟩
          rw [hmt] at HMET
          have HMT := hid hmt
          have d0 := Wk.cell d0
          have d1 := Wk.cell d1
          have d2 := Wk.cell d2
          have d3 := Wk.cell d3
          have d4 := Wk.cell d4
          have d5 := Wk.cell d5
          clear hl hmt
          go_wp2_with fail
          refine wp_region_wk (by kernel_rfl) (by kernel_rfl) ?_
          repeat (go_big_quiet_step (first | (go_at_call 11; exact HMET.out _) | fail))
          refine wpQuiet_nil ?_
          rintro w6 ⟨⟨_, hb6⟩, rfl⟩
          clear d0 d1 d2 d3 d4 d5
          have HB6 := hid (below_on hb2.out hb6)
          cases mt
          · go_wp2_with fail
            have hc := hC.out
            rw [HST.out, if_neg (by rw [HTW.out]; simp), if_pos HMT.out] at hc
            obtain ⟨rfl, rfl⟩ := Prod.mk.inj hc
            exact bodyPost_ret (v := .tuple #[.int .i64 (k : Int), .int .i64 1034]) (by simp [results, Try.results9, go_sem]) rfl ⟨rfl, HB6.out⟩
          · go_wp2_with fail
            go_roundg (l.length - (k + 1))
            case measure => omega
            case rel =>
              have hc := hC.out
              rw [HST.out, if_neg (by rw [HTW.out]; simp), if_neg (by rw [HMT.out]; simp)] at hc
              exact ⟨k + 1, by first | rfl | go_num, by omega, Nat.le_refl _, hc, HB6.out⟩
    · have hltz : ¬ (i : Int) < (l.length : Int) := by omega
      go_wp2_with fail
      have hc := hC.out
      rw [List.drop_of_length_le (by rw [List.length_map]; omega)] at hc
      obtain ⟨rfl, rfl⟩ := Prod.mk.inj hc
      exact bodyPost_ret (v := .tuple #[.int .i64 0, .int .i64 0]) (by simp [results, Try.results9, go_sem]) rfl ⟨rfl, hb.out⟩
end Go.Proofs.Ytlikpafjlojagaa
