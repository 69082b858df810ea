/- BufferHolds' walk. -/
import Derived.Test.YtbpdhhepngepdaaBufHoldsL
import Derived.Test.YtbpdhhepngepdaaShell
import Derived.Test.YtbpdhhepngepdaaRowD
import Derived.Deep.RegionHeld3
namespace Go.Proofs.Ytbpdhhepngepdaa
open Go.RowKit Go.Maps

theorem elemInt : Elem Try.prog 36 3 (.int .i64 0) 8 := ⟨by kernel_rfl, by kernel_rfl, rfl⟩

theorem value_lit (l : List Int) (a : Option Addr) (n cap : Nat) (w : World) (en : n = l.length) (hm : l.length ≤ 8) (ho : Octets l) (hc : Ints .u8 w a l) :
    Calls Try.prog 13 #[.slice a n cap] w fun e w' => e = .returned (.int .u64 (numL l)) ∧ w = w' := by
  subst en; exact value_any l a cap w hm ho hc

set_option maxRecDepth 100000 in
set_option maxHeartbeats 4000000 in
theorem BufferHolds_walk (ns bs : List Int) (a d : Option Addr) (c e : Nat) (w : World) (hc : ns.length ≤ 9223372036854775807) (_hbc : bs.length ≤ e) (hm : bs.length ≤ 9223372036854775807) (hu : ∀ x, x ∈ ns → 0 ≤ x ∧ x < p256 8)
    (ha : Ints .u64 w a ns) (hd : Ints .u8 w d bs) :
    Calls Try.prog 4 #[.slice a ns.length c, .slice d bs.length e] w fun e w' => e = .returned (.bool true) ∧ Below w.heap.size w w' := by
  by_cases h1 : 20 < ns.length
  · go_enter Try.func4, Try.ntmps4
    go_wp2_with fail
    refine (sure3_any _).mono ?_
    rintro e w' ⟨rfl, hz⟩
    go_wp2
    go_ret
    exact ⟨rfl, hz⟩
  by_cases h2 : 100 < bs.length
  · go_enter Try.func4, Try.ntmps4
    go_wp2_with fail
    refine (sure3_any _).mono ?_
    rintro e w' ⟨rfl, hz⟩
    go_wp2
    go_ret
    exact ⟨rfl, hz⟩
  have hp := fun (w : World) (p : Option Addr) => run_eql_pointer_nil w 25 p ptrBuf
  obtain ⟨s, hs⟩ : ∃ s, s = 8 + bs.length := ⟨_, rfl⟩
  have hs0 : 0 < s := by omega
  have hs1 : s ≤ 108 := by omega
  have hbl : bs.length ≤ 100 := by omega
  have hnl : ns.length ≤ 20 := by omega
  have HS := hid hs
  obtain ⟨T, hT⟩ : ∃ T, T = ns.length * s := ⟨_, rfl⟩
  have hT1 : T ≤ 2160 := by rw [hT]; exact Nat.mul_le_mul hnl hs1
  have HT := hid hT
  have HU := hid hu
  have HA := hid ha
  have HD := hid hd
  clear hs hu ha hd hT
  go_enter Try.func4, Try.ntmps4
  go_wp2_with fail
  refine (bufNew_any 100000 _).mono ?_
  rintro e w1 ⟨g, m, rfl, hB, hb, hg, hm⟩
  have A1 : Side w w1 3 .i64 (.slice none 0 0) (places s 0) g m none 100000 (whole bs (List.replicate 0 zero8)) (holds s 0) 0 :=
    ⟨⟨hB, hb, by rintro i (e | e | e); omega; omega; simp at e⟩, ⟨own_nil _ _, hb, by simp [Value.ownBlock]⟩, by simp [Value.ownBlock]⟩
  clear hB hb hg hm
  go_wp2
  go_loopw [6, 7] (fun v i wr => ∃ (k : Nat) (p : Option Nat), k ≤ ns.length ∧ i = .int .i64 k ∧ Side w wr 3 .i64 v (places s k) g m p 100000 (whole bs (List.replicate k zero8)) (holds s k) 0) (fun _ i _ => ns.length - (intOf i).toNat)
  case atStart => exact ⟨0, none, Nat.zero_le _, rfl, A1⟩
  case round =>
    obtain ⟨k, p, hk, rfl, hA⟩ := hrel
    have hlen := zeros_length bs k
    rw [← HS.out] at hlen
    have hks : k * s ≤ 2160 := Nat.mul_le_mul (Nat.le_trans hk hnl) hs1
    by_cases hlt : k < ns.length
    · have hk2 : (k : Int) < (ns.length : Int) := by omega
      have HL := hid hlen
      clear hlen
      go_wp2_with fail
      have hH := hA.on.buf.hold_ok (n := 8) (by omega) (by omega) (by rw [HL.out]; omega)
      rw [HL.out] at hH
      refine hH.mono ?_
      rintro e w2 ⟨rfl, p2, hW⟩
      have hA2 := hA.wrote hW
      have hA3 := hA2.below (below_alloc w2 (.cells #[.int .i64 ((k * s : Nat) : Int)] 3))
      have hP := hid (places_succ s k).symm
      have hpl := hid (places_length s (k + 1))
      clear hH hA hW hA2
      go_wp2_with (at_builtin; refine wp_app_ints rfl (.tmp 33) (.tmp 36) rfl elemInt rfl hA3.fresh.own rfl rfl (ints_one .i64 w2 _ 3) hP.out ?_ ?_ ?_; (rw [hpl.out]; omega); (rw [hpl.out]; omega); intro a3 c3 w3 hl3 hc3 hI3 hg3)
      have hA4 := hA3.grew hg3
      clear hA3 hI3 hg3
      have hHH := hid (holds_succ s k).symm
      have hL8 := hid (zeros_step bs k)
      have hlen8 := hid (show (whole bs (List.replicate k zero8) ++ List.replicate 8 (0 : Int)).length + bs.length ≤ 100000 by rw [List.length_append, HL.out, List.length_replicate]; omega)
      refine (hA4.on.buf.bytes_ok bs d e hlen8.out (HD.out.below hA4.on.bel)).mono ?_
      rintro e w4 ⟨rfl, p4, hW⟩
      have hA5 := hA4.wrote hW
      rw [hL8.out] at hA5
      have hA6 : Side w w4 3 .i64 (.slice a3 (places s (k + 1)).length c3) (places s (k + 1)) g m p4 100000 (whole bs (List.replicate (k + 1) zero8)) (holds s (k + 1)) 0 := by
        have := hA5
        rw [show ((8 : Nat) : Int) = 8 from rfl, hHH.out] at this
        exact this
      clear hA4 hA5 hW
      go_wp2
      go_roundw
      case rel => exact ⟨k + 1, p4, by omega, by go_num, hA6⟩
      case measure => simp [intOf]; omega
    · obtain rfl : k = ns.length := by omega
      obtain ⟨av, cv, hve, hv1, hv2, hIv⟩ := own_ints hA.fresh.own
      subst hve
      have hA1 : Side w wr 3 .i64 (.slice av (places s ns.length).length cv) (places s ns.length) g m p 100000 (whole bs (holdL ns ns.length)) (holds s ns.length) 0 := by
        rw [holdL_all]; exact hA
      have hpl := places_length s ns.length
      rw [hpl] at hA1
      rw [hpl]
      clear hA hIv
      go_wp2
      go_loopw [8] (fun i wr => ∃ (q : Nat) (p : Option Nat) (z : Int), i = .int .i64 z ∧ z = (q : Int) - 1 ∧ q ≤ ns.length ∧ Side w wr 3 .i64 (.slice av ns.length cv) (places s ns.length) g m p 100000 (whole bs (holdL ns q)) (holds s q) 0) (fun i _ => (intOf i + 1).toNat)
      case atStart => exact ⟨ns.length, _, _, rfl, rfl, Nat.le_refl _, hA1⟩
      case round =>
        clear hA1
        obtain ⟨q, p, z, rfl, hz, hq, hA⟩ := hrel
        cases q
        · obtain rfl : z = -1 := by omega
          clear hz
          have hB : Buf wr g m p 100000 (whole bs (holdL ns 0)) [] 0 := hA.on.buf
          have hWl := holdL_length bs ns (j := 0) (Nat.zero_le _)
          rw [← HS.out, ← HT.out] at hWl
          have hW := hid (fun i n (h : ns[i]? = some n) => holdL_at bs h)
          obtain ⟨W, hWW⟩ : ∃ W, W = whole bs (holdL ns 0) := ⟨_, rfl⟩
          rw [← hWW] at hB hW hWl
          have hbel := hA.on.bel
          have HWL := hid hWl
          have hmul : (ns.length : Int) * (8 + (bs.length : Int)) = (T : Int) := by rw [HT.out, HS.out]; simp
          clear hA hWW hWl
          go_wp2_with fail
          refine hB.done_ok.mono ?_
          rw [HWL.out]
          rintro e w2 ⟨rfl, hF⟩
          have hF' := hF.own
          obtain ⟨aX, cX, he, -, -, hI⟩ := own_ints hF'
          simp at he
          obtain ⟨rfl, -⟩ := he
          have hbel2 := below_then hbel hF.bel
          obtain ⟨X, hX⟩ : ∃ X, X = wr.heap.size := ⟨_, rfl⟩
          rw [← hX] at hI ⊢
          clear hF hF' hB hbel hX
          go_wp2
          go_loopw [13] (fun i wr => ∃ k : Nat, k ≤ ns.length ∧ i = .int .i64 k ∧ Below w.heap.size w wr ∧ Ints .u8 wr (some ⟨X, 0, none⟩) W) (fun i _ => ns.length - (intOf i).toNat)
          case atStart => exact ⟨0, Nat.zero_le _, rfl, hbel2, hI⟩
          case round =>
            clear hI hbel2
            obtain ⟨k, hk, rfl, hbel, hI⟩ := hrel
            by_cases hlt : k < ns.length
            · have hk2 : (k : Int) < (ns.length : Int) := by omega
              obtain ⟨b2, off2, y, rfl, hc1, hy⟩ := HA.out.at hlt
              have hy := hy.out
              have hU := HU.out y (List.mem_of_getElem? hy)
              obtain ⟨more, hmore⟩ := hW.out k y hy
              rw [← HS.out] at hmore
              obtain ⟨q, hq⟩ : ∃ q, q = k * s := ⟨_, rfl⟩
              rw [← hq] at hmore
              have hqT : q + s ≤ T := by
                have := Nat.mul_le_mul_right s (show k + 1 ≤ ns.length by omega)
                rw [Nat.add_mul, ← hq, ← HT.out] at this
                omega
              have hmul2 : (k : Int) * (8 + (bs.length : Int)) = (q : Int) := by rw [hq, HS.out]; simp
              have hne : ¬ T = q := by omega
              have hsb := HS.out
              have hqs : q ≤ T := by omega
              have hnum : numL (bytesL y 8) = y := by rw [numL_bytesL, Int.emod_eq_of_lt hU.1 hU.2]
              have hlW : (bytesL y 8 ++ (bs ++ more)).length = T - q := by rw [← hmore, List.length_drop, HWL.out]
              have hIq : Ints .u8 wr (some ⟨X, q, none⟩) (bytesL y 8 ++ (bs ++ more)) := by
                have h := hI.drop (j := q) (cap := T) (by rw [HWL.out]; exact Nat.le_refl _)
                rw [if_neg hne, hmore, Nat.zero_add] at h
                exact h
              have hI8 := hid (show Ints .u8 wr (some ⟨X, q, none⟩) (bytesL y 8) by
                have h := hIq.take 8
                rwa [List.take_left' (bytesL_length y 8)] at h)
              have hIB := hid (show Ints .u8 wr (if T - q = 8 then some ⟨X, q, none⟩ else some ⟨X, q + 8, none⟩) bs by
                have h := (hIq.drop (j := 8) (cap := T - q) (by omega)).take bs.length
                rwa [List.drop_left' (bytesL_length y 8), List.take_left] at h)
              have HI := hid hI
              have HB := hid hbel
              have hcq := Wk.cell (cell_keep hc1 hbel)
              have h8 : 8 + bs.length ≤ T - q := by omega
              have h8i : (8 : Int) + (bs.length : Int) ≤ ((T - q : Nat) : Int) := by omega
              have h8j : (8 : Int) ≤ ((T - q : Nat) : Int) := by omega
              clear hq hU hy hI hIq hlW hmore hbel hc1 hsb
              by_cases h9 : T - q = 8
              all_goals
                simp only [h9, if_true, if_false] at hIB
                go_wp2
                refine wp_region_wk (by kernel_rfl) (by kernel_rfl) ?_
                repeat (go_big_quiet_step ((first | (go_at_call 13; exact Wk.same (value_lit (bytesL y 8) _ _ _ _ (by rw [bytesL_length]) (by rw [bytesL_length]; omega) (bytesL_octets y 8) (hI8.out.below (Wk.bel _)))) | (go_at_call 10; exact Wk.call (bytes_at bs bs _ _ _ _ _ _ _ (by omega) rfl (by omega) (by omega) (hIB.out.below (Wk.bel _)) ((HD.out.below HB.out).below (Wk.bel _)))))))
                refine wpQuiet_nil ?_
                rintro w5 ⟨⟨_, hb5⟩, rfl⟩
                go_wp2
                go_roundw
                case rel => exact ⟨k + 1, by omega, by go_num, below_then HB.out hb5, HI.out.below hb5⟩
                case measure => simp [intOf]; omega
            · go_wp2_with fail
              refine (sure3_any _).mono ?_
              rintro e w' ⟨rfl, hz⟩
              go_wp2
              go_ret
              exact ⟨rfl, below_then hbel hz⟩
        · rename_i q
          obtain rfl : z = (q : Int) := by omega
          clear hz
          have hq2 : (q : Int) < (ns.length : Int) := by omega
          obtain ⟨_, _, he, _, _, hIv⟩ := own_ints hA.fresh.own
          rw [hpl] at he
          simp at he
          obtain ⟨rfl, rfl⟩ := he
          obtain ⟨b, off, x, rfl, hc0, hx⟩ := hIv.at (i := q) (by rw [hpl]; exact hq)
          have hx := hx.out
          rw [places_get hq] at hx
          obtain rfl : ((q * s : Nat) : Int) = x := Option.some.inj hx
          obtain ⟨b2, off2, y, rfl, hc1, hy⟩ := HA.out.at hq
          have hy := hy.out
          have hU := HU.out y (List.mem_of_getElem? hy)
          have hfill := holdL_fill bs hy
          rw [← HS.out] at hfill
          have hF := fun wz (hB : Buf wz g m p 100000 (whole bs (holdL ns (q + 1))) (holds s (q + 1)) 0) => hB.fill_ok (k := q * s) (n := 8) (x := y) (holds_look hs0) (by omega) hU.1 hU.2
          rw [hfill, holds_fill hs0] at hF
          have HF := hid hF
          have hc2 := cell_keep hc1 hA.on.bel
          have HC1 := hid hc1
          have HC0 := hid hc0
          have HSA := hid hA
          have hfar := hid (hA.far b rfl)
          clear hx hy hU hfill hF hIv
          go_wp2_with fail
          refine (hA.on.buf.done_held (holds_some s q)).mono ?_
          rintro e w' ⟨rfl, rfl⟩
          clear hA
          go_wp2
          go_region_held3 (fun w' => w'.cell? ⟨b, off + q, none⟩ = some (.int .i64 ((q * s : Nat) : Int)) ∧ w'.cell? ⟨b2, off2 + q, none⟩ = some (.int .u64 y)) (go_keep) ((first | (go_at_call 12; refine (HF.out _ (HSA.out.on.buf.below ((Below.refl _ _).drew))).mono ?_; rintro e w2 ⟨rfl, p2, hW⟩; have hA2 := (HSA.out.below ((Below.refl _ _).drew)).wrote hW; have x0 := hW.turn.cell (cell_keep HC0.out ((Below.refl _ _).drew)) hfar.out; have x1 := cell_keep HC1.out hA2.on.bel)))
          clear x0 x1 hc2
          go_wp2
          go_roundw
          case rel => exact ⟨q, p2, _, rfl, by go_num, by omega, hA2⟩
          case measure => simp [intOf]
end Go.Proofs.Ytbpdhhepngepdaa
