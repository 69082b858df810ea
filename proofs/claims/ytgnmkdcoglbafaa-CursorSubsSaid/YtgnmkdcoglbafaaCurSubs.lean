/- CursorSubs's walk. -/
import Derived.Test.YtgnmkdcoglbafaaCurAll
namespace Go.Proofs.Ytgnmkdcoglbafaa
open Go.RowKit

set_option maxRecDepth 100000 in
set_option maxHeartbeats 4000000 in
theorem CursorSubs_walk (b ps : List Int) (a d : Option Addr) (c e : Nat) (w : World) (hbl : b.length ≤ c) (hc : c ≤ 9223372036854775807) (hpl : ps.length ≤ 9223372036854775807) (hu : Octets b) (hv : Octets ps) (ha : Ints .u8 w a b) (hsh : 0 < c → ∃ b off, a = some ⟨b, off, none⟩) (hd : Ints .u8 w d ps) :
    Calls Try.prog 5 #[.slice a b.length c, .slice d ps.length e] w fun e w' => e = .returned (.bool true) ∧ Below w.heap.size w w' := by
  by_cases hbig : 2000 < b.length
  · go_enter Try.func5, Try.ntmps5
    go_wp2_with (go_at_call 7; refine (sure2_any _).mono ?_; rintro e w' ⟨rfl, hz⟩)
    go_ret
    exact ⟨rfl, hz⟩
  · by_cases hmany : 60 < ps.length
    · go_enter Try.func5, Try.ntmps5
      go_wp2_with (go_at_call 7; refine (sure2_any _).mono ?_; rintro e w' ⟨rfl, hz⟩)
      go_ret
      exact ⟨rfl, hz⟩
    · have hp := fun (w : World) (p : Option Addr) => run_eql_pointer_nil w 26 p ptrCur
      go_enter Try.func5, Try.ntmps5
      go_wp2_with fail
      refine (new_any b a c 10002 269 w (by omega) hu ha).mono ?_
      rintro e w1 ⟨g, rfl, hC, hB, hg, hg2⟩
      go_wp2
      go_loopw [6, 7] (fun v i wr => ∃ (k m d' r : Nat) (rest : List Int) (a' : Option Addr), k ≤ ps.length ∧ i = .int .i64 k ∧ v = .slice a' m d' ∧ Hid (m = rest.length) ∧ m ≤ d' ∧ d' ≤ 9223372036854775807 ∧ Ints .u8 w a' rest ∧ Hid (0 < d' → ∃ b off, a' = some ⟨b, off, none⟩) ∧ Below w.heap.size w wr ∧ Cur wr g w.heap.size rest r 10002 269 0) (fun _ i _ => ps.length - (intOf i).toNat)
      case atStart => exact ⟨0, _, _, 0, b, _, Nat.zero_le _, rfl, rfl, rfl, hbl, hc, ha, hsh, hB, hC⟩
      case round =>
        clear hB hC hsh
        obtain ⟨k, m, d', r, rest, a', hk, rfl, rfl, hm, hmd, hd', hI, hsh', hB, hC⟩ := hrel
        have hgM := hC.block_lt
        have hML : w.heap.size < wr.heap.size := Nat.lt_trans (by omega) hgM
        have hrl := hC.rl
        have hm2 : m ≤ rest.length := by rw [hm.out]; exact Nat.le_refl _
        have hm3 : rest.length ≤ m := by rw [hm.out]; exact Nat.le_refl _
        by_cases hlt : k < ps.length
        · obtain ⟨b1, off1, x, rfl, hcell0, hx⟩ := hd.at hlt
          have hcell := cell_keep hcell0 hB
          obtain ⟨x0, x1⟩ := hv.get hx.out
          have hk2 : (k : Int) < (ps.length : Int) := by omega
          obtain ⟨n, hn⟩ : ∃ n : Nat, x % 9 = (n : Int) := ⟨(x % 9).toNat, by omega⟩
          have hn8 : n ≤ 8 := by omega
          clear hx
          by_cases hmore : m < n
          · have h1 : (m : Int) < (n : Int) := by omega
            have hC1 := hC.sub_short (n := n) (by omega) 527 528
            have HC1 := hid hC1
            have e1 : ((rest.length : Int) == (m : Int)) = true := by simp; omega
            clear hC1
            go_wp2_with fail
            refine HC1.out.mono ?_
            rintro e w2 ⟨rfl, hC2, hB2⟩
            have hB3 := below_by hB hB2 (by omega)
            clear hB hB2 hC HC1
            go_wp2_with fail
            refine hC2.err.mono ?_
            rintro e w' ⟨rfl, rfl⟩
            go_wp2_with fail
            refine hC2.left.mono ?_
            rintro e w' ⟨rfl, rfl⟩
            go_wp2_with fail
            refine (sure2_any _).mono ?_
            rintro e w5 ⟨rfl, hz⟩
            go_wp2
            go_ret
            exact ⟨rfl, below_more hB3 hz⟩
          · have hle : n ≤ m := by omega
            have h1 : ¬ (m : Int) < (n : Int) := by omega
            obtain ⟨tk, htk⟩ : ∃ tk, tk = rest.take n := ⟨_, rfl⟩
            have htl : tk.length = n := by rw [htk, List.length_take]; omega
            have hS := hC.sub_ok hML (n := n) (by omega) 527 528
            rw [← htk] at hS
            have HS := hid hS
            have HTL := hid htl
            have HTK := hid htk
            have hl0 : tk.length ≤ 8 := by omega
            have e1 : ((tk.length : Int) != (n : Int)) = false := by rw [bne_eq_false_iff_eq]; omega
            have e2 : (n : Int) ≤ (m : Int) := by omega
            have HRD := hid (show m - n = (rest.drop n).length by rw [List.length_drop]; omega)
            clear hS htl htk
            go_wp2_with fail
            refine HS.out.mono ?_
            rintro e w2 ⟨g', rfl, hg1, hg2', hCs, hC2, hB2⟩
            have hB3 := below_by hB hB2 (by omega)
            clear hB hB2 hC HS
            go_wp2_with fail
            refine hCs.left.mono ?_
            rintro e w' ⟨rfl, rfl⟩
            go_wp2_with fail
            refine hCs.rest_ok.mono ?_
            rintro e w3 ⟨q, rfl, hG, hCs3⟩
            have hB4 := below_by hB3 hG.by_ (by omega)
            have hC3 := hC2.kept hG.by_ (by simp; omega) (by simp; omega)
            obtain ⟨_, _, he, _, _, hX⟩ := own_ints hG.own
            simp at he
            obtain ⟨rfl, rfl⟩ := he
            clear hB3 hC2 hCs hG
            go_wp2_with fail
            refine (hCs3.num_short (n := 1) (by omega) (by omega) (by simp)).mono ?_
            rintro e w4 ⟨rfl, hCs4, hB5⟩
            have hB6 := below_by hB4 hB5 (by omega)
            have hC4 := hC3.kept hB5 (by simp; omega) (by simp; omega)
            have hX4 := hCs3.ints hX (by simp) hB5
            clear hB4 hC3 hCs3 hX hB5
            have PB := bytes_at tk (rest.take n) (some ⟨q, 0, none⟩) a' tk.length n tk.length d' w4 rfl (by rw [← HTK.out, HTL.out]) (by omega) (by rw [← HTK.out]; omega) hX4 ((hI.below hB6).take _)
            rw [← HTK.out, beq_rfl] at PB
            have HPB := hid PB
            clear PB hX4
            go_wp2_with fail
            refine HPB.out.mono ?_
            rintro e w5 ⟨rfl, hB7⟩
            have hC5 := hC4.below hB7
            have hCs5 := hCs4.below hB7
            have hB8 := below_more hB6 hB7
            clear hB6 hB7 hC4 hCs4 HPB
            go_wp2_with fail
            refine hCs5.err.mono ?_
            rintro e w' ⟨rfl, rfl⟩
            go_wp2_with fail
            refine hC5.err.mono ?_
            rintro e w' ⟨rfl, rfl⟩
            by_cases hdn : d' = n
            · obtain rfl : n = d' := hdn.symm
              have hID : Ints .u8 w a' (rest.drop n) := by rw [List.drop_of_length_le (by omega)]; exact Ints.nil _ _ _
              have hmn : m = n := by omega
              have HMN := hid hmn
              clear hmn
              go_wp2
              go_roundw
              case rel => exact ⟨k + 1, 0, 0, _, rest.drop n, a', by omega, by go_num, rfl, by have := HRD.out; have := HMN.out; unfold Hid; omega, by omega, by omega, hID, fun h => absurd h (by omega), hB8, hC5⟩
              case measure => simp [intOf]; omega
            · obtain ⟨b2, off2, rfl⟩ := hsh'.out (by omega)
              have hID := hI.drop (j := n) (cap := d') (by omega)
              rw [if_neg hdn] at hID
              have hnd : n < d' := by omega
              go_wp2
              go_roundw
              case rel => exact ⟨k + 1, m - n, d' - n, _, rest.drop n, _, by omega, by go_num, rfl, HRD, by omega, by omega, hID, fun _ => ⟨_, _, rfl⟩, hB8, hC5⟩
              case measure => simp [intOf]; omega
        · have hl1 : rest.length ≤ 140737488355328 := by have := hC.r0; omega
          go_wp2_with fail
          refine hC.rest_ok.mono ?_
          rintro e w2 ⟨q, rfl, hG, hC2⟩
          have hB3 := below_by hB hG.by_ (by omega)
          obtain ⟨_, _, he, _, _, hX⟩ := own_ints hG.own
          simp at he
          obtain ⟨rfl, rfl⟩ := he
          clear hB hC hG
          have PB := bytes_at rest rest (some ⟨q, 0, none⟩) a' rest.length m rest.length d' w2 rfl hm.out (by omega) (by omega) hX (hI.below hB3)
          rw [beq_rfl] at PB
          have HPB := hid PB
          clear PB hX
          go_wp2_with fail
          refine HPB.out.mono ?_
          rintro e w5 ⟨rfl, hB7⟩
          have hB8 := below_more hB3 hB7
          clear hB3 hB7 HPB
          go_wp2_with fail
          refine (sure2_any _).mono ?_
          rintro e w5 ⟨rfl, hz⟩
          go_wp2
          go_ret
          exact ⟨rfl, below_more hB8 hz⟩
end Go.Proofs.Ytgnmkdcoglbafaa
