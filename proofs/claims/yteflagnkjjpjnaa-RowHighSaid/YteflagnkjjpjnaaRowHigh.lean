/- RowHigh's walk. -/
import Derived.Test.YteflagnkjjpjnaaRowLaws
import Derived.Test.YteflagnkjjpjnaaQuiet
namespace Go.Proofs.Yteflagnkjjpjnaa
open Go.RowKit

theorem putW_one (n : Int) (X : Nat) (h1 : 1 ≤ X) (h2 : X ≤ 8) : putW [(X : Int)] [n] = if roomB n X then some (bytesL n X) else none := by
  have hr : rightW [(X : Int)] = true := by simp [rightW, allW, isW]; omega
  have hc : countL [(X : Int)] = 1 := by simp [countL]; omega
  rw [putW_yes hr (by simpa using hc), putL.eq_def]
  have : ¬ (X : Int) < 0 := by omega
  simp only [this, if_false]
  split <;> simp [putL]

set_option maxHeartbeats 400000 in
theorem RowHigh_walk (n q : Int) (w : World) (hn : 0 ≤ n) (hn8 : n < p256 8) (hq : 0 ≤ q) (hq2 : q ≤ 255) :
    Calls Try.prog 7 #[.int .u64 n, .int .u8 q] w fun e w' => e = .returned (.bool true) ∧ Below w.heap.size w w' := by
  have HN := hid hn8
  clear hn8
  go_enter Try.func7, Try.ntmps7
  go_wp2_with fail
  obtain ⟨X, hX⟩ : ∃ X : Nat, 1 + q % 8 = (X : Int) := ⟨(1 + q % 8).toNat, by omega⟩
  have hX1 : 1 ≤ X := by omega
  have hX8 : X ≤ 8 := by omega
  rw [hX]
  clear hX
  have A := two_lit (k := .i64) (k' := .u64) (w := w) (l := [(X : Int)]) (l' := [n]) (e := 3) (e' := 38) rfl rfl
  have hU : U64s [n] := by intro y hy; simp at hy; subst hy; exact ⟨hn, HN.out⟩
  have hp := putW_one n X hX1 hX8
  have hrs := room_shift (n := n) (x := X) hn (by omega)
  cases hroom : roomB n (X : Int)
  · rw [hroom] at hp hrs
    have hX7 : X ≠ 8 := by
      rintro rfl
      have := HN.out
      simp [roomB] at hroom
      omega
    have hX7' : (X : Int) < 8 := by omega
    have hsh : (n / 2 ^ (8 * X) != 0) = true := by
      have e : (8 * (X : Int)).toNat = 8 * X := by omega
      rw [e] at hrs
      rw [bne, hrs]
      rfl
    have P := put_no [(X : Int)] [n] (by simpa using hp) _ _ 1 1 _ (by simp) (by simp) hU A.1 A.2.1
    have HP := hid P
    have HA := hid A.2.2
    clear hp hrs A P hroom
    refine HP.out.mono ?_
    rintro e w1 ⟨rfl, hb1⟩
    have B1 := HA.out.trans (hb1.mono (by simp; omega))
    clear HP HA hb1
    go_wp2_with fail
    refine (sure_any _).mono ?_
    rintro e w9 ⟨rfl, hb9⟩
    have B9 := B1.trans (hb9.mono B1.size)
    clear B1 hb9
    go_wp2
    go_ret
    exact ⟨rfl, B9⟩
  · rw [hroom] at hp hrs
    have P := put_yes [(X : Int)] [n] (bytesL n X) (by simpa using hp) _ _ 1 1 _ (by simp) (by simp) hU A.1 A.2.1
    rw [bytesL_length] at P
    have HP := hid P
    have HA := hid A.2.2
    have hnum : numL (bytesL n X) = n := by
      rw [numL_bytesL, Int.emod_eq_of_lt hn]
      simpa [roomB] using hroom
    have HNUM := hid hnum
    have hsh : (n / 2 ^ (8 * X) == 0) = true := by
      have e : (8 * (X : Int)).toNat = 8 * X := by omega
      rwa [e] at hrs
    clear hp hrs A P hroom hnum
    refine HP.out.mono ?_
    rintro e w1 ⟨a1, c1, rfl, hb1, I1, L1, M1⟩
    have B1 := HA.out.trans (hb1.mono (by simp; omega))
    have hO := bytesL_octets n X
    have hlen := hid (bytesL_length n X)
    clear HP HA hb1
    go_wp2
    go_loop [8, 9] (fun s i => ∃ k : Nat, k ≤ X ∧ i = .int .i64 k ∧ s = .int .u64 (numL ((bytesL n X).take k))) (fun _ i => X - (intOf i).toNat)
    case atStart => exact ⟨0, Nat.zero_le _, rfl, rfl⟩
    case round =>
      obtain ⟨k, hk, rfl, rfl⟩ := hrel
      by_cases hlt : k < X
      · obtain ⟨b, off, x, rfl, hcell, hx⟩ := I1.at (show k < (bytesL n X).length by rw [hlen.out]; exact hlt)
        obtain ⟨x1, x2⟩ := hO.get hx.out
        obtain ⟨n1, n2⟩ := numL_bound7 hO (k := k) (by omega)
        have hs := hid (numL_succ hx.out)
        have hor := hid (or_low _ _ n1 n2 x1 x2)
        go_wp2
        go_round
        case rel => exact ⟨k + 1, by omega, by go_num, by rw [hs.out, hor.out]⟩
        case measure => simp [intOf]; omega
      · have e : numL ((bytesL n X).take k) = n := by rw [List.take_of_length_le (by rw [hlen.out]; omega), HNUM.out]
        rw [e]
        obtain ⟨b, off, x, rfl, hcell, hx⟩ := I1.at (show 0 < (bytesL n X).length by rw [hlen.out]; omega)
        rw [Nat.add_zero] at hcell
        have hxv : x = n / 2 ^ (8 * (X - 1)) % 256 := by
          have := hx.out
          rw [bytesL_get (by omega)] at this
          simp at this
          rw [← this, two_pow_p256]
          rfl
        subst hxv
        have i0 : (0 : Int) < (X : Int) := by omega
        clear e hO I1
        have hcw := Wk.cell hcell
        have w1' : IntKind.i64.wrap (8 * (X : Int)) = 8 * (X : Int) := IntWalk.i64_in _ (by omega)
        have w2' : IntKind.i64.wrap ((X : Int) - 1) = (X : Int) - 1 := IntWalk.i64_in _ (by omega)
        have w3' : IntKind.i64.wrap (8 * ((X : Int) - 1)) = 8 * ((X : Int) - 1) := IntWalk.i64_in _ (by omega)
        have t1' : (8 * (X : Int)).toNat = 8 * X := by omega
        have t2' : (8 * ((X : Int) - 1)).toNat = 8 * (X - 1) := by omega
        have g1' : 0 ≤ 8 * (X : Int) := by omega
        have g2' : 0 ≤ 8 * ((X : Int) - 1) := by omega
        by_cases h8 : X = 8
        all_goals
          first
          | have e8 : ((X : Int) == 8) = true := by simp; omega
          | have e8 : ((X : Int) == 8) = false := by simp; omega
          clear h8
          go_wp2
          refine wp_region_wk (by kernel_rfl) (by kernel_rfl) ?_
          repeat (go_big_quiet_step ((go_at_call 8; exact Wk.call (sure_any _))))
          refine wpQuiet_nil ?_
          rintro w9 ⟨m9, rfl⟩
          have B9 := B1.trans (m9.bel.mono B1.size)
          clear B1
          go_wp2
          go_ret
          exact ⟨rfl, B9⟩
end Go.Proofs.Yteflagnkjjpjnaa
