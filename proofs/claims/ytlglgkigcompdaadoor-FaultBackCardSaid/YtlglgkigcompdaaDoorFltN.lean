/- The three laws' walks. -/
import Derived.Test.YtlglgkigcompdaaDoorFltM
namespace Go.Proofs.YtlglgkigcompdaaDoor
open Go.RowKit Go.Shelf

theorem FaultPairs_walk (t c e : Int) (h0 : -9223372036854775808 ≤ e) (h1 : e ≤ 9223372036854775807) (w : World) (hL : Laid w) :
    Calls Tryd.prog 3 #[.int .i64 t, .int .i64 c, .int .i64 e] w fun x w' => x = .returned (.bool true) ∧ Below w.heap.size w w' := by
  have M1 := make_any t c w
  have M2 := fun W => refMake_any t c W
  have P1 := fun W => pair_any e h0 h1 W
  have P2 := fun W => refPair_any e W
  have C1 := fun W => codes_any t W
  have C2 := fun W => refCodes_any t W
  obtain ⟨a, ha⟩ : ∃ a, makeL t c = a := ⟨_, rfl⟩
  obtain ⟨b, hb⟩ : ∃ b, madeL t c = b := ⟨_, rfl⟩
  obtain ⟨p, hp⟩ : ∃ p, pairT e = p := ⟨_, rfl⟩
  obtain ⟨q, hq⟩ : ∃ q, pairC e = q := ⟨_, rfl⟩
  obtain ⟨r, hr⟩ : ∃ r, pairB e = r := ⟨_, rfl⟩
  obtain ⟨k, hk⟩ : ∃ k, codesL t = k := ⟨_, rfl⟩
  rw [ha, hb] at M1 M2
  rw [hp, hq, hr] at P1 P2
  rw [hk] at C1 C2
  have M1 := hid M1
  have M2 := hid M2
  have P1 := hid P1
  have P2 := hid P2
  have C1 := hid C1
  have C2 := hid C2
  clear ha hb hp hq hr hk
  go_enter Tryd.func3, Tryd.ntmps3
  go_wp2_with fail
  refine M1.out.mono ?_
  rintro x w' ⟨rfl, rfl⟩
  go_wp2_with fail
  refine (M2.out _).mono ?_
  rintro x w1 ⟨rfl, hb1⟩
  go_wp2_with fail
  refine (P1.out _).mono ?_
  rintro x w' ⟨rfl, rfl⟩
  go_wp2_with fail
  refine (P2.out _).mono ?_
  rintro x w2 ⟨rfl, hb2⟩
  have hb3 := hb1.trans (hb2.mono hb1.size)
  clear hb1 hb2
  go_wp2_with fail
  refine (C1.out _).mono ?_
  rintro x w' ⟨rfl, rfl⟩
  go_wp2_with fail
  refine (C2.out _).mono ?_
  rintro x w3 ⟨rfl, hb4⟩
  have hb5 := hb3.trans (hb4.mono hb3.size)
  clear hb3 hb4
  have hL5 := hL.below hb5
  go_wp2_with fail
  refine (sure5_any _ hL5).mono ?_
  rintro x w4 ⟨rfl, hb6⟩
  go_wp2_with fail
  go_ret
  exact ⟨rfl, hb5.trans (hb6.mono hb5.size)⟩

theorem FaultNames_walk (e : Int) (s : ByteArray) (h0 : -9223372036854775808 ≤ e) (h1 : e ≤ 9223372036854775807) (w : World) (hL : Laid w) :
    Calls Tryd.prog 4 #[.int .i64 e, .string s] w fun x w' => x = .returned (.bool true) ∧ Below w.heap.size w w' := by
  by_cases hs : 100 < s.size
  · go_enter Tryd.func4, Tryd.ntmps4
    have hs2 : (100 : Int) < (s.size : Int) := by omega
    go_wp2_with fail
    refine (sure5_any _ hL).mono ?_
    rintro x w1 ⟨rfl, hb1⟩
    go_wp2_with fail
    go_ret
    exact ⟨rfl, hb1⟩
  · have R1 := read_any s (by omega) w hL
    have R2 := fun W => refRead_any s W
    obtain ⟨r1, r2⟩ := readC_readO s
    rw [r1, r2] at R2
    have N1 := fun W h => name_any e h0 h1 W h
    have N2 := fun W => refName_any e h0 h1 W
    obtain ⟨a, ha⟩ : ∃ a, (readC s).1 = a := ⟨_, rfl⟩
    obtain ⟨b, hb⟩ : ∃ b, (readC s).2 = b := ⟨_, rfl⟩
    obtain ⟨n, hn⟩ : ∃ n, nameS e = n := ⟨_, rfl⟩
    rw [ha, hb] at R1 R2
    rw [hn] at N1 N2
    have R1 := hid R1
    have R2 := hid R2
    have N1 := hid N1
    have N2 := hid N2
    clear ha hb hn r1 r2
    have hs2 : ¬ (100 : Int) < (s.size : Int) := by omega
    go_enter Tryd.func4, Tryd.ntmps4
    go_wp2_with fail
    refine R1.out.mono ?_
    rintro x w1 ⟨rfl, hb1⟩
    go_wp2_with fail
    refine (R2.out _).mono ?_
    rintro x w2 ⟨rfl, hb2⟩
    have hb3 := hb1.trans (hb2.mono hb1.size)
    have hL3 := hL.below hb3
    clear hb1 hb2
    go_wp2_with fail
    refine (N1.out _ hL3).mono ?_
    rintro x w3 ⟨rfl, hb4⟩
    have hb5 := hb3.trans (hb4.mono hb3.size)
    clear hb3 hb4 hL3
    go_wp2_with fail
    refine (N2.out _).mono ?_
    rintro x w4 ⟨rfl, hb6⟩
    have hb7 := hb5.trans (hb6.mono hb5.size)
    have hL7 := hL.below hb7
    clear hb5 hb6
    go_wp2_with fail
    refine (sure5_any _ hL7).mono ?_
    rintro x w5 ⟨rfl, hb8⟩
    go_wp2_with fail
    go_ret
    exact ⟨rfl, hb7.trans (hb8.mono hb7.size)⟩
end Go.Proofs.YtlglgkigcompdaaDoor
