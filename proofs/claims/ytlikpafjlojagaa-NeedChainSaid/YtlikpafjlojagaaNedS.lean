/- The document's Missing. -/
import Derived.Test.YtlikpafjlojagaaNedR
namespace Go.Proofs.Ytlikpafjlojagaa
open Go.RowKit
set_option linter.unusedVariables false

set_option maxRecDepth 100000 in
set_option maxHeartbeats 4000000 in
theorem refMissing_any (l : List Ent9) (a : Option Addr) (c : Nat) (w : World) (hL : L9 w a l) :
    Calls Try.prog 14 #[.slice a l.length c] w fun e w' => ∃ v, e = .returned v ∧ Fresh 3 w w' v ((missing9 (l.map Ent9.o)).map (Value.int .i64)) := by
  obtain ⟨Z, hZ⟩ : ∃ Z, missing9 (l.map Ent9.o) = Z := ⟨_, rfl⟩
  rw [hZ]
  have HZ := hid hZ
  have HL := hid hL
  have hll : l.length ≤ 60 := hL.len
  clear hZ hL
  go_enter Try.func14, Try.ntmps14
  go_wp2_with fail
  go_loopg [3, 4] 40 (fun kx s3 s4 wq => ∃ (n : Nat) (v : Value), s3 = v ∧ s4 = .int .i64 n ∧ n ≤ 40 ∧ 40 - n ≤ kx ∧ Hid (Fresh 3 w wq v ((miss9 (l.map Ent9.o) n).map (Value.int .i64))))
  case atStart => exact ⟨0, _, rfl, rfl, by omega, by omega, ⟨own_nilI _ _ .i64, Below.refl _ _, fun g hg => by simp [Value.ownBlock] at hg⟩⟩
  case round =>
    obtain ⟨n, v, rfl, rfl, hn, hkn, hF⟩ := hrel
    obtain ⟨w0, hw0⟩ : ∃ x, x = wr := ⟨_, rfl⟩
    subst hw0
    by_cases hl40 : n < 40
    · have hl40z : (n : Int) < (40 : Int) := by omega
      go_wp2_with fail
      go_loopg [5, 6, 7] (l.length) (fun kx s5 s6 s7 wq => ∃ (i : Nat) (hs ask : Bool), s5 = .bool hs ∧ s6 = .bool ask ∧ s7 = .int .i64 i ∧ i ≤ l.length ∧ l.length - i ≤ kx ∧ Hid (hs = has9 ((l.map Ent9.o).take i) n) ∧ Hid (ask = asked9 ((l.map Ent9.o).take i) n) ∧ Hid (Below w0.heap.size w0 wq))
      case atStart => exact ⟨0, false, false, rfl, rfl, rfl, by omega, by omega, rfl, rfl, Below.refl _ _⟩
      case round =>
        obtain ⟨i, hs, ask, rfl, rfl, rfl, hi, hki, hHs, hAs, hb⟩ := hrel
        obtain ⟨w1, hw1⟩ : ∃ x, x = wr := ⟨_, rfl⟩
        subst hw1
        by_cases hlt : i < l.length
        · have hltz : (i : Int) < (l.length : Int) := by omega
          obtain ⟨b, off, rfl, c0, c1, _, _, _, _⟩ := (HL.out.below (below_on hF.out.bel hb.out)).ox i hlt
          have hget : (l.map Ent9.o)[i]? = some l[i].o := by simp [hlt]
          generalize l[i] = h at c0 c1 hget
          have HHM := hid (has_more hget (n : Int))
          have HAM := hid (asked_more hget (n : Int))
          clear hget
          by_cases hC : h.o.C = 32768
          · have hc1 : (h.o.C != 32768) = false := by simp [hC]
            have HC := hid (show (h.o.C == 32768) = true by simp [hC])
            clear hC
            have h10 := needL_few h.o.F
            cases hs
            · go_upto_region 11 with fail
              have HSB : Hid ((h.o.F == (n : Int)) = has9 ((l.map Ent9.o).take (i + 1)) n) := by show _ = _; rw [HHM.out, HC.out, ← hHs.out]; simp
              go_wp2_with fail
              refine ((need_any h.o.F).2 w1).mono ?_
              rintro e w8 ⟨v8, rfl, hF8⟩
              obtain ⟨a8, c8, rfl, _, _, hI8⟩ := own_ints hF8.own
              have HI8 := hid hI8
              have HB8 := hid (below_on hb.out hF8.bel)
              clear hI8 hF8 c0 c1
              go_wp2_with fail
              go_loopg [6, 9] ((needL h.o.F).length) (fun kx s6 s9 wq => wq = w8 ∧ ∃ (k : Nat) (ask2 : Bool), s6 = .bool ask2 ∧ s9 = .int .i64 k ∧ k ≤ (needL h.o.F).length ∧ (needL h.o.F).length - k ≤ kx ∧ Hid (ask2 = (ask || ((needL h.o.F).take k).contains (n : Int))))
              case atStart => exact ⟨rfl, 0, ask, rfl, rfl, by omega, by omega, (by show _ = _; simp)⟩
              case round =>
                obtain ⟨rfl, k, ask2, rfl, rfl, hk, hkk, hA2⟩ := hrel
                by_cases hkl : k < (needL h.o.F).length
                · have hkz : (k : Int) < ((needL h.o.F).length : Int) := by omega
                  obtain ⟨b9, o9, y, ha9, hc9, hy⟩ := HI8.out.at hkl
                  have HY := hid hy.out
                  subst ha9
                  clear hy
                  have HN : Hid ((ask2 || y == (n : Int)) = (ask || ((needL h.o.F).take (k + 1)).contains (n : Int))) := by
                    show _ = _
                    rw [hA2.out, List.take_add_one, HY.out, Option.toList_some, List.contains_append, show (y == (n : Int)) = [y].contains (n : Int) by rw [Bool.eq_iff_iff]; simp only [List.contains_cons, List.contains_nil, Bool.or_false, beq_iff_eq]; exact eq_comm, Bool.or_assoc]
                  cases ask2
                  · go_wp2_with fail
                    go_roundg ((needL h.o.F).length - (k + 1))
                    case measure => omega
                    case rel => exact ⟨rfl, k + 1, _, rfl, by first | rfl | go_num, by omega, Nat.le_refl _, HN.out⟩
                  · go_wp2_with fail
                    go_roundg ((needL h.o.F).length - (k + 1))
                    case measure => omega
                    case rel => exact ⟨rfl, k + 1, _, rfl, by first | rfl | go_num, by omega, Nat.le_refl _, HN.out⟩
                · have hkz : ¬ (k : Int) < ((needL h.o.F).length : Int) := by omega
                  have h2 := hA2.out
                  rw [List.take_of_length_le (by omega)] at h2
                  have H2 := hid h2
                  clear h2
                  go_wp2_with fail
                  go_roundg (l.length - (i + 1))
                  case measure => omega
                  case rel => exact ⟨i + 1, _, _, rfl, rfl, by first | rfl | go_num, by omega, Nat.le_refl _, HSB.out, (by show _ = _; rw [H2.out, HAM.out, HC.out, ← hAs.out]; simp), HB8.out⟩
            · go_upto_region 11 with fail
              have HSB : Hid (true = has9 ((l.map Ent9.o).take (i + 1)) n) := by show _ = _; rw [HHM.out, HC.out, ← hHs.out]; simp
              go_wp2_with fail
              refine ((need_any h.o.F).2 w1).mono ?_
              rintro e w8 ⟨v8, rfl, hF8⟩
              obtain ⟨a8, c8, rfl, _, _, hI8⟩ := own_ints hF8.own
              have HI8 := hid hI8
              have HB8 := hid (below_on hb.out hF8.bel)
              clear hI8 hF8 c0 c1
              go_wp2_with fail
              go_loopg [6, 9] ((needL h.o.F).length) (fun kx s6 s9 wq => wq = w8 ∧ ∃ (k : Nat) (ask2 : Bool), s6 = .bool ask2 ∧ s9 = .int .i64 k ∧ k ≤ (needL h.o.F).length ∧ (needL h.o.F).length - k ≤ kx ∧ Hid (ask2 = (ask || ((needL h.o.F).take k).contains (n : Int))))
              case atStart => exact ⟨rfl, 0, ask, rfl, rfl, by omega, by omega, (by show _ = _; simp)⟩
              case round =>
                obtain ⟨rfl, k, ask2, rfl, rfl, hk, hkk, hA2⟩ := hrel
                by_cases hkl : k < (needL h.o.F).length
                · have hkz : (k : Int) < ((needL h.o.F).length : Int) := by omega
                  obtain ⟨b9, o9, y, ha9, hc9, hy⟩ := HI8.out.at hkl
                  have HY := hid hy.out
                  subst ha9
                  clear hy
                  have HN : Hid ((ask2 || y == (n : Int)) = (ask || ((needL h.o.F).take (k + 1)).contains (n : Int))) := by
                    show _ = _
                    rw [hA2.out, List.take_add_one, HY.out, Option.toList_some, List.contains_append, show (y == (n : Int)) = [y].contains (n : Int) by rw [Bool.eq_iff_iff]; simp only [List.contains_cons, List.contains_nil, Bool.or_false, beq_iff_eq]; exact eq_comm, Bool.or_assoc]
                  cases ask2
                  · go_wp2_with fail
                    go_roundg ((needL h.o.F).length - (k + 1))
                    case measure => omega
                    case rel => exact ⟨rfl, k + 1, _, rfl, by first | rfl | go_num, by omega, Nat.le_refl _, HN.out⟩
                  · go_wp2_with fail
                    go_roundg ((needL h.o.F).length - (k + 1))
                    case measure => omega
                    case rel => exact ⟨rfl, k + 1, _, rfl, by first | rfl | go_num, by omega, Nat.le_refl _, HN.out⟩
                · have hkz : ¬ (k : Int) < ((needL h.o.F).length : Int) := by omega
                  have h2 := hA2.out
                  rw [List.take_of_length_le (by omega)] at h2
                  have H2 := hid h2
                  clear h2
                  go_wp2_with fail
                  go_roundg (l.length - (i + 1))
                  case measure => omega
                  case rel => exact ⟨i + 1, _, _, rfl, rfl, by first | rfl | go_num, by omega, Nat.le_refl _, HSB.out, (by show _ = _; rw [H2.out, HAM.out, HC.out, ← hAs.out]; simp), HB8.out⟩
          · have hc1 : (h.o.C != 32768) = true := by simpa using hC
            have HC := hid (show (h.o.C == 32768) = false by simpa using hC)
            clear hC
            go_wp2_with fail
            go_roundg (l.length - (i + 1))
            case measure => omega
            case rel => exact ⟨i + 1, hs, ask, rfl, rfl, by first | rfl | go_num, by omega, Nat.le_refl _, (by show _ = _; rw [HHM.out, HC.out, ← hHs.out]; simp), (by show _ = _; rw [HAM.out, HC.out, ← hAs.out]; simp), hb.out⟩
        · have hltz : ¬ (i : Int) < (l.length : Int) := by omega
          have h1 := hHs.out
          have h2 := hAs.out
          rw [List.take_of_length_le (by rw [List.length_map]; omega)] at h1 h2
          have H1 := hid h1
          have H2 := hid h2
          have HMO := hid (miss9_more (l.map Ent9.o) n)
          have hfew := miss9_few (l.map Ent9.o) n
          have HF1 := hid (hF.out.behind (below_by_none hb.out))
          clear h1 h2
          cases ask
          · go_wp2_with fail
            go_roundg (40 - (n + 1))
            case measure => omega
            case rel => exact ⟨n + 1, _, rfl, by first | rfl | go_num, by omega, Nat.le_refl _, by have := HF1.out; rw [HMO.out, ← H2.out]; simpa [Hid] using this⟩
          · cases hs
            · have hP : Hid (miss9 (l.map Ent9.o) n ++ [(n : Int)] = miss9 (l.map Ent9.o) (n + 1)) := by show _ = _; rw [HMO.out, ← H1.out, ← H2.out]; rfl
              have hfew2 := miss9_few (l.map Ent9.o) (n + 1)
              have hF2 := HF1.out.behind (by_none_alloc w1 (.cells #[.int .i64 (n : Int)] 3))
              clear hfew
              go_wp2_with (at_builtin; refine wp_app_ints rfl (.tmp 62) (.tmp 64) rfl elemNeed rfl hF2.own rfl rfl (ints_one .i64 w1 _ 3) hP.out ?_ ?_ ?_; omega; omega; intro a3 c3 w3 hl3 hc3 hI3 hg3; have HG3 := hid (hF2.step hg3); clear hI3 hg3)
              go_roundg (40 - (n + 1))
              case measure => omega
              case rel => exact ⟨n + 1, _, rfl, by first | rfl | go_num, by omega, Nat.le_refl _, HG3.out⟩
            · go_wp2_with fail
              go_roundg (40 - (n + 1))
              case measure => omega
              case rel => exact ⟨n + 1, _, rfl, by first | rfl | go_num, by omega, Nat.le_refl _, by have := HF1.out; rw [HMO.out, ← H1.out, ← H2.out]; simpa [Hid] using this⟩
    · have hl40z : ¬ (n : Int) < (40 : Int) := by omega
      obtain rfl : n = 40 := by omega
      go_wp2_with fail
      have hz : miss9 (l.map Ent9.o) 40 = Z := HZ.out
      have hFF := hF.out
      rw [hz] at hFF
      exact bodyPost_ret (by simp [results, Try.results14, go_sem]) rfl ⟨_, rfl, hFF⟩
end Go.Proofs.Ytlikpafjlojagaa
