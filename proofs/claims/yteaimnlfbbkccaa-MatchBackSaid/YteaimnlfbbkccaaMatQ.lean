/- Layer 10, pure: what follows of matches. -/
import Derived.Test.YteaimnlfbbkccaaMatP
namespace Go.Proofs.Yteaimnlfbbkccaa
open Go.RowKit
set_option linter.unusedVariables false
set_option maxRecDepth 100000

theorem is_all {L : List Ox9} (h : isMatch10 L = true) : L.all right10 = true ∧ (check9 L).2 = 0 := by
  unfold isMatch10 at h
  rw [Bool.and_eq_true] at h
  exact ⟨h.1, by simpa using h.2⟩
theorem head_parts {n : Nat} (hn : n ≤ 65535) (r : List Int) : numL ((head10 n ++ r).take 2) = 1 ∧ num10 (head10 n ++ r) = n := by
  have e1 : (bytesL 1 2).length = 2 := bytesL_length 1 2
  have e2 : (bytesL (n : Int) 2).length = 2 := bytesL_length _ 2
  constructor
  · unfold head10
    rw [List.append_assoc, List.take_append_of_le_length (by omega), List.take_of_length_le (by omega), numL_bytesL]
    rfl
  · unfold num10 head10
    rw [List.append_assoc, List.drop_append, e1, List.drop_of_length_le (by omega : (bytesL 1 2).length ≤ 2)]
    simp only [List.nil_append, List.append_nil, Nat.sub_self, List.drop_zero]
    rw [List.take_append_of_le_length (by omega), List.take_of_length_le (by omega), numL_bytesL]
    simp only [p256]
    omega
theorem match_eq (L : List Ox9) : match10 L = head10 (len10 L) ++ (body10 L ++ List.replicate (zeros10 (len10 L)) 0) := by
  unfold match10; rw [List.append_assoc]
theorem parts10 (hd B R b : List Int) {N : Nat} (h : hd.length + B.length = N) : (hd ++ (B ++ R ++ b)).take N = hd ++ B ∧ (hd ++ (B ++ R ++ b)).drop N = R ++ b := by
  have e : (hd ++ B).length = N := by rw [List.length_append, h]
  have s : hd ++ (B ++ R ++ b) = (hd ++ B) ++ (R ++ b) := by simp
  rw [s, ← e]
  exact ⟨List.take_left, List.drop_left⟩
/-- what was encoded is decoded, whatever is behind -/
theorem match_back {L : List Ox9} (h : isMatch10 L = true) (hX : ∀ o ∈ L, 0 ≤ o.X) (hl : len10 L ≤ 65528) (b : List Int) : matchL (match10 L ++ b) = .ok (L, (match10 L).length) ∧ HeadOk (match10 L ++ b) (len10 L) := by
  obtain ⟨ha, hc⟩ := is_all h
  have hlen := match10_length L
  have hp := head_parts (n := len10 L) (by omega) (body10 L ++ List.replicate (zeros10 (len10 L)) 0 ++ b)
  have hs : match10 L ++ b = head10 (len10 L) ++ (body10 L ++ List.replicate (zeros10 (len10 L)) 0 ++ b) := by rw [match_eq]; simp
  have h4 : 4 ≤ len10 L := by unfold len10; omega
  have hN := hp.2
  rw [← hs] at hp hN
  have hhl := head10_length (len10 L)
  have hok : HeadOk (match10 L ++ b) (len10 L) := ⟨hN, by rw [List.length_append, hlen]; omega, hp.1, h4, hl, by rw [List.length_append, hlen]; omega⟩
  have hpart := parts10 (head10 (len10 L)) (body10 L) (List.replicate (zeros10 (len10 L)) 0) b (N := len10 L) (by rw [hhl]; rfl)
  rw [← hs] at hpart
  have hbody : ((match10 L ++ b).take (len10 L)).drop 4 = body10 L := by
    rw [hpart.1, ← hhl, List.drop_left]
  have hz : ((match10 L ++ b).drop (len10 L)).take (zeros10 (len10 L)) = List.replicate (zeros10 (len10 L)) 0 := by
    rw [hpart.2, List.take_append_of_le_length (by simp)]
    simp
  have hv := vals_body ha hX
  refine ⟨?_, hok⟩
  rw [match_body hN hok.2.1 hp.1 h4 hl hok.2.2.2.2.2, hbody, hz]
  have hE : valE (body10 L) = 0 := by unfold valE; rw [hv]; simp [hc]
  rw [hE, if_neg (by simp), if_neg (by simp), hv, hlen]
/-- a byte less -/
theorem match_less {L : List Ox9} (hl : len10 L ≤ 65528) : matchL ((match10 L).take ((match10 L).length - 1)) = .error 1026 ∧ ∀ n, ¬ HeadOk ((match10 L).take ((match10 L).length - 1)) n := by
  have hlen := match10_length L
  have hp := head_parts (n := len10 L) (by omega) (body10 L ++ List.replicate (zeros10 (len10 L)) 0)
  rw [← match_eq] at hp
  have h8 := (match_pos L).1
  have h4 : 4 ≤ len10 L := by unfold len10; omega
  obtain ⟨M, hM⟩ : ∃ M, match10 L = M := ⟨_, rfl⟩
  rw [hM] at hp hlen h8 ⊢
  have hl2 : (M.take (M.length - 1)).length = M.length - 1 := by rw [List.length_take]; omega
  have e1 : (M.take (M.length - 1)).take 2 = M.take 2 := by rw [List.take_take, Nat.min_eq_left (by omega)]
  have e2 : num10 (M.take (M.length - 1)) = num10 M := by
    unfold num10
    rw [List.drop_take, List.take_take, Nat.min_eq_left (by omega)]
  constructor
  · refine match_long (n := len10 L) (by rw [hl2]; omega) (by rw [e1]; exact hp.1) (by rw [e2]; exact hp.2) (.inr (.inr ?_))
    rw [hl2, hlen]; omega
  · rintro n ⟨k1, k2, k3, k4, k5, k6⟩
    have : n = len10 L := by rw [e2, hp.2] at k1; omega
    subst this
    rw [hl2, hlen] at k6
    omega
/-- what is decoded is a match, and, encoded again, those bytes -/
theorem match_forth {b : List Int} {L : List Ox9} {n : Nat} (h : matchL b = .ok (L, n)) (ho : Octets b) : isMatch10 L = true ∧ match10 L = b.take n ∧ n ≤ b.length ∧ len10 L ≤ 65528 ∧ (∀ o ∈ L, 0 ≤ o.X) := by
  have hle := match_le h
  obtain ⟨N, hN, _⟩ := num10_two ho
  have h4 : 4 ≤ b.length ∧ numL (b.take 2) = 1 ∧ 4 ≤ N ∧ N ≤ 65528 ∧ N + zeros10 N ≤ b.length := by
    refine ⟨?_, ?_, ?_⟩
    · by_cases c : b.length < 4
      · rw [match_few c] at h; cases h
      · omega
    · by_cases c : b.length < 4
      · rw [match_few c] at h; cases h
      · by_cases c2 : numL (b.take 2) = 1
        · exact c2
        · rw [match_type c c2] at h; cases h
    · by_cases c : b.length < 4
      · rw [match_few c] at h; cases h
      · by_cases c2 : numL (b.take 2) = 1
        · by_cases c3 : N < 4 ∨ 65528 < N ∨ b.length < N + zeros10 N
          · rw [match_long c c2 hN c3] at h; cases h
          · omega
        · rw [match_type c c2] at h; cases h
  obtain ⟨k1, k2, k3, k4, k5⟩ := h4
  rw [match_body hN k1 k2 k3 k4 k5] at h
  obtain ⟨B, hB⟩ : ∃ B, (b.take N).drop 4 = B := ⟨_, rfl⟩
  rw [hB] at h
  by_cases hE : valE B = 0
  · rw [if_neg (by simp [hE])] at h
    by_cases hz : ((b.drop N).take (zeros10 N)).any (fun x => x != 0) = true
    · rw [if_pos hz] at h; cases h
    · rw [if_neg hz] at h
      simp only [Except.ok.injEq, Prod.mk.injEq] at h
      obtain ⟨rfl, rfl⟩ := h
      have hc : (check9 (vals10 B).1).2 = 0 ∧ (vals10 B).2 = 0 := by
        unfold valE at hE
        by_cases c : (check9 (vals10 B).1).2 = 0
        · rw [if_neg (by simp [c])] at hE; exact ⟨c, hE⟩
        · rw [if_pos c] at hE; exact absurd hE c
      have hoB : Octets B := by rw [← hB]; exact (ho.take N).drop 4
      obtain ⟨r1, r2, r3⟩ := vals_right _ B (Nat.le_refl _) hoB hc.2
      have hBl : B.length = N - 4 := by rw [← hB, List.length_drop, List.length_take]; omega
      have hlen : len10 (vals10 B).1 = N := by unfold len10; rw [r2, hBl]; omega
      refine ⟨?_, ?_, hle, by omega, r3⟩
      · unfold isMatch10; rw [r1, hc.1]; rfl
      · have hh : head10 N = b.take 4 := by
          have e1 : (b.take 2).length = 2 := by rw [List.length_take]; omega
          have e2 : ((b.drop 2).take 2).length = 2 := by rw [List.length_take, List.length_drop]; omega
          have f1 := bytesL_numL (ho.take 2)
          have f2 := bytesL_numL ((ho.drop 2).take 2)
          rw [e1, k2] at f1
          rw [e2] at f2
          have f3 : numL ((b.drop 2).take 2) = (N : Int) := hN
          rw [f3] at f2
          unfold head10
          rw [f1, f2, List.append_nil]
          have e4 := List.take_add (l := b) (i := 2) (j := 2)
          rw [e4]
        have hzz : (b.drop N).take (zeros10 N) = List.replicate (zeros10 N) 0 := by
          refine List.eq_replicate_iff.2 ⟨by rw [List.length_take, List.length_drop]; omega, fun x hx => ?_⟩
          by_cases hx0 : x = 0
          · exact hx0
          · exact absurd (List.any_eq_true.2 ⟨x, hx, by simpa using hx0⟩) hz
        unfold match10
        rw [hlen, r2, hh, ← hzz, ← hB]
        have e5 : b.take 4 ++ (b.take N).drop 4 = b.take N := by
          have e6 : b.take 4 = (b.take N).take 4 := by rw [List.take_take, Nat.min_eq_left (by omega)]
          rw [e6, List.take_append_drop]
        rw [e5]
        exact (List.take_add (l := b) (i := N) (j := zeros10 N)).symm
  · rw [if_pos hE] at h; cases h
/-- a front of a match is one -/
theorem match_front {L : List Ox9} (h : isMatch10 L = true) (k : Nat) : isMatch10 (L.take k) = true := by
  obtain ⟨ha, hc⟩ := is_all h
  have e : L.take k ++ L.drop k = L := List.take_append_drop k L
  unfold isMatch10
  have h1 : (L.take k).all right10 = true := by
    rw [← e, List.all_append, Bool.and_eq_true] at ha; exact ha.1
  have h2 : (check9 (L.take k)).2 = 0 := by
    rw [← e] at hc; exact check_front10 hc
  rw [h1, h2]; rfl
theorem body_front (L : List Ox9) (k : Nat) : body10 L = body10 (L.take k) ++ body10 (L.drop k) := by rw [← body_append10, List.take_append_drop]
theorem len_front (L : List Ox9) (k : Nat) : len10 (L.take k) ≤ len10 L := by unfold len10; rw [body_front L k, List.length_append]; omega
end Go.Proofs.Yteaimnlfbbkccaa
