/- Package tlv: One, at all bytes. -/
import Derived.Test.YtfdkkcndadjcaaaTlvD
namespace Go.Proofs.Ytfdkkcndadjcaaa
open Go.RowKit

theorem drop4_ints {k : IntKind} {w : World} {M off c : Nat} {b : List Int} (h : Ints k w (some ⟨M, off, none⟩) b) (hb : b.length ≤ c) : Ints k w (if c = 4 then some (⟨M, off, none⟩ : Addr) else some ⟨M, off + 4, none⟩) (b.drop 4) := h.drop hb

theorem head_bounds {b : List Int} (ho : Octets b) : ∃ n : Nat, numL ((b.drop 2).take 2) = n ∧ n ≤ 65535 := by
  have h := numL_snoc_bound ((ho.drop 2).take 2)
  have h2 : p256 ((b.drop 2).take 2).length ≤ p256 2 := p256_mono (by rw [List.length_take]; omega)
  have h3 : p256 2 = 65536 := by decide
  exact ⟨(numL ((b.drop 2).take 2)).toNat, by omega, by omega⟩

theorem one_any (w : World) (L S : Nat) (P : Bool) (B O : Int) (h : MayS L S B O) (b : List Int) (a : Option Addr) (c : Nat) (hH : Holds w a c b) :
    Calls Try.prog 7 #[.agg #[.int .i64 L, .int .i64 S, .bool P, .int .i64 B, .int .i64 O], .slice a b.length c] w (OnePost w (oneL L S P B O b)) := by
  obtain ⟨m1, m2, m3, m4, m5, m6⟩ := h
  have h := And.intro m1 (And.intro m2 (And.intro m3 (And.intro m4 (And.intro m5 m6))))
  change MayS L S B O at h
  unfold oneL
  split
  · rename_i h4
    exact one_head w L S P B O h a b.length c B m5 (fun w1 hb1 => readHead_short w1 L S P B O (by omega) (by omega) m5 b a c hH.cap (hH.ints.below hb1) hH.oct h4)
  · rename_i h4
    obtain ⟨n, hn, hn65⟩ := head_bounds hH.oct
    rw [hn, Int.toNat_natCast]
    obtain ⟨M, off, rfl⟩ := hH.shape (by have := hH.cap; omega)
    split
    · rename_i hlen
      exact one_head w L S P B O h _ b.length c B m5 (fun w1 hb1 => readHead_wrong w1 L S P B O (by omega) b _ c hH.cap hH.max (hH.ints.below hb1) hH.oct (by omega) n hn hlen)
    · rename_i hlen
      have hok : lenOk L S P n = true := by simpa using hlen
      have hLn : L ≤ n := by unfold lenOk at hok; simp at hok; exact hok.1
      obtain ⟨z, hz⟩ : ∃ z, z = zer S P n := ⟨_, rfl⟩
      have hz64 : z ≤ 64 := by have := zer_lt (S := S) (by omega) P n; omega
      rw [← hz]
      have hd := hH.ints.drop (j := 4) hH.cap
      have hdo := hH.oct.drop 4
      have hdl : (b.drop 4).length = b.length - 4 := List.length_drop
      have hcap := hH.cap
      have hmax := hH.max
      have hHead := fun w1 (hb1 : Below w.heap.size w w1) => readHead_ok w1 L S P B O (by omega) b (some ⟨M, off, none⟩) c hH.cap hH.max (hH.ints.below hb1) hH.oct (by omega) n hn hok
      split
      · rename_i hs
        refine one_body_bad w L S P B O h M off b.length c (by omega) hH.cap hH.max _ n z hz.symm hz64 (by omega) (by omega) B m5 hHead (fun w1 hb1 => ?_)
        have := readBody_short w1 L S P B O m5 (b.drop 4) _ (c - 4) (n - 4) z hz64 (by omega) (by omega) (hd.below hb1) hdo (by omega) (by omega)
        rwa [hdl] at this
      · rename_i hs
        split
        · rename_i hzz
          rcases Nat.eq_zero_or_pos z with h0 | h0
          · subst h0; simp [zeros] at hzz
          · refine one_body_bad w L S P B O h M off b.length c (by omega) hH.cap hH.max _ n z hz.symm hz64 (by omega) (by omega) O m6 hHead (fun w1 hb1 => ?_)
            have := readBody_zeros w1 L S P B O (b.drop 4) _ (c - 4) (n - 4) z h0 hz64 (by omega) (by omega) (hd.below hb1) hdo (by omega) (by omega) false (by rw [List.drop_drop, show 4 + (n - 4) = n by omega]; exact hzz)
            rw [hdl] at this
            exact this
        · rename_i hzz
          refine one_body_ok w L S P B O h M off b.length c (by omega) hH.cap hH.max _ n z hz.symm hz64 (by omega) (by omega) ((b.drop 4).take (n - 4)) (by rw [List.length_take]; omega) hHead (fun w1 hb1 => ?_)
          rcases Nat.eq_zero_or_pos z with h0 | h0
          · subst h0
            have := readBody_plain w1 L S P B O (b.drop 4) _ (c - 4) (n - 4) (by omega) (hd.below hb1) hdo (by omega) (by omega)
            rw [hdl] at this
            exact this
          · have := readBody_zeros w1 L S P B O (b.drop 4) _ (c - 4) (n - 4) z h0 hz64 (by omega) (by omega) (hd.below hb1) hdo (by omega) (by omega) true (by rw [List.drop_drop, show 4 + (n - 4) = n by omega]; simpa using hzz)
            rw [hdl] at this
            exact this
end Go.Proofs.Ytfdkkcndadjcaaa
