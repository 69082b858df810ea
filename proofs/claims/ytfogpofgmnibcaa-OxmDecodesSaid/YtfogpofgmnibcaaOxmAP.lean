/- The document's values: what bytes are as a value, where all is well (pure); and a slice in new memory. -/
import Derived.Test.YtfogpofgmnibcaaOxmAA
namespace Go.Proofs.Ytfogpofgmnibcaa
open Go.RowKit
set_option linter.unusedVariables false

theorem fld_z1 {n : Int} (h : 0 ≤ n ∧ n < 40) : 1 ≤ (fld n).z := by
  rcases forty h with rfl | rfl | rfl | rfl | rfl | rfl | rfl | rfl | rfl | rfl | rfl | rfl | rfl | rfl | rfl | rfl | rfl | rfl | rfl | rfl | rfl | rfl | rfl | rfl | rfl | rfl | rfl | rfl | rfl | rfl | rfl | rfl | rfl | rfl | rfl | rfl | rfl | rfl | rfl | rfl <;> decide
theorem fresh_new8 {e : TypeId} {w w' : World} {a : Option Addr} {n c : Nat} {xs : List Value} (h : Fresh e w w' (.slice a n c) xs) : New8 w a := fun q hq => h.new q.block (by subst hq; rfl)
theorem BoxL.pre6 {w : World} {b : Nat} {u0 u1 u2 u3 u4 u5 : Value} (h : BoxL w b [u0, u1, u2, u3, u4, u5]) (v0 v1 v2 v3 v4 v5 : Value) :
    (w.setCell ⟨b, 0, none⟩ v0).cell? ⟨b, 0, none⟩ = some v0 ∧ ((w.setCell ⟨b, 0, none⟩ v0).setCell ⟨b, 1, none⟩ v1).cell? ⟨b, 1, none⟩ = some v1 ∧ (((w.setCell ⟨b, 0, none⟩ v0).setCell ⟨b, 1, none⟩ v1).setCell ⟨b, 2, none⟩ v2).cell? ⟨b, 2, none⟩ = some v2 ∧ ((((w.setCell ⟨b, 0, none⟩ v0).setCell ⟨b, 1, none⟩ v1).setCell ⟨b, 2, none⟩ v2).setCell ⟨b, 3, none⟩ v3).cell? ⟨b, 3, none⟩ = some v3 ∧ (((((w.setCell ⟨b, 0, none⟩ v0).setCell ⟨b, 1, none⟩ v1).setCell ⟨b, 2, none⟩ v2).setCell ⟨b, 3, none⟩ v3).setCell ⟨b, 4, none⟩ v4).cell? ⟨b, 4, none⟩ = some v4 ∧ ((((((w.setCell ⟨b, 0, none⟩ v0).setCell ⟨b, 1, none⟩ v1).setCell ⟨b, 2, none⟩ v2).setCell ⟨b, 3, none⟩ v3).setCell ⟨b, 4, none⟩ v4).setCell ⟨b, 5, none⟩ v5).cell? ⟨b, 5, none⟩ = some v5 := by
  have h0 := h.set 0 v0 (by simp)
  have h1 := h0.set 1 v1 (by simp)
  have h2 := h1.set 2 v2 (by simp)
  have h3 := h2.set 3 v3 (by simp)
  have h4 := h3.set 4 v4 (by simp)
  have h5 := h4.set 5 v5 (by simp)
  exact ⟨h0.cell 0 _ rfl, h1.cell 1 _ rfl, h2.cell 2 _ rfl, h3.cell 3 _ rfl, h4.cell 4 _ rfl, h5.cell 5 _ rfl⟩
theorem rest8_eq (b : List Int) : rest8 b = b.drop 4 := by simp [rest8, List.drop_drop]
theorem dec_body8 {b : List Int} (h4 : 4 ≤ b.length) (h : headE (cls8 b) (fld8 b / 2) (oddB (fld8 b)) (len8 b) = 0) {C F X : Int} {H : Bool} {v m : List Int} {N : Nat} (hs : ¬ (b.length : Int) < 4 + N) (hC : cls8 b = C) (hF : fld8 b / 2 = F) (hH : oddB (fld8 b) = H) (hN : len8 b = N) (hX : exp8 b = X) (hv : val8 b = v) (hm : mask8 b = m) :
    decL b = if bytesE C F H v m = 0 then .ok ⟨C, F, H, X, v, m, 4 + N⟩ else .error (bytesE C F H v m) := by
  have h' : ¬ headE (cls8 b) (fld8 b / 2) (oddB (fld8 b)) (len8 b) ≠ 0 := by simpa using h
  have hr : ¬ (rest8 b).length < (len8 b).toNat := by rw [rest8_eq, List.length_drop, hN]; omega
  unfold decL rawL
  rw [if_neg (by omega), if_neg h', if_neg hr, hC, hF, hH, hN, hX, hv, hm, Int.toNat_natCast]
theorem at_basic {b : List Int} {N : Nat} (hC : cls8 b = 32768) (hN : len8 b = N) : exp8 b = 0 ∧ body8 b = b.drop 4 ∧ both8 b = N := by
  have e : ¬ cls8 b = 65535 := by rw [hC]; decide
  refine ⟨by rw [exp8, if_neg e], by rw [body8, if_neg e, rest8_eq], by rw [both8, if_neg e, hN]; rfl⟩
theorem at_extra {b : List Int} {M : Nat} (hC : cls8 b = 65535) (hN : len8 b = ((M + 4 : Nat) : Int)) : exp8 b = numL ((b.drop 4).take 4) ∧ body8 b = b.drop 8 ∧ both8 b = M := by
  refine ⟨by rw [exp8, if_pos hC, rest8_eq], by rw [body8, if_pos hC, rest8_eq, List.drop_drop], by rw [both8, if_pos hC, hN]; omega⟩
theorem val_one {b : List Int} {K n : Nat} (hb : body8 b = b.drop K) (hn : both8 b = n) (hH : oddB (fld8 b) = false) : val8 b = (b.drop K).take n ∧ mask8 b = [] := by
  refine ⟨by rw [val8, hH, hb, hn]; simp [pieces8], by rw [mask8, hH]; rfl⟩
theorem val_two {b : List Int} {K n q : Nat} (hb : body8 b = b.drop K) (hn : both8 b = n) (hq : n = 2 * q) (hH : oddB (fld8 b) = true) : val8 b = (b.drop K).take q ∧ mask8 b = (b.drop (K + q)).take q := by
  have e : n / 2 = q := by omega
  refine ⟨by rw [val8, hH, hb, hn]; simp [pieces8, e], by rw [mask8, hH, hb, hn, if_pos rfl, e, List.drop_drop]⟩
end Go.Proofs.Ytfogpofgmnibcaa
