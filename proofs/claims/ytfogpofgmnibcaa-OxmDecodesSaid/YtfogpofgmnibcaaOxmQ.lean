/- Package oxm: what bytes are as a value, or the error; a value read, by that. -/
import Derived.Test.YtfogpofgmnibcaaOxmP
import Derived.Test.YtfogpofgmnibcaaOxmF
namespace Go.Proofs.Ytfogpofgmnibcaa
open Go.RowKit
set_option linter.unusedVariables false

/-- a field with its value, and how many bytes it has -/
structure Oxm8 where
  C : Int
  F : Int
  H : Bool
  X : Int
  v : List Int
  m : List Int
  n : Nat
def cls8 (b : List Int) : Int := numL (b.take 2)
def fld8 (b : List Int) : Int := numL ((b.drop 2).take 1)
def len8 (b : List Int) : Int := numL (((b.drop 2).drop 1).take 1)
def rest8 (b : List Int) : List Int := ((b.drop 2).drop 1).drop 1
/-- the bytes behind what tells whose it is -/
def body8 (b : List Int) : List Int := if cls8 b = 65535 then (rest8 b).drop 4 else rest8 b
def exp8 (b : List Int) : Int := if cls8 b = 65535 then numL ((rest8 b).take 4) else 0
/-- how many bytes Value and Mask have -/
def both8 (b : List Int) : Nat := if cls8 b = 65535 then (len8 b).toNat - 4 else (len8 b).toNat
def val8 (b : List Int) : List Int := (body8 b).take (both8 b / pieces8 (oddB (fld8 b)))
def mask8 (b : List Int) : List Int := if oddB (fld8 b) then ((body8 b).drop (both8 b / 2)).take (both8 b / 2) else []
/-- a value as it stands, its bytes not looked at; or the error -/
def rawL (b : List Int) : Except Int Oxm8 :=
  if b.length < 4 then .error 1026
  else if headE (cls8 b) (fld8 b / 2) (oddB (fld8 b)) (len8 b) ≠ 0 then .error (headE (cls8 b) (fld8 b / 2) (oddB (fld8 b)) (len8 b))
  else if (rest8 b).length < (len8 b).toNat then .error 1026
  else .ok ⟨cls8 b, fld8 b / 2, oddB (fld8 b), exp8 b, val8 b, mask8 b, 4 + (len8 b).toNat⟩
/-- a value; or the error -/
def decL (b : List Int) : Except Int Oxm8 :=
  match rawL b with
  | .error q => .error q
  | .ok o => if bytesE o.C o.F o.H o.v o.m = 0 then .ok o else .error (bytesE o.C o.F o.H o.v o.m)

/-- what reading comes to -/
def ReadPost (R : Except Int Oxm8) (w : World) (g M : Nat) (e : Ending) (w' : World) : Prop :=
  (∃ q, R = .error q ∧ q ≠ 0 ∧ ReadNone w g M 1026 1026 q e w') ∨ (∃ o, R = .ok o ∧ ReadGood w g M o.C o.F o.H o.X o.v o.m o.n 1026 1026 e w')

theorem head_basic {F n : Int} {H : Bool} (h : headE 32768 F H n = 0) : (0 ≤ F ∧ F < 40) ∧ n = ((fld F).z : Int) * pieces8 H ∧ (H = true → (fld F).m = true) := by
  unfold headE at h
  simp only [if_true] at h
  by_cases hF : 0 ≤ F ∧ F < 40
  · by_cases hM : (H && !(fld F).m) = true
    · simp [hF, hM] at h
    · by_cases hn : n = ((fld F).z : Int) * pieces8 H
      · exact ⟨hF, hn, fun hh => by subst hh; simpa using hM⟩
      · simp [hF, hM, hn] at h
  · simp [hF] at h
theorem head_extra {F n : Int} {H : Bool} (h : headE 65535 F H n = 0) : 0 ≤ n - 4 ∧ (n - 4) % (pieces8 H : Int) = 0 ∧ n - 4 ≤ 100 * (pieces8 H : Int) := by
  unfold headE at h
  have e : ¬ (65535 : Int) = 32768 := by decide
  simp only [if_neg e, if_true] at h
  by_cases hh : n - 4 < 0 ∨ (n - 4) % (pieces8 H : Int) ≠ 0 ∨ 100 * (pieces8 H : Int) < n - 4
  · rw [if_pos hh] at h; simp at h
  · refine ⟨by omega, ?_, by omega⟩
    by_cases h2 : (n - 4) % (pieces8 H : Int) = 0
    · exact h2
    · exact absurd (.inr (.inl h2)) hh
theorem head_cls {C F n : Int} {H : Bool} (h : headE C F H n = 0) : C = 32768 ∨ C = 65535 := by
  by_cases h1 : C = 32768
  · exact .inl h1
  · by_cases h2 : C = 65535
    · exact .inr h2
    · simp [headE, h1, h2] at h

theorem read8_any {w : World} {g M : Nat} {l : List Int} (h : Cur w g M l 0 1026 1026 0) (hM : M < w.heap.size) :
    Calls Try.prog 37 #[.pointer (some ⟨g, 0, none⟩)] w (ReadPost (rawL l) w g M) := by
  have oct := h.oct
  by_cases hl : l.length < 4
  · refine (read8_few h (by decide) hM hl).mono fun e w' hr => .inl ⟨1026, ?_, by decide, hr⟩
    simp [rawL, hl]
  have hl4 : 4 ≤ l.length := by omega
  have L0 := num_byte ((oct.drop 2).drop 1)
  obtain ⟨L, hL⟩ : ∃ L, len8 l = L := ⟨_, rfl⟩
  have hL' : numL (((l.drop 2).drop 1).take 1) = L := hL
  rw [hL'] at L0
  by_cases hE : headE (cls8 l) (fld8 l / 2) (oddB (fld8 l)) L ≠ 0
  · refine (read8_wrong h (by decide) hM hl4 rfl rfl hL' rfl rfl hE).mono fun e w' hr => .inl ⟨_, ?_, hE, hr⟩
    simp only [rawL, if_neg hl, hL, if_pos hE]
  obtain ⟨H, hH⟩ : ∃ H, oddB (fld8 l) = H := ⟨_, rfl⟩
  have hE2 : ¬ headE (cls8 l) (fld8 l / 2) (oddB (fld8 l)) L ≠ 0 := hE
  have hr8 : ((l.drop 2).drop 1).drop 1 = rest8 l := rfl
  replace hE : headE (cls8 l) (fld8 l / 2) (oddB (fld8 l)) L = 0 := by simpa using hE
  rw [hH] at hE
  have few : ∀ {e w'}, (rest8 l).length < L.toNat → ReadNone w g M 1026 1026 1026 e w' → ReadPost (rawL l) w g M e w' := by
    intro e w' hf hr
    refine .inl ⟨1026, ?_, by decide, hr⟩
    simp only [rawL, if_neg hl, hL, if_neg hE2, if_pos hf]
  have good : ∀ {e w'} (hf : ¬ (rest8 l).length < L.toNat), ReadGood w g M (cls8 l) (fld8 l / 2) (oddB (fld8 l)) (exp8 l) (val8 l) (mask8 l) ((4 + L.toNat : Nat) : Int) 1026 1026 e w' → ReadPost (rawL l) w g M e w' := by
    intro e w' hf hr
    refine .inr ⟨⟨cls8 l, fld8 l / 2, oddB (fld8 l), exp8 l, val8 l, mask8 l, 4 + L.toNat⟩, ?_, hr⟩
    simp only [rawL, if_neg hl, hL, if_neg hE2, if_neg hf]
  rcases head_cls hE with hC | hC
  · rw [hC] at hE
    have hh := head_basic hE
    obtain ⟨N, hN⟩ : ∃ N : Nat, L = N := ⟨L.toNat, by omega⟩
    subst hN
    rw [Int.toNat_natCast] at few good
    have eb : body8 l = rest8 l := by simp [body8, hC]
    have ex : exp8 l = 0 := by simp [exp8, hC]
    have en : both8 l = N := by simp [both8, hC, hL]
    cases H
    · have ev : val8 l = (rest8 l).take N := by simp [val8, eb, en, hH, pieces8]
      have em : mask8 l = [] := by simp [mask8, hH]
      rw [hC, ex, ev, em, hH] at good
      by_cases hf : (rest8 l).length < N
      · exact (read8_basic_one_short h (by decide) hM hl4 hC rfl hL' hr8 rfl hH hE hf).mono fun e w' hr => few hf hr
      · refine (read8_basic_one h (by decide) hM hl4 hC rfl hL' hr8 rfl hH hE rfl rfl (by omega)).mono fun e w' hr => good hf ?_
        rw [show ((4 + N : Nat) : Int) = 0 + ((2 : Nat) : Int) + ((1 : Nat) : Int) + ((1 : Nat) : Int) + (N : Int) by omega]
        exact hr
    · obtain ⟨q, hq⟩ : ∃ q, N = 2 * q := ⟨(fld (fld8 l / 2)).z, by have := hh.2.1; simp [pieces8] at this; omega⟩
      have hq2 : N / 2 = q := by omega
      have ev : val8 l = (rest8 l).take q := by simp [val8, eb, en, hH, pieces8, hq2]
      have em : mask8 l = ((rest8 l).drop q).take q := by simp [mask8, eb, en, hH, hq2]
      rw [hC, ex, ev, em, hH] at good
      by_cases hf : (rest8 l).length < N
      · exact (read8_basic_two_short h (by decide) hM hl4 hC rfl hL' hr8 rfl hH hE hq hf).mono fun e w' hr => few hf hr
      · refine (read8_basic_two h (by decide) hM hl4 hC rfl hL' hr8 rfl hH hE hq rfl rfl rfl (by omega)).mono fun e w' hr => good hf ?_
        rw [show ((4 + N : Nat) : Int) = 0 + ((2 : Nat) : Int) + ((1 : Nat) : Int) + ((1 : Nat) : Int) + (N : Int) by omega]
        exact hr
  · rw [hC] at hE
    have hh := head_extra hE
    obtain ⟨N, hN⟩ : ∃ N : Nat, L = N + 4 := ⟨(L - 4).toNat, by omega⟩
    subst hN
    have e4 : ((N : Int) + 4).toNat = N + 4 := by omega
    rw [e4] at few good
    have eb : body8 l = (rest8 l).drop 4 := by simp [body8, hC]
    have ex : exp8 l = numL ((rest8 l).take 4) := by simp [exp8, hC]
    have en : both8 l = N := by simp only [both8, hC, hL, if_true]; omega
    by_cases h4 : (rest8 l).length < 4
    · exact (read8_extra_few h (by decide) hM hl4 hC rfl hL' hr8 rfl hH hE h4).mono fun e w' hr => few (by omega) hr
    have h4' : 4 ≤ (rest8 l).length := by omega
    have e5 : ((rest8 l).drop 4).length + 4 = (rest8 l).length := by rw [List.length_drop]; omega
    cases H
    · have ev : val8 l = ((rest8 l).drop 4).take N := by simp [val8, eb, en, hH, pieces8]
      have em : mask8 l = [] := by simp [mask8, hH]
      rw [hC, ex, ev, em, hH] at good
      by_cases hf : (rest8 l).length < N + 4
      · exact (read8_extra_one_short h (by decide) hM hl4 hC rfl hL' hr8 rfl hH hE h4' rfl rfl (by omega)).mono fun e w' hr => few hf hr
      · refine (read8_extra_one h (by decide) hM hl4 hC rfl hL' hr8 rfl hH hE h4' rfl rfl rfl rfl (by omega)).mono fun e w' hr => good hf ?_
        rw [show ((4 + (N + 4) : Nat) : Int) = 0 + ((2 : Nat) : Int) + ((1 : Nat) : Int) + ((1 : Nat) : Int) + ((4 : Nat) : Int) + (N : Int) by omega]
        exact hr
    · obtain ⟨q, hq⟩ : ∃ q, N = 2 * q := ⟨N / 2, by have := hh.2.1; simp [pieces8] at this; omega⟩
      have hq2 : N / 2 = q := by omega
      have ev : val8 l = ((rest8 l).drop 4).take q := by simp [val8, eb, en, hH, pieces8, hq2]
      have em : mask8 l = (((rest8 l).drop 4).drop q).take q := by simp [mask8, eb, en, hH, hq2]
      rw [hC, ex, ev, em, hH] at good
      by_cases hf : (rest8 l).length < N + 4
      · exact (read8_extra_two_short h (by decide) hM hl4 hC rfl hL' hr8 rfl hH hE h4' rfl rfl hq (by omega)).mono fun e w' hr => few hf hr
      · refine (read8_extra_two h (by decide) hM hl4 hC rfl hL' hr8 rfl hH hE h4' rfl rfl hq rfl rfl rfl (by omega)).mono fun e w' hr => good hf ?_
        rw [show ((4 + (N + 4) : Nat) : Int) = 0 + ((2 : Nat) : Int) + ((1 : Nat) : Int) + ((1 : Nat) : Int) + ((4 : Nat) : Int) + (N : Int) by omega]
        exact hr
end Go.Proofs.Ytfogpofgmnibcaa
