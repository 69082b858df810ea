/- Put together out of several texts. -/
import Derived.Test.YtdjlbejhphbcoaaGreatU3
import Derived.Deep.RegionHeld3
namespace Go.Proofs.YtdjlbejhphbcoaaGreat
open Go.RowKit
set_option linter.unusedVariables false

theorem numL_1 (x : Int) : numL [x] = x := by simp [numL]
theorem numL_2 (x y : Int) : numL [x, y] = x * 256 + y := by simp [numL]
theorem cls8_cons (x0 x1 x2 x3 : Int) (r : List Int) : cls8 (x0 :: x1 :: x2 :: x3 :: r) = x0 * 256 + x1 := numL_2 x0 x1
theorem fld8_cons (x0 x1 x2 x3 : Int) (r : List Int) : fld8 (x0 :: x1 :: x2 :: x3 :: r) = x2 := numL_1 x2
theorem len8_cons (x0 x1 x2 x3 : Int) (r : List Int) : len8 (x0 :: x1 :: x2 :: x3 :: r) = x3 := numL_1 x3
theorem rest8_cons (x0 x1 x2 x3 : Int) (r : List Int) : rest8 (x0 :: x1 :: x2 :: x3 :: r) = r := rfl
theorem four_cons {b : List Int} (h : 4 ≤ b.length) : ∃ x0 x1 x2 x3 r, b = x0 :: x1 :: x2 :: x3 :: r := by
  match b, h with
  | x0 :: x1 :: x2 :: x3 :: r, _ => exact ⟨x0, x1, x2, x3, r, rfl⟩
theorem byteAt_0 (n : Int) : byteAt n 0 = n % 256 := by simp [byteAt, p256]
theorem byteAt_1 (n : Int) : byteAt n 1 = n / 256 % 256 := by simp [byteAt, p256]
theorem field_half {F : Int} {H : Bool} (h0 : 0 ≤ F) (h1 : F ≤ 127) : byteAt (fieldN F H) 0 / 2 = F ∧ oddB (byteAt (fieldN F H) 0) = H := by
  rw [byteAt_0]
  cases H
  · have e : fieldN F false = 2 * F := rfl
    rw [e]
    refine ⟨by omega, ?_⟩
    simp only [oddB, beq_eq_false_iff_ne, ne_eq]
    omega
  · have e : fieldN F true = 2 * F + 1 := rfl
    rw [e]
    refine ⟨by omega, ?_⟩
    simp only [oddB, beq_iff_eq]
    omega
theorem bytes_cons (C F : Int) (H : Bool) (X : Int) (v m : List Int) : oxmBytes C F H X v m = byteAt C 1 :: byteAt C 0 :: byteAt (fieldN F H) 0 :: byteAt (behind8 C v.length m.length : Nat) 0 :: (expL C X ++ (v ++ m)) := by
  simp [oxmBytes, headL, bytesL]
theorem pos_z {F : Int} (h : 0 ≤ F ∧ F < 40) : 1 ≤ (fld F).z := by
  rcases forty h with rfl | rfl | rfl | rfl | rfl | rfl | rfl | rfl | rfl | rfl | rfl | rfl | rfl | rfl | rfl | rfl | rfl | rfl | rfl | rfl | rfl | rfl | rfl | rfl | rfl | rfl | rfl | rfl | rfl | rfl | rfl | rfl | rfl | rfl | rfl | rfl | rfl | rfl | rfl | rfl <;> decide +kernel

/-- what is so of bytes that begin with a value's -/
structure Begins (C F : Int) (H : Bool) (X : Int) (v m b : List Int) (k : Nat) : Prop where
  cls : cls8 b = C
  fd : fld8 b / 2 = F
  od : oddB (fld8 b) = H
  ln : len8 b = k
  hk : 1 ≤ k
  he : headE C F H k = 0
theorem right_begins {C F X : Int} {H : Bool} {v m : List Int} (h : rightB C F H X v m = true) (r : List Int) : Begins C F H X v m (byteAt C 1 :: byteAt C 0 :: byteAt (fieldN F H) 0 :: byteAt (behind8 C v.length m.length : Nat) 0 :: r) (behind8 C v.length m.length) := by
  have ft := right_facts h
  unfold rightB at h
  simp only [Bool.and_eq_true, decide_eq_true_eq] at h
  obtain ⟨⟨⟨h1, h2⟩, h3⟩, h4⟩ := h
  have hC : 0 ≤ C ∧ C < 65536 := by rcases ft.cls with h | h <;> omega
  have hf := field_half (H := H) ft.f0 ft.f1
  have hm := ft.most
  refine ⟨?_, ?_, ?_, ?_, ?_, h3⟩
  · rw [cls8_cons, byteAt_0, byteAt_1]; omega
  · rw [fld8_cons]; exact hf.1
  · rw [fld8_cons]; exact hf.2
  · rw [len8_cons, byteAt_0]; omega
  · rcases head_cls h3 with hc | hc
    · rw [hc] at h3 ⊢
      have hh := head_basic h3
      have hz := pos_z hh.1
      have := hh.2.1
      have hp : pieces8 H = 1 ∨ pieces8 H = 2 := by cases H <;> simp [pieces8]
      rcases hp with hp | hp <;> rw [hp] at this <;> omega
    · rw [hc] at h3 ⊢
      have := (head_extra h3).1
      omega
/-- a byte less -/
theorem back_less {C F X : Int} {H : Bool} {v m : List Int} (h : rightB C F H X v m = true) : decL ((oxmBytes C F H X v m).take ((oxmBytes C F H X v m).length - 1)) = .error 1026 ∧ 5 ≤ (oxmBytes C F H X v m).length := by
  have hlen := oxmBytes_length C F H X v m
  have B0 := right_begins h []
  have hk := B0.hk
  obtain ⟨k, hkk⟩ : ∃ k, behind8 C v.length m.length = k + 1 := ⟨behind8 C v.length m.length - 1, by omega⟩
  have B := right_begins h ((expL C X ++ (v ++ m)).take k)
  have hs : (oxmBytes C F H X v m).take ((oxmBytes C F H X v m).length - 1) = byteAt C 1 :: byteAt C 0 :: byteAt (fieldN F H) 0 :: byteAt (behind8 C v.length m.length : Nat) 0 :: (expL C X ++ (v ++ m)).take k := by
    rw [hlen, hkk, show 4 + (k + 1) - 1 = k + 1 + 1 + 1 + 1 by omega, bytes_cons, hkk]
    rfl
  have hel : (expL C X ++ (v ++ m)).length = k + 1 := by
    simp only [List.length_append, expL_length]
    unfold behind8 at hkk
    split at hkk <;> simp_all <;> omega
  rw [← hs] at B
  have hr : rest8 ((oxmBytes C F H X v m).take ((oxmBytes C F H X v m).length - 1)) = (expL C X ++ (v ++ m)).take k := by rw [hs]; rfl
  have hsl : 4 ≤ ((oxmBytes C F H X v m).take ((oxmBytes C F H X v m).length - 1)).length := by rw [hs]; simp
  obtain ⟨s, hss⟩ : ∃ s, (oxmBytes C F H X v m).take ((oxmBytes C F H X v m).length - 1) = s := ⟨_, rfl⟩
  rw [hss] at B hr hsl ⊢
  obtain ⟨e1, e2, e3, e4, e5, e6⟩ := B
  have he : ¬ headE (cls8 s) (fld8 s / 2) (oddB (fld8 s)) (len8 s) ≠ 0 := by rw [e1, e2, e3, e4]; simpa using e6
  have hrl : (rest8 s).length < (len8 s).toNat := by rw [hr, e4, List.length_take, hel, Int.toNat_natCast]; omega
  refine ⟨?_, by omega⟩
  unfold decL rawL
  rw [if_neg (by omega), if_neg he, if_pos hrl]

theorem field_whole {n : Int} (h0 : 0 ≤ n) (h1 : n ≤ 255) : fieldN (n / 2) (oddB n) = n := by
  unfold fieldN oddB
  by_cases h : n % 2 = 1
  · simp [h]; omega
  · simp [h]; omega
/-- what is decoded may be, and is those bytes -/
theorem dec_right {b : List Int} {o : Oxm8} (h : decL b = .ok o) (ho : Octets b) : rightB o.C o.F o.H o.X o.v o.m = true ∧ o.n ≤ b.length ∧ oxmBytes o.C o.F o.H o.X o.v o.m = b.take o.n ∧ 0 ≤ o.X := by
  have hraw : rawL b = .ok o ∧ bytesE o.C o.F o.H o.v o.m = 0 := by
    unfold decL at h
    cases hr : rawL b with
    | error q => rw [hr] at h; simp at h
    | ok o' =>
      rw [hr] at h
      simp only at h
      by_cases hb : bytesE o'.C o'.F o'.H o'.v o'.m = 0
      · rw [if_pos hb] at h
        obtain rfl : o' = o := by simpa using h
        exact ⟨rfl, hb⟩
      · rw [if_neg hb] at h; simp at h
  obtain ⟨hraw, hb⟩ := hraw
  have hvm := (raw_octets hraw ho).2.2.2.2
  unfold rawL at hraw
  by_cases h4 : b.length < 4
  · rw [if_pos h4] at hraw; simp at hraw
  rw [if_neg h4] at hraw
  by_cases hE : headE (cls8 b) (fld8 b / 2) (oddB (fld8 b)) (len8 b) ≠ 0
  · rw [if_pos hE] at hraw; simp at hraw
  rw [if_neg hE] at hraw
  by_cases hr : (rest8 b).length < (len8 b).toNat
  · rw [if_pos hr] at hraw; simp at hraw
  rw [if_neg hr] at hraw
  obtain rfl : _ = o := by simpa using hraw
  simp only at hb hvm ⊢
  have hE' : headE (cls8 b) (fld8 b / 2) (oddB (fld8 b)) (len8 b) = 0 := by simpa using hE
  obtain ⟨x0, x1, x2, x3, r, rfl⟩ := four_cons (b := b) (by omega)
  have q0 := ho x0 (by simp)
  have q1 := ho x1 (by simp)
  have q2 := ho x2 (by simp)
  have q3 := ho x3 (by simp)
  have orr : Octets r := fun y hy => ho y (by simp [hy])
  rw [len8_cons, rest8_cons] at hr
  have hL : (x3.toNat : Int) = x3 := Int.toNat_of_nonneg q3.1
  -- lengths
  have hbody : (body8 (x0 :: x1 :: x2 :: x3 :: r)).length ≥ both8 (x0 :: x1 :: x2 :: x3 :: r) ∧ both8 (x0 :: x1 :: x2 :: x3 :: r) + (if cls8 (x0 :: x1 :: x2 :: x3 :: r) = 65535 then 4 else 0) = x3.toNat ∧ (expL (cls8 (x0 :: x1 :: x2 :: x3 :: r)) (exp8 (x0 :: x1 :: x2 :: x3 :: r)) ++ (body8 (x0 :: x1 :: x2 :: x3 :: r)).take (both8 (x0 :: x1 :: x2 :: x3 :: r)) = r.take x3.toNat) ∧ room8 (cls8 (x0 :: x1 :: x2 :: x3 :: r)) (x2 / 2) (exp8 (x0 :: x1 :: x2 :: x3 :: r)) = true ∧ 0 ≤ exp8 (x0 :: x1 :: x2 :: x3 :: r) := by
    unfold body8 both8 exp8 expL room8
    rw [rest8_cons, len8_cons]
    by_cases hc : cls8 (x0 :: x1 :: x2 :: x3 :: r) = 65535
    · rw [len8_cons, hc] at hE'
      have hh := head_extra hE'
      have hl4 : (r.take 4).length = 4 := by rw [List.length_take]; omega
      have hb4 := numL_snoc_bound (orr.take 4)
      rw [hl4] at hb4
      have hp4 : p256 4 = 4294967296 := by decide
      simp only [hc, if_true]
      refine ⟨by rw [List.length_drop]; omega, by omega, ?_, by simp; omega, hb4.1⟩
      have e := bytesL_numL (orr.take 4)
      rw [hl4] at e
      rw [e, show x3.toNat = 4 + (x3.toNat - 4) by omega, List.take_add]
      simp
    · simp only [hc, if_false]
      refine ⟨by omega, by omega, by simp, by simp, by simp⟩
  obtain ⟨hb1, hb2, hb3, hb4, hb5⟩ := hbody
  obtain ⟨bd, hbd⟩ : ∃ l, body8 (x0 :: x1 :: x2 :: x3 :: r) = l := ⟨_, rfl⟩
  obtain ⟨bo, hbo⟩ : ∃ l, both8 (x0 :: x1 :: x2 :: x3 :: r) = l := ⟨_, rfl⟩
  obtain ⟨ex, hex⟩ : ∃ l, exp8 (x0 :: x1 :: x2 :: x3 :: r) = l := ⟨_, rfl⟩
  obtain ⟨cl, hcl⟩ : ∃ l, cls8 (x0 :: x1 :: x2 :: x3 :: r) = l := ⟨_, rfl⟩
  have hcl2 : cl = x0 * 256 + x1 := by rw [← hcl]; exact cls8_cons ..
  obtain ⟨vv, hvv⟩ : ∃ l, val8 (x0 :: x1 :: x2 :: x3 :: r) = l := ⟨_, rfl⟩
  obtain ⟨mm, hmm⟩ : ∃ l, mask8 (x0 :: x1 :: x2 :: x3 :: r) = l := ⟨_, rfl⟩
  have hv2 : vv = bd.take (bo / pieces8 (oddB x2)) := by rw [← hvv]; unfold val8; rw [hbd, hbo, fld8_cons]
  have hm2 : mm = if oddB x2 then (bd.drop (bo / 2)).take (bo / 2) else [] := by rw [← hmm]; unfold mask8; rw [hbd, hbo, fld8_cons]
  rw [hbd, hbo] at hb1
  rw [hbo, hcl] at hb2
  rw [hcl, hex, hbd, hbo] at hb3
  rw [hcl, hex] at hb4
  rw [hex] at hb5
  rw [hvv, hmm, hcl, fld8_cons] at hb
  rw [hvv, hmm, fld8_cons] at hvm
  rw [hcl, fld8_cons, len8_cons] at hE'
  rw [hvv, hmm, hcl, hex, fld8_cons, len8_cons]
  clear hvv hmm hcl hex hbd hbo hE hraw
  have hjoin : vv ++ mm = bd.take bo ∧ mm.length = maskZ (oddB x2) vv.length ∧ vv.length + mm.length = bo := by
    cases hH : oddB x2
    · rw [hH] at hv2 hm2
      have : mm = [] := by simpa using hm2
      rw [this, hv2]
      refine ⟨by simp [pieces8], rfl, by simp [pieces8]; omega⟩
    · rw [hH] at hv2 hm2
      have hmm2 : mm = (bd.drop (bo / 2)).take (bo / 2) := by simpa using hm2
      have hvv2 : vv = bd.take (bo / 2) := by simpa [pieces8] using hv2
      have heven : bo = bo / 2 + bo / 2 := by
        rw [hH] at hE'
        rcases head_cls hE' with hc | hc
        · rw [hc] at hE' hb2
          have := (head_basic hE').2.1
          simp [pieces8] at this
          simp at hb2
          omega
        · rw [hc] at hE' hb2
          have := (head_extra hE').2.1
          simp [pieces8] at this
          simp at hb2
          omega
      have hl1 : vv.length = bo / 2 := by rw [hvv2, List.length_take]; omega
      have hl2 : mm.length = bo / 2 := by rw [hmm2, List.length_take, List.length_drop]; omega
      refine ⟨?_, by rw [hl1, hl2]; rfl, by omega⟩
      rw [hvv2, hmm2, ← List.take_add, ← heven]
  obtain ⟨hj1, hj2, hj3⟩ := hjoin
  have hbeh : (behind8 cl vv.length mm.length : Int) = x3 := by
    unfold behind8
    split at hb2 <;> simp_all <;> omega
  refine ⟨?_, by simp; omega, ?_, hb5⟩
  · unfold rightB
    rw [hbeh]
    simp [hb4, hj2, hE', hb]
  · rw [bytes_cons, field_whole q2.1 q2.2, hbeh, byteAt_0, byteAt_0, byteAt_0, byteAt_1, hj1, hb3, hcl2]
    have e0 : (x0 * 256 + x1) / 256 % 256 = x0 := by omega
    have e1 : (x0 * 256 + x1) % 256 = x1 := by omega
    have e2 : x2 % 256 = x2 := by omega
    have e3 : x3 % 256 = x3 := by omega
    rw [e0, e1, e2, e3, show 4 + x3.toNat = x3.toNat + 1 + 1 + 1 + 1 by omega]
    rfl
end Go.Proofs.YtdjlbejhphbcoaaGreat
namespace Go.Proofs.YtdjlbejhphbcoaaGreat
open Go.RowKit
set_option linter.unusedVariables false

theorem dec_raw {b : List Int} {o : Oxm8} (h : decL b = .ok o) : rawL b = .ok o := by
  unfold decL at h
  cases hr : rawL b with
  | error q => rw [hr] at h; simp at h
  | ok o' =>
    rw [hr] at h
    simp only at h
    by_cases hb : bytesE o'.C o'.F o'.H o'.v o'.m = 0
    · rw [if_pos hb] at h
      obtain rfl : o' = o := by simpa using h
      rfl
    · rw [if_neg hb] at h; simp at h
end Go.Proofs.YtdjlbejhphbcoaaGreat
