/- Plain facts on rows: what was put is got; what was got, put again, is those bytes. -/
import Derived.Test.YtkgjmpcdndohpaaDoorRowG
namespace Go.Proofs.YtkgjmpcdndohpaaDoor
open Go.RowKit

theorem emap_ok {f : List Int → List Int} {e : Except Int (List Int)} {y : List Int} (h : e.map f = .ok y) : ∃ x, e = .ok x ∧ y = f x := by
  cases e with
  | error c => simp [Except.map] at h
  | ok x => simp [Except.map] at h; exact ⟨x, rfl, h.symm⟩

theorem omap_some {f : List Int → List Int} {e : Option (List Int)} {y : List Int} (h : e.map f = some y) : ∃ x, e = some x ∧ y = f x := by
  cases e with
  | none => simp at h
  | some x => simp at h; exact ⟨x, rfl, h.symm⟩

theorem zeros_replicate (n : Nat) : zeros (List.replicate n 0) = true := by simp [zeros]

theorem allW_cons {x : Int} {r : List Int} (h : allW (x :: r) = true) : isW x = true ∧ allW r = true := by simpa [allW] using h

theorem countL_neg {x : Int} {r : List Int} (h : x < 0) : countL (x :: r) = countL r := by
  unfold countL; rw [List.countP_cons, if_neg (by simp; omega)]; rfl
theorem countL_pos {x : Int} {r : List Int} (h : 0 < x) : countL (x :: r) = countL r + 1 := by
  unfold countL; rw [List.countP_cons, if_pos (by simpa using h)]

theorem putL_neg {x : Int} {r ns : List Int} (h : x < 0) : putL (x :: r) ns = (putL r ns).map (List.replicate x.natAbs 0 ++ ·) := by
  rw [putL.eq_def]; simp only [h, if_true]
theorem putL_pos {x n : Int} {r ns : List Int} (h : 0 < x) : putL (x :: r) (n :: ns) = if roomB n x then (putL r ns).map (bytesL n x.toNat ++ ·) else none := by
  rw [putL.eq_def]; simp only [show ¬ x < 0 by omega, if_false]
theorem getL_cons (x : Int) (r b : List Int) : getL (x :: r) b = if b.length < x.natAbs then .error 1
    else if 0 < x then (getL r (b.drop x.natAbs)).map (numL (b.take x.natAbs) :: ·)
    else if zeros (b.take x.natAbs) then getL r (b.drop x.natAbs) else .error 2 := by rw [getL.eq_def]

theorem put_get {l ns bs : List Int} (h : putL l ns = some bs) (hw : allW l = true) (hc : countL l = ns.length) (hu : U64s ns) (more : List Int) : getL l (bs ++ more) = .ok ns := by
  induction l generalizing ns bs with
  | nil =>
    simp [countL] at hc
    have : ns = [] := List.eq_nil_of_length_eq_zero hc.symm
    subst this
    rfl
  | cons x r ih =>
    obtain ⟨hx, hr⟩ := allW_cons hw
    have hxx := isW_abs hx
    by_cases hn : x < 0
    · rw [putL_neg hn] at h
      obtain ⟨bs', hb, rfl⟩ := omap_some h
      rw [countL_neg hn] at hc
      have := ih hb hr hc hu
      have hl : (List.replicate x.natAbs (0 : Int)).length = x.natAbs := by simp
      rw [getL_cons, if_neg (by simp), if_neg (by omega), List.append_assoc, List.take_left' hl, zeros_replicate, List.drop_left' hl]
      simpa using this
    · have hp : 0 < x := by omega
      rw [countL_pos hp] at hc
      cases ns with
      | nil => simp at hc
      | cons n ns' =>
        rw [putL_pos hp] at h
        split at h
        · rename_i hroom
          obtain ⟨bs', hb, rfl⟩ := omap_some h
          have := ih hb hr (by simpa using hc) (fun y hy => hu y (List.mem_cons_of_mem _ hy))
          have hl : (bytesL n x.toNat).length = x.natAbs := by rw [bytesL_length]; omega
          have hn0 := (hu n (List.mem_cons_self ..)).1
          have hnum : numL (bytesL n x.toNat) = n := by
            rw [numL_bytesL, Int.emod_eq_of_lt hn0]
            simpa [roomB] using hroom
          rw [getL_cons, if_neg (by simp [bytesL_length]; omega), if_pos hp, List.append_assoc, List.take_left' hl, List.drop_left' hl, this, hnum]
          rfl
        · simp at h

theorem take_over {A B : List Int} {m j : Nat} (h : A.length = m) (hj : m ≤ j) : (A ++ B).take j = A ++ B.take (j - m) := by
  rw [List.take_append, h, List.take_of_length_le (by omega)]

theorem put_short {l ns bs : List Int} (h : putL l ns = some bs) (hw : allW l = true) (j : Nat) (hj : j < bs.length) : getL l (bs.take j) = .error 1 := by
  induction l generalizing ns bs j with
  | nil => rw [putL.eq_def] at h; simp at h; subst h; simp at hj
  | cons x r ih =>
    obtain ⟨hx, hr⟩ := allW_cons hw
    have hxx := isW_abs hx
    rw [getL_cons]
    by_cases hlt : j < x.natAbs
    · rw [if_pos (by rw [List.length_take]; omega)]
    · rw [if_neg (by rw [List.length_take]; omega)]
      by_cases hn : x < 0
      · rw [putL_neg hn] at h
        obtain ⟨bs', hb, rfl⟩ := omap_some h
        have hl : (List.replicate x.natAbs (0 : Int)).length = x.natAbs := by simp
        rw [List.length_append, hl] at hj
        have := ih hb hr (j - x.natAbs) (by omega)
        rw [take_over hl (by omega), if_neg (by omega), List.take_left' hl, zeros_replicate, List.drop_left' hl]
        simpa using this
      · have hp : 0 < x := by omega
        cases ns with
        | nil => rw [putL.eq_def] at h; simp [hn] at h
        | cons n ns' =>
          rw [putL_pos hp] at h
          split at h
          · obtain ⟨bs', hb, rfl⟩ := omap_some h
            have hl : (bytesL n x.toNat).length = x.natAbs := by rw [bytesL_length]; omega
            rw [List.length_append, hl] at hj
            have := ih hb hr (j - x.natAbs) (by omega)
            rw [take_over hl (by omega), if_pos hp, List.drop_left' hl, this]
            rfl
          · simp at h

theorem emap_err {f : List Int → List Int} {e : Except Int (List Int)} {q : Int} (h : e.map f = .error q) : e = .error q := by
  cases e with
  | error c => simp [Except.map] at h; rw [h]
  | ok x => simp [Except.map] at h
theorem getL_err {l b : List Int} {q : Int} (h : getL l b = .error q) : q = 1 ∨ q = 2 := by
  induction l generalizing b with
  | nil => simp [getL] at h
  | cons x r ih =>
    rw [getL_cons] at h
    split at h
    · simp at h; exact .inl h.symm
    · split at h
      · exact ih (emap_err h)
      · split at h
        · exact ih h
        · simp at h; exact .inr h.symm
theorem getW_err {l b : List Int} {q : Int} (h : getW l b = .error q) : q = 1 ∨ q = 2 := by
  unfold getW at h
  split at h
  · exact getL_err h
  · simp at h; exact .inr h.symm

theorem zeros_eq {l : List Int} (h : zeros l = true) : l = List.replicate l.length 0 := by
  simp [zeros] at h
  exact List.eq_replicate_iff.2 ⟨rfl, h⟩

theorem get_put {l b m : List Int} (h : getL l b = .ok m) (hw : allW l = true) (ho : Octets b) :
    putL l m = some (b.take (sizeL l)) ∧ sizeL l ≤ b.length ∧ countL l = m.length ∧ U64s m := by
  induction l generalizing b m with
  | nil =>
    simp [getL] at h
    subst h
    refine ⟨by simp [putL, sizeL], by simp [sizeL], by simp [countL], by intro y hy; simp at hy⟩
  | cons x r ih =>
    obtain ⟨hx, hr⟩ := allW_cons hw
    have hxx := isW_abs hx
    have hs : sizeL (x :: r) = x.natAbs + sizeL r := by simp [sizeL]
    rw [getL_cons] at h
    split at h
    · simp at h
    · rename_i hlen
      have htl : (b.take x.natAbs).length = x.natAbs := by rw [List.length_take]; omega
      split at h
      · rename_i hp
        obtain ⟨m', hm, rfl⟩ := emap_ok h
        obtain ⟨i1, i2, i3, i4⟩ := ih hm hr (ho.drop _)
        have hb := numL_snoc_bound (ho.take x.natAbs)
        rw [htl] at hb
        have e1 : x.toNat = x.natAbs := by omega
        have hroom : roomB (numL (b.take x.natAbs)) x = true := by unfold roomB; rw [e1]; simpa using hb.2
        have hbb := bytesL_numL (ho.take x.natAbs)
        rw [htl] at hbb
        refine ⟨?_, ?_, ?_, ?_⟩
        · rw [putL_pos hp, if_pos hroom, i1, e1, hbb, hs]
          simp only [Option.map_some]
          rw [List.take_add]
        · rw [hs]; rw [List.length_drop] at i2; omega
        · rw [countL_pos hp, i3]; rfl
        · intro y hy
          rcases List.mem_cons.1 hy with rfl | hy
          · have := p256_mono (show x.natAbs ≤ 8 by omega)
            omega
          · exact i4 y hy
      · rename_i hp
        split at h
        · rename_i hz
          obtain ⟨i1, i2, i3, i4⟩ := ih h hr (ho.drop _)
          have hn : x < 0 := by omega
          have hze := zeros_eq hz
          rw [htl] at hze
          refine ⟨?_, ?_, ?_, i4⟩
          · rw [putL_neg hn, i1, hs, List.take_add, ← hze]
            rfl
          · rw [hs]; rw [List.length_drop] at i2; omega
          · rw [countL_neg hn, i3]
        · simp at h

theorem putL_octets {l ns bs : List Int} (h : putL l ns = some bs) : Octets bs ∧ bs.length = sizeL l := by
  induction l generalizing ns bs with
  | nil => rw [putL.eq_def] at h; simp at h; subst h; exact ⟨fun x hx => by simp at hx, by simp [sizeL]⟩
  | cons x r ih =>
    have hs : sizeL (x :: r) = x.natAbs + sizeL r := by simp [sizeL]
    by_cases hn : x < 0
    · rw [putL_neg hn] at h
      obtain ⟨bs', hb, rfl⟩ := omap_some h
      obtain ⟨i1, i2⟩ := ih hb
      exact ⟨Octets.append (fun y hy => by rw [List.eq_of_mem_replicate hy]; omega) i1, by simp [i2, hs]⟩
    · cases ns with
      | nil => rw [putL.eq_def] at h; simp [hn] at h
      | cons n ns' =>
        rw [putL.eq_def] at h
        simp only [hn, if_false] at h
        split at h
        · obtain ⟨bs', hb, rfl⟩ := omap_some h
          obtain ⟨i1, i2⟩ := ih hb
          exact ⟨(bytesL_octets _ _).append i1, by rw [List.length_append, bytesL_length, i2, hs]; omega⟩
        · simp at h
end Go.Proofs.YtkgjmpcdndohpaaDoor
