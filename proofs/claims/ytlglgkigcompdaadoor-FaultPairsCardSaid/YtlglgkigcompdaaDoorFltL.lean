/- Names lead back. -/
import Derived.Test.YtlglgkigcompdaaDoorFltK
namespace Go.Proofs.YtlglgkigcompdaaDoor
open Go.RowKit Go.Shelf

theorem toList_same {a b : ByteArray} (h : (a.toList == b.toList) = true) : a = b := by
  rw [ByteArray.toList_eq, ByteArray.toList_eq] at h
  have := beq_iff_eq.1 h
  cases a; cases b
  congr
  exact Array.ext' this
theorem toList_refl (a : ByteArray) : (a.toList == a.toList) = true := by simp
theorem list_same {a : ByteArray} {l : List UInt8} (h : (a.toList == l) = true) : a = ⟨l.toArray⟩ := by
  rw [ByteArray.toList_eq] at h
  have := beq_iff_eq.1 h
  cases a
  congr
  exact Array.ext' (by simpa using this)

theorem errs_in {t a : Nat} (h : a < t) {x : Int} (hx : x ∈ errsL a (codesL a).toNat) : x ∈ allT t := by
  induction t with
  | zero => omega
  | succ t ih =>
    show x ∈ allT t ++ _
    rcases Nat.lt_or_ge a t with g | g
    · exact List.mem_append_left _ (ih g)
    · obtain rfl : a = t := by omega
      exact List.mem_append_right _ hx
theorem owns_in (t : Nat) {x : Int} (hx : x ∈ ownsL) : x ∈ allT t := by
  induction t with
  | zero => exact hx
  | succ t ih => exact List.mem_append_left _ ih

theorem all_own {x : Int} (h : ownB x = true) : x ∈ allL := by
  refine owns_in 14 ?_
  unfold ownB at h
  simp at h
  rcases (show x = 10001 ∨ x = 10002 ∨ x = 10003 ∨ x = 10004 ∨ x = 10005 ∨ x = 10006 ∨ x = 10007 ∨ x = 10008 ∨ x = 10337 from by omega) with rfl | rfl | rfl | rfl | rfl | rfl | rfl | rfl | rfl <;> simp [ownsL]
theorem all_pair {x : Int} (h : pairB x = true) : x ∈ allL := by
  obtain ⟨t0, t1, c0, c1, ee, cc⟩ := pair_in h
  obtain ⟨t, ht⟩ := Int.eq_ofNat_of_zero_le t0
  obtain ⟨c, hc⟩ := Int.eq_ofNat_of_zero_le c0
  rw [ht, hc] at ee cc
  refine errs_in (show t < 14 by omega) ?_
  unfold errsL
  exact List.mem_map.2 ⟨c, List.mem_range.2 (by omega), by omega⟩

set_option maxRecDepth 100000 in
theorem readC_name : ∀ e ∈ allL, readC (nameS e) = (e, true) := by decide +kernel
theorem name_in {e : Int} (h : nameS e ≠ ⟨#[]⟩) : e ∈ allL := by
  unfold nameS at h
  by_cases he : e = 0
  · subst he; exact owns_in 14 (by simp [ownsL])
  · rw [if_neg he] at h
    cases ho : ownB e
    · rw [ho, if_neg (by simp)] at h
      cases hp : pairB e
      · rw [hp, if_neg (by simp)] at h; exact absurd rfl h
      · exact all_pair hp
    · exact all_own ho

theorem name_inj {e f : Int} (he : nameS e ≠ ⟨#[]⟩) (h : nameS e = nameS f) : e = f := by
  have h1 := readC_name e (name_in he)
  have h2 := readC_name f (name_in (h ▸ he))
  rw [h, h2] at h1
  injection h1 with h1 _
  exact h1.symm

theorem own_name {n : Int} (h : ownB (10000 + n) = true) : nameS (10000 + n) = spellB ⟨#[111, 119, 110]⟩ n ∧ nameS (10000 + n) ≠ ⟨#[]⟩ := by
  have hn : 10000 + n ≠ 0 := by unfold ownB at h; simp at h; omega
  have e1 : nameS (10000 + n) = spellB ⟨#[111, 119, 110]⟩ n := by
    unfold nameS spellB
    rw [if_neg hn, if_pos h, show 10000 + n - 10000 = n by omega]
  refine ⟨e1, fun hz => ?_⟩
  have := congrArg ByteArray.size hz
  rw [e1] at this
  unfold spellB at this
  rw [ByteArray.size_append, ByteArray.size_append] at this
  have e2 : (⟨#[32]⟩ : ByteArray).size = 1 := rfl
  have e3 : (⟨#[]⟩ : ByteArray).size = 0 := rfl
  omega

theorem made_name {u : ByteArray} {n : Int} (h : madeL (typeL u) n = true) : nameS (makeL (typeL u) n) = spellB u n ∧ nameS (makeL (typeL u) n) ≠ ⟨#[]⟩ := by
  have hc : 0 ≤ n ∧ n < codesL (typeL u) := by unfold madeL at h; simpa using h
  obtain ⟨b0, b1, b2⟩ := codesL_in hc.1 hc.2
  have hm : makeL (typeL u) n = 256 * (typeL u : Nat) + n + 1 := by unfold makeL; rw [if_pos hc]
  obtain ⟨p1, p2, p3⟩ := pair_found hc.1 hc.2
  have e1 : nameS (makeL (typeL u) n) = spellB u n := by
    rw [hm]
    unfold nameS spellB
    rw [if_neg (by omega), if_neg (by unfold ownB; simp; omega), if_pos p1, p2, p3, Int.toNat_natCast]
    have ht : typeL u < nameT.length := by show _ < 14; omega
    obtain ⟨g, e⟩ := nameT_get (show typeL u < 14 by omega)
    have := List.findIdx_getElem (w := ht)
    have hu : nameT[typeL u] = u := toList_same this
    rw [e, hu]
  refine ⟨e1, fun hz => ?_⟩
  have := congrArg ByteArray.size hz
  rw [e1] at this
  unfold spellB at this
  rw [ByteArray.size_append, ByteArray.size_append] at this
  have e2 : (⟨#[32]⟩ : ByteArray).size = 1 := rfl
  have e3 : (⟨#[]⟩ : ByteArray).size = 0 := rfl
  omega

/-- what Read finds is so called; what it does not find is 0 -/
theorem readC_back (s : ByteArray) : ((readC s).2 = true → nameS (readC s).1 = s ∧ (readC s).1 ∈ allL) ∧ ((readC s).2 = false → (readC s).1 = 0) := by
  unfold readC
  cases hok : s.toList == okB
  · rw [if_neg (by simp)]
    rcases ha : Lib.atoiAll (restB s).data.toList with n | _ | _
    rotate_left
    · simp
    · simp
    · simp only
      cases he : (spellB (wordB s) n).toList == s.toList
      · rw [if_neg (by simp)]; simp
      · rw [if_pos rfl]
        have hs := toList_same he
        cases ho : (wordB s).toList == ownS
        · rw [if_neg (by simp)]
          refine ⟨fun h => ?_, fun h => ?_⟩
          · obtain ⟨h1, h2⟩ := made_name h
            exact ⟨h1.trans hs, name_in h2⟩
          · simp only at h ⊢
            unfold madeL at h
            unfold makeL
            rw [if_neg (by simpa using h)]
        · rw [if_pos rfl]
          have hw := list_same ho
          refine ⟨fun h => ?_, fun h => ?_⟩
          · obtain ⟨h1, h2⟩ := own_name h
            simp only at h ⊢
            unfold ownL
            rw [if_pos h]
            refine ⟨?_, name_in h2⟩
            rw [h1, ← hs, hw]
            rfl
          · simp only at h ⊢
            unfold ownL
            rw [h]
            rfl
  · rw [if_pos rfl]
    refine ⟨fun _ => ⟨?_, owns_in 14 (by simp [ownsL])⟩, fun h => by simp at h⟩
    rw [list_same hok]
    rfl

/-- the program's Read and the document's tell the same -/
theorem readC_readO (s : ByteArray) : (readO s).getD 0 = (readC s).1 ∧ (readO s).isSome = (readC s).2 := by
  obtain ⟨h1, h2⟩ := readC_back s
  cases hf : readO s with
  | none =>
    have hn : (readC s).2 = false := by
      cases hc : (readC s).2
      · rfl
      · obtain ⟨g1, g2⟩ := h1 hc
        have := List.find?_eq_none.1 hf _ g2
        rw [g1] at this
        simp at this
    rw [hn, h2 hn]
    simp
  | some x =>
    have hx := List.mem_of_find?_eq_some hf
    have hp := List.find?_some hf
    have hs := toList_same hp
    have := readC_name x hx
    rw [hs] at this
    rw [this]
    simp
end Go.Proofs.YtlglgkigcompdaaDoor
