/- The document's faults: the error of a name. -/
import Derived.Test.YtlglgkigcompdaaDoorFltH
namespace Go.Proofs.YtlglgkigcompdaaDoor
open Go.RowKit Go.Shelf

theorem allT_range (t : Nat) (h : t ≤ 14) : ∀ x, x ∈ allT t → 0 ≤ x ∧ x ≤ 10337 := by
  induction t with
  | zero => decide
  | succ t ih =>
    intro x hx
    have hx' : x ∈ allT t ++ errsL t (codesL t).toNat := hx
    rcases List.mem_append.1 hx' with h1 | h1
    · exact ih (by omega) x h1
    · unfold errsL at h1
      obtain ⟨b, hb, rfl⟩ := List.mem_map.1 h1
      have := List.mem_range.1 hb
      have := codesL_bound t
      omega

/-- the error whose name a text is -/
def readO (s : ByteArray) : Option Int := allL.find? (fun e => (nameS e).toList == s.toList)

theorem find_none_upto {l : List Int} {p : Int → Bool} (h : ∀ (j : Nat) x, l[j]? = some x → p x = false) : l.find? p = none := by
  rw [List.find?_eq_none]
  intro x hx
  obtain ⟨j, hj⟩ := List.getElem?_of_mem hx
  simp [h j x hj]
theorem find_at {l : List Int} {p : Int → Bool} {k : Nat} {x : Int} (hk : l[k]? = some x) (hp : p x = true) (h : ∀ (j : Nat) y, j < k → l[j]? = some y → p y = false) : l.find? p = some x := by
  induction l generalizing k with
  | nil => simp at hk
  | cons a r ih =>
    cases k with
    | zero =>
      simp at hk
      subst hk
      simp [hp]
    | succ k =>
      have ha := h 0 a (by omega) rfl
      rw [List.find?_cons_of_neg (by simp [ha])]
      exact ih (by simpa using hk) (fun j y hj hy => h (j + 1) y (by omega) (by simpa using hy))

theorem refRead_any (s : ByteArray) (w : World) :
    Calls Tryd.prog 14 #[.string s] w fun x w' => x = .returned (.tuple #[.int .i64 ((readO s).getD 0), .bool (readO s).isSome]) ∧ Below w.heap.size w w' := by
  have HB := hid (allT_range 14 (by omega))
  have hlen : allL.length ≤ 1000 := by have := allT_length 14; unfold allL; omega
  go_enter Tryd.func14, Tryd.ntmps14
  go_wp2_with fail
  refine (refAll_any _).mono ?_
  rintro x w1 ⟨a, c, rfl, hI, hc, hcm, hb1⟩
  obtain ⟨l, hl⟩ : ∃ l, allL = l := ⟨_, rfl⟩
  have HL := hid hl
  rw [hl] at hI hc hlen ⊢
  clear hl
  go_wp2_with fail
  go_loopw [5] (fun i wr => ∃ k : Nat, k ≤ l.length ∧ i = .int .i64 k ∧ Hid (∀ (j : Nat) y, j < k → l[j]? = some y → ((nameS y).toList == s.toList) = false) ∧ Below w.heap.size w wr ∧ Ints .i64 wr a l) (fun i _ => l.length - (intOf i).toNat)
  case atStart => exact ⟨0, by omega, rfl, fun j y h => by omega, hb1, hI⟩
  case round =>
    clear hI hb1
    obtain ⟨k, hk, rfl, hn, hb, hI⟩ := hrel
    by_cases hlt : k < l.length
    · obtain ⟨b, off, x, rfl, hcell, hx⟩ := hI.at hlt
      have hxr : 0 ≤ x ∧ x ≤ 10337 := HB.out x (by show x ∈ allL; rw [HL.out]; exact List.mem_of_getElem? hx.out)
      obtain ⟨x0, x1⟩ := hxr
      have hk2 : (k : Int) < (l.length : Int) := by omega
      have hN := fun W => refName_any x (by omega) (by omega) W
      have HN := hid hN
      clear hN
      cases he : (nameS x).toList == s.toList
      · have hn' : ∀ (j : Nat) y, j < k + 1 → l[j]? = some y → ((nameS y).toList == s.toList) = false := by
          intro j y hj hy
          rcases Nat.lt_or_ge j k with h1 | h1
          · exact hn.out j y h1 hy
          · obtain rfl : j = k := by omega
            have := hx.out
            rw [hy] at this
            simp at this
            subst this
            exact he
        have HN' := hid hn'
        clear hn'
        go_wp2_with fail
        refine (HN.out _).mono ?_
        rintro e w2 ⟨rfl, hb2⟩
        have hI2 := hI.below hb2
        have hb3 := hb.trans (hb2.mono hb.size)
        clear hI hb hb2
        go_wp2_with fail
        go_roundw
        case rel => exact ⟨k + 1, by omega, by go_num, HN', hb3, hI2⟩
        case measure => simp [intOf]; omega
      · have hr : readO s = some x := by unfold readO; rw [HL.out]; exact find_at hx.out he hn.out
        have HR := hid hr
        clear hr
        go_wp2_with fail
        refine (HN.out _).mono ?_
        rintro e w2 ⟨rfl, hb2⟩
        have hc2 : w2.cell? ⟨b, off + k, none⟩ = some (.int .i64 x) := cell_keep hcell hb2
        go_wp2_with fail
        go_ret2
        exact ⟨by rw [HR.out]; rfl, hb.trans (hb2.mono hb.size)⟩
    · have hr : readO s = none := by
        unfold readO
        rw [HL.out]
        refine find_none_upto fun j x hx => hn.out j x ?_ hx
        rcases Nat.lt_or_ge j l.length with h1 | h1
        · omega
        · rw [List.getElem?_eq_none h1] at hx; simp at hx
      have HR := hid hr
      clear hr
      go_wp2_with fail
      go_ret2
      exact ⟨by rw [HR.out]; rfl, hb⟩
end Go.Proofs.YtlglgkigcompdaaDoor
