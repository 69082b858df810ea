/- Package fault: names. -/
import Derived.Test.YtlglgkigcompdaaDoorLib
import Derived.Laws.Concat
import Derived.Lib.ItoaLen
namespace Go.Proofs.YtlglgkigcompdaaDoor
open Go.RowKit Go.Shelf

theorem itoa_size (n : Int) (h0 : -9223372036854775808 ≤ n) (h1 : n ≤ 9223372036854775807) : (⟨(Lib.itoa n).toArray⟩ : ByteArray).size ≤ 21 := by
  have := Lib.itoa_length_le n h0 h1
  simpa [ByteArray.size] using this

theorem spell_any (s : ByteArray) (n : Int) (hs : s.size ≤ 1000000) (h0 : -9223372036854775808 ≤ n) (h1 : n ≤ 9223372036854775807) (w : World) (hL : Laid w) :
    Calls Tryd.prog 20 #[.string s, .int .i64 n] w fun e w' => e = .returned (.string (s ++ ⟨#[32]⟩ ++ ⟨(Lib.itoa n).toArray⟩)) ∧ Below w.heap.size w w' := by
  have hz := itoa_size n h0 h1
  have one : (⟨#[32]⟩ : ByteArray).size = 1 := rfl
  have a1 : ∀ w, (Op.stringOp .add s ⟨#[32]⟩).run Tryd.prog w = .ok (.string (s ++ ⟨#[32]⟩)) w := fun w => run_string_add_sum w _ _ (by rw [one]; omega)
  have a2 : ∀ w, (Op.stringOp .add (s ++ ⟨#[32]⟩) ⟨(Lib.itoa n).toArray⟩).run Tryd.prog w = .ok (.string (s ++ ⟨#[32]⟩ ++ ⟨(Lib.itoa n).toArray⟩)) w := fun w => run_string_add_sum w _ _ (by rw [ByteArray.size_append, one]; omega)
  clear hz one
  go_enter Tryd.func20, Tryd.ntmps20
  go_wp2_with (go_at_call 29; refine (itoa_any n h0 h1 _ hL).mono ?_; rintro e w' ⟨rfl, hb⟩)
  go_ret
  exact ⟨rfl, hb⟩

/-- whether an error is one of the program's own -/
def ownB (e : Int) : Bool := decide ((10001 ≤ e ∧ e ≤ 10008) ∨ e = 10337)

theorem isOwn_any (e : Int) (w : World) :
    Calls Tryd.prog 24 #[.int .i64 e] w fun x w' => x = .returned (.bool (ownB e)) ∧ w = w' := by
  rcases (show e < 10001 ∨ (10001 ≤ e ∧ e ≤ 10008) ∨ (10008 < e ∧ e ≠ 10337) ∨ e = 10337 from by omega) with h | h | h | rfl
  · have c1 : ¬ 10001 ≤ e := by omega
    have c2 : (e == 10337) = false := by simp; omega
    have c3 : ownB e = false := by unfold ownB; simp; omega
    rw [c3]
    go_enter Tryd.func24, Tryd.ntmps24
    go_wp2
    go_ret
    exact ⟨rfl, rfl⟩
  · have c2 : (e == 10337) = false := by simp; omega
    have c3 : ownB e = true := by unfold ownB; simp; omega
    obtain ⟨h1, h2⟩ := h
    rw [c3]
    go_enter Tryd.func24, Tryd.ntmps24
    go_wp2
    go_ret
    exact ⟨rfl, rfl⟩
  · have c1 : ¬ e ≤ 10008 := by omega
    have c4 : 10001 ≤ e := by omega
    have c2 : (e == 10337) = false := by simp; omega
    have c3 : ownB e = false := by unfold ownB; simp; omega
    rw [c3]
    go_enter Tryd.func24, Tryd.ntmps24
    go_wp2
    go_ret
    exact ⟨rfl, rfl⟩
  · go_enter Tryd.func24, Tryd.ntmps24
    go_wp2
    go_ret
    exact ⟨rfl, rfl⟩

/-- the name of an error -/
def nameS (e : Int) : ByteArray :=
  if e = 0 then ⟨#[111, 107]⟩ else if ownB e then ⟨#[111, 119, 110]⟩ ++ ⟨#[32]⟩ ++ ⟨(Lib.itoa (e - 10000)).toArray⟩
  else if pairB e then nameT.getD (pairT e).toNat ⟨#[]⟩ ++ ⟨#[32]⟩ ++ ⟨(Lib.itoa (pairC e)).toArray⟩ else ⟨#[]⟩

theorem nameT_size (t : Nat) : (nameT.getD t ⟨#[]⟩).size ≤ 1000000 := by
  rcases Nat.lt_or_ge t 14 with h | h
  · have all : ∀ k : Fin 14, (nameT.getD k.val ⟨#[]⟩).size ≤ 1000000 := by decide
    exact all ⟨t, h⟩
  · rw [List.getD_eq_getElem?_getD, List.getElem?_eq_none (by simp [nameT]; omega)]; decide

theorem pair_in {e : Int} (h : pairB e = true) : 0 ≤ pairT e ∧ pairT e ≤ 13 ∧ 0 ≤ pairC e ∧ pairC e ≤ 15 ∧ e = 256 * pairT e + pairC e + 1 ∧ pairC e < codesL (pairT e) := by
  unfold pairT pairC
  rw [h]
  simp only [if_true]
  unfold pairB at h
  simp at h
  have := codesL_in (by omega) h.2
  omega

theorem name_any (e : Int) (h0 : -9223372036854775808 ≤ e) (h1 : e ≤ 9223372036854775807) (w : World) (hL : Laid w) :
    Calls Tryd.prog 15 #[.int .i64 e] w fun x w' => x = .returned (.string (nameS e)) ∧ Below w.heap.size w w' := by
  unfold nameS
  by_cases he : e = 0
  · subst he
    go_enter Tryd.func15, Tryd.ntmps15
    go_wp2
    go_ret
    exact ⟨rfl, Below.refl _ _⟩
  · rw [if_neg he]
    have c0 : (e == 0) = false := by simp [he]
    cases ho : ownB e
    · rw [if_neg (by simp)]
      cases hp : pairB e
      · have e1 : pairT e = 0 := by unfold pairT; rw [hp]; rfl
        have e2 : pairC e = 0 := by unfold pairC; rw [hp]; rfl
        rw [if_neg (by simp)]
        go_enter Tryd.func15, Tryd.ntmps15
        go_wp2_with (first
          | (go_at_call 24; refine (isOwn_any _ _).mono ?_; rintro x w' ⟨rfl, rfl⟩; rw [ho])
          | (go_at_call 8; refine (pair_any _ h0 h1 _).mono ?_; rintro x w' ⟨rfl, rfl⟩; rw [hp]))
        go_ret
        exact ⟨rfl, Below.refl _ _⟩
      · obtain ⟨t0, t1, c0', c1, ee, cc⟩ := pair_in hp
        rw [if_pos rfl]
        obtain ⟨t, ht⟩ := Int.eq_ofNat_of_zero_le t0
        obtain ⟨c, hc⟩ : ∃ c, pairC e = c := ⟨_, rfl⟩
        have hn := hL.names t (by omega)
        have ht14 : (t : Int) < 14 := by omega
        rw [hc] at c0' c1
        rw [ht, hc]
        clear ee cc
        go_enter Tryd.func15, Tryd.ntmps15
        go_wp2_with (first
          | (go_at_call 24; refine (isOwn_any _ _).mono ?_; rintro x w' ⟨rfl, rfl⟩; rw [ho])
          | (go_at_call 8; refine (pair_any _ h0 h1 _).mono ?_; rintro x w' ⟨rfl, rfl⟩; rw [hp, ht, hc])
          | (go_at_call 20; refine (spell_any _ c (nameT_size t) (by omega) (by omega) _ hL).mono ?_; rintro x w' ⟨rfl, hb⟩))
        go_ret
        exact ⟨rfl, hb⟩
    · rw [if_pos rfl]
      have hr : 10001 ≤ e ∧ e ≤ 10337 := by unfold ownB at ho; simp at ho; omega
      obtain ⟨r1, r2⟩ := hr
      go_enter Tryd.func15, Tryd.ntmps15
      go_wp2_with (first
        | (go_at_call 24; refine (isOwn_any _ _).mono ?_; rintro x w' ⟨rfl, rfl⟩; rw [ho])
        | (go_at_call 20; refine (spell_any _ (e - 10000) (by decide) (by omega) (by omega) _ hL).mono ?_; rintro x w' ⟨rfl, hb⟩))
      go_ret
      exact ⟨rfl, hb⟩
end Go.Proofs.YtlglgkigcompdaaDoor
