/- The document's faults: the name of an error. -/
import Derived.Test.YtlglgkigcompdaaDoorFltF
import Derived.Deep.RegionWith
import Derived.Deep.DeepCutAuto
namespace Go.Proofs.YtlglgkigcompdaaDoor
open Go.RowKit Go.Shelf

theorem typeName (t : Nat) (h : t < 14) : typeCells[t * 2]? = some (.string (nameT.getD t ⟨#[]⟩)) := by
  have all : ∀ k : Fin 14, typeCells[k.val * 2]? = some (.string (nameT.getD k.val ⟨#[]⟩)) := by
    intro k
    match k with
    | ⟨0, _⟩ | ⟨1, _⟩ | ⟨2, _⟩ | ⟨3, _⟩ | ⟨4, _⟩ | ⟨5, _⟩ | ⟨6, _⟩ | ⟨7, _⟩ | ⟨8, _⟩ | ⟨9, _⟩ | ⟨10, _⟩ | ⟨11, _⟩ | ⟨12, _⟩ | ⟨13, _⟩ => rfl
  exact all ⟨t, h⟩

theorem refName_any (e : Int) (h0 : -9223372036854775808 ≤ e) (h1 : e ≤ 9223372036854775807) (w : World) :
    Calls Tryd.prog 16 #[.int .i64 e] w fun x w' => x = .returned (.string (nameS e)) ∧ Below w.heap.size w w' := by
  unfold nameS
  cases hp : pairB e
  · have e1 : pairT e = 0 := by unfold pairT; rw [hp]; rfl
    have e2 : pairC e = 0 := by unfold pairC; rw [hp]; rfl
    have hR := refPair_any e w
    rw [e1, e2, hp] at hR
    by_cases he : e = 0
    · subst he
      go_enter Tryd.func16, Tryd.ntmps16
      go_wp2_with fail
      refine hR.mono ?_
      rintro x w1 ⟨rfl, hb1⟩
      go_wp2_with fail
      go_ret
      exact ⟨rfl, hb1⟩
    · rw [if_neg he]
      have c0 : (e == 0) = false := by simp [he]
      cases ho : ownB e
      · rw [if_neg (by simp), if_neg (by simp)]
        have hn : e < 10001 ∨ (10008 < e ∧ e ≠ 10337) := by unfold ownB at ho; simp at ho; omega
        rcases hn with hn | hn
        · have c1 : ¬ 10001 ≤ e := by omega
          have c2 : (e == 10337) = false := by simp; omega
          go_enter Tryd.func16, Tryd.ntmps16
          go_wp2_with fail
          refine hR.mono ?_
          rintro x w1 ⟨rfl, hb1⟩
          go_wp2_with fail
          go_ret
          exact ⟨rfl, hb1⟩
        · have c1 : ¬ e ≤ 10008 := by omega
          have c4 : 10001 ≤ e := by omega
          have c2 : (e == 10337) = false := by simp; omega
          go_enter Tryd.func16, Tryd.ntmps16
          go_wp2_with fail
          refine hR.mono ?_
          rintro x w1 ⟨rfl, hb1⟩
          go_wp2_with fail
          go_ret
          exact ⟨rfl, hb1⟩
      · rw [if_pos rfl]
        have hr : 10001 ≤ e ∧ (e ≤ 10008 ∨ (¬ e ≤ 10008 ∧ e = 10337)) := by unfold ownB at ho; simp at ho; omega
        obtain ⟨c4, hr⟩ := hr
        obtain ⟨n, hn⟩ : ∃ n : Nat, e - 10000 = n := ⟨(e - 10000).toNat, by omega⟩
        have hn3 : n < 1000 := by omega
        have hsz : (⟨(Lib.decDigits n).toArray⟩ : ByteArray).size ≤ 21 := by rw [← itoa_nat]; exact itoa_size n (by omega) (by omega)
        have a1 : ∀ w, (Op.stringOp .add ⟨#[111, 119, 110, 32]⟩ ⟨(Lib.decDigits n).toArray⟩).run Tryd.prog w = .ok (.string (⟨#[111, 119, 110, 32]⟩ ++ ⟨(Lib.decDigits n).toArray⟩)) w := fun w => run_string_add_sum w _ _ (by show 4 + _ ≤ _; omega)
        have e3 : (⟨#[111, 119, 110]⟩ ++ ⟨#[32]⟩ : ByteArray) = ⟨#[111, 119, 110, 32]⟩ := by decide
        rw [hn, itoa_nat, e3]
        clear hsz e3
        rcases hr with hr | ⟨hr, he2⟩
        · go_enter Tryd.func16, Tryd.ntmps16
          go_wp2_with fail
          refine hR.mono ?_
          rintro x w1 ⟨rfl, hb1⟩
          go_wp2_with fail
          refine (digits_3 n hn3 _).mono ?_
          rintro x w2 ⟨rfl, hb2⟩
          go_wp2_with fail
          go_ret
          exact ⟨rfl, hb1.trans (hb2.mono hb1.size)⟩
        · subst he2
          obtain rfl : n = 337 := by omega
          go_enter Tryd.func16, Tryd.ntmps16
          go_wp2_with fail
          refine hR.mono ?_
          rintro x w1 ⟨rfl, hb1⟩
          go_wp2_with fail
          refine (digits_3 337 hn3 _).mono ?_
          rintro x w2 ⟨rfl, hb2⟩
          go_wp2_with fail
          go_ret
          exact ⟨rfl, hb1.trans (hb2.mono hb1.size)⟩
  · obtain ⟨t0, t1, c0', c1, ee, cc⟩ := pair_in hp
    obtain ⟨t, ht⟩ := Int.eq_ofNat_of_zero_le t0
    obtain ⟨c, hc⟩ := Int.eq_ofNat_of_zero_le c0'
    have hR := refPair_any e w
    rw [ht, hc, hp] at hR
    rw [if_neg (by omega), if_neg (by unfold ownB; simp; omega), if_pos rfl, ht, hc, itoa_nat]
    have ht14 : (t : Int) < 14 := by omega
    have hc16 : c < 100 := by omega
    have hn : typeCells[t * 2]? = some (.string (nameT.getD t ⟨#[]⟩)) := typeName t (by omega)
    have hs := nameT_size t
    rw [Int.toNat_natCast]
    obtain ⟨s, hs'⟩ : ∃ s, nameT.getD t ⟨#[]⟩ = s := ⟨_, rfl⟩
    rw [hs'] at hn hs ⊢
    have hsz : (⟨(Lib.decDigits c).toArray⟩ : ByteArray).size ≤ 21 := by rw [← itoa_nat]; exact itoa_size c (by omega) (by omega)
    have one : (⟨#[32]⟩ : ByteArray).size = 1 := rfl
    have a1 : ∀ w, (Op.stringOp .add s ⟨#[32]⟩).run Tryd.prog w = .ok (.string (s ++ ⟨#[32]⟩)) w := fun w => run_string_add_sum w _ _ (by rw [one]; omega)
    have a2 : ∀ w, (Op.stringOp .add (s ++ ⟨#[32]⟩) ⟨(Lib.decDigits c).toArray⟩).run Tryd.prog w = .ok (.string (s ++ ⟨#[32]⟩ ++ ⟨(Lib.decDigits c).toArray⟩)) w := fun w => run_string_add_sum w _ _ (by rw [ByteArray.size_append, one]; omega)
    have HC : ∀ W : World, (W.alloc (.cells typeCells 42)).cell? ⟨W.heap.size, t * 2, none⟩ = some (.string s) := fun W => (typeCell W _).trans hn
    clear ee cc c1 t1 hs' hs one hsz ht hc hp c0' t0
    go_enter Tryd.func16, Tryd.ntmps16
    go_wp2_with fail
    refine hR.mono ?_
    rintro x w1 ⟨rfl, hb1⟩
    clear hR
    go_upto_region 3 with fail
    go_region_with (first | (go_at_call 17; refine (refTypes_any _).mono ?_; rintro e w' ⟨rfl, rfl⟩) | (go_at_call 25; refine (digits_2 c hc16 _).mono ?_; rintro e w5 ⟨rfl, hb5⟩; have hc5 : w5.cell? ⟨w1.heap.size, t * 2, none⟩ = some (.string s) := (hb5.cell (by simp)).trans (by simpa using HC w1)))
    all_goals
      go_wp2_with fail
      go_ret
      refine ⟨rfl, Below.trans ?_ (hb5.mono ?_)⟩
      · repeat (first | exact hb1 | refine Below.drew ?_ | refine Below.alloc ?_ (by have := hb1.size; simp; omega) _)
      · have := hb1.size
        simp
        omega
end Go.Proofs.YtlglgkigcompdaaDoor
