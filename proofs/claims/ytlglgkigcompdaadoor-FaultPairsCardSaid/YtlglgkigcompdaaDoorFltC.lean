/- The document's faults: types, codes. -/
import Derived.Test.YtlglgkigcompdaaDoorFltB
namespace Go.Proofs.YtlglgkigcompdaaDoor
open Go.RowKit

/-- the types' names -/
def nameT : List ByteArray := [⟨#[104, 101, 108, 108, 111]⟩, ⟨#[114, 101, 113, 117, 101, 115, 116]⟩, ⟨#[97, 99, 116, 105, 111, 110]⟩, ⟨#[105, 110, 115, 116, 114, 117, 99, 116, 105, 111, 110]⟩, ⟨#[109, 97, 116, 99, 104]⟩, ⟨#[102, 108, 111, 119]⟩, ⟨#[103, 114, 111, 117, 112]⟩, ⟨#[112, 111, 114, 116]⟩, ⟨#[116, 97, 98, 108, 101]⟩, ⟨#[113, 117, 101, 117, 101]⟩, ⟨#[99, 111, 110, 102, 105, 103]⟩, ⟨#[114, 111, 108, 101]⟩, ⟨#[109, 101, 116, 101, 114]⟩, ⟨#[102, 101, 97, 116, 117, 114, 101, 115]⟩]
/-- the document's types, as they lie -/
def typeCells : Array Value := #[.string ⟨#[104, 101, 108, 108, 111]⟩, .int .i64 2, .string ⟨#[114, 101, 113, 117, 101, 115, 116]⟩, .int .i64 14, .string ⟨#[97, 99, 116, 105, 111, 110]⟩, .int .i64 16, .string ⟨#[105, 110, 115, 116, 114, 117, 99, 116, 105, 111, 110]⟩, .int .i64 10, .string ⟨#[109, 97, 116, 99, 104]⟩, .int .i64 12, .string ⟨#[102, 108, 111, 119]⟩, .int .i64 8, .string ⟨#[103, 114, 111, 117, 112]⟩, .int .i64 15, .string ⟨#[112, 111, 114, 116]⟩, .int .i64 5, .string ⟨#[116, 97, 98, 108, 101]⟩, .int .i64 3, .string ⟨#[113, 117, 101, 117, 101]⟩, .int .i64 3, .string ⟨#[99, 111, 110, 102, 105, 103]⟩, .int .i64 3, .string ⟨#[114, 111, 108, 101]⟩, .int .i64 3, .string ⟨#[109, 101, 116, 101, 114]⟩, .int .i64 12, .string ⟨#[102, 101, 97, 116, 117, 114, 101, 115]⟩, .int .i64 6]

theorem refTypes_any (w : World) :
    Calls Tryd.prog 17 #[] w fun e w' => e = .returned (.slice (some ⟨w.heap.size, 0, none⟩) 14 14) ∧ w' = w.alloc (.cells typeCells 42) := by
  go_enter Tryd.func17, Tryd.ntmps17
  go_wp2
  go_ret
  exact ⟨rfl, rfl⟩

theorem typeCell (w : World) (i : Nat) : (w.alloc (.cells typeCells 42)).cell? ⟨w.heap.size, i, none⟩ = typeCells[i]? := by
  exact World.cell?_alloc_at _ _ _ _ rfl

theorem refCodes_low (t : Int) (w : World) (h : t < 0) :
    Calls Tryd.prog 11 #[.int .i64 t] w fun e w' => e = .returned (.int .i64 0) ∧ Below w.heap.size w w' := by
  go_enter Tryd.func11, Tryd.ntmps11
  go_wp2_with (go_at_call 17; refine (refTypes_any _).mono ?_; rintro e w' ⟨rfl, rfl⟩)
  go_ret
  exact ⟨rfl, (Below.refl _ _).alloc (Nat.le_refl _) _⟩
theorem refCodes_high (t : Int) (w : World) (h : 14 ≤ t) :
    Calls Tryd.prog 11 #[.int .i64 t] w fun e w' => e = .returned (.int .i64 0) ∧ Below w.heap.size w w' := by
  have h1 : ¬ t < 0 := by omega
  go_enter Tryd.func11, Tryd.ntmps11
  go_wp2_with (go_at_call 17; refine (refTypes_any _).mono ?_; rintro e w' ⟨rfl, rfl⟩)
  go_ret
  exact ⟨rfl, (Below.refl _ _).alloc (Nat.le_refl _) _⟩
theorem refCodes_in (t : Nat) (c : Int) (w : World) (h : t < 14) (hc : typeCells[t * 2 + 1]? = some (.int .i64 c)) :
    Calls Tryd.prog 11 #[.int .i64 t] w fun e w' => e = .returned (.int .i64 c) ∧ Below w.heap.size w w' := by
  have hcell := (typeCell w (t * 2 + 1)).trans hc
  clear hc
  go_enter Tryd.func11, Tryd.ntmps11
  go_wp2_with (go_at_call 17; refine (refTypes_any _).mono ?_; rintro e w' ⟨rfl, rfl⟩)
  go_ret
  exact ⟨rfl, (Below.refl _ _).alloc (Nat.le_refl _) _⟩
theorem refCodes_any (t : Int) (w : World) :
    Calls Tryd.prog 11 #[.int .i64 t] w fun e w' => e = .returned (.int .i64 (codesL t)) ∧ Below w.heap.size w w' := by
  rcases (show t < 0 ∨ 14 ≤ t ∨ (0 ≤ t ∧ t < 14) from by omega) with h | h | h
  · rw [codesL_out (.inl h)]; exact refCodes_low t w h
  · rw [codesL_out (.inr (by omega))]; exact refCodes_high t w h
  · obtain ⟨k, rfl⟩ := Int.eq_ofNat_of_zero_le h.1
    refine refCodes_in k _ w (by omega) ?_
    have hk : k < 14 := by omega
    have all : ∀ k : Fin 14, typeCells[k.val * 2 + 1]? = some (.int .i64 (codesL (k.val : Int))) := by
      intro k
      match k with
      | ⟨0, _⟩ | ⟨1, _⟩ | ⟨2, _⟩ | ⟨3, _⟩ | ⟨4, _⟩ | ⟨5, _⟩ | ⟨6, _⟩ | ⟨7, _⟩ | ⟨8, _⟩ | ⟨9, _⟩ | ⟨10, _⟩ | ⟨11, _⟩ | ⟨12, _⟩ | ⟨13, _⟩ => rfl
    exact all ⟨k, hk⟩
end Go.Proofs.YtlglgkigcompdaaDoor
