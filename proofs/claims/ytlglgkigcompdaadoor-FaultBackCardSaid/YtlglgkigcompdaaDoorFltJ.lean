/- Package fault: the error of a name. -/
import Derived.Test.YtlglgkigcompdaaDoorFltI
namespace Go.Proofs.YtlglgkigcompdaaDoor
open Go.RowKit Go.Shelf

/-- the type of a name; 14, if there is none -/
def typeL (s : ByteArray) : Nat := nameT.findIdx (fun x => x.toList == s.toList)

theorem nameT_get {k : Nat} (h : k < 14) : ∃ g : k < nameT.length, nameT.getD k ⟨#[]⟩ = nameT[k] := by
  refine ⟨h, ?_⟩
  rw [List.getD_eq_getElem?_getD, List.getElem?_eq_getElem (show k < nameT.length from h)]
  rfl
theorem typeL_at {s : ByteArray} {k : Nat} (h : k < 14) (he : ((nameT.getD k ⟨#[]⟩).toList == s.toList) = true) (hn : ∀ j, j < k → ((nameT.getD j ⟨#[]⟩).toList == s.toList) = false) : typeL s = k := by
  unfold typeL
  obtain ⟨g, e⟩ := nameT_get h
  rw [List.findIdx_eq g]
  refine ⟨by rw [← e]; exact he, fun j hj => ?_⟩
  obtain ⟨g', e'⟩ := nameT_get (show j < 14 by omega)
  rw [← e']
  exact hn j hj
theorem typeL_none {s : ByteArray} (hn : ∀ j, j < 14 → ((nameT.getD j ⟨#[]⟩).toList == s.toList) = false) : typeL s = 14 := by
  unfold typeL
  show _ = nameT.length
  rw [List.findIdx_eq_length]
  intro x hx
  obtain ⟨j, hj, rfl⟩ := List.getElem_of_mem hx
  obtain ⟨g', e'⟩ := nameT_get (show j < 14 from hj)
  rw [← e']
  exact hn j hj

theorem namesAt (k : Nat) (h : k < 14) (w : World) :
    (Instr.index 55 (.agg #[.string ⟨#[104, 101, 108, 108, 111]⟩, .string ⟨#[114, 101, 113, 117, 101, 115, 116]⟩, .string ⟨#[97, 99, 116, 105, 111, 110]⟩, .string ⟨#[105, 110, 115, 116, 114, 117, 99, 116, 105, 111, 110]⟩, .string ⟨#[109, 97, 116, 99, 104]⟩, .string ⟨#[102, 108, 111, 119]⟩, .string ⟨#[103, 114, 111, 117, 112]⟩, .string ⟨#[112, 111, 114, 116]⟩, .string ⟨#[116, 97, 98, 108, 101]⟩, .string ⟨#[113, 117, 101, 117, 101]⟩, .string ⟨#[99, 111, 110, 102, 105, 103]⟩, .string ⟨#[114, 111, 108, 101]⟩, .string ⟨#[109, 101, 116, 101, 114]⟩, .string ⟨#[102, 101, 97, 116, 117, 114, 101, 115]⟩]) (.int .i64 (k : Int))).run Tryd.prog w = .ok (.string (nameT.getD k ⟨#[]⟩)) w := by
  have i0 : (Instr.index 55 (.agg #[.string ⟨#[104, 101, 108, 108, 111]⟩, .string ⟨#[114, 101, 113, 117, 101, 115, 116]⟩, .string ⟨#[97, 99, 116, 105, 111, 110]⟩, .string ⟨#[105, 110, 115, 116, 114, 117, 99, 116, 105, 111, 110]⟩, .string ⟨#[109, 97, 116, 99, 104]⟩, .string ⟨#[102, 108, 111, 119]⟩, .string ⟨#[103, 114, 111, 117, 112]⟩, .string ⟨#[112, 111, 114, 116]⟩, .string ⟨#[116, 97, 98, 108, 101]⟩, .string ⟨#[113, 117, 101, 117, 101]⟩, .string ⟨#[99, 111, 110, 102, 105, 103]⟩, .string ⟨#[114, 111, 108, 101]⟩, .string ⟨#[109, 101, 116, 101, 114]⟩, .string ⟨#[102, 101, 97, 116, 117, 114, 101, 115]⟩]) (.int .i64 0)).run Tryd.prog w = .ok (.string ⟨#[104, 101, 108, 108, 111]⟩) w := by kernel_rfl
  have i1 : (Instr.index 55 (.agg #[.string ⟨#[104, 101, 108, 108, 111]⟩, .string ⟨#[114, 101, 113, 117, 101, 115, 116]⟩, .string ⟨#[97, 99, 116, 105, 111, 110]⟩, .string ⟨#[105, 110, 115, 116, 114, 117, 99, 116, 105, 111, 110]⟩, .string ⟨#[109, 97, 116, 99, 104]⟩, .string ⟨#[102, 108, 111, 119]⟩, .string ⟨#[103, 114, 111, 117, 112]⟩, .string ⟨#[112, 111, 114, 116]⟩, .string ⟨#[116, 97, 98, 108, 101]⟩, .string ⟨#[113, 117, 101, 117, 101]⟩, .string ⟨#[99, 111, 110, 102, 105, 103]⟩, .string ⟨#[114, 111, 108, 101]⟩, .string ⟨#[109, 101, 116, 101, 114]⟩, .string ⟨#[102, 101, 97, 116, 117, 114, 101, 115]⟩]) (.int .i64 1)).run Tryd.prog w = .ok (.string ⟨#[114, 101, 113, 117, 101, 115, 116]⟩) w := by kernel_rfl
  have i2 : (Instr.index 55 (.agg #[.string ⟨#[104, 101, 108, 108, 111]⟩, .string ⟨#[114, 101, 113, 117, 101, 115, 116]⟩, .string ⟨#[97, 99, 116, 105, 111, 110]⟩, .string ⟨#[105, 110, 115, 116, 114, 117, 99, 116, 105, 111, 110]⟩, .string ⟨#[109, 97, 116, 99, 104]⟩, .string ⟨#[102, 108, 111, 119]⟩, .string ⟨#[103, 114, 111, 117, 112]⟩, .string ⟨#[112, 111, 114, 116]⟩, .string ⟨#[116, 97, 98, 108, 101]⟩, .string ⟨#[113, 117, 101, 117, 101]⟩, .string ⟨#[99, 111, 110, 102, 105, 103]⟩, .string ⟨#[114, 111, 108, 101]⟩, .string ⟨#[109, 101, 116, 101, 114]⟩, .string ⟨#[102, 101, 97, 116, 117, 114, 101, 115]⟩]) (.int .i64 2)).run Tryd.prog w = .ok (.string ⟨#[97, 99, 116, 105, 111, 110]⟩) w := by kernel_rfl
  have i3 : (Instr.index 55 (.agg #[.string ⟨#[104, 101, 108, 108, 111]⟩, .string ⟨#[114, 101, 113, 117, 101, 115, 116]⟩, .string ⟨#[97, 99, 116, 105, 111, 110]⟩, .string ⟨#[105, 110, 115, 116, 114, 117, 99, 116, 105, 111, 110]⟩, .string ⟨#[109, 97, 116, 99, 104]⟩, .string ⟨#[102, 108, 111, 119]⟩, .string ⟨#[103, 114, 111, 117, 112]⟩, .string ⟨#[112, 111, 114, 116]⟩, .string ⟨#[116, 97, 98, 108, 101]⟩, .string ⟨#[113, 117, 101, 117, 101]⟩, .string ⟨#[99, 111, 110, 102, 105, 103]⟩, .string ⟨#[114, 111, 108, 101]⟩, .string ⟨#[109, 101, 116, 101, 114]⟩, .string ⟨#[102, 101, 97, 116, 117, 114, 101, 115]⟩]) (.int .i64 3)).run Tryd.prog w = .ok (.string ⟨#[105, 110, 115, 116, 114, 117, 99, 116, 105, 111, 110]⟩) w := by kernel_rfl
  have i4 : (Instr.index 55 (.agg #[.string ⟨#[104, 101, 108, 108, 111]⟩, .string ⟨#[114, 101, 113, 117, 101, 115, 116]⟩, .string ⟨#[97, 99, 116, 105, 111, 110]⟩, .string ⟨#[105, 110, 115, 116, 114, 117, 99, 116, 105, 111, 110]⟩, .string ⟨#[109, 97, 116, 99, 104]⟩, .string ⟨#[102, 108, 111, 119]⟩, .string ⟨#[103, 114, 111, 117, 112]⟩, .string ⟨#[112, 111, 114, 116]⟩, .string ⟨#[116, 97, 98, 108, 101]⟩, .string ⟨#[113, 117, 101, 117, 101]⟩, .string ⟨#[99, 111, 110, 102, 105, 103]⟩, .string ⟨#[114, 111, 108, 101]⟩, .string ⟨#[109, 101, 116, 101, 114]⟩, .string ⟨#[102, 101, 97, 116, 117, 114, 101, 115]⟩]) (.int .i64 4)).run Tryd.prog w = .ok (.string ⟨#[109, 97, 116, 99, 104]⟩) w := by kernel_rfl
  have i5 : (Instr.index 55 (.agg #[.string ⟨#[104, 101, 108, 108, 111]⟩, .string ⟨#[114, 101, 113, 117, 101, 115, 116]⟩, .string ⟨#[97, 99, 116, 105, 111, 110]⟩, .string ⟨#[105, 110, 115, 116, 114, 117, 99, 116, 105, 111, 110]⟩, .string ⟨#[109, 97, 116, 99, 104]⟩, .string ⟨#[102, 108, 111, 119]⟩, .string ⟨#[103, 114, 111, 117, 112]⟩, .string ⟨#[112, 111, 114, 116]⟩, .string ⟨#[116, 97, 98, 108, 101]⟩, .string ⟨#[113, 117, 101, 117, 101]⟩, .string ⟨#[99, 111, 110, 102, 105, 103]⟩, .string ⟨#[114, 111, 108, 101]⟩, .string ⟨#[109, 101, 116, 101, 114]⟩, .string ⟨#[102, 101, 97, 116, 117, 114, 101, 115]⟩]) (.int .i64 5)).run Tryd.prog w = .ok (.string ⟨#[102, 108, 111, 119]⟩) w := by kernel_rfl
  have i6 : (Instr.index 55 (.agg #[.string ⟨#[104, 101, 108, 108, 111]⟩, .string ⟨#[114, 101, 113, 117, 101, 115, 116]⟩, .string ⟨#[97, 99, 116, 105, 111, 110]⟩, .string ⟨#[105, 110, 115, 116, 114, 117, 99, 116, 105, 111, 110]⟩, .string ⟨#[109, 97, 116, 99, 104]⟩, .string ⟨#[102, 108, 111, 119]⟩, .string ⟨#[103, 114, 111, 117, 112]⟩, .string ⟨#[112, 111, 114, 116]⟩, .string ⟨#[116, 97, 98, 108, 101]⟩, .string ⟨#[113, 117, 101, 117, 101]⟩, .string ⟨#[99, 111, 110, 102, 105, 103]⟩, .string ⟨#[114, 111, 108, 101]⟩, .string ⟨#[109, 101, 116, 101, 114]⟩, .string ⟨#[102, 101, 97, 116, 117, 114, 101, 115]⟩]) (.int .i64 6)).run Tryd.prog w = .ok (.string ⟨#[103, 114, 111, 117, 112]⟩) w := by kernel_rfl
  have i7 : (Instr.index 55 (.agg #[.string ⟨#[104, 101, 108, 108, 111]⟩, .string ⟨#[114, 101, 113, 117, 101, 115, 116]⟩, .string ⟨#[97, 99, 116, 105, 111, 110]⟩, .string ⟨#[105, 110, 115, 116, 114, 117, 99, 116, 105, 111, 110]⟩, .string ⟨#[109, 97, 116, 99, 104]⟩, .string ⟨#[102, 108, 111, 119]⟩, .string ⟨#[103, 114, 111, 117, 112]⟩, .string ⟨#[112, 111, 114, 116]⟩, .string ⟨#[116, 97, 98, 108, 101]⟩, .string ⟨#[113, 117, 101, 117, 101]⟩, .string ⟨#[99, 111, 110, 102, 105, 103]⟩, .string ⟨#[114, 111, 108, 101]⟩, .string ⟨#[109, 101, 116, 101, 114]⟩, .string ⟨#[102, 101, 97, 116, 117, 114, 101, 115]⟩]) (.int .i64 7)).run Tryd.prog w = .ok (.string ⟨#[112, 111, 114, 116]⟩) w := by kernel_rfl
  have i8 : (Instr.index 55 (.agg #[.string ⟨#[104, 101, 108, 108, 111]⟩, .string ⟨#[114, 101, 113, 117, 101, 115, 116]⟩, .string ⟨#[97, 99, 116, 105, 111, 110]⟩, .string ⟨#[105, 110, 115, 116, 114, 117, 99, 116, 105, 111, 110]⟩, .string ⟨#[109, 97, 116, 99, 104]⟩, .string ⟨#[102, 108, 111, 119]⟩, .string ⟨#[103, 114, 111, 117, 112]⟩, .string ⟨#[112, 111, 114, 116]⟩, .string ⟨#[116, 97, 98, 108, 101]⟩, .string ⟨#[113, 117, 101, 117, 101]⟩, .string ⟨#[99, 111, 110, 102, 105, 103]⟩, .string ⟨#[114, 111, 108, 101]⟩, .string ⟨#[109, 101, 116, 101, 114]⟩, .string ⟨#[102, 101, 97, 116, 117, 114, 101, 115]⟩]) (.int .i64 8)).run Tryd.prog w = .ok (.string ⟨#[116, 97, 98, 108, 101]⟩) w := by kernel_rfl
  have i9 : (Instr.index 55 (.agg #[.string ⟨#[104, 101, 108, 108, 111]⟩, .string ⟨#[114, 101, 113, 117, 101, 115, 116]⟩, .string ⟨#[97, 99, 116, 105, 111, 110]⟩, .string ⟨#[105, 110, 115, 116, 114, 117, 99, 116, 105, 111, 110]⟩, .string ⟨#[109, 97, 116, 99, 104]⟩, .string ⟨#[102, 108, 111, 119]⟩, .string ⟨#[103, 114, 111, 117, 112]⟩, .string ⟨#[112, 111, 114, 116]⟩, .string ⟨#[116, 97, 98, 108, 101]⟩, .string ⟨#[113, 117, 101, 117, 101]⟩, .string ⟨#[99, 111, 110, 102, 105, 103]⟩, .string ⟨#[114, 111, 108, 101]⟩, .string ⟨#[109, 101, 116, 101, 114]⟩, .string ⟨#[102, 101, 97, 116, 117, 114, 101, 115]⟩]) (.int .i64 9)).run Tryd.prog w = .ok (.string ⟨#[113, 117, 101, 117, 101]⟩) w := by kernel_rfl
  have i10 : (Instr.index 55 (.agg #[.string ⟨#[104, 101, 108, 108, 111]⟩, .string ⟨#[114, 101, 113, 117, 101, 115, 116]⟩, .string ⟨#[97, 99, 116, 105, 111, 110]⟩, .string ⟨#[105, 110, 115, 116, 114, 117, 99, 116, 105, 111, 110]⟩, .string ⟨#[109, 97, 116, 99, 104]⟩, .string ⟨#[102, 108, 111, 119]⟩, .string ⟨#[103, 114, 111, 117, 112]⟩, .string ⟨#[112, 111, 114, 116]⟩, .string ⟨#[116, 97, 98, 108, 101]⟩, .string ⟨#[113, 117, 101, 117, 101]⟩, .string ⟨#[99, 111, 110, 102, 105, 103]⟩, .string ⟨#[114, 111, 108, 101]⟩, .string ⟨#[109, 101, 116, 101, 114]⟩, .string ⟨#[102, 101, 97, 116, 117, 114, 101, 115]⟩]) (.int .i64 10)).run Tryd.prog w = .ok (.string ⟨#[99, 111, 110, 102, 105, 103]⟩) w := by kernel_rfl
  have i11 : (Instr.index 55 (.agg #[.string ⟨#[104, 101, 108, 108, 111]⟩, .string ⟨#[114, 101, 113, 117, 101, 115, 116]⟩, .string ⟨#[97, 99, 116, 105, 111, 110]⟩, .string ⟨#[105, 110, 115, 116, 114, 117, 99, 116, 105, 111, 110]⟩, .string ⟨#[109, 97, 116, 99, 104]⟩, .string ⟨#[102, 108, 111, 119]⟩, .string ⟨#[103, 114, 111, 117, 112]⟩, .string ⟨#[112, 111, 114, 116]⟩, .string ⟨#[116, 97, 98, 108, 101]⟩, .string ⟨#[113, 117, 101, 117, 101]⟩, .string ⟨#[99, 111, 110, 102, 105, 103]⟩, .string ⟨#[114, 111, 108, 101]⟩, .string ⟨#[109, 101, 116, 101, 114]⟩, .string ⟨#[102, 101, 97, 116, 117, 114, 101, 115]⟩]) (.int .i64 11)).run Tryd.prog w = .ok (.string ⟨#[114, 111, 108, 101]⟩) w := by kernel_rfl
  have i12 : (Instr.index 55 (.agg #[.string ⟨#[104, 101, 108, 108, 111]⟩, .string ⟨#[114, 101, 113, 117, 101, 115, 116]⟩, .string ⟨#[97, 99, 116, 105, 111, 110]⟩, .string ⟨#[105, 110, 115, 116, 114, 117, 99, 116, 105, 111, 110]⟩, .string ⟨#[109, 97, 116, 99, 104]⟩, .string ⟨#[102, 108, 111, 119]⟩, .string ⟨#[103, 114, 111, 117, 112]⟩, .string ⟨#[112, 111, 114, 116]⟩, .string ⟨#[116, 97, 98, 108, 101]⟩, .string ⟨#[113, 117, 101, 117, 101]⟩, .string ⟨#[99, 111, 110, 102, 105, 103]⟩, .string ⟨#[114, 111, 108, 101]⟩, .string ⟨#[109, 101, 116, 101, 114]⟩, .string ⟨#[102, 101, 97, 116, 117, 114, 101, 115]⟩]) (.int .i64 12)).run Tryd.prog w = .ok (.string ⟨#[109, 101, 116, 101, 114]⟩) w := by kernel_rfl
  have i13 : (Instr.index 55 (.agg #[.string ⟨#[104, 101, 108, 108, 111]⟩, .string ⟨#[114, 101, 113, 117, 101, 115, 116]⟩, .string ⟨#[97, 99, 116, 105, 111, 110]⟩, .string ⟨#[105, 110, 115, 116, 114, 117, 99, 116, 105, 111, 110]⟩, .string ⟨#[109, 97, 116, 99, 104]⟩, .string ⟨#[102, 108, 111, 119]⟩, .string ⟨#[103, 114, 111, 117, 112]⟩, .string ⟨#[112, 111, 114, 116]⟩, .string ⟨#[116, 97, 98, 108, 101]⟩, .string ⟨#[113, 117, 101, 117, 101]⟩, .string ⟨#[99, 111, 110, 102, 105, 103]⟩, .string ⟨#[114, 111, 108, 101]⟩, .string ⟨#[109, 101, 116, 101, 114]⟩, .string ⟨#[102, 101, 97, 116, 117, 114, 101, 115]⟩]) (.int .i64 13)).run Tryd.prog w = .ok (.string ⟨#[102, 101, 97, 116, 117, 114, 101, 115]⟩) w := by kernel_rfl
  rcases (show k = 0 ∨ k = 1 ∨ k = 2 ∨ k = 3 ∨ k = 4 ∨ k = 5 ∨ k = 6 ∨ k = 7 ∨ k = 8 ∨ k = 9 ∨ k = 10 ∨ k = 11 ∨ k = 12 ∨ k = 13 from by omega) with rfl | rfl | rfl | rfl | rfl | rfl | rfl | rfl | rfl | rfl | rfl | rfl | rfl | rfl
  · exact i0
  · exact i1
  · exact i2
  · exact i3
  · exact i4
  · exact i5
  · exact i6
  · exact i7
  · exact i8
  · exact i9
  · exact i10
  · exact i11
  · exact i12
  · exact i13

theorem typeOf_any (s : ByteArray) (w : World) (hL : Laid w) :
    Calls Tryd.prog 22 #[.string s] w fun x w' => x = .returned (.int .i64 (typeL s)) ∧ w = w' := by
  have n0 : w.cell? ⟨0, 0, none⟩ = some (.string ⟨#[104, 101, 108, 108, 111]⟩) := hL.names 0 (by omega)
  have n1 : w.cell? ⟨0, 1, none⟩ = some (.string ⟨#[114, 101, 113, 117, 101, 115, 116]⟩) := hL.names 1 (by omega)
  have n2 : w.cell? ⟨0, 2, none⟩ = some (.string ⟨#[97, 99, 116, 105, 111, 110]⟩) := hL.names 2 (by omega)
  have n3 : w.cell? ⟨0, 3, none⟩ = some (.string ⟨#[105, 110, 115, 116, 114, 117, 99, 116, 105, 111, 110]⟩) := hL.names 3 (by omega)
  have n4 : w.cell? ⟨0, 4, none⟩ = some (.string ⟨#[109, 97, 116, 99, 104]⟩) := hL.names 4 (by omega)
  have n5 : w.cell? ⟨0, 5, none⟩ = some (.string ⟨#[102, 108, 111, 119]⟩) := hL.names 5 (by omega)
  have n6 : w.cell? ⟨0, 6, none⟩ = some (.string ⟨#[103, 114, 111, 117, 112]⟩) := hL.names 6 (by omega)
  have n7 : w.cell? ⟨0, 7, none⟩ = some (.string ⟨#[112, 111, 114, 116]⟩) := hL.names 7 (by omega)
  have n8 : w.cell? ⟨0, 8, none⟩ = some (.string ⟨#[116, 97, 98, 108, 101]⟩) := hL.names 8 (by omega)
  have n9 : w.cell? ⟨0, 9, none⟩ = some (.string ⟨#[113, 117, 101, 117, 101]⟩) := hL.names 9 (by omega)
  have n10 : w.cell? ⟨0, 10, none⟩ = some (.string ⟨#[99, 111, 110, 102, 105, 103]⟩) := hL.names 10 (by omega)
  have n11 : w.cell? ⟨0, 11, none⟩ = some (.string ⟨#[114, 111, 108, 101]⟩) := hL.names 11 (by omega)
  have n12 : w.cell? ⟨0, 12, none⟩ = some (.string ⟨#[109, 101, 116, 101, 114]⟩) := hL.names 12 (by omega)
  have n13 : w.cell? ⟨0, 13, none⟩ = some (.string ⟨#[102, 101, 97, 116, 117, 114, 101, 115]⟩) := hL.names 13 (by omega)
  clear hL
  go_enter Tryd.func22, Tryd.ntmps22
  go_wp2_with fail
  clear n0 n1 n2 n3 n4 n5 n6 n7 n8 n9 n10 n11 n12 n13
  have HI := hid (fun k h => namesAt k h w)
  go_loop [6] (fun i => ∃ k : Nat, k ≤ 14 ∧ i = .int .i64 k ∧ Hid (∀ j, j < k → ((nameT.getD j ⟨#[]⟩).toList == s.toList) = false)) (fun i => 14 - (intOf i).toNat)
  case atStart => exact ⟨0, by omega, rfl, fun j h => by omega⟩
  case round =>
    obtain ⟨k, hk, rfl, hn⟩ := hrel
    by_cases hlt : k < 14
    · have hk2 : (k : Int) < 14 := by omega
      have hix := HI.out k hlt
      obtain ⟨x, hx⟩ : ∃ x, nameT.getD k ⟨#[]⟩ = x := ⟨_, rfl⟩
      rw [hx] at hix
      have HX := hid hx
      clear hx
      cases he : x.toList == s.toList
      · have hn' : ∀ j, j < k + 1 → ((nameT.getD j ⟨#[]⟩).toList == s.toList) = false := by
          intro j hj
          rcases Nat.lt_or_ge j k with h1 | h1
          · exact hn.out j h1
          · obtain rfl : j = k := by omega
            rw [HX.out]
            exact he
        have HN := hid hn'
        clear hn'
        go_wp2_with fail
        go_round
        case rel => exact ⟨k + 1, by omega, by go_num, HN⟩
        case measure => simp [intOf]; omega
      · have HT := hid (typeL_at hlt (by rw [HX.out]; exact he) hn.out)
        go_wp2_with fail
        go_ret
        exact ⟨by rw [HT.out]; rfl, rfl⟩
    · obtain rfl : k = 14 := by omega
      have HT := hid (typeL_none hn.out)
      go_wp2_with fail
      go_ret
      exact ⟨by rw [HT.out]; rfl, rfl⟩

/-- the program's own error of a number; 0, if there is none -/
def ownL (n : Int) : Int := if ownB (10000 + n) then 10000 + n else 0

theorem makeOwn_any (n : Int) (h0 : -9223372036854775808 ≤ n) (h1 : n ≤ 9223372036854775807) (w : World) :
    Calls Tryd.prog 21 #[.int .i64 n] w fun x w' => x = .returned (.tuple #[.int .i64 (ownL n), .bool (ownB (10000 + n))]) ∧ w = w' := by
  unfold ownL
  rcases (show n < 0 ∨ 337 < n ∨ (0 ≤ n ∧ n ≤ 337) from by omega) with h | h | ⟨h, h'⟩
  · have ho : ownB (10000 + n) = false := by unfold ownB; simp; omega
    rw [ho]
    go_enter Tryd.func21, Tryd.ntmps21
    go_wp2_with fail
    go_ret2
    exact ⟨rfl, rfl⟩
  · have ho : ownB (10000 + n) = false := by unfold ownB; simp; omega
    have c0 : ¬ n < 0 := by omega
    rw [ho]
    go_enter Tryd.func21, Tryd.ntmps21
    go_wp2_with fail
    go_ret2
    exact ⟨rfl, rfl⟩
  · have c0 : ¬ n < 0 := by omega
    have c1 : ¬ 337 < n := by omega
    cases ho : ownB (10000 + n)
    all_goals
      go_enter Tryd.func21, Tryd.ntmps21
      go_wp2_with (go_at_call 24; refine (isOwn_any _ _).mono ?_; rintro x w' ⟨rfl, rfl⟩; rw [ho])
      go_ret2
      exact ⟨rfl, rfl⟩
end Go.Proofs.YtlglgkigcompdaaDoor
