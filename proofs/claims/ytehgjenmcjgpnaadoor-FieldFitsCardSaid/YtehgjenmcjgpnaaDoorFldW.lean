/- What the row's condition on the package-level variable gives the walks of package field. -/
import Derived.Test.YtehgjenmcjgpnaaDoorFldK
import Derived.Test.YtehgjenmcjgpnaaDoorLaidStr
import Derived.Test.YtehgjenmcjgpnaaDoorShell
import Derived.Test.YtehgjenmcjgpnaaDoorRows
namespace Go.Proofs.YtehgjenmcjgpnaaDoor
open Go.ChangeShapes Go.WideShapes Go.RowKit

set_option maxRecDepth 100000 in
theorem fld_laid_of {W : World} (h : laidMetH Tryd.prog Rows.fieldTellsRow.laid W) : FldLaid W := by
  rw [MakeChecks.laidMetH_plain _ _ _ (by kernel_rfl)] at h
  refine ⟨fun i hi => ?_⟩
  have hc := strs_of_head (ss := fldT.map Fld.nm) (t := 49) (e := 9) (g := 0) (n := 40) h (by kernel_rfl) (by kernel_rfl) Tryd.underlying49 Tryd.underlying9 (by kernel_rfl) rfl i hi
  rw [hc]
  obtain ⟨g, e⟩ := fldT_get hi
  rw [e, List.getD_eq_getElem?_getD, List.getElem?_map, List.getElem?_eq_getElem g]
  rfl

/-- The heap that the program's own start leaves meets the condition. -/
theorem fld_door_met (os : Os) (args : Array Value) : laidMetH Tryd.prog Rows.fieldTellsRow.laid ((World.doorLaid Tryd.prog 400 os).forCall (fun _ _ => 0) ⟨#[], args, []⟩).memory :=
  laidMetH_of_parts3 (fuel := 8) (laidMet_of_run' 8 (by kernel_rfl) (by kernel_rfl)) (by kernel_rfl) (by kernel_rfl)
end Go.Proofs.YtehgjenmcjgpnaaDoor
