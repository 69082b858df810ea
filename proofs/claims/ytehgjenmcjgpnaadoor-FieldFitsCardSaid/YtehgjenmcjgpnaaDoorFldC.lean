/- Package field: a field told; the document's table, and a field out of it. -/
import Derived.Test.YtehgjenmcjgpnaaDoorFldB
import Derived.Test.YtehgjenmcjgpnaaDoorCells
namespace Go.Proofs.YtehgjenmcjgpnaaDoor
open Go.RowKit

set_option maxRecDepth 100000 in
theorem asked_in (n : Int) (h : 0 ≤ n ∧ n < 40) (w : World) :
    Calls Tryd.prog 21 #[.int .i64 n] w fun e w' => ∃ v, e = .returned (.tuple #[.int .i64 (fld n).d, v]) ∧ U64s7 w' v (fld n).v ∧ New7 w v ∧ Below w.heap.size w w' := by
  rcases forty h with rfl | rfl | rfl | rfl | rfl | rfl | rfl | rfl | rfl | rfl | rfl | rfl | rfl | rfl | rfl | rfl | rfl | rfl | rfl | rfl | rfl | rfl | rfl | rfl | rfl | rfl | rfl | rfl | rfl | rfl | rfl | rfl | rfl | rfl | rfl | rfl | rfl | rfl | rfl | rfl
  · exact asked_none (d := -1) (by kernel_rfl)
  · exact asked_none (d := 0) (by kernel_rfl)
  · exact asked_none (d := -1) (by kernel_rfl)
  · exact asked_none (d := -1) (by kernel_rfl)
  · exact asked_none (d := -1) (by kernel_rfl)
  · exact asked_none (d := -1) (by kernel_rfl)
  · exact asked_none (d := -1) (by kernel_rfl)
  · exact asked_none (d := 6) (by kernel_rfl)
  · exact asked_8 w
  · exact asked_9 w
  · exact asked_10 w
  · exact asked_lit (d := 5) (l := [2048]) (by kernel_rfl)
  · exact asked_lit (d := 5) (l := [2048]) (by kernel_rfl)
  · exact asked_lit (d := 10) (l := [6]) (by kernel_rfl)
  · exact asked_lit (d := 10) (l := [6]) (by kernel_rfl)
  · exact asked_lit (d := 10) (l := [17]) (by kernel_rfl)
  · exact asked_lit (d := 10) (l := [17]) (by kernel_rfl)
  · exact asked_lit (d := 10) (l := [132]) (by kernel_rfl)
  · exact asked_lit (d := 10) (l := [132]) (by kernel_rfl)
  · exact asked_lit (d := 10) (l := [1]) (by kernel_rfl)
  · exact asked_lit (d := 10) (l := [1]) (by kernel_rfl)
  · exact asked_lit (d := 5) (l := [2054]) (by kernel_rfl)
  · exact asked_lit (d := 5) (l := [2054]) (by kernel_rfl)
  · exact asked_lit (d := 5) (l := [2054]) (by kernel_rfl)
  · exact asked_lit (d := 5) (l := [2054]) (by kernel_rfl)
  · exact asked_lit (d := 5) (l := [2054]) (by kernel_rfl)
  · exact asked_26 w
  · exact asked_27 w
  · exact asked_28 w
  · exact asked_lit (d := 10) (l := [58]) (by kernel_rfl)
  · exact asked_lit (d := 10) (l := [58]) (by kernel_rfl)
  · exact asked_lit (d := 29) (l := [135, 136]) (by kernel_rfl)
  · exact asked_lit (d := 29) (l := [135]) (by kernel_rfl)
  · exact asked_lit (d := 29) (l := [136]) (by kernel_rfl)
  · exact asked_lit (d := 5) (l := [34887, 34888]) (by kernel_rfl)
  · exact asked_lit (d := 5) (l := [34887, 34888]) (by kernel_rfl)
  · exact asked_lit (d := 5) (l := [34887, 34888]) (by kernel_rfl)
  · exact asked_lit (d := 5) (l := [35047]) (by kernel_rfl)
  · exact asked_none (d := -1) (by kernel_rfl)
  · exact asked_39 w

/-- a field, as the program tells it -/
def fldV (f : Fld) (v : Value) : Value := .agg #[.int .i64 f.b, .int .i64 f.z, .bool f.m, .int .i64 f.d, v]

theorem fldOf_box (w : World) : ∃ W, w.alloc (.cells #[.int .i64 0, .int .i64 0, .bool false, .int .i64 0, .slice none 0 0] 25) = W ∧ Below w.heap.size w W ∧ BoxL W w.heap.size [.int .i64 0, .int .i64 0, .bool false, .int .i64 0, .slice none 0 0] :=
  ⟨_, rfl, below_alloc _ _, BoxL.new _ _ _⟩

set_option maxRecDepth 100000 in
set_option maxHeartbeats 1000000 in
theorem fldOf_in (n : Int) (h : 0 ≤ n ∧ n < 40) (w : World) :
    Calls Tryd.prog 7 #[.int .i64 n] w fun e w' => ∃ v, e = .returned (.tuple #[fldV (fld n) v, .bool true]) ∧ U64s7 w' v (fld n).v ∧ Below w.heap.size w w' := by
  have HF := hid (fun W => isField_any n W)
  have e1 : decide (0 ≤ n ∧ n < 40) = true := by simp [h]
  have HW := hid (fun W => width_in n h W)
  have HA := hid (fun W => asked_in n h W)
  obtain ⟨s0, s1, s2⟩ := size_fld n h
  have HS := hid (fun W => fldSize_any (fld n).b s0 s1 W)
  rw [s2] at HS
  obtain ⟨f, hf⟩ : ∃ f, fld n = f := ⟨_, rfl⟩
  rw [hf] at HW HA HS ⊢
  rw [e1] at HF
  obtain ⟨W, hW, hbW, hbox⟩ := fldOf_box w
  have HW0 := hid hW
  clear h hf s0 s1 s2 e1 hW
  go_enter Tryd.func7, Tryd.ntmps7
  go_wp2_with fail
  rw [HW0.out]
  refine (HF.out _).mono ?_
  rintro e w' ⟨rfl, rfl⟩
  go_wp2_with fail
  refine (HW.out _).mono ?_
  rintro e w' ⟨rfl, rfl⟩
  go_wp2_with fail
  refine (HA.out _).mono ?_
  rintro e w1 ⟨v, rfl, hv, hnew, hb⟩
  obtain ⟨a, c, rfl, hI⟩ := hv
  have hbox1 := hbox.below hb
  obtain ⟨d0, d1, d2, d3, d4⟩ := hbox1.five
  have z := hbox1.free
  go_wp2_with fail
  refine (HS.out _).mono ?_
  rintro e w' ⟨rfl, rfl⟩
  have hk := hbox1.set5 (.int .i64 f.b) (.int .i64 f.z) (.bool f.m) (.int .i64 f.d) (.slice a f.v.length c)
  obtain ⟨k0, k1, k2, k3, k4⟩ := hk.five
  have hlt := hbox.lt
  go_wp2_with fail
  refine bodyPost_ret (v := .tuple #[fldV f (.slice a f.v.length c), .bool true]) (by simp [results, Tryd.results7, go_sem, fldV, k0, k1, k2, k3, k4]) rfl ⟨_, rfl, ⟨_, _, rfl, ?_⟩, ?_⟩
  · have hne : ∀ q : Addr, a = some q → q.block ≠ w.heap.size := by
      rintro q rfl e
      have := hnew q.block rfl
      omega
    exact ((((hI.apart _ hne).apart _ hne).apart _ hne).apart _ hne).apart _ hne
  · repeat (with_reducible refine Below.setCell ?_ (by simp) _)
    exact below_on hbW hb
end Go.Proofs.YtehgjenmcjgpnaaDoor
