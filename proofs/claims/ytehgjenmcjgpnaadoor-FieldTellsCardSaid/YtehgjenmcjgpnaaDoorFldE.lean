/- Package field and the document's fields: names; which an action may set. -/
import Derived.Test.YtehgjenmcjgpnaaDoorFldD
namespace Go.Proofs.YtehgjenmcjgpnaaDoor
open Go.RowKit

/-- what the package-level variable holds that the program reads -/
structure FldLaid (w : World) : Prop where
  names : ∀ i, i < 40 → w.cell? ⟨0, i, none⟩ = some (.string (fldT.getD i fldNone).nm)
theorem FldLaid.below {w w' : World} (h : FldLaid w) (hb : Below w.heap.size w w') : FldLaid w' := ⟨fun i hi => cell_keep (h.names i hi) hb⟩

theorem fld_nat {k : Nat} (h : k < 40) : fld (k : Int) = fldT.getD k fldNone := by unfold fld; rw [if_pos (by omega)]; rfl

theorem fldName_any (n : Int) (w : World) (hL : FldLaid w) :
    Calls Tryd.prog 14 #[.int .i64 n] w fun e w' => e = .returned (.string (fld n).nm) ∧ w' = w := by
  have HF := hid (fun W => isField_any n W)
  by_cases h : 0 ≤ n ∧ n < 40
  · rw [decide_eq_true h] at HF
    obtain ⟨k, rfl⟩ := Int.eq_ofNat_of_zero_le h.1
    have hc := hL.names k (by omega)
    rw [fld_nat (by omega)]
    obtain ⟨x, hx⟩ : ∃ x, (fldT.getD k fldNone).nm = x := ⟨_, rfl⟩
    rw [hx] at hc ⊢
    have h0 : (0 : Int) ≤ (k : Int) := by omega
    have h1 : (k : Int) < 40 := h.2
    clear h hx hL
    go_enter Tryd.func14, Tryd.ntmps14
    go_wp2_with fail
    refine (HF.out _).mono ?_
    rintro e w' ⟨rfl, rfl⟩
    go_wp2_with fail
    go_ret
    exact ⟨rfl, rfl⟩
  · rw [decide_eq_false h] at HF
    rw [fld_out h]
    clear h hL
    go_enter Tryd.func14, Tryd.ntmps14
    go_wp2_with fail
    refine (HF.out _).mono ?_
    rintro e w' ⟨rfl, rfl⟩
    go_wp2_with fail
    go_ret
    exact ⟨rfl, rfl⟩

/-- the number of a name; 40, if there is none -/
def findN (s : ByteArray) : Nat := fldT.findIdx (fun f => f.nm.toList == s.toList)
def findI (s : ByteArray) : Int := if findN s < 40 then (findN s : Int) else 0
theorem fldT_get {k : Nat} (h : k < 40) : ∃ g : k < fldT.length, fldT.getD k fldNone = fldT[k] := by
  refine ⟨h, ?_⟩
  rw [List.getD_eq_getElem?_getD, List.getElem?_eq_getElem (show k < fldT.length from h)]
  rfl
theorem findN_at {s : ByteArray} {k : Nat} (h : k < 40) (he : ((fldT.getD k fldNone).nm.toList == s.toList) = true) (hn : ∀ j, j < k → ((fldT.getD j fldNone).nm.toList == s.toList) = false) : findN s = k := by
  unfold findN
  obtain ⟨g, e⟩ := fldT_get h
  rw [List.findIdx_eq g]
  refine ⟨by rw [← e]; exact he, fun j hj => ?_⟩
  obtain ⟨g', e'⟩ := fldT_get (show j < 40 by omega)
  rw [← e']
  exact hn j hj
theorem findN_none {s : ByteArray} (hn : ∀ j, j < 40 → ((fldT.getD j fldNone).nm.toList == s.toList) = false) : findN s = 40 := by
  unfold findN
  show _ = fldT.length
  rw [List.findIdx_eq_length]
  intro x hx
  obtain ⟨j, hj, rfl⟩ := List.getElem_of_mem hx
  obtain ⟨g', e'⟩ := fldT_get (show j < 40 from hj)
  rw [← e']
  exact hn j hj
/-- what Find tells -/
def findV (s : ByteArray) : Value := .tuple #[.int .i64 (findI s), .bool (decide (findN s < 40))]
theorem findV_at {s : ByteArray} {k : Nat} (h : k < 40) (e : findN s = k) : findV s = .tuple #[.int .i64 k, .bool true] := by
  unfold findV findI
  rw [e, if_pos h, decide_eq_true h]
theorem findV_none {s : ByteArray} (e : findN s = 40) : findV s = .tuple #[.int .i64 0, .bool false] := by
  unfold findV findI
  rw [e]
  rfl

/-- the array of names -/
def fldNames : List Value := fldT.map (fun f => .string f.nm)

set_option maxRecDepth 100000 in
theorem fldNamesAt (k : Nat) (h : k < 40) (w : World) :
    (Instr.index 49 (.agg fldNames.toArray) (.int .i64 (k : Int))).run Tryd.prog w = .ok (.string (fldT.getD k fldNone).nm) w := by
  rcases forty_nat h with rfl | rfl | rfl | rfl | rfl | rfl | rfl | rfl | rfl | rfl | rfl | rfl | rfl | rfl | rfl | rfl | rfl | rfl | rfl | rfl | rfl | rfl | rfl | rfl | rfl | rfl | rfl | rfl | rfl | rfl | rfl | rfl | rfl | rfl | rfl | rfl | rfl | rfl | rfl | rfl
  all_goals kernel_rfl

theorem run_load_cells {P : Program} (w : World) (g : Nat) (ty : TypeId) (l : List Value) (d : TypeDesc) (hc : ∀ j v, l[j]? = some v → w.cell? ⟨g, j, none⟩ = some v)
    (hu : P.underlying ty = some d) (hd : (match d with | .struct _ | .array _ _ => true | _ => false) = true) (hi : (P.info? ty).map (·.size) = some l.length) :
    (loadVar ty ⟨g, 0, none⟩).run P w = .ok (.agg l.toArray) w := by
  have hl : (loadCells ⟨g, 0, none⟩ l.length).run P w = .ok l.toArray w :=
    run_loadCells_list (P := P) w ⟨g, 0, none⟩ l (fun j v hv => by
      have hadd : (⟨g, 0, none⟩ : Addr).add j = ⟨g, j, none⟩ := by unfold Addr.add; split <;> simp_all
      rw [hadd]
      exact hc j v hv)
  cases hq : P.info? ty with
  | none => simp [hq] at hi
  | some i =>
    have hs : i.size = l.length := by simpa [hq] using hi
    have hagg : (isAgg ty).run P w = .ok true w := by
      unfold isAgg
      rw [Sem.run_bind, run_underlying hu w]
      cases d <;> simp_all
    simp [loadVar, Sem.run_bind, hagg, sizeOf, typeInfo, hq, hs, hl]
/-- a load of a whole array, of which the cells are known -/
theorem wp_load_cells {P : Program} {ops : Array Oper} {rest : List Oper} {o : Oper} {a : Act} {w : World} {Q : Exit → Act → World → Prop} (hgd : o.guard = none) (ty : TypeId) (x : Operand) (ho : o.op = .load ty x)
    (g : Nat) (hx : a.eval x = .pointer (some ⟨g, 0, none⟩)) (l : List Value) (d : TypeDesc) (hc : ∀ j v, l[j]? = some v → w.cell? ⟨g, j, none⟩ = some v)
    (hu : P.underlying ty = some d) (hd : (match d with | .struct _ | .array _ _ => true | _ => false) = true) (hi : (P.info? ty).map (·.size) = some l.length)
    (h : ∀ A, l.toArray = A → wpList P ops Q rest (a.put o.dst (.agg A)) w) : wpList P ops Q (o :: rest) a w :=
  wpList_plain hgd fun K hK => by
    unfold Oper.wp execOp
    simp only [ho, hx, Instr.loadAt, Instr.sureAddr, Sem.run_bind, Sem.run_pure, Result.andThen_ok, run_load_cells w g ty l d hc hu hd hi]
    exact hK _ _ (h _ rfl)
theorem FldLaid.cells {w : World} (h : FldLaid w) : ∀ j v, fldNames[j]? = some v → w.cell? ⟨0, j, none⟩ = some v := by
  intro j v hv
  unfold fldNames at hv
  rw [List.getElem?_map] at hv
  have hj : j < 40 := by
    rcases Nat.lt_or_ge j 40 with h' | h'
    · exact h'
    · rw [List.getElem?_eq_none (show fldT.length ≤ j from h')] at hv; simp at hv
  rw [h.names j hj]
  obtain ⟨g, e⟩ := fldT_get hj
  rw [List.getElem?_eq_getElem g] at hv
  simp at hv
  rw [e, ← hv]

theorem below_not {s : ByteArray} {k : Nat} (hn : ∀ j, j < k → ((fldT.getD j fldNone).nm.toList == s.toList) = false) (he : ((fldT.getD k fldNone).nm.toList == s.toList) = false) :
    ∀ j, j < k + 1 → ((fldT.getD j fldNone).nm.toList == s.toList) = false := by
  intro j hj
  rcases Nat.lt_or_ge j k with h1 | h1
  · exact hn j h1
  · obtain rfl : j = k := by omega
    exact he

set_option maxRecDepth 100000 in
set_option maxHeartbeats 2000000 in
theorem fldFind_any (s : ByteArray) (w : World) (hL : FldLaid w) :
    Calls Tryd.prog 9 #[.string s] w fun e w' => e = .returned (findV s) ∧ w' = w := by
  have HC := hid hL.cells
  clear hL
  go_enter Tryd.func9, Tryd.ntmps9
  go_wp2_with (refine wp_load_cells rfl 49 (.global 0) rfl 0 rfl fldNames (.array 40 9) HC.out Tryd.underlying49 rfl (by kernel_rfl) ?_; intro A hA)
  have HI : Hid (∀ k : Nat, k < 40 → (Instr.index 49 (.agg A) (.int .i64 (k : Int))).run Tryd.prog w = .ok (.string (fldT.getD k fldNone).nm) w) := by rw [← hA]; exact fun k h => fldNamesAt k h w
  clear hA HC
  go_loop [7] (fun i => ∃ k : Nat, k ≤ 40 ∧ i = .int .i64 k ∧ Hid (∀ j, j < k → ((fldT.getD j fldNone).nm.toList == s.toList) = false)) (fun i => 40 - (intOf i).toNat)
  case atStart => exact ⟨0, by omega, rfl, fun j h => by omega⟩
  case round =>
    obtain ⟨k, hk, rfl, hn⟩ := hrel
    by_cases hlt : k < 40
    · have hk2 : (k : Int) < 40 := by omega
      have hix := HI.out k hlt
      obtain ⟨x, hx⟩ : ∃ x, (fldT.getD k fldNone).nm = x := ⟨_, rfl⟩
      rw [hx] at hix
      cases he : x.toList == s.toList
      · have HN := hid (below_not hn.out (by rw [hx]; exact he))
        clear hx
        go_wp2_with fail
        go_round
        case rel => exact ⟨k + 1, by omega, by go_num, HN⟩
        case measure => simp [intOf]; omega
      · have HT := hid (findV_at hlt (findN_at hlt (by rw [hx]; exact he) hn.out))
        clear hx
        go_wp2_with fail
        go_ret2
        exact ⟨by rw [HT.out]; rfl, rfl⟩
    · obtain rfl : k = 40 := by omega
      have HT := hid (findV_none (findN_none hn.out))
      go_wp2_with fail
      go_ret2
      exact ⟨by rw [HT.out]; rfl, rfl⟩

set_option maxRecDepth 100000 in
set_option maxHeartbeats 2000000 in
theorem fldRefFind_any (s : ByteArray) (w : World) :
    Calls Tryd.prog 10 #[.string s] w fun e w' => e = .returned (findV s) ∧ Below w.heap.size w w' := by
  go_enter Tryd.func10, Tryd.ntmps10
  go_wp2_with fail
  refine (fldAll_any _).mono ?_
  rintro e w1 ⟨b, rfl, hT, hb⟩
  have HT := hid hT.2
  clear hT
  go_wp2_with fail
  go_loop [5] (fun i => ∃ k : Nat, k ≤ 40 ∧ i = .int .i64 k ∧ Hid (∀ j, j < k → ((fldT.getD j fldNone).nm.toList == s.toList) = false)) (fun i => 40 - (intOf i).toNat)
  case atStart => exact ⟨0, by omega, rfl, fun j h => by omega⟩
  case round =>
    obtain ⟨k, hk, rfl, hn⟩ := hrel
    by_cases hlt : k < 40
    · have hk2 : (k : Int) < 40 := by omega
      obtain ⟨v, ⟨r0, _, _, _, _, _, _⟩, _⟩ := HT.out k hlt
      obtain ⟨x, hx⟩ : ∃ x, (fldT.getD k fldNone).nm = x := ⟨_, rfl⟩
      rw [hx] at r0
      cases he : x.toList == s.toList
      · have HN := hid (below_not hn.out (by rw [hx]; exact he))
        clear hx
        go_wp2_with fail
        go_round
        case rel => exact ⟨k + 1, by omega, by go_num, HN⟩
        case measure => simp [intOf]; omega
      · have HV := hid (findV_at hlt (findN_at hlt (by rw [hx]; exact he) hn.out))
        clear hx
        go_wp2_with fail
        go_ret2
        exact ⟨by rw [HV.out]; rfl, hb⟩
    · obtain rfl : k = 40 := by omega
      have HV := hid (findV_none (findN_none hn.out))
      go_wp2_with fail
      go_ret2
      exact ⟨by rw [HV.out]; rfl, hb⟩
end Go.Proofs.YtehgjenmcjgpnaaDoor
