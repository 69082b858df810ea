/- Put together out of several texts. -/
import Derived.Test.YtdjlbejhphbcoaaGreatR11
import Derived.Test.YtdjlbejhphbcoaaGreatR1
import Derived.Test.YtdjlbejhphbcoaaGreatR15
import Derived.Test.YtdjlbejhphbcoaaGreatR17
import Derived.Test.YtdjlbejhphbcoaaGreatR18
import Derived.RangeFuncNested
import Derived.RangeFuncLeaves
import Derived.OwnWalkIn
import Derived.TacticsInMore
import Derived.Test.YtdjlbejhphbcoaaGreatR23
namespace Go.Proofs.YtdjlbejhphbcoaaGreat
open Go.ChangeShapes Go.WideShapes Go.RowKit Go.Deep
set_option linter.unusedVariables false
set_option maxRecDepth 100000

theorem Ent12.cs_length (g : Ent12) : g.cs.length = 10 := rfl
/-- a slice of actions that lies at a -/
def Acts (w : World) (a : Option Addr) (l : List Ent12) : Prop :=
  ∀ i, (hi : i < l.length) → ∃ b off, a = some ⟨b, off, none⟩ ∧ ∀ j, j < 10 → w.cell? ⟨b, off + i * 10 + j, none⟩ = (l[i].cs)[j]?
/-- an action of it, cell by cell -/
theorem Acts.ten {w : World} {b off : Nat} {l : List Ent12} (h : Acts w (some ⟨b, off, none⟩) l) (i : Nat) (hi : i < l.length) :
    w.cell? ⟨b, off + i * 10, none⟩ = some (.int .i64 l[i].T) ∧ w.cell? ⟨b, off + i * 10 + 1, none⟩ = some (.int .u64 l[i].A) ∧ w.cell? ⟨b, off + i * 10 + 2, none⟩ = some (.int .u64 l[i].B) ∧ w.cell? ⟨b, off + i * 10 + 3, none⟩ = some (.int .i64 l[i].o.C) ∧ w.cell? ⟨b, off + i * 10 + 4, none⟩ = some (.int .i64 l[i].o.F) ∧ w.cell? ⟨b, off + i * 10 + 5, none⟩ = some (.bool l[i].o.H) ∧ w.cell? ⟨b, off + i * 10 + 6, none⟩ = some (.int .u64 l[i].o.X) ∧ w.cell? ⟨b, off + i * 10 + 7, none⟩ = some (.slice l[i].va l[i].o.v.length l[i].vc) ∧ w.cell? ⟨b, off + i * 10 + 8, none⟩ = some (.slice l[i].ma l[i].o.m.length l[i].mc) ∧ w.cell? ⟨b, off + i * 10 + 9, none⟩ = some (.slice l[i].da l[i].d.length l[i].dc) := by
  obtain ⟨b', off', he, hc⟩ := h i hi
  simp only [Option.some.injEq, Addr.mk.injEq] at he
  obtain ⟨rfl, rfl, _⟩ := he
  exact ⟨hc 0 (by omega), hc 1 (by omega), hc 2 (by omega), hc 3 (by omega), hc 4 (by omega), hc 5 (by omega), hc 6 (by omega), hc 7 (by omega), hc 8 (by omega), hc 9 (by omega)⟩
theorem act_cell (g : Ent12) {j : Nat} (hj : j < 10) : ∃ v, (g.cs)[j]? = some v := ⟨_, List.getElem?_eq_getElem (by rw [g.cs_length]; exact hj)⟩
theorem Acts.below {w w' : World} {a : Option Addr} {l : List Ent12} (h : Acts w a l) (hb : Below w.heap.size w w') : Acts w' a l := by
  intro i hi
  obtain ⟨b, off, ha, hc⟩ := h i hi
  refine ⟨b, off, ha, fun j hj => ?_⟩
  obtain ⟨v, hv⟩ := act_cell l[i] hj
  have k := hc j hj
  rw [hv] at k ⊢
  exact cell_keep k hb
theorem Acts.nil (w : World) (a : Option Addr) : Acts w a [] := fun i hi => absurd hi (by simp)
/-- the actions' cells, one behind the other -/
def actCells (l : List Ent12) : List Value := l.flatMap Ent12.cs
theorem actCells_snoc (l : List Ent12) (h : Ent12) : actCells (l ++ [h]) = actCells l ++ h.cs := by simp [actCells]
theorem actCells_append (l m : List Ent12) : actCells (l ++ m) = actCells l ++ actCells m := by simp [actCells]
theorem actCells_length (l : List Ent12) : (actCells l).length = l.length * 10 := by
  induction l with
  | nil => rfl
  | cons h l ih =>
    have e : actCells (h :: l) = h.cs ++ actCells l := by simp [actCells]
    rw [e, List.length_append, ih, h.cs_length, List.length_cons]
    omega
theorem actCells_at (l : List Ent12) (i : Nat) (hi : i < l.length) (j : Nat) (hj : j < 10) : (actCells l)[i * 10 + j]? = (l[i].cs)[j]? := by
  induction l generalizing i with
  | nil => simp at hi
  | cons h l ih =>
    have e : actCells (h :: l) = h.cs ++ actCells l := by simp [actCells]
    have hl : h.cs.length = 10 := rfl
    rw [e]
    cases i with
    | zero => rw [Nat.zero_mul, Nat.zero_add, List.getElem?_append_left (by omega)]; rfl
    | succ i =>
      rw [List.getElem?_append_right (by omega), hl, show (i + 1) * 10 + j - 10 = i * 10 + j by omega]
      exact ih i (by simpa using hi)
theorem own_acts {w : World} {e : TypeId} {v : Value} {l : List Ent12} (h : w.ownsRow 0 e 10 v l.length (actCells l)) :
    ∃ a c, v = .slice a l.length c ∧ l.length ≤ c ∧ c ≤ 9223372036854775807 ∧ Acts w a l ∧ (a = none ∨ ∃ g, a = some ⟨g, 0, none⟩ ∧ v.ownBlock = some g) := by
  rcases h.2 with ⟨rfl, h0⟩ | ⟨g, cap, cur, rfl, _, hg, hnc, hcm, hcs, htake⟩
  · have : l = [] := List.eq_nil_of_length_eq_zero h0
    subst this
    exact ⟨none, 0, rfl, by simp, by simp, Acts.nil _ _, .inl rfl⟩
  · refine ⟨some ⟨g, 0, none⟩, cap, rfl, hnc, by unfold maxLen at hcm; omega, ?_, .inr ⟨g, rfl, rfl⟩⟩
    have at_ : ∀ j, j < l.length * 10 → w.cell? ⟨g, 0 + j, none⟩ = (actCells l)[j]? := by
      intro j hj
      rw [Nat.zero_add, cell_of_row w g j cur e (0, 0) hg, ← htake, List.getElem?_take, if_pos hj, Array.getElem?_toList]
    intro i hi
    refine ⟨g, 0, rfl, fun j hj => ?_⟩
    rw [Nat.add_assoc]
    exact (at_ _ (by omega)).trans (actCells_at l i hi j hj)
theorem act_flat (l : List Ent12) : ∀ u ∈ actCells l, u.oneCell' = true := by
  intro u hu
  simp only [actCells, List.mem_flatMap] at hu
  obtain ⟨h, _, hu⟩ := hu
  simp [Ent12.cs] at hu
  rcases hu with rfl | rfl | rfl | rfl | rfl | rfl | rfl | rfl | rfl | rfl <;> rfl
theorem acts_cells {w : World} {ad : Addr} {l : List Ent12} (h : Acts w (some ad) l) : ∀ j u, (actCells l)[j]? = some u → w.cell? (ad.add j) = some u := by
  intro j u hj
  have hjl : j < l.length * 10 := by
    have := (List.getElem?_eq_some_iff.1 hj).1
    rwa [actCells_length] at this
  have hi : j / 10 < l.length := by omega
  obtain ⟨b, off, he, c0⟩ := h (j / 10) hi
  obtain rfl := Option.some.inj he
  have hm : j % 10 < 10 := Nat.mod_lt _ (by omega)
  have e := actCells_at l (j / 10) hi (j % 10) hm
  rw [show j / 10 * 10 + j % 10 = j by omega] at e
  rw [e] at hj
  rw [add_none, show off + j = off + j / 10 * 10 + j % 10 by omega]
  exact (c0 _ hm).trans hj
theorem acts_box {w : World} {b : Nat} {l : List Ent12} (h : BoxL w b (actCells l)) : Acts w (some ⟨b, 0, none⟩) l := by
  intro i hi
  refine ⟨b, 0, rfl, fun j hj => ?_⟩
  have e := actCells_at l i hi j hj
  obtain ⟨v, hv⟩ := act_cell l[i] hj
  rw [hv] at e ⊢
  rw [Nat.zero_add]
  exact h.cell _ _ e
theorem acts_one (w : World) (h : Ent12) (t : TypeId) : Acts (w.alloc (.cells h.cs.toArray t)) (some ⟨w.heap.size, 0, none⟩) [h] :=
  acts_box (by have := BoxL.new w h.cs t; simpa [actCells] using this)
/-- all of a list's actions are there -/
def AllIn (w : World) (l : List Ent12) : Prop := ∀ g ∈ l, ActIn w g
theorem AllIn.below {w w' : World} {l : List Ent12} (h : AllIn w l) (hb : Below w.heap.size w w') : AllIn w' l := fun g hg => (h g hg).below hb
theorem AllIn.nil (w : World) : AllIn w [] := fun g hg => absurd hg (by simp)
end Go.Proofs.YtdjlbejhphbcoaaGreat
namespace Go.Proofs.YtdjlbejhphbcoaaGreat
open Go.RowKit
set_option linter.unusedVariables false
set_option maxRecDepth 100000

instance actDec : DecidableEq Act12 := fun a b => decidable_of_iff _ (same12_iff a b)
theorem raw_none {l : List Act12} {a : Act12} (ha : a ∈ l) (hn : act12 a = none) : raw13 l = none := by
  cases h : raw13 l with
  | none => rfl
  | some z => obtain ⟨x, hx⟩ := (raw_each h).1 a ha; rw [hn] at hx; cases hx
theorem enc_none {l : List Act12} (h : raw13 l = none) : enc13 l = .error 10001 := by unfold enc13; rw [h]
theorem enc_many {l : List Act12} (h : 64 < l.length) : enc13 l = .error 10001 := by
  unfold enc13
  cases raw13 l with
  | none => rfl
  | some x => simp only; rw [if_pos (.inl h)]
theorem enc_long {l m : List Act12} {x : List Int} (h : raw13 l = some x) (hx : 65528 < x.length) : enc13 (l ++ m) = .error 10001 := by
  unfold enc13
  cases hr : raw13 (l ++ m) with
  | none => rfl
  | some z =>
    obtain ⟨u, v, hu, _, rfl⟩ := raw_parts hr
    rw [h] at hu
    cases hu
    simp only
    rw [if_pos (.inr (by rw [List.length_append]; omega))]
theorem enc_yes {l : List Act12} {x : List Int} (h : raw13 l = some x) (hl : l.length ≤ 64) (hx : x.length ≤ 65528) : enc13 l = .ok x := by
  unfold enc13
  rw [h]
  simp only
  rw [if_neg (by omega)]
theorem enc_or (l : List Act12) : enc13 l = .error 10001 ∨ ∃ x, enc13 l = .ok x ∧ raw13 l = some x ∧ l.length ≤ 64 ∧ x.length ≤ 65528 := by
  cases hr : raw13 l with
  | none => exact .inl (enc_none hr)
  | some x =>
    by_cases h : 64 < l.length ∨ 65528 < x.length
    · exact .inl (by unfold enc13; rw [hr]; simp only; rw [if_pos h])
    · exact .inr ⟨x, enc_yes hr (by omega) (by omega), rfl, by omega, by omega⟩
def size13 (l : List Act12) : Nat := match enc13 l with
  | .ok x => x.length
  | .error _ => 0
def right13 (l : List Act12) : Bool := match enc13 l with
  | .ok _ => true
  | .error _ => false
theorem size_err {l : List Act12} {q : Int} (h : enc13 l = .error q) : size13 l = 0 ∧ right13 l = false := by unfold size13 right13; rw [h]; exact ⟨rfl, rfl⟩
theorem size_ok13 {l : List Act12} {x : List Int} (h : enc13 l = .ok x) : size13 l = x.length ∧ right13 l = true := by unfold size13 right13; rw [h]; exact ⟨rfl, rfl⟩
theorem take_snoc13 (l : List Ent12) (i : Nat) (hi : i < l.length) : (l.map Ent12.act).take (i + 1) = (l.map Ent12.act).take i ++ [l[i].act] := by
  rw [List.take_add_one, List.getElem?_map, List.getElem?_eq_getElem hi]; rfl
theorem raw_snoc {l : List Act12} {a : Act12} {x y : List Int} (hx : raw13 l = some x) (hy : act12 a = some y) : raw13 (l ++ [a]) = some (x ++ y) := by
  have := raw_append hx (raw_make (r := []) hy rfl)
  rwa [List.append_nil] at this
theorem sizeS_act {g : Ent12} (ld : g.d.length ≤ 100000) : sizeS12 g = match act12 g.act with | some x => x.length | none => 0 := by
  unfold sizeS12
  rw [right_act g ld]
  cases h : act12 g.act with
  | none => rfl
  | some x => exact size_act h

set_option maxHeartbeats 4000000 in
theorem size13_any (w : World) (a : Option Addr) (c : Nat) (l : List Ent12) (hL : Acts w a l) (hI : AllIn w l) (hll : l.length ≤ 1000) :
    Calls Tryz.prog 65 #[.slice a l.length c] w fun e w' => e = .returned (.tuple #[.int .i64 (size13 (l.map Ent12.act)), .bool (right13 (l.map Ent12.act))]) ∧ Below w.heap.size w w' := by
  have HL := hid hL
  have HI := hid hI
  obtain ⟨N, hN⟩ : ∃ N, N = l.length := ⟨_, rfl⟩
  have HN := hid hN
  rw [← hN] at hll ⊢
  clear hL hI hN
  by_cases h64 : 64 < N
  · obtain ⟨e1, e2⟩ := size_err (enc_many (l := l.map Ent12.act) (by rw [List.length_map, ← HN.out]; exact h64))
    have E := hid (And.intro e1 e2)
    have h64i : (64 : Int) < (N : Int) := by omega
    clear e1 e2
    go_enter Tryz.func65, Tryz.ntmps65
    go_wp2_with fail
    refine bodyPost_ret (v := .tuple #[.int .i64 0, .bool false]) (by simp [results, Tryz.results65, go_sem]) rfl ⟨by rw [E.out.1, E.out.2]; rfl, Below.refl _ _⟩
  · have h64i : ¬ (64 : Int) < (N : Int) := by omega
    go_enter Tryz.func65, Tryz.ntmps65
    go_wp2_with fail
    go_loopg [4, 13] N (fun kx s4 s13 wr => ∃ (i n : Nat), s4 = .int .i64 n ∧ s13 = .int .i64 i ∧ i ≤ N ∧ N - i ≤ kx ∧ n ≤ 65528 ∧ Hid (∃ x, raw13 ((l.map Ent12.act).take i) = some x ∧ x.length = n) ∧ Hid (Below w.heap.size w wr))
    case atStart => exact ⟨0, 0, rfl, rfl, by omega, by omega, by omega, ⟨[], rfl, rfl⟩, Below.refl _ _⟩
    case round =>
      obtain ⟨i, n, rfl, rfl, hi, hkx, hn, hx, hb⟩ := hrel
      by_cases hlt : i < N
      · have hltz : (i : Int) < (N : Int) := by omega
        have hil : i < l.length := by have := HN.out; omega
        obtain ⟨b, off, rfl, -⟩ := HL.out i hil
        obtain ⟨c0, c1, c2, c3, c4, c5, c6, c7, c8, c9⟩ := (HL.out.below hb.out).ten i hil
        have hin := HI.out l[i] (List.getElem_mem hil)
        have hmem : l[i].act ∈ l.map Ent12.act := List.mem_map_of_mem (List.getElem_mem hil)
        have htk := take_snoc13 l i hil
        generalize l[i] = g at c0 c1 c2 c3 c4 c5 c6 c7 c8 c9 hin hmem htk
        obtain ⟨W, hW, hbW, hbx⟩ := act_box wr g.T g.A g.B g.o.C g.o.F g.o.H g.o.X g.va g.o.v.length g.vc g.ma g.o.m.length g.mc g.da g.d.length g.dc
        have HW := hid hW
        have hbw := below_on hb.out hbW
        have HB := hid hbw
        have HS := hid (actSizeS_any g W (hin.below hbw))
        have ES := hid (sizeS_act (g := g) hin.ld)
        obtain ⟨k, hk⟩ : ∃ k, sizeS12 g = k := ⟨_, rfl⟩
        rw [hk] at HS ES
        have HM := hid hmem
        have HT := hid htk
        clear hW hbW hbw hin hk hmem htk
        obtain ⟨d0, d1, d2, d3, d4, d5, d6, d7, d8, d9⟩ := hbx.ten
        go_wp2_with fail
        rw [HW.out]
        go_wp2_with fail
        refine HS.out.mono ?_
        rintro e w2 ⟨rfl, hb2⟩
        have HB2 := hid (below_on HB.out hb2)
        clear hb2 hbx d0 d1 d2 d3 d4 d5 d6 d7 d8 d9 c0 c1 c2 c3 c4 c5 c6 c7 c8 c9
        cases ha : act12 g.act with
        | none =>
          have hk0 : k = 0 := by rw [ES.out, ha]
          subst hk0
          obtain ⟨e1, e2⟩ := size_err (enc_none (raw_none HM.out ha))
          have E := hid (And.intro e1 e2)
          clear e1 e2 ha
          go_wp2_with fail
          refine bodyPost_ret (v := .tuple #[.int .i64 0, .bool false]) (by simp [results, Tryz.results65, go_sem]) rfl ⟨by rw [E.out.1, E.out.2]; rfl, HB2.out⟩
        | some y =>
          have hk0 : k = y.length := by rw [ES.out, ha]
          obtain ⟨_, _, _, _, _, h8, _, h9, _⟩ := act_write ha
          obtain ⟨x, hx1, hx2⟩ := hx.out
          have hr := raw_snoc hx1 ha
          rw [← HT.out] at hr
          have hxy : (x ++ y).length = n + k := by rw [List.length_append]; omega
          have HR := hid (And.intro hr hxy)
          have hkz : ¬ k = 0 := by omega
          have hkzi : ¬ (k : Int) = 0 := by omega
          have hsum : (n : Int) + (k : Int) ≤ 200000 := by omega
          have hke : ((k : Int) == 0) = false := by simpa using hkz
          have hsum0 : 0 ≤ (n : Int) + (k : Int) := by omega
          clear hr hxy ha hx1 hx2 hk0 h8 h9
          by_cases hbig : 65528 < n + k
          · have hbi : (65528 : Int) < (n : Int) + (k : Int) := by omega
            have hbd : decide ((65528 : Int) < (n : Int) + (k : Int)) = true := decide_eq_true hbi
            have hen : enc13 (l.map Ent12.act) = .error 10001 := by
              have h := enc_long (m := (l.map Ent12.act).drop (i + 1)) HR.out.1 (by rw [HR.out.2]; exact hbig)
              rwa [List.take_append_drop] at h
            obtain ⟨e1, e2⟩ := size_err hen
            have E := hid (And.intro e1 e2)
            clear e1 e2 hen
            go_wp2_with fail
            refine bodyPost_ret (v := .tuple #[.int .i64 0, .bool false]) (by simp [results, Tryz.results65, go_sem]) rfl ⟨by rw [E.out.1, E.out.2]; rfl, HB2.out⟩
          · have hbi : ¬ (65528 : Int) < (n : Int) + (k : Int) := by omega
            have hbd : decide ((65528 : Int) < (n : Int) + (k : Int)) = false := decide_eq_false hbi
            go_wp2_with fail
            go_roundg (N - (i + 1))
            case rel => exact ⟨i + 1, n + k, by go_num, by go_num, by omega, by omega, by omega, ⟨_, HR.out.1, HR.out.2⟩, HB2.out⟩
            case measure => omega
      · have hge : (N : Int) ≤ (i : Int) := by omega
        obtain rfl : i = N := by omega
        have hen : enc13 (l.map Ent12.act) = .error 10001 ∨ True := .inr trivial
        obtain ⟨x, hx1, hx2⟩ := hx.out
        rw [List.take_of_length_le (by rw [List.length_map]; have := HN.out; omega)] at hx1
        obtain ⟨e1, e2⟩ := size_ok13 (enc_yes hx1 (by rw [List.length_map]; have := HN.out; omega) (by omega))
        rw [hx2] at e1
        have E := hid (And.intro e1 e2)
        clear e1 e2 hen hx1 hx2 hx
        go_wp2_with fail
        refine bodyPost_ret (v := .tuple #[.int .i64 n, .bool true]) (by simp [results, Tryz.results65, go_sem]) rfl ⟨by rw [E.out.1, E.out.2], hb.out⟩
theorem right13_any (w : World) (a : Option Addr) (c : Nat) (l : List Ent12) (hL : Acts w a l) (hI : AllIn w l) (hll : l.length ≤ 1000) :
    Calls Tryz.prog 27 #[.slice a l.length c] w fun e w' => e = .returned (.bool (right13 (l.map Ent12.act))) ∧ Below w.heap.size w w' := by
  have H := hid (size13_any w a c l hL hI hll)
  clear hL hI hll
  go_enter Tryz.func27, Tryz.ntmps27
  go_wp2_with fail
  refine H.out.mono ?_
  rintro e w1 ⟨rfl, hb⟩
  go_wp2_with fail
  go_ret
  exact ⟨rfl, hb⟩
theorem sizeof13_any (w : World) (a : Option Addr) (c : Nat) (l : List Ent12) (hL : Acts w a l) (hI : AllIn w l) (hll : l.length ≤ 1000) :
    Calls Tryz.prog 28 #[.slice a l.length c] w fun e w' => e = .returned (.int .i64 (size13 (l.map Ent12.act))) ∧ Below w.heap.size w w' := by
  have H := hid (size13_any w a c l hL hI hll)
  clear hL hI hll
  go_enter Tryz.func28, Tryz.ntmps28
  go_wp2_with fail
  refine H.out.mono ?_
  rintro e w1 ⟨rfl, hb⟩
  go_wp2_with fail
  go_ret
  exact ⟨rfl, hb⟩
end Go.Proofs.YtdjlbejhphbcoaaGreat
namespace Go.Proofs.YtdjlbejhphbcoaaGreat
open Go.RowKit
set_option linter.unusedVariables false
set_option maxRecDepth 100000

/-- what comes of actions that are encoded -/
def EncPost13 (L : List Act12) (w : World) (e : Ending) (w' : World) : Prop :=
  (enc13 L = .error 10001 ∧ e = .returned (.tuple #[.slice none 0 0, .int .i64 10001]) ∧ Below w.heap.size w w') ∨
  (∃ x g, enc13 L = .ok x ∧ e = .returned (.tuple #[.slice (some ⟨g, 0, none⟩) x.length x.length, .int .i64 0]) ∧ Below w.heap.size w w' ∧ Ints .u8 w' (some ⟨g, 0, none⟩) x ∧ w.heap.size ≤ g)
theorem encode13_no (w : World) (a : Option Addr) (c : Nat) (l : List Ent12) (hL : Acts w a l) (hI : AllIn w l) (hll : l.length ≤ 1000) (he : enc13 (l.map Ent12.act) = .error 10001) :
    Calls Tryz.prog 21 #[.slice a l.length c] w (EncPost13 (l.map Ent12.act) w) := by
  have HR := right13_any w a c l hL hI hll
  rw [(size_err he).2] at HR
  have HRR := hid HR
  have HE := hid he
  clear hL hI HR he
  go_enter Tryz.func21, Tryz.ntmps21
  go_wp2_with fail
  refine HRR.out.mono ?_
  rintro e w1 ⟨rfl, hb⟩
  go_wp2_with fail
  refine bodyPost_ret (v := .tuple #[.slice none 0 0, .int .i64 10001]) (by simp [results, Tryz.results21, go_sem]) rfl (.inl ⟨HE.out, rfl, hb⟩)
set_option maxHeartbeats 4000000 in
theorem encode13_yes (w : World) (a : Option Addr) (c : Nat) (l : List Ent12) (hL : Acts w a l) (hI : AllIn w l) (hll : l.length ≤ 1000) (X : List Int) (he : enc13 (l.map Ent12.act) = .ok X) (hr : raw13 (l.map Ent12.act) = some X) (hX : X.length ≤ 65528) :
    Calls Tryz.prog 21 #[.slice a l.length c] w (EncPost13 (l.map Ent12.act) w) := by
  have HR := right13_any w a c l hL hI hll
  rw [(size_ok13 he).2] at HR
  have HRR := hid HR
  have HE := hid he
  have HX := hid hr
  have HL := hid hL
  have HI := hid hI
  obtain ⟨N, hN⟩ : ∃ N, N = l.length := ⟨_, rfl⟩
  have HN := hid hN
  rw [← hN] at hll HRR ⊢
  clear hL hI HR he hr hN
  go_enter Tryz.func21, Tryz.ntmps21
  go_wp2_with fail
  refine HRR.out.mono ?_
  rintro e w1 ⟨rfl, hb1⟩
  have HB := hid hb1
  clear hb1
  go_wp2_with fail
  refine (bufNew_any 65528 _).mono ?_
  rintro e w2 ⟨g, m, rfl, hB, hb2, hg, hmm⟩
  have O1 : BufOn w w2 g m none 65528 [] [] 0 := ⟨hB, below_on HB.out hb2, by have := HB.out.size; rintro i (e | e | e); omega; omega; simp at e⟩
  have HO1 := hid O1
  clear hB hb2 O1 HRR
  go_wp2_with fail
  go_loopg [15] N (fun kx s15 wr => ∃ (i : Nat) (x : List Int) (p : Option Nat), s15 = .int .i64 i ∧ i ≤ N ∧ N - i ≤ kx ∧ Hid (raw13 ((l.map Ent12.act).take i) = some x) ∧ Hid (BufOn w wr g m p 65528 x [] 0))
  case atStart => exact ⟨0, [], none, rfl, by omega, by omega, rfl, HO1.out⟩
  case round =>
    obtain ⟨i, x, p, rfl, hi, hkx, hx, hO⟩ := hrel
    by_cases hlt : i < N
    · have hltz : (i : Int) < (N : Int) := by omega
      have hil : i < l.length := by have := HN.out; omega
      obtain ⟨b, off, rfl, -⟩ := HL.out i hil
      obtain ⟨c0, c1, c2, c3, c4, c5, c6, c7, c8, c9⟩ := (HL.out.below hO.out.bel).ten i hil
      have hin := HI.out l[i] (List.getElem_mem hil)
      have hmem : l[i].act ∈ l.map Ent12.act := List.mem_map_of_mem (List.getElem_mem hil)
      have htk := take_snoc13 l i hil
      generalize l[i] = h at c0 c1 c2 c3 c4 c5 c6 c7 c8 c9 hin hmem htk
      obtain ⟨W, hW, hbW, hbx⟩ := act_box wr h.T h.A h.B h.o.C h.o.F h.o.H h.o.X h.va h.o.v.length h.vc h.ma h.o.m.length h.mc h.da h.d.length h.dc
      have HW := hid hW
      have hbw := below_on hO.out.bel hbW
      have HS := hid (actEncode_any h W (hin.below hbw))
      obtain ⟨y, hy⟩ := (raw_each HX.out).1 _ hmem
      have HY := hid hy
      have HT := hid htk
      have HBX := hid hbx
      have HBW := hid hbW
      clear hW hbW hbw hin hmem htk hy hbx
      obtain ⟨d0, d1, d2, d3, d4, d5, d6, d7, d8, d9⟩ := HBX.out.ten
      go_wp2_with fail
      rw [HW.out]
      go_wp2_with fail
      refine HS.out.mono ?_
      rintro e w3 (⟨hno, _⟩ | ⟨y', q, hq, rfl, hb3, hI3, hq3⟩)
      · rw [HY.out] at hno; cases hno
      have O3 := (hO.out.below HBW.out).below hb3
      have hgw := hid (show g < W.heap.size from (hO.out.below HBW.out).buf.lt g (.inl rfl))
      have hr2 := raw_snoc hx.out hq
      rw [← HT.out] at hr2
      have hle : x.length + y'.length ≤ 65528 := by
        have h0 := HX.out
        rw [← List.take_append_drop (i + 1) (l.map Ent12.act)] at h0
        obtain ⟨u, v, hu, _, huv⟩ := raw_parts h0
        rw [hr2] at hu
        cases hu
        have := congrArg List.length huv
        rw [List.length_append, List.length_append] at this
        omega
      have HR2 := hid hr2
      have HLE := hid hle
      have HQ3 := hid hq3
      have HI3 := hid hI3
      have HO3 := hid O3
      clear hle hq3 hb3 hI3 hr2 hq O3 d0 d1 d2 d3 d4 d5 d6 d7 d8 d9 c0 c1 c2 c3 c4 c5 c6 c7 c8 c9 HS
      go_wp2_with fail
      refine (HO3.out.buf.fail 0).mono ?_
      rintro e w4 ⟨rfl, hbuf, hby⟩
      have O4 := hid (HO3.out.went (Went.by_g hbuf hby))
      have I4 : Ints .u8 w4 (some ⟨q, 0, none⟩) y' := (Turn.of_by (S := fun k => k = g) hby (by rintro k e; simp at e; exact e.symm)).ints HI3.out (by have := hgw.out; have := HQ3.out; omega)
      have HI4 := hid I4
      clear hbuf hby I4
      go_wp2_with fail
      refine (O4.out.buf.bytes_ok y' _ _ HLE.out HI4.out).mono ?_
      rintro e w5 ⟨rfl, p', hG⟩
      have O5 := hid (O4.out.went hG)
      clear hG
      go_wp2_with fail
      go_roundg (N - (i + 1))
      case rel => exact ⟨i + 1, x ++ y', p', by go_num, by omega, by omega, HR2.out, O5.out⟩
      case measure => omega
    · have hge : (N : Int) ≤ (i : Int) := by omega
      obtain rfl : i = N := by omega
      have hxX : x = X := by
        have h := hx.out
        rw [List.take_of_length_le (by rw [List.length_map]; have := HN.out; omega), HX.out] at h
        cases h; rfl
      subst hxX
      go_wp2_with fail
      refine hO.out.buf.done_ok.mono ?_
      rintro e w8 ⟨rfl, hFr⟩
      obtain ⟨ad, cp, he, hl, hc, hI⟩ := own_ints hFr.own
      have he1 : ad = some ⟨wr.heap.size, 0, none⟩ := by simpa using (congrArg (fun x => match x with | Value.slice a _ _ => a | _ => none) he).symm
      rw [he1] at hI
      have HI8 := hid hI
      have HF := hid (below_on hO.out.bel hFr.bel)
      have hs := hO.out.bel.size
      clear he hl hc hI hFr he1
      go_wp2_with fail
      refine bodyPost_ret (v := .tuple #[.slice (some ⟨wr.heap.size, 0, none⟩) x.length x.length, .int .i64 0]) (by simp [results, Tryz.results21, go_sem]) rfl (.inr ⟨x, _, HE.out, rfl, HF.out, HI8.out, hs⟩)
theorem encode13_any (w : World) (a : Option Addr) (c : Nat) (l : List Ent12) (hL : Acts w a l) (hI : AllIn w l) (hll : l.length ≤ 1000) :
    Calls Tryz.prog 21 #[.slice a l.length c] w (EncPost13 (l.map Ent12.act) w) := by
  rcases enc_or (l.map Ent12.act) with h | ⟨x, h1, h2, _, h3⟩
  · exact encode13_no w a c l hL hI hll h
  · exact encode13_yes w a c l hL hI hll x h1 h2 h3

end Go.Proofs.YtdjlbejhphbcoaaGreat
namespace Go.Proofs.YtdjlbejhphbcoaaGreat
open Go.RowKit

/-- The iterator gf over lb, for every body that goes on at a value, keeps the blocks of K, and leaves at an error. Of a value x that comes X x holds. -/
def YieldsU {α β : Type} (P : Program) (gf : Nat) (lb : Array Value) (enc : α → Array Value) (bad : β → Array Value) (X : List α → α → Nat → World → Prop) (K : Nat → Prop) (S : List α → Prop) (Sp : List α → β → Prop) (N : Nat) (w : World) : Prop :=
  ∀ (l : Nat) (J : List α → World → Prop) (Jx : List α → β → World → Prop) (W : World), Below w.heap.size w W →
    (∀ pre A B, J pre A → Below A.heap.size A B → J pre B) →
    (∀ pre x W0 W1, J pre W0 → Below W0.heap.size W0 W1 → X pre x W0.heap.size W1 → pre.length < N → YieldAt Fence.wide 0 P l (enc x) W1 fun e W' => e = .returned (.bool true) ∧ J (pre ++ [x]) W' ∧ W1.heap.size ≤ W'.heap.size ∧ ∀ k, K k → k < W1.heap.size → W'.heap[k]? = W1.heap[k]?) →
    (∀ pre q W1, J pre W1 → Sp pre q → YieldAt Fence.wide 0 P l (bad q) W1 fun e W' => e = .returned (.bool false) ∧ Jx pre q W') →
    J [] W → Calls P gf (#[.func (.yield l) #[] #[]] ++ lb) W fun e W' => (∃ v, e = .returned v) ∧ ((∃ xs, S xs ∧ J xs W') ∨ ∃ pre q, Sp pre q ∧ Jx pre q W')

/-- the jump by which a round ends -/
def jumpU : Exit → Option Code
  | .ret => some .ret
  | .exit id => some (.exit id)
  | .goto t => some (.goto t)
  | _ => none
/-- how a round ends at an error, by the jump c -/
def badPostU (c : Code) (B : Nat) (I : World → Prop) (W : World) (e : Exit) (_ : Act) (W' : World) : Prop := jumpU e = some c ∧ KeepsFrom B W W' ∧ I W'

theorem wp_rangeU {α β : Type} {P : Program} {gf : Nat} {lb : Array Value} {enc : α → Array Value} {bad : β → Array Value} {X : List α → α → Nat → World → Prop} {K : Nat → Prop} {S : List α → Prop} {Sp : List α → β → Prop} {N : Nat}
    {g : Operand} {jc : Code} {ps : Array Tmp} {assign body : Code} {Q : Exit → Act → World → Prop} {a : Act} {w : World}
    (hg : a.eval g = .func (.func gf) #[] lb) (eg : ∀ args w, (callFunc gf args).run P w = .ok (.enter gf args) w)
    (hseq : YieldsU P gf lb enc bad X K S Sp N w) (hK : ∀ k, K k → k < w.heap.size) (hps : ∀ x, (enc x).size = ps.size) (hpb : ∀ q, (bad q).size = ps.size)
    (I : List α → World → Prop) (Ix : List α → β → World → Prop) (hI : OwnFrom w.heap.size I) (hX : ∀ pre n, OwnFrom w.heap.size (fun x W => X pre x n W)) (hIx : OwnFrom w.heap.size (fun (s : List α × β) W => Ix s.1 s.2 W)) (h0 : I [] w)
    (A : α → Act → World → Prop) (hA : ∀ x a', OwnFrom w.heap.size (fun (_ : Unit) W => A x a' W)) (Ab : β → Act → World → Prop) (hAb : ∀ q a', OwnFrom w.heap.size (fun (_ : Unit) W => Ab q a' W))
    (hasg : ∀ (l : Nat) (x : α) (W : World) (C : Act → World → Prop), (∀ a' W', Below W.heap.size W W' → A x a' W' → C a' W') →
      assign.wpIn (Fence.wide.inRound l) 0 P (Exit.then C (fun _ _ _ => False)) { tmps := (ps.zip (enc x)).foldl (fun t (p, v) => t.setIfInBounds p v) a.tmps, defers := [] } W)
    (hasb : ∀ (l : Nat) (q : β) (W : World) (C : Act → World → Prop), (∀ a' W', Below W.heap.size W W' → Ab q a' W' → C a' W') →
      assign.wpIn (Fence.wide.inRound l) 0 P (Exit.then C (fun _ _ _ => False)) { tmps := (ps.zip (bad q)).foldl (fun t (p, v) => t.setIfInBounds p v) a.tmps, defers := [] } W)
    (hgood : ∀ (l : Nat) (pre : List α) (x : α) (a' : Act) (W0 W : World), w.heap.size ≤ W.heap.size → pre.length < N → I pre W0 → (∀ p u, W0.cell? p = some u → W.cell? p = some u) → I pre W → X pre x W0.heap.size W → A x a' W → body.wpIn (Fence.wide.inRound l) 0 P (goodPost w.heap.size K (I (pre ++ [x])) W) a' W)
    (hbad : ∀ (l : Nat) (pre : List α) (q : β) (a' : Act) (W : World), w.heap.size ≤ W.heap.size → Sp pre q → I pre W → Ab q a' W → body.wpIn (Fence.wide.inRound l) 0 P (badPostU jc w.heap.size (Ix pre q) W) a' W)
    (hdone : ∀ (D : Nat) (xs : List α) (W : World), w.heap.size ≤ D → S xs → I xs W → W.heap[D]? = some (.deferred (some [])) → Q .normal { a with defers := { target := .collected D, args := #[] } :: a.defers } W)
    (hstop : ∀ (D : Nat) (pre : List α) (q : β) (W : World), w.heap.size ≤ D → Sp pre q → Ix pre q W → W.heap[D]? = some (.deferred (some [])) → jc.wpIn Fence.wide 0 P Q { a with defers := { target := .collected D, args := #[] } :: a.defers } W) :
    (Code.rangeFunc g ps assign body).wp P Q a w := by
  refine (wpIn_wide (n := 0)).1 (wpIn_rangeFunc fun fn hfn => ?_)
  obtain ⟨z, hz⟩ : ∃ z, z = w.heap.size := ⟨_, rfl⟩
  -- the loop's record, in a state, with a jump that is pending
  obtain ⟨rec, hrec⟩ : ∃ rec : LoopState → Option Code → Loop, rec = fun st pe => { state := st, pending := pe, fn, tmps := a.tmps, params := ps, assign, body, defers := z } := ⟨_, rfl⟩
  obtain ⟨V, hV⟩ : ∃ V, (w.alloc (.deferred (some []))).alloc (.loop (rec .ready none)) = V := ⟨_, rfl⟩
  have hb : Below w.heap.size w V := by rw [← hV]; exact ((Below.refl _ w).alloc (Nat.le_refl _) _).alloc (by simp) _
  have hVl : V.heap[z + 1]? = some (.loop (rec .ready none)) := by
    have h := World.alloc_heap_new (w.alloc (.deferred (some []))) (.loop (rec .ready none))
    rwa [World.size_alloc, hV, ← hz] at h
  have hVd : V.heap[z]? = some (.deferred (some [])) := by
    rw [← hV, hz]; exact (Below.heap_alloc _ _ _ (by simp)).trans (World.alloc_heap_new w _)
  have hVs : V.heap.size = z + 2 := by rw [← hV, hz]; simp
  rw [← hz] at hK hI hX hIx hA hAb hgood hbad hdone hstop hb
  refine ⟨z + 1, [{ target := .collected z, args := #[] }], V, { target := .fn (.func gf) lb, args := #[.func (.yield (z + 1)) #[] #[]] }, V, gf, #[.func (.yield (z + 1)) #[] #[]] ++ lb, V, ?_, ?_, fun _ _ => trivial, ?_, fun h => by simp [Fence.wide] at h, ?_⟩
  · rw [← hV, hrec, hz]; exact run_enterLoop_outer _ _ _ _ _
  · simp only [resolve, hg]
    simp [go_sem]
  · simp [invoke, go_sem, eg]
  -- what the law keeps beside the caller's words: the record, and the block for deferred calls
  have stay : ∀ {A B : World} {st : LoopState} {pe : Option Code}, Below A.heap.size A B → A.heap[z + 1]? = some (.loop (rec st pe)) ∧ A.heap[z]? = some (.deferred (some [])) → B.heap[z + 1]? = some (.loop (rec st pe)) ∧ B.heap[z]? = some (.deferred (some [])) :=
    fun hAB h => ⟨(hAB.block _ (Array.getElem?_eq_some_iff.1 h.1).1).trans h.1, (hAB.block _ (Array.getElem?_eq_some_iff.1 h.2).1).trans h.2⟩
  -- the record is turned: 'st', 'pe'
  have turn : ∀ {A : World} {st : LoopState} {pe : Option Code} (st' : LoopState) (pe' : Option Code), A.heap[z + 1]? = some (.loop (rec st pe)) → A.heap[z]? = some (.deferred (some [])) →
      (A.putObj (z + 1) (.loop (rec st' pe'))).heap[z + 1]? = some (.loop (rec st' pe')) ∧ (A.putObj (z + 1) (.loop (rec st' pe'))).heap[z]? = some (.deferred (some [])) :=
    fun st' pe' h1 h2 => ⟨World.putObj_heap_same (Array.getElem?_eq_some_iff.1 h1).1, (World.putObj_heap_other (by omega)).trans h2⟩
  have begin_ : ∀ {A : World}, A.heap[z + 1]? = some (.loop (rec .ready none)) → (Instr.beginRound (z + 1)).run P A = .ok () (A.putObj (z + 1) (.loop (rec .busy none))) := by
    intro A h
    have := run_beginRound (P := P) h (by rw [hrec])
    rw [hrec] at this ⊢
    exact this
  have end_ : ∀ {A : World} (jump : Option Code), A.heap[z + 1]? = some (.loop (rec .busy none)) → (Instr.endRound (z + 1) jump).run P A = .ok (.bool jump.isNone) (A.putObj (z + 1) (.loop (rec (if jump.isNone then .ready else .done) jump))) := by
    intro A jump h
    have := run_endRound (P := P) jump h
    rw [hrec] at this ⊢
    exact this
  have over_ : ∀ {A : World} {st : LoopState} {pe : Option Code}, A.heap[z + 1]? = some (.loop (rec st pe)) → st ≠ .busy → (Instr.endLoop (z + 1)).run P A = .ok pe (A.putObj (z + 1) (.loop (rec .exhausted pe))) := by
    intro A st pe h hs
    have := run_endLoop (P := P) h (by rw [hrec]; exact hs)
    rw [hrec] at this ⊢
    exact this
  have yld : ∀ {A : World} {y : Array Value}, A.heap[z + 1]? = some (.loop (rec .ready none)) → y.size = ps.size →
      (Instr.yield (z + 1) y).run P A = .ok (.round (z + 1) fn ((ps.zip y).foldl (fun t (p, v) => t.setIfInBounds p v) a.tmps) assign body) A := by
    intro A y h hs
    have := run_yield (P := P) (args := y) h (by rw [hrec]; exact hs)
    rw [hrec] at this
    exact this
  refine callsIn_wide.2 ((hseq (z + 1)
    (fun pre W => I pre W ∧ z ≤ W.heap.size ∧ W.heap[z + 1]? = some (.loop (rec .ready none)) ∧ W.heap[z]? = some (.deferred (some [])))
    (fun pre q W => Ix pre q W ∧ W.heap[z + 1]? = some (.loop (rec .done (some jc))) ∧ W.heap[z]? = some (.deferred (some [])))
    V (by rw [hz] at hb; exact hb) (fun pre A B hs hAB => ⟨own_below hI hs.1 hAB, Nat.le_trans hs.2.1 hAB.size, stay hAB hs.2.2⟩) ?_ ?_ ⟨own_below hI h0 (by rw [← hz]; exact hb), by omega, hVl, hVd⟩).mono ?_)
  · rintro pre x W0 W ⟨hi0, hzW0, hl0, hd0⟩ hb0 hx hlen
    have hi := own_below hI hi0 hb0
    have hzW : z ≤ W.heap.size := Nat.le_trans hzW0 hb0.size
    obtain ⟨hl, hd⟩ := stay hb0 ⟨hl0, hd0⟩
    refine ⟨fn, _, assign, body, yld hl (hps x), roundIn_of_wpIn hfn (hasg _ x W _ fun a' Wa hWa hax => ?_)⟩
    obtain ⟨hl1, hd1⟩ := stay hWa ⟨hl, hd⟩
    refine ⟨_, begin_ hl1, ?_⟩
    obtain ⟨hl2, hd2⟩ := turn .busy none hl1 hd1
    have hi2 := hI.putObj (.loop (rec .busy none)) (own_below hI hi hWa) (by omega) hl1 rfl
    have hx2 := (hX pre _).putObj (.loop (rec .busy none)) (own_below (hX pre _) hx hWa) (by omega) hl1 rfl
    have hs2 : (Wa.putObj (z + 1) (.loop (rec .busy none))).heap.size = Wa.heap.size := by simp [World.putObj]
    have hcl : ∀ p u, W0.cell? p = some u → (Wa.putObj (z + 1) (.loop (rec .busy none))).cell? p = some u := fun p u h => by
      have h1 : W.cell? p = some u := (World.cell?_of_block (hb0.block _ (World.block_lt_of_cell? _ _ h))).trans h
      have h2 : Wa.cell? p = some u := (World.cell?_of_block (hWa.block _ (World.block_lt_of_cell? _ _ h1))).trans h1
      exact cell_kept h2 (grownBy_putObj' Wa (z + 1) _) (fun r e => by cases e; exact ⟨_, hl1, rfl⟩)
    refine wpIn_mono (hgood _ pre x a' W0 _ (by rw [hs2]; exact Nat.le_trans hzW hWa.size) hlen hi0 hcl hi2 hx2 ((hA x a').putObj (s := ()) _ hax (by omega) hl1 rfl)) ?_
    rintro e a3 W3 hp
    cases e with
    | normal =>
      obtain ⟨hk3, hkp3, hi3⟩ := hp
      have hl3 := hk3.same _ _ (by omega) hl2 rfl
      have hd3 := hk3.same _ _ (Nat.le_refl _) hd2 rfl
      obtain ⟨hl4, hd4⟩ := turn .ready none hl3 hd3
      have hs4 : (W3.putObj (z + 1) (.loop (rec .ready none))).heap.size = W3.heap.size := by simp [World.putObj]
      have hs3 := hk3.size
      rw [hs2] at hs3
      have hsa := hWa.size
      refine ⟨_, _, end_ none hl3, rfl, ⟨hI.putObj _ hi3 (by omega) hl3 rfl, ?_, hl4, hd4⟩, ?_, ?_⟩
      · show z ≤ (W3.putObj (z + 1) (.loop (rec .ready none))).heap.size
        rw [hs4]; omega
      · show W.heap.size ≤ (W3.putObj (z + 1) (.loop (rec .ready none))).heap.size
        rw [hs4]; omega
      · intro k hkk hkw
        have hkz : k < z := hK k hkk
        have h1 := hWa.block k hkw
        have h2 : (Wa.putObj (z + 1) (.loop (rec .busy none))).heap[k]? = Wa.heap[k]? := World.putObj_heap_other (by omega)
        have h3 := hkp3 k hkk (by rw [hs2]; omega)
        have h4 : (W3.putObj (z + 1) (.loop (rec .ready none))).heap[k]? = W3.heap[k]? := World.putObj_heap_other (by omega)
        exact h4.trans (h3.trans (h2.trans h1))
    | ret => exact hp.elim
    | exit id => exact hp.elim
    | goto t => exact hp.elim
    | panic ch => exact hp.elim
    | outgrown => exact hp.elim
  · rintro pre q W ⟨hi, hzW, hl, hd⟩ hsp
    refine ⟨fn, _, assign, body, yld hl (hpb q), roundIn_of_wpIn hfn (hasb _ q W _ fun a' Wa hWa hax => ?_)⟩
    obtain ⟨hl1, hd1⟩ := stay hWa ⟨hl, hd⟩
    refine ⟨_, begin_ hl1, ?_⟩
    obtain ⟨hl2, hd2⟩ := turn .busy none hl1 hd1
    have hi2 := hI.putObj (.loop (rec .busy none)) (own_below hI hi hWa) (by omega) hl1 rfl
    have hs2 : (Wa.putObj (z + 1) (.loop (rec .busy none))).heap.size = Wa.heap.size := by simp [World.putObj]
    refine wpIn_mono (hbad _ pre q a' _ (by rw [hs2]; exact Nat.le_trans hzW hWa.size) hsp hi2 ((hAb q a').putObj (s := ()) _ hax (by omega) hl1 rfl)) ?_
    rintro e a3 W3 hp
    obtain ⟨hj, hk3, hi3⟩ := hp
    have hl3 := hk3.same _ _ (by omega) hl2 rfl
    have hd3 := hk3.same _ _ (Nat.le_refl _) hd2 rfl
    obtain ⟨hl4, hd4⟩ := turn .done (some jc) hl3 hd3
    have fin : ∃ v W4, (Instr.endRound (z + 1) (some jc)).run P W3 = .ok v W4 ∧ v = .bool false ∧ Ix pre q W4 ∧ W4.heap[z + 1]? = some (.loop (rec .done (some jc))) ∧ W4.heap[z]? = some (.deferred (some [])) :=
      ⟨_, _, end_ (some jc) hl3, rfl, hIx.putObj (s := (pre, q)) _ hi3 (by omega) hl3 rfl, hl4, hd4⟩
    obtain ⟨v, W4, f1, rfl, f2⟩ := fin
    cases e with
    | ret => cases hj; exact ⟨_, _, f1, rfl, f2⟩
    | exit id => cases hj; exact ⟨_, _, f1, rfl, f2⟩
    | goto t => cases hj; exact ⟨_, _, f1, rfl, f2⟩
    | normal => cases hj
    | panic ch => cases hj
    | outgrown => cases hj
  · rintro e W2 ⟨⟨v, rfl⟩, (⟨xs, hS, hi, _, hl, hd⟩ | ⟨pre, q, hSp, hi, hl, hd⟩)⟩
    · exact ⟨none, _, over_ hl (by simp), hdone z xs _ (by omega) hS (hI.putObj _ hi (by omega) hl rfl) ((turn .exhausted none hl hd).2)⟩
    · exact ⟨some jc, _, over_ hl (by simp), hstop z pre q _ (by omega) hSp (hIx.putObj (s := (pre, q)) _ hi (by omega) hl rfl) ((turn .exhausted (some jc) hl hd).2)⟩
end Go.Proofs.YtdjlbejhphbcoaaGreat
namespace Go.Proofs.YtdjlbejhphbcoaaGreat
open Go.RowKit
set_option linter.unusedVariables false
set_option maxRecDepth 100000
attribute [local go_sem] Oper.semAt_some

theorem cell_block13 {w w' : World} {p : Addr} {v : Value} (h : w.cell? p = some v) (hb : w'.heap[p.block]? = w.heap[p.block]?) : w'.cell? p = some v := (World.cell?_of_block (a := p) hb).trans h
theorem ints_kept13 {k : IntKind} {w w' : World} {a : Option Addr} {l : List Int} (h : Ints k w a l) (hb : ∀ j, j < w.heap.size → w'.heap[j]? = w.heap[j]?) : Ints k w' a l := by
  intro i hi
  obtain ⟨b, off, rfl, hc⟩ := h i hi
  exact ⟨b, off, rfl, cell_block13 hc (hb b (World.block_lt_of_cell? w _ hc))⟩
theorem ints_others13 {k : IntKind} {W W' : World} {row : Option Nat} {a : Option Addr} {l : List Int} (h : Ints k W a l) (hg : W.grownBy W' row) (hr : ∀ r, row = some r → ∃ o : Obj, W.heap[r]? = some o ∧ o.isCells = false) : Ints k W' a l := by
  intro i hi
  obtain ⟨b, off, rfl, hc⟩ := h i hi
  exact ⟨b, off, rfl, cell_kept hc hg hr⟩
/-- the blocks of w stand in w' as they stood -/
def Stays13 (w w' : World) : Prop := w.heap.size ≤ w'.heap.size ∧ ∀ k, k < w.heap.size → w'.heap[k]? = w.heap[k]?
theorem Stays13.of_below {w w' : World} (h : Below w.heap.size w w') : Stays13 w w' := ⟨h.size, h.block⟩
theorem ActIn.ints {w w' : World} {g : Ent12} (h : ActIn w g) (hv : Ints .u8 w' g.va g.o.v) (hm : Ints .u8 w' g.ma g.o.m) (hd : Ints .u8 w' g.da g.d) : ActIn w' g :=
  ⟨h.t, h.a, h.b, h.c, h.f, h.x, h.lv, h.lm, h.ld, hv, hm, hd, h.ov, h.om, h.od, h.cm⟩
theorem ActIn.others {W W' : World} {row : Option Nat} {g : Ent12} (e : ActIn W g) (hg : W.grownBy W' row) (hr : ∀ r, row = some r → ∃ o : Obj, W.heap[r]? = some o ∧ o.isCells = false) : ActIn W' g :=
  e.ints (ints_others13 e.iv hg hr) (ints_others13 e.im hg hr) (ints_others13 e.id hg hr)
/-- what has come so far, of bytes of which at_ are read -/
structure PreA (b : List Int) (at_ : Nat) (pre : List Ent12) : Prop where
  le : at_ ≤ b.length
  few : 8 * pre.length ≤ at_
  most : pre.length ≤ 64
  cut : Hid (∀ k, cut13 (pre.length + k) b = match cut13 k (b.drop at_) with
    | .error q => .error q
    | .ok l => .ok (pre.map Ent12.act ++ l))
theorem preA_nil (b : List Int) : PreA b 0 [] := ⟨Nat.zero_le _, by simp, by simp, by
  show ∀ k, _
  intro k
  rw [List.length_nil, Nat.zero_add, List.drop_zero]
  cases cut13 k b <;> rfl⟩
theorem PreA.rest {b : List Int} {at_ : Nat} {pre : List Ent12} (h : PreA b at_ pre) (hlt : at_ < b.length) : b.drop at_ ≠ [] := by
  intro e
  have := congrArg List.length e
  rw [List.length_drop] at this
  simp at this
  omega
theorem PreA.ok {b : List Int} {at_ : Nat} {pre : List Ent12} (h : PreA b at_ pre) (hlt : at_ < b.length) (hp : pre.length < 64) {x : Ent12} {n : Nat} (hd : dec12 (b.drop at_) = .ok (x.act, n)) (hn : n ≤ (b.drop at_).length) (h8 : 8 ≤ n) : PreA b (at_ + n) (pre ++ [x]) := by
  have hb := h.rest hlt
  rw [List.length_drop] at hn
  refine ⟨by omega, by rw [List.length_append]; have := h.few; simp; omega, by rw [List.length_append]; simp; omega, ?_⟩
  show ∀ k, _
  intro k
  have e : (pre ++ [x]).length + k = pre.length + (k + 1) := by rw [List.length_append]; simp; omega
  rw [e, h.cut.out (k + 1), cut_step hb hd, List.drop_drop]
  cases cut13 k (b.drop (at_ + n)) with
  | error q => rfl
  | ok l => simp
theorem PreA.at64 {b : List Int} {at_ : Nat} {pre : List Ent12} (h : PreA b at_ pre) : cut13 64 b = match cut13 (64 - pre.length) (b.drop at_) with
    | .error q => .error q
    | .ok l => .ok (pre.map Ent12.act ++ l) := by
  have := h.cut.out (64 - pre.length)
  rwa [show pre.length + (64 - pre.length) = 64 by have := h.most; omega] at this
theorem PreA.err {b : List Int} {at_ : Nat} {pre : List Ent12} (h : PreA b at_ pre) (hlt : at_ < b.length) (hp : pre.length < 64) {q : Int} (hd : dec12 (b.drop at_) = .error q) : cut13 64 b = .error q := by
  obtain ⟨k, hk⟩ : ∃ k, 64 - pre.length = k + 1 := ⟨63 - pre.length, by omega⟩
  rw [h.at64, hk, cut_err (h.rest hlt) hd]
theorem PreA.many {b : List Int} {at_ : Nat} {pre : List Ent12} (h : PreA b at_ pre) (hlt : at_ < b.length) (hp : pre.length = 64) : cut13 64 b = .error 520 := by
  rw [h.at64, hp, Nat.sub_self, cut_many (h.rest hlt)]
theorem PreA.done {b : List Int} {at_ : Nat} {pre : List Ent12} (h : PreA b at_ pre) (hge : b.length ≤ at_) : cut13 64 b = .ok (pre.map Ent12.act) := by
  rw [h.at64, List.drop_eq_nil_of_le hge, cut_nil]
  simp
/-- an action that comes behind others -/
structure NextA (b : List Int) (pre : List Ent12) (x : Ent12) (n : Nat) (w : World) : Prop where
  new : (∀ q : Addr, x.va = some q → n ≤ q.block) ∧ (∀ q : Addr, x.ma = some q → n ≤ q.block) ∧ (∀ q : Addr, x.da = some q → n ≤ q.block)
  ent : ActIn w x
  front : ∃ k, PreA b k (pre ++ [x])
theorem NextA.own (b : List Int) (pre : List Ent12) (n B : Nat) : OwnFrom B (fun x W => NextA b pre x n W) :=
  fun x W W' row hx hg hr => ⟨hx.new, hx.ent.others hg (fun r e => (hr r e).2), hx.front⟩
/-- what comes at last: an error, or one that is too many -/
structure LastA (b : List Int) (pre : List Ent12) (s : Ent12 × Int) : Prop where
  most : pre.length ≤ 64
  err : pre.length ≠ 64 → s.2 ≠ 0
  is : cut13 64 b = .error (if pre.length = 64 then 520 else s.2)

structure IterA (w0 : World) (a : Option Addr) (c p : Nat) (b : List Int) (at_ : Nat) (pre : List Ent12) (w : World) : Prop where
  front : PreA b at_ pre
  box : w.cell? ⟨p, 0, none⟩ = some (.slice a b.length c)
  lt : p < w.heap.size
  stays : Stays13 w0 w
theorem IterA.kept {w0 w w' : World} {a : Option Addr} {c p : Nat} {b : List Int} {at_ : Nat} {pre : List Ent12} (h : IterA w0 a c p b at_ pre w) (hs : w.heap.size ≤ w'.heap.size) (hk : ∀ k, (k = p ∨ k < w0.heap.size) → k < w.heap.size → w'.heap[k]? = w.heap[k]?) : IterA w0 a c p b at_ pre w' :=
  ⟨h.front, cell_block13 h.box (hk p (.inl rfl) h.lt), Nat.lt_of_lt_of_le h.lt hs, Nat.le_trans h.stays.1 hs, fun k hk' => (hk k (.inr hk') (Nat.lt_of_lt_of_le hk' h.stays.1)).trans (h.stays.2 k hk')⟩
theorem IterA.below {w0 w w' : World} {a : Option Addr} {c p : Nat} {b : List Int} {at_ : Nat} {pre : List Ent12} (h : IterA w0 a c p b at_ pre w) (hb : Below w.heap.size w w') : IterA w0 a c p b at_ pre w' :=
  h.kept hb.size (fun k _ hk => hb.block k hk)
def zeroE : Ent12 := ⟨0, 0, 0, noOx, none, 0, none, 0, [], none, 0⟩

set_option maxHeartbeats 4000000 in
theorem actions_yields (w0 w : World) (a : Option Addr) (c p : Nat) (b : List Int) (hH : Holds w0 a c b) (hI : IterA w0 a c p b 0 [] w) :
    YieldsU (α := Ent12) (β := Ent12 × Int) Tryz.prog 110 #[.pointer (some ⟨p, 0, none⟩)] (fun x => #[x.val, .int .i64 0]) (fun s => #[s.1.val, .int .i64 s.2]) (NextA b) (fun k => k = p ∨ k < w0.heap.size)
      (fun xs => cut13 64 b = .ok (xs.map Ent12.act)) (LastA b) 64 w := by
  intro i J Jx W hW hJ hgood hbad h0
  have HI0 := hid (hI.below hW)
  have hbx := (hI.below hW).box
  have HJ0 := hid hJ
  have HG := hid hgood
  have HB := hid hbad
  have hbc := hH.cap
  have hc := hH.max
  have HO := hid hH.oct
  have HB0 := hid hH.ints
  have HS0 := hid hH.shape
  clear hgood hbad hJ hI hH
  go_enter Tryz.func110, Tryz.ntmps110
  go_wp2
  go_loopw [3] (fun v wr => ∃ (at_ : Nat) (pre : List Ent12), v = .int .i64 at_ ∧ IterA w0 a c p b at_ pre wr ∧ J pre wr ∧ W.heap.size ≤ wr.heap.size) (fun v _ => b.length - (intOf v).toNat)
  case atStart => exact ⟨0, [], rfl, HI0.out, h0, Nat.le_refl _⟩
  case round =>
    obtain ⟨at_, pre, rfl, hi, hj, hsz⟩ := hrel
    have hle := hi.front.le
    have hcell := hi.box
    rcases Nat.lt_or_ge at_ b.length with hlt | hge
    · have hbr := ints_kept13 HB0.out hi.stays.2
      obtain ⟨M, off, hae, _⟩ := hbr at_ hlt
      subst hae
      have hne : ¬ c = at_ := by omega
      have hlti : (at_ : Int) < (b.length : Int) := by omega
      have hcapi : (b.length : Int) ≤ (c : Int) := by omega
      have hlei : (at_ : Int) ≤ (b.length : Int) := by omega
      have hs1 : ((b.length : Int) - (at_ : Int)).toNat = b.length - at_ := by omega
      have hs2 : ((c : Int) - (at_ : Int)).toNat = c - at_ := by omega
      have hd : (b.drop at_).length = b.length - at_ := List.length_drop
      have hdr := hbr.drop (j := at_) hbc
      rw [if_neg (by omega)] at hdr
      have HDEC := actDecode_any (b.drop at_) (some ⟨M, off + at_, none⟩) (c - at_) wr ⟨by rw [hd]; omega, by omega, hdr, HO.out.drop _, fun _ => ⟨_, _, rfl⟩⟩
      rw [hd] at HDEC
      have HD := hid HDEC
      have hplt := hi.lt
      have HI := hid hi
      have HJ := hid hj
      have HLD := hid hd
      clear hi hj hbr hdr HDEC hd
      go_wp2_with fail
      refine HD.out.mono ?_
      rintro e w2 (⟨q, hq, hq0, rfl, hb2⟩ | ⟨x, n, hok, rfl, hb2, hin, hn1, hn2, hn3⟩)
      · have hst : LastA b pre (zeroE, q) := ⟨HI.out.front.most, fun _ => hq0, by
          have hm := HI.out.front.most
          by_cases h64 : pre.length = 64
          · rw [if_pos h64]; exact HI.out.front.many hlt h64
          · rw [if_neg h64]; exact HI.out.front.err hlt (by omega) hq⟩
        have HST := hid hst
        obtain ⟨V, hV, hbV, hx⟩ := act_box w2 0 0 0 0 0 false 0 none 0 0 none 0 0 none 0 0
        have HV := hid hV
        have hb : Below wr.heap.size wr V := below_on hb2 hbV
        obtain ⟨fn, tmps, assign, body, hy, hR⟩ := HB.out pre (zeroE, q) V (HJ0.out _ _ _ HJ.out hb) hst
        have hy : (Instr.yield i #[zero12, .int .i64 q]).run Tryz.prog V = .ok (.round i fn tmps assign body) V := hy
        unfold zero12 at hy
        obtain ⟨x0, x1, x2, x3, x4, x5, x6, x7, x8, x9⟩ := hx.ten
        clear hV hst hx hbV hb2 hq
        unfold zero12
        go_upto_region 3 with fail
        rw [HV.out]
        refine (wpIn_wide (n := 0)).1 ?_
        gi_wp2
        refine ⟨rfl, hR.mono ?_⟩
        rintro e W3 ⟨rfl, hJx⟩
        gi_wp2
        go_wp2
        refine bodyPost_ret (results_none rfl _ _ _) rfl ?_
        exact ⟨⟨_, rfl⟩, .inr ⟨pre, (zeroE, q), HST.out, hJx⟩⟩
      · obtain ⟨T, A, B, ⟨C, F, H, X, v, m⟩, va, vc, ma, mc, d, da, dc⟩ := x
        unfold Ent12.val
        dsimp only
        obtain ⟨V, hV, hbV, hx⟩ := act_box w2 T A B C F H X va v.length vc ma m.length mc da d.length dc
        have HV := hid hV
        have hb : Below wr.heap.size wr V := below_on hb2 hbV
        obtain ⟨_, e3, e8, _⟩ := dec_act hok (HO.out.drop _)
        obtain ⟨x0, x1, x2, x3, x4, x5, x6, x7, x8, x9⟩ := hx.ten
        have hs2' := hb.size
        have hm := HI.out.front.most
        by_cases h64 : pre.length = 64
        · have hst : LastA b pre (⟨T, A, B, ⟨C, F, H, X, v, m⟩, va, vc, ma, mc, d, da, dc⟩, 0) := ⟨hm, fun h => absurd h64 h, by rw [if_pos h64]; exact HI.out.front.many hlt h64⟩
          have HST := hid hst
          obtain ⟨fn, tmps, assign, body, hy, hR⟩ := HB.out pre (⟨T, A, B, ⟨C, F, H, X, v, m⟩, va, vc, ma, mc, d, da, dc⟩, 0) V (HJ0.out _ _ _ HJ.out hb) hst
          have hy : (Instr.yield i #[.agg #[.int .i64 T, .int .u64 A, .int .u64 B, .int .i64 C, .int .i64 F, .bool H, .int .u64 X, .slice va v.length vc, .slice ma m.length mc, .slice da d.length dc], .int .i64 0]).run Tryz.prog V = .ok (.round i fn tmps assign body) V := hy
          clear hV hst hx hbV hb2 hok hin
          go_upto_region 3 with fail
          rw [HV.out]
          refine (wpIn_wide (n := 0)).1 ?_
          gi_wp2
          refine ⟨rfl, hR.mono ?_⟩
          rintro e W3 ⟨rfl, hJx⟩
          gi_wp2
          go_wp2
          refine bodyPost_ret (results_none rfl _ _ _) rfl ?_
          exact ⟨⟨_, rfl⟩, .inr ⟨pre, _, HST.out, hJx⟩⟩
        · have hfr := HI.out.front.ok hlt (by omega) (x := ⟨T, A, B, ⟨C, F, H, X, v, m⟩, va, vc, ma, mc, d, da, dc⟩) hok e3 e8
          obtain ⟨fn, tmps, assign, body, hy, hR⟩ := HG.out pre ⟨T, A, B, ⟨C, F, H, X, v, m⟩, va, vc, ma, mc, d, da, dc⟩ wr V HJ.out hb ⟨⟨hn1, hn2, hn3⟩, hin.below hbV, _, hfr⟩ (by omega)
          have hy : (Instr.yield i #[.agg #[.int .i64 T, .int .u64 A, .int .u64 B, .int .i64 C, .int .i64 F, .bool H, .int .u64 X, .slice va v.length vc, .slice ma m.length mc, .slice da d.length dc], .int .i64 0]).run Tryz.prog V = .ok (.round i fn tmps assign body) V := hy
          have HFR := hid hfr
          have hnn : at_ + n ≤ b.length := hfr.le
          have HPB := hid hb
          clear hV hfr hx hbV hb2 hok hin hb hn1 hn2 hn3
          go_upto_region 3 with fail
          rw [HV.out]
          refine (wpIn_wide (n := 0)).1 ?_
          gi_wp2
          refine ⟨rfl, hR.mono ?_⟩
          rintro e W3 ⟨rfl, hj3, hs3, hk3⟩
          have hI3 := hid ((HI.out.below HPB.out).kept hs3 hk3)
          have HJ3 := hid hj3
          have hsum : (at_ : Int) + (n : Int) ≤ 9223372036854775807 := by omega
          clear hk3 hj3 hR hy x0 x1 x2 x3 x4 x5 x6 x7 x8 x9
          gi_wp2
          go_wp2
          go_roundw
          case rel => exact ⟨at_ + n, pre ++ [⟨T, A, B, ⟨C, F, H, X, v, m⟩, va, vc, ma, mc, d, da, dc⟩], by go_num, ⟨HFR.out, hI3.out.box, hI3.out.lt, hI3.out.stays⟩, HJ3.out, by omega⟩
          case measure => simp [intOf]; omega
    · have hge' : (b.length : Int) ≤ (at_ : Int) := by omega
      have HI := hid hi
      clear hi
      go_wp2
      go_end0
      exact ⟨⟨_, rfl⟩, .inl ⟨pre, HI.out.front.done hge, hj⟩⟩
theorem actions_any (w : World) (a : Option Addr) (c : Nat) (b : List Int) :
    Calls Tryz.prog 67 #[.slice a b.length c] w fun e w' => ∃ p, e = .returned (.func (.func 110) #[] #[.pointer (some ⟨p, 0, none⟩)]) ∧
      w'.cell? ⟨p, 0, none⟩ = some (.slice a b.length c) ∧ Below w.heap.size w w' ∧ w.heap.size ≤ p ∧ p < w'.heap.size := by
  go_enter Tryz.func67, Tryz.ntmps67
  go_wp2
  go_ret
  exact ⟨w.heap.size, rfl, by simp, below_alloc _ _, Nat.le_refl _, by rw [World.size_alloc]; omega⟩
end Go.Proofs.YtdjlbejhphbcoaaGreat
namespace Go.Proofs.YtdjlbejhphbcoaaGreat
open Go.RowKit
set_option linter.unusedVariables false
set_option maxRecDepth 100000

/-- a list of actions of one's own, in new memory -/
structure FreshA (w w' : World) (v : Value) (n : Nat) (D : List Ent12) : Prop where
  own : w'.ownsRow 0 27 10 v n (actCells D)
  bel : Below w.heap.size w w'
  new : ∀ g, v.ownBlock = some g → w.heap.size ≤ g
theorem own_shape12 {W : World} {e : TypeId} {size n : Nat} {v : Value} {xs : List Value} (h : W.ownsRow 0 e size v n xs) : ∃ a c, v = .slice a n c := by
  rcases h.2 with ⟨rfl, rfl⟩ | ⟨g, cap, cur, rfl, _⟩
  · exact ⟨_, _, rfl⟩
  · exact ⟨_, _, rfl⟩
theorem FreshA.step {w wr w' : World} {v v' : Value} {n n' : Nat} {D D' : List Ent12} (h : FreshA w wr v n D) (k : GrewN 27 10 wr w' v v' n' (actCells D')) : FreshA w w' v' n' D' :=
  ⟨k.own, h.bel.trans (k.below h.bel.size h.new), k.base h.bel.size h.new⟩
theorem FreshA.empty (w : World) : FreshA w (w.alloc (.cells #[] 27)) (.slice (some ⟨w.heap.size, 0, none⟩) 0 0) 0 [] :=
  ⟨World.ownsRow_made w #[] 0 (Nat.zero_le _) (Nat.zero_le _) rfl, below_alloc _ _, by intro g hg; simp [Value.ownBlock] at hg; omega⟩
theorem FreshA.list {w w' : World} {va : Option Addr} {n vc : Nat} {D : List Ent12} (h : FreshA w w' (.slice va n vc) n D) : D.length = n ∧ n ≤ vc ∧ vc ≤ 9223372036854775807 ∧ Acts w' va D := by
  have hl := h.own.1
  rw [actCells_length] at hl
  have hn : D.length = n := by omega
  have ho := h.own
  rw [← hn] at ho
  obtain ⟨a, c, e, h1, h2, h3, _⟩ := own_acts ho
  cases e
  exact ⟨hn, by omega, h2, h3⟩
theorem elemAct : ElemN Tryz.prog 43 27 (.agg #[.int .i64 0, .int .u64 0, .int .u64 0, .int .i64 0, .int .i64 0, .bool false, .int .u64 0, .slice none 0 0, .slice none 0 0, .slice none 0 0]) 10 128 := ⟨Tryz.underlying43, by kernel_rfl, rfl, by decide⟩
theorem run_app_none12 {ty : TypeId} {w : World} {a : Option Addr} {n cap c : Nat} (hn : n ≤ cap) :
    (Builtin.append_ #[43, 43] ty #[.slice a n cap, .slice none 0 c]).run Tryz.prog w = .ok (.slice a n cap) w := by
  have ht := Tryz.underlying43
  obtain ⟨i, hi⟩ : ∃ i, Tryz.prog.info? 27 = some i := ⟨_, rfl⟩
  cases a <;> simp [Builtin.append_, run_underlying ht, sizeOf, typeInfo, hi, Builtin.lenOf, Builtin.firstCells, loadCells, hn, storeCells]
theorem run_app_acts {ty : TypeId} {w0 w : World} {v : Value} {n : Nat} {D : List Ent12} (hf : FreshA w0 w v n D) {sa : Option Addr} {c : Nat} {l : List Ent12} (hO : Acts w sa l) (hb : n + l.length ≤ 1000) :
    ∃ va' vc' w', (Builtin.append_ #[43, 43] ty #[v, .slice sa l.length c]).run Tryz.prog w = .ok (.slice va' (n + l.length) vc') w' ∧ FreshA w0 w' (.slice va' (n + l.length) vc') (n + l.length) (D ++ l) := by
  obtain ⟨va, vc, rfl⟩ := own_shape12 hf.own
  cases sa with
  | none =>
    have : l = [] := by
      cases l with
      | nil => rfl
      | cons x r => obtain ⟨b, off, e, _⟩ := hO 0 (by simp); cases e
    subst this
    obtain ⟨_, hn, _, _⟩ := hf.list
    rw [List.append_nil]
    exact ⟨va, vc, w, run_app_none12 hn, hf⟩
  | some ad =>
    obtain ⟨v', w', hr, hg⟩ := run_app_many (P := Tryz.prog) (ty := ty) elemAct hf.own ad l.length c (actCells l) (actCells_length l) (acts_cells hO) (act_flat l) (by omega) (by omega)
    obtain ⟨va', vc', rfl⟩ := own_shape12 hg.own
    rw [← actCells_append] at hg
    exact ⟨va', vc', w', hr, hf.step hg⟩
/-- append(s, x...), of lists of actions, where a guard is on -/
theorem wp_app_acts_w {w0 w : World} {ops : Array Oper} {rest : List Oper} {o : Oper} {a : Act} {Q : Exit → Act → World → Prop} (hgd : Region.wanted o (yielded ops a.tmps) = true) (s x : Operand)
    (ho : o.op = .call { callee := .builtin .append, args := #[s, x], argTypes := #[43, 43] }) {v : Value} {n : Nat} {D : List Ent12} (hf : FreshA w0 w v n D) (hs : a.eval s = v)
    {sa : Option Addr} {m c : Nat} {l : List Ent12} (hx : a.eval x = .slice sa m c) (hm : l.length = m) (hO : Acts w sa l) (hb : n + m ≤ 1000) {N : Nat} (hN : n + m = N)
    (h : ∀ va' vc' w', FreshA w0 w' (.slice va' N vc') N (D ++ l) → wpList Tryz.prog ops Q rest (a.put o.dst (.slice va' N vc')) w') : wpList Tryz.prog ops Q (o :: rest) a w := by
  subst hm
  subst hN
  refine wpList_step fun K hK => ?_
  rw [if_pos hgd]
  obtain ⟨va', vc', w', hr, hg⟩ := run_app_acts (ty := o.type) (c := c) hf hO hb
  unfold Oper.wp execOp
  simp only [ho, resolve, invoke, builtin, Sem.run_bind, Sem.run_pure, Result.andThen_ok, List.map_toArray, List.map_cons, List.map_nil, hs, hx, hr]
  exact hK _ _ (h va' vc' w' hg)
end Go.Proofs.YtdjlbejhphbcoaaGreat
