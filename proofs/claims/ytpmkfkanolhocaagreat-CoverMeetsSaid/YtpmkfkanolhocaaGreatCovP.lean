/- Package cover: Takes, Within, Apart. -/
import Derived.Test.YtpmkfkanolhocaaGreatCovO
namespace Go.Proofs.YtpmkfkanolhocaaGreat
open Go.RowKit
set_option linter.unusedVariables false
set_option maxRecDepth 100000

set_option maxHeartbeats 2000000 in
theorem idxFind (q : Ox9 → Bool) (l : List Ent9) (a : Option Addr) (c : Nat) (p1 p2 : Value) (w : World) (hL : L9 w a l) (hQ : ∀ h ∈ l, ∀ w' : World, Below w.heap.size w w' → Calls Tryz.prog 55 #[h.val, p1, p2] w' fun e w'' => e = .returned (.bool (q h.o)) ∧ Below w'.heap.size w' w'') :
    Calls Tryz.prog 58 #[.slice a l.length c, .func (.func 55) #[] #[p1, p2]] w fun e w' => (∃ r : Int, e = .returned (.int .i64 r) ∧ Idx11 ((l.map Ent9.o).any q) r) ∧ Below w.heap.size w w' := by
  have HL := hid hL
  have hll : l.length ≤ 1000 := hL.len
  have HQ := hid hQ
  obtain ⟨t, ht⟩ : ∃ t, (l.map Ent9.o).any q = t := ⟨_, rfl⟩
  rw [ht]
  have HT := hid ht
  clear hL hQ ht
  go_enter Tryz.func58, Tryz.ntmps58
  go_wp2_with fail
  go_loopg [8] (l.length) (fun kx s8 wr => ∃ (i : Nat), s8 = .int .i64 i ∧ i ≤ l.length ∧ l.length - i ≤ kx ∧ Hid (((l.map Ent9.o).take i).any q = false) ∧ Hid (Below w.heap.size w wr))
  case atStart => exact ⟨0, rfl, by omega, by omega, rfl, Below.refl _ _⟩
  case round =>
    obtain ⟨i, rfl, hi, hkx, hn, hb⟩ := hrel
    by_cases hlt : i < l.length
    · have hltz : (i : Int) < (l.length : Int) := by omega
      have hl := HL.out.below hb.out
      obtain ⟨b, off, rfl, c0, c1, c2, c3, c4, c5⟩ := hl.ox i hlt
      have HC := HQ.out l[i] (List.getElem_mem hlt) wr hb.out
      have hget : (l.map Ent9.o)[i]? = some l[i].o := by simp [hlt]
      generalize l[i] = h at c0 c1 c2 c3 c4 c5 HC hget
      unfold Ent9.val at HC
      have HC := hid HC
      have HNX : Hid (∀ s : Bool, q h.o = s → ((l.map Ent9.o).take (i + 1)).any q = s) := by
        show _
        intro s hs
        have h0 := hn.out
        rw [List.take_add_one, hget]
        simp [h0, hs]
      clear hl hget
      cases hs : q h.o
      · rw [hs] at HC
        have HS := hid hs
        clear hs
        go_wp2_with fail
        refine HC.out.mono ?_
        rintro e w5 ⟨rfl, hb5⟩
        have HB5 := hid (below_on hb.out hb5)
        clear hb5
        go_wp2_with fail
        go_roundg (l.length - (i + 1))
        case measure => omega
        case rel => exact ⟨i + 1, by first | rfl | go_num, by omega, Nat.le_refl _, HNX.out false HS.out, HB5.out⟩
      · rw [hs] at HC
        have HS := hid hs
        clear hs
        go_wp2_with fail
        refine HC.out.mono ?_
        rintro e w5 ⟨rfl, hb5⟩
        have HB5 := hid (below_on hb.out hb5)
        clear hb5
        go_wp2_with fail
        go_ret
        refine ⟨⟨i, rfl, ?_⟩, HB5.out⟩
        have hr : t = true := by
          rw [← HT.out]
          obtain ⟨z, hz, hz2⟩ := List.any_eq_true.1 (HNX.out true HS.out)
          exact List.any_eq_true.2 ⟨z, List.mem_of_mem_take hz, hz2⟩
        rw [hr]
        unfold Idx11
        simp
    · have hltz : ¬ (i : Int) < (l.length : Int) := by omega
      go_wp2_with fail
      go_ret
      refine ⟨⟨-1, rfl, ?_⟩, hb.out⟩
      have hr : t = false := by
        rw [← HT.out]
        have h0 := hn.out
        rwa [List.take_of_length_le (by rw [List.length_map]; omega)] at h0
      rw [hr]; rfl
set_option maxHeartbeats 2000000 in
theorem hasFind (q : Ox9 → Bool) (l : List Ent9) (a : Option Addr) (c : Nat) (p1 p2 : Value) (w : World) (hL : L9 w a l) (hQ : ∀ h ∈ l, ∀ w' : World, Below w.heap.size w w' → Calls Tryz.prog 55 #[h.val, p1, p2] w' fun e w'' => e = .returned (.bool (q h.o)) ∧ Below w'.heap.size w' w'') :
    Calls Tryz.prog 34 #[.slice a l.length c, .func (.func 55) #[] #[p1, p2]] w fun e w' => e = .returned (.bool ((l.map Ent9.o).any q)) ∧ Below w.heap.size w w' := by
  have HC := hid (idxFind q l a c p1 p2 w hL hQ)
  obtain ⟨r, hr⟩ : ∃ r, (l.map Ent9.o).any q = r := ⟨_, rfl⟩
  rw [hr] at HC ⊢
  clear hL hQ hr
  go_enter Tryz.func34, Tryz.ntmps34
  go_wp2_with fail
  refine HC.out.mono ?_
  rintro e w' ⟨⟨i, rfl, hi⟩, hb⟩
  have HI := hid hi
  clear hi
  go_wp2
  exact bodyPost_ret (v := .bool (decide (0 ≤ i))) (by simp [results, Tryz.results34, go_sem]) rfl ⟨by rw [show decide (0 ≤ i) = r from HI.out], hb⟩

set_option maxHeartbeats 2000000 in
theorem idxAll (q : Ox9 → Bool) (l : List Ent9) (a : Option Addr) (c : Nat) (p1 : Value) (w : World) (hL : L9 w a l) (hQ : ∀ h ∈ l, ∀ w' : World, Below w.heap.size w w' → Calls Tryz.prog 52 #[h.val, p1] w' fun e w'' => e = .returned (.bool (q h.o)) ∧ Below w'.heap.size w' w'') :
    Calls Tryz.prog 58 #[.slice a l.length c, .func (.func 52) #[] #[p1]] w fun e w' => (∃ r : Int, e = .returned (.int .i64 r) ∧ Idx11 ((l.map Ent9.o).any q) r) ∧ Below w.heap.size w w' := by
  have HL := hid hL
  have hll : l.length ≤ 1000 := hL.len
  have HQ := hid hQ
  obtain ⟨t, ht⟩ : ∃ t, (l.map Ent9.o).any q = t := ⟨_, rfl⟩
  rw [ht]
  have HT := hid ht
  clear hL hQ ht
  go_enter Tryz.func58, Tryz.ntmps58
  go_wp2_with fail
  go_loopg [8] (l.length) (fun kx s8 wr => ∃ (i : Nat), s8 = .int .i64 i ∧ i ≤ l.length ∧ l.length - i ≤ kx ∧ Hid (((l.map Ent9.o).take i).any q = false) ∧ Hid (Below w.heap.size w wr))
  case atStart => exact ⟨0, rfl, by omega, by omega, rfl, Below.refl _ _⟩
  case round =>
    obtain ⟨i, rfl, hi, hkx, hn, hb⟩ := hrel
    by_cases hlt : i < l.length
    · have hltz : (i : Int) < (l.length : Int) := by omega
      have hl := HL.out.below hb.out
      obtain ⟨b, off, rfl, c0, c1, c2, c3, c4, c5⟩ := hl.ox i hlt
      have HC := HQ.out l[i] (List.getElem_mem hlt) wr hb.out
      have hget : (l.map Ent9.o)[i]? = some l[i].o := by simp [hlt]
      generalize l[i] = h at c0 c1 c2 c3 c4 c5 HC hget
      unfold Ent9.val at HC
      have HC := hid HC
      have HNX : Hid (∀ s : Bool, q h.o = s → ((l.map Ent9.o).take (i + 1)).any q = s) := by
        show _
        intro s hs
        have h0 := hn.out
        rw [List.take_add_one, hget]
        simp [h0, hs]
      clear hl hget
      cases hs : q h.o
      · rw [hs] at HC
        have HS := hid hs
        clear hs
        go_wp2_with fail
        refine HC.out.mono ?_
        rintro e w5 ⟨rfl, hb5⟩
        have HB5 := hid (below_on hb.out hb5)
        clear hb5
        go_wp2_with fail
        go_roundg (l.length - (i + 1))
        case measure => omega
        case rel => exact ⟨i + 1, by first | rfl | go_num, by omega, Nat.le_refl _, HNX.out false HS.out, HB5.out⟩
      · rw [hs] at HC
        have HS := hid hs
        clear hs
        go_wp2_with fail
        refine HC.out.mono ?_
        rintro e w5 ⟨rfl, hb5⟩
        have HB5 := hid (below_on hb.out hb5)
        clear hb5
        go_wp2_with fail
        go_ret
        refine ⟨⟨i, rfl, ?_⟩, HB5.out⟩
        have hr : t = true := by
          rw [← HT.out]
          obtain ⟨z, hz, hz2⟩ := List.any_eq_true.1 (HNX.out true HS.out)
          exact List.any_eq_true.2 ⟨z, List.mem_of_mem_take hz, hz2⟩
        rw [hr]
        unfold Idx11
        simp
    · have hltz : ¬ (i : Int) < (l.length : Int) := by omega
      go_wp2_with fail
      go_ret
      refine ⟨⟨-1, rfl, ?_⟩, hb.out⟩
      have hr : t = false := by
        rw [← HT.out]
        have h0 := hn.out
        rwa [List.take_of_length_le (by rw [List.length_map]; omega)] at h0
      rw [hr]; rfl
set_option maxHeartbeats 2000000 in
theorem hasAll (q : Ox9 → Bool) (l : List Ent9) (a : Option Addr) (c : Nat) (p1 : Value) (w : World) (hL : L9 w a l) (hQ : ∀ h ∈ l, ∀ w' : World, Below w.heap.size w w' → Calls Tryz.prog 52 #[h.val, p1] w' fun e w'' => e = .returned (.bool (q h.o)) ∧ Below w'.heap.size w' w'') :
    Calls Tryz.prog 34 #[.slice a l.length c, .func (.func 52) #[] #[p1]] w fun e w' => e = .returned (.bool ((l.map Ent9.o).any q)) ∧ Below w.heap.size w w' := by
  have HC := hid (idxAll q l a c p1 w hL hQ)
  obtain ⟨r, hr⟩ : ∃ r, (l.map Ent9.o).any q = r := ⟨_, rfl⟩
  rw [hr] at HC ⊢
  clear hL hQ hr
  go_enter Tryz.func34, Tryz.ntmps34
  go_wp2_with fail
  refine HC.out.mono ?_
  rintro e w' ⟨⟨i, rfl, hi⟩, hb⟩
  have HI := hid hi
  clear hi
  go_wp2
  exact bodyPost_ret (v := .bool (decide (0 ≤ i))) (by simp [results, Tryz.results34, go_sem]) rfl ⟨by rw [show decide (0 ≤ i) = r from HI.out], hb⟩

theorem all_not (L : List Ox9) (q : Ox9 → Bool) : (!L.any fun o => !q o) = L.all q := by
  induction L with
  | nil => rfl
  | cons x r ih => rw [List.any_cons, List.all_cons, Bool.not_or, ih, Bool.not_not]
set_option maxHeartbeats 2000000 in
theorem allOne_any (q : Bool) (h : Ent9) (p : Nat) (p1 p2 : Value) (w : World) (hp : w.cell? ⟨p, 0, none⟩ = some (.func (.func 55) #[] #[p1, p2])) (hQ : ∀ w' : World, Below w.heap.size w w' → Calls Tryz.prog 55 #[h.val, p1, p2] w' fun e w'' => e = .returned (.bool q) ∧ Below w'.heap.size w' w'') :
    Calls Tryz.prog 52 #[h.val, .pointer (some ⟨p, 0, none⟩)] w fun e w' => e = .returned (.bool (!q)) ∧ Below w.heap.size w w' := by
  obtain ⟨W, hW, hbW, hx⟩ := oxm_box w h.o.C h.o.F h.o.H h.o.X h.va h.o.v.length h.vc h.ma h.o.m.length h.mc
  have HW := hid hW
  have HC := hQ W hbW
  have hp' := cell_keep hp hbW
  obtain ⟨d0, d1, d2, d3, d4, d5⟩ := hx.six
  have HB := hid hbW
  unfold Ent9.val at HC ⊢
  have HC := hid HC
  clear hW hbW hx hp hQ
  go_enter Tryz.func52, Tryz.ntmps52
  go_upto_region 1 with fail
  rw [HW.out]
  go_wp2_with fail
  refine HC.out.mono ?_
  rintro e w5 ⟨rfl, hb5⟩
  go_wp2_with fail
  go_ret
  exact ⟨rfl, below_on HB.out hb5⟩
set_option maxHeartbeats 2000000 in
theorem all_any (q : Ox9 → Bool) (l : List Ent9) (a : Option Addr) (c : Nat) (p1 p2 : Value) (w : World) (hL : L9 w a l) (hQ : ∀ h ∈ l, ∀ w' : World, Below w.heap.size w w' → Calls Tryz.prog 55 #[h.val, p1, p2] w' fun e w'' => e = .returned (.bool (q h.o)) ∧ Below w'.heap.size w' w'') :
    Calls Tryz.prog 28 #[.slice a l.length c, .func (.func 55) #[] #[p1, p2]] w fun e w' => e = .returned (.bool ((l.map Ent9.o).all q)) ∧ Below w.heap.size w w' := by
  obtain ⟨W, hW, hbW, hx, hs⟩ := box_any w [.func (.func 55) #[] #[p1, p2]] 29
  have HW := hid hW
  have HB := hid hbW
  have HC := hid (hasAll (fun o => !q o) l a c (.pointer (some ⟨w.heap.size, 0, none⟩)) W (hL.below hbW) (fun h hm w' hb => allOne_any (q h.o) h w.heap.size p1 p2 w' (cell_keep (hx.cell 0 _ rfl) hb) (fun w'' hb' => hQ h hm w'' (below_on (below_on hbW hb) hb'))))
  obtain ⟨s, hs2⟩ : ∃ s, (l.map Ent9.o).any (fun o => !q o) = s := ⟨_, rfl⟩
  have HA := hid (all_not (l.map Ent9.o) q)
  rw [hs2] at HC HA
  rw [← HA.out]
  clear hW hbW hx hs hL hQ hs2 HA
  go_enter Tryz.func28, Tryz.ntmps28
  go_upto_region 1 with fail
  rw [HW.out]
  go_wp2_with fail
  refine HC.out.mono ?_
  rintro e w5 ⟨rfl, hb5⟩
  go_wp2_with fail
  go_ret
  exact ⟨rfl, below_on HB.out hb5⟩
/-- what a finder finds, value by value -/
theorem finder_tells {f : FuncId} {hp : Ox9 → Ox9 → Bool} (hH : Holds11 f hp) {l p : List Ent9} {a : Option Addr} {w w1 : World} {bk b3 B : Nat} (hL : L9 w1 a l) (hOL : OkL (l.map Ent9.o)) (hP : OkL (p.map Ent9.o)) (hps : ∀ h ∈ p, h.o.v.length ≤ 1000) (hF : Finder11 w1 f bk b3 B (p.map Ent9.o)) :
    ∀ h ∈ l, ∀ w' : World, Below w1.heap.size w1 w' → Calls Tryz.prog 55 #[h.val, .pointer (some ⟨bk, 0, none⟩), .pointer (some ⟨b3, 0, none⟩)] w' fun e w'' => e = .returned (.bool (find11 hp (p.map Ent9.o) h.o)) ∧ Below w'.heap.size w' w'' := by
  intro h hm w' hb
  refine find_any hH h w' bk b3 B _ (hF.below hb) hP (fun x hx => ?_) ((hL.ent h hm).below hb) (hOL.ok h.o (List.mem_map.2 ⟨h, hm, rfl⟩)) (hL.few h hm).1
  obtain ⟨y, hy, rfl⟩ := List.mem_map.1 hx
  exact hps y hy
set_option maxHeartbeats 2000000 in
theorem takes_any (l p : List Ent9) (a b : Option Addr) (c d : Nat) (w : World) (hL : L9 w a l) (hP : L9 w b p) (oL : OkL (l.map Ent9.o)) (oP : OkL (p.map Ent9.o)) :
    Calls Tryz.prog 12 #[.slice a l.length c, .slice b p.length d] w fun e w' => e = .returned (.bool (takes11 (l.map Ent9.o) (p.map Ent9.o))) ∧ Below w.heap.size w w' := by
  have HF := hid (finder_any 30 p b d w hP oP)
  have HT := hid (takes_find oL oP)
  have HN := hid (fun (w1 : World) (bk b3 B : Nat) (hb : Below w.heap.size w w1) (hF : Finder11 w1 30 bk b3 B (p.map Ent9.o)) => all_any (find11 hTake (p.map Ent9.o)) l a c _ _ w1 (hL.below hb) (finder_tells (w := w) holds_take (hL.below hb) oL oP (fun h hm => (hP.few h hm).1) hF))
  obtain ⟨r, hr⟩ : ∃ r, (l.map Ent9.o).all (find11 hTake (p.map Ent9.o)) = r := ⟨_, rfl⟩
  rw [HT.out, hr]
  rw [hr] at HN
  clear hL hP oL oP hr HT
  go_enter Tryz.func12, Tryz.ntmps12
  go_wp2_with fail
  refine HF.out.mono ?_
  rintro e w1 ⟨bk, b3, B, rfl, hF, hb1⟩
  have HN1 := hid (HN.out w1 bk b3 B hb1 hF)
  have HB1 := hid hb1
  clear hF hb1
  go_wp2_with fail
  refine HN1.out.mono ?_
  rintro e w2 ⟨rfl, hb2⟩
  go_wp2_with fail
  go_ret
  exact ⟨rfl, below_on HB1.out hb2⟩
set_option maxHeartbeats 2000000 in
theorem within_any (l p : List Ent9) (a b : Option Addr) (c d : Nat) (w : World) (hL : L9 w a l) (hP : L9 w b p) (oL : OkL (l.map Ent9.o)) (oP : OkL (p.map Ent9.o)) :
    Calls Tryz.prog 13 #[.slice a l.length c, .slice b p.length d] w fun e w' => e = .returned (.bool (within11 (l.map Ent9.o) (p.map Ent9.o))) ∧ Below w.heap.size w w' := by
  have HF := hid (finder_any 32 l a c w hL oL)
  have HT := hid (within_find oL oP)
  have HN := hid (fun (w1 : World) (bk b3 B : Nat) (hb : Below w.heap.size w w1) (hF : Finder11 w1 32 bk b3 B (l.map Ent9.o)) => all_any (find11 hOver (l.map Ent9.o)) p b d _ _ w1 (hP.below hb) (finder_tells (w := w) holds_over (hP.below hb) oP oL (fun h hm => (hL.few h hm).1) hF))
  obtain ⟨r, hr⟩ : ∃ r, (p.map Ent9.o).all (find11 hOver (l.map Ent9.o)) = r := ⟨_, rfl⟩
  rw [HT.out, hr]
  rw [hr] at HN
  clear hL hP oL oP hr HT
  go_enter Tryz.func13, Tryz.ntmps13
  go_wp2_with fail
  refine HF.out.mono ?_
  rintro e w1 ⟨bk, b3, B, rfl, hF, hb1⟩
  have HN1 := hid (HN.out w1 bk b3 B hb1 hF)
  have HB1 := hid hb1
  clear hF hb1
  go_wp2_with fail
  refine HN1.out.mono ?_
  rintro e w2 ⟨rfl, hb2⟩
  go_wp2_with fail
  go_ret
  exact ⟨rfl, below_on HB1.out hb2⟩
set_option maxHeartbeats 2000000 in
theorem apart_any (l p : List Ent9) (a b : Option Addr) (c d : Nat) (w : World) (hL : L9 w a l) (hP : L9 w b p) (oL : OkL (l.map Ent9.o)) (oP : OkL (p.map Ent9.o)) :
    Calls Tryz.prog 14 #[.slice a l.length c, .slice b p.length d] w fun e w' => e = .returned (.bool (apart11 (l.map Ent9.o) (p.map Ent9.o))) ∧ Below w.heap.size w w' := by
  have HF := hid (finder_any 31 p b d w hP oP)
  have HT := hid (apart_find oL oP)
  have HN := hid (fun (w1 : World) (bk b3 B : Nat) (hb : Below w.heap.size w w1) (hF : Finder11 w1 31 bk b3 B (p.map Ent9.o)) => hasFind (find11 clashP (p.map Ent9.o)) l a c _ _ w1 (hL.below hb) (finder_tells (w := w) holds_clash (hL.below hb) oL oP (fun h hm => (hP.few h hm).1) hF))
  obtain ⟨r, hr⟩ : ∃ r, (l.map Ent9.o).any (find11 clashP (p.map Ent9.o)) = r := ⟨_, rfl⟩
  rw [HT.out, hr]
  rw [hr] at HN
  clear hL hP oL oP hr HT
  go_enter Tryz.func14, Tryz.ntmps14
  go_wp2_with fail
  refine HF.out.mono ?_
  rintro e w1 ⟨bk, b3, B, rfl, hF, hb1⟩
  have HN1 := hid (HN.out w1 bk b3 B hb1 hF)
  have HB1 := hid hb1
  clear hF hb1
  go_wp2_with fail
  refine HN1.out.mono ?_
  rintro e w2 ⟨rfl, hb2⟩
  go_wp2_with fail
  go_ret
  exact ⟨rfl, below_on HB1.out hb2⟩
end Go.Proofs.YtpmkfkanolhocaaGreat
