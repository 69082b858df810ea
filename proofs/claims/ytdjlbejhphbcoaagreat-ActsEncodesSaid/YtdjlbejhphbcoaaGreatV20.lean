/- Put together out of several texts. -/
import Derived.Test.YtdjlbejhphbcoaaGreatV12
import Derived.Sort.LotA
import Derived.Deep.RegionWith
import Derived.Test.YtdjlbejhphbcoaaGreatV13
import Derived.Test.YtdjlbejhphbcoaaGreatV19
import Derived.Test.YtdjlbejhphbcoaaGreatV4
import Derived.ProofKit
import Derived.Maps.OwnSet
import Derived.Maps.Views
import Derived.Maps.RangeWalk
import Derived.Maps.OwnOps
import Derived.Test.YtdjlbejhphbcoaaGreatV21
namespace Go.Proofs.YtdjlbejhphbcoaaGreat
open Go.RowKit Go.Sort
set_option linter.unusedVariables false
set_option maxRecDepth 100000

theorem nan_any (x : Int) (w : World) : Calls Tryz.prog 164 #[.int .u64 x] w fun e w' => e = .returned (.bool false) ∧ w = w' := by
  go_enter Tryz.func164, Tryz.ntmps164
  go_wp2_with fail
  go_ret
  exact ⟨by simp, rfl⟩
theorem less_any (x y : Int) (w : World) : Calls Tryz.prog 138 #[.int .u64 x, .int .u64 y] w fun e w' => e = .returned (.bool (ltInt x y)) ∧ w = w' := by
  have H := hid (fun x w => nan_any x w)
  go_enter Tryz.func138, Tryz.ntmps138
  go_wp2_with fail
  refine (H.out _ _).mono ?_
  rintro e w1 ⟨rfl, rfl⟩
  go_wp2_with fail
  go_ret
  exact ⟨rfl, rfl⟩
/-- numbers that lie in block b, and may be written -/
def RowU (w : World) (b : Nat) (d : Array Int) : Prop := BoxL w b (d.toList.map (Value.int .u64))
theorem get_bang (d : Array Int) {i : Nat} (hi : i < d.size) : d[i]! = d[i] := by simp [hi]
theorem RowU.cell {w : World} {b : Nat} {d : Array Int} (h : RowU w b d) {i : Nat} (hi : i < d.size) : w.cell? ⟨b, i, none⟩ = some (.int .u64 d[i]!) := by
  refine BoxL.cell h i _ ?_
  rw [List.getElem?_map, get_bang d hi]
  simp [hi]
theorem RowU.below {w w' : World} {b : Nat} {d : Array Int} (h : RowU w b d) (hb : Below w.heap.size w w') : RowU w' b d := BoxL.below h hb
theorem RowU.swp {w : World} {b : Nat} {d : Array Int} (h : RowU w b d) (i j : Nat) (hi : i < d.size) (hj : j < d.size) :
    RowU ((w.setCell ⟨b, i, none⟩ (.int .u64 d[j]!)).setCell ⟨b, j, none⟩ (.int .u64 d[i]!)) b (Go.Sort.swp d i j) := by
  have h2 := (BoxL.set h i (.int .u64 d[j]!) (by simp [hi])).set j (.int .u64 d[i]!) (by simp [hj])
  unfold RowU Go.Sort.swp
  simpa [List.map_set] using h2
/-- the block's cells alone turn -/
def TurnU (b : Nat) (w w' : World) : Prop := w.grownBy w' (some b)
theorem TurnU.refl (b : Nat) (w : World) : TurnU b w w := ⟨rfl, rfl, rfl, Nat.le_refl _, fun _ _ _ => rfl⟩
theorem TurnU.trans {b : Nat} {w w1 w2 : World} (h : TurnU b w w1) (k : TurnU b w1 w2) : TurnU b w w2 := grownBy_trans h k (.inl rfl)
theorem TurnU.below {b : Nat} {w w1 w2 : World} (h : TurnU b w w1) (k : Below w1.heap.size w1 w2) : TurnU b w w2 := grownBy_trans h (below_by_none k) (.inr (fun g e => by cases e))
theorem TurnU.swp {b : Nat} {w w1 : World} (h : TurnU b w w1) (i j : Nat) (u v : Value) : TurnU b w ((w1.setCell ⟨b, i, none⟩ u).setCell ⟨b, j, none⟩ v) :=
  (h.trans (by_setCell w1 b i u)).trans (by_setCell _ b j v)

theorem RowU.drew {w : World} {b : Nat} {d : Array Int} (h : RowU w b d) : RowU w.drew b d := BoxL.drew h
theorem TurnU.drew {b : Nat} {w w1 : World} (h : TurnU b w w1) : TurnU b w w1.drew := h.trans ⟨rfl, rfl, rfl, Nat.le_refl _, fun _ _ _ => rfl⟩
theorem less_at {x y : Int} {r : Bool} (h : ltInt x y = r) (w : World) : Calls Tryz.prog 138 #[.int .u64 x, .int .u64 y] w fun e w' => e = .returned (.bool r) ∧ w = w' := by rw [← h]; exact less_any x y w
theorem insInner_go {a j : Nat} {d : Array Int} (h : a < j) (hl : ltInt d[j]! d[j - 1]! = true) : insInner ltInt a j d = insInner ltInt a (j - 1) (swp d j (j - 1)) := by
  obtain ⟨k, rfl⟩ : ∃ k, j = k + 1 := ⟨j - 1, by omega⟩
  rw [Nat.add_sub_cancel] at hl ⊢
  rw [insInner, if_pos (by simp only [Bool.and_eq_true, decide_eq_true_eq]; exact ⟨h, hl⟩)]
theorem insInner_end {a j : Nat} {d : Array Int} (h : j ≤ a ∨ ltInt d[j]! d[j - 1]! = false) : insInner ltInt a j d = d := by
  cases j with
  | zero => rfl
  | succ k =>
    rw [insInner, if_neg]
    simp only [Bool.and_eq_true, decide_eq_true_eq, not_and]
    rw [Nat.add_sub_cancel] at h
    rcases h with h | h
    · omega
    · rw [h]; simp
set_option maxHeartbeats 4000000 in
theorem insertU_any (w : World) (blk cap a b : Nat) (d : Array Int) (hH : RowU w blk d) (hab : a ≤ b) (hb : b ≤ d.size) (hsz : d.size < 4611686018427387904) :
    Calls Tryz.prog 132 #[.slice (some ⟨blk, 0, none⟩) d.size cap, .int .i64 a, .int .i64 b] w fun e w' =>
      e = .returned (.tuple #[]) ∧ RowU w' blk (insertionSort ltInt d a b) ∧ TurnU blk w w' := by
  obtain ⟨n, hn⟩ : ∃ n, n = d.size := ⟨_, rfl⟩
  have HN := hid hn
  have HD := hid hH
  unfold insertionSort
  rw [← hn] at hb hsz ⊢
  clear hH hn
  go_enter Tryz.func132, Tryz.ntmps132
  go_wp2_with fail
  go_loopw [6] (fun vi wr => ∃ (i : Nat) (dk : Array Int), vi = .int .i64 i ∧ a < i ∧ i ≤ b + 1 ∧ Hid (dk.size = n) ∧ Hid (RowU wr blk dk) ∧ Hid (TurnU blk w wr) ∧ Hid (insOuter ltInt a b i dk = insOuter ltInt a b (a + 1) d)) (fun vi _ => b + 1 - (intOf vi).toNat)
  case atStart => exact ⟨a + 1, d, by go_num, by omega, by omega, HN.out.symm, HD.out, TurnU.refl _ _, rfl⟩
  case round =>
    obtain ⟨i, dk, rfl, hai, hib, hsk, hR, hT, hO⟩ := hrel
    by_cases hlt : i < b
    · have hlti : (i : Int) < (b : Int) := by omega
      go_wp2_with fail
      go_loopw [7] (fun vj wr2 => ∃ (j : Nat) (dj : Array Int), vj = .int .i64 j ∧ a ≤ j ∧ j ≤ i ∧ Hid (dj.size = n) ∧ Hid (RowU wr2 blk dj) ∧ Hid (TurnU blk w wr2) ∧ Hid (insInner ltInt a j dj = insInner ltInt a i dk)) (fun vj _ => (intOf vj).toNat)
      case atStart => exact ⟨i, dk, rfl, by omega, Nat.le_refl _, hsk, hR, hT, rfl⟩
      case round =>
        obtain ⟨j, dj, rfl, haj, hji, hsj, hRj, hTj, hI⟩ := hrel
        by_cases hg : a < j
        · have hd : decide ((a : Int) < (j : Int)) = true := decide_eq_true (by omega)
          have hdn : decide (a < j) = true := decide_eq_true hg
          have hj1 : (0 : Int) ≤ (j : Int) - 1 := by omega
          have hj2 : (j : Int) - 1 < (n : Int) := by omega
          have hj3 : (j : Int) < (n : Int) := by omega
          have hjt : ((j : Int) - 1).toNat = j - 1 := by omega
          have ⟨x, hx⟩ : ∃ x, dj[j]! = x := ⟨_, rfl⟩
          have ⟨y, hy⟩ : ∃ y, dj[j - 1]! = y := ⟨_, rfl⟩
          have k1 := hRj.out.cell (i := j) (by rw [hsj.out]; omega)
          have k2 := hRj.out.cell (i := j - 1) (by rw [hsj.out]; omega)
          rw [hx] at k1
          rw [hy] at k2
          have HX := hid (And.intro hx hy)
          have K := hid (And.intro k1 k2)
          have hfree := hid hRj.out.free
          have c1 := Wk.cell k1
          have c2 := Wk.cell k2
          obtain ⟨r, hr⟩ : ∃ r, ltInt x y = r := ⟨_, rfl⟩
          have HL := hid (fun w => less_at hr w)
          have HRR := hid hr
          clear k1 k2 hx hy hr
          go_upto_region 4 with fail
          refine wp_region_wk (by kernel_rfl) (by kernel_rfl) ?_
          repeat (go_big_quiet_step (first | (go_at_call 138; exact Wk.same (HL.out _)) | fail))
          refine wpQuiet_nil ?_
          rintro w3 ⟨⟨_, hb3⟩, rfl⟩
          have hR3 := hid (hRj.out.below hb3)
          have hT3 := hid (hTj.out.below hb3)
          clear c1 c2 hb3
          cases r
          · have hend := insInner_end (a := a) (j := j) (d := dj) (.inr (by rw [HX.out.1, HX.out.2]; exact HRR.out))
            have HOO : Hid (insOuter ltInt a b (i + 1) dj = insOuter ltInt a b (a + 1) d) := by
              show _ = _
              rw [← hO.out, insOuter.eq_def ltInt a b i dk, if_pos hlt, ← hI.out, hend]
            clear hend
            go_wp2_with fail
            go_roundw
            case rel => exact ⟨i + 1, dj, by go_num, by omega, by omega, hsj, hR3.out, hT3.out, HOO.out⟩
            case measure => simp [intOf]; omega
          · have hgo := insInner_go (a := a) (j := j) (d := dj) hg (by rw [HX.out.1, HX.out.2]; exact HRR.out)
            have HI2 : Hid (insInner ltInt a (j - 1) (swp dj j (j - 1)) = insInner ltInt a i dk) := by show _ = _; rw [← hgo, hI.out]
            have k1 := hR3.out.cell (i := j) (by rw [hsj.out]; omega)
            have k2 := hR3.out.cell (i := j - 1) (by rw [hsj.out]; omega)
            have hSW := hR3.out.swp j (j - 1) (by rw [hsj.out]; omega) (by rw [hsj.out]; omega)
            have hTW := hT3.out.swp j (j - 1) (.int .u64 dj[j - 1]!) (.int .u64 dj[j]!)
            have hf := hR3.out.free
            rw [HX.out.1] at k1 hSW hTW
            rw [HX.out.2] at k2 hSW hTW
            have HSW := hid (And.intro hSW hTW)
            clear hgo hSW hTW
            go_upto_region 6 with fail
            go_region
            have hSW := HSW.out.1.drew
            have hTW := HSW.out.2.drew
            have hsz2 : (swp dj j (j - 1)).size = n := by rw [size_swp]; exact hsj.out
            generalize ((w3.setCell ⟨blk, j, none⟩ (.int .u64 y)).setCell ⟨blk, j - 1, none⟩ (.int .u64 x)).drew = w4 at hSW hTW ⊢
            have HS4 := hid (And.intro hSW (And.intro hTW hsz2))
            clear hSW hTW hsz2 k1 k2 hf hfree
            go_wp2_with fail
            go_roundw
            case rel => exact ⟨j - 1, swp dj j (j - 1), by go_num, by omega, by omega, HS4.out.2.2, HS4.out.1, HS4.out.2.1, HI2.out⟩
            case measure => simp [intOf]; omega
        · have hd : decide ((a : Int) < (j : Int)) = false := decide_eq_false (by omega)
          have hdn : decide (a < j) = false := decide_eq_false hg
          have hend := insInner_end (a := a) (j := j) (d := dj) (.inl (by omega))
          have HOO : Hid (insOuter ltInt a b (i + 1) dj = insOuter ltInt a b (a + 1) d) := by
            show _ = _
            rw [← hO.out, insOuter.eq_def ltInt a b i dk, if_pos hlt, ← hI.out, hend]
          clear hend
          go_upto_region 4 with fail
          refine wp_region_wk (by kernel_rfl) (by kernel_rfl) ?_
          repeat (go_big_quiet_step (fail))
          refine wpQuiet_nil ?_
          rintro w3 ⟨⟨_, hb3⟩, rfl⟩
          have hR3 := hid (hRj.out.below hb3)
          have hT3 := hid (hTj.out.below hb3)
          clear hb3
          go_wp2_with fail
          go_roundw
          case rel => exact ⟨i + 1, dj, by go_num, by omega, by omega, hsj, hR3.out, hT3.out, HOO.out⟩
          case measure => simp [intOf]; omega
    · have hge : (b : Int) ≤ (i : Int) := by omega
      have hres : insOuter ltInt a b (a + 1) d = dk := by rw [← hO.out, insOuter, if_neg (by omega)]
      have HRES := hid hres
      clear hres
      go_wp2_with fail
      go_end0
      exact ⟨rfl, by rw [HRES.out]; exact hR.out, hT.out⟩
end Go.Proofs.YtdjlbejhphbcoaaGreat
namespace Go.Proofs.YtdjlbejhphbcoaaGreat
open Go.RowKit
set_option linter.unusedVariables false
set_option maxRecDepth 100000

instance actDec : DecidableEq Act12 := fun a b => decidable_of_iff _ (same12_iff a b)
theorem raw_none {l : List Act12} {a : Act12} (ha : a ∈ l) (hn : act12 a = none) : raw13 l = none := by
  cases h : raw13 l with
  | none => rfl
  | some z => obtain ⟨x, hx⟩ := (raw_each h).1 a ha; rw [hn] at hx; cases hx
theorem enc_none {l : List Act12} (h : raw13 l = none) : enc13 l = .error 10001 := by unfold enc13; rw [h]
theorem enc_many {l : List Act12} (h : 64 < l.length) : enc13 l = .error 10001 := by
  unfold enc13
  cases raw13 l with
  | none => rfl
  | some x => simp only; rw [if_pos (.inl h)]
theorem enc_long {l m : List Act12} {x : List Int} (h : raw13 l = some x) (hx : 65528 < x.length) : enc13 (l ++ m) = .error 10001 := by
  unfold enc13
  cases hr : raw13 (l ++ m) with
  | none => rfl
  | some z =>
    obtain ⟨u, v, hu, _, rfl⟩ := raw_parts hr
    rw [h] at hu
    cases hu
    simp only
    rw [if_pos (.inr (by rw [List.length_append]; omega))]
theorem enc_yes {l : List Act12} {x : List Int} (h : raw13 l = some x) (hl : l.length ≤ 64) (hx : x.length ≤ 65528) : enc13 l = .ok x := by
  unfold enc13
  rw [h]
  simp only
  rw [if_neg (by omega)]
theorem enc_or (l : List Act12) : enc13 l = .error 10001 ∨ ∃ x, enc13 l = .ok x ∧ raw13 l = some x ∧ l.length ≤ 64 ∧ x.length ≤ 65528 := by
  cases hr : raw13 l with
  | none => exact .inl (enc_none hr)
  | some x =>
    by_cases h : 64 < l.length ∨ 65528 < x.length
    · exact .inl (by unfold enc13; rw [hr]; simp only; rw [if_pos h])
    · exact .inr ⟨x, enc_yes hr (by omega) (by omega), rfl, by omega, by omega⟩
def size13 (l : List Act12) : Nat := match enc13 l with
  | .ok x => x.length
  | .error _ => 0
def right13 (l : List Act12) : Bool := match enc13 l with
  | .ok _ => true
  | .error _ => false
theorem size_err {l : List Act12} {q : Int} (h : enc13 l = .error q) : size13 l = 0 ∧ right13 l = false := by unfold size13 right13; rw [h]; exact ⟨rfl, rfl⟩
theorem size_ok13 {l : List Act12} {x : List Int} (h : enc13 l = .ok x) : size13 l = x.length ∧ right13 l = true := by unfold size13 right13; rw [h]; exact ⟨rfl, rfl⟩
theorem take_snoc13 (l : List Ent12) (i : Nat) (hi : i < l.length) : (l.map Ent12.act).take (i + 1) = (l.map Ent12.act).take i ++ [l[i].act] := by
  rw [List.take_add_one, List.getElem?_map, List.getElem?_eq_getElem hi]; rfl
theorem raw_snoc {l : List Act12} {a : Act12} {x y : List Int} (hx : raw13 l = some x) (hy : act12 a = some y) : raw13 (l ++ [a]) = some (x ++ y) := by
  have := raw_append hx (raw_make (r := []) hy rfl)
  rwa [List.append_nil] at this
theorem sizeS_act {g : Ent12} (ld : g.d.length ≤ 100000) : sizeS12 g = match act12 g.act with | some x => x.length | none => 0 := by
  unfold sizeS12
  rw [right_act g ld]
  cases h : act12 g.act with
  | none => rfl
  | some x => exact size_act h

set_option maxHeartbeats 4000000 in
theorem size13_any (w : World) (a : Option Addr) (c : Nat) (l : List Ent12) (hL : Acts w a l) (hI : AllIn w l) (hll : l.length ≤ 1000) :
    Calls Tryz.prog 65 #[.slice a l.length c] w fun e w' => e = .returned (.tuple #[.int .i64 (size13 (l.map Ent12.act)), .bool (right13 (l.map Ent12.act))]) ∧ Below w.heap.size w w' := by
  have HL := hid hL
  have HI := hid hI
  obtain ⟨N, hN⟩ : ∃ N, N = l.length := ⟨_, rfl⟩
  have HN := hid hN
  rw [← hN] at hll ⊢
  clear hL hI hN
  by_cases h64 : 64 < N
  · obtain ⟨e1, e2⟩ := size_err (enc_many (l := l.map Ent12.act) (by rw [List.length_map, ← HN.out]; exact h64))
    have E := hid (And.intro e1 e2)
    have h64i : (64 : Int) < (N : Int) := by omega
    clear e1 e2
    go_enter Tryz.func65, Tryz.ntmps65
    go_wp2_with fail
    refine bodyPost_ret (v := .tuple #[.int .i64 0, .bool false]) (by simp [results, Tryz.results65, go_sem]) rfl ⟨by rw [E.out.1, E.out.2]; rfl, Below.refl _ _⟩
  · have h64i : ¬ (64 : Int) < (N : Int) := by omega
    go_enter Tryz.func65, Tryz.ntmps65
    go_wp2_with fail
    go_loopg [4, 13] N (fun kx s4 s13 wr => ∃ (i n : Nat), s4 = .int .i64 n ∧ s13 = .int .i64 i ∧ i ≤ N ∧ N - i ≤ kx ∧ n ≤ 65528 ∧ Hid (∃ x, raw13 ((l.map Ent12.act).take i) = some x ∧ x.length = n) ∧ Hid (Below w.heap.size w wr))
    case atStart => exact ⟨0, 0, rfl, rfl, by omega, by omega, by omega, ⟨[], rfl, rfl⟩, Below.refl _ _⟩
    case round =>
      obtain ⟨i, n, rfl, rfl, hi, hkx, hn, hx, hb⟩ := hrel
      by_cases hlt : i < N
      · have hltz : (i : Int) < (N : Int) := by omega
        have hil : i < l.length := by have := HN.out; omega
        obtain ⟨b, off, rfl, -⟩ := HL.out i hil
        obtain ⟨c0, c1, c2, c3, c4, c5, c6, c7, c8, c9⟩ := (HL.out.below hb.out).ten i hil
        have hin := HI.out l[i] (List.getElem_mem hil)
        have hmem : l[i].act ∈ l.map Ent12.act := List.mem_map_of_mem (List.getElem_mem hil)
        have htk := take_snoc13 l i hil
        generalize l[i] = g at c0 c1 c2 c3 c4 c5 c6 c7 c8 c9 hin hmem htk
        obtain ⟨W, hW, hbW, hbx⟩ := act_box wr g.T g.A g.B g.o.C g.o.F g.o.H g.o.X g.va g.o.v.length g.vc g.ma g.o.m.length g.mc g.da g.d.length g.dc
        have HW := hid hW
        have hbw := below_on hb.out hbW
        have HB := hid hbw
        have HS := hid (actSizeS_any g W (hin.below hbw))
        have ES := hid (sizeS_act (g := g) hin.ld)
        obtain ⟨k, hk⟩ : ∃ k, sizeS12 g = k := ⟨_, rfl⟩
        rw [hk] at HS ES
        have HM := hid hmem
        have HT := hid htk
        clear hW hbW hbw hin hk hmem htk
        obtain ⟨d0, d1, d2, d3, d4, d5, d6, d7, d8, d9⟩ := hbx.ten
        go_wp2_with fail
        rw [HW.out]
        go_wp2_with fail
        refine HS.out.mono ?_
        rintro e w2 ⟨rfl, hb2⟩
        have HB2 := hid (below_on HB.out hb2)
        clear hb2 hbx d0 d1 d2 d3 d4 d5 d6 d7 d8 d9 c0 c1 c2 c3 c4 c5 c6 c7 c8 c9
        cases ha : act12 g.act with
        | none =>
          have hk0 : k = 0 := by rw [ES.out, ha]
          subst hk0
          obtain ⟨e1, e2⟩ := size_err (enc_none (raw_none HM.out ha))
          have E := hid (And.intro e1 e2)
          clear e1 e2 ha
          go_wp2_with fail
          refine bodyPost_ret (v := .tuple #[.int .i64 0, .bool false]) (by simp [results, Tryz.results65, go_sem]) rfl ⟨by rw [E.out.1, E.out.2]; rfl, HB2.out⟩
        | some y =>
          have hk0 : k = y.length := by rw [ES.out, ha]
          obtain ⟨_, _, _, _, _, h8, _, h9, _⟩ := act_write ha
          obtain ⟨x, hx1, hx2⟩ := hx.out
          have hr := raw_snoc hx1 ha
          rw [← HT.out] at hr
          have hxy : (x ++ y).length = n + k := by rw [List.length_append]; omega
          have HR := hid (And.intro hr hxy)
          have hkz : ¬ k = 0 := by omega
          have hkzi : ¬ (k : Int) = 0 := by omega
          have hsum : (n : Int) + (k : Int) ≤ 200000 := by omega
          have hke : ((k : Int) == 0) = false := by simpa using hkz
          have hsum0 : 0 ≤ (n : Int) + (k : Int) := by omega
          clear hr hxy ha hx1 hx2 hk0 h8 h9
          by_cases hbig : 65528 < n + k
          · have hbi : (65528 : Int) < (n : Int) + (k : Int) := by omega
            have hbd : decide ((65528 : Int) < (n : Int) + (k : Int)) = true := decide_eq_true hbi
            have hen : enc13 (l.map Ent12.act) = .error 10001 := by
              have h := enc_long (m := (l.map Ent12.act).drop (i + 1)) HR.out.1 (by rw [HR.out.2]; exact hbig)
              rwa [List.take_append_drop] at h
            obtain ⟨e1, e2⟩ := size_err hen
            have E := hid (And.intro e1 e2)
            clear e1 e2 hen
            go_wp2_with fail
            refine bodyPost_ret (v := .tuple #[.int .i64 0, .bool false]) (by simp [results, Tryz.results65, go_sem]) rfl ⟨by rw [E.out.1, E.out.2]; rfl, HB2.out⟩
          · have hbi : ¬ (65528 : Int) < (n : Int) + (k : Int) := by omega
            have hbd : decide ((65528 : Int) < (n : Int) + (k : Int)) = false := decide_eq_false hbi
            go_wp2_with fail
            go_roundg (N - (i + 1))
            case rel => exact ⟨i + 1, n + k, by go_num, by go_num, by omega, by omega, by omega, ⟨_, HR.out.1, HR.out.2⟩, HB2.out⟩
            case measure => omega
      · have hge : (N : Int) ≤ (i : Int) := by omega
        obtain rfl : i = N := by omega
        have hen : enc13 (l.map Ent12.act) = .error 10001 ∨ True := .inr trivial
        obtain ⟨x, hx1, hx2⟩ := hx.out
        rw [List.take_of_length_le (by rw [List.length_map]; have := HN.out; omega)] at hx1
        obtain ⟨e1, e2⟩ := size_ok13 (enc_yes hx1 (by rw [List.length_map]; have := HN.out; omega) (by omega))
        rw [hx2] at e1
        have E := hid (And.intro e1 e2)
        clear e1 e2 hen hx1 hx2 hx
        go_wp2_with fail
        refine bodyPost_ret (v := .tuple #[.int .i64 n, .bool true]) (by simp [results, Tryz.results65, go_sem]) rfl ⟨by rw [E.out.1, E.out.2], hb.out⟩
theorem right13_any (w : World) (a : Option Addr) (c : Nat) (l : List Ent12) (hL : Acts w a l) (hI : AllIn w l) (hll : l.length ≤ 1000) :
    Calls Tryz.prog 27 #[.slice a l.length c] w fun e w' => e = .returned (.bool (right13 (l.map Ent12.act))) ∧ Below w.heap.size w w' := by
  have H := hid (size13_any w a c l hL hI hll)
  clear hL hI hll
  go_enter Tryz.func27, Tryz.ntmps27
  go_wp2_with fail
  refine H.out.mono ?_
  rintro e w1 ⟨rfl, hb⟩
  go_wp2_with fail
  go_ret
  exact ⟨rfl, hb⟩
theorem sizeof13_any (w : World) (a : Option Addr) (c : Nat) (l : List Ent12) (hL : Acts w a l) (hI : AllIn w l) (hll : l.length ≤ 1000) :
    Calls Tryz.prog 28 #[.slice a l.length c] w fun e w' => e = .returned (.int .i64 (size13 (l.map Ent12.act))) ∧ Below w.heap.size w w' := by
  have H := hid (size13_any w a c l hL hI hll)
  clear hL hI hll
  go_enter Tryz.func28, Tryz.ntmps28
  go_wp2_with fail
  refine H.out.mono ?_
  rintro e w1 ⟨rfl, hb⟩
  go_wp2_with fail
  go_ret
  exact ⟨rfl, hb⟩
end Go.Proofs.YtdjlbejhphbcoaaGreat
namespace Go.Proofs.YtdjlbejhphbcoaaGreat
open Go.RowKit Go.Maps
set_option linter.unusedVariables false
set_option maxRecDepth 100000

/-- slices.Sort sorts up to N numbers -/
def SortU (N : Nat) : Prop := ∀ (w : World) (g cap : Nat) (ss : List Int), ss.length ≤ N → 0 < ss.length → RowU w g ss.toArray →
  Calls Tryz.prog 66 #[.slice (some ⟨g, 0, none⟩) ss.length cap] w fun e w' => e = .returned (.tuple #[]) ∧ ∃ t : List Int, RowU w' g t.toArray ∧ t.Perm ss ∧ t.Pairwise (· ≤ ·) ∧ TurnU g w w'
def SortNil : Prop := ∀ (w : World) (cap : Nat), Calls Tryz.prog 66 #[.slice none 0 cap] w fun e w' => e = .returned (.tuple #[]) ∧ Below w.heap.size w w'
theorem own_rowU {W : World} {e : TypeId} {g n c : Nat} {ss : List Int} (h : W.ownsRow 0 e 1 (.slice (some ⟨g, 0, none⟩) n c) (ss.map (Value.int .u64)).length (ss.map (Value.int .u64))) : RowU W g ss.toArray := by
  obtain ⟨a, c', he, hl, hc, hI⟩ := own_ints (k := .u64) h
  cases he
  unfold RowU
  refine ⟨fun i x hx => ?_, fun o => ?_, ?_⟩
  · rw [List.toList_toArray, List.getElem?_map] at hx
    cases hi : ss[i]? with
    | none => rw [hi] at hx; cases hx
    | some y =>
      rw [hi] at hx
      cases hx
      obtain ⟨hlt, rfl⟩ := List.getElem?_eq_some_iff.1 hi
      obtain ⟨b, off, e1, h1⟩ := hI i hlt
      cases e1
      rw [Nat.zero_add] at h1
      rw [h1]
      simp [hlt]
  · rcases h.2 with ⟨e, _⟩ | ⟨g', cap, cur, e, _, hg, _⟩
    · cases e
    · simp at e
      obtain ⟨rfl, _⟩ := e
      exact free_of_cells hg o
  · rcases h.2 with ⟨e, _⟩ | ⟨g', cap, cur, e, _, hg, _⟩
    · cases e
    · simp at e
      obtain ⟨rfl, _⟩ := e
      exact (Array.getElem?_eq_some_iff.1 hg).1
theorem RowU.ints {W : World} {g : Nat} {t : List Int} (h : RowU W g t.toArray) : Ints .u64 W (some ⟨g, 0, none⟩) t := by
  intro i hi
  refine ⟨g, 0, rfl, ?_⟩
  rw [Nat.zero_add]
  exact BoxL.cell h i _ (by rw [List.toList_toArray, List.getElem?_map, List.getElem?_eq_getElem hi]; simp [hi])
/-- the keys that have come: no key twice; a key has come just where the map has it and it is no longer to come -/
def ComeU (D : DataW Unit) (left : Lit → Bool) (ss : List Int) : Prop := ss.Nodup ∧ ∀ x, x ∈ ss ↔ (has D (.int .u64 x) = true ∧ left (.int .u64 x) = false)
theorem ComeU.start (D : DataW Unit) : ComeU D (has D) [] := ⟨List.nodup_nil, fun x => by cases has D (.int .u64 x) <;> simp⟩
theorem ComeU.step {D : DataW Unit} {left : Lit → Bool} {ss : List Int} (h : ComeU D left ss) {x : Int} {y : DataW Unit} (hlk : left (.int .u64 x) = true) (hat : ∀ zd, D.atKey (.int .u64 x) zd = y) : ComeU D (fun z => left z && !z.sameKey (.int .u64 x)) (ss ++ [x]) := by
  have hhas : has D (.int .u64 x) = true := has_true_of_atKey hat
  have hnew : x ∉ ss := fun hx => by have := ((h.2 x).1 hx).2; rw [hlk] at this; cases this
  refine ⟨List.nodup_append.2 ⟨h.1, by simp, fun a ha b hb => by simp at hb; subst hb; exact fun e => hnew (e ▸ ha)⟩, fun y => ?_⟩
  by_cases hy : y = x
  · subst hy; simp [hhas, Lit.sameKey]
  · simp [h.2 y, hy, Lit.sameKey]
theorem u64Keyed : Keyed Tryz.prog 22 := int_keyed Tryz.underlying22
theorem u64_wf {n : Int} (h : 0 ≤ n ∧ n ≤ 18446744073709551615) : (Lit.int .u64 n).wf = true := by simp [Lit.wf, IntKind.min, IntKind.max, IntKind.bits, IntKind.signed]; omega
theorem u64Key {n : Int} (h : 0 ≤ n ∧ n ≤ 18446744073709551615) : keyOf Tryz.prog 22 (.int .u64 n) = some (.int .u64 n) := keyOf_int_mk Tryz.underlying22 (u64_wf h)
theorem plain_bool_inv13 {v : Value} {z : DataW Unit × List MemPlace} (h : plainElem Tryz.prog 4 v = some z) : ∃ x, v = .bool x := by
  unfold plainElem at h
  rw [Tryz.underlying4] at h
  cases v <;> simp at h
  exact ⟨_, rfl⟩
/-- block b is a set of at most n numbers: those of l -/
def SetU (w : World) (b n : Nat) (l : List Int) (D : DataW Unit) : Prop :=
  w.ownsMap Tryz.prog 22 (plainElem Tryz.prog 4) b n D ∧ IsMap D ∧ ∀ x, has D (.int .u64 x) = true ↔ x ∈ l
theorem SetU.below {w w' : World} {b n : Nat} {l : List Int} {D : DataW Unit} (h : SetU w b n l D) (hb : Below w.heap.size w w') : SetU w' b n l D := ⟨h.1.kept (below_by_none hb) (by simp), h.2⟩
theorem wp_putU {w : World} {b n : Nat} {l : List Int} {D : DataW Unit} {ops : Array Oper} {rest : List Oper} {o : Oper} {a : Act} {Q : Exit → Act → World → Prop} (hg : o.guard = none) (m x v : Operand) (hop : o.op = Op.mapUpdate 110 m x v) (hv : a.eval v = .bool true) (hm : a.eval m = .map (some b)) (hs : SetU w b n l D) (hn : n < 100000) (key : Int) (hx : a.eval x = .int .u64 key) (hkey : 0 ≤ key ∧ key ≤ 18446744073709551615)
    (hK : ∀ w' D', SetU w' b (n + 1) (l ++ [key]) D' → w.grownBy w' (some b) → wpList Tryz.prog ops Q rest (a.put o.dst undef) w') : wpList Tryz.prog ops Q (o :: rest) a w := by
  refine wpList_plain hg fun K' hK' => ?_
  obtain ⟨w', hr, ho, hgr⟩ := hs.1.update u64Keyed Tryz.underlying110 (by unfold maxLen; omega) (u64Key hkey) (plainElem_bool Tryz.underlying4 true)
  unfold Oper.wp
  simp [execOp, hop, hm, hx, hv, hr, Result.andThen]
  refine hK' _ _ (hK w' _ ⟨ho, hs.2.1.put _ _, fun y => ?_⟩ hgr)
  by_cases e : y = key
  · subst e
    simp [has_put_same hs.2.1 (u64Keyed.key (u64Key hkey))]
  · have hne : Lit.int .u64 y ≠ Lit.int .u64 key := fun h => e (by injection h)
    rw [has_put_other hne, hs.2.2 y]
    simp [e]
/-- memory of numbers of one's own, as a value -/
theorem makeMapU (w : World) : (Instr.makeMap 110 none).run Tryz.prog w = .ok (.map (some w.heap.size)) (w.alloc (.map #[] 0)) := by kernel_rfl
theorem outs_snoc13 (L : List Act12) (a : Act12) : outs13 (L ++ [a]) = outs13 L ++ (if a.T = 0 then [a.A] else []) := by
  unfold outs13
  rw [List.filter_append, List.map_append]
  by_cases h : a.T = 0 <;> simp [h]
theorem ports_of {L : List Act12} {t : List Int} (hnd : t.Nodup) (hs : t.Pairwise (· ≤ ·)) (hm : ∀ y, y ∈ t ↔ y ∈ outs13 L) : t = ports13 L := by
  refine rise_ext ?_ (ports_rise L) fun y => ?_
  · exact List.Pairwise.imp_of_mem (R := fun a b => a ≤ b ∧ a ≠ b) (fun _ _ h => by omega) (List.pairwise_and_iff.2 ⟨hs, hnd⟩)
  · rw [hm y, mem_ports]
    unfold outs13
    simp [and_assoc]
set_option maxHeartbeats 4000000 in
theorem ports13_any (N : Nat) (hS : SortU N) (hNil : SortNil) (w : World) (a : Option Addr) (c : Nat) (l : List Ent12) (hL : Acts w a l) (hI : AllIn w l) (hll : l.length ≤ 1000) (hN : (ports13 (l.map Ent12.act)).length ≤ N) :
    Calls Tryz.prog 30 #[.slice a l.length c] w fun e w' => ∃ a' c', e = .returned (.slice a' (ports13 (l.map Ent12.act)).length c') ∧ Ints .u64 w' a' (ports13 (l.map Ent12.act)) ∧ Below w.heap.size w w' := by
  have HL := hid hL
  have HI := hid hI
  have HS := hid hS
  have HNil := hid hNil
  obtain ⟨n, hn⟩ : ∃ n, n = l.length := ⟨_, rfl⟩
  have HN := hid hn
  rw [← hn] at hll ⊢
  obtain ⟨P, hP⟩ : ∃ P, ports13 (l.map Ent12.act) = P := ⟨_, rfl⟩
  rw [hP] at hN ⊢
  have HP := hid hP
  have HPN := hid hN
  clear hL hI hS hNil hn hP hN
  have mk := fun w => makeMapU w
  obtain ⟨W0, hW0⟩ : ∃ W, w.alloc (.map #[] 0) = W := ⟨_, rfl⟩
  have HT0 : Hid (SetU W0 w.heap.size 0 [] (.map [])) := by
    show SetU _ _ _ _ _
    rw [← hW0]
    exact ⟨World.ownsMap_made w _ 22 _, ⟨_, rfl⟩, fun x => by simp [has]⟩
  have HB0 : Hid (Below w.heap.size w W0) := by show Below _ _ _; rw [← hW0]; exact below_alloc _ _
  have HW0 := hid hW0
  clear hW0
  go_enter Tryz.func30, Tryz.ntmps30
  go_wp2_with fail
  rw [HW0.out]
  go_loopg [11] n (fun kx s11 wr => ∃ (i m : Nat) (D : DataW Unit), s11 = .int .i64 i ∧ i ≤ n ∧ n - i ≤ kx ∧ m ≤ i ∧ Hid (SetU wr w.heap.size m (outs13 ((l.map Ent12.act).take i)) D) ∧ Hid (Below w.heap.size w wr))
  case atStart => exact ⟨0, 0, .map [], rfl, by omega, by omega, Nat.le_refl _, HT0.out, HB0.out⟩
  case round =>
    clear mk
    obtain ⟨i, m, D, rfl, hi, hkx, hmi, hset, hb⟩ := hrel
    by_cases hlt : i < n
    · have hltz : (i : Int) < (n : Int) := by omega
      have hil : i < l.length := by have := HN.out; omega
      obtain ⟨b, off, rfl, -⟩ := HL.out i hil
      obtain ⟨c0, c1, c2, c3, c4, c5, c6, c7, c8, c9⟩ := (HL.out.below hb.out).ten i hil
      have hin := HI.out l[i] (List.getElem_mem hil)
      have htk := take_snoc13 l i hil
      generalize l[i] = g at c0 c1 c2 c3 c4 c5 c6 c7 c8 c9 hin htk
      obtain ⟨W, hW, hbW, hbx⟩ := act_box wr g.T g.A g.B g.o.C g.o.F g.o.H g.o.X g.va g.o.v.length g.vc g.ma g.o.m.length g.mc g.da g.d.length g.dc
      have HW := hid hW
      have HBW := hid (below_on hb.out hbW)
      have HSW := hid (hset.out.below hbW)
      have HA := hid hin.a
      have HO : Hid (outs13 ((l.map Ent12.act).take (i + 1)) = outs13 ((l.map Ent12.act).take i) ++ (if g.T = 0 then [g.A] else [])) := by show _ = _; rw [htk, outs_snoc13]; rfl
      have HBX := hid hbx
      clear hW hbW hin htk hbx
      go_upto_region 5 with fail
      rw [HW.out]
      clear c0 c1 c2 c3 c4 c5 c6 c7 c8 c9
      obtain ⟨d0, d1, d2, d3, d4, d5, d6, d7, d8, d9⟩ := HBX.out.ten
      clear d2 d3 d4 d5 d6 d7 d8 d9
      by_cases hT : g.T = 0
      · have HO2 : Hid (outs13 ((l.map Ent12.act).take (i + 1)) = outs13 ((l.map Ent12.act).take i) ++ [g.A]) := by show _ = _; rw [HO.out, if_pos hT]
        rw [hT] at d0
        clear hT
        go_wp2_with (first | (at_mapUpdate; refine wp_putU rfl _ _ _ rfl rfl rfl HSW.out (by omega) _ rfl HA.out ?_; intro w7 D7 hs7 hg7; have HS7 := hid hs7; have HG7 := hid hg7; clear hs7 hg7) | fail)
        go_roundg (n - (i + 1))
        case rel => exact ⟨i + 1, m + 1, D7, by go_num, by omega, by omega, by omega, by rw [HO2.out]; exact HS7.out, HBW.out.grown HG7.out HBW.out.size (fun k e => by cases e; exact Nat.le_refl _)⟩
        case measure => omega
      · have HO2 : Hid (outs13 ((l.map Ent12.act).take (i + 1)) = outs13 ((l.map Ent12.act).take i)) := by show _ = _; rw [HO.out, if_neg hT, List.append_nil]
        have hTe : (g.T == 0) = false := by simpa using hT
        go_wp2_with fail
        go_roundg (n - (i + 1))
        case rel => exact ⟨i + 1, m, D, by go_num, by omega, by omega, by omega, by rw [HO2.out]; exact HSW.out, HBW.out⟩
        case measure => omega
    · have hge : (n : Int) ≤ (i : Int) := by omega
      obtain rfl : i = n := by omega
      have HSET : Hid (SetU wr w.heap.size m (outs13 (l.map Ent12.act)) D) := by
        have h := hset.out
        rwa [List.take_of_length_le (by rw [List.length_map]; have := HN.out; omega)] at h
      have hown := HSET.out.1
      clear hset
      go_wp2_with (first
        | (at_range; refine wpList_range_own _ rfl _ 110 rfl 22 4 u64Keyed Tryz.underlying110 _ w.heap.size m D rfl hown ?_; intro w0 hrg0 hg0 hs0)
        | fail)
      have HSETO := hid HSET.out.2
      have hsize := hrg0.owns.size_le
      have h0w : Below w.heap.size w w0 := hb.out.grown hg0 hb.out.size (fun k e => by cases e)
      obtain ⟨r, hr⟩ : ∃ r, wr.heap.size = r := ⟨_, rfl⟩
      rw [hr] at hrg0 hs0
      have HS0 : Hid (w0.heap.size = r + 1) := hs0
      have HMR : Hid (w.heap.size < r) := by show _ < _; have := hown.lt; omega
      have HRG0 := hid hrg0
      have HW0B := hid h0w
      clear hrg0 hg0 hs0 hown h0w HSET
      go_frame
      rw [hr]
      clear hr hb
      go_loopw [6] (fun v wx => ∃ (av : Option Addr) (cv : Nat) (left : Lit → Bool) (cnt : Nat) (ss : List Int), v = .slice av ss.length cv ∧ Hid (wx.ranges Tryz.prog 22 (plainElem Tryz.prog 4) w.heap.size r m D left cnt) ∧ Hid (ComeU D left ss) ∧ ss.length + cnt ≤ Maps.size D ∧ Hid (Fresh 22 w wx (.slice av ss.length cv) (ss.map (Value.int .u64))) ∧ Hid (∀ g, (Value.slice av ss.length cv).ownBlock = some g → w0.heap.size ≤ g) ∧ Hid (ss = [] → av = none) ∧ w0.heap.size ≤ wx.heap.size)
        (fun _ wx => wx.rangeLeft w.heap.size r)
      case atStart => exact ⟨none, 0, _, _, [], rfl, HRG0.out, ComeU.start D, by simp, ⟨World.ownsRow_nil w0 0 _ 1, HW0B.out, fun g e => by cases e⟩, (fun g e => by cases e), (fun _ => rfl), Nat.le_refl _⟩
      case round =>
        obtain ⟨av, cv, left, cnt, ss, rfl, hrg, hC, hlen, hF, hnew, hnil, hsx⟩ := hrel
        have hrg' := hrg.out
        have hleft : wr.rangeLeft w.heap.size r = cnt := hrg'.left_eq
        have HLEFT := hid hleft
        clear hleft
        have hmm : ss.length ≤ m := by omega
        have hm1 : m ≤ 1000 := by omega
        go_wp2_with (first
          | (at_next; refine wpList_next_ranges _ rfl _ rfl 22 u64Keyed (plainElem Tryz.prog 4) (Value.int .u64) Value.bool (fun key kl hk => by obtain ⟨x, rfl, _⟩ := Maps.keyOf_int_inv Tryz.underlying22 hk; exact ⟨x, rfl⟩) (fun v y h => plain_bool_inv13 h) w.heap.size r m D left cnt rfl hrg' ?_ ?_)
          | fail)
        · intro hc0 hl0
          have hmem : ∀ y, y ∈ ss ↔ y ∈ outs13 (l.map Ent12.act) := fun y => by rw [hC.out.2 y, hl0, HSETO.out.2 y]; simp
          have HMEM := hid hmem
          have hnd := hid hC.out.1
          clear hmem hl0 hc0 hrg'
          by_cases hss : ss = []
          · have hav := hnil.out hss
            subst hss
            subst hav
            have hPn : P = [] := by
              rw [← HP.out]
              exact (ports_of List.nodup_nil List.Pairwise.nil HMEM.out).symm
            have HPn := hid hPn
            clear hPn
            go_wp2_with fail
            refine (HNil.out _ _).mono ?_
            rintro e w5 ⟨rfl, hb5⟩
            have HB5 := hid (below_on hF.out.bel hb5)
            clear hb5
            go_wp2_with fail
            refine bodyPost_ret (v := .slice none 0 cv) (by simp [results, Tryz.results30, go_sem]) rfl ⟨none, cv, by rw [HPn.out]; rfl, by rw [HPn.out]; exact Ints.nil _ _ _, HB5.out⟩
          · have hne : 0 < ss.length := List.length_pos_iff.2 hss
            have hown := hF.out.own
            obtain ⟨q, hq, -, -⟩ := own_block hown hne
            subst hq
            have HROW := hid (own_rowU hown)
            have hPnd : P.Nodup := by
              rw [← HP.out]
              exact (ports_rise (l.map Ent12.act)).imp (fun h => by omega)
            have hpm : ss.Perm P := (List.perm_ext_iff_of_nodup hnd.out hPnd).2 fun y => by
              rw [HMEM.out y, ← HP.out, mem_ports]
              unfold outs13
              simp [and_assoc]
            have hlenP : ss.length = P.length := hpm.length_eq
            have HLP := hid hlenP
            have hle : ss.length ≤ N := by rw [hlenP]; exact HPN.out
            have HQ := hid (hF.out.new q rfl)
            have HSORT := hid (HS.out wr q cv ss hle hne HROW.out)
            clear hss hown hPnd hpm hlenP hle hne hlen hmm
            go_wp2_with fail
            refine HSORT.out.mono ?_
            rintro e w5 ⟨rfl, t, hR5, hperm, hsorted, hT5⟩
            have htP : t = P := by
              rw [← HP.out]
              exact ports_of (hperm.symm.nodup hnd.out) hsorted (fun y => by rw [hperm.mem_iff, HMEM.out y])
            subst htP
            have HI5 := hid hR5.ints
            have HB5 := hid (hF.out.bel.grown hT5 hF.out.bel.size (fun k e => by cases e; exact HQ.out))
            clear hR5 hperm hsorted hT5
            go_wp2_with fail
            refine bodyPost_ret (v := .slice (some ⟨q, 0, none⟩) ss.length cv) (by simp [results, Tryz.results30, go_sem]) rfl ⟨_, cv, by rw [HLP.out], HI5.out, HB5.out⟩
        · intro x
          constructor
          all_goals
            intro kl y1 y2 w1 cnt1 hkey hlk hval hat hrg1 hlt1 hg1 hs1 hen
            obtain ⟨x', ex, rfl, hwf⟩ := Maps.keyOf_int_inv Tryz.underlying22 hkey
            cases ex
            have hC2 := hid (hC.out.step hlk hat)
            have h0r := HS0.out
            have hmr := HMR.out
            have hg1' : wr.grownBy w1 (some r) := hg1
            have hown1 : w1.ownsRow 0 22 1 (.slice av ss.length cv) (ss.map (Value.int .u64)).length (ss.map (Value.int .u64)) := hF.out.own.kept hg1 (by
              cases hv : (Value.slice av ss.length cv).ownBlock with
              | none => exact .inl rfl
              | some g => exact .inr (fun e => by cases e; have := hnew.out _ hv; omega))
            have hbel1 := hF.out.bel.grown hg1 hF.out.bel.size (fun k e => by cases e; omega)
            have hF1 := hid (show Fresh 22 w w1 (.slice av ss.length cv) (ss.map (Value.int .u64)) from ⟨hown1, hbel1, hF.out.new⟩)
            have hF2 := hF1.out.behind (by_none_alloc w1 (.cells #[.int .u64 x] 22))
            have HRG1 := hid hrg1
            have HY := hid (show ss ++ [x] = ss ++ [x] from rfl)
            have hyl : (ss ++ [x]).length ≤ 2000 := by rw [List.length_append]; simp; omega
            have HYL := hid hyl
            have HSZ : Hid (w0.heap.size ≤ w1.heap.size) := by show _ ≤ _; rw [hs1]; exact hsx
            clear hkey hval hat hrg1 hg1 hg1' hown1 hbel1 hwf hyl hs1
            go_wp2_with (at_builtin; refine wp_app_ints rfl (.tmp 28) (.tmp 30) rfl elemU64 rfl hF2.own rfl rfl (ints_one .u64 w1 x 22) HY.out ?_ ?_ ?_; (have := HYL.out; omega); (have := HYL.out; omega); intro a' c' w3 hl1 hc1 hI1 hG; have HG3 := hid hG; clear hl1 hc1 hI1 hG)
            have hFn := hF2.step HG3.out
            have hG := HG3.out
            have hwa : w1.grownBy (w1.alloc (.cells #[.int .u64 x] 22)) none := by_none_alloc _ _
            have hrow : ∀ b, b < w0.heap.size → some b ≠ (Value.slice av ss.length cv).ownBlock := fun b hb e => by have := hnew.out b e.symm; omega
            have hrg3 := (HRG1.out.alloc (.cells #[.int .u64 x] 22)).kept hG.by_ (hrow _ (by omega)) (hrow _ (by omega))
            have hnew3 : ∀ g, (Value.slice a' (ss ++ [x]).length c').ownBlock = some g → w0.heap.size ≤ g := by
              intro g hg
              rcases hG.moved with e | ⟨q, e, hq⟩
              · have e' : (Value.slice a' (ss ++ [x]).length c').ownBlock = (Value.slice av ss.length cv).ownBlock := e
                exact hnew.out g (by rw [← e', hg])
              · have e' : (Value.slice a' (ss ++ [x]).length c').ownBlock = some q := e
                rw [hg] at e'; cases e'; rw [World.size_alloc] at hq; have := HSZ.out; omega
            have hl3 := hrg3.left_eq
            have hsz3 : w0.heap.size ≤ w3.heap.size := Nat.le_trans HSZ.out (Nat.le_trans hwa.size hG.by_.size)
            have HH := hid (And.intro hFn (And.intro hrg3 (And.intro hnew3 hsz3)))
            have HL3 := hid hl3
            clear hFn hG hwa hrow hrg3 hnew3 hl3 hsz3 hF2
            go_roundw
            case rel => exact ⟨a', c', _, cnt1, ss ++ [x], by simp, HH.out.2.1, hC2.out, by rw [List.length_append]; simp; omega, HH.out.1, HH.out.2.2.1, (fun e => by simp at e), HH.out.2.2.2⟩
            case measure => rw [HL3.out, HLEFT.out]; exact hlt1
end Go.Proofs.YtdjlbejhphbcoaaGreat
namespace Go.Proofs.YtdjlbejhphbcoaaGreat
open Go.RowKit
set_option linter.unusedVariables false
set_option maxRecDepth 100000

/-- what comes of actions that are encoded -/
def EncPost13 (L : List Act12) (w : World) (e : Ending) (w' : World) : Prop :=
  (enc13 L = .error 10001 ∧ e = .returned (.tuple #[.slice none 0 0, .int .i64 10001]) ∧ Below w.heap.size w w') ∨
  (∃ x g, enc13 L = .ok x ∧ e = .returned (.tuple #[.slice (some ⟨g, 0, none⟩) x.length x.length, .int .i64 0]) ∧ Below w.heap.size w w' ∧ Ints .u8 w' (some ⟨g, 0, none⟩) x ∧ w.heap.size ≤ g)
theorem encode13_no (w : World) (a : Option Addr) (c : Nat) (l : List Ent12) (hL : Acts w a l) (hI : AllIn w l) (hll : l.length ≤ 1000) (he : enc13 (l.map Ent12.act) = .error 10001) :
    Calls Tryz.prog 21 #[.slice a l.length c] w (EncPost13 (l.map Ent12.act) w) := by
  have HR := right13_any w a c l hL hI hll
  rw [(size_err he).2] at HR
  have HRR := hid HR
  have HE := hid he
  clear hL hI HR he
  go_enter Tryz.func21, Tryz.ntmps21
  go_wp2_with fail
  refine HRR.out.mono ?_
  rintro e w1 ⟨rfl, hb⟩
  go_wp2_with fail
  refine bodyPost_ret (v := .tuple #[.slice none 0 0, .int .i64 10001]) (by simp [results, Tryz.results21, go_sem]) rfl (.inl ⟨HE.out, rfl, hb⟩)
set_option maxHeartbeats 4000000 in
theorem encode13_yes (w : World) (a : Option Addr) (c : Nat) (l : List Ent12) (hL : Acts w a l) (hI : AllIn w l) (hll : l.length ≤ 1000) (X : List Int) (he : enc13 (l.map Ent12.act) = .ok X) (hr : raw13 (l.map Ent12.act) = some X) (hX : X.length ≤ 65528) :
    Calls Tryz.prog 21 #[.slice a l.length c] w (EncPost13 (l.map Ent12.act) w) := by
  have HR := right13_any w a c l hL hI hll
  rw [(size_ok13 he).2] at HR
  have HRR := hid HR
  have HE := hid he
  have HX := hid hr
  have HL := hid hL
  have HI := hid hI
  obtain ⟨N, hN⟩ : ∃ N, N = l.length := ⟨_, rfl⟩
  have HN := hid hN
  rw [← hN] at hll HRR ⊢
  clear hL hI HR he hr hN
  go_enter Tryz.func21, Tryz.ntmps21
  go_wp2_with fail
  refine HRR.out.mono ?_
  rintro e w1 ⟨rfl, hb1⟩
  have HB := hid hb1
  clear hb1
  go_wp2_with fail
  refine (bufNew_any 65528 _).mono ?_
  rintro e w2 ⟨g, m, rfl, hB, hb2, hg, hmm⟩
  have O1 : BufOn w w2 g m none 65528 [] [] 0 := ⟨hB, below_on HB.out hb2, by have := HB.out.size; rintro i (e | e | e); omega; omega; simp at e⟩
  have HO1 := hid O1
  clear hB hb2 O1 HRR
  go_wp2_with fail
  go_loopg [15] N (fun kx s15 wr => ∃ (i : Nat) (x : List Int) (p : Option Nat), s15 = .int .i64 i ∧ i ≤ N ∧ N - i ≤ kx ∧ Hid (raw13 ((l.map Ent12.act).take i) = some x) ∧ Hid (BufOn w wr g m p 65528 x [] 0))
  case atStart => exact ⟨0, [], none, rfl, by omega, by omega, rfl, HO1.out⟩
  case round =>
    obtain ⟨i, x, p, rfl, hi, hkx, hx, hO⟩ := hrel
    by_cases hlt : i < N
    · have hltz : (i : Int) < (N : Int) := by omega
      have hil : i < l.length := by have := HN.out; omega
      obtain ⟨b, off, rfl, -⟩ := HL.out i hil
      obtain ⟨c0, c1, c2, c3, c4, c5, c6, c7, c8, c9⟩ := (HL.out.below hO.out.bel).ten i hil
      have hin := HI.out l[i] (List.getElem_mem hil)
      have hmem : l[i].act ∈ l.map Ent12.act := List.mem_map_of_mem (List.getElem_mem hil)
      have htk := take_snoc13 l i hil
      generalize l[i] = h at c0 c1 c2 c3 c4 c5 c6 c7 c8 c9 hin hmem htk
      obtain ⟨W, hW, hbW, hbx⟩ := act_box wr h.T h.A h.B h.o.C h.o.F h.o.H h.o.X h.va h.o.v.length h.vc h.ma h.o.m.length h.mc h.da h.d.length h.dc
      have HW := hid hW
      have hbw := below_on hO.out.bel hbW
      have HS := hid (actEncode_any h W (hin.below hbw))
      obtain ⟨y, hy⟩ := (raw_each HX.out).1 _ hmem
      have HY := hid hy
      have HT := hid htk
      have HBX := hid hbx
      have HBW := hid hbW
      clear hW hbW hbw hin hmem htk hy hbx
      obtain ⟨d0, d1, d2, d3, d4, d5, d6, d7, d8, d9⟩ := HBX.out.ten
      go_wp2_with fail
      rw [HW.out]
      go_wp2_with fail
      refine HS.out.mono ?_
      rintro e w3 (⟨hno, _⟩ | ⟨y', q, hq, rfl, hb3, hI3, hq3⟩)
      · rw [HY.out] at hno; cases hno
      have O3 := (hO.out.below HBW.out).below hb3
      have hgw := hid (show g < W.heap.size from (hO.out.below HBW.out).buf.lt g (.inl rfl))
      have hr2 := raw_snoc hx.out hq
      rw [← HT.out] at hr2
      have hle : x.length + y'.length ≤ 65528 := by
        have h0 := HX.out
        rw [← List.take_append_drop (i + 1) (l.map Ent12.act)] at h0
        obtain ⟨u, v, hu, _, huv⟩ := raw_parts h0
        rw [hr2] at hu
        cases hu
        have := congrArg List.length huv
        rw [List.length_append, List.length_append] at this
        omega
      have HR2 := hid hr2
      have HLE := hid hle
      have HQ3 := hid hq3
      have HI3 := hid hI3
      have HO3 := hid O3
      clear hle hq3 hb3 hI3 hr2 hq O3 d0 d1 d2 d3 d4 d5 d6 d7 d8 d9 c0 c1 c2 c3 c4 c5 c6 c7 c8 c9 HS
      go_wp2_with fail
      refine (HO3.out.buf.fail 0).mono ?_
      rintro e w4 ⟨rfl, hbuf, hby⟩
      have O4 := hid (HO3.out.went (Went.by_g hbuf hby))
      have I4 : Ints .u8 w4 (some ⟨q, 0, none⟩) y' := (Turn.of_by (S := fun k => k = g) hby (by rintro k e; simp at e; exact e.symm)).ints HI3.out (by have := hgw.out; have := HQ3.out; omega)
      have HI4 := hid I4
      clear hbuf hby I4
      go_wp2_with fail
      refine (O4.out.buf.bytes_ok y' _ _ HLE.out HI4.out).mono ?_
      rintro e w5 ⟨rfl, p', hG⟩
      have O5 := hid (O4.out.went hG)
      clear hG
      go_wp2_with fail
      go_roundg (N - (i + 1))
      case rel => exact ⟨i + 1, x ++ y', p', by go_num, by omega, by omega, HR2.out, O5.out⟩
      case measure => omega
    · have hge : (N : Int) ≤ (i : Int) := by omega
      obtain rfl : i = N := by omega
      have hxX : x = X := by
        have h := hx.out
        rw [List.take_of_length_le (by rw [List.length_map]; have := HN.out; omega), HX.out] at h
        cases h; rfl
      subst hxX
      go_wp2_with fail
      refine hO.out.buf.done_ok.mono ?_
      rintro e w8 ⟨rfl, hFr⟩
      obtain ⟨ad, cp, he, hl, hc, hI⟩ := own_ints hFr.own
      have he1 : ad = some ⟨wr.heap.size, 0, none⟩ := by simpa using (congrArg (fun x => match x with | Value.slice a _ _ => a | _ => none) he).symm
      rw [he1] at hI
      have HI8 := hid hI
      have HF := hid (below_on hO.out.bel hFr.bel)
      have hs := hO.out.bel.size
      clear he hl hc hI hFr he1
      go_wp2_with fail
      refine bodyPost_ret (v := .tuple #[.slice (some ⟨wr.heap.size, 0, none⟩) x.length x.length, .int .i64 0]) (by simp [results, Tryz.results21, go_sem]) rfl (.inr ⟨x, _, HE.out, rfl, HF.out, HI8.out, hs⟩)
theorem encode13_any (w : World) (a : Option Addr) (c : Nat) (l : List Ent12) (hL : Acts w a l) (hI : AllIn w l) (hll : l.length ≤ 1000) :
    Calls Tryz.prog 21 #[.slice a l.length c] w (EncPost13 (l.map Ent12.act) w) := by
  rcases enc_or (l.map Ent12.act) with h | ⟨x, h1, h2, _, h3⟩
  · exact encode13_no w a c l hL hI hll h
  · exact encode13_yes w a c l hL hI hll x h1 h2 h3

/-- actions are written -/
theorem put13_yes (w0 w : World) (a : Option Addr) (c : Nat) (l : List Ent12) (hL : Acts w a l) (hI : AllIn w l) (hll : l.length ≤ 1000) {g m : Nat} {p : Option Nat} {r : Nat} {ll : List Int} (hB : BufOn w0 w g m p r ll [] 0)
    {X : List Int} (he : enc13 (l.map Ent12.act) = .ok X) (hr : ll.length + X.length ≤ r) :
    Calls Tryz.prog 25 #[.pointer (some ⟨g, 0, none⟩), .slice a l.length c] w fun e w' => e = .returned (.tuple #[]) ∧ ∃ p', BufOn w0 w' g m p' r (ll ++ X) [] 0 := by
  have HE := hid (encode13_any w a c l hL hI hll)
  have HB := hid hB
  have HM := hid he
  have hlt := hB.buf.lt g (.inl rfl)
  clear hL hI hB he
  go_enter Tryz.func25, Tryz.ntmps25
  go_wp2_with fail
  refine HE.out.mono ?_
  rintro e w1 (⟨hno, _⟩ | ⟨x, h, hx, rfl, hb1, hI, hh⟩)
  · rw [HM.out] at hno; cases hno
  obtain rfl : X = x := by have := HM.out; rw [hx] at this; cases this; rfl
  have O1 := HB.out.below hb1
  have HI := hid hI
  clear hb1 hI hx
  go_wp2_with fail
  refine (O1.buf.fail 0).mono ?_
  rintro e w2 ⟨rfl, hbuf, hby⟩
  have O2 := O1.went (Went.by_g hbuf hby)
  have hI2 : Ints .u8 w2 (some ⟨h, 0, none⟩) X := (Turn.of_by (S := fun k => k = g) hby (by rintro k e; simp at e; exact e.symm)).ints HI.out (by omega)
  have HI2 := hid hI2
  clear O1 hbuf hby hI2
  go_wp2_with fail
  refine (O2.buf.bytes_ok X _ _ hr HI2.out).mono ?_
  rintro e w3 ⟨rfl, p', hG⟩
  have O3 := O2.went hG
  clear O2 hG
  go_wp2
  exact bodyPost_end (v := .tuple #[]) (by simp [results, Tryz.results25, go_sem]) rfl ⟨rfl, p', O3⟩
/-- the buffer has a fault -/
theorem put13_no (w0 w : World) (a : Option Addr) (c : Nat) (l : List Ent12) (hL : Acts w a l) (hI : AllIn w l) (hll : l.length ≤ 1000) {g m : Nat} {p : Option Nat} {r : Nat} {ll : List Int} (hB : BufOn w0 w g m p r ll [] 0)
    (he : enc13 (l.map Ent12.act) = .error 10001) :
    Calls Tryz.prog 25 #[.pointer (some ⟨g, 0, none⟩), .slice a l.length c] w fun e w' => e = .returned (.tuple #[]) ∧ BufOn w0 w' g m p r ll [] 10001 := by
  have HE := hid (encode13_any w a c l hL hI hll)
  have HB := hid hB
  have HM := hid he
  clear hL hI hB he
  go_enter Tryz.func25, Tryz.ntmps25
  go_wp2_with fail
  refine HE.out.mono ?_
  rintro e w1 (⟨_, rfl, hb1⟩ | ⟨x, _, hno, _⟩)
  case inr => rw [HM.out] at hno; cases hno
  have O1 := HB.out.below hb1
  clear hb1
  go_wp2_with fail
  refine (O1.buf.fail 10001).mono ?_
  rintro e w2 ⟨rfl, hbuf, hby⟩
  have O2 := O1.went (Went.by_g hbuf hby)
  clear O1 hbuf hby
  go_wp2_with fail
  refine (O2.buf.bytes_late (by decide) _).mono ?_
  rintro e w3 ⟨rfl, rfl⟩
  go_wp2
  exact bodyPost_end (v := .tuple #[]) (by simp [results, Tryz.results25, go_sem]) rfl ⟨rfl, O2⟩
end Go.Proofs.YtdjlbejhphbcoaaGreat
