/- The document's lists of values: Few, Ints, Same. -/
import Derived.Test.YtlikpafjlojagaaNedM
namespace Go.Proofs.Ytlikpafjlojagaa
open Go.RowKit
set_option linter.unusedVariables false

def few9 (h : Ent9) : Bool := decide (h.o.v.length ≤ 300 ∧ h.o.m.length ≤ 300)
def fewL9 (l : List Ent9) : Bool := l.all few9 && decide (l.length ≤ 60)
set_option maxRecDepth 100000 in
set_option maxHeartbeats 2000000 in
theorem refFew9_any (l : List Ent9) (a : Option Addr) (c : Nat) (w : World) (hO : Oxms w a l) (hl : l.length ≤ 9223372036854775807) :
    Calls Try.prog 6 #[.slice a l.length c] w fun e w' => e = .returned (.bool (fewL9 l)) ∧ Below w.heap.size w w' := by
  obtain ⟨r, hr⟩ : ∃ r, fewL9 l = r := ⟨_, rfl⟩
  rw [hr]
  have HR := hid hr
  have HO := hid hO
  clear hr hO
  go_enter Try.func6, Try.ntmps6
  go_wp2_with fail
  go_loopg [3] (l.length) (fun kx s3 wr => ∃ (i : Nat), s3 = .int .i64 i ∧ i ≤ l.length ∧ l.length - i ≤ kx ∧ Hid ((l.take i).all few9 = true) ∧ Hid (Below w.heap.size w wr))
  case atStart => exact ⟨0, rfl, by omega, by omega, rfl, Below.refl _ _⟩
  case round =>
    obtain ⟨i, rfl, hi, hkx, hn, hb⟩ := hrel
    by_cases hlt : i < l.length
    · have hltz : (i : Int) < (l.length : Int) := by omega
      obtain ⟨b, off, rfl, c0, c1, c2, c3, c4, c5⟩ := HO.out.below hb.out i hlt
      have hget : l[i]? = some l[i] := List.getElem?_eq_getElem hlt
      generalize l[i] = h at c0 c1 c2 c3 c4 c5 hget
      have HG := hid hget
      have HC := hid (few8_any h.o.C h.o.F h.o.H h.o.X h.va h.o.v.length h.vc h.ma h.o.m.length h.mc wr)
      cases hf : few9 h
      · have hf2 : decide (h.o.v.length ≤ 300 ∧ h.o.m.length ≤ 300) = false := hf
        rw [hf2] at HC
        have HF := hid hf
        clear hget hf hf2
        go_wp2_with fail
        refine HC.out.mono ?_
        rintro e w2 ⟨rfl, hb2⟩
        have HB2 := hid (below_on hb.out hb2)
        clear hb2
        go_wp2_with fail
        have h0 : r = false := by
          rw [← HR.out]
          unfold fewL9
          have : l.all few9 = false := List.all_eq_false.2 ⟨h, List.mem_of_getElem? HG.out, by rw [HF.out]; simp⟩
          rw [this]; rfl
        exact bodyPost_ret (v := .bool false) (by simp [results, Try.results6, go_sem]) rfl ⟨by rw [h0], HB2.out⟩
      · have hf2 : decide (h.o.v.length ≤ 300 ∧ h.o.m.length ≤ 300) = true := hf
        rw [hf2] at HC
        have HF := hid hf
        clear hget hf hf2
        go_wp2_with fail
        refine HC.out.mono ?_
        rintro e w2 ⟨rfl, hb2⟩
        have HB2 := hid (below_on hb.out hb2)
        clear hb2
        go_wp2_with fail
        go_roundg (l.length - (i + 1))
        case measure => omega
        case rel =>
          refine ⟨i + 1, by first | rfl | go_num, by omega, Nat.le_refl _, ?_, HB2.out⟩
          show _ = _
          rw [List.take_add_one, HG.out]
          simp only [Option.toList_some, List.all_append, hn.out, List.all_cons, HF.out, List.all_nil]; rfl
    · have hltz : ¬ (i : Int) < (l.length : Int) := by omega
      have h0 : r = decide ((l.length : Int) ≤ 60) := by
        rw [← HR.out]
        unfold fewL9
        have h1 := hn.out
        rw [List.take_of_length_le (by omega)] at h1
        rw [h1, Bool.true_and]
        exact decide_eq_decide.2 (by omega)
      have H0 := hid h0
      clear h0
      go_wp2_with fail
      exact bodyPost_ret (v := .bool (decide ((l.length : Int) ≤ 60))) (by simp [results, Try.results6, go_sem]) rfl ⟨by rw [H0.out], hb.out⟩

set_option maxRecDepth 100000 in
set_option maxHeartbeats 2000000 in
theorem refInts9_any (l m : List Int) (a b : Option Addr) (c d : Nat) (w : World) (hI : Ints .i64 w a l) (hJ : Ints .i64 w b m) (hl : l.length ≤ 1000) (hm : m.length ≤ 1000) :
    Calls Try.prog 12 #[.slice a l.length c, .slice b m.length d] w fun e w' => e = .returned (.bool (l == m)) ∧ Below w.heap.size w w' := by
  obtain ⟨r, hr⟩ : ∃ r, (l == m) = r := ⟨_, rfl⟩
  rw [hr]
  have HR := hid hr
  have HI := hid hI
  have HJ := hid hJ
  have hmix : Try.prog.follows .mixedOrders = true := by kernel_rfl
  clear hr hI hJ
  by_cases hlen : l.length = m.length
  · have hne : ((l.length : Int) != (m.length : Int)) = false := by simp [hlen]
    obtain ⟨N, hN⟩ : ∃ N, N = l.length := ⟨_, rfl⟩
    have hM : m.length = N := by omega
    rw [hM, ← hN] at hne ⊢
    have HN := hid (And.intro hN hM)
    have hN' : N ≤ 1000 := by omega
    clear hN hM hlen hl hm
    go_enter Try.func12, Try.ntmps12
    go_wp2_with fail
    go_loopg [5] N (fun kx s5 wr => ∃ (i : Nat), s5 = .int .i64 i ∧ i ≤ N ∧ N - i ≤ kx ∧ Hid (l.take i = m.take i) ∧ Hid (Below w.heap.size w wr))
    case atStart => exact ⟨0, rfl, by omega, by omega, rfl, Below.refl _ _⟩
    case round =>
      obtain ⟨i, rfl, hi, hkx, hn, hb⟩ := hrel
      by_cases hlt : i < N
      · have hltz : (i : Int) < (N : Int) := by omega
        obtain ⟨b1, o1, x, rfl, hc1, hx⟩ := (HI.out.below hb.out).at (by have := HN.out; omega : i < l.length)
        obtain ⟨b2, o2, y, rfl, hc2, hy⟩ := (HJ.out.below hb.out).at (by have := HN.out; omega : i < m.length)
        have HX := hid (And.intro hx.out hy.out)
        have d1 := Wk.cell hc1
        have d2 := Wk.cell hc2
        clear hx hy hc1 hc2
        cases he : (x != y)
        · have HE := hid he
          go_wp2_with fail
          refine wp_region_wk (by kernel_rfl) (by kernel_rfl) ?_
          repeat (go_big_quiet_step (fail))
          refine wpQuiet_nil ?_
          rintro w6 ⟨⟨_, hb6⟩, rfl⟩
          go_wp2_with fail
          go_roundg (N - (i + 1))
          case measure => omega
          case rel =>
            refine ⟨i + 1, by first | rfl | go_num, by omega, Nat.le_refl _, ?_, below_on hb.out hb6⟩
            show _ = _
            have : x = y := by simpa using HE.out
            rw [List.take_add_one, List.take_add_one, HX.out.1, HX.out.2, hn.out, this]
        · have HE := hid he
          go_wp2_with fail
          refine wp_region_wk (by kernel_rfl) (by kernel_rfl) ?_
          repeat (go_big_quiet_step (fail))
          refine wpQuiet_nil ?_
          rintro w6 ⟨⟨_, hb6⟩, rfl⟩
          go_wp2_with fail
          have h0 : r = false := by
            rw [← HR.out]
            cases hq : (l == m)
            · rfl
            · have e := beq_iff_eq.1 hq
              have h1 := HX.out.1
              rw [e, HX.out.2] at h1
              have h2 := HE.out
              simp at h1 h2
              exact absurd h1.symm h2
          exact bodyPost_ret (v := .bool false) (by simp [results, Try.results12, go_sem]) rfl ⟨by rw [h0], below_on hb.out hb6⟩
      · have hltz : ¬ (i : Int) < (N : Int) := by omega
        have h0 : r = true := by
          rw [← HR.out]
          have h1 := hn.out
          have h2 := HN.out
          rw [List.take_of_length_le (by omega), List.take_of_length_le (by omega)] at h1
          rw [h1]; simp
        go_wp2_with fail
        exact bodyPost_ret (v := .bool true) (by simp [results, Try.results12, go_sem]) rfl ⟨by first | rfl | rw [h0], hb.out⟩
  · have hne : ((l.length : Int) != (m.length : Int)) = true := by simp; omega
    have h0 : r = false := by
      rw [← HR.out]
      cases hq : (l == m)
      · rfl
      · exact absurd (congrArg List.length (beq_iff_eq.1 hq)) hlen
    have H0 := hid h0
    clear hlen h0
    go_enter Try.func12, Try.ntmps12
    go_wp2_with fail
    exact bodyPost_ret (v := .bool false) (by simp [results, Try.results12, go_sem]) rfl ⟨by rw [H0.out], Below.refl _ _⟩

def same9 (a b : Ox9) : Bool := sameB a.C a.F a.H a.X b.C b.F b.H b.X a.v a.m b.v b.m
theorem same9_iff (a b : Ox9) : same9 a b = true ↔ a = b := by
  obtain ⟨C, F, H, X, v, m⟩ := a
  obtain ⟨C', F', H', X', v', m'⟩ := b
  simp only [same9, sameB, alikeB, Bool.and_eq_true, beq_iff_eq, Ox9.mk.injEq]
  constructor
  · rintro ⟨⟨⟨⟨⟨a, b⟩, c⟩, d⟩, e⟩, f⟩
    exact ⟨a, b, d, c, e, f⟩
  · rintro ⟨a, b, d, c, e, f⟩
    exact ⟨⟨⟨⟨⟨a, b⟩, c⟩, d⟩, e⟩, f⟩
instance : DecidableEq Ox9 := fun a b => if h : same9 a b = true then .isTrue ((same9_iff a b).1 h) else .isFalse fun e => h ((same9_iff a b).2 e)
theorem refSameO9 (g h : Ent9) (w : World) (hg : EntIn w g) (hh : EntIn w h) (sg : g.o.v.length ≤ 1000 ∧ g.o.m.length ≤ 1000) (sh : h.o.v.length ≤ 1000 ∧ h.o.m.length ≤ 1000) :
    Calls Try.prog 27 #[.agg #[.int .i64 g.o.C, .int .i64 g.o.F, .bool g.o.H, .int .u64 g.o.X, .slice g.va g.o.v.length g.vc, .slice g.ma g.o.m.length g.mc], .agg #[.int .i64 h.o.C, .int .i64 h.o.F, .bool h.o.H, .int .u64 h.o.X, .slice h.va h.o.v.length h.vc, .slice h.ma h.o.m.length h.mc]] w fun e w' => e = .returned (.bool (same9 g.o h.o)) ∧ Below w.heap.size w w' :=
  refSame8_any g.o.C g.o.F g.o.H g.o.X g.va g.vc g.ma g.mc h.o.C h.o.F h.o.H h.o.X h.va h.vc h.ma h.mc g.o.v g.o.m h.o.v h.o.m sg.1 sg.2 sh.1 sh.2 hg.ov hg.om hh.ov hh.om w hg.iv hg.im hh.iv hh.im
set_option maxRecDepth 100000 in
set_option maxHeartbeats 2000000 in
theorem refSame9_any (l m : List Ent9) (a b : Option Addr) (c d : Nat) (w : World) (hI : L9 w a l) (hJ : L9 w b m) :
    Calls Try.prog 15 #[.slice a l.length c, .slice b m.length d] w fun e w' => e = .returned (.bool (decide (l.map Ent9.o = m.map Ent9.o))) ∧ Below w.heap.size w w' := by
  obtain ⟨r, hr⟩ : ∃ r, decide (l.map Ent9.o = m.map Ent9.o) = r := ⟨_, rfl⟩
  rw [hr]
  have HR := hid hr
  have HI := hid hI
  have HJ := hid hJ
  have hl := hI.len
  have hm := hJ.len
  have hmix : Try.prog.follows .mixedOrders = true := by kernel_rfl
  clear hr hI hJ
  by_cases hlen : l.length = m.length
  · have hne : ((l.length : Int) != (m.length : Int)) = false := by simp [hlen]
    obtain ⟨N, hN⟩ : ∃ N, N = l.length := ⟨_, rfl⟩
    have hM : m.length = N := by omega
    rw [hM, ← hN] at hne ⊢
    have HN := hid (And.intro hN hM)
    have hN' : N ≤ 1000 := by omega
    clear hN hM hlen hl hm
    go_enter Try.func15, Try.ntmps15
    go_wp2_with fail
    go_loopg [5] N (fun kx s5 wr => ∃ (i : Nat), s5 = .int .i64 i ∧ i ≤ N ∧ N - i ≤ kx ∧ Hid ((l.map Ent9.o).take i = (m.map Ent9.o).take i) ∧ Hid (Below w.heap.size w wr))
    case atStart => exact ⟨0, rfl, by omega, by omega, rfl, Below.refl _ _⟩
    case round =>
      obtain ⟨i, rfl, hi, hkx, hn, hb⟩ := hrel
      by_cases hlt : i < N
      · have hltz : (i : Int) < (N : Int) := by omega
        have hil : i < l.length := by have := HN.out; omega
        have him : i < m.length := by have := HN.out; omega
        have h1 := HI.out.below hb.out
        have h2 := HJ.out.below hb.out
        obtain ⟨b1, o1, rfl, c0, c1, c2, c3, c4, c5⟩ := h1.ox i hil
        obtain ⟨b2, o2, rfl, d0, d1, d2, d3, d4, d5⟩ := h2.ox i him
        have e1 := h1.ent l[i] (List.getElem_mem hil)
        have e2 := h2.ent m[i] (List.getElem_mem him)
        have s1 := h1.few l[i] (List.getElem_mem hil)
        have s2 := h2.few m[i] (List.getElem_mem him)
        have g1 : (l.map Ent9.o)[i]? = some l[i].o := by simp [hil]
        have g2 : (m.map Ent9.o)[i]? = some m[i].o := by simp [him]
        generalize l[i] = g at c0 c1 c2 c3 c4 c5 e1 s1 g1
        generalize m[i] = h at d0 d1 d2 d3 d4 d5 e2 s2 g2
        have HC := hid (fun n : Wk wr => Wk.call (refSameO9 g h n.val (e1.below n.bel) (e2.below n.bel) s1 s2))
        have HX := hid (And.intro g1 g2)
        have c0 := Wk.cell c0
        have c1 := Wk.cell c1
        have c2 := Wk.cell c2
        have c3 := Wk.cell c3
        have c4 := Wk.cell c4
        have c5 := Wk.cell c5
        have d0 := Wk.cell d0
        have d1 := Wk.cell d1
        have d2 := Wk.cell d2
        have d3 := Wk.cell d3
        have d4 := Wk.cell d4
        have d5 := Wk.cell d5
        clear h1 h2 e1 e2 s1 s2 g1 g2 hil him
        cases he : same9 g.o h.o
        · rw [he] at HC
          have HE := hid he
          clear he
          go_wp2_with fail
          refine wp_region_wk (by kernel_rfl) (by kernel_rfl) ?_
          repeat (go_big_quiet_step (first | (go_at_call 27; exact HC.out _) | fail))
          refine wpQuiet_nil ?_
          rintro w6 ⟨⟨_, hb6⟩, rfl⟩
          clear c0 c1 c2 c3 c4 c5 d0 d1 d2 d3 d4 d5
          go_wp2_with fail
          have h0 : r = false := by
            rw [← HR.out]
            rw [decide_eq_false_iff_not]
            intro e
            have h1 := HX.out.1
            rw [e, HX.out.2] at h1
            have h2 := HE.out
            rw [Option.some.inj h1, (same9_iff _ _).2 rfl] at h2
            simp at h2
          exact bodyPost_ret (v := .bool false) (by simp [results, Try.results15, go_sem]) rfl ⟨by first | rfl | rw [h0], below_on hb.out hb6⟩
        · rw [he] at HC
          have HE := hid he
          clear he
          go_wp2_with fail
          refine wp_region_wk (by kernel_rfl) (by kernel_rfl) ?_
          repeat (go_big_quiet_step (first | (go_at_call 27; exact HC.out _) | fail))
          refine wpQuiet_nil ?_
          rintro w6 ⟨⟨_, hb6⟩, rfl⟩
          clear c0 c1 c2 c3 c4 c5 d0 d1 d2 d3 d4 d5
          go_wp2_with fail
          go_roundg (N - (i + 1))
          case measure => omega
          case rel =>
            refine ⟨i + 1, by first | rfl | go_num, by omega, Nat.le_refl _, ?_, below_on hb.out hb6⟩
            show _ = _
            rw [List.take_add_one, List.take_add_one, HX.out.1, HX.out.2, hn.out, (same9_iff _ _).1 HE.out]
      · have hltz : ¬ (i : Int) < (N : Int) := by omega
        have h0 : Hid (r = true) := by
          show _ = _
          rw [← HR.out]
          have h1 := hn.out
          have h2 := HN.out
          rw [List.take_of_length_le (by rw [List.length_map]; omega), List.take_of_length_le (by rw [List.length_map]; omega)] at h1
          rw [h1]; simp
        go_wp2_with fail
        exact bodyPost_ret (v := .bool true) (by simp [results, Try.results15, go_sem]) rfl ⟨by first | rfl | rw [h0.out], hb.out⟩
  · have hne : ((l.length : Int) != (m.length : Int)) = true := by simp; omega
    have h0 : r = false := by
      rw [← HR.out, decide_eq_false_iff_not]
      intro e
      have := congrArg List.length e
      simp at this
      exact hlen this
    have H0 := hid h0
    clear hlen h0
    go_enter Try.func15, Try.ntmps15
    go_wp2_with fail
    exact bodyPost_ret (v := .bool false) (by simp [results, Try.results15, go_sem]) rfl ⟨by rw [H0.out], Below.refl _ _⟩
end Go.Proofs.Ytlikpafjlojagaa
