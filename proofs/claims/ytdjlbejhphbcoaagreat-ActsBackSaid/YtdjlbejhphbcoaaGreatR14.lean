/- Put together out of several texts. -/
import Derived.Test.YtdjlbejhphbcoaaGreatR12
import Derived.Test.YtdjlbejhphbcoaaGreatR13
import Derived.Test.YtdjlbejhphbcoaaGreatR24
import Derived.Test.YtdjlbejhphbcoaaGreatR25
import Derived.Test.YtdjlbejhphbcoaaGreatR11
import Derived.Test.YtdjlbejhphbcoaaGreatR26
namespace Go.Proofs.YtdjlbejhphbcoaaGreat
open Go.ChangeShapes Go.WideShapes Go.RowKit Go.Deep
set_option linter.unusedVariables false

section
variable {H : Type} {enc : TypeId × Value → H} {w : World} {base : Nat} {held : Bool}
set_option maxRecDepth 100000 in
/-- the cells of an action, inside of another thing -/
theorem open_act_cells {fuel : Nat} {cs : List Value} {z : DataW H × List MemPlace} (h : DataW.trod enc Tryz.prog w base (fun _ => true) held fuel 27 cs = some z) :
    ∃ g : Ent12, cs = g.cs ∧ ActArg w g := by
  have hC : Tryz.prog.cellsOf 27 = 10 := by kernel_rfl
  have hCi : Tryz.prog.cellsOf 3 = 1 := by kernel_rfl
  have hCu : Tryz.prog.cellsOf 22 = 1 := by kernel_rfl
  have hCo : Tryz.prog.cellsOf 25 = 6 := by kernel_rfl
  have hCs : Tryz.prog.cellsOf 23 = 1 := by kernel_rfl
  have hsz : cs.length = 10 := by
    obtain ⟨_, _, _, _, hlen, _, _⟩ := DataW.trod_struct Tryz.underlying27 h
    rw [hC] at hlen; exact hlen
  match cs, hsz with
  | [v0, v1, v2, v3, v4, v5, v6, v7, v8, v9], _ =>
    obtain ⟨ys, n', _, _, hlen, hyl, hg⟩ := DataW.trod_struct Tryz.underlying27 h
    have get : ∀ j, j < 5 → ∃ y, ys[j]? = some y := fun j hj => ⟨ys[j]'(by rw [hyl]; exact hj), List.getElem?_eq_getElem _⟩
    obtain ⟨y0, e0⟩ := get 0 (by decide)
    obtain ⟨y1, e1⟩ := get 1 (by decide)
    obtain ⟨y2, e2⟩ := get 2 (by decide)
    obtain ⟨y3, e3⟩ := get 3 (by decide)
    obtain ⟨y4, e4⟩ := get 4 (by decide)
    have g0 : DataW.trod enc Tryz.prog w base (fun _ => true) held n' 3 [v0] = some y0 := by have h := hg 0 _ rfl; rw [e0] at h; simpa [hCi, Value.cells] using h
    have g1 : DataW.trod enc Tryz.prog w base (fun _ => true) held n' 22 [v1] = some y1 := by have h := hg 1 _ rfl; rw [e1] at h; simpa [hCi, hCu, Value.cells] using h
    have g2 : DataW.trod enc Tryz.prog w base (fun _ => true) held n' 22 [v2] = some y2 := by have h := hg 2 _ rfl; rw [e2] at h; simpa [hCi, hCu, Value.cells] using h
    have g3 : DataW.trod enc Tryz.prog w base (fun _ => true) held n' 25 [v3, v4, v5, v6, v7, v8] = some y3 := by have h := hg 3 _ rfl; rw [e3] at h; simpa [hCi, hCu, hCo, Value.cells] using h
    have g4 : DataW.trod enc Tryz.prog w base (fun _ => true) held n' 23 [v9] = some y4 := by have h := hg 4 _ rfl; rw [e4] at h; simpa [hCi, hCu, hCo, hCs, Value.cells] using h
    obtain ⟨k0, h0, _, u0⟩ := DataW.trod_int Tryz.underlying3 g0
    obtain ⟨k1, h1, _, u1⟩ := DataW.trod_int Tryz.underlying22 g1
    obtain ⟨k2, h2, _, u2⟩ := DataW.trod_int Tryz.underlying22 g2
    obtain ⟨C, F, G, X, va, vl, vc, ma, ml, mc, bv, bm, he, hin⟩ := open_oxm_cells g3
    obtain ⟨da, n9, dc, bd, rfl, q9, i9, o9, r9, t9⟩ := open_bytes8 g4
    simp at h0 h1 h2 he
    obtain ⟨rfl, rfl, rfl, rfl, rfl, rfl⟩ := he
    obtain ⟨hc, hf2, hx, rfl, rfl, iv, im, ov, om, cv, cm⟩ := hin
    subst q9
    refine ⟨⟨k0, k1, k2, ⟨C, F, G, X, bv, bm⟩, va, vc, ma, mc, bd, da, dc⟩, by rw [h0, h1, h2]; rfl, ⟨?_, ?_, ?_, hc, hf2, hx, iv, im, i9, ov, om, o9, cm.1⟩⟩
    · simp [Lit.wf, IntKind.min, IntKind.max, IntKind.bits, IntKind.signed] at u0; show _ ≤ k0 ∧ k0 ≤ _; omega
    · simp [Lit.wf, IntKind.min, IntKind.max, IntKind.bits, IntKind.signed] at u1; show _ ≤ k1 ∧ k1 ≤ _; omega
    · simp [Lit.wf, IntKind.min, IntKind.max, IntKind.bits, IntKind.signed] at u2; show _ ≤ k2 ∧ k2 ≤ _; omega
/-- actions that came in -/
def IsActs (w : World) (a : Option Addr) (len : Nat) : Prop := ∃ l : List Ent12, l.length = len ∧ Acts w a l ∧ ∀ h ∈ l, ActArg w h
set_option maxRecDepth 100000 in
theorem open_acts_of {T : TypeId} (hT : Tryz.prog.underlying T = some (.slice 27)) {fuel len cap : Nat} {a : Option Addr} {x : DataW H × List MemPlace} (h : DataW.trod enc Tryz.prog w base (fun _ => true) held fuel T [.slice a len cap] = some x) : len ≤ 9223372036854775807 ∧ IsActs w a len := by
  rcases open_slice hT h with ⟨hcs, _⟩ | ⟨p, l, c, m, n, D, Pl, hcs, hb, hl, hm, hmm, hx, hi⟩
  · simp at hcs
    obtain ⟨rfl, rfl, rfl⟩ := hcs
    exact ⟨by omega, [], rfl, Acts.nil _ _, by simp⟩
  · simp at hcs
    obtain ⟨rfl, rfl, rfl⟩ := hcs
    have hC : Tryz.prog.cellsOf 27 = 10 := by kernel_rfl
    simp at hmm
    have hlen : len ≤ 9223372036854775807 := by unfold maxLen at hm; omega
    have one : ∀ i, i < len → ∃ (b off : Nat) (t : Ent12), p = ⟨b, off, none⟩ ∧ (∀ j, j < 10 → w.cell? ⟨b, off + i * 10 + j, none⟩ = t.cs[j]?) ∧ ActArg w t := by
      intro i hil
      have hspot : p.spot = none := by
        obtain ⟨cs, hc, ht⟩ := hi 0 (by omega)
        rw [hC] at hc
        obtain ⟨_, hcl, hat⟩ := World.cells?_some hc
        have c0 := hat 0 (by omega)
        rw [List.getElem?_eq_getElem (by omega)] at c0
        simpa [Addr.add] using World.cell?_spot c0
      obtain ⟨cs, hc, ht⟩ := hi i (by omega)
      rw [hC] at hc
      obtain ⟨_, hcl, hat⟩ := World.cells?_some hc
      obtain ⟨t, rfl, hin⟩ := open_act_cells ht
      obtain ⟨b, off, spot⟩ := p
      simp at hspot
      subst hspot
      refine ⟨b, off, t, rfl, fun j hj => ?_, hin⟩
      have := hat j (by omega)
      rw [add_none, add_none] at this
      exact this
    have all : ∀ n, n ≤ len → ∃ ts : List Ent12, ts.length = n ∧ ∀ i, (hi : i < ts.length) → ∃ (b off : Nat), p = ⟨b, off, none⟩ ∧ (∀ j, j < 10 → w.cell? ⟨b, off + i * 10 + j, none⟩ = ts[i].cs[j]?) ∧ ActArg w ts[i] := by
      intro n
      induction n with
      | zero => intro _; exact ⟨[], rfl, fun i hi => by simp at hi⟩
      | succ n ih =>
        intro hn
        obtain ⟨ts, hts, hall⟩ := ih (by omega)
        obtain ⟨b, off, t, hp, r1, r2⟩ := one n (by omega)
        refine ⟨ts ++ [t], by simp [hts], fun i hi => ?_⟩
        rcases Nat.lt_or_ge i ts.length with hlt | hge
        · obtain ⟨b', off', q1, q2⟩ := hall i hlt
          rw [List.getElem_append_left hlt]
          exact ⟨b', off', q1, q2⟩
        · obtain rfl : i = ts.length := by simp at hi; omega
          rw [List.getElem_append_right (Nat.le_refl _)]
          simp only [Nat.sub_self, List.getElem_cons_zero]
          rw [hts]
          exact ⟨b, off, hp, r1, r2⟩
    obtain ⟨ts, hts, hall⟩ := all len (Nat.le_refl _)
    refine ⟨hlen, ts, hts, ?_, ?_⟩
    · intro i hi
      obtain ⟨b, off, hp, r, _⟩ := hall i hi
      exact ⟨b, off, by rw [hp], r⟩
    · intro t ht
      obtain ⟨i, hi, rfl⟩ := List.mem_iff_getElem.1 ht
      obtain ⟨_, _, _, _, r⟩ := hall i hi
      exact r
theorem open_acts {fuel len cap : Nat} {a : Option Addr} {x : DataW H × List MemPlace} (h : DataW.trod enc Tryz.prog w base (fun _ => true) held fuel 43 [.slice a len cap] = some x) : len ≤ 9223372036854775807 ∧ IsActs w a len :=
  open_acts_of Tryz.underlying43 h
end
end Go.Proofs.YtdjlbejhphbcoaaGreat
namespace Go.Proofs.YtdjlbejhphbcoaaGreat
open Go.RowKit
set_option linter.unusedVariables false
set_option maxRecDepth 100000

set_option maxHeartbeats 4000000 in
theorem equal13_any (l m : List Ent12) (a b : Option Addr) (c d : Nat) (w : World) (hI : Acts w a l) (hJ : Acts w b m) (aI : AllIn w l) (aJ : AllIn w m) (hll : l.length ≤ 1000) (hlm : m.length ≤ 1000) :
    Calls Tryz.prog 74 #[.slice a l.length c, .slice b m.length d, .func (.func 75) #[] #[]] w fun e w' => e = .returned (.bool (decide (l.map Ent12.act = m.map Ent12.act))) ∧ Below w.heap.size w w' := by
  obtain ⟨r, hr⟩ : ∃ r, decide (l.map Ent12.act = m.map Ent12.act) = r := ⟨_, rfl⟩
  rw [hr]
  have HR := hid hr
  have HI := hid (And.intro hI aI)
  have HJ := hid (And.intro hJ aJ)
  clear hr hI hJ aI aJ
  by_cases hlen : l.length = m.length
  · obtain ⟨N, hN⟩ : ∃ N, N = l.length := ⟨_, rfl⟩
    have hM : m.length = N := by omega
    rw [hM, ← hN]
    have HN := hid (And.intro hN hM)
    have hN' : N ≤ 1000 := by omega
    clear hN hM hlen hll hlm
    go_enter Tryz.func74, Tryz.ntmps74
    go_wp2_with fail
    go_loopg [17] N (fun kx s17 wr => ∃ (i : Nat), s17 = .int .i64 i ∧ i ≤ N ∧ N - i ≤ kx ∧ Hid ((l.map Ent12.act).take i = (m.map Ent12.act).take i) ∧ Hid (Below w.heap.size w wr))
    case atStart => exact ⟨0, rfl, by omega, by omega, rfl, Below.refl _ _⟩
    case round =>
      obtain ⟨i, rfl, hi, hkx, hn, hb⟩ := hrel
      by_cases hlt : i < N
      · have hltz : (i : Int) < (N : Int) := by omega
        have hN1 := HN.out.1
        have hN2 := HN.out.2
        have hl := HI.out.1.below hb.out
        have hm := HJ.out.1.below hb.out
        obtain ⟨b1, o1, rfl, -⟩ := hl i (by omega)
        obtain ⟨b2, o2, rfl, -⟩ := hm i (by omega)
        obtain ⟨c0, c1, c2, c3, c4, c5, c6, c7, c8, c9⟩ := hl.ten i (by omega)
        obtain ⟨k0, k1, k2, k3, k4, k5, k6, k7, k8, k9⟩ := hm.ten i (by omega)
        have e1 := HI.out.2 l[i] (List.getElem_mem (by omega))
        have e2 := HJ.out.2 m[i] (List.getElem_mem (by omega))
        have g1 : (l.map Ent12.act)[i]? = some l[i].act := by simp [show i < l.length by omega]
        have g2 : (m.map Ent12.act)[i]? = some m[i].act := by simp [show i < m.length by omega]
        generalize l[i] = x at c0 c1 c2 c3 c4 c5 c6 c7 c8 c9 e1 g1
        generalize m[i] = y at k0 k1 k2 k3 k4 k5 k6 k7 k8 k9 e2 g2
        obtain ⟨W, hW, hbW, hx⟩ := act_box wr x.T x.A x.B x.o.C x.o.F x.o.H x.o.X x.va x.o.v.length x.vc x.ma x.o.m.length x.mc x.da x.d.length x.dc
        obtain ⟨V, hV, hbV, hy⟩ := act_box W y.T y.A y.B y.o.C y.o.F y.o.H y.o.X y.va y.o.v.length y.vc y.ma y.o.m.length y.mc y.da y.d.length y.dc
        have hWs : W.heap.size = wr.heap.size + 1 := by rw [← hW]; simp
        have HW := hid hW
        have HV := hid hV
        have HBV := hid (below_on hbW hbV)
        have HXY := hid (And.intro (hx.below hbV) hy)
        have HS := hid (actSame_any x y V (e1.below (below_on hb.out HBV.out)) (e2.below (below_on hb.out HBV.out)))
        have q0 := cell_keep k0 hbW
        have q1 := cell_keep k1 hbW
        have q2 := cell_keep k2 hbW
        have q3 := cell_keep k3 hbW
        have q4 := cell_keep k4 hbW
        have q5 := cell_keep k5 hbW
        have q6 := cell_keep k6 hbW
        have q7 := cell_keep k7 hbW
        have q8 := cell_keep k8 hbW
        have q9 := cell_keep k9 hbW
        obtain ⟨sv, hsv⟩ : ∃ sv, same12 x.act y.act = sv := ⟨_, rfl⟩
        rw [hsv] at HS
        have hiff := same12_iff x.act y.act
        rw [hsv] at hiff
        have HIF := hid hiff
        have HG := hid (And.intro g1 g2)
        have HQ := hid (And.intro q0 (And.intro q1 (And.intro q2 (And.intro q3 (And.intro q4 (And.intro q5 (And.intro q6 (And.intro q7 (And.intro q8 q9)))))))))
        clear hW hbW hV hbV hx hy hl hm e1 e2 g1 g2 k0 k1 k2 k3 k4 k5 k6 k7 k8 k9 q0 q1 q2 q3 q4 q5 q6 q7 q8 q9 hsv hiff hN1 hN2
        go_upto_region 6 with fail
        rw [HW.out]
        clear c0 c1 c2 c3 c4 c5 c6 c7 c8 c9
        obtain ⟨q0, q1, q2, q3, q4, q5, q6, q7, q8, q9⟩ := HQ.out
        go_upto_region 7 with fail
        rw [HV.out]
        clear q0 q1 q2 q3 q4 q5 q6 q7 q8 q9
        have hxy := HXY.out
        rw [hWs] at hxy
        obtain ⟨x0, x1, x2, x3, x4, x5, x6, x7, x8, x9⟩ := hxy.1.ten
        obtain ⟨y0, y1, y2, y3, y4, y5, y6, y7, y8, y9⟩ := hxy.2.ten
        clear hxy
        go_wp2_with fail
        refine HS.out.mono ?_
        rintro e w6 ⟨rfl, hb6⟩
        clear x0 x1 x2 x3 x4 x5 x6 x7 x8 x9 y0 y1 y2 y3 y4 y5 y6 y7 y8 y9
        have HB6 := hid (below_on (below_on hb.out HBV.out) hb6)
        clear hb6
        cases sv
        · have hrf : r = false := by
            rw [← HR.out, decide_eq_false_iff_not]
            intro e
            have h1 := HG.out.1
            rw [e, HG.out.2] at h1
            have h2 : y.act = x.act := by simpa using h1
            have := HIF.out.2 h2.symm
            cases this
          go_wp2_with fail
          refine bodyPost_ret (v := .bool false) (by simp [results, Tryz.results74, go_sem]) rfl ⟨by rw [hrf], HB6.out⟩
        · have hxy := HIF.out.1 rfl
          have hn2 : (l.map Ent12.act).take (i + 1) = (m.map Ent12.act).take (i + 1) := by
            rw [List.take_add_one, List.take_add_one, hn.out, HG.out.1, HG.out.2, hxy]
          have HN2 := hid hn2
          clear hxy hn2
          go_wp2_with fail
          go_roundg (N - (i + 1))
          case rel => exact ⟨i + 1, by go_num, by omega, by omega, HN2.out, HB6.out⟩
          case measure => omega
      · have hge : (N : Int) ≤ (i : Int) := by omega
        have hrt : r = true := by
          rw [← HR.out, decide_eq_true_iff]
          have h := hn.out
          rw [List.take_of_length_le (by rw [List.length_map]; have := HN.out.1; omega), List.take_of_length_le (by rw [List.length_map]; have := HN.out.2; omega)] at h
          exact h
        have HRT := hid hrt
        clear hrt
        go_wp2_with fail
        exact bodyPost_ret (v := .bool true) (by simp [results, Tryz.results74, go_sem]) rfl ⟨by rw [HRT.out], hb.out⟩
  · have hne : ((l.length : Int) != (m.length : Int)) = true := by simp; omega
    have hrf : r = false := by
      rw [← HR.out, decide_eq_false_iff_not]
      intro e
      have := congrArg List.length e
      rw [List.length_map, List.length_map] at this
      exact hlen this
    have HRF := hid hrf
    clear hrf hlen
    go_enter Tryz.func74, Tryz.ntmps74
    go_wp2_with fail
    exact bodyPost_ret (v := .bool false) (by simp [results, Tryz.results74, go_sem]) rfl ⟨by rw [HRF.out], Below.refl _ _⟩
theorem same13_any (l m : List Ent12) (a b : Option Addr) (c d : Nat) (w : World) (hI : Acts w a l) (hJ : Acts w b m) (aI : AllIn w l) (aJ : AllIn w m) (hll : l.length ≤ 1000) (hlm : m.length ≤ 1000) :
    Calls Tryz.prog 41 #[.slice a l.length c, .slice b m.length d] w fun e w' => e = .returned (.bool (decide (l.map Ent12.act = m.map Ent12.act))) ∧ Below w.heap.size w w' := by
  have H := hid (equal13_any l m a b c d w hI hJ aI aJ hll hlm)
  clear hI hJ aI aJ
  go_enter Tryz.func41, Tryz.ntmps41
  go_wp2_with fail
  refine H.out.mono ?_
  rintro e w1 ⟨rfl, hb⟩
  go_wp2_with fail
  go_ret
  exact ⟨rfl, hb⟩
end Go.Proofs.YtdjlbejhphbcoaaGreat
namespace Go.Proofs.YtdjlbejhphbcoaaGreat
open Go.RowKit
set_option linter.unusedVariables false
set_option maxRecDepth 100000

theorem wp_make_box13 {P : Program} {t e : TypeId} {z : Value} {size bytes : Nat} {w : World} {ops : Array Oper} {rest : List Oper} {o : Oper} {a : Act} {Q : Exit → Act → World → Prop} (hgd : o.guard = none) (x y : Operand)
    (ho : o.op = .makeSlice t x y) (E : ElemN P t e z size bytes) {kl kc : IntKind} {L C : Int} (hx : a.eval x = .int kl L) (hy : a.eval y = .int kc C) {n : Nat} (hL : L = n) (hC : C = n)
    (hbytes : bytes * n ≤ 281474976710656) (h63 : n ≤ 281474976710656)
    (h : ∀ w' R, Hid (R.length = n * size) → BoxL w' w.heap.size R → Below w.heap.size w w' → wpList P ops Q rest (a.put o.dst (.slice (some ⟨w.heap.size, 0, none⟩) n n)) w') : wpList P ops Q (o :: rest) a w := by
  obtain ⟨i, hi, hz, hs, hb⟩ : ∃ i, P.info? e = some i ∧ i.zero = some z ∧ i.size = size ∧ i.bytes = bytes := by
    have := E.info
    cases hi : P.info? e with
    | none => rw [hi] at this; simp at this
    | some i => rw [hi] at this; simp at this; exact ⟨i, rfl, this⟩
  subst hL
  subst hC
  subst hb
  refine wpList_plain hgd fun K hK => ?_
  have hb' : (i.bytes : Int) * (n : Int) ≤ 281474976710656 := by
    have h : ((i.bytes * n : Nat) : Int) ≤ 281474976710656 := by omega
    rwa [Int.natCast_mul] at h
  have hr := run_make (P := P) w t e i z E.under hi hz kl kc n n (by omega) (by omega) hb' (by omega)
  simp only [Int.toNat_natCast, hs] at hr
  unfold Oper.wp
  simp [execOp, ho, hx, hy, hr, Result.andThen]
  refine hK _ _ (h _ (madeCells z.cells (n * size)).toList (by show _ = _; rw [Array.length_toList, size_madeCells]) ?_ (below_alloc _ _))
  have := BoxL.new w (madeCells z.cells (n * size)).toList e
  simpa using this
theorem BoxL.put10 {w : World} {b : Nat} {P R : List Value} {u0 u1 u2 u3 u4 u5 u6 u7 u8 u9 : Value} (h : BoxL w b (P ++ u0 :: u1 :: u2 :: u3 :: u4 :: u5 :: u6 :: u7 :: u8 :: u9 :: R)) {i : Nat} (hi : P.length = i) (v0 v1 v2 v3 v4 v5 v6 v7 v8 v9 : Value) :
    BoxL ((((((((((w.setCell ⟨b, i, none⟩ v0).setCell ⟨b, i + 1, none⟩ v1).setCell ⟨b, i + 2, none⟩ v2).setCell ⟨b, i + 3, none⟩ v3).setCell ⟨b, i + 4, none⟩ v4).setCell ⟨b, i + 5, none⟩ v5).setCell ⟨b, i + 6, none⟩ v6).setCell ⟨b, i + 7, none⟩ v7).setCell ⟨b, i + 8, none⟩ v8).setCell ⟨b, i + 9, none⟩ v9) b (P ++ v0 :: v1 :: v2 :: v3 :: v4 :: v5 :: v6 :: v7 :: v8 :: v9 :: R) := by
  subst hi
  have := ((((((((((h.set P.length v0 (by simp)).set (P.length + 1) v1 (by simp)).set (P.length + 2) v2 (by simp)).set (P.length + 3) v3 (by simp)).set (P.length + 4) v4 (by simp)).set (P.length + 5) v5 (by simp)).set (P.length + 6) v6 (by simp)).set (P.length + 7) v7 (by simp)).set (P.length + 8) v8 (by simp)).set (P.length + 9) v9 (by simp))
  simpa [List.set_append_right] using this
theorem ten_of {R : List Value} {k : Nat} (h : R.length = (k + 1) * 10) : ∃ u0 u1 u2 u3 u4 u5 u6 u7 u8 u9 R', R = u0 :: u1 :: u2 :: u3 :: u4 :: u5 :: u6 :: u7 :: u8 :: u9 :: R' ∧ R'.length = k * 10 := by
  match R, h with
  | u0 :: u1 :: u2 :: u3 :: u4 :: u5 :: u6 :: u7 :: u8 :: u9 :: R', h => exact ⟨u0, u1, u2, u3, u4, u5, u6, u7, u8, u9, R', rfl, by simp at h; omega⟩
  | [], h => simp at h
  | [_], h => simp at h; omega
  | [_, _], h => simp at h; omega
  | [_, _, _], h => simp at h; omega
  | [_, _, _, _], h => simp at h; omega
  | [_, _, _, _, _], h => simp at h; omega
  | [_, _, _, _, _, _], h => simp at h; omega
  | [_, _, _, _, _, _, _], h => simp at h; omega
  | [_, _, _, _, _, _, _, _], h => simp at h; omega
  | [_, _, _, _, _, _, _, _, _], h => simp at h; omega
/-- a copy's bytes: in blocks behind g -/
def Apart13 (g : Nat) (h : Ent12) : Prop := ∃ p q s, h.va = some ⟨p, 0, none⟩ ∧ h.ma = some ⟨q, 0, none⟩ ∧ h.da = some ⟨s, 0, none⟩ ∧ g < p ∧ g < q ∧ g < s
theorem Apart13.far {g : Nat} {h : Ent12} (k : Apart13 g h) : FarA (fun j => some g = some j) h := by
  obtain ⟨p, q, s, e1, e2, e3, g1, g2, g3⟩ := k
  exact ⟨fun _ x hx e => by rw [e1] at hx; cases hx; simp at e; omega, fun _ x hx e => by rw [e2] at hx; cases hx; simp at e; omega, fun _ x hx e => by rw [e3] at hx; cases hx; simp at e; omega⟩
/-- what copying a list comes to -/
def CopyPost13 (w : World) (l : List Ent12) (e : Ending) (w' : World) : Prop :=
  ∃ M : List Ent12, e = .returned (.slice (some ⟨w.heap.size, 0, none⟩) l.length l.length) ∧ M.length = l.length ∧ M.map Ent12.act = l.map Ent12.act ∧ Acts w' (some ⟨w.heap.size, 0, none⟩) M ∧ AllIn w' M ∧ Below w.heap.size w w'
set_option maxHeartbeats 4000000 in
theorem copy13_any (w : World) (a : Option Addr) (c : Nat) (l : List Ent12) (hL : Acts w a l) (hI : AllIn w l) (hll : l.length ≤ 1000) :
    Calls Tryz.prog 40 #[.slice a l.length c] w (CopyPost13 w l) := by
  obtain ⟨N, hN⟩ : ∃ N, N = l.length := ⟨_, rfl⟩
  have hl' : N ≤ 1000 := by omega
  have HN := hid hN
  have HO := hid hL
  have HI := hid hI
  unfold CopyPost13
  rw [← hN]
  clear hN hL hI hll
  go_enter Tryz.func40, Tryz.ntmps40
  go_wp2_with (at_make; refine wp_make_box13 rfl _ _ rfl elemAct rfl rfl rfl rfl (by omega) (by omega) ?_; intro w1 R hR hB hb1)
  have HB1 := hid hb1
  go_loopg [11] N (fun kx s11 wr => ∃ (i : Nat) (D : List Ent12) (R : List Value), s11 = .int .i64 i ∧ i ≤ N ∧ N - i ≤ kx ∧ Hid (D.length = i) ∧ Hid (R.length = (N - i) * 10) ∧ Hid (BoxL wr w.heap.size (actCells D ++ R)) ∧ Hid (Below w.heap.size w wr) ∧ Hid (D.map Ent12.act = (l.take i).map Ent12.act) ∧ Hid (∀ h ∈ D, ActIn wr h ∧ Apart13 w.heap.size h))
  case atStart => exact ⟨0, [], R, rfl, by omega, by omega, rfl, hR, hB, hb1, rfl, (by simp [Hid])⟩
  case round =>
    clear hB hb1
    obtain ⟨i, D, R, rfl, hi, hkx, lD, lR, hB, hb, hD, hF⟩ := hrel
    by_cases hlt : i < N
    · have hltz : (i : Int) < (N : Int) := by omega
      have hn := HN.out
      have hil : i < l.length := by omega
      obtain ⟨b, off, rfl, -⟩ := (HO.out.below hb.out) i hil
      obtain ⟨c0, c1, c2, c3, c4, c5, c6, c7, c8, c9⟩ := (HO.out.below hb.out).ten i hil
      have hEin := (HI.out l[i] (List.getElem_mem hil)).below hb.out
      generalize hh : l[i] = h at c0 c1 c2 c3 c4 c5 c6 c7 c8 c9 hEin
      have HH := hid hh
      have HE := hid hEin
      obtain ⟨W, hW, hbW, hbx0⟩ := act_box wr h.T h.A h.B h.o.C h.o.F h.o.H h.o.X h.va h.o.v.length h.vc h.ma h.o.m.length h.mc h.da h.d.length h.dc
      have HW := hid hW
      have HBW := hid hbW
      have HBX0 := hid hbx0
      have hgn : w.heap.size < wr.heap.size := hB.out.lt
      have HCP := hid (actCopy_any h W (hEin.below hbW))
      clear hn hh hEin hW hbW hbx0
      go_upto_region 5 with fail
      rw [HW.out]
      clear c0 c1 c2 c3 c4 c5 c6 c7 c8 c9
      obtain ⟨d0, d1, d2, d3, d4, d5, d6, d7, d8, d9⟩ := HBX0.out.ten
      go_wp2_with fail
      refine HCP.out.mono ?_
      rintro e w2 ⟨p, q, s, rfl, hb2, hf1, hf2, hf3, hpq, hWp, hs0⟩
      have HB2 := hid hb2
      have HF1 := hid hf1
      have HF2 := hid hf2
      have HF3 := hid hf3
      have HP := hid (And.intro hpq (And.intro hWp hs0))
      have hbx := (hB.out.below HBW.out).below hb2
      obtain ⟨k, hk⟩ : ∃ k, N - i = k + 1 := ⟨N - i - 1, by omega⟩
      obtain ⟨u0, u1, u2, u3, u4, u5, u6, u7, u8, u9, R', rfl, hR'⟩ := ten_of (R := R) (k := k) (by rw [lR.out, hk])
      have hc : (actCells D).length = i * 10 := by rw [actCells_length, lD.out]
      have k0 := hbx.cell (i * 10) u0 (by rw [List.getElem?_append_right (by omega)]; simp [hc])
      have k1 := hbx.cell (i * 10 + 1) u1 (by rw [List.getElem?_append_right (by omega)]; simp [hc])
      have k2 := hbx.cell (i * 10 + 2) u2 (by rw [List.getElem?_append_right (by omega)]; simp [hc])
      have k3 := hbx.cell (i * 10 + 3) u3 (by rw [List.getElem?_append_right (by omega)]; simp [hc])
      have k4 := hbx.cell (i * 10 + 4) u4 (by rw [List.getElem?_append_right (by omega)]; simp [hc])
      have k5 := hbx.cell (i * 10 + 5) u5 (by rw [List.getElem?_append_right (by omega)]; simp [hc])
      have k6 := hbx.cell (i * 10 + 6) u6 (by rw [List.getElem?_append_right (by omega)]; simp [hc])
      have k7 := hbx.cell (i * 10 + 7) u7 (by rw [List.getElem?_append_right (by omega)]; simp [hc])
      have k8 := hbx.cell (i * 10 + 8) u8 (by rw [List.getElem?_append_right (by omega)]; simp [hc])
      have k9 := hbx.cell (i * 10 + 9) u9 (by rw [List.getElem?_append_right (by omega)]; simp [hc])
      have z := hbx.free
      have HBX := hid hbx
      have HR' := hid hR'
      have HC := hid hc
      have HK := hid hk
      clear hbx hR' hc hk hb2 hf1 hf2 hf3 hpq hWp hs0 d0 d1 d2 d3 d4 d5 d6 d7 d8 d9
      go_wp2_with fail
      have hB3 := HBX.out.put10 HC.out (.int .i64 h.T) (.int .u64 h.A) (.int .u64 h.B) (.int .i64 h.o.C) (.int .i64 h.o.F) (.bool h.o.H) (.int .u64 h.o.X) (.slice (some ⟨p, 0, none⟩) h.o.v.length h.o.v.length) (.slice (some ⟨q, 0, none⟩) h.o.m.length h.o.m.length) (.slice (some ⟨s, 0, none⟩) h.d.length h.d.length)
      have hby := (grownBy_then (grownBy_then (grownBy_then (grownBy_then (grownBy_then (grownBy_then (grownBy_then (grownBy_then (grownBy_then (by_setCell w2 w.heap.size (i * 10) (.int .i64 h.T)) (by_setCell _ w.heap.size (i * 10 + 1) (.int .u64 h.A))) (by_setCell _ w.heap.size (i * 10 + 2) (.int .u64 h.B))) (by_setCell _ w.heap.size (i * 10 + 3) (.int .i64 h.o.C))) (by_setCell _ w.heap.size (i * 10 + 4) (.int .i64 h.o.F))) (by_setCell _ w.heap.size (i * 10 + 5) (.bool h.o.H))) (by_setCell _ w.heap.size (i * 10 + 6) (.int .u64 h.o.X))) (by_setCell _ w.heap.size (i * 10 + 7) (.slice (some ⟨p, 0, none⟩) h.o.v.length h.o.v.length))) (by_setCell _ w.heap.size (i * 10 + 8) (.slice (some ⟨q, 0, none⟩) h.o.m.length h.o.m.length))) (by_setCell _ w.heap.size (i * 10 + 9) (.slice (some ⟨s, 0, none⟩) h.d.length h.d.length)))
      generalize ((((((((((w2.setCell ⟨w.heap.size, i * 10, none⟩ (.int .i64 h.T)).setCell ⟨w.heap.size, i * 10 + 1, none⟩ (.int .u64 h.A)).setCell ⟨w.heap.size, i * 10 + 2, none⟩ (.int .u64 h.B)).setCell ⟨w.heap.size, i * 10 + 3, none⟩ (.int .i64 h.o.C)).setCell ⟨w.heap.size, i * 10 + 4, none⟩ (.int .i64 h.o.F)).setCell ⟨w.heap.size, i * 10 + 5, none⟩ (.bool h.o.H)).setCell ⟨w.heap.size, i * 10 + 6, none⟩ (.int .u64 h.o.X)).setCell ⟨w.heap.size, i * 10 + 7, none⟩ (.slice (some ⟨p, 0, none⟩) h.o.v.length h.o.v.length)).setCell ⟨w.heap.size, i * 10 + 8, none⟩ (.slice (some ⟨q, 0, none⟩) h.o.m.length h.o.m.length)).setCell ⟨w.heap.size, i * 10 + 9, none⟩ (.slice (some ⟨s, 0, none⟩) h.d.length h.d.length)) = w3 at hB3 hby ⊢
      go_roundg (N - (i + 1))
      case measure => omega
      case rel =>
        have hw2 : Below w.heap.size w w2 := below_on (below_on hb.out HBW.out) HB2.out
        have hWs : wr.heap.size ≤ W.heap.size := HBW.out.size
        obtain ⟨hpq, hWp, hs0⟩ := HP.out
        have hap : Apart13 w.heap.size ⟨h.T, h.A, h.B, h.o, some ⟨p, 0, none⟩, h.o.v.length, some ⟨q, 0, none⟩, h.o.m.length, h.d, some ⟨s, 0, none⟩, h.d.length⟩ := ⟨p, q, s, rfl, rfl, rfl, by omega, by omega, by omega⟩
        refine ⟨i + 1, D ++ [⟨h.T, h.A, h.B, h.o, some ⟨p, 0, none⟩, h.o.v.length, some ⟨q, 0, none⟩, h.o.m.length, h.d, some ⟨s, 0, none⟩, h.d.length⟩], R', by first | rfl | go_num, by omega, Nat.le_refl _, ?_, ?_, ?_, hw2.grown hby hw2.size (by intro k hk; simp at hk; omega), ?_, ?_⟩
        · show _ = _; rw [List.length_append, lD.out]; rfl
        · show _ = _; rw [HR'.out]; have := HK.out; omega
        · show BoxL _ _ _
          rw [actCells_snoc]
          simpa [Ent12.cs] using hB3
        · show _ = _
          rw [List.map_append, hD.out, List.take_add_one, List.getElem?_eq_getElem hil, HH.out]
          simp [Ent12.act]
        · show ∀ _, _
          intro h' hm
          rcases List.mem_append.1 hm with hm | hm
          · obtain ⟨e1, e2⟩ := hF.out h' hm
            exact ⟨((e1.below HBW.out).below HB2.out).far hby e2.far, e2⟩
          · obtain rfl := List.mem_singleton.1 hm
            have hx := HE.out
            refine ⟨ActIn.far (w := w2) ⟨hx.t, hx.a, hx.b, hx.c, hx.f, hx.x, hx.lv, hx.lm, hx.ld, fresh_ints8 HF1.out, fresh_ints8 HF2.out, fresh_ints8 HF3.out, hx.ov, hx.om, hx.od, Nat.le_refl _⟩ hby hap.far, hap⟩
    · have hltz : (N : Int) ≤ (i : Int) := by omega
      obtain rfl : i = N := by omega
      have hR0 : R = [] := List.eq_nil_of_length_eq_zero (by rw [lR.out]; omega)
      have hBD : BoxL wr w.heap.size (actCells D) := by have := hB.out; rw [hR0, List.append_nil] at this; exact this
      have HBD := hid hBD
      clear hBD hR0
      go_wp2_with fail
      refine bodyPost_ret (v := .slice (some ⟨w.heap.size, 0, none⟩) i i) (by simp [results, Tryz.results40, go_sem]) rfl ⟨D, rfl, lD.out, ?_, acts_box HBD.out, fun x hx => (hF.out x hx).1, hb.out⟩
      rw [hD.out, List.take_of_length_le (by have := HN.out; omega)]
end Go.Proofs.YtdjlbejhphbcoaaGreat
namespace Go.Proofs.YtdjlbejhphbcoaaGreat
open Go.RowKit
set_option linter.unusedVariables false
set_option maxRecDepth 100000

def few12 (g : Ent12) : Bool := decide (g.o.v.length ≤ 300 ∧ g.o.m.length ≤ 300) && decide (g.d.length ≤ 500)
def few13 (l : List Ent12) : Bool := l.all few12 && decide (l.length ≤ 80)
theorem few13_in {w : World} {l : List Ent12} (h : few13 l = true) (ha : ∀ g ∈ l, ActArg w g) : AllIn w l ∧ l.length ≤ 80 ∧ ∀ g ∈ l, g.o.v.length ≤ 300 ∧ g.o.m.length ≤ 300 ∧ g.d.length ≤ 500 := by
  unfold few13 at h
  simp only [Bool.and_eq_true, decide_eq_true_eq, List.all_eq_true] at h
  exact ⟨fun g hg => ((ha g hg).few (h.1 g hg)).1, h.2, fun g hg => ((ha g hg).few (h.1 g hg)).2⟩
set_option maxHeartbeats 4000000 in
theorem few13_any (l : List Ent12) (a : Option Addr) (c : Nat) (w : World) (hL : Acts w a l) (hll : l.length ≤ 9223372036854775807) :
    Calls Tryz.prog 19 #[.slice a l.length c] w fun e w' => e = .returned (.bool (few13 l)) ∧ Below w.heap.size w w' := by
  obtain ⟨r, hr⟩ : ∃ r, few13 l = r := ⟨_, rfl⟩
  rw [hr]
  have HR := hid hr
  have HL := hid hL
  obtain ⟨N, hN⟩ : ∃ N, N = l.length := ⟨_, rfl⟩
  have HN := hid hN
  rw [← hN] at hll ⊢
  clear hr hL hN
  go_enter Tryz.func19, Tryz.ntmps19
  go_wp2_with fail
  go_loopg [3] N (fun kx s3 wr => ∃ (i : Nat), s3 = .int .i64 i ∧ i ≤ N ∧ N - i ≤ kx ∧ Hid ((l.take i).all few12 = true) ∧ Hid (Below w.heap.size w wr))
  case atStart => exact ⟨0, rfl, by omega, by omega, rfl, Below.refl _ _⟩
  case round =>
    obtain ⟨i, rfl, hi, hkx, hn, hb⟩ := hrel
    by_cases hlt : i < N
    · have hltz : (i : Int) < (N : Int) := by omega
      have hil : i < l.length := by have := HN.out; omega
      obtain ⟨b, off, rfl, -⟩ := HL.out i hil
      obtain ⟨c0, c1, c2, c3, c4, c5, c6, c7, c8, c9⟩ := (HL.out.below hb.out).ten i hil
      have hg : l[i]? = some l[i] := List.getElem?_eq_getElem hil
      generalize l[i] = g at c0 c1 c2 c3 c4 c5 c6 c7 c8 c9 hg
      have HF := hid (actFew_any g.T g.A g.B g.o.C g.o.F g.o.H g.o.X g.va g.o.v.length g.vc g.ma g.o.m.length g.mc g.da g.d.length g.dc wr)
      obtain ⟨f, hf⟩ : ∃ f, (decide (g.o.v.length ≤ 300 ∧ g.o.m.length ≤ 300) && decide (g.d.length ≤ 500)) = f := ⟨_, rfl⟩
      rw [hf] at HF
      have HFE : Hid (few12 g = f) := hf
      have HG := hid hg
      clear hf hg
      go_wp2_with fail
      refine HF.out.mono ?_
      rintro e w2 ⟨rfl, hb2⟩
      have HB2 := hid (below_on hb.out hb2)
      clear hb2 c0 c1 c2 c3 c4 c5 c6 c7 c8 c9
      cases f
      · have hrf : r = false := by
          rw [← HR.out]
          unfold few13
          have : l.all few12 = false := List.all_eq_false.2 ⟨g, List.mem_of_getElem? HG.out, by rw [HFE.out]; simp⟩
          rw [this]; rfl
        go_wp2_with fail
        refine bodyPost_ret (v := .bool false) (by simp [results, Tryz.results19, go_sem]) rfl ⟨by rw [hrf], HB2.out⟩
      · have hn2 : (l.take (i + 1)).all few12 = true := by
          rw [List.take_add_one, HG.out, List.all_append, hn.out]
          simp [HFE.out]
        have HN2 := hid hn2
        clear hn2
        go_wp2_with fail
        go_roundg (N - (i + 1))
        case rel => exact ⟨i + 1, by go_num, by omega, by omega, HN2.out, HB2.out⟩
        case measure => omega
    · have hge : (N : Int) ≤ (i : Int) := by omega
      have hrt : r = decide (N ≤ 80) := by
        have h := hn.out
        rw [List.take_of_length_le (by have := HN.out; omega)] at h
        rw [← HR.out, HN.out]
        unfold few13
        rw [h, Bool.true_and]
      have hre : decide ((N : Int) ≤ 80) = r := by
        rw [hrt]
        exact decide_eq_decide.2 (by omega)
      have HRE := hid hre
      clear hrt hre
      go_wp2_with fail
      exact bodyPost_ret (v := .bool (decide ((N : Int) ≤ 80))) (by simp [results, Tryz.results19, go_sem]) rfl ⟨by rw [HRE.out], hb.out⟩
end Go.Proofs.YtdjlbejhphbcoaaGreat
namespace Go.Proofs.YtdjlbejhphbcoaaGreat
open Go.RowKit
set_option linter.unusedVariables false
set_option maxRecDepth 100000

set_option maxHeartbeats 8000000 in
theorem ActsBack_main (l m : List Ent12) (la ma : Option Addr) (lc mc : Nat) (b : List Int) (ba : Option Addr) (bc : Nat) (w : World) (hL : Acts w la l) (hM : Acts w ma m) (aL : AllIn w l) (aM : AllIn w m) (hll : l.length ≤ 80) (hlm : m.length ≤ 80) (hfl : few13 l = true) (hfm : few13 m = true) (hH : Holds w ba bc b) (hbl : b.length ≤ 1500) :
    Calls Tryz.prog 7 #[.slice la l.length lc, .slice ma m.length mc, .slice ba b.length bc] w fun e w' => e = .returned (.bool true) ∧ Below w.heap.size w w' := by
  have F1 := few13_any l la lc w hL (by omega)
  rw [hfl] at F1
  have F1 := hid F1
  have F2 := fun V (hV : Below w.heap.size w V) => few13_any m ma mc V (hM.below hV) (by omega)
  rw [hfm] at F2
  have F2 := hid F2
  have HL := hid (show ListA w la l from ⟨hL, aL⟩)
  have HM := hid (show ListA w ma m from ⟨hM, aM⟩)
  have HH := hid hH
  have E1 := hid (fun V (hV : Below w.heap.size w V) => encode13_any V la lc l (hL.below hV) (aL.below hV) (by omega))
  have E2 := hid (fun V (hV : Below w.heap.size w V) => encode13_any V ma mc m (hM.below hV) (aM.below hV) (by omega))
  have hbd : decide ((1500 : Int) < (b.length : Int)) = false := decide_eq_false (by omega)
  obtain ⟨nl, hnl⟩ : ∃ n, n = l.length := ⟨_, rfl⟩
  obtain ⟨nm, hnm⟩ : ∃ n, n = m.length := ⟨_, rfl⟩
  have HNL := hid (And.intro hnl hnm)
  rw [← hnl] at F1 E1 hll ⊢
  rw [← hnm] at F2 E2 hlm ⊢
  obtain ⟨nb, hnb⟩ : ∃ n, n = b.length := ⟨_, rfl⟩
  have HNB := hid hnb
  rw [← hnb] at hbd hbl ⊢
  clear hL hM aL aM hfl hfm hH hnl hnm hnb
  go_enter Tryz.func7, Tryz.ntmps7
  go_wp2_with fail
  refine F1.out.mono ?_
  rintro e w1 ⟨rfl, hb1⟩
  have HB1 := hid hb1
  clear hb1
  go_wp2_with fail
  refine (F2.out _ HB1.out).mono ?_
  rintro e w2 ⟨rfl, hb2⟩
  have HB2 := hid (below_on HB1.out hb2)
  clear hb2
  go_wp2_with fail
  refine (E1.out _ HB2.out).mono ?_
  intro e w3 h3
  obtain ⟨X, xa, xc, q1, rfl, hb3, hI3, hq1⟩ := enc_uni13 h3
  have HB3 := hid (below_on HB2.out hb3)
  have HI3 := hid hI3
  have HQ1 := hid hq1
  clear hb3 hI3 hq1 h3
  go_wp2_with fail
  refine (E2.out _ HB3.out).mono ?_
  intro e w4 h4
  obtain ⟨Y, ya, yc, q2, rfl, hb4, hI4, hq2⟩ := enc_uni13 h4
  have HB4 := hid (below_on HB3.out hb4)
  have HI4 := hid (And.intro (HI3.out.below hb4) hI4)
  have HQ2 := hid hq2
  clear hb4 hI4 hq2 h4 HI3 HB1 HB2 HB3 E1 E2 F1 F2
  go_upto_region 5 with fail
  go_cut [63] (fun t63 wx => ∃ C, t63 = .bool C ∧ Hid (C = true → enc13 (l.map Ent12.act) = .ok X ∧ enc13 (m.map Ent12.act) = .ok Y ∧ nl + nm ≤ 64 ∧ X.length + Y.length ≤ 65528) ∧ w4 = wx)
  case first =>
    rcases HQ1.out with ⟨he1, rfl⟩ | ⟨he1, rfl, rfl⟩
    case inr =>
      clear he1
      go_wp2_with fail
      go_meet
      exact ⟨false, rfl, (fun e => by cases e), rfl⟩
    rcases HQ2.out with ⟨he2, rfl⟩ | ⟨he2, rfl, rfl⟩
    case inr =>
      clear he1 he2
      go_wp2_with fail
      go_meet
      exact ⟨false, rfl, (fun e => by cases e), rfl⟩
    have HE := hid (And.intro he1 he2)
    clear he1 he2
    by_cases h64 : nl + nm ≤ 64
    case neg =>
      have hd1 : decide ((nl : Int) + (nm : Int) ≤ 64) = false := decide_eq_false (by omega)
      go_wp2_with fail
      go_meet
      exact ⟨false, rfl, (fun e => by cases e), rfl⟩
    have hd1 : decide ((nl : Int) + (nm : Int) ≤ 64) = true := decide_eq_true (by omega)
    have hx1 := (enc_raw13 HE.out.1).2.2
    have hx2 := (enc_raw13 HE.out.2).2.2
    by_cases hsz : X.length + Y.length ≤ 65528
    case neg =>
      have hd2 : decide ((X.length : Int) + (Y.length : Int) ≤ 65528) = false := decide_eq_false (by omega)
      go_wp2_with fail
      go_meet
      exact ⟨false, rfl, (fun e => by cases e), rfl⟩
    have hd2 : decide ((X.length : Int) + (Y.length : Int) ≤ 65528) = true := decide_eq_true (by omega)
    go_wp2_with fail
    go_meet
    exact ⟨true, rfl, (fun _ => ⟨HE.out.1, HE.out.2, h64, hsz⟩), rfl⟩
  obtain ⟨C, rfl, hC, rfl⟩ := hcut
  go_upto_if 63 with fail
  go_cut [6] (fun t6 wx => t6 = .bool false ∧ Hid (Below w.heap.size w wx))
  case first =>
    cases C
    · go_wp2_with fail
      go_meet
      exact ⟨rfl, HB4.out⟩
    obtain ⟨he1, he2, h64, hsz⟩ := hC.out rfl
    obtain ⟨hr1, h641, hx1⟩ := enc_raw13 he1
    obtain ⟨hr2, h642, hx2⟩ := enc_raw13 he2
    have HE := hid (And.intro he1 he2)
    have HRAW := hid (And.intro hr1 hr2)
    clear he1 he2 hr1 hr2 h641 h642
    obtain ⟨Z, hZ⟩ : ∃ Z, X ++ Y = Z := ⟨_, rfl⟩
    have hZL : Z.length = X.length + Y.length := by rw [← hZ, List.length_append]
    have HZ := hid hZ
    have HZL := hid (show Z.length ≤ 65528 by omega)
    have HZO : Hid (Octets Z) := by
      show Octets Z
      rw [← hZ]
      exact (raw_octets13 HRAW.out.1 (all_octets13 HL.out.all)).append (raw_octets13 HRAW.out.2 (all_octets13 HM.out.all))
    have HDZ : Hid (dec13 Z = .ok ((l ++ m).map Ent12.act)) := by
      show _ = _
      rw [← hZ, List.map_append]
      exact enc13_dec HE.out.1 HE.out.2 (by rw [List.length_map, List.length_map, ← HNL.out.1, ← HNL.out.2]; exact h64) (by omega) (all_num13 HL.out.all) (all_num13 HM.out.all)
    have HSZ : Hid (size13 (l.map Ent12.act) = X.length) := (size_ok13 HE.out.1).1
    have HSI := hid (fun V (hV : Below w.heap.size w V) => sizeof13_any V la lc l (HL.out.acts.below hV) (HL.out.all.below hV) (by have := HNL.out.1; omega))
    rw [← HNL.out.1, HSZ.out] at HSI
    have HF0 := hid (own_emptyI w4 5 .u8)
    have hIm := HI4.out.1.below (below_alloc w4 (.cells #[] 5))
    have hxl : X.length ≤ 65528 := hx1
    clear hZ hZL
    go_wp2_with (first
      | (at_builtin; refine wp_app_ints rfl (.tmp 65) (.tmp 66) rfl elemU8 rfl HF0.out rfl rfl hIm (List.nil_append X) ?_ ?_ ?_; omega; omega; intro a5 c5 w5 hl5 hc5 hI5 hg5; have HF5 := hid hg5.first; have HIB5 := hid (HI4.out.2.below HF5.out.bel); clear hI5 hg5)
      | (at_builtin; refine wp_app_ints rfl (.tmp 67) (.tmp 68) rfl elemU8 rfl HF5.out.own rfl rfl HIB5.out HZ.out ?_ ?_ ?_; (have := HZL.out; omega); (have := HZL.out; omega); intro a6 c6 w6 hl6 hc6 hI6 hg6; have HF6 := hid (HF5.out.step hg6); have HI6 := hid hI6; clear hI6 hg6)
      | fail)
    have HD6 := hid (decode13_any w6 a6 c6 Z ⟨hl6, hc6, HI6.out, HZO.out, fun h0 => by
      rcases HF6.out.own.2 with ⟨e, _⟩ | ⟨g, cap, cur, e, _⟩
      · simp at e; omega
      · simp at e; exact ⟨g, 0, e.1⟩⟩)
    clear hIm
    refine HD6.out.mono ?_
    intro e w7 h7
    obtain ⟨D, va, vc, q7, rfl, hb7, hLD, hD64, hq7⟩ := dec_uni13 h7
    rw [HDZ.out] at hq7
    rcases hq7 with ⟨hdd, rfl⟩ | ⟨hdd, _⟩
    case inr => cases hdd
    have hDD : (l ++ m).map Ent12.act = D.map Ent12.act := by injection hdd
    have HDD := hid hDD
    have HB7 := hid (below_on (below_on HB4.out HF6.out.bel) hb7)
    have HLD := hid hLD
    have hDn : D.length = nl + nm := by
      have := congrArg List.length hDD
      rw [List.length_map, List.length_map, List.length_append, ← HNL.out.1, ← HNL.out.2] at this
      omega
    have HDn := hid hDn
    have HA0 := hid (FreshA.empty w7)
    have hbA : Below w.heap.size w (w7.alloc (.cells #[] 27)) := below_on HB7.out (below_alloc _ _)
    have HLL := hid (HL.out.acts.below hbA)
    have HMM := hid (fun V hV => HM.out.acts.below (below_on HB7.out (hV : Below w7.heap.size w7 V)))
    clear h7 hb7 hLD hdd hDD hbA hDn
    go_wp2_with (first
      | (at_builtin; refine wp_app_acts_w (by first | rfl | (simp [Region.wanted, yielded])) (.tmp 77) (.tmp 78) rfl HA0.out rfl rfl HNL.out.1.symm HLL.out (by omega) (Nat.zero_add _) ?_; intro a8 c8 w8 hg8; have HF8 := hid hg8; have HMM8 := hid (HMM.out _ hg8.bel); clear hg8)
      | (at_builtin; refine wp_app_acts_w (by first | rfl | (simp [Region.wanted, yielded])) (.tmp 79) (.tmp 80) rfl HF8.out rfl rfl HNL.out.2.symm HMM8.out (by omega) rfl ?_; intro a9 c9 w9 hg9; have HF9 := hid hg9; clear hg9)
      | fail)
    have hAp : AllIn w (l ++ m) := HL.out.all.append HM.out.all
    have hlist := HF9.out.list
    have hB9 : Below w.heap.size w w9 := below_on HB7.out HF9.out.bel
    have hBD : Below w7.heap.size w7 w9 := HF9.out.bel
    have hlm2 : (l ++ m).length = nl + nm := by rw [List.length_append, ← HNL.out.1, ← HNL.out.2]
    have HSM := hid (refSame13_any D (l ++ m) va a9 vc c9 w9 (HLD.out.acts.below hBD) hlist.2.2.2 (HLD.out.all.below hBD) (hAp.below hB9) (by omega) (by omega))
    rw [decide_eq_true (show D.map Ent12.act = (l ++ m).map Ent12.act from HDD.out.symm), hlm2] at HSM
    have HB9 := hid hB9
    clear hAp hlist hB9 hBD hlm2
    with_reducible refine HSM.out.mono ?_
    rintro e w10 ⟨rfl, hb10⟩
    have HB10 := hid (below_on HB9.out hb10)
    clear hb10
    go_wp2_with fail
    refine (HSI.out _ HB10.out).mono ?_
    rintro e w11 ⟨rfl, hb11⟩
    have HB11 := hid (below_on HB10.out hb11)
    clear hb11
    go_wp2_with fail
    go_meet
    exact ⟨rfl, HB11.out⟩
  case rest =>
    obtain ⟨rfl, hb5⟩ := hcut
    have CP := hid (copy13_any wc la lc l (HL.out.acts.below hb5.out) (HL.out.all.below hb5.out) (by have := HNL.out.1; omega))
    rw [← HNL.out.1] at CP
    clear HQ1 HQ2 HI4 HB4 hC
    go_wp2_with fail
    refine CP.out.mono ?_
    rintro e v1 ⟨M, rfl, hMl, hMa, hA, hall, hb6⟩
    rw [← HNL.out.1] at hMl ⊢
    have HV1 := hid (below_on hb5.out hb6)
    have S1 := refSame13_any M l (some ⟨wc.heap.size, 0, none⟩) la nl lc v1 hA (HL.out.acts.below HV1.out) hall (HL.out.all.below HV1.out) (by omega) (by have := HNL.out.1; omega)
    rw [decide_eq_true hMa, hMl, ← HNL.out.1] at S1
    have S1 := hid S1
    have S2 := fun V (hV : Below v1.heap.size v1 V) => same13_any M l (some ⟨wc.heap.size, 0, none⟩) la nl lc V (hA.below hV) (HL.out.acts.below (below_on HV1.out hV)) (hall.below hV) (HL.out.all.below (below_on HV1.out hV)) (by omega) (by have := HNL.out.1; omega)
    rw [decide_eq_true hMa, hMl, ← HNL.out.1] at S2
    have S2 := hid S2
    have S3 := fun V (hV : Below w.heap.size w V) => same13_any l m la ma lc mc V (HL.out.acts.below hV) (HM.out.acts.below hV) (HL.out.all.below hV) (HM.out.all.below hV) (by have := HNL.out.1; omega) (by have := HNL.out.2; omega)
    have S4 := fun V (hV : Below w.heap.size w V) => refSame13_any l m la ma lc mc V (HL.out.acts.below hV) (HM.out.acts.below hV) (HL.out.all.below hV) (HM.out.all.below hV) (by have := HNL.out.1; omega) (by have := HNL.out.2; omega)
    obtain ⟨r, hr⟩ : ∃ r, decide (l.map Ent12.act = m.map Ent12.act) = r := ⟨_, rfl⟩
    rw [hr, ← HNL.out.1, ← HNL.out.2] at S3 S4
    have S3 := hid S3
    have S4 := hid S4
    clear hMl hMa hA hall hb6 hr CP
    go_wp2_with fail
    refine S1.out.mono ?_
    rintro e v2 ⟨rfl, hb7⟩
    have HV2 := hid hb7
    clear hb7
    go_wp2_with fail
    refine (S2.out _ HV2.out).mono ?_
    rintro e v3 ⟨rfl, hb8⟩
    have HV3 := hid (below_on (below_on HV1.out HV2.out) hb8)
    clear hb8
    go_wp2_with fail
    refine (S3.out _ HV3.out).mono ?_
    rintro e v4 ⟨rfl, hb9⟩
    have HV4 := hid (below_on HV3.out hb9)
    clear hb9
    go_wp2_with fail
    refine (S4.out _ HV4.out).mono ?_
    rintro e v5 ⟨rfl, hb10⟩
    have HV5 := hid (below_on HV4.out hb10)
    have DC := decode13_any v5 ba bc b (HH.out.below HV5.out)
    rw [← HNB.out] at DC
    have DC := hid DC
    clear hb10 S1 S2 S3 S4
    have hrr : (r != r) = false := by cases r <;> rfl
    go_wp2_with fail
    refine DC.out.mono ?_
    intro e v6 h6
    obtain ⟨D, va, vc, q, rfl, hb11, hLD, hD64, hq⟩ := dec_uni13 h6
    have HV6 := hid (below_on HV5.out hb11)
    have HLD := hid hLD
    have HS := hid (fun V => sure13_any V)
    clear h6 hb11 hLD DC
    rcases hq with ⟨hok, rfl⟩ | ⟨_, hq0, rfl⟩
    case inr =>
      have hq1 : (q != 0) = true := by simpa using hq0
      clear hq0 HLD
      simp only [List.length_nil]
      go_wp2_with fail
      refine (HS.out _).mono ?_
      rintro e v7 ⟨rfl, hb12⟩
      have HV7 := hid (below_on HV6.out hb12)
      clear hb12
      go_wp2_with fail
      go_ret
      exact ⟨rfl, HV7.out⟩
    have hen := (dec13_is hok HH.out.oct).1
    have HEN := hid hen
    have EN := hid (encode13_any v6 va vc D HLD.out.acts HLD.out.all (by omega))
    have RI := fun V (hV : Below v6.heap.size v6 V) => right13_any V va vc D (HLD.out.acts.below hV) (HLD.out.all.below hV) (by omega)
    rw [(size_ok13 hen).2] at RI
    have RI := hid RI
    clear hok hen
    go_wp2_with fail
    refine EN.out.mono ?_
    rintro e v7 (⟨hno, _⟩ | ⟨x, p, hx, rfl, hb12, hI7, _⟩)
    · rw [HEN.out] at hno; cases hno
    obtain rfl : b = x := by have := HEN.out; rw [hx] at this; cases this; rfl
    have HV7 := hid hb12
    have HI7 := hid hI7
    clear hx hb12 hI7 EN
    rw [← HNB.out]
    go_wp2_with fail
    refine (RI.out _ HV7.out).mono ?_
    rintro e v8 ⟨rfl, hb13⟩
    have HV8 := hid (below_on HV7.out hb13)
    have BY := bytes8_any b b (some ⟨p, 0, none⟩) ba nb nb nb bc HNB.out HNB.out v8 (by have := HNB.out; omega) (by have := HNB.out; omega) (HI7.out.below hb13) (HH.out.ints.below (below_on HV6.out HV8.out))
    rw [show (b == b) = true by simp] at BY
    have BY := hid BY
    clear hb13 RI
    go_wp2_with fail
    refine BY.out.mono ?_
    rintro e v9 ⟨rfl, hb14⟩
    have HV9 := hid (below_on (below_on HV6.out HV8.out) hb14)
    clear hb14
    go_wp2_with fail
    refine (HS.out _).mono ?_
    rintro e v10 ⟨rfl, hb15⟩
    have HV10 := hid (below_on HV9.out hb15)
    clear hb15
    go_wp2_with fail
    go_ret
    exact ⟨rfl, HV10.out⟩
end Go.Proofs.YtdjlbejhphbcoaaGreat
namespace Go.Proofs.YtdjlbejhphbcoaaGreat
open Go.RowKit
set_option linter.unusedVariables false
set_option maxRecDepth 100000

set_option maxHeartbeats 4000000 in
theorem ActsBack_few (l m : List Ent12) (la ma : Option Addr) (lc mc : Nat) (nb : Nat) (ba : Option Addr) (bc : Nat) (w : World) (hL : Acts w la l) (hM : Acts w ma m) (hll : l.length ≤ 9223372036854775807) (hlm : m.length ≤ 9223372036854775807) (hf : few13 l = false ∨ few13 m = false ∨ 1500 < nb) :
    Calls Tryz.prog 7 #[.slice la l.length lc, .slice ma m.length mc, .slice ba nb bc] w fun e w' => e = .returned (.bool true) ∧ Below w.heap.size w w' := by
  have F1 := hid (few13_any l la lc w hL hll)
  have F2 := hid (fun V (hV : Below w.heap.size w V) => few13_any m ma mc V (hM.below hV) hlm)
  have HS := hid (fun V => sure13_any V)
  have ways : few13 l = false ∨ (few13 l = true ∧ few13 m = false) ∨ (few13 l = true ∧ few13 m = true ∧ decide ((1500 : Int) < (nb : Int)) = true) := by
    cases h1 : few13 l
    · exact .inl rfl
    · cases h2 : few13 m
      · exact .inr (.inl ⟨rfl, rfl⟩)
      · rw [h1, h2] at hf
        exact .inr (.inr ⟨rfl, rfl, decide_eq_true (by rcases hf with h | h | h; cases h; cases h; omega)⟩)
  obtain ⟨x, hx⟩ : ∃ x, few13 l = x := ⟨_, rfl⟩
  obtain ⟨y, hy⟩ : ∃ y, few13 m = y := ⟨_, rfl⟩
  rw [hx] at F1
  rw [hy] at F2
  rw [hx, hy] at ways
  clear hf hL hM hx hy
  rcases ways with rfl | ⟨rfl, rfl⟩ | ⟨rfl, rfl, hb0⟩
  · go_enter Tryz.func7, Tryz.ntmps7
    go_wp2_with fail
    refine F1.out.mono ?_
    rintro e w1 ⟨rfl, hb1⟩
    have HB1 := hid hb1
    clear hb1
    go_wp2_with fail
    refine (HS.out _).mono ?_
    rintro e w2 ⟨rfl, hb2⟩
    have HB2 := hid (below_on HB1.out hb2)
    clear hb2
    go_wp2_with fail
    go_ret
    exact ⟨rfl, HB2.out⟩
  · go_enter Tryz.func7, Tryz.ntmps7
    go_wp2_with fail
    refine F1.out.mono ?_
    rintro e w1 ⟨rfl, hb1⟩
    have HB1 := hid hb1
    clear hb1
    go_wp2_with fail
    refine (F2.out _ HB1.out).mono ?_
    rintro e w2 ⟨rfl, hb2⟩
    have HB2 := hid (below_on HB1.out hb2)
    clear hb2
    go_wp2_with fail
    refine (HS.out _).mono ?_
    rintro e w3 ⟨rfl, hb3⟩
    have HB3 := hid (below_on HB2.out hb3)
    clear hb3
    go_wp2_with fail
    go_ret
    exact ⟨rfl, HB3.out⟩
  · go_enter Tryz.func7, Tryz.ntmps7
    go_wp2_with fail
    refine F1.out.mono ?_
    rintro e w1 ⟨rfl, hb1⟩
    have HB1 := hid hb1
    clear hb1
    go_wp2_with fail
    refine (F2.out _ HB1.out).mono ?_
    rintro e w2 ⟨rfl, hb2⟩
    have HB2 := hid (below_on HB1.out hb2)
    clear hb2
    go_wp2_with fail
    refine (HS.out _).mono ?_
    rintro e w3 ⟨rfl, hb3⟩
    have HB3 := hid (below_on HB2.out hb3)
    clear hb3
    go_wp2_with fail
    go_ret
    exact ⟨rfl, HB3.out⟩
theorem ActsBack_walk (la ma : Option Addr) (ln lc mn mc : Nat) (b : List Int) (ba : Option Addr) (bc : Nat) (w : World) (h0 : ln ≤ 9223372036854775807 ∧ IsActs w la ln) (h1 : mn ≤ 9223372036854775807 ∧ IsActs w ma mn) (hH : Holds w ba bc b) :
    Calls Tryz.prog 7 #[.slice la ln lc, .slice ma mn mc, .slice ba b.length bc] w fun e w' => e = .returned (.bool true) ∧ Below w.heap.size w w' := by
  obtain ⟨hl, l, rfl, aL, iL⟩ := h0
  obtain ⟨hm, m, rfl, aM, iM⟩ := h1
  by_cases h : few13 l = true ∧ few13 m = true ∧ b.length ≤ 1500
  · obtain ⟨f1, f2, f3⟩ := h
    obtain ⟨i1, l1, _⟩ := few13_in f1 iL
    obtain ⟨i2, l2, _⟩ := few13_in f2 iM
    exact ActsBack_main l m la ma lc mc b ba bc w aL aM i1 i2 l1 l2 f1 f2 hH f3
  · refine ActsBack_few l m la ma lc mc b.length ba bc w aL aM hl hm ?_
    cases h1 : few13 l
    · exact .inl rfl
    · cases h2 : few13 m
      · exact .inr (.inl rfl)
      · exact .inr (.inr (by
          rw [h1, h2] at h
          simp at h
          exact h))
end Go.Proofs.YtdjlbejhphbcoaaGreat
