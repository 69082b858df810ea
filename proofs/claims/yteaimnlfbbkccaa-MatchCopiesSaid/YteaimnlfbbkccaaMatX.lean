/- The law of matches that are copied. -/
import Derived.Test.YteaimnlfbbkccaaMatW
import Derived.Test.YteaimnlfbbkccaaMatP
namespace Go.Proofs.Yteaimnlfbbkccaa
open Go.RowKit
set_option linter.unusedVariables false
set_option maxRecDepth 100000

theorem ents_turn10 {S : Nat → Prop} {w w' : World} {x : Ent9} (h : EntIn w x) (ht : Turn S w w') (hf : Far10 S x) : EntIn w' x := by
  refine ⟨fun i hi => ?_, fun i hi => ?_, h.ov, h.om, h.cm, h.c, h.f, h.x⟩
  · obtain ⟨b, off, ha, hc⟩ := h.iv i hi
    exact ⟨b, off, ha, ht.cell hc (hf.v (by intro e; rw [e] at hi; simp at hi) ⟨b, off, none⟩ ha)⟩
  · obtain ⟨b, off, ha, hc⟩ := h.im i hi
    exact ⟨b, off, ha, ht.cell hc (hf.m (by intro e; rw [e] at hi; simp at hi) ⟨b, off, none⟩ ha)⟩
theorem L9.turn10 {S : Nat → Prop} {w w' : World} {a : Option Addr} {l : List Ent9} (h : L9 w a l) (ht : Turn S w w') (ha : ∀ q : Addr, a = some q → ¬ S q.block) (hf : ∀ x ∈ l, Far10 S x) : L9 w' a l := by
  refine ⟨?_, fun x hx => ents_turn10 (h.ent x hx) ht (hf x hx), h.few, h.len⟩
  by_cases hl : l = []
  · rw [hl]; exact Oxms.nil _ _
  · exact h.ox.kept (fun q hq => ht.block _ (h.ox.lt hl hq) (ha q hq))
theorem turn_set {S : Nat → Prop} {w w' : World} (h : Turn S w w') {q : Addr} (hq : S q.block) (v : Value) : Turn S w (w'.setCell q v) := by
  have hb : w'.grownBy (w'.setCell q v) (some q.block) := ⟨rfl, rfl, rfl, by simp [World.setCell], fun k hk hne => Below.heap_setCell _ _ _ _ (fun e => hne (by rw [e]))⟩
  exact h.trans (Turn.of_by hb (by rintro k e; simp at e; subst e; exact hq)) (fun _ _ e => e)
/-- a list whose values' bytes, and whose fields, are written over: blocks from B1 up to B2 -/
structure Mut (B1 B2 gc : Nat) (M : List Ent9) (w : World) : Prop where
  vs : ∀ i, (hi : i < M.length) → w.cell? ⟨gc, i * 6 + 4, none⟩ = some (.slice M[i].va M[i].o.v.length M[i].vc) ∧ (∃ u, w.cell? ⟨gc, i * 6 + 1, none⟩ = some u)
  fr : ∀ o, w.frozen? ⟨gc, o, none⟩ = false
  by_ : ∀ x ∈ M, ∃ p, x.va = some ⟨p, 0, none⟩ ∧ p ≠ gc ∧ (B1 ≤ p ∧ p < B2) ∧ (∀ k, k < x.o.v.length → ∃ u, w.cell? ⟨p, k, none⟩ = some u) ∧ ∀ o, w.frozen? ⟨p, o, none⟩ = false
theorem some_set {w : World} {p q : Addr} {v : Value} (h : ∃ u, w.cell? p = some u) : ∃ u, (w.setCell q v).cell? p = some u := by
  obtain ⟨u, hu⟩ := h
  by_cases e : p = q
  · subst e; exact ⟨v, World.cell?_setCell_same _ _ _ hu⟩
  · exact ⟨u, (World.cell?_setCell_other _ _ _ _ (fun h => e h.symm)).trans hu⟩
theorem Mut.set {B1 B2 gc : Nat} {M : List Ent9} {w : World} (h : Mut B1 B2 gc M w) {q : Addr} (hq : ∀ i, q ≠ ⟨gc, i * 6 + 4, none⟩) (v : Value) : Mut B1 B2 gc M (w.setCell q v) := by
  refine ⟨fun i hi => ⟨?_, some_set (h.vs i hi).2⟩, fun o => (World.frozen?_setCell _ _ _ _).trans (h.fr o), fun x hx => ?_⟩
  · exact (World.cell?_setCell_other _ _ _ _ (hq i)).trans (h.vs i hi).1
  · obtain ⟨p, e1, e2, e3, e4, e5⟩ := h.by_ x hx
    exact ⟨p, e1, e2, e3, fun k hk => some_set (e4 k hk), fun o => (World.frozen?_setCell _ _ _ _).trans (e5 o)⟩
theorem Mut.below {B1 B2 gc : Nat} {M : List Ent9} {w w' : World} (h : Mut B1 B2 gc M w) (hg : gc < w.heap.size) (hb2 : B2 ≤ w.heap.size) (hb : Below w.heap.size w w') : Mut B1 B2 gc M w' := by
  refine ⟨fun i hi => ⟨cell_keep (h.vs i hi).1 hb, ?_⟩, fun o => (World.frozen?_of_block (a := ⟨gc, o, none⟩) (hb.block gc hg)).trans (h.fr o), fun x hx => ?_⟩
  · obtain ⟨u, hu⟩ := (h.vs i hi).2; exact ⟨u, cell_keep hu hb⟩
  · obtain ⟨p, e1, e2, e3, e4, e5⟩ := h.by_ x hx
    exact ⟨p, e1, e2, e3, fun k hk => by obtain ⟨u, hu⟩ := e4 k hk; exact ⟨u, cell_keep hu hb⟩, fun o => (World.frozen?_of_block (a := ⟨p, o, none⟩) (hb.block p (by omega))).trans (e5 o)⟩
theorem Mut.of {w w' : World} {l M : List Ent9} (hB : BoxL w' w.heap.size (oxmCells M)) (hF : ∀ h ∈ M, EntIn w' h ∧ Far9 w.heap.size h ∧ Free10 w' h) : Mut w.heap.size w'.heap.size w.heap.size M w' := by
  have ho := oxms_box hB
  refine ⟨fun i hi => ?_, hB.free, fun x hx => ?_⟩
  · obtain ⟨b, off, e, _, h1, _, _, h4, _⟩ := ho i hi
    simp only [Option.some.injEq, Addr.mk.injEq] at e
    obtain ⟨rfl, rfl, _⟩ := e
    rw [Nat.zero_add] at h1 h4
    exact ⟨h4, _, h1⟩
  · obtain ⟨e1, ⟨p, q, e2, e3, e4, e5⟩, e6⟩ := hF x hx
    refine ⟨p, e2, by omega, ⟨by omega, (e6 p e2).1⟩, fun k hk => ?_, (e6 p e2).2⟩
    obtain ⟨b, off, e, hc⟩ := e1.iv k hk
    rw [e2] at e
    simp only [Option.some.injEq, Addr.mk.injEq] at e
    obtain ⟨rfl, rfl, _⟩ := e
    rw [Nat.zero_add] at hc
    exact ⟨_, hc⟩
theorem copy_l9 {w w' : World} {a : Option Addr} {l M : List Ent9} (hL : L9 w a l) (h1 : M.length = l.length) (h2 : M.map Ent9.o = l.map Ent9.o) (hB : BoxL w' w.heap.size (oxmCells M)) (hF : ∀ h ∈ M, EntIn w' h ∧ Far9 w.heap.size h ∧ Free10 w' h) : L9 w' (some ⟨w.heap.size, 0, none⟩) M := by
  refine ⟨oxms_box hB, fun x hx => (hF x hx).1, fun x hx => ?_, by rw [h1]; exact hL.len⟩
  have hm : x.o ∈ l.map Ent9.o := by rw [← h2]; exact List.mem_map.2 ⟨x, hx, rfl⟩
  obtain ⟨y, hy, e⟩ := List.mem_map.1 hm
  rw [← e]
  exact hL.few y hy

set_option maxHeartbeats 4000000 in
theorem MatchCopies_few (a : Option Addr) (l : List Ent9) (cap : Nat) (b : Option Addr) (m : List Ent9) (cb : Nat) (x : Int) (w : World) (hO : Oxms w a l) (h1 : l.length ≤ 9223372036854775807) (hO2 : Oxms w b m) (h2 : m.length ≤ 9223372036854775807) (hf : fewL9 l = false ∨ (fewL9 l = true ∧ fewL9 m = false)) :
    Calls Try.prog 5 #[.slice a l.length cap, .slice b m.length cb, .int .u8 x] w fun e w' => e = .returned (.bool true) ∧ Below w.heap.size w w' := by
  have HF := refFew9_any l a cap w hO h1
  have HG := hid (fun (W : World) (h : Below w.heap.size w W) => refFew9_any m b cb W (hO2.below h) h2)
  have HS := hid (fun w => sure10_any w)
  rcases hf with h | ⟨h, hm⟩
  · rw [h] at HF
    have HFF := hid HF
    clear HF h hO hO2
    go_enter Try.func5, Try.ntmps5
    go_wp2_with fail
    refine HFF.out.mono ?_
    rintro e w1 ⟨rfl, hb1⟩
    have HB1 := hid hb1
    clear hb1
    go_wp2_with fail
    refine (HS.out _).mono ?_
    rintro e w2 ⟨rfl, hb2⟩
    have HB2 := hid (below_on HB1.out hb2)
    clear hb2
    go_wp2_with fail
    exact bodyPost_ret (v := .bool true) (by simp [results, Try.results5, go_sem]) rfl ⟨rfl, HB2.out⟩
  · rw [h] at HF
    rw [hm] at HG
    have HFF := hid HF
    clear HF h hm hO hO2
    go_enter Try.func5, Try.ntmps5
    go_wp2_with fail
    refine HFF.out.mono ?_
    rintro e w1 ⟨rfl, hb1⟩
    have HB1 := hid hb1
    clear hb1
    go_wp2_with fail
    refine (HG.out _ HB1.out).mono ?_
    rintro e w3 ⟨rfl, hb3⟩
    have HB3 := hid (below_on HB1.out hb3)
    clear hb3
    go_wp2_with fail
    refine (HS.out _).mono ?_
    rintro e w2 ⟨rfl, hb2⟩
    have HB2 := hid (below_on HB3.out hb2)
    clear hb2
    go_wp2_with fail
    exact bodyPost_ret (v := .bool true) (by simp [results, Try.results5, go_sem]) rfl ⟨rfl, HB2.out⟩

set_option maxHeartbeats 16000000 in
theorem MatchCopies_main (a : Option Addr) (l : List Ent9) (cap : Nat) (b : Option Addr) (m : List Ent9) (cb : Nat) (x : Int) (w : World) (hL : L9 w a l) (hM : L9 w b m) (hf : fewL9 l = true) (hg : fewL9 m = true) :
    Calls Try.prog 5 #[.slice a l.length cap, .slice b m.length cb, .int .u8 x] w fun e w' => e = .returned (.bool true) ∧ Below w.heap.size w w' := by
  have HF := refFew9_any l a cap w hL.ox (by have := hL.len; omega)
  rw [hf] at HF
  have HFF := hid HF
  have HGG := hid (fun (W : World) (h : Below w.heap.size w W) => by have e := refFew9_any m b cb W (hM.ox.below h) (by have := hM.len; omega); rw [hg] at e; exact e)
  have HS := hid (fun w => sure10_any w)
  have HL := hid hL
  have HM := hid hM
  have hll : l.length ≤ 1000 := hL.len
  clear HF hf hg hL hM
  go_enter Try.func5, Try.ntmps5
  go_wp2_with fail
  refine HFF.out.mono ?_
  rintro e w0 ⟨rfl, hb0⟩
  have HB0 := hid hb0
  clear hb0
  go_wp2_with fail
  refine (HGG.out _ HB0.out).mono ?_
  rintro e w1 ⟨rfl, hb1⟩
  have HB1 := hid (below_on HB0.out hb1)
  clear hb1
  go_wp2_with fail
  refine (copy10_any w1 a cap l (HL.out.below HB1.out)).mono ?_
  rintro e w2 ⟨C, rfl, hC1, hC2, hCB, hCF, hb2⟩
  have hcl := copy_l9 (HL.out.below HB1.out) hC1 hC2 hCB hCF
  have hmut := Mut.of (l := l) hCB hCF
  have HB12 := hid hb2
  have HB2 := hid (below_on HB1.out hb2)
  have HCL := hid hcl
  have HMU := hid hmut
  have HC1 := hid hC1
  have HC2 := hid hC2
  have hgc : w1.heap.size < w2.heap.size := hCB.lt
  obtain ⟨gc, hgc2⟩ : ∃ gc, w1.heap.size = gc := ⟨_, rfl⟩
  rw [hgc2] at HCL HMU hgc
  rw [hgc2]
  have HGC := hid hgc2
  clear hcl hmut hC1 hC2 hCB hCF hb2 hgc2
  have hrfl : decide (l.map Ent9.o = C.map Ent9.o) = true := same_yes10 rfl HC2.out
  have HSA := hid (fun (W : World) (h : Below w2.heap.size w2 W) => refSame9_any l C a (some ⟨gc, 0, none⟩) cap l.length W (HL.out.below (below_on HB2.out h)) (HCL.out.below h))
  have HSB := hid (fun (W : World) (h : Below w2.heap.size w2 W) => same10_any l C a (some ⟨gc, 0, none⟩) cap l.length W (HL.out.below (below_on HB2.out h)) (HCL.out.below h))
  rw [hrfl, HC1.out] at HSA HSB
  have HSC := hid (fun (W : World) (h : Below w2.heap.size w2 W) => refSame9_any l m a b cap cb W (HL.out.below (below_on HB2.out h)) (HM.out.below (below_on HB2.out h)))
  have HSD := hid (fun (W : World) (h : Below w2.heap.size w2 W) => same10_any l m a b cap cb W (HL.out.below (below_on HB2.out h)) (HM.out.below (below_on HB2.out h)))
  obtain ⟨sv, hsv⟩ : ∃ sv, decide (l.map Ent9.o = m.map Ent9.o) = sv := ⟨_, rfl⟩
  rw [hsv] at HSC HSD
  clear hrfl hsv
  go_wp2_with fail
  refine (HSA.out _ (Below.refl _ _)).mono ?_
  rintro e w3 ⟨rfl, hb3⟩
  have HB23 := hid hb3
  clear hb3
  go_wp2_with fail
  refine (HSD.out _ HB23.out).mono ?_
  rintro e w4 ⟨rfl, hb4⟩
  have HB24 := hid (below_on HB23.out hb4)
  clear hb4
  go_wp2_with fail
  refine (HSC.out _ HB24.out).mono ?_
  rintro e w5 ⟨rfl, hb5⟩
  have HB25 := hid (below_on HB24.out hb5)
  clear hb5
  go_wp2_with fail
  refine (HSB.out _ HB25.out).mono ?_
  rintro e w6 ⟨rfl, hb6⟩
  have HB26 := hid (below_on HB25.out hb6)
  clear hb6
  go_wp2_with fail
  refine (copy10_any w6 a cap l (HL.out.below (below_on HB2.out HB26.out))).mono ?_
  rintro e w7 ⟨D, rfl, hD1, hD2, hDB, hDF, hb7⟩
  have HDL := hid (copy_l9 (HL.out.below (below_on HB2.out HB26.out)) hD1 hD2 hDB hDF)
  have HDN : Hid (∀ h ∈ D, Far10 (fun k => k < w6.heap.size) h) := by
    show ∀ h ∈ D, _
    intro h hh
    obtain ⟨_, ⟨p, q, e2, e3, e4, e5⟩, _⟩ := hDF h hh
    exact ⟨fun _ q' e s => by rw [e2] at e; cases e; have s' : p < w6.heap.size := s; omega, fun _ q' e s => by rw [e3] at e; cases e; have s' : q < w6.heap.size := s; omega⟩
  have HD1 := hid hD1
  have HD2 := hid hD2
  have HB67 := hid hb7
  have HB27 := hid (below_on HB26.out hb7)
  have hs26 := HB26.out.size
  have hs67 := hb7.size
  have HMU7 := hid (HMU.out.below hgc (Nat.le_refl _) HB27.out)
  clear hD1 hD2 hDB hDF hb7
  go_upto_region 8 with fail
  go_loopg [9] (l.length) (fun kx s9 wr => ∃ (i : Nat), s9 = .int .i64 i ∧ i ≤ l.length ∧ l.length - i ≤ kx ∧ Hid (Mut gc w2.heap.size gc C wr) ∧ Hid (Turn (fun k => gc ≤ k ∧ k < w2.heap.size) w7 wr))
  case atStart => exact ⟨0, rfl, by omega, by omega, HMU7.out, Turn.refl _ _⟩
  case round =>
    obtain ⟨i, rfl, hi, hkx, hmu, htu⟩ := hrel
    by_cases hlt : i < l.length
    · have hltz : (i : Int) < (l.length : Int) := by omega
      have hic : i < C.length := by have := HC1.out; omega
      obtain ⟨p, hp1, hp2, hp3, _, _⟩ := hmu.out.by_ C[i] (List.getElem_mem hic)
      have hfw := (HCL.out.few C[i] (List.getElem_mem hic)).1
      have hvs := fun (W : World) (h : Mut gc w2.heap.size gc C W) => (h.vs i hic).1
      have hby := fun (W : World) (h : Mut gc w2.heap.size gc C W) => h.by_ C[i] (List.getElem_mem hic)
      have hfd := fun (W : World) (h : Mut gc w2.heap.size gc C W) => (h.vs i hic).2
      rw [hp1] at hvs
      obtain ⟨vl, hvl⟩ : ∃ vl, C[i].o.v.length = vl := ⟨_, rfl⟩
      obtain ⟨vc, hvc⟩ : ∃ vc, C[i].vc = vc := ⟨_, rfl⟩
      rw [hvl] at hvs hby hfw
      rw [hvc] at hvs
      have HVS := hid hvs
      have HFD := hid hfd
      have HBY := hid (fun (W : World) (h : Mut gc w2.heap.size gc C W) => show (∀ k, k < vl → ∃ u, W.cell? ⟨p, k, none⟩ = some u) ∧ ∀ o, W.frozen? ⟨p, o, none⟩ = false by
        obtain ⟨p', e1, _, _, e4, e5⟩ := hby W h
        rw [hp1] at e1
        simp only [Option.some.injEq, Addr.mk.injEq] at e1
        obtain ⟨rfl, _, _⟩ := e1
        exact ⟨e4, e5⟩)
      clear hvs hby hfd hvl hvc hp1
      go_upto_region 11 with fail
      go_loopg [10] vl (fun kx s10 wq => ∃ (k : Nat), s10 = .int .i64 k ∧ k ≤ vl ∧ vl - k ≤ kx ∧ Hid (Mut gc w2.heap.size gc C wq) ∧ Hid (Turn (fun k => gc ≤ k ∧ k < w2.heap.size) w7 wq))
      case atStart => exact ⟨0, rfl, by omega, by omega, hmu.out, htu.out⟩
      case round =>
        obtain ⟨k, rfl, hk, hkx2, hmq, htq⟩ := hrel
        have c4 := HVS.out _ hmq.out
        by_cases hlk : k < vl
        · have hlkz : (k : Int) < (vl : Int) := by omega
          obtain ⟨e4, e5⟩ := HBY.out _ hmq.out
          obtain ⟨u, hu⟩ := e4 k hlk
          have hfr := e5 k
          have hm2 := hid (hmq.out.set (q := ⟨p, k, none⟩) (fun j e => by simp only [Addr.mk.injEq] at e; exact hp2 e.1) (.int .u8 x))
          have ht2 := hid (turn_set htq.out (q := ⟨p, k, none⟩) hp3 (.int .u8 x))
          clear e4 e5
          go_wp2_with fail
          go_roundg (vl - (k + 1))
          case rel => exact ⟨k + 1, by go_num, by omega, by omega, hm2.out, ht2.out⟩
          case measure => omega
        · have hlkz : ¬ (k : Int) < (vl : Int) := by omega
          obtain ⟨u, hu⟩ := HFD.out _ hmq.out
          have hfr := hmq.out.fr (i * 6 + 1)
          have hm2 := hid (hmq.out.set (q := ⟨gc, i * 6 + 1, none⟩) (fun j e => by simp only [Addr.mk.injEq] at e; omega) (.int .i64 (-1)))
          have ht2 := hid (turn_set htq.out (q := ⟨gc, i * 6 + 1, none⟩) ⟨Nat.le_refl _, hgc⟩ (.int .i64 (-1)))
          go_wp2_with fail
          go_roundg (l.length - (i + 1))
          case rel => exact ⟨i + 1, by go_num, by omega, by omega, hm2.out, ht2.out⟩
          case measure => omega
    · have hge : (l.length : Int) ≤ (i : Int) := by omega
      have hb : Below w.heap.size w wr := htu.out.below (below_on HB2.out HB27.out) (below_on HB2.out HB27.out).size (fun k e => by have := HB1.out.size; have := HGC.out; omega)
      have hDr := HDL.out.turn10 htu.out (fun q e h => by cases e; have h2 : w6.heap.size < w2.heap.size := h.2; omega) (fun y hy => (HDN.out y hy).mono fun k e => by have := e.2; omega)
      have HEN := refSame9_any l D a (some ⟨w6.heap.size, 0, none⟩) cap l.length wr (HL.out.below hb) hDr
      rw [HD1.out, same_yes10 rfl HD2.out] at HEN
      have HENN := hid HEN
      have HBB := hid hb
      clear HEN hDr hb hmu htu
      go_wp2_with fail
      refine HENN.out.mono ?_
      rintro e w9 ⟨rfl, hb9⟩
      have HB9 := hid (below_on HBB.out hb9)
      clear hb9
      go_wp2_with fail
      refine (HS.out _).mono ?_
      rintro e w10 ⟨rfl, hb10⟩
      have HB10 := hid (below_on HB9.out hb10)
      clear hb10
      go_wp2_with fail
      exact bodyPost_ret (v := .bool true) (by simp [results, Try.results5, go_sem]) rfl ⟨rfl, HB10.out⟩
theorem MatchCopies_walk (a : Option Addr) (len cap : Nat) (b : Option Addr) (lenb capb : Nat) (x : Int) (w : World) (h0 : IsOxmsC w a len cap) (h1 : len ≤ 9223372036854775807) (h2 : IsOxmsC w b lenb capb) (h3 : lenb ≤ 9223372036854775807) :
    Calls Try.prog 5 #[.slice a len cap, .slice b lenb capb, .int .u8 x] w fun e w' => e = .returned (.bool true) ∧ Below w.heap.size w w' := by
  obtain ⟨hlc, hcm, l, rfl, hO, hE⟩ := h0
  obtain ⟨hlc2, hcm2, m, rfl, hO2, hE2⟩ := h2
  cases hf : fewL9 l
  · exact MatchCopies_few a l cap b m capb x w hO h1 hO2 h3 (.inl hf)
  · cases hg : fewL9 m
    · exact MatchCopies_few a l cap b m capb x w hO h1 hO2 h3 (.inr ⟨hf, hg⟩)
    · exact MatchCopies_main a l cap b m capb x w (few_l9 hO hE hf) (few_l9 hO2 hE2 hg) hf hg
end Go.Proofs.Yteaimnlfbbkccaa
