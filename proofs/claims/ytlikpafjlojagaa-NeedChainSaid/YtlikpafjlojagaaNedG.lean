/- Package need: Sort. -/
import Derived.Test.YtlikpafjlojagaaNedF
import Derived.Test.YtlikpafjlojagaaMrg3
namespace Go.Proofs.Ytlikpafjlojagaa
open Go.RowKit Go.Sort
set_option linter.unusedVariables false

theorem wp_make_box {P : Program} {t e : TypeId} {z : Value} {size bytes : Nat} {w : World} {ops : Array Oper} {rest : List Oper} {o : Oper} {a : Act} {Q : Exit → Act → World → Prop} (hgd : o.guard = none) (x y : Operand)
    (ho : o.op = .makeSlice t x y) (E : ElemN P t e z size bytes) {kl kc : IntKind} {L C : Int} (hx : a.eval x = .int kl L) (hy : a.eval y = .int kc C) {n : Nat} (hL : L = n) (hC : C = n)
    (hbytes : bytes * n ≤ 281474976710656) (h63 : n ≤ 281474976710656)
    (h : ∀ w' R, Hid (R.length = n * size) → BoxL w' w.heap.size R → Below w.heap.size w w' → wpList P ops Q rest (a.put o.dst (.slice (some ⟨w.heap.size, 0, none⟩) n n)) w') : wpList P ops Q (o :: rest) a w := by
  obtain ⟨i, hi, hz, hs, hb⟩ : ∃ i, P.info? e = some i ∧ i.zero = some z ∧ i.size = size ∧ i.bytes = bytes := by
    have := E.info
    cases hi : P.info? e with
    | none => rw [hi] at this; simp at this
    | some i => rw [hi] at this; simp at this; exact ⟨i, rfl, this⟩
  subst hL
  subst hC
  subst hb
  refine wpList_plain hgd fun K hK => ?_
  have hb' : (i.bytes : Int) * (n : Int) ≤ 281474976710656 := by
    have h : ((i.bytes * n : Nat) : Int) ≤ 281474976710656 := by omega
    rwa [Int.natCast_mul] at h
  have hr := run_make (P := P) w t e i z E.under hi hz kl kc n n (by omega) (by omega) hb' (by omega)
  simp only [Int.toNat_natCast, hs] at hr
  unfold Oper.wp
  simp [execOp, ho, hx, hy, hr, Result.andThen]
  refine hK _ _ (h _ (madeCells z.cells (n * size)).toList (by show _ = _; rw [Array.length_toList, size_madeCells]) ?_ (below_alloc _ _))
  have := BoxL.new w (madeCells z.cells (n * size)).toList e
  simpa using this
theorem elemOxm : ElemN Try.prog 22 26 (.agg #[.int .i64 0, .int .i64 0, .bool false, .int .u64 0, .slice none 0 0, .slice none 0 0]) 6 80 := ⟨Try.underlying22, by kernel_rfl, rfl, by decide⟩

theorem below_by9 {w0 w w' : World} (h : Below w0.heap.size w0 w) {g : Nat} (hb : w.grownBy w' (some g)) (hg : w0.heap.size ≤ g) : Below w0.heap.size w0 w' :=
  h.grown hb h.size (by intro k hk; simp at hk; omega)
/-- a value's bytes stay while a block of its own is none of those that turn -/
theorem EntIn.by {w w' : World} {h : Ent9} {g : Nat} (hi : EntIn w h) (hb : w.grownBy w' (some g)) (hv : ∀ q : Addr, h.va = some q → q.block ≠ g) (hm : ∀ q : Addr, h.ma = some q → q.block ≠ g) : EntIn w' h := by
  refine ⟨?_, ?_, hi.ov, hi.om, hi.cv, hi.cm, hi.c, hi.f, hi.x⟩
  · intro i hil
    obtain ⟨b, off, ha, hc⟩ := hi.iv i hil
    exact ⟨b, off, ha, hb.cell hc (by simpa using hv _ ha)⟩
  · intro i hil
    obtain ⟨b, off, ha, hc⟩ := hi.im i hil
    exact ⟨b, off, ha, hb.cell hc (by simpa using hm _ ha)⟩
/-- a copy: its bytes lie behind block g -/
def Far9 (g : Nat) (h : Ent9) : Prop := ∃ p q, h.va = some ⟨p, 0, none⟩ ∧ h.ma = some ⟨q, 0, none⟩ ∧ g < p ∧ g < q
/-- six stores, one behind the other -/
theorem BoxL.put6 {w : World} {b : Nat} {P R : List Value} {u0 u1 u2 u3 u4 u5 : Value} (h : BoxL w b (P ++ u0 :: u1 :: u2 :: u3 :: u4 :: u5 :: R)) {i : Nat} (hi : P.length = i) (v0 v1 v2 v3 v4 v5 : Value) :
    BoxL ((((((w.setCell ⟨b, i, none⟩ v0).setCell ⟨b, i + 1, none⟩ v1).setCell ⟨b, i + 2, none⟩ v2).setCell ⟨b, i + 3, none⟩ v3).setCell ⟨b, i + 4, none⟩ v4).setCell ⟨b, i + 5, none⟩ v5) b (P ++ v0 :: v1 :: v2 :: v3 :: v4 :: v5 :: R) := by
  subst hi
  have := (((((h.set P.length v0 (by simp)).set (P.length + 1) v1 (by simp)).set (P.length + 2) v2 (by simp)).set (P.length + 3) v3 (by simp)).set (P.length + 4) v4 (by simp)).set (P.length + 5) v5 (by simp)
  simpa [List.set_append_right] using this
theorem six_of {R : List Value} {k : Nat} (h : R.length = (k + 1) * 6) : ∃ u0 u1 u2 u3 u4 u5 R', R = u0 :: u1 :: u2 :: u3 :: u4 :: u5 :: R' ∧ R'.length = k * 6 := by
  match R, h with
  | u0 :: u1 :: u2 :: u3 :: u4 :: u5 :: R', h => exact ⟨u0, u1, u2, u3, u4, u5, R', rfl, by simp at h; omega⟩
  | [], h => simp at h
  | [_], h => simp at h; omega
  | [_, _], h => simp at h; omega
  | [_, _, _], h => simp at h; omega
  | [_, _, _, _], h => simp at h; omega
  | [_, _, _, _, _], h => simp at h; omega
/-- what holds the cells holds the values -/
theorem holds_box {w : World} {b : Nat} {l : List Ent9} (h : BoxL w b (oxmCells l)) : HoldsK Ent9.cs 6 w b 0 l.toArray := by
  intro j hj
  rw [size_flatK] at hj
  rw [get_flatK _ _ _ _ hj]
  simp only [List.size_toArray] at hj
  refine ⟨?_, h.free _⟩
  have hl : j / 6 < l.length := by omega
  have hm : j % 6 < 6 := Nat.mod_lt _ (by omega)
  have e := oxmCells_at l (j / 6) hl (j % 6) hm
  rw [show j / 6 * 6 + j % 6 = j by omega] at e
  rw [Nat.zero_add]
  refine h.cell j _ (e.trans ?_)
  have e2 : l.toArray[j / 6]! = l[j / 6] := by simp [hl]
  rw [e2, List.getElem?_eq_getElem (by show j % 6 < (l[j / 6]).cs.length; exact hm)]
  simp only [id_eq]
  rw [List.getElem!_eq_getElem?_getD, List.getElem?_eq_getElem (by show j % 6 < (l[j / 6]).cs.length; exact hm)]
  rfl
/-- behind the sort: the block that was sorted has turned alone -/
theorem sk_by {w0 W : World} {blk off : Nat} {l : List Ent9} (h : SK Ent9.cs 6 w0 blk off l W) : w0.grownBy W (some blk) := by
  obtain ⟨n, os, rfl⟩ := h
  unfold sortWorldK putRowK putRow
  refine ⟨rfl, rfl, rfl, ?_, ?_⟩
  · simp [grow, mapBlock, Sort.ahead]
  · intro k hk hne
    have hk2 : k ≠ blk := fun e => hne (by rw [e])
    show ((mapBlock (Sort.ahead w0 n) blk _).heap ++ os)[k]? = _
    rw [Array.getElem?_append_left (by simpa [mapBlock, Sort.ahead] using hk)]
    simp [mapBlock, Sort.ahead, Array.getElem?_modify, hk2.symm]
theorem sk_oxms {w0 W : World} {g : Nat} {l0 l : List Ent9} (h : SK Ent9.cs 6 w0 g 0 l W) (R : RowK Ent9.cs 6 w0 g 0 l0.toArray) (hs : l0.length = l.length) : Oxms W (some ⟨g, 0, none⟩) l := by
  have H := SWK.holds h R.hblk R.hH (by simpa using hs.symm)
  intro i hi
  have c := fun j (hj : j < 6) => (HoldsK.cell H (i := i) (c := j) (by simpa using hi) hj).1
  have e : l.toArray[i]! = l[i] := by simp [hi]
  rw [e] at c
  exact ⟨g, 0, rfl, c 0 (by decide), c 1 (by decide), c 2 (by decide), c 3 (by decide), c 4 (by decide), c 5 (by decide)⟩

theorem swo9 : SWO before9 where
  irrefl x := by rw [before_not]; omega
  trans x y z h1 h2 := before_trans9 h1 h2
  ntrans x y z h1 h2 := not_before_trans h2 h1
theorem fil_ins (o : Ox9) : ∀ {l : List Ox9}, Sorted9 l → Fil before9 (l ++ [o]) (ins9 o l)
  | [], _ => Fil.refl _
  | x :: r, h => by
    have hx := List.pairwise_cons.1 h
    unfold ins9
    split
    · rename_i hb
      refine Fil.swap swo9 (a := x :: r) (b := [o]) fun z hz y hy => ?_
      rw [List.mem_singleton.1 hy]
      rcases List.mem_cons.1 hz with rfl | hz
      · exact hb
      · exact before_not_trans hb (hx.1 z hz)
    · exact (Fil.refl [x]).append (fil_ins o hx.2)
theorem fil_fold (l : List Ox9) : ∀ {out : List Ox9}, Sorted9 out → Fil before9 (out ++ l) (l.foldl (fun out o => ins9 o out) out) := by
  induction l with
  | nil => intro out _; rw [List.append_nil]; exact Fil.refl _
  | cons x r ih =>
    intro out h
    have := (fil_ins x h).append (Fil.refl (lt := before9) r)
    rw [List.append_assoc] at this
    exact this.trans (ih (ins_sorted h))
theorem fil_sort (l : List Ox9) : Fil before9 l (sort9 l) := fil_fold l List.Pairwise.nil
theorem sort_is {l M : List Ent9} (h1 : Srt (ltOf cmpE) M) (h2 : Fil (ltOf cmpE) l M) : M.map Ent9.o = sort9 (l.map Ent9.o) := by
  refine srt_uniq swo9 ?_ (sort_sorted _) ?_
  · unfold Srt
    rw [List.pairwise_map]
    exact h1.imp fun {a b} h => by rw [ltE] at h; exact h
  · refine Fil.trans (fun k => ?_) (fil_sort _)
    have e : ∀ t : List Ent9, (t.map Ent9.o).filter (eqv before9 k) = (t.filter (eqv (ltOf cmpE) ⟨k, none, 0, none, 0⟩)).map Ent9.o := fun t => by
      rw [List.filter_map]
      congr 1
      apply List.filter_congr
      intro x _
      simp only [Function.comp, eqv, ltE]
    rw [e, e, h2]
/-- sorted: a list of one's own -/
def SortPost (w : World) (l : List Ent9) (e : Ending) (w' : World) : Prop :=
  ∃ g M, e = .returned (.slice (some ⟨g, 0, none⟩) l.length l.length) ∧ M.length = l.length ∧ M.map Ent9.o = sort9 (l.map Ent9.o) ∧ Oxms w' (some ⟨g, 0, none⟩) M ∧ (∀ h ∈ M, EntIn w' h) ∧ Below w.heap.size w w' ∧ w.heap.size ≤ g
set_option maxRecDepth 100000 in
set_option maxHeartbeats 2000000 in
theorem sort_any (w : World) (a : Option Addr) (c : Nat) (l : List Ent9) (hl : l.length ≤ 60) (hO : Oxms w a l) (hI : ∀ h ∈ l, EntIn w h) (hs : ∀ h ∈ l, h.o.v.length ≤ 1000 ∧ h.o.m.length ≤ 1000) :
    Calls Try.prog 16 #[.slice a l.length c] w (SortPost w l) := by
  obtain ⟨N, hN⟩ : ∃ N, N = l.length := ⟨_, rfl⟩
  have HN := hid hN
  have HO := hid hO
  have HI := hid hI
  have HS := hid hs
  rw [← hN]
  have hl' : N ≤ 60 := by omega
  clear hN hO hI hs hl
  go_enter Try.func16, Try.ntmps16
  go_wp2_with (at_make; refine wp_make_box rfl _ _ rfl elemOxm rfl rfl rfl rfl (by omega) (by omega) ?_; intro w1 R hR hB hb1)
  have HB1 := hid hb1
  go_loopg [11] N (fun kx s11 wr => ∃ (i : Nat) (D : List Ent9) (R : List Value), s11 = .int .i64 i ∧ i ≤ N ∧ N - i ≤ kx ∧ Hid (D.length = i) ∧ Hid (R.length = (N - i) * 6) ∧ Hid (BoxL wr w.heap.size (oxmCells D ++ R)) ∧ Hid (Below w.heap.size w wr) ∧ Hid (D.map Ent9.o = (l.take i).map Ent9.o) ∧ Hid (∀ h ∈ D, EntIn wr h ∧ Far9 w.heap.size h))
  case atStart => exact ⟨0, [], R, rfl, by omega, by omega, rfl, hR, hB, hb1, rfl, (by simp [Hid])⟩
  case round =>
    clear hB hb1
    obtain ⟨i, D, R, rfl, hi, hkx, lD, lR, hB, hb, hD, hF⟩ := hrel
    by_cases hlt : i < N
    · have hltz : (i : Int) < (N : Int) := by omega
      have hn := HN.out
      have hil : i < l.length := by omega
      obtain ⟨b, off, rfl, c0, c1, c2, c3, c4, c5⟩ := (HO.out.below hb.out) i hil
      have hEin := (HI.out l[i] (List.getElem_mem hil)).below hb.out
      have hsz := HS.out l[i] (List.getElem_mem hil)
      generalize hh : l[i] = h at c0 c1 c2 c3 c4 c5 hEin hsz
      have HH := hid hh
      have HE := hid hEin
      have HZ := hid hsz
      obtain ⟨W, hW, hbW, _⟩ := oxm_box wr h.o.C h.o.F h.o.H h.o.X h.va h.o.v.length h.vc h.ma h.o.m.length h.mc
      have HW := hid hW
      have HBW := hid hbW
      have hgn : w.heap.size < wr.heap.size := hB.out.lt
      clear hn hh hEin hsz hW hbW
      go_wp2_with fail
      rw [HW.out]
      refine (copy8_any h.o.C h.o.F h.o.H h.o.X h.va h.vc h.ma h.mc h.o.v h.o.m HZ.out.1 HZ.out.2 W (HE.out.iv.below HBW.out) (HE.out.im.below HBW.out)).mono ?_
      rintro e w2 ⟨p, q, rfl, hb2, hf1, hf2, hpq, hWp⟩
      have HB2 := hid hb2
      have HF1 := hid hf1
      have HF2 := hid hf2
      have HP := hid (And.intro hpq hWp)
      have hbx := (hB.out.below HBW.out).below hb2
      obtain ⟨k, hk⟩ : ∃ k, N - i = k + 1 := ⟨N - i - 1, by omega⟩
      obtain ⟨u0, u1, u2, u3, u4, u5, R', rfl, hR'⟩ := six_of (R := R) (k := k) (by rw [lR.out, hk])
      have hc : (oxmCells D).length = i * 6 := by rw [oxmCells_length, lD.out]
      have k0 := hbx.cell (i * 6) u0 (by rw [List.getElem?_append_right (by omega)]; simp [hc])
      have k1 := hbx.cell (i * 6 + 1) u1 (by rw [List.getElem?_append_right (by omega)]; simp [hc])
      have k2 := hbx.cell (i * 6 + 2) u2 (by rw [List.getElem?_append_right (by omega)]; simp [hc])
      have k3 := hbx.cell (i * 6 + 3) u3 (by rw [List.getElem?_append_right (by omega)]; simp [hc])
      have k4 := hbx.cell (i * 6 + 4) u4 (by rw [List.getElem?_append_right (by omega)]; simp [hc])
      have k5 := hbx.cell (i * 6 + 5) u5 (by rw [List.getElem?_append_right (by omega)]; simp [hc])
      have z := hbx.free
      have HBX := hid hbx
      have HR' := hid hR'
      have HC := hid hc
      have HK := hid hk
      clear hbx hR' hc hk hb2 hf1 hf2 hpq hWp c0 c1 c2 c3 c4 c5
      go_wp2_with fail
      have hB3 := HBX.out.put6 HC.out (.int .i64 h.o.C) (.int .i64 h.o.F) (.bool h.o.H) (.int .u64 h.o.X) (.slice (some ⟨p, 0, none⟩) h.o.v.length h.o.v.length) (.slice (some ⟨q, 0, none⟩) h.o.m.length h.o.m.length)
      have hby := grownBy_then (grownBy_then (grownBy_then (grownBy_then (grownBy_then (by_setCell w2 w.heap.size (i * 6) (.int .i64 h.o.C)) (by_setCell _ w.heap.size (i * 6 + 1) (.int .i64 h.o.F))) (by_setCell _ w.heap.size (i * 6 + 2) (.bool h.o.H))) (by_setCell _ w.heap.size (i * 6 + 3) (.int .u64 h.o.X))) (by_setCell _ w.heap.size (i * 6 + 4) (.slice (some ⟨p, 0, none⟩) h.o.v.length h.o.v.length))) (by_setCell _ w.heap.size (i * 6 + 5) (.slice (some ⟨q, 0, none⟩) h.o.m.length h.o.m.length))
      generalize ((((((w2.setCell ⟨w.heap.size, i * 6, none⟩ (.int .i64 h.o.C)).setCell ⟨w.heap.size, i * 6 + 1, none⟩ (.int .i64 h.o.F)).setCell ⟨w.heap.size, i * 6 + 2, none⟩ (.bool h.o.H)).setCell ⟨w.heap.size, i * 6 + 3, none⟩ (.int .u64 h.o.X)).setCell ⟨w.heap.size, i * 6 + 4, none⟩ (.slice (some ⟨p, 0, none⟩) h.o.v.length h.o.v.length)).setCell ⟨w.heap.size, i * 6 + 5, none⟩ (.slice (some ⟨q, 0, none⟩) h.o.m.length h.o.m.length)) = w3 at hB3 hby ⊢
      go_roundg (N - (i + 1))
      case measure => omega
      case rel =>
        have hw2 : Below w.heap.size w w2 := below_on (below_on hb.out HBW.out) HB2.out
        have hWs : wr.heap.size ≤ W.heap.size := HBW.out.size
        obtain ⟨hpq, hWp⟩ := HP.out
        refine ⟨i + 1, D ++ [⟨h.o, some ⟨p, 0, none⟩, h.o.v.length, some ⟨q, 0, none⟩, h.o.m.length⟩], R', by first | rfl | go_num, by omega, Nat.le_refl _, ?_, ?_, ?_, below_by9 hw2 hby (Nat.le_refl _), ?_, ?_⟩
        · show _ = _; rw [List.length_append, lD.out]; rfl
        · show _ = _; rw [HR'.out]; have := HK.out; omega
        · show BoxL _ _ _
          rw [oxmCells_snoc]
          simpa [Ent9.cs] using hB3
        · show _ = _
          rw [List.map_append, hD.out, List.take_add_one, List.getElem?_eq_getElem hil, HH.out]
          simp
        · show ∀ _, _
          intro h' hm
          rcases List.mem_append.1 hm with hm | hm
          · obtain ⟨e1, p', q', e2, e3, e4, e5⟩ := hF.out h' hm
            exact ⟨((e1.below HBW.out).below HB2.out).by hby (fun x hx => by rw [e2] at hx; simp at hx; rw [← hx]; show p' ≠ _; omega) (fun x hx => by rw [e3] at hx; simp at hx; rw [← hx]; show q' ≠ _; omega), p', q', e2, e3, e4, e5⟩
          · obtain rfl := List.mem_singleton.1 hm
            have hx := HE.out
            have hz := HZ.out
            refine ⟨EntIn.by (w := w2) ⟨fresh_ints8 HF1.out, fresh_ints8 HF2.out, hx.ov, hx.om, ⟨Nat.le_refl _, by show h.o.v.length ≤ _; omega⟩, ⟨Nat.le_refl _, by show h.o.m.length ≤ _; omega⟩, hx.c, hx.f, hx.x⟩ hby (fun x hx => by simp at hx; rw [← hx]; show p ≠ _; omega) (fun x hx => by simp at hx; rw [← hx]; show q ≠ _; omega), p, q, rfl, rfl, by omega, by omega⟩
    · have hltz : ¬ (i : Int) < (N : Int) := by omega
      obtain rfl : i = N := by omega
      have hR0 : R = [] := List.eq_nil_of_length_eq_zero (by rw [lR.out]; omega)
      have hBD : BoxL wr w.heap.size (oxmCells D) := by have := hB.out; rw [hR0, List.append_nil] at this; exact this
      have RK : RowK Ent9.cs 6 wr w.heap.size 0 D.toArray := ⟨fun _ => rfl, fun x v hv => by simp [Ent9.cs] at hv; rcases hv with rfl | rfl | rfl | rfl | rfl | rfl <;> rfl, holds_box hBD, hBD.lt⟩
      have hS := sortStable_any 6 Try.sizeOf26 Try.isAgg26 Ent9.cs cmpE swoE 30 #[] w.heap.size 0 i D wr wr order_enters (order_lays _ _ _ _) RK (by rw [lD.out]; omega) (SWK.start RK.hH)
      rw [lD.out] at hS
      have HRK := hid RK
      clear hBD RK hR0
      go_wp2_with fail
      refine hS.mono ?_
      rintro e w4 ⟨rfl, M, hM1, hM2, hM3⟩
      have HM := hid (And.intro hM1 (And.intro hM2 hM3))
      clear hM1 hM2 hM3 hS
      go_wp2
      obtain ⟨hM1, hM2, hM3⟩ := HM.out
      have hn := HN.out
      have hlen := hM2.length swoE
      have hlD := lD.out
      have hby := sk_by hM3
      refine bodyPost_ret (v := .slice (some ⟨w.heap.size, 0, none⟩) i i) (by simp [results, Try.results16, go_sem]) rfl ⟨w.heap.size, M, by rw [hn], by omega, ?_, sk_oxms hM3 HRK.out (by omega), ?_, below_by9 hb.out hby (Nat.le_refl _), Nat.le_refl _⟩
      · have e1 : D.map Ent9.o = l.map Ent9.o := by rw [hD.out, List.take_of_length_le (by omega)]
        rw [← e1]
        exact sort_is hM1 hM2
      · intro h hm
        obtain ⟨e1, p', q', e2, e3, e4, e5⟩ := hF.out h (Fil.mem swoE hM2.symm hm)
        exact e1.by hby (fun x hx => by rw [e2] at hx; simp at hx; rw [← hx]; show p' ≠ _; omega) (fun x hx => by rw [e3] at hx; simp at hx; rw [← hx]; show q' ≠ _; omega)
end Go.Proofs.Ytlikpafjlojagaa
