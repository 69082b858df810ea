/- Package match: bytes as values. -/
import Derived.Test.YteaimnlfbbkccaaMatI
import Derived.Test.YteaimnlfbbkccaaMrg7
namespace Go.Proofs.Yteaimnlfbbkccaa
open Go.RowKit
set_option linter.unusedVariables false
set_option maxRecDepth 100000
attribute [local go_sem] Oper.semAt_some

theorem two10 (w : World) (v4 v5 : Value) (t4 t5 : TypeId) :
    ∃ W, (w.alloc (.cells #[v4] t4)).alloc (.cells #[v5] t5) = W ∧ Below w.heap.size w W ∧ W.heap.size = w.heap.size + 2 ∧ Cell10 W w.heap.size v4 ∧ Cell10 W (w.heap.size + 1) v5 := by
  have b1 := below_alloc w (.cells #[v4] t4)
  have b2 := below_alloc (w.alloc (.cells #[v4] t4)) (.cells #[v5] t5)
  have c4 := (Cell10.new w v4 t4).below b2
  have c5 := Cell10.new (w.alloc (.cells #[v4] t4)) v5 t5
  simp only [World.size_alloc] at c5
  exact ⟨_, rfl, below_on b1 b2, by simp, c4, c5⟩
theorem vals_len {b : List Int} {pre : List Ent9} {k : Nat} (h : PreV b k pre) : pre.length ≤ (vals10 b).1.length := by
  have := congrArg (fun x => x.1.length) h.cut.out
  simp only [List.length_append, List.length_map] at this
  omega
/-- what reading values comes to -/
def ReadValsPost (b : List Int) (w : World) (e : Ending) (w' : World) : Prop :=
  ∃ va vc D, e = .returned (.tuple #[.slice va D.length vc, .int .i64 (valE b)]) ∧ D.map Ent9.o = (vals10 b).1 ∧ L9 w' va D ∧ D.length ≤ vc ∧ vc ≤ 9223372036854775807 ∧ Below w.heap.size w w' ∧ New9 w va D

/-- a jump out of a loop goes on behind it -/
theorem wp_exit10 {P : Program} {n : Nat} {Q : Exit → Act → World → Prop} {a : Act} {w : World} (h : Q .normal a w) : (Code.exit n).wp P (Exit.inBlock n Q) a w := by
  go_wp2
  exact h
theorem Oxms.others10 {W W' : World} {a : Option Addr} {l : List Ent9} {row : Option Nat} (h : Oxms W a l) (hg : W.grownBy W' row) (hr : ∀ r, row = some r → ∃ o : Obj, W.heap[r]? = some o ∧ o.isCells = false) : Oxms W' a l := by
  intro i hi
  obtain ⟨b, off, ha, h0, h1, h2, h3, h4, h5⟩ := h i hi
  exact ⟨b, off, ha, cell_kept h0 hg hr, cell_kept h1 hg hr, cell_kept h2 hg hr, cell_kept h3 hg hr, cell_kept h4 hg hr, cell_kept h5 hg hr⟩
theorem L9.others10 {W W' : World} {a : Option Addr} {l : List Ent9} {row : Option Nat} (h : L9 W a l) (hg : W.grownBy W' row) (hr : ∀ r, row = some r → ∃ o : Obj, W.heap[r]? = some o ∧ o.isCells = false) : L9 W' a l :=
  ⟨h.ox.others10 hg hr, fun x hx => ent_others10 (h.ent x hx) hg hr, h.few, h.len⟩

set_option maxHeartbeats 4000000 in
theorem readValues10_any (w : World) (a : Option Addr) (c : Nat) (b : List Int) (hbc : b.length ≤ c) (hc : c ≤ 9223372036854775807) (ho : Octets b) (hI : Ints .u8 w a b) (hcnt : (vals10 b).1.length ≤ 1000) :
    Calls Try.prog 60 #[.slice a b.length c] w (ReadValsPost b w) := by
  have HO := hid ho
  have HI := hid hI
  have HCNT := hid hcnt
  obtain ⟨W0, hW0, hbW, hsz, k4, k5⟩ := two10 w (.slice none 0 0) (.int .i64 0) 22 26
  have HW0 := hid hW0
  clear ho hI hcnt hW0
  refine (callsIn_wide (n := 0)).1 (callsIn_of_wp_marks Try.func60 rfl (by simp [Fence.wide]) ?_)
  refine wpIn_wide.2 ?_
  simp only [Try.ntmps60, List.size_toArray, List.length_cons, List.length_nil, Nat.reduceAdd, Nat.reduceSub, Array.replicate_succ, Array.replicate_zero, List.push_toArray, List.append_toArray, List.nil_append, List.cons_append]
  go_upto_region 3 with fail
  rw [HW0.out]
  go_wp2_with fail
  refine (values10_any _ _ _ _).mono ?_
  rintro e w2 ⟨p, rfl, hbx, hb2, hp1, hp2⟩
  have hB2 : Below w.heap.size w w2 := below_on hbW hb2
  have hs2 := hb2.size
  have m4 := k4.below hb2
  have m5 := k5.below hb2
  have HIT : Hid (IterV w a c p b 0 [] w2) := ⟨preV_nil _, hbx, hp2, Stays.of_below hB2⟩
  have HB2 := hid hB2
  have HP1 : Hid (w.heap.size + 2 ≤ p) := by show _ ≤ _; omega
  clear k4 k5 hbx
  go_wp2_with fail
  have hI0 : ReadAt w w2.heap.size w.heap.size (w.heap.size + 1) 0 [] w2 := ⟨⟨.slice none 0 0, m4, World.ownsRow_nil w2 0 _ 6, (fun g e => by cases e), (by simp)⟩, m5, HB2.out⟩
  refine wp_rangeT (gf := 100) (jc := .exit 0) rfl (fun args w => by simp [callFunc, Try.func100, Try.f100, mark]) (values10_yields w w2 a c p b hbc hc HO.out HI.out HIT.out) (fun k hk => by rcases hk with rfl | hk; exact hp2; have := HB2.out.size; omega) (fun _ => rfl) (fun _ => rfl)
    (ReadAt w w2.heap.size w.heap.size (w.heap.size + 1) 0)
    (fun pre q W => ReadAt w w2.heap.size w.heap.size (w.heap.size + 1) q pre W)
    (ReadAt.own HB2.out.size) (fun pre n => NextV.own _ _ _ _)
    (fun x W W' row hx hg hr => ReadAt.own HB2.out.size x.1 W W' row hx hg hr)
    hI0
    (fun x a' W => ∃ X, a' = { tmps := #[.slice a b.length c, undef, .slice none 0 0, .int .i64 0, .pointer (some ⟨w.heap.size, 0, none⟩), .pointer (some ⟨w.heap.size + 1, 0, none⟩), .pointer (some ⟨X, 0, none⟩), .int .i64 0, undef, undef, .slice a b.length c, .func (.func 100) #[] #[.pointer (some ⟨p, 0, none⟩)], x.val, .int .i64 0, undef, undef, undef, undef, undef, undef, undef, undef, undef, undef, undef, undef, undef, undef, undef, undef, undef], defers := [] } ∧ ∀ j u, x.cs[j]? = some u → W.cell? ⟨X, j, none⟩ = some u)
    (fun x a' _ W W' row hx hg hr => by obtain ⟨X, e, h⟩ := hx; exact ⟨X, e, fun j u hu => cell_kept (h j u hu) hg (fun r e => (hr r e).2)⟩)
    (fun q a' W => ∃ X, a' = { tmps := #[.slice a b.length c, undef, .slice none 0 0, .int .i64 0, .pointer (some ⟨w.heap.size, 0, none⟩), .pointer (some ⟨w.heap.size + 1, 0, none⟩), .pointer (some ⟨X, 0, none⟩), .int .i64 q, undef, undef, .slice a b.length c, .func (.func 100) #[] #[.pointer (some ⟨p, 0, none⟩)], .agg #[.int .i64 0, .int .i64 0, .bool false, .int .u64 0, .slice none 0 0, .slice none 0 0], .int .i64 q, undef, undef, undef, undef, undef, undef, undef, undef, undef, undef, undef, undef, undef, undef, undef, undef, undef], defers := [] })
    (fun x a' _ W W' row hx hg hr => hx) ?asg ?asb ?good ?bad ?done ?stop
  case asg =>
    rintro i ⟨⟨xC, xF, xH, xX, xv, xm⟩, va, vc, ma, mc⟩ W C hC
    dsimp only [Ent9.val, Ent9.cs] at hC ⊢
    gi_wp2
    refine hC _ _ (below_alloc _ _) ⟨W.heap.size, rfl, fun j u hu => ?_⟩
    have hb := BoxL.new W [.int .i64 xC, .int .i64 xF, .bool xH, .int .u64 xX, .slice va xv.length vc, .slice ma xm.length mc] 52
    exact hb.cell j u hu
  case asb =>
    intro i x W C hC
    gi_wp2
    exact hC _ _ (below_alloc _ _) ⟨W.heap.size, rfl⟩
  case good =>
    rintro i pre ⟨⟨xC, xF, xH, xX, xv, xm⟩, xva, xvc, xma, xmc⟩ a' W0' W hWs hlen2 hI0' hcl hI hx ⟨X, rfl, hbx⟩
    dsimp only [Ent9.val, Ent9.cs] at hbx ⊢
    have c0 := hbx 0 _ rfl
    have c1 := hbx 1 _ rfl
    have c2 := hbx 2 _ rfl
    have c3 := hbx 3 _ rfl
    have c4 := hbx 4 _ rfl
    have c5 := hbx 5 _ rfl
    obtain ⟨⟨v, hv, hown, hvB, hents⟩, ht5, hbl⟩ := hI
    obtain ⟨k, hfront⟩ := hx.front
    have hpl := vals_len hfront
    rw [List.length_append] at hpl
    simp only [List.length_cons, List.length_nil] at hpl
    have hcn := HCNT.out
    obtain ⟨va, vc, rfl, _, _, _, _⟩ := own_oxms hown
    have HSTEP := hid (fun w1 w' v' hw1 hg => ReadAt.step (w1 := w1) (w' := w') (v' := v') hI0' hcl (by have := HB2.out.size; omega) (by have := HB2.out.size; omega) (by omega) (Nat.le_refl _) hWs hx.ent hx.few hx.new hv hown hvB hents ht5 hbl hw1 hg (fun k => k = p ∨ k < w.heap.size) (fun k hk => by rcases hk with rfl | hk; exact ⟨hp2, by have := HP1.out; omega⟩; exact ⟨by have := HB2.out.size; omega, by omega⟩))
    have hown1 := hid (hown.kept (by_none_alloc W (.cells #[.int .i64 xC, .int .i64 xF, .bool xH, .int .u64 xX, .slice xva xv.length xvc, .slice xma xm.length xmc] 52)) (by cases (Value.slice va pre.length vc).ownBlock <;> simp))
    have HONE := hid (oxms_one W ⟨⟨xC, xF, xH, xX, xv, xm⟩, xva, xvc, xma, xmc⟩ 52)
    obtain ⟨t1, t2⟩ := hv
    have hbA := hid (by_none_alloc W (.cells #[.int .i64 xC, .int .i64 xF, .bool xH, .int .u64 xX, .slice xva xv.length xvc, .slice xma xm.length xmc] 52))
    have hTlt : w.heap.size < W.heap.size := by have := HB2.out.size; omega
    have hvne : Hid ((Value.slice va pre.length vc).ownBlock ≠ some w.heap.size) := fun e => by have := hvB _ e; have := HB2.out.size; omega
    have HC := hid (fun (w' : World) (hb : (W.alloc (.cells #[.int .i64 xC, .int .i64 xF, .bool xH, .int .u64 xX, .slice xva xv.length xvc, .slice xma xm.length xmc] 52)).grownBy w' (Value.slice va pre.length vc).ownBlock) =>
      ((Cell10.mk t1 t2).kept (hbA.out.block w.heap.size hTlt (by simp))).kept (hb.block w.heap.size (by rw [World.size_alloc]; omega) (fun e => hvne.out e.symm)))
    clear hx hbx hown hvB hents ht5 hbl hI0' hcl hfront
    gi_wp2_with (gi_at_builtin; refine wpIn_app_oxm rfl (.tmp 17) (.tmp 19) rfl rfl hown1.out rfl HONE.out (by omega) rfl ?_; intro va' vc' w' hg; obtain ⟨cX, fX⟩ := HC.out w' hg.by_; have HG := hid hg; clear hg)
    exact HSTEP.out _ _ _ (below_alloc _ _) HG.out
  case bad =>
    rintro i pre q a' W hWs hq hsp hI ⟨X, rfl⟩
    have hq0 : (q != 0) = true := by simpa using hq
    have HI2 := hid hI
    obtain ⟨t1, t2⟩ := hI.t5
    clear hI hq hsp
    gi_wp2
    exact ⟨rfl, (KeepsOthers.setCell _ _ _).from _, HI2.out.setE (by omega) (by have := HB2.out.size; omega) (by omega) q⟩
  case done =>
    rintro D pre W hD hvals0 hI0 hK
    obtain ⟨q, hqq⟩ : ∃ q : Int, q = 0 := ⟨_, rfl⟩
    have hvals : vals10 b = (pre.map Ent9.o, q) := by rw [hqq]; exact hvals0
    have hI : ReadAt w w2.heap.size w.heap.size (w.heap.size + 1) q pre W := by rw [hqq]; exact hI0
    clear hqq hvals0 hI0
    have hD0 : pre.map Ent9.o = (vals10 b).1 := by rw [hvals]
    have hE0 : (vals10 b).2 = q := by rw [hvals]
    have hpl : pre.length ≤ 1000 := by have := congrArg List.length hD0; rw [List.length_map] at this; have := HCNT.out; omega
    obtain ⟨va, vc, hv, hl9, hlc, hcm, hnew⟩ := hI.l9 hpl HB2.out.size
    have HCK := check_any9 pre va vc W hl9 hlc
    rw [hD0] at HCK
    obtain ⟨⟨p1, q1⟩, hck⟩ : ∃ r, check9 (vals10 b).1 = r := ⟨_, rfl⟩
    rw [hck] at HCK
    unfold ckV at HCK
    have hval : valE b = if q1 ≠ 0 then q1 else q := by unfold valE; rw [hck, hE0]
    have HV := hid hval
    have HCC := hid HCK
    have HI3 := hid hI
    have HL9 := hid hl9
    have HNEW := hid hnew
    have HD0 := hid hD0
    obtain ⟨t1, t2⟩ := hv
    obtain ⟨s1, s2⟩ := hI.t5
    clear HCK hck hE0 hD0 hvals hI hl9 hval hnew
    go_wp2_with fail
    refine HCC.out.mono ?_
    rintro e w5 ⟨rfl, hb5⟩
    have hD5 : w5.heap[D]? = some (.deferred (some [])) := (hb5.block D (Array.getElem?_eq_some_iff.1 hK).1).trans hK
    have h4 := (Cell10.mk t1 t2).below hb5
    have h5 := (Cell10.mk s1 s2).below hb5
    have HB5 := hid hb5
    have HBW := hid (below_on HI3.out.bel hb5)
    have hb5s := hb5.size
    clear t1 t2 s1 s2 hb5
    have hlt5 := hb5s
    by_cases hq1 : q1 = 0
    · have HE : Hid (valE b = q) := by show _ = _; rw [HV.out, hq1]; simp
      have gq : (q1 != 0) = false := by simp [hq1]
      have hD5' := hid hD5
      obtain ⟨d1, d2⟩ := And.intro (Wk.cell h4.c) (Wk.cell h5.c)
      clear hq1 h4 h5 hK
      go_upto_region 12 with fail
      refine wp_region_wk (by kernel_rfl) (by kernel_rfl) ?_
      repeat (go_big_quiet_step (fail))
      refine wpQuiet_nil ?_
      rintro w6 ⟨⟨_, hb6⟩, rfl⟩
      clear d1 d2
      have hD6 : w6.heap[D]? = some (.deferred (some [])) := (hb6.block D (Array.getElem?_eq_some_iff.1 hD5'.out).1).trans hD5'.out
      have HB6 := hid (below_on HBW.out hb6)
      have HL6 := hid ((HL9.out.below HB5.out).below hb6)
      clear hb6
      go_wp2_with fail
      have hgp := grownBy_putObj' w6 D (.deferred none)
      have hr : ∀ r, some D = some r → ∃ o : Obj, w6.heap[r]? = some o ∧ o.isCells = false := fun r e => by cases e; exact ⟨_, hD6, rfl⟩
      refine ⟨by simp, .inl ⟨_, _, rfl, run_takeDeferred hD6, ?_⟩⟩
      refine ⟨.tuple #[.slice va pre.length vc, .int .i64 q], ?_, va, vc, pre, by rw [HE.out], HD0.out, HL6.out.others10 hgp hr, hlc, hcm, HB6.out.grown hgp HB6.out.size (fun k e => by cases e; have := HB2.out.size; omega), HNEW.out⟩
      simp [results, Try.f60, go_sem]
    · have HE : Hid (valE b = q1) := by show _ = _; rw [HV.out, if_pos hq1]
      have gq : (q1 != 0) = true := by simpa using hq1
      have hD5' := hid hD5
      obtain ⟨s1, s2⟩ := h5
      have x4 := h4.far (g := w.heap.size + 1) (by omega) (.int .i64 q1)
      have x5 := (Cell10.mk s1 s2).set (.int .i64 q1)
      have hbx := HBW.out.setCell (p := ⟨w.heap.size + 1, 0, none⟩) (by show w.heap.size ≤ w.heap.size + 1; omega) (.int .i64 q1)
      have hKx : (w5.setCell ⟨w.heap.size + 1, 0, none⟩ (.int .i64 q1)).heap[D]? = some (.deferred (some [])) := (Below.heap_setCell _ _ _ _ (by show D ≠ w.heap.size + 1; have := HB2.out.size; omega)).trans hD5
      have hset := HI3.out.below HB5.out |>.setE (by omega) (by omega) (by omega) q1
      obtain ⟨va', vc', hv', hl9', _, _, _⟩ := hset.l9 hpl HB2.out.size
      have hsame : va' = va ∧ vc' = vc := by
        have e := hv'.c
        rw [x4.c] at e
        simp at e
        exact ⟨e.1.symm, e.2.symm⟩
      obtain ⟨rfl, rfl⟩ := hsame
      obtain ⟨W6, hW6⟩ : ∃ W6, w5.setCell ⟨w.heap.size + 1, 0, none⟩ (.int .i64 q1) = W6 := ⟨_, rfl⟩
      rw [hW6] at x4 x5 hbx hKx hl9'
      have HW6 := hid hW6
      have HBX := hid hbx
      have HLX := hid hl9'
      have HX := hid (And.intro x4 x5)
      clear hq1 h4 hK x4 x5 hbx hset hv' hl9' hW6 HI3
      go_upto_region 12 with fail
      rw [HW6.out]
      clear s1 s2
      have d1 := Wk.cell HX.out.1.c
      have d2 := Wk.cell HX.out.2.c
      refine wp_region_wk (by kernel_rfl) (by kernel_rfl) ?_
      repeat (go_big_quiet_step (fail))
      refine wpQuiet_nil ?_
      rintro w6 ⟨⟨_, hb6⟩, rfl⟩
      clear d1 d2
      have hD6 : w6.heap[D]? = some (.deferred (some [])) := (hb6.block D (Array.getElem?_eq_some_iff.1 hKx).1).trans hKx
      have HB6 := hid (below_on HBX.out hb6)
      have HL6 := hid (HLX.out.below hb6)
      clear hb6
      go_wp2_with fail
      have hgp := grownBy_putObj' w6 D (.deferred none)
      have hr : ∀ r, some D = some r → ∃ o : Obj, w6.heap[r]? = some o ∧ o.isCells = false := fun r e => by cases e; exact ⟨_, hD6, rfl⟩
      refine ⟨by simp, .inl ⟨_, _, rfl, run_takeDeferred hD6, ?_⟩⟩
      refine ⟨.tuple #[.slice va' pre.length vc', .int .i64 q1], ?_, va', vc', pre, by rw [HE.out], HD0.out, HL6.out.others10 hgp hr, hlc, hcm, HB6.out.grown hgp HB6.out.size (fun k e => by cases e; have := HB2.out.size; omega), HNEW.out⟩
      simp [results, Try.f60, go_sem]
  case stop =>
    rintro D pre q W hD hvals hI hK
    refine (wpIn_wide (n := 0)).2 ?_
    dsimp only
    refine wp_exit10 ?_
    have hD0 : pre.map Ent9.o = (vals10 b).1 := by rw [hvals]
    have hE0 : (vals10 b).2 = q := by rw [hvals]
    have hpl : pre.length ≤ 1000 := by have := congrArg List.length hD0; rw [List.length_map] at this; have := HCNT.out; omega
    obtain ⟨va, vc, hv, hl9, hlc, hcm, hnew⟩ := hI.l9 hpl HB2.out.size
    have HCK := check_any9 pre va vc W hl9 hlc
    rw [hD0] at HCK
    obtain ⟨⟨p1, q1⟩, hck⟩ : ∃ r, check9 (vals10 b).1 = r := ⟨_, rfl⟩
    rw [hck] at HCK
    unfold ckV at HCK
    have hval : valE b = if q1 ≠ 0 then q1 else q := by unfold valE; rw [hck, hE0]
    have HV := hid hval
    have HCC := hid HCK
    have HI3 := hid hI
    have HL9 := hid hl9
    have HNEW := hid hnew
    have HD0 := hid hD0
    obtain ⟨t1, t2⟩ := hv
    obtain ⟨s1, s2⟩ := hI.t5
    clear HCK hck hE0 hD0 hvals hI hl9 hval hnew
    go_wp2_with fail
    refine HCC.out.mono ?_
    rintro e w5 ⟨rfl, hb5⟩
    have hD5 : w5.heap[D]? = some (.deferred (some [])) := (hb5.block D (Array.getElem?_eq_some_iff.1 hK).1).trans hK
    have h4 := (Cell10.mk t1 t2).below hb5
    have h5 := (Cell10.mk s1 s2).below hb5
    have HB5 := hid hb5
    have HBW := hid (below_on HI3.out.bel hb5)
    have hb5s := hb5.size
    clear t1 t2 s1 s2 hb5
    have hlt5 := hb5s
    by_cases hq1 : q1 = 0
    · have HE : Hid (valE b = q) := by show _ = _; rw [HV.out, hq1]; simp
      have gq : (q1 != 0) = false := by simp [hq1]
      have hD5' := hid hD5
      obtain ⟨d1, d2⟩ := And.intro (Wk.cell h4.c) (Wk.cell h5.c)
      clear hq1 h4 h5 hK
      go_upto_region 12 with fail
      refine wp_region_wk (by kernel_rfl) (by kernel_rfl) ?_
      repeat (go_big_quiet_step (fail))
      refine wpQuiet_nil ?_
      rintro w6 ⟨⟨_, hb6⟩, rfl⟩
      clear d1 d2
      have hD6 : w6.heap[D]? = some (.deferred (some [])) := (hb6.block D (Array.getElem?_eq_some_iff.1 hD5'.out).1).trans hD5'.out
      have HB6 := hid (below_on HBW.out hb6)
      have HL6 := hid ((HL9.out.below HB5.out).below hb6)
      clear hb6
      go_wp2_with fail
      have hgp := grownBy_putObj' w6 D (.deferred none)
      have hr : ∀ r, some D = some r → ∃ o : Obj, w6.heap[r]? = some o ∧ o.isCells = false := fun r e => by cases e; exact ⟨_, hD6, rfl⟩
      refine ⟨by simp, .inl ⟨_, _, rfl, run_takeDeferred hD6, ?_⟩⟩
      refine ⟨.tuple #[.slice va pre.length vc, .int .i64 q], ?_, va, vc, pre, by rw [HE.out], HD0.out, HL6.out.others10 hgp hr, hlc, hcm, HB6.out.grown hgp HB6.out.size (fun k e => by cases e; have := HB2.out.size; omega), HNEW.out⟩
      simp [results, Try.f60, go_sem]
    · have HE : Hid (valE b = q1) := by show _ = _; rw [HV.out, if_pos hq1]
      have gq : (q1 != 0) = true := by simpa using hq1
      have hD5' := hid hD5
      obtain ⟨s1, s2⟩ := h5
      have x4 := h4.far (g := w.heap.size + 1) (by omega) (.int .i64 q1)
      have x5 := (Cell10.mk s1 s2).set (.int .i64 q1)
      have hbx := HBW.out.setCell (p := ⟨w.heap.size + 1, 0, none⟩) (by show w.heap.size ≤ w.heap.size + 1; omega) (.int .i64 q1)
      have hKx : (w5.setCell ⟨w.heap.size + 1, 0, none⟩ (.int .i64 q1)).heap[D]? = some (.deferred (some [])) := (Below.heap_setCell _ _ _ _ (by show D ≠ w.heap.size + 1; have := HB2.out.size; omega)).trans hD5
      have hset := HI3.out.below HB5.out |>.setE (by omega) (by omega) (by omega) q1
      obtain ⟨va', vc', hv', hl9', _, _, _⟩ := hset.l9 hpl HB2.out.size
      have hsame : va' = va ∧ vc' = vc := by
        have e := hv'.c
        rw [x4.c] at e
        simp at e
        exact ⟨e.1.symm, e.2.symm⟩
      obtain ⟨rfl, rfl⟩ := hsame
      obtain ⟨W6, hW6⟩ : ∃ W6, w5.setCell ⟨w.heap.size + 1, 0, none⟩ (.int .i64 q1) = W6 := ⟨_, rfl⟩
      rw [hW6] at x4 x5 hbx hKx hl9'
      have HW6 := hid hW6
      have HBX := hid hbx
      have HLX := hid hl9'
      have HX := hid (And.intro x4 x5)
      clear hq1 h4 hK x4 x5 hbx hset hv' hl9' hW6 HI3
      go_upto_region 12 with fail
      rw [HW6.out]
      clear s1 s2
      have d1 := Wk.cell HX.out.1.c
      have d2 := Wk.cell HX.out.2.c
      refine wp_region_wk (by kernel_rfl) (by kernel_rfl) ?_
      repeat (go_big_quiet_step (fail))
      refine wpQuiet_nil ?_
      rintro w6 ⟨⟨_, hb6⟩, rfl⟩
      clear d1 d2
      have hD6 : w6.heap[D]? = some (.deferred (some [])) := (hb6.block D (Array.getElem?_eq_some_iff.1 hKx).1).trans hKx
      have HB6 := hid (below_on HBX.out hb6)
      have HL6 := hid (HLX.out.below hb6)
      clear hb6
      go_wp2_with fail
      have hgp := grownBy_putObj' w6 D (.deferred none)
      have hr : ∀ r, some D = some r → ∃ o : Obj, w6.heap[r]? = some o ∧ o.isCells = false := fun r e => by cases e; exact ⟨_, hD6, rfl⟩
      refine ⟨by simp, .inl ⟨_, _, rfl, run_takeDeferred hD6, ?_⟩⟩
      refine ⟨.tuple #[.slice va' pre.length vc', .int .i64 q1], ?_, va', vc', pre, by rw [HE.out], HD0.out, HL6.out.others10 hgp hr, hlc, hcm, HB6.out.grown hgp HB6.out.size (fun k e => by cases e; have := HB2.out.size; omega), HNEW.out⟩
      simp [results, Try.f60, go_sem]
end Go.Proofs.Yteaimnlfbbkccaa
