/- Put together out of several texts. -/
import Derived.Test.YtdjlbejhphbcoaaGreatV12
import Derived.Test.YtdjlbejhphbcoaaGreatV15
import Derived.Test.YtdjlbejhphbcoaaGreatV20
import Derived.Test.YtdjlbejhphbcoaaGreatV4
import Derived.Test.YtdjlbejhphbcoaaGreatV26
import Derived.LoopN
namespace Go.Proofs.YtdjlbejhphbcoaaGreat
open Go.RowKit
set_option linter.unusedVariables false
set_option maxRecDepth 100000
attribute [local go_sem] Oper.semAt_some

/-- what bytes as actions come to -/
def DecPost13 (b : List Int) (w : World) (e : Ending) (w' : World) : Prop :=
  (∃ q, dec13 b = .error q ∧ q ≠ 0 ∧ e = .returned (.tuple #[.slice none 0 0, .int .i64 q]) ∧ Below w.heap.size w w') ∨
  (∃ (D : List Ent12) (va : Option Addr) (vc : Nat), dec13 b = .ok (D.map Ent12.act) ∧ e = .returned (.tuple #[.slice va D.length vc, .int .i64 0]) ∧ D.length ≤ 64 ∧ D.length ≤ vc ∧ vc ≤ 9223372036854775807 ∧ Acts w' va D ∧ AllIn w' D ∧ NewA w va D ∧ (va = none ∨ ∃ g, va = some ⟨g, 0, none⟩) ∧ Below w.heap.size w w')
theorem dec13_err {b : List Int} {q : Int} (h : cut13 64 b = .error q) : dec13 b = .error q := by unfold dec13; rw [h]
theorem dec13_ok {b : List Int} {l : List Act12} (h : cut13 64 b = .ok l) (hb : b.length ≤ 65528) : dec13 b = .ok l := by unfold dec13; rw [h]; simp only; rw [if_neg (by omega)]
theorem dec13_long {b : List Int} {l : List Act12} (h : cut13 64 b = .ok l) (hb : 65528 < b.length) : dec13 b = .error 514 := by unfold dec13; rw [h]; simp only; rw [if_pos hb]
theorem cut_most13 {k : Nat} {b : List Int} {l : List Act12} (h : cut13 k b = .ok l) : l.length ≤ k := by
  induction k generalizing b l with
  | zero =>
    rw [cut13] at h
    split at h
    · cases h; simp
    · cases h
  | succ k ih =>
    by_cases hb : b = []
    · subst hb; rw [cut_nil] at h; cases h; simp
    · cases hd : dec12 b with
      | error q => rw [cut_err hb hd] at h; cases h
      | ok r =>
        obtain ⟨a, n⟩ := r
        rw [cut_step hb hd] at h
        cases hc : cut13 k (b.drop n) with
        | error q => rw [hc] at h; cases h
        | ok m => rw [hc] at h; cases h; have := ih hc; simp; omega
/-- the error that is told of the last one -/
def lastQ (pre : List Ent12) (s : Ent12 × Int) : Int := if pre.length = 64 then 520 else s.2
structure StopA (w0 : World) (R2 R3 : Nat) (q : Int) (W : World) : Prop where
  r2 : Cell13 W R2 (.slice none 0 0)
  r3 : Cell13 W R3 (.int .i64 q)
  bel : Below w0.heap.size w0 W
set_option maxHeartbeats 8000000 in
theorem decode13_any (w : World) (a : Option Addr) (c : Nat) (b : List Int) (hH : Holds w a c b) :
    Calls Tryz.prog 32 #[.slice a b.length c] w (DecPost13 b w) := by
  have HH := hid hH
  obtain ⟨W0, hW0, hbW, hsz, k2, k3, k4⟩ := three13 w (.slice none 0 0) (.int .i64 0) (.slice none 0 0) 43 30 43
  have HW0 := hid hW0
  have hcx := hH.max
  have hbx0 := hH.cap
  clear hH hW0
  refine (callsIn_wide (n := 0)).1 (callsIn_of_wp_marks Tryz.func32 rfl (by simp [Fence.wide]) ?_)
  refine wpIn_wide.2 ?_
  simp only [Tryz.ntmps32, List.size_toArray, List.length_cons, List.length_nil, Nat.reduceAdd, Nat.reduceSub, Array.replicate_succ, Array.replicate_zero, List.push_toArray, List.append_toArray, List.nil_append, List.cons_append]
  go_upto_region 2 with fail
  rw [HW0.out]
  go_wp2_with fail
  refine (actions_any _ _ _ _).mono ?_
  rintro e w2 ⟨p, rfl, hbx, hb2, hp1, hp2⟩
  have hB2 : Below w.heap.size w w2 := below_on hbW hb2
  have hs2 := hb2.size
  have m2 := k2.below hb2
  have m3 := k3.below hb2
  have m4 := k4.below hb2
  have HIT : Hid (IterA w a c p b 0 [] w2) := ⟨preA_nil _, hbx, hp2, Stays13.of_below hB2⟩
  have HB2 := hid hB2
  have HP1 : Hid (w.heap.size + 3 ≤ p) := by show _ ≤ _; omega
  clear k2 k3 k4 hbx
  go_wp2_with fail
  have hI0 : CutA w w2.heap.size (w.heap.size + 1 + 1) w.heap.size (w.heap.size + 1) [] w2 := ⟨⟨.slice none 0 0, m4, World.ownsRow_nil w2 0 _ 10, (fun g e => by cases e), (by simp)⟩, m2, m3, HB2.out, Nat.le_refl _⟩
  refine wp_rangeU (gf := 110) (jc := .ret) rfl (fun args w => by simp [callFunc, Tryz.func110, Tryz.f110, mark]) (actions_yields w w2 a c p b HH.out HIT.out) (fun k hk => by rcases hk with rfl | hk; exact hp2; have := HB2.out.size; omega) (fun _ => rfl) (fun _ => rfl)
    (CutA w w2.heap.size (w.heap.size + 1 + 1) w.heap.size (w.heap.size + 1))
    (fun pre s W => StopA w w.heap.size (w.heap.size + 1) (lastQ pre s) W)
    (CutA.own HB2.out.size) (fun pre n => NextA.own _ _ _ _)
    (fun x W W' row hx hg hr => ⟨hx.r2.others hg (fun r e => (hr r e).2), hx.r3.others hg (fun r e => (hr r e).2), ownFrom_below (Nat.le_refl _) HB2.out.size () W W' row hx.bel hg hr⟩)
    hI0
    (fun x a' W => ∃ X, a' = { tmps := #[.slice a b.length c, undef, .pointer (some ⟨w.heap.size, 0, none⟩), .pointer (some ⟨w.heap.size + 1, 0, none⟩), .pointer (some ⟨w.heap.size + 1 + 1, 0, none⟩), .pointer (some ⟨X, 0, none⟩), .int .i64 0, .slice a b.length c, .func (.func 110) #[] #[.pointer (some ⟨p, 0, none⟩)], x.val, .int .i64 0, undef, undef, undef, undef, undef, undef, undef, undef, undef, undef, undef, undef, undef, undef, undef, undef], defers := [] } ∧ ∀ j u, x.cs[j]? = some u → W.cell? ⟨X, j, none⟩ = some u)
    (fun x a' _ W W' row hx hg hr => by obtain ⟨X, e, h⟩ := hx; exact ⟨X, e, fun j u hu => cell_kept (h j u hu) hg (fun r e => (hr r e).2)⟩)
    (fun s a' W => ∃ X, a' = { tmps := #[.slice a b.length c, undef, .pointer (some ⟨w.heap.size, 0, none⟩), .pointer (some ⟨w.heap.size + 1, 0, none⟩), .pointer (some ⟨w.heap.size + 1 + 1, 0, none⟩), .pointer (some ⟨X, 0, none⟩), .int .i64 s.2, .slice a b.length c, .func (.func 110) #[] #[.pointer (some ⟨p, 0, none⟩)], s.1.val, .int .i64 s.2, undef, undef, undef, undef, undef, undef, undef, undef, undef, undef, undef, undef, undef, undef, undef, undef], defers := [] })
    (fun x a' _ W W' row hx hg hr => hx) ?asg ?asb ?good ?bad ?done ?stop
  case asg =>
    rintro i ⟨T, A, B, ⟨C0, F, H, X, v, m⟩, va, vc, ma, mc, d, da, dc⟩ W C hC
    dsimp only [Ent12.val, Ent12.cs] at hC ⊢
    gi_wp2
    refine hC _ _ (below_alloc _ _) ⟨W.heap.size, rfl, fun j u hu => ?_⟩
    have hb := BoxL.new W [.int .i64 T, .int .u64 A, .int .u64 B, .int .i64 C0, .int .i64 F, .bool H, .int .u64 X, .slice va v.length vc, .slice ma m.length mc, .slice da d.length dc] 27
    exact hb.cell j u hu
  case asb =>
    rintro i ⟨⟨T, A, B, ⟨C0, F, H, X, v, m⟩, va, vc, ma, mc, d, da, dc⟩, q⟩ W C hC
    dsimp only [Ent12.val] at hC ⊢
    gi_wp2
    exact hC _ _ (below_alloc _ _) ⟨W.heap.size, rfl⟩
  case good =>
    rintro i pre x a' W0' W hWs hlen2 hI0' hcl hI hx ⟨X, rfl, hbx⟩
    obtain ⟨⟨v, hv, hown, hvB, hents⟩, hr2, hr3, hbl, _⟩ := hI
    obtain ⟨va, vc, rfl, _, _, _, _⟩ := own_acts hown
    have HSTEP := hid (fun w1 w' v' hw1 hg => CutA.step (w1 := w1) (w' := w') (v' := v') hI0' hcl (by have := HB2.out.size; omega) (by have := HB2.out.size; omega) (by have := HB2.out.size; omega) (by omega) (by omega) (by omega) hWs hx.ent hx.new hv hown hvB hents hr2 hr3 hbl hw1 hg (fun k => k = p ∨ k < w.heap.size) (fun k hk => by rcases hk with rfl | hk; exact ⟨hp2, by have := HP1.out; omega⟩; exact ⟨by have := HB2.out.size; omega, by omega⟩))
    have hTlt : w.heap.size + 1 + 1 < W.heap.size := by have := HB2.out.size; omega
    have hvne : Hid ((Value.slice va pre.length vc).ownBlock ≠ some (w.heap.size + 1 + 1)) := fun e => by have := hvB _ e; have := HB2.out.size; omega
    have hp64 : pre.length < 64 := hlen2
    have hpi : ¬ (pre.length : Int) = 64 := by omega
    have hpn : ¬ pre.length = 64 := by omega
    clear hx hents hbl hI0' hcl hr2 hr3
    obtain ⟨T, A, B, ⟨C, F, H, X1, v, m⟩, xva, xvc, xma, xmc, d, xda, xdc⟩ := x
    dsimp only [Ent12.val, Ent12.cs] at hbx HSTEP ⊢
    have c0 := hbx 0 _ rfl
    have c1 := hbx 1 _ rfl
    have c2 := hbx 2 _ rfl
    have c3 := hbx 3 _ rfl
    have c4 := hbx 4 _ rfl
    have c5 := hbx 5 _ rfl
    have c6 := hbx 6 _ rfl
    have c7 := hbx 7 _ rfl
    have c8 := hbx 8 _ rfl
    have c9 := hbx 9 _ rfl
    have hown1 := hid (hown.kept (by_none_alloc W (.cells #[.int .i64 T, .int .u64 A, .int .u64 B, .int .i64 C, .int .i64 F, .bool H, .int .u64 X1, .slice xva v.length xvc, .slice xma m.length xmc, .slice xda d.length xdc] 27)) (by cases (Value.slice va pre.length vc).ownBlock <;> simp))
    have HONE := hid (acts_one W ⟨T, A, B, ⟨C, F, H, X1, v, m⟩, xva, xvc, xma, xmc, d, xda, xdc⟩ 27)
    obtain ⟨t1, t2⟩ := hv
    have hbA := hid (by_none_alloc W (.cells #[.int .i64 T, .int .u64 A, .int .u64 B, .int .i64 C, .int .i64 F, .bool H, .int .u64 X1, .slice xva v.length xvc, .slice xma m.length xmc, .slice xda d.length xdc] 27))
    have HC := hid (fun (w' : World) (hb : (W.alloc (.cells #[.int .i64 T, .int .u64 A, .int .u64 B, .int .i64 C, .int .i64 F, .bool H, .int .u64 X1, .slice xva v.length xvc, .slice xma m.length xmc, .slice xda d.length xdc] 27)).grownBy w' (Value.slice va pre.length vc).ownBlock) =>
      ((Cell13.mk t1 t2).kept (hbA.out.block (w.heap.size + 1 + 1) hTlt (by simp))).kept (hb.block (w.heap.size + 1 + 1) (by rw [World.size_alloc]; omega) (fun e => hvne.out e.symm)))
    clear hbx hown hvB
    gi_wp2_with (gi_at_builtin; refine wpIn_app_act rfl (.tmp 19) (.tmp 21) rfl rfl hown1.out rfl HONE.out (by omega) rfl ?_; intro va' vc' w' hg; obtain ⟨cX, fX⟩ := HC.out w' hg.by_; have HG := hid hg; clear hg)
    exact HSTEP.out _ _ _ (below_alloc _ _) HG.out
  case bad =>
    rintro i pre ⟨x, q⟩ a' W hWs hsp hI ⟨X, rfl⟩
    have HSP := hid hsp
    obtain ⟨va, vc, hv, _⟩ := hI.list HB2.out.size
    have HI2 := hid hI
    obtain ⟨t1, t2⟩ := hv
    obtain ⟨s1, s2⟩ := hI.r2
    obtain ⟨s3, s4⟩ := hI.r3
    have hsW := HB2.out.size
    clear hI hsp
    have e1 : W.setCell ⟨w.heap.size, 0, none⟩ (.slice none 0 0) = W.setCell ⟨w.heap.size, 0, none⟩ (.slice none 0 0) := rfl
    have r2 : ∀ q : Int, Cell13 ((W.setCell ⟨w.heap.size, 0, none⟩ (.slice none 0 0)).setCell ⟨w.heap.size + 1, 0, none⟩ (.int .i64 q)) w.heap.size (.slice none 0 0) := fun q => (HI2.out.r2.set _).far (by omega) _
    have r3 : ∀ q : Int, Cell13 ((W.setCell ⟨w.heap.size, 0, none⟩ (.slice none 0 0)).setCell ⟨w.heap.size + 1, 0, none⟩ (.int .i64 q)) (w.heap.size + 1) (.int .i64 q) := fun q => (HI2.out.r3.far (by omega) _).set _
    have rb : ∀ q : Int, Below w.heap.size w ((W.setCell ⟨w.heap.size, 0, none⟩ (.slice none 0 0)).setCell ⟨w.heap.size + 1, 0, none⟩ (.int .i64 q)) := fun q => (HI2.out.bel.setCell (by show w.heap.size ≤ w.heap.size; omega) _).setCell (by show w.heap.size ≤ w.heap.size + 1; omega) _
    have RR := hid (And.intro r2 (And.intro r3 rb))
    clear r2 r3 rb e1
    by_cases h64 : pre.length = 64
    · have hpi : (pre.length : Int) = 64 := by omega
      have hlq : lastQ pre (x, q) = 520 := by unfold lastQ; rw [if_pos h64]
      have HLQ := hid hlq
      clear hlq
      gi_wp2
      exact ⟨rfl, ((KeepsOthers.setCell _ _ _).trans (KeepsOthers.setCell _ _ _)).from _, by rw [HLQ.out]; exact ⟨RR.out.1 _, RR.out.2.1 _, RR.out.2.2 _⟩⟩
    · have hpi : ¬ (pre.length : Int) = 64 := by omega
      have hlq : lastQ pre (x, q) = q := by unfold lastQ; rw [if_neg h64]
      have HLQ := hid hlq
      have hq0 : (q != 0) = true := by have := HSP.out.err h64; simpa using this
      clear hlq
      gi_wp2
      exact ⟨rfl, ((KeepsOthers.setCell _ _ _).trans (KeepsOthers.setCell _ _ _)).from _, by rw [HLQ.out]; exact ⟨RR.out.1 _, RR.out.2.1 _, RR.out.2.2 _⟩⟩
  case done =>
    rintro D pre W hD hcut hI hK
    obtain ⟨va, vc, hv, hA, hall, hlc, hcm, hnew, hspot, hbox, hfar⟩ := hI.list HB2.out.size
    have HCUT := hid hcut
    have HI3 := hid (And.intro hA (And.intro hall (And.intro hnew (And.intro hbox hfar))))
    have HR := hid (And.intro hI.r2 (And.intro hI.r3 hI.bel))
    have hp64 : pre.length ≤ 64 := by
      have := cut_most13 HCUT.out
      rwa [List.length_map] at this
    obtain ⟨t1, t2⟩ := hv
    obtain ⟨s1, s2⟩ := hI.r2
    obtain ⟨s3, s4⟩ := hI.r3
    have hsW := HB2.out.size
    clear hA hall hnew hI hcut hbox hfar
    by_cases hbig : 65528 < b.length
    · have hbi : (65528 : Int) < (b.length : Int) := by omega
      have x2 := (HR.out.1.set (.slice none 0 0)).far (g := w.heap.size + 1) (by omega) (.int .i64 514)
      have x3 := (HR.out.2.1.far (g := w.heap.size) (by omega) (.slice none 0 0)).set (.int .i64 514)
      have hbx := (HR.out.2.2.setCell (p := ⟨w.heap.size, 0, none⟩) (Nat.le_refl _) (.slice none 0 0)).setCell (p := ⟨w.heap.size + 1, 0, none⟩) (by show w.heap.size ≤ w.heap.size + 1; omega) (.int .i64 514)
      have hKx : ((W.setCell ⟨w.heap.size, 0, none⟩ (.slice none 0 0)).setCell ⟨w.heap.size + 1, 0, none⟩ (.int .i64 514)).heap[D]? = some (.deferred (some [])) :=
        (Below.heap_setCell _ _ _ _ (by show D ≠ w.heap.size + 1; omega)).trans ((Below.heap_setCell _ _ _ _ (by show D ≠ w.heap.size; omega)).trans hK)
      obtain ⟨W6, hW6⟩ : ∃ W6, (W.setCell ⟨w.heap.size, 0, none⟩ (.slice none 0 0)).setCell ⟨w.heap.size + 1, 0, none⟩ (.int .i64 514) = W6 := ⟨_, rfl⟩
      rw [hW6] at x2 x3 hbx hKx
      have HW6 := hid hW6
      have HX := hid (And.intro x2 (And.intro x3 (And.intro hbx hKx)))
      clear x2 x3 hbx hKx hW6 hK
      go_wp2_with fail
      rw [HW6.out]
      obtain ⟨x2, x3, hbx, hKx⟩ := HX.out
      have hgp := grownBy_putObj' W6 D (.deferred none)
      have hr : ∀ r, some D = some r → ∃ o : Obj, W6.heap[r]? = some o ∧ o.isCells = false := fun r e => by cases e; exact ⟨_, hKx, rfl⟩
      have q2 := cell_kept x2.c hgp hr
      have q3 := cell_kept x3.c hgp hr
      refine ⟨by simp, .inl ⟨_, _, rfl, run_takeDeferred hKx, ?_⟩⟩
      refine ⟨.tuple #[.slice none 0 0, .int .i64 514], ?_, .inl ⟨514, dec13_long HCUT.out hbig, by decide, rfl, hbx.grown hgp hbx.size (fun k e => by cases e; have := HB2.out.size; omega)⟩⟩
      simp [results, Tryz.f32, go_sem, q2, q3]
    · have hbi : ¬ (65528 : Int) < (b.length : Int) := by omega
      have x2 := (HR.out.1.set (.slice va pre.length vc)).far (g := w.heap.size + 1) (by omega) (.int .i64 0)
      have x3 := (HR.out.2.1.far (g := w.heap.size) (by omega) (.slice va pre.length vc)).set (.int .i64 0)
      have hbx := (HR.out.2.2.setCell (p := ⟨w.heap.size, 0, none⟩) (Nat.le_refl _) (.slice va pre.length vc)).setCell (p := ⟨w.heap.size + 1, 0, none⟩) (by show w.heap.size ≤ w.heap.size + 1; omega) (.int .i64 0)
      have hKx : ((W.setCell ⟨w.heap.size, 0, none⟩ (.slice va pre.length vc)).setCell ⟨w.heap.size + 1, 0, none⟩ (.int .i64 0)).heap[D]? = some (.deferred (some [])) :=
        (Below.heap_setCell _ _ _ _ (by show D ≠ w.heap.size + 1; omega)).trans ((Below.heap_setCell _ _ _ _ (by show D ≠ w.heap.size; omega)).trans hK)
      have b6 := by_set13 W w.heap.size (.slice va pre.length vc)
      have b7 := by_set13 (W.setCell ⟨w.heap.size, 0, none⟩ (.slice va pre.length vc)) (w.heap.size + 1) (.int .i64 0)
      have hA6 : Acts ((W.setCell ⟨w.heap.size, 0, none⟩ (.slice va pre.length vc)).setCell ⟨w.heap.size + 1, 0, none⟩ (.int .i64 0)) va pre :=
        (HI3.out.1.by b6 (fun q hq => by have := HI3.out.2.2.2.1 q hq; omega)).by b7 (fun q hq => by have := HI3.out.2.2.2.1 q hq; omega)
      have hI6 : AllIn ((W.setCell ⟨w.heap.size, 0, none⟩ (.slice va pre.length vc)).setCell ⟨w.heap.size + 1, 0, none⟩ (.int .i64 0)) pre := fun x hx =>
        ((HI3.out.2.1 x hx).far b6 ((HI3.out.2.2.2.2 x hx).mono fun k e => by simp at e; omega)).far b7 ((HI3.out.2.2.2.2 x hx).mono fun k e => by simp at e; omega)
      obtain ⟨W6, hW6⟩ : ∃ W6, (W.setCell ⟨w.heap.size, 0, none⟩ (.slice va pre.length vc)).setCell ⟨w.heap.size + 1, 0, none⟩ (.int .i64 0) = W6 := ⟨_, rfl⟩
      rw [hW6] at x2 x3 hbx hKx hA6 hI6
      have HW6 := hid hW6
      have HX := hid (And.intro x2 (And.intro x3 (And.intro hbx (And.intro hKx (And.intro hA6 hI6)))))
      clear x2 x3 hbx hKx hW6 hK hA6 hI6 b6 b7
      go_wp2_with fail
      rw [HW6.out]
      obtain ⟨x2, x3, hbx, hKx, hA6, hI6⟩ := HX.out
      have hgp := grownBy_putObj' W6 D (.deferred none)
      have hr : ∀ r, some D = some r → ∃ o : Obj, W6.heap[r]? = some o ∧ o.isCells = false := fun r e => by cases e; exact ⟨_, hKx, rfl⟩
      have q2 := cell_kept x2.c hgp hr
      have q3 := cell_kept x3.c hgp hr
      refine ⟨by simp, .inl ⟨_, _, rfl, run_takeDeferred hKx, ?_⟩⟩
      refine ⟨.tuple #[.slice va pre.length vc, .int .i64 0], ?_, .inr ⟨pre, va, vc, dec13_ok HCUT.out (by omega), rfl, hp64, hlc, hcm, hA6.others hgp hr, fun x hx => (hI6 x hx).others hgp hr, HI3.out.2.2.1, hspot, hbx.grown hgp hbx.size (fun k e => by cases e; have := HB2.out.size; omega)⟩⟩
      simp [results, Tryz.f32, go_sem, q2, q3]
  case stop =>
    rintro D pre s W hD hsp ⟨hc2, hc3, hbW⟩ hK
    have HSP := hid hsp
    have hgp := grownBy_putObj' W D (.deferred none)
    have hr : ∀ r, some D = some r → ∃ o : Obj, W.heap[r]? = some o ∧ o.isCells = false := fun r e => by cases e; exact ⟨_, hK, rfl⟩
    have q2 := cell_kept hc2.c hgp hr
    have q3 := cell_kept hc3.c hgp hr
    have HR := hid hr
    clear hr hsp
    gi_wp2
    refine ⟨by simp, .inl ⟨_, _, rfl, run_takeDeferred hK, ?_⟩⟩
    refine ⟨.tuple #[.slice none 0 0, .int .i64 (lastQ pre s)], ?_, .inl ⟨lastQ pre s, dec13_err HSP.out.is, ?_, rfl, hbW.grown hgp hbW.size (fun k e => by cases e; have := HB2.out.size; omega)⟩⟩
    · simp [results, Tryz.f32, go_sem, q2, q3]
    · unfold lastQ
      by_cases h64 : pre.length = 64
      · rw [if_pos h64]; decide
      · rw [if_neg h64]; exact HSP.out.err h64
end Go.Proofs.YtdjlbejhphbcoaaGreat
namespace Go.Proofs.YtdjlbejhphbcoaaGreat
open Go.RowKit
set_option linter.unusedVariables false
set_option maxRecDepth 100000

/-- a list that is there: its actions too -/
structure ListA (w : World) (a : Option Addr) (D : List Ent12) : Prop where
  acts : Acts w a D
  all : AllIn w D
/-- what reading n bytes that are there comes to -/
def TakePost13 (l : List Int) (n : Nat) (w0 : World) (g M : Nat) (r s o : Int) (e : Ending) (w' : World) : Prop :=
  (∃ q, dec13 (l.take n) = .error q ∧ q ≠ 0 ∧ e = .returned (.slice none 0 0) ∧ CurOn w0 w' g M l r s o q) ∨
  (∃ (D : List Ent12) (va : Option Addr) (vc : Nat), dec13 (l.take n) = .ok (D.map Ent12.act) ∧ e = .returned (.slice va D.length vc) ∧ D.length ≤ 64 ∧ D.length ≤ vc ∧ vc ≤ 9223372036854775807 ∧ ListA w' va D ∧ CurOn w0 w' g M (l.drop n) (r + n) s o 0)
end Go.Proofs.YtdjlbejhphbcoaaGreat
namespace Go.Proofs.YtdjlbejhphbcoaaGreat
open Go.RowKit
set_option linter.unusedVariables false
set_option maxRecDepth 100000

theorem enc_raw13 {l : List Act12} {x : List Int} (h : enc13 l = .ok x) : raw13 l = some x ∧ l.length ≤ 64 ∧ x.length ≤ 65528 := by
  rcases enc_or l with h' | ⟨y, h1, h2, h3, h4⟩
  · rw [h] at h'; cases h'
  · rw [h] at h1; cases h1; exact ⟨h2, h3, h4⟩
/-- what encoding comes to, error and answer in one -/
def EncUni13 (L : List Act12) (w : World) (e : Ending) (w' : World) : Prop :=
  ∃ X xa xc q, e = .returned (.tuple #[.slice xa (List.length X) xc, .int .i64 q]) ∧ Below w.heap.size w w' ∧ Ints .u8 w' xa X ∧ ((enc13 L = .ok X ∧ q = 0) ∨ (enc13 L = .error 10001 ∧ q = 10001 ∧ X = []))
/-- what decoding comes to, error and answer in one -/
def DecUni13 (b : List Int) (w : World) (e : Ending) (w' : World) : Prop :=
  ∃ (D : List Ent12) (va : Option Addr) (vc : Nat) (q : Int), e = .returned (.tuple #[.slice va D.length vc, .int .i64 q]) ∧ Below w.heap.size w w' ∧ ListA w' va D ∧ D.length ≤ 64 ∧ ((dec13 b = .ok (D.map Ent12.act) ∧ q = 0) ∨ (dec13 b = .error q ∧ q ≠ 0 ∧ D = []))
end Go.Proofs.YtdjlbejhphbcoaaGreat
namespace Go.Proofs.YtdjlbejhphbcoaaGreat
open Go.RowKit
set_option linter.unusedVariables false
set_option maxRecDepth 100000

theorem ins_mem {n : Int} {p : List Int} (hp : p.Pairwise (· < ·)) (h : n ∈ p) : insPort n p = p := by
  induction p with
  | nil => cases h
  | cons x r ih =>
    obtain ⟨h1, h2⟩ := List.pairwise_cons.1 hp
    unfold insPort
    rcases List.mem_cons.1 h with rfl | hr
    · rw [if_neg (by omega), if_pos rfl]
    · have := h1 n hr
      rw [if_neg (by omega), if_neg (by omega), ih h2 hr]
theorem ins_at {n : Int} {p : List Int} {k : Nat} (hk : k ≤ p.length) (h1 : ∀ (j : Nat) (hj : j < p.length), j < k → p[j] < n) (h2 : ∀ (j : Nat) (hj : j < p.length), k ≤ j → n < p[j]) : insPort n p = p.take k ++ n :: p.drop k := by
  induction p generalizing k with
  | nil => simp at hk; subst hk; rfl
  | cons x r ih =>
    unfold insPort
    cases k with
    | zero =>
      have := h2 0 (by simp) (Nat.le_refl _)
      simp at this
      rw [if_pos this]; rfl
    | succ k =>
      have := h1 0 (by simp) (by omega)
      simp at this
      rw [if_neg (by omega), if_neg (by omega), List.take_succ_cons, List.drop_succ_cons, List.cons_append]
      congr 1
      exact ih (by simpa using hk) (fun j hj hjk => by have := h1 (j + 1) (by simpa using hj) (by omega); simpa using this) (fun j hj hjk => by have := h2 (j + 1) (by simpa using hj) (by omega); simpa using this)
theorem outs_fold {L : List Act12} {a : Act12} (h : a.T = 0) : ports13 (L ++ [a]) = insPort a.A (ports13 L) := by
  unfold ports13
  rw [outs_snoc13, if_pos h, List.foldl_append]; rfl
theorem outs_skip {L : List Act12} {a : Act12} (h : a.T ≠ 0) : ports13 (L ++ [a]) = ports13 L := by
  unfold ports13
  rw [outs_snoc13, if_neg h, List.append_nil]
/-- the place at which a port comes in, of the first k -/
structure InsAt (p : List Int) (n : Int) (k at_ : Nat) : Prop where
  le : at_ ≤ k
  lo : ∀ (j : Nat) (hj : j < p.length), j < at_ → p[j] < n
  hi : ∀ (j : Nat) (hj : j < p.length), at_ ≤ j → j < k → n ≤ p[j]
theorem InsAt.zero (p : List Int) (n : Int) : InsAt p n 0 0 := ⟨Nat.le_refl _, fun j _ h => by omega, fun j _ _ h => by omega⟩
theorem InsAt.up {p : List Int} {n : Int} {k at_ : Nat} (h : InsAt p n k at_) (hp : p.Pairwise (· < ·)) (hk : k < p.length) (hl : p[k] < n) : InsAt p n (k + 1) (k + 1) :=
  ⟨Nat.le_refl _, fun j hj hjk => by
    by_cases e : j = k
    · subst e; exact hl
    · have := List.pairwise_iff_getElem.1 hp j k hj hk (by omega); omega, fun j hj _ _ => by omega⟩
theorem InsAt.stay {p : List Int} {n : Int} {k at_ : Nat} (h : InsAt p n k at_) (hk : k < p.length) (hl : ¬ p[k] < n) : InsAt p n (k + 1) at_ :=
  ⟨by have := h.le; omega, h.lo, fun j hj h1 h2 => by
    by_cases e : j = k
    · subst e; omega
    · exact h.hi j hj h1 (by omega)⟩
theorem InsAt.ins {p : List Int} {n : Int} {at_ : Nat} (h : InsAt p n p.length at_) (hn : n ∉ p) : insPort n p = p.take at_ ++ n :: p.drop at_ :=
  ins_at h.le h.lo fun j hj h1 => by
    have h2 := h.hi j hj h1 hj
    have : p[j] ≠ n := fun e => hn (e ▸ List.getElem_mem hj)
    omega
theorem take_snoc_any {α : Type} (f : α → Bool) (P : List α) (k : Nat) (hk : k < P.length) : (P.take (k + 1)).any f = ((P.take k).any f || f P[k]) := by
  rw [List.take_add_one, List.getElem?_eq_getElem hk, List.any_append]
  simp
theorem getD_at (P : List Int) {i : Nat} (h : i < P.length) : P.getD i 0 = P[i] := by
  rw [List.getD_eq_getElem?_getD, List.getElem?_eq_getElem h]
  rfl
theorem Fresh.made13 {e : TypeId} {w w1 w' : World} {v : Value} {xs : List Value} (h : Below w.heap.size w w1) (k : Fresh e w1 w' v xs) : Fresh e w w' v xs :=
  ⟨k.own, below_on h k.bel, fun g hg => Nat.le_trans h.size (k.new g hg)⟩
theorem freshU_ints {e : TypeId} {w w' : World} {va : Option Addr} {n vc : Nat} {p : List Int} (h : Fresh e w w' (.slice va n vc) (p.map (Value.int .u64))) : Ints .u64 w' va p ∧ n = p.length ∧ p.length ≤ vc ∧ vc ≤ 9223372036854775807 := by
  obtain ⟨a2, c2, e2, h1, h2, hI2⟩ := own_ints h.own
  cases e2
  exact ⟨hI2, rfl, h1, h2⟩
set_option maxHeartbeats 8000000 in
theorem refPorts13_any (w : World) (a : Option Addr) (c : Nat) (l : List Ent12) (hL : Acts w a l) (hI : AllIn w l) (hll : l.length ≤ 1000) :
    Calls Tryz.prog 31 #[.slice a l.length c] w fun e w' => ∃ a' c', e = .returned (.slice a' (ports13 (l.map Ent12.act)).length c') ∧ Ints .u64 w' a' (ports13 (l.map Ent12.act)) ∧ Below w.heap.size w w' := by
  have HL := hid hL
  obtain ⟨N, hN⟩ : ∃ N, N = l.length := ⟨_, rfl⟩
  have HN := hid hN
  rw [← hN] at hll ⊢
  obtain ⟨P, hP⟩ : ∃ P, ports13 (l.map Ent12.act) = P := ⟨_, rfl⟩
  rw [hP]
  have HP := hid hP
  clear hL hI hN hP
  go_enter Tryz.func31, Tryz.ntmps31
  go_wp2_with fail
  go_loopw [3, 4] (fun s3 s4 wr => ∃ (i : Nat) (p : List Int) (va : Option Addr) (vc : Nat), s3 = .slice va p.length vc ∧ s4 = .int .i64 i ∧ i ≤ N ∧ p.length ≤ i ∧ Hid (ports13 ((l.map Ent12.act).take i) = p) ∧ Hid (Fresh 22 w wr (.slice va p.length vc) (p.map (Value.int .u64)))) (fun _ s4 _ => N - (intOf s4).toNat)
  case atStart => exact ⟨0, [], none, 0, rfl, rfl, by omega, by simp, rfl, ⟨World.ownsRow_nil w 0 _ 1, Below.refl _ _, fun g e => by cases e⟩⟩
  case round =>
    obtain ⟨i, p, va, vc, rfl, rfl, hi, hpl, hp, hF⟩ := hrel
    by_cases hlt : i < N
    · have hltz : (i : Int) < (N : Int) := by omega
      have hil : i < l.length := by have := HN.out; omega
      obtain ⟨b, off, rfl, -⟩ := HL.out i hil
      have HTEN := hid (fun V (hV : Below w.heap.size w V) => (HL.out.below hV).ten i hil)
      have htk := take_snoc13 l i hil
      generalize l[i] = g at HTEN htk
      have HTK := hid htk
      clear htk
      obtain ⟨d0, d1, -⟩ := HTEN.out _ hF.out.bel
      by_cases hT : g.T = 0
      · have HIN := hid (show ports13 ((l.map Ent12.act).take (i + 1)) = insPort g.A p by rw [HTK.out, outs_fold hT, hp.out]; rfl)
        have HRI := hid (show p.Pairwise (· < ·) by rw [← hp.out]; exact ports_rise _)
        obtain ⟨np, hnp⟩ : ∃ np, np = p.length := ⟨_, rfl⟩
        have HNP := hid hnp
        have HF1 := hid hF.out
        rw [hT] at d0
        rw [← hnp] at HF1 ⊢
        have hnpi : np ≤ i := by omega
        clear hnp hF
        go_wp2_with fail
        clear d0 d1
        go_loopw [5, 6, 7] (fun v5 v6 v7 wx => ∃ (t k : Nat) (q : Bool), v5 = .int .i64 t ∧ v6 = .bool q ∧ v7 = .int .i64 k ∧ k ≤ np ∧ Hid (InsAt p g.A k t) ∧ Hid ((p.take k).any (fun x => x == g.A) = q) ∧ Hid (Fresh 22 w wx (.slice va np vc) (p.map (Value.int .u64)))) (fun _ _ v7 _ => np - (intOf v7).toNat)
        case atStart => exact ⟨0, 0, false, rfl, rfl, rfl, Nat.zero_le _, InsAt.zero _ _, rfl, HF1.out⟩
        case round =>
          clear HF1
          obtain ⟨t, k, q, rfl, rfl, rfl, hk, hat, hq, HF1⟩ := hrel
          by_cases hkn : k < np
          · have hkni : (k : Int) < (np : Int) := by omega
            have hkl : k < p.length := by have := HNP.out; omega
            obtain ⟨pb, po, rfl, hpc⟩ := (freshU_ints HF1.out).1 k hkl
            obtain ⟨d0, d1, -⟩ := HTEN.out _ HF1.out.bel
            rw [getD_at p hkl] at hpc
            have HQ2 := hid (take_snoc_any (fun x => x == g.A) p k hkl)
            rw [hq.out] at HQ2
            have HUP := hid (fun h => hat.out.up HRI.out hkl h)
            have HST := hid (fun h => hat.out.stay hkl h)
            generalize p[k] = x at hpc HQ2 HUP HST
            have HPC := hid hpc
            have HD1 := hid d1
            have z1 := Wk.cell HPC.out
            have z2 := Wk.cell HD1.out
            clear hpc d0 d1
            go_upto_region 10 with fail
            go_cut [6] (fun t6 wx => ∃ q2, t6 = .bool q2 ∧ Hid ((p.take (k + 1)).any (fun x => x == g.A) = q2) ∧ Hid (Below wr.heap.size wr wx))
            case first =>
              cases q
              · have HQ3 : Hid ((p.take (k + 1)).any (fun x => x == g.A) = (x == g.A)) := HQ2.out
                refine wp_region_wk (by kernel_rfl) (by kernel_rfl) ?_
                repeat (go_big_quiet_step (fail))
                refine wpQuiet_nil ?_
                rintro w6 ⟨⟨_, hb6⟩, rfl⟩
                go_wp2_with fail
                go_meet
                exact ⟨_, rfl, HQ3.out, hb6⟩
              · have HQ3 : Hid ((p.take (k + 1)).any (fun x => x == g.A) = true) := HQ2.out
                refine wp_region_wk (by kernel_rfl) (by kernel_rfl) ?_
                repeat (go_big_quiet_step (fail))
                refine wpQuiet_nil ?_
                rintro w6 ⟨⟨_, hb6⟩, rfl⟩
                go_wp2_with fail
                go_meet
                exact ⟨_, rfl, HQ3.out, hb6⟩
            obtain ⟨q2, rfl, HQ4, hbc⟩ := hcut
            clear z1 z2
            have HF2 := hid (HF1.out.behind (below_by_none hbc.out))
            have z1 := Wk.cell (cell_keep HPC.out hbc.out)
            have z2 := Wk.cell (cell_keep HD1.out hbc.out)
            have HQ5 := hid HQ4.out
            clear HQ2 hq hat
            by_cases hxa : x < g.A
            · have hd2 : decide (x < g.A) = true := decide_eq_true hxa
              have HU := hid (HUP.out hxa)
              go_upto_region 11 with fail
              refine wp_region_wk (by kernel_rfl) (by kernel_rfl) ?_
              repeat (go_big_quiet_step (fail))
              refine wpQuiet_nil ?_
              rintro w7 ⟨⟨_, hb7⟩, rfl⟩
              have HF3 := hid (HF2.out.behind (below_by_none hb7))
              clear hb7 z1 z2
              go_wp2_with fail
              go_roundw
              case rel => exact ⟨k + 1, k + 1, q2, by go_num, rfl, by go_num, by omega, HU.out, HQ5.out, HF3.out⟩
              case measure => simp [intOf]; omega
            · have hd2 : decide (x < g.A) = false := decide_eq_false hxa
              have HU := hid (HST.out hxa)
              go_upto_region 11 with fail
              refine wp_region_wk (by kernel_rfl) (by kernel_rfl) ?_
              repeat (go_big_quiet_step (fail))
              refine wpQuiet_nil ?_
              rintro w7 ⟨⟨_, hb7⟩, rfl⟩
              have HF3 := hid (HF2.out.behind (below_by_none hb7))
              clear hb7 z1 z2
              go_wp2_with fail
              go_roundw
              case rel => exact ⟨t, k + 1, q2, rfl, rfl, by go_num, by omega, HU.out, HQ5.out, HF3.out⟩
              case measure => simp [intOf]; omega
          · have hkni : ¬ (k : Int) < (np : Int) := by omega
            obtain rfl : k = np := by omega
            have hqq : p.any (fun x => x == g.A) = q := by
              have h := hq.out
              rwa [List.take_of_length_le (by have := HNP.out; omega)] at h
            have hat2 : InsAt p g.A p.length t := by have h := hat.out; rw [HNP.out] at h; exact h
            cases q
            case true =>
              have hm : g.A ∈ p := by
                obtain ⟨x, hx, he⟩ := List.any_eq_true.1 hqq
                have : x = g.A := by simpa using he
                exact this ▸ hx
              have HIN2 := hid (HIN.out.trans (ins_mem HRI.out hm))
              have HF3 := HF1.out
              rw [HNP.out] at HF3
              have HF4 := hid HF3
              have HPL := hid HNP.out
              clear hqq hm hq hat hat2 HF3
              go_wp2_with fail
              rw [HPL.out]
              go_roundw
              case rel => exact ⟨i + 1, p, va, vc, rfl, by go_num, by omega, by omega, HIN2.out, HF4.out⟩
              case measure => simp [intOf]; omega
            case false =>
              have hnm : g.A ∉ p := fun hm => by
                have := List.any_eq_false.1 hqq g.A hm
                simp at this
              have HIN2 := hid (HIN.out.trans (hat2.ins hnm))
              have htk : t ≤ k := by have := hat2.le; have := HNP.out; omega
              obtain ⟨hI, hn2, hcv, hcm⟩ := freshU_ints HF1.out
              obtain ⟨T, hT1⟩ : ∃ T, p.take t = T := ⟨_, rfl⟩
              obtain ⟨D, hD1⟩ : ∃ D, p.drop t = D := ⟨_, rfl⟩
              obtain ⟨Z, hZ⟩ : ∃ Z, T ++ [g.A] = Z := ⟨_, rfl⟩
              obtain ⟨Y, hY⟩ : ∃ Y, Z ++ D = Y := ⟨_, rfl⟩
              have hTl : T.length = t := by rw [← hT1, List.length_take]; omega
              have hDl : D.length = k - t := by rw [← hD1, List.length_drop]; omega
              have hZl : Z.length = t + 1 := by rw [← hZ, List.length_append, hTl]; rfl
              have hYl : Y.length = k + 1 := by rw [← hY, List.length_append, hZl, hDl]; omega
              have HIN3 : Hid (ports13 ((l.map Ent12.act).take (i + 1)) = Y) := by
                show _ = _
                rw [HIN2.out, hT1, hD1, ← hY, ← hZ]; simp
              have HTL := hid hTl
              have HDL := hid hDl
              have HZ := hid hZ
              have HY := hid hY
              have HZL := hid hZl
              have HYL := hid hYl
              have HF0 := hid (own_emptyI wr 22 .u64)
              have hbe := below_alloc wr (.cells #[] 22)
              have HIT := hid (show Ints .u64 (wr.alloc (.cells #[] 22)) va T by rw [← hT1]; exact (hI.take t).below hbe)
              have HBW := hid HF1.out.bel
              have ht9 : t ≤ 1000 := by omega
              have hti : (t : Int) ≤ (k : Int) := by omega
              have hkv : (k : Int) ≤ (vc : Int) := by omega
              have hvm : (vc : Int) ≤ 9223372036854775807 := by omega
              have hs1 : ((k : Int) - (t : Int)).toNat = k - t := by omega
              have hs2 : ((vc : Int) - (t : Int)).toNat = vc - t := by omega
              rcases HF1.out.own.2 with ⟨e, _⟩ | ⟨gb, cap, cur, e, _⟩
              · simp at e
                obtain ⟨rfl, rfl, rfl⟩ := e
                have ht0 : t = 0 := by omega
                subst ht0
                have hDn : D = [] := by apply List.eq_nil_of_length_eq_zero; rw [hDl]
                have HID := hid (show Ints .u64 wr none D by rw [hDn]; exact Ints.nil _ _ _)
                clear hDn
                clear hI hn2 hcv hcm hT1 hD1 hZ hY hTl hDl hZl hYl hbe hat hat2 hq hqq hnm HF1
                go_upto_region 15 with (at_builtin; refine wp_app_ints rfl (.tmp 54) (.tmp 57) rfl elemU64 rfl HF0.out rfl HTL.out.symm HIT.out (List.nil_append T) ?_ ?_ ?_; (have := HTL.out; omega); (have := HTL.out; omega); intro a5 c5 w5 hl5 hc5 hI5 hg5; have HF5 := hid hg5.first; clear hl5 hc5 hI5 hg5)
                have HB5 := hid (below_on HBW.out HF5.out.bel)
                obtain ⟨d0, d1, -⟩ := HTEN.out _ HB5.out
                have HF6 := hid (HF5.out.behind (by_none_alloc w5 (.cells #[.int .u64 g.A] 22)))
                go_upto_region 16 with (at_builtin; refine wp_app_ints rfl (.tmp 59) (.tmp 65) rfl elemU64 rfl HF6.out.own rfl rfl (ints_one .u64 w5 g.A 22) HZ.out ?_ ?_ ?_; (have := HZL.out; omega); (have := HZL.out; omega); intro a6 c6 w6 hl6 hc6 hI6 hg6; have HF7 := hid (HF6.out.step hg6); clear hl6 hc6 hI6 hg6)
                clear d0 d1
                have HID6 := hid (HID.out.below HF7.out.bel)
                go_wp2_with (at_builtin; refine wp_app_ints rfl (.tmp 67) (.tmp 70) rfl elemU64 rfl HF7.out.own rfl HDL.out.symm HID6.out HY.out ?_ ?_ ?_; (have := HYL.out; omega); (have := HYL.out; omega); intro a7 c7 w7 hl7 hc7 hI7 hg7; have HF8 := hid (HF7.out.step hg7); clear hl7 hc7 hI7 hg7)
                have hf8 := Fresh.made13 HBW.out HF8.out
                have HF9 := hid hf8
                clear hf8
                go_roundw
                case rel => exact ⟨i + 1, Y, a7, c7, rfl, by go_num, by omega, by have := HYL.out; omega, HIN3.out, HF9.out⟩
                case measure => simp [intOf]; omega
              · simp at e
                obtain ⟨rfl, -, -⟩ := e
                have HID := hid (show Ints .u64 wr (if vc = t then some ⟨gb, 0, none⟩ else some ⟨gb, 0 + t, none⟩) D by rw [← hD1]; exact hI.drop hcv)
                clear hI hn2 hcv hcm hT1 hD1 hZ hY hTl hDl hZl hYl hbe hat hat2 hq hqq hnm HF1
                go_upto_region 15 with (at_builtin; refine wp_app_ints rfl (.tmp 54) (.tmp 57) rfl elemU64 rfl HF0.out rfl HTL.out.symm HIT.out (List.nil_append T) ?_ ?_ ?_; (have := HTL.out; omega); (have := HTL.out; omega); intro a5 c5 w5 hl5 hc5 hI5 hg5; have HF5 := hid hg5.first; clear hl5 hc5 hI5 hg5)
                have HB5 := hid (below_on HBW.out HF5.out.bel)
                obtain ⟨d0, d1, -⟩ := HTEN.out _ HB5.out
                have HF6 := hid (HF5.out.behind (by_none_alloc w5 (.cells #[.int .u64 g.A] 22)))
                go_upto_region 16 with (at_builtin; refine wp_app_ints rfl (.tmp 59) (.tmp 65) rfl elemU64 rfl HF6.out.own rfl rfl (ints_one .u64 w5 g.A 22) HZ.out ?_ ?_ ?_; (have := HZL.out; omega); (have := HZL.out; omega); intro a6 c6 w6 hl6 hc6 hI6 hg6; have HF7 := hid (HF6.out.step hg6); clear hl6 hc6 hI6 hg6)
                clear d0 d1
                have HID6 := hid (HID.out.below HF7.out.bel)
                by_cases hct : vc = t
                · rw [if_pos hct] at HID6
                  have hc0 : vc - t = 0 := by omega
                  go_wp2_with (at_builtin; refine wp_app_ints rfl (.tmp 67) (.tmp 70) rfl elemU64 rfl HF7.out.own rfl HDL.out.symm HID6.out HY.out ?_ ?_ ?_; (have := HYL.out; omega); (have := HYL.out; omega); intro a7 c7 w7 hl7 hc7 hI7 hg7; have HF8 := hid (HF7.out.step hg7); clear hl7 hc7 hI7 hg7)
                  have hf8 := Fresh.made13 HBW.out HF8.out
                  have HF9 := hid hf8
                  clear hf8
                  go_roundw
                  case rel => exact ⟨i + 1, Y, a7, c7, rfl, by go_num, by omega, by have := HYL.out; omega, HIN3.out, HF9.out⟩
                  case measure => simp [intOf]; omega
                · rw [if_neg hct, Nat.zero_add] at HID6
                  have hc0 : ¬ vc - t = 0 := by omega
                  go_wp2_with (at_builtin; refine wp_app_ints rfl (.tmp 67) (.tmp 70) rfl elemU64 rfl HF7.out.own rfl HDL.out.symm HID6.out HY.out ?_ ?_ ?_; (have := HYL.out; omega); (have := HYL.out; omega); intro a7 c7 w7 hl7 hc7 hI7 hg7; have HF8 := hid (HF7.out.step hg7); clear hl7 hc7 hI7 hg7)
                  have hf8 := Fresh.made13 HBW.out HF8.out
                  have HF9 := hid hf8
                  clear hf8
                  go_roundw
                  case rel => exact ⟨i + 1, Y, a7, c7, rfl, by go_num, by omega, by have := HYL.out; omega, HIN3.out, HF9.out⟩
                  case measure => simp [intOf]; omega
      · have hTe : (g.T == 0) = false := by simpa using hT
        have HIN := hid (show ports13 ((l.map Ent12.act).take (i + 1)) = p by rw [HTK.out, outs_skip hT, hp.out])
        go_wp2_with fail
        go_roundw
        case rel => exact ⟨i + 1, p, va, vc, rfl, by go_num, by omega, by omega, HIN.out, hF.out⟩
        case measure => simp [intOf]; omega
    · have hge : (N : Int) ≤ (i : Int) := by omega
      obtain rfl : i = N := by omega
      have hpP : p = P := by
        have h := hp.out
        rw [List.take_of_length_le (by rw [List.length_map]; have := HN.out; omega), HP.out] at h
        exact h.symm
      subst hpP
      obtain ⟨a2, c2, e2, -, -, hI2⟩ := own_ints hF.out.own
      have hva : va = a2 := by cases e2; rfl
      subst hva
      have HI2 := hid hI2
      clear hI2 e2
      go_wp2_with fail
      refine bodyPost_ret (v := .slice va p.length vc) (by simp [results, Tryz.results31, go_sem]) rfl ⟨va, vc, rfl, HI2.out, hF.out.bel⟩
end Go.Proofs.YtdjlbejhphbcoaaGreat
namespace Go.Proofs.YtdjlbejhphbcoaaGreat
open Go.RowKit
set_option linter.unusedVariables false
set_option maxRecDepth 100000

theorem enc_over {l : List Act12} {x : List Int} (h : raw13 l = some x) (hx : 64 < l.length ∨ 65528 < x.length) : enc13 l = .error 10001 := by
  unfold enc13
  rw [h]
  simp only
  rw [if_pos hx]
set_option maxHeartbeats 4000000 in
theorem refEncode13_any (w : World) (a : Option Addr) (c : Nat) (l : List Ent12) (hL : Acts w a l) (hI : AllIn w l) (hll : l.length ≤ 1000) :
    Calls Tryz.prog 22 #[.slice a l.length c] w (EncUni13 (l.map Ent12.act) w) := by
  have HL := hid hL
  have HI := hid hI
  obtain ⟨N, hN⟩ : ∃ N, N = l.length := ⟨_, rfl⟩
  have HN := hid hN
  rw [← hN] at hll ⊢
  clear hL hI hN
  go_enter Tryz.func22, Tryz.ntmps22
  go_wp2_with fail
  go_loopg [4, 5] N (fun kx s4 s5 wr => ∃ (i : Nat) (x : List Int) (va : Option Addr) (vc : Nat), s4 = .slice va x.length vc ∧ s5 = .int .i64 i ∧ i ≤ N ∧ N - i ≤ kx ∧ x.length ≤ i * 65528 ∧ Hid (raw13 ((l.map Ent12.act).take i) = some x) ∧ Hid (Fresh 5 w wr (.slice va x.length vc) (x.map (Value.int .u8))))
  case atStart => exact ⟨0, [], none, 0, rfl, rfl, by omega, by omega, by simp, rfl, ⟨World.ownsRow_nil w 0 _ 1, Below.refl _ _, fun g e => by cases e⟩⟩
  case round =>
    obtain ⟨i, x, va, vc, rfl, rfl, hi, hkx, hxl, hx, hF⟩ := hrel
    by_cases hlt : i < N
    · have hltz : (i : Int) < (N : Int) := by omega
      have hil : i < l.length := by have := HN.out; omega
      obtain ⟨b, off, rfl, -⟩ := HL.out i hil
      obtain ⟨c0, c1, c2, c3, c4, c5, c6, c7, c8, c9⟩ := (HL.out.below hF.out.bel).ten i hil
      have hin := HI.out l[i] (List.getElem_mem hil)
      have hmem : l[i].act ∈ l.map Ent12.act := List.mem_map_of_mem (List.getElem_mem hil)
      have htk := take_snoc13 l i hil
      generalize l[i] = h at c0 c1 c2 c3 c4 c5 c6 c7 c8 c9 hin hmem htk
      have HS := hid (refEncode12_any h wr (hin.below hF.out.bel))
      have HT := hid htk
      have HME := hid hmem
      clear hin hmem htk
      go_wp2_with fail
      refine HS.out.mono ?_
      rintro e w3 (⟨hno, rfl, hb3⟩ | ⟨y, ya, yc, hq, rfl, hb3, hI3⟩)
      · have HE := hid (enc_none (raw_none HME.out hno))
        have HB3 := hid (below_on hF.out.bel hb3)
        clear hno hb3 c0 c1 c2 c3 c4 c5 c6 c7 c8 c9
        go_wp2_with fail
        refine bodyPost_ret (v := .tuple #[.slice none 0 0, .int .i64 10001]) (by simp [results, Tryz.results22, go_sem]) rfl ⟨[], none, 0, 10001, rfl, HB3.out, Ints.nil _ _ _, .inr ⟨HE.out, rfl, rfl⟩⟩
      · obtain ⟨_, -, -, -, -, -, -, hy8, -, -⟩ := act_write hq
        have hr2 := raw_snoc hx.out hq
        rw [← HT.out] at hr2
        obtain ⟨z, hz⟩ : ∃ z, x ++ y = z := ⟨_, rfl⟩
        have hzl : z.length ≤ (i + 1) * 65528 := by rw [← hz, List.length_append]; omega
        rw [hz] at hr2
        have HR2 := hid hr2
        have HZ := hid hz
        have HI3 := hid hI3
        have HF3 := hid (hF.out.behind (below_by_none hb3))
        clear hq hr2 hz hI3 hb3 c0 c1 c2 c3 c4 c5 c6 c7 c8 c9 HS
        go_wp2_with (at_builtin; refine wp_app_ints rfl (.tmp 25) (.tmp 26) rfl elemU8 rfl HF3.out.own rfl rfl HI3.out HZ.out ?_ ?_ ?_; omega; omega; intro a' c' w5 hl1 hc1 hI1 hG; have HF5 := hid (HF3.out.step hG); clear hl1 hc1 hI1 hG)
        go_roundg (N - (i + 1))
        case rel => exact ⟨i + 1, z, a', c', rfl, by go_num, by omega, by omega, hzl, HR2.out, HF5.out⟩
        case measure => omega
    · have hge : (N : Int) ≤ (i : Int) := by omega
      obtain rfl : i = N := by omega
      have hxX : raw13 (l.map Ent12.act) = some x := by
        have h := hx.out
        rwa [List.take_of_length_le (by rw [List.length_map]; have := HN.out; omega)] at h
      have hlm : (l.map Ent12.act).length = i := by rw [List.length_map]; exact HN.out.symm
      by_cases h64 : 64 < i
      · have hd : decide ((64 : Int) < (i : Int)) = true := decide_eq_true (by omega)
        have HE := hid (enc_over hxX (.inl (by rw [hlm]; exact h64)))
        clear hxX hlm
        go_wp2_with fail
        refine bodyPost_ret (v := .tuple #[.slice none 0 0, .int .i64 10001]) (by simp [results, Tryz.results22, go_sem]) rfl ⟨[], none, 0, 10001, rfl, hF.out.bel, Ints.nil _ _ _, .inr ⟨HE.out, rfl, rfl⟩⟩
      · have hd : decide ((64 : Int) < (i : Int)) = false := decide_eq_false (by omega)
        by_cases h65 : 65528 < x.length
        · have hd2 : decide ((65528 : Int) < (x.length : Int)) = true := decide_eq_true (by omega)
          have HE := hid (enc_over hxX (.inr h65))
          clear hxX hlm
          go_wp2_with fail
          refine bodyPost_ret (v := .tuple #[.slice none 0 0, .int .i64 10001]) (by simp [results, Tryz.results22, go_sem]) rfl ⟨[], none, 0, 10001, rfl, hF.out.bel, Ints.nil _ _ _, .inr ⟨HE.out, rfl, rfl⟩⟩
        · have hd2 : decide ((65528 : Int) < (x.length : Int)) = false := decide_eq_false (by omega)
          have HE := hid (enc_yes hxX (by rw [hlm]; omega) (by omega))
          obtain ⟨a2, c2, e2, -, -, hI2⟩ := own_ints hF.out.own
          have hva : va = a2 := by cases e2; rfl
          subst hva
          have HI2 := hid hI2
          clear hxX hlm hI2 e2
          go_wp2_with fail
          refine bodyPost_ret (v := .tuple #[.slice va x.length vc, .int .i64 0]) (by simp [results, Tryz.results22, go_sem]) rfl ⟨x, va, vc, 0, rfl, hF.out.bel, HI2.out, .inl ⟨HE.out, rfl⟩⟩
end Go.Proofs.YtdjlbejhphbcoaaGreat
namespace Go.Proofs.YtdjlbejhphbcoaaGreat
open Go.RowKit Go.Sort
set_option linter.unusedVariables false
set_option maxRecDepth 100000

theorem len64U_any (x : Int) (h0 : 0 ≤ x) (h1 : x ≤ 255) (w : World) : Calls Tryz.prog 142 #[.int .u64 x] w fun e w' => (∃ r, e = .returned (.int .i64 r)) ∧ w = w' := by
  have g1 : ¬ (4294967296 : Int) ≤ x := by omega
  have g2 : ¬ (65536 : Int) ≤ x := by omega
  have g3 : ¬ (256 : Int) ≤ x := by omega
  have g4 : x % 256 = x := by omega
  have g5 : x.toNat < 256 := by omega
  go_enter Tryz.func142, Tryz.ntmps142
  go_wp2_with fail
  go_ret
  exact ⟨⟨_, rfl⟩, rfl⟩
theorem lenU_any (x : Int) (h0 : 0 ≤ x) (h1 : x ≤ 255) (w : World) : Calls Tryz.prog 109 #[.int .u64 x] w fun e w' => (∃ r, e = .returned (.int .i64 r)) ∧ w = w' := by
  have H := hid (fun w => len64U_any x h0 h1 w)
  go_enter Tryz.func109, Tryz.ntmps109
  go_wp2_with fail
  refine (H.out _).mono ?_
  rintro e w1 ⟨⟨r, rfl⟩, rfl⟩
  go_wp2_with fail
  go_ret
  exact ⟨⟨_, rfl⟩, rfl⟩
theorem pdq12_any (w : World) (blk cap : Nat) (d : Array Int) (r : Int) (hH : RowU w blk d) (h12 : d.size ≤ 12) :
    Calls Tryz.prog 108 #[.slice (some ⟨blk, 0, none⟩) d.size cap, .int .i64 0, .int .i64 d.size, .int .i64 r] w fun e w' =>
      e = .returned (.tuple #[]) ∧ RowU w' blk (insertionSort ltInt d 0 d.size) ∧ TurnU blk w w' := by
  have H := hid (insertU_any w blk cap 0 d.size d hH (Nat.zero_le _) (Nat.le_refl _) (by omega))
  have h12i : (d.size : Int) ≤ 12 := by omega
  clear hH
  go_enter Tryz.func108, Tryz.ntmps108
  go_wp2_with fail
  refine wp_loop_rounds 1 ?_
  rw [rounds_succ]
  go_wp2_with fail
  refine H.out.mono ?_
  rintro e w1 ⟨rfl, h1, h2⟩
  go_wp2_with fail
  exact bodyPost_ret (results_none rfl _ _ _) rfl ⟨rfl, h1, h2⟩
theorem pdqNil_any (w : World) (cap : Nat) (r : Int) : Calls Tryz.prog 108 #[.slice none 0 cap, .int .i64 0, .int .i64 0, .int .i64 r] w fun e w' => e = .returned (.tuple #[]) ∧ Below w.heap.size w w' := by
  have H : ∀ w : World, Calls Tryz.prog 132 #[.slice none 0 cap, .int .i64 0, .int .i64 0] w fun e w' => e = .returned (.tuple #[]) ∧ w = w' := by
    intro w
    go_enter Tryz.func132, Tryz.ntmps132
    go_wp2_with fail
    refine wp_loop_rounds 1 ?_
    rw [rounds_succ]
    go_wp2_with fail
    go_end0
    exact ⟨rfl, rfl⟩
  have HH := hid H
  clear H
  go_enter Tryz.func108, Tryz.ntmps108
  go_wp2_with fail
  refine wp_loop_rounds 1 ?_
  rw [rounds_succ]
  go_wp2_with fail
  refine (HH.out _).mono ?_
  rintro e w1 ⟨rfl, rfl⟩
  go_wp2_with fail
  exact bodyPost_ret (results_none rfl _ _ _) rfl ⟨rfl, Below.refl _ _⟩
theorem sortNil : SortNil := by
  intro w cap
  have H := hid (fun w => lenU_any 0 (by decide) (by decide) w)
  go_enter Tryz.func66, Tryz.ntmps66
  go_wp2_with fail
  refine (H.out _).mono ?_
  rintro e w1 ⟨⟨r, rfl⟩, rfl⟩
  go_wp2_with fail
  refine (pdqNil_any _ _ _).mono ?_
  rintro e w1 ⟨rfl, hb⟩
  go_wp2_with fail
  go_end0
  exact ⟨rfl, hb⟩
theorem perm_sortedU {d d' : Array Int} (hP : PermIn 0 d.size d d') (hS : SortedIn ltInt 0 d.size d') : d'.toList.Perm d.toList ∧ d'.toList.Pairwise (· ≤ ·) := by
  obtain ⟨hs, _, hp⟩ := hP
  refine ⟨?_, ?_⟩
  · have e1 : d'.extract 0 d.size = d' := by rw [← hs]; simp
    have e2 : d.extract 0 d.size = d := by simp
    rwa [e1, e2] at hp
  · rw [List.pairwise_iff_getElem]
    intro i j hi hj hij
    have hi' : i < d'.size := by simpa using hi
    have hj' : j < d'.size := by simpa using hj
    have h := hS i j (Nat.zero_le _) hij (by omega)
    simp only [ltInt, decide_eq_false_iff_not] at h
    rw [get_bang d' hi', get_bang d' hj'] at h
    simp only [Array.getElem_toList]
    omega
/-- what sorting by any pdqsort comes to -/
theorem sortU_of (N : Nat) (hN : N ≤ 255) (hp : ∀ (w : World) (blk cap : Nat) (d : Array Int) (r : Int), RowU w blk d → d.size ≤ N → 0 < d.size →
    Calls Tryz.prog 108 #[.slice (some ⟨blk, 0, none⟩) d.size cap, .int .i64 0, .int .i64 d.size, .int .i64 r] w fun e w' =>
      e = .returned (.tuple #[]) ∧ ∃ d', RowU w' blk d' ∧ PermIn 0 d.size d d' ∧ SortedIn ltInt 0 d.size d' ∧ TurnU blk w w') : SortU N := by
  intro w g cap ss hl h0 hR
  have H := hid (fun w => lenU_any (ss.length : Int) (by omega) (by omega) w)
  have HP := hid (fun r => hp w g cap ss.toArray r hR (by simpa using hl) (by simpa using h0))
  simp only [List.size_toArray] at HP
  clear hp hR
  obtain ⟨n, hn⟩ : ∃ n, n = ss.length := ⟨_, rfl⟩
  rw [← hn] at HP H hl h0 ⊢
  have hn2 : (n : Int) ≤ 255 := by omega
  have HN := hid hn
  clear hn
  go_enter Tryz.func66, Tryz.ntmps66
  go_wp2_with fail
  refine (H.out _).mono ?_
  rintro e w1 ⟨⟨r, rfl⟩, rfl⟩
  go_wp2_with fail
  refine (HP.out r).mono ?_
  rintro e w1 ⟨rfl, d', h1, h2, h3, h4⟩
  have HH := hid (And.intro h1 (And.intro h2 (And.intro h3 h4)))
  clear h1 h2 h3 h4
  go_wp2_with fail
  go_end0
  obtain ⟨h1, h2, h3, h4⟩ := HH.out
  obtain ⟨k1, k2⟩ := perm_sortedU (d := ss.toArray) (d' := d') (by rw [List.size_toArray, ← HN.out]; exact h2) (by rw [List.size_toArray, ← HN.out]; exact h3)
  exact ⟨rfl, d'.toList, h1, k1, k2, h4⟩
theorem sortU12 : SortU 12 := sortU_of 12 (by decide) fun w blk cap d r hR h12 _ => (pdq12_any w blk cap d r hR h12).mono fun e w' ⟨he, h1, h2⟩ =>
  ⟨he, _, h1, (insertionSort_holds swo_ltInt d 0 d.size (Nat.zero_le _) (Nat.le_refl _)).1, (insertionSort_holds swo_ltInt d 0 d.size (Nat.zero_le _) (Nat.le_refl _)).2, h2⟩
end Go.Proofs.YtdjlbejhphbcoaaGreat
namespace Go.Proofs.YtdjlbejhphbcoaaGreat
open Go.RowKit
set_option linter.unusedVariables false
set_option maxRecDepth 100000

def lit13 : List Int := [0, 0, 0, 16, 0, 0, 0, 3, 0, 1, 0, 0, 0, 0, 0, 0, 0, 18, 0, 8, 0, 0, 0, 0, 0, 0, 0, 16, 0, 0, 0, 1, 0, 0, 0, 0, 0, 0, 0, 0]
def ent13 (T A B : Int) : Ent12 := ⟨T, A, B, noOx, none, 0, none, 0, [], none, 0⟩
def acts13 : List Act12 := [⟨0, 3, 1, noOx, []⟩, ⟨18, 0, 0, noOx, []⟩, ⟨0, 1, 0, noOx, []⟩]
theorem s13_1 : enc13 acts13 = .ok lit13 := by kernel_rfl
theorem s13_2 : dec13 lit13 = .ok acts13 := by kernel_rfl
theorem s13_3 : dec13 [] = .ok [] := by kernel_rfl
theorem s13_4 : ports13 acts13 = [1, 3] := by kernel_rfl
theorem s13_5 : size13 acts13 = 40 := by kernel_rfl
theorem ent13_in (w : World) (T A B : Int) (hT : 0 ≤ T ∧ T ≤ 100) (hA : 0 ≤ A ∧ A ≤ 100) (hB : 0 ≤ B ∧ B ≤ 100) : ActIn w (ent13 T A B) :=
  ⟨by show _ ≤ T ∧ T ≤ _; omega, by show 0 ≤ A ∧ A ≤ _; omega, by show 0 ≤ B ∧ B ≤ _; omega, by simp [ent13, noOx], by simp [ent13, noOx], by simp [ent13, noOx], by simp [ent13, noOx], by simp [ent13, noOx], by simp [ent13], Ints.nil _ _ _, Ints.nil _ _ _, Ints.nil _ _ _, (by intro x hx; cases hx), (by intro x hx; cases hx), (by intro x hx; cases hx), by simp [ent13, noOx]⟩
theorem list13_at (w : World) : ∃ W, w.alloc (.cells #[.int .i64 0, .int .u64 3, .int .u64 1, .int .i64 0, .int .i64 0, .bool false, .int .u64 0, .slice none 0 0, .slice none 0 0, .slice none 0 0, .int .i64 18, .int .u64 0, .int .u64 0, .int .i64 0, .int .i64 0, .bool false, .int .u64 0, .slice none 0 0, .slice none 0 0, .slice none 0 0, .int .i64 0, .int .u64 1, .int .u64 0, .int .i64 0, .int .i64 0, .bool false, .int .u64 0, .slice none 0 0, .slice none 0 0, .slice none 0 0] 27) = W ∧ Below w.heap.size w W ∧ Acts W (some ⟨w.heap.size, 0, none⟩) [ent13 0 3 1, ent13 18 0 0, ent13 0 1 0] ∧ AllIn W [ent13 0 3 1, ent13 18 0 0, ent13 0 1 0] := by
  refine ⟨_, rfl, below_alloc _ _, acts_box (BoxL.new w (actCells [ent13 0 3 1, ent13 18 0 0, ent13 0 1 0]) 27), fun g hg => ?_⟩
  simp only [List.mem_cons, List.not_mem_nil, or_false] at hg
  rcases hg with rfl | rfl | rfl <;> exact ent13_in _ _ _ _ (by decide) (by decide) (by decide)
set_option maxHeartbeats 4000000 in
theorem sure13_any (w : World) : Calls Tryz.prog 20 #[] w fun e w' => e = .returned (.bool true) ∧ Below w.heap.size w w' := by
  have G1 := hid (decode13_any w none 0 [] ⟨by simp, by simp, Ints.nil _ _ _, (by intro x hx; cases hx), (fun h => by simp at h)⟩)
  go_enter Tryz.func20, Tryz.ntmps20
  go_wp2_with fail
  refine G1.out.mono ?_
  rintro e w1 (⟨q, hq, _⟩ | ⟨D, va, vc, hq, rfl, _, _, _, _, _, _, _, hb1⟩)
  · rw [s13_3] at hq; cases hq
  rw [s13_3] at hq
  obtain rfl : D = [] := by injection hq with h; exact List.map_eq_nil_iff.1 h.symm
  simp only [List.length_nil]
  have HB1 := hid hb1
  obtain ⟨W1, hW1, hbW1, hX1⟩ := act_box w1 0 3 1 0 0 false 0 none 0 0 none 0 0 none 0 0
  have HW1 := hid hW1
  have HB2 := hid (below_on HB1.out hbW1)
  obtain ⟨W2, hW2, hbW2, hA, hall⟩ := list13_at W1
  have HW2 := hid hW2
  have HB3 := hid (below_on HB2.out hbW2)
  have G2 := hid (encode13_any W2 (some ⟨W1.heap.size, 0, none⟩) 3 [ent13 0 3 1, ent13 18 0 0, ent13 0 1 0] hA hall (by decide))
  obtain ⟨d0, d1, d2, d3, d4, d5, d6, d7, d8, d9⟩ := hX1.ten
  clear hq hb1 hW1 hbW1 hX1 hW2 hbW2 hA hall G1
  go_upto_region 3 with fail
  rw [HW1.out]
  go_wp2_with fail
  rw [HW2.out]
  refine G2.out.mono ?_
  rintro e w2 (⟨hq, _⟩ | ⟨xs, p, hq, rfl, hb3, hI, _⟩)
  · rw [show List.map Ent12.act [ent13 0 3 1, ent13 18 0 0, ent13 0 1 0] = acts13 from rfl, s13_1] at hq; cases hq
  rw [show List.map Ent12.act [ent13 0 3 1, ent13 18 0 0, ent13 0 1 0] = acts13 from rfl, s13_1] at hq
  obtain rfl : lit13 = xs := by injection hq
  have hl : lit13.length = 40 := rfl
  have HB4 := hid (below_on HB3.out hb3)
  have G3 := hid (decode13_any w2 (some ⟨p, 0, none⟩) 40 lit13 ⟨by decide, by decide, hI, octets8 (by decide), fun _ => ⟨_, _, rfl⟩⟩)
  rw [hl] at G3 ⊢
  clear d0 d1 d2 d3 d4 d5 d6 d7 d8 d9 hq hb3 hI G2 hl
  go_wp2_with fail
  refine G3.out.mono ?_
  rintro e w3 (⟨q, hq, _⟩ | ⟨D, va, vc, hq, rfl, _, _, _, hA, hall, _, _, hb4⟩)
  · rw [s13_2] at hq; cases hq
  rw [s13_2] at hq
  have hD : D.map Ent12.act = acts13 := by injection hq with h; exact h.symm
  have hD3 : D.length = 3 := by have := congrArg List.length hD; rwa [List.length_map] at this
  have HB5 := hid (below_on HB4.out hb4)
  have HP := hid (ports13_any 12 sortU12 sortNil w3 va vc D hA hall (by omega) (by rw [hD, s13_4]; decide))
  rw [hD, s13_4, hD3] at HP
  have HS := hid (fun V (hV : Below w3.heap.size w3 V) => sizeof13_any V va vc D (hA.below hV) (hall.below hV) (by omega))
  rw [hD, s13_5, hD3] at HS
  rw [hD3]
  clear hq hb4 hA hall hD hD3 G3
  go_wp2_with fail
  refine HP.out.mono ?_
  rintro e w4 ⟨a4, c4, rfl, hI4, hb5⟩
  have HB6 := hid (below_on HB5.out hb5)
  have HB7 := hid hb5
  have HI4 := hid hI4
  simp only [List.length_cons, List.length_nil]
  have hb6 := below_alloc w4 (.cells #[.int .u64 1, .int .u64 3] 22)
  have HN := hid (nums_any [1, 3] [1, 3] a4 (some ⟨w4.heap.size, 0, none⟩) c4 2 (w4.alloc (.cells #[.int .u64 1, .int .u64 3] 22)) (by decide) (by decide) (hI4.below hb6) (ints_lit .u64 w4 [1, 3] 22))
  have HB8 := hid hb6
  clear hb5 hI4 hb6
  go_wp2_with fail
  refine HN.out.mono ?_
  rintro e w5 ⟨he, n5, rfl⟩
  obtain rfl : e = .returned (.bool true) := he
  have hb7 : Below w3.heap.size w3 ((w4.alloc (.cells #[.int .u64 1, .int .u64 3] 22)).drewN n5) := (below_on HB7.out HB8.out).grown (by_none_drewN _ _) (below_on HB7.out HB8.out).size (fun k e => by cases e)
  have HB9 := hid (below_on HB5.out hb7)
  have HS2 := hid (HS.out _ hb7)
  clear hb7
  go_wp2_with fail
  refine HS2.out.mono ?_
  rintro e w6 ⟨rfl, hb8⟩
  have HB10 := hid (below_on HB9.out hb8)
  clear hb8
  go_wp2_with fail
  go_ret
  exact ⟨rfl, HB10.out⟩
end Go.Proofs.YtdjlbejhphbcoaaGreat
