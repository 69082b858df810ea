/- Put together out of several texts. -/
import Derived.Test.YtdjlbejhphbcoaaGreatU20
import Derived.Test.YtdjlbejhphbcoaaGreatU15
import Derived.Test.YtdjlbejhphbcoaaGreatU22
import Derived.LoopN
import Derived.Test.YtdjlbejhphbcoaaGreatU4
import Derived.Test.YtdjlbejhphbcoaaGreatU12
import Derived.Test.YtdjlbejhphbcoaaGreatU11
import Derived.Sort.LotB
namespace Go.Proofs.YtdjlbejhphbcoaaGreat
open Go.RowKit
set_option linter.unusedVariables false
set_option maxRecDepth 100000
attribute [local go_sem] Oper.semAt_some

/-- what bytes as actions come to -/
def DecPost13 (b : List Int) (w : World) (e : Ending) (w' : World) : Prop :=
  (∃ q, dec13 b = .error q ∧ q ≠ 0 ∧ e = .returned (.tuple #[.slice none 0 0, .int .i64 q]) ∧ Below w.heap.size w w') ∨
  (∃ (D : List Ent12) (va : Option Addr) (vc : Nat), dec13 b = .ok (D.map Ent12.act) ∧ e = .returned (.tuple #[.slice va D.length vc, .int .i64 0]) ∧ D.length ≤ 64 ∧ D.length ≤ vc ∧ vc ≤ 9223372036854775807 ∧ Acts w' va D ∧ AllIn w' D ∧ NewA w va D ∧ (va = none ∨ ∃ g, va = some ⟨g, 0, none⟩) ∧ Below w.heap.size w w')
theorem dec13_err {b : List Int} {q : Int} (h : cut13 64 b = .error q) : dec13 b = .error q := by unfold dec13; rw [h]
theorem dec13_ok {b : List Int} {l : List Act12} (h : cut13 64 b = .ok l) (hb : b.length ≤ 65528) : dec13 b = .ok l := by unfold dec13; rw [h]; simp only; rw [if_neg (by omega)]
theorem dec13_long {b : List Int} {l : List Act12} (h : cut13 64 b = .ok l) (hb : 65528 < b.length) : dec13 b = .error 514 := by unfold dec13; rw [h]; simp only; rw [if_pos hb]
theorem cut_most13 {k : Nat} {b : List Int} {l : List Act12} (h : cut13 k b = .ok l) : l.length ≤ k := by
  induction k generalizing b l with
  | zero =>
    rw [cut13] at h
    split at h
    · cases h; simp
    · cases h
  | succ k ih =>
    by_cases hb : b = []
    · subst hb; rw [cut_nil] at h; cases h; simp
    · cases hd : dec12 b with
      | error q => rw [cut_err hb hd] at h; cases h
      | ok r =>
        obtain ⟨a, n⟩ := r
        rw [cut_step hb hd] at h
        cases hc : cut13 k (b.drop n) with
        | error q => rw [hc] at h; cases h
        | ok m => rw [hc] at h; cases h; have := ih hc; simp; omega
/-- the error that is told of the last one -/
def lastQ (pre : List Ent12) (s : Ent12 × Int) : Int := if pre.length = 64 then 520 else s.2
structure StopA (w0 : World) (R2 R3 : Nat) (q : Int) (W : World) : Prop where
  r2 : Cell13 W R2 (.slice none 0 0)
  r3 : Cell13 W R3 (.int .i64 q)
  bel : Below w0.heap.size w0 W
set_option maxHeartbeats 8000000 in
theorem decode13_any (w : World) (a : Option Addr) (c : Nat) (b : List Int) (hH : Holds w a c b) :
    Calls Tryz.prog 32 #[.slice a b.length c] w (DecPost13 b w) := by
  have HH := hid hH
  obtain ⟨W0, hW0, hbW, hsz, k2, k3, k4⟩ := three13 w (.slice none 0 0) (.int .i64 0) (.slice none 0 0) 43 30 43
  have HW0 := hid hW0
  have hcx := hH.max
  have hbx0 := hH.cap
  clear hH hW0
  refine (callsIn_wide (n := 0)).1 (callsIn_of_wp_marks Tryz.func32 rfl (by simp [Fence.wide]) ?_)
  refine wpIn_wide.2 ?_
  simp only [Tryz.ntmps32, List.size_toArray, List.length_cons, List.length_nil, Nat.reduceAdd, Nat.reduceSub, Array.replicate_succ, Array.replicate_zero, List.push_toArray, List.append_toArray, List.nil_append, List.cons_append]
  go_upto_region 2 with fail
  rw [HW0.out]
  go_wp2_with fail
  refine (actions_any _ _ _ _).mono ?_
  rintro e w2 ⟨p, rfl, hbx, hb2, hp1, hp2⟩
  have hB2 : Below w.heap.size w w2 := below_on hbW hb2
  have hs2 := hb2.size
  have m2 := k2.below hb2
  have m3 := k3.below hb2
  have m4 := k4.below hb2
  have HIT : Hid (IterA w a c p b 0 [] w2) := ⟨preA_nil _, hbx, hp2, Stays13.of_below hB2⟩
  have HB2 := hid hB2
  have HP1 : Hid (w.heap.size + 3 ≤ p) := by show _ ≤ _; omega
  clear k2 k3 k4 hbx
  go_wp2_with fail
  have hI0 : CutA w w2.heap.size (w.heap.size + 1 + 1) w.heap.size (w.heap.size + 1) [] w2 := ⟨⟨.slice none 0 0, m4, World.ownsRow_nil w2 0 _ 10, (fun g e => by cases e), (by simp)⟩, m2, m3, HB2.out, Nat.le_refl _⟩
  refine wp_rangeU (gf := 110) (jc := .ret) rfl (fun args w => by simp [callFunc, Tryz.func110, Tryz.f110, mark]) (actions_yields w w2 a c p b HH.out HIT.out) (fun k hk => by rcases hk with rfl | hk; exact hp2; have := HB2.out.size; omega) (fun _ => rfl) (fun _ => rfl)
    (CutA w w2.heap.size (w.heap.size + 1 + 1) w.heap.size (w.heap.size + 1))
    (fun pre s W => StopA w w.heap.size (w.heap.size + 1) (lastQ pre s) W)
    (CutA.own HB2.out.size) (fun pre n => NextA.own _ _ _ _)
    (fun x W W' row hx hg hr => ⟨hx.r2.others hg (fun r e => (hr r e).2), hx.r3.others hg (fun r e => (hr r e).2), ownFrom_below (Nat.le_refl _) HB2.out.size () W W' row hx.bel hg hr⟩)
    hI0
    (fun x a' W => ∃ X, a' = { tmps := #[.slice a b.length c, undef, .pointer (some ⟨w.heap.size, 0, none⟩), .pointer (some ⟨w.heap.size + 1, 0, none⟩), .pointer (some ⟨w.heap.size + 1 + 1, 0, none⟩), .pointer (some ⟨X, 0, none⟩), .int .i64 0, .slice a b.length c, .func (.func 110) #[] #[.pointer (some ⟨p, 0, none⟩)], x.val, .int .i64 0, undef, undef, undef, undef, undef, undef, undef, undef, undef, undef, undef, undef, undef, undef, undef, undef], defers := [] } ∧ ∀ j u, x.cs[j]? = some u → W.cell? ⟨X, j, none⟩ = some u)
    (fun x a' _ W W' row hx hg hr => by obtain ⟨X, e, h⟩ := hx; exact ⟨X, e, fun j u hu => cell_kept (h j u hu) hg (fun r e => (hr r e).2)⟩)
    (fun s a' W => ∃ X, a' = { tmps := #[.slice a b.length c, undef, .pointer (some ⟨w.heap.size, 0, none⟩), .pointer (some ⟨w.heap.size + 1, 0, none⟩), .pointer (some ⟨w.heap.size + 1 + 1, 0, none⟩), .pointer (some ⟨X, 0, none⟩), .int .i64 s.2, .slice a b.length c, .func (.func 110) #[] #[.pointer (some ⟨p, 0, none⟩)], s.1.val, .int .i64 s.2, undef, undef, undef, undef, undef, undef, undef, undef, undef, undef, undef, undef, undef, undef, undef, undef], defers := [] })
    (fun x a' _ W W' row hx hg hr => hx) ?asg ?asb ?good ?bad ?done ?stop
  case asg =>
    rintro i ⟨T, A, B, ⟨C0, F, H, X, v, m⟩, va, vc, ma, mc, d, da, dc⟩ W C hC
    dsimp only [Ent12.val, Ent12.cs] at hC ⊢
    gi_wp2
    refine hC _ _ (below_alloc _ _) ⟨W.heap.size, rfl, fun j u hu => ?_⟩
    have hb := BoxL.new W [.int .i64 T, .int .u64 A, .int .u64 B, .int .i64 C0, .int .i64 F, .bool H, .int .u64 X, .slice va v.length vc, .slice ma m.length mc, .slice da d.length dc] 27
    exact hb.cell j u hu
  case asb =>
    rintro i ⟨⟨T, A, B, ⟨C0, F, H, X, v, m⟩, va, vc, ma, mc, d, da, dc⟩, q⟩ W C hC
    dsimp only [Ent12.val] at hC ⊢
    gi_wp2
    exact hC _ _ (below_alloc _ _) ⟨W.heap.size, rfl⟩
  case good =>
    rintro i pre x a' W0' W hWs hlen2 hI0' hcl hI hx ⟨X, rfl, hbx⟩
    obtain ⟨⟨v, hv, hown, hvB, hents⟩, hr2, hr3, hbl, _⟩ := hI
    obtain ⟨va, vc, rfl, _, _, _, _⟩ := own_acts hown
    have HSTEP := hid (fun w1 w' v' hw1 hg => CutA.step (w1 := w1) (w' := w') (v' := v') hI0' hcl (by have := HB2.out.size; omega) (by have := HB2.out.size; omega) (by have := HB2.out.size; omega) (by omega) (by omega) (by omega) hWs hx.ent hx.new hv hown hvB hents hr2 hr3 hbl hw1 hg (fun k => k = p ∨ k < w.heap.size) (fun k hk => by rcases hk with rfl | hk; exact ⟨hp2, by have := HP1.out; omega⟩; exact ⟨by have := HB2.out.size; omega, by omega⟩))
    have hTlt : w.heap.size + 1 + 1 < W.heap.size := by have := HB2.out.size; omega
    have hvne : Hid ((Value.slice va pre.length vc).ownBlock ≠ some (w.heap.size + 1 + 1)) := fun e => by have := hvB _ e; have := HB2.out.size; omega
    have hp64 : pre.length < 64 := hlen2
    have hpi : ¬ (pre.length : Int) = 64 := by omega
    have hpn : ¬ pre.length = 64 := by omega
    clear hx hents hbl hI0' hcl hr2 hr3
    obtain ⟨T, A, B, ⟨C, F, H, X1, v, m⟩, xva, xvc, xma, xmc, d, xda, xdc⟩ := x
    dsimp only [Ent12.val, Ent12.cs] at hbx HSTEP ⊢
    have c0 := hbx 0 _ rfl
    have c1 := hbx 1 _ rfl
    have c2 := hbx 2 _ rfl
    have c3 := hbx 3 _ rfl
    have c4 := hbx 4 _ rfl
    have c5 := hbx 5 _ rfl
    have c6 := hbx 6 _ rfl
    have c7 := hbx 7 _ rfl
    have c8 := hbx 8 _ rfl
    have c9 := hbx 9 _ rfl
    have hown1 := hid (hown.kept (by_none_alloc W (.cells #[.int .i64 T, .int .u64 A, .int .u64 B, .int .i64 C, .int .i64 F, .bool H, .int .u64 X1, .slice xva v.length xvc, .slice xma m.length xmc, .slice xda d.length xdc] 27)) (by cases (Value.slice va pre.length vc).ownBlock <;> simp))
    have HONE := hid (acts_one W ⟨T, A, B, ⟨C, F, H, X1, v, m⟩, xva, xvc, xma, xmc, d, xda, xdc⟩ 27)
    obtain ⟨t1, t2⟩ := hv
    have hbA := hid (by_none_alloc W (.cells #[.int .i64 T, .int .u64 A, .int .u64 B, .int .i64 C, .int .i64 F, .bool H, .int .u64 X1, .slice xva v.length xvc, .slice xma m.length xmc, .slice xda d.length xdc] 27))
    have HC := hid (fun (w' : World) (hb : (W.alloc (.cells #[.int .i64 T, .int .u64 A, .int .u64 B, .int .i64 C, .int .i64 F, .bool H, .int .u64 X1, .slice xva v.length xvc, .slice xma m.length xmc, .slice xda d.length xdc] 27)).grownBy w' (Value.slice va pre.length vc).ownBlock) =>
      ((Cell13.mk t1 t2).kept (hbA.out.block (w.heap.size + 1 + 1) hTlt (by simp))).kept (hb.block (w.heap.size + 1 + 1) (by rw [World.size_alloc]; omega) (fun e => hvne.out e.symm)))
    clear hbx hown hvB
    gi_wp2_with (gi_at_builtin; refine wpIn_app_act rfl (.tmp 19) (.tmp 21) rfl rfl hown1.out rfl HONE.out (by omega) rfl ?_; intro va' vc' w' hg; obtain ⟨cX, fX⟩ := HC.out w' hg.by_; have HG := hid hg; clear hg)
    exact HSTEP.out _ _ _ (below_alloc _ _) HG.out
  case bad =>
    rintro i pre ⟨x, q⟩ a' W hWs hsp hI ⟨X, rfl⟩
    have HSP := hid hsp
    obtain ⟨va, vc, hv, _⟩ := hI.list HB2.out.size
    have HI2 := hid hI
    obtain ⟨t1, t2⟩ := hv
    obtain ⟨s1, s2⟩ := hI.r2
    obtain ⟨s3, s4⟩ := hI.r3
    have hsW := HB2.out.size
    clear hI hsp
    have e1 : W.setCell ⟨w.heap.size, 0, none⟩ (.slice none 0 0) = W.setCell ⟨w.heap.size, 0, none⟩ (.slice none 0 0) := rfl
    have r2 : ∀ q : Int, Cell13 ((W.setCell ⟨w.heap.size, 0, none⟩ (.slice none 0 0)).setCell ⟨w.heap.size + 1, 0, none⟩ (.int .i64 q)) w.heap.size (.slice none 0 0) := fun q => (HI2.out.r2.set _).far (by omega) _
    have r3 : ∀ q : Int, Cell13 ((W.setCell ⟨w.heap.size, 0, none⟩ (.slice none 0 0)).setCell ⟨w.heap.size + 1, 0, none⟩ (.int .i64 q)) (w.heap.size + 1) (.int .i64 q) := fun q => (HI2.out.r3.far (by omega) _).set _
    have rb : ∀ q : Int, Below w.heap.size w ((W.setCell ⟨w.heap.size, 0, none⟩ (.slice none 0 0)).setCell ⟨w.heap.size + 1, 0, none⟩ (.int .i64 q)) := fun q => (HI2.out.bel.setCell (by show w.heap.size ≤ w.heap.size; omega) _).setCell (by show w.heap.size ≤ w.heap.size + 1; omega) _
    have RR := hid (And.intro r2 (And.intro r3 rb))
    clear r2 r3 rb e1
    by_cases h64 : pre.length = 64
    · have hpi : (pre.length : Int) = 64 := by omega
      have hlq : lastQ pre (x, q) = 520 := by unfold lastQ; rw [if_pos h64]
      have HLQ := hid hlq
      clear hlq
      gi_wp2
      exact ⟨rfl, ((KeepsOthers.setCell _ _ _).trans (KeepsOthers.setCell _ _ _)).from _, by rw [HLQ.out]; exact ⟨RR.out.1 _, RR.out.2.1 _, RR.out.2.2 _⟩⟩
    · have hpi : ¬ (pre.length : Int) = 64 := by omega
      have hlq : lastQ pre (x, q) = q := by unfold lastQ; rw [if_neg h64]
      have HLQ := hid hlq
      have hq0 : (q != 0) = true := by have := HSP.out.err h64; simpa using this
      clear hlq
      gi_wp2
      exact ⟨rfl, ((KeepsOthers.setCell _ _ _).trans (KeepsOthers.setCell _ _ _)).from _, by rw [HLQ.out]; exact ⟨RR.out.1 _, RR.out.2.1 _, RR.out.2.2 _⟩⟩
  case done =>
    rintro D pre W hD hcut hI hK
    obtain ⟨va, vc, hv, hA, hall, hlc, hcm, hnew, hspot, hbox, hfar⟩ := hI.list HB2.out.size
    have HCUT := hid hcut
    have HI3 := hid (And.intro hA (And.intro hall (And.intro hnew (And.intro hbox hfar))))
    have HR := hid (And.intro hI.r2 (And.intro hI.r3 hI.bel))
    have hp64 : pre.length ≤ 64 := by
      have := cut_most13 HCUT.out
      rwa [List.length_map] at this
    obtain ⟨t1, t2⟩ := hv
    obtain ⟨s1, s2⟩ := hI.r2
    obtain ⟨s3, s4⟩ := hI.r3
    have hsW := HB2.out.size
    clear hA hall hnew hI hcut hbox hfar
    by_cases hbig : 65528 < b.length
    · have hbi : (65528 : Int) < (b.length : Int) := by omega
      have x2 := (HR.out.1.set (.slice none 0 0)).far (g := w.heap.size + 1) (by omega) (.int .i64 514)
      have x3 := (HR.out.2.1.far (g := w.heap.size) (by omega) (.slice none 0 0)).set (.int .i64 514)
      have hbx := (HR.out.2.2.setCell (p := ⟨w.heap.size, 0, none⟩) (Nat.le_refl _) (.slice none 0 0)).setCell (p := ⟨w.heap.size + 1, 0, none⟩) (by show w.heap.size ≤ w.heap.size + 1; omega) (.int .i64 514)
      have hKx : ((W.setCell ⟨w.heap.size, 0, none⟩ (.slice none 0 0)).setCell ⟨w.heap.size + 1, 0, none⟩ (.int .i64 514)).heap[D]? = some (.deferred (some [])) :=
        (Below.heap_setCell _ _ _ _ (by show D ≠ w.heap.size + 1; omega)).trans ((Below.heap_setCell _ _ _ _ (by show D ≠ w.heap.size; omega)).trans hK)
      obtain ⟨W6, hW6⟩ : ∃ W6, (W.setCell ⟨w.heap.size, 0, none⟩ (.slice none 0 0)).setCell ⟨w.heap.size + 1, 0, none⟩ (.int .i64 514) = W6 := ⟨_, rfl⟩
      rw [hW6] at x2 x3 hbx hKx
      have HW6 := hid hW6
      have HX := hid (And.intro x2 (And.intro x3 (And.intro hbx hKx)))
      clear x2 x3 hbx hKx hW6 hK
      go_wp2_with fail
      rw [HW6.out]
      obtain ⟨x2, x3, hbx, hKx⟩ := HX.out
      have hgp := grownBy_putObj' W6 D (.deferred none)
      have hr : ∀ r, some D = some r → ∃ o : Obj, W6.heap[r]? = some o ∧ o.isCells = false := fun r e => by cases e; exact ⟨_, hKx, rfl⟩
      have q2 := cell_kept x2.c hgp hr
      have q3 := cell_kept x3.c hgp hr
      refine ⟨by simp, .inl ⟨_, _, rfl, run_takeDeferred hKx, ?_⟩⟩
      refine ⟨.tuple #[.slice none 0 0, .int .i64 514], ?_, .inl ⟨514, dec13_long HCUT.out hbig, by decide, rfl, hbx.grown hgp hbx.size (fun k e => by cases e; have := HB2.out.size; omega)⟩⟩
      simp [results, Tryz.f32, go_sem, q2, q3]
    · have hbi : ¬ (65528 : Int) < (b.length : Int) := by omega
      have x2 := (HR.out.1.set (.slice va pre.length vc)).far (g := w.heap.size + 1) (by omega) (.int .i64 0)
      have x3 := (HR.out.2.1.far (g := w.heap.size) (by omega) (.slice va pre.length vc)).set (.int .i64 0)
      have hbx := (HR.out.2.2.setCell (p := ⟨w.heap.size, 0, none⟩) (Nat.le_refl _) (.slice va pre.length vc)).setCell (p := ⟨w.heap.size + 1, 0, none⟩) (by show w.heap.size ≤ w.heap.size + 1; omega) (.int .i64 0)
      have hKx : ((W.setCell ⟨w.heap.size, 0, none⟩ (.slice va pre.length vc)).setCell ⟨w.heap.size + 1, 0, none⟩ (.int .i64 0)).heap[D]? = some (.deferred (some [])) :=
        (Below.heap_setCell _ _ _ _ (by show D ≠ w.heap.size + 1; omega)).trans ((Below.heap_setCell _ _ _ _ (by show D ≠ w.heap.size; omega)).trans hK)
      have b6 := by_set13 W w.heap.size (.slice va pre.length vc)
      have b7 := by_set13 (W.setCell ⟨w.heap.size, 0, none⟩ (.slice va pre.length vc)) (w.heap.size + 1) (.int .i64 0)
      have hA6 : Acts ((W.setCell ⟨w.heap.size, 0, none⟩ (.slice va pre.length vc)).setCell ⟨w.heap.size + 1, 0, none⟩ (.int .i64 0)) va pre :=
        (HI3.out.1.by b6 (fun q hq => by have := HI3.out.2.2.2.1 q hq; omega)).by b7 (fun q hq => by have := HI3.out.2.2.2.1 q hq; omega)
      have hI6 : AllIn ((W.setCell ⟨w.heap.size, 0, none⟩ (.slice va pre.length vc)).setCell ⟨w.heap.size + 1, 0, none⟩ (.int .i64 0)) pre := fun x hx =>
        ((HI3.out.2.1 x hx).far b6 ((HI3.out.2.2.2.2 x hx).mono fun k e => by simp at e; omega)).far b7 ((HI3.out.2.2.2.2 x hx).mono fun k e => by simp at e; omega)
      obtain ⟨W6, hW6⟩ : ∃ W6, (W.setCell ⟨w.heap.size, 0, none⟩ (.slice va pre.length vc)).setCell ⟨w.heap.size + 1, 0, none⟩ (.int .i64 0) = W6 := ⟨_, rfl⟩
      rw [hW6] at x2 x3 hbx hKx hA6 hI6
      have HW6 := hid hW6
      have HX := hid (And.intro x2 (And.intro x3 (And.intro hbx (And.intro hKx (And.intro hA6 hI6)))))
      clear x2 x3 hbx hKx hW6 hK hA6 hI6 b6 b7
      go_wp2_with fail
      rw [HW6.out]
      obtain ⟨x2, x3, hbx, hKx, hA6, hI6⟩ := HX.out
      have hgp := grownBy_putObj' W6 D (.deferred none)
      have hr : ∀ r, some D = some r → ∃ o : Obj, W6.heap[r]? = some o ∧ o.isCells = false := fun r e => by cases e; exact ⟨_, hKx, rfl⟩
      have q2 := cell_kept x2.c hgp hr
      have q3 := cell_kept x3.c hgp hr
      refine ⟨by simp, .inl ⟨_, _, rfl, run_takeDeferred hKx, ?_⟩⟩
      refine ⟨.tuple #[.slice va pre.length vc, .int .i64 0], ?_, .inr ⟨pre, va, vc, dec13_ok HCUT.out (by omega), rfl, hp64, hlc, hcm, hA6.others hgp hr, fun x hx => (hI6 x hx).others hgp hr, HI3.out.2.2.1, hspot, hbx.grown hgp hbx.size (fun k e => by cases e; have := HB2.out.size; omega)⟩⟩
      simp [results, Tryz.f32, go_sem, q2, q3]
  case stop =>
    rintro D pre s W hD hsp ⟨hc2, hc3, hbW⟩ hK
    have HSP := hid hsp
    have hgp := grownBy_putObj' W D (.deferred none)
    have hr : ∀ r, some D = some r → ∃ o : Obj, W.heap[r]? = some o ∧ o.isCells = false := fun r e => by cases e; exact ⟨_, hK, rfl⟩
    have q2 := cell_kept hc2.c hgp hr
    have q3 := cell_kept hc3.c hgp hr
    have HR := hid hr
    clear hr hsp
    gi_wp2
    refine ⟨by simp, .inl ⟨_, _, rfl, run_takeDeferred hK, ?_⟩⟩
    refine ⟨.tuple #[.slice none 0 0, .int .i64 (lastQ pre s)], ?_, .inl ⟨lastQ pre s, dec13_err HSP.out.is, ?_, rfl, hbW.grown hgp hbW.size (fun k e => by cases e; have := HB2.out.size; omega)⟩⟩
    · simp [results, Tryz.f32, go_sem, q2, q3]
    · unfold lastQ
      by_cases h64 : pre.length = 64
      · rw [if_pos h64]; decide
      · rw [if_neg h64]; exact HSP.out.err h64
end Go.Proofs.YtdjlbejhphbcoaaGreat
namespace Go.Proofs.YtdjlbejhphbcoaaGreat
open Go.RowKit
set_option linter.unusedVariables false
set_option maxRecDepth 100000

/-- a list that is there: its actions too -/
structure ListA (w : World) (a : Option Addr) (D : List Ent12) : Prop where
  acts : Acts w a D
  all : AllIn w D
theorem ListA.below {w w' : World} {a : Option Addr} {D : List Ent12} (h : ListA w a D) (hb : Below w.heap.size w w') : ListA w' a D := ⟨h.acts.below hb, h.all.below hb⟩
/-- what reading n bytes that are there comes to -/
def TakePost13 (l : List Int) (n : Nat) (w0 : World) (g M : Nat) (r s o : Int) (e : Ending) (w' : World) : Prop :=
  (∃ q, dec13 (l.take n) = .error q ∧ q ≠ 0 ∧ e = .returned (.slice none 0 0) ∧ CurOn w0 w' g M l r s o q) ∨
  (∃ (D : List Ent12) (va : Option Addr) (vc : Nat), dec13 (l.take n) = .ok (D.map Ent12.act) ∧ e = .returned (.slice va D.length vc) ∧ D.length ≤ 64 ∧ D.length ≤ vc ∧ vc ≤ 9223372036854775807 ∧ ListA w' va D ∧ CurOn w0 w' g M (l.drop n) (r + n) s o 0)
end Go.Proofs.YtdjlbejhphbcoaaGreat
namespace Go.Proofs.YtdjlbejhphbcoaaGreat
open Go.RowKit
set_option linter.unusedVariables false
set_option maxRecDepth 100000

/-- what comes of actions that are encoded -/
def EncPost13 (L : List Act12) (w : World) (e : Ending) (w' : World) : Prop :=
  (enc13 L = .error 10001 ∧ e = .returned (.tuple #[.slice none 0 0, .int .i64 10001]) ∧ Below w.heap.size w w') ∨
  (∃ x g, enc13 L = .ok x ∧ e = .returned (.tuple #[.slice (some ⟨g, 0, none⟩) x.length x.length, .int .i64 0]) ∧ Below w.heap.size w w' ∧ Ints .u8 w' (some ⟨g, 0, none⟩) x ∧ w.heap.size ≤ g)
theorem encode13_no (w : World) (a : Option Addr) (c : Nat) (l : List Ent12) (hL : Acts w a l) (hI : AllIn w l) (hll : l.length ≤ 1000) (he : enc13 (l.map Ent12.act) = .error 10001) :
    Calls Tryz.prog 21 #[.slice a l.length c] w (EncPost13 (l.map Ent12.act) w) := by
  have HR := right13_any w a c l hL hI hll
  rw [(size_err he).2] at HR
  have HRR := hid HR
  have HE := hid he
  clear hL hI HR he
  go_enter Tryz.func21, Tryz.ntmps21
  go_wp2_with fail
  refine HRR.out.mono ?_
  rintro e w1 ⟨rfl, hb⟩
  go_wp2_with fail
  refine bodyPost_ret (v := .tuple #[.slice none 0 0, .int .i64 10001]) (by simp [results, Tryz.results21, go_sem]) rfl (.inl ⟨HE.out, rfl, hb⟩)
set_option maxHeartbeats 4000000 in
theorem encode13_yes (w : World) (a : Option Addr) (c : Nat) (l : List Ent12) (hL : Acts w a l) (hI : AllIn w l) (hll : l.length ≤ 1000) (X : List Int) (he : enc13 (l.map Ent12.act) = .ok X) (hr : raw13 (l.map Ent12.act) = some X) (hX : X.length ≤ 65528) :
    Calls Tryz.prog 21 #[.slice a l.length c] w (EncPost13 (l.map Ent12.act) w) := by
  have HR := right13_any w a c l hL hI hll
  rw [(size_ok13 he).2] at HR
  have HRR := hid HR
  have HE := hid he
  have HX := hid hr
  have HL := hid hL
  have HI := hid hI
  obtain ⟨N, hN⟩ : ∃ N, N = l.length := ⟨_, rfl⟩
  have HN := hid hN
  rw [← hN] at hll HRR ⊢
  clear hL hI HR he hr hN
  go_enter Tryz.func21, Tryz.ntmps21
  go_wp2_with fail
  refine HRR.out.mono ?_
  rintro e w1 ⟨rfl, hb1⟩
  have HB := hid hb1
  clear hb1
  go_wp2_with fail
  refine (bufNew_any 65528 _).mono ?_
  rintro e w2 ⟨g, m, rfl, hB, hb2, hg, hmm⟩
  have O1 : BufOn w w2 g m none 65528 [] [] 0 := ⟨hB, below_on HB.out hb2, by have := HB.out.size; rintro i (e | e | e); omega; omega; simp at e⟩
  have HO1 := hid O1
  clear hB hb2 O1 HRR
  go_wp2_with fail
  go_loopg [15] N (fun kx s15 wr => ∃ (i : Nat) (x : List Int) (p : Option Nat), s15 = .int .i64 i ∧ i ≤ N ∧ N - i ≤ kx ∧ Hid (raw13 ((l.map Ent12.act).take i) = some x) ∧ Hid (BufOn w wr g m p 65528 x [] 0))
  case atStart => exact ⟨0, [], none, rfl, by omega, by omega, rfl, HO1.out⟩
  case round =>
    obtain ⟨i, x, p, rfl, hi, hkx, hx, hO⟩ := hrel
    by_cases hlt : i < N
    · have hltz : (i : Int) < (N : Int) := by omega
      have hil : i < l.length := by have := HN.out; omega
      obtain ⟨b, off, rfl, -⟩ := HL.out i hil
      obtain ⟨c0, c1, c2, c3, c4, c5, c6, c7, c8, c9⟩ := (HL.out.below hO.out.bel).ten i hil
      have hin := HI.out l[i] (List.getElem_mem hil)
      have hmem : l[i].act ∈ l.map Ent12.act := List.mem_map_of_mem (List.getElem_mem hil)
      have htk := take_snoc13 l i hil
      generalize l[i] = h at c0 c1 c2 c3 c4 c5 c6 c7 c8 c9 hin hmem htk
      obtain ⟨W, hW, hbW, hbx⟩ := act_box wr h.T h.A h.B h.o.C h.o.F h.o.H h.o.X h.va h.o.v.length h.vc h.ma h.o.m.length h.mc h.da h.d.length h.dc
      have HW := hid hW
      have hbw := below_on hO.out.bel hbW
      have HS := hid (actEncode_any h W (hin.below hbw))
      obtain ⟨y, hy⟩ := (raw_each HX.out).1 _ hmem
      have HY := hid hy
      have HT := hid htk
      have HBX := hid hbx
      have HBW := hid hbW
      clear hW hbW hbw hin hmem htk hy hbx
      obtain ⟨d0, d1, d2, d3, d4, d5, d6, d7, d8, d9⟩ := HBX.out.ten
      go_wp2_with fail
      rw [HW.out]
      go_wp2_with fail
      refine HS.out.mono ?_
      rintro e w3 (⟨hno, _⟩ | ⟨y', q, hq, rfl, hb3, hI3, hq3⟩)
      · rw [HY.out] at hno; cases hno
      have O3 := (hO.out.below HBW.out).below hb3
      have hgw := hid (show g < W.heap.size from (hO.out.below HBW.out).buf.lt g (.inl rfl))
      have hr2 := raw_snoc hx.out hq
      rw [← HT.out] at hr2
      have hle : x.length + y'.length ≤ 65528 := by
        have h0 := HX.out
        rw [← List.take_append_drop (i + 1) (l.map Ent12.act)] at h0
        obtain ⟨u, v, hu, _, huv⟩ := raw_parts h0
        rw [hr2] at hu
        cases hu
        have := congrArg List.length huv
        rw [List.length_append, List.length_append] at this
        omega
      have HR2 := hid hr2
      have HLE := hid hle
      have HQ3 := hid hq3
      have HI3 := hid hI3
      have HO3 := hid O3
      clear hle hq3 hb3 hI3 hr2 hq O3 d0 d1 d2 d3 d4 d5 d6 d7 d8 d9 c0 c1 c2 c3 c4 c5 c6 c7 c8 c9 HS
      go_wp2_with fail
      refine (HO3.out.buf.fail 0).mono ?_
      rintro e w4 ⟨rfl, hbuf, hby⟩
      have O4 := hid (HO3.out.went (Went.by_g hbuf hby))
      have I4 : Ints .u8 w4 (some ⟨q, 0, none⟩) y' := (Turn.of_by (S := fun k => k = g) hby (by rintro k e; simp at e; exact e.symm)).ints HI3.out (by have := hgw.out; have := HQ3.out; omega)
      have HI4 := hid I4
      clear hbuf hby I4
      go_wp2_with fail
      refine (O4.out.buf.bytes_ok y' _ _ HLE.out HI4.out).mono ?_
      rintro e w5 ⟨rfl, p', hG⟩
      have O5 := hid (O4.out.went hG)
      clear hG
      go_wp2_with fail
      go_roundg (N - (i + 1))
      case rel => exact ⟨i + 1, x ++ y', p', by go_num, by omega, by omega, HR2.out, O5.out⟩
      case measure => omega
    · have hge : (N : Int) ≤ (i : Int) := by omega
      obtain rfl : i = N := by omega
      have hxX : x = X := by
        have h := hx.out
        rw [List.take_of_length_le (by rw [List.length_map]; have := HN.out; omega), HX.out] at h
        cases h; rfl
      subst hxX
      go_wp2_with fail
      refine hO.out.buf.done_ok.mono ?_
      rintro e w8 ⟨rfl, hFr⟩
      obtain ⟨ad, cp, he, hl, hc, hI⟩ := own_ints hFr.own
      have he1 : ad = some ⟨wr.heap.size, 0, none⟩ := by simpa using (congrArg (fun x => match x with | Value.slice a _ _ => a | _ => none) he).symm
      rw [he1] at hI
      have HI8 := hid hI
      have HF := hid (below_on hO.out.bel hFr.bel)
      have hs := hO.out.bel.size
      clear he hl hc hI hFr he1
      go_wp2_with fail
      refine bodyPost_ret (v := .tuple #[.slice (some ⟨wr.heap.size, 0, none⟩) x.length x.length, .int .i64 0]) (by simp [results, Tryz.results21, go_sem]) rfl (.inr ⟨x, _, HE.out, rfl, HF.out, HI8.out, hs⟩)
theorem encode13_any (w : World) (a : Option Addr) (c : Nat) (l : List Ent12) (hL : Acts w a l) (hI : AllIn w l) (hll : l.length ≤ 1000) :
    Calls Tryz.prog 21 #[.slice a l.length c] w (EncPost13 (l.map Ent12.act) w) := by
  rcases enc_or (l.map Ent12.act) with h | ⟨x, h1, h2, _, h3⟩
  · exact encode13_no w a c l hL hI hll h
  · exact encode13_yes w a c l hL hI hll x h1 h2 h3

end Go.Proofs.YtdjlbejhphbcoaaGreat
namespace Go.Proofs.YtdjlbejhphbcoaaGreat
open Go.RowKit Go.Sort
set_option linter.unusedVariables false
set_option maxRecDepth 100000

theorem len64U_any (x : Int) (h0 : 0 ≤ x) (h1 : x ≤ 255) (w : World) : Calls Tryz.prog 142 #[.int .u64 x] w fun e w' => (∃ r, e = .returned (.int .i64 r)) ∧ w = w' := by
  have g1 : ¬ (4294967296 : Int) ≤ x := by omega
  have g2 : ¬ (65536 : Int) ≤ x := by omega
  have g3 : ¬ (256 : Int) ≤ x := by omega
  have g4 : x % 256 = x := by omega
  have g5 : x.toNat < 256 := by omega
  go_enter Tryz.func142, Tryz.ntmps142
  go_wp2_with fail
  go_ret
  exact ⟨⟨_, rfl⟩, rfl⟩
theorem lenU_any (x : Int) (h0 : 0 ≤ x) (h1 : x ≤ 255) (w : World) : Calls Tryz.prog 109 #[.int .u64 x] w fun e w' => (∃ r, e = .returned (.int .i64 r)) ∧ w = w' := by
  have H := hid (fun w => len64U_any x h0 h1 w)
  go_enter Tryz.func109, Tryz.ntmps109
  go_wp2_with fail
  refine (H.out _).mono ?_
  rintro e w1 ⟨⟨r, rfl⟩, rfl⟩
  go_wp2_with fail
  go_ret
  exact ⟨⟨_, rfl⟩, rfl⟩
theorem pdq12_any (w : World) (blk cap : Nat) (d : Array Int) (r : Int) (hH : RowU w blk d) (h12 : d.size ≤ 12) :
    Calls Tryz.prog 108 #[.slice (some ⟨blk, 0, none⟩) d.size cap, .int .i64 0, .int .i64 d.size, .int .i64 r] w fun e w' =>
      e = .returned (.tuple #[]) ∧ RowU w' blk (insertionSort ltInt d 0 d.size) ∧ TurnU blk w w' := by
  have H := hid (insertU_any w blk cap 0 d.size d hH (Nat.zero_le _) (Nat.le_refl _) (by omega))
  have h12i : (d.size : Int) ≤ 12 := by omega
  clear hH
  go_enter Tryz.func108, Tryz.ntmps108
  go_wp2_with fail
  refine wp_loop_rounds 1 ?_
  rw [rounds_succ]
  go_wp2_with fail
  refine H.out.mono ?_
  rintro e w1 ⟨rfl, h1, h2⟩
  go_wp2_with fail
  exact bodyPost_ret (results_none rfl _ _ _) rfl ⟨rfl, h1, h2⟩
theorem pdqNil_any (w : World) (cap : Nat) (r : Int) : Calls Tryz.prog 108 #[.slice none 0 cap, .int .i64 0, .int .i64 0, .int .i64 r] w fun e w' => e = .returned (.tuple #[]) ∧ Below w.heap.size w w' := by
  have H : ∀ w : World, Calls Tryz.prog 132 #[.slice none 0 cap, .int .i64 0, .int .i64 0] w fun e w' => e = .returned (.tuple #[]) ∧ w = w' := by
    intro w
    go_enter Tryz.func132, Tryz.ntmps132
    go_wp2_with fail
    refine wp_loop_rounds 1 ?_
    rw [rounds_succ]
    go_wp2_with fail
    go_end0
    exact ⟨rfl, rfl⟩
  have HH := hid H
  clear H
  go_enter Tryz.func108, Tryz.ntmps108
  go_wp2_with fail
  refine wp_loop_rounds 1 ?_
  rw [rounds_succ]
  go_wp2_with fail
  refine (HH.out _).mono ?_
  rintro e w1 ⟨rfl, rfl⟩
  go_wp2_with fail
  exact bodyPost_ret (results_none rfl _ _ _) rfl ⟨rfl, Below.refl _ _⟩
theorem sortNil : SortNil := by
  intro w cap
  have H := hid (fun w => lenU_any 0 (by decide) (by decide) w)
  go_enter Tryz.func66, Tryz.ntmps66
  go_wp2_with fail
  refine (H.out _).mono ?_
  rintro e w1 ⟨⟨r, rfl⟩, rfl⟩
  go_wp2_with fail
  refine (pdqNil_any _ _ _).mono ?_
  rintro e w1 ⟨rfl, hb⟩
  go_wp2_with fail
  go_end0
  exact ⟨rfl, hb⟩
theorem perm_sortedU {d d' : Array Int} (hP : PermIn 0 d.size d d') (hS : SortedIn ltInt 0 d.size d') : d'.toList.Perm d.toList ∧ d'.toList.Pairwise (· ≤ ·) := by
  obtain ⟨hs, _, hp⟩ := hP
  refine ⟨?_, ?_⟩
  · have e1 : d'.extract 0 d.size = d' := by rw [← hs]; simp
    have e2 : d.extract 0 d.size = d := by simp
    rwa [e1, e2] at hp
  · rw [List.pairwise_iff_getElem]
    intro i j hi hj hij
    have hi' : i < d'.size := by simpa using hi
    have hj' : j < d'.size := by simpa using hj
    have h := hS i j (Nat.zero_le _) hij (by omega)
    simp only [ltInt, decide_eq_false_iff_not] at h
    rw [get_bang d' hi', get_bang d' hj'] at h
    simp only [Array.getElem_toList]
    omega
/-- what sorting by any pdqsort comes to -/
theorem sortU_of (N : Nat) (hN : N ≤ 255) (hp : ∀ (w : World) (blk cap : Nat) (d : Array Int) (r : Int), RowU w blk d → d.size ≤ N → 0 < d.size →
    Calls Tryz.prog 108 #[.slice (some ⟨blk, 0, none⟩) d.size cap, .int .i64 0, .int .i64 d.size, .int .i64 r] w fun e w' =>
      e = .returned (.tuple #[]) ∧ ∃ d', RowU w' blk d' ∧ PermIn 0 d.size d d' ∧ SortedIn ltInt 0 d.size d' ∧ TurnU blk w w') : SortU N := by
  intro w g cap ss hl h0 hR
  have H := hid (fun w => lenU_any (ss.length : Int) (by omega) (by omega) w)
  have HP := hid (fun r => hp w g cap ss.toArray r hR (by simpa using hl) (by simpa using h0))
  simp only [List.size_toArray] at HP
  clear hp hR
  obtain ⟨n, hn⟩ : ∃ n, n = ss.length := ⟨_, rfl⟩
  rw [← hn] at HP H hl h0 ⊢
  have hn2 : (n : Int) ≤ 255 := by omega
  have HN := hid hn
  clear hn
  go_enter Tryz.func66, Tryz.ntmps66
  go_wp2_with fail
  refine (H.out _).mono ?_
  rintro e w1 ⟨⟨r, rfl⟩, rfl⟩
  go_wp2_with fail
  refine (HP.out r).mono ?_
  rintro e w1 ⟨rfl, d', h1, h2, h3, h4⟩
  have HH := hid (And.intro h1 (And.intro h2 (And.intro h3 h4)))
  clear h1 h2 h3 h4
  go_wp2_with fail
  go_end0
  obtain ⟨h1, h2, h3, h4⟩ := HH.out
  obtain ⟨k1, k2⟩ := perm_sortedU (d := ss.toArray) (d' := d') (by rw [List.size_toArray, ← HN.out]; exact h2) (by rw [List.size_toArray, ← HN.out]; exact h3)
  exact ⟨rfl, d'.toList, h1, k1, k2, h4⟩
theorem sortU12 : SortU 12 := sortU_of 12 (by decide) fun w blk cap d r hR h12 _ => (pdq12_any w blk cap d r hR h12).mono fun e w' ⟨he, h1, h2⟩ =>
  ⟨he, _, h1, (insertionSort_holds swo_ltInt d 0 d.size (Nat.zero_le _) (Nat.le_refl _)).1, (insertionSort_holds swo_ltInt d 0 d.size (Nat.zero_le _) (Nat.le_refl _)).2, h2⟩
end Go.Proofs.YtdjlbejhphbcoaaGreat
namespace Go.Proofs.YtdjlbejhphbcoaaGreat
open Go.RowKit
set_option linter.unusedVariables false
set_option maxRecDepth 100000

def lit13 : List Int := [0, 0, 0, 16, 0, 0, 0, 3, 0, 1, 0, 0, 0, 0, 0, 0, 0, 18, 0, 8, 0, 0, 0, 0, 0, 0, 0, 16, 0, 0, 0, 1, 0, 0, 0, 0, 0, 0, 0, 0]
def ent13 (T A B : Int) : Ent12 := ⟨T, A, B, noOx, none, 0, none, 0, [], none, 0⟩
def acts13 : List Act12 := [⟨0, 3, 1, noOx, []⟩, ⟨18, 0, 0, noOx, []⟩, ⟨0, 1, 0, noOx, []⟩]
theorem s13_1 : enc13 acts13 = .ok lit13 := by kernel_rfl
theorem s13_2 : dec13 lit13 = .ok acts13 := by kernel_rfl
theorem s13_3 : dec13 [] = .ok [] := by kernel_rfl
theorem s13_4 : ports13 acts13 = [1, 3] := by kernel_rfl
theorem s13_5 : size13 acts13 = 40 := by kernel_rfl
theorem ent13_in (w : World) (T A B : Int) (hT : 0 ≤ T ∧ T ≤ 100) (hA : 0 ≤ A ∧ A ≤ 100) (hB : 0 ≤ B ∧ B ≤ 100) : ActIn w (ent13 T A B) :=
  ⟨by show _ ≤ T ∧ T ≤ _; omega, by show 0 ≤ A ∧ A ≤ _; omega, by show 0 ≤ B ∧ B ≤ _; omega, by simp [ent13, noOx], by simp [ent13, noOx], by simp [ent13, noOx], by simp [ent13, noOx], by simp [ent13, noOx], by simp [ent13], Ints.nil _ _ _, Ints.nil _ _ _, Ints.nil _ _ _, (by intro x hx; cases hx), (by intro x hx; cases hx), (by intro x hx; cases hx), by simp [ent13, noOx]⟩
theorem list13_at (w : World) : ∃ W, w.alloc (.cells #[.int .i64 0, .int .u64 3, .int .u64 1, .int .i64 0, .int .i64 0, .bool false, .int .u64 0, .slice none 0 0, .slice none 0 0, .slice none 0 0, .int .i64 18, .int .u64 0, .int .u64 0, .int .i64 0, .int .i64 0, .bool false, .int .u64 0, .slice none 0 0, .slice none 0 0, .slice none 0 0, .int .i64 0, .int .u64 1, .int .u64 0, .int .i64 0, .int .i64 0, .bool false, .int .u64 0, .slice none 0 0, .slice none 0 0, .slice none 0 0] 27) = W ∧ Below w.heap.size w W ∧ Acts W (some ⟨w.heap.size, 0, none⟩) [ent13 0 3 1, ent13 18 0 0, ent13 0 1 0] ∧ AllIn W [ent13 0 3 1, ent13 18 0 0, ent13 0 1 0] := by
  refine ⟨_, rfl, below_alloc _ _, acts_box (BoxL.new w (actCells [ent13 0 3 1, ent13 18 0 0, ent13 0 1 0]) 27), fun g hg => ?_⟩
  simp only [List.mem_cons, List.not_mem_nil, or_false] at hg
  rcases hg with rfl | rfl | rfl <;> exact ent13_in _ _ _ _ (by decide) (by decide) (by decide)
set_option maxHeartbeats 4000000 in
theorem sure13_any (w : World) : Calls Tryz.prog 20 #[] w fun e w' => e = .returned (.bool true) ∧ Below w.heap.size w w' := by
  have G1 := hid (decode13_any w none 0 [] ⟨by simp, by simp, Ints.nil _ _ _, (by intro x hx; cases hx), (fun h => by simp at h)⟩)
  go_enter Tryz.func20, Tryz.ntmps20
  go_wp2_with fail
  refine G1.out.mono ?_
  rintro e w1 (⟨q, hq, _⟩ | ⟨D, va, vc, hq, rfl, _, _, _, _, _, _, _, hb1⟩)
  · rw [s13_3] at hq; cases hq
  rw [s13_3] at hq
  obtain rfl : D = [] := by injection hq with h; exact List.map_eq_nil_iff.1 h.symm
  simp only [List.length_nil]
  have HB1 := hid hb1
  obtain ⟨W1, hW1, hbW1, hX1⟩ := act_box w1 0 3 1 0 0 false 0 none 0 0 none 0 0 none 0 0
  have HW1 := hid hW1
  have HB2 := hid (below_on HB1.out hbW1)
  obtain ⟨W2, hW2, hbW2, hA, hall⟩ := list13_at W1
  have HW2 := hid hW2
  have HB3 := hid (below_on HB2.out hbW2)
  have G2 := hid (encode13_any W2 (some ⟨W1.heap.size, 0, none⟩) 3 [ent13 0 3 1, ent13 18 0 0, ent13 0 1 0] hA hall (by decide))
  obtain ⟨d0, d1, d2, d3, d4, d5, d6, d7, d8, d9⟩ := hX1.ten
  clear hq hb1 hW1 hbW1 hX1 hW2 hbW2 hA hall G1
  go_upto_region 3 with fail
  rw [HW1.out]
  go_wp2_with fail
  rw [HW2.out]
  refine G2.out.mono ?_
  rintro e w2 (⟨hq, _⟩ | ⟨xs, p, hq, rfl, hb3, hI, _⟩)
  · rw [show List.map Ent12.act [ent13 0 3 1, ent13 18 0 0, ent13 0 1 0] = acts13 from rfl, s13_1] at hq; cases hq
  rw [show List.map Ent12.act [ent13 0 3 1, ent13 18 0 0, ent13 0 1 0] = acts13 from rfl, s13_1] at hq
  obtain rfl : lit13 = xs := by injection hq
  have hl : lit13.length = 40 := rfl
  have HB4 := hid (below_on HB3.out hb3)
  have G3 := hid (decode13_any w2 (some ⟨p, 0, none⟩) 40 lit13 ⟨by decide, by decide, hI, octets8 (by decide), fun _ => ⟨_, _, rfl⟩⟩)
  rw [hl] at G3 ⊢
  clear d0 d1 d2 d3 d4 d5 d6 d7 d8 d9 hq hb3 hI G2 hl
  go_wp2_with fail
  refine G3.out.mono ?_
  rintro e w3 (⟨q, hq, _⟩ | ⟨D, va, vc, hq, rfl, _, _, _, hA, hall, _, _, hb4⟩)
  · rw [s13_2] at hq; cases hq
  rw [s13_2] at hq
  have hD : D.map Ent12.act = acts13 := by injection hq with h; exact h.symm
  have hD3 : D.length = 3 := by have := congrArg List.length hD; rwa [List.length_map] at this
  have HB5 := hid (below_on HB4.out hb4)
  have HP := hid (ports13_any 12 sortU12 sortNil w3 va vc D hA hall (by omega) (by rw [hD, s13_4]; decide))
  rw [hD, s13_4, hD3] at HP
  have HS := hid (fun V (hV : Below w3.heap.size w3 V) => sizeof13_any V va vc D (hA.below hV) (hall.below hV) (by omega))
  rw [hD, s13_5, hD3] at HS
  rw [hD3]
  clear hq hb4 hA hall hD hD3 G3
  go_wp2_with fail
  refine HP.out.mono ?_
  rintro e w4 ⟨a4, c4, rfl, hI4, hb5⟩
  have HB6 := hid (below_on HB5.out hb5)
  have HB7 := hid hb5
  have HI4 := hid hI4
  simp only [List.length_cons, List.length_nil]
  have hb6 := below_alloc w4 (.cells #[.int .u64 1, .int .u64 3] 22)
  have HN := hid (nums_any [1, 3] [1, 3] a4 (some ⟨w4.heap.size, 0, none⟩) c4 2 (w4.alloc (.cells #[.int .u64 1, .int .u64 3] 22)) (by decide) (by decide) (hI4.below hb6) (ints_lit .u64 w4 [1, 3] 22))
  have HB8 := hid hb6
  clear hb5 hI4 hb6
  go_wp2_with fail
  refine HN.out.mono ?_
  rintro e w5 ⟨he, n5, rfl⟩
  obtain rfl : e = .returned (.bool true) := he
  have hb7 : Below w3.heap.size w3 ((w4.alloc (.cells #[.int .u64 1, .int .u64 3] 22)).drewN n5) := (below_on HB7.out HB8.out).grown (by_none_drewN _ _) (below_on HB7.out HB8.out).size (fun k e => by cases e)
  have HB9 := hid (below_on HB5.out hb7)
  have HS2 := hid (HS.out _ hb7)
  clear hb7
  go_wp2_with fail
  refine HS2.out.mono ?_
  rintro e w6 ⟨rfl, hb8⟩
  have HB10 := hid (below_on HB9.out hb8)
  clear hb8
  go_wp2_with fail
  go_ret
  exact ⟨rfl, HB10.out⟩
end Go.Proofs.YtdjlbejhphbcoaaGreat
namespace Go.Proofs.YtdjlbejhphbcoaaGreat
open Go.RowKit
set_option linter.unusedVariables false
set_option maxRecDepth 100000

def few12 (g : Ent12) : Bool := decide (g.o.v.length ≤ 300 ∧ g.o.m.length ≤ 300) && decide (g.d.length ≤ 500)
def few13 (l : List Ent12) : Bool := l.all few12 && decide (l.length ≤ 80)
theorem few13_in {w : World} {l : List Ent12} (h : few13 l = true) (ha : ∀ g ∈ l, ActArg w g) : AllIn w l ∧ l.length ≤ 80 ∧ ∀ g ∈ l, g.o.v.length ≤ 300 ∧ g.o.m.length ≤ 300 ∧ g.d.length ≤ 500 := by
  unfold few13 at h
  simp only [Bool.and_eq_true, decide_eq_true_eq, List.all_eq_true] at h
  exact ⟨fun g hg => ((ha g hg).few (h.1 g hg)).1, h.2, fun g hg => ((ha g hg).few (h.1 g hg)).2⟩
set_option maxHeartbeats 4000000 in
theorem few13_any (l : List Ent12) (a : Option Addr) (c : Nat) (w : World) (hL : Acts w a l) (hll : l.length ≤ 9223372036854775807) :
    Calls Tryz.prog 19 #[.slice a l.length c] w fun e w' => e = .returned (.bool (few13 l)) ∧ Below w.heap.size w w' := by
  obtain ⟨r, hr⟩ : ∃ r, few13 l = r := ⟨_, rfl⟩
  rw [hr]
  have HR := hid hr
  have HL := hid hL
  obtain ⟨N, hN⟩ : ∃ N, N = l.length := ⟨_, rfl⟩
  have HN := hid hN
  rw [← hN] at hll ⊢
  clear hr hL hN
  go_enter Tryz.func19, Tryz.ntmps19
  go_wp2_with fail
  go_loopg [3] N (fun kx s3 wr => ∃ (i : Nat), s3 = .int .i64 i ∧ i ≤ N ∧ N - i ≤ kx ∧ Hid ((l.take i).all few12 = true) ∧ Hid (Below w.heap.size w wr))
  case atStart => exact ⟨0, rfl, by omega, by omega, rfl, Below.refl _ _⟩
  case round =>
    obtain ⟨i, rfl, hi, hkx, hn, hb⟩ := hrel
    by_cases hlt : i < N
    · have hltz : (i : Int) < (N : Int) := by omega
      have hil : i < l.length := by have := HN.out; omega
      obtain ⟨b, off, rfl, -⟩ := HL.out i hil
      obtain ⟨c0, c1, c2, c3, c4, c5, c6, c7, c8, c9⟩ := (HL.out.below hb.out).ten i hil
      have hg : l[i]? = some l[i] := List.getElem?_eq_getElem hil
      generalize l[i] = g at c0 c1 c2 c3 c4 c5 c6 c7 c8 c9 hg
      have HF := hid (actFew_any g.T g.A g.B g.o.C g.o.F g.o.H g.o.X g.va g.o.v.length g.vc g.ma g.o.m.length g.mc g.da g.d.length g.dc wr)
      obtain ⟨f, hf⟩ : ∃ f, (decide (g.o.v.length ≤ 300 ∧ g.o.m.length ≤ 300) && decide (g.d.length ≤ 500)) = f := ⟨_, rfl⟩
      rw [hf] at HF
      have HFE : Hid (few12 g = f) := hf
      have HG := hid hg
      clear hf hg
      go_wp2_with fail
      refine HF.out.mono ?_
      rintro e w2 ⟨rfl, hb2⟩
      have HB2 := hid (below_on hb.out hb2)
      clear hb2 c0 c1 c2 c3 c4 c5 c6 c7 c8 c9
      cases f
      · have hrf : r = false := by
          rw [← HR.out]
          unfold few13
          have : l.all few12 = false := List.all_eq_false.2 ⟨g, List.mem_of_getElem? HG.out, by rw [HFE.out]; simp⟩
          rw [this]; rfl
        go_wp2_with fail
        refine bodyPost_ret (v := .bool false) (by simp [results, Tryz.results19, go_sem]) rfl ⟨by rw [hrf], HB2.out⟩
      · have hn2 : (l.take (i + 1)).all few12 = true := by
          rw [List.take_add_one, HG.out, List.all_append, hn.out]
          simp [HFE.out]
        have HN2 := hid hn2
        clear hn2
        go_wp2_with fail
        go_roundg (N - (i + 1))
        case rel => exact ⟨i + 1, by go_num, by omega, by omega, HN2.out, HB2.out⟩
        case measure => omega
    · have hge : (N : Int) ≤ (i : Int) := by omega
      have hrt : r = decide (N ≤ 80) := by
        have h := hn.out
        rw [List.take_of_length_le (by have := HN.out; omega)] at h
        rw [← HR.out, HN.out]
        unfold few13
        rw [h, Bool.true_and]
      have hre : decide ((N : Int) ≤ 80) = r := by
        rw [hrt]
        exact decide_eq_decide.2 (by omega)
      have HRE := hid hre
      clear hrt hre
      go_wp2_with fail
      exact bodyPost_ret (v := .bool (decide ((N : Int) ≤ 80))) (by simp [results, Tryz.results19, go_sem]) rfl ⟨by rw [HRE.out], hb.out⟩
end Go.Proofs.YtdjlbejhphbcoaaGreat
namespace Go.Proofs.YtdjlbejhphbcoaaGreat
open Go.RowKit Go.Sort
set_option linter.unusedVariables false
set_option maxRecDepth 100000

/-- what a step of the sort comes to: block blk has d', nothing else turned -/
structure GotU (w : World) (blk n : Nat) (d' : Array Int) (w' : World) : Prop where
  row : RowU w' blk d'
  turn : TurnU blk w w'
  size : d'.size = n
theorem GotU.below {w w1 w2 : World} {blk n : Nat} {d : Array Int} (h : GotU w blk n d w1) (k : Below w1.heap.size w1 w2) : GotU w blk n d w2 := ⟨h.row.below k, h.turn.below k, h.size⟩
theorem GotU.swp {w w1 : World} {blk n : Nat} {d : Array Int} (h : GotU w blk n d w1) {i j : Nat} (hi : i < n) (hj : j < n) {x y : Int} (hx : d[j]! = x) (hy : d[i]! = y) :
    GotU w blk n (swp d i j) ((w1.setCell ⟨blk, i, none⟩ (.int .u64 x)).setCell ⟨blk, j, none⟩ (.int .u64 y)).drew :=
  ⟨(by rw [← hx, ← hy]; exact (h.row.swp i j (by rw [h.size]; exact hi) (by rw [h.size]; exact hj)).drew), (h.turn.swp i j _ _).drew, by rw [size_swp]; exact h.size⟩
theorem GotU.cell {w w1 : World} {blk n : Nat} {d : Array Int} (h : GotU w blk n d w1) {i : Nat} (hi : i < n) {x : Int} (hx : d[i]! = x) : w1.cell? ⟨blk, i, none⟩ = some (.int .u64 x) := by rw [← hx]; exact h.row.cell (by rw [h.size]; exact hi)
theorem GotU.refl {w : World} {blk : Nat} {d : Array Int} (h : RowU w blk d) : GotU w blk d.size d w := ⟨h, TurnU.refl _ _, rfl⟩
theorem GotU.trans {w w1 w2 : World} {blk n : Nat} {d d' : Array Int} (h : GotU w blk n d w1) (k : GotU w1 blk n d' w2) : GotU w blk n d' w2 := ⟨k.row, h.turn.trans k.turn, k.size⟩
set_option maxHeartbeats 4000000 in
theorem reverseU_any (w : World) (blk cap a b n : Nat) (d : Array Int) (hH : RowU w blk d) (hn : d.size = n) (hab : a < b) (hb : b ≤ n) (hsz : n < 4611686018427387904) :
    Calls Tryz.prog 136 #[.slice (some ⟨blk, 0, none⟩) n cap, .int .i64 a, .int .i64 b] w fun e w' =>
      e = .returned (.tuple #[]) ∧ ∃ d', GotU w blk n d' w' ∧ PermIn a b d d' := by
  have HD := hid hH
  have HN := hid hn
  clear hH hn
  go_enter Tryz.func136, Tryz.ntmps136
  go_wp2_with fail
  go_loopw [6, 7] (fun vi vj wr => ∃ (i j : Nat) (dk : Array Int), vi = .int .i64 i ∧ vj = .int .i64 j ∧ a ≤ i ∧ j < b ∧ i ≤ b ∧ Hid (GotU w blk n dk wr) ∧ Hid (PermIn a b d dk)) (fun vi vj _ => (intOf vj).toNat + 1 - (intOf vi).toNat)
  case atStart => exact ⟨a, b - 1, d, rfl, by go_num, Nat.le_refl _, by omega, by omega, by rw [← HN.out]; exact GotU.refl HD.out, permIn_refl d a b⟩
  case round =>
    obtain ⟨i, j, dk, rfl, rfl, hai, hjb, hib, hG, hP⟩ := hrel
    by_cases hlt : i < j
    · have hlti : (i : Int) < (j : Int) := by omega
      have h1 : (i : Int) < (n : Int) := by omega
      have h2 : (j : Int) < (n : Int) := by omega
      have ⟨x, hx⟩ : ∃ x, dk[j]! = x := ⟨_, rfl⟩
      have ⟨y, hy⟩ : ∃ y, dk[i]! = y := ⟨_, rfl⟩
      have k1 := hG.out.cell (i := j) (by omega) hx
      have k2 := hG.out.cell (i := i) (by omega) hy
      have hf := hG.out.row.free
      have HS := hid (hG.out.swp (i := i) (j := j) (by omega) (by omega) hx hy)
      have HP2 := hid (permIn_trans dk dk dk a b (permIn_refl dk a b) (permIn_refl dk a b))
      have HPN := hid (permIn_trans d dk (swp dk i j) a b hP.out (swp_permIn dk a b i j hai (by omega) (by omega) hjb (by rw [hG.out.size]; exact hb)))
      clear hx hy
      go_upto_region 3 with fail
      go_region
      have hS := HS.out
      generalize ((wr.setCell ⟨blk, i, none⟩ (.int .u64 x)).setCell ⟨blk, j, none⟩ (.int .u64 y)).drew = w4 at hS ⊢
      have HS4 := hid hS
      clear hS k1 k2 hf
      go_wp2_with fail
      go_roundw
      case rel => exact ⟨i + 1, j - 1, swp dk i j, by go_num, by go_num, by omega, by omega, by omega, HS4.out, HPN.out⟩
      case measure => simp [intOf]; omega
    · have hge : (j : Int) ≤ (i : Int) := by omega
      go_wp2_with fail
      go_end0
      exact ⟨rfl, dk, hG.out, hP.out⟩
end Go.Proofs.YtdjlbejhphbcoaaGreat
namespace Go.Proofs.YtdjlbejhphbcoaaGreat
open Go.RowKit Go.Sort
set_option linter.unusedVariables false
set_option maxRecDepth 100000

/-- the numbers stay; the count of exchanges, in block sw, may turn -/
structure PivU (w : World) (blk : Nat) (d : Array Int) (sw : Nat) (w' : World) : Prop where
  row : RowU w' blk d
  cell : ∃ s : Int, Cell13 w' sw (.int .i64 s)
  turn : w.grownBy w' (some sw)
theorem PivU.trans {w w1 w2 : World} {blk : Nat} {d : Array Int} {sw : Nat} (h : PivU w blk d sw w1) (k : PivU w1 blk d sw w2) : PivU w blk d sw w2 := ⟨k.row, k.cell, grownBy_trans h.turn k.turn (.inl rfl)⟩
set_option maxHeartbeats 2000000 in
theorem order2U_any (w : World) (blk cap a b lo hi n sw : Nat) (d : Array Int) (hR : RowU w blk d) (hn : d.size = n) (hne : blk ≠ sw) (s : Int) (hC : Cell13 w sw (.int .i64 s)) (h1 : lo ≤ a ∧ a < hi) (h2 : lo ≤ b ∧ b < hi) (hhi : hi ≤ n) (hsz : n ≤ 1000) :
    Calls Tryz.prog 171 #[.slice (some ⟨blk, 0, none⟩) n cap, .int .i64 a, .int .i64 b, .pointer (some ⟨sw, 0, none⟩)] w fun e w' =>
      (∃ p q : Nat, e = .returned (.tuple #[.int .i64 p, .int .i64 q]) ∧ (lo ≤ p ∧ p < hi) ∧ (lo ≤ q ∧ q < hi)) ∧ PivU w blk d sw w' := by
  have HG : Hid (GotU w blk n d w) := by show GotU _ _ _ _ _; rw [← hn]; exact GotU.refl hR
  have HC := hid hC
  have HNE := hid hne
  have ⟨x, hx⟩ : ∃ x, d[b]! = x := ⟨_, rfl⟩
  have ⟨y, hy⟩ : ∃ y, d[a]! = y := ⟨_, rfl⟩
  have i1 : (a : Int) < (n : Int) := by omega
  have i2 : (b : Int) < (n : Int) := by omega
  have c1 := Wk.cell (HG.out.cell (i := b) (by omega) hx)
  have c2 := Wk.cell (HG.out.cell (i := a) (by omega) hy)
  obtain ⟨r, hr⟩ : ∃ r, ltInt x y = r := ⟨_, rfl⟩
  have HL := hid (fun w => less_at hr w)
  have H12 := hid (And.intro h1 h2)
  clear hR hn hne hC hx hy hr h1 h2
  go_enter Tryz.func171, Tryz.ntmps171
  go_upto_region 1 with fail
  refine wp_region_wk (by kernel_rfl) (by kernel_rfl) ?_
  repeat (go_big_quiet_step (first | (go_at_call 138; exact Wk.same (HL.out _)) | fail))
  refine wpQuiet_nil ?_
  rintro w3 ⟨⟨_, hb3⟩, rfl⟩
  have hC3 := HC.out.below hb3
  have HB3 := hid hb3
  have HC3 := hid hC3
  clear c1 c2 hb3
  cases r
  · clear hC3
    go_wp2_with fail
    refine bodyPost_ret (v := .tuple #[.int .i64 a, .int .i64 b]) (by simp [results, Tryz.results171, go_sem]) rfl ⟨⟨a, b, rfl, H12.out.1, H12.out.2⟩, ⟨HG.out.row.below HB3.out, ⟨s, HC3.out⟩, (below_by_none HB3.out).but _⟩⟩
  · obtain ⟨k1, k2⟩ := hC3
    have HS := hid (fun u => HC3.out.set u)
    go_wp2_with fail
    refine bodyPost_ret (v := .tuple #[.int .i64 b, .int .i64 a]) (by simp [results, Tryz.results171, go_sem]) rfl ⟨⟨b, a, rfl, H12.out.2, H12.out.1⟩, ⟨(BoxL.far (HG.out.row.below HB3.out) _ (fun e => HNE.out e.symm) : RowU _ _ _), ⟨_, HS.out _⟩, grownBy_trans ((below_by_none HB3.out).but (some sw)) (by_setCell _ _ _ _) (.inl rfl)⟩⟩
theorem PivU.self {w : World} {blk : Nat} {d : Array Int} {sw : Nat} (hR : RowU w blk d) (s : Int) (hC : Cell13 w sw (.int .i64 s)) : PivU w blk d sw w := ⟨hR, ⟨s, hC⟩, ⟨rfl, rfl, rfl, Nat.le_refl _, fun _ _ _ => rfl⟩⟩
theorem order2U_piv (w w1 : World) (blk cap a b lo hi n sw : Nat) (d : Array Int) (hP : PivU w blk d sw w1) (hn : d.size = n) (hne : blk ≠ sw) (h1 : lo ≤ a ∧ a < hi) (h2 : lo ≤ b ∧ b < hi) (hhi : hi ≤ n) (hsz : n ≤ 1000) :
    Calls Tryz.prog 171 #[.slice (some ⟨blk, 0, none⟩) n cap, .int .i64 a, .int .i64 b, .pointer (some ⟨sw, 0, none⟩)] w1 fun e w' =>
      (∃ p q : Nat, e = .returned (.tuple #[.int .i64 p, .int .i64 q]) ∧ (lo ≤ p ∧ p < hi) ∧ (lo ≤ q ∧ q < hi)) ∧ PivU w blk d sw w' := by
  obtain ⟨s, hs⟩ := hP.cell
  exact (order2U_any w1 blk cap a b lo hi n sw d hP.row hn hne s hs h1 h2 hhi hsz).mono fun e w' h => ⟨h.1, hP.trans h.2⟩
theorem medianU_any (w w0 : World) (blk cap a b c lo hi n sw : Nat) (d : Array Int) (hP : PivU w blk d sw w0) (hn : d.size = n) (hne : blk ≠ sw) (h1 : lo ≤ a ∧ a < hi) (h2 : lo ≤ b ∧ b < hi) (h3 : lo ≤ c ∧ c < hi) (hhi : hi ≤ n) (hsz : n ≤ 1000) :
    Calls Tryz.prog 163 #[.slice (some ⟨blk, 0, none⟩) n cap, .int .i64 a, .int .i64 b, .int .i64 c, .pointer (some ⟨sw, 0, none⟩)] w0 fun e w' =>
      (∃ p : Nat, e = .returned (.int .i64 p) ∧ (lo ≤ p ∧ p < hi)) ∧ PivU w blk d sw w' := by
  have HO := hid (fun (w1 : World) (a b : Nat) (h : PivU w blk d sw w1) (h1 : lo ≤ a ∧ a < hi) (h2 : lo ≤ b ∧ b < hi) => order2U_piv w w1 blk cap a b lo hi n sw d h hn hne h1 h2 hhi hsz)
  have HP := hid hP
  have H := hid (And.intro h1 (And.intro h2 h3))
  clear hP h1 h2 h3 hn hne
  go_enter Tryz.func163, Tryz.ntmps163
  go_wp2_with fail
  refine (HO.out _ a b HP.out H.out.1 H.out.2.1).mono ?_
  rintro e w1 ⟨⟨p, q, rfl, hp, hq⟩, hP1⟩
  have HP1 := hid hP1
  have H1 := hid (And.intro hp hq)
  clear hP1 hp hq
  go_wp2_with fail
  refine (HO.out _ q c HP1.out H1.out.2 H.out.2.2).mono ?_
  rintro e w2 ⟨⟨p2, q2, rfl, hp, hq⟩, hP2⟩
  have HP2 := hid hP2
  have H2 := hid (And.intro hp hq)
  clear hP2 hp hq
  go_wp2_with fail
  refine (HO.out _ p p2 HP2.out H1.out.1 H2.out.1).mono ?_
  rintro e w3 ⟨⟨p3, q3, rfl, hp, hq⟩, hP3⟩
  have HP3 := hid hP3
  have H3 := hid (And.intro hp hq)
  clear hP3 hp hq
  go_wp2_with fail
  go_ret
  exact ⟨⟨q3, rfl, H3.out.2⟩, HP3.out⟩
theorem medianAdjU_any (w w0 : World) (blk cap a lo hi n sw : Nat) (d : Array Int) (hP : PivU w blk d sw w0) (hn : d.size = n) (hne : blk ≠ sw) (h1 : lo + 1 ≤ a ∧ a + 1 < hi) (hhi : hi ≤ n) (hsz : n ≤ 1000) :
    Calls Tryz.prog 162 #[.slice (some ⟨blk, 0, none⟩) n cap, .int .i64 a, .pointer (some ⟨sw, 0, none⟩)] w0 fun e w' =>
      (∃ p : Nat, e = .returned (.int .i64 p) ∧ (lo ≤ p ∧ p < hi)) ∧ PivU w blk d sw w' := by
  obtain ⟨a1, ha1⟩ : ∃ a1, a1 = a - 1 := ⟨_, rfl⟩
  obtain ⟨a2, ha2⟩ : ∃ a2, a2 = a + 1 := ⟨_, rfl⟩
  have e1 : (a : Int) - 1 = (a1 : Int) := by omega
  have e2 : (a : Int) + 1 = (a2 : Int) := by omega
  have HM := hid (medianU_any w w0 blk cap a1 a a2 lo hi n sw d hP hn hne (by omega) (by omega) (by omega) hhi hsz)
  clear hP hn hne ha1 ha2
  go_enter Tryz.func162, Tryz.ntmps162
  go_wp2_with fail
  refine HM.out.mono ?_
  rintro e w1 ⟨⟨p, rfl, hp⟩, hP1⟩
  have HP1 := hid (And.intro hp hP1)
  clear hp hP1
  go_wp2_with fail
  go_ret
  exact ⟨⟨p, rfl, HP1.out.1⟩, HP1.out.2⟩
end Go.Proofs.YtdjlbejhphbcoaaGreat
namespace Go.Proofs.YtdjlbejhphbcoaaGreat
open Go.RowKit Go.Sort
set_option linter.unusedVariables false
set_option maxRecDepth 100000

set_option maxHeartbeats 4000000 in
theorem pivotU_any (w : World) (blk cap a b n : Nat) (d : Array Int) (hR : RowU w blk d) (hn : d.size = n) (hab : a + 12 < b) (hb : b ≤ n) (hsz : n ≤ 1000) :
    Calls Tryz.prog 135 #[.slice (some ⟨blk, 0, none⟩) n cap, .int .i64 a, .int .i64 b] w fun e w' =>
      (∃ (p : Nat) (h : Int), e = .returned (.tuple #[.int .i64 p, .int .i64 h]) ∧ a ≤ p ∧ p < b) ∧ RowU w' blk d ∧ Below w.heap.size w w' := by
  obtain ⟨W, hW⟩ : ∃ W, w.alloc (.cells #[.int .i64 0] 3) = W := ⟨_, rfl⟩
  have hC : Cell13 W w.heap.size (.int .i64 0) := by rw [← hW]; exact Cell13.new _ _ _
  have hbW : Below w.heap.size w W := by rw [← hW]; exact below_alloc _ _
  have hlt : blk < w.heap.size := BoxL.lt hR
  have hne : blk ≠ w.heap.size := by omega
  have HP0 : Hid (PivU W blk d w.heap.size W) := PivU.self (hR.below hbW) 0 hC
  have HW := hid hW
  have HB := hid hbW
  obtain ⟨l, hl⟩ : ∃ l, l = b - a := ⟨_, rfl⟩
  have hli : (b : Int) - (a : Int) = (l : Int) := by omega
  obtain ⟨q, hq⟩ : ∃ q, q = l / 4 := ⟨_, rfl⟩
  have hqi : (l : Int) / 4 = (q : Int) := by omega
  have hqt : (l : Int).tdiv 4 = (q : Int) := by rw [Int.tdiv_eq_ediv_of_nonneg (by omega)]; omega
  obtain ⟨i, hi⟩ : ∃ i, i = a + q * 1 := ⟨_, rfl⟩
  obtain ⟨j, hj⟩ : ∃ j, j = a + q * 2 := ⟨_, rfl⟩
  obtain ⟨k, hk⟩ : ∃ k, k = a + q * 3 := ⟨_, rfl⟩
  have hii : (a : Int) + (q : Int) * 1 = (i : Int) := by omega
  have hii2 : (a : Int) + (q : Int) = (i : Int) := by omega
  have hji : (a : Int) + (q : Int) * 2 = (j : Int) := by omega
  have hki : (a : Int) + (q : Int) * 3 = (k : Int) := by omega
  have hl8 : (8 : Int) ≤ (l : Int) := by omega
  have bi : a + 3 ≤ i ∧ i + 1 < b := by omega
  have bj : a + 3 ≤ j ∧ j + 1 < b := by omega
  have bk : a + 3 ≤ k ∧ k + 1 < b := by omega
  have HME := hid (fun (w1 : World) (x y z : Nat) (h : PivU W blk d w.heap.size w1) (h1 : a ≤ x ∧ x < b) (h2 : a ≤ y ∧ y < b) (h3 : a ≤ z ∧ z < b) => medianU_any W w1 blk cap x y z a b n w.heap.size d h hn hne h1 h2 h3 hb hsz)
  have HMA := hid (fun (w1 : World) (x : Nat) (h : PivU W blk d w.heap.size w1) (h1 : a + 1 ≤ x ∧ x + 1 < b) => medianAdjU_any W w1 blk cap x a b n w.heap.size d h hn hne h1 hb hsz)
  have HBI := hid (And.intro bi (And.intro bj bk))
  have q300 : (q : Int) ≤ 300 := by omega
  clear hR hn hW hC hbW hne hl hq hi hj hk bi bj bk
  go_enter Tryz.func135, Tryz.ntmps135
  go_upto_region 3 with fail
  rw [HW.out]
  go_upto_if 32 with fail
  go_cut [10, 11, 12] (fun _ t11 _ wx => ∃ p : Nat, t11 = .int .i64 p ∧ a ≤ p ∧ p < b ∧ Hid (PivU W blk d w.heap.size wx))
  case first =>
    by_cases h50 : 50 ≤ l
    · have h50i : (50 : Int) ≤ (l : Int) := by omega
      go_wp2_with fail
      refine (HMA.out _ i HP0.out (by have := HBI.out; omega)).mono ?_
      rintro e w1 ⟨⟨i1, rfl, hi1⟩, hP1⟩
      have HP1 := hid hP1
      have H1 := hid hi1
      clear hP1 hi1
      go_wp2_with fail
      refine (HMA.out _ j HP1.out (by have := HBI.out; omega)).mono ?_
      rintro e w2 ⟨⟨j1, rfl, hj1⟩, hP2⟩
      have HP2 := hid hP2
      have H2 := hid hj1
      clear hP2 hj1
      go_wp2_with fail
      refine (HMA.out _ k HP2.out (by have := HBI.out; omega)).mono ?_
      rintro e w3 ⟨⟨k1, rfl, hk1⟩, hP3⟩
      have HP3 := hid hP3
      have H3 := hid hk1
      clear hP3 hk1
      go_wp2_with fail
      refine (HME.out _ i1 j1 k1 HP3.out H1.out H2.out H3.out).mono ?_
      rintro e w4 ⟨⟨p, rfl, hp⟩, hP4⟩
      have HP4 := hid hP4
      have H4 := hid hp
      clear hP4 hp
      go_wp2_with fail
      go_meet
      exact ⟨p, rfl, H4.out.1, H4.out.2, HP4.out⟩
    · have h50i : ¬ (50 : Int) ≤ (l : Int) := by omega
      go_wp2_with fail
      refine (HME.out _ i j k HP0.out (by have := HBI.out; omega) (by have := HBI.out; omega) (by have := HBI.out; omega)).mono ?_
      rintro e w4 ⟨⟨p, rfl, hp⟩, hP4⟩
      have HP4 := hid hP4
      have H4 := hid hp
      clear hP4 hp
      go_wp2_with fail
      go_meet
      exact ⟨p, rfl, H4.out.1, H4.out.2, HP4.out⟩
  obtain ⟨p, rfl, hp1, hp2, hP⟩ := hcut
  obtain ⟨s, hs⟩ := hP.out.cell
  have HB2 : Hid (Below w.heap.size w wc) := HB.out.grown hP.out.turn HB.out.size (fun k e => by cases e; exact Nat.le_refl _)
  have HRW := hid hP.out.row
  have HPP := hid (And.intro hp1 hp2)
  obtain ⟨s1, s2⟩ := hs
  clear HP0 hP hp1 hp2
  by_cases hs0 : s = 0
  · subst hs0
    go_wp2_with fail
    refine bodyPost_ret (v := .tuple #[.int .i64 p, .int .i64 1]) (by simp [results, Tryz.results135, go_sem]) rfl ⟨⟨p, 1, rfl, HPP.out.1, HPP.out.2⟩, HRW.out, HB2.out⟩
  · have hs0b : (s == 0) = false := by simpa using hs0
    by_cases hs12 : s = 12
    · subst hs12
      go_wp2_with fail
      refine bodyPost_ret (v := .tuple #[.int .i64 p, .int .i64 2]) (by simp [results, Tryz.results135, go_sem]) rfl ⟨⟨p, 2, rfl, HPP.out.1, HPP.out.2⟩, HRW.out, HB2.out⟩
    · have hs12b : (s == 12) = false := by simpa using hs12
      go_wp2_with fail
      refine bodyPost_ret (v := .tuple #[.int .i64 p, .int .i64 0]) (by simp [results, Tryz.results135, go_sem]) rfl ⟨⟨p, 0, rfl, HPP.out.1, HPP.out.2⟩, HRW.out, HB2.out⟩
end Go.Proofs.YtdjlbejhphbcoaaGreat
