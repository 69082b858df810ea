/- Package tlv: Join, of whatever things. -/
import Derived.Test.YtfdkkcndadjcaaaTlvL
namespace Go.Proofs.Ytfdkkcndadjcaaa
open Go.RowKit
attribute [local go_sem] Oper.semAt_some

theorem join_may_not (w : World) (L S : Int) (P : Bool) (B O : Int) (h : ¬ MayS L S B O) (v : Value) :
    Calls Try.prog 16 #[.agg #[.int .i64 L, .int .i64 S, .bool P, .int .i64 B, .int .i64 O], v] w (JoinPost w (.error 10001)) := by
  obtain ⟨W, hW, hbW, hsz, hsh, h4, h5⟩ := boxed_two w L S P B O (.slice none 0 0) (.int .i64 0) 24 25 22
  have HW := hid hW
  clear hW
  refine (callsIn_wide (n := 0)).1 (callsIn_of_wp_marks Try.func16 rfl (by simp [Fence.wide]) ?_)
  refine wpIn_wide.2 ?_
  simp only [Try.ntmps16, List.size_toArray, List.length_cons, List.length_nil, Nat.reduceAdd, Nat.reduceSub, Array.replicate_succ, Array.replicate_zero, List.push_toArray, List.append_toArray, List.nil_append, List.cons_append]
  go_wp2_with fail
  rw [HW.out]
  refine (mayBe_no _ _ _ _ _ _ h).mono ?_
  rintro e w1 ⟨rfl, hb1⟩
  obtain ⟨c4, f4⟩ := h4.below hb1
  obtain ⟨c5, f5⟩ := h5.below hb1
  have hB := hid (below_more hbW hb1)
  go_wp2
  refine ⟨.tuple #[.slice none 0 0, .int .i64 10001], ?_, rfl, ?_⟩
  · simp [results, Try.f16, go_sem, *]
  · exact (hB.out.setCell (by simp) _).setCell (by simp; omega) _

set_option maxRecDepth 100000 in
set_option maxHeartbeats 2000000 in
theorem join_any (w : World) (L S : Nat) (P : Bool) (B O : Int) (h : MayS L S B O) (l : List Thing) (hlen : l.length ≤ 1000000) (a : Option Addr) (c : Nat) (hit : Items w a l) (hbd : ∀ h ∈ l, Ints .u8 w h.a h.x) (hf : ∀ x ∈ l, Thing.fits w.heap.size x) :
    Calls Try.prog 16 #[.agg #[.int .i64 L, .int .i64 S, .bool P, .int .i64 B, .int .i64 O], .slice a l.length c] w (JoinPost w (joinL L S P (l.map Thing.val))) := by
  obtain ⟨W, hW, hbW, hsz, hsh, h4, h5⟩ := boxed_two w L S P B O (.slice none 0 0) (.int .i64 0) 24 25 22
  have HW := hid hW
  clear hW
  refine (callsIn_wide (n := 0)).1 (callsIn_of_wp_marks Try.func16 rfl (by simp [Fence.wide]) ?_)
  refine wpIn_wide.2 ?_
  simp only [Try.ntmps16, List.size_toArray, List.length_cons, List.length_nil, Nat.reduceAdd, Nat.reduceSub, Array.replicate_succ, Array.replicate_zero, List.push_toArray, List.append_toArray, List.nil_append, List.cons_append]
  go_wp2_with fail
  rw [HW.out]
  refine (mayBe_yes _ _ _ _ _ _ h).mono ?_
  rintro e w1 ⟨rfl, hb1⟩
  have hB := below_more hbW hb1
  have hsh1 := hsh.below hb1
  obtain ⟨d0, d1, d2, d3, d4⟩ := hsh.below hb1
  have h41 := h4.below hb1
  have h51 := h5.below hb1
  have hs1 : w.heap.size + 3 ≤ w1.heap.size := by have := hb1.size; omega
  have hn0 : ¬ w.heap.size = w1.heap.size := by omega
  have hl0 : w.heap.size < w1.heap.size := by omega
  have HT := hid (fun W (hW : Below w1.heap.size w1 W) => written_any W L S P B O l a c (hit.below (hB.trans (hW.mono hB.size))) (fun x hx => (hbd x hx).below (hB.trans (hW.mono hB.size))) w.heap.size (fun hne _ hq => hit.lt hne hq) (Nat.le_trans hB.size hW.size))
  have HF := hid hf
  have hS1 : 1 ≤ S := by obtain ⟨_, _, h3, _⟩ := h; omega
  have hS64 : S ≤ 64 := by obtain ⟨_, _, _, h4, _⟩ := h; omega
  clear hsh h4 h5 hit hbd hf
  go_wp2_with fail
  refine (HT.out _ (below_alloc _ _)).mono ?_
  rintro e w2 ⟨p, s, rfl, hbx, hIt, hb2, hp2, hp3, hs2⟩
  have HI := hid hIt
  have hs3 := hIt.hs
  clear hIt
  go_wp2_with fail
  have hB1 : w1.heap.size + 1 ≤ w2.heap.size := by have := hb2.size; rw [World.size_alloc] at this; exact this
  have hB2 : Below w.heap.size w w2 := below_more hB (below_more (below_alloc _ _) hb2)
  have h42 := (h41.below (below_alloc _ _)).below hb2
  have h52 := (h51.below (below_alloc _ _)).below hb2
  have h62 := (One1.new w1 (.slice none 0 0) 25).below hb2
  have hKR : ∀ k, ReadsB p s w.heap.size k → k < w2.heap.size ∧ k ≠ w1.heap.size := by
    intro k hk
    rw [World.size_alloc] at hp2 hs2
    rcases hk with rfl | rfl | hk
    · exact ⟨hp3, by omega⟩
    · exact ⟨hs3, by omega⟩
    · omega
  have HKR := hid hKR
  clear hKR h41 h51 d0 d1 d2 d3 d4
  refine wp_range (gf := 36) rfl (fun args w => by simp [callFunc, Try.func36, Try.f36, mark]) (written_yields w2 L S P B O hS1 hS64 l a c p s w.heap.size hlen HF.out hbx HI.out w2.heap.size (Nat.le_refl _)) (fun k hk => (HKR.out k hk).1) (fun _ => rfl) (fun _ => rfl)
    (JoinAt w w2.heap.size w1.heap.size (w.heap.size + 1) (w.heap.size + 1 + 1))
    (fun _ q W => W.cell? ⟨w.heap.size + 1, 0, none⟩ = some (.slice none 0 0) ∧ W.cell? ⟨w.heap.size + 1 + 1, 0, none⟩ = some (.int .i64 q) ∧ Below w.heap.size w W)
    (JoinAt.own hB2.size) (fun x W W' row hx hg hr => hx.others hg (fun r e => (hr r e).2))
    (fun x W W' row hx hg hr => ⟨cell_kept hx.1 hg (fun r e => (hr r e).2), cell_kept hx.2.1 hg (fun r e => (hr r e).2), ownFrom_below (Nat.le_refl _) hB2.size () W W' row hx.2.2 hg hr⟩)
    ⟨⟨.slice none 0 0, h62.c, own_nilI _ _ _, (fun g e => by cases e)⟩, (by simp [allOf]), h62.f, h42.c, h42.f, h52.c, h52.f, hB2⟩
    (fun x a' _ => a' = { tmps := #[.agg #[.int .i64 L, .int .i64 S, .bool P, .int .i64 B, .int .i64 O], .slice a l.length c, .pointer (some ⟨w.heap.size, 0, none⟩), undef, .pointer (some ⟨w.heap.size + 1, 0, none⟩), .pointer (some ⟨w.heap.size + 1 + 1, 0, none⟩), .pointer (some ⟨w1.heap.size, 0, none⟩), x.v, .int .i64 0,
      .agg #[.int .i64 L, .int .i64 S, .bool P, .int .i64 B, .int .i64 O], .bool true, .bool false, .agg #[.int .i64 L, .int .i64 S, .bool P, .int .i64 B, .int .i64 O], .slice a l.length c, .func (.func 36) #[] #[.pointer (some ⟨p, 0, none⟩), .pointer (some ⟨s, 0, none⟩)], x.v, .int .i64 0, undef, undef, undef, undef, undef, undef, undef], defers := [] })
    (fun x a' _ W W' row hx hg hr => hx)
    (fun q a' W => a' = { tmps := #[.agg #[.int .i64 L, .int .i64 S, .bool P, .int .i64 B, .int .i64 O], .slice a l.length c, .pointer (some ⟨w.heap.size, 0, none⟩), undef, .pointer (some ⟨w.heap.size + 1, 0, none⟩), .pointer (some ⟨w.heap.size + 1 + 1, 0, none⟩), .pointer (some ⟨w1.heap.size, 0, none⟩), .slice none 0 0, .int .i64 q,
      .agg #[.int .i64 L, .int .i64 S, .bool P, .int .i64 B, .int .i64 O], .bool true, .bool false, .agg #[.int .i64 L, .int .i64 S, .bool P, .int .i64 B, .int .i64 O], .slice a l.length c, .func (.func 36) #[] #[.pointer (some ⟨p, 0, none⟩), .pointer (some ⟨s, 0, none⟩)], .slice none 0 0, .int .i64 q, undef, undef, undef, undef, undef, undef, undef], defers := [] })
    (fun x a' _ W W' row hx hg hr => hx) ?asg ?asb ?good ?bad ?done ?stop
  case asg =>
    rintro l ⟨xb, xk⟩ W C hC
    dsimp only [Chunk.v] at hC ⊢
    gi_wp2
    exact hC _ _ (Below.refl _ _) rfl
  case asb =>
    intro l x W C hC
    gi_wp2
    exact hC _ _ (Below.refl _ _) rfl
  case good =>
    rintro l pre ⟨xb, xk⟩ a' W hWs hlen2 hI hx rfl
    dsimp only [Chunk.v]
    obtain ⟨v, hv, hown, hvB⟩ := hI.v
    obtain ⟨va, vc, rfl, _, _, _⟩ := own_ints hown
    have hXW : w1.heap.size < w2.heap.size := by omega
    have hfx := hI.fx
    have HX := hid (fun w' (hb : W.grownBy w' (Value.slice va (allOf pre).length vc).ownBlock) => And.intro (hb.cell (a := ⟨w1.heap.size, 0, none⟩) hv (fun e => by have := hvB w1.heap.size e.symm; omega)) ((World.frozen?_of_block (a := ⟨w1.heap.size, 0, none⟩) (hb.block w1.heap.size (by omega) (fun e => by have := hvB w1.heap.size e.symm; omega))).trans hfx))
    have HI3 := hid hI
    have HO := hid (And.intro hown hvB)
    have hxi := hx.ints
    have hxm := hx.max
    have hil := hI.len
    have hys := allOf_snoc pre ⟨xb, xk⟩
    obtain ⟨ys, hys2⟩ : ∃ ys, ys = allOf (pre ++ [⟨xb, xk⟩]) := ⟨_, rfl⟩
    rw [← hys2] at hys
    have hyl : ys.length = (allOf pre).length + xb.length := by rw [hys, List.length_append]
    have HY := hid hys.symm
    have HY2 := hid hys2
    have hym : ys.length ≤ 70000000000 := by dsimp only at hxm; omega
    dsimp only at hxi hxm
    have hv0 := HO.out.1
    clear hI hvB hx hil hys hys2 hyl hown
    gi_wp2_with (gi_at_builtin; refine wpIn_app_ints rfl (.tmp 20) (.tmp 21) rfl elemU8 rfl hv0 rfl rfl hxi HY.out (by omega) (by omega) ?_; intro v' w' hg; obtain ⟨cX, fX⟩ := HX.out w' hg.by_; obtain ⟨va', vc', rfl, _, _, _⟩ := own_ints hg.own; have HG := hid hg; clear hg)
    have hg := HG.out
    rw [HY2.out] at hg
    rw [HY2.out]
    exact JoinAt.step HI3.out hXW (by omega) (by omega) (by omega) (by omega) (by omega) hWs hxm hv HO.out.1 HO.out.2 hg (ReadsB p s w.heap.size) HKR.out
  case bad =>
    rintro l pre q a' W hWs hq hI rfl
    have hq0 : (q != 0) = true := by simpa using hq
    have c4 := hI.c4
    have f4 := hI.f4
    have c5 := hI.c5
    have f5 := hI.f5
    have HI3 := hid hI
    clear hI hq
    gi_wp2
    exact ⟨((KeepsOthers.setCell _ _ _).trans (KeepsOthers.setCell _ _ _)).from _, (set_two c4 c5 (by omega) _ _).1, (set_two c4 c5 (by omega) _ _).2, (HI3.out.bel.setCell (by simp) _).setCell (by simp; omega) _⟩
  case done =>
    intro D xs W hD hxs hI hK
    obtain ⟨v, hv, hown, hvB⟩ := hI.v
    have c4 := hI.c4
    have f4 := hI.f4
    have c5 := hI.c5
    have f5 := hI.f5
    obtain ⟨va, vc, rfl, _, _, _⟩ := own_ints hown
    obtain ⟨W1, hW1, hD1, r4, r5, e1, e2, e3, e4, e5, e6⟩ := hI.done (by omega) (by omega) (by omega) (by omega) (by omega) hD hK hown hvB
    have HW1 := hid hW1
    have HE := hid (And.intro e1 (And.intro e2 (And.intro e3 (And.intro e4 (And.intro e5 e6)))))
    have hxs' : joinL L S P (l.map Thing.val) = .ok (xs.map Chunk.b) := hxs
    have HXS := hid hxs'
    clear hI hown hvB e1 e2 e3 e4 e5 e6 hW1 hxs hxs'
    go_wp2
    rw [HW1.out]
    refine ⟨by simp, .inl ⟨_, _, rfl, run_takeDeferred hD1, ?_⟩⟩
    refine ⟨.tuple #[.slice va (allOf xs).length vc, .int .i64 0], ?_, ?_⟩
    · simp [results, Try.f16, go_sem, r4, r5]
    · rw [HXS.out]
      exact ⟨va, vc, rfl, HE.out⟩
  case stop =>
    rintro D pre q W hD hcut ⟨c4, c5, hbW⟩ hK
    rw [hcut]
    clear hcut
    have hgp := grownBy_putObj' W D (.deferred none)
    have hr : ∀ r, some D = some r → ∃ o : Obj, W.heap[r]? = some o ∧ o.isCells = false := fun r e => by cases e; exact ⟨_, hK, rfl⟩
    have r4 := cell_kept c4 hgp hr
    have r5 := cell_kept c5 hgp hr
    have HR := hid hr
    clear hr
    gi_wp2
    refine ⟨by simp, .inl ⟨_, _, rfl, run_takeDeferred hK, ?_⟩⟩
    refine ⟨.tuple #[.slice none 0 0, .int .i64 q], ?_, rfl, hbW.grown hgp hbW.size (fun k e => by cases e; have := hB2.size; omega)⟩
    simp [results, Try.f16, go_sem, r4, r5]
end Go.Proofs.Ytfdkkcndadjcaaa
