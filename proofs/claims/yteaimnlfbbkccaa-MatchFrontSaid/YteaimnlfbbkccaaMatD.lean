/- Package match: how long a list's bytes are. -/
import Derived.Test.YteaimnlfbbkccaaMatC
import Derived.Test.YteaimnlfbbkccaaMrg7
namespace Go.Proofs.Yteaimnlfbbkccaa
open Go.RowKit
set_option linter.unusedVariables false
attribute [local go_sem] Oper.semAt_some

/-- a cell that may be written -/
structure Cell10 (w : World) (b : Nat) (v : Value) : Prop where
  c : w.cell? ⟨b, 0, none⟩ = some v
  f : w.frozen? ⟨b, 0, none⟩ = false
theorem Cell10.below {w w' : World} {b : Nat} {v : Value} (h : Cell10 w b v) (hb : Below w.heap.size w w') : Cell10 w' b v := ⟨cell_keep h.c hb, (hb.frozen (World.block_lt_of_cell? w _ h.c)).trans h.f⟩
theorem Cell10.new (w : World) (v : Value) (T : TypeId) : Cell10 (w.alloc (.cells #[v] T)) w.heap.size v := ⟨by simp, by simp⟩
theorem Cell10.others {W W' : World} {b : Nat} {v : Value} {row : Option Nat} (h : Cell10 W b v) (hg : W.grownBy W' row) (hr : ∀ r, row = some r → ∃ o : Obj, W.heap[r]? = some o ∧ o.isCells = false) : Cell10 W' b v :=
  ⟨cell_kept h.c hg hr, (frozen_kept h.c hg hr).trans h.f⟩
theorem Cell10.lt {w : World} {b : Nat} {v : Value} (h : Cell10 w b v) : b < w.heap.size := World.block_lt_of_cell? w _ h.c
theorem Cell10.set {w : World} {b : Nat} {v : Value} (h : Cell10 w b v) (u : Value) : Cell10 (w.setCell ⟨b, 0, none⟩ u) b u := ⟨World.cell?_setCell_same _ _ _ h.c, (World.frozen?_setCell _ _ _ _).trans h.f⟩
theorem Cell10.far {w : World} {b g : Nat} {v : Value} (h : Cell10 w b v) (hne : b ≠ g) (u : Value) : Cell10 (w.setCell ⟨g, 0, none⟩ u) b v :=
  ⟨(World.cell?_setCell_other _ _ _ _ (by intro e; injection e with e1; exact hne e1.symm)).trans h.c, (World.frozen?_setCell _ _ _ _).trans h.f⟩
theorem Cell10.kept {w w' : World} {b : Nat} {v : Value} (h : Cell10 w b v) (hb : w'.heap[b]? = w.heap[b]?) : Cell10 w' b v :=
  ⟨(World.cell?_of_block (a := ⟨b, 0, none⟩) hb).trans h.c, (World.frozen?_of_block (a := ⟨b, 0, none⟩) hb).trans h.f⟩

theorem written10_any (w : World) (a : Option Addr) (c : Nat) (l : List Ent9) :
    Calls Try.prog 31 #[.slice a l.length c] w fun e w' => ∃ p, e = .returned (.func (.func 53) #[] #[.pointer (some ⟨p, 0, none⟩)]) ∧
      w'.cell? ⟨p, 0, none⟩ = some (.slice a l.length c) ∧ Below w.heap.size w w' ∧ w.heap.size ≤ p ∧ p < w'.heap.size := by
  go_enter Try.func31, Try.ntmps31
  go_wp2
  go_ret
  exact ⟨w.heap.size, rfl, by simp, below_alloc _ _, Nat.le_refl _, by rw [World.size_alloc]; omega⟩

/-- all bytes that have come -/
def all10 (pre : List Piece10) : List Int := (pre.map Piece10.x).flatten
theorem all10_snoc (pre : List Piece10) (x : Piece10) : all10 (pre ++ [x]) = all10 pre ++ x.x := by simp [all10]
theorem all10_body {l : List Ox9} {xs : List Piece10} (h : xs.map Piece10.x = l.map bytes10) : all10 xs = body10 l := by
  unfold all10 body10; rw [h]; rfl
theorem all10_len {l : List Ox9} {pre : List Piece10} (h : Pre10 l pre) : (all10 pre).length ≤ (body10 l).length := by
  unfold all10
  rw [h.is]
  have e : body10 l = body10 (l.take pre.length) ++ body10 (l.drop pre.length) := by rw [← body_append10, List.take_append_drop]
  rw [e, List.length_append]
  show (body10 (l.take pre.length)).length ≤ _
  omega

/-- between two rounds of the loop that reckons the length -/
structure LenAt (w0 : World) (T R2 R3 : Nat) (pre : List Piece10) (W : World) : Prop where
  n : Cell10 W T (.int .i64 ((4 + (all10 pre).length : Nat) : Int))
  r2 : Cell10 W R2 (.int .i64 0)
  r3 : Cell10 W R3 (.bool false)
  bel : Below w0.heap.size w0 W
theorem LenAt.own {w0 : World} {T R2 R3 B : Nat} (hB : w0.heap.size ≤ B) : OwnFrom B (LenAt w0 T R2 R3) := by
  intro pre W W' row h hg hr
  have hr2 : ∀ r, row = some r → ∃ o : Obj, W.heap[r]? = some o ∧ o.isCells = false := fun r e => (hr r e).2
  exact ⟨h.n.others hg hr2, h.r2.others hg hr2, h.r3.others hg hr2, ownFrom_below (Nat.le_refl _) hB () W W' row h.bel hg hr⟩

theorem three10 (w : World) (v2 v3 v4 : Value) (t2 t3 t4 : TypeId) :
    ∃ W, ((w.alloc (.cells #[v2] t2)).alloc (.cells #[v3] t3)).alloc (.cells #[v4] t4) = W ∧ Below w.heap.size w W ∧ W.heap.size = w.heap.size + 3 ∧ Cell10 W w.heap.size v2 ∧ Cell10 W (w.heap.size + 1) v3 ∧ Cell10 W (w.heap.size + 1 + 1) v4 := by
  have b1 := below_alloc w (.cells #[v2] t2)
  have b2 := below_alloc (w.alloc (.cells #[v2] t2)) (.cells #[v3] t3)
  have b3 := below_alloc ((w.alloc (.cells #[v2] t2)).alloc (.cells #[v3] t3)) (.cells #[v4] t4)
  have c2 := ((Cell10.new w v2 t2).below b2).below b3
  have c3 := (Cell10.new (w.alloc (.cells #[v2] t2)) v3 t3).below b3
  have c4 := Cell10.new ((w.alloc (.cells #[v2] t2)).alloc (.cells #[v3] t3)) v4 t4
  simp only [World.size_alloc] at c3 c4
  exact ⟨_, rfl, below_on (below_on b1 b2) b3, by simp, c2, c3, c4⟩

set_option maxRecDepth 100000 in
set_option maxHeartbeats 2000000 in
theorem length10_any (w : World) (a : Option Addr) (c : Nat) (l : List Ent9) (hL : L9 w a l) (hlc : l.length ≤ c) (hbig : len10 (l.map Ent9.o) ≤ 65528) :
    Calls Try.prog 29 #[.slice a l.length c] w fun e w' => e = .returned (.tuple #[.int .i64 (if (l.map Ent9.o).all right10 = true then ((len10 (l.map Ent9.o) : Nat) : Int) else 0), .bool (isMatch10 (l.map Ent9.o))]) ∧ Below w.heap.size w w' := by
  have HL := hid hL
  have HBIG := hid hbig
  clear hL hbig
  obtain ⟨W0, hW0, hbW, hsz, k2, k3, k4⟩ := three10 w (.int .i64 0) (.bool false) (.int .i64 4) 3 4 3
  have HW0 := hid hW0
  clear hW0
  refine (callsIn_wide (n := 0)).1 (callsIn_of_wp_marks Try.func29 rfl (by simp [Fence.wide]) ?_)
  refine wpIn_wide.2 ?_
  simp only [Try.ntmps29, List.size_toArray, List.length_cons, List.length_nil, Nat.reduceAdd, Nat.reduceSub, Array.replicate_succ, Array.replicate_zero, List.push_toArray, List.append_toArray, List.nil_append, List.cons_append]
  go_upto_region 2 with fail
  rw [HW0.out]
  go_wp2_with fail
  refine (written10_any _ _ _ _).mono ?_
  rintro e w2 ⟨p, rfl, hbx, hb2, hp1, hp2⟩
  have hB2 : Below w.heap.size w w2 := below_on hbW hb2
  have hs2 := hb2.size
  have m2 := k2.below hb2
  have m3 := k3.below hb2
  have m4 := k4.below hb2
  have HIT : Hid (Iter10 w a c p l [] w2) := ⟨pre10_nil _, hbx, hp2, Stays.of_below hB2⟩
  have HB2 := hid hB2
  have HP1 : Hid (w.heap.size + 3 ≤ p) := by show _ ≤ _; omega
  clear k2 k3 k4 hbx
  go_wp2_with fail
  refine wp_rangeT (gf := 53) (jc := .ret) rfl (fun args w => by simp [callFunc, Try.func53, Try.f53, mark]) (written10_yields w w2 a c p l HL.out HIT.out) (fun k hk => by rcases hk with rfl | hk; exact hp2; have := HB2.out.size; omega) (fun _ => rfl) (fun _ => rfl)
    (LenAt w (w.heap.size + 1 + 1) w.heap.size (w.heap.size + 1))
    (fun _ q W => (q = 10001 → W.cell? ⟨w.heap.size, 0, none⟩ = some (.int .i64 0)) ∧ W.cell? ⟨w.heap.size + 1, 0, none⟩ = some (.bool false) ∧ Below w.heap.size w W)
    (LenAt.own HB2.out.size) (fun pre n => Next10.own _ _ _)
    (fun x W W' row hx hg hr => ⟨fun e => cell_kept (hx.1 e) hg (fun r e => (hr r e).2), cell_kept hx.2.1 hg (fun r e => (hr r e).2), ownFrom_below (Nat.le_refl _) HB2.out.size () W W' row hx.2.2 hg hr⟩)
    ⟨m4, m2, m3, HB2.out⟩
    (fun x a' _ => a' = { tmps := #[.slice a l.length c, undef, .pointer (some ⟨w.heap.size, 0, none⟩), .pointer (some ⟨w.heap.size + 1, 0, none⟩), .pointer (some ⟨w.heap.size + 1 + 1, 0, none⟩), x.v, .int .i64 0, undef, undef, .slice a l.length c, .func (.func 53) #[] #[.pointer (some ⟨p, 0, none⟩)], x.v, .int .i64 0, undef, undef, undef, undef, undef, undef, undef, undef, undef, undef, undef, undef, undef, undef, undef, undef, undef, undef], defers := [] })
    (fun x a' _ W W' row hx hg hr => hx)
    (fun q a' W => a' = { tmps := #[.slice a l.length c, undef, .pointer (some ⟨w.heap.size, 0, none⟩), .pointer (some ⟨w.heap.size + 1, 0, none⟩), .pointer (some ⟨w.heap.size + 1 + 1, 0, none⟩), .slice none 0 0, .int .i64 q, undef, undef, .slice a l.length c, .func (.func 53) #[] #[.pointer (some ⟨p, 0, none⟩)], .slice none 0 0, .int .i64 q, undef, undef, undef, undef, undef, undef, undef, undef, undef, undef, undef, undef, undef, undef, undef, undef, undef, undef], defers := [] })
    (fun x a' _ W W' row hx hg hr => hx) ?asg ?asb ?good ?bad ?done ?stop
  case asg =>
    rintro i ⟨xb, xa, xc⟩ W C hC
    dsimp only [Piece10.v] at hC ⊢
    gi_wp2
    exact hC _ _ (Below.refl _ _) rfl
  case asb =>
    intro i x W C hC
    gi_wp2
    exact hC _ _ (Below.refl _ _) rfl
  case good =>
    rintro i pre ⟨xb, xa, xc⟩ a' W0' W hWs hlen2 hI0 hcl hI hx rfl
    clear hI0 hcl
    dsimp only [Piece10.v]
    obtain ⟨⟨n1, n2⟩, ⟨r1, r2⟩, ⟨r3, r4⟩, hbl⟩ := hI
    have HFR := hid hx.front
    have hle := all10_len hx.front
    have hsn : all10 (pre ++ [⟨xb, xa, xc⟩]) = all10 pre ++ xb := all10_snoc pre ⟨xb, xa, xc⟩
    have hbg := HBIG.out
    unfold len10 at hbg
    rw [hsn, List.length_append] at hle
    have hn3 : ((4 + (all10 pre).length : Nat) : Int) + (xb.length : Int) ≤ 65528 := by omega
    have hnn : ((4 + (all10 pre).length : Nat) : Int) + (xb.length : Int) = ((4 + (all10 (pre ++ [⟨xb, xa, xc⟩])).length : Nat) : Int) := by rw [hsn, List.length_append]; omega
    have HNN := hid hnn
    have HBL := hid hbl
    obtain ⟨nn, hnn2⟩ : ∃ nn : Nat, 4 + (all10 pre).length = nn := ⟨_, rfl⟩
    rw [hnn2] at n1 hn3 HNN
    clear hx hle hsn hbg hnn hbl hnn2
    have hn4 : ¬ (65528 : Int) < (nn : Int) + (xb.length : Int) := by omega
    have hnz : (0 : Int) ≤ (nn : Int) + (xb.length : Int) := by omega
    have hlt := hlen2
    gi_wp2
    refine ⟨(KeepsOthers.setCell _ _ _).from _, fun k hk hkw => Below.heap_setCell _ _ _ _ (by show k ≠ w.heap.size + 1 + 1; have := HP1.out; rcases hk with rfl | hk <;> omega), ?_, (Cell10.mk r1 r2).far (by omega) _, (Cell10.mk r3 r4).far (by omega) _, HBL.out.setCell (by show w.heap.size ≤ w.heap.size + 1 + 1; omega) _⟩
    rw [HNN.out]
    exact (Cell10.mk n1 n2).set _
  case bad =>
    rintro i pre q a' W hWs hq hsp hI rfl
    have hq0 : (q != 0) = true := by simpa using hq
    obtain ⟨⟨n1, n2⟩, ⟨r1, r2⟩, ⟨r3, r4⟩, hbl⟩ := hI
    have HBL := hid hbl
    clear hq hbl
    obtain ⟨nn, hnn2⟩ : ∃ nn : Nat, 4 + (all10 pre).length = nn := ⟨_, rfl⟩
    rw [hnn2] at n1
    clear hnn2
    gi_wp2
    have k3 := (((Cell10.mk r3 r4).far (g := w.heap.size + 1 + 1) (by omega) (.int .i64 (wrap64 (nn : Int)))).far (g := w.heap.size) (by omega) (.int .i64 0)).set (.bool false)
    have k2 := (((Cell10.mk r1 r2).far (g := w.heap.size + 1 + 1) (by omega) (.int .i64 (wrap64 (nn : Int)))).set (.int .i64 0)).far (g := w.heap.size + 1) (by omega) (.bool false)
    exact ⟨rfl, (((KeepsOthers.setCell _ _ _).trans (KeepsOthers.setCell _ _ _)).trans (KeepsOthers.setCell _ _ _)).from _, fun _ => k2.c, k3.c, ((HBL.out.setCell (by show w.heap.size ≤ w.heap.size + 1 + 1; omega) _).setCell (by show w.heap.size ≤ w.heap.size; omega) _).setCell (by show w.heap.size ≤ w.heap.size + 1; omega) _⟩
  case done =>
    rintro D xs W hD ⟨hall, hxs⟩ hI hK
    obtain ⟨kn, k2, k3, hbl⟩ := hI
    have hCK := check_any9 l a c W (HL.out.below hbl) hlc
    obtain ⟨⟨p1, q1⟩, hck⟩ : ∃ r, check9 (l.map Ent9.o) = r := ⟨_, rfl⟩
    rw [hck] at hCK
    have HCK := hid hCK
    have HB5 := hid hbl
    rw [all10_body hxs] at kn
    have hln : 4 + (body10 (l.map Ent9.o)).length = len10 (l.map Ent9.o) := rfl
    rw [hln] at kn
    have HMT : Hid ((q1 == 0) = isMatch10 (l.map Ent9.o)) := by show _ = _; unfold isMatch10; rw [hall, hck]; rfl
    have HALL := hid hall
    obtain ⟨n, hn⟩ : ∃ n, len10 (l.map Ent9.o) = n := ⟨_, rfl⟩
    rw [hn] at kn
    have HN := hid hn
    unfold ckV at HCK
    clear hCK hck hxs hall hln hbl hn
    obtain ⟨mt, hmt⟩ : ∃ mt, (q1 == 0) = mt := ⟨_, rfl⟩
    rw [hmt] at HMT
    have HMT2 := hid hmt
    go_wp2_with fail
    refine HCK.out.mono ?_
    rintro e w5 ⟨rfl, hb5⟩
    have HB6 := hid (below_on HB5.out hb5)
    have hK5 : w5.heap[D]? = some (.deferred (some [])) := (hb5.block D (Array.getElem?_eq_some_iff.1 hK).1).trans hK
    have mn := kn.below hb5
    have m2' := k2.below hb5
    have m3' := k3.below hb5
    have hs5 := hb5.size
    obtain ⟨n1, n2⟩ := mn
    obtain ⟨r1, r2⟩ := m2'
    obtain ⟨r3, r4⟩ := m3'
    have x2 := ((Cell10.mk r1 r2).set (.int .i64 (n : Int))).far (g := w.heap.size + 1) (by omega) (.bool mt)
    have x3 := ((Cell10.mk r3 r4).far (g := w.heap.size) (by omega) (.int .i64 (n : Int))).set (.bool mt)
    have hbx := (HB6.out.setCell (p := ⟨w.heap.size, 0, none⟩) (Nat.le_refl _) (.int .i64 (n : Int))).setCell (p := ⟨w.heap.size + 1, 0, none⟩) (by show w.heap.size ≤ w.heap.size + 1; omega) (.bool mt)
    have hKx : ((w5.setCell ⟨w.heap.size, 0, none⟩ (.int .i64 (n : Int))).setCell ⟨w.heap.size + 1, 0, none⟩ (.bool mt)).heap[D]? = some (.deferred (some [])) :=
      (Below.heap_setCell _ _ _ _ (by show D ≠ w.heap.size + 1; omega)).trans ((Below.heap_setCell _ _ _ _ (by show D ≠ w.heap.size; omega)).trans hK5)
    obtain ⟨W6, hW6⟩ : ∃ W6, (w5.setCell ⟨w.heap.size, 0, none⟩ (.int .i64 (n : Int))).setCell ⟨w.heap.size + 1, 0, none⟩ (.bool mt) = W6 := ⟨_, rfl⟩
    rw [hW6] at x2 x3 hbx hKx
    have HW6 := hid hW6
    have HX := hid (And.intro x2 (And.intro x3 (And.intro hbx hKx)))
    clear x2 x3 hbx hKx hW6 kn k2 k3 hb5 hmt
    go_wp2_with fail
    rw [HMT2.out]
    go_wp2_with fail
    rw [HW6.out]
    obtain ⟨x2, x3, hbx, hKx⟩ := HX.out
    have hgp := grownBy_putObj' W6 D (.deferred none)
    have hr : ∀ r, some D = some r → ∃ o : Obj, W6.heap[r]? = some o ∧ o.isCells = false := fun r e => by cases e; exact ⟨_, hKx, rfl⟩
    have q2 := cell_kept x2.c hgp hr
    have q3 := cell_kept x3.c hgp hr
    refine ⟨by simp, .inl ⟨_, _, rfl, run_takeDeferred hKx, ?_⟩⟩
    refine ⟨.tuple #[.int .i64 (n : Int), .bool mt], ?_, ?_, hbx.grown hgp hbx.size (fun k e => by cases e; have := HB2.out.size; omega)⟩
    · simp [results, Try.f29, go_sem, q2, q3]
    · rw [HN.out, HMT.out]
  case stop =>
    rintro D pre q W hD ⟨rfl, hcut⟩ ⟨c2, c3, hbW⟩ hK
    have hgp := grownBy_putObj' W D (.deferred none)
    have hr : ∀ r, some D = some r → ∃ o : Obj, W.heap[r]? = some o ∧ o.isCells = false := fun r e => by cases e; exact ⟨_, hK, rfl⟩
    have q2 := cell_kept (c2 rfl) hgp hr
    have q3 := cell_kept c3 hgp hr
    have HR := hid hr
    clear hr
    gi_wp2
    refine ⟨by simp, .inl ⟨_, _, rfl, run_takeDeferred hK, ?_⟩⟩
    refine ⟨.tuple #[.int .i64 0, .bool false], ?_, ?_, hbW.grown hgp hbW.size (fun k e => by cases e; have := HB2.out.size; omega)⟩
    · simp [results, Try.f29, go_sem, q2, q3]
    · simp [isMatch10, hcut]
end Go.Proofs.Yteaimnlfbbkccaa
