/- The document's cover: both. -/
import Derived.Test.YtpmkfkanolhocaaGreatCovRB
import Derived.Deep.RegionLaw
namespace Go.Proofs.YtpmkfkanolhocaaGreat
open Go.RowKit
set_option linter.unusedVariables false
set_option maxRecDepth 100000

/-- a value that is being put together in box X: its bytes, its mask's bytes -/
structure BothAt (w0 w : World) (X : Nat) (C F : Int) (H : Bool) (E : Int) (v m : Value) (xs ys : List Int) : Prop where
  box : BoxL w X [.int .i64 C, .int .i64 F, .bool H, .int .u64 E, v, m]
  ov : Fresh 5 w0 w v (xs.map (Value.int .u8))
  om : Fresh 5 w0 w m (ys.map (Value.int .u8))
  nv : v.ownBlock ≠ some X
  nm : m.ownBlock ≠ some X
  ne : ∀ g, v.ownBlock = some g → m.ownBlock ≠ some g
theorem BothAt.behind {w0 w w' : World} {X : Nat} {C F : Int} {H : Bool} {E : Int} {v m : Value} {xs ys : List Int} (h : BothAt w0 w X C F H E v m xs ys) (hb : Below w.heap.size w w') : BothAt w0 w' X C F H E v m xs ys :=
  ⟨h.box.below hb, h.ov.behind (below_by_none hb), h.om.behind (below_by_none hb), h.nv, h.nm, h.ne⟩
theorem own_lt11 {w0 w : World} {e : TypeId} {v : Value} {xs : List Value} (h : Fresh e w0 w v xs) {g : Nat} (hg : v.ownBlock = some g) : g < w.heap.size := own_lt9 h.own hg
theorem fresh_kept {w0 w w' : World} {e : TypeId} {v : Value} {xs : List Value} {row : Option Nat} (h : Fresh e w0 w v xs) (hb : w.grownBy w' row) (hv : v.ownBlock = none ∨ v.ownBlock ≠ row) (hB : ∀ k, row = some k → w0.heap.size ≤ k) : Fresh e w0 w' v xs :=
  ⟨h.own.kept hb hv, h.bel.grown hb h.bel.size hB, h.new⟩
theorem none_or {v : Value} {g : Nat} (h : v.ownBlock ≠ some g) : v.ownBlock = none ∨ v.ownBlock ≠ some g := .inr h
theorem by_set11 (W : World) (R i : Nat) (v : Value) : W.grownBy (W.setCell ⟨R, i, none⟩ v) (some R) := ⟨rfl, rfl, rfl, by simp [World.setCell], fun k hk hne => Below.heap_setCell _ _ _ _ (fun e => hne (by rw [e]))⟩
/-- one byte more of the value: the list grows, then the box is told -/
theorem BothAt.value {w0 w w' : World} {X : Nat} {C F : Int} {H : Bool} {E : Int} {v v' m : Value} {xs ys : List Int} {q : Int} (h : BothAt w0 w X C F H E v m xs ys) (hX0 : w0.heap.size ≤ X) (hg : Grew 5 w w' v v' ((xs ++ [q]).map (Value.int .u8))) :
    BothAt w0 (w'.setCell ⟨X, 4, none⟩ v') X C F H E v' m (xs ++ [q]) ys := by
  have hXl := h.box.lt
  have hv'X : v'.ownBlock ≠ some X := by
    rcases hg.moved with e | ⟨g, e, hs⟩
    · rw [e]; exact h.nv
    · rw [e]; intro e2; cases e2; omega
  have hmv : m.ownBlock = none ∨ m.ownBlock ≠ v.ownBlock := by
    cases hv : v.ownBlock with
    | none => cases hm : m.ownBlock with
      | none => exact .inl rfl
      | some g => exact .inr (by simp)
    | some g => exact .inr (h.ne g hv)
  have hm1 := fresh_kept h.om hg.by_ hmv (fun k e => h.ov.new k e)
  have hv1 := h.ov.step hg
  have hset := by_set11 w' X 4 v'
  refine ⟨((h.box.by hg.by_ (fun e => h.nv e.symm)).set 4 v' (by simp)), fresh_kept hv1 hset (none_or hv'X) (fun k e => by cases e; exact hX0), fresh_kept hm1 hset (none_or h.nm) (fun k e => by cases e; exact hX0), hv'X, h.nm, ?_⟩
  intro g hgv
  rcases hg.moved with e | ⟨g', e, hs⟩
  · exact h.ne g (by rw [← e]; exact hgv)
  · rw [e] at hgv; cases hgv
    intro e2
    have := own_lt11 h.om e2
    omega
theorem BothAt.mask {w0 w w' : World} {X : Nat} {C F : Int} {H : Bool} {E : Int} {v m m' : Value} {xs ys : List Int} {q : Int} (h : BothAt w0 w X C F H E v m xs ys) (hX0 : w0.heap.size ≤ X) (hg : Grew 5 w w' m m' ((ys ++ [q]).map (Value.int .u8))) :
    BothAt w0 (w'.setCell ⟨X, 5, none⟩ m') X C F H E v m' xs (ys ++ [q]) := by
  have hXl := h.box.lt
  have hm'X : m'.ownBlock ≠ some X := by
    rcases hg.moved with e | ⟨g, e, hs⟩
    · rw [e]; exact h.nm
    · rw [e]; intro e2; cases e2; omega
  have hvm : v.ownBlock = none ∨ v.ownBlock ≠ m.ownBlock := by
    cases hv : v.ownBlock with
    | none => exact .inl rfl
    | some g => exact .inr (fun e => h.ne g hv e.symm)
  have hv1 := fresh_kept h.ov hg.by_ hvm (fun k e => h.om.new k e)
  have hm1 := h.om.step hg
  have hset := by_set11 w' X 5 m'
  refine ⟨((h.box.by hg.by_ (fun e => h.nm e.symm)).set 5 m' (by simp)), fresh_kept hv1 hset (none_or h.nv) (fun k e => by cases e; exact hX0), fresh_kept hm1 hset (none_or hm'X) (fun k e => by cases e; exact hX0), h.nv, hm'X, ?_⟩
  intro g hgv
  rcases hg.moved with e | ⟨g', e, hs⟩
  · rw [e]; exact h.ne g hgv
  · rw [e]; intro e2; cases e2
    have := own_lt11 h.ov hgv
    omega
/-- another block stays beside it -/
structure Beside11 (w : World) (X Y : Nat) (v m : Value) (L : List Value) : Prop where
  box : BoxL w Y L
  nX : Y ≠ X
  nv : v.ownBlock ≠ some Y
  nm : m.ownBlock ≠ some Y
theorem Beside11.value {w w' : World} {X Y i : Nat} {v v' m u : Value} {L xs : List Value} (h : Beside11 w X Y v m L) (hg : Grew 5 w w' v v' xs) : Beside11 (w'.setCell ⟨X, i, none⟩ u) X Y v' m L := by
  refine ⟨(h.box.by hg.by_ (fun e => h.nv e.symm)).far u h.nX.symm, h.nX, ?_, h.nm⟩
  rcases hg.moved with e | ⟨g, e, hs⟩
  · rw [e]; exact h.nv
  · rw [e]; intro e2; cases e2; have := h.box.lt; omega
theorem Beside11.mask {w w' : World} {X Y i : Nat} {v m m' u : Value} {L xs : List Value} (h : Beside11 w X Y v m L) (hg : Grew 5 w w' m m' xs) : Beside11 (w'.setCell ⟨X, i, none⟩ u) X Y v m' L := by
  refine ⟨(h.box.by hg.by_ (fun e => h.nm e.symm)).far u h.nX.symm, h.nX, h.nv, ?_⟩
  rcases hg.moved with e | ⟨g, e, hs⟩
  · rw [e]; exact h.nm
  · rw [e]; intro e2; cases e2; have := h.box.lt; omega
theorem Beside11.behind {w w' : World} {X Y : Nat} {v m : Value} {L : List Value} (h : Beside11 w X Y v m L) (hb : Below w.heap.size w w') : Beside11 w' X Y v m L := ⟨h.box.below hb, h.nX, h.nv, h.nm⟩
theorem own_slice {w : World} {e : TypeId} {v : Value} {xs : List Value} (h : w.ownsRow 0 e 1 v xs.length xs) : ∃ a c, v = .slice a xs.length c := own_shape9 h
theorem orL_take (xs ys : List Int) (N : Nat) {k : Nat} (hk : k < N) : (orL xs ys N).take (k + 1) = (orL xs ys N).take k ++ [bits BinOp.or IntKind.u8 (xs.getD k 0) (ys.getD k 0)] := by
  rw [List.take_add_one]
  congr 1
  unfold orL
  rw [List.getElem?_map, List.getElem?_range hk]
  rfl
theorem both_end_no {g h : Ent9} {w w' : World} {va : Option Addr} {vc : Nat} (hno : (g.o.H && h.o.H && !full11 g.o h.o) = false) (hI : Ints .u8 w' va (orL g.o.v h.o.v g.o.v.length)) (hb : Below w.heap.size w w') (hq : ∀ q : Addr, va = some q → w.heap.size ≤ q.block)
    (hr : (-9223372036854775808 ≤ g.o.C ∧ g.o.C ≤ 9223372036854775807) ∧ (-9223372036854775808 ≤ g.o.F ∧ g.o.F ≤ 9223372036854775807) ∧ (0 ≤ g.o.X ∧ g.o.X ≤ 18446744073709551615)) :
    JoinPost g h w (.returned (.agg #[.int .i64 g.o.C, .int .i64 g.o.F, .bool false, .int .u64 g.o.X, .slice va g.o.v.length vc, .slice none 0 0])) w' := by
  refine ⟨⟨⟨g.o.C, g.o.F, false, g.o.X, orL g.o.v h.o.v g.o.v.length, []⟩, va, vc, none, 0⟩, ?_, (both_no hno).symm, ⟨hI, Ints.nil _ _ _, orL_oct _ _ _, (by intro x hx; cases hx), Nat.le_refl _, hr.1, hr.2.1, hr.2.2⟩, hb, hq, ?_⟩
  · unfold Ent9.val
    simp only [orL_length, List.length_nil]
  · intro a e; cases e
theorem both_end_yes {g h : Ent9} {w w' : World} {va ma : Option Addr} {vc mc : Nat} (hy : (g.o.H && h.o.H && !full11 g.o h.o) = true) (hI : Ints .u8 w' va (orL g.o.v h.o.v g.o.v.length)) (hM : Ints .u8 w' ma (orL (mask11 g.o) (mask11 h.o) g.o.v.length)) (hc : g.o.v.length ≤ mc) (hb : Below w.heap.size w w') (hq : ∀ q : Addr, va = some q → w.heap.size ≤ q.block) (hp : ∀ q : Addr, ma = some q → w.heap.size ≤ q.block)
    (hr : (-9223372036854775808 ≤ g.o.C ∧ g.o.C ≤ 9223372036854775807) ∧ (-9223372036854775808 ≤ g.o.F ∧ g.o.F ≤ 9223372036854775807) ∧ (0 ≤ g.o.X ∧ g.o.X ≤ 18446744073709551615)) :
    JoinPost g h w (.returned (.agg #[.int .i64 g.o.C, .int .i64 g.o.F, .bool true, .int .u64 g.o.X, .slice va g.o.v.length vc, .slice ma g.o.v.length mc])) w' := by
  refine ⟨⟨⟨g.o.C, g.o.F, true, g.o.X, orL g.o.v h.o.v g.o.v.length, orL (mask11 g.o) (mask11 h.o) g.o.v.length⟩, va, vc, ma, mc⟩, ?_, (both_yes hy).symm, ⟨hI, hM, orL_oct _ _ _, orL_oct _ _ _, (by rw [orL_length]; exact hc), hr.1, hr.2.1, hr.2.2⟩, hb, hq, hp⟩
  unfold Ent9.val
  simp only [orL_length]
theorem own_ints11 {w0 w : World} {a : Option Addr} {n c : Nat} {xs : List Int} (h : Fresh 5 w0 w (.slice a n c) (xs.map (Value.int .u8))) : xs.length ≤ c ∧ Ints .u8 w a xs ∧ ∀ q : Addr, a = some q → w0.heap.size ≤ q.block := by
  obtain ⟨a', c', e, h1, _, h3⟩ := own_ints (k := .u8) h.own
  cases e
  exact ⟨h1, h3, fun q e => h.new q.block (by rw [e]; rfl)⟩
theorem nown11 {a : Option Addr} {n c X : Nat} (h : (Value.slice a n c).ownBlock ≠ some X) : ∀ q : Addr, a = some q → q.block ≠ X := by
  intro q e e2
  subst e
  exact h (by rw [← e2]; rfl)
theorem orL_take_all (xs ys : List Int) (N : Nat) : (orL xs ys N).take N = orL xs ys N := List.take_of_length_le (by rw [orL_length]; exact Nat.le_refl _)
theorem ones_succ (m : List Int) (k : Nat) : onesB m (k + 1) = (onesB m k && bitOn k (m.getD (m.length - 1 - k / 8) 0)) := by
  unfold onesB
  rw [List.range_succ, List.all_append]
  simp
theorem nbits_cast {o : Ox9} (hC : o.C = 32768) (h0 : 0 ≤ (fld o.F).b) : ((nbits11 o : Nat) : Int) = (fld o.F).b := by
  unfold nbits11
  rw [if_pos hC, Int.toNat_of_nonneg h0]
theorem nbits_all {o : Ox9} (hC : o.C ≠ 32768) : ((nbits11 o : Nat) : Int) = 8 * (o.v.length : Int) := by
  unfold nbits11
  rw [if_neg hC]
  omega
set_option maxHeartbeats 8000000 in
theorem refBoth_any (g h : Ent9) (w : World) (hg : EntIn w g) (hh : EntIn w h) (og : OkV g.o) (oh : OkV h.o) (hal : alike9 g.o h.o = true) (hl : g.o.v.length = h.o.v.length) (hs : g.o.v.length ≤ 1000) :
    Calls Tryz.prog 23 #[g.val, h.val] w (JoinPost g h w) := by
  have HMG := hid (fun W' (h' : EntIn W' g) => refMask_any g W' h' og hs)
  have HMH := hid (fun W' (h' : EntIn W' h) => refMask_any h W' h' oh (by omega))
  have HL := hid hl
  have HML := hid (And.intro og.ml oh.ml)
  have HNB := hid og.nb
  have HMO := hid (And.intro og.mo oh.mo)
  have HPT := hid (fun (hC : g.o.C = 32768) => (show 0 ≤ (fld g.o.F).b by
    rcases og.parts with ⟨_, hf, _⟩ | ⟨hc, _⟩
    · exact (fits_above hf og.ov).2.2.2.1
    · rw [hC] at hc; cases hc))
  obtain ⟨W, hW, hbW, hx, hy, hz⟩ := three_oxm w (.int .i64 g.o.C) (.int .i64 g.o.F) (.bool g.o.H) (.int .u64 g.o.X) (.slice g.va g.o.v.length g.vc) (.slice g.ma g.o.m.length g.mc) (.int .i64 h.o.C) (.int .i64 h.o.F) (.bool h.o.H) (.int .u64 h.o.X) (.slice h.va h.o.v.length h.vc) (.slice h.ma h.o.m.length h.mc) [.int .i64 0, .int .i64 0, .bool false, .int .u64 0, .slice none 0 0, .slice none 0 0]
  have HW := hid hW
  have HX := hid hx
  have HY := hid hy
  have HZ := hid hz
  have HB := hid hbW
  have HG := hid (hg.below hbW)
  have HH := hid (hh.below hbW)
  have HRG := hid (And.intro hg.c (And.intro hg.f hg.x))
  have HF := hid (fun (W' : World) => refOf_any g.o.F W')
  have KS : Hid (∀ w' : World, Below W.heap.size W w' → w'.cell? ⟨w.heap.size, 0, none⟩ = some (.int .i64 g.o.C) ∧ w'.cell? ⟨w.heap.size, 1, none⟩ = some (.int .i64 g.o.F) ∧ w'.cell? ⟨w.heap.size, 2, none⟩ = some (.bool g.o.H) ∧ w'.cell? ⟨w.heap.size, 3, none⟩ = some (.int .u64 g.o.X) ∧ w'.cell? ⟨w.heap.size, 4, none⟩ = some (.slice g.va g.o.v.length g.vc) ∧ w'.cell? ⟨w.heap.size, 5, none⟩ = some (.slice g.ma g.o.m.length g.mc) ∧
      w'.cell? ⟨w.heap.size + 1, 0, none⟩ = some (.int .i64 h.o.C) ∧ w'.cell? ⟨w.heap.size + 1, 1, none⟩ = some (.int .i64 h.o.F) ∧ w'.cell? ⟨w.heap.size + 1, 2, none⟩ = some (.bool h.o.H) ∧ w'.cell? ⟨w.heap.size + 1, 3, none⟩ = some (.int .u64 h.o.X) ∧ w'.cell? ⟨w.heap.size + 1, 4, none⟩ = some (.slice h.va h.o.v.length h.vc) ∧ w'.cell? ⟨w.heap.size + 1, 5, none⟩ = some (.slice h.ma h.o.m.length h.mc)) := by
    show ∀ _, _
    intro w' hb
    obtain ⟨a0, a1, a2, a3, a4, a5⟩ := (HX.out.below hb).six
    exact ⟨a0, a1, a2, a3, a4, a5, (HY.out.below hb).six⟩
  clear hW hx hy hz hbW hg hh og oh hal hl
  unfold Ent9.val at HMG HMH ⊢
  go_enter Tryz.func23, Tryz.ntmps23
  go_upto_region 1 with fail
  rw [HW.out]
  go_cut [5, 6] (fun t5 t6 wx => ∃ pa pc pb pd, t5 = .slice pa g.o.v.length pc ∧ t6 = .slice pb h.o.v.length pd ∧ Ints .u8 wx pa (mask11 g.o) ∧ Ints .u8 wx pb (mask11 h.o) ∧ Below W.heap.size W wx)
  case first =>
    go_region_held3 (fun w' => w'.cell? ⟨w.heap.size, 0, none⟩ = some (.int .i64 g.o.C) ∧ w'.cell? ⟨w.heap.size, 1, none⟩ = some (.int .i64 g.o.F) ∧ w'.cell? ⟨w.heap.size, 2, none⟩ = some (.bool g.o.H) ∧ w'.cell? ⟨w.heap.size, 3, none⟩ = some (.int .u64 g.o.X) ∧ w'.cell? ⟨w.heap.size, 4, none⟩ = some (.slice g.va g.o.v.length g.vc) ∧ w'.cell? ⟨w.heap.size, 5, none⟩ = some (.slice g.ma g.o.m.length g.mc) ∧
      w'.cell? ⟨w.heap.size + 1, 0, none⟩ = some (.int .i64 h.o.C) ∧ w'.cell? ⟨w.heap.size + 1, 1, none⟩ = some (.int .i64 h.o.F) ∧ w'.cell? ⟨w.heap.size + 1, 2, none⟩ = some (.bool h.o.H) ∧ w'.cell? ⟨w.heap.size + 1, 3, none⟩ = some (.int .u64 h.o.X) ∧ w'.cell? ⟨w.heap.size + 1, 4, none⟩ = some (.slice h.va h.o.v.length h.vc) ∧ w'.cell? ⟨w.heap.size + 1, 5, none⟩ = some (.slice h.ma h.o.m.length h.mc))
      (first | exact KS.out _ hb6 | exact KS.out _ hb5 | exact KS.out _ (below_drew8 W) | fail)
      (first
        | (go_at_call 45; (with_reducible refine (HMG.out _ ?_).mono ?_); exact HG.out.below (below_drew8 W); rintro e w5 ⟨p5, c5, rfl, i5, bb5⟩; have hb5 := below_on (below_drew8 W) bb5)
        | (go_at_call 45; (with_reducible refine (HMH.out _ ?_).mono ?_); exact HH.out.below hb5; rintro e w6 ⟨p6, c6, rfl, i6, bb6⟩; have hb6 := below_on hb5 bb6)
        | fail)
    all_goals
      go_wp2_with fail
      go_meet
      exact ⟨p5, c5, p6, c6, rfl, rfl, i5.below bb6, i6, hb6⟩
  case rest =>
    obtain ⟨pa, pc, pb, pd, rfl, rfl, hm, hn, hbx⟩ := hcut
    obtain ⟨w1, hw1⟩ : ∃ x, x = wc := ⟨_, rfl⟩
    subst hw1
    go_upto_region 2 with fail
    obtain ⟨a0, a1, a2, a3, a4, a5, b0, b1, b2, b3, b4, b5⟩ := KS.out w1 hbx
    go_cut [7] (fun t7 wx => ∃ X, t7 = .pointer (some ⟨X, 0, none⟩) ∧ BoxL wx X [.int .i64 g.o.C, .int .i64 g.o.F, .bool (g.o.H && h.o.H), .int .u64 g.o.X, .slice none 0 0, .slice none 0 0] ∧ Below w1.heap.size w1 wx ∧ w1.heap.size ≤ X)
    case first =>
      rcases Bool.eq_false_or_eq_true g.o.H with h1 | h1
      · rw [h1] at a2
        have H1 := hid h1
        clear h1
        go_wp2_with fail
        go_meet
        exact ⟨w1.heap.size, rfl, by rw [H1.out, Bool.true_and]; exact BoxL.new w1 [.int .i64 g.o.C, .int .i64 g.o.F, .bool h.o.H, .int .u64 g.o.X, .slice none 0 0, .slice none 0 0] 33, below_alloc _ _, Nat.le_refl _⟩
      · rw [h1] at a2
        have H1 := hid h1
        clear h1
        go_wp2_with fail
        go_meet
        exact ⟨w1.heap.size, rfl, by rw [H1.out, Bool.false_and]; exact BoxL.new w1 [.int .i64 g.o.C, .int .i64 g.o.F, .bool false, .int .u64 g.o.X, .slice none 0 0, .slice none 0 0] 33, below_alloc _ _, Nat.le_refl _⟩
    case rest =>
      obtain ⟨X, rfl, hX, hb2, hwX⟩ := hcut
      obtain ⟨w2, hw2⟩ : ∃ x, x = wc := ⟨_, rfl⟩
      subst hw2
      have hm2 := hm.below hb2
      have hn2 := hn.below hb2
      have HB2 := hid (below_on hbx hb2)
      have hbx12 := hb2
      have hbx0 := hbx
      have HM1 := hid hm
      have HN1 := hid hn
      have hsX : W.heap.size ≤ X := Nat.le_trans hbx.size hwX
      clear a0 a1 a2 a3 a4 a5 b0 b1 b2 b3 b4 b5
      obtain ⟨a0, a1, a2, a3, a4, a5, b0, b1, b2, b3, b4, b5⟩ := KS.out w2 HB2.out
      have HF2 := HF.out w2
      obtain ⟨⟨nm, fb, fz', fm, fd, fv⟩, hf⟩ : ∃ f, fld g.o.F = f := ⟨_, rfl⟩
      rw [hf] at HF2
      unfold refFldV at HF2
      simp only at HF2
      have HFF := hid HF2
      have HZF := hid hf
      have HX2 := hid hX
      have HM2 := hid hm2
      have HN2 := hid hn2
      clear hm hn hbx hb2 hX hm2 hn2 HF2 hf HF
      go_upto_region 3 with fail
      go_wp2_with fail
      refine HFF.out.mono ?_
      rintro e w3 ⟨v1, rfl, hU, hb3⟩
      obtain ⟨a1', c1', rfl, _⟩ := hU
      obtain ⟨W4, hW4, hbW4, hbox4⟩ := refFld_box9 w3 nm fb fz' fm fd (.slice a1' fv.length c1')
      have HW4 := hid hW4
      have hb24 := below_on hb3 hbW4
      have hb4 := below_on HB2.out hb24
      have hX4 := (HX2.out.below hb3).below hbW4
      have HBA : Hid (BothAt w1 W4 X g.o.C g.o.F (g.o.H && h.o.H) g.o.X (.slice none 0 0) (.slice none 0 0) ((orL g.o.v h.o.v g.o.v.length).take 0) ((orL (mask11 g.o) (mask11 h.o) g.o.v.length).take 0)) :=
        ⟨hX4, ⟨World.ownsRow_nil _ 0 _ 1, below_on hbx12 hb24, (fun g e => by cases e)⟩, ⟨World.ownsRow_nil _ 0 _ 1, below_on hbx12 hb24, (fun g e => by cases e)⟩, (by simp [Value.ownBlock]), (by simp [Value.ownBlock]), (fun g e => by cases e)⟩
      have HB4 := hid hb4
      have HBOX := hid hbox4
      have HM4 := hid (HM2.out.below hb24)
      have HN4 := hid (HN2.out.below hb24)
      have hYX : w3.heap.size ≠ X := by have h1 := HX2.out.lt; have h2 := hb3.size; omega
      have HBX := hid hbx0
      clear hbx0 hbx12 hW4 hbW4 hbox4 hb24 hb4 hX4 hb3 HX2 HM2 HN2
      go_upto_region 4 with fail
      rw [HW4.out]
      clear a0 a1 a2 a3 a4 a5 b0 b1 b2 b3 b4 b5
      go_wp2_with fail
      have HBS : Hid (Beside11 W4 X w3.heap.size (.slice none 0 0) (.slice none 0 0) [.string nm, .int .i64 fb, .int .i64 fz', .bool fm, .int .i64 fd, .slice a1' fv.length c1']) := ⟨HBOX.out, hYX, (by simp [Value.ownBlock]), (by simp [Value.ownBlock])⟩
      clear HBOX
      go_loopg [11] (g.o.v.length) (fun kx s11 wr => ∃ (i : Nat) (va ma : Option Addr) (vc mc : Nat), s11 = .int .i64 i ∧ i ≤ g.o.v.length ∧ g.o.v.length - i ≤ kx ∧ Hid (BothAt w1 wr X g.o.C g.o.F (g.o.H && h.o.H) g.o.X (.slice va i vc) (.slice ma i mc) ((orL g.o.v h.o.v g.o.v.length).take i) ((orL (mask11 g.o) (mask11 h.o) g.o.v.length).take i)) ∧ Hid (Beside11 wr X w3.heap.size (.slice va i vc) (.slice ma i mc) [.string nm, .int .i64 fb, .int .i64 fz', .bool fm, .int .i64 fd, .slice a1' fv.length c1']))
      case atStart => exact ⟨0, none, none, 0, 0, rfl, by omega, by omega, HBA, HBS⟩
      case round =>
        obtain ⟨i, va, ma, vc, mc, rfl, hi, hkx, hA, hS⟩ := hrel
        have hb1r := hA.out.ov.bel
        obtain ⟨a0, a1, a2, a3, a4, a5, b0, b1, b2, b3, b4, b5⟩ := KS.out wr (below_on HBX.out hb1r)
        by_cases hlt : i < g.o.v.length
        · have hltz : (i : Int) < (g.o.v.length : Int) := by omega
          have hltz2 : (i : Int) < (h.o.v.length : Int) := by have := HL.out; omega
          obtain ⟨x1, o1, q1, e1, y1, g1⟩ := HG.out.iv.at hlt
          obtain ⟨x2, o2, q2, e2, y2, g2⟩ := HH.out.iv.at (show i < h.o.v.length by rw [← HL.out]; exact hlt)
          have KY : Hid (∀ w' : World, Below W.heap.size W w' → w'.cell? ⟨w.heap.size, 4, none⟩ = some (.slice (some ⟨x1, o1, none⟩) g.o.v.length g.vc) ∧ w'.cell? ⟨w.heap.size + 1, 4, none⟩ = some (.slice (some ⟨x2, o2, none⟩) h.o.v.length h.vc) ∧ w'.cell? ⟨x1, o1 + i, none⟩ = some (.int .u8 q1) ∧ w'.cell? ⟨x2, o2 + i, none⟩ = some (.int .u8 q2)) := by
            show ∀ _, _
            intro w' hb'
            obtain ⟨_, _, _, _, s4, _, _, _, _, _, s10, _⟩ := KS.out w' hb'
            rw [e1] at s4
            rw [e2] at s10
            exact ⟨s4, s10, cell_keep y1 hb', cell_keep y2 hb'⟩
          have hAD := hA.out.behind (below_drew8 wr)
          obtain ⟨z0, z1, z2, z3, z4, z5⟩ := hAD.box.six
          have zf := hAD.box.free
          have HA8 := hid ((hA.out.behind (below_alloc wr (.cells #[.int .u8 (bits BinOp.or IntKind.u8 q1 q2)] 5))).behind (below_drew8 _))
          have HS8 := hid ((hS.out.behind (below_alloc wr (.cells #[.int .u8 (bits BinOp.or IntKind.u8 q1 q2)] 5))).behind (below_drew8 _))
          have z4' : (wr.alloc (.cells #[.int .u8 (bits BinOp.or IntKind.u8 q1 q2)] 5)).cell? ⟨X, 4, none⟩ = some (.slice va i vc) := (hA.out.behind (below_alloc wr (.cells #[.int .u8 (bits BinOp.or IntKind.u8 q1 q2)] 5))).box.six.2.2.2.2.1
          have HOT : Hid ((orL g.o.v h.o.v g.o.v.length).take (i + 1) = (orL g.o.v h.o.v g.o.v.length).take i ++ [bits BinOp.or IntKind.u8 q1 q2]) := by
            show _ = _
            rw [orL_take _ _ _ hlt, getD_of g1.out, getD_of g2.out]
          have hX0 : w1.heap.size ≤ X := hwX
          have HK8 := hid (And.intro z4 (And.intro zf z4'))
          clear g1 g2 y1 y2 hAD e1 e2 z0 z1 z2 z3 z4 z5 zf z4'
          go_upto_region 8 with fail
          clear a0 a1 a2 a3 a4 a5 b0 b1 b2 b3 b4 b5
          obtain ⟨z4, zf, z4'⟩ := HK8.out
          go_cut [58] (fun t58 wx => ∃ va5 vc5, Hid (BothAt w1 wx X g.o.C g.o.F (g.o.H && h.o.H) g.o.X (.slice va5 (i + 1) vc5) (.slice ma i mc) ((orL g.o.v h.o.v g.o.v.length).take (i + 1)) ((orL (mask11 g.o) (mask11 h.o) g.o.v.length).take i)) ∧ Hid (Beside11 wx X w3.heap.size (.slice va5 (i + 1) vc5) (.slice ma i mc) [.string nm, .int .i64 fb, .int .i64 fz', .bool fm, .int .i64 fd, .slice a1' fv.length c1']))
          case first =>
            obtain ⟨k4, j4, y1', y2'⟩ := KY.out _ (below_on HBX.out (below_dr9 hb1r))
            go_region_law (first
              | (refine step_app (v := .slice va i vc) rfl _ _ rfl elemU8 rfl HA8.out.ov.own rfl rfl (l := [bits BinOp.or IntKind.u8 q1 q2]) ((ints_one .u8 wr (bits BinOp.or IntKind.u8 q1 q2) 5).below (below_drew8 _)) ?_ ?_ ?_; (simp [orL_length]; omega); (simp [orL_length]; omega); intro v5 w5 hg5; obtain ⟨va5, vc5, rfl⟩ : ∃ a c, v5 = .slice a (i + 1) c := by { obtain ⟨a, c, e⟩ := own_slice hg5.own; rw [e]; exact ⟨a, c, by simp [orL_length]; omega⟩ }
                 rw [← List.map_append] at hg5
                 have HA9 := hid (HA8.out.value hX0 hg5)
                 have HS9 := hid (HS8.out.value (i := 4) (u := .slice va5 (i + 1) vc5) hg5)
                 obtain ⟨u0, u1, u2, u3, u4, u5⟩ := (HA8.out.box.by hg5.by_ (fun e => HA8.out.nv e.symm)).six
                 have uf := (HA8.out.box.by hg5.by_ (fun e => HA8.out.nv e.symm)).free)
              | fail)
            all_goals
              go_wp2_with fail
              go_meet
              exact ⟨va5, vc5, by rw [HOT.out]; exact HA9, HS9⟩
          case rest =>
            obtain ⟨va5, vc5, hA5, hS5⟩ := hcut
            obtain ⟨w6, hw6⟩ : ∃ x, x = wc := ⟨_, rfl⟩
            subst hw6
            have hb5 := hA5.out.ov.bel
            clear HA8 HS8 z4 zf z4' HOT KY HK8
            obtain ⟨x1, o1, m1, e1, y1, g1⟩ := HM1.out.at (show i < (mask11 g.o).length by rw [HML.out.1]; exact hlt)
            obtain ⟨x2, o2, m2, e2, y2, g2⟩ := HN1.out.at (show i < (mask11 h.o).length by rw [HML.out.2, ← HL.out]; exact hlt)
            have KM : Hid (∀ w' : World, Below w1.heap.size w1 w' → w'.cell? ⟨x1, o1 + i, none⟩ = some (.int .u8 m1) ∧ w'.cell? ⟨x2, o2 + i, none⟩ = some (.int .u8 m2)) := by
              show ∀ _, _
              intro w' hb'
              exact ⟨cell_keep y1 hb', cell_keep y2 hb'⟩
            have hAD := hA5.out.behind (below_drew8 w6)
            obtain ⟨z0, z1, z2, z3, z4, z5⟩ := hAD.box.six
            have zf := hAD.box.free
            have HA8 := hid ((hA5.out.behind (below_alloc w6 (.cells #[.int .u8 (bits BinOp.or IntKind.u8 m1 m2)] 5))).behind (below_drew8 _))
            have HS8 := hid ((hS5.out.behind (below_alloc w6 (.cells #[.int .u8 (bits BinOp.or IntKind.u8 m1 m2)] 5))).behind (below_drew8 _))
            have z5' : (w6.alloc (.cells #[.int .u8 (bits BinOp.or IntKind.u8 m1 m2)] 5)).cell? ⟨X, 5, none⟩ = some (.slice ma i mc) := (hA5.out.behind (below_alloc w6 (.cells #[.int .u8 (bits BinOp.or IntKind.u8 m1 m2)] 5))).box.six.2.2.2.2.2
            have HOT : Hid ((orL (mask11 g.o) (mask11 h.o) g.o.v.length).take (i + 1) = (orL (mask11 g.o) (mask11 h.o) g.o.v.length).take i ++ [bits BinOp.or IntKind.u8 m1 m2]) := by
              show _ = _
              rw [orL_take _ _ _ hlt, getD_of g1.out, getD_of g2.out]
            subst e1
            subst e2
            clear g1 g2 y1 y2 hAD z0 z1 z2 z3 z4
            go_upto_region 9 with fail
            obtain ⟨y1', y2'⟩ := KM.out _ (below_dr9 hb5)
            go_region_law (first
              | (refine step_app (v := .slice ma i mc) rfl _ _ rfl elemU8 rfl HA8.out.om.own rfl rfl (l := [bits BinOp.or IntKind.u8 m1 m2]) ((ints_one .u8 w6 (bits BinOp.or IntKind.u8 m1 m2) 5).below (below_drew8 _)) ?_ ?_ ?_; (simp [orL_length]; omega); (simp [orL_length]; omega); intro v5 w5 hg5; obtain ⟨va6, vc6, rfl⟩ : ∃ a c, v5 = .slice a (i + 1) c := by { obtain ⟨a, c, e⟩ := own_slice hg5.own; rw [e]; exact ⟨a, c, by simp [orL_length]; omega⟩ }
                 rw [← List.map_append] at hg5
                 have HA9 := hid (HA8.out.mask hX0 hg5)
                 have HS9 := hid (HS8.out.mask (i := 5) (u := .slice va6 (i + 1) vc6) hg5)
                 obtain ⟨u0, u1, u2, u3, u4, u5⟩ := (HA8.out.box.by hg5.by_ (fun e => HA8.out.nm e.symm)).six
                 have uf := (HA8.out.box.by hg5.by_ (fun e => HA8.out.nm e.symm)).free)
              | fail)
            all_goals
              go_wp2_with fail
              go_roundg (g.o.v.length - (i + 1))
              case measure => omega
              case rel => exact ⟨i + 1, va5, va6, vc5, vc6, by first | rfl | go_num, by omega, Nat.le_refl _, by rw [HOT.out]; exact HA9, HS9⟩
        · have hltz : ¬ (i : Int) < (g.o.v.length : Int) := by omega
          obtain rfl : i = g.o.v.length := by omega
          obtain ⟨n, hn⟩ : ∃ n, n = nbits11 g.o := ⟨_, rfl⟩
          have HNB2 := hid (show n ≤ 8 * g.o.v.length by rw [hn]; exact HNB.out)
          obtain ⟨z0, z1, z2, z3, z4, z5⟩ := hA.out.box.six
          have zf := hA.out.box.free
          obtain ⟨k0, k1, k2, k3, k4, k5⟩ := hS.out.box.six
          have HNN := hid hn
          clear hn hlt hltz
          go_upto_region 11 with fail
          go_cut [80] (fun t80 wx => t80 = .bool (g.o.C == 32768) ∧ wr = wx)
          case first =>
            go_wp2_with fail
            go_meet
            exact ⟨rfl, rfl⟩
          case rest =>
           obtain ⟨rfl, rfl⟩ := hcut
           apply_assumption
           go_cut [12] (fun t12 wx => t12 = .int .i64 (n : Int) ∧ wr = wx)
           case first =>
            by_cases hC : g.o.C = 32768
            · have hfb : fb = (n : Int) := by
                have h1 := nbits_cast hC (HPT.out hC)
                rw [HZF.out, ← HNN.out] at h1
                exact h1.symm
              have hC2 : (g.o.C == 32768) = true := by simpa using hC
              clear hC
              go_wp2_with fail
              go_meet
              exact ⟨by first | rfl | rw [hfb], rfl⟩
            · have h1 := nbits_all hC
              rw [← HNN.out] at h1
              have hC2 : (g.o.C == 32768) = false := by simpa using hC
              clear hC
              go_wp2_with fail
              go_meet
              exact ⟨by first | rfl | rw [h1], rfl⟩
           case rest =>
            obtain ⟨rfl, rfl⟩ := hcut
            obtain ⟨hvc, hIv, hqv⟩ := own_ints11 hA.out.ov
            obtain ⟨hmc, hIm, hqm⟩ := own_ints11 hA.out.om
            rw [orL_take_all] at hIv hIm hvc hmc
            rw [orL_length] at hvc hmc
            obtain ⟨M, hM⟩ : ∃ M, M = orL (mask11 g.o) (mask11 h.o) g.o.v.length := ⟨_, rfl⟩
            have hML : M.length = g.o.v.length := by rw [hM, orL_length]
            have om : Octets M := by rw [hM]; exact orL_oct _ _ _
            have HIM := hid (show Ints .u8 wr ma M by rw [hM]; exact hIm)
            have HIV := hid hIv
            have HCV := hid (And.intro hvc hmc)
            have HQ := hid (And.intro hqv hqm)
            have HFU : Hid (full11 g.o h.o = onesB M n) := by
              show _ = _
              unfold full11
              rw [← hM, ← HNN.out]
            have HMM := hid hM
            have hn8 : n ≤ 8000 := by have := HNB2.out; omega
            clear hM hIv hIm hvc hmc hqv hqm k0 k1 k2 k3 k4 k5 a0 a1 a2 a3 a4 a5 b0 b1 b2 b3 b4 b5
            go_upto_region 13 with fail
            go_wp2_with fail
            go_loop [10, 13] (fun s10 s13 => ∃ k : Nat, k ≤ n ∧ s13 = .int .i64 k ∧ s10 = .bool (onesB M k)) (fun _ s13 => n - (intOf s13).toNat)
            case atStart => exact ⟨0, Nat.zero_le _, rfl, rfl⟩
            case round =>
              obtain ⟨k, hk, rfl, rfl⟩ := hrel
              by_cases hlt : k < n
              · cases hon : onesB M k with
                | false =>
                  have HNX : Hid (onesB M (k + 1) = false) := by
                    show _ = _
                    rw [ones_succ, hon]
                    rfl
                  clear hon
                  go_wp2_with fail
                  go_round
                  case rel => exact ⟨k + 1, by omega, by go_num, by rw [HNX.out]⟩
                  case measure => simp [intOf]; omega
                | true =>
                  have hx : g.o.v.length - 1 - k / 8 < M.length := by have := HNB2.out; omega
                  obtain ⟨b1, o1, p, e1, c1, g1⟩ := HIM.out.at hx
                  subst e1
                  have hd : (g.o.v.length : Int) - 1 - (k : Int) / 8 = ((g.o.v.length - 1 - k / 8 : Nat) : Int) := by have := HNB2.out; omega
                  have hp := getD_of g1.out
                  have g2 := om.get g1.out
                  have HNX : Hid (onesB M (k + 1) = bitOn k p) := by
                    show _ = _
                    rw [ones_succ, hon, hML, hp]
                    rfl
                  obtain ⟨j, hj⟩ : ∃ j, g.o.v.length - 1 - k / 8 = j := ⟨_, rfl⟩
                  rw [hj] at hx c1 hd
                  have hj2 : (j : Int) < (g.o.v.length : Int) := by omega
                  clear hj hp g1 hon
                  cases hq : bitOn k p
                  · have hq2 : (bits BinOp.and IntKind.u8 (p / 2 ^ (k % 8)) 1 == 1) = false := hq
                    have hq3 : (bits BinOp.and IntKind.u8 (p / 2 ^ (k % 8)) 1 == 0) = true := bit_off g2.1 g2.2 hq
                    have HQ2 := hid hq
                    clear hq
                    go_wp2_with fail
                    go_round
                    case rel => exact ⟨k + 1, by omega, by go_num, by rw [HNX.out, HQ2.out]⟩
                    case measure => simp [intOf]; omega
                  · have hq2 : (bits BinOp.and IntKind.u8 (p / 2 ^ (k % 8)) 1 == 1) = true := hq
                    have hq3 : (bits BinOp.and IntKind.u8 (p / 2 ^ (k % 8)) 1 == 0) = false := bit_on g2.1 g2.2 hq
                    have HQ2 := hid hq
                    clear hq
                    go_wp2_with fail
                    go_round
                    case rel => exact ⟨k + 1, by omega, by go_num, by rw [HNX.out, HQ2.out]⟩
                    case measure => simp [intOf]; omega
              · obtain rfl : k = n := by omega
                clear hlt hk
                have hbw : Below W.heap.size W wr := below_on HBX.out hA.out.ov.bel
                have HBL := hid (below_on HB.out hbw)
                have hs2 : w.heap.size + 2 < W.heap.size := HZ.out.lt
                have hs1 : W.heap.size ≤ w1.heap.size := HBX.out.size
                have hZ := HZ.out.below hbw
                have hX := hA.out.box
                obtain ⟨r0, r1, r2, r3, r4, r5⟩ := hZ.six
                have rf := hZ.free
                have hX' : BoxL wr X [.int .i64 g.o.C, .int .i64 g.o.F, .bool (g.o.H && h.o.H), .int .u64 g.o.X, .slice va g.o.v.length vc, .slice ma g.o.v.length mc] := hX
                have HXX := hid hX'
                have HZZ := hid hZ
                have n1 : ¬ w.heap.size + 2 = X := by omega
                have n2 : ¬ X = w.heap.size + 2 := by omega
                have HNV := hid (And.intro (nown11 hA.out.nv) (nown11 hA.out.nm))
                have hwb : w.heap.size ≤ W.heap.size := by omega
                clear hX hX' hZ hbw
                cases hhh : (g.o.H && h.o.H) with
                | false =>
                  rw [hhh] at z2
                  have hno : (g.o.H && h.o.H && !full11 g.o h.o) = false := by rw [hhh]; rfl
                  have HNO := hid hno
                  clear hno
                  have hk2 : BoxL ((wr.setCell ⟨X, 2, none⟩ (.bool false)).setCell ⟨X, 5, none⟩ (.slice none 0 0)) X [.int .i64 g.o.C, .int .i64 g.o.F, .bool false, .int .u64 g.o.X, .slice va g.o.v.length vc, .slice none 0 0] := (HXX.out.set 2 (.bool false) (by simp)).set 5 (.slice none 0 0) (by simp)
                  have HK2 := hid hk2
                  clear hk2 hhh
                  go_upto_region 20 with fail
                  clear z0 z1 z2 z3 z4 z5 zf r0 r1 r2 r3 r4 r5 rf
                  obtain ⟨z0, z1, z2, z3, z4, z5⟩ := HK2.out.six
                  have zf := HK2.out.free
                  have hZ6 := (HZZ.out.far (c := X) (i := 2) (.bool false) n2).far (c := X) (i := 5) (.slice none 0 0) n2
                  obtain ⟨r0, r1, r2, r3, r4, r5⟩ := hZ6.six
                  have rf := hZ6.free
                  have HZ6 := hid hZ6
                  clear hZ6
                  go_wp2_with fail
                  have hk := HZ6.out.set6 (.int .i64 g.o.C) (.int .i64 g.o.F) (.bool false) (.int .u64 g.o.X) (.slice va g.o.v.length vc) (.slice none 0 0)
                  obtain ⟨k0, k1, k2, k3, k4, k5⟩ := hk.six
                  have hnX := HNV.out.1
                  have hne : ∀ q : Addr, va = some q → q.block ≠ w.heap.size + 2 := by
                    intro q e
                    have := HQ.out.1 q e
                    omega
                  refine bodyPost_ret (v := .agg #[.int .i64 g.o.C, .int .i64 g.o.F, .bool false, .int .u64 g.o.X, .slice va g.o.v.length vc, .slice none 0 0]) (by simp [results, Tryz.results23, go_sem, k0, k1, k2, k3, k4, k5]) rfl (both_end_no HNO.out ?_ ?_ ?_ HRG.out)
                  · exact ((((((((HIV.out.apart _ hnX).apart _ hnX).apart _ hne).apart _ hne).apart _ hne).apart _ hne).apart _ hne).apart _ hne)
                  · repeat (with_reducible refine Below.setCell ?_ (by first | (show w.heap.size ≤ w.heap.size + 1 + 1; omega) | (show w.heap.size ≤ X; omega)) _)
                    exact HBL.out
                  · intro q e
                    have := HQ.out.1 q e
                    omega
                | true =>
                  rw [hhh] at z2
                  cases hon : onesB M k with
                  | true =>
                    have hno : (g.o.H && h.o.H && !full11 g.o h.o) = false := by rw [hhh, HFU.out, hon]; rfl
                    have HNO := hid hno
                    clear hno hon
                    have hk2 : BoxL ((wr.setCell ⟨X, 2, none⟩ (.bool false)).setCell ⟨X, 5, none⟩ (.slice none 0 0)) X [.int .i64 g.o.C, .int .i64 g.o.F, .bool false, .int .u64 g.o.X, .slice va g.o.v.length vc, .slice none 0 0] := (HXX.out.set 2 (.bool false) (by simp)).set 5 (.slice none 0 0) (by simp)
                    have HK2 := hid hk2
                    clear hk2 hhh
                    go_upto_region 20 with fail
                    clear z0 z1 z2 z3 z4 z5 zf r0 r1 r2 r3 r4 r5 rf
                    obtain ⟨z0, z1, z2, z3, z4, z5⟩ := HK2.out.six
                    have zf := HK2.out.free
                    have hZ6 := (HZZ.out.far (c := X) (i := 2) (.bool false) n2).far (c := X) (i := 5) (.slice none 0 0) n2
                    obtain ⟨r0, r1, r2, r3, r4, r5⟩ := hZ6.six
                    have rf := hZ6.free
                    have HZ6 := hid hZ6
                    clear hZ6
                    go_wp2_with fail
                    have hk := HZ6.out.set6 (.int .i64 g.o.C) (.int .i64 g.o.F) (.bool false) (.int .u64 g.o.X) (.slice va g.o.v.length vc) (.slice none 0 0)
                    obtain ⟨k0, k1, k2, k3, k4, k5⟩ := hk.six
                    have hnX := HNV.out.1
                    have hne : ∀ q : Addr, va = some q → q.block ≠ w.heap.size + 2 := by
                      intro q e
                      have := HQ.out.1 q e
                      omega
                    refine bodyPost_ret (v := .agg #[.int .i64 g.o.C, .int .i64 g.o.F, .bool false, .int .u64 g.o.X, .slice va g.o.v.length vc, .slice none 0 0]) (by simp [results, Tryz.results23, go_sem, k0, k1, k2, k3, k4, k5]) rfl (both_end_no HNO.out ?_ ?_ ?_ HRG.out)
                    · exact ((((((((HIV.out.apart _ hnX).apart _ hnX).apart _ hne).apart _ hne).apart _ hne).apart _ hne).apart _ hne).apart _ hne)
                    · repeat (with_reducible refine Below.setCell ?_ (by first | (show w.heap.size ≤ w.heap.size + 1 + 1; omega) | (show w.heap.size ≤ X; omega)) _)
                      exact HBL.out
                    · intro q e
                      have := HQ.out.1 q e
                      omega
                  | false =>
                    have hno : (g.o.H && h.o.H && !full11 g.o h.o) = true := by rw [hhh, HFU.out, hon]; rfl
                    have HYES := hid hno
                    clear hno hhh hon
                    go_upto_region 20 with fail
                    go_wp2_with fail
                    have hk := HZZ.out.set6 (.int .i64 g.o.C) (.int .i64 g.o.F) (.bool true) (.int .u64 g.o.X) (.slice va g.o.v.length vc) (.slice ma g.o.v.length mc)
                    obtain ⟨k0, k1, k2, k3, k4, k5⟩ := hk.six
                    have hne : ∀ q : Addr, va = some q → q.block ≠ w.heap.size + 2 := by
                      intro q e
                      have := HQ.out.1 q e
                      omega
                    have hnp : ∀ q : Addr, ma = some q → q.block ≠ w.heap.size + 2 := by
                      intro q e
                      have := HQ.out.2 q e
                      omega
                    have HIM2 := HIM.out
                    rw [HMM.out] at HIM2
                    refine bodyPost_ret (v := .agg #[.int .i64 g.o.C, .int .i64 g.o.F, .bool true, .int .u64 g.o.X, .slice va g.o.v.length vc, .slice ma g.o.v.length mc]) (by simp [results, Tryz.results23, go_sem, k0, k1, k2, k3, k4, k5]) rfl (both_end_yes HYES.out ?_ ?_ HCV.out.2 ?_ ?_ ?_ HRG.out)
                    · exact ((((((HIV.out.apart _ hne).apart _ hne).apart _ hne).apart _ hne).apart _ hne).apart _ hne)
                    · exact ((((((HIM2.apart _ hnp).apart _ hnp).apart _ hnp).apart _ hnp).apart _ hnp).apart _ hnp)
                    · repeat (with_reducible refine Below.setCell ?_ (by first | (show w.heap.size ≤ w.heap.size + 1 + 1; omega) | (show w.heap.size ≤ X; omega)) _)
                      exact HBL.out
                    · intro q e
                      have := HQ.out.1 q e
                      omega
                    · intro q e
                      have := HQ.out.2 q e
                      omega
end Go.Proofs.YtpmkfkanolhocaaGreat
