/- Put together out of several texts. -/
import Derived.Test.YtdjlbejhphbcoaaGreatR10
import Derived.Test.YtdjlbejhphbcoaaGreatR4
import Derived.Deep.RegionHeld3
namespace Go.Proofs.YtdjlbejhphbcoaaGreat
open Go.RowKit
set_option maxRecDepth 100000
attribute [local go_sem] Oper.semAt_some

/-- what Join answers -/
def JoinPost (w : World) (r : Except Int (List (List Int))) (e : Ending) (w' : World) : Prop :=
  match r with
  | .error q => e = .returned (.tuple #[.slice none 0 0, .int .i64 q]) ∧ Below w.heap.size w w'
  | .ok bs => ∃ (a : Option Addr) (c : Nat), e = .returned (.tuple #[.slice a bs.flatten.length c, .int .i64 0]) ∧ bs.flatten.length ≤ c ∧ c ≤ 9223372036854775807 ∧ Ints .u8 w' a bs.flatten ∧ (0 < c → ∃ b off, a = some ⟨b, off, none⟩) ∧ (∀ q : Addr, a = some q → w.heap.size ≤ q.block ∧ q.block < w'.heap.size) ∧ Below w.heap.size w w'

/-- the bytes of pieces -/
def allOf (pre : List Chunk) : List Int := (pre.map Chunk.b).flatten
/-- between two rounds of a loop that joins pieces in the cell X; R4, R5: the results' cells -/
structure JoinAt (w0 : World) (B1 X R4 R5 : Nat) (pre : List Chunk) (W : World) : Prop where
  v : ∃ v, W.cell? ⟨X, 0, none⟩ = some v ∧ W.ownsRow 0 5 1 v ((allOf pre).map (Value.int .u8)).length ((allOf pre).map (Value.int .u8)) ∧ (∀ g, v.ownBlock = some g → B1 ≤ g)
  len : (allOf pre).length ≤ pre.length * 65600
  fx : W.frozen? ⟨X, 0, none⟩ = false
  c4 : W.cell? ⟨R4, 0, none⟩ = some (.slice none 0 0)
  f4 : W.frozen? ⟨R4, 0, none⟩ = false
  c5 : W.cell? ⟨R5, 0, none⟩ = some (.int .i64 0)
  f5 : W.frozen? ⟨R5, 0, none⟩ = false
  bel : Below w0.heap.size w0 W

end Go.Proofs.YtdjlbejhphbcoaaGreat
namespace Go.Proofs.YtdjlbejhphbcoaaGreat
open Go.RowKit
set_option maxRecDepth 100000
attribute [local go_sem] Oper.semAt_some

end Go.Proofs.YtdjlbejhphbcoaaGreat
namespace Go.Proofs.YtdjlbejhphbcoaaGreat
open Go.RowKit
set_option maxRecDepth 100000

/-- not too many things -/
def fewL (l : List Thing) : Bool := l.all (fun h => decide (h.x.length ≤ 70000)) && decide (l.length ≤ 40)

/-- are two lists of things the same? -/
def sameT4 (l m : List Thing) : Bool := decide (l.map Thing.val = m.map Thing.val)

end Go.Proofs.YtdjlbejhphbcoaaGreat
namespace Go.Proofs.YtdjlbejhphbcoaaGreat
open Go.RowKit
set_option maxRecDepth 100000

end Go.Proofs.YtdjlbejhphbcoaaGreat
namespace Go.Proofs.YtdjlbejhphbcoaaGreat
open Go.RowKit
set_option maxRecDepth 100000

theorem value_q (l : List Int) (a : Option Addr) (n cap : Nat) (w : World) (en : n = l.length) (hm : l.length ≤ 8) (ho : Octets l) (hc : Ints .u8 w a l) :
    Calls Tryz.prog 103 #[.slice a n cap] w fun e w' => e = .returned (.int .u64 (numL l)) ∧ w = w' := by
  subst en; exact value_any l a cap w hm ho hc

theorem one_end {w w1 w4 : World} {a : Option Addr} {c : Nat} {x : List Int} {tt : Int} {n : Nat} (hB : Below w.heap.size w w1) (hs : w.heap.size + 1 < w1.heap.size) (h : Fresh 5 w1 w4 (.slice a x.length c) (x.map (Value.int .u8))) (u v : Value) :
    OnePost w (.ok (tt, x, n)) (.returned (.tuple #[.agg #[.int .i64 tt, .slice a x.length c], .int .i64 n, .int .i64 0])) ((w4.setCell ⟨w.heap.size + 1, 0, none⟩ u).setCell ⟨w.heap.size + 1, 1, none⟩ v) := by
  obtain ⟨a', c', e, h1, h2, h3⟩ := own_ints h.own
  simp at e
  obtain ⟨rfl, rfl⟩ := e
  have hfar : a = none ∨ ∃ k, a = some ⟨k, 0, none⟩ ∧ w1.heap.size ≤ k := by
    rcases h.own.2 with ⟨e, _⟩ | ⟨g, cap, cur, e, _⟩
    · simp at e; exact .inl e.1
    · have e2 := e
      simp at e2
      exact .inr ⟨g, e2.1, h.new g (by rw [e]; rfl)⟩
  have hne : ∀ q : Addr, a = some q → q.block ≠ w.heap.size + 1 := by
    intro q hq e
    rcases hfar with h0 | ⟨k, h0, hk⟩
    · rw [h0] at hq; cases hq
    · rw [h0] at hq; cases hq; simp at e; omega
  refine ⟨a, c, rfl, h1, by unfold maxLen at h2; omega, (h3.beside _ hne).beside _ hne, hfar.imp id fun ⟨k, e, hk⟩ => ⟨k, e, by omega⟩, ?_⟩
  exact ((hB.trans (h.bel.mono hB.size)).setCell (by simp) _).setCell (by simp) _
theorem one_own {w w4 : World} {v4 : Value} {x : List Int} (h : Grew 5 (w.alloc (.cells #[] 5)).drew w4 (.slice (some ⟨w.heap.size, 0, none⟩) 0 0) v4 (([] : List Int).map (Value.int .u8) ++ x.map (Value.int .u8))) : ∃ a c, v4 = .slice a x.length c ∧ Fresh 5 w w4 (.slice a x.length c) (x.map (Value.int .u8)) := by
  have h2 : Fresh 5 w w4 v4 (x.map (Value.int .u8)) := Grew.first (w := w) ⟨h.own, ⟨h.by_.os, h.by_.tape, h.by_.output, h.by_.size, h.by_.block⟩, h.moved⟩
  obtain ⟨a, c, rfl, _, _, _⟩ := own_ints h2.own
  exact ⟨a, c, rfl, h2⟩

set_option maxRecDepth 100000 in
set_option maxHeartbeats 4000000 in
theorem refOne_short (w : World) (L S : Nat) (P : Bool) (B O : Int) (h : MayS L S B O) (b : List Int) (a : Option Addr) (c : Nat) (h4 : b.length < 4) :
    Calls Tryz.prog 57 #[.agg #[.int .i64 L, .int .i64 S, .bool P, .int .i64 B, .int .i64 O], .slice a b.length c] w (OnePost w (oneL L S P B O b)) := by
  obtain ⟨W, hW, hbW, hsz, hsh, htw⟩ := boxed_thing w L S P B O 97 93
  have HW := hid hW
  have h4i : (b.length : Int) < 4 := by omega
  have hone : oneL L S P B O b = .error B := by unfold oneL; rw [if_pos h4]
  have HONE := hid hone
  clear hW hone
  go_enter Tryz.func57, Tryz.ntmps57
  go_wp2_with fail
  rw [HW.out]
  refine (may_yes _ _ _ _ _ _ h).mono ?_
  rintro e w1 ⟨rfl, hb1⟩
  obtain ⟨c0, c1, f0, f1⟩ := htw.below hb1
  obtain ⟨d0, d1, d2, d3, d4⟩ := hsh.below hb1
  have hB := below_more hbW hb1
  have hne : ¬ w.heap.size = w.heap.size + 1 := by omega
  go_upto_region 4 with fail
  go_region
  all_goals
    go_wp2
    refine bodyPost_ret (v := .tuple #[.agg #[.int .i64 0, .slice none 0 0], .int .i64 0, .int .i64 B]) (by simp [results, Tryz.results57, go_sem, *]) rfl ?_
    rw [HONE.out]
    refine ⟨rfl, ?_⟩
    repeat (first | refine Below.setCell ?_ (by simp) _ | refine Below.drew ?_)
    exact hB

set_option maxRecDepth 100000 in
set_option maxHeartbeats 8000000 in
theorem refOne_long (w : World) (L S : Nat) (P : Bool) (B O : Int) (h : MayS L S B O) (b : List Int) (M off c : Nat) (hH : Holds w (some ⟨M, off, none⟩) c b) (h4 : 4 ≤ b.length) (hbl : b.length ≤ 1000000000) :
    Calls Tryz.prog 57 #[.agg #[.int .i64 L, .int .i64 S, .bool P, .int .i64 B, .int .i64 O], .slice (some ⟨M, off, none⟩) b.length c] w (OnePost w (oneL L S P B O b)) := by
  obtain ⟨W, hW, hbW, hsz, hsh, htw⟩ := boxed_thing w L S P B O 97 93
  have HW := hid hW
  have hS1 : 1 ≤ S := by obtain ⟨_, _, h3, _⟩ := h; omega
  have hS64 : S ≤ 64 := by obtain ⟨_, _, _, h4, _⟩ := h; omega
  have hL4 : 4 ≤ L := by obtain ⟨h1, _⟩ := h; omega
  have hn0 : ((S : Int) == 0) = false := by simp; omega
  have h4i : (4 : Int) ≤ (b.length : Int) := by omega
  have hcap := hH.cap
  have hmax := hH.max
  have hc4 : (4 : Int) ≤ (c : Int) := by omega
  have hc2 : ¬ c = 2 := by omega
  have hc2' : ((c : Int) - 2).toNat = c - 2 := by omega
  have hbc : (b.length : Int) ≤ (c : Int) := by omega
  obtain ⟨n, hn, hn65⟩ := head_bounds hH.oct
  have hone : oneL L S P B O b = if lenOk L S P n = false then .error B else if b.length < n + zer S P n then .error B else if zeros ((b.drop n).take (zer S P n)) = false then .error O else .ok (numL (b.take 2), (b.drop 4).take (n - 4), n + zer S P n) := by
    unfold oneL; rw [if_neg (by omega), hn, Int.toNat_natCast]
  have hV : ∀ W', Below w.heap.size w W' → Calls Tryz.prog 103 #[.slice (some ⟨M, off + 2, none⟩) 2 (c - 2)] W' fun e w' => e = .returned (.int .u64 n) ∧ W' = w' := fun W' hb => by
    have hI := (hH.ints.below hb).drop (j := 2) hcap
    rw [if_neg hc2] at hI
    have l22 : ((b.drop 2).take 2).length = 2 := by rw [List.length_take, List.length_drop]; omega
    have := value_q ((b.drop 2).take 2) (some ⟨M, off + 2, none⟩) 2 (c - 2) W' l22.symm (by rw [l22]; decide) ((hH.oct.drop 2).take 2) (hI.take 2)
    rwa [hn] at this
  have HV := hid hV
  have HON := hid hone
  have HH := hid hH
  have hwn : IntKind.i64.wrap (n : Int) = (n : Int) := wrap_nat (by omega)
  have hto := over_cast (l := n) hS1
  obtain ⟨o, ho⟩ : ∃ o, o = n % S := ⟨_, rfl⟩
  rw [← ho] at hto
  have HO := hid ho
  have HN := hid hn
  clear hW hone hV hH ho hn
  go_enter Tryz.func57, Tryz.ntmps57
  go_wp2_with fail
  rw [HW.out]
  refine (may_yes _ _ _ _ _ _ h).mono ?_
  rintro e w1 ⟨rfl, hb1⟩
  obtain ⟨c0, c1, f0, f1⟩ := htw.below hb1
  obtain ⟨d0, d1, d2, d3, d4⟩ := hsh.below hb1
  have hB := below_more hbW hb1
  have hne : ¬ w.heap.size = w.heap.size + 1 := by omega
  have hI1 := hid (HH.out.ints.below hB)
  clear hsh htw
  go_wp2_with fail
  refine (HV.out _ hB).mono ?_
  rintro e w2 ⟨rfl, rfl⟩
  rcases Nat.lt_or_ge n L with k1 | k1
  · have k1' : (n : Int) < (L : Int) := by omega
    have HONE := hid (show oneL L S P B O b = .error B by rw [HON.out, if_pos (by unfold lenOk; simp; omega)])
    go_upto_region 7 with fail
    go_region
    all_goals
      go_wp2
      refine bodyPost_ret (v := .tuple #[.agg #[.int .i64 0, .slice none 0 0], .int .i64 0, .int .i64 B]) (by simp [results, Tryz.results57, go_sem, *]) rfl ?_
      rw [HONE.out]
      refine ⟨rfl, ?_⟩
      repeat (first | refine Below.setCell ?_ (by simp) _ | refine Below.drew ?_)
      exact hB
  have k1' : (L : Int) ≤ (n : Int) := by omega
  cases P
  · rcases Nat.eq_zero_or_pos o with k2 | k2
    · subst k2
      have hz0 : zer S false n = 0 := by simp [zer]
      have hok : lenOk L S false n = true := by unfold lenOk; simp; rw [← HO.out]; exact ⟨k1, rfl⟩
      have HON2 := hid (show oneL L S false B O b = if b.length < n then .error B else .ok (numL (b.take 2), (b.drop 4).take (n - 4), n) by
        rw [HON.out, hok, hz0]; simp [zeros])
      clear hz0 hok
      rcases Nat.lt_or_ge b.length n with k3 | k3
      · have k3' : (b.length : Int) < (n : Int) := by omega
        have HONE := hid (show oneL L S false B O b = .error B by rw [HON2.out, if_pos k3])
        go_upto_region 12 with fail
        go_region
        all_goals
          go_wp2
          refine bodyPost_ret (v := .tuple #[.agg #[.int .i64 0, .slice none 0 0], .int .i64 0, .int .i64 B]) (by simp [results, Tryz.results57, go_sem, *]) rfl ?_
          rw [HONE.out]
          refine ⟨rfl, ?_⟩
          repeat (first | refine Below.setCell ?_ (by simp) _ | refine Below.drew ?_)
          exact hB
      · have k3' : (n : Int) ≤ (b.length : Int) := by omega
        have HONE := hid (show oneL L S false B O b = .ok (numL (b.take 2), (b.drop 4).take (n - 4), n) by rw [HON2.out, if_neg (by omega)])
        have hnc : n ≤ c := by omega
        have hxl : ((b.drop 4).take (n - 4)).length = n - 4 := by rw [List.length_take, List.length_drop]; omega
        obtain ⟨x, hxx⟩ : ∃ x, x = (b.drop 4).take (n - 4) := ⟨_, rfl⟩
        rw [← hxx] at hxl HONE
        have HX := hid (fun W' (hb : Below w1.heap.size w1 W') => ((hI1.out.below hb).drop (j := 4) hcap).take (n - 4))
        rw [← hxx] at HX
        have HXL := hid hxl
        have HV0 := hid (fun W' (hb : Below w1.heap.size w1 W') => value_q (b.take 2) (some ⟨M, off, none⟩) 2 c W' (by rw [List.length_take]; omega) (by rw [List.length_take]; omega) (HH.out.oct.take 2) ((hI1.out.below hb).take 2))
        have ht2 := numL_snoc_bound (HH.out.oct.take 2)
        rw [show (b.take 2).length = 2 by rw [List.length_take]; omega, p256_two] at ht2
        obtain ⟨tt, htt⟩ : ∃ tt, tt = numL (b.take 2) := ⟨_, rfl⟩
        rw [← htt] at HV0 HONE ht2
        have hwt : IntKind.i64.wrap tt = tt := by rw [IntKind.wrap_i64]; omega
        have hn4i : (4 : Int) ≤ (n : Int) := by omega
        have hnci : (n : Int) ≤ (c : Int) := by omega
        have HTW := hid (Two.mk c0 c1 f0 f1)
        have hw1s : w.heap.size + 1 < w1.heap.size := World.block_lt_of_cell? w1 _ c0
        clear hxl hxx htt ht2
        go_wp2
        go_loop [9] (fun p => p = .int .i64 n) (fun _ => 0)
        case atStart => rfl
        case round =>
          obtain rfl := hrel
          clear hto
          rcases Nat.eq_or_lt_of_le (show 4 ≤ c by omega) with hcc | hcc
          · skip
            obtain rfl : c = 4 := by omega
            obtain rfl : n = 4 := by omega
            obtain rfl : x = [] := List.eq_nil_of_length_eq_zero (by rw [HXL.out])
            go_upto_region 18 with fail
            go_region_held3 (fun w' => w'.cell? ⟨w.heap.size, 0, none⟩ = some (.int .i64 L)) (first | go_keep | exact cell_keep d0 hF4.bel | exact cell_keep d0 HF4.out.bel) ((first | (go_at_call 103; refine (HV0.out _ ?_).mono ?_; (first | exact below_drew1 _ | exact ((Below.refl _ _).alloc (Nat.le_refl _) _).drew | exact hF4.bel); rintro e w8 ⟨rfl, rfl⟩) | (refine step_app rfl _ _ rfl elemU8 rfl (own_emptyI w1 _ .u8) rfl (l := []) rfl (Ints.nil _ _ _) ?_ ?_ ?_; (simp); (simp); intro v4 w4 hg4; obtain ⟨a4, c4, rfl, hF4⟩ := one_own hg4; obtain ⟨k0, k1, k2, k3⟩ := HTW.out.below hF4.bel; have HF4 := hid hF4)))
            all_goals
              go_wp2
              refine bodyPost_ret (v := .tuple #[.agg #[.int .i64 tt, .slice (some ⟨w1.heap.size, 0, none⟩) 0 0], .int .i64 4, .int .i64 0]) (by simp [results, Tryz.results57, go_sem, *]) rfl ?_
              rw [HONE.out]
              refine ⟨some ⟨w1.heap.size, 0, none⟩, 0, rfl, by simp, by simp, Ints.nil _ _ _, .inr ⟨_, rfl, hB.size⟩, ?_⟩
              repeat (first | refine Below.drew ?_ | refine Below.alloc ?_ (by simpa [World.setCell] using hB.size) _)
              repeat (first | refine Below.setCell ?_ (by simp) _ | refine Below.drew ?_)
              exact hB
          · skip
            have hc4n : ¬ c = 4 := by omega
            have hc2i : (2 : Int) ≤ (c : Int) := by omega
            have hc4s : ((c : Int) - 4).toNat = c - 4 := by omega
            have hn4s : ((n : Int) - 4).toNat = n - 4 := by omega
            have hx := HX.out
            rw [if_neg hc4n] at hx
            have HXX := hid hx
            clear hx
            go_upto_region 18 with fail
            go_region_held3 (fun w' => w'.cell? ⟨w.heap.size, 0, none⟩ = some (.int .i64 L)) (first | go_keep | exact cell_keep d0 hF4.bel | exact cell_keep d0 HF4.out.bel) ((first | (go_at_call 103; refine (HV0.out _ ?_).mono ?_; (first | exact below_drew1 _ | exact ((Below.refl _ _).alloc (Nat.le_refl _) _).drew | exact hF4.bel); rintro e w8 ⟨rfl, rfl⟩) | (refine step_app rfl _ _ rfl elemU8 rfl (own_emptyI w1 _ .u8) rfl HXL.out.symm (HXX.out _ ((Below.refl _ _).alloc (Nat.le_refl _) _).drew) ?_ ?_ ?_; (rw [HXL.out]; simp; omega); (rw [HXL.out]; simp; omega); intro v4 w4 hg4; obtain ⟨a4, c4, rfl, hF4⟩ := one_own hg4; obtain ⟨k0, k1, k2, k3⟩ := HTW.out.below hF4.bel; have HF4 := hid hF4)))
            all_goals
              go_wp2
              refine bodyPost_ret (v := .tuple #[.agg #[.int .i64 tt, .slice a4 x.length c4], .int .i64 n, .int .i64 0]) (by simp [results, Tryz.results57, go_sem, *]) rfl ?_
              rw [HONE.out]
              exact one_end hB hw1s HF4.out _ _
    · have k2' : ((o : Int) == 0) = false := by simp; omega
      have k2'' : ((o : Int) != 0) = true := by simp; omega
      have HONE := hid (show oneL L S false B O b = .error B by rw [HON.out, if_pos (by unfold lenOk; simp; rw [← HO.out]; omega)])
      go_upto_region 7 with fail
      go_region
      all_goals
        go_wp2
        refine bodyPost_ret (v := .tuple #[.agg #[.int .i64 0, .slice none 0 0], .int .i64 0, .int .i64 B]) (by simp [results, Tryz.results57, go_sem, *]) rfl ?_
        rw [HONE.out]
        refine ⟨rfl, ?_⟩
        repeat (first | refine Below.setCell ?_ (by simp) _ | refine Below.drew ?_)
        exact hB
  · have hok : lenOk L S true n = true := by unfold lenOk; simp; exact k1
    obtain ⟨z, hz⟩ : ∃ z, z = zer S true n := ⟨_, rfl⟩
    have hz64 := zer_lt hS1 true n
    rw [← hz] at hz64
    have HRZ := hid (fun W => refZeros_any W S n hS1 hS64 (by omega))
    rw [← hz] at HRZ
    have HON2 := hid (show oneL L S true B O b = if b.length < n + z then .error B else if zeros ((b.drop n).take z) = false then .error O else .ok (numL (b.take 2), (b.drop 4).take (n - 4), n + z) by rw [HON.out, hok, ← hz]; simp)
    clear hz hok hto
    have hsum : (n : Int) + (z : Int) ≤ 9223372036854775807 := by omega
    rcases Nat.lt_or_ge b.length (n + z) with k3 | k3
    · have k3' : (b.length : Int) < (n : Int) + (z : Int) := by omega
      have HONE := hid (show oneL L S true B O b = .error B by rw [HON2.out, if_pos k3])
      go_wp2_with fail
      refine (HRZ.out _).mono ?_
      rintro e w2 ⟨rfl, rfl⟩
      go_upto_region 12 with fail
      go_region
      all_goals
        go_wp2
        refine bodyPost_ret (v := .tuple #[.agg #[.int .i64 0, .slice none 0 0], .int .i64 0, .int .i64 B]) (by simp [results, Tryz.results57, go_sem, *]) rfl ?_
        rw [HONE.out]
        refine ⟨rfl, ?_⟩
        repeat (first | refine Below.setCell ?_ (by simp) _ | refine Below.drew ?_)
        exact hB
    · have k3' : (n : Int) + (z : Int) ≤ (b.length : Int) := by omega
      have HONE2 := hid (show oneL L S true B O b = if zeros ((b.drop n).take z) = false then .error O else .ok (numL (b.take 2), (b.drop 4).take (n - 4), n + z) by rw [HON2.out, if_neg (by omega)])
      go_wp2_with fail
      refine (HRZ.out _).mono ?_
      rintro e w2 ⟨rfl, rfl⟩
      go_wp2
      go_loop [9] (fun p => ∃ i : Nat, p = .int .i64 i ∧ n ≤ i ∧ i ≤ n + z ∧ Hid (zeros ((b.drop n).take (i - n)) = true)) (fun p => n + z - (intOf p).toNat)
      case atStart => exact ⟨n, rfl, Nat.le_refl _, by omega, by show _ = true; rw [Nat.sub_self]; rfl⟩
      case round =>
        obtain ⟨i, rfl, hi1, hi2, hzi⟩ := hrel
        rcases Nat.lt_or_ge i (n + z) with hlt | hge
        · obtain ⟨M', off', y, hae, hc0, hy⟩ := hI1.out.at (show i < b.length by omega)
          cases hae
          have hil : (i : Int) < (n : Int) + (z : Int) := by omega
          have hib : (i : Int) < (b.length : Int) := by omega
          by_cases hy0 : y = 0
          · subst hy0
            have hz' : Hid (zeros ((b.drop n).take (i + 1 - n)) = true) := by
              show _ = true
              rw [show i + 1 - n = (i - n) + 1 by omega]
              exact zeros_succ (x := 0) (k := i - n) (by rw [List.getElem?_drop, show n + (i - n) = i by omega]; exact hy.out) hzi.out rfl
            go_wp2
            go_round
            case rel => exact ⟨i + 1, by go_num, by omega, by omega, hz'⟩
            case measure => simp [intOf]; omega
          · have hyb : (y != 0) = true := by simpa using hy0
            have HONE := hid (show oneL L S true B O b = .error O by
              rw [HONE2.out, if_pos]
              exact zeros_false (k := i - n) (x := y) (by rw [List.getElem?_take, if_pos (by omega), List.getElem?_drop, show n + (i - n) = i by omega]; exact hy.out) hy0)
            clear hy0
            go_upto_region 17 with fail
            go_region
            all_goals
              go_wp2
              refine bodyPost_ret (v := .tuple #[.agg #[.int .i64 0, .slice none 0 0], .int .i64 0, .int .i64 O]) (by simp [results, Tryz.results57, go_sem, *]) rfl ?_
              rw [HONE.out]
              refine ⟨rfl, ?_⟩
              repeat (first | refine Below.setCell ?_ (by simp) _ | refine Below.drew ?_)
              exact hB
        · obtain rfl : i = n + z := by omega
          have HONE := hid (show oneL L S true B O b = .ok (numL (b.take 2), (b.drop 4).take (n - 4), n + z) by
            have hzz := hzi.out
            rw [show n + z - n = z by omega] at hzz
            rw [HONE2.out, hzz]
            simp)
          have hnc : n ≤ c := by omega
          have hxl : ((b.drop 4).take (n - 4)).length = n - 4 := by rw [List.length_take, List.length_drop]; omega
          obtain ⟨x, hxx⟩ : ∃ x, x = (b.drop 4).take (n - 4) := ⟨_, rfl⟩
          rw [← hxx] at hxl HONE
          have HX := hid (fun W' (hb : Below w1.heap.size w1 W') => ((hI1.out.below hb).drop (j := 4) hcap).take (n - 4))
          rw [← hxx] at HX
          have HXL := hid hxl
          have HV0 := hid (fun W' (hb : Below w1.heap.size w1 W') => value_q (b.take 2) (some ⟨M, off, none⟩) 2 c W' (by rw [List.length_take]; omega) (by rw [List.length_take]; omega) (HH.out.oct.take 2) ((hI1.out.below hb).take 2))
          have ht2 := numL_snoc_bound (HH.out.oct.take 2)
          rw [show (b.take 2).length = 2 by rw [List.length_take]; omega, p256_two] at ht2
          obtain ⟨tt, htt⟩ : ∃ tt, tt = numL (b.take 2) := ⟨_, rfl⟩
          rw [← htt] at HV0 HONE ht2
          have hwt : IntKind.i64.wrap tt = tt := by rw [IntKind.wrap_i64]; omega
          have hn4i : (4 : Int) ≤ (n : Int) := by omega
          have hnci : (n : Int) ≤ (c : Int) := by omega
          have HTW := hid (Two.mk c0 c1 f0 f1)
          have hw1s : w.heap.size + 1 < w1.heap.size := World.block_lt_of_cell? w1 _ c0
          clear hxl hxx htt ht2
          rcases Nat.eq_or_lt_of_le (show 4 ≤ c by omega) with hcc | hcc
          · skip
            obtain rfl : c = 4 := by omega
            obtain rfl : n = 4 := by omega
            obtain rfl : z = 0 := by omega
            obtain rfl : x = [] := List.eq_nil_of_length_eq_zero (by rw [HXL.out])
            go_upto_region 18 with fail
            go_region_held3 (fun w' => w'.cell? ⟨w.heap.size, 0, none⟩ = some (.int .i64 L)) (first | go_keep | exact cell_keep d0 hF4.bel | exact cell_keep d0 HF4.out.bel) ((first | (go_at_call 103; refine (HV0.out _ ?_).mono ?_; (first | exact below_drew1 _ | exact ((Below.refl _ _).alloc (Nat.le_refl _) _).drew | exact hF4.bel); rintro e w8 ⟨rfl, rfl⟩) | (refine step_app rfl _ _ rfl elemU8 rfl (own_emptyI w1 _ .u8) rfl (l := []) rfl (Ints.nil _ _ _) ?_ ?_ ?_; (simp); (simp); intro v4 w4 hg4; obtain ⟨a4, c4, rfl, hF4⟩ := one_own hg4; obtain ⟨k0, k1, k2, k3⟩ := HTW.out.below hF4.bel; have HF4 := hid hF4)))
            all_goals
              go_wp2
              refine bodyPost_ret (v := .tuple #[.agg #[.int .i64 tt, .slice (some ⟨w1.heap.size, 0, none⟩) 0 0], .int .i64 4, .int .i64 0]) (by simp [results, Tryz.results57, go_sem, *]) rfl ?_
              rw [HONE.out]
              refine ⟨some ⟨w1.heap.size, 0, none⟩, 0, rfl, by simp, by simp, Ints.nil _ _ _, .inr ⟨_, rfl, hB.size⟩, ?_⟩
              repeat (first | refine Below.drew ?_ | refine Below.alloc ?_ (by simpa [World.setCell] using hB.size) _)
              repeat (first | refine Below.setCell ?_ (by simp) _ | refine Below.drew ?_)
              exact hB
          · skip
            have hc4n : ¬ c = 4 := by omega
            have hc2i : (2 : Int) ≤ (c : Int) := by omega
            have hc4s : ((c : Int) - 4).toNat = c - 4 := by omega
            have hn4s : ((n : Int) - 4).toNat = n - 4 := by omega
            have hx := HX.out
            rw [if_neg hc4n] at hx
            have HXX := hid hx
            clear hx
            go_upto_region 18 with fail
            go_region_held3 (fun w' => w'.cell? ⟨w.heap.size, 0, none⟩ = some (.int .i64 L)) (first | go_keep | exact cell_keep d0 hF4.bel | exact cell_keep d0 HF4.out.bel) ((first | (go_at_call 103; refine (HV0.out _ ?_).mono ?_; (first | exact below_drew1 _ | exact ((Below.refl _ _).alloc (Nat.le_refl _) _).drew | exact hF4.bel); rintro e w8 ⟨rfl, rfl⟩) | (refine step_app rfl _ _ rfl elemU8 rfl (own_emptyI w1 _ .u8) rfl HXL.out.symm (HXX.out _ ((Below.refl _ _).alloc (Nat.le_refl _) _).drew) ?_ ?_ ?_; (rw [HXL.out]; simp; omega); (rw [HXL.out]; simp; omega); intro v4 w4 hg4; obtain ⟨a4, c4, rfl, hF4⟩ := one_own hg4; obtain ⟨k0, k1, k2, k3⟩ := HTW.out.below hF4.bel; have HF4 := hid hF4)))
            all_goals
              go_wp2
              refine bodyPost_ret (v := .tuple #[.agg #[.int .i64 tt, .slice a4 x.length c4], .int .i64 ((n + z : Nat) : Int), .int .i64 0]) (by simp [results, Tryz.results57, go_sem, *]) rfl ?_
              rw [HONE.out]
              exact one_end hB hw1s HF4.out _ _
end Go.Proofs.YtdjlbejhphbcoaaGreat
namespace Go.Proofs.YtdjlbejhphbcoaaGreat
open Go.RowKit
set_option maxRecDepth 100000

theorem refOne_any (w : World) (L S : Nat) (P : Bool) (B O : Int) (h : MayS L S B O) (b : List Int) (a : Option Addr) (c : Nat) (hH : Holds w a c b) (hbl : b.length ≤ 1000000000) :
    Calls Tryz.prog 57 #[.agg #[.int .i64 L, .int .i64 S, .bool P, .int .i64 B, .int .i64 O], .slice a b.length c] w (OnePost w (oneL L S P B O b)) := by
  rcases Nat.lt_or_ge b.length 4 with h4 | h4
  · exact refOne_short w L S P B O h b a c h4
  · obtain ⟨M, off, rfl⟩ := hH.shape (by have := hH.cap; omega)
    exact refOne_long w L S P B O h b M off c hH h4 hbl

/-- the length of a slice -/
def lenV : Value → Nat
  | .slice _ n _ => n
  | _ => 0

/-- what the document's Cut has gathered -/
structure RCut (w1 : World) (T : TypeId) (pre : List Thing) (va : Option Addr) (vc : Nat) (wr : World) : Prop where
  own : wr.ownsRow 0 T 2 (.slice va pre.length vc) pre.length (thingCells pre)
  bel : Below w1.heap.size w1 wr
  base : ∀ g, (Value.slice va pre.length vc).ownBlock = some g → w1.heap.size ≤ g
  none_ : pre = [] → (Value.slice va pre.length vc).ownBlock = none
  ok : ∀ h ∈ pre, Thing.ok w1.heap.size h wr

/-- what the document's Cut answers -/
def RefCutPost (w : World) (r : Except Int (List (Int × List Int))) (e : Ending) (w' : World) : Prop :=
  match r with
  | .error q => e = .returned (.tuple #[.slice none 0 0, .int .i64 q]) ∧ Below w.heap.size w w'
  | .ok xs => ∃ (l : List Thing) (a : Option Addr) (c : Nat), l.map Thing.val = xs ∧ e = .returned (.tuple #[.slice a l.length c, .int .i64 0]) ∧ Items w' a l ∧ (∀ h ∈ l, Thing.ok w.heap.size h w') ∧ Below w.heap.size w w'

end Go.Proofs.YtdjlbejhphbcoaaGreat
