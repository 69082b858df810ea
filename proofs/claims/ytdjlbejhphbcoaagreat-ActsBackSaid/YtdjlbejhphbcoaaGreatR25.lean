/- Put together out of several texts. -/
import Derived.Test.YtdjlbejhphbcoaaGreatR7
import Derived.Deep.RegionWith
namespace Go.Proofs.YtdjlbejhphbcoaaGreat
open Go.RowKit
set_option linter.unusedVariables false

theorem own_lt8 {w w' : World} {e : TypeId} {p n c : Nat} {xs : List Value} (h : Fresh e w w' (.slice (some ⟨p, 0, none⟩) n c) xs) : p < w'.heap.size := by
  rcases h.own.2 with ⟨h0, _⟩ | ⟨g, cap, cur, hv, _, hg, _⟩
  · simp at h0
  · simp at hv
    obtain ⟨rfl, _⟩ := hv
    exact (Array.getElem?_eq_some_iff.1 hg).1
/-- a copy -/
def CopyPost (C F : Int) (H : Bool) (X : Int) (v m : List Int) (w : World) (e : Ending) (w' : World) : Prop :=
  ∃ p q, e = .returned (.agg #[.int .i64 C, .int .i64 F, .bool H, .int .u64 X, .slice (some ⟨p, 0, none⟩) v.length v.length, .slice (some ⟨q, 0, none⟩) m.length m.length]) ∧ Below w.heap.size w w' ∧
    Fresh 5 w w' (.slice (some ⟨p, 0, none⟩) v.length v.length) (v.map (Value.int .u8)) ∧ Fresh 5 w w' (.slice (some ⟨q, 0, none⟩) m.length m.length) (m.map (Value.int .u8)) ∧ p < q ∧ w.heap.size ≤ p
set_option maxRecDepth 100000 in
set_option maxHeartbeats 2000000 in
theorem copy8_any (C F : Int) (H : Bool) (X : Int) (va : Option Addr) (vc : Nat) (ma : Option Addr) (mc : Nat) (v m : List Int) (hv : v.length ≤ 1000) (hm : m.length ≤ 1000) (w : World) (iv : Ints .u8 w va v) (im : Ints .u8 w ma m) :
    Calls Tryz.prog 112 #[.agg #[.int .i64 C, .int .i64 F, .bool H, .int .u64 X, .slice va v.length vc, .slice ma m.length mc]] w (CopyPost C F H X v m w) := by
  obtain ⟨W, hW, hbW, hx, hy⟩ := two_oxm w C F H X va v.length vc ma m.length mc 0 0 false 0 none 0 0 none 0 0
  have HW := hid hW
  have HB := hid hbW
  have IV := hid (iv.below hbW)
  have IM := hid (im.below hbW)
  have FV := hid (fun W iv => fresh8_any v va vc W (by omega) iv)
  have FM := hid (fun W im => fresh8_any m ma mc W (by omega) im)
  have hxD := hx.below (below_drew8 W)
  have hyD := hy.below (below_drew8 W)
  obtain ⟨d0, d1, d2, d3, d4, d5⟩ := hxD.six
  have zx := hxD.free
  have sW : w.heap.size + 1 < W.heap.size := hy.lt
  clear hW hbW iv im
  go_enter Tryz.func112, Tryz.ntmps112
  go_wp2_with fail
  rw [HW.out]
  go_region_with (first
    | (go_at_call 143; with_reducible refine (FV.out _ ?_).mono ?_; exact IV.out.below (below_drew8 W); rintro e w5 ⟨rfl, hf5⟩; obtain ⟨e0, e1, e2, e3, e4, e5⟩ := (hxD.below hf5.bel).six; have z5 := (hxD.below hf5.bel).free)
    | (go_at_call 143; with_reducible refine (FM.out _ ?_).mono ?_; exact IM.out.below (below_on (below_drew8 W) hf5.bel); rintro e w6 ⟨rfl, hf6⟩; obtain ⟨g0, g1, g2, g3, g4, g5⟩ := ((hxD.below hf5.bel).below hf6.bel).six; have z6 := ((hxD.below hf5.bel).below hf6.bel).free)
    | fail)
  all_goals
    have hx6 := (hxD.below hf5.bel).below hf6.bel
    have hy6 := (hyD.below hf5.bel).below hf6.bel
    have n1 : ¬ w.heap.size = w.heap.size + 1 := by omega
    have n2 : ¬ w.heap.size + 1 = w.heap.size := by omega
    have hX := (hx6.set 4 (.slice (some ⟨W.heap.size, 0, none⟩) v.length v.length) (by simp)).set 5 (.slice (some ⟨w5.heap.size, 0, none⟩) m.length m.length) (by simp)
    have hY := (hy6.far (c := w.heap.size) (i := 4) (.slice (some ⟨W.heap.size, 0, none⟩) v.length v.length) n1).far (c := w.heap.size) (i := 5) (.slice (some ⟨w5.heap.size, 0, none⟩) m.length m.length) n1
    have HF5 := hid hf5
    have HF6 := hid hf6
    clear d0 d1 d2 d3 d4 d5 zx e0 e1 e2 e3 e4 e5 z5 g0 g1 g2 g3 g4 g5 z6 hf5 hf6 hx hy hxD hyD hx6 hy6
    obtain ⟨d0, d1, d2, d3, d4, d5⟩ := hX.six
    obtain ⟨e0, e1, e2, e3, e4, e5⟩ := hY.six
    have zY := hY.free
    go_wp2_with fail
    have hk := hY.set6 (.int .i64 C) (.int .i64 F) (.bool H) (.int .u64 X) (.slice (some ⟨W.heap.size, 0, none⟩) v.length v.length) (.slice (some ⟨w5.heap.size, 0, none⟩) m.length m.length)
    obtain ⟨k0, k1, k2, k3, k4, k5⟩ := hk.six
    have s5 : W.heap.size < w5.heap.size := own_lt8 HF5.out
    refine bodyPost_ret (v := .agg #[.int .i64 C, .int .i64 F, .bool H, .int .u64 X, .slice (some ⟨W.heap.size, 0, none⟩) v.length v.length, .slice (some ⟨w5.heap.size, 0, none⟩) m.length m.length]) (by simp [results, Tryz.results112, go_sem, k0, k1, k2, k3, k4, k5]) rfl ⟨W.heap.size, w5.heap.size, rfl, ?_, ?_, ?_, s5, by omega⟩
    · repeat (with_reducible refine Below.setCell ?_ (by simp) _)
      exact below_on HB.out (below_on (below_on (below_drew8 W) HF5.out.bel) HF6.out.bel)
    · repeat (refine Fresh.turn ?_ (by_setCell _ _ _ _) (by simp [Value.ownBlock]; omega) (by omega))
      exact (Fresh.made (below_by_none (below_on HB.out (below_drew8 W))) HF5.out).behind (below_by_none HF6.out.bel)
    · repeat (refine Fresh.turn ?_ (by_setCell _ _ _ _) (by simp [Value.ownBlock]; omega) (by omega))
      exact Fresh.made (below_by_none (below_on HB.out (below_on (below_drew8 W) HF5.out.bel))) HF6.out
end Go.Proofs.YtdjlbejhphbcoaaGreat
namespace Go.Proofs.YtdjlbejhphbcoaaGreat
open Go.RowKit
set_option linter.unusedVariables false

theorem fresh_ints8 {w w' : World} {p : Nat} {l : List Int} {n c : Nat} (h : Fresh 5 w w' (.slice (some ⟨p, 0, none⟩) n c) (l.map (Value.int .u8))) : Ints .u8 w' (some ⟨p, 0, none⟩) l := by
  obtain ⟨a, c', he, _, _, hI⟩ := own_ints h.own
  have he1 : a = some ⟨p, 0, none⟩ := by simpa using (congrArg (fun x => match x with | Value.slice a _ _ => a | _ => none) he).symm
  rw [← he1]
  exact hI
end Go.Proofs.YtdjlbejhphbcoaaGreat
