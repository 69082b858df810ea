/- The document's Cut. -/
import Derived.Test.YtfdkkcndadjcaaaTlvQ
namespace Go.Proofs.Ytfdkkcndadjcaaa
open Go.RowKit

theorem refOne_any (w : World) (L S : Nat) (P : Bool) (B O : Int) (h : MayS L S B O) (b : List Int) (a : Option Addr) (c : Nat) (hH : Holds w a c b) (hbl : b.length ≤ 1000000000) :
    Calls Try.prog 8 #[.agg #[.int .i64 L, .int .i64 S, .bool P, .int .i64 B, .int .i64 O], .slice a b.length c] w (OnePost w (oneL L S P B O b)) := by
  rcases Nat.lt_or_ge b.length 4 with h4 | h4
  · exact refOne_short w L S P B O h b a c h4
  · obtain ⟨M, off, rfl⟩ := hH.shape (by have := hH.cap; omega)
    exact refOne_long w L S P B O h b M off c hH h4 hbl

theorem Holds.drop_le {w : World} {M off c : Nat} {b : List Int} (h : Holds w (some ⟨M, off, none⟩) c b) {n : Nat} (hn : n ≤ b.length) (hc : c ≠ n) : Holds w (some ⟨M, off + n, none⟩) (c - n) (b.drop n) := by
  have h1 := h.cap
  have h2 := h.max
  have hI := h.ints.drop (j := n) h1
  rw [if_neg hc] at hI
  exact ⟨by rw [List.length_drop]; omega, by omega, hI, h.oct.drop n, fun _ => ⟨M, off + n, rfl⟩⟩

theorem built_news_at (W : World) (g : Nat) (hg : W.heap.size = g) (v0 v1 : Value) (T : TypeId) : ∀ j u, [v0, v1][j]? = some u → (W.alloc (.cells #[v0, v1] T)).cell? ((⟨g, 0, none⟩ : Addr).add j) = some u := by
  subst hg; exact built_news W v0 v1 T

/-- the length of a slice -/
def lenV : Value → Nat
  | .slice _ n _ => n
  | _ => 0

/-- what the document's Cut has gathered -/
structure RCut (w1 : World) (T : TypeId) (pre : List Thing) (va : Option Addr) (vc : Nat) (wr : World) : Prop where
  own : wr.ownsRow 0 T 2 (.slice va pre.length vc) pre.length (thingCells pre)
  bel : Below w1.heap.size w1 wr
  base : ∀ g, (Value.slice va pre.length vc).ownBlock = some g → w1.heap.size ≤ g
  none_ : pre = [] → (Value.slice va pre.length vc).ownBlock = none
  ok : ∀ h ∈ pre, Thing.ok w1.heap.size h wr

theorem RCut.below {w1 wr w' : World} {T : TypeId} {pre : List Thing} {va : Option Addr} {vc : Nat} (h : RCut w1 T pre va vc wr) (hb : Below wr.heap.size wr w') : RCut w1 T pre va vc w' :=
  ⟨h.own.kept (below_by_none hb) (by cases (Value.slice va pre.length vc).ownBlock <;> simp), below_more h.bel hb, h.base, h.none_, fun x hx => (h.ok x hx).below hb⟩
theorem RCut.step {w1 wr w' : World} {T : TypeId} {pre : List Thing} {va va' : Option Addr} {vc vc' : Nat} (h : RCut w1 T pre va vc wr) {x : Thing} (hx : x.ok w1.heap.size wr)
    (hg : GrewN T 2 wr w' (.slice va pre.length vc) (.slice va' (pre.length + 1) vc') (pre.length + 1) (thingCells pre ++ [.int .i64 x.t, .slice x.a x.x.length x.c])) : RCut w1 T (pre ++ [x]) va' vc' w' := by
  have e : (pre ++ [x]).length = pre.length + 1 := by simp
  rw [← thingCells_snoc] at hg
  refine ⟨by rw [e]; exact hg.own, h.bel.grown hg.by_ h.bel.size h.base, by rw [e]; exact hg.base h.bel.size h.base, by simp, fun y hy => ?_⟩
  rcases List.mem_append.1 hy with hy | hy
  · exact (h.ok y hy).kinds h.own h.none_ hg.by_
  · simp at hy; subst hy; exact hx.kinds h.own h.none_ hg.by_

theorem refCut_may_not (w : World) (L S : Int) (P : Bool) (B O : Int) (h : ¬ MayS L S B O) (v : Value) :
    Calls Try.prog 11 #[.agg #[.int .i64 L, .int .i64 S, .bool P, .int .i64 B, .int .i64 O], v] w fun e w' => e = .returned (.tuple #[.slice none 0 0, .int .i64 10001]) ∧ Below w.heap.size w w' := by
  obtain ⟨W, hW⟩ : ∃ W, w.alloc (.cells #[.int .i64 L, .int .i64 S, .bool P, .int .i64 B, .int .i64 O] 35) = W := ⟨_, rfl⟩
  have hbW : Below w.heap.size w W := by rw [← hW]; exact below_alloc _ _
  have HW := hid hW
  clear hW
  go_enter Try.func11, Try.ntmps11
  go_wp2_with fail
  rw [HW.out]
  refine (may_no _ _ _ _ _ _ h).mono ?_
  rintro e w1 ⟨rfl, hb1⟩
  go_wp2
  go_ret2
  exact ⟨rfl, below_more hbW hb1⟩

/-- what the document's Cut answers -/
def RefCutPost (w : World) (r : Except Int (List (Int × List Int))) (e : Ending) (w' : World) : Prop :=
  match r with
  | .error q => e = .returned (.tuple #[.slice none 0 0, .int .i64 q]) ∧ Below w.heap.size w w'
  | .ok xs => ∃ (l : List Thing) (a : Option Addr) (c : Nat), l.map Thing.val = xs ∧ e = .returned (.tuple #[.slice a l.length c, .int .i64 0]) ∧ Items w' a l ∧ (∀ h ∈ l, Thing.ok w.heap.size h w') ∧ Below w.heap.size w w'

set_option maxRecDepth 100000 in
set_option maxHeartbeats 4000000 in
theorem refCut_any (w : World) (L S : Nat) (P : Bool) (B O : Int) (h : MayS L S B O) (b : List Int) (a : Option Addr) (c : Nat) (hH : Holds w a c b) (hbl : b.length ≤ 1000000000) :
    Calls Try.prog 11 #[.agg #[.int .i64 L, .int .i64 S, .bool P, .int .i64 B, .int .i64 O], .slice a b.length c] w (RefCutPost w (cutL L S P B O b)) := by
  obtain ⟨W, hW⟩ : ∃ W, w.alloc (.cells #[.int .i64 L, .int .i64 S, .bool P, .int .i64 B, .int .i64 O] 35) = W := ⟨_, rfl⟩
  have hbW : Below w.heap.size w W := by rw [← hW]; exact below_alloc _ _
  have hsh : ShAt W w.heap.size L S P B O := by rw [← hW]; exact ShAt.of_block (t := 35) (_root_.Go.heap_alloc_new w _)
  have hL4 : 4 ≤ L := by obtain ⟨h1, _⟩ := h; omega
  have hB0 : B ≠ 0 := h.2.2.2.2.1
  have hO0 : O ≠ 0 := h.2.2.2.2.2
  have HBO := hid (And.intro hB0 hO0)
  have HW := hid hW
  have HH := hid hH
  clear hW hH hB0 hO0
  go_enter Try.func11, Try.ntmps11
  go_wp2_with fail
  rw [HW.out]
  refine (may_yes _ _ _ _ _ _ h).mono ?_
  rintro e w1 ⟨rfl, hb1⟩
  have hB1 := below_more hbW hb1
  have hsh1 := hid (hsh.below hb1)
  clear hsh
  go_wp2_with fail
  go_loopw [1, 6] (fun u v wr => ∃ (r : List Int) (a' : Option Addr) (c' : Nat) (va : Option Addr) (vc : Nat) (pre : List Thing), u = .slice a' r.length c' ∧ v = .slice va pre.length vc ∧ r.length + pre.length ≤ b.length ∧ Hid (cutL L S P B O b = after (pre.map Thing.val) (cutL L S P B O r)) ∧ Hid (Holds w1 a' c' r) ∧ Hid (RCut w1 31 pre va vc wr)) (fun u _ _ => lenV u)
  case atStart => exact ⟨b, a, c, none, 0, [], rfl, rfl, by simp, (after_nil _).symm, HH.out.below hB1, ⟨World.ownsRow_nil _ _ _ _, Below.refl _ _, (fun g e => by cases e), (fun _ => rfl), (fun x hx => by simp at hx)⟩⟩
  case round =>
    obtain ⟨r, a', c', va, vc, pre, rfl, rfl, hlen, hcut, hHr, hR⟩ := hrel
    have hBr := hid (below_more hB1 hR.out.bel)
    rcases Nat.eq_zero_or_pos r.length with h0 | h0
    · obtain rfl : r = [] := List.eq_nil_of_length_eq_zero h0
      have hc2 : cutL L S P B O b = .ok (pre.map Thing.val) := by rw [hcut.out, cutL_nil]; simp [after]
      have HC := hid hc2
      clear h0 hc2
      go_wp2
      go_ret2
      rw [HC.out]
      obtain ⟨a2, c2, e, _, _, hit, _⟩ := own_items hR.out.own
      cases e
      exact ⟨pre, _, _, rfl, rfl, hit, fun x hx => by have := hR.out.ok x hx; exact ⟨this.cap, this.max, this.ints, this.far.imp id fun ⟨k, e, hk⟩ => ⟨k, e, by have := hB1.size; omega⟩⟩, hBr.out⟩
    · have h0i : (0 : Int) < (r.length : Int) := by omega
      have hrne : r ≠ [] := by rintro rfl; simp at h0
      obtain ⟨d0, d1, d2, d3, d4⟩ := hsh1.out.below hR.out.bel
      have HONE := hid (refOne_any wr L S P B O h r a' c' (hHr.out.below hR.out.bel) (by omega))
      cases ho : oneL L S P B O r with
      | error q =>
        have hq0 : q ≠ 0 := oneL_err HBO.out.1 HBO.out.2 ho
        have hqb : (q != 0) = true := by simpa using hq0
        have hce : cutL L S P B O b = .error q := by rw [hcut.out, cutL_err hrne ho]; rfl
        have HC := hid hce
        rw [ho] at HONE
        clear hq0 hce ho hrne
        go_wp2_with fail
        refine HONE.out.mono ?_
        rintro e w2 ⟨rfl, hb2⟩
        go_wp2
        go_ret2
        rw [HC.out]
        refine ⟨rfl, ?_⟩
        exact (below_more hBr.out hb2).alloc (below_more hBr.out hb2).size _
      | ok y =>
        obtain ⟨t, x, n⟩ := y
        obtain ⟨hn4, hnl, hxn⟩ := oneL_ok hL4 ho
        have hcn : cutL L S P B O b = after ((pre.map Thing.val) ++ [(t, x)]) (cutL L S P B O (r.drop n)) := by rw [hcut.out, cutL_ok hL4 hrne ho, after_after]
        have HC := hid hcn
        rw [ho] at HONE
        clear hcn ho hrne hcut
        go_wp2_with fail
        refine HONE.out.mono ?_
        rintro e w2 ⟨xa, xc, rfl, hx1, hx2, hx3, hx4, hb2⟩
        have hxok : Thing.ok w1.heap.size ⟨t, x, xa, xc⟩ w2 := ⟨hx1, hx2, hx3, hx4.imp id fun ⟨k, e, hk⟩ => ⟨k, e, by have := hR.out.bel.size; omega⟩⟩
        have hR2 := hid (hR.out.below hb2)
        have hXO := hid hxok
        clear hx1 hx2 hx3 hx4 hxok d0 d1 d2 d3 d4
        have hR3 := hid ((hR2.out.below (below_alloc w2 (.cells #[.int .i64 t, .slice xa x.length xc] 31))).below (below_alloc _ (.cells #[.int .i64 t, .slice xa x.length xc] 31)))
        have hX3 := hid ((hXO.out.below (below_alloc w2 (.cells #[.int .i64 t, .slice xa x.length xc] 31))).below (below_alloc _ (.cells #[.int .i64 t, .slice xa x.length xc] 31)))
        have hbd1 : pre.length + 1 ≤ 1000000000 := by omega
        go_upto_region 9 with (at_builtin; refine wp_app_many rfl (.tmp 26) (.tmp 28) rfl refItems_elem rfl hR3.out.own rfl [.int .i64 t, .slice xa x.length xc] rfl (built_news_at _ _ (by simp) _ _ _) (by simp [Value.oneCell']) (by omega) (by omega) ?_; intro v' w' hg; obtain ⟨va', vc', rfl⟩ := own_shape hg.own; have HG := hid hg; clear hg)
        obtain ⟨M, off, rfl⟩ := hHr.out.shape (by have := hHr.out.cap; omega)
        have hcap := hHr.out.cap
        have hmax := hHr.out.max
        have hR4 := hid (hR3.out.step hX3.out HG.out)
        have hnli : (n : Int) ≤ (r.length : Int) := by omega
        have hlci : (r.length : Int) ≤ (c' : Int) := by omega
        have hs1 : ((r.length : Int) - (n : Int)).toNat = r.length - n := by omega
        have hs2 : ((c' : Int) - (n : Int)).toNat = c' - n := by omega
        have hC2 : Hid (cutL L S P B O b = after ((pre ++ [(⟨t, x, xa, xc⟩ : Thing)]).map Thing.val) (cutL L S P B O (r.drop n))) := by
          show _ = _
          rw [HC.out, List.map_append]
          rfl
        by_cases hcn : c' = n
        · subst hcn
          have hd : r.drop c' = [] := List.drop_eq_nil_of_le (by omega)
          have hHn : Hid (Holds w1 (some ⟨M, off, none⟩) 0 (r.drop c')) := by
            rw [hd]
            exact ⟨by simp, by omega, Ints.nil _ _ _, (fun y hy => by simp at hy), fun h => by omega⟩
          have HD := hid hd
          clear hd
          go_wp2
          go_roundw
          case rel => exact ⟨r.drop c', some ⟨M, off, none⟩, 0, va', vc', pre ++ [⟨t, x, xa, xc⟩], by rw [HD.out]; simp <;> omega, by simp, by rw [HD.out]; simp <;> omega, hC2, hHn, hR4⟩
          case measure => simp [lenV]; omega
        · have hHn := hid (hHr.out.drop_le hnl hcn)
          go_wp2
          go_roundw
          case rel => exact ⟨r.drop n, some ⟨M, off + n, none⟩, c' - n, va', vc', pre ++ [⟨t, x, xa, xc⟩], by rw [List.length_drop], by simp, by rw [List.length_drop]; simp; omega, hC2, hHn, hR4⟩
          case measure => simp [lenV]; omega
end Go.Proofs.Ytfdkkcndadjcaaa
