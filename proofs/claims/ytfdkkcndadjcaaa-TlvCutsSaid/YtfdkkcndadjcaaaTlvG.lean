/- Package tlv: the iterator over the things that bytes are. -/
import Derived.Test.YtfdkkcndadjcaaaTlvF
import Derived.Test.YtfdkkcndadjcaaaRange
namespace Go.Proofs.Ytfdkkcndadjcaaa
open Go.RowKit
attribute [local go_sem] Oper.semAt_some

theorem Holds.drop {w : World} {M off c : Nat} {b : List Int} (h : Holds w (some ⟨M, off, none⟩) c b) {j : Nat} (hj : j < b.length) : Holds w (some ⟨M, off + j, none⟩) (c - j) (b.drop j) := by
  have h1 := h.cap
  have h2 := h.max
  have hI := h.ints.drop (j := j) h1
  rw [if_neg (by omega)] at hI
  exact ⟨by rw [List.length_drop]; omega, by omega, hI, h.oct.drop j, fun _ => ⟨M, off + j, rfl⟩⟩

/-- a thing that is to be told, in new memory -/
theorem new_thing (w : World) (u : TypeId) : Below w.heap.size w (w.alloc (.cells #[.int .i64 0, .slice none 0 0] u)).drew := ((Below.refl _ _).alloc (Nat.le_refl _) _).drew
theorem new_two (w : World) (u : TypeId) : Two (w.alloc (.cells #[.int .i64 0, .slice none 0 0] u)).drew w.heap.size (.int .i64 0) (.slice none 0 0) ∧ (w.alloc (.cells #[.int .i64 0, .slice none 0 0] u)).drew.heap.size = w.heap.size + 1 :=
  ⟨(Two.of_block (t := u) (_root_.Go.heap_alloc_new w _)).below (below_drew1 _), by simp⟩

/-- what the iterator reads: b's box, the shape's box, b's memory -/
def Reads (p s : Nat) (a : Option Addr) (b : List Int) (k : Nat) : Prop := k = p ∨ k = s ∨ (b ≠ [] ∧ ∃ q : Addr, a = some q ∧ k = q.block)

/-- the iterator's state between two rounds -/
structure Iter (L S : Nat) (P : Bool) (B O : Int) (b : List Int) (a : Option Addr) (c p s : Nat) (at_ : Nat) (pre : List Thing) (w : World) : Prop where
  le : at_ ≤ b.length
  few : pre.length ≤ at_
  cut : Hid (cutL L S P B O b = after (pre.map Thing.val) (cutL L S P B O (b.drop at_)))
  shape : ShAt w s L S P B O
  box : w.cell? ⟨p, 0, none⟩ = some (.slice a b.length c)
  holds : Holds w a c b
  hp : p < w.heap.size
  hs : s < w.heap.size

theorem Iter.below {L S : Nat} {P : Bool} {B O : Int} {b : List Int} {a : Option Addr} {c p s at_ : Nat} {pre : List Thing} {w w' : World} (h : Iter L S P B O b a c p s at_ pre w) (hb : Below w.heap.size w w') : Iter L S P B O b a c p s at_ pre w' :=
  ⟨h.le, h.few, h.cut, h.shape.below hb, cell_keep h.box hb, h.holds.below hb, Nat.lt_of_lt_of_le h.hp hb.size, Nat.lt_of_lt_of_le h.hs hb.size⟩
theorem Iter.kept {L S : Nat} {P : Bool} {B O : Int} {b : List Int} {a : Option Addr} {c p s at_ : Nat} {pre : List Thing} {w w' : World} (h : Iter L S P B O b a c p s at_ pre w) (hs : w.heap.size ≤ w'.heap.size) (hk : ∀ k, Reads p s a b k → k < w.heap.size → w'.heap[k]? = w.heap[k]?) : Iter L S P B O b a c p s at_ pre w' :=
  ⟨h.le, h.few, h.cut, h.shape.kept (hk s (.inr (.inl rfl)) h.hs), (World.cell?_of_block (a := ⟨p, 0, none⟩) (hk p (.inl rfl) h.hp)).trans h.box,
    ⟨h.holds.cap, h.holds.max, (by
      by_cases hb : b = []
      · subst hb; exact Ints.nil _ _ _
      · exact h.holds.ints.kept (fun q hq => hk q.block (.inr (.inr ⟨hb, q, hq, rfl⟩)) (h.holds.ints.lt hb hq))), h.holds.oct, h.holds.shape⟩, Nat.lt_of_lt_of_le h.hp hs, Nat.lt_of_lt_of_le h.hs hs⟩

theorem two_new (W : World) (v0 v1 : Value) (t : TypeId) : Two (W.alloc (.cells #[v0, v1] t)) W.heap.size v0 v1 := Two.of_block (t := t) (_root_.Go.heap_alloc_new W _)
theorem two_set {W : World} {X : Nat} {a b : Value} (h : Two W X a b) (v0 v1 : Value) : Two ((W.setCell ⟨X, 0, none⟩ v0).setCell ⟨X, 1, none⟩ v1) X v0 v1 := by
  obtain ⟨x0, x1, y0, y1⟩ := h
  have ne1 : (⟨X, 1, none⟩ : Addr) ≠ ⟨X, 0, none⟩ := by intro e; injection e with _ e2; exact absurd e2 (by decide)
  have ne2 : (⟨X, 0, none⟩ : Addr) ≠ ⟨X, 1, none⟩ := fun e => ne1 e.symm
  refine ⟨(World.cell?_setCell_other _ _ _ _ ne1).trans (World.cell?_setCell_same _ _ _ x0), World.cell?_setCell_same _ _ _ ((World.cell?_setCell_other _ _ _ _ ne2).trans x1), ?_, ?_⟩
  · exact ((World.frozen?_setCell _ _ _ _).trans (World.frozen?_setCell _ _ _ _)).trans y0
  · exact ((World.frozen?_setCell _ _ _ _).trans (World.frozen?_setCell _ _ _ _)).trans y1
theorem Ints.beside {k : IntKind} {w : World} {a : Option Addr} {l : List Int} (h : Ints k w a l) {X i : Nat} (v : Value) (hne : ∀ q : Addr, a = some q → q.block ≠ X) : Ints k (w.setCell ⟨X, i, none⟩ v) a l := by
  intro j hj
  obtain ⟨b, off, rfl, hc⟩ := h j hj
  exact ⟨b, off, rfl, (World.cell?_setCell_other _ _ _ _ (by intro e; injection e with e1; exact hne _ rfl e1.symm)).trans hc⟩

/-- a thing that has been told, in a block X -/
structure Told (B : Nat) (t : Int) (x : List Int) (X : Nat) (a : Option Addr) (c : Nat) (wr wx : World) : Prop where
  two : Two wx X (.int .i64 t) (.slice a x.length c)
  ok : Thing.ok B ⟨t, x, a, c⟩ wx
  bel : Below wr.heap.size wr wx

theorem told_late {B : Nat} {wr V w4 : World} {x : List Int} {a : Option Addr} {c : Nat} (t : Int) (T : TypeId) (hB : B ≤ wr.heap.size) (hV : Below wr.heap.size wr V)
    (h : x.length ≤ c ∧ c ≤ 9223372036854775807 ∧ Ints .u8 w4 a x ∧ (a = none ∨ ∃ k, a = some ⟨k, 0, none⟩ ∧ V.heap.size ≤ k) ∧ Below V.heap.size V w4) :
    Told B t x w4.heap.size a c wr (w4.alloc (.cells #[.int .i64 t, .slice a x.length c] T)) := by
  obtain ⟨h1, h2, h3, h4, h5⟩ := h
  refine ⟨two_new _ _ _ _, ⟨h1, h2, h3.below (below_alloc _ _), ?_⟩, (below_more hV h5).alloc (below_more hV h5).size _⟩
  rcases h4 with h4 | ⟨k, h4, hk⟩
  · exact .inl h4
  · exact .inr ⟨k, h4, by have := hV.size; omega⟩
theorem told_early {B X : Nat} {wr V w4 : World} {x : List Int} {a : Option Addr} {c : Nat} {u v : Value} (t : Int) (hB : B ≤ wr.heap.size) (hV : Below wr.heap.size wr V) (hX : wr.heap.size ≤ X) (hXV : X < V.heap.size) (h2 : Two w4 X u v)
    (h : x.length ≤ c ∧ c ≤ 9223372036854775807 ∧ Ints .u8 w4 a x ∧ (a = none ∨ ∃ k, a = some ⟨k, 0, none⟩ ∧ V.heap.size ≤ k) ∧ Below V.heap.size V w4) :
    Told B t x X a c wr ((w4.setCell ⟨X, 0, none⟩ (.int .i64 t)).setCell ⟨X, 1, none⟩ (.slice a x.length c)) := by
  obtain ⟨h1, h2', h3, h4, h5⟩ := h
  have hne : ∀ q : Addr, a = some q → q.block ≠ X := by
    intro q hq e
    rcases h4 with h4 | ⟨k, h4, hk⟩
    · rw [h4] at hq; cases hq
    · rw [h4] at hq; simp at hq; subst hq; simp at e; omega
  refine ⟨two_set h2 _ _, ⟨h1, h2', (h3.beside _ hne).beside _ hne, ?_⟩, ((below_more hV h5).setCell hX _).setCell hX _⟩
  rcases h4 with h4 | ⟨k, h4, hk⟩
  · exact .inl h4
  · exact .inr ⟨k, h4, by have := hV.size; omega⟩

theorem oneL_err {L S : Nat} {P : Bool} {B O : Int} (hB : B ≠ 0) (hO : O ≠ 0) {b : List Int} {q : Int} (h : oneL L S P B O b = .error q) : q ≠ 0 := by
  unfold oneL at h
  repeat (split at h; (first | (cases h; assumption) | skip))
  all_goals cases h

theorem Iter.step {L S : Nat} {P : Bool} {B O : Int} {b : List Int} {a : Option Addr} {c p s at_ : Nat} {pre : List Thing} {w : World} (h : Iter L S P B O b a c p s at_ pre w) (hL : 4 ≤ L) {t : Int} {x : List Int} {n : Nat} {a' : Option Addr} {c' : Nat}
    (ho : oneL L S P B O (b.drop at_) = .ok (t, x, n)) (hn0 : 4 ≤ n) (hlt : at_ < b.length) (hn : at_ + n ≤ b.length) : Iter L S P B O b a c p s (at_ + n) (pre ++ [⟨t, x, a', c'⟩]) w := by
  refine ⟨hn, by rw [List.length_append]; simp; have := h.few; omega, ?_, h.shape, h.box, h.holds, h.hp, h.hs⟩
  have h1 := cutL_ok (P := P) (B := B) (O := O) hL (b := b.drop at_) (by intro e; have := congrArg List.length e; rw [List.length_drop] at this; simp at this; omega) ho
  show cutL L S P B O b = _
  rw [h.cut.out, h1, after_after, List.drop_drop, List.map_append]
  rfl

set_option maxRecDepth 100000 in
set_option maxHeartbeats 4000000 in
theorem things_yields (w : World) (L S : Nat) (P : Bool) (B O : Int) (h : MayS L S B O) (b : List Int) (a : Option Addr) (c p s : Nat) (hI : Iter L S P B O b a c p s 0 [] w) (B0 : Nat) (hB0 : B0 ≤ w.heap.size) :
    Yields (α := Thing) Try.prog 35 #[.pointer (some ⟨p, 0, none⟩), .pointer (some ⟨s, 0, none⟩)] (fun x => #[x.v, .int .i64 0]) (fun q => #[.agg #[.int .i64 0, .slice none 0 0], .int .i64 q]) (Thing.ok B0) (Reads p s a b)
      (fun xs => cutL L S P B O b = .ok (xs.map Thing.val)) (fun _ q => cutL L S P B O b = .error q) b.length w := by
  intro l J Jx W hW hJ hgood hbad h0
  have HI0 := hid (Iter.below hI hW)
  have HJ0 := hid hJ
  have HG := hid hgood
  have HB := hid hbad
  clear hgood hbad hJ hI
  obtain ⟨m1, m2, m3, m4, m5, m6⟩ := h
  have h := And.intro m1 (And.intro m2 (And.intro m3 (And.intro m4 (And.intro m5 m6))))
  go_enter Try.func35, Try.ntmps35
  go_wp2
  go_loopw [4] (fun v wr => ∃ (at_ : Nat) (pre : List Thing), v = .int .i64 at_ ∧ Iter L S P B O b a c p s at_ pre wr ∧ J pre wr ∧ W.heap.size ≤ wr.heap.size) (fun v _ => b.length - (intOf v).toNat)
  case atStart => exact ⟨0, [], rfl, HI0.out, h0, Nat.le_refl _⟩
  case round =>
    obtain ⟨at_, pre, rfl, hi, hj, hsz⟩ := hrel
    have hle := hi.le
    have hcut := hi.cut
    have hcell := hi.box
    have hhm := hi.holds
    have hcap := hhm.cap
    have hmax := hhm.max
    rcases Nat.lt_or_ge at_ b.length with hlt | hge
    · obtain ⟨M, off, rfl⟩ := hhm.shape (by omega)
      have hne : ¬ c = at_ := by omega
      have hlti : (at_ : Int) < (b.length : Int) := by omega
      have hcapi : (b.length : Int) ≤ (c : Int) := by omega
      have hlei : (at_ : Int) ≤ (b.length : Int) := by omega
      have hs1 : ((b.length : Int) - (at_ : Int)).toNat = b.length - at_ := by omega
      have hs2 : ((c : Int) - (at_ : Int)).toNat = c - at_ := by omega
      have hd : (b.drop at_).length = b.length - at_ := List.length_drop
      have hbV := new_thing wr 28
      have HT := hid (new_two wr 28)
      have hbD := below_drew1 wr
      have HONE := hid (fun W (hW : Below wr.heap.size wr W) => one_any W L S P B O h (b.drop at_) _ _ ((hhm.drop hlt).below hW))
      rw [hd] at HONE
      have hsn : ¬ s = wr.heap.size := Nat.ne_of_lt hi.hs
      have hpn : ¬ p = wr.heap.size := Nat.ne_of_lt hi.hp
      have hsl := hi.hs
      have hpl := hi.hp
      obtain ⟨c0, c1, c2, c3, c4⟩ := hi.shape
      have HI := hid hi
      have HJ := hid hj
      clear hj
      cases ho : oneL L S P B O (b.drop at_) with
      | error q =>
        rw [ho] at HONE
        clear hi hhm
        go_upto_region 2 with fail
        go_cut [5, 6, 7] (fun t5 t6 t7 wx => ∃ X : Nat, t5 = .pointer (some ⟨X, 0, none⟩) ∧ t6 = .int .i64 0 ∧ t7 = .int .i64 q ∧ Two wx X (.int .i64 0) (.slice none 0 0) ∧ Below wr.heap.size wr wx)
        case first =>
          go_region_with ((go_at_call 7; refine (HONE.out _ ?_).mono ?_; (first | exact hbD | exact hbV); rintro e w4 ⟨rfl, hb4⟩; (try (have h2 := HT.out.1.below hb4; obtain ⟨x0, x1, y0, y1⟩ := h2))))
          all_goals
            go_wp2_with fail
            go_meet
            first
              | exact ⟨_, rfl, rfl, rfl, two_new _ _ _ _, (below_more hbD hb4).alloc (below_more hbD hb4).size _⟩
              | exact ⟨_, rfl, rfl, rfl, two_set ⟨x0, x1, y0, y1⟩ _ _, ((below_more hbV hb4).setCell (Nat.le_refl _) _).setCell (Nat.le_refl _) _⟩
        case rest =>
          obtain ⟨X, rfl, rfl, rfl, htwo, hbx⟩ := hcut
          have hq0 : q ≠ 0 := oneL_err m5 m6 ho
          have hcutq : cutL L S P B O b = .error q := by rw [HI.out.cut.out, cutL_err (by intro e; rw [e] at hd; simp at hd; omega) ho]; rfl
          obtain ⟨fn, tmps, assign, body, hy, hR⟩ := HB.out pre q wc (HJ0.out _ _ _ HJ.out hbx) hq0
          obtain ⟨x0, x1, y0, y1⟩ := htwo
          go_upto_region 3 with fail
          refine (wpIn_wide (n := 0)).1 ?_
          gi_wp2
          refine ⟨rfl, hR.mono ?_⟩
          rintro e W3 ⟨rfl, hJx⟩
          gi_wp2
          go_wp2
          refine bodyPost_ret (results_none rfl _ _ _) rfl ?_
          exact ⟨⟨_, rfl⟩, .inr ⟨pre, q, hcutq, hJx⟩⟩
      | ok r =>
        obtain ⟨t, x, n⟩ := r
        rw [ho] at HONE
        have hn := oneL_ok (by omega) ho
        rw [hd] at hn
        have hBr : B0 ≤ wr.heap.size := by have := hW.size; omega
        have HB0 := hid hBr
        clear hi hhm
        have HN := hid hn
        clear hn hBr
        go_upto_region 2 with fail
        go_cut [5, 6, 7] (fun t5 t6 t7 wx => ∃ (X : Nat) (a' : Option Addr) (c' : Nat), t5 = .pointer (some ⟨X, 0, none⟩) ∧ t6 = .int .i64 n ∧ t7 = .int .i64 0 ∧ Told B0 t x X a' c' wr wx)
        case first =>
          go_region_with ((go_at_call 7; refine (HONE.out _ ?_).mono ?_; (first | exact hbD | exact hbV); rintro e w4 ⟨a', c', rfl, hr⟩; have hb4 := hr.2.2.2.2; have HR := hid hr; clear hr; (try (have h2 := HT.out.1.below hb4; obtain ⟨x0, x1, y0, y1⟩ := h2))))
          all_goals
            go_wp2_with fail
            go_meet
            first
              | exact ⟨_, _, _, rfl, rfl, rfl, told_late t _ HB0.out hbD HR.out⟩
              | exact ⟨_, _, _, rfl, rfl, rfl, told_early t HB0.out hbV (Nat.le_refl _) (by rw [HT.out.2]; omega) ⟨x0, x1, y0, y1⟩ HR.out⟩
        case rest =>
          obtain ⟨X, a', c', rfl, rfl, rfl, htold⟩ := hcut
          obtain ⟨x0, x1, y0, y1⟩ := htold.two
          have hbx := htold.bel
          have hbxs := hbx.size
          obtain ⟨fn, tmps, assign, body, hy, hR⟩ := HG.out pre ⟨t, x, a', c'⟩ wc (HJ0.out _ _ _ HJ.out hbx) htold.ok (by have := HI.out.few; omega)
          have hy : (Instr.yield l #[.agg #[.int .i64 t, .slice a' x.length c'], .int .i64 0]).run Try.prog wc = .ok (.round l fn tmps assign body) wc := hy
          have HTO := hid htold
          clear htold
          go_upto_region 3 with fail
          refine (wpIn_wide (n := 0)).1 ?_
          gi_wp2
          refine ⟨rfl, hR.mono ?_⟩
          rintro e W3 ⟨rfl, hj3, hs3, hk3⟩
          have HK3 := hid hk3
          have HJ3 := hid hj3
          have hn1 := HN.out
          clear hk3 hj3 hR hy
          have hI3 := hid (Iter.kept (HI.out.below hbx) hs3 HK3.out)
          have hsum : (at_ : Int) + (n : Int) ≤ 9223372036854775807 := by omega
          gi_wp2
          go_wp2
          go_roundw
          case rel => exact ⟨at_ + n, pre ++ [⟨t, x, a', c'⟩], by go_num, hI3.out.step (by omega) ho (by omega) (by omega) (by omega), HJ3.out, by omega⟩
          case measure => simp [intOf]; omega
    · have hge' : (b.length : Int) ≤ (at_ : Int) := by omega
      have hdn : b.drop at_ = [] := List.drop_eq_nil_of_le hge
      go_wp2
      go_end0
      refine ⟨⟨_, rfl⟩, .inl ⟨pre, ?_, hj⟩⟩
      rw [hcut.out, hdn, cutL_nil]
      simp [after]
end Go.Proofs.Ytfdkkcndadjcaaa
