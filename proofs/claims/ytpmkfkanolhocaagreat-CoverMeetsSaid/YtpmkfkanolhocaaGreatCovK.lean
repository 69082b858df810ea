/- Package cover: a value's mask, its name, its pattern. -/
import Derived.Test.YtpmkfkanolhocaaGreatCovJ
import Derived.Test.YtpmkfkanolhocaaGreatMrg8
import Derived.Deep.RegionWith
namespace Go.Proofs.YtpmkfkanolhocaaGreat
open Go.RowKit
set_option linter.unusedVariables false
set_option maxRecDepth 100000

/-- the first i of n numbers that are reckoned, 0 behind them -/
def upto11 (f : Nat → Int) (n i : Nat) : List Int := (List.range n).map fun j => if j < i then f j else 0
theorem upto_length (f : Nat → Int) (n i : Nat) : (upto11 f n i).length = n := by simp [upto11]
theorem upto_zero (f : Nat → Int) (n : Nat) : upto11 f n 0 = List.replicate n 0 := by
  apply List.ext_getElem
  · simp [upto11]
  · intro j h1 h2
    simp [upto11]
theorem upto_all (f : Nat → Int) (n : Nat) : upto11 f n n = (List.range n).map f := by
  unfold upto11
  refine List.map_congr_left fun j hj => ?_
  rw [if_pos (by simpa using hj)]
theorem upto_set (f : Nat → Int) {n i : Nat} (hi : i < n) : ((upto11 f n i).map (Value.int .u8)).set i (.int .u8 (f i)) = (upto11 f n (i + 1)).map (Value.int .u8) := by
  apply List.ext_getElem
  · simp [upto11]
  · intro j h1 h2
    simp only [upto11, List.getElem_set, List.getElem_map, List.getElem_range]
    by_cases hj : i = j
    · subst hj; simp
    · rw [if_neg hj]
      by_cases h : j < i
      · rw [if_pos h, if_pos (by omega)]
      · rw [if_neg h, if_neg (by omega)]
theorem mask_no {o : Ox9} (h : o.H = false) : mask11 o = upto11 (fun _ => 255) o.v.length o.v.length := by
  rw [upto_all]
  unfold mask11
  rw [h]
  apply List.ext_getElem
  · simp
  · intro j h1 h2; simp
theorem fresh_box {w w' : World} {p n c : Nat} {e : TypeId} {xs : List Value} (h : Fresh e w w' (.slice (some ⟨p, 0, none⟩) n c) xs) : BoxL w' p xs := by
  rcases h.own.2 with ⟨h0, _⟩ | ⟨g, cap, cur, hv, _, hg, hnc, hcm, hcs, htake⟩
  · simp at h0
  · simp at hv
    obtain ⟨rfl, _, rfl⟩ := hv
    refine ⟨fun i x hx => ?_, fun o => by simp [World.frozen?, hg], (Array.getElem?_eq_some_iff.1 hg).1⟩
    have hi : i < xs.length := (List.getElem?_eq_some_iff.1 hx).1
    have : (cur.toList.take (xs.length * 1))[i]? = xs[i]? := by rw [htake]
    rw [List.getElem?_take, if_pos (by omega), hx] at this
    rw [cell_of_row w' p i cur e (0, 0) hg, ← Array.getElem?_toList, this]
theorem box_ints {w : World} {p : Nat} {l : List Int} (h : BoxL w p (l.map (Value.int .u8))) : Ints .u8 w (some ⟨p, 0, none⟩) l := by
  intro i hi
  refine ⟨p, 0, rfl, ?_⟩
  have := h.cell i (.int .u8 l[i]) (by rw [List.getElem?_map, List.getElem?_eq_getElem hi]; rfl)
  simpa [List.getD, List.getElem?_eq_getElem hi] using this
/-- a mask in new memory -/
def MaskPost (o : Ox9) (w : World) (e : Ending) (w' : World) : Prop :=
  ∃ p, e = .returned (.slice (some ⟨p, 0, none⟩) o.v.length o.v.length) ∧ Ints .u8 w' (some ⟨p, 0, none⟩) (mask11 o) ∧ Below w.heap.size w w' ∧ w.heap.size ≤ p
set_option maxHeartbeats 2000000 in
theorem maskOf_any (h : Ent9) (w : World) (hI : EntIn w h) (ho : OkV h.o) (hs : h.o.v.length ≤ 1000) :
    Calls Tryz.prog 61 #[h.val] w (MaskPost h.o w) := by
  obtain ⟨⟨C, F, H, X, v, m⟩, va, vc, ma, mc⟩ := h
  have hml := ho.ml
  have hi := hI.im
  simp only at hs hi
  unfold Ent9.val
  simp only
  cases H
  · obtain ⟨W, hW, hbW, hx⟩ := oxm_box w C F false X va v.length vc ma m.length mc
    have HW := hid hW
    obtain ⟨d0, d1, d2, d3, d4, d5⟩ := hx.six
    have HB := hid hbW
    have HX := hid hx
    have HM := hid (mask_no (o := ⟨C, F, false, X, v, m⟩) rfl)
    clear hW hx hml ho hi hI
    go_enter Tryz.func61, Tryz.ntmps61
    go_upto_region 1 with fail
    rw [HW.out]
    go_wp2_with (first | (at_make; refine wp_make rfl _ _ rfl elemU8 rfl rfl rfl rfl (Nat.le_refl _) (by omega) (by omega) ?_; intro w1 hf; obtain ⟨e0, e1, e2, e3, e4, e5⟩ := (HX.out.below hf.bel).six) | fail)
    have hbx := fresh_box hf
    have hb1 := hf.bel
    have HF := hid hf
    clear d0 d1 d2 d3 d4 d5 hf
    go_loopg [18] (v.length) (fun kx s18 wr => ∃ i : Nat, s18 = .int .i64 i ∧ i ≤ v.length ∧ v.length - i ≤ kx ∧ Hid (BoxL wr W.heap.size ((upto11 (fun _ => 255) v.length i).map (Value.int .u8))) ∧ Hid (Below W.heap.size W wr))
    case atStart => exact ⟨0, rfl, by omega, by omega, (by show BoxL _ _ _; rw [upto_zero]; simpa using hbx), hb1⟩
    case round =>
      obtain ⟨i, rfl, hi, hkx, hB, hb⟩ := hrel
      by_cases hlt : i < v.length
      · have hltz : (i : Int) < (v.length : Int) := by omega
        have y0 := hB.out.cell i (.int .u8 ((upto11 (fun _ => 255) v.length i)[i]'(by rw [upto_length]; exact hlt))) (by rw [List.getElem?_map, List.getElem?_eq_getElem (by rw [upto_length]; exact hlt)]; rfl)
        have y1 := hB.out.free
        generalize (upto11 (fun _ => 255) v.length i)[i]'(by rw [upto_length]; exact hlt) = q at y0
        clear e0 e1 e2 e3 e4 e5
        go_wp2_with fail
        go_roundg (v.length - (i + 1))
        case measure => omega
        case rel =>
          refine ⟨i + 1, by first | rfl | go_num, by omega, Nat.le_refl _, ?_, hb.out.setCell (Nat.le_refl _) _⟩
          show BoxL _ _ _
          rw [← upto_set _ hlt]
          exact hB.out.set i _ (by rw [List.length_map, upto_length]; exact hlt)
      · have hltz : ¬ (i : Int) < (v.length : Int) := by omega
        obtain rfl : i = v.length := by omega
        clear e0 e1 e2 e3 e4 e5
        go_wp2_with fail
        go_ret
        refine ⟨W.heap.size, rfl, ?_, below_on HB.out hb.out, HB.out.size⟩
        rw [HM.out]
        exact box_ints hB.out
  · have hmv : m.length = v.length := by simpa [mask11] using hml
    have hmv2 : ∀ mv, m.length = mv → v.length = mv := fun _ e => hmv.symm.trans e
    obtain ⟨W, hW, hbW, hx⟩ := oxm_box w C F true X va v.length vc ma v.length mc
    have HW := hid hW
    have HMV := hid hmv
    obtain ⟨d0, d1, d2, d3, d4, d5⟩ := hx.six
    have HB := hid hbW
    have HX := hid hx
    have IM := hid (hi.below hbW)
    rw [hmv]
    clear hW hx hml ho hi hI hmv hmv2
    go_enter Tryz.func61, Tryz.ntmps61
    go_upto_region 1 with fail
    rw [HW.out]
    go_wp2_with (first | (at_make; refine wp_make rfl _ _ rfl elemU8 rfl rfl rfl rfl (Nat.le_refl _) (by omega) (by omega) ?_; intro w1 hf; obtain ⟨e0, e1, e2, e3, e4, e5⟩ := (HX.out.below hf.bel).six) | (with_reducible refine wp_copy_all rfl (.tmp 11) (.tmp 13) rfl elemU8 rfl rfl (List.length_replicate ..) hf HMV.out (IM.out.below hf.bel) ?_; intro w2 hf2))
    go_ret
    refine ⟨W.heap.size, rfl, ?_, below_on HB.out hf2.bel, HB.out.size⟩
    exact fresh_ints8 hf2

/-- a value's pattern -/
def PatV (w : World) (x : Value) (o : Ox9) : Prop :=
  ∃ va vc pa pc, x = .agg #[.bool o.H, .slice va o.v.length vc, .slice pa o.v.length pc] ∧ Ints .u8 w va o.v ∧ Ints .u8 w pa (mask11 o)
theorem PatV.below {w w' : World} {x : Value} {o : Ox9} (h : PatV w x o) (hb : Below w.heap.size w w') : PatV w' x o := by
  obtain ⟨va, vc, pa, pc, e, h1, h2⟩ := h
  exact ⟨va, vc, pa, pc, e, h1.below hb, h2.below hb⟩
theorem box_any (w : World) (l : List Value) (t : TypeId) : ∃ W, w.alloc (.cells l.toArray t) = W ∧ Below w.heap.size w W ∧ BoxL W w.heap.size l ∧ W.heap.size = w.heap.size + 1 :=
  ⟨_, rfl, below_alloc _ _, BoxL.new _ _ _, World.size_alloc ..⟩
set_option maxHeartbeats 2000000 in
theorem nameOf_any (h : Ent9) (w : World) :
    Calls Tryz.prog 53 #[h.val] w fun e w' => e = .returned (nameV h.o.C h.o.F h.o.X) ∧ Below w.heap.size w w' := by
  obtain ⟨⟨C, F, H, X, v, m⟩, va, vc, ma, mc⟩ := h
  unfold Ent9.val nameV
  simp only
  go_enter Tryz.func53, Tryz.ntmps53
  go_wp2
  exact bodyPost_ret (v := .agg #[.int .i64 C, .int .i64 F, .int .u64 X]) (by simp [results, Tryz.results53, go_sem]) rfl ⟨rfl, below_on (below_alloc _ _) (below_alloc _ _)⟩
set_option maxHeartbeats 2000000 in
theorem patternOf_any (h : Ent9) (w : World) (hI : EntIn w h) (ho : OkV h.o) (hs : h.o.v.length ≤ 1000) :
    Calls Tryz.prog 54 #[h.val] w fun e w' => ∃ x, e = .returned x ∧ PatV w' x h.o ∧ Below w.heap.size w w' ∧ ∃ va vc pa pc, x = .agg #[.bool h.o.H, .slice va h.o.v.length vc, .slice pa h.o.v.length pc] := by
  have HM := hid (fun W' (h' : EntIn W' h) => maskOf_any h W' h' ho hs)
  have HI := hid hI
  obtain ⟨⟨C, F, H, X, v, m⟩, va, vc, ma, mc⟩ := h
  unfold Ent9.val at HM ⊢
  simp only at HM ⊢
  obtain ⟨W, hW, hbW, hx⟩ := oxm_box w C F H X va v.length vc ma m.length mc
  obtain ⟨W2, hW2, hbW2, hx2, hs2⟩ := box_any W [.bool false, .slice none 0 0, .slice none 0 0] 43
  have HW := hid hW
  have HW2 := hid hW2
  have hs1 : W.heap.size = w.heap.size + 1 := by rw [← hW]; simp
  have hxA := hx.below hbW2
  rw [hs1] at hx2
  have hxD := hxA.below (below_drew8 W2)
  have hrD := hx2.below (below_drew8 W2)
  obtain ⟨d0, d1, d2, d3, d4, d5⟩ := hxD.six
  have r0 := hrD.free
  have HID := hid ((hI.below (below_on hbW hbW2)).below (below_drew8 W2))
  have HB := hid (below_on (below_on hbW hbW2) (below_drew8 W2))
  have HXD := hid hxD
  have HRD := hid hrD
  have hlt2 : w.heap.size + 1 < W2.heap.size := hx2.lt
  clear hW hW2 hx hxA hx2 hbW hbW2 hI ho hs hxD hrD
  go_enter Tryz.func54, Tryz.ntmps54
  go_wp2_with fail
  rw [HW.out, HW2.out]
  go_region_with (first
    | (go_at_call 61; (with_reducible refine (HM.out _ HID.out).mono ?_); (rintro e w5 ⟨p, rfl, hm5, hb5, hp5⟩; obtain ⟨e0, e1, e2, e3, e4, e5⟩ := (HXD.out.below hb5).six; have z5 := (HRD.out.below hb5).free; obtain ⟨q0, q1, q2⟩ := (HRD.out.below hb5).three))
    | fail)
  all_goals
    have hb := (((HRD.out.below hb5).set 0 (.bool H) (by simp)).set 1 (.slice va v.length vc) (by simp)).set 2 (.slice (some ⟨p, 0, none⟩) v.length v.length) (by simp)
    obtain ⟨k0, k1, k2⟩ := hb.three
    have hp6 : W2.heap.size ≤ p := hp5
    have HP := hid (And.intro hm5 (And.intro hb5 hp6))
    clear d0 d1 d2 d3 d4 d5 r0 e0 e1 e2 e3 e4 e5 z5 q0 q1 q2 hm5 hb5 hp5 hb
    go_wp2_with fail
    have hBel : Below w.heap.size w (((w5.setCell ⟨w.heap.size + 1, 0, none⟩ (.bool H)).setCell ⟨w.heap.size + 1, 1, none⟩ (.slice va v.length vc)).setCell ⟨w.heap.size + 1, 2, none⟩ (.slice (some ⟨p, 0, none⟩) v.length v.length)) := by
      repeat (with_reducible refine Below.setCell ?_ (by simp) _)
      exact below_on HB.out HP.out.2.1
    have hne : ∀ q : Addr, some (⟨p, 0, none⟩ : Addr) = some q → q.block ≠ w.heap.size + 1 := by
      intro q e
      cases e
      show p ≠ _
      omega
    exact bodyPost_ret (v := .agg #[.bool H, .slice va v.length vc, .slice (some ⟨p, 0, none⟩) v.length v.length]) (by simp [results, Tryz.results54, go_sem, k0, k1, k2]) rfl
      ⟨_, rfl, ⟨va, vc, some ⟨p, 0, none⟩, v.length, rfl, HI.out.iv.below hBel, ((HP.out.1.apart _ hne).apart _ hne).apart _ hne⟩, hBel, va, vc, some ⟨p, 0, none⟩, v.length, rfl⟩
end Go.Proofs.YtpmkfkanolhocaaGreat
