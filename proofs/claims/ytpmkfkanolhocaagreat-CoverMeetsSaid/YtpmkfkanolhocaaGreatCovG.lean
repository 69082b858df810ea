/- Layer 11, pure: what follows of lists that meet. -/
import Derived.Test.YtpmkfkanolhocaaGreatCovF
namespace Go.Proofs.YtpmkfkanolhocaaGreat
open Go.RowKit
set_option linter.unusedVariables false
set_option maxRecDepth 100000

theorem or_comm (p q : Int) : bits BinOp.or IntKind.u8 p q = bits BinOp.or IntKind.u8 q p := by rw [bits_or, bits_or, BitVec.or_comm]
theorem orL_comm (a b : List Int) (n : Nat) : orL a b n = orL b a n := by unfold orL; simp only [or_comm]
theorem both_comm {o y : Ox9} (hal : alike9 o y = true) (hl : o.v.length = y.v.length) : both11 o y = both11 y o := by
  obtain ⟨h1, h2, h3⟩ := (alike_iff9 o y).1 hal
  have hf : full11 o y = full11 y o := by unfold full11; rw [orL_comm, hl, alike_nb hal hl]
  unfold both11
  rw [hf, h1, h2, h3, hl, orL_comm o.v, orL_comm (mask11 o), Bool.and_comm o.H y.H]
/-- two lists in order that have the same values, no two of one field, are one -/
theorem sorted_one {l m : List Ox9} (hl : Sorted9 l) (hm : Sorted9 m) (ol : l.Pairwise (fun a b => alike9 a b = false)) (om : m.Pairwise (fun a b => alike9 a b = false)) (h : ∀ z, z ∈ l ↔ z ∈ m) : l = m := by
  induction l generalizing m with
  | nil =>
    cases m with
    | nil => rfl
    | cons y r => exact absurd ((h y).2 (by simp)) (by simp)
  | cons x r ih =>
    cases m with
    | nil => exact absurd ((h x).1 (by simp)) (by simp)
    | cons y s =>
      have px := List.pairwise_cons.1 hl
      have py := List.pairwise_cons.1 hm
      have qx := List.pairwise_cons.1 ol
      have qy := List.pairwise_cons.1 om
      have exy : x = y := by
        rcases List.mem_cons.1 ((h x).1 (by simp)) with e | hx
        · exact e
        · rcases List.mem_cons.1 ((h y).2 (by simp)) with e | hy
          · exact e.symm
          · have h1 := py.1 x hx
            have h2 := px.1 y hy
            rw [before_not] at h1 h2
            have hal : alike9 x y = true := by
              rw [alike_iff9]
              omega
            rw [qx.1 y hy] at hal; cases hal
      subst exy
      congr 1
      refine ih px.2 py.2 qx.2 qy.2 fun z => ?_
      have hz := h z
      simp only [List.mem_cons] at hz
      constructor
      · intro hzr
        rcases hz.1 (.inr hzr) with e | e
        · subst e; have := qx.1 z hzr; rw [alike_refl9] at this; cases this
        · exact e
      · intro hzs
        rcases hz.2 (.inr hzs) with e | e
        · subst e; have := qy.1 z hzs; rw [alike_refl9] at this; cases this
        · exact e
theorem out_half {a b : List Ox9} (ha : OkL a) (hb : OkL b) (hc : apart11 a b = false) {z : Ox9} (h : z ∈ out11 a b) : z ∈ out11 b a := by
  have hcl := apart_iff.1 hc
  rcases mem_out.1 h with ⟨o, ho, rfl⟩ | ⟨hzb, hno⟩
  · rcases mrg_ways hb.once o with ⟨hn, e⟩ | ⟨y, hy, hal, e⟩
    · rw [e]
      exact mem_out.2 (.inr ⟨ho, fun y hy => by rw [alike_symm9]; exact hn y hy⟩)
    · have hl := ((clash_iff (ha.ok o ho) (hb.ok y hy) hal).1 (hcl o ho y hy)).1
      rw [e, both_comm hal hl]
      exact mem_out.2 (.inl ⟨y, hy, mrg_one ha.once ho (by rw [alike_symm9]; exact hal)⟩)
  · refine mem_out.2 (.inl ⟨z, hzb, mrg_none fun x hx => ?_⟩)
    rw [alike_symm9]; exact hno x hx
theorem apart_symm {a b : List Ox9} (ha : OkL a) (hb : OkL b) : apart11 a b = apart11 b a := by
  have key : apart11 a b = false ↔ apart11 b a = false := by
    rw [apart_iff, apart_iff]
    constructor
    · intro h y hy x hx; rw [clash_symm (hb.ok y hy) (ha.ok x hx)]; exact h x hx y hy
    · intro h x hx y hy; rw [clash_symm (ha.ok x hx) (hb.ok y hy)]; exact h y hy x hx
  cases h1 : apart11 a b <;> cases h2 : apart11 b a <;> first | rfl | (rw [h1, h2] at key; simp at key)
theorem sort_symm {a b : List Ox9} (ha : OkL a) (hb : OkL b) (hc : apart11 a b = false) : sort9 (out11 a b) = sort9 (out11 b a) := by
  have hc2 : apart11 b a = false := by rw [← apart_symm ha hb]; exact hc
  refine sorted_one (sort_sorted _) (sort_sorted _) (sort_once (out_once ha.once hb.once)) (sort_once (out_once hb.once ha.once)) fun z => ?_
  rw [mem_sort, mem_sort]
  exact ⟨out_half ha hb hc, out_half hb ha hc2⟩
theorem meet_symm {a b : List Ox9} (ha : OkL a) (hb : OkL b) : meet11 a b = meet11 b a := by
  unfold meet11
  have e : meetOk a b = meetOk b a := by
    unfold meetOk
    cases hc : apart11 a b
    · have hc2 : apart11 b a = false := by rw [← apart_symm ha hb]; exact hc
      rw [hc2, sort_symm ha hb hc, Bool.and_comm (rightL a)]
    · have hc2 : apart11 b a = true := by rw [← apart_symm ha hb]; exact hc
      rw [hc2]; simp
  rw [← e]
  split
  · rename_i h
    have hc : apart11 a b = false := by unfold meetOk at h; simp only [Bool.and_eq_true, Bool.not_eq_true'] at h; exact h.1.2
    rw [sort_symm ha hb hc]
  · rfl
/-- put together with one that it is within, a value stays -/
theorem both_same {o y : Ox9} (ho : OkV o) (hy : OkV y) (h : over11 o y = true) : both11 o y = o := by
  obtain ⟨hal, hl, hk⟩ := (over_iff ho hy).1 h
  have hv : orL o.v y.v o.v.length = o.v := by
    refine bits_eq (n := o.v.length) (orL_length _ _ _) rfl (orL_oct _ _ _) ho.ov fun k hk8 => ?_
    rw [orL_bit rfl hl.symm ho.ov hy.ov hk8]
    show (vb o k || vb y k) = vb o k
    cases hvy : vb y k
    · simp
    · rw [(hk k hk8 (hy.inside (by omega) hvy)).2, hvy]; rfl
  have hm : orL (mask11 o) (mask11 y) o.v.length = mask11 o := by
    refine bits_eq (n := o.v.length) (orL_length _ _ _) ho.ml (orL_oct _ _ _) ho.mo fun k hk8 => ?_
    rw [orL_bit ho.ml (by rw [hy.ml, hl]) ho.mo hy.mo hk8]
    show (mb o k || mb y k) = mb o k
    cases hmy : mb y k
    · simp
    · rw [(hk k hk8 hmy).1]; rfl
  have hH : (o.H && y.H && !full11 o y) = o.H := by
    cases h1 : o.H
    · simp
    · have e : mask11 o = o.m := by unfold mask11; rw [h1]; rfl
      have hf : full11 o y = false := by unfold full11; rw [hm, e]; exact ho.some h1
      cases h2 : y.H
      · have hone : onesB o.m (nbits11 o) = true := by
          unfold onesB
          rw [List.all_eq_true]
          intro k hkr
          have hkn : k < nbits11 o := by simpa using hkr
          have hk8 : k < 8 * o.v.length := by have := ho.nb; omega
          have := (hk k hk8 (mb_none h2 (by omega))).1
          unfold mb bit11 at this
          rw [e] at this
          exact this
        rw [ho.some h1] at hone; cases hone
      · rw [hf]; rfl
  have hmm : (if (o.H && y.H && !full11 o y) = true then orL (mask11 o) (mask11 y) o.v.length else []) = o.m := by
    rw [hH, hm]
    cases h1 : o.H
    · rw [if_neg (by simp)]; exact (ho.none h1).symm
    · rw [if_pos rfl]; unfold mask11; rw [h1]; rfl
  unfold both11
  rw [hmm, hH, hv]
theorem over_alike_eq {a : List Ox9} (ha : OkL a) {o x y : Ox9} (ho : o ∈ a) (hx : x ∈ a) (hy : alike9 o y = true) (h : over11 x y = true) : x = o := by
  have hxy : alike9 x y = true := by unfold over11 at h; rw [Bool.and_eq_true] at h; exact h.1
  exact once_eq ha.once hx ho (alike_trans9 hxy (by rw [alike_symm9]; exact hy))
/-- what is within another list meets it in itself -/
theorem out_within {a b : List Ox9} (ha : OkL a) (hb : OkL b) (h : within11 a b = true) : out11 a b = a ∧ apart11 a b = false := by
  have hw := within_iff.1 h
  constructor
  · unfold out11
    have h1 : a.map (mrg11 b) = a := by
      have : ∀ o ∈ a, mrg11 b o = o := by
        intro o ho
        rcases mrg_ways hb.once o with ⟨_, e⟩ | ⟨y, hy, hal, e⟩
        · exact e
        · obtain ⟨x, hx, hov⟩ := hw y hy
          have := over_alike_eq ha ho hx hal hov
          subst this
          rw [e]; exact both_same (ha.ok x hx) (hb.ok y hy) hov
      exact (List.map_congr_left this).trans (List.map_id _)
    have h2 : rest11 a b = [] := by
      rw [List.eq_nil_iff_forall_not_mem]
      intro y hy
      obtain ⟨hyb, hno⟩ := mem_rest.1 hy
      obtain ⟨x, hx, hov⟩ := hw y hyb
      have hxy : alike9 x y = true := by unfold over11 at hov; rw [Bool.and_eq_true] at hov; exact hov.1
      rw [hno x hx] at hxy; cases hxy
    rw [h1, h2, List.append_nil]
  · rw [apart_iff]
    intro o ho y hy
    cases hal : alike9 o y
    · unfold clash11; rw [hal]; rfl
    · obtain ⟨x, hx, hov⟩ := hw y hy
      have := over_alike_eq ha ho hx hal hov
      subst this
      obtain ⟨_, hl, hk⟩ := (over_iff (ha.ok x hx) (hb.ok y hy)).1 hov
      exact (clash_iff (ha.ok x hx) (hb.ok y hy) hal).2 ⟨hl, fun k hk8 _ hm => (hk k hk8 hm).2⟩
theorem within_self {a : List Ox9} (ha : OkL a) : within11 a a = true := within_iff.2 fun y hy => ⟨y, hy, over_refl (ha.ok y hy)⟩
theorem within_nil (a : List Ox9) : within11 a [] = true := rfl
theorem within_trans {a b c : List Ox9} (ha : OkL a) (hb : OkL b) (hc : OkL c) (h : within11 a b = true) (k : within11 b c = true) : within11 a c = true := by
  rw [within_iff] at *
  intro z hz
  obtain ⟨y, hy, h1⟩ := k z hz
  obtain ⟨x, hx, h2⟩ := h y hy
  exact ⟨x, hx, over_trans (ha.ok x hx) (hb.ok y hy) (hc.ok z hz) h2 h1⟩
theorem body_perm {l m : List Ox9} (h : l.Perm m) : (body10 l).length = (body10 m).length := by
  unfold body10
  rw [List.length_flatMap, List.length_flatMap]
  exact (h.map _).sum_nat
theorem sort_right {l : List Ox9} (h : rightL l = true) : rightL (sort9 l) = true := by
  unfold rightL at *
  rw [Bool.and_eq_true, decide_eq_true_iff] at *
  obtain ⟨ha, hc⟩ := is_all h.1
  refine ⟨?_, ?_⟩
  · unfold isMatch10
    have h1 : (sort9 l).all right10 = true := List.all_eq_true.2 fun z hz => List.all_eq_true.1 ha z (mem_sort.1 hz)
    rw [h1, check_sorted hc]; rfl
  · unfold len10; rw [body_perm (sort_perm l)]; exact h.2
/-- the list meets itself in its order; and so does one that it is within -/
theorem meet_own {a b : List Ox9} (ha : OkL a) (hb : OkL b) (ra : rightL a = true) (rb : rightL b = true) (h : within11 a b = true) : meet11 a b = (sort9 a, true) := by
  obtain ⟨h1, h2⟩ := out_within ha hb h
  unfold meet11
  have e : meetOk a b = true := by unfold meetOk; rw [ra, rb, h1, h2, sort_right ra]; rfl
  rw [e, if_pos rfl, h1]
theorem apart_self {a : List Ox9} (ha : OkL a) : apart11 a a = false := (out_within ha ha (within_self ha)).2
/-- what is within takes nothing that the other one does not; what is apart takes nothing in common -/
theorem takes_within {a b p : List Ox9} (ha : OkL a) (hb : OkL b) (hp : OkL p) (h : within11 a b = true) (k : takes11 a p = true) : takes11 b p = true := by
  rw [takes_iff] at *
  intro y hy
  obtain ⟨x, hx, hov⟩ := within_iff.1 h y hy
  obtain ⟨z, hz, ht⟩ := k x hx
  exact ⟨z, hz, over_taken (ha.ok x hx) (hb.ok y hy) (hp.ok z hz) hov ht⟩
theorem takes_apart {a b p : List Ox9} (ha : OkL a) (hb : OkL b) (hp : OkL p) (h : takes11 a p = true) (k : takes11 b p = true) : apart11 a b = false := by
  rw [takes_iff] at h k
  rw [apart_iff]
  intro x hx y hy
  cases hal : alike9 x y
  · unfold clash11; rw [hal]; rfl
  · obtain ⟨z, hz, h1⟩ := h x hx
    obtain ⟨z', hz', h2⟩ := k y hy
    have e1 := ((taken_iff (ha.ok x hx) (hp.ok z hz)).1 h1).1
    have e2 := ((taken_iff (hb.ok y hy) (hp.ok z' hz')).1 h2).1
    have := once_eq hp.once hz hz' (alike_trans9 (alike_trans9 (by rw [alike_symm9]; exact e1) hal) e2)
    subst this
    exact clash_taken (ha.ok x hx) (hb.ok y hy) (hp.ok z hz) h1 h2
end Go.Proofs.YtpmkfkanolhocaaGreat
