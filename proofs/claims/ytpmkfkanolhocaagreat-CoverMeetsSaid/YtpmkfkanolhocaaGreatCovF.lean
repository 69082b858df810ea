/- Layer 11, pure: lists of values that are held against one another; what two lists meet in. -/
import Derived.Test.YtpmkfkanolhocaaGreatCovE
namespace Go.Proofs.YtpmkfkanolhocaaGreat
open Go.RowKit
set_option linter.unusedVariables false
set_option maxRecDepth 100000

def takes11 (l p : List Ox9) : Bool := l.all fun o => p.any fun x => taken11 o x
def apart11 (a b : List Ox9) : Bool := a.any fun x => b.any fun y => clash11 x y
def within11 (a b : List Ox9) : Bool := b.all fun y => a.any fun x => over11 x y
def mrg11 (b : List Ox9) (o : Ox9) : Ox9 := b.foldl (fun o y => if alike9 o y = true then both11 o y else o) o
def rest11 (a b : List Ox9) : List Ox9 := b.filter fun y => !a.any fun x => alike9 x y
def out11 (a b : List Ox9) : List Ox9 := a.map (mrg11 b) ++ rest11 a b
def rightL (l : List Ox9) : Bool := isMatch10 l && decide (len10 l ≤ 65528)
def meetOk (a b : List Ox9) : Bool := rightL a && rightL b && !apart11 a b && rightL (sort9 (out11 a b))
def meet11 (a b : List Ox9) : List Ox9 × Bool := if meetOk a b = true then (sort9 (out11 a b), true) else ([], false)

/-- values that may be, no two of one field -/
structure OkL (l : List Ox9) : Prop where
  ok : ∀ o ∈ l, OkV o
  once : l.Pairwise (fun a b => alike9 a b = false)
theorem alike_fst {a b : Ox9} (h : alike9 a b = true) (c : Ox9) : alike9 a c = alike9 b c := by
  rw [Bool.eq_iff_iff]
  constructor
  · intro k; exact alike_trans9 (by rw [alike_symm9]; exact h) k
  · intro k; exact alike_trans9 h k
theorem once_eq {l : List Ox9} (h : l.Pairwise (fun a b => alike9 a b = false)) {x y : Ox9} (hx : x ∈ l) (hy : y ∈ l) (ha : alike9 x y = true) : x = y := by
  obtain ⟨i, hi, rfl⟩ := List.getElem_of_mem hx
  obtain ⟨j, hj, rfl⟩ := List.getElem_of_mem hy
  have hp := List.pairwise_iff_getElem.1 h
  rcases Nat.lt_trichotomy i j with c | c | c
  · rw [hp i j hi hj c] at ha; cases ha
  · subst c; rfl
  · have := hp j i hj hi c
    rw [alike_symm9, ha] at this; cases this
theorem match_once {l : List Ox9} (h : isMatch10 l = true) : l.Pairwise (fun a b => alike9 a b = false) := by
  obtain ⟨_, hc⟩ := is_all h
  have hg : Good9 [] l := chk_good.1 hc
  rw [List.pairwise_iff_getElem]
  intro i j hi hj hij
  have h1 := (hg j hj).1
  rw [List.nil_append] at h1
  unfold twice9 at h1
  rw [List.any_eq_false] at h1
  have hm : l[i] ∈ l.take j := by
    rw [List.mem_take_iff_getElem]
    exact ⟨i, by omega, rfl⟩
  simpa using h1 _ hm
theorem mrg_none {b : List Ox9} {o : Ox9} (h : ∀ y ∈ b, alike9 o y = false) : mrg11 b o = o := by
  unfold mrg11
  induction b with
  | nil => rfl
  | cons y r ih =>
    rw [List.foldl_cons, if_neg (by rw [h y (by simp)]; simp)]
    exact ih (fun z hz => h z (by simp [hz]))
theorem mrg_one {b : List Ox9} (hb : b.Pairwise (fun a b => alike9 a b = false)) {o y : Ox9} (hy : y ∈ b) (ha : alike9 o y = true) : mrg11 b o = both11 o y := by
  induction b with
  | nil => cases hy
  | cons z r ih =>
    have hp := List.pairwise_cons.1 hb
    have e : mrg11 (z :: r) o = mrg11 r (if alike9 o z = true then both11 o z else o) := rfl
    rw [e]
    rcases List.mem_cons.1 hy with rfl | hy
    · rw [if_pos ha]
      refine mrg_none fun w hw => ?_
      rw [alike_fst (both_alike o y) w, alike_fst ha w]
      exact hp.1 w hw
    · have hz : alike9 o z = false := by
        have h1 := hp.1 y hy
        cases h : alike9 o z
        · rfl
        · rw [← alike_fst h y, ha] at h1; cases h1
      rw [if_neg (by rw [hz]; simp)]
      exact ih hp.2 hy
theorem mrg_ways {b : List Ox9} (hb : b.Pairwise (fun a b => alike9 a b = false)) (o : Ox9) : ((∀ y ∈ b, alike9 o y = false) ∧ mrg11 b o = o) ∨ ∃ y ∈ b, alike9 o y = true ∧ mrg11 b o = both11 o y := by
  by_cases h : ∃ y ∈ b, alike9 o y = true
  · obtain ⟨y, hy, ha⟩ := h
    exact .inr ⟨y, hy, ha, mrg_one hb hy ha⟩
  · have hn : ∀ y ∈ b, alike9 o y = false := fun y hy => by
      cases e : alike9 o y
      · rfl
      · exact absurd ⟨y, hy, e⟩ h
    exact .inl ⟨hn, mrg_none hn⟩
theorem mrg_alike {b : List Ox9} (hb : b.Pairwise (fun a b => alike9 a b = false)) (o : Ox9) : alike9 (mrg11 b o) o = true := by
  rcases mrg_ways hb o with ⟨_, e⟩ | ⟨y, _, _, e⟩
  · rw [e]; exact alike_refl9 o
  · rw [e]; exact both_alike o y
theorem mem_rest {a b : List Ox9} {y : Ox9} : y ∈ rest11 a b ↔ y ∈ b ∧ ∀ x ∈ a, alike9 x y = false := by
  unfold rest11
  rw [List.mem_filter]
  simp only [Bool.not_eq_true', List.any_eq_false, Bool.not_eq_true]
theorem mem_out {a b : List Ox9} {z : Ox9} : z ∈ out11 a b ↔ (∃ o ∈ a, mrg11 b o = z) ∨ (z ∈ b ∧ ∀ x ∈ a, alike9 x z = false) := by
  unfold out11
  rw [List.mem_append, List.mem_map, mem_rest]
theorem mem_sort {l : List Ox9} {z : Ox9} : z ∈ sort9 l ↔ z ∈ l := (sort_perm l).mem_iff
theorem out_once {a b : List Ox9} (ha : a.Pairwise (fun a b => alike9 a b = false)) (hb : b.Pairwise (fun a b => alike9 a b = false)) : (out11 a b).Pairwise (fun a b => alike9 a b = false) := by
  unfold out11
  refine List.pairwise_append.2 ⟨?_, hb.filter _, ?_⟩
  · rw [List.pairwise_map]
    refine ha.imp ?_
    intro x y h
    rw [alike_fst (mrg_alike hb x), alike_symm9, alike_fst (mrg_alike hb y), alike_symm9]
    exact h
  · intro x hx y hy
    obtain ⟨o, ho, rfl⟩ := List.mem_map.1 hx
    rw [alike_fst (mrg_alike hb o)]
    exact (mem_rest.1 hy).2 o ho
theorem sort_once {l : List Ox9} (h : l.Pairwise (fun a b => alike9 a b = false)) : (sort9 l).Pairwise (fun a b => alike9 a b = false) :=
  ((sort_perm l).pairwise_iff (fun {x y} h => by rw [alike_symm9]; exact h)).2 h
theorem out_ok {a b : List Ox9} (ha : OkL a) (hb : OkL b) (hr : ∀ z ∈ out11 a b, right10 z = true) : ∀ z ∈ out11 a b, OkV z := by
  intro z hz
  have hz' := hz
  rcases mem_out.1 hz with ⟨o, ho, rfl⟩ | ⟨hzb, _⟩
  · rcases mrg_ways hb.once o with ⟨_, e⟩ | ⟨y, _, _, e⟩
    · rw [e]; exact ha.ok o ho
    · exact ⟨hr _ hz', by rw [e]; exact (both_oct o y).1, by rw [e]; exact (both_oct o y).2⟩
  · exact hb.ok z hzb
theorem takes_iff {l p : List Ox9} : takes11 l p = true ↔ ∀ o ∈ l, ∃ x ∈ p, taken11 o x = true := by
  unfold takes11; simp only [List.all_eq_true, List.any_eq_true]
theorem within_iff {a b : List Ox9} : within11 a b = true ↔ ∀ y ∈ b, ∃ x ∈ a, over11 x y = true := by
  unfold within11; simp only [List.all_eq_true, List.any_eq_true]
theorem apart_iff {a b : List Ox9} : apart11 a b = false ↔ ∀ x ∈ a, ∀ y ∈ b, clash11 x y = false := by
  unfold apart11; simp only [List.any_eq_false, Bool.not_eq_true]
/-- what meets takes just what both take -/
theorem meet_takes {a b p : List Ox9} (ha : OkL a) (hb : OkL b) (hp : OkL p) (hc : apart11 a b = false) (hz : ∀ z ∈ out11 a b, OkV z) : takes11 (sort9 (out11 a b)) p = (takes11 a p && takes11 b p) := by
  have hcl := apart_iff.1 hc
  rw [Bool.eq_iff_iff, Bool.and_eq_true, takes_iff, takes_iff, takes_iff]
  constructor
  · intro h
    constructor
    · intro o ho
      have hm : mrg11 b o ∈ out11 a b := mem_out.2 (.inl ⟨o, ho, rfl⟩)
      obtain ⟨x, hx, ht⟩ := h _ (mem_sort.2 hm)
      rcases mrg_ways hb.once o with ⟨_, e⟩ | ⟨y, hy, hal, e⟩
      · rw [e] at ht; exact ⟨x, hx, ht⟩
      · rw [e] at ht hm
        rw [both_taken (ha.ok o ho) (hb.ok y hy) (hp.ok x hx) (hz _ hm) hal (hcl o ho y hy), Bool.and_eq_true] at ht
        exact ⟨x, hx, ht.1⟩
    · intro y hy
      by_cases hex : ∃ o ∈ a, alike9 o y = true
      · obtain ⟨o, ho, hal⟩ := hex
        have e := mrg_one hb.once hy hal
        have hm : mrg11 b o ∈ out11 a b := mem_out.2 (.inl ⟨o, ho, rfl⟩)
        obtain ⟨x, hx, ht⟩ := h _ (mem_sort.2 hm)
        rw [e] at ht hm
        rw [both_taken (ha.ok o ho) (hb.ok y hy) (hp.ok x hx) (hz _ hm) hal (hcl o ho y hy), Bool.and_eq_true] at ht
        exact ⟨x, hx, ht.2⟩
      · refine h y (mem_sort.2 (mem_out.2 (.inr ⟨hy, fun x hx => ?_⟩)))
        cases e : alike9 x y
        · rfl
        · exact absurd ⟨x, hx, e⟩ hex
  · rintro ⟨h1, h2⟩ z hzs
    have hzo := mem_sort.1 hzs
    rcases mem_out.1 hzo with ⟨o, ho, rfl⟩ | ⟨hzb, _⟩
    · obtain ⟨x, hx, ht⟩ := h1 o ho
      rcases mrg_ways hb.once o with ⟨_, e⟩ | ⟨y, hy, hal, e⟩
      · rw [e]; exact ⟨x, hx, ht⟩
      · obtain ⟨x2, hx2, ht2⟩ := h2 y hy
        have e1 := ((taken_iff (ha.ok o ho) (hp.ok x hx)).1 ht).1
        have e2 := ((taken_iff (hb.ok y hy) (hp.ok x2 hx2)).1 ht2).1
        have e3 : alike9 x x2 = true := alike_trans9 (alike_trans9 (by rw [alike_symm9]; exact e1) hal) e2
        have e4 := once_eq hp.once hx hx2 e3
        subst e4
        refine ⟨x, hx, ?_⟩
        rw [e] at hzo ⊢
        rw [both_taken (ha.ok o ho) (hb.ok y hy) (hp.ok x hx) (hz _ hzo) hal (hcl o ho y hy), ht, ht2]
        rfl
    · exact h2 z hzb
/-- what meets is within both -/
theorem meet_within {a b : List Ox9} (ha : OkL a) (hb : OkL b) (hc : apart11 a b = false) (hz : ∀ z ∈ out11 a b, OkV z) : within11 (sort9 (out11 a b)) a = true ∧ within11 (sort9 (out11 a b)) b = true := by
  have hcl := apart_iff.1 hc
  constructor
  · rw [within_iff]
    intro o ho
    have hm : mrg11 b o ∈ out11 a b := mem_out.2 (.inl ⟨o, ho, rfl⟩)
    refine ⟨_, mem_sort.2 hm, ?_⟩
    rcases mrg_ways hb.once o with ⟨_, e⟩ | ⟨y, hy, hal, e⟩
    · rw [e]; exact over_refl (ha.ok o ho)
    · rw [e] at hm ⊢
      exact (both_over (ha.ok o ho) (hb.ok y hy) (hz _ hm) hal (hcl o ho y hy)).1
  · rw [within_iff]
    intro y hy
    by_cases hex : ∃ o ∈ a, alike9 o y = true
    · obtain ⟨o, ho, hal⟩ := hex
      have e := mrg_one hb.once hy hal
      have hm : mrg11 b o ∈ out11 a b := mem_out.2 (.inl ⟨o, ho, rfl⟩)
      refine ⟨_, mem_sort.2 hm, ?_⟩
      rw [e] at hm ⊢
      exact (both_over (ha.ok o ho) (hb.ok y hy) (hz _ hm) hal (hcl o ho y hy)).2
    · refine ⟨y, mem_sort.2 (mem_out.2 (.inr ⟨hy, fun x hx => ?_⟩)), over_refl (hb.ok y hy)⟩
      cases e : alike9 x y
      · rfl
      · exact absurd ⟨x, hx, e⟩ hex
end Go.Proofs.YtpmkfkanolhocaaGreat
