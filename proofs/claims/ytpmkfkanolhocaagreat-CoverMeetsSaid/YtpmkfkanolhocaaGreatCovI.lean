/- Layer 11, pure: what the program joins is what meets. -/
import Derived.Test.YtpmkfkanolhocaaGreatCovH
namespace Go.Proofs.YtpmkfkanolhocaaGreat
open Go.RowKit
set_option linter.unusedVariables false
set_option maxRecDepth 100000

theorem eqv_alike (a b : Ox9) : eqv before9 a b = alike9 a b := by
  rw [Bool.eq_iff_iff]
  unfold eqv
  rw [Bool.and_eq_true, Bool.not_eq_true', Bool.not_eq_true', before_not, before_not, alike_iff9]
  omega
theorem fil_alike (l : List Ox9) (z : Ox9) : (sort9 l).filter (alike9 z) = l.filter (alike9 z) := by
  have h := fil_sort l z
  have e : eqv before9 z = alike9 z := funext fun x => eqv_alike z x
  rw [e] at h
  exact h.symm
theorem fil_once {l : List Ox9} (h : l.Pairwise (fun a b => alike9 a b = false)) (z : Ox9) : l.filter (alike9 z) = [] ∨ ∃ x ∈ l, alike9 z x = true ∧ l.filter (alike9 z) = [x] := by
  have hp := h.filter (alike9 z)
  have hm : ∀ x ∈ l.filter (alike9 z), x ∈ l ∧ alike9 z x = true := fun x hx => ⟨(List.mem_filter.1 hx).1, (List.mem_filter.1 hx).2⟩
  cases hf : l.filter (alike9 z) with
  | nil => exact .inl rfl
  | cons x r =>
    rw [hf] at hp hm
    obtain ⟨h1, h2⟩ := hm x (by simp)
    cases r with
    | nil => exact .inr ⟨x, h1, h2, rfl⟩
    | cons y t =>
      have h3 := (hm y (by simp)).2
      have h4 := (List.pairwise_cons.1 hp).1 y (by simp)
      rw [← alike_fst h2, h3] at h4
      cases h4
theorem one_out {a b : List Ox9} (ha : a.Pairwise (fun a b => alike9 a b = false)) (hb : b.Pairwise (fun a b => alike9 a b = false)) {z : Ox9} (h : one11 (a.filter (alike9 z) ++ b.filter (alike9 z)) = some z) : z ∈ out11 a b := by
  rcases fil_once ha z with ea | ⟨x, hx, hzx, ea⟩ <;> rcases fil_once hb z with eb | ⟨y, hy, hzy, eb⟩
  · rw [ea, eb] at h; cases h
  · rw [ea, eb] at h
    obtain rfl : y = z := Option.some.inj h
    refine mem_out.2 (.inr ⟨hy, fun x hx => ?_⟩)
    rw [alike_symm9]
    simpa using (List.filter_eq_nil_iff.1 ea) x hx
  · rw [ea, eb] at h
    obtain rfl : x = z := Option.some.inj h
    refine mem_out.2 (.inl ⟨x, hx, mrg_none fun y hy => ?_⟩)
    simpa using (List.filter_eq_nil_iff.1 eb) y hy
  · rw [ea, eb] at h
    have e : both11 x y = z := Option.some.inj h
    refine mem_out.2 (.inl ⟨x, hx, ?_⟩)
    rw [← e]
    exact mrg_one hb hy (alike_trans9 (by rw [alike_symm9]; exact hzx) hzy)
/-- what is joined of two lists in order is what meets -/
theorem jl_out {a b : List Ox9} (ha : OkL a) (hb : OkL b) : jl (sort9 (a ++ b)) = sort9 (out11 a b) := by
  have hJ := jl_is (sort_sorted (a ++ b))
  have sub : ∀ z ∈ jl (sort9 (a ++ b)), z ∈ out11 a b := fun z hz => by
    have h := hJ.one z hz
    rw [fil_alike, List.filter_append] at h
    exact one_out ha.once hb.once h
  refine sorted_one ?_ (sort_sorted _) ?_ (sort_once (out_once ha.once hb.once)) fun z => ⟨fun hz => mem_sort.2 (sub z hz), fun hz => ?_⟩
  · exact hJ.up.imp fun h => before_asymm h
  · exact hJ.up.imp fun h => before_not_alike h
  · have hz' := mem_sort.1 hz
    have : ∃ x ∈ a ++ b, alike9 x z = true := by
      rcases mem_out.1 hz' with ⟨o, ho, rfl⟩ | ⟨hzb, _⟩
      · exact ⟨o, by simp [ho], by rw [alike_symm9]; exact mrg_alike hb.once o⟩
      · exact ⟨z, by simp [hzb], alike_refl9 z⟩
    obtain ⟨x, hx, hxz⟩ := this
    obtain ⟨y, hy, hyx⟩ := hJ.has x (mem_sort.2 hx)
    have e : y = z := once_eq (out_once ha.once hb.once) (sub y hy) hz' (alike_trans9 hyx hxz)
    rw [← e]; exact hy
/-- whatever is joined is one of each -/
theorem join_pair {a b : List Ox9} (ha : OkL a) (hb : OkL b) {p q : List Ox9} {o z : Ox9} (hs : sort9 (a ++ b) = p ++ o :: q) (hz : z ∈ jl p) (hal : alike9 z o = true) : z ∈ a ∧ o ∈ b := by
  have hso : Sorted9 (p ++ o :: q) := by rw [← hs]; exact sort_sorted _
  have hJ := jl_is (List.pairwise_append.1 hso).1
  have h1 := hJ.one z hz
  have hf : (p ++ o :: q).filter (alike9 z) = a.filter (alike9 z) ++ b.filter (alike9 z) := by rw [← hs, fil_alike, List.filter_append]
  rw [List.filter_append, List.filter_cons_of_pos hal] at hf
  cases hp : p.filter (alike9 z) with
  | nil => rw [hp] at h1; cases h1
  | cons x r =>
    rw [hp] at h1 hf
    have hlen := congrArg List.length hf
    rcases fil_once ha.once z with ea | ⟨x', hx', _, ea⟩ <;> rcases fil_once hb.once z with eb | ⟨y', hy', _, eb⟩
    · rw [ea, eb] at hlen; simp at hlen
    · rw [ea, eb] at hlen; simp at hlen
    · rw [ea, eb] at hlen; simp at hlen
    · rw [ea, eb] at hlen hf
      simp only [List.cons_append, List.length_cons, List.length_append, List.nil_append, List.length_nil] at hlen
      obtain rfl : r = [] := List.eq_nil_of_length_eq_zero (by omega)
      simp at hf
      have : x = z := Option.some.inj h1
      rw [← this, hf.1, hf.2.1]
      exact ⟨hx', hy'⟩
/-- so what is joined may be, and has as many bytes -/
theorem join_fit {a b : List Ox9} (ha : OkL a) (hb : OkL b) (hc : apart11 a b = false) {p q : List Ox9} {o z : Ox9} (hs : sort9 (a ++ b) = p ++ o :: q) (hz : (jl p).getLast? = some z) (hal : alike9 z o = true) : OkV z ∧ OkV o ∧ z.v.length = o.v.length := by
  obtain ⟨h1, h2⟩ := join_pair ha hb hs (List.mem_of_getLast? hz) hal
  have := apart_iff.1 hc z h1 o h2
  exact ⟨ha.ok z h1, hb.ok o h2, ((clash_iff (ha.ok z h1) (hb.ok o h2) hal).1 this).1⟩
theorem jl_len (s : List Ox9) : (jl s).length ≤ s.length := by
  induction hn : s.length generalizing s with
  | zero => obtain rfl := List.eq_nil_of_length_eq_zero hn; simp [jl]
  | succ n ih =>
    rcases List.eq_nil_or_concat s with rfl | ⟨p, o, rfl⟩
    · simp at hn
    · rw [List.concat_eq_append] at *
      have h := ih p (by simpa using hn)
      rw [jl_snoc]
      unfold jstep
      split
      · split
        · have : (jl p).length ≠ 0 := by
            intro e
            rename_i h0 _
            rw [List.eq_nil_of_length_eq_zero e] at h0; cases h0
          simp; omega
        · simp; omega
      · simp
end Go.Proofs.YtpmkfkanolhocaaGreat
