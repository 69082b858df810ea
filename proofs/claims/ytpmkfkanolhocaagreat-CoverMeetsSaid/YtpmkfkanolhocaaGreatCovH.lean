/- Layer 11, pure: taken, over and clash as the program asks for them, of values that are Alike. -/
import Derived.Test.YtpmkfkanolhocaaGreatCovG
namespace Go.Proofs.YtpmkfkanolhocaaGreat
open Go.RowKit
set_option linter.unusedVariables false
set_option maxRecDepth 100000

/-- do two that are Alike clash? -/
def clashP (a b : Ox9) : Bool := (a.v.length != b.v.length) || (List.range a.v.length).any fun i => clash1 (a.v.getD i 0) (b.v.getD i 0) ((mask11 a).getD i 0) ((mask11 b).getD i 0)
/-- has a mask a 1 wherever another one has? -/
def coversL (m n : List Int) : Bool := (List.range n.length).all fun i => sub1 (n.getD i 0) (m.getD i 0)
/-- x: the value of the list that was looked through; y: the one that is asked for -/
def hTake (x y : Ox9) : Bool := !x.H && !clashP y x
def hOver (x y : Ox9) : Bool := !clashP x y && coversL (mask11 x) (mask11 y)
/-- has a list one that is Alike, and holds? -/
def find11 (hp : Ox9 → Ox9 → Bool) (l : List Ox9) (o : Ox9) : Bool := l.any fun x => alike9 x o && hp x o
theorem clash_is (a b : Ox9) : clash11 a b = (alike9 a b && clashP a b) := rfl
theorem clashP_iff {a b : Ox9} (ha : OkV a) (hb : OkV b) (hal : alike9 a b = true) : clashP a b = false ↔ a.v.length = b.v.length ∧ ∀ k, k < 8 * a.v.length → mb a k = true → mb b k = true → vb a k = vb b k := by
  rw [← clash_iff ha hb hal, clash_is, hal, Bool.true_and]
theorem covers_iff {x y : Ox9} (hx : OkV x) (hy : OkV y) (hl : x.v.length = y.v.length) : coversL (mask11 x) (mask11 y) = true ↔ ∀ k, k < 8 * x.v.length → mb y k = true → mb x k = true := by
  have h := sub_list (n := mask11 y) (m := mask11 x) (N := x.v.length) (by rw [hy.ml, hl]) hx.ml hy.mo hx.mo
  unfold coversL
  rw [hy.ml, ← hl]
  exact h
theorem taken_is {o x : Ox9} (ho : OkV o) (hx : OkV x) : taken11 o x = (alike9 x o && hTake x o) := by
  rw [Bool.eq_iff_iff, taken_iff ho hx, alike_symm9 x o]
  unfold hTake
  rw [Bool.and_eq_true, Bool.and_eq_true, Bool.not_eq_true', Bool.not_eq_true']
  constructor
  · rintro ⟨h1, h2, h3, h4⟩
    exact ⟨h1, h2, (clashP_iff ho hx h1).2 ⟨h3, fun k hk e1 e2 => h4 k hk e1⟩⟩
  · rintro ⟨h1, h2, h3⟩
    obtain ⟨k1, k2⟩ := (clashP_iff ho hx h1).1 h3
    exact ⟨h1, h2, k1, fun k hk e => k2 k hk e (mb_none h2 (by omega))⟩
theorem over_is {x y : Ox9} (hx : OkV x) (hy : OkV y) : over11 x y = (alike9 x y && hOver x y) := by
  rw [Bool.eq_iff_iff, over_iff hx hy]
  unfold hOver
  rw [Bool.and_eq_true, Bool.and_eq_true, Bool.not_eq_true']
  constructor
  · rintro ⟨h1, h2, h3⟩
    exact ⟨h1, (clashP_iff hx hy h1).2 ⟨h2, fun k hk _ e => (h3 k hk e).2⟩, (covers_iff hx hy h2).2 fun k hk e => (h3 k hk e).1⟩
  · rintro ⟨h1, h2, h3⟩
    obtain ⟨k1, k2⟩ := (clashP_iff hx hy h1).1 h2
    have k3 := (covers_iff hx hy k1).1 h3
    exact ⟨h1, k1, fun k hk e => ⟨k3 k hk e, k2 k hk (k3 k hk e) e⟩⟩
theorem any_same {l : List Ox9} {f g : Ox9 → Bool} (h : ∀ x ∈ l, f x = g x) : l.any f = l.any g := by
  induction l with
  | nil => rfl
  | cons x r ih => rw [List.any_cons, List.any_cons, h x (by simp), ih fun y hy => h y (by simp [hy])]
theorem all_same {l : List Ox9} {f g : Ox9 → Bool} (h : ∀ x ∈ l, f x = g x) : l.all f = l.all g := by
  induction l with
  | nil => rfl
  | cons x r ih => rw [List.all_cons, List.all_cons, h x (by simp), ih fun y hy => h y (by simp [hy])]
theorem takes_find {l p : List Ox9} (hl : OkL l) (hp : OkL p) : takes11 l p = l.all (find11 hTake p) :=
  all_same fun o ho => any_same fun x hx => taken_is (hl.ok o ho) (hp.ok x hx)
theorem within_find {a b : List Ox9} (ha : OkL a) (hb : OkL b) : within11 a b = b.all (find11 hOver a) :=
  all_same fun y hy => any_same fun x hx => over_is (ha.ok x hx) (hb.ok y hy)
theorem apart_find {a b : List Ox9} (ha : OkL a) (hb : OkL b) : apart11 a b = a.any (find11 clashP b) :=
  any_same fun x hx => any_same fun y hy => by rw [clash_symm (ha.ok x hx) (hb.ok y hy)]; exact clash_is y x
/-- of one that is Alike to none, nothing is found; else just that one is asked -/
theorem find_one {hp : Ox9 → Ox9 → Bool} {l : List Ox9} (hl : l.Pairwise (fun a b => alike9 a b = false)) {x o : Ox9} (hx : x ∈ l) (ha : alike9 x o = true) : find11 hp l o = hp x o := by
  unfold find11
  rw [Bool.eq_iff_iff, List.any_eq_true]
  constructor
  · rintro ⟨y, hy, h⟩
    rw [Bool.and_eq_true] at h
    have : y = x := once_eq hl hy hx (alike_trans9 h.1 (by rw [alike_symm9]; exact ha))
    rw [← this]; exact h.2
  · intro h
    exact ⟨x, hx, by rw [ha, h]; rfl⟩
theorem find_none {hp : Ox9 → Ox9 → Bool} {l : List Ox9} {o : Ox9} (h : ∀ x ∈ l, alike9 x o = false) : find11 hp l o = false := by
  unfold find11
  rw [List.any_eq_false]
  intro x hx
  rw [h x hx]; simp

/-! ### both, of a list that is sorted -/
/-- the list, and one more -/
def jstep (L : List Ox9) (o : Ox9) : List Ox9 := match L.getLast? with
  | some z => if alike9 z o = true then L.dropLast ++ [both11 z o] else L ++ [o]
  | none => [o]
def jl (s : List Ox9) : List Ox9 := s.foldl jstep []
theorem jl_snoc (p : List Ox9) (o : Ox9) : jl (p ++ [o]) = jstep (jl p) o := by unfold jl; rw [List.foldl_append]; rfl
/-- one of all those that are Alike -/
def one11 : List Ox9 → Option Ox9
  | [] => none
  | x :: r => some (r.foldl both11 x)
theorem one_snoc {l : List Ox9} {z o : Ox9} (h : one11 l = some z) : one11 (l ++ [o]) = some (both11 z o) := by
  cases l with
  | nil => cases h
  | cons x r =>
    have h' : r.foldl both11 x = z := Option.some.inj h
    show some ((r ++ [o]).foldl both11 x) = _
    rw [List.foldl_append, h']; rfl
/-- what the list that is being made says of what was joined -/
structure JIs (p L : List Ox9) : Prop where
  one : ∀ z ∈ L, one11 (p.filter (alike9 z)) = some z
  has : ∀ x ∈ p, ∃ z ∈ L, alike9 z x = true
  up : L.Pairwise (fun a b => before9 a b = true)
theorem alike_fil {z o : Ox9} (h : alike9 z o = true) (p : List Ox9) : p.filter (alike9 z) = p.filter (alike9 o) :=
  List.filter_congr fun x _ => alike_fst h x
theorem before_alike {a b c : Ox9} (h : alike9 a b = true) : before9 a c = before9 b c ∧ before9 c a = before9 c b := by
  obtain ⟨h1, h2, h3⟩ := (alike_iff9 a b).1 h
  unfold before9
  rw [h1, h2, h3]
  exact ⟨rfl, rfl⟩
theorem before_not_alike {a b : Ox9} (h : before9 a b = true) : alike9 a b = false := by
  rw [before_iff] at h
  rw [← Bool.not_eq_true, alike_iff9]
  omega
theorem JIs.mem_one {p L : List Ox9} (h : JIs p L) {z : Ox9} (hz : z ∈ L) : ∃ x ∈ p, alike9 z x = true := by
  have h1 := h.one z hz
  cases hf : p.filter (alike9 z) with
  | nil => rw [hf] at h1; cases h1
  | cons x r =>
    have : x ∈ p.filter (alike9 z) := by rw [hf]; simp
    exact ⟨x, (List.mem_filter.1 this).1, (List.mem_filter.1 this).2⟩
theorem JIs.step {p L : List Ox9} {o : Ox9} (h : JIs p L) (ho : ∀ x ∈ p, before9 o x = false) : JIs (p ++ [o]) (jstep L o) := by
  have old : ∀ w ∈ L, before9 w o = true → one11 ((p ++ [o]).filter (alike9 w)) = some w := by
    intro w hw hb
    rw [List.filter_append, List.filter_cons_of_neg (by rw [before_not_alike hb]; simp)]
    simpa using h.one w hw
  unfold jstep
  rcases List.eq_nil_or_concat L with rfl | ⟨L0, z, rfl⟩
  · have hp : p = [] := by
      cases p with
      | nil => rfl
      | cons x r => obtain ⟨z, hz, _⟩ := h.has x (by simp); cases hz
    subst hp
    refine ⟨?_, ?_, by simp⟩
    · intro z hz
      simp only [List.getLast?_nil] at hz
      obtain rfl : z = o := by simpa using hz
      rw [List.nil_append, List.filter_cons_of_pos (alike_refl9 z)]
      rfl
    · intro x hx
      obtain rfl : x = o := by simpa using hx
      exact ⟨x, by simp, alike_refl9 x⟩
  · rw [List.concat_eq_append] at h old ⊢
    rw [List.getLast?_append, List.getLast?_singleton]
    simp only [Option.some_or, List.dropLast_concat]
    obtain ⟨up1, _, up2⟩ := List.pairwise_append.1 h.up
    have hzm : z ∈ L0 ++ [z] := by simp
    have hz0 : before9 o z = false := by
      obtain ⟨x, hx, ha⟩ := h.mem_one hzm
      rw [(before_alike ha).2]; exact ho x hx
    by_cases ha : alike9 z o = true
    · rw [if_pos ha]
      have hB : alike9 (both11 z o) z = true := both_alike z o
      refine ⟨?_, ?_, ?_⟩
      · intro w hw
        rcases List.mem_append.1 hw with hw | hw
        · exact old w (by simp [hw]) (by rw [← (before_alike ha).2]; exact up2 w hw z (by simp))
        · obtain rfl : w = both11 z o := by simpa using hw
          rw [alike_fil hB, List.filter_append, List.filter_cons_of_pos ha]
          exact one_snoc (h.one z hzm)
      · intro x hx
        rcases List.mem_append.1 hx with hx | hx
        · obtain ⟨w, hw, hwx⟩ := h.has x hx
          rcases List.mem_append.1 hw with hw | hw
          · exact ⟨w, by simp [hw], hwx⟩
          · obtain rfl : w = z := by simpa using hw
            exact ⟨both11 w o, by simp, alike_trans9 hB hwx⟩
        · obtain rfl : x = o := by simpa using hx
          exact ⟨both11 z x, by simp, alike_trans9 hB ha⟩
      · refine List.pairwise_append.2 ⟨up1, by simp, ?_⟩
        intro w hw y hy
        obtain rfl : y = both11 z o := by simpa using hy
        rw [(before_alike hB).2]
        exact up2 w hw z (by simp)
    · rw [if_neg ha]
      have hzo : before9 z o = true := by
        rw [before_not] at hz0
        rw [alike_iff9] at ha
        rw [before_iff]
        omega
      have hall : ∀ w ∈ L0 ++ [z], before9 w o = true := by
        intro w hw
        rcases List.mem_append.1 hw with hw | hw
        · exact before_trans9 (up2 w hw z (by simp)) hzo
        · obtain rfl : w = z := by simpa using hw
          exact hzo
      refine ⟨?_, ?_, ?_⟩
      · intro w hw
        rcases List.mem_append.1 hw with hw | hw
        · exact old w hw (hall w hw)
        · obtain rfl : w = o := by simpa using hw
          have hn : p.filter (alike9 w) = [] := by
            rw [List.filter_eq_nil_iff]
            intro x hx hwx
            obtain ⟨y, hy, hyx⟩ := h.has x hx
            have h1 := before_not_alike (hall y hy)
            rw [alike_fst hyx, alike_symm9, hwx] at h1
            cases h1
          rw [List.filter_append, hn, List.nil_append, List.filter_cons_of_pos (alike_refl9 w)]
          rfl
      · intro x hx
        rcases List.mem_append.1 hx with hx | hx
        · obtain ⟨w, hw, hwx⟩ := h.has x hx
          exact ⟨w, List.mem_append.2 (.inl hw), hwx⟩
        · obtain rfl : x = o := by simpa using hx
          exact ⟨x, by simp, alike_refl9 x⟩
      · refine List.pairwise_append.2 ⟨h.up, by simp, ?_⟩
        intro w hw y hy
        obtain rfl : y = o := by simpa using hy
        exact hall w hw
theorem JIs.nil : JIs [] [] := ⟨by simp, by simp, by simp⟩
theorem jl_is : ∀ {s : List Ox9}, Sorted9 s → JIs s (jl s) := by
  intro s
  induction hn : s.length generalizing s with
  | zero =>
    intro _
    obtain rfl := List.eq_nil_of_length_eq_zero hn
    exact JIs.nil
  | succ n ih =>
    intro hs
    rcases List.eq_nil_or_concat s with rfl | ⟨p, o, rfl⟩
    · exact JIs.nil
    · rw [List.concat_eq_append] at *
      obtain ⟨h1, _, h2⟩ := List.pairwise_append.1 hs
      rw [jl_snoc]
      exact (ih (by simpa using hn) h1).step fun x hx => h2 x hx o (by simp)
end Go.Proofs.YtpmkfkanolhocaaGreat
