/- Package cover: joined. -/
import Derived.Test.YtpmkfkanolhocaaGreatCovR
namespace Go.Proofs.YtpmkfkanolhocaaGreat
open Go.RowKit
set_option linter.unusedVariables false
set_option maxRecDepth 100000

/-- a list that is being made: its values lie elsewhere -/
structure JoinedAt (w0 w : World) (v : Value) (D : List Ent9) : Prop where
  fresh : FreshO w0 w v D.length D
  ent : ∀ x ∈ D, EntIn w x ∧ (x.o.v.length ≤ 1000 ∧ x.o.m.length ≤ 1000) ∧ Far10 (fun k => v.ownBlock = some k) x
theorem JoinedAt.behind {w0 w w' : World} {v : Value} {D : List Ent9} (h : JoinedAt w0 w v D) (hb : Below w.heap.size w w') : JoinedAt w0 w' v D :=
  ⟨h.fresh.behind hb, fun x hx => ⟨(h.ent x hx).1.below hb, (h.ent x hx).2⟩⟩
theorem JoinedAt.snoc {w0 wA w8 : World} {va va2 : Option Addr} {vc vc2 : Nat} {D : List Ent9} {h : Ent9} (H : JoinedAt w0 wA (.slice va D.length vc) D) (hh0 : EntIn w0 h) (hh : EntIn wA h) (hs : h.o.v.length ≤ 1000 ∧ h.o.m.length ≤ 1000)
    (hf : FreshO w0 w8 (.slice va2 (D.length + 1) vc2) (D.length + 1) (D ++ [h])) (hby : wA.grownBy w8 (Value.ownBlock (.slice va D.length vc))) (hmv : Moved wA (.slice va D.length vc) (.slice va2 (D.length + 1) vc2)) :
    JoinedAt w0 w8 (.slice va2 (D ++ [h]).length vc2) (D ++ [h]) := by
  have e : (D ++ [h]).length = D.length + 1 := by simp
  rw [e]
  refine ⟨by rw [e]; exact hf, ?_⟩
  have far : ∀ x, EntIn wA x → Far10 (fun k => Value.ownBlock (.slice va D.length vc) = some k) x → EntIn w8 x ∧ Far10 (fun k => Value.ownBlock (.slice va2 (D.length + 1) vc2) = some k) x := by
    intro x hx hfx
    refine ⟨hx.far hby hfx, ?_⟩
    rcases hmv with e1 | ⟨g, e1, hg⟩
    · rw [e1]; exact hfx
    · rw [e1]; exact hx.off fun k ek => by cases ek; exact hg
  intro x hx
  rcases List.mem_append.1 hx with hx | hx
  · obtain ⟨h1, h2, h3⟩ := H.ent x hx
    exact ⟨(far x h1 h3).1, h2, (far x h1 h3).2⟩
  · obtain rfl : x = h := by simpa using hx
    have h3 : Far10 (fun k => Value.ownBlock (.slice va D.length vc) = some k) x := hh0.off fun k ek => H.fresh.new k ek
    exact ⟨(far x hh h3).1, hs, (far x hh h3).2⟩
theorem oxmCells_set (A : List Ent9) (z j : Ent9) : ((((((oxmCells (A ++ [z])).set (A.length * 6) (.int .i64 j.o.C)).set (A.length * 6 + 1) (.int .i64 j.o.F)).set (A.length * 6 + 2) (.bool j.o.H)).set (A.length * 6 + 3) (.int .u64 j.o.X)).set (A.length * 6 + 4) (.slice j.va j.o.v.length j.vc)).set (A.length * 6 + 5) (.slice j.ma j.o.m.length j.mc) = oxmCells (A ++ [j]) := by
  rw [oxmCells_snoc, oxmCells_snoc]
  have hl := oxmCells_length A
  generalize oxmCells A = L at hl
  rw [← hl]
  simp [Ent9.cs]
theorem own_put {w : World} {g n cap : Nat} {A : List Ent9} {z : Ent9} (h : w.ownsRow 0 33 6 (.slice (some ⟨g, 0, none⟩) n cap) n (oxmCells (A ++ [z]))) (j : Ent9) :
    ((((((w.setCell ⟨g, A.length * 6, none⟩ (.int .i64 j.o.C)).setCell ⟨g, A.length * 6 + 1, none⟩ (.int .i64 j.o.F)).setCell ⟨g, A.length * 6 + 2, none⟩ (.bool j.o.H)).setCell ⟨g, A.length * 6 + 3, none⟩ (.int .u64 j.o.X)).setCell ⟨g, A.length * 6 + 4, none⟩ (.slice j.va j.o.v.length j.vc)).setCell ⟨g, A.length * 6 + 5, none⟩ (.slice j.ma j.o.m.length j.mc)).ownsRow 0 33 6 (.slice (some ⟨g, 0, none⟩) n cap) n (oxmCells (A ++ [j])) ∧
    w.grownBy ((((((w.setCell ⟨g, A.length * 6, none⟩ (.int .i64 j.o.C)).setCell ⟨g, A.length * 6 + 1, none⟩ (.int .i64 j.o.F)).setCell ⟨g, A.length * 6 + 2, none⟩ (.bool j.o.H)).setCell ⟨g, A.length * 6 + 3, none⟩ (.int .u64 j.o.X)).setCell ⟨g, A.length * 6 + 4, none⟩ (.slice j.va j.o.v.length j.vc)).setCell ⟨g, A.length * 6 + 5, none⟩ (.slice j.ma j.o.m.length j.mc)) (some g) := by
  obtain ⟨o1, b1⟩ := h.stored (A.length * 6) (.int .i64 j.o.C)
  obtain ⟨o2, b2⟩ := o1.stored (A.length * 6 + 1) (.int .i64 j.o.F)
  obtain ⟨o3, b3⟩ := o2.stored (A.length * 6 + 2) (.bool j.o.H)
  obtain ⟨o4, b4⟩ := o3.stored (A.length * 6 + 3) (.int .u64 j.o.X)
  obtain ⟨o5, b5⟩ := o4.stored (A.length * 6 + 4) (.slice j.va j.o.v.length j.vc)
  obtain ⟨o6, b6⟩ := o5.stored (A.length * 6 + 5) (.slice j.ma j.o.m.length j.mc)
  rw [oxmCells_set] at o6
  exact ⟨o6, by_trans (by_trans (by_trans (by_trans (by_trans b1 b2) b3) b4) b5) b6⟩
theorem JoinedAt.put {w0 w w' : World} {g cap : Nat} {A : List Ent9} {z j : Ent9} (H : JoinedAt w0 w (.slice (some ⟨g, 0, none⟩) (A ++ [z]).length cap) (A ++ [z])) (hj : EntIn w j) (hs : j.o.v.length ≤ 1000 ∧ j.o.m.length ≤ 1000) (hv : ∀ q : Addr, j.va = some q → g < q.block) (hm : ∀ q : Addr, j.ma = some q → g < q.block)
    (ho : w'.ownsRow 0 33 6 (.slice (some ⟨g, 0, none⟩) (A.length + 1) cap) (A.length + 1) (oxmCells (A ++ [j]))) (hb : w.grownBy w' (some g)) : JoinedAt w0 w' (.slice (some ⟨g, 0, none⟩) (A ++ [j]).length cap) (A ++ [j]) := by
  have e : (A ++ [j]).length = A.length + 1 := by simp
  have hg := H.fresh.new g rfl
  rw [e]
  refine ⟨by rw [e]; exact ⟨ho, H.fresh.bel.grown hb H.fresh.bel.size (fun k ek => by cases ek; exact hg), fun k ek => by cases ek; exact hg⟩, ?_⟩
  intro x hx
  rcases List.mem_append.1 hx with hx | hx
  · obtain ⟨h1, h2, h3⟩ := H.ent x (by simp [hx])
    exact ⟨h1.far hb h3, h2, h3⟩
  · obtain rfl : x = j := by simpa using hx
    have h3 : Far10 (fun k => some g = some k) x := ⟨fun _ q e s => by cases s; have := hv q e; omega, fun _ q e s => by cases s; have := hm q e; omega⟩
    exact ⟨hj.far hb h3, hs, h3⟩
theorem both_few {a b : Ox9} (h : a.v.length ≤ 1000) : (both11 a b).v.length ≤ 1000 ∧ (both11 a b).m.length ≤ 1000 := by
  refine ⟨by rw [both_len]; exact h, ?_⟩
  unfold both11
  simp only
  split
  · rw [orL_length]; exact h
  · simp
end Go.Proofs.YtpmkfkanolhocaaGreat
