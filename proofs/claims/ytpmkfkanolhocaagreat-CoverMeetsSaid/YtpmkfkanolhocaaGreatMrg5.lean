/- Put together out of several texts: what the laws of earlier stages left. -/
import Derived.Test.YtpmkfkanolhocaaGreatMrg1
import Derived.Deep.QuietTactic
import Derived.BigQuiet
import Derived.OneCell
import Derived.Outline
import Derived.Test.YtpmkfkanolhocaaGreatMrg4
namespace Go.Proofs.YtpmkfkanolhocaaGreat
open Go.RowKit

/-- the cells of a cursor -/
def curCells (a : Option Addr) (m c : Nat) (r s o f : Int) : Array Value := #[.bool true, .slice a m c, .int .i64 r, .int .i64 s, .int .i64 o, .int .i64 f]

theorem cell_of_cells {w : World} {b : Nat} {cs : Array Value} {t : TypeId} (h : w.heap[b]? = some (.cells cs t (0, 0))) {i : Nat} {v : Value} (hi : cs[i]? = some v) : w.cell? ⟨b, i, none⟩ = some v := by simp [World.cell?, h, hi]
theorem free_of_cells {w : World} {b : Nat} {cs : Array Value} {t : TypeId} (h : w.heap[b]? = some (.cells cs t (0, 0))) (i : Nat) : w.frozen? ⟨b, i, none⟩ = false := by simp [World.frozen?, h]
theorem set_of_cells {w : World} {b : Nat} {cs : Array Value} {t : TypeId} (h : w.heap[b]? = some (.cells cs t (0, 0))) (i : Nat) (u : Value) : (w.setCell ⟨b, i, none⟩ u).heap[b]? = some (.cells (cs.setIfInBounds i u) t (0, 0)) := by
  have hlt := lt_of_block h
  have h' : w.heap[b] = .cells cs t (0, 0) := by simpa [Array.getElem?_eq_getElem hlt] using h
  show (w.heap.modify b _)[b]? = _
  rw [Array.getElem?_eq_getElem (by simpa using hlt), Array.getElem_modify_self, h']
  simp
theorem by_setCell (w : World) (b i : Nat) (u : Value) : w.grownBy (w.setCell ⟨b, i, none⟩ u) (some b) := by
  refine ⟨by unfold World.setCell; split <;> rfl, by unfold World.setCell; split <;> rfl, by unfold World.setCell; split <;> rfl, ?_, ?_⟩
  · unfold World.setCell; split <;> simp
  · intro k hk hne
    exact Below.heap_setCell _ _ _ _ (fun e => hne (by simp [e]))

section
variable {w : World} {g : Nat} {a : Option Addr} {m c : Nat} {r s o f : Int}
end
end Go.Proofs.YtpmkfkanolhocaaGreat
namespace Go.Proofs.YtpmkfkanolhocaaGreat
open Go.RowKit

end Go.Proofs.YtpmkfkanolhocaaGreat
namespace Go.Proofs.YtpmkfkanolhocaaGreat
open Go.RowKit

section
variable {w : World} {g M : Nat} {l : List Int} {r s o f : Int}

theorem grownBy_refl (w : World) (row : Option Nat) : w.grownBy w row := ⟨rfl, rfl, rfl, Nat.le_refl _, fun _ _ _ => rfl⟩
theorem grownBy_more {w w' : World} {row : Option Nat} (h : w.grownBy w' none) : w.grownBy w' row := ⟨h.os, h.tape, h.output, h.size, fun i hi _ => h.block i hi (by simp)⟩
theorem grownBy_then {w w1 w2 : World} {row : Option Nat} (h : w.grownBy w1 row) (k : w1.grownBy w2 row) : w.grownBy w2 row := grownBy_trans h k (.inl rfl)

theorem drop_addr {M off q c n : Nat} (_h : n ≤ c) : ∃ o', (if c = q then some (⟨M, off, none⟩ : Addr) else some ⟨M, off + q, none⟩) = some ⟨M, o', none⟩ := by split <;> exact ⟨_, rfl⟩

end
end Go.Proofs.YtpmkfkanolhocaaGreat
namespace Go.Proofs.YtpmkfkanolhocaaGreat
open Go.RowKit

/-- What is handed back is a slice in new memory, which holds xs; of what was there no more than one block has turned. -/
structure Gives (e : TypeId) (w w' : World) (row : Option Nat) (v : Value) (xs : List Value) : Prop where
  own : w'.ownsRow 0 e 1 v xs.length xs
  by_ : w.grownBy w' row
  new : ∀ k, v.ownBlock = some k → w.heap.size ≤ k

theorem Gives.behind {e : TypeId} {w w1 w2 : World} {row : Option Nat} {v : Value} {xs : List Value} (h : w.grownBy w1 row) (k : Fresh e w1 w2 v xs) : Gives e w w2 row v xs :=
  ⟨k.own, grownBy_then h (grownBy_more (below_by_none k.bel)), fun g hg => Nat.le_trans h.size (k.new g hg)⟩

section
variable {w : World} {g M : Nat} {l : List Int} {r s o f : Int}

end
end Go.Proofs.YtpmkfkanolhocaaGreat
namespace Go.Proofs.YtpmkfkanolhocaaGreat
open Go.RowKit

section
variable {w : World} {g M : Nat} {l : List Int} {r s o f : Int}

theorem getW_err2 {ws b : List Int} {q : Int} (h : getW ws b = .error q) : q = 1 ∨ q = 2 := by
  unfold getW at h
  split at h
  · rename_i hr
    clear hr
    induction ws generalizing b with
    | nil => simp [getL] at h
    | cons x r ih =>
      rw [getL_cons] at h
      split at h
      · left; simpa using h.symm
      · split at h
        · cases hh : getL r (b.drop x.natAbs) with
          | error e => rw [hh] at h; simp [Except.map] at h; subst h; exact ih hh
          | ok y => rw [hh] at h; simp [Except.map] at h
        · split at h
          · exact ih h
          · right; simpa using h.symm
  · right; simpa using h.symm

theorem getW_ok {ws b ns : List Int} (h : getW ws b = .ok ns) (ho : Octets b) : rightW ws = true ∧ sizeL ws ≤ b.length ∧ sizeW ws = sizeL ws ∧ U64s ns ∧ ns.length = countL ws := by
  unfold getW at h
  split at h
  · rename_i hr
    obtain ⟨_, h2, h3, h4⟩ := get_put h (rightW_all hr) ho
    exact ⟨hr, h2, by simp [sizeW, hr], h4, h3.symm⟩
  · simp at h

theorem ne_of_new {w : World} {v : Value} {g : Nat} (h : ∀ k, v.ownBlock = some k → w.heap.size ≤ k) (hg : g < w.heap.size) : v.ownBlock = none ∨ v.ownBlock ≠ some g := by
  cases hv : v.ownBlock with
  | none => exact .inl rfl
  | some k => right; have := h k hv; simp; omega

theorem getW_one {x : Nat} (h1 : 1 ≤ x) (h8 : x ≤ 8) {l : List Int} : getW [(x : Int)] l = if l.length < x then .error 1 else .ok [numL (l.take x)] := by
  have hw : isW (x : Int) = true := by simp [isW]; omega
  have hr : rightW [(x : Int)] = true := by simp [rightW, allW, hw]
  rw [getW, if_pos hr, getL_cons, Int.natAbs_natCast, if_pos (show (0 : Int) < x by omega)]
  rfl
theorem sizeL_one (x : Nat) : sizeL [(x : Int)] = x := by simp [sizeL]

end
end Go.Proofs.YtpmkfkanolhocaaGreat
