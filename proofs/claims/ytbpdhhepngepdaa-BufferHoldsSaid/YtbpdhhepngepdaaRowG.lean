/- Contracts of package row: Get. -/
import Derived.Test.YtbpdhhepngepdaaRowF
namespace Go.Proofs.Ytbpdhhepngepdaa
open Go.RowKit

/-- bytes by widths, as numbers: or 1 (too few), or 2 (one is not 0) -/
def getL : List Int → List Int → Except Int (List Int)
  | [], _ => .ok []
  | x :: ws, b =>
    if b.length < x.natAbs then .error 1
    else if 0 < x then (getL ws (b.drop x.natAbs)).map (numL (b.take x.natAbs) :: ·)
    else if zeros (b.take x.natAbs) then getL ws (b.drop x.natAbs) else .error 2
def getW (l b : List Int) : Except Int (List Int) := if rightW l then getL l b else .error 2

/-- what has been got so far: pre; the widths from k on and the bytes r are left -/
structure GetAt (l b : List Int) (k : Nat) (pre r : List Int) : Prop where
  get : getL l b = (getL (l.drop k) r).map (pre ++ ·)
  oct : Octets r
  rest : r = b.drop (sizeL (l.take k))
  len : pre.length ≤ k

theorem emap_map {f g : List Int → List Int} (e : Except Int (List Int)) : (e.map f).map g = e.map (fun x => g (f x)) := by cases e <;> rfl
theorem emap_id (e : Except Int (List Int)) : e.map (fun x => [] ++ x) = e := by cases e <;> rfl

theorem GetAt.start {l b : List Int} (h : Octets b) : GetAt l b 0 [] b := ⟨by simp only [List.drop_zero]; exact (emap_id _).symm, h, by simp [sizeL], by simp⟩

theorem GetAt.short {l b pre r : List Int} {k : Nat} {x : Int} (h : GetAt l b k pre r) (hx : l[k]? = some x) (hs : r.length < x.natAbs) : getL l b = .error 1 := by
  rw [h.get, drop_of_get hx, getL.eq_def]
  simp only [hs, if_true]
  rfl
theorem GetAt.num {l b pre r : List Int} {k : Nat} {x : Int} (h : GetAt l b k pre r) (hx : l[k]? = some x) (hs : x.natAbs ≤ r.length) (hp : 0 < x) :
    GetAt l b (k + 1) (pre ++ [numL (r.take x.natAbs)]) (r.drop x.natAbs) := by
  refine ⟨?_, h.oct.drop _, ?_, ?_⟩
  · rw [h.get, drop_of_get hx, getL.eq_def]
    simp only [show ¬ r.length < x.natAbs by omega, if_false, hp, if_true]
    rw [emap_map]
    congr 1
    funext y
    simp
  · rw [sizeL_succ hx, h.rest, List.drop_drop]
  · have := h.len; simp; omega
theorem GetAt.zero {l b pre r : List Int} {k : Nat} {x : Int} (h : GetAt l b k pre r) (hx : l[k]? = some x) (hs : x.natAbs ≤ r.length) (hp : ¬ 0 < x) (hz : zeros (r.take x.natAbs) = true) :
    GetAt l b (k + 1) pre (r.drop x.natAbs) := by
  refine ⟨?_, h.oct.drop _, ?_, ?_⟩
  · rw [h.get, drop_of_get hx, getL.eq_def]
    simp only [show ¬ r.length < x.natAbs by omega, if_false, hp, hz, if_true]
  · rw [sizeL_succ hx, h.rest, List.drop_drop]
  · have := h.len; omega
theorem GetAt.odd {l b pre r : List Int} {k : Nat} {x : Int} (h : GetAt l b k pre r) (hx : l[k]? = some x) (hs : x.natAbs ≤ r.length) (hp : ¬ 0 < x) (hz : zeros (r.take x.natAbs) = false) :
    getL l b = .error 2 := by
  rw [h.get, drop_of_get hx, getL.eq_def]
  simp only [show ¬ r.length < x.natAbs by omega, if_false, hp, hz]
  rfl
theorem GetAt.done {l b pre r : List Int} {k : Nat} (h : GetAt l b k pre r) (hk : l.length ≤ k) : getL l b = .ok pre := by
  rw [h.get, List.drop_of_length_le hk]
  simp [getL, Except.map]

/-- what Get hands back -/
def GetPost (s : Except Int (List Int)) (w : World) (e : Ending) (w' : World) : Prop :=
  (∃ c, s = .error c ∧ e = .returned (.tuple #[.slice none 0 0, .int .i64 c]) ∧ Below w.heap.size w w') ∨
  ∃ ns v, s = .ok ns ∧ e = .returned (.tuple #[v, .int .i64 0]) ∧ Fresh 39 w w' v (ns.map (Value.int .u64))

end Go.Proofs.Ytbpdhhepngepdaa
