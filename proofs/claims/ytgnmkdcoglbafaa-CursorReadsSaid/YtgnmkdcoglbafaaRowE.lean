/- Contracts of package row: Put. -/
import Derived.Test.YtgnmkdcoglbafaaRowD
import Derived.StillTailTactics
namespace Go.Proofs.Ytgnmkdcoglbafaa
open Go.RowKit

theorem quietS {P : Program} {f : FuncId} {args : Array Value} {w : World} {n : Nat} {v : Value}
    (h : Calls P f args (w.drewN n) fun e w' => e = .returned v ∧ w.drewN n = w') : Calls P f args (w.drewN n) fun e w'' => e = .returned v ∧ ∃ m, w'' = w.drewN m :=
  h.mono fun _ _ ⟨he, hm⟩ => ⟨he, n, hm.symm⟩

/-- A region that draws its order, whose first n operations read alone, and whose tail stands in one order. -/
theorem wp_tail {P : Program} {id : Nat} {Q : Exit → Act → World → Prop} {a : Act} {w : World} {l : List Oper} (n : Nat) (hm : P.follows .mixedOrders = true) (hB : Region.lexTailB .any l.toArray n = true)
    (h : wpStill P l.toArray w.drew (fun a' => wpList P l.toArray Q (l.drop n) a' w.drew) (l.take n) a) : (Code.region id l.toArray true).wp P Q a w :=
  wp_region_still_tail n hm hB h

/-- numbers of 64 bits -/
def U64s (l : List Int) : Prop := ∀ x, x ∈ l → 0 ≤ x ∧ x < p256 8

/-- numbers by widths, as bytes -/
def putL : List Int → List Int → Option (List Int)
  | [], _ => some []
  | x :: ws, ns =>
    if x < 0 then (putL ws ns).map (List.replicate x.natAbs 0 ++ ·)
    else match ns with
      | [] => none
      | n :: r => if roomB n x then (putL ws r).map (bytesL n x.toNat ++ ·) else none

def putW (l ns : List Int) : Option (List Int) := if rightW l && (countL l == ns.length) then putL l ns else none

theorem drop_of_get {l : List Int} {k : Nat} {x : Int} (h : l[k]? = some x) : l.drop k = x :: l.drop (k + 1) := by
  have hk : k < l.length := by
    rcases Nat.lt_or_ge k l.length with h' | h'
    · exact h'
    · rw [List.getElem?_eq_none h'] at h; simp at h
  rw [List.drop_eq_getElem_cons hk]
  rw [List.getElem?_eq_getElem hk] at h
  simp at h
  rw [h]

/-- what has been put so far: pre; the widths from k on and the numbers r are left -/
structure PutAt (l ns : List Int) (k : Nat) (pre r : List Int) : Prop where
  put : putL l ns = (putL (l.drop k) r).map (pre ++ ·)
  count : countL (l.drop k) = r.length
  u64 : U64s r
  len : pre.length = sizeL (l.take k)

theorem PutAt.start {l ns : List Int} (h : countL l = ns.length) (hu : U64s ns) : PutAt l ns 0 [] ns :=
  ⟨by simp, by simpa using h, hu, by simp [sizeL]⟩

theorem PutAt.zero {l ns pre r : List Int} {k : Nat} {x : Int} (h : PutAt l ns k pre r) (hx : l[k]? = some x) (hn : x < 0) : PutAt l ns (k + 1) (pre ++ List.replicate x.natAbs 0) r := by
  have hd := drop_of_get hx
  refine ⟨?_, ?_, h.u64, ?_⟩
  · rw [h.put, hd, putL.eq_def]
    simp only [if_pos hn, Option.map_map]
    congr 1
    funext y
    simp
  · have := h.count
    rw [hd, countL, List.countP_cons, if_neg (by simp; omega)] at this
    exact this
  · rw [sizeL_succ hx, List.length_append, h.len]; simp

theorem PutAt.next {l ns pre r : List Int} {k : Nat} {x : Int} (h : PutAt l ns k pre r) (hx : l[k]? = some x) (hn : 0 < x) :
    ∃ n r', r = n :: r' ∧ 0 ≤ n ∧ n < p256 8 ∧ (roomB n x = false → putL l ns = none) ∧ (roomB n x = true → PutAt l ns (k + 1) (pre ++ bytesL n x.toNat) r') := by
  have hd := drop_of_get hx
  have hc := h.count
  rw [hd, countL, List.countP_cons, if_pos (by simpa using hn)] at hc
  cases r with
  | nil => simp at hc
  | cons n r' =>
    have hu := h.u64 n (List.mem_cons_self ..)
    refine ⟨n, r', rfl, hu.1, hu.2, ?_, ?_⟩
    · intro hr
      rw [h.put, hd, putL.eq_def]
      simp [hr, show ¬ x < 0 by omega]
    · intro hr
      refine ⟨?_, ?_, fun y hy => h.u64 y (List.mem_cons_of_mem _ hy), ?_⟩
      · rw [h.put, hd, putL.eq_def]
        simp only [show ¬ x < 0 by omega, if_false, hr, if_true, Option.map_map]
        congr 1
        funext y
        simp
      · simp at hc; unfold countL; omega
      · rw [sizeL_succ hx, List.length_append, h.len, bytesL_length]; omega

theorem PutAt.done {l ns pre r : List Int} {k : Nat} (h : PutAt l ns k pre r) (hk : l.length ≤ k) : putL l ns = some pre := by
  rw [h.put, List.drop_of_length_le hk]; simp [putL]

/-- what Put hands back -/
def PutPost (s : Option (List Int)) (w : World) (e : Ending) (w' : World) : Prop :=
  (s = none ∧ e = .returned (.tuple #[.slice none 0 0, .bool false]) ∧ Below w.heap.size w w') ∨
  ∃ bs v, s = some bs ∧ e = .returned (.tuple #[v, .bool true]) ∧ Fresh 5 w w' v (bs.map (Value.int .u8))

theorem putW_no {l ns : List Int} (h : rightW l = false ∨ countL l ≠ ns.length) : putW l ns = none := by
  unfold putW
  rcases h with h | h
  · simp [h]
  · have : (countL l == ns.length) = false := by simp; omega
    rw [this]; simp
theorem putW_yes {l ns : List Int} (h : rightW l = true) (h' : countL l = ns.length) : putW l ns = putL l ns := by
  unfold putW
  simp [h, h']

end Go.Proofs.Ytgnmkdcoglbafaa
