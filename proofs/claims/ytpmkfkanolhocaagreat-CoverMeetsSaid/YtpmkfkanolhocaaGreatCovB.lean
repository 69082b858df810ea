/- Layer 11, pure: what is so of values that may be, by bits. -/
import Derived.Test.YtpmkfkanolhocaaGreatCovA
namespace Go.Proofs.YtpmkfkanolhocaaGreat
open Go.RowKit
set_option linter.unusedVariables false
set_option maxRecDepth 100000

def bit11 (l : List Int) (k : Nat) : Bool := bitOn k (l.getD (l.length - 1 - k / 8) 0)
theorem per_bit {n : Nat} {P : Nat → Nat → Prop} : (∀ i, i < n → ∀ t, t < 8 → P i t) ↔ (∀ k, k < 8 * n → P (n - 1 - k / 8) (k % 8)) := by
  constructor
  · intro h k hk
    exact h _ (by omega) _ (by omega)
  · intro h i hi t ht
    have := h (8 * (n - 1 - i) + t) (by omega)
    have e1 : (8 * (n - 1 - i) + t) / 8 = n - 1 - i := by omega
    have e2 : (8 * (n - 1 - i) + t) % 8 = t := by omega
    rw [e1, e2] at this
    have e3 : n - 1 - (n - 1 - i) = i := by omega
    rwa [e3] at this
theorem oct_getD {l : List Int} (ho : Octets l) (i : Nat) : 0 ≤ l.getD i 0 ∧ l.getD i 0 ≤ 255 := by
  rw [List.getD_eq_getElem?_getD]
  cases h : l[i]? with
  | none => simp
  | some x => exact ho x (List.mem_of_getElem? h)
theorem same_list {p q m : List Int} {n : Nat} (hp : p.length = n) (hq : q.length = n) (hm : m.length = n) (op : Octets p) (oq : Octets q) (om : Octets m) :
    ((List.range n).all (fun i => same1 (p.getD i 0) (q.getD i 0) (m.getD i 0)) = true) ↔ ∀ k, k < 8 * n → bit11 m k = true → bit11 p k = bit11 q k := by
  rw [List.all_eq_true]
  have e : (∀ i ∈ List.range n, same1 (p.getD i 0) (q.getD i 0) (m.getD i 0) = true) ↔ ∀ i, i < n → ∀ t, t < 8 → (bitOn t (m.getD i 0) = true → bitOn t (p.getD i 0) = bitOn t (q.getD i 0)) := by
    constructor
    · intro h i hi
      exact (same1_bits (oct_getD op i) (oct_getD oq i) (oct_getD om i)).1 (h i (by simpa using hi))
    · intro h i hi
      exact (same1_bits (oct_getD op i) (oct_getD oq i) (oct_getD om i)).2 (h i (by simpa using hi))
  rw [e, per_bit]
  unfold bit11
  rw [hp, hq, hm]
  constructor <;> intro h k hk <;> have := h k hk <;> simpa only [bitOn_mod] using this
theorem sub_list {n m : List Int} {N : Nat} (hn : n.length = N) (hm : m.length = N) (on : Octets n) (om : Octets m) :
    ((List.range N).all (fun i => sub1 (n.getD i 0) (m.getD i 0)) = true) ↔ ∀ k, k < 8 * N → bit11 n k = true → bit11 m k = true := by
  rw [List.all_eq_true]
  have e : (∀ i ∈ List.range N, sub1 (n.getD i 0) (m.getD i 0) = true) ↔ ∀ i, i < N → ∀ t, t < 8 → (bitOn t (n.getD i 0) = true → bitOn t (m.getD i 0) = true) := by
    constructor
    · intro h i hi
      exact (sub1_bits (oct_getD on i) (oct_getD om i)).1 (h i (by simpa using hi))
    · intro h i hi
      exact (sub1_bits (oct_getD on i) (oct_getD om i)).2 (h i (by simpa using hi))
  rw [e, per_bit]
  unfold bit11
  rw [hn, hm]
  constructor <;> intro h k hk <;> have := h k hk <;> simpa only [bitOn_mod] using this
theorem bits_eq {p q : List Int} {n : Nat} (hp : p.length = n) (hq : q.length = n) (op : Octets p) (oq : Octets q) (h : ∀ k, k < 8 * n → bit11 p k = bit11 q k) : p = q := by
  apply List.ext_getElem (by omega)
  intro i h1 h2
  have e := (per_bit (n := n) (P := fun i t => bitOn t (p.getD i 0) = bitOn t (q.getD i 0))).2 (fun k hk => by have := h k hk; unfold bit11 at this; rw [hp, hq] at this; simpa only [bitOn_mod] using this) i (by omega)
  have g1 : p.getD i 0 = p[i] := by rw [List.getD_eq_getElem?_getD, List.getElem?_eq_getElem h1]; rfl
  have g2 : q.getD i 0 = q[i] := by rw [List.getD_eq_getElem?_getD, List.getElem?_eq_getElem h2]; rfl
  rw [g1, g2] at e
  have o1 := op p[i] (List.getElem_mem h1)
  have o2 := oq q[i] (List.getElem_mem h2)
  exact b8_inj o1.1 o1.2 o2.1 o2.2 e

def mask11 (o : Ox9) : List Int := if o.H then o.m else List.replicate o.v.length 255
def nbits11 (o : Ox9) : Nat := if o.C = 32768 then (fld o.F).b.toNat else 8 * o.v.length
/-- a value that may be, of bytes -/
structure OkV (o : Ox9) : Prop where
  right : right10 o = true
  ov : Octets o.v
  om : Octets o.m
theorem bit_ones {n k : Nat} (hk : k < 8 * n) : bit11 (List.replicate n 255) k = true := by
  unfold bit11
  rw [List.length_replicate, List.getD_eq_getElem?_getD, List.getElem?_replicate, if_pos (by omega)]
  show bitOn k 255 = true
  rw [← bitOn_mod]
  have h : ∀ t : Fin 8, bitOn t.val 255 = true := by decide +kernel
  exact h ⟨k % 8, by omega⟩
theorem ones_oct (n : Nat) : Octets (List.replicate n 255) := by intro x hx; rw [List.eq_of_mem_replicate hx]; omega
section
variable {o : Ox9}
theorem OkV.mo (h : OkV o) : Octets (mask11 o) := by unfold mask11; split; exact h.om; exact ones_oct _
theorem OkV.ml (h : OkV o) : (mask11 o).length = o.v.length := by
  have ft := (right_facts h.right).len
  unfold mask11
  cases hh : o.H
  · simp
  · rw [hh] at ft; simpa [maskZ] using ft
theorem OkV.none (h : OkV o) (hH : o.H = false) : o.m = [] := by
  have ft := (right_facts h.right).len
  rw [hH] at ft
  exact List.eq_nil_of_length_eq_zero (by simpa [maskZ] using ft)
theorem OkV.parts (h : OkV o) : (o.C = 32768 ∧ fitsB o.F o.v = true ∧ (o.H = true → fitsB o.F o.m = true ∧ maskE o.v o.m (fld o.F).b = 0)) ∨ (o.C = 65535 ∧ (o.H = true → maskE o.v o.m (8 * o.m.length) = 0)) := by
  have hr := h.right
  unfold right10 rightB at hr
  simp only [Bool.and_eq_true, decide_eq_true_eq] at hr
  have hb := hr.2
  have ft := right_facts h.right
  rcases ft.cls with hc | hc
  · left
    refine ⟨hc, ?_⟩
    unfold bytesE at hb
    rw [if_pos hc] at hb
    cases hv : fitsB o.F o.v
    · rw [hv, if_pos rfl] at hb; cases hb
    · rw [hv, if_neg (by simp)] at hb
      refine ⟨rfl, fun hH => ?_⟩
      rw [hH] at hb
      cases hm : fitsB o.F o.m
      · rw [hm, if_pos (by simp)] at hb; cases hb
      · rw [hm, if_neg (by simp), if_pos rfl] at hb
        exact ⟨rfl, hb⟩
  · right
    refine ⟨hc, fun hH => ?_⟩
    unfold bytesE at hb
    rw [if_neg (by rw [hc]; decide), if_pos hc, if_pos hH] at hb
    exact hb
end
end Go.Proofs.YtpmkfkanolhocaaGreat
