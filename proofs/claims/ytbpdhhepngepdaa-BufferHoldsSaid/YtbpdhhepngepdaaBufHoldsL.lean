/- What BufferHolds writes: pieces of eight bytes, and bytes between them. -/
import Derived.Test.YtbpdhhepngepdaaBufBy
namespace Go.Proofs.Ytbpdhhepngepdaa
open Go.RowKit Go.Maps

def whole (bs : List Int) : List (List Int) → List Int
  | [] => []
  | x :: r => x ++ (bs ++ whole bs r)
theorem whole_append (bs : List Int) (A B : List (List Int)) : whole bs (A ++ B) = whole bs A ++ whole bs B := by
  induction A with
  | nil => rfl
  | cons x A ih => simp [whole, ih, List.append_assoc]
theorem whole_length {bs : List Int} {L : List (List Int)} (h : ∀ x, x ∈ L → x.length = 8) : (whole bs L).length = L.length * (8 + bs.length) := by
  induction L with
  | nil => simp [whole]
  | cons x L ih =>
    have hx := h x (by simp)
    simp [whole, ih (fun y hy => h y (by simp [hy])), hx, Nat.add_mul]
    omega
def zero8 : List Int := List.replicate 8 0
theorem zero8_length : zero8.length = 8 := rfl
/-- j numbers are not filled yet -/
def holdL (ns : List Int) (j : Nat) : List (List Int) := List.replicate j zero8 ++ (ns.drop j).map (fun n => bytesL n 8)
theorem holdL_eight (ns : List Int) (j : Nat) : ∀ x, x ∈ holdL ns j → x.length = 8 := by
  intro x hx
  rcases List.mem_append.1 hx with h | h
  · rw [(List.mem_replicate.1 h).2, zero8_length]
  · obtain ⟨n, _, rfl⟩ := List.mem_map.1 h
    exact bytesL_length n 8
theorem zeros_eight (j : Nat) : ∀ x, x ∈ List.replicate j zero8 → x.length = 8 := by
  intro x h
  rw [(List.mem_replicate.1 h).2, zero8_length]
theorem zeros_step (bs : List Int) (k : Nat) : whole bs (List.replicate k zero8) ++ List.replicate 8 0 ++ bs = whole bs (List.replicate (k + 1) zero8) := by
  have e := List.replicate_succ' (n := k) (a := zero8)
  rw [e, whole_append]
  show _ ++ zero8 ++ bs = _ ++ (zero8 ++ (bs ++ []))
  rw [List.append_nil, List.append_assoc]
theorem zeros_length (bs : List Int) (k : Nat) : (whole bs (List.replicate k zero8)).length = k * (8 + bs.length) := by
  rw [whole_length (zeros_eight k), List.length_replicate]
theorem holdL_all {ns : List Int} : holdL ns ns.length = List.replicate ns.length zero8 := by simp [holdL]
theorem holdL_length (bs ns : List Int) {j : Nat} (h : j ≤ ns.length) : (whole bs (holdL ns j)).length = ns.length * (8 + bs.length) := by
  rw [whole_length (holdL_eight ns j)]
  simp [holdL]
  rw [show j + (ns.length - j) = ns.length by omega]
theorem splice_mid {P z R y : List Int} (h : z.length = y.length) : splice (P ++ (z ++ R)) P.length y = P ++ (y ++ R) := by
  unfold splice
  have e : P.length + y.length = (P ++ z).length := by rw [List.length_append, h]
  rw [List.take_left, e, ← List.append_assoc P z R, List.drop_left]
theorem holdL_fill (bs : List Int) {ns : List Int} {j : Nat} {n : Int} (h : ns[j]? = some n) : splice (whole bs (holdL ns (j + 1))) (j * (8 + bs.length)) (bytesL n 8) = whole bs (holdL ns j) := by
  have hlt : j < ns.length := by
    rcases Nat.lt_or_ge j ns.length with h' | h'
    · exact h'
    · rw [List.getElem?_eq_none h'] at h; simp at h
  have hd : ns.drop j = n :: ns.drop (j + 1) := by
    rw [List.drop_eq_getElem_cons hlt]
    rw [List.getElem?_eq_getElem hlt] at h
    simp at h
    rw [h]
  have e1 : whole bs (holdL ns (j + 1)) = whole bs (List.replicate j zero8) ++ (zero8 ++ (bs ++ whole bs ((ns.drop (j + 1)).map (fun n => bytesL n 8)))) := by
    unfold holdL
    rw [List.replicate_succ', List.append_assoc, whole_append]
    rfl
  have e2 : whole bs (holdL ns j) = whole bs (List.replicate j zero8) ++ (bytesL n 8 ++ (bs ++ whole bs ((ns.drop (j + 1)).map (fun n => bytesL n 8)))) := by
    unfold holdL
    rw [hd, whole_append]
    rfl
  rw [e1, e2, ← zeros_length bs j]
  exact splice_mid (by rw [bytesL_length, zero8_length])
theorem holdL_at (bs : List Int) {ns : List Int} {i : Nat} {n : Int} (h : ns[i]? = some n) : ∃ more, (whole bs (holdL ns 0)).drop (i * (8 + bs.length)) = bytesL n 8 ++ (bs ++ more) := by
  have hlt : i < ns.length := by
    rcases Nat.lt_or_ge i ns.length with h' | h'
    · exact h'
    · rw [List.getElem?_eq_none h'] at h; simp at h
  have hd : ns.drop i = n :: ns.drop (i + 1) := by
    rw [List.drop_eq_getElem_cons hlt]
    rw [List.getElem?_eq_getElem hlt] at h
    simp at h
    rw [h]
  have e : holdL ns 0 = (ns.take i).map (fun n => bytesL n 8) ++ (ns.drop i).map (fun n => bytesL n 8) := by
    unfold holdL
    rw [← List.map_append, List.take_append_drop]
    rfl
  have hl : (whole bs ((ns.take i).map (fun n => bytesL n 8))).length = i * (8 + bs.length) := by
    rw [whole_length (by intro x hx; obtain ⟨n, _, rfl⟩ := List.mem_map.1 hx; exact bytesL_length n 8), List.length_map, List.length_take]
    rw [Nat.min_eq_left (by omega)]
  rw [e, whole_append, ← hl, List.drop_left, hd]
  exact ⟨_, rfl⟩
/-- what is held, when j are -/
def holds (s : Nat) (j : Nat) : List (Int × Int) := (List.range j).map (fun i => (((i * s : Nat) : Int), (8 : Int)))
def places (s : Nat) (j : Nat) : List Int := (List.range j).map (fun i => ((i * s : Nat) : Int))
theorem holds_succ (s j : Nat) : holds s (j + 1) = holds s j ++ [(((j * s : Nat) : Int), 8)] := by simp [holds, List.range_succ]
theorem places_succ (s j : Nat) : places s (j + 1) = places s j ++ [((j * s : Nat) : Int)] := by simp [places, List.range_succ]
theorem places_length (s j : Nat) : (places s j).length = j := by simp [places]
theorem places_get {s i j : Nat} (h : i < j) : (places s j)[i]? = some ((i * s : Nat) : Int) := by simp [places, h]
theorem holds_no {s j : Nat} (hs : 0 < s) : (holds s j).any (fun p => p.1 == ((j * s : Nat) : Int)) = false := by
  rw [List.any_eq_false]
  intro q hq
  obtain ⟨i, hi, rfl⟩ := List.mem_map.1 hq
  have hi := List.mem_range.1 hi
  have h := Nat.mul_lt_mul_of_pos_right hi hs
  simp only [beq_iff_eq]
  omega
theorem holds_look {s j : Nat} (hs : 0 < s) : look (holds s (j + 1)) ((j * s : Nat) : Int) = ((8 : Nat) : Int) := by
  rw [holds_succ, look_append, holds_no hs]
  simp [look]
theorem holds_fill {s j : Nat} (hs : 0 < s) : unheld (holds s (j + 1)) ((j * s : Nat) : Int) = holds s j := by
  have hn := holds_no (s := s) (j := j) hs
  rw [List.any_eq_false] at hn
  rw [holds_succ]
  unfold unheld
  rw [List.filter_append, List.filter_eq_self.2 (fun p hp => by simpa using hn p hp)]
  simp
theorem holds_some (s j : Nat) : holds s (j + 1) ≠ [] := by rw [holds_succ]; simp
end Go.Proofs.Ytbpdhhepngepdaa
