/- Plain facts on numbers as bytes. -/
import Derived.Test.YtehgjenmcjgpnaaDoorBase
import Derived.Laws.BitsAllLaws
namespace Go.Proofs.YtehgjenmcjgpnaaDoor
open Go.RowKit

/-- bytes -/
def Octets (l : List Int) : Prop := ∀ x, x ∈ l → 0 ≤ x ∧ x ≤ 255
/-- the number that bytes are -/
def numL (l : List Int) : Int := l.foldl (fun n x => n * 256 + x) 0

theorem Octets.get {l : List Int} (h : Octets l) {k : Nat} {x : Int} (hx : l[k]? = some x) : 0 ≤ x ∧ x ≤ 255 := h x (List.mem_of_getElem? hx)
theorem Octets.take {l : List Int} (h : Octets l) (k : Nat) : Octets (l.take k) := fun x hx => h x (List.mem_of_mem_take hx)
theorem Octets.drop {l : List Int} (h : Octets l) (k : Nat) : Octets (l.drop k) := fun x hx => h x (List.mem_of_mem_drop hx)
theorem Octets.append {l m : List Int} (h : Octets l) (h' : Octets m) : Octets (l ++ m) := fun x hx => (List.mem_append.1 hx).elim (h x) (h' x)

theorem numL_snoc (l : List Int) (x : Int) : numL (l ++ [x]) = numL l * 256 + x := by
  unfold numL
  rw [List.foldl_append]
  rfl

theorem numL_succ {l : List Int} {k : Nat} {x : Int} (h : l[k]? = some x) : numL (l.take (k + 1)) = numL (l.take k) * 256 + x := by
  rw [List.take_add_one, h]
  exact numL_snoc _ _

/-- 256 to the n -/
def p256 : Nat → Int
  | 0 => 1
  | n + 1 => p256 n * 256

theorem p256_pos (n : Nat) : 0 < p256 n := by
  induction n with
  | zero => decide
  | succ n ih => unfold p256; omega

theorem numL_snoc_bound {l : List Int} (h : Octets l) : 0 ≤ numL l ∧ numL l < p256 l.length := by
  obtain ⟨r, rfl⟩ : ∃ r, l = List.reverse r := ⟨l.reverse, by simp⟩
  induction r with
  | nil => simp [numL, p256]
  | cons x r ih =>
    rw [List.reverse_cons] at h ⊢
    have h1 : Octets r.reverse := fun y hy => h y (by simp at hy ⊢; exact .inl hy)
    have hx := h x (by simp)
    have := ih h1
    rw [numL_snoc, List.length_append]
    show _ ∧ _ < p256 (r.reverse.length + 1)
    unfold p256
    omega

theorem p256_7 : p256 7 = 72057594037927936 := by decide
theorem p256_mono {n m : Nat} (h : n ≤ m) : p256 n ≤ p256 m := by
  induction m with
  | zero => obtain rfl : n = 0 := by omega
            exact Int.le_refl _
  | succ m ih =>
    rcases Nat.lt_or_ge n (m + 1) with h' | h'
    · have := ih (by omega)
      have := p256_pos m
      show p256 n ≤ p256 m * 256
      omega
    · obtain rfl : n = m + 1 := by omega
      exact Int.le_refl _

theorem numL_bound7 {l : List Int} (h : Octets l) {k : Nat} (hk : k ≤ 7) : 0 ≤ numL (l.take k) ∧ numL (l.take k) ≤ 72057594037927935 := by
  have := numL_snoc_bound (h.take k)
  have h2 : p256 (l.take k).length ≤ p256 7 := p256_mono (by simp; omega)
  rw [p256_7] at h2
  omega

theorem or_low (n x : Int) (h0 : 0 ≤ n) (h1 : n ≤ 72057594037927935) (hx : 0 ≤ x) (hx' : x ≤ 255) : bits BinOp.or IntKind.u64 (n * 256) x = n * 256 + x := by
  rw [u64_or _ _ (by omega) (by omega) (by omega) (by omega)]
  obtain ⟨a, rfl⟩ := Int.eq_ofNat_of_zero_le h0
  obtain ⟨b, rfl⟩ := Int.eq_ofNat_of_zero_le hx
  have e : ((a : Int) * 256).toNat = 2 ^ 8 * a := by omega
  rw [e, Int.toNat_natCast, ← Nat.two_pow_add_eq_or_of_lt (by omega)]
  omega

/-- the byte of a number, with k bytes behind it -/
def byteAt (n : Int) (k : Nat) : Int := n / p256 k % 256
/-- a number's lowest bytes, the highest first -/
def bytesL (n : Int) : Nat → List Int
  | 0 => []
  | w + 1 => byteAt n w :: bytesL n w

theorem bytesL_length (n : Int) (w : Nat) : (bytesL n w).length = w := by
  induction w with
  | zero => rfl
  | succ w ih => simp [bytesL, ih]

theorem bytesL_octets (n : Int) (w : Nat) : Octets (bytesL n w) := by
  induction w with
  | zero => intro x hx; simp [bytesL] at hx
  | succ w ih =>
    intro x hx
    rcases List.mem_cons.1 hx with rfl | hx
    · unfold byteAt; omega
    · exact ih x hx

theorem two_pow_p256 (k : Nat) : (2 : Int) ^ (8 * k) = p256 k := by
  induction k with
  | zero => rfl
  | succ k ih => rw [show 8 * (k + 1) = 8 * k + 8 from by omega, Int.pow_add, ih]; rfl

theorem bytesL_get {n : Int} {w i : Nat} (h : i < w) : (bytesL n w)[i]? = some (byteAt n (w - 1 - i)) := by
  induction w generalizing i with
  | zero => omega
  | succ w ih =>
    cases i with
    | zero => simp [bytesL]
    | succ i =>
      simp only [bytesL, List.getElem?_cons_succ]
      rw [ih (by omega)]
      congr 2
      omega

theorem bytesL_succ {n : Int} {w i : Nat} (h : i < w) : (bytesL n w).take (i + 1) = (bytesL n w).take i ++ [byteAt n (w - 1 - i)] := by
  rw [List.take_add_one, bytesL_get h]
  rfl

theorem wrap_u8 (n : Int) : IntKind.u8.wrap n = n % 256 := by simp [IntKind.wrap, IntKind.bits, IntKind.signed]

theorem numL_foldl (s : Int) (l : List Int) : l.foldl (fun n x => n * 256 + x) s = s * p256 l.length + numL l := by
  induction l generalizing s with
  | nil => simp [numL, p256]
  | cons x r ih =>
    have h1 := ih (s * 256 + x)
    have h2 := ih x
    simp only [List.foldl_cons, numL, List.length_cons] at *
    rw [h1]
    have h3 : List.foldl (fun n x => n * 256 + x) (0 * 256 + x) r = x * p256 r.length + List.foldl (fun n x => n * 256 + x) 0 r := by rw [Int.zero_mul, Int.zero_add]; exact h2
    rw [h3]
    show (s * 256 + x) * p256 r.length + _ = s * (p256 r.length * 256) + _
    rw [Int.add_mul, ← Int.mul_assoc, Int.mul_assoc s 256, Int.mul_comm 256, ← Int.mul_assoc, Int.add_assoc]

theorem numL_cons (x : Int) (r : List Int) : numL (x :: r) = x * p256 r.length + numL r := by
  have := numL_foldl x r
  unfold numL at *
  rw [List.foldl_cons, Int.zero_mul, Int.zero_add]
  exact this

theorem p256_div (n : Int) (w : Nat) : n / p256 w / 256 = n / p256 (w + 1) := by
  show _ = n / (p256 w * 256)
  rw [Int.ediv_ediv_of_nonneg (Int.le_of_lt (p256_pos w))]

/-- a number's bytes, as a number, are what is below 256 to the width -/
theorem numL_bytesL (n : Int) (w : Nat) : numL (bytesL n w) = n % p256 w := by
  induction w with
  | zero => simp [bytesL, numL, p256]
  | succ w ih =>
    show numL (byteAt n w :: bytesL n w) = _
    rw [numL_cons, bytesL_length, ih]
    unfold byteAt
    show _ = n % (p256 w * 256)
    have hp := p256_pos w
    generalize p256 w = p at *
    have h1 := Int.mul_ediv_add_emod n p
    have h2 := Int.mul_ediv_add_emod (n / p) 256
    have hd : n / (p * 256) = n / p / 256 := (Int.ediv_ediv_of_nonneg (Int.le_of_lt hp)).symm
    have h0 := Int.mul_ediv_add_emod n (p * 256)
    rw [hd] at h0
    generalize n / p / 256 = c at *
    generalize n / p % 256 = d at *
    rw [← h2] at h1
    rw [Int.mul_add, Int.mul_left_comm] at h1
    rw [Int.mul_comm p 256, Int.mul_assoc] at h0
    rw [Int.mul_comm d p, Int.mul_comm p 256]
    omega

theorem byteAt_add (n q : Int) (w : Nat) : byteAt (n + q * p256 (w + 1)) w = byteAt n w := by
  unfold byteAt
  have hp := p256_pos w
  show (n + q * (p256 w * 256)) / p256 w % 256 = _
  rw [← Int.mul_assoc, Int.mul_right_comm, Int.add_mul_ediv_right _ _ (by omega), Int.add_mul_emod_self_right]

theorem bytesL_add (n q : Int) (w : Nat) : bytesL (n + q * p256 w) w = bytesL n w := by
  induction w generalizing q with
  | zero => rfl
  | succ w ih =>
    show byteAt _ w :: bytesL _ w = byteAt n w :: bytesL n w
    rw [byteAt_add]
    have := ih (q * 256)
    rw [Int.mul_assoc, Int.mul_comm 256] at this
    rw [show q * p256 (w + 1) = q * (p256 w * 256) from rfl, this]

theorem bytesL_numL {l : List Int} (h : Octets l) : bytesL (numL l) l.length = l := by
  induction l with
  | nil => rfl
  | cons x r ih =>
    have hr : Octets r := fun y hy => h y (List.mem_cons_of_mem _ hy)
    have hx := h x (List.mem_cons_self ..)
    have hb := numL_snoc_bound hr
    have hp := p256_pos r.length
    rw [numL_cons, List.length_cons]
    show byteAt _ r.length :: bytesL _ r.length = _
    rw [Int.add_comm, bytesL_add, ih hr]
    congr 1
    unfold byteAt
    rw [Int.add_mul_ediv_right _ _ (by omega), Int.ediv_eq_zero_of_lt hb.1 hb.2]
    omega
end Go.Proofs.YtehgjenmcjgpnaaDoor
