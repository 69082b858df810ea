/- Things and their bytes: what was joined is cut, what is cut is joined. -/
import Derived.Test.YtfdkkcndadjcaaaTlvK
namespace Go.Proofs.Ytfdkkcndadjcaaa
open Go.RowKit

section
variable {L S : Nat} {P : Bool} {B O : Int}

theorem p256_two : p256 2 = 65536 := rfl

theorem one_write {t : Int} {x bs : List Int} (h : writeL L S P t x = .ok bs) (rest : List Int) : oneL L S P B O (bs ++ rest) = .ok (t, x, bs.length) := by
  unfold writeL at h
  split at h
  · rename_i k
    obtain ⟨k1, k2, k3, k4⟩ := k
    simp only [Except.ok.injEq] at h
    obtain ⟨n, hn⟩ : ∃ n, n = 4 + x.length := ⟨_, rfl⟩
    rw [← hn] at h k1 k4
    obtain ⟨z, hz⟩ : ∃ z, z = zer S P n := ⟨_, rfl⟩
    rw [← hz] at h
    have l1 : (bytesL t 2).length = 2 := bytesL_length t 2
    have l2 : (bytesL (n : Int) 2).length = 2 := bytesL_length _ 2
    have hnum : numL (bytesL (n : Int) 2) = n := by rw [numL_bytesL, p256_two]; omega
    have hnt : numL (bytesL t 2) = t := by rw [numL_bytesL, p256_two]; omega
    have hlen : bs.length = n + z := by rw [← h, List.length_append, List.length_append, List.length_append, l1, l2, List.length_replicate]; omega
    have e0 : bs ++ rest = bytesL t 2 ++ (bytesL (n : Int) 2 ++ (x ++ (List.replicate z 0 ++ rest))) := by rw [← h]; simp
    have d2 : (bs ++ rest).drop 2 = bytesL (n : Int) 2 ++ (x ++ (List.replicate z 0 ++ rest)) := by
      rw [e0]
      have := List.drop_left (l₁ := bytesL t 2) (l₂ := bytesL (n : Int) 2 ++ (x ++ (List.replicate z 0 ++ rest)))
      rwa [l1] at this
    have d4 : (bs ++ rest).drop 4 = x ++ (List.replicate z 0 ++ rest) := by
      rw [show 4 = 2 + 2 from rfl, ← List.drop_drop, d2]
      have := List.drop_left (l₁ := bytesL (n : Int) 2) (l₂ := x ++ (List.replicate z 0 ++ rest))
      rwa [l2] at this
    have dn : (bs ++ rest).drop n = List.replicate z 0 ++ rest := by
      rw [hn, ← List.drop_drop, d4, List.drop_left]
    have t2 : (bs ++ rest).take 2 = bytesL t 2 := by
      rw [e0]
      have := List.take_left (l₁ := bytesL t 2) (l₂ := bytesL (n : Int) 2 ++ (x ++ (List.replicate z 0 ++ rest)))
      rwa [l1] at this
    have t22 : ((bs ++ rest).drop 2).take 2 = bytesL (n : Int) 2 := by
      rw [d2]
      have := List.take_left (l₁ := bytesL (n : Int) 2) (l₂ := x ++ (List.replicate z 0 ++ rest))
      rwa [l2] at this
    have hll : (bs ++ rest).length = n + z + rest.length := by rw [List.length_append, hlen]
    unfold oneL
    rw [t22, hnum, Int.toNat_natCast, k1, t2, hnt, ← hz, dn, d4, hll, if_neg (by omega), if_neg (by simp), if_neg (by omega)]
    have hzz : (List.replicate z (0 : Int) ++ rest).take z = List.replicate z 0 := by
      have := List.take_left (l₁ := List.replicate z (0 : Int)) (l₂ := rest)
      rwa [List.length_replicate] at this
    rw [hzz, zeros_replicate, if_neg (by simp)]
    have hx : (x ++ (List.replicate z 0 ++ rest)).take (n - 4) = x := by
      rw [show n - 4 = x.length by omega, List.take_left]
    rw [hx, hlen]
  · cases h

theorem writeL_pos {t : Int} {x bs : List Int} (h : writeL L S P t x = .ok bs) : 4 ≤ bs.length := by
  unfold writeL at h
  split at h
  · simp only [Except.ok.injEq] at h
    subst h
    simp [bytesL_length]
    omega
  · cases h

theorem joinL_cons {h : Int × List Int} {r : List (Int × List Int)} {cs : List (List Int)} (k : joinL L S P (h :: r) = .ok cs) : ∃ b bs, writeL L S P h.1 h.2 = .ok b ∧ joinL L S P r = .ok bs ∧ cs = b :: bs := by
  unfold joinL at k
  split at k
  · cases k
  · rename_i b hb
    cases hr : joinL L S P r with
    | error q => rw [hr] at k; cases k
    | ok bs =>
      rw [hr] at k
      simp [afterB] at k
      exact ⟨b, bs, hb, rfl, k.symm⟩

theorem cut_join (hL : 4 ≤ L) : ∀ {l : List (Int × List Int)} {cs : List (List Int)}, joinL L S P l = .ok cs → cutL L S P B O cs.flatten = .ok l := by
  intro l
  induction l with
  | nil =>
    intro cs h
    unfold joinL at h
    simp at h
    subst h
    rfl
  | cons h r ih =>
    intro cs k
    obtain ⟨b, bs, hb, hr, rfl⟩ := joinL_cons k
    have hp := writeL_pos hb
    rw [List.flatten_cons]
    have hne : b ++ bs.flatten ≠ [] := by
      intro e
      have := congrArg List.length e
      simp at this
      have := this.1
      subst this
      simp at hp
    rw [cutL_ok hL hne (one_write hb _), List.drop_left, ih hr]
    rfl

theorem joinL_length : ∀ {l : List (Int × List Int)} {cs : List (List Int)}, joinL L S P l = .ok cs → cs.length = l.length := by
  intro l
  induction l with
  | nil => intro cs h; unfold joinL at h; simp at h; subst h; rfl
  | cons h r ih =>
    intro cs k
    obtain ⟨b, bs, hb, hr, rfl⟩ := joinL_cons k
    simp [ih hr]

theorem writeL_oct {t : Int} {x bs : List Int} (h : writeL L S P t x = .ok bs) (hx : Octets x) : Octets bs := by
  unfold writeL at h
  split at h
  · simp only [Except.ok.injEq] at h
    subst h
    refine (((bytesL_octets _ _).append (bytesL_octets _ _)).append hx).append ?_
    intro y hy
    rw [List.eq_of_mem_replicate hy]
    decide
  · cases h
theorem joinL_oct : ∀ {l : List (Int × List Int)} {cs : List (List Int)}, joinL L S P l = .ok cs → (∀ h ∈ l, Octets h.2) → Octets cs.flatten := by
  intro l
  induction l with
  | nil => intro cs h _; unfold joinL at h; simp at h; subst h; intro y hy; simp at hy
  | cons h r ih =>
    intro cs k ho
    obtain ⟨b, bs, hb, hr, rfl⟩ := joinL_cons k
    rw [List.flatten_cons]
    exact (writeL_oct hb (ho h (by simp))).append (ih hr (fun x hx => ho x (by simp [hx])))
theorem joinL_bound (hS : 1 ≤ S) (hS64 : S ≤ 64) : ∀ {l : List (Int × List Int)} {cs : List (List Int)}, joinL L S P l = .ok cs → cs.flatten.length ≤ l.length * 65600 := by
  intro l
  induction l with
  | nil => intro cs h; unfold joinL at h; simp at h; subst h; simp
  | cons h r ih =>
    intro cs k
    obtain ⟨b, bs, hb, hr, rfl⟩ := joinL_cons k
    have h1 := (writeL_len hS hS64 hb).1
    have h2 := ih hr
    rw [List.flatten_cons, List.length_append, List.length_cons]
    omega
theorem joinL_errne : ∀ {l : List (Int × List Int)} {q : Int}, joinL L S P l = .error q → q ≠ 0 := by
  intro l
  induction l with
  | nil => intro q h; unfold joinL at h; cases h
  | cons h r ih =>
    intro q k
    unfold joinL at k
    split at k
    · rename_i e he
      cases k
      exact writeL_err he
    · cases hr : joinL L S P r with
      | error e => rw [hr] at k; cases k; exact ih hr
      | ok bs => rw [hr] at k; cases k
theorem cutL_errne (hL : 4 ≤ L) (hB : B ≠ 0) (hO : O ≠ 0) : ∀ (k : Nat) {b : List Int} {q : Int}, b.length ≤ k → cutL L S P B O b = .error q → q ≠ 0 := by
  intro k
  induction k with
  | zero =>
    intro b q hk h
    have : b = [] := List.eq_nil_of_length_eq_zero (by omega)
    subst this
    rw [cutL_nil] at h
    cases h
  | succ k ih =>
    intro b q hk h
    by_cases hb : b = []
    · subst hb; rw [cutL_nil] at h; cases h
    · cases hone : oneL L S P B O b with
      | error e => rw [cutL_err hb hone] at h; cases h; exact oneL_err hB hO hone
      | ok r =>
        obtain ⟨t, x, n⟩ := r
        rw [cutL_ok hL hb hone] at h
        obtain ⟨h4, hn, _⟩ := oneL_ok hL hone
        cases hc : cutL L S P B O (b.drop n) with
        | error e => rw [hc] at h; cases h; exact ih (by rw [List.length_drop]; omega) hc
        | ok m => rw [hc] at h; cases h

/-- the bytes ahead of the thing i -/
def ahead (cs : List (List Int)) (i : Nat) : Nat := ((cs.take i).flatten).length

theorem one_at {l : List (Int × List Int)} {cs : List (List Int)} (k : joinL L S P l = .ok cs) {i : Nat} (hi : i < l.length) :
    ∃ n, oneL L S P B O (cs.flatten.drop (ahead cs i)) = .ok (l[i].1, l[i].2, n) ∧ 4 ≤ n ∧ ahead cs (i + 1) = ahead cs i + n ∧ ahead cs i + n ≤ cs.flatten.length := by
  induction l generalizing cs i with
  | nil => simp at hi
  | cons h r ih =>
    obtain ⟨b, bs, hb, hr, rfl⟩ := joinL_cons k
    cases i with
    | zero =>
      refine ⟨b.length, ?_, writeL_pos hb, ?_, ?_⟩
      · simp only [ahead, List.take_zero, List.flatten_nil, List.length_nil, List.drop_zero, List.flatten_cons, List.getElem_cons_zero]
        exact one_write hb _
      · simp [ahead]
      · simp [ahead]
    | succ i =>
      obtain ⟨n, h1, h2, h3, h4⟩ := ih hr (i := i) (by simpa using hi)
      have e1 : ahead (b :: bs) (i + 1) = b.length + ahead bs i := by simp [ahead]
      have e2 : ahead (b :: bs) (i + 1 + 1) = b.length + ahead bs (i + 1) := by simp [ahead]
      refine ⟨n, ?_, h2, by rw [e1, e2, h3]; omega, by rw [e1, List.flatten_cons, List.length_append]; omega⟩
      rw [e1, List.flatten_cons, ← List.drop_drop, List.drop_left]
      exact h1
theorem ahead_all {l : List (Int × List Int)} {cs : List (List Int)} (k : joinL L S P l = .ok cs) : ahead cs l.length = cs.flatten.length := by
  unfold ahead
  rw [← joinL_length k, List.take_length]

theorem write_one (hL : 4 ≤ L) {b : List Int} (ho : Octets b) {t : Int} {x : List Int} {n : Nat} (h : oneL L S P B O b = .ok (t, x, n)) : writeL L S P t x = .ok (b.take n) ∧ 4 ≤ n ∧ n ≤ b.length := by
  have hb := oneL_ok hL h
  unfold oneL at h
  have hm := numL_snoc_bound ((ho.drop 2).take 2)
  have ht := numL_snoc_bound (ho.take 2)
  obtain ⟨m, hmm⟩ : ∃ m, m = (numL ((b.drop 2).take 2)).toNat := ⟨_, rfl⟩
  have hmi : (m : Int) = numL ((b.drop 2).take 2) := by omega
  rw [← hmm] at h
  split at h
  · cases h
  · rename_i h4
    split at h
    · cases h
    · rename_i hlen
      split at h
      · cases h
      · rename_i hle
        split at h
        · cases h
        · rename_i hz
          simp only [Except.ok.injEq, Prod.mk.injEq] at h
          obtain ⟨rfl, rfl, rfl⟩ := h
          have hok : lenOk L S P m = true := by simpa using hlen
          have hLm : L ≤ m := by unfold lenOk at hok; simp at hok; exact hok.1
          have l2 : (b.take 2).length = 2 := by rw [List.length_take]; omega
          have l22 : ((b.drop 2).take 2).length = 2 := by rw [List.length_take, List.length_drop]; omega
          rw [l2, p256_two] at ht
          rw [l22, p256_two] at hm
          have lx : ((b.drop 4).take (m - 4)).length = m - 4 := by rw [List.length_take, List.length_drop]; omega
          have e4 : 4 + ((b.drop 4).take (m - 4)).length = m := by rw [lx]; omega
          refine ⟨?_, hb.1, hb.2.1⟩
          unfold writeL
          rw [e4, if_pos ⟨hok, ht.1, ht.2, by omega⟩]
          have b1 : bytesL (numL (b.take 2)) 2 = b.take 2 := by have := bytesL_numL (ho.take 2); rwa [l2] at this
          have b2 : bytesL (m : Int) 2 = (b.drop 2).take 2 := by rw [hmi]; have := bytesL_numL ((ho.drop 2).take 2); rwa [l22] at this
          have hzz : zeros ((b.drop m).take (zer S P m)) = true := by simpa using hz
          have b3 := zeros_eq hzz
          have lz : ((b.drop m).take (zer S P m)).length = zer S P m := by rw [List.length_take, List.length_drop]; omega
          rw [lz] at b3
          rw [b1, b2, ← b3]
          congr 1
          have s1 : b.take 4 = b.take 2 ++ (b.drop 2).take 2 := List.take_add (i := 2) (j := 2)
          have s2 : b.take m = b.take 4 ++ (b.drop 4).take (m - 4) := by
            have := List.take_add (l := b) (i := 4) (j := m - 4)
            rwa [show 4 + (m - 4) = m by omega] at this
          rw [List.take_add, s2, s1]

theorem join_cut (hL : 4 ≤ L) : ∀ (k : Nat) {b : List Int} {m : List (Int × List Int)}, b.length ≤ k → Octets b → cutL L S P B O b = .ok m → ∃ cs, joinL L S P m = .ok cs ∧ cs.flatten = b := by
  intro k
  induction k with
  | zero =>
    intro b m hk ho h
    have : b = [] := List.eq_nil_of_length_eq_zero (by omega)
    subst this
    rw [cutL_nil] at h
    cases h
    exact ⟨[], rfl, rfl⟩
  | succ k ih =>
    intro b m hk ho h
    by_cases hb : b = []
    · subst hb
      rw [cutL_nil] at h
      cases h
      exact ⟨[], rfl, rfl⟩
    · cases hone : oneL L S P B O b with
      | error q => rw [cutL_err hb hone] at h; cases h
      | ok r =>
        obtain ⟨t, x, n⟩ := r
        rw [cutL_ok hL hb hone] at h
        obtain ⟨hw, h4, hn⟩ := write_one hL ho hone
        cases hc : cutL L S P B O (b.drop n) with
        | error q => rw [hc] at h; cases h
        | ok m' =>
          rw [hc] at h
          simp [after] at h
          subst h
          obtain ⟨cs, hj, hf⟩ := ih (by rw [List.length_drop]; omega) (ho.drop n) hc
          refine ⟨b.take n :: cs, ?_, by rw [List.flatten_cons, hf, List.take_append_drop]⟩
          unfold joinL
          simp only [hw, hj]
          rfl

theorem cutL_len (hL : 4 ≤ L) : ∀ (k : Nat) {b : List Int} {m : List (Int × List Int)}, b.length ≤ k → Octets b → cutL L S P B O b = .ok m → m.length ≤ b.length ∧ ∀ h ∈ m, h.2.length ≤ b.length ∧ 0 ≤ h.1 ∧ h.1 < 65536 := by
  intro k
  induction k with
  | zero =>
    intro b m hk ho h
    have : b = [] := List.eq_nil_of_length_eq_zero (by omega)
    subst this
    rw [cutL_nil] at h
    cases h
    simp
  | succ k ih =>
    intro b m hk ho h
    by_cases hb : b = []
    · subst hb
      rw [cutL_nil] at h
      cases h
      simp
    · cases hone : oneL L S P B O b with
      | error q => rw [cutL_err hb hone] at h; cases h
      | ok r =>
        obtain ⟨t, x, n⟩ := r
        rw [cutL_ok hL hb hone] at h
        obtain ⟨h4, hn, hx⟩ := oneL_ok hL hone
        cases hc : cutL L S P B O (b.drop n) with
        | error q => rw [hc] at h; cases h
        | ok m' =>
          rw [hc] at h
          simp [after] at h
          subst h
          have hd : (b.drop n).length = b.length - n := List.length_drop
          obtain ⟨h1, h2⟩ := ih (by omega) (ho.drop n) hc
          obtain ⟨hw, _, _⟩ := write_one hL ho hone
          have ht : 0 ≤ t ∧ t < 65536 := by
            unfold writeL at hw
            split at hw
            · rename_i k; exact ⟨k.2.1, k.2.2.1⟩
            · cases hw
          refine ⟨by simp; omega, ?_⟩
          intro y hy
          rcases List.mem_cons.1 hy with rfl | hy
          · exact ⟨by simp only; omega, ht.1, ht.2⟩
          · have := h2 y hy; exact ⟨by omega, this.2⟩
end
end Go.Proofs.Ytfdkkcndadjcaaa
