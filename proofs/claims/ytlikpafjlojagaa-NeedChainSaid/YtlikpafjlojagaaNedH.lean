/- Package need: whether a value meets what is asked. -/
import Derived.Test.YtlikpafjlojagaaNedG
namespace Go.Proofs.Ytlikpafjlojagaa
open Go.RowKit
set_option linter.unusedVariables false

theorem number9_any (l : List Int) (a : Option Addr) (c : Nat) (ho : Octets l) (hl : l.length ≤ 7) (w : World) (hI : Ints .u8 w a l) :
    Calls Try.prog 39 #[.slice a l.length c] w fun e w' => e = .returned (.int .u64 (numL l)) ∧ w' = w := by
  have HO := hid ho
  have HI := hid hI
  clear ho hI
  go_enter Try.func39, Try.ntmps39
  go_wp2_with fail
  go_loopg [3, 8] (l.length) (fun kx s3 s8 wr => wr = w ∧ ∃ (i : Nat) (n : Int), s3 = .int .u64 n ∧ s8 = .int .i64 i ∧ i ≤ l.length ∧ l.length - i ≤ kx ∧ Hid (n = numL (l.take i)))
  case atStart => exact ⟨rfl, 0, 0, rfl, rfl, by omega, by omega, rfl⟩
  case round =>
    obtain ⟨rfl, i, n, rfl, rfl, hi, hkx, hn⟩ := hrel
    by_cases hlt : i < l.length
    · have hltz : (i : Int) < (l.length : Int) := by omega
      obtain ⟨b, off, x, rfl, hc, hx⟩ := HI.out.at hlt
      obtain ⟨hx0, hx1⟩ := HO.out.get hx.out
      have hb := numL_bound7 HO.out (k := i) (by omega)
      rw [← hn.out] at hb
      have h7 : numL (l.take (i + 1)) = n * 256 + x := by rw [numL_succ hx.out, hn.out]
      have hor := or_low n x hb.1 hb.2 hx0 hx1
      have H7 := hid h7
      have HOR := hid hor
      have q0 := hb.1
      have q1 := hb.2
      clear h7 hor hb
      go_wp2_with fail
      rw [HOR.out]
      go_roundg (l.length - (i + 1))
      case measure => omega
      case rel => exact ⟨rfl, i + 1, n * 256 + x, rfl, by first | rfl | go_num, by omega, Nat.le_refl _, H7.out.symm⟩
    · have hltz : ¬ (i : Int) < (l.length : Int) := by omega
      go_wp2
      have hn' : n = numL l := by rw [hn.out, List.take_of_length_le (by omega)]
      exact bodyPost_ret (v := .int .u64 n) (by simp [results, Try.results39, go_sem]) rfl ⟨by rw [hn'], rfl⟩

/-- r is a place of x, if there is one -/
def Idx9 (l : List Int) (x r : Int) : Prop := decide (0 ≤ r) = l.contains x
/-- whether one is not 0 -/
def any9 (l : List Int) : Bool := l.any fun k => k != 0
def Idx0 (l : List Int) (r : Int) : Prop := decide (0 ≤ r) = any9 l
theorem index9_any (l : List Int) (x : Int) (a : Option Addr) (c : Nat) (hl : l.length ≤ 1000) (w : World) (hI : Ints .u64 w a l) :
    Calls Try.prog 47 #[.slice a l.length c, .int .u64 x] w fun e w' => (∃ r : Int, e = .returned (.int .i64 r) ∧ Idx9 l x r) ∧ w' = w := by
  have HI := hid hI
  clear hI
  go_enter Try.func47, Try.ntmps47
  go_wp2_with fail
  go_loopg [8] (l.length) (fun kx s8 wr => wr = w ∧ ∃ (i : Nat), s8 = .int .i64 i ∧ i ≤ l.length ∧ l.length - i ≤ kx ∧ Hid (∀ y ∈ l.take i, x ≠ y))
  case atStart => exact ⟨rfl, 0, rfl, by omega, by omega, by simp [Hid]⟩
  case round =>
    obtain ⟨rfl, i, rfl, hi, hkx, hn⟩ := hrel
    by_cases hlt : i < l.length
    · have hltz : (i : Int) < (l.length : Int) := by omega
      obtain ⟨b, off, y, rfl, hc, hy⟩ := HI.out.at hlt
      by_cases he : x = y
      · subst he
        go_wp2
        go_ret
        refine ⟨⟨i, rfl, ?_⟩, rfl⟩
        unfold Idx9
        rw [List.contains_iff_mem.2 (List.mem_of_getElem? hy.out)]
        simp
      · have heb : (x == y) = false := by simpa using he
        have HE := hid he
        clear he
        go_wp2
        go_roundg (l.length - (i + 1))
        case measure => omega
        case rel =>
          refine ⟨rfl, i + 1, by first | rfl | go_num, by omega, Nat.le_refl _, ?_⟩
          show ∀ _, _
          intro z hz
          rw [List.take_add_one, hy.out] at hz
          rcases List.mem_append.1 hz with hz | hz
          · exact hn.out z hz
          · simp at hz; rw [hz]; exact HE.out
    · have hltz : ¬ (i : Int) < (l.length : Int) := by omega
      go_wp2
      go_ret
      refine ⟨⟨-1, rfl, ?_⟩, rfl⟩
      unfold Idx9
      have h := hn.out
      rw [List.take_of_length_le (by omega)] at h
      have : l.contains x = false := by
        rw [← Bool.not_eq_true, List.contains_iff_mem]
        exact fun hm => h x hm rfl
      rw [this]; rfl
theorem contains9_any (l : List Int) (x : Int) (a : Option Addr) (c : Nat) (hl : l.length ≤ 1000) (w : World) (hI : Ints .u64 w a l) :
    Calls Try.prog 38 #[.slice a l.length c, .int .u64 x] w fun e w' => e = .returned (.bool (l.contains x)) ∧ w' = w := by
  have HC := hid (index9_any l x a c hl w hI)
  obtain ⟨r, hr⟩ : ∃ r, l.contains x = r := ⟨_, rfl⟩
  rw [hr]
  have HR := hid hr
  clear hI hr
  go_enter Try.func38, Try.ntmps38
  go_wp2_with fail
  refine HC.out.mono ?_
  rintro e w' ⟨⟨q, rfl, hq⟩, rfl⟩
  have HQ := hid hq
  clear hq
  go_wp2
  exact bodyPost_ret (v := .bool (decide (0 ≤ q))) (by simp [results, Try.results38, go_sem]) rfl ⟨by rw [show decide (0 ≤ q) = _ from HQ.out, HR.out], rfl⟩
theorem indexFunc9_any (l : List Int) (a : Option Addr) (c : Nat) (w : World) (hl : l.length ≤ 1000000) (hI : Ints .u8 w a l) :
    Calls Try.prog 46 #[.slice a l.length c, .func (.func 37) #[] #[]] w fun e w' => (∃ r : Int, e = .returned (.int .i64 r) ∧ Idx0 l r) ∧ w' = w := by
  have HI := hid hI
  clear hI
  go_enter Try.func46, Try.ntmps46
  go_wp2_with fail
  go_loopg [8] (l.length) (fun kx s8 wr => wr = w ∧ ∃ (i : Nat), s8 = .int .i64 i ∧ i ≤ l.length ∧ l.length - i ≤ kx ∧ Hid (any9 (l.take i) = false))
  case atStart => exact ⟨rfl, 0, rfl, by omega, by omega, rfl⟩
  case round =>
    obtain ⟨rfl, i, rfl, hi, hkx, hn⟩ := hrel
    by_cases hlt : i < l.length
    · have hltz : (i : Int) < (l.length : Int) := by omega
      obtain ⟨b, off, y, rfl, hc, hy⟩ := HI.out.at hlt
      by_cases he : y = 0
      · have heb : (y != 0) = false := by simpa using he
        have HE := hid he
        clear he
        go_wp2
        go_roundg (l.length - (i + 1))
        case measure => omega
        case rel =>
          refine ⟨rfl, i + 1, by first | rfl | go_num, by omega, Nat.le_refl _, ?_⟩
          show _ = _
          have h := hn.out
          unfold any9 at h ⊢
          rw [List.take_add_one, hy.out, HE.out]
          simp only [List.any_append, h]; rfl
      · have heb : (y != 0) = true := by simpa using he
        have HE := hid heb
        go_wp2
        go_ret
        refine ⟨⟨i, rfl, ?_⟩, rfl⟩
        unfold Idx0
        have : any9 l = true := List.any_eq_true.2 ⟨y, List.mem_of_getElem? hy.out, HE.out⟩
        rw [this]; simp
    · have hltz : ¬ (i : Int) < (l.length : Int) := by omega
      go_wp2
      go_ret
      refine ⟨⟨-1, rfl, ?_⟩, rfl⟩
      unfold Idx0
      have h := hn.out
      rw [List.take_of_length_le (by omega)] at h
      rw [h]; rfl
theorem containsFunc9_any (l : List Int) (a : Option Addr) (c : Nat) (w : World) (hl : l.length ≤ 1000000) (hI : Ints .u8 w a l) :
    Calls Try.prog 36 #[.slice a l.length c, .func (.func 37) #[] #[]] w fun e w' => e = .returned (.bool (any9 l)) ∧ w' = w := by
  have HC := hid (indexFunc9_any l a c w hl hI)
  obtain ⟨r, hr⟩ : ∃ r, any9 l = r := ⟨_, rfl⟩
  rw [hr]
  have HR := hid hr
  clear hI hr
  go_enter Try.func36, Try.ntmps36
  go_wp2_with fail
  refine HC.out.mono ?_
  rintro e w' ⟨⟨q, rfl, hq⟩, rfl⟩
  have HQ := hid hq
  clear hq
  go_wp2
  exact bodyPost_ret (v := .bool (decide (0 ≤ q))) (by simp [results, Try.results36, go_sem]) rfl ⟨by rw [show decide (0 ≤ q) = _ from HQ.out, HR.out], rfl⟩
end Go.Proofs.Ytlikpafjlojagaa
