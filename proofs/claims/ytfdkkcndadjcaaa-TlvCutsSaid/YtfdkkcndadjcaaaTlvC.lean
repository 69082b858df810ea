/- Package tlv: a thing's body is read; what One answers, as lists; One. -/
import Derived.Test.YtfdkkcndadjcaaaTlvB
namespace Go.Proofs.Ytfdkkcndadjcaaa
open Go.RowKit

theorem getW_zeros {z : Nat} (h1 : 1 ≤ z) (h64 : z ≤ 64) {l : List Int} : getW [-(z : Int)] l = if l.length < z then .error 1 else if zeros (l.take z) then .ok [] else .error 2 := by
  have hw : isW (-(z : Int)) = true := by simp [isW]; omega
  have hr : rightW [-(z : Int)] = true := by simp [rightW, allW, hw]
  rw [getW, if_pos hr]
  simp only [getL, Int.natAbs_neg, Int.natAbs_natCast]
  rw [if_neg (show ¬ 0 < -(z : Int) by omega)]

theorem gives_ints {w w' : World} {row : Option Nat} {k : Nat} {out : List Int} (h : Gives 5 w w' row (.slice (some ⟨k, 0, none⟩) out.length out.length) (out.map (Value.int .u8))) : Ints .u8 w' (some ⟨k, 0, none⟩) out ∧ w.heap.size ≤ k ∧ k < w'.heap.size := by
  have ho := h.own
  rw [show out.map (Value.int .u8) = out.map (Value.int .u8) from rfl] at ho
  refine ⟨?_, h.new k rfl, (ho.lt k rfl).2⟩
  obtain ⟨a, c, he, _, _, hI⟩ := own_ints ho
  simp at he
  obtain ⟨rfl, _⟩ := he
  exact hI

theorem wrap_nat {n : Nat} (h : n ≤ 9223372036854775807) : IntKind.i64.wrap (n : Int) = n := by simp [IntKind.wrap, IntKind.bits, IntKind.signed]; omega

/-- what readBody leaves where it reads -/
def BodyPost (w : World) (out : List Int) (e : Ending) (w' : World) : Prop :=
  ∃ k, e = .returned (.tuple #[.slice (some ⟨k, 0, none⟩) out.length out.length, .int .i64 0]) ∧ w.heap.size ≤ k ∧ Ints .u8 w' (some ⟨k, 0, none⟩) out ∧ Below w.heap.size w w'

set_option maxRecDepth 100000 in
theorem readBody_plain (w : World) (L S : Int) (P : Bool) (B O : Int) (b : List Int) (a : Option Addr) (c n : Nat) (hb : b.length ≤ c) (hI : Ints .u8 w a b) (ho : Octets b) (hn : n ≤ b.length) (hm : n ≤ 1000000) :
    Calls Try.prog 21 #[.agg #[.int .i64 L, .int .i64 S, .bool P, .int .i64 B, .int .i64 O], .slice a b.length c, .int .i64 n, .int .i64 0] w (BodyPost w (b.take n)) := by
  have hnc : n ≤ c := by omega
  have hnci : (n : Int) ≤ (c : Int) := by omega
  have hmin : ((if n < b.length then (n : Int) else (b.length : Int)) : Int) = n := by split <;> omega
  have hni : (n : Int) ≤ (b.length : Int) := by omega
  have hwr := wrap_nat (n := n) (by omega)
  obtain ⟨W, hW, hbW, hlt, hsh⟩ := boxed_shape w L S P B O 24
  have HW := hid hW
  have hIW : Ints .u8 W a (b.take n) := (hI.take n).below hbW
  have hl : (b.take n).length = n := by rw [List.length_take]; omega
  have ho' : Octets (b.take n) := ho.take n
  have htt : (b.take n).take n = b.take n := by rw [List.take_take, Nat.min_self]
  obtain ⟨out, hout⟩ : ∃ out, out = b.take n := ⟨_, rfl⟩
  rw [← hout] at hIW hl ho' htt ⊢
  have HL := hid hl
  have HT := hid htt
  clear hI hW hl htt hout
  go_enter Try.func21, Try.ntmps21
  go_upto_region 1 with fail
  refine wp_tail 12 (by kernel_rfl) (by kernel_rfl) ?_
  simp only [List.take_succ_cons, List.take_zero, List.drop_succ_cons, List.drop_zero]
  repeat still_step
  refine wpStill_nil ?_
  rw [HW.out]
  go_wp2_with fail
  refine (new_lit out _ _ _ _ _ W (by rw [HL.out]) (by rw [HL.out]; omega) ho' hIW).mono ?_
  rintro e w1 ⟨g, rfl, hcur, hb1, hg1, hg2⟩
  have hB1 := below_more hbW hb1
  go_wp2_with fail
  refine (hcur.bytes_ok (n := n) (by rw [HL.out]; omega)).mono ?_
  rintro e w2 hpost
  rw [HT.out] at hpost
  obtain ⟨k, rfl, hG, hcur2⟩ := hpost
  obtain ⟨hI2, hk, hk2⟩ := gives_ints hG
  have hB2 := below_by hB1 hG.by_ (by omega)
  go_wp2_with fail
  refine hcur2.err.mono ?_
  rintro e w6 ⟨rfl, rfl⟩
  go_wp2
  refine bodyPost_ret (v := .tuple #[.slice (some ⟨k, 0, none⟩) out.length out.length, .int .i64 0]) (by simp [results, Try.results21, go_sem]) rfl ⟨k, rfl, ?_, hI2, hB2⟩
  have := hbW.size
  have := hb1.size
  omega

set_option maxRecDepth 100000 in
theorem readBody_zeros (w : World) (L S : Int) (P : Bool) (B O : Int) (b : List Int) (a : Option Addr) (c n z : Nat) (hz : 1 ≤ z) (hz64 : z ≤ 64) (hb : b.length ≤ c) (hc : c ≤ 9223372036854775807) (hI : Ints .u8 w a b) (ho : Octets b) (hn : n + z ≤ b.length) (hm : n ≤ 1000000)
    (ok : Bool) (hok : zeros ((b.drop n).take z) = ok) :
    Calls Try.prog 21 #[.agg #[.int .i64 L, .int .i64 S, .bool P, .int .i64 B, .int .i64 O], .slice a b.length c, .int .i64 n, .int .i64 z] w
      (fun e w' => if ok then BodyPost w (b.take n) e w' else ∃ v, e = .returned (.tuple #[v, .int .i64 O]) ∧ Below w.heap.size w w') := by
  obtain ⟨m, hmm⟩ : ∃ m : Nat, m = n + z := ⟨_, rfl⟩
  have hmc : m ≤ c := by omega
  have hmci : (m : Int) ≤ (c : Int) := by omega
  have hmin : ((if m < b.length then (m : Int) else (b.length : Int)) : Int) = m := by split <;> omega
  have hni : (m : Int) ≤ (b.length : Int) := by omega
  have hwr : IntKind.i64.wrap ((n : Int) + (z : Int)) = m := by rw [← Int.natCast_add, ← hmm]; exact wrap_nat (by omega)
  have hz0 : (0 : Int) < (z : Int) := by omega
  obtain ⟨W, hW, hbW, hlt, hsh⟩ := boxed_shape w L S P B O 24
  have HW := hid hW
  have hIW : Ints .u8 W a (b.take m) := (hI.take m).below hbW
  have hl : (b.take m).length = m := by rw [List.length_take]; omega
  have ho' : Octets (b.take m) := ho.take m
  have htt : (b.take m).take n = b.take n := by rw [List.take_take]; congr 1; omega
  have hdt : ((b.take m).drop n).take z = (b.drop n).take z := by rw [List.drop_take, List.take_take]; congr 1; omega
  have hln : (b.take n).length = n := by rw [List.length_take]; omega
  obtain ⟨all, hall⟩ : ∃ all, all = b.take m := ⟨_, rfl⟩
  obtain ⟨out, hout⟩ : ∃ out, out = b.take n := ⟨_, rfl⟩
  rw [← hall] at hIW hl ho' htt hdt
  rw [← hout] at htt hln ⊢
  rw [← hdt] at hok
  have hgw := getW_zeros hz hz64 (l := all.drop n)
  rw [if_neg (by rw [List.length_drop]; omega), hok] at hgw
  have HL := hid hl
  have HT := hid htt
  have HG := hid hgw
  have HM := hid hmm
  have HN := hid hln
  clear hI hW hl htt hdt hall hout hok hgw hmm hln
  go_enter Try.func21, Try.ntmps21
  go_upto_region 1 with fail
  refine wp_tail 12 (by kernel_rfl) (by kernel_rfl) ?_
  simp only [List.take_succ_cons, List.take_zero, List.drop_succ_cons, List.drop_zero]
  repeat still_step
  refine wpStill_nil ?_
  rw [HW.out]
  go_wp2_with fail
  refine (new_lit all _ _ _ _ _ W (by rw [HL.out]) (by rw [HL.out]; have := HM.out; omega) ho' hIW).mono ?_
  rintro e w1 ⟨g, rfl, hcur, hb1, hg1, hg2⟩
  have hB1 := below_more hbW hb1
  go_wp2_with fail
  refine (hcur.bytes_ok (n := n) (by rw [HL.out]; have := HM.out; omega)).mono ?_
  rintro e w2 hpost
  rw [HT.out] at hpost
  obtain ⟨k, rfl, hG, hcur2⟩ := hpost
  obtain ⟨hI2, hk, hk2⟩ := gives_ints hG
  have hB2 := below_by hB1 hG.by_ (by omega)
  have hgk : g < k := by omega
  have hk0 : w.heap.size ≤ k := by have := hbW.size; have := hb1.size; omega
  go_wp2_with fail
  cases ok
  · refine ((hcur2.below (below_alloc _ _)).row_odd [-(z : Int)] _ _ (by simp) (ints_one _ _ _ _) HG.out).mono ?_
    rintro e w3 ⟨rfl, hcur3, hb3⟩
    have hB3 := below_by (below_more hB2 (below_alloc _ _)) hb3 (by omega)
    go_wp2_with fail
    refine hcur3.err.mono ?_
    rintro e w6 ⟨rfl, rfl⟩
    go_wp2
    refine bodyPost_ret (v := .tuple #[.slice (some ⟨k, 0, none⟩) out.length out.length, .int .i64 O]) (by simp [results, Try.results21, go_sem]) rfl ?_
    exact ⟨⟨_, rfl⟩, hB3⟩
  · refine ((hcur2.below (below_alloc _ _)).row_ok [-(z : Int)] [] _ _ (by simp) (ints_one _ _ _ _) HG.out).mono ?_
    rintro e w3 ⟨v, rfl, hG3, hcur3⟩
    have hB3 := below_by (below_more hB2 (below_alloc _ _)) hG3.by_ (by omega)
    have hI3 := (hI2.below (below_alloc _ _)).by hG3.by_ (by simp; omega)
    go_wp2_with fail
    refine hcur3.err.mono ?_
    rintro e w6 ⟨rfl, rfl⟩
    go_wp2
    refine bodyPost_ret (v := .tuple #[.slice (some ⟨k, 0, none⟩) out.length out.length, .int .i64 0]) (by simp [results, Try.results21, go_sem]) rfl ?_
    exact ⟨k, rfl, hk0, hI3, hB3⟩

set_option maxRecDepth 100000 in
theorem readBody_short (w : World) (L S : Int) (P : Bool) (B O : Int) (hB : B ≠ 0) (b : List Int) (a : Option Addr) (c n z : Nat) (hz64 : z ≤ 64) (hb : b.length ≤ c) (hc : c ≤ 9223372036854775807) (hI : Ints .u8 w a b) (ho : Octets b) (hn : b.length < n + z) (hm : n ≤ 1000000) :
    Calls Try.prog 21 #[.agg #[.int .i64 L, .int .i64 S, .bool P, .int .i64 B, .int .i64 O], .slice a b.length c, .int .i64 n, .int .i64 z] w
      (fun e w' => ∃ v, e = .returned (.tuple #[v, .int .i64 B]) ∧ Below w.heap.size w w') := by
  obtain ⟨m, hmm⟩ : ∃ m : Nat, m = n + z := ⟨_, rfl⟩
  have hbi : (b.length : Int) ≤ (c : Int) := by omega
  have hni : ¬ (m : Int) < (b.length : Int) := by omega
  have hwr : IntKind.i64.wrap ((n : Int) + (z : Int)) = m := by rw [← Int.natCast_add, ← hmm]; exact wrap_nat (by omega)
  obtain ⟨W, hW, hbW, hlt, hsh⟩ := boxed_shape w L S P B O 24
  have HW := hid hW
  have hIW : Ints .u8 W a b := hI.below hbW
  have HM := hid hmm
  have HN := hid hn
  have HB := hid hB
  clear hI hW hmm hn hB
  go_enter Try.func21, Try.ntmps21
  go_upto_region 1 with fail
  refine wp_tail 12 (by kernel_rfl) (by kernel_rfl) ?_
  simp only [List.take_succ_cons, List.take_zero, List.drop_succ_cons, List.drop_zero]
  repeat still_step
  refine wpStill_nil ?_
  rw [HW.out]
  go_wp2_with fail
  refine (new_any b _ _ _ _ W (by have := HN.out; omega) ho hIW).mono ?_
  rintro e w1 ⟨g, rfl, hcur, hb1, hg1, hg2⟩
  have hB1 := below_more hbW hb1
  rcases Nat.lt_or_ge b.length n with h | h
  · go_wp2_with fail
    refine (hcur.bytes_short (n := (n : Int)) (by omega)).mono ?_
    rintro e w2 ⟨k, rfl, hG, hcur2⟩
    have hB2 := below_by hB1 hG.by_ (by omega)
    rcases Nat.eq_zero_or_pos z with hz | hz
    · subst hz
      go_wp2_with fail
      refine hcur2.err.mono ?_
      rintro e w6 ⟨rfl, rfl⟩
      go_wp2
      refine bodyPost_ret (v := .tuple #[.slice (some ⟨k, 0, none⟩) 0 0, .int .i64 B]) (by simp [results, Try.results21, go_sem]) rfl ?_
      exact ⟨_, rfl, hB2⟩
    · have hz0 : (0 : Int) < (z : Int) := by omega
      go_wp2_with fail
      refine ((hcur2.below (below_alloc _ _)).row_late HB.out _).mono ?_
      rintro e w3 ⟨rfl, rfl⟩
      go_wp2_with fail
      refine (hcur2.below (below_alloc _ _)).err.mono ?_
      rintro e w6 ⟨rfl, rfl⟩
      go_wp2
      refine bodyPost_ret (v := .tuple #[.slice (some ⟨k, 0, none⟩) 0 0, .int .i64 B]) (by simp [results, Try.results21, go_sem]) rfl ?_
      exact ⟨_, rfl, below_more hB2 (below_alloc _ _)⟩
  · have hz : 1 ≤ z := by have := HN.out; omega
    have hz0 : (0 : Int) < (z : Int) := by omega
    have hgw := getW_zeros hz hz64 (l := b.drop n)
    rw [if_pos (by rw [List.length_drop]; have := HN.out; omega)] at hgw
    have HG := hid hgw
    have hl : (b.take n).length = n := by rw [List.length_take]; omega
    obtain ⟨out, hout⟩ : ∃ out, out = b.take n := ⟨_, rfl⟩
    rw [← hout] at hl
    have HO := hid hout
    have HL := hid hl
    clear hgw hout hl
    go_wp2_with fail
    refine (hcur.bytes_ok (n := n) h).mono ?_
    rintro e w2 hpost
    rw [← HO.out] at hpost
    obtain ⟨k, rfl, hG, hcur2⟩ := hpost
    have hB2 := below_by hB1 hG.by_ (by omega)
    go_wp2_with fail
    refine ((hcur2.below (below_alloc _ _)).row_short [-(z : Int)] _ _ (by simp) (ints_one _ _ _ _) HG.out).mono ?_
    rintro e w3 ⟨rfl, hcur3, hb3⟩
    have hB3 := below_by (below_more hB2 (below_alloc _ _)) hb3 (by omega)
    go_wp2_with fail
    refine hcur3.err.mono ?_
    rintro e w6 ⟨rfl, rfl⟩
    go_wp2
    refine bodyPost_ret (v := .tuple #[.slice (some ⟨k, 0, none⟩) out.length out.length, .int .i64 B]) (by simp [results, Try.results21, go_sem]) rfl ?_
    exact ⟨_, rfl, hB3⟩
end Go.Proofs.Ytfdkkcndadjcaaa
