/- Contracts of the document's rows: Get. -/
import Derived.Test.YtkgjmpcdndohpaaDoorRowG
namespace Go.Proofs.YtkgjmpcdndohpaaDoor
open Go.RowKit

theorem zeros_take_succ {l : List Int} {t : Nat} {x : Int} (hx : l[t]? = some x) (hp : zeros (l.take t) = true) (h0 : x = 0) : zeros (l.take (t + 1)) = true := zeros_succ hx hp h0
theorem zeros_take_false {l : List Int} {t q : Nat} {x : Int} (hx : l[t]? = some x) (ht : t < q) (h0 : x ≠ 0) : zeros (l.take q) = false :=
  zeros_false (k := t) (by rw [List.getElem?_take, if_pos ht, hx]) h0

set_option maxHeartbeats 1600000 in
theorem refGet_any (l bs : List Int) (a b : Option Addr) (c d : Nat) (w : World) (hl : l.length ≤ 9223372036854775807) (hcd : bs.length ≤ d) (hd : d ≤ 9223372036854775807)
    (ho : Octets bs) (ha : Ints .i64 w a l) (hb : Ints .u8 w b bs) :
    Calls Tryd.prog 26 #[.slice a l.length c, .slice b bs.length d] w fun e w' => GetPost (getW l bs) w e w' := by
  cases hr : rightW l
  · have hp : Hid (getW l bs = .error 2) := by simp [Hid, getW, hr]
    go_enter Tryd.func26, Tryd.ntmps26
    go_wp2_with (go_at_call 32; refine (refRight_any _ _ _ _ hl ha).mono ?_; rintro e w' ⟨rfl, rfl⟩)
    go_ret2
    exact .inl ⟨_, hp.out, rfl, Below.refl _ _⟩
  · have hp : Hid (getW l bs = getL l bs) := by simp [Hid, getW, hr]
    have hs0 := GetAt.start (l := l) ho
    have hlen := rightW_len hr
    have HB := hid (sizeL_take_bound hr)
    go_enter Tryd.func26, Tryd.ntmps26
    go_wp2_with (first | (go_at_call 32; refine (refRight_any _ _ _ _ hl ha).mono ?_; rintro e w' ⟨rfl, rfl⟩))
    go_loopw [6, 7, 8] (fun v p i wr => ∃ (k j : Nat) (pre : List Int), k ≤ l.length ∧ i = .int .i64 k ∧ p = .int .i64 j ∧ j ≤ bs.length ∧ j ≤ 4096 ∧ Hid (j = sizeL (l.take k)) ∧
      Fresh 51 w wr v (pre.map (Value.int .u64)) ∧ Hid (GetAt l bs k pre (bs.drop j))) (fun _ _ i _ => l.length - (intOf i).toNat)
    case atStart => exact ⟨0, 0, [], Nat.zero_le _, rfl, rfl, Nat.zero_le _, by omega, by simp [Hid, sizeL], ⟨own_nil _ _, Below.refl _ _, by simp [Value.ownBlock]⟩, by simpa [Hid] using hs0⟩
    case round =>
      clear hs0
      obtain ⟨k, j, pre, hk, rfl, rfl, hj, hj2, hjs, hf, hP⟩ := hrel
      by_cases hlt : k < l.length
      · obtain ⟨b1, off1, x, rfl, hcell, hx⟩ := (ha.below hf.bel).at hlt
        have hxx := isW_abs (rightW_get hr hx.out)
        have hpl : (pre.map (Value.int .u64)).length ≤ 64 := by rw [List.length_map]; have := hP.out.len; omega
        have hx1 : -64 ≤ x := by omega
        have hx2 : x ≤ 8 := by omega
        have hx0 : x ≠ 0 := by omega
        have hrl : (bs.drop j).length = bs.length - j := List.length_drop ..
        by_cases hsh : bs.length - j < x.natAbs
        · have hno := hid (hP.out.short hx.out (by omega))
          by_cases hneg : x < 0
          all_goals
            have hsh2 : (bs.length : Int) - (j : Int) < (if x < 0 then - x else x) := by split <;> omega
            simp only [hneg, if_true, if_false] at hsh2
            clear hxx hx0 hrl
            go_wp2_with go_in
            go_ret2
            exact .inl ⟨_, by rw [hp.out, hno.out], rfl, hf.bel⟩
        · obtain ⟨b2, off2, _, rfl, _, _⟩ := hb.at (show j < bs.length by omega)
          have hlr : x.natAbs ≤ (bs.drop j).length := by omega
          by_cases hpos : 0 < x
          · obtain ⟨q, rfl⟩ := Int.eq_ofNat_of_zero_le (show 0 ≤ x by omega)
            have hnext0 := hP.out.num hx.out hlr hpos
            have hjn : j + q = sizeL (l.take (k + 1)) := by rw [sizeL_succ hx.out, ← hjs.out, Int.natAbs_natCast]
            have HJ := hid hjn
            rw [Int.natAbs_natCast, List.drop_drop] at hnext0
            rw [Int.natAbs_natCast] at hlr hsh
            have hnext := hid hnext0
            have hJB : j + q ≤ 4096 := by rw [hjn]; exact HB.out _
            have hI2 : Ints .u8 w (some ⟨b2, off2 + j, none⟩) ((bs.drop j).take q) := by
              have := (hb.drop (j := j) hcd).take q
              rwa [if_neg (by omega)] at this
            have htl : ((bs.drop j).take q).length = q := by rw [List.length_take]; omega
            have hN := fun cc => value_any ((bs.drop j).take q) _ cc wr (by omega) ((ho.drop j).take q) (hI2.below hf.bel)
            rw [htl] at hN
            have HN := hid hN
            have hq1 : (j : Int) + (q : Int) ≤ (bs.length : Int) := by omega
            clear hxx hx0 hN htl hrl hnext0 hlr hI2 hjn
            have hge : ¬ (bs.length : Int) - (j : Int) < (q : Int) := by omega
            go_wp2_with (first | (go_at_call 43; refine (HN.out _).mono ?_; rintro e w' ⟨rfl, rfl⟩) | (at_builtin; refine wp_app rfl _ _ rfl elemU64 rfl (hf.own.alloc _) (k := .u64) (l := [numL ((bs.drop j).take q)]) rfl rfl (ints_one _ _ _ _) ?_ ?_ ?_; (simp only [List.length_singleton]; omega); (simp only [List.length_singleton]; omega); intro v' w' hg) | go_in)
            have hf2 := hf.step (hg.ahead (by_none_alloc _ _))
            rw [← List.map_append] at hf2
            have hcell2 : w'.cell? ⟨b1, off1 + k, none⟩ = some (.int .i64 q) := by
              obtain ⟨b, off, y, he, hc, hy⟩ := (ha.below hf2.bel).at hlt
              have e1 := hx.out
              rw [hy.out] at e1
              simp at he e1
              obtain ⟨rfl, rfl⟩ := he
              subst e1
              exact hc
            have hjq : (j : Int) < (j : Int) + (q : Int) := by omega
            clear hf hg HN hcell
            refine wp_loop_rounds 1 ?_
            rw [rounds_succ]
            go_wp2
            go_roundw
            case rel => exact ⟨k + 1, j + q, _, by omega, by go_num, by go_num, by omega, hJB, HJ, hf2, hnext⟩
            case measure => simp [intOf]; omega
          · obtain ⟨q, rfl⟩ : ∃ q : Nat, x = -(q : Int) := ⟨x.natAbs, by omega⟩
            have hz1 := hP.out.zero hx.out hlr hpos
            have hz2 := hP.out.odd hx.out hlr hpos
            have hjn : j + q = sizeL (l.take (k + 1)) := by rw [sizeL_succ hx.out, ← hjs.out, Int.natAbs_neg, Int.natAbs_natCast]
            have HJ := hid hjn
            rw [Int.natAbs_neg, Int.natAbs_natCast, List.drop_drop] at hz1
            rw [Int.natAbs_neg, Int.natAbs_natCast] at hz2 hlr hsh
            have hJB : j + q ≤ 4096 := by rw [hjn]; exact HB.out _
            have hq0 : 0 < q := by omega
            have hq64 : q ≤ 64 := by omega
            have HZ1 := hid hz1
            have HZ2 := hid hz2
            have hjq : j + q ≤ bs.length := by omega
            clear hxx hx0 hrl hlr hjn hz1 hz2
            have hge : ¬ (bs.length : Int) - (j : Int) < (q : Int) := by omega
            go_wp2_with go_in
            go_loop [10] (fun kk => ∃ t : Nat, t ≤ q ∧ kk = .int .i64 ((j + t : Nat) : Int) ∧ Hid (zeros ((bs.drop j).take t) = true)) (fun kk => j + q - (intOf kk).toNat)
            case atStart => exact ⟨0, Nat.zero_le _, rfl, by simp [Hid, zeros]⟩
            case round =>
              obtain ⟨t, ht, rfl, hzt⟩ := hrel
              by_cases htq : t < q
              · obtain ⟨b3, off3, y, he, hcy, hy⟩ := (hb.below hf.bel).at (show j + t < bs.length by omega)
                simp at he
                obtain ⟨rfl, rfl⟩ := he
                have hy2 : (bs.drop j)[t]? = some y := by rw [List.getElem?_drop]; exact hy.out
                have i1 : ((j + t : Nat) : Int) < (j : Int) + (q : Int) := by omega
                have i2 : ((j + t : Nat) : Int) < (bs.length : Int) := by omega
                by_cases hy0 : y = 0
                · have hz3 := hid (zeros_take_succ hy2 hzt.out hy0)
                  subst hy0
                  clear hy2
                  go_wp2_with go_in
                  go_round
                  case rel => exact ⟨t + 1, by omega, by congr 1, hz3⟩
                  case measure => simp [intOf]; omega
                · have hno : Hid (getL l bs = .error 2) := HZ2.out (zeros_take_false hy2 htq hy0)
                  have e1 : (y != 0) = true := by simp; omega
                  clear hy2 hy0
                  go_wp2_with go_in
                  go_ret2
                  exact .inl ⟨_, by rw [hp.out, hno.out], rfl, hf.bel⟩
              · obtain rfl : t = q := by omega
                have hnext : Hid _ := HZ1.out hzt.out
                go_wp2_with go_in
                go_roundw
                case rel => exact ⟨k + 1, j + t, _, by omega, by go_num, by go_num, by omega, hJB, HJ, hf, hnext⟩
                case measure => simp [intOf]; omega
      · have hput := hid (hP.out.done (by omega))
        go_wp2
        go_ret2
        exact .inr ⟨_, _, by rw [hp.out, hput.out], rfl, hf⟩
end Go.Proofs.YtkgjmpcdndohpaaDoor
