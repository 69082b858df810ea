/- Contracts of package row: Get. -/
import Derived.Test.YtkgjmpcdndohpaaDoorRowF
namespace Go.Proofs.YtkgjmpcdndohpaaDoor
open Go.RowKit

/-- bytes by widths, as numbers: or 1 (too few), or 2 (one is not 0) -/
def getL : List Int → List Int → Except Int (List Int)
  | [], _ => .ok []
  | x :: ws, b =>
    if b.length < x.natAbs then .error 1
    else if 0 < x then (getL ws (b.drop x.natAbs)).map (numL (b.take x.natAbs) :: ·)
    else if zeros (b.take x.natAbs) then getL ws (b.drop x.natAbs) else .error 2
def getW (l b : List Int) : Except Int (List Int) := if rightW l then getL l b else .error 2

/-- what has been got so far: pre; the widths from k on and the bytes r are left -/
structure GetAt (l b : List Int) (k : Nat) (pre r : List Int) : Prop where
  get : getL l b = (getL (l.drop k) r).map (pre ++ ·)
  oct : Octets r
  rest : r = b.drop (sizeL (l.take k))
  len : pre.length ≤ k

theorem emap_map {f g : List Int → List Int} (e : Except Int (List Int)) : (e.map f).map g = e.map (fun x => g (f x)) := by cases e <;> rfl
theorem emap_id (e : Except Int (List Int)) : e.map (fun x => [] ++ x) = e := by cases e <;> rfl

theorem GetAt.start {l b : List Int} (h : Octets b) : GetAt l b 0 [] b := ⟨by simp only [List.drop_zero]; exact (emap_id _).symm, h, by simp [sizeL], by simp⟩

theorem GetAt.short {l b pre r : List Int} {k : Nat} {x : Int} (h : GetAt l b k pre r) (hx : l[k]? = some x) (hs : r.length < x.natAbs) : getL l b = .error 1 := by
  rw [h.get, drop_of_get hx, getL.eq_def]
  simp only [hs, if_true]
  rfl
theorem GetAt.num {l b pre r : List Int} {k : Nat} {x : Int} (h : GetAt l b k pre r) (hx : l[k]? = some x) (hs : x.natAbs ≤ r.length) (hp : 0 < x) :
    GetAt l b (k + 1) (pre ++ [numL (r.take x.natAbs)]) (r.drop x.natAbs) := by
  refine ⟨?_, h.oct.drop _, ?_, ?_⟩
  · rw [h.get, drop_of_get hx, getL.eq_def]
    simp only [show ¬ r.length < x.natAbs by omega, if_false, hp, if_true]
    rw [emap_map]
    congr 1
    funext y
    simp
  · rw [sizeL_succ hx, h.rest, List.drop_drop]
  · have := h.len; simp; omega
theorem GetAt.zero {l b pre r : List Int} {k : Nat} {x : Int} (h : GetAt l b k pre r) (hx : l[k]? = some x) (hs : x.natAbs ≤ r.length) (hp : ¬ 0 < x) (hz : zeros (r.take x.natAbs) = true) :
    GetAt l b (k + 1) pre (r.drop x.natAbs) := by
  refine ⟨?_, h.oct.drop _, ?_, ?_⟩
  · rw [h.get, drop_of_get hx, getL.eq_def]
    simp only [show ¬ r.length < x.natAbs by omega, if_false, hp, hz, if_true]
  · rw [sizeL_succ hx, h.rest, List.drop_drop]
  · have := h.len; omega
theorem GetAt.odd {l b pre r : List Int} {k : Nat} {x : Int} (h : GetAt l b k pre r) (hx : l[k]? = some x) (hs : x.natAbs ≤ r.length) (hp : ¬ 0 < x) (hz : zeros (r.take x.natAbs) = false) :
    getL l b = .error 2 := by
  rw [h.get, drop_of_get hx, getL.eq_def]
  simp only [show ¬ r.length < x.natAbs by omega, if_false, hp, hz]
  rfl
theorem GetAt.done {l b pre r : List Int} {k : Nat} (h : GetAt l b k pre r) (hk : l.length ≤ k) : getL l b = .ok pre := by
  rw [h.get, List.drop_of_length_le hk]
  simp [getL, Except.map]

/-- what Get hands back -/
def GetPost (s : Except Int (List Int)) (w : World) (e : Ending) (w' : World) : Prop :=
  (∃ c, s = .error c ∧ e = .returned (.tuple #[.slice none 0 0, .int .i64 c]) ∧ Below w.heap.size w w') ∨
  ∃ ns v, s = .ok ns ∧ e = .returned (.tuple #[v, .int .i64 0]) ∧ Fresh 51 w w' v (ns.map (Value.int .u64))

set_option maxHeartbeats 1600000 in
theorem get_any (l bs : List Int) (a b : Option Addr) (c d : Nat) (w : World) (hl : l.length ≤ 9223372036854775807) (hcd : bs.length ≤ d) (hd : d ≤ 9223372036854775807)
    (ho : Octets bs) (ha : Ints .i64 w a l) (hb : Ints .u8 w b bs) :
    Calls Tryd.prog 39 #[.slice a l.length c, .slice b bs.length d] w fun e w' => GetPost (getW l bs) w e w' := by
  cases hr : rightW l
  · have hp : Hid (getW l bs = .error 2) := by simp [Hid, getW, hr]
    go_enter Tryd.func39, Tryd.ntmps39
    go_wp2_with (go_at_call 44; refine (right_any _ _ _ _ hl ha).mono ?_; rintro e w' ⟨rfl, rfl⟩)
    go_ret2
    exact .inl ⟨_, hp.out, rfl, Below.refl _ _⟩
  · have hcw : countW l = countL l := by simp [countW, hr]
    have hc64 := countL_take_bound hr l.length
    rw [List.take_length] at hc64
    have hcw2 : countW l ≤ 64 := by omega
    have hp : Hid (getW l bs = getL l bs) := by simp [Hid, getW, hr]
    have hs0 := GetAt.start (l := l) ho
    have hlen := rightW_len hr
    clear hcw hc64
    go_enter Tryd.func39, Tryd.ntmps39
    go_wp2_with (first | (go_at_call 44; refine (right_any _ _ _ _ hl ha).mono ?_; rintro e w' ⟨rfl, rfl⟩) | (go_at_call 45; refine (count_any _ _ _ _ hl ha).mono ?_; rintro e w' ⟨rfl, rfl⟩) | (at_make; refine wp_make rfl _ _ rfl elemU64 rfl rfl rfl rfl (Nat.zero_le _) (by omega) (by omega) ?_; intro w1 hf))
    go_loopw [1, 6, 17] (fun u v i wr => ∃ (k m d' : Nat) (pre r : List Int) (b' : Option Addr), k ≤ l.length ∧ i = .int .i64 k ∧ u = .slice b' m d' ∧ m ≤ d' ∧ d' ≤ 9223372036854775807 ∧ Hid (m = r.length) ∧ Ints .u8 w b' r ∧
      Fresh 51 w wr v (pre.map (Value.int .u64)) ∧ Hid (GetAt l bs k pre r)) (fun _ _ i _ => l.length - (intOf i).toNat)
    case atStart => exact ⟨0, _, _, [], bs, _, Nat.zero_le _, rfl, rfl, hcd, hd, rfl, hb, by simpa using hf, hs0⟩
    case round =>
      clear hf hs0
      obtain ⟨k, m, d', pre, r, b', hk, rfl, rfl, hmd, hd', hm, hi, hf, hP⟩ := hrel
      by_cases hlt : k < l.length
      · obtain ⟨b1, off1, x, rfl, hcell, hx⟩ := (ha.below hf.bel).at hlt
        have hxx := isW_abs (rightW_get hr hx.out)
        have hpl : (pre.map (Value.int .u64)).length ≤ 64 := by rw [List.length_map]; have := hP.out.len; omega
        have hx1 : -64 ≤ x := by omega
        have hx2 : x ≤ 8 := by omega
        have hx0 : x ≠ 0 := by omega
        by_cases hsh : m < x.natAbs
        · have hno := hid (hP.out.short hx.out (by have := hm.out; omega))
          by_cases hneg : x < 0
          all_goals
            have hsh2 : (m : Int) < (if x < 0 then - x else x) := by split <;> omega
            simp only [hneg, if_true, if_false] at hsh2
            clear hxx hx0
            go_wp2_with go_in
            go_ret2
            exact .inl ⟨_, by rw [hp.out, hno.out], rfl, hf.bel⟩
        · have hr0 : 0 < r.length := by have := hm.out; omega
          obtain ⟨b2, off2, _, rfl, _, _⟩ := hi.at hr0
          have hlr : x.natAbs ≤ r.length := by have := hm.out; omega
          by_cases hpos : 0 < x
          · obtain ⟨q, rfl⟩ := Int.eq_ofNat_of_zero_le (show 0 ≤ x by omega)
            have hnext0 := hP.out.num hx.out hlr hpos
            rw [Int.natAbs_natCast] at hnext0 hlr hsh
            have hnext := hid hnext0
            have hI2 : Ints .u8 w (if d' = q then some ⟨b2, off2, none⟩ else some ⟨b2, off2 + q, none⟩) (r.drop q) := hi.drop (by have := hm.out; omega)
            have htl : (r.take q).length = q := by rw [List.length_take]; omega
            have hN := fun cc => number_any (r.take q) (some ⟨b2, off2, none⟩) cc wr (by omega) (hP.out.oct.take q) ((hi.take q).below hf.bel)
            rw [htl] at hN
            have HN := hid hN
            have hrl : m - q = (r.drop q).length := by have := hm.out; rw [List.length_drop]; omega
            have HRL := hid hrl
            have hq1 : (q : Int) ≤ (m : Int) := by omega
            clear hxx hx0 hN htl hrl hnext0 hlr hr0
            go_wp2_with (first | (go_at_call 51; refine (HN.out _).mono ?_; rintro e w' ⟨rfl, rfl⟩) | (at_builtin; refine wp_app rfl _ _ rfl elemU64 rfl (hf.own.alloc _) (k := .u64) (l := [numL (r.take q)]) rfl rfl (ints_one _ _ _ _) ?_ ?_ ?_; (simp only [List.length_singleton]; omega); (simp only [List.length_singleton]; omega); intro v' w' hg) | go_in)
            have hf2 := hf.step (hg.ahead (by_none_alloc _ _))
            rw [← List.map_append] at hf2
            clear hf hg
            go_roundw
            case rel => exact ⟨k + 1, m - q, d' - q, _, r.drop q, _, by omega, by go_num, rfl, by omega, by omega, HRL, hI2, hf2, hnext⟩
            case measure => simp [intOf]; omega
          · obtain ⟨q, rfl⟩ : ∃ q : Nat, x = -(q : Int) := ⟨x.natAbs, by omega⟩
            have hz1 := hP.out.zero hx.out hlr hpos
            have hz2 := hP.out.odd hx.out hlr hpos
            rw [Int.natAbs_neg, Int.natAbs_natCast] at hz1 hz2 hlr hsh
            have hI2 : Ints .u8 w (if d' = q then some ⟨b2, off2, none⟩ else some ⟨b2, off2 + q, none⟩) (r.drop q) := hi.drop (by have := hm.out; omega)
            have htl : (r.take q).length = q := by rw [List.length_take]; omega
            have hN := fun cc => allZero_any (r.take q) (some ⟨b2, off2, none⟩) cc wr (by omega) ((hi.take q).below hf.bel)
            rw [htl] at hN
            have HN := hid hN
            have hrl : m - q = (r.drop q).length := by have := hm.out; rw [List.length_drop]; omega
            have HRL := hid hrl
            have hq1 : (q : Int) ≤ (m : Int) := by omega
            have hq0 : 0 < q := by omega
            cases hzz : zeros (r.take q)
            · have hno := hid (hz2 hzz)
              clear hxx hx0 hN htl hrl hz1 hz2 hlr hr0
              go_wp2_with (first | (go_at_call 52; refine (HN.out _).mono ?_; rintro e w' ⟨rfl, rfl⟩) | go_in)
              go_ret2
              exact .inl ⟨_, by rw [hp.out, hno.out], rfl, hf.bel⟩
            · have hnext := hid (hz1 hzz)
              clear hxx hx0 hN htl hrl hz1 hz2 hlr hr0
              go_wp2_with (first | (go_at_call 52; refine (HN.out _).mono ?_; rintro e w' ⟨rfl, rfl⟩) | go_in)
              go_roundw
              case rel => exact ⟨k + 1, m - q, d' - q, _, r.drop q, _, by omega, by go_num, rfl, by omega, by omega, HRL, hI2, hf, hnext⟩
              case measure => simp [intOf]; omega
      · have hput := hid (hP.out.done (by omega))
        go_wp2
        go_ret2
        exact .inr ⟨_, _, by rw [hp.out, hput.out], rfl, hf⟩
end Go.Proofs.YtkgjmpcdndohpaaDoor
