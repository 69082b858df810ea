/- Contracts of package row: Put. -/
import Derived.Test.YtkgjmpcdndohpaaDoorRowD
import Derived.StillTailTactics
namespace Go.Proofs.YtkgjmpcdndohpaaDoor
open Go.RowKit

theorem quietS {P : Program} {f : FuncId} {args : Array Value} {w : World} {n : Nat} {v : Value}
    (h : Calls P f args (w.drewN n) fun e w' => e = .returned v ∧ w.drewN n = w') : Calls P f args (w.drewN n) fun e w'' => e = .returned v ∧ ∃ m, w'' = w.drewN m :=
  h.mono fun _ _ ⟨he, hm⟩ => ⟨he, n, hm.symm⟩

/-- A region that draws its order, whose first n operations read alone, and whose tail stands in one order. -/
theorem wp_tail {P : Program} {id : Nat} {Q : Exit → Act → World → Prop} {a : Act} {w : World} {l : List Oper} (n : Nat) (hm : P.follows .mixedOrders = true) (hB : Region.lexTailB .any l.toArray n = true)
    (h : wpStill P l.toArray w.drew (fun a' => wpList P l.toArray Q (l.drop n) a' w.drew) (l.take n) a) : (Code.region id l.toArray true).wp P Q a w :=
  wp_region_still_tail n hm hB h

/-- numbers of 64 bits -/
def U64s (l : List Int) : Prop := ∀ x, x ∈ l → 0 ≤ x ∧ x < p256 8

/-- numbers by widths, as bytes -/
def putL : List Int → List Int → Option (List Int)
  | [], _ => some []
  | x :: ws, ns =>
    if x < 0 then (putL ws ns).map (List.replicate x.natAbs 0 ++ ·)
    else match ns with
      | [] => none
      | n :: r => if roomB n x then (putL ws r).map (bytesL n x.toNat ++ ·) else none

def putW (l ns : List Int) : Option (List Int) := if rightW l && (countL l == ns.length) then putL l ns else none

theorem drop_of_get {l : List Int} {k : Nat} {x : Int} (h : l[k]? = some x) : l.drop k = x :: l.drop (k + 1) := by
  have hk : k < l.length := by
    rcases Nat.lt_or_ge k l.length with h' | h'
    · exact h'
    · rw [List.getElem?_eq_none h'] at h; simp at h
  rw [List.drop_eq_getElem_cons hk]
  rw [List.getElem?_eq_getElem hk] at h
  simp at h
  rw [h]

/-- what has been put so far: pre; the widths from k on and the numbers r are left -/
structure PutAt (l ns : List Int) (k : Nat) (pre r : List Int) : Prop where
  put : putL l ns = (putL (l.drop k) r).map (pre ++ ·)
  count : countL (l.drop k) = r.length
  u64 : U64s r
  len : pre.length = sizeL (l.take k)

theorem PutAt.start {l ns : List Int} (h : countL l = ns.length) (hu : U64s ns) : PutAt l ns 0 [] ns :=
  ⟨by simp, by simpa using h, hu, by simp [sizeL]⟩

theorem PutAt.zero {l ns pre r : List Int} {k : Nat} {x : Int} (h : PutAt l ns k pre r) (hx : l[k]? = some x) (hn : x < 0) : PutAt l ns (k + 1) (pre ++ List.replicate x.natAbs 0) r := by
  have hd := drop_of_get hx
  refine ⟨?_, ?_, h.u64, ?_⟩
  · rw [h.put, hd, putL.eq_def]
    simp only [if_pos hn, Option.map_map]
    congr 1
    funext y
    simp
  · have := h.count
    rw [hd, countL, List.countP_cons, if_neg (by simp; omega)] at this
    exact this
  · rw [sizeL_succ hx, List.length_append, h.len]; simp

theorem PutAt.next {l ns pre r : List Int} {k : Nat} {x : Int} (h : PutAt l ns k pre r) (hx : l[k]? = some x) (hn : 0 < x) :
    ∃ n r', r = n :: r' ∧ 0 ≤ n ∧ n < p256 8 ∧ (roomB n x = false → putL l ns = none) ∧ (roomB n x = true → PutAt l ns (k + 1) (pre ++ bytesL n x.toNat) r') := by
  have hd := drop_of_get hx
  have hc := h.count
  rw [hd, countL, List.countP_cons, if_pos (by simpa using hn)] at hc
  cases r with
  | nil => simp at hc
  | cons n r' =>
    have hu := h.u64 n (List.mem_cons_self ..)
    refine ⟨n, r', rfl, hu.1, hu.2, ?_, ?_⟩
    · intro hr
      rw [h.put, hd, putL.eq_def]
      simp [hr, show ¬ x < 0 by omega]
    · intro hr
      refine ⟨?_, ?_, fun y hy => h.u64 y (List.mem_cons_of_mem _ hy), ?_⟩
      · rw [h.put, hd, putL.eq_def]
        simp only [show ¬ x < 0 by omega, if_false, hr, if_true, Option.map_map]
        congr 1
        funext y
        simp
      · simp at hc; unfold countL; omega
      · rw [sizeL_succ hx, List.length_append, h.len, bytesL_length]; omega

theorem PutAt.done {l ns pre r : List Int} {k : Nat} (h : PutAt l ns k pre r) (hk : l.length ≤ k) : putL l ns = some pre := by
  rw [h.put, List.drop_of_length_le hk]; simp [putL]

/-- what Put hands back -/
def PutPost (s : Option (List Int)) (w : World) (e : Ending) (w' : World) : Prop :=
  (s = none ∧ e = .returned (.tuple #[.slice none 0 0, .bool false]) ∧ Below w.heap.size w w') ∨
  ∃ bs v, s = some bs ∧ e = .returned (.tuple #[v, .bool true]) ∧ Fresh 5 w w' v (bs.map (Value.int .u8))

theorem putW_no {l ns : List Int} (h : rightW l = false ∨ countL l ≠ ns.length) : putW l ns = none := by
  unfold putW
  rcases h with h | h
  · simp [h]
  · have : (countL l == ns.length) = false := by simp; omega
    rw [this]; simp
theorem putW_yes {l ns : List Int} (h : rightW l = true) (h' : countL l = ns.length) : putW l ns = putL l ns := by
  unfold putW
  simp [h, h']

set_option maxRecDepth 100000 in
theorem put_any (l ns : List Int) (a b : Option Addr) (c d : Nat) (w : World) (hl : l.length ≤ 9223372036854775807) (hcd : ns.length ≤ d)
    (hu : U64s ns) (ha : Ints .i64 w a l) (hb : Ints .u64 w b ns) :
    Calls Tryd.prog 30 #[.slice a l.length c, .slice b ns.length d] w fun e w' => PutPost (putW l ns) w e w' := by
  cases hr : rightW l
  · have hp := hid (putW_no (ns := ns) (.inl hr))
    go_enter Tryd.func30, Tryd.ntmps30
    go_wp2_with (go_at_call 44; refine (right_any _ _ _ _ hl ha).mono ?_; rintro e w' ⟨rfl, rfl⟩)
    go_ret2
    exact .inl ⟨hp.out, rfl, Below.refl _ _⟩
  · have hcw : countW l = countL l := by simp [countW, hr]
    have hc64 := countL_take_bound hr l.length
    rw [List.take_length] at hc64
    have hcw2 : countW l ≤ 64 := by omega
    by_cases hcl : countL l = ns.length
    · have e0 : ((ns.length : Int) != (countW l : Int)) = false := by rw [bne_eq_false_iff_eq]; omega
      have hp := hid (putW_yes hr hcl)
      have hsb := sizeL_take_bound hr l.length
      rw [List.take_length] at hsb
      have hsw : sizeW l = sizeL l := by simp [sizeW, hr]
      have hs0 := PutAt.start hcl hu
      have HW := hid hcw
      have HSW := hid hsw
      have hsb2 : sizeW l ≤ 4096 := by omega
      have hlen := rightW_len hr
      have HB := hid (sizeL_take_bound hr)
      clear hcw hsw hcl
      go_enter Tryd.func30, Tryd.ntmps30
      go_wp2_with (first | (go_at_call 44; refine (right_any _ _ _ _ hl ha).mono ?_; rintro e w' ⟨rfl, rfl⟩) | (go_at_call 45; refine (count_any _ _ _ _ hl ha).mono ?_; rintro e w' ⟨rfl, rfl⟩) | (go_at_call 41; refine (size_any _ _ _ _ hl ha).mono ?_; rintro e w' ⟨rfl, rfl⟩) | (at_make; refine wp_make rfl _ _ rfl elemU8 rfl rfl rfl rfl (Nat.zero_le _) (by omega) (by omega) ?_; intro w1 hf))
      go_loopw [1, 6, 23] (fun u v i wr => ∃ (k m d' : Nat) (pre r : List Int) (b' : Option Addr), k ≤ l.length ∧ i = .int .i64 k ∧ u = .slice b' m d' ∧ m ≤ d' ∧ Hid (m = r.length) ∧ Ints .u64 w b' r ∧
        Fresh 5 w wr v (pre.map (Value.int .u8)) ∧ Hid (PutAt l ns k pre r)) (fun _ _ i _ => l.length - (intOf i).toNat)
      case atStart => exact ⟨0, _, _, [], ns, _, Nat.zero_le _, rfl, rfl, hcd, rfl, hb, by simpa using hf, hs0⟩
      case round =>
        clear hf hs0
        obtain ⟨k, m, d', pre, r, b', hk, rfl, rfl, hmd, hm, hi, hf, hP⟩ := hrel
        by_cases hlt : k < l.length
        · obtain ⟨b1, off1, x, rfl, hcell, hx⟩ := (ha.below hf.bel).at hlt
          have hxx := isW_abs (rightW_get hr hx.out)
          have hpl : (pre.map (Value.int .u8)).length ≤ 4096 := by rw [List.length_map, hP.out.len]; exact HB.out k
          by_cases hneg : x < 0
          · have hx1 : -64 ≤ x := by omega
            have hnext := hid (hP.out.zero hx.out hneg)
            clear hxx
            go_wp2_with (first | (at_builtin; refine wp_app_zeros rfl _ _ rfl elemU8 underInt rfl hf.own (n := x.natAbs) rfl ?_ ?_ ?_ ?_; omega; omega; omega; intro v' w' hg) | go_in)
            have hf2 := hf.step hg
            rw [← List.map_append] at hf2
            clear hf hg
            go_roundw
            case rel => exact ⟨k + 1, _, _, _, _, _, by omega, by go_num, rfl, hmd, hm, hi, hf2, hnext⟩
            case measure => simp [intOf]; omega
          · have hx1 : 0 < x := by omega
            have hx2 : x ≤ 8 := by omega
            obtain ⟨q, rfl⟩ := Int.eq_ofNat_of_zero_le (show 0 ≤ x by omega)
            obtain ⟨n, r', rfl, hn0, hn8, hno, hyes⟩ := hP.out.next hx.out hx1
            have hm1 : 0 < m := by have := hm.out; simp at this; omega
            have hm2 : (0 : Int) < (m : Int) := by omega
            obtain ⟨b2, off2, y, rfl, hcell2, hy⟩ := (hi.below hf.bel).at (i := 0) (by simp)
            obtain rfl : n = y := by simpa [Hid] using hy
            have hk2 : (k : Int) < (l.length : Int) := by omega
            rw [Nat.add_zero] at hcell2
            have HN := hid hn8
            clear hn8 hy hxx
            cases hroom : roomB n (q : Int)
            · have hnone := hid (hno hroom)
              clear hno hyes
              go_wp2_with go_in
              go_quiet ((go_at_call 48; exact quietS (hasRoom_any _ _ _ hn0 hx1 hx2)))
              go_wp2
              go_ret2
              exact .inl ⟨by rw [hp.out, hnone.out], rfl, below_drewN hf.bel _⟩
            · have hnext := hid (hyes hroom)
              clear hno hyes
              go_wp2_with go_in
              go_quiet ((go_at_call 48; exact quietS (hasRoom_any _ _ _ hn0 hx1 hx2)))
              go_wp2
              refine wp_tail 8 (by kernel_rfl) (by kernel_rfl) ?_
              simp only [List.take_succ_cons, List.take_zero, List.drop_succ_cons, List.drop_zero]
              repeat still_step
              refine wpStill_nil ?_
              have hf1 := hf.behind (by_none_drewN _ (nq + 1))
              clear hf
              go_wp2_with (go_at_call 49; refine (appendNumber_any _ _ _ _ _ (by omega) (by omega) hf1.own).mono ?_; rintro e w' ⟨v', rfl, hg⟩)
              have hf2 := hf1.step hg
              rw [← List.map_append] at hf2
              have hi2 : Ints .u64 w (if d' = 1 then some ⟨b2, off2, none⟩ else some ⟨b2, off2 + 1, none⟩) r' := hi.drop (j := 1) (by have := hm.out; omega)
              clear hf1 hg hi
              go_roundw
              case rel => exact ⟨k + 1, m - 1, d' - 1, _, r', _, by omega, by go_num, rfl, by omega, by have := hm.out; unfold Hid; simp at this; omega, hi2, hf2, hnext⟩
              case measure => simp [intOf]; omega
        · have hput := hid (hP.out.done (by omega))
          go_wp2
          go_ret2
          exact .inr ⟨_, _, by rw [hp.out, hput.out], rfl, hf⟩
    · have e0 : ((ns.length : Int) != (countW l : Int)) = true := by rw [bne_iff_ne]; omega
      have hp := hid (putW_no (ns := ns) (.inr hcl))
      clear hcl hcw
      go_enter Tryd.func30, Tryd.ntmps30
      go_wp2_with (first | (go_at_call 44; refine (right_any _ _ _ _ hl ha).mono ?_; rintro e w' ⟨rfl, rfl⟩) | (go_at_call 45; refine (count_any _ _ _ _ hl ha).mono ?_; rintro e w' ⟨rfl, rfl⟩))
      go_ret2
      exact .inl ⟨hp.out, rfl, Below.refl _ _⟩
end Go.Proofs.YtkgjmpcdndohpaaDoor
