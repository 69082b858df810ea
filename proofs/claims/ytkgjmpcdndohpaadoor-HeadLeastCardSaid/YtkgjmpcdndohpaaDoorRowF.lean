/- Contracts of the document's rows: Put. -/
import Derived.Test.YtkgjmpcdndohpaaDoorRowE
import Derived.Deep.RegionHeld3
namespace Go.Proofs.YtkgjmpcdndohpaaDoor
open Go.RowKit

theorem drop_cons {l r : List Int} {j : Nat} {n : Int} (h : n :: r = l.drop j) : l[j]? = some n ∧ j < l.length ∧ r = l.drop (j + 1) := by
  have hj : j < l.length := by
    rcases Nat.lt_or_ge j l.length with h' | h'
    · exact h'
    · rw [List.drop_of_length_le h'] at h; simp at h
  rw [List.drop_eq_getElem_cons hj] at h
  injection h with h1 h2
  exact ⟨by rw [List.getElem?_eq_getElem hj, h1], hj, h2⟩

set_option maxHeartbeats 1600000 in
theorem refPut_any (l ns : List Int) (a b : Option Addr) (c d : Nat) (w : World) (hl : l.length ≤ 9223372036854775807) (hn : ns.length ≤ 9223372036854775806)
    (hu : U64s ns) (ha : Ints .i64 w a l) (hb : Ints .u64 w b ns) :
    Calls Tryd.prog 22 #[.slice a l.length c, .slice b ns.length d] w fun e w' => PutPost (putW l ns) w e w' := by
  cases hr : rightW l
  · have hp := hid (putW_no (ns := ns) (.inl hr))
    go_enter Tryd.func22, Tryd.ntmps22
    go_wp2_with (go_at_call 32; refine (refRight_any _ _ _ _ hl ha).mono ?_; rintro e w' ⟨rfl, rfl⟩)
    go_ret2
    exact .inl ⟨hp.out, rfl, Below.refl _ _⟩
  · have hcw : countW l = countL l := by simp [countW, hr]
    by_cases hcl : countL l = ns.length
    · have e0 : ((countW l : Int) != (ns.length : Int)) = false := by rw [bne_eq_false_iff_eq]; omega
      have hp := hid (putW_yes hr hcl)
      have hs0 := PutAt.start hcl hu
      have hlen := rightW_len hr
      have HB := hid (sizeL_take_bound hr)
      clear hcw hcl
      go_enter Tryd.func22, Tryd.ntmps22
      go_wp2_with (first | (go_at_call 32; refine (refRight_any _ _ _ _ hl ha).mono ?_; rintro e w' ⟨rfl, rfl⟩) | (go_at_call 33; refine (refCount_any _ _ _ _ hl ha).mono ?_; rintro e w' ⟨rfl, rfl⟩))
      go_loopw [6, 7, 8] (fun v jj i wr => ∃ (k j : Nat) (pre r : List Int), k ≤ l.length ∧ i = .int .i64 k ∧ jj = .int .i64 j ∧ j ≤ ns.length ∧ Hid (r = ns.drop j) ∧
        Fresh 5 w wr v (pre.map (Value.int .u8)) ∧ Hid (PutAt l ns k pre r)) (fun _ _ i _ => l.length - (intOf i).toNat)
      case atStart => exact ⟨0, 0, [], ns, Nat.zero_le _, rfl, rfl, Nat.zero_le _, by simp [Hid], ⟨own_nil _ _, Below.refl _ _, by simp [Value.ownBlock]⟩, hs0⟩
      case round =>
        clear hs0
        obtain ⟨k, j, pre, r, hk, rfl, rfl, hj, hrj, hf, hP⟩ := hrel
        by_cases hlt : k < l.length
        · obtain ⟨b1, off1, x, rfl, hcell, hx⟩ := (ha.below hf.bel).at hlt
          have hxx := isW_abs (rightW_get hr hx.out)
          have hpl : (pre.map (Value.int .u8)).length ≤ 4096 := by rw [List.length_map, hP.out.len]; exact HB.out k
          by_cases hneg : x < 0
          · have hx1 : -64 ≤ x := by omega
            have hnext := hid (hP.out.zero hx.out hneg)
            clear hxx
            go_wp2_with (first | (at_builtin; refine wp_app_zeros rfl _ _ rfl elemU8 underInt rfl hf.own (n := x.natAbs) rfl ?_ ?_ ?_ ?_; omega; omega; omega; intro v' w' hg) | go_in)
            have hf2 := hf.step hg
            rw [← List.map_append] at hf2
            clear hf hg
            go_roundw
            case rel => exact ⟨k + 1, j, _, _, by omega, by go_num, rfl, hj, hrj, hf2, hnext⟩
            case measure => simp [intOf]; omega
          · have hx1 : 0 < x := by omega
            have hx2 : x ≤ 8 := by omega
            obtain ⟨q, rfl⟩ := Int.eq_ofNat_of_zero_le (show 0 ≤ x by omega)
            obtain ⟨n, r', rfl, hn0, hn8, hno, hyes⟩ := hP.out.next hx.out hx1
            obtain ⟨hget, hjl, hr'⟩ := drop_cons hrj.out
            obtain ⟨b2, off2, y, rfl, hcell2, hy⟩ := (hb.below hf.bel).at hjl
            obtain rfl : n = y := by have := hy.out; rw [hget] at this; simpa using this
            have hk2 : (k : Int) < (l.length : Int) := by omega
            have hj2 : (j : Int) < (ns.length : Int) := by omega
            have HN := hid hn8
            have HR := hid hr'
            have HG := hid hget
            clear hn8 hy hxx hget hr'
            cases hroom : roomB n (q : Int)
            · have hnone := hid (hno hroom)
              clear hno hyes
              go_wp2_with go_in
              go_quiet ((go_at_call 34; exact quietS (fits_any _ _ _ HN.out hx1 hx2)))
              go_wp2
              go_ret2
              exact .inl ⟨by rw [hp.out, hnone.out], rfl, below_drewN hf.bel _⟩
            · have hnext := hid (hyes hroom)
              clear hno hyes
              go_wp2_with go_in
              go_quiet ((go_at_call 34; exact quietS (fits_any _ _ _ HN.out hx1 hx2)))
              go_wp2
              have hbl := bytesL_length n q
              have HBL := hid hbl
              clear hbl
              have hf2 := hf.behind ((by_none_drewN _ (nq + 1)))
              have K1 : Hid (∀ w', Below w.heap.size w w' → w'.cell? ⟨b1, off1 + k, none⟩ = some (.int .i64 q)) := by
                obtain ⟨b, off, y, he, hc, hy⟩ := ha.at hlt
                have e1 := hx.out
                rw [hy.out] at e1
                simp at he e1
                obtain ⟨rfl, rfl⟩ := he
                subst e1
                exact fun w' hb => cell_keep hc hb
              have K2 : Hid (∀ w', Below w.heap.size w w' → w'.cell? ⟨b2, off2 + j, none⟩ = some (.int .u64 n)) := by
                obtain ⟨b, off, y, he, hc, hy⟩ := hb.at hjl
                have e1 := HG.out
                rw [hy.out] at e1
                simp at he e1
                obtain ⟨rfl, rfl⟩ := he
                subst e1
                exact fun w' hb => cell_keep hc hb
              go_region_held3 (fun w' => w'.cell? ⟨b1, off1 + k, none⟩ = some (.int .i64 q) ∧ w'.cell? ⟨b2, off2 + j, none⟩ = some (.int .u64 n)) (first | go_keep | exact ⟨K1.out _ hf3.bel, K2.out _ hf3.bel⟩ | exact ⟨K1.out _ (hf3.step hg4).bel, K2.out _ (hf3.step hg4).bel⟩) ((first | (go_at_call 35; refine (num_any _ _ _ (by omega)).mono ?_; rintro e w' ⟨v', rfl, hg⟩; obtain ⟨a3, c3, rfl, hl3, _, hI⟩ := own_ints hg.own; have hf3 := hf2.behind (below_by_none hg.bel)) | (refine step_app rfl _ _ rfl elemU8 rfl hf3.own rfl rfl hI ?_ ?_ ?_; (rw [HBL.out]; omega); (rw [HBL.out]; omega); intro v4 w4 hg4)))
              have hf4 := hf3.step hg4
              rw [← List.map_append] at hf4
              clear hf hf2 hf3 hg4 hg hI K1 K2
              go_wp2
              go_roundw
              case rel => exact ⟨k + 1, j + 1, _, r', by omega, by go_num, by go_num, by omega, HR, hf4, hnext⟩
              case measure => simp [intOf]; omega
        · have hput := hid (hP.out.done (by omega))
          go_wp2
          go_ret2
          exact .inr ⟨_, _, by rw [hp.out, hput.out], rfl, hf⟩
    · have e0 : ((countW l : Int) != (ns.length : Int)) = true := by rw [bne_iff_ne]; omega
      have hp := hid (putW_no (ns := ns) (.inr hcl))
      clear hcl hcw
      go_enter Tryd.func22, Tryd.ntmps22
      go_wp2_with (first | (go_at_call 32; refine (refRight_any _ _ _ _ hl ha).mono ?_; rintro e w' ⟨rfl, rfl⟩) | (go_at_call 33; refine (refCount_any _ _ _ _ hl ha).mono ?_; rintro e w' ⟨rfl, rfl⟩))
      go_ret2
      exact .inl ⟨hp.out, rfl, Below.refl _ _⟩
end Go.Proofs.YtkgjmpcdndohpaaDoor
