/- The statements' helpers over slices of things: few, items; the document's Same. -/
import Derived.Test.YtfdkkcndadjcaaaTlvM
namespace Go.Proofs.Ytfdkkcndadjcaaa
open Go.RowKit

/-- not too many things -/
def fewL (l : List Thing) : Bool := l.all (fun h => decide (h.x.length ≤ 70000)) && decide (l.length ≤ 40)

theorem few_any4 (w : World) (l : List Thing) (a : Option Addr) (c : Nat) (hit : Items w a l) (hlm : l.length ≤ 9223372036854775807) :
    Calls Try.prog 15 #[.slice a l.length c] w fun e w' => e = .returned (.bool (fewL l)) ∧ w = w' := by
  have HI := hid hit
  clear hit
  go_enter Try.func15, Try.ntmps15
  go_wp2
  go_loop [3] (fun p => ∃ k : Nat, p = .int .i64 k ∧ k ≤ l.length ∧ Hid (∀ h ∈ l.take k, h.x.length ≤ 70000)) (fun p => l.length - (intOf p).toNat)
  case atStart => exact ⟨0, rfl, Nat.zero_le _, fun h hh => by simp at hh⟩
  case round =>
    obtain ⟨k, rfl, hk, hall⟩ := hrel
    rcases Nat.lt_or_ge k l.length with hlt | hge
    · obtain ⟨b, off, rfl, e0, e1⟩ := HI.out k hlt
      have hlti : (k : Int) < (l.length : Int) := by omega
      rcases Nat.lt_or_ge 70000 (l[k].x.length) with hb | hb
      · have hb' : (70000 : Int) < (l[k].x.length : Int) := by omega
        have hno : fewL l = false := by
          unfold fewL
          have : l.all (fun h => decide (h.x.length ≤ 70000)) = false := by
            rw [List.all_eq_false]
            exact ⟨l[k], List.getElem_mem hlt, by simp; omega⟩
          rw [this]; rfl
        have HN := hid hno
        clear hno
        go_wp2
        go_ret
        exact ⟨ret_bool HN.out.symm, rfl⟩
      · have hb' : ¬ (70000 : Int) < (l[k].x.length : Int) := by omega
        have hall2 : Hid (∀ h ∈ l.take (k + 1), h.x.length ≤ 70000) := by
          intro h hh
          rw [List.take_succ_eq_append_getElem hlt] at hh
          rcases List.mem_append.1 hh with hh | hh
          · exact hall.out h hh
          · simp at hh; subst hh; exact hb
        clear hb
        go_wp2
        go_round
        case rel => exact ⟨k + 1, by go_num, hlt, hall2⟩
        case measure => simp [intOf]; omega
    · have hge' : (l.length : Int) ≤ (k : Int) := by omega
      have hf : fewL l = decide (l.length ≤ 40) := by
        unfold fewL
        have : l.all (fun h => decide (h.x.length ≤ 70000)) = true := by
          rw [List.all_eq_true]
          intro h hh
          rw [show l.take k = l from List.take_of_length_le hge] at hall
          simpa using hall.out h hh
        rw [this]; rfl
      have HF := hid hf
      clear hf
      go_wp2
      go_ret
      refine ⟨ret_bool ?_, rfl⟩
      rw [HF.out]
      simp
      omega

theorem refItems_elem : ElemN Try.prog 40 31 (.agg #[.int .i64 0, .slice none 0 0]) 2 32 := ⟨by kernel_rfl, by kernel_rfl, rfl, by decide⟩
theorem own_nilN (w : World) (e : TypeId) : w.ownsRow 0 e 2 (.slice none 0 0) ([] : List Thing).length (thingCells []) := World.ownsRow_nil w 0 e 2

set_option maxHeartbeats 1000000 in
theorem conv_items (w : World) (l : List Thing) (a : Option Addr) (c : Nat) (hit : Items w a l) (hlm : l.length ≤ 1000000000) :
    Calls Try.prog 14 #[.slice a l.length c] w fun e w' => ∃ a' c', e = .returned (.slice a' l.length c') ∧ Items w' a' l ∧ l.length ≤ c' ∧ c' ≤ 9223372036854775807 ∧ Below w.heap.size w w' := by
  have HI := hid hit
  clear hit
  go_enter Try.func14, Try.ntmps14
  go_wp2
  go_loopw [3, 4] (fun v p wr => ∃ (k : Nat) (va : Option Addr) (vc : Nat), v = .slice va k vc ∧ p = .int .i64 k ∧ k ≤ l.length ∧ wr.ownsRow 0 31 2 (.slice va k vc) k (thingCells (l.take k)) ∧ Below w.heap.size w wr ∧ (∀ g, (Value.slice va k vc).ownBlock = some g → w.heap.size ≤ g)) (fun _ p _ => l.length - (intOf p).toNat)
  case atStart => exact ⟨0, none, 0, rfl, rfl, Nat.zero_le _, own_nilN _ _, Below.refl _ _, fun g e => by cases e⟩
  case round =>
    obtain ⟨k, va, vc, rfl, rfl, hk, hown, hbel, hva⟩ := hrel
    have HIr := HI.out.below hbel
    rcases Nat.lt_or_ge k l.length with hlt | hge
    · obtain ⟨b, off, rfl, e0, e1⟩ := HIr k hlt
      have hlti : (k : Int) < (l.length : Int) := by omega
      have hown1 := hown.kept (by_none_alloc wr (.cells #[.int .i64 l[k].t, .slice l[k].a l[k].x.length l[k].c] 31)) (by cases (Value.slice va k vc).ownBlock <;> simp)
      have hsn : thingCells (l.take (k + 1)) = thingCells (l.take k) ++ [.int .i64 l[k].t, .slice l[k].a l[k].x.length l[k].c] := by
        rw [List.take_succ_eq_append_getElem hlt, thingCells_snoc]
      have HS := hid hsn
      have HB := hid hbel
      have HV := hid hva
      clear hsn hown hbel hva HIr
      go_wp2_with (at_builtin; refine wp_app_many rfl (.tmp 11) (.tmp 16) rfl refItems_elem rfl hown1 rfl [.int .i64 l[k].t, .slice l[k].a l[k].x.length l[k].c] rfl (built_news _ _ _ _) (by simp [Value.oneCell']) (by omega) (by omega) ?_; intro v' w' hg; obtain ⟨va', vc', rfl⟩ := own_shape hg.own; have HG := hid hg; clear hg)
      go_roundw
      case rel =>
        refine ⟨k + 1, va', vc', rfl, by go_num, hlt, by rw [HS.out]; exact HG.out.own, ?_, ?_⟩
        · exact (HB.out.alloc HB.out.size _).trans (HG.out.below (by rw [World.size_alloc]; have := HB.out.size; omega) HV.out)
        · exact HG.out.base (by rw [World.size_alloc]; have := HB.out.size; omega) HV.out
      case measure => simp [intOf]; omega
    · have hge' : (l.length : Int) ≤ (k : Int) := by omega
      obtain rfl : k = l.length := by omega
      rw [List.take_length] at hown
      have HO := hid hown
      have HB := hid hbel
      clear hown hge hge' hbel hva HIr
      go_wp2
      go_ret
      obtain ⟨a', c', e, h1, h2, h3, _⟩ := own_items HO.out
      cases e
      exact ⟨_, _, rfl, h3, h1, h2, HB.out⟩

/-- are two lists of things the same? -/
def sameB (l m : List Thing) : Bool := decide (l.map Thing.val = m.map Thing.val)

set_option maxHeartbeats 1000000 in
theorem same_any4 (w : World) (l m : List Thing) (a b : Option Addr) (c d : Nat) (hl : Items w a l) (hm : Items w b m) (hli : ∀ h ∈ l, Ints .u8 w h.a h.x) (hmi : ∀ h ∈ m, Ints .u8 w h.a h.x) (hll : l.length ≤ 1000000000)
    (hlx : ∀ h ∈ l, h.x.length ≤ 9223372036854775807) (hmx : ∀ h ∈ m, h.x.length ≤ 9223372036854775807) :
    Calls Try.prog 13 #[.slice a l.length c, .slice b m.length d] w fun e w' => e = .returned (.bool (sameB l m)) ∧ Below w.heap.size w w' := by
  have H1 := hid hl
  have H2 := hid hm
  have H3 := hid hli
  have H4 := hid hmi
  have H5 := hid hlx
  have H6 := hid hmx
  clear hl hm hli hmi hlx hmx
  by_cases hlen : l.length = m.length
  · have e0 : ((l.length : Int) != (m.length : Int)) = false := by simp; omega
    have HLEN := hid hlen
    clear hlen
    go_enter Try.func13, Try.ntmps13
    go_wp2
    go_loopw [5] (fun p wr => ∃ k : Nat, p = .int .i64 k ∧ k ≤ l.length ∧ Hid ((l.take k).map Thing.val = (m.take k).map Thing.val) ∧ Below w.heap.size w wr) (fun p _ => l.length - (intOf p).toNat)
    case atStart => exact ⟨0, rfl, Nat.zero_le _, by simp [Hid], Below.refl _ _⟩
    case round =>
      obtain ⟨k, rfl, hk, hpre, hbel⟩ := hrel
      rcases Nat.lt_or_ge k l.length with hlt | hge
      · have hlt2 : k < m.length := by rw [← HLEN.out]; exact hlt
        obtain ⟨b1, off1, hae, e1, e2⟩ := H1.out.below hbel k hlt
        obtain ⟨b2, off2, hbe, f1, f2⟩ := H2.out.below hbel k hlt2
        obtain ⟨u, hu⟩ : ∃ u, u = l[k] := ⟨_, rfl⟩
        obtain ⟨v, hv⟩ : ∃ v, v = m[k] := ⟨_, rfl⟩
        have hum : u ∈ l := by rw [hu]; exact List.getElem_mem hlt
        have hvm : v ∈ m := by rw [hv]; exact List.getElem_mem hlt2
        rw [← hu] at e1 e2
        rw [← hv] at f1 f2
        have hBy := hid (fun W (hW : Below wr.heap.size wr W) => bytes_at u.x v.x u.a v.a u.x.length v.x.length u.c v.c W rfl rfl (H5.out u hum) (H6.out v hvm) (((H3.out u hum).below hbel).below hW) (((H4.out v hvm).below hbel).below hW))
        subst hae
        subst hbe
        have hlti : (k : Int) < (l.length : Int) := by omega
        have hltm : (k : Int) < (m.length : Int) := by omega
        have HU := hid hu
        have HV := hid hv
        clear hu hv hum hvm
        have hB := hid hbel
        have e1 := Wk.cell e1
        have e2 := Wk.cell e2
        have f1 := Wk.cell f1
        have f2 := Wk.cell f2
        clear hbel
        have hno : ¬ (u.t = v.t ∧ u.x = v.x) → sameB l m = false := by
          intro hn
          unfold sameB
          simp only [decide_eq_false_iff_not]
          intro e
          have h1 : (l.map Thing.val)[k]? = (m.map Thing.val)[k]? := by rw [e]
          rw [List.getElem?_map, List.getElem?_map, List.getElem?_eq_getElem hlt, List.getElem?_eq_getElem hlt2, ← HU.out, ← HV.out] at h1
          simp [Thing.val] at h1
          exact hn h1
        have HNO := hid hno
        clear hno
        by_cases ht : u.t = v.t
        · have et : (u.t != v.t) = false := by simpa using ht
          by_cases hx : u.x = v.x
          · have hbb : (u.x == v.x) = true := by simpa using hx
            rw [hbb] at hBy
            have hpre2 : Hid ((l.take (k + 1)).map Thing.val = (m.take (k + 1)).map Thing.val) := by
              show _ = _
              rw [List.take_succ_eq_append_getElem hlt, List.take_succ_eq_append_getElem hlt2, List.map_append, List.map_append, hpre.out, ← HU.out, ← HV.out]
              simp [Thing.val, ht, hx]
            have HT := hid ht
            clear ht hx hbb
            go_upto_region 6 with fail
            refine wp_region_wk (by kernel_rfl) (by kernel_rfl) ?_
            repeat (go_big_quiet_step ((go_at_call 12; exact Wk.call (hBy.out _ (Wk.bel _)))))
            refine wpQuiet_nil ?_
            rintro w2 ⟨⟨_, hb2⟩, rfl⟩
            go_wp2
            go_roundw
            case rel => exact ⟨k + 1, by go_num, hlt, hpre2, hB.out.trans (hb2.mono hB.out.size)⟩
            case measure => simp [intOf]; omega
          · have hbb : (u.x == v.x) = false := by simpa using hx
            rw [hbb] at hBy
            have hsf := HNO.out (fun e => hx e.2)
            have HS := hid hsf
            clear ht hx hbb hsf
            go_upto_region 6 with fail
            refine wp_region_wk (by kernel_rfl) (by kernel_rfl) ?_
            repeat (go_big_quiet_step ((go_at_call 12; exact Wk.call (hBy.out _ (Wk.bel _)))))
            refine wpQuiet_nil ?_
            rintro w2 ⟨⟨_, hb2⟩, rfl⟩
            go_wp2
            go_ret
            exact ⟨ret_bool HS.out.symm, hB.out.trans (hb2.mono hB.out.size)⟩
        · have et : (u.t != v.t) = true := by simpa using ht
          have hsf := HNO.out (fun e => ht e.1)
          have HS := hid hsf
          clear ht hsf
          go_upto_region 6 with fail
          refine wp_region_wk (by kernel_rfl) (by kernel_rfl) ?_
          repeat (go_big_quiet_step (fail))
          refine wpQuiet_nil ?_
          rintro w2 ⟨⟨_, hb2⟩, rfl⟩
          go_wp2
          go_ret
          exact ⟨ret_bool HS.out.symm, hB.out.trans (hb2.mono hB.out.size)⟩
      · have hge' : (l.length : Int) ≤ (k : Int) := by omega
        have hs : sameB l m = true := by
          unfold sameB
          rw [List.take_of_length_le hge, List.take_of_length_le (by rw [← HLEN.out]; exact hge)] at hpre
          simpa using hpre.out
        have HS := hid hs
        clear hs
        go_wp2
        go_ret
        exact ⟨ret_bool HS.out.symm, hbel⟩
  · have e0 : ((l.length : Int) != (m.length : Int)) = true := by simp; omega
    have hs : sameB l m = false := by
      unfold sameB
      simp only [decide_eq_false_iff_not]
      intro e
      have := congrArg List.length e
      simp at this
      exact hlen this
    have HS := hid hs
    clear hs hlen
    go_enter Try.func13, Try.ntmps13
    go_wp2
    go_ret
    exact ⟨ret_bool HS.out.symm, Below.refl _ _⟩
end Go.Proofs.Ytfdkkcndadjcaaa
