/- The law CoverWhole: each field once. -/
import Derived.Test.YtpmkfkanolhocaaGreatCovW
namespace Go.Proofs.YtpmkfkanolhocaaGreat
open Go.RowKit
set_option linter.unusedVariables false
set_option maxRecDepth 100000

/-- what is told of a list in which each field stands once -/
def OnceIs (L : List Ox9) (r : Bool) : Prop := r = true → (∀ o ∈ L, right10 o = true) ∧ L.Pairwise (fun a b => alike9 a b = false)
def OncePost (L : List Ox9) (w : World) (e : Ending) (w' : World) : Prop := ∃ r, e = .returned (.bool r) ∧ OnceIs L r ∧ Below w.heap.size w w'
set_option maxHeartbeats 4000000 in
theorem once_any (l : List Ent9) (a : Option Addr) (c : Nat) (w : World) (hL : L9 w a l) :
    Calls Tryz.prog 11 #[.slice a l.length c] w (OncePost (l.map Ent9.o) w) := by
  have HL := hid hL
  have hll : l.length ≤ 1000 := hL.len
  clear hL
  go_enter Tryz.func11, Tryz.ntmps11
  go_wp2_with fail
  go_loopg [3] (l.length) (fun kx s3 wr => ∃ i : Nat, s3 = .int .i64 i ∧ i ≤ l.length ∧ l.length - i ≤ kx ∧ Hid (OnceIs ((l.map Ent9.o).take i) true) ∧ Hid (Below w.heap.size w wr))
  case atStart => exact ⟨0, rfl, by omega, by omega, fun _ => ⟨by simp, by simp⟩, Below.refl _ _⟩
  case round =>
    obtain ⟨i, rfl, hi, hkx, hn, hb⟩ := hrel
    by_cases hlt : i < l.length
    · have hltz : (i : Int) < (l.length : Int) := by omega
      have hl := HL.out.below hb.out
      obtain ⟨b, off, rfl, c0, c1, c2, c3, c4, c5⟩ := hl.ox i hlt
      have hE := hl.ent l[i] (List.getElem_mem hlt)
      have hsz := hl.few l[i] (List.getElem_mem hlt)
      have hget : (l.map Ent9.o)[i]? = some l[i].o := by simp [hlt]
      have hgl : l[i]? = some l[i] := by simp [hlt]
      generalize l[i] = h at c0 c1 c2 c3 c4 c5 hE hsz hget hgl
      have HR := hid (ref8Right_any h.o.C h.o.F h.o.H h.o.X h.va h.vc h.ma h.mc h.o.v h.o.m hsz.1 hsz.2 hE.ov hE.om wr hE.iv hE.im hE.x.1)
      have HGET := hid (And.intro hget hgl)
      obtain ⟨r, hr⟩ : ∃ r, rightB h.o.C h.o.F h.o.H h.o.X h.o.v h.o.m = r := ⟨_, rfl⟩
      rw [hr] at HR
      have HRR := hid (show right10 h.o = r from hr)
      clear hl hE hsz hget hgl hr
      cases r
      · go_wp2_with fail
        refine HR.out.mono ?_
        rintro e w5 ⟨rfl, hb5⟩
        have HB5 := hid (below_on hb.out hb5)
        clear hb5
        go_wp2_with fail
        go_ret
        exact ⟨false, rfl, (fun e => by cases e), HB5.out⟩
      · go_wp2_with fail
        refine HR.out.mono ?_
        rintro e w5 ⟨rfl, hb5⟩
        have HB5 := hid (below_on hb.out hb5)
        clear hb5 c0 c1 c2 c3 c4 c5
        obtain ⟨w0, hw0⟩ : ∃ x, x = wr := ⟨_, rfl⟩
        subst hw0
        go_wp2_with fail
        go_loopg [4] i (fun kx s4 wr => ∃ k : Nat, s4 = .int .i64 k ∧ k ≤ i ∧ i - k ≤ kx ∧ Hid (∀ x ∈ (l.map Ent9.o).take k, alike9 h.o x = false) ∧ Hid (Below w.heap.size w wr))
        case atStart => exact ⟨0, rfl, by omega, by omega, by simp [Hid], HB5.out⟩
        case round =>
          obtain ⟨k, rfl, hk, hkk, hal, hbr⟩ := hrel
          by_cases hkl : k < i
          · have hkz : (k : Int) < (i : Int) := by omega
            have hkz2 : (k : Int) < (l.length : Int) := by omega
            have hl := HL.out.below hbr.out
            obtain ⟨b1, o1, e1, c0, c1, c2, c3, c4, c5⟩ := hl.ox i hlt
            simp only [Option.some.injEq, Addr.mk.injEq] at e1
            obtain ⟨rfl, rfl, _⟩ := e1
            obtain ⟨b2, o2, e2, d0, d1, d2, d3, d4, d5⟩ := hl.ox k (Nat.lt_trans hkl hlt)
            simp only [Option.some.injEq, Addr.mk.injEq] at e2
            obtain ⟨rfl, rfl, _⟩ := e2
            have hgk : (l.map Ent9.o)[k]? = some (l[k]'(Nat.lt_trans hkl hlt)).o := by simp [Nat.lt_trans hkl hlt]
            have hgi : l[i] = h := by
              have := HGET.out.2
              rw [List.getElem?_eq_getElem hlt] at this
              exact Option.some.inj this
            rw [hgi] at c0 c1 c2 c3 c4 c5
            generalize l[k]'(Nat.lt_trans hkl hlt) = g at d0 d1 d2 d3 d4 d5 hgk
            have HGK := hid hgk
            have k0 := Wk.cell c0
            have k1 := Wk.cell c1
            have k2 := Wk.cell c2
            have k3 := Wk.cell c3
            have k4 := Wk.cell c4
            have k5 := Wk.cell c5
            have j0 := Wk.cell d0
            have j1 := Wk.cell d1
            have j2 := Wk.cell d2
            have j3 := Wk.cell d3
            have j4 := Wk.cell d4
            have j5 := Wk.cell d5
            clear hl c0 c1 c2 c3 c4 c5 d0 d1 d2 d3 d4 d5 hgk hgi
            go_upto_region 9 with fail
            refine wp_region_wk (by kernel_rfl) (by kernel_rfl) ?_
            repeat (go_big_quiet_step ((go_at_call 22; exact Wk.call (refAlike8_any _ _ _ _ _ _ _ _ _ _ _ _ _ _ _ _ _ _ _ _ _))))
            refine wpQuiet_nil ?_
            rintro w6 ⟨⟨_, hb6⟩, rfl⟩
            have HB6 := hid (below_on hbr.out hb6)
            clear hb6 k0 k1 k2 k3 k4 k5 j0 j1 j2 j3 j4 j5
            cases hq : alikeB h.o.C h.o.F h.o.X g.o.C g.o.F g.o.X
            · have HQ := hid (show alike9 h.o g.o = false from hq)
              clear hq
              go_wp2_with fail
              go_roundg (i - (k + 1))
              case measure => omega
              case rel =>
                refine ⟨k + 1, by first | rfl | go_num, by omega, Nat.le_refl _, ?_, HB6⟩
                show ∀ _, _
                intro x hx
                rw [List.take_add_one, HGK.out] at hx
                rcases List.mem_append.1 hx with hx | hx
                · exact hal.out x hx
                · simp at hx; rw [hx]; exact HQ.out
            · clear hq
              go_wp2_with fail
              go_ret
              exact ⟨false, rfl, (fun e => by cases e), HB6.out⟩
          · have hkz : ¬ (k : Int) < (i : Int) := by omega
            obtain rfl : k = i := by omega
            go_wp2_with fail
            go_roundg (l.length - (k + 1))
            case measure => omega
            case rel =>
              refine ⟨k + 1, by first | rfl | go_num, by omega, Nat.le_refl _, ?_, hbr⟩
              show OnceIs _ _
              intro _
              rw [List.take_add_one, HGET.out.1]
              obtain ⟨g1, g2⟩ := hn.out rfl
              refine ⟨fun o ho => ?_, ?_⟩
              · rcases List.mem_append.1 ho with ho | ho
                · exact g1 o ho
                · simp at ho; rw [ho]; exact HRR.out
              · refine List.pairwise_append.2 ⟨g2, by simp, fun x hx y hy => ?_⟩
                simp at hy
                rw [hy, alike_symm9]
                exact hal.out x hx
    · have hltz : ¬ (i : Int) < (l.length : Int) := by omega
      go_wp2_with fail
      go_ret
      refine ⟨true, rfl, ?_, hb.out⟩
      have := hn.out
      rwa [List.take_of_length_le (by rw [List.length_map]; omega)] at this
end Go.Proofs.YtpmkfkanolhocaaGreat
