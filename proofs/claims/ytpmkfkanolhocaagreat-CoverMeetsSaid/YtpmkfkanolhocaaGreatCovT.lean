/- Package cover: joined, walked. -/
import Derived.Test.YtpmkfkanolhocaaGreatCovS
namespace Go.Proofs.YtpmkfkanolhocaaGreat
open Go.RowKit
set_option linter.unusedVariables false
set_option maxRecDepth 100000

def JoinedPost (l : List Ent9) (w : World) (e : Ending) (w' : World) : Prop :=
  ∃ va vc M, e = .returned (.slice va M.length vc) ∧ M.map Ent9.o = jl (l.map Ent9.o) ∧ L9 w' va M ∧ M.length ≤ vc ∧ Below w.heap.size w w'
theorem joined_end {w0 w : World} {va : Option Addr} {vc : Nat} {D : List Ent9} (H : JoinedAt w0 w (.slice va D.length vc) D) (hl : D.length ≤ 1000) : L9 w va D ∧ D.length ≤ vc ∧ Below w0.heap.size w0 w := by
  obtain ⟨_, h2, _, h4⟩ := H.fresh.ox
  exact ⟨⟨h4, fun x hx => (H.ent x hx).1, fun x hx => (H.ent x hx).2.1, hl⟩, h2, H.fresh.bel⟩
theorem jl_next {l : List Ent9} {i : Nat} {h : Ent9} (hi : l[i]? = some h) : jl ((l.map Ent9.o).take (i + 1)) = jstep (jl ((l.map Ent9.o).take i)) h.o := by
  rw [List.take_add_one]
  simp only [List.getElem?_map, hi, Option.map_some, Option.toList_some]
  exact jl_snoc _ _
theorem jstep_new {L : List Ox9} {o : Ox9} (h : ∀ z, L.getLast? = some z → alike9 z o = false) : jstep L o = L ++ [o] := by
  unfold jstep
  cases e : L.getLast? with
  | none => rw [List.getLast?_eq_none_iff.1 e]; rfl
  | some z => simp only [h z e]; simp
theorem jstep_put {L : List Ox9} {z o : Ox9} (h : alike9 z o = true) : jstep (L ++ [z]) o = L ++ [both11 z o] := by
  unfold jstep
  rw [List.getLast?_append, List.getLast?_singleton]
  simp [h]
/-- is the last one of a list Alike? -/
def lastA (D : List Ent9) (o : Ox9) : Bool := match D.getLast? with
  | some z => alike9 z.o o
  | none => false
theorem lastA_none {D : List Ent9} {o : Ox9} (h : D.length = 0) : lastA D o = false := by
  rw [List.eq_nil_of_length_eq_zero h]; rfl
theorem lastA_some {A : List Ent9} {z : Ent9} {o : Ox9} : lastA (A ++ [z]) o = alike9 z.o o := by
  unfold lastA
  rw [List.getLast?_append, List.getLast?_singleton]
  rfl
set_option maxHeartbeats 4000000 in
theorem joined_any (l : List Ent9) (a : Option Addr) (c : Nat) (w : World) (hL : L9 w a l) (hJ : ∀ p q o, l.map Ent9.o = p ++ o :: q → ∀ z, (jl p).getLast? = some z → alike9 z o = true → OkV z ∧ OkV o ∧ z.v.length = o.v.length) :
    Calls Tryz.prog 17 #[.slice a l.length c] w (JoinedPost l w) := by
  have HL := hid hL
  have HJ := hid hJ
  have hll : l.length ≤ 1000 := hL.len
  clear hL hJ
  go_enter Tryz.func17, Tryz.ntmps17
  go_wp2_with fail
  go_loopg [3, 9] (l.length) (fun kx s3 s9 wr => ∃ (i : Nat) (D : List Ent9) (va : Option Addr) (vc : Nat), s3 = .slice va D.length vc ∧ s9 = .int .i64 i ∧ i ≤ l.length ∧ l.length - i ≤ kx ∧ Hid (JoinedAt w wr (.slice va D.length vc) D) ∧ Hid (D.map Ent9.o = jl ((l.map Ent9.o).take i)) ∧ Hid (va = none → D = [] ∧ vc = 0))
  case atStart => exact ⟨0, [], none, 0, rfl, rfl, by omega, by omega, ⟨FreshO.nil _, by simp⟩, rfl, fun _ => ⟨rfl, rfl⟩⟩
  case round =>
    obtain ⟨i, D, va, vc, rfl, rfl, hi, hkx, hD, hM, hva⟩ := hrel
    have hDi : D.length ≤ i := by
      have h1 := congrArg List.length hM.out
      rw [List.length_map] at h1
      have h2 := jl_len ((l.map Ent9.o).take i)
      rw [List.length_take] at h2
      omega
    by_cases hlt : i < l.length
    · have hltz : (i : Int) < (l.length : Int) := by omega
      have hl := HL.out.below hD.out.fresh.bel
      obtain ⟨b, off, rfl, c0, c1, c2, c3, c4, c5⟩ := hl.ox i hlt
      have hE0 := HL.out.ent l[i] (List.getElem_mem hlt)
      have hE := hl.ent l[i] (List.getElem_mem hlt)
      have hsz := hl.few l[i] (List.getElem_mem hlt)
      have hget : l[i]? = some l[i] := by simp [hlt]
      have HJI := hid (fun z => HJ.out ((l.map Ent9.o).take i) ((l.map Ent9.o).drop (i + 1)) l[i].o (by rw [← List.map_take, ← List.map_drop]; conv => lhs; rw [← List.take_append_drop i l, List.drop_eq_getElem_cons hlt, List.map_append, List.map_cons]) z)
      generalize l[i] = h at c0 c1 c2 c3 c4 c5 hE0 hE hsz hget HJI
      obtain ⟨W3, hW3, hbW3, hx3⟩ := oxm_box wr h.o.C h.o.F h.o.H h.o.X h.va h.o.v.length h.vc h.ma h.o.m.length h.mc
      have HW3 := hid hW3
      have HX3 := hid hx3
      have HE := hid (And.intro hE0 (And.intro (hE.below hbW3) hsz))
      have HD3 := hid (hD.out.behind hbW3)
      have HNX := hid (jl_next hget)
      have hB3 := below_on hD.out.fresh.bel hbW3
      have HB3 := hid hB3
      have HBW := hid hbW3
      clear hl hE0 hE hsz hget hW3 hbW3 hB3
      obtain ⟨w0, hw0⟩ : ∃ x, x = wr := ⟨_, rfl⟩
      subst hw0
      obtain ⟨x0, x1, x2, x3, x4, x5⟩ := hx3.six
      have hdl : D.length ≤ 1000 := by omega
      go_upto_region 5 with fail
      rw [HW3.out]
      clear c0 c1 c2 c3 c4 c5
      go_upto_region 6 with fail
      go_cut [25] (fun t25 wx => t25 = .bool (lastA D h.o) ∧ Below W3.heap.size W3 wx)
      case first =>
        rcases Nat.eq_zero_or_pos D.length with h0 | hpos
        · have hm1 : decide ((1 : Int) ≤ (D.length : Int)) = false := by rw [decide_eq_false_iff_not]; omega
          have hm2 : ¬ (0 : Int) ≤ (D.length : Int) - 1 := by omega
          have HLA := hid (lastA_none (o := h.o) h0)
          clear h0
          refine wp_region_wk (by kernel_rfl) (by kernel_rfl) ?_
          repeat (go_big_quiet_step (fail))
          refine wpQuiet_nil ?_
          rintro w6 ⟨⟨_, hb6⟩, rfl⟩
          go_wp2_with fail
          go_meet
          exact ⟨by rw [HLA.out], hb6⟩
        · obtain ⟨A, z, hA⟩ : ∃ A z, D = A ++ [z] := by
            rcases List.eq_nil_or_concat D with e | ⟨A, z, e⟩
            · rw [e] at hpos; simp at hpos
            · exact ⟨A, z, by rw [e, List.concat_eq_append]⟩
          have hm : D.length = A.length + 1 := by rw [hA]; simp
          have hm1 : (0 : Int) ≤ (D.length : Int) - 1 := by omega
          have hm2 : (D.length : Int) - 1 < (D.length : Int) := by omega
          have hm3 : ((D.length : Int) - 1).toNat = A.length := by omega
          have HLA := hid (show lastA D h.o = alike9 z.o h.o by rw [hA]; exact lastA_some)
          have hm4 : decide ((1 : Int) ≤ (D.length : Int)) = true := decide_eq_true (by omega)
          have hAl : A.length < D.length := by omega
          have hz : D[A.length] = z := by simp [hA]
          cases va with
          | none => rw [(hva.out rfl).1] at hpos; simp at hpos
          | some ad =>
            obtain ⟨g, rfl⟩ := HD3.out.fresh.spot
            obtain ⟨b3, o3, e3, y0, y1, y2, y3, y4, y5⟩ := HD3.out.fresh.ox.2.2.2 A.length hAl
            simp only [Option.some.injEq, Addr.mk.injEq] at e3
            obtain ⟨rfl, rfl, _⟩ := e3
            rw [hz] at y0 y1 y2 y3 y4 y5
            simp only [Nat.zero_add] at y0 y1 y2 y3 y4 y5
            have k0 := Wk.cell y0
            have k1 := Wk.cell y1
            have k2 := Wk.cell y2
            have k3 := Wk.cell y3
            have k4 := Wk.cell y4
            have k5 := Wk.cell y5
            have j0 := Wk.cell x0
            have j1 := Wk.cell x1
            have j2 := Wk.cell x2
            have j3 := Wk.cell x3
            have j4 := Wk.cell x4
            have j5 := Wk.cell x5
            clear hA hm hz hAl y0 y1 y2 y3 y4 y5 x0 x1 x2 x3 x4 x5 hpos
            refine wp_region_wk (by kernel_rfl) (by kernel_rfl) ?_
            repeat (go_big_quiet_step ((go_at_call 36; exact Wk.call (alike8_any _ _ _ _ _ _ _ _ _ _ _ _ _ _ _ _ _ _ _ _ _))))
            refine wpQuiet_nil ?_
            rintro w6 ⟨⟨_, hb6⟩, rfl⟩
            go_wp2_with fail
            go_meet
            exact ⟨by rw [HLA.out]; rfl, hb6⟩
      case rest =>
        obtain ⟨rfl, hb4⟩ := hcut
        obtain ⟨w4, hw4⟩ : ∃ w4, w4 = wc := ⟨_, rfl⟩
        subst hw4
        have HD4 := hid (HD3.out.behind hb4)
        have hx4 := HX3.out.below hb4
        have HX4 := hid hx4
        have HE4 := hid (HE.out.2.1.below hb4)
        clear HD3 HX3 hx3 x0 x1 x2 x3 x4 x5 hb4
        cases hla : lastA D h.o
        · have HLA := hid hla
          obtain ⟨x0, x1, x2, x3, x4, x5⟩ := hx4.six
          clear hx4 hla
          go_wp2_with (at_builtin; refine wp_app_oxmsG rfl (.tmp 35) (.tmp 37) rfl (HD4.out.fresh.behind (below_alloc _ _)) rfl rfl (l := [h]) rfl (oxms_one w4 h _) (by omega) (N := D.length + 1) rfl ?_; intro va2 vc2 w8 hg8 hby hmv)
          have HS := hid (JoinedAt.snoc (HD4.out.behind (below_alloc _ _)) HE.out.1 (HE4.out.below (below_alloc _ _)) HE.out.2.2 hg8 hby hmv)
          clear hg8 hby hmv
          go_roundg (l.length - (i + 1))
          case measure => omega
          case rel =>
            refine ⟨i + 1, D ++ [h], va2, vc2, by simp, by first | rfl | go_num, by omega, Nat.le_refl _, HS, ?_, ?_⟩
            · show _ = _
              rw [HNX.out, ← hM.out, jstep_new, List.map_append]
              · rfl
              · intro z hz
                have := HLA.out
                unfold lastA at this
                rw [List.getLast?_map] at hz
                cases e : D.getLast? with
                | none => rw [e] at hz; cases hz
                | some y => rw [e] at this hz; cases hz; exact this
            · show _ → _
              intro e
              subst e
              have := HS.out.fresh.ox
              obtain ⟨e1, _, _, e2⟩ := this
              obtain ⟨b', off', e3, _⟩ := e2 0 (by simp)
              cases e3
        · obtain ⟨A, z, hA⟩ : ∃ A z, D = A ++ [z] := by
            rcases List.eq_nil_or_concat D with e | ⟨A, z, e⟩
            · rw [e] at hla; cases hla
            · exact ⟨A, z, by rw [e, List.concat_eq_append]⟩
          have hal : alike9 z.o h.o = true := by rw [hA, lastA_some] at hla; exact hla
          obtain ⟨okz, okh, hzl⟩ := HJI.out z.o (by rw [← hM.out, hA, List.map_append, List.getLast?_append]; rfl) hal
          have hm : D.length = A.length + 1 := by rw [hA]; simp
          have hm2 : (D.length : Int) - 1 < (D.length : Int) := by omega
          have hm3 : ((D.length : Int) - 1).toNat = A.length := by omega
          have hm4 : (1 : Int) ≤ (D.length : Int) := by omega
          have hAl : A.length < D.length := by omega
          have hz : D[A.length] = z := by simp [hA]
          have hzm : z ∈ D := by rw [hA]; simp
          obtain ⟨hzE, hzs, hzf⟩ := HD4.out.ent z hzm
          cases va with
          | none => rw [(hva.out rfl).1] at hAl; simp at hAl
          | some ad =>
            obtain ⟨g, rfl⟩ := HD4.out.fresh.spot
            have HDD := hid (HD4.out.behind (below_drew8 w4))
            have HXD := hid (hx4.below (below_drew8 w4))
            have hglt : g < w4.heap.size := own_lt9 HD4.out.fresh.own rfl
            have KS : Hid (∀ w' : World, Below w4.drew.heap.size w4.drew w' → (w'.cell? ⟨g, A.length * 6, none⟩ = some (.int .i64 z.o.C) ∧ w'.cell? ⟨g, A.length * 6 + 1, none⟩ = some (.int .i64 z.o.F) ∧ w'.cell? ⟨g, A.length * 6 + 2, none⟩ = some (.bool z.o.H) ∧ w'.cell? ⟨g, A.length * 6 + 3, none⟩ = some (.int .u64 z.o.X) ∧ w'.cell? ⟨g, A.length * 6 + 4, none⟩ = some (.slice z.va z.o.v.length z.vc) ∧ w'.cell? ⟨g, A.length * 6 + 5, none⟩ = some (.slice z.ma z.o.m.length z.mc) ∧
                w'.cell? ⟨w0.heap.size, 0, none⟩ = some (.int .i64 h.o.C) ∧ w'.cell? ⟨w0.heap.size, 1, none⟩ = some (.int .i64 h.o.F) ∧ w'.cell? ⟨w0.heap.size, 2, none⟩ = some (.bool h.o.H) ∧ w'.cell? ⟨w0.heap.size, 3, none⟩ = some (.int .u64 h.o.X) ∧ w'.cell? ⟨w0.heap.size, 4, none⟩ = some (.slice h.va h.o.v.length h.vc) ∧ w'.cell? ⟨w0.heap.size, 5, none⟩ = some (.slice h.ma h.o.m.length h.mc)) ∧ ∀ o, w'.frozen? ⟨g, o, none⟩ = false) := by
              show ∀ _, _
              intro w' hb'
              have hF := HDD.out.fresh.behind hb'
              obtain ⟨b3, o3, e3, y0, y1, y2, y3, y4, y5⟩ := hF.ox.2.2.2 A.length hAl
              simp only [Option.some.injEq, Addr.mk.injEq] at e3
              obtain ⟨rfl, rfl, _⟩ := e3
              rw [hz] at y0 y1 y2 y3 y4 y5
              simp only [Nat.zero_add] at y0 y1 y2 y3 y4 y5
              exact ⟨⟨y0, y1, y2, y3, y4, y5, (HXD.out.below hb').six⟩, fun o => hF.own.frozenAt o⟩
            have HJN : Hid (Calls Tryz.prog 37 #[.agg #[.int .i64 z.o.C, .int .i64 z.o.F, .bool z.o.H, .int .u64 z.o.X, .slice z.va z.o.v.length z.vc, .slice z.ma z.o.m.length z.mc], .agg #[.int .i64 h.o.C, .int .i64 h.o.F, .bool h.o.H, .int .u64 h.o.X, .slice h.va h.o.v.length h.vc, .slice h.ma h.o.m.length h.mc]] w4.drew fun e w' =>
                ∃ j : Ent9, e = .returned (.agg #[.int .i64 j.o.C, .int .i64 j.o.F, .bool j.o.H, .int .u64 j.o.X, .slice j.va j.o.v.length j.vc, .slice j.ma j.o.m.length j.mc]) ∧ j.o = both11 z.o h.o ∧ EntIn w' j ∧ Below w4.drew.heap.size w4.drew w' ∧ (∀ q : Addr, j.va = some q → w4.drew.heap.size ≤ q.block) ∧ (∀ q : Addr, j.ma = some q → w4.drew.heap.size ≤ q.block)) :=
              coverJoin_any z h w4.drew (hzE.below (below_drew8 w4)) (HE4.out.below (below_drew8 w4)) okz okh hal hzl hzs.1
            have HA := hid hA
            have HAL := hid hal
            have HZS := hid hzs
            clear hA hal okz okh hzl hm hAl hz hzm hzE hzs hzf hla hx4
            go_upto_region 7 with fail
            obtain ⟨⟨y0, y1, y2, y3, y4, y5, x0, x1, x2, x3, x4, x5⟩, yf⟩ := KS.out w4.drew (Below.refl _ _)
            go_region_with (first
              | (go_at_call 37; refine HJN.out.mono ?_; rintro e w7 ⟨j, rfl, hjo, hjE, hb7, hjv, hjm⟩; have HJO := hid hjo; clear hjo; obtain ⟨⟨q0, q1, q2, q3, q4, q5, _⟩, qf⟩ := KS.out _ hb7)
              | fail)
            all_goals
              have hD7 : JoinedAt w w7 (.slice (some ⟨g, 0, none⟩) (A ++ [z]).length vc) (A ++ [z]) := by
                have := HDD.out.behind hb7
                rw [HA.out] at this
                exact this
              have hown : w7.ownsRow 0 33 6 (.slice (some ⟨g, 0, none⟩) (A.length + 1) vc) (A.length + 1) (oxmCells (A ++ [z])) := by
                have := hD7.fresh.own
                rw [show (A ++ [z]).length = A.length + 1 by simp] at this
                exact this
              obtain ⟨o6, b6⟩ := own_put hown j
              have HP := hid (hD7.put hjE (by rw [HJO.out]; exact both_few HZS.out.1) (fun q e => Nat.lt_of_lt_of_le hglt (hjv q e)) (fun q e => Nat.lt_of_lt_of_le hglt (hjm q e)) o6 b6)
              clear y0 y1 y2 y3 y4 y5 x0 x1 x2 x3 x4 x5 yf q0 q1 q2 q3 q4 q5 qf hD7 hown o6 b6 hjE hjv hjm hb7 hm2 hm3 hm4
              go_wp2_with fail
              go_roundg (l.length - (i + 1))
              case measure => omega
              case rel =>
                refine ⟨i + 1, A ++ [j], some ⟨g, 0, none⟩, vc, by rw [HA.out]; simp, by first | rfl | go_num, by omega, Nat.le_refl _, HP, ?_, fun e => by cases e⟩
                show _ = _
                rw [HNX.out, ← hM.out, HA.out, List.map_append, List.map_append]
                show _ = jstep (A.map Ent9.o ++ [z.o]) h.o
                rw [jstep_put HAL.out]
                show A.map Ent9.o ++ [j.o] = _
                rw [HJO.out]
    · have hltz : ¬ (i : Int) < (l.length : Int) := by omega
      go_wp2_with fail
      go_ret
      obtain ⟨h1, h2, h3⟩ := joined_end hD.out (by omega)
      refine ⟨va, vc, D, rfl, ?_, h1, h2, h3⟩
      have := hM.out
      rwa [List.take_of_length_le (by rw [List.length_map]; omega)] at this
end Go.Proofs.YtpmkfkanolhocaaGreat
