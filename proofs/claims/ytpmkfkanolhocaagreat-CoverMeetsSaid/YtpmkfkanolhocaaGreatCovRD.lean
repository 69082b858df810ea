/- The document's cover: Meet. -/
import Derived.Test.YtpmkfkanolhocaaGreatCovRS
namespace Go.Proofs.YtpmkfkanolhocaaGreat
open Go.RowKit
set_option linter.unusedVariables false
set_option maxRecDepth 100000

/-- one more, that lies elsewhere -/
theorem JoinedAt.snocF {w0 wA w8 : World} {va va2 : Option Addr} {vc vc2 : Nat} {D : List Ent9} {h : Ent9} (H : JoinedAt w0 wA (.slice va D.length vc) D) (h3 : Far10 (fun k => Value.ownBlock (.slice va D.length vc) = some k) h) (hh : EntIn wA h) (hs : h.o.v.length ≤ 1000 ∧ h.o.m.length ≤ 1000)
    (hf : FreshO w0 w8 (.slice va2 (D.length + 1) vc2) (D.length + 1) (D ++ [h])) (hby : wA.grownBy w8 (Value.ownBlock (.slice va D.length vc))) (hmv : Moved wA (.slice va D.length vc) (.slice va2 (D.length + 1) vc2)) :
    JoinedAt w0 w8 (.slice va2 (D ++ [h]).length vc2) (D ++ [h]) := by
  have e : (D ++ [h]).length = D.length + 1 := by simp
  rw [e]
  refine ⟨by rw [e]; exact hf, ?_⟩
  have far : ∀ x, EntIn wA x → Far10 (fun k => Value.ownBlock (.slice va D.length vc) = some k) x → EntIn w8 x ∧ Far10 (fun k => Value.ownBlock (.slice va2 (D.length + 1) vc2) = some k) x := by
    intro x hx hfx
    refine ⟨hx.far hby hfx, ?_⟩
    rcases hmv with e1 | ⟨g, e1, hg⟩
    · rw [e1]; exact hfx
    · rw [e1]; exact hx.off fun k ek => by cases ek; exact hg
  intro x hx
  rcases List.mem_append.1 hx with hx | hx
  · obtain ⟨h1, h2, h3⟩ := H.ent x hx
    exact ⟨(far x h1 h3).1, h2, (far x h1 h3).2⟩
  · obtain rfl : x = h := by simpa using hx
    exact ⟨(far x hh h3).1, hs, (far x hh h3).2⟩
theorem mrg_step {M : List Ox9} {k : Nat} {y o : Ox9} (h : M[k]? = some y) : mrg11 (M.take (k + 1)) o = if alike9 (mrg11 (M.take k) o) y = true then both11 (mrg11 (M.take k) o) y else mrg11 (M.take k) o := by
  unfold mrg11
  rw [List.take_add_one, h, List.foldl_append]
  rfl
theorem once_no {M : List Ox9} (hM : M.Pairwise (fun a b => alike9 a b = false)) {k : Nat} {y o : Ox9} (h : M[k]? = some y) (ha : alike9 o y = true) : ∀ z ∈ M.take k, alike9 o z = false := by
  intro z hz
  cases e : alike9 o z
  · rfl
  · exfalso
    obtain ⟨i, hi, rfl⟩ := List.getElem_of_mem hz
    obtain ⟨hk, rfl⟩ := List.getElem?_eq_some_iff.1 h
    rw [List.length_take] at hi
    rw [List.getElem_take] at e
    have := List.pairwise_iff_getElem.1 hM i k (by omega) hk (by omega)
    rw [← alike_fst e, ha] at this
    cases this
/-- a value of the first list, k values of the second list behind -/
structure MrgAt (w0 wr : World) (X : Nat) (v : Value) (x : Ent9) (M : List Ox9) (k : Nat) (h : Ent9) : Prop where
  box : BoxL wr X [.int .i64 h.o.C, .int .i64 h.o.F, .bool h.o.H, .int .u64 h.o.X, .slice h.va h.o.v.length h.vc, .slice h.ma h.o.m.length h.mc]
  ent : EntIn wr h
  o : h.o = mrg11 (M.take k) x.o
  st : h = x ∨ ∃ y ∈ M.take k, alike9 x.o y = true
  few : h.o.v.length ≤ 1000 ∧ h.o.m.length ≤ 1000
  far : Far10 (fun k => v.ownBlock = some k) h
  bel : Below w0.heap.size w0 wr
theorem MrgAt.like {w0 wr : World} {X : Nat} {v : Value} {x h : Ent9} {M : List Ox9} {k : Nat} (H : MrgAt w0 wr X v x M k h) (hM : M.Pairwise (fun a b => alike9 a b = false)) (z : Ox9) : alike9 h.o z = alike9 x.o z := by
  rw [H.o]
  exact alike_fst (mrg_alike (hM.sublist (List.take_sublist k M)) x.o) z
theorem MrgAt.skip {w0 wr w' : World} {X : Nat} {v : Value} {x h : Ent9} {M : List Ox9} {k : Nat} {y : Ox9} (H : MrgAt w0 wr X v x M k h) (hy : M[k]? = some y) (hno : alike9 h.o y = false) (hb : Below wr.heap.size wr w') : MrgAt w0 w' X v x M (k + 1) h := by
  refine ⟨H.box.below hb, H.ent.below hb, ?_, ?_, H.few, H.far, below_on H.bel hb⟩
  · rw [mrg_step hy, ← H.o, hno]; simp
  · rcases H.st with e | ⟨z, hz, e⟩
    · exact .inl e
    · exact .inr ⟨z, List.mem_of_mem_take (by rw [List.take_take, show min k (k + 1) = k by omega]; exact hz : z ∈ (M.take (k + 1)).take k), e⟩
theorem MrgAt.first {w0 wr : World} {X : Nat} {v : Value} {x h : Ent9} {M : List Ox9} {k : Nat} {y : Ox9} (H : MrgAt w0 wr X v x M k h) (hM : M.Pairwise (fun a b => alike9 a b = false)) (hy : M[k]? = some y) (ha : alike9 h.o y = true) : h = x := by
  rcases H.st with e | ⟨z, hz, e⟩
  · exact e
  · rw [H.like hM] at ha
    have := once_no hM hy ha z hz
    rw [e] at this; cases this
theorem MrgAt.put {w0 wr w' : World} {X : Nat} {v : Value} {x h j : Ent9} {M : List Ox9} {k : Nat} {y : Ox9} (H : MrgAt w0 wr X v x M k h) (hy : M[k]? = some y) (ha : alike9 h.o y = true) (hal : alike9 x.o y = true) (hX : w0.heap.size ≤ X) (hjo : j.o = both11 h.o y) (hj : EntIn w' j) (hb : Below wr.heap.size wr w')
    (hv : ∀ q : Addr, j.va = some q → wr.heap.size ≤ q.block) (hm : ∀ q : Addr, j.ma = some q → wr.heap.size ≤ q.block) (hg : ∀ g, v.ownBlock = some g → g < wr.heap.size) :
    MrgAt w0 ((((((w'.setCell ⟨X, 0, none⟩ (.int .i64 j.o.C)).setCell ⟨X, 1, none⟩ (.int .i64 j.o.F)).setCell ⟨X, 2, none⟩ (.bool j.o.H)).setCell ⟨X, 3, none⟩ (.int .u64 j.o.X)).setCell ⟨X, 4, none⟩ (.slice j.va j.o.v.length j.vc)).setCell ⟨X, 5, none⟩ (.slice j.ma j.o.m.length j.mc)) X v x M (k + 1) j := by
  have hXl := H.box.lt
  have hnv : ∀ q : Addr, j.va = some q → q.block ≠ X := fun q e => by have := hv q e; omega
  have hnm : ∀ q : Addr, j.ma = some q → q.block ≠ X := fun q e => by have := hm q e; omega
  refine ⟨(H.box.below hb).set6 _ _ _ _ _ _, ⟨?_, ?_, hj.ov, hj.om, hj.cm, hj.c, hj.f, hj.x⟩, ?_, ?_, ?_, ?_, ?_⟩
  · exact ((((((hj.iv.apart _ hnv).apart _ hnv).apart _ hnv).apart _ hnv).apart _ hnv).apart _ hnv)
  · exact ((((((hj.im.apart _ hnm).apart _ hnm).apart _ hnm).apart _ hnm).apart _ hnm).apart _ hnm)
  · rw [mrg_step hy, ← H.o, ha, hjo]; simp
  · exact .inr ⟨y, by rw [List.take_add_one, hy]; simp, hal⟩
  · rw [hjo]; exact both_few H.few.1
  · exact ⟨fun _ q e s => by have := hv q e; have := hg _ s; omega, fun _ q e s => by have := hm q e; have := hg _ s; omega⟩
  · repeat (with_reducible refine Below.setCell ?_ hX _)
    exact below_on H.bel hb
theorem apart_fit {a b : List Ox9} (ha : OkL a) (hb : OkL b) (hc : apart11 a b = false) {x y : Ox9} (hx : x ∈ a) (hy : y ∈ b) (hal : alike9 x y = true) : OkV x ∧ OkV y ∧ x.v.length = y.v.length :=
  ⟨ha.ok x hx, hb.ok y hy, ((clash_iff (ha.ok x hx) (hb.ok y hy) hal).1 (apart_iff.1 hc x hx y hy)).1⟩
theorem rest_step {L M : List Ox9} {k : Nat} {y : Ox9} (h : M[k]? = some y) : rest11 L (M.take (k + 1)) = rest11 L (M.take k) ++ (if L.any (fun x => alike9 x y) = true then [] else [y]) := by
  unfold rest11
  rw [List.take_add_one, h, List.filter_append]
  cases e : L.any (fun x => alike9 x y) <;> simp [e]
theorem any_step {L : List Ox9} {i : Nat} {x y : Ox9} (h : L[i]? = some x) : (L.take (i + 1)).any (fun z => alike9 z y) = ((L.take i).any (fun z => alike9 z y) || alike9 x y) := by
  rw [List.take_add_one, h, List.any_append]
  simp
set_option maxHeartbeats 8000000 in
theorem refMeet_any (l m : List Ent9) (a b : Option Addr) (c d : Nat) (w : World) (hL : L9 w a l) (hM : L9 w b m) (hlc : l.length ≤ c) (hmd : m.length ≤ d) (fl : l.length ≤ 60) (fm : m.length ≤ 60) (bl : len10 (l.map Ent9.o) ≤ 65528) (bm : len10 (m.map Ent9.o) ≤ 65528) :
    Calls Tryz.prog 8 #[.slice a l.length c, .slice b m.length d] w (MeetPost (l.map Ent9.o) (m.map Ent9.o) w) := by
  have RA := hid (refRight10_any w a c l hL hlc bl)
  have RB := hid (fun (w' : World) (hb : Below w.heap.size w w') => refRight10_any w' b d m (hM.below hb) hmd bm)
  have hra := rightL_is bl
  have hrb := rightL_is bm
  have none9 : ∀ w' : World, L9 w' none [] := fun w' => l9_nil10 w' none
  cases h1 : isMatch10 (l.map Ent9.o)
  · have hno := hid (meet_no (L := l.map Ent9.o) (M := m.map Ent9.o) (by unfold meetOk; rw [hra, h1]; rfl))
    rw [h1] at RA
    have HN := hid none9
    clear hL hM bl bm hra hrb h1 none9
    go_enter Tryz.func8, Tryz.ntmps8
    go_wp2_with fail
    refine RA.out.mono ?_
    rintro e w1 ⟨rfl, hb1⟩
    go_wp2_with fail
    exact bodyPost_ret (v := .tuple #[.slice none 0 0, .bool false]) (by simp [results, Tryz.results8, go_sem]) rfl ⟨none, 0, [], false, rfl, hno.out, HN.out _, Nat.le_refl _, hb1⟩
  · rw [h1] at RA
    cases h2 : isMatch10 (m.map Ent9.o)
    · have hno := hid (meet_no (L := l.map Ent9.o) (M := m.map Ent9.o) (by unfold meetOk; rw [hra, hrb, h1, h2]; rfl))
      rw [h2] at RB
      have HN := hid none9
      clear hL hM bl bm hra hrb h1 h2 none9
      go_enter Tryz.func8, Tryz.ntmps8
      go_wp2_with fail
      refine RA.out.mono ?_
      rintro e w1 ⟨rfl, hb1⟩
      go_wp2_with fail
      refine (RB.out _ hb1).mono ?_
      rintro e w2 ⟨rfl, hb2⟩
      go_wp2_with fail
      exact bodyPost_ret (v := .tuple #[.slice none 0 0, .bool false]) (by simp [results, Tryz.results8, go_sem]) rfl ⟨none, 0, [], false, rfl, hno.out, HN.out _, Nat.le_refl _, below_on hb1 hb2⟩
    · rw [h2] at RB
      have oA := okL_of hL h1
      have oB := okL_of hM h2
      have AP := hid (fun (w' : World) (hb : Below w.heap.size w w') => refApart_any l m a b c d w' (hL.below hb) (hM.below hb) oA oB)
      cases h3 : apart11 (l.map Ent9.o) (m.map Ent9.o)
      · rw [h3] at AP
        have hok : meetOk (l.map Ent9.o) (m.map Ent9.o) = rightL (sort9 (out11 (l.map Ent9.o) (m.map Ent9.o))) := by unfold meetOk; rw [hra, hrb, h1, h2, h3]; rfl
        have hjl := jl_out oA oB
        have hsm := out_small oA oB
        have hlen : (sort9 (out11 (l.map Ent9.o) (m.map Ent9.o))).length ≤ 120 := by
          rw [← hjl]
          have := jl_len (sort9 (l.map Ent9.o ++ m.map Ent9.o))
          rw [sort_length, List.length_append, List.length_map, List.length_map] at this
          omega
        have HBIG := hid (len_small hsm hlen)
        have HOK := hid hok
        have HFIT := hid (fun (x y : Ox9) (hx : x ∈ l.map Ent9.o) (hy : y ∈ m.map Ent9.o) => apart_fit oA oB h3 hx hy)
        have HONE := hid oB.once
        have HL := hid hL
        have HM := hid hM
        have HN := hid none9
        have hll : l.length ≤ 1000 := by omega
        have hml : m.length ≤ 1000 := by omega
        clear hL hM bl bm hra hrb h1 h2 h3 none9 oA oB hok hjl hsm hlen
        go_enter Tryz.func8, Tryz.ntmps8
        go_wp2_with fail
        refine RA.out.mono ?_
        rintro e w1 ⟨rfl, hb1⟩
        go_wp2_with fail
        refine (RB.out _ hb1).mono ?_
        rintro e w2 ⟨rfl, hb2⟩
        have HB2 := hid (below_on hb1 hb2)
        clear hb1 hb2
        go_wp2_with fail
        refine (AP.out _ HB2.out).mono ?_
        rintro e w3 ⟨rfl, hb3⟩
        have HB3 := hid (below_on HB2.out hb3)
        clear hb3
        go_wp2_with fail
        go_loopg [6, 7] (l.length) (fun kx s6 s7 wr => ∃ (i : Nat) (D : List Ent9) (va : Option Addr) (vc : Nat), s6 = .slice va D.length vc ∧ s7 = .int .i64 i ∧ i ≤ l.length ∧ l.length - i ≤ kx ∧ D.length ≤ i ∧ Hid (JoinedAt w wr (.slice va D.length vc) D) ∧ Hid (D.map Ent9.o = ((l.map Ent9.o).take i).map (mrg11 (m.map Ent9.o))))
        case atStart => exact ⟨0, [], none, 0, rfl, rfl, by omega, by omega, by simp, ⟨(FreshO.nil w).behind HB3.out, by simp⟩, rfl⟩
        case round =>
          obtain ⟨i, D, va, vc, rfl, rfl, hi, hkx, hDi, hD, hDM⟩ := hrel
          by_cases hlt : i < l.length
          · have hltz : (i : Int) < (l.length : Int) := by omega
            have hl := HL.out.below hD.out.fresh.bel
            obtain ⟨b1, off, rfl, c0, c1, c2, c3, c4, c5⟩ := hl.ox i hlt
            have hE0 := HL.out.ent l[i] (List.getElem_mem hlt)
            have hE := hl.ent l[i] (List.getElem_mem hlt)
            have hsz := hl.few l[i] (List.getElem_mem hlt)
            have hget : (l.map Ent9.o)[i]? = some l[i].o := by simp [hlt]
            have hxm : l[i].o ∈ l.map Ent9.o := List.mem_map.2 ⟨l[i], List.getElem_mem hlt, rfl⟩
            generalize l[i] = x at c0 c1 c2 c3 c4 c5 hE0 hE hsz hget hxm
            obtain ⟨W3, hW3, hbW3, hx3⟩ := oxm_box wr x.o.C x.o.F x.o.H x.o.X x.va x.o.v.length x.vc x.ma x.o.m.length x.mc
            have HW3 := hid hW3
            have HMR : Hid (MrgAt wr W3 wr.heap.size (.slice va D.length vc) x (m.map Ent9.o) 0 x) :=
              ⟨hx3, hE.below hbW3, rfl, .inl rfl, hsz, hE0.off (fun k ek => hD.out.fresh.new k ek), hbW3⟩
            have HXM := hid (And.intro hget hxm)
            have HSZ := hid hsz
            have HOWN := hid (fun g (hg : Value.ownBlock (.slice va D.length vc) = some g) => own_lt9 hD.out.fresh.own hg)
            clear hl hE0 hE hsz hget hxm hW3 hx3 hbW3
            obtain ⟨w0, hw0⟩ : ∃ x, x = wr := ⟨_, rfl⟩
            subst hw0
            go_upto_region 8 with fail
            rw [HW3.out]
            clear c0 c1 c2 c3 c4 c5
            go_wp2_with fail
            go_loopg [9] (m.length) (fun kx s9 wr => ∃ (k : Nat) (h : Ent9), s9 = .int .i64 k ∧ k ≤ m.length ∧ m.length - k ≤ kx ∧ Hid (MrgAt w0 wr w0.heap.size (.slice va D.length vc) x (m.map Ent9.o) k h))
            case atStart => exact ⟨0, x, rfl, by omega, by omega, HMR⟩
            case round =>
              obtain ⟨k, h, rfl, hk, hkk, hA⟩ := hrel
              have hX := hA.out.box
              obtain ⟨y0, y1, y2, y3, y4, y5⟩ := hX.six
              by_cases hkl : k < m.length
              · have hkz : (k : Int) < (m.length : Int) := by omega
                have hm := HM.out.below (below_on hD.out.fresh.bel hA.out.bel)
                obtain ⟨b2, o2, rfl, d0, d1, d2, d3, d4, d5⟩ := hm.ox k hkl
                have hgk : (m.map Ent9.o)[k]? = some m[k].o := by simp [hkl]
                have hgm : m[k].o ∈ m.map Ent9.o := List.mem_map.2 ⟨m[k], List.getElem_mem hkl, rfl⟩
                have hgE := hm.ent m[k] (List.getElem_mem hkl)
                generalize m[k] = g at d0 d1 d2 d3 d4 d5 hgk hgm hgE
                have HGK := hid (And.intro hgk hgm)
                have HGE := hid hgE
                have k0 := Wk.cell y0
                have k1 := Wk.cell y1
                have k2 := Wk.cell y2
                have k3 := Wk.cell y3
                have k4 := Wk.cell y4
                have k5 := Wk.cell y5
                have j0 := Wk.cell d0
                have j1 := Wk.cell d1
                have j2 := Wk.cell d2
                have j3 := Wk.cell d3
                have j4 := Wk.cell d4
                have j5 := Wk.cell d5
                have KD := hid (fun (w' : World) (hb' : Below wr.heap.size wr w') => And.intro (hX.below hb').six (And.intro (And.intro (cell_keep d0 hb') (And.intro (cell_keep d1 hb') (And.intro (cell_keep d2 hb') (And.intro (cell_keep d3 hb') (And.intro (cell_keep d4 hb') (cell_keep d5 hb')))))) (hX.below hb').free))
                obtain ⟨wr1, hwr1⟩ : ∃ x, x = wr := ⟨_, rfl⟩
                subst hwr1
                clear hm d0 d1 d2 d3 d4 d5 hgk hgm hgE y0 y1 y2 y3 y4 y5 hX
                go_upto_region 11 with fail
                go_cut [47] (fun t47 wx => t47 = .bool (alike9 h.o g.o) ∧ Below wr1.heap.size wr1 wx)
                case first =>
                  refine wp_region_wk (by kernel_rfl) (by kernel_rfl) ?_
                  repeat (go_big_quiet_step ((go_at_call 22; exact Wk.call (refAlike8_any _ _ _ _ _ _ _ _ _ _ _ _ _ _ _ _ _ _ _ _ _))))
                  refine wpQuiet_nil ?_
                  rintro w6 ⟨⟨_, hb6⟩, rfl⟩
                  go_wp2_with fail
                  go_meet
                  exact ⟨rfl, hb6⟩
                case rest =>
                  obtain ⟨rfl, hb6⟩ := hcut
                  obtain ⟨w6, hw6⟩ : ∃ x, x = wc := ⟨_, rfl⟩
                  subst hw6
                  clear k0 k1 k2 k3 k4 k5 j0 j1 j2 j3 j4 j5
                  cases hal : alike9 h.o g.o
                  · have HS := hid (hA.out.skip HGK.out.1 hal hb6)
                    clear hal hb6
                    go_wp2_with fail
                    go_roundg (m.length - (k + 1))
                    case measure => omega
                    case rel => exact ⟨k + 1, h, by first | rfl | go_num, by omega, Nat.le_refl _, HS⟩
                  · have hhx := hA.out.first HONE.out HGK.out.1 hal
                    have halx : alike9 x.o g.o = true := by rw [← hhx]; exact hal
                    obtain ⟨okx, okg, hlx⟩ := HFIT.out x.o g.o HXM.out.2 HGK.out.2 halx
                    have HJN : Hid (∀ w' : World, Below w6.heap.size w6 w' → Calls Tryz.prog 23 #[.agg #[.int .i64 h.o.C, .int .i64 h.o.F, .bool h.o.H, .int .u64 h.o.X, .slice h.va h.o.v.length h.vc, .slice h.ma h.o.m.length h.mc], .agg #[.int .i64 g.o.C, .int .i64 g.o.F, .bool g.o.H, .int .u64 g.o.X, .slice g.va g.o.v.length g.vc, .slice g.ma g.o.m.length g.mc]] w' fun e w'' =>
                        ∃ j : Ent9, e = .returned (.agg #[.int .i64 j.o.C, .int .i64 j.o.F, .bool j.o.H, .int .u64 j.o.X, .slice j.va j.o.v.length j.vc, .slice j.ma j.o.m.length j.mc]) ∧ j.o = both11 h.o g.o ∧ EntIn w'' j ∧ Below w'.heap.size w' w'' ∧ (∀ q : Addr, j.va = some q → w'.heap.size ≤ q.block) ∧ (∀ q : Addr, j.ma = some q → w'.heap.size ≤ q.block)) := by
                      show ∀ _, _
                      intro w' hb'
                      exact refBoth_any h g w' (hA.out.ent.below (below_on hb6 hb')) (HGE.out.below (below_on hb6 hb')) (by rw [hhx]; exact okx) okg hal (by rw [hhx]; exact hlx) hA.out.few.1
                    have HAL := hid (And.intro hal halx)
                    have HB6 := hid hb6
                    have hs6 := hb6.size
                    clear hal halx hhx okx okg hlx hb6
                    go_upto_region 12 with fail
                    obtain ⟨⟨y0, y1, y2, y3, y4, y5⟩, ⟨d0, d1, d2, d3, d4, d5⟩, yf⟩ := KD.out w6.drew (below_on HB6.out (below_drew8 w6))
                    go_region_with (first
                      | (go_at_call 23; refine (HJN.out _ (below_drew8 w6)).mono ?_; rintro e w7 ⟨j, rfl, hjo, hjE, hb7, hjv, hjm⟩; have HJO := hid hjo; clear hjo; obtain ⟨⟨q0, q1, q2, q3, q4, q5⟩, _, qf⟩ := KD.out _ (below_on HB6.out (below_on (below_drew8 w6) hb7)))
                      | fail)
                    all_goals
                      have hsd : w6.drew.heap.size = w6.heap.size := by simp
                      have HP := hid (hA.out.put HGK.out.1 HAL.out.1 HAL.out.2 (Nat.le_refl _) HJO.out hjE (below_on HB6.out (below_on (below_drew8 w6) hb7)) (fun q e => by have := hjv q e; omega) (fun q e => by have := hjm q e; omega) (fun g' hg' => Nat.lt_of_lt_of_le (HOWN.out g' hg') hA.out.bel.size))
                      clear y0 y1 y2 y3 y4 y5 d0 d1 d2 d3 d4 d5 yf q0 q1 q2 q3 q4 q5 qf hjE hjv hjm hb7 hsd hs6
                      go_wp2_with fail
                      go_roundg (m.length - (k + 1))
                      case measure => omega
                      case rel => exact ⟨k + 1, j, by first | rfl | go_num, by omega, Nat.le_refl _, HP⟩
              · have hkz : ¬ (k : Int) < (m.length : Int) := by omega
                have hkm : (m.map Ent9.o).take k = m.map Ent9.o := List.take_of_length_le (by rw [List.length_map]; omega)
                have hho : h.o = mrg11 (m.map Ent9.o) x.o := by rw [hA.out.o, hkm]
                have HHO := hid hho
                have HDJ := hid ((hD.out.behind hA.out.bel).behind (below_alloc wr (.cells h.cs.toArray 33)))
                have HHE := hid (hA.out.ent.below (below_alloc wr (.cells h.cs.toArray 33)))
                clear hkm hho hX
                go_wp2_with (at_builtin; refine wp_app_oxmsG rfl (.tmp 54) (.tmp 56) rfl HDJ.out.fresh rfl rfl (l := [h]) rfl (oxms_one wr h _) (by omega) (N := D.length + 1) rfl ?_; intro va2 vc2 w8 hg8 hby hmv)
                have HS := hid (JoinedAt.snocF HDJ.out hA.out.far HHE.out hA.out.few hg8 hby hmv)
                clear hg8 hby hmv
                go_roundg (l.length - (i + 1))
                case measure => omega
                case rel =>
                  refine ⟨i + 1, D ++ [h], va2, vc2, by simp, by first | rfl | go_num, by omega, Nat.le_refl _, by simp; omega, HS, ?_⟩
                  show _ = _
                  rw [List.map_append, hDM.out, List.take_add_one, HXM.out.1, List.map_append]
                  show _ ++ [h.o] = _ ++ [mrg11 (m.map Ent9.o) x.o]
                  rw [HHO.out]
          · have hltz : ¬ (i : Int) < (l.length : Int) := by omega
            have hD1 : D.map Ent9.o = (l.map Ent9.o).map (mrg11 (m.map Ent9.o)) := by
              have := hDM.out
              rwa [List.take_of_length_le (by rw [List.length_map]; omega)] at this
            have HD1 := hid hD1
            have hDl : D.length ≤ l.length := by omega
            clear hD1 hDM hDi
            obtain ⟨w4, hw4⟩ : ∃ x, x = wr := ⟨_, rfl⟩
            subst hw4
            go_wp2_with fail
            go_loopg [6, 10] (m.length) (fun kx s6 s10 wr => ∃ (k : Nat) (D : List Ent9) (va : Option Addr) (vc : Nat), s6 = .slice va D.length vc ∧ s10 = .int .i64 k ∧ k ≤ m.length ∧ m.length - k ≤ kx ∧ D.length ≤ l.length + k ∧ Hid (JoinedAt w wr (.slice va D.length vc) D) ∧ Hid (D.map Ent9.o = (l.map Ent9.o).map (mrg11 (m.map Ent9.o)) ++ rest11 (l.map Ent9.o) ((m.map Ent9.o).take k)))
            case atStart => exact ⟨0, D, va, vc, rfl, rfl, by omega, by omega, by omega, hD, by show _ = _; rw [HD1.out]; simp [rest11]⟩
            case round =>
              obtain ⟨k, D, va, vc, rfl, rfl, hk, hkk, hDk, hD, hDM⟩ := hrel
              by_cases hkl : k < m.length
              · have hkz : (k : Int) < (m.length : Int) := by omega
                have hgk : (m.map Ent9.o)[k]? = some m[k].o := by simp [hkl]
                obtain ⟨g, hg⟩ : ∃ g, m[k] = g := ⟨_, rfl⟩
                rw [hg] at hgk
                have HGK := hid (And.intro hgk hg)
                have hE0 := HM.out.ent g (by rw [← hg]; exact List.getElem_mem hkl)
                have hsz := HM.out.few g (by rw [← hg]; exact List.getElem_mem hkl)
                have HE0 := hid (And.intro hE0 hsz)
                clear hgk hg hE0 hsz
                obtain ⟨w5, hw5⟩ : ∃ x, x = wr := ⟨_, rfl⟩
                subst hw5
                go_wp2_with fail
                go_loopg [11, 12] (l.length) (fun kx s11 s12 wr => ∃ i : Nat, s12 = .int .i64 i ∧ i ≤ l.length ∧ l.length - i ≤ kx ∧ s11 = .bool (((l.map Ent9.o).take i).any (fun z => alike9 z g.o)) ∧ Hid (Below w5.heap.size w5 wr))
                case atStart => exact ⟨0, rfl, by omega, by omega, rfl, Below.refl _ _⟩
                case round =>
                  obtain ⟨i, rfl, hi, hkx, rfl, hb⟩ := hrel
                  by_cases hlt : i < l.length
                  · have hltz : (i : Int) < (l.length : Int) := by omega
                    have hl := HL.out.below (below_on hD.out.fresh.bel hb.out)
                    have hm := HM.out.below (below_on hD.out.fresh.bel hb.out)
                    obtain ⟨b1, o1, rfl, c0, c1, c2, c3, c4, c5⟩ := hl.ox i hlt
                    obtain ⟨b2, o2, rfl, d0, d1, d2, d3, d4, d5⟩ := hm.ox k hkl
                    rw [HGK.out.2] at d0 d1 d2 d3 d4 d5
                    have hgx : (l.map Ent9.o)[i]? = some l[i].o := by simp [hlt]
                    generalize l[i] = x at c0 c1 c2 c3 c4 c5 hgx
                    have HAS := hid (any_step (y := g.o) hgx)
                    obtain ⟨q, hq⟩ : ∃ q, ((l.map Ent9.o).take i).any (fun z => alike9 z g.o) = q := ⟨_, rfl⟩
                    rw [hq] at HAS ⊢
                    have k0 := Wk.cell c0
                    have k1 := Wk.cell c1
                    have k2 := Wk.cell c2
                    have k3 := Wk.cell c3
                    have k4 := Wk.cell c4
                    have k5 := Wk.cell c5
                    have j0 := Wk.cell d0
                    have j1 := Wk.cell d1
                    have j2 := Wk.cell d2
                    have j3 := Wk.cell d3
                    have j4 := Wk.cell d4
                    have j5 := Wk.cell d5
                    clear hl hm c0 c1 c2 c3 c4 c5 d0 d1 d2 d3 d4 d5 hgx hq
                    cases q
                    · go_upto_region 21 with fail
                      refine wp_region_wk (by kernel_rfl) (by kernel_rfl) ?_
                      repeat (go_big_quiet_step ((go_at_call 22; exact Wk.call (refAlike8_any _ _ _ _ _ _ _ _ _ _ _ _ _ _ _ _ _ _ _ _ _))))
                      refine wpQuiet_nil ?_
                      rintro w6 ⟨⟨_, hb6⟩, rfl⟩
                      have HB6 := hid (below_on hb.out hb6)
                      clear hb6 k0 k1 k2 k3 k4 k5 j0 j1 j2 j3 j4 j5
                      go_wp2_with fail
                      go_roundg (l.length - (i + 1))
                      case measure => omega
                      case rel => exact ⟨i + 1, by first | rfl | go_num, by omega, Nat.le_refl _, by rw [HAS.out]; rfl, HB6⟩
                    · go_upto_region 21 with fail
                      refine wp_region_wk (by kernel_rfl) (by kernel_rfl) ?_
                      repeat (go_big_quiet_step (fail))
                      refine wpQuiet_nil ?_
                      rintro w6 ⟨⟨_, hb6⟩, rfl⟩
                      have HB6 := hid (below_on hb.out hb6)
                      clear hb6 k0 k1 k2 k3 k4 k5 j0 j1 j2 j3 j4 j5
                      go_wp2_with fail
                      go_roundg (l.length - (i + 1))
                      case measure => omega
                      case rel => exact ⟨i + 1, by first | rfl | go_num, by omega, Nat.le_refl _, by rw [HAS.out]; rfl, HB6⟩
                  · have hltz : ¬ (i : Int) < (l.length : Int) := by omega
                    have htk : (l.map Ent9.o).take i = l.map Ent9.o := List.take_of_length_le (by rw [List.length_map]; omega)
                    rw [htk]
                    have HRS := hid (rest_step (L := l.map Ent9.o) HGK.out.1)
                    obtain ⟨q, hq⟩ : ∃ q, (l.map Ent9.o).any (fun z => alike9 z g.o) = q := ⟨_, rfl⟩
                    rw [hq] at HRS ⊢
                    have HDJ := hid (hD.out.behind hb.out)
                    have hm := HM.out.below HDJ.out.fresh.bel
                    obtain ⟨b2, o2, rfl, d0, d1, d2, d3, d4, d5⟩ := hm.ox k hkl
                    rw [HGK.out.2] at d0 d1 d2 d3 d4 d5
                    clear hm hq htk
                    cases q
                    · have HDA := hid (HDJ.out.behind (below_alloc wr (.cells g.cs.toArray 33)))
                      go_wp2_with (at_builtin; refine wp_app_oxmsG rfl (.tmp 84) (.tmp 89) rfl HDA.out.fresh rfl rfl (l := [g]) rfl (oxms_one wr g _) (by omega) (N := D.length + 1) rfl ?_; intro va2 vc2 w8 hg8 hby hmv)
                      have HS := hid (JoinedAt.snoc HDA.out HE0.out.1 (HE0.out.1.below HDA.out.fresh.bel) HE0.out.2 hg8 hby hmv)
                      clear hg8 hby hmv d0 d1 d2 d3 d4 d5
                      go_roundg (m.length - (k + 1))
                      case measure => omega
                      case rel =>
                        refine ⟨k + 1, D ++ [g], va2, vc2, by simp, by first | rfl | go_num, by omega, Nat.le_refl _, by simp; omega, HS, ?_⟩
                        show _ = _
                        rw [List.map_append, hDM.out, HRS.out, List.append_assoc]
                        rfl
                    · clear d0 d1 d2 d3 d4 d5
                      go_wp2_with fail
                      go_roundg (m.length - (k + 1))
                      case measure => omega
                      case rel =>
                        refine ⟨k + 1, D, va, vc, rfl, by first | rfl | go_num, by omega, Nat.le_refl _, by omega, HDJ, ?_⟩
                        show _ = _
                        rw [hDM.out, HRS.out]
                        simp
              · have hkz : ¬ (k : Int) < (m.length : Int) := by omega
                have hDO : D.map Ent9.o = out11 (l.map Ent9.o) (m.map Ent9.o) := by
                  have := hDM.out
                  rw [List.take_of_length_le (by rw [List.length_map]; omega)] at this
                  exact this
                obtain ⟨hj1, hj2, hj3⟩ := joined_end hD.out (by omega)
                have HSO := hid (refSortC_any D va vc wr hj1)
                have HDO := hid hDO
                have HJ1 := hid hj1
                have HJ3 := hid hj3
                clear hDO hj1 hj2 hj3 hDM
                go_upto_region 24 with fail
                go_wp2_with fail
                refine HSO.out.mono ?_
                rintro e w6 ⟨va6, vc6, S, rfl, hSl, hSM, hSO, hSm, hb6, hSc⟩
                have hL6 : L9 w6 va6 S := ⟨hSO, fun x hx => (HJ1.out.ent x (hSm x hx)).below hb6, fun x hx => HJ1.out.few x (hSm x hx), by rw [hSl]; exact HJ1.out.len⟩
                rw [HDO.out] at hSM
                have HRR := hid (refRight10_any w6 va6 vc6 S hL6 (by omega) (by rw [hSM]; exact HBIG.out))
                rw [hSM] at HRR
                have HL6 := hid (And.intro hL6 hSM)
                have HB6 := hid (below_on HJ3.out hb6)
                have hSc2 : S.length ≤ vc6 := by omega
                rw [← hSl]
                obtain ⟨q, hq⟩ : ∃ q, isMatch10 (sort9 (out11 (l.map Ent9.o) (m.map Ent9.o))) = q := ⟨_, rfl⟩
                have hoq : meetOk (l.map Ent9.o) (m.map Ent9.o) = q := by rw [HOK.out, rightL_is HBIG.out, hq]
                rw [hq] at HRR
                have HOQ := hid hoq
                clear hL6 hSM hSO hSm hb6 hSl hSc hq hoq
                cases q
                · go_wp2_with fail
                  refine HRR.out.mono ?_
                  rintro e w7 ⟨rfl, hb7⟩
                  go_wp2_with fail
                  exact bodyPost_ret (v := .tuple #[.slice none 0 0, .bool false]) (by simp [results, Tryz.results8, go_sem]) rfl ⟨none, 0, [], false, rfl, meet_no HOQ.out, HN.out _, Nat.le_refl _, below_on HB6.out hb7⟩
                · go_wp2_with fail
                  refine HRR.out.mono ?_
                  rintro e w7 ⟨rfl, hb7⟩
                  go_wp2_with fail
                  exact bodyPost_ret (v := .tuple #[.slice va6 S.length vc6, .bool true]) (by simp [results, Tryz.results8, go_sem]) rfl ⟨va6, vc6, S, true, rfl, by rw [meet_yes HOQ.out, HL6.out.2], HL6.out.1.below hb7, hSc2, below_on HB6.out hb7⟩
      · rw [h3] at AP
        have hno := hid (meet_no (L := l.map Ent9.o) (M := m.map Ent9.o) (by unfold meetOk; rw [h3]; simp))
        have HN := hid none9
        clear hL hM bl bm hra hrb h1 h2 h3 none9 oA oB
        go_enter Tryz.func8, Tryz.ntmps8
        go_wp2_with fail
        refine RA.out.mono ?_
        rintro e w1 ⟨rfl, hb1⟩
        go_wp2_with fail
        refine (RB.out _ hb1).mono ?_
        rintro e w2 ⟨rfl, hb2⟩
        have HB2 := hid (below_on hb1 hb2)
        clear hb1 hb2
        go_wp2_with fail
        refine (AP.out _ HB2.out).mono ?_
        rintro e w3 ⟨rfl, hb3⟩
        go_wp2_with fail
        exact bodyPost_ret (v := .tuple #[.slice none 0 0, .bool false]) (by simp [results, Tryz.results8, go_sem]) rfl ⟨none, 0, [], false, rfl, hno.out, HN.out _, Nat.le_refl _, below_on HB2.out hb3⟩
end Go.Proofs.YtpmkfkanolhocaaGreat
