/- Package need: Check. -/
import Derived.Test.YtlikpafjlojagaaNedK
namespace Go.Proofs.Ytlikpafjlojagaa
open Go.RowKit Go.Maps
set_option linter.unusedVariables false

theorem L9.over {w w' : World} {a : Option Addr} {l : List Ent9} (h : L9 w a l) (hb : Below w.heap.size w w') : L9 w' a l := h.below hb
theorem EntIn.inR {w : World} {h : Ent9} (e : EntIn w h) : InR h.o := ⟨e.c, e.f, e.x⟩
theorem chk_step {L : List Ox9} {i : Nat} {o : Ox9} (h : L[i]? = some o) : chk9 (L.take i) (L.drop i) = if twice9 (L.take i) o then ((i : Int), 1035) else if met9 (L.take i) o = false then ((i : Int), 1034) else chk9 (L.take (i + 1)) (L.drop (i + 1)) := by
  obtain ⟨hi, rfl⟩ := List.getElem?_eq_some_iff.1 h
  have e : L.drop i = L[i] :: L.drop (i + 1) := List.drop_eq_getElem_cons hi
  have e2 : L.take (i + 1) = L.take i ++ [L[i]] := by rw [List.take_add_one, h]; rfl
  rw [e, chk9, e2]
  have : (L.take i).length = i := by rw [List.length_take]; omega
  rw [this]
theorem twice_more {L : List Ox9} {i : Nat} {o x : Ox9} (h : L[i]? = some o) : twice9 (L.take (i + 1)) x = (alike9 o x || twice9 (L.take i) x) := by
  unfold twice9
  rw [List.take_add_one, h]
  simp only [Option.toList_some, List.any_append, List.any_cons, List.any_nil, Bool.or_false]
  rw [Bool.or_comm]
theorem name_box9 (w : World) (C F X : Int) : ∃ W, w.alloc (.cells #[.int .i64 C, .int .i64 F, .int .u64 X] 51) = W ∧ Below w.heap.size w W ∧ BoxL W w.heap.size [.int .i64 C, .int .i64 F, .int .u64 X] :=
  ⟨_, rfl, below_alloc _ _, BoxL.new _ _ _⟩
theorem BoxL.three {w : World} {b : Nat} {v0 v1 v2 : Value} (h : BoxL w b [v0, v1, v2]) : w.cell? ⟨b, 0, none⟩ = some v0 ∧ w.cell? ⟨b, 1, none⟩ = some v1 ∧ w.cell? ⟨b, 2, none⟩ = some v2 :=
  ⟨h.cell 0 _ rfl, h.cell 1 _ rfl, h.cell 2 _ rfl⟩
theorem makeMap9 (w : World) : (Instr.makeMap 49 none).run Try.prog w = .ok (.map (some w.heap.size)) (w.alloc (.map #[] 0)) := by kernel_rfl
/-- what Check tells -/
def ckV (p : Int × Int) : Value := .tuple #[.int .i64 p.1, .int .i64 p.2]
set_option maxRecDepth 100000 in
set_option maxHeartbeats 2000000 in
theorem check_any9 (l : List Ent9) (a : Option Addr) (c : Nat) (w : World) (hL : L9 w a l) (hlc : l.length ≤ c) :
    Calls Try.prog 8 #[.slice a l.length c] w fun e w' => e = .returned (ckV (check9 (l.map Ent9.o))) ∧ Below w.heap.size w w' := by
  obtain ⟨⟨p, q⟩, hr⟩ : ∃ r, check9 (l.map Ent9.o) = r := ⟨_, rfl⟩
  rw [hr]
  have HR := hid hr
  have HL := hid hL
  have hll : l.length ≤ 60 := hL.len
  have hM := Set9.made w 51
  have HM := hid hM
  have HB := hid (below_alloc w (.map #[] 0))
  obtain ⟨W, hW⟩ : ∃ W, w.alloc (.map #[] 0) = W := ⟨_, rfl⟩
  rw [hW] at HM HB
  have HW := hid hW
  have hmix : Try.prog.follows .mixedOrders = true := by kernel_rfl
  have mk := fun w => makeMap9 w
  unfold ckV
  clear hr hL hM hW
  go_enter Try.func8, Try.ntmps8
  go_wp2_with fail
  go_step3
  go_wp2_with fail
  rw [HW.out]
  go_step3
  go_wp2_with fail
  go_loopg [5, 6, 13] (l.length) (fun kx s5 s6 s13 wr => ∃ (i n : Nat) (S : Lit → Bool), s5 = .int .i64 0 ∧ s6 = .int .i64 0 ∧ s13 = .int .i64 i ∧ i ≤ l.length ∧ l.length - i ≤ kx ∧ Hid (chk9 ((l.map Ent9.o).take i) ((l.map Ent9.o).drop i) = (p, q)) ∧
    Hid (Set9 wr 51 w.heap.size n S) ∧ n ≤ i ∧ Hid (∀ x, InR x → S (nameL x) = twice9 ((l.map Ent9.o).take i) x) ∧ Hid (Below w.heap.size w wr))
  case atStart => exact ⟨0, 0, _, rfl, rfl, rfl, by omega, by omega, HR.out, HM.out, Nat.le_refl _, (by show ∀ _, _; intro x _; rfl), HB.out⟩
  case round =>
    obtain ⟨i, n, S, rfl, rfl, rfl, hi, hkx, hC, hS, hni, hT, hb⟩ := hrel
    by_cases hlt : i < l.length
    · have hltz : (i : Int) < (l.length : Int) := by omega
      have hl := HL.out.below hb.out
      obtain ⟨b, off, rfl, c0, c1, c2, c3, c4, c5⟩ := hl.ox i hlt
      have hE := hl.ent l[i] (List.getElem_mem hlt)
      have hget : (l.map Ent9.o)[i]? = some l[i].o := by simp [hlt]
      generalize l[i] = h at c0 c1 c2 c3 c4 c5 hE hget
      obtain ⟨W3, hW3, hbW3, hx3⟩ := oxm_box wr h.o.C h.o.F h.o.H h.o.X h.va h.o.v.length h.vc h.ma h.o.m.length h.mc
      obtain ⟨W4, hW4, hbW4, hx4⟩ := name_box9 W3 h.o.C h.o.F h.o.X
      have HW3 := hid hW3
      have HW4 := hid hW4
      have hx5 := hx3.below hbW4
      have HX3 := hid hx5
      have hs34 : W3.heap.size = wr.heap.size + 1 := by rw [← hW3]; simp
      obtain ⟨x0, x1, x2, x3, x4, x5⟩ := hx3.six
      obtain ⟨z0, z1, z2, z3, z4, z5⟩ := hx5.six
      obtain ⟨n0, n1, n2⟩ := hx4.three
      rw [hs34] at n0 n1 n2 hx4
      have HX4 := hid hx4
      have HST := hid (chk_step hget)
      have HTM := hid (fun x => twice_more (x := x) hget)
      have hin := hE.inR
      have hkey := nameL_is hin
      have hset := (hS.out.below hbW3).below hbW4
      have hsv := hT.out h.o hin
      have HSV := hid hsv
      have HIN := hid hin
      have HKEY := hid hkey
      have HSET := hid hset
      have HB4 := hid (below_on (below_on hb.out hbW3) hbW4)
      have HL4 := hid ((HL.out.take i).below (below_on (below_on hb.out hbW3) hbW4))
      unfold nameV at hkey
      clear hsv hl hE hget hW3 hW4 hx3 hx4 hx5 hbW3 hbW4 hin
      go_upto_region 6 with fail
      rw [HW3.out]
      go_upto_region 7 with fail
      rw [HW4.out]
      cases htw : S (nameL h.o)
      · have hTw : twice9 ((l.map Ent9.o).take i) h.o = false := by rw [← HSV.out, htw]
        have HTW := hid hTw
        clear hTw
        go_wp2_with (first | (at_lookup; refine wp_look9 rfl _ _ rfl nameKeyed9 Try.underlying49 rfl hset _ _ rfl hkey ?_; rw [htw]) | fail)
        have y0 := Wk.cell z0
        have y1 := Wk.cell z1
        have y2 := Wk.cell z2
        have y3 := Wk.cell z3
        have y4 := Wk.cell z4
        have y5 := Wk.cell z5
        have HMET : Hid (∀ n : Wk W4, Calls Try.prog 10 #[.slice (some ⟨b, off, none⟩) i c, .agg #[.int .i64 h.o.C, .int .i64 h.o.F, .bool h.o.H, .int .u64 h.o.X, .slice h.va h.o.v.length h.vc, .slice h.ma h.o.m.length h.mc]] n.val fun e w'' => e = .returned (.bool (met9 ((l.map Ent9.o).take i) h.o)) ∧ ∃ m : Wk W4, w'' = m.val) := by
          show _
          intro n
          have := Wk.call (met_any (l.take i) h (some ⟨b, off, none⟩) c n.val (HL4.out.below n.bel))
          rw [List.length_take, Nat.min_eq_left hi, List.map_take] at this
          exact this
        have hic : (i : Int) ≤ (c : Int) := by omega
        obtain ⟨mt, hmt⟩ : ∃ mt, met9 ((l.map Ent9.o).take i) h.o = mt := ⟨_, rfl⟩
        rw [hmt] at HMET
        have HMT := hid hmt
        clear hmt hset hkey x0 x1 x2 x3 x4 x5 z0 z1 z2 z3 z4 z5 n0 n1 n2 c0 c1 c2 c3 c4 c5
        refine wp_region_wk (by kernel_rfl) (by kernel_rfl) ?_
        repeat (go_big_quiet_step (first | (go_at_call 10; exact HMET.out _) | fail))
        refine wpQuiet_nil ?_
        rintro w6 ⟨⟨_, hb6⟩, rfl⟩
        clear y0 y1 y2 y3 y4 y5
        have HB6 := hid hb6
        cases mt
        · go_wp2_with fail
          try rw [Exit.noGoto_ret]
          have hc := hC.out
          rw [HST.out, if_neg (by rw [HTW.out]; simp), if_pos HMT.out] at hc
          obtain ⟨rfl, rfl⟩ := Prod.mk.inj hc
          exact bodyPost_ret (v := .tuple #[.int .i64 (i : Int), .int .i64 1034]) (by simp [results, Try.results8, go_sem]) rfl ⟨rfl, below_on HB4.out HB6.out⟩
        · obtain ⟨n0, n1, n2⟩ := (HX4.out.below hb6).three
          have hset := HSET.out.below hb6
          have hkey := HKEY.out
          unfold nameV at hkey
          have hnn : n < 100000 := by omega
          go_wp2_with (first | (at_mapUpdate; refine wp_put9 rfl _ _ _ rfl rfl nameKeyed9 Try.underlying49 rfl hset hnn _ _ rfl hkey ?_; intro w7 hs7 hg7) | fail)
          have HS7 := hid hs7
          have HG7 := hid hg7
          clear hset hkey hs7 hg7 n0 n1 n2
          go_wp2_with fail
          go_roundg (l.length - (i + 1))
          case measure => omega
          case rel =>
            have hc := hC.out
            rw [HST.out, if_neg (by rw [HTW.out]; simp), if_neg (by rw [HMT.out]; simp)] at hc
            refine ⟨i + 1, n + 1, _, rfl, rfl, by first | rfl | go_num, by omega, Nat.le_refl _, hc, HS7.out, by omega, ?_, below_by9 (below_on HB4.out HB6.out) HG7.out (Nat.le_refl _)⟩
            show ∀ _, _
            intro x hx
            rw [HTM.out, nameL_eq hx HIN.out, hT.out x hx, alike_symm9]
      · have hTw : twice9 ((l.map Ent9.o).take i) h.o = true := by rw [← HSV.out, htw]
        have HTW := hid hTw
        clear hTw
        go_wp2_with (first | (at_lookup; refine wp_look9 rfl _ _ rfl nameKeyed9 Try.underlying49 rfl hset _ _ rfl hkey ?_; rw [htw]) | fail)
        try rw [Exit.noGoto_ret]
        have hc := hC.out
        rw [HST.out, if_pos HTW.out] at hc
        obtain ⟨rfl, rfl⟩ := Prod.mk.inj hc
        exact bodyPost_ret (v := .tuple #[.int .i64 (i : Int), .int .i64 1035]) (by simp [results, Try.results8, go_sem]) rfl ⟨rfl, HB4.out⟩
    · have hltz : ¬ (i : Int) < (l.length : Int) := by omega
      go_wp2_with fail
      have hc := hC.out
      rw [List.drop_of_length_le (by rw [List.length_map]; omega)] at hc
      obtain ⟨rfl, rfl⟩ := Prod.mk.inj hc
      exact bodyPost_ret (v := .tuple #[.int .i64 0, .int .i64 0]) (by simp [results, Try.results8, go_sem]) rfl ⟨rfl, hb.out⟩
end Go.Proofs.Ytlikpafjlojagaa
