/- Package need: Missing. -/
import Derived.Test.YtlikpafjlojagaaNedL
namespace Go.Proofs.Ytlikpafjlojagaa
open Go.RowKit Go.Maps
set_option linter.unusedVariables false

theorem needL_few (n : Int) : (needL n).length ≤ 10 := Nat.le_trans (needU_length _ _) (by decide)
theorem need_range {n x : Int} (h : x ∈ needL n) : 0 ≤ x ∧ x < 40 := by
  have all : ∀ k : Nat, ∀ n x : Int, x ∈ needU k n → 0 ≤ x ∧ x < 40 := by
    intro k
    induction k with
    | zero => intro n x hx; simp [needU] at hx
    | succ k ih =>
      intro n x hx
      unfold needU at hx
      by_cases hq : (fld n).d = -1 ∨ ¬ (0 ≤ n ∧ n < 40)
      · rw [if_pos hq] at hx; simp at hx
      rw [if_neg hq] at hx
      have hF : 0 ≤ n ∧ n < 40 := Decidable.byContradiction fun h => hq (.inr h)
      rcases List.mem_append.1 hx with h | h
      · exact ih _ _ h
      · rw [List.mem_singleton.1 h]
        have := need_lower hF
        rcases need_ge hF with h2 | h2
        · exact absurd (.inl h2) hq
        · omega
  exact all _ _ _ h
theorem has_more {L : List Ox9} {i : Nat} {o : Ox9} (h : L[i]? = some o) (n : Int) : has9 (L.take (i + 1)) n = (has9 (L.take i) n || (o.C == 32768 && o.F == n)) := by
  unfold has9
  rw [List.take_add_one, h]
  simp
theorem asked_more {L : List Ox9} {i : Nat} {o : Ox9} (h : L[i]? = some o) (n : Int) : asked9 (L.take (i + 1)) n = (asked9 (L.take i) n || (o.C == 32768 && (needL o.F).contains n)) := by
  unfold asked9
  rw [List.take_add_one, h]
  simp
theorem has_asks {L : List Ox9} {F n : Int} (h : has9 L F = true) (hn : (needL F).contains n = true) : asked9 L n = true := by
  obtain ⟨o, ho, hc⟩ := List.any_eq_true.1 h
  simp only [Bool.and_eq_true, beq_iff_eq] at hc
  exact List.any_eq_true.2 ⟨o, ho, by rw [hc.1, hc.2, hn]; rfl⟩
/-- the fields that are missing, up to k -/
def miss9 (l : List Ox9) (k : Nat) : List Int := ((List.range k).map (fun (k : Nat) => (k : Int))).filter (fun n => asked9 l n && !has9 l n)
theorem miss9_more (l : List Ox9) (k : Nat) : miss9 l (k + 1) = miss9 l k ++ (if asked9 l k && !has9 l k then [(k : Int)] else []) := by
  unfold miss9
  rw [List.range_succ, List.map_append, List.filter_append]
  congr 1
  cases h : (asked9 l k && !has9 l k) <;> simp [h]
theorem miss9_few (l : List Ox9) (k : Nat) : (miss9 l k).length ≤ k := by
  unfold miss9
  exact Nat.le_trans (List.length_filter_le _ _) (by simp)
theorem litInt_eq (x y : Int) : litEq (.int .i64 x) (.int .i64 y) = (x == y) := by
  rw [Bool.eq_iff_iff, litEq_iff, beq_iff_eq]
  constructor
  · intro e; injection e
  · intro e; rw [e]
theorem makeMapI9 (w : World) : (Instr.makeMap 59 none).run Try.prog w = .ok (.map (some w.heap.size)) (w.alloc (.map #[] 0)) := by kernel_rfl
def Int9 (n : Int) : Prop := -9223372036854775808 ≤ n ∧ n ≤ 9223372036854775807
/-- the sets of the fields met and asked for, behind i values -/
structure Two9 (w wr : World) (L : List Ox9) (nm na : Nat) : Prop where
  met : ∃ S, Set9 wr 3 w.heap.size nm S ∧ ∀ x, Int9 x → S (.int .i64 x) = has9 L x
  asked : ∃ S, Set9 wr 3 (w.heap.size + 1) na S ∧ ∀ x, Int9 x → S (.int .i64 x) = asked9 L x
theorem Two9.below {w wr w' : World} {L : List Ox9} {nm na : Nat} (h : Two9 w wr L nm na) (hb : Below wr.heap.size wr w') : Two9 w w' L nm na := by
  obtain ⟨⟨S, h1, h2⟩, ⟨S', h3, h4⟩⟩ := h
  exact ⟨⟨S, h1.below hb, h2⟩, ⟨S', h3.below hb, h4⟩⟩

theorem Fresh.made_on {e : TypeId} {w w1 w' : World} {v : Value} {xs : List Value} (h : Below w.heap.size w w1) (k : Fresh e w1 w' v xs) : Fresh e w w' v xs := Fresh.made (below_by_none h) k
set_option maxRecDepth 100000 in
set_option maxHeartbeats 4000000 in
theorem missing_any9 (l : List Ent9) (a : Option Addr) (c : Nat) (w : World) (hL : L9 w a l) :
    Calls Try.prog 13 #[.slice a l.length c] w fun e w' => ∃ v, e = .returned v ∧ Fresh 3 w w' v ((missing9 (l.map Ent9.o)).map (Value.int .i64)) := by
  obtain ⟨Z, hZ⟩ : ∃ Z, missing9 (l.map Ent9.o) = Z := ⟨_, rfl⟩
  rw [hZ]
  have HZ := hid hZ
  have HL := hid hL
  have hll : l.length ≤ 60 := hL.len
  obtain ⟨W, hW⟩ : ∃ W, (w.alloc (.map #[] 0)).alloc (.map #[] 0) = W := ⟨_, rfl⟩
  have HT : Hid (Two9 w W [] 0 0) := by
    show Two9 _ _ _ _ _
    have h1 := (Set9.made w 3).below (below_alloc _ (.map #[] 0))
    have h2 := Set9.made (w.alloc (.map #[] 0)) 3
    rw [World.size_alloc] at h2
    rw [hW] at h1 h2
    exact ⟨⟨_, h1, fun _ _ => rfl⟩, ⟨_, h2, fun _ _ => rfl⟩⟩
  have HB : Hid (Below w.heap.size w W) := by show Below _ _ _; rw [← hW]; exact below_on (below_alloc _ _) (below_alloc _ _)
  have HW := hid hW
  have mk := fun w => makeMapI9 w
  clear hZ hL hW
  go_enter Try.func13, Try.ntmps13
  go_wp2_with fail
  go_step3
  go_wp2_with fail
  rw [HW.out]
  go_step3
  go_wp2_with fail
  go_loopg [15] (l.length) (fun kx s15 wr => ∃ (i nm na : Nat), s15 = .int .i64 i ∧ i ≤ l.length ∧ l.length - i ≤ kx ∧ nm ≤ i ∧ na ≤ 10 * i ∧ Hid (Two9 w wr ((l.map Ent9.o).take i) nm na) ∧ Hid (Below w.heap.size w wr))
  case atStart => exact ⟨0, 0, 0, rfl, by omega, by omega, Nat.le_refl _, Nat.le_refl _, HT.out, HB.out⟩
  case round =>
    obtain ⟨i, nm, na, rfl, hi, hkx, hnm, hna, hT, hb⟩ := hrel
    by_cases hlt : i < l.length
    · have hltz : (i : Int) < (l.length : Int) := by omega
      have hl := HL.out.below hb.out
      obtain ⟨b, off, rfl, c0, c1, c2, c3, c4, c5⟩ := hl.ox i hlt
      have hE := hl.ent l[i] (List.getElem_mem hlt)
      have hget : (l.map Ent9.o)[i]? = some l[i].o := by simp [hlt]
      generalize l[i] = h at c0 c1 c2 c3 c4 c5 hE hget
      obtain ⟨W3, hW3, hbW3, hx3⟩ := oxm_box wr h.o.C h.o.F h.o.H h.o.X h.va h.o.v.length h.vc h.ma h.o.m.length h.mc
      have HW3 := hid hW3
      have HX3 := hid hx3
      obtain ⟨x0, x1, x2, x3, x4, x5⟩ := hx3.six
      have hgt : w.heap.size + 1 < wr.heap.size := by obtain ⟨_, S', h', _⟩ := hT.out; exact h'.lt
      have hT3 := hT.out.below hbW3
      have HT3 := hid hT3
      have HB3 := hid (below_on hb.out hbW3)
      have hin := hE.inR
      have HHM := hid (fun n => has_more (n := n) hget)
      have HAM := hid (fun n => asked_more (n := n) hget)
      have HIF := hid (show Int9 h.o.F from hin.2.1)
      clear hl hE hget hW3 hx3 hbW3 hin
      go_upto_region 5 with fail
      rw [HW3.out]
      by_cases hC : h.o.C = 32768
      · have hc1 : (h.o.C != 32768) = false := by simp [hC]
        obtain ⟨⟨S, hS, hSv⟩, hA⟩ := HT3.out
        have hkey := intKey9 HIF.out
        have hsv := hSv h.o.F HIF.out
        have HSV := hid hSv
        have HHA := hid hA
        have HC := hid hC
        cases htw : S (.int .i64 h.o.F)
        · have HF : Hid (has9 ((l.map Ent9.o).take i) h.o.F = false) := by show _ = _; rw [← hsv, htw]
          have hlk := hS.look intKeyed9 Try.underlying59 hkey
          rw [htw] at hlk
          have HS := hid hS
          clear hsv hSv hA hC hT3
          go_wp2_with (first | (at_mapUpdate; refine wp_put9 rfl _ _ _ rfl rfl intKeyed9 Try.underlying59 rfl hS (by omega) _ _ rfl hkey ?_; intro w7 hs7 hg7; have HS7 := hid hs7; have HG7 := hid hg7; obtain ⟨x0, x1, x2, x3, x4, x5⟩ := (HX3.out.by hg7 (by have := HX3.out.lt; simp; omega)).six; clear hs7 hg7) | fail)
          refine ((need_any h.o.F).1 w7).mono ?_
          rintro e w8 ⟨v, rfl, hF⟩
          obtain ⟨a8, c8, rfl, _, _, hI8⟩ := own_ints hF.own
          have h10 := needL_few h.o.F
          have hsz8 : wr.heap.size ≤ w8.heap.size := by
            have h1 : wr.heap.size ≤ W3.heap.size := by have := HX3.out.lt; omega
            exact Nat.le_trans h1 (Nat.le_trans HG7.out.size hF.bel.size)
          have hgt7 : w.heap.size + 1 < w7.heap.size := by
            have h1 : wr.heap.size ≤ W3.heap.size := by have := HX3.out.lt; omega
            have := HG7.out.size
            omega
          have HI8 := hid hI8
          have HFF := hid hF
          obtain ⟨SA, hA2, hA3⟩ := HHA.out
          have hA8 := (hA2.by HG7.out (by omega)).below hF.bel
          have hM8 := HS7.out.below hF.bel
          have HA3 := hid hA3
          have HW8 := hid (below_on (below_by9 HB3.out HG7.out (Nat.le_refl _)) hF.bel)
          have HMM := hid hM8
          clear hI8 hF hS hkey hlk x0 x1 x2 x3 x4 x5 c0 c1 c2 c3 c4 c5 hA2 hA3
          go_wp2_with fail
          go_loopg [35] ((needL h.o.F).length) (fun kx s35 wq => ∃ (j nq : Nat) (SQ : Lit → Bool), s35 = .int .i64 j ∧ j ≤ (needL h.o.F).length ∧ (needL h.o.F).length - j ≤ kx ∧ nq ≤ na + j ∧ Hid (Set9 wq 3 (w.heap.size + 1) nq SQ) ∧ Hid (∀ x, Int9 x → SQ (.int .i64 x) = (SA (.int .i64 x) || ((needL h.o.F).take j).contains x)) ∧ Hid (w8.grownBy wq (some (w.heap.size + 1))))
          case atStart => exact ⟨0, na, SA, rfl, by omega, by omega, by omega, hA8, (by show ∀ _, _; intro x _; simp), ⟨rfl, rfl, rfl, Nat.le_refl _, fun _ _ _ => rfl⟩⟩
          case round =>
            clear hA8 hM8
            obtain ⟨j, nq, SQ, rfl, hj, hkj, hnq, hSQ, hQ, hgq⟩ := hrel
            by_cases hlj : j < (needL h.o.F).length
            · have hljz : (j : Int) < ((needL h.o.F).length : Int) := by omega
              obtain ⟨b9, o9, y, ha9, hc9, hy⟩ := HI8.out.at hlj
              have hb9 : b9 ≠ w.heap.size + 1 := by
                have := HFF.out.new b9 (by rw [ha9]; rfl)
                omega
              have hcq := hgq.out.cell hc9 (by simpa using hb9)
              have hyr := need_range (List.mem_of_getElem? hy.out)
              have hkey := intKey9 (n := y) (by omega)
              have hsq := hSQ.out
              have hnb : nq < 100000 := by omega
              have HY := hid hy.out
              clear hc9 hy
              subst ha9
              go_wp2_with (first | (at_mapUpdate; refine wp_put9 rfl _ _ _ rfl rfl intKeyed9 Try.underlying59 rfl hsq hnb _ _ rfl hkey ?_; intro w9 hs9 hg9; have HS9 := hid hs9; have HG9 := hid hg9; clear hs9 hg9) | fail)
              go_roundg ((needL h.o.F).length - (j + 1))
              case measure => omega
              case rel =>
                refine ⟨j + 1, nq + 1, _, by first | rfl | go_num, by omega, Nat.le_refl _, by omega, HS9.out, ?_, grownBy_then hgq.out HG9.out⟩
                show ∀ _, _
                intro x hx
                rw [litInt_eq, hQ.out x hx, List.take_add_one, HY.out]
                rw [Option.toList_some, List.contains_append, show (x == y) = [y].contains x by rw [Bool.eq_iff_iff]; simp]
                cases SA (.int .i64 x) <;> cases ((needL h.o.F).take j).contains x <;> cases [y].contains x <;> rfl
            · have hljz : ¬ (j : Int) < ((needL h.o.F).length : Int) := by omega
              have hq := hQ.out
              rw [List.take_of_length_le (by omega)] at hq
              have HQ := hid hq
              have HJ := hid (show j ≤ 10 by omega)
              clear hq
              go_wp2_with fail
              go_roundg (l.length - (i + 1))
              case measure => omega
              case rel =>
                have hj10 := HJ.out
                refine ⟨i + 1, nm + 1, nq, by first | rfl | go_num, by omega, Nat.le_refl _, by omega, by omega, ?_, below_by9 HW8.out hgq.out (by omega)⟩
                show Two9 _ _ _ _ _
                refine ⟨⟨_, HMM.out.by hgq.out (by omega), fun x hx => ?_⟩, ⟨_, hSQ.out, fun x hx => ?_⟩⟩
                · rw [litInt_eq, HSV.out x hx, HHM.out, HC.out]
                  rw [show (x == h.o.F) = (h.o.F == x) by rw [Bool.eq_iff_iff]; simp only [beq_iff_eq]; exact eq_comm]
                  simp [Bool.or_comm]
                · rw [HQ.out x hx, HA3.out x hx, HAM.out, HC.out]
                  simp
        · have HF : Hid (has9 ((l.map Ent9.o).take i) h.o.F = true) := by show _ = _; rw [← hsv, htw]
          have hlk := hS.look intKeyed9 Try.underlying59 hkey
          rw [htw] at hlk
          clear hsv hSv hA hC hT3 hS
          go_wp2_with fail
          go_roundg (l.length - (i + 1))
          case measure => omega
          case rel =>
            refine ⟨i + 1, nm, na, by first | rfl | go_num, by omega, Nat.le_refl _, by omega, by omega, ?_, HB3.out⟩
            show Two9 _ _ _ _ _
            obtain ⟨⟨S1, t1, t2⟩, ⟨S2, t3, t4⟩⟩ := HT3.out
            refine ⟨⟨S1, t1, fun x hx => ?_⟩, ⟨S2, t3, fun x hx => ?_⟩⟩
            · rw [t2 x hx, HHM.out]
              cases hq : (h.o.F == x)
              · simp
              · rw [← beq_iff_eq.1 hq, HF.out]; rfl
            · rw [t4 x hx, HAM.out]
              cases hq : (needL h.o.F).contains x
              · simp
              · rw [has_asks HF.out hq]; rfl
      · have hc1 : (h.o.C != 32768) = true := by simpa using hC
        have HC := hid (show (h.o.C == 32768) = false by simpa using hC)
        clear hT3 hC
        go_wp2_with fail
        go_roundg (l.length - (i + 1))
        case measure => omega
        case rel =>
          refine ⟨i + 1, nm, na, by first | rfl | go_num, by omega, Nat.le_refl _, by omega, by omega, ?_, HB3.out⟩
          show Two9 _ _ _ _ _
          obtain ⟨⟨S1, t1, t2⟩, ⟨S2, t3, t4⟩⟩ := HT3.out
          exact ⟨⟨S1, t1, fun x hx => by rw [t2 x hx, HHM.out, HC.out]; simp⟩, ⟨S2, t3, fun x hx => by rw [t4 x hx, HAM.out, HC.out]; simp⟩⟩
    · have hltz : ¬ (i : Int) < (l.length : Int) := by omega
      have hT1 := hT.out
      rw [List.take_of_length_le (by rw [List.length_map]; omega)] at hT1
      have HT1 := hid hT1
      clear hT1
      obtain ⟨W5, hW5⟩ : ∃ W5, W5 = wr := ⟨_, rfl⟩
      rw [← hW5] at HT1
      have HB5 : Hid (Below w.heap.size w W5) := by show Below _ _ _; rw [hW5]; exact hb.out
      have HF0 : Hid (Fresh 3 W5 wr (.slice none 0 0) ((miss9 (l.map Ent9.o) 0).map (Value.int .i64))) := by
        show Fresh _ _ _ _ _
        rw [← hW5]
        exact ⟨own_nilI _ _ .i64, Below.refl _ _, fun g hg => by simp [Value.ownBlock] at hg⟩
      have HNA := hid (show na < 100000 ∧ nm < 100000 by omega)
      clear hW5
      go_wp2_with fail
      go_loopg [9, 43] 40 (fun kx s9 s43 wq => ∃ (n : Nat) (v : Value), s9 = v ∧ s43 = .int .i64 n ∧ n ≤ 40 ∧ 40 - n ≤ kx ∧ Hid (Fresh 3 W5 wq v ((miss9 (l.map Ent9.o) n).map (Value.int .i64))))
      case atStart => exact ⟨0, _, rfl, rfl, by omega, by omega, HF0.out⟩
      case round =>
        obtain ⟨n, v, rfl, rfl, hn, hkn, hF⟩ := hrel
        by_cases hl40 : n < 40
        · have hl40z : (n : Int) < (40 : Int) := by omega
          obtain ⟨⟨S1, t1, t2⟩, ⟨S2, t3, t4⟩⟩ := HT1.out.below hF.out.bel
          have hi9 : Int9 (n : Int) := by unfold Int9; omega
          have hkey := intKey9 hi9
          have hlk1 := t1.look intKeyed9 Try.underlying59 hkey
          have hlk2 := t3.look intKeyed9 Try.underlying59 hkey
          rw [t2 _ hi9] at hlk1
          rw [t4 _ hi9] at hlk2
          have HMO := hid (miss9_more (l.map Ent9.o) n)
          have hfew := miss9_few (l.map Ent9.o) n
          clear t1 t2 t3 t4 hkey hi9
          cases hAs : asked9 (l.map Ent9.o) (n : Int)
          · rw [hAs] at hlk2
            have HAs := hid hAs
            clear hlk1 hAs
            go_wp2_with fail
            go_roundg (40 - (n + 1))
            case measure => omega
            case rel => exact ⟨n + 1, _, rfl, by first | rfl | go_num, by omega, Nat.le_refl _, by have := hF.out; rw [HMO.out, HAs.out]; simpa [Hid] using this⟩
          · rw [hAs] at hlk2
            have HAs := hid hAs
            clear hAs
            cases hHs : has9 (l.map Ent9.o) (n : Int)
            · rw [hHs] at hlk1
              have HHs := hid hHs
              clear hHs
              have hP : Hid (miss9 (l.map Ent9.o) n ++ [(n : Int)] = miss9 (l.map Ent9.o) (n + 1)) := by show _ = _; rw [HMO.out, HAs.out, HHs.out]; rfl
              have hfew2 := miss9_few (l.map Ent9.o) (n + 1)
              have hF2 := hF.out.behind (by_none_alloc wr (.cells #[.int .i64 (n : Int)] 3))
              clear hfew
              go_wp2_with (at_builtin; refine wp_app_ints rfl (.tmp 55) (.tmp 57) rfl elemNeed rfl hF2.own rfl rfl (ints_one .i64 wr _ 3) hP.out ?_ ?_ ?_; omega; omega; intro a3 c3 w3 hl3 hc3 hI3 hg3; have HG3 := hid (hF2.step hg3); clear hI3 hg3)
              go_roundg (40 - (n + 1))
              case measure => omega
              case rel => exact ⟨n + 1, _, rfl, by first | rfl | go_num, by omega, Nat.le_refl _, HG3.out⟩
            · rw [hHs] at hlk1
              have HHs := hid hHs
              clear hHs
              go_wp2_with fail
              go_roundg (40 - (n + 1))
              case measure => omega
              case rel => exact ⟨n + 1, _, rfl, by first | rfl | go_num, by omega, Nat.le_refl _, by have := hF.out; rw [HMO.out, HAs.out, HHs.out]; simpa [Hid] using this⟩
        · have hl40z : ¬ (n : Int) < (40 : Int) := by omega
          obtain rfl : n = 40 := by omega
          go_wp2_with fail
          try rw [Exit.noGoto_ret]
          have hz : miss9 (l.map Ent9.o) 40 = Z := HZ.out
          have hFF := hF.out
          rw [hz] at hFF
          exact bodyPost_ret (by simp [results, Try.results13, go_sem]) rfl ⟨_, rfl, Fresh.made_on HB5.out hFF⟩
end Go.Proofs.Ytlikpafjlojagaa
