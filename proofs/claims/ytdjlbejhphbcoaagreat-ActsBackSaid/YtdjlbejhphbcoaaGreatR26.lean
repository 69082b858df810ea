/- Put together out of several texts. -/
import Derived.Test.YtdjlbejhphbcoaaGreatR24
import Derived.Test.YtdjlbejhphbcoaaGreatR12
import Derived.Test.YtdjlbejhphbcoaaGreatR4
import Derived.ProofKit
import Derived.Maps.OwnSet
import Derived.Maps.Views
import Derived.Maps.RangeWalk
import Derived.Maps.OwnOps
import Derived.LoopN
import Derived.Test.YtdjlbejhphbcoaaGreatR11
namespace Go.Proofs.YtdjlbejhphbcoaaGreat
open Go.RowKit Go.Maps
set_option linter.unusedVariables false
set_option maxRecDepth 100000

/-- slices.Sort sorts up to N numbers -/
def SortU (N : Nat) : Prop := ∀ (w : World) (g cap : Nat) (ss : List Int), ss.length ≤ N → 0 < ss.length → RowU w g ss.toArray →
  Calls Tryz.prog 66 #[.slice (some ⟨g, 0, none⟩) ss.length cap] w fun e w' => e = .returned (.tuple #[]) ∧ ∃ t : List Int, RowU w' g t.toArray ∧ t.Perm ss ∧ t.Pairwise (· ≤ ·) ∧ TurnU g w w'
def SortNil : Prop := ∀ (w : World) (cap : Nat), Calls Tryz.prog 66 #[.slice none 0 cap] w fun e w' => e = .returned (.tuple #[]) ∧ Below w.heap.size w w'
theorem own_rowU {W : World} {e : TypeId} {g n c : Nat} {ss : List Int} (h : W.ownsRow 0 e 1 (.slice (some ⟨g, 0, none⟩) n c) (ss.map (Value.int .u64)).length (ss.map (Value.int .u64))) : RowU W g ss.toArray := by
  obtain ⟨a, c', he, hl, hc, hI⟩ := own_ints (k := .u64) h
  cases he
  unfold RowU
  refine ⟨fun i x hx => ?_, fun o => ?_, ?_⟩
  · rw [List.toList_toArray, List.getElem?_map] at hx
    cases hi : ss[i]? with
    | none => rw [hi] at hx; cases hx
    | some y =>
      rw [hi] at hx
      cases hx
      obtain ⟨hlt, rfl⟩ := List.getElem?_eq_some_iff.1 hi
      obtain ⟨b, off, e1, h1⟩ := hI i hlt
      cases e1
      rw [Nat.zero_add] at h1
      rw [h1]
      simp [hlt]
  · rcases h.2 with ⟨e, _⟩ | ⟨g', cap, cur, e, _, hg, _⟩
    · cases e
    · simp at e
      obtain ⟨rfl, _⟩ := e
      exact free_of_cells hg o
  · rcases h.2 with ⟨e, _⟩ | ⟨g', cap, cur, e, _, hg, _⟩
    · cases e
    · simp at e
      obtain ⟨rfl, _⟩ := e
      exact (Array.getElem?_eq_some_iff.1 hg).1
theorem RowU.ints {W : World} {g : Nat} {t : List Int} (h : RowU W g t.toArray) : Ints .u64 W (some ⟨g, 0, none⟩) t := by
  intro i hi
  refine ⟨g, 0, rfl, ?_⟩
  rw [Nat.zero_add]
  exact BoxL.cell h i _ (by rw [List.toList_toArray, List.getElem?_map, List.getElem?_eq_getElem hi]; simp [hi])
/-- the keys that have come: no key twice; a key has come just where the map has it and it is no longer to come -/
def ComeU (D : DataW Unit) (left : Lit → Bool) (ss : List Int) : Prop := ss.Nodup ∧ ∀ x, x ∈ ss ↔ (has D (.int .u64 x) = true ∧ left (.int .u64 x) = false)
theorem ComeU.start (D : DataW Unit) : ComeU D (has D) [] := ⟨List.nodup_nil, fun x => by cases has D (.int .u64 x) <;> simp⟩
theorem ComeU.step {D : DataW Unit} {left : Lit → Bool} {ss : List Int} (h : ComeU D left ss) {x : Int} {y : DataW Unit} (hlk : left (.int .u64 x) = true) (hat : ∀ zd, D.atKey (.int .u64 x) zd = y) : ComeU D (fun z => left z && !z.sameKey (.int .u64 x)) (ss ++ [x]) := by
  have hhas : has D (.int .u64 x) = true := has_true_of_atKey hat
  have hnew : x ∉ ss := fun hx => by have := ((h.2 x).1 hx).2; rw [hlk] at this; cases this
  refine ⟨List.nodup_append.2 ⟨h.1, by simp, fun a ha b hb => by simp at hb; subst hb; exact fun e => hnew (e ▸ ha)⟩, fun y => ?_⟩
  by_cases hy : y = x
  · subst hy; simp [hhas, Lit.sameKey]
  · simp [h.2 y, hy, Lit.sameKey]
theorem u64Keyed : Keyed Tryz.prog 22 := int_keyed Tryz.underlying22
theorem u64_wf {n : Int} (h : 0 ≤ n ∧ n ≤ 18446744073709551615) : (Lit.int .u64 n).wf = true := by simp [Lit.wf, IntKind.min, IntKind.max, IntKind.bits, IntKind.signed]; omega
theorem u64Key {n : Int} (h : 0 ≤ n ∧ n ≤ 18446744073709551615) : keyOf Tryz.prog 22 (.int .u64 n) = some (.int .u64 n) := keyOf_int_mk Tryz.underlying22 (u64_wf h)
theorem plain_bool_inv13 {v : Value} {z : DataW Unit × List MemPlace} (h : plainElem Tryz.prog 4 v = some z) : ∃ x, v = .bool x := by
  unfold plainElem at h
  rw [Tryz.underlying4] at h
  cases v <;> simp at h
  exact ⟨_, rfl⟩
/-- block b is a set of at most n numbers: those of l -/
def SetU (w : World) (b n : Nat) (l : List Int) (D : DataW Unit) : Prop :=
  w.ownsMap Tryz.prog 22 (plainElem Tryz.prog 4) b n D ∧ IsMap D ∧ ∀ x, has D (.int .u64 x) = true ↔ x ∈ l
theorem SetU.below {w w' : World} {b n : Nat} {l : List Int} {D : DataW Unit} (h : SetU w b n l D) (hb : Below w.heap.size w w') : SetU w' b n l D := ⟨h.1.kept (below_by_none hb) (by simp), h.2⟩
theorem wp_putU {w : World} {b n : Nat} {l : List Int} {D : DataW Unit} {ops : Array Oper} {rest : List Oper} {o : Oper} {a : Act} {Q : Exit → Act → World → Prop} (hg : o.guard = none) (m x v : Operand) (hop : o.op = Op.mapUpdate 110 m x v) (hv : a.eval v = .bool true) (hm : a.eval m = .map (some b)) (hs : SetU w b n l D) (hn : n < 100000) (key : Int) (hx : a.eval x = .int .u64 key) (hkey : 0 ≤ key ∧ key ≤ 18446744073709551615)
    (hK : ∀ w' D', SetU w' b (n + 1) (l ++ [key]) D' → w.grownBy w' (some b) → wpList Tryz.prog ops Q rest (a.put o.dst undef) w') : wpList Tryz.prog ops Q (o :: rest) a w := by
  refine wpList_plain hg fun K' hK' => ?_
  obtain ⟨w', hr, ho, hgr⟩ := hs.1.update u64Keyed Tryz.underlying110 (by unfold maxLen; omega) (u64Key hkey) (plainElem_bool Tryz.underlying4 true)
  unfold Oper.wp
  simp [execOp, hop, hm, hx, hv, hr, Result.andThen]
  refine hK' _ _ (hK w' _ ⟨ho, hs.2.1.put _ _, fun y => ?_⟩ hgr)
  by_cases e : y = key
  · subst e
    simp [has_put_same hs.2.1 (u64Keyed.key (u64Key hkey))]
  · have hne : Lit.int .u64 y ≠ Lit.int .u64 key := fun h => e (by injection h)
    rw [has_put_other hne, hs.2.2 y]
    simp [e]
/-- memory of numbers of one's own, as a value -/
theorem makeMapU (w : World) : (Instr.makeMap 110 none).run Tryz.prog w = .ok (.map (some w.heap.size)) (w.alloc (.map #[] 0)) := by kernel_rfl
theorem outs_snoc13 (L : List Act12) (a : Act12) : outs13 (L ++ [a]) = outs13 L ++ (if a.T = 0 then [a.A] else []) := by
  unfold outs13
  rw [List.filter_append, List.map_append]
  by_cases h : a.T = 0 <;> simp [h]
theorem ports_of {L : List Act12} {t : List Int} (hnd : t.Nodup) (hs : t.Pairwise (· ≤ ·)) (hm : ∀ y, y ∈ t ↔ y ∈ outs13 L) : t = ports13 L := by
  refine rise_ext ?_ (ports_rise L) fun y => ?_
  · exact List.Pairwise.imp_of_mem (R := fun a b => a ≤ b ∧ a ≠ b) (fun _ _ h => by omega) (List.pairwise_and_iff.2 ⟨hs, hnd⟩)
  · rw [hm y, mem_ports]
    unfold outs13
    simp [and_assoc]
set_option maxHeartbeats 4000000 in
theorem ports13_any (N : Nat) (hS : SortU N) (hNil : SortNil) (w : World) (a : Option Addr) (c : Nat) (l : List Ent12) (hL : Acts w a l) (hI : AllIn w l) (hll : l.length ≤ 1000) (hN : (ports13 (l.map Ent12.act)).length ≤ N) :
    Calls Tryz.prog 30 #[.slice a l.length c] w fun e w' => ∃ a' c', e = .returned (.slice a' (ports13 (l.map Ent12.act)).length c') ∧ Ints .u64 w' a' (ports13 (l.map Ent12.act)) ∧ Below w.heap.size w w' := by
  have HL := hid hL
  have HI := hid hI
  have HS := hid hS
  have HNil := hid hNil
  obtain ⟨n, hn⟩ : ∃ n, n = l.length := ⟨_, rfl⟩
  have HN := hid hn
  rw [← hn] at hll ⊢
  obtain ⟨P, hP⟩ : ∃ P, ports13 (l.map Ent12.act) = P := ⟨_, rfl⟩
  rw [hP] at hN ⊢
  have HP := hid hP
  have HPN := hid hN
  clear hL hI hS hNil hn hP hN
  have mk := fun w => makeMapU w
  obtain ⟨W0, hW0⟩ : ∃ W, w.alloc (.map #[] 0) = W := ⟨_, rfl⟩
  have HT0 : Hid (SetU W0 w.heap.size 0 [] (.map [])) := by
    show SetU _ _ _ _ _
    rw [← hW0]
    exact ⟨World.ownsMap_made w _ 22 _, ⟨_, rfl⟩, fun x => by simp [has]⟩
  have HB0 : Hid (Below w.heap.size w W0) := by show Below _ _ _; rw [← hW0]; exact below_alloc _ _
  have HW0 := hid hW0
  clear hW0
  go_enter Tryz.func30, Tryz.ntmps30
  go_wp2_with fail
  rw [HW0.out]
  go_loopg [11] n (fun kx s11 wr => ∃ (i m : Nat) (D : DataW Unit), s11 = .int .i64 i ∧ i ≤ n ∧ n - i ≤ kx ∧ m ≤ i ∧ Hid (SetU wr w.heap.size m (outs13 ((l.map Ent12.act).take i)) D) ∧ Hid (Below w.heap.size w wr))
  case atStart => exact ⟨0, 0, .map [], rfl, by omega, by omega, Nat.le_refl _, HT0.out, HB0.out⟩
  case round =>
    clear mk
    obtain ⟨i, m, D, rfl, hi, hkx, hmi, hset, hb⟩ := hrel
    by_cases hlt : i < n
    · have hltz : (i : Int) < (n : Int) := by omega
      have hil : i < l.length := by have := HN.out; omega
      obtain ⟨b, off, rfl, -⟩ := HL.out i hil
      obtain ⟨c0, c1, c2, c3, c4, c5, c6, c7, c8, c9⟩ := (HL.out.below hb.out).ten i hil
      have hin := HI.out l[i] (List.getElem_mem hil)
      have htk := take_snoc13 l i hil
      generalize l[i] = g at c0 c1 c2 c3 c4 c5 c6 c7 c8 c9 hin htk
      obtain ⟨W, hW, hbW, hbx⟩ := act_box wr g.T g.A g.B g.o.C g.o.F g.o.H g.o.X g.va g.o.v.length g.vc g.ma g.o.m.length g.mc g.da g.d.length g.dc
      have HW := hid hW
      have HBW := hid (below_on hb.out hbW)
      have HSW := hid (hset.out.below hbW)
      have HA := hid hin.a
      have HO : Hid (outs13 ((l.map Ent12.act).take (i + 1)) = outs13 ((l.map Ent12.act).take i) ++ (if g.T = 0 then [g.A] else [])) := by show _ = _; rw [htk, outs_snoc13]; rfl
      have HBX := hid hbx
      clear hW hbW hin htk hbx
      go_upto_region 5 with fail
      rw [HW.out]
      clear c0 c1 c2 c3 c4 c5 c6 c7 c8 c9
      obtain ⟨d0, d1, d2, d3, d4, d5, d6, d7, d8, d9⟩ := HBX.out.ten
      clear d2 d3 d4 d5 d6 d7 d8 d9
      by_cases hT : g.T = 0
      · have HO2 : Hid (outs13 ((l.map Ent12.act).take (i + 1)) = outs13 ((l.map Ent12.act).take i) ++ [g.A]) := by show _ = _; rw [HO.out, if_pos hT]
        rw [hT] at d0
        clear hT
        go_wp2_with (first | (at_mapUpdate; refine wp_putU rfl _ _ _ rfl rfl rfl HSW.out (by omega) _ rfl HA.out ?_; intro w7 D7 hs7 hg7; have HS7 := hid hs7; have HG7 := hid hg7; clear hs7 hg7) | fail)
        go_roundg (n - (i + 1))
        case rel => exact ⟨i + 1, m + 1, D7, by go_num, by omega, by omega, by omega, by rw [HO2.out]; exact HS7.out, HBW.out.grown HG7.out HBW.out.size (fun k e => by cases e; exact Nat.le_refl _)⟩
        case measure => omega
      · have HO2 : Hid (outs13 ((l.map Ent12.act).take (i + 1)) = outs13 ((l.map Ent12.act).take i)) := by show _ = _; rw [HO.out, if_neg hT, List.append_nil]
        have hTe : (g.T == 0) = false := by simpa using hT
        go_wp2_with fail
        go_roundg (n - (i + 1))
        case rel => exact ⟨i + 1, m, D, by go_num, by omega, by omega, by omega, by rw [HO2.out]; exact HSW.out, HBW.out⟩
        case measure => omega
    · have hge : (n : Int) ≤ (i : Int) := by omega
      obtain rfl : i = n := by omega
      have HSET : Hid (SetU wr w.heap.size m (outs13 (l.map Ent12.act)) D) := by
        have h := hset.out
        rwa [List.take_of_length_le (by rw [List.length_map]; have := HN.out; omega)] at h
      have hown := HSET.out.1
      clear hset
      go_wp2_with (first
        | (at_range; refine wpList_range_own _ rfl _ 110 rfl 22 4 u64Keyed Tryz.underlying110 _ w.heap.size m D rfl hown ?_; intro w0 hrg0 hg0 hs0)
        | fail)
      have HSETO := hid HSET.out.2
      have hsize := hrg0.owns.size_le
      have h0w : Below w.heap.size w w0 := hb.out.grown hg0 hb.out.size (fun k e => by cases e)
      obtain ⟨r, hr⟩ : ∃ r, wr.heap.size = r := ⟨_, rfl⟩
      rw [hr] at hrg0 hs0
      have HS0 : Hid (w0.heap.size = r + 1) := hs0
      have HMR : Hid (w.heap.size < r) := by show _ < _; have := hown.lt; omega
      have HRG0 := hid hrg0
      have HW0B := hid h0w
      clear hrg0 hg0 hs0 hown h0w HSET
      go_frame
      rw [hr]
      clear hr hb
      go_loopw [6] (fun v wx => ∃ (av : Option Addr) (cv : Nat) (left : Lit → Bool) (cnt : Nat) (ss : List Int), v = .slice av ss.length cv ∧ Hid (wx.ranges Tryz.prog 22 (plainElem Tryz.prog 4) w.heap.size r m D left cnt) ∧ Hid (ComeU D left ss) ∧ ss.length + cnt ≤ Maps.size D ∧ Hid (Fresh 22 w wx (.slice av ss.length cv) (ss.map (Value.int .u64))) ∧ Hid (∀ g, (Value.slice av ss.length cv).ownBlock = some g → w0.heap.size ≤ g) ∧ Hid (ss = [] → av = none) ∧ w0.heap.size ≤ wx.heap.size)
        (fun _ wx => wx.rangeLeft w.heap.size r)
      case atStart => exact ⟨none, 0, _, _, [], rfl, HRG0.out, ComeU.start D, by simp, ⟨World.ownsRow_nil w0 0 _ 1, HW0B.out, fun g e => by cases e⟩, (fun g e => by cases e), (fun _ => rfl), Nat.le_refl _⟩
      case round =>
        obtain ⟨av, cv, left, cnt, ss, rfl, hrg, hC, hlen, hF, hnew, hnil, hsx⟩ := hrel
        have hrg' := hrg.out
        have hleft : wr.rangeLeft w.heap.size r = cnt := hrg'.left_eq
        have HLEFT := hid hleft
        clear hleft
        have hmm : ss.length ≤ m := by omega
        have hm1 : m ≤ 1000 := by omega
        go_wp2_with (first
          | (at_next; refine wpList_next_ranges _ rfl _ rfl 22 u64Keyed (plainElem Tryz.prog 4) (Value.int .u64) Value.bool (fun key kl hk => by obtain ⟨x, rfl, _⟩ := Maps.keyOf_int_inv Tryz.underlying22 hk; exact ⟨x, rfl⟩) (fun v y h => plain_bool_inv13 h) w.heap.size r m D left cnt rfl hrg' ?_ ?_)
          | fail)
        · intro hc0 hl0
          have hmem : ∀ y, y ∈ ss ↔ y ∈ outs13 (l.map Ent12.act) := fun y => by rw [hC.out.2 y, hl0, HSETO.out.2 y]; simp
          have HMEM := hid hmem
          have hnd := hid hC.out.1
          clear hmem hl0 hc0 hrg'
          by_cases hss : ss = []
          · have hav := hnil.out hss
            subst hss
            subst hav
            have hPn : P = [] := by
              rw [← HP.out]
              exact (ports_of List.nodup_nil List.Pairwise.nil HMEM.out).symm
            have HPn := hid hPn
            clear hPn
            go_wp2_with fail
            refine (HNil.out _ _).mono ?_
            rintro e w5 ⟨rfl, hb5⟩
            have HB5 := hid (below_on hF.out.bel hb5)
            clear hb5
            go_wp2_with fail
            refine bodyPost_ret (v := .slice none 0 cv) (by simp [results, Tryz.results30, go_sem]) rfl ⟨none, cv, by rw [HPn.out]; rfl, by rw [HPn.out]; exact Ints.nil _ _ _, HB5.out⟩
          · have hne : 0 < ss.length := List.length_pos_iff.2 hss
            have hown := hF.out.own
            obtain ⟨q, hq, -, -⟩ := own_block hown hne
            subst hq
            have HROW := hid (own_rowU hown)
            have hPnd : P.Nodup := by
              rw [← HP.out]
              exact (ports_rise (l.map Ent12.act)).imp (fun h => by omega)
            have hpm : ss.Perm P := (List.perm_ext_iff_of_nodup hnd.out hPnd).2 fun y => by
              rw [HMEM.out y, ← HP.out, mem_ports]
              unfold outs13
              simp [and_assoc]
            have hlenP : ss.length = P.length := hpm.length_eq
            have HLP := hid hlenP
            have hle : ss.length ≤ N := by rw [hlenP]; exact HPN.out
            have HQ := hid (hF.out.new q rfl)
            have HSORT := hid (HS.out wr q cv ss hle hne HROW.out)
            clear hss hown hPnd hpm hlenP hle hne hlen hmm
            go_wp2_with fail
            refine HSORT.out.mono ?_
            rintro e w5 ⟨rfl, t, hR5, hperm, hsorted, hT5⟩
            have htP : t = P := by
              rw [← HP.out]
              exact ports_of (hperm.symm.nodup hnd.out) hsorted (fun y => by rw [hperm.mem_iff, HMEM.out y])
            subst htP
            have HI5 := hid hR5.ints
            have HB5 := hid (hF.out.bel.grown hT5 hF.out.bel.size (fun k e => by cases e; exact HQ.out))
            clear hR5 hperm hsorted hT5
            go_wp2_with fail
            refine bodyPost_ret (v := .slice (some ⟨q, 0, none⟩) ss.length cv) (by simp [results, Tryz.results30, go_sem]) rfl ⟨_, cv, by rw [HLP.out], HI5.out, HB5.out⟩
        · intro x
          constructor
          all_goals
            intro kl y1 y2 w1 cnt1 hkey hlk hval hat hrg1 hlt1 hg1 hs1 hen
            obtain ⟨x', ex, rfl, hwf⟩ := Maps.keyOf_int_inv Tryz.underlying22 hkey
            cases ex
            have hC2 := hid (hC.out.step hlk hat)
            have h0r := HS0.out
            have hmr := HMR.out
            have hg1' : wr.grownBy w1 (some r) := hg1
            have hown1 : w1.ownsRow 0 22 1 (.slice av ss.length cv) (ss.map (Value.int .u64)).length (ss.map (Value.int .u64)) := hF.out.own.kept hg1 (by
              cases hv : (Value.slice av ss.length cv).ownBlock with
              | none => exact .inl rfl
              | some g => exact .inr (fun e => by cases e; have := hnew.out _ hv; omega))
            have hbel1 := hF.out.bel.grown hg1 hF.out.bel.size (fun k e => by cases e; omega)
            have hF1 := hid (show Fresh 22 w w1 (.slice av ss.length cv) (ss.map (Value.int .u64)) from ⟨hown1, hbel1, hF.out.new⟩)
            have hF2 := hF1.out.behind (by_none_alloc w1 (.cells #[.int .u64 x] 22))
            have HRG1 := hid hrg1
            have HY := hid (show ss ++ [x] = ss ++ [x] from rfl)
            have hyl : (ss ++ [x]).length ≤ 2000 := by rw [List.length_append]; simp; omega
            have HYL := hid hyl
            have HSZ : Hid (w0.heap.size ≤ w1.heap.size) := by show _ ≤ _; rw [hs1]; exact hsx
            clear hkey hval hat hrg1 hg1 hg1' hown1 hbel1 hwf hyl hs1
            go_wp2_with (at_builtin; refine wp_app_ints rfl (.tmp 28) (.tmp 30) rfl elemU64 rfl hF2.own rfl rfl (ints_one .u64 w1 x 22) HY.out ?_ ?_ ?_; (have := HYL.out; omega); (have := HYL.out; omega); intro a' c' w3 hl1 hc1 hI1 hG; have HG3 := hid hG; clear hl1 hc1 hI1 hG)
            have hFn := hF2.step HG3.out
            have hG := HG3.out
            have hwa : w1.grownBy (w1.alloc (.cells #[.int .u64 x] 22)) none := by_none_alloc _ _
            have hrow : ∀ b, b < w0.heap.size → some b ≠ (Value.slice av ss.length cv).ownBlock := fun b hb e => by have := hnew.out b e.symm; omega
            have hrg3 := (HRG1.out.alloc (.cells #[.int .u64 x] 22)).kept hG.by_ (hrow _ (by omega)) (hrow _ (by omega))
            have hnew3 : ∀ g, (Value.slice a' (ss ++ [x]).length c').ownBlock = some g → w0.heap.size ≤ g := by
              intro g hg
              rcases hG.moved with e | ⟨q, e, hq⟩
              · have e' : (Value.slice a' (ss ++ [x]).length c').ownBlock = (Value.slice av ss.length cv).ownBlock := e
                exact hnew.out g (by rw [← e', hg])
              · have e' : (Value.slice a' (ss ++ [x]).length c').ownBlock = some q := e
                rw [hg] at e'; cases e'; rw [World.size_alloc] at hq; have := HSZ.out; omega
            have hl3 := hrg3.left_eq
            have hsz3 : w0.heap.size ≤ w3.heap.size := Nat.le_trans HSZ.out (Nat.le_trans hwa.size hG.by_.size)
            have HH := hid (And.intro hFn (And.intro hrg3 (And.intro hnew3 hsz3)))
            have HL3 := hid hl3
            clear hFn hG hwa hrow hrg3 hnew3 hl3 hsz3 hF2
            go_roundw
            case rel => exact ⟨a', c', _, cnt1, ss ++ [x], by simp, HH.out.2.1, hC2.out, by rw [List.length_append]; simp; omega, HH.out.1, HH.out.2.2.1, (fun e => by simp at e), HH.out.2.2.2⟩
            case measure => rw [HL3.out, HLEFT.out]; exact hlt1
end Go.Proofs.YtdjlbejhphbcoaaGreat
namespace Go.Proofs.YtdjlbejhphbcoaaGreat
open Go.RowKit Go.Sort
set_option linter.unusedVariables false
set_option maxRecDepth 100000

theorem len64U_any (x : Int) (h0 : 0 ≤ x) (h1 : x ≤ 255) (w : World) : Calls Tryz.prog 142 #[.int .u64 x] w fun e w' => (∃ r, e = .returned (.int .i64 r)) ∧ w = w' := by
  have g1 : ¬ (4294967296 : Int) ≤ x := by omega
  have g2 : ¬ (65536 : Int) ≤ x := by omega
  have g3 : ¬ (256 : Int) ≤ x := by omega
  have g4 : x % 256 = x := by omega
  have g5 : x.toNat < 256 := by omega
  go_enter Tryz.func142, Tryz.ntmps142
  go_wp2_with fail
  go_ret
  exact ⟨⟨_, rfl⟩, rfl⟩
theorem lenU_any (x : Int) (h0 : 0 ≤ x) (h1 : x ≤ 255) (w : World) : Calls Tryz.prog 109 #[.int .u64 x] w fun e w' => (∃ r, e = .returned (.int .i64 r)) ∧ w = w' := by
  have H := hid (fun w => len64U_any x h0 h1 w)
  go_enter Tryz.func109, Tryz.ntmps109
  go_wp2_with fail
  refine (H.out _).mono ?_
  rintro e w1 ⟨⟨r, rfl⟩, rfl⟩
  go_wp2_with fail
  go_ret
  exact ⟨⟨_, rfl⟩, rfl⟩
theorem pdq12_any (w : World) (blk cap : Nat) (d : Array Int) (r : Int) (hH : RowU w blk d) (h12 : d.size ≤ 12) :
    Calls Tryz.prog 108 #[.slice (some ⟨blk, 0, none⟩) d.size cap, .int .i64 0, .int .i64 d.size, .int .i64 r] w fun e w' =>
      e = .returned (.tuple #[]) ∧ RowU w' blk (insertionSort ltInt d 0 d.size) ∧ TurnU blk w w' := by
  have H := hid (insertU_any w blk cap 0 d.size d hH (Nat.zero_le _) (Nat.le_refl _) (by omega))
  have h12i : (d.size : Int) ≤ 12 := by omega
  clear hH
  go_enter Tryz.func108, Tryz.ntmps108
  go_wp2_with fail
  refine wp_loop_rounds 1 ?_
  rw [rounds_succ]
  go_wp2_with fail
  refine H.out.mono ?_
  rintro e w1 ⟨rfl, h1, h2⟩
  go_wp2_with fail
  exact bodyPost_ret (results_none rfl _ _ _) rfl ⟨rfl, h1, h2⟩
theorem pdqNil_any (w : World) (cap : Nat) (r : Int) : Calls Tryz.prog 108 #[.slice none 0 cap, .int .i64 0, .int .i64 0, .int .i64 r] w fun e w' => e = .returned (.tuple #[]) ∧ Below w.heap.size w w' := by
  have H : ∀ w : World, Calls Tryz.prog 132 #[.slice none 0 cap, .int .i64 0, .int .i64 0] w fun e w' => e = .returned (.tuple #[]) ∧ w = w' := by
    intro w
    go_enter Tryz.func132, Tryz.ntmps132
    go_wp2_with fail
    refine wp_loop_rounds 1 ?_
    rw [rounds_succ]
    go_wp2_with fail
    go_end0
    exact ⟨rfl, rfl⟩
  have HH := hid H
  clear H
  go_enter Tryz.func108, Tryz.ntmps108
  go_wp2_with fail
  refine wp_loop_rounds 1 ?_
  rw [rounds_succ]
  go_wp2_with fail
  refine (HH.out _).mono ?_
  rintro e w1 ⟨rfl, rfl⟩
  go_wp2_with fail
  exact bodyPost_ret (results_none rfl _ _ _) rfl ⟨rfl, Below.refl _ _⟩
theorem sortNil : SortNil := by
  intro w cap
  have H := hid (fun w => lenU_any 0 (by decide) (by decide) w)
  go_enter Tryz.func66, Tryz.ntmps66
  go_wp2_with fail
  refine (H.out _).mono ?_
  rintro e w1 ⟨⟨r, rfl⟩, rfl⟩
  go_wp2_with fail
  refine (pdqNil_any _ _ _).mono ?_
  rintro e w1 ⟨rfl, hb⟩
  go_wp2_with fail
  go_end0
  exact ⟨rfl, hb⟩
theorem perm_sortedU {d d' : Array Int} (hP : PermIn 0 d.size d d') (hS : SortedIn ltInt 0 d.size d') : d'.toList.Perm d.toList ∧ d'.toList.Pairwise (· ≤ ·) := by
  obtain ⟨hs, _, hp⟩ := hP
  refine ⟨?_, ?_⟩
  · have e1 : d'.extract 0 d.size = d' := by rw [← hs]; simp
    have e2 : d.extract 0 d.size = d := by simp
    rwa [e1, e2] at hp
  · rw [List.pairwise_iff_getElem]
    intro i j hi hj hij
    have hi' : i < d'.size := by simpa using hi
    have hj' : j < d'.size := by simpa using hj
    have h := hS i j (Nat.zero_le _) hij (by omega)
    simp only [ltInt, decide_eq_false_iff_not] at h
    rw [get_bang d' hi', get_bang d' hj'] at h
    simp only [Array.getElem_toList]
    omega
/-- what sorting by any pdqsort comes to -/
theorem sortU_of (N : Nat) (hN : N ≤ 255) (hp : ∀ (w : World) (blk cap : Nat) (d : Array Int) (r : Int), RowU w blk d → d.size ≤ N → 0 < d.size →
    Calls Tryz.prog 108 #[.slice (some ⟨blk, 0, none⟩) d.size cap, .int .i64 0, .int .i64 d.size, .int .i64 r] w fun e w' =>
      e = .returned (.tuple #[]) ∧ ∃ d', RowU w' blk d' ∧ PermIn 0 d.size d d' ∧ SortedIn ltInt 0 d.size d' ∧ TurnU blk w w') : SortU N := by
  intro w g cap ss hl h0 hR
  have H := hid (fun w => lenU_any (ss.length : Int) (by omega) (by omega) w)
  have HP := hid (fun r => hp w g cap ss.toArray r hR (by simpa using hl) (by simpa using h0))
  simp only [List.size_toArray] at HP
  clear hp hR
  obtain ⟨n, hn⟩ : ∃ n, n = ss.length := ⟨_, rfl⟩
  rw [← hn] at HP H hl h0 ⊢
  have hn2 : (n : Int) ≤ 255 := by omega
  have HN := hid hn
  clear hn
  go_enter Tryz.func66, Tryz.ntmps66
  go_wp2_with fail
  refine (H.out _).mono ?_
  rintro e w1 ⟨⟨r, rfl⟩, rfl⟩
  go_wp2_with fail
  refine (HP.out r).mono ?_
  rintro e w1 ⟨rfl, d', h1, h2, h3, h4⟩
  have HH := hid (And.intro h1 (And.intro h2 (And.intro h3 h4)))
  clear h1 h2 h3 h4
  go_wp2_with fail
  go_end0
  obtain ⟨h1, h2, h3, h4⟩ := HH.out
  obtain ⟨k1, k2⟩ := perm_sortedU (d := ss.toArray) (d' := d') (by rw [List.size_toArray, ← HN.out]; exact h2) (by rw [List.size_toArray, ← HN.out]; exact h3)
  exact ⟨rfl, d'.toList, h1, k1, k2, h4⟩
theorem sortU12 : SortU 12 := sortU_of 12 (by decide) fun w blk cap d r hR h12 _ => (pdq12_any w blk cap d r hR h12).mono fun e w' ⟨he, h1, h2⟩ =>
  ⟨he, _, h1, (insertionSort_holds swo_ltInt d 0 d.size (Nat.zero_le _) (Nat.le_refl _)).1, (insertionSort_holds swo_ltInt d 0 d.size (Nat.zero_le _) (Nat.le_refl _)).2, h2⟩
end Go.Proofs.YtdjlbejhphbcoaaGreat
namespace Go.Proofs.YtdjlbejhphbcoaaGreat
open Go.RowKit
set_option linter.unusedVariables false
set_option maxRecDepth 100000

def lit13 : List Int := [0, 0, 0, 16, 0, 0, 0, 3, 0, 1, 0, 0, 0, 0, 0, 0, 0, 18, 0, 8, 0, 0, 0, 0, 0, 0, 0, 16, 0, 0, 0, 1, 0, 0, 0, 0, 0, 0, 0, 0]
def ent13 (T A B : Int) : Ent12 := ⟨T, A, B, noOx, none, 0, none, 0, [], none, 0⟩
def acts13 : List Act12 := [⟨0, 3, 1, noOx, []⟩, ⟨18, 0, 0, noOx, []⟩, ⟨0, 1, 0, noOx, []⟩]
theorem s13_1 : enc13 acts13 = .ok lit13 := by kernel_rfl
theorem s13_2 : dec13 lit13 = .ok acts13 := by kernel_rfl
theorem s13_3 : dec13 [] = .ok [] := by kernel_rfl
theorem s13_4 : ports13 acts13 = [1, 3] := by kernel_rfl
theorem s13_5 : size13 acts13 = 40 := by kernel_rfl
theorem ent13_in (w : World) (T A B : Int) (hT : 0 ≤ T ∧ T ≤ 100) (hA : 0 ≤ A ∧ A ≤ 100) (hB : 0 ≤ B ∧ B ≤ 100) : ActIn w (ent13 T A B) :=
  ⟨by show _ ≤ T ∧ T ≤ _; omega, by show 0 ≤ A ∧ A ≤ _; omega, by show 0 ≤ B ∧ B ≤ _; omega, by simp [ent13, noOx], by simp [ent13, noOx], by simp [ent13, noOx], by simp [ent13, noOx], by simp [ent13, noOx], by simp [ent13], Ints.nil _ _ _, Ints.nil _ _ _, Ints.nil _ _ _, (by intro x hx; cases hx), (by intro x hx; cases hx), (by intro x hx; cases hx), by simp [ent13, noOx]⟩
theorem list13_at (w : World) : ∃ W, w.alloc (.cells #[.int .i64 0, .int .u64 3, .int .u64 1, .int .i64 0, .int .i64 0, .bool false, .int .u64 0, .slice none 0 0, .slice none 0 0, .slice none 0 0, .int .i64 18, .int .u64 0, .int .u64 0, .int .i64 0, .int .i64 0, .bool false, .int .u64 0, .slice none 0 0, .slice none 0 0, .slice none 0 0, .int .i64 0, .int .u64 1, .int .u64 0, .int .i64 0, .int .i64 0, .bool false, .int .u64 0, .slice none 0 0, .slice none 0 0, .slice none 0 0] 27) = W ∧ Below w.heap.size w W ∧ Acts W (some ⟨w.heap.size, 0, none⟩) [ent13 0 3 1, ent13 18 0 0, ent13 0 1 0] ∧ AllIn W [ent13 0 3 1, ent13 18 0 0, ent13 0 1 0] := by
  refine ⟨_, rfl, below_alloc _ _, acts_box (BoxL.new w (actCells [ent13 0 3 1, ent13 18 0 0, ent13 0 1 0]) 27), fun g hg => ?_⟩
  simp only [List.mem_cons, List.not_mem_nil, or_false] at hg
  rcases hg with rfl | rfl | rfl <;> exact ent13_in _ _ _ _ (by decide) (by decide) (by decide)
set_option maxHeartbeats 4000000 in
theorem sure13_any (w : World) : Calls Tryz.prog 20 #[] w fun e w' => e = .returned (.bool true) ∧ Below w.heap.size w w' := by
  have G1 := hid (decode13_any w none 0 [] ⟨by simp, by simp, Ints.nil _ _ _, (by intro x hx; cases hx), (fun h => by simp at h)⟩)
  go_enter Tryz.func20, Tryz.ntmps20
  go_wp2_with fail
  refine G1.out.mono ?_
  rintro e w1 (⟨q, hq, _⟩ | ⟨D, va, vc, hq, rfl, _, _, _, _, _, _, _, hb1⟩)
  · rw [s13_3] at hq; cases hq
  rw [s13_3] at hq
  obtain rfl : D = [] := by injection hq with h; exact List.map_eq_nil_iff.1 h.symm
  simp only [List.length_nil]
  have HB1 := hid hb1
  obtain ⟨W1, hW1, hbW1, hX1⟩ := act_box w1 0 3 1 0 0 false 0 none 0 0 none 0 0 none 0 0
  have HW1 := hid hW1
  have HB2 := hid (below_on HB1.out hbW1)
  obtain ⟨W2, hW2, hbW2, hA, hall⟩ := list13_at W1
  have HW2 := hid hW2
  have HB3 := hid (below_on HB2.out hbW2)
  have G2 := hid (encode13_any W2 (some ⟨W1.heap.size, 0, none⟩) 3 [ent13 0 3 1, ent13 18 0 0, ent13 0 1 0] hA hall (by decide))
  obtain ⟨d0, d1, d2, d3, d4, d5, d6, d7, d8, d9⟩ := hX1.ten
  clear hq hb1 hW1 hbW1 hX1 hW2 hbW2 hA hall G1
  go_upto_region 3 with fail
  rw [HW1.out]
  go_wp2_with fail
  rw [HW2.out]
  refine G2.out.mono ?_
  rintro e w2 (⟨hq, _⟩ | ⟨xs, p, hq, rfl, hb3, hI, _⟩)
  · rw [show List.map Ent12.act [ent13 0 3 1, ent13 18 0 0, ent13 0 1 0] = acts13 from rfl, s13_1] at hq; cases hq
  rw [show List.map Ent12.act [ent13 0 3 1, ent13 18 0 0, ent13 0 1 0] = acts13 from rfl, s13_1] at hq
  obtain rfl : lit13 = xs := by injection hq
  have hl : lit13.length = 40 := rfl
  have HB4 := hid (below_on HB3.out hb3)
  have G3 := hid (decode13_any w2 (some ⟨p, 0, none⟩) 40 lit13 ⟨by decide, by decide, hI, octets8 (by decide), fun _ => ⟨_, _, rfl⟩⟩)
  rw [hl] at G3 ⊢
  clear d0 d1 d2 d3 d4 d5 d6 d7 d8 d9 hq hb3 hI G2 hl
  go_wp2_with fail
  refine G3.out.mono ?_
  rintro e w3 (⟨q, hq, _⟩ | ⟨D, va, vc, hq, rfl, _, _, _, hA, hall, _, _, hb4⟩)
  · rw [s13_2] at hq; cases hq
  rw [s13_2] at hq
  have hD : D.map Ent12.act = acts13 := by injection hq with h; exact h.symm
  have hD3 : D.length = 3 := by have := congrArg List.length hD; rwa [List.length_map] at this
  have HB5 := hid (below_on HB4.out hb4)
  have HP := hid (ports13_any 12 sortU12 sortNil w3 va vc D hA hall (by omega) (by rw [hD, s13_4]; decide))
  rw [hD, s13_4, hD3] at HP
  have HS := hid (fun V (hV : Below w3.heap.size w3 V) => sizeof13_any V va vc D (hA.below hV) (hall.below hV) (by omega))
  rw [hD, s13_5, hD3] at HS
  rw [hD3]
  clear hq hb4 hA hall hD hD3 G3
  go_wp2_with fail
  refine HP.out.mono ?_
  rintro e w4 ⟨a4, c4, rfl, hI4, hb5⟩
  have HB6 := hid (below_on HB5.out hb5)
  have HB7 := hid hb5
  have HI4 := hid hI4
  simp only [List.length_cons, List.length_nil]
  have hb6 := below_alloc w4 (.cells #[.int .u64 1, .int .u64 3] 22)
  have HN := hid (nums_any [1, 3] [1, 3] a4 (some ⟨w4.heap.size, 0, none⟩) c4 2 (w4.alloc (.cells #[.int .u64 1, .int .u64 3] 22)) (by decide) (by decide) (hI4.below hb6) (ints_lit .u64 w4 [1, 3] 22))
  have HB8 := hid hb6
  clear hb5 hI4 hb6
  go_wp2_with fail
  refine HN.out.mono ?_
  rintro e w5 ⟨he, n5, rfl⟩
  obtain rfl : e = .returned (.bool true) := he
  have hb7 : Below w3.heap.size w3 ((w4.alloc (.cells #[.int .u64 1, .int .u64 3] 22)).drewN n5) := (below_on HB7.out HB8.out).grown (by_none_drewN _ _) (below_on HB7.out HB8.out).size (fun k e => by cases e)
  have HB9 := hid (below_on HB5.out hb7)
  have HS2 := hid (HS.out _ hb7)
  clear hb7
  go_wp2_with fail
  refine HS2.out.mono ?_
  rintro e w6 ⟨rfl, hb8⟩
  have HB10 := hid (below_on HB9.out hb8)
  clear hb8
  go_wp2_with fail
  go_ret
  exact ⟨rfl, HB10.out⟩
end Go.Proofs.YtdjlbejhphbcoaaGreat
namespace Go.Proofs.YtdjlbejhphbcoaaGreat
open Go.RowKit
set_option linter.unusedVariables false
set_option maxRecDepth 100000

set_option maxHeartbeats 4000000 in
theorem refSame13_any (l m : List Ent12) (a b : Option Addr) (c d : Nat) (w : World) (hI : Acts w a l) (hJ : Acts w b m) (aI : AllIn w l) (aJ : AllIn w m) (hll : l.length ≤ 1000) (hlm : m.length ≤ 1000) :
    Calls Tryz.prog 34 #[.slice a l.length c, .slice b m.length d] w fun e w' => e = .returned (.bool (decide (l.map Ent12.act = m.map Ent12.act))) ∧ Below w.heap.size w w' := by
  obtain ⟨r, hr⟩ : ∃ r, decide (l.map Ent12.act = m.map Ent12.act) = r := ⟨_, rfl⟩
  rw [hr]
  have HR := hid hr
  have HI := hid (And.intro hI aI)
  have HJ := hid (And.intro hJ aJ)
  clear hr hI hJ aI aJ
  by_cases hlen : l.length = m.length
  · obtain ⟨N, hN⟩ : ∃ N, N = l.length := ⟨_, rfl⟩
    have hM : m.length = N := by omega
    rw [hM, ← hN]
    have HN := hid (And.intro hN hM)
    have hN' : N ≤ 1000 := by omega
    clear hN hM hlen hll hlm
    go_enter Tryz.func34, Tryz.ntmps34
    go_wp2_with fail
    go_loopg [5] N (fun kx s5 wr => ∃ (i : Nat), s5 = .int .i64 i ∧ i ≤ N ∧ N - i ≤ kx ∧ Hid ((l.map Ent12.act).take i = (m.map Ent12.act).take i) ∧ Hid (Below w.heap.size w wr))
    case atStart => exact ⟨0, rfl, by omega, by omega, rfl, Below.refl _ _⟩
    case round =>
      obtain ⟨i, rfl, hi, hkx, hn, hb⟩ := hrel
      by_cases hlt : i < N
      · have hltz : (i : Int) < (N : Int) := by omega
        have hN1 := HN.out.1
        have hN2 := HN.out.2
        have hl := HI.out.1.below hb.out
        have hm := HJ.out.1.below hb.out
        obtain ⟨b1, o1, rfl, -⟩ := hl i (by omega)
        obtain ⟨b2, o2, rfl, -⟩ := hm i (by omega)
        obtain ⟨c0, c1, c2, c3, c4, c5, c6, c7, c8, c9⟩ := hl.ten i (by omega)
        obtain ⟨k0, k1, k2, k3, k4, k5, k6, k7, k8, k9⟩ := hm.ten i (by omega)
        have e1 := HI.out.2 l[i] (List.getElem_mem (by omega))
        have e2 := HJ.out.2 m[i] (List.getElem_mem (by omega))
        have g1 : (l.map Ent12.act)[i]? = some l[i].act := by simp [show i < l.length by omega]
        have g2 : (m.map Ent12.act)[i]? = some m[i].act := by simp [show i < m.length by omega]
        generalize l[i] = x at c0 c1 c2 c3 c4 c5 c6 c7 c8 c9 e1 g1
        generalize m[i] = y at k0 k1 k2 k3 k4 k5 k6 k7 k8 k9 e2 g2
        have HS := hid (fun j : Wk wr => Wk.call (refActSame_any x y j.val (e1.below (below_on hb.out j.bel)) (e2.below (below_on hb.out j.bel))))
        have d0 := Wk.cell c0
        have d1 := Wk.cell c1
        have d2 := Wk.cell c2
        have d3 := Wk.cell c3
        have d4 := Wk.cell c4
        have d5 := Wk.cell c5
        have d6 := Wk.cell c6
        have d7 := Wk.cell c7
        have d8 := Wk.cell c8
        have d9 := Wk.cell c9
        have u0 := Wk.cell k0
        have u1 := Wk.cell k1
        have u2 := Wk.cell k2
        have u3 := Wk.cell k3
        have u4 := Wk.cell k4
        have u5 := Wk.cell k5
        have u6 := Wk.cell k6
        have u7 := Wk.cell k7
        have u8 := Wk.cell k8
        have u9 := Wk.cell k9
        obtain ⟨sv, hsv⟩ : ∃ sv, same12 x.act y.act = sv := ⟨_, rfl⟩
        rw [hsv] at HS
        have hiff := same12_iff x.act y.act
        rw [hsv] at hiff
        have HIF := hid hiff
        have HG := hid (And.intro g1 g2)
        clear hl hm e1 e2 g1 g2 hsv hiff hN1 hN2 c0 c1 c2 c3 c4 c5 c6 c7 c8 c9 k0 k1 k2 k3 k4 k5 k6 k7 k8 k9
        go_upto_region 6 with fail
        refine wp_region_wk (by kernel_rfl) (by kernel_rfl) ?_
        repeat (go_big_quiet_step (first | (go_at_call 18; exact HS.out _) | fail))
        refine wpQuiet_nil ?_
        rintro w6 ⟨⟨_, hb6⟩, rfl⟩
        clear d0 d1 d2 d3 d4 d5 d6 d7 d8 d9 u0 u1 u2 u3 u4 u5 u6 u7 u8 u9
        have HB6 := hid (below_on hb.out hb6)
        clear hb6
        cases sv
        · have hrf : r = false := by
            rw [← HR.out, decide_eq_false_iff_not]
            intro e
            have h1 := HG.out.1
            rw [e, HG.out.2] at h1
            have h2 : y.act = x.act := by simpa using h1
            have := HIF.out.2 h2.symm
            cases this
          go_wp2_with fail
          refine bodyPost_ret (v := .bool false) (by simp [results, Tryz.results34, go_sem]) rfl ⟨by rw [hrf], HB6.out⟩
        · have hxy := HIF.out.1 rfl
          have hn2 : (l.map Ent12.act).take (i + 1) = (m.map Ent12.act).take (i + 1) := by
            rw [List.take_add_one, List.take_add_one, hn.out, HG.out.1, HG.out.2, hxy]
          have HN2 := hid hn2
          clear hxy hn2
          go_wp2_with fail
          go_roundg (N - (i + 1))
          case rel => exact ⟨i + 1, by go_num, by omega, by omega, HN2.out, HB6.out⟩
          case measure => omega
      · have hge : (N : Int) ≤ (i : Int) := by omega
        have hrt : r = true := by
          rw [← HR.out, decide_eq_true_iff]
          have h := hn.out
          rw [List.take_of_length_le (by rw [List.length_map]; have := HN.out.1; omega), List.take_of_length_le (by rw [List.length_map]; have := HN.out.2; omega)] at h
          exact h
        have HRT := hid hrt
        clear hrt
        go_wp2_with fail
        exact bodyPost_ret (v := .bool true) (by simp [results, Tryz.results34, go_sem]) rfl ⟨by rw [HRT.out], hb.out⟩
  · have hne : ((l.length : Int) != (m.length : Int)) = true := by simp; omega
    have hrf : r = false := by
      rw [← HR.out, decide_eq_false_iff_not]
      intro e
      have := congrArg List.length e
      rw [List.length_map, List.length_map] at this
      exact hlen this
    have HRF := hid hrf
    clear hrf hlen
    go_enter Tryz.func34, Tryz.ntmps34
    go_wp2_with fail
    exact bodyPost_ret (v := .bool false) (by simp [results, Tryz.results34, go_sem]) rfl ⟨by rw [HRF.out], Below.refl _ _⟩
end Go.Proofs.YtdjlbejhphbcoaaGreat
