/- The document's matches out of bytes. -/
import Derived.Test.YteaimnlfbbkccaaMatL
import Derived.Test.YteaimnlfbbkccaaMatF
import Derived.Test.YteaimnlfbbkccaaMrg8
namespace Go.Proofs.Yteaimnlfbbkccaa
open Go.RowKit
set_option linter.unusedVariables false
set_option maxRecDepth 100000

/-- a list of one's own in a slot -/
structure ListAt (w0 : World) (W : World) (v : Value) (pre : List Ent9) : Prop where
  fr : FreshO w0 W v pre.length pre
  ents : ∀ x ∈ pre, EntIn W x ∧ (x.o.v.length ≤ 1000 ∧ x.o.m.length ≤ 1000) ∧ Far10 (fun k => v.ownBlock = some k ∨ k < w0.heap.size) x
theorem ListAt.nil (w : World) : ListAt w w (.slice none 0 0) [] := ⟨FreshO.nil w, by simp⟩
theorem ListAt.below {w0 W W' : World} {v : Value} {pre : List Ent9} (h : ListAt w0 W v pre) (hb : Below W.heap.size W W') : ListAt w0 W' v pre :=
  ⟨h.fr.behind hb, fun x hx => ⟨(h.ents x hx).1.below hb, (h.ents x hx).2⟩⟩
theorem ListAt.l9 {w0 W : World} {va : Option Addr} {n vc : Nat} {pre : List Ent9} (h : ListAt w0 W (.slice va n vc) pre) (hl : pre.length ≤ 1000) : n = pre.length ∧ L9 W va pre ∧ pre.length ≤ vc ∧ vc ≤ 9223372036854775807 ∧ New9 w0 va pre := by
  obtain ⟨a', c', he, _⟩ := own_oxms h.fr.own
  simp at he
  obtain ⟨_, rfl, _⟩ := he
  obtain ⟨e1, e2, e3, e4⟩ := h.fr.ox
  refine ⟨rfl, ⟨e4, fun x hx => (h.ents x hx).1, fun x hx => (h.ents x hx).2.1, hl⟩, e2, e3, fun q hq => ?_, fun x hx => (h.ents x hx).2.2.mono fun k e => .inr e⟩
  subst hq
  obtain ⟨g, rfl⟩ := h.fr.spot
  exact h.fr.new g rfl
theorem ListAt.snoc {w0 W w1 w' : World} {v v' : Value} {pre : List Ent9} {x : Ent9} (h : ListAt w0 W v pre) (hx : EntIn W x) (hf : x.o.v.length ≤ 1000 ∧ x.o.m.length ≤ 1000) (hfar : Far10 (fun k => v.ownBlock = some k ∨ k < w0.heap.size) x)
    (hw1 : Below W.heap.size W w1) (hF : FreshO w0 w' v' (pre.length + 1) (pre ++ [x])) (hb : w1.grownBy w' v.ownBlock) (hm : Moved w1 v v') : ListAt w0 w' v' (pre ++ [x]) := by
  refine ⟨by rw [List.length_append]; exact hF, fun y hy => ?_⟩
  have hy' : EntIn W y ∧ (y.o.v.length ≤ 1000 ∧ y.o.m.length ≤ 1000) ∧ Far10 (fun k => v.ownBlock = some k ∨ k < w0.heap.size) y := by
    rcases List.mem_append.1 hy with hy | hy
    · exact h.ents y hy
    · simp at hy; subst hy; exact ⟨hx, hf, hfar⟩
  obtain ⟨y1, y2, y3⟩ := hy'
  have z1 := y1.below hw1
  refine ⟨z1.far hb (y3.mono fun k e => .inl e), y2, ?_⟩
  rcases hm with e | ⟨g, e, hgs⟩
  · rw [e]; exact y3
  · have hoff := z1.off (S := fun k => k = g) (fun k e => by subst e; exact hgs)
    refine ⟨fun a q b s => ?_, fun a q b s => ?_⟩
    · rcases s with s | s
      · rw [e] at s; exact hoff.v a q b (by simpa using s.symm)
      · exact y3.v a q b (.inr s)
    · rcases s with s | s
      · rw [e] at s; exact hoff.m a q b (by simpa using s.symm)
      · exact y3.m a q b (.inr s)
theorem valE_err {B : List Int} {k : Nat} {pre : List Ent9} (h : PreV B k pre) (hlt : k < B.length) {q : Int} (hd : decL (B.drop k) = .error q) (hc : (check9 (pre.map Ent9.o)).2 = 0) : valE B = q := by
  unfold valE; rw [h.err hlt hd]; simp [hc]
theorem valE_chk {B : List Int} {k : Nat} {pre : List Ent9} (h : PreV B k pre) (hc : (check9 (pre.map Ent9.o)).2 ≠ 0) : valE B = (check9 (pre.map Ent9.o)).2 := by
  have e : (check9 (vals10 B).1).2 = (check9 (pre.map Ent9.o)).2 := by rw [h.cut.out, check_append10, if_pos hc]
  unfold valE; rw [e, if_pos hc]
theorem valE_ok {B : List Int} {k : Nat} {pre : List Ent9} (h : PreV B k pre) (hge : B.length ≤ k) (hc : (check9 (pre.map Ent9.o)).2 = 0) : valE B = 0 := by
  unfold valE; rw [h.done hge]; simp [hc]

theorem refDecode10_few (b : List Int) (a : Option Addr) (c : Nat) (w : World) (h4 : b.length < 4) :
    Calls Try.prog 19 #[.slice a b.length c] w (DecPost10 b w) := by
  have hm := match_few h4
  have HM := hid hm
  have hi : (b.length : Int) < 4 := by omega
  clear hm h4
  go_enter Try.func19, Try.ntmps19
  go_wp2_with fail
  refine bodyPost_ret (v := .tuple #[.slice none 0 0, .int .i64 0, .int .i64 1026]) ?_ rfl (.inr ⟨1026, HM.out, by decide, rfl, Below.refl _ _⟩)
  simp [results, Try.results19, go_sem]

set_option maxHeartbeats 4000000 in
theorem refDecode10_type (b : List Int) (M off c : Nat) (hbc : b.length ≤ c) (ho : Octets b) (w : World) (hI : Ints .u8 w (some ⟨M, off, none⟩) b) (h4 : ¬ b.length < 4) (hv1 : numL (b.take 2) ≠ 1) :
    Calls Try.prog 19 #[.slice (some ⟨M, off, none⟩) b.length c] w (DecPost10 b w) := by
  have HM := hid (match_type h4 hv1)
  have hi : ¬ (b.length : Int) < 4 := by omega
  have hc2 : (2 : Int) ≤ (c : Int) := by omega
  have hl2 : (b.take 2).length = 2 := by rw [List.length_take]; omega
  have HV := value_any (b.take 2) (some ⟨M, off, none⟩) c w (by omega) (ho.take 2) (hI.take 2)
  rw [hl2] at HV
  have HVV := hid HV
  have hv2 : (numL (b.take 2) != 1) = true := by simpa using hv1
  obtain ⟨V, hV⟩ : ∃ V, numL (b.take 2) = V := ⟨_, rfl⟩
  rw [hV] at HVV hv2
  clear HV hl2 hI ho hv1 hV h4
  go_enter Try.func19, Try.ntmps19
  go_wp2_with fail
  refine HVV.out.mono ?_
  rintro e w1 ⟨rfl, rfl⟩
  go_wp2_with fail
  refine bodyPost_ret (v := .tuple #[.slice none 0 0, .int .i64 0, .int .i64 1025]) ?_ rfl (.inr ⟨1025, HM.out, by decide, rfl, Below.refl _ _⟩)
  simp [results, Try.results19, go_sem]

set_option maxHeartbeats 8000000 in
theorem refDecode10_long (b : List Int) (M off c : Nat) (hbc : b.length ≤ c) (hb6 : b.length ≤ 65528) (ho : Octets b) (w : World) (hI : Ints .u8 w (some ⟨M, off, none⟩) b) (h4 : ¬ b.length < 4) (hv1 : numL (b.take 2) = 1) (hno : ∀ n, ¬ HeadOk b n) :
    Calls Try.prog 19 #[.slice (some ⟨M, off, none⟩) b.length c] w (DecPost10 b w) := by
  obtain ⟨n, hn, hn5⟩ := num10_two ho
  have hi : ¬ (b.length : Int) < 4 := by omega
  have hc2 : (2 : Int) ≤ (c : Int) := by omega
  have hc4 : (4 : Int) ≤ (c : Int) := by omega
  have hcne : ¬ c = 2 := by omega
  have hcs : ((c : Int) - 2).toNat = c - 2 := by omega
  have hl2 : (b.take 2).length = 2 := by rw [List.length_take]; omega
  have hl3 : ((b.drop 2).take 2).length = 2 := by rw [List.length_take, List.length_drop]; omega
  have HV := value_any (b.take 2) (some ⟨M, off, none⟩) c w (by omega) (ho.take 2) (hI.take 2)
  rw [hl2, hv1] at HV
  have hId := hI.drop (j := 2) hbc
  rw [if_neg hcne] at hId
  have HV2 := value_any ((b.drop 2).take 2) (some ⟨M, off + 2, none⟩) (c - 2) w (by omega) ((ho.drop 2).take 2) (hId.take 2)
  rw [hl3] at HV2
  have hnn : numL ((b.drop 2).take 2) = (n : Int) := hn
  rw [hnn] at HV2
  have HVV := hid HV
  have HVW := hid HV2
  have hn5' : (n : Int) ≤ 65535 := by omega
  have hz8 := zeros_lt10 n
  have HZ := hid (fun (w : World) => refZeros10_any w n (by omega))
  have hl := hno n
  have hl' : n < 4 ∨ 65528 < n ∨ b.length < n + zeros10 n := by
    by_cases c1 : n < 4
    · exact .inl c1
    · by_cases c2 : 65528 < n
      · exact .inr (.inl c2)
      · by_cases c3 : b.length < n + zeros10 n
        · exact .inr (.inr c3)
        · exact absurd ⟨hn, by omega, hv1, by omega, by omega, by omega⟩ hl
  have HM := hid (match_long h4 hv1 hn hl')
  obtain ⟨z, hz⟩ : ∃ z, zeros10 n = z := ⟨_, rfl⟩
  rw [hz] at HZ hz8 hl'
  have ways : n < 4 ∨ (4 ≤ n ∧ 65528 < n) ∨ (4 ≤ n ∧ n ≤ 65528 ∧ b.length < n + z) := by omega
  clear HV HV2 hl2 hl3 hI ho hId hn hnn hv1 h4 hz hl hl' hno
  rcases ways with c1 | ⟨c1, c2⟩ | ⟨c1, c2, c3⟩
  · have c1' : (n : Int) < 4 := by omega
    go_enter Try.func19, Try.ntmps19
    go_wp2_with fail
    refine HVV.out.mono ?_
    rintro e w1 ⟨rfl, rfl⟩
    go_wp2_with fail
    refine HVW.out.mono ?_
    rintro e w1 ⟨rfl, rfl⟩
    go_wp2_with fail
    refine bodyPost_ret (v := .tuple #[.slice none 0 0, .int .i64 0, .int .i64 1026]) ?_ rfl (.inr ⟨1026, HM.out, by decide, rfl, Below.refl _ _⟩)
    simp [results, Try.results19, go_sem]
  · have c1' : ¬ (n : Int) < 4 := by omega
    have c2' : (65528 : Int) < (n : Int) := by omega
    go_enter Try.func19, Try.ntmps19
    go_wp2_with fail
    refine HVV.out.mono ?_
    rintro e w1 ⟨rfl, rfl⟩
    go_wp2_with fail
    refine HVW.out.mono ?_
    rintro e w1 ⟨rfl, rfl⟩
    go_wp2_with fail
    refine bodyPost_ret (v := .tuple #[.slice none 0 0, .int .i64 0, .int .i64 1026]) ?_ rfl (.inr ⟨1026, HM.out, by decide, rfl, Below.refl _ _⟩)
    simp [results, Try.results19, go_sem]
  · have c1' : ¬ (n : Int) < 4 := by omega
    have c2' : ¬ (65528 : Int) < (n : Int) := by omega
    have c3' : (b.length : Int) < (n : Int) + (z : Int) := by omega
    go_enter Try.func19, Try.ntmps19
    go_wp2_with fail
    refine HVV.out.mono ?_
    rintro e w1 ⟨rfl, rfl⟩
    go_wp2_with fail
    refine HVW.out.mono ?_
    rintro e w1 ⟨rfl, rfl⟩
    go_wp2_with fail
    refine (HZ.out _).mono ?_
    rintro e w1 ⟨rfl, rfl⟩
    go_wp2_with fail
    refine bodyPost_ret (v := .tuple #[.slice none 0 0, .int .i64 0, .int .i64 1026]) ?_ rfl (.inr ⟨1026, HM.out, by decide, rfl, Below.refl _ _⟩)
    simp [results, Try.results19, go_sem]

/-- the zeros behind a match are none, or one is not -/
theorem zeros_any10 {l : List Int} : (l.any (fun x => x != 0) = true) ↔ zeros l = false := by
  unfold zeros
  rw [List.all_eq_false, List.any_eq_true]
  constructor <;> rintro ⟨x, h1, h2⟩ <;> exact ⟨x, h1, by simpa using h2⟩
theorem zeros_front10 {l : List Int} {i j : Nat} (h : zeros (l.take i) = false) (hij : i ≤ j) : zeros (l.take j) = false := by
  unfold zeros at *
  rw [List.all_eq_false] at *
  obtain ⟨x, hx, h0⟩ := h
  refine ⟨x, ?_, h0⟩
  have e : l.take i = (l.take j).take i := by rw [List.take_take, Nat.min_eq_left hij]
  rw [e] at hx
  exact List.mem_of_mem_take hx

set_option maxHeartbeats 16000000 in
theorem refDecode10_good (b : List Int) (M off c : Nat) (hbc : b.length ≤ c) (hcm : c ≤ 9223372036854775807) (hb6 : b.length ≤ 2000) (ho : Octets b) (w : World) (hI : Ints .u8 w (some ⟨M, off, none⟩) b) {n : Nat} (hok : HeadOk b n) :
    Calls Try.prog 19 #[.slice (some ⟨M, off, none⟩) b.length c] w (DecPost10 b w) := by
  have HOK := hid hok
  obtain ⟨hn0, h4', hv1, hn4, hn6, hl⟩ := hok
  have h4 : ¬ b.length < 4 := by omega
  have hmb := match_body hn0 h4' hv1 hn4 hn6 hl
  have hcnt : 4 * (vals10 ((b.take n).drop 4)).1.length ≤ ((b.take n).drop 4).length := vals_few10 _ _ (Nat.le_refl _) ((ho.take n).drop 4)
  have hBl : ((b.take n).drop 4).length = n - 4 := by rw [List.length_drop, List.length_take]; omega
  obtain ⟨n', hnn', hn5⟩ := num10_two ho
  obtain rfl : n' = n := by omega
  have hi : ¬ (b.length : Int) < 4 := by omega
  have hc2 : (2 : Int) ≤ (c : Int) := by omega
  have hc4 : (4 : Int) ≤ (c : Int) := by omega
  have hcne : ¬ c = 2 := by omega
  have hcs : ((c : Int) - 2).toNat = c - 2 := by omega
  have hl2 : (b.take 2).length = 2 := by rw [List.length_take]; omega
  have hl3 : ((b.drop 2).take 2).length = 2 := by rw [List.length_take, List.length_drop]; omega
  have HV := value_any (b.take 2) (some ⟨M, off, none⟩) c w (by omega) (ho.take 2) (hI.take 2)
  rw [hl2, hv1] at HV
  have hId := hI.drop (j := 2) hbc
  rw [if_neg hcne] at hId
  have HV2 := value_any ((b.drop 2).take 2) (some ⟨M, off + 2, none⟩) (c - 2) w (by omega) ((ho.drop 2).take 2) (hId.take 2)
  rw [hl3] at HV2
  have hnn : numL ((b.drop 2).take 2) = (n' : Int) := hnn'
  rw [hnn] at HV2
  have HVV := hid HV
  have HVW := hid HV2
  clear HV HV2
  obtain ⟨n, hnl⟩ : ∃ n, n = n' := ⟨_, rfl⟩
  subst hnl
  have hz8 := zeros_lt10 n
  have HZ := hid (fun (w : World) => refZeros10_any w n (by omega))
  obtain ⟨z, hz⟩ : ∃ z, zeros10 n = z := ⟨_, rfl⟩
  rw [hz] at HZ hz8 hl hmb
  obtain ⟨B, hB⟩ : ∃ B, (b.take n).drop 4 = B := ⟨_, rfl⟩
  rw [hB] at hmb hcnt hBl
  have c1' : ¬ (n : Int) < 4 := by omega
  have c2' : ¬ (65528 : Int) < (n : Int) := by omega
  have c3' : ¬ (b.length : Int) < (n : Int) + (z : Int) := by omega
  have HMB := hid hmb
  have HCNT := hid hcnt
  have HBL := hid hBl
  have HBB := hid hB
  have HO := hid ho
  have HI := hid hI
  have HLL := hid hl
  have hnc : (n : Int) ≤ (c : Int) := by omega
  have hn5' : (n : Int) ≤ 65528 := by omega
  have hbl5 : (b.length : Int) ≤ 2000 := by omega
  clear hl2 hl3 hI ho hId hn0 hnn hnn' hv1 h4 h4' hz hl hmb hcnt hBl hB hcne hcs hc2
  go_enter Try.func19, Try.ntmps19
  go_wp2_with fail
  refine HVV.out.mono ?_
  rintro e w1 ⟨rfl, rfl⟩
  go_wp2_with fail
  refine HVW.out.mono ?_
  rintro e w1 ⟨rfl, rfl⟩
  go_wp2_with fail
  refine (HZ.out _).mono ?_
  rintro e w1 ⟨rfl, rfl⟩
  go_wp2_with fail
  go_loopg [6, 7] n (fun kx s6 s7 wr => ∃ (A k : Nat) (va : Option Addr) (vc : Nat) (pre : List Ent9), s6 = .slice va pre.length vc ∧ s7 = .int .i64 A ∧ Hid (A = k + 4) ∧ A ≤ n ∧ n - A ≤ kx ∧ Hid (PreV B k pre) ∧ Hid ((check9 (pre.map Ent9.o)).2 = 0) ∧ Hid (ListAt w wr (.slice va pre.length vc) pre))
  case atStart => exact ⟨4, 0, none, 0, [], rfl, rfl, rfl, hn4, by omega, preV_nil B, rfl, ListAt.nil w⟩
  case round =>
    obtain ⟨A, k, va, vc, pre, rfl, rfl, hA, hAn, hkx, hP, hC, hLA⟩ := hrel
    by_cases hlt : A < n
    · have hltz : (A : Int) < (n : Int) := by omega
      have hlez : (A : Int) ≤ (n : Int) := by omega
      have hs1 : ((n : Int) - (A : Int)).toNat = n - A := by omega
      have hs2 : ((c : Int) - (A : Int)).toNat = c - A := by omega
      have hne : ¬ c = A := by omega
      have hdl : ((b.take n).drop A).length = n - A := by rw [List.length_drop, List.length_take]; have := HLL.out; omega
      have hbd : (b.take n).drop A = B.drop k := by rw [← HBB.out, List.drop_drop]; congr 1; have := hA.out; omega
      have hIt : Ints .u8 wr (some ⟨M, off + A, none⟩) ((b.take n).drop A) := by
        have h := ((HI.out.below hLA.out.fr.bel).take n).drop (j := A) (show (b.take n).length ≤ c by rw [List.length_take]; omega)
        rw [if_neg hne] at h
        exact h
      have hD := refDecode8_any ((b.take n).drop A) (some ⟨M, off + A, none⟩) (c - A) (by rw [hdl]; omega) (by omega) ((HO.out.take n).drop A) (by rw [hdl]; omega) wr hIt
      rw [hdl] at hD
      rw [hbd] at hD
      have hoB : Octets (B.drop k) := by rw [← hbd]; exact (HO.out.take n).drop A
      have HD := hid hD
      have HOB := hid hoB
      have hkB : k < B.length := by rw [HBL.out]; have := hA.out; omega
      have HKB := hid hkB
      clear hD hIt hdl hbd hoB hkB
      go_wp2_with fail
      refine HD.out.mono ?_
      rintro e w2 (⟨q, hq, hq0, rfl, hb2⟩ | ⟨o, a1, c1, a2, c2, hok, rfl, hb2, hI1, hI2, hc2, hn1, hn2⟩)
      · have hE := valE_err hP.out HKB.out hq hC.out
        have hmk := HMB.out
        rw [hE, if_pos hq0] at hmk
        have HMK := hid hmk
        have HQ0 := hid hq0
        have gq : (q != 0) = true := by simpa using hq0
        obtain ⟨V, hV, hbV, hx⟩ := oxm_box w2 0 0 false 0 none 0 0 none 0 0
        have HV := hid hV
        have HBV := hid (below_on (below_on hLA.out.fr.bel hb2) hbV)
        clear hV hx hbV hb2 hq hq0 hE hmk
        go_upto_region 12 with fail
        rw [HV.out]
        go_wp2_with fail
        refine bodyPost_ret (v := .tuple #[.slice none 0 0, .int .i64 0, .int .i64 q]) ?_ rfl (.inr ⟨q, HMK.out, HQ0.out, rfl, HBV.out⟩)
        simp [results, Try.results19, go_sem]
      · obtain ⟨V, hV, hbV, hx⟩ := oxm_box w2 o.C o.F o.H o.X a1 o.v.length c1 a2 o.m.length c2
        have HV := hid hV
        have hbW : Below wr.heap.size wr V := below_on hb2 hbV
        obtain ⟨hent, e1, e2, e3⟩ := dec_ent10 hok HOB.out (hI1.below hbV) (hI2.below hbV) (a1 := a1) (c1 := c1) hc2
        have hfr := hP.out.ok HKB.out hok e3 (x := ⟨ox10 o, a1, c1, a2, c2⟩) rfl
        have hlv := hLA.out.below hbW
        have hown := fun g (e : (Value.slice va pre.length vc).ownBlock = some g) => own_lt9 hLA.out.fr.own e
        have hws := hLA.out.fr.bel.size
        have hfar : Far10 (fun j => (Value.slice va pre.length vc).ownBlock = some j ∨ j < w.heap.size) ⟨ox10 o, a1, c1, a2, c2⟩ := by
          refine ⟨fun _ q e s => ?_, fun _ q e s => ?_⟩
          · have := hn1 q e; rcases s with s | s; (have := hown _ s; omega); omega
          · have := hn2 q e; rcases s with s | s; (have := hown _ s; omega); omega
        have hpl := vals_len hfr
        rw [List.length_append] at hpl
        simp only [List.length_cons, List.length_nil] at hpl
        have hcn := HCNT.out
        rw [HBL.out] at hcn
        have hp5 : pre.length + 1 ≤ 500 := by omega
        have hONE := oxms_one V ⟨ox10 o, a1, c1, a2, c2⟩ 52
        have HONE := hid hONE
        have hbA := below_alloc V (.cells #[.int .i64 o.C, .int .i64 o.F, .bool o.H, .int .u64 o.X, .slice a1 o.v.length c1, .slice a2 o.m.length c2] 52)
        have HFB := hid (hlv.below hbA).fr
        have HSN := hid (fun w' v' hF hb hm => ListAt.snoc (w' := w') (v' := v') hlv hent ⟨by show o.v.length ≤ 1000; omega, by show o.m.length ≤ 1000; omega⟩ hfar hbA hF hb hm)
        obtain ⟨x0, x1, x2, x3, x4, x5⟩ := hx.six
        have HFR := hid hfr
        have hn4' := dec_pos10 hok
        have hnB : k + o.n ≤ B.length := hfr.le
        rw [HBL.out] at hnB
        obtain ⟨nn, hnn⟩ : ∃ nn, o.n = nn := ⟨_, rfl⟩
        rw [hnn] at hn4' hnB HFR
        have HNN := hid hnn
        rw [HNN.out]
        clear hV hx hbV hb2 hI1 hI2 hc2 hn1 hn2 hok hent hfr hlv hown hfar hONE hbA hpl hcn hnn hbW e1 e2 e3
        go_upto_region 12 with fail
        rw [HV.out]
        go_upto_region 15 with (at_builtin; refine wp_app_oxmsG rfl (.tmp 55) (.tmp 57) rfl HFB.out rfl rfl rfl HONE.out (by omega) rfl ?_; intro va3 vc3 w3 hF3 hb3 hm3; have HS3 := hid (HSN.out w3 _ hF3 hb3 hm3); clear hF3 hb3 hm3)
        have hl3 := HS3.out.l9 (by rw [List.length_append]; simp; omega)
        obtain ⟨el3, hL3, hc3, hm3, _⟩ := hl3
        have hCK := refCheck9_any (pre ++ [⟨ox10 o, a1, c1, a2, c2⟩]) va3 vc3 w3 hL3 hc3
        rw [← el3] at hCK
        obtain ⟨P, hPP⟩ : ∃ P, pre ++ [(⟨ox10 o, a1, c1, a2, c2⟩ : Ent9)] = P := ⟨_, rfl⟩
        have hPl : P.length = pre.length + 1 := by rw [← hPP]; simp
        rw [hPP] at hCK HFR HS3
        obtain ⟨⟨p1, q1⟩, hck⟩ : ∃ r, check9 (P.map Ent9.o) = r := ⟨_, rfl⟩
        rw [hck] at hCK
        unfold ckV at hCK
        have HCK := hid hCK
        have HPL := hid hPl
        have HCQ := hid (show (check9 (P.map Ent9.o)).2 = q1 by rw [hck])
        clear x0 x1 x2 x3 x4 x5 hCK hck hL3 hc3 hm3 el3 hPP hPl HSN HFB HONE
        go_wp2_with fail
        refine HCK.out.mono ?_
        rintro e w5 ⟨rfl, hb5⟩
        have HL5 := hid (HS3.out.below hb5)
        clear hb5 HCK
        by_cases hq1 : q1 = 0
        · subst hq1
          have hsum : (A : Int) + (nn : Int) ≤ 65528 := by have := hA.out; omega
          go_wp2_with fail
          go_roundg (n - (A + nn))
          case rel => exact ⟨A + nn, k + nn, va3, vc3, P, by rw [HPL.out], by go_num, (show _ = _ by have := hA.out; omega), by have := hA.out; omega, by omega, HFR.out, HCQ.out, by have := HL5.out; rw [← HPL.out] at this; exact this⟩
          case measure => omega
        · have hE := valE_chk HFR.out (by rw [HCQ.out]; exact hq1)
          rw [HCQ.out] at hE
          have hmk := HMB.out
          rw [hE, if_pos hq1] at hmk
          have HMK := hid hmk
          have HQ0 := hid hq1
          have gq : (q1 != 0) = true := by simpa using hq1
          clear hE hmk hq1
          go_wp2_with fail
          refine bodyPost_ret (v := .tuple #[.slice none 0 0, .int .i64 0, .int .i64 q1]) ?_ rfl (.inr ⟨q1, HMK.out, HQ0.out, rfl, HL5.out.fr.bel⟩)
          simp [results, Try.results19, go_sem]
    · have hge : ¬ (A : Int) < (n : Int) := by omega
      have hAe : n ≤ A := by omega
      have hE := valE_ok hP.out (by rw [HBL.out]; have := hA.out; omega) hC.out
      have hpd := hP.out.done (by rw [HBL.out]; have := hA.out; omega)
      have hmk := HMB.out
      rw [hE, if_neg (by simp), hpd] at hmk
      have HMK := hid hmk
      have hcn := HCNT.out
      rw [hpd, HBL.out] at hcn
      simp only [List.length_map] at hcn
      obtain ⟨_, hL9, hlc9, hcm9, hnew9⟩ := hLA.out.l9 (by omega)
      have HL9 := hid hL9
      have HNEW := hid hnew9
      have HBW := hid hLA.out.fr.bel
      have HIW := hid (HI.out.below hLA.out.fr.bel)
      have hRl : (b.drop n).length = b.length - n := List.length_drop
      have HRL := hid hRl
      have HA2 := hid hAe
      clear hE hmk hcn hL9 hnew9 hLA hpd hRl hP hC hA hAe hlt hkx
      go_upto_region 20 with fail
      go_loopg [13] (n + z) (fun kx s13 w2 => ∃ (i : Nat), s13 = .int .i64 i ∧ n ≤ i ∧ i ≤ n + z ∧ n + z - i ≤ kx ∧ Hid (zeros ((b.drop n).take (i - n)) = true) ∧ w2 = wr)
      case atStart => exact ⟨n, rfl, Nat.le_refl _, by omega, by omega, (by show zeros _ = true; rw [Nat.sub_self, List.take_zero]; rfl), rfl⟩
      case round =>
        obtain ⟨i, rfl, hi1, hi2, hkx2, hzr, rfl⟩ := hrel
        by_cases hlt2 : i < n + z
        · have hli := HLL.out
          obtain ⟨b1, o1, x, hae, hc1, hx⟩ := HIW.out.at (show i < b.length by omega)
          simp only [Option.some.injEq, Addr.mk.injEq] at hae
          obtain ⟨rfl, rfl, _⟩ := hae
          have hdx : (b.drop n)[i - n]? = some x := by rw [List.getElem?_drop]; have e : n + (i - n) = i := by omega
                                                       rw [e]; exact hx.out
          have i1 : (i : Int) < (n : Int) + (z : Int) := by omega
          have i2 : (i : Int) < (b.length : Int) := by omega
          have i3 : (0 : Int) ≤ (i : Int) := by omega
          cases hx0 : (x != 0)
          · have hxz : x = 0 := by simpa using hx0
            have hz1 := zeros_succ hdx hzr.out hxz
            have hz2 : zeros ((b.drop n).take (i + 1 - n)) = true := by rw [show i + 1 - n = i - n + 1 by omega]; exact hz1
            have HZ2 := hid hz2
            clear hz1 hz2 hxz hdx hx hzr hli
            go_wp2_with fail
            refine (HZ.out _).mono ?_
            rintro e w9 ⟨rfl, rfl⟩
            go_wp2_with fail
            go_roundg (n + z - (i + 1))
            case rel => exact ⟨i + 1, by go_num, by omega, by omega, by omega, HZ2.out, rfl⟩
            case measure => omega
          · have hbad : zeros ((b.drop n).take z) = false := by
              refine zeros_front10 (i := i - n + 1) ?_ (by omega)
              unfold zeros
              rw [List.all_eq_false]
              refine ⟨x, ?_, by simpa using hx0⟩
              rw [List.take_add_one, hdx]
              simp
            have hmk := HMK.out
            rw [if_pos (zeros_any10.2 hbad)] at hmk
            have HMK2 := hid hmk
            clear hbad hmk hdx hx hzr hli
            go_wp2_with fail
            refine (HZ.out _).mono ?_
            rintro e w9 ⟨rfl, rfl⟩
            go_wp2_with fail
            refine bodyPost_ret (v := .tuple #[.slice none 0 0, .int .i64 0, .int .i64 1026]) ?_ rfl (.inr ⟨1026, HMK2.out, by decide, rfl, HBW.out⟩)
            simp [results, Try.results19, go_sem]
        · have hz3 : zeros ((b.drop n).take z) = true := by have h := hzr.out; rw [show i - n = z by omega] at h; exact h
          have hmk := HMK.out
          rw [if_neg (by rw [zeros_any10, hz3]; simp)] at hmk
          have HMK2 := hid hmk
          have i1 : ¬ (i : Int) < (n : Int) + (z : Int) := by omega
          clear hz3 hmk hzr
          go_wp2_with fail
          refine (HZ.out _).mono ?_
          rintro e w9 ⟨rfl, rfl⟩
          go_wp2_with fail
          refine (HZ.out _).mono ?_
          rintro e w9 ⟨rfl, rfl⟩
          go_wp2_with fail
          have hnz : ((n : Int) + (z : Int)) = ((n + z : Nat) : Int) := by omega
          refine bodyPost_ret (v := .tuple #[.slice va pre.length vc, .int .i64 ((n + z : Nat) : Int), .int .i64 0]) ?_ rfl (.inl ⟨_, _, va, vc, pre, HMK2.out, rfl, rfl, HL9.out, hlc9, hcm9, HNEW.out, HBW.out⟩)
          simp [results, Try.results19, go_sem, ← hnz]
theorem refDecode10_any (b : List Int) (a : Option Addr) (c : Nat) (hbc : b.length ≤ c) (hcm : c ≤ 9223372036854775807) (hb6 : b.length ≤ 2000) (ho : Octets b) (w : World) (hI : Ints .u8 w a b) :
    Calls Try.prog 19 #[.slice a b.length c] w (DecPost10 b w) := by
  by_cases h4 : b.length < 4
  · exact refDecode10_few b a c w h4
  · obtain ⟨M, off, rfl, _⟩ := hI 0 (by omega)
    by_cases hv : numL (b.take 2) = 1
    · by_cases hok : ∃ n, HeadOk b n
      · obtain ⟨n, hn⟩ := hok
        exact refDecode10_good b M off c hbc hcm hb6 ho w hI hn
      · exact refDecode10_long b M off c hbc (by omega) ho w hI h4 hv (fun n hn => hok ⟨n, hn⟩)
    · exact refDecode10_type b M off c hbc ho w hI h4 hv
end Go.Proofs.Yteaimnlfbbkccaa
