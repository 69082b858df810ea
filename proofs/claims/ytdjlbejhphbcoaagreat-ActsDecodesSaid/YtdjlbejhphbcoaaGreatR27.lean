/- Put together out of several texts. -/
import Derived.Test.YtdjlbejhphbcoaaGreatR24
import Derived.Test.YtdjlbejhphbcoaaGreatR26
namespace Go.Proofs.YtdjlbejhphbcoaaGreat
open Go.RowKit
set_option linter.unusedVariables false
set_option maxRecDepth 100000

/-- what the document's action is held to: bytes as an action -/
def RefDec12 : Prop := ∀ (b : List Int) (a : Option Addr) (c : Nat), b.length ≤ 2000 → ∀ (w : World), Holds w a c b → Calls Tryz.prog 17 #[.slice a b.length c] w (DecPost12 b w)
theorem holds_drop13 {w : World} {M off c : Nat} {b : List Int} (h : Holds w (some ⟨M, off, none⟩) c b) {n : Nat} (hn : n ≤ b.length) : Holds w (if c = n then some ⟨M, off, none⟩ else some ⟨M, off + n, none⟩) (c - n) (b.drop n) := by
  refine ⟨by rw [List.length_drop]; have := h.cap; omega, by have := h.max; omega, h.ints.drop h.cap, h.oct.drop n, fun h0 => ?_⟩
  rw [if_neg (by omega)]
  exact ⟨M, off + n, rfl⟩
/-- append(s, x), one action -/
theorem wp_app_act13 {w : World} {ops : Array Oper} {rest : List Oper} {o : Oper} {a : Act} {Q : Exit → Act → World → Prop} (hgd : o.guard = none) (s x : Operand)
    (ho : o.op = .call { callee := .builtin .append, args := #[s, x], argTypes := #[43, 43] }) {v : Value} {n : Nat} {D : List Ent12} (hs : a.eval s = v) (hown : w.ownsRow 0 27 10 v n (actCells D))
    {ad : Addr} {c : Nat} {h : Ent12} (hx : a.eval x = .slice (some ad) 1 c) (hO : Acts w (some ad) [h]) (hb : n ≤ 1000) {N : Nat} (hN : n + 1 = N)
    (hh : ∀ va' vc' w', GrewN 27 10 w w' v (.slice va' N vc') N (actCells (D ++ [h])) → wpList Tryz.prog ops Q rest (a.put o.dst (.slice va' N vc')) w') : wpList Tryz.prog ops Q (o :: rest) a w := by
  subst hN
  refine wp_app_many hgd s x ho elemAct hs hown hx (actCells [h]) (actCells_length [h]) (acts_cells hO) (act_flat [h]) (by omega) (by omega) ?_
  intro v' w' hg
  obtain ⟨va', vc', rfl⟩ := own_shape12 hg.own
  rw [← actCells_append] at hg
  exact hh va' vc' w' hg
/-- a list that is made, in a slot -/
structure SlotA (w0 : World) (va : Option Addr) (vc : Nat) (pre : List Ent12) (W : World) : Prop where
  own : W.ownsRow 0 27 10 (.slice va pre.length vc) pre.length (actCells pre)
  new : ∀ g, (Value.slice va pre.length vc).ownBlock = some g → w0.heap.size ≤ g
  all : ∀ x ∈ pre, ActIn W x ∧ FarA (fun k => (Value.slice va pre.length vc).ownBlock = some k) x
  bel : Below w0.heap.size w0 W
theorem SlotA.nil (w : World) : SlotA w none 0 [] w := ⟨World.ownsRow_nil w 0 _ 10, (fun g e => by cases e), (by simp), Below.refl _ _⟩
theorem SlotA.list {w0 W : World} {va : Option Addr} {vc : Nat} {pre : List Ent12} (h : SlotA w0 va vc pre W) : ListA W va pre := by
  obtain ⟨a, c, e, _, _, hA, _⟩ := own_acts h.own
  cases e
  exact ⟨hA, fun x hx => (h.all x hx).1⟩
theorem SlotA.step {w0 W W1 w2 w3 : World} {va va' : Option Addr} {vc vc' : Nat} {pre : List Ent12} (h : SlotA w0 va vc pre W) (hW1 : Below W.heap.size W W1) {x : Ent12} (hx : ActIn W1 x)
    (hn : (∀ q : Addr, x.va = some q → W.heap.size ≤ q.block) ∧ (∀ q : Addr, x.ma = some q → W.heap.size ≤ q.block) ∧ (∀ q : Addr, x.da = some q → W.heap.size ≤ q.block)) (hw2 : Below W1.heap.size W1 w2)
    (hg : GrewN 27 10 w2 w3 (.slice va pre.length vc) (.slice va' (pre.length + 1) vc') (pre.length + 1) (actCells (pre ++ [x]))) : SlotA w0 va' vc' (pre ++ [x]) w3 := by
  have hl : (pre ++ [x]).length = pre.length + 1 := by simp
  have hb2 : Below W.heap.size W w2 := below_on hW1 hw2
  have hs2 : w0.heap.size ≤ w2.heap.size := Nat.le_trans h.bel.size hb2.size
  have hlt : ∀ k, (Value.slice va pre.length vc).ownBlock = some k → k < W.heap.size := fun k e => own_lt13 h.own e
  have hxf : FarA (fun k => (Value.slice va pre.length vc).ownBlock = some k) x := ⟨fun _ q e s => by have := hn.1 q e; have := hlt _ s; omega, fun _ q e s => by have := hn.2.1 q e; have := hlt _ s; omega, fun _ q e s => by have := hn.2.2 q e; have := hlt _ s; omega⟩
  have heA : ∀ y ∈ pre ++ [x], ActIn w2 y ∧ FarA (fun k => (Value.slice va pre.length vc).ownBlock = some k) y := by
    intro y hy
    rcases List.mem_append.1 hy with hy | hy
    · exact ⟨(h.all y hy).1.below hb2, (h.all y hy).2⟩
    · simp at hy; subst hy; exact ⟨hx.below hw2, hxf⟩
  refine ⟨by rw [hl]; exact hg.own, by rw [hl]; exact hg.base hs2 h.new, fun y hy => ?_, (below_on h.bel hb2).grown hg.by_ (below_on h.bel hb2).size h.new⟩
  obtain ⟨y1, y3⟩ := heA y hy
  have z2 := y1.far hg.by_ (y3.mono fun k e => e)
  refine ⟨z2, ?_⟩
  rw [hl]
  rcases hg.moved with e | ⟨g, e, hgs⟩
  · rw [e]; exact y3
  · have hoff := y1.off (S := fun k => k = g) (fun k e => by subst e; exact hgs)
    exact ⟨fun a q b s => by rw [e] at s; exact hoff.v a q b (by simpa using s.symm), fun a q b s => by rw [e] at s; exact hoff.m a q b (by simpa using s.symm), fun a q b s => by rw [e] at s; exact hoff.d a q b (by simpa using s.symm)⟩
set_option maxHeartbeats 4000000 in
theorem refDecode13_any (HR : RefDec12) (w : World) (a : Option Addr) (c : Nat) (b : List Int) (hH : Holds w a c b) (hb : b.length ≤ 2000) :
    Calls Tryz.prog 33 #[.slice a b.length c] w (DecUni13 b w) := by
  have HD := hid (fun b a c h w => HR b a c h w)
  have HO := hid hH.oct
  have HH := hid hH
  have HBL := hid hb
  obtain ⟨N, hN⟩ : ∃ n, n = b.length := ⟨_, rfl⟩
  have HN := hid hN
  rw [← hN] at hb ⊢
  clear hH HR hN
  go_enter Tryz.func33, Tryz.ntmps33
  go_wp2_with fail
  go_loopg [0, 5] N (fun kx s0 s5 wr => ∃ (at_ k : Nat) (a1 : Option Addr) (c1 : Nat) (va : Option Addr) (vc : Nat) (pre : List Ent12), s0 = .slice a1 k c1 ∧ s5 = .slice va pre.length vc ∧ k ≤ kx ∧ pre.length ≤ 64 ∧ Hid (k = b.length - at_) ∧ Hid (Holds w a1 c1 (b.drop at_)) ∧ Hid (PreA b at_ pre) ∧ Hid (SlotA w va vc pre wr))
  case atStart => exact ⟨0, N, a, c, none, 0, [], rfl, rfl, Nat.le_refl _, by simp, HN.out, HH.out, preA_nil _, SlotA.nil _⟩
  case round =>
    obtain ⟨at_, k, a1, c1, va, vc, pre, rfl, rfl, hkx, h64, hk, hH1, hP, hF⟩ := hrel
    by_cases h0 : 0 < k
    · have h0i : (0 : Int) < (k : Int) := by omega
      have hlt : at_ < b.length := by have := hk.out; omega
      by_cases hfull : pre.length = 64
      · have hfi : (pre.length : Int) = 64 := by omega
        have hcut := hP.out.many hlt hfull
        have HE := hid (dec13_err hcut)
        clear hcut
        go_wp2_with fail
        refine bodyPost_ret (v := .tuple #[.slice none 0 0, .int .i64 520]) (by simp [results, Tryz.results33, go_sem]) rfl ⟨[], none, 0, 520, rfl, hF.out.bel, ⟨Acts.nil _ _, AllIn.nil _⟩, by simp, .inr ⟨HE.out, by decide, rfl⟩⟩
      · have hfi : ¬ (pre.length : Int) = 64 := by omega
        have hdl : (b.drop at_).length = k := by rw [List.length_drop]; exact hk.out.symm
        have hDC := HD.out (b.drop at_) a1 c1 (by rw [hdl]; have := HBL.out; have := hk.out; omega) wr (hH1.out.below hF.out.bel)
        rw [hdl] at hDC
        have HDC := hid hDC
        have HDL := hid hdl
        clear hdl hDC
        go_wp2_with fail
        refine HDC.out.mono ?_
        rintro e w2 (⟨q, hq, hq0, rfl, hb2⟩ | ⟨g, n, hok, rfl, hb2, hin, hn1', hn2', hn3'⟩)
        · have HE := hid (dec13_err (hP.out.err hlt (by omega) hq))
          have HQ := hid hq0
          have HB2 := hid (below_on hF.out.bel hb2)
          have hqn : (q != 0) = true := by simpa using hq0
          obtain ⟨V, hV, hbV, hx⟩ := act_box w2 0 0 0 0 0 false 0 none 0 0 none 0 0 none 0 0
          have HV := hid hV
          have HBV := hid (below_on HB2.out hbV)
          unfold zero12
          clear hq hq0 hb2 hV hbV hx
          go_upto_region 7 with fail
          rw [HV.out]
          go_wp2_with fail
          refine bodyPost_ret (v := .tuple #[.slice none 0 0, .int .i64 q]) (by simp [results, Tryz.results33, go_sem]) rfl ⟨[], none, 0, q, rfl, HBV.out, ⟨Acts.nil _ _, AllIn.nil _⟩, by simp, .inr ⟨HE.out, HQ.out, rfl⟩⟩
        · obtain ⟨_, hn1, hn8, _⟩ := dec_act hok (HO.out.drop _)
          have HP2 := hid (hP.out.ok hlt (by omega) hok hn1 hn8)
          have hin0 := hin
          obtain ⟨T, A, B, ⟨C, F, H, X, v, m⟩, xva, xvc, xma, xmc, d, xda, xdc⟩ := g
          unfold Ent12.val
          dsimp only
          obtain ⟨V, hV, hbV, hx⟩ := act_box w2 T A B C F H X xva v.length xvc xma m.length xmc xda d.length xdc
          have HV := hid hV
          have hbb := below_on hb2 hbV
          have HBB := hid hbb
          have HIN := hid (hin.below hbV)
          have HX := hid hx
          have hkn : n ≤ k := by have := HDL.out; omega
          have hH2 := hH1.out
          obtain ⟨M, off, rfl⟩ := hH1.out.shape (by have := hH1.out.cap; omega)
          have hHd := holds_drop13 hH2 (by have := HDL.out; omega) (n := n)
          have hkc : k ≤ c1 := by have := hH1.out.cap; have := HDL.out; omega
          have hc1 : c1 ≤ 9223372036854775807 := hH1.out.max
          rw [List.drop_drop] at hHd
          have HHd := hid hHd
          have hs1 : ((k : Int) - (n : Int)).toNat = k - n := by omega
          have hs2 : ((c1 : Int) - (n : Int)).toNat = c1 - n := by omega
          have hni : (n : Int) ≤ (k : Int) := by omega
          have hnc : (k : Int) ≤ (c1 : Int) := by omega
          have HOWN := hid ((hF.out.own.kept (below_by_none hbb) (by cases (Value.slice va pre.length vc).ownBlock <;> simp)).kept (by_none_alloc V (.cells #[.int .i64 T, .int .u64 A, .int .u64 B, .int .i64 C, .int .i64 F, .bool H, .int .u64 X, .slice xva v.length xvc, .slice xma m.length xmc, .slice xda d.length xdc] 27)) (by cases (Value.slice va pre.length vc).ownBlock <;> simp))
          have HONE := hid (acts_one V ⟨T, A, B, ⟨C, F, H, X, v, m⟩, xva, xvc, xma, xmc, d, xda, xdc⟩ 27)
          have HNEW := hid (And.intro hn1' (And.intro hn2' hn3'))
          clear hok hin hin0 hb2 hV hbV hx hbb hH2 hHd hn1' hn2' hn3'
          go_upto_region 7 with fail
          rw [HV.out]
          obtain ⟨d0, d1, d2, d3, d4, d5, d6, d7, d8, d9⟩ := HX.out.ten
          go_wp2_with (at_builtin; refine wp_app_act13 rfl (.tmp 26) (.tmp 28) rfl rfl HOWN.out rfl HONE.out (by omega) rfl ?_; intro va' vc' w5 hg5; have HG5 := hid hg5; clear hg5)
          all_goals
            have hS5 := hF.out.step HBB.out HIN.out HNEW.out (below_alloc V _) HG5.out
            have hh := HHd.out
            split at hh
            all_goals first
              | contradiction
              | (have HS := hid (And.intro hS5 hh)
                 clear hS5 hh
                 go_roundg (k - n)
                 case rel => exact ⟨at_ + n, k - n, _, _, va', vc', pre ++ [_], rfl, by simp, Nat.le_refl _, by rw [List.length_append]; simp; omega, (show _ = _ by have := hk.out; omega), (by first | exact HS.out.2 | (have h := HS.out.2; rw [show c1 - n = 0 by omega] at h; exact h)), HP2.out, HS.out.1⟩
                 case measure => omega)
    · have h0i : ¬ (0 : Int) < (k : Int) := by omega
      have hge : b.length ≤ at_ := by have := hk.out; omega
      have hok := hP.out.done hge
      have HOK := hid (dec13_ok hok (by have := HBL.out; omega))
      have hNi : ¬ (65528 : Int) < (N : Int) := by omega
      clear hok
      go_wp2_with fail
      refine bodyPost_ret (v := .tuple #[.slice va pre.length vc, .int .i64 0]) (by simp [results, Tryz.results33, go_sem]) rfl ⟨pre, va, vc, 0, rfl, hF.out.bel, hF.out.list, h64, .inl ⟨HOK.out, rfl⟩⟩
end Go.Proofs.YtdjlbejhphbcoaaGreat
namespace Go.Proofs.YtdjlbejhphbcoaaGreat
open Go.RowKit
set_option linter.unusedVariables false
set_option maxRecDepth 100000

theorem dec_same13 {b : List Int} {D E : List Ent12} {q r : Int} (h : (dec13 b = .ok (D.map Ent12.act) ∧ q = 0) ∨ (dec13 b = .error q ∧ q ≠ 0 ∧ D = [])) (k : (dec13 b = .ok (E.map Ent12.act) ∧ r = 0) ∨ (dec13 b = .error r ∧ r ≠ 0 ∧ E = [])) : D.map Ent12.act = E.map Ent12.act ∧ q = r := by
  rcases h with ⟨h1, rfl⟩ | ⟨h1, _, rfl⟩
  · rcases k with ⟨k1, rfl⟩ | ⟨k1, _, rfl⟩
    · rw [h1] at k1; injection k1 with e; exact ⟨e, rfl⟩
    · rw [h1] at k1; cases k1
  · rcases k with ⟨k1, rfl⟩ | ⟨k1, _, rfl⟩
    · rw [h1] at k1; cases k1
    · rw [h1] at k1; injection k1 with e; exact ⟨rfl, e⟩
/-- what reading comes to, error and answer in one -/
theorem take_uni13 {l : List Int} {n : Nat} {w0 : World} {g M : Nat} {r s o : Int} {e : Ending} {w' : World} (h : TakePost13 l n w0 g M r s o e w') :
    ∃ (D : List Ent12) (va : Option Addr) (vc : Nat) (q : Int), e = .returned (.slice va D.length vc) ∧ ListA w' va D ∧ D.length ≤ 64 ∧ ((dec13 (l.take n) = .ok (D.map Ent12.act) ∧ q = 0) ∨ (dec13 (l.take n) = .error q ∧ q ≠ 0 ∧ D = [])) ∧ ∃ (k : List Int) (p : Int), CurOn w0 w' g M k p s o q ∧ (q = 0 → p = r + n) := by
  rcases h with ⟨q, h1, h2, h3, h4⟩ | ⟨D, va, vc, h1, h2, h3, _, _, h6, h7⟩
  · exact ⟨[], none, 0, q, h3, ⟨Acts.nil _ _, AllIn.nil _⟩, by simp, .inr ⟨h1, h2, rfl⟩, _, _, h4, fun e => absurd e h2⟩
  · exact ⟨D, va, vc, 0, h2, h6, h3, .inl ⟨h1, rfl⟩, _, _, h7, fun _ => rfl⟩
set_option maxHeartbeats 8000000 in
theorem ActsDecodes_main (HR : RefDec12) (b : List Int) (ba : Option Addr) (bc : Nat) (more : List Int) (ma : Option Addr) (mc : Nat) (n : Int) (hn : -9223372036854775808 ≤ n ∧ n ≤ 9223372036854775807) (w : World) (hH : Holds w ba bc b) (hM : Ints .u8 w ma more) (hmo : Octets more) (hbl : b.length ≤ 1500) (hml : more.length ≤ 100) :
    Calls Tryz.prog 6 #[.slice ba b.length bc, .slice ma more.length mc, .int .i64 n] w fun e w' => e = .returned (.bool true) ∧ Below w.heap.size w w' := by
  have D1 := decode13_any w ba bc b hH
  have D2 := fun V (hV : Below w.heap.size w V) => refDecode13_any HR V ba bc b (hH.below hV) (by omega)
  have HRR := hid HR
  have HH := hid hH
  have HMI := hid hM
  have HS := hid (fun V => sure13_any V)
  obtain ⟨Y, hY⟩ : ∃ Y, more ++ b = Y := ⟨_, rfl⟩
  have hYl : Y.length = more.length + b.length := by rw [← hY, List.length_append]
  have hYo : Octets Y := by rw [← hY]; exact Octets.append hmo hH.oct
  have hYd : Y.drop more.length = b := by rw [← hY, List.drop_left]
  obtain ⟨nb, hnb⟩ : ∃ k, k = b.length := ⟨_, rfl⟩
  obtain ⟨nm, hnm⟩ : ∃ k, k = more.length := ⟨_, rfl⟩
  have HN := hid (And.intro hnb hnm)
  have HYY := hid (And.intro hY (And.intro hYl (And.intro hYo hYd)))
  have HYL := hid (show Y.length ≤ 2000 by omega)
  rw [← hnb] at D1 D2 hbl ⊢
  rw [← hnm] at hml ⊢
  have D1 := hid D1
  have D2 := hid D2
  have hb1 : decide ((1500 : Int) < (nb : Int)) = false := decide_eq_false (by omega)
  have hb2 : decide ((100 : Int) < (nm : Int)) = false := decide_eq_false (by omega)
  clear HR hH hM hmo hY hYl hYo hYd hnb hnm
  go_enter Tryz.func6, Tryz.ntmps6
  go_wp2_with fail
  refine D1.out.mono ?_
  intro e w1 h1
  obtain ⟨E1, va, vc, q, rfl, hb3, hL1, h641, hq1⟩ := dec_uni13 h1
  have HB1 := hid hb3
  have HL1 := hid hL1
  clear h1 hb3 hL1
  go_wp2_with fail
  refine (D2.out _ HB1.out).mono ?_
  rintro e w2 ⟨E2, vb, vd, q2, rfl, hb4, hL2, h642, hq2⟩
  obtain ⟨hee, rfl⟩ := dec_same13 hq1 hq2
  have HB2 := hid (below_on HB1.out hb4)
  have SA := refSame13_any E1 E2 va vb vc vd w2 (HL1.out.acts.below hb4) hL2.acts (HL1.out.all.below hb4) hL2.all (by omega) (by omega)
  rw [decide_eq_true hee] at SA
  have SA := hid SA
  clear hb4 hL2 hee hq1 hq2 D1 D2 HL1
  have hqq : (q != q) = false := by simp
  go_wp2_with fail
  refine SA.out.mono ?_
  rintro e w3 ⟨rfl, hb5⟩
  have HB3 := hid (below_on HB2.out hb5)
  clear hb5 SA
  have HF0 := hid (own_emptyI w3 5 .u8)
  have hIm := (HMI.out.below HB3.out).below (below_alloc w3 (.cells #[] 5))
  have HIB := hid (HH.out.ints.below HB3.out)
  go_wp2_with (first
    | (at_builtin; refine wp_app_ints rfl (.tmp 43) (.tmp 44) rfl elemU8 rfl HF0.out rfl HN.out.2 hIm (List.nil_append more) ?_ ?_ ?_; (have := HN.out.2; omega); (have := HN.out.2; omega); rw [← HN.out.2]; intro a5 c5 w4 hl5 hc5 hI5 hg5; have HF5 := hid (show Fresh 5 w3 w4 (.slice a5 nm c5) (more.map (Value.int .u8)) from hg5.first); have HIB4 := hid (HIB.out.below HF5.out.bel); clear hI5 hg5)
    | (at_builtin; refine wp_app_ints rfl (.tmp 45) (.tmp 46) rfl elemU8 rfl HF5.out.own rfl HN.out.1 HIB4.out HYY.out.1 ?_ ?_ ?_; (have := HYL.out; omega); (have := HYL.out; omega); intro a6 c6 w5 hl6 hc6 hI6 hg6; have HF6 := hid (HF5.out.step hg6); have HI6 := hid hI6; clear hI6 hg6)
    | fail)
  refine (new_any Y a6 c6 263 269 w5 (by have := HYL.out; omega) HYY.out.2.2.1 HI6.out).mono ?_
  rintro e w6 ⟨g, rfl, hc6', hb6, hg1, hg2⟩
  have hs35 := HF6.out.bel.size
  have O6 : Hid (CurOn w3 w6 g w5.heap.size Y 0 263 269 0) := ⟨hc6', below_on HF6.out.bel hb6, by omega, hs35⟩
  clear hc6' hb6 hIm
  go_wp2_with fail
  refine (O6.out.cur.bytes_ok (n := nm) (by have := HYY.out.2.1; have := HN.out; omega)).mono ?_
  rintro e w7 ⟨k, rfl, hG, hc7⟩
  rw [show List.drop nm Y = b by rw [HN.out.2]; exact HYY.out.2.2.2] at hc7
  have O7 := hid (O6.out.by hG.by_ hc7)
  clear hG hc7
  go_wp2_with fail
  rcases (show n < 0 ∨ (nb : Int) < n ∨ (0 ≤ n ∧ n ≤ (nb : Int)) by omega) with hneg | hlong | ⟨hn0, hnl⟩
  · have hd1 : decide (n < 0) = true := decide_eq_true hneg
    refine (take13_neg b w3 w7 g w5.heap.size _ _ _ n O7.out (by have := HN.out; omega) hneg).mono ?_
    rintro e w8 ⟨rfl, hO8⟩
    have O8 := hid hO8
    clear hO8
    go_wp2_with fail
    refine O8.out.cur.err.mono ?_
    rintro e w9 ⟨rfl, rfl⟩
    go_wp2_with fail
    refine (HS.out _).mono ?_
    rintro e w9 ⟨rfl, hb9⟩
    have HB9 := hid (below_on (below_on HB3.out O8.out.bel) hb9)
    clear hb9
    go_wp2_with fail
    go_ret
    exact ⟨rfl, HB9.out⟩
  · have hd1 : decide (n < 0) = false := decide_eq_false (by omega)
    have hd2 : decide ((nb : Int) < n) = true := decide_eq_true hlong
    refine (take13_short b w3 w7 g w5.heap.size _ _ _ n O7.out (by have := HN.out; omega) (by rw [← HN.out.1]; exact hlong)).mono ?_
    rintro e w8 ⟨rfl, hO8⟩
    have O8 := hid hO8
    clear hO8
    go_wp2_with fail
    refine O8.out.cur.err.mono ?_
    rintro e w9 ⟨rfl, rfl⟩
    go_wp2_with fail
    refine O8.out.cur.err.mono ?_
    rintro e w9 ⟨rfl, rfl⟩
    go_wp2_with fail
    refine (HS.out _).mono ?_
    rintro e w9 ⟨rfl, hb9⟩
    have HB9 := hid (below_on (below_on HB3.out O8.out.bel) hb9)
    clear hb9
    go_wp2_with fail
    go_ret
    exact ⟨rfl, HB9.out⟩
  · obtain ⟨m, rfl⟩ := Int.eq_ofNat_of_zero_le hn0
    have hmb : m ≤ nb := by omega
    have hd1 : decide ((m : Int) < 0) = false := decide_eq_false (by omega)
    have hd2 : decide ((nb : Int) < (m : Int)) = false := decide_eq_false (by omega)
    obtain ⟨z, hz⟩ : ∃ z, b.take m = z := ⟨_, rfl⟩
    have hzl : z.length = m := by rw [← hz, List.length_take, ← HN.out.1]; omega
    have HZ := hid (And.intro hz hzl)
    have hHz := hid (fun V (hV : Below w.heap.size w V) => refDecode13_any HRR.out V ba bc z ⟨by have := HH.out.cap; have := HN.out; omega, HH.out.max, by rw [← hz]; exact (HH.out.ints.below hV).take m, by rw [← hz]; exact HH.out.oct.take m, HH.out.shape⟩ (by omega))
    rw [hzl] at hHz
    have hmc : m ≤ bc := by have := HH.out.cap; have := HN.out.1; omega
    have hmci : (m : Int) ≤ (bc : Int) := by omega
    clear hz hzl
    refine (take13_ok b w3 w7 g w5.heap.size _ _ _ m O7.out (by have := HN.out; omega) (by have := HN.out; omega)).mono ?_
    intro e w8 h8
    obtain ⟨T, ta, tc, qt, rfl, hLT, h64t, hqt, kk, p, hO8, hp⟩ := take_uni13 h8
    rw [HZ.out.1] at hqt
    have O8 := hid hO8
    have HLT := hid hLT
    have HB8 := hid (below_on HB3.out hO8.bel)
    clear h8 hLT hO8
    go_wp2_with fail
    refine (hHz.out _ HB8.out).mono ?_
    rintro e w9 ⟨E, ea, ec, qe, rfl, hb9, hLE, h64e, hqe⟩
    obtain ⟨hee, rfl⟩ := dec_same13 hqt hqe
    have SB := refSame13_any T E ta ea tc ec w9 (HLT.out.acts.below hb9) hLE.acts (HLT.out.all.below hb9) hLE.all (by omega) (by omega)
    rw [decide_eq_true hee] at SB
    have SB := hid SB
    have O9 := hid (O8.out.below hb9)
    have HP := hid hp
    clear hb9 hLE hee hqt hqe HLT hp
    go_wp2_with fail
    refine SB.out.mono ?_
    rintro e w10 ⟨rfl, hb10⟩
    have O10 := hid (O9.out.below hb10)
    clear hb10 SB
    go_wp2_with fail
    refine O10.out.cur.err.mono ?_
    rintro e w11 ⟨rfl, rfl⟩
    have hqe : (qt == qt) = true := by simp
    by_cases hq0 : qt = 0
    · subst hq0
      have hpv := HP.out rfl
      subst hpv
      have hsum : (nm : Int) + (m : Int) ≤ 10000 := by omega
      have hpe : ((0 : Int) + (nm : Int) + (m : Int) == (nm : Int) + (m : Int)) = true := by simp
      go_wp2_with fail
      refine O10.out.cur.pos.mono ?_
      rintro e w11 ⟨rfl, rfl⟩
      go_wp2_with fail
      refine (HS.out _).mono ?_
      rintro e w12 ⟨rfl, hb12⟩
      have HB12 := hid (below_on (below_on HB3.out O10.out.bel) hb12)
      clear hb12
      go_wp2_with fail
      go_ret
      exact ⟨rfl, HB12.out⟩
    · have hqn : (qt != 0) = true := by simpa using hq0
      go_wp2_with fail
      refine (HS.out _).mono ?_
      rintro e w12 ⟨rfl, hb12⟩
      have HB12 := hid (below_on (below_on HB3.out O10.out.bel) hb12)
      clear hb12
      go_wp2_with fail
      go_ret
      exact ⟨rfl, HB12.out⟩
theorem ActsDecodes_few (nb nm : Nat) (ba : Option Addr) (bc : Nat) (ma : Option Addr) (mc : Nat) (n : Int) (w : World) (hf : 1500 < nb ∨ 100 < nm) :
    Calls Tryz.prog 6 #[.slice ba nb bc, .slice ma nm mc, .int .i64 n] w fun e w' => e = .returned (.bool true) ∧ Below w.heap.size w w' := by
  have HS := hid (fun V => sure13_any V)
  have ways : decide ((1500 : Int) < (nb : Int)) = true ∨ (decide ((1500 : Int) < (nb : Int)) = false ∧ decide ((100 : Int) < (nm : Int)) = true) := by
    by_cases h : (1500 : Int) < (nb : Int)
    · exact .inl (decide_eq_true h)
    · exact .inr ⟨decide_eq_false h, decide_eq_true (by omega)⟩
  clear hf
  rcases ways with h1 | ⟨h1, h2⟩
  all_goals
    go_enter Tryz.func6, Tryz.ntmps6
    go_wp2_with fail
    refine (HS.out _).mono ?_
    rintro e w2 ⟨rfl, hb2⟩
    have HB2 := hid hb2
    clear hb2
    go_wp2_with fail
    go_ret
    exact ⟨rfl, HB2.out⟩
theorem ActsDecodes_walk (HR : RefDec12) (b : List Int) (ba : Option Addr) (bc : Nat) (more : List Int) (ma : Option Addr) (mc : Nat) (n : Int) (hn : -9223372036854775808 ≤ n ∧ n ≤ 9223372036854775807) (w : World) (hH : Holds w ba bc b) (hM : Ints .u8 w ma more) (hmo : Octets more) :
    Calls Tryz.prog 6 #[.slice ba b.length bc, .slice ma more.length mc, .int .i64 n] w fun e w' => e = .returned (.bool true) ∧ Below w.heap.size w w' := by
  by_cases h : b.length ≤ 1500 ∧ more.length ≤ 100
  · exact ActsDecodes_main HR b ba bc more ma mc n hn w hH hM hmo h.1 h.2
  · exact ActsDecodes_few b.length more.length ba bc ma mc n w (by omega)
end Go.Proofs.YtdjlbejhphbcoaaGreat
