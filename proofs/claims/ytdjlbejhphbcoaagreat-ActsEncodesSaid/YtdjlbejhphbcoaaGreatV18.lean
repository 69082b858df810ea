/- Put together out of several texts. -/
import Derived.Test.YtdjlbejhphbcoaaGreatV17
namespace Go.Proofs.YtdjlbejhphbcoaaGreat
open Go.RowKit
set_option linter.unusedVariables false

theorem own_behind12 {w w' : World} {e : TypeId} {v : Value} {n : Nat} {xs : List Value} (h : w.ownsRow 0 e 1 v n xs) (k : w.grownBy w' none) : w'.ownsRow 0 e 1 v n xs := h.kept k (by cases h' : v.ownBlock <;> simp)
theorem cell_set10 {w : World} {X b o : Nat} {x v0 v1 v2 v3 v4 v5 v6 v7 v8 v9 : Value} (h : w.cell? ⟨b, o, none⟩ = some x) (hb : ¬ b = X) : ((((((((((w.setCell ⟨X, 0, none⟩ v0).setCell ⟨X, 1, none⟩ v1).setCell ⟨X, 2, none⟩ v2).setCell ⟨X, 3, none⟩ v3).setCell ⟨X, 4, none⟩ v4).setCell ⟨X, 5, none⟩ v5).setCell ⟨X, 6, none⟩ v6).setCell ⟨X, 7, none⟩ v7).setCell ⟨X, 8, none⟩ v8).setCell ⟨X, 9, none⟩ v9).cell? ⟨b, o, none⟩ = some x := by
  have ne : ∀ i, (⟨X, i, none⟩ : Addr) ≠ ⟨b, o, none⟩ := fun i e => hb (congrArg Addr.block e).symm
  simp only [World.cell?_setCell_other _ _ _ _ (ne _), h]
/-- an action's box that has been told, and its data; the cursor stands beside -/
structure Told12 (w0 wx : World) (g M : Nat) (s o f : Int) (q k : Nat) (t A B : Int) (d : List Int) : Prop where
  box : BoxL wx q [.int .i64 t, .int .u64 A, .int .u64 B, .int .i64 0, .int .i64 0, .bool false, .int .u64 0, .slice none 0 0, .slice none 0 0, .slice (some ⟨k, 0, none⟩) d.length d.length]
  dat : Ints .u8 wx (some ⟨k, 0, none⟩) d
  cur : ∃ l r, CurOn w0 wx g M l r s o f
  hk : w0.heap.size ≤ k
  hq : w0.heap.size ≤ q
  qg : q ≠ g
theorem told12_late {w0 V w8 : World} {g M : Nat} {s o f r : Int} {k : Nat} {t A B : Int} {d l : List Int} (hV : CurOn w0 V g M l r s o f) {l' : List Int} {r' : Int} (hc : Cur w8 g M l' r' s o f) (hG : Gives 5 V w8 (some g) (.slice (some ⟨k, 0, none⟩) d.length d.length) (d.map (Value.int .u8))) :
    Told12 w0 (w8.alloc (.cells #[.int .i64 t, .int .u64 A, .int .u64 B, .int .i64 0, .int .i64 0, .bool false, .int .u64 0, .slice none 0 0, .slice none 0 0, .slice (some ⟨k, 0, none⟩) d.length d.length] 27)) g M s o f w8.heap.size k t A B d := by
  have hC := hV.by hG.by_ hc
  have hk := hG.new k rfl
  obtain ⟨a', c', he, _, _, hI⟩ := own_ints hG.own
  have he1 : a' = some ⟨k, 0, none⟩ := by simpa using (congrArg (fun x => match x with | Value.slice a _ _ => a | _ => none) he).symm
  rw [he1] at hI
  have s1 := hV.bel.size
  have s2 := hC.bel.size
  have hgl : g < w8.heap.size := by obtain ⟨off, c2, hc2, _⟩ := hC.cur.ex; exact (Array.getElem?_eq_some_iff.1 hc2.heap).1
  exact ⟨BoxL.new _ _ _, hI.below (below_alloc _ _), ⟨_, _, hC.below (below_alloc _ _)⟩, by omega, s2, by omega⟩
theorem told12_early {w0 V w8 : World} {g M X : Nat} {s o f r : Int} {k : Nat} {t A B : Int} {d l : List Int} (hV : CurOn w0 V g M l r s o f) {l' : List Int} {r' : Int} (hc : Cur w8 g M l' r' s o f) (hG : Gives 5 V w8 (some g) (.slice (some ⟨k, 0, none⟩) d.length d.length) (d.map (Value.int .u8)))
    (hX : w0.heap.size ≤ X) (hXV : X < V.heap.size) (hXg : X ≠ g) (hXM : X ≠ M) {u0 u1 u2 u3 u4 u5 u6 u7 u8 u9 : Value} (hB : BoxL V X [u0, u1, u2, u3, u4, u5, u6, u7, u8, u9]) :
    Told12 w0 ((((((((((w8.setCell ⟨X, 0, none⟩ (.int .i64 t)).setCell ⟨X, 1, none⟩ (.int .u64 A)).setCell ⟨X, 2, none⟩ (.int .u64 B)).setCell ⟨X, 3, none⟩ (.int .i64 0)).setCell ⟨X, 4, none⟩ (.int .i64 0)).setCell ⟨X, 5, none⟩ (.bool false)).setCell ⟨X, 6, none⟩ (.int .u64 0)).setCell ⟨X, 7, none⟩ (.slice none 0 0)).setCell ⟨X, 8, none⟩ (.slice none 0 0)).setCell ⟨X, 9, none⟩ (.slice (some ⟨k, 0, none⟩) d.length d.length)) g M s o f X k t A B d := by
  have hC := hV.by hG.by_ hc
  have hk := hG.new k rfl
  obtain ⟨a', c', he, _, _, hI⟩ := own_ints hG.own
  have he1 : a' = some ⟨k, 0, none⟩ := by simpa using (congrArg (fun x => match x with | Value.slice a _ _ => a | _ => none) he).symm
  rw [he1] at hI
  have s1 := hV.bel.size
  have hB8 := hB.by hG.by_ (by simpa using hXg)
  have hne : ∀ q : Addr, some (⟨k, 0, none⟩ : Addr) = some q → q.block ≠ X := by rintro q hq; cases hq; simp; omega
  have step : ∀ (w : World) (i : Nat) (v : Value), CurOn w0 w g M l' r' s o f → CurOn w0 (w.setCell ⟨X, i, none⟩ v) g M l' r' s o f := by
    intro w i v h
    exact ⟨h.cur.kept (by_setCell _ _ _ _) (by simpa using hXg) (by simpa using hXM), h.bel.setCell (by simpa using hX) _, h.bg, h.bM⟩
  refine ⟨hB8.set10 _ _ _ _ _ _ _ _ _ _, ?_, ⟨l', r', ?_⟩, by omega, hX, hXg⟩
  · repeat (refine Ints.apart ?_ _ hne)
    exact hI
  · exact step _ _ _ (step _ _ _ (step _ _ _ (step _ _ _ (step _ _ _ (step _ _ _ (step _ _ _ (step _ _ _ (step _ _ _ (step _ _ _ hC)))))))))
set_option maxRecDepth 100000 in
set_option maxHeartbeats 4000000 in
theorem read12_exp (t : Int) (x : List Int) (a : Option Addr) (c : Nat) (hbl : x.length ≤ 100000) (hbc : x.length ≤ c) (hc : c ≤ 9223372036854775807) (ho : Octets x) (h4 : 4 ≤ x.length) (hm : (4 + x.length) % 8 = 0) (w : World) (hI : Ints .u8 w a x) (ht : -9223372036854775808 ≤ t ∧ t ≤ 9223372036854775807) (l ns : List Int) (hr : row12 t = some l) (h25 : t ≠ 25) (hx1 : t = 65535) (hg : getL l x = .ok ns) :
    Calls Tryz.prog 56 #[.agg #[.int .i64 t, .slice a x.length c]] w (ReadPost12 (read12 t x) w) := by
  obtain ⟨W, hW, hbW, hx, hy⟩ := item_act w t a x.length c
  have HW := hid hW
  have HB := hid hbW
  have RO := hid (rowOf_any t W)
  obtain ⟨k1, k2, k3, k4, k5, k6⟩ := count_le12 t
  have e1 : rowP t = l := by simp [rowP, hr]
  have e2 : rowB t = true := by simp [rowB, hr]
  have e3 : (t == 25) = false := by simpa using h25
  rw [e1] at RO k1 k2 k3 k4 k5 k6
  rw [e2] at RO
  have hgw : getW l x = .ok ns := by rw [getW_yes12 (row_facts hr).ok]; exact hg
  have hlen := (getL_len12 hg).1
  have HU := (get_put hg (row_facts hr).all ho).2.2.2
  have HS : Hid (read12 t x = if asked12 t (ns.getD 0 0) ≠ 0 then .error (asked12 t (ns.getD 0 0)) else .ok ⟨t, ns.getD 0 0, ns.getD 1 0, noOx, x.drop (sizeL l)⟩) := by show _ = _; unfold read12; rw [if_neg h25, hr]; simp only; rw [if_neg (by simp [hx1]), hgw]
  have g1 : (t != 65535) = false := by simpa using hx1
  have HM8 : Hid ((4 + x.length) % 8 = 0 ∧ sizeL l = 4) := ⟨hm, by rw [show l = [4] by rw [hx1] at hr; exact (Option.some.inj hr).symm]; rfl⟩
  have IX := hid hI
  have OX := hid ho
  obtain ⟨sl, hsl⟩ : ∃ n, sizeL l = n := ⟨_, rfl⟩
  rw [hsl] at k3 k4 HS HM8
  have K3 := hid k3
  have HGW := hid hgw
  have HSL := hid hsl
  clear e1 e2 hI ho hgw hg hsl k1 k2 k3 k6 hW hbW g1
  subst hx1
  obtain ⟨d0, d1⟩ := hx.two
  go_enter Tryz.func56, Tryz.ntmps56
  go_wp2_with fail
  rw [HW.out]
  go_wp2_with fail
  refine RO.out.mono ?_
  rintro e w1 ⟨ra, rfl, hI1, hb1⟩
  have HB1 := hid (below_on HB.out hb1)
  have hx1 := hx.below hb1
  have hy1 := hy.below hb1
  obtain ⟨f0, f1⟩ := hx1.two
  have SZ := hid (fun (n : Wk w1) => size_any l ra l.length n.val (by omega) (hI1.below n.bel))
  rw [K3.out] at SZ
  have IR := hid hI1
  have c0 := Wk.cell f0
  have c1 := Wk.cell f1
  clear hb1 hI1 d0 d1 hx hy
  go_upto_region 6 with fail
  clear f0 f1
  refine wp_region_wk (by kernel_rfl) (by kernel_rfl) ?_
  repeat (go_big_quiet_step (first
    | (go_at_call 76; exact Wk.same (SZ.out _))))
  refine wpQuiet_nil ?_
  rintro w4 ⟨⟨_, hb4⟩, rfl⟩
  have hx4 := hx1.below hb4
  have hy4 := hy1.below hb4
  have HB4 := hid (below_on HB1.out hb4)
  have IR4 := hid (IR.out.below hb4)
  have IX4 := hid (IX.out.below HB4.out)
  obtain ⟨f0, f1⟩ := hx4.two
  clear hb4 hx1 hy1 c0 c1
  go_wp2_with fail
  refine (new_any x a c 514 518 w4 (by omega) OX.out IX4.out).mono ?_
  rintro e w5 ⟨g, rfl, hc5, hb5, hg1, hg2⟩
  have H5 : Hid (CurOn w4 w5 g w4.heap.size x 0 514 518 0) := ⟨hc5, hb5, by omega, Nat.le_refl _⟩
  have hM5 : w4.heap.size < w5.heap.size := by omega
  clear hc5 hb5 f0 f1
  go_wp2_with fail
  refine (H5.out.cur.row_ok l ns ra l.length (by omega) (IR4.out.below H5.out.bel) HGW.out).mono ?_
  rintro e w6 ⟨v6, rfl, hG6, hc6⟩
  have H6 := hid (H5.out.by hG6.by_ hc6)
  obtain ⟨ys, hys⟩ : ∃ ys, ns ++ [0, 0] = ys := ⟨_, rfl⟩
  have hyl : ys.length = ns.length + 2 := by rw [← hys]; simp
  have hyA : ys.getD 0 0 = ns.getD 0 0 := by rw [← hys]; cases ns <;> rfl
  have hyB : ys.getD 1 0 = ns.getD 1 0 := by rw [← hys]; match ns with | [] => rfl | [_] => rfl | _ :: _ :: _ => rfl
  have ho6 := hG6.own
  have hn6 := hG6.new
  have hs6 : w5.heap.size ≤ w6.heap.size := hG6.by_.size
  clear hc6 hG6
  have OW6 := hid (own_behind12 ho6 (by_none_alloc w6 (.cells #[.int .u64 0, .int .u64 0] 22)))
  have HN6 := hid hn6
  have HYS := hid hys
  have HYA := hid hyA
  have HYB := hid hyB
  have HSY := hid hyl
  clear ho6 hn6 hys hyA hyB hyl
  go_wp2_with (at_builtin; refine wp_app_ints rfl _ _ rfl elemFld rfl OW6.out rfl (l := [0, 0]) rfl (ints_lit .u64 _ [0, 0] 22) (ys := ys) HYS.out (by have := HSY.out; omega) (by have := HSY.out; omega) ?_; intro a7 c7 w7 hc7 hc72 hI7 hg7)
  have H7 : Hid (∃ l7 r7, CurOn w4 w7 g w4.heap.size l7 r7 514 518 0 ∧ l7 = x.drop (sizeL l)) := by
    have h6 := H6.out.below (below_alloc w6 (.cells #[.int .u64 0, .int .u64 0] 22))
    have hk : ∀ k, v6.ownBlock = some k → w5.heap.size ≤ k := HN6.out
    have hsa : w5.heap.size ≤ (w6.alloc (.cells #[.int .u64 0, .int .u64 0] 22)).heap.size := by simp; omega
    refine ⟨_, _, ⟨h6.cur.kept hg7.by_ (fun e => ?_) (fun e => ?_), h6.bel.trans (hg7.below (B := w4.heap.size) (by omega) (fun k hk2 => by have := hk k hk2; omega)), h6.bg, h6.bM⟩, rfl⟩
    · have := hk _ e; omega
    · have := hk _ e; omega
  have hyl := HSY.out
  obtain ⟨nb, noff, ea, cA⟩ := hI7 0 (by omega)
  obtain ⟨nb', noff', eb, cB⟩ := hI7 1 (by omega)
  subst ea
  cases eb
  rw [HYA.out, Nat.add_zero] at cA
  rw [HYB.out] at cB
  obtain ⟨l7, r7, H7, hl7⟩ := H7.out
  obtain ⟨yl, hyl2⟩ : ∃ n, ys.length = n := ⟨_, rfl⟩
  rw [hyl2] at hyl hc7 ⊢
  have y0 : (0 : Int) < yl := by omega
  have y00 : 0 < yl := by omega
  have y11 : 1 < yl := by omega
  have y1 : (1 : Int) < yl := by omega
  have hx7 := hx4.below H7.bel
  have hy7 := hy4.below H7.bel
  have H7 := hid H7
  have HL7 := hid hl7
  obtain ⟨f0, f1⟩ := hx7.two
  have hgn : nb ≠ g := by
    intro e
    obtain ⟨off, c2, hc2, _⟩ := H7.out.cur.ex
    have hx := cA
    rw [e] at hx
    simp only [World.cell?, hc2.heap] at hx
    rcases (show noff = 0 ∨ noff = 1 ∨ noff = 2 ∨ noff = 3 ∨ noff = 4 ∨ noff = 5 ∨ 6 ≤ noff by omega) with e | e | e | e | e | e | e
    all_goals first | (rw [e] at hx; simp [curCells] at hx) | (simp [curCells, e] at hx)
  have hgs : w7.heap.size ≠ g := by obtain ⟨off, c2, hc2, _⟩ := H7.out.cur.ex; have := (Array.getElem?_eq_some_iff.1 hc2.heap).1; omega
  have hgM : w7.heap.size ≠ w4.heap.size := by have := hg7.by_.size; simp at this; omega
  have hxg : w.heap.size ≠ g := by have := hx4.lt; omega
  have hyg : w.heap.size + 1 ≠ g := by have := hy4.lt; omega
  clear hI7 hg7 hyl hyl2 hl7 OW6 HN6
  obtain ⟨nA, hnA⟩ : ∃ A, ns.getD 0 0 = A := ⟨_, rfl⟩
  obtain ⟨nB, hnB⟩ : ∃ B, ns.getD 1 0 = B := ⟨_, rfl⟩
  rw [hnA] at cA HS
  rw [hnB] at cB HS
  have HTT : Hid (-9223372036854775808 ≤ 65535 ∧ (65535 : Int) ≤ 9223372036854775807) := by first | exact ht | decide
  have hget : ∀ i, 0 ≤ ns.getD i 0 ∧ ns.getD i 0 ≤ 18446744073709551615 := by
    intro i
    rw [List.getD_eq_getElem?_getD]
    cases hi : ns[i]? with
    | none => exact zero_in
    | some y => have := HU y (List.mem_of_getElem? hi); rw [p256_8] at this; show 0 ≤ y ∧ y ≤ _; omega
  have HNA : Hid (0 ≤ nA ∧ nA ≤ 18446744073709551615) := by rw [← hnA]; exact hget 0
  have HNB : Hid (0 ≤ nB ∧ nB ≤ 18446744073709551615) := by rw [← hnB]; exact hget 1
  have hl7x : l7 = x.drop sl := by rw [← HSL.out]; exact HL7.out
  have HOL : Hid (l7.length ≤ 100000 ∧ Octets l7) := by rw [hl7x]; exact ⟨by rw [List.length_drop]; omega, OX.out.drop _⟩
  rw [← hl7x] at HS
  obtain ⟨w0, hw0⟩ : ∃ q, asked12 65535 nA = q := ⟨_, rfl⟩
  have HWW : Hid (wrong12 ⟨65535, nA, nB, noOx, l7⟩ = w0) := by
    rw [← hw0]
    show wrong12 _ = _
    unfold wrong12
    rw [if_neg (show ¬ (65535 : Int) = 25 by decide), if_pos rfl, if_pos (by
      show l7.length % 8 = 0
      rw [hl7x, List.length_drop]
      have h1 := HM8.out.1
      have h2 := HM8.out.2
      omega)]
    simp [asked12]
  rw [hw0] at HS
  clear hw0 hl7x hget HU
  clear hnA hnB
  have HRX : Hid (∀ V, Below w7.heap.size w7 V → Calls Tryz.prog 101 #[.pointer (some ⟨g, 0, none⟩)] V (BytesPost V g w4.heap.size l7 [] (r7 + l7.length) 514 518 0)) := fun V hV => (H7.out.cur.below hV).rest_ok
  have p1 : nb < w7.heap.size := World.block_lt_of_cell? w7 _ cA
  have p2 : ¬ nb = w7.heap.size := by omega
  have p3 : w.heap.size < w7.heap.size := World.block_lt_of_cell? w7 _ f0
  have p4 : ¬ w.heap.size = w7.heap.size := by omega
  go_upto_region 10 with fail
  go_cut [8] (fun p8 wx => ∃ q k : Nat, p8 = .pointer (some ⟨q, 0, none⟩) ∧ Told12 w4 wx g w4.heap.size 514 518 0 q k 65535 nA nB l7)
  case first =>
    go_region_held3 (fun w' => w'.cell? ⟨w.heap.size, 0, none⟩ = some (.int .i64 65535) ∧ w'.cell? ⟨nb, noff, none⟩ = some (.int .u64 nA) ∧ w'.cell? ⟨nb, noff + 1, none⟩ = some (.int .u64 nB)) (first | with_reducible exact ⟨cell_set10 e0 p4, cell_set10 e1 p2, cell_set10 e2 p2⟩ | go_keep) (first
      | (go_at_call 101; refine (HRX.out _ ?_).mono ?_; (first | with_reducible exact below_drew8 w7 | with_reducible exact below_on (below_drew8 w7) (below_alloc _ _) | with_reducible exact below_on (below_alloc w7 _) (below_drew8 _)); rintro e w8 ⟨k8, rfl, hG8, hc8⟩; have e0 := hG8.by_.cell (cell_keep f0 (by first | with_reducible exact below_drew8 w7 | with_reducible exact below_on (below_drew8 w7) (below_alloc _ _) | with_reducible exact below_on (below_alloc w7 _) (below_drew8 _))) (by simpa using hxg); have e1 := hG8.by_.cell (cell_keep cA (by first | with_reducible exact below_drew8 w7 | with_reducible exact below_on (below_drew8 w7) (below_alloc _ _) | with_reducible exact below_on (below_alloc w7 _) (below_drew8 _))) (by simpa using hgn); have e2 := hG8.by_.cell (cell_keep cB (by first | with_reducible exact below_drew8 w7 | with_reducible exact below_on (below_drew8 w7) (below_alloc _ _) | with_reducible exact below_on (below_alloc w7 _) (below_drew8 _))) (by simpa using hgn); have q1 : nb < w8.heap.size := World.block_lt_of_cell? w8 _ e1; have q2 : ¬ nb = w8.heap.size := (by omega); have q3 : w.heap.size < w8.heap.size := World.block_lt_of_cell? w8 _ e0; have q4 : ¬ w.heap.size = w8.heap.size := (by omega); (try (have hX8 : BoxL w8 w7.heap.size [.int .i64 0, .int .u64 0, .int .u64 0, .int .i64 0, .int .i64 0, .bool false, .int .u64 0, .slice none 0 0, .slice none 0 0, .slice none 0 0] := (by first | exact (BoxL.new w7.drew [.int .i64 0, .int .u64 0, .int .u64 0, .int .i64 0, .int .i64 0, .bool false, .int .u64 0, .slice none 0 0, .slice none 0 0, .slice none 0 0] 27).by hG8.by_ (by simpa using hgs) | exact ((BoxL.new w7 [.int .i64 0, .int .u64 0, .int .u64 0, .int .i64 0, .int .i64 0, .bool false, .int .u64 0, .slice none 0 0, .slice none 0 0, .slice none 0 0] 27).drew).by hG8.by_ (by simpa using hgs)); obtain ⟨x0, x1, x2, x3, x4, x5, x6, x7, x8, x9⟩ := hX8.ten; have zx := hX8.free)))
      | fail)
    all_goals
      go_wp2_with fail
      go_meet
      first
        | with_reducible exact ⟨_, _, rfl, told12_late (d := l7) (H7.out.below (below_drew8 w7)) hc8 hG8⟩
        | with_reducible exact ⟨_, _, rfl, told12_early (d := l7) (H7.out.below (below_on (below_drew8 w7) (below_alloc _ _))) hc8 hG8 H7.out.bel.size (by simp) hgs hgM (BoxL.new w7.drew [.int .i64 0, .int .u64 0, .int .u64 0, .int .i64 0, .int .i64 0, .bool false, .int .u64 0, .slice none 0 0, .slice none 0 0, .slice none 0 0] 27)⟩
        | with_reducible exact ⟨_, _, rfl, told12_early (d := l7) (H7.out.below (below_on (below_alloc w7 _) (below_drew8 _))) hc8 hG8 H7.out.bel.size (by simp) hgs hgM ((BoxL.new w7 [.int .i64 0, .int .u64 0, .int .u64 0, .int .i64 0, .int .i64 0, .bool false, .int .u64 0, .slice none 0 0, .slice none 0 0, .slice none 0 0] 27).drew)⟩
  case rest =>
    obtain ⟨q, k8, rfl, hT⟩ := hcut
    have HT := hid hT
    have HQG := hid hT.qg
    obtain ⟨l8, r8, H8⟩ := hT.cur
    have H8 := hid H8
    have WI : ActIn wc ⟨65535, nA, nB, noOx, none, 0, none, 0, l7, some ⟨k8, 0, none⟩, l7.length⟩ := ⟨HTT.out, HNA.out, HNB.out, by simp [noOx], by simp [noOx], zero_in, by simp [noOx], by simp [noOx], HOL.out.1, Ints.nil _ _ _, Ints.nil _ _ _, HT.out.dat, (by intro y hy; cases hy), (by intro y hy; cases hy), HOL.out.2, by simp [noOx]⟩
    have WR := hid (wrong_any _ wc WI)
    have e9 : wrong12 (Ent12.act ⟨65535, nA, nB, noOx, none, 0, none, 0, l7, some ⟨k8, 0, none⟩, l7.length⟩) = w0 := HWW.out
    rw [e9] at WR
    have hbT := HT.out.box
    have hs8 := H8.out.bel.size
    have hk8 := HT.out.hk
    have hq8 := HT.out.hq
    have hxl4 := hx4.lt
    have hyl4 := hy4.lt
    clear hT H7 HRX f0 f1 cA cB y0 y1 y00 y11 p1 p2 p3 p4 e9 WI
    obtain ⟨u0, u1, u2, u3, u4, u5, u6, u7, u8, u9⟩ := hbT.ten
    go_wp2_with fail
    refine WR.out.mono ?_
    rintro e w9 ⟨rfl, hb9⟩
    have H9 := hid (H8.out.below hb9)
    have hb10 := hbT.below hb9
    have D9 := hid (HT.out.dat.below hb9)
    clear hb9 hbT u0 u1 u2 u3 u4 u5 u6 u7 u8 u9
    go_wp2_with fail
    refine (H9.out.cur.fail _).mono ?_
    rintro e wa ⟨rfl, hca, hba⟩
    have HA := hid (H9.out.by hba hca)
    have hqg : q ≠ g := HQG.out
    have hbA := hb10.by hba (by simpa using hqg)
    have D9a := hid (H9.out.cur.ints D9.out (by decide) hba)
    clear hba hca
    have hyE := hy4.below HA.out.bel
    have HBE := hid (below_on HB4.out HA.out.bel)
    have HcD := hid (HA.out.cur.below (below_drew8 _))
    have n1 : ¬ q = w.heap.size + 1 := by omega
    have n2 : ¬ w.heap.size + 1 = q := by omega
    have nk : ∀ y : Addr, some (⟨k8, 0, none⟩ : Addr) = some y → y.block ≠ w.heap.size + 1 := by rintro y hy; cases hy; simp; omega
    have HNK := hid nk
    have HN8 : Hid (New8 w (some ⟨k8, 0, none⟩)) := by have := HB4.out.size; rintro y hy; cases hy; simp; omega
    clear nk
    have zf := hyE.free
    obtain ⟨d0, d1, d2, d3, d4, d5, d6, d7, d8, d9⟩ := hyE.ten
    obtain ⟨u0, u1, u2, u3, u4, u5, u6, u7, u8, u9⟩ := hbA.ten
    go_upto_region 12 with fail
    go_region_held3 (fun w' => w'.cell? ⟨q, 0, none⟩ = some (.int .i64 65535) ∧ w'.cell? ⟨q, 1, none⟩ = some (.int .u64 nA) ∧ w'.cell? ⟨q, 2, none⟩ = some (.int .u64 nB) ∧ w'.cell? ⟨q, 3, none⟩ = some (.int .i64 0) ∧ w'.cell? ⟨q, 4, none⟩ = some (.int .i64 0) ∧ w'.cell? ⟨q, 5, none⟩ = some (.bool false) ∧ w'.cell? ⟨q, 6, none⟩ = some (.int .u64 0) ∧ w'.cell? ⟨q, 7, none⟩ = some (.slice none 0 0) ∧ w'.cell? ⟨q, 8, none⟩ = some (.slice none 0 0) ∧ w'.cell? ⟨q, 9, none⟩ = some (.slice (some ⟨k8, 0, none⟩) l7.length l7.length)) (go_keep) (first
      | (go_at_call 38; refine HcD.out.err.mono ?_; rintro e w' ⟨rfl, rfl⟩)
      | fail)
    go_wp2_with fail
    have hkk := hyE.set10 (.int .i64 65535) (.int .u64 nA) (.int .u64 nB) (.int .i64 0) (.int .i64 0) (.bool false) (.int .u64 0) (.slice none 0 0) (.slice none 0 0) (.slice (some ⟨k8, 0, none⟩) l7.length l7.length)
    replace hkk := hkk.drew
    obtain ⟨k0, k1, k2, k3, k4', k5', k6, k7, k8', k9⟩ := hkk.ten
    refine bodyPost_ret (v := .tuple #[.agg #[.int .i64 65535, .int .u64 nA, .int .u64 nB, .int .i64 0, .int .i64 0, .bool false, .int .u64 0, .slice none 0 0, .slice none 0 0, .slice (some ⟨k8, 0, none⟩) l7.length l7.length], .int .i64 w0]) (by simp [results, Tryz.results56, go_sem, k0, k1, k2, k3, k4', k5', k6, k7, k8', k9]) rfl ?_
    by_cases hw0 : w0 = 0
    · have hS := HS.out
      rw [if_neg (by simpa using hw0)] at hS
      refine .inr ⟨⟨65535, nA, nB, noOx, none, 0, none, 0, l7, some ⟨k8, 0, none⟩, l7.length⟩, hS, ?_, ?_, Ints.nil _ _ _, Ints.nil _ _ _, ?_, by simp [noOx], fun y hy => (by cases hy), fun y hy => (by cases hy), HN8.out⟩
      · rw [hw0]; rfl
      · with_reducible refine Below.drew ?_
        repeat (with_reducible refine Below.setCell ?_ (by simp) _)
        exact HBE.out
      · refine Ints.below ?_ (below_drew8 _)
        repeat (refine Ints.apart ?_ _ HNK.out)
        exact D9a.out
    · have hS := HS.out
      rw [if_pos hw0] at hS
      refine .inl ⟨w0, hS, hw0, bad12, ?_⟩
      with_reducible refine Below.drew ?_
      repeat (with_reducible refine Below.setCell ?_ (by simp) _)
      exact HBE.out
set_option maxRecDepth 100000 in
set_option maxHeartbeats 4000000 in
theorem read12_ok (t : Int) (x : List Int) (a : Option Addr) (c : Nat) (hbl : x.length ≤ 100000) (hbc : x.length ≤ c) (hc : c ≤ 9223372036854775807) (ho : Octets x) (h4 : 4 ≤ x.length) (hm : (4 + x.length) % 8 = 0) (w : World) (hI : Ints .u8 w a x) (ht : -9223372036854775808 ≤ t ∧ t ≤ 9223372036854775807) (l ns : List Int) (hr : row12 t = some l) (h25 : t ≠ 25) (hx1 : t ≠ 65535) (hxl : x.length = sizeL l) (hg : getL l x = .ok ns) :
    Calls Tryz.prog 56 #[.agg #[.int .i64 t, .slice a x.length c]] w (ReadPost12 (read12 t x) w) := by
  obtain ⟨W, hW, hbW, hx, hy⟩ := item_act w t a x.length c
  have HW := hid hW
  have HB := hid hbW
  have RO := hid (rowOf_any t W)
  obtain ⟨k1, k2, k3, k4, k5, k6⟩ := count_le12 t
  have e1 : rowP t = l := by simp [rowP, hr]
  have e2 : rowB t = true := by simp [rowB, hr]
  have e3 : (t == 25) = false := by simpa using h25
  rw [e1] at RO k1 k2 k3 k4 k5 k6
  rw [e2] at RO
  have hgw : getW l x = .ok ns := by rw [getW_yes12 (row_facts hr).ok]; exact hg
  have hlen := (getL_len12 hg).1
  have HU := (get_put hg (row_facts hr).all ho).2.2.2
  have HS : Hid (read12 t x = if asked12 t (ns.getD 0 0) ≠ 0 then .error (asked12 t (ns.getD 0 0)) else .ok ⟨t, ns.getD 0 0, ns.getD 1 0, noOx, x.drop (sizeL l)⟩) := by show _ = _; unfold read12; rw [if_neg h25, hr]; simp only; rw [if_neg (by simp [hxl]), hgw]
  have g1 : (t != 65535) = true := by simpa using hx1
  have H25 : Hid (t ≠ 25 ∧ t ≠ 65535) := ⟨h25, hx1⟩
  have IX := hid hI
  have OX := hid ho
  obtain ⟨sl, hsl⟩ : ∃ n, sizeL l = n := ⟨_, rfl⟩
  rw [hsl] at k3 k4 HS hxl
  have K3 := hid k3
  have g2 : (((x.length : Nat) : Int) != (sl : Int)) = false := by rw [hxl]; simp
  have HGW := hid hgw
  have HSL := hid hsl
  clear e1 e2 hI ho hgw hg hsl k1 k2 k3 k6 hW hbW hxl hx1
  obtain ⟨d0, d1⟩ := hx.two
  go_enter Tryz.func56, Tryz.ntmps56
  go_wp2_with fail
  rw [HW.out]
  go_wp2_with fail
  refine RO.out.mono ?_
  rintro e w1 ⟨ra, rfl, hI1, hb1⟩
  have HB1 := hid (below_on HB.out hb1)
  have hx1 := hx.below hb1
  have hy1 := hy.below hb1
  obtain ⟨f0, f1⟩ := hx1.two
  have SZ := hid (fun (n : Wk w1) => size_any l ra l.length n.val (by omega) (hI1.below n.bel))
  rw [K3.out] at SZ
  have IR := hid hI1
  have c0 := Wk.cell f0
  have c1 := Wk.cell f1
  clear hb1 hI1 d0 d1 hx hy
  go_upto_region 6 with fail
  clear f0 f1
  refine wp_region_wk (by kernel_rfl) (by kernel_rfl) ?_
  repeat (go_big_quiet_step (first
    | (go_at_call 76; exact Wk.same (SZ.out _))))
  refine wpQuiet_nil ?_
  rintro w4 ⟨⟨_, hb4⟩, rfl⟩
  have hx4 := hx1.below hb4
  have hy4 := hy1.below hb4
  have HB4 := hid (below_on HB1.out hb4)
  have IR4 := hid (IR.out.below hb4)
  have IX4 := hid (IX.out.below HB4.out)
  obtain ⟨f0, f1⟩ := hx4.two
  clear hb4 hx1 hy1 c0 c1
  go_wp2_with fail
  refine (new_any x a c 514 518 w4 (by omega) OX.out IX4.out).mono ?_
  rintro e w5 ⟨g, rfl, hc5, hb5, hg1, hg2⟩
  have H5 : Hid (CurOn w4 w5 g w4.heap.size x 0 514 518 0) := ⟨hc5, hb5, by omega, Nat.le_refl _⟩
  have hM5 : w4.heap.size < w5.heap.size := by omega
  clear hc5 hb5 f0 f1
  go_wp2_with fail
  refine (H5.out.cur.row_ok l ns ra l.length (by omega) (IR4.out.below H5.out.bel) HGW.out).mono ?_
  rintro e w6 ⟨v6, rfl, hG6, hc6⟩
  have H6 := hid (H5.out.by hG6.by_ hc6)
  obtain ⟨ys, hys⟩ : ∃ ys, ns ++ [0, 0] = ys := ⟨_, rfl⟩
  have hyl : ys.length = ns.length + 2 := by rw [← hys]; simp
  have hyA : ys.getD 0 0 = ns.getD 0 0 := by rw [← hys]; cases ns <;> rfl
  have hyB : ys.getD 1 0 = ns.getD 1 0 := by rw [← hys]; match ns with | [] => rfl | [_] => rfl | _ :: _ :: _ => rfl
  have ho6 := hG6.own
  have hn6 := hG6.new
  have hs6 : w5.heap.size ≤ w6.heap.size := hG6.by_.size
  clear hc6 hG6
  have OW6 := hid (own_behind12 ho6 (by_none_alloc w6 (.cells #[.int .u64 0, .int .u64 0] 22)))
  have HN6 := hid hn6
  have HYS := hid hys
  have HYA := hid hyA
  have HYB := hid hyB
  have HSY := hid hyl
  clear ho6 hn6 hys hyA hyB hyl
  go_wp2_with (at_builtin; refine wp_app_ints rfl _ _ rfl elemFld rfl OW6.out rfl (l := [0, 0]) rfl (ints_lit .u64 _ [0, 0] 22) (ys := ys) HYS.out (by have := HSY.out; omega) (by have := HSY.out; omega) ?_; intro a7 c7 w7 hc7 hc72 hI7 hg7)
  have H7 : Hid (∃ l7 r7, CurOn w4 w7 g w4.heap.size l7 r7 514 518 0 ∧ l7 = x.drop (sizeL l)) := by
    have h6 := H6.out.below (below_alloc w6 (.cells #[.int .u64 0, .int .u64 0] 22))
    have hk : ∀ k, v6.ownBlock = some k → w5.heap.size ≤ k := HN6.out
    have hsa : w5.heap.size ≤ (w6.alloc (.cells #[.int .u64 0, .int .u64 0] 22)).heap.size := by simp; omega
    refine ⟨_, _, ⟨h6.cur.kept hg7.by_ (fun e => ?_) (fun e => ?_), h6.bel.trans (hg7.below (B := w4.heap.size) (by omega) (fun k hk2 => by have := hk k hk2; omega)), h6.bg, h6.bM⟩, rfl⟩
    · have := hk _ e; omega
    · have := hk _ e; omega
  have hyl := HSY.out
  obtain ⟨nb, noff, ea, cA⟩ := hI7 0 (by omega)
  obtain ⟨nb', noff', eb, cB⟩ := hI7 1 (by omega)
  subst ea
  cases eb
  rw [HYA.out, Nat.add_zero] at cA
  rw [HYB.out] at cB
  obtain ⟨l7, r7, H7, hl7⟩ := H7.out
  obtain ⟨yl, hyl2⟩ : ∃ n, ys.length = n := ⟨_, rfl⟩
  rw [hyl2] at hyl hc7 ⊢
  have y0 : (0 : Int) < yl := by omega
  have y00 : 0 < yl := by omega
  have y11 : 1 < yl := by omega
  have y1 : (1 : Int) < yl := by omega
  have hx7 := hx4.below H7.bel
  have hy7 := hy4.below H7.bel
  have H7 := hid H7
  have HL7 := hid hl7
  obtain ⟨f0, f1⟩ := hx7.two
  have hgn : nb ≠ g := by
    intro e
    obtain ⟨off, c2, hc2, _⟩ := H7.out.cur.ex
    have hx := cA
    rw [e] at hx
    simp only [World.cell?, hc2.heap] at hx
    rcases (show noff = 0 ∨ noff = 1 ∨ noff = 2 ∨ noff = 3 ∨ noff = 4 ∨ noff = 5 ∨ 6 ≤ noff by omega) with e | e | e | e | e | e | e
    all_goals first | (rw [e] at hx; simp [curCells] at hx) | (simp [curCells, e] at hx)
  have hgs : w7.heap.size ≠ g := by obtain ⟨off, c2, hc2, _⟩ := H7.out.cur.ex; have := (Array.getElem?_eq_some_iff.1 hc2.heap).1; omega
  have hgM : w7.heap.size ≠ w4.heap.size := by have := hg7.by_.size; simp at this; omega
  have hxg : w.heap.size ≠ g := by have := hx4.lt; omega
  have hyg : w.heap.size + 1 ≠ g := by have := hy4.lt; omega
  clear hI7 hg7 hyl hyl2 hl7 OW6 HN6
  obtain ⟨nA, hnA⟩ : ∃ A, ns.getD 0 0 = A := ⟨_, rfl⟩
  obtain ⟨nB, hnB⟩ : ∃ B, ns.getD 1 0 = B := ⟨_, rfl⟩
  rw [hnA] at cA HS
  rw [hnB] at cB HS
  have HTT : Hid (-9223372036854775808 ≤ t ∧ (t : Int) ≤ 9223372036854775807) := by first | exact ht | decide
  have hget : ∀ i, 0 ≤ ns.getD i 0 ∧ ns.getD i 0 ≤ 18446744073709551615 := by
    intro i
    rw [List.getD_eq_getElem?_getD]
    cases hi : ns[i]? with
    | none => exact zero_in
    | some y => have := HU y (List.mem_of_getElem? hi); rw [p256_8] at this; show 0 ≤ y ∧ y ≤ _; omega
  have HNA : Hid (0 ≤ nA ∧ nA ≤ 18446744073709551615) := by rw [← hnA]; exact hget 0
  have HNB : Hid (0 ≤ nB ∧ nB ≤ 18446744073709551615) := by rw [← hnB]; exact hget 1
  have hl7x : l7 = x.drop sl := by rw [← HSL.out]; exact HL7.out
  have HOL : Hid (l7.length ≤ 100000 ∧ Octets l7) := by rw [hl7x]; exact ⟨by rw [List.length_drop]; omega, OX.out.drop _⟩
  rw [← hl7x] at HS
  obtain ⟨w0, hw0⟩ : ∃ q, asked12 t nA = q := ⟨_, rfl⟩
  have HWW : Hid (wrong12 ⟨t, nA, nB, noOx, l7⟩ = w0) := by
    rw [← hw0]
    show wrong12 _ = _
    unfold wrong12
    rw [if_neg (show ¬ t = 25 from H25.out.1), if_neg (show ¬ t = 65535 from H25.out.2)]
  rw [hw0] at HS
  clear hw0 hl7x hget HU
  clear hnA hnB
  have HRX : Hid (∀ V, Below w7.heap.size w7 V → Calls Tryz.prog 101 #[.pointer (some ⟨g, 0, none⟩)] V (BytesPost V g w4.heap.size l7 [] (r7 + l7.length) 514 518 0)) := fun V hV => (H7.out.cur.below hV).rest_ok
  have p1 : nb < w7.heap.size := World.block_lt_of_cell? w7 _ cA
  have p2 : ¬ nb = w7.heap.size := by omega
  have p3 : w.heap.size < w7.heap.size := World.block_lt_of_cell? w7 _ f0
  have p4 : ¬ w.heap.size = w7.heap.size := by omega
  go_upto_region 10 with fail
  go_cut [8] (fun p8 wx => ∃ q k : Nat, p8 = .pointer (some ⟨q, 0, none⟩) ∧ Told12 w4 wx g w4.heap.size 514 518 0 q k t nA nB l7)
  case first =>
    go_region_held3 (fun w' => w'.cell? ⟨w.heap.size, 0, none⟩ = some (.int .i64 t) ∧ w'.cell? ⟨nb, noff, none⟩ = some (.int .u64 nA) ∧ w'.cell? ⟨nb, noff + 1, none⟩ = some (.int .u64 nB)) (first | with_reducible exact ⟨cell_set10 e0 p4, cell_set10 e1 p2, cell_set10 e2 p2⟩ | go_keep) (first
      | (go_at_call 101; refine (HRX.out _ ?_).mono ?_; (first | with_reducible exact below_drew8 w7 | with_reducible exact below_on (below_drew8 w7) (below_alloc _ _) | with_reducible exact below_on (below_alloc w7 _) (below_drew8 _)); rintro e w8 ⟨k8, rfl, hG8, hc8⟩; have e0 := hG8.by_.cell (cell_keep f0 (by first | with_reducible exact below_drew8 w7 | with_reducible exact below_on (below_drew8 w7) (below_alloc _ _) | with_reducible exact below_on (below_alloc w7 _) (below_drew8 _))) (by simpa using hxg); have e1 := hG8.by_.cell (cell_keep cA (by first | with_reducible exact below_drew8 w7 | with_reducible exact below_on (below_drew8 w7) (below_alloc _ _) | with_reducible exact below_on (below_alloc w7 _) (below_drew8 _))) (by simpa using hgn); have e2 := hG8.by_.cell (cell_keep cB (by first | with_reducible exact below_drew8 w7 | with_reducible exact below_on (below_drew8 w7) (below_alloc _ _) | with_reducible exact below_on (below_alloc w7 _) (below_drew8 _))) (by simpa using hgn); have q1 : nb < w8.heap.size := World.block_lt_of_cell? w8 _ e1; have q2 : ¬ nb = w8.heap.size := (by omega); have q3 : w.heap.size < w8.heap.size := World.block_lt_of_cell? w8 _ e0; have q4 : ¬ w.heap.size = w8.heap.size := (by omega); (try (have hX8 : BoxL w8 w7.heap.size [.int .i64 0, .int .u64 0, .int .u64 0, .int .i64 0, .int .i64 0, .bool false, .int .u64 0, .slice none 0 0, .slice none 0 0, .slice none 0 0] := (by first | exact (BoxL.new w7.drew [.int .i64 0, .int .u64 0, .int .u64 0, .int .i64 0, .int .i64 0, .bool false, .int .u64 0, .slice none 0 0, .slice none 0 0, .slice none 0 0] 27).by hG8.by_ (by simpa using hgs) | exact ((BoxL.new w7 [.int .i64 0, .int .u64 0, .int .u64 0, .int .i64 0, .int .i64 0, .bool false, .int .u64 0, .slice none 0 0, .slice none 0 0, .slice none 0 0] 27).drew).by hG8.by_ (by simpa using hgs)); obtain ⟨x0, x1, x2, x3, x4, x5, x6, x7, x8, x9⟩ := hX8.ten; have zx := hX8.free)))
      | fail)
    all_goals
      go_wp2_with fail
      go_meet
      first
        | with_reducible exact ⟨_, _, rfl, told12_late (d := l7) (H7.out.below (below_drew8 w7)) hc8 hG8⟩
        | with_reducible exact ⟨_, _, rfl, told12_early (d := l7) (H7.out.below (below_on (below_drew8 w7) (below_alloc _ _))) hc8 hG8 H7.out.bel.size (by simp) hgs hgM (BoxL.new w7.drew [.int .i64 0, .int .u64 0, .int .u64 0, .int .i64 0, .int .i64 0, .bool false, .int .u64 0, .slice none 0 0, .slice none 0 0, .slice none 0 0] 27)⟩
        | with_reducible exact ⟨_, _, rfl, told12_early (d := l7) (H7.out.below (below_on (below_alloc w7 _) (below_drew8 _))) hc8 hG8 H7.out.bel.size (by simp) hgs hgM ((BoxL.new w7 [.int .i64 0, .int .u64 0, .int .u64 0, .int .i64 0, .int .i64 0, .bool false, .int .u64 0, .slice none 0 0, .slice none 0 0, .slice none 0 0] 27).drew)⟩
  case rest =>
    obtain ⟨q, k8, rfl, hT⟩ := hcut
    have HT := hid hT
    have HQG := hid hT.qg
    obtain ⟨l8, r8, H8⟩ := hT.cur
    have H8 := hid H8
    have WI : ActIn wc ⟨t, nA, nB, noOx, none, 0, none, 0, l7, some ⟨k8, 0, none⟩, l7.length⟩ := ⟨HTT.out, HNA.out, HNB.out, by simp [noOx], by simp [noOx], zero_in, by simp [noOx], by simp [noOx], HOL.out.1, Ints.nil _ _ _, Ints.nil _ _ _, HT.out.dat, (by intro y hy; cases hy), (by intro y hy; cases hy), HOL.out.2, by simp [noOx]⟩
    have WR := hid (wrong_any _ wc WI)
    have e9 : wrong12 (Ent12.act ⟨t, nA, nB, noOx, none, 0, none, 0, l7, some ⟨k8, 0, none⟩, l7.length⟩) = w0 := HWW.out
    rw [e9] at WR
    have hbT := HT.out.box
    have hs8 := H8.out.bel.size
    have hk8 := HT.out.hk
    have hq8 := HT.out.hq
    have hxl4 := hx4.lt
    have hyl4 := hy4.lt
    clear hT H7 HRX f0 f1 cA cB y0 y1 y00 y11 p1 p2 p3 p4 e9 WI
    obtain ⟨u0, u1, u2, u3, u4, u5, u6, u7, u8, u9⟩ := hbT.ten
    go_wp2_with fail
    refine WR.out.mono ?_
    rintro e w9 ⟨rfl, hb9⟩
    have H9 := hid (H8.out.below hb9)
    have hb10 := hbT.below hb9
    have D9 := hid (HT.out.dat.below hb9)
    clear hb9 hbT u0 u1 u2 u3 u4 u5 u6 u7 u8 u9
    go_wp2_with fail
    refine (H9.out.cur.fail _).mono ?_
    rintro e wa ⟨rfl, hca, hba⟩
    have HA := hid (H9.out.by hba hca)
    have hqg : q ≠ g := HQG.out
    have hbA := hb10.by hba (by simpa using hqg)
    have D9a := hid (H9.out.cur.ints D9.out (by decide) hba)
    clear hba hca
    have hyE := hy4.below HA.out.bel
    have HBE := hid (below_on HB4.out HA.out.bel)
    have HcD := hid (HA.out.cur.below (below_drew8 _))
    have n1 : ¬ q = w.heap.size + 1 := by omega
    have n2 : ¬ w.heap.size + 1 = q := by omega
    have nk : ∀ y : Addr, some (⟨k8, 0, none⟩ : Addr) = some y → y.block ≠ w.heap.size + 1 := by rintro y hy; cases hy; simp; omega
    have HNK := hid nk
    have HN8 : Hid (New8 w (some ⟨k8, 0, none⟩)) := by have := HB4.out.size; rintro y hy; cases hy; simp; omega
    clear nk
    have zf := hyE.free
    obtain ⟨d0, d1, d2, d3, d4, d5, d6, d7, d8, d9⟩ := hyE.ten
    obtain ⟨u0, u1, u2, u3, u4, u5, u6, u7, u8, u9⟩ := hbA.ten
    go_upto_region 12 with fail
    go_region_held3 (fun w' => w'.cell? ⟨q, 0, none⟩ = some (.int .i64 t) ∧ w'.cell? ⟨q, 1, none⟩ = some (.int .u64 nA) ∧ w'.cell? ⟨q, 2, none⟩ = some (.int .u64 nB) ∧ w'.cell? ⟨q, 3, none⟩ = some (.int .i64 0) ∧ w'.cell? ⟨q, 4, none⟩ = some (.int .i64 0) ∧ w'.cell? ⟨q, 5, none⟩ = some (.bool false) ∧ w'.cell? ⟨q, 6, none⟩ = some (.int .u64 0) ∧ w'.cell? ⟨q, 7, none⟩ = some (.slice none 0 0) ∧ w'.cell? ⟨q, 8, none⟩ = some (.slice none 0 0) ∧ w'.cell? ⟨q, 9, none⟩ = some (.slice (some ⟨k8, 0, none⟩) l7.length l7.length)) (go_keep) (first
      | (go_at_call 38; refine HcD.out.err.mono ?_; rintro e w' ⟨rfl, rfl⟩)
      | fail)
    go_wp2_with fail
    have hkk := hyE.set10 (.int .i64 t) (.int .u64 nA) (.int .u64 nB) (.int .i64 0) (.int .i64 0) (.bool false) (.int .u64 0) (.slice none 0 0) (.slice none 0 0) (.slice (some ⟨k8, 0, none⟩) l7.length l7.length)
    replace hkk := hkk.drew
    obtain ⟨k0, k1, k2, k3, k4', k5', k6, k7, k8', k9⟩ := hkk.ten
    refine bodyPost_ret (v := .tuple #[.agg #[.int .i64 t, .int .u64 nA, .int .u64 nB, .int .i64 0, .int .i64 0, .bool false, .int .u64 0, .slice none 0 0, .slice none 0 0, .slice (some ⟨k8, 0, none⟩) l7.length l7.length], .int .i64 w0]) (by simp [results, Tryz.results56, go_sem, k0, k1, k2, k3, k4', k5', k6, k7, k8', k9]) rfl ?_
    by_cases hw0 : w0 = 0
    · have hS := HS.out
      rw [if_neg (by simpa using hw0)] at hS
      refine .inr ⟨⟨t, nA, nB, noOx, none, 0, none, 0, l7, some ⟨k8, 0, none⟩, l7.length⟩, hS, ?_, ?_, Ints.nil _ _ _, Ints.nil _ _ _, ?_, by simp [noOx], fun y hy => (by cases hy), fun y hy => (by cases hy), HN8.out⟩
      · rw [hw0]; rfl
      · with_reducible refine Below.drew ?_
        repeat (with_reducible refine Below.setCell ?_ (by simp) _)
        exact HBE.out
      · refine Ints.below ?_ (below_drew8 _)
        repeat (refine Ints.apart ?_ _ HNK.out)
        exact D9a.out
    · have hS := HS.out
      rw [if_pos hw0] at hS
      refine .inl ⟨w0, hS, hw0, bad12, ?_⟩
      with_reducible refine Below.drew ?_
      repeat (with_reducible refine Below.setCell ?_ (by simp) _)
      exact HBE.out
set_option maxRecDepth 100000 in
set_option maxHeartbeats 4000000 in
theorem read12_odd (t : Int) (x : List Int) (a : Option Addr) (c : Nat) (hbl : x.length ≤ 100000) (hbc : x.length ≤ c) (hc : c ≤ 9223372036854775807) (ho : Octets x) (h4 : 4 ≤ x.length) (hm : (4 + x.length) % 8 = 0) (w : World) (hI : Ints .u8 w a x) (ht : -9223372036854775808 ≤ t ∧ t ≤ 9223372036854775807) (l : List Int) (hr : row12 t = some l) (h25 : t ≠ 25) (hx1 : t ≠ 65535) (hxl : x.length = sizeL l) (hg : getL l x = .error 2) :
    Calls Tryz.prog 56 #[.agg #[.int .i64 t, .slice a x.length c]] w (ReadPost12 (read12 t x) w) := by
  obtain ⟨W, hW, hbW, hx, hy⟩ := item_act w t a x.length c
  have HW := hid hW
  have HB := hid hbW
  have RO := hid (rowOf_any t W)
  obtain ⟨k1, k2, k3, k4, k5, k6⟩ := count_le12 t
  have e1 : rowP t = l := by simp [rowP, hr]
  have e2 : rowB t = true := by simp [rowB, hr]
  have e3 : (t == 25) = false := by simpa using h25
  rw [e1] at RO k1 k2 k3 k4 k5 k6
  rw [e2] at RO
  have hgw : getW l x = .error 2 := by rw [getW_yes12 (row_facts hr).ok]; exact hg
  have HS : Hid (read12 t x = .error 518) := by show _ = _; unfold read12; rw [if_neg h25, hr]; simp only; rw [if_neg (by simp [hxl]), hgw]
  have g1 : (t != 65535) = true := by simpa using hx1
  have H25 : Hid (t ≠ 25 ∧ t ≠ 65535) := ⟨h25, hx1⟩
  have IX := hid hI
  have OX := hid ho
  obtain ⟨sl, hsl⟩ : ∃ n, sizeL l = n := ⟨_, rfl⟩
  rw [hsl] at k3 k4 hxl
  have K3 := hid k3
  have g2 : (((x.length : Nat) : Int) != (sl : Int)) = false := by rw [hxl]; simp
  have HGW := hid hgw
  have HSL := hid hsl
  clear e1 e2 hI ho hgw hg hsl k1 k2 k3 k6 hW hbW hxl hx1
  obtain ⟨d0, d1⟩ := hx.two
  go_enter Tryz.func56, Tryz.ntmps56
  go_wp2_with fail
  rw [HW.out]
  go_wp2_with fail
  refine RO.out.mono ?_
  rintro e w1 ⟨ra, rfl, hI1, hb1⟩
  have HB1 := hid (below_on HB.out hb1)
  have hx1 := hx.below hb1
  have hy1 := hy.below hb1
  obtain ⟨f0, f1⟩ := hx1.two
  have SZ := hid (fun (n : Wk w1) => size_any l ra l.length n.val (by omega) (hI1.below n.bel))
  rw [K3.out] at SZ
  have IR := hid hI1
  have c0 := Wk.cell f0
  have c1 := Wk.cell f1
  clear hb1 hI1 d0 d1 hx hy
  go_upto_region 6 with fail
  clear f0 f1
  refine wp_region_wk (by kernel_rfl) (by kernel_rfl) ?_
  repeat (go_big_quiet_step (first
    | (go_at_call 76; exact Wk.same (SZ.out _))))
  refine wpQuiet_nil ?_
  rintro w4 ⟨⟨_, hb4⟩, rfl⟩
  have hx4 := hx1.below hb4
  have hy4 := hy1.below hb4
  have HB4 := hid (below_on HB1.out hb4)
  have IR4 := hid (IR.out.below hb4)
  have IX4 := hid (IX.out.below HB4.out)
  obtain ⟨f0, f1⟩ := hx4.two
  clear hb4 hx1 hy1 c0 c1
  go_wp2_with fail
  refine (new_any x a c 514 518 w4 (by omega) OX.out IX4.out).mono ?_
  rintro e w5 ⟨g, rfl, hc5, hb5, hg1, hg2⟩
  have H5 : Hid (CurOn w4 w5 g w4.heap.size x 0 514 518 0) := ⟨hc5, hb5, by omega, Nat.le_refl _⟩
  have hM5 : w4.heap.size < w5.heap.size := by omega
  clear hc5 hb5 f0 f1
  go_wp2_with fail
  refine (H5.out.cur.row_odd l ra l.length (by omega) (IR4.out.below H5.out.bel) HGW.out).mono ?_
  rintro e w6 ⟨rfl, hc6, hb6⟩
  have H6 := hid (H5.out.by hb6 hc6)
  obtain ⟨ys, hys⟩ : ∃ ys, ([] : List Int) ++ [0, 0] = ys := ⟨_, rfl⟩
  have hyl : ys.length = 2 := by rw [← hys]; rfl
  have hyA : ys.getD 0 0 = 0 := by rw [← hys]; rfl
  have hyB : ys.getD 1 0 = 0 := by rw [← hys]; rfl
  obtain ⟨v6, hv6⟩ : ∃ v, Value.slice none 0 0 = v := ⟨_, rfl⟩
  have ho6 : w6.ownsRow 0 22 1 v6 (([] : List Int).map (Value.int .u64)).length (([] : List Int).map (Value.int .u64)) := by rw [← hv6]; exact own_nilI _ _ _
  have hn6 : ∀ k, v6.ownBlock = some k → w5.heap.size ≤ k := by rw [← hv6]; intro k hk; simp [Value.ownBlock] at hk
  have hs6 : w5.heap.size ≤ w6.heap.size := hb6.size
  clear hc6 hb6
  rw [hv6]
  clear hv6
  have OW6 := hid (own_behind12 ho6 (by_none_alloc w6 (.cells #[.int .u64 0, .int .u64 0] 22)))
  have HN6 := hid hn6
  have HYS := hid hys
  have HYA := hid hyA
  have HYB := hid hyB
  have HSY := hid hyl
  clear ho6 hn6 hys hyA hyB hyl
  go_wp2_with (at_builtin; refine wp_app_ints rfl _ _ rfl elemFld rfl OW6.out rfl (l := [0, 0]) rfl (ints_lit .u64 _ [0, 0] 22) (ys := ys) HYS.out (by have := HSY.out; omega) (by have := HSY.out; omega) ?_; intro a7 c7 w7 hc7 hc72 hI7 hg7)
  have H7 : Hid (∃ l7 r7, CurOn w4 w7 g w4.heap.size l7 r7 514 518 518 ∧ l7 = x) := by
    have h6 := H6.out.below (below_alloc w6 (.cells #[.int .u64 0, .int .u64 0] 22))
    have hk : ∀ k, v6.ownBlock = some k → w5.heap.size ≤ k := HN6.out
    have hsa : w5.heap.size ≤ (w6.alloc (.cells #[.int .u64 0, .int .u64 0] 22)).heap.size := by simp; omega
    refine ⟨_, _, ⟨h6.cur.kept hg7.by_ (fun e => ?_) (fun e => ?_), h6.bel.trans (hg7.below (B := w4.heap.size) (by omega) (fun k hk2 => by have := hk k hk2; omega)), h6.bg, h6.bM⟩, rfl⟩
    · have := hk _ e; omega
    · have := hk _ e; omega
  have hyl := HSY.out
  obtain ⟨nb, noff, ea, cA⟩ := hI7 0 (by omega)
  obtain ⟨nb', noff', eb, cB⟩ := hI7 1 (by omega)
  subst ea
  cases eb
  rw [HYA.out, Nat.add_zero] at cA
  rw [HYB.out] at cB
  obtain ⟨l7, r7, H7, hl7⟩ := H7.out
  obtain ⟨yl, hyl2⟩ : ∃ n, ys.length = n := ⟨_, rfl⟩
  rw [hyl2] at hyl hc7 ⊢
  have y0 : (0 : Int) < yl := by omega
  have y00 : 0 < yl := by omega
  have y11 : 1 < yl := by omega
  have y1 : (1 : Int) < yl := by omega
  have hx7 := hx4.below H7.bel
  have hy7 := hy4.below H7.bel
  have H7 := hid H7
  have HL7 := hid hl7
  obtain ⟨f0, f1⟩ := hx7.two
  have hgn : nb ≠ g := by
    intro e
    obtain ⟨off, c2, hc2, _⟩ := H7.out.cur.ex
    have hx := cA
    rw [e] at hx
    simp only [World.cell?, hc2.heap] at hx
    rcases (show noff = 0 ∨ noff = 1 ∨ noff = 2 ∨ noff = 3 ∨ noff = 4 ∨ noff = 5 ∨ 6 ≤ noff by omega) with e | e | e | e | e | e | e
    all_goals first | (rw [e] at hx; simp [curCells] at hx) | (simp [curCells, e] at hx)
  have hgs : w7.heap.size ≠ g := by obtain ⟨off, c2, hc2, _⟩ := H7.out.cur.ex; have := (Array.getElem?_eq_some_iff.1 hc2.heap).1; omega
  have hgM : w7.heap.size ≠ w4.heap.size := by have := hg7.by_.size; simp at this; omega
  have hxg : w.heap.size ≠ g := by have := hx4.lt; omega
  have hyg : w.heap.size + 1 ≠ g := by have := hy4.lt; omega
  clear hI7 hg7 hyl hyl2 hl7 OW6 HN6
  obtain ⟨nA, hnA⟩ : ∃ A, (0 : Int) = A := ⟨_, rfl⟩
  obtain ⟨nB, hnB⟩ : ∃ B, (0 : Int) = B := ⟨_, rfl⟩
  rw [hnA] at cA
  rw [hnB] at cB
  obtain ⟨out, hout⟩ : ∃ o, ([] : List Int) = o := ⟨_, rfl⟩
  have HTT := hid ht
  have HNA : Hid (0 ≤ nA ∧ nA ≤ 18446744073709551615) := by rw [← hnA]; exact zero_in
  have HNB : Hid (0 ≤ nB ∧ nB ≤ 18446744073709551615) := by rw [← hnB]; exact zero_in
  have HOL : Hid (out.length ≤ 100000 ∧ Octets out) := by rw [← hout]; exact ⟨by simp, by intro y hy; cases hy⟩
  obtain ⟨wq, hwq⟩ : ∃ q, wrong12 ⟨t, nA, nB, noOx, out⟩ = q := ⟨_, rfl⟩
  have HWW := hid hwq
  clear hwq
  clear hnA hnB
  have HRX : Hid (∀ V, Below w7.heap.size w7 V → Calls Tryz.prog 101 #[.pointer (some ⟨g, 0, none⟩)] V (BytesPost V g w4.heap.size out l7 r7 514 518 518)) := fun V hV => by rw [← hout]; exact (H7.out.cur.below hV).rest_late (by decide)
  have HOUT := hid hout
  clear hout
  have p1 : nb < w7.heap.size := World.block_lt_of_cell? w7 _ cA
  have p2 : ¬ nb = w7.heap.size := by omega
  have p3 : w.heap.size < w7.heap.size := World.block_lt_of_cell? w7 _ f0
  have p4 : ¬ w.heap.size = w7.heap.size := by omega
  go_upto_region 10 with fail
  go_cut [8] (fun p8 wx => ∃ q k : Nat, p8 = .pointer (some ⟨q, 0, none⟩) ∧ Told12 w4 wx g w4.heap.size 514 518 518 q k t nA nB out)
  case first =>
    go_region_held3 (fun w' => w'.cell? ⟨w.heap.size, 0, none⟩ = some (.int .i64 t) ∧ w'.cell? ⟨nb, noff, none⟩ = some (.int .u64 nA) ∧ w'.cell? ⟨nb, noff + 1, none⟩ = some (.int .u64 nB)) (first | with_reducible exact ⟨cell_set10 e0 p4, cell_set10 e1 p2, cell_set10 e2 p2⟩ | go_keep) (first
      | (go_at_call 101; refine (HRX.out _ ?_).mono ?_; (first | with_reducible exact below_drew8 w7 | with_reducible exact below_on (below_drew8 w7) (below_alloc _ _) | with_reducible exact below_on (below_alloc w7 _) (below_drew8 _)); rintro e w8 ⟨k8, rfl, hG8, hc8⟩; have e0 := hG8.by_.cell (cell_keep f0 (by first | with_reducible exact below_drew8 w7 | with_reducible exact below_on (below_drew8 w7) (below_alloc _ _) | with_reducible exact below_on (below_alloc w7 _) (below_drew8 _))) (by simpa using hxg); have e1 := hG8.by_.cell (cell_keep cA (by first | with_reducible exact below_drew8 w7 | with_reducible exact below_on (below_drew8 w7) (below_alloc _ _) | with_reducible exact below_on (below_alloc w7 _) (below_drew8 _))) (by simpa using hgn); have e2 := hG8.by_.cell (cell_keep cB (by first | with_reducible exact below_drew8 w7 | with_reducible exact below_on (below_drew8 w7) (below_alloc _ _) | with_reducible exact below_on (below_alloc w7 _) (below_drew8 _))) (by simpa using hgn); have q1 : nb < w8.heap.size := World.block_lt_of_cell? w8 _ e1; have q2 : ¬ nb = w8.heap.size := (by omega); have q3 : w.heap.size < w8.heap.size := World.block_lt_of_cell? w8 _ e0; have q4 : ¬ w.heap.size = w8.heap.size := (by omega); (try (have hX8 : BoxL w8 w7.heap.size [.int .i64 0, .int .u64 0, .int .u64 0, .int .i64 0, .int .i64 0, .bool false, .int .u64 0, .slice none 0 0, .slice none 0 0, .slice none 0 0] := (by first | exact (BoxL.new w7.drew [.int .i64 0, .int .u64 0, .int .u64 0, .int .i64 0, .int .i64 0, .bool false, .int .u64 0, .slice none 0 0, .slice none 0 0, .slice none 0 0] 27).by hG8.by_ (by simpa using hgs) | exact ((BoxL.new w7 [.int .i64 0, .int .u64 0, .int .u64 0, .int .i64 0, .int .i64 0, .bool false, .int .u64 0, .slice none 0 0, .slice none 0 0, .slice none 0 0] 27).drew).by hG8.by_ (by simpa using hgs)); obtain ⟨x0, x1, x2, x3, x4, x5, x6, x7, x8, x9⟩ := hX8.ten; have zx := hX8.free)))
      | fail)
    all_goals
      go_wp2_with fail
      go_meet
      first
        | with_reducible exact ⟨_, _, rfl, told12_late (d := out) (H7.out.below (below_drew8 w7)) hc8 hG8⟩
        | with_reducible exact ⟨_, _, rfl, told12_early (d := out) (H7.out.below (below_on (below_drew8 w7) (below_alloc _ _))) hc8 hG8 H7.out.bel.size (by simp) hgs hgM (BoxL.new w7.drew [.int .i64 0, .int .u64 0, .int .u64 0, .int .i64 0, .int .i64 0, .bool false, .int .u64 0, .slice none 0 0, .slice none 0 0, .slice none 0 0] 27)⟩
        | with_reducible exact ⟨_, _, rfl, told12_early (d := out) (H7.out.below (below_on (below_alloc w7 _) (below_drew8 _))) hc8 hG8 H7.out.bel.size (by simp) hgs hgM ((BoxL.new w7 [.int .i64 0, .int .u64 0, .int .u64 0, .int .i64 0, .int .i64 0, .bool false, .int .u64 0, .slice none 0 0, .slice none 0 0, .slice none 0 0] 27).drew)⟩
  case rest =>
    obtain ⟨q, k8, rfl, hT⟩ := hcut
    have HT := hid hT
    have HQG := hid hT.qg
    obtain ⟨l8, r8, H8⟩ := hT.cur
    have H8 := hid H8
    have WI : ActIn wc ⟨t, nA, nB, noOx, none, 0, none, 0, out, some ⟨k8, 0, none⟩, out.length⟩ := ⟨HTT.out, HNA.out, HNB.out, by simp [noOx], by simp [noOx], zero_in, by simp [noOx], by simp [noOx], HOL.out.1, Ints.nil _ _ _, Ints.nil _ _ _, HT.out.dat, (by intro y hy; cases hy), (by intro y hy; cases hy), HOL.out.2, by simp [noOx]⟩
    have WR := hid (wrong_any _ wc WI)
    have e9 : wrong12 (Ent12.act ⟨t, nA, nB, noOx, none, 0, none, 0, out, some ⟨k8, 0, none⟩, out.length⟩) = wq := HWW.out
    rw [e9] at WR
    have hbT := HT.out.box
    have hs8 := H8.out.bel.size
    have hk8 := HT.out.hk
    have hq8 := HT.out.hq
    have hxl4 := hx4.lt
    have hyl4 := hy4.lt
    clear hT H7 HRX f0 f1 cA cB y0 y1 y00 y11 p1 p2 p3 p4 e9 WI
    obtain ⟨u0, u1, u2, u3, u4, u5, u6, u7, u8, u9⟩ := hbT.ten
    go_wp2_with fail
    refine WR.out.mono ?_
    rintro e w9 ⟨rfl, hb9⟩
    have H9 := hid (H8.out.below hb9)
    have hb10 := hbT.below hb9
    have D9 := hid (HT.out.dat.below hb9)
    clear hb9 hbT u0 u1 u2 u3 u4 u5 u6 u7 u8 u9
    go_wp2_with fail
    refine (H9.out.cur.fail_late (by decide) _).mono ?_
    rintro e w' ⟨rfl, rfl⟩
    have HA := H9
    have hbA := hb10
    have hyE := hy4.below HA.out.bel
    have HBE := hid (below_on HB4.out HA.out.bel)
    have HcD := hid (HA.out.cur.below (below_drew8 _))
    have n1 : ¬ q = w.heap.size + 1 := by omega
    have n2 : ¬ w.heap.size + 1 = q := by omega
    have nk : ∀ y : Addr, some (⟨k8, 0, none⟩ : Addr) = some y → y.block ≠ w.heap.size + 1 := by rintro y hy; cases hy; simp; omega
    have HNK := hid nk
    have HN8 : Hid (New8 w (some ⟨k8, 0, none⟩)) := by have := HB4.out.size; rintro y hy; cases hy; simp; omega
    clear nk
    have zf := hyE.free
    obtain ⟨d0, d1, d2, d3, d4, d5, d6, d7, d8, d9⟩ := hyE.ten
    obtain ⟨u0, u1, u2, u3, u4, u5, u6, u7, u8, u9⟩ := hbA.ten
    go_upto_region 12 with fail
    go_region_held3 (fun w' => w'.cell? ⟨q, 0, none⟩ = some (.int .i64 t) ∧ w'.cell? ⟨q, 1, none⟩ = some (.int .u64 nA) ∧ w'.cell? ⟨q, 2, none⟩ = some (.int .u64 nB) ∧ w'.cell? ⟨q, 3, none⟩ = some (.int .i64 0) ∧ w'.cell? ⟨q, 4, none⟩ = some (.int .i64 0) ∧ w'.cell? ⟨q, 5, none⟩ = some (.bool false) ∧ w'.cell? ⟨q, 6, none⟩ = some (.int .u64 0) ∧ w'.cell? ⟨q, 7, none⟩ = some (.slice none 0 0) ∧ w'.cell? ⟨q, 8, none⟩ = some (.slice none 0 0) ∧ w'.cell? ⟨q, 9, none⟩ = some (.slice (some ⟨k8, 0, none⟩) out.length out.length)) (go_keep) (first
      | (go_at_call 38; refine HcD.out.err.mono ?_; rintro e w' ⟨rfl, rfl⟩)
      | fail)
    go_wp2_with fail
    have hkk := hyE.set10 (.int .i64 t) (.int .u64 nA) (.int .u64 nB) (.int .i64 0) (.int .i64 0) (.bool false) (.int .u64 0) (.slice none 0 0) (.slice none 0 0) (.slice (some ⟨k8, 0, none⟩) out.length out.length)
    replace hkk := hkk.drew
    obtain ⟨k0, k1, k2, k3, k4', k5', k6, k7, k8', k9⟩ := hkk.ten
    refine bodyPost_ret (v := .tuple #[.agg #[.int .i64 t, .int .u64 nA, .int .u64 nB, .int .i64 0, .int .i64 0, .bool false, .int .u64 0, .slice none 0 0, .slice none 0 0, .slice (some ⟨k8, 0, none⟩) out.length out.length], .int .i64 518]) (by simp [results, Tryz.results56, go_sem, k0, k1, k2, k3, k4', k5', k6, k7, k8', k9]) rfl ?_
    refine .inl ⟨518, HS.out, by decide, bad12, ?_⟩
    with_reducible refine Below.drew ?_
    repeat (with_reducible refine Below.setCell ?_ (by simp) _)
    exact HBE.out
end Go.Proofs.YtdjlbejhphbcoaaGreat
