/- Put together out of several texts. -/
import Derived.Test.YtdjlbejhphbcoaaGreatR20
import Derived.Test.YtdjlbejhphbcoaaGreatR16
namespace Go.Proofs.YtdjlbejhphbcoaaGreat
open Go.RowKit
set_option linter.unusedVariables false

/-- the action that a thing is -/
def read12 (t : Int) (x : List Int) : Except Int Act12 :=
  if t = 25 then
    match set12 x with
    | .error q => .error q
    | .ok o => .ok ⟨25, 0, 0, o, []⟩
  else match row12 t with
    | none => .error 513
    | some w =>
      if t ≠ 65535 ∧ x.length ≠ sizeL w then .error 514
      else match getW w x with
        | .error _ => .error 518
        | .ok l => if asked12 t (l.getD 0 0) ≠ 0 then .error (asked12 t (l.getD 0 0)) else .ok ⟨t, l.getD 0 0, l.getD 1 0, noOx, x.drop (sizeL w)⟩
theorem dec12_read (b : List Int) : dec12 b = match oneL 8 8 false 514 514 b with
    | .error q => .error q
    | .ok (t, x, n) => match read12 t x with
      | .error q => .error q
      | .ok a => .ok (a, n) := by
  unfold dec12 read12
  cases oneL 8 8 false 514 514 b with
  | error q => rfl
  | ok r =>
    obtain ⟨t, x, n⟩ := r
    simp only
    split
    · cases set12 x <;> rfl
    · cases row12 t with
      | none => rfl
      | some w =>
        simp only
        split
        · rfl
        · cases getW w x with
          | error q => rfl
          | ok l =>
            simp only
            split <;> rfl
theorem getL_err12 {ws : List Int} : ∀ {b : List Int} {q : Int}, getL ws b = .error q → sizeL ws ≤ b.length → q = 2 := by
  induction ws with
  | nil => intro b q h; simp [getL] at h
  | cons x ws ih =>
    intro b q h hs
    have e : sizeL (x :: ws) = x.natAbs + sizeL ws := by simp [sizeL]
    rw [e] at hs
    unfold getL at h
    rw [if_neg (by omega)] at h
    split at h
    · cases hg : getL ws (b.drop x.natAbs) with
      | error q2 =>
        rw [hg] at h
        have := ih hg (by rw [List.length_drop]; omega)
        simp [Except.map] at h
        omega
      | ok l => rw [hg] at h; simp [Except.map] at h
    · split at h
      · exact ih h (by rw [List.length_drop]; omega)
      · cases h; rfl
theorem getL_len12 {ws : List Int} : ∀ {b l : List Int}, getL ws b = .ok l → l.length ≤ ws.length ∧ sizeL ws ≤ b.length := by
  induction ws with
  | nil => intro b l h; simp [getL] at h; subst h; simp [sizeL]
  | cons x ws ih =>
    intro b l h
    have e : sizeL (x :: ws) = x.natAbs + sizeL ws := by simp [sizeL]
    rw [e]
    unfold getL at h
    split at h
    · simp at h
    · split at h
      · cases hg : getL ws (b.drop x.natAbs) with
        | error q2 => rw [hg] at h; simp [Except.map] at h
        | ok l2 =>
          rw [hg] at h
          simp [Except.map] at h
          have := ih hg
          rw [List.length_drop] at this
          subst h
          simp
          omega
      · split at h
        · have := ih h
          rw [List.length_drop] at this
          simp
          omega
        · simp at h
/-- what reading an action comes to -/
def ReadPost12 (R : Except Int Act12) (w : World) (e : Ending) (w' : World) : Prop :=
  (∃ q, R = .error q ∧ q ≠ 0 ∧ Bad12 q e ∧ Below w.heap.size w w') ∨
  (∃ g : Ent12, R = .ok g.act ∧ e = .returned (.tuple #[g.val, .int .i64 0]) ∧ Below w.heap.size w w' ∧ Ints .u8 w' g.va g.o.v ∧ Ints .u8 w' g.ma g.o.m ∧ Ints .u8 w' g.da g.d ∧ g.o.m.length ≤ g.mc ∧ New8 w g.va ∧ New8 w g.ma ∧ New8 w g.da)
theorem item_act (w : World) (t : Int) (a : Option Addr) (n c : Nat) : ∃ W, (w.alloc (.cells #[.int .i64 t, .slice a n c] 86)).alloc (.cells #[.int .i64 0, .int .u64 0, .int .u64 0, .int .i64 0, .int .i64 0, .bool false, .int .u64 0, .slice none 0 0, .slice none 0 0, .slice none 0 0] 27) = W ∧ Below w.heap.size w W ∧ BoxL W w.heap.size [.int .i64 t, .slice a n c] ∧
    BoxL W (w.heap.size + 1) [.int .i64 0, .int .u64 0, .int .u64 0, .int .i64 0, .int .i64 0, .bool false, .int .u64 0, .slice none 0 0, .slice none 0 0, .slice none 0 0] := by
  obtain ⟨W1, h1⟩ : ∃ W, w.alloc (.cells #[.int .i64 t, .slice a n c] 86) = W := ⟨_, rfl⟩
  have hx : BoxL W1 w.heap.size [.int .i64 t, .slice a n c] := by rw [← h1]; exact BoxL.new _ _ _
  have hb1 : Below w.heap.size w W1 := by rw [← h1]; exact below_alloc _ _
  obtain ⟨W2, h2, hb2, hy⟩ := act_box W1 0 0 0 0 0 false 0 none 0 0 none 0 0 none 0 0
  have e : W1.heap.size = w.heap.size + 1 := by rw [← h1]; simp
  rw [e] at hy
  exact ⟨W2, by rw [h1, h2], below_on hb1 hb2, hx.below hb2, hy⟩
theorem BoxL.two {w : World} {b : Nat} {v0 v1 : Value} (h : BoxL w b [v0, v1]) : w.cell? ⟨b, 0, none⟩ = some v0 ∧ w.cell? ⟨b, 1, none⟩ = some v1 := ⟨h.cell 0 _ rfl, h.cell 1 _ rfl⟩
set_option maxRecDepth 100000 in
set_option maxHeartbeats 2000000 in
theorem read12_none (t : Int) (x : List Int) (a : Option Addr) (c : Nat) (hbl : x.length ≤ 100000) (hbc : x.length ≤ c) (hc : c ≤ 9223372036854775807) (ho : Octets x) (h4 : 4 ≤ x.length) (w : World) (hI : Ints .u8 w a x) (hr : row12 t = none) (h25 : t ≠ 25) :
    Calls Tryz.prog 56 #[.agg #[.int .i64 t, .slice a x.length c]] w (ReadPost12 (read12 t x) w) := by
  obtain ⟨W, hW, hbW, hx, hy⟩ := item_act w t a x.length c
  have HW := hid hW
  have HB := hid hbW
  have RO := hid (rowOf_any t W)
  have HS : Hid (read12 t x = .error 513) := by show _ = _; unfold read12; rw [if_neg h25, hr]
  have e1 : rowP t = [] := by simp [rowP, hr]
  have e2 : rowB t = false := by simp [rowB, hr, h25]
  rw [e1, e2] at RO
  clear e1 e2 hr h25 hI ho
  obtain ⟨d0, d1⟩ := hx.two
  clear hW hbW
  go_enter Tryz.func56, Tryz.ntmps56
  go_wp2_with fail
  rw [HW.out]
  go_wp2_with fail
  refine RO.out.mono ?_
  rintro e w1 ⟨ra, rfl, hI1, hb1⟩
  have hyE := hy.below hb1
  have HBE := hid (below_on HB.out hb1)
  clear hb1 hI1
  have z := hyE.free
  obtain ⟨u0, u1, u2, u3, u4, u5, u6, u7, u8, u9⟩ :=  hyE.ten
  go_wp2_with fail
  have hkk := hyE.set10 (.int .i64 0) (.int .u64 0) (.int .u64 0) (.int .i64 0) (.int .i64 0) (.bool false) (.int .u64 0) (.slice none 0 0) (.slice none 0 0) (.slice none 0 0)
  obtain ⟨k0, k1, k2, k3, k4, k5, k6, k7, k8, k9⟩ := hkk.ten
  refine bodyPost_ret (v := .tuple #[zero12, .int .i64 513]) (by simp [results, Tryz.results56, go_sem, zero12, k0, k1, k2, k3, k4, k5, k6, k7, k8, k9]) rfl (.inl ⟨513, HS.out, by decide, bad12, ?_⟩)
  repeat (with_reducible refine Below.setCell ?_ (by simp) _)
  exact HBE.out
set_option maxRecDepth 100000 in
set_option maxHeartbeats 2000000 in
theorem read12_set (t : Int) (x : List Int) (a : Option Addr) (c : Nat) (hbl : x.length ≤ 100000) (hbc : x.length ≤ c) (hc : c ≤ 9223372036854775807) (ho : Octets x) (h4 : 4 ≤ x.length) (w : World) (hI : Ints .u8 w a x) (h25 : t = 25) :
    Calls Tryz.prog 56 #[.agg #[.int .i64 t, .slice a x.length c]] w (ReadPost12 (read12 t x) w) := by
  subst h25
  obtain ⟨W, hW, hbW, hx, hy⟩ := item_act w 25 a x.length c
  have HW := hid hW
  have HB := hid hbW
  have RO := hid (rowOf_any 25 W)
  have e1 : rowP 25 = [] := by decide
  have e2 : rowB 25 = true := by decide
  rw [e1, e2] at RO
  have RS := hid (fun (V : World) (hV : Below w.heap.size w V) => readSet_any x a c hbl hbc hc ho V (hI.below hV))
  clear e1 e2 hI ho
  obtain ⟨d0, d1⟩ := hx.two
  clear hW hbW
  go_enter Tryz.func56, Tryz.ntmps56
  go_wp2_with fail
  rw [HW.out]
  go_wp2_with fail
  refine RO.out.mono ?_
  rintro e w1 ⟨ra, rfl, hI1, hb1⟩
  have hy1 := hy.below hb1
  have HB1 := hid (below_on HB.out hb1)
  obtain ⟨e0, e1⟩ := (hx.below hb1).two
  clear hb1 hI1 d0 d1
  go_wp2_with fail
  refine (RS.out _ HB1.out).mono ?_
  rintro e w2 (⟨q, hq, hq0, ⟨T', A', B', C', F', H', X', va', vl', vc', ma', ml', mc', da', dl', dc', rfl⟩, hb2⟩ | ⟨o, a1, k1, a2, k2, hq, rfl, hb2, i1, i2, hmc, hn1, hn2⟩)
  · have HS : Hid (read12 25 x = .error q) := by show _ = _; unfold read12; rw [if_pos rfl, hq]
    have hyE := hy1.below hb2
    have HBE := hid (below_on HB1.out hb2)
    have HQ0 := hid hq0
    clear hb2 hq hq0 e0 e1
    have z := hyE.free
    obtain ⟨u0, u1, u2, u3, u4, u5, u6, u7, u8, u9⟩ := hyE.ten
    go_wp2_with fail
    have hkk := hyE.set10 (.int .i64 T') (.int .u64 A') (.int .u64 B') (.int .i64 C') (.int .i64 F') (.bool H') (.int .u64 X') (.slice va' vl' vc') (.slice ma' ml' mc') (.slice da' dl' dc')
    obtain ⟨k0, k1, k2, k3, k4, k5, k6, k7, k8, k9⟩ := hkk.ten
    refine bodyPost_ret (v := .tuple #[.agg #[.int .i64 T', .int .u64 A', .int .u64 B', .int .i64 C', .int .i64 F', .bool H', .int .u64 X', .slice va' vl' vc', .slice ma' ml' mc', .slice da' dl' dc'], .int .i64 q]) (by simp [results, Tryz.results56, go_sem, k0, k1, k2, k3, k4, k5, k6, k7, k8, k9]) rfl (.inl ⟨q, HS.out, HQ0.out, bad12, ?_⟩)
    repeat (with_reducible refine Below.setCell ?_ (by simp) _)
    exact HBE.out
  · obtain ⟨C, F, H, X, v, m⟩ := o
    simp only at i1 i2 hmc
    have HS : Hid (read12 25 x = .ok (Ent12.act ⟨25, 0, 0, ⟨C, F, H, X, v, m⟩, a1, k1, a2, k2, [], none, 0⟩)) := by show _ = _; unfold read12; rw [if_pos rfl, hq]; rfl
    have hyE := hy1.below hb2
    have HBE := hid (below_on HB1.out hb2)
    have I1 := hid i1
    have I2 := hid i2
    have HMC := hid hmc
    have hs1 := HB1.out.size
    have hyl := hy1.lt
    have HN1 : Hid (New8 w a1) := fun q hq => by have := hn1 q hq; omega
    have HN2 : Hid (New8 w a2) := fun q hq => by have := hn2 q hq; omega
    have HN1' : Hid (∀ q : Addr, a1 = some q → q.block ≠ w.heap.size + 1) := fun q hq => by have := hn1 q hq; omega
    have HN2' : Hid (∀ q : Addr, a2 = some q → q.block ≠ w.heap.size + 1) := fun q hq => by have := hn2 q hq; omega
    clear hb2 hq e0 e1 i1 i2 hmc hn1 hn2
    have z := hyE.free
    obtain ⟨u0, u1, u2, u3, u4, u5, u6, u7, u8, u9⟩ := hyE.ten
    go_wp2_with fail
    have hkk := hyE.set10 (.int .i64 25) (.int .u64 0) (.int .u64 0) (.int .i64 C) (.int .i64 F) (.bool H) (.int .u64 X) (.slice a1 v.length k1) (.slice a2 m.length k2) (.slice none 0 0)
    obtain ⟨k0, k1', k2', k3, k4, k5, k6, k7, k8, k9⟩ := hkk.ten
    refine bodyPost_ret (v := .tuple #[.agg #[.int .i64 25, .int .u64 0, .int .u64 0, .int .i64 C, .int .i64 F, .bool H, .int .u64 X, .slice a1 v.length k1, .slice a2 m.length k2, .slice none 0 0], .int .i64 0]) (by simp [results, Tryz.results56, go_sem, k0, k1', k2', k3, k4, k5, k6, k7, k8, k9]) rfl (.inr ⟨⟨25, 0, 0, ⟨C, F, H, X, v, m⟩, a1, k1, a2, k2, [], none, 0⟩, HS.out, rfl, ?_, ?_, ?_, Ints.nil _ _ _, HMC.out, HN1.out, HN2.out, fun q hq => by cases hq⟩)
    · repeat (with_reducible refine Below.setCell ?_ (by simp) _)
      exact HBE.out
    · repeat (refine Ints.apart ?_ _ HN1'.out)
      exact I1.out
    · repeat (refine Ints.apart ?_ _ HN2'.out)
      exact I2.out
set_option maxRecDepth 100000 in
set_option maxHeartbeats 2000000 in
theorem read12_size (t : Int) (x : List Int) (a : Option Addr) (c : Nat) (hbl : x.length ≤ 100000) (hbc : x.length ≤ c) (hc : c ≤ 9223372036854775807) (ho : Octets x) (h4 : 4 ≤ x.length) (w : World) (hI : Ints .u8 w a x) (l : List Int) (hr : row12 t = some l) (h25 : t ≠ 25) (hx1 : t ≠ 65535) (hxl : x.length ≠ sizeL l) :
    Calls Tryz.prog 56 #[.agg #[.int .i64 t, .slice a x.length c]] w (ReadPost12 (read12 t x) w) := by
  obtain ⟨W, hW, hbW, hx, hy⟩ := item_act w t a x.length c
  have HW := hid hW
  have HB := hid hbW
  have RO := hid (rowOf_any t W)
  obtain ⟨k1, k2, k3, k4, k5, k6⟩ := count_le12 t
  have e1 : rowP t = l := by simp [rowP, hr]
  have e2 : rowB t = true := by simp [rowB, hr]
  have e3 : (t == 25) = false := by simpa using h25
  rw [e1] at RO k1 k2 k3 k4 k5 k6
  rw [e2] at RO
  have HS : Hid (read12 t x = .error 514) := by show _ = _; unfold read12; rw [if_neg h25, hr]; simp only; rw [if_pos ⟨hx1, hxl⟩]
  have g1 : (t != 65535) = true := by simpa using hx1
  obtain ⟨n, hn⟩ : ∃ n, sizeL l = n := ⟨_, rfl⟩
  rw [hn] at hxl k3
  have K3 := hid k3
  have g2 : (((x.length : Nat) : Int) != (n : Int)) = true := by simp; omega
  have hn0 := k4
  clear e1 e2 hr h25 hI ho hx1 hxl hn k1 k2 k3 k4 k6 hn0
  obtain ⟨d0, d1⟩ := hx.two
  clear hW hbW
  go_enter Tryz.func56, Tryz.ntmps56
  go_wp2_with fail
  rw [HW.out]
  go_wp2_with fail
  refine RO.out.mono ?_
  rintro e w1 ⟨ra, rfl, hI1, hb1⟩
  have hyE := hy.below hb1
  have HBE1 := hid (below_on HB.out hb1)
  obtain ⟨f0, f1⟩ := (hx.below hb1).two
  have SZ := hid (fun (n : Wk w1) => size_any l ra l.length n.val (by omega) (hI1.below n.bel))
  rw [K3.out] at SZ
  have c0 := Wk.cell f0
  have c1 := Wk.cell f1
  clear hb1 hI1 d0 d1
  go_upto_region 6 with fail
  clear f0 f1
  refine wp_region_wk (by kernel_rfl) (by kernel_rfl) ?_
  repeat (go_big_quiet_step (first
    | (go_at_call 76; exact Wk.same (SZ.out _))))
  refine wpQuiet_nil ?_
  rintro w4 ⟨⟨_, hb4⟩, rfl⟩
  replace hyE := hyE.below hb4
  have HBE := hid (below_on HBE1.out hb4)
  clear hb4
  have z := hyE.free
  obtain ⟨u0, u1, u2, u3, u4, u5, u6, u7, u8, u9⟩ :=  hyE.ten
  go_wp2_with fail
  have hkk := hyE.set10 (.int .i64 0) (.int .u64 0) (.int .u64 0) (.int .i64 0) (.int .i64 0) (.bool false) (.int .u64 0) (.slice none 0 0) (.slice none 0 0) (.slice none 0 0)
  obtain ⟨k0, k1, k2, k3, k4, k5, k6, k7, k8, k9⟩ := hkk.ten
  refine bodyPost_ret (v := .tuple #[zero12, .int .i64 514]) (by simp [results, Tryz.results56, go_sem, zero12, k0, k1, k2, k3, k4, k5, k6, k7, k8, k9]) rfl (.inl ⟨514, HS.out, by decide, bad12, ?_⟩)
  repeat (with_reducible refine Below.setCell ?_ (by simp) _)
  exact HBE.out
end Go.Proofs.YtdjlbejhphbcoaaGreat
