/- Package head and the document's heads: bytes as a head. -/
import Derived.Test.YtkgjmpcdndohpaaDoorHeadC
import Derived.Test.YtkgjmpcdndohpaaDoorCurE
import Derived.Test.YtkgjmpcdndohpaaDoorRowH
import Derived.Deep.RegionHeld3
import Derived.Deep.RegionWith
import Derived.Deep.Cut
namespace Go.Proofs.YtkgjmpcdndohpaaDoor
open Go.RowKit

theorem getL_pos {x : Int} {r b : List Int} {n : Nat} (hx : x = n) (h1 : 0 < n) (hb : n ≤ b.length) : getL (x :: r) b = (getL r (b.drop n)).map (numL (b.take n) :: ·) := by
  subst hx
  rw [getL_cons, if_neg (by simpa using hb), if_pos (by omega)]
  rfl
theorem getL_few {x : Int} {r b : List Int} {n : Nat} (hx : x = n) (hb : b.length < n) : getL (x :: r) b = .error 1 := by
  subst hx
  rw [getL_cons, if_pos (by simpa using hb)]

theorem getL_head {b : List Int} (h : 8 ≤ b.length) : getL [1, 1, 2, 4] b = .ok [numL (b.take 1), numL ((b.drop 1).take 1), numL ((b.drop 2).take 2), numL ((b.drop 4).take 4)] := by
  rw [getL_pos (x := 1) (n := 1) rfl (by omega) (by omega), getL_pos (x := 1) (n := 1) rfl (by omega) (by rw [List.length_drop]; omega), List.drop_drop,
    getL_pos (x := 2) (n := 2) rfl (by omega) (by rw [List.length_drop]; omega), List.drop_drop, getL_pos (x := 4) (n := 4) rfl (by omega) (by rw [List.length_drop]; omega), getL]
  rfl
theorem getW_is {b : List Int} : getW [1, 1, 2, 4] b = getL [1, 1, 2, 4] b := by unfold getW; rw [if_pos (by decide)]

theorem getW_head {b : List Int} (h : 8 ≤ b.length) (ho : Octets b) : ∃ V T L X, getW [1, 1, 2, 4] b = .ok [V, T, L, X] ∧ (0 ≤ V ∧ V ≤ 255) ∧ (0 ≤ T ∧ T ≤ 255) ∧ (0 ≤ L ∧ L ≤ 65535) ∧ (0 ≤ X ∧ X ≤ 4294967295) := by
  refine ⟨_, _, _, _, getW_is.trans (getL_head h), ?_, ?_, ?_, ?_⟩
  · have := numL_snoc_bound (ho.take 1)
    rw [List.length_take, Nat.min_eq_left (by omega), p256_1] at this
    omega
  · have := numL_snoc_bound ((ho.drop 1).take 1)
    rw [List.length_take, Nat.min_eq_left (by rw [List.length_drop]; omega), p256_1] at this
    omega
  · have := numL_snoc_bound ((ho.drop 2).take 2)
    rw [List.length_take, Nat.min_eq_left (by rw [List.length_drop]; omega), p256_2] at this
    omega
  · have := numL_snoc_bound ((ho.drop 4).take 4)
    rw [List.length_take, Nat.min_eq_left (by rw [List.length_drop]; omega), p256_4] at this
    omega
theorem getW_head_short {b : List Int} (h : b.length < 8) : getW [1, 1, 2, 4] b = .error 1 := by
  rw [getW_is]
  by_cases h1 : b.length < 1
  · rw [getL_few (x := 1) (n := 1) rfl h1]
  · rw [getL_pos (x := 1) (n := 1) rfl (by omega) (by omega)]
    by_cases h2 : b.length < 2
    · rw [getL_few (x := 1) (n := 1) rfl (by rw [List.length_drop]; omega)]; rfl
    · rw [getL_pos (x := 1) (n := 1) rfl (by omega) (by rw [List.length_drop]; omega), List.drop_drop]
      by_cases h3 : b.length < 4
      · rw [getL_few (x := 2) (n := 2) rfl (by rw [List.length_drop]; omega)]; rfl
      · rw [getL_pos (x := 2) (n := 2) rfl (by omega) (by rw [List.length_drop]; omega), List.drop_drop, getL_few (x := 4) (n := 4) rfl (by rw [List.length_drop]; omega)]; rfl

theorem getW_head_take {b : List Int} (h : 8 ≤ b.length) : getW [1, 1, 2, 4] (b.take 8) = getW [1, 1, 2, 4] b := by
  rw [getW_is, getW_is, getL_head h, getL_head (by rw [List.length_take]; omega)]
  simp [List.drop_take, List.take_take]

/-- what is put is got, whatever is behind -/
theorem head_back {V T L X : Int} (h : MayPut V T L) (hX : 0 ≤ X ∧ X ≤ 4294967295) (more : List Int) : getW [1, 1, 2, 4] (headBytes V T L X ++ more) = .ok [V, T, L, X] := by
  have hp : putL [1, 1, 2, 4] [V, T, L, X] = some (headBytes V T L X) := by
    have := putW_head V T L X
    unfold MayPut at h
    rw [if_pos (by omega)] at this
    unfold putW at this
    split at this
    · exact this
    · simp at this
  unfold getW
  rw [if_pos (by decide)]
  refine put_get hp (by decide) rfl ?_ more
  intro x hx
  rw [p256_8]
  unfold MayPut at h
  simp at hx
  omega
/-- what is got, put again, is those bytes -/
theorem head_forth {b : List Int} {V T L X : Int} (h : getW [1, 1, 2, 4] b = .ok [V, T, L, X]) (ho : Octets b) (hV : V ≤ 255) (hT : T ≤ 255) (hL : L ≤ 65535) (hX : X ≤ 4294967295) : headBytes V T L X = b.take 8 := by
  unfold getW at h
  rw [if_pos (by decide)] at h
  obtain ⟨h1, _, _, _⟩ := get_put h (by decide) ho
  have h2 := putW_head V T L X
  rw [if_pos (by omega)] at h2
  unfold putW at h2
  split at h2
  · rw [h1] at h2
    have : sizeL [1, 1, 2, 4] = 8 := by decide
    rw [this] at h2
    simpa using h2.symm
  · simp at h2

/-- a head's cells in a block that may be written -/
structure HdBox (w : World) (b : Nat) (V T L X : Int) : Prop where
  at_ : HdAt w b V T L X
  free : ∀ o, w.frozen? ⟨b, o, none⟩ = false
  lt : b < w.heap.size
theorem HdBox.new (w : World) (V T L X : Int) (t : TypeId) : HdBox (w.alloc (.cells #[.int .i64 V, .int .i64 T, .int .i64 L, .int .u32 X] t)) w.heap.size V T L X :=
  ⟨HdAt.of_block (t := t) (_root_.Go.heap_alloc_new w _), fun o => by simp, by simp⟩
theorem HdBox.by {w w' : World} {b : Nat} {V T L X : Int} {row : Option Nat} (h : HdBox w b V T L X) (hb : w.grownBy w' row) (hne : some b ≠ row) : HdBox w' b V T L X :=
  ⟨⟨hb.cell h.at_.c0 hne, hb.cell h.at_.c1 hne, hb.cell h.at_.c2 hne, hb.cell h.at_.c3 hne⟩, fun o => (World.frozen?_of_block (a := ⟨b, o, none⟩) (hb.block b h.lt hne)).trans (h.free o), Nat.lt_of_lt_of_le h.lt hb.size⟩
theorem HdBox.below {w w' : World} {b : Nat} {V T L X : Int} (h : HdBox w b V T L X) (hb : Below w.heap.size w w') : HdBox w' b V T L X := h.by (below_by_none hb) (by simp)

set_option maxRecDepth 100000 in
set_option maxHeartbeats 1000000 in
theorem headGet_short (b : List Int) (a : Option Addr) (c : Nat) (w : World) (hb8 : b.length < 8) (hbc : b.length ≤ c) (ho : Octets b) (hI : Ints .u8 w a b) :
    Calls Tryd.prog 9 #[.slice a b.length c] w fun e w' => e = .returned (.tuple #[.agg #[.int .i64 0, .int .i64 0, .int .i64 0, .int .u32 0], .int .i64 10002]) ∧ Below w.heap.size w w' := by
  obtain ⟨W, hW⟩ : ∃ W, w.alloc (.cells #[.int .i64 0, .int .i64 0, .int .i64 0, .int .u32 0] 24) = W := ⟨_, rfl⟩
  have hbW : Below w.heap.size w W := by rw [← hW]; exact below_alloc _ _
  have hd : HdBox W w.heap.size 0 0 0 0 := by rw [← hW]; exact HdBox.new _ _ _ _ _ _
  have HW := hid hW
  have HG := hid (getW_head_short hb8)
  have hm : ((if (8 : Int) < (b.length : Int) then 8 else (b.length : Int)) : Int) = b.length := by split <;> omega
  have hc : (b.length : Int) ≤ c := by omega
  have HN := hid (new_any b a c 10002 10002 W (by omega) ho (hI.below hbW))
  clear hI ho hW hb8 hbc
  go_enter Tryd.func9, Tryd.ntmps9
  go_wp2_with fail
  rw [HW.out]
  refine HN.out.mono ?_
  rintro e w1 ⟨g, rfl, hC, hb1, hg1, hg2⟩
  have hn1 : w.heap.size < W.heap.size := hd.lt
  have hd1 := hd.below hb1
  have hI1 := ints_lit .i64 w1 [1, 1, 2, 4] 3
  have hal := below_alloc w1 (.cells ([1, 1, 2, 4].map (Value.int .i64)).toArray 3)
  have hd2 := hd1.below hal
  have HR := hid ((hC.below hal).row_short [1, 1, 2, 4] _ 4 (by decide) hI1 HG.out)
  have hbB := hb1.trans (hal.mono hb1.size)
  clear hC hI1 hd hd1 hb1 HN hal
  go_wp2_with fail
  refine HR.out.mono ?_
  rintro e w2 ⟨rfl, hC2, hby⟩
  have hd3 := hd2.by hby (by simp; omega)
  have hB2 : Below W.heap.size W w2 := ⟨hby.os.trans hbB.os, hby.tape.trans hbB.tape, hby.output.trans hbB.output, Nat.le_trans hbB.size hby.size, fun k hk => (hby.block k (Nat.lt_of_lt_of_le hk hbB.size) (by simp; omega)).trans (hbB.block k hk)⟩
  clear HR hbB hd2 hby
  go_wp2_with fail
  refine hC2.err.mono ?_
  rintro e w' ⟨rfl, rfl⟩
  clear hC2
  obtain ⟨⟨d0, d1, d2, d3⟩, hz, hlt⟩ := hd3
  go_wp2_with fail
  refine bodyPost_ret (v := .tuple #[.agg #[.int .i64 0, .int .i64 0, .int .i64 0, .int .u32 0], .int .i64 10002]) (by simp [results, Tryd.results9, go_sem, d0, d1, d2, d3]) rfl ⟨rfl, ?_⟩
  repeat refine Below.setCell ?_ (by simp) _
  exact below_then hbW hB2

theorem four_ints {k : IntKind} {w : World} {a : Option Addr} {x0 x1 x2 x3 : Int} (h : Ints k w a [x0, x1, x2, x3]) :
    ∃ q off, a = some ⟨q, off, none⟩ ∧ w.cell? ⟨q, off, none⟩ = some (.int k x0) ∧ w.cell? ⟨q, off + 1, none⟩ = some (.int k x1) ∧ w.cell? ⟨q, off + 2, none⟩ = some (.int k x2) ∧ w.cell? ⟨q, off + 3, none⟩ = some (.int k x3) := by
  obtain ⟨q, off, rfl, c0⟩ := h 0 (by simp)
  obtain ⟨q1, off1, e1, c1⟩ := h 1 (by simp)
  obtain ⟨q2, off2, e2, c2⟩ := h 2 (by simp)
  obtain ⟨q3, off3, e3, c3⟩ := h 3 (by simp)
  simp at e1 e2 e3
  obtain ⟨rfl, rfl⟩ := e1
  obtain ⟨rfl, rfl⟩ := e2
  obtain ⟨rfl, rfl⟩ := e3
  exact ⟨q, off, rfl, c0, c1, c2, c3⟩
theorem i64_same {n : Int} (h0 : 0 ≤ n) (h1 : n ≤ 4294967295) : IntKind.i64.wrap n = n := by simp [IntKind.wrap, IntKind.bits, IntKind.signed]; omega
theorem u32_same {n : Int} (h0 : 0 ≤ n) (h1 : n ≤ 4294967295) : IntKind.u32.wrap n = n := by simp [IntKind.wrap, IntKind.bits, IntKind.signed]; omega

set_option maxRecDepth 100000 in
set_option maxHeartbeats 2000000 in
theorem headGet_ok (b : List Int) (a : Option Addr) (c : Nat) (w : World) (V T L X : Int) (hb8 : 8 ≤ b.length) (hbc : b.length ≤ c) (ho : Octets b) (hI : Ints .u8 w a b) (hG : getW [1, 1, 2, 4] b = .ok [V, T, L, X])
    (hV : 0 ≤ V ∧ V ≤ 255) (hT : 0 ≤ T ∧ T ≤ 255) (hL : 0 ≤ L ∧ L ≤ 65535) (hX : 0 ≤ X ∧ X ≤ 4294967295) :
    Calls Tryd.prog 9 #[.slice a b.length c] w fun e w' => e = .returned (.tuple #[.agg #[.int .i64 V, .int .i64 T, .int .i64 L, .int .u32 X], .int .i64 0]) ∧ Below w.heap.size w w' := by
  obtain ⟨W, hW⟩ : ∃ W, w.alloc (.cells #[.int .i64 0, .int .i64 0, .int .i64 0, .int .u32 0] 24) = W := ⟨_, rfl⟩
  have hbW : Below w.heap.size w W := by rw [← hW]; exact below_alloc _ _
  have hd : HdBox W w.heap.size 0 0 0 0 := by rw [← hW]; exact HdBox.new _ _ _ _ _ _
  have HW := hid hW
  have hl8 : (b.take 8).length = 8 := by rw [List.length_take]; omega
  have HG := hid ((getW_head_take hb8).trans hG)
  have hm : ((if (8 : Int) < (b.length : Int) then 8 else (b.length : Int)) : Int) = 8 := by split <;> omega
  have hc : (8 : Int) ≤ c := by omega
  have hN := new_any (b.take 8) a c 10002 10002 W (by omega) (ho.take 8) ((hI.below hbW).take 8)
  rw [hl8] at hN
  have HN := hid hN
  have e1 := hid (i64_same hV.1 (by omega))
  have e2 := hid (i64_same hT.1 (by omega))
  have e3 := hid (i64_same hL.1 (by omega))
  have e4 := hid (u32_same hX.1 hX.2)
  clear hI ho hW hb8 hbc hG hN hV hT hL hX hl8
  go_enter Tryd.func9, Tryd.ntmps9
  go_wp2_with fail
  rw [HW.out]
  refine HN.out.mono ?_
  rintro e w1 ⟨g, rfl, hC, hb1, hg1, hg2⟩
  have hn1 : w.heap.size < W.heap.size := hd.lt
  have hd1 := hd.below hb1
  have hI1 := ints_lit .i64 w1 [1, 1, 2, 4] 3
  have hal := below_alloc w1 (.cells ([1, 1, 2, 4].map (Value.int .i64)).toArray 3)
  have hd2 := hd1.below hal
  have HR := hid ((hC.below hal).row_ok [1, 1, 2, 4] _ _ 4 (by decide) hI1 HG.out)
  have hbB := hb1.trans (hal.mono hb1.size)
  clear hC hI1 hd hd1 hb1 HN hal
  go_wp2_with fail
  refine HR.out.mono ?_
  rintro e w2 ⟨v, rfl, hGv, hC2⟩
  have hby := hGv.by_
  have hd3 := hd2.by hby (by simp; omega)
  have hB2 : Below W.heap.size W w2 := ⟨hby.os.trans hbB.os, hby.tape.trans hbB.tape, hby.output.trans hbB.output, Nat.le_trans hbB.size hby.size, fun k hk => (hby.block k (Nat.lt_of_lt_of_le hk hbB.size) (by simp; omega)).trans (hbB.block k hk)⟩
  obtain ⟨ad, cp, rfl, _, _, hI2⟩ := own_ints hGv.own
  obtain ⟨q, off, rfl, c0, c1, c2, c3⟩ := four_ints hI2
  have hq := hGv.new q rfl
  have hq1 : ¬ w.heap.size = q := by simp at hq; omega
  have hq2 : ¬ q = w.heap.size := fun e => hq1 e.symm
  clear HR hbB hd2 hby hGv hI2 hq
  go_wp2_with fail
  refine hC2.err.mono ?_
  rintro e w' ⟨rfl, rfl⟩
  clear hC2
  obtain ⟨⟨d0, d1, d2, d3⟩, hz, hlt⟩ := hd3
  go_upto_region 6 with fail
  go_region_held3 (fun w' => w'.cell? ⟨q, off, none⟩ = some (.int .u64 V) ∧ w'.cell? ⟨q, off + 1, none⟩ = some (.int .u64 T) ∧ w'.cell? ⟨q, off + 2, none⟩ = some (.int .u64 L) ∧ w'.cell? ⟨q, off + 3, none⟩ = some (.int .u64 X)) (go_keep) (fail)
  rw [e1.out, e2.out, e3.out, e4.out]
  go_wp2
  refine bodyPost_ret (v := .tuple #[.agg #[.int .i64 V, .int .i64 T, .int .i64 L, .int .u32 X], .int .i64 0]) (by simp [results, Tryd.results9, go_sem, d0, d1, d2, d3]) rfl ⟨rfl, ?_⟩
  repeat (first | with_reducible refine Below.setCell ?_ (by simp) _ | with_reducible refine Below.drew ?_)
  exact below_then hbW hB2
end Go.Proofs.YtkgjmpcdndohpaaDoor
