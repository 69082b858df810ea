/- CursorReads's walk. -/
import Derived.Test.YtgnmkdcoglbafaaCurSubOp
import Derived.Test.YtgnmkdcoglbafaaCurAll
import Derived.Test.YtgnmkdcoglbafaaShell
import Derived.Test.YtgnmkdcoglbafaaQuiet
import Derived.Deep.RegionWith
import Derived.Laws.OwnMore
import Derived.Deep.DeepCutAuto
namespace Go.Proofs.Ytgnmkdcoglbafaa
open Go.RowKit

/-- operations that came in -/
def IsOps (w : World) (a : Option Addr) (len : Nat) : Prop := ∀ i, i < len → ∃ (b off : Nat) (k n : Int) (aw : Option Addr) (lw cw : Nat) (zs : List Int), a = some ⟨b, off, none⟩ ∧ w.cell? ⟨b, off + i * 3, none⟩ = some (.int .i64 k) ∧ w.cell? ⟨b, off + i * 3 + 1, none⟩ = some (.int .i64 n) ∧ w.cell? ⟨b, off + i * 3 + 2, none⟩ = some (.slice aw lw cw) ∧ IsRow .i64 w aw lw cw zs

def FewPost (n len : Nat) (w : World) (e : Ending) (w' : World) : Prop := ∃ v : Bool, e = .returned (.bool v) ∧ w = w' ∧ (v = true → n ≤ 2000 ∧ len ≤ 60)

theorem few_any (b : List Int) (a d : Option Addr) (len c e : Nat) (w : World) (hl : len ≤ 9223372036854775807) (hd : IsOps w d len) :
    Calls Try.prog 6 #[.slice a b.length c, .slice d len e] w (FewPost b.length len w) := by
  go_enter Try.func6, Try.ntmps6
  go_wp2
  go_loop [5] (fun i => ∃ k : Nat, k ≤ len ∧ i = .int .i64 k) (fun i => len - (intOf i).toNat)
  case atStart => exact ⟨0, Nat.zero_le _, rfl⟩
  case round =>
    obtain ⟨k, hk, rfl⟩ := hrel
    by_cases hlt : k < len
    · obtain ⟨b1, off, x, y, aw, lw, cw, zs, rfl, _, _, c2, _⟩ := hd k hlt
      by_cases h1 : (100 : Int) < (lw : Int)
      · go_wp2
        go_ret
        exact ⟨false, rfl, rfl, by simp⟩
      · go_wp2
        go_round
        case rel => exact ⟨k + 1, by omega, by go_num⟩
        case measure => simp [intOf]; omega
    · by_cases h1 : (b.length : Int) ≤ 2000
      · by_cases h2 : (len : Int) ≤ 60
        · go_wp2
          go_ret
          exact ⟨true, rfl, rfl, fun _ => ⟨by omega, by omega⟩⟩
        · have e1 : decide ((len : Int) ≤ 60) = false := by simp; omega
          go_wp2
          go_ret
          exact ⟨false, rfl, rfl, by simp⟩
      · have e1 : decide ((b.length : Int) ≤ 2000) = false := by simp; omega
        go_wp2
        go_ret
        exact ⟨false, rfl, rfl, by simp⟩

theorem op_any (w : World) (g M : Nat) (a : Option Addr) (c : Nat) (B : List Int) (r : Nat) (s o f k n : Int) (aw : Option Addr) (lw cw : Nat) (zs : List Int) (h : St w g M a c B r s o f) (hr : IsRow .i64 w aw lw cw zs) :
    Calls Try.prog 10 #[.pointer (some ⟨g, 0, none⟩), .agg #[.slice a B.length c, .int .i64 r, .int .i64 s, .int .i64 o, .int .i64 f], .agg #[.int .i64 k, .int .i64 n, .slice aw lw cw]] w (OpPost w g M a B) := by
  by_cases h0 : k = 0
  · subst h0; exact op_num w g M a c B r s o f n _ h
  by_cases h1 : k = 1
  · subst h1
    obtain ⟨l, rfl, hl, hm, hI, _⟩ := hr.ints
    exact op_row w g M a c B r s o f _ l aw cw (by omega) hI h
  by_cases h2 : k = 2
  · subst h2; exact op_bytes w g M a c B r s o f n _ h
  by_cases h3 : k = 3
  · subst h3; exact op_rest w g M a c B r s o f _ _ h
  by_cases h4 : k = 4
  · subst h4; exact op_sub w g M a c B r s o f n _ h
  exact op_fail w g M a c B r s o f n k _ h (by simpa using h0) (by simpa using h1) (by simpa using h2) (by simpa using h3) (by simpa using h4)

theorem isRow_below {k : IntKind} {w w' : World} {a : Option Addr} {l c : Nat} {zs : List Int} (h : IsRow k w a l c zs) (hb : Below w.heap.size w w') : IsRow k w' a l c zs := by
  rcases h with h | ⟨x, h1, h2, h3, h4, h5, h6⟩
  · exact .inl h
  · exact .inr ⟨x, h1, h2, h3, h4, fun i hi => cell_keep (h5 i hi) hb, h6⟩
theorem IsOps.below {w w' : World} {a : Option Addr} {len : Nat} (h : IsOps w a len) (hb : Below w.heap.size w w') : IsOps w' a len := by
  intro i hi
  obtain ⟨b, off, k, n, aw, lw, cw, zs, h1, h2, h3, h4, h5⟩ := h i hi
  exact ⟨b, off, k, n, aw, lw, cw, zs, h1, cell_keep h2 hb, cell_keep h3 hb, cell_keep h4 hb, isRow_below h5 hb⟩

/-- one's own bytes v lie apart from the cursor g, its memory M, the block D, and the bytes B at a -/
structure Far (v : Value) (w0 g M D : Nat) (a : Option Addr) (B : List Int) : Prop where
  far : ∀ q, v.ownBlock = some q → w0 ≤ q ∧ q ≠ g ∧ q ≠ M ∧ q ≠ D ∧ (B ≠ [] → ∀ b off, a = some ⟨b, off, none⟩ → b ≠ q)
  dfar : B ≠ [] → ∀ b off, a = some ⟨b, off, none⟩ → b ≠ D

/-- how all stands at a round's head -/
structure At (w wr : World) (v : Value) (n : Nat) (g M D : Nat) (a : Option Addr) (c : Nat) (B : List Int) (r : Nat) (s o f : Int) : Prop where
  st : St wr g M a c B r s o f
  five : Five wr D (.slice a B.length c) (.int .i64 r) (.int .i64 s) (.int .i64 o) (.int .i64 f)
  free : ∀ i, wr.frozen? ⟨D, i, none⟩ = false
  bel : Below w.heap.size w wr
  own : ∃ xs : List Int, xs.length = n ∧ Octets xs ∧ wr.ownsRow 0 5 1 v (xs.map (Value.int .u8)).length (xs.map (Value.int .u8))
  far : Far v w.heap.size g M D a B
  dg : D ≠ g
  dm : D ≠ M
  dlt : D < wr.heap.size
  gw : w.heap.size ≤ g
  dw : w.heap.size ≤ D

theorem free_set5 {W : World} {D : Nat} (h : ∀ i, W.frozen? ⟨D, i, none⟩ = false) (v0 v1 v2 v3 v4 : Value) : ∀ i, (((((W.setCell ⟨D, 0, none⟩ v0).setCell ⟨D, 1, none⟩ v1).setCell ⟨D, 2, none⟩ v2).setCell ⟨D, 3, none⟩ v3).setCell ⟨D, 4, none⟩ v4).frozen? ⟨D, i, none⟩ = false := by
  intro i; simp [h]
theorem holds_block {w : World} {a : Option Addr} {c : Nat} {B : List Int} (h : Holds w a c B) (hB : B ≠ []) (b off : Nat) (ha : a = some ⟨b, off, none⟩) : b < w.heap.size := by
  obtain ⟨b', off', he, hc⟩ := h.ints 0 (by cases B with | nil => exact absurd rfl hB | cons x l => simp)
  rw [ha] at he
  simp at he
  obtain ⟨rfl, rfl⟩ := he
  exact World.block_lt_of_cell? w _ hc

theorem at_start {w w1 w2 w3 : World} {b : List Int} {a a5 : Option Addr} {c c5 g : Nat} (hH : Holds w a c b) (hb : b.length ≤ 2000) (hF : Fresh 5 w w1 (.slice a5 b.length c5) (b.map (Value.int .u8))) (hC : Cur w2 g w1.heap.size b 0 514 518 0) (hB : Below w1.heap.size w1 w2) (hg : w1.heap.size < g) (hg2 : g < w2.heap.size) (hB3 : Below w2.heap.size w2 w3) :
    At w (w3.alloc (.cells #[.slice a b.length c, .int .i64 (0 : Nat), .int .i64 514, .int .i64 518, .int .i64 0] 30)) (.slice a5 b.length c5) b.length g w1.heap.size w3.heap.size a c b 0 514 518 0 := by
  have hw1 := hF.bel.size
  have hs2 := hB.size
  have hs3 := hB3.size
  have hBB := below_more (below_more (below_more hF.bel hB) hB3) (below_alloc w3 (.cells #[.slice a b.length c, .int .i64 (0 : Nat), .int .i64 514, .int .i64 518, .int .i64 0] 30))
  refine ⟨⟨(hC.below hB3).below (below_alloc _ _), hH.below hBB, Nat.zero_le _, hb, by decide, by decide, by simp; omega⟩, five_first w3 _ _ _ _ _ _, free_first w3 _ _, hBB, ⟨b, rfl, hH.oct, ?_⟩, ⟨?_, ?_⟩, by omega, by omega, by simp, by omega, by omega⟩
  · have k := below_by_none (below_more (below_more hB hB3) (below_alloc w3 (.cells #[.slice a b.length c, .int .i64 (0 : Nat), .int .i64 514, .int .i64 518, .int .i64 0] 30)))
    exact hF.own.kept k (by cases (Value.slice a5 b.length c5).ownBlock <;> simp)
  · intro q hq
    have h1 := hF.new q hq
    have h2 := (hF.own.lt q hq).2
    exact ⟨h1, by omega, by omega, by omega, fun hB' b' off ha => by have := holds_block hH hB' b' off ha; omega⟩
  · intro hB' b' off ha
    have := holds_block hH hB' b' off ha
    omega

theorem at_below {w wr wx : World} {v : Value} {n g M D : Nat} {a : Option Addr} {c : Nat} {B : List Int} {r : Nat} {s o f : Int} (h : At w wr v n g M D a c B r s o f) (hb : Below wr.heap.size wr wx) : At w wx v n g M D a c B r s o f := by
  obtain ⟨xs, h1, h2, h3⟩ := h.own
  exact ⟨⟨h.st.cur.below hb, h.st.hol.below hb, h.st.rle, h.st.len, h.st.sne, h.st.one, Nat.lt_of_lt_of_le h.st.mlt hb.size⟩, h.five.below hb, free_below h.free h.dlt hb, below_more h.bel hb,
    ⟨xs, h1, h2, h3.kept (below_by_none hb) (by cases hv : v.ownBlock <;> simp)⟩, h.far, h.dg, h.dm, Nat.lt_of_lt_of_le h.dlt hb.size, h.gw, h.dw⟩

/-- one's own bytes may be written -/
theorem at_own {w wr : World} {a5 : Option Addr} {c5 n g M D : Nat} {a : Option Addr} {c : Nat} {B : List Int} {r : Nat} {s o f : Int} (h : At w wr (.slice a5 n c5) n g M D a c B r s o f) {j : Nat} (hj : j < n) :
    ∃ O x, a5 = some ⟨O, 0, none⟩ ∧ wr.cell? ⟨O, j, none⟩ = some (.int .u8 x) ∧ wr.frozen? ⟨O, j, none⟩ = false ∧ 0 ≤ x ∧ x ≤ 255 ∧ ∀ y, 0 ≤ y → y ≤ 255 → At w (wr.setCell ⟨O, j, none⟩ (.int .u8 y)) (.slice a5 n c5) n g M D a c B r s o f := by
  obtain ⟨xs, hxl, hxo, hown⟩ := h.own
  have hform : ∃ O, a5 = some ⟨O, 0, none⟩ := by
    rcases hown.2 with ⟨he, h0⟩ | ⟨O, cap, cur, he, _⟩
    · simp at he h0; subst h0; simp at hxl; omega
    · simp at he; exact ⟨O, he.1⟩
  obtain ⟨O, rfl⟩ := hform
  have hml : (xs.map (Value.int .u8)).length = n := by rw [List.length_map]; exact hxl
  rw [hml] at hown
  have hx : xs[j]? = some xs[j] := List.getElem?_eq_getElem (by omega)
  have hc := hown.cellAt j (by omega)
  rw [List.getElem?_map, hx] at hc
  obtain ⟨f1, f2, f3, f4, f5⟩ := h.far.far O rfl
  obtain ⟨o1, o2⟩ := hxo.get hx
  refine ⟨O, xs[j], rfl, hc, hown.frozenAt j, o1, o2, fun y y0 y1 => ?_⟩
  obtain ⟨hst, hgr⟩ := hown.stored j (.int .u8 y)
  have hO : O < wr.heap.size := (hown.lt O rfl).2
  have hset : (xs.map (Value.int .u8)).set j (.int .u8 y) = (xs.set j y).map (Value.int .u8) := by rw [List.map_set]
  rw [hset] at hst
  have hIs : Ints .u8 (wr.setCell ⟨O, j, none⟩ (.int .u8 y)) a B := by
    intro i hi
    obtain ⟨b, off, he, hcc⟩ := h.st.hol.ints i hi
    exact ⟨b, off, he, set_far _ (fun e => f5 (by intro e2; subst e2; simp at hi) b off he e.symm) hcc⟩
  refine ⟨⟨h.st.cur.set f2 f3 j _, ⟨h.st.hol.cap, h.st.hol.max, hIs, h.st.hol.oct, h.st.hol.shape⟩, h.st.rle, h.st.len, h.st.sne, h.st.one, by simpa using h.st.mlt⟩, h.five.by hgr (by simp; omega), free_by h.free h.dlt hgr (by simp; omega), h.bel.setCell (by simpa using f1) _, ⟨xs.set j y, by simpa using hxl, ?_, ?_⟩, h.far, h.dg, h.dm, by simpa using h.dlt, h.gw, h.dw⟩
  · intro z hz
    rcases List.mem_or_eq_of_mem_set hz with h1 | rfl
    · exact hxo z h1
    · exact ⟨y0, y1⟩
  · have : ((xs.set j y).map (Value.int .u8)).length = n := by rw [List.length_map, List.length_set]; exact hxl
    rw [this]
    exact hst

/-- what Look told -/
def Looked (wx : World) (f : Int) (l : List Int) (lk : Value) : Prop := (f = 0 ∧ ∃ a m c, lk = .slice a m c ∧ m = l.length ∧ Ints .u8 wx a l) ∨ (f ≠ 0 ∧ lk = .slice none 0 0)

theorem at_step {w wr w5 : World} {v : Value} {n g M D : Nat} {a : Option Addr} {c : Nat} {B : List Int} {r : Nat} {s o f : Int} {g3 : Nat} {a3 : Option Addr} {c3 : Nat} {B3 : List Int} {r3 : Nat} {s3 o3 f3 : Int} (hA : At w wr v n g M D a c B r s o f)
    (hSt : St w5 g3 M a3 c3 B3 r3 s3 o3 f3) (hG : wr.drew.grownBy w5 (some g)) (hgg : g3 = g ∨ wr.drew.heap.size ≤ g3) (haa : (a3 = a ∧ B3 = B) ∨ a3 = none ∨ ∃ q, a3 = some ⟨q, 0, none⟩ ∧ wr.drew.heap.size ≤ q)
    (q : Five w5 D (.slice a B.length c) (.int .i64 r) (.int .i64 s) (.int .i64 o) (.int .i64 f)) (hfr : ∀ i, w5.frozen? ⟨D, i, none⟩ = false) :
    At w (((((w5.setCell ⟨D, 0, none⟩ (.slice a3 B3.length c3)).setCell ⟨D, 1, none⟩ (.int .i64 r3)).setCell ⟨D, 2, none⟩ (.int .i64 s3)).setCell ⟨D, 3, none⟩ (.int .i64 o3)).setCell ⟨D, 4, none⟩ (.int .i64 f3)) v n g3 M D a3 c3 B3 r3 s3 o3 f3 := by
  have hdlt := hA.dlt
  have hwr : wr.drew.heap.size = wr.heap.size := rfl
  have hs5 := hG.size
  have hgw := hA.gw
  have hdw := hA.dw
  have hb0 := hA.bel.size
  have hd3 : D ≠ g3 := by
    rcases hgg with rfl | h
    · exact hA.dg
    · omega
  have hM := hSt.mlt
  have hdM := hA.dm
  obtain ⟨xs, hxl, hxo, hown⟩ := hA.own
  have hown5 : w5.ownsRow 0 5 1 v (xs.map (Value.int .u8)).length (xs.map (Value.int .u8)) := by
    refine (hown.kept (by_none_drewN wr 1) (by cases hv : v.ownBlock <;> simp)).kept hG ?_
    cases hv : v.ownBlock with
    | none => exact .inl rfl
    | some q => right; have := (hA.far.far q hv).2.1; simp; exact this
  have hset : ∀ {W : World} (i : Nat) (u : Value), W.ownsRow 0 5 1 v (xs.map (Value.int .u8)).length (xs.map (Value.int .u8)) → (W.setCell ⟨D, i, none⟩ u).ownsRow 0 5 1 v (xs.map (Value.int .u8)).length (xs.map (Value.int .u8)) := by
    intro W i u h
    refine h.kept (by_setCell W D i u) ?_
    cases hv : v.ownBlock with
    | none => exact .inl rfl
    | some q => right; have := (hA.far.far q hv).2.2.2.1; simp; omega
  have hDfar : B3 ≠ [] → ∀ b off, a3 = some ⟨b, off, none⟩ → b ≠ D := by
    intro hB b off ha
    rcases haa with ⟨rfl, rfl⟩ | h | ⟨q, h, hq⟩
    · exact hA.far.dfar hB b off ha
    · rw [h] at ha; simp at ha
    · rw [h] at ha; simp at ha; omega
  have hIset : ∀ {W : World} (i : Nat) (u : Value), Ints .u8 W a3 B3 → Ints .u8 (W.setCell ⟨D, i, none⟩ u) a3 B3 := by
    intro W i u h j hj
    obtain ⟨b, off, he, hc⟩ := h j hj
    have hne := hDfar (by intro e; subst e; simp at hj) b off he
    exact ⟨b, off, he, set_far u (by omega) hc⟩
  have hF0 := free_set5 hfr (.slice a3 B3.length c3) (.int .i64 r3) (.int .i64 s3) (.int .i64 o3) (.int .i64 f3)
  have hbel : Below w.heap.size w (((((w5.setCell ⟨D, 0, none⟩ (.slice a3 B3.length c3)).setCell ⟨D, 1, none⟩ (.int .i64 r3)).setCell ⟨D, 2, none⟩ (.int .i64 s3)).setCell ⟨D, 3, none⟩ (.int .i64 o3)).setCell ⟨D, 4, none⟩ (.int .i64 f3)) :=
    ((((((hA.bel.drew).grown hG (by have := hA.bel.drew.size; exact this) (by intro k hk; simp at hk; omega)).setCell (by simpa using hdw) _).setCell (by simpa using hdw) _).setCell (by simpa using hdw) _).setCell (by simpa using hdw) _).setCell (by simpa using hdw) _
  refine ⟨⟨((((hSt.cur.set hd3 hdM 0 _).set hd3 hdM 1 _).set hd3 hdM 2 _).set hd3 hdM 3 _).set hd3 hdM 4 _, ⟨hSt.hol.cap, hSt.hol.max, hIset _ _ (hIset _ _ (hIset _ _ (hIset _ _ (hIset _ _ hSt.hol.ints)))), hSt.hol.oct, hSt.hol.shape⟩, hSt.rle, hSt.len, hSt.sne, hSt.one, by simpa using hM⟩, five_set q _ _ _ _ _, hF0, hbel, ⟨xs, hxl, hxo, hset _ _ (hset _ _ (hset _ _ (hset _ _ (hset _ _ hown5))))⟩, ⟨?_, hDfar⟩, hd3, hdM, by simp; omega, ?_, hdw⟩
  · intro q' hq'
    obtain ⟨f1, f2, f3', f4, f5⟩ := hA.far.far q' hq'
    have hlt := (hown.lt q' hq').2
    refine ⟨f1, ?_, f3', f4, ?_⟩
    · rcases hgg with rfl | h
      · exact f2
      · omega
    · intro hB b off ha
      rcases haa with ⟨rfl, rfl⟩ | h | ⟨q2, h, hq2⟩
      · exact f5 hB b off ha
      · rw [h] at ha; simp at ha
      · rw [h] at ha; simp at ha; omega
  · rcases hgg with rfl | h
    · exact hgw
    · omega

set_option maxRecDepth 100000 in
set_option maxHeartbeats 4000000 in
theorem CursorReads_walk (b : List Int) (a d : Option Addr) (c len e : Nat) (w : World) (hH : Holds w a c b) (hl : len ≤ 9223372036854775807) (hd : IsOps w d len) :
    Calls Try.prog 3 #[.slice a b.length c, .slice d len e] w fun e w' => e = .returned (.bool true) ∧ Below w.heap.size w w' := by
  have hp := fun (w : World) (p : Option Addr) => run_eql_pointer_nil w 26 p ptrCur
  go_enter Try.func3, Try.ntmps3
  go_wp2_with fail
  refine (few_any b a d len c e w hl hd).mono ?_
  rintro e' w' ⟨v, rfl, rfl, hv⟩
  cases v
  · go_wp2_with fail
    refine (sure2_any _).mono ?_
    rintro e w5 ⟨rfl, hz⟩
    go_wp2
    go_ret
    exact ⟨rfl, hz⟩
  · obtain ⟨hb, hlen⟩ := hv rfl
    clear hv
    have hI := hH.ints
    go_wp2_with (at_builtin; refine wp_app_ints rfl (.tmp 17) (.tmp 18) rfl elemU8 rfl (own_emptyI _ _ .u8) rfl rfl (hI.below (below_alloc _ _)) (List.nil_append b) ?_ ?_ ?_; omega; omega; intro a5 c5 w1 h1 h2 hI5 hg5)
    have hF := hg5.first
    clear hg5
    refine (new_any b a5 c5 514 518 w1 (by omega) hH.oct hI5).mono ?_
    rintro e' w2 ⟨g, rfl, hC, hB, hg, hg2⟩
    go_wp2_with fail
    refine (refNew_any w2 a b.length c 514 518).mono ?_
    rintro e' w3 ⟨rfl, hB3⟩
    have hS := at_start hH hb hF hC hB hg hg2 hB3
    generalize hM : w1.heap.size = M at hS
    generalize hD : w3.heap.size = D at hS
    have HD := hid hD
    clear hM hD hF hC hB hg hg2 hB3 hI5 hI h1 h2
    go_wp2
    rw [HD.out]
    go_loopw [6, 8] (fun cp i wr => ∃ (k g2 : Nat) (a2 : Option Addr) (c2 : Nat) (B2 : List Int) (r2 : Nat) (s2 o2 f2 : Int), k ≤ len ∧ i = .int .i64 k ∧ cp = .pointer (some ⟨g2, 0, none⟩) ∧ At w wr (.slice a5 b.length c5) b.length g2 M D a2 c2 B2 r2 s2 o2 f2) (fun _ i _ => len - (intOf i).toNat)
    case atStart => exact ⟨0, g, a, c, b, 0, 514, 518, 0, Nat.zero_le _, rfl, rfl, hS⟩
    case round =>
      clear hS
      obtain ⟨k, g2, a2, c2, B2, r2, s2, o2, f2, hk, rfl, rfl, hA⟩ := hrel
      by_cases hlt : k < len
      · obtain ⟨b1, off, kk, nn, aw, lw, cw, zs, rfl, c0, c1, c2', hrow⟩ := (hd.below hA.bel) k hlt
        have hb1 : b1 < w.heap.size := by
          obtain ⟨b1', off', _, _, _, _, _, _, he, c0', _⟩ := hd k hlt
          simp at he
          obtain ⟨rfl, rfl⟩ := he
          exact World.block_lt_of_cell? w _ c0'
        obtain ⟨p0, p1, p2, p3, p4⟩ := hA.five
        have hfr := hA.free
        have hk2 : (k : Int) < (len : Int) := by omega
        have hk3 : (0 : Int) ≤ (k : Int) := by omega
        have hgw := hA.gw
        have hdw := hA.dw
        have hdg := hA.dg
        have nD : some D ≠ some g2 := by simp; exact hdg
        go_upto_region 11 with fail
        go_cut [6, 9] (fun cp ok wx => ∃ (g3 : Nat) (a3 : Option Addr) (c3 : Nat) (B3 : List Int) (r3 : Nat) (s3 o3 f3 : Int), cp = .pointer (some ⟨g3, 0, none⟩) ∧ ok = .bool true ∧ At w wx (.slice a5 b.length c5) b.length g3 M D a3 c3 B3 r3 s3 o3 f3)
        case first =>
          go_region_with ((go_at_call 10; refine (op_any _ g2 M a2 c2 B2 r2 s2 o2 f2 kk nn aw lw cw zs (hA.st.drew) (isRow_below hrow (below_drew _))).mono ?_; rintro e' w5 ⟨g3, a3, c3, B3, r3, s3, o3, f3, rfl, hSt, hG, hgg, haa⟩; obtain ⟨q0, q1, q2, q3, q4⟩ := (Five.drew hA.five).by hG nD; have hfr5 := free_by (b := D) (free_below hfr hA.dlt (below_drew _)) (by have := hA.dlt; simp; omega) hG nD))
          all_goals
            go_wp2_with fail
            go_meet
            exact ⟨g3, a3, c3, B3, r3, s3, o3, f3, rfl, rfl, at_step hA hSt hG hgg haa ⟨q0, q1, q2, q3, q4⟩ hfr5⟩
        case rest =>
          obtain ⟨g3, a3, c3, B3, r3, s3, o3, f3, rfl, rfl, hA3⟩ := hcut
          clear c0 c1 c2' hrow p0 p1 p2 p3 p4 hfr hgw hdw hdg nD hA
          obtain ⟨rest, hrest⟩ : ∃ l, l = B3.drop r3 := ⟨_, rfl⟩
          have HRE := hid hrest
          clear hrest
          go_upto_region 12 with fail
          go_cut [10] (fun lk wx => Looked wx f3 rest lk ∧ At w wx (.slice a5 b.length c5) b.length g3 M D a3 c3 B3 r3 s3 o3 f3)
          case first =>
            by_cases hf : f3 = 0
            · subst hf
              go_wp2_with fail
              have hLk := hA3.st.cur.look_ok
              rw [← HRE.out] at hLk
              refine hLk.mono ?_
              clear hLk
              rintro e' w7 ⟨rfl, hF7⟩
              obtain ⟨_, _, he, _, _, hI7⟩ := own_ints hF7.own
              simp only [Value.slice.injEq] at he
              obtain ⟨rfl, _, rfl⟩ := he
              have hL : Hid (Looked w7 0 rest (.slice (some ⟨wc.heap.size, 0, none⟩) rest.length rest.length)) := .inl ⟨rfl, _, _, _, rfl, rfl, hI7⟩
              have hA7 := at_below hA3 hF7.bel
              clear hF7 hI7
              go_wp2_with fail
              go_meet
              exact ⟨hL.out, hA7⟩
            · have H := hid hf
              clear hf
              go_wp2_with fail
              refine (hA3.st.cur.look_late H.out).mono ?_
              rintro e' w7 ⟨rfl, rfl⟩
              go_wp2_with fail
              go_meet
              exact ⟨.inr ⟨H.out, rfl⟩, hA3⟩
          case rest =>
            obtain ⟨hL, hA4⟩ := hcut
            clear hA3
            go_upto_region 13 with fail
            go_cut [67] (fun s wx => s = .bool false ∧ At w wx (.slice a5 b.length c5) b.length g3 M D a3 c3 B3 r3 s3 o3 f3)
            case first =>
              obtain ⟨p0, p1, p2, p3, p4⟩ := hA4.five
              rcases hL with ⟨rfl, a4, m4, c4, rfl, hm4, hI4⟩ | ⟨hf, rfl⟩
              · have hcap := hA4.st.hol.cap
                have hmax := hA4.st.hol.max
                have hrle := hA4.st.rle
                have hlen3 := hA4.st.len
                have hrl : (r3 : Int) ≤ (B3.length : Int) := by omega
                have hml : rest.length = B3.length - r3 := by rw [HRE.out, List.length_drop]
                have HML := hid hml
                have HM4 := hid hm4
                have hl9 : rest.length ≤ 2000 := by omega
                rcases rest_slice wc a3 c3 B3 hA4.st.hol r3 hA4.st.rle with ⟨hcr, hnil⟩ | ⟨hcr, hrc, b9, off9, rfl, hI9⟩
                · have hr0 : rest = [] := by rw [HRE.out, hnil]
                  have PB := fun a9 c9 c8 => bytes_at rest rest a4 a9 m4 0 c8 c9 wc hm4 (by rw [hr0]; rfl) (by omega) (by omega) hI4 (by rw [hr0]; exact Ints.nil _ _ _)
                  rw [beq_rfl] at PB
                  have HPB := hid PB
                  have hBc : c3 ≤ B3.length := by omega
                  have hBc2 : B3.length ≤ r3 := by omega
                  have HCR := hid hcr
                  clear PB hm4 hml hr0 hnil hcr
                  go_wp2_with fail
                  refine (HPB.out _ _ _).mono ?_
                  rintro e' w8 ⟨rfl, hB8⟩
                  have hA8 := at_below hA4 hB8
                  obtain ⟨t0, t1, t2, t3, t4⟩ := hA8.five
                  clear hB8 HPB
                  go_wp2_with fail
                  go_meet
                  exact ⟨rfl, hA8⟩
                · have PB := fun c9 c8 => bytes_at rest rest a4 (some ⟨b9, off9 + r3, none⟩) m4 (B3.length - r3) c8 c9 wc hm4 hml.symm (by omega) (by omega) hI4 (by rw [HRE.out]; exact hI9)
                  rw [beq_rfl] at PB
                  have HPB := hid PB
                  clear PB hm4 hml hI9
                  go_wp2_with fail
                  refine (HPB.out _ _).mono ?_
                  rintro e' w8 ⟨rfl, hB8⟩
                  have hA8 := at_below hA4 hB8
                  obtain ⟨t0, t1, t2, t3, t4⟩ := hA8.five
                  clear hB8 HPB
                  go_wp2_with fail
                  go_meet
                  exact ⟨rfl, hA8⟩
              · have e1 : (f3 == 0) = false := by simpa using hf
                have e2 : (f3 != 0) = true := by simpa using hf
                clear hf
                go_wp2_with fail
                go_meet
                exact ⟨rfl, hA4⟩
            case rest =>
              obtain ⟨rfl, hA5⟩ := hcut
              clear hA4 hL
              obtain ⟨m, hm⟩ : ∃ m, r3 + m = B3.length := ⟨B3.length - r3, by have := hA5.st.rle; omega⟩
              have hrl : rest.length = m := by rw [HRE.out, List.length_drop]; omega
              have b1 : ((rest.length : Int) != (m : Int)) = false := by rw [bne_eq_false_iff_eq]; omega
              have HM := hid hm
              have hlen3 := hA5.st.len
              have hC5 := hA5.st.cur
              rw [← HRE.out] at hC5
              clear hm hrl
              obtain ⟨p0, p1, p2, p3, p4⟩ := hA5.five
              have k0 := Wk.cell p0
              have k1 := Wk.cell p1
              have k2 := Wk.cell p2
              have k3 := Wk.cell p3
              have k4 := Wk.cell p4
              go_upto_region 15 with fail
              go_cut [90] (fun s wx => s = .bool false ∧ At w wx (.slice a5 b.length c5) b.length g3 M D a3 c3 B3 r3 s3 o3 f3)
              case first =>
                refine wp_region_wk (by kernel_rfl) (by kernel_rfl) ?_
                repeat (go_big_quiet_step ((first | (go_at_call 13; exact Wk.same ((hC5.below (Wk.bel _)).err)) | (go_at_call 14; exact Wk.same ((hC5.below (Wk.bel _)).left)) | (go_at_call 16; exact Wk.same ((hC5.below (Wk.bel _)).pos)) | (go_at_call 15; exact Wk.call (refLeft_nat _ a3 B3.length c3 r3 m s3 o3 f3 HM.out (by omega))))))
                refine wpQuiet_nil ?_
                rintro w9 ⟨m9, rfl⟩
                go_wp2_with fail
                go_meet
                exact ⟨rfl, at_below hA5 m9.bel⟩
              case rest =>
                obtain ⟨rfl, hA6⟩ := hcut
                clear hA5 hC5 p0 p1 p2 p3 p4 k0 k1 k2 k3 k4
                go_wp2
                go_loopw [11] (fun j wx => ∃ jj : Nat, jj ≤ b.length ∧ j = .int .i64 jj ∧ At w wx (.slice a5 b.length c5) b.length g3 M D a3 c3 B3 r3 s3 o3 f3) (fun j _ => b.length - (intOf j).toNat)
                case atStart => exact ⟨0, Nat.zero_le _, rfl, hA6⟩
                case round =>
                  clear hA6
                  obtain ⟨jj, hjj, rfl, hA7⟩ := hrel
                  by_cases hj2 : jj < b.length
                  · obtain ⟨O, x, rfl, hcx, hfx, x0, x1, hAll⟩ := at_own hA7 hj2
                    have hj3 : (jj : Int) < (b.length : Int) := by omega
                    have HAll := hid hAll
                    clear hAll
                    go_wp2
                    go_roundw
                    case rel => exact ⟨jj + 1, by omega, by go_num, HAll.out _ (by omega) (by omega)⟩
                    case measure => simp [intOf]; omega
                  · go_wp2
                    go_roundw
                    case rel => exact ⟨k + 1, g3, a3, c3, B3, r3, s3, o3, f3, by omega, by go_num, rfl, hA7⟩
                    case measure => simp [intOf]; omega
      · go_wp2_with fail
        refine (sure2_any _).mono ?_
        rintro e w5 ⟨rfl, hz⟩
        go_wp2
        go_ret
        exact ⟨rfl, below_more hA.bel hz⟩
end Go.Proofs.Ytgnmkdcoglbafaa
