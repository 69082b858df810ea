/- The document's table of fields, and a field out of it. -/
import Derived.Test.YtehgjenmcjgpnaaDoorFldC
namespace Go.Proofs.YtehgjenmcjgpnaaDoor
open Go.RowKit

/-- the slices' blocks that the document's table lays -/
def valObjs : List Fld → List Obj
  | [] => []
  | f :: r => if f.v.isEmpty then valObjs r else .cells (f.v.map (Value.int .u64)).toArray 42 :: valObjs r
/-- the slice of values in a row of the document's table -/
def valV (s i : Nat) (f : Fld) : Value := if f.v.isEmpty then .slice none 0 0 else .slice (some ⟨s + i, 0, none⟩) f.v.length f.v.length
def nextI (i : Nat) (f : Fld) : Nat := if f.v.isEmpty then i else i + 1
/-- the cells of the document's table -/
def tableC (s : Nat) : Nat → List Fld → List Value
  | _, [] => []
  | i, f :: r => .string f.nm :: .int .i64 f.b :: .int .i64 f.z :: .bool f.m :: .int .i64 f.d :: valV s i f :: tableC s (nextI i f) r
def tableO (s : Nat) : List Obj := .cells (tableC s 0 fldT).toArray 29 :: (valObjs fldT).reverse

theorem refAll_run (w : World) :
    Calls Tryd.prog 23 #[] w fun e w' => e = .returned (.slice (some ⟨w.heap.size + 31, 0, none⟩) 40 40) ∧ w' = laidOn w (tableO w.heap.size) :=
  callV_sound (by kernel_rfl)

/-- a row of the document's table in memory: its six cells, and the slice that the last one is -/
structure RowAt (w : World) (b off : Nat) (f : Fld) (v : Value) : Prop where
  c0 : w.cell? ⟨b, off, none⟩ = some (.string f.nm)
  c1 : w.cell? ⟨b, off + 1, none⟩ = some (.int .i64 f.b)
  c2 : w.cell? ⟨b, off + 2, none⟩ = some (.int .i64 f.z)
  c3 : w.cell? ⟨b, off + 3, none⟩ = some (.bool f.m)
  c4 : w.cell? ⟨b, off + 4, none⟩ = some (.int .i64 f.d)
  c5 : w.cell? ⟨b, off + 5, none⟩ = some v
  ints : U64s7 w v f.v
/-- the document's table in memory -/
def TableAt (B : Nat) (w : World) (b : Nat) : Prop := B ≤ b ∧ ∀ i, i < 40 → ∃ v, RowAt w b (i * 6) (fldT.getD i fldNone) v ∧ ∀ g, v.ownBlock = some g → B ≤ g
theorem RowAt.below {w w' : World} {b off : Nat} {f : Fld} {v : Value} (h : RowAt w b off f v) (hb : Below w.heap.size w w') : RowAt w' b off f v :=
  ⟨cell_keep h.c0 hb, cell_keep h.c1 hb, cell_keep h.c2 hb, cell_keep h.c3 hb, cell_keep h.c4 hb, cell_keep h.c5 hb, h.ints.below hb⟩
theorem TableAt.below {B b : Nat} {w w' : World} (h : TableAt B w b) (hb : Below w.heap.size w w') : TableAt B w' b :=
  ⟨h.1, fun i hi => let ⟨v, h1, h2⟩ := h.2 i hi; ⟨v, h1.below hb, h2⟩⟩

theorem laidOn_block {w : World} {os : List Obj} {k : Nat} {o : Obj} (h : os.reverse[k]? = some o) : (laidOn w os).heap[w.heap.size + k]? = some o := by
  induction os with
  | nil => simp at h
  | cons x os ih =>
    show ((laidOn w os).alloc x).heap[w.heap.size + k]? = some o
    rw [List.reverse_cons] at h
    rcases Nat.lt_or_ge k os.length with hk | hk
    · rw [List.getElem?_append_left (by simpa using hk)] at h
      have := ih h
      rw [_root_.Go.heap_alloc_old _ _ (by rw [laidOn_size]; omega)]
      exact this
    · rw [List.getElem?_append_right (by simpa using hk)] at h
      have hk2 : k = os.length := by
        rcases Nat.eq_or_lt_of_le hk with e | e
        · exact e.symm
        · rw [List.getElem?_eq_none (by simp; omega)] at h; simp at h
      subst hk2
      simp at h
      subst h
      rw [← laidOn_size]
      exact heap_alloc_new _ _

theorem ints_block {w : World} {b : Nat} {l : List Int} {t : TypeId} (h : w.heap[b]? = some (.cells (l.map (Value.int .u64)).toArray t (0, 0))) : Ints .u64 w (some ⟨b, 0, none⟩) l := by
  intro i hi
  refine ⟨b, 0, rfl, ?_⟩
  rw [Nat.zero_add]
  refine (BoxL.of_block h).cell i _ ?_
  simp [List.getElem?_eq_getElem hi]

theorem forty_nat {n : Nat} (h : n < 40) : n = 0 ∨ n = 1 ∨ n = 2 ∨ n = 3 ∨ n = 4 ∨ n = 5 ∨ n = 6 ∨ n = 7 ∨ n = 8 ∨ n = 9 ∨ n = 10 ∨ n = 11 ∨ n = 12 ∨ n = 13 ∨ n = 14 ∨ n = 15 ∨ n = 16 ∨ n = 17 ∨ n = 18 ∨ n = 19 ∨ n = 20 ∨ n = 21 ∨ n = 22 ∨ n = 23 ∨ n = 24 ∨ n = 25 ∨ n = 26 ∨ n = 27 ∨ n = 28 ∨ n = 29 ∨ n = 30 ∨ n = 31 ∨ n = 32 ∨ n = 33 ∨ n = 34 ∨ n = 35 ∨ n = 36 ∨ n = 37 ∨ n = 38 ∨ n = 39 := by omega

set_option maxRecDepth 100000 in
theorem table_laid (w : World) : TableAt w.heap.size (laidOn w (tableO w.heap.size)) (w.heap.size + 31) := by
  have hb : (laidOn w (tableO w.heap.size)).heap[w.heap.size + 31]? = some (.cells (tableC w.heap.size 0 fldT).toArray 29) := laidOn_block (by rfl)
  have hB := BoxL.of_block hb
  refine ⟨by omega, fun i hi => ?_⟩
  have hn : ∀ g, (Value.slice none 0 0).ownBlock = some g → w.heap.size ≤ g := by intro g hg; simp [Value.ownBlock] at hg
  have hm : ∀ k n c : Nat, ∀ g, (Value.slice (some ⟨w.heap.size + k, 0, none⟩) n c).ownBlock = some g → w.heap.size ≤ g := by intro k n c g hg; simp [Value.ownBlock] at hg; omega
  have hv : ∀ k l, l ≠ [] → (tableO w.heap.size).reverse[k]? = some (.cells (l.map (Value.int .u64)).toArray 42) → U64s7 (laidOn w (tableO w.heap.size)) (.slice (some ⟨w.heap.size + k, 0, none⟩) l.length l.length) l :=
    fun k l _ h => ⟨_, _, rfl, ints_block (laidOn_block h)⟩
  have h0 : U64s7 (laidOn w (tableO w.heap.size)) (.slice none 0 0) [] := ⟨none, 0, rfl, Ints.nil _ _ _⟩
  rcases forty_nat hi with rfl | rfl | rfl | rfl | rfl | rfl | rfl | rfl | rfl | rfl | rfl | rfl | rfl | rfl | rfl | rfl | rfl | rfl | rfl | rfl | rfl | rfl | rfl | rfl | rfl | rfl | rfl | rfl | rfl | rfl | rfl | rfl | rfl | rfl | rfl | rfl | rfl | rfl | rfl | rfl
  · exact ⟨_, ⟨hB.cell _ _ rfl, hB.cell _ _ rfl, hB.cell _ _ rfl, hB.cell _ _ rfl, hB.cell _ _ rfl, hB.cell _ _ rfl, h0⟩, hn⟩
  · exact ⟨_, ⟨hB.cell _ _ rfl, hB.cell _ _ rfl, hB.cell _ _ rfl, hB.cell _ _ rfl, hB.cell _ _ rfl, hB.cell _ _ rfl, h0⟩, hn⟩
  · exact ⟨_, ⟨hB.cell _ _ rfl, hB.cell _ _ rfl, hB.cell _ _ rfl, hB.cell _ _ rfl, hB.cell _ _ rfl, hB.cell _ _ rfl, h0⟩, hn⟩
  · exact ⟨_, ⟨hB.cell _ _ rfl, hB.cell _ _ rfl, hB.cell _ _ rfl, hB.cell _ _ rfl, hB.cell _ _ rfl, hB.cell _ _ rfl, h0⟩, hn⟩
  · exact ⟨_, ⟨hB.cell _ _ rfl, hB.cell _ _ rfl, hB.cell _ _ rfl, hB.cell _ _ rfl, hB.cell _ _ rfl, hB.cell _ _ rfl, h0⟩, hn⟩
  · exact ⟨_, ⟨hB.cell _ _ rfl, hB.cell _ _ rfl, hB.cell _ _ rfl, hB.cell _ _ rfl, hB.cell _ _ rfl, hB.cell _ _ rfl, h0⟩, hn⟩
  · exact ⟨_, ⟨hB.cell _ _ rfl, hB.cell _ _ rfl, hB.cell _ _ rfl, hB.cell _ _ rfl, hB.cell _ _ rfl, hB.cell _ _ rfl, h0⟩, hn⟩
  · exact ⟨_, ⟨hB.cell _ _ rfl, hB.cell _ _ rfl, hB.cell _ _ rfl, hB.cell _ _ rfl, hB.cell _ _ rfl, hB.cell _ _ rfl, h0⟩, hn⟩
  · exact ⟨_, ⟨hB.cell _ _ rfl, hB.cell _ _ rfl, hB.cell _ _ rfl, hB.cell _ _ rfl, hB.cell _ _ rfl, hB.cell _ _ rfl, hv 0 [2048, 34525] (by decide) rfl⟩, hm _ _ _⟩
  · exact ⟨_, ⟨hB.cell _ _ rfl, hB.cell _ _ rfl, hB.cell _ _ rfl, hB.cell _ _ rfl, hB.cell _ _ rfl, hB.cell _ _ rfl, hv 1 [2048, 34525] (by decide) rfl⟩, hm _ _ _⟩
  · exact ⟨_, ⟨hB.cell _ _ rfl, hB.cell _ _ rfl, hB.cell _ _ rfl, hB.cell _ _ rfl, hB.cell _ _ rfl, hB.cell _ _ rfl, hv 2 [2048, 34525] (by decide) rfl⟩, hm _ _ _⟩
  · exact ⟨_, ⟨hB.cell _ _ rfl, hB.cell _ _ rfl, hB.cell _ _ rfl, hB.cell _ _ rfl, hB.cell _ _ rfl, hB.cell _ _ rfl, hv 3 [2048] (by decide) rfl⟩, hm _ _ _⟩
  · exact ⟨_, ⟨hB.cell _ _ rfl, hB.cell _ _ rfl, hB.cell _ _ rfl, hB.cell _ _ rfl, hB.cell _ _ rfl, hB.cell _ _ rfl, hv 4 [2048] (by decide) rfl⟩, hm _ _ _⟩
  · exact ⟨_, ⟨hB.cell _ _ rfl, hB.cell _ _ rfl, hB.cell _ _ rfl, hB.cell _ _ rfl, hB.cell _ _ rfl, hB.cell _ _ rfl, hv 5 [6] (by decide) rfl⟩, hm _ _ _⟩
  · exact ⟨_, ⟨hB.cell _ _ rfl, hB.cell _ _ rfl, hB.cell _ _ rfl, hB.cell _ _ rfl, hB.cell _ _ rfl, hB.cell _ _ rfl, hv 6 [6] (by decide) rfl⟩, hm _ _ _⟩
  · exact ⟨_, ⟨hB.cell _ _ rfl, hB.cell _ _ rfl, hB.cell _ _ rfl, hB.cell _ _ rfl, hB.cell _ _ rfl, hB.cell _ _ rfl, hv 7 [17] (by decide) rfl⟩, hm _ _ _⟩
  · exact ⟨_, ⟨hB.cell _ _ rfl, hB.cell _ _ rfl, hB.cell _ _ rfl, hB.cell _ _ rfl, hB.cell _ _ rfl, hB.cell _ _ rfl, hv 8 [17] (by decide) rfl⟩, hm _ _ _⟩
  · exact ⟨_, ⟨hB.cell _ _ rfl, hB.cell _ _ rfl, hB.cell _ _ rfl, hB.cell _ _ rfl, hB.cell _ _ rfl, hB.cell _ _ rfl, hv 9 [132] (by decide) rfl⟩, hm _ _ _⟩
  · exact ⟨_, ⟨hB.cell _ _ rfl, hB.cell _ _ rfl, hB.cell _ _ rfl, hB.cell _ _ rfl, hB.cell _ _ rfl, hB.cell _ _ rfl, hv 10 [132] (by decide) rfl⟩, hm _ _ _⟩
  · exact ⟨_, ⟨hB.cell _ _ rfl, hB.cell _ _ rfl, hB.cell _ _ rfl, hB.cell _ _ rfl, hB.cell _ _ rfl, hB.cell _ _ rfl, hv 11 [1] (by decide) rfl⟩, hm _ _ _⟩
  · exact ⟨_, ⟨hB.cell _ _ rfl, hB.cell _ _ rfl, hB.cell _ _ rfl, hB.cell _ _ rfl, hB.cell _ _ rfl, hB.cell _ _ rfl, hv 12 [1] (by decide) rfl⟩, hm _ _ _⟩
  · exact ⟨_, ⟨hB.cell _ _ rfl, hB.cell _ _ rfl, hB.cell _ _ rfl, hB.cell _ _ rfl, hB.cell _ _ rfl, hB.cell _ _ rfl, hv 13 [2054] (by decide) rfl⟩, hm _ _ _⟩
  · exact ⟨_, ⟨hB.cell _ _ rfl, hB.cell _ _ rfl, hB.cell _ _ rfl, hB.cell _ _ rfl, hB.cell _ _ rfl, hB.cell _ _ rfl, hv 14 [2054] (by decide) rfl⟩, hm _ _ _⟩
  · exact ⟨_, ⟨hB.cell _ _ rfl, hB.cell _ _ rfl, hB.cell _ _ rfl, hB.cell _ _ rfl, hB.cell _ _ rfl, hB.cell _ _ rfl, hv 15 [2054] (by decide) rfl⟩, hm _ _ _⟩
  · exact ⟨_, ⟨hB.cell _ _ rfl, hB.cell _ _ rfl, hB.cell _ _ rfl, hB.cell _ _ rfl, hB.cell _ _ rfl, hB.cell _ _ rfl, hv 16 [2054] (by decide) rfl⟩, hm _ _ _⟩
  · exact ⟨_, ⟨hB.cell _ _ rfl, hB.cell _ _ rfl, hB.cell _ _ rfl, hB.cell _ _ rfl, hB.cell _ _ rfl, hB.cell _ _ rfl, hv 17 [2054] (by decide) rfl⟩, hm _ _ _⟩
  · exact ⟨_, ⟨hB.cell _ _ rfl, hB.cell _ _ rfl, hB.cell _ _ rfl, hB.cell _ _ rfl, hB.cell _ _ rfl, hB.cell _ _ rfl, hv 18 [34525] (by decide) rfl⟩, hm _ _ _⟩
  · exact ⟨_, ⟨hB.cell _ _ rfl, hB.cell _ _ rfl, hB.cell _ _ rfl, hB.cell _ _ rfl, hB.cell _ _ rfl, hB.cell _ _ rfl, hv 19 [34525] (by decide) rfl⟩, hm _ _ _⟩
  · exact ⟨_, ⟨hB.cell _ _ rfl, hB.cell _ _ rfl, hB.cell _ _ rfl, hB.cell _ _ rfl, hB.cell _ _ rfl, hB.cell _ _ rfl, hv 20 [34525] (by decide) rfl⟩, hm _ _ _⟩
  · exact ⟨_, ⟨hB.cell _ _ rfl, hB.cell _ _ rfl, hB.cell _ _ rfl, hB.cell _ _ rfl, hB.cell _ _ rfl, hB.cell _ _ rfl, hv 21 [58] (by decide) rfl⟩, hm _ _ _⟩
  · exact ⟨_, ⟨hB.cell _ _ rfl, hB.cell _ _ rfl, hB.cell _ _ rfl, hB.cell _ _ rfl, hB.cell _ _ rfl, hB.cell _ _ rfl, hv 22 [58] (by decide) rfl⟩, hm _ _ _⟩
  · exact ⟨_, ⟨hB.cell _ _ rfl, hB.cell _ _ rfl, hB.cell _ _ rfl, hB.cell _ _ rfl, hB.cell _ _ rfl, hB.cell _ _ rfl, hv 23 [135, 136] (by decide) rfl⟩, hm _ _ _⟩
  · exact ⟨_, ⟨hB.cell _ _ rfl, hB.cell _ _ rfl, hB.cell _ _ rfl, hB.cell _ _ rfl, hB.cell _ _ rfl, hB.cell _ _ rfl, hv 24 [135] (by decide) rfl⟩, hm _ _ _⟩
  · exact ⟨_, ⟨hB.cell _ _ rfl, hB.cell _ _ rfl, hB.cell _ _ rfl, hB.cell _ _ rfl, hB.cell _ _ rfl, hB.cell _ _ rfl, hv 25 [136] (by decide) rfl⟩, hm _ _ _⟩
  · exact ⟨_, ⟨hB.cell _ _ rfl, hB.cell _ _ rfl, hB.cell _ _ rfl, hB.cell _ _ rfl, hB.cell _ _ rfl, hB.cell _ _ rfl, hv 26 [34887, 34888] (by decide) rfl⟩, hm _ _ _⟩
  · exact ⟨_, ⟨hB.cell _ _ rfl, hB.cell _ _ rfl, hB.cell _ _ rfl, hB.cell _ _ rfl, hB.cell _ _ rfl, hB.cell _ _ rfl, hv 27 [34887, 34888] (by decide) rfl⟩, hm _ _ _⟩
  · exact ⟨_, ⟨hB.cell _ _ rfl, hB.cell _ _ rfl, hB.cell _ _ rfl, hB.cell _ _ rfl, hB.cell _ _ rfl, hB.cell _ _ rfl, hv 28 [34887, 34888] (by decide) rfl⟩, hm _ _ _⟩
  · exact ⟨_, ⟨hB.cell _ _ rfl, hB.cell _ _ rfl, hB.cell _ _ rfl, hB.cell _ _ rfl, hB.cell _ _ rfl, hB.cell _ _ rfl, hv 29 [35047] (by decide) rfl⟩, hm _ _ _⟩
  · exact ⟨_, ⟨hB.cell _ _ rfl, hB.cell _ _ rfl, hB.cell _ _ rfl, hB.cell _ _ rfl, hB.cell _ _ rfl, hB.cell _ _ rfl, h0⟩, hn⟩
  · exact ⟨_, ⟨hB.cell _ _ rfl, hB.cell _ _ rfl, hB.cell _ _ rfl, hB.cell _ _ rfl, hB.cell _ _ rfl, hB.cell _ _ rfl, hv 30 [34525] (by decide) rfl⟩, hm _ _ _⟩

theorem fldAll_any (w : World) :
    Calls Tryd.prog 23 #[] w fun e w' => ∃ b, e = .returned (.slice (some ⟨b, 0, none⟩) 40 40) ∧ TableAt w.heap.size w' b ∧ Below w.heap.size w w' :=
  (refAll_run w).mono fun _ _ ⟨he, hw⟩ => ⟨_, he, by rw [hw]; exact table_laid w, by rw [hw]; exact laidOn_below _ _⟩

/-- a field, as the document tells it -/
def refFldV (f : Fld) (v : Value) : Value := .agg #[.string f.nm, .int .i64 f.b, .int .i64 f.z, .bool f.m, .int .i64 f.d, v]
theorem refOf_box (w : World) : ∃ W, w.alloc (.cells #[.string ⟨#[]⟩, .int .i64 0, .int .i64 0, .bool false, .int .i64 0, .slice none 0 0] 29) = W ∧ Below w.heap.size w W ∧ BoxL W w.heap.size [.string ⟨#[]⟩, .int .i64 0, .int .i64 0, .bool false, .int .i64 0, .slice none 0 0] :=
  ⟨_, rfl, below_alloc _ _, BoxL.new _ _ _⟩

set_option maxRecDepth 100000 in
set_option maxHeartbeats 1000000 in
theorem refOf_in (k : Nat) (h : k < 40) (w : World) :
    Calls Tryd.prog 8 #[.int .i64 k] w fun e w' => ∃ v, e = .returned (.tuple #[refFldV (fldT.getD k fldNone) v, .bool true]) ∧ U64s7 w' v (fldT.getD k fldNone).v ∧ Below w.heap.size w w' := by
  obtain ⟨W, hW, hbW, hbox⟩ := refOf_box w
  have HW0 := hid hW
  have hk0 : (0 : Int) ≤ (k : Int) := by omega
  have hk1 : (k : Int) < 40 := by omega
  obtain ⟨f, hf⟩ : ∃ f, fldT.getD k fldNone = f := ⟨_, rfl⟩
  rw [hf]
  have hK := hid h
  have hF := hid hf
  clear h hW hf
  go_enter Tryd.func8, Tryd.ntmps8
  go_wp2_with fail
  rw [HW0.out]
  refine (fldAll_any _).mono ?_
  rintro e w1 ⟨b, rfl, hT, hb⟩
  obtain ⟨hB, hT⟩ := hT
  obtain ⟨v, ⟨r0, r1, r2, r3, r4, r5, hU⟩, hnew⟩ := hT k hK.out
  have hbox1 := hbox.below hb
  obtain ⟨d0, d1, d2, d3, d4, d5⟩ := hbox1.six
  have z := hbox1.free
  have hlt := hbox.lt
  rw [hF.out] at r0 r1 r2 r3 r4 hU
  obtain ⟨a, c, rfl, hI⟩ := hU
  clear hT
  go_wp2_with fail
  have hk := hbox1.set6 (.string f.nm) (.int .i64 f.b) (.int .i64 f.z) (.bool f.m) (.int .i64 f.d) (.slice a f.v.length c)
  obtain ⟨k0, k1, k2, k3, k4, k5⟩ := hk.six
  refine bodyPost_ret (v := .tuple #[refFldV f (.slice a f.v.length c), .bool true]) (by simp [results, Tryd.results8, go_sem, refFldV, k0, k1, k2, k3, k4, k5]) rfl ⟨_, rfl, ⟨_, _, rfl, ?_⟩, ?_⟩
  · have hne : ∀ q : Addr, a = some q → q.block ≠ w.heap.size := by
      rintro q rfl e
      have := hnew q.block rfl
      omega
    exact (((((hI.apart _ hne).apart _ hne).apart _ hne).apart _ hne).apart _ hne).apart _ hne
  · repeat (with_reducible refine Below.setCell ?_ (by simp) _)
    exact below_on hbW hb

set_option maxRecDepth 100000 in
set_option maxHeartbeats 1000000 in
theorem refOf_out (n : Int) (h : ¬ (0 ≤ n ∧ n < 40)) (w : World) :
    Calls Tryd.prog 8 #[.int .i64 n] w fun e w' => e = .returned (.tuple #[refFldV fldNone (.slice none 0 0), .bool false]) ∧ Below w.heap.size w w' := by
  obtain ⟨W, hW, hbW, hbox⟩ := refOf_box w
  have HW0 := hid hW
  clear hW
  have hlt := hbox.lt
  rcases Int.lt_or_le n 0 with hn | hn
  · clear h
    go_enter Tryd.func8, Tryd.ntmps8
    go_wp2_with fail
    rw [HW0.out]
    refine (fldAll_any _).mono ?_
    rintro e w1 ⟨b, rfl, hT, hb⟩
    have hbox1 := hbox.below hb
    obtain ⟨d0, d1, d2, d3, d4, d5⟩ := hbox1.six
    have z := hbox1.free
    clear hT
    go_wp2_with fail
    have hk := hbox1.set6 (.string ⟨#[]⟩) (.int .i64 0) (.int .i64 0) (.bool false) (.int .i64 0) (.slice none 0 0)
    obtain ⟨k0, k1, k2, k3, k4, k5⟩ := hk.six
    refine bodyPost_ret (v := .tuple #[refFldV fldNone (.slice none 0 0), .bool false]) (by simp [results, Tryd.results8, go_sem, refFldV, fldNone, k0, k1, k2, k3, k4, k5]) rfl ⟨rfl, ?_⟩
    repeat (with_reducible refine Below.setCell ?_ (by simp) _)
    exact below_on hbW hb
  · have hn2 : 40 ≤ n := by omega
    clear h
    go_enter Tryd.func8, Tryd.ntmps8
    go_wp2_with fail
    rw [HW0.out]
    refine (fldAll_any _).mono ?_
    rintro e w1 ⟨b, rfl, hT, hb⟩
    have hbox1 := hbox.below hb
    obtain ⟨d0, d1, d2, d3, d4, d5⟩ := hbox1.six
    have z := hbox1.free
    clear hT
    go_wp2_with fail
    have hk := hbox1.set6 (.string ⟨#[]⟩) (.int .i64 0) (.int .i64 0) (.bool false) (.int .i64 0) (.slice none 0 0)
    obtain ⟨k0, k1, k2, k3, k4, k5⟩ := hk.six
    refine bodyPost_ret (v := .tuple #[refFldV fldNone (.slice none 0 0), .bool false]) (by simp [results, Tryd.results8, go_sem, refFldV, fldNone, k0, k1, k2, k3, k4, k5]) rfl ⟨rfl, ?_⟩
    repeat (with_reducible refine Below.setCell ?_ (by simp) _)
    exact below_on hbW hb

theorem refOf_any (n : Int) (w : World) :
    Calls Tryd.prog 8 #[.int .i64 n] w fun e w' => ∃ v, e = .returned (.tuple #[refFldV (fld n) v, .bool (decide (0 ≤ n ∧ n < 40))]) ∧ U64s7 w' v (fld n).v ∧ Below w.heap.size w w' := by
  by_cases h : 0 ≤ n ∧ n < 40
  · obtain ⟨k, rfl⟩ := Int.eq_ofNat_of_zero_le h.1
    have e1 : fld (k : Int) = fldT.getD k fldNone := by unfold fld; rw [if_pos h]; rfl
    rw [e1, decide_eq_true h]
    exact refOf_in k (by omega) w
  · rw [fld_out h, decide_eq_false h]
    exact (refOf_out n h w).mono fun _ _ ⟨he, hb⟩ => ⟨_, he, ⟨_, _, rfl, Ints.nil _ _ _⟩, hb⟩

set_option maxRecDepth 100000 in
set_option maxHeartbeats 1000000 in
theorem fldOf_out (n : Int) (h : ¬ (0 ≤ n ∧ n < 40)) (w : World) :
    Calls Tryd.prog 7 #[.int .i64 n] w fun e w' => e = .returned (.tuple #[fldV fldNone (.slice none 0 0), .bool false]) ∧ Below w.heap.size w w' := by
  have HF := isField_any n
  rw [decide_eq_false h] at HF
  have HF := hid HF
  obtain ⟨W, hW, hbW, hbox⟩ := fldOf_box w
  have HW0 := hid hW
  obtain ⟨d0, d1, d2, d3, d4⟩ := hbox.five
  have z := hbox.free
  have hk := hbox.set5 (.int .i64 0) (.int .i64 0) (.bool false) (.int .i64 0) (.slice none 0 0)
  obtain ⟨k0, k1, k2, k3, k4⟩ := hk.five
  clear h hW
  go_enter Tryd.func7, Tryd.ntmps7
  go_wp2_with fail
  rw [HW0.out]
  refine (HF.out _).mono ?_
  rintro e w' ⟨rfl, rfl⟩
  go_wp2_with fail
  refine bodyPost_ret (v := .tuple #[fldV fldNone (.slice none 0 0), .bool false]) (by simp [results, Tryd.results7, go_sem, fldV, fldNone, k0, k1, k2, k3, k4]) rfl ⟨rfl, ?_⟩
  repeat (with_reducible refine Below.setCell ?_ (by simp) _)
  exact hbW

theorem fldOf_any (n : Int) (w : World) :
    Calls Tryd.prog 7 #[.int .i64 n] w fun e w' => ∃ v, e = .returned (.tuple #[fldV (fld n) v, .bool (decide (0 ≤ n ∧ n < 40))]) ∧ U64s7 w' v (fld n).v ∧ Below w.heap.size w w' := by
  by_cases h : 0 ≤ n ∧ n < 40
  · rw [decide_eq_true h]
    exact fldOf_in n h w
  · rw [fld_out h, decide_eq_false h]
    exact (fldOf_out n h w).mono fun _ _ ⟨he, hb⟩ => ⟨_, he, ⟨_, _, rfl, Ints.nil _ _ _⟩, hb⟩
end Go.Proofs.YtehgjenmcjgpnaaDoor
