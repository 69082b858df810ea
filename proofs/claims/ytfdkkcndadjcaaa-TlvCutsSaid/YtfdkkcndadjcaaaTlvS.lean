/- What must come whatever the input is, of the statements of layer 4. -/
import Derived.Test.YtfdkkcndadjcaaaTlvN
namespace Go.Proofs.Ytfdkkcndadjcaaa
open Go.RowKit

theorem lit_holds (W : World) (l : List Int) (hl : Octets l) (hm : l.length ≤ 9223372036854775807) (T : TypeId) : Holds (W.alloc (.cells (l.map (Value.int .u8)).toArray T)) (some ⟨W.heap.size, 0, none⟩) l.length l :=
  ⟨Nat.le_refl _, hm, ints_lit .u8 W l T, hl, fun _ => ⟨_, _, rfl⟩⟩
theorem may_s : MayS (4 : Nat) (8 : Nat) 263 269 := by refine ⟨?_, ?_, ?_, ?_, ?_, ?_⟩ <;> decide
theorem cut_s1 : cutL 4 8 true 263 269 [0, 1, 0, 6, 9, 9, 0, 0] = .ok [(1, [9, 9])] := by rfl
theorem cut_s2 : cutL 4 8 true 263 269 [0, 1, 0, 6, 9, 9, 0, 1] = .error 269 := by rfl
theorem join_s : joinL 4 8 true [(1, [9, 9])] = .ok [[0, 1, 0, 6, 9, 9, 0, 0]] := by rfl

/-- a call of Cut on bytes that are written out -/
theorem cut_lit (W : World) (l : List Int) (hl : Octets l) (hn : l.length ≤ 1000000000) (cs : Array Value) (hcs : (l.map (Value.int .u8)).toArray = cs) (n g : Nat) (en : l.length = n) (hg : W.heap.size = g) :
    Calls Try.prog 10 #[.agg #[.int .i64 4, .int .i64 8, .bool true, .int .i64 263, .int .i64 269], .slice (some ⟨g, 0, none⟩) n n] (W.alloc (.cells cs 5)) (CutPost (W.alloc (.cells cs 5)) (cutL 4 8 true 263 269 l)) := by
  subst hcs en hg
  exact cut_any _ 4 8 true 263 269 may_s l hn _ _ (lit_holds W l hl (by omega) _)
theorem bytes_lit (W : World) (l m : List Int) (hm : m.length ≤ 1000000000) (hl : l.length ≤ 1000000000) (a : Option Addr) (n c : Nat) (en : n = l.length) (hI : Ints .u8 W a l) (cs : Array Value) (hcs : (m.map (Value.int .u8)).toArray = cs) (k d g : Nat) (ek : m.length = k) (hg : W.heap.size = g) :
    Calls Try.prog 12 #[.slice a n c, .slice (some ⟨g, 0, none⟩) k d] (W.alloc (.cells cs 5)) fun e w' => e = .returned (.bool (l == m)) ∧ Below (W.alloc (.cells cs 5)).heap.size (W.alloc (.cells cs 5)) w' := by
  subst hcs ek hg
  exact bytes_at l m a (some ⟨W.heap.size, 0, none⟩) _ _ _ _ _ en rfl (by omega) (by omega) (hI.below (below_alloc _ _)) (ints_lit .u8 W m _)
theorem join_lit (W : World) (g : Nat) (hg : W.heap.size = g) :
    Calls Try.prog 16 #[.agg #[.int .i64 4, .int .i64 8, .bool true, .int .i64 263, .int .i64 269], .slice (some ⟨g + 1, 0, none⟩) 1 1] ((W.alloc (.cells #[.int .u8 9, .int .u8 9] 5)).alloc (.cells #[.int .i64 1, .slice (some ⟨g, 0, none⟩) 2 2] 28))
      (JoinPost ((W.alloc (.cells #[.int .u8 9, .int .u8 9] 5)).alloc (.cells #[.int .i64 1, .slice (some ⟨g, 0, none⟩) 2 2] 28)) (.ok [[0, 1, 0, 6, 9, 9, 0, 0]])) := by
  subst hg
  have hs : (W.alloc (.cells #[.int .u8 9, .int .u8 9] 5)).heap.size = W.heap.size + 1 := by simp
  have h2 := two_new (W.alloc (.cells #[.int .u8 9, .int .u8 9] 5)) (.int .i64 1) (.slice (some ⟨W.heap.size, 0, none⟩) 2 2) 28
  rw [hs] at h2
  have h := join_any ((W.alloc (.cells #[.int .u8 9, .int .u8 9] 5)).alloc (.cells #[.int .i64 1, .slice (some ⟨W.heap.size, 0, none⟩) 2 2] 28)) 4 8 true 263 269 may_s [⟨1, [9, 9], some ⟨W.heap.size, 0, none⟩, 2⟩] (by simp) (some ⟨W.heap.size + 1, 0, none⟩) 1
    (by
      intro i hi
      obtain rfl : i = 0 := by simpa using hi
      exact ⟨_, 0, rfl, h2.c0, h2.c1⟩)
    (by
      intro x hx
      simp at hx
      subst hx
      exact (ints_lit .u8 W [9, 9] 5).below (below_alloc _ _))
    (by
      intro x hx
      simp at hx
      subst hx
      exact ⟨by simp, by simp, by simp, by simp, by simp, fun _ q hq => by cases hq; simp; omega⟩)
  have e : joinL 4 8 true ([(⟨1, [9, 9], some ⟨W.heap.size, 0, none⟩, 2⟩ : Thing)].map Thing.val) = .ok [[0, 1, 0, 6, 9, 9, 0, 0]] := join_s
  rw [e] at h
  exact h
theorem one_thing {l : List Thing} {t : Int} {x : List Int} (h : l.map Thing.val = [(t, x)]) : ∃ a c, l = [⟨t, x, a, c⟩] := by
  match l, h with
  | [y], h =>
    obtain ⟨t', x', a, c⟩ := y
    simp [Thing.val] at h
    obtain ⟨rfl, rfl⟩ := h
    exact ⟨a, c, rfl⟩
theorem oct_lit {l : List Int} (h : l.all (fun x => decide (0 ≤ x ∧ x ≤ 255)) = true) : Octets l := by
  intro x hx
  have := List.all_eq_true.1 h x hx
  simpa using this

set_option maxRecDepth 100000 in
set_option maxHeartbeats 4000000 in
theorem sure4_any (w : World) : Calls Try.prog 6 #[] w fun e w' => e = .returned (.bool true) ∧ Below w.heap.size w w' := by
  obtain ⟨W1, hW1⟩ : ∃ W1, w.alloc (.cells #[.int .i64 4, .int .i64 8, .bool true, .int .i64 263, .int .i64 269] 24) = W1 := ⟨_, rfl⟩
  have b1 : Below w.heap.size w W1 := by rw [← hW1]; exact below_alloc _ _
  have s1 : W1.heap.size = w.heap.size + 1 := by rw [← hW1]; simp
  have h1 : ShAt W1 w.heap.size 4 8 true 263 269 := by rw [← hW1]; exact ShAt.of_block (t := 24) (_root_.Go.heap_alloc_new w _)
  have HW1 := hid hW1
  have HS1 := hid s1
  clear hW1 s1
  go_enter Try.func6, Try.ntmps6
  go_wp2_with fail
  rw [HW1.out]
  refine (cut_lit W1 [0, 1, 0, 6, 9, 9, 0, 0] (oct_lit (by rfl)) (by decide) _ rfl _ _ rfl HS1.out).mono ?_
  rw [cut_s1]
  rintro e w2 ⟨l, a, c, hl, rfl, hlc, hcm, hit, hok, hfar, hb⟩
  have hB2 := below_more (b1.trans ((below_alloc W1 _).mono b1.size)) hb
  have h2 := (h1.below (below_alloc _ _)).below hb
  obtain ⟨d0, d1, d2, d3, d4⟩ := (h1.below (below_alloc _ _)).below hb
  have hsz : W1.heap.size + 1 ≤ w2.heap.size := by have := hb.size; rw [World.size_alloc] at this; exact this
  have hlt : w.heap.size < w2.heap.size := by have := HS1.out; omega
  have hne : ¬ w.heap.size = w2.heap.size := by omega
  have hne2 : ¬ w.heap.size = w2.heap.size + 1 := by omega
  obtain ⟨ha, hc, rfl⟩ := one_thing hl
  obtain ⟨bb, off, rfl, e0, e1⟩ := hit 0 (by simp)
  have hx := (hok _ (List.mem_singleton.2 rfl)).ints
  simp only [Nat.zero_mul, Nat.add_zero, List.getElem_cons_zero] at e0 e1 hx
  clear hl hit hok hlc hcm hfar
  go_wp2_with fail
  refine (join_lit w2 _ rfl).mono ?_
  rintro e w3 ⟨a3, c3, rfl, hl3, hm3, hI3, _, _, hb3⟩
  have hb23 : Below w2.heap.size w2 w3 := below_more (((Below.refl _ _).alloc (Nat.le_refl _) _).alloc (by simp) _) hb3
  have hB3 := below_more hB2 hb23
  have e0 := cell_keep e0 hb23
  have e1 := cell_keep e1 hb23
  have hx := hx.below hb23
  have h3 := h2.below hb23
  have hsz3 : w2.heap.size ≤ w3.heap.size := hb23.size
  clear d0 d1 d2 d3 d4 hne hne2
  obtain ⟨d0, d1, d2, d3, d4⟩ := h3
  have hlt3 : w.heap.size < w3.heap.size := by omega
  have hne3 : ¬ w.heap.size = w3.heap.size := by omega
  simp only [List.flatten_cons, List.flatten_nil, List.append_nil] at hl3 hI3
  go_wp2_with fail
  refine (cut_lit w3 [0, 1, 0, 6, 9, 9, 0, 1] (oct_lit (by rfl)) (by decide) _ rfl _ _ rfl rfl).mono ?_
  rw [cut_s2]
  rintro e w4 ⟨rfl, hb4⟩
  have hb34 : Below w3.heap.size w3 w4 := below_more (below_alloc _ _) hb4
  have hB4 := below_more hB3 hb34
  have e0 := cell_keep e0 hb34
  have e1 := cell_keep e1 hb34
  have hx := hx.below hb34
  have hI4 := hI3.below hb34
  have hbbl := World.block_lt_of_cell? w4 _ e0
  have hbbl : bb < w4.heap.size := hbbl
  have hbbn : ¬ bb = w4.heap.size := by omega
  go_wp2_with fail
  refine (bytes_lit w4 [9, 9] [9, 9] (by decide) (by decide) ha 2 hc rfl hx _ rfl _ _ _ rfl rfl).mono ?_
  rintro e w5 ⟨rfl, hb5⟩
  have hb45 : Below w4.heap.size w4 w5 := below_more (below_alloc _ _) hb5
  have hB5 := below_more hB4 hb45
  have hI5 := hI4.below hb45
  go_wp2_with fail
  refine (bytes_lit w5 [0, 1, 0, 6, 9, 9, 0, 0] [0, 1, 0, 6, 9, 9, 0, 0] (by decide) (by decide) a3 8 c3 rfl hI5 _ rfl _ _ _ rfl rfl).mono ?_
  rintro e w6 ⟨rfl, hb6⟩
  have hB6 := below_more hB5 (below_more (below_alloc _ _) hb6)
  go_wp2
  go_ret
  exact ⟨rfl, hB6⟩
end Go.Proofs.Ytfdkkcndadjcaaa
