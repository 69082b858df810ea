/- Package need: the order in which values stand. -/
import Derived.Test.YtlikpafjlojagaaNedE
import Derived.Test.YtlikpafjlojagaaMrg7
import Derived.Deep.RegionHeld3
namespace Go.Proofs.Ytlikpafjlojagaa
open Go.RowKit Go.Sort
set_option linter.unusedVariables false

instance entInh : Inhabited Ent9 := ⟨⟨⟨0, 0, false, 0, [], []⟩, none, 0, none, 0⟩⟩
/-- which of two comes first: below 0, if the first does -/
def cmp3 (x y : Int) : Int := if x < y then -1 else if y < x then 1 else 0
def or3 (x y z : Int) : Int := if x ≠ 0 then x else if y ≠ 0 then y else z
def cmp9 (a b : Ox9) : Int := or3 (cmp3 a.C b.C) (cmp3 a.F b.F) (cmp3 a.X b.X)
theorem cmp3_cases (x y : Int) : (cmp3 x y = -1 ∧ x < y) ∨ (cmp3 x y = 0 ∧ x = y) ∨ (cmp3 x y = 1 ∧ y < x) := by
  unfold cmp3
  by_cases h1 : x < y
  · simp [h1]
  · by_cases h2 : y < x
    · simp [h1, h2]
    · simp [h1, h2]; omega
theorem cmp9_iff (a b : Ox9) : cmp9 a b < 0 ↔ before9 a b = true := by
  rw [before_iff]
  unfold cmp9 or3
  rcases cmp3_cases a.C b.C with ⟨e, h⟩ | ⟨e, h⟩ | ⟨e, h⟩ <;> rcases cmp3_cases a.F b.F with ⟨e', h'⟩ | ⟨e', h'⟩ | ⟨e', h'⟩ <;> rcases cmp3_cases a.X b.X with ⟨e2, h2⟩ | ⟨e2, h2⟩ | ⟨e2, h2⟩ <;> simp [e, e', e2] <;> omega
/-- of values in memory -/
def cmpE (a b : Ent9) : Int := cmp9 a.o b.o
theorem ltE (a b : Ent9) : ltOf cmpE a b = before9 a.o b.o := by
  unfold ltOf cmpE
  rw [Bool.eq_iff_iff, decide_eq_true_iff]
  exact cmp9_iff _ _
theorem swoE : SWO (ltOf cmpE) where
  irrefl x := by rw [ltE, before_not]; omega
  trans x y z h1 h2 := by rw [ltE] at *; exact before_trans9 h1 h2
  ntrans x y z h1 h2 := by rw [ltE] at *; exact not_before_trans h2 h1

theorem compareInt_any (x y : Int) (w : World) : Calls Try.prog 44 #[.int .i64 x, .int .i64 y] w fun e w' => e = .returned (.int .i64 (cmp3 x y)) ∧ w' = w := by
  obtain ⟨r, hr⟩ : ∃ r, cmp3 x y = r := ⟨_, rfl⟩
  rw [hr]
  rcases cmp3_cases x y with ⟨e, h⟩ | ⟨e, h⟩ | ⟨e, h⟩
  · obtain rfl : r = -1 := by omega
    clear hr e
    go_enter Try.func44, Try.ntmps44
    go_wp2
    go_ret
    exact ⟨rfl, rfl⟩
  · obtain rfl : r = 0 := by omega
    subst h
    clear hr e
    go_enter Try.func44, Try.ntmps44
    go_wp2
    go_ret
    exact ⟨rfl, rfl⟩
  · obtain rfl : r = 1 := by omega
    have h' : ¬ x < y := by omega
    clear hr e
    go_enter Try.func44, Try.ntmps44
    go_wp2
    go_ret
    exact ⟨rfl, rfl⟩
theorem compareU64_any (x y : Int) (w : World) : Calls Try.prog 45 #[.int .u64 x, .int .u64 y] w fun e w' => e = .returned (.int .i64 (cmp3 x y)) ∧ w' = w := by
  obtain ⟨r, hr⟩ : ∃ r, cmp3 x y = r := ⟨_, rfl⟩
  rw [hr]
  rcases cmp3_cases x y with ⟨e, h⟩ | ⟨e, h⟩ | ⟨e, h⟩
  · obtain rfl : r = -1 := by omega
    clear hr e
    go_enter Try.func45, Try.ntmps45
    go_wp2
    go_ret
    exact ⟨rfl, rfl⟩
  · obtain rfl : r = 0 := by omega
    subst h
    clear hr e
    go_enter Try.func45, Try.ntmps45
    go_wp2
    go_ret
    exact ⟨rfl, rfl⟩
  · obtain rfl : r = 1 := by omega
    have h' : ¬ x < y := by omega
    clear hr e
    go_enter Try.func45, Try.ntmps45
    go_wp2
    go_ret
    exact ⟨rfl, rfl⟩
set_option maxRecDepth 100000 in
theorem cmpOr_any (x y z : Int) (b c : Nat) (w : World) (h0 : w.cell? ⟨b, 0, none⟩ = some (.int .i64 x)) (h1 : w.cell? ⟨b, 1, none⟩ = some (.int .i64 y)) (h2 : w.cell? ⟨b, 2, none⟩ = some (.int .i64 z)) : Calls Try.prog 43 #[.slice (some ⟨b, 0, none⟩) 3 c] w fun e w' => e = .returned (.int .i64 (or3 x y z)) ∧ w' = w := by
  obtain ⟨r, hr⟩ : ∃ r, or3 x y z = r := ⟨_, rfl⟩
  rw [hr]
  have HR := hid hr
  clear hr
  go_enter Try.func43, Try.ntmps43
  go_wp2_with fail
  go_loopg [8] 3 (fun kx s8 wr => wr = w ∧ ∃ (i : Nat), s8 = .int .i64 i ∧ i ≤ 3 ∧ 3 - i ≤ kx ∧ Hid ((0 < i → x = 0) ∧ (1 < i → y = 0) ∧ (2 < i → z = 0)))
  case atStart => exact ⟨rfl, 0, rfl, by omega, by omega, by simp [Hid]⟩
  case round =>
    obtain ⟨rfl, i, rfl, hi, hkx, hz⟩ := hrel
    rcases (show i = 0 ∨ i = 1 ∨ i = 2 ∨ i = 3 by omega) with rfl | rfl | rfl | rfl
    · by_cases hv : x = 0
      · have hb : (x != 0) = false := by simpa using hv
        have HV := hid hv
        clear hv
        go_wp2
        go_roundg 2
        case measure => omega
        case rel => exact ⟨rfl, 1, by first | rfl | go_num, by omega, by omega, by simp [Hid, HV.out]⟩
      · have hb : (x != 0) = true := by simpa using hv
        go_wp2
        go_ret
        refine ⟨?_, rfl⟩
        rw [← HR.out]; simp [or3, hv]
    · by_cases hv : y = 0
      · have hb : (y != 0) = false := by simpa using hv
        have HV := hid hv
        clear hv
        go_wp2
        go_roundg 1
        case measure => omega
        case rel => exact ⟨rfl, 2, by first | rfl | go_num, by omega, by omega, ⟨fun _ => hz.out.1 (by omega), fun _ => HV.out, by omega⟩⟩
      · have hb : (y != 0) = true := by simpa using hv
        go_wp2
        go_ret
        refine ⟨?_, rfl⟩
        rw [← HR.out]; simp [or3, hz.out.1, hv]
    · by_cases hv : z = 0
      · have hb : (z != 0) = false := by simpa using hv
        have HV := hid hv
        clear hv
        go_wp2
        go_roundg 0
        case measure => omega
        case rel => exact ⟨rfl, 3, by first | rfl | go_num, by omega, by omega, ⟨fun _ => hz.out.1 (by omega), fun _ => hz.out.2.1 (by omega), fun _ => HV.out⟩⟩
      · have hb : (z != 0) = true := by simpa using hv
        go_wp2
        go_ret
        refine ⟨?_, rfl⟩
        rw [← HR.out]; simp [or3, hz.out.1, hz.out.2.1]
    · go_wp2
      go_ret
      refine ⟨?_, rfl⟩
      rw [← HR.out]; simp [or3, hz.out.1, hz.out.2.1, hz.out.2.2]

set_option maxRecDepth 100000 in
set_option maxHeartbeats 2000000 in
theorem order_any (a b : Ent9) (w : World) : Calls Try.prog 30 #[a.val, b.val] w fun e w' => e = .returned (.int .i64 (cmpE a b)) ∧ ∃ q os', w' = grow (w.drewN q) os' := by
  obtain ⟨⟨C, F, H, X, v, m⟩, va, vc, ma, mc⟩ := a
  obtain ⟨⟨C', F', H', X', v', m'⟩, va', vc', ma', mc'⟩ := b
  obtain ⟨r0, hr0⟩ : ∃ r, cmp3 C C' = r := ⟨_, rfl⟩
  obtain ⟨r1, hr1⟩ : ∃ r, cmp3 F F' = r := ⟨_, rfl⟩
  obtain ⟨r2, hr2⟩ : ∃ r, cmp3 X X' = r := ⟨_, rfl⟩
  have e : cmpE ⟨⟨C, F, H, X, v, m⟩, va, vc, ma, mc⟩ ⟨⟨C', F', H', X', v', m'⟩, va', vc', ma', mc'⟩ = or3 r0 r1 r2 := by rw [← hr0, ← hr1, ← hr2]; rfl
  rw [e]
  have c0 := fun w => compareInt_any C C' w
  have c1 := fun w => compareInt_any F F' w
  have c2 := fun w => compareU64_any X X' w
  rw [hr0] at c0
  rw [hr1] at c1
  rw [hr2] at c2
  obtain ⟨r, hr⟩ : ∃ r, or3 r0 r1 r2 = r := ⟨_, rfl⟩
  have HR := hid hr
  rw [hr]
  clear e hr0 hr1 hr2 hr
  unfold Ent9.val
  simp only
  obtain ⟨W, hW, hbW, hx, hy⟩ := two_oxm w C F H X va v.length vc ma m.length mc C' F' H' X' va' v'.length vc' ma' m'.length mc'
  have HG : Hid (∃ os, W = grow w os) := ⟨_, by rw [← hW, alloc_eq_grow, alloc_eq_grow, grow_grow]⟩
  have HW := hid hW
  have hxD := hx.below (below_drew8 W)
  have hyD := hy.below (below_drew8 W)
  obtain ⟨d0, d1, d2, d3, d4, d5⟩ := hxD.six
  obtain ⟨e0, e1, e2, e3, e4, e5⟩ := hyD.six
  have s1 : w.heap.size < W.heap.size := hx.lt
  have s2 : w.heap.size + 1 < W.heap.size := hy.lt
  have KC : Hid (∀ o : Obj, (fun w' => w'.cell? ⟨w.heap.size, 0, none⟩ = some (.int .i64 C) ∧ w'.cell? ⟨w.heap.size, 1, none⟩ = some (.int .i64 F) ∧ w'.cell? ⟨w.heap.size, 3, none⟩ = some (.int .u64 X) ∧ w'.cell? ⟨w.heap.size + 1, 0, none⟩ = some (.int .i64 C') ∧ w'.cell? ⟨w.heap.size + 1, 1, none⟩ = some (.int .i64 F') ∧ w'.cell? ⟨w.heap.size + 1, 3, none⟩ = some (.int .u64 X')) ((W.alloc o).drew)) := by
    show _
    intro o
    obtain ⟨a0, a1, _, a3, _, _⟩ := ((hx.alloc o).drew).six
    obtain ⟨b0, b1, _, b3, _, _⟩ := ((hy.alloc o).drew).six
    exact ⟨a0, a1, a3, b0, b1, b3⟩
  obtain ⟨f0, f1, _, f3, _, _⟩ := hx.six
  obtain ⟨g0, g1, _, g3, _, _⟩ := hy.six
  have n1 : ¬ w.heap.size = W.heap.size := by omega
  have n2 : ¬ w.heap.size + 1 = W.heap.size := by omega
  clear hW hbW hx hy hxD hyD d2 d4 d5 e2 e4 e5
  go_enter Try.func30, Try.ntmps30
  go_wp2_with fail
  rw [HW.out]
  go_region_held3 (fun w' => w'.cell? ⟨w.heap.size, 0, none⟩ = some (.int .i64 C) ∧ w'.cell? ⟨w.heap.size, 1, none⟩ = some (.int .i64 F) ∧ w'.cell? ⟨w.heap.size, 3, none⟩ = some (.int .u64 X) ∧ w'.cell? ⟨w.heap.size + 1, 0, none⟩ = some (.int .i64 C') ∧ w'.cell? ⟨w.heap.size + 1, 1, none⟩ = some (.int .i64 F') ∧ w'.cell? ⟨w.heap.size + 1, 3, none⟩ = some (.int .u64 X')) (first | go_keep | exact KC.out _) ((first
    | (go_at_call 44; with_reducible refine (c0 _).mono ?_; rintro e w5 ⟨rfl, rfl⟩)
    | (go_at_call 44; with_reducible refine (c1 _).mono ?_; rintro e w5 ⟨rfl, rfl⟩)
    | (go_at_call 45; with_reducible refine (c2 _).mono ?_; rintro e w5 ⟨rfl, rfl⟩)
    | (go_at_call 43; refine (cmpOr_any r0 r1 r2 _ _ _ (by simp) (by simp) (by simp)).mono ?_; rintro e w5 ⟨rfl, rfl⟩)
    | fail))
  all_goals
    go_wp2_with fail
  refine bodyPost_ret (v := .int .i64 (or3 r0 r1 r2)) (by simp [results, Try.results30, go_sem]) rfl ⟨by rw [HR.out], 1, ?_⟩
  obtain ⟨os, e⟩ := HG.out
  exact ⟨_, by rw [e, alloc_eq_grow, grow_grow]; rfl⟩
theorem order_enters : ∀ args w, (callFunc 30 args).run Try.prog w = .ok (.enter 30 args) w := enters_of Try.func30 (by kernel_rfl) rfl
theorem order_lays (blk off size : Nat) (w : World) : CmpLays Try.prog 30 #[] Ent9.cs 6 cmpE blk off size w := fun m os dk _ x y => by
  rw [Array.append_empty]
  exact order_any x y _
end Go.Proofs.Ytlikpafjlojagaa
