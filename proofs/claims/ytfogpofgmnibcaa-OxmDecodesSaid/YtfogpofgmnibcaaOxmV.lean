/- Package oxm and the document's values: the same, alike, copies. -/
import Derived.Test.YtfogpofgmnibcaaOxmU
import Derived.Laws.BytesArg
namespace Go.Proofs.Ytfogpofgmnibcaa
open Go.RowKit
set_option linter.unusedVariables false

/-- whether two are of the same field -/
def alikeB (C F X C' F' X' : Int) : Bool := C == C' && F == F' && X == X'
theorem alike_ways (C F X C' F' X' : Int) : ∃ r, alikeB C F X C' F' X' = r ∧ (((C == C') = false ∧ r = false) ∨ ((C == C') = true ∧ (F == F') = false ∧ r = false) ∨ ((C == C') = true ∧ (F == F') = true ∧ r = (X == X'))) := by
  refine ⟨_, rfl, ?_⟩
  unfold alikeB
  cases (C == C') <;> cases (F == F') <;> simp

set_option maxRecDepth 100000 in
theorem alike8_any (C F : Int) (H : Bool) (X : Int) (va : Option Addr) (vl vc : Nat) (ma : Option Addr) (ml mc : Nat) (C' F' : Int) (H' : Bool) (X' : Int) (va' : Option Addr) (vl' vc' : Nat) (ma' : Option Addr) (ml' mc' : Nat) (w : World) :
    Calls Try.prog 20 #[.agg #[.int .i64 C, .int .i64 F, .bool H, .int .u64 X, .slice va vl vc, .slice ma ml mc], .agg #[.int .i64 C', .int .i64 F', .bool H', .int .u64 X', .slice va' vl' vc', .slice ma' ml' mc']] w fun e w' => e = .returned (.bool (alikeB C F X C' F' X')) ∧ Below w.heap.size w w' := by
  obtain ⟨r, hr, hq⟩ := alike_ways C F X C' F' X'
  rw [hr]
  clear hr
  rcases hq with ⟨h1, rfl⟩ | ⟨h1, h2, rfl⟩ | ⟨h1, h2, rfl⟩
  all_goals
    go_enter Try.func20, Try.ntmps20
    go_wp2_with fail
    go_ret
    exact ⟨rfl, below_on (below_alloc _ _) (below_alloc _ _)⟩
set_option maxRecDepth 100000 in
theorem refAlike8_any (C F : Int) (H : Bool) (X : Int) (va : Option Addr) (vl vc : Nat) (ma : Option Addr) (ml mc : Nat) (C' F' : Int) (H' : Bool) (X' : Int) (va' : Option Addr) (vl' vc' : Nat) (ma' : Option Addr) (ml' mc' : Nat) (w : World) :
    Calls Try.prog 21 #[.agg #[.int .i64 C, .int .i64 F, .bool H, .int .u64 X, .slice va vl vc, .slice ma ml mc], .agg #[.int .i64 C', .int .i64 F', .bool H', .int .u64 X', .slice va' vl' vc', .slice ma' ml' mc']] w fun e w' => e = .returned (.bool (alikeB C F X C' F' X')) ∧ Below w.heap.size w w' := by
  obtain ⟨r, hr, hq⟩ := alike_ways C F X C' F' X'
  rw [hr]
  clear hr
  rcases hq with ⟨h1, rfl⟩ | ⟨h1, h2, rfl⟩ | ⟨h1, h2, rfl⟩
  all_goals
    go_enter Try.func21, Try.ntmps21
    go_wp2_with fail
    go_ret
    exact ⟨rfl, below_on (below_alloc _ _) (below_alloc _ _)⟩
theorem fresh8_any (l : List Int) (a : Option Addr) (c : Nat) (w : World) (hl : l.length ≤ 140737488355328) (hI : Ints .u8 w a l) :
    Calls Try.prog 41 #[.slice a l.length c] w fun e w' => e = .returned (.slice (some ⟨w.heap.size, 0, none⟩) l.length l.length) ∧ Fresh 5 w w' (.slice (some ⟨w.heap.size, 0, none⟩) l.length l.length) (l.map (Value.int .u8)) := by
  go_enter Try.func41, Try.ntmps41
  go_wp2_with (first | (at_make; refine wp_make rfl _ _ rfl elemU8 rfl rfl rfl rfl (Nat.le_refl _) (by omega) (by omega) ?_; intro w1 hf) | (with_reducible refine wp_copy_all rfl (.tmp 7) (.tmp 8) rfl elemU8 rfl rfl (List.length_replicate ..) hf rfl (hI.below hf.bel) ?_; intro w2 hf2))
  go_ret
  exact ⟨rfl, hf2⟩

theorem conv8 (w : World) (l : List Int) (a : Option Addr) (c : Nat) (hI : Ints .u8 w a l) : (convert 23 9 (.slice a l.length c)).run Try.prog w = .ok (.string (strOfNums l)) w := by
  have hs := Try.underlying23
  have he := Try.underlying5
  have hd := Try.underlying9
  cases l with
  | nil =>
    cases a with
    | none => exact run_convert_bytes_nil w _ _ hs he 0 c _ hd
    | some p =>
      rw [run_convert_bytes_string w _ _ _ _ _ c hs he hd]
      exact run_bytesToString w p 0 c [] (by rfl)
  | cons x r =>
    obtain ⟨b, off, rfl, h0⟩ := hI 0 (by simp)
    exact run_convert_bytes_arg w _ _ hs he b off (x :: r).length c (x :: r) rfl (fun i hi => by
      obtain ⟨b', off', he', hc⟩ := hI i hi
      obtain ⟨rfl, rfl⟩ : b = b' ∧ off = off' := by simpa using he'
      exact hc) _ hd

theorem byte_inj8 {x y : Int} (hx : 0 ≤ x ∧ x ≤ 255) (hy : 0 ≤ y ∧ y ≤ 255) (h : UInt8.ofNat x.toNat = UInt8.ofNat y.toNat) : x = y := by
  have h2 := congrArg UInt8.toNat h
  simp at h2
  omega
theorem map_inj8 : ∀ {l m : List Int}, Octets l → Octets m → (l.map fun n => UInt8.ofNat n.toNat) = (m.map fun n => UInt8.ofNat n.toNat) → l = m
  | [], [], _, _, _ => rfl
  | [], y :: m, _, _, h => by simp at h
  | x :: l, [], _, _, h => by simp at h
  | x :: l, y :: m, hl, hm, h => by
    rw [List.map_cons, List.map_cons, List.cons.injEq] at h
    rw [byte_inj8 (hl x (by simp)) (hm y (by simp)) h.1, map_inj8 (fun z hz => hl z (by simp [hz])) (fun z hz => hm z (by simp [hz])) h.2]
theorem strEq8 {l m : List Int} (ol : Octets l) (om : Octets m) : ((strOfNums l).toList == (strOfNums m).toList) = (l == m) := by
  rw [ByteArray.toList_eq, ByteArray.toList_eq, strOfNums_data, strOfNums_data, Bool.eq_iff_iff, beq_iff_eq, beq_iff_eq]
  exact ⟨map_inj8 ol om, fun h => by rw [h]⟩
set_option maxRecDepth 100000 in
theorem equal8_any (l m : List Int) (a b : Option Addr) (c d : Nat) (w : World) (hl : l.length ≤ 1000000) (hm : m.length ≤ 1000000) (ol : Octets l) (om : Octets m) (hc : Ints .u8 w a l) (hd : Ints .u8 w b m) :
    Calls Try.prog 42 #[.slice a l.length c, .slice b m.length d] w fun e w' => e = .returned (.bool (l == m)) ∧ Below w.heap.size w w' := by
  have k1 := conv8 w l a c hc
  have k2 := conv8 w m b d hd
  have HS := hid (strEq8 ol om)
  clear hc hd ol om
  go_enter Try.func42, Try.ntmps42
  go_wp2_with fail
  go_ret
  exact ⟨ret_bool HS.out, Below.refl _ _⟩

/-- whether two are the same -/
def sameB (C F : Int) (H : Bool) (X : Int) (C' F' : Int) (H' : Bool) (X' : Int) (v m v' m' : List Int) : Bool := alikeB C F X C' F' X' && H == H' && v == v' && m == m'
theorem same_ways (C F : Int) (H : Bool) (X : Int) (C' F' : Int) (H' : Bool) (X' : Int) (v m v' m' : List Int) : ∃ r, sameB C F H X C' F' H' X' v m v' m' = r ∧ ((alikeB C F X C' F' X' = false ∧ r = false) ∨ (alikeB C F X C' F' X' = true ∧ (H == H') = false ∧ r = false) ∨ (alikeB C F X C' F' X' = true ∧ (H == H') = true ∧ (v == v') = false ∧ r = false) ∨ (alikeB C F X C' F' X' = true ∧ (H == H') = true ∧ (v == v') = true ∧ r = (m == m'))) := by
  refine ⟨_, rfl, ?_⟩
  unfold sameB
  cases alikeB C F X C' F' X' <;> cases (H == H') <;> cases (v == v') <;> simp
theorem two_oxm (w : World) (C F : Int) (H : Bool) (X : Int) (va : Option Addr) (vl vc : Nat) (ma : Option Addr) (ml mc : Nat) (C' F' : Int) (H' : Bool) (X' : Int) (va' : Option Addr) (vl' vc' : Nat) (ma' : Option Addr) (ml' mc' : Nat) : ∃ W, (w.alloc (.cells #[.int .i64 C, .int .i64 F, .bool H, .int .u64 X, .slice va vl vc, .slice ma ml mc] 25)).alloc (.cells #[.int .i64 C', .int .i64 F', .bool H', .int .u64 X', .slice va' vl' vc', .slice ma' ml' mc'] 25) = W ∧ Below w.heap.size w W ∧ BoxL W w.heap.size [.int .i64 C, .int .i64 F, .bool H, .int .u64 X, .slice va vl vc, .slice ma ml mc] ∧ BoxL W (w.heap.size + 1) [.int .i64 C', .int .i64 F', .bool H', .int .u64 X', .slice va' vl' vc', .slice ma' ml' mc'] := by
  obtain ⟨W1, h1, b1, x1⟩ := oxm_box w C F H X va vl vc ma ml mc
  obtain ⟨W2, h2, b2, x2⟩ := oxm_box W1 C' F' H' X' va' vl' vc' ma' ml' mc'
  have hs : W1.heap.size = w.heap.size + 1 := by rw [← h1, World.size_alloc]
  rw [hs] at x2
  exact ⟨W2, by rw [h1, h2], below_on b1 b2, x1.below b2, x2⟩

set_option maxRecDepth 100000 in
set_option maxHeartbeats 1000000 in
theorem same8_any (C F : Int) (H : Bool) (X : Int) (va : Option Addr) (vc : Nat) (ma : Option Addr) (mc : Nat) (C' F' : Int) (H' : Bool) (X' : Int) (va' : Option Addr) (vc' : Nat) (ma' : Option Addr) (mc' : Nat) (v m v' m' : List Int) (hv : v.length ≤ 1000) (hm : m.length ≤ 1000) (hv' : v'.length ≤ 1000) (hm' : m'.length ≤ 1000) (ov : Octets v) (om : Octets m) (ov' : Octets v') (om' : Octets m') (w : World) (iv : Ints .u8 w va v) (im : Ints .u8 w ma m) (iv' : Ints .u8 w va' v') (im' : Ints .u8 w ma' m') :
    Calls Try.prog 19 #[.agg #[.int .i64 C, .int .i64 F, .bool H, .int .u64 X, .slice va v.length vc, .slice ma m.length mc], .agg #[.int .i64 C', .int .i64 F', .bool H', .int .u64 X', .slice va' v'.length vc', .slice ma' m'.length mc']] w fun e w' => e = .returned (.bool (sameB C F H X C' F' H' X' v m v' m')) ∧ Below w.heap.size w w' := by
  obtain ⟨W, hW, hbW, hx, hy⟩ := two_oxm w C F H X va v.length vc ma m.length mc C' F' H' X' va' v'.length vc' ma' m'.length mc'
  have HW := hid hW
  have HB := hid hbW
  have IV := hid (iv.below hbW)
  have IM := hid (im.below hbW)
  have IV' := hid (iv'.below hbW)
  have IM' := hid (im'.below hbW)
  have AL := hid (fun W => alike8_any C F H X va v.length vc ma m.length mc C' F' H' X' va' v'.length vc' ma' m'.length mc' W)
  have EV := hid (fun (n : Wk W) => equal8_any v v' va va' vc vc' n.val (by omega) (by omega) ov ov' (IV.out.below n.bel) (IV'.out.below n.bel))
  have EM := hid (fun (n : Wk W) => equal8_any m m' ma ma' mc mc' n.val (by omega) (by omega) om om' (IM.out.below n.bel) (IM'.out.below n.bel))
  obtain ⟨d0, d1, d2, d3, d4, d5⟩ := hx.six
  obtain ⟨e0, e1, e2, e3, e4, e5⟩ := hy.six
  obtain ⟨r, hr, hq⟩ := same_ways C F H X C' F' H' X' v m v' m'
  rw [hr]
  clear hr hW hbW iv im iv' im' ov om ov' om' hv hm hv' hm'
  rcases hq with ⟨h1, rfl⟩ | ⟨h1, h2, rfl⟩ | ⟨h1, h2, h3, rfl⟩ | ⟨h1, h2, h3, rfl⟩
  · rw [h1] at AL
    clear h1
    go_enter Try.func19, Try.ntmps19
    go_wp2_with fail
    rw [HW.out]
    have HA := hid (Below.refl W.heap.size W)
    go_wp2_with fail
    refine (AL.out _).mono ?_
    rintro e w1 ⟨rfl, hb⟩
    replace HA := hid (below_on HA.out hb)
    clear d0 d1 d2 d3 d4 d5 e0 e1 e2 e3 e4 e5 hb
    obtain ⟨d0, d1, d2, d3, d4, d5⟩ := (hx.below HA.out).six
    obtain ⟨e0, e1, e2, e3, e4, e5⟩ := (hy.below HA.out).six
    go_wp2_with fail
    go_ret
    exact ⟨rfl, below_on HB.out HA.out⟩
  · rw [h1] at AL
    clear h1
    go_enter Try.func19, Try.ntmps19
    go_wp2_with fail
    rw [HW.out]
    have HA := hid (Below.refl W.heap.size W)
    go_wp2_with fail
    refine (AL.out _).mono ?_
    rintro e w1 ⟨rfl, hb⟩
    replace HA := hid (below_on HA.out hb)
    clear d0 d1 d2 d3 d4 d5 e0 e1 e2 e3 e4 e5 hb
    obtain ⟨d0, d1, d2, d3, d4, d5⟩ := (hx.below HA.out).six
    obtain ⟨e0, e1, e2, e3, e4, e5⟩ := (hy.below HA.out).six
    go_wp2_with fail
    go_ret
    exact ⟨rfl, below_on HB.out HA.out⟩
  · rw [h1] at AL
    clear h1
    rw [h3] at EV
    clear h3
    go_enter Try.func19, Try.ntmps19
    go_wp2_with fail
    rw [HW.out]
    have HA := hid (Below.refl W.heap.size W)
    go_wp2_with fail
    refine (AL.out _).mono ?_
    rintro e w1 ⟨rfl, hb⟩
    replace HA := hid (below_on HA.out hb)
    clear d0 d1 d2 d3 d4 d5 e0 e1 e2 e3 e4 e5 hb
    obtain ⟨d0, d1, d2, d3, d4, d5⟩ := (hx.below HA.out).six
    obtain ⟨e0, e1, e2, e3, e4, e5⟩ := (hy.below HA.out).six
    go_wp2_with fail
    refine (EV.out ⟨_, HA.out⟩).mono ?_
    rintro e w1 ⟨rfl, hb⟩
    replace HA := hid (below_on HA.out hb)
    clear d0 d1 d2 d3 d4 d5 e0 e1 e2 e3 e4 e5 hb
    obtain ⟨d0, d1, d2, d3, d4, d5⟩ := (hx.below HA.out).six
    obtain ⟨e0, e1, e2, e3, e4, e5⟩ := (hy.below HA.out).six
    go_wp2_with fail
    go_ret
    exact ⟨rfl, below_on HB.out HA.out⟩
  · rw [h1] at AL
    clear h1
    rw [h3] at EV
    clear h3
    go_enter Try.func19, Try.ntmps19
    go_wp2_with fail
    rw [HW.out]
    have HA := hid (Below.refl W.heap.size W)
    go_wp2_with fail
    refine (AL.out _).mono ?_
    rintro e w1 ⟨rfl, hb⟩
    replace HA := hid (below_on HA.out hb)
    clear d0 d1 d2 d3 d4 d5 e0 e1 e2 e3 e4 e5 hb
    obtain ⟨d0, d1, d2, d3, d4, d5⟩ := (hx.below HA.out).six
    obtain ⟨e0, e1, e2, e3, e4, e5⟩ := (hy.below HA.out).six
    go_wp2_with fail
    refine (EV.out ⟨_, HA.out⟩).mono ?_
    rintro e w1 ⟨rfl, hb⟩
    replace HA := hid (below_on HA.out hb)
    clear d0 d1 d2 d3 d4 d5 e0 e1 e2 e3 e4 e5 hb
    obtain ⟨d0, d1, d2, d3, d4, d5⟩ := (hx.below HA.out).six
    obtain ⟨e0, e1, e2, e3, e4, e5⟩ := (hy.below HA.out).six
    go_wp2_with fail
    refine (EM.out ⟨_, HA.out⟩).mono ?_
    rintro e w1 ⟨rfl, hb⟩
    replace HA := hid (below_on HA.out hb)
    clear d0 d1 d2 d3 d4 d5 e0 e1 e2 e3 e4 e5 hb
    obtain ⟨d0, d1, d2, d3, d4, d5⟩ := (hx.below HA.out).six
    obtain ⟨e0, e1, e2, e3, e4, e5⟩ := (hy.below HA.out).six
    go_wp2_with fail
    go_ret
    exact ⟨rfl, below_on HB.out HA.out⟩

set_option maxRecDepth 100000 in
set_option maxHeartbeats 1000000 in
theorem refSame8_any (C F : Int) (H : Bool) (X : Int) (va : Option Addr) (vc : Nat) (ma : Option Addr) (mc : Nat) (C' F' : Int) (H' : Bool) (X' : Int) (va' : Option Addr) (vc' : Nat) (ma' : Option Addr) (mc' : Nat) (v m v' m' : List Int) (hv : v.length ≤ 1000) (hm : m.length ≤ 1000) (hv' : v'.length ≤ 1000) (hm' : m'.length ≤ 1000) (ov : Octets v) (om : Octets m) (ov' : Octets v') (om' : Octets m') (w : World) (iv : Ints .u8 w va v) (im : Ints .u8 w ma m) (iv' : Ints .u8 w va' v') (im' : Ints .u8 w ma' m') :
    Calls Try.prog 17 #[.agg #[.int .i64 C, .int .i64 F, .bool H, .int .u64 X, .slice va v.length vc, .slice ma m.length mc], .agg #[.int .i64 C', .int .i64 F', .bool H', .int .u64 X', .slice va' v'.length vc', .slice ma' m'.length mc']] w fun e w' => e = .returned (.bool (sameB C F H X C' F' H' X' v m v' m')) ∧ Below w.heap.size w w' := by
  obtain ⟨W, hW, hbW, hx, hy⟩ := two_oxm w C F H X va v.length vc ma m.length mc C' F' H' X' va' v'.length vc' ma' m'.length mc'
  have HW := hid hW
  have HB := hid hbW
  have IV := hid (iv.below hbW)
  have IM := hid (im.below hbW)
  have IV' := hid (iv'.below hbW)
  have IM' := hid (im'.below hbW)
  have AL := hid (fun W => refAlike8_any C F H X va v.length vc ma m.length mc C' F' H' X' va' v'.length vc' ma' m'.length mc' W)
  have EV := hid (fun (n : Wk W) => bytes8_any v v' va va' _ _ vc vc' rfl rfl n.val (by omega) (by omega) (IV.out.below n.bel) (IV'.out.below n.bel))
  have EM := hid (fun (n : Wk W) => bytes8_any m m' ma ma' _ _ mc mc' rfl rfl n.val (by omega) (by omega) (IM.out.below n.bel) (IM'.out.below n.bel))
  obtain ⟨d0, d1, d2, d3, d4, d5⟩ := hx.six
  obtain ⟨e0, e1, e2, e3, e4, e5⟩ := hy.six
  obtain ⟨r, hr, hq⟩ := same_ways C F H X C' F' H' X' v m v' m'
  rw [hr]
  clear hr hW hbW iv im iv' im' ov om ov' om' hv hm hv' hm'
  rcases hq with ⟨h1, rfl⟩ | ⟨h1, h2, rfl⟩ | ⟨h1, h2, h3, rfl⟩ | ⟨h1, h2, h3, rfl⟩
  · rw [h1] at AL
    clear h1
    go_enter Try.func17, Try.ntmps17
    go_wp2_with fail
    rw [HW.out]
    have HA := hid (Below.refl W.heap.size W)
    go_wp2_with fail
    refine (AL.out _).mono ?_
    rintro e w1 ⟨rfl, hb⟩
    replace HA := hid (below_on HA.out hb)
    clear d0 d1 d2 d3 d4 d5 e0 e1 e2 e3 e4 e5 hb
    obtain ⟨d0, d1, d2, d3, d4, d5⟩ := (hx.below HA.out).six
    obtain ⟨e0, e1, e2, e3, e4, e5⟩ := (hy.below HA.out).six
    go_wp2_with fail
    go_ret
    exact ⟨rfl, below_on HB.out HA.out⟩
  · rw [h1] at AL
    clear h1
    go_enter Try.func17, Try.ntmps17
    go_wp2_with fail
    rw [HW.out]
    have HA := hid (Below.refl W.heap.size W)
    go_wp2_with fail
    refine (AL.out _).mono ?_
    rintro e w1 ⟨rfl, hb⟩
    replace HA := hid (below_on HA.out hb)
    clear d0 d1 d2 d3 d4 d5 e0 e1 e2 e3 e4 e5 hb
    obtain ⟨d0, d1, d2, d3, d4, d5⟩ := (hx.below HA.out).six
    obtain ⟨e0, e1, e2, e3, e4, e5⟩ := (hy.below HA.out).six
    go_wp2_with fail
    go_ret
    exact ⟨rfl, below_on HB.out HA.out⟩
  · rw [h1] at AL
    clear h1
    rw [h3] at EV
    clear h3
    go_enter Try.func17, Try.ntmps17
    go_wp2_with fail
    rw [HW.out]
    have HA := hid (Below.refl W.heap.size W)
    go_wp2_with fail
    refine (AL.out _).mono ?_
    rintro e w1 ⟨rfl, hb⟩
    replace HA := hid (below_on HA.out hb)
    clear d0 d1 d2 d3 d4 d5 e0 e1 e2 e3 e4 e5 hb
    obtain ⟨d0, d1, d2, d3, d4, d5⟩ := (hx.below HA.out).six
    obtain ⟨e0, e1, e2, e3, e4, e5⟩ := (hy.below HA.out).six
    go_wp2_with fail
    refine (EV.out ⟨_, HA.out⟩).mono ?_
    rintro e w1 ⟨rfl, hb⟩
    replace HA := hid (below_on HA.out hb)
    clear d0 d1 d2 d3 d4 d5 e0 e1 e2 e3 e4 e5 hb
    obtain ⟨d0, d1, d2, d3, d4, d5⟩ := (hx.below HA.out).six
    obtain ⟨e0, e1, e2, e3, e4, e5⟩ := (hy.below HA.out).six
    go_wp2_with fail
    go_ret
    exact ⟨rfl, below_on HB.out HA.out⟩
  · rw [h1] at AL
    clear h1
    rw [h3] at EV
    clear h3
    go_enter Try.func17, Try.ntmps17
    go_wp2_with fail
    rw [HW.out]
    have HA := hid (Below.refl W.heap.size W)
    go_wp2_with fail
    refine (AL.out _).mono ?_
    rintro e w1 ⟨rfl, hb⟩
    replace HA := hid (below_on HA.out hb)
    clear d0 d1 d2 d3 d4 d5 e0 e1 e2 e3 e4 e5 hb
    obtain ⟨d0, d1, d2, d3, d4, d5⟩ := (hx.below HA.out).six
    obtain ⟨e0, e1, e2, e3, e4, e5⟩ := (hy.below HA.out).six
    go_wp2_with fail
    refine (EV.out ⟨_, HA.out⟩).mono ?_
    rintro e w1 ⟨rfl, hb⟩
    replace HA := hid (below_on HA.out hb)
    clear d0 d1 d2 d3 d4 d5 e0 e1 e2 e3 e4 e5 hb
    obtain ⟨d0, d1, d2, d3, d4, d5⟩ := (hx.below HA.out).six
    obtain ⟨e0, e1, e2, e3, e4, e5⟩ := (hy.below HA.out).six
    go_wp2_with fail
    refine (EM.out ⟨_, HA.out⟩).mono ?_
    rintro e w1 ⟨rfl, hb⟩
    replace HA := hid (below_on HA.out hb)
    clear d0 d1 d2 d3 d4 d5 e0 e1 e2 e3 e4 e5 hb
    obtain ⟨d0, d1, d2, d3, d4, d5⟩ := (hx.below HA.out).six
    obtain ⟨e0, e1, e2, e3, e4, e5⟩ := (hy.below HA.out).six
    go_wp2_with fail
    go_ret
    exact ⟨rfl, below_on HB.out HA.out⟩
end Go.Proofs.Ytfogpofgmnibcaa
