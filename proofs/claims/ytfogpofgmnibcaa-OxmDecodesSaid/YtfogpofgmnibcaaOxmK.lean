/- Package oxm: a value as bytes. -/
import Derived.Test.YtfogpofgmnibcaaOxmJ
import Derived.Test.YtfogpofgmnibcaaMrg5
import Derived.Deep.RegionHeld3
import Derived.Deep.DeepCutAuto
namespace Go.Proofs.Ytfogpofgmnibcaa
open Go.RowKit
set_option linter.unusedVariables false

theorem below_drew8 (w : World) : Below w.heap.size w w.drew := (Below.refl _ _).drew
/-- the four bytes that stand first -/
def headL (C F : Int) (H : Bool) (k : Nat) : List Int := bytesL C 2 ++ (bytesL (fieldN F H) 1 ++ (bytesL (k : Int) 1 ++ []))
theorem headL_length (C F : Int) (H : Bool) (k : Nat) : (headL C F H k).length = 4 := by simp [headL, bytesL_length]
/-- whose it is -/
def expL (C X : Int) : List Int := if C = 65535 then bytesL X 4 else []
/-- its bytes -/
def oxmBytes (C F : Int) (H : Bool) (X : Int) (v m : List Int) : List Int := headL C F H (behind8 C v.length m.length) ++ (expL C X ++ (v ++ m))
theorem expL_length (C X : Int) : (expL C X).length = if C = 65535 then 4 else 0 := by unfold expL; split <;> simp [bytesL_length]
theorem oxmBytes_length (C F : Int) (H : Bool) (X : Int) (v m : List Int) : (oxmBytes C F H X v m).length = 4 + behind8 C v.length m.length := by
  simp only [oxmBytes, List.length_append, headL_length, expL_length, behind8]
  split <;> omega
theorem putW_oxm {C F : Int} {H : Bool} {k : Nat} (hC : 0 ≤ C ∧ C < 65536) (hF : 0 ≤ F ∧ F ≤ 127) (hk : k < 256) : putW [2, 1, 1] [C, fieldN F H, (k : Int)] = some (headL C F H k) := by
  have hf : fieldN F H < 256 := by unfold fieldN; split <;> omega
  have r1 : rightW [2, 1, 1] = true := by decide
  have r2 : countL [2, 1, 1] = 3 := by decide
  have p2 : roomB C 2 = true := by simp [roomB, p256, hC.2]
  have p1 : roomB (fieldN F H) 1 = true := by simp [roomB, p256, hf]
  have p0 : roomB (k : Int) 1 = true := by simp [roomB, p256]; omega
  simp [putW, r1, r2, putL, p2, p1, p0, headL]

set_option maxRecDepth 100000 in
set_option maxHeartbeats 1000000 in
theorem encode8_no (C F : Int) (H : Bool) (X : Int) (va : Option Addr) (vc : Nat) (ma : Option Addr) (mc : Nat) (v m : List Int) (hv : v.length ≤ 1000) (hm : m.length ≤ 1000) (hmc : m.length ≤ mc) (ov : Octets v) (om : Octets m) (w : World) (iv : Ints .u8 w va v) (im : Ints .u8 w ma m) (hr : rightB C F H X v m = false) :
    Calls Try.prog 9 #[.agg #[.int .i64 C, .int .i64 F, .bool H, .int .u64 X, .slice va v.length vc, .slice ma m.length mc]] w fun e w' => e = .returned (.tuple #[.slice none 0 0, .int .i64 10001]) ∧ Below w.heap.size w w' := by
  obtain ⟨W, hW, hbW, hbox⟩ := oxm_box w C F H X va v.length vc ma m.length mc
  have HW := hid hW
  have HB := hid hbW
  obtain ⟨d0, d1, d2, d3, d4, d5⟩ := hbox.six
  have IV := hid (iv.below hbW)
  have IM := hid (im.below hbW)
  clear hW hbW iv im
  have RR := hid (fun W iv im => right8_any C F H X va vc ma mc v m hv hm hmc ov om W iv im)
  rw [hr] at RR
  clear hr ov om
  go_enter Try.func9, Try.ntmps9
  go_wp2_with fail
  rw [HW.out]
  go_wp2_with fail
  refine (RR.out _ IV.out IM.out).mono ?_
  rintro e w1 ⟨rfl, hb⟩
  go_wp2_with fail
  go_ret2
  exact ⟨rfl, below_on HB.out hb⟩

theorem u64_wrap8 (n : Int) : IntKind.u64.wrap n = n % 18446744073709551616 := by simp [IntKind.wrap, IntKind.bits, IntKind.signed]
theorem lit_at (k : IntKind) {w : World} (l : List Int) {e : TypeId} {g : Nat} {cs : Array Value} {w' : World} (hb : Below (w.alloc (.cells cs e)).heap.size (w.alloc (.cells cs e)) w') (hg : w.heap.size = g) (hcs : (l.map (Value.int k)).toArray = cs) : Ints k w' (some ⟨g, 0, none⟩) l := by
  subst hg
  subst hcs
  exact (ints_lit k w l e).below hb
theorem row8_any {W V : World} {g mm : Nat} {C F fn : Int} {H : Bool} {k : Nat} {a b : Option Addr} {c2 k2 : Int} (hP : putW [2, 1, 1] [c2, fn, k2] = some (headL C F H k)) (hU : U64s [c2, fn, k2]) (O : BufOn W V g mm none 208 [] [] 0) (ia : Ints .i64 V a [2, 1, 1]) (ib : Ints .u64 V b [c2, fn, k2]) :
    Calls Try.prog 23 #[.pointer (some ⟨g, 0, none⟩), .slice a 3 3, .slice b 3 3] V fun e w' => e = .returned (.tuple #[]) ∧ ∃ p', BufOn W w' g mm p' 208 (headL C F H k) [] 0 := by
  refine (O.buf.row_ok [2, 1, 1] [c2, fn, k2] (headL C F H k) hP a b 3 3 3 3 rfl rfl (by decide) (Nat.le_refl _) hU ia ib (by rw [headL_length]; decide)).mono ?_
  rintro e w' ⟨rfl, p', hG⟩
  exact ⟨rfl, p', O.went hG⟩

set_option maxRecDepth 100000 in
set_option maxHeartbeats 1000000 in
theorem encode8_yes (C F : Int) (H : Bool) (X : Int) (va : Option Addr) (vc : Nat) (ma : Option Addr) (mc : Nat) (v m : List Int) (hv : v.length ≤ 1000) (hm : m.length ≤ 1000) (hmc : m.length ≤ mc) (ov : Octets v) (om : Octets m) (w : World) (iv : Ints .u8 w va v) (im : Ints .u8 w ma m) (hX0 : 0 ≤ X) (hr : rightB C F H X v m = true) :
    Calls Try.prog 9 #[.agg #[.int .i64 C, .int .i64 F, .bool H, .int .u64 X, .slice va v.length vc, .slice ma m.length mc]] w fun e w' => ∃ ad cp, e = .returned (.tuple #[.slice ad (oxmBytes C F H X v m).length cp, .int .i64 0]) ∧ Below w.heap.size w w' ∧ Ints .u8 w' ad (oxmBytes C F H X v m) ∧ (oxmBytes C F H X v m).length ≤ cp := by
  obtain ⟨W, hW, hbW, hbox⟩ := oxm_box w C F H X va v.length vc ma m.length mc
  have HW := hid hW
  have HB := hid hbW
  obtain ⟨d0, d1, d2, d3, d4, d5⟩ := hbox.six
  have IV := hid (iv.below hbW)
  have IM := hid (im.below hbW)
  clear hW hbW iv im
  have RR := hid (fun W iv im => right8_any C F H X va vc ma mc v m hv hm hmc ov om W iv im)
  have R3 := hid (fun W => behind8_any C F H X va v.length vc ma m.length mc W (by omega) (by omega))
  have ft := right_facts hr
  have RF := hid (fun W => fieldByte_any C F H X va v.length vc ma m.length mc W ft.f0 ft.f1)
  rw [hr] at RR
  clear ov om
  go_enter Try.func9, Try.ntmps9
  go_wp2_with fail
  rw [HW.out]
  go_wp2_with fail
  refine (RR.out _ IV.out IM.out).mono ?_
  rintro e w1 ⟨rfl, hb⟩
  clear d0 d1 d2 d3 d4 d5
  obtain ⟨d0, d1, d2, d3, d4, d5⟩ := (hbox.below hb).six
  have HA := hid hb
  go_wp2_with fail
  refine (bufNew_any 208 _).mono ?_
  rintro e w2 ⟨g, mm, rfl, hB, hb2, hg, hmm⟩
  have O1 : BufOn W w2 g mm none 208 [] [] 0 := ⟨hB, below_on HA.out hb2, by have := HA.out.size; rintro i (e | e | e); omega; omega; simp at e⟩
  clear d0 d1 d2 d3 d4 d5
  obtain ⟨d0, d1, d2, d3, d4, d5⟩ := (hbox.below O1.bel).six
  have kx := ft.most
  have hP := putW_oxm (C := C) (H := H) (k := behind8 C v.length m.length) (by rcases ft.cls with h | h <;> omega) ⟨ft.f0, ft.f1⟩ (by omega)
  have HH := hid (headL_length C F H (behind8 C v.length m.length))
  obtain ⟨k, hk⟩ : ∃ k, behind8 C v.length m.length = k := ⟨_, rfl⟩
  have hfn : 0 ≤ fieldN F H ∧ fieldN F H ≤ 255 := by have := ft.f0; have := ft.f1; unfold fieldN; split <;> omega
  obtain ⟨fn, hfn2⟩ : ∃ n, fieldN F H = n := ⟨_, rfl⟩
  rw [hk] at hP HH R3 kx
  rw [hfn2] at hP RF hfn
  have wC : IntKind.u64.wrap C = C := by rw [u64_wrap8]; rcases ft.cls with h | h <;> omega
  have wk : IntKind.u64.wrap (k : Int) = (k : Int) := by rw [u64_wrap8]; omega
  have HU : Hid (U64s [IntKind.u64.wrap C, fn, IntKind.u64.wrap (k : Int)]) := by
    rw [wC, wk]
    intro x hx
    simp only [List.mem_cons, List.not_mem_nil, or_false] at hx
    rw [p256_8]
    rcases ft.cls with h | h <;> rcases hx with rfl | rfl | rfl <;> omega
  have HP : Hid (putW [2, 1, 1] [IntKind.u64.wrap C, fn, IntKind.u64.wrap (k : Int)] = some (headL C F H k)) := by rw [wC, wk]; exact hP
  clear wC wk
  have HK := hid hk
  have hC0 : 0 ≤ C := by rcases ft.cls with h | h <;> omega
  have hC1 : C ≤ 65535 := by rcases ft.cls with h | h <;> omega
  have OD := O1.below (below_drew8 w2)
  have hboxD := (hbox.below OD.bel)
  have FT := hid ft
  clear hP hk hfn2 hr hb hb2 hB hg hmm ft
  have kx2 : (k : Int) ≤ 204 := by omega
  go_upto_region 4 with fail
  go_cut [9] (fun t9 wx => ∃ p, BufOn W wx g mm p 208 (headL C F H k) [] 0)
  case first =>
    go_region_held3 (fun w' => w'.cell? ⟨w.heap.size, 0, none⟩ = some (.int .i64 C) ∧ w'.cell? ⟨w.heap.size, 1, none⟩ = some (.int .i64 F) ∧ w'.cell? ⟨w.heap.size, 2, none⟩ = some (.bool H) ∧ w'.cell? ⟨w.heap.size, 3, none⟩ = some (.int .u64 X) ∧ w'.cell? ⟨w.heap.size, 4, none⟩ = some (.slice va v.length vc) ∧ w'.cell? ⟨w.heap.size, 5, none⟩ = some (.slice ma m.length mc)) (go_keep) (first
      | (go_at_call 24; refine (RF.out _).mono ?_; rintro e w5 ⟨rfl, hb5⟩; have hB5 : Below w2.drew.heap.size w2.drew w5 := (by first | exact hb5 | exact below_on (below_alloc _ _) hb5 | fail); obtain ⟨e0, e1, e2, e3, e4, e5⟩ := (hboxD.below hB5).six)
      | (go_at_call 25; refine (R3.out _).mono ?_; rintro e w6 ⟨rfl, hb6⟩; have hB6 : Below w2.drew.heap.size w2.drew w6 := (by first | exact below_on hB5 hb6 | exact below_on (below_on hB5 (below_alloc _ _)) hb6 | fail); obtain ⟨e0, e1, e2, e3, e4, e5⟩ := (hboxD.below hB6).six)
      | (go_at_call 23; refine (row8_any HP.out HU.out (OD.below ?_) ?_ ?_).mono ?_; (first | exact below_on hB6 (below_alloc _ _) | exact below_on (below_on hB6 (below_alloc _ _)) (below_alloc _ _) | fail); (first | exact lit_at .i64 [2, 1, 1] (below_on (below_drew8 _) (below_on (below_on hb5 hb6) (below_alloc _ _))) rfl rfl | exact lit_at .i64 [2, 1, 1] (below_on (below_on hb5 hb6) (below_alloc _ _)) rfl rfl | exact lit_at .i64 [2, 1, 1] (below_on hb6 (below_alloc _ _)) rfl rfl | exact lit_at .i64 [2, 1, 1] (below_alloc _ _) rfl rfl | exact lit_at .i64 [2, 1, 1] (Below.refl _ _) rfl rfl | exact lit_at .i64 [2, 1, 1] (Below.refl _ _) (World.size_alloc _ _) rfl | fail); (first | exact lit_at .u64 [IntKind.u64.wrap C, fn, IntKind.u64.wrap (k : Int)] (Below.refl _ _) rfl rfl | exact lit_at .u64 [IntKind.u64.wrap C, fn, IntKind.u64.wrap (k : Int)] (Below.refl _ _) (World.size_alloc _ _) rfl | exact lit_at .u64 [IntKind.u64.wrap C, fn, IntKind.u64.wrap (k : Int)] (below_alloc _ _) rfl rfl | fail); rintro e w7 ⟨rfl, p', O7⟩; obtain ⟨e0, e1, e2, e3, e4, e5⟩ := (hbox.below O7.bel).six))
    all_goals
      go_wp2_with fail
      go_meet
      exact ⟨_, O7⟩
  case rest =>
    obtain ⟨p, O8⟩ := hcut
    have HO : Hid (oxmBytes C F H X v m = headL C F H k ++ expL C X ++ v ++ m) := by rw [← HK.out]; simp [oxmBytes, Hid]
    have hl4 := HH.out
    have hk := HK.out
    have hx1 := FT.out.x1
    obtain ⟨hd, hhd⟩ : ∃ l, headL C F H k = l := ⟨_, rfl⟩
    rw [hhd] at O8 hl4 HO
    clear hhd RR R3 RF HU HP OD hboxD HA O1 d0 d1 d2 d3 d4 d5 HH
    obtain ⟨d0, d1, d2, d3, d4, d5⟩ := (hbox.below O8.bel).six
    rcases FT.out.cls with rfl | rfl
    · have hkk : v.length + m.length = k := by rw [← hk]; rfl
      obtain ⟨l0, hl0⟩ : ∃ l0, hd ++ expL 32768 X = l0 := ⟨_, rfl⟩
      have hl1 : hd = l0 := by rw [← hl0]; simp [expL]
      rw [hl0] at HO
      rw [hl1] at O8 hl4
      have hlA : l0.length + v.length + m.length ≤ 208 := by omega
      have OA := O8
      clear hk FT O8 hl0 hl1 hl4 hkk
      go_wp2_with fail
      refine (OA.buf.bytes_ok v va vc (by omega) (IV.out.below OA.bel)).mono ?_
      rintro e w8 ⟨rfl, p8, hG⟩
      have OB := OA.went hG
      clear d0 d1 d2 d3 d4 d5 hG OA
      obtain ⟨d0, d1, d2, d3, d4, d5⟩ := (hbox.below OB.bel).six
      have hlB : (l0 ++ v).length + m.length ≤ 208 := by rw [List.length_append]; omega
      go_wp2_with fail
      refine (OB.buf.bytes_ok m ma mc hlB (IM.out.below OB.bel)).mono ?_
      rintro e w9 ⟨rfl, p9, hG⟩
      have OC := OB.went hG
      clear d0 d1 d2 d3 d4 d5 hG OB
      obtain ⟨xs, hxs⟩ : ∃ xs, l0 ++ v ++ m = xs := ⟨_, rfl⟩
      rw [hxs] at OC
      rw [hxs] at HO
      clear hxs hlB hlA
      go_wp2_with fail
      refine OC.buf.done_ok.mono ?_
      rintro e w10 ⟨rfl, hF⟩
      obtain ⟨ad, cp, he, hl, hc, hI⟩ := own_ints hF.own
      have he1 : ad = some ⟨w9.heap.size, 0, none⟩ := by simpa using (congrArg (fun x => match x with | Value.slice a _ _ => a | _ => none) he).symm
      have HF := hid hF.bel
      have HI := hid hI
      have HE1 := hid he1
      clear he hl hc hI hF he1
      go_wp2_with fail
      go_ret2
      rw [HO.out]
      exact ⟨some ⟨w9.heap.size, 0, none⟩, xs.length, rfl, below_on HB.out (below_on OC.bel HF.out), by rw [← HE1.out]; exact HI.out, Nat.le_refl _⟩
    · have hkk : v.length + m.length + 4 = k := by rw [← hk]; rfl
      obtain ⟨l0, hl0⟩ : ∃ l0, hd ++ expL 65535 X = l0 := ⟨_, rfl⟩
      have hl1 : hd ++ bytesL X 4 = l0 := by rw [← hl0]; simp [expL]
      rw [hl0] at HO
      have hl2 : l0.length = 8 := by rw [← hl1, List.length_append, hl4, bytesL_length]
      have hx4 : X < p256 4 := by simp [p256]; omega
      have HN := hid (O8.buf.num_ok (n := 4) (by decide) (by decide) hX0 hx4 (by omega))
      rw [hl1] at HN
      have hlA : l0.length + v.length + m.length ≤ 208 := by omega
      clear hk FT hl0 hl1 hl2 hl4 hkk hx4
      go_wp2_with fail
      refine HN.out.mono ?_
      rintro e w7 ⟨rfl, p7, hG⟩
      have OA := O8.went hG
      clear d0 d1 d2 d3 d4 d5 hG O8 HN
      obtain ⟨d0, d1, d2, d3, d4, d5⟩ := (hbox.below OA.bel).six
      go_wp2_with fail
      refine (OA.buf.bytes_ok v va vc (by omega) (IV.out.below OA.bel)).mono ?_
      rintro e w8 ⟨rfl, p8, hG⟩
      have OB := OA.went hG
      clear d0 d1 d2 d3 d4 d5 hG OA
      obtain ⟨d0, d1, d2, d3, d4, d5⟩ := (hbox.below OB.bel).six
      have hlB : (l0 ++ v).length + m.length ≤ 208 := by rw [List.length_append]; omega
      go_wp2_with fail
      refine (OB.buf.bytes_ok m ma mc hlB (IM.out.below OB.bel)).mono ?_
      rintro e w9 ⟨rfl, p9, hG⟩
      have OC := OB.went hG
      clear d0 d1 d2 d3 d4 d5 hG OB
      obtain ⟨xs, hxs⟩ : ∃ xs, l0 ++ v ++ m = xs := ⟨_, rfl⟩
      rw [hxs] at OC
      rw [hxs] at HO
      clear hxs hlB hlA
      go_wp2_with fail
      refine OC.buf.done_ok.mono ?_
      rintro e w10 ⟨rfl, hF⟩
      obtain ⟨ad, cp, he, hl, hc, hI⟩ := own_ints hF.own
      have he1 : ad = some ⟨w9.heap.size, 0, none⟩ := by simpa using (congrArg (fun x => match x with | Value.slice a _ _ => a | _ => none) he).symm
      have HF := hid hF.bel
      have HI := hid hI
      have HE1 := hid he1
      clear he hl hc hI hF he1
      go_wp2_with fail
      go_ret2
      rw [HO.out]
      exact ⟨some ⟨w9.heap.size, 0, none⟩, xs.length, rfl, below_on HB.out (below_on OC.bel HF.out), by rw [← HE1.out]; exact HI.out, Nat.le_refl _⟩
end Go.Proofs.Ytfogpofgmnibcaa
