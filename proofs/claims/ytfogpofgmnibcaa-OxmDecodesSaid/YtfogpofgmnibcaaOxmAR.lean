/- Layer 8's law of decoding. -/
import Derived.Test.YtfogpofgmnibcaaOxmAQ
import Derived.Test.YtfogpofgmnibcaaOxmS
import Derived.Test.YtfogpofgmnibcaaOxmV
import Derived.Test.YtfogpofgmnibcaaOxmZ
namespace Go.Proofs.Ytfogpofgmnibcaa
open Go.RowKit
set_option linter.unusedVariables false

/-- a value told, with how many and the error -/
def Told8 (C F : Int) (H : Bool) (X : Int) (v m : List Int) (n q : Int) (w : World) (e : Ending) (w' : World) : Prop :=
  ∃ a1 c1 a2 c2, e = .returned (.tuple #[.agg #[.int .i64 C, .int .i64 F, .bool H, .int .u64 X, .slice a1 v.length c1, .slice a2 m.length c2], .int .i64 n, .int .i64 q]) ∧ Below w.heap.size w w' ∧ Ints .u8 w' a1 v ∧ Ints .u8 w' a2 m
theorem told_ok8 {R : Except Int Oxm8} {w w' : World} {e : Ending} {o : Oxm8} (hr : R = .ok o) (h : DecPost R w e w') : Told8 o.C o.F o.H o.X o.v o.m o.n 0 w e w' := by
  rcases h with ⟨q', hq, _⟩ | ⟨o', a1, c1, a2, c2, hq, he, hb, h1, h2, _⟩
  · rw [hr] at hq; simp at hq
  · rw [hr] at hq
    obtain rfl : o = o' := by simpa using hq
    exact ⟨a1, c1, a2, c2, he, hb, h1, h2⟩
theorem told_err8 {R : Except Int Oxm8} {w w' : World} {e : Ending} {q : Int} (hr : R = .error q) (h : DecPost R w e w') : Told8 0 0 false 0 [] [] 0 q w e w' := by
  rcases h with ⟨q', hq, _, he, hb⟩ | ⟨o', a1, c1, a2, c2, hq, _⟩
  · rw [hr] at hq
    obtain rfl : q = q' := by simpa using hq
    exact ⟨none, 0, none, 0, he, hb, Ints.nil _ _ _, Ints.nil _ _ _⟩
  · rw [hr] at hq; simp at hq

set_option maxRecDepth 100000 in
set_option maxHeartbeats 4000000 in
theorem OxmDecodes_at (b : List Int) (a : Option Addr) (c : Nat) (hl : b.length ≤ 600) (w : World) (ib : Ints .u8 w a b) (C F : Int) (H : Bool) (X : Int) (v m : List Int) (n q : Int) (hv : v.length ≤ 1000) (hm : m.length ≤ 1000) (ov : Octets v) (om : Octets m)
    (DB : ∀ W, Ints .u8 W a b → Calls Try.prog 15 #[.slice a b.length c] W (Told8 C F H X v m n q W))
    (RD : ∀ W, Ints .u8 W a b → Calls Try.prog 16 #[.slice a b.length c] W (Told8 C F H X v m n q W)) :
    Calls Try.prog 4 #[.slice a b.length c] w fun e w' => e = .returned (.bool true) ∧ Below w.heap.size w w' := by
  have IB := hid ib
  have DB := hid DB
  have RD := hid RD
  have i6 : ¬ (600 : Int) < (b.length : Int) := by omega
  have RS := fun a1 c1 a2 c2 a3 c3 a4 c4 W iv im iv' im' => refSame8_any C F H X a1 c1 a2 c2 C F H X a3 c3 a4 c4 v m v m hv hm hv hm ov om ov om W iv im iv' im'
  rw [sameB_refl8] at RS
  have RS := hid RS
  clear ib hl hv hm ov om
  go_enter Try.func4, Try.ntmps4
  go_wp2_with fail
  refine (DB.out _ IB.out).mono ?_
  rintro e w1 ⟨a1, c1, a2, c2, rfl, hb1, j1, j2⟩
  obtain ⟨W1, hW1, hbW1, hx1⟩ := oxm_box w1 C F H X a1 v.length c1 a2 m.length c2
  have HW1 := hid hW1
  have HB1 := hid (below_on hb1 hbW1)
  have J1 := hid (j1.below hbW1)
  have J2 := hid (j2.below hbW1)
  clear hb1 j1 j2 hW1 hbW1 DB
  go_wp2_with fail
  rw [HW1.out]
  refine (RD.out _ (IB.out.below HB1.out)).mono ?_
  rintro e w2 ⟨a3, c3, a4, c4, rfl, hb2, j3, j4⟩
  have hx2 := hx1.below hb2
  obtain ⟨W2, hW2, hbW2, hy2⟩ := oxm_box w2 C F H X a3 v.length c3 a4 m.length c4
  have HW2 := hid hW2
  have hx3 := hx2.below hbW2
  have HB2 := hid (below_on (below_on HB1.out hb2) hbW2)
  have K1 := hid ((J1.out.below hb2).below hbW2)
  have K2 := hid ((J2.out.below hb2).below hbW2)
  have K3 := hid (j3.below hbW2)
  have K4 := hid (j4.below hbW2)
  clear hb2 j3 j4 hW2 hbW2 RD HW1 hx1 hx2 J1 J2
  obtain ⟨d0, d1, d2, d3, d4, d5⟩ := hx3.six
  obtain ⟨e0, e1, e2, e3, e4, e5⟩ := hy2.six
  go_upto_region 5 with fail
  rw [HW2.out]
  go_wp2_with fail
  refine (RS.out _ _ _ _ _ _ _ _ _ K1.out K2.out K3.out K4.out).mono ?_
  rintro e w3 ⟨rfl, hb3⟩
  have HB3 := hid (below_on HB2.out hb3)
  clear hb3 d0 d1 d2 d3 d4 d5 e0 e1 e2 e3 e4 e5 hx3 hy2 RS K1 K2 K3 K4
  go_wp2_with fail
  refine (sure8_any _).mono ?_
  rintro e w4 ⟨rfl, hb4⟩
  go_wp2_with fail
  go_ret
  exact ⟨rfl, below_on HB3.out hb4⟩
set_option maxRecDepth 100000 in
set_option maxHeartbeats 2000000 in
theorem OxmDecodes_long (b : List Int) (a : Option Addr) (c : Nat) (hl : ¬ b.length ≤ 600) (w : World) :
    Calls Try.prog 4 #[.slice a b.length c] w fun e w' => e = .returned (.bool true) ∧ Below w.heap.size w w' := by
  have i6 : (600 : Int) < (b.length : Int) := by omega
  clear hl
  go_enter Try.func4, Try.ntmps4
  go_wp2_with fail
  refine (sure8_any _).mono ?_
  rintro e w4 ⟨rfl, hb4⟩
  go_wp2_with fail
  go_ret
  exact ⟨rfl, hb4⟩
theorem OxmDecodes_walk (b : List Int) (a : Option Addr) (c : Nat) (w : World) (hbc : b.length ≤ c) (hc : c ≤ 9223372036854775807) (ob : Octets b) (ib : Ints .u8 w a b) :
    Calls Try.prog 4 #[.slice a b.length c] w fun e w' => e = .returned (.bool true) ∧ Below w.heap.size w w' := by
  by_cases hl : b.length ≤ 600
  · cases hd : decL b with
    | error q =>
      exact OxmDecodes_at b a c hl w ib 0 0 false 0 [] [] 0 q (by simp) (by simp) (by intro x hx; simp at hx) (by intro x hx; simp at hx)
        (fun W iw => (decode8_any b a c hbc hc ob W iw).mono fun e w' h => told_err8 hd h)
        (fun W iw => (refDecode8_any b a c hbc hc ob hl W iw).mono fun e w' h => told_err8 hd h)
    | ok o =>
      obtain ⟨ov, om, lv, lm, _⟩ := raw_octets (dec_raw hd) ob
      exact OxmDecodes_at b a c hl w ib o.C o.F o.H o.X o.v o.m o.n 0 (by omega) (by omega) ov om
        (fun W iw => (decode8_any b a c hbc hc ob W iw).mono fun e w' h => told_ok8 hd h)
        (fun W iw => (refDecode8_any b a c hbc hc ob hl W iw).mono fun e w' h => told_ok8 hd h)
  · exact OxmDecodes_long b a c hl w
end Go.Proofs.Ytfogpofgmnibcaa
