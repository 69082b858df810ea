/- An action as a value, and its box. -/
import Derived.Test.YtaddhahghglabaaActA
import Derived.Test.YtaddhahghglabaaMrg3
namespace Go.Proofs.Ytaddhahghglabaa
open Go.RowKit
set_option linter.unusedVariables false

/-- an action as a value, and where its bytes lie -/
structure Ent12 where
  T : Int
  A : Int
  B : Int
  o : Ox9
  va : Option Addr
  vc : Nat
  ma : Option Addr
  mc : Nat
  d : List Int
  da : Option Addr
  dc : Nat
def Ent12.cs (g : Ent12) : List Value := [.int .i64 g.T, .int .u64 g.A, .int .u64 g.B, .int .i64 g.o.C, .int .i64 g.o.F, .bool g.o.H, .int .u64 g.o.X, .slice g.va g.o.v.length g.vc, .slice g.ma g.o.m.length g.mc, .slice g.da g.d.length g.dc]
def Ent12.val (g : Ent12) : Value := .agg #[.int .i64 g.T, .int .u64 g.A, .int .u64 g.B, .int .i64 g.o.C, .int .i64 g.o.F, .bool g.o.H, .int .u64 g.o.X, .slice g.va g.o.v.length g.vc, .slice g.ma g.o.m.length g.mc, .slice g.da g.d.length g.dc]
def Ent12.act (g : Ent12) : Act12 := ⟨g.T, g.A, g.B, g.o, g.d⟩
/-- the value of no action: all zeros -/
def zero12 : Value := .agg #[.int .i64 0, .int .u64 0, .int .u64 0, .int .i64 0, .int .i64 0, .bool false, .int .u64 0, .slice none 0 0, .slice none 0 0, .slice none 0 0]
/-- its numbers have room, its bytes are there -/
structure ActIn (w : World) (g : Ent12) : Prop where
  t : -9223372036854775808 ≤ g.T ∧ g.T ≤ 9223372036854775807
  a : 0 ≤ g.A ∧ g.A ≤ 18446744073709551615
  b : 0 ≤ g.B ∧ g.B ≤ 18446744073709551615
  c : -9223372036854775808 ≤ g.o.C ∧ g.o.C ≤ 9223372036854775807
  f : -9223372036854775808 ≤ g.o.F ∧ g.o.F ≤ 9223372036854775807
  x : 0 ≤ g.o.X ∧ g.o.X ≤ 18446744073709551615
  lv : g.o.v.length ≤ 1000
  lm : g.o.m.length ≤ 1000
  ld : g.d.length ≤ 100000
  iv : Ints .u8 w g.va g.o.v
  im : Ints .u8 w g.ma g.o.m
  id : Ints .u8 w g.da g.d
  ov : Octets g.o.v
  om : Octets g.o.m
  od : Octets g.d
  cm : g.o.m.length ≤ g.mc
theorem ActIn.below {w w' : World} {g : Ent12} (h : ActIn w g) (hb : Below w.heap.size w w') : ActIn w' g :=
  ⟨h.t, h.a, h.b, h.c, h.f, h.x, h.lv, h.lm, h.ld, h.iv.below hb, h.im.below hb, h.id.below hb, h.ov, h.om, h.od, h.cm⟩
theorem ActIn.num {w : World} {g : Ent12} (h : ActIn w g) : g.act.In := by
  have e : p256 8 = 18446744073709551616 := by decide
  exact ⟨by rw [e]; have := h.a; show 0 ≤ g.A ∧ g.A < _; omega, by rw [e]; have := h.b; show 0 ≤ g.B ∧ g.B < _; omega, h.x.1⟩

section
variable {w w' : World} {b : Nat}
theorem BoxL.ten {v0 v1 v2 v3 v4 v5 v6 v7 v8 v9 : Value} (h : BoxL w b [v0, v1, v2, v3, v4, v5, v6, v7, v8, v9]) :
    w.cell? ⟨b, 0, none⟩ = some v0 ∧ w.cell? ⟨b, 1, none⟩ = some v1 ∧ w.cell? ⟨b, 2, none⟩ = some v2 ∧ w.cell? ⟨b, 3, none⟩ = some v3 ∧ w.cell? ⟨b, 4, none⟩ = some v4 ∧ w.cell? ⟨b, 5, none⟩ = some v5 ∧ w.cell? ⟨b, 6, none⟩ = some v6 ∧ w.cell? ⟨b, 7, none⟩ = some v7 ∧ w.cell? ⟨b, 8, none⟩ = some v8 ∧ w.cell? ⟨b, 9, none⟩ = some v9 :=
  ⟨h.cell 0 _ rfl, h.cell 1 _ rfl, h.cell 2 _ rfl, h.cell 3 _ rfl, h.cell 4 _ rfl, h.cell 5 _ rfl, h.cell 6 _ rfl, h.cell 7 _ rfl, h.cell 8 _ rfl, h.cell 9 _ rfl⟩
/-- the world behind the store of ten cells -/
def set10 (w : World) (b : Nat) (v0 v1 v2 v3 v4 v5 v6 v7 v8 v9 : Value) : World :=
  (((((((((w.setCell ⟨b, 0, none⟩ v0).setCell ⟨b, 1, none⟩ v1).setCell ⟨b, 2, none⟩ v2).setCell ⟨b, 3, none⟩ v3).setCell ⟨b, 4, none⟩ v4).setCell ⟨b, 5, none⟩ v5).setCell ⟨b, 6, none⟩ v6).setCell ⟨b, 7, none⟩ v7).setCell ⟨b, 8, none⟩ v8).setCell ⟨b, 9, none⟩ v9
theorem BoxL.set10 {u0 u1 u2 u3 u4 u5 u6 u7 u8 u9 : Value} (h : BoxL w b [u0, u1, u2, u3, u4, u5, u6, u7, u8, u9]) (v0 v1 v2 v3 v4 v5 v6 v7 v8 v9 : Value) :
    BoxL ((((((((((w.setCell ⟨b, 0, none⟩ v0).setCell ⟨b, 1, none⟩ v1).setCell ⟨b, 2, none⟩ v2).setCell ⟨b, 3, none⟩ v3).setCell ⟨b, 4, none⟩ v4).setCell ⟨b, 5, none⟩ v5).setCell ⟨b, 6, none⟩ v6).setCell ⟨b, 7, none⟩ v7).setCell ⟨b, 8, none⟩ v8).setCell ⟨b, 9, none⟩ v9) b [v0, v1, v2, v3, v4, v5, v6, v7, v8, v9] :=
  ((((((((((h.set 0 v0 (by simp)).set 1 v1 (by simp)).set 2 v2 (by simp)).set 3 v3 (by simp)).set 4 v4 (by simp)).set 5 v5 (by simp)).set 6 v6 (by simp)).set 7 v7 (by simp)).set 8 v8 (by simp)).set 9 v9 (by simp))
end
theorem act_box (w : World) (T A B C F : Int) (H : Bool) (X : Int) (va : Option Addr) (vl vc : Nat) (ma : Option Addr) (ml mc : Nat) (da : Option Addr) (dl dc : Nat) : ∃ W, w.alloc (.cells #[.int .i64 T, .int .u64 A, .int .u64 B, .int .i64 C, .int .i64 F, .bool H, .int .u64 X, .slice va vl vc, .slice ma ml mc, .slice da dl dc] 27) = W ∧ Below w.heap.size w W ∧ BoxL W w.heap.size [.int .i64 T, .int .u64 A, .int .u64 B, .int .i64 C, .int .i64 F, .bool H, .int .u64 X, .slice va vl vc, .slice ma ml mc, .slice da dl dc] :=
  ⟨_, rfl, below_alloc _ _, BoxL.new _ _ _⟩
/-- two actions, each in a box -/
theorem two_act (w : World) (T A B C F : Int) (H : Bool) (X : Int) (va : Option Addr) (vl vc : Nat) (ma : Option Addr) (ml mc : Nat) (da : Option Addr) (dl dc : Nat) (T' A' B' C' F' : Int) (H' : Bool) (X' : Int) (va' : Option Addr) (vl' vc' : Nat) (ma' : Option Addr) (ml' mc' : Nat) (da' : Option Addr) (dl' dc' : Nat) :
    ∃ W, (w.alloc (.cells #[.int .i64 T, .int .u64 A, .int .u64 B, .int .i64 C, .int .i64 F, .bool H, .int .u64 X, .slice va vl vc, .slice ma ml mc, .slice da dl dc] 27)).alloc (.cells #[.int .i64 T', .int .u64 A', .int .u64 B', .int .i64 C', .int .i64 F', .bool H', .int .u64 X', .slice va' vl' vc', .slice ma' ml' mc', .slice da' dl' dc'] 27) = W ∧ Below w.heap.size w W ∧
      BoxL W w.heap.size [.int .i64 T, .int .u64 A, .int .u64 B, .int .i64 C, .int .i64 F, .bool H, .int .u64 X, .slice va vl vc, .slice ma ml mc, .slice da dl dc] ∧ BoxL W (w.heap.size + 1) [.int .i64 T', .int .u64 A', .int .u64 B', .int .i64 C', .int .i64 F', .bool H', .int .u64 X', .slice va' vl' vc', .slice ma' ml' mc', .slice da' dl' dc'] := by
  obtain ⟨W1, h1, hb1, hx⟩ := act_box w T A B C F H X va vl vc ma ml mc da dl dc
  obtain ⟨W2, h2, hb2, hy⟩ := act_box W1 T' A' B' C' F' H' X' va' vl' vc' ma' ml' mc' da' dl' dc'
  have e : W1.heap.size = w.heap.size + 1 := by rw [← h1]; simp
  rw [e] at hy
  exact ⟨W2, by rw [h1, h2], below_on hb1 hb2, hx.below hb2, hy⟩

/-- the row of a type, as the program tells it -/
def rowP (t : Int) : List Int := (row12 t).getD []
def rowB (t : Int) : Bool := (row12 t).isSome || t == 25
/-- what a type is -/
theorem type_ways (t : Int) : t = 0 ∨ t = 11 ∨ t = 12 ∨ t = 15 ∨ t = 16 ∨ t = 17 ∨ t = 18 ∨ t = 19 ∨ t = 20 ∨ t = 21 ∨ t = 22 ∨ t = 23 ∨ t = 24 ∨ t = 25 ∨ t = 26 ∨ t = 27 ∨ t = 65535 ∨ (t ≠ 0 ∧ t ≠ 11 ∧ t ≠ 12 ∧ t ≠ 15 ∧ t ≠ 16 ∧ t ≠ 17 ∧ t ≠ 18 ∧ t ≠ 19 ∧ t ≠ 20 ∧ t ≠ 21 ∧ t ≠ 22 ∧ t ≠ 23 ∧ t ≠ 24 ∧ t ≠ 25 ∧ t ≠ 26 ∧ t ≠ 27 ∧ t ≠ 65535) := by omega
end Go.Proofs.Ytaddhahghglabaa
