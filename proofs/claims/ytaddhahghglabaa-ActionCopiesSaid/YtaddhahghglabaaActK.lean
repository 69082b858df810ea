/- Package action: an action as bytes. -/
import Derived.Test.YtaddhahghglabaaActJ
import Derived.Test.YtaddhahghglabaaMrg3
namespace Go.Proofs.Ytaddhahghglabaa
open Go.RowKit
set_option linter.unusedVariables false

/-- what encoding comes to -/
def EncPost12 (g : Ent12) (w : World) (e : Ending) (w' : World) : Prop :=
  (act12 g.act = none ∧ e = .returned (.tuple #[.slice none 0 0, .int .i64 10001]) ∧ Below w.heap.size w w') ∨
  (∃ x p, act12 g.act = some x ∧ e = .returned (.tuple #[.slice (some ⟨p, 0, none⟩) x.length x.length, .int .i64 0]) ∧ Below w.heap.size w w' ∧ Ints .u8 w' (some ⟨p, 0, none⟩) x ∧ w.heap.size ≤ p)
def head12 (t : Int) (n : Nat) : List Int := bytesL t 2 ++ (bytesL (n : Int) 2 ++ [])
theorem head12_length (t : Int) (n : Nat) : (head12 t n).length = 4 := by simp [head12, bytesL_length]
theorem putW_head12 {t : Int} {n : Nat} (h0 : 0 ≤ t) (h1 : t < 65536) (hn : n ≤ 65528) : putW [2, 2] [t, (n : Int)] = some (head12 t n) := by
  have r1 : rightW [2, 2] = true := by decide
  have r2 : countL [2, 2] = 2 := by decide
  have p2 : roomB t 2 = true := by simp [roomB, p256]; omega
  have p1 : roomB (n : Int) 2 = true := by simp [roomB, p256]; omega
  simp [putW, r1, r2, putL, p2, p1, head12]
theorem size_act {g : Ent12} {x : List Int} (h : act12 g.act = some x) : size12 g.act = x.length := by
  obtain ⟨b, hb, hw, hx, hl, h8, h9, h10, h11, h12⟩ := act_write h
  by_cases hT : g.T = 25
  · obtain ⟨_, _, hd, hs, rfl⟩ := body_25 hb hT
    have hr : rightB g.o.C g.o.F g.o.H g.o.X g.o.v g.o.m = true := by
      unfold setOk12 at hs
      simp only [Bool.and_eq_true] at hs
      exact hs.2
    have e1 : size8 g.o.C g.o.F g.o.H g.o.X g.o.v g.o.m = (bytes10 g.o).length := by
      unfold size8
      rw [if_pos hr]
      exact (oxmBytes_length _ _ _ _ _ _).symm
    unfold size12
    have e2 : rowP g.act.T = [] := by rw [show g.act.T = 25 from hT]; decide
    have e3 : g.act.d = [] := hd
    rw [e2, e3]
    show up12 (4 + sizeL [] + size8 g.o.C g.o.F g.o.H g.o.X g.o.v g.o.m + 0) = _
    rw [e1, hl]
    have ho : g.act.o = g.o := rfl
    rw [ho, List.length_append, List.length_replicate]
    have := pad_fits (bytes10 g.o).length
    unfold up12
    simp [sizeL]
    omega
  · obtain ⟨w, p, hr, h1, h2, h3, h4, h5, h6, h7, hp, hc, rfl⟩ := body_row hb hT
    have hl2 : x.length = 4 + (sizeL w + g.d.length) := by rw [hl, List.length_append, (putL_octets hp).2]; rfl
    rw [size_noOx hr h1]
    unfold up12
    omega
theorem row12_at {W V : World} {g mm r : Nat} {p : Option Nat} {l0 hd ws ns : List Int} {a b : Option Addr} {n k c d : Nat} (hP : putW ws ns = some hd) (hl : l0.length + hd.length ≤ r) (hU : U64s ns) (hw : ws.length ≤ 64) (en : n = ws.length) (ek : k = ns.length) (hd2 : k ≤ d) (O : BufOn W V g mm p r l0 [] 0) (ia : Ints .i64 V a ws) (ib : Ints .u64 V b ns) :
    Calls Try.prog 22 #[.pointer (some ⟨g, 0, none⟩), .slice a n c, .slice b k d] V fun e w' => e = .returned (.tuple #[]) ∧ ∃ p', BufOn W w' g mm p' r (l0 ++ hd) [] 0 := by
  refine (O.buf.row_ok ws ns hd hP a b n k c d en ek (by omega) hd2 hU ia ib hl).mono ?_
  rintro e w' ⟨rfl, p', hG⟩
  exact ⟨rfl, p', O.went hG⟩
theorem encode12_no (g : Ent12) (w : World) (hi : ActIn w g) (hn : act12 g.act = none) :
    Calls Try.prog 10 #[g.val] w (EncPost12 g w) := by
  obtain ⟨W, hW, hbW, hx⟩ := act_box w g.T g.A g.B g.o.C g.o.F g.o.H g.o.X g.va g.o.v.length g.vc g.ma g.o.m.length g.mc g.da g.d.length g.dc
  have HW := hid hW
  have HB := hid hbW
  have HN := hid hn
  have RI := hid (fun (V : World) (hV : Below w.heap.size w V) => actRight_any g V (hi.below hV))
  have hr : right12 g = false := by rw [right_act g hi.ld, hn]; rfl
  rw [hr] at RI
  clear hr hn hi hW hbW
  obtain ⟨T, A, B, ⟨C, F, H, X, v, m⟩, va, vc, ma, mc, d, da, dc⟩ := g
  unfold Ent12.val at *
  simp only at *
  obtain ⟨d0, d1, d2, d3, d4, d5, d6, d7, d8, d9⟩ := hx.ten
  go_enter Try.func10, Try.ntmps10
  go_wp2_with fail
  rw [HW.out]
  go_wp2_with fail
  refine (RI.out _ HB.out).mono ?_
  rintro e w1 ⟨rfl, hb⟩
  go_wp2_with fail
  go_ret2
  exact .inl ⟨HN.out, rfl, below_on HB.out hb⟩
end Go.Proofs.Ytaddhahghglabaa
