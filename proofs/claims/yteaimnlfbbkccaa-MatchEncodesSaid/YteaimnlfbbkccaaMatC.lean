/- Package match: the iterator over values as bytes. -/
import Derived.Test.YteaimnlfbbkccaaMatA
import Derived.Test.YteaimnlfbbkccaaMatB
import Derived.Test.YteaimnlfbbkccaaMrg7
import Derived.Test.YteaimnlfbbkccaaMrg3
namespace Go.Proofs.Yteaimnlfbbkccaa
open Go.RowKit
set_option linter.unusedVariables false
attribute [local go_sem] Oper.semAt_some

theorem ints_kept10 {k : IntKind} {w w' : World} {a : Option Addr} {l : List Int} (h : Ints k w a l) (hb : ∀ j, j < w.heap.size → w'.heap[j]? = w.heap[j]?) : Ints k w' a l := by
  intro i hi
  obtain ⟨b, off, rfl, hc⟩ := h i hi
  exact ⟨b, off, rfl, (World.cell?_of_block (a := ⟨b, off + i, none⟩) (hb b (World.block_lt_of_cell? w _ hc))).trans hc⟩
theorem ints_others10 {k : IntKind} {W W' : World} {row : Option Nat} {a : Option Addr} {l : List Int} (h : Ints k W a l) (hg : W.grownBy W' row) (hr : ∀ r, row = some r → ∃ o : Obj, W.heap[r]? = some o ∧ o.isCells = false) : Ints k W' a l := by
  intro i hi
  obtain ⟨b, off, rfl, hc⟩ := h i hi
  exact ⟨b, off, rfl, cell_kept hc hg hr⟩
/-- the blocks of w stand in w' as they stood -/
def Stays (w w' : World) : Prop := w.heap.size ≤ w'.heap.size ∧ ∀ k, k < w.heap.size → w'.heap[k]? = w.heap[k]?
theorem Stays.of_below {w w' : World} (h : Below w.heap.size w w') : Stays w w' := ⟨h.size, h.block⟩
theorem Stays.trans {w w1 w2 : World} (h : Stays w w1) (k : Stays w1 w2) : Stays w w2 := ⟨Nat.le_trans h.1 k.1, fun i hi => (k.2 i (Nat.lt_of_lt_of_le hi h.1)).trans (h.2 i hi)⟩
theorem L9.stays {w w' : World} {a : Option Addr} {l : List Ent9} (h : L9 w a l) (hb : Stays w w') : L9 w' a l := by
  refine ⟨?_, fun x hx => ?_, h.few, h.len⟩
  · by_cases hl : l = []
    · rw [hl]; exact Oxms.nil _ _
    · exact h.ox.kept (fun q hq => hb.2 _ (h.ox.lt hl hq))
  · have e := h.ent x hx
    exact ⟨ints_kept10 e.iv hb.2, ints_kept10 e.im hb.2, e.ov, e.om, e.cm, e.c, e.f, e.x⟩

/-- a value's bytes as they come -/
structure Piece10 where
  x : List Int
  a : Option Addr
  c : Nat
def Piece10.v (h : Piece10) : Value := .slice h.a h.x.length h.c
/-- what has come so far is the front -/
structure Pre10 (l : List Ox9) (pre : List Piece10) : Prop where
  le : pre.length ≤ l.length
  is : pre.map Piece10.x = (l.take pre.length).map bytes10
  right : (l.take pre.length).all right10 = true
/-- a value's bytes that come behind others -/
structure Next10 (l : List Ox9) (pre : List Piece10) (p : Piece10) (w : World) : Prop where
  front : Pre10 l (pre ++ [p])
  ints : Ints .u8 w p.a p.x
  cap : p.x.length ≤ p.c
theorem Next10.own (l : List Ox9) (pre : List Piece10) (B : Nat) : OwnFrom B (Next10 l pre) :=
  fun x W W' row hx hg hr => ⟨hx.front, ints_others10 hx.ints hg (fun r e => (hr r e).2), hx.cap⟩
theorem pre10_nil (l : List Ox9) : Pre10 l [] := ⟨by simp, by simp, by simp⟩
theorem Pre10.snoc {l : List Ox9} {pre : List Piece10} (h : Pre10 l pre) {i : Nat} (hi : i = pre.length) {o : Ox9} (ho : l[i]? = some o) (hr : right10 o = true) {p : Piece10} (hp : p.x = bytes10 o) : Pre10 l (pre ++ [p]) := by
  subst hi
  obtain ⟨hlt, rfl⟩ := List.getElem?_eq_some_iff.1 ho
  have e : (pre ++ [p]).length = pre.length + 1 := by simp
  have et : l.take (pre.length + 1) = l.take pre.length ++ [l[pre.length]] := by rw [List.take_add_one, ho]; rfl
  refine ⟨by rw [e]; omega, ?_, ?_⟩
  · rw [e, et, List.map_append, List.map_append, h.is]
    simp [hp]
  · rw [e, et, List.all_append, h.right]
    simp [hr]
theorem Pre10.all {l : List Ox9} {pre : List Piece10} (h : Pre10 l pre) (hl : l.length ≤ pre.length) : l.all right10 = true ∧ pre.map Piece10.x = l.map bytes10 := by
  have e := h.le
  have h1 := h.right
  have h2 := h.is
  rw [List.take_of_length_le hl] at h1 h2
  exact ⟨h1, h2⟩
theorem all_not10 {l : List Ox9} {i : Nat} {o : Ox9} (ho : l[i]? = some o) (hr : right10 o = false) : l.all right10 = false := by
  cases h : l.all right10
  · rfl
  · have := List.all_eq_true.1 h o (List.mem_of_getElem? ho)
    rw [hr] at this; cases this

/-- the iterator's state between two rounds: w0 has the list -/
structure Iter10 (w0 : World) (a : Option Addr) (c p : Nat) (l : List Ent9) (pre : List Piece10) (w : World) : Prop where
  front : Pre10 (l.map Ent9.o) pre
  box : w.cell? ⟨p, 0, none⟩ = some (.slice a l.length c)
  lt : p < w.heap.size
  stays : Stays w0 w
theorem Iter10.kept {w0 w w' : World} {a : Option Addr} {c p : Nat} {l : List Ent9} {pre : List Piece10} (h : Iter10 w0 a c p l pre w) (hs : w.heap.size ≤ w'.heap.size) (hk : ∀ k, (k = p ∨ k < w0.heap.size) → k < w.heap.size → w'.heap[k]? = w.heap[k]?) : Iter10 w0 a c p l pre w' :=
  ⟨h.front, (World.cell?_of_block (a := ⟨p, 0, none⟩) (hk p (.inl rfl) h.lt)).trans h.box, Nat.lt_of_lt_of_le h.lt hs, Nat.le_trans h.stays.1 hs, fun k hk' => (hk k (.inr hk') (Nat.lt_of_lt_of_le hk' h.stays.1)).trans (h.stays.2 k hk')⟩
theorem Iter10.below {w0 w w' : World} {a : Option Addr} {c p : Nat} {l : List Ent9} {pre : List Piece10} (h : Iter10 w0 a c p l pre w) (hb : Below w.heap.size w w') : Iter10 w0 a c p l pre w' :=
  h.kept hb.size (fun k _ hk => hb.block k hk)

set_option maxRecDepth 100000 in
set_option maxHeartbeats 4000000 in
theorem written10_yields (w0 w : World) (a : Option Addr) (c p : Nat) (l : List Ent9) (hL : L9 w0 a l) (hI : Iter10 w0 a c p l [] w) :
    YieldsT (α := Piece10) Try.prog 53 #[.pointer (some ⟨p, 0, none⟩)] (fun x => #[x.v, .int .i64 0]) (fun q => #[.slice none 0 0, .int .i64 q]) (fun pre x _ => Next10 (l.map Ent9.o) pre x) (fun k => k = p ∨ k < w0.heap.size)
      (fun xs => (l.map Ent9.o).all right10 = true ∧ xs.map Piece10.x = (l.map Ent9.o).map bytes10) (fun _ q => q = 10001 ∧ (l.map Ent9.o).all right10 = false) l.length w := by
  intro i J Jx W hW hJ hgood hbad h0
  have HI0 := hid (hI.below hW)
  have hbx := (hI.below hW).box
  have HJ0 := hid hJ
  have HG := hid hgood
  have HB := hid hbad
  have HL := hid hL
  have hll : l.length ≤ 1000 := hL.len
  clear hgood hbad hJ hI hL
  go_enter Try.func53, Try.ntmps53
  go_wp2
  go_loopw [9] (fun v wr => ∃ (at_ : Nat) (pre : List Piece10), v = .int .i64 at_ ∧ at_ = pre.length ∧ Iter10 w0 a c p l pre wr ∧ J pre wr ∧ W.heap.size ≤ wr.heap.size) (fun v _ => l.length - (intOf v).toNat)
  case atStart => exact ⟨0, [], rfl, rfl, HI0.out, h0, Nat.le_refl _⟩
  case round =>
    obtain ⟨at_, pre, rfl, hat, hi, hj, hsz⟩ := hrel
    have hle : at_ ≤ l.length := by have := hi.front.le; rw [List.length_map] at this; omega
    rcases Nat.lt_or_ge at_ l.length with hlt | hge
    · have hl := HL.out.stays hi.stays
      obtain ⟨b, off, rfl, c0, c1, c2, c3, c4, c5⟩ := hl.ox at_ hlt
      have hmem : l[at_] ∈ l := List.getElem_mem hlt
      have hE := hl.ent _ hmem
      have hF := hl.few _ hmem
      have hlti : (at_ : Int) < (l.length : Int) := by omega
      have hget : (l.map Ent9.o)[at_]? = some l[at_].o := by simp [hlt]
      generalize l[at_] = h at c0 c1 c2 c3 c4 c5 hE hF hget
      obtain ⟨V, hV, hbV, hx⟩ := oxm_box wr h.o.C h.o.F h.o.H h.o.X h.va h.o.v.length h.vc h.ma h.o.m.length h.mc
      have HV := hid hV
      obtain ⟨x0, x1, x2, x3, x4, x5⟩ := hx.six
      have hplt := hi.lt
      have HI := hid hi
      have HJ := hid hj
      have HAT := hid hat
      have HGET := hid hget
      have HEN := hid (encode8_any h.o.C h.o.F h.o.H h.o.X h.va h.vc h.ma h.mc h.o.v h.o.m hF.1 hF.2 hE.cm hE.ov hE.om V (hE.iv.below hbV) (hE.im.below hbV) hE.x.1)
      have HBV := hid hbV
      clear hV hi hj hl hE hF hmem hget hat hx hbV
      go_upto_region 3 with fail
      rw [HV.out]
      go_wp2_with fail
      refine HEN.out.mono ?_
      rintro e w2 (⟨hr, rfl, hb2⟩ | ⟨hr, ad, cp, rfl, hb2, hI2, hcp⟩)
      · have hb : Below wr.heap.size wr w2 := below_on HBV.out hb2
        have HST := hid (all_not10 HGET.out hr)
        obtain ⟨fn, tmps, assign, body, hy, hR⟩ := HB.out pre 10001 w2 (HJ0.out _ _ _ HJ.out hb) (by decide) ⟨rfl, HST.out⟩
        clear hr x0 x1 x2 x3 x4 x5 c0 c1 c2 c3 c4 c5
        go_upto_region 4 with fail
        refine (wpIn_wide (n := 0)).1 ?_
        gi_wp2
        refine ⟨rfl, hR.mono ?_⟩
        rintro e W3 ⟨rfl, hJx⟩
        gi_wp2
        go_wp2
        refine bodyPost_ret (results_none rfl _ _ _) rfl ?_
        exact ⟨⟨_, rfl⟩, .inr ⟨pre, 10001, ⟨rfl, HST.out⟩, hJx⟩⟩
      · have hb : Below wr.heap.size wr w2 := below_on HBV.out hb2
        have hsn := HI.out.front.snoc HAT.out HGET.out hr (p := ⟨bytes10 h.o, ad, cp⟩) rfl
        obtain ⟨fn, tmps, assign, body, hy, hR⟩ := HG.out pre ⟨bytes10 h.o, ad, cp⟩ wr w2 HJ.out hb ⟨hsn, hI2, hcp⟩ (by have := HAT.out; omega)
        have hy : (Instr.yield i #[.slice ad (oxmBytes h.o.C h.o.F h.o.H h.o.X h.o.v h.o.m).length cp, .int .i64 0]).run Try.prog w2 = .ok (.round i fn tmps assign body) w2 := hy
        have HSN := hid hsn
        have hs2 := hb.size
        clear hr x0 x1 x2 x3 x4 x5 c0 c1 c2 c3 c4 c5 hsn hI2
        go_upto_region 4 with fail
        refine (wpIn_wide (n := 0)).1 ?_
        gi_wp2
        refine ⟨rfl, hR.mono ?_⟩
        rintro e W3 ⟨rfl, hj3, hs3, hk3⟩
        have hI3 := hid ((HI.out.below hb).kept hs3 hk3)
        have HJ3 := hid hj3
        clear hk3 hj3 hR hy
        gi_wp2
        go_wp2
        go_roundw
        case rel => exact ⟨at_ + 1, pre ++ [⟨bytes10 h.o, ad, cp⟩], by go_num, by rw [List.length_append, HAT.out]; rfl, ⟨HSN.out, hI3.out.box, hI3.out.lt, hI3.out.stays⟩, HJ3.out, by omega⟩
        case measure => simp [intOf]; omega
    · have hge' : (l.length : Int) ≤ (at_ : Int) := by omega
      have HI := hid hi
      clear hi
      go_wp2
      go_end0
      refine ⟨⟨_, rfl⟩, .inl ⟨pre, ?_, hj⟩⟩
      exact HI.out.front.all (by rw [List.length_map]; omega)
end Go.Proofs.Yteaimnlfbbkccaa
