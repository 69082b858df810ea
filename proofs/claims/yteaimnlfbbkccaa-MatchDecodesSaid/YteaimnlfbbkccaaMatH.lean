/- Package match: the iterator over the values that bytes are. -/
import Derived.Test.YteaimnlfbbkccaaMatC
import Derived.Test.YteaimnlfbbkccaaMrg3
namespace Go.Proofs.Yteaimnlfbbkccaa
open Go.RowKit
set_option linter.unusedVariables false
set_option maxRecDepth 100000
attribute [local go_sem] Oper.semAt_some

theorem ent_others10 {W W' : World} {row : Option Nat} {h : Ent9} (e : EntIn W h) (hg : W.grownBy W' row) (hr : ∀ r, row = some r → ∃ o : Obj, W.heap[r]? = some o ∧ o.isCells = false) : EntIn W' h :=
  ⟨ints_others10 e.iv hg hr, ints_others10 e.im hg hr, e.ov, e.om, e.cm, e.c, e.f, e.x⟩
/-- what has come so far, of bytes of which at_ are read -/
structure PreV (b : List Int) (at_ : Nat) (pre : List Ent9) : Prop where
  le : at_ ≤ b.length
  few : 4 * pre.length ≤ at_
  cut : Hid (vals10 b = (pre.map Ent9.o ++ (vals10 (b.drop at_)).1, (vals10 (b.drop at_)).2))
theorem preV_nil (b : List Int) : PreV b 0 [] := ⟨Nat.zero_le _, by simp, by show _ = _; simp⟩
theorem PreV.ok {b : List Int} {at_ : Nat} {pre : List Ent9} (h : PreV b at_ pre) (hlt : at_ < b.length) {o : Oxm8} (hd : decL (b.drop at_) = .ok o) (hn : o.n ≤ (b.drop at_).length) {x : Ent9} (hx : x.o = ox10 o) : PreV b (at_ + o.n) (pre ++ [x]) := by
  have h4 := dec_pos10 hd
  have hb : b.drop at_ ≠ [] := by intro e; have := congrArg List.length e; rw [List.length_drop] at this; simp at this; omega
  rw [List.length_drop] at hn
  refine ⟨by omega, by rw [List.length_append]; have := h.few; simp; omega, ?_⟩
  show _ = _
  rw [h.cut.out, vals_ok hb hd, List.drop_drop, List.map_append]
  simp [hx]
theorem PreV.err {b : List Int} {at_ : Nat} {pre : List Ent9} (h : PreV b at_ pre) (hlt : at_ < b.length) {q : Int} (hd : decL (b.drop at_) = .error q) : vals10 b = (pre.map Ent9.o, q) := by
  have hb : b.drop at_ ≠ [] := by intro e; have := congrArg List.length e; rw [List.length_drop] at this; simp at this; omega
  rw [h.cut.out, vals_err hb hd]
  simp
theorem PreV.done {b : List Int} {at_ : Nat} {pre : List Ent9} (h : PreV b at_ pre) (hge : b.length ≤ at_) : vals10 b = (pre.map Ent9.o, 0) := by
  rw [h.cut.out, List.drop_eq_nil_of_le hge, vals_nil]
  simp
/-- a value that comes behind others -/
structure NextV (b : List Int) (pre : List Ent9) (x : Ent9) (n : Nat) (w : World) : Prop where
  new : (∀ q : Addr, x.va = some q → n ≤ q.block) ∧ (∀ q : Addr, x.ma = some q → n ≤ q.block)
  ent : EntIn w x
  few : x.o.v.length ≤ 1000 ∧ x.o.m.length ≤ 1000
  front : ∃ k, PreV b k (pre ++ [x])
theorem NextV.own (b : List Int) (pre : List Ent9) (n B : Nat) : OwnFrom B (fun x W => NextV b pre x n W) :=
  fun x W W' row hx hg hr => ⟨hx.new, ent_others10 hx.ent hg (fun r e => (hr r e).2), hx.few, hx.front⟩

structure IterV (w0 : World) (a : Option Addr) (c p : Nat) (b : List Int) (at_ : Nat) (pre : List Ent9) (w : World) : Prop where
  front : PreV b at_ pre
  box : w.cell? ⟨p, 0, none⟩ = some (.slice a b.length c)
  lt : p < w.heap.size
  stays : Stays w0 w
theorem IterV.kept {w0 w w' : World} {a : Option Addr} {c p : Nat} {b : List Int} {at_ : Nat} {pre : List Ent9} (h : IterV w0 a c p b at_ pre w) (hs : w.heap.size ≤ w'.heap.size) (hk : ∀ k, (k = p ∨ k < w0.heap.size) → k < w.heap.size → w'.heap[k]? = w.heap[k]?) : IterV w0 a c p b at_ pre w' :=
  ⟨h.front, (World.cell?_of_block (a := ⟨p, 0, none⟩) (hk p (.inl rfl) h.lt)).trans h.box, Nat.lt_of_lt_of_le h.lt hs, Nat.le_trans h.stays.1 hs, fun k hk' => (hk k (.inr hk') (Nat.lt_of_lt_of_le hk' h.stays.1)).trans (h.stays.2 k hk')⟩
theorem IterV.below {w0 w w' : World} {a : Option Addr} {c p : Nat} {b : List Int} {at_ : Nat} {pre : List Ent9} (h : IterV w0 a c p b at_ pre w) (hb : Below w.heap.size w w') : IterV w0 a c p b at_ pre w' :=
  h.kept hb.size (fun k _ hk => hb.block k hk)
/-- a value that was decoded is one that may stand in a list -/
theorem dec_ent10 {b : List Int} {o : Oxm8} (hd : decL b = .ok o) (ho : Octets b) {w : World} {a1 a2 : Option Addr} {c1 c2 : Nat} (h1 : Ints .u8 w a1 o.v) (h2 : Ints .u8 w a2 o.m) (hc : o.m.length ≤ c2) : EntIn w ⟨ox10 o, a1, c1, a2, c2⟩ ∧ o.v.length ≤ 255 ∧ o.m.length ≤ 255 ∧ o.n ≤ b.length := by
  obtain ⟨r1, r2, r3, r4⟩ := dec_right hd ho
  obtain ⟨q1, q2, q3, q4, _⟩ := raw_octets (dec_raw hd) ho
  have ft := right_facts r1
  refine ⟨⟨h1, h2, q1, q2, hc, ?_, ?_, ?_⟩, q3, q4, r2⟩
  · show _ ≤ o.C ∧ o.C ≤ _; rcases ft.cls with h | h <;> omega
  · show _ ≤ o.F ∧ o.F ≤ _; have := ft.f0; have := ft.f1; omega
  · show _ ≤ o.X ∧ o.X ≤ _; have := ft.x1; omega

set_option maxHeartbeats 4000000 in
theorem values10_yields (w0 w : World) (a : Option Addr) (c p : Nat) (b : List Int) (hbc : b.length ≤ c) (hc : c ≤ 9223372036854775807) (ho : Octets b) (hb0 : Ints .u8 w0 a b) (hI : IterV w0 a c p b 0 [] w) :
    YieldsT (α := Ent9) Try.prog 100 #[.pointer (some ⟨p, 0, none⟩)] (fun x => #[x.val, .int .i64 0]) (fun q => #[.agg #[.int .i64 0, .int .i64 0, .bool false, .int .u64 0, .slice none 0 0, .slice none 0 0], .int .i64 q]) (NextV b) (fun k => k = p ∨ k < w0.heap.size)
      (fun xs => vals10 b = (xs.map Ent9.o, 0)) (fun pre q => vals10 b = (pre.map Ent9.o, q)) b.length w := by
  intro i J Jx W hW hJ hgood hbad h0
  have HI0 := hid (hI.below hW)
  have hbx := (hI.below hW).box
  have HJ0 := hid hJ
  have HG := hid hgood
  have HB := hid hbad
  have HO := hid ho
  have HB0 := hid hb0
  clear hgood hbad hJ hI ho hb0
  go_enter Try.func100, Try.ntmps100
  go_wp2
  go_loopw [3] (fun v wr => ∃ (at_ : Nat) (pre : List Ent9), v = .int .i64 at_ ∧ IterV w0 a c p b at_ pre wr ∧ J pre wr ∧ W.heap.size ≤ wr.heap.size) (fun v _ => b.length - (intOf v).toNat)
  case atStart => exact ⟨0, [], rfl, HI0.out, h0, Nat.le_refl _⟩
  case round =>
    obtain ⟨at_, pre, rfl, hi, hj, hsz⟩ := hrel
    have hle := hi.front.le
    have hcell := hi.box
    rcases Nat.lt_or_ge at_ b.length with hlt | hge
    · have hbr := ints_kept10 HB0.out hi.stays.2
      obtain ⟨M, off, hae, _⟩ := hbr at_ hlt
      subst hae
      have hne : ¬ c = at_ := by omega
      have hlti : (at_ : Int) < (b.length : Int) := by omega
      have hcapi : (b.length : Int) ≤ (c : Int) := by omega
      have hlei : (at_ : Int) ≤ (b.length : Int) := by omega
      have hs1 : ((b.length : Int) - (at_ : Int)).toNat = b.length - at_ := by omega
      have hs2 : ((c : Int) - (at_ : Int)).toNat = c - at_ := by omega
      have hd : (b.drop at_).length = b.length - at_ := List.length_drop
      have hdr := hbr.drop (j := at_) hbc
      rw [if_neg (by omega)] at hdr
      have HDEC := decode8_any (b.drop at_) (some ⟨M, off + at_, none⟩) (c - at_) (by rw [hd]; omega) (by omega) (HO.out.drop _) wr hdr
      rw [hd] at HDEC
      have HD := hid HDEC
      have hplt := hi.lt
      have HI := hid hi
      have HJ := hid hj
      have HLD := hid hd
      clear hi hj hbr hdr HDEC hd
      go_wp2_with fail
      refine HD.out.mono ?_
      rintro e w2 (⟨q, hq, hq0, rfl, hb2⟩ | ⟨o, a1, c1, a2, c2, hok, rfl, hb2, hI1, hI2, hc2, hn1, hn2⟩)
      · have hst := HI.out.front.err hlt hq
        have HST := hid hst
        obtain ⟨V, hV, hbV, hx⟩ := oxm_box w2 0 0 false 0 none 0 0 none 0 0
        have HV := hid hV
        have hb : Below wr.heap.size wr V := below_on hb2 hbV
        obtain ⟨fn, tmps, assign, body, hy, hR⟩ := HB.out pre q V (HJ0.out _ _ _ HJ.out hb) hq0 hst
        obtain ⟨x0, x1, x2, x3, x4, x5⟩ := hx.six
        clear hV hst hx hbV hb2 hq
        go_upto_region 3 with fail
        rw [HV.out]
        refine (wpIn_wide (n := 0)).1 ?_
        gi_wp2
        refine ⟨rfl, hR.mono ?_⟩
        rintro e W3 ⟨rfl, hJx⟩
        gi_wp2
        go_wp2
        refine bodyPost_ret (results_none rfl _ _ _) rfl ?_
        exact ⟨⟨_, rfl⟩, .inr ⟨pre, q, HST.out, hJx⟩⟩
      · obtain ⟨V, hV, hbV, hx⟩ := oxm_box w2 o.C o.F o.H o.X a1 o.v.length c1 a2 o.m.length c2
        have HV := hid hV
        have hb : Below wr.heap.size wr V := below_on hb2 hbV
        obtain ⟨hent, e1, e2, e3⟩ := dec_ent10 hok (HO.out.drop _) (hI1.below hbV) (hI2.below hbV) (a1 := a1) (c1 := c1) hc2
        have hfr := HI.out.front.ok hlt hok e3 (x := ⟨ox10 o, a1, c1, a2, c2⟩) rfl
        obtain ⟨fn, tmps, assign, body, hy, hR⟩ := HG.out pre ⟨ox10 o, a1, c1, a2, c2⟩ wr V HJ.out hb ⟨⟨hn1, hn2⟩, hent, ⟨by show o.v.length ≤ 1000; omega, by show o.m.length ≤ 1000; omega⟩, _, hfr⟩ (by have := HI.out.front.few; omega)
        have hy : (Instr.yield i #[.agg #[.int .i64 o.C, .int .i64 o.F, .bool o.H, .int .u64 o.X, .slice a1 o.v.length c1, .slice a2 o.m.length c2], .int .i64 0]).run Try.prog V = .ok (.round i fn tmps assign body) V := hy
        obtain ⟨x0, x1, x2, x3, x4, x5⟩ := hx.six
        have hs2' := hb.size
        have HFR := hid hfr
        have hn4 := dec_pos10 hok
        have hnn : at_ + o.n ≤ b.length := hfr.le
        obtain ⟨n, hn⟩ : ∃ n, o.n = n := ⟨_, rfl⟩
        rw [hn] at hn4 hnn HFR
        have HN := hid hn
        have HOK := hid hok
        have HPB := hid hb
        clear hV hent hfr hx hbV hb2 hI1 hI2 hok hc2 e1 e2 e3 hb
        rw [HN.out]
        clear hn
        go_upto_region 3 with fail
        rw [HV.out]
        refine (wpIn_wide (n := 0)).1 ?_
        gi_wp2
        refine ⟨rfl, hR.mono ?_⟩
        rintro e W3 ⟨rfl, hj3, hs3, hk3⟩
        have hI3 := hid ((HI.out.below HPB.out).kept hs3 hk3)
        have HJ3 := hid hj3
        have hsum : (at_ : Int) + (n : Int) ≤ 9223372036854775807 := by omega
        clear hk3 hj3 hR hy x0 x1 x2 x3 x4 x5
        gi_wp2
        go_wp2
        go_roundw
        case rel => exact ⟨at_ + n, pre ++ [⟨ox10 o, a1, c1, a2, c2⟩], by go_num, ⟨HFR.out, hI3.out.box, hI3.out.lt, hI3.out.stays⟩, HJ3.out, by omega⟩
        case measure => simp [intOf]; omega
    · have hge' : (b.length : Int) ≤ (at_ : Int) := by omega
      have HI := hid hi
      clear hi
      go_wp2
      go_end0
      exact ⟨⟨_, rfl⟩, .inl ⟨pre, HI.out.front.done hge, hj⟩⟩
end Go.Proofs.Yteaimnlfbbkccaa
