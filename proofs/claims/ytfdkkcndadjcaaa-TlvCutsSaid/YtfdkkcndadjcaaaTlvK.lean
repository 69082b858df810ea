/- Package tlv: the iterator over things as bytes. -/
import Derived.Test.YtfdkkcndadjcaaaTlvJ
namespace Go.Proofs.Ytfdkkcndadjcaaa
open Go.RowKit
attribute [local go_sem] Oper.semAt_some

/-- what comes behind some pieces -/
def afterB (pre : List (List Int)) : Except Int (List (List Int)) → Except Int (List (List Int))
  | .error q => .error q
  | .ok r => .ok (pre ++ r)
theorem afterB_afterB (pre mid : List (List Int)) (r : Except Int (List (List Int))) : afterB pre (afterB mid r) = afterB (pre ++ mid) r := by
  cases r <;> simp [afterB]
theorem afterB_nil (r : Except Int (List (List Int))) : afterB [] r = r := by cases r <;> rfl

/-- things as pieces of bytes, or the first error -/
def joinL (L S : Nat) (P : Bool) : List (Int × List Int) → Except Int (List (List Int))
  | [] => .ok []
  | h :: r => match writeL L S P h.1 h.2 with
    | .error q => .error q
    | .ok b => afterB [b] (joinL L S P r)

/-- a piece as it comes: its bytes, its block -/
structure Chunk where
  b : List Int
  k : Nat
def Chunk.v (h : Chunk) : Value := .slice (some ⟨h.k, 0, none⟩) h.b.length h.b.length
structure Chunk.ok (B : Nat) (h : Chunk) (w : World) : Prop where
  max : h.b.length ≤ 65600
  ints : Ints .u8 w (some ⟨h.k, 0, none⟩) h.b
  far : B ≤ h.k

/-- a thing that may come in -/
structure Thing.fits (B : Nat) (h : Thing) : Prop where
  len : h.x.length ≤ 1000000
  cap : h.x.length ≤ h.c
  max : h.c ≤ 9223372036854775807
  lo : -9223372036854775808 ≤ h.t
  hi : h.t ≤ 9223372036854775807
  far : h.x ≠ [] → ∀ q : Addr, h.a = some q → q.block < B

/-- what the iterator reads: the boxes, and what came in -/
def ReadsB (p s Bin : Nat) (k : Nat) : Prop := k = p ∨ k = s ∨ k < Bin

/-- the iterator's state between two rounds -/
structure WIter (L S : Nat) (P : Bool) (B O : Int) (l : List Thing) (a : Option Addr) (s Bin at_ : Nat) (pre : List Chunk) (w : World) : Prop where
  le : at_ ≤ l.length
  few : pre.length ≤ at_
  join : Hid (joinL L S P (l.map Thing.val) = afterB (pre.map Chunk.b) (joinL L S P ((l.drop at_).map Thing.val)))
  shape : ShAt w s L S P B O
  items : Items w a l
  bodies : ∀ h ∈ l, Ints .u8 w h.a h.x
  hs : s < w.heap.size
  ha : l ≠ [] → ∀ q : Addr, a = some q → q.block < Bin
  hBin : Bin ≤ w.heap.size

theorem Items.lt {w : World} {a : Option Addr} {l : List Thing} (h : Items w a l) (hl : l ≠ []) {q : Addr} (hq : a = some q) : q.block < w.heap.size := by
  obtain ⟨b, off, ha, hc, _⟩ := h 0 (by cases l; exact absurd rfl hl; simp)
  rw [hq] at ha
  cases ha
  exact World.block_lt_of_cell? w _ hc
theorem Items.kept {w w' : World} {a : Option Addr} {l : List Thing} (h : Items w a l) (hb : ∀ q : Addr, a = some q → w'.heap[q.block]? = w.heap[q.block]?) : Items w' a l := by
  intro i hi
  obtain ⟨b, off, rfl, h1, h2⟩ := h i hi
  exact ⟨b, off, rfl, (World.cell?_of_block (a := ⟨b, off + i * 2, none⟩) (hb ⟨b, off, none⟩ rfl)).trans h1, (World.cell?_of_block (a := ⟨b, off + i * 2 + 1, none⟩) (hb ⟨b, off, none⟩ rfl)).trans h2⟩

section
variable {L S : Nat} {P : Bool} {B O : Int} {l : List Thing} {a : Option Addr} {s Bin at_ : Nat} {pre : List Chunk} {w w' : World}
theorem WIter.below (h : WIter L S P B O l a s Bin at_ pre w) (hb : Below w.heap.size w w') : WIter L S P B O l a s Bin at_ pre w' :=
  ⟨h.le, h.few, h.join, h.shape.below hb, h.items.below hb, fun x hx => (h.bodies x hx).below hb, Nat.lt_of_lt_of_le h.hs hb.size, h.ha, Nat.le_trans h.hBin hb.size⟩
theorem WIter.kept (h : WIter L S P B O l a s Bin at_ pre w) (hf : ∀ x ∈ l, Thing.fits Bin x) (hs : w.heap.size ≤ w'.heap.size) {p : Nat} (hk : ∀ k, ReadsB p s Bin k → k < w.heap.size → w'.heap[k]? = w.heap[k]?) : WIter L S P B O l a s Bin at_ pre w' :=
  ⟨h.le, h.few, h.join, h.shape.kept (hk s (.inr (.inl rfl)) h.hs), (by
      by_cases hl : l = []
      · subst hl; exact Items.nil _ _
      · exact h.items.kept (fun q hq => hk q.block (.inr (.inr (h.ha hl q hq))) (Nat.lt_of_lt_of_le (h.ha hl q hq) h.hBin))),
    fun x hx => (by
      by_cases hx0 : x.x = []
      · rw [hx0]; exact Ints.nil _ _ _
      · exact (h.bodies x hx).kept (fun q hq => hk q.block (.inr (.inr ((hf x hx).far hx0 q hq))) (Nat.lt_of_lt_of_le ((hf x hx).far hx0 q hq) h.hBin))), Nat.lt_of_lt_of_le h.hs hs, h.ha, Nat.le_trans h.hBin hs⟩
theorem WIter.step (h : WIter L S P B O l a s Bin at_ pre w) (hlt : at_ < l.length) {b : List Int} {k : Nat} (hw : writeL L S P l[at_].t l[at_].x = .ok b) : WIter L S P B O l a s Bin (at_ + 1) (pre ++ [⟨b, k⟩]) w := by
  refine ⟨hlt, by rw [List.length_append]; simp; have := h.few; omega, ?_, h.shape, h.items, h.bodies, h.hs, h.ha, h.hBin⟩
  have hd : l.drop at_ = l[at_] :: l.drop (at_ + 1) := List.drop_eq_getElem_cons hlt
  show joinL L S P (l.map Thing.val) = _
  rw [h.join.out, hd, List.map_cons]
  show afterB _ (match writeL L S P l[at_].t l[at_].x with | .error q => .error q | .ok b => afterB [b] (joinL L S P ((l.drop (at_ + 1)).map Thing.val))) = _
  rw [hw]
  simp only []
  rw [afterB_afterB, List.map_append]
  rfl
theorem WIter.stop (h : WIter L S P B O l a s Bin at_ pre w) (hlt : at_ < l.length) {q : Int} (hw : writeL L S P l[at_].t l[at_].x = .error q) : joinL L S P (l.map Thing.val) = .error q := by
  have hd : l.drop at_ = l[at_] :: l.drop (at_ + 1) := List.drop_eq_getElem_cons hlt
  rw [h.join.out, hd, List.map_cons]
  show afterB _ (match writeL L S P l[at_].t l[at_].x with | .error q => .error q | .ok b => afterB [b] (joinL L S P ((l.drop (at_ + 1)).map Thing.val))) = _
  rw [hw]
  rfl
end

theorem writeL_len {L S : Nat} {P : Bool} {t : Int} {x bs : List Int} (hS : 1 ≤ S) (hS64 : S ≤ 64) (h : writeL L S P t x = .ok bs) : bs.length ≤ 65600 ∧ 4 ≤ bs.length := by
  unfold writeL at h
  split at h
  · rename_i k
    have hz := zer_lt hS P (4 + x.length)
    simp only [Except.ok.injEq] at h
    subst h
    simp [bytesL_length]
    omega
  · cases h
theorem writeL_err {L S : Nat} {P : Bool} {t : Int} {x : List Int} {q : Int} (h : writeL L S P t x = .error q) : q ≠ 0 := by
  unfold writeL at h
  split at h
  · cases h
  · cases h; decide

set_option maxRecDepth 100000 in
set_option maxHeartbeats 4000000 in
theorem written_yields (w : World) (L S : Nat) (P : Bool) (B O : Int) (hS : 1 ≤ S) (hS64 : S ≤ 64) (l : List Thing) (a : Option Addr) (c p s Bin : Nat) (hl : l.length ≤ 1000000) (hf : ∀ x ∈ l, Thing.fits Bin x) (hbox : w.cell? ⟨p, 0, none⟩ = some (.slice a l.length c))
    (hI : WIter L S P B O l a s Bin 0 [] w) (B0 : Nat) (hB0 : B0 ≤ w.heap.size) :
    Yields (α := Chunk) Try.prog 36 #[.pointer (some ⟨p, 0, none⟩), .pointer (some ⟨s, 0, none⟩)] (fun x => #[x.v, .int .i64 0]) (fun q => #[.slice none 0 0, .int .i64 q]) (Chunk.ok B0) (ReadsB p s Bin)
      (fun xs => joinL L S P (l.map Thing.val) = .ok (xs.map Chunk.b)) (fun _ q => joinL L S P (l.map Thing.val) = .error q) l.length w := by
  intro i J Jx W hW hJ hgood hbad h0
  have HI0 := hid (hI.below hW)
  have hbx := cell_keep hbox hW
  have HJ0 := hid hJ
  have HG := hid hgood
  have HB := hid hbad
  have HF := hid hf
  clear hgood hbad hJ hI hf hbox
  go_enter Try.func36, Try.ntmps36
  go_wp2
  go_loopw [10] (fun v wr => ∃ (at_ : Nat) (pre : List Chunk), v = .int .i64 at_ ∧ WIter L S P B O l a s Bin at_ pre wr ∧ J pre wr ∧ W.heap.size ≤ wr.heap.size) (fun v _ => l.length - (intOf v).toNat)
  case atStart => exact ⟨0, [], rfl, HI0.out, h0, Nat.le_refl _⟩
  case round =>
    obtain ⟨at_, pre, rfl, hi, hj, hsz⟩ := hrel
    have hle := hi.le
    rcases Nat.lt_or_ge at_ l.length with hlt | hge
    · obtain ⟨b, off, rfl, e0, e1⟩ := hi.items at_ hlt
      have hmem : l[at_] ∈ l := List.getElem_mem hlt
      have hfit := HF.out _ hmem
      have hbody := hi.bodies _ hmem
      have hlti : (at_ : Int) < (l.length : Int) := by omega
      have hsl := hi.hs
      have hsn : ¬ s = wr.heap.size := Nat.ne_of_lt hsl
      obtain ⟨h, hh⟩ : ∃ h, h = l[at_] := ⟨_, rfl⟩
      rw [← hh] at e0 e1 hfit hbody
      have HH := hid hh
      clear hh hmem
      obtain ⟨ht, hx, hha, hhc⟩ := h
      dsimp only at e0 e1
      have HWR := hid (fun W (hW : Below wr.heap.size wr W) => write_any W L S P B O ht hS hS64 hx hha hhc hfit.len (hbody.below hW) (fun hx0 q hq => Nat.lt_of_lt_of_le (hfit.far hx0 q hq) (Nat.le_trans hi.hBin hW.size)) hfit.lo hfit.hi)
      obtain ⟨d0, d1, d2, d3, d4⟩ := hi.shape
      have HI := hid hi
      have HJ := hid hj
      clear hi hj hfit hbody
      have hlen := HI.out.few
      cases hw : writeL L S P ht hx with
      | error q =>
        rw [hw] at HWR
        have hq0 : q ≠ 0 := writeL_err hw
        have hstop : joinL L S P (l.map Thing.val) = .error q := HI.out.stop hlt (by rw [← HH.out]; exact hw)
        have HST := hid hstop
        clear hw hstop
        go_wp2_with fail
        refine (HWR.out _ (below_alloc _ _)).mono ?_
        rintro e w2 ⟨rfl, hb2⟩
        have hb : Below wr.heap.size wr w2 := below_more (below_alloc _ _) hb2
        obtain ⟨fn, tmps, assign, body, hy, hR⟩ := HB.out pre q w2 (HJ0.out _ _ _ HJ.out hb) hq0
        go_upto_region 4 with fail
        refine (wpIn_wide (n := 0)).1 ?_
        gi_wp2
        refine ⟨rfl, hR.mono ?_⟩
        rintro e W3 ⟨rfl, hJx⟩
        gi_wp2
        go_wp2
        refine bodyPost_ret (results_none rfl _ _ _) rfl ?_
        exact ⟨⟨_, rfl⟩, .inr ⟨pre, q, HST.out, hJx⟩⟩
      | ok bs =>
        rw [hw] at HWR
        have HHW := hid hw
        have hwl := (writeL_len hS hS64 hw).1
        clear hw
        go_wp2_with fail
        refine (HWR.out _ (below_alloc _ _)).mono ?_
        rintro e w2 ⟨k, rfl, hk, hbl, hbi, hb2⟩
        have hb : Below wr.heap.size wr w2 := below_more (below_alloc _ _) hb2
        have hkB : B0 ≤ k := by have := hW.size; rw [World.size_alloc] at hk; omega
        obtain ⟨fn, tmps, assign, body, hy, hR⟩ := HG.out pre ⟨bs, k⟩ w2 (HJ0.out _ _ _ HJ.out hb) ⟨hwl, hbi, hkB⟩ (by omega)
        have hy : (Instr.yield i #[.slice (some ⟨k, 0, none⟩) bs.length bs.length, .int .i64 0]).run Try.prog w2 = .ok (.round i fn tmps assign body) w2 := hy
        have hs2 := hb.size
        go_upto_region 4 with fail
        refine (wpIn_wide (n := 0)).1 ?_
        gi_wp2
        refine ⟨rfl, hR.mono ?_⟩
        rintro e W3 ⟨rfl, hj3, hs3, hk3⟩
        have hI3 := hid ((HI.out.below hb).kept HF.out hs3 hk3)
        have HJ3 := hid hj3
        clear hk3 hj3 hR hy
        gi_wp2
        go_wp2
        go_roundw
        case rel => exact ⟨at_ + 1, pre ++ [⟨bs, k⟩], by go_num, hI3.out.step hlt (by rw [← HH.out]; exact HHW.out), HJ3.out, by omega⟩
        case measure => simp [intOf]; omega
    · have hge' : (l.length : Int) ≤ (at_ : Int) := by omega
      have hdn : l.drop at_ = [] := List.drop_eq_nil_of_le hge
      have HI := hid hi
      clear hi
      go_wp2
      go_end0
      refine ⟨⟨_, rfl⟩, .inl ⟨pre, ?_, hj⟩⟩
      rw [HI.out.join.out, hdn]
      simp [joinL, afterB]
end Go.Proofs.Ytfdkkcndadjcaaa
