/- Package cover: a finder is made. -/
import Derived.Test.YtpmkfkanolhocaaGreatCovN
import Derived.Deep.RegionHeld3
namespace Go.Proofs.YtpmkfkanolhocaaGreat
open Go.RowKit
set_option linter.unusedVariables false
set_option maxRecDepth 100000

theorem elemPat : ElemN Tryz.prog 70 43 (.agg #[.bool false, .slice none 0 0, .slice none 0 0]) 3 56 := ⟨Tryz.underlying70, by kernel_rfl, rfl, by decide⟩
section
variable {P : Program} {t ty e : TypeId} {z : Value} {size bytes : Nat} {w : World}
/-- append(s, x...), where x has elements of several cells, in a region that draws its order -/
theorem step_app_many {ops : Array Oper} {o : Oper} {a : Act} {K : Act → World → Prop} {Q : Exit → Act → World → Prop} {R : Prop} (hgd : o.guard = none) (s x : Operand)
    (ho : o.op = .call { callee := .builtin .append, args := #[s, x], argTypes := #[t, t] }) (E : ElemN P t e z size bytes)
    {v : Value} (hs : a.eval s = v) {n : Nat} {xs : List Value} (hown : w.ownsRow 0 e size v n xs)
    {ad : Addr} {m c : Nat} (hx : a.eval x = .slice (some ad) m c) (news : List Value) (hl : news.length = m * size)
    (hnews : ∀ j u, news[j]? = some u → w.cell? (ad.add j) = some u) (h1 : ∀ u ∈ news, u.oneCell' = true) (h63 : n + m ≤ 140737488355328) (hbytes : (n + m) * bytes ≤ 140737488355328)
    (h : ∀ v' w', GrewN e size w w' v v' (n + m) (xs ++ news) → K (a.put o.dst v') w') : if Region.wanted o (yielded ops a.tmps) = true then Oper.wp P o a w K Q else R := by
  have hw : Region.wanted o (yielded ops a.tmps) = true := by simp [Region.wanted, hgd]
  rw [if_pos hw]
  obtain ⟨v', w', hr, hg⟩ := run_app_many (P := P) (ty := o.type) E hown ad m c news hl hnews h1 h63 hbytes
  unfold Oper.wp execOp
  simp only [ho, resolve, invoke, builtin, Sem.run_bind, Sem.run_pure, Result.andThen_ok, List.map_toArray, List.map_cons, List.map_nil, hs, hx, hr]
  exact h v' w' hg
end
/-- the cells of a pattern -/
def patC (o : Ox9) (va : Option Addr) (vc : Nat) (pa : Option Addr) (pc : Nat) : List Value := [.bool o.H, .slice va o.v.length vc, .slice pa o.v.length pc]
theorem pat_flat (o : Ox9) (va : Option Addr) (vc : Nat) (pa : Option Addr) (pc : Nat) : ∀ u ∈ patC o va vc pa pc, u.oneCell' = true := by
  intro u hu
  simp [patC] at hu
  rcases hu with rfl | rfl | rfl <;> rfl
theorem pat_cells {w : World} {b : Nat} {o : Ox9} {va : Option Addr} {vc : Nat} {pa : Option Addr} {pc : Nat} (h : BoxL w b (patC o va vc pa pc)) : ∀ j u, (patC o va vc pa pc)[j]? = some u → w.cell? ((⟨b, 0, none⟩ : Addr).add j) = some u := by
  intro j u hj
  rw [add_none, Nat.zero_add]
  exact h.cell j u hj
theorem pat_grew {w w' : World} {o : Ox9} {va : Option Addr} {vc : Nat} {pa : Option Addr} {pc : Nat} {v' : Value} (h : GrewN 43 3 w w' (.slice none 0 0) v' (0 + 1) ([] ++ patC o va vc pa pc)) (iv : Ints .u8 w' va o.v) (im : Ints .u8 w' pa (mask11 o)) : PatS w' v' o := by
  rcases h.own.2 with ⟨_, h0⟩ | ⟨g, cap, cur, rfl, _⟩
  · cases h0
  · have hc := h.own.cells (g := g) rfl
    have c := fun (j : Nat) (u : Value) (hj : (patC o va vc pa pc)[j]? = some u) => by
      have := hc j u hj
      rwa [add_none, Nat.zero_add] at this
    exact ⟨g, cap, va, vc, pa, pc, rfl, c 0 _ rfl, c 1 _ rfl, c 2 _ rfl, iv, im⟩
/-- what the region that puts a pattern into the map reads -/
def Reg11 (bk B bo bn : Nat) (C F : Int) (H : Bool) (X : Int) (s5 s6 : Value) (w : World) : Prop :=
  w.cell? ⟨bk, 0, none⟩ = some (.map (some B)) ∧ w.cell? ⟨bn, 0, none⟩ = some (.int .i64 C) ∧ w.cell? ⟨bn, 1, none⟩ = some (.int .i64 F) ∧ w.cell? ⟨bn, 2, none⟩ = some (.int .u64 X) ∧
  w.cell? ⟨bo, 0, none⟩ = some (.int .i64 C) ∧ w.cell? ⟨bo, 1, none⟩ = some (.int .i64 F) ∧ w.cell? ⟨bo, 2, none⟩ = some (.bool H) ∧ w.cell? ⟨bo, 3, none⟩ = some (.int .u64 X) ∧ w.cell? ⟨bo, 4, none⟩ = some s5 ∧ w.cell? ⟨bo, 5, none⟩ = some s6
theorem far_map {w w' : World} {B : Nat} {p : Addr} {u : Value} (hm : ∀ o, w.cell? ⟨B, o, none⟩ = none) (hb : w.grownBy w' (some B)) {b o : Nat} (hc : w.cell? ⟨b, o, none⟩ = some u) : w'.cell? ⟨b, o, none⟩ = some u := by
  refine hb.cell hc fun e => ?_
  simp at e
  rw [e, hm] at hc; cases hc
theorem Reg11.by {bk B bo bn : Nat} {C F : Int} {H : Bool} {X : Int} {s5 s6 : Value} {w w' : World} (h : Reg11 bk B bo bn C F H X s5 s6 w) (hm : ∀ o, w.cell? ⟨B, o, none⟩ = none) (hb : w.grownBy w' (some B)) : Reg11 bk B bo bn C F H X s5 s6 w' := by
  obtain ⟨h0, h1, h2, h3, h4, h5, h6, h7, h8, h9⟩ := h
  have k := fun {b o : Nat} {u : Value} (hc : w.cell? ⟨b, o, none⟩ = some u) => far_map (p := ⟨b, o, none⟩) hm hb hc
  exact ⟨k h0, k h1, k h2, k h3, k h4, k h5, k h6, k h7, k h8, k h9⟩
theorem Reg11.below {bk B bo bn : Nat} {C F : Int} {H : Bool} {X : Int} {s5 s6 : Value} {w w' : World} (h : Reg11 bk B bo bn C F H X s5 s6 w) (hb : Below w.heap.size w w') : Reg11 bk B bo bn C F H X s5 s6 w' := by
  obtain ⟨h0, h1, h2, h3, h4, h5, h6, h7, h8, h9⟩ := h
  exact ⟨cell_keep h0 hb, cell_keep h1 hb, cell_keep h2 hb, cell_keep h3 hb, cell_keep h4 hb, cell_keep h5 hb, cell_keep h6 hb, cell_keep h7 hb, cell_keep h8 hb, cell_keep h9 hb⟩
theorem ints_map {w w' : World} {B : Nat} (hm : ∀ o, w.cell? ⟨B, o, none⟩ = none) (hb : w.grownBy w' (some B)) {k : IntKind} {a : Option Addr} {l : List Int} (h : Ints k w a l) : Ints k w' a l := by
  intro i hi
  obtain ⟨b, off, ha, hc⟩ := h i hi
  exact ⟨b, off, ha, far_map (p := ⟨b, off, none⟩) hm hb hc⟩
theorem PatS.map {w w' : World} {B : Nat} (hm : ∀ o, w.cell? ⟨B, o, none⟩ = none) (hb : w.grownBy w' (some B)) {v : Value} {o : Ox9} (h : PatS w v o) : PatS w' v o := by
  obtain ⟨q, c, va, vc, pa, pc, e, h0, h1, h2, h3, h4⟩ := h
  exact ⟨q, c, va, vc, pa, pc, e, far_map (p := ⟨q, 0, none⟩) hm hb h0, far_map (p := ⟨q, 0, none⟩) hm hb h1, far_map (p := ⟨q, 0, none⟩) hm hb h2, ints_map hm hb h3, ints_map hm hb h4⟩
theorem ent_map {w w' : World} {B : Nat} (hm : ∀ o, w.cell? ⟨B, o, none⟩ = none) (hb : w.grownBy w' (some B)) {h : Ent9} (hi : EntIn w h) : EntIn w' h :=
  ⟨ints_map hm hb hi.iv, ints_map hm hb hi.im, hi.ov, hi.om, hi.cm, hi.c, hi.f, hi.x⟩
theorem Got11.map {w w' : World} {B : Nat} (hm : ∀ o, w.cell? ⟨B, o, none⟩ = none) (hb : w.grownBy w' (some B)) {L : List Ox9} {o : Ox9} {v : Value} (h : Got11 w L o v) : Got11 w' L o v := by
  rcases h with ⟨x, h1, h2, h3⟩ | h
  · exact .inl ⟨x, h1, h2, h3.map hm hb⟩
  · exact .inr h
/-- the map before a round, read by keys; its word for the next value is nil -/
theorem got_step {w : World} {L : List Ox9} {x : Ox9} {G : Lit → Value} {v : Value} (hx : InR x) (hL : (L ++ [x]).Pairwise (fun a b => alike9 a b = false)) (hG : ∀ o, InR o → Got11 w L o (G (nameK o))) (hv : PatS w v x) :
    ∀ o, InR o → Got11 w (L ++ [x]) o (if litEq (nameK o) (nameK x) = true then v else G (nameK o)) := by
  intro o ho
  rw [nameK_eq ho hx]
  by_cases h : alike9 o x = true
  · rw [if_pos h]
    exact .inl ⟨x, by simp, by rw [alike_symm9]; exact h, hv⟩
  · rw [if_neg h]
    rcases hG o ho with ⟨y, h1, h2, h3⟩ | ⟨h1, h2⟩
    · exact .inl ⟨y, by simp [h1], h2, h3⟩
    · refine .inr ⟨fun y hy => ?_, h2⟩
      rcases List.mem_append.1 hy with hy | hy
      · exact h1 y hy
      · obtain rfl : y = x := by simpa using hy
        rw [alike_symm9]; simpa using h
theorem got_none {w : World} {L : List Ox9} {x : Ox9} {G : Lit → Value} (hx : InR x) (hL : (L ++ [x]).Pairwise (fun a b => alike9 a b = false)) (hG : ∀ o, InR o → Got11 w L o (G (nameK o))) : G (nameK x) = .slice none 0 0 := by
  rcases hG x hx with ⟨y, h1, h2, _⟩ | ⟨_, h⟩
  · rw [(List.pairwise_append.1 hL).2.2 y h1 x (by simp)] at h2; cases h2
  · exact h
theorem makeMap11 (w : World) : (Instr.makeMap 66 none).run Tryz.prog w = .ok (.map (some w.heap.size)) (w.alloc (.map #[] 0)) := by kernel_rfl
/-- the blocks that a finder lays: which function holds, the map, where the map is named -/
theorem finder_boxes (w : World) (f : FuncId) : ∃ W, ((w.alloc (.cells #[.func (.func f) #[] #[]] 44)).alloc (.map #[] 0)).alloc (.cells #[.map (some (w.heap.size + 1))] 66) = W ∧ Below w.heap.size w W ∧
    W.cell? ⟨w.heap.size, 0, none⟩ = some (.func (.func f) #[] #[]) ∧ W.cell? ⟨w.heap.size + 2, 0, none⟩ = some (.map (some (w.heap.size + 1))) ∧ MapV W 68 (w.heap.size + 1) 0 (.slice none 0 0) (fun _ => .slice none 0 0) ∧ W.heap.size = w.heap.size + 3 := by
  obtain ⟨W1, h1, b1, x1, s1⟩ := box_any w [.func (.func f) #[] #[]] 44
  have hm := MapV.made W1 68 (.slice none 0 0)
  have b2 := below_alloc W1 (.map #[] 0)
  have s2 : (W1.alloc (.map #[] 0)).heap.size = W1.heap.size + 1 := World.size_alloc ..
  generalize hW2 : W1.alloc (.map #[] 0) = W2 at hm b2 s2
  obtain ⟨W3, h3, b3, x3, s3⟩ := box_any W2 [.map (some (w.heap.size + 1))] 66
  rw [s1] at hm s2
  rw [s2] at x3 s3
  refine ⟨W3, by rw [← h3, ← hW2, ← h1], below_on (below_on b1 b2) b3, cell_keep (cell_keep (x1.cell 0 _ rfl) b2) b3, x3.cell 0 _ rfl, hm.below b3, s3⟩
theorem by_any {w w' : World} {row : Option Nat} (h : w.grownBy w' none) : w.grownBy w' row := by
  obtain ⟨a, b, c, d, e⟩ := h
  exact ⟨a, b, c, d, fun k hk _ => e k hk (by simp)⟩
theorem by_below {w w' : World} {row : Option Nat} (h : Below w.heap.size w w') : w.grownBy w' row := by_any (below_by_none h)
theorem by_trans {a b c : World} {row : Option Nat} (h : a.grownBy b row) (k : b.grownBy c row) : a.grownBy c row := grownBy_trans h k (.inl rfl)
/-- between two rounds of the loop that fills the map -/
structure FillAt (w0 : World) (f : FuncId) (bk b3 B : Nat) (L : List Ox9) (w : World) : Prop where
  fin : Finder11 w f bk b3 B L
  bel : Below w0.heap.size w0 w
  new : w0.heap.size ≤ B
theorem fill_step {w0 w6 w7 w9 w10 : World} {f : FuncId} {bk b3 B n : Nat} {L : List Ox9} {x : Ox9} {G : Lit → Value} {v : Value} {va : Option Addr} {vc : Nat} {pa : Option Addr} {pc : Nat} {w8 : World}
    (hF : Finder11 w6 f bk b3 B L) (hM : MapV w6 68 B n (.slice none 0 0) G) (hn : n ≤ L.length) (hG : ∀ o, InR o → Got11 w6 L o (G (nameK o))) (hx : InR x) (hpw : (L ++ [x]).Pairwise (fun a b => alike9 a b = false))
    (hb : Below w0.heap.size w0 w6) (hB : w0.heap.size ≤ B) (h69 : w6.grownBy w9 (some B)) (n7 : ∀ o, w7.cell? ⟨B, o, none⟩ = none) (h79 : w7.grownBy w9 (some B)) (n9 : ∀ o, w9.cell? ⟨B, o, none⟩ = none)
    (hpv : PatV w7 (.agg #[.bool x.H, .slice va x.v.length vc, .slice pa x.v.length pc]) x) (hg : GrewN 43 3 w8 w9 (.slice none 0 0) v (0 + 1) ([] ++ patC x va vc pa pc))
    (hM10 : MapV w10 68 B (n + 1) (.slice none 0 0) (fun y => if litEq y (nameK x) = true then v else G y)) (h10 : w9.grownBy w10 (some B)) : FillAt w0 f bk b3 B (L ++ [x]) w10 := by
  have hp : PatS w9 v x := by
    obtain ⟨va', vc', pa', pc', e, i1, i2⟩ := hpv
    simp at e
    obtain ⟨⟨rfl, rfl⟩, rfl, rfl⟩ := e
    exact pat_grew hg (ints_map n7 h79 i1) (ints_map n7 h79 i2)
  have c9 := fun {b o : Nat} {u : Value} (hc : w6.cell? ⟨b, o, none⟩ = some u) => far_map (p := ⟨b, o, none⟩) hM.nocell h69 hc
  have h60 := by_trans h69 h10
  have c10 := fun {b o : Nat} {u : Value} (hc : w6.cell? ⟨b, o, none⟩ = some u) => far_map (p := ⟨b, o, none⟩) hM.nocell h60 hc
  refine ⟨⟨c10 hF.fn, c10 hF.kn, n + 1, _, hM10, by rw [List.length_append]; simp; omega, ?_⟩, hb.grown h60 hb.size (fun g e => by simp at e; omega), hB⟩
  intro o ho
  exact (got_step hx hpw (fun o ho => (hG o ho).map hM.nocell h69) hp o ho).map n9 h10
def FinderPost (f : FuncId) (L : List Ox9) (w : World) (e : Ending) (w' : World) : Prop :=
  ∃ bk b3 B, e = .returned (.func (.func 55) #[] #[.pointer (some ⟨bk, 0, none⟩), .pointer (some ⟨b3, 0, none⟩)]) ∧ Finder11 w' f bk b3 B L ∧ Below w.heap.size w w'
/-- the two halves of a store, as the walk runs them -/
theorem MapMid.run {w : World} {b n : Nat} {z : Value} {G : Lit → Value} {kl : Lit} {st : Nat} (h : MapMid w 68 66 b n z G kl st) (v : Value) :
    ∃ w3, (Instr.entryStore 66 (.map (some b)) (.int .i64 st) v).run Tryz.prog w = .ok () w3 ∧ MapV w3 68 b (n + 1) z (fun x => if litEq x kl = true then v else G x) ∧ w.grownBy w3 (some b) := by
  obtain ⟨es, clock, h1, h2⟩ := h
  exact h2 w v h1
theorem MapV.open {w : World} {b n : Nat} {G : Lit → Value} (h : MapV w 68 b n (.slice none 0 0) G) (hn : n < 100000) {C F X : Int} {kl : Lit} (hkey : keyOf Tryz.prog 68 (nameV C F X) = some kl) (hG : G kl = .slice none 0 0) :
    ∃ (st : Nat) (w' : World), (Instr.mapEntry 66 (.map (some b)) (.agg #[.int .i64 C, .int .i64 F, .int .u64 X])).run Tryz.prog w = .ok (.tuple #[.slice none 0 0, .int .i64 st]) w' ∧ MapMid w' 68 66 b n (.slice none 0 0) G kl st ∧ w.grownBy w' (some b) := by
  obtain ⟨st, w', h1, h2, h3⟩ := h.entry nameLaw11 Tryz.underlying66 zero_pats hn hkey
  rw [hG] at h1
  exact ⟨st, w', h1, h2, h3⟩
set_option maxHeartbeats 4000000 in
theorem finder_any (f : FuncId) (l : List Ent9) (a : Option Addr) (c : Nat) (w : World) (hL : L9 w a l) (hO : OkL (l.map Ent9.o)) :
    Calls Tryz.prog 29 #[.slice a l.length c, .func (.func f) #[] #[]] w (FinderPost f (l.map Ent9.o) w) := by
  have HL := hid hL
  have HO := hid hO
  have hll : l.length ≤ 1000 := hL.len
  have mk := makeMap11 (w.alloc (.cells #[.func (.func f) #[] #[]] 44))
  obtain ⟨W, hW, hbW, hf0, hk0, hM0, hsW⟩ := finder_boxes w f
  have HW := hid hW
  have HF0 := hid (FillAt.mk (w0 := w) (f := f) (bk := w.heap.size + 2) (b3 := w.heap.size) (B := w.heap.size + 1) (L := []) (w := W) ⟨hf0, hk0, 0, _, hM0, by simp, fun o ho => .inr ⟨by simp, rfl⟩⟩ hbW (by omega))
  clear hL hO hW hbW hf0 hk0 hM0 hsW
  go_enter Tryz.func29, Tryz.ntmps29
  go_upto_region 2 with fail
  rw [HW.out]
  go_wp2_with fail
  go_loopg [12] (l.length) (fun kx s12 wr => ∃ i : Nat, s12 = .int .i64 i ∧ i ≤ l.length ∧ l.length - i ≤ kx ∧ Hid (FillAt w f (w.heap.size + 2) w.heap.size (w.heap.size + 1) ((l.map Ent9.o).take i) wr))
  case atStart => exact ⟨0, rfl, by omega, by omega, HF0⟩
  case round =>
    obtain ⟨i, rfl, hi, hkx, hF⟩ := hrel
    by_cases hlt : i < l.length
    · have hltz : (i : Int) < (l.length : Int) := by omega
      have hl := HL.out.below hF.out.bel
      obtain ⟨b, off, rfl, c0, c1, c2, c3, c4, c5⟩ := hl.ox i hlt
      have hE := hl.ent l[i] (List.getElem_mem hlt)
      have hsz := hl.few l[i] (List.getElem_mem hlt)
      have hget : (l.map Ent9.o)[i]? = some l[i].o := by simp [hlt]
      have hok := HO.out.ok l[i].o (List.mem_of_getElem? hget)
      generalize l[i] = h at c0 c1 c2 c3 c4 c5 hE hsz hget hok
      obtain ⟨W3, hW3, hbW3, hx3⟩ := oxm_box wr h.o.C h.o.F h.o.H h.o.X h.va h.o.v.length h.vc h.ma h.o.m.length h.mc
      have HW3 := hid hW3
      obtain ⟨x0, x1, x2, x3, x4, x5⟩ := hx3.six
      have HN := hid (nameOf_any h W3)
      have HX3 := hid hx3
      have HE := hid (And.intro (hE.below hbW3) (And.intro hsz hget))
      have HOK := hid hok
      have HF3 := hid (FillAt.mk (hF.out.fin.below hbW3) (below_on hF.out.bel hbW3) hF.out.new)
      clear hl hE hsz hget hok hW3 hx3 hbW3
      unfold Ent9.val nameV at HN
      go_upto_region 5 with fail
      rw [HW3.out]
      clear c0 c1 c2 c3 c4 c5
      go_wp2_with fail
      refine HN.out.mono ?_
      rintro e w5 ⟨rfl, hb5⟩
      obtain ⟨W6, hW6, hbW6, hx6, hs6⟩ := box_any w5 [.int .i64 h.o.C, .int .i64 h.o.F, .int .u64 h.o.X] 68
      have HW6 := hid hW6
      obtain ⟨n0, n1, n2⟩ := hx6.three
      obtain ⟨x0, x1, x2, x3, x4, x5⟩ := ((HX3.out.below hb5).below hbW6).six
      have hF6 := (HF3.out.fin.below hb5).below hbW6
      have hREG : Reg11 (w.heap.size + 2) (w.heap.size + 1) wr.heap.size w5.heap.size h.o.C h.o.F h.o.H h.o.X (.slice h.va h.o.v.length h.vc) (.slice h.ma h.o.m.length h.mc) W6 := ⟨hF6.kn, n0, n1, n2, x0, x1, x2, x3, x4, x5⟩
      have hREGD := hREG.below (below_drew8 W6)
      have hEn := ((HE.out.1.below hb5).below hbW6).below (below_drew8 W6)
      have hFD := hF6.below (below_drew8 W6)
      obtain ⟨n, G, hM, hn, hG⟩ := hFD.known
      have hin := HE.out.1.inR
      have hpw : ((l.map Ent9.o).take i ++ [h.o]).Pairwise (fun a b => alike9 a b = false) := by
        have := HO.out.once
        have e : (l.map Ent9.o).take i ++ [h.o] = (l.map Ent9.o).take (i + 1) := by rw [List.take_add_one, HE.out.2.2]; rfl
        rw [e]
        exact this.sublist (List.take_sublist _ _)
      have hnil := got_none hin hpw hG
      have hkey := nameK_is hin
      have hn2 : n < 100000 := by rw [List.length_take] at hn; omega
      obtain ⟨st0, wE0, hr0, mid0, hg0⟩ := hM.open hn2 hkey hnil
      have HREG := hid hREGD
      have HREG0 := hid (hREGD.by hM.nocell hg0)
      have HEN := hid hEn
      have HEN0 := hid (ent_map hM.nocell hg0 hEn)
      have HPA := hid (patternOf_any h W6.drew hEn HOK.out HE.out.2.1.1)
      have HPB := hid (patternOf_any h wE0 HEN0.out HOK.out HE.out.2.1.1)
      have HM := hid hM
      have HG := hid hG
      have HMID0 := hid mid0
      have HG0 := hid hg0
      have HFD := hid hFD
      have HB6 := hid (below_on (below_on HF3.out.bel hb5) hbW6)
      have HK := hid (And.intro hkey hnil)
      have HPW := hid hpw
      unfold Ent9.val at HPA HPB
      clear hW6 hx6 hREG hREGD hEn hFD hM hG hin hpw hnil hkey mid0 hg0 hF6 hb5 hbW6 n0 n1 n2 x0 x1 x2 x3 x4 x5
      go_upto_region 6 with fail
      rw [HW6.out]
      go_region_held3 (fun w' => w'.cell? ⟨w.heap.size + 2, 0, none⟩ = some (.map (some (w.heap.size + 1))) ∧ w'.cell? ⟨w5.heap.size, 0, none⟩ = some (.int .i64 h.o.C) ∧ w'.cell? ⟨w5.heap.size, 1, none⟩ = some (.int .i64 h.o.F) ∧ w'.cell? ⟨w5.heap.size, 2, none⟩ = some (.int .u64 h.o.X) ∧
        w'.cell? ⟨wr.heap.size, 0, none⟩ = some (.int .i64 h.o.C) ∧ w'.cell? ⟨wr.heap.size, 1, none⟩ = some (.int .i64 h.o.F) ∧ w'.cell? ⟨wr.heap.size, 2, none⟩ = some (.bool h.o.H) ∧ w'.cell? ⟨wr.heap.size, 3, none⟩ = some (.int .u64 h.o.X) ∧ w'.cell? ⟨wr.heap.size, 4, none⟩ = some (.slice h.va h.o.v.length h.vc) ∧ w'.cell? ⟨wr.heap.size, 5, none⟩ = some (.slice h.ma h.o.m.length h.mc))
        (first | exact HREG.out | exact HREG0.out | exact hR7 | exact hRE | exact hR8 | exact hR8E | exact hR9 | exact hR10 | exact hR7.below (below_alloc _ _) | exact hRE.below (below_alloc _ _) | fail)
        (first
          | (go_at_call 54; refine HPA.out.mono ?_; rintro e w7 ⟨x, rfl, hpv, hb7, pva, pvc, ppa, ppc, rfl⟩; have hR7 := HREG.out.below hb7; have hM7 := HM.out.below hb7; have N7 := hM7.nocell; have H67 : W6.drew.grownBy w7 (some (w.heap.size + 1)) := by_below hb7
             obtain ⟨st7, wE7, hr7, mid7, hg7⟩ := hM7.open hn2 HK.out.1 HK.out.2; have hRE := hR7.by N7 hg7
             have hM8 := hM7.below (below_alloc w7 (.cells #[.bool h.o.H, .slice pva h.o.v.length pvc, .slice ppa h.o.v.length ppc] 43)); have hR8 := hR7.below (below_alloc w7 (.cells #[.bool h.o.H, .slice pva h.o.v.length pvc, .slice ppa h.o.v.length ppc] 43))
             obtain ⟨st8, wE8, hr8, mid8, hg8⟩ := hM8.open hn2 HK.out.1 HK.out.2; have hR8E := hR8.by hM8.nocell hg8; have l7 := hM7.lt)
          | (go_at_call 54; refine HPB.out.mono ?_; rintro e w7 ⟨x, rfl, hpv, hb7, pva, pvc, ppa, ppc, rfl⟩; have hR7 := HREG0.out.below hb7; have mid7 := HMID0.out.below hb7; have N7 := mid7.nocell; have H67 := by_trans HG0.out (by_below (row := some (w.heap.size + 1)) hb7))
          | (refine step_app_many (v := .slice none 0 0) rfl _ _ rfl elemPat rfl (World.ownsRow_nil _ 0 _ 3) rfl (patC h.o pva pvc ppa ppc) rfl (pat_cells (BoxL.new w7 _ _)) (pat_flat _ _ _ _ _) (by omega) (by omega) ?_; rintro v9 w9 hg9; have H79 := by_trans (World.grownBy_alloc w7 (.cells #[.bool h.o.H, .slice pva h.o.v.length pvc, .slice ppa h.o.v.length ppc] 43) (some (w.heap.size + 1))) (by_any hg9.by_); have mid9 := (mid7.below (below_alloc w7 (.cells #[.bool h.o.H, .slice pva h.o.v.length pvc, .slice ppa h.o.v.length ppc] 43))).by hg9.by_ (by simp [Value.ownBlock]); have hR9 := hR7.by N7 H79
             obtain ⟨w10, hr10, hM10, hg10⟩ := mid9.run v9; have hR10 := hR9.by mid9.nocell hg10)
          | (refine step_app_many (v := .slice none 0 0) rfl _ _ rfl elemPat rfl (World.ownsRow_nil _ 0 _ 3) rfl (patC h.o pva pvc ppa ppc) rfl (pat_cells (BoxL.new wE7 _ _)) (pat_flat _ _ _ _ _) (by omega) (by omega) ?_; rintro v9 w9 hg9; have H79 := by_trans hg7 (by_trans (World.grownBy_alloc wE7 (.cells #[.bool h.o.H, .slice pva h.o.v.length pvc, .slice ppa h.o.v.length ppc] 43) (some (w.heap.size + 1))) (by_any hg9.by_)); have mid9 := (mid7.below (below_alloc wE7 (.cells #[.bool h.o.H, .slice pva h.o.v.length pvc, .slice ppa h.o.v.length ppc] 43))).by hg9.by_ (by simp [Value.ownBlock]); have hR9 := hR7.by N7 H79
             obtain ⟨w10, hr10, hM10, hg10⟩ := mid9.run v9; have hR10 := hR9.by mid9.nocell hg10)
          | (refine step_app_many (v := .slice none 0 0) rfl _ _ rfl elemPat rfl (World.ownsRow_nil _ 0 _ 3) rfl (patC h.o pva pvc ppa ppc) rfl (pat_cells ((BoxL.new w7 (patC h.o pva pvc ppa ppc) 43).by hg8 (by intro e; simp at e; omega))) (pat_flat _ _ _ _ _) (by omega) (by omega) ?_; rintro v9 w9 hg9; have H79 := by_trans (World.grownBy_alloc w7 (.cells #[.bool h.o.H, .slice pva h.o.v.length pvc, .slice ppa h.o.v.length ppc] 43) (some (w.heap.size + 1))) (by_trans hg8 (by_any hg9.by_)); have mid9 := mid8.by hg9.by_ (by simp [Value.ownBlock]); have hR9 := hR7.by N7 H79
             obtain ⟨w10, hr10, hM10, hg10⟩ := mid9.run v9; have hR10 := hR9.by mid9.nocell hg10)
          | fail)
      all_goals
        have hFS := fill_step HFD.out HM.out hn HG.out HE.out.1.inR HPW.out (below_dr9 HB6.out) hF.out.new (by_trans H67 H79) N7 H79 mid9.nocell hpv hg9 hM10 hg10
        have HFS := hid hFS
        clear hFS
        go_wp2_with fail
        go_roundg (l.length - (i + 1))
        case measure => omega
        case rel =>
          refine ⟨i + 1, by first | rfl | go_num, by omega, Nat.le_refl _, ?_⟩
          show FillAt _ _ _ _ _ _ _
          rw [List.take_add_one, HE.out.2.2]
          exact HFS.out
    · have hltz : ¬ (i : Int) < (l.length : Int) := by omega
      go_wp2_with fail
      go_ret
      refine ⟨w.heap.size + 2, w.heap.size, w.heap.size + 1, rfl, ?_, hF.out.bel⟩
      have := hF.out.fin
      rwa [List.take_of_length_le (by rw [List.length_map]; omega)] at this
end Go.Proofs.YtpmkfkanolhocaaGreat
