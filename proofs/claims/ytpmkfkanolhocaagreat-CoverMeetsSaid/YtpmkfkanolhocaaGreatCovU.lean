/- Package slices: Grow of nil, Concat of two lists of values. -/
import Derived.Test.YtpmkfkanolhocaaGreatCovT
namespace Go.Proofs.YtpmkfkanolhocaaGreat
open Go.RowKit
set_option linter.unusedVariables false
set_option maxRecDepth 100000

section
variable {P : Program} {t ty e : TypeId} {z : Value} {size bytes : Nat} {w : World}
theorem run_grow_many (E : ElemN P t e z size bytes) {tx : TypeId} {kx : IntKind} (htx : P.underlying tx = some (.int kx)) (n : Nat) (h0 : 0 < n) (hbytes : n * bytes ≤ 140737488355328) (h63 : n ≤ 140737488355328) :
    ∃ cap cur w', (Builtin.append_ #[t, tx] ty #[.slice none 0 0, .int kx n]).run P w = .ok (.slice (some ⟨w.heap.size, 0, none⟩) n cap) w' ∧ n ≤ cap ∧ cap ≤ maxLen ∧ w'.heap[w.heap.size]? = some (.cells cur e (0, 0)) ∧ cur.size = cap * size ∧ w.grownBy w' none := by
  obtain ⟨i, hi, hz, hs, hb⟩ : ∃ i, P.info? e = some i ∧ i.zero = some z ∧ i.size = size ∧ i.bytes = bytes := by
    have := E.info
    cases hi : P.info? e with
    | none => rw [hi] at this; simp at this
    | some i => rw [hi] at this; simp at this; exact ⟨i, rfl, this⟩
  have ht := E.under
  have wn : IntKind.i64.wrap (n : Int) = n := by rw [IntKind.wrap_i64]; omega
  have hneg : ¬ ((n : Int) < 0) := by omega
  subst hb
  subst hs
  have h48n : ¬ (281474976710656 < (n : Int) * (i.bytes : Int)) := by
    have h3 : ((n * i.bytes : Nat) : Int) ≤ 281474976710656 := by omega
    rw [Int.natCast_mul] at h3
    omega
  have h63' : ¬ (9223372036854775807 < (n : Int)) := by omega
  have h48' : ¬ (281474976710656 < Builtin.nextslicecap n 0 * i.bytes) := by rw [nextslicecap_zero (by omega)]; omega
  have hn0 : n ≠ 0 := by omega
  have hge := grownCap_ge w n 0 e
  have hcm : grownCap w n 0 e ≤ maxLen := grownCap_le_maxLen w n 0 e (by unfold maxLen; omega)
  refine ⟨grownCap w n 0 e, Builtin.zeroCells z.cells n ++ Builtin.zeroCells z.cells (grownCap w n 0 e - n), w.drew.alloc (.cells (Builtin.zeroCells z.cells n ++ Builtin.zeroCells z.cells (grownCap w n 0 e - n)) e), ?_, hge, hcm, heap_alloc_new w.drew _, ?_, ⟨rfl, rfl, rfl, by simp, fun k hk _ => _root_.Go.heap_alloc_old _ _ hk⟩⟩
  · simp [Builtin.append_, run_underlying ht, sizeOf, typeInfo, zeroValue, hi, hz, run_underlying htx, asInt, asIntOf, wn, hneg, h48n, hn0, h63', h48', Question.forced, run_firstCells_none, newRow, grownCap]
    intro hz0
    have hp := E.pos
    rcases Nat.mul_eq_zero.1 hz0 with h | h <;> omega
  · simp only [Array.size_append, size_zeroCells, E.cells, ← Nat.add_mul]
    congr 1
    omega
theorem wp_grow_many {ops : Array Oper} {rest : List Oper} {o : Oper} {a : Act} {Q : Exit → Act → World → Prop} (hgd : o.guard = none) (s x : Operand) {tx : TypeId} {kx : IntKind}
    (ho : o.op = .call { callee := .builtin .append, args := #[s, x], argTypes := #[t, tx] }) (E : ElemN P t e z size bytes) (htx : P.underlying tx = some (.int kx)) (hs : a.eval s = .slice none 0 0) {n : Nat} (hx : a.eval x = .int kx n) (h0 : 0 < n) (hbytes : n * bytes ≤ 140737488355328) (h63 : n ≤ 140737488355328)
    (h : ∀ cap w', n ≤ cap → cap ≤ maxLen → (∃ cur, w'.heap[w.heap.size]? = some (.cells cur e (0, 0)) ∧ cur.size = cap * size) → w.grownBy w' none → wpList P ops Q rest (a.put o.dst (.slice (some ⟨w.heap.size, 0, none⟩) n cap)) w') : wpList P ops Q (o :: rest) a w := by
  refine wpList_plain hgd fun K hK => ?_
  obtain ⟨cap, cur, w', hr, h1, h2, h3, h4, h5⟩ := run_grow_many (P := P) (ty := o.type) (w := w) E htx n h0 hbytes h63
  unfold Oper.wp execOp
  simp only [ho, resolve, invoke, builtin, Sem.run_bind, Sem.run_pure, Result.andThen_ok, List.map_toArray, List.map_cons, List.map_nil, hs, hx, hr]
  exact hK _ _ (h cap w' h1 h2 ⟨cur, h3, h4⟩ h5)
end
def GrowPost (w : World) (e : Ending) (w' : World) : Prop := ∃ va vc, e = .returned (.slice va 0 vc) ∧ FreshO w w' (.slice va 0 vc) 0 []
set_option maxHeartbeats 2000000 in
theorem grow_any (n : Nat) (hn : n ≤ 100000) (w : World) : Calls Tryz.prog 41 #[.slice none 0 0, .int .i64 n] w (GrowPost w) := by
  rcases Nat.eq_zero_or_pos n with rfl | hp
  · go_enter Tryz.func41, Tryz.ntmps41
    go_wp2_with fail
    go_ret
    exact ⟨none, 0, rfl, FreshO.nil w⟩
  · have hp1 : (0 : Int) < (n : Int) := by omega
    have hp2 : ¬ (n : Int) < 0 := by omega
    have hp3 : (1 : Int) ≤ (n : Int) := by omega
    go_enter Tryz.func41, Tryz.ntmps41
    go_wp2_with (at_builtin; refine wp_grow_many rfl _ _ rfl elemOxm Tryz.underlying3 rfl rfl hp (by omega) (by omega) ?_; rintro cap w1 h1 h2 ⟨cur, h3, h4⟩ h5)
    go_ret
    exact ⟨some ⟨w.heap.size, 0, none⟩, cap, rfl, ⟨⟨rfl, .inr ⟨w.heap.size, cap, cur, rfl, Nat.zero_le _, h3, Nat.zero_le _, h2, h4, by simp [oxmCells]⟩⟩, by_none_below h5, fun g e => by cases e; exact Nat.le_refl _⟩⟩

/-- two lists of values in a literal of two -/
def ConcatPost (l m : List Ent9) (w : World) (e : Ending) (w' : World) : Prop :=
  ∃ va vc, e = .returned (.slice va (l ++ m).length vc) ∧ L9 w' va (l ++ m) ∧ Below w.heap.size w w'
theorem FreshO.from {w w1 w' : World} {v : Value} {n : Nat} {D : List Ent9} (h : FreshO w1 w' v n D) (hb : Below w.heap.size w w1) : FreshO w w' v n D := FreshO.made hb h
set_option maxHeartbeats 4000000 in
theorem concat_any (l m : List Ent9) (a b : Option Addr) (c d q cq : Nat) (w : World) (hL : L9 w a l) (hM : L9 w b m) (hlm : l.length + m.length ≤ 1000) (h0 : w.cell? ⟨q, 0, none⟩ = some (.slice a l.length c)) (h1 : w.cell? ⟨q, 1, none⟩ = some (.slice b m.length d)) :
    Calls Tryz.prog 19 #[.slice (some ⟨q, 0, none⟩) 2 cq] w (ConcatPost l m w) := by
  have HL := hid hL
  have HM := hid hM
  have hs : IntKind.i64.wrap ((l.length : Int) + (m.length : Int)) = ((l.length + m.length : Nat) : Int) := by simp [IntKind.wrap, IntKind.bits, IntKind.signed]; omega
  have HG := hid (grow_any (l.length + m.length) (by omega) w)
  clear hL hM
  go_enter Tryz.func19, Tryz.ntmps19
  go_wp2_with fail
  go_loopg [3, 11] 2 (fun kx s3 s11 wr => w = wr ∧ ((s3 = .int .i64 0 ∧ s11 = .int .i64 0 ∧ 2 ≤ kx) ∨ (s3 = .int .i64 (l.length : Nat) ∧ s11 = .int .i64 1 ∧ 1 ≤ kx) ∨ (s3 = .int .i64 ((l.length + m.length : Nat) : Int) ∧ s11 = .int .i64 2)))
  case atStart => exact ⟨rfl, .inl ⟨rfl, rfl, Nat.le_refl _⟩⟩
  case round =>
    obtain ⟨rfl, hrel⟩ := hrel
    rcases hrel with ⟨rfl, rfl, hkx⟩ | ⟨rfl, rfl, hkx⟩ | ⟨rfl, rfl⟩
    · have hneg : ¬ (l.length : Int) < 0 := by omega
      go_wp2_with fail
      go_roundg 1
      case measure => omega
      case rel => exact ⟨rfl, .inr (.inl ⟨by first | rfl | go_num, by first | rfl | go_num, Nat.le_refl _⟩)⟩
    · have hneg : ¬ ((l.length : Int) + (m.length : Int)) < 0 := by omega
      go_wp2_with fail
      go_roundg 0
      case measure => omega
      case rel => exact ⟨rfl, .inr (.inr ⟨by first | rfl | go_num | (simp; omega), by first | rfl | go_num⟩)⟩
    · go_wp2_with fail
      refine HG.out.mono ?_
      rintro e w1 ⟨va, vc, rfl, hF⟩
      have HF := hid hF
      have H00 := hid (And.intro h0 h1)
      clear h0 h1 hF hs HG
      go_wp2_with fail
      go_loopg [6, 27] 2 (fun kx s6 s27 wr => ∃ va vc, (s6 = .slice va 0 vc ∧ s27 = .int .i64 0 ∧ 2 ≤ kx ∧ Hid (FreshO w wr (.slice va 0 vc) 0 [])) ∨ (s6 = .slice va l.length vc ∧ s27 = .int .i64 1 ∧ 1 ≤ kx ∧ Hid (FreshO w wr (.slice va l.length vc) l.length l)) ∨ (s6 = .slice va (l.length + m.length) vc ∧ s27 = .int .i64 2 ∧ Hid (FreshO w wr (.slice va (l.length + m.length) vc) (l.length + m.length) (l ++ m))))
      case atStart => exact ⟨va, vc, .inl ⟨rfl, rfl, Nat.le_refl _, HF⟩⟩
      case round =>
        obtain ⟨va', vc', hrel⟩ := hrel
        rcases hrel with ⟨rfl, rfl, hkx, hF⟩ | ⟨rfl, rfl, hkx, hF⟩ | ⟨rfl, rfl, hF⟩
        · obtain ⟨d0, d1⟩ : wr.cell? ⟨q, 0, none⟩ = some (.slice a l.length c) ∧ wr.cell? ⟨q, 1, none⟩ = some (.slice b m.length d) := by
            exact ⟨cell_keep H00.out.1 hF.out.bel, cell_keep H00.out.2 hF.out.bel⟩
          have HO := hid (HL.out.ox.below hF.out.bel)
          go_wp2_with (at_builtin; refine wp_app_oxms rfl (.tmp 31) (.tmp 32) rfl hF.out rfl rfl (l := l) rfl HO.out (by omega) (N := l.length) (by omega) ?_; intro va2 vc2 w5 hg5)
          go_roundg 1
          case measure => omega
          case rel => exact ⟨va2, vc2, .inr (.inl ⟨by first | rfl | simp, by first | rfl | go_num, Nat.le_refl _, hid (by simpa using hg5)⟩)⟩
        · obtain ⟨d0, d1⟩ : wr.cell? ⟨q, 0, none⟩ = some (.slice a l.length c) ∧ wr.cell? ⟨q, 1, none⟩ = some (.slice b m.length d) := ⟨cell_keep H00.out.1 hF.out.bel, cell_keep H00.out.2 hF.out.bel⟩
          have HO := hid (HM.out.ox.below hF.out.bel)
          go_wp2_with (at_builtin; refine wp_app_oxms rfl (.tmp 31) (.tmp 32) rfl hF.out rfl rfl (l := m) rfl HO.out (by omega) (N := l.length + m.length) (by omega) ?_; intro va2 vc2 w5 hg5)
          go_roundg 0
          case measure => omega
          case rel => exact ⟨va2, vc2, .inr (.inr ⟨by first | rfl | simp, by first | rfl | go_num, hg5⟩)⟩
        · go_wp2_with fail
          go_ret
          obtain ⟨_, h2, _, h4⟩ := hF.out.ox
          refine ⟨va', vc', by simp, ⟨h4, ?_, ?_, by simpa using hlm⟩, hF.out.bel⟩
          · intro x hx
            rcases List.mem_append.1 hx with hx | hx
            · exact (HL.out.ent x hx).below hF.out.bel
            · exact (HM.out.ent x hx).below hF.out.bel
          · intro x hx
            rcases List.mem_append.1 hx with hx | hx
            · exact HL.out.few x hx
            · exact HM.out.few x hx
end Go.Proofs.YtpmkfkanolhocaaGreat
