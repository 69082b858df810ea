/- BufferAll's walk. -/
import Derived.Test.YtbpdhhepngepdaaBufS
import Derived.Test.YtbpdhhepngepdaaPieces
namespace Go.Proofs.Ytbpdhhepngepdaa
open Go.RowKit Go.Maps

/-- what stands between two pieces: l is written; the slice v has xs -/
structure All (w wr : World) (v : Value) (xs : List Int) (g m : Nat) (p : Option Nat) (r : Nat) (l : List Int) (f : Int) : Prop where
  on : BufOn w wr g m p r l [] f
  fresh : Fresh 5 w wr v (xs.map (Value.int .u8))
  far : ∀ b, v.ownBlock = some b → ¬ Foot g m p b
/-- bytes of one's own, beside -/
structure Mine (w wr : World) (ax : Option Addr) (n c : Nat) (v : Value) (g m : Nat) (p : Option Nat) : Prop where
  own : ∃ xs : List Int, xs.length = n ∧ wr.ownsRow 0 5 1 (.slice ax n c) (xs.map (Value.int .u8)).length (xs.map (Value.int .u8))
  far : ∀ q, ax = some q → w.heap.size ≤ q.block ∧ ¬ Foot g m p q.block ∧ v.ownBlock ≠ some q.block

section
variable {w wr wx : World} {v v' : Value} {g m : Nat} {p p' : Option Nat} {r n c : Nat} {xs ys l l' : List Int} {f f' : Int} {ax : Option Addr}
theorem All.below (h : All w wr v xs g m p r l f) (hb : Below wr.heap.size wr wx) : All w wx v xs g m p r l f := ⟨h.on.below hb, h.fresh.behind (below_by_none hb), h.far⟩
theorem All.wrote (h : All w wr v xs g m p r l f) (k : Went wr wx g m p p' r l' [] f') : All w wx v xs g m p' r l' f' :=
  ⟨h.on.went k, k.turn.fresh h.fresh h.far h.on.base, fun b hb => k.apart (h.fresh.own.lt b hb).2 (h.far b hb)⟩
theorem All.grew (h : All w wr v xs g m p r l f) (k : Grew 5 wr wx v v' (ys.map (Value.int .u8))) : All w wx v' ys g m p r l f := by
  refine ⟨⟨h.on.buf.kept k.by_ (fun b hb => h.far b hb), h.on.bel.grown k.by_ h.on.bel.size (fun b hb => h.fresh.new b hb), h.on.base⟩, h.fresh.step k, fun b hb => ?_⟩
  rcases k.moved with e | ⟨q, e, hq⟩
  · exact h.far b (by rw [← e, hb])
  · rw [hb] at e
    simp at e
    subst e
    intro hf
    have := h.on.buf.lt _ hf
    omega
theorem All.done (h : All w wr v xs g m p r l f) {zs : List Int} (hF : Fresh 5 wr wx (.slice (some ⟨wr.heap.size, 0, none⟩) zs.length c) (zs.map (Value.int .u8))) : All w wx v xs g m p r l f ∧ Mine w wx (some ⟨wr.heap.size, 0, none⟩) zs.length c v g m p :=
  ⟨h.below hF.bel, ⟨zs, rfl, hF.own⟩, fun q e => by
    simp at e
    subst e
    exact ⟨h.on.bel.size, h.on.buf.new_apart, fun e => Nat.lt_irrefl _ (h.fresh.own.lt _ e).2⟩⟩
theorem Mine.below (h : Mine w wr ax n c v g m p) (hb : Below wr.heap.size wr wx) : Mine w wx ax n c v g m p := by
  obtain ⟨xs, h1, h2⟩ := h.own
  exact ⟨⟨xs, h1, own_same h2 (fun b e => hb.block b (h2.lt b e).2)⟩, h.far⟩
theorem mine_set (hA : All w wr v xs g m p r l f) (h : Mine w wr ax n c v g m p) {j : Nat} (hj : j < n) :
    ∃ O x, ax = some ⟨O, 0, none⟩ ∧ wr.cell? ⟨O, j, none⟩ = some (.int .u8 x) ∧ wr.frozen? ⟨O, j, none⟩ = false ∧ ∀ y, All w (wr.setCell ⟨O, j, none⟩ (.int .u8 y)) v xs g m p r l f ∧ Mine w (wr.setCell ⟨O, j, none⟩ (.int .u8 y)) ax n c v g m p := by
  obtain ⟨zs, hxl, hown⟩ := h.own
  obtain ⟨O, rfl, _, _⟩ := own_block hown (by omega)
  have hml : (zs.map (Value.int .u8)).length = n := by rw [List.length_map]; exact hxl
  rw [hml] at hown
  have hx : zs[j]? = some zs[j] := List.getElem?_eq_getElem (by omega)
  have hc := hown.cellAt j (by omega)
  rw [List.getElem?_map, hx] at hc
  obtain ⟨f1, f2, f3⟩ := h.far _ rfl
  refine ⟨O, zs[j], rfl, hc, hown.frozenAt j, fun y => ?_⟩
  obtain ⟨hst, hgr⟩ := hown.stored j (.int .u8 y)
  rw [show (zs.map (Value.int .u8)).set j (.int .u8 y) = (zs.set j y).map (Value.int .u8) by rw [List.map_set]] at hst
  refine ⟨⟨⟨hA.on.buf.kept hgr (by rintro k e; simp at e; subst e; exact f2), hA.on.bel.setCell (p := ⟨O, j, none⟩) f1 _, hA.on.base⟩, hA.fresh.turn hgr f3 f1, hA.far⟩, ⟨⟨zs.set j y, by simpa using hxl, ?_⟩, h.far⟩⟩
  rw [show ((zs.set j y).map (Value.int .u8)).length = n by simpa using hxl]
  exact hst
end

set_option maxRecDepth 100000 in
set_option maxHeartbeats 4000000 in
theorem BufferAll_walk (R : Nat) (hR : R ≤ 65535) (a : Option Addr) (n c : Nat) (w : World) (hn : n ≤ 9223372036854775807) (hP : IsPieces w a n) :
    Calls Try.prog 3 #[.int .u16 R, .slice a n c] w fun e w' => e = .returned (.bool true) ∧ Below w.heap.size w w' := by
  by_cases hmany : 60 < n
  · go_enter Try.func3, Try.ntmps3
    go_wp2_with fail
    refine (sure3_any _).mono ?_
    rintro e w' ⟨rfl, hz⟩
    go_wp2
    go_ret
    exact ⟨rfl, hz⟩
  · have hp := fun (w : World) (p : Option Addr) => run_eql_pointer_nil w 25 p ptrBuf
    have hPP := hid hP
    clear hP
    go_enter Try.func3, Try.ntmps3
    go_wp2_with fail
    refine (bufNew_any (R : Int) _).mono ?_
    rintro e w1 ⟨g, m, rfl, hB, hb, hg, hm⟩
    rw [show min ((R : Int)).toNat 1000000 = R by simp; omega] at hB
    have A1 : All w w1 (.slice none 0 0) [] g m none R [] 0 := ⟨⟨hB, hb, by rintro i (e | e | e); omega; omega; simp at e⟩, ⟨own_nil _ _, hb, by simp [Value.ownBlock]⟩, by simp [Value.ownBlock]⟩
    clear hB hb hg hm
    go_wp2
    go_loopw [6, 7, 8] (fun v t i wr => ∃ (k : Nat) (pre : List Int) (p : Option Nat) (fit : Bool), k ≤ n ∧ i = .int .i64 k ∧ t = .bool fit ∧ All w wr v pre g m p R pre (if fit then 0 else 10003)) (fun _ _ i _ => n - (intOf i).toNat)
    case atStart => exact ⟨0, [], none, true, Nat.zero_le _, rfl, rfl, A1⟩
    case round =>
      obtain ⟨k, pre, p, fit, hk, rfl, rfl, hA⟩ := hrel
      have hpr := hA.on.buf.room
      have hpl : pre.length ≤ 65535 := by omega
      by_cases hlt : k < n
      · obtain ⟨b, off, a', l', c', zs, rfl, hcell0, hrow⟩ := hPP.out k hlt
        obtain ⟨l, rfl, hlc, hcm, hI0, _⟩ := hrow.ints
        have hcell := cell_keep hcell0 hA.on.bel
        have hI := hI0.below hA.on.bel
        have hk2 : (k : Int) < (n : Int) := by omega
        clear hrow
        by_cases hbig : 300 < l.length
        · go_wp2_with fail
          refine (sure3_any _).mono ?_
          rintro e w' ⟨rfl, hz⟩
          go_wp2
          go_ret
          exact ⟨rfl, below_then hA.on.bel hz⟩
        · have hll : l.length ≤ 300 := by omega
          by_cases hfit : fit = true ∧ pre.length + l.length ≤ R
          · obtain ⟨rfl, hfit⟩ := hfit
            have hA0 : All w wr _ pre g m p R pre 0 := hA
            have hfi : (pre.length : Int) + (l.length : Int) ≤ (R : Int) := by omega
            obtain ⟨ys, hys⟩ : ∃ ys, ys = pre ++ l := ⟨_, rfl⟩
            have hyl : ys.length ≤ 65535 := by rw [hys, List.length_append]; omega
            have HY := hid hys.symm
            have HF := hid hfit
            obtain ⟨av, cv, rfl, hv1, hv2, _⟩ := own_ints hA0.fresh.own
            clear hA hys hfit
            go_wp2_with fail
            refine (hA0.on.buf.bytes_ok l a' c' HF.out hI).mono ?_
            rintro e w2 ⟨rfl, p2, hW⟩
            rw [HY.out] at hW
            have hA2 := hA0.wrote hW
            have hI2 := hI0.below hA2.on.bel
            have hcell2 := cell_keep hcell0 hA2.on.bel
            clear hA0 hI hcell hW
            go_wp2_with (at_builtin; refine wp_app_ints rfl (.tmp 55) (.tmp 59) rfl elemU8 rfl hA2.fresh.own rfl rfl hI2 HY.out ?_ ?_ ?_; omega; omega; intro a3 c3 w3 hl3 hc3 hI3 hg3)
            have hA3 := hA2.grew hg3
            clear hA2 hI2 hcell2 hg3
            refine hA3.on.buf.done_ok.mono ?_
            rintro e w4 ⟨rfl, hF⟩
            obtain ⟨hA4, hM4⟩ := hA3.done hF
            have hI4 := hI3.below hF.bel
            obtain ⟨_, _, he, _, _, hI5⟩ := own_ints hF.own
            simp at he
            obtain ⟨rfl, rfl⟩ := he
            clear hF hI3 hA3
            go_wp2_with fail
            refine hA4.on.buf.len.mono ?_
            rintro e w' ⟨rfl, rfl⟩
            go_wp2_with fail
            refine (bytes_at ys ys _ a3 _ _ _ _ _ rfl rfl (by omega) (by omega) hI5 hI4).mono ?_
            rintro e w5 ⟨rfl, hb5⟩
            rw [rfl_beq]
            have hA5 := hA4.below hb5
            have hM5 := hM4.below hb5
            clear hA4 hM4 hI4 hI5 hb5
            go_wp2
            go_loopw [11] (fun j wx => ∃ jj : Nat, jj ≤ ys.length ∧ j = .int .i64 jj ∧ All w wx (.slice a3 ys.length c3) ys g m p2 R ys 0 ∧ Mine w wx (some ⟨w3.heap.size, 0, none⟩) ys.length ys.length (.slice a3 ys.length c3) g m p2) (fun j _ => ys.length - (intOf j).toNat)
            case atStart => exact ⟨0, Nat.zero_le _, rfl, hA5, hM5⟩
            case round =>
              obtain ⟨jj, hj, rfl, hA6, hM6⟩ := hrel
              by_cases hlt2 : jj < ys.length
              · obtain ⟨O, x, he, hc, hf, hset⟩ := mine_set hA6 hM6 hlt2
                simp at he
                subst he
                have hS := hid hset
                have hj2 : (jj : Int) < (ys.length : Int) := by omega
                clear hset hA6 hM6
                go_wp2
                go_roundw
                case rel => exact ⟨jj + 1, by omega, by go_num, (hS.out _).1, (hS.out _).2⟩
                case measure => simp [intOf]; omega
              · go_wp2
                go_roundw
                case rel => exact ⟨k + 1, ys, p2, true, by omega, by go_num, rfl, hA6⟩
                case measure => simp [intOf]; omega
          · have hx : ∃ (hF : Hid (fit = false ∨ R < pre.length + l.length)), True := ⟨by
              show _ ∨ _
              cases fit
              · exact .inl rfl
              · exact .inr (by simp at hfit; omega), trivial⟩
            obtain ⟨hF, -⟩ := hx
            obtain ⟨av, cv, rfl, hv1, hv2, _⟩ := own_ints hA.fresh.own
            have hx : (fit = false ∧ Hid (All w wr (.slice av pre.length cv) pre g m p R pre 10003)) ∨ (fit = true ∧ ¬ (pre.length : Int) + (l.length : Int) ≤ (R : Int) ∧ Hid (R < pre.length + l.length) ∧ Hid (All w wr (.slice av pre.length cv) pre g m p R pre 0)) := by
              cases fit
              · exact .inl ⟨rfl, hA⟩
              · have : R < pre.length + l.length := by rcases hF.out with h | h; simp at h; exact h
                exact .inr ⟨rfl, by omega, this, hA⟩
            clear hA hfit hF
            rcases hx with ⟨rfl, hA0⟩ | ⟨rfl, hfi, hF, hA0⟩
            · go_wp2_with fail
              refine (hA0.out.on.buf.bytes_late (by decide) _).mono ?_
              rintro e w' ⟨rfl, rfl⟩
              go_wp2_with fail
              refine (hA0.out.on.buf.done_late (by decide)).mono ?_
              rintro e w4 ⟨rfl, hb4⟩
              have hA4 := hA0.out.below hb4
              clear hb4 hcell hI
              go_wp2_with fail
              refine hA4.on.buf.len.mono ?_
              rintro e w' ⟨rfl, rfl⟩
              go_wp2
              go_loopw [11] (fun j wx => j = .int .i64 0 ∧ All w wx (.slice av pre.length cv) pre g m p R pre 10003) (fun j _ => 0)
              case atStart => exact ⟨rfl, hA4⟩
              case round =>
                obtain ⟨rfl, hA6⟩ := hrel
                go_wp2
                go_roundw
                case rel => exact ⟨k + 1, pre, p, false, by omega, by go_num, rfl, hA6⟩
                case measure => simp [intOf]; omega
            · go_wp2_with fail
              refine (hA0.out.on.buf.bytes_long l a' c' hF.out (by omega)).mono ?_
              rintro e w2 ⟨rfl, p2, hW⟩
              have hA2 := hA0.out.wrote hW
              clear hW hcell hI hA0
              go_wp2_with fail
              refine (hA2.on.buf.done_late (by decide)).mono ?_
              rintro e w4 ⟨rfl, hb4⟩
              have hA4 := hA2.below hb4
              clear hb4 hA2
              go_wp2_with fail
              refine hA4.on.buf.len.mono ?_
              rintro e w' ⟨rfl, rfl⟩
              go_wp2
              go_loopw [11] (fun j wx => j = .int .i64 0 ∧ All w wx (.slice av pre.length cv) pre g m p2 R pre 10003) (fun j _ => 0)
              case atStart => exact ⟨rfl, hA4⟩
              case round =>
                obtain ⟨rfl, hA6⟩ := hrel
                go_wp2
                go_roundw
                case rel => exact ⟨k + 1, pre, p2, false, by omega, by go_num, rfl, hA6⟩
                case measure => simp [intOf]; omega
      · go_wp2_with fail
        refine (sure3_any _).mono ?_
        rintro e w' ⟨rfl, hz⟩
        go_wp2
        go_ret
        exact ⟨rfl, below_then hA.on.bel hz⟩
end Go.Proofs.Ytbpdhhepngepdaa
