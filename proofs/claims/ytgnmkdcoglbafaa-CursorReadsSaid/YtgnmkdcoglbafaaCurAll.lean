/- CursorAll's walk. -/
import Derived.Test.YtgnmkdcoglbafaaCurS
import Derived.Test.YtgnmkdcoglbafaaShell
import Derived.Test.YtgnmkdcoglbafaaQuiet
namespace Go.Proofs.Ytgnmkdcoglbafaa
open Go.RowKit

theorem Cur.drew {w : World} {g M : Nat} {l : List Int} {r s o f : Int} (h : Cur w g M l r s o f) (n : Nat) : Cur (w.drewN n) g M l r s o f := h.kept (by_none_drewN w n) (by simp) (by simp)
/-- what a piece comes to: pre was read, rest is left -/
structure Piece (w : World) (g M : Nat) (b pre rest : List Int) (x : Int) (out pre' rest' : List Int) (f' : Int) : Prop where
  call : Calls Try.prog 17 #[.pointer (some ⟨g, 0, none⟩), .int .i64 x] w (BytesPost w g M out rest' pre'.length 10002 269 f')
  app : pre ++ out = pre'
  all : pre' ++ rest' = b

theorem piece_late {w : World} {g M : Nat} {b pre rest : List Int} {f : Int} (h : Cur w g M rest pre.length 10002 269 f) (hr : pre ++ rest = b) (hf : f ≠ 0) (x : Int) : ∃ pre' rest', Piece w g M b pre rest x [] pre' rest' f :=
  ⟨pre, rest, h.bytes_late hf x, by simp, hr⟩
theorem piece_neg {w : World} {g M : Nat} {b pre rest : List Int} (h : Cur w g M rest pre.length 10002 269 0) (hr : pre ++ rest = b) {x : Int} (hx : x < 0) : ∃ out pre' rest', Piece w g M b pre rest x out pre' rest' 10001 :=
  ⟨[], pre, rest, h.bytes_neg hx, by simp, hr⟩
theorem piece_short {w : World} {g M : Nat} {b pre rest : List Int} (h : Cur w g M rest pre.length 10002 269 0) (hr : pre ++ rest = b) {x : Int} (hx : (rest.length : Int) < x) : ∃ out pre' rest', Piece w g M b pre rest x out pre' rest' 10002 :=
  ⟨[], pre, rest, h.bytes_short hx, by simp, hr⟩
theorem piece_ok {w : World} {g M : Nat} {b pre rest : List Int} (h : Cur w g M rest pre.length 10002 269 0) (hr : pre ++ rest = b) {x : Int} (h0 : 0 ≤ x) (hx : x ≤ (rest.length : Int)) : ∃ out pre' rest', Piece w g M b pre rest x out pre' rest' 0 := by
  obtain ⟨n, rfl⟩ := Int.eq_ofNat_of_zero_le h0
  have e := h.bytes_ok (n := n) (by omega)
  refine ⟨rest.take n, pre ++ rest.take n, rest.drop n, ?_, rfl, by rw [List.append_assoc, List.take_append_drop, hr]⟩
  have hl : ((pre ++ rest.take n).length : Int) = (pre.length : Int) + (n : Int) := by rw [List.length_append, List.length_take]; omega
  rw [hl]
  exact e

theorem piece_any {w : World} {g M : Nat} {b pre rest : List Int} {f : Int} (h : Cur w g M rest pre.length 10002 269 f) (hr : pre ++ rest = b) (x : Int) :
    ((f != 0) = true ∧ (f == 0) = false ∧ ∃ pre' rest', Piece w g M b pre rest x [] pre' rest' f) ∨
    (f = 0 ∧ decide (0 ≤ x) = false ∧ x < 0 ∧ ∃ out pre' rest', Piece w g M b pre rest x out pre' rest' 10001) ∨
    (f = 0 ∧ decide (0 ≤ x) = true ∧ decide (x ≤ (rest.length : Int)) = false ∧ ∃ out pre' rest', Piece w g M b pre rest x out pre' rest' 10002) ∨
    (f = 0 ∧ decide (0 ≤ x) = true ∧ decide (x ≤ (rest.length : Int)) = true ∧ ∃ out pre' rest', Piece w g M b pre rest x out pre' rest' 0) := by
  by_cases hf : f = 0
  · subst hf
    right
    by_cases h0 : x < 0
    · exact .inl ⟨rfl, by simpa using h0, h0, piece_neg h hr h0⟩
    · right
      by_cases h1 : x ≤ (rest.length : Int)
      · exact .inr ⟨rfl, by simp; omega, by simp; omega, piece_ok h hr (by omega) h1⟩
      · exact .inl ⟨rfl, by simp; omega, by simp; omega, piece_short h hr (by omega)⟩
  · exact .inl ⟨by simpa using hf, by simpa using hf, piece_late h hr hf x⟩

set_option maxRecDepth 100000 in
set_option maxHeartbeats 4000000 in
theorem CursorAll_walk (b ps : List Int) (a d : Option Addr) (c e : Nat) (w : World) (hbl : b.length ≤ c) (_hc : c ≤ 9223372036854775807) (hpl : ps.length ≤ 9223372036854775807) (hu : Octets b) (ha : Ints .u8 w a b) (hd : Ints .i64 w d ps) :
    Calls Try.prog 4 #[.slice a b.length c, .slice d ps.length e] w fun e w' => e = .returned (.bool true) ∧ Below w.heap.size w w' := by
  by_cases hbig : 2000 < b.length
  · go_enter Try.func4, Try.ntmps4
    go_wp2_with (go_at_call 7; refine (sure2_any _).mono ?_; rintro e w' ⟨rfl, hz⟩)
    go_ret
    exact ⟨rfl, hz⟩
  · by_cases hmany : 60 < ps.length
    · go_enter Try.func4, Try.ntmps4
      go_wp2_with (go_at_call 7; refine (sure2_any _).mono ?_; rintro e w' ⟨rfl, hz⟩)
      go_ret
      exact ⟨rfl, hz⟩
    · have hp := fun (w : World) (p : Option Addr) => run_eql_pointer_nil w 26 p ptrCur
      go_enter Try.func4, Try.ntmps4
      go_wp2_with fail
      refine (new_any b a c 10002 269 w (by omega) hu ha).mono ?_
      rintro e w1 ⟨g, rfl, hC, hB, hg, hg2⟩
      go_wp2
      go_loopw [6, 7] (fun v i wr => ∃ (k : Nat) (pre rest : List Int) (f : Int), k ≤ ps.length ∧ i = .int .i64 k ∧ Hid (pre ++ rest = b) ∧ Fresh 5 w wr v (pre.map (Value.int .u8)) ∧ Cur wr g w.heap.size rest pre.length 10002 269 f ∧ v.ownBlock ≠ some g ∧ v.ownBlock ≠ some w.heap.size) (fun _ i _ => ps.length - (intOf i).toNat)
      case atStart => exact ⟨0, [], b, 0, Nat.zero_le _, rfl, rfl, ⟨own_nil _ _, hB, by simp [Value.ownBlock]⟩, hC, by simp [Value.ownBlock], by simp [Value.ownBlock]⟩
      case round =>
        obtain ⟨k, pre, rest, f, hk, rfl, hr, hF, hC, hv1, hv2⟩ := hrel
        have hgM := hC.block_lt
        have hML : w.heap.size < wr.heap.size := Nat.lt_trans (by omega) hgM
        have hBL := hF.bel
        have hlen : pre.length + rest.length = b.length := by rw [← hr.out, List.length_append]
        have hml : (pre.map (Value.int .u8)).length ≤ 2000 := by rw [List.length_map]; omega
        have hpl2 : pre.length ≤ 2000 := by omega
        have hdl : rest.length ≤ 2000 := by omega
        clear hlen
        by_cases hlt : k < ps.length
        · obtain ⟨b1, off1, x, rfl, hcell0, hx⟩ := hd.at hlt
          have hcell := cell_keep hcell0 hF.bel
          have hk2 : (k : Int) < (ps.length : Int) := by omega
          have key := piece_any hC hr.out x
          clear hx
          rcases key with ⟨e1, e2, pre', rest', P⟩ | ⟨rfl, e1, e2, out, pre', rest', P⟩ | ⟨rfl, e1, e2, out, pre', rest', P⟩ | ⟨rfl, e1, e2, out, pre', rest', P⟩
          all_goals
            have hlen : pre'.length + rest'.length = b.length := by rw [← P.all, List.length_append]
            have b1 : ((rest'.length : Int) != (b.length : Int) - (pre'.length : Int)) = false := by rw [bne_eq_false_iff_eq]; omega
            have b2 : ¬ (b.length : Int) < (pre'.length : Int) := by omega
            have b3 : ((pre'.length : Int) != (pre'.length : Int)) = false := by simp
            have b4 : (pre'.length : Int) ≤ (b.length : Int) := by omega
            have HT := hid (show b.take pre'.length = pre' by rw [← P.all]; simp)
            have b5 : pre'.length ≤ 2000 := by omega
            clear hlen
            go_wp2_with fail
            refine hC.err.mono ?_
            rintro e w' ⟨rfl, rfl⟩
            go_wp2_with fail
            refine hC.left.mono ?_
            rintro e w' ⟨rfl, rfl⟩
            go_wp2_with fail
            refine P.call.mono ?_
            rintro e w2 ⟨q, rfl, hG, hC2⟩
            have hF2 := hF.turn hG.by_ hv1 (by omega)
            obtain ⟨_, _, he, _, _, hI2⟩ := own_ints hG.own
            simp at he
            obtain ⟨rfl, rfl⟩ := he
            have hs2 := hG.by_.size
            clear hF hC hG
            go_wp2_with (at_builtin; refine wp_app_ints rfl (.tmp 40) (.tmp 41) rfl elemU8 rfl hF2.own rfl rfl hI2 P.app ?_ ?_ ?_; omega; omega; intro a3 c3 w3 hl3 hc3 hI3 hg3)
            have hF3 := hF2.step hg3
            have hC3 := hC2.kept hg3.by_ hv1 hv2
            have hv3 := moved_ne hg3.moved hv1 (by omega)
            have hv4 := moved_ne hg3.moved hv2 (by omega)
            clear hF2 hg3 hC2 hI2 hv1 hv2
            go_wp2_with fail
            refine hC3.pos.mono ?_
            rintro e w' ⟨rfl, rfl⟩
            go_wp2_with fail
            refine hC3.left.mono ?_
            rintro e w' ⟨rfl, rfl⟩
            have PB := bytes_at pre' (b.take pre'.length) a3 a pre'.length pre'.length c3 c w3 rfl (by rw [HT.out]) (by omega) (by rw [HT.out]; omega) hI3 ((ha.below hF3.bel).take _)
            rw [HT.out, beq_rfl] at PB
            have HPB := hid PB
            clear PB hI3
            go_wp2_with fail
            refine HPB.out.mono ?_
            rintro e w4 ⟨rfl, hB4⟩
            have hC4 := hC3.below hB4
            have hF4 := hF3.behind (below_by_none hB4)
            have hcell4 := cell_keep hcell0 hF4.bel
            clear HPB hC3 hF3
            go_wp2
            go_quiet ((go_at_call 13; exact quietS (hC4.drew _).err))
            go_wp2
            go_roundw
            case rel => exact ⟨k + 1, pre', rest', _, by omega, by go_num, P.all, hF4.behind (by_none_drewN _ _), hC4.drew _, hv3, hv4⟩
            case measure => simp [intOf]; omega
        · go_wp2_with fail
          refine hC.err.mono ?_
          rintro e w' ⟨rfl, rfl⟩
          by_cases hf : f = 0
          · subst hf
            go_wp2_with fail
            refine hC.rest_ok.mono ?_
            rintro e w2 ⟨q, rfl, hG, hC2⟩
            have hF2 := hF.turn hG.by_ hv1 (by omega)
            obtain ⟨_, _, he, _, _, hI2⟩ := own_ints hG.own
            simp at he
            obtain ⟨rfl, rfl⟩ := he
            clear hF hC hG
            go_wp2_with ((at_builtin; refine wp_app rfl (.tmp 120) (.tmp 122) rfl elemU8 rfl hF2.own rfl rfl hI2 ?_ ?_ ?_; omega; omega; intro v3 w3 hg3))
            have hF3 := hF2.step hg3
            rw [← List.map_append, hr.out] at hF3
            have hC3 := hC2.kept hg3.by_ hv1 hv2
            obtain ⟨a3, c3, rfl, hl3, _, hI3⟩ := own_ints hF3.own
            clear hF2 hg3 hC2 hI2
            go_wp2_with fail
            refine (bytes_at b b a3 a _ _ _ _ w3 rfl rfl (by omega) (by omega) hI3 (ha.below hF3.bel)).mono ?_
            rintro e w4 ⟨rfl, hB4⟩
            rw [beq_rfl]
            have hB5 := below_more hF3.bel hB4
            have hC4 := hC3.below hB4
            clear hB4 hC3 hF3 hI3
            go_wp2_with fail
            refine hC4.left.mono ?_
            rintro e w' ⟨rfl, rfl⟩
            go_wp2_with fail
            refine (sure2_any _).mono ?_
            rintro e w5 ⟨rfl, hz⟩
            go_wp2
            go_ret
            exact ⟨rfl, below_more hB5 hz⟩
          · have e1 : (f != 0) = true := by simpa using hf
            have H := hid hf
            clear hf
            go_wp2_with fail
            refine (hC.rest_late H.out).mono ?_
            rintro e w2 ⟨q, rfl, hG, hC2⟩
            go_wp2_with fail
            refine (sure2_any _).mono ?_
            rintro e w3 ⟨rfl, hz⟩
            go_wp2
            go_ret
            exact ⟨rfl, below_more (below_by hF.bel hG.by_ (by omega)) hz⟩
end Go.Proofs.Ytgnmkdcoglbafaa
