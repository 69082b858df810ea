/- Layer 3's sure; a buffer in a call that made it. -/
import Derived.Test.YtbpdhhepngepdaaBufF
import Derived.Test.YtbpdhhepngepdaaRowF
namespace Go.Proofs.Ytbpdhhepngepdaa
open Go.RowKit Go.Maps

theorem below_then {w0 w w' : World} (h : Below w0.heap.size w0 w) (hb : Below w.heap.size w w') : Below w0.heap.size w0 w' := h.trans (hb.mono h.size)
/-- a buffer that was made since w0 -/
structure BufOn (w0 w : World) (g m : Nat) (p : Option Nat) (r : Nat) (l : List Int) (H : List (Int × Int)) (f : Int) : Prop where
  buf : Buf w g m p r l H f
  bel : Below w0.heap.size w0 w
  base : ∀ i, Foot g m p i → w0.heap.size ≤ i
section
variable {w0 w w' : World} {g m : Nat} {p p' : Option Nat} {r : Nat} {l l' : List Int} {H H' : List (Int × Int)} {f f' : Int}
theorem BufOn.went (h : BufOn w0 w g m p r l H f) (k : Went w w' g m p p' r l' H' f') : BufOn w0 w' g m p' r l' H' f' :=
  ⟨k.buf, k.turn.below h.bel h.bel.size h.base, k.base h.bel.size h.base⟩
theorem BufOn.below (h : BufOn w0 w g m p r l H f) (hb : Below w.heap.size w w') : BufOn w0 w' g m p r l H f := ⟨h.buf.below hb, below_then h.bel hb, h.base⟩
theorem Went.ints {M : Nat} {k : IntKind} {xs : List Int} (h : Went w w' g m p p' r l H f) (hI : Ints k w (some ⟨M, 0, none⟩) xs) (hM : ¬ Foot g m p M) : Ints k w' (some ⟨M, 0, none⟩) xs := h.turn.ints hI hM
theorem Buf.new_apart (h : Buf w g m p r l H f) : ¬ Foot g m p w.heap.size := fun e => Nat.lt_irrefl _ (h.lt _ e)
end

theorem b7 : bytesL 7 1 = [7] := by rfl
theorem b3 : bytesL 3 2 = [0, 3] := by rfl
theorem fill_s3 : splice [0, 0, 7] 0 (bytesL 3 2) = [0, 3, 7] := by rw [b3]; rfl
theorem rfl_beq (l : List Int) : (l == l) = true := by simp

set_option maxRecDepth 100000 in
set_option maxHeartbeats 1600000 in
theorem sure3_any (w : World) : Calls Try.prog 5 #[] w fun e w' => e = .returned (.bool true) ∧ Below w.heap.size w w' := by
  have hp := fun (w : World) (p : Option Addr) => run_eql_pointer_nil w 25 p ptrBuf
  go_enter Try.func5, Try.ntmps5
  go_wp2_with fail
  refine (bufNew_any 9 _).mono ?_
  rintro e w1 ⟨g, m, rfl, hB, hb, hg, hm⟩
  have O1 : BufOn w w1 g m none 9 [] [] 0 := ⟨hB, hb, by rintro i (e | e | e); omega; omega; simp at e⟩
  clear hB hb hg hm
  go_wp2_with fail
  refine (show Calls _ _ _ w1 (fun e w' => e = .returned (.int .i64 0) ∧ ∃ p', Went w1 w' g m none p' 9 [0, 0] [(0, 2)] 0) from O1.buf.hold_ok (n := 2) (by omega) (by omega) (by decide)).mono ?_
  rintro e w2 ⟨rfl, p2, hW⟩
  have O2 := O1.went hW
  clear O1 hW
  go_wp2_with fail
  refine (show Calls _ _ _ w2 (fun e w' => e = .returned (.tuple #[]) ∧ ∃ p', Went w2 w' g m p2 p' 9 [0, 0, 7] [(0, 2)] 0) from O2.buf.num_ok (n := 1) (x := 7) (by omega) (by omega) (by omega) (by decide) (by decide)).mono ?_
  rintro e w3 ⟨rfl, p3, hW⟩
  have O3 := O2.went hW
  clear O2 hW
  go_wp2_with fail
  refine (O3.buf.done_held (by simp)).mono ?_
  rintro e w' ⟨rfl, rfl⟩
  go_wp2_with fail
  refine (show Calls _ _ _ w3 (fun e w' => e = .returned (.tuple #[]) ∧ ∃ p', Went w3 w' g m p3 p' 9 [0, 3, 7] [] 0) from O3.buf.fill_ok (k := 0) (n := 2) (x := 3) (by rfl) (by omega) (by omega) (by decide)).mono ?_
  rintro e w4 ⟨rfl, p4, hW⟩
  have O4 := O3.went hW
  clear O3 hW
  go_wp2_with fail
  refine O4.buf.done_ok.mono ?_
  rintro e w5 ⟨rfl, hF⟩
  obtain ⟨_, _, he, _, _, hI⟩ := own_ints hF.own
  simp at he
  obtain ⟨rfl, rfl⟩ := he
  have hn5 := hid O4.buf.new_apart
  have O5 := O4.below hF.bel
  clear O4 hF
  go_wp2_with fail
  refine (show Calls _ _ _ w5 (fun e w' => e = .returned (.tuple #[]) ∧ ∃ p', Went w5 w' g m p4 p' 9 [0, 3, 7, 0, 0, 0, 0, 0] [] 0) from O5.buf.even_ok (n := 8) (q := 5) (by omega) (by omega) (by omega) (by decide) (by decide) (by decide)).mono ?_
  rintro e w6 ⟨rfl, p6, hW⟩
  have hI6 := hW.ints hI hn5.out
  have hb4 := hid (hI6.at (i := 0) (by decide))
  have O6 := O5.went hW
  clear O5
  go_wp2_with fail
  refine ((O6.below (below_alloc _ _)).buf.bytes_lit_long [1, 2] _ _ _ rfl (by decide) (by decide)).mono ?_
  rintro e w7 ⟨rfl, p7, hW7⟩
  have hn6 := hid (hW.apart (by
    obtain ⟨_, _, _, he, hc, _⟩ := hI.at (i := 0) (by decide)
    simp at he
    obtain ⟨rfl, rfl⟩ := he
    exact World.block_lt_of_cell? _ _ hc) hn5.out)
  have hI7 := hW7.ints (hI6.below (below_alloc _ _)) hn6.out
  have O7 := (O6.below (below_alloc _ _)).went hW7
  clear O6 hW hW7 hI6 hI
  go_wp2_with fail
  refine (O7.buf.done_late (by decide)).mono ?_
  rintro e w8 ⟨rfl, hb8⟩
  have hI8 := hI7.below hb8
  have O8 := O7.below hb8
  clear O7 hI7
  go_wp2_with fail
  refine (done_nil _).mono ?_
  rintro e w' ⟨rfl, rfl⟩
  go_wp2_with fail
  refine (bytes_at [0, 3, 7] [0, 3, 7] _ (some ⟨w8.heap.size, 0, none⟩) _ _ _ _ _ rfl rfl (by decide) (by decide) (hI8.below (below_alloc _ _)) (ints_lit .u8 w8 [0, 3, 7] 5)).mono ?_
  rintro e w9 ⟨rfl, hb9⟩
  rw [rfl_beq]
  have O9 := (O8.below (below_alloc _ _)).below hb9
  clear O8 hI8
  go_wp2_with fail
  refine O9.buf.len.mono ?_
  rintro e w' ⟨rfl, rfl⟩
  go_wp2_with fail
  refine (hold_nil _ (n := 1) (by omega) (by omega)).mono ?_
  rintro e w10 ⟨rfl, hb10⟩
  go_wp2
  go_ret
  exact ⟨rfl, below_then O9.bel hb10⟩
end Go.Proofs.Ytbpdhhepngepdaa
