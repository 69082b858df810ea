/- Package head and the document's heads: a head as bytes. -/
import Derived.Test.YtkgjmpcdndohpaaDoorHeadB
import Derived.Test.YtkgjmpcdndohpaaDoorRowPlain
namespace Go.Proofs.YtkgjmpcdndohpaaDoor
open Go.RowKit

/-- whether a head may be put -/
def MayPut (V T L : Int) : Prop := (0 ≤ V ∧ V ≤ 255) ∧ (0 ≤ T ∧ T ≤ 255) ∧ (8 ≤ L ∧ L ≤ 65535)
instance (V T L : Int) : Decidable (MayPut V T L) := by unfold MayPut; infer_instance
/-- its bytes -/
def headBytes (V T L X : Int) : List Int := bytesL V 1 ++ (bytesL T 1 ++ (bytesL L 2 ++ (bytesL X 4 ++ [])))
theorem headBytes_length (V T L X : Int) : (headBytes V T L X).length = 8 := by simp [headBytes, bytesL_length]
theorem headBytes_octets (V T L X : Int) : Octets (headBytes V T L X) :=
  (bytesL_octets _ _).append ((bytesL_octets _ _).append ((bytesL_octets _ _).append ((bytesL_octets _ _).append (fun x hx => by simp at hx))))

theorem p256_1 : p256 1 = 256 := by decide
theorem p256_2 : p256 2 = 65536 := by decide
theorem p256_4 : p256 4 = 4294967296 := by decide
theorem u64_wrap (n : Int) : IntKind.u64.wrap n = n % 18446744073709551616 := by simp [IntKind.wrap, IntKind.bits, IntKind.signed]
theorem u64_same {n : Int} (h0 : 0 ≤ n) (h1 : n ≤ 4294967295) : IntKind.u64.wrap n = n := by rw [u64_wrap]; omega
theorem u64s_four (V T L X : Int) : U64s [IntKind.u64.wrap V, IntKind.u64.wrap T, IntKind.u64.wrap L, IntKind.u64.wrap X] := by
  intro x hx
  have hw : ∃ n, x = n % 18446744073709551616 := by
    simp only [u64_wrap] at hx
    rcases List.mem_cons.1 hx with h | h
    · exact ⟨_, h⟩
    rcases List.mem_cons.1 h with h | h
    · exact ⟨_, h⟩
    rcases List.mem_cons.1 h with h | h
    · exact ⟨_, h⟩
    rcases List.mem_cons.1 h with h | h
    · exact ⟨_, h⟩
    · simp at h
  obtain ⟨n, rfl⟩ := hw
  rw [p256_8]
  omega

theorem room1 {n : Int} : roomB n 1 = decide (n < 256) := by simp [roomB, p256_1]
theorem room2 {n : Int} : roomB n 2 = decide (n < 65536) := by simp [roomB, p256_2]
theorem room4 {n : Int} : roomB n 4 = decide (n < 4294967296) := by simp [roomB, p256_4]

theorem putW_head (V T L X : Int) : putW [1, 1, 2, 4] [V, T, L, X] = if V < 256 ∧ T < 256 ∧ L < 65536 ∧ X < 4294967296 then some (headBytes V T L X) else none := by
  have hr : (rightW [1, 1, 2, 4] && (countL [1, 1, 2, 4] == [V, T, L, X].length)) = true := show (rightW [1, 1, 2, 4] && (countL [1, 1, 2, 4] == 4)) = true by decide
  unfold putW
  rw [if_pos hr, putL_pos (by omega), room1, putL_pos (by omega), room1, putL_pos (by omega), room2, putL_pos (by omega), room4, putL]
  by_cases h1 : V < 256 <;> by_cases h2 : T < 256 <;> by_cases h3 : L < 65536 <;> by_cases h4 : X < 4294967296 <;> simp [h1, h2, h3, h4, headBytes]

theorem putW_may {V T L X : Int} (h : MayPut V T L) (hX : 0 ≤ X ∧ X ≤ 4294967295) : putW [1, 1, 2, 4] [IntKind.u64.wrap V, IntKind.u64.wrap T, IntKind.u64.wrap L, IntKind.u64.wrap X] = some (headBytes V T L X) := by
  obtain ⟨h1, h2, h3⟩ := h
  rw [u64_same h1.1 (by omega), u64_same h2.1 (by omega), u64_same (by omega) (by omega), u64_same hX.1 hX.2, putW_head, if_pos (by omega)]
theorem putW_may_not {V T L X : Int} (h : ¬ MayPut V T L) (h8 : 8 ≤ L) (hV : -9223372036854775808 ≤ V ∧ V ≤ 9223372036854775807) (hT : -9223372036854775808 ≤ T ∧ T ≤ 9223372036854775807) (hL : L ≤ 9223372036854775807) :
    putW [1, 1, 2, 4] [IntKind.u64.wrap V, IntKind.u64.wrap T, IntKind.u64.wrap L, IntKind.u64.wrap X] = none := by
  rw [putW_head, if_neg]
  simp only [u64_wrap]
  unfold MayPut at h
  omega

/-- what comes of a head that is put -/
def PutHead (V T L X : Int) (w : World) (e : Ending) (w' : World) : Prop :=
  (¬ MayPut V T L ∧ e = .returned (.tuple #[.slice none 0 0, .int .i64 10001]) ∧ Below w.heap.size w w') ∨
  (MayPut V T L ∧ ∃ ad cp, e = .returned (.tuple #[.slice ad 8 cp, .int .i64 0]) ∧ Below w.heap.size w w' ∧ Ints .u8 w' ad (headBytes V T L X) ∧ 8 ≤ cp)

set_option maxRecDepth 100000 in
theorem headPut_any (V T L X : Int) (hV : -9223372036854775808 ≤ V ∧ V ≤ 9223372036854775807) (hT : -9223372036854775808 ≤ T ∧ T ≤ 9223372036854775807) (hL : -9223372036854775808 ≤ L ∧ L ≤ 9223372036854775807) (hX : 0 ≤ X ∧ X ≤ 4294967295) (w : World) :
    Calls Tryd.prog 7 #[.agg #[.int .i64 V, .int .i64 T, .int .i64 L, .int .u32 X]] w (PutHead V T L X w) := by
  obtain ⟨W, hW⟩ : ∃ W, w.alloc (.cells #[.int .i64 V, .int .i64 T, .int .i64 L, .int .u32 X] 24) = W := ⟨_, rfl⟩
  have hbW : Below w.heap.size w W := by rw [← hW]; exact below_alloc _ _
  have hd : HdAt W w.heap.size V T L X := by rw [← hW]; exact HdAt.of_block (t := 24) (_root_.Go.heap_alloc_new w _)
  have HW := hid hW
  have HD := hid hd
  clear hW hd
  rcases (show L < 8 ∨ 8 ≤ L by omega) with h8 | h8
  · have HN : Hid (¬ MayPut V T L) := fun h => by unfold MayPut at h; omega
    clear hV hT hL hX
    go_enter Tryd.func7, Tryd.ntmps7
    go_wp2_with fail
    rw [HW.out]
    refine (bufNew_any 8 _).mono ?_
    rintro e w1 ⟨g, m, rfl, hB, hb, hg, hm⟩
    have O1 : BufOn W w1 g m none 8 [] [] 0 := ⟨hB, hb, by rintro i (e | e | e); omega; omega; simp at e⟩
    obtain ⟨d0, d1, d2, d3⟩ := HD.out.below hb
    have n0 : w.heap.size < w1.heap.size := by have := hb.size; rw [← HW.out, World.size_alloc] at this; omega
    clear hB hb hg hm
    go_wp2_with fail
    refine (O1.buf.fail 10001).mono ?_
    rintro e w2 ⟨rfl, hB2, hby⟩
    have O2 := O1.went (Went.by_g hB2 hby)
    have hgW : W.heap.size ≤ g := O1.base g (.inl rfl)
    obtain ⟨d0, d1, d2, d3⟩ := HD.out.below O2.bel
    have n1 : w.heap.size < w2.heap.size := Nat.lt_of_lt_of_le n0 hby.size
    have n2 : ¬ w.heap.size = w2.heap.size := by omega
    have n3 : ¬ w.heap.size = w2.heap.size + 1 := by omega
    have A := two_lit (k := .i64) (k' := .u64) (w := w2) (l := [1, 1, 2, 4]) (l' := [IntKind.u64.wrap V, IntKind.u64.wrap T, IntKind.u64.wrap L, IntKind.u64.wrap X]) (e := 3) (e' := 51) rfl rfl
    have HR := hid ((O2.buf.below A.2.2).row_late (by decide) [1, 1, 2, 4] [IntKind.u64.wrap V, IntKind.u64.wrap T, IntKind.u64.wrap L, IntKind.u64.wrap X] _ _ 4 4 4 4 rfl rfl (by decide) (Nat.le_refl _) (u64s_four V T L X) A.1 A.2.1)
    have O3 := O2.below A.2.2
    clear O1 hB2 hby hgW A
    go_wp2_with fail
    refine HR.out.mono ?_
    rintro e w3 ⟨rfl, hb3⟩
    have O4 := O3.below hb3
    clear HR O3
    go_wp2_with fail
    refine (O4.buf.done_late (by decide)).mono ?_
    rintro e w4 ⟨rfl, hb4⟩
    go_wp2_with fail
    go_ret2
    exact .inl ⟨HN.out, rfl, below_then hbW (below_then O4.bel hb4)⟩
  · have n8 : decide (L < 8) = false := by simp; omega
    by_cases hm : MayPut V T L
    · have HM := hid hm
      have HP := hid (putW_may hm hX)
      clear hV hT hL hX h8 hm
      go_enter Tryd.func7, Tryd.ntmps7
      go_wp2_with fail
      rw [HW.out]
      refine (bufNew_any 8 _).mono ?_
      rintro e w1 ⟨g, m, rfl, hB, hb, hg, hm⟩
      have O1 : BufOn W w1 g m none 8 [] [] 0 := ⟨hB, hb, by rintro i (e | e | e); omega; omega; simp at e⟩
      obtain ⟨d0, d1, d2, d3⟩ := HD.out.below hb
      have n1 : w.heap.size < w1.heap.size := by have := hb.size; rw [← HW.out, World.size_alloc] at this; omega
      have n2 : ¬ w.heap.size = w1.heap.size := by omega
      have n3 : ¬ w.heap.size = w1.heap.size + 1 := by omega
      have A := two_lit (k := .i64) (k' := .u64) (w := w1) (l := [1, 1, 2, 4]) (l' := [IntKind.u64.wrap V, IntKind.u64.wrap T, IntKind.u64.wrap L, IntKind.u64.wrap X]) (e := 3) (e' := 51) rfl rfl
      have HR := hid ((O1.buf.below A.2.2).row_ok [1, 1, 2, 4] [IntKind.u64.wrap V, IntKind.u64.wrap T, IntKind.u64.wrap L, IntKind.u64.wrap X] (headBytes V T L X) HP.out _ _ 4 4 4 4 rfl rfl (by decide) (Nat.le_refl _) (u64s_four V T L X) A.1 A.2.1 (by rw [headBytes_length]; decide))
      have O3 := O1.below A.2.2
      clear hB hb hg hm O1 A
      go_wp2_with fail
      refine HR.out.mono ?_
      rintro e w3 ⟨rfl, p', hG⟩
      have O4 := O3.went hG
      clear HR O3 hG
      go_wp2_with fail
      refine O4.buf.done_ok.mono ?_
      rintro e w4 ⟨rfl, hF⟩
      obtain ⟨ad, cp, he, hl, hc, hI⟩ := own_ints hF.own
      simp [headBytes_length] at he
      obtain ⟨rfl, rfl⟩ := he
      simp only [List.nil_append, headBytes_length]
      go_wp2_with fail
      go_ret2
      exact .inr ⟨HM.out, _, _, rfl, below_then hbW (below_then O4.bel hF.bel), hI, Nat.le_refl _⟩
    · have HM := hid hm
      have HP := hid (putW_may_not (X := X) hm h8 hV hT hL.2)
      clear hV hT hL hX h8 hm
      go_enter Tryd.func7, Tryd.ntmps7
      go_wp2_with fail
      rw [HW.out]
      refine (bufNew_any 8 _).mono ?_
      rintro e w1 ⟨g, m, rfl, hB, hb, hg, hm⟩
      have O1 : BufOn W w1 g m none 8 [] [] 0 := ⟨hB, hb, by rintro i (e | e | e); omega; omega; simp at e⟩
      obtain ⟨d0, d1, d2, d3⟩ := HD.out.below hb
      have n1 : w.heap.size < w1.heap.size := by have := hb.size; rw [← HW.out, World.size_alloc] at this; omega
      have n2 : ¬ w.heap.size = w1.heap.size := by omega
      have n3 : ¬ w.heap.size = w1.heap.size + 1 := by omega
      have A := two_lit (k := .i64) (k' := .u64) (w := w1) (l := [1, 1, 2, 4]) (l' := [IntKind.u64.wrap V, IntKind.u64.wrap T, IntKind.u64.wrap L, IntKind.u64.wrap X]) (e := 3) (e' := 51) rfl rfl
      have HR := hid ((O1.buf.below A.2.2).row_bad [1, 1, 2, 4] [IntKind.u64.wrap V, IntKind.u64.wrap T, IntKind.u64.wrap L, IntKind.u64.wrap X] HP.out _ _ 4 4 4 4 rfl rfl (by decide) (Nat.le_refl _) (u64s_four V T L X) A.1 A.2.1)
      have O3 := O1.below A.2.2
      clear hB hb hg hm O1 A
      go_wp2_with fail
      refine HR.out.mono ?_
      rintro e w3 ⟨rfl, hG⟩
      have O4 := O3.went hG
      clear HR O3 hG
      go_wp2_with fail
      refine (O4.buf.done_late (by decide)).mono ?_
      rintro e w4 ⟨rfl, hb4⟩
      go_wp2_with fail
      go_ret2
      exact .inl ⟨HM.out, rfl, below_then hbW (below_then O4.bel hb4)⟩

theorem refPut_ok (l ns bs : List Int) (h : putW l ns = some bs) (a b : Option Addr) (n m c d : Nat) (w : World) (en : n = l.length) (em : m = ns.length) (hl : l.length ≤ 9223372036854775807) (hn : ns.length ≤ 9223372036854775806)
    (hu : U64s ns) (ha : Ints .i64 w a l) (hb : Ints .u64 w b ns) :
    Calls Tryd.prog 22 #[.slice a n c, .slice b m d] w fun e w' => ∃ ad cp, e = .returned (.tuple #[.slice ad bs.length cp, .bool true]) ∧ Below w.heap.size w w' ∧ Ints .u8 w' ad bs ∧ bs.length ≤ cp := by
  subst en
  subst em
  refine (refPut_any l ns a b c d w hl hn hu ha hb).mono ?_
  rintro e w' (⟨h', _⟩ | ⟨bs', v, h', rfl, hf⟩)
  · rw [h] at h'; simp at h'
  · rw [h] at h'
    obtain rfl : bs = bs' := by simpa using h'
    obtain ⟨ad, cp, rfl, h1, h2, hI⟩ := own_ints hf.own
    exact ⟨ad, cp, rfl, hf.bel, hI, h1⟩

set_option maxRecDepth 100000 in
set_option maxHeartbeats 400000 in
theorem refHeadPut_bad (V T L X : Int) (h : ¬ MayPut V T L) (w : World) :
    Calls Tryd.prog 8 #[.agg #[.int .i64 V, .int .i64 T, .int .i64 L, .int .u32 X]] w fun e w' => e = .returned (.tuple #[.slice none 0 0, .int .i64 10001]) ∧ Below w.heap.size w w' := by
  rcases (show V < 0 ∨ ¬ V < 0 ∧ 255 < V ∨ (¬ V < 0 ∧ ¬ 255 < V) ∧ T < 0 ∨ (¬ V < 0 ∧ ¬ 255 < V ∧ ¬ T < 0) ∧ 255 < T ∨ (¬ V < 0 ∧ ¬ 255 < V ∧ ¬ T < 0 ∧ ¬ 255 < T) ∧ L < 8 ∨ (¬ V < 0 ∧ ¬ 255 < V ∧ ¬ T < 0 ∧ ¬ 255 < T ∧ ¬ L < 8) ∧ 65535 < L by unfold MayPut at h; omega) with h | ⟨h1, h⟩ | ⟨⟨h1, h2⟩, h⟩ | ⟨⟨h1, h2, h3⟩, h⟩ | ⟨⟨h1, h2, h3, h4⟩, h⟩ | ⟨⟨h1, h2, h3, h4, h5⟩, h⟩
  all_goals
    go_enter Tryd.func8, Tryd.ntmps8
    go_wp2_with fail
    go_ret2
    exact ⟨rfl, below_alloc _ _⟩

set_option maxRecDepth 100000 in
set_option maxHeartbeats 400000 in
theorem refHeadPut_ok (V T L X : Int) (h : MayPut V T L) (hX : 0 ≤ X ∧ X ≤ 4294967295) (w : World) :
    Calls Tryd.prog 8 #[.agg #[.int .i64 V, .int .i64 T, .int .i64 L, .int .u32 X]] w fun e w' => ∃ ad cp, e = .returned (.tuple #[.slice ad 8 cp, .int .i64 0]) ∧ Below w.heap.size w w' ∧ Ints .u8 w' ad (headBytes V T L X) ∧ 8 ≤ cp := by
  obtain ⟨W, hW⟩ : ∃ W, w.alloc (.cells #[.int .i64 V, .int .i64 T, .int .i64 L, .int .u32 X] 27) = W := ⟨_, rfl⟩
  have hbW : Below w.heap.size w W := by rw [← hW]; exact below_alloc _ _
  have hd : HdAt W w.heap.size V T L X := by rw [← hW]; exact HdAt.of_block (t := 27) (_root_.Go.heap_alloc_new w _)
  have HW := hid hW
  have n1 : w.heap.size < W.heap.size := by rw [← hW, World.size_alloc]; omega
  have n2 : ¬ w.heap.size = W.heap.size := by omega
  have n3 : ¬ w.heap.size = W.heap.size + 1 := by omega
  obtain ⟨d0, d1, d2, d3⟩ := hd
  clear hW
  have hP := putW_may h hX
  have hU := u64s_four V T L X
  obtain ⟨v0, v1, t0, t1, l0, l1⟩ : ¬ V < 0 ∧ ¬ 255 < V ∧ ¬ T < 0 ∧ ¬ 255 < T ∧ ¬ L < 8 ∧ ¬ 65535 < L := by unfold MayPut at h; omega
  rw [u64_same (n := V) (by omega) (by omega), u64_same (n := T) (by omega) (by omega), u64_same (n := L) (by omega) (by omega)] at hP hU
  have A := two_lit (k := .i64) (k' := .u64) (w := W) (l := [1, 1, 2, 4]) (l' := [V, T, L, IntKind.u64.wrap X]) (e := 3) (e' := 51) rfl rfl
  have hR := refPut_ok [1, 1, 2, 4] [V, T, L, IntKind.u64.wrap X] (headBytes V T L X) hP _ _ 4 4 4 4 _ rfl rfl (by decide) (by simp) hU A.1 A.2.1
  rw [show W.heap.size = w.heap.size + 1 by rw [← HW.out, World.size_alloc]] at hR
  have HR := hid hR
  have HA := hid A.2.2
  clear h hX hP A hR hU
  go_enter Tryd.func8, Tryd.ntmps8
  go_wp2_with fail
  rw [HW.out]
  refine HR.out.mono ?_
  rintro e w1 ⟨ad, cp, rfl, hb1, hI, hcp⟩
  rw [headBytes_length] at hcp
  simp only [headBytes_length]
  go_wp2_with fail
  go_ret2
  exact ⟨_, _, rfl, below_then hbW (below_then HA.out hb1), hI, hcp⟩

theorem refHeadPut_any (V T L X : Int) (hX : 0 ≤ X ∧ X ≤ 4294967295) (w : World) :
    Calls Tryd.prog 8 #[.agg #[.int .i64 V, .int .i64 T, .int .i64 L, .int .u32 X]] w (PutHead V T L X w) := by
  by_cases h : MayPut V T L
  · exact (refHeadPut_ok V T L X h hX w).mono fun e w' k => .inr ⟨h, k⟩
  · exact (refHeadPut_bad V T L X h w).mono fun e w' k => .inl ⟨h, k⟩
end Go.Proofs.YtkgjmpcdndohpaaDoor
