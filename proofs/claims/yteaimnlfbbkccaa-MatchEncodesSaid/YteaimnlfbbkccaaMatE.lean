/- Package match: Right, Encode. -/
import Derived.Test.YteaimnlfbbkccaaMatD
import Derived.Test.YteaimnlfbbkccaaMrg6
import Derived.Test.YteaimnlfbbkccaaMrg3
namespace Go.Proofs.Yteaimnlfbbkccaa
open Go.RowKit
set_option linter.unusedVariables false
attribute [local go_sem] Oper.semAt_some

set_option maxRecDepth 100000 in
set_option maxHeartbeats 1000000 in
theorem right10_any (w : World) (a : Option Addr) (c : Nat) (l : List Ent9) (hL : L9 w a l) (hlc : l.length ≤ c) (hbig : len10 (l.map Ent9.o) ≤ 65528) :
    Calls Try.prog 16 #[.slice a l.length c] w fun e w' => e = .returned (.bool (isMatch10 (l.map Ent9.o))) ∧ Below w.heap.size w w' := by
  have hR := length10_any w a c l hL hlc hbig
  obtain ⟨n, hn⟩ : ∃ n : Int, (if (l.map Ent9.o).all right10 = true then ((len10 (l.map Ent9.o) : Nat) : Int) else 0) = n := ⟨_, rfl⟩
  obtain ⟨m, hm⟩ : ∃ m, isMatch10 (l.map Ent9.o) = m := ⟨_, rfl⟩
  rw [hm, hn] at hR
  rw [hm]
  have HR := hid hR
  clear hL hbig hm hn hR
  go_enter Try.func16, Try.ntmps16
  go_wp2_with fail
  refine HR.out.mono ?_
  rintro e w1 ⟨rfl, hb1⟩
  go_wp2_with fail
  exact bodyPost_ret (v := .bool m) (by simp [results, Try.results16, go_sem]) rfl ⟨rfl, hb1⟩

/-- what comes of a list that is encoded -/
def EncPost10 (L : List Ox9) (w : World) (e : Ending) (w' : World) : Prop :=
  (isMatch10 L = false ∧ e = .returned (.tuple #[.slice none 0 0, .int .i64 10001]) ∧ Below w.heap.size w w') ∨
  (isMatch10 L = true ∧ ∃ g, e = .returned (.tuple #[.slice (some ⟨g, 0, none⟩) (match10 L).length (match10 L).length, .int .i64 0]) ∧ Below w.heap.size w w' ∧ Ints .u8 w' (some ⟨g, 0, none⟩) (match10 L) ∧ w.heap.size ≤ g)
theorem putW_head10 {n : Nat} (hn : n ≤ 65528) : putW [2, 2] [1, (n : Int)] = some (head10 n) := by
  have r1 : rightW [2, 2] = true := by decide
  have r2 : countL [2, 2] = 2 := by decide
  have p2 : roomB 1 2 = true := by simp [roomB, p256]
  have p1 : roomB (n : Int) 2 = true := by simp [roomB, p256]; omega
  simp [putW, r1, r2, putL, p2, p1, head10]
/-- between two rounds of the loop that writes: T has the pointer to the buffer; P is the iterator's box -/
structure PutAt10 (w0 : World) (g m T P R : Nat) (hd : List Int) (pre : List Piece10) (W : World) : Prop where
  t : Cell10 W T (.pointer (some ⟨g, 0, none⟩))
  b : ∃ p, BufOn w0 W g m p R (hd ++ all10 pre) [] 0 ∧ (∀ k, Foot g m p k → k ≠ T ∧ k ≠ P)
theorem PutAt10.own {w0 : World} {g m T P R B : Nat} {hd : List Int} (hB : w0.heap.size ≤ B) (hm : m < B) : OwnFrom B (PutAt10 w0 g m T P R hd) := by
  intro pre W W' row h hg hr
  have hr2 : ∀ r, row = some r → ∃ o : Obj, W.heap[r]? = some o ∧ o.isCells = false := fun r e => (hr r e).2
  obtain ⟨p, hO, hF⟩ := h.b
  refine ⟨h.t.others hg hr2, p, ⟨hO.buf.kept hg (fun k e hf => ?_), ownFrom_below (Nat.le_refl _) hB () W W' row hO.bel hg hr, hO.base⟩, hF⟩
  obtain ⟨hkB, o, ho, hc⟩ := hr k e
  obtain ⟨v, D, hv, hgc, hrow, hmap, _⟩ := hO.buf.ex
  rcases hf with rfl | rfl | hp
  · rw [hgc] at ho; cases ho; cases hc
  · omega
  · rw [hp] at hv
    rcases hrow.2 with ⟨rfl, _⟩ | ⟨g', cap, cur, rfl, _, hg', _⟩
    · cases hv
    · cases hv; rw [hg'] at ho; cases ho; cases hc
theorem PutAt10.step {w0 W W' : World} {g m T P R B : Nat} {hd : List Int} {pre : List Piece10} {x : Piece10} {p p' : Option Nat} (ht : Cell10 W T (.pointer (some ⟨g, 0, none⟩))) (hO : BufOn w0 W g m p R (hd ++ all10 pre) [] 0) (hF : ∀ k, Foot g m p k → k ≠ T ∧ k ≠ P)
    (hT : T < W.heap.size) (hP : P < W.heap.size) (hm : m < B) (hG : Went W W' g m p p' R (hd ++ all10 pre ++ x.x) [] 0) :
    KeepsFrom B W W' ∧ (∀ k, (k = P ∨ k < w0.heap.size) → k < W.heap.size → W'.heap[k]? = W.heap[k]?) ∧ PutAt10 w0 g m T P R hd (pre ++ [x]) W' := by
  have hO2 := hO.went hG
  refine ⟨⟨hG.turn.size, fun k o hk ho hc => ?_⟩, fun k hk hkw => hG.turn.block k hkw (fun hf => ?_), ⟨ht.kept (hG.turn.block T hT (fun hf => (hF T hf).1 rfl)), p', ?_, fun k hf => ?_⟩⟩
  · refine (hG.turn.block k (Array.getElem?_eq_some_iff.1 ho).1 (fun hf => ?_)).trans ho
    obtain ⟨v, D, hv, hgc, hrow, hmap, _⟩ := hO.buf.ex
    rcases hf with rfl | rfl | hp
    · rw [hgc] at ho; cases ho; cases hc
    · omega
    · rw [hp] at hv
      rcases hrow.2 with ⟨rfl, _⟩ | ⟨g', cap, cur, rfl, _, hg', _⟩
      · cases hv
      · cases hv; rw [hg'] at ho; cases ho; cases hc
  · rcases hk with rfl | hk
    · exact (hF _ hf).2 rfl
    · have := hO.base k hf; omega
  · rw [all10_snoc, ← List.append_assoc]; exact hO2
  · rcases hf with rfl | rfl | hp
    · exact hF _ (.inl rfl)
    · exact hF _ (.inr (.inl rfl))
    · rcases hG.moved k hp with h | h
      · exact hF k (.inr (.inr h))
      · constructor <;> omega

set_option maxRecDepth 100000 in
set_option maxHeartbeats 2000000 in
theorem encode10_no (w : World) (a : Option Addr) (c : Nat) (l : List Ent9) (hL : L9 w a l) (hlc : l.length ≤ c) (hbig : len10 (l.map Ent9.o) ≤ 65528) (hm : isMatch10 (l.map Ent9.o) = false) :
    Calls Try.prog 10 #[.slice a l.length c] w (EncPost10 (l.map Ent9.o) w) := by
  have HR := length10_any w a c l hL hlc hbig
  obtain ⟨n, hn⟩ : ∃ n : Int, (if (l.map Ent9.o).all right10 = true then ((len10 (l.map Ent9.o) : Nat) : Int) else 0) = n := ⟨_, rfl⟩
  rw [hm, hn] at HR
  have HRR := hid HR
  have HM := hid hm
  clear hL hbig HR hn hm
  refine (callsIn_wide (n := 0)).1 (callsIn_of_wp_marks Try.func10 rfl (by simp [Fence.wide]) ?_)
  refine wpIn_wide.2 ?_
  simp only [Try.ntmps10, List.size_toArray, List.length_cons, List.length_nil, Nat.reduceAdd, Nat.reduceSub, Array.replicate_succ, Array.replicate_zero, List.push_toArray, List.append_toArray, List.nil_append, List.cons_append]
  go_wp2_with fail
  refine HRR.out.mono ?_
  rintro e w1 ⟨rfl, hb1⟩
  have HB := hid hb1
  clear hb1
  go_wp2_with fail
  refine ⟨.tuple #[.slice none 0 0, .int .i64 10001], ?_, .inl ⟨HM.out, rfl, HB.out⟩⟩
  simp [results, Try.f10, go_sem]

set_option maxRecDepth 100000 in
set_option maxHeartbeats 2000000 in
theorem encode10_yes (w : World) (a : Option Addr) (c : Nat) (l : List Ent9) (hL : L9 w a l) (hlc : l.length ≤ c) (hbig : len10 (l.map Ent9.o) ≤ 65528) (hm : isMatch10 (l.map Ent9.o) = true) :
    Calls Try.prog 10 #[.slice a l.length c] w (EncPost10 (l.map Ent9.o) w) := by
  have HR := length10_any w a c l hL hlc hbig
  have hall : (l.map Ent9.o).all right10 = true := by unfold isMatch10 at hm; rw [Bool.and_eq_true] at hm; exact hm.1
  rw [hm, if_pos hall] at HR
  have HP := hid (putW_head10 hbig)
  obtain ⟨n, hn⟩ : ∃ n, len10 (l.map Ent9.o) = n := ⟨_, rfl⟩
  rw [hn] at HR hbig HP
  have wn : IntKind.u64.wrap (n : Int) = (n : Int) := by rw [u64_wrap8]; omega
  have HRR := hid HR
  have HM := hid hm
  have HN := hid hn
  have HL := hid hL
  have HALL := hid hall
  have HWN := hid wn
  have hn4 : 4 ≤ n := by unfold len10 at hn; omega
  clear hL HR hn hm hall wn
  refine (callsIn_wide (n := 0)).1 (callsIn_of_wp_marks Try.func10 rfl (by simp [Fence.wide]) ?_)
  refine wpIn_wide.2 ?_
  simp only [Try.ntmps10, List.size_toArray, List.length_cons, List.length_nil, Nat.reduceAdd, Nat.reduceSub, Array.replicate_succ, Array.replicate_zero, List.push_toArray, List.append_toArray, List.nil_append, List.cons_append]
  go_wp2_with fail
  refine HRR.out.mono ?_
  rintro e w1 ⟨rfl, hb1⟩
  have HB := hid hb1
  clear hb1
  go_wp2_with fail
  refine (bufNew_any 65528 _).mono ?_
  rintro e w2 ⟨g, m, rfl, hB, hb2, hg, hmm⟩
  have O1 : BufOn w w2 g m none 65528 [] [] 0 := ⟨hB, below_on HB.out hb2, by have := HB.out.size; rintro i (e | e | e); omega; omega; simp at e⟩
  have hlt := hB.lt
  clear hB hb2
  obtain ⟨W3, hW3⟩ : ∃ W, w2.alloc (.cells #[.pointer (some ⟨g, 0, none⟩)] 31) = W := ⟨_, rfl⟩
  have hT : Cell10 W3 w2.heap.size (.pointer (some ⟨g, 0, none⟩)) := by rw [← hW3]; exact Cell10.new _ _ _
  have O2 : BufOn w W3 g m none 65528 [] [] 0 := by rw [← hW3]; exact O1.below (below_alloc _ _)
  have hs3 : W3.heap.size = w2.heap.size + 1 := by rw [← hW3]; simp
  have HW3 := hid hW3
  clear O1 hW3
  go_upto_region 5 with fail
  rw [HW3.out]
  obtain ⟨t1, t2⟩ := hT
  go_wp2_with fail
  obtain ⟨W4, hW4⟩ : ∃ W, (W3.alloc (.cells #[.int .i64 2, .int .i64 2] 3)).alloc (.cells #[.int .u64 1, .int .u64 (n : Int)] 50) = W := ⟨_, rfl⟩
  have b34 : Below W3.heap.size W3 W4 := by rw [← hW4]; exact below_on (below_alloc _ _) (below_alloc _ _)
  have ia : Ints .i64 W4 (some ⟨w2.heap.size + 1, 0, none⟩) [2, 2] := by rw [← hW4]; exact lit_at .i64 [2, 2] (below_alloc _ _) hs3 rfl
  have ib : Ints .u64 W4 (some ⟨w2.heap.size + 1 + 1, 0, none⟩) [1, (n : Int)] := by rw [← hW4]; exact lit_at .u64 [1, (n : Int)] (Below.refl _ _) (by rw [World.size_alloc, hs3]) rfl
  have O4 := O2.below b34
  have hT4 := (Cell10.mk t1 t2).below b34
  have hs4 : w2.heap.size + 3 = W4.heap.size := by rw [← hW4, World.size_alloc, World.size_alloc, hs3]
  have hU : U64s [1, (n : Int)] := by
    intro x hx
    simp only [List.mem_cons, List.not_mem_nil, or_false] at hx
    rw [p256_8]
    rcases hx with rfl | rfl <;> omega
  have HROW := hid (O4.buf.row_ok [2, 2] [1, (n : Int)] (head10 n) HP.out _ _ 2 2 2 2 rfl rfl (by decide) (Nat.le_refl _) hU ia ib (by rw [head10_length]; decide))
  rw [hW4]
  clear hW4 ia ib hU O2 t1 t2
  refine HROW.out.mono ?_
  rintro e w5 ⟨rfl, p5, hG⟩
  have O5 := O4.went hG
  rw [List.nil_append] at O5
  have hT5 := hT4.kept (hG.turn.block _ hT4.lt (fun hf => by rcases hf with e | e | e; (have := hlt g (.inl rfl); omega); (have := hlt m (.inr (.inl rfl)); omega); cases e))
  have hF5 : ∀ k, Foot g m p5 k → k ≠ w2.heap.size := by
    rintro k (e | e | e)
    · have := hlt g (.inl rfl); omega
    · have := hlt m (.inr (.inl rfl)); omega
    · rcases hG.moved k e with h | h
      · cases h
      · omega
  clear hG HROW O4 hT4
  go_wp2_with fail
  refine (written10_any _ _ _ _).mono ?_
  rintro e w6 ⟨P, rfl, hbx, hb6, hp1, hp2⟩
  have hlt5 := O5.buf.lt
  have O6 := O5.below hb6
  have hT6 := hT5.below hb6
  have hs6 := hb6.size
  have hs5 := hT5.lt
  have HIT : Hid (Iter10 w a c P l [] w6) := ⟨pre10_nil _, hbx, hp2, Stays.of_below O6.bel⟩
  clear hbx hb6
  go_wp2_with fail
  have hm6 : m < w6.heap.size := O6.buf.lt m (.inr (.inl rfl))
  have HF6 := hid (show ∀ k, Foot g m p5 k → k ≠ w2.heap.size ∧ k ≠ P from fun k hf => ⟨hF5 k hf, by have := hlt5 k hf; omega⟩)
  have HO6 := hid O6
  refine wp_rangeT (gf := 53) (jc := .ret) rfl (fun args w => by simp [callFunc, Try.func53, Try.f53, mark]) (written10_yields w w6 a c P l HL.out HIT.out) (fun k hk => by rcases hk with rfl | hk; exact hp2; have := HO6.out.bel.size; omega) (fun _ => rfl) (fun _ => rfl)
    (PutAt10 w g m w2.heap.size P 65528 (head10 n))
    (fun _ _ _ => False)
    (PutAt10.own HO6.out.bel.size hm6) (fun pre n => Next10.own _ _ _)
    (fun x W W' row hx hg hr => hx)
    ⟨hT6, p5, by rw [show head10 n ++ all10 [] = head10 n from List.append_nil _]; exact HO6.out, HF6.out⟩
    (fun x a' _ => a' = { tmps := #[.slice a l.length c, undef, .slice none 0 0, .int .i64 0, .int .i64 (n : Int), .bool true, .pointer (some ⟨w2.heap.size, 0, none⟩), x.v, .tuple #[.int .i64 (n : Int), .bool true], .slice a l.length c, .tuple #[.int .i64 (n : Int), .bool true], .int .i64 (n : Int), .bool true, .bool true, .bool false, .pointer (some ⟨g, 0, none⟩), .pointer (some ⟨g, 0, none⟩), .slice (some ⟨w2.heap.size + 1, 0, none⟩) 2 2, .int .i64 (n : Int), .int .u64 (n : Int), .slice (some ⟨w2.heap.size + 1 + 1, 0, none⟩) 2 2, .tuple #[], .slice a l.length c, .func (.func 53) #[] #[.pointer (some ⟨P, 0, none⟩)], x.v, .int .i64 0, undef, undef, undef, undef, undef, undef, undef, undef, undef], defers := [] })
    (fun x a' _ W W' row hx hg hr => hx)
    (fun q a' W => a' = { tmps := #[.slice a l.length c, undef, .slice none 0 0, .int .i64 0, .int .i64 (n : Int), .bool true, .pointer (some ⟨w2.heap.size, 0, none⟩), .slice none 0 0, .tuple #[.int .i64 (n : Int), .bool true], .slice a l.length c, .tuple #[.int .i64 (n : Int), .bool true], .int .i64 (n : Int), .bool true, .bool true, .bool false, .pointer (some ⟨g, 0, none⟩), .pointer (some ⟨g, 0, none⟩), .slice (some ⟨w2.heap.size + 1, 0, none⟩) 2 2, .int .i64 (n : Int), .int .u64 (n : Int), .slice (some ⟨w2.heap.size + 1 + 1, 0, none⟩) 2 2, .tuple #[], .slice a l.length c, .func (.func 53) #[] #[.pointer (some ⟨P, 0, none⟩)], .slice none 0 0, .int .i64 q, undef, undef, undef, undef, undef, undef, undef, undef, undef], defers := [] })
    (fun x a' _ W W' row hx hg hr => hx) ?asg ?asb ?good ?bad ?done ?stop
  case asg =>
    rintro i ⟨xb, xa, xc⟩ W C hC
    dsimp only [Piece10.v] at hC ⊢
    gi_wp2
    exact hC _ _ (Below.refl _ _) rfl
  case asb =>
    intro i x W C hC
    gi_wp2
    exact hC _ _ (Below.refl _ _) rfl
  case good =>
    rintro i pre ⟨xb, xa, xc⟩ a' W0' W hWs hlen2 hI0 hcl hI hx rfl
    clear hI0 hcl
    dsimp only [Piece10.v]
    obtain ⟨hT, pp, hO, hF⟩ := hI
    have HFR := hid hx.front
    have hle := all10_len hx.front
    have hsn : all10 (pre ++ [⟨xb, xa, xc⟩]) = all10 pre ++ xb := all10_snoc pre ⟨xb, xa, xc⟩
    have hbg := HN.out
    unfold len10 at hbg
    rw [hsn, List.length_append] at hle
    have hbytes := hid (hO.buf.bytes_ok xb xa xc (by rw [List.length_append, head10_length]; omega) hx.ints)
    have HSTEP := hid (fun W' p' hG => PutAt10.step (B := w6.heap.size) (x := ⟨xb, xa, xc⟩) (W' := W') (p' := p') hT hO hF hT.lt (by omega) hm6 hG)
    obtain ⟨t1, t2⟩ := hT
    clear hx hle hsn hbg hO hF
    gi_wp2
    refine ⟨trivial, rfl, ?_⟩
    refine (show CallsIn Fence.wide 0 _ _ _ _ _ from (callsIn_wide (n := 0)).2 (hbytes.out.mono ?_))
    rintro e w' ⟨rfl, p', hG⟩
    have HG := hid hG
    clear hG
    gi_wp2
    exact HSTEP.out _ _ HG.out
  case bad =>
    rintro i pre q a' W hWs hq ⟨rfl, hsp⟩ hI rfl
    rw [HALL.out] at hsp
    cases hsp
  case stop =>
    rintro D pre q W hD ⟨rfl, hsp⟩ hI hK
    exact hI.elim
  case done =>
    rintro D xs W hD ⟨hall, hxs⟩ hI hK
    obtain ⟨hT, pp, hO, hF⟩ := hI
    rw [all10_body hxs] at hO
    have hlen : (head10 n ++ body10 (l.map Ent9.o)).length = n := by rw [List.length_append, head10_length]; exact HN.out
    obtain ⟨bs, hbs⟩ : ∃ bs, head10 n ++ body10 (l.map Ent9.o) = bs := ⟨_, rfl⟩
    rw [hbs] at hO hlen
    have HM10 : Hid (match10 (l.map Ent9.o) = bs ++ List.replicate (zeros10 n) 0) := by show _ = _; unfold match10; rw [HN.out, hbs]
    have HEV : Hid (Calls Try.prog 32 #[.pointer (some ⟨g, 0, none⟩), .int .i64 8] W fun e w' => e = .returned (.tuple #[]) ∧ ∃ p', Went W w' g m pp p' 65528 (bs ++ List.replicate (zeros10 n) 0) [] 0) := by
      show _
      by_cases h8 : n % 8 = 0
      · have hz : zeros10 n = 0 := by unfold zeros10; omega
        rw [hz, List.replicate_zero, List.append_nil]
        refine (hO.buf.even_same (n := 8) (by decide) (by decide) (by rw [hlen]; exact h8)).mono ?_
        rintro e w' ⟨rfl, rfl⟩
        exact ⟨rfl, pp, Went.refl hO.buf⟩
      · exact hO.buf.even_ok (n := 8) (q := zeros10 n) (by decide) (by decide) (by unfold zeros10; omega) (by rw [hlen]; unfold zeros10; omega) (by rw [hlen]; omega) (by rw [hlen]; unfold zeros10; omega)
    have HO := hid (And.intro hO hF)
    have HT := hid hT
    obtain ⟨t1, t2⟩ := hT
    clear hO hF hlen hbs hxs hall
    go_wp2_with fail
    refine HEV.out.mono ?_
    rintro e w7 ⟨rfl, p7, hG⟩
    have O7 := HO.out.1.went hG
    have hT7 := HT.out.kept (hG.turn.block _ HT.out.lt (fun hf => (HO.out.2 _ hf).1 rfl))
    have hD7 : w7.heap[D]? = some (.deferred (some [])) := (hG.turn.block D (Array.getElem?_eq_some_iff.1 hK).1 (fun hf => by
      obtain ⟨v, DD, hv, hgc, hrow, hmap, _⟩ := HO.out.1.buf.ex
      rcases hf with rfl | rfl | hp
      · rw [hgc] at hK; cases hK
      · omega
      · rw [hp] at hv
        rcases hrow.2 with ⟨rfl, _⟩ | ⟨g', cap, cur, rfl, _, hg', _⟩
        · cases hv
        · cases hv; rw [hg'] at hK; cases hK)).trans hK
    clear hG hK t1 t2
    obtain ⟨t1, t2⟩ := hT7
    have HM2 := HM10
    obtain ⟨xs2, hxs2⟩ : ∃ xs2, bs ++ List.replicate (zeros10 n) 0 = xs2 := ⟨_, rfl⟩
    rw [hxs2] at O7 HM10
    clear hxs2 HEV HM2
    go_wp2_with fail
    refine O7.buf.done_ok.mono ?_
    rintro e w8 ⟨rfl, hFr⟩
    obtain ⟨ad, cp, he, hl, hc, hI⟩ := own_ints hFr.own
    have he1 : ad = some ⟨w7.heap.size, 0, none⟩ := by simpa using (congrArg (fun x => match x with | Value.slice a _ _ => a | _ => none) he).symm
    have hD8 : w8.heap[D]? = some (.deferred (some [])) := (hFr.bel.block D (Array.getElem?_eq_some_iff.1 hD7).1).trans hD7
    have HF := hid (below_on O7.bel hFr.bel)
    rw [he1] at hI
    have HI := hid hI
    have hs7 := O7.bel.size
    clear he hl hc hI hFr he1 t1 t2
    have HMT : Hid (match10 (l.map Ent9.o) = xs2) := HM10
    go_wp2_with fail
    have hgp := grownBy_putObj' w8 D (.deferred none)
    have hr : ∀ r, some D = some r → ∃ o : Obj, w8.heap[r]? = some o ∧ o.isCells = false := fun r e => by cases e; exact ⟨_, hD8, rfl⟩
    refine ⟨by simp, .inl ⟨_, _, rfl, run_takeDeferred hD8, ?_⟩⟩
    refine ⟨.tuple #[.slice (some ⟨w7.heap.size, 0, none⟩) xs2.length xs2.length, .int .i64 0], ?_, .inr ⟨HM.out, w7.heap.size, by rw [HMT.out], HF.out.grown hgp HF.out.size (fun k e => by cases e; have := HO6.out.bel.size; omega), by rw [HMT.out]; exact ints_others10 HI.out hgp hr, hs7⟩⟩
    simp [results, Try.f10, go_sem]

theorem encode10_any (w : World) (a : Option Addr) (c : Nat) (l : List Ent9) (hL : L9 w a l) (hlc : l.length ≤ c) (hbig : len10 (l.map Ent9.o) ≤ 65528) :
    Calls Try.prog 10 #[.slice a l.length c] w (EncPost10 (l.map Ent9.o) w) := by
  cases hm : isMatch10 (l.map Ent9.o)
  · exact encode10_no w a c l hL hlc hbig hm
  · exact encode10_yes w a c l hL hlc hbig hm
end Go.Proofs.Yteaimnlfbbkccaa
