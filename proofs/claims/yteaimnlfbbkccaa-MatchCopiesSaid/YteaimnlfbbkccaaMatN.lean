/- The law of matches that are encoded. -/
import Derived.Test.YteaimnlfbbkccaaMatM
import Derived.Test.YteaimnlfbbkccaaMrg7
namespace Go.Proofs.Yteaimnlfbbkccaa
open Go.RowKit
set_option linter.unusedVariables false
set_option maxRecDepth 100000

theorem few_len10b {l : List Ent9} (h : fewL9 l = true) : len10 (l.map Ent9.o) ≤ 40000 := by
  unfold fewL9 at h
  rw [Bool.and_eq_true, decide_eq_true_iff] at h
  have key : ∀ l : List Ent9, (∀ x ∈ l, few9 x = true) → (body10 (l.map Ent9.o)).length ≤ l.length * 608 := by
    intro l
    induction l with
    | nil => intro _; simp [body10]
    | cons x r ih =>
      intro hx
      have h1 := hx x (by simp)
      have h2 := ih (fun y hy => hx y (by simp [hy]))
      simp only [few9, decide_eq_true_eq] at h1
      rw [List.map_cons, body_cons10, List.length_append, List.length_cons]
      have h3 : (bytes10 x.o).length ≤ 608 := by
        unfold bytes10
        rw [oxmBytes_length]
        unfold behind8
        split <;> omega
      omega
  have := key l (fun x hx => List.all_eq_true.1 h.1 x hx)
  unfold len10
  omega
theorem few_len10 {l : List Ent9} (h : fewL9 l = true) : len10 (l.map Ent9.o) ≤ 65528 := by have := few_len10b h; omega
theorem match_pos (L : List Ox9) : 8 ≤ (match10 L).length ∧ (match10 L).length ≤ len10 L + 7 := by
  rw [match10_length]
  have := zeros_lt10 (len10 L)
  have := zeros_even10 (len10 L)
  have : 4 ≤ len10 L := by unfold len10; omega
  omega
theorem rfl_beq10 (l : List Int) : (l == l) = true := by simp

section
variable {P : Program} {t e : TypeId} {z : Value} {bytes : Nat} {w : World}
/-- append(s, x...), of integers, where a guard is on -/
theorem wp_app_ints_w {ops : Array Oper} {rest : List Oper} {o : Oper} {a : Act} {Q : Exit → Act → World → Prop} (hgd : Region.wanted o (yielded ops a.tmps) = true) (s x : Operand)
    (ho : o.op = .call { callee := .builtin .append, args := #[s, x], argTypes := #[t, t] }) (E : Elem P t e z bytes)
    {v : Value} (hs : a.eval s = v) {k : IntKind} {xs : List Int} (hown : w.ownsRow 0 e 1 v (xs.map (Value.int k)).length (xs.map (Value.int k)))
    {ad : Option Addr} {l ys : List Int} {n c : Nat} (hx : a.eval x = .slice ad n c) (hn : n = l.length) (hI : Ints k w ad l) (hys : xs ++ l = ys)
    (hbytes : ys.length * bytes ≤ 140737488355328) (h63 : ys.length ≤ 140737488355328)
    (h : ∀ a' c' w', ys.length ≤ c' → c' ≤ 9223372036854775807 → Ints k w' a' ys → Grew e w w' v (.slice a' ys.length c') (ys.map (Value.int k)) → wpList P ops Q rest (a.put o.dst (.slice a' ys.length c')) w') : wpList P ops Q (o :: rest) a w := by
  subst hys
  rw [List.length_append] at hbytes h63
  refine wpList_step fun K hK => ?_
  rw [if_pos hgd]
  refine app_wp s x ho E hs hown hx hn hI (by rw [List.length_map]; exact hbytes) (by rw [List.length_map]; exact h63) fun v' w' hg => hK _ _ ?_
  rw [← List.map_append] at hg
  obtain ⟨a', c', rfl, h1, h2, hI'⟩ := own_ints hg.own
  exact h a' c' w' h1 (by unfold maxLen at h2; omega) hI' hg
end
set_option maxHeartbeats 4000000 in
theorem MatchEncodes_few (a : Option Addr) (l : List Ent9) (cap : Nat) (ma : Option Addr) (mc : Nat) (more : List Int) (w : World) (hO : Oxms w a l) (h1 : l.length ≤ 9223372036854775807) (hf : fewL9 l = false ∨ 100 < more.length) :
    Calls Try.prog 3 #[.slice a l.length cap, .slice ma more.length mc] w fun e w' => e = .returned (.bool true) ∧ Below w.heap.size w w' := by
  have HF := refFew9_any l a cap w hO h1
  have HS := hid (fun w => sure10_any w)
  have ways : fewL9 l = false ∨ (fewL9 l = true ∧ (100 : Int) < (more.length : Int)) := by
    rcases hf with h | h
    · exact .inl h
    · cases hx : fewL9 l
      · exact .inl rfl
      · exact .inr ⟨rfl, by omega⟩
  rcases ways with h | ⟨h, hm⟩
  all_goals
    rw [h] at HF
    have HFF := hid HF
    clear HF h hf hO
    go_enter Try.func3, Try.ntmps3
    go_wp2_with fail
    refine HFF.out.mono ?_
    rintro e w1 ⟨rfl, hb1⟩
    have HB1 := hid hb1
    clear hb1
    go_wp2_with fail
    refine (HS.out _).mono ?_
    rintro e w2 ⟨rfl, hb2⟩
    have HB2 := hid (below_on HB1.out hb2)
    clear hb2
    go_wp2_with fail
    exact bodyPost_ret (v := .bool true) (by simp [results, Try.results3, go_sem]) rfl ⟨rfl, HB2.out⟩

set_option maxHeartbeats 4000000 in
theorem MatchEncodes_no (a : Option Addr) (l : List Ent9) (cap : Nat) (ma : Option Addr) (mc : Nat) (more : List Int) (w : World) (hL : L9 w a l) (hlc : l.length ≤ cap) (hf : fewL9 l = true) (hm : more.length ≤ 100) (hI : Ints .u8 w ma more) (hno : isMatch10 (l.map Ent9.o) = false) :
    Calls Try.prog 3 #[.slice a l.length cap, .slice ma more.length mc] w fun e w' => e = .returned (.bool true) ∧ Below w.heap.size w w' := by
  have hbig := few_len10 hf
  have HF := refFew9_any l a cap w hL.ox (by have := hL.len; omega)
  rw [hf] at HF
  have HFF := hid HF
  have HS := hid (fun w => sure10_any w)
  have HE := hid (fun (W : World) (hb : Below w.heap.size w W) => encode10_any W a cap l (hL.below hb) hlc hbig)
  have HR := hid (fun (W : World) (hb : Below w.heap.size w W) => refEncode10_any W a cap l (hL.below hb) hlc hbig)
  have HP := hid (fun (w0 W : World) (hb : Below w.heap.size w W) {g m : Nat} {p : Option Nat} {r : Nat} {ll : List Int} (hB : BufOn w0 W g m p r ll [] 0) => put10_no w0 W a cap l (hL.below hb) hlc hbig hB hno)
  have HRI := hid (fun (W : World) (hb : Below w.heap.size w W) => right10_any W a cap l (hL.below hb) hlc hbig)
  have HNO := hid hno
  have HI := hid hI
  have hmi : ¬ (100 : Int) < (more.length : Int) := by omega
  clear hL hf hbig HF hI hno
  go_enter Try.func3, Try.ntmps3
  go_wp2_with fail
  refine HFF.out.mono ?_
  rintro e w1 ⟨rfl, hb1⟩
  have HB1 := hid hb1
  clear hb1
  go_wp2_with fail
  refine (HE.out _ HB1.out).mono ?_
  rintro e w2 h
  obtain ⟨rfl, hb2⟩ : e = .returned (.tuple #[.slice none 0 0, .int .i64 10001]) ∧ Below w1.heap.size w1 w2 := by
    rcases h with ⟨_, h1, h2⟩ | ⟨h1, _⟩
    · exact ⟨h1, h2⟩
    · rw [HNO.out] at h1; cases h1
  have HB2 := hid (below_on HB1.out hb2)
  clear h hb2
  go_wp2_with fail
  refine (HR.out _ HB2.out).mono ?_
  rintro e w3 h
  obtain ⟨rfl, hb3⟩ : e = .returned (.tuple #[.slice none 0 0, .int .i64 10001]) ∧ Below w2.heap.size w2 w3 := by
    rcases h with ⟨_, h1, h2⟩ | ⟨h1, _⟩
    · exact ⟨h1, h2⟩
    · rw [HNO.out] at h1; cases h1
  have HB3 := hid (below_on HB2.out hb3)
  clear h hb3
  go_wp2_with fail
  refine (bufNew_any 100000 _).mono ?_
  rintro e w4 ⟨g, m, rfl, hB, hb4, hg, hmm⟩
  have O4 : BufOn w w4 g m none 100000 [] [] 0 := ⟨hB, below_on HB3.out hb4, by have := HB3.out.size; rintro i (e | e | e); omega; omega; simp at e⟩
  clear hB hb4 hg hmm
  go_wp2_with fail
  refine (O4.buf.bytes_ok more ma mc (by rw [List.length_nil]; omega) (HI.out.below O4.bel)).mono ?_
  rintro e w5 ⟨rfl, p5, hG⟩
  have O5 := O4.went hG
  rw [List.nil_append] at O5
  clear hG O4
  go_wp2_with fail
  refine (HP.out w w5 O5.bel O5).mono ?_
  rintro e w6 ⟨rfl, O6⟩
  clear O5
  go_wp2_with fail
  refine (O6.buf.done_late (by decide)).mono ?_
  rintro e w7 ⟨rfl, hb7⟩
  have HB7 := hid (below_on O6.bel hb7)
  clear hb7 O6
  go_wp2_with fail
  refine (HRI.out _ HB7.out).mono ?_
  rintro e w8 ⟨rfl, hb8⟩
  rw [HNO.out]
  have HB8 := hid (below_on HB7.out hb8)
  clear hb8
  go_wp2_with fail
  refine (HS.out _).mono ?_
  rintro e w9 ⟨rfl, hb9⟩
  have HB9 := hid (below_on HB8.out hb9)
  clear hb9
  go_wp2_with fail
  exact bodyPost_ret (v := .bool true) (by simp [results, Try.results3, go_sem]) rfl ⟨rfl, HB9.out⟩
set_option maxHeartbeats 8000000 in
theorem MatchEncodes_yes (a : Option Addr) (l : List Ent9) (cap : Nat) (ma : Option Addr) (mc : Nat) (more : List Int) (w : World) (hL : L9 w a l) (hlc : l.length ≤ cap) (hf : fewL9 l = true) (hm : more.length ≤ 100) (hI : Ints .u8 w ma more) (hyes : isMatch10 (l.map Ent9.o) = true) :
    Calls Try.prog 3 #[.slice a l.length cap, .slice ma more.length mc] w fun e w' => e = .returned (.bool true) ∧ Below w.heap.size w w' := by
  have hbig := few_len10 hf
  have HF := refFew9_any l a cap w hL.ox (by have := hL.len; omega)
  rw [hf] at HF
  have HFF := hid HF
  have HS := hid (fun w => sure10_any w)
  have hml := (match_pos (l.map Ent9.o)).2
  have HE := fun (W : World) (hb : Below w.heap.size w W) => encode10_any W a cap l (hL.below hb) hlc hbig
  have HR := fun (W : World) (hb : Below w.heap.size w W) => refEncode10_any W a cap l (hL.below hb) hlc hbig
  have HP := fun (w0 W : World) (hb : Below w.heap.size w W) {g m : Nat} {p : Option Nat} {r : Nat} {ll : List Int} (hB : BufOn w0 W g m p r ll [] 0) => put10_yes w0 W a cap l (hL.below hb) hlc hbig hB hyes
  have HRI := hid (fun (W : World) (hb : Below w.heap.size w W) => right10_any W a cap l (hL.below hb) hlc hbig)
  unfold EncPost10 at HE
  unfold RefEncPost10 at HR
  rw [hyes] at HE HR
  obtain ⟨M, hM⟩ : ∃ M, match10 (l.map Ent9.o) = M := ⟨_, rfl⟩
  rw [hM] at HE HR hml
  have HPP := hid (fun (w0 W : World) (hb : Below w.heap.size w W) {g m : Nat} {p : Option Nat} {r : Nat} {ll : List Int} (hB : BufOn w0 W g m p r ll [] 0) (hr : ll.length + M.length ≤ r) => by have := HP w0 W hb hB; rw [hM] at this; exact this hr)
  have HEE := hid HE
  have HRR := hid HR
  have HYES := hid hyes
  have HI := hid hI
  have hmi : ¬ (100 : Int) < (more.length : Int) := by omega
  have hMl : M.length ≤ 65535 := by omega
  clear hL hf hbig HF hI hyes HE HR HP hml hM
  go_enter Try.func3, Try.ntmps3
  go_wp2_with fail
  refine HFF.out.mono ?_
  rintro e w1 ⟨rfl, hb1⟩
  have HB1 := hid hb1
  clear hb1
  go_wp2_with fail
  refine (HEE.out _ HB1.out).mono ?_
  rintro e w2 (⟨h1, _⟩ | ⟨_, ga, rfl, hb2, hIa, _⟩)
  · cases h1
  have HB2 := hid (below_on HB1.out hb2)
  have HIA := hid hIa
  clear hb2 hIa
  go_wp2_with fail
  refine (HRR.out _ HB2.out).mono ?_
  rintro e w3 (⟨h1, _⟩ | ⟨_, bd, bc, rfl, hb3, hIb⟩)
  · cases h1
  have HB3 := hid (below_on HB2.out hb3)
  have HIA3 := hid (HIA.out.below hb3)
  have HIB := hid hIb
  clear hb3 hIb
  go_wp2_with fail
  refine (bufNew_any 100000 _).mono ?_
  rintro e w4 ⟨g, m, rfl, hB, hb4, hg, hmm⟩
  have O4 : BufOn w3 w4 g m none 100000 [] [] 0 := ⟨hB, hb4, by rintro i (e | e | e); omega; omega; simp at e⟩
  clear hB hb4 hg hmm
  go_wp2_with fail
  refine (O4.buf.bytes_ok more ma mc (by rw [List.length_nil]; omega) ((HI.out.below HB3.out).below O4.bel)).mono ?_
  rintro e w5 ⟨rfl, p5, hG⟩
  have O5 := O4.went hG
  rw [List.nil_append] at O5
  clear hG O4
  go_wp2_with fail
  refine (HPP.out w3 w5 (below_on HB3.out O5.bel) O5 (by omega)).mono ?_
  rintro e w6 ⟨rfl, p6, O6⟩
  clear O5
  obtain ⟨Y, hY⟩ : ∃ Y, more ++ M = Y := ⟨_, rfl⟩
  have hYl : Y.length = more.length + M.length := by rw [← hY, List.length_append]
  rw [hY] at O6
  have HYL := hid hYl
  have HY := hid hY
  clear hY hYl
  go_wp2_with fail
  refine O6.buf.done_ok.mono ?_
  rintro e w7 ⟨rfl, hFr⟩
  obtain ⟨ad, cp, he, hl, hc, hI⟩ := own_ints hFr.own
  have he1 : ad = some ⟨w6.heap.size, 0, none⟩ := by simpa using (congrArg (fun x => match x with | Value.slice a _ _ => a | _ => none) he).symm
  subst he1
  have HB37 := hid (below_on O6.bel hFr.bel)
  have HB7 := hid (below_on HB3.out HB37.out)
  have HIY := hid hI
  clear he hl hc hI hFr O6
  go_wp2_with fail
  refine (HRI.out _ HB7.out).mono ?_
  rintro e w8 ⟨rfl, hb8⟩
  rw [HYES.out]
  have HB8 := hid (below_on HB37.out hb8)
  have HIY8 := hid (HIY.out.below hb8)
  clear hb8
  have HC1 := hid (bytes8_any M M (some ⟨ga, 0, none⟩) bd M.length M.length M.length bc rfl rfl w8 (by omega) (by omega) (HIA3.out.below HB8.out) (HIB.out.below HB8.out))
  rw [rfl_beq10] at HC1
  go_wp2_with fail
  refine HC1.out.mono ?_
  rintro e w9 ⟨rfl, hb9⟩
  have HB9 := hid (below_on HB8.out hb9)
  have HIY9 := hid (HIY8.out.below hb9)
  have hIm := ((HI.out.below HB3.out).below HB9.out).below (below_alloc w9 (.cells #[] 5))
  have hIb9 := HIB.out.below HB9.out
  have HIB9 := hid hIb9
  have HF0 := hid (own_emptyI w9 5 .u8)
  clear hb9 HC1 hIb9
  go_wp2_with (first
    | (at_builtin; refine wp_app_ints_w (by first | rfl | (simp [Region.wanted, yielded])) (.tmp 83) (.tmp 84) rfl elemU8 rfl HF0.out rfl rfl hIm (List.nil_append more) ?_ ?_ ?_; omega; omega; intro a5 c5 w10 hl5 hc5 hI5 hg5; have HF5 := hid hg5.first; have HIB10 := hid (HIB9.out.below HF5.out.bel); clear hI5 hg5)
    | (at_builtin; refine wp_app_ints_w (by first | rfl | (simp [Region.wanted, yielded])) (.tmp 85) (.tmp 86) rfl elemU8 rfl HF5.out.own rfl rfl HIB10.out HY.out ?_ ?_ ?_; (have := HYL.out; omega); (have := HYL.out; omega); intro a6 c6 w11 hl6 hc6 hI6 hg6; have HF6 := hid (HF5.out.step hg6); have HI6 := hid hI6; clear hI6 hg6)
    | fail)
  have HC2 := hid (bytes8_any Y Y (some ⟨w6.heap.size, 0, none⟩) a6 Y.length Y.length Y.length c6 rfl rfl w11 (by have := HYL.out; omega) (by have := HYL.out; omega) (HIY9.out.below HF6.out.bel) HI6.out)
  rw [rfl_beq10] at HC2
  refine HC2.out.mono ?_
  rintro e w12 ⟨rfl, hb12⟩
  have HB12 := hid (below_on (below_on (below_on HB3.out HB9.out) HF6.out.bel) hb12)
  clear hb12 HC2
  go_wp2_with fail
  refine (HS.out _).mono ?_
  rintro e w13 ⟨rfl, hb13⟩
  have HB13 := hid (below_on HB12.out hb13)
  clear hb13
  go_wp2_with fail
  exact bodyPost_ret (v := .bool true) (by simp [results, Try.results3, go_sem]) rfl ⟨rfl, HB13.out⟩
theorem MatchEncodes_walk (a : Option Addr) (len cap : Nat) (ma : Option Addr) (mc : Nat) (more : List Int) (w : World) (h0 : IsOxmsC w a len cap) (h1 : len ≤ 9223372036854775807) (hI : Ints .u8 w ma more) :
    Calls Try.prog 3 #[.slice a len cap, .slice ma more.length mc] w fun e w' => e = .returned (.bool true) ∧ Below w.heap.size w w' := by
  obtain ⟨hlc, hcm, l, rfl, hO, hE⟩ := h0
  by_cases hf : fewL9 l = true
  · by_cases hm : more.length ≤ 100
    · have hL := few_l9 hO hE hf
      cases hi : isMatch10 (l.map Ent9.o)
      · exact MatchEncodes_no a l cap ma mc more w hL hlc hf hm hI hi
      · exact MatchEncodes_yes a l cap ma mc more w hL hlc hf hm hI hi
    · exact MatchEncodes_few a l cap ma mc more w hO h1 (.inr (by omega))
  · exact MatchEncodes_few a l cap ma mc more w hO h1 (.inl (by simpa using hf))
end Go.Proofs.Yteaimnlfbbkccaa
