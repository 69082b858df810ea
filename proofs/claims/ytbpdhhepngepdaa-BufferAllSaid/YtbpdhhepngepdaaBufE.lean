/- Contracts of package buffer: Fill. -/
import Derived.Test.YtbpdhhepngepdaaBufD
namespace Go.Proofs.Ytbpdhhepngepdaa
open Go.RowKit Go.Maps

theorem p256_le8 {n : Nat} (h : n ≤ 8) {x : Int} (hx : x < p256 n) : x < p256 8 := Int.lt_of_lt_of_le hx (p256_mono h)
theorem putW_one {n : Nat} (h1 : 1 ≤ n) (h8 : n ≤ 8) {x : Int} (hx : x < p256 n) : putW [(n : Int)] [x] = some (bytesL x n) := by
  have e1 : rightW [(n : Int)] = true := by simp [rightW, allW, isW]; omega
  have e2 : countL [(n : Int)] = 1 := by simp [countL]; omega
  have e3 : ¬ (n : Int) < 0 := by omega
  have e4 : roomB x (n : Int) = true := by simp [roomB]; exact hx
  simp [putW, e1, e2, putL, e3, e4]
theorem putW_big {n x : Int} (hx : roomB x n = false) : putW [n] [x] = none := by
  unfold putW
  split
  · by_cases h : n < 0
    · rename_i h'
      simp [countL, show ¬ 0 < n by omega] at h'
    · simp [putL, h, hx]
  · rfl
theorem putW_wrong {n x : Int} (hn : n < 1 ∨ 8 < n) : putW [n] [x] = none := by
  unfold putW
  split
  · rename_i h
    simp [rightW, allW, isW, countL] at h
    by_cases h0 : 0 < n
    · omega
    · simp [h0] at h
  · rfl
theorem u64s_one {x : Int} (h0 : 0 ≤ x) (h : x < p256 8) : U64s [x] := by intro y hy; simp at hy; subst hy; exact ⟨h0, h⟩
theorem put_lit_no (l ns : List Int) (h : putW l ns = none) (a b : Option Addr) (n m c d : Nat) (w : World) (en : n = l.length) (em : m = ns.length) (hl : l.length ≤ 9223372036854775807) (hcd : m ≤ d)
    (hu : U64s ns) (ha : Ints .i64 w a l) (hb : Ints .u64 w b ns) :
    Calls Try.prog 18 #[.slice a n c, .slice b m d] w fun e w' => e = .returned (.tuple #[.slice none 0 0, .bool false]) ∧ Below w.heap.size w w' := by
  subst en
  subst em
  refine (put_any l ns a b c d w hl hcd hu ha hb).mono ?_
  rintro e w' (⟨_, rfl, hb⟩ | ⟨bs', v, h', _⟩)
  · exact ⟨rfl, hb⟩
  · rw [h] at h'; simp at h'
/-- the two slices of one number each -/
theorem two_ones (w : World) (n x : Int) : Below w.heap.size w ((w.alloc (.cells #[.int .i64 n] 3)).alloc (.cells #[.int .u64 x] 39)) ∧ Ints .i64 ((w.alloc (.cells #[.int .i64 n] 3)).alloc (.cells #[.int .u64 x] 39)) (some ⟨w.heap.size, 0, none⟩) [n] ∧
    Ints .u64 ((w.alloc (.cells #[.int .i64 n] 3)).alloc (.cells #[.int .u64 x] 39)) (some ⟨w.heap.size + 1, 0, none⟩) [x] := by
  have hs : (w.alloc (.cells #[.int .i64 n] 3)).heap.size = w.heap.size + 1 := by simp
  refine ⟨((Below.refl _ _).alloc (Nat.le_refl _) _).alloc (by omega) _, (ints_one .i64 w n 3).below (below_alloc _ _), ?_⟩
  rw [← hs]
  exact ints_one .u64 _ x 39
/-- a slice of one's own that has something is a block -/
theorem own_block {w : World} {e : TypeId} {a : Option Addr} {n c : Nat} {xs : List Value} (h : w.ownsRow 0 e 1 (.slice a n c) xs.length xs) (h0 : 0 < n) : ∃ q, a = some ⟨q, 0, none⟩ ∧ n = xs.length ∧ n ≤ c := by
  rcases h.2 with ⟨hv, _⟩ | ⟨q, cap, cur, hv, _, _, h1, _⟩
  · simp at hv; omega
  · simp at hv
    obtain ⟨rfl, rfl, rfl⟩ := hv
    exact ⟨q, rfl, rfl, h1⟩

section
variable {w : World} {g m : Nat} {p : Option Nat} {r : Nat} {l : List Int} {H : List (Int × Int)} {f : Int}
theorem Buf.fill_late (h : Buf w g m p r l H f) (hf : f ≠ 0) (k x : Int) :
    Calls Try.prog 12 #[.pointer (some ⟨g, 0, none⟩), .int .i64 k, .int .u64 x] w fun e w' => e = .returned (.tuple #[]) ∧ w = w' := by
  have e0 : (f == 0) = false := by simpa using hf
  clear hf
  go_enter Try.func12, Try.ntmps12
  go_wp2_with fail
  refine h.writes.mono ?_
  rintro e w' ⟨rfl, rfl⟩
  go_wp2
  (try simp only [Exit.inBlock, Exit.then])
  refine bodyPost_ret (results_none rfl _ _ _) rfl ?_
  exact ⟨rfl, rfl⟩
theorem Buf.fill_bad (h : Buf w g m p r l H 0) {k x : Int} (hw : (Lit.int .i64 k).wf = true) (h0 : 0 ≤ x) (h8 : x < p256 8) (hno : putW [look H k] [x] = none) :
    Calls Try.prog 12 #[.pointer (some ⟨g, 0, none⟩), .int .i64 k, .int .u64 x] w fun e w' => e = .returned (.tuple #[]) ∧ Went w w' g m p p r l H 10001 := by
  obtain ⟨v, D, hv, hg, hr, hm, ht⟩ := h.ex
  have c3 : w.cell? ⟨g, 3, none⟩ = some (.map (some m)) := cell_of_cells hg rfl
  have hkey : keyOf Try.prog 3 (.int .i64 k) = some (.int .i64 k) := keyOf_int_mk underInt hw
  have HNO := hid hno
  have HH := hid h
  have HU := hid (u64s_one h0 h8)
  have HL := hid (ht.look k)
  obtain ⟨n, hn⟩ : ∃ n, n = look H k := ⟨_, rfl⟩
  rw [← hn] at HNO HL
  clear hno h hg hr ht h8 h0 hn
  go_enter Try.func12, Try.ntmps12
  go_wp2_with fail
  refine HH.out.writes.mono ?_
  rintro e w' ⟨rfl, rfl⟩
  go_wp2_with (at_lookup; refine wpList_lookup_own_int _ rfl _ _ 43 rfl 3 3 .i64 lawInt underMap underInt (zeroInt _) m _ D rfl hm _ _ rfl hkey ?_; intro c hat hwc; obtain rfl : n = c := (by rw [HL.out] at hat; simpa using hat); clear hat)
  have T2 := hid (two_ones w n x)
  refine (put_lit_no [n] [x] HNO.out _ _ _ _ _ _ _ rfl rfl (by simp) (Nat.le_refl _) HU.out T2.out.2.1 T2.out.2.2).mono ?_
  rintro e w2 ⟨rfl, hb2⟩
  have hb3 := T2.out.1.trans (hb2.mono T2.out.1.size)
  go_wp2_with fail
  refine ((HH.out.below hb3).fail _).mono ?_
  rintro e w' ⟨rfl, hB, hb⟩
  go_wp2
  (try simp only [Exit.inBlock, Exit.then])
  refine bodyPost_ret (results_none rfl _ _ _) rfl ?_
  exact ⟨rfl, (Went.by_g hB hb).ahead hb3⟩
set_option maxRecDepth 100000 in
set_option maxHeartbeats 1000000 in
theorem Buf.fill_ok (h : Buf w g m p r l H 0) {k n : Nat} {x : Int} (hk : look H k = n) (h1 : 1 ≤ n) (h0 : 0 ≤ x) (hx : x < p256 n) :
    Calls Try.prog 12 #[.pointer (some ⟨g, 0, none⟩), .int .i64 k, .int .u64 x] w fun e w' => e = .returned (.tuple #[]) ∧ ∃ p', Went w w' g m p p' r (splice l k (bytesL x n)) (unheld H k) 0 := by
  have hin := h.held _ (look_mem hk (by omega))
  simp only at hin
  obtain ⟨_, _, h8, hkn⟩ := hin
  have hmo := h.most
  have hro := h.room
  obtain ⟨v, D, hv, hg, hr, hm, ht⟩ := h.ex
  obtain ⟨a0, c0, rfl, hl, hc, hI0⟩ := own_ints hr
  obtain ⟨q, rfl, -, -⟩ := own_block hr (by omega)
  have hpq : p = some q := hv.symm
  have c3 : w.cell? ⟨g, 3, none⟩ = some (.map (some m)) := cell_of_cells hg rfl
  have c2 : w.cell? ⟨g, 2, none⟩ = some (.slice (some ⟨q, 0, none⟩) l.length c0) := cell_of_cells hg rfl
  have hkey : keyOf Try.prog 3 (.int .i64 (k : Int)) = some (.int .i64 (k : Int)) := keyOf_int_mk underInt (WalkArith.wf_i64 (by omega))
  have HYES := hid (putW_one h1 (by omega) hx)
  have HH := hid h
  have HU := hid (u64s_one h0 (p256_le8 (by omega) hx))
  have HL := hid (ht.look k)
  rw [hk] at HL
  obtain ⟨bs, hbs⟩ : ∃ bs, bs = bytesL x n := ⟨_, rfl⟩
  have hbl : bs.length = n := by rw [hbs, bytesL_length]
  rw [← hbs] at HYES ⊢
  have HG := hid hg
  have HR := hid hr
  have HT := hid ht
  have hkc : ¬ c0 = k := by omega
  have hk0 : k ≤ l.length := by omega
  have hkc0 : k ≤ c0 := by omega
  have hlen := hid (length_splice l k bs (by omega))
  have hHl := hid (show (unheld H k).length ≤ l.length from Nat.le_trans (List.length_filter_le _ _) h.few)
  clear hg hr ht h8 h0 hbs hx hk h
  go_enter Try.func12, Try.ntmps12
  go_wp2_with fail
  refine HH.out.writes.mono ?_
  rintro e w' ⟨rfl, rfl⟩
  go_wp2_with (at_lookup; refine wpList_lookup_own_int _ rfl _ _ 43 rfl 3 3 .i64 lawInt underMap underInt (zeroInt _) m _ D rfl hm _ _ rfl hkey ?_; intro c hat hwc; obtain rfl : (n : Int) = c := (by rw [HL.out] at hat; simpa using hat); clear hat)
  have T2 := hid (two_ones w n x)
  refine (put_lit [(n : Int)] [x] bs HYES.out _ _ _ _ _ _ _ rfl rfl (by simp) (Nat.le_refl _) HU.out T2.out.2.1 T2.out.2.2).mono ?_
  rintro e w2 ⟨a2, cp2, rfl, hb2, hI2⟩
  have hb3 := T2.out.1.trans (hb2.mono T2.out.1.size)
  have hB2 := hid (HH.out.below hb3)
  have hG2 := hid (block_by HG.out (below_by_none hb3) (by simp))
  have hM2 := hid (hm.kept (below_by_none hb3) (by simp))
  have hR2 := hid (own_same HR.out (fun b e => hb3.block b (HR.out.lt b e).2))
  have c2' := cell_keep c2 hb3
  clear T2 c2 c3 hm
  have hmq := hid (show some m ≠ some q from fun e => HH.out.mp (hpq.trans e.symm))
  have hgq := hid (show some q ≠ some g from fun e => HH.out.gp (hpq.trans e))
  go_wp2_with (first
    | ((refine wp_copy_into rfl (.tmp 33) (.tmp 34) rfl elemU8 hR2.out rfl rfl hbl.symm (by omega) (by omega) (by omega) hI2 rfl ?_; intro w3 hr3 hb3'; have hW3 := hid (went_bytes hB2.out hv hpq hG2.out hM2.out HT.out hb3' hr3 hlen.out); have hm3 := hM2.out.kept hb3' hmq.out; have hG3 := hid (block_by hG2.out hb3' hgq.out); have c3' : w3.cell? ⟨g, 3, none⟩ = some (.map (some m)) := cell_of_cells hG3.out rfl))
    | (at_delete; refine wpList_delete_own _ rfl _ _ 43 3 rfl 3 lawInt underMap _ m _ D rfl hm3 _ _ rfl hkey ?_; intro w4 hm4 ht4))
  go_end0
  have hmt := map_tight hm4
  have htd := tied_del HT.out k
  rw [htd.size] at hmt
  subst hpq
  exact ⟨rfl, _, (hW3.out.trans (went_map hW3.out.buf hv hG3.out hr3 ht4.grown hmt htd (by rw [hlen.out]; exact unheld_within HH.out.held k) (by rw [hlen.out]; exact hHl.out))).ahead hb3⟩
end
end Go.Proofs.Ytbpdhhepngepdaa
