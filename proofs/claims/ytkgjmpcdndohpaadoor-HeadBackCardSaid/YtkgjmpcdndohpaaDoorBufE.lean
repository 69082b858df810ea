/- Contracts of package buffer: Fill. -/
import Derived.Test.YtkgjmpcdndohpaaDoorBufD
namespace Go.Proofs.YtkgjmpcdndohpaaDoor
open Go.RowKit Go.Maps

theorem p256_le8 {n : Nat} (h : n ≤ 8) {x : Int} (hx : x < p256 n) : x < p256 8 := Int.lt_of_lt_of_le hx (p256_mono h)
theorem putW_one {n : Nat} (h1 : 1 ≤ n) (h8 : n ≤ 8) {x : Int} (hx : x < p256 n) : putW [(n : Int)] [x] = some (bytesL x n) := by
  have e1 : rightW [(n : Int)] = true := by simp [rightW, allW, isW]; omega
  have e2 : countL [(n : Int)] = 1 := by simp [countL]; omega
  have e3 : ¬ (n : Int) < 0 := by omega
  have e4 : roomB x (n : Int) = true := by simp [roomB]; exact hx
  simp [putW, e1, e2, putL, e3, e4]
theorem putW_big {n x : Int} (hx : roomB x n = false) : putW [n] [x] = none := by
  unfold putW
  split
  · by_cases h : n < 0
    · rename_i h'
      simp [countL, show ¬ 0 < n by omega] at h'
    · simp [putL, h, hx]
  · rfl
theorem putW_wrong {n x : Int} (hn : n < 1 ∨ 8 < n) : putW [n] [x] = none := by
  unfold putW
  split
  · rename_i h
    simp [rightW, allW, isW, countL] at h
    by_cases h0 : 0 < n
    · omega
    · simp [h0] at h
  · rfl
theorem u64s_one {x : Int} (h0 : 0 ≤ x) (h : x < p256 8) : U64s [x] := by intro y hy; simp at hy; subst hy; exact ⟨h0, h⟩
theorem put_lit_no (l ns : List Int) (h : putW l ns = none) (a b : Option Addr) (n m c d : Nat) (w : World) (en : n = l.length) (em : m = ns.length) (hl : l.length ≤ 9223372036854775807) (hcd : m ≤ d)
    (hu : U64s ns) (ha : Ints .i64 w a l) (hb : Ints .u64 w b ns) :
    Calls Tryd.prog 30 #[.slice a n c, .slice b m d] w fun e w' => e = .returned (.tuple #[.slice none 0 0, .bool false]) ∧ Below w.heap.size w w' := by
  subst en
  subst em
  refine (put_any l ns a b c d w hl hcd hu ha hb).mono ?_
  rintro e w' (⟨_, rfl, hb⟩ | ⟨bs', v, h', _⟩)
  · exact ⟨rfl, hb⟩
  · rw [h] at h'; simp at h'
/-- the two slices of one number each -/
theorem two_ones (w : World) (n x : Int) : Below w.heap.size w ((w.alloc (.cells #[.int .i64 n] 3)).alloc (.cells #[.int .u64 x] 51)) ∧ Ints .i64 ((w.alloc (.cells #[.int .i64 n] 3)).alloc (.cells #[.int .u64 x] 51)) (some ⟨w.heap.size, 0, none⟩) [n] ∧
    Ints .u64 ((w.alloc (.cells #[.int .i64 n] 3)).alloc (.cells #[.int .u64 x] 51)) (some ⟨w.heap.size + 1, 0, none⟩) [x] := by
  have hs : (w.alloc (.cells #[.int .i64 n] 3)).heap.size = w.heap.size + 1 := by simp
  refine ⟨((Below.refl _ _).alloc (Nat.le_refl _) _).alloc (by omega) _, (ints_one .i64 w n 3).below (below_alloc _ _), ?_⟩
  rw [← hs]
  exact ints_one .u64 _ x 51
/-- a slice of one's own that has something is a block -/
theorem own_block {w : World} {e : TypeId} {a : Option Addr} {n c : Nat} {xs : List Value} (h : w.ownsRow 0 e 1 (.slice a n c) xs.length xs) (h0 : 0 < n) : ∃ q, a = some ⟨q, 0, none⟩ ∧ n = xs.length ∧ n ≤ c := by
  rcases h.2 with ⟨hv, _⟩ | ⟨q, cap, cur, hv, _, _, h1, _⟩
  · simp at hv; omega
  · simp at hv
    obtain ⟨rfl, rfl, rfl⟩ := hv
    exact ⟨q, rfl, rfl, h1⟩

section
variable {w : World} {g m : Nat} {p : Option Nat} {r : Nat} {l : List Int} {H : List (Int × Int)} {f : Int}
end
end Go.Proofs.YtkgjmpcdndohpaaDoor
