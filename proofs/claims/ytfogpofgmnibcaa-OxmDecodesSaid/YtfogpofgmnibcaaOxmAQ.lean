/- The document's values: any bytes as a value. -/
import Derived.Test.YtfogpofgmnibcaaOxmAF
import Derived.Test.YtfogpofgmnibcaaOxmAG
import Derived.Test.YtfogpofgmnibcaaOxmAH
import Derived.Test.YtfogpofgmnibcaaOxmAI
import Derived.Test.YtfogpofgmnibcaaOxmAJ
import Derived.Test.YtfogpofgmnibcaaOxmAK
import Derived.Test.YtfogpofgmnibcaaOxmAL
import Derived.Test.YtfogpofgmnibcaaOxmAM
import Derived.Test.YtfogpofgmnibcaaOxmAN
import Derived.Test.YtfogpofgmnibcaaOxmAO
namespace Go.Proofs.Ytfogpofgmnibcaa
open Go.RowKit
set_option linter.unusedVariables false

theorem refDecode8_any (b : List Int) (a : Option Addr) (c : Nat) (hbc : b.length ≤ c) (hc : c ≤ 9223372036854775807) (ob : Octets b) (hl : b.length ≤ 600) (w : World) (ib : Ints .u8 w a b) :
    Calls Try.prog 16 #[.slice a b.length c] w (DecPost (decL b) w) := by
  by_cases h4 : b.length < 4
  · exact refDecode8_few b a c h4 w
  have hb : 4 ≤ b.length := by omega
  obtain ⟨B, off, rfl, -⟩ := ib 0 (by omega)
  have hL := num_byte ((ob.drop 2).drop 1)
  obtain ⟨N, hN⟩ : ∃ N : Nat, len8 b = N := ⟨(len8 b).toNat, by unfold len8; omega⟩
  by_cases h1 : cls8 b = 32768
  · by_cases hF : 0 ≤ fld8 b / 2 ∧ fld8 b / 2 < 40
    · have h7 : (fld (fld8 b / 2)).z ≤ 600 := by have := (fld_dims hF).2.2.2; omega
      cases hH : oddB (fld8 b)
      · by_cases h3 : (N : Int) = ((fld (fld8 b / 2)).z : Int)
        · by_cases hs : (b.length : Int) < 4 + N
          · exact refDecode8_short1 b B off c hb hbc hc ob w ib hl h1 rfl hH hN hF h3 hs h7
          · exact refDecode8_basic1 b B off c hb hbc hc ob w ib hl h1 rfl hH hN hF h3 hs h7
        · exact refDecode8_len1 b B off c hb hbc hc ob w ib hl h1 rfl hH hN hF h3 h7
      · cases hm : (fld (fld8 b / 2)).m
        · exact refDecode8_mask b B off c hb hbc hc ob w ib hl h1 rfl hH hN hF hm
        · by_cases h3 : (N : Int) = 2 * ((fld (fld8 b / 2)).z : Int)
          · by_cases hs : (b.length : Int) < 4 + N
            · exact refDecode8_short2 b B off c hb hbc hc ob w ib hl h1 rfl hH hN hF hm h3 hs h7
            · exact refDecode8_basic2 b B off c hb hbc hc ob w ib hl h1 rfl hH hN rfl hF hm h3 hs h7
          · exact refDecode8_len2 b B off c hb hbc hc ob w ib hl h1 rfl hH hN hF hm h3 h7
    · exact refDecode8_nofield b B off c hb hbc hc ob w ib hl h1 rfl rfl hN hF
  by_cases h2 : cls8 b = 65535
  · by_cases hx : (N : Int) < 4
    · cases hH : oddB (fld8 b)
      · exact refDecode8_xlen1a b B off c hb hbc hc ob w ib hl h2 rfl hH hN hx
      · exact refDecode8_xlen2a b B off c hb hbc hc ob w ib hl h2 rfl hH hN hx
    obtain ⟨M, hM⟩ : ∃ M, N = M + 4 := ⟨N - 4, by omega⟩
    cases hH : oddB (fld8 b)
    · by_cases h5 : (100 : Int) < (N : Int) - 4
      · exact refDecode8_xlen1b b B off c hb hbc hc ob w ib hl h2 rfl hH hN hx h5
      by_cases hs : (b.length : Int) < 4 + N
      · exact refDecode8_xshort1 b B off c hb hbc hc ob w ib hl h2 rfl hH hN hx h5 hs
      by_cases hc8 : c = 8
      · exact refDecode8_extra1z b B off c hb hbc hc ob w ib hl h2 rfl hH hN (by omega) hs hc8
      · exact refDecode8_extra1 b B off c hb hbc hc ob w ib hl h2 rfl hH hN hM (by omega) hs (by omega)
    · by_cases h5 : ((N : Int) - 4) % 2 = 0
      · by_cases h6 : (200 : Int) < (N : Int) - 4
        · exact refDecode8_xlen2c b B off c hb hbc hc ob w ib hl h2 rfl hH hN hx h5 h6
        by_cases hs : (b.length : Int) < 4 + N
        · exact refDecode8_xshort2 b B off c hb hbc hc ob w ib hl h2 rfl hH hN hx h5 h6 hs
        by_cases hc8 : c = 8
        · exact refDecode8_extra2z b B off c hb hbc hc ob w ib hl h2 rfl hH hN (by omega) hs hc8
        · obtain ⟨S, hS⟩ : ∃ S, M = 2 * S := ⟨M / 2, by omega⟩
          exact refDecode8_extra2 b B off c hb hbc hc ob w ib hl h2 rfl hH hN hM hS (by omega) hs (by omega)
      · exact refDecode8_xlen2b b B off c hb hbc hc ob w ib hl h2 rfl hH hN hx h5
  · exact refDecode8_other b B off c hb hbc hc ob w ib hl rfl rfl rfl hN h1 h2
end Go.Proofs.Ytfogpofgmnibcaa
