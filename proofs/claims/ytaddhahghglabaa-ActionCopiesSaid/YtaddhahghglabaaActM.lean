/- Package action: the field that is set, read: whatever it is. -/
import Derived.Test.YtaddhahghglabaaActMB
import Derived.Test.YtaddhahghglabaaActMC
import Derived.Test.YtaddhahghglabaaActMD
import Derived.Test.YtaddhahghglabaaActME
import Derived.Deep.RegionHeld3
import Derived.Deep.DeepCutAuto
namespace Go.Proofs.Ytaddhahghglabaa
open Go.RowKit
set_option linter.unusedVariables false

theorem readSet_any (b : List Int) (a : Option Addr) (c : Nat) (hbl : b.length ≤ 100000) (hbc : b.length ≤ c) (hc : c ≤ 9223372036854775807) (ho : Octets b) (w : World) (hI : Ints .u8 w a b) :
    Calls Try.prog 51 #[.slice a b.length c] w (SetPost12 (set12 b) w) := by
  cases hq : decL b with
  | error q => exact readSet_no b a c hbc hc ho w hI q hq
  | ok o =>
    have hn := (dec_right hq ho).2.1
    have h0 : 0 < b.length := by have := (dec_right hq ho).2.2.1; have h1 := congrArg List.length this; rw [oxmBytes_length, List.length_take] at h1; omega
    obtain ⟨M, off, rfl, _⟩ := hI 0 h0
    by_cases hw : wset12 (ox12 o) = 0
    · by_cases h8 : o.n + 8 ≤ b.length
      · exact readSet_g_ge b M off c hbl hbc hc ho w hI o hq hw h8 (by omega)
      · by_cases hz : b.length ≤ o.n
        · by_cases hcn : c = o.n
          · exact readSet_g_cap b M off c hbl hbc hc ho w hI o hq hw hz hcn
          · exact readSet_g_zero b M off c hbl hbc hc ho w hI o hq hw hz hcn
        · cases hzz : zeros (b.drop o.n)
          · exact readSet_g_no b M off c hbl hbc hc ho w hI o hq hw ⟨by omega, by omega⟩ (by omega) hzz
          · exact readSet_g_yes b M off c hbl hbc hc ho w hI o hq hw ⟨by omega, by omega⟩ (by omega) hzz
    · by_cases h8 : o.n + 8 ≤ b.length
      · exact readSet_b_ge b M off c hbl hbc hc ho w hI o hq hw h8 (by omega)
      · by_cases hz : b.length ≤ o.n
        · by_cases hcn : c = o.n
          · exact readSet_b_cap b M off c hbl hbc hc ho w hI o hq hw hz hcn
          · exact readSet_b_zero b M off c hbl hbc hc ho w hI o hq hw hz hcn
        · exact readSet_b_mid b M off c hbl hbc hc ho w hI o hq hw ⟨by omega, by omega⟩ (by omega)
end Go.Proofs.Ytaddhahghglabaa
