/- The document's values: bytes as a value. -/
import Derived.Test.YtfogpofgmnibcaaOxmY
import Derived.Test.YtfogpofgmnibcaaOxmV
import Derived.Deep.RegionHeld3
import Derived.Deep.DeepCutAuto
namespace Go.Proofs.Ytfogpofgmnibcaa
open Go.RowKit
set_option linter.unusedVariables false

theorem zero_box8 (w : World) : ∃ W, w.alloc (.cells #[.int .i64 0, .int .i64 0, .bool false, .int .u64 0, .slice none 0 0, .slice none 0 0] 25) = W ∧ Below w.heap.size w W ∧ BoxL W w.heap.size [.int .i64 0, .int .i64 0, .bool false, .int .u64 0, .slice none 0 0, .slice none 0 0] := oxm_box w 0 0 false 0 none 0 0 none 0 0
set_option maxRecDepth 100000 in
set_option maxHeartbeats 2000000 in
theorem refDecode8_few (b : List Int) (a : Option Addr) (c : Nat) (hb : b.length < 4) (w : World) :
    Calls Try.prog 16 #[.slice a b.length c] w (DecPost (decL b) w) := by
  have hD : Hid (decL b = .error 1026) := by show _ = _; simp [decL, rawL, hb]
  have i4 : (b.length : Int) < 4 := by omega
  obtain ⟨W, hW, hbW, hR⟩ := zero_box8 w
  have HW := hid hW
  have HB := hid hbW
  obtain ⟨r0, r1, r2, r3, r4, r5⟩ := hR.six
  have zR := hR.free
  clear hW hbW hb
  go_enter Try.func16, Try.ntmps16
  go_wp2_with fail
  rw [HW.out]
  go_wp2_with fail
  refine bodyPost_ret (v := .tuple #[.agg #[.int .i64 0, .int .i64 0, .bool false, .int .u64 0, .slice none 0 0, .slice none 0 0], .int .i64 0, .int .i64 1026]) (by simp [results, Try.results16, go_sem, r0, r1, r2, r3, r4, r5]) rfl (.inl ⟨_, hD.out, by decide, rfl, ?_⟩)
  exact HB.out
end Go.Proofs.Ytfogpofgmnibcaa
