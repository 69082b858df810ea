/- Package oxm: Value and Mask read. -/
import Derived.Test.YtfogpofgmnibcaaOxmN
namespace Go.Proofs.Ytfogpofgmnibcaa
open Go.RowKit
set_option linter.unusedVariables false

section
variable {w : World} {g M : Nat} {l : List Int} {r s o f : Int}
/-- memory that is new behind w -/
def New8 (w : World) (a : Option Addr) : Prop := ∀ q : Addr, a = some q → w.heap.size ≤ q.block
/-- two pieces of bytes read -/
def ReadOk (w : World) (g M : Nat) (v m l : List Int) (r s o : Int) (e : Ending) (w' : World) : Prop :=
  ∃ a1 c1 a2 c2, e = .returned (.tuple #[.slice a1 v.length c1, .slice a2 m.length c2]) ∧ Ints .u8 w' a1 v ∧ Ints .u8 w' a2 m ∧ m.length ≤ c2 ∧ New8 w a1 ∧ New8 w a2 ∧ Cur w' g M l r s o 0 ∧ w.grownBy w' (some g)
/-- not enough bytes, or a fault ahead -/
def ReadBad (w : World) (g M : Nat) (s o f : Int) (e : Ending) (w' : World) : Prop :=
  ∃ a1 n1 c1 a2 n2 c2 l r, e = .returned (.tuple #[.slice a1 n1 c1, .slice a2 n2 c2]) ∧ Cur w' g M l r s o f ∧ w.grownBy w' (some g)

theorem bytesPost_open {out : List Int} {e : Ending} {w' : World} (h : BytesPost w g M out l r s o f e w') : ∃ k, e = .returned (.slice (some ⟨k, 0, none⟩) out.length out.length) ∧ (Ints .u8 w' (some ⟨k, 0, none⟩) out ∧ w.heap.size ≤ k) ∧ Cur w' g M l r s o f ∧ w.grownBy w' (some g) := by
  obtain ⟨k, rfl, hG, hc⟩ := h
  obtain ⟨a, c, he, _, _, hI⟩ := own_ints hG.own
  have he1 : a = some ⟨k, 0, none⟩ := by simpa using (congrArg (fun x => match x with | Value.slice a _ _ => a | _ => none) he).symm
  exact ⟨k, rfl, ⟨by rw [← he1]; exact hI, hG.new k rfl⟩, hc, hG.by_⟩

set_option maxRecDepth 100000 in
set_option maxHeartbeats 1000000 in
theorem readBytes_late (h : Cur w g M l r s o f) (hf : f ≠ 0) (H : Bool) (n : Int) (n0 : -10000 ≤ n) (n1 : n ≤ 10000) :
    Calls Try.prog 61 #[.func (.func 62) #[.pointer (some ⟨g, 0, none⟩)] #[], .bool H, .int .i64 n] w (ReadBad w g M s o f) := by
  have HF := hid hf
  have HC := hid h
  clear hf
  cases H
  · go_enter Try.func61, Try.ntmps61
    go_wp2_with fail
    refine (HC.out.bytes_late HF.out _).mono ?_
    intro e w1 h1
    obtain ⟨k, rfl, hI, hc, hb⟩ := bytesPost_open h1
    clear h1 hI
    go_wp2_with fail
    go_ret2
    exact ⟨_, _, _, _, _, _, _, _, rfl, hc, hb⟩
  · go_enter Try.func61, Try.ntmps61
    go_wp2_with fail
    refine (HC.out.bytes_late HF.out _).mono ?_
    intro e w1 h1
    obtain ⟨k, rfl, hI, hc, hb⟩ := bytesPost_open h1
    clear h1 hI
    go_wp2_with fail
    refine (hc.bytes_late HF.out _).mono ?_
    intro e w2 h2
    obtain ⟨k2, rfl, hI2, hc2, hb2⟩ := bytesPost_open h2
    clear h2 hI2
    go_wp2_with fail
    go_ret2
    exact ⟨_, _, _, _, _, _, _, _, rfl, hc2, grownBy_then hb hb2⟩

set_option maxRecDepth 100000 in
set_option maxHeartbeats 1000000 in
theorem readBytes_one (h : Cur w g M l r s o 0) {n : Nat} (hn : n ≤ l.length) (n1 : n ≤ 10000) :
    Calls Try.prog 61 #[.func (.func 62) #[.pointer (some ⟨g, 0, none⟩)] #[], .bool false, .int .i64 n] w (ReadOk w g M (l.take n) [] (l.drop n) (r + n) s o) := by
  have HC := hid (h.bytes_ok hn)
  clear hn h
  go_enter Try.func61, Try.ntmps61
  go_wp2_with fail
  refine HC.out.mono ?_
  intro e w1 h1
  obtain ⟨k, rfl, hI, hc, hb⟩ := bytesPost_open h1
  have HI := hid hI
  clear h1 hI
  obtain ⟨z, hz⟩ : ∃ z, (l.take n).length = z := ⟨_, rfl⟩
  rw [hz]
  have HZ := hid hz
  clear hz
  go_wp2_with fail
  go_ret2
  exact ⟨_, _, none, 0, by rw [HZ.out]; rfl, HI.out.1, Ints.nil _ _ _, Nat.le_refl _, fun q hq => by cases hq; exact HI.out.2, (fun q hq => by cases hq), hc, hb⟩

set_option maxRecDepth 100000 in
set_option maxHeartbeats 1000000 in
theorem readBytes_one_short (h : Cur w g M l r s o 0) {n : Nat} (hn : l.length < n) (n1 : n ≤ 10000) :
    Calls Try.prog 61 #[.func (.func 62) #[.pointer (some ⟨g, 0, none⟩)] #[], .bool false, .int .i64 n] w (ReadBad w g M s o s) := by
  have HC := hid (h.bytes_short (n := n) (by omega))
  clear hn h
  go_enter Try.func61, Try.ntmps61
  go_wp2_with fail
  refine HC.out.mono ?_
  intro e w1 h1
  obtain ⟨k, rfl, hI, hc, hb⟩ := bytesPost_open h1
  clear h1 hI
  go_wp2_with fail
  go_ret2
  exact ⟨_, _, _, _, _, _, _, _, rfl, hc, hb⟩

set_option maxRecDepth 100000 in
set_option maxHeartbeats 1000000 in
theorem readBytes_two (h : Cur w g M l r s o 0) {n q : Nat} (hq : n = 2 * q) (hn : n ≤ l.length) (n1 : n ≤ 10000) {v m l1 l2 : List Int} (hv : l.take q = v) (hl1 : l.drop q = l1) (hm : l1.take q = m) (hl2 : l1.drop q = l2) :
    Calls Try.prog 61 #[.func (.func 62) #[.pointer (some ⟨g, 0, none⟩)] #[], .bool true, .int .i64 n] w (ReadOk w g M v m l2 (r + q + q) s o) := by
  have HC := hid (h.bytes_ok (n := q) (by omega))
  have hh : (n : Int) / 2 = (q : Int) := by omega
  have HL : Hid (q ≤ l1.length) := by show _ ≤ _; rw [← hl1, List.length_drop]; omega
  rw [hv, hl1] at HC
  have HM := hid hm
  have HL2 := hid hl2
  clear hn h hq hv hl1 hm hl2
  go_enter Try.func61, Try.ntmps61
  go_wp2_with fail
  refine HC.out.mono ?_
  intro e w1 h1
  obtain ⟨k, rfl, hI, hc, hb⟩ := bytesPost_open h1
  have HI := hid hI
  clear h1 hI
  have HD := hc.bytes_ok HL.out
  rw [HM.out, HL2.out] at HD
  have HD := hid HD
  have HB := hid hb
  have HCC := hid hc
  clear hb hc
  obtain ⟨z, hz⟩ : ∃ z, v.length = z := ⟨_, rfl⟩
  rw [hz]
  have HZ := hid hz
  clear hz
  go_wp2_with fail
  refine HD.out.mono ?_
  intro e w2 h2
  obtain ⟨k2, rfl, hI2, hc2, hb2⟩ := bytesPost_open h2
  have HI2 := hid hI2
  have HI1 := hid (HCC.out.ints HI.out.1 (by decide) hb2)
  have HC2 := hid hc2
  have HB2 := hid (grownBy_then HB.out hb2)
  clear h2 hI2 hb2 hc2
  obtain ⟨y, hy⟩ : ∃ z, m.length = z := ⟨_, rfl⟩
  rw [hy]
  have HY := hid hy
  clear hy
  go_wp2_with fail
  go_ret2
  exact ⟨_, _, _, y, by rw [HZ.out, HY.out]; rfl, HI1.out, HI2.out.1, by rw [HY.out]; exact Nat.le_refl _, fun q hq => by cases hq; exact HI.out.2, fun q hq => by cases hq; exact Nat.le_trans HB.out.size HI2.out.2, HC2.out, HB2.out⟩

set_option maxRecDepth 100000 in
set_option maxHeartbeats 1000000 in
theorem readBytes_two_short (h : Cur w g M l r s o 0) (hs : s ≠ 0) {n q : Nat} (hq : n = 2 * q) (hn : l.length < n) (n1 : n ≤ 10000) :
    Calls Try.prog 61 #[.func (.func 62) #[.pointer (some ⟨g, 0, none⟩)] #[], .bool true, .int .i64 n] w (ReadBad w g M s o s) := by
  have hh : (n : Int) / 2 = (q : Int) := by omega
  have HS := hid hs
  by_cases hl : l.length < q
  · have HC := hid (h.bytes_short (n := q) (by omega))
    clear hn h hq hl hs
    go_enter Try.func61, Try.ntmps61
    go_wp2_with fail
    refine HC.out.mono ?_
    intro e w1 h1
    obtain ⟨k, rfl, hI, hc, hb⟩ := bytesPost_open h1
    clear h1 hI
    go_wp2_with fail
    refine (hc.bytes_late HS.out _).mono ?_
    intro e w2 h2
    obtain ⟨k2, rfl, hI2, hc2, hb2⟩ := bytesPost_open h2
    clear h2 hI2
    go_wp2_with fail
    go_ret2
    exact ⟨_, _, _, _, _, _, _, _, rfl, hc2, grownBy_then hb hb2⟩
  · have HC := hid (h.bytes_ok (n := q) (by omega))
    have HL : Hid ((l.drop q).length < q) := by show _ < _; rw [List.length_drop]; omega
    clear hn h hq hl hs
    go_enter Try.func61, Try.ntmps61
    go_wp2_with fail
    refine HC.out.mono ?_
    intro e w1 h1
    obtain ⟨k, rfl, hI, hc, hb⟩ := bytesPost_open h1
    clear h1 hI
    have HD := hid (hc.bytes_short (n := q) (by have := HL.out; omega))
    clear hc
    obtain ⟨z, hz⟩ : ∃ z, (l.take q).length = z := ⟨_, rfl⟩
    rw [hz]
    clear hz
    go_wp2_with fail
    refine HD.out.mono ?_
    intro e w2 h2
    obtain ⟨k2, rfl, hI2, hc2, hb2⟩ := bytesPost_open h2
    clear h2 hI2
    go_wp2_with fail
    go_ret2
    exact ⟨_, _, _, _, _, _, _, _, rfl, hc2, grownBy_then hb hb2⟩
end
end Go.Proofs.Ytfogpofgmnibcaa
