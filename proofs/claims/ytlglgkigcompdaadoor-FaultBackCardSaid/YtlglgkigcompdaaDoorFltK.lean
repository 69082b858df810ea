/- Package fault: Read. -/
import Derived.Test.YtlglgkigcompdaaDoorFltJ
import Derived.Lib.AtoiBound
namespace Go.Proofs.YtlglgkigcompdaaDoor
open Go.RowKit Go.Shelf

def wordB (s : ByteArray) : ByteArray := ⟨(wordL s.data.toList).toArray⟩
def restB (s : ByteArray) : ByteArray := ⟨(restL s.data.toList).toArray⟩
def okB : List UInt8 := [111, 107]
def ownS : List UInt8 := [111, 119, 110]
def spellB (s : ByteArray) (n : Int) : ByteArray := s ++ ⟨#[32]⟩ ++ ⟨(Lib.itoa n).toArray⟩

/-- what Read tells -/
def readC (s : ByteArray) : Int × Bool :=
  if s.toList == okB then (0, true) else
  match Lib.atoiAll (restB s).data.toList with
  | .ok n => if (spellB (wordB s) n).toList == s.toList then (if (wordB s).toList == ownS then (ownL n, ownB (10000 + n)) else (makeL (typeL (wordB s)) n, madeL (typeL (wordB s)) n)) else (0, false)
  | _ => (0, false)

theorem wordB_size (s : ByteArray) : (wordB s).size ≤ s.size := by
  have e : s.data.toList.length = s.size := Array.length_toList
  show (wordL s.data.toList).toArray.size ≤ _
  unfold wordL
  split
  · simp; omega
  · simp
theorem restB_size (s : ByteArray) : (restB s).size ≤ s.size := by
  have e : s.data.toList.length = s.size := Array.length_toList
  show (restL s.data.toList).toArray.size ≤ _
  unfold restL
  split
  · simp
  · simp

theorem read_any (s : ByteArray) (hs : s.size ≤ 1000000) (w : World) (hL : Laid w) :
    Calls Tryd.prog 13 #[.string s] w fun x w' => x = .returned (.tuple #[.int .i64 (readC s).1, .bool (readC s).2]) ∧ Below w.heap.size w w' := by
  unfold readC
  cases hok : s.toList == okB
  · rw [if_neg (by simp)]
    have hC := cutBlank_any s (by omega) w
    have hw := wordB_size s
    have hr := restB_size s
    change Calls _ _ _ _ (fun e w' => (∃ b, e = .returned (.tuple #[.string (wordB s), .string (restB s), .bool b])) ∧ _) at hC
    obtain ⟨u, hu⟩ : ∃ u, wordB s = u := ⟨_, rfl⟩
    obtain ⟨v, hv⟩ : ∃ v, restB s = v := ⟨_, rfl⟩
    rw [hu] at hC hw ⊢
    rw [hv] at hC hr ⊢
    clear hu hv
    have hok2 : (s.toList == [111, 107]) = false := hok
    by_cases ha : ∃ n, Lib.atoiAll v.data.toList = .ok n
    · obtain ⟨n, hn⟩ := ha
      obtain ⟨n0, n1⟩ := Lib.atoiAll_bounds hn
      have hA := fun W => atoi_ok v (by omega) n hn W
      have hS := fun W h => spell_any u n (by omega) (by omega) (by omega) W h
      change ∀ W, Laid W → Calls _ _ _ _ (fun e w' => e = .returned (.string (spellB u n)) ∧ _) at hS
      have HA := hid hA
      have HS := hid hS
      simp only [hn]
      obtain ⟨p, hp⟩ : ∃ p, spellB u n = p := ⟨_, rfl⟩
      rw [hp] at HS ⊢
      have HC := hid hC
      clear hn hA hS hp hok hC
      cases he : p.toList == s.toList
      · rw [if_neg (by simp)]
        have he2 : (p.toList != s.toList) = true := by simp [bne, he]
        go_enter Tryd.func13, Tryd.ntmps13
        go_wp2_with fail
        refine HC.out.mono ?_
        rintro e w1 ⟨⟨b, rfl⟩, hb1⟩
        go_wp2_with fail
        refine (HA.out _).mono ?_
        rintro e w2 ⟨rfl, hb2⟩
        have hb3 := hb1.trans (hb2.mono hb1.size)
        have hL3 := hL.below hb3
        go_wp2_with fail
        refine (HS.out _ hL3).mono ?_
        rintro e w3 ⟨rfl, hb4⟩
        go_wp2_with fail
        go_ret2
        exact ⟨rfl, hb3.trans (hb4.mono hb3.size)⟩
      · rw [if_pos rfl]
        have he2 : (p.toList != s.toList) = false := by simp [bne, he]
        cases ho : u.toList == ownS
        · rw [if_neg (by simp)]
          have ho2 : (u.toList == [111, 119, 110]) = false := ho
          go_enter Tryd.func13, Tryd.ntmps13
          go_wp2_with fail
          refine HC.out.mono ?_
          rintro e w1 ⟨⟨b, rfl⟩, hb1⟩
          go_wp2_with fail
          refine (HA.out _).mono ?_
          rintro e w2 ⟨rfl, hb2⟩
          have hb3 := hb1.trans (hb2.mono hb1.size)
          have hL3 := hL.below hb3
          go_wp2_with fail
          refine (HS.out _ hL3).mono ?_
          rintro e w3 ⟨rfl, hb4⟩
          have hb5 := hb3.trans (hb4.mono hb3.size)
          have hL5 := hL.below hb5
          clear hb1 hb2 hb3 hb4 hL3
          go_wp2_with fail
          refine (typeOf_any _ _ hL5).mono ?_
          rintro e w4 ⟨rfl, rfl⟩
          go_wp2_with fail
          refine (make_any _ _ _).mono ?_
          rintro e w4 ⟨rfl, rfl⟩
          go_wp2_with fail
          go_ret2
          exact ⟨rfl, hb5⟩
        · rw [if_pos rfl]
          have ho2 : (u.toList == [111, 119, 110]) = true := ho
          go_enter Tryd.func13, Tryd.ntmps13
          go_wp2_with fail
          refine HC.out.mono ?_
          rintro e w1 ⟨⟨b, rfl⟩, hb1⟩
          go_wp2_with fail
          refine (HA.out _).mono ?_
          rintro e w2 ⟨rfl, hb2⟩
          have hb3 := hb1.trans (hb2.mono hb1.size)
          have hL3 := hL.below hb3
          go_wp2_with fail
          refine (HS.out _ hL3).mono ?_
          rintro e w3 ⟨rfl, hb4⟩
          have hb5 := hb3.trans (hb4.mono hb3.size)
          clear hb1 hb2 hb3 hb4 hL3
          go_wp2_with fail
          refine (makeOwn_any n (by omega) (by omega) _).mono ?_
          rintro e w4 ⟨rfl, rfl⟩
          go_wp2_with fail
          go_ret2
          exact ⟨rfl, hb5⟩
    · have hB := atoi_bad v (by omega) (fun n hn => ha ⟨n, hn⟩)
      have e0 : (match Lib.atoiAll v.data.toList with
        | .ok n => if (spellB u n).toList == s.toList then (if u.toList == ownS then (ownL n, ownB (10000 + n)) else (makeL (typeL u) n, madeL (typeL u) n)) else (0, false)
        | _ => ((0 : Int), false)) = (0, false) := by
        rcases h : Lib.atoiAll v.data.toList with n | _ | _
        · exact absurd ⟨n, h⟩ ha
        · rfl
        · rfl
      rw [e0]
      have HB := hid hB
      have HC := hid hC
      clear e0 ha hB hC hok
      go_enter Tryd.func13, Tryd.ntmps13
      go_wp2_with fail
      refine HC.out.mono ?_
      rintro e w1 ⟨⟨b, rfl⟩, hb1⟩
      have hL1 := hL.below hb1
      go_wp2_with fail
      refine (HB.out _ hL1).mono ?_
      rintro e w2 ⟨x, t, N, rfl, hb2⟩
      go_wp2_with fail
      go_ret2
      exact ⟨rfl, hb1.trans (hb2.mono hb1.size)⟩
  · rw [if_pos rfl]
    have hok2 : (s.toList == [111, 107]) = true := hok
    go_enter Tryd.func13, Tryd.ntmps13
    go_wp2_with fail
    go_ret2
    exact ⟨rfl, Below.refl _ _⟩
end Go.Proofs.YtlglgkigcompdaaDoor
