/- What the library's functions do that package fault calls: Itoa, Atoi, Cut at a blank; and what the listed variables hold. -/
import Derived.Test.YtlglgkigcompdaaDoorFltC
import Derived.Test.YtlglgkigcompdaaDoorShelf
import Derived.Shelf.Strconv.Itoa3
import Derived.Shelf.Strconv.AtoiAll
import Derived.Shelf.Strings.Search2
import Derived.Lib.AppendIntMem
namespace Go.Proofs.YtlglgkigcompdaaDoor
open Go.RowKit Go.Shelf

/-- the name of the library's table of powers -/
def powName : String := ((Rows.faultPairsRow.laid.drop 2).head?.map (·.1)).getD ""

/-- what the package-level variables hold that the program reads -/
structure Laid (w : World) : Prop where
  pow : Lib.TabIs Tryd.prog w powName .u64 Lib.pow10Tab
  rng : ∃ ev, w.cell? ⟨3, 0, none⟩ = some ev ∧ (ev = .nilIface ∨ ∃ te pe, ev = .iface te pe)
  syn : ∃ ev, w.cell? ⟨2, 0, none⟩ = some ev ∧ (ev = .nilIface ∨ ∃ te pe, ev = .iface te pe)
  names : ∀ i, i < 14 → w.cell? ⟨0, i, none⟩ = some (.string (nameT.getD i ⟨#[]⟩))

theorem Laid.below {w w' : World} (h : Laid w) (hb : Below w.heap.size w w') : Laid w' := by
  obtain ⟨e1, h1, k1⟩ := h.rng
  obtain ⟨e2, h2, k2⟩ := h.syn
  exact ⟨Lib.tabBelow_of_tabIs h.pow w' hb, ⟨e1, cell_keep h1 hb, k1⟩, ⟨e2, cell_keep h2 hb, k2⟩, fun i hi => cell_keep (h.names i hi) hb⟩

theorem below_grow (w : World) (k : Nat) (os : Array Obj) : Below w.heap.size w (Sort.grow (w.drewN k) os) :=
  ⟨rfl, rfl, rfl, by simp [Sort.grow, World.drewN], fun i hi => by
    show (w.heap ++ os)[i]? = w.heap[i]?
    rw [Array.getElem?_append_left hi]⟩

theorem itoa_any (n : Int) (h0 : -9223372036854775808 ≤ n) (h1 : n ≤ 9223372036854775807) (w : World) (hL : Laid w) :
    Calls Tryd.prog 29 #[.int .i64 n] w fun e w' => e = .returned (.string ⟨(Lib.itoa n).toArray⟩) ∧ Below w.heap.size w w' := by
  have h : Calls Tryd.prog 29 #[.int .i64 n] w fun e w' => e = .returned (.string ⟨(Lib.itoa n).toArray⟩) ∧ ∃ k os, w' = Sort.grow (w.drewN k) os := Any.strconv_Itoa Tryd.laysM171 n h0 h1 w hL.pow
  refine h.mono ?_
  rintro e w' ⟨he, k, os, rfl⟩
  exact ⟨he, below_grow w k os⟩

theorem atoi_ok (s : ByteArray) (hmax : s.size ≤ 281474976710656) (v : Int) (h : Lib.atoiAll s.data.toList = .ok v) (w : World) :
    Calls Tryd.prog 19 #[.string s] w fun e w' => e = .returned (.tuple #[.int .i64 v, .nilIface]) ∧ Below w.heap.size w w' := by
  have h : Calls Tryd.prog 19 #[.string s] w fun e w' => e = .returned (.tuple #[.int .i64 v, .nilIface]) ∧ (w' = w ∨ ∃ t, w' = Lib.bytesWorld w 5 t) := Any.strconv_Atoi_ok Tryd.laysC172 s (by omega) v h w
  refine h.mono ?_
  rintro e w' ⟨he, rfl | ⟨t, rfl⟩⟩
  · exact ⟨he, Below.refl _ _⟩
  · exact ⟨he, Lib.bytesWorld_below _ _ _⟩

theorem atoi_bad (s : ByteArray) (hlim : s.size ≤ 281474976710656) (h : ∀ v, Lib.atoiAll s.data.toList ≠ .ok v) (w : World) (hL : Laid w) :
    Calls Tryd.prog 19 #[.string s] w fun e w' => ∃ x t N, e = .returned (.tuple #[.int .i64 x, .iface t (.pointer (some ⟨N, 0, none⟩))]) ∧ Below w.heap.size w w' := by
  obtain ⟨e1, h1, k1⟩ := hL.rng
  obtain ⟨e2, h2, k2⟩ := hL.syn
  rcases ha : Lib.atoiAll s.data.toList with v | _ | _
  · exact absurd ha (h v)
  · have g : Calls Tryd.prog 19 #[.string s] w _ := Any.strconv_Atoi_syntax Tryd.laysC172 s hlim ha e2 w h2 k2
    refine g.mono ?_
    rintro e w' ⟨N, rfl, -, -, hb⟩
    exact ⟨_, _, N, rfl, hb⟩
  · have g : Calls Tryd.prog 19 #[.string s] w _ := Any.strconv_Atoi_range Tryd.laysC172 s hlim ha e1 w h1 k1
    refine g.mono ?_
    rintro e w' ⟨N, rfl, -, -, hb⟩
    exact ⟨_, _, N, rfl, hb⟩

theorem index_any (s : ByteArray) (c : UInt8) (w : World) :
    Calls Tryd.prog 30 #[.string s, .string ⟨#[c]⟩] w fun e w' => e = .returned (.int .i64 (Lib.indexByte s.data.toList c)) ∧ w = w' := by
  have h : Calls Tryd.prog 30 #[.string s, .string ⟨#[c]⟩] w fun e w' => e = .returned (.int .i64 (Lib.indexByte s.data.toList c)) ∧ w' = w := Any.stringslite_Index_one Tryd.lays219 s c w
  exact h.mono fun e w' ⟨h1, h2⟩ => ⟨h1, h2.symm⟩

/-- what stands ahead of the first blank, and behind it -/
def wordL (l : List UInt8) : List UInt8 := if 0 ≤ Lib.indexByte l 32 then l.take (Lib.indexByte l 32).toNat else l
def restL (l : List UInt8) : List UInt8 := if 0 ≤ Lib.indexByte l 32 then l.drop ((Lib.indexByte l 32).toNat + 1) else []

theorem indexByte_lt {l : List UInt8} {i : Nat} (h : Lib.indexByte l 32 = i) : i < l.length := by
  have := (Lib.indexByte_some h).1
  rcases Nat.lt_or_ge i l.length with g | g
  · exact g
  · rw [List.getElem?_eq_none g] at this; simp at this

theorem liteCut_any (s : ByteArray) (hs : s.size ≤ 9223372036854775806) (w : World) :
    Calls Tryd.prog 26 #[.string s, .string ⟨#[32]⟩] w fun e w' => (∃ b, e = .returned (.tuple #[.string ⟨(wordL s.data.toList).toArray⟩, .string ⟨(restL s.data.toList).toArray⟩, .bool b])) ∧ Below w.heap.size w w' := by
  have hge := Lib.indexByte_ge s.data.toList 32
  rcases Int.lt_or_le (Lib.indexByte s.data.toList 32) 0 with h | h
  · have e1 : (⟨(wordL s.data.toList).toArray⟩ : ByteArray) = s := by unfold wordL; rw [if_neg (by omega)]
    have e2 : (⟨(restL s.data.toList).toArray⟩ : ByteArray) = ⟨#[]⟩ := by unfold restL; rw [if_neg (by omega)]
    rw [e1, e2]
    clear e1 e2 hge
    obtain ⟨i, hi⟩ : ∃ i, Lib.indexByte s.data.toList 32 = i := ⟨_, rfl⟩
    rw [hi] at h
    go_enter Tryd.func26, Tryd.ntmps26
    go_wp2_with (go_at_call 30; refine (index_any _ _ _).mono ?_; rintro e w' ⟨rfl, rfl⟩; rw [hi])
    go_ret3
    exact ⟨⟨_, rfl⟩, Below.refl _ _⟩
  · obtain ⟨i, hi⟩ := Int.eq_ofNat_of_zero_le h
    have hlt := indexByte_lt hi
    have hsz : s.data.toList.length = s.size := Array.length_toList
    have e1 : (⟨(wordL s.data.toList).toArray⟩ : ByteArray) = s.extract 0 i := by unfold wordL; rw [if_pos h, hi, Lib.extract_eq]; simp
    have e2 : (⟨(restL s.data.toList).toArray⟩ : ByteArray) = s.extract (i + 1) s.size := by
      unfold restL; rw [if_pos h, hi, Lib.extract_eq, List.take_of_length_le (by simp)]; simp
    rw [e1, e2]
    clear e1 e2 hge h
    have c1 : (0 : Int) ≤ i := by omega
    have c2 : (i : Int) ≤ s.size := by omega
    have c3 : (0 : Int) ≤ (i : Int) + 1 := by omega
    have c4 : (i : Int) + 1 ≤ s.size := by omega
    clear hsz hlt
    go_enter Tryd.func26, Tryd.ntmps26
    go_wp2_with (go_at_call 30; refine (index_any _ _ _).mono ?_; rintro e w' ⟨rfl, rfl⟩; rw [hi])
    go_region
    go_wp2
    go_ret3
    exact ⟨⟨_, rfl⟩, (Below.refl _ _).drew⟩

theorem cutBlank_any (s : ByteArray) (hs : s.size ≤ 9223372036854775806) (w : World) :
    Calls Tryd.prog 18 #[.string s, .string ⟨#[32]⟩] w fun e w' => (∃ b, e = .returned (.tuple #[.string ⟨(wordL s.data.toList).toArray⟩, .string ⟨(restL s.data.toList).toArray⟩, .bool b])) ∧ Below w.heap.size w w' := by
  go_enter Tryd.func18, Tryd.ntmps18
  go_wp2_with (go_at_call 26; refine (liteCut_any _ hs _).mono ?_; rintro e w' ⟨⟨b, rfl⟩, hb⟩)
  go_ret3
  exact ⟨⟨_, rfl⟩, hb⟩
end Go.Proofs.YtlglgkigcompdaaDoor
