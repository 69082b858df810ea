/- Package cover: what a finder finds. -/
import Derived.Test.YtpmkfkanolhocaaGreatCovL
namespace Go.Proofs.YtpmkfkanolhocaaGreat
open Go.RowKit
set_option linter.unusedVariables false
set_option maxRecDepth 100000

/-- what the innermost function stands on: which function holds, and the pattern that is asked for -/
structure Asked11 (w : World) (f : FuncId) (b3 b5 : Nat) (p : Ox9) : Prop where
  fn : w.cell? ⟨b3, 0, none⟩ = some (.func (.func f) #[] #[])
  pat : ∃ va vc pa pc, BoxL w b5 [.bool p.H, .slice va p.v.length vc, .slice pa p.v.length pc] ∧ Ints .u8 w va p.v ∧ Ints .u8 w pa (mask11 p)
theorem Asked11.below {w w' : World} {f : FuncId} {b3 b5 : Nat} {p : Ox9} (h : Asked11 w f b3 b5 p) (hb : Below w.heap.size w w') : Asked11 w' f b3 b5 p := by
  obtain ⟨h1, va, vc, pa, pc, h2, h3, h4⟩ := h
  exact ⟨cell_keep h1 hb, va, vc, pa, pc, h2.below hb, h3.below hb, h4.below hb⟩
set_option maxHeartbeats 2000000 in
theorem ask_any {f : FuncId} {hp : Ox9 → Ox9 → Bool} (hH : Holds11 f hp) (w : World) (x : Value) (o p : Ox9) (b3 b5 : Nat) (hx : PatV w x o) (hA : Asked11 w f b3 b5 p) (ho : OkV o) (hq : OkV p) (hs : o.v.length ≤ 1000) (ht : p.v.length ≤ 1000) :
    Calls Tryz.prog 57 #[x, .pointer (some ⟨b3, 0, none⟩), .pointer (some ⟨b5, 0, none⟩)] w fun e w' => e = .returned (.bool (hp o p)) ∧ Below w.heap.size w w' := by
  have HX := hid hx
  obtain ⟨va, vc, pa, pc, rfl, _, _⟩ := hx
  obtain ⟨W, hW, hbW, hX, hs1⟩ := box_any w [.bool o.H, .slice va o.v.length vc, .slice pa o.v.length pc] 43
  have hA2 := hA.below hbW
  obtain ⟨c0, vb, vd, pb, pd, hY, hu, hn⟩ := hA2
  have HC := hid (hH.tells W _ _ o p (HX.out.below hbW) ⟨vb, vd, pb, pd, rfl, hu, hn⟩ ho hq hs ht)
  have hE := hH.enters #[.agg #[.bool o.H, .slice va o.v.length vc, .slice pa o.v.length pc], .agg #[.bool p.H, .slice vb p.v.length vd, .slice pb p.v.length pd]] W
  have HW := hid hW
  have HB := hid hbW
  obtain ⟨d0, d1, d2⟩ := hX.three
  obtain ⟨f0, f1, f2⟩ := hY.three
  obtain ⟨r, hr⟩ : ∃ r, hp o p = r := ⟨_, rfl⟩
  rw [hr] at HC ⊢
  clear hH hA hW hX hY hbW hu hn ho hq HX hr
  go_enter Tryz.func57, Tryz.ntmps57
  go_upto_region 1 with fail
  rw [HW.out]
  go_wp2_with fail
  refine HC.out.mono ?_
  rintro e w5 ⟨rfl, hb5⟩
  go_wp2_with fail
  go_ret
  exact ⟨rfl, below_on HB.out hb5⟩

/-- one pattern in a slice -/
def PatS (w : World) (v : Value) (o : Ox9) : Prop :=
  ∃ q c va vc pa pc, v = .slice (some ⟨q, 0, none⟩) 1 c ∧ w.cell? ⟨q, 0, none⟩ = some (.bool o.H) ∧ w.cell? ⟨q, 1, none⟩ = some (.slice va o.v.length vc) ∧ w.cell? ⟨q, 2, none⟩ = some (.slice pa o.v.length pc) ∧ Ints .u8 w va o.v ∧ Ints .u8 w pa (mask11 o)
theorem PatS.below {w w' : World} {v : Value} {o : Ox9} (h : PatS w v o) (hb : Below w.heap.size w w') : PatS w' v o := by
  obtain ⟨q, c, va, vc, pa, pc, e, h0, h1, h2, h3, h4⟩ := h
  exact ⟨q, c, va, vc, pa, pc, e, cell_keep h0 hb, cell_keep h1 hb, cell_keep h2 hb, h3.below hb, h4.below hb⟩
def Idx11 (r : Bool) (i : Int) : Prop := decide (0 ≤ i) = r
set_option maxHeartbeats 2000000 in
theorem idxPat_one {f : FuncId} {hp : Ox9 → Ox9 → Bool} (hH : Holds11 f hp) (w : World) (v : Value) (o p : Ox9) (b3 b5 : Nat) (hv : PatS w v o) (hA : Asked11 w f b3 b5 p) (ho : OkV o) (hq : OkV p) (hs : o.v.length ≤ 1000) (ht : p.v.length ≤ 1000) :
    Calls Tryz.prog 79 #[v, .func (.func 57) #[] #[.pointer (some ⟨b3, 0, none⟩), .pointer (some ⟨b5, 0, none⟩)]] w fun e w' => (∃ i, e = .returned (.int .i64 i) ∧ Idx11 (hp o p) i) ∧ Below w.heap.size w w' := by
  obtain ⟨q, c, va, vc, pa, pc, rfl, d0, d1, d2, iv, im⟩ := hv
  have HC := hid (ask_any hH w _ o p b3 b5 ⟨va, vc, pa, pc, rfl, iv, im⟩ hA ho hq hs ht)
  obtain ⟨r, hr⟩ : ∃ r, hp o p = r := ⟨_, rfl⟩
  rw [hr] at HC ⊢
  clear hH hA hr iv im ho hq
  go_enter Tryz.func79, Tryz.ntmps79
  go_wp2_with fail
  go_loopg [8] 1 (fun kx s8 wr => (s8 = .int .i64 0 ∧ 1 ≤ kx ∧ wr = w) ∨ (s8 = .int .i64 1 ∧ Hid (r = false) ∧ Hid (Below w.heap.size w wr)))
  case atStart => exact .inl ⟨rfl, Nat.le_refl _, rfl⟩
  case round =>
    rcases hrel with ⟨rfl, hkx, rfl⟩ | ⟨rfl, HR, HB⟩
    · go_wp2_with fail
      refine HC.out.mono ?_
      rintro e w5 ⟨rfl, hb5⟩
      have HB := hid hb5
      clear hb5
      cases r
      · go_wp2_with fail
        go_roundg 0
        case measure => omega
        case rel => exact .inr ⟨by first | rfl | go_num, by first | exact hid trivial | exact hid rfl, HB⟩
      · go_wp2_with fail
        go_ret
        exact ⟨⟨0, rfl, rfl⟩, HB.out⟩
    · clear d0 d1 d2
      go_wp2_with fail
      go_ret
      refine ⟨⟨-1, rfl, ?_⟩, HB.out⟩
      rw [HR.out]; rfl
set_option maxHeartbeats 2000000 in
theorem hasPat_one {f : FuncId} {hp : Ox9 → Ox9 → Bool} (hH : Holds11 f hp) (w : World) (v : Value) (o p : Ox9) (b3 b5 : Nat) (hv : PatS w v o) (hA : Asked11 w f b3 b5 p) (ho : OkV o) (hq : OkV p) (hs : o.v.length ≤ 1000) (ht : p.v.length ≤ 1000) :
    Calls Tryz.prog 56 #[v, .func (.func 57) #[] #[.pointer (some ⟨b3, 0, none⟩), .pointer (some ⟨b5, 0, none⟩)]] w fun e w' => e = .returned (.bool (hp o p)) ∧ Below w.heap.size w w' := by
  have HC := hid (idxPat_one hH w v o p b3 b5 hv hA ho hq hs ht)
  obtain ⟨r, hr⟩ : ∃ r, hp o p = r := ⟨_, rfl⟩
  rw [hr] at HC ⊢
  clear hH hA hr ho hq hv
  go_enter Tryz.func56, Tryz.ntmps56
  go_wp2_with fail
  refine HC.out.mono ?_
  rintro e w' ⟨⟨i, rfl, hi⟩, hb⟩
  have HI := hid hi
  clear hi
  go_wp2
  exact bodyPost_ret (v := .bool (decide (0 ≤ i))) (by simp [results, Tryz.results56, go_sem]) rfl ⟨by rw [show decide (0 ≤ i) = r from HI.out], hb⟩
set_option maxHeartbeats 2000000 in
theorem idxPat_none (w : World) (g : Value) :
    Calls Tryz.prog 79 #[.slice none 0 0, g] w fun e w' => e = .returned (.int .i64 (-1)) ∧ w' = w := by
  go_enter Tryz.func79, Tryz.ntmps79
  go_wp2_with fail
  go_loopg [8] 1 (fun kx s8 wr => s8 = .int .i64 0 ∧ wr = w)
  case atStart => exact ⟨rfl, rfl⟩
  case round =>
    obtain ⟨rfl, rfl⟩ := hrel
    go_wp2_with fail
    go_ret
    exact ⟨rfl, rfl⟩
theorem hasPat_none (w : World) (g : Value) :
    Calls Tryz.prog 56 #[.slice none 0 0, g] w fun e w' => e = .returned (.bool false) ∧ Below w.heap.size w w' := by
  have HC := hid (idxPat_none w g)
  go_enter Tryz.func56, Tryz.ntmps56
  go_wp2_with fail
  refine HC.out.mono ?_
  rintro e w' ⟨rfl, rfl⟩
  go_wp2
  go_ret
  exact ⟨rfl, Below.refl _ _⟩

/-- what a map of patterns has for a value's name -/
def Got11 (w : World) (L : List Ox9) (o : Ox9) (v : Value) : Prop :=
  (∃ x ∈ L, alike9 x o = true ∧ PatS w v x) ∨ ((∀ x ∈ L, alike9 x o = false) ∧ v = .slice none 0 0)
def Known11 (w : World) (B : Nat) (L : List Ox9) : Prop :=
  ∃ n G, MapV w 68 B n (.slice none 0 0) G ∧ n ≤ L.length ∧ ∀ o, InR o → Got11 w L o (G (nameK o))
theorem Got11.below {w w' : World} {L : List Ox9} {o : Ox9} {v : Value} (h : Got11 w L o v) (hb : Below w.heap.size w w') : Got11 w' L o v := by
  rcases h with ⟨x, h1, h2, h3⟩ | h
  · exact .inl ⟨x, h1, h2, h3.below hb⟩
  · exact .inr h
theorem Known11.below {w w' : World} {B : Nat} {L : List Ox9} (h : Known11 w B L) (hb : Below w.heap.size w w') : Known11 w' B L := by
  obtain ⟨n, G, h1, h2, h3⟩ := h
  exact ⟨n, G, h1.below hb, h2, fun o ho => (h3 o ho).below hb⟩
/-- what a finder stands on -/
structure Finder11 (w : World) (f : FuncId) (bk b3 B : Nat) (L : List Ox9) : Prop where
  fn : w.cell? ⟨b3, 0, none⟩ = some (.func (.func f) #[] #[])
  kn : w.cell? ⟨bk, 0, none⟩ = some (.map (some B))
  known : Known11 w B L
theorem Finder11.below {w w' : World} {f : FuncId} {bk b3 B : Nat} {L : List Ox9} (h : Finder11 w f bk b3 B L) (hb : Below w.heap.size w w') : Finder11 w' f bk b3 B L :=
  ⟨cell_keep h.fn hb, cell_keep h.kn hb, h.known.below hb⟩
end Go.Proofs.YtpmkfkanolhocaaGreat
