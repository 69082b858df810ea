/- Package cover: Meet. -/
import Derived.Test.YtpmkfkanolhocaaGreatCovU
namespace Go.Proofs.YtpmkfkanolhocaaGreat
open Go.RowKit
set_option linter.unusedVariables false
set_option maxRecDepth 100000

theorem okL_of {w : World} {a : Option Addr} {l : List Ent9} (hL : L9 w a l) (h : isMatch10 (l.map Ent9.o) = true) : OkL (l.map Ent9.o) := by
  refine ⟨fun o ho => ?_, match_once h⟩
  obtain ⟨x, hx, rfl⟩ := List.mem_map.1 ho
  exact ⟨List.all_eq_true.1 (is_all h).1 x.o (List.mem_map.2 ⟨x, hx, rfl⟩), (hL.ent x hx).ov, (hL.ent x hx).om⟩
theorem okV_len {o : Ox9} (h : OkV o) : o.v.length ≤ 100 ∧ o.m.length ≤ 100 := by
  have ft := right_facts h.right
  have hl := ft.len
  refine ⟨ft.v1, ?_⟩
  rw [hl]
  have := ft.v1
  cases o.H <;> simp [maskZ] <;> omega
theorem len_small {L : List Ox9} (h : ∀ z ∈ L, z.v.length ≤ 100 ∧ z.m.length ≤ 100) (hl : L.length ≤ 120) : len10 L ≤ 65528 := by
  have key : ∀ L : List Ox9, (∀ z ∈ L, z.v.length ≤ 100 ∧ z.m.length ≤ 100) → (body10 L).length ≤ L.length * 212 := by
    intro L
    induction L with
    | nil => intro _; simp [body10]
    | cons x r ih =>
      intro hx
      have h1 := hx x (by simp)
      have h2 := ih (fun y hy => hx y (by simp [hy]))
      rw [body_cons10, List.length_append, List.length_cons]
      have h3 : (bytes10 x).length ≤ 212 := by
        unfold bytes10
        rw [oxmBytes_length]
        unfold behind8
        split <;> omega
      omega
  have := key L h
  unfold len10
  omega
theorem out_small {a b : List Ox9} (ha : OkL a) (hb : OkL b) : ∀ z ∈ sort9 (out11 a b), z.v.length ≤ 100 ∧ z.m.length ≤ 100 := by
  intro z hz
  rcases mem_out.1 (mem_sort.1 hz) with ⟨o, ho, rfl⟩ | ⟨h, _⟩
  · have h1 := okV_len (ha.ok o ho)
    rcases mrg_ways hb.once o with ⟨_, e⟩ | ⟨y, _, _, e⟩
    · rw [e]; exact h1
    · rw [e]
      refine ⟨by rw [both_len]; exact h1.1, ?_⟩
      unfold both11
      simp only
      split
      · rw [orL_length]; exact h1.1
      · simp
  · exact okV_len (hb.ok z h)
def MeetPost (L M : List Ox9) (w : World) (e : Ending) (w' : World) : Prop :=
  ∃ va vc D ok, e = .returned (.tuple #[.slice va (List.length D) vc, .bool ok]) ∧ meet11 L M = (D.map Ent9.o, ok) ∧ L9 w' va D ∧ D.length ≤ vc ∧ Below w.heap.size w w'
theorem rightL_is {L : List Ox9} (h : len10 L ≤ 65528) : rightL L = isMatch10 L := by unfold rightL; rw [decide_eq_true h, Bool.and_true]
theorem meet_no {L M : List Ox9} (h : meetOk L M = false) : meet11 L M = ([], false) := by unfold meet11; rw [h]; rfl
theorem meet_yes {L M : List Ox9} (h : meetOk L M = true) : meet11 L M = (sort9 (out11 L M), true) := by unfold meet11; rw [h]; rfl
set_option maxHeartbeats 4000000 in
theorem meet_any (l m : List Ent9) (a b : Option Addr) (c d : Nat) (w : World) (hL : L9 w a l) (hM : L9 w b m) (hlc : l.length ≤ c) (hmd : m.length ≤ d) (fl : l.length ≤ 60) (fm : m.length ≤ 60) (bl : len10 (l.map Ent9.o) ≤ 65528) (bm : len10 (m.map Ent9.o) ≤ 65528) :
    Calls Tryz.prog 7 #[.slice a l.length c, .slice b m.length d] w (MeetPost (l.map Ent9.o) (m.map Ent9.o) w) := by
  have RA := hid (right10_any w a c l hL hlc bl)
  have RB := hid (fun (w' : World) (hb : Below w.heap.size w w') => right10_any w' b d m (hM.below hb) hmd bm)
  have hra := rightL_is bl
  have hrb := rightL_is bm
  have none9 : ∀ w' : World, L9 w' none [] := fun w' => l9_nil10 w' none
  cases h1 : isMatch10 (l.map Ent9.o)
  · have hno := hid (meet_no (L := l.map Ent9.o) (M := m.map Ent9.o) (by unfold meetOk; rw [hra, h1]; rfl))
    rw [h1] at RA
    have HN := hid none9
    clear hL hM bl bm hra hrb h1 none9
    go_enter Tryz.func7, Tryz.ntmps7
    go_wp2_with fail
    refine RA.out.mono ?_
    rintro e w1 ⟨rfl, hb1⟩
    go_wp2_with fail
    exact bodyPost_ret (v := .tuple #[.slice none 0 0, .bool false]) (by simp [results, Tryz.results7, go_sem]) rfl ⟨none, 0, [], false, rfl, hno.out, HN.out _, Nat.le_refl _, hb1⟩
  · rw [h1] at RA
    cases h2 : isMatch10 (m.map Ent9.o)
    · have hno := hid (meet_no (L := l.map Ent9.o) (M := m.map Ent9.o) (by unfold meetOk; rw [hra, hrb, h1, h2]; rfl))
      rw [h2] at RB
      have HN := hid none9
      clear hL hM bl bm hra hrb h1 h2 none9
      go_enter Tryz.func7, Tryz.ntmps7
      go_wp2_with fail
      refine RA.out.mono ?_
      rintro e w1 ⟨rfl, hb1⟩
      go_wp2_with fail
      refine (RB.out _ hb1).mono ?_
      rintro e w2 ⟨rfl, hb2⟩
      go_wp2_with fail
      exact bodyPost_ret (v := .tuple #[.slice none 0 0, .bool false]) (by simp [results, Tryz.results7, go_sem]) rfl ⟨none, 0, [], false, rfl, hno.out, HN.out _, Nat.le_refl _, below_on hb1 hb2⟩
    · rw [h2] at RB
      have oA := okL_of hL h1
      have oB := okL_of hM h2
      have AP := hid (fun (w' : World) (hb : Below w.heap.size w w') => apart_any l m a b c d w' (hL.below hb) (hM.below hb) oA oB)
      cases h3 : apart11 (l.map Ent9.o) (m.map Ent9.o)
      · rw [h3] at AP
        have hok : meetOk (l.map Ent9.o) (m.map Ent9.o) = rightL (sort9 (out11 (l.map Ent9.o) (m.map Ent9.o))) := by unfold meetOk; rw [hra, hrb, h1, h2, h3]; rfl
        have hjl := jl_out oA oB
        have hsm := out_small oA oB
        have hfit := fun p q o hs z hz hal => join_fit oA oB h3 (p := p) (q := q) (o := o) (z := z) hs hz hal
        have hlen : (sort9 (out11 (l.map Ent9.o) (m.map Ent9.o))).length ≤ 120 := by
          rw [← hjl]
          have := jl_len (sort9 (l.map Ent9.o ++ m.map Ent9.o))
          rw [sort_length, List.length_append, List.length_map, List.length_map] at this
          omega
        have HBIG := hid (len_small hsm hlen)
        have HLEN := hid hlen
        have HOK := hid hok
        have HJL := hid hjl
        have HFIT := hid hfit
        have HL := hid hL
        have HM := hid hM
        have HN := hid none9
        clear hL hM bl bm hra hrb h1 h2 h3 none9 oA oB hok hjl hsm hfit hlen
        go_enter Tryz.func7, Tryz.ntmps7
        go_wp2_with fail
        refine RA.out.mono ?_
        rintro e w1 ⟨rfl, hb1⟩
        go_wp2_with fail
        refine (RB.out _ hb1).mono ?_
        rintro e w2 ⟨rfl, hb2⟩
        have HB2 := hid (below_on hb1 hb2)
        clear hb1 hb2
        go_wp2_with fail
        refine (AP.out _ HB2.out).mono ?_
        rintro e w3 ⟨rfl, hb3⟩
        have HB3 := hid (below_on HB2.out hb3)
        clear hb3
        go_upto_region 3 with fail
        obtain ⟨W4, hW4, hbW4, hx4, hs4⟩ := box_any w3 [.slice a l.length c, .slice b m.length d] 22
        have HW4 := hid hW4
        have HB4 := hid (below_on HB3.out hbW4)
        have hc := concat_any l m a b c d w3.heap.size 2 W4 (HL.out.below HB4.out) (HM.out.below HB4.out) (by omega) (hx4.cell 0 _ rfl) (hx4.cell 1 _ rfl)
        obtain ⟨LM, hLM⟩ : ∃ x, l ++ m = x := ⟨_, rfl⟩
        unfold ConcatPost at hc
        rw [hLM] at hc
        have HC := hid hc
        have HLM := hid hLM
        clear hW4 hbW4 hx4 hc hLM
        go_wp2_with fail
        rw [HW4.out]
        refine HC.out.mono ?_
        rintro e w5 ⟨va5, vc5, rfl, hl5, hb5⟩
        have HB5 := hid (below_on HB4.out hb5)
        have HS := hid (sort_l9 w5 va5 vc5 LM hl5)
        clear hl5 hb5
        go_wp2_with fail
        refine HS.out.mono ?_
        rintro e w6 ⟨g, M, rfl, hMl, hMo, hL6, hb6, _⟩
        have HB6 := hid (below_on HB5.out hb6)
        have HMO := hid hMo
        have hjn := joined_any M (some ⟨g, 0, none⟩) M.length w6 hL6 (by
          intro p q o hs z hz hal
          rw [hMo, ← HLM.out, List.map_append] at hs
          exact HFIT.out p q o hs z hz hal)
        rw [hMl] at hjn
        have HJN := hid hjn
        clear hjn hMl hMo hL6 hb6
        go_wp2_with fail
        refine HJN.out.mono ?_
        rintro e w7 ⟨va7, vc7, D, rfl, hDo, hL7, hDc, hb7⟩
        have hD2 : D.map Ent9.o = sort9 (out11 (l.map Ent9.o) (m.map Ent9.o)) := by rw [hDo, HMO.out, ← HLM.out, List.map_append, HJL.out]
        have HB7 := hid (below_on HB6.out hb7)
        have HD := hid hD2
        have HL7 := hid hL7
        have HR := hid (right10_any w7 va7 vc7 D hL7 hDc (by rw [hD2]; exact HBIG.out))
        clear hDo hL7 hb7 hD2
        go_wp2_with fail
        cases hr : isMatch10 (D.map Ent9.o)
        · rw [hr] at HR
          have hno := hid (meet_no (L := l.map Ent9.o) (M := m.map Ent9.o) (by rw [HOK.out, ← HD.out, rightL_is (by rw [HD.out]; exact HBIG.out), hr]))
          clear hr
          refine HR.out.mono ?_
          rintro e w8 ⟨rfl, hb8⟩
          go_wp2_with fail
          exact bodyPost_ret (v := .tuple #[.slice none 0 0, .bool false]) (by simp [results, Tryz.results7, go_sem]) rfl ⟨none, 0, [], false, rfl, hno.out, HN.out _, Nat.le_refl _, below_on HB7.out hb8⟩
        · rw [hr] at HR
          have hyes := hid (meet_yes (L := l.map Ent9.o) (M := m.map Ent9.o) (by rw [HOK.out, ← HD.out, rightL_is (by rw [HD.out]; exact HBIG.out), hr]))
          clear hr
          refine HR.out.mono ?_
          rintro e w8 ⟨rfl, hb8⟩
          go_wp2_with fail
          exact bodyPost_ret (v := .tuple #[.slice va7 D.length vc7, .bool true]) (by simp [results, Tryz.results7, go_sem]) rfl ⟨va7, vc7, D, true, rfl, by rw [hyes.out, HD.out], HL7.out.below hb8, hDc, below_on HB7.out hb8⟩
      · have hno := hid (meet_no (L := l.map Ent9.o) (M := m.map Ent9.o) (by unfold meetOk; rw [hra, hrb, h1, h2, h3]; rfl))
        rw [h3] at AP
        have HN := hid none9
        clear hL hM bl bm hra hrb h1 h2 h3 none9 oA oB
        go_enter Tryz.func7, Tryz.ntmps7
        go_wp2_with fail
        refine RA.out.mono ?_
        rintro e w1 ⟨rfl, hb1⟩
        go_wp2_with fail
        refine (RB.out _ hb1).mono ?_
        rintro e w2 ⟨rfl, hb2⟩
        have HB2 := hid (below_on hb1 hb2)
        clear hb1 hb2
        go_wp2_with fail
        refine (AP.out _ HB2.out).mono ?_
        rintro e w3 ⟨rfl, hb3⟩
        have HB3 := hid (below_on HB2.out hb3)
        clear hb3
        go_wp2_with fail
        exact bodyPost_ret (v := .tuple #[.slice none 0 0, .bool false]) (by simp [results, Tryz.results7, go_sem]) rfl ⟨none, 0, [], false, rfl, hno.out, HN.out _, Nat.le_refl _, HB3.out⟩
end Go.Proofs.YtpmkfkanolhocaaGreat
