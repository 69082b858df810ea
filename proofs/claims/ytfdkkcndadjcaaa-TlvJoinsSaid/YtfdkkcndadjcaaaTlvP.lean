/- The document's Join, of whatever things. -/
import Derived.Test.YtfdkkcndadjcaaaTlvS
import Derived.Test.YtfdkkcndadjcaaaTlvX
namespace Go.Proofs.Ytfdkkcndadjcaaa
open Go.RowKit

/-- what the document's Join answers -/
def RefJoinPost (w : World) (r : Except Int (List (List Int))) (e : Ending) (w' : World) : Prop :=
  match r with
  | .error q => e = .returned (.tuple #[.slice none 0 0, .int .i64 q]) ∧ Below w.heap.size w w'
  | .ok bs => ∃ (a : Option Addr) (c : Nat), e = .returned (.tuple #[.slice a bs.flatten.length c, .int .i64 0]) ∧ Ints .u8 w' a bs.flatten ∧ Below w.heap.size w w'

theorem refJoin_may_not (w : World) (L S : Int) (P : Bool) (B O : Int) (h : ¬ MayS L S B O) (v : Value) :
    Calls Try.prog 17 #[.agg #[.int .i64 L, .int .i64 S, .bool P, .int .i64 B, .int .i64 O], v] w (RefJoinPost w (.error 10001)) := by
  obtain ⟨W, hW⟩ : ∃ W, w.alloc (.cells #[.int .i64 L, .int .i64 S, .bool P, .int .i64 B, .int .i64 O] 35) = W := ⟨_, rfl⟩
  have hbW : Below w.heap.size w W := by rw [← hW]; exact below_alloc _ _
  have HW := hid hW
  clear hW
  go_enter Try.func17, Try.ntmps17
  go_wp2_with fail
  rw [HW.out]
  refine (may_no _ _ _ _ _ _ h).mono ?_
  rintro e w1 ⟨rfl, hb1⟩
  go_wp2
  go_ret2
  exact ⟨rfl, below_more hbW hb1⟩

theorem joinL_drop_err {L S : Nat} {P : Bool} {l : List Thing} {k : Nat} {cs : List (List Int)} (h : joinL L S P (l.map Thing.val) = afterB cs (joinL L S P ((l.drop k).map Thing.val))) (hlt : k < l.length) {q : Int} (hw : writeL L S P l[k].t l[k].x = .error q) : joinL L S P (l.map Thing.val) = .error q := by
  have hd : l.drop k = l[k] :: l.drop (k + 1) := List.drop_eq_getElem_cons hlt
  rw [h, hd, List.map_cons]
  show afterB _ (match writeL L S P l[k].t l[k].x with | .error q => .error q | .ok b => afterB [b] (joinL L S P ((l.drop (k + 1)).map Thing.val))) = _
  rw [hw]
  rfl
theorem joinL_drop_ok {L S : Nat} {P : Bool} {l : List Thing} {k : Nat} {cs : List (List Int)} (h : joinL L S P (l.map Thing.val) = afterB cs (joinL L S P ((l.drop k).map Thing.val))) (hlt : k < l.length) {b : List Int} (hw : writeL L S P l[k].t l[k].x = .ok b) : joinL L S P (l.map Thing.val) = afterB (cs ++ [b]) (joinL L S P ((l.drop (k + 1)).map Thing.val)) := by
  have hd : l.drop k = l[k] :: l.drop (k + 1) := List.drop_eq_getElem_cons hlt
  rw [h, hd, List.map_cons]
  show afterB _ (match writeL L S P l[k].t l[k].x with | .error q => .error q | .ok b => afterB [b] (joinL L S P ((l.drop (k + 1)).map Thing.val))) = _
  rw [hw]
  simp only []
  rw [afterB_afterB]

set_option maxRecDepth 100000 in
set_option maxHeartbeats 8000000 in
theorem refJoin_any (w : World) (L S : Nat) (P : Bool) (B O : Int) (h : MayS L S B O) (l : List Thing) (hlen : l.length ≤ 1000) (a : Option Addr) (c : Nat) (hit : Items w a l) (hbd : ∀ h ∈ l, Ints .u8 w h.a h.x) (hxl : ∀ h ∈ l, h.x.length ≤ 1000000) :
    Calls Try.prog 17 #[.agg #[.int .i64 L, .int .i64 S, .bool P, .int .i64 B, .int .i64 O], .slice a l.length c] w (RefJoinPost w (joinL L S P (l.map Thing.val))) := by
  obtain ⟨W, hW⟩ : ∃ W, w.alloc (.cells #[.int .i64 L, .int .i64 S, .bool P, .int .i64 B, .int .i64 O] 35) = W := ⟨_, rfl⟩
  have hbW : Below w.heap.size w W := by rw [← hW]; exact below_alloc _ _
  have hsh : ShAt W w.heap.size L S P B O := by rw [← hW]; exact ShAt.of_block (t := 35) (_root_.Go.heap_alloc_new w _)
  have hS1 : 1 ≤ S := by obtain ⟨_, _, h3, _⟩ := h; omega
  have hS64 : S ≤ 64 := by obtain ⟨_, _, _, h4, _⟩ := h; omega
  have hn0 : ((S : Int) == 0) = false := by simp; omega
  have HW := hid hW
  have HIT := hid hit
  have HBD := hid hbd
  have HXL := hid hxl
  clear hW hit hbd hxl
  go_enter Try.func17, Try.ntmps17
  go_wp2_with fail
  rw [HW.out]
  refine (may_yes _ _ _ _ _ _ h).mono ?_
  rintro e w1 ⟨rfl, hb1⟩
  have hB1 := below_more hbW hb1
  have hsh1 := hid (hsh.below hb1)
  clear hsh
  go_wp2_with fail
  go_loopw [6, 7] (fun v p wr => ∃ (k : Nat) (va : Option Addr) (vc : Nat) (out : List Int) (cs : List (List Int)), v = .slice va out.length vc ∧ p = .int .i64 k ∧ k ≤ l.length ∧ out.length ≤ k * 65600 ∧ Hid (out = cs.flatten) ∧ Hid (joinL L S P (l.map Thing.val) = afterB cs (joinL L S P ((l.drop k).map Thing.val))) ∧ Fresh 5 w1 wr (.slice va out.length vc) (out.map (Value.int .u8))) (fun _ p _ => l.length - (intOf p).toNat)
  case atStart => exact ⟨0, none, 0, [], [], rfl, rfl, Nat.zero_le _, Nat.zero_le _, rfl, by show _ = _; rw [afterB_nil, List.drop_zero], ⟨own_nilI _ _ _, Below.refl _ _, fun g e => by cases e⟩⟩
  case round =>
    obtain ⟨k, va, vc, out, cs, rfl, rfl, hk, hol, hoc, hjn, hF⟩ := hrel
    have hBr := below_more hB1 hF.bel
    rcases Nat.lt_or_ge k l.length with hlt | hge
    · obtain ⟨b, off, hae, e0, e1⟩ := (HIT.out.below hBr) k hlt
      have hmem : l[k] ∈ l := List.getElem_mem hlt
      have hbody := (HBD.out _ hmem).below hBr
      have hx := HXL.out _ hmem
      obtain ⟨t, ht⟩ : ∃ t, t = l[k].t := ⟨_, rfl⟩
      obtain ⟨x, hxx⟩ : ∃ x, x = l[k].x := ⟨_, rfl⟩
      obtain ⟨xa, hxa⟩ : ∃ xa, xa = l[k].a := ⟨_, rfl⟩
      obtain ⟨xc, hxc⟩ : ∃ xc, xc = l[k].c := ⟨_, rfl⟩
      rw [← ht] at e0
      rw [← hxa, ← hxx, ← hxc] at e1
      rw [← hxx] at hx
      rw [← hxa, ← hxx] at hbody
      have hlti : (k : Int) < (l.length : Int) := by omega
      obtain ⟨d0, d1, d2, d3, d4⟩ := hsh1.out.below hF.bel
      have e4 : ((4 + x.length : Nat) : Int) = 4 + (x.length : Int) := by omega
      have hto := over_cast (l := 4 + x.length) hS1
      rw [e4] at hto
      obtain ⟨o, ho⟩ : ∃ o, o = (4 + x.length) % S := ⟨_, rfl⟩
      rw [← ho] at hto
      have HERR := hid (fun (hno : ¬ (lenOk L S P (4 + x.length) = true ∧ 0 ≤ t ∧ t < 65536 ∧ 4 + x.length < 65536)) => joinL_drop_err hjn.out hlt (q := 10001) (by rw [← ht, ← hxx]; unfold writeL; rw [if_neg hno]))
      have HOK := hid (fun (hok : lenOk L S P (4 + x.length) = true ∧ 0 ≤ t ∧ t < 65536 ∧ 4 + x.length < 65536) => joinL_drop_ok hjn.out hlt (b := bytesL t 2 ++ bytesL ((4 + x.length : Nat) : Int) 2 ++ x ++ List.replicate (zer S P (4 + x.length)) 0) (by rw [← ht, ← hxx]; unfold writeL; rw [if_pos hok]))
      have HO := hid ho
      have HE4 := hid e4
      have hE1 : w1.cell? ⟨b, off + k * 2 + 1, none⟩ = some (.slice xa x.length xc) := by
        obtain ⟨b', off', hae', _, e1'⟩ := (HIT.out.below hB1) k hlt
        rw [hae] at hae'
        cases hae'
        rw [← hxa, ← hxx, ← hxc] at e1'
        exact e1'
      have hBY : Ints .u8 w1 xa x := by rw [hxa, hxx]; exact (HBD.out _ hmem).below hB1
      have HE1 := hid hE1
      have HBY := hid hBY
      subst hae
      clear hE1 hBY
      clear hjn ht hxx hxa hxc hmem ho e4
      have HBR := hid hBr
      have HF := hid hF
      clear hF hBr
      rcases Int.lt_or_le t 0 with c1 | c1
      · have c1' : t < 0 := c1
        have herr := HERR.out (by rintro ⟨_, k, _⟩; omega)
        have HJ := hid herr
        clear herr
        go_wp2
        go_ret2
        rw [HJ.out]
        exact ⟨rfl, HBR.out⟩
      rcases Int.lt_or_le 65535 t with c2 | c2
      · have c2' : 65535 < t := c2
        have herr := HERR.out (by rintro ⟨_, _, k, _⟩; omega)
        have HJ := hid herr
        clear herr
        go_wp2
        go_ret2
        rw [HJ.out]
        exact ⟨rfl, HBR.out⟩
      rcases Nat.lt_or_ge (4 + x.length) L with c3 | c3
      · have c3' : (4 : Int) + (x.length : Int) < (L : Int) := by omega
        have herr := HERR.out (by rintro ⟨k, _⟩; unfold lenOk at k; simp at k; omega)
        have HJ := hid herr
        clear herr
        go_wp2
        go_ret2
        rw [HJ.out]
        exact ⟨rfl, HBR.out⟩
      have c3' : (L : Int) ≤ (4 : Int) + (x.length : Int) := by omega
      rcases Nat.lt_or_ge 65535 (4 + x.length) with c4 | c4
      · have c4' : (65535 : Int) < (4 : Int) + (x.length : Int) := by omega
        have herr := HERR.out (by rintro ⟨_, _, _, k⟩; omega)
        have HJ := hid herr
        clear herr
        go_wp2
        go_ret2
        rw [HJ.out]
        exact ⟨rfl, HBR.out⟩
      have c4' : (4 : Int) + (x.length : Int) ≤ 65535 := by omega

      obtain ⟨z, hz⟩ : ∃ z, z = zer S P (4 + x.length) := ⟨_, rfl⟩
      have hz64 := zer_lt hS1 P (4 + x.length)
      rw [← hz] at hz64 HOK
      obtain ⟨h1, hh1⟩ : ∃ h1, h1 = bytesL t 2 := ⟨_, rfl⟩
      obtain ⟨h2, hh2⟩ : ∃ h2, h2 = bytesL ((4 + x.length : Nat) : Int) 2 := ⟨_, rfl⟩
      have hl1 : h1.length = 2 := by rw [hh1, bytesL_length]
      have hl2 : h2.length = 2 := by rw [hh2, bytesL_length]
      have hN1 := hid (fun W => num_any t 2 W (by decide))
      have hN2 := hid (fun W => num_any ((4 + x.length : Nat) : Int) 2 W (by decide))
      rw [← hh1] at hN1 HOK
      rw [← hh2] at hN2 HOK
      rw [HE4.out] at hN2
      have hw1 : IntKind.u64.wrap t = t := by rw [IntKind.wrap_u64]; omega
      have hw2 : IntKind.u64.wrap (4 + (x.length : Int)) = 4 + (x.length : Int) := by rw [IntKind.wrap_u64]; omega
      obtain ⟨y1, hy1⟩ : ∃ y1, out ++ h1 = y1 := ⟨_, rfl⟩
      obtain ⟨y2, hy2⟩ : ∃ y2, y1 ++ h2 = y2 := ⟨_, rfl⟩
      obtain ⟨y3, hy3⟩ : ∃ y3, y2 ++ x = y3 := ⟨_, rfl⟩
      have q1 : y1.length = out.length + 2 := by rw [← hy1, List.length_append, hl1]
      have q2 : y2.length = out.length + 4 := by rw [← hy2, List.length_append, hl2, q1]
      have q3 : y3.length = out.length + 4 + x.length := by rw [← hy3, List.length_append, q2]
      have b1 : y1.length ≤ 100000000 := by omega
      have b2 : y2.length ≤ 100000000 := by omega
      have b3 : y3.length ≤ 100000000 := by omega
      have HY1 := hid hy1
      have HY2 := hid hy2
      have HY3 := hid hy3
      have HQ := hid q3
      have HZ := hid hz
      have HH12 := hid (And.intro hh1 hh2)
      have b0 := hid hbody
      clear hy1 hy2 hy3 q1 q2 q3 hz hh1 hh2 hl1 hl2 hbody
      cases P
      · rcases Nat.eq_zero_or_pos o with c5 | c5
        · subst c5
          go_wp2_with fail
          refine (hN1.out _).mono ?_
          rintro e w2 ⟨v1, rfl, hF1⟩
          obtain ⟨va1, vc1, rfl, _, _, hI1⟩ := own_ints hF1.own
          have hFa := HF.out.behind (below_by_none hF1.bel)
          clear hF1
          go_wp2_with (at_builtin; refine wp_app_ints rfl (.tmp 61) (.tmp 68) rfl elemU8 rfl hFa.own rfl rfl hI1 HY1.out ?_ ?_ ?_; omega; omega; intro a3 c3 w3 hl3 hc3 hI3 hg3)
          refine (hN2.out _).mono ?_
          rintro e w4 ⟨v2, rfl, hF2⟩
          obtain ⟨va2, vc2, rfl, _, _, hI2⟩ := own_ints hF2.own
          have hFb := (hFa.step hg3).behind (below_by_none hF2.bel)
          clear hFa hg3 hI1 hI3 hF2
          clear e0 e1 d0 d1 d2 d3 d4 b0
          have hI5 := hid hI2
          clear hI2
          go_upto_region 11 with (at_builtin; refine wp_app_ints rfl (.tmp 69) (.tmp 72) rfl elemU8 rfl hFb.own rfl rfl hI5.out HY2.out ?_ ?_ ?_; omega; omega; intro a5 c5 w5 hl5 hc5 hI6 hg5)
          have hFc := hFb.step hg5
          have e1 := cell_keep HE1.out hFc.bel
          have b5 := hid (HBY.out.below hFc.bel)
          clear hI6 hg5 hFb
          go_upto_region 12 with (at_builtin; refine wp_app_ints rfl (.tmp 74) (.tmp 79) rfl elemU8 rfl hFc.own rfl rfl b5.out HY3.out ?_ ?_ ?_; omega; omega; intro a6 c6 w6 hl6 hc6 hI7 hg6)
          have hFd := hFc.step hg6
          obtain ⟨d0, d1, d2, d3, d4⟩ := hsh1.out.below hFd.bel
          clear hFc hI7 hg6 e1
          have hok := HOK.out ⟨by unfold lenOk; simp; rw [← HO.out]; exact ⟨by omega, rfl⟩, by omega, by omega, by omega⟩
          have hz0 : z = 0 := by rw [HZ.out]; simp [zer]
          have hout : Hid (y3 = (cs ++ [h1 ++ h2 ++ x ++ List.replicate z 0]).flatten) := by
            show _ = _
            rw [← HY3.out, ← HY2.out, ← HY1.out, hoc.out, hz0]
            simp
          have HOK2 := hid hok
          have hq3 := HQ.out
          have hkb : y3.length ≤ (k + 1) * 65600 := by omega
          clear hz0 hok hq3
          go_wp2
          go_roundw
          case rel => exact ⟨k + 1, a6, c6, y3, _, rfl, by go_num, hlt, hkb, hout, HOK2.out, hFd⟩
          case measure => simp [intOf]; omega
        · have c5' : ((o : Int) == 0) = false := by simp; omega
          have c5'' : ((o : Int) != 0) = true := by simp; omega
          have herr := HERR.out (by rintro ⟨k, _⟩; unfold lenOk at k; simp at k; rw [← HO.out] at k; omega)
          have HJ := hid herr
          clear herr
          go_wp2
          go_ret2
          rw [HJ.out]
          exact ⟨rfl, HBR.out⟩
      · go_wp2_with fail
        refine (hN1.out _).mono ?_
        rintro e w2 ⟨v1, rfl, hF1⟩
        obtain ⟨va1, vc1, rfl, _, _, hI1⟩ := own_ints hF1.own
        have hFa := HF.out.behind (below_by_none hF1.bel)
        clear hF1
        go_wp2_with (at_builtin; refine wp_app_ints rfl (.tmp 61) (.tmp 68) rfl elemU8 rfl hFa.own rfl rfl hI1 HY1.out ?_ ?_ ?_; omega; omega; intro a3 c3 w3 hl3 hc3 hI3 hg3)
        refine (hN2.out _).mono ?_
        rintro e w4 ⟨v2, rfl, hF2⟩
        obtain ⟨va2, vc2, rfl, _, _, hI2⟩ := own_ints hF2.own
        have hFb := (hFa.step hg3).behind (below_by_none hF2.bel)
        clear hFa hg3 hI1 hI3 hF2
        clear e0 e1 d0 d1 d2 d3 d4 b0
        have hI5 := hid hI2
        clear hI2
        go_upto_region 11 with (at_builtin; refine wp_app_ints rfl (.tmp 69) (.tmp 72) rfl elemU8 rfl hFb.own rfl rfl hI5.out HY2.out ?_ ?_ ?_; omega; omega; intro a5 c5 w5 hl5 hc5 hI6 hg5)
        have hFc := hFb.step hg5
        have e1 := cell_keep HE1.out hFc.bel
        have b5 := hid (HBY.out.below hFc.bel)
        clear hI6 hg5 hFb
        go_upto_region 12 with (at_builtin; refine wp_app_ints rfl (.tmp 74) (.tmp 79) rfl elemU8 rfl hFc.own rfl rfl b5.out HY3.out ?_ ?_ ?_; omega; omega; intro a6 c6 w6 hl6 hc6 hI7 hg6)
        have hFd := hFc.step hg6
        obtain ⟨d0, d1, d2, d3, d4⟩ := hsh1.out.below hFd.bel
        clear hFc hI7 hg6 e1
        have hRZ := hid (fun W => refZeros_any W S (4 + x.length) hS1 hS64 (by omega))
        rw [HE4.out, ← HZ.out] at hRZ
        obtain ⟨y4, hy4⟩ : ∃ y4, y3 ++ List.replicate z 0 = y4 := ⟨_, rfl⟩
        have q4 : y4.length = out.length + 4 + x.length + z := by rw [← hy4, List.length_append, HQ.out, List.length_replicate]
        have b4 : y4.length ≤ 100000000 := by omega
        have HY4 := hid hy4
        have HQ4 := hid q4
        have hok := HOK.out ⟨by unfold lenOk; simp; omega, by omega, by omega, by omega⟩
        have hout : Hid (y4 = (cs ++ [h1 ++ h2 ++ x ++ List.replicate z 0]).flatten) := by
          show _ = _
          rw [← hy4, ← HY3.out, ← HY2.out, ← HY1.out, hoc.out]
          simp
        have HOK2 := hid hok
        have hkb : y4.length ≤ (k + 1) * 65600 := by omega
        clear q4 hy4 hok
        go_wp2_with fail
        refine (hRZ.out _).mono ?_
        rintro e w7 ⟨rfl, rfl⟩
        go_wp2_with (at_builtin; refine wp_app_zeros rfl (.tmp 83) (.tmp 87) rfl elemU8 underInt rfl hFd.own (n := z) rfl rfl ?_ ?_ ?_; (simp only [List.length_map]; omega); (simp only [List.length_map]; omega); intro v8 w8 hg8; rw [← List.map_append, HY4.out] at hg8; obtain ⟨va8, vc8, rfl, _, _, _⟩ := own_ints hg8.own; have hFe := hFd.step hg8)
        go_roundw
        case rel => exact ⟨k + 1, va8, vc8, y4, _, rfl, by go_num, hlt, hkb, hout, HOK2.out, by simpa only [List.length_map] using hFe⟩
        case measure => simp [intOf]; omega
    · have hge' : (l.length : Int) ≤ (k : Int) := by omega
      have hdn : l.drop k = [] := List.drop_eq_nil_of_le hge
      have hjo : joinL L S P (l.map Thing.val) = .ok cs := by rw [hjn.out, hdn]; simp [joinL, afterB]
      have HJ := hid hjo
      have HFF := hid hF
      clear hdn hjo hF
      go_wp2
      go_ret2
      rw [HJ.out]
      obtain ⟨a', c', e, _, _, hI⟩ := own_ints HFF.out.own
      simp at e
      obtain ⟨rfl, rfl⟩ := e
      rw [hoc.out] at hI ⊢
      exact ⟨_, _, rfl, hI, hBr⟩
end Go.Proofs.Ytfdkkcndadjcaaa
