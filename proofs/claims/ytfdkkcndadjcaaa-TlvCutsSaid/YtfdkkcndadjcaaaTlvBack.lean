/- TlvBack: the walk. -/
import Derived.Test.YtfdkkcndadjcaaaTlvS
import Derived.Test.YtfdkkcndadjcaaaTlvX
namespace Go.Proofs.Ytfdkkcndadjcaaa
open Go.RowKit

/-- what comes in: things, and their bodies -/
structure ThingsIn (w : World) (a : Option Addr) (l : List Thing) : Prop where
  items : Items w a l
  bodies : ∀ h ∈ l, Ints .u8 w h.a h.x
  cap : ∀ h ∈ l, h.x.length ≤ h.c ∧ h.c ≤ 9223372036854775807
  num : ∀ h ∈ l, -9223372036854775808 ≤ h.t ∧ h.t ≤ 9223372036854775807
  len : l.length ≤ 9223372036854775807
  oct : ∀ h ∈ l, Octets h.x
theorem ThingsIn.below {w w' : World} {a : Option Addr} {l : List Thing} (h : ThingsIn w a l) (hb : Below w.heap.size w w') : ThingsIn w' a l :=
  ⟨h.items.below hb, fun x hx => (h.bodies x hx).below hb, h.cap, h.num, h.len, h.oct⟩
theorem few_yes {l : List Thing} (h : fewL l = true) : l.length ≤ 40 ∧ ∀ x ∈ l, x.x.length ≤ 70000 := by
  unfold fewL at h
  simp at h
  exact ⟨h.2, h.1⟩
theorem ThingsIn.fits {w : World} {a : Option Addr} {l : List Thing} (h : ThingsIn w a l) (hx : ∀ x ∈ l, x.x.length ≤ 1000000) : ∀ x ∈ l, Thing.fits w.heap.size x :=
  fun x hxm => ⟨hx x hxm, (h.cap x hxm).1, (h.cap x hxm).2, (h.num x hxm).1, (h.num x hxm).2, fun hne _ hq => (h.bodies x hxm).lt hne hq⟩

set_option maxRecDepth 100000 in
set_option maxHeartbeats 4000000 in
theorem TlvBack_many (w : World) (L S : Int) (P : Bool) (B O : Int) (l : List Thing) (a : Option Addr) (c : Nat) (b : List Int) (ba : Option Addr) (bc : Nat) (hT : ThingsIn w a l) (hmany : fewL l = false ∨ 3000 < b.length) :
    Calls Try.prog 5 #[.agg #[.int .i64 L, .int .i64 S, .bool P, .int .i64 B, .int .i64 O], .slice a l.length c, .slice ba b.length bc] w fun e w' => e = .returned (.bool true) ∧ Below w.heap.size w w' := by
  obtain ⟨W, hW⟩ : ∃ W, w.alloc (.cells #[.int .i64 L, .int .i64 S, .bool P, .int .i64 B, .int .i64 O] 24) = W := ⟨_, rfl⟩
  have hbW : Below w.heap.size w W := by rw [← hW]; exact below_alloc _ _
  have HW := hid hW
  have HF := hid (few_any4 W l a c (hT.items.below hbW) hT.len)
  clear hW hT
  cases hf : fewL l with
  | false =>
    rw [hf] at HF
    clear hmany hf
    go_enter Try.func5, Try.ntmps5
    go_wp2_with fail
    rw [HW.out]
    refine HF.out.mono ?_
    rintro e w1 ⟨rfl, rfl⟩
    go_wp2_with fail
    refine (sure4_any _).mono ?_
    rintro e w2 ⟨rfl, hb2⟩
    go_wp2
    go_ret
    exact ⟨rfl, below_more hbW hb2⟩
  | true =>
    rw [hf] at HF
    have hbl : 3000 < b.length := by simpa [hf] using hmany
    have hbi : (3000 : Int) < (b.length : Int) := by omega
    clear hmany hf
    go_enter Try.func5, Try.ntmps5
    go_wp2_with fail
    rw [HW.out]
    refine HF.out.mono ?_
    rintro e w1 ⟨rfl, rfl⟩
    go_wp2_with fail
    refine (sure4_any _).mono ?_
    rintro e w2 ⟨rfl, hb2⟩
    go_wp2
    go_ret
    exact ⟨rfl, below_more hbW hb2⟩

-- PART 2
set_option maxRecDepth 100000 in
set_option maxHeartbeats 4000000 in
theorem TlvBack_may_not (w : World) (L S : Int) (P : Bool) (B O : Int) (h : ¬ MayS L S B O) (l : List Thing) (a : Option Addr) (c : Nat) (b : List Int) (ba : Option Addr) (bc : Nat) (hT : ThingsIn w a l) (hf : fewL l = true) (hbl : b.length ≤ 3000) :
    Calls Try.prog 5 #[.agg #[.int .i64 L, .int .i64 S, .bool P, .int .i64 B, .int .i64 O], .slice a l.length c, .slice ba b.length bc] w fun e w' => e = .returned (.bool true) ∧ Below w.heap.size w w' := by
  obtain ⟨W, hW⟩ : ∃ W, w.alloc (.cells #[.int .i64 L, .int .i64 S, .bool P, .int .i64 B, .int .i64 O] 24) = W := ⟨_, rfl⟩
  have hbW : Below w.heap.size w W := by rw [← hW]; exact below_alloc _ _
  have hsh : ShAt W w.heap.size L S P B O := by rw [← hW]; exact ShAt.of_block (t := 24) (_root_.Go.heap_alloc_new w _)
  have HW := hid hW
  have HF := hid (few_any4 W l a c (hT.items.below hbW) hT.len)
  rw [hf] at HF
  have hbi : (b.length : Int) ≤ 3000 := by omega
  clear hW hT hf
  go_enter Try.func5, Try.ntmps5
  go_wp2_with fail
  rw [HW.out]
  refine HF.out.mono ?_
  rintro e w1 ⟨rfl, rfl⟩
  obtain ⟨d0, d1, d2, d3, d4⟩ := hsh
  have hsh : ShAt W w.heap.size L S P B O := ⟨d0, d1, d2, d3, d4⟩
  go_wp2_with fail
  refine (join_may_not W L S P B O h _).mono ?_
  rintro e w2 ⟨rfl, hb2⟩
  clear d0 d1 d2 d3 d4
  obtain ⟨d0, d1, d2, d3, d4⟩ := hsh.below hb2
  go_wp2_with fail
  refine (cut_may_not w2 L S P B O h _).mono ?_
  rintro e w3 ⟨rfl, hb3⟩
  go_wp2_with fail
  refine (sure4_any _).mono ?_
  rintro e w4 ⟨rfl, hb4⟩
  go_wp2
  go_ret
  exact ⟨rfl, below_more (below_more (below_more hbW hb2) hb3) hb4⟩

set_option maxRecDepth 100000 in
set_option maxHeartbeats 8000000 in
theorem TlvBack_err (w : World) (L S : Nat) (P : Bool) (B O : Int) (h : MayS L S B O) (l : List Thing) (a : Option Addr) (c : Nat) (b : List Int) (ba : Option Addr) (bc : Nat) (hT : ThingsIn w a l) (hf : fewL l = true) (hbl : b.length ≤ 3000) (hHb : Holds w ba bc b) (q1 : Int) (hj : joinL L S P (l.map Thing.val) = .error q1) :
    Calls Try.prog 5 #[.agg #[.int .i64 L, .int .i64 S, .bool P, .int .i64 B, .int .i64 O], .slice a l.length c, .slice ba b.length bc] w fun e w' => e = .returned (.bool true) ∧ Below w.heap.size w w' := by
  obtain ⟨W, hW⟩ : ∃ W, w.alloc (.cells #[.int .i64 L, .int .i64 S, .bool P, .int .i64 B, .int .i64 O] 24) = W := ⟨_, rfl⟩
  have hbW : Below w.heap.size w W := by rw [← hW]; exact below_alloc _ _
  have hsh : ShAt W w.heap.size L S P B O := by rw [← hW]; exact ShAt.of_block (t := 24) (_root_.Go.heap_alloc_new w _)
  have HW := hid hW
  have HF := hid (few_any4 W l a c (hT.items.below hbW) hT.len)
  rw [hf] at HF
  have hbi : (b.length : Int) ≤ 3000 := by omega
  obtain ⟨m1, m2, m3, m4, m5, m6⟩ := h
  have h : MayS L S B O := ⟨m1, m2, m3, m4, m5, m6⟩
  have hfy := few_yes hf
  have hq1 : (q1 == 0) = false := by simpa using joinL_errne hj
  have HJ := hid (join_any W L S P B O h l (by omega) a c (hT.items.below hbW) (fun x hx => (hT.bodies x hx).below hbW) (fun x hx => (hT.below hbW).fits (fun x hx => by have := hfy.2 x hx; omega) x hx))
  rw [hj] at HJ
  have HHb := hid hHb
  clear hW hT hf hfy hj hHb
  go_enter Try.func5, Try.ntmps5
  go_wp2_with fail
  rw [HW.out]
  refine HF.out.mono ?_
  rintro e w1 ⟨rfl, rfl⟩
  obtain ⟨d0, d1, d2, d3, d4⟩ := hsh
  have hsh : ShAt W w.heap.size L S P B O := ⟨d0, d1, d2, d3, d4⟩
  go_wp2_with fail
  refine HJ.out.mono ?_
  rintro e w2 ⟨rfl, hb2⟩
  have hBel := below_more hbW hb2
  have hShk := hsh.below hb2
  have hHB := HHb.out.below hBel
  clear d0 d1 d2 d3 d4
  obtain ⟨d0, d1, d2, d3, d4⟩ := hsh.below hb2
  cases hcb : cutL L S P B O b with
  | error q2 =>
    have hq2 : q2 ≠ 0 := cutL_errne (by omega) m5 m6 _ (Nat.le_refl _) hcb
    have hq2b : (q2 != 0) = true := by simpa using hq2
    have HC := hid (cut_any w2 L S P B O h b (by omega) ba bc hHB)
    rw [hcb] at HC
    clear hcb hq2
    go_wp2_with fail
    refine HC.out.mono ?_
    rintro e w5 ⟨rfl, hb5⟩
    go_wp2_with fail
    refine (sure4_any _).mono ?_
    rintro e w6 ⟨rfl, hb6⟩
    go_wp2
    go_ret
    exact ⟨rfl, below_more (below_more hBel hb5) hb6⟩
  | ok m =>
    obtain ⟨cs2, hj2, hf2⟩ := join_cut (by omega) _ (Nat.le_refl _) hHB.oct hcb
    have hln := cutL_len (by omega) _ (Nat.le_refl _) hHB.oct hcb
    have HC := hid (cut_any w2 L S P B O h b (by omega) ba bc hHB)
    rw [hcb] at HC
    have HHB := hid hHB
    have HLN := hid hln
    have HJ2 := hid hj2
    have HF2 := hid hf2
    clear hcb hHB hln hj2 hf2
    go_wp2_with fail
    refine HC.out.mono ?_
    rintro e w5 ⟨l5, a5, c5, hl5, rfl, hlc5, hcm5, hit5, hok5, hfar5, hb5⟩
    have hB5 := below_more hBel hb5
    have hsh5 := hShk.below hb5
    clear d0 d1 d2 d3 d4
    obtain ⟨d0, d1, d2, d3, d4⟩ := hShk.below hb5
    have hH5 := hid (HHB.out.below hb5)
    have hlen5 : l5.length = m.length := by rw [← hl5, List.length_map]
    have hx5 : ∀ x ∈ l5, x.x.length ≤ b.length ∧ 0 ≤ x.t ∧ x.t < 65536 := fun x hx => HLN.out.2 (x.t, x.x) (by rw [← hl5]; exact List.mem_map.2 ⟨x, hx, rfl⟩)
    have HJ := hid (join_any w5 L S P B O h l5 (by have := HLN.out.1; omega) a5 c5 hit5 (fun x hx => (hok5 x hx).ints) (fun x hx => ⟨by have := (hx5 x hx).1; omega, (hok5 x hx).cap, (hok5 x hx).max, by have := (hx5 x hx).2.1; omega, by have := (hx5 x hx).2.2; omega, fun hne _ hq => (hok5 x hx).ints.lt hne hq⟩))
    rw [hl5, HJ2.out] at HJ
    clear hl5 hlc5 hcm5 hit5 hok5 hfar5 hlen5 hx5
    go_wp2_with fail
    refine HJ.out.mono ?_
    rintro e w6 ⟨a6, c6, rfl, hlc6, hcm6, hI6, _, _, hb6⟩
    have hB6 := below_more hB5 hb6
    rw [HF2.out] at hlc6 hI6
    rw [HF2.out]
    have HBy := hid (bytes_at b b a6 ba b.length b.length c6 bc w6 rfl rfl (by omega) (by omega) hI6 (hH5.out.below hb6).ints)
    have e0 : (b == b) = true := by simp
    rw [e0] at HBy
    clear e0
    clear hlc6 hI6 hcm6
    go_wp2_with fail
    refine HBy.out.mono ?_
    rintro e w7 ⟨rfl, hb7⟩
    go_wp2_with fail
    refine (sure4_any _).mono ?_
    rintro e w8 ⟨rfl, hb8⟩
    go_wp2
    go_ret
    exact ⟨rfl, below_more (below_more hB6 hb7) hb8⟩

set_option maxRecDepth 100000 in
set_option maxHeartbeats 8000000 in
theorem TlvBack_ok (w : World) (L S : Nat) (P : Bool) (B O : Int) (h : MayS L S B O) (l : List Thing) (a : Option Addr) (c : Nat) (b : List Int) (ba : Option Addr) (bc : Nat) (hT : ThingsIn w a l) (hf : fewL l = true) (hbl : b.length ≤ 3000) (hHb : Holds w ba bc b) (cs : List (List Int)) (hj : joinL L S P (l.map Thing.val) = .ok cs) :
    Calls Try.prog 5 #[.agg #[.int .i64 L, .int .i64 S, .bool P, .int .i64 B, .int .i64 O], .slice a l.length c, .slice ba b.length bc] w fun e w' => e = .returned (.bool true) ∧ Below w.heap.size w w' := by
  obtain ⟨W, hW⟩ : ∃ W, w.alloc (.cells #[.int .i64 L, .int .i64 S, .bool P, .int .i64 B, .int .i64 O] 24) = W := ⟨_, rfl⟩
  have hbW : Below w.heap.size w W := by rw [← hW]; exact below_alloc _ _
  have hsh : ShAt W w.heap.size L S P B O := by rw [← hW]; exact ShAt.of_block (t := 24) (_root_.Go.heap_alloc_new w _)
  have HW := hid hW
  have HF := hid (few_any4 W l a c (hT.items.below hbW) hT.len)
  rw [hf] at HF
  have hbi : (b.length : Int) ≤ 3000 := by omega
  obtain ⟨m1, m2, m3, m4, m5, m6⟩ := h
  have h : MayS L S B O := ⟨m1, m2, m3, m4, m5, m6⟩
  have hfy := few_yes hf
  have HJ := hid (join_any W L S P B O h l (by omega) a c (hT.items.below hbW) (fun x hx => (hT.bodies x hx).below hbW) (fun x hx => (hT.below hbW).fits (fun x hx => by have := hfy.2 x hx; omega) x hx))
  rw [hj] at HJ
  have HHb := hid hHb
  obtain ⟨xs, hxs⟩ : ∃ xs, xs = cs.flatten := ⟨_, rfl⟩
  have hxb : xs.length ≤ 3000000 := by have := joinL_bound (by omega) (by omega) hj; rw [hxs]; rw [List.length_map] at this; have := hfy.1; omega
  have hxo : Octets xs := by rw [hxs]; exact joinL_oct hj (fun y hy => by obtain ⟨x, hx, rfl⟩ := List.mem_map.1 hy; exact hT.oct x hx)
  have hcx : cutL L S P B O xs = .ok (l.map Thing.val) := by rw [hxs]; exact cut_join (by omega) hj
  have hat : ∀ k, k < l.length → ∃ n, ∃ (hk : k < l.length), oneL L S P B O (xs.drop (ahead cs k)) = .ok (l[k].t, l[k].x, n) ∧ 4 ≤ n ∧ ahead cs (k + 1) = ahead cs k + n ∧ ahead cs k + n ≤ xs.length := by
    intro k hk
    obtain ⟨n, h1, h2, h3, h4⟩ := one_at (B := B) (O := O) hj (i := k) (by rw [List.length_map]; exact hk)
    rw [← hxs] at h1 h4
    simp only [List.getElem_map] at h1
    exact ⟨n, hk, h1, h2, h3, h4⟩
  have hall : ahead cs l.length = xs.length := by have := ahead_all hj; rw [List.length_map] at this; rw [this, hxs]
  have HX := hid hxs
  have HXO := hid hxo
  have HCX := hid hcx
  have HAT := hid hat
  have HALL := hid hall
  have HT := hid hT
  have HFY := hid hfy
  have hl40 := hfy.1
  clear hW hT hf hfy hj hHb hxs hxo hcx hat hall
  go_enter Try.func5, Try.ntmps5
  go_wp2_with fail
  rw [HW.out]
  refine HF.out.mono ?_
  rintro e w1 ⟨rfl, rfl⟩
  obtain ⟨d0, d1, d2, d3, d4⟩ := hsh
  have hsh : ShAt W w.heap.size L S P B O := ⟨d0, d1, d2, d3, d4⟩
  go_wp2_with fail
  refine HJ.out.mono ?_
  rintro e w2 ⟨a1, c1, rfl, hlc1, hcm1, hI1, hsp1, _, hb2⟩
  rw [← HX.out] at hlc1 hI1
  rw [← HX.out]
  have hB2 := below_more hbW hb2
  have hsh2 := hsh.below hb2
  have hH2 : Holds w2 a1 c1 xs := ⟨hlc1, hcm1, hI1, HXO.out, hsp1⟩
  have HC1 := hid (cut_any w2 L S P B O h xs (by omega) a1 c1 hH2)
  rw [HCX.out] at HC1
  have HH2 := hid hH2
  clear d0 d1 d2 d3 d4 hlc1 hcm1 hI1 hsp1 hsh hH2
  obtain ⟨d0, d1, d2, d3, d4⟩ := hsh2
  have hsh2 : ShAt w2 w.heap.size L S P B O := ⟨d0, d1, d2, d3, d4⟩
  go_wp2_with fail
  refine HC1.out.mono ?_
  rintro e w3 ⟨l3, a3, c3, hl3, rfl, hlc3, hcm3, hit3, hok3, hfar3, hb3⟩
  have hB3 := below_more hB2 hb3
  have hsh3 := hsh2.below hb3
  have hH3 := HH2.out.below hb3
  have hlen3 : l3.length = l.length := by have := congrArg List.length hl3; simpa using this
  have HL3 := hid hlen3
  have HOK3 := hid hok3
  have HS3 := hid hl3
  have HCI := hid (conv_items w3 l3 a3 c3 hit3 (by omega))
  clear d0 d1 d2 d3 d4 hsh2 hlc3 hcm3 hit3 hok3 hfar3 hl3 hlen3
  go_wp2_with fail
  refine HCI.out.mono ?_
  rintro e w4 ⟨a4, c4, rfl, hit4, _, _, hb4⟩
  have hB4 := below_more hB3 hb4
  have HCI2 := hid (conv_items w4 l a c (HT.out.items.below hB4) (by omega))
  have HIT4 := hid hit4
  clear hit4
  go_wp2_with fail
  refine HCI2.out.mono ?_
  rintro e w5 ⟨a5, c5, rfl, hit5, _, _, hb5⟩
  have hB5 := below_more hB4 hb5
  have HSA := hid (same_any4 w5 l3 l a4 a5 c4 c5 (HIT4.out.below hb5) hit5 (fun x hx => ((HOK3.out x hx).ints.below hb4).below hb5) (fun x hx => (HT.out.bodies x hx).below hB5) (by have := HL3.out; omega) (fun x hx => by have h1 := (HOK3.out x hx).cap; have h2 := (HOK3.out x hx).max; omega) (fun x hx => by have := (HT.out.cap x hx); omega))
  have hsame : sameB l3 l = true := by unfold sameB; rw [HS3.out]; simp
  rw [hsame] at HSA
  clear hit5 hsame
  go_wp2_with fail
  refine HSA.out.mono ?_
  rintro e w6 ⟨rfl, hb6⟩
  have hB6 := hid (below_more hB5 hb6)
  have hH6 := hid (((hH3.below hb4).below hb5).below hb6)
  have hsh6 := hid (((hsh3.below hb4).below hb5).below hb6)
  clear hB2 hB3 hB4 hB5 hH3 hsh3
  go_wp2_with fail
  go_loopw [11, 12] (fun u v wr => ∃ k : Nat, u = .int .i64 (ahead cs k : Nat) ∧ v = .int .i64 k ∧ k ≤ l.length ∧ Below w6.heap.size w6 wr) (fun _ v _ => l.length - (intOf v).toNat)
  case atStart => exact ⟨0, by simp [ahead], rfl, Nat.zero_le _, Below.refl _ _⟩
  case round =>
    obtain ⟨k, rfl, rfl, hk, hbr⟩ := hrel
    rcases Nat.lt_or_ge k l.length with hlt | hge
    · obtain ⟨n, hk', ho, hn4, hnx, hnl⟩ := HAT.out k hlt
      obtain ⟨at_, hat⟩ : ∃ at_, at_ = ahead cs k := ⟨_, rfl⟩
      rw [← hat] at ho hnx hnl ⊢
      obtain ⟨tt, htt⟩ : ∃ tt, tt = l[k].t := ⟨_, rfl⟩
      obtain ⟨xx, hxx⟩ : ∃ xx, xx = l[k].x := ⟨_, rfl⟩
      have hH := hH6.out.below hbr
      have hsh := hsh6.out.below hbr
      obtain ⟨bl, offl, hal, e0, e1⟩ := (HT.out.items.below (below_more hB6.out hbr)) k hlt
      rw [← htt] at ho e0
      rw [← hxx] at ho
      obtain ⟨M, off, rfl⟩ := hH.shape (by have := hH.cap; omega)
      have hcap := hH.cap
      have hmax := hH.max
      have hcne : ¬ c1 = at_ := by omega
      have hlti : (at_ : Int) < (xs.length : Int) := by omega
      have hklt : (k : Int) < (l.length : Int) := by omega
      have hcapi : (xs.length : Int) ≤ (c1 : Int) := by omega
      have hlei : (at_ : Int) ≤ (xs.length : Int) := by omega
      have hs1 : ((xs.length : Int) - (at_ : Int)).toNat = xs.length - at_ := by omega
      have hs2 : ((c1 : Int) - (at_ : Int)).toNat = c1 - at_ := by omega
      have hd : (xs.drop at_).length = xs.length - at_ := List.length_drop
      have hbV := new_thing wr 28
      have HTW := hid (new_two wr 28)
      have hbD := below_drew1 wr
      have HONE := hid (fun W (hW : Below wr.heap.size wr W) => one_any W L S P B O h (xs.drop at_) _ _ ((hH.drop (by omega)).below hW))
      rw [hd, ho] at HONE
      have hsl : w.heap.size < wr.heap.size := World.block_lt_of_cell? wr _ hsh.c0
      have hsn : ¬ w.heap.size = wr.heap.size := by omega
      have HAL := hid hal
      have HNX := hid hnx
      have HSH := hid hsh
      have HBR := hid hbr
      obtain ⟨d0, d1, d2, d3, d4⟩ := hsh
      clear hal hnx ho hat htt hxx hH hd hbr e1 hk'
      go_upto_region 12 with fail
      go_cut [13, 14, 15] (fun t13 t14 t15 wx => ∃ (X : Nat) (a' : Option Addr) (c' : Nat), t13 = .pointer (some ⟨X, 0, none⟩) ∧ t14 = .int .i64 n ∧ t15 = .int .i64 0 ∧ Told 0 tt xx X a' c' wr wx)
      case first =>
        have HE0 := hid e0
        clear e0
        go_region_with ((go_at_call 7; refine (HONE.out _ ?_).mono ?_; (first | exact hbD | exact hbV); rintro e w8 ⟨a', c', rfl, hr⟩; have hb4 := hr.2.2.2.2; have HR := hid hr; clear hr; (try (have h2 := HTW.out.1.below hb4; obtain ⟨x0, x1, y0, y1⟩ := h2))))
        all_goals
          go_wp2_with fail
          go_meet
          first
            | exact ⟨_, _, _, rfl, rfl, rfl, told_late tt _ (Nat.zero_le _) hbD HR.out⟩
            | exact ⟨_, _, _, rfl, rfl, rfl, told_early tt (Nat.zero_le _) hbV (Nat.le_refl _) (by rw [HTW.out.2]; omega) ⟨x0, x1, y0, y1⟩ HR.out⟩
      case rest =>
        obtain ⟨X, a', c', rfl, rfl, rfl, htold⟩ := hcut
        have hbx := htold.bel
        have x0 := Wk.cell htold.two.c0
        have y0 := Wk.cell (cell_keep e0 hbx)
        have hsub : IntKind.i64.wrap ((xs.length : Int) - (at_ : Int)) = ((xs.length - at_ : Nat) : Int) := by rw [show (xs.length : Int) - (at_ : Int) = ((xs.length - at_ : Nat) : Int) by omega]; exact wrap_nat (by omega)
        have g1 : decide ((n : Int) < 4) = false := by simp; omega
        have g2 : decide (((xs.length - at_ : Nat) : Int) < (n : Int)) = false := by simp; omega
        have g3 : decide (xs.length - at_ < n) = false := by simp; omega
        have hsum : (at_ : Int) + (n : Int) ≤ 9223372036854775807 := by omega
        have HTO := hid htold
        have HBX := hid hbx
        have hal := HAL.out
        subst hal
        clear htold hbx e0 hs1 hs2 hbV hbD
        go_upto_region 13 with fail
        refine wp_region_wk (by kernel_rfl) (by kernel_rfl) ?_
        repeat (go_big_quiet_step (fail))
        refine wpQuiet_nil ?_
        rintro w9 ⟨⟨_, hb9⟩, rfl⟩
        clear hsub g1 g2 g3
        go_wp2
        go_roundw
        case rel => exact ⟨k + 1, by rw [HNX.out]; go_num, by go_num, hlt, below_more (HBR.out.trans (HBX.out.mono HBR.out.size)) hb9⟩
        case measure => simp [intOf]; omega
    · have hge' : (l.length : Int) ≤ (k : Int) := by omega
      obtain rfl : k = l.length := by omega
      rw [HALL.out]
      have hBel := below_more hB6.out hbr
      have hShk := hsh6.out.below hbr
      have hHB := HHb.out.below hBel
      obtain ⟨d0, d1, d2, d3, d4⟩ := hShk
      have hShk := hsh6.out.below hbr
      cases hcb : cutL L S P B O b with
      | error q2 =>
        have hq2 : q2 ≠ 0 := cutL_errne (by omega) m5 m6 _ (Nat.le_refl _) hcb
        have hq2b : (q2 != 0) = true := by simpa using hq2
        have HC := hid (cut_any wr L S P B O h b (by omega) ba bc hHB)
        rw [hcb] at HC
        clear hcb hq2
        go_wp2_with fail
        refine HC.out.mono ?_
        rintro e w5 ⟨rfl, hb5⟩
        go_wp2_with fail
        refine (sure4_any _).mono ?_
        rintro e w6 ⟨rfl, hb6⟩
        go_wp2
        go_ret
        exact ⟨rfl, below_more (below_more hBel hb5) hb6⟩
      | ok m =>
        obtain ⟨cs2, hj2, hf2⟩ := join_cut (by omega) _ (Nat.le_refl _) hHB.oct hcb
        have hln := cutL_len (by omega) _ (Nat.le_refl _) hHB.oct hcb
        have HC := hid (cut_any wr L S P B O h b (by omega) ba bc hHB)
        rw [hcb] at HC
        have HHB := hid hHB
        have HLN := hid hln
        have HJ2 := hid hj2
        have HF2 := hid hf2
        clear hcb hHB hln hj2 hf2
        go_wp2_with fail
        refine HC.out.mono ?_
        rintro e w5 ⟨l5, a5, c5, hl5, rfl, hlc5, hcm5, hit5, hok5, hfar5, hb5⟩
        have hB5 := below_more hBel hb5
        have hsh5 := hShk.below hb5
        clear d0 d1 d2 d3 d4
        obtain ⟨d0, d1, d2, d3, d4⟩ := hShk.below hb5
        have hH5 := hid (HHB.out.below hb5)
        have hlen5 : l5.length = m.length := by rw [← hl5, List.length_map]
        have hx5 : ∀ x ∈ l5, x.x.length ≤ b.length ∧ 0 ≤ x.t ∧ x.t < 65536 := fun x hx => HLN.out.2 (x.t, x.x) (by rw [← hl5]; exact List.mem_map.2 ⟨x, hx, rfl⟩)
        have HJ := hid (join_any w5 L S P B O h l5 (by have := HLN.out.1; omega) a5 c5 hit5 (fun x hx => (hok5 x hx).ints) (fun x hx => ⟨by have := (hx5 x hx).1; omega, (hok5 x hx).cap, (hok5 x hx).max, by have := (hx5 x hx).2.1; omega, by have := (hx5 x hx).2.2; omega, fun hne _ hq => (hok5 x hx).ints.lt hne hq⟩))
        rw [hl5, HJ2.out] at HJ
        clear hl5 hlc5 hcm5 hit5 hok5 hfar5 hlen5 hx5
        go_wp2_with fail
        refine HJ.out.mono ?_
        rintro e w6 ⟨a6, c6, rfl, hlc6, hcm6, hI6, _, _, hb6⟩
        have hB6 := below_more hB5 hb6
        rw [HF2.out] at hlc6 hI6
        rw [HF2.out]
        have HBy := hid (bytes_at b b a6 ba b.length b.length c6 bc w6 rfl rfl (by omega) (by omega) hI6 (hH5.out.below hb6).ints)
        have e0 : (b == b) = true := by simp
        rw [e0] at HBy
        clear e0
        clear hlc6 hI6 hcm6
        go_wp2_with fail
        refine HBy.out.mono ?_
        rintro e w7 ⟨rfl, hb7⟩
        go_wp2_with fail
        refine (sure4_any _).mono ?_
        rintro e w8 ⟨rfl, hb8⟩
        go_wp2
        go_ret
        exact ⟨rfl, below_more (below_more hB6 hb7) hb8⟩

theorem TlvBack_walk (w : World) (L S : Int) (P : Bool) (B O : Int) (l : List Thing) (a : Option Addr) (c : Nat) (b : List Int) (ba : Option Addr) (bc : Nat) (hT : ThingsIn w a l) (hHb : Holds w ba bc b) :
    Calls Try.prog 5 #[.agg #[.int .i64 L, .int .i64 S, .bool P, .int .i64 B, .int .i64 O], .slice a l.length c, .slice ba b.length bc] w fun e w' => e = .returned (.bool true) ∧ Below w.heap.size w w' := by
  by_cases hmany : fewL l = false ∨ 3000 < b.length
  · exact TlvBack_many w L S P B O l a c b ba bc hT hmany
  · have hf : fewL l = true := by
      cases h : fewL l with
      | true => rfl
      | false => exact absurd (Or.inl h) hmany
    have hb : b.length ≤ 3000 := by omega
    by_cases h : MayS L S B O
    · obtain ⟨m1, m2, m3, m4, m5, m6⟩ := h
      obtain ⟨L, rfl⟩ := Int.eq_ofNat_of_zero_le (show 0 ≤ L by omega)
      obtain ⟨S, rfl⟩ := Int.eq_ofNat_of_zero_le (show 0 ≤ S by omega)
      cases hj : joinL L S P (l.map Thing.val) with
      | error q => exact TlvBack_err w L S P B O ⟨m1, m2, m3, m4, m5, m6⟩ l a c b ba bc hT hf hb hHb q hj
      | ok cs => exact TlvBack_ok w L S P B O ⟨m1, m2, m3, m4, m5, m6⟩ l a c b ba bc hT hf hb hHb cs hj
    · exact TlvBack_may_not w L S P B O h l a c b ba bc hT hf hb
end Go.Proofs.Ytfdkkcndadjcaaa
