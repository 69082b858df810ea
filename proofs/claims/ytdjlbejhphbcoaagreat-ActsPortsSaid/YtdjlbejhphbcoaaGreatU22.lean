/- Put together out of several texts. -/
import Derived.Test.YtdjlbejhphbcoaaGreatU19
import Derived.Deep.RegionHeld3
import Derived.Deep.DeepCutAuto
namespace Go.Proofs.YtdjlbejhphbcoaaGreat
open Go.RowKit
set_option linter.unusedVariables false

/-- bytes stand in no buffer's struct: what turns it leaves them -/
theorem Buf.ints8 {w w' : World} {g m : Nat} {p : Option Nat} {r : Nat} {l : List Int} {H : List (Int × Int)} {f : Int} {a : Option Addr} {x : List Int} (h : Buf w g m p r l H f) (hI : Ints .u8 w a x) (hb : w.grownBy w' (some g)) : Ints .u8 w' a x := by
  intro i hi
  obtain ⟨b, off, ha, hc⟩ := hI i hi
  refine ⟨b, off, ha, ?_⟩
  by_cases hbg : b = g
  · exfalso
    subst hbg
    obtain ⟨v, D, hv, hg, hr, _⟩ := h.ex
    obtain ⟨a', c', rfl, _⟩ := own_ints hr
    rw [World.cell?, hg] at hc
    simp only [bufCells] at hc
    rcases (show off + i = 0 ∨ off + i = 1 ∨ off + i = 2 ∨ off + i = 3 ∨ off + i = 4 ∨ 5 ≤ off + i by omega) with k | k | k | k | k | k
    · simp [k] at hc
    · simp [k] at hc
    · simp [k] at hc
    · simp [k] at hc
    · simp [k] at hc
    · rw [Array.getElem?_eq_none (by simpa using k)] at hc
      simp at hc
  · exact hb.cell hc (by simpa using hbg)

set_option maxRecDepth 100000 in
set_option maxHeartbeats 4000000 in
theorem encode12_row (g : Ent12) (w : World) (hi : ActIn w g) (xs : List Int) (hn : act12 g.act = some xs) (hT : g.T ≠ 25) :
    Calls Tryz.prog 11 #[g.val] w (EncPost12 g w) := by
  obtain ⟨W, hW, hbW, hx⟩ := act_box w g.T g.A g.B g.o.C g.o.F g.o.H g.o.X g.va g.o.v.length g.vc g.ma g.o.m.length g.mc g.da g.d.length g.dc
  have HW := hid hW
  have HB := hid hbW
  have HN := hid hn
  have RI := hid (fun (V : World) (hV : Below w.heap.size w V) => actRight_any g V (hi.below hV))
  have hr : right12 g = true := by rw [right_act g hi.ld, hn]; rfl
  rw [hr] at RI
  have SZ := hid (fun (V : World) (hV : Below w.heap.size w V) => actSize_any g V (hi.below hV))
  rw [size_act hn] at SZ
  obtain ⟨k1, k2, k3, k4, k5, k6⟩ := count_le12 g.T
  have k4' := k4
  have RO := hid (fun V => rowOf_any g.T V)
  have NU := hid (fun (V : World) (a : Option Addr) (c : Nat) (ia : Ints .i64 V a (rowP g.T)) => numbers_at g.T g.A g.B g.o.C g.o.F g.o.H g.o.X g.va g.o.v.length g.vc g.ma g.o.m.length g.mc g.da g.d.length g.dc (rowP g.T) a c (countL (rowP g.T)) k2 k1 (by omega) V ia)
  have HU : Hid (U64s (nums12 g.act (rowP g.T))) := nums_u64 hi.num _
  have NL : Hid ((nums12 g.act (rowP g.T)).length = countL (rowP g.T)) := nums_len k1
  have ID := hid (fun (V : World) (hV : Below w.heap.size w V) => hi.id.below hV)
  obtain ⟨bb, hbb, hww, hxx, hll, h8, hm8, hbig, ht0, ht1⟩ := act_write hn
  obtain ⟨ww, p, hrow, _, _, _, _, _, _, _, hput, hcw, hbd⟩ := body_row hbb hT
  have erow : rowP g.T = ww := by simp [rowP, show row12 g.T = some ww from hrow]
  have hPT : putW (rowP g.T) (nums12 g.act (rowP g.T)) = some p := by
    rw [erow]
    have rr := (row_facts hrow).ok
    simp [putW, rr, hcw, hput]
  have HX : Hid (xs = head12 g.T xs.length ++ p ++ g.d) := by
    show xs = _
    unfold head12
    rw [hll]
    refine hxx.trans ?_
    rw [hbd]
    show bytesL g.T 2 ++ (bytesL _ 2 ++ (p ++ g.d)) = _
    simp
  have hP2 := putW_head12 (t := g.T) (n := xs.length) ht0 ht1 hbig
  have HL4 := hid (head12_length g.T xs.length)
  have wT : IntKind.u64.wrap g.T = g.T := by rw [u64_wrap8]; have : g.act.T = g.T := rfl; omega
  have wN : IntKind.u64.wrap (xs.length : Int) = (xs.length : Int) := by rw [u64_wrap8]; omega
  have HU2 : Hid (U64s [IntKind.u64.wrap g.T, IntKind.u64.wrap (xs.length : Int)]) := by
    rw [wT, wN]
    intro y hy
    simp only [List.mem_cons, List.not_mem_nil, or_false] at hy
    rw [p256_8]
    have : g.act.T = g.T := rfl
    rcases hy with rfl | rfl <;> omega
  have HP2 : Hid (putW [2, 2] [IntKind.u64.wrap g.T, IntKind.u64.wrap (xs.length : Int)] = some (head12 g.T xs.length)) := by rw [wT, wN]; exact hP2
  have HPT := hid hPT
  have xl : Hid (xs.length % 8 = 0) := hm8
  obtain ⟨hd, hhd⟩ : ∃ hd, head12 g.T xs.length = hd := ⟨_, rfl⟩
  rw [hhd] at HX HL4 HP2
  clear hr hn hi hW hbW k2 k3 k4 k6 hPT wT wN hhd hP2 hm8 hxx hww hbb hll
  obtain ⟨nl, hnl⟩ : ∃ nl, nums12 g.act (rowP g.T) = nl := ⟨_, rfl⟩
  have HNL : Hid ([g.A, g.B].take (countL (rowP g.T)) = nl) := hnl
  rw [hnl] at HU NL HPT
  clear hnl
  have hpl : Hid (p.length ≤ 12) := by show p.length ≤ 12; rw [(putL_octets hput).2, ← erow]; exact k4'
  clear hrow hput hcw hbd erow
  obtain ⟨T, A, B, ⟨C, F, H, X, v, m⟩, va, vc, ma, mc, d, da, dc⟩ := g
  have hT1 : (T == 25) = false := by simpa using hT
  clear hT
  obtain ⟨l, hl⟩ : ∃ l, rowP T = l := ⟨_, rfl⟩
  obtain ⟨rb, hrb⟩ : ∃ b, rowB T = b := ⟨_, rfl⟩
  simp only at *
  rw [hl] at RO NU NL HNL HPT k1 k5
  rw [hrb] at RO
  obtain ⟨cl, hcl⟩ : ∃ c, countL l = c := ⟨_, rfl⟩
  rw [hcl] at NU NL HNL k1
  clear hl hrb hcl
  unfold Ent12.val at *
  simp only at *
  obtain ⟨nx, hnx⟩ : ∃ n, xs.length = n := ⟨_, rfl⟩
  rw [hnx] at SZ HU2 HP2 xl h8 hbig
  have HNX := hid hnx
  clear hnx
  obtain ⟨d0, d1, d2, d3, d4, d5, d6, d7, d8, d9⟩ :=  hx.ten
  go_enter Tryz.func11, Tryz.ntmps11
  go_wp2_with fail
  rw [HW.out]
  go_wp2_with fail
  refine (RI.out _ HB.out).mono ?_
  rintro e w1 ⟨rfl, hb1⟩
  have HC1 := hid hb1
  clear d0 d1 d2 d3 d4 d5 d6 d7 d8 d9
  obtain ⟨d0, d1, d2, d3, d4, d5, d6, d7, d8, d9⟩ :=  (hx.below HC1.out).ten
  clear hb1
  go_wp2_with fail
  refine (RO.out _).mono ?_
  rintro e w2 ⟨a, rfl, hI2, hb2⟩
  have HC2 := hid (below_on HC1.out hb2)
  have I2 := hid hI2
  clear hb2 hI2
  go_wp2_with fail
  refine (bufNew_any 65528 _).mono ?_
  rintro e w3 ⟨gb, mm, rfl, hB, hb3, hg, hmm⟩
  have O1 : BufOn w2 w3 gb mm none 65528 [] [] 0 := ⟨hB, hb3, by rintro i (e | e | e); omega; omega; simp at e⟩
  have HW2 := hid (below_on HB.out HC2.out)
  have hx2 := hx.below HC2.out
  clear d0 d1 d2 d3 d4 d5 d6 d7 d8 d9
  obtain ⟨d0, d1, d2, d3, d4, d5, d6, d7, d8, d9⟩ :=  (hx2.below O1.bel).ten
  have OD := O1.below (below_drew8 w3)
  have hxD := hx2.below OD.bel
  clear hb3 hB hg hmm hx
  go_upto_region 5 with fail
  go_cut [19] (fun t19 wx => ∃ p, BufOn w2 wx gb mm p 65528 hd [] 0)
  case first =>
    go_region_held3 (fun w' => w'.cell? ⟨w.heap.size, 0, none⟩ = some (.int .i64 T) ∧ w'.cell? ⟨w.heap.size, 1, none⟩ = some (.int .u64 A) ∧ w'.cell? ⟨w.heap.size, 2, none⟩ = some (.int .u64 B) ∧ w'.cell? ⟨w.heap.size, 3, none⟩ = some (.int .i64 C) ∧ w'.cell? ⟨w.heap.size, 4, none⟩ = some (.int .i64 F) ∧ w'.cell? ⟨w.heap.size, 5, none⟩ = some (.bool H) ∧ w'.cell? ⟨w.heap.size, 6, none⟩ = some (.int .u64 X) ∧ w'.cell? ⟨w.heap.size, 7, none⟩ = some (.slice va v.length vc) ∧ w'.cell? ⟨w.heap.size, 8, none⟩ = some (.slice ma m.length mc) ∧ w'.cell? ⟨w.heap.size, 9, none⟩ = some (.slice da d.length dc)) (go_keep) (first
      | (go_at_call 45; refine (SZ.out _ ?_).mono ?_; (first | exact below_on HW2.out OD.bel | exact below_on HW2.out (below_on OD.bel (below_alloc _ _)) | fail); rintro e w5 ⟨rfl, hb5⟩; have hB5 : Below w3.drew.heap.size w3.drew w5 := (by first | exact hb5 | exact below_on (below_alloc _ _) hb5 | fail); obtain ⟨e0, e1, e2, e3, e4, e5, e6, e7, e8, e9⟩ := (hxD.below hB5).ten)
      | (go_at_call 44; refine (row12_at (ns := [IntKind.u64.wrap T, IntKind.u64.wrap (nx : Int)]) HP2.out (by rw [HL4.out]; decide) HU2.out (by decide) rfl rfl (Nat.le_refl _) (OD.below ?_) ?_ ?_).mono ?_; (first | exact below_on hB5 (below_alloc _ _) | exact below_on (below_on hB5 (below_alloc _ _)) (below_alloc _ _) | fail); (first | exact lit_at .i64 [2, 2] (below_on (below_drew8 _) (below_on hb5 (below_alloc _ _))) rfl rfl | exact lit_at .i64 [2, 2] (below_on hb5 (below_alloc _ _)) rfl rfl | exact lit_at .i64 [2, 2] (below_alloc _ _) rfl rfl | exact lit_at .i64 [2, 2] (Below.refl _ _) rfl rfl | exact lit_at .i64 [2, 2] (Below.refl _ _) (World.size_alloc _ _) rfl | fail); (first | exact lit_at .u64 [IntKind.u64.wrap T, IntKind.u64.wrap (nx : Int)] (Below.refl _ _) rfl rfl | exact lit_at .u64 [IntKind.u64.wrap T, IntKind.u64.wrap (nx : Int)] (Below.refl _ _) (World.size_alloc _ _) rfl | exact lit_at .u64 [IntKind.u64.wrap T, IntKind.u64.wrap (nx : Int)] (below_alloc _ _) rfl rfl | fail); rintro e w7 ⟨rfl, p', O7⟩; obtain ⟨e0, e1, e2, e3, e4, e5, e6, e7, e8, e9⟩ := (hx2.below O7.bel).ten))
    all_goals
      go_wp2_with fail
      go_meet
      exact ⟨_, O7⟩
  case rest =>
    obtain ⟨p8, O8⟩ := hcut
    clear OD hxD O1 d0 d1 d2 d3 d4 d5 d6 d7 d8 d9
    obtain ⟨d0, d1, d2, d3, d4, d5, d6, d7, d8, d9⟩ :=  (hx2.below O8.bel).ten
    go_wp2_with fail
    refine (NU.out _ a _ (I2.out.below O8.bel)).mono ?_
    rintro e w9 ⟨b9, rfl, hI9, hb9⟩
    rw [HNL.out] at hI9
    have O9 := O8.below hb9
    clear d0 d1 d2 d3 d4 d5 d6 d7 d8 d9
    obtain ⟨d0, d1, d2, d3, d4, d5, d6, d7, d8, d9⟩ :=  (hx2.below O9.bel).ten
    clear hb9 O8
    go_wp2_with fail
    refine (row12_at HPT.out (by rw [HL4.out]; have := hpl.out; omega) HU.out (by omega) rfl NL.out.symm k1 O9 (I2.out.below O9.bel) hI9).mono ?_
    rintro e w10 ⟨rfl, p10, OA⟩
    clear d0 d1 d2 d3 d4 d5 d6 d7 d8 d9
    obtain ⟨d0, d1, d2, d3, d4, d5, d6, d7, d8, d9⟩ :=  (hx2.below OA.bel).ten
    clear hI9 O9
    have hx1 := HX.out
    have hn1 := HNX.out
    have hlA : (hd ++ p).length + d.length = nx := by rw [← List.length_append, ← hx1, hn1]
    have xl1 := xl.out
    obtain ⟨l0, hl0⟩ : ∃ l0, hd ++ p = l0 := ⟨_, rfl⟩
    rw [hl0] at OA hlA hx1
    have HX2 := hid hx1
    clear hx1 hl0 hn1 xl1
    go_wp2_with fail
    refine (OA.buf.bytes_ok d da dc (by omega) ((ID.out _ (below_on HW2.out OA.bel)))).mono ?_
    rintro e w11 ⟨rfl, p11, hG⟩
    have OB := OA.went hG
    rw [← HX2.out] at OB
    clear d0 d1 d2 d3 d4 d5 d6 d7 d8 d9 hG OA
    have hev : Hid (xs.length % 8 = 0) := by rw [HNX.out]; exact xl.out
    go_wp2_with fail
    refine (OB.buf.even_same (n := 8) (by decide) (by decide) hev.out).mono ?_
    rintro e w12 ⟨rfl, rfl⟩
    go_wp2_with fail
    refine OB.buf.done_ok.mono ?_
    rintro e w13 ⟨rfl, hF⟩
    obtain ⟨ad, cp, he, hl, hc, hI⟩ := own_ints hF.own
    have he1 : ad = some ⟨w11.heap.size, 0, none⟩ := by simpa using (congrArg (fun x => match x with | Value.slice a _ _ => a | _ => none) he).symm
    have HF := hid hF.bel
    have HI := hid hI
    have HE1 := hid he1
    have hsz := OB.bel.size
    have hsz2 := HW2.out.size
    clear he hl hc hI hF he1
    go_wp2_with fail
    go_ret2
    exact .inr ⟨xs, w11.heap.size, HN.out, rfl, below_on HW2.out (below_on OB.bel HF.out), by rw [← HE1.out]; exact HI.out, by omega⟩


set_option maxRecDepth 100000 in
set_option maxHeartbeats 4000000 in
theorem encode12_set (g : Ent12) (w : World) (hi : ActIn w g) (xs : List Int) (hn : act12 g.act = some xs) (hT : g.T = 25) :
    Calls Tryz.prog 11 #[g.val] w (EncPost12 g w) := by
  obtain ⟨W, hW, hbW, hx⟩ := act_box w g.T g.A g.B g.o.C g.o.F g.o.H g.o.X g.va g.o.v.length g.vc g.ma g.o.m.length g.mc g.da g.d.length g.dc
  have HW := hid hW
  have HB := hid hbW
  have HN := hid hn
  have RI := hid (fun (V : World) (hV : Below w.heap.size w V) => actRight_any g V (hi.below hV))
  have hr : right12 g = true := by rw [right_act g hi.ld, hn]; rfl
  rw [hr] at RI
  have SZ := hid (fun (V : World) (hV : Below w.heap.size w V) => actSize_any g V (hi.below hV))
  rw [size_act hn] at SZ
  obtain ⟨k1, k2, k3, k4, k5, k6⟩ := count_le12 g.T
  have RO := hid (fun V => rowOf_any g.T V)
  have NU := hid (fun (V : World) (a : Option Addr) (c : Nat) (ia : Ints .i64 V a (rowP g.T)) => numbers_at g.T g.A g.B g.o.C g.o.F g.o.H g.o.X g.va g.o.v.length g.vc g.ma g.o.m.length g.mc g.da g.d.length g.dc (rowP g.T) a c (countL (rowP g.T)) k2 k1 (by omega) V ia)
  have HU : Hid (U64s (nums12 g.act (rowP g.T))) := nums_u64 hi.num _
  have NL : Hid ((nums12 g.act (rowP g.T)).length = countL (rowP g.T)) := nums_len k1
  have ID := hid (fun (V : World) (hV : Below w.heap.size w V) => hi.id.below hV)
  have OE := hid (fun (V : World) (hV : Below w.heap.size w V) => encode8_any g.o.C g.o.F g.o.H g.o.X g.va g.vc g.ma g.mc g.o.v g.o.m hi.lv hi.lm hi.cm hi.ov hi.om V (hi.iv.below hV) (hi.im.below hV) hi.x.1)
  obtain ⟨bb, hbb, hww, hxx, hll, h8, hm8, hbig, ht0, ht1⟩ := act_write hn
  obtain ⟨_, _, hd0, hset, hbd⟩ := body_25 hbb hT
  have hro : rightB g.o.C g.o.F g.o.H g.o.X g.o.v g.o.m = true := by
    unfold setOk12 at hset
    simp only [Bool.and_eq_true] at hset
    exact hset.2
  have hPT : putW (rowP g.T) (nums12 g.act (rowP g.T)) = some [] := by
    rw [hT]
    simp [rowP, row12, nums12, countL, putW, rightW, allW, putL]
  have HX : Hid (xs = head12 g.T xs.length ++ bytes10 g.o ++ List.replicate (pad12 (bytes10 g.o).length) 0) := by
    show xs = _
    unfold head12
    rw [hll]
    refine hxx.trans ?_
    rw [hbd]
    show bytesL g.T 2 ++ (bytesL _ 2 ++ (bytes10 g.o ++ List.replicate (pad12 (bytes10 g.o).length) 0)) = _
    simp
  obtain ⟨hpad, hpad2⟩ := pad_fits (bytes10 g.o).length
  have hP2 := putW_head12 (t := g.T) (n := xs.length) ht0 ht1 hbig
  have HL4 := hid (head12_length g.T xs.length)
  have wT : IntKind.u64.wrap g.T = g.T := by rw [u64_wrap8]; have : g.act.T = g.T := rfl; omega
  have wN : IntKind.u64.wrap (xs.length : Int) = (xs.length : Int) := by rw [u64_wrap8]; omega
  have HU2 : Hid (U64s [IntKind.u64.wrap g.T, IntKind.u64.wrap (xs.length : Int)]) := by
    rw [wT, wN]
    intro y hy
    simp only [List.mem_cons, List.not_mem_nil, or_false] at hy
    rw [p256_8]
    have : g.act.T = g.T := rfl
    rcases hy with rfl | rfl <;> omega
  have HP2 : Hid (putW [2, 2] [IntKind.u64.wrap g.T, IntKind.u64.wrap (xs.length : Int)] = some (head12 g.T xs.length)) := by rw [wT, wN]; exact hP2
  have HPT := hid hPT
  have xl : Hid (xs.length % 8 = 0) := hm8
  obtain ⟨hd, hhd⟩ : ∃ hd, head12 g.T xs.length = hd := ⟨_, rfl⟩
  rw [hhd] at HX HL4 HP2
  clear hr hn hi hW hbW k2 k3 k4 k6 hPT wT wN hhd hP2 hm8 hxx hww hbb hll
  obtain ⟨nl, hnl⟩ : ∃ nl, nums12 g.act (rowP g.T) = nl := ⟨_, rfl⟩
  have HNL : Hid ([g.A, g.B].take (countL (rowP g.T)) = nl) := hnl
  rw [hnl] at HU NL HPT
  clear hnl
  obtain ⟨ob, hob⟩ : ∃ ob, bytes10 g.o = ob := ⟨_, rfl⟩
  rw [hob] at HX hpad hpad2
  have HOB := hid hob
  have HRO := hid hro
  obtain ⟨pd, hpd⟩ : ∃ pd, pad12 ob.length = pd := ⟨_, rfl⟩
  rw [hpd] at HX hpad hpad2
  clear hset hbd hob hro hpd
  obtain ⟨T, A, B, ⟨C, F, H, X, v, m⟩, va, vc, ma, mc, d, da, dc⟩ := g
  have hd1 : d = [] := hd0
  have hT2 : T = 25 := hT
  clear hT hd0
  subst hT2
  subst hd1
  obtain ⟨l, hl⟩ : ∃ l, rowP 25 = l := ⟨_, rfl⟩
  obtain ⟨rb, hrb⟩ : ∃ b, rowB 25 = b := ⟨_, rfl⟩
  simp only [List.length_nil] at *
  rw [hl] at RO NU NL HNL HPT k1 k5
  rw [hrb] at RO
  obtain ⟨cl, hcl⟩ : ∃ c, countL l = c := ⟨_, rfl⟩
  rw [hcl] at NU NL HNL k1
  clear hl hrb hcl
  unfold Ent12.val at *
  simp only at *
  obtain ⟨nx, hnx⟩ : ∃ n, xs.length = n := ⟨_, rfl⟩
  rw [hnx] at SZ HU2 HP2 xl h8 hbig
  have HNX := hid hnx
  clear hnx
  obtain ⟨d0, d1, d2, d3, d4, d5, d6, d7, d8, d9⟩ :=  hx.ten
  go_enter Tryz.func11, Tryz.ntmps11
  go_wp2_with fail
  rw [HW.out]
  go_wp2_with fail
  refine (RI.out _ HB.out).mono ?_
  rintro e w1 ⟨rfl, hb1⟩
  have HC1 := hid hb1
  clear d0 d1 d2 d3 d4 d5 d6 d7 d8 d9
  obtain ⟨d0, d1, d2, d3, d4, d5, d6, d7, d8, d9⟩ :=  (hx.below HC1.out).ten
  clear hb1
  go_wp2_with fail
  refine (RO.out _).mono ?_
  rintro e w2 ⟨a, rfl, hI2, hb2⟩
  have HC2 := hid (below_on HC1.out hb2)
  have I2 := hid hI2
  clear hb2 hI2
  go_wp2_with fail
  refine (bufNew_any 65528 _).mono ?_
  rintro e w3 ⟨gb, mm, rfl, hB, hb3, hg, hmm⟩
  have O1 : BufOn w2 w3 gb mm none 65528 [] [] 0 := ⟨hB, hb3, by rintro i (e | e | e); omega; omega; simp at e⟩
  have HW2 := hid (below_on HB.out HC2.out)
  have hx2 := hx.below HC2.out
  clear d0 d1 d2 d3 d4 d5 d6 d7 d8 d9
  obtain ⟨d0, d1, d2, d3, d4, d5, d6, d7, d8, d9⟩ :=  (hx2.below O1.bel).ten
  have OD := O1.below (below_drew8 w3)
  have hxD := hx2.below OD.bel
  clear hb3 hB hg hmm hx
  go_upto_region 5 with fail
  go_cut [19] (fun t19 wx => ∃ p, BufOn w2 wx gb mm p 65528 hd [] 0)
  case first =>
    go_region_held3 (fun w' => w'.cell? ⟨w.heap.size, 0, none⟩ = some (.int .i64 25) ∧ w'.cell? ⟨w.heap.size, 1, none⟩ = some (.int .u64 A) ∧ w'.cell? ⟨w.heap.size, 2, none⟩ = some (.int .u64 B) ∧ w'.cell? ⟨w.heap.size, 3, none⟩ = some (.int .i64 C) ∧ w'.cell? ⟨w.heap.size, 4, none⟩ = some (.int .i64 F) ∧ w'.cell? ⟨w.heap.size, 5, none⟩ = some (.bool H) ∧ w'.cell? ⟨w.heap.size, 6, none⟩ = some (.int .u64 X) ∧ w'.cell? ⟨w.heap.size, 7, none⟩ = some (.slice va v.length vc) ∧ w'.cell? ⟨w.heap.size, 8, none⟩ = some (.slice ma m.length mc) ∧ w'.cell? ⟨w.heap.size, 9, none⟩ = some (.slice da 0 dc)) (go_keep) (first
      | (go_at_call 45; refine (SZ.out _ ?_).mono ?_; (first | exact below_on HW2.out OD.bel | exact below_on HW2.out (below_on OD.bel (below_alloc _ _)) | fail); rintro e w5 ⟨rfl, hb5⟩; have hB5 : Below w3.drew.heap.size w3.drew w5 := (by first | exact hb5 | exact below_on (below_alloc _ _) hb5 | fail); obtain ⟨e0, e1, e2, e3, e4, e5, e6, e7, e8, e9⟩ := (hxD.below hB5).ten)
      | (go_at_call 44; refine (row12_at (ns := [IntKind.u64.wrap 25, IntKind.u64.wrap (nx : Int)]) HP2.out (by rw [HL4.out]; decide) HU2.out (by decide) rfl rfl (Nat.le_refl _) (OD.below ?_) ?_ ?_).mono ?_; (first | exact below_on hB5 (below_alloc _ _) | exact below_on (below_on hB5 (below_alloc _ _)) (below_alloc _ _) | fail); (first | exact lit_at .i64 [2, 2] (below_on (below_drew8 _) (below_on hb5 (below_alloc _ _))) rfl rfl | exact lit_at .i64 [2, 2] (below_on hb5 (below_alloc _ _)) rfl rfl | exact lit_at .i64 [2, 2] (below_alloc _ _) rfl rfl | exact lit_at .i64 [2, 2] (Below.refl _ _) rfl rfl | exact lit_at .i64 [2, 2] (Below.refl _ _) (World.size_alloc _ _) rfl | fail); (first | exact lit_at .u64 [IntKind.u64.wrap 25, IntKind.u64.wrap (nx : Int)] (Below.refl _ _) rfl rfl | exact lit_at .u64 [IntKind.u64.wrap 25, IntKind.u64.wrap (nx : Int)] (Below.refl _ _) (World.size_alloc _ _) rfl | exact lit_at .u64 [IntKind.u64.wrap 25, IntKind.u64.wrap (nx : Int)] (below_alloc _ _) rfl rfl | fail); rintro e w7 ⟨rfl, p', O7⟩; obtain ⟨e0, e1, e2, e3, e4, e5, e6, e7, e8, e9⟩ := (hx2.below O7.bel).ten))
    all_goals
      go_wp2_with fail
      go_meet
      exact ⟨_, O7⟩
  case rest =>
    obtain ⟨p8, O8⟩ := hcut
    clear OD hxD O1 d0 d1 d2 d3 d4 d5 d6 d7 d8 d9
    obtain ⟨d0, d1, d2, d3, d4, d5, d6, d7, d8, d9⟩ :=  (hx2.below O8.bel).ten
    go_wp2_with fail
    refine (NU.out _ a _ (I2.out.below O8.bel)).mono ?_
    rintro e w9 ⟨b9, rfl, hI9, hb9⟩
    rw [HNL.out] at hI9
    have O9 := O8.below hb9
    clear d0 d1 d2 d3 d4 d5 d6 d7 d8 d9
    obtain ⟨d0, d1, d2, d3, d4, d5, d6, d7, d8, d9⟩ :=  (hx2.below O9.bel).ten
    clear hb9 O8
    go_wp2_with fail
    refine (row12_at HPT.out (by rw [HL4.out]; decide) HU.out (by omega) rfl NL.out.symm k1 O9 (I2.out.below O9.bel) hI9).mono ?_
    rintro e w10 ⟨rfl, p10, OA⟩
    clear d0 d1 d2 d3 d4 d5 d6 d7 d8 d9
    obtain ⟨d0, d1, d2, d3, d4, d5, d6, d7, d8, d9⟩ :=  (hx2.below OA.bel).ten
    clear hI9 O9
    rw [List.append_nil] at OA
    go_wp2_with fail
    refine (OE.out _ (below_on HW2.out OA.bel)).mono ?_
    rintro e w11 (⟨hq, _⟩ | ⟨_, ad, cp, rfl, hb11, hI11, hcp⟩)
    · rw [HRO.out] at hq; simp at hq
    have hob : oxmBytes C F H X v m = ob := HOB.out
    rw [hob] at hI11 hcp ⊢
    have OB := OA.below hb11
    have I11 := hid hI11
    clear d0 d1 d2 d3 d4 d5 d6 d7 d8 d9 hb11 hI11 OA hob
    go_wp2_with fail
    refine (OB.buf.fail 0).mono ?_
    rintro e w12 ⟨rfl, hB12, hg12⟩
    have OC := OB.went (Went.by_g hB12 hg12)
    have I12 := hid (OB.buf.ints8 I11.out hg12)
    clear hB12 hg12
    have hx1 := HX.out
    have hn1 := HNX.out
    have hlA : hd.length + ob.length + pd = nx := by rw [← hn1, hx1]; simp; omega
    have xl1 := xl.out
    have hl4 := HL4.out
    go_wp2_with fail
    refine (OC.buf.bytes_ok ob ad cp (by omega) I12.out).mono ?_
    rintro e w13 ⟨rfl, p13, hG⟩
    have O_D := OC.went hG
    clear hG OC
    obtain ⟨d0, d1, d2, d3, d4, d5, d6, d7, d8, d9⟩ :=  (hx2.below O_D.bel).ten
    go_wp2_with fail
    refine (O_D.buf.bytes_ok [] da dc (by simp; omega) (Ints.nil _ _ _)).mono ?_
    rintro e w14 ⟨rfl, p14, hG⟩
    have OF := O_D.went hG
    rw [List.append_nil] at OF
    clear d0 d1 d2 d3 d4 d5 d6 d7 d8 d9 hG O_D
    obtain ⟨l0, hl0⟩ : ∃ l0, hd ++ ob = l0 := ⟨_, rfl⟩
    have hl0l : l0.length = 4 + ob.length := by rw [← hl0, List.length_append, hl4]
    rw [hl0] at OF hx1
    have HX2 := hid hx1
    clear hx1 hl0 hn1 xl1
    have fin : ∀ w15 p15, BufOn w2 w15 gb mm p15 65528 xs [] 0 → True := fun _ _ _ => trivial
    by_cases hp0 : pd = 0
    · subst hp0
      have hev : Hid (l0.length % 8 = 0) := by show l0.length % 8 = 0; omega
      have hxe : xs = l0 := by rw [HX2.out]; simp
      rw [← hxe] at OF hev
      clear hl0l hxe
      go_wp2_with fail
      refine (OF.buf.even_same (n := 8) (by decide) (by decide) hev.out).mono ?_
      rintro e w15 ⟨rfl, rfl⟩
      go_wp2_with fail
      refine OF.buf.done_ok.mono ?_
      rintro e w16 ⟨rfl, hF⟩
      obtain ⟨ad', cp', he, hl, hc, hI⟩ := own_ints hF.own
      have he1 : ad' = some ⟨w14.heap.size, 0, none⟩ := by simpa using (congrArg (fun x => match x with | Value.slice a _ _ => a | _ => none) he).symm
      have HF := hid hF.bel
      have HI := hid hI
      have HE1 := hid he1
      have hsz := OF.bel.size
      have hsz2 := HW2.out.size
      clear he hl hc hI hF he1
      go_wp2_with fail
      go_ret2
      exact .inr ⟨xs, w14.heap.size, HN.out, rfl, below_on HW2.out (below_on OF.bel HF.out), by rw [← HE1.out]; exact HI.out, by omega⟩
    · have h1 : l0.length % 8 + pd = 8 := by omega
      have h2 : 0 < l0.length % 8 := by omega
      have h3 : l0.length + pd ≤ 65528 := by omega
      have EV := hid (OF.buf.even_ok (n := 8) (q := pd) (by decide) (by decide) (by omega) h1 h2 h3)
      clear h1 h2 h3 hl0l
      go_wp2_with fail
      refine EV.out.mono ?_
      rintro e w15 ⟨rfl, p15, hG⟩
      have OG := OF.went hG
      rw [← HX2.out] at OG
      clear hG OF EV
      go_wp2_with fail
      refine OG.buf.done_ok.mono ?_
      rintro e w16 ⟨rfl, hF⟩
      obtain ⟨ad', cp', he, hl, hc, hI⟩ := own_ints hF.own
      have he1 : ad' = some ⟨w15.heap.size, 0, none⟩ := by simpa using (congrArg (fun x => match x with | Value.slice a _ _ => a | _ => none) he).symm
      have HF := hid hF.bel
      have HI := hid hI
      have HE1 := hid he1
      have hsz := OG.bel.size
      have hsz2 := HW2.out.size
      clear he hl hc hI hF he1
      go_wp2_with fail
      go_ret2
      exact .inr ⟨xs, w15.heap.size, HN.out, rfl, below_on HW2.out (below_on OG.bel HF.out), by rw [← HE1.out]; exact HI.out, by omega⟩


theorem actEncode_any (g : Ent12) (w : World) (hi : ActIn w g) : Calls Tryz.prog 11 #[g.val] w (EncPost12 g w) := by
  cases h : act12 g.act with
  | none => exact encode12_no g w hi h
  | some x =>
    by_cases hT : g.T = 25
    · exact encode12_set g w hi x h hT
    · exact encode12_row g w hi x h hT
end Go.Proofs.YtdjlbejhphbcoaaGreat
