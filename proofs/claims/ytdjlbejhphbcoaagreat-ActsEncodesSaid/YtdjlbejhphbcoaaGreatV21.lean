/- Put together out of several texts. -/
import Derived.Test.YtdjlbejhphbcoaaGreatV19
import Derived.Deep.RegionHeld3
import Derived.Deep.DeepCutAuto
import Derived.Test.YtdjlbejhphbcoaaGreatV17
import Derived.Test.YtdjlbejhphbcoaaGreatV6
namespace Go.Proofs.YtdjlbejhphbcoaaGreat
open Go.RowKit
set_option linter.unusedVariables false

/-- bytes stand in no buffer's struct: what turns it leaves them -/
theorem Buf.ints8 {w w' : World} {g m : Nat} {p : Option Nat} {r : Nat} {l : List Int} {H : List (Int × Int)} {f : Int} {a : Option Addr} {x : List Int} (h : Buf w g m p r l H f) (hI : Ints .u8 w a x) (hb : w.grownBy w' (some g)) : Ints .u8 w' a x := by
  intro i hi
  obtain ⟨b, off, ha, hc⟩ := hI i hi
  refine ⟨b, off, ha, ?_⟩
  by_cases hbg : b = g
  · exfalso
    subst hbg
    obtain ⟨v, D, hv, hg, hr, _⟩ := h.ex
    obtain ⟨a', c', rfl, _⟩ := own_ints hr
    rw [World.cell?, hg] at hc
    simp only [bufCells] at hc
    rcases (show off + i = 0 ∨ off + i = 1 ∨ off + i = 2 ∨ off + i = 3 ∨ off + i = 4 ∨ 5 ≤ off + i by omega) with k | k | k | k | k | k
    · simp [k] at hc
    · simp [k] at hc
    · simp [k] at hc
    · simp [k] at hc
    · simp [k] at hc
    · rw [Array.getElem?_eq_none (by simpa using k)] at hc
      simp at hc
  · exact hb.cell hc (by simpa using hbg)

set_option maxRecDepth 100000 in
set_option maxHeartbeats 4000000 in
theorem encode12_row (g : Ent12) (w : World) (hi : ActIn w g) (xs : List Int) (hn : act12 g.act = some xs) (hT : g.T ≠ 25) :
    Calls Tryz.prog 11 #[g.val] w (EncPost12 g w) := by
  obtain ⟨W, hW, hbW, hx⟩ := act_box w g.T g.A g.B g.o.C g.o.F g.o.H g.o.X g.va g.o.v.length g.vc g.ma g.o.m.length g.mc g.da g.d.length g.dc
  have HW := hid hW
  have HB := hid hbW
  have HN := hid hn
  have RI := hid (fun (V : World) (hV : Below w.heap.size w V) => actRight_any g V (hi.below hV))
  have hr : right12 g = true := by rw [right_act g hi.ld, hn]; rfl
  rw [hr] at RI
  have SZ := hid (fun (V : World) (hV : Below w.heap.size w V) => actSize_any g V (hi.below hV))
  rw [size_act hn] at SZ
  obtain ⟨k1, k2, k3, k4, k5, k6⟩ := count_le12 g.T
  have k4' := k4
  have RO := hid (fun V => rowOf_any g.T V)
  have NU := hid (fun (V : World) (a : Option Addr) (c : Nat) (ia : Ints .i64 V a (rowP g.T)) => numbers_at g.T g.A g.B g.o.C g.o.F g.o.H g.o.X g.va g.o.v.length g.vc g.ma g.o.m.length g.mc g.da g.d.length g.dc (rowP g.T) a c (countL (rowP g.T)) k2 k1 (by omega) V ia)
  have HU : Hid (U64s (nums12 g.act (rowP g.T))) := nums_u64 hi.num _
  have NL : Hid ((nums12 g.act (rowP g.T)).length = countL (rowP g.T)) := nums_len k1
  have ID := hid (fun (V : World) (hV : Below w.heap.size w V) => hi.id.below hV)
  obtain ⟨bb, hbb, hww, hxx, hll, h8, hm8, hbig, ht0, ht1⟩ := act_write hn
  obtain ⟨ww, p, hrow, _, _, _, _, _, _, _, hput, hcw, hbd⟩ := body_row hbb hT
  have erow : rowP g.T = ww := by simp [rowP, show row12 g.T = some ww from hrow]
  have hPT : putW (rowP g.T) (nums12 g.act (rowP g.T)) = some p := by
    rw [erow]
    have rr := (row_facts hrow).ok
    simp [putW, rr, hcw, hput]
  have HX : Hid (xs = head12 g.T xs.length ++ p ++ g.d) := by
    show xs = _
    unfold head12
    rw [hll]
    refine hxx.trans ?_
    rw [hbd]
    show bytesL g.T 2 ++ (bytesL _ 2 ++ (p ++ g.d)) = _
    simp
  have hP2 := putW_head12 (t := g.T) (n := xs.length) ht0 ht1 hbig
  have HL4 := hid (head12_length g.T xs.length)
  have wT : IntKind.u64.wrap g.T = g.T := by rw [u64_wrap8]; have : g.act.T = g.T := rfl; omega
  have wN : IntKind.u64.wrap (xs.length : Int) = (xs.length : Int) := by rw [u64_wrap8]; omega
  have HU2 : Hid (U64s [IntKind.u64.wrap g.T, IntKind.u64.wrap (xs.length : Int)]) := by
    rw [wT, wN]
    intro y hy
    simp only [List.mem_cons, List.not_mem_nil, or_false] at hy
    rw [p256_8]
    have : g.act.T = g.T := rfl
    rcases hy with rfl | rfl <;> omega
  have HP2 : Hid (putW [2, 2] [IntKind.u64.wrap g.T, IntKind.u64.wrap (xs.length : Int)] = some (head12 g.T xs.length)) := by rw [wT, wN]; exact hP2
  have HPT := hid hPT
  have xl : Hid (xs.length % 8 = 0) := hm8
  obtain ⟨hd, hhd⟩ : ∃ hd, head12 g.T xs.length = hd := ⟨_, rfl⟩
  rw [hhd] at HX HL4 HP2
  clear hr hn hi hW hbW k2 k3 k4 k6 hPT wT wN hhd hP2 hm8 hxx hww hbb hll
  obtain ⟨nl, hnl⟩ : ∃ nl, nums12 g.act (rowP g.T) = nl := ⟨_, rfl⟩
  have HNL : Hid ([g.A, g.B].take (countL (rowP g.T)) = nl) := hnl
  rw [hnl] at HU NL HPT
  clear hnl
  have hpl : Hid (p.length ≤ 12) := by show p.length ≤ 12; rw [(putL_octets hput).2, ← erow]; exact k4'
  clear hrow hput hcw hbd erow
  obtain ⟨T, A, B, ⟨C, F, H, X, v, m⟩, va, vc, ma, mc, d, da, dc⟩ := g
  have hT1 : (T == 25) = false := by simpa using hT
  clear hT
  obtain ⟨l, hl⟩ : ∃ l, rowP T = l := ⟨_, rfl⟩
  obtain ⟨rb, hrb⟩ : ∃ b, rowB T = b := ⟨_, rfl⟩
  simp only at *
  rw [hl] at RO NU NL HNL HPT k1 k5
  rw [hrb] at RO
  obtain ⟨cl, hcl⟩ : ∃ c, countL l = c := ⟨_, rfl⟩
  rw [hcl] at NU NL HNL k1
  clear hl hrb hcl
  unfold Ent12.val at *
  simp only at *
  obtain ⟨nx, hnx⟩ : ∃ n, xs.length = n := ⟨_, rfl⟩
  rw [hnx] at SZ HU2 HP2 xl h8 hbig
  have HNX := hid hnx
  clear hnx
  obtain ⟨d0, d1, d2, d3, d4, d5, d6, d7, d8, d9⟩ :=  hx.ten
  go_enter Tryz.func11, Tryz.ntmps11
  go_wp2_with fail
  rw [HW.out]
  go_wp2_with fail
  refine (RI.out _ HB.out).mono ?_
  rintro e w1 ⟨rfl, hb1⟩
  have HC1 := hid hb1
  clear d0 d1 d2 d3 d4 d5 d6 d7 d8 d9
  obtain ⟨d0, d1, d2, d3, d4, d5, d6, d7, d8, d9⟩ :=  (hx.below HC1.out).ten
  clear hb1
  go_wp2_with fail
  refine (RO.out _).mono ?_
  rintro e w2 ⟨a, rfl, hI2, hb2⟩
  have HC2 := hid (below_on HC1.out hb2)
  have I2 := hid hI2
  clear hb2 hI2
  go_wp2_with fail
  refine (bufNew_any 65528 _).mono ?_
  rintro e w3 ⟨gb, mm, rfl, hB, hb3, hg, hmm⟩
  have O1 : BufOn w2 w3 gb mm none 65528 [] [] 0 := ⟨hB, hb3, by rintro i (e | e | e); omega; omega; simp at e⟩
  have HW2 := hid (below_on HB.out HC2.out)
  have hx2 := hx.below HC2.out
  clear d0 d1 d2 d3 d4 d5 d6 d7 d8 d9
  obtain ⟨d0, d1, d2, d3, d4, d5, d6, d7, d8, d9⟩ :=  (hx2.below O1.bel).ten
  have OD := O1.below (below_drew8 w3)
  have hxD := hx2.below OD.bel
  clear hb3 hB hg hmm hx
  go_upto_region 5 with fail
  go_cut [19] (fun t19 wx => ∃ p, BufOn w2 wx gb mm p 65528 hd [] 0)
  case first =>
    go_region_held3 (fun w' => w'.cell? ⟨w.heap.size, 0, none⟩ = some (.int .i64 T) ∧ w'.cell? ⟨w.heap.size, 1, none⟩ = some (.int .u64 A) ∧ w'.cell? ⟨w.heap.size, 2, none⟩ = some (.int .u64 B) ∧ w'.cell? ⟨w.heap.size, 3, none⟩ = some (.int .i64 C) ∧ w'.cell? ⟨w.heap.size, 4, none⟩ = some (.int .i64 F) ∧ w'.cell? ⟨w.heap.size, 5, none⟩ = some (.bool H) ∧ w'.cell? ⟨w.heap.size, 6, none⟩ = some (.int .u64 X) ∧ w'.cell? ⟨w.heap.size, 7, none⟩ = some (.slice va v.length vc) ∧ w'.cell? ⟨w.heap.size, 8, none⟩ = some (.slice ma m.length mc) ∧ w'.cell? ⟨w.heap.size, 9, none⟩ = some (.slice da d.length dc)) (go_keep) (first
      | (go_at_call 45; refine (SZ.out _ ?_).mono ?_; (first | exact below_on HW2.out OD.bel | exact below_on HW2.out (below_on OD.bel (below_alloc _ _)) | fail); rintro e w5 ⟨rfl, hb5⟩; have hB5 : Below w3.drew.heap.size w3.drew w5 := (by first | exact hb5 | exact below_on (below_alloc _ _) hb5 | fail); obtain ⟨e0, e1, e2, e3, e4, e5, e6, e7, e8, e9⟩ := (hxD.below hB5).ten)
      | (go_at_call 44; refine (row12_at (ns := [IntKind.u64.wrap T, IntKind.u64.wrap (nx : Int)]) HP2.out (by rw [HL4.out]; decide) HU2.out (by decide) rfl rfl (Nat.le_refl _) (OD.below ?_) ?_ ?_).mono ?_; (first | exact below_on hB5 (below_alloc _ _) | exact below_on (below_on hB5 (below_alloc _ _)) (below_alloc _ _) | fail); (first | exact lit_at .i64 [2, 2] (below_on (below_drew8 _) (below_on hb5 (below_alloc _ _))) rfl rfl | exact lit_at .i64 [2, 2] (below_on hb5 (below_alloc _ _)) rfl rfl | exact lit_at .i64 [2, 2] (below_alloc _ _) rfl rfl | exact lit_at .i64 [2, 2] (Below.refl _ _) rfl rfl | exact lit_at .i64 [2, 2] (Below.refl _ _) (World.size_alloc _ _) rfl | fail); (first | exact lit_at .u64 [IntKind.u64.wrap T, IntKind.u64.wrap (nx : Int)] (Below.refl _ _) rfl rfl | exact lit_at .u64 [IntKind.u64.wrap T, IntKind.u64.wrap (nx : Int)] (Below.refl _ _) (World.size_alloc _ _) rfl | exact lit_at .u64 [IntKind.u64.wrap T, IntKind.u64.wrap (nx : Int)] (below_alloc _ _) rfl rfl | fail); rintro e w7 ⟨rfl, p', O7⟩; obtain ⟨e0, e1, e2, e3, e4, e5, e6, e7, e8, e9⟩ := (hx2.below O7.bel).ten))
    all_goals
      go_wp2_with fail
      go_meet
      exact ⟨_, O7⟩
  case rest =>
    obtain ⟨p8, O8⟩ := hcut
    clear OD hxD O1 d0 d1 d2 d3 d4 d5 d6 d7 d8 d9
    obtain ⟨d0, d1, d2, d3, d4, d5, d6, d7, d8, d9⟩ :=  (hx2.below O8.bel).ten
    go_wp2_with fail
    refine (NU.out _ a _ (I2.out.below O8.bel)).mono ?_
    rintro e w9 ⟨b9, rfl, hI9, hb9⟩
    rw [HNL.out] at hI9
    have O9 := O8.below hb9
    clear d0 d1 d2 d3 d4 d5 d6 d7 d8 d9
    obtain ⟨d0, d1, d2, d3, d4, d5, d6, d7, d8, d9⟩ :=  (hx2.below O9.bel).ten
    clear hb9 O8
    go_wp2_with fail
    refine (row12_at HPT.out (by rw [HL4.out]; have := hpl.out; omega) HU.out (by omega) rfl NL.out.symm k1 O9 (I2.out.below O9.bel) hI9).mono ?_
    rintro e w10 ⟨rfl, p10, OA⟩
    clear d0 d1 d2 d3 d4 d5 d6 d7 d8 d9
    obtain ⟨d0, d1, d2, d3, d4, d5, d6, d7, d8, d9⟩ :=  (hx2.below OA.bel).ten
    clear hI9 O9
    have hx1 := HX.out
    have hn1 := HNX.out
    have hlA : (hd ++ p).length + d.length = nx := by rw [← List.length_append, ← hx1, hn1]
    have xl1 := xl.out
    obtain ⟨l0, hl0⟩ : ∃ l0, hd ++ p = l0 := ⟨_, rfl⟩
    rw [hl0] at OA hlA hx1
    have HX2 := hid hx1
    clear hx1 hl0 hn1 xl1
    go_wp2_with fail
    refine (OA.buf.bytes_ok d da dc (by omega) ((ID.out _ (below_on HW2.out OA.bel)))).mono ?_
    rintro e w11 ⟨rfl, p11, hG⟩
    have OB := OA.went hG
    rw [← HX2.out] at OB
    clear d0 d1 d2 d3 d4 d5 d6 d7 d8 d9 hG OA
    have hev : Hid (xs.length % 8 = 0) := by rw [HNX.out]; exact xl.out
    go_wp2_with fail
    refine (OB.buf.even_same (n := 8) (by decide) (by decide) hev.out).mono ?_
    rintro e w12 ⟨rfl, rfl⟩
    go_wp2_with fail
    refine OB.buf.done_ok.mono ?_
    rintro e w13 ⟨rfl, hF⟩
    obtain ⟨ad, cp, he, hl, hc, hI⟩ := own_ints hF.own
    have he1 : ad = some ⟨w11.heap.size, 0, none⟩ := by simpa using (congrArg (fun x => match x with | Value.slice a _ _ => a | _ => none) he).symm
    have HF := hid hF.bel
    have HI := hid hI
    have HE1 := hid he1
    have hsz := OB.bel.size
    have hsz2 := HW2.out.size
    clear he hl hc hI hF he1
    go_wp2_with fail
    go_ret2
    exact .inr ⟨xs, w11.heap.size, HN.out, rfl, below_on HW2.out (below_on OB.bel HF.out), by rw [← HE1.out]; exact HI.out, by omega⟩


set_option maxRecDepth 100000 in
set_option maxHeartbeats 4000000 in
theorem encode12_set (g : Ent12) (w : World) (hi : ActIn w g) (xs : List Int) (hn : act12 g.act = some xs) (hT : g.T = 25) :
    Calls Tryz.prog 11 #[g.val] w (EncPost12 g w) := by
  obtain ⟨W, hW, hbW, hx⟩ := act_box w g.T g.A g.B g.o.C g.o.F g.o.H g.o.X g.va g.o.v.length g.vc g.ma g.o.m.length g.mc g.da g.d.length g.dc
  have HW := hid hW
  have HB := hid hbW
  have HN := hid hn
  have RI := hid (fun (V : World) (hV : Below w.heap.size w V) => actRight_any g V (hi.below hV))
  have hr : right12 g = true := by rw [right_act g hi.ld, hn]; rfl
  rw [hr] at RI
  have SZ := hid (fun (V : World) (hV : Below w.heap.size w V) => actSize_any g V (hi.below hV))
  rw [size_act hn] at SZ
  obtain ⟨k1, k2, k3, k4, k5, k6⟩ := count_le12 g.T
  have RO := hid (fun V => rowOf_any g.T V)
  have NU := hid (fun (V : World) (a : Option Addr) (c : Nat) (ia : Ints .i64 V a (rowP g.T)) => numbers_at g.T g.A g.B g.o.C g.o.F g.o.H g.o.X g.va g.o.v.length g.vc g.ma g.o.m.length g.mc g.da g.d.length g.dc (rowP g.T) a c (countL (rowP g.T)) k2 k1 (by omega) V ia)
  have HU : Hid (U64s (nums12 g.act (rowP g.T))) := nums_u64 hi.num _
  have NL : Hid ((nums12 g.act (rowP g.T)).length = countL (rowP g.T)) := nums_len k1
  have ID := hid (fun (V : World) (hV : Below w.heap.size w V) => hi.id.below hV)
  have OE := hid (fun (V : World) (hV : Below w.heap.size w V) => encode8_any g.o.C g.o.F g.o.H g.o.X g.va g.vc g.ma g.mc g.o.v g.o.m hi.lv hi.lm hi.cm hi.ov hi.om V (hi.iv.below hV) (hi.im.below hV) hi.x.1)
  obtain ⟨bb, hbb, hww, hxx, hll, h8, hm8, hbig, ht0, ht1⟩ := act_write hn
  obtain ⟨_, _, hd0, hset, hbd⟩ := body_25 hbb hT
  have hro : rightB g.o.C g.o.F g.o.H g.o.X g.o.v g.o.m = true := by
    unfold setOk12 at hset
    simp only [Bool.and_eq_true] at hset
    exact hset.2
  have hPT : putW (rowP g.T) (nums12 g.act (rowP g.T)) = some [] := by
    rw [hT]
    simp [rowP, row12, nums12, countL, putW, rightW, allW, putL]
  have HX : Hid (xs = head12 g.T xs.length ++ bytes10 g.o ++ List.replicate (pad12 (bytes10 g.o).length) 0) := by
    show xs = _
    unfold head12
    rw [hll]
    refine hxx.trans ?_
    rw [hbd]
    show bytesL g.T 2 ++ (bytesL _ 2 ++ (bytes10 g.o ++ List.replicate (pad12 (bytes10 g.o).length) 0)) = _
    simp
  obtain ⟨hpad, hpad2⟩ := pad_fits (bytes10 g.o).length
  have hP2 := putW_head12 (t := g.T) (n := xs.length) ht0 ht1 hbig
  have HL4 := hid (head12_length g.T xs.length)
  have wT : IntKind.u64.wrap g.T = g.T := by rw [u64_wrap8]; have : g.act.T = g.T := rfl; omega
  have wN : IntKind.u64.wrap (xs.length : Int) = (xs.length : Int) := by rw [u64_wrap8]; omega
  have HU2 : Hid (U64s [IntKind.u64.wrap g.T, IntKind.u64.wrap (xs.length : Int)]) := by
    rw [wT, wN]
    intro y hy
    simp only [List.mem_cons, List.not_mem_nil, or_false] at hy
    rw [p256_8]
    have : g.act.T = g.T := rfl
    rcases hy with rfl | rfl <;> omega
  have HP2 : Hid (putW [2, 2] [IntKind.u64.wrap g.T, IntKind.u64.wrap (xs.length : Int)] = some (head12 g.T xs.length)) := by rw [wT, wN]; exact hP2
  have HPT := hid hPT
  have xl : Hid (xs.length % 8 = 0) := hm8
  obtain ⟨hd, hhd⟩ : ∃ hd, head12 g.T xs.length = hd := ⟨_, rfl⟩
  rw [hhd] at HX HL4 HP2
  clear hr hn hi hW hbW k2 k3 k4 k6 hPT wT wN hhd hP2 hm8 hxx hww hbb hll
  obtain ⟨nl, hnl⟩ : ∃ nl, nums12 g.act (rowP g.T) = nl := ⟨_, rfl⟩
  have HNL : Hid ([g.A, g.B].take (countL (rowP g.T)) = nl) := hnl
  rw [hnl] at HU NL HPT
  clear hnl
  obtain ⟨ob, hob⟩ : ∃ ob, bytes10 g.o = ob := ⟨_, rfl⟩
  rw [hob] at HX hpad hpad2
  have HOB := hid hob
  have HRO := hid hro
  obtain ⟨pd, hpd⟩ : ∃ pd, pad12 ob.length = pd := ⟨_, rfl⟩
  rw [hpd] at HX hpad hpad2
  clear hset hbd hob hro hpd
  obtain ⟨T, A, B, ⟨C, F, H, X, v, m⟩, va, vc, ma, mc, d, da, dc⟩ := g
  have hd1 : d = [] := hd0
  have hT2 : T = 25 := hT
  clear hT hd0
  subst hT2
  subst hd1
  obtain ⟨l, hl⟩ : ∃ l, rowP 25 = l := ⟨_, rfl⟩
  obtain ⟨rb, hrb⟩ : ∃ b, rowB 25 = b := ⟨_, rfl⟩
  simp only [List.length_nil] at *
  rw [hl] at RO NU NL HNL HPT k1 k5
  rw [hrb] at RO
  obtain ⟨cl, hcl⟩ : ∃ c, countL l = c := ⟨_, rfl⟩
  rw [hcl] at NU NL HNL k1
  clear hl hrb hcl
  unfold Ent12.val at *
  simp only at *
  obtain ⟨nx, hnx⟩ : ∃ n, xs.length = n := ⟨_, rfl⟩
  rw [hnx] at SZ HU2 HP2 xl h8 hbig
  have HNX := hid hnx
  clear hnx
  obtain ⟨d0, d1, d2, d3, d4, d5, d6, d7, d8, d9⟩ :=  hx.ten
  go_enter Tryz.func11, Tryz.ntmps11
  go_wp2_with fail
  rw [HW.out]
  go_wp2_with fail
  refine (RI.out _ HB.out).mono ?_
  rintro e w1 ⟨rfl, hb1⟩
  have HC1 := hid hb1
  clear d0 d1 d2 d3 d4 d5 d6 d7 d8 d9
  obtain ⟨d0, d1, d2, d3, d4, d5, d6, d7, d8, d9⟩ :=  (hx.below HC1.out).ten
  clear hb1
  go_wp2_with fail
  refine (RO.out _).mono ?_
  rintro e w2 ⟨a, rfl, hI2, hb2⟩
  have HC2 := hid (below_on HC1.out hb2)
  have I2 := hid hI2
  clear hb2 hI2
  go_wp2_with fail
  refine (bufNew_any 65528 _).mono ?_
  rintro e w3 ⟨gb, mm, rfl, hB, hb3, hg, hmm⟩
  have O1 : BufOn w2 w3 gb mm none 65528 [] [] 0 := ⟨hB, hb3, by rintro i (e | e | e); omega; omega; simp at e⟩
  have HW2 := hid (below_on HB.out HC2.out)
  have hx2 := hx.below HC2.out
  clear d0 d1 d2 d3 d4 d5 d6 d7 d8 d9
  obtain ⟨d0, d1, d2, d3, d4, d5, d6, d7, d8, d9⟩ :=  (hx2.below O1.bel).ten
  have OD := O1.below (below_drew8 w3)
  have hxD := hx2.below OD.bel
  clear hb3 hB hg hmm hx
  go_upto_region 5 with fail
  go_cut [19] (fun t19 wx => ∃ p, BufOn w2 wx gb mm p 65528 hd [] 0)
  case first =>
    go_region_held3 (fun w' => w'.cell? ⟨w.heap.size, 0, none⟩ = some (.int .i64 25) ∧ w'.cell? ⟨w.heap.size, 1, none⟩ = some (.int .u64 A) ∧ w'.cell? ⟨w.heap.size, 2, none⟩ = some (.int .u64 B) ∧ w'.cell? ⟨w.heap.size, 3, none⟩ = some (.int .i64 C) ∧ w'.cell? ⟨w.heap.size, 4, none⟩ = some (.int .i64 F) ∧ w'.cell? ⟨w.heap.size, 5, none⟩ = some (.bool H) ∧ w'.cell? ⟨w.heap.size, 6, none⟩ = some (.int .u64 X) ∧ w'.cell? ⟨w.heap.size, 7, none⟩ = some (.slice va v.length vc) ∧ w'.cell? ⟨w.heap.size, 8, none⟩ = some (.slice ma m.length mc) ∧ w'.cell? ⟨w.heap.size, 9, none⟩ = some (.slice da 0 dc)) (go_keep) (first
      | (go_at_call 45; refine (SZ.out _ ?_).mono ?_; (first | exact below_on HW2.out OD.bel | exact below_on HW2.out (below_on OD.bel (below_alloc _ _)) | fail); rintro e w5 ⟨rfl, hb5⟩; have hB5 : Below w3.drew.heap.size w3.drew w5 := (by first | exact hb5 | exact below_on (below_alloc _ _) hb5 | fail); obtain ⟨e0, e1, e2, e3, e4, e5, e6, e7, e8, e9⟩ := (hxD.below hB5).ten)
      | (go_at_call 44; refine (row12_at (ns := [IntKind.u64.wrap 25, IntKind.u64.wrap (nx : Int)]) HP2.out (by rw [HL4.out]; decide) HU2.out (by decide) rfl rfl (Nat.le_refl _) (OD.below ?_) ?_ ?_).mono ?_; (first | exact below_on hB5 (below_alloc _ _) | exact below_on (below_on hB5 (below_alloc _ _)) (below_alloc _ _) | fail); (first | exact lit_at .i64 [2, 2] (below_on (below_drew8 _) (below_on hb5 (below_alloc _ _))) rfl rfl | exact lit_at .i64 [2, 2] (below_on hb5 (below_alloc _ _)) rfl rfl | exact lit_at .i64 [2, 2] (below_alloc _ _) rfl rfl | exact lit_at .i64 [2, 2] (Below.refl _ _) rfl rfl | exact lit_at .i64 [2, 2] (Below.refl _ _) (World.size_alloc _ _) rfl | fail); (first | exact lit_at .u64 [IntKind.u64.wrap 25, IntKind.u64.wrap (nx : Int)] (Below.refl _ _) rfl rfl | exact lit_at .u64 [IntKind.u64.wrap 25, IntKind.u64.wrap (nx : Int)] (Below.refl _ _) (World.size_alloc _ _) rfl | exact lit_at .u64 [IntKind.u64.wrap 25, IntKind.u64.wrap (nx : Int)] (below_alloc _ _) rfl rfl | fail); rintro e w7 ⟨rfl, p', O7⟩; obtain ⟨e0, e1, e2, e3, e4, e5, e6, e7, e8, e9⟩ := (hx2.below O7.bel).ten))
    all_goals
      go_wp2_with fail
      go_meet
      exact ⟨_, O7⟩
  case rest =>
    obtain ⟨p8, O8⟩ := hcut
    clear OD hxD O1 d0 d1 d2 d3 d4 d5 d6 d7 d8 d9
    obtain ⟨d0, d1, d2, d3, d4, d5, d6, d7, d8, d9⟩ :=  (hx2.below O8.bel).ten
    go_wp2_with fail
    refine (NU.out _ a _ (I2.out.below O8.bel)).mono ?_
    rintro e w9 ⟨b9, rfl, hI9, hb9⟩
    rw [HNL.out] at hI9
    have O9 := O8.below hb9
    clear d0 d1 d2 d3 d4 d5 d6 d7 d8 d9
    obtain ⟨d0, d1, d2, d3, d4, d5, d6, d7, d8, d9⟩ :=  (hx2.below O9.bel).ten
    clear hb9 O8
    go_wp2_with fail
    refine (row12_at HPT.out (by rw [HL4.out]; decide) HU.out (by omega) rfl NL.out.symm k1 O9 (I2.out.below O9.bel) hI9).mono ?_
    rintro e w10 ⟨rfl, p10, OA⟩
    clear d0 d1 d2 d3 d4 d5 d6 d7 d8 d9
    obtain ⟨d0, d1, d2, d3, d4, d5, d6, d7, d8, d9⟩ :=  (hx2.below OA.bel).ten
    clear hI9 O9
    rw [List.append_nil] at OA
    go_wp2_with fail
    refine (OE.out _ (below_on HW2.out OA.bel)).mono ?_
    rintro e w11 (⟨hq, _⟩ | ⟨_, ad, cp, rfl, hb11, hI11, hcp⟩)
    · rw [HRO.out] at hq; simp at hq
    have hob : oxmBytes C F H X v m = ob := HOB.out
    rw [hob] at hI11 hcp ⊢
    have OB := OA.below hb11
    have I11 := hid hI11
    clear d0 d1 d2 d3 d4 d5 d6 d7 d8 d9 hb11 hI11 OA hob
    go_wp2_with fail
    refine (OB.buf.fail 0).mono ?_
    rintro e w12 ⟨rfl, hB12, hg12⟩
    have OC := OB.went (Went.by_g hB12 hg12)
    have I12 := hid (OB.buf.ints8 I11.out hg12)
    clear hB12 hg12
    have hx1 := HX.out
    have hn1 := HNX.out
    have hlA : hd.length + ob.length + pd = nx := by rw [← hn1, hx1]; simp; omega
    have xl1 := xl.out
    have hl4 := HL4.out
    go_wp2_with fail
    refine (OC.buf.bytes_ok ob ad cp (by omega) I12.out).mono ?_
    rintro e w13 ⟨rfl, p13, hG⟩
    have O_D := OC.went hG
    clear hG OC
    obtain ⟨d0, d1, d2, d3, d4, d5, d6, d7, d8, d9⟩ :=  (hx2.below O_D.bel).ten
    go_wp2_with fail
    refine (O_D.buf.bytes_ok [] da dc (by simp; omega) (Ints.nil _ _ _)).mono ?_
    rintro e w14 ⟨rfl, p14, hG⟩
    have OF := O_D.went hG
    rw [List.append_nil] at OF
    clear d0 d1 d2 d3 d4 d5 d6 d7 d8 d9 hG O_D
    obtain ⟨l0, hl0⟩ : ∃ l0, hd ++ ob = l0 := ⟨_, rfl⟩
    have hl0l : l0.length = 4 + ob.length := by rw [← hl0, List.length_append, hl4]
    rw [hl0] at OF hx1
    have HX2 := hid hx1
    clear hx1 hl0 hn1 xl1
    have fin : ∀ w15 p15, BufOn w2 w15 gb mm p15 65528 xs [] 0 → True := fun _ _ _ => trivial
    by_cases hp0 : pd = 0
    · subst hp0
      have hev : Hid (l0.length % 8 = 0) := by show l0.length % 8 = 0; omega
      have hxe : xs = l0 := by rw [HX2.out]; simp
      rw [← hxe] at OF hev
      clear hl0l hxe
      go_wp2_with fail
      refine (OF.buf.even_same (n := 8) (by decide) (by decide) hev.out).mono ?_
      rintro e w15 ⟨rfl, rfl⟩
      go_wp2_with fail
      refine OF.buf.done_ok.mono ?_
      rintro e w16 ⟨rfl, hF⟩
      obtain ⟨ad', cp', he, hl, hc, hI⟩ := own_ints hF.own
      have he1 : ad' = some ⟨w14.heap.size, 0, none⟩ := by simpa using (congrArg (fun x => match x with | Value.slice a _ _ => a | _ => none) he).symm
      have HF := hid hF.bel
      have HI := hid hI
      have HE1 := hid he1
      have hsz := OF.bel.size
      have hsz2 := HW2.out.size
      clear he hl hc hI hF he1
      go_wp2_with fail
      go_ret2
      exact .inr ⟨xs, w14.heap.size, HN.out, rfl, below_on HW2.out (below_on OF.bel HF.out), by rw [← HE1.out]; exact HI.out, by omega⟩
    · have h1 : l0.length % 8 + pd = 8 := by omega
      have h2 : 0 < l0.length % 8 := by omega
      have h3 : l0.length + pd ≤ 65528 := by omega
      have EV := hid (OF.buf.even_ok (n := 8) (q := pd) (by decide) (by decide) (by omega) h1 h2 h3)
      clear h1 h2 h3 hl0l
      go_wp2_with fail
      refine EV.out.mono ?_
      rintro e w15 ⟨rfl, p15, hG⟩
      have OG := OF.went hG
      rw [← HX2.out] at OG
      clear hG OF EV
      go_wp2_with fail
      refine OG.buf.done_ok.mono ?_
      rintro e w16 ⟨rfl, hF⟩
      obtain ⟨ad', cp', he, hl, hc, hI⟩ := own_ints hF.own
      have he1 : ad' = some ⟨w15.heap.size, 0, none⟩ := by simpa using (congrArg (fun x => match x with | Value.slice a _ _ => a | _ => none) he).symm
      have HF := hid hF.bel
      have HI := hid hI
      have HE1 := hid he1
      have hsz := OG.bel.size
      have hsz2 := HW2.out.size
      clear he hl hc hI hF he1
      go_wp2_with fail
      go_ret2
      exact .inr ⟨xs, w15.heap.size, HN.out, rfl, below_on HW2.out (below_on OG.bel HF.out), by rw [← HE1.out]; exact HI.out, by omega⟩


theorem actEncode_any (g : Ent12) (w : World) (hi : ActIn w g) : Calls Tryz.prog 11 #[g.val] w (EncPost12 g w) := by
  cases h : act12 g.act with
  | none => exact encode12_no g w hi h
  | some x =>
    by_cases hT : g.T = 25
    · exact encode12_set g w hi x h hT
    · exact encode12_row g w hi x h hT
end Go.Proofs.YtdjlbejhphbcoaaGreat
namespace Go.Proofs.YtdjlbejhphbcoaaGreat
open Go.RowKit
set_option linter.unusedVariables false

set_option maxRecDepth 100000 in
set_option maxHeartbeats 2000000 in
theorem refRow12_any (t : Int) (w : World) : Calls Tryz.prog 59 #[.int .i64 t] w (RowPost12 (rowP t) (row12 t).isSome w) := by
  rcases type_ways t with rfl | rfl | rfl | rfl | rfl | rfl | rfl | rfl | rfl | rfl | rfl | rfl | rfl | rfl | rfl | rfl | rfl | h

  · exact row_lit (l := [4, 2, -6]) (by kernel_rfl)
  · exact row_lit (l := [-4]) (by kernel_rfl)
  · exact row_lit (l := [-4]) (by kernel_rfl)
  · exact row_lit (l := [1, -3]) (by kernel_rfl)
  · exact row_lit (l := [-4]) (by kernel_rfl)
  · exact row_lit (l := [2, -2]) (by kernel_rfl)
  · exact row_lit (l := [-4]) (by kernel_rfl)
  · exact row_lit (l := [2, -2]) (by kernel_rfl)
  · exact row_lit (l := [2, -2]) (by kernel_rfl)
  · exact row_lit (l := [4]) (by kernel_rfl)
  · exact row_lit (l := [4]) (by kernel_rfl)
  · exact row_lit (l := [1, -3]) (by kernel_rfl)
  · exact row_lit (l := [-4]) (by kernel_rfl)
  · have e1 : rowP 25 = [] := by decide
    have e2 : (row12 25).isSome = false := by decide
    rw [e1, e2]
    exact row_none (by kernel_rfl)
  · exact row_lit (l := [2, -2]) (by kernel_rfl)
  · exact row_lit (l := [-4]) (by kernel_rfl)
  · exact row_lit (l := [4]) (by kernel_rfl)
  · have e1 : rowP t = [] := by simp [rowP, row12, h]
    have e2 : (row12 t).isSome = false := by simp [row12, h]
    rw [e1, e2]
    have c0 : (t == 0) = false := by simp [h]
    have c1 : (t == 11) = false := by simp [h]
    have c2 : (t == 12) = false := by simp [h]
    have c3 : (t == 15) = false := by simp [h]
    have c4 : (t == 16) = false := by simp [h]
    have c5 : (t == 17) = false := by simp [h]
    have c6 : (t == 18) = false := by simp [h]
    have c7 : (t == 19) = false := by simp [h]
    have c8 : (t == 20) = false := by simp [h]
    have c9 : (t == 21) = false := by simp [h]
    have c10 : (t == 22) = false := by simp [h]
    have c11 : (t == 23) = false := by simp [h]
    have c12 : (t == 24) = false := by simp [h]
    have c13 : (t == 26) = false := by simp [h]
    have c14 : (t == 27) = false := by simp [h]
    have c15 : (t == 65535) = false := by simp [h]
    clear h e1 e2
    go_enter Tryz.func59, Tryz.ntmps59
    go_wp2_with fail
    go_ret2
    exact ⟨none, rfl, Ints.nil _ _ _, Below.refl _ _⟩

set_option maxRecDepth 100000 in
set_option maxHeartbeats 2000000 in
theorem asked_out_no (t n : Int) (w : World) (hT : t = 0) (hA : n = 0) :
    Calls Tryz.prog 62 #[.int .i64 t, .int .u64 n] w fun e w' => e = .returned (.int .i64 (asked12 t n)) ∧ w' = w := by
  have hq : asked12 t n = 517 := by simp [asked12, hT, hA]
  rw [hq]
  clear hq
  subst hT
  subst hA
  go_enter Tryz.func62, Tryz.ntmps62
  go_wp2_with fail
  go_ret
  exact ⟨rfl, rfl⟩

set_option maxRecDepth 100000 in
set_option maxHeartbeats 2000000 in
theorem asked_out_yes (t n : Int) (w : World) (hT : t = 0) (hA : n ≠ 0) :
    Calls Tryz.prog 62 #[.int .i64 t, .int .u64 n] w fun e w' => e = .returned (.int .i64 (asked12 t n)) ∧ w' = w := by
  have hq : asked12 t n = 0 := by simp [asked12, hT, hA]
  rw [hq]
  clear hq
  subst hT
  have c : (n == 0) = false := by simpa using hA
  clear hA
  go_enter Tryz.func62, Tryz.ntmps62
  go_wp2_with fail
  go_ret
  exact ⟨rfl, rfl⟩

set_option maxRecDepth 100000 in
set_option maxHeartbeats 2000000 in
theorem asked_grp_no (t n : Int) (w : World) (hT : t = 22) (hA : 4294967040 < n) :
    Calls Tryz.prog 62 #[.int .i64 t, .int .u64 n] w fun e w' => e = .returned (.int .i64 (asked12 t n)) ∧ w' = w := by
  have hq : asked12 t n = 522 := by simp [asked12, hT, hA]
  rw [hq]
  clear hq
  subst hT
  go_enter Tryz.func62, Tryz.ntmps62
  go_wp2_with fail
  go_ret
  exact ⟨rfl, rfl⟩

set_option maxRecDepth 100000 in
set_option maxHeartbeats 2000000 in
theorem asked_grp_yes (t n : Int) (w : World) (hT : t = 22) (hA : ¬ 4294967040 < n) :
    Calls Tryz.prog 62 #[.int .i64 t, .int .u64 n] w fun e w' => e = .returned (.int .i64 (asked12 t n)) ∧ w' = w := by
  have hq : asked12 t n = 0 := by simp [asked12, hT, hA]
  rw [hq]
  clear hq
  subst hT
  go_enter Tryz.func62, Tryz.ntmps62
  go_wp2_with fail
  go_ret
  exact ⟨rfl, rfl⟩

set_option maxRecDepth 100000 in
set_option maxHeartbeats 2000000 in
theorem asked_vlan_a (t n : Int) (w : World) (hT : t = 17) (hA : n = 33024) :
    Calls Tryz.prog 62 #[.int .i64 t, .int .u64 n] w fun e w' => e = .returned (.int .i64 (asked12 t n)) ∧ w' = w := by
  have hq : asked12 t n = 0 := by simp [asked12, hT, hA]
  rw [hq]
  clear hq
  subst hT
  subst hA
  go_enter Tryz.func62, Tryz.ntmps62
  go_wp2_with fail
  go_ret
  exact ⟨rfl, rfl⟩

set_option maxRecDepth 100000 in
set_option maxHeartbeats 2000000 in
theorem asked_vlan_b (t n : Int) (w : World) (hT : t = 17) (hA : n = 34984) :
    Calls Tryz.prog 62 #[.int .i64 t, .int .u64 n] w fun e w' => e = .returned (.int .i64 (asked12 t n)) ∧ w' = w := by
  have hq : asked12 t n = 0 := by simp [asked12, hT, hA]
  rw [hq]
  clear hq
  subst hT
  subst hA
  go_enter Tryz.func62, Tryz.ntmps62
  go_wp2_with fail
  go_ret
  exact ⟨rfl, rfl⟩

set_option maxRecDepth 100000 in
set_option maxHeartbeats 2000000 in
theorem asked_vlan_no (t n : Int) (w : World) (hT : t = 17) (hA : n ≠ 33024) (hA2 : n ≠ 34984) :
    Calls Tryz.prog 62 #[.int .i64 t, .int .u64 n] w fun e w' => e = .returned (.int .i64 (asked12 t n)) ∧ w' = w := by
  have hq : asked12 t n = 518 := by simp [asked12, hT, hA, hA2]
  rw [hq]
  clear hq
  subst hT
  have c : (n != 33024) = true := by simpa using hA
  have c2 : (n != 34984) = true := by simpa using hA2
  clear hA hA2
  go_enter Tryz.func62, Tryz.ntmps62
  go_wp2_with fail
  go_ret
  exact ⟨rfl, rfl⟩

set_option maxRecDepth 100000 in
set_option maxHeartbeats 2000000 in
theorem asked_mpls_a (t n : Int) (w : World) (hT : t = 19) (hA : n = 34887) :
    Calls Tryz.prog 62 #[.int .i64 t, .int .u64 n] w fun e w' => e = .returned (.int .i64 (asked12 t n)) ∧ w' = w := by
  have hq : asked12 t n = 0 := by simp [asked12, hT, hA]
  rw [hq]
  clear hq
  subst hT
  subst hA
  go_enter Tryz.func62, Tryz.ntmps62
  go_wp2_with fail
  go_ret
  exact ⟨rfl, rfl⟩

set_option maxRecDepth 100000 in
set_option maxHeartbeats 2000000 in
theorem asked_mpls_b (t n : Int) (w : World) (hT : t = 19) (hA : n = 34888) :
    Calls Tryz.prog 62 #[.int .i64 t, .int .u64 n] w fun e w' => e = .returned (.int .i64 (asked12 t n)) ∧ w' = w := by
  have hq : asked12 t n = 0 := by simp [asked12, hT, hA]
  rw [hq]
  clear hq
  subst hT
  subst hA
  go_enter Tryz.func62, Tryz.ntmps62
  go_wp2_with fail
  go_ret
  exact ⟨rfl, rfl⟩

set_option maxRecDepth 100000 in
set_option maxHeartbeats 2000000 in
theorem asked_mpls_no (t n : Int) (w : World) (hT : t = 19) (hA : n ≠ 34887) (hA2 : n ≠ 34888) :
    Calls Tryz.prog 62 #[.int .i64 t, .int .u64 n] w fun e w' => e = .returned (.int .i64 (asked12 t n)) ∧ w' = w := by
  have hq : asked12 t n = 518 := by simp [asked12, hT, hA, hA2]
  rw [hq]
  clear hq
  subst hT
  have c : (n != 34887) = true := by simpa using hA
  have c2 : (n != 34888) = true := by simpa using hA2
  clear hA hA2
  go_enter Tryz.func62, Tryz.ntmps62
  go_wp2_with fail
  go_ret
  exact ⟨rfl, rfl⟩

set_option maxRecDepth 100000 in
set_option maxHeartbeats 2000000 in
theorem asked_pbb_a (t n : Int) (w : World) (hT : t = 26) (hA : n = 35047) :
    Calls Tryz.prog 62 #[.int .i64 t, .int .u64 n] w fun e w' => e = .returned (.int .i64 (asked12 t n)) ∧ w' = w := by
  have hq : asked12 t n = 0 := by simp [asked12, hT, hA]
  rw [hq]
  clear hq
  subst hT
  subst hA
  go_enter Tryz.func62, Tryz.ntmps62
  go_wp2_with fail
  go_ret
  exact ⟨rfl, rfl⟩

set_option maxRecDepth 100000 in
set_option maxHeartbeats 2000000 in
theorem asked_pbb_no (t n : Int) (w : World) (hT : t = 26) (hA : n ≠ 35047) :
    Calls Tryz.prog 62 #[.int .i64 t, .int .u64 n] w fun e w' => e = .returned (.int .i64 (asked12 t n)) ∧ w' = w := by
  have hq : asked12 t n = 518 := by simp [asked12, hT, hA]
  rw [hq]
  clear hq
  subst hT
  have c : (n != 35047) = true := by simpa using hA
  clear hA
  go_enter Tryz.func62, Tryz.ntmps62
  go_wp2_with fail
  go_ret
  exact ⟨rfl, rfl⟩

set_option maxRecDepth 100000 in
set_option maxHeartbeats 2000000 in
theorem asked_else (t n : Int) (w : World) (hT : t ≠ 0 ∧ t ≠ 22 ∧ t ≠ 17 ∧ t ≠ 19 ∧ t ≠ 26) :
    Calls Tryz.prog 62 #[.int .i64 t, .int .u64 n] w fun e w' => e = .returned (.int .i64 (asked12 t n)) ∧ w' = w := by
  have hq : asked12 t n = 0 := by simp [asked12, hT]
  rw [hq]
  clear hq
  obtain ⟨h0, h1, h2, h3, h4⟩ := hT
  have c0 : (t == 0) = false := by simpa using h0
  have c1 : (t == 22) = false := by simpa using h1
  have c2 : (t == 17) = false := by simpa using h2
  have c3 : (t == 19) = false := by simpa using h3
  have c4 : (t == 26) = false := by simpa using h4
  clear h0 h1 h2 h3 h4
  go_enter Tryz.func62, Tryz.ntmps62
  go_wp2_with fail
  go_ret
  exact ⟨rfl, rfl⟩

theorem refAsked_any (t n : Int) (w : World) : Calls Tryz.prog 62 #[.int .i64 t, .int .u64 n] w fun e w' => e = .returned (.int .i64 (asked12 t n)) ∧ w' = w := by
  rcases (show t = 0 ∨ t = 22 ∨ t = 17 ∨ t = 19 ∨ t = 26 ∨ (t ≠ 0 ∧ t ≠ 22 ∧ t ≠ 17 ∧ t ≠ 19 ∧ t ≠ 26) by omega) with h | h | h | h | h | h
  · by_cases hA : n = 0
    · exact asked_out_no t n w h hA
    · exact asked_out_yes t n w h hA
  · by_cases hA : 4294967040 < n
    · exact asked_grp_no t n w h hA
    · exact asked_grp_yes t n w h hA
  · by_cases hA : n = 33024
    · exact asked_vlan_a t n w h hA
    · by_cases hA2 : n = 34984
      · exact asked_vlan_b t n w h hA2
      · exact asked_vlan_no t n w h hA hA2
  · by_cases hA : n = 34887
    · exact asked_mpls_a t n w h hA
    · by_cases hA2 : n = 34888
      · exact asked_mpls_b t n w h hA2
      · exact asked_mpls_no t n w h hA hA2
  · by_cases hA : n = 35047
    · exact asked_pbb_a t n w h hA
    · exact asked_pbb_no t n w h hA
  · exact asked_else t n w h
set_option maxRecDepth 100000 in
set_option maxHeartbeats 2000000 in
theorem refNums_at (T A B C F : Int) (H : Bool) (X : Int) (va : Option Addr) (vl vc : Nat) (ma : Option Addr) (ml mc : Nat) (da : Option Addr) (dl dc : Nat) (l : List Int) (a : Option Addr) (c : Nat) (k : Nat) (hk : countW l = k) (hk2 : k ≤ 2) (hl : l.length ≤ 64) (w : World) (hI : Ints .i64 w a l) :
    Calls Tryz.prog 87 #[.agg #[.int .i64 T, .int .u64 A, .int .u64 B, .int .i64 C, .int .i64 F, .bool H, .int .u64 X, .slice va vl vc, .slice ma ml mc, .slice da dl dc], .slice a l.length c] w fun e w' => ∃ b, e = .returned (.slice b k 2) ∧ Ints .u64 w' b ([A, B].take k) ∧ Below w.heap.size w w' := by
  obtain ⟨W, hW, hbW, hx⟩ := act_box w T A B C F H X va vl vc ma ml mc da dl dc
  have HW := hid hW
  have HB := hid hbW
  have CO := hid (fun (V : World) (hV : Below W.heap.size W V) => refCount_any l a c V (by omega) ((hI.below HB.out).below hV))
  rw [hk] at CO
  have hk0 : (0 : Int) ≤ k := by omega
  have hk3 : (k : Int) ≤ 2 := by omega
  clear hW hbW hI hk
  obtain ⟨d0, d1, d2, d3, d4, d5, d6, d7, d8, d9⟩ := hx.ten
  go_enter Tryz.func87, Tryz.ntmps87
  go_wp2_with fail
  rw [HW.out]
  go_wp2_with fail
  refine (CO.out _ (below_alloc W _)).mono ?_
  rintro e w' ⟨rfl, rfl⟩
  go_wp2_with fail
  go_ret
  have hws : W.heap.size = w.heap.size + 1 := by rw [← HW.out]; simp
  exact ⟨_, rfl, (lit_at .u64 [A, B] (e := 22) (Below.refl (W.alloc _).heap.size (W.alloc _)) hws rfl).take k, below_on HB.out (below_alloc _ _)⟩
end Go.Proofs.YtdjlbejhphbcoaaGreat
namespace Go.Proofs.YtdjlbejhphbcoaaGreat
open Go.RowKit
set_option linter.unusedVariables false

set_option maxRecDepth 100000 in
set_option maxHeartbeats 1000000 in
theorem ref8Bytes_own (C F : Int) (H : Bool) (X : Int) (va : Option Addr) (vc : Nat) (ma : Option Addr) (mc : Nat) (v m : List Int) (hv : v.length ≤ 1000) (hm : m.length ≤ 1000) (hmc : m.length ≤ mc) (ov : Octets v) (om : Octets m) (w : World) (iv : Ints .u8 w va v) (im : Ints .u8 w ma m) (hC : C = 32768) (ft : Facts8 C F H X v m) :
    Calls Tryz.prog 86 #[.agg #[.int .i64 C, .int .i64 F, .bool H, .int .u64 X, .slice va v.length vc, .slice ma m.length mc]] w fun e w' => ∃ ad cp, e = .returned (.slice ad (oxmBytes C F H X v m).length cp) ∧ Fresh 5 w w' (.slice ad (oxmBytes C F H X v m).length cp) ((oxmBytes C F H X v m).map (Value.int .u8)) := by
  obtain ⟨W, hW, hbW, hbox⟩ := oxm_box w C F H X va v.length vc ma m.length mc
  have HW := hid hW
  have HB := hid hbW
  obtain ⟨d0, d1, d2, d3, d4, d5⟩ := hbox.six
  have IV := hid (iv.below hbW)
  have IM := hid (im.below hbW)
  clear hW hbW iv im
  subst hC
  have hv1 := ft.v1
  have hf0 := ft.f0
  have hf1 := ft.f1
  have hm1 : m.length ≤ 100 := by rw [ft.len]; cases H <;> simp [maskZ] <;> omega
  obtain ⟨b, hbb⟩ : ∃ b, expL 32768 X = b := ⟨_, rfl⟩
  have hb0 : b = [] := by rw [← hbb]; simp [expL]
  have hF0 : Fresh 5 W W.drew (.slice none 0 0) (b.map (Value.int .u8)) := by
    subst hb0
    exact ⟨own_nilI _ _ _, below_drew8 W, fun g h => by simp [Value.ownBlock] at h⟩
  have hb4 : b.length ≤ 4 := by subst hb0; decide
  have HBB := hid hbb
  have HB0 := hid hb0
  clear hbb hb0
  go_enter Tryz.func86, Tryz.ntmps86
  go_wp2_with fail
  rw [HW.out]
  go_upto_region 4 with fail
  go_region_held3 (fun w' => w'.cell? ⟨w.heap.size, 4, none⟩ = some (.slice va v.length vc) ∧ w'.cell? ⟨w.heap.size, 5, none⟩ = some (.slice ma m.length mc)) (go_keep) (first
    | (refine step_app rfl _ _ rfl elemU8 rfl hF0.own rfl rfl (IV.out.below (below_drew8 W)) ?_ ?_ ?_; (simp; omega); (simp; omega); intro v4 w4 hg4; have hF1 := hF0.step hg4; rw [← List.map_append] at hF1; obtain ⟨e0, e1, e2, e3, e4, e5⟩ := (hbox.below hF1.bel).six)
    | (refine step_app rfl _ _ rfl elemU8 rfl hF1.own rfl rfl (IM.out.below hF1.bel) ?_ ?_ ?_; (simp; omega); (simp; omega); intro v5 w5 hg5; have hF2 := hF1.step hg5; rw [← List.map_append] at hF2; obtain ⟨e0, e1, e2, e3, e4, e5⟩ := (hbox.below hF2.bel).six)
    | fail)
  obtain ⟨a5, c5, rfl, _, _, hI5⟩ := own_ints hF2.own
  have hbl : (b ++ v ++ m).length = behind8 32768 v.length m.length := by rw [HB0.out]; simp [behind8]
  have hk := ft.most
  have HO : Hid (oxmBytes 32768 F H X v m = headL 32768 F H (behind8 32768 v.length m.length) ++ (b ++ v ++ m)) := by rw [← HBB.out]; simp [oxmBytes, Hid]
  obtain ⟨k, hkk⟩ : ∃ k, behind8 32768 v.length m.length = k := ⟨_, rfl⟩
  rw [hkk] at hbl hk HO
  obtain ⟨bd, hbd⟩ : ∃ bd, b ++ v ++ m = bd := ⟨_, rfl⟩
  rw [hbd] at hbl hI5 hF2 HO
  rw [hbl] at hF2
  have hbelow := hF2.bel
  rw [hbd, hbl]
  have hk2 : (k : Int) ≤ 204 := by omega
  have HKB := hid hbl
  have HI5 := hid hI5
  have HF2 := hid hbelow
  clear hbl hk hkk hbd hF2 hF1 hF0 hg4 hg5 e0 e1 e2 e3 e4 e5 d0 d1 d2 d3 d4 d5 hb4 HBB HB0 hm1 hv1 hI5
  obtain ⟨d0, d1, d2, d3, d4, d5⟩ := (hbox.below hbelow).six
  clear hbelow
  have HC := fun W => num_any 32768 2 W (by decide)
  obtain ⟨l2, hl2⟩ : ∃ l, bytesL 32768 2 = l := ⟨_, rfl⟩
  rw [hl2] at HC
  have HC := hid HC
  have HL2 := hid hl2
  clear hl2
  cases H
  · have HY : Hid (l2 ++ [2 * F, (k : Int)] = headL 32768 F false k) := by
      rw [← HL2.out]
      simp [headL, bytesL, fieldN, byteAt, p256, Hid]
      omega
    obtain ⟨l4, hl4⟩ : ∃ l, headL 32768 F false k = l := ⟨_, rfl⟩
    have h4 := headL_length 32768 F false k
    rw [hl4] at HY HO h4
    obtain ⟨xs, hxs⟩ : ∃ l, l4 ++ bd = l := ⟨_, rfl⟩
    have hx4 : xs.length ≤ 208 := by rw [← hxs, List.length_append, h4, HKB.out]; omega
    rw [hxs] at HO
    have HZ := hid hxs
    have H4 := hid h4
    have HX := hid hx4
    clear hxs h4 hl4 hx4
    go_wp2_with fail
    refine (HC.out _).mono ?_
    rintro e w6 ⟨v6, rfl, hF6⟩
    obtain ⟨a6, c6, rfl, _, _, hI6⟩ := own_ints hF6.own
    have hFA := hid (fun o => hF6.behind (by_none_alloc w6 o))
    clear hF6 hI6
    go_wp2_with (at_builtin; (first
      | (refine wp_app_ints rfl _ _ rfl elemU8 rfl (hFA.out _).own rfl (l := [2 * F, (k : Int)]) rfl (ints_lit .u8 w6 [2 * F, (k : Int)] _) HY.out (by rw [H4.out]; decide) (by rw [H4.out]; decide) ?_; intro a7 c7 w7 hl7 hc7 hI7 hg7; have hF7 := (hFA.out _).step hg7)
      | (refine wp_app_ints rfl _ _ rfl elemU8 rfl hF7.own rfl HKB.out.symm (HI5.out.below hF7.bel) HZ.out (by have := HX.out; omega) (by have := HX.out; omega) ?_; intro a8 c8 w8 hl8 hc8 hI8 hg8; have hF8 := hF7.step hg8)
      | fail))
    go_ret
    rw [HO.out]
    exact ⟨a8, c8, rfl, Fresh.made (below_by_none (below_on HB.out HF2.out)) hF8⟩
  · have HY : Hid (l2 ++ [2 * F + 1, (k : Int)] = headL 32768 F true k) := by
      rw [← HL2.out]
      simp [headL, bytesL, fieldN, byteAt, p256, Hid]
      omega
    obtain ⟨l4, hl4⟩ : ∃ l, headL 32768 F true k = l := ⟨_, rfl⟩
    have h4 := headL_length 32768 F true k
    rw [hl4] at HY HO h4
    obtain ⟨xs, hxs⟩ : ∃ l, l4 ++ bd = l := ⟨_, rfl⟩
    have hx4 : xs.length ≤ 208 := by rw [← hxs, List.length_append, h4, HKB.out]; omega
    rw [hxs] at HO
    have HZ := hid hxs
    have H4 := hid h4
    have HX := hid hx4
    clear hxs h4 hl4 hx4
    go_wp2_with fail
    refine (HC.out _).mono ?_
    rintro e w6 ⟨v6, rfl, hF6⟩
    obtain ⟨a6, c6, rfl, _, _, hI6⟩ := own_ints hF6.own
    have hFA := hid (fun o => hF6.behind (by_none_alloc w6 o))
    clear hF6 hI6
    go_wp2_with (at_builtin; (first
      | (refine wp_app_ints rfl _ _ rfl elemU8 rfl (hFA.out _).own rfl (l := [2 * F + 1, (k : Int)]) rfl (ints_lit .u8 w6 [2 * F + 1, (k : Int)] _) HY.out (by rw [H4.out]; decide) (by rw [H4.out]; decide) ?_; intro a7 c7 w7 hl7 hc7 hI7 hg7; have hF7 := (hFA.out _).step hg7)
      | (refine wp_app_ints rfl _ _ rfl elemU8 rfl hF7.own rfl HKB.out.symm (HI5.out.below hF7.bel) HZ.out (by have := HX.out; omega) (by have := HX.out; omega) ?_; intro a8 c8 w8 hl8 hc8 hI8 hg8; have hF8 := hF7.step hg8)
      | fail))
    go_ret
    rw [HO.out]
    exact ⟨a8, c8, rfl, Fresh.made (below_by_none (below_on HB.out HF2.out)) hF8⟩
end Go.Proofs.YtdjlbejhphbcoaaGreat
