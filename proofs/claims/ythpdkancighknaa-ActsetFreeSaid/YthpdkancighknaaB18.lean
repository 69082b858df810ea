/- Put together out of several texts. -/
import Derived.Test.YthpdkancighknaaB10
import Derived.Test.YthpdkancighknaaB3
import Derived.Test.YthpdkancighknaaB12
namespace Go.Proofs.Ythpdkancighknaa
open Go.RowKit
set_option linter.unusedVariables false
def CopyPost12 (g:Ent12) (w:World) (e:Ending) (w':World):Prop:=
 ∃p q s,e = .returned (.agg #[.int .i64 g.T,.int .u64 g.A,.int .u64 g.B,.int .i64 g.o.C,.int .i64 g.o.F,.bool g.o.H,.int .u64 g.o.X,.slice (some ⟨p,0,none⟩) g.o.v.length g.o.v.length,.slice (some ⟨q,0,none⟩) g.o.m.length g.o.m.length,.slice (some ⟨s,0,none⟩) g.d.length g.d.length])∧Below w.heap.size w w' ∧
  Fresh 5 w w' (.slice (some ⟨p,0,none⟩) g.o.v.length g.o.v.length) (g.o.v.map (Value.int .u8))∧Fresh 5 w w' (.slice (some ⟨q,0,none⟩) g.o.m.length g.o.m.length) (g.o.m.map (Value.int .u8))∧Fresh 5 w w' (.slice (some ⟨s,0,none⟩) g.d.length g.d.length) (g.d.map (Value.int .u8))∧s<p∧p<q∧w.heap.size≤s
set_option maxRecDepth 100000 in
set_option maxHeartbeats 2000000 in
theorem actCopy_any (g:Ent12) (w:World) (hi:ActIn w g):Calls Try.prog 25 #[g.val] w (CopyPost12 g w):=by
 obtain⟨W,hW,hbW,hx,hy⟩:=two_act w g.T g.A g.B g.o.C g.o.F g.o.H g.o.X g.va g.o.v.length g.vc g.ma g.o.m.length g.mc g.da g.d.length g.dc 0 0 0 0 0 false 0 none 0 0 none 0 0 none 0 0
 have HW:=hid hW
 have HB:=hid hbW
 have ID:=hid (hi.id.below hbW)
 have ld:=hi.ld
 have CP:=hid (fun (n:Wk W)=>copy8_any g.o.C g.o.F g.o.H g.o.X g.va g.vc g.ma g.mc g.o.v g.o.m hi.lv hi.lm n.val ((hi.iv.below HB.out).below n.bel) ((hi.im.below HB.out).below n.bel))
 clear hi hW hbW
 obtain⟨T,A,B,⟨C,F,H,X,v,m⟩,va,vc,ma,mc,d,da,dc⟩:=g
 simp only at *
 unfold Ent12.val
 simp only
 obtain⟨d0,d1,d2,d3,d4,d5,d6,d7,d8,d9⟩:=hx.ten
 have sW:w.heap.size+1<W.heap.size:=hy.lt
 go_enter Try.func25,Try.ntmps25
 go_upto_region 1 with fail
 rw[HW.out]
 go_wp2_with (first
  | (at_make;refine wp_make rfl _ _ rfl elemU8 rfl rfl rfl rfl (Nat.le_refl _) (by omega) (by omega) ?_;intro w1 hf;obtain⟨e0,e1,e2,e3,e4,e5,e6,e7,e8,e9⟩:=(hx.below hf.bel).ten)
  | (with_reducible refine wp_copy_all rfl (.tmp 8) (.tmp 10) rfl elemU8 rfl rfl (List.length_replicate ..) hf rfl (ID.out.below hf.bel) ?_;intro w2 hf2;obtain⟨f0,f1,f2,f3,f4,f5,f6,f7,f8,f9⟩:=(hx.below hf2.bel).ten))
 refine (CP.out ⟨_,hf2.bel⟩).mono ?_
 rintro e w3 ⟨p,q,rfl,hb3,hfp,hfq,hpq,hp⟩
 replace hp:w2.heap.size≤p:=hp
 replace hb3:Below w2.heap.size w2 w3:=hb3
 replace hfp:Fresh 5 w2 w3 (.slice (some ⟨p,0,none⟩) v.length v.length) (v.map (Value.int .u8)):=hfp
 replace hfq:Fresh 5 w2 w3 (.slice (some ⟨q,0,none⟩) m.length m.length) (m.map (Value.int .u8)):=hfq
 have hx3:=(hx.below hf2.bel).below hb3
 have hy3:=(hy.below hf2.bel).below hb3
 have hs3:=hid (hf2.behind (below_by_none hb3))
 have HF2:=hid hf2
 have sp:W.heap.size<p:=by have:=own_lt8 hf2;omega
 have HFP:=hid hfp
 have HFQ:=hid hfq
 have HB3:=hid hb3
 clear d0 d1 d2 d3 d4 d5 d6 d7 d8 d9 e0 e1 e2 e3 e4 e5 e6 e7 e8 e9 f0 f1 f2 f3 f4 f5 f6 f7 f8 f9 hf hf2 hx hy hb3 hfp hfq
 obtain⟨d0,d1,d2,d3,d4,d5,d6,d7,d8,d9⟩:=hx3.ten
 have zx:=hx3.free
 go_upto_region 4 with fail
 have n1:¬w.heap.size=w.heap.size+1:=by omega
 have n2:¬w.heap.size+1=w.heap.size:=by omega
 have hX:=((((((hx3.set 3 (.int .i64 C) (by simp)).set 4 (.int .i64 F) (by simp)).set 5 (.bool H) (by simp)).set 6 (.int .u64 X) (by simp)).set 7 (.slice (some ⟨p,0,none⟩) v.length v.length) (by simp)).set 8 (.slice (some ⟨q,0,none⟩) m.length m.length) (by simp)).set 9 (.slice (some ⟨W.heap.size,0,none⟩) d.length d.length) (by simp)
 have hY:=((((((hy3.far (c:=w.heap.size) (i:=3) (.int .i64 C) n1).far (c:=w.heap.size) (i:=4) (.int .i64 F) n1).far (c:=w.heap.size) (i:=5) (.bool H) n1).far (c:=w.heap.size) (i:=6) (.int .u64 X) n1).far (c:=w.heap.size) (i:=7) (.slice (some ⟨p,0,none⟩) v.length v.length) n1).far (c:=w.heap.size) (i:=8) (.slice (some ⟨q,0,none⟩) m.length m.length) n1).far (c:=w.heap.size) (i:=9) (.slice (some ⟨W.heap.size,0,none⟩) d.length d.length) n1
 have hbS:Hid (Below w3.heap.size w3 w3):=Below.refl _ _
 clear d0 d1 d2 d3 d4 d5 d6 d7 d8 d9 zx hx3 hy3
 obtain⟨d0,d1,d2,d3,d4,d5,d6,d7,d8,d9⟩:=hX.ten
 obtain⟨e0,e1,e2,e3,e4,e5,e6,e7,e8,e9⟩:=hY.ten
 have zY:=hY.free
 go_wp2_with fail
 have hk:=hY.set10 (.int .i64 T) (.int .u64 A) (.int .u64 B) (.int .i64 C) (.int .i64 F) (.bool H) (.int .u64 X) (.slice (some ⟨p,0,none⟩) v.length v.length) (.slice (some ⟨q,0,none⟩) m.length m.length) (.slice (some ⟨W.heap.size,0,none⟩) d.length d.length)
 obtain⟨k0,k1,k2,k3,k4,k5,k6,k7,k8,k9⟩:=hk.ten
 refine bodyPost_ret (v:=.agg #[.int .i64 T,.int .u64 A,.int .u64 B,.int .i64 C,.int .i64 F,.bool H,.int .u64 X,.slice (some ⟨p,0,none⟩) v.length v.length,.slice (some ⟨q,0,none⟩) m.length m.length,.slice (some ⟨W.heap.size,0,none⟩) d.length d.length]) (by simp[results,Try.results25,go_sem,k0,k1,k2,k3,k4,k5,k6,k7,k8,k9]) rfl ⟨p,q,W.heap.size,rfl,?_,?_,?_,?_,sp,hpq,by omega⟩
 · repeat (with_reducible refine Below.setCell ?_ (by simp) _)
   exact below_on HB.out (below_on HF2.out.bel HB3.out)
 · repeat (refine Fresh.turn ?_ (by_setCell _ _ _ _) (by simp[Value.ownBlock];omega) (by omega))
   exact Fresh.made (below_by_none (below_on HB.out HF2.out.bel)) HFP.out
 · repeat (refine Fresh.turn ?_ (by_setCell _ _ _ _) (by simp[Value.ownBlock];omega) (by omega))
   exact Fresh.made (below_by_none (below_on HB.out HF2.out.bel)) HFQ.out
 · repeat (refine Fresh.turn ?_ (by_setCell _ _ _ _) (by simp[Value.ownBlock];omega) (by omega))
   exact (Fresh.made (below_by_none HB.out) HF2.out).behind (below_by_none HB3.out)
def EncPost12 (g:Ent12) (w:World) (e:Ending) (w':World):Prop:=
 (act12 g.act=none∧e = .returned (.tuple #[.slice none 0 0,.int .i64 10001])∧Below w.heap.size w w') ∨
 (∃x p,act12 g.act=some x∧e = .returned (.tuple #[.slice (some ⟨p,0,none⟩) x.length x.length,.int .i64 0])∧Below w.heap.size w w'∧Ints .u8 w' (some ⟨p,0,none⟩) x∧w.heap.size≤p)
def head12 (t:Int) (n:Nat):List Int:=bytesL t 2++(bytesL (n:Int) 2 ++ [])
end Go.Proofs.Ythpdkancighknaa
