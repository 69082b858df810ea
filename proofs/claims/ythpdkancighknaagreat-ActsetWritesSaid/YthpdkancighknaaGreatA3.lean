/- Put together out of several texts. -/
import Derived.Test.YthpdkancighknaaGreatA2
import Derived.Test.YthpdkancighknaaGreatA4
import Derived.Test.YthpdkancighknaaGreatA5
import Derived.WalkSmall
import Derived.Test.YthpdkancighknaaGreatA6
import Derived.Deep.RegionHeld3
import Derived.Deep.DeepCutAuto
import Derived.Test.YthpdkancighknaaGreatA1
import Derived.OpenShut
import Derived.ProofKit
import Derived.Deep.Slices
import Derived.Laws.BytesArg
import Derived.Deep.RegionWith
namespace Go.Proofs.YthpdkancighknaaGreat
open Go.RowKit
set_option linter.unusedVariables false
theorem oxm_box (w:World) (C F:Int) (H:Bool) (X:Int) (va:Option Addr) (vl vc:Nat) (ma:Option Addr) (ml mc:Nat):∃W,w.alloc (.cells #[.int .i64 C,.int .i64 F,.bool H,.int .u64 X,.slice va vl vc,.slice ma ml mc] 35)=W∧Below w.heap.size w W∧BoxL W w.heap.size [.int .i64 C,.int .i64 F,.bool H,.int .u64 X,.slice va vl vc,.slice ma ml mc]:=
 ⟨_,rfl,below_alloc _ _,BoxL.new _ _ _⟩
def room8 (C F X:Int):Bool:=if C=65535 then decide (0≤F∧F≤127∧X≤4294967295) else decide (X=0)
def maskZ (H:Bool) (vl:Nat):Nat:=if H then vl else 0
def pieces8 (H:Bool):Nat:=if H then 2 else 1
def behind8 (C:Int) (vl ml:Nat):Nat:=if C=65535 then vl+ml+4 else vl+ml
theorem hasRoom8_any (C F:Int) (H:Bool) (X:Int) (va:Option Addr) (vl vc:Nat) (ma:Option Addr) (ml mc:Nat) (w:World):
 Calls Tryz.prog 87 #[.agg #[.int .i64 C,.int .i64 F,.bool H,.int .u64 X,.slice va vl vc,.slice ma ml mc]] w fun e w'=>e = .returned (.bool (room8 C F X))∧Below w.heap.size w w':=by
 by_cases h:C=65535
 · subst h
   by_cases h0 : 0≤F
   · by_cases h1:F≤127
     · have e:room8 65535 F X=decide (X≤4294967295):=by simp[room8,h0,h1]
       rw[e]
       clear e
       go_enter Tryz.func87,Tryz.ntmps87
       go_wp2
       go_ret
       exact⟨rfl,below_alloc _ _⟩
     · have e:room8 65535 F X=false:=by simp[room8,h1]
       rw[e]
       clear e
       go_enter Tryz.func87,Tryz.ntmps87
       go_wp2
       go_ret
       exact⟨rfl,below_alloc _ _⟩
   · have e:room8 65535 F X=false:=by simp[room8,h0]
     rw[e]
     clear e
     go_enter Tryz.func87,Tryz.ntmps87
     go_wp2
     go_ret
     exact⟨rfl,below_alloc _ _⟩
 · have e:room8 C F X=(X==0):=by simp only[room8,if_neg h];by_cases h4:X=0<;>simp[h4]
   have e0:(C==65535)=false:=by simpa using h
   rw[e]
   clear e h
   go_enter Tryz.func87,Tryz.ntmps87
   go_wp2
   go_ret
   exact⟨rfl,below_alloc _ _⟩
theorem maskSize_any (C F:Int) (H:Bool) (X:Int) (va:Option Addr) (vl vc:Nat) (ma:Option Addr) (ml mc:Nat) (w:World):
 Calls Tryz.prog 88 #[.agg #[.int .i64 C,.int .i64 F,.bool H,.int .u64 X,.slice va vl vc,.slice ma ml mc]] w fun e w'=>e = .returned (.int .i64 (maskZ H vl))∧Below w.heap.size w w':=by
 cases H
 all_goals
  go_enter Tryz.func88,Tryz.ntmps88
  go_wp2
  go_ret
  exact⟨rfl,below_alloc _ _⟩
theorem pieces8_any (C F:Int) (H:Bool) (X:Int) (va:Option Addr) (vl vc:Nat) (ma:Option Addr) (ml mc:Nat) (w:World):
 Calls Tryz.prog 97 #[.agg #[.int .i64 C,.int .i64 F,.bool H,.int .u64 X,.slice va vl vc,.slice ma ml mc]] w fun e w'=>e = .returned (.int .i64 (pieces8 H))∧Below w.heap.size w w':=by
 cases H
 all_goals
  go_enter Tryz.func97,Tryz.ntmps97
  go_wp2
  go_ret
  exact⟨rfl,below_alloc _ _⟩
theorem behind8_any (C F:Int) (H:Bool) (X:Int) (va:Option Addr) (vl vc:Nat) (ma:Option Addr) (ml mc:Nat) (w:World) (hv:vl≤1000000000) (hm:ml≤1000000000):
 Calls Tryz.prog 78 #[.agg #[.int .i64 C,.int .i64 F,.bool H,.int .u64 X,.slice va vl vc,.slice ma ml mc]] w fun e w'=>e = .returned (.int .i64 (behind8 C vl ml))∧Below w.heap.size w w':=by
 by_cases h:C=65535
 · subst h
   go_enter Tryz.func78,Tryz.ntmps78
   go_wp2
   go_ret
   exact⟨rfl,below_alloc _ _⟩
 · have e0:(C==65535)=false:=by simpa using h
   have e:behind8 C vl ml=vl+ml:=by simp[behind8,h]
   rw[e]
   clear e h
   go_enter Tryz.func78,Tryz.ntmps78
   go_wp2
   go_ret
   exact⟨rfl,below_alloc _ _⟩
def popB (p:Int):Nat:=(List.range 8).countP fun t=>bitOn t p
theorem pop_of (d:ByteArray) (hd:d.size=256) (ht:∀q:Fin 256,(d[q.val]'(by rw[hd];exact q.isLt)).toNat=popB (q.val:Int)) (p:Int) (h0 : 0≤p) (h1:p≤255) (hp:p.toNat<d.size):
 wrap64 ((d[p.toNat]'hp).toNat:Int)=(popB p:Int):=by
 obtain⟨q,rfl⟩:=Int.eq_ofNat_of_zero_le h0
 have e:=ht ⟨q,by omega⟩
 have e2:d[(q:Int).toNat]'hp=d[q]'(by omega):=rfl
 rw[e2,e]
 have h8:popB (q:Int)≤8:=by
  have:=List.countP_le_length (p:=fun t=>bitOn t (q:Int)) (l:=List.range 8)
  simpa [popB]using this
 generalize popB (q:Int)=n at h8
 rcases (show n=0∨n=1∨n=2∨n=3∨n=4∨n=5∨n=6∨n=7∨n=8 by omega) with rfl|rfl|rfl|rfl|rfl|rfl|rfl|rfl|rfl<;>decide +kernel
set_option maxRecDepth 100000 in
theorem ones8_any (p:Int) (h0 : 0≤p) (h1:p≤255) (w:World):
 Calls Tryz.prog 103 #[.int .u8 p] w fun e w'=>e = .returned (.int .i64 (popB p))∧w'=w:=by
 go_enter Tryz.func103,Tryz.ntmps103
 go_wp2_with fail
 go_ret
 refine⟨ret_int ?_,rfl⟩
 exact pop_of _ (by decide +kernel) (by decide +kernel) p h0 h1 _
def pops (m:List Int):Nat:=(m.map popB).sum
theorem pops_snoc {m:List Int} {k:Nat} {x:Int} (h:m[k]? = some x):pops (m.take (k+1))=pops (m.take k)+popB x:=by
 unfold pops
 rw[List.take_add_one,h]
 simp
theorem popB_le (p:Int):popB p≤8:=by
 have:=List.countP_le_length (p:=fun t=>bitOn t p) (l:=List.range 8)
 simpa [popB]using this
theorem pops_le (m:List Int):pops m≤8*m.length:=by
 induction m with
 | nil=>simp[pops]
 | cons x r ih=>have:=popB_le x;simp only[pops,List.map_cons,List.sum_cons,List.length_cons]at *;omega
def outB (x y:Int):Bool:=bits BinOp.andNot IntKind.u8 x y != 0
def insideB (v m:List Int):Bool:=(List.range v.length).all fun i=>!outB (v.getD i 0) (m.getD i 0)
theorem inside_yes {v m:List Int} (h:∀i,i<v.length→outB (v.getD i 0) (m.getD i 0)=false):insideB v m=true:=by
 unfold insideB
 rw[List.all_eq_true]
 intro j hj
 rw[h j (by simpa using hj)]
 rfl
theorem inside_no {v m:List Int} {i:Nat} (hi:i<v.length) (h:outB (v.getD i 0) (m.getD i 0)=true):insideB v m=false:=by
 unfold insideB
 rw[List.all_eq_false]
 exact⟨i,by simpa using hi,by rw[h];simp⟩
def maskE (v m:List Int) (n:Int):Int:=if pops m=0∨(pops m:Int)=n then 1033 else if insideB v m then 0 else 1030
set_option maxRecDepth 100000 in
set_option maxHeartbeats 1000000 in
theorem wrongMask_any (C F:Int) (H:Bool) (X:Int) (va:Option Addr) (vl vc:Nat) (ma:Option Addr) (ml mc:Nat) (v m:List Int) (n:Int) (ev:vl=v.length) (em:ml=m.length) (hvm:v.length≤m.length) (hm:m.length≤1000) (hmc:ml≤mc) (ov:Octets v) (om:Octets m) (w:World) (iv:Ints .u8 w va v) (im:Ints .u8 w ma m):
 Calls Tryz.prog 99 #[.agg #[.int .i64 C,.int .i64 F,.bool H,.int .u64 X,.slice va vl vc,.slice ma ml mc],.int .i64 n] w fun e w'=>e = .returned (.int .i64 (maskE v m n))∧Below w.heap.size w w':=by
 subst ev
 subst em
 obtain⟨W,hW,hbW,hbox⟩:=oxm_box w C F H X va v.length vc ma m.length mc
 have HW:=hid hW
 have IV:=hid (iv.below hbW)
 have IM:=hid (im.below hbW)
 have HB:=hid hbW
 have OV:=hid ov
 have OM:=hid om
 obtain⟨d0,d1,d2,d3,d4,d5⟩:=hbox.six
 clear hW iv im hbW ov om
 go_enter Tryz.func99,Tryz.ntmps99
 go_wp2_with fail
 rw[HW.out]
 go_wp2_with fail
 go_loop [5,13] (fun s i=>∃k:Nat,k≤m.length∧i = .int .i64 k∧s = .int .i64 ((pops (m.take k):Nat):Int)) (fun _ i=>m.length-(intOf i).toNat)
 case atStart=>exact⟨0,Nat.zero_le _,rfl,rfl⟩
 case round=>
  obtain⟨k,hk,rfl,rfl⟩:=hrel
  by_cases hlt:k<m.length
  · obtain⟨b,off,x,rfl,hcell,hx⟩:=IM.out.at hlt
    obtain⟨x1,x2⟩:=OM.out.get hx.out
    have hs:=hid (pops_snoc hx.out)
    have h8:=popB_le x
    have hq1:=pops_le (m.take k)
    rw[List.length_take]at hq1
    have hq2:pops (m.take k)≤8000:=by omega
    clear hq1
    go_wp2_with (go_at_call 103;refine (ones8_any x x1 x2 _).mono ?_;rintro e w' ⟨rfl,rfl⟩)
    go_round
    case rel=>exact⟨k+1,by omega,by go_num,by rw[hs.out];simp⟩
    case measure=>simp[intOf];omega
  · have e:pops (m.take k)=pops m:=by rw[List.take_of_length_le (by omega)]
    rw[e]
    clear e hk
    obtain⟨q,hq⟩:∃q,pops m=q:=⟨_,rfl⟩
    rw[hq]
    have hlt2:¬(k:Int)<(m.length:Int):=by omega
    by_cases h0:q=0
    · subst h0
      have E:=hid (show maskE v m n=1033 by simp[maskE,hq])
      clear hq hlt
      go_wp2_with fail
      go_ret
      exact⟨ret_int E.out.symm,HB.out⟩
    have i0:((q:Int)==0)=false:=by simp;omega
    by_cases h1:(q:Int)=n
    · have E:=hid (show maskE v m n=1033 by simp[maskE,hq,h1])
      have i1:((q:Int)==n)=true:=by simp[h1]
      clear hq hlt h0 h1
      go_wp2_with fail
      go_ret
      exact⟨ret_int E.out.symm,HB.out⟩
    have i1:((q:Int)==n)=false:=by simpa using h1
    have E:=hid (show maskE v m n=if insideB v m then 0 else 1030 by simp[maskE,hq,h0,h1])
    clear hq hlt h0 h1
    go_wp2_with fail
    go_loop [32] (fun i=>∃k:Nat,k≤v.length∧i = .int .i64 k∧Hid (∀j,j<k→outB (v.getD j 0) (m.getD j 0)=false)) (fun i=>v.length-(intOf i).toNat)
    case atStart=>exact⟨0,Nat.zero_le _,rfl,fun j h=>by omega⟩
    case round=>
     obtain⟨k,hk,rfl,hall⟩:=hrel
     by_cases hlt:k<v.length
     · obtain⟨b,off,x,rfl,hcell,hx⟩:=IV.out.at hlt
       obtain⟨b2,off2,y,rfl,hcell2,hy⟩:=IM.out.at (show k<m.length by omega)
       have px:=getD_of hx.out
       have py:=getD_of hy.out
       have hk2:(k:Int)<(m.length:Int):=by omega
       cases hq:outB x y
       · have HN:=hid (upto_more (P:=fun j=>outB (v.getD j 0) (m.getD j 0)=false) hall.out (by rw[px,py];exact hq))
         have hq2:(bits BinOp.andNot IntKind.u8 x y != 0)=false:=hq
         clear hq px py
         go_wp2_with fail
         go_round
         case rel=>exact⟨k+1,by omega,by go_num,HN⟩
         case measure=>simp[intOf];omega
       · have HN:=hid (inside_no (m:=m) hlt (by rw[px,py];exact hq))
         have hq2:(bits BinOp.andNot IntKind.u8 x y != 0)=true:=hq
         clear hq px py
         go_wp2_with fail
         go_ret
         exact⟨ret_int (by rw[E.out,HN.out];rfl),HB.out⟩
     · obtain rfl:k=v.length:=by omega
       have HN:=hid (inside_yes (m:=m) hall.out)
       go_wp2_with fail
       go_ret
       exact⟨ret_int (by rw[E.out,HN.out];rfl),HB.out⟩
theorem ref8Zeros_any (l:List Int) (a:Option Addr) (cap:Nat) (w:World) (hm:l.length≤9223372036854775807) (hc:Ints .u8 w a l):
 Calls Tryz.prog 93 #[.slice a l.length cap] w fun e w'=>e = .returned (.bool (zeros l))∧w=w':=by
 go_enter Tryz.func93,Tryz.ntmps93
 go_wp2
 go_loop [3] (fun i=>∃k:Nat,k≤l.length∧i = .int .i64 k∧Hid (zeros (l.take k)=true)) (fun i=>l.length-(intOf i).toNat)
 case atStart=>exact⟨0,Nat.zero_le _,rfl,rfl⟩
 case round=>
  obtain⟨k,hk,rfl,hall⟩:=hrel
  by_cases hlt:k<l.length
  · obtain⟨b,off,x,rfl,hcell,hx⟩:=hc.at hlt
    by_cases h0:x=0
    · subst h0
      have HN:=hid (zeros_succ hx.out hall.out rfl)
      go_wp2_with fail
      go_round
      case rel=>exact⟨k+1,by omega,by go_num,HN⟩
      case measure=>simp[intOf];omega
    · have HN:=hid (zeros_false hx.out h0)
      have e0:(x != 0)=true:=by simpa using h0
      clear h0
      go_wp2_with fail
      go_ret
      exact⟨ret_bool HN.out.symm,rfl⟩
  · have e:l.take k=l:=List.take_of_length_le (by omega)
    rw[e]at hall
    go_wp2_with fail
    go_ret
    exact⟨ret_bool hall.out.symm,rfl⟩
theorem bit_table:∀(p:Fin 256) (k:Fin 8),(bits BinOp.and IntKind.u8 ((p.val:Int)/2^k.val) 1==0) = !(bits BinOp.and IntKind.u8 ((p.val:Int)/2^k.val) 1==1):=by decide +kernel
theorem bit_not {p:Int} (h0 : 0≤p) (h1:p≤255) (k:Nat):(bits BinOp.and IntKind.u8 (p/2^(k%8)) 1==0) = !bitOn k p:=by
 obtain⟨q,rfl⟩:=Int.eq_ofNat_of_zero_le h0
 exact bit_table ⟨q,by omega⟩ ⟨k%8,by omega⟩
theorem bit_off {p:Int} (h0 : 0≤p) (h1:p≤255) {k:Nat} (h:bitOn k p=false):(bits BinOp.and IntKind.u8 (p/2^(k%8)) 1==0)=true:=by rw[bit_not h0 h1,h];rfl
theorem bit_on {p:Int} (h0 : 0≤p) (h1:p≤255) {k:Nat} (h:bitOn k p=true):(bits BinOp.and IntKind.u8 (p/2^(k%8)) 1==0)=false:=by rw[bit_not h0 h1,h];rfl
def onesB (m:List Int) (n:Nat):Bool:=(List.range n).all fun k=>bitOn k (m.getD (m.length-1-k/8) 0)
theorem ones_yes {m:List Int} {n:Nat} (h:∀k,k<n→bitOn k (m.getD (m.length-1-k/8) 0)=true):onesB m n=true:=by
 unfold onesB
 rw[List.all_eq_true]
 intro j hj
 exact h j (by simpa using hj)
theorem ones_no {m:List Int} {n k:Nat} (hk:k<n) (h:bitOn k (m.getD (m.length-1-k/8) 0)=false):onesB m n=false:=by
 unfold onesB
 rw[List.all_eq_false]
 exact⟨k,by simpa using hk,by rw[h];simp⟩
set_option maxRecDepth 100000 in
theorem ref8Ones_any (m:List Int) (n:Nat) (hn:n≤8*m.length) (hm:m.length≤1000) (om:Octets m) (a:Option Addr) (cap:Nat) (w:World) (hc:Ints .u8 w a m):
 Calls Tryz.prog 94 #[.slice a m.length cap,.int .i64 n] w fun e w'=>e = .returned (.bool (onesB m n))∧w=w':=by
 go_enter Tryz.func94,Tryz.ntmps94
 go_wp2
 go_loop [5] (fun i=>∃k:Nat,k≤n∧i = .int .i64 k∧Hid (∀j,j<k→bitOn j (m.getD (m.length-1-j/8) 0)=true)) (fun i=>n-(intOf i).toNat)
 case atStart=>exact⟨0,Nat.zero_le _,rfl,fun j h=>by omega⟩
 case round=>
  obtain⟨k,hk,rfl,hall⟩:=hrel
  by_cases hlt:k<n
  · have hx:m.length-1-k/8<m.length:=by omega
    obtain⟨b1,o1,p,rfl,e1,g1⟩:=hc.at hx
    have hd:(m.length:Int)-1-(k:Int)/8=((m.length-1-k/8:Nat):Int):=by omega
    have hp:=getD_of g1.out
    have g2:=om.get g1.out
    have HNO:=hid (fun h=>ones_no (m:=m) hlt (by rw[hp];exact h))
    have HYES:=hid (fun h=>upto_more (P:=fun j=>bitOn j (m.getD (m.length-1-j/8) 0)=true) hall.out (by rw[hp];exact h))
    obtain⟨j,hj⟩:∃j,m.length-1-k/8=j:=⟨_,rfl⟩
    rw[hj]at hx e1 hd
    have hj2:(j:Int)<(m.length:Int):=by omega
    clear hj hp g1
    cases hq:bitOn k p
    · have hq2:(bits BinOp.and IntKind.u8 (p/2^(k%8)) 1==1)=false:=hq
      have hq3:(bits BinOp.and IntKind.u8 (p/2^(k%8)) 1==0)=true:=bit_off g2.1 g2.2 hq
      have HN:=hid (HNO.out hq)
      clear hq
      go_wp2_with fail
      go_ret
      exact⟨ret_bool HN.out.symm,rfl⟩
    · have hq3:(bits BinOp.and IntKind.u8 (p/2^(k%8)) 1==0)=false:=bit_on g2.1 g2.2 hq
      have HY:=hid (HYES.out hq)
      clear hq
      go_wp2_with fail
      go_round
      case rel=>exact⟨k+1,by omega,by go_num,HY⟩
      case measure=>simp[intOf];omega
  · obtain rfl:k=n:=by omega
    have HN:=hid (ones_yes hall.out)
    go_wp2_with fail
    go_ret
    exact⟨ret_bool HN.out.symm,rfl⟩
theorem bv_inside (a b:BitVec 8):(a &&& b=a)↔(a &&& ~~~b=0#8):=by
 constructor
 all_goals
  intro h
  apply BitVec.eq_of_getElem_eq
  intro i hi
  have hh:=congrArg (fun v=>v[i]'hi) h
  simp at hh ⊢
  cases ha:a[i]<;>cases hb:b[i]<;>simp_all
theorem out_and {x y:Int} (h0 : 0≤x) (h1:x≤255):(bits BinOp.and IntKind.u8 x y != x)=outB x y:=by
 obtain⟨q,rfl⟩:=Int.eq_ofNat_of_zero_le h0
 obtain⟨b,hb⟩:∃b,BitVec.ofInt 8 y=b:=⟨_,rfl⟩
 have ha:BitVec.ofInt 8 (q:Int)=BitVec.ofNat 8 q:=rfl
 have hq:(BitVec.ofNat 8 q).toNat=q:=by simp;omega
 have e1:bits BinOp.and IntKind.u8 (q:Int) y=((BitVec.ofNat 8 q &&& b).toNat:Int):=by
  show IntKind.u8.wrap ((BitVec.ofInt 8 (q:Int) &&& BitVec.ofInt 8 y).toNat:Int)=_
  rw[ha,hb,wrap_u8]
  have:=(BitVec.ofNat 8 q &&& b).isLt
  omega
 have e2:bits BinOp.andNot IntKind.u8 (q:Int) y=((BitVec.ofNat 8 q &&& ~~~b).toNat:Int):=by
  show IntKind.u8.wrap ((BitVec.ofInt 8 (q:Int) &&& ~~~(BitVec.ofInt 8 y)).toNat:Int)=_
  rw[ha,hb,wrap_u8]
  have:=(BitVec.ofNat 8 q &&& ~~~b).isLt
  omega
 unfold outB
 rw[e1,e2,Bool.eq_iff_iff]
 simp only[bne_iff_ne,ne_eq]
 refine not_congr ?_
 rw[show (0:Int)=((0#8:BitVec 8).toNat:Int) from rfl,show (q:Int)=((BitVec.ofNat 8 q).toNat:Int) by rw[hq]]
 rw[Int.natCast_inj,Int.natCast_inj,BitVec.toNat_inj,BitVec.toNat_inj]
 exact bv_inside _ _
theorem below_drewN (w:World) (n:Nat):Below w.heap.size w (w.drewN n):=by_none_below (by_none_drewN w n)
set_option maxRecDepth 100000 in
theorem ref8Inside_any (v m:List Int) (hvm:v.length≤m.length) (hm:m.length≤1000) (ov:Octets v) (om:Octets m) (a b:Option Addr) (c d:Nat) (w:World) (iv:Ints .u8 w a v) (im:Ints .u8 w b m):
 Calls Tryz.prog 95 #[.slice a v.length c,.slice b m.length d] w fun e w'=>e = .returned (.bool (insideB v m))∧Below w.heap.size w w':=by
 go_enter Tryz.func95,Tryz.ntmps95
 go_wp2
 go_loopw [5] (fun i wr=>∃k n:Nat,k≤v.length∧i = .int .i64 k∧Hid (∀j,j<k→outB (v.getD j 0) (m.getD j 0)=false)∧wr=w.drewN n) (fun i _=>v.length-(intOf i).toNat)
 case atStart=>exact⟨0,0,Nat.zero_le _,rfl,fun j h=>by omega,rfl⟩
 case round=>
  obtain⟨k,n,hk,rfl,hall,rfl⟩:=hrel
  by_cases hlt:k<v.length
  · obtain⟨b1,o1,x,rfl,e1,hx⟩:=iv.at hlt
    obtain⟨b2,o2,y,rfl,e2,hy⟩:=im.at (show k<m.length by omega)
    have px:=getD_of hx.out
    have py:=getD_of hy.out
    have gx:=ov.get hx.out
    have gy:=om.get hy.out
    have hk2:(k:Int)<(m.length:Int):=by omega
    have hq:=out_and (y:=y) gx.1 gx.2
    have HNO:=hid (fun h=>inside_no (m:=m) hlt (by rw[px,py];exact h))
    have HYES:=hid (fun h=>upto_more (P:=fun j=>outB (v.getD j 0) (m.getD j 0)=false) hall.out (by rw[px,py];exact h))
    clear px py gx gy
    cases h:outB x y
    · rw[h]at hq
      have HN:=hid (HYES.out h)
      clear h
      go_wp2
      go_quiet (fail)
      go_wp2
      go_roundw
      case rel=>exact⟨k+1,_,by omega,by go_num,HN,rfl⟩
      case measure=>simp[intOf];omega
    · rw[h]at hq
      have HN:=hid (HNO.out h)
      clear h
      go_wp2
      go_quiet (fail)
      go_wp2
      go_ret
      exact⟨ret_bool HN.out.symm,by first|exact below_drewN _ _|(rw[World.drewN_drewN];exact below_drewN _ _)⟩
  · obtain rfl:k=v.length:=by omega
    have HN:=hid (inside_yes (m:=m) hall.out)
    go_wp2
    go_ret
    exact⟨ret_bool HN.out.symm,below_drewN _ _⟩
theorem pops_count (m:List Int):pops m=(List.range (8*m.length)).countP fun i=>bitOn i (m.getD (m.length-1-i/8) 0):=by
 induction m with
 | nil=>rfl
 | cons x r ih=>
   rw[List.length_cons,show 8*(r.length+1)=8*r.length+8 by omega,List.range_add,List.countP_append,List.countP_map]
   have e1:(List.range (8*r.length)).countP (fun i=>bitOn i ((x::r).getD (r.length+1-1-i/8) 0))=pops r:=by
    rw[ih]
    refine List.countP_congr fun i hi=>?_
    have hi':i<8*r.length:=by simpa using hi
    have:r.length+1-1-i/8=(r.length-1-i/8)+1:=by omega
    rw[this,List.getD_cons_succ]
   have e2:(List.range 8).countP ((fun i=>bitOn i ((x::r).getD (r.length+1-1-i/8) 0)) ∘ fun t=>8*r.length+t)=popB x:=by
    unfold popB
    refine List.countP_congr fun t ht=>?_
    have ht':t<8:=by simpa using ht
    simp only[Function.comp]
    have:r.length+1-1-(8*r.length+t)/8=0:=by omega
    rw[this,List.getD_cons_zero,←bitOn_mod,show (8*r.length+t)%8=t by omega]
   rw[e1,e2]
   simp[pops]
   omega
theorem pop_zero_table:∀p:Fin 256,(popB (p.val:Int)==0)=((p.val:Int)==0):=by decide +kernel
theorem pop_zero {p:Int} (h0 : 0≤p) (h1:p≤255):(popB p==0)=(p==0):=by
 obtain⟨q,rfl⟩:=Int.eq_ofNat_of_zero_le h0
 exact pop_zero_table ⟨q,by omega⟩
theorem zeros_pops {m:List Int} (om:Octets m):zeros m=decide (pops m=0):=by
 induction m with
 | nil=>rfl
 | cons x r ih=>
   have hx:=om x (by simp)
   have ir:=ih (fun y hy=>om y (by simp[hy]))
   have e:=pop_zero hx.1 hx.2
   have e3:pops (x::r)=popB x+pops r:=by simp[pops]
   have e4:zeros (x::r)=((x==0)&&zeros r):=by simp[zeros]
   rw[e3,e4,ir,←e]
   by_cases h1:popB x=0<;>by_cases h2:pops r=0<;>simp[h1,h2]
theorem ones_pops {m:List Int} {n:Nat} (hn:n≤8*m.length) (hf:∀k,n≤k→k<8*m.length→bitOn k (m.getD (m.length-1-k/8) 0)=false):onesB m n=decide (pops m=n):=by
 rw[pops_count]
 obtain⟨d,hd⟩:∃d,8*m.length=n+d:=⟨8*m.length-n,by omega⟩
 rw[hd,List.range_add,List.countP_append,List.countP_map]
 have e2:(List.range d).countP ((fun i=>bitOn i (m.getD (m.length-1-i/8) 0)) ∘ fun t=>n+t)=0:=by
  rw[List.countP_eq_zero]
  intro t ht
  have ht':t<d:=by simpa using ht
  simp only[Function.comp]
  rw[hf (n+t) (by omega) (by omega)]
  simp
 rw[e2,Nat.add_zero]
 have e:=List.countP_eq_length (p:=fun i=>bitOn i (m.getD (m.length-1-i/8) 0)) (l:=List.range n)
 rw[List.length_range]at e
 rw[Bool.eq_iff_iff,decide_eq_true_eq,e]
 unfold onesB
 rw[List.all_eq_true]
theorem ones_all {m:List Int}:onesB m (8*m.length)=decide (pops m=8*m.length):=ones_pops (Nat.le_refl _) (fun k h1 h2=>by omega)
theorem fits_above {n:Int} {m:List Int} (h:fitsB n m=true) (om:Octets m):(fld n).b.toNat≤8*m.length∧m.length=(fld n).z∧(0≤n∧n<40)∧0≤(fld n).b ∧ ∀k,(fld n).b.toNat≤k→k<8*m.length→bitOn k (m.getD (m.length-1-k/8) 0)=false:=by
 unfold fitsB at h
 simp only[Bool.and_eq_true,decide_eq_true_eq]at h
 obtain⟨⟨hn,hl⟩,hf⟩:=h
 obtain⟨b0,b1,b2,b3⟩:=fld_dims hn
 refine⟨by omega,hl,hn,b0,fun k h1 h2=>?_⟩
 cases hb:bitOn k (m.getD (m.length-1-k/8) 0)
 · rfl
 · exfalso
   rw[hl]at hb
   have:=fitV_bit (A:=(8*((fld n).z:Int)-(fld n).b).toNat) (b:=(fld n).b) om hl (by omega) (k:=k) (by omega) (by omega) hb
   rw[this]at hf
   exact absurd hf (by simp)
def headE (C F:Int) (H:Bool) (n:Int):Int:=
 if C=32768 then (if ¬(0≤F∧F<40) then 1031 else if (H && !(fld F).m)=true then 1033 else if n≠((fld F).z:Int)*pieces8 H then 1026 else 0)
 else if C=65535 then (if n-4<0∨(n-4)%(pieces8 H:Int)≠0∨100*(pieces8 H:Int)<n-4 then 1026 else 0)
 else 1031
theorem pieces8_off (C F X:Int) (va:Option Addr) (vl vc:Nat) (ma:Option Addr) (ml mc:Nat) (W:World):
 Calls Tryz.prog 97 #[.agg #[.int .i64 C,.int .i64 F,.bool false,.int .u64 X,.slice va vl vc,.slice ma ml mc]] W fun e w'=>e = .returned (.int .i64 1)∧Below W.heap.size W w':=
 pieces8_any C F false X va vl vc ma ml mc W
theorem pieces8_on (C F X:Int) (va:Option Addr) (vl vc:Nat) (ma:Option Addr) (ml mc:Nat) (W:World):
 Calls Tryz.prog 97 #[.agg #[.int .i64 C,.int .i64 F,.bool true,.int .u64 X,.slice va vl vc,.slice ma ml mc]] W fun e w'=>e = .returned (.int .i64 2)∧Below W.heap.size W w':=
 pieces8_any C F true X va vl vc ma ml mc W
theorem fld_box (w:World) (b z:Int) (m:Bool) (d:Int) (v:Value):∃W,w.alloc (.cells #[.int .i64 b,.int .i64 z,.bool m,.int .i64 d,v] 95)=W∧Below w.heap.size w W∧BoxL W w.heap.size [.int .i64 b,.int .i64 z,.bool m,.int .i64 d,v]:=
 ⟨_,rfl,below_alloc _ _,BoxL.new _ _ _⟩
set_option maxRecDepth 100000 in
set_option maxHeartbeats 1000000 in
theorem wrongHead_basic (F:Int) (H:Bool) (X:Int) (va:Option Addr) (vl vc:Nat) (ma:Option Addr) (ml mc:Nat) (n:Int) (w:World):
 Calls Tryz.prog 89 #[.agg #[.int .i64 32768,.int .i64 F,.bool H,.int .u64 X,.slice va vl vc,.slice ma ml mc],.int .i64 n] w fun e w'=>e = .returned (.int .i64 (headE 32768 F H n))∧Below w.heap.size w w':=by
 obtain⟨W,hW,hbW,hbox⟩:=oxm_box w 32768 F H X va vl vc ma ml mc
 have HW:=hid hW
 have HB:=hid hbW
 have HO:=fun W=>fldOf_any F W
 have HP:=hid (fun W=>pieces8_any 32768 F H X va vl vc ma ml mc W)
 obtain⟨d0,d1,d2,d3,d4,d5⟩:=hbox.six
 by_cases hF : 0≤F∧F<40
 · have he:headE 32768 F H n=if (H && !(fld F).m)=true then 1033 else if n≠((fld F).z:Int)*pieces8 H then 1026 else 0:=by simp[headE,hF]
   rw[he]
   rw[decide_eq_true hF]at HO
   have hz:((fld F).z:Int)≤16:=by have:=(fld_dims hF).2.2.2;omega
   clear he
   obtain⟨f,hf⟩:∃f,fld F=f:=⟨_,rfl⟩
   rw[hf]at HO hz ⊢
   unfold fldV at HO
   have HO:=hid HO
   clear hW hbW hf hF
   rcases (show (H=true∧f.m=false)∨(H=false∨H=true∧f.m=true) by cases H<;>cases f.m<;>simp) with⟨rfl,hfm⟩|rfl|⟨rfl,hfm⟩
   · rw[hfm]at HO ⊢
     clear hfm
     go_enter Tryz.func89,Tryz.ntmps89
     go_wp2_with fail
     rw[HW.out]
     go_wp2_with fail
     refine (HO.out _).mono ?_
     rintro e w1 ⟨v,rfl,⟨a',c',rfl,hI⟩,hb⟩
     clear hI
     have hbx:=hbox.below hb
     have hlt:=hbx.lt
     have n2:¬w.heap.size=w1.heap.size:=by omega
     obtain⟨d0,d1,d2,d3,d4,d5⟩:=hbx.six
     have HB1:=hid (below_on HB.out hb)
     go_wp2_with fail
     go_ret
     exact⟨rfl,below_on HB1.out (below_alloc _ _)⟩
   · have e:(if (false && !f.m)=true then 1033 else if n≠(f.z:Int)*(pieces8 false:Nat) then 1026 else 0:Int)=if n≠(f.z:Int)*(pieces8 false:Nat) then 1026 else 0:=by simp
     rw[e]
     clear e
     replace HP:=hid (fun W=>(pieces8_off 32768 F X va vl vc ma ml mc W))
     obtain⟨r,hr⟩:∃r:Int,((f.z:Int):Int)=r:=⟨_,rfl⟩
     by_cases hn:n=(f.z:Int)
     · have e:(if n≠(f.z:Int)*(pieces8 false:Nat) then 1026 else 0:Int)=0:=by simp[pieces8,hn]
       rw[e]
       have hn2:(n != (f.z:Int))=false:=by simpa using hn
       clear e hr hn
       go_enter Tryz.func89,Tryz.ntmps89
       go_wp2_with fail
       rw[HW.out]
       go_wp2_with fail
       refine (HO.out _).mono ?_
       rintro e w1 ⟨v,rfl,⟨a',c',rfl,hI⟩,hb⟩
       clear hI
       have hbx:=hbox.below hb
       have hlt:=hbx.lt
       have n2:¬w.heap.size=w1.heap.size:=by omega
       obtain⟨d0,d1,d2,d3,d4,d5⟩:=hbx.six
       have HB1:=hid (below_on HB.out hb)
       go_wp2_with fail
       obtain⟨W1,rfl,hbW1,hbox1⟩:=fld_box w1 f.b f.z f.m f.d (.slice a' f.v.length c')
       have HB2:=hid (below_on HB1.out hbW1)
       clear d0 d1 d2 d3 d4 d5
       obtain⟨d0,d1,d2,d3,d4,d5⟩:=(hbx.below hbW1).six
       have c0:=Wk.cell d0
       have c1:=Wk.cell d1
       have c2:=Wk.cell d2
       have c3:=Wk.cell d3
       have c4:=Wk.cell d4
       have c5:=Wk.cell d5
       obtain⟨_,g1,_,_,_⟩:=hbox1.five
       have k1:=Wk.cell g1
       clear d0 d1 d2 d3 d4 d5 g1
       refine wp_region_wk (by kernel_rfl) (by kernel_rfl) ?_
       repeat (go_big_quiet_step ((go_at_call 97;exact Wk.call (HP.out _))))
       refine wpQuiet_nil ?_
       rintro w2 ⟨⟨_,hb2⟩,rfl⟩
       go_wp2_with fail
       go_ret
       exact⟨rfl,below_on HB2.out hb2⟩
     · have e:(if n≠(f.z:Int)*(pieces8 false:Nat) then 1026 else 0:Int)=1026:=by simp[pieces8,hn]
       rw[e]
       have hn2:(n != (f.z:Int))=true:=by simpa using hn
       clear e hr hn
       go_enter Tryz.func89,Tryz.ntmps89
       go_wp2_with fail
       rw[HW.out]
       go_wp2_with fail
       refine (HO.out _).mono ?_
       rintro e w1 ⟨v,rfl,⟨a',c',rfl,hI⟩,hb⟩
       clear hI
       have hbx:=hbox.below hb
       have hlt:=hbx.lt
       have n2:¬w.heap.size=w1.heap.size:=by omega
       obtain⟨d0,d1,d2,d3,d4,d5⟩:=hbx.six
       have HB1:=hid (below_on HB.out hb)
       go_wp2_with fail
       obtain⟨W1,rfl,hbW1,hbox1⟩:=fld_box w1 f.b f.z f.m f.d (.slice a' f.v.length c')
       have HB2:=hid (below_on HB1.out hbW1)
       clear d0 d1 d2 d3 d4 d5
       obtain⟨d0,d1,d2,d3,d4,d5⟩:=(hbx.below hbW1).six
       have c0:=Wk.cell d0
       have c1:=Wk.cell d1
       have c2:=Wk.cell d2
       have c3:=Wk.cell d3
       have c4:=Wk.cell d4
       have c5:=Wk.cell d5
       obtain⟨_,g1,_,_,_⟩:=hbox1.five
       have k1:=Wk.cell g1
       clear d0 d1 d2 d3 d4 d5 g1
       refine wp_region_wk (by kernel_rfl) (by kernel_rfl) ?_
       repeat (go_big_quiet_step ((go_at_call 97;exact Wk.call (HP.out _))))
       refine wpQuiet_nil ?_
       rintro w2 ⟨⟨_,hb2⟩,rfl⟩
       go_wp2_with fail
       go_ret
       exact⟨rfl,below_on HB2.out hb2⟩
   · have e:(if (true && !f.m)=true then 1033 else if n≠(f.z:Int)*(pieces8 true:Nat) then 1026 else 0:Int)=if n≠(f.z:Int)*(pieces8 true:Nat) then 1026 else 0:=by simp[hfm]
     rw[e]
     clear e
     rw[hfm]at HO
     clear hfm
     replace HP:=hid (fun W=>(pieces8_on 32768 F X va vl vc ma ml mc W))
     obtain⟨r,hr⟩:∃r:Int,((f.z:Int)*2:Int)=r:=⟨_,rfl⟩
     by_cases hn:n=(f.z:Int)*2
     · have e:(if n≠(f.z:Int)*(pieces8 true:Nat) then 1026 else 0:Int)=0:=by simp[pieces8,hn]
       rw[e]
       have hn2:(n != (f.z:Int)*2)=false:=by simpa using hn
       clear e hr hn
       go_enter Tryz.func89,Tryz.ntmps89
       go_wp2_with fail
       rw[HW.out]
       go_wp2_with fail
       refine (HO.out _).mono ?_
       rintro e w1 ⟨v,rfl,⟨a',c',rfl,hI⟩,hb⟩
       clear hI
       have hbx:=hbox.below hb
       have hlt:=hbx.lt
       have n2:¬w.heap.size=w1.heap.size:=by omega
       obtain⟨d0,d1,d2,d3,d4,d5⟩:=hbx.six
       have HB1:=hid (below_on HB.out hb)
       go_wp2_with fail
       obtain⟨W1,rfl,hbW1,hbox1⟩:=fld_box w1 f.b f.z true f.d (.slice a' f.v.length c')
       have HB2:=hid (below_on HB1.out hbW1)
       clear d0 d1 d2 d3 d4 d5
       obtain⟨d0,d1,d2,d3,d4,d5⟩:=(hbx.below hbW1).six
       have c0:=Wk.cell d0
       have c1:=Wk.cell d1
       have c2:=Wk.cell d2
       have c3:=Wk.cell d3
       have c4:=Wk.cell d4
       have c5:=Wk.cell d5
       obtain⟨_,g1,_,_,_⟩:=hbox1.five
       have k1:=Wk.cell g1
       clear d0 d1 d2 d3 d4 d5 g1
       refine wp_region_wk (by kernel_rfl) (by kernel_rfl) ?_
       repeat (go_big_quiet_step ((go_at_call 97;exact Wk.call (HP.out _))))
       refine wpQuiet_nil ?_
       rintro w2 ⟨⟨_,hb2⟩,rfl⟩
       go_wp2_with fail
       go_ret
       exact⟨rfl,below_on HB2.out hb2⟩
     · have e:(if n≠(f.z:Int)*(pieces8 true:Nat) then 1026 else 0:Int)=1026:=by simp[pieces8,hn]
       rw[e]
       have hn2:(n != (f.z:Int)*2)=true:=by simpa using hn
       clear e hr hn
       go_enter Tryz.func89,Tryz.ntmps89
       go_wp2_with fail
       rw[HW.out]
       go_wp2_with fail
       refine (HO.out _).mono ?_
       rintro e w1 ⟨v,rfl,⟨a',c',rfl,hI⟩,hb⟩
       clear hI
       have hbx:=hbox.below hb
       have hlt:=hbx.lt
       have n2:¬w.heap.size=w1.heap.size:=by omega
       obtain⟨d0,d1,d2,d3,d4,d5⟩:=hbx.six
       have HB1:=hid (below_on HB.out hb)
       go_wp2_with fail
       obtain⟨W1,rfl,hbW1,hbox1⟩:=fld_box w1 f.b f.z true f.d (.slice a' f.v.length c')
       have HB2:=hid (below_on HB1.out hbW1)
       clear d0 d1 d2 d3 d4 d5
       obtain⟨d0,d1,d2,d3,d4,d5⟩:=(hbx.below hbW1).six
       have c0:=Wk.cell d0
       have c1:=Wk.cell d1
       have c2:=Wk.cell d2
       have c3:=Wk.cell d3
       have c4:=Wk.cell d4
       have c5:=Wk.cell d5
       obtain⟨_,g1,_,_,_⟩:=hbox1.five
       have k1:=Wk.cell g1
       clear d0 d1 d2 d3 d4 d5 g1
       refine wp_region_wk (by kernel_rfl) (by kernel_rfl) ?_
       repeat (go_big_quiet_step ((go_at_call 97;exact Wk.call (HP.out _))))
       refine wpQuiet_nil ?_
       rintro w2 ⟨⟨_,hb2⟩,rfl⟩
       go_wp2_with fail
       go_ret
       exact⟨rfl,below_on HB2.out hb2⟩
 · have he:headE 32768 F H n=1031:=by simp[headE,hF]
   rw[he]
   rw[decide_eq_false hF,fld_out hF]at HO
   unfold fldV at HO
   have HO:=hid HO
   clear hW hbW hF he
   go_enter Tryz.func89,Tryz.ntmps89
   go_wp2_with fail
   rw[HW.out]
   go_wp2_with fail
   refine (HO.out _).mono ?_
   rintro e w1 ⟨v,rfl,⟨a',c',rfl,hI⟩,hb⟩
   clear hI
   go_wp2_with fail
   go_ret
   exact⟨rfl,below_on (below_on HB.out hb) (below_alloc _ _)⟩
set_option maxRecDepth 100000 in
set_option maxHeartbeats 1000000 in
theorem wrongHead_extra (F:Int) (H:Bool) (X:Int) (va:Option Addr) (vl vc:Nat) (ma:Option Addr) (ml mc:Nat) (n:Int) (w:World) (h0 : 0≤n) (h1:n≤100000):
 Calls Tryz.prog 89 #[.agg #[.int .i64 65535,.int .i64 F,.bool H,.int .u64 X,.slice va vl vc,.slice ma ml mc],.int .i64 n] w fun e w'=>e = .returned (.int .i64 (headE 65535 F H n))∧Below w.heap.size w w':=by
 obtain⟨W,hW,hbW,hbox⟩:=oxm_box w 65535 F H X va vl vc ma ml mc
 have HW:=hid hW
 have HB:=hid hbW
 obtain⟨d0,d1,d2,d3,d4,d5⟩:=hbox.six
 clear hW hbW
 by_cases hn:n-4<0
 · have e:headE 65535 F H n=1026:=by simp[headE,hn]
   rw[e]
   clear e
   go_enter Tryz.func89,Tryz.ntmps89
   go_wp2_with fail
   rw[HW.out]
   go_wp2_with fail
   go_ret
   exact⟨rfl,HB.out⟩
 · cases H
   · have HP:=hid (fun W=>pieces8_off 65535 F X va vl vc ma ml mc W)
     have e:headE 65535 F false n=if 100<n-4 then 1026 else 0:=by simp[headE,hn,pieces8,Int.emod_one]
     rw[e]
     clear e
     by_cases hm : 100<n-4
     · rw[if_pos hm]
       go_enter Tryz.func89,Tryz.ntmps89
       go_wp2_with fail
       rw[HW.out]
       go_wp2_with fail
       refine (HP.out _).mono ?_
       rintro e w1 ⟨rfl,hb1⟩
       clear d0 d1 d2 d3 d4 d5
       obtain⟨d0,d1,d2,d3,d4,d5⟩:=(hbox.below hb1).six
       go_wp2_with fail
       refine (HP.out _).mono ?_
       rintro e w2 ⟨rfl,hb2⟩
       go_wp2_with fail
       go_ret
       exact⟨rfl,below_on (below_on HB.out hb1) hb2⟩
     · rw[if_neg hm]
       go_enter Tryz.func89,Tryz.ntmps89
       go_wp2_with fail
       rw[HW.out]
       go_wp2_with fail
       refine (HP.out _).mono ?_
       rintro e w1 ⟨rfl,hb1⟩
       clear d0 d1 d2 d3 d4 d5
       obtain⟨d0,d1,d2,d3,d4,d5⟩:=(hbox.below hb1).six
       go_wp2_with fail
       refine (HP.out _).mono ?_
       rintro e w2 ⟨rfl,hb2⟩
       go_wp2_with fail
       go_ret
       exact⟨rfl,below_on (below_on HB.out hb1) hb2⟩
   · have HP:=hid (fun W=>pieces8_on 65535 F X va vl vc ma ml mc W)
     by_cases hr:(n-4)%2=0
     · have hr2:((n-4)%2 != 0)=false:=by simpa using hr
       have e:headE 65535 F true n=if 200<n-4 then 1026 else 0:=by simp[headE,hn,pieces8,hr]
       rw[e]
       clear e hr
       by_cases hm : 200<n-4
       · rw[if_pos hm]
         go_enter Tryz.func89,Tryz.ntmps89
         go_wp2_with fail
         rw[HW.out]
         go_wp2_with fail
         refine (HP.out _).mono ?_
         rintro e w1 ⟨rfl,hb1⟩
         clear d0 d1 d2 d3 d4 d5
         obtain⟨d0,d1,d2,d3,d4,d5⟩:=(hbox.below hb1).six
         go_wp2_with fail
         refine (HP.out _).mono ?_
         rintro e w2 ⟨rfl,hb2⟩
         go_wp2_with fail
         go_ret
         exact⟨rfl,below_on (below_on HB.out hb1) hb2⟩
       · rw[if_neg hm]
         go_enter Tryz.func89,Tryz.ntmps89
         go_wp2_with fail
         rw[HW.out]
         go_wp2_with fail
         refine (HP.out _).mono ?_
         rintro e w1 ⟨rfl,hb1⟩
         clear d0 d1 d2 d3 d4 d5
         obtain⟨d0,d1,d2,d3,d4,d5⟩:=(hbox.below hb1).six
         go_wp2_with fail
         refine (HP.out _).mono ?_
         rintro e w2 ⟨rfl,hb2⟩
         go_wp2_with fail
         go_ret
         exact⟨rfl,below_on (below_on HB.out hb1) hb2⟩
     · have hr2:((n-4)%2 != 0)=true:=by simpa using hr
       have e:headE 65535 F true n=1026:=by simp[headE,pieces8,hr]
       rw[e]
       clear e hr
       go_enter Tryz.func89,Tryz.ntmps89
       go_wp2_with fail
       rw[HW.out]
       go_wp2_with fail
       refine (HP.out _).mono ?_
       rintro e w1 ⟨rfl,hb1⟩
       clear d0 d1 d2 d3 d4 d5
       obtain⟨d0,d1,d2,d3,d4,d5⟩:=(hbox.below hb1).six
       go_wp2_with fail
       go_ret
       exact⟨rfl,below_on HB.out hb1⟩
set_option maxRecDepth 100000 in
theorem wrongHead_none (C F:Int) (hb:(C==32768)=false) (hx:(C==65535)=false) (H:Bool) (X:Int) (va:Option Addr) (vl vc:Nat) (ma:Option Addr) (ml mc:Nat) (n:Int) (w:World):
 Calls Tryz.prog 89 #[.agg #[.int .i64 C,.int .i64 F,.bool H,.int .u64 X,.slice va vl vc,.slice ma ml mc],.int .i64 n] w fun e w'=>e = .returned (.int .i64 (headE C F H n))∧Below w.heap.size w w':=by
 have e:headE C F H n=1031:=by
  have h1:C≠32768:=by simpa using hb
  have h2:C≠65535:=by simpa using hx
  simp[headE,h1,h2]
 rw[e]
 clear e
 go_enter Tryz.func89,Tryz.ntmps89
 go_wp2
 go_ret
 exact⟨rfl,below_alloc _ _⟩
theorem wrongHead_any (C F:Int) (H:Bool) (X:Int) (va:Option Addr) (vl vc:Nat) (ma:Option Addr) (ml mc:Nat) (n:Int) (w:World) (h0 : 0≤n) (h1:n≤100000):
 Calls Tryz.prog 89 #[.agg #[.int .i64 C,.int .i64 F,.bool H,.int .u64 X,.slice va vl vc,.slice ma ml mc],.int .i64 n] w fun e w'=>e = .returned (.int .i64 (headE C F H n))∧Below w.heap.size w w':=by
 by_cases hb:C=32768
 · subst hb
   exact wrongHead_basic F H X va vl vc ma ml mc n w
 · by_cases hx:C=65535
   · subst hx
     exact wrongHead_extra F H X va vl vc ma ml mc n w h0 h1
   · exact wrongHead_none C F (by simpa using hb) (by simpa using hx) H X va vl vc ma ml mc n w
end Go.Proofs.YthpdkancighknaaGreat
namespace Go.Proofs.YthpdkancighknaaGreat
open Go.RowKit
set_option linter.unusedVariables false
def oddB (n:Int):Bool:=n%2==1
section
variable {w:World} {g M:Nat} {l:List Int} {r s o:Int}
end
end Go.Proofs.YthpdkancighknaaGreat
namespace Go.Proofs.YthpdkancighknaaGreat
open Go.RowKit
set_option linter.unusedVariables false
section
variable {w:World} {g M:Nat} {l:List Int} {r s o f:Int}
def New8 (w:World) (a:Option Addr):Prop:=∀q:Addr,a=some q→w.heap.size≤q.block
end
end Go.Proofs.YthpdkancighknaaGreat
namespace Go.Proofs.YthpdkancighknaaGreat
open Go.RowKit
set_option linter.unusedVariables false
section
variable {w:World} {g M:Nat} {l:List Int} {r s o f:Int}
end
end Go.Proofs.YthpdkancighknaaGreat
namespace Go.Proofs.YthpdkancighknaaGreat
open Go.RowKit
set_option linter.unusedVariables false
def bytesE (C F:Int) (H:Bool) (v m:List Int):Int:=
 if C=32768 then (if fitsB F v=false then 1032 else if (H && !fitsB F m)=true then 1033 else if H=true then maskE v m (fld F).b else 0)
 else if C=65535 then (if H=true then maskE v m (8*m.length) else 0) else 0
theorem fits_len (n:Int) (v m:List Int) (hv:fitsB n v=true) (hm:fitsB n m=true):v.length=m.length:=by
 unfold fitsB at hv hm
 simp only[Bool.and_eq_true,decide_eq_true_eq]at hv hm
 rw[hv.1.2,hm.1.2]
set_option maxRecDepth 100000 in
set_option maxHeartbeats 1000000 in
theorem wrongBytes_basic (F:Int) (H:Bool) (X:Int) (va:Option Addr) (vc:Nat) (ma:Option Addr) (mc:Nat) (v m:List Int) (hm:m.length≤1000) (hmc:m.length≤mc) (ov:Octets v) (om:Octets m) (w:World) (iv:Ints .u8 w va v) (im:Ints .u8 w ma m):
 Calls Tryz.prog 90 #[.agg #[.int .i64 32768,.int .i64 F,.bool H,.int .u64 X,.slice va v.length vc,.slice ma m.length mc]] w fun e w'=>e = .returned (.int .i64 (bytesE 32768 F H v m))∧Below w.heap.size w w':=by
 obtain⟨W,hW,hbW,hbox⟩:=oxm_box w 32768 F H X va v.length vc ma m.length mc
 have HW:=hid hW
 have HB:=hid hbW
 have HO:=hid (fun W=>fldOf_any F W)
 obtain⟨d0,d1,d2,d3,d4,d5⟩:=hbox.six
 have IV:=hid (iv.below hbW)
 have IM:=hid (im.below hbW)
 have FV:=hid (fun W' (h:Ints .u8 W' va v)=>fldFits_any F v va vc W' h)
 have FM:=hid (fun W' (h:Ints .u8 W' ma m)=>fldFits_any F m ma mc W' h)
 clear hW hbW iv im
 have OV:=hid ov
 have OM:=hid om
 have hvm2:=fits_len F v m
 have HE:bytesE 32768 F H v m=if fitsB F v=false then 1032 else if (H && !fitsB F m)=true then 1033 else if H=true then maskE v m (fld F).b else 0:=by simp[bytesE]
 rw[HE]
 clear HE ov om
 obtain⟨f,hf⟩:∃f,fld F=f:=⟨_,rfl⟩
 rw[hf]at HO ⊢
 obtain⟨t,ht⟩:∃t,decide (0≤F∧F<40)=t:=⟨_,rfl⟩
 rw[ht]at HO
 clear ht hf
 unfold fldV at HO
 cases hv:fitsB F v
 · rw[hv]at FV
   clear hv hvm2
   simp only[if_true]
   go_enter Tryz.func90,Tryz.ntmps90
   go_wp2_with fail
   rw[HW.out]
   go_wp2_with fail
   refine (HO.out _).mono ?_
   rintro e w1 ⟨v',rfl,⟨a',c',rfl,hI⟩,hb⟩
   clear hI
   have hlt:=(hbox.below hb).lt
   have n2:¬w.heap.size=w1.heap.size:=by omega
   clear d0 d1 d2 d3 d4 d5
   obtain⟨d0,d1,d2,d3,d4,d5⟩:=(hbox.below hb).six
   obtain⟨W1,hW1,hbW1,hbox1⟩:=fld_box w1 f.b f.z f.m f.d (.slice a' f.v.length c')
   have HW1:=hid hW1
   have hA:=below_on hb hbW1
   clear hW1 hbox1 hbW1 hb
   go_wp2_with fail
   rw[HW1.out]
   refine (FV.out _ (IV.out.below hA)).mono ?_
   rintro e w2 ⟨rfl,hb2⟩
   replace hA:=below_on hA hb2
   clear d0 d1 d2 d3 d4 d5 hb2 HW1 n2 hlt
   obtain⟨d0,d1,d2,d3,d4,d5⟩:=(hbox.below hA).six
   have HA:=hid hA
   clear hA
   go_wp2_with fail
   go_ret
   exact⟨rfl,below_on HB.out HA.out⟩
 · rw [hv]at FV
   cases H
   · clear hv hvm2
     simp only[Bool.false_and,Bool.false_eq_true,Bool.true_eq_false,if_false]
     go_enter Tryz.func90,Tryz.ntmps90
     go_wp2_with fail
     rw[HW.out]
     go_wp2_with fail
     refine (HO.out _).mono ?_
     rintro e w1 ⟨v',rfl,⟨a',c',rfl,hI⟩,hb⟩
     clear hI
     have hlt:=(hbox.below hb).lt
     have n2:¬w.heap.size=w1.heap.size:=by omega
     clear d0 d1 d2 d3 d4 d5
     obtain⟨d0,d1,d2,d3,d4,d5⟩:=(hbox.below hb).six
     obtain⟨W1,hW1,hbW1,hbox1⟩:=fld_box w1 f.b f.z f.m f.d (.slice a' f.v.length c')
     have HW1:=hid hW1
     have hA:=below_on hb hbW1
     clear hW1 hbox1 hbW1 hb
     go_wp2_with fail
     rw[HW1.out]
     refine (FV.out _ (IV.out.below hA)).mono ?_
     rintro e w2 ⟨rfl,hb2⟩
     replace hA:=below_on hA hb2
     clear d0 d1 d2 d3 d4 d5 hb2 HW1 n2 hlt
     obtain⟨d0,d1,d2,d3,d4,d5⟩:=(hbox.below hA).six
     have HA:=hid hA
     clear hA
     go_wp2_with fail
     go_ret
     exact⟨rfl,below_on HB.out HA.out⟩
   · cases hfm:fitsB F m
     · rw[hfm]at FM
       clear hv hvm2 hfm
       simp only[Bool.not_false,Bool.and_true,Bool.true_eq_false,if_true,if_false]
       go_enter Tryz.func90,Tryz.ntmps90
       go_wp2_with fail
       rw[HW.out]
       go_wp2_with fail
       refine (HO.out _).mono ?_
       rintro e w1 ⟨v',rfl,⟨a',c',rfl,hI⟩,hb⟩
       clear hI
       have hlt:=(hbox.below hb).lt
       have n2:¬w.heap.size=w1.heap.size:=by omega
       clear d0 d1 d2 d3 d4 d5
       obtain⟨d0,d1,d2,d3,d4,d5⟩:=(hbox.below hb).six
       obtain⟨W1,hW1,hbW1,hbox1⟩:=fld_box w1 f.b f.z f.m f.d (.slice a' f.v.length c')
       have HW1:=hid hW1
       have hA:=below_on hb hbW1
       clear hW1 hbox1 hbW1 hb
       go_wp2_with fail
       rw[HW1.out]
       refine (FV.out _ (IV.out.below hA)).mono ?_
       rintro e w2 ⟨rfl,hb2⟩
       replace hA:=below_on hA hb2
       clear d0 d1 d2 d3 d4 d5 hb2 HW1 n2 hlt
       obtain⟨d0,d1,d2,d3,d4,d5⟩:=(hbox.below hA).six
       have HA:=hid hA
       clear hA
       go_wp2_with fail
       refine (FM.out _ (IM.out.below HA.out)).mono ?_
       rintro e w3 ⟨rfl,hb3⟩
       replace HA:=hid (below_on HA.out hb3)
       clear d0 d1 d2 d3 d4 d5 hb3
       obtain⟨d0,d1,d2,d3,d4,d5⟩:=(hbox.below HA.out).six
       go_wp2_with fail
       go_ret
       exact⟨rfl,below_on HB.out HA.out⟩
     · rw[hfm]at FM
       have hvm:v.length≤m.length:=Nat.le_of_eq (hvm2 hv hfm)
       clear hv hvm2 hfm
       simp only[Bool.not_true,Bool.and_false,Bool.true_eq_false,Bool.false_eq_true,if_true,if_false]
       go_enter Tryz.func90,Tryz.ntmps90
       go_wp2_with fail
       rw[HW.out]
       go_wp2_with fail
       refine (HO.out _).mono ?_
       rintro e w1 ⟨v',rfl,⟨a',c',rfl,hI⟩,hb⟩
       clear hI
       have hlt:=(hbox.below hb).lt
       have n2:¬w.heap.size=w1.heap.size:=by omega
       clear d0 d1 d2 d3 d4 d5
       obtain⟨d0,d1,d2,d3,d4,d5⟩:=(hbox.below hb).six
       obtain⟨W1,hW1,hbW1,hbox1⟩:=fld_box w1 f.b f.z f.m f.d (.slice a' f.v.length c')
       have HW1:=hid hW1
       have hA:=below_on hb hbW1
       clear hW1 hbox1 hbW1 hb
       go_wp2_with fail
       rw[HW1.out]
       refine (FV.out _ (IV.out.below hA)).mono ?_
       rintro e w2 ⟨rfl,hb2⟩
       replace hA:=below_on hA hb2
       clear d0 d1 d2 d3 d4 d5 hb2 HW1 n2 hlt
       obtain⟨d0,d1,d2,d3,d4,d5⟩:=(hbox.below hA).six
       have HA:=hid hA
       clear hA
       go_wp2_with fail
       refine (FM.out _ (IM.out.below HA.out)).mono ?_
       rintro e w3 ⟨rfl,hb3⟩
       replace HA:=hid (below_on HA.out hb3)
       clear d0 d1 d2 d3 d4 d5 hb3
       obtain⟨d0,d1,d2,d3,d4,d5⟩:=(hbox.below HA.out).six
       go_wp2_with fail
       refine (wrongMask_any 32768 F true X va v.length vc ma m.length mc v m f.b rfl rfl hvm hm hmc OV.out OM.out _ (IV.out.below HA.out) (IM.out.below HA.out)).mono ?_
       rintro e w4 ⟨rfl,hb4⟩
       go_wp2_with fail
       go_ret
       exact⟨rfl,below_on HB.out (below_on HA.out hb4)⟩
set_option maxRecDepth 100000 in
set_option maxHeartbeats 1000000 in
theorem wrongBytes_extra (F:Int) (H:Bool) (X:Int) (va:Option Addr) (vc:Nat) (ma:Option Addr) (mc:Nat) (v m:List Int) (hvm:H=true→v.length≤m.length) (hm:m.length≤1000) (hmc:m.length≤mc) (ov:Octets v) (om:Octets m) (w:World) (iv:Ints .u8 w va v) (im:Ints .u8 w ma m):
 Calls Tryz.prog 90 #[.agg #[.int .i64 65535,.int .i64 F,.bool H,.int .u64 X,.slice va v.length vc,.slice ma m.length mc]] w fun e w'=>e = .returned (.int .i64 (bytesE 65535 F H v m))∧Below w.heap.size w w':=by
 obtain⟨W,hW,hbW,hbox⟩:=oxm_box w 65535 F H X va v.length vc ma m.length mc
 have HW:=hid hW
 have HB:=hid hbW
 obtain⟨d0,d1,d2,d3,d4,d5⟩:=hbox.six
 have IV:=hid (iv.below hbW)
 have IM:=hid (im.below hbW)
 clear hW hbW iv im
 have OV:=hid ov
 have OM:=hid om
 clear ov om
 cases H
 · have HE:bytesE 65535 F false v m=0:=by simp[bytesE]
   rw[HE]
   clear HE hvm
   go_enter Tryz.func90,Tryz.ntmps90
   go_wp2_with fail
   rw[HW.out]
   go_wp2_with fail
   go_ret
   exact⟨rfl,HB.out⟩
 · have HE:bytesE 65535 F true v m=maskE v m (8*m.length):=by simp[bytesE]
   rw[HE]
   replace hvm:=hvm rfl
   clear HE
   go_enter Tryz.func90,Tryz.ntmps90
   go_wp2_with fail
   rw[HW.out]
   go_wp2_with fail
   refine (wrongMask_any 65535 F true X va v.length vc ma m.length mc v m _ rfl rfl hvm hm hmc OV.out OM.out _ IV.out IM.out).mono ?_
   rintro e w4 ⟨rfl,hb4⟩
   go_wp2_with fail
   go_ret
   exact⟨rfl,below_on HB.out hb4⟩
set_option maxRecDepth 100000 in
theorem wrongBytes_none (C F:Int) (hb:(C==32768)=false) (hx:(C==65535)=false) (H:Bool) (X:Int) (va:Option Addr) (vc:Nat) (ma:Option Addr) (mc:Nat) (v m:List Int) (hm:m.length≤1000) (w:World):
 Calls Tryz.prog 90 #[.agg #[.int .i64 C,.int .i64 F,.bool H,.int .u64 X,.slice va v.length vc,.slice ma m.length mc]] w fun e w'=>e = .returned (.int .i64 (bytesE C F H v m))∧Below w.heap.size w w':=by
 have e:bytesE C F H v m=0:=by
  have h1:C≠32768:=by simpa using hb
  have h2:C≠65535:=by simpa using hx
  simp[bytesE,h1,h2]
 rw[e]
 clear e
 go_enter Tryz.func90,Tryz.ntmps90
 go_wp2
 go_ret
 exact⟨rfl,below_alloc _ _⟩
theorem wrongBytes_any (C F:Int) (H:Bool) (X:Int) (va:Option Addr) (vc:Nat) (ma:Option Addr) (mc:Nat) (v m:List Int) (hvm:C=65535→H=true→v.length≤m.length) (hm:m.length≤1000) (hmc:m.length≤mc) (ov:Octets v) (om:Octets m) (w:World) (iv:Ints .u8 w va v) (im:Ints .u8 w ma m):
 Calls Tryz.prog 90 #[.agg #[.int .i64 C,.int .i64 F,.bool H,.int .u64 X,.slice va v.length vc,.slice ma m.length mc]] w fun e w'=>e = .returned (.int .i64 (bytesE C F H v m))∧Below w.heap.size w w':=by
 by_cases hb:C=32768
 · subst hb
   exact wrongBytes_basic F H X va vc ma mc v m hm hmc ov om w iv im
 · by_cases hx:C=65535
   · subst hx
     exact wrongBytes_extra F H X va vc ma mc v m (hvm rfl) hm hmc ov om w iv im
   · exact wrongBytes_none C F (by simpa using hb) (by simpa using hx) H X va vc ma mc v m hm w
structure Oxm8 where
 C:Int
 F:Int
 H:Bool
 X:Int
 v:List Int
 m:List Int
 n:Nat
def cls8 (b:List Int):Int:=numL (b.take 2)
def fld8 (b:List Int):Int:=numL ((b.drop 2).take 1)
def len8 (b:List Int):Int:=numL (((b.drop 2).drop 1).take 1)
def rest8 (b:List Int):List Int:=((b.drop 2).drop 1).drop 1
def body8 (b:List Int):List Int:=if cls8 b=65535 then (rest8 b).drop 4 else rest8 b
def exp8 (b:List Int):Int:=if cls8 b=65535 then numL ((rest8 b).take 4) else 0
def both8 (b:List Int):Nat:=if cls8 b=65535 then (len8 b).toNat-4 else (len8 b).toNat
def val8 (b:List Int):List Int:=(body8 b).take (both8 b/pieces8 (oddB (fld8 b)))
def mask8 (b:List Int):List Int:=if oddB (fld8 b) then ((body8 b).drop (both8 b/2)).take (both8 b/2) else []
def rawL (b:List Int):Except Int Oxm8:=
 if b.length<4 then .error 1026
 else if headE (cls8 b) (fld8 b/2) (oddB (fld8 b)) (len8 b)≠0 then .error (headE (cls8 b) (fld8 b/2) (oddB (fld8 b)) (len8 b))
 else if (rest8 b).length<(len8 b).toNat then .error 1026
 else .ok ⟨cls8 b,fld8 b/2,oddB (fld8 b),exp8 b,val8 b,mask8 b,4+(len8 b).toNat⟩
def decL (b:List Int):Except Int Oxm8:=
 match rawL b with
 | .error q=>.error q
 | .ok o=>if bytesE o.C o.F o.H o.v o.m=0 then .ok o else .error (bytesE o.C o.F o.H o.v o.m)
theorem head_basic {F n:Int} {H:Bool} (h:headE 32768 F H n=0):(0≤F∧F<40)∧n=((fld F).z:Int)*pieces8 H∧(H=true→(fld F).m=true):=by
 unfold headE at h
 simp only[if_true]at h
 by_cases hF : 0≤F∧F<40
 · by_cases hM:(H && !(fld F).m)=true
   · simp[hF,hM]at h
   · by_cases hn:n=((fld F).z:Int)*pieces8 H
     · exact⟨hF,hn,fun hh=>by subst hh;simpa using hM⟩
     · simp[hF,hM,hn]at h
 · simp[hF]at h
theorem head_extra {F n:Int} {H:Bool} (h:headE 65535 F H n=0) : 0≤n-4∧(n-4)%(pieces8 H:Int)=0∧n-4≤100*(pieces8 H:Int):=by
 unfold headE at h
 have e:¬(65535:Int)=32768:=by decide
 simp only[if_neg e,if_true]at h
 by_cases hh:n-4<0∨(n-4)%(pieces8 H:Int)≠0∨100*(pieces8 H:Int)<n-4
 · rw[if_pos hh]at h;simp at h
 · refine⟨by omega,?_,by omega⟩
   by_cases h2:(n-4)%(pieces8 H:Int)=0
   · exact h2
   · exact absurd (.inr (.inl h2)) hh
theorem head_cls {C F n:Int} {H:Bool} (h:headE C F H n=0):C=32768∨C=65535:=by
 by_cases h1:C=32768
 · exact .inl h1
 · by_cases h2:C=65535
   · exact .inr h2
   · simp[headE,h1,h2]at h
theorem refFld_box (w:World) (f:Fld) (v:Value):∃W,w.alloc (.cells #[.string f.nm,.int .i64 f.b,.int .i64 f.z,.bool f.m,.int .i64 f.d,v] 84)=W∧Below w.heap.size w W∧BoxL W w.heap.size [.string f.nm,.int .i64 f.b,.int .i64 f.z,.bool f.m,.int .i64 f.d,v]:=
 ⟨_,rfl,below_alloc _ _,BoxL.new _ _ _⟩
theorem refFld_boxN (w:World) (f:Fld) (n:Nat) (_h:f.b=n) (v:Value):∃W,w.alloc (.cells #[.string f.nm,.int .i64 (n:Int),.int .i64 f.z,.bool f.m,.int .i64 f.d,v] 84)=W∧Below w.heap.size w W∧BoxL W w.heap.size [.string f.nm,.int .i64 (n:Int),.int .i64 f.z,.bool f.m,.int .i64 f.d,v]:=
 ⟨_,rfl,below_alloc _ _,BoxL.new _ _ _⟩
def MaskWays (v m:List Int) (n:Nat) (r:Int):Prop:=
 (zeros m=true∧r=1033)∨(zeros m=false∧onesB m n=true∧r=1033)∨(zeros m=false∧onesB m n=false∧insideB v m=false∧r=1030)∨(zeros m=false∧onesB m n=false∧insideB v m=true∧r=0)
theorem mask_ways (v m:List Int) (n:Nat) (om:Octets m) (hf:onesB m n=decide (pops m=n)):MaskWays v m n (maskE v m n):=by
 unfold MaskWays
 rw[zeros_pops om,hf]
 unfold maskE
 by_cases h0:pops m=0
 · exact .inl ⟨by simp[h0],by simp[h0]⟩
 · by_cases h1:pops m=n
   · exact .inr (.inl ⟨by simp[h0],by simp[h1],by rw[if_pos (.inr (by rw[h1]))]⟩)
   · cases hi:insideB v m
     · exact .inr (.inr (.inl ⟨by simp[h0],by simp[h1],rfl,by rw[if_neg (by omega)];rfl⟩))
     · exact .inr (.inr (.inr ⟨by simp[h0],by simp[h1],rfl,by rw[if_neg (by omega)];rfl⟩))
set_option maxRecDepth 100000 in
set_option maxHeartbeats 2000000 in
theorem refWrong_basic (F:Int) (H:Bool) (X:Int) (va:Option Addr) (vc:Nat) (ma:Option Addr) (mc:Nat) (v m:List Int) (hm:m.length≤1000) (ov:Octets v) (om:Octets m) (w:World) (iv:Ints .u8 w va v) (im:Ints .u8 w ma m):
 Calls Tryz.prog 81 #[.agg #[.int .i64 32768,.int .i64 F,.bool H,.int .u64 X,.slice va v.length vc,.slice ma m.length mc]] w fun e w'=>e = .returned (.int .i64 (bytesE 32768 F H v m))∧Below w.heap.size w w':=by
 obtain⟨W,hW,hbW,hbox⟩:=oxm_box w 32768 F H X va v.length vc ma m.length mc
 have HW:=hid hW
 have HB:=hid hbW
 have HO:=hid (fun W=>refOf_any F W)
 obtain⟨d0,d1,d2,d3,d4,d5⟩:=hbox.six
 have IV:=hid (iv.below hbW)
 have IM:=hid (im.below hbW)
 have FV:=hid (fun W' (h:Ints .u8 W' va v)=>fldRefFits_any F v va vc ov W' h)
 have FM:=hid (fun W' (h:Ints .u8 W' ma m)=>fldRefFits_any F m ma mc om W' h)
 clear hW hbW iv im
 have OV:=hid ov
 have OM:=hid om
 have hvm2:=fits_len F v m
 have hab:=fun h=>fits_above (n:=F) (m:=m) h om
 have HE:bytesE 32768 F H v m=if fitsB F v=false then 1032 else if (H && !fitsB F m)=true then 1033 else if H=true then maskE v m (fld F).b else 0:=by simp[bytesE]
 rw[HE]
 clear HE ov om
 obtain⟨f,hf⟩:∃f,fld F=f:=⟨_,rfl⟩
 rw[hf]at HO hab ⊢
 obtain⟨t,ht⟩:∃t,decide (0≤F∧F<40)=t:=⟨_,rfl⟩
 rw[ht]at HO
 clear ht hf
 unfold refFldV at HO
 cases hv:fitsB F v
 · rw[hv]at FV
   clear hv hvm2 hab
   simp only[if_true]
   go_enter Tryz.func81,Tryz.ntmps81
   go_wp2_with fail
   rw[HW.out]
   go_wp2_with fail
   refine (HO.out _).mono ?_
   rintro e w1 ⟨v',rfl,⟨a',c',rfl,hI⟩,hb⟩
   clear hI
   have hlt:=(hbox.below hb).lt
   have n2:¬w.heap.size=w1.heap.size:=by omega
   clear d0 d1 d2 d3 d4 d5
   obtain⟨d0,d1,d2,d3,d4,d5⟩:=(hbox.below hb).six
   obtain⟨W1,hW1,hbW1,hbox1⟩:=refFld_box w1 f (.slice a' f.v.length c')
   have HW1:=hid hW1
   have HA:=hid (below_on hb hbW1)
   clear hW1 hbox1 hbW1 hb
   go_wp2_with fail
   rw[HW1.out]
   refine (FV.out _ (IV.out.below HA.out)).mono ?_
   rintro e w2 ⟨rfl,hb2⟩
   replace HA:=hid (below_on HA.out hb2)
   clear d0 d1 d2 d3 d4 d5 hb2 HW1 n2 hlt
   obtain⟨d0,d1,d2,d3,d4,d5⟩:=(hbox.below HA.out).six
   go_wp2_with fail
   go_ret
   exact⟨rfl,below_on HB.out HA.out⟩
 · rw [hv]at FV
   cases H
   · clear hv hvm2 hab
     simp only[Bool.false_and,Bool.false_eq_true,Bool.true_eq_false,if_false]
     go_enter Tryz.func81,Tryz.ntmps81
     go_wp2_with fail
     rw[HW.out]
     go_wp2_with fail
     refine (HO.out _).mono ?_
     rintro e w1 ⟨v',rfl,⟨a',c',rfl,hI⟩,hb⟩
     clear hI
     have hlt:=(hbox.below hb).lt
     have n2:¬w.heap.size=w1.heap.size:=by omega
     clear d0 d1 d2 d3 d4 d5
     obtain⟨d0,d1,d2,d3,d4,d5⟩:=(hbox.below hb).six
     obtain⟨W1,hW1,hbW1,hbox1⟩:=refFld_box w1 f (.slice a' f.v.length c')
     have HW1:=hid hW1
     have HA:=hid (below_on hb hbW1)
     clear hW1 hbox1 hbW1 hb
     go_wp2_with fail
     rw[HW1.out]
     refine (FV.out _ (IV.out.below HA.out)).mono ?_
     rintro e w2 ⟨rfl,hb2⟩
     replace HA:=hid (below_on HA.out hb2)
     clear d0 d1 d2 d3 d4 d5 hb2 HW1 n2 hlt
     obtain⟨d0,d1,d2,d3,d4,d5⟩:=(hbox.below HA.out).six
     go_wp2_with fail
     go_ret
     exact⟨rfl,below_on HB.out HA.out⟩
   · cases hfm:fitsB F m
     · rw[hfm]at FM
       clear hv hvm2 hfm hab
       simp only[Bool.not_false,Bool.and_true,Bool.true_eq_false,if_true,if_false]
       go_enter Tryz.func81,Tryz.ntmps81
       go_wp2_with fail
       rw[HW.out]
       go_wp2_with fail
       refine (HO.out _).mono ?_
       rintro e w1 ⟨v',rfl,⟨a',c',rfl,hI⟩,hb⟩
       clear hI
       have hlt:=(hbox.below hb).lt
       have n2:¬w.heap.size=w1.heap.size:=by omega
       clear d0 d1 d2 d3 d4 d5
       obtain⟨d0,d1,d2,d3,d4,d5⟩:=(hbox.below hb).six
       obtain⟨W1,hW1,hbW1,hbox1⟩:=refFld_box w1 f (.slice a' f.v.length c')
       have HW1:=hid hW1
       have HA:=hid (below_on hb hbW1)
       clear hW1 hbox1 hbW1 hb
       go_wp2_with fail
       rw[HW1.out]
       refine (FV.out _ (IV.out.below HA.out)).mono ?_
       rintro e w2 ⟨rfl,hb2⟩
       replace HA:=hid (below_on HA.out hb2)
       clear d0 d1 d2 d3 d4 d5 hb2 HW1 n2 hlt
       obtain⟨d0,d1,d2,d3,d4,d5⟩:=(hbox.below HA.out).six
       go_wp2_with fail
       refine (FM.out _ (IM.out.below HA.out)).mono ?_
       rintro e w3 ⟨rfl,hb3⟩
       replace HA:=hid (below_on HA.out hb3)
       clear d0 d1 d2 d3 d4 d5 hb3
       obtain⟨d0,d1,d2,d3,d4,d5⟩:=(hbox.below HA.out).six
       go_wp2_with fail
       go_ret
       exact⟨rfl,below_on HB.out HA.out⟩
     · rw[hfm]at FM
       have hvm:v.length≤m.length:=Nat.le_of_eq (hvm2 hv hfm)
       obtain⟨hn,hlz,hin,b0,hup⟩:=hab hfm
       clear hlz hin
       clear hv hvm2 hfm hab
       simp only[Bool.not_true,Bool.and_false,Bool.true_eq_false,Bool.false_eq_true,if_true,if_false]
       obtain⟨n,hnb⟩:∃n:Nat,f.b=n:=⟨f.b.toNat,by omega⟩
       rw[hnb,Int.toNat_natCast]at hn hup
       have hq:=mask_ways v m n OM.out (ones_pops hn hup)
       rw[hnb]at HO ⊢
       obtain⟨r,hr⟩:∃r,maskE v m n=r:=⟨_,rfl⟩
       rw[hr]at hq ⊢
       unfold MaskWays at hq
       clear hr hup b0
       rcases hq with⟨hz,rfl⟩|⟨hz,ho,rfl⟩|⟨hz,ho,hi,rfl⟩|⟨hz,ho,hi,rfl⟩
       · go_enter Tryz.func81,Tryz.ntmps81
         go_wp2_with fail
         rw[HW.out]
         go_wp2_with fail
         refine (HO.out _).mono ?_
         rintro e w1 ⟨v',rfl,⟨a',c',rfl,hI⟩,hb⟩
         clear hI
         have hlt:=(hbox.below hb).lt
         have n2:¬w.heap.size=w1.heap.size:=by omega
         clear d0 d1 d2 d3 d4 d5
         obtain⟨d0,d1,d2,d3,d4,d5⟩:=(hbox.below hb).six
         obtain⟨W1,hW1,hbW1,hbox1⟩:=refFld_boxN w1 f n hnb (.slice a' f.v.length c')
         have HW1:=hid hW1
         have HA:=hid (below_on hb hbW1)
         clear hW1 hbox1 hbW1 hb
         go_wp2_with fail
         rw[HW1.out]
         refine (FV.out _ (IV.out.below HA.out)).mono ?_
         rintro e w2 ⟨rfl,hb2⟩
         replace HA:=hid (below_on HA.out hb2)
         clear d0 d1 d2 d3 d4 d5 hb2 HW1 n2 hlt
         obtain⟨d0,d1,d2,d3,d4,d5⟩:=(hbox.below HA.out).six
         go_wp2_with fail
         refine (FM.out _ (IM.out.below HA.out)).mono ?_
         rintro e w3 ⟨rfl,hb3⟩
         replace HA:=hid (below_on HA.out hb3)
         clear d0 d1 d2 d3 d4 d5 hb3
         obtain⟨d0,d1,d2,d3,d4,d5⟩:=(hbox.below HA.out).six
         go_wp2_with fail
         refine (ref8Zeros_any m ma mc _ (by omega) (IM.out.below HA.out)).mono ?_
         rw[hz]
         rintro e w' ⟨rfl,rfl⟩
         go_wp2_with fail
         go_ret
         exact⟨rfl,below_on HB.out HA.out⟩
       · go_enter Tryz.func81,Tryz.ntmps81
         go_wp2_with fail
         rw[HW.out]
         go_wp2_with fail
         refine (HO.out _).mono ?_
         rintro e w1 ⟨v',rfl,⟨a',c',rfl,hI⟩,hb⟩
         clear hI
         have hlt:=(hbox.below hb).lt
         have n2:¬w.heap.size=w1.heap.size:=by omega
         clear d0 d1 d2 d3 d4 d5
         obtain⟨d0,d1,d2,d3,d4,d5⟩:=(hbox.below hb).six
         obtain⟨W1,hW1,hbW1,hbox1⟩:=refFld_boxN w1 f n hnb (.slice a' f.v.length c')
         have HW1:=hid hW1
         have HA:=hid (below_on hb hbW1)
         clear hW1 hbox1 hbW1 hb
         go_wp2_with fail
         rw[HW1.out]
         refine (FV.out _ (IV.out.below HA.out)).mono ?_
         rintro e w2 ⟨rfl,hb2⟩
         replace HA:=hid (below_on HA.out hb2)
         clear d0 d1 d2 d3 d4 d5 hb2 HW1 n2 hlt
         obtain⟨d0,d1,d2,d3,d4,d5⟩:=(hbox.below HA.out).six
         go_wp2_with fail
         refine (FM.out _ (IM.out.below HA.out)).mono ?_
         rintro e w3 ⟨rfl,hb3⟩
         replace HA:=hid (below_on HA.out hb3)
         clear d0 d1 d2 d3 d4 d5 hb3
         obtain⟨d0,d1,d2,d3,d4,d5⟩:=(hbox.below HA.out).six
         go_wp2_with fail
         refine (ref8Zeros_any m ma mc _ (by omega) (IM.out.below HA.out)).mono ?_
         rw[hz]
         rintro e w' ⟨rfl,rfl⟩
         go_wp2_with fail
         refine (ref8Ones_any m n hn (by omega) OM.out ma mc _ (IM.out.below HA.out)).mono ?_
         rw[ho]
         rintro e w' ⟨rfl,rfl⟩
         go_wp2_with fail
         go_ret
         exact⟨rfl,below_on HB.out HA.out⟩
       · go_enter Tryz.func81,Tryz.ntmps81
         go_wp2_with fail
         rw[HW.out]
         go_wp2_with fail
         refine (HO.out _).mono ?_
         rintro e w1 ⟨v',rfl,⟨a',c',rfl,hI⟩,hb⟩
         clear hI
         have hlt:=(hbox.below hb).lt
         have n2:¬w.heap.size=w1.heap.size:=by omega
         clear d0 d1 d2 d3 d4 d5
         obtain⟨d0,d1,d2,d3,d4,d5⟩:=(hbox.below hb).six
         obtain⟨W1,hW1,hbW1,hbox1⟩:=refFld_boxN w1 f n hnb (.slice a' f.v.length c')
         have HW1:=hid hW1
         have HA:=hid (below_on hb hbW1)
         clear hW1 hbox1 hbW1 hb
         go_wp2_with fail
         rw[HW1.out]
         refine (FV.out _ (IV.out.below HA.out)).mono ?_
         rintro e w2 ⟨rfl,hb2⟩
         replace HA:=hid (below_on HA.out hb2)
         clear d0 d1 d2 d3 d4 d5 hb2 HW1 n2 hlt
         obtain⟨d0,d1,d2,d3,d4,d5⟩:=(hbox.below HA.out).six
         go_wp2_with fail
         refine (FM.out _ (IM.out.below HA.out)).mono ?_
         rintro e w3 ⟨rfl,hb3⟩
         replace HA:=hid (below_on HA.out hb3)
         clear d0 d1 d2 d3 d4 d5 hb3
         obtain⟨d0,d1,d2,d3,d4,d5⟩:=(hbox.below HA.out).six
         go_wp2_with fail
         refine (ref8Zeros_any m ma mc _ (by omega) (IM.out.below HA.out)).mono ?_
         rw[hz]
         rintro e w' ⟨rfl,rfl⟩
         go_wp2_with fail
         refine (ref8Ones_any m n hn (by omega) OM.out ma mc _ (IM.out.below HA.out)).mono ?_
         rw[ho]
         rintro e w' ⟨rfl,rfl⟩
         go_wp2_with fail
         refine (ref8Inside_any v m hvm (by omega) OV.out OM.out va ma vc mc _ (IV.out.below HA.out) (IM.out.below HA.out)).mono ?_
         rw[hi]
         rintro e w5 ⟨rfl,hb5⟩
         go_wp2_with fail
         go_ret
         exact⟨rfl,below_on HB.out (below_on HA.out hb5)⟩
       · go_enter Tryz.func81,Tryz.ntmps81
         go_wp2_with fail
         rw[HW.out]
         go_wp2_with fail
         refine (HO.out _).mono ?_
         rintro e w1 ⟨v',rfl,⟨a',c',rfl,hI⟩,hb⟩
         clear hI
         have hlt:=(hbox.below hb).lt
         have n2:¬w.heap.size=w1.heap.size:=by omega
         clear d0 d1 d2 d3 d4 d5
         obtain⟨d0,d1,d2,d3,d4,d5⟩:=(hbox.below hb).six
         obtain⟨W1,hW1,hbW1,hbox1⟩:=refFld_boxN w1 f n hnb (.slice a' f.v.length c')
         have HW1:=hid hW1
         have HA:=hid (below_on hb hbW1)
         clear hW1 hbox1 hbW1 hb
         go_wp2_with fail
         rw[HW1.out]
         refine (FV.out _ (IV.out.below HA.out)).mono ?_
         rintro e w2 ⟨rfl,hb2⟩
         replace HA:=hid (below_on HA.out hb2)
         clear d0 d1 d2 d3 d4 d5 hb2 HW1 n2 hlt
         obtain⟨d0,d1,d2,d3,d4,d5⟩:=(hbox.below HA.out).six
         go_wp2_with fail
         refine (FM.out _ (IM.out.below HA.out)).mono ?_
         rintro e w3 ⟨rfl,hb3⟩
         replace HA:=hid (below_on HA.out hb3)
         clear d0 d1 d2 d3 d4 d5 hb3
         obtain⟨d0,d1,d2,d3,d4,d5⟩:=(hbox.below HA.out).six
         go_wp2_with fail
         refine (ref8Zeros_any m ma mc _ (by omega) (IM.out.below HA.out)).mono ?_
         rw[hz]
         rintro e w' ⟨rfl,rfl⟩
         go_wp2_with fail
         refine (ref8Ones_any m n hn (by omega) OM.out ma mc _ (IM.out.below HA.out)).mono ?_
         rw[ho]
         rintro e w' ⟨rfl,rfl⟩
         go_wp2_with fail
         refine (ref8Inside_any v m hvm (by omega) OV.out OM.out va ma vc mc _ (IV.out.below HA.out) (IM.out.below HA.out)).mono ?_
         rw[hi]
         rintro e w5 ⟨rfl,hb5⟩
         go_wp2_with fail
         go_ret
         exact⟨rfl,below_on HB.out (below_on HA.out hb5)⟩
set_option maxRecDepth 100000 in
set_option maxHeartbeats 2000000 in
theorem refWrong_extra (F:Int) (H:Bool) (X:Int) (va:Option Addr) (vc:Nat) (ma:Option Addr) (mc:Nat) (v m:List Int) (hvm:H=true→v.length≤m.length) (hm:m.length≤1000) (ov:Octets v) (om:Octets m) (w:World) (iv:Ints .u8 w va v) (im:Ints .u8 w ma m):
 Calls Tryz.prog 81 #[.agg #[.int .i64 65535,.int .i64 F,.bool H,.int .u64 X,.slice va v.length vc,.slice ma m.length mc]] w fun e w'=>e = .returned (.int .i64 (bytesE 65535 F H v m))∧Below w.heap.size w w':=by
 obtain⟨W,hW,hbW,hbox⟩:=oxm_box w 65535 F H X va v.length vc ma m.length mc
 have HW:=hid hW
 have HB:=hid hbW
 have HO:=hid (fun W=>refOf_any F W)
 obtain⟨d0,d1,d2,d3,d4,d5⟩:=hbox.six
 have IV:=hid (iv.below hbW)
 have IM:=hid (im.below hbW)
 clear hW hbW iv im
 have OV:=hid ov
 have OM:=hid om
 clear ov om
 obtain⟨f,hf⟩:∃f,fld F=f:=⟨_,rfl⟩
 rw[hf]at HO
 obtain⟨t,ht⟩:∃t,decide (0≤F∧F<40)=t:=⟨_,rfl⟩
 rw[ht]at HO
 clear ht hf
 unfold refFldV at HO
 cases H
 · have HE:bytesE 65535 F false v m=0:=by simp[bytesE]
   rw[HE]
   clear HE hvm
   go_enter Tryz.func81,Tryz.ntmps81
   go_wp2_with fail
   rw[HW.out]
   go_wp2_with fail
   refine (HO.out _).mono ?_
   rintro e w1 ⟨v',rfl,⟨a',c',rfl,hI⟩,hb⟩
   clear hI
   have hlt:=(hbox.below hb).lt
   have n2:¬w.heap.size=w1.heap.size:=by omega
   clear d0 d1 d2 d3 d4 d5
   obtain⟨d0,d1,d2,d3,d4,d5⟩:=(hbox.below hb).six
   obtain⟨W1,hW1,hbW1,hbox1⟩:=refFld_box w1 f (.slice a' f.v.length c')
   have HW1:=hid hW1
   have HA:=hid (below_on hb hbW1)
   clear hW1 hbox1 hbW1 hb
   go_wp2_with fail
   rw[HW1.out]
   go_ret
   exact⟨rfl,below_on HB.out HA.out⟩
 · have HE:bytesE 65535 F true v m=maskE v m ((8*m.length:Nat):Int):=by simp[bytesE]
   rw[HE]
   replace hvm:=hvm rfl
   obtain⟨n,hnn⟩:∃n:Nat,8*m.length=n:=⟨_,rfl⟩
   have hn:n≤8*m.length:=by omega
   have hni : 8*(m.length:Int)=(n:Int):=by omega
   have hq:=mask_ways v m n OM.out (by rw[←hnn];exact ones_all)
   rw[hnn]
   obtain⟨r,hr⟩:∃r,maskE v m n=r:=⟨_,rfl⟩
   rw[hr]at hq ⊢
   unfold MaskWays at hq
   clear hr HE hnn
   rcases hq with⟨hz,rfl⟩|⟨hz,ho,rfl⟩|⟨hz,ho,hi,rfl⟩|⟨hz,ho,hi,rfl⟩
   · go_enter Tryz.func81,Tryz.ntmps81
     go_wp2_with fail
     rw[HW.out]
     go_wp2_with fail
     refine (HO.out _).mono ?_
     rintro e w1 ⟨v',rfl,⟨a',c',rfl,hI⟩,hb⟩
     clear hI
     have hlt:=(hbox.below hb).lt
     have n2:¬w.heap.size=w1.heap.size:=by omega
     clear d0 d1 d2 d3 d4 d5
     obtain⟨d0,d1,d2,d3,d4,d5⟩:=(hbox.below hb).six
     obtain⟨W1,hW1,hbW1,hbox1⟩:=refFld_box w1 f (.slice a' f.v.length c')
     have HW1:=hid hW1
     have HA:=hid (below_on hb hbW1)
     clear hW1 hbox1 hbW1 hb
     go_wp2_with fail
     rw[HW1.out]
     clear d0 d1 d2 d3 d4 d5 n2 hlt
     obtain⟨d0,d1,d2,d3,d4,d5⟩:=(hbox.below HA.out).six
     refine (ref8Zeros_any m ma mc _ (by omega) (IM.out.below HA.out)).mono ?_
     rw[hz]
     rintro e w' ⟨rfl,rfl⟩
     go_wp2_with fail
     go_ret
     exact⟨rfl,below_on HB.out HA.out⟩
   · go_enter Tryz.func81,Tryz.ntmps81
     go_wp2_with fail
     rw[HW.out]
     go_wp2_with fail
     refine (HO.out _).mono ?_
     rintro e w1 ⟨v',rfl,⟨a',c',rfl,hI⟩,hb⟩
     clear hI
     have hlt:=(hbox.below hb).lt
     have n2:¬w.heap.size=w1.heap.size:=by omega
     clear d0 d1 d2 d3 d4 d5
     obtain⟨d0,d1,d2,d3,d4,d5⟩:=(hbox.below hb).six
     obtain⟨W1,hW1,hbW1,hbox1⟩:=refFld_box w1 f (.slice a' f.v.length c')
     have HW1:=hid hW1
     have HA:=hid (below_on hb hbW1)
     clear hW1 hbox1 hbW1 hb
     go_wp2_with fail
     rw[HW1.out]
     clear d0 d1 d2 d3 d4 d5 n2 hlt
     obtain⟨d0,d1,d2,d3,d4,d5⟩:=(hbox.below HA.out).six
     refine (ref8Zeros_any m ma mc _ (by omega) (IM.out.below HA.out)).mono ?_
     rw[hz]
     rintro e w' ⟨rfl,rfl⟩
     go_wp2_with fail
     refine (ref8Ones_any m n hn (by omega) OM.out ma mc _ (IM.out.below HA.out)).mono ?_
     rw[ho]
     rintro e w' ⟨rfl,rfl⟩
     go_wp2_with fail
     go_ret
     exact⟨rfl,below_on HB.out HA.out⟩
   · go_enter Tryz.func81,Tryz.ntmps81
     go_wp2_with fail
     rw[HW.out]
     go_wp2_with fail
     refine (HO.out _).mono ?_
     rintro e w1 ⟨v',rfl,⟨a',c',rfl,hI⟩,hb⟩
     clear hI
     have hlt:=(hbox.below hb).lt
     have n2:¬w.heap.size=w1.heap.size:=by omega
     clear d0 d1 d2 d3 d4 d5
     obtain⟨d0,d1,d2,d3,d4,d5⟩:=(hbox.below hb).six
     obtain⟨W1,hW1,hbW1,hbox1⟩:=refFld_box w1 f (.slice a' f.v.length c')
     have HW1:=hid hW1
     have HA:=hid (below_on hb hbW1)
     clear hW1 hbox1 hbW1 hb
     go_wp2_with fail
     rw[HW1.out]
     clear d0 d1 d2 d3 d4 d5 n2 hlt
     obtain⟨d0,d1,d2,d3,d4,d5⟩:=(hbox.below HA.out).six
     refine (ref8Zeros_any m ma mc _ (by omega) (IM.out.below HA.out)).mono ?_
     rw[hz]
     rintro e w' ⟨rfl,rfl⟩
     go_wp2_with fail
     refine (ref8Ones_any m n hn (by omega) OM.out ma mc _ (IM.out.below HA.out)).mono ?_
     rw[ho]
     rintro e w' ⟨rfl,rfl⟩
     go_wp2_with fail
     refine (ref8Inside_any v m hvm (by omega) OV.out OM.out va ma vc mc _ (IV.out.below HA.out) (IM.out.below HA.out)).mono ?_
     rw[hi]
     rintro e w5 ⟨rfl,hb5⟩
     go_wp2_with fail
     go_ret
     exact⟨rfl,below_on HB.out (below_on HA.out hb5)⟩
   · go_enter Tryz.func81,Tryz.ntmps81
     go_wp2_with fail
     rw[HW.out]
     go_wp2_with fail
     refine (HO.out _).mono ?_
     rintro e w1 ⟨v',rfl,⟨a',c',rfl,hI⟩,hb⟩
     clear hI
     have hlt:=(hbox.below hb).lt
     have n2:¬w.heap.size=w1.heap.size:=by omega
     clear d0 d1 d2 d3 d4 d5
     obtain⟨d0,d1,d2,d3,d4,d5⟩:=(hbox.below hb).six
     obtain⟨W1,hW1,hbW1,hbox1⟩:=refFld_box w1 f (.slice a' f.v.length c')
     have HW1:=hid hW1
     have HA:=hid (below_on hb hbW1)
     clear hW1 hbox1 hbW1 hb
     go_wp2_with fail
     rw[HW1.out]
     clear d0 d1 d2 d3 d4 d5 n2 hlt
     obtain⟨d0,d1,d2,d3,d4,d5⟩:=(hbox.below HA.out).six
     refine (ref8Zeros_any m ma mc _ (by omega) (IM.out.below HA.out)).mono ?_
     rw[hz]
     rintro e w' ⟨rfl,rfl⟩
     go_wp2_with fail
     refine (ref8Ones_any m n hn (by omega) OM.out ma mc _ (IM.out.below HA.out)).mono ?_
     rw[ho]
     rintro e w' ⟨rfl,rfl⟩
     go_wp2_with fail
     refine (ref8Inside_any v m hvm (by omega) OV.out OM.out va ma vc mc _ (IV.out.below HA.out) (IM.out.below HA.out)).mono ?_
     rw[hi]
     rintro e w5 ⟨rfl,hb5⟩
     go_wp2_with fail
     go_ret
     exact⟨rfl,below_on HB.out (below_on HA.out hb5)⟩
def rightB (C F:Int) (H:Bool) (X:Int) (v m:List Int):Bool:=
 room8 C F X&&decide (m.length=maskZ H v.length)&&decide (headE C F H (behind8 C v.length m.length)=0)&&decide (bytesE C F H v m=0)
theorem right_room {C F X:Int} {H:Bool} {v m:List Int} (h:room8 C F X=false):rightB C F H X v m=false:=by simp[rightB,h]
theorem right_mask {C F X:Int} {H:Bool} {v m:List Int} (h:m.length≠maskZ H v.length):rightB C F H X v m=false:=by simp[rightB,h]
theorem right_head {C F X:Int} {H:Bool} {v m:List Int} (h:headE C F H (behind8 C v.length m.length)≠0):rightB C F H X v m=false:=by simp[rightB,h]
theorem right_bytes {C F X:Int} {H:Bool} {v m:List Int} (h:bytesE C F H v m≠0):rightB C F H X v m=false:=by simp[rightB,h]
set_option maxRecDepth 100000 in
set_option maxHeartbeats 1000000 in
theorem right8_any (C F:Int) (H:Bool) (X:Int) (va:Option Addr) (vc:Nat) (ma:Option Addr) (mc:Nat) (v m:List Int) (hv:v.length≤1000) (hm:m.length≤1000) (hmc:m.length≤mc) (ov:Octets v) (om:Octets m) (w:World) (iv:Ints .u8 w va v) (im:Ints .u8 w ma m):
 Calls Tryz.prog 75 #[.agg #[.int .i64 C,.int .i64 F,.bool H,.int .u64 X,.slice va v.length vc,.slice ma m.length mc]] w fun e w'=>e = .returned (.bool (rightB C F H X v m))∧Below w.heap.size w w':=by
 obtain⟨W,hW,hbW,hbox⟩:=oxm_box w C F H X va v.length vc ma m.length mc
 have HW:=hid hW
 have HB:=hid hbW
 obtain⟨d0,d1,d2,d3,d4,d5⟩:=hbox.six
 have IV:=hid (iv.below hbW)
 have IM:=hid (im.below hbW)
 clear hW hbW iv im
 have hb1:behind8 C v.length m.length≤2004:=by unfold behind8;split<;>omega
 have R1:=hid (fun W=>hasRoom8_any C F H X va v.length vc ma m.length mc W)
 have R2:=hid (fun W=>maskSize_any C F H X va v.length vc ma m.length mc W)
 have R3:=hid (fun W=>behind8_any C F H X va v.length vc ma m.length mc W (by omega) (by omega))
 have R4:=hid (fun W=>wrongHead_any C F H X va v.length vc ma m.length mc (behind8 C v.length m.length) W (by omega) (by omega))
 cases h1:room8 C F X
 · rw[right_room h1]
   rw[h1]at R1
   clear h1
   go_enter Tryz.func75,Tryz.ntmps75
   go_wp2_with fail
   rw[HW.out]
   have c0:=Wk.cell d0
   have c1:=Wk.cell d1
   have c2:=Wk.cell d2
   have c3:=Wk.cell d3
   have c4:=Wk.cell d4
   have c5:=Wk.cell d5
   clear d0 d1 d2 d3 d4 d5
   refine wp_region_wk (by kernel_rfl) (by kernel_rfl) ?_
   repeat (go_big_quiet_step (first|(go_at_call 87;exact Wk.call (R1.out _))))
   refine wpQuiet_nil ?_
   rintro w2 ⟨⟨_,hb2⟩,rfl⟩
   go_wp2_with fail
   go_ret
   exact⟨rfl,below_on HB.out hb2⟩
 · rw [h1]at R1
   by_cases h2:m.length=maskZ H v.length
   · have n2:((m.length:Int)==(maskZ H v.length:Int))=true:=by simp[h2]
     by_cases h3:headE C F H (behind8 C v.length m.length)=0
     · have R5:=hid (fun W iv im=>wrongBytes_any C F H X va vc ma mc v m (fun _ h=>by rw[h2,h];exact Nat.le_refl _) hm hmc ov om W iv im)
       by_cases h4:bytesE C F H v m=0
       · rw[show rightB C F H X v m=true by simp[rightB,h1,h2.symm,h3,h4]]
         rw[h3]at R4
         rw[h4]at R5
         clear h1 h2 h3 h4 ov om
         go_enter Tryz.func75,Tryz.ntmps75
         go_wp2_with fail
         rw[HW.out]
         have c0:=Wk.cell d0
         have c1:=Wk.cell d1
         have c2:=Wk.cell d2
         have c3:=Wk.cell d3
         have c4:=Wk.cell d4
         have c5:=Wk.cell d5
         clear d0 d1 d2 d3 d4 d5
         refine wp_region_wk (by kernel_rfl) (by kernel_rfl) ?_
         repeat (go_big_quiet_step (first|(go_at_call 87;exact Wk.call (R1.out _))|(go_at_call 88;exact Wk.call (R2.out _))|(go_at_call 78;exact Wk.call (R3.out _))|(go_at_call 89;exact Wk.call (R4.out _))|(go_at_call 90;exact Wk.call (R5.out _ (IV.out.below (Wk.bel _)) (IM.out.below (Wk.bel _))))))
         refine wpQuiet_nil ?_
         rintro w2 ⟨⟨_,hb2⟩,rfl⟩
         go_wp2_with fail
         go_ret
         exact⟨rfl,below_on HB.out hb2⟩
       · rw[right_bytes h4]
         rw[h3]at R4
         obtain⟨q,hq⟩:∃q,bytesE C F H v m=q:=⟨_,rfl⟩
         rw[hq]at R5 h4
         have n4:(q==0)=false:=by simpa using h4
         clear h1 h2 h3 h4 ov om hq
         go_enter Tryz.func75,Tryz.ntmps75
         go_wp2_with fail
         rw[HW.out]
         have c0:=Wk.cell d0
         have c1:=Wk.cell d1
         have c2:=Wk.cell d2
         have c3:=Wk.cell d3
         have c4:=Wk.cell d4
         have c5:=Wk.cell d5
         clear d0 d1 d2 d3 d4 d5
         refine wp_region_wk (by kernel_rfl) (by kernel_rfl) ?_
         repeat (go_big_quiet_step (first|(go_at_call 87;exact Wk.call (R1.out _))|(go_at_call 88;exact Wk.call (R2.out _))|(go_at_call 78;exact Wk.call (R3.out _))|(go_at_call 89;exact Wk.call (R4.out _))|(go_at_call 90;exact Wk.call (R5.out _ (IV.out.below (Wk.bel _)) (IM.out.below (Wk.bel _))))))
         refine wpQuiet_nil ?_
         rintro w2 ⟨⟨_,hb2⟩,rfl⟩
         go_wp2_with fail
         go_ret
         exact⟨rfl,below_on HB.out hb2⟩
     · rw[right_head h3]
       obtain⟨q,hq⟩:∃q,headE C F H (behind8 C v.length m.length)=q:=⟨_,rfl⟩
       rw[hq]at R4 h3
       have n4:(q==0)=false:=by simpa using h3
       clear h1 h2 h3 ov om hq
       go_enter Tryz.func75,Tryz.ntmps75
       go_wp2_with fail
       rw[HW.out]
       have c0:=Wk.cell d0
       have c1:=Wk.cell d1
       have c2:=Wk.cell d2
       have c3:=Wk.cell d3
       have c4:=Wk.cell d4
       have c5:=Wk.cell d5
       clear d0 d1 d2 d3 d4 d5
       refine wp_region_wk (by kernel_rfl) (by kernel_rfl) ?_
       repeat (go_big_quiet_step (first|(go_at_call 87;exact Wk.call (R1.out _))|(go_at_call 88;exact Wk.call (R2.out _))|(go_at_call 78;exact Wk.call (R3.out _))|(go_at_call 89;exact Wk.call (R4.out _))))
       refine wpQuiet_nil ?_
       rintro w2 ⟨⟨_,hb2⟩,rfl⟩
       go_wp2_with fail
       go_ret
       exact⟨rfl,below_on HB.out hb2⟩
   · rw[right_mask h2]
     have n2:((m.length:Int)==(maskZ H v.length:Int))=false:=by simp;omega
     clear h1 h2 ov om
     go_enter Tryz.func75,Tryz.ntmps75
     go_wp2_with fail
     rw[HW.out]
     have c0:=Wk.cell d0
     have c1:=Wk.cell d1
     have c2:=Wk.cell d2
     have c3:=Wk.cell d3
     have c4:=Wk.cell d4
     have c5:=Wk.cell d5
     clear d0 d1 d2 d3 d4 d5
     refine wp_region_wk (by kernel_rfl) (by kernel_rfl) ?_
     repeat (go_big_quiet_step (first|(go_at_call 87;exact Wk.call (R1.out _))|(go_at_call 88;exact Wk.call (R2.out _))))
     refine wpQuiet_nil ?_
     rintro w2 ⟨⟨_,hb2⟩,rfl⟩
     go_wp2_with fail
     go_ret
     exact⟨rfl,below_on HB.out hb2⟩
theorem refFld_box3 (w:World) (f:Fld) (M:Bool) (v:Value):∃W,w.alloc (.cells #[.string f.nm,.int .i64 f.b,.int .i64 f.z,.bool M,.int .i64 f.d,v] 84)=W∧Below w.heap.size w W∧BoxL W w.heap.size [.string f.nm,.int .i64 f.b,.int .i64 f.z,.bool M,.int .i64 f.d,v]:=
 ⟨_,rfl,below_alloc _ _,BoxL.new _ _ _⟩
theorem fits_z {n:Int} {v:List Int} (h:fitsB n v=true):v.length=(fld n).z∧0≤n∧n<40:=by
 unfold fitsB at h
 simp only[Bool.and_eq_true,decide_eq_true_eq]at h
 exact⟨h.1.2,h.1.1⟩
theorem right_basic {F X:Int} {H:Bool} {v m:List Int} (h2:m.length=maskZ H v.length) (hF : 0≤F∧F<40) (hX:X=0) (hM:(H && !(fld F).m)=false) (hb:bytesE 32768 F H v m=0):rightB 32768 F H X v m=true:=by
 have hv:fitsB F v=true:=by
  cases h:fitsB F v
  · simp[bytesE,h]at hb
  · rfl
 have hz:=(fits_z hv).1
 have hh:headE 32768 F H (behind8 32768 v.length m.length)=0:=by
  rw[h2]
  cases H
  · simp[headE,hF,behind8,maskZ,pieces8,hz]
  · have:(fld F).m=true:=by simpa using hM
    simp[headE,hF,behind8,maskZ,pieces8,hz,this]
    omega
 simp[rightB,room8,hX,h2.symm,hh,hb]
theorem right_extra {F X:Int} {H:Bool} {v m:List Int} (h2:m.length=maskZ H v.length) (hF : 0≤F∧F≤127) (hX:X≤4294967295) (hl:v.length≤100) (hb:bytesE 65535 F H v m=0):rightB 65535 F H X v m=true:=by
 have hh:headE 65535 F H (behind8 65535 v.length m.length)=0:=by
  rw[h2]
  cases H
  · simp[headE,behind8,maskZ,pieces8,Int.emod_one]
    omega
  · simp[headE,behind8,maskZ,pieces8]
    omega
 simp[rightB,room8,hX,hF,h2.symm,hh,hb]
theorem right_long {F X:Int} {H:Bool} {v m:List Int} (h2:m.length=maskZ H v.length) (hl : 100<v.length):rightB 65535 F H X v m=false:=by
 refine right_head ?_
 rw[h2]
 cases H
 · simp[headE,behind8,maskZ,pieces8,Int.emod_one]
   omega
 · simp[headE,behind8,maskZ,pieces8]
   omega
theorem right_none {C F X:Int} {H:Bool} {v m:List Int} (h1:C≠32768) (h2:C≠65535):rightB C F H X v m=false:=
 right_head (by simp[headE,h1,h2])
set_option maxRecDepth 100000 in
set_option maxHeartbeats 1000000 in
theorem ref8Right_mask (C:Int) (F:Int) (H:Bool) (X:Int) (va:Option Addr) (vc:Nat) (ma:Option Addr) (mc:Nat) (v m:List Int) (hv:v.length≤1000) (hm:m.length≤1000) (ov:Octets v) (om:Octets m) (w:World) (iv:Ints .u8 w va v) (im:Ints .u8 w ma m) (h2:m.length≠maskZ H v.length):
 Calls Tryz.prog 66 #[.agg #[.int .i64 C,.int .i64 F,.bool H,.int .u64 X,.slice va v.length vc,.slice ma m.length mc]] w fun e w'=>e = .returned (.bool (rightB C F H X v m))∧Below w.heap.size w w':=by
 rw[right_mask h2]
 cases H
 · have h3:m.length≠0:=h2
   obtain⟨ml,hml⟩:∃ml,m.length=ml:=⟨_,rfl⟩
   rw[hml]at h3 ⊢
   have n1 : 0<(ml:Int):=by omega
   clear h2 h3 hml hv hm ov om iv im
   go_enter Tryz.func66,Tryz.ntmps66
   go_wp2
   go_ret
   exact⟨rfl,below_alloc _ _⟩
 · have h3:m.length≠v.length:=h2
   have n1:((m.length:Int) != (v.length:Int))=true:=by simp;omega
   clear h2 h3 hv hm ov om iv im
   go_enter Tryz.func66,Tryz.ntmps66
   go_wp2
   go_ret
   exact⟨rfl,below_alloc _ _⟩
set_option maxRecDepth 100000 in
set_option maxHeartbeats 2000000 in
theorem ref8Right_basic (F:Int) (H:Bool) (X:Int) (va:Option Addr) (vc:Nat) (ma:Option Addr) (mc:Nat) (v m:List Int) (hv:v.length≤1000) (hm:m.length≤1000) (ov:Octets v) (om:Octets m) (w:World) (iv:Ints .u8 w va v) (im:Ints .u8 w ma m) (h2:m.length=maskZ H v.length):
 Calls Tryz.prog 66 #[.agg #[.int .i64 32768,.int .i64 F,.bool H,.int .u64 X,.slice va v.length vc,.slice ma m.length mc]] w fun e w'=>e = .returned (.bool (rightB 32768 F H X v m))∧Below w.heap.size w w':=by
 obtain⟨W,hW,hbW,hbox⟩:=oxm_box w 32768 F H X va v.length vc ma m.length mc
 have HW:=hid hW
 have HB:=hid hbW
 obtain⟨d0,d1,d2,d3,d4,d5⟩:=hbox.six
 have IV:=hid (iv.below hbW)
 have IM:=hid (im.below hbW)
 clear hW hbW iv im
 have HO:=hid (fun W=>refOf_any F W)
 have RW:=hid (fun W iv im=>refWrong_basic F H X va vc ma mc v m hm ov om W iv im)
 clear ov om
 have hr0:=fun h1 h2' h3 h4=>right_basic (F:=F) (X:=X) (v:=v) (m:=m) h2 h1 h2' h3 h4
 have n1:H=false→m = []:=by rintro rfl;simpa [maskZ]using h2
 have n3:H=true→((m.length:Int) != (v.length:Int))=false:=by rintro rfl;simp[maskZ]at h2;simp[h2]
 clear h2
 by_cases hF : 0≤F∧F<40
 · rw [decide_eq_true hF]at HO
   by_cases hX:X=0
   · subst hX
     obtain⟨f,hf⟩:∃f,fld F=f:=⟨_,rfl⟩
     by_cases hM:(H && !(fld F).m)=false
     · by_cases hb:bytesE 32768 F H v m=0
       · rw[hr0 hF rfl hM hb]
         rw[hb]at RW
         rw[hf]at HO hM
         unfold refFldV at HO
         clear hb hr0 hf hF
         rcases (show H=false∨H=true∧f.m=true by cases H<;>simp_all) with rfl|⟨rfl,hfm⟩
         · obtain rfl:=n1 rfl
           simp only[List.length_nil]at HW
           clear hM
           go_enter Tryz.func66,Tryz.ntmps66
           go_wp2_with fail
           rw[HW.out]
           go_wp2_with fail
           refine (HO.out _).mono ?_
           rintro e w1 ⟨v',rfl,⟨a',c',rfl,hI⟩,hb⟩
           clear hI
           have hbx:=hbox.below hb
           have hlt:=hbx.lt
           have n2:¬w.heap.size=w1.heap.size:=by omega
           clear d0 d1 d2 d3 d4 d5
           obtain⟨d0,d1,d2,d3,d4,d5⟩:=hbx.six
           go_wp2_with fail
           obtain⟨W1,rfl,hbW1,hbox1⟩:=refFld_box3 w1 f f.m (.slice a' f.v.length c')
           have HA:=hid (below_on hb hbW1)
           clear d0 d1 d2 d3 d4 d5
           obtain⟨d0,d1,d2,d3,d4,d5⟩:=(hbx.below hbW1).six
           obtain⟨_,_,_,g3,_,_⟩:=hbox1.six
           have k3:=Wk.cell g3
           refine (RW.out _ (IV.out.below HA.out) (IM.out.below HA.out)).mono ?_
           rintro e w2 ⟨rfl,hb2⟩
           go_wp2_with fail
           go_ret
           exact⟨rfl,below_on HB.out (below_on HA.out hb2)⟩
         · have n3:=n3 rfl
           rw[hfm]at HO
           clear hfm hM
           go_enter Tryz.func66,Tryz.ntmps66
           go_wp2_with fail
           rw[HW.out]
           go_wp2_with fail
           refine (HO.out _).mono ?_
           rintro e w1 ⟨v',rfl,⟨a',c',rfl,hI⟩,hb⟩
           clear hI
           have hbx:=hbox.below hb
           have hlt:=hbx.lt
           have n2:¬w.heap.size=w1.heap.size:=by omega
           clear d0 d1 d2 d3 d4 d5
           obtain⟨d0,d1,d2,d3,d4,d5⟩:=hbx.six
           go_wp2_with fail
           obtain⟨W1,rfl,hbW1,hbox1⟩:=refFld_box3 w1 f true (.slice a' f.v.length c')
           have HA:=hid (below_on hb hbW1)
           clear d0 d1 d2 d3 d4 d5
           obtain⟨d0,d1,d2,d3,d4,d5⟩:=(hbx.below hbW1).six
           obtain⟨_,_,_,g3,_,_⟩:=hbox1.six
           have k3:=Wk.cell g3
           refine (RW.out _ (IV.out.below HA.out) (IM.out.below HA.out)).mono ?_
           rintro e w2 ⟨rfl,hb2⟩
           go_wp2_with fail
           go_ret
           exact⟨rfl,below_on HB.out (below_on HA.out hb2)⟩
       · rw[right_bytes hb]
         obtain⟨q,hq⟩:∃q,bytesE 32768 F H v m=q:=⟨_,rfl⟩
         rw[hq]at RW hb
         have n4:(q==0)=false:=by simpa using hb
         rw[hf]at HO hM
         unfold refFldV at HO
         clear hb hr0 hf hF hq
         rcases (show H=false∨H=true∧f.m=true by cases H<;>simp_all) with rfl|⟨rfl,hfm⟩
         · obtain rfl:=n1 rfl
           simp only[List.length_nil]at HW
           clear hM
           go_enter Tryz.func66,Tryz.ntmps66
           go_wp2_with fail
           rw[HW.out]
           go_wp2_with fail
           refine (HO.out _).mono ?_
           rintro e w1 ⟨v',rfl,⟨a',c',rfl,hI⟩,hb⟩
           clear hI
           have hbx:=hbox.below hb
           have hlt:=hbx.lt
           have n2:¬w.heap.size=w1.heap.size:=by omega
           clear d0 d1 d2 d3 d4 d5
           obtain⟨d0,d1,d2,d3,d4,d5⟩:=hbx.six
           go_wp2_with fail
           obtain⟨W1,rfl,hbW1,hbox1⟩:=refFld_box3 w1 f f.m (.slice a' f.v.length c')
           have HA:=hid (below_on hb hbW1)
           clear d0 d1 d2 d3 d4 d5
           obtain⟨d0,d1,d2,d3,d4,d5⟩:=(hbx.below hbW1).six
           obtain⟨_,_,_,g3,_,_⟩:=hbox1.six
           have k3:=Wk.cell g3
           refine (RW.out _ (IV.out.below HA.out) (IM.out.below HA.out)).mono ?_
           rintro e w2 ⟨rfl,hb2⟩
           go_wp2_with fail
           go_ret
           exact⟨rfl,below_on HB.out (below_on HA.out hb2)⟩
         · have n3:=n3 rfl
           rw[hfm]at HO
           clear hfm hM
           go_enter Tryz.func66,Tryz.ntmps66
           go_wp2_with fail
           rw[HW.out]
           go_wp2_with fail
           refine (HO.out _).mono ?_
           rintro e w1 ⟨v',rfl,⟨a',c',rfl,hI⟩,hb⟩
           clear hI
           have hbx:=hbox.below hb
           have hlt:=hbx.lt
           have n2:¬w.heap.size=w1.heap.size:=by omega
           clear d0 d1 d2 d3 d4 d5
           obtain⟨d0,d1,d2,d3,d4,d5⟩:=hbx.six
           go_wp2_with fail
           obtain⟨W1,rfl,hbW1,hbox1⟩:=refFld_box3 w1 f true (.slice a' f.v.length c')
           have HA:=hid (below_on hb hbW1)
           clear d0 d1 d2 d3 d4 d5
           obtain⟨d0,d1,d2,d3,d4,d5⟩:=(hbx.below hbW1).six
           obtain⟨_,_,_,g3,_,_⟩:=hbox1.six
           have k3:=Wk.cell g3
           refine (RW.out _ (IV.out.below HA.out) (IM.out.below HA.out)).mono ?_
           rintro e w2 ⟨rfl,hb2⟩
           go_wp2_with fail
           go_ret
           exact⟨rfl,below_on HB.out (below_on HA.out hb2)⟩
     · have hh:rightB 32768 F H 0 v m=false:=right_head (by
        have:(H && !(fld F).m)=true:=by simpa using hM
        simp only[headE,if_true,this]
        simp[hF])
       rw[hh]
       rw[hf]at HO hM
       unfold refFldV at HO
       have hM':H=true∧f.m=false:=by simpa using hM
       clear hr0 hf hF hh hM
       obtain⟨rfl,hfm⟩:=hM'
       rw[hfm]at HO
       clear hfm
       have n3:=n3 rfl
       go_enter Tryz.func66,Tryz.ntmps66
       go_wp2_with fail
       rw[HW.out]
       go_wp2_with fail
       refine (HO.out _).mono ?_
       rintro e w1 ⟨v',rfl,⟨a',c',rfl,hI⟩,hb⟩
       clear hI
       have hbx:=hbox.below hb
       have hlt:=hbx.lt
       have n2:¬w.heap.size=w1.heap.size:=by omega
       clear d0 d1 d2 d3 d4 d5
       obtain⟨d0,d1,d2,d3,d4,d5⟩:=hbx.six
       go_wp2_with fail
       obtain⟨W1,rfl,hbW1,hbox1⟩:=refFld_box3 w1 f false (.slice a' f.v.length c')
       have HA:=hid (below_on hb hbW1)
       clear d0 d1 d2 d3 d4 d5
       obtain⟨d0,d1,d2,d3,d4,d5⟩:=(hbx.below hbW1).six
       obtain⟨_,_,_,g3,_,_⟩:=hbox1.six
       have k3:=Wk.cell g3
       go_ret
       exact⟨rfl,below_on HB.out HA.out⟩
   · have n5:(X==0)=false:=by simpa using hX
     have hh:rightB 32768 F H X v m=false:=right_room (by simp[room8,hX])
     rw[hh]
     obtain⟨f,hf⟩:∃f,fld F=f:=⟨_,rfl⟩
     rw[hf]at HO
     unfold refFldV at HO
     clear hr0 hf hF hh hX
     cases H
     · obtain rfl:=n1 rfl
       simp only[List.length_nil]at HW
       go_enter Tryz.func66,Tryz.ntmps66
       go_wp2_with fail
       rw[HW.out]
       go_wp2_with fail
       refine (HO.out _).mono ?_
       rintro e w1 ⟨v',rfl,⟨a',c',rfl,hI⟩,hb⟩
       clear hI
       have hbx:=hbox.below hb
       have hlt:=hbx.lt
       have n2:¬w.heap.size=w1.heap.size:=by omega
       clear d0 d1 d2 d3 d4 d5
       obtain⟨d0,d1,d2,d3,d4,d5⟩:=hbx.six
       go_wp2_with fail
       obtain⟨W1,rfl,hbW1,hbox1⟩:=refFld_box3 w1 f f.m (.slice a' f.v.length c')
       have HA:=hid (below_on hb hbW1)
       clear d0 d1 d2 d3 d4 d5
       obtain⟨d0,d1,d2,d3,d4,d5⟩:=(hbx.below hbW1).six
       obtain⟨_,_,_,g3,_,_⟩:=hbox1.six
       have k3:=Wk.cell g3
       go_ret
       exact⟨rfl,below_on HB.out HA.out⟩
     · have n3:=n3 rfl
       go_enter Tryz.func66,Tryz.ntmps66
       go_wp2_with fail
       rw[HW.out]
       go_wp2_with fail
       refine (HO.out _).mono ?_
       rintro e w1 ⟨v',rfl,⟨a',c',rfl,hI⟩,hb⟩
       clear hI
       have hbx:=hbox.below hb
       have hlt:=hbx.lt
       have n2:¬w.heap.size=w1.heap.size:=by omega
       clear d0 d1 d2 d3 d4 d5
       obtain⟨d0,d1,d2,d3,d4,d5⟩:=hbx.six
       go_wp2_with fail
       obtain⟨W1,rfl,hbW1,hbox1⟩:=refFld_box3 w1 f f.m (.slice a' f.v.length c')
       have HA:=hid (below_on hb hbW1)
       clear d0 d1 d2 d3 d4 d5
       obtain⟨d0,d1,d2,d3,d4,d5⟩:=(hbx.below hbW1).six
       obtain⟨_,_,_,g3,_,_⟩:=hbox1.six
       have k3:=Wk.cell g3
       go_ret
       exact⟨rfl,below_on HB.out HA.out⟩
 · rw[decide_eq_false hF]at HO
   have hh:rightB 32768 F H X v m=false:=right_head (by simp[headE,hF])
   rw[hh]
   obtain⟨f,hf⟩:∃f,fld F=f:=⟨_,rfl⟩
   rw[hf]at HO
   unfold refFldV at HO
   clear hr0 hf hF hh
   cases H
   · obtain rfl:=n1 rfl
     simp only[List.length_nil]at HW
     go_enter Tryz.func66,Tryz.ntmps66
     go_wp2_with fail
     rw[HW.out]
     go_wp2_with fail
     refine (HO.out _).mono ?_
     rintro e w1 ⟨v',rfl,⟨a',c',rfl,hI⟩,hb⟩
     clear hI
     have hbx:=hbox.below hb
     have hlt:=hbx.lt
     have n2:¬w.heap.size=w1.heap.size:=by omega
     clear d0 d1 d2 d3 d4 d5
     obtain⟨d0,d1,d2,d3,d4,d5⟩:=hbx.six
     go_wp2_with fail
     obtain⟨W1,rfl,hbW1,hbox1⟩:=refFld_box3 w1 f f.m (.slice a' f.v.length c')
     have HA:=hid (below_on hb hbW1)
     clear d0 d1 d2 d3 d4 d5
     obtain⟨d0,d1,d2,d3,d4,d5⟩:=(hbx.below hbW1).six
     obtain⟨_,_,_,g3,_,_⟩:=hbox1.six
     have k3:=Wk.cell g3
     go_ret
     exact⟨rfl,below_on HB.out HA.out⟩
   · have n3:=n3 rfl
     go_enter Tryz.func66,Tryz.ntmps66
     go_wp2_with fail
     rw[HW.out]
     go_wp2_with fail
     refine (HO.out _).mono ?_
     rintro e w1 ⟨v',rfl,⟨a',c',rfl,hI⟩,hb⟩
     clear hI
     have hbx:=hbox.below hb
     have hlt:=hbx.lt
     have n2:¬w.heap.size=w1.heap.size:=by omega
     clear d0 d1 d2 d3 d4 d5
     obtain⟨d0,d1,d2,d3,d4,d5⟩:=hbx.six
     go_wp2_with fail
     obtain⟨W1,rfl,hbW1,hbox1⟩:=refFld_box3 w1 f f.m (.slice a' f.v.length c')
     have HA:=hid (below_on hb hbW1)
     clear d0 d1 d2 d3 d4 d5
     obtain⟨d0,d1,d2,d3,d4,d5⟩:=(hbx.below hbW1).six
     obtain⟨_,_,_,g3,_,_⟩:=hbox1.six
     have k3:=Wk.cell g3
     go_ret
     exact⟨rfl,below_on HB.out HA.out⟩
set_option maxRecDepth 100000 in
set_option maxHeartbeats 2000000 in
theorem ref8Right_extra (F:Int) (H:Bool) (X:Int) (va:Option Addr) (vc:Nat) (ma:Option Addr) (mc:Nat) (v m:List Int) (hv:v.length≤1000) (hm:m.length≤1000) (ov:Octets v) (om:Octets m) (w:World) (iv:Ints .u8 w va v) (im:Ints .u8 w ma m) (hX0 : 0≤X) (h2:m.length=maskZ H v.length):
 Calls Tryz.prog 66 #[.agg #[.int .i64 65535,.int .i64 F,.bool H,.int .u64 X,.slice va v.length vc,.slice ma m.length mc]] w fun e w'=>e = .returned (.bool (rightB 65535 F H X v m))∧Below w.heap.size w w':=by
 obtain⟨W,hW,hbW,hbox⟩:=oxm_box w 65535 F H X va v.length vc ma m.length mc
 have HW:=hid hW
 have HB:=hid hbW
 obtain⟨d0,d1,d2,d3,d4,d5⟩:=hbox.six
 have IV:=hid (iv.below hbW)
 have IM:=hid (im.below hbW)
 clear hW hbW iv im
 have RW:=hid (fun W iv im=>refWrong_extra F H X va vc ma mc v m (fun h=>by rw[h2,h];exact Nat.le_refl _) hm ov om W iv im)
 clear ov om
 have hr0:=fun h1 h2' h3 h4=>right_extra (F:=F) (X:=X) (v:=v) (m:=m) h2 h1 h2' h3 h4
 have hl0:=fun h=>right_long (F:=F) (X:=X) (v:=v) (m:=m) h2 h
 have n1:H=false→m = []:=by rintro rfl;simpa [maskZ]using h2
 have n3:H=true→((m.length:Int) != (v.length:Int))=false:=by rintro rfl;simp[maskZ]at h2;simp[h2]
 clear h2
 rcases (show F<0∨(0≤F∧127<F)∨((0≤F∧F≤127)∧4294967296≤X)∨((0≤F∧F≤127)∧X<4294967296∧100<v.length)∨((0≤F∧F≤127)∧X<4294967296∧v.length≤100∧bytesE 65535 F H v m≠0)∨((0≤F∧F≤127)∧X<4294967296∧v.length≤100∧bytesE 65535 F H v m=0) by omega) with hF|⟨g0,g1⟩|⟨⟨g0,g1⟩,g2⟩|⟨⟨g0,g1⟩,g2,g3⟩|⟨⟨g0,g1⟩,g2,g3,g4⟩|⟨⟨g0,g1⟩,g2,g3,g4⟩
 · rw[right_room (by simp[room8];omega)]
   clear hr0 hl0
   cases H
   · obtain rfl:=n1 rfl
     simp only[List.length_nil]at HW
     go_enter Tryz.func66,Tryz.ntmps66
     go_wp2_with fail
     rw[HW.out]
     go_wp2_with fail
     have HA:=hid (Below.refl W.heap.size W)
     go_ret
     exact⟨rfl,below_on HB.out HA.out⟩
   · have n3:=n3 rfl
     go_enter Tryz.func66,Tryz.ntmps66
     go_wp2_with fail
     rw[HW.out]
     go_wp2_with fail
     have HA:=hid (Below.refl W.heap.size W)
     go_ret
     exact⟨rfl,below_on HB.out HA.out⟩
 · rw[right_room (by simp[room8];omega)]
   clear hr0 hl0
   cases H
   · obtain rfl:=n1 rfl
     simp only[List.length_nil]at HW
     go_enter Tryz.func66,Tryz.ntmps66
     go_wp2_with fail
     rw[HW.out]
     go_wp2_with fail
     have HA:=hid (Below.refl W.heap.size W)
     go_ret
     exact⟨rfl,below_on HB.out HA.out⟩
   · have n3:=n3 rfl
     go_enter Tryz.func66,Tryz.ntmps66
     go_wp2_with fail
     rw[HW.out]
     go_wp2_with fail
     have HA:=hid (Below.refl W.heap.size W)
     go_ret
     exact⟨rfl,below_on HB.out HA.out⟩
 · rw[right_room (by simp[room8];omega)]
   clear hr0 hl0
   cases H
   · obtain rfl:=n1 rfl
     simp only[List.length_nil]at HW
     go_enter Tryz.func66,Tryz.ntmps66
     go_wp2_with fail
     rw[HW.out]
     go_wp2_with fail
     have HA:=hid (Below.refl W.heap.size W)
     go_ret
     exact⟨rfl,below_on HB.out HA.out⟩
   · have n3:=n3 rfl
     go_enter Tryz.func66,Tryz.ntmps66
     go_wp2_with fail
     rw[HW.out]
     go_wp2_with fail
     have HA:=hid (Below.refl W.heap.size W)
     go_ret
     exact⟨rfl,below_on HB.out HA.out⟩
 · rw[hl0 g3]
   have g5 : 100<(v.length:Int):=by omega
   clear hr0 hl0
   cases H
   · obtain rfl:=n1 rfl
     simp only[List.length_nil]at HW
     go_enter Tryz.func66,Tryz.ntmps66
     go_wp2_with fail
     rw[HW.out]
     go_wp2_with fail
     have HA:=hid (Below.refl W.heap.size W)
     go_ret
     exact⟨rfl,below_on HB.out HA.out⟩
   · have n3:=n3 rfl
     go_enter Tryz.func66,Tryz.ntmps66
     go_wp2_with fail
     rw[HW.out]
     go_wp2_with fail
     have HA:=hid (Below.refl W.heap.size W)
     go_ret
     exact⟨rfl,below_on HB.out HA.out⟩
 · rw[right_bytes g4]
   have g5:(v.length:Int)≤100:=by omega
   obtain⟨q,hq⟩:∃q,bytesE 65535 F H v m=q:=⟨_,rfl⟩
   rw[hq]at RW g4
   have n4:(q==0)=false:=by simpa using g4
   clear hr0 hl0 hq g4
   cases H
   · obtain rfl:=n1 rfl
     simp only[List.length_nil]at HW
     go_enter Tryz.func66,Tryz.ntmps66
     go_wp2_with fail
     rw[HW.out]
     go_wp2_with fail
     have HA:=hid (Below.refl W.heap.size W)
     refine (RW.out _ (IV.out.below HA.out) (IM.out.below HA.out)).mono ?_
     rintro e w2 ⟨rfl,hb2⟩
     go_wp2_with fail
     go_ret
     exact⟨rfl,below_on HB.out (below_on HA.out hb2)⟩
   · have n3:=n3 rfl
     go_enter Tryz.func66,Tryz.ntmps66
     go_wp2_with fail
     rw[HW.out]
     go_wp2_with fail
     have HA:=hid (Below.refl W.heap.size W)
     refine (RW.out _ (IV.out.below HA.out) (IM.out.below HA.out)).mono ?_
     rintro e w2 ⟨rfl,hb2⟩
     go_wp2_with fail
     go_ret
     exact⟨rfl,below_on HB.out (below_on HA.out hb2)⟩
 · rw[hr0 ⟨g0,g1⟩ (by omega) g3 g4]
   have g5:(v.length:Int)≤100:=by omega
   rw[g4]at RW
   clear hr0 hl0 g4
   cases H
   · obtain rfl:=n1 rfl
     simp only[List.length_nil]at HW
     go_enter Tryz.func66,Tryz.ntmps66
     go_wp2_with fail
     rw[HW.out]
     go_wp2_with fail
     have HA:=hid (Below.refl W.heap.size W)
     refine (RW.out _ (IV.out.below HA.out) (IM.out.below HA.out)).mono ?_
     rintro e w2 ⟨rfl,hb2⟩
     go_wp2_with fail
     go_ret
     exact⟨rfl,below_on HB.out (below_on HA.out hb2)⟩
   · have n3:=n3 rfl
     go_enter Tryz.func66,Tryz.ntmps66
     go_wp2_with fail
     rw[HW.out]
     go_wp2_with fail
     have HA:=hid (Below.refl W.heap.size W)
     refine (RW.out _ (IV.out.below HA.out) (IM.out.below HA.out)).mono ?_
     rintro e w2 ⟨rfl,hb2⟩
     go_wp2_with fail
     go_ret
     exact⟨rfl,below_on HB.out (below_on HA.out hb2)⟩
set_option maxRecDepth 100000 in
theorem ref8Right_none (C:Int) (F:Int) (H:Bool) (X:Int) (va:Option Addr) (vc:Nat) (ma:Option Addr) (mc:Nat) (v m:List Int) (hv:v.length≤1000) (hm:m.length≤1000) (ov:Octets v) (om:Octets m) (w:World) (iv:Ints .u8 w va v) (im:Ints .u8 w ma m) (hb:(C==32768)=false) (hx:(C==65535)=false):
 Calls Tryz.prog 66 #[.agg #[.int .i64 C,.int .i64 F,.bool H,.int .u64 X,.slice va v.length vc,.slice ma m.length mc]] w fun e w'=>e = .returned (.bool (rightB C F H X v m))∧Below w.heap.size w w':=by
 by_cases h2:m.length=maskZ H v.length
 · rw[right_none (by simpa using hb) (by simpa using hx)]
   have n1:H=false→m = []:=by rintro rfl;simpa [maskZ]using h2
   have n3:H=true→((m.length:Int) != (v.length:Int))=false:=by rintro rfl;simp[maskZ]at h2;simp[h2]
   clear h2 ov om
   obtain⟨W,hW,hbW,hbox⟩:=oxm_box w C F H X va v.length vc ma m.length mc
   have HW:=hid hW
   have HB:=hid hbW
   obtain⟨d0,d1,d2,d3,d4,d5⟩:=hbox.six
   have IV:=hid (iv.below hbW)
   have IM:=hid (im.below hbW)
   clear hW hbW iv im
   cases H
   · obtain rfl:=n1 rfl
     simp only[List.length_nil]at HW
     go_enter Tryz.func66,Tryz.ntmps66
     go_wp2_with fail
     rw[HW.out]
     go_wp2_with fail
     have HA:=hid (Below.refl W.heap.size W)
     go_ret
     exact⟨rfl,below_on HB.out HA.out⟩
   · have n3:=n3 rfl
     go_enter Tryz.func66,Tryz.ntmps66
     go_wp2_with fail
     rw[HW.out]
     go_wp2_with fail
     have HA:=hid (Below.refl W.heap.size W)
     go_ret
     exact⟨rfl,below_on HB.out HA.out⟩
 · exact ref8Right_mask C F H X va vc ma mc v m hv hm ov om w iv im h2
theorem ref8Right_any (C:Int) (F:Int) (H:Bool) (X:Int) (va:Option Addr) (vc:Nat) (ma:Option Addr) (mc:Nat) (v m:List Int) (hv:v.length≤1000) (hm:m.length≤1000) (ov:Octets v) (om:Octets m) (w:World) (iv:Ints .u8 w va v) (im:Ints .u8 w ma m) (hX0 : 0≤X):
 Calls Tryz.prog 66 #[.agg #[.int .i64 C,.int .i64 F,.bool H,.int .u64 X,.slice va v.length vc,.slice ma m.length mc]] w fun e w'=>e = .returned (.bool (rightB C F H X v m))∧Below w.heap.size w w':=by
 by_cases h2:m.length=maskZ H v.length
 · by_cases hb:C=32768
   · subst hb
     exact ref8Right_basic F H X va vc ma mc v m hv hm ov om w iv im h2
   · by_cases hx:C=65535
     · subst hx
       exact ref8Right_extra F H X va vc ma mc v m hv hm ov om w iv im hX0 h2
     · exact ref8Right_none C F H X va vc ma mc v m hv hm ov om w iv im (by simpa using hb) (by simpa using hx)
 · exact ref8Right_mask C F H X va vc ma mc v m hv hm ov om w iv im h2
structure Facts8 (C F:Int) (H:Bool) (X:Int) (v m:List Int):Prop where
 cls:C=32768∨C=65535
 f0 : 0≤F
 f1:F≤127
 len:m.length=maskZ H v.length
 most:behind8 C v.length m.length≤204
 x1:X≤4294967295
 v1:v.length≤100
theorem right_facts {C F X:Int} {H:Bool} {v m:List Int} (h:rightB C F H X v m=true):Facts8 C F H X v m:=by
 unfold rightB at h
 simp only[Bool.and_eq_true,decide_eq_true_eq]at h
 obtain⟨⟨⟨h1,h2⟩,h3⟩,h4⟩:=h
 by_cases hb:C=32768
 · subst hb
   have hv:fitsB F v=true:=by
    cases h:fitsB F v
    · simp[bytesE,h]at h4
    · rfl
   obtain⟨hz,g0,g1⟩:=fits_z hv
   have hz16:=(fld_dims ⟨g0,g1⟩).2.2.2
   have hx:X=0:=by simpa [room8]using h1
   refine⟨.inl rfl,g0,by omega,h2,?_,by omega,by omega⟩
   rw[h2]
   cases H<;>simp[behind8,maskZ]<;>omega
 · by_cases hx:C=65535
   · subst hx
     simp[room8]at h1
     by_cases hl:v.length≤100
     · refine⟨.inr rfl,h1.1,h1.2.1,h2,?_,h1.2.2,hl⟩
       rw[h2]
       cases H<;>simp[behind8,maskZ]<;>omega
     · exfalso
       have:=right_long (F:=F) (X:=X) h2 (by omega)
       simp[rightB,room8,h1,h2.symm,h3,h4]at this
   · exfalso
     have:=right_none (F:=F) (X:=X) (H:=H) (v:=v) (m:=m) hb hx
     simp[rightB,h1,h2.symm,h3,h4]at this
def size8 (C F:Int) (H:Bool) (X:Int) (v m:List Int):Nat:=if rightB C F H X v m then 4+behind8 C v.length m.length else 0
set_option maxRecDepth 100000 in
set_option maxHeartbeats 1000000 in
theorem size8_any (C F:Int) (H:Bool) (X:Int) (va:Option Addr) (vc:Nat) (ma:Option Addr) (mc:Nat) (v m:List Int) (hv:v.length≤1000) (hm:m.length≤1000) (hmc:m.length≤mc) (ov:Octets v) (om:Octets m) (w:World) (iv:Ints .u8 w va v) (im:Ints .u8 w ma m):
 Calls Tryz.prog 62 #[.agg #[.int .i64 C,.int .i64 F,.bool H,.int .u64 X,.slice va v.length vc,.slice ma m.length mc]] w fun e w'=>e = .returned (.int .i64 (size8 C F H X v m))∧Below w.heap.size w w':=by
 obtain⟨W,hW,hbW,hbox⟩:=oxm_box w C F H X va v.length vc ma m.length mc
 have HW:=hid hW
 have HB:=hid hbW
 obtain⟨d0,d1,d2,d3,d4,d5⟩:=hbox.six
 have IV:=hid (iv.below hbW)
 have IM:=hid (im.below hbW)
 clear hW hbW iv im
 have RR:=hid (fun W iv im=>right8_any C F H X va vc ma mc v m hv hm hmc ov om W iv im)
 have R3:=hid (fun W=>behind8_any C F H X va v.length vc ma m.length mc W (by omega) (by omega))
 clear ov om
 cases hr:rightB C F H X v m
 · rw[show size8 C F H X v m=0 by simp[size8,hr]]
   rw[hr]at RR
   clear hr
   go_enter Tryz.func62,Tryz.ntmps62
   go_wp2_with fail
   rw[HW.out]
   go_wp2_with fail
   refine (RR.out _ IV.out IM.out).mono ?_
   rintro e w1 ⟨rfl,hb⟩
   go_wp2_with fail
   go_ret
   exact⟨rfl,below_on HB.out hb⟩
 · have hb1:(behind8 C v.length m.length:Int)≤204:=by have:=(right_facts hr).most;omega
   rw[show size8 C F H X v m=4+behind8 C v.length m.length by simp[size8,hr]]
   rw[hr]at RR
   clear hr
   obtain⟨q,hq⟩:∃q,behind8 C v.length m.length=q:=⟨_,rfl⟩
   rw[hq]at R3 hb1 ⊢
   clear hq
   go_enter Tryz.func62,Tryz.ntmps62
   go_wp2_with fail
   rw[HW.out]
   go_wp2_with fail
   refine (RR.out _ IV.out IM.out).mono ?_
   rintro e w1 ⟨rfl,hb⟩
   clear d0 d1 d2 d3 d4 d5
   obtain⟨d0,d1,d2,d3,d4,d5⟩:=(hbox.below hb).six
   go_wp2_with fail
   refine (R3.out _).mono ?_
   rintro e w2 ⟨rfl,hb2⟩
   go_wp2_with fail
   go_ret
   exact⟨ret_int (by omega),below_on HB.out (below_on hb hb2)⟩
def fieldN (F:Int) (H:Bool):Int:=if H then 2*F+1 else 2*F
theorem below_drew8 (w:World):Below w.heap.size w w.drew:=(Below.refl _ _).drew
def headL (C F:Int) (H:Bool) (k:Nat):List Int:=bytesL C 2++(bytesL (fieldN F H) 1++(bytesL (k:Int) 1 ++ []))
theorem headL_length (C F:Int) (H:Bool) (k:Nat):(headL C F H k).length=4:=by simp[headL,bytesL_length]
def expL (C X:Int):List Int:=if C=65535 then bytesL X 4 else []
def oxmBytes (C F:Int) (H:Bool) (X:Int) (v m:List Int):List Int:=headL C F H (behind8 C v.length m.length)++(expL C X++(v++m))
theorem expL_length (C X:Int):(expL C X).length=if C=65535 then 4 else 0:=by unfold expL;split<;>simp[bytesL_length]
theorem oxmBytes_length (C F:Int) (H:Bool) (X:Int) (v m:List Int):(oxmBytes C F H X v m).length=4+behind8 C v.length m.length:=by
 simp only[oxmBytes,List.length_append,headL_length,expL_length,behind8]
 split<;>omega
theorem u64_wrap8 (n:Int):IntKind.u64.wrap n=n%18446744073709551616:=by simp[IntKind.wrap,IntKind.bits,IntKind.signed]
theorem lit_at (k:IntKind) {w:World} (l:List Int) {e:TypeId} {g:Nat} {cs:Array Value} {w':World} (hb:Below (w.alloc (.cells cs e)).heap.size (w.alloc (.cells cs e)) w') (hg:w.heap.size=g) (hcs:(l.map (Value.int k)).toArray=cs):Ints k w' (some ⟨g,0,none⟩) l:=by
 subst hg
 subst hcs
 exact (ints_lit k w l e).below hb
def EncPost (C F:Int) (H:Bool) (X:Int) (v m:List Int) (w:World) (e:Ending) (w':World):Prop:=
 (rightB C F H X v m=false∧e = .returned (.tuple #[.slice none 0 0,.int .i64 10001])∧Below w.heap.size w w') ∨
 (rightB C F H X v m=true ∧ ∃ad cp,e = .returned (.tuple #[.slice ad (oxmBytes C F H X v m).length cp,.int .i64 0])∧Below w.heap.size w w'∧Ints .u8 w' ad (oxmBytes C F H X v m)∧(oxmBytes C F H X v m).length≤cp)
theorem few8_any (C F:Int) (H:Bool) (X:Int) (va:Option Addr) (vl vc:Nat) (ma:Option Addr) (ml mc:Nat) (w:World):
 Calls Tryz.prog 22 #[.agg #[.int .i64 C,.int .i64 F,.bool H,.int .u64 X,.slice va vl vc,.slice ma ml mc]] w fun e w'=>e = .returned (.bool (decide (vl≤300∧ml≤300)))∧Below w.heap.size w w':=by
 by_cases h1:vl≤300
 · by_cases h2:ml≤300
   · have i1:(vl:Int)≤300:=by omega
     have i2:(ml:Int)≤300:=by omega
     rw[decide_eq_true (show vl≤300∧ml≤300 from ⟨h1,h2⟩)]
     clear h1 h2
     go_enter Tryz.func22,Tryz.ntmps22
     go_wp2
     go_ret
     exact⟨rfl,below_alloc _ _⟩
   · have i1:(vl:Int)≤300:=by omega
     have i2:decide ((ml:Int)≤300)=false:=by simp;omega
     rw[decide_eq_false (show ¬(vl≤300∧ml≤300) by omega)]
     clear h1 h2
     go_enter Tryz.func22,Tryz.ntmps22
     go_wp2
     go_ret
     exact⟨rfl,below_alloc _ _⟩
 · have i1 : 300<(vl:Int):=by omega
   rw[decide_eq_false (show ¬(vl≤300∧ml≤300) by omega)]
   clear h1
   go_enter Tryz.func22,Tryz.ntmps22
   go_wp2
   go_ret
   exact⟨rfl,below_alloc _ _⟩
def DecPost (R:Except Int Oxm8) (w:World) (e:Ending) (w':World):Prop:=
 (∃q,R = .error q∧q≠0∧e = .returned (.tuple #[.agg #[.int .i64 0,.int .i64 0,.bool false,.int .u64 0,.slice none 0 0,.slice none 0 0],.int .i64 0,.int .i64 q])∧Below w.heap.size w w') ∨
 (∃o a1 c1 a2 c2,R = .ok o∧e = .returned (.tuple #[.agg #[.int .i64 o.C,.int .i64 o.F,.bool o.H,.int .u64 o.X,.slice a1 o.v.length c1,.slice a2 o.m.length c2],.int .i64 o.n,.int .i64 0])∧Below w.heap.size w w'∧Ints .u8 w' a1 o.v∧Ints .u8 w' a2 o.m∧o.m.length≤c2∧New8 w a1∧New8 w a2)
theorem bytes8_any (l m:List Int) (a b:Option Addr) (n k c d:Nat) (hn:n=l.length) (hk:k=m.length) (w:World) (hl:l.length≤1000000) (hm:m.length≤1000000) (hc:Ints .u8 w a l) (hd:Ints .u8 w b m):
 Calls Tryz.prog 34 #[.slice a n c,.slice b k d] w fun e w'=>e = .returned (.bool (l==m))∧Below w.heap.size w w':=by
 subst hn hk
 refine (bytes_any l m a b c d w (by omega) (by omega) hc hd).mono ?_
 rintro e w' ⟨rfl,n,rfl⟩
 exact⟨rfl,below_drewN _ _⟩
end Go.Proofs.YthpdkancighknaaGreat
namespace Go.Proofs.YthpdkancighknaaGreat
open Go.ChangeShapes Go.WideShapes Go.RowKit Go.Deep
set_option linter.unusedVariables false
structure OxmIn (w:World) (C F X:Int) (va:Option Addr) (vl vc:Nat) (ma:Option Addr) (ml mc:Nat) (v m:List Int):Prop where
 c : -9223372036854775808≤C∧C≤9223372036854775807
 f : -9223372036854775808≤F∧F≤9223372036854775807
 x : 0≤X∧X≤18446744073709551615
 lv:vl=v.length
 lm:ml=m.length
 iv:Ints .u8 w va v
 im:Ints .u8 w ma m
 ov:Octets v
 om:Octets m
 cv:v.length≤vc∧vc≤9223372036854775807
 cm:m.length≤mc∧mc≤9223372036854775807
section
variable {H:Type} {enc:TypeId × Value→H} {w:World} {base:Nat} {held:Bool}
theorem open_bytes8 {fuel:Nat} {v:Value} {x:DataW H × List MemPlace} (h:DataW.trod enc Tryz.prog w base (fun _=>true) held fuel 33 [v]=some x):
 ∃a n c l,v = .slice a n c∧n=l.length∧Ints .u8 w a l∧Octets l∧l.length≤c∧c≤9223372036854775807:=by
 have hC8:Tryz.prog.cellsOf 5=1:=by kernel_rfl
 rcases open_ints Tryz.underlying33 Tryz.underlying5 hC8 h with⟨hcs,_⟩|⟨p2,l2,cp2,zs,hcs,_,hl2,hm2,hz,_,hcell,hwz⟩
 · simp at hcs
   subst hcs
   exact⟨none,0,0,[],rfl,rfl,Ints.nil _ _ _,fun x hx=>by simp at hx,by simp,by simp⟩
 · simp at hcs
   subst hcs
   have hrow:IsRow .u8 w (some p2) l2 cp2 zs:=.inr ⟨p2,rfl,hl2,hm2,by simpa using hz,hcell,hwz⟩
   obtain⟨z,rfl,hz0,hz1,hz2,hz3⟩:=hrow.ints
   exact⟨some p2,z.length,cp2,z,rfl,rfl,hz2,wf_u8 hz3,hz0,hz1⟩
end
end Go.Proofs.YthpdkancighknaaGreat
namespace Go.Proofs.YthpdkancighknaaGreat
open Go.RowKit
set_option linter.unusedVariables false
def alikeB (C F X C' F' X':Int):Bool:=C==C'&&F==F'&&X==X'
theorem alike_ways (C F X C' F' X':Int):∃r,alikeB C F X C' F' X'=r∧(((C==C')=false∧r=false)∨((C==C')=true∧(F==F')=false∧r=false)∨((C==C')=true∧(F==F')=true∧r=(X==X'))):=by
 refine⟨_,rfl,?_⟩
 unfold alikeB
 cases (C==C')<;>cases (F==F')<;>simp
set_option maxRecDepth 100000 in
theorem alike8_any (C F:Int) (H:Bool) (X:Int) (va:Option Addr) (vl vc:Nat) (ma:Option Addr) (ml mc:Nat) (C' F':Int) (H':Bool) (X':Int) (va':Option Addr) (vl' vc':Nat) (ma':Option Addr) (ml' mc':Nat) (w:World):
 Calls Tryz.prog 85 #[.agg #[.int .i64 C,.int .i64 F,.bool H,.int .u64 X,.slice va vl vc,.slice ma ml mc],.agg #[.int .i64 C',.int .i64 F',.bool H',.int .u64 X',.slice va' vl' vc',.slice ma' ml' mc']] w fun e w'=>e = .returned (.bool (alikeB C F X C' F' X'))∧Below w.heap.size w w':=by
 obtain⟨r,hr,hq⟩:=alike_ways C F X C' F' X'
 rw[hr]
 clear hr
 rcases hq with⟨h1,rfl⟩|⟨h1,h2,rfl⟩|⟨h1,h2,rfl⟩
 all_goals
  go_enter Tryz.func85,Tryz.ntmps85
  go_wp2_with fail
  go_ret
  exact⟨rfl,below_on (below_alloc _ _) (below_alloc _ _)⟩
set_option maxRecDepth 100000 in
theorem refAlike8_any (C F:Int) (H:Bool) (X:Int) (va:Option Addr) (vl vc:Nat) (ma:Option Addr) (ml mc:Nat) (C' F':Int) (H':Bool) (X':Int) (va':Option Addr) (vl' vc':Nat) (ma':Option Addr) (ml' mc':Nat) (w:World):
 Calls Tryz.prog 50 #[.agg #[.int .i64 C,.int .i64 F,.bool H,.int .u64 X,.slice va vl vc,.slice ma ml mc],.agg #[.int .i64 C',.int .i64 F',.bool H',.int .u64 X',.slice va' vl' vc',.slice ma' ml' mc']] w fun e w'=>e = .returned (.bool (alikeB C F X C' F' X'))∧Below w.heap.size w w':=by
 obtain⟨r,hr,hq⟩:=alike_ways C F X C' F' X'
 rw[hr]
 clear hr
 rcases hq with⟨h1,rfl⟩|⟨h1,h2,rfl⟩|⟨h1,h2,rfl⟩
 all_goals
  go_enter Tryz.func50,Tryz.ntmps50
  go_wp2_with fail
  go_ret
  exact⟨rfl,below_on (below_alloc _ _) (below_alloc _ _)⟩
theorem fresh8_any (l:List Int) (a:Option Addr) (c:Nat) (w:World) (hl:l.length≤140737488355328) (hI:Ints .u8 w a l):
 Calls Tryz.prog 64 #[.slice a l.length c] w fun e w'=>e = .returned (.slice (some ⟨w.heap.size,0,none⟩) l.length l.length)∧Fresh 5 w w' (.slice (some ⟨w.heap.size,0,none⟩) l.length l.length) (l.map (Value.int .u8)):=by
 go_enter Tryz.func64,Tryz.ntmps64
 go_wp2_with (first|(at_make;refine wp_make rfl _ _ rfl elemU8 rfl rfl rfl rfl (Nat.le_refl _) (by omega) (by omega) ?_;intro w1 hf)|(with_reducible refine wp_copy_all rfl (.tmp 7) (.tmp 8) rfl elemU8 rfl rfl (List.length_replicate ..) hf rfl (hI.below hf.bel) ?_;intro w2 hf2))
 go_ret
 exact⟨rfl,hf2⟩
theorem conv8 (w:World) (l:List Int) (a:Option Addr) (c:Nat) (hI:Ints .u8 w a l):(convert 33 9 (.slice a l.length c)).run Tryz.prog w = .ok (.string (strOfNums l)) w:=by
 have hs:=Tryz.underlying33
 have he:=Tryz.underlying5
 have hd:=Tryz.underlying9
 cases l with
 | nil=>
   cases a with
   | none=>exact run_convert_bytes_nil w _ _ hs he 0 c _ hd
   | some p=>
     rw[run_convert_bytes_string w _ _ _ _ _ c hs he hd]
     exact run_bytesToString w p 0 c [] (by rfl)
 | cons x r=>
   obtain⟨b,off,rfl,h0⟩:=hI 0 (by simp)
   exact run_convert_bytes_arg w _ _ hs he b off (x::r).length c (x::r) rfl (fun i hi=>by
    obtain⟨b',off',he',hc⟩:=hI i hi
    obtain⟨rfl,rfl⟩:b=b'∧off=off':=by simpa using he'
    exact hc) _ hd
theorem byte_inj8 {x y:Int} (hx : 0≤x∧x≤255) (hy : 0≤y∧y≤255) (h:UInt8.ofNat x.toNat=UInt8.ofNat y.toNat):x=y:=by
 have h2:=congrArg UInt8.toNat h
 simp at h2
 omega
theorem map_inj8:∀ {l m:List Int},Octets l→Octets m→(l.map fun n=>UInt8.ofNat n.toNat)=(m.map fun n=>UInt8.ofNat n.toNat)→l=m
 | [],[],_,_,_=>rfl
 | [],y::m,_,_,h=>by simp at h
 | x::l,[],_,_,h=>by simp at h
 | x::l,y::m,hl,hm,h=>by
   rw[List.map_cons,List.map_cons,List.cons.injEq]at h
   rw[byte_inj8 (hl x (by simp)) (hm y (by simp)) h.1,map_inj8 (fun z hz=>hl z (by simp[hz])) (fun z hz=>hm z (by simp[hz])) h.2]
theorem strEq8 {l m:List Int} (ol:Octets l) (om:Octets m):((strOfNums l).toList==(strOfNums m).toList)=(l==m):=by
 rw[ByteArray.toList_eq,ByteArray.toList_eq,strOfNums_data,strOfNums_data,Bool.eq_iff_iff,beq_iff_eq,beq_iff_eq]
 exact⟨map_inj8 ol om,fun h=>by rw[h]⟩
set_option maxRecDepth 100000 in
theorem equal8_any (l m:List Int) (a b:Option Addr) (c d:Nat) (w:World) (hl:l.length≤1000000) (hm:m.length≤1000000) (ol:Octets l) (om:Octets m) (hc:Ints .u8 w a l) (hd:Ints .u8 w b m):
 Calls Tryz.prog 73 #[.slice a l.length c,.slice b m.length d] w fun e w'=>e = .returned (.bool (l==m))∧Below w.heap.size w w':=by
 have k1:=conv8 w l a c hc
 have k2:=conv8 w m b d hd
 have HS:=hid (strEq8 ol om)
 clear hc hd ol om
 go_enter Tryz.func73,Tryz.ntmps73
 go_wp2_with fail
 go_ret
 exact⟨ret_bool HS.out,Below.refl _ _⟩
def sameB (C F:Int) (H:Bool) (X:Int) (C' F':Int) (H':Bool) (X':Int) (v m v' m':List Int):Bool:=alikeB C F X C' F' X'&&H==H'&&v==v'&&m==m'
theorem same_ways (C F:Int) (H:Bool) (X:Int) (C' F':Int) (H':Bool) (X':Int) (v m v' m':List Int):∃r,sameB C F H X C' F' H' X' v m v' m'=r∧((alikeB C F X C' F' X'=false∧r=false)∨(alikeB C F X C' F' X'=true∧(H==H')=false∧r=false)∨(alikeB C F X C' F' X'=true∧(H==H')=true∧(v==v')=false∧r=false)∨(alikeB C F X C' F' X'=true∧(H==H')=true∧(v==v')=true∧r=(m==m'))):=by
 refine⟨_,rfl,?_⟩
 unfold sameB
 cases alikeB C F X C' F' X'<;>cases (H==H')<;>cases (v==v')<;>simp
theorem two_oxm (w:World) (C F:Int) (H:Bool) (X:Int) (va:Option Addr) (vl vc:Nat) (ma:Option Addr) (ml mc:Nat) (C' F':Int) (H':Bool) (X':Int) (va':Option Addr) (vl' vc':Nat) (ma':Option Addr) (ml' mc':Nat):∃W,(w.alloc (.cells #[.int .i64 C,.int .i64 F,.bool H,.int .u64 X,.slice va vl vc,.slice ma ml mc] 35)).alloc (.cells #[.int .i64 C',.int .i64 F',.bool H',.int .u64 X',.slice va' vl' vc',.slice ma' ml' mc'] 35)=W∧Below w.heap.size w W∧BoxL W w.heap.size [.int .i64 C,.int .i64 F,.bool H,.int .u64 X,.slice va vl vc,.slice ma ml mc]∧BoxL W (w.heap.size+1) [.int .i64 C',.int .i64 F',.bool H',.int .u64 X',.slice va' vl' vc',.slice ma' ml' mc']:=by
 obtain⟨W1,h1,b1,x1⟩:=oxm_box w C F H X va vl vc ma ml mc
 obtain⟨W2,h2,b2,x2⟩:=oxm_box W1 C' F' H' X' va' vl' vc' ma' ml' mc'
 have hs:W1.heap.size=w.heap.size+1:=by rw[←h1,World.size_alloc]
 rw[hs]at x2
 exact⟨W2,by rw[h1,h2],below_on b1 b2,x1.below b2,x2⟩
set_option maxRecDepth 100000 in
set_option maxHeartbeats 1000000 in
theorem same8_any (C F:Int) (H:Bool) (X:Int) (va:Option Addr) (vc:Nat) (ma:Option Addr) (mc:Nat) (C' F':Int) (H':Bool) (X':Int) (va':Option Addr) (vc':Nat) (ma':Option Addr) (mc':Nat) (v m v' m':List Int) (hv:v.length≤1000) (hm:m.length≤1000) (hv':v'.length≤1000) (hm':m'.length≤1000) (ov:Octets v) (om:Octets m) (ov':Octets v') (om':Octets m') (w:World) (iv:Ints .u8 w va v) (im:Ints .u8 w ma m) (iv':Ints .u8 w va' v') (im':Ints .u8 w ma' m'):
 Calls Tryz.prog 72 #[.agg #[.int .i64 C,.int .i64 F,.bool H,.int .u64 X,.slice va v.length vc,.slice ma m.length mc],.agg #[.int .i64 C',.int .i64 F',.bool H',.int .u64 X',.slice va' v'.length vc',.slice ma' m'.length mc']] w fun e w'=>e = .returned (.bool (sameB C F H X C' F' H' X' v m v' m'))∧Below w.heap.size w w':=by
 obtain⟨W,hW,hbW,hx,hy⟩:=two_oxm w C F H X va v.length vc ma m.length mc C' F' H' X' va' v'.length vc' ma' m'.length mc'
 have HW:=hid hW
 have HB:=hid hbW
 have IV:=hid (iv.below hbW)
 have IM:=hid (im.below hbW)
 have IV':=hid (iv'.below hbW)
 have IM':=hid (im'.below hbW)
 have AL:=hid (fun W=>alike8_any C F H X va v.length vc ma m.length mc C' F' H' X' va' v'.length vc' ma' m'.length mc' W)
 have EV:=hid (fun (n:Wk W)=>equal8_any v v' va va' vc vc' n.val (by omega) (by omega) ov ov' (IV.out.below n.bel) (IV'.out.below n.bel))
 have EM:=hid (fun (n:Wk W)=>equal8_any m m' ma ma' mc mc' n.val (by omega) (by omega) om om' (IM.out.below n.bel) (IM'.out.below n.bel))
 obtain⟨d0,d1,d2,d3,d4,d5⟩:=hx.six
 obtain⟨e0,e1,e2,e3,e4,e5⟩:=hy.six
 obtain⟨r,hr,hq⟩:=same_ways C F H X C' F' H' X' v m v' m'
 rw[hr]
 clear hr hW hbW iv im iv' im' ov om ov' om' hv hm hv' hm'
 rcases hq with⟨h1,rfl⟩|⟨h1,h2,rfl⟩|⟨h1,h2,h3,rfl⟩|⟨h1,h2,h3,rfl⟩
 · rw[h1]at AL
   clear h1
   go_enter Tryz.func72,Tryz.ntmps72
   go_wp2_with fail
   rw[HW.out]
   have HA:=hid (Below.refl W.heap.size W)
   go_wp2_with fail
   refine (AL.out _).mono ?_
   rintro e w1 ⟨rfl,hb⟩
   replace HA:=hid (below_on HA.out hb)
   clear d0 d1 d2 d3 d4 d5 e0 e1 e2 e3 e4 e5 hb
   obtain⟨d0,d1,d2,d3,d4,d5⟩:=(hx.below HA.out).six
   obtain⟨e0,e1,e2,e3,e4,e5⟩:=(hy.below HA.out).six
   go_wp2_with fail
   go_ret
   exact⟨rfl,below_on HB.out HA.out⟩
 · rw[h1]at AL
   clear h1
   go_enter Tryz.func72,Tryz.ntmps72
   go_wp2_with fail
   rw[HW.out]
   have HA:=hid (Below.refl W.heap.size W)
   go_wp2_with fail
   refine (AL.out _).mono ?_
   rintro e w1 ⟨rfl,hb⟩
   replace HA:=hid (below_on HA.out hb)
   clear d0 d1 d2 d3 d4 d5 e0 e1 e2 e3 e4 e5 hb
   obtain⟨d0,d1,d2,d3,d4,d5⟩:=(hx.below HA.out).six
   obtain⟨e0,e1,e2,e3,e4,e5⟩:=(hy.below HA.out).six
   go_wp2_with fail
   go_ret
   exact⟨rfl,below_on HB.out HA.out⟩
 · rw[h1]at AL
   clear h1
   rw[h3]at EV
   clear h3
   go_enter Tryz.func72,Tryz.ntmps72
   go_wp2_with fail
   rw[HW.out]
   have HA:=hid (Below.refl W.heap.size W)
   go_wp2_with fail
   refine (AL.out _).mono ?_
   rintro e w1 ⟨rfl,hb⟩
   replace HA:=hid (below_on HA.out hb)
   clear d0 d1 d2 d3 d4 d5 e0 e1 e2 e3 e4 e5 hb
   obtain⟨d0,d1,d2,d3,d4,d5⟩:=(hx.below HA.out).six
   obtain⟨e0,e1,e2,e3,e4,e5⟩:=(hy.below HA.out).six
   go_wp2_with fail
   refine (EV.out ⟨_,HA.out⟩).mono ?_
   rintro e w1 ⟨rfl,hb⟩
   replace HA:=hid (below_on HA.out hb)
   clear d0 d1 d2 d3 d4 d5 e0 e1 e2 e3 e4 e5 hb
   obtain⟨d0,d1,d2,d3,d4,d5⟩:=(hx.below HA.out).six
   obtain⟨e0,e1,e2,e3,e4,e5⟩:=(hy.below HA.out).six
   go_wp2_with fail
   go_ret
   exact⟨rfl,below_on HB.out HA.out⟩
 · rw[h1]at AL
   clear h1
   rw[h3]at EV
   clear h3
   go_enter Tryz.func72,Tryz.ntmps72
   go_wp2_with fail
   rw[HW.out]
   have HA:=hid (Below.refl W.heap.size W)
   go_wp2_with fail
   refine (AL.out _).mono ?_
   rintro e w1 ⟨rfl,hb⟩
   replace HA:=hid (below_on HA.out hb)
   clear d0 d1 d2 d3 d4 d5 e0 e1 e2 e3 e4 e5 hb
   obtain⟨d0,d1,d2,d3,d4,d5⟩:=(hx.below HA.out).six
   obtain⟨e0,e1,e2,e3,e4,e5⟩:=(hy.below HA.out).six
   go_wp2_with fail
   refine (EV.out ⟨_,HA.out⟩).mono ?_
   rintro e w1 ⟨rfl,hb⟩
   replace HA:=hid (below_on HA.out hb)
   clear d0 d1 d2 d3 d4 d5 e0 e1 e2 e3 e4 e5 hb
   obtain⟨d0,d1,d2,d3,d4,d5⟩:=(hx.below HA.out).six
   obtain⟨e0,e1,e2,e3,e4,e5⟩:=(hy.below HA.out).six
   go_wp2_with fail
   refine (EM.out ⟨_,HA.out⟩).mono ?_
   rintro e w1 ⟨rfl,hb⟩
   replace HA:=hid (below_on HA.out hb)
   clear d0 d1 d2 d3 d4 d5 e0 e1 e2 e3 e4 e5 hb
   obtain⟨d0,d1,d2,d3,d4,d5⟩:=(hx.below HA.out).six
   obtain⟨e0,e1,e2,e3,e4,e5⟩:=(hy.below HA.out).six
   go_wp2_with fail
   go_ret
   exact⟨rfl,below_on HB.out HA.out⟩
set_option maxRecDepth 100000 in
set_option maxHeartbeats 1000000 in
theorem refSame8_any (C F:Int) (H:Bool) (X:Int) (va:Option Addr) (vc:Nat) (ma:Option Addr) (mc:Nat) (C' F':Int) (H':Bool) (X':Int) (va':Option Addr) (vc':Nat) (ma':Option Addr) (mc':Nat) (v m v' m':List Int) (hv:v.length≤1000) (hm:m.length≤1000) (hv':v'.length≤1000) (hm':m'.length≤1000) (ov:Octets v) (om:Octets m) (ov':Octets v') (om':Octets m') (w:World) (iv:Ints .u8 w va v) (im:Ints .u8 w ma m) (iv':Ints .u8 w va' v') (im':Ints .u8 w ma' m'):
 Calls Tryz.prog 33 #[.agg #[.int .i64 C,.int .i64 F,.bool H,.int .u64 X,.slice va v.length vc,.slice ma m.length mc],.agg #[.int .i64 C',.int .i64 F',.bool H',.int .u64 X',.slice va' v'.length vc',.slice ma' m'.length mc']] w fun e w'=>e = .returned (.bool (sameB C F H X C' F' H' X' v m v' m'))∧Below w.heap.size w w':=by
 obtain⟨W,hW,hbW,hx,hy⟩:=two_oxm w C F H X va v.length vc ma m.length mc C' F' H' X' va' v'.length vc' ma' m'.length mc'
 have HW:=hid hW
 have HB:=hid hbW
 have IV:=hid (iv.below hbW)
 have IM:=hid (im.below hbW)
 have IV':=hid (iv'.below hbW)
 have IM':=hid (im'.below hbW)
 have AL:=hid (fun W=>refAlike8_any C F H X va v.length vc ma m.length mc C' F' H' X' va' v'.length vc' ma' m'.length mc' W)
 have EV:=hid (fun (n:Wk W)=>bytes8_any v v' va va' _ _ vc vc' rfl rfl n.val (by omega) (by omega) (IV.out.below n.bel) (IV'.out.below n.bel))
 have EM:=hid (fun (n:Wk W)=>bytes8_any m m' ma ma' _ _ mc mc' rfl rfl n.val (by omega) (by omega) (IM.out.below n.bel) (IM'.out.below n.bel))
 obtain⟨d0,d1,d2,d3,d4,d5⟩:=hx.six
 obtain⟨e0,e1,e2,e3,e4,e5⟩:=hy.six
 obtain⟨r,hr,hq⟩:=same_ways C F H X C' F' H' X' v m v' m'
 rw[hr]
 clear hr hW hbW iv im iv' im' ov om ov' om' hv hm hv' hm'
 rcases hq with⟨h1,rfl⟩|⟨h1,h2,rfl⟩|⟨h1,h2,h3,rfl⟩|⟨h1,h2,h3,rfl⟩
 · rw[h1]at AL
   clear h1
   go_enter Tryz.func33,Tryz.ntmps33
   go_wp2_with fail
   rw[HW.out]
   have HA:=hid (Below.refl W.heap.size W)
   go_wp2_with fail
   refine (AL.out _).mono ?_
   rintro e w1 ⟨rfl,hb⟩
   replace HA:=hid (below_on HA.out hb)
   clear d0 d1 d2 d3 d4 d5 e0 e1 e2 e3 e4 e5 hb
   obtain⟨d0,d1,d2,d3,d4,d5⟩:=(hx.below HA.out).six
   obtain⟨e0,e1,e2,e3,e4,e5⟩:=(hy.below HA.out).six
   go_wp2_with fail
   go_ret
   exact⟨rfl,below_on HB.out HA.out⟩
 · rw[h1]at AL
   clear h1
   go_enter Tryz.func33,Tryz.ntmps33
   go_wp2_with fail
   rw[HW.out]
   have HA:=hid (Below.refl W.heap.size W)
   go_wp2_with fail
   refine (AL.out _).mono ?_
   rintro e w1 ⟨rfl,hb⟩
   replace HA:=hid (below_on HA.out hb)
   clear d0 d1 d2 d3 d4 d5 e0 e1 e2 e3 e4 e5 hb
   obtain⟨d0,d1,d2,d3,d4,d5⟩:=(hx.below HA.out).six
   obtain⟨e0,e1,e2,e3,e4,e5⟩:=(hy.below HA.out).six
   go_wp2_with fail
   go_ret
   exact⟨rfl,below_on HB.out HA.out⟩
 · rw[h1]at AL
   clear h1
   rw[h3]at EV
   clear h3
   go_enter Tryz.func33,Tryz.ntmps33
   go_wp2_with fail
   rw[HW.out]
   have HA:=hid (Below.refl W.heap.size W)
   go_wp2_with fail
   refine (AL.out _).mono ?_
   rintro e w1 ⟨rfl,hb⟩
   replace HA:=hid (below_on HA.out hb)
   clear d0 d1 d2 d3 d4 d5 e0 e1 e2 e3 e4 e5 hb
   obtain⟨d0,d1,d2,d3,d4,d5⟩:=(hx.below HA.out).six
   obtain⟨e0,e1,e2,e3,e4,e5⟩:=(hy.below HA.out).six
   go_wp2_with fail
   refine (EV.out ⟨_,HA.out⟩).mono ?_
   rintro e w1 ⟨rfl,hb⟩
   replace HA:=hid (below_on HA.out hb)
   clear d0 d1 d2 d3 d4 d5 e0 e1 e2 e3 e4 e5 hb
   obtain⟨d0,d1,d2,d3,d4,d5⟩:=(hx.below HA.out).six
   obtain⟨e0,e1,e2,e3,e4,e5⟩:=(hy.below HA.out).six
   go_wp2_with fail
   go_ret
   exact⟨rfl,below_on HB.out HA.out⟩
 · rw[h1]at AL
   clear h1
   rw[h3]at EV
   clear h3
   go_enter Tryz.func33,Tryz.ntmps33
   go_wp2_with fail
   rw[HW.out]
   have HA:=hid (Below.refl W.heap.size W)
   go_wp2_with fail
   refine (AL.out _).mono ?_
   rintro e w1 ⟨rfl,hb⟩
   replace HA:=hid (below_on HA.out hb)
   clear d0 d1 d2 d3 d4 d5 e0 e1 e2 e3 e4 e5 hb
   obtain⟨d0,d1,d2,d3,d4,d5⟩:=(hx.below HA.out).six
   obtain⟨e0,e1,e2,e3,e4,e5⟩:=(hy.below HA.out).six
   go_wp2_with fail
   refine (EV.out ⟨_,HA.out⟩).mono ?_
   rintro e w1 ⟨rfl,hb⟩
   replace HA:=hid (below_on HA.out hb)
   clear d0 d1 d2 d3 d4 d5 e0 e1 e2 e3 e4 e5 hb
   obtain⟨d0,d1,d2,d3,d4,d5⟩:=(hx.below HA.out).six
   obtain⟨e0,e1,e2,e3,e4,e5⟩:=(hy.below HA.out).six
   go_wp2_with fail
   refine (EM.out ⟨_,HA.out⟩).mono ?_
   rintro e w1 ⟨rfl,hb⟩
   replace HA:=hid (below_on HA.out hb)
   clear d0 d1 d2 d3 d4 d5 e0 e1 e2 e3 e4 e5 hb
   obtain⟨d0,d1,d2,d3,d4,d5⟩:=(hx.below HA.out).six
   obtain⟨e0,e1,e2,e3,e4,e5⟩:=(hy.below HA.out).six
   go_wp2_with fail
   go_ret
   exact⟨rfl,below_on HB.out HA.out⟩
theorem numL_1 (x:Int):numL [x]=x:=by simp[numL]
theorem numL_2 (x y:Int):numL [x,y]=x*256+y:=by simp[numL]
theorem cls8_cons (x0 x1 x2 x3:Int) (r:List Int):cls8 (x0::x1::x2::x3::r)=x0*256+x1:=numL_2 x0 x1
theorem fld8_cons (x0 x1 x2 x3:Int) (r:List Int):fld8 (x0::x1::x2::x3::r)=x2:=numL_1 x2
theorem len8_cons (x0 x1 x2 x3:Int) (r:List Int):len8 (x0::x1::x2::x3::r)=x3:=numL_1 x3
theorem byteAt_0 (n:Int):byteAt n 0=n%256:=by simp[byteAt,p256]
theorem byteAt_1 (n:Int):byteAt n 1=n/256%256:=by simp[byteAt,p256]
theorem field_half {F:Int} {H:Bool} (h0 : 0≤F) (h1:F≤127):byteAt (fieldN F H) 0/2=F∧oddB (byteAt (fieldN F H) 0)=H:=by
 rw[byteAt_0]
 cases H
 · have e:fieldN F false=2*F:=rfl
   rw[e]
   refine⟨by omega,?_⟩
   simp only[oddB,beq_eq_false_iff_ne,ne_eq]
   omega
 · have e:fieldN F true=2*F+1:=rfl
   rw[e]
   refine⟨by omega,?_⟩
   simp only[oddB,beq_iff_eq]
   omega
theorem bytes_cons (C F:Int) (H:Bool) (X:Int) (v m:List Int):oxmBytes C F H X v m=byteAt C 1::byteAt C 0::byteAt (fieldN F H) 0::byteAt (behind8 C v.length m.length:Nat) 0::(expL C X++(v++m)):=by
 simp[oxmBytes,headL,bytesL]
theorem pos_z {F:Int} (h : 0≤F∧F<40) : 1≤(fld F).z:=by
 rcases forty h with rfl|rfl|rfl|rfl|rfl|rfl|rfl|rfl|rfl|rfl|rfl|rfl|rfl|rfl|rfl|rfl|rfl|rfl|rfl|rfl|rfl|rfl|rfl|rfl|rfl|rfl|rfl|rfl|rfl|rfl|rfl|rfl|rfl|rfl|rfl|rfl|rfl|rfl|rfl|rfl<;>decide +kernel
structure Begins (C F:Int) (H:Bool) (X:Int) (v m b:List Int) (k:Nat):Prop where
 cls:cls8 b=C
 fd:fld8 b/2=F
 od:oddB (fld8 b)=H
 ln:len8 b=k
 hk : 1≤k
 he:headE C F H k=0
theorem right_begins {C F X:Int} {H:Bool} {v m:List Int} (h:rightB C F H X v m=true) (r:List Int):Begins C F H X v m (byteAt C 1::byteAt C 0::byteAt (fieldN F H) 0::byteAt (behind8 C v.length m.length:Nat) 0::r) (behind8 C v.length m.length):=by
 have ft:=right_facts h
 unfold rightB at h
 simp only[Bool.and_eq_true,decide_eq_true_eq]at h
 obtain⟨⟨⟨h1,h2⟩,h3⟩,h4⟩:=h
 have hC : 0≤C∧C<65536:=by rcases ft.cls with h|h<;>omega
 have hf:=field_half (H:=H) ft.f0 ft.f1
 have hm:=ft.most
 refine⟨?_,?_,?_,?_,?_,h3⟩
 · rw[cls8_cons,byteAt_0,byteAt_1];omega
 · rw[fld8_cons];exact hf.1
 · rw[fld8_cons];exact hf.2
 · rw[len8_cons,byteAt_0];omega
 · rcases head_cls h3 with hc|hc
   · rw[hc]at h3 ⊢
     have hh:=head_basic h3
     have hz:=pos_z hh.1
     have:=hh.2.1
     have hp:pieces8 H=1∨pieces8 H=2:=by cases H<;>simp[pieces8]
     rcases hp with hp|hp<;>rw[hp]at this<;>omega
   · rw[hc]at h3 ⊢
     have:=(head_extra h3).1
     omega
theorem back_less {C F X:Int} {H:Bool} {v m:List Int} (h:rightB C F H X v m=true):decL ((oxmBytes C F H X v m).take ((oxmBytes C F H X v m).length-1)) = .error 1026∧5≤(oxmBytes C F H X v m).length:=by
 have hlen:=oxmBytes_length C F H X v m
 have B0:=right_begins h []
 have hk:=B0.hk
 obtain⟨k,hkk⟩:∃k,behind8 C v.length m.length=k+1:=⟨behind8 C v.length m.length-1,by omega⟩
 have B:=right_begins h ((expL C X++(v++m)).take k)
 have hs:(oxmBytes C F H X v m).take ((oxmBytes C F H X v m).length-1)=byteAt C 1::byteAt C 0::byteAt (fieldN F H) 0::byteAt (behind8 C v.length m.length:Nat) 0::(expL C X++(v++m)).take k:=by
  rw[hlen,hkk,show 4+(k+1)-1=k+1+1+1+1 by omega,bytes_cons,hkk]
  rfl
 have hel:(expL C X++(v++m)).length=k+1:=by
  simp only[List.length_append,expL_length]
  unfold behind8 at hkk
  split at hkk<;>simp_all<;>omega
 rw[←hs]at B
 have hr:rest8 ((oxmBytes C F H X v m).take ((oxmBytes C F H X v m).length-1))=(expL C X++(v++m)).take k:=by rw[hs];rfl
 have hsl : 4≤((oxmBytes C F H X v m).take ((oxmBytes C F H X v m).length-1)).length:=by rw[hs];simp
 obtain⟨s,hss⟩:∃s,(oxmBytes C F H X v m).take ((oxmBytes C F H X v m).length-1)=s:=⟨_,rfl⟩
 rw[hss]at B hr hsl ⊢
 obtain⟨e1,e2,e3,e4,e5,e6⟩:=B
 have he:¬headE (cls8 s) (fld8 s/2) (oddB (fld8 s)) (len8 s)≠0:=by rw[e1,e2,e3,e4];simpa using e6
 have hrl:(rest8 s).length<(len8 s).toNat:=by rw[hr,e4,List.length_take,hel,Int.toNat_natCast];omega
 refine⟨?_,by omega⟩
 unfold decL rawL
 rw[if_neg (by omega),if_neg he,if_pos hrl]
theorem own_lt8 {w w':World} {e:TypeId} {p n c:Nat} {xs:List Value} (h:Fresh e w w' (.slice (some ⟨p,0,none⟩) n c) xs):p<w'.heap.size:=by
 rcases h.own.2 with⟨h0,_⟩|⟨g,cap,cur,hv,_,hg,_⟩
 · simp at h0
 · simp at hv
   obtain⟨rfl,_⟩:=hv
   exact (Array.getElem?_eq_some_iff.1 hg).1
def CopyPost (C F:Int) (H:Bool) (X:Int) (v m:List Int) (w:World) (e:Ending) (w':World):Prop:=
 ∃p q,e = .returned (.agg #[.int .i64 C,.int .i64 F,.bool H,.int .u64 X,.slice (some ⟨p,0,none⟩) v.length v.length,.slice (some ⟨q,0,none⟩) m.length m.length])∧Below w.heap.size w w' ∧
  Fresh 5 w w' (.slice (some ⟨p,0,none⟩) v.length v.length) (v.map (Value.int .u8))∧Fresh 5 w w' (.slice (some ⟨q,0,none⟩) m.length m.length) (m.map (Value.int .u8))∧p<q∧w.heap.size≤p
set_option maxRecDepth 100000 in
set_option maxHeartbeats 2000000 in
theorem copy8_any (C F:Int) (H:Bool) (X:Int) (va:Option Addr) (vc:Nat) (ma:Option Addr) (mc:Nat) (v m:List Int) (hv:v.length≤1000) (hm:m.length≤1000) (w:World) (iv:Ints .u8 w va v) (im:Ints .u8 w ma m):
 Calls Tryz.prog 47 #[.agg #[.int .i64 C,.int .i64 F,.bool H,.int .u64 X,.slice va v.length vc,.slice ma m.length mc]] w (CopyPost C F H X v m w):=by
 obtain⟨W,hW,hbW,hx,hy⟩:=two_oxm w C F H X va v.length vc ma m.length mc 0 0 false 0 none 0 0 none 0 0
 have HW:=hid hW
 have HB:=hid hbW
 have IV:=hid (iv.below hbW)
 have IM:=hid (im.below hbW)
 have FV:=hid (fun W iv=>fresh8_any v va vc W (by omega) iv)
 have FM:=hid (fun W im=>fresh8_any m ma mc W (by omega) im)
 have hxD:=hx.below (below_drew8 W)
 have hyD:=hy.below (below_drew8 W)
 obtain⟨d0,d1,d2,d3,d4,d5⟩:=hxD.six
 have zx:=hxD.free
 have sW:w.heap.size+1<W.heap.size:=hy.lt
 clear hW hbW iv im
 go_enter Tryz.func47,Tryz.ntmps47
 go_wp2_with fail
 rw[HW.out]
 go_region_with (first
  | (go_at_call 64;with_reducible refine (FV.out _ ?_).mono ?_;exact IV.out.below (below_drew8 W);rintro e w5 ⟨rfl,hf5⟩;obtain⟨e0,e1,e2,e3,e4,e5⟩:=(hxD.below hf5.bel).six;have z5:=(hxD.below hf5.bel).free)
  | (go_at_call 64;with_reducible refine (FM.out _ ?_).mono ?_;exact IM.out.below (below_on (below_drew8 W) hf5.bel);rintro e w6 ⟨rfl,hf6⟩;obtain⟨g0,g1,g2,g3,g4,g5⟩:=((hxD.below hf5.bel).below hf6.bel).six;have z6:=((hxD.below hf5.bel).below hf6.bel).free)
  | fail)
 all_goals
  have hx6:=(hxD.below hf5.bel).below hf6.bel
  have hy6:=(hyD.below hf5.bel).below hf6.bel
  have n1:¬w.heap.size=w.heap.size+1:=by omega
  have n2:¬w.heap.size+1=w.heap.size:=by omega
  have hX:=(hx6.set 4 (.slice (some ⟨W.heap.size,0,none⟩) v.length v.length) (by simp)).set 5 (.slice (some ⟨w5.heap.size,0,none⟩) m.length m.length) (by simp)
  have hY:=(hy6.far (c:=w.heap.size) (i:=4) (.slice (some ⟨W.heap.size,0,none⟩) v.length v.length) n1).far (c:=w.heap.size) (i:=5) (.slice (some ⟨w5.heap.size,0,none⟩) m.length m.length) n1
  have HF5:=hid hf5
  have HF6:=hid hf6
  clear d0 d1 d2 d3 d4 d5 zx e0 e1 e2 e3 e4 e5 z5 g0 g1 g2 g3 g4 g5 z6 hf5 hf6 hx hy hxD hyD hx6 hy6
  obtain⟨d0,d1,d2,d3,d4,d5⟩:=hX.six
  obtain⟨e0,e1,e2,e3,e4,e5⟩:=hY.six
  have zY:=hY.free
  go_wp2_with fail
  have hk:=hY.set6 (.int .i64 C) (.int .i64 F) (.bool H) (.int .u64 X) (.slice (some ⟨W.heap.size,0,none⟩) v.length v.length) (.slice (some ⟨w5.heap.size,0,none⟩) m.length m.length)
  obtain⟨k0,k1,k2,k3,k4,k5⟩:=hk.six
  have s5:W.heap.size<w5.heap.size:=own_lt8 HF5.out
  refine bodyPost_ret (v:=.agg #[.int .i64 C,.int .i64 F,.bool H,.int .u64 X,.slice (some ⟨W.heap.size,0,none⟩) v.length v.length,.slice (some ⟨w5.heap.size,0,none⟩) m.length m.length]) (by simp[results,Tryz.results47,go_sem,k0,k1,k2,k3,k4,k5]) rfl ⟨W.heap.size,w5.heap.size,rfl,?_,?_,?_,s5,by omega⟩
  · repeat (with_reducible refine Below.setCell ?_ (by simp) _)
    exact below_on HB.out (below_on (below_on (below_drew8 W) HF5.out.bel) HF6.out.bel)
  · repeat (refine Fresh.turn ?_ (by_setCell _ _ _ _) (by simp[Value.ownBlock];omega) (by omega))
    exact (Fresh.made (below_by_none (below_on HB.out (below_drew8 W))) HF5.out).behind (below_by_none HF6.out.bel)
  · repeat (refine Fresh.turn ?_ (by_setCell _ _ _ _) (by simp[Value.ownBlock];omega) (by omega))
    exact Fresh.made (below_by_none (below_on HB.out (below_on (below_drew8 W) HF5.out.bel))) HF6.out
theorem fresh_ints8 {w w':World} {p:Nat} {l:List Int} {n c:Nat} (h:Fresh 5 w w' (.slice (some ⟨p,0,none⟩) n c) (l.map (Value.int .u8))):Ints .u8 w' (some ⟨p,0,none⟩) l:=by
 obtain⟨a,c',he,_,_,hI⟩:=own_ints h.own
 have he1:a=some ⟨p,0,none⟩:=by simpa using (congrArg (fun x=>match x with|Value.slice a _ _=>a|_=>none) he).symm
 rw[←he1]
 exact hI
end Go.Proofs.YthpdkancighknaaGreat
