/- Put together out of several texts. -/
import Derived.Test.YthpdkancighknaaGreatA1
import Derived.Deep.QuietTactic
import Derived.BigQuiet
import Derived.StillTailTactics
import Derived.Deep.RegionHeld3
namespace Go.Proofs.YthpdkancighknaaGreat
open Go.RowKit
set_option maxRecDepth 100000
def isW (n:Int):Bool:=(decide (0<n)&&decide (n≤8))||(decide (n<0)&&decide (-64≤n))
def allW (l:List Int):Bool:=l.all isW
def rightW (l:List Int):Bool:=decide (l.length≤64)&&allW l
theorem isWidth_any (n:Int) (w:World):Calls Tryz.prog 76 #[.int .i64 n] w fun e w'=>e = .returned (.bool (isW n))∧w=w':=by
 by_cases h1 : 0<n<;>by_cases h2:n≤8<;>by_cases h3:n<0<;>by_cases h4 : -64≤n<;>(try (exfalso;omega)) <;>
 · go_enter Tryz.func76,Tryz.ntmps76
   go_wp2
   go_ret
   exact⟨by simp[isW, *],rfl⟩
theorem all_take_succ {l:List Int} {k:Nat} {x:Int} (h:l[k]? = some x) (hp:allW (l.take k)=true) (hk:isW x=true):allW (l.take (k+1))=true:=by
 unfold allW at *
 rw[List.take_add_one,List.all_append,hp,h]
 simp[hk]
theorem allW_false {l:List Int} {k:Nat} {x:Int} (h:l[k]? = some x) (hk:isW x=false):allW l=false:=by
 unfold allW
 rw[List.all_eq_false]
 exact⟨x,List.mem_of_getElem? h,by simp[hk]⟩
theorem right_any (l:List Int) (a:Option Addr) (cap:Nat) (w:World) (hm:l.length≤9223372036854775807) (hc:Ints .i64 w a l):
 Calls Tryz.prog 55 #[.slice a l.length cap] w fun e w'=>e = .returned (.bool (rightW l))∧w=w':=by
 by_cases h64 : 64<l.length
 · go_enter Tryz.func55,Tryz.ntmps55
   go_wp2
   go_ret
   exact⟨ret_bool (by unfold rightW;simp;intro h;omega),rfl⟩
 · go_enter Tryz.func55,Tryz.ntmps55
   go_wp2
   go_loop [9] (fun i=>∃k:Nat,k≤l.length∧i = .int .i64 k∧Hid (allW (l.take k)=true)) (fun i=>l.length-(intOf i).toNat)
   case atStart=>exact⟨0,Nat.zero_le _,rfl,by simp[allW,Hid]⟩
   case round=>
    obtain⟨k,hk,rfl,hp⟩:=hrel
    by_cases hlt:k<l.length
    · obtain⟨b,off,x,rfl,hcell,hx⟩:=hc.at hlt
      cases hw:isW x
      · go_wp2_with (go_at_call 76;refine (isWidth_any _ _).mono ?_;rintro e w' ⟨rfl,rfl⟩)
        go_ret
        exact⟨ret_bool (by unfold rightW;rw[allW_false hx.out hw];simp),rfl⟩
      · go_wp2_with (go_at_call 76;refine (isWidth_any _ _).mono ?_;rintro e w' ⟨rfl,rfl⟩)
        go_round
        case rel=>exact⟨k+1,by omega,by go_num,all_take_succ hx.out hp.out hw⟩
        case measure=>simp[intOf];omega
    · go_wp2
      go_ret
      exact⟨ret_bool (by unfold rightW;simp;refine⟨by omega,?_⟩;have:=hp.out;rwa [List.take_of_length_le (by omega)]at this),rfl⟩
theorem refRight_any (l:List Int) (a:Option Addr) (cap:Nat) (w:World) (hm:l.length≤9223372036854775807) (hc:Ints .i64 w a l):
 Calls Tryz.prog 83 #[.slice a l.length cap] w fun e w'=>e = .returned (.bool (rightW l))∧w=w':=by
 go_enter Tryz.func83,Tryz.ntmps83
 go_wp2
 go_loop [3] (fun i=>∃k:Nat,k≤l.length∧i = .int .i64 k∧Hid (allW (l.take k)=true)) (fun i=>l.length-(intOf i).toNat)
 case atStart=>exact⟨0,Nat.zero_le _,rfl,by simp[allW,Hid]⟩
 case round=>
  obtain⟨k,hk,rfl,hp⟩:=hrel
  by_cases hlt:k<l.length
  · obtain⟨b,off,x,rfl,hcell,hx⟩:=hc.at hlt
    have bad:isW x=false→rightW l=false:=fun h=>by unfold rightW;rw[allW_false hx.out h];simp
    have good:isW x=true→allW (l.take (k+1))=true:=fun h=>all_take_succ hx.out hp.out h
    rcases (show x=0∨8<x∨x < -64∨(0<x∧x≤8)∨(x<0 ∧ -64≤x) from by omega) with h|h|h|h|h
    · subst h
      have B:=hid (bad rfl)
      clear bad good
      go_wp2
      go_ret
      exact⟨ret_bool B.out.symm,rfl⟩
    · have B:=hid (bad (by simp[isW];omega))
      have e0:(x==0)=false:=by simp;omega
      clear bad good
      go_wp2
      go_ret
      exact⟨ret_bool B.out.symm,rfl⟩
    · have B:=hid (bad (by simp[isW];omega))
      have e0:(x==0)=false:=by simp;omega
      have e1:¬ 8<x:=by omega
      clear bad good
      go_wp2
      go_ret
      exact⟨ret_bool B.out.symm,rfl⟩
    all_goals
     have B:=hid (good (by simp[isW];omega))
     have e0:(x==0)=false:=by simp;omega
     have e1:¬ 8<x:=by omega
     have e2:¬x < -64:=by omega
     clear bad good
     go_wp2
     go_round
     case rel=>exact⟨k+1,by omega,by go_num,B⟩
     case measure=>simp[intOf];omega
  · have hkl:k=l.length:=by omega
    have hp':allW l=true:=by have:=hp.out;rwa [List.take_of_length_le (by omega)]at this
    have HP:=hid hp'
    clear hkl hp'
    go_wp2
    go_ret
    exact⟨ret_bool (by unfold rightW;rw[HP.out];simp;omega),rfl⟩
def sizeL (l:List Int):Nat:=(l.map Int.natAbs).sum
def countL (l:List Int):Nat:=l.countP (fun n=>decide (0<n))
def sizeW (l:List Int):Nat:=if rightW l then sizeL l else 0
def countW (l:List Int):Nat:=if rightW l then countL l else 0
theorem isW_abs {x:Int} (h:isW x=true):x.natAbs≤64∧(x<0→x.natAbs≤64 ∧ -64≤x)∧(0≤x→x≤8∧0<x):=by
 simp[isW]at h;omega
theorem rightW_get {l:List Int} (h:rightW l=true) {k:Nat} {x:Int} (hx:l[k]? = some x):isW x=true:=by
 simp[rightW,allW]at h
 exact h.2 x (List.mem_of_getElem? hx)
theorem sizeL_succ {l:List Int} {k:Nat} {x:Int} (h:l[k]? = some x):sizeL (l.take (k+1))=sizeL (l.take k)+x.natAbs:=by
 unfold sizeL
 rw[List.take_add_one,h]
 simp
theorem countL_succ {l:List Int} {k:Nat} {x:Int} (h:l[k]? = some x):countL (l.take (k+1))=countL (l.take k)+if 0<x then 1 else 0:=by
 unfold countL
 rw[List.take_add_one,h]
 simp[List.countP_append,List.countP_cons]
theorem sizeL_bound {l:List Int} (h:allW l=true):sizeL l≤64*l.length:=by
 induction l with
 | nil=>simp[sizeL]
 | cons x r ih=>
   simp[allW]at h ih
   have:=ih h.2
   have:=isW_abs h.1
   simp[sizeL]at *
   omega
theorem countL_bound (l:List Int):countL l≤l.length:=List.countP_le_length
theorem rightW_len {l:List Int} (h:rightW l=true):l.length≤64:=by simp[rightW]at h;exact h.1
theorem rightW_all {l:List Int} (h:rightW l=true):allW l=true:=by simp[rightW]at h;exact h.2
theorem allW_take {l:List Int} (h:allW l=true) (k:Nat):allW (l.take k)=true:=by
 simp[allW]at *
 intro x hx;exact h x (List.mem_of_mem_take hx)
theorem sizeL_take_bound {l:List Int} (h:rightW l=true) (k:Nat):sizeL (l.take k)≤4096:=by
 have:=sizeL_bound (allW_take (rightW_all h) k)
 have:=rightW_len h
 have:(l.take k).length≤l.length:=by simp;omega
 omega
theorem countL_take_bound {l:List Int} (h:rightW l=true) (k:Nat):countL (l.take k)≤64:=by
 have:=countL_bound (l.take k)
 have:=rightW_len h
 have:(l.take k).length≤l.length:=by simp;omega
 omega
theorem size_any (l:List Int) (a:Option Addr) (cap:Nat) (w:World) (hm:l.length≤9223372036854775807) (hc:Ints .i64 w a l):
 Calls Tryz.prog 57 #[.slice a l.length cap] w fun e w'=>e = .returned (.int .i64 (sizeW l))∧w=w':=by
 cases hr:rightW l
 · go_enter Tryz.func57,Tryz.ntmps57
   go_wp2_with (go_at_call 55;refine (right_any _ _ _ _ hm hc).mono ?_;rintro e w' ⟨rfl,rfl⟩)
   go_ret
   exact⟨ret_int (by simp[sizeW,hr]),rfl⟩
 · have hb:=sizeL_take_bound hr
   have hlen:=rightW_len hr
   have HB:=hid hb
   clear hb
   go_enter Tryz.func57,Tryz.ntmps57
   go_wp2_with (go_at_call 55;refine (right_any _ _ _ _ hm hc).mono ?_;rintro e w' ⟨rfl,rfl⟩)
   go_loop [3,10] (fun s i=>∃k:Nat,k≤l.length∧i = .int .i64 k∧s = .int .i64 (sizeL (l.take k):Nat)) (fun _ i=>l.length-(intOf i).toNat)
   case atStart=>exact⟨0,Nat.zero_le _,rfl,by simp[sizeL]⟩
   case round=>
    obtain⟨k,hk,rfl,rfl⟩:=hrel
    by_cases hlt:k<l.length
    · obtain⟨b,off,x,rfl,hcell,hx⟩:=hc.at hlt
      have hi:=isW_abs (rightW_get hr hx.out)
      have hs:=HB.out k
      have hst:=hid (sizeL_succ hx.out)
      by_cases hneg:x<0
      all_goals
       have hx1 : -64≤x:=by omega
       have hx2:x≤64:=by omega
       clear hi
       go_wp2
       go_round
       case rel=>exact⟨k+1,by omega,by go_num,by rw[hst.out];congr 1;omega⟩
       case measure=>simp[intOf];omega
    · have e:sizeL (l.take k)=sizeW l:=by rw[List.take_of_length_le (by omega)];simp[sizeW,hr]
      have E:=hid e
      clear e
      go_wp2
      go_ret
      exact⟨ret_int (by rw[E.out]),rfl⟩
theorem count_any (l:List Int) (a:Option Addr) (cap:Nat) (w:World) (hm:l.length≤9223372036854775807) (hc:Ints .i64 w a l):
 Calls Tryz.prog 56 #[.slice a l.length cap] w fun e w'=>e = .returned (.int .i64 (countW l))∧w=w':=by
 cases hr:rightW l
 · go_enter Tryz.func56,Tryz.ntmps56
   go_wp2_with (go_at_call 55;refine (right_any _ _ _ _ hm hc).mono ?_;rintro e w' ⟨rfl,rfl⟩)
   go_ret
   exact⟨ret_int (by simp[countW,hr]),rfl⟩
 · have HB:=hid (countL_take_bound hr)
   have hlen:=rightW_len hr
   go_enter Tryz.func56,Tryz.ntmps56
   go_wp2_with (go_at_call 55;refine (right_any _ _ _ _ hm hc).mono ?_;rintro e w' ⟨rfl,rfl⟩)
   go_loop [3,10] (fun s i=>∃k:Nat,k≤l.length∧i = .int .i64 k∧s = .int .i64 (countL (l.take k):Nat)) (fun _ i=>l.length-(intOf i).toNat)
   case atStart=>exact⟨0,Nat.zero_le _,rfl,by simp[countL]⟩
   case round=>
    obtain⟨k,hk,rfl,rfl⟩:=hrel
    by_cases hlt:k<l.length
    · obtain⟨b,off,x,rfl,hcell,hx⟩:=hc.at hlt
      have hs:=HB.out k
      have hst:=hid (countL_succ hx.out)
      by_cases hpos : 0<x
      all_goals
       go_wp2
       go_round
       case rel=>exact⟨k+1,by omega,by go_num,by rw[hst.out];first|(rw[if_pos (by omega)];go_num)|(rw[if_neg (by omega)];go_num)⟩
       case measure=>simp[intOf];omega
    · have e:countL (l.take k)=countW l:=by rw[List.take_of_length_le (by omega)];simp[countW,hr]
      have E:=hid e
      clear e
      go_wp2
      go_ret
      exact⟨ret_int (by rw[E.out]),rfl⟩
theorem refCount_any (l:List Int) (a:Option Addr) (cap:Nat) (w:World) (hm:l.length≤9223372036854775807) (hc:Ints .i64 w a l):
 Calls Tryz.prog 82 #[.slice a l.length cap] w fun e w'=>e = .returned (.int .i64 (countW l))∧w=w':=by
 cases hr:rightW l
 · have e:countW l=0:=by simp[countW,hr]
   have E:=hid e
   clear e
   go_enter Tryz.func82,Tryz.ntmps82
   go_wp2
   refine wp_loop_rounds 1 ?_
   rw[rounds_succ]
   by_cases hz:(0:Int)<(l.length:Int)
   all_goals
    go_wp2_with (go_at_call 83;refine (refRight_any _ _ _ _ hm hc).mono ?_;rintro e w' ⟨rfl,rfl⟩)
    go_ret
    exact⟨ret_int (by rw[E.out];rfl),rfl⟩
 · have HB:=hid (countL_take_bound hr)
   have hlen:=rightW_len hr
   go_enter Tryz.func82,Tryz.ntmps82
   go_wp2
   go_loop [3,4] (fun s i=>∃k:Nat,k≤l.length∧i = .int .i64 k∧s = .int .i64 (countL (l.take k):Nat)) (fun _ i=>l.length-(intOf i).toNat)
   case atStart=>exact⟨0,Nat.zero_le _,rfl,by simp[countL]⟩
   case round=>
    obtain⟨k,hk,rfl,rfl⟩:=hrel
    by_cases hlt:k<l.length
    · obtain⟨b,off,x,rfl,hcell,hx⟩:=hc.at hlt
      have hs:=HB.out k
      have hst:=hid (countL_succ hx.out)
      by_cases hpos : 0<x
      all_goals
       go_wp2_with (go_at_call 83;refine (refRight_any _ _ _ _ hm hc).mono ?_;rintro e w' ⟨rfl,rfl⟩)
       go_round
       case rel=>exact⟨k+1,by omega,by go_num,by rw[hst.out];first|(rw[if_pos (by omega)];go_num)|(rw[if_neg (by omega)];go_num)⟩
       case measure=>simp[intOf];omega
    · have e:countL (l.take k)=countW l:=by rw[List.take_of_length_le (by omega)];simp[countW,hr]
      have E:=hid e
      clear e
      go_wp2
      go_ret
      exact⟨ret_int (by rw[E.out]),rfl⟩
theorem take_succ_eq {l m:List Int} {k:Nat} {x:Int} (hp:l.take k=m.take k) (hx:l[k]? = some x) (hy:m[k]? = some x):l.take (k+1)=m.take (k+1):=by
 rw[List.take_add_one,List.take_add_one,hp,hx,hy]
theorem ne_of_get {l m:List Int} {k:Nat} {x y:Int} (hx:l[k]? = some x) (hy:m[k]? = some y) (h:x≠y):(l==m)=false:=by
 rw[beq_eq_false_iff_ne]
 rintro rfl
 rw[hx]at hy
 exact h (by simpa using hy)
theorem ne_of_len {l m:List Int} (h:l.length≠m.length):(l==m)=false:=by
 rw[beq_eq_false_iff_ne]
 rintro rfl
 exact h rfl
theorem bytes_any (l m:List Int) (a b:Option Addr) (c d:Nat) (w:World) (hl:l.length≤9223372036854775807) (hm:m.length≤9223372036854775807) (hc:Ints .u8 w a l) (hd:Ints .u8 w b m):
 Calls Tryz.prog 34 #[.slice a l.length c,.slice b m.length d] w fun e w'=>e = .returned (.bool (l==m)) ∧ ∃n,w.drewN n=w':=by
 by_cases hlen:l.length=m.length
 · have HL:=hid hlen
   have e0:((l.length:Int) != (m.length:Int))=false:=by simp;omega
   clear hlen
   go_enter Tryz.func34,Tryz.ntmps34
   go_wp2
   go_loopw [5] (fun i wr=>∃k n:Nat,k≤l.length∧i = .int .i64 k∧Hid (l.take k=m.take k)∧wr=w.drewN n) (fun i _=>l.length-(intOf i).toNat)
   case atStart=>exact⟨0,0,Nat.zero_le _,rfl,by simp[Hid],rfl⟩
   case round=>
    obtain⟨k,n,hk,rfl,hp,rfl⟩:=hrel
    by_cases hlt:k<l.length
    · obtain⟨b1,off1,x,rfl,hcell1,hx⟩:=hc.at hlt
      have hlt2:k<m.length:=by have:=HL.out;omega
      obtain⟨b2,off2,y,rfl,hcell2,hy⟩:=hd.at hlt2
      have i1:(k:Int)<(l.length:Int):=by omega
      have i2:(k:Int)<(m.length:Int):=by omega
      by_cases hxy:x=y
      · subst hxy
        go_wp2
        go_quiet (fail)
        go_wp2
        go_roundw
        case rel=>exact⟨k+1,_,by omega,by go_num,take_succ_eq hp.out hx.out hy.out,rfl⟩
        case measure=>simp[intOf];omega
      · have E:=hid (ne_of_get hx.out hy.out hxy)
        have e1:(x != y)=true:=by simp;omega
        clear hxy
        go_wp2
        go_quiet (fail)
        go_wp2
        go_ret
        exact⟨ret_bool E.out.symm,_,by first|rfl|exact (World.drewN_drewN _ _ _).symm⟩
    · have E:Hid ((l==m)=true):=by
       have:=hp.out
       rw[List.take_of_length_le (by omega),List.take_of_length_le (by have:=HL.out;omega)]at this
       subst this
       simp[Hid]
      go_wp2
      go_ret
      exact⟨ret_bool E.out.symm,_,by first|rfl|exact (World.drewN_drewN _ _ _).symm⟩
 · have E:=hid (ne_of_len hlen)
   have e0:((l.length:Int) != (m.length:Int))=true:=by simp;omega
   clear hlen
   go_enter Tryz.func34,Tryz.ntmps34
   go_wp2
   go_ret
   exact⟨ret_bool E.out.symm,0,rfl⟩
def zeros (l:List Int):Bool:=l.all (fun x=>x==0)
theorem zeros_succ {l:List Int} {k:Nat} {x:Int} (h:l[k]? = some x) (hp:zeros (l.take k)=true) (hk:x=0):zeros (l.take (k+1))=true:=by
 unfold zeros at *
 rw[List.take_add_one,List.all_append,hp,h]
 simp[hk]
theorem zeros_false {l:List Int} {k:Nat} {x:Int} (h:l[k]? = some x) (hk:x≠0):zeros l=false:=by
 unfold zeros
 rw[List.all_eq_false]
 exact⟨x,List.mem_of_getElem? h,by simpa using hk⟩
theorem elemU8:Elem Tryz.prog 33 5 (.int .u8 0) 1:=⟨by kernel_rfl,by kernel_rfl,rfl⟩
theorem underInt:Tryz.prog.underlying 3=some (.int .i64):=by kernel_rfl
def roomB (n x:Int):Bool:=decide (n<p256 x.toNat)
theorem room_shift {n x:Int} (h0 : 0≤n) (h1 : 1≤x):(n/2^(8*x).toNat==0)=roomB n x:=by
 obtain⟨k,rfl⟩:=Int.eq_ofNat_of_zero_le (show 0≤x by omega)
 have e:(8*(k:Int)).toNat=8*k:=by omega
 rw[e,two_pow_p256,Bool.eq_iff_iff,beq_iff_eq]
 unfold roomB
 rw[decide_eq_true_iff,Int.toNat_natCast]
 have hp:=p256_pos k
 constructor
 · intro h
   have:=Int.mul_ediv_add_emod n (p256 k)
   have h2:=Int.emod_lt_of_pos n hp
   rw[h,Int.mul_zero]at this
   omega
 · intro h;exact Int.ediv_eq_zero_of_lt h0 h
theorem fits_shift {n x:Int} (h8:n<p256 8) (h1 : 1≤x) (h2:x≤8):(x==8||decide (n<IntKind.u64.wrap (2^(8*x).toNat)))=roomB n x:=by
 obtain⟨k,rfl⟩:=Int.eq_ofNat_of_zero_le (show 0≤x by omega)
 have e:(8*(k:Int)).toNat=8*k:=by omega
 rw[e,two_pow_p256]
 unfold roomB
 rw[Int.toNat_natCast]
 by_cases hk:k=8
 · subst hk;simp[h8]
 · have e1:((k:Int)==8)=false:=by simp;omega
   have hlt:p256 k≤p256 7:=p256_mono (by omega)
   have hp:=p256_pos k
   rw[p256_7]at hlt
   have e2:IntKind.u64.wrap (p256 k)=p256 k:=by
    simp only[IntKind.wrap,IntKind.bits,IntKind.signed]
    simp
    omega
   rw[e1,e2]
   rfl
theorem hasRoom_any (n x:Int) (w:World) (h0 : 0≤n) (h1 : 1≤x) (h2:x≤8):
 Calls Tryz.prog 60 #[.int .u64 n,.int .i64 x] w fun e w'=>e = .returned (.bool (roomB n x))∧w=w':=by
 have E:=hid (room_shift h0 h1)
 go_enter Tryz.func60,Tryz.ntmps60
 go_wp2
 go_ret
 exact⟨ret_bool E.out,rfl⟩
theorem fits_any (n x:Int) (w:World) (h8:n<p256 8) (h1 : 1≤x) (h2:x≤8):
 Calls Tryz.prog 84 #[.int .u64 n,.int .i64 x] w fun e w'=>e = .returned (.bool (roomB n x))∧w=w':=by
 have E:=hid (fits_shift h8 h1 h2)
 clear h8
 by_cases hx:x=8
 · have e1:(x==8)=true:=by simp[hx]
   rw[e1]at E
   clear hx
   go_enter Tryz.func84,Tryz.ntmps84
   go_wp2
   go_ret
   exact⟨ret_bool E.out,rfl⟩
 · have e1:(x==8)=false:=by simp[hx]
   rw[e1]at E
   clear hx
   go_enter Tryz.func84,Tryz.ntmps84
   go_wp2
   go_ret
   exact⟨ret_bool E.out,rfl⟩
theorem appendNumber_any (n:Int) (x:Nat) (v:Value) (xs:List Value) (w:World) (h2:x≤8) (hx:xs.length≤65536)
 (hown:w.ownsRow 0 5 1 v xs.length xs):
 Calls Tryz.prog 61 #[v,.int .u64 n,.int .i64 x] w fun e w'=>∃v',e = .returned v'∧Grew 5 w w' v v' (xs++(bytesL n x).map (Value.int .u8)):=by
 go_enter Tryz.func61,Tryz.ntmps61
 go_wp2
 go_loopw [0,9] (fun u i wr=>∃k:Nat,k≤x∧i = .int .i64 k∧Grew 5 w wr v u (xs++((bytesL n x).take k).map (Value.int .u8))) (fun _ i _=>x-(intOf i).toNat)
 case atStart=>exact⟨0,Nat.zero_le _,rfl,by simpa using Grew.refl hown⟩
 case round=>
  obtain⟨k,hk,rfl,hg⟩:=hrel
  by_cases hlt:k<x
  · have hL:(xs++((bytesL n x).take k).map (Value.int .u8)).length≤65600:=by have:=bytesL_length n x;simp;omega
    have hT:Hid ((xs++((bytesL n x).take k).map (Value.int .u8)) ++ [n/2^(8*(x-1-k))%256].map (Value.int .u8)=xs++((bytesL n x).take (k+1)).map (Value.int .u8)):=by
     unfold Hid
     rw[bytesL_succ hlt,List.append_assoc,←List.map_append]
     unfold byteAt
     rw[two_pow_p256]
    go_wp2_with (at_builtin;refine wp_app rfl _ _ rfl elemU8 rfl (hg.own.alloc _) (k:=.u8) (l:=[n/2^(8*(x-1-k))%256]) rfl rfl (ints_one _ _ _ _) ?_ ?_ ?_;(simp only[List.length_singleton];omega);(simp only[List.length_singleton];omega);intro v' w' hg')
    have hg2:=hg.trans (hg'.ahead (by_none_alloc _ _))
    rw[hT.out]at hg2
    clear hg hg' hL
    go_roundw
    case rel=>exact⟨k+1,by omega,by go_num,hg2⟩
    case measure=>simp[intOf];omega
  · have e:(bytesL n x).take k=bytesL n x:=by rw[List.take_of_length_le];rw[bytesL_length];omega
    rw[e]at hg
    go_wp2
    go_ret
    exact⟨_,rfl,hg⟩
theorem num_rel {n:Int} {x i:Nat} (h:i<x):((List.replicate (x-i) (0:Int)++bytesL n i).map (Value.int .u8)).set (x-1-i) (.int .u8 (n/2^(8*i)%256))=(List.replicate (x-(i+1)) (0:Int)++bytesL n (i+1)).map (Value.int .u8):=by
 rw[two_pow_p256,show n/p256 i%256=byteAt n i from rfl,←List.map_set,List.set_append_left _ _ (by simp;omega)]
 congr 1
 obtain⟨m,hm⟩:∃m,x-i=m+1:=⟨x-i-1,by omega⟩
 rw[show x-1-i=m from by omega,show x-(i+1)=m from by omega,hm,List.replicate_succ',List.set_append_right _ _ (by simp)]
 simp[bytesL]
theorem num_any (n:Int) (x:Nat) (w:World) (h2:x≤8):
 Calls Tryz.prog 49 #[.int .u64 n,.int .i64 x] w fun e w'=>∃v',e = .returned v'∧Fresh 5 w w' v' ((bytesL n x).map (Value.int .u8)):=by
 go_enter Tryz.func49,Tryz.ntmps49
 go_wp2_with (at_make;refine wp_make rfl _ _ rfl elemU8 rfl rfl rfl rfl (Nat.le_refl _) (by omega) (by omega) ?_;intro w1 hf)
 go_loopw [6] (fun i wr=>∃k:Nat,k≤x∧i = .int .i64 k∧wr.ownsRow 0 5 1 (.slice (some ⟨w.heap.size,0,none⟩) x x) x ((List.replicate (x-k) (0:Int)++bytesL n k).map (Value.int .u8))∧Below w.heap.size w wr) (fun i _=>x-(intOf i).toNat)
 case atStart=>exact⟨0,Nat.zero_le _,rfl,by simpa [bytesL]using hf.own,hf.bel⟩
 case round=>
  obtain⟨k,hk,rfl,hown,hb⟩:=hrel
  by_cases hlt:k<x
  · obtain⟨old,hold⟩:∃old,wr.cell? ⟨w.heap.size,x-1-k,none⟩=some old:=by
     rw[hown.cellAt _ (by omega)]
     have:x-1-k<((List.replicate (x-k) (0:Int)++bytesL n k).map (Value.int .u8)).length:=by rw[hown.1];omega
     exact⟨_,List.getElem?_eq_getElem this⟩
    have hfr:=hown.frozenAt (x-1-k)
    have hst:=hown.stored (x-1-k) (.int .u8 (n/2^(8*k)%256))
    rw[num_rel hlt]at hst
    have HS:=hid hst
    clear hst hown hf
    have hi:(x:Int)-1-k<(x:Int):=by omega
    go_wp2
    go_roundw
    case rel=>exact⟨k+1,by omega,by go_num,HS.out.1,hb.setCell (Nat.le_refl _) _⟩
    case measure=>simp[intOf];omega
  · obtain rfl:k=x:=by omega
    rw[Nat.sub_self,List.replicate_zero,List.nil_append]at hown
    have e:((bytesL n k).map (Value.int .u8)).length=k:=by rw[List.length_map,bytesL_length]
    clear hf hlt
    go_wp2
    go_ret
    exact⟨_,rfl,by rw[e];exact hown,hb,by simp[Value.ownBlock]⟩
theorem quietS {P:Program} {f:FuncId} {args:Array Value} {w:World} {n:Nat} {v:Value}
 (h:Calls P f args (w.drewN n) fun e w'=>e = .returned v∧w.drewN n=w'):Calls P f args (w.drewN n) fun e w''=>e = .returned v ∧ ∃m,w''=w.drewN m:=
 h.mono fun _ _ ⟨he,hm⟩=>⟨he,n,hm.symm⟩
theorem wp_tail {P:Program} {id:Nat} {Q:Exit→Act→World→Prop} {a:Act} {w:World} {l:List Oper} (n:Nat) (hm:P.follows .mixedOrders=true) (hB:Region.lexTailB .any l.toArray n=true)
 (h:wpStill P l.toArray w.drew (fun a'=>wpList P l.toArray Q (l.drop n) a' w.drew) (l.take n) a):(Code.region id l.toArray true).wp P Q a w:=
 wp_region_still_tail n hm hB h
def U64s (l:List Int):Prop:=∀x,x∈l→0≤x∧x<p256 8
def putL:List Int→List Int→Option (List Int)
 | [],_=>some []
 | x::ws,ns=>
   if x<0 then (putL ws ns).map (List.replicate x.natAbs 0 ++ ·)
   else match ns with
    | []=>none
    | n::r=>if roomB n x then (putL ws r).map (bytesL n x.toNat ++ ·) else none
def putW (l ns:List Int):Option (List Int):=if rightW l&&(countL l==ns.length) then putL l ns else none
theorem drop_of_get {l:List Int} {k:Nat} {x:Int} (h:l[k]? = some x):l.drop k=x::l.drop (k+1):=by
 have hk:k<l.length:=by
  rcases Nat.lt_or_ge k l.length with h'|h'
  · exact h'
  · rw[List.getElem?_eq_none h']at h;simp at h
 rw[List.drop_eq_getElem_cons hk]
 rw[List.getElem?_eq_getElem hk]at h
 simp at h
 rw[h]
structure PutAt (l ns:List Int) (k:Nat) (pre r:List Int):Prop where
 put:putL l ns=(putL (l.drop k) r).map (pre ++ ·)
 count:countL (l.drop k)=r.length
 u64:U64s r
 len:pre.length=sizeL (l.take k)
theorem PutAt.start {l ns:List Int} (h:countL l=ns.length) (hu:U64s ns):PutAt l ns 0 [] ns:=
 ⟨by simp,by simpa using h,hu,by simp[sizeL]⟩
theorem PutAt.zero {l ns pre r:List Int} {k:Nat} {x:Int} (h:PutAt l ns k pre r) (hx:l[k]? = some x) (hn:x<0):PutAt l ns (k+1) (pre++List.replicate x.natAbs 0) r:=by
 have hd:=drop_of_get hx
 refine⟨?_,?_,h.u64,?_⟩
 · rw[h.put,hd,putL.eq_def]
   simp only[if_pos hn,Option.map_map]
   congr 1
   funext y
   simp
 · have:=h.count
   rw[hd,countL,List.countP_cons,if_neg (by simp;omega)]at this
   exact this
 · rw[sizeL_succ hx,List.length_append,h.len];simp
theorem PutAt.next {l ns pre r:List Int} {k:Nat} {x:Int} (h:PutAt l ns k pre r) (hx:l[k]? = some x) (hn : 0<x):
 ∃n r',r=n::r'∧0≤n∧n<p256 8∧(roomB n x=false→putL l ns=none)∧(roomB n x=true→PutAt l ns (k+1) (pre++bytesL n x.toNat) r'):=by
 have hd:=drop_of_get hx
 have hc:=h.count
 rw[hd,countL,List.countP_cons,if_pos (by simpa using hn)]at hc
 cases r with
 | nil=>simp at hc
 | cons n r'=>
   have hu:=h.u64 n (List.mem_cons_self ..)
   refine⟨n,r',rfl,hu.1,hu.2,?_,?_⟩
   · intro hr
     rw[h.put,hd,putL.eq_def]
     simp[hr,show ¬x<0 by omega]
   · intro hr
     refine⟨?_,?_,fun y hy=>h.u64 y (List.mem_cons_of_mem _ hy),?_⟩
     · rw[h.put,hd,putL.eq_def]
       simp only[show ¬x<0 by omega,if_false,hr,if_true,Option.map_map]
       congr 1
       funext y
       simp
     · simp at hc;unfold countL;omega
     · rw[sizeL_succ hx,List.length_append,h.len,bytesL_length];omega
theorem PutAt.done {l ns pre r:List Int} {k:Nat} (h:PutAt l ns k pre r) (hk:l.length≤k):putL l ns=some pre:=by
 rw[h.put,List.drop_of_length_le hk];simp[putL]
def PutPost (s:Option (List Int)) (w:World) (e:Ending) (w':World):Prop:=
 (s=none∧e = .returned (.tuple #[.slice none 0 0,.bool false])∧Below w.heap.size w w') ∨
 ∃bs v,s=some bs∧e = .returned (.tuple #[v,.bool true])∧Fresh 5 w w' v (bs.map (Value.int .u8))
theorem putW_no {l ns:List Int} (h:rightW l=false∨countL l≠ns.length):putW l ns=none:=by
 unfold putW
 rcases h with h|h
 · simp[h]
 · have:(countL l==ns.length)=false:=by simp;omega
   rw[this];simp
theorem putW_yes {l ns:List Int} (h:rightW l=true) (h':countL l=ns.length):putW l ns=putL l ns:=by
 unfold putW
 simp[h,h']
theorem put_any (l ns:List Int) (a b:Option Addr) (c d:Nat) (w:World) (hl:l.length≤9223372036854775807) (hcd:ns.length≤d)
 (hu:U64s ns) (ha:Ints .i64 w a l) (hb:Ints .u64 w b ns):
 Calls Tryz.prog 42 #[.slice a l.length c,.slice b ns.length d] w fun e w'=>PutPost (putW l ns) w e w':=by
 cases hr:rightW l
 · have hp:=hid (putW_no (ns:=ns) (.inl hr))
   go_enter Tryz.func42,Tryz.ntmps42
   go_wp2_with (go_at_call 55;refine (right_any _ _ _ _ hl ha).mono ?_;rintro e w' ⟨rfl,rfl⟩)
   go_ret2
   exact .inl ⟨hp.out,rfl,Below.refl _ _⟩
 · have hcw : countW l=countL l:=by simp[countW,hr]
   have hc64:=countL_take_bound hr l.length
   rw[List.take_length]at hc64
   have hcw2:countW l≤64:=by omega
   by_cases hcl:countL l=ns.length
   · have e0:((ns.length:Int) != (countW l:Int))=false:=by rw[bne_eq_false_iff_eq];omega
     have hp:=hid (putW_yes hr hcl)
     have hsb:=sizeL_take_bound hr l.length
     rw[List.take_length]at hsb
     have hsw:sizeW l=sizeL l:=by simp[sizeW,hr]
     have hs0:=PutAt.start hcl hu
     have HW:=hid hcw
     have HSW:=hid hsw
     have hsb2:sizeW l≤4096:=by omega
     have hlen:=rightW_len hr
     have HB:=hid (sizeL_take_bound hr)
     clear hcw hsw hcl
     go_enter Tryz.func42,Tryz.ntmps42
     go_wp2_with (first|(go_at_call 55;refine (right_any _ _ _ _ hl ha).mono ?_;rintro e w' ⟨rfl,rfl⟩)|(go_at_call 56;refine (count_any _ _ _ _ hl ha).mono ?_;rintro e w' ⟨rfl,rfl⟩)|(go_at_call 57;refine (size_any _ _ _ _ hl ha).mono ?_;rintro e w' ⟨rfl,rfl⟩)|(at_make;refine wp_make rfl _ _ rfl elemU8 rfl rfl rfl rfl (Nat.zero_le _) (by omega) (by omega) ?_;intro w1 hf))
     go_loopw [1,6,23] (fun u v i wr=>∃(k m d':Nat) (pre r:List Int) (b':Option Addr),k≤l.length∧i = .int .i64 k∧u = .slice b' m d'∧m≤d'∧Hid (m=r.length)∧Ints .u64 w b' r ∧
      Fresh 5 w wr v (pre.map (Value.int .u8))∧Hid (PutAt l ns k pre r)) (fun _ _ i _=>l.length-(intOf i).toNat)
     case atStart=>exact⟨0,_,_,[],ns,_,Nat.zero_le _,rfl,rfl,hcd,rfl,hb,by simpa using hf,hs0⟩
     case round=>
      clear hf hs0
      obtain⟨k,m,d',pre,r,b',hk,rfl,rfl,hmd,hm,hi,hf,hP⟩:=hrel
      by_cases hlt:k<l.length
      · obtain⟨b1,off1,x,rfl,hcell,hx⟩:=(ha.below hf.bel).at hlt
        have hxx:=isW_abs (rightW_get hr hx.out)
        have hpl:(pre.map (Value.int .u8)).length≤4096:=by rw[List.length_map,hP.out.len];exact HB.out k
        by_cases hneg:x<0
        · have hx1 : -64≤x:=by omega
          have hnext:=hid (hP.out.zero hx.out hneg)
          clear hxx
          go_wp2_with (first|(at_builtin;refine wp_app_zeros rfl _ _ rfl elemU8 underInt rfl hf.own (n:=x.natAbs) rfl ?_ ?_ ?_ ?_;omega;omega;omega;intro v' w' hg)|go_in)
          have hf2:=hf.step hg
          rw[←List.map_append]at hf2
          clear hf hg
          go_roundw
          case rel=>exact⟨k+1,_,_,_,_,_,by omega,by go_num,rfl,hmd,hm,hi,hf2,hnext⟩
          case measure=>simp[intOf];omega
        · have hx1 : 0<x:=by omega
          have hx2:x≤8:=by omega
          obtain⟨q,rfl⟩:=Int.eq_ofNat_of_zero_le (show 0≤x by omega)
          obtain⟨n,r',rfl,hn0,hn8,hno,hyes⟩:=hP.out.next hx.out hx1
          have hm1 : 0<m:=by have:=hm.out;simp at this;omega
          have hm2:(0:Int)<(m:Int):=by omega
          obtain⟨b2,off2,y,rfl,hcell2,hy⟩:=(hi.below hf.bel).at (i:=0) (by simp)
          obtain rfl:n=y:=by simpa [Hid]using hy
          have hk2:(k:Int)<(l.length:Int):=by omega
          rw[Nat.add_zero]at hcell2
          have HN:=hid hn8
          clear hn8 hy hxx
          cases hroom:roomB n (q:Int)
          · have hnone:=hid (hno hroom)
            clear hno hyes
            go_wp2_with go_in
            go_quiet ((go_at_call 60;exact quietS (hasRoom_any _ _ _ hn0 hx1 hx2)))
            go_wp2
            go_ret2
            exact .inl ⟨by rw[hp.out,hnone.out],rfl,below_drewN hf.bel _⟩
          · have hnext:=hid (hyes hroom)
            clear hno hyes
            go_wp2_with go_in
            go_quiet ((go_at_call 60;exact quietS (hasRoom_any _ _ _ hn0 hx1 hx2)))
            go_wp2
            refine wp_tail 8 (by kernel_rfl) (by kernel_rfl) ?_
            simp only[List.take_succ_cons,List.take_zero,List.drop_succ_cons,List.drop_zero]
            repeat still_step
            refine wpStill_nil ?_
            have hf1:=hf.behind (by_none_drewN _ (nq+1))
            clear hf
            go_wp2_with (go_at_call 61;refine (appendNumber_any _ _ _ _ _ (by omega) (by omega) hf1.own).mono ?_;rintro e w' ⟨v',rfl,hg⟩)
            have hf2:=hf1.step hg
            rw[←List.map_append]at hf2
            have hi2:Ints .u64 w (if d'=1 then some ⟨b2,off2,none⟩ else some ⟨b2,off2+1,none⟩) r':=hi.drop (j:=1) (by have:=hm.out;omega)
            clear hf1 hg hi
            go_roundw
            case rel=>exact⟨k+1,m-1,d'-1,_,r',_,by omega,by go_num,rfl,by omega,by have:=hm.out;unfold Hid;simp at this;omega,hi2,hf2,hnext⟩
            case measure=>simp[intOf];omega
      · have hput:=hid (hP.out.done (by omega))
        go_wp2
        go_ret2
        exact .inr ⟨_,_,by rw[hp.out,hput.out],rfl,hf⟩
   · have e0:((ns.length:Int) != (countW l:Int))=true:=by rw[bne_iff_ne];omega
     have hp:=hid (putW_no (ns:=ns) (.inr hcl))
     clear hcl hcw
     go_enter Tryz.func42,Tryz.ntmps42
     go_wp2_with (first|(go_at_call 55;refine (right_any _ _ _ _ hl ha).mono ?_;rintro e w' ⟨rfl,rfl⟩)|(go_at_call 56;refine (count_any _ _ _ _ hl ha).mono ?_;rintro e w' ⟨rfl,rfl⟩))
     go_ret2
     exact .inl ⟨hp.out,rfl,Below.refl _ _⟩
theorem drop_cons {l r:List Int} {j:Nat} {n:Int} (h:n::r=l.drop j):l[j]? = some n∧j<l.length∧r=l.drop (j+1):=by
 have hj:j<l.length:=by
  rcases Nat.lt_or_ge j l.length with h'|h'
  · exact h'
  · rw[List.drop_of_length_le h']at h;simp at h
 rw[List.drop_eq_getElem_cons hj]at h
 injection h with h1 h2
 exact⟨by rw[List.getElem?_eq_getElem hj,h1],hj,h2⟩
set_option maxHeartbeats 1600000 in
theorem refPut_any (l ns:List Int) (a b:Option Addr) (c d:Nat) (w:World) (hl:l.length≤9223372036854775807) (hn:ns.length≤9223372036854775806)
 (hu:U64s ns) (ha:Ints .i64 w a l) (hb:Ints .u64 w b ns):
 Calls Tryz.prog 71 #[.slice a l.length c,.slice b ns.length d] w fun e w'=>PutPost (putW l ns) w e w':=by
 cases hr:rightW l
 · have hp:=hid (putW_no (ns:=ns) (.inl hr))
   go_enter Tryz.func71,Tryz.ntmps71
   go_wp2_with (go_at_call 83;refine (refRight_any _ _ _ _ hl ha).mono ?_;rintro e w' ⟨rfl,rfl⟩)
   go_ret2
   exact .inl ⟨hp.out,rfl,Below.refl _ _⟩
 · have hcw : countW l=countL l:=by simp[countW,hr]
   by_cases hcl:countL l=ns.length
   · have e0 : ((countW l:Int) != (ns.length:Int))=false:=by rw[bne_eq_false_iff_eq];omega
     have hp:=hid (putW_yes hr hcl)
     have hs0:=PutAt.start hcl hu
     have hlen:=rightW_len hr
     have HB:=hid (sizeL_take_bound hr)
     clear hcw hcl
     go_enter Tryz.func71,Tryz.ntmps71
     go_wp2_with (first|(go_at_call 83;refine (refRight_any _ _ _ _ hl ha).mono ?_;rintro e w' ⟨rfl,rfl⟩)|(go_at_call 82;refine (refCount_any _ _ _ _ hl ha).mono ?_;rintro e w' ⟨rfl,rfl⟩))
     go_loopw [6,7,8] (fun v jj i wr=>∃(k j:Nat) (pre r:List Int),k≤l.length∧i = .int .i64 k∧jj = .int .i64 j∧j≤ns.length∧Hid (r=ns.drop j) ∧
      Fresh 5 w wr v (pre.map (Value.int .u8))∧Hid (PutAt l ns k pre r)) (fun _ _ i _=>l.length-(intOf i).toNat)
     case atStart=>exact⟨0,0,[],ns,Nat.zero_le _,rfl,rfl,Nat.zero_le _,by simp[Hid],⟨own_nil _ _,Below.refl _ _,by simp[Value.ownBlock]⟩,hs0⟩
     case round=>
      clear hs0
      obtain⟨k,j,pre,r,hk,rfl,rfl,hj,hrj,hf,hP⟩:=hrel
      by_cases hlt:k<l.length
      · obtain⟨b1,off1,x,rfl,hcell,hx⟩:=(ha.below hf.bel).at hlt
        have hxx:=isW_abs (rightW_get hr hx.out)
        have hpl:(pre.map (Value.int .u8)).length≤4096:=by rw[List.length_map,hP.out.len];exact HB.out k
        by_cases hneg:x<0
        · have hx1 : -64≤x:=by omega
          have hnext:=hid (hP.out.zero hx.out hneg)
          clear hxx
          go_wp2_with (first|(at_builtin;refine wp_app_zeros rfl _ _ rfl elemU8 underInt rfl hf.own (n:=x.natAbs) rfl ?_ ?_ ?_ ?_;omega;omega;omega;intro v' w' hg)|go_in)
          have hf2:=hf.step hg
          rw[←List.map_append]at hf2
          clear hf hg
          go_roundw
          case rel=>exact⟨k+1,j,_,_,by omega,by go_num,rfl,hj,hrj,hf2,hnext⟩
          case measure=>simp[intOf];omega
        · have hx1 : 0<x:=by omega
          have hx2:x≤8:=by omega
          obtain⟨q,rfl⟩:=Int.eq_ofNat_of_zero_le (show 0≤x by omega)
          obtain⟨n,r',rfl,hn0,hn8,hno,hyes⟩:=hP.out.next hx.out hx1
          obtain⟨hget,hjl,hr'⟩:=drop_cons hrj.out
          obtain⟨b2,off2,y,rfl,hcell2,hy⟩:=(hb.below hf.bel).at hjl
          obtain rfl:n=y:=by have:=hy.out;rw[hget]at this;simpa using this
          have hk2:(k:Int)<(l.length:Int):=by omega
          have hj2:(j:Int)<(ns.length:Int):=by omega
          have HN:=hid hn8
          have HR:=hid hr'
          have HG:=hid hget
          clear hn8 hy hxx hget hr'
          cases hroom:roomB n (q:Int)
          · have hnone:=hid (hno hroom)
            clear hno hyes
            go_wp2_with go_in
            go_quiet ((go_at_call 84;exact quietS (fits_any _ _ _ HN.out hx1 hx2)))
            go_wp2
            go_ret2
            exact .inl ⟨by rw[hp.out,hnone.out],rfl,below_drewN hf.bel _⟩
          · have hnext:=hid (hyes hroom)
            clear hno hyes
            go_wp2_with go_in
            go_quiet ((go_at_call 84;exact quietS (fits_any _ _ _ HN.out hx1 hx2)))
            go_wp2
            have hbl:=bytesL_length n q
            have HBL:=hid hbl
            clear hbl
            have hf2:=hf.behind ((by_none_drewN _ (nq+1)))
            have K1:Hid (∀w',Below w.heap.size w w'→w'.cell? ⟨b1,off1+k,none⟩=some (.int .i64 q)):=by
             obtain⟨b,off,y,he,hc,hy⟩:=ha.at hlt
             have e1:=hx.out
             rw[hy.out]at e1
             simp at he e1
             obtain⟨rfl,rfl⟩:=he
             subst e1
             exact fun w' hb=>cell_keep hc hb
            have K2:Hid (∀w',Below w.heap.size w w'→w'.cell? ⟨b2,off2+j,none⟩=some (.int .u64 n)):=by
             obtain⟨b,off,y,he,hc,hy⟩:=hb.at hjl
             have e1:=HG.out
             rw[hy.out]at e1
             simp at he e1
             obtain⟨rfl,rfl⟩:=he
             subst e1
             exact fun w' hb=>cell_keep hc hb
            go_region_held3 (fun w'=>w'.cell? ⟨b1,off1+k,none⟩=some (.int .i64 q)∧w'.cell? ⟨b2,off2+j,none⟩=some (.int .u64 n)) (first|go_keep|exact⟨K1.out _ hf3.bel,K2.out _ hf3.bel⟩|exact⟨K1.out _ (hf3.step hg4).bel,K2.out _ (hf3.step hg4).bel⟩) ((first|(go_at_call 49;refine (num_any _ _ _ (by omega)).mono ?_;rintro e w' ⟨v',rfl,hg⟩;obtain⟨a3,c3,rfl,hl3,_,hI⟩:=own_ints hg.own;have hf3:=hf2.behind (below_by_none hg.bel))|(refine step_app rfl _ _ rfl elemU8 rfl hf3.own rfl rfl hI ?_ ?_ ?_;(rw[HBL.out];omega);(rw[HBL.out];omega);intro v4 w4 hg4)))
            have hf4:=hf3.step hg4
            rw[←List.map_append]at hf4
            clear hf hf2 hf3 hg4 hg hI K1 K2
            go_wp2
            go_roundw
            case rel=>exact⟨k+1,j+1,_,r',by omega,by go_num,by go_num,by omega,HR,hf4,hnext⟩
            case measure=>simp[intOf];omega
      · have hput:=hid (hP.out.done (by omega))
        go_wp2
        go_ret2
        exact .inr ⟨_,_,by rw[hp.out,hput.out],rfl,hf⟩
   · have e0:((countW l:Int) != (ns.length:Int))=true:=by rw[bne_iff_ne];omega
     have hp:=hid (putW_no (ns:=ns) (.inr hcl))
     clear hcl hcw
     go_enter Tryz.func71,Tryz.ntmps71
     go_wp2_with (first|(go_at_call 83;refine (refRight_any _ _ _ _ hl ha).mono ?_;rintro e w' ⟨rfl,rfl⟩)|(go_at_call 82;refine (refCount_any _ _ _ _ hl ha).mono ?_;rintro e w' ⟨rfl,rfl⟩))
     go_ret2
     exact .inl ⟨hp.out,rfl,Below.refl _ _⟩
def getL:List Int→List Int→Except Int (List Int)
 | [],_=>.ok []
 | x::ws,b=>
   if b.length<x.natAbs then .error 1
   else if 0<x then (getL ws (b.drop x.natAbs)).map (numL (b.take x.natAbs) :: ·)
   else if zeros (b.take x.natAbs) then getL ws (b.drop x.natAbs) else .error 2
def getW (l b:List Int):Except Int (List Int):=if rightW l then getL l b else .error 2
structure GetAt (l b:List Int) (k:Nat) (pre r:List Int):Prop where
 get:getL l b=(getL (l.drop k) r).map (pre ++ ·)
 oct:Octets r
 rest:r=b.drop (sizeL (l.take k))
 len:pre.length≤k
def GetPost (s:Except Int (List Int)) (w:World) (e:Ending) (w':World):Prop:=
 (∃c,s = .error c∧e = .returned (.tuple #[.slice none 0 0,.int .i64 c])∧Below w.heap.size w w') ∨
 ∃ns v,s = .ok ns∧e = .returned (.tuple #[v,.int .i64 0])∧Fresh 32 w w' v (ns.map (Value.int .u64))
theorem omap_some {f:List Int→List Int} {e:Option (List Int)} {y:List Int} (h:e.map f=some y):∃x,e=some x∧y=f x:=by
 cases e with
 | none=>simp at h
 | some x=>simp at h;exact⟨x,rfl,h.symm⟩
theorem putL_neg {x:Int} {r ns:List Int} (h:x<0):putL (x::r) ns=(putL r ns).map (List.replicate x.natAbs 0 ++ ·):=by
 rw[putL.eq_def];simp only[h,if_true]
theorem putL_octets {l ns bs:List Int} (h:putL l ns=some bs):Octets bs∧bs.length=sizeL l:=by
 induction l generalizing ns bs with
 | nil=>rw[putL.eq_def]at h;simp at h;subst h;exact⟨fun x hx=>by simp at hx,by simp[sizeL]⟩
 | cons x r ih=>
   have hs:sizeL (x::r)=x.natAbs+sizeL r:=by simp[sizeL]
   by_cases hn:x<0
   · rw[putL_neg hn]at h
     obtain⟨bs',hb,rfl⟩:=omap_some h
     obtain⟨i1,i2⟩:=ih hb
     exact⟨Octets.append (fun y hy=>by rw[List.eq_of_mem_replicate hy];omega) i1,by simp[i2,hs]⟩
   · cases ns with
     | nil=>rw[putL.eq_def]at h;simp[hn]at h
     | cons n ns'=>
       rw[putL.eq_def]at h
       simp only[hn,if_false]at h
       split at h
       · obtain⟨bs',hb,rfl⟩:=omap_some h
         obtain⟨i1,i2⟩:=ih hb
         exact⟨(bytesL_octets _ _).append i1,by rw[List.length_append,bytesL_length,i2,hs];omega⟩
       · simp at h
theorem put_no (l ns:List Int) (h:putW l ns=none) (a b:Option Addr) (c d:Nat) (w:World) (hl:l.length≤9223372036854775807) (hcd:ns.length≤d) (hu:U64s ns) (ha:Ints .i64 w a l) (hb:Ints .u64 w b ns):
 Calls Tryz.prog 42 #[.slice a l.length c,.slice b ns.length d] w fun e w'=>e = .returned (.tuple #[.slice none 0 0,.bool false])∧Below w.heap.size w w':=by
 refine (put_any l ns a b c d w hl hcd hu ha hb).mono ?_
 rintro e w' (⟨_,rfl,hb⟩|⟨bs',v,h',_⟩)
 · exact⟨rfl,hb⟩
 · rw[h]at h';simp at h'
theorem put_yes (l ns bs:List Int) (h:putW l ns=some bs) (a b:Option Addr) (c d:Nat) (w:World) (hl:l.length≤9223372036854775807) (hcd:ns.length≤d) (hu:U64s ns) (ha:Ints .i64 w a l) (hb:Ints .u64 w b ns):
 Calls Tryz.prog 42 #[.slice a l.length c,.slice b ns.length d] w fun e w'=>∃ad cp,e = .returned (.tuple #[.slice ad bs.length cp,.bool true])∧Below w.heap.size w w'∧Ints .u8 w' ad bs∧bs.length≤cp∧cp≤9223372036854775807:=by
 refine (put_any l ns a b c d w hl hcd hu ha hb).mono ?_
 rintro e w' (⟨h',_⟩|⟨bs',v,h',rfl,hf⟩)
 · rw[h]at h';simp at h'
 · rw[h]at h'
   obtain rfl:bs=bs':=by simpa using h'
   obtain⟨ad,cp,rfl,h1,h2,hI⟩:=own_ints hf.own
   exact⟨ad,cp,rfl,hf.bel,hI,h1,by unfold maxLen at h2;omega⟩
end Go.Proofs.YthpdkancighknaaGreat
