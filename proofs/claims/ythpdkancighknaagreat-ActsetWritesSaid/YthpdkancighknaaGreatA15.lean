/- Put together out of several texts. -/
import Derived.Test.YthpdkancighknaaGreatA2
import Derived.Test.YthpdkancighknaaGreatA1
import Derived.Deep.LoopGhost
namespace Go.Proofs.YthpdkancighknaaGreat
open Go.RowKit
set_option linter.unusedVariables false
def cmp3 (x y:Int):Int:=if x<y then -1 else if y<x then 1 else 0
def or3 (x y z:Int):Int:=if x≠0 then x else if y≠0 then y else z
theorem cmp3_cases (x y:Int):(cmp3 x y = -1∧x<y)∨(cmp3 x y=0∧x=y)∨(cmp3 x y=1∧y<x):=by
 unfold cmp3
 by_cases h1:x<y
 · simp[h1]
 · by_cases h2:y<x
   · simp[h1,h2]
   · simp[h1,h2];omega
theorem compareInt_any (x y:Int) (w:World):Calls Tryz.prog 38 #[.int .i64 x,.int .i64 y] w fun e w'=>e = .returned (.int .i64 (cmp3 x y))∧w'=w:=by
 obtain⟨r,hr⟩:∃r,cmp3 x y=r:=⟨_,rfl⟩
 rw[hr]
 rcases cmp3_cases x y with⟨e,h⟩|⟨e,h⟩|⟨e,h⟩
 · obtain rfl:r = -1:=by omega
   clear hr e
   go_enter Tryz.func38,Tryz.ntmps38
   go_wp2
   go_ret
   exact⟨rfl,rfl⟩
 · obtain rfl:r=0:=by omega
   subst h
   clear hr e
   go_enter Tryz.func38,Tryz.ntmps38
   go_wp2
   go_ret
   exact⟨rfl,rfl⟩
 · obtain rfl:r=1:=by omega
   have h':¬x<y:=by omega
   clear hr e
   go_enter Tryz.func38,Tryz.ntmps38
   go_wp2
   go_ret
   exact⟨rfl,rfl⟩
set_option maxRecDepth 100000 in
theorem cmpOr_any (x y z:Int) (b c:Nat) (w:World) (h0:w.cell? ⟨b,0,none⟩=some (.int .i64 x)) (h1:w.cell? ⟨b,1,none⟩=some (.int .i64 y)) (h2:w.cell? ⟨b,2,none⟩=some (.int .i64 z)):Calls Tryz.prog 37 #[.slice (some ⟨b,0,none⟩) 3 c] w fun e w'=>e = .returned (.int .i64 (or3 x y z))∧w'=w:=by
 obtain⟨r,hr⟩:∃r,or3 x y z=r:=⟨_,rfl⟩
 rw[hr]
 have HR:=hid hr
 clear hr
 go_enter Tryz.func37,Tryz.ntmps37
 go_wp2_with fail
 go_loopg [8] 3 (fun kx s8 wr=>wr=w ∧ ∃(i:Nat),s8 = .int .i64 i∧i≤3∧3-i≤kx∧Hid ((0<i→x=0)∧(1<i→y=0)∧(2<i→z=0)))
 case atStart=>exact⟨rfl,0,rfl,by omega,by omega,by simp[Hid]⟩
 case round=>
  obtain⟨rfl,i,rfl,hi,hkx,hz⟩:=hrel
  rcases (show i=0∨i=1∨i=2∨i=3 by omega) with rfl|rfl|rfl|rfl
  · by_cases hv:x=0
    · have hb:(x != 0)=false:=by simpa using hv
      have HV:=hid hv
      clear hv
      go_wp2
      go_roundg 2
      case measure=>omega
      case rel=>exact⟨rfl,1,by first|rfl|go_num,by omega,by omega,by simp[Hid,HV.out]⟩
    · have hb:(x != 0)=true:=by simpa using hv
      go_wp2
      go_ret
      refine⟨?_,rfl⟩
      rw[←HR.out];simp[or3,hv]
  · by_cases hv:y=0
    · have hb:(y != 0)=false:=by simpa using hv
      have HV:=hid hv
      clear hv
      go_wp2
      go_roundg 1
      case measure=>omega
      case rel=>exact⟨rfl,2,by first|rfl|go_num,by omega,by omega,⟨fun _=>hz.out.1 (by omega),fun _=>HV.out,by omega⟩⟩
    · have hb:(y != 0)=true:=by simpa using hv
      go_wp2
      go_ret
      refine⟨?_,rfl⟩
      rw[←HR.out];simp[or3,hz.out.1,hv]
  · by_cases hv:z=0
    · have hb:(z != 0)=false:=by simpa using hv
      have HV:=hid hv
      clear hv
      go_wp2
      go_roundg 0
      case measure=>omega
      case rel=>exact⟨rfl,3,by first|rfl|go_num,by omega,by omega,⟨fun _=>hz.out.1 (by omega),fun _=>hz.out.2.1 (by omega),fun _=>HV.out⟩⟩
    · have hb:(z != 0)=true:=by simpa using hv
      go_wp2
      go_ret
      refine⟨?_,rfl⟩
      rw[←HR.out];simp[or3,hz.out.1,hz.out.2.1]
  · go_wp2
    go_ret
    refine⟨?_,rfl⟩
    rw[←HR.out];simp[or3,hz.out.1,hz.out.2.1,hz.out.2.2]
end Go.Proofs.YthpdkancighknaaGreat
