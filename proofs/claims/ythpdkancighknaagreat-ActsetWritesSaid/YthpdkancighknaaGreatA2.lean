/- Put together out of several texts. -/
import Derived.Test.YthpdkancighknaaGreatA1
import Derived.Great.Walk
import Derived.Below
import Derived.Deep.RegionHeld3
import Derived.Deep.RegionWith
import Derived.Deep.DeepCutAuto
namespace Go.Proofs.YthpdkancighknaaGreat
open Go.RowKit
def Its (P:Program) (Q:Exit→Act→World→Prop) (l:List Item) (a:Act) (w:World):Prop:=
 ∀(b:Frame) (k:List Item) (cs:List Frame),∃e a' w',Q e a' w'∧Arrives P (lone (b.at a (l++k)) cs w) b k cs e a' w'
def cmpV:BinOp→Int→Int→Option Value
 | .eql,x,y=>some (.bool (x==y))
 | .neq,x,y=>some (.bool (x != y))
 | .lss,x,y=>some (.bool (decide (x<y)))
 | .leq,x,y=>some (.bool (decide (x≤y)))
 | .gtr,x,y=>some (.bool (decide (x>y)))
 | .geq,x,y=>some (.bool (decide (x≥y)))
 | _,_,_=>none
def laidOn (w:World) (os:List Obj):World:=os.foldr (fun o w=>w.alloc o) w
theorem laidOn_size (w:World) (os:List Obj):(laidOn w os).heap.size=w.heap.size+os.length:=by
 induction os with
 | nil=>rfl
 | cons o os ih=>
   show ((laidOn w os).alloc o).heap.size=_
   rw[World.size_alloc,ih,List.length_cons]
   omega
theorem laidOn_below (w:World) (os:List Obj):Below w.heap.size w (laidOn w os):=by
 induction os with
 | nil=>exact Below.refl _ _
 | cons o os ih=>exact ih.alloc (by rw[laidOn_size];omega) o
def elemOf (P:Program) (t:TypeId):Option TypeId:=
 match P.underlying t with
 | some (.slice e)=>some e
 | _=>none
def opV (P:Program) (s:Nat) (a:Act) (os:List Obj) (o:Oper):Option (Value × List Obj):=
 match o.op with
 | .move x=>some (a.eval x,os)
 | .assign x=>some (a.eval x,os)
 | .pick c x y=>match a.eval c with
   | .bool b=>some (if b then a.eval x else a.eval y,os)
   | _=>none
 | .binOp op _ x y _=>match a.eval x,a.eval y with
   | .int k m,.int k' n=>if k=k' then (cmpV op m n).map (fun v=>(v,os)) else none
   | _,_=>none
 | .build t parts=>(P.built t (parts.map fun (i,x)=>(i,a.eval x)).toList).map (fun cs=>(.agg cs,os))
 | .buildSlice t len parts=>match elemOf P t with
   | some e=>(P.builtSlice e len (parts.map fun (i,x)=>(i,a.eval x)).toList).map (fun cs=>(.slice (some ⟨s+os.length,0,none⟩) len len,.cells cs e::os))
   | none=>none
 | _=>none
theorem opV_sound {P:Program} {w:World} {a:Act} {os os':List Obj} {o:Oper} {v:Value} (h:opV P w.heap.size a os o=some (v,os')):
 (execOp a.eval o).run P (laidOn w os) = .ok (.value v) (laidOn w os'):=by
 unfold opV at h
 split at h
 · rename_i x ho
   simp at h
   obtain⟨rfl,rfl⟩:=h
   simp[execOp,ho]
 · rename_i x ho
   simp at h
   obtain⟨rfl,rfl⟩:=h
   simp[execOp,ho]
 · rename_i c x y ho
   split at h
   · rename_i b hb
     simp at h
     obtain⟨rfl,rfl⟩:=h
     simp[execOp,ho,hb,asBool]
   · simp at h
 · rename_i op t x y t' ho
   split at h
   · rename_i k m k' n hx hy
     split at h
     · rename_i hk
       subst hk
       cases op<;>simp[cmpV]at h<;>obtain⟨rfl,rfl⟩:=h<;>simp[execOp,ho,hx,hy,eqGuard,binOp,Op.intCmp]
     · simp at h
   · simp at h
 · rename_i t parts ho
   simp only[Option.map_eq_some_iff]at h
   obtain⟨cs,hc,he⟩:=h
   simp at he
   obtain⟨rfl,rfl⟩:=he
   simp only[execOp,ho,Sem.run_bind,run_build _ t _ _ hc,Result.andThen_ok]
   rfl
 · rename_i t len parts ho
   split at h
   · rename_i e he
     simp only[Option.map_eq_some_iff]at h
     obtain⟨cs,hc,hv⟩:=h
     simp at hv
     obtain⟨rfl,rfl⟩:=hv
     have hu:P.underlying t=some (.slice e):=by
      unfold elemOf at he
      split at he
      · rename_i e' h';simp at he;rw[h',he]
      · simp at he
     unfold Program.builtSlice at hc
     cases hie:P.info? e with
     | none=>simp[hie]at hc
     | some ie=>
       simp only[hie]at hc
       cases hz:ie.zero with
       | none=>simp[hz]at hc
       | some z=>
         simp only[hz]at hc
         by_cases hb:len*ie.size>2^24∨len*ie.size=0
         · simp[hb]at hc
         · rw[if_neg hb]at hc
           simp only[execOp,ho,Sem.run_bind,run_buildSlice (laidOn w os) t e len _ cs ie z hu hie hz (fun h'=>hb (Or.inl h')) (fun h'=>hb (Or.inr h')) hc,Result.andThen_ok,laidOn_size]
           rfl
   · simp at h
 · simp at h
def opsV (P:Program) (s:Nat) (ops:Array Oper):List Oper→Act→List Obj→Option (Act × List Obj)
 | [],a,os=>some (a,os)
 | o :: r,a,os=>
   match Region.wanted o (yielded ops a.tmps) with
   | true=>match opV P s a os o with
     | some (v,os')=>opsV P s ops r (a.put o.dst v) os'
     | none=>none
   | false=>opsV P s ops r (a.put o.dst undef) os
theorem opsV_sound {P:Program} {w:World} {ops:Array Oper} {Q:Exit→Act→World→Prop}:∀(l:List Oper) (a:Act) (os:List Obj) {a':Act} {os':List Obj},
 opsV P w.heap.size ops l a os=some (a',os')→Q .normal a' (laidOn w os')→wpList P ops Q l a (laidOn w os):=by
 intro l
 induction l with
 | nil=>
   intro a os a' os' h hQ
   simp[opsV]at h
   obtain⟨rfl,rfl⟩:=h
   exact hQ
 | cons o r ih=>
   intro a os a' os' h hQ
   unfold opsV at h
   split at h
   · rename_i hw
     split at h
     · rename_i v os1 hv
       unfold wpList
       rw[if_pos hw]
       left
       unfold Oper.wp
       rw[opV_sound hv,Oper.upon_value]
       exact ih _ _ h hQ
     · simp at h
   · rename_i hw
     unfold wpList
     rw[hw]
     exact ih _ _ h hQ
section
variable {P:Program} {Q:Exit→Act→World→Prop} {a:Act} {w:World} {l:List Item}
theorem exitTo_append {id:Nat} {l':List Item} (k:List Item) (h:exitTo id l=some l'):exitTo id (l++k)=some (l'++k):=by
 induction l with
 | nil=>simp[exitTo]at h
 | cons x l ih=>
   cases x<;>simp only[exitTo,List.cons_append]at h ⊢
   all_goals first
    | exact ih h
    | (split at h
       · rename_i hh;rw[if_pos hh];simp at h;rw[h]
       · rename_i hh;rw[if_neg hh];exact ih h)
theorem its_step {l':List Item} (hs:∀(b:Frame) (k:List Item) (cs:List Frame),step P (lone (b.at a (l++k)) cs w) = .next (lone (b.at a (l'++k)) cs w)) (h:Its P Q l' a w):Its P Q l a w:=
 fun b k cs=>let ⟨e,a',w',q,r⟩:=h b k cs; ⟨e,a',w',q,.of_steps (.one (hs b k cs)) r⟩
theorem its_ret (h:Q .ret a w):Its P Q (.code .ret::l) a w:=fun _ _ _=>⟨.ret,a,w,h,_,.one step_ret⟩
theorem its_seq {x y:Code} (h:Its P Q (.code x :: .code y::l) a w):Its P Q (.code (.seq x y)::l) a w:=its_step (fun _ _ _=>step_seq) h
theorem its_block {id:Nat} {c:Code} (h:Its P Q (.code c :: .inBlock id::l) a w):Its P Q (.code (.block id c)::l) a w:=its_step (fun _ _ _=>step_block) h
theorem its_out {id:Nat} (h:Its P Q l a w):Its P Q (.inBlock id::l) a w:=its_step (fun _ _ _=>step_inBlock) h
theorem its_skip (h:Its P Q l a w):Its P Q (.code .skip::l) a w:=its_step (fun _ _ _=>step_skip) h
theorem its_exit {id:Nat} {l':List Item} (hl:exitTo id l=some l') (h:Its P Q l' a w):Its P Q (.code (.exit id)::l) a w:=its_step (fun _ k _=>step_exit (exitTo_append k hl)) h
theorem its_cond {c:Operand} {x y:Code} {t:Bool} (hc:a.eval c = .bool t) (h:Its P Q (.code (if t then x else y)::l) a w):Its P Q (.code (.cond c x y)::l) a w:=its_step (fun _ _ _=>step_cond hc) h
theorem its_true {c:Operand} {x y:Code} (hc:a.eval c = .bool true) (h:Its P Q (.code x::l) a w):Its P Q (.code (.cond c x y)::l) a w:=its_cond hc h
theorem its_false {c:Operand} {x y:Code} (hc:a.eval c = .bool false) (h:Its P Q (.code y::l) a w):Its P Q (.code (.cond c x y)::l) a w:=its_cond hc h
theorem its_code {c:Code} (h:c.wp P (fun e a' w'=>e = .normal∧Its P Q l a' w') a w):Its P Q (.code c::l) a w:=by
 intro b k cs
 obtain⟨e,a1,w1,⟨rfl,hq⟩,harr⟩:=h b (l++k) cs
 obtain⟨e2,a2,w2,hq2,harr2⟩:=hq b k cs
 exact⟨e2,a2,w2,hq2,.of_steps harr harr2⟩
theorem its_wp {c:Code} (h:Its P Q [.code c] a w):c.wp P Q a w:=h
end
def itsV (P:Program) (s:Nat):Nat→List Item→Act→List Obj→Option (Act × List Obj)
 | 0,_,_,_=>none
 | n + 1,.code c::l,a,os=>
   match c with
   | .seq x y=>itsV P s n (.code x :: .code y::l) a os
   | .block id c=>itsV P s n (.code c :: .inBlock id::l) a os
   | .skip=>itsV P s n l a os
   | .exit id=>match exitTo id l with
     | some l'=>itsV P s n l' a os
     | none=>none
   | .ret=>some (a,os)
   | .cond c x y=>match a.eval c with
     | .bool true=>itsV P s n (.code x::l) a os
     | .bool false=>itsV P s n (.code y::l) a os
     | _=>none
   | .region _ ops false=>match opsV P s ops ops.toList a os with
     | some (a',os')=>itsV P s n l a' os'
     | none=>none
   | _=>none
 | n+1,.inBlock _::l,a,os=>itsV P s n l a os
 | _+1,_,_,_=>none
theorem itsV_sound {P:Program} {Q:Exit→Act→World→Prop} {w:World}:∀(n:Nat) (l:List Item) (a:Act) (os:List Obj) {a':Act} {os':List Obj},
 itsV P w.heap.size n l a os=some (a',os')→Q .ret a' (laidOn w os')→Its P Q l a (laidOn w os):=by
 intro n
 induction n with
 | zero=>intro l a os a' os' h;simp[itsV]at h
 | succ n ih =>
   intro l a os a' os' h hQ
   cases l with
   | nil=>simp[itsV]at h
   | cons i l=>
     cases i with
     | inBlock id=>exact its_out (ih _ _ _ (by simpa only[itsV]using h) hQ)
     | code c=>
       cases c with
       | seq x y=>exact its_seq (ih _ _ _ (by simpa only[itsV]using h) hQ)
       | block id c=>exact its_block (ih _ _ _ (by simpa only[itsV]using h) hQ)
       | skip=>exact its_skip (ih _ _ _ (by simpa only[itsV]using h) hQ)
       | exit id=>
         simp only[itsV]at h
         split at h
         · rename_i hl;exact its_exit hl (ih _ _ _ h hQ)
         · simp at h
       | ret=>
         simp[itsV]at h
         obtain⟨rfl,rfl⟩:=h
         exact its_ret hQ
       | cond c x y=>
         simp only[itsV]at h
         split at h
         · rename_i hc;exact its_cond hc (ih _ _ _ h hQ)
         · rename_i hc;exact its_cond hc (ih _ _ _ h hQ)
         · simp at h
       | region id ops d=>
         cases d with
         | true=>simp[itsV]at h
         | false=>
           simp only[itsV]at h
           split at h
           · rename_i ho
             exact its_code (wp_region_list (opsV_sound _ _ _ ho ⟨rfl,ih _ _ _ h hQ⟩))
           · simp at h
       | _=>simp[itsV]at h
     | _=>simp[itsV]at h
def callV (P:Program) (s:Nat) (f:FuncId) (args:Array Value):Option (Value × List Obj):=
 match P.funcs[f]? with
 | some fn=>match fn.body with
   | some c=>match itsV P s 4000 [.code c] { tmps:=args++Array.replicate (fn.ntmps-args.size) undef,defers:=[] } [] with
     | some (a,os)=>match a.defers,fn.results.toList with
       | [],[.tmp t]=>some (a.tmps.getD t undef,os)
       | [],[.tmp t,.tmp u]=>some (.tuple #[a.tmps.getD t undef,a.tmps.getD u undef],os)
       | _,_=>none
     | none=>none
   | none=>none
 | none=>none
theorem callV_sound {P:Program} {f:FuncId} {args:Array Value} {w:World} {v:Value} {os:List Obj} (h:callV P w.heap.size f args=some (v,os)):
 Calls P f args w fun e w'=>e = .returned v∧w'=laidOn w os:=by
 unfold callV at h
 split at h
 · rename_i fn hf
   split at h
   · rename_i c hb
     split at h
     · rename_i a os' hi
       refine calls_of_wp hf hb (its_wp ?_)
       split at h
       · rename_i t hd hr
         simp only[Option.some.injEq,Prod.mk.injEq]at h
         obtain⟨rfl,rfl⟩:=h
         refine itsV_sound (w:=w) 4000 _ _ [] hi ?_
         exact bodyPost_ret (results_tmp (t:=t) (by rw[←Array.toList_inj,hr]) _ _ _) hd ⟨rfl,rfl⟩
       · rename_i t u hd hr
         simp only[Option.some.injEq,Prod.mk.injEq]at h
         obtain⟨rfl,rfl⟩:=h
         refine itsV_sound (w:=w) 4000 _ _ [] hi ?_
         exact bodyPost_ret (results_tmp2 (t:=t) (u:=u) (by rw[←Array.toList_inj,hr]) _ _ _) hd ⟨rfl,rfl⟩
       · simp at h
     · simp at h
   · simp at h
 · simp at h
end Go.Proofs.YthpdkancighknaaGreat
namespace Go.Proofs.YthpdkancighknaaGreat
open Go.RowKit
structure Fld where
 nm:ByteArray
 b:Int
 z:Nat
 m:Bool
 d:Int
 v:List Int
def fldT:List Fld:=[
 ⟨⟨#[105,110,95,112,111,114,116]⟩,32,4,false,-1,[]⟩,
 ⟨⟨#[105,110,95,112,104,121,95,112,111,114,116]⟩,32,4,false,0,[]⟩,
 ⟨⟨#[109,101,116,97,100,97,116,97]⟩,64,8,true,-1,[]⟩,
 ⟨⟨#[101,116,104,95,100,115,116]⟩,48,6,true,-1,[]⟩,
 ⟨⟨#[101,116,104,95,115,114,99]⟩,48,6,true,-1,[]⟩,
 ⟨⟨#[101,116,104,95,116,121,112,101]⟩,16,2,false,-1,[]⟩,
 ⟨⟨#[118,108,97,110,95,118,105,100]⟩,13,2,true,-1,[]⟩,
 ⟨⟨#[118,108,97,110,95,112,99,112]⟩,3,1,false,6,[]⟩,
 ⟨⟨#[105,112,95,100,115,99,112]⟩,6,1,false,5,[2048,34525]⟩,
 ⟨⟨#[105,112,95,101,99,110]⟩,2,1,false,5,[2048,34525]⟩,
 ⟨⟨#[105,112,95,112,114,111,116,111]⟩,8,1,false,5,[2048,34525]⟩,
 ⟨⟨#[105,112,118,52,95,115,114,99]⟩,32,4,true,5,[2048]⟩,
 ⟨⟨#[105,112,118,52,95,100,115,116]⟩,32,4,true,5,[2048]⟩,
 ⟨⟨#[116,99,112,95,115,114,99]⟩,16,2,false,10,[6]⟩,
 ⟨⟨#[116,99,112,95,100,115,116]⟩,16,2,false,10,[6]⟩,
 ⟨⟨#[117,100,112,95,115,114,99]⟩,16,2,false,10,[17]⟩,
 ⟨⟨#[117,100,112,95,100,115,116]⟩,16,2,false,10,[17]⟩,
 ⟨⟨#[115,99,116,112,95,115,114,99]⟩,16,2,false,10,[132]⟩,
 ⟨⟨#[115,99,116,112,95,100,115,116]⟩,16,2,false,10,[132]⟩,
 ⟨⟨#[105,99,109,112,118,52,95,116,121,112,101]⟩,8,1,false,10,[1]⟩,
 ⟨⟨#[105,99,109,112,118,52,95,99,111,100,101]⟩,8,1,false,10,[1]⟩,
 ⟨⟨#[97,114,112,95,111,112]⟩,16,2,false,5,[2054]⟩,
 ⟨⟨#[97,114,112,95,115,112,97]⟩,32,4,true,5,[2054]⟩,
 ⟨⟨#[97,114,112,95,116,112,97]⟩,32,4,true,5,[2054]⟩,
 ⟨⟨#[97,114,112,95,115,104,97]⟩,48,6,true,5,[2054]⟩,
 ⟨⟨#[97,114,112,95,116,104,97]⟩,48,6,true,5,[2054]⟩,
 ⟨⟨#[105,112,118,54,95,115,114,99]⟩,128,16,true,5,[34525]⟩,
 ⟨⟨#[105,112,118,54,95,100,115,116]⟩,128,16,true,5,[34525]⟩,
 ⟨⟨#[105,112,118,54,95,102,108,97,98,101,108]⟩,20,4,true,5,[34525]⟩,
 ⟨⟨#[105,99,109,112,118,54,95,116,121,112,101]⟩,8,1,false,10,[58]⟩,
 ⟨⟨#[105,99,109,112,118,54,95,99,111,100,101]⟩,8,1,false,10,[58]⟩,
 ⟨⟨#[105,112,118,54,95,110,100,95,116,97,114,103,101,116]⟩,128,16,false,29,[135,136]⟩,
 ⟨⟨#[105,112,118,54,95,110,100,95,115,108,108]⟩,48,6,false,29,[135]⟩,
 ⟨⟨#[105,112,118,54,95,110,100,95,116,108,108]⟩,48,6,false,29,[136]⟩,
 ⟨⟨#[109,112,108,115,95,108,97,98,101,108]⟩,20,4,false,5,[34887,34888]⟩,
 ⟨⟨#[109,112,108,115,95,116,99]⟩,3,1,false,5,[34887,34888]⟩,
 ⟨⟨#[109,112,108,115,95,98,111,115]⟩,1,1,false,5,[34887,34888]⟩,
 ⟨⟨#[112,98,98,95,105,115,105,100]⟩,24,3,true,5,[35047]⟩,
 ⟨⟨#[116,117,110,110,101,108,95,105,100]⟩,64,8,true,-1,[]⟩,
 ⟨⟨#[105,112,118,54,95,101,120,116,104,100,114]⟩,9,2,true,5,[34525]⟩]
def fldNone:Fld:=⟨⟨#[]⟩,0,0,false,0,[]⟩
def fld (n:Int):Fld:=if 0≤n∧n<40 then fldT.getD n.toNat fldNone else fldNone
theorem fld_out {n:Int} (h:¬(0≤n∧n<40)):fld n=fldNone:=if_neg h
theorem forty {n:Int} (h : 0≤n∧n<40):n=0∨n=1∨n=2∨n=3∨n=4∨n=5∨n=6∨n=7∨n=8∨n=9∨n=10∨n=11∨n=12∨n=13∨n=14∨n=15∨n=16∨n=17∨n=18∨n=19∨n=20∨n=21∨n=22∨n=23∨n=24∨n=25∨n=26∨n=27∨n=28∨n=29∨n=30∨n=31∨n=32∨n=33∨n=34∨n=35∨n=36∨n=37∨n=38∨n=39:=by omega
theorem isField_any (n:Int) (w:World):
 Calls Tryz.prog 86 #[.int .i64 n] w fun e w'=>e = .returned (.bool (decide (0≤n∧n<40)))∧w=w':=by
 by_cases h0 : 0≤n
 · have e:decide (0≤n∧n<40)=decide (n<40):=by simp[h0]
   rw[e]
   clear e
   go_enter Tryz.func86,Tryz.ntmps86
   go_wp2
   go_ret
   exact⟨rfl,rfl⟩
 · have e:decide (0≤n∧n<40)=false:=by simp[h0]
   rw[e]
   clear e
   go_enter Tryz.func86,Tryz.ntmps86
   go_wp2
   go_ret
   exact⟨rfl,rfl⟩
theorem width_in (n:Int) (h : 0≤n∧n<40) (w:World):
 Calls Tryz.prog 100 #[.int .i64 n] w fun e w'=>e = .returned (.tuple #[.int .i64 (fld n).b,.bool (fld n).m])∧w'=w:=by
 refine callV_sound (os:=[]) ?_
 rcases forty h with rfl|rfl|rfl|rfl|rfl|rfl|rfl|rfl|rfl|rfl|rfl|rfl|rfl|rfl|rfl|rfl|rfl|rfl|rfl|rfl|rfl|rfl|rfl|rfl|rfl|rfl|rfl|rfl|rfl|rfl|rfl|rfl|rfl|rfl|rfl|rfl|rfl|rfl|rfl|rfl
 all_goals kernel_rfl
def fldSizeL (b:Int):Int:=if b=20 then 4 else (b+7)/8
theorem fldSize_any (b:Int) (h0 : 0≤b) (h1:b≤1000) (w:World):
 Calls Tryz.prog 102 #[.int .i64 b] w fun e w'=>e = .returned (.int .i64 (fldSizeL b))∧w'=w:=by
 unfold fldSizeL
 by_cases h:b=20
 · subst h
   go_enter Tryz.func102,Tryz.ntmps102
   go_wp2
   go_ret
   exact⟨rfl,rfl⟩
 · rw[if_neg h]
   have c:(b==20)=false:=by simp[h]
   clear h
   go_enter Tryz.func102,Tryz.ntmps102
   go_wp2
   go_ret
   exact⟨rfl,rfl⟩
theorem size_fld (n:Int) (h : 0≤n∧n<40) : 0≤(fld n).b∧(fld n).b≤1000∧fldSizeL (fld n).b=(fld n).z:=by
 rcases forty h with rfl|rfl|rfl|rfl|rfl|rfl|rfl|rfl|rfl|rfl|rfl|rfl|rfl|rfl|rfl|rfl|rfl|rfl|rfl|rfl|rfl|rfl|rfl|rfl|rfl|rfl|rfl|rfl|rfl|rfl|rfl|rfl|rfl|rfl|rfl|rfl|rfl|rfl|rfl|rfl<;>decide
def U64s7 (w:World) (v:Value) (l:List Int):Prop:=∃a c,v = .slice a l.length c∧Ints .u64 w a l
def New7 (w:World) (v:Value):Prop:=∀g,v.ownBlock=some g→w.heap.size≤g
theorem asked_lit {n d:Int} {l:List Int} {w:World} (h:callV Tryz.prog w.heap.size 101 #[.int .i64 n]=some (.tuple #[.int .i64 d,.slice (some ⟨w.heap.size,0,none⟩) l.length l.length],[.cells (l.map (Value.int .u64)).toArray 32])):
 Calls Tryz.prog 101 #[.int .i64 n] w fun e w'=>∃v,e = .returned (.tuple #[.int .i64 d,v])∧U64s7 w' v l∧New7 w v∧Below w.heap.size w w':=
 (callV_sound h).mono fun _ _ ⟨he,hw⟩=>⟨_,he,⟨_,_,rfl,by rw[hw];exact ints_lit .u64 w l 32⟩,fun g hg=>by simp[Value.ownBlock]at hg;omega,by rw[hw];exact laidOn_below _ _⟩
theorem asked_none {n d:Int} {w:World} (h:callV Tryz.prog w.heap.size 101 #[.int .i64 n]=some (.tuple #[.int .i64 d,.slice none 0 0],[])):
 Calls Tryz.prog 101 #[.int .i64 n] w fun e w'=>∃v,e = .returned (.tuple #[.int .i64 d,v])∧U64s7 w' v []∧New7 w v∧Below w.heap.size w w':=
 (callV_sound h).mono fun _ _ ⟨he,hw⟩=>⟨_,he,⟨_,_,rfl,Ints.nil _ _ _⟩,fun g hg=>by simp[Value.ownBlock]at hg,by rw[hw];exact laidOn_below _ _⟩
theorem elemFld:Elem Tryz.prog 63 32 (.int .u64 0) 8:=⟨Tryz.underlying63,by kernel_rfl,rfl⟩
theorem app_one {e:TypeId} {w w1:World} {o:Obj} {a1:Option Addr} {c1:Nat} {l:List Int} (hg:Grew e (w.alloc o) w1 (.slice none 0 0) (.slice a1 l.length c1) (l.map (Value.int .u64))):
 Below w.heap.size w w1 ∧ ∀g,(Value.slice a1 l.length c1).ownBlock=some g→w.heap.size≤g:=by
 have h0:∀g,(Value.slice none 0 0).ownBlock=some g→w.heap.size≤g:=by intro g hg;simp[Value.ownBlock]at hg
 exact⟨(below_alloc w o).trans (hg.below (by simp) h0),hg.base (by simp) h0⟩
theorem app_two {e:TypeId} {w w1 w2:World} {o o2:Obj} {a1 a2:Option Addr} {c1 c2:Nat} {l m:List Int} (hg:Grew e (w.alloc o) w1 (.slice none 0 0) (.slice a1 l.length c1) (l.map (Value.int .u64)))
 (hg2:Grew e (w1.alloc o2) w2 (.slice a1 l.length c1) (.slice a2 m.length c2) (m.map (Value.int .u64))):Below w.heap.size w w2 ∧ ∀g,(Value.slice a2 m.length c2).ownBlock=some g→w.heap.size≤g:=by
 obtain⟨h1,h2⟩:=app_one hg
 have h3:=h1.size
 exact⟨(h1.alloc h3 o2).trans (hg2.below (by simp;omega) h2),hg2.base (by simp;omega) h2⟩
set_option maxRecDepth 100000 in
set_option maxHeartbeats 2000000 in
theorem asked_26 (w:World):
 Calls Tryz.prog 101 #[.int .i64 26] w fun e w'=>∃v,e = .returned (.tuple #[.int .i64 5,v])∧U64s7 w' v [34525]∧New7 w v∧Below w.heap.size w w':=by
 go_enter Tryz.func101,Tryz.ntmps101
 refine its_wp ?_
 repeat (first
  | refine its_seq ?_|refine its_block ?_|refine its_out ?_|refine its_skip ?_|refine its_exit rfl ?_|refine its_true rfl ?_|refine its_false rfl ?_
  | (refine its_code ?_;(repeat (first|go_skip|go_guarded|(at_builtin;refine wp_app_ints (v:=.slice none 0 0) rfl _ _ rfl elemFld rfl (own_nilI _ _ .u64) rfl (l:=[34525]) rfl (ints_lit .u64 _ [34525] 32) (ys:=[34525]) rfl (by decide) (by decide) ?_;intro a1 c1 w1 _ _ hI1 hg1)|go_step|go_upon|go_in));refine⟨rfl,?_⟩))
 refine its_ret ?_
 go_ret2
 exact⟨_,rfl,⟨_,_,rfl,hI1⟩,(app_one hg1).2,(app_one hg1).1⟩
set_option maxRecDepth 100000 in
set_option maxHeartbeats 2000000 in
theorem asked_27 (w:World):
 Calls Tryz.prog 101 #[.int .i64 27] w fun e w'=>∃v,e = .returned (.tuple #[.int .i64 5,v])∧U64s7 w' v [34525]∧New7 w v∧Below w.heap.size w w':=by
 go_enter Tryz.func101,Tryz.ntmps101
 refine its_wp ?_
 repeat (first
  | refine its_seq ?_|refine its_block ?_|refine its_out ?_|refine its_skip ?_|refine its_exit rfl ?_|refine its_true rfl ?_|refine its_false rfl ?_
  | (refine its_code ?_;(repeat (first|go_skip|go_guarded|(at_builtin;refine wp_app_ints (v:=.slice none 0 0) rfl _ _ rfl elemFld rfl (own_nilI _ _ .u64) rfl (l:=[34525]) rfl (ints_lit .u64 _ [34525] 32) (ys:=[34525]) rfl (by decide) (by decide) ?_;intro a1 c1 w1 _ _ hI1 hg1)|go_step|go_upon|go_in));refine⟨rfl,?_⟩))
 refine its_ret ?_
 go_ret2
 exact⟨_,rfl,⟨_,_,rfl,hI1⟩,(app_one hg1).2,(app_one hg1).1⟩
set_option maxRecDepth 100000 in
set_option maxHeartbeats 2000000 in
theorem asked_28 (w:World):
 Calls Tryz.prog 101 #[.int .i64 28] w fun e w'=>∃v,e = .returned (.tuple #[.int .i64 5,v])∧U64s7 w' v [34525]∧New7 w v∧Below w.heap.size w w':=by
 go_enter Tryz.func101,Tryz.ntmps101
 refine its_wp ?_
 repeat (first
  | refine its_seq ?_|refine its_block ?_|refine its_out ?_|refine its_skip ?_|refine its_exit rfl ?_|refine its_true rfl ?_|refine its_false rfl ?_
  | (refine its_code ?_;(repeat (first|go_skip|go_guarded|(at_builtin;refine wp_app_ints (v:=.slice none 0 0) rfl _ _ rfl elemFld rfl (own_nilI _ _ .u64) rfl (l:=[34525]) rfl (ints_lit .u64 _ [34525] 32) (ys:=[34525]) rfl (by decide) (by decide) ?_;intro a1 c1 w1 _ _ hI1 hg1)|go_step|go_upon|go_in));refine⟨rfl,?_⟩))
 refine its_ret ?_
 go_ret2
 exact⟨_,rfl,⟨_,_,rfl,hI1⟩,(app_one hg1).2,(app_one hg1).1⟩
set_option maxRecDepth 100000 in
set_option maxHeartbeats 2000000 in
theorem asked_39 (w:World):
 Calls Tryz.prog 101 #[.int .i64 39] w fun e w'=>∃v,e = .returned (.tuple #[.int .i64 5,v])∧U64s7 w' v [34525]∧New7 w v∧Below w.heap.size w w':=by
 go_enter Tryz.func101,Tryz.ntmps101
 refine its_wp ?_
 repeat (first
  | refine its_seq ?_|refine its_block ?_|refine its_out ?_|refine its_skip ?_|refine its_exit rfl ?_|refine its_true rfl ?_|refine its_false rfl ?_
  | (refine its_code ?_;(repeat (first|go_skip|go_guarded|(at_builtin;refine wp_app_ints (v:=.slice none 0 0) rfl _ _ rfl elemFld rfl (own_nilI _ _ .u64) rfl (l:=[34525]) rfl (ints_lit .u64 _ [34525] 32) (ys:=[34525]) rfl (by decide) (by decide) ?_;intro a1 c1 w1 _ _ hI1 hg1)|go_step|go_upon|go_in));refine⟨rfl,?_⟩))
 refine its_ret ?_
 go_ret2
 exact⟨_,rfl,⟨_,_,rfl,hI1⟩,(app_one hg1).2,(app_one hg1).1⟩
set_option maxRecDepth 100000 in
set_option maxHeartbeats 2000000 in
theorem asked_8 (w:World):
 Calls Tryz.prog 101 #[.int .i64 8] w fun e w'=>∃v,e = .returned (.tuple #[.int .i64 5,v])∧U64s7 w' v [2048,34525]∧New7 w v∧Below w.heap.size w w':=by
 go_enter Tryz.func101,Tryz.ntmps101
 refine its_wp ?_
 repeat (first
  | refine its_seq ?_|refine its_block ?_|refine its_out ?_|refine its_skip ?_|refine its_exit rfl ?_|refine its_true rfl ?_|refine its_false rfl ?_
  | (refine its_code ?_;(repeat (first|go_skip|go_guarded|(at_builtin;refine wp_app_ints (v:=.slice none 0 0) rfl _ _ rfl elemFld rfl (own_nilI _ _ .u64) rfl (l:=[2048]) rfl (ints_lit .u64 _ [2048] 32) (ys:=[2048]) rfl (by decide) (by decide) ?_;intro a1 c1 w1 _ _ hI1 hg1)|go_step|go_upon|go_in));refine⟨rfl,?_⟩))
 refine its_code ?_
 repeat (first|go_skip|go_guarded|(at_builtin;refine wp_app_ints rfl _ _ rfl elemFld rfl (hg1.behind (by_none_alloc _ _)).own rfl (l:=[34525]) rfl (ints_lit .u64 _ [34525] 32) (ys:=[2048,34525]) rfl (by decide) (by decide) ?_;intro a2 c2 w2 _ _ hI2 hg2)|go_step|go_upon|go_in)
 refine⟨rfl,?_⟩
 refine its_ret ?_
 go_ret2
 exact⟨_,rfl,⟨_,_,rfl,hI2⟩,(app_two hg1 hg2).2,(app_two hg1 hg2).1⟩
set_option maxRecDepth 100000 in
set_option maxHeartbeats 2000000 in
theorem asked_9 (w:World):
 Calls Tryz.prog 101 #[.int .i64 9] w fun e w'=>∃v,e = .returned (.tuple #[.int .i64 5,v])∧U64s7 w' v [2048,34525]∧New7 w v∧Below w.heap.size w w':=by
 go_enter Tryz.func101,Tryz.ntmps101
 refine its_wp ?_
 repeat (first
  | refine its_seq ?_|refine its_block ?_|refine its_out ?_|refine its_skip ?_|refine its_exit rfl ?_|refine its_true rfl ?_|refine its_false rfl ?_
  | (refine its_code ?_;(repeat (first|go_skip|go_guarded|(at_builtin;refine wp_app_ints (v:=.slice none 0 0) rfl _ _ rfl elemFld rfl (own_nilI _ _ .u64) rfl (l:=[2048]) rfl (ints_lit .u64 _ [2048] 32) (ys:=[2048]) rfl (by decide) (by decide) ?_;intro a1 c1 w1 _ _ hI1 hg1)|go_step|go_upon|go_in));refine⟨rfl,?_⟩))
 refine its_code ?_
 repeat (first|go_skip|go_guarded|(at_builtin;refine wp_app_ints rfl _ _ rfl elemFld rfl (hg1.behind (by_none_alloc _ _)).own rfl (l:=[34525]) rfl (ints_lit .u64 _ [34525] 32) (ys:=[2048,34525]) rfl (by decide) (by decide) ?_;intro a2 c2 w2 _ _ hI2 hg2)|go_step|go_upon|go_in)
 refine⟨rfl,?_⟩
 refine its_ret ?_
 go_ret2
 exact⟨_,rfl,⟨_,_,rfl,hI2⟩,(app_two hg1 hg2).2,(app_two hg1 hg2).1⟩
set_option maxRecDepth 100000 in
set_option maxHeartbeats 2000000 in
theorem asked_10 (w:World):
 Calls Tryz.prog 101 #[.int .i64 10] w fun e w'=>∃v,e = .returned (.tuple #[.int .i64 5,v])∧U64s7 w' v [2048,34525]∧New7 w v∧Below w.heap.size w w':=by
 go_enter Tryz.func101,Tryz.ntmps101
 refine its_wp ?_
 repeat (first
  | refine its_seq ?_|refine its_block ?_|refine its_out ?_|refine its_skip ?_|refine its_exit rfl ?_|refine its_true rfl ?_|refine its_false rfl ?_
  | (refine its_code ?_;(repeat (first|go_skip|go_guarded|(at_builtin;refine wp_app_ints (v:=.slice none 0 0) rfl _ _ rfl elemFld rfl (own_nilI _ _ .u64) rfl (l:=[2048]) rfl (ints_lit .u64 _ [2048] 32) (ys:=[2048]) rfl (by decide) (by decide) ?_;intro a1 c1 w1 _ _ hI1 hg1)|go_step|go_upon|go_in));refine⟨rfl,?_⟩))
 refine its_code ?_
 repeat (first|go_skip|go_guarded|(at_builtin;refine wp_app_ints rfl _ _ rfl elemFld rfl (hg1.behind (by_none_alloc _ _)).own rfl (l:=[34525]) rfl (ints_lit .u64 _ [34525] 32) (ys:=[2048,34525]) rfl (by decide) (by decide) ?_;intro a2 c2 w2 _ _ hI2 hg2)|go_step|go_upon|go_in)
 refine⟨rfl,?_⟩
 refine its_ret ?_
 go_ret2
 exact⟨_,rfl,⟨_,_,rfl,hI2⟩,(app_two hg1 hg2).2,(app_two hg1 hg2).1⟩
end Go.Proofs.YthpdkancighknaaGreat
namespace Go.Proofs.YthpdkancighknaaGreat
open Go.RowKit
theorem below_on {w0 w w':World} (h:Below w0.heap.size w0 w) (hb:Below w.heap.size w w'):Below w0.heap.size w0 w':=h.trans (hb.mono h.size)
theorem Ints.apart {k:IntKind} {w:World} {a:Option Addr} {l:List Int} (h:Ints k w a l) {X i:Nat} (v:Value) (hne:∀q:Addr,a=some q→q.block≠X):Ints k (w.setCell ⟨X,i,none⟩ v) a l:=by
 intro j hj
 obtain⟨b,off,rfl,hc⟩:=h j hj
 have:=hne _ rfl
 exact⟨b,off,rfl,(World.cell?_setCell_other _ _ _ _ (by intro e;simp at e;exact this e.1.symm)).trans hc⟩
structure BoxL (w:World) (b:Nat) (l:List Value):Prop where
 cell:∀i x,l[i]? = some x→w.cell? ⟨b,i,none⟩=some x
 free:∀o,w.frozen? ⟨b,o,none⟩=false
 lt:b<w.heap.size
section
variable {w w':World} {b:Nat} {l:List Value}
theorem BoxL.of_block {t:TypeId} (hb:w.heap[b]? = some (.cells l.toArray t (0,0))):BoxL w b l:=
 ⟨fun i x h=>by simp[World.cell?,hb,h],fun o=>by simp[World.frozen?,hb],(Array.getElem?_eq_some_iff.1 hb).1⟩
theorem BoxL.new (w:World) (l:List Value) (t:TypeId):BoxL (w.alloc (.cells l.toArray t)) w.heap.size l:=
 BoxL.of_block (heap_alloc_new w _)
theorem BoxL.by (h:BoxL w b l) {row:Option Nat} (hb:w.grownBy w' row) (hne:some b≠row):BoxL w' b l:=
 ⟨fun i x hx=>hb.cell (h.cell i x hx) hne,fun o=>(World.frozen?_of_block (a:=⟨b,o,none⟩) (hb.block b h.lt hne)).trans (h.free o),Nat.lt_of_lt_of_le h.lt hb.size⟩
theorem BoxL.below (h:BoxL w b l) (hb:Below w.heap.size w w'):BoxL w' b l:=h.by (below_by_none hb) (by simp)
theorem BoxL.drew (h:BoxL w b l):BoxL w.drew b l:=⟨h.cell,h.free,h.lt⟩
theorem BoxL.alloc (h:BoxL w b l) (o:Obj):BoxL (w.alloc o) b l:=h.below (below_alloc w o)
theorem BoxL.set (h:BoxL w b l) (i:Nat) (x:Value) (hi:i<l.length):BoxL (w.setCell ⟨b,i,none⟩ x) b (l.set i x):=by
 refine⟨fun j y hy=>?_,fun o=>by simp[h.free o],by simpa using h.lt⟩
 have h0:=h.cell i l[i] (List.getElem?_eq_getElem hi)
 by_cases hj:i=j
 · subst hj
   simp[hi]at hy
   subst hy
   exact World.cell?_setCell_same _ _ _ h0
 · rw[List.getElem?_set_ne hj]at hy
   exact (World.cell?_setCell_other _ _ _ _ (by simp)).trans (h.cell j y hy)
theorem BoxL.far (h:BoxL w b l) {c i:Nat} (x:Value) (hc:c≠b):BoxL (w.setCell ⟨c,i,none⟩ x) b l:=
 ⟨fun j y hy=>(World.cell?_setCell_other _ _ _ _ (by simp)).trans (h.cell j y hy),fun o=>by simp[h.free o],by simpa using h.lt⟩
theorem BoxL.five {v0 v1 v2 v3 v4:Value} (h:BoxL w b [v0,v1,v2,v3,v4]):
 w.cell? ⟨b,0,none⟩=some v0∧w.cell? ⟨b,1,none⟩=some v1∧w.cell? ⟨b,2,none⟩=some v2∧w.cell? ⟨b,3,none⟩=some v3∧w.cell? ⟨b,4,none⟩=some v4:=
 ⟨h.cell 0 _ rfl,h.cell 1 _ rfl,h.cell 2 _ rfl,h.cell 3 _ rfl,h.cell 4 _ rfl⟩
theorem BoxL.six {v0 v1 v2 v3 v4 v5:Value} (h:BoxL w b [v0,v1,v2,v3,v4,v5]):
 w.cell? ⟨b,0,none⟩=some v0∧w.cell? ⟨b,1,none⟩=some v1∧w.cell? ⟨b,2,none⟩=some v2∧w.cell? ⟨b,3,none⟩=some v3∧w.cell? ⟨b,4,none⟩=some v4∧w.cell? ⟨b,5,none⟩=some v5:=
 ⟨h.cell 0 _ rfl,h.cell 1 _ rfl,h.cell 2 _ rfl,h.cell 3 _ rfl,h.cell 4 _ rfl,h.cell 5 _ rfl⟩
theorem BoxL.set5 {u0 u1 u2 u3 u4:Value} (h:BoxL w b [u0,u1,u2,u3,u4]) (v0 v1 v2 v3 v4:Value):
 BoxL (((((w.setCell ⟨b,0,none⟩ v0).setCell ⟨b,1,none⟩ v1).setCell ⟨b,2,none⟩ v2).setCell ⟨b,3,none⟩ v3).setCell ⟨b,4,none⟩ v4) b [v0,v1,v2,v3,v4]:=
 (((((h.set 0 v0 (by simp)).set 1 v1 (by simp)).set 2 v2 (by simp)).set 3 v3 (by simp)).set 4 v4 (by simp))
theorem BoxL.set6 {u0 u1 u2 u3 u4 u5:Value} (h:BoxL w b [u0,u1,u2,u3,u4,u5]) (v0 v1 v2 v3 v4 v5:Value):
 BoxL ((((((w.setCell ⟨b,0,none⟩ v0).setCell ⟨b,1,none⟩ v1).setCell ⟨b,2,none⟩ v2).setCell ⟨b,3,none⟩ v3).setCell ⟨b,4,none⟩ v4).setCell ⟨b,5,none⟩ v5) b [v0,v1,v2,v3,v4,v5]:=
 ((((((h.set 0 v0 (by simp)).set 1 v1 (by simp)).set 2 v2 (by simp)).set 3 v3 (by simp)).set 4 v4 (by simp)).set 5 v5 (by simp))
end
end Go.Proofs.YthpdkancighknaaGreat
namespace Go.Proofs.YthpdkancighknaaGreat
open Go.RowKit
set_option maxRecDepth 100000 in
theorem asked_in (n:Int) (h : 0≤n∧n<40) (w:World):
 Calls Tryz.prog 101 #[.int .i64 n] w fun e w'=>∃v,e = .returned (.tuple #[.int .i64 (fld n).d,v])∧U64s7 w' v (fld n).v∧New7 w v∧Below w.heap.size w w':=by
 rcases forty h with rfl|rfl|rfl|rfl|rfl|rfl|rfl|rfl|rfl|rfl|rfl|rfl|rfl|rfl|rfl|rfl|rfl|rfl|rfl|rfl|rfl|rfl|rfl|rfl|rfl|rfl|rfl|rfl|rfl|rfl|rfl|rfl|rfl|rfl|rfl|rfl|rfl|rfl|rfl|rfl
 · exact asked_none (d:=-1) (by kernel_rfl)
 · exact asked_none (d:=0) (by kernel_rfl)
 · exact asked_none (d:=-1) (by kernel_rfl)
 · exact asked_none (d:=-1) (by kernel_rfl)
 · exact asked_none (d:=-1) (by kernel_rfl)
 · exact asked_none (d:=-1) (by kernel_rfl)
 · exact asked_none (d:=-1) (by kernel_rfl)
 · exact asked_none (d:=6) (by kernel_rfl)
 · exact asked_8 w
 · exact asked_9 w
 · exact asked_10 w
 · exact asked_lit (d:=5) (l:=[2048]) (by kernel_rfl)
 · exact asked_lit (d:=5) (l:=[2048]) (by kernel_rfl)
 · exact asked_lit (d:=10) (l:=[6]) (by kernel_rfl)
 · exact asked_lit (d:=10) (l:=[6]) (by kernel_rfl)
 · exact asked_lit (d:=10) (l:=[17]) (by kernel_rfl)
 · exact asked_lit (d:=10) (l:=[17]) (by kernel_rfl)
 · exact asked_lit (d:=10) (l:=[132]) (by kernel_rfl)
 · exact asked_lit (d:=10) (l:=[132]) (by kernel_rfl)
 · exact asked_lit (d:=10) (l:=[1]) (by kernel_rfl)
 · exact asked_lit (d:=10) (l:=[1]) (by kernel_rfl)
 · exact asked_lit (d:=5) (l:=[2054]) (by kernel_rfl)
 · exact asked_lit (d:=5) (l:=[2054]) (by kernel_rfl)
 · exact asked_lit (d:=5) (l:=[2054]) (by kernel_rfl)
 · exact asked_lit (d:=5) (l:=[2054]) (by kernel_rfl)
 · exact asked_lit (d:=5) (l:=[2054]) (by kernel_rfl)
 · exact asked_26 w
 · exact asked_27 w
 · exact asked_28 w
 · exact asked_lit (d:=10) (l:=[58]) (by kernel_rfl)
 · exact asked_lit (d:=10) (l:=[58]) (by kernel_rfl)
 · exact asked_lit (d:=29) (l:=[135,136]) (by kernel_rfl)
 · exact asked_lit (d:=29) (l:=[135]) (by kernel_rfl)
 · exact asked_lit (d:=29) (l:=[136]) (by kernel_rfl)
 · exact asked_lit (d:=5) (l:=[34887,34888]) (by kernel_rfl)
 · exact asked_lit (d:=5) (l:=[34887,34888]) (by kernel_rfl)
 · exact asked_lit (d:=5) (l:=[34887,34888]) (by kernel_rfl)
 · exact asked_lit (d:=5) (l:=[35047]) (by kernel_rfl)
 · exact asked_none (d:=-1) (by kernel_rfl)
 · exact asked_39 w
def fldV (f:Fld) (v:Value):Value:=.agg #[.int .i64 f.b,.int .i64 f.z,.bool f.m,.int .i64 f.d,v]
theorem fldOf_box (w:World):∃W,w.alloc (.cells #[.int .i64 0,.int .i64 0,.bool false,.int .i64 0,.slice none 0 0] 95)=W∧Below w.heap.size w W∧BoxL W w.heap.size [.int .i64 0,.int .i64 0,.bool false,.int .i64 0,.slice none 0 0]:=
 ⟨_,rfl,below_alloc _ _,BoxL.new _ _ _⟩
set_option maxRecDepth 100000 in
set_option maxHeartbeats 1000000 in
theorem fldOf_in (n:Int) (h : 0≤n∧n<40) (w:World):
 Calls Tryz.prog 96 #[.int .i64 n] w fun e w'=>∃v,e = .returned (.tuple #[fldV (fld n) v,.bool true])∧U64s7 w' v (fld n).v∧Below w.heap.size w w':=by
 have HF:=hid (fun W=>isField_any n W)
 have e1:decide (0≤n∧n<40)=true:=by simp[h]
 have HW:=hid (fun W=>width_in n h W)
 have HA:=hid (fun W=>asked_in n h W)
 obtain⟨s0,s1,s2⟩:=size_fld n h
 have HS:=hid (fun W=>fldSize_any (fld n).b s0 s1 W)
 rw[s2]at HS
 obtain⟨f,hf⟩:∃f,fld n=f:=⟨_,rfl⟩
 rw[hf]at HW HA HS ⊢
 rw[e1]at HF
 obtain⟨W,hW,hbW,hbox⟩:=fldOf_box w
 have HW0:=hid hW
 clear h hf s0 s1 s2 e1 hW
 go_enter Tryz.func96,Tryz.ntmps96
 go_wp2_with fail
 rw[HW0.out]
 refine (HF.out _).mono ?_
 rintro e w' ⟨rfl,rfl⟩
 go_wp2_with fail
 refine (HW.out _).mono ?_
 rintro e w' ⟨rfl,rfl⟩
 go_wp2_with fail
 refine (HA.out _).mono ?_
 rintro e w1 ⟨v,rfl,hv,hnew,hb⟩
 obtain⟨a,c,rfl,hI⟩:=hv
 have hbox1:=hbox.below hb
 obtain⟨d0,d1,d2,d3,d4⟩:=hbox1.five
 have z:=hbox1.free
 go_wp2_with fail
 refine (HS.out _).mono ?_
 rintro e w' ⟨rfl,rfl⟩
 have hk:=hbox1.set5 (.int .i64 f.b) (.int .i64 f.z) (.bool f.m) (.int .i64 f.d) (.slice a f.v.length c)
 obtain⟨k0,k1,k2,k3,k4⟩:=hk.five
 have hlt:=hbox.lt
 go_wp2_with fail
 refine bodyPost_ret (v:=.tuple #[fldV f (.slice a f.v.length c),.bool true]) (by simp[results,Tryz.results96,go_sem,fldV,k0,k1,k2,k3,k4]) rfl ⟨_,rfl,⟨_,_,rfl,?_⟩,?_⟩
 · have hne:∀q:Addr,a=some q→q.block≠w.heap.size:=by
    rintro q rfl e
    have:=hnew q.block rfl
    omega
   exact ((((hI.apart _ hne).apart _ hne).apart _ hne).apart _ hne).apart _ hne
 · repeat (with_reducible refine Below.setCell ?_ (by simp) _)
   exact below_on hbW hb
def valObjs:List Fld→List Obj
 | []=>[]
 | f::r=>if f.v.isEmpty then valObjs r else .cells (f.v.map (Value.int .u64)).toArray 32::valObjs r
def valV (s i:Nat) (f:Fld):Value:=if f.v.isEmpty then .slice none 0 0 else .slice (some ⟨s+i,0,none⟩) f.v.length f.v.length
def nextI (i:Nat) (f:Fld):Nat:=if f.v.isEmpty then i else i+1
def tableC (s:Nat):Nat→List Fld→List Value
 | _,[]=>[]
 | i,f::r=>.string f.nm :: .int .i64 f.b :: .int .i64 f.z :: .bool f.m :: .int .i64 f.d::valV s i f::tableC s (nextI i f) r
def tableO (s:Nat):List Obj:=.cells (tableC s 0 fldT).toArray 84::(valObjs fldT).reverse
theorem refAll_run (w:World):
 Calls Tryz.prog 91 #[] w fun e w'=>e = .returned (.slice (some ⟨w.heap.size+31,0,none⟩) 40 40)∧w'=laidOn w (tableO w.heap.size):=
 callV_sound (by kernel_rfl)
structure RowAt (w:World) (b off:Nat) (f:Fld) (v:Value):Prop where
 c0:w.cell? ⟨b,off,none⟩=some (.string f.nm)
 c1:w.cell? ⟨b,off+1,none⟩=some (.int .i64 f.b)
 c2:w.cell? ⟨b,off+2,none⟩=some (.int .i64 f.z)
 c3:w.cell? ⟨b,off+3,none⟩=some (.bool f.m)
 c4:w.cell? ⟨b,off+4,none⟩=some (.int .i64 f.d)
 c5:w.cell? ⟨b,off+5,none⟩=some v
 ints:U64s7 w v f.v
def TableAt (B:Nat) (w:World) (b:Nat):Prop:=B≤b ∧ ∀i,i<40 → ∃v,RowAt w b (i*6) (fldT.getD i fldNone) v ∧ ∀g,v.ownBlock=some g→B≤g
theorem laidOn_block {w:World} {os:List Obj} {k:Nat} {o:Obj} (h:os.reverse[k]? = some o):(laidOn w os).heap[w.heap.size+k]? = some o:=by
 induction os with
 | nil=>simp at h
 | cons x os ih=>
   show ((laidOn w os).alloc x).heap[w.heap.size+k]? = some o
   rw[List.reverse_cons]at h
   rcases Nat.lt_or_ge k os.length with hk|hk
   · rw[List.getElem?_append_left (by simpa using hk)]at h
     have:=ih h
     rw[_root_.Go.heap_alloc_old _ _ (by rw[laidOn_size];omega)]
     exact this
   · rw[List.getElem?_append_right (by simpa using hk)]at h
     have hk2:k=os.length:=by
      rcases Nat.eq_or_lt_of_le hk with e|e
      · exact e.symm
      · rw[List.getElem?_eq_none (by simp;omega)]at h;simp at h
     subst hk2
     simp at h
     subst h
     rw[←laidOn_size]
     exact heap_alloc_new _ _
theorem ints_block {w:World} {b:Nat} {l:List Int} {t:TypeId} (h:w.heap[b]? = some (.cells (l.map (Value.int .u64)).toArray t (0,0))):Ints .u64 w (some ⟨b,0,none⟩) l:=by
 intro i hi
 refine⟨b,0,rfl,?_⟩
 rw[Nat.zero_add]
 refine (BoxL.of_block h).cell i _ ?_
 simp[List.getElem?_eq_getElem hi]
theorem forty_nat {n:Nat} (h:n<40):n=0∨n=1∨n=2∨n=3∨n=4∨n=5∨n=6∨n=7∨n=8∨n=9∨n=10∨n=11∨n=12∨n=13∨n=14∨n=15∨n=16∨n=17∨n=18∨n=19∨n=20∨n=21∨n=22∨n=23∨n=24∨n=25∨n=26∨n=27∨n=28∨n=29∨n=30∨n=31∨n=32∨n=33∨n=34∨n=35∨n=36∨n=37∨n=38∨n=39:=by omega
set_option maxRecDepth 100000 in
theorem table_laid (w:World):TableAt w.heap.size (laidOn w (tableO w.heap.size)) (w.heap.size+31):=by
 have hb:(laidOn w (tableO w.heap.size)).heap[w.heap.size+31]? = some (.cells (tableC w.heap.size 0 fldT).toArray 84):=laidOn_block (by rfl)
 have hB:=BoxL.of_block hb
 refine⟨by omega,fun i hi=>?_⟩
 have hn:∀g,(Value.slice none 0 0).ownBlock=some g→w.heap.size≤g:=by intro g hg;simp[Value.ownBlock]at hg
 have hm:∀k n c:Nat,∀g,(Value.slice (some ⟨w.heap.size+k,0,none⟩) n c).ownBlock=some g→w.heap.size≤g:=by intro k n c g hg;simp[Value.ownBlock]at hg;omega
 have hv:∀k l,l ≠ []→(tableO w.heap.size).reverse[k]? = some (.cells (l.map (Value.int .u64)).toArray 32)→U64s7 (laidOn w (tableO w.heap.size)) (.slice (some ⟨w.heap.size+k,0,none⟩) l.length l.length) l:=
  fun k l _ h=>⟨_,_,rfl,ints_block (laidOn_block h)⟩
 have h0:U64s7 (laidOn w (tableO w.heap.size)) (.slice none 0 0) []:=⟨none,0,rfl,Ints.nil _ _ _⟩
 rcases forty_nat hi with rfl|rfl|rfl|rfl|rfl|rfl|rfl|rfl|rfl|rfl|rfl|rfl|rfl|rfl|rfl|rfl|rfl|rfl|rfl|rfl|rfl|rfl|rfl|rfl|rfl|rfl|rfl|rfl|rfl|rfl|rfl|rfl|rfl|rfl|rfl|rfl|rfl|rfl|rfl|rfl
 · exact⟨_,⟨hB.cell _ _ rfl,hB.cell _ _ rfl,hB.cell _ _ rfl,hB.cell _ _ rfl,hB.cell _ _ rfl,hB.cell _ _ rfl,h0⟩,hn⟩
 · exact⟨_,⟨hB.cell _ _ rfl,hB.cell _ _ rfl,hB.cell _ _ rfl,hB.cell _ _ rfl,hB.cell _ _ rfl,hB.cell _ _ rfl,h0⟩,hn⟩
 · exact⟨_,⟨hB.cell _ _ rfl,hB.cell _ _ rfl,hB.cell _ _ rfl,hB.cell _ _ rfl,hB.cell _ _ rfl,hB.cell _ _ rfl,h0⟩,hn⟩
 · exact⟨_,⟨hB.cell _ _ rfl,hB.cell _ _ rfl,hB.cell _ _ rfl,hB.cell _ _ rfl,hB.cell _ _ rfl,hB.cell _ _ rfl,h0⟩,hn⟩
 · exact⟨_,⟨hB.cell _ _ rfl,hB.cell _ _ rfl,hB.cell _ _ rfl,hB.cell _ _ rfl,hB.cell _ _ rfl,hB.cell _ _ rfl,h0⟩,hn⟩
 · exact⟨_,⟨hB.cell _ _ rfl,hB.cell _ _ rfl,hB.cell _ _ rfl,hB.cell _ _ rfl,hB.cell _ _ rfl,hB.cell _ _ rfl,h0⟩,hn⟩
 · exact⟨_,⟨hB.cell _ _ rfl,hB.cell _ _ rfl,hB.cell _ _ rfl,hB.cell _ _ rfl,hB.cell _ _ rfl,hB.cell _ _ rfl,h0⟩,hn⟩
 · exact⟨_,⟨hB.cell _ _ rfl,hB.cell _ _ rfl,hB.cell _ _ rfl,hB.cell _ _ rfl,hB.cell _ _ rfl,hB.cell _ _ rfl,h0⟩,hn⟩
 · exact⟨_,⟨hB.cell _ _ rfl,hB.cell _ _ rfl,hB.cell _ _ rfl,hB.cell _ _ rfl,hB.cell _ _ rfl,hB.cell _ _ rfl,hv 0 [2048,34525] (by decide) rfl⟩,hm _ _ _⟩
 · exact⟨_,⟨hB.cell _ _ rfl,hB.cell _ _ rfl,hB.cell _ _ rfl,hB.cell _ _ rfl,hB.cell _ _ rfl,hB.cell _ _ rfl,hv 1 [2048,34525] (by decide) rfl⟩,hm _ _ _⟩
 · exact⟨_,⟨hB.cell _ _ rfl,hB.cell _ _ rfl,hB.cell _ _ rfl,hB.cell _ _ rfl,hB.cell _ _ rfl,hB.cell _ _ rfl,hv 2 [2048,34525] (by decide) rfl⟩,hm _ _ _⟩
 · exact⟨_,⟨hB.cell _ _ rfl,hB.cell _ _ rfl,hB.cell _ _ rfl,hB.cell _ _ rfl,hB.cell _ _ rfl,hB.cell _ _ rfl,hv 3 [2048] (by decide) rfl⟩,hm _ _ _⟩
 · exact⟨_,⟨hB.cell _ _ rfl,hB.cell _ _ rfl,hB.cell _ _ rfl,hB.cell _ _ rfl,hB.cell _ _ rfl,hB.cell _ _ rfl,hv 4 [2048] (by decide) rfl⟩,hm _ _ _⟩
 · exact⟨_,⟨hB.cell _ _ rfl,hB.cell _ _ rfl,hB.cell _ _ rfl,hB.cell _ _ rfl,hB.cell _ _ rfl,hB.cell _ _ rfl,hv 5 [6] (by decide) rfl⟩,hm _ _ _⟩
 · exact⟨_,⟨hB.cell _ _ rfl,hB.cell _ _ rfl,hB.cell _ _ rfl,hB.cell _ _ rfl,hB.cell _ _ rfl,hB.cell _ _ rfl,hv 6 [6] (by decide) rfl⟩,hm _ _ _⟩
 · exact⟨_,⟨hB.cell _ _ rfl,hB.cell _ _ rfl,hB.cell _ _ rfl,hB.cell _ _ rfl,hB.cell _ _ rfl,hB.cell _ _ rfl,hv 7 [17] (by decide) rfl⟩,hm _ _ _⟩
 · exact⟨_,⟨hB.cell _ _ rfl,hB.cell _ _ rfl,hB.cell _ _ rfl,hB.cell _ _ rfl,hB.cell _ _ rfl,hB.cell _ _ rfl,hv 8 [17] (by decide) rfl⟩,hm _ _ _⟩
 · exact⟨_,⟨hB.cell _ _ rfl,hB.cell _ _ rfl,hB.cell _ _ rfl,hB.cell _ _ rfl,hB.cell _ _ rfl,hB.cell _ _ rfl,hv 9 [132] (by decide) rfl⟩,hm _ _ _⟩
 · exact⟨_,⟨hB.cell _ _ rfl,hB.cell _ _ rfl,hB.cell _ _ rfl,hB.cell _ _ rfl,hB.cell _ _ rfl,hB.cell _ _ rfl,hv 10 [132] (by decide) rfl⟩,hm _ _ _⟩
 · exact⟨_,⟨hB.cell _ _ rfl,hB.cell _ _ rfl,hB.cell _ _ rfl,hB.cell _ _ rfl,hB.cell _ _ rfl,hB.cell _ _ rfl,hv 11 [1] (by decide) rfl⟩,hm _ _ _⟩
 · exact⟨_,⟨hB.cell _ _ rfl,hB.cell _ _ rfl,hB.cell _ _ rfl,hB.cell _ _ rfl,hB.cell _ _ rfl,hB.cell _ _ rfl,hv 12 [1] (by decide) rfl⟩,hm _ _ _⟩
 · exact⟨_,⟨hB.cell _ _ rfl,hB.cell _ _ rfl,hB.cell _ _ rfl,hB.cell _ _ rfl,hB.cell _ _ rfl,hB.cell _ _ rfl,hv 13 [2054] (by decide) rfl⟩,hm _ _ _⟩
 · exact⟨_,⟨hB.cell _ _ rfl,hB.cell _ _ rfl,hB.cell _ _ rfl,hB.cell _ _ rfl,hB.cell _ _ rfl,hB.cell _ _ rfl,hv 14 [2054] (by decide) rfl⟩,hm _ _ _⟩
 · exact⟨_,⟨hB.cell _ _ rfl,hB.cell _ _ rfl,hB.cell _ _ rfl,hB.cell _ _ rfl,hB.cell _ _ rfl,hB.cell _ _ rfl,hv 15 [2054] (by decide) rfl⟩,hm _ _ _⟩
 · exact⟨_,⟨hB.cell _ _ rfl,hB.cell _ _ rfl,hB.cell _ _ rfl,hB.cell _ _ rfl,hB.cell _ _ rfl,hB.cell _ _ rfl,hv 16 [2054] (by decide) rfl⟩,hm _ _ _⟩
 · exact⟨_,⟨hB.cell _ _ rfl,hB.cell _ _ rfl,hB.cell _ _ rfl,hB.cell _ _ rfl,hB.cell _ _ rfl,hB.cell _ _ rfl,hv 17 [2054] (by decide) rfl⟩,hm _ _ _⟩
 · exact⟨_,⟨hB.cell _ _ rfl,hB.cell _ _ rfl,hB.cell _ _ rfl,hB.cell _ _ rfl,hB.cell _ _ rfl,hB.cell _ _ rfl,hv 18 [34525] (by decide) rfl⟩,hm _ _ _⟩
 · exact⟨_,⟨hB.cell _ _ rfl,hB.cell _ _ rfl,hB.cell _ _ rfl,hB.cell _ _ rfl,hB.cell _ _ rfl,hB.cell _ _ rfl,hv 19 [34525] (by decide) rfl⟩,hm _ _ _⟩
 · exact⟨_,⟨hB.cell _ _ rfl,hB.cell _ _ rfl,hB.cell _ _ rfl,hB.cell _ _ rfl,hB.cell _ _ rfl,hB.cell _ _ rfl,hv 20 [34525] (by decide) rfl⟩,hm _ _ _⟩
 · exact⟨_,⟨hB.cell _ _ rfl,hB.cell _ _ rfl,hB.cell _ _ rfl,hB.cell _ _ rfl,hB.cell _ _ rfl,hB.cell _ _ rfl,hv 21 [58] (by decide) rfl⟩,hm _ _ _⟩
 · exact⟨_,⟨hB.cell _ _ rfl,hB.cell _ _ rfl,hB.cell _ _ rfl,hB.cell _ _ rfl,hB.cell _ _ rfl,hB.cell _ _ rfl,hv 22 [58] (by decide) rfl⟩,hm _ _ _⟩
 · exact⟨_,⟨hB.cell _ _ rfl,hB.cell _ _ rfl,hB.cell _ _ rfl,hB.cell _ _ rfl,hB.cell _ _ rfl,hB.cell _ _ rfl,hv 23 [135,136] (by decide) rfl⟩,hm _ _ _⟩
 · exact⟨_,⟨hB.cell _ _ rfl,hB.cell _ _ rfl,hB.cell _ _ rfl,hB.cell _ _ rfl,hB.cell _ _ rfl,hB.cell _ _ rfl,hv 24 [135] (by decide) rfl⟩,hm _ _ _⟩
 · exact⟨_,⟨hB.cell _ _ rfl,hB.cell _ _ rfl,hB.cell _ _ rfl,hB.cell _ _ rfl,hB.cell _ _ rfl,hB.cell _ _ rfl,hv 25 [136] (by decide) rfl⟩,hm _ _ _⟩
 · exact⟨_,⟨hB.cell _ _ rfl,hB.cell _ _ rfl,hB.cell _ _ rfl,hB.cell _ _ rfl,hB.cell _ _ rfl,hB.cell _ _ rfl,hv 26 [34887,34888] (by decide) rfl⟩,hm _ _ _⟩
 · exact⟨_,⟨hB.cell _ _ rfl,hB.cell _ _ rfl,hB.cell _ _ rfl,hB.cell _ _ rfl,hB.cell _ _ rfl,hB.cell _ _ rfl,hv 27 [34887,34888] (by decide) rfl⟩,hm _ _ _⟩
 · exact⟨_,⟨hB.cell _ _ rfl,hB.cell _ _ rfl,hB.cell _ _ rfl,hB.cell _ _ rfl,hB.cell _ _ rfl,hB.cell _ _ rfl,hv 28 [34887,34888] (by decide) rfl⟩,hm _ _ _⟩
 · exact⟨_,⟨hB.cell _ _ rfl,hB.cell _ _ rfl,hB.cell _ _ rfl,hB.cell _ _ rfl,hB.cell _ _ rfl,hB.cell _ _ rfl,hv 29 [35047] (by decide) rfl⟩,hm _ _ _⟩
 · exact⟨_,⟨hB.cell _ _ rfl,hB.cell _ _ rfl,hB.cell _ _ rfl,hB.cell _ _ rfl,hB.cell _ _ rfl,hB.cell _ _ rfl,h0⟩,hn⟩
 · exact⟨_,⟨hB.cell _ _ rfl,hB.cell _ _ rfl,hB.cell _ _ rfl,hB.cell _ _ rfl,hB.cell _ _ rfl,hB.cell _ _ rfl,hv 30 [34525] (by decide) rfl⟩,hm _ _ _⟩
theorem fldAll_any (w:World):
 Calls Tryz.prog 91 #[] w fun e w'=>∃b,e = .returned (.slice (some ⟨b,0,none⟩) 40 40)∧TableAt w.heap.size w' b∧Below w.heap.size w w':=
 (refAll_run w).mono fun _ _ ⟨he,hw⟩=>⟨_,he,by rw[hw];exact table_laid w,by rw[hw];exact laidOn_below _ _⟩
def refFldV (f:Fld) (v:Value):Value:=.agg #[.string f.nm,.int .i64 f.b,.int .i64 f.z,.bool f.m,.int .i64 f.d,v]
theorem refOf_box (w:World):∃W,w.alloc (.cells #[.string ⟨#[]⟩,.int .i64 0,.int .i64 0,.bool false,.int .i64 0,.slice none 0 0] 84)=W∧Below w.heap.size w W∧BoxL W w.heap.size [.string ⟨#[]⟩,.int .i64 0,.int .i64 0,.bool false,.int .i64 0,.slice none 0 0]:=
 ⟨_,rfl,below_alloc _ _,BoxL.new _ _ _⟩
set_option maxRecDepth 100000 in
set_option maxHeartbeats 1000000 in
theorem refOf_in (k:Nat) (h:k<40) (w:World):
 Calls Tryz.prog 80 #[.int .i64 k] w fun e w'=>∃v,e = .returned (.tuple #[refFldV (fldT.getD k fldNone) v,.bool true])∧U64s7 w' v (fldT.getD k fldNone).v∧Below w.heap.size w w':=by
 obtain⟨W,hW,hbW,hbox⟩:=refOf_box w
 have HW0:=hid hW
 have hk0:(0:Int)≤(k:Int):=by omega
 have hk1:(k:Int)<40:=by omega
 obtain⟨f,hf⟩:∃f,fldT.getD k fldNone=f:=⟨_,rfl⟩
 rw[hf]
 have hK:=hid h
 have hF:=hid hf
 clear h hW hf
 go_enter Tryz.func80,Tryz.ntmps80
 go_wp2_with fail
 rw[HW0.out]
 refine (fldAll_any _).mono ?_
 rintro e w1 ⟨b,rfl,hT,hb⟩
 obtain⟨hB,hT⟩:=hT
 obtain⟨v,⟨r0,r1,r2,r3,r4,r5,hU⟩,hnew⟩:=hT k hK.out
 have hbox1:=hbox.below hb
 obtain⟨d0,d1,d2,d3,d4,d5⟩:=hbox1.six
 have z:=hbox1.free
 have hlt:=hbox.lt
 rw[hF.out]at r0 r1 r2 r3 r4 hU
 obtain⟨a,c,rfl,hI⟩:=hU
 clear hT
 go_wp2_with fail
 have hk:=hbox1.set6 (.string f.nm) (.int .i64 f.b) (.int .i64 f.z) (.bool f.m) (.int .i64 f.d) (.slice a f.v.length c)
 obtain⟨k0,k1,k2,k3,k4,k5⟩:=hk.six
 refine bodyPost_ret (v:=.tuple #[refFldV f (.slice a f.v.length c),.bool true]) (by simp[results,Tryz.results80,go_sem,refFldV,k0,k1,k2,k3,k4,k5]) rfl ⟨_,rfl,⟨_,_,rfl,?_⟩,?_⟩
 · have hne:∀q:Addr,a=some q→q.block≠w.heap.size:=by
    rintro q rfl e
    have:=hnew q.block rfl
    omega
   exact (((((hI.apart _ hne).apart _ hne).apart _ hne).apart _ hne).apart _ hne).apart _ hne
 · repeat (with_reducible refine Below.setCell ?_ (by simp) _)
   exact below_on hbW hb
set_option maxRecDepth 100000 in
set_option maxHeartbeats 1000000 in
theorem refOf_out (n:Int) (h:¬(0≤n∧n<40)) (w:World):
 Calls Tryz.prog 80 #[.int .i64 n] w fun e w'=>e = .returned (.tuple #[refFldV fldNone (.slice none 0 0),.bool false])∧Below w.heap.size w w':=by
 obtain⟨W,hW,hbW,hbox⟩:=refOf_box w
 have HW0:=hid hW
 clear hW
 have hlt:=hbox.lt
 rcases Int.lt_or_le n 0 with hn|hn
 · clear h
   go_enter Tryz.func80,Tryz.ntmps80
   go_wp2_with fail
   rw[HW0.out]
   refine (fldAll_any _).mono ?_
   rintro e w1 ⟨b,rfl,hT,hb⟩
   have hbox1:=hbox.below hb
   obtain⟨d0,d1,d2,d3,d4,d5⟩:=hbox1.six
   have z:=hbox1.free
   clear hT
   go_wp2_with fail
   have hk:=hbox1.set6 (.string ⟨#[]⟩) (.int .i64 0) (.int .i64 0) (.bool false) (.int .i64 0) (.slice none 0 0)
   obtain⟨k0,k1,k2,k3,k4,k5⟩:=hk.six
   refine bodyPost_ret (v:=.tuple #[refFldV fldNone (.slice none 0 0),.bool false]) (by simp[results,Tryz.results80,go_sem,refFldV,fldNone,k0,k1,k2,k3,k4,k5]) rfl ⟨rfl,?_⟩
   repeat (with_reducible refine Below.setCell ?_ (by simp) _)
   exact below_on hbW hb
 · have hn2 : 40≤n:=by omega
   clear h
   go_enter Tryz.func80,Tryz.ntmps80
   go_wp2_with fail
   rw[HW0.out]
   refine (fldAll_any _).mono ?_
   rintro e w1 ⟨b,rfl,hT,hb⟩
   have hbox1:=hbox.below hb
   obtain⟨d0,d1,d2,d3,d4,d5⟩:=hbox1.six
   have z:=hbox1.free
   clear hT
   go_wp2_with fail
   have hk:=hbox1.set6 (.string ⟨#[]⟩) (.int .i64 0) (.int .i64 0) (.bool false) (.int .i64 0) (.slice none 0 0)
   obtain⟨k0,k1,k2,k3,k4,k5⟩:=hk.six
   refine bodyPost_ret (v:=.tuple #[refFldV fldNone (.slice none 0 0),.bool false]) (by simp[results,Tryz.results80,go_sem,refFldV,fldNone,k0,k1,k2,k3,k4,k5]) rfl ⟨rfl,?_⟩
   repeat (with_reducible refine Below.setCell ?_ (by simp) _)
   exact below_on hbW hb
theorem refOf_any (n:Int) (w:World):
 Calls Tryz.prog 80 #[.int .i64 n] w fun e w'=>∃v,e = .returned (.tuple #[refFldV (fld n) v,.bool (decide (0≤n∧n<40))])∧U64s7 w' v (fld n).v∧Below w.heap.size w w':=by
 by_cases h : 0≤n∧n<40
 · obtain⟨k,rfl⟩:=Int.eq_ofNat_of_zero_le h.1
   have e1:fld (k:Int)=fldT.getD k fldNone:=by unfold fld;rw[if_pos h];rfl
   rw[e1,decide_eq_true h]
   exact refOf_in k (by omega) w
 · rw[fld_out h,decide_eq_false h]
   exact (refOf_out n h w).mono fun _ _ ⟨he,hb⟩=>⟨_,he,⟨_,_,rfl,Ints.nil _ _ _⟩,hb⟩
set_option maxRecDepth 100000 in
set_option maxHeartbeats 1000000 in
theorem fldOf_out (n:Int) (h:¬(0≤n∧n<40)) (w:World):
 Calls Tryz.prog 96 #[.int .i64 n] w fun e w'=>e = .returned (.tuple #[fldV fldNone (.slice none 0 0),.bool false])∧Below w.heap.size w w':=by
 have HF:=isField_any n
 rw[decide_eq_false h]at HF
 have HF:=hid HF
 obtain⟨W,hW,hbW,hbox⟩:=fldOf_box w
 have HW0:=hid hW
 obtain⟨d0,d1,d2,d3,d4⟩:=hbox.five
 have z:=hbox.free
 have hk:=hbox.set5 (.int .i64 0) (.int .i64 0) (.bool false) (.int .i64 0) (.slice none 0 0)
 obtain⟨k0,k1,k2,k3,k4⟩:=hk.five
 clear h hW
 go_enter Tryz.func96,Tryz.ntmps96
 go_wp2_with fail
 rw[HW0.out]
 refine (HF.out _).mono ?_
 rintro e w' ⟨rfl,rfl⟩
 go_wp2_with fail
 refine bodyPost_ret (v:=.tuple #[fldV fldNone (.slice none 0 0),.bool false]) (by simp[results,Tryz.results96,go_sem,fldV,fldNone,k0,k1,k2,k3,k4]) rfl ⟨rfl,?_⟩
 repeat (with_reducible refine Below.setCell ?_ (by simp) _)
 exact hbW
theorem fldOf_any (n:Int) (w:World):
 Calls Tryz.prog 96 #[.int .i64 n] w fun e w'=>∃v,e = .returned (.tuple #[fldV (fld n) v,.bool (decide (0≤n∧n<40))])∧U64s7 w' v (fld n).v∧Below w.heap.size w w':=by
 by_cases h : 0≤n∧n<40
 · rw[decide_eq_true h]
   exact fldOf_in n h w
 · rw[fld_out h,decide_eq_false h]
   exact (fldOf_out n h w).mono fun _ _ ⟨he,hb⟩=>⟨_,he,⟨_,_,rfl,Ints.nil _ _ _⟩,hb⟩
def findN (s:ByteArray):Nat:=fldT.findIdx (fun f=>f.nm.toList==s.toList)
def findI (s:ByteArray):Int:=if findN s<40 then (findN s:Int) else 0
def findV (s:ByteArray):Value:=.tuple #[.int .i64 (findI s),.bool (decide (findN s<40))]
def fldNames:List Value:=fldT.map (fun f=>.string f.nm)
theorem fldSettable_any (n:Int) (w:World):
 Calls Tryz.prog 74 #[.int .i64 n] w fun e w'=>e = .returned (.bool (decide (2<n∧n<39)))∧w'=w:=by
 have HF:=isField_any n
 rcases (show n=0∨n=1∨n=2∨n=39∨(n≠0∧n≠1∧n≠2∧n≠39) by omega) with rfl|rfl|rfl|rfl|⟨h0,h1,h2,h3⟩
 · exact callV_sound (os:=[]) (by kernel_rfl)
 · exact callV_sound (os:=[]) (by kernel_rfl)
 · exact callV_sound (os:=[]) (by kernel_rfl)
 · exact callV_sound (os:=[]) (by kernel_rfl)
 · rw[show decide (0≤n∧n<40)=decide (2<n∧n<39) from decide_eq_decide.2 (by omega)]at HF
   have HF:=hid HF
   have c0:(n==0)=false:=by simp[h0]
   have c1:(n==1)=false:=by simp[h1]
   have c2:(n==2)=false:=by simp[h2]
   have c3:(n==39)=false:=by simp[h3]
   obtain⟨v,hv⟩:∃v,decide (2<n∧n<39)=v:=⟨_,rfl⟩
   rw[hv]at HF ⊢
   clear h0 h1 h2 h3 hv
   go_enter Tryz.func74,Tryz.ntmps74
   go_wp2_with fail
   refine (HF.out _).mono ?_
   rintro e w' ⟨rfl,rfl⟩
   go_wp2_with fail
   go_ret
   exact⟨rfl,rfl⟩
set_option maxRecDepth 100000 in
theorem fldRefSettable_any (n:Int) (w:World):
 Calls Tryz.prog 65 #[.int .i64 n] w fun e w'=>e = .returned (.bool (decide (2<n∧n<39)))∧Below w.heap.size w w':=by
 have HO:=refOf_any n w
 obtain⟨f,hf⟩:∃f,fld n=f:=⟨_,rfl⟩
 rw[hf]at HO
 unfold refFldV at HO
 rcases (show ¬(0≤n∧n<40)∨(0≤n∧n≤2)∨n=39∨(2<n∧n<39) by omega) with h|h|rfl|h
 · rw[decide_eq_false h]at HO
   rw[decide_eq_false (by omega)]
   have HO:=hid HO
   clear h hf
   go_enter Tryz.func65,Tryz.ntmps65
   go_wp2_with fail
   refine HO.out.mono ?_
   rintro e w1 ⟨v,rfl,⟨a,c,rfl,hI⟩,hb⟩
   clear hI
   go_wp2_with fail
   go_ret
   exact⟨rfl,hb.alloc hb.size _⟩
 · rw[decide_eq_true (show 0≤n∧n<40 by omega)]at HO
   rw[decide_eq_false (by omega)]
   have HO:=hid HO
   have h2:n≤2:=h.2
   clear h hf
   go_enter Tryz.func65,Tryz.ntmps65
   go_wp2_with fail
   refine HO.out.mono ?_
   rintro e w1 ⟨v,rfl,⟨a,c,rfl,hI⟩,hb⟩
   clear hI
   go_wp2_with fail
   go_ret
   exact⟨rfl,hb.alloc hb.size _⟩
 · rw[decide_eq_true (show (0:Int)≤39∧(39:Int)<40 by omega)]at HO
   rw[decide_eq_false (by omega)]
   have HO:=hid HO
   clear hf
   go_enter Tryz.func65,Tryz.ntmps65
   go_wp2_with fail
   refine HO.out.mono ?_
   rintro e w1 ⟨v,rfl,⟨a,c,rfl,hI⟩,hb⟩
   clear hI
   go_wp2_with fail
   go_ret
   exact⟨rfl,hb.alloc hb.size _⟩
 · rw[decide_eq_true (show 0≤n∧n<40 by omega)]at HO
   rw[decide_eq_true h]
   have HO:=hid HO
   have h2 : 2<n:=h.1
   have h3:(n != 39)=true:=by simp;omega
   clear h hf
   go_enter Tryz.func65,Tryz.ntmps65
   go_wp2_with fail
   refine HO.out.mono ?_
   rintro e w1 ⟨v,rfl,⟨a,c,rfl,hI⟩,hb⟩
   clear hI
   go_wp2_with fail
   go_ret
   exact⟨rfl,hb.alloc hb.size _⟩
def needU:Nat→Int→List Int
 | 0,_=>[]
 | k+1,n=>if (fld n).d = -1 ∨ ¬(0≤n∧n<40) then [] else needU k (fld n).d ++ [(fld n).d]
def needL (n:Int):List Int:=needU 4 n
def NeedPost (w:World) (l:List Int) (e:Ending) (w':World):Prop:=∃v,e = .returned v∧Fresh 3 w w' v (l.map (Value.int .i64))
def topB (B:Nat) (p:Int):Bool:=p/2^(8-min (B:Int) 8).toNat != 0
def fitV (A:Nat) (l:List Int):Bool:=(List.range l.length).all fun k=>!topB (A-8*k) (l.getD k 0)
theorem fitV_yes {A:Nat} {l:List Int} (h:∀j,j<l.length→topB (A-8*j) (l.getD j 0)=false):fitV A l=true:=by
 unfold fitV
 rw[List.all_eq_true]
 intro j hj
 rw[h j (by simpa using hj)]
 rfl
theorem fitV_no {A:Nat} {l:List Int} {j:Nat} (hj:j<l.length) (h:topB (A-8*j) (l.getD j 0)=true):fitV A l=false:=by
 unfold fitV
 rw[List.all_eq_false]
 exact⟨j,by simpa using hj,by rw[h];simp⟩
def bitOn (k:Nat) (p:Int):Bool:=bits BinOp.and IntKind.u8 (p/2^(k%8)) 1==1
theorem top_table:∀(p:Fin 256) (B:Fin 9),topB B.val (p.val:Int)=(List.range 8).any fun t=>decide (8≤t+B.val)&&bitOn t (p.val:Int):=by decide +kernel
theorem top_bits {B:Nat} {p:Int} (h0 : 0≤p) (h1:p≤255):topB B p=(List.range 8).any fun t=>decide (8≤t+B)&&bitOn t p:=by
 obtain⟨q,rfl⟩:=Int.eq_ofNat_of_zero_le h0
 rcases Nat.lt_or_ge B 9 with hB|hB
 · exact top_table ⟨q,by omega⟩ ⟨B,hB⟩
 · have e:=top_table ⟨q,by omega⟩ ⟨8,by omega⟩
   have e1:topB B (q:Int)=topB 8 (q:Int):=by
    unfold topB
    rw[show min (B:Int) 8=min ((8:Nat):Int) 8 by omega]
   rw[e1]
   refine e.trans ?_
   congr 1
   funext t
   rw[decide_eq_true (show 8≤t+8 by omega),decide_eq_true (show 8≤t+B by omega)]
theorem bitOn_mod (k:Nat) (p:Int):bitOn (k%8) p=bitOn k p:=by unfold bitOn;rw[Nat.mod_mod]
theorem octet_getD {l:List Int} (ho:Octets l) (k:Nat) : 0≤l.getD k 0∧l.getD k 0≤255:=by
 rw[List.getD_eq_getElem?_getD]
 cases h:l[k]? with
 | none=>simp
 | some x=>exact ho.get h
theorem fitV_bit {A z k:Nat} {b:Int} {l:List Int} (ho:Octets l) (hl:l.length=z) (hA : 8*(z:Int)-b=A) (hk:(k:Int)<8*(z:Int)) (hb:b≤k) (h:bitOn k (l.getD (z-1-k/8) 0)=true):fitV A l=false:=by
 refine fitV_no (j:=z-1-k/8) (by omega) ?_
 obtain⟨h0,h1⟩:=octet_getD ho (z-1-k/8)
 rw[top_bits h0 h1,List.any_eq_true]
 refine⟨k%8,by simp;omega,?_⟩
 rw[bitOn_mod,h,decide_eq_true (by omega)]
 rfl
theorem fitV_bits {A z:Nat} {b:Int} {l:List Int} (ho:Octets l) (hl:l.length=z) (hA : 8*(z:Int)-b=A) (h:∀k:Nat,(k:Int)<8*(z:Int)→b≤k→bitOn k (l.getD (z-1-k/8) 0)=false):fitV A l=true:=by
 refine fitV_yes fun j hj=>?_
 obtain⟨h0,h1⟩:=octet_getD ho j
 rw[top_bits h0 h1,List.any_eq_false]
 intro t ht
 have ht8:t<8:=by simpa using ht
 by_cases h8 : 8≤t+(A-8*j)
 · have:=h (8*(z-1-j)+t) (by omega) (by omega)
   rw[show z-1-(8*(z-1-j)+t)/8=j by omega,←bitOn_mod,show (8*(z-1-j)+t)%8=t by omega]at this
   rw[this]
   simp
 · rw[decide_eq_false h8]
   simp
theorem getD_of {l:List Int} {k:Nat} {p:Int} (h:l[k]? = some p):l.getD k 0=p:=by rw[List.getD_eq_getElem?_getD,h];rfl
theorem upto_more {P:Nat→Prop} {k:Nat} (h:∀j,j<k→P j) (hk:P k):∀j,j<k+1→P j:=by
 intro j hj
 rcases Nat.lt_or_ge j k with h1|h1
 · exact h j h1
 · obtain rfl:j=k:=by omega
   exact hk
set_option maxRecDepth 100000 in
set_option maxHeartbeats 2000000 in
theorem fldFits_loop (n:Int) (f:Fld) (hf:fld n=f) (A:Nat) (hA : 8*(f.z:Int)-f.b=A) (hb0 : 0≤f.b) (hb1:f.b≤128) (l:List Int) (a:Option Addr) (c:Nat) (hl:l.length=f.z) (hz:f.z≤16) (hin : 0≤n∧n<40) (w:World) (hI:Ints .u8 w a l):
 Calls Tryz.prog 98 #[.int .i64 n,.slice a l.length c] w fun e w'=>e = .returned (.bool (fitV A l))∧Below w.heap.size w w':=by
 have HO:=fldOf_any n w
 rw[hf,decide_eq_true hin]at HO
 unfold fldV at HO
 have HO:=hid HO
 have hlz:(l.length:Int)=(f.z:Int):=by omega
 have hlen:((l.length:Int) != (f.z:Int))=false:=by simp[hlz]
 have hI1:=hid hI
 have hz1:(f.z:Int)≤16:=by omega
 have hA1:=hid hA
 have hA2:A≤128:=by omega
 have hL:=hid hl
 clear hf hin hI hl hA
 go_enter Tryz.func98,Tryz.ntmps98
 go_wp2_with fail
 refine HO.out.mono ?_
 rintro e w1 ⟨v,rfl,⟨va,vc,rfl,hI⟩,hb⟩
 clear hI
 have HI:=hid (hI1.out.below (hb.alloc hb.size (.cells #[.int .i64 f.b,.int .i64 f.z,.bool f.m,.int .i64 f.d,.slice va f.v.length vc] 95)))
 have HB:=hid (hb.alloc hb.size (.cells #[.int .i64 f.b,.int .i64 f.z,.bool f.m,.int .i64 f.d,.slice va f.v.length vc] 95))
 clear hb
 go_wp2_with fail
 rw[hA1.out]
 go_loop [7,32] (fun ab i=>∃k:Nat,k≤l.length∧i = .int .i64 k∧ab = .int .i64 ((A-8*k:Nat):Int)∧Hid (∀j,j<k→topB (A-8*j) (l.getD j 0)=false)) (fun _ i=>l.length-(intOf i).toNat)
 case atStart=>exact⟨0,by omega,rfl,by simp,fun j h=>by omega⟩
 case round=>
  obtain⟨k,hk,rfl,rfl,hall⟩:=hrel
  by_cases hlt:k<l.length
  · have hk2:(k:Int)<(l.length:Int):=by omega
    obtain⟨b1,o1,p,rfl,e1,g1⟩:=HI.out.at hlt
    have hp:=getD_of g1.out
    obtain⟨B,hB⟩:∃B,A-8*k=B:=⟨_,rfl⟩
    have HB2:Hid ((max ((B:Int)-8) 0:Int)=((A-8*(k+1):Nat):Int)):=by show _=_;omega
    have hB3:(B:Int)≤128:=by omega
    cases hq:topB B p
    · have HN:=hid (upto_more (P:=fun j=>topB (A-8*j) (l.getD j 0)=false) hall.out (by rw[hp,hB];exact hq))
      have hq2:(p/2^(8-min (B:Int) 8).toNat != 0)=false:=hq
      rw[hB]
      clear hq hp hB
      go_wp2_with fail
      go_round
      case rel=>exact⟨k+1,by omega,by go_num,by rw[HB2.out],HN⟩
      case measure=>simp[intOf];omega
    · have HN:=hid (fitV_no (A:=A) hlt (by rw[hp,hB];exact hq))
      have hq2:(p/2^(8-min (B:Int) 8).toNat != 0)=true:=hq
      rw[hB]
      clear hq hp hB
      go_wp2_with fail
      go_ret
      exact⟨ret_bool HN.out.symm,HB.out⟩
  · obtain rfl:k=l.length:=by omega
    have HN:=hid (fitV_yes hall.out)
    go_wp2_with fail
    go_ret
    exact⟨ret_bool HN.out.symm,HB.out⟩
set_option maxRecDepth 100000 in
set_option maxHeartbeats 2000000 in
theorem refFits_loop (n:Int) (f:Fld) (hf:fld n=f) (A:Nat) (hA : 8*(f.z:Int)-f.b=A) (hb0 : 0≤f.b) (hb1:f.b≤8*(f.z:Int)) (l:List Int) (ho:Octets l) (a:Option Addr) (c:Nat) (hl:l.length=f.z) (hz:f.z≤16) (hin : 0≤n∧n<40) (w:World) (hI:Ints .u8 w a l):
 Calls Tryz.prog 92 #[.int .i64 n,.slice a l.length c] w fun e w'=>e = .returned (.bool (fitV A l))∧Below w.heap.size w w':=by
 have HO:=refOf_any n w
 rw[hf,decide_eq_true hin]at HO
 unfold refFldV at HO
 have HO:=hid HO
 have hlz:(l.length:Int)=(f.z:Int):=by omega
 have hlen:((l.length:Int) != (f.z:Int))=false:=by simp[hlz]
 have hI1:=hid hI
 have hz1:(f.z:Int)≤16:=by omega
 have hL:=hid hl
 have hA1:=hid hA
 have hO:=hid ho
 clear hf hin hI hl hA ho
 go_enter Tryz.func92,Tryz.ntmps92
 go_wp2_with fail
 refine HO.out.mono ?_
 rintro e w1 ⟨v,rfl,⟨va,vc,rfl,hI⟩,hb⟩
 clear hI
 have hb2:=hb.alloc hb.size (.cells #[.string f.nm,.int .i64 f.b,.int .i64 f.z,.bool f.m,.int .i64 f.d,.slice va f.v.length vc] 84)
 have HI:=hid (hI1.out.below hb2)
 have HB:=hid hb2
 clear hb hb2
 go_wp2_with fail
 go_loop [7] (fun i=>∃k:Nat,(k:Int)≤8*(f.z:Int)∧f.b≤(k:Int)∧i = .int .i64 k∧Hid (∀j:Nat,(j:Int)<k→f.b≤j→bitOn j (l.getD (f.z-1-j/8) 0)=false)) (fun i=>8*f.z-(intOf i).toNat)
 case atStart=>exact⟨f.b.toNat,by omega,by omega,by rw[Int.toNat_of_nonneg hb0],fun j h1 h2=>by omega⟩
 case round=>
  obtain⟨k,hk,hbk,rfl,hall⟩:=hrel
  by_cases hlt:(k:Int)<8*(f.z:Int)
  · have hx:f.z-1-k/8<l.length:=by rw[hL.out];omega
    obtain⟨b1,o1,p,rfl,e1,g1⟩:=HI.out.at hx
    have hd:(f.z:Int)-1-(k:Int)/8=((f.z-1-k/8:Nat):Int):=by omega
    have hp:=getD_of g1.out
    have hno:=fun h=>fitV_bit (b:=f.b) hO.out hL.out hA1.out hlt hbk (by rw[hp];exact h)
    have hyes:bitOn k p=false → ∀j:Nat,(j:Int)<(k:Int)+1→f.b≤j→bitOn j (l.getD (f.z-1-j/8) 0)=false:=by
     intro h j h1 h2
     rcases Int.lt_or_le (j:Int) k with h3|h3
     · exact hall.out j h3 h2
     · obtain rfl:j=k:=by omega
       rw[hp]
       exact h
    obtain⟨j,hj⟩:∃j,f.z-1-k/8=j:=⟨_,rfl⟩
    rw[hj]at hx e1 hd
    have hj2:(j:Int)<(l.length:Int):=by omega
    have HNO:=hid hno
    have HYES:=hid hyes
    clear hj hx hp g1 hno hyes
    cases hq:bitOn k p
    · have hq2:(bits BinOp.and IntKind.u8 (p/2^(k%8)) 1==1)=false:=hq
      have HY:=hid (HYES.out hq)
      clear hq
      go_wp2_with fail
      go_round
      case rel=>exact⟨k+1,by omega,by omega,by go_num,fun j h1 h2=>HY.out j (by omega) h2⟩
      case measure=>simp[intOf];omega
    · have hq2:(bits BinOp.and IntKind.u8 (p/2^(k%8)) 1==1)=true:=hq
      have HN:=hid (HNO.out hq)
      clear hq
      go_wp2_with fail
      go_ret
      exact⟨ret_bool HN.out.symm,HB.out⟩
  · have HN:=hid (fitV_bits (b:=f.b) hO.out hL.out hA1.out (fun j h1 h2=>hall.out j (by omega) h2))
    go_wp2_with fail
    go_ret
    exact⟨ret_bool HN.out.symm,HB.out⟩
theorem fld_dims {n:Int} (h : 0≤n∧n<40) : 0≤(fld n).b∧(fld n).b≤128∧(fld n).b≤8*((fld n).z:Int)∧(fld n).z≤16:=by
 rcases forty h with rfl|rfl|rfl|rfl|rfl|rfl|rfl|rfl|rfl|rfl|rfl|rfl|rfl|rfl|rfl|rfl|rfl|rfl|rfl|rfl|rfl|rfl|rfl|rfl|rfl|rfl|rfl|rfl|rfl|rfl|rfl|rfl|rfl|rfl|rfl|rfl|rfl|rfl|rfl|rfl<;>decide
def fitsB (n:Int) (l:List Int):Bool:=decide (0≤n∧n<40)&&decide (l.length=(fld n).z)&&fitV (8*((fld n).z:Int)-(fld n).b).toNat l
set_option maxRecDepth 100000 in
theorem fldFits_any (n:Int) (l:List Int) (a:Option Addr) (c:Nat) (w:World) (hI:Ints .u8 w a l):
 Calls Tryz.prog 98 #[.int .i64 n,.slice a l.length c] w fun e w'=>e = .returned (.bool (fitsB n l))∧Below w.heap.size w w':=by
 have HO:=fldOf_any n w
 by_cases hin : 0≤n∧n<40
 · obtain⟨d0,d1,d2,d3⟩:=fld_dims hin
   by_cases hl:l.length=(fld n).z
   · have e:fitsB n l=fitV (8*((fld n).z:Int)-(fld n).b).toNat l:=by unfold fitsB;rw[decide_eq_true hin,decide_eq_true hl];rfl
     rw[e]
     exact fldFits_loop n (fld n) rfl _ (by omega) d0 d1 l a c hl d3 hin w hI
   · have e:fitsB n l=false:=by unfold fitsB;rw[decide_eq_false hl];simp
     rw[e]
     obtain⟨f,hf⟩:∃f,fld n=f:=⟨_,rfl⟩
     rw[hf,decide_eq_true hin]at HO
     rw[hf]at hl
     unfold fldV at HO
     have hlen:((l.length:Int) != (f.z:Int))=true:=by simp;omega
     have HO:=hid HO
     clear e hf hin hl d0 d1 d2 d3 hI
     go_enter Tryz.func98,Tryz.ntmps98
     go_wp2_with fail
     refine HO.out.mono ?_
     rintro e w1 ⟨v,rfl,⟨va,vc,rfl,hI⟩,hb⟩
     clear hI
     go_wp2_with fail
     go_ret
     exact⟨rfl,hb.alloc hb.size _⟩
 · have e:fitsB n l=false:=by unfold fitsB;rw[decide_eq_false hin];rfl
   rw[e]
   obtain⟨f,hf⟩:∃f,fld n=f:=⟨_,rfl⟩
   rw[hf,decide_eq_false hin]at HO
   unfold fldV at HO
   have HO:=hid HO
   clear e hf hin hI
   go_enter Tryz.func98,Tryz.ntmps98
   go_wp2_with fail
   refine HO.out.mono ?_
   rintro e w1 ⟨v,rfl,⟨va,vc,rfl,hI⟩,hb⟩
   clear hI
   go_wp2_with fail
   go_ret
   exact⟨rfl,hb.alloc hb.size _⟩
set_option maxRecDepth 100000 in
theorem fldRefFits_any (n:Int) (l:List Int) (a:Option Addr) (c:Nat) (ho:Octets l) (w:World) (hI:Ints .u8 w a l):
 Calls Tryz.prog 92 #[.int .i64 n,.slice a l.length c] w fun e w'=>e = .returned (.bool (fitsB n l))∧Below w.heap.size w w':=by
 have HO:=refOf_any n w
 by_cases hin : 0≤n∧n<40
 · obtain⟨d0,d1,d2,d3⟩:=fld_dims hin
   by_cases hl:l.length=(fld n).z
   · have e:fitsB n l=fitV (8*((fld n).z:Int)-(fld n).b).toNat l:=by unfold fitsB;rw[decide_eq_true hin,decide_eq_true hl];rfl
     rw[e]
     exact refFits_loop n (fld n) rfl _ (by omega) d0 d2 l ho a c hl d3 hin w hI
   · have e:fitsB n l=false:=by unfold fitsB;rw[decide_eq_false hl];simp
     rw[e]
     obtain⟨f,hf⟩:∃f,fld n=f:=⟨_,rfl⟩
     rw[hf,decide_eq_true hin]at HO
     rw[hf]at hl
     unfold refFldV at HO
     have hlen:((l.length:Int) != (f.z:Int))=true:=by simp;omega
     have HO:=hid HO
     clear e hf hin hl d0 d1 d2 d3 hI
     go_enter Tryz.func92,Tryz.ntmps92
     go_wp2_with fail
     refine HO.out.mono ?_
     rintro e w1 ⟨v,rfl,⟨va,vc,rfl,hI⟩,hb⟩
     clear hI
     go_wp2_with fail
     go_ret
     exact⟨rfl,hb.alloc hb.size _⟩
 · have e:fitsB n l=false:=by unfold fitsB;rw[decide_eq_false hin];rfl
   rw[e]
   obtain⟨f,hf⟩:∃f,fld n=f:=⟨_,rfl⟩
   rw[hf,decide_eq_false hin]at HO
   unfold refFldV at HO
   have HO:=hid HO
   clear e hf hin hI
   go_enter Tryz.func92,Tryz.ntmps92
   go_wp2_with fail
   refine HO.out.mono ?_
   rintro e w1 ⟨v,rfl,⟨va,vc,rfl,hI⟩,hb⟩
   clear hI
   go_wp2_with fail
   go_ret
   exact⟨rfl,hb.alloc hb.size _⟩
end Go.Proofs.YthpdkancighknaaGreat
