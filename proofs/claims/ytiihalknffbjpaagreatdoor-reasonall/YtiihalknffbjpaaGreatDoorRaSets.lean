/- reason: without, least. -/
import Derived.Test.YtiihalknffbjpaaGreatDoorRlChkC
set_option maxHeartbeats 2000000
set_option maxRecDepth 100000
namespace Go.Proofs.YtiihalknffbjpaaGreatDoor
section
open Go.RowKit Go.Deep Go.Maps
def zcX:Value->Option (DataW Unit × List MemPlace)
 |.bool b=>some (.lit (.bool b),[])
 |_=>none
theorem zbu(b:Bool):zcX (.bool b)=some (.lit (.bool b),[]):=rfl
theorem zce{v:Value}{b:Bool}{ps:List MemPlace}(h:zcX v=some (.lit (.bool b),ps)):v=.bool b:=by
 unfold zcX at h;split at h
 ·simp at h;rw[h.1]
 ·cases h
theorem zfa(w:World):(zeroValue 4).run Tryz.prog w=.ok (.bool false) w:=by kernel_rfl
def zbW(w:World)(bm:Nat)(l:List It):Prop:=∃D,w.ownsMap Tryz.prog 9 zcX bm (zbf l) D/\zn5 (fun _:Unit=>.lit (.bool true)) D (zdg l) (zbf l)
theorem zbW.made(w:World):zbW (w.alloc (.map #[] 0)) w.heap.size []:=⟨.map [],World.ownsMap_made w _ _ _,zn5.empty⟩
theorem zbW.below{B:Nat}{w w':World}{bm:Nat}{l:List It}(h:zbW w bm l)(hb:Below B w w')(hB:w.heap.size<=B):zbW w' bm l:=by
 obtain⟨D,h1,h2⟩:=h;exact⟨D,zbz h1 (hb.mono hB),h2⟩
theorem zbW.lt{w:World}{bm:Nat}{l:List It}(h:zbW w bm l):bm<w.heap.size:=by obtain⟨D,h1,_⟩:=h;exact h1.lt
theorem zbW.block{w w':World}{bm:Nat}{l:List It}(h:zbW w bm l)(hb:w'.heap[bm]?=w.heap[bm]?):zbW w' bm l:=by
 obtain⟨D,⟨es,clock,h1,h2⟩,hR⟩:=h;exact⟨D,⟨es,clock,hb.trans h1,h2⟩,hR⟩
theorem zbW.put{w:World}{bm:Nat}{l:List It}(h:zbW w bm l)(hl:l.length<1000000){x:It}(hs:x.name.size<=100000) :
  ∃w',(Instr.mapUpdate 239 (.map (some bm)) (.string x.name) (.bool true)).run Tryz.prog w=.ok () w'/\zbW w' bm (l++[x])/\w.grownBy w' (some bm):=by
 obtain⟨D,hD,hR⟩:=h;have hle:=zif l;obtain⟨w',hrun,g1,k1⟩:=hD.update zhE Tryz.underlying239 (by unfold maxLen;omega) (zin hs) (zbu true);have hR1:=hR.put x.name ();have e1:(fun c=>if c=x.name then some () else zdg l c)=zdg (l++[x]):=by
  funext c;unfold zdg
  by_cases h:c=x.name
  ·simp[h]
  ·simp[h]
 have e2:(if (zdg l x.name).isSome then zbf l else zbf l+1)=zbf (l++[x]):=by
  rw[zfy];unfold zdg
  by_cases h:x.name∈l.map It.name
  ·rw[if_pos h,if_pos h];rfl
  ·rw[if_neg h,if_neg h];rfl
 rw[e1,e2] at hR1;exact⟨w',hrun,⟨_,hR1.size▸zbK g1,hR1⟩,k1⟩
theorem zbW.len{w:World}{bm:Nat}{l:List It}(h:zbW w bm l)(ty:TypeId):(Builtin.len_ #[239] ty #[.map (some bm)]).run Tryz.prog w=.ok (.int .i64 (zbf l)) w:=by
 obtain⟨D,hD,hR⟩:=h;rw[hD.len Tryz.underlying239 ty,hR.size]
theorem zoC:laidOutB Tryz.prog=true:=by kernel_rfl
theorem zoi:(93:TypeId)<Tryz.prog.types.size:=of_decide_eq_true (by kernel_rfl)
theorem znA:(match Tryz.prog.underlying 93 with|some (.array _ _)|some (.struct _)=>true|_=>false)=true:=by rw[Tryz.underlying93]
theorem zq1:Keyed Tryz.prog 93:=Keyed.of_law (deep_law_laid zoC (m:=3) (by omega) zoi (by kernel_rfl) znA)
theorem zn8:Tryz.prog.keyType 93=true:=by kernel_rfl
theorem zmM:Tryz.prog.cellsOf 93=4:=by kernel_rfl
theorem zmY:Tryz.prog.cellsOf 91=3:=by kernel_rfl
theorem zsk:Tryz.prog.cellsOf 3=1:=by kernel_rfl
theorem zqM:Tryz.prog.cellsOf 9=1:=by kernel_rfl
def itV(x:It):Value:=.agg #[.string x.name,.int .i64 x.a,.int .i64 x.b,.int .i64 x.c]
def zoV(x:It):Prop:=x.name.size<=100000/\(0<=x.a/\x.a<=999)/\(0<=x.b/\x.b<=999)/\0<=x.c/\x.c<=999
def zhJ(x:It):Lit:=.string (keyBytes [.string x.name.data.toList,.int .i64 x.a,.int .i64 x.b,.int .i64 x.c])
theorem zuh{m:Int}(h:0<=m/\m<=999):(Lit.int .i64 m).wf=true:=by
 simp[Lit.wf,IntKind.min,IntKind.max,IntKind.signed,IntKind.bits];omega
theorem zqU(d:Nat){m:Int}(h:0<=m/\m<=999):Tryz.prog.keyLits (d+1) 3 [.int .i64 m]=some [.int .i64 m]:=by
 unfold Program.keyLits;rw[Tryz.underlying3];simp[zuh h]
theorem ztA(d:Nat){s:ByteArray}(h:s.size<=100000):Tryz.prog.keyLits (d+1) 9 [.string s]=some [.string s.data.toList]:=by
 unfold Program.keyLits;rw[Tryz.underlying9];have h2:s.size<=maxLen:=by unfold maxLen;omega
 simp[h2]
theorem ztK(d:Nat){a b c:Int}(ha:0<=a/\a<=999)(hb:0<=b/\b<=999)(hc:0<=c/\c<=999):Tryz.prog.keyLits (d+2) 91 [.int .i64 a,.int .i64 b,.int .i64 c]=some [.int .i64 a,.int .i64 b,.int .i64 c]:=by
 unfold Program.keyLits;rw[Tryz.underlying91];have e:List.range 3=[0,1,2]:=rfl;simp[zmY,zsk,e,zqU d ha,zqU d hb,zqU d hc]
theorem zpp(x:It)(h:zoV x):keyOf Tryz.prog 93 (itV x)=some (zhJ x):=by
 have hf:(itV x).formed Tryz.prog 93=true:=by simp[Value.formed,Tryz.underlying93,zmM,itV]
 unfold keyOf;rw[Tryz.underlying93];simp only[zn8,hf,Bool.and_self,if_true];obtain⟨d,hd⟩:∃d,Tryz.prog.types.size+1=d+3:=⟨Tryz.prog.types.size-2,by have:3<Tryz.prog.types.size:=of_decide_eq_true (by kernel_rfl);omega⟩;rw[hd];have hc:(itV x).cells.toList=[.string x.name,.int .i64 x.a,.int .i64 x.b,.int .i64 x.c]:=rfl;rw[hc];unfold Program.keyLits;rw[Tryz.underlying93];simp[zmM,zmY,zqM,ztA (d+1) h.1,ztK d h.2.1 h.2.2.1 h.2.2.2,zhJ]
theorem znp{x y:It}(hx:zoV x)(hy:zoV y)(h:zhJ x=zhJ y):x=y:=by
 have:=zq1.inj (zpp x hx) (h▸zpp y hy);obtain⟨n,a,b,c⟩:=x;obtain⟨n',a',b',c'⟩:=y;simp[itV] at this;obtain⟨rfl,rfl,rfl,rfl⟩:=this;rfl
def zh0(l:List It):List (It × Unit):=l.map fun s=>(s,())
theorem zh1(l:List It):(zh0 l).map Prod.fst=l:=by unfold zh0;rw[List.map_map];simp[Function.comp_def]
def ztV(D:DataW Unit)(l:List It):Prop:=Rep zoV zhJ (fun _:Unit=>.lit (.bool true)) D (zh0 l)
def zbA(w:World)(bm:Nat)(l:List It):Prop:=∃D,w.ownsMap Tryz.prog 93 zcX bm l.length D/\ztV D l
theorem zbA.lt{w:World}{bm:Nat}{l:List It}(h:zbA w bm l):bm<w.heap.size:=by obtain⟨D,hD,_⟩:=h;exact hD.lt
theorem zbA.made(w:World):zbA (w.alloc (.map #[] 0)) w.heap.size []:=⟨.map [],World.ownsMap_made w _ _ _,Rep.empty⟩
theorem zbA.block{w w':World}{bm:Nat}{l:List It}(h:zbA w bm l)(hb:w'.heap[bm]?=w.heap[bm]?):zbA w' bm l:=by
 obtain⟨D,⟨es,clock,h1,h2⟩,hR⟩:=h;exact⟨D,⟨es,clock,hb.trans h1,h2⟩,hR⟩
theorem zbA.below{B:Nat}{w w':World}{bm:Nat}{l:List It}(h:zbA w bm l)(hb:Below B w w')(hB:w.heap.size<=B):zbA w' bm l:=by
 obtain⟨D,h1,h2⟩:=h;exact⟨D,zbz h1 (hb.mono hB),h2⟩
theorem zbA.look{w:World}{bm:Nat}{l:List It}(h:zbA w bm l){x:It}(hx:zoV x) :
  (Instr.lookup 240 (.map (some bm)) (.agg #[.string x.name,.int .i64 x.a,.int .i64 x.b,.int .i64 x.c]) false).run Tryz.prog w=.ok (.bool (decide (x∈l))) w:=by
 obtain⟨D,hD,hR⟩:=h;obtain⟨v,ps,hrun,hv⟩:=hD.lookup zq1 Tryz.underlying240 (zfa w) (zbu false) (zpp x hx)
 by_cases hm:x∈l
 ·rw[show D.atKey (zhJ x) (.lit (.bool false))=.lit (.bool true) from hR.at' (x,()) (by unfold zh0;exact List.mem_map.2 ⟨x,hm,rfl⟩) _] at hv;rw[zce hv] at hrun;rw[decide_eq_true hm];exact hrun
 ·have hn:Maps.has D (zhJ x)=false:=Rep.not hR hx (by rw[zh1];exact hm);rw[atKey_of_not_has hn] at hv;rw[zce hv] at hrun;rw[decide_eq_false hm];exact hrun
theorem zbA.put{w:World}{bm:Nat}{l:List It}(h:zbA w bm l)(hl:l.length<1000000){x:It}(hx:zoV x)(hn:x∉l) :
  ∃w',(Instr.mapUpdate 240 (.map (some bm)) (.agg #[.string x.name,.int .i64 x.a,.int .i64 x.b,.int .i64 x.c]) (.bool true)).run Tryz.prog w=.ok () w'/\zbA w' bm (l++[x])/\w.grownBy w' (some bm):=by
 obtain⟨D,hD,hR⟩:=h;obtain⟨w',hrun,g1,k1⟩:=hD.update zq1 Tryz.underlying240 (by unfold maxLen;omega) (zpp x hx) (zbu true);have hR1:ztV (D.put (zhJ x) (.lit (.bool true))) (l++[x]):=by
  have:=Rep.put hR (fun a b ha hb e=>znp ha hb e) (fun _=>trivial) hx (by rw[zh1];exact hn) ();show Rep _ _ _ _ (zh0 (l++[x]));unfold zh0 at *;rw[List.map_append];exact this
 refine⟨w',hrun,⟨_,?_,hR1⟩,k1⟩;have h2:=hR1.size;unfold zh0 at h2;rw[List.length_map] at h2;exact h2▸zbK g1
theorem zbA.len{w:World}{bm:Nat}{l:List It}(h:zbA w bm l)(ty:TypeId):(Builtin.len_ #[240] ty #[.map (some bm)]).run Tryz.prog w=.ok (.int .i64 l.length) w:=by
 obtain⟨D,hD,hR⟩:=h;rw[hD.len Tryz.underlying240 ty,hR.size,zh0,List.length_map]
theorem zbW.ne{w:World}{bm b:Nat}{l:List It}{t:TypeId}{cs:Array Value}(h:zbW w bm l)(hb:Blk w b t cs):bm≠b:=by
 rintro rfl;obtain⟨D,⟨es,clock,h1,_⟩,_⟩:=h;have:=h1.symm.trans hb;cases this
theorem zbA.ne{w:World}{bm b:Nat}{l:List It}{t:TypeId}{cs:Array Value}(h:zbA w bm l)(hb:Blk w b t cs):bm≠b:=by
 rintro rfl;obtain⟨D,⟨es,clock,h1,_⟩,_⟩:=h;have:=h1.symm.trans hb;cases this
end
section
open Go.RowKit Go.Maps
def U64(x:Int):Prop:=0<=x/\x<=18446744073709551615
theorem zuo{x:Int}(h:U64 x):(Lit.int .u64 x).wf=true:=by
 unfold U64 at h;simp[Lit.wf,IntKind.min,IntKind.max,IntKind.signed,IntKind.bits];omega
theorem zro:Keyed Tryz.prog 3:=int_keyed Tryz.underlying3
theorem zsa{x:Int}(h:I64 x):keyOf Tryz.prog 3 (.int .i64 x)=some (.int .i64 x):=keyOf_int_mk Tryz.underlying3 (ztw h)
theorem zs2:Keyed Tryz.prog 48:=int_keyed Tryz.underlying48
theorem zsx{x:Int}(h:U64 x):keyOf Tryz.prog 48 (.int .u64 x)=some (.int .u64 x):=keyOf_int_mk Tryz.underlying48 (zuo h)
def IBm(w:World)(bm:Nat)(L:List (Int × Bool)):Prop:=∃D,w.ownsMap Tryz.prog 3 zcX bm L.length D/\Rep I64 (fun x=>Lit.int .i64 x) (fun b:Bool=>.lit (.bool b)) D L
def UBm(w:World)(bm:Nat)(L:List (Int × Bool)):Prop:=∃D,w.ownsMap Tryz.prog 48 zcX bm L.length D/\Rep U64 (fun x=>Lit.int .u64 x) (fun b:Bool=>.lit (.bool b)) D L
section
variable {w w':World} {bm:Nat} {L:List (Int × Bool)}
theorem UBm.lt(h:UBm w bm L):bm<w.heap.size:=by obtain⟨D,hD,_⟩:=h;exact hD.lt
theorem IBm.below(h:IBm w bm L)(hb:zB w w'):IBm w' bm L:=by obtain⟨D,hD,hR⟩:=h;exact⟨D,zbz hD hb,hR⟩
theorem UBm.below(h:UBm w bm L)(hb:zB w w'):UBm w' bm L:=by obtain⟨D,hD,hR⟩:=h;exact⟨D,zbz hD hb,hR⟩
theorem IBm.made(w:World):IBm (w.alloc (.map #[] 0)) w.heap.size []:=⟨.map [],World.ownsMap_made w _ _ _,Rep.empty⟩
theorem UBm.made(w:World):UBm (w.alloc (.map #[] 0)) w.heap.size []:=⟨.map [],World.ownsMap_made w _ _ _,Rep.empty⟩
theorem UBm.far{r:Option Nat}(h:UBm w bm L)(hg:w.grownBy w' r)(hr:r≠some bm):UBm w' bm L:=by
 obtain⟨D,⟨es,clock,h1,h2⟩,hR⟩:=h;exact⟨D,⟨es,clock,(hg.block bm (Array.getElem?_eq_some_iff.1 h1).1 (fun e=>hr e.symm)).trans h1,h2⟩,hR⟩
theorem IBm.look(h:IBm w bm L){p:Int × Bool}(hp:p∈L):(Instr.lookup 198 (.map (some bm)) (.int .i64 p.1) false).run Tryz.prog w=.ok (.bool p.2) w:=by
 obtain⟨D,hD,hR⟩:=h;obtain⟨v,ps,hrun,hv⟩:=hD.lookup zro Tryz.underlying198 (zfa w) (zbu false) (zsa (Rep.oks hR p hp));rw[Rep.at' hR p hp] at hv;rw[zce hv] at hrun;exact hrun
theorem IBm.none(h:IBm w bm L){x:Int}(hx:I64 x)(hn:x∉L.map Prod.fst):(Instr.lookup 198 (.map (some bm)) (.int .i64 x) false).run Tryz.prog w=.ok (.bool false) w:=by
 obtain⟨D,hD,hR⟩:=h;obtain⟨v,ps,hrun,hv⟩:=hD.lookup zro Tryz.underlying198 (zfa w) (zbu false) (zsa hx);rw[atKey_of_not_has (Rep.not hR hx hn)] at hv;rw[zce hv] at hrun;exact hrun
theorem UBm.look(h:UBm w bm L){p:Int × Bool}(hp:p∈L):(Instr.lookup 224 (.map (some bm)) (.int .u64 p.1) false).run Tryz.prog w=.ok (.bool p.2) w:=by
 obtain⟨D,hD,hR⟩:=h;obtain⟨v,ps,hrun,hv⟩:=hD.lookup zs2 Tryz.underlying224 (zfa w) (zbu false) (zsx (Rep.oks hR p hp));rw[Rep.at' hR p hp] at hv;rw[zce hv] at hrun;exact hrun
theorem IBm.put(h:IBm w bm L)(hl:L.length<1000000){a:Int}(ha:I64 a)(hn:a∉L.map Prod.fst)(b:Bool):∃w',(Instr.mapUpdate 198 (.map (some bm)) (.int .i64 a) (.bool b)).run Tryz.prog w=.ok () w'/\IBm w' bm (L++[(a,b)])/\w.grownBy w' (some bm):=by
 obtain⟨D,hD,hR⟩:=h;obtain⟨w',hrun,h1,h2⟩:=hD.update zro Tryz.underlying198 (by unfold maxLen;omega) (zsa ha) (zbu b);have hR':=Rep.put hR (fun a b _ _ e=>by injection e) (fun _=>trivial) ha hn b;exact⟨w',hrun,⟨_,hR'.size▸zbK h1,hR'⟩,h2⟩
theorem UBm.put(h:UBm w bm L)(hl:L.length<1000000){a:Int}(ha:U64 a)(hn:a∉L.map Prod.fst)(b:Bool):∃w',(Instr.mapUpdate 224 (.map (some bm)) (.int .u64 a) (.bool b)).run Tryz.prog w=.ok () w'/\UBm w' bm (L++[(a,b)])/\w.grownBy w' (some bm):=by
 obtain⟨D,hD,hR⟩:=h;obtain⟨w',hrun,h1,h2⟩:=hD.update zs2 Tryz.underlying224 (by unfold maxLen;omega) (zsx ha) (zbu b);have hR':=Rep.put hR (fun a b _ _ e=>by injection e) (fun _=>trivial) ha hn b;exact⟨w',hrun,⟨_,hR'.size▸zbK h1,hR'⟩,h2⟩
end
end
section
open Go.RowKit
def tv(told:List Int)(i:Nat):Int:=if ((i:Int)+1)∈told then 1 else if -((i:Int)+1)∈told then -1 else 0
def zbR(told:List Int)(x:Int):Int:=if x∈told then 1 else if -x∈told then -1 else 0
def zeo(told:List Int):Prop:=∀x∈told,-x∉told
def zfA(v:Int)(xs:List Int):Prop:=∀x∈xs,zdC v x=true
theorem zaw{v x:Int}:zdC v x=true↔x≠0/\-v<=x/\x<=v:=by simp[zdC]
theorem zoS(told:List Int)(t:Nat):zbR told ((t:Int)+1)=tv told t:=rfl
theorem zpB{told:List Int}(hc:zeo told)(t:Nat):zbR told (-((t:Int)+1))=- tv told t:=by
 unfold zbR tv;rw[Int.neg_neg]
 by_cases h1:((t:Int)+1)∈told
 ·have h2:=hc _ h1;rw[if_pos h1,if_neg h2,if_pos h1]
 ·by_cases h2:-((t:Int)+1)∈told
  ·rw[if_pos h2,if_neg h1,if_pos h2];rfl
  ·rw[if_neg h2,if_neg h1,if_neg h1,if_neg h2];rfl
theorem zo6(told:List Int)(t:Nat):-1<=tv told t/\tv told t<=1:=by
 unfold tv;split
 ·omega
 ·split<;>omega
theorem zj7(told:List Int)(x:Int):zbR told x=-1\/zbR told x=0\/zbR told x=1:=by
 unfold zbR;split
 ·omega
 ·split<;>omega
theorem zfs{told:List Int}{x:Int}:zbR told x=0↔x∉told/\-x∉told:=by
 unfold zbR
 by_cases h1:x∈told
 ·simp[h1]
 ·by_cases h2:-x∈told
  ·simp[h1,h2]
  ·simp[h1,h2]
theorem zhj{told:List Int}{x:Int}:0<zbR told x↔x∈told:=by
 unfold zbR
 by_cases h1:x∈told
 ·simp[h1]
 ·by_cases h2:-x∈told<;>simp[h1,h2]
theorem zmB{told:List Int}(hc:zeo told){x:Int}:0<=zbR told x↔-x∉told:=by
 unfold zbR
 by_cases h1:x∈told
 ·have:=hc x h1;simp[h1,this]
 ·by_cases h2:-x∈told<;>simp[h1,h2]
def zeZ(told:List Int)(one x:Int):Bool:=decide (0<zbR told x)||(decide (zbR told x=0)&&x != one)
def zbt(told:List Int)(c:List Int):Int × Bool :=
 if zix (fun x=>decide (0<=zbR told x)) c<0 then (0,true)
 else if (c.drop (zix (fun x=>decide (0<=zbR told x)) c).toNat).any (zeZ told (c.getD (zix (fun x=>decide (0<=zbR told x)) c).toNat 0)) then (0,false)
 else (c.getD (zix (fun x=>decide (0<=zbR told x)) c).toNat 0,true)
theorem zeT{α:Type}(p:α->Bool)(xs:List α)(d:α):(zix p xs=-1/\∀x∈xs,p x=false)\/∃k:Nat,zix p xs=(k:Int)/\k<xs.length/\p (xs.getD k d)=true/\∀x∈xs.take k,p x=false:=by
 unfold zix;cases h:xs.findIdx? p with
 |none=>exact Or.inl ⟨rfl,fun x hx=>by simpa using List.findIdx?_eq_none_iff.1 h x hx⟩
 |some k =>rw[List.findIdx?_eq_some_iff_getElem] at h;obtain⟨hk,hp,hj⟩:=h;refine Or.inr ⟨k,rfl,hk,by rw[List.getD_eq_getElem?_getD,List.getElem?_eq_getElem hk];exact hp,fun x hx=>?_⟩;obtain⟨j,hjk,rfl⟩:=List.getElem_of_mem hx;rw[List.length_take] at hjk;rw[List.getElem_take];simpa using hj j (by omega)
inductive zik (told c:List Int):Int × Bool->Prop
 |none (h:∀x∈c,x∉told/\-x∈told):zik told c (0,true)
 |one {x:Int} (hx:x∈c) (h0:x∉told) (h1:-x∉told) (h:∀y∈c,y≠x->y∉told/\-y∈told):zik told c (x,true)
 |held {x:Int} (hx:x∈c) (h:x∈told):zik told c (0,false)
 |two {x y:Int} (hx:x∈c) (hy:y∈c) (hne:x≠y) (h0:x∉told) (h1:-x∉told) (h2:y∉told) (h3:-y∉told):zik told c (0,false)
theorem ziN{told c:List Int}(hc:zeo told):zik told c (zbt told c):=by
 unfold zbt;have hng:∀x,(decide (0<=zbR told x))=false↔-x∈told:=fun x=>by
  rw[decide_eq_false_iff_not,zmB hc,Classical.not_not]
 have hnt:∀x,-x∈told->x∉told:=fun x h h2=>hc x h2 h;rcases zeT (fun x=>decide (0<=zbR told x)) c 0 with ⟨hi,h⟩|⟨k,hi,hk,hp,hl⟩
 ·rw[hi,if_pos (by omega)];exact .none fun x hx=>⟨hnt x ((hng x).1 (h x hx)),(hng x).1 (h x hx)⟩
 ·rw[hi,if_neg (by omega),Int.toNat_natCast];have hm:c.getD k 0∈c:=zaV hk;have hpo:-(c.getD k 0)∉told:=(zmB hc).1 (of_decide_eq_true hp)
  by_cases hany:(c.drop k).any (zeZ told (c.getD k 0))=true
  ·rw[if_pos hany];obtain⟨y,hy,hmo⟩:=List.any_eq_true.1 hany;have hyc:=List.mem_of_mem_drop hy;unfold zeZ at hmo;rw[Bool.or_eq_true,Bool.and_eq_true] at hmo;rcases hmo with h1|⟨h1,h2⟩
   ·exact .held hyc (zhj.1 (of_decide_eq_true h1))
   ·have h3:=zfs.1 (of_decide_eq_true h1)
    by_cases hot:c.getD k 0∈told
    ·exact .held hm hot
    ·exact .two hm hyc (fun e=>by rw[<-e,bne_self_eq_false] at h2;cases h2) hot hpo h3.1 h3.2
  ·rw[if_neg hany];have hany':∀y∈c.drop k,zeZ told (c.getD k 0) y=false:=fun y hy=>by
    cases hh:zeZ told (c.getD k 0) y with
    |false=>rfl
    |true=>exact absurd (List.any_eq_true.2 ⟨y,hy,hh⟩) hany
   have hot:c.getD k 0∉told:=fun h=>by
    have:=hany' (c.getD k 0) (by
     rw[List.getD_eq_getElem?_getD,List.getElem?_eq_getElem hk];exact List.mem_drop_iff_getElem.2 ⟨0,by omega,by simp⟩)
    unfold zeZ at this;rw[Bool.or_eq_false_iff] at this;exact(of_decide_eq_false this.1) (zhj.2 h)
   refine .one hm hot hpo fun y hy hne=>?_;rw[<-List.take_append_drop k c,List.mem_append] at hy;rcases hy with hy|hy
   ·have:=(hng y).1 (hl y hy);exact⟨hnt y this,this⟩
   ·have:=hany' y hy;unfold zeZ at this;rw[Bool.or_eq_false_iff,Bool.and_eq_false_iff] at this;have h1:=of_decide_eq_false this.1;have h2:zbR told y≠0:=by
     rcases this.2 with h|h
     ·exact of_decide_eq_false h
     ·simp at h;exact absurd h hne
    have h3:-y∈told:=by
     by_cases hm:-y∈told
     ·exact hm
     ·exact absurd (zfs.2 ⟨fun h=>h1 (zhj.2 h),hm⟩) h2
    exact⟨hnt y h3,h3⟩
def zaM(told:List Int)(l:List (List Int)):Int × Int :=
 match l.findIdx? (fun c=>(zbt told c).2) with|some i=>((i:Int),(zbt told (l.getD i [])).1)|none=>(-1,0)
theorem zig{told:List Int}{l:List (List Int)}{k:Nat}(h0:∀j,j<k->(zbt told (l.getD j [])).2=false)(hk:k<l.length)(h1:(zbt told (l.getD k [])).2=true):zaM told l=((k:Int),(zbt told (l.getD k [])).1):=by
 have:l.findIdx? (fun c=>(zbt told c).2)=some k:=by
  rw[List.findIdx?_eq_some_iff_getElem];refine⟨hk,?_,fun j hj=>?_⟩
  ·rw[List.getD_eq_getElem?_getD,List.getElem?_eq_getElem hk] at h1;exact h1
  ·have:=h0 j hj;rw[List.getD_eq_getElem?_getD,List.getElem?_eq_getElem (by omega)] at this;simpa using this
 unfold zaM;rw[this]
theorem zgy{told:List Int}{l:List (List Int)}(h0:∀j,j<l.length->(zbt told (l.getD j [])).2=false):zaM told l=(-1,0):=by
 have:l.findIdx? (fun c=>(zbt told c).2)=none:=by
  rw[List.findIdx?_eq_none_iff];intro x hx;obtain⟨j,hj,rfl⟩:=List.getElem_of_mem hx;have:=h0 j hj;rw[List.getD_eq_getElem?_getD,List.getElem?_eq_getElem hj] at this;simpa using this
 unfold zaM;rw[this]
inductive zhR (told:List Int) (l:List (List Int)):Int × Int->Prop
 |none (h:∀c∈l,(∃x∈c,x∈told)\/∃x∈c,∃y∈c,x≠y/\x∉told/\-x∉told/\y∉told/\-y∉told):zhR told l (-1,0)
 |bad {k:Nat} (hk:k<l.length) (h:∀x∈l.getD k [],x∉told/\-x∈told):zhR told l ((k:Int),0)
 |one {k:Nat} {x:Int} (hk:k<l.length) (hx:x∈l.getD k []) (h0:x∉told) (h1:-x∉told) (h:∀y∈l.getD k [],y≠x->y∉told/\-y∈told):zhR told l ((k:Int),x)
theorem zd1{told:List Int}{l:List (List Int)}(hc:zeo told):zhR told l (zaM told l):=by
 unfold zaM;cases h:l.findIdx? (fun c=>(zbt told c).2) with
 |none =>
  rw[List.findIdx?_eq_none_iff] at h;refine .none fun c hcl=>?_;have h1:=h c hcl;have h2:=ziN (c:=c) hc;generalize zbt told c=r at *;cases h2 with
  |none=>simp at h1
  |one=>simp at h1
  |held hx h=>exact Or.inl ⟨_,hx,h⟩
  |two hx hy hne q0 q1 q2 q3=>exact Or.inr ⟨_,hx,_,hy,hne,q0,q1,q2,q3⟩
 |some k =>
  rw[List.findIdx?_eq_some_iff_getElem] at h;obtain⟨hk,hp,-⟩:=h;have e:l.getD k []=l[k]:=by rw[List.getD_eq_getElem?_getD,List.getElem?_eq_getElem hk];rfl
  rw[<-e] at hp;have h2:=ziN (c:=l.getD k []) hc;show zhR told l ((k:Int),(zbt told (l.getD k [])).1);generalize zbt told (l.getD k [])=r at *;cases h2 with
  |none h=>exact .bad hk h
  |one hx h0 h1 h=>exact .one hk hx h0 h1 h
  |held=>simp at hp
  |two=>simp at hp
inductive zcx (l:List (List Int)):List Int->List Int->Int->Prop
 |stop {told:List Int} {i:Int} (h:zaM told l=(i,0)):zcx l told told i
 |step {told t:List Int} {i x b:Int} (h:zaM told l=(i,x)) (hx:x≠0) (hs:zcx l (told++[x]) t b):zcx l told t b
theorem zcx.at_stop{l:List (List Int)}{told t:List Int}{i b:Int}(h:zcx l told t b)(hn:zaM told l=(i,0)):t=told/\b=i:=by
 cases h with
 |stop h=>rw[hn] at h;cases h;exact⟨rfl,rfl⟩
 |step h hx _=>rw[hn] at h;cases h;exact absurd rfl hx
theorem zcx.at_step{l:List (List Int)}{told t:List Int}{i x b:Int}(h:zcx l told t b)(hn:zaM told l=(i,x))(hx:x≠0):zcx l (told++[x]) t b:=by
 cases h with
 |stop h=>rw[hn] at h;cases h;exact absurd rfl hx
 |step h _ hs=>rw[hn] at h;cases h;exact hs
def zeJ(told:List Int):Nat:=(List.range 24).countP (fun i=>tv told i==0)
theorem zmT{p q:Nat->Bool}{l:List Nat}(h:∀x∈l,q x=true->p x=true){j:Nat}(hj:j∈l)(hp:p j=true)(hq:q j=false):l.countP q<l.countP p:=by
 induction l with
 |nil=>cases hj
 |cons a l ih =>
  have hle:l.countP q<=l.countP p:=List.countP_mono_left fun x hx=>h x (List.mem_cons_of_mem _ hx);rw[List.countP_cons,List.countP_cons]
  by_cases e:a=j
  ·subst e;rw[hp,hq];simp;omega
  ·have:=ih (fun x hx=>h x (List.mem_cons_of_mem _ hx)) (by cases hj with|head=>exact absurd rfl e|tail _ h=>exact h);have ha:=h a (List.mem_cons_self);cases hqa:q a with
   |true=>rw[ha hqa];simp;omega
   |false=>cases p a<;>simp<;>omega
theorem zl7{told:List Int}{x:Int}(hn:-x∉told)(i:Nat):tv (told++[x]) i=if (i:Int)+1=x then 1 else if (i:Int)+1=-x then -1 else tv told i:=by
 unfold tv;simp only[List.mem_append,List.mem_singleton]
 by_cases h1:(i:Int)+1=x
 ·rw[if_pos (Or.inr h1),if_pos h1]
 ·rw[if_neg h1]
  by_cases h2:(i:Int)+1=-x
  ·have h0:(i:Int)+1∉told:=by rw[h2];exact hn
   rw[if_pos h2,if_neg (by rintro (h|h);exact h0 h;exact h1 h),if_pos (Or.inr (by omega))]
  ·rw[if_neg h2];have h3:¬-((i:Int)+1)=x:=by omega
   have e1:((i:Int)+1∈told\/(i:Int)+1=x)↔(i:Int)+1∈told:=⟨fun h=>h.resolve_right h1,Or.inl⟩;have e2:(-((i:Int)+1)∈told\/-((i:Int)+1)=x)↔-((i:Int)+1)∈told:=⟨fun h=>h.resolve_right h3,Or.inl⟩;simp only[e1,e2]
theorem zdN{told:List Int}{i:Nat}:tv told i=0↔(i:Int)+1∉told/\-((i:Int)+1)∉told:=by
 show zbR told ((i:Int)+1)=0↔_;exact zfs
theorem zcu{told:List Int}{x:Int}(hl:zdC 24 x=true)(h0:x∉told)(h1:-x∉told):zeJ (told++[x])<zeJ told:=by
 rw[zaw] at hl;have ht:=zl7 h1;unfold zeJ;refine zmT (j:=(if 0<x then x else -x).toNat-1) (fun i _ hi=>?_) (List.mem_range.2 (by split<;>omega)) ?_ ?_
 ·have hi':tv (told++[x]) i=0:=by simpa using hi
  rw[ht] at hi'
  by_cases e1:(i:Int)+1=x
  ·rw[if_pos e1] at hi';cases hi'
  ·by_cases e2:(i:Int)+1=-x
   ·rw[if_neg e1,if_pos e2] at hi';cases hi'
   ·rw[if_neg e1,if_neg e2] at hi';simpa using hi'
 ·have:tv told ((if 0<x then x else -x).toNat-1)=0:=by
   rw[zdN]
   by_cases hp:0<x
   ·rw[if_pos hp,show ((x.toNat-1:Nat):Int)+1=x by omega];exact⟨h0,h1⟩
   ·rw[if_neg hp,show (((-x).toNat-1:Nat):Int)+1=-x by omega,Int.neg_neg];exact⟨h1,h0⟩
  simpa using this
 ·have:tv (told++[x]) ((if 0<x then x else -x).toNat-1)≠0:=by
   rw[ht]
   by_cases hp:0<x
   ·rw[if_pos hp,if_pos (by omega)];omega
   ·rw[if_neg hp,if_neg (by omega),if_pos (by omega)];omega
  simpa using this
theorem zfM{told:List Int}{x:Int}(hc:zeo told)(hx:x≠0)(h1:-x∉told):zeo (told++[x]):=by
 intro y hy hn;simp only[List.mem_append,List.mem_singleton] at hy hn;rcases hy with hy|hy
 ·rcases hn with hn|hn
  ·exact hc y hy hn
  ·exact h1 (by rw[show -x=y by omega];exact hy)
 ·rcases hn with hn|hn
  ·rw[hy] at hn;exact h1 hn
  ·omega
theorem zfK{v:Int}{told:List Int}{x:Int}(hc:zfA v told)(hx:zdC v x=true):zfA v (told++[x]):=by
 intro y hy;simp only[List.mem_append,List.mem_singleton] at hy;rcases hy with hy|hy
 ·exact hc y hy
 ·rw[hy];exact hx
theorem zoH:zeo []:=fun x hx=>by cases hx
theorem zoR(v:Int):zfA v []:=fun x hx=>by cases hx
def zcc(v:Int)(l:List (List Int)):Prop:=∀c∈l,zfA v c
theorem zen{v x:Int}(hv:v<=24)(h:zdC v x=true):zdC 24 x=true:=by
 rw[zaw] at *;omega
theorem znu{l:List (List Int)}{v:Int}(hv:v<=24)(hl:zcc v l):∀(n:Nat) (told:List Int),zeJ told<=n->zeo told->zfA v told->∃t b,zcx l told t b:=by
 intro n
 induction n with
 |zero =>
  intro told hf hc hs;have hn:=zd1 (l:=l) hc;generalize e:zaM told l=r at hn;cases hn with
  |none=>exact⟨_,_,.stop e⟩
  |bad=>exact⟨_,_,.stop e⟩
  |one hk hx h0 h1 _ =>have:=zcu (zen hv (hl _ (zaV hk) _ hx)) h0 h1;omega
 |succ n ih =>
  intro told hf hc hs;have hn:=zd1 (l:=l) hc;generalize e:zaM told l=r at hn;cases hn with
  |none=>exact⟨_,_,.stop e⟩
  |bad=>exact⟨_,_,.stop e⟩
  |one hk hx h0 h1 _ =>have hlx:=hl _ (zaV hk) _ hx;have hx0:=(zaw.1 hlx).1;have:=zcu (zen hv hlx) h0 h1;obtain⟨t,b,hs⟩:=ih _ (by omega) (zfM hc hx0 h1) (zfK hs hlx);exact⟨t,b,.step e hx0 hs⟩
theorem zdj{l:List (List Int)}{v:Int}(hl:zcc v l){told:List Int}(hc:zeo told)(hs:zfA v told){i x:Int}(e:zaM told l=(i,x))(hx:x≠0):zdC v x=true/\x∉told/\-x∉told/\zeo (told++[x])/\zfA v (told++[x]):=by
 have hn:=zd1 (l:=l) hc;rw[e] at hn;cases hn with
 |none=>exact absurd rfl hx
 |bad=>exact absurd rfl hx
 |one hk hxc h0 h1 _ =>have hlx:=hl _ (zaV hk) _ hxc;exact⟨hlx,h0,h1,zfM hc hx h1,zfK hs hlx⟩
end
section
open Go.RowKit
theorem zmR{m:Nat}(h:m<2^24){i:Nat}(hi:24<=i):m.testBit i=false:=Nat.testBit_lt_two_pow (Nat.lt_of_lt_of_le h (Nat.pow_le_pow_right (by omega) hi))
def zcB(m v:Nat):Nat:=m^^^(m&&&2^v)
theorem zgF(m v i:Nat):(zcB m v).testBit i=(m.testBit i&&!decide (v=i)):=by
 unfold zcB;rw[Nat.testBit_xor,Nat.testBit_and,Nat.testBit_two_pow];cases m.testBit i<;>by_cases hj:v=i<;>simp[hj]
theorem zs8{m v:Nat}(hm:m<2^24)(hv:v<24):m&&&(18446744073709551615-2^v)=zcB m v:=by
 apply Nat.eq_of_testBit_eq;intro i;have hp:2^v<2^64:=Nat.pow_lt_pow_right (by omega) (by omega);have e:18446744073709551615-2^v=2^64-(2^v+1):=by omega
 rw[zgF,Nat.testBit_and,e,Nat.testBit_two_pow_sub_succ hp,Nat.testBit_two_pow]
 by_cases hi:i<24
 ·rw[decide_eq_true (show i<64 by omega)];simp
 ·rw[zmR hm (by omega)];simp
end
section
open Go.RowKit Go.Deep
theorem zhO:(Tryz.prog.info? 48).map (fun i=>(i.zero,i.size,i.bytes))=some (some (.int .u64 0),1,8):=by kernel_rfl
def zbV(l:List Nat):List Value:=l.map fun n:Nat=>Value.int .u64 n
theorem zdp(l:List Nat)(x:Nat):zbV (l++[x])=zbV l++[.int .u64 x]:=by simp[zbV]
theorem zcL(w:World)(x:Value)(t:TypeId):∀(j:Nat) (u:Value),[x][j]?=some u->(w.alloc (.cells #[x] t)).cell? ((⟨w.heap.size,0,none⟩:Addr).add j)=some u:=by
 intro j u hj;have:j=0:=by have:=(List.getElem?_eq_some_iff.1 hj).1;simp at this;omega
 subst this;rw[zaB,(Blk.new w t #[x]).cell];exact hj
theorem zei(x:Int):∀u∈[Value.int .u64 x],u.oneCell'=true:=fun u hu=>by rw[List.mem_singleton] at hu;subst hu;rfl
def zt2(W0:World)(F:FuncId)(cb:Array Value)(so:Nat->Bool)(n:Nat):Prop:=∀W (x:Nat),zB W0 W->x<2^n->zR F (#[.int .u64 x]++cb) W (.bool (so x))
def zeC(n set:Nat)(so:Nat->Bool):Bool:=(List.range n).any fun k=>set.testBit k&&so (zcB set k)
def zaE(n:Nat)(so:Nat->Bool)(k:Nat):List Nat:=(List.range k).filter fun s=>so s&&!zeC n s so
theorem zi9(n:Nat)(so:Nat->Bool)(k:Nat):zaE n so (k+1)=zaE n so k++(if (so k&&!zeC n k so)=true then [k] else []):=by
 unfold zaE;rw[List.range_succ,List.filter_append];congr 1;cases h:(so k&&!zeC n k so)<;>simp[h]
theorem zeM(n:Nat)(so:Nat->Bool)(k:Nat):(zaE n so k).length<=k:=by
 unfold zaE;exact Nat.le_trans (List.length_filter_le _ _) (by simp)
theorem zqx{m v n:Nat}(hm:m<2^n):zcB m v<2^n:=Nat.lt_pow_two_of_testBit _ (fun i hi=>by rw[zgF,Nat.testBit_lt_two_pow (Nat.lt_of_lt_of_le hm (Nat.pow_le_pow_right (by omega) hi))];rfl)
theorem zkz(m k:Nat):(((m&&&2^k:Nat):Int) != 0)=m.testBit k:=by
 have h:=Nat.testBit_and m (2^k) k;rw[Nat.testBit_two_pow] at h;cases hb:m.testBit k with
 |true =>
  have:m&&&2^k≠0:=fun e=>by rw[e,hb] at h;simp at h
  simpa using this
 |false =>
  have:m&&&2^k=0:=Nat.eq_of_testBit_eq fun i=>by
   rw[Nat.testBit_and,Nat.testBit_two_pow,Nat.zero_testBit]
   by_cases e:k=i
   ·subst e;rw[hb];rfl
   ·simp[e]
  rw[this];rfl
theorem zmS(n:Nat)(hn:n<=12)(set:Nat)(hs:set<2^n)(F:FuncId)(cb:Array Value)(hent:∀args w,(callFunc F args).run Tryz.prog w=.ok (.enter F args) w)(so:Nat->Bool)(w:World)(hso:zt2 w F cb so n) :
  zR 203 #[.int .i64 n,.int .u64 set,.func (.func F) #[] cb] w (.bool (zeC n set so)):=by
 have HSO:Hid (∀W (x:Nat),zB w W->x<2^n->zR F (#[.int .u64 x]++cb) W (.bool (so x))):=hso;have h12:(2:Nat)^n<=4096:=Nat.pow_le_pow_right (n:=2) (by omega) hn;clear hso;go_enter Tryz.func203,Tryz.ntmps203;go_wp2_with fail;go_loopw [10] (fun kV wr=>∃k:Nat,k<=n/\kV=.int .i64 k/\(∀j,j<k->(set.testBit j&&so (zcB set j))=false)/\zB w wr) (fun kV _=>n-(intOf kV).toNat)
 case atStart=>exact⟨0,Nat.zero_le _,rfl,fun j h=>by omega,Below.refl _ _⟩
 case round =>
  obtain⟨k,hk,rfl,hall,hbw⟩:=hrel;have HALL:=zH hall;have HBW:=zH hbw;clear hall hbw
  by_cases hlt:k<n
  ·have hki:(k:Int)<(n:Int):=by omega
   have hk0:(0:Int)<=(k:Int):=by omega
   have hp:(2:Nat)^k<=4096:=Nat.pow_le_pow_right (n:=2) (j:=12) (by omega) (by omega);have e2:((2:Int)^k)=((2^k:Nat):Int):=by simp
   have hsh:IntKind.u64.wrap (2^k)=(2:Int)^k:=by
    rw[e2,IntKind.wrap_u64];exact Int.emod_eq_of_lt (Int.natCast_nonneg _) (by omega)
   have han:=bits_and_u64_nat set (2^k) (by omega) (by omega);have hno:=u64_andNot_nat set (2^k) (by omega) (by omega);rw[zs8 (Nat.lt_of_lt_of_le hs (Nat.pow_le_pow_right (by omega) (by omega))) (by omega)] at hno;rw[<-e2] at han hno;have hne:=zkz set k;have HOF:=zH (HSO.out _ (zcB set k) HBW.out (zqx hs));have HN1:Hid ((set.testBit k&&so (zcB set k))=false->∀j,j<k+1->(set.testBit j&&so (zcB set j))=false):=fun h j hj=>by
    by_cases e:j=k
    ·rw[e];exact h
    ·exact HALL.out j (by omega)
   have HY:Hid ((set.testBit k&&so (zcB set k))=true->zeC n set so=true):=fun h=>List.any_eq_true.2 ⟨k,List.mem_range.2 hlt,h⟩;generalize zcB set k=of at HOF HN1 HY hno;generalize (set&&&2^k)=am at *;generalize set.testBit k=tb at HN1 HY hne;clear e2 hp;cases tb with
   |false =>
    clear HOF HY;go_wp2;go_roundw
    case rel=>exact⟨k+1,hlt,by go_num,HN1.out rfl,HBW.out⟩
    case measure=>simp[intOf];omega
   |true =>
    go_wp2_with fail;refine HOF.out.mono ?_;rintro e w2 ⟨rfl,hb2⟩;have HB2:=zH (zT HBW.out hb2);clear hb2 HOF;cases hq:so of with
    |true =>have HR:=zH (HY.out (by rw[hq];rfl));clear hq;go_wp2;go_ret;exact⟨by rw[HR.out];rfl,HB2.out⟩
    |false =>
     have HR:=zH (HN1.out (by rw[hq];rfl));clear hq;go_wp2;go_roundw
     case rel=>exact⟨k+1,hlt,by go_num,HR.out,HB2.out⟩
     case measure=>simp[intOf];omega
  ·obtain rfl:k=n:=by omega
   have HF:Hid (zeC k set so=false):=by
    show _=_;unfold zeC;rw[List.any_eq_false];intro j hj;have:=HALL.out j (List.mem_range.1 hj);rw[this];simp
   clear HSO;go_wp2;go_ret;exact⟨by rw[HF.out];rfl,HBW.out⟩
theorem zjr(n:Nat)(hn:n<=12)(F:FuncId)(cb:Array Value)(hent:∀args w,(callFunc F args).run Tryz.prog w=.ok (.enter F args) w)(so:Nat->Bool)(w:World)(hso:zt2 w F cb so n) :
  zC 124 #[.int .i64 n,.func (.func F) #[] cb] w fun e w'=>∃v,e=.returned v/\w'.ownsRow w.heap.size 48 1 v (zaE n so (2^n)).length (zbV (zaE n so (2^n)))/\zB w w':=by
 obtain⟨i0,hin,hz0,hz1,hz2⟩:=info_parts zhO;have HSO:Hid (∀W (x:Nat),zB w W->x<2^n->zR F (#[.int .u64 x]++cb) W (.bool (so x))):=hso;have HWI:Hid (∀W (x:Nat),zB w W->x<2^n->zR 203 #[.int .i64 n,.int .u64 x,.func (.func F) #[] cb] W (.bool (zeC n x so))):=fun W x hW hx=>zmS n hn x hx F cb hent so W (fun W' y hW' hy=>hso W' y (zT hW hW') hy);have h12:(2:Nat)^n<=4096:=Nat.pow_le_pow_right (n:=2) (j:=12) (by omega) hn;have hsh:IntKind.u64.wrap (2^n)=((2^n:Nat):Int):=by
  rw[IntKind.wrap_u64,show ((2:Int)^n)=((2^n:Nat):Int) by simp];exact Int.emod_eq_of_lt (Int.natCast_nonneg _) (by omega)
 clear hso;generalize hN:(2^n:Nat)=N at *;clear hN;go_enter Tryz.func124,Tryz.ntmps124;go_wp2_with fail;go_loopw [5,9] (fun oV kV wr=>∃k:Nat,k<=N/\kV=.int .u64 k/\wr.ownsRow w.heap.size 48 1 oV (zaE n so k).length (zbV (zaE n so k))/\zB w wr) (fun _ kV _=>N-(intOf kV).toNat)
 case atStart=>exact⟨0,Nat.zero_le _,rfl,World.ownsRow_nil _ _ _ _,Below.refl _ _⟩
 case round =>
  obtain⟨k,hk,rfl,hrow,hbw⟩:=hrel;have HROW:=zH hrow;have HBW:=zH hbw;obtain⟨oa,oc,rfl,-⟩:=zam hrow;have hll:=zeM n so k;clear hrow hbw
  by_cases hlt:k<N
  ·have hki:(k:Int)<(N:Int):=by omega
   have hw1:IntKind.u64.wrap ((k:Int)+1)=(k:Int)+1:=by rw[IntKind.wrap_u64];omega
   have HS1:=zH (HSO.out _ k HBW.out hlt);have HST:=zH (zi9 n so k);generalize hL:(zaE n so k).length=m at *;have HL:=zH hL;clear hL;go_wp2_with fail;refine HS1.out.mono ?_;rintro e w2 ⟨rfl,hb2⟩;have hb02:=zT HBW.out hb2;have HROW2:=zH (zhc HROW.out hb2);have HB2:=zH hb02;have HW2:=zH (HWI.out w2 k hb02 hlt);clear hb2 hb02 HS1 HROW HBW;cases hq:so k with
   |false =>
    rw[hq] at HST;simp only[Bool.false_and,Bool.false_eq_true,if_false,List.append_nil] at HST;have HR8:Hid (w2.ownsRow w.heap.size 48 1 (.slice oa m oc) (zaE n so (k+1)).length (zbV (zaE n so (k+1)))):=by
     show World.ownsRow _ _ _ _ _ _ _;rw[HST.out,HL.out];exact HROW2.out
    clear HW2 HST hq;go_wp2;go_roundw
    case rel=>exact⟨k+1,hlt,by go_num,HR8.out,HB2.out⟩
    case measure=>simp[intOf];omega
   |true =>
    rw[hq] at HST;simp only[Bool.true_and] at HST;clear hq;go_wp2_with fail;refine HW2.out.mono ?_;rintro e w3 ⟨rfl,hb3⟩;have HROW3:=zH (zhc HROW2.out hb3);have HB3:=zH (zT HB2.out hb3);have hs3:=HB3.out.size;clear hb3 HROW2 HB2 HW2;cases hq:zeC n k so with
    |true =>
     rw[hq] at HST;simp only[Bool.not_true,Bool.false_eq_true,if_false,List.append_nil] at HST;have HR8:Hid (w3.ownsRow w.heap.size 48 1 (.slice oa m oc) (zaE n so (k+1)).length (zbV (zaE n so (k+1)))):=by
      show World.ownsRow _ _ _ _ _ _ _;rw[HST.out,HL.out];exact HROW3.out
     clear HST hq;go_wp2;go_roundw
     case rel=>exact⟨k+1,hlt,by go_num,HR8.out,HB3.out⟩
     case measure=>simp[intOf];omega
    |false =>
     rw[hq] at HST;simp only[Bool.not_false,if_true] at HST;clear hq;go_upto_region 6 with fail;go_wp2_with (at_builtin;refine wpList_append_own_at _ rfl _ _ 38 rfl w.heap.size 48 i0 (.int .u64 0) 1 8 Tryz.underlying38 hin hz0 hz1 hz2 rfl (by decide) _ _ _ rfl (HROW3.out.alloc _) ⟨w3.heap.size,0,none⟩ 1 1 [.int .u64 k] rfl rfl ?e1 ?e2 ?e3 ?e4 ?e5 ?_)
     try(case e1=>exact zcL _ _ _)
     case e2=>first|exact zei _|rfl
     case e3=>unfold maxLen;omega
     case e4=>omega
     case e5=>first|omega|(simp;omega)
     intro v8 w8 hown8 hgrow8 _ hloc8;have HR8:Hid (w8.ownsRow w.heap.size 48 1 v8 (zaE n so (k+1)).length (zbV (zaE n so (k+1)))):=by
      show World.ownsRow _ _ _ _ _ _ _;rw[HST.out,zdp,List.length_append,HL.out];exact hown8
     have HB8:Hid (zB w w8):=(HB3.out.alloc hs3 _).grown hgrow8 (by simp;omega) (fun k hk=>(HROW3.out.lt k hk).1);obtain⟨v8a,v8c,rfl,-⟩:=zam hown8;clear hown8 hgrow8 hloc8 HROW3 HST;go_wp2;go_roundw
     case rel=>exact⟨k+1,hlt,by go_num,HR8.out,HB8.out⟩
     case measure=>simp[intOf];omega
  ·obtain rfl:k=N:=by omega
   clear HSO HWI;go_wp2;go_ret;exact⟨_,rfl,HROW.out,HBW.out⟩
end
end Go.Proofs.YtiihalknffbjpaaGreatDoor
