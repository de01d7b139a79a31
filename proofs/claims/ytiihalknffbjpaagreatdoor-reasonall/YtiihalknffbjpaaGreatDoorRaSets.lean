/- reason: without, least. -/
import Derived.Test.YtiihalknffbjpaaGreatDoorRlChkC
set_option maxHeartbeats 2000000
set_option maxRecDepth 100000
namespace Go.Proofs.YtiihalknffbjpaaGreatDoor
section
open Go.RowKit Go.Deep Go.Maps
def Z2:Value->Option (DataW Unit × List MemPlace)
 |.bool b=>some (.lit (.bool b),[])
 |_=>none
theorem ZY(b:Bool):Z2 (.bool b)=some (.lit (.bool b),[]):=rfl
theorem YB{v:Value}{b:Bool}{ps:List MemPlace}(h:Z2 v=some (.lit (.bool b),ps)):v=.bool b:=by
 unfold Z2 at h;split at h
 ·simp at h;rw[h.1]
 ·cases h
theorem Y6(w:World):(zeroValue 4).run Tryz.prog w=.ok (.bool false) w:=by kernel_rfl
def yE(w:World)(bm:Nat)(l:List It):Prop:=∃D,w.ownsMap Tryz.prog 9 Z2 bm (qO l) D/\Zh (fun _:Unit=>.lit (.bool true)) D (Ze l) (qO l)
theorem yE.made(w:World):yE (w.alloc (.map #[] 0)) w.heap.size []:=⟨.map [],World.ownsMap_made w _ _ _,Zh.empty⟩
theorem yE.below{B:Nat}{w w':World}{bm:Nat}{l:List It}(h:yE w bm l)(hb:Below B w w')(hB:w.heap.size<=B):yE w' bm l:=by
 obtain⟨D,h1,h2⟩:=h;exact⟨D,QT h1 (hb.mono hB),h2⟩
theorem yE.lt{w:World}{bm:Nat}{l:List It}(h:yE w bm l):bm<w.heap.size:=by obtain⟨D,h1,_⟩:=h;exact h1.lt
theorem yE.block{w w':World}{bm:Nat}{l:List It}(h:yE w bm l)(hb:w'.heap[bm]?=w.heap[bm]?):yE w' bm l:=by
 obtain⟨D,⟨es,clock,h1,h2⟩,hR⟩:=h;exact⟨D,⟨es,clock,hb.trans h1,h2⟩,hR⟩
theorem yE.put{w:World}{bm:Nat}{l:List It}(h:yE w bm l)(hl:l.length<1000000){x:It}(hs:x.name.size<=100000) :
  ∃w',(Instr.mapUpdate 239 (.map (some bm)) (.string x.name) (.bool true)).run Tryz.prog w=.ok () w'/\yE w' bm (l++[x])/\w.grownBy w' (some bm):=by
 obtain⟨D,hD,hR⟩:=h;have hle:=zcp l;obtain⟨w',hrun,g1,k1⟩:=hD.update Yg Tryz.underlying239 (by unfold maxLen;omega) (Yb hs) (ZY true);have hR1:=hR.put x.name ();have e1:(fun c=>if c=x.name then some () else Ze l c)=Ze (l++[x]):=by
  funext c;unfold Ze
  by_cases h:c=x.name
  ·simp[h]
  ·simp[h]
 have e2:(if (Ze l x.name).isSome then qO l else qO l+1)=qO (l++[x]):=by
  rw[J9];unfold Ze
  by_cases h:x.name∈l.map It.name
  ·rw[if_pos h,if_pos h];rfl
  ·rw[if_neg h,if_neg h];rfl
 rw[e1,e2] at hR1;exact⟨w',hrun,⟨_,hR1.size▸QG g1,hR1⟩,k1⟩
theorem yE.len{w:World}{bm:Nat}{l:List It}(h:yE w bm l)(ty:TypeId):(Builtin.len_ #[239] ty #[.map (some bm)]).run Tryz.prog w=.ok (.int .i64 (qO l)) w:=by
 obtain⟨D,hD,hR⟩:=h;rw[hD.len Tryz.underlying239 ty,hR.size]
theorem zfZ:laidOutB Tryz.prog=true:=by kernel_rfl
theorem zd0:(93:TypeId)<Tryz.prog.types.size:=of_decide_eq_true (by kernel_rfl)
theorem zjP:(match Tryz.prog.underlying 93 with|some (.array _ _)|some (.struct _)=>true|_=>false)=true:=by rw[Tryz.underlying93]
theorem KX:Keyed Tryz.prog 93:=Keyed.of_law (deep_law_laid zfZ (m:=3) (by omega) zd0 (by kernel_rfl) zjP)
theorem zlI:Tryz.prog.keyType 93=true:=by kernel_rfl
theorem zb5:Tryz.prog.cellsOf 93=4:=by kernel_rfl
theorem zaV:Tryz.prog.cellsOf 91=3:=by kernel_rfl
theorem zh5:Tryz.prog.cellsOf 3=1:=by kernel_rfl
theorem zip:Tryz.prog.cellsOf 9=1:=by kernel_rfl
def itV(x:It):Value:=.agg #[.string x.name,.int .i64 x.a,.int .i64 x.b,.int .i64 x.c]
def ZI(x:It):Prop:=x.name.size<=100000/\(0<=x.a/\x.a<=999)/\(0<=x.b/\x.b<=999)/\0<=x.c/\x.c<=999
def ZW(x:It):Lit:=.string (keyBytes [.string x.name.data.toList,.int .i64 x.a,.int .i64 x.b,.int .i64 x.c])
theorem zgK{m:Int}(h:0<=m/\m<=999):(Lit.int .i64 m).wf=true:=by
 simp[Lit.wf,IntKind.min,IntKind.max,IntKind.signed,IntKind.bits];omega
theorem XT(d:Nat){m:Int}(h:0<=m/\m<=999):Tryz.prog.keyLits (d+1) 3 [.int .i64 m]=some [.int .i64 m]:=by
 unfold Program.keyLits;rw[Tryz.underlying3];simp[zgK h]
theorem zfI(d:Nat){s:ByteArray}(h:s.size<=100000):Tryz.prog.keyLits (d+1) 9 [.string s]=some [.string s.data.toList]:=by
 unfold Program.keyLits;rw[Tryz.underlying9];have h2:s.size<=maxLen:=by unfold maxLen;omega
 simp[h2]
theorem ziW(d:Nat){a b c:Int}(ha:0<=a/\a<=999)(hb:0<=b/\b<=999)(hc:0<=c/\c<=999):Tryz.prog.keyLits (d+2) 91 [.int .i64 a,.int .i64 b,.int .i64 c]=some [.int .i64 a,.int .i64 b,.int .i64 c]:=by
 unfold Program.keyLits;rw[Tryz.underlying91];have e:List.range 3=[0,1,2]:=rfl;simp[zaV,zh5,e,XT d ha,XT d hb,XT d hc]
theorem Xz(x:It)(h:ZI x):keyOf Tryz.prog 93 (itV x)=some (ZW x):=by
 have hf:(itV x).formed Tryz.prog 93=true:=by simp[Value.formed,Tryz.underlying93,zb5,itV]
 unfold keyOf;rw[Tryz.underlying93];simp only[zlI,hf,Bool.and_self,if_true];obtain⟨d,hd⟩:∃d,Tryz.prog.types.size+1=d+3:=⟨Tryz.prog.types.size-2,by have:3<Tryz.prog.types.size:=of_decide_eq_true (by kernel_rfl);omega⟩;rw[hd];have hc:(itV x).cells.toList=[.string x.name,.int .i64 x.a,.int .i64 x.b,.int .i64 x.c]:=rfl;rw[hc];unfold Program.keyLits;rw[Tryz.underlying93];simp[zb5,zaV,zip,zfI (d+1) h.1,ziW d h.2.1 h.2.2.1 h.2.2.2,ZW]
theorem zlj{x y:It}(hx:ZI x)(hy:ZI y)(h:ZW x=ZW y):x=y:=by
 have:=KX.inj (Xz x hx) (h▸Xz y hy);obtain⟨n,a,b,c⟩:=x;obtain⟨n',a',b',c'⟩:=y;simp[itV] at this;obtain⟨rfl,rfl,rfl,rfl⟩:=this;rfl
def ZX(l:List It):List (It × Unit):=l.map fun s=>(s,())
theorem zcc(l:List It):(ZX l).map Prod.fst=l:=by unfold ZX;rw[List.map_map];simp[Function.comp_def]
def zct(D:DataW Unit)(l:List It):Prop:=Rep ZI ZW (fun _:Unit=>.lit (.bool true)) D (ZX l)
def ye(w:World)(bm:Nat)(l:List It):Prop:=∃D,w.ownsMap Tryz.prog 93 Z2 bm l.length D/\zct D l
theorem ye.lt{w:World}{bm:Nat}{l:List It}(h:ye w bm l):bm<w.heap.size:=by obtain⟨D,hD,_⟩:=h;exact hD.lt
theorem ye.made(w:World):ye (w.alloc (.map #[] 0)) w.heap.size []:=⟨.map [],World.ownsMap_made w _ _ _,Rep.empty⟩
theorem ye.block{w w':World}{bm:Nat}{l:List It}(h:ye w bm l)(hb:w'.heap[bm]?=w.heap[bm]?):ye w' bm l:=by
 obtain⟨D,⟨es,clock,h1,h2⟩,hR⟩:=h;exact⟨D,⟨es,clock,hb.trans h1,h2⟩,hR⟩
theorem ye.below{B:Nat}{w w':World}{bm:Nat}{l:List It}(h:ye w bm l)(hb:Below B w w')(hB:w.heap.size<=B):ye w' bm l:=by
 obtain⟨D,h1,h2⟩:=h;exact⟨D,QT h1 (hb.mono hB),h2⟩
theorem ye.look{w:World}{bm:Nat}{l:List It}(h:ye w bm l){x:It}(hx:ZI x) :
  (Instr.lookup 240 (.map (some bm)) (.agg #[.string x.name,.int .i64 x.a,.int .i64 x.b,.int .i64 x.c]) false).run Tryz.prog w=.ok (.bool (decide (x∈l))) w:=by
 obtain⟨D,hD,hR⟩:=h;obtain⟨v,ps,hrun,hv⟩:=hD.lookup KX Tryz.underlying240 (Y6 w) (ZY false) (Xz x hx)
 by_cases hm:x∈l
 ·rw[show D.atKey (ZW x) (.lit (.bool false))=.lit (.bool true) from hR.at' (x,()) (by unfold ZX;exact List.mem_map.2 ⟨x,hm,rfl⟩) _] at hv;rw[YB hv] at hrun;rw[decide_eq_true hm];exact hrun
 ·have hn:Maps.has D (ZW x)=false:=Rep.not hR hx (by rw[zcc];exact hm);rw[atKey_of_not_has hn] at hv;rw[YB hv] at hrun;rw[decide_eq_false hm];exact hrun
theorem ye.put{w:World}{bm:Nat}{l:List It}(h:ye w bm l)(hl:l.length<1000000){x:It}(hx:ZI x)(hn:x∉l) :
  ∃w',(Instr.mapUpdate 240 (.map (some bm)) (.agg #[.string x.name,.int .i64 x.a,.int .i64 x.b,.int .i64 x.c]) (.bool true)).run Tryz.prog w=.ok () w'/\ye w' bm (l++[x])/\w.grownBy w' (some bm):=by
 obtain⟨D,hD,hR⟩:=h;obtain⟨w',hrun,g1,k1⟩:=hD.update KX Tryz.underlying240 (by unfold maxLen;omega) (Xz x hx) (ZY true);have hR1:zct (D.put (ZW x) (.lit (.bool true))) (l++[x]):=by
  have:=Rep.put hR (fun a b ha hb e=>zlj ha hb e) (fun _=>trivial) hx (by rw[zcc];exact hn) ();show Rep _ _ _ _ (ZX (l++[x]));unfold ZX at *;rw[List.map_append];exact this
 refine⟨w',hrun,⟨_,?_,hR1⟩,k1⟩;have h2:=hR1.size;unfold ZX at h2;rw[List.length_map] at h2;exact h2▸QG g1
theorem ye.len{w:World}{bm:Nat}{l:List It}(h:ye w bm l)(ty:TypeId):(Builtin.len_ #[240] ty #[.map (some bm)]).run Tryz.prog w=.ok (.int .i64 l.length) w:=by
 obtain⟨D,hD,hR⟩:=h;rw[hD.len Tryz.underlying240 ty,hR.size,ZX,List.length_map]
theorem yE.ne{w:World}{bm b:Nat}{l:List It}{t:TypeId}{cs:Array Value}(h:yE w bm l)(hb:Blk w b t cs):bm≠b:=by
 rintro rfl;obtain⟨D,⟨es,clock,h1,_⟩,_⟩:=h;have:=h1.symm.trans hb;cases this
theorem ye.ne{w:World}{bm b:Nat}{l:List It}{t:TypeId}{cs:Array Value}(h:ye w bm l)(hb:Blk w b t cs):bm≠b:=by
 rintro rfl;obtain⟨D,⟨es,clock,h1,_⟩,_⟩:=h;have:=h1.symm.trans hb;cases this
end
section
open Go.RowKit Go.Maps
def U64(x:Int):Prop:=0<=x/\x<=18446744073709551615
theorem ziz{x:Int}(h:U64 x):(Lit.int .u64 x).wf=true:=by
 unfold U64 at h;simp[Lit.wf,IntKind.min,IntKind.max,IntKind.signed,IntKind.bits];omega
theorem X6:Keyed Tryz.prog 3:=int_keyed Tryz.underlying3
theorem KC{x:Int}(h:I64 x):keyOf Tryz.prog 3 (.int .i64 x)=some (.int .i64 x):=keyOf_int_mk Tryz.underlying3 (zcU h)
theorem zbh:Keyed Tryz.prog 48:=int_keyed Tryz.underlying48
theorem zbM{x:Int}(h:U64 x):keyOf Tryz.prog 48 (.int .u64 x)=some (.int .u64 x):=keyOf_int_mk Tryz.underlying48 (ziz h)
def IBm(w:World)(bm:Nat)(L:List (Int × Bool)):Prop:=∃D,w.ownsMap Tryz.prog 3 Z2 bm L.length D/\Rep I64 (fun x=>Lit.int .i64 x) (fun b:Bool=>.lit (.bool b)) D L
def UBm(w:World)(bm:Nat)(L:List (Int × Bool)):Prop:=∃D,w.ownsMap Tryz.prog 48 Z2 bm L.length D/\Rep U64 (fun x=>Lit.int .u64 x) (fun b:Bool=>.lit (.bool b)) D L
section
variable {w w':World} {bm:Nat} {L:List (Int × Bool)}
theorem UBm.lt(h:UBm w bm L):bm<w.heap.size:=by obtain⟨D,hD,_⟩:=h;exact hD.lt
theorem IBm.below(h:IBm w bm L)(hb:zB w w'):IBm w' bm L:=by obtain⟨D,hD,hR⟩:=h;exact⟨D,QT hD hb,hR⟩
theorem UBm.below(h:UBm w bm L)(hb:zB w w'):UBm w' bm L:=by obtain⟨D,hD,hR⟩:=h;exact⟨D,QT hD hb,hR⟩
theorem IBm.made(w:World):IBm (w.alloc (.map #[] 0)) w.heap.size []:=⟨.map [],World.ownsMap_made w _ _ _,Rep.empty⟩
theorem UBm.made(w:World):UBm (w.alloc (.map #[] 0)) w.heap.size []:=⟨.map [],World.ownsMap_made w _ _ _,Rep.empty⟩
theorem UBm.far{r:Option Nat}(h:UBm w bm L)(hg:w.grownBy w' r)(hr:r≠some bm):UBm w' bm L:=by
 obtain⟨D,⟨es,clock,h1,h2⟩,hR⟩:=h;exact⟨D,⟨es,clock,(hg.block bm (Array.getElem?_eq_some_iff.1 h1).1 (fun e=>hr e.symm)).trans h1,h2⟩,hR⟩
theorem IBm.look(h:IBm w bm L){p:Int × Bool}(hp:p∈L):(Instr.lookup 198 (.map (some bm)) (.int .i64 p.1) false).run Tryz.prog w=.ok (.bool p.2) w:=by
 obtain⟨D,hD,hR⟩:=h;obtain⟨v,ps,hrun,hv⟩:=hD.lookup X6 Tryz.underlying198 (Y6 w) (ZY false) (KC (Rep.oks hR p hp));rw[Rep.at' hR p hp] at hv;rw[YB hv] at hrun;exact hrun
theorem IBm.none(h:IBm w bm L){x:Int}(hx:I64 x)(hn:x∉L.map Prod.fst):(Instr.lookup 198 (.map (some bm)) (.int .i64 x) false).run Tryz.prog w=.ok (.bool false) w:=by
 obtain⟨D,hD,hR⟩:=h;obtain⟨v,ps,hrun,hv⟩:=hD.lookup X6 Tryz.underlying198 (Y6 w) (ZY false) (KC hx);rw[atKey_of_not_has (Rep.not hR hx hn)] at hv;rw[YB hv] at hrun;exact hrun
theorem UBm.look(h:UBm w bm L){p:Int × Bool}(hp:p∈L):(Instr.lookup 224 (.map (some bm)) (.int .u64 p.1) false).run Tryz.prog w=.ok (.bool p.2) w:=by
 obtain⟨D,hD,hR⟩:=h;obtain⟨v,ps,hrun,hv⟩:=hD.lookup zbh Tryz.underlying224 (Y6 w) (ZY false) (zbM (Rep.oks hR p hp));rw[Rep.at' hR p hp] at hv;rw[YB hv] at hrun;exact hrun
theorem IBm.put(h:IBm w bm L)(hl:L.length<1000000){a:Int}(ha:I64 a)(hn:a∉L.map Prod.fst)(b:Bool):∃w',(Instr.mapUpdate 198 (.map (some bm)) (.int .i64 a) (.bool b)).run Tryz.prog w=.ok () w'/\IBm w' bm (L++[(a,b)])/\w.grownBy w' (some bm):=by
 obtain⟨D,hD,hR⟩:=h;obtain⟨w',hrun,h1,h2⟩:=hD.update X6 Tryz.underlying198 (by unfold maxLen;omega) (KC ha) (ZY b);have hR':=Rep.put hR (fun a b _ _ e=>by injection e) (fun _=>trivial) ha hn b;exact⟨w',hrun,⟨_,hR'.size▸QG h1,hR'⟩,h2⟩
theorem UBm.put(h:UBm w bm L)(hl:L.length<1000000){a:Int}(ha:U64 a)(hn:a∉L.map Prod.fst)(b:Bool):∃w',(Instr.mapUpdate 224 (.map (some bm)) (.int .u64 a) (.bool b)).run Tryz.prog w=.ok () w'/\UBm w' bm (L++[(a,b)])/\w.grownBy w' (some bm):=by
 obtain⟨D,hD,hR⟩:=h;obtain⟨w',hrun,h1,h2⟩:=hD.update zbh Tryz.underlying224 (by unfold maxLen;omega) (zbM ha) (ZY b);have hR':=Rep.put hR (fun a b _ _ e=>by injection e) (fun _=>trivial) ha hn b;exact⟨w',hrun,⟨_,hR'.size▸QG h1,hR'⟩,h2⟩
end
end
section
open Go.RowKit
def tv(told:List Int)(i:Nat):Int:=if ((i:Int)+1)∈told then 1 else if -((i:Int)+1)∈told then -1 else 0
def qt(told:List Int)(x:Int):Int:=if x∈told then 1 else if -x∈told then -1 else 0
def qD(told:List Int):Prop:=∀x∈told,-x∉told
def ya(v:Int)(xs:List Int):Prop:=∀x∈xs,qg v x=true
theorem qw{v x:Int}:qg v x=true↔x≠0/\-v<=x/\x<=v:=by simp[qg]
theorem zlu(told:List Int)(t:Nat):qt told ((t:Int)+1)=tv told t:=rfl
theorem zi8{told:List Int}(hc:qD told)(t:Nat):qt told (-((t:Int)+1))=- tv told t:=by
 unfold qt tv;rw[Int.neg_neg]
 by_cases h1:((t:Int)+1)∈told
 ·have h2:=hc _ h1;rw[if_pos h1,if_neg h2,if_pos h1]
 ·by_cases h2:-((t:Int)+1)∈told
  ·rw[if_pos h2,if_neg h1,if_pos h2];rfl
  ·rw[if_neg h2,if_neg h1,if_neg h1,if_neg h2];rfl
theorem zdY(told:List Int)(t:Nat):-1<=tv told t/\tv told t<=1:=by
 unfold tv;split
 ·omega
 ·split<;>omega
theorem zda(told:List Int)(x:Int):qt told x=-1\/qt told x=0\/qt told x=1:=by
 unfold qt;split
 ·omega
 ·split<;>omega
theorem Ki{told:List Int}{x:Int}:qt told x=0↔x∉told/\-x∉told:=by
 unfold qt
 by_cases h1:x∈told
 ·simp[h1]
 ·by_cases h2:-x∈told
  ·simp[h1,h2]
  ·simp[h1,h2]
theorem X7{told:List Int}{x:Int}:0<qt told x↔x∈told:=by
 unfold qt
 by_cases h1:x∈told
 ·simp[h1]
 ·by_cases h2:-x∈told<;>simp[h1,h2]
theorem zbu{told:List Int}(hc:qD told){x:Int}:0<=qt told x↔-x∉told:=by
 unfold qt
 by_cases h1:x∈told
 ·have:=hc x h1;simp[h1,this]
 ·by_cases h2:-x∈told<;>simp[h1,h2]
def Zf(told:List Int)(one x:Int):Bool:=decide (0<qt told x)||(decide (qt told x=0)&&x != one)
def zX(told:List Int)(c:List Int):Int × Bool :=
 if y8 (fun x=>decide (0<=qt told x)) c<0 then (0,true)
 else if (c.drop (y8 (fun x=>decide (0<=qt told x)) c).toNat).any (Zf told (c.getD (y8 (fun x=>decide (0<=qt told x)) c).toNat 0)) then (0,false)
 else (c.getD (y8 (fun x=>decide (0<=qt told x)) c).toNat 0,true)
theorem XL{α:Type}(p:α->Bool)(xs:List α)(d:α):(y8 p xs=-1/\∀x∈xs,p x=false)\/∃k:Nat,y8 p xs=(k:Int)/\k<xs.length/\p (xs.getD k d)=true/\∀x∈xs.take k,p x=false:=by
 unfold y8;cases h:xs.findIdx? p with
 |none=>exact Or.inl ⟨rfl,fun x hx=>by simpa using List.findIdx?_eq_none_iff.1 h x hx⟩
 |some k =>rw[List.findIdx?_eq_some_iff_getElem] at h;obtain⟨hk,hp,hj⟩:=h;refine Or.inr ⟨k,rfl,hk,by rw[List.getD_eq_getElem?_getD,List.getElem?_eq_getElem hk];exact hp,fun x hx=>?_⟩;obtain⟨j,hjk,rfl⟩:=List.getElem_of_mem hx;rw[List.length_take] at hjk;rw[List.getElem_take];simpa using hj j (by omega)
inductive Yf (told c:List Int):Int × Bool->Prop
 |none (h:∀x∈c,x∉told/\-x∈told):Yf told c (0,true)
 |one {x:Int} (hx:x∈c) (h0:x∉told) (h1:-x∉told) (h:∀y∈c,y≠x->y∉told/\-y∈told):Yf told c (x,true)
 |held {x:Int} (hx:x∈c) (h:x∈told):Yf told c (0,false)
 |two {x y:Int} (hx:x∈c) (hy:y∈c) (hne:x≠y) (h0:x∉told) (h1:-x∉told) (h2:y∉told) (h3:-y∉told):Yf told c (0,false)
theorem KG{told c:List Int}(hc:qD told):Yf told c (zX told c):=by
 unfold zX;have hng:∀x,(decide (0<=qt told x))=false↔-x∈told:=fun x=>by
  rw[decide_eq_false_iff_not,zbu hc,Classical.not_not]
 have hnt:∀x,-x∈told->x∉told:=fun x h h2=>hc x h2 h;rcases XL (fun x=>decide (0<=qt told x)) c 0 with ⟨hi,h⟩|⟨k,hi,hk,hp,hl⟩
 ·rw[hi,if_pos (by omega)];exact .none fun x hx=>⟨hnt x ((hng x).1 (h x hx)),(hng x).1 (h x hx)⟩
 ·rw[hi,if_neg (by omega),Int.toNat_natCast];have hm:c.getD k 0∈c:=yv hk;have hpo:-(c.getD k 0)∉told:=(zbu hc).1 (of_decide_eq_true hp)
  by_cases hany:(c.drop k).any (Zf told (c.getD k 0))=true
  ·rw[if_pos hany];obtain⟨y,hy,hmo⟩:=List.any_eq_true.1 hany;have hyc:=List.mem_of_mem_drop hy;unfold Zf at hmo;rw[Bool.or_eq_true,Bool.and_eq_true] at hmo;rcases hmo with h1|⟨h1,h2⟩
   ·exact .held hyc (X7.1 (of_decide_eq_true h1))
   ·have h3:=Ki.1 (of_decide_eq_true h1)
    by_cases hot:c.getD k 0∈told
    ·exact .held hm hot
    ·exact .two hm hyc (fun e=>by rw[<-e,bne_self_eq_false] at h2;cases h2) hot hpo h3.1 h3.2
  ·rw[if_neg hany];have hany':∀y∈c.drop k,Zf told (c.getD k 0) y=false:=fun y hy=>by
    cases hh:Zf told (c.getD k 0) y with
    |false=>rfl
    |true=>exact absurd (List.any_eq_true.2 ⟨y,hy,hh⟩) hany
   have hot:c.getD k 0∉told:=fun h=>by
    have:=hany' (c.getD k 0) (by
     rw[List.getD_eq_getElem?_getD,List.getElem?_eq_getElem hk];exact List.mem_drop_iff_getElem.2 ⟨0,by omega,by simp⟩)
    unfold Zf at this;rw[Bool.or_eq_false_iff] at this;exact(of_decide_eq_false this.1) (X7.2 h)
   refine .one hm hot hpo fun y hy hne=>?_;rw[<-List.take_append_drop k c,List.mem_append] at hy;rcases hy with hy|hy
   ·have:=(hng y).1 (hl y hy);exact⟨hnt y this,this⟩
   ·have:=hany' y hy;unfold Zf at this;rw[Bool.or_eq_false_iff,Bool.and_eq_false_iff] at this;have h1:=of_decide_eq_false this.1;have h2:qt told y≠0:=by
     rcases this.2 with h|h
     ·exact of_decide_eq_false h
     ·simp at h;exact absurd h hne
    have h3:-y∈told:=by
     by_cases hm:-y∈told
     ·exact hm
     ·exact absurd (Ki.2 ⟨fun h=>h1 (X7.2 h),hm⟩) h2
    exact⟨hnt y h3,h3⟩
def zt(told:List Int)(l:List (List Int)):Int × Int :=
 match l.findIdx? (fun c=>(zX told c).2) with|some i=>((i:Int),(zX told (l.getD i [])).1)|none=>(-1,0)
theorem zcH{told:List Int}{l:List (List Int)}{k:Nat}(h0:∀j,j<k->(zX told (l.getD j [])).2=false)(hk:k<l.length)(h1:(zX told (l.getD k [])).2=true):zt told l=((k:Int),(zX told (l.getD k [])).1):=by
 have:l.findIdx? (fun c=>(zX told c).2)=some k:=by
  rw[List.findIdx?_eq_some_iff_getElem];refine⟨hk,?_,fun j hj=>?_⟩
  ·rw[List.getD_eq_getElem?_getD,List.getElem?_eq_getElem hk] at h1;exact h1
  ·have:=h0 j hj;rw[List.getD_eq_getElem?_getD,List.getElem?_eq_getElem (by omega)] at this;simpa using this
 unfold zt;rw[this]
theorem zar{told:List Int}{l:List (List Int)}(h0:∀j,j<l.length->(zX told (l.getD j [])).2=false):zt told l=(-1,0):=by
 have:l.findIdx? (fun c=>(zX told c).2)=none:=by
  rw[List.findIdx?_eq_none_iff];intro x hx;obtain⟨j,hj,rfl⟩:=List.getElem_of_mem hx;have:=h0 j hj;rw[List.getD_eq_getElem?_getD,List.getElem?_eq_getElem hj] at this;simpa using this
 unfold zt;rw[this]
inductive Yd (told:List Int) (l:List (List Int)):Int × Int->Prop
 |none (h:∀c∈l,(∃x∈c,x∈told)\/∃x∈c,∃y∈c,x≠y/\x∉told/\-x∉told/\y∉told/\-y∉told):Yd told l (-1,0)
 |bad {k:Nat} (hk:k<l.length) (h:∀x∈l.getD k [],x∉told/\-x∈told):Yd told l ((k:Int),0)
 |one {k:Nat} {x:Int} (hk:k<l.length) (hx:x∈l.getD k []) (h0:x∉told) (h1:-x∉told) (h:∀y∈l.getD k [],y≠x->y∉told/\-y∈told):Yd told l ((k:Int),x)
theorem Qj{told:List Int}{l:List (List Int)}(hc:qD told):Yd told l (zt told l):=by
 unfold zt;cases h:l.findIdx? (fun c=>(zX told c).2) with
 |none =>
  rw[List.findIdx?_eq_none_iff] at h;refine .none fun c hcl=>?_;have h1:=h c hcl;have h2:=KG (c:=c) hc;generalize zX told c=r at *;cases h2 with
  |none=>simp at h1
  |one=>simp at h1
  |held hx h=>exact Or.inl ⟨_,hx,h⟩
  |two hx hy hne q0 q1 q2 q3=>exact Or.inr ⟨_,hx,_,hy,hne,q0,q1,q2,q3⟩
 |some k =>
  rw[List.findIdx?_eq_some_iff_getElem] at h;obtain⟨hk,hp,-⟩:=h;have e:l.getD k []=l[k]:=by rw[List.getD_eq_getElem?_getD,List.getElem?_eq_getElem hk];rfl
  rw[<-e] at hp;have h2:=KG (c:=l.getD k []) hc;show Yd told l ((k:Int),(zX told (l.getD k [])).1);generalize zX told (l.getD k [])=r at *;cases h2 with
  |none h=>exact .bad hk h
  |one hx h0 h1 h=>exact .one hk hx h0 h1 h
  |held=>simp at hp
  |two=>simp at hp
inductive xv (l:List (List Int)):List Int->List Int->Int->Prop
 |stop {told:List Int} {i:Int} (h:zt told l=(i,0)):xv l told told i
 |step {told t:List Int} {i x b:Int} (h:zt told l=(i,x)) (hx:x≠0) (hs:xv l (told++[x]) t b):xv l told t b
theorem xv.at_stop{l:List (List Int)}{told t:List Int}{i b:Int}(h:xv l told t b)(hn:zt told l=(i,0)):t=told/\b=i:=by
 cases h with
 |stop h=>rw[hn] at h;cases h;exact⟨rfl,rfl⟩
 |step h hx _=>rw[hn] at h;cases h;exact absurd rfl hx
theorem xv.at_step{l:List (List Int)}{told t:List Int}{i x b:Int}(h:xv l told t b)(hn:zt told l=(i,x))(hx:x≠0):xv l (told++[x]) t b:=by
 cases h with
 |stop h=>rw[hn] at h;cases h;exact absurd rfl hx
 |step h _ hs=>rw[hn] at h;cases h;exact hs
def qH(told:List Int):Nat:=(List.range 24).countP (fun i=>tv told i==0)
theorem ziw{p q:Nat->Bool}{l:List Nat}(h:∀x∈l,q x=true->p x=true){j:Nat}(hj:j∈l)(hp:p j=true)(hq:q j=false):l.countP q<l.countP p:=by
 induction l with
 |nil=>cases hj
 |cons a l ih =>
  have hle:l.countP q<=l.countP p:=List.countP_mono_left fun x hx=>h x (List.mem_cons_of_mem _ hx);rw[List.countP_cons,List.countP_cons]
  by_cases e:a=j
  ·subst e;rw[hp,hq];simp;omega
  ·have:=ih (fun x hx=>h x (List.mem_cons_of_mem _ hx)) (by cases hj with|head=>exact absurd rfl e|tail _ h=>exact h);have ha:=h a (List.mem_cons_self);cases hqa:q a with
   |true=>rw[ha hqa];simp;omega
   |false=>cases p a<;>simp<;>omega
theorem zbL{told:List Int}{x:Int}(hn:-x∉told)(i:Nat):tv (told++[x]) i=if (i:Int)+1=x then 1 else if (i:Int)+1=-x then -1 else tv told i:=by
 unfold tv;simp only[List.mem_append,List.mem_singleton]
 by_cases h1:(i:Int)+1=x
 ·rw[if_pos (Or.inr h1),if_pos h1]
 ·rw[if_neg h1]
  by_cases h2:(i:Int)+1=-x
  ·have h0:(i:Int)+1∉told:=by rw[h2];exact hn
   rw[if_pos h2,if_neg (by rintro (h|h);exact h0 h;exact h1 h),if_pos (Or.inr (by omega))]
  ·rw[if_neg h2];have h3:¬-((i:Int)+1)=x:=by omega
   have e1:((i:Int)+1∈told\/(i:Int)+1=x)↔(i:Int)+1∈told:=⟨fun h=>h.resolve_right h1,Or.inl⟩;have e2:(-((i:Int)+1)∈told\/-((i:Int)+1)=x)↔-((i:Int)+1)∈told:=⟨fun h=>h.resolve_right h3,Or.inl⟩;simp only[e1,e2]
theorem Qa{told:List Int}{i:Nat}:tv told i=0↔(i:Int)+1∉told/\-((i:Int)+1)∉told:=by
 show qt told ((i:Int)+1)=0↔_;exact Ki
theorem Qb{told:List Int}{x:Int}(hl:qg 24 x=true)(h0:x∉told)(h1:-x∉told):qH (told++[x])<qH told:=by
 rw[qw] at hl;have ht:=zbL h1;unfold qH;refine ziw (j:=(if 0<x then x else -x).toNat-1) (fun i _ hi=>?_) (List.mem_range.2 (by split<;>omega)) ?_ ?_
 ·have hi':tv (told++[x]) i=0:=by simpa using hi
  rw[ht] at hi'
  by_cases e1:(i:Int)+1=x
  ·rw[if_pos e1] at hi';cases hi'
  ·by_cases e2:(i:Int)+1=-x
   ·rw[if_neg e1,if_pos e2] at hi';cases hi'
   ·rw[if_neg e1,if_neg e2] at hi';simpa using hi'
 ·have:tv told ((if 0<x then x else -x).toNat-1)=0:=by
   rw[Qa]
   by_cases hp:0<x
   ·rw[if_pos hp,show ((x.toNat-1:Nat):Int)+1=x by omega];exact⟨h0,h1⟩
   ·rw[if_neg hp,show (((-x).toNat-1:Nat):Int)+1=-x by omega,Int.neg_neg];exact⟨h1,h0⟩
  simpa using this
 ·have:tv (told++[x]) ((if 0<x then x else -x).toNat-1)≠0:=by
   rw[ht]
   by_cases hp:0<x
   ·rw[if_pos hp,if_pos (by omega)];omega
   ·rw[if_neg hp,if_neg (by omega),if_pos (by omega)];omega
  simpa using this
theorem Ku{told:List Int}{x:Int}(hc:qD told)(hx:x≠0)(h1:-x∉told):qD (told++[x]):=by
 intro y hy hn;simp only[List.mem_append,List.mem_singleton] at hy hn;rcases hy with hy|hy
 ·rcases hn with hn|hn
  ·exact hc y hy hn
  ·exact h1 (by rw[show -x=y by omega];exact hy)
 ·rcases hn with hn|hn
  ·rw[hy] at hn;exact h1 hn
  ·omega
theorem KH{v:Int}{told:List Int}{x:Int}(hc:ya v told)(hx:qg v x=true):ya v (told++[x]):=by
 intro y hy;simp only[List.mem_append,List.mem_singleton] at hy;rcases hy with hy|hy
 ·exact hc y hy
 ·rw[hy];exact hx
theorem zdL:qD []:=fun x hx=>by cases hx
theorem zgh(v:Int):ya v []:=fun x hx=>by cases hx
def qL(v:Int)(l:List (List Int)):Prop:=∀c∈l,ya v c
theorem ZE{v x:Int}(hv:v<=24)(h:qg v x=true):qg 24 x=true:=by
 rw[qw] at *;omega
theorem zfK{l:List (List Int)}{v:Int}(hv:v<=24)(hl:qL v l):∀(n:Nat) (told:List Int),qH told<=n->qD told->ya v told->∃t b,xv l told t b:=by
 intro n
 induction n with
 |zero =>
  intro told hf hc hs;have hn:=Qj (l:=l) hc;generalize e:zt told l=r at hn;cases hn with
  |none=>exact⟨_,_,.stop e⟩
  |bad=>exact⟨_,_,.stop e⟩
  |one hk hx h0 h1 _ =>have:=Qb (ZE hv (hl _ (yv hk) _ hx)) h0 h1;omega
 |succ n ih =>
  intro told hf hc hs;have hn:=Qj (l:=l) hc;generalize e:zt told l=r at hn;cases hn with
  |none=>exact⟨_,_,.stop e⟩
  |bad=>exact⟨_,_,.stop e⟩
  |one hk hx h0 h1 _ =>have hlx:=hl _ (yv hk) _ hx;have hx0:=(qw.1 hlx).1;have:=Qb (ZE hv hlx) h0 h1;obtain⟨t,b,hs⟩:=ih _ (by omega) (Ku hc hx0 h1) (KH hs hlx);exact⟨t,b,.step e hx0 hs⟩
theorem Yv{l:List (List Int)}{v:Int}(hl:qL v l){told:List Int}(hc:qD told)(hs:ya v told){i x:Int}(e:zt told l=(i,x))(hx:x≠0):qg v x=true/\x∉told/\-x∉told/\qD (told++[x])/\ya v (told++[x]):=by
 have hn:=Qj (l:=l) hc;rw[e] at hn;cases hn with
 |none=>exact absurd rfl hx
 |bad=>exact absurd rfl hx
 |one hk hxc h0 h1 _ =>have hlx:=hl _ (yv hk) _ hxc;exact⟨hlx,h0,h1,Ku hc hx h1,KH hs hlx⟩
end
section
open Go.RowKit
theorem zjB{m:Nat}(h:m<2^24){i:Nat}(hi:24<=i):m.testBit i=false:=Nat.testBit_lt_two_pow (Nat.lt_of_lt_of_le h (Nat.pow_le_pow_right (by omega) hi))
def xz(m v:Nat):Nat:=m^^^(m&&&2^v)
theorem Xq(m v i:Nat):(xz m v).testBit i=(m.testBit i&&!decide (v=i)):=by
 unfold xz;rw[Nat.testBit_xor,Nat.testBit_and,Nat.testBit_two_pow];cases m.testBit i<;>by_cases hj:v=i<;>simp[hj]
theorem zhW{m v:Nat}(hm:m<2^24)(hv:v<24):m&&&(18446744073709551615-2^v)=xz m v:=by
 apply Nat.eq_of_testBit_eq;intro i;have hp:2^v<2^64:=Nat.pow_lt_pow_right (by omega) (by omega);have e:18446744073709551615-2^v=2^64-(2^v+1):=by omega
 rw[Xq,Nat.testBit_and,e,Nat.testBit_two_pow_sub_succ hp,Nat.testBit_two_pow]
 by_cases hi:i<24
 ·rw[decide_eq_true (show i<64 by omega)];simp
 ·rw[zjB hm (by omega)];simp
end
section
open Go.RowKit Go.Deep
theorem zbb:(Tryz.prog.info? 48).map (fun i=>(i.zero,i.size,i.bytes))=some (some (.int .u64 0),1,8):=by kernel_rfl
def xG(l:List Nat):List Value:=l.map fun n:Nat=>Value.int .u64 n
theorem X4(l:List Nat)(x:Nat):xG (l++[x])=xG l++[.int .u64 x]:=by simp[xG]
theorem QA(w:World)(x:Value)(t:TypeId):∀(j:Nat) (u:Value),[x][j]?=some u->(w.alloc (.cells #[x] t)).cell? ((⟨w.heap.size,0,none⟩:Addr).add j)=some u:=by
 intro j u hj;have:j=0:=by have:=(List.getElem?_eq_some_iff.1 hj).1;simp at this;omega
 subst this;rw[yd,(Blk.new w t #[x]).cell];exact hj
theorem Ye(x:Int):∀u∈[Value.int .u64 x],u.oneCell'=true:=fun u hu=>by rw[List.mem_singleton] at hu;subst hu;rfl
def zcw(W0:World)(F:FuncId)(cb:Array Value)(so:Nat->Bool)(n:Nat):Prop:=∀W (x:Nat),zB W0 W->x<2^n->zR F (#[.int .u64 x]++cb) W (.bool (so x))
def xQ(n set:Nat)(so:Nat->Bool):Bool:=(List.range n).any fun k=>set.testBit k&&so (xz set k)
def zI(n:Nat)(so:Nat->Bool)(k:Nat):List Nat:=(List.range k).filter fun s=>so s&&!xQ n s so
theorem zeH(n:Nat)(so:Nat->Bool)(k:Nat):zI n so (k+1)=zI n so k++(if (so k&&!xQ n k so)=true then [k] else []):=by
 unfold zI;rw[List.range_succ,List.filter_append];congr 1;cases h:(so k&&!xQ n k so)<;>simp[h]
theorem K7(n:Nat)(so:Nat->Bool)(k:Nat):(zI n so k).length<=k:=by
 unfold zI;exact Nat.le_trans (List.length_filter_le _ _) (by simp)
theorem zbk{m v n:Nat}(hm:m<2^n):xz m v<2^n:=Nat.lt_pow_two_of_testBit _ (fun i hi=>by rw[Xq,Nat.testBit_lt_two_pow (Nat.lt_of_lt_of_le hm (Nat.pow_le_pow_right (by omega) hi))];rfl)
theorem zeX(m k:Nat):(((m&&&2^k:Nat):Int) != 0)=m.testBit k:=by
 have h:=Nat.testBit_and m (2^k) k;rw[Nat.testBit_two_pow] at h;cases hb:m.testBit k with
 |true =>
  have:m&&&2^k≠0:=fun e=>by rw[e,hb] at h;simp at h
  simpa using this
 |false =>
  have:m&&&2^k=0:=Nat.eq_of_testBit_eq fun i=>by
   rw[Nat.testBit_and,Nat.testBit_two_pow,Nat.zero_testBit]
   by_cases e:k=i
   ·subst e;rw[hb];rfl
   ·simp[e]
  rw[this];rfl
theorem zkC(n:Nat)(hn:n<=12)(set:Nat)(hs:set<2^n)(F:FuncId)(cb:Array Value)(hent:∀args w,(callFunc F args).run Tryz.prog w=.ok (.enter F args) w)(so:Nat->Bool)(w:World)(hso:zcw w F cb so n) :
  zR 203 #[.int .i64 n,.int .u64 set,.func (.func F) #[] cb] w (.bool (xQ n set so)):=by
 have HSO:Hid (∀W (x:Nat),zB w W->x<2^n->zR F (#[.int .u64 x]++cb) W (.bool (so x))):=hso;have h12:(2:Nat)^n<=4096:=Nat.pow_le_pow_right (n:=2) (by omega) hn;clear hso;go_enter Tryz.func203,Tryz.ntmps203;go_wp2_with fail;go_loopw [10] (fun kV wr=>∃k:Nat,k<=n/\kV=.int .i64 k/\(∀j,j<k->(set.testBit j&&so (xz set j))=false)/\zB w wr) (fun kV _=>n-(intOf kV).toNat)
 case atStart=>exact⟨0,Nat.zero_le _,rfl,fun j h=>by omega,Below.refl _ _⟩
 case round =>
  obtain⟨k,hk,rfl,hall,hbw⟩:=hrel;have HALL:=zH hall;have HBW:=zH hbw;clear hall hbw
  by_cases hlt:k<n
  ·have hki:(k:Int)<(n:Int):=by omega
   have hk0:(0:Int)<=(k:Int):=by omega
   have hp:(2:Nat)^k<=4096:=Nat.pow_le_pow_right (n:=2) (j:=12) (by omega) (by omega);have e2:((2:Int)^k)=((2^k:Nat):Int):=by simp
   have hsh:IntKind.u64.wrap (2^k)=(2:Int)^k:=by
    rw[e2,IntKind.wrap_u64];exact Int.emod_eq_of_lt (Int.natCast_nonneg _) (by omega)
   have han:=bits_and_u64_nat set (2^k) (by omega) (by omega);have hno:=u64_andNot_nat set (2^k) (by omega) (by omega);rw[zhW (Nat.lt_of_lt_of_le hs (Nat.pow_le_pow_right (by omega) (by omega))) (by omega)] at hno;rw[<-e2] at han hno;have hne:=zeX set k;have HOF:=zH (HSO.out _ (xz set k) HBW.out (zbk hs));have HN1:Hid ((set.testBit k&&so (xz set k))=false->∀j,j<k+1->(set.testBit j&&so (xz set j))=false):=fun h j hj=>by
    by_cases e:j=k
    ·rw[e];exact h
    ·exact HALL.out j (by omega)
   have HY:Hid ((set.testBit k&&so (xz set k))=true->xQ n set so=true):=fun h=>List.any_eq_true.2 ⟨k,List.mem_range.2 hlt,h⟩;generalize xz set k=of at HOF HN1 HY hno;generalize (set&&&2^k)=am at *;generalize set.testBit k=tb at HN1 HY hne;clear e2 hp;cases tb with
   |false =>
    clear HOF HY;go_wp2;go_roundw
    case rel=>exact⟨k+1,hlt,by go_num,HN1.out rfl,HBW.out⟩
    case measure=>simp[intOf];omega
   |true =>
    go_wp2_with fail;refine HOF.out.mono ?_;rintro e w2 ⟨rfl,hb2⟩;have HB2:=zH (zT HBW.out hb2);clear hb2 HOF;cases hq:so of with
    |true =>have HR:=zH (HY.out (by rw[hq];rfl));clear hq;go_wp2;go_ret;exact⟨by rw[HR.out];rfl,HB2.out⟩
    |false =>
     have HR:=zH (HN1.out (by rw[hq];rfl));clear hq;go_wp2;go_roundw
     case rel=>exact⟨k+1,hlt,by go_num,HR.out,HB2.out⟩
     case measure=>simp[intOf];omega
  ·obtain rfl:k=n:=by omega
   have HF:Hid (xQ k set so=false):=by
    show _=_;unfold xQ;rw[List.any_eq_false];intro j hj;have:=HALL.out j (List.mem_range.1 hj);rw[this];simp
   clear HSO;go_wp2;go_ret;exact⟨by rw[HF.out];rfl,HBW.out⟩
theorem zaX(n:Nat)(hn:n<=12)(F:FuncId)(cb:Array Value)(hent:∀args w,(callFunc F args).run Tryz.prog w=.ok (.enter F args) w)(so:Nat->Bool)(w:World)(hso:zcw w F cb so n) :
  zC 124 #[.int .i64 n,.func (.func F) #[] cb] w fun e w'=>∃v,e=.returned v/\w'.ownsRow w.heap.size 48 1 v (zI n so (2^n)).length (xG (zI n so (2^n)))/\zB w w':=by
 obtain⟨i0,hin,hz0,hz1,hz2⟩:=info_parts zbb;have HSO:Hid (∀W (x:Nat),zB w W->x<2^n->zR F (#[.int .u64 x]++cb) W (.bool (so x))):=hso;have HWI:Hid (∀W (x:Nat),zB w W->x<2^n->zR 203 #[.int .i64 n,.int .u64 x,.func (.func F) #[] cb] W (.bool (xQ n x so))):=fun W x hW hx=>zkC n hn x hx F cb hent so W (fun W' y hW' hy=>hso W' y (zT hW hW') hy);have h12:(2:Nat)^n<=4096:=Nat.pow_le_pow_right (n:=2) (j:=12) (by omega) hn;have hsh:IntKind.u64.wrap (2^n)=((2^n:Nat):Int):=by
  rw[IntKind.wrap_u64,show ((2:Int)^n)=((2^n:Nat):Int) by simp];exact Int.emod_eq_of_lt (Int.natCast_nonneg _) (by omega)
 clear hso;generalize hN:(2^n:Nat)=N at *;clear hN;go_enter Tryz.func124,Tryz.ntmps124;go_wp2_with fail;go_loopw [5,9] (fun oV kV wr=>∃k:Nat,k<=N/\kV=.int .u64 k/\wr.ownsRow w.heap.size 48 1 oV (zI n so k).length (xG (zI n so k))/\zB w wr) (fun _ kV _=>N-(intOf kV).toNat)
 case atStart=>exact⟨0,Nat.zero_le _,rfl,World.ownsRow_nil _ _ _ _,Below.refl _ _⟩
 case round =>
  obtain⟨k,hk,rfl,hrow,hbw⟩:=hrel;have HROW:=zH hrow;have HBW:=zH hbw;obtain⟨oa,oc,rfl,-⟩:=zJ hrow;have hll:=K7 n so k;clear hrow hbw
  by_cases hlt:k<N
  ·have hki:(k:Int)<(N:Int):=by omega
   have hw1:IntKind.u64.wrap ((k:Int)+1)=(k:Int)+1:=by rw[IntKind.wrap_u64];omega
   have HS1:=zH (HSO.out _ k HBW.out hlt);have HST:=zH (zeH n so k);generalize hL:(zI n so k).length=m at *;have HL:=zH hL;clear hL;go_wp2_with fail;refine HS1.out.mono ?_;rintro e w2 ⟨rfl,hb2⟩;have hb02:=zT HBW.out hb2;have HROW2:=zH (Xw HROW.out hb2);have HB2:=zH hb02;have HW2:=zH (HWI.out w2 k hb02 hlt);clear hb2 hb02 HS1 HROW HBW;cases hq:so k with
   |false =>
    rw[hq] at HST;simp only[Bool.false_and,Bool.false_eq_true,if_false,List.append_nil] at HST;have HR8:Hid (w2.ownsRow w.heap.size 48 1 (.slice oa m oc) (zI n so (k+1)).length (xG (zI n so (k+1)))):=by
     show World.ownsRow _ _ _ _ _ _ _;rw[HST.out,HL.out];exact HROW2.out
    clear HW2 HST hq;go_wp2;go_roundw
    case rel=>exact⟨k+1,hlt,by go_num,HR8.out,HB2.out⟩
    case measure=>simp[intOf];omega
   |true =>
    rw[hq] at HST;simp only[Bool.true_and] at HST;clear hq;go_wp2_with fail;refine HW2.out.mono ?_;rintro e w3 ⟨rfl,hb3⟩;have HROW3:=zH (Xw HROW2.out hb3);have HB3:=zH (zT HB2.out hb3);have hs3:=HB3.out.size;clear hb3 HROW2 HB2 HW2;cases hq:xQ n k so with
    |true =>
     rw[hq] at HST;simp only[Bool.not_true,Bool.false_eq_true,if_false,List.append_nil] at HST;have HR8:Hid (w3.ownsRow w.heap.size 48 1 (.slice oa m oc) (zI n so (k+1)).length (xG (zI n so (k+1)))):=by
      show World.ownsRow _ _ _ _ _ _ _;rw[HST.out,HL.out];exact HROW3.out
     clear HST hq;go_wp2;go_roundw
     case rel=>exact⟨k+1,hlt,by go_num,HR8.out,HB3.out⟩
     case measure=>simp[intOf];omega
    |false =>
     rw[hq] at HST;simp only[Bool.not_false,if_true] at HST;clear hq;go_upto_region 6 with fail;go_wp2_with (at_builtin;refine wpList_append_own_at _ rfl _ _ 38 rfl w.heap.size 48 i0 (.int .u64 0) 1 8 Tryz.underlying38 hin hz0 hz1 hz2 rfl (by decide) _ _ _ rfl (HROW3.out.alloc _) ⟨w3.heap.size,0,none⟩ 1 1 [.int .u64 k] rfl rfl ?e1 ?e2 ?e3 ?e4 ?e5 ?_)
     try(case e1=>exact QA _ _ _)
     case e2=>first|exact Ye _|rfl
     case e3=>unfold maxLen;omega
     case e4=>omega
     case e5=>first|omega|(simp;omega)
     intro v8 w8 hown8 hgrow8 _ hloc8;have HR8:Hid (w8.ownsRow w.heap.size 48 1 v8 (zI n so (k+1)).length (xG (zI n so (k+1)))):=by
      show World.ownsRow _ _ _ _ _ _ _;rw[HST.out,X4,List.length_append,HL.out];exact hown8
     have HB8:Hid (zB w w8):=(HB3.out.alloc hs3 _).grown hgrow8 (by simp;omega) (fun k hk=>(HROW3.out.lt k hk).1);obtain⟨v8a,v8c,rfl,-⟩:=zJ hown8;clear hown8 hgrow8 hloc8 HROW3 HST;go_wp2;go_roundw
     case rel=>exact⟨k+1,hlt,by go_num,HR8.out,HB8.out⟩
     case measure=>simp[intOf];omega
  ·obtain rfl:k=N:=by omega
   clear HSO HWI;go_wp2;go_ret;exact⟨_,rfl,HROW.out,HBW.out⟩
end
end Go.Proofs.YtiihalknffbjpaaGreatDoor
