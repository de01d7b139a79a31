/- reason: without, least. -/
import Derived.Test.YtiihalknffbjpaaGreatDoorRlChkC
set_option maxHeartbeats 2000000
set_option maxRecDepth 100000
namespace Go.Proofs.YtiihalknffbjpaaGreatDoor
section
open Go.RowKit Go.Deep Go.Maps
def zcy:Value->Option (DataW Unit × List MemPlace)
 |.bool b=>some (.lit (.bool b),[])
 |_=>none
theorem zbc(b:Bool):zcy (.bool b)=some (.lit (.bool b),[]):=rfl
theorem zbR{v:Value}{b:Bool}{ps:List MemPlace}(h:zcy v=some (.lit (.bool b),ps)):v=.bool b:=by
 unfold zcy at h;split at h
 ·simp at h;rw[h.1]
 ·cases h
theorem zeq(w:World):(zeroValue 4).run Tryz.prog w=.ok (.bool false) w:=by kernel_rfl
def zbA(w:World)(bm:Nat)(l:List It):Prop:=∃D,w.ownsMap Tryz.prog 9 zcy bm (zaY l) D/\zkh (fun _:Unit=>.lit (.bool true)) D (zcE l) (zaY l)
theorem zbA.made(w:World):zbA (w.alloc (.map #[] 0)) w.heap.size []:=⟨.map [],World.ownsMap_made w _ _ _,zkh.empty⟩
theorem zbA.below{B:Nat}{w w':World}{bm:Nat}{l:List It}(h:zbA w bm l)(hb:Below B w w')(hB:w.heap.size<=B):zbA w' bm l:=by
 obtain⟨D,h1,h2⟩:=h;exact⟨D,zbg h1 (hb.mono hB),h2⟩
theorem zbA.lt{w:World}{bm:Nat}{l:List It}(h:zbA w bm l):bm<w.heap.size:=by obtain⟨D,h1,_⟩:=h;exact h1.lt
theorem zbA.block{w w':World}{bm:Nat}{l:List It}(h:zbA w bm l)(hb:w'.heap[bm]?=w.heap[bm]?):zbA w' bm l:=by
 obtain⟨D,⟨es,clock,h1,h2⟩,hR⟩:=h;exact⟨D,⟨es,clock,hb.trans h1,h2⟩,hR⟩
theorem zbA.put{w:World}{bm:Nat}{l:List It}(h:zbA w bm l)(hl:l.length<1000000){x:It}(hs:x.name.size<=100000) :
  ∃w',(Instr.mapUpdate 239 (.map (some bm)) (.string x.name) (.bool true)).run Tryz.prog w=.ok () w'/\zbA w' bm (l++[x])/\w.grownBy w' (some bm):=by
 obtain⟨D,hD,hR⟩:=h;have hle:=zhr l;obtain⟨w',hrun,g1,k1⟩:=hD.update zgR Tryz.underlying239 (by unfold maxLen;omega) (zhw hs) (zbc true);have hR1:=hR.put x.name ();have e1:(fun c=>if c=x.name then some () else zcE l c)=zcE (l++[x]):=by
  funext c;unfold zcE
  by_cases h:c=x.name
  ·simp[h]
  ·simp[h]
 have e2:(if (zcE l x.name).isSome then zaY l else zaY l+1)=zaY (l++[x]):=by
  rw[ze4];unfold zcE
  by_cases h:x.name∈l.map It.name
  ·rw[if_pos h,if_pos h];rfl
  ·rw[if_neg h,if_neg h];rfl
 rw[e1,e2] at hR1;exact⟨w',hrun,⟨_,hR1.size▸zbt g1,hR1⟩,k1⟩
theorem zbA.len{w:World}{bm:Nat}{l:List It}(h:zbA w bm l)(ty:TypeId):(Builtin.len_ #[239] ty #[.map (some bm)]).run Tryz.prog w=.ok (.int .i64 (zaY l)) w:=by
 obtain⟨D,hD,hR⟩:=h;rw[hD.len Tryz.underlying239 ty,hR.size]
theorem znv:laidOutB Tryz.prog=true:=by kernel_rfl
theorem zm4:(93:TypeId)<Tryz.prog.types.size:=of_decide_eq_true (by kernel_rfl)
theorem zkD:(match Tryz.prog.underlying 93 with|some (.array _ _)|some (.struct _)=>true|_=>false)=true:=by rw[Tryz.underlying93]
theorem zpG:Keyed Tryz.prog 93:=Keyed.of_law (deep_law_laid znv (m:=3) (by omega) zm4 (by kernel_rfl) zkD)
theorem zmf:Tryz.prog.keyType 93=true:=by kernel_rfl
theorem zkf:Tryz.prog.cellsOf 93=4:=by kernel_rfl
theorem zkW:Tryz.prog.cellsOf 91=3:=by kernel_rfl
theorem zpB:Tryz.prog.cellsOf 3=1:=by kernel_rfl
theorem zqc:Tryz.prog.cellsOf 9=1:=by kernel_rfl
def itV(x:It):Value:=.agg #[.string x.name,.int .i64 x.a,.int .i64 x.b,.int .i64 x.c]
def zoC(x:It):Prop:=x.name.size<=100000/\(0<=x.a/\x.a<=999)/\(0<=x.b/\x.b<=999)/\0<=x.c/\x.c<=999
def zgK(x:It):Lit:=.string (keyBytes [.string x.name.data.toList,.int .i64 x.a,.int .i64 x.b,.int .i64 x.c])
theorem zsL{m:Int}(h:0<=m/\m<=999):(Lit.int .i64 m).wf=true:=by
 simp[Lit.wf,IntKind.min,IntKind.max,IntKind.signed,IntKind.bits];omega
theorem zpR(d:Nat){m:Int}(h:0<=m/\m<=999):Tryz.prog.keyLits (d+1) 3 [.int .i64 m]=some [.int .i64 m]:=by
 unfold Program.keyLits;rw[Tryz.underlying3];simp[zsL h]
theorem zr9(d:Nat){s:ByteArray}(h:s.size<=100000):Tryz.prog.keyLits (d+1) 9 [.string s]=some [.string s.data.toList]:=by
 unfold Program.keyLits;rw[Tryz.underlying9];have h2:s.size<=maxLen:=by unfold maxLen;omega
 simp[h2]
theorem zr4(d:Nat){a b c:Int}(ha:0<=a/\a<=999)(hb:0<=b/\b<=999)(hc:0<=c/\c<=999):Tryz.prog.keyLits (d+2) 91 [.int .i64 a,.int .i64 b,.int .i64 c]=some [.int .i64 a,.int .i64 b,.int .i64 c]:=by
 unfold Program.keyLits;rw[Tryz.underlying91];have e:List.range 3=[0,1,2]:=rfl;simp[zkW,zpB,e,zpR d ha,zpR d hb,zpR d hc]
theorem zob(x:It)(h:zoC x):keyOf Tryz.prog 93 (itV x)=some (zgK x):=by
 have hf:(itV x).formed Tryz.prog 93=true:=by simp[Value.formed,Tryz.underlying93,zkf,itV]
 unfold keyOf;rw[Tryz.underlying93];simp only[zmf,hf,Bool.and_self,if_true];obtain⟨d,hd⟩:∃d,Tryz.prog.types.size+1=d+3:=⟨Tryz.prog.types.size-2,by have:3<Tryz.prog.types.size:=of_decide_eq_true (by kernel_rfl);omega⟩;rw[hd];have hc:(itV x).cells.toList=[.string x.name,.int .i64 x.a,.int .i64 x.b,.int .i64 x.c]:=rfl;rw[hc];unfold Program.keyLits;rw[Tryz.underlying93];simp[zkf,zkW,zqc,zr9 (d+1) h.1,zr4 d h.2.1 h.2.2.1 h.2.2.2,zgK]
theorem zl8{x y:It}(hx:zoC x)(hy:zoC y)(h:zgK x=zgK y):x=y:=by
 have:=zpG.inj (zob x hx) (h▸zob y hy);obtain⟨n,a,b,c⟩:=x;obtain⟨n',a',b',c'⟩:=y;simp[itV] at this;obtain⟨rfl,rfl,rfl,rfl⟩:=this;rfl
def zhv(l:List It):List (It × Unit):=l.map fun s=>(s,())
theorem zgU(l:List It):(zhv l).map Prod.fst=l:=by unfold zhv;rw[List.map_map];simp[Function.comp_def]
def zsA(D:DataW Unit)(l:List It):Prop:=Rep zoC zgK (fun _:Unit=>.lit (.bool true)) D (zhv l)
def zbh(w:World)(bm:Nat)(l:List It):Prop:=∃D,w.ownsMap Tryz.prog 93 zcy bm l.length D/\zsA D l
theorem zbh.lt{w:World}{bm:Nat}{l:List It}(h:zbh w bm l):bm<w.heap.size:=by obtain⟨D,hD,_⟩:=h;exact hD.lt
theorem zbh.made(w:World):zbh (w.alloc (.map #[] 0)) w.heap.size []:=⟨.map [],World.ownsMap_made w _ _ _,Rep.empty⟩
theorem zbh.block{w w':World}{bm:Nat}{l:List It}(h:zbh w bm l)(hb:w'.heap[bm]?=w.heap[bm]?):zbh w' bm l:=by
 obtain⟨D,⟨es,clock,h1,h2⟩,hR⟩:=h;exact⟨D,⟨es,clock,hb.trans h1,h2⟩,hR⟩
theorem zbh.below{B:Nat}{w w':World}{bm:Nat}{l:List It}(h:zbh w bm l)(hb:Below B w w')(hB:w.heap.size<=B):zbh w' bm l:=by
 obtain⟨D,h1,h2⟩:=h;exact⟨D,zbg h1 (hb.mono hB),h2⟩
theorem zbh.look{w:World}{bm:Nat}{l:List It}(h:zbh w bm l){x:It}(hx:zoC x) :
  (Instr.lookup 240 (.map (some bm)) (.agg #[.string x.name,.int .i64 x.a,.int .i64 x.b,.int .i64 x.c]) false).run Tryz.prog w=.ok (.bool (decide (x∈l))) w:=by
 obtain⟨D,hD,hR⟩:=h;obtain⟨v,ps,hrun,hv⟩:=hD.lookup zpG Tryz.underlying240 (zeq w) (zbc false) (zob x hx)
 by_cases hm:x∈l
 ·rw[show D.atKey (zgK x) (.lit (.bool false))=.lit (.bool true) from hR.at' (x,()) (by unfold zhv;exact List.mem_map.2 ⟨x,hm,rfl⟩) _] at hv;rw[zbR hv] at hrun;rw[decide_eq_true hm];exact hrun
 ·have hn:Maps.has D (zgK x)=false:=Rep.not hR hx (by rw[zgU];exact hm);rw[atKey_of_not_has hn] at hv;rw[zbR hv] at hrun;rw[decide_eq_false hm];exact hrun
theorem zbh.put{w:World}{bm:Nat}{l:List It}(h:zbh w bm l)(hl:l.length<1000000){x:It}(hx:zoC x)(hn:x∉l) :
  ∃w',(Instr.mapUpdate 240 (.map (some bm)) (.agg #[.string x.name,.int .i64 x.a,.int .i64 x.b,.int .i64 x.c]) (.bool true)).run Tryz.prog w=.ok () w'/\zbh w' bm (l++[x])/\w.grownBy w' (some bm):=by
 obtain⟨D,hD,hR⟩:=h;obtain⟨w',hrun,g1,k1⟩:=hD.update zpG Tryz.underlying240 (by unfold maxLen;omega) (zob x hx) (zbc true);have hR1:zsA (D.put (zgK x) (.lit (.bool true))) (l++[x]):=by
  have:=Rep.put hR (fun a b ha hb e=>zl8 ha hb e) (fun _=>trivial) hx (by rw[zgU];exact hn) ();show Rep _ _ _ _ (zhv (l++[x]));unfold zhv at *;rw[List.map_append];exact this
 refine⟨w',hrun,⟨_,?_,hR1⟩,k1⟩;have h2:=hR1.size;unfold zhv at h2;rw[List.length_map] at h2;exact h2▸zbt g1
theorem zbh.len{w:World}{bm:Nat}{l:List It}(h:zbh w bm l)(ty:TypeId):(Builtin.len_ #[240] ty #[.map (some bm)]).run Tryz.prog w=.ok (.int .i64 l.length) w:=by
 obtain⟨D,hD,hR⟩:=h;rw[hD.len Tryz.underlying240 ty,hR.size,zhv,List.length_map]
theorem zbA.ne{w:World}{bm b:Nat}{l:List It}{t:TypeId}{cs:Array Value}(h:zbA w bm l)(hb:Blk w b t cs):bm≠b:=by
 rintro rfl;obtain⟨D,⟨es,clock,h1,_⟩,_⟩:=h;have:=h1.symm.trans hb;cases this
theorem zbh.ne{w:World}{bm b:Nat}{l:List It}{t:TypeId}{cs:Array Value}(h:zbh w bm l)(hb:Blk w b t cs):bm≠b:=by
 rintro rfl;obtain⟨D,⟨es,clock,h1,_⟩,_⟩:=h;have:=h1.symm.trans hb;cases this
end
section
open Go.RowKit Go.Maps
def U64(x:Int):Prop:=0<=x/\x<=18446744073709551615
theorem zsN{x:Int}(h:U64 x):(Lit.int .u64 x).wf=true:=by
 unfold U64 at h;simp[Lit.wf,IntKind.min,IntKind.max,IntKind.signed,IntKind.bits];omega
theorem zqD:Keyed Tryz.prog 3:=int_keyed Tryz.underlying3
theorem zqn{x:Int}(h:I64 x):keyOf Tryz.prog 3 (.int .i64 x)=some (.int .i64 x):=keyOf_int_mk Tryz.underlying3 (zrY h)
theorem zqZ:Keyed Tryz.prog 48:=int_keyed Tryz.underlying48
theorem zq2{x:Int}(h:U64 x):keyOf Tryz.prog 48 (.int .u64 x)=some (.int .u64 x):=keyOf_int_mk Tryz.underlying48 (zsN h)
def IBm(w:World)(bm:Nat)(L:List (Int × Bool)):Prop:=∃D,w.ownsMap Tryz.prog 3 zcy bm L.length D/\Rep I64 (fun x=>Lit.int .i64 x) (fun b:Bool=>.lit (.bool b)) D L
def UBm(w:World)(bm:Nat)(L:List (Int × Bool)):Prop:=∃D,w.ownsMap Tryz.prog 48 zcy bm L.length D/\Rep U64 (fun x=>Lit.int .u64 x) (fun b:Bool=>.lit (.bool b)) D L
section
variable {w w':World} {bm:Nat} {L:List (Int × Bool)}
theorem UBm.lt(h:UBm w bm L):bm<w.heap.size:=by obtain⟨D,hD,_⟩:=h;exact hD.lt
theorem IBm.below(h:IBm w bm L)(hb:zB w w'):IBm w' bm L:=by obtain⟨D,hD,hR⟩:=h;exact⟨D,zbg hD hb,hR⟩
theorem UBm.below(h:UBm w bm L)(hb:zB w w'):UBm w' bm L:=by obtain⟨D,hD,hR⟩:=h;exact⟨D,zbg hD hb,hR⟩
theorem IBm.made(w:World):IBm (w.alloc (.map #[] 0)) w.heap.size []:=⟨.map [],World.ownsMap_made w _ _ _,Rep.empty⟩
theorem UBm.made(w:World):UBm (w.alloc (.map #[] 0)) w.heap.size []:=⟨.map [],World.ownsMap_made w _ _ _,Rep.empty⟩
theorem UBm.far{r:Option Nat}(h:UBm w bm L)(hg:w.grownBy w' r)(hr:r≠some bm):UBm w' bm L:=by
 obtain⟨D,⟨es,clock,h1,h2⟩,hR⟩:=h;exact⟨D,⟨es,clock,(hg.block bm (Array.getElem?_eq_some_iff.1 h1).1 (fun e=>hr e.symm)).trans h1,h2⟩,hR⟩
theorem IBm.look(h:IBm w bm L){p:Int × Bool}(hp:p∈L):(Instr.lookup 198 (.map (some bm)) (.int .i64 p.1) false).run Tryz.prog w=.ok (.bool p.2) w:=by
 obtain⟨D,hD,hR⟩:=h;obtain⟨v,ps,hrun,hv⟩:=hD.lookup zqD Tryz.underlying198 (zeq w) (zbc false) (zqn (Rep.oks hR p hp));rw[Rep.at' hR p hp] at hv;rw[zbR hv] at hrun;exact hrun
theorem IBm.none(h:IBm w bm L){x:Int}(hx:I64 x)(hn:x∉L.map Prod.fst):(Instr.lookup 198 (.map (some bm)) (.int .i64 x) false).run Tryz.prog w=.ok (.bool false) w:=by
 obtain⟨D,hD,hR⟩:=h;obtain⟨v,ps,hrun,hv⟩:=hD.lookup zqD Tryz.underlying198 (zeq w) (zbc false) (zqn hx);rw[atKey_of_not_has (Rep.not hR hx hn)] at hv;rw[zbR hv] at hrun;exact hrun
theorem UBm.look(h:UBm w bm L){p:Int × Bool}(hp:p∈L):(Instr.lookup 224 (.map (some bm)) (.int .u64 p.1) false).run Tryz.prog w=.ok (.bool p.2) w:=by
 obtain⟨D,hD,hR⟩:=h;obtain⟨v,ps,hrun,hv⟩:=hD.lookup zqZ Tryz.underlying224 (zeq w) (zbc false) (zq2 (Rep.oks hR p hp));rw[Rep.at' hR p hp] at hv;rw[zbR hv] at hrun;exact hrun
theorem IBm.put(h:IBm w bm L)(hl:L.length<1000000){a:Int}(ha:I64 a)(hn:a∉L.map Prod.fst)(b:Bool):∃w',(Instr.mapUpdate 198 (.map (some bm)) (.int .i64 a) (.bool b)).run Tryz.prog w=.ok () w'/\IBm w' bm (L++[(a,b)])/\w.grownBy w' (some bm):=by
 obtain⟨D,hD,hR⟩:=h;obtain⟨w',hrun,h1,h2⟩:=hD.update zqD Tryz.underlying198 (by unfold maxLen;omega) (zqn ha) (zbc b);have hR':=Rep.put hR (fun a b _ _ e=>by injection e) (fun _=>trivial) ha hn b;exact⟨w',hrun,⟨_,hR'.size▸zbt h1,hR'⟩,h2⟩
theorem UBm.put(h:UBm w bm L)(hl:L.length<1000000){a:Int}(ha:U64 a)(hn:a∉L.map Prod.fst)(b:Bool):∃w',(Instr.mapUpdate 224 (.map (some bm)) (.int .u64 a) (.bool b)).run Tryz.prog w=.ok () w'/\UBm w' bm (L++[(a,b)])/\w.grownBy w' (some bm):=by
 obtain⟨D,hD,hR⟩:=h;obtain⟨w',hrun,h1,h2⟩:=hD.update zqZ Tryz.underlying224 (by unfold maxLen;omega) (zq2 ha) (zbc b);have hR':=Rep.put hR (fun a b _ _ e=>by injection e) (fun _=>trivial) ha hn b;exact⟨w',hrun,⟨_,hR'.size▸zbt h1,hR'⟩,h2⟩
end
end
section
open Go.RowKit
def tv(told:List Int)(i:Nat):Int:=if ((i:Int)+1)∈told then 1 else if -((i:Int)+1)∈told then -1 else 0
def zbB(told:List Int)(x:Int):Int:=if x∈told then 1 else if -x∈told then -1 else 0
def zdH(told:List Int):Prop:=∀x∈told,-x∉told
def zeZ(v:Int)(xs:List Int):Prop:=∀x∈xs,zcX v x=true
theorem zaq{v x:Int}:zcX v x=true↔x≠0/\-v<=x/\x<=v:=by simp[zcX]
theorem znO(told:List Int)(t:Nat):zbB told ((t:Int)+1)=tv told t:=rfl
theorem zm6{told:List Int}(hc:zdH told)(t:Nat):zbB told (-((t:Int)+1))=- tv told t:=by
 unfold zbB tv;rw[Int.neg_neg]
 by_cases h1:((t:Int)+1)∈told
 ·have h2:=hc _ h1;rw[if_pos h1,if_neg h2,if_pos h1]
 ·by_cases h2:-((t:Int)+1)∈told
  ·rw[if_pos h2,if_neg h1,if_pos h2];rfl
  ·rw[if_neg h2,if_neg h1,if_neg h1,if_neg h2];rfl
theorem zor(told:List Int)(t:Nat):-1<=tv told t/\tv told t<=1:=by
 unfold tv;split
 ·omega
 ·split<;>omega
theorem zjg(told:List Int)(x:Int):zbB told x=-1\/zbB told x=0\/zbB told x=1:=by
 unfold zbB;split
 ·omega
 ·split<;>omega
theorem zeM{told:List Int}{x:Int}:zbB told x=0↔x∉told/\-x∉told:=by
 unfold zbB
 by_cases h1:x∈told
 ·simp[h1]
 ·by_cases h2:-x∈told
  ·simp[h1,h2]
  ·simp[h1,h2]
theorem zgi{told:List Int}{x:Int}:0<zbB told x↔x∈told:=by
 unfold zbB
 by_cases h1:x∈told
 ·simp[h1]
 ·by_cases h2:-x∈told<;>simp[h1,h2]
theorem zkT{told:List Int}(hc:zdH told){x:Int}:0<=zbB told x↔-x∉told:=by
 unfold zbB
 by_cases h1:x∈told
 ·have:=hc x h1;simp[h1,this]
 ·by_cases h2:-x∈told<;>simp[h1,h2]
def zej(told:List Int)(one x:Int):Bool:=decide (0<zbB told x)||(decide (zbB told x=0)&&x != one)
def za8(told:List Int)(c:List Int):Int × Bool :=
 if zhB (fun x=>decide (0<=zbB told x)) c<0 then (0,true)
 else if (c.drop (zhB (fun x=>decide (0<=zbB told x)) c).toNat).any (zej told (c.getD (zhB (fun x=>decide (0<=zbB told x)) c).toNat 0)) then (0,false)
 else (c.getD (zhB (fun x=>decide (0<=zbB told x)) c).toNat 0,true)
theorem zd7{α:Type}(p:α->Bool)(xs:List α)(d:α):(zhB p xs=-1/\∀x∈xs,p x=false)\/∃k:Nat,zhB p xs=(k:Int)/\k<xs.length/\p (xs.getD k d)=true/\∀x∈xs.take k,p x=false:=by
 unfold zhB;cases h:xs.findIdx? p with
 |none=>exact Or.inl ⟨rfl,fun x hx=>by simpa using List.findIdx?_eq_none_iff.1 h x hx⟩
 |some k =>rw[List.findIdx?_eq_some_iff_getElem] at h;obtain⟨hk,hp,hj⟩:=h;refine Or.inr ⟨k,rfl,hk,by rw[List.getD_eq_getElem?_getD,List.getElem?_eq_getElem hk];exact hp,fun x hx=>?_⟩;obtain⟨j,hjk,rfl⟩:=List.getElem_of_mem hx;rw[List.length_take] at hjk;rw[List.getElem_take];simpa using hj j (by omega)
inductive zgO (told c:List Int):Int × Bool->Prop
 |none (h:∀x∈c,x∉told/\-x∈told):zgO told c (0,true)
 |one {x:Int} (hx:x∈c) (h0:x∉told) (h1:-x∉told) (h:∀y∈c,y≠x->y∉told/\-y∈told):zgO told c (x,true)
 |held {x:Int} (hx:x∈c) (h:x∈told):zgO told c (0,false)
 |two {x y:Int} (hx:x∈c) (hy:y∈c) (hne:x≠y) (h0:x∉told) (h1:-x∉told) (h2:y∉told) (h3:-y∉told):zgO told c (0,false)
theorem zh1{told c:List Int}(hc:zdH told):zgO told c (za8 told c):=by
 unfold za8;have hng:∀x,(decide (0<=zbB told x))=false↔-x∈told:=fun x=>by
  rw[decide_eq_false_iff_not,zkT hc,Classical.not_not]
 have hnt:∀x,-x∈told->x∉told:=fun x h h2=>hc x h2 h;rcases zd7 (fun x=>decide (0<=zbB told x)) c 0 with ⟨hi,h⟩|⟨k,hi,hk,hp,hl⟩
 ·rw[hi,if_pos (by omega)];exact .none fun x hx=>⟨hnt x ((hng x).1 (h x hx)),(hng x).1 (h x hx)⟩
 ·rw[hi,if_neg (by omega),Int.toNat_natCast];have hm:c.getD k 0∈c:=zaM hk;have hpo:-(c.getD k 0)∉told:=(zkT hc).1 (of_decide_eq_true hp)
  by_cases hany:(c.drop k).any (zej told (c.getD k 0))=true
  ·rw[if_pos hany];obtain⟨y,hy,hmo⟩:=List.any_eq_true.1 hany;have hyc:=List.mem_of_mem_drop hy;unfold zej at hmo;rw[Bool.or_eq_true,Bool.and_eq_true] at hmo;rcases hmo with h1|⟨h1,h2⟩
   ·exact .held hyc (zgi.1 (of_decide_eq_true h1))
   ·have h3:=zeM.1 (of_decide_eq_true h1)
    by_cases hot:c.getD k 0∈told
    ·exact .held hm hot
    ·exact .two hm hyc (fun e=>by rw[<-e,bne_self_eq_false] at h2;cases h2) hot hpo h3.1 h3.2
  ·rw[if_neg hany];have hany':∀y∈c.drop k,zej told (c.getD k 0) y=false:=fun y hy=>by
    cases hh:zej told (c.getD k 0) y with
    |false=>rfl
    |true=>exact absurd (List.any_eq_true.2 ⟨y,hy,hh⟩) hany
   have hot:c.getD k 0∉told:=fun h=>by
    have:=hany' (c.getD k 0) (by
     rw[List.getD_eq_getElem?_getD,List.getElem?_eq_getElem hk];exact List.mem_drop_iff_getElem.2 ⟨0,by omega,by simp⟩)
    unfold zej at this;rw[Bool.or_eq_false_iff] at this;exact(of_decide_eq_false this.1) (zgi.2 h)
   refine .one hm hot hpo fun y hy hne=>?_;rw[<-List.take_append_drop k c,List.mem_append] at hy;rcases hy with hy|hy
   ·have:=(hng y).1 (hl y hy);exact⟨hnt y this,this⟩
   ·have:=hany' y hy;unfold zej at this;rw[Bool.or_eq_false_iff,Bool.and_eq_false_iff] at this;have h1:=of_decide_eq_false this.1;have h2:zbB told y≠0:=by
     rcases this.2 with h|h
     ·exact of_decide_eq_false h
     ·simp at h;exact absurd h hne
    have h3:-y∈told:=by
     by_cases hm:-y∈told
     ·exact hm
     ·exact absurd (zeM.2 ⟨fun h=>h1 (zgi.2 h),hm⟩) h2
    exact⟨hnt y h3,h3⟩
def zaF(told:List Int)(l:List (List Int)):Int × Int :=
 match l.findIdx? (fun c=>(za8 told c).2) with|some i=>((i:Int),(za8 told (l.getD i [])).1)|none=>(-1,0)
theorem zgL{told:List Int}{l:List (List Int)}{k:Nat}(h0:∀j,j<k->(za8 told (l.getD j [])).2=false)(hk:k<l.length)(h1:(za8 told (l.getD k [])).2=true):zaF told l=((k:Int),(za8 told (l.getD k [])).1):=by
 have:l.findIdx? (fun c=>(za8 told c).2)=some k:=by
  rw[List.findIdx?_eq_some_iff_getElem];refine⟨hk,?_,fun j hj=>?_⟩
  ·rw[List.getD_eq_getElem?_getD,List.getElem?_eq_getElem hk] at h1;exact h1
  ·have:=h0 j hj;rw[List.getD_eq_getElem?_getD,List.getElem?_eq_getElem (by omega)] at this;simpa using this
 unfold zaF;rw[this]
theorem zfo{told:List Int}{l:List (List Int)}(h0:∀j,j<l.length->(za8 told (l.getD j [])).2=false):zaF told l=(-1,0):=by
 have:l.findIdx? (fun c=>(za8 told c).2)=none:=by
  rw[List.findIdx?_eq_none_iff];intro x hx;obtain⟨j,hj,rfl⟩:=List.getElem_of_mem hx;have:=h0 j hj;rw[List.getD_eq_getElem?_getD,List.getElem?_eq_getElem hj] at this;simpa using this
 unfold zaF;rw[this]
inductive zhl (told:List Int) (l:List (List Int)):Int × Int->Prop
 |none (h:∀c∈l,(∃x∈c,x∈told)\/∃x∈c,∃y∈c,x≠y/\x∉told/\-x∉told/\y∉told/\-y∉told):zhl told l (-1,0)
 |bad {k:Nat} (hk:k<l.length) (h:∀x∈l.getD k [],x∉told/\-x∈told):zhl told l ((k:Int),0)
 |one {k:Nat} {x:Int} (hk:k<l.length) (hx:x∈l.getD k []) (h0:x∉told) (h1:-x∉told) (h:∀y∈l.getD k [],y≠x->y∉told/\-y∈told):zhl told l ((k:Int),x)
theorem zda{told:List Int}{l:List (List Int)}(hc:zdH told):zhl told l (zaF told l):=by
 unfold zaF;cases h:l.findIdx? (fun c=>(za8 told c).2) with
 |none =>
  rw[List.findIdx?_eq_none_iff] at h;refine .none fun c hcl=>?_;have h1:=h c hcl;have h2:=zh1 (c:=c) hc;generalize za8 told c=r at *;cases h2 with
  |none=>simp at h1
  |one=>simp at h1
  |held hx h=>exact Or.inl ⟨_,hx,h⟩
  |two hx hy hne q0 q1 q2 q3=>exact Or.inr ⟨_,hx,_,hy,hne,q0,q1,q2,q3⟩
 |some k =>
  rw[List.findIdx?_eq_some_iff_getElem] at h;obtain⟨hk,hp,-⟩:=h;have e:l.getD k []=l[k]:=by rw[List.getD_eq_getElem?_getD,List.getElem?_eq_getElem hk];rfl
  rw[<-e] at hp;have h2:=zh1 (c:=l.getD k []) hc;show zhl told l ((k:Int),(za8 told (l.getD k [])).1);generalize za8 told (l.getD k [])=r at *;cases h2 with
  |none h=>exact .bad hk h
  |one hx h0 h1 h=>exact .one hk hx h0 h1 h
  |held=>simp at hp
  |two=>simp at hp
inductive zb5 (l:List (List Int)):List Int->List Int->Int->Prop
 |stop {told:List Int} {i:Int} (h:zaF told l=(i,0)):zb5 l told told i
 |step {told t:List Int} {i x b:Int} (h:zaF told l=(i,x)) (hx:x≠0) (hs:zb5 l (told++[x]) t b):zb5 l told t b
theorem zb5.at_stop{l:List (List Int)}{told t:List Int}{i b:Int}(h:zb5 l told t b)(hn:zaF told l=(i,0)):t=told/\b=i:=by
 cases h with
 |stop h=>rw[hn] at h;cases h;exact⟨rfl,rfl⟩
 |step h hx _=>rw[hn] at h;cases h;exact absurd rfl hx
theorem zb5.at_step{l:List (List Int)}{told t:List Int}{i x b:Int}(h:zb5 l told t b)(hn:zaF told l=(i,x))(hx:x≠0):zb5 l (told++[x]) t b:=by
 cases h with
 |stop h=>rw[hn] at h;cases h;exact absurd rfl hx
 |step h _ hs=>rw[hn] at h;cases h;exact hs
def zdW(told:List Int):Nat:=(List.range 24).countP (fun i=>tv told i==0)
theorem zla{p q:Nat->Bool}{l:List Nat}(h:∀x∈l,q x=true->p x=true){j:Nat}(hj:j∈l)(hp:p j=true)(hq:q j=false):l.countP q<l.countP p:=by
 induction l with
 |nil=>cases hj
 |cons a l ih =>
  have hle:l.countP q<=l.countP p:=List.countP_mono_left fun x hx=>h x (List.mem_cons_of_mem _ hx);rw[List.countP_cons,List.countP_cons]
  by_cases e:a=j
  ·subst e;rw[hp,hq];simp;omega
  ·have:=ih (fun x hx=>h x (List.mem_cons_of_mem _ hx)) (by cases hj with|head=>exact absurd rfl e|tail _ h=>exact h);have ha:=h a (List.mem_cons_self);cases hqa:q a with
   |true=>rw[ha hqa];simp;omega
   |false=>cases p a<;>simp<;>omega
theorem zkR{told:List Int}{x:Int}(hn:-x∉told)(i:Nat):tv (told++[x]) i=if (i:Int)+1=x then 1 else if (i:Int)+1=-x then -1 else tv told i:=by
 unfold tv;simp only[List.mem_append,List.mem_singleton]
 by_cases h1:(i:Int)+1=x
 ·rw[if_pos (Or.inr h1),if_pos h1]
 ·rw[if_neg h1]
  by_cases h2:(i:Int)+1=-x
  ·have h0:(i:Int)+1∉told:=by rw[h2];exact hn
   rw[if_pos h2,if_neg (by rintro (h|h);exact h0 h;exact h1 h),if_pos (Or.inr (by omega))]
  ·rw[if_neg h2];have h3:¬-((i:Int)+1)=x:=by omega
   have e1:((i:Int)+1∈told\/(i:Int)+1=x)↔(i:Int)+1∈told:=⟨fun h=>h.resolve_right h1,Or.inl⟩;have e2:(-((i:Int)+1)∈told\/-((i:Int)+1)=x)↔-((i:Int)+1)∈told:=⟨fun h=>h.resolve_right h3,Or.inl⟩;simp only[e1,e2]
theorem zdb{told:List Int}{i:Nat}:tv told i=0↔(i:Int)+1∉told/\-((i:Int)+1)∉told:=by
 show zbB told ((i:Int)+1)=0↔_;exact zeM
theorem zb8{told:List Int}{x:Int}(hl:zcX 24 x=true)(h0:x∉told)(h1:-x∉told):zdW (told++[x])<zdW told:=by
 rw[zaq] at hl;have ht:=zkR h1;unfold zdW;refine zla (j:=(if 0<x then x else -x).toNat-1) (fun i _ hi=>?_) (List.mem_range.2 (by split<;>omega)) ?_ ?_
 ·have hi':tv (told++[x]) i=0:=by simpa using hi
  rw[ht] at hi'
  by_cases e1:(i:Int)+1=x
  ·rw[if_pos e1] at hi';cases hi'
  ·by_cases e2:(i:Int)+1=-x
   ·rw[if_neg e1,if_pos e2] at hi';cases hi'
   ·rw[if_neg e1,if_neg e2] at hi';simpa using hi'
 ·have:tv told ((if 0<x then x else -x).toNat-1)=0:=by
   rw[zdb]
   by_cases hp:0<x
   ·rw[if_pos hp,show ((x.toNat-1:Nat):Int)+1=x by omega];exact⟨h0,h1⟩
   ·rw[if_neg hp,show (((-x).toNat-1:Nat):Int)+1=-x by omega,Int.neg_neg];exact⟨h1,h0⟩
  simpa using this
 ·have:tv (told++[x]) ((if 0<x then x else -x).toNat-1)≠0:=by
   rw[ht]
   by_cases hp:0<x
   ·rw[if_pos hp,if_pos (by omega)];omega
   ·rw[if_neg hp,if_neg (by omega),if_pos (by omega)];omega
  simpa using this
theorem ze1{told:List Int}{x:Int}(hc:zdH told)(hx:x≠0)(h1:-x∉told):zdH (told++[x]):=by
 intro y hy hn;simp only[List.mem_append,List.mem_singleton] at hy hn;rcases hy with hy|hy
 ·rcases hn with hn|hn
  ·exact hc y hy hn
  ·exact h1 (by rw[show -x=y by omega];exact hy)
 ·rcases hn with hn|hn
  ·rw[hy] at hn;exact h1 hn
  ·omega
theorem zfa{v:Int}{told:List Int}{x:Int}(hc:zeZ v told)(hx:zcX v x=true):zeZ v (told++[x]):=by
 intro y hy;simp only[List.mem_append,List.mem_singleton] at hy;rcases hy with hy|hy
 ·exact hc y hy
 ·rw[hy];exact hx
theorem zoD:zdH []:=fun x hx=>by cases hx
theorem znf(v:Int):zeZ v []:=fun x hx=>by cases hx
def zbT(v:Int)(l:List (List Int)):Prop:=∀c∈l,zeZ v c
theorem zdA{v x:Int}(hv:v<=24)(h:zcX v x=true):zcX 24 x=true:=by
 rw[zaq] at *;omega
theorem zl9{l:List (List Int)}{v:Int}(hv:v<=24)(hl:zbT v l):∀(n:Nat) (told:List Int),zdW told<=n->zdH told->zeZ v told->∃t b,zb5 l told t b:=by
 intro n
 induction n with
 |zero =>
  intro told hf hc hs;have hn:=zda (l:=l) hc;generalize e:zaF told l=r at hn;cases hn with
  |none=>exact⟨_,_,.stop e⟩
  |bad=>exact⟨_,_,.stop e⟩
  |one hk hx h0 h1 _ =>have:=zb8 (zdA hv (hl _ (zaM hk) _ hx)) h0 h1;omega
 |succ n ih =>
  intro told hf hc hs;have hn:=zda (l:=l) hc;generalize e:zaF told l=r at hn;cases hn with
  |none=>exact⟨_,_,.stop e⟩
  |bad=>exact⟨_,_,.stop e⟩
  |one hk hx h0 h1 _ =>have hlx:=hl _ (zaM hk) _ hx;have hx0:=(zaq.1 hlx).1;have:=zb8 (zdA hv hlx) h0 h1;obtain⟨t,b,hs⟩:=ih _ (by omega) (ze1 hc hx0 h1) (zfa hs hlx);exact⟨t,b,.step e hx0 hs⟩
theorem zcH{l:List (List Int)}{v:Int}(hl:zbT v l){told:List Int}(hc:zdH told)(hs:zeZ v told){i x:Int}(e:zaF told l=(i,x))(hx:x≠0):zcX v x=true/\x∉told/\-x∉told/\zdH (told++[x])/\zeZ v (told++[x]):=by
 have hn:=zda (l:=l) hc;rw[e] at hn;cases hn with
 |none=>exact absurd rfl hx
 |bad=>exact absurd rfl hx
 |one hk hxc h0 h1 _ =>have hlx:=hl _ (zaM hk) _ hxc;exact⟨hlx,h0,h1,ze1 hc hx h1,zfa hs hlx⟩
end
section
open Go.RowKit
theorem zk4{m:Nat}(h:m<2^24){i:Nat}(hi:24<=i):m.testBit i=false:=Nat.testBit_lt_two_pow (Nat.lt_of_lt_of_le h (Nat.pow_le_pow_right (by omega) hi))
def zcd(m v:Nat):Nat:=m^^^(m&&&2^v)
theorem zfV(m v i:Nat):(zcd m v).testBit i=(m.testBit i&&!decide (v=i)):=by
 unfold zcd;rw[Nat.testBit_xor,Nat.testBit_and,Nat.testBit_two_pow];cases m.testBit i<;>by_cases hj:v=i<;>simp[hj]
theorem zru{m v:Nat}(hm:m<2^24)(hv:v<24):m&&&(18446744073709551615-2^v)=zcd m v:=by
 apply Nat.eq_of_testBit_eq;intro i;have hp:2^v<2^64:=Nat.pow_lt_pow_right (by omega) (by omega);have e:18446744073709551615-2^v=2^64-(2^v+1):=by omega
 rw[zfV,Nat.testBit_and,e,Nat.testBit_two_pow_sub_succ hp,Nat.testBit_two_pow]
 by_cases hi:i<24
 ·rw[decide_eq_true (show i<64 by omega)];simp
 ·rw[zk4 hm (by omega)];simp
end
section
open Go.RowKit Go.Deep
theorem zhc:(Tryz.prog.info? 48).map (fun i=>(i.zero,i.size,i.bytes))=some (some (.int .u64 0),1,8):=by kernel_rfl
def zby(l:List Nat):List Value:=l.map fun n:Nat=>Value.int .u64 n
theorem zcP(l:List Nat)(x:Nat):zby (l++[x])=zby l++[.int .u64 x]:=by simp[zby]
theorem zco(w:World)(x:Value)(t:TypeId):∀(j:Nat) (u:Value),[x][j]?=some u->(w.alloc (.cells #[x] t)).cell? ((⟨w.heap.size,0,none⟩:Addr).add j)=some u:=by
 intro j u hj;have:j=0:=by have:=(List.getElem?_eq_some_iff.1 hj).1;simp at this;omega
 subst this;rw[zau,(Blk.new w t #[x]).cell];exact hj
theorem zdu(x:Int):∀u∈[Value.int .u64 x],u.oneCell'=true:=fun u hu=>by rw[List.mem_singleton] at hu;subst hu;rfl
def zsB(W0:World)(F:FuncId)(cb:Array Value)(so:Nat->Bool)(n:Nat):Prop:=∀W (x:Nat),zB W0 W->x<2^n->zR F (#[.int .u64 x]++cb) W (.bool (so x))
def zdO(n set:Nat)(so:Nat->Bool):Bool:=(List.range n).any fun k=>set.testBit k&&so (zcd set k)
def zaw(n:Nat)(so:Nat->Bool)(k:Nat):List Nat:=(List.range k).filter fun s=>so s&&!zdO n s so
theorem zh2(n:Nat)(so:Nat->Bool)(k:Nat):zaw n so (k+1)=zaw n so k++(if (so k&&!zdO n k so)=true then [k] else []):=by
 unfold zaw;rw[List.range_succ,List.filter_append];congr 1;cases h:(so k&&!zdO n k so)<;>simp[h]
theorem zed(n:Nat)(so:Nat->Bool)(k:Nat):(zaw n so k).length<=k:=by
 unfold zaw;exact Nat.le_trans (List.length_filter_le _ _) (by simp)
theorem zoS{m v n:Nat}(hm:m<2^n):zcd m v<2^n:=Nat.lt_pow_two_of_testBit _ (fun i hi=>by rw[zfV,Nat.testBit_lt_two_pow (Nat.lt_of_lt_of_le hm (Nat.pow_le_pow_right (by omega) hi))];rfl)
theorem zj2(m k:Nat):(((m&&&2^k:Nat):Int) != 0)=m.testBit k:=by
 have h:=Nat.testBit_and m (2^k) k;rw[Nat.testBit_two_pow] at h;cases hb:m.testBit k with
 |true =>
  have:m&&&2^k≠0:=fun e=>by rw[e,hb] at h;simp at h
  simpa using this
 |false =>
  have:m&&&2^k=0:=Nat.eq_of_testBit_eq fun i=>by
   rw[Nat.testBit_and,Nat.testBit_two_pow,Nat.zero_testBit]
   by_cases e:k=i
   ·subst e;rw[hb];rfl
   ·simp[e]
  rw[this];rfl
theorem zlg(n:Nat)(hn:n<=12)(set:Nat)(hs:set<2^n)(F:FuncId)(cb:Array Value)(hent:∀args w,(callFunc F args).run Tryz.prog w=.ok (.enter F args) w)(so:Nat->Bool)(w:World)(hso:zsB w F cb so n) :
  zR 203 #[.int .i64 n,.int .u64 set,.func (.func F) #[] cb] w (.bool (zdO n set so)):=by
 have HSO:Hid (∀W (x:Nat),zB w W->x<2^n->zR F (#[.int .u64 x]++cb) W (.bool (so x))):=hso;have h12:(2:Nat)^n<=4096:=Nat.pow_le_pow_right (n:=2) (by omega) hn;clear hso;go_enter Tryz.func203,Tryz.ntmps203;go_wp2_with fail;go_loopw [10] (fun kV wr=>∃k:Nat,k<=n/\kV=.int .i64 k/\(∀j,j<k->(set.testBit j&&so (zcd set j))=false)/\zB w wr) (fun kV _=>n-(intOf kV).toNat)
 case atStart=>exact⟨0,Nat.zero_le _,rfl,fun j h=>by omega,Below.refl _ _⟩
 case round =>
  obtain⟨k,hk,rfl,hall,hbw⟩:=hrel;have HALL:=zH hall;have HBW:=zH hbw;clear hall hbw
  by_cases hlt:k<n
  ·have hki:(k:Int)<(n:Int):=by omega
   have hk0:(0:Int)<=(k:Int):=by omega
   have hp:(2:Nat)^k<=4096:=Nat.pow_le_pow_right (n:=2) (j:=12) (by omega) (by omega);have e2:((2:Int)^k)=((2^k:Nat):Int):=by simp
   have hsh:IntKind.u64.wrap (2^k)=(2:Int)^k:=by
    rw[e2,IntKind.wrap_u64];exact Int.emod_eq_of_lt (Int.natCast_nonneg _) (by omega)
   have han:=bits_and_u64_nat set (2^k) (by omega) (by omega);have hno:=u64_andNot_nat set (2^k) (by omega) (by omega);rw[zru (Nat.lt_of_lt_of_le hs (Nat.pow_le_pow_right (by omega) (by omega))) (by omega)] at hno;rw[<-e2] at han hno;have hne:=zj2 set k;have HOF:=zH (HSO.out _ (zcd set k) HBW.out (zoS hs));have HN1:Hid ((set.testBit k&&so (zcd set k))=false->∀j,j<k+1->(set.testBit j&&so (zcd set j))=false):=fun h j hj=>by
    by_cases e:j=k
    ·rw[e];exact h
    ·exact HALL.out j (by omega)
   have HY:Hid ((set.testBit k&&so (zcd set k))=true->zdO n set so=true):=fun h=>List.any_eq_true.2 ⟨k,List.mem_range.2 hlt,h⟩;generalize zcd set k=of at HOF HN1 HY hno;generalize (set&&&2^k)=am at *;generalize set.testBit k=tb at HN1 HY hne;clear e2 hp;cases tb with
   |false =>
    clear HOF HY;go_wp2;go_roundw
    case rel=>exact⟨k+1,hlt,by go_num,HN1.out rfl,HBW.out⟩
    case measure=>simp[intOf];omega
   |true =>
    go_wp2_with fail;refine HOF.out.mono ?_;rintro e w2 ⟨rfl,hb2⟩;have HB2:=zH (zT HBW.out hb2);clear hb2 HOF;cases hq:so of with
    |true =>have HR:=zH (HY.out (by rw[hq];rfl));clear hq;go_wp2;go_ret;exact⟨by rw[HR.out];rfl,HB2.out⟩
    |false =>
     have HR:=zH (HN1.out (by rw[hq];rfl));clear hq;go_wp2;go_roundw
     case rel=>exact⟨k+1,hlt,by go_num,HR.out,HB2.out⟩
     case measure=>simp[intOf];omega
  ·obtain rfl:k=n:=by omega
   have HF:Hid (zdO k set so=false):=by
    show _=_;unfold zdO;rw[List.any_eq_false];intro j hj;have:=HALL.out j (List.mem_range.1 hj);rw[this];simp
   clear HSO;go_wp2;go_ret;exact⟨by rw[HF.out];rfl,HBW.out⟩
theorem ziR(n:Nat)(hn:n<=12)(F:FuncId)(cb:Array Value)(hent:∀args w,(callFunc F args).run Tryz.prog w=.ok (.enter F args) w)(so:Nat->Bool)(w:World)(hso:zsB w F cb so n) :
  zC 124 #[.int .i64 n,.func (.func F) #[] cb] w fun e w'=>∃v,e=.returned v/\w'.ownsRow w.heap.size 48 1 v (zaw n so (2^n)).length (zby (zaw n so (2^n)))/\zB w w':=by
 obtain⟨i0,hin,hz0,hz1,hz2⟩:=info_parts zhc;have HSO:Hid (∀W (x:Nat),zB w W->x<2^n->zR F (#[.int .u64 x]++cb) W (.bool (so x))):=hso;have HWI:Hid (∀W (x:Nat),zB w W->x<2^n->zR 203 #[.int .i64 n,.int .u64 x,.func (.func F) #[] cb] W (.bool (zdO n x so))):=fun W x hW hx=>zlg n hn x hx F cb hent so W (fun W' y hW' hy=>hso W' y (zT hW hW') hy);have h12:(2:Nat)^n<=4096:=Nat.pow_le_pow_right (n:=2) (j:=12) (by omega) hn;have hsh:IntKind.u64.wrap (2^n)=((2^n:Nat):Int):=by
  rw[IntKind.wrap_u64,show ((2:Int)^n)=((2^n:Nat):Int) by simp];exact Int.emod_eq_of_lt (Int.natCast_nonneg _) (by omega)
 clear hso;generalize hN:(2^n:Nat)=N at *;clear hN;go_enter Tryz.func124,Tryz.ntmps124;go_wp2_with fail;go_loopw [5,9] (fun oV kV wr=>∃k:Nat,k<=N/\kV=.int .u64 k/\wr.ownsRow w.heap.size 48 1 oV (zaw n so k).length (zby (zaw n so k))/\zB w wr) (fun _ kV _=>N-(intOf kV).toNat)
 case atStart=>exact⟨0,Nat.zero_le _,rfl,World.ownsRow_nil _ _ _ _,Below.refl _ _⟩
 case round =>
  obtain⟨k,hk,rfl,hrow,hbw⟩:=hrel;have HROW:=zH hrow;have HBW:=zH hbw;obtain⟨oa,oc,rfl,-⟩:=zaj hrow;have hll:=zed n so k;clear hrow hbw
  by_cases hlt:k<N
  ·have hki:(k:Int)<(N:Int):=by omega
   have hw1:IntKind.u64.wrap ((k:Int)+1)=(k:Int)+1:=by rw[IntKind.wrap_u64];omega
   have HS1:=zH (HSO.out _ k HBW.out hlt);have HST:=zH (zh2 n so k);generalize hL:(zaw n so k).length=m at *;have HL:=zH hL;clear hL;go_wp2_with fail;refine HS1.out.mono ?_;rintro e w2 ⟨rfl,hb2⟩;have hb02:=zT HBW.out hb2;have HROW2:=zH (zgq HROW.out hb2);have HB2:=zH hb02;have HW2:=zH (HWI.out w2 k hb02 hlt);clear hb2 hb02 HS1 HROW HBW;cases hq:so k with
   |false =>
    rw[hq] at HST;simp only[Bool.false_and,Bool.false_eq_true,if_false,List.append_nil] at HST;have HR8:Hid (w2.ownsRow w.heap.size 48 1 (.slice oa m oc) (zaw n so (k+1)).length (zby (zaw n so (k+1)))):=by
     show World.ownsRow _ _ _ _ _ _ _;rw[HST.out,HL.out];exact HROW2.out
    clear HW2 HST hq;go_wp2;go_roundw
    case rel=>exact⟨k+1,hlt,by go_num,HR8.out,HB2.out⟩
    case measure=>simp[intOf];omega
   |true =>
    rw[hq] at HST;simp only[Bool.true_and] at HST;clear hq;go_wp2_with fail;refine HW2.out.mono ?_;rintro e w3 ⟨rfl,hb3⟩;have HROW3:=zH (zgq HROW2.out hb3);have HB3:=zH (zT HB2.out hb3);have hs3:=HB3.out.size;clear hb3 HROW2 HB2 HW2;cases hq:zdO n k so with
    |true =>
     rw[hq] at HST;simp only[Bool.not_true,Bool.false_eq_true,if_false,List.append_nil] at HST;have HR8:Hid (w3.ownsRow w.heap.size 48 1 (.slice oa m oc) (zaw n so (k+1)).length (zby (zaw n so (k+1)))):=by
      show World.ownsRow _ _ _ _ _ _ _;rw[HST.out,HL.out];exact HROW3.out
     clear HST hq;go_wp2;go_roundw
     case rel=>exact⟨k+1,hlt,by go_num,HR8.out,HB3.out⟩
     case measure=>simp[intOf];omega
    |false =>
     rw[hq] at HST;simp only[Bool.not_false,if_true] at HST;clear hq;go_upto_region 6 with fail;go_wp2_with (at_builtin;refine wpList_append_own_at _ rfl _ _ 38 rfl w.heap.size 48 i0 (.int .u64 0) 1 8 Tryz.underlying38 hin hz0 hz1 hz2 rfl (by decide) _ _ _ rfl (HROW3.out.alloc _) ⟨w3.heap.size,0,none⟩ 1 1 [.int .u64 k] rfl rfl ?e1 ?e2 ?e3 ?e4 ?e5 ?_)
     try(case e1=>exact zco _ _ _)
     case e2=>first|exact zdu _|rfl
     case e3=>unfold maxLen;omega
     case e4=>omega
     case e5=>first|omega|(simp;omega)
     intro v8 w8 hown8 hgrow8 _ hloc8;have HR8:Hid (w8.ownsRow w.heap.size 48 1 v8 (zaw n so (k+1)).length (zby (zaw n so (k+1)))):=by
      show World.ownsRow _ _ _ _ _ _ _;rw[HST.out,zcP,List.length_append,HL.out];exact hown8
     have HB8:Hid (zB w w8):=(HB3.out.alloc hs3 _).grown hgrow8 (by simp;omega) (fun k hk=>(HROW3.out.lt k hk).1);obtain⟨v8a,v8c,rfl,-⟩:=zaj hown8;clear hown8 hgrow8 hloc8 HROW3 HST;go_wp2;go_roundw
     case rel=>exact⟨k+1,hlt,by go_num,HR8.out,HB8.out⟩
     case measure=>simp[intOf];omega
  ·obtain rfl:k=N:=by omega
   clear HSO HWI;go_wp2;go_ret;exact⟨_,rfl,HROW.out,HBW.out⟩
end
end Go.Proofs.YtiihalknffbjpaaGreatDoor
