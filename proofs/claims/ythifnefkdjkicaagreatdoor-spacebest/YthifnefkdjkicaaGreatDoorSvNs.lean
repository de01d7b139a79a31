import Derived.Test.YthifnefkdjkicaaGreatDoorClRef
import Derived.Shelf.Strings.OnBuilder
import Derived.Shelf.Strings.Replace
import Derived.Shelf.Strings.BuilderK
open Go.Proofs.YthifnefkdjkicaaGreatDoor
set_option maxHeartbeats 4000000
set_option maxRecDepth 100000
namespace Go.Proofs.YthifnefkdjkicaaGreatDoor.Bd
open Go.RowKit Go.Deep
def ZN(l:List Nat):List Value:=l.map fun n:Nat=>Value.int .u64 n
theorem zii(l:List Nat)(x:Nat):ZN (l++[x])=ZN l++[.int .u64 x]:=by simp[ZN]
theorem zko(l:List Nat)(i:Nat)(h:i<l.length):(ZN l)[i]?=some (.int .u64 (l.getD i 0:Nat)):=by simp[ZN,List.getD_eq_getElem?_getD,h]
theorem zmf:(Tryz.prog.info? 22).map (fun i=>(i.zero,i.size,i.bytes))=some (some (.int .u64 0),1,8):=by kernel_rfl
theorem zhq(w:World)(x:Int)(t:TypeId):∀(j:Nat) (u:Value),[Value.int .u64 x][j]?=some u->(w.alloc (.cells #[.int .u64 x] t)).cell? ((w.heap.size:Addr).add j)=some u:=by
 intro j u hj;have:j=0:=by have:=(List.getElem?_eq_some_iff.1 hj).1;simp at this;omega
 subst this;rw[ZK,(Blk.new w t #[.int .u64 x]).cell];exact hj
theorem zmx(x:Int):∀u∈[Value.int .u64 x],u.oneCell'=true:=fun u hu=>by
 rw[List.mem_singleton] at hu;subst hu;rfl
theorem znB:∀m:Fin 256,bits BinOp.and IntKind.i64 ((m.val:Nat):Int) 1=((m.val%2:Nat):Int):=by decide +kernel
theorem zpi(k t:Nat)(hk:k<256):(bits BinOp.and IntKind.i64 ((k:Int)/2^t) 1==1)=k.testBit t:=by
 have e:(k:Int)/2^t=((k/2^t:Nat):Int):=by simp
 have hd:k/2^t<=k:=Nat.div_le_self _ _;rw[e,znB ⟨k/2^t,by omega⟩,Nat.testBit_eq_decide_div_mod_eq,Bool.eq_iff_iff];simp;omega
def UIn(w:World)(a:Option Addr)(l:List Nat):Prop:=∀i,i<l.length->∃ad:Addr,a=some ad/\ad.block<w.heap.size/\w.cell? (ad.add i)=some (.int .u64 (l.getD i 0:Nat))
theorem UIn.below{w w':World}{a:Option Addr}{l:List Nat}(h:UIn w a l)(hb:zB w w'):UIn w' a l:=fun i hi=>by
 obtain⟨ad,h1,h2,h3⟩:=h i hi;exact⟨ad,h1,Nat.lt_of_lt_of_le h2 hb.size,(hb.cell (p:=ad.add i) (by rw[Zt];exact h2)).trans h3⟩
theorem zmj{B:Nat}{w:World}{a:Option Addr}{c:Nat}{l:List Nat}(h:w.ownsRow B 22 1 (.slice a l.length c) l.length (ZN l)):UIn w a l:=by
 intro i hi;rcases h.2 with ⟨e,e0⟩|⟨g,j,o,e,-,hg,-⟩
 ·omega
 ·injection e with e1 e2 e3;subst e1;have:=h.cellAt i (by omega);refine⟨_,rfl,(Array.getElem?_eq_some_iff.1 hg).1,?_⟩;rw[ZK,Nat.zero_add,<-zko l i hi];subst e3;exact this
theorem zoe(vars:Nat)(hv:vars<=8)(K:List (List Int))(a:Option Addr)(cap:Nat)(w:World)(hI:xJ w a K)(hm:K.length<=10000)(hl:yP vars K) :
  zC 7 #[vars,.slice a K.length cap] w fun e w'=>∃v,e=.returned v/\w'.ownsRow w.heap.size 22 1 v (qj vars K (2^vars)).length (ZN (qj vars K (2^vars)))/\zB w w':=by
 obtain⟨i0,a1,a7,a8,a9⟩:=info_parts zmf;have Y:(2:Nat)^vars<=256:=Nat.pow_le_pow_right (n:=2) (by omega) hv;have a4:0<(2:Nat)^vars:=Nat.two_pow_pos vars;have R:Hid (∀x:Nat,x<18446744073709551616->∀W,zB w W->zC 24 #[.slice a K.length cap,.int .u64 x] W fun e w'=>e=.returned (.bool (yF x K))/\W=w'):=fun x hx W hW=>zlS K a cap x hx W (hI.below hW) (by omega) (fun c hc y hy=>QM (by omega) (hl c hc y hy));obtain⟨N,hN⟩:∃N,N=2^vars:=⟨_,rfl⟩;have a6:IntKind.i64.wrap (IntKind.i64.wrap (2^vars)-1)=(N:Int)-1:=by
  have e:((2:Int)^vars)=(N:Int):=by rw[hN];simp
  rw[e,IntKind.wrap_i64,IntKind.wrap_i64];omega
 have Z:wrap64 (wrap64 (2^vars)-1)=(N:Int)-1:=by
  have e:((2:Int)^vars)=(N:Int):=by rw[hN];simp
  have hN':N<=256:=by rw[hN];exact Y
  rw[e];unfold wrap64;omega
 rw[<-hN] at Y a4 ⊢;clear hI hl;have HN:=zH hN;clear hN;go_enter Tryz.func7,Tryz.ntmps7;go_wp2_with fail;go_loopw [5,6] (fun oV kV wr=>∃(j:Nat),j<=N/\kV=.int .i64 ((N:Int)-1-(j:Int))/\wr.ownsRow w.heap.size 22 1 oV (qj vars K j).length (ZN (qj vars K j))/\zB w wr) (fun _ kV _=>(intOf kV+1).toNat)
 case atStart=>exact⟨0,Nat.zero_le _,by rw[Z];simp,World.ownsRow_nil _ _ _ _,Below.refl _ _⟩
 case round =>
  obtain⟨j,hj,rfl,J,X⟩:=hrel;clear a6 Z;have o:=zH J;have M:=zH X;have a5:=X.size;clear J X
  by_cases hlt:j<N
  ·obtain⟨k,hk⟩:∃k:Nat,(N:Int)-1-(j:Int)=(k:Int):=⟨N-1-j,by omega⟩;have U:Hid (k=N-1-j):=(show k=N-1-j by omega);have a2:k<256:=by omega
   have ae:IntKind.i64.wrap ((k:Int)-1)=(k:Int)-1:=by rw[IntKind.wrap_i64];omega
   have ad:(0:Int)<=(k:Int):=by omega
   rw[hk];go_wp2_with fail;go_loop [7,17] (fun xV iV=>∃(i:Nat),i<=vars/\iV=.int .i64 i/\xV=.int .u64 (yY k vars i:Nat)) (fun _ iV=>vars-(intOf iV).toNat)
   case atStart=>exact⟨0,Nat.zero_le _,rfl,rfl⟩
   case round =>
    obtain⟨i,hi,rfl,rfl⟩:=hrel;have hG:=zdg k vars i;have aa:(2:Nat)^i<=256:=Nat.pow_le_pow_right (n:=2) (by omega) (show i<=8 by omega)
    by_cases hlt2:i<vars
    ·have ab:(i:Int)<(vars:Int):=by omega
     have t1:IntKind.i64.wrap ((vars:Int)-1)=(vars:Int)-1:=by rw[IntKind.wrap_i64];omega
     obtain⟨t,ht⟩:∃t:Nat,(vars:Int)-1-(i:Int)=(t:Int):=⟨vars-1-i,by omega⟩;have t2:IntKind.i64.wrap ((vars:Int)-1-(i:Int))=(t:Int):=by rw[ht,IntKind.wrap_i64];omega
     have ag:(0:Int)<=(t:Int):=by omega
     have hs:=zpi k t a2;have af:=zeR (yY k vars i) i (by omega) (by omega);have HG:Hid (yY k vars (i+1)=if k.testBit t then yY k vars i|||2^i else yY k vars i):=by
      show _=_;rw[yY,show vars-1-i=t by omega]
     generalize yY k vars i=g at *;cases hb:k.testBit t with
     |true =>
      rw[hb] at hs HG;rw[zA2 rfl] at HG;clear hb;go_wp2;go_round
      case rel=>exact⟨i+1,hlt2,by go_num,by rw[HG.out]⟩
      case measure=>simp[intOf];omega
     |false =>
      rw[hb] at hs HG;rw[zA1 (by simp)] at HG;clear hb;go_wp2;go_round
      case rel=>exact⟨i+1,hlt2,by go_num,by rw[HG.out]⟩
      case measure=>simp[intOf];omega
    ·obtain rfl:i=vars:=by omega
     have u:Hid (qj i K (j+1)=if yF (yY k i i) K=true then qj i K j++[yY k i i] else qj i K j):=by
      have h:=zdu (vars:=i) (K:=K) j;rw[<-HN.out,<-U.out] at h;exact h
     have HA:=zH (R.out (yY k i i) (by omega) wr M.out);have ac:=zcy (vars:=i) (K:=K) j;generalize yY k i i=g at *;go_wp2_with fail;refine HA.out.mono ?_;rintro e wy ⟨rfl,rfl⟩;obtain⟨oa,oc,rfl,-⟩:=row_form o.out;generalize hL:(qj i K j).length=n at *;have HL:=zH hL;clear hL HA R;cases hq:yF g K with
     |true =>
      rw[hq,zA2 rfl] at u;clear hq;go_wp2_with (at_builtin;refine wpList_append_own_at _ rfl _ _ 36 rfl w.heap.size 22 i0 (.int .u64 0) 1 8 Tryz.underlying36 a1 a7 a8 a9 rfl (by decide) _ _ _ rfl (o.out.alloc _) wr.heap.size 1 1 [.int .u64 g] rfl rfl ?e1 ?e2 ?e3 ?e4 ?e5 ?_)
      case e1=>exact zhq _ _ _
      case e2=>exact zmx _
      case e3=>unfold maxLen;omega
      case e4=>omega
      case e5=>simp;omega
      intro v8 w8 q p _ C;have V:Hid (w8.ownsRow w.heap.size 22 1 v8 (qj i K (j+1)).length (ZN (qj i K (j+1)))):=by
       show World.ownsRow _ _ _ _ _ _ _;rw[u.out,zii,List.length_append,HL.out];exact q
      have a0:Hid (zB w w8):=(M.out.alloc a5 _).grown p (by simp;omega) (fun k hk=>(o.out.lt k hk).1);obtain⟨ah,ai,rfl,-⟩:=row_form q;clear q p C o u;go_wp2;go_roundw
      case rel=>exact⟨j+1,hlt,by have:=U.out;first|(simp;done)|(simp;omega),V.out,a0.out⟩
      case measure=>first|(simp[intOf];done)|(simp[intOf];omega)
     |false =>
      rw[hq,zA1 (by simp)] at u;clear hq;have V:Hid (wr.ownsRow w.heap.size 22 1 (.slice oa n oc) (qj i K (j+1)).length (ZN (qj i K (j+1)))):=by
       show World.ownsRow _ _ _ _ _ _ _;rw[u.out,HL.out];exact o.out
      clear o u;go_wp2;go_roundw
      case rel=>exact⟨j+1,hlt,by have:=U.out;first|(simp;done)|(simp;omega),V.out,M.out⟩
      case measure=>first|(simp[intOf];done)|(simp[intOf];omega)
  ·obtain rfl:j=N:=by omega
   have a3:¬(0:Int)<=(j:Int)-1-(j:Int):=by omega
   clear R;go_wp2;go_ret;exact⟨_,rfl,o.out,M.out⟩
end Go.Proofs.YthifnefkdjkicaaGreatDoor.Bd
namespace Go.Proofs.YthifnefkdjkicaaGreatDoor.Bd
open Go.RowKit Go.Deep
theorem zdd{C:zJ}(hC:Zj C):∀(k v:Nat) (f:Nat->Bool),0<=qc C k v f/\qc C k v f<=1000000*(k:Int)
 |0,_,_=>⟨Int.le_refl _,by show (0:Int)<=_;omega⟩
 |k+1,v,f=>by
  have h1:=zdd hC k (v+1) f;have h2:=hC v (f v);show 0<=C v (f v)+qc C k (v+1) f/\C v (f v)+qc C k (v+1) f<=_;omega
theorem zkX(C:zJ)(hC:Zj C)(vars:Nat)(hv:vars<=8)(L:List Nat)(hlen:L.length<=1000)(hL:∀x∈L,x<18446744073709551616)(la:Option Addr)(lc:Nat)(F:FuncId)(cb:Array Value)(hent:∀q w,(callFunc F q).run Tryz.prog w=.ok (.enter F q) w)(w:World)(hU:UIn w la L)(hCA:ZA w F cb C vars) :
  zR 9 #[.slice la L.length lc,vars,.func (.func F) #[] cb] w (.tuple #[.int .u64 ((chF C vars L).2.2:Nat),.bool (chF C vars L).2.1]):=by
 have HU:=zH hU;have HL:=zH hL;have HC:Hid (Zj C):=hC;have J:Hid (∀W (i:Nat) (b:Bool),zB w W->i<vars->zR F (#[.int .i64 i,.bool b]++cb) W (.int .i64 (C i b))):=hCA;clear hU hL hC hCA;go_enter Tryz.func9,Tryz.ntmps9;go_wp2_with fail;go_loopw [8,9,10,17] (fun bV sV aV iV wr=>∃(i:Nat),i<=L.length/\iV=.int .i64 i/\bV=.int .i64 (chF C vars (L.take i)).1/\sV=.bool (chF C vars (L.take i)).2.1/\aV=.int .u64 ((chF C vars (L.take i)).2.2:Nat)/\zB w wr) (fun _ _ _ iV _=>L.length-(intOf iV).toNat)
 case atStart=>exact⟨0,Nat.zero_le _,rfl,rfl,rfl,rfl,Below.refl _ _⟩
 case round =>
  obtain⟨i,hi,rfl,rfl,rfl,rfl,u⟩:=hrel
  by_cases hlt:i<L.length
  ·have Y:(0:Int)<=(i:Int):=by omega
   have Z:(i:Int)<(L.length:Int):=by omega
   obtain⟨ad,rfl,a2,o⟩:=HU.out.below u i hlt;have hx:=HL.out _ (xR (d:=0) hlt);have j:Hid (chF C vars (L.take (i+1))=chS C vars (chF C vars (L.take i)) (L.getD i 0)):=by
    show _=_;rw[<-zb8,List.take_add_one,List.getD_eq_getElem?_getD,List.getElem?_eq_getElem hlt];rfl
   generalize L.getD i 0=x at *;obtain⟨ab,ao,a1⟩:=ad;have y:=zH u;clear u;generalize a0:chF C vars (L.take i)=st at *;clear a0;obtain⟨sb,ss,sx⟩:=st;dsimp only at *;go_wp2_with fail;go_loopw [13,22] (fun nV kV wx=>∃(k:Nat),k<=vars/\kV=.int .i64 k/\nV=.int .i64 (qc C k 0 (zM x))/\zB w wx) (fun _ kV _=>vars-(intOf kV).toNat)
   case atStart=>exact⟨0,Nat.zero_le _,rfl,rfl,y.out⟩
   case round =>
    obtain⟨k,hk,rfl,rfl,R⟩:=hrel;have p:=zH R;clear R;have a3:=zdd HC.out k 0 (zM x)
    by_cases hlt2:k<vars
    ·have a6:(k:Int)<(vars:Int):=by omega
     have a5:(0:Int)<=(k:Int):=by omega
     have hs:=XB x k hx;have K:=zH (J.out _ k (x.testBit k) p.out hlt2);have U:qc C (k+1) 0 (zM x)=qc C k 0 (zM x)+C k (x.testBit k):=by rw[zcg,Nat.zero_add];rfl
     have X:=zH U;have a4:=HC.out k (x.testBit k);have a7:IntKind.i64.wrap (qc C k 0 (zM x)+C k (x.testBit k))=qc C k 0 (zM x)+C k (x.testBit k):=by rw[IntKind.wrap_i64];omega
     clear U o;generalize qc C k 0 (zM x)=n0 at *;generalize C k (x.testBit k)=n1 at *;generalize x.testBit k=tb at *;go_wp2_with fail;refine K.out.mono ?_;rintro e w2 ⟨rfl,M⟩;have V:=zH (zT p.out M);clear M p K;go_wp2;go_roundw
     case rel=>exact⟨k+1,hlt2,by go_num,by rw[X.out],V.out⟩
     case measure=>simp[intOf];omega
    ·obtain rfl:k=vars:=by omega
     unfold chS at j;dsimp only at j;generalize qc C k 0 (zM x)=n0 at *;clear o J;cases ss with
     |false =>
      rw[zA2 (Or.inl rfl)] at j;go_wp2;go_roundw
      case rel=>exact⟨i+1,hlt,by go_num,by rw[j.out],by rw[j.out],by rw[j.out],p.out⟩
      case measure=>simp[intOf];omega
     |true =>
      by_cases hn:n0<sb
      ·rw[zA2 (Or.inr hn)] at j;go_wp2;go_roundw
       case rel=>exact⟨i+1,hlt,by go_num,by rw[j.out],by rw[j.out],by rw[j.out],p.out⟩
       case measure=>simp[intOf];omega
      ·rw[zA1 (fun h=>h.elim (fun h=>by cases h) hn)] at j;go_wp2;go_roundw
       case rel=>exact⟨i+1,hlt,by go_num,by rw[j.out],by rw[j.out],by rw[j.out],p.out⟩
       case measure=>simp[intOf];omega
  ·obtain rfl:i=L.length:=by omega
   rw[List.take_length];have y:=zH u;clear u HU HL J;go_wp2;go_ret2;exact⟨rfl,y.out⟩
end Go.Proofs.YthifnefkdjkicaaGreatDoor.Bd
namespace Go.Proofs
open Go.Shelf
def Tryz.lays137_ren:Go.Shelf.Ren:=⟨fun|137=>102|217=>147|266=>186|n=>n,fun|9=>9|5=>5|3=>3|n=>n,fun|n=>n⟩
theorem Tryz.lays137:Go.Proofs.Lays.n137 Tryz.prog Tryz.lays137_ren:={
 mixed:=by kernel_rfl
 f137:=zK Tryz.func102 (by kernel_rfl)
 f217:=zK Tryz.func147 (by kernel_rfl)
 f266:=zK Tryz.func186 (by kernel_rfl)
 t3:=Tryz.underlying3
 a3:=Tryz.isAgg3
 z3:=Tryz.sizeOf3
 v3:=Tryz.zeroValue3
 t5:=Tryz.underlying5
 a5:=Tryz.isAgg5
 z5:=Tryz.sizeOf5
 v5:=Tryz.zeroValue5
 t9:=Tryz.underlying9
 a9:=Tryz.isAgg9
 z9:=Tryz.sizeOf9
 v9:=Tryz.zeroValue9 }
open Go.RowKit in
theorem Tryz.strings_IndexByte(s:ByteArray)(c:Int)(w:World) :
  zC 102 #[s,.int .u8 c] w fun e w'=>e=.returned (.int .i64 (Lib.indexByte s.data.toList c.toNat.toUInt8))/\w'=w:=Any.strings_IndexByte Tryz.lays137 s c w
def Tryz.lays146_ren:Go.Shelf.Ren:=⟨fun|146=>35|221=>67|268=>99|138=>100|143=>101|195=>143|197=>144|218=>145|219=>146|260=>182|217=>147|225=>183|224=>184|267=>185|266=>186|314=>211|n=>n,fun|9=>9|31=>78|3=>3|4=>4|0=>0|105=>251|21=>21|5=>5|46=>22|119=>322|139=>325|138=>324|146=>326|51=>312|n=>n,fun|1=>4|3=>5|4=>6|n=>n⟩
theorem Tryz.lays146:Go.Proofs.Lays.n146 Tryz.prog Tryz.lays146_ren:={
 mixed:=by kernel_rfl
 f138:=zK Tryz.func100 (by kernel_rfl)
 f143:=zK Tryz.func101 (by kernel_rfl)
 f146:=zK Tryz.func35 (by kernel_rfl)
 f195:=zK Tryz.func143 (by kernel_rfl)
 f197:=zK Tryz.func144 (by kernel_rfl)
 f217:=zK Tryz.func147 (by kernel_rfl)
 f218:=zK Tryz.func145 (by kernel_rfl)
 f219:=zK Tryz.func146 (by kernel_rfl)
 f221:=zK Tryz.func67 (by kernel_rfl)
 f224:=zK Tryz.func184 (by kernel_rfl)
 f225:=zK Tryz.func183 (by kernel_rfl)
 f260:=zK Tryz.func182 (by kernel_rfl)
 f266:=zK Tryz.func186 (by kernel_rfl)
 f267:=zK Tryz.func185 (by kernel_rfl)
 f268:=zK Tryz.func99 (by kernel_rfl)
 f314:=zK Tryz.func211 (by kernel_rfl)
 t0:=Tryz.underlying0
 a0:=Tryz.isAgg0
 z0:=Tryz.sizeOf0
 v0:=Tryz.zeroValue0
 t3:=Tryz.underlying3
 a3:=Tryz.isAgg3
 z3:=Tryz.sizeOf3
 v3:=Tryz.zeroValue3
 t4:=Tryz.underlying4
 a4:=Tryz.isAgg4
 z4:=Tryz.sizeOf4
 v4:=Tryz.zeroValue4
 t5:=Tryz.underlying5
 a5:=Tryz.isAgg5
 z5:=Tryz.sizeOf5
 v5:=Tryz.zeroValue5
 t9:=Tryz.underlying9
 a9:=Tryz.isAgg9
 z9:=Tryz.sizeOf9
 v9:=Tryz.zeroValue9
 t21:=Tryz.underlying21
 a21:=Tryz.isAgg21
 z21:=Tryz.sizeOf21
 v21:=Tryz.zeroValue21
 t31:=Tryz.underlying78
 a31:=Tryz.isAgg78
 z31:=Tryz.sizeOf78
 v31:=Tryz.zeroValue78
 t46:=Tryz.underlying22
 a46:=Tryz.isAgg22
 z46:=Tryz.sizeOf22
 v46:=Tryz.zeroValue22
 t51:=Tryz.underlying312
 a51:=Tryz.isAgg312
 z51:=Tryz.sizeOf312
 v51:=Tryz.zeroValue312
 t105:=Tryz.underlying251
 a105:=Tryz.isAgg251
 z105:=Tryz.sizeOf251
 v105:=Tryz.zeroValue251
 t119:=Tryz.underlying322
 a119:=Tryz.isAgg322
 z119:=Tryz.sizeOf322
 t138:=Tryz.underlying324
 a138:=Tryz.isAgg324
 z138:=Tryz.sizeOf324
 v138:=Tryz.zeroValue324
 t139:=Tryz.underlying325
 a139:=Tryz.isAgg325
 z139:=Tryz.sizeOf325
 v139:=Tryz.zeroValue325
 t146:=Tryz.underlying326
 a146:=Tryz.isAgg326
 z146:=Tryz.sizeOf326
 v146:=Tryz.zeroValue326
 g1:=by kernel_rfl
 g3:=by kernel_rfl
 g4:=by kernel_rfl }
open Go.RowKit Go.Lib in
theorem Tryz.strings_Split(s sep:ByteArray)(m:Int)(w:World)(hs:s.size<4294967281)(hm:w.cell? ⟨4,0,none⟩=some (.int .i64 m))(h1:1<=sep.size) :
  zC 35 #[s,sep] w fun e w' =>
   e=.returned (.slice (some w.heap.size) (Lib.countB s sep+1) (Lib.countB s sep+1))/\w'=w.alloc (.cells ((Lib.splitB sep 0 (Lib.countB s sep) s).map Value.string).toArray 9):=Any.strings_Split Tryz.lays146 (by kernel_rfl) s sep m w hs hm h1
end Go.Proofs
namespace Go.Proofs.YthifnefkdjkicaaGreatDoor
open Go.RowKit Go.Shelf Sv
def ptx(n:Nat):List UInt8:=Lib.itoa (n:Int)
structure zeq(n:Nat):Prop where
 tells:yg (ptx n)=.ok n
 digit:∀x∈ptx n,48<=x/\x<=57
 some:ptx n≠[]
 short:(ptx n).length<=3
theorem zeq.not{n:Nat}(h:zeq n){c:UInt8}(hc:c<48\/57<c):c∉ptx n:=fun e=>by
 have:=h.digit c e;rcases hc with hc|hc
 ·exact absurd hc (UInt8.not_lt.2 this.1)
 ·exact absurd hc (UInt8.not_lt.2 this.2)
theorem Xa{s:ByteArray}{l:List UInt8}(h:s.data.toList=l):s=⟨l.toArray⟩:=by
 obtain⟨d⟩:=s;subst h;simp
theorem zne(l:List UInt8)(i j:Nat):((⟨l.toArray⟩:ByteArray).extract i j).data.toList=(l.take j).drop i:=by
 rw[ByteArray.data_extract];simp[List.take_drop];rcases Nat.le_total i j with h|h
 ·rw[Nat.add_sub_cancel' h]
 ·rw[List.drop_of_length_le (by simp;omega),List.drop_of_length_le (by simp;omega)]
end Go.Proofs.YthifnefkdjkicaaGreatDoor
namespace Go.Proofs.YthifnefkdjkicaaGreatDoor
open Go.RowKit Go.Shelf Sv
theorem XE{s t:ByteArray}(h:s.data.toList=t.data.toList):s=t:=by
 rw[Xa h,<-Xa (s:=t) rfl]
theorem YY(s:ByteArray)(i j:Nat):(s.extract i j).data.toList=(s.data.toList.take j).drop i:=by
 conv=>lhs;rw[Xa (s:=s) rfl]
 exact zne _ _ _
theorem zpy(s:ByteArray)(k j:Nat)(h:k+j<=s.size):(s.extract k s.size).extract 0 j=s.extract k (k+j):=by
 apply XE;rw[YY,YY,YY,List.drop_zero,List.take_drop,List.take_take];congr 2;omega
theorem zou(s:ByteArray)(k i:Nat):(s.extract k s.size).extract i (s.extract k s.size).size=s.extract (k+i) s.size:=by
 apply XE;rw[Lib.extract_to_end,Lib.extract_to_end,Lib.extract_to_end,List.drop_drop]
theorem zeO(s m:ByteArray)(hm:1<=m.size):∀(f k:Nat),s.size<=k+f->k<=s.size->Lib.splitB m 0 (Lib.countB (s.extract k s.size) m) (s.extract k s.size)=(zq s m f k).map (·.2):=by
 intro f
 induction f with
 |zero =>
  intro k h1 h2;have hz:(s.extract k s.size).size=0:=by simp;omega
  have hx:Lib.indexB (s.extract k s.size) m=-1:=by
   show Lib.index (s.extract k s.size).data.toList m.data.toList=-1;have h0:(s.extract k s.size).data.toList=[]:=by rw[Lib.extract_to_end];exact List.drop_eq_nil_of_le (by simp;omega)
   have p:m.data.toList≠[]:=fun e=>by
    have:m.data.toList.length=m.size:=by simp
    rw[e] at this;simp at this;omega
   rw[h0];cases hm':m.data.toList with
   |nil=>exact absurd hm' p
   |cons a r=>simp[Lib.index]
  rw[Lib.splitB_miss _ _ _ _ hx];rfl
 |succ f ih =>
  intro k h1 h2;have q:=Lib.index_ge (s.extract k s.size).data.toList m.data.toList
  by_cases hneg:Lib.index (s.extract k s.size).data.toList m.data.toList<0
  ·have hx:Lib.indexB (s.extract k s.size) m=-1:=by
    show Lib.index (s.extract k s.size).data.toList m.data.toList=-1;omega
   rw[Lib.splitB_miss _ _ _ _ hx,Ke hneg];rfl
  ·obtain⟨j,hj⟩:=Int.eq_ofNat_of_zero_le (Int.not_lt.1 hneg);have hx:Lib.indexB (s.extract k s.size) m=(j:Int):=hj;have hr:=Y9 (s.extract k s.size).data.toList m.data.toList (by rw[hj];omega);rw[hj] at hr;have hl:(s.extract k s.size).data.toList.length=s.size-k:=by rw[Lib.extract_to_end];simp
   have o:m.data.toList.length=m.size:=by simp
   rw[hl,o,Int.toNat_natCast] at hr;rw[Lib.countB_hit _ _ j hm hx,Nat.add_comm 1,Lib.splitB_hit _ _ _ _ j hx,K7 hj,List.map_cons,Nat.add_zero,zou,<-Nat.add_assoc,zpy s k j (by omega),ih _ (by omega) (by omega)]
end Go.Proofs.YthifnefkdjkicaaGreatDoor
namespace Go.Proofs.YthifnefkdjkicaaGreatDoor
open Go.RowKit Go.Shelf Sv
theorem zb5(s:ByteArray)(k:Nat):(s.extract k s.size).data.toList=s.data.toList.drop k:=by
 rw[YY,List.take_of_length_le (by rw[Array.length_toList];exact Nat.le_refl _)]
end Go.Proofs.YthifnefkdjkicaaGreatDoor
namespace Go.Proofs.YthifnefkdjkicaaGreatDoor
open Go.RowKit Go.Shelf Sv
theorem zip{s:ByteArray}{c:UInt8}(h:Lib.index s.data.toList [c]<0):zb s c=(s,⟨#[]⟩):=by
 unfold zb Lib.cut;rw[zA1 (by omega)]
theorem zot{s:ByteArray}{c:UInt8}{j:Nat}(h:Lib.index s.data.toList [c]=(j:Int)):zb s c=(s.extract 0 j,s.extract (j+1) s.size):=by
 unfold zb Lib.cut;rw[zA2 (by omega),h];simp only[Int.toNat_natCast,List.length_singleton];refine Prod.ext ?_ ?_
 ·exact(Xa (by rw[YY];simp)).symm
 ·exact(Xa (by rw[zb5])).symm
theorem yn(s:ByteArray)(w:World)(hs:s.size<=100000):zR 68 #[s] w (.tuple #[.string (zb s 32).1,.string (zb s 32).2]):=by
 have HI:Hid (zC 102 #[s,.int .u8 32] w fun e w'=>e=.returned (.int .i64 (Lib.index s.data.toList [32]))/\w'=w):=by
  have:=Tryz.strings_IndexByte s 32 w;rw[show (32:Int).toNat.toUInt8=32 from rfl,<-Lib.index_one] at this;exact this
 by_cases h:Lib.index s.data.toList [32]<0
 ·rw[zip h];generalize Lib.index s.data.toList [32]=K at *;go_enter Tryz.func68,Tryz.ntmps68;go_wp2_with fail;refine HI.out.mono ?_;rintro e w1 ⟨rfl,p⟩;rw[p];clear p HI;go_wp2;refine bodyPost_ret (v:=.tuple #[s,.string ⟨#[]⟩]) (by simp[results,Tryz.results68,go_sem]) rfl ?_;exact⟨rfl,Below.refl _ _⟩
 ·obtain⟨j,hj⟩:∃j:Nat,Lib.index s.data.toList [32]=(j:Int):=⟨(Lib.index s.data.toList [32]).toNat,by omega⟩;have o:=Y9 s.data.toList [32] (by omega);rw[hj] at o HI;have y:s.data.toList.length=s.size:=by simp
  rw[y] at o;simp only[Int.toNat_natCast,List.length_singleton] at o;rw[zot hj];obtain⟨J1,u⟩:∃J1,j+1=J1:=⟨_,rfl⟩;rw[u] at o ⊢;have M:IntKind.i64.wrap ((j:Int)+1)=(J1:Int):=by rw[IntKind.wrap_i64];omega
  have J:¬(j:Int)<0:=by omega
  have i2:(j:Int)<=(s.size:Int):=by omega
  have i3:(J1:Int)<=(s.size:Int):=by omega
  have C:=fun W'=>run_slice_string_h (P:=Tryz.prog) W' 9 s Tryz.underlying9 .i64 (j:Int) (by omega) i2;have q:=fun W'=>run_slice_string_l (P:=Tryz.prog) W' 9 s Tryz.underlying9 .i64 (J1:Int) (by omega) i3;simp only[Int.toNat_natCast] at C q;clear h hj y u;go_enter Tryz.func68,Tryz.ntmps68;go_wp2_with fail;refine HI.out.mono ?_;rintro e w1 ⟨rfl,p⟩;rw[p];clear p HI;go_wp2_with fail;go_big_region;have HB:Hid (zB w w.drew):=zF.drew;go_wp2;refine bodyPost_ret (v:=.tuple #[.string (s.extract 0 j),.string (s.extract J1 s.size)]) (by simp[results,Tryz.results68,go_sem]) rfl ?_;exact⟨rfl,HB.out⟩
end Go.Proofs.YthifnefkdjkicaaGreatDoor
namespace Go.Proofs.YthifnefkdjkicaaGreatDoor.Sv
def inP:List Nat->Nat->Bool
 |[],_=>false
 |a :: r,n=>if a<=n then !inP r n else false
def Up:List Nat->Prop
 |[]=>True
 |a :: r=>(∀x∈r,a<x)/\Up r
def tp:List zf->List Nat
 |[]=>[]
 |s :: r=>s.1 :: s.2 :: tp r
theorem Yu{l:List Nat}{n:Nat}(h:∀x∈l,n<x):inP l n=false:=by
 cases l with
 |nil=>rfl
 |cons a r=>rw[inP,zA1 (by have:=h a List.mem_cons_self;omega)]
theorem zaS{l m:List Nat}:Up l->Up m->(∀n,inP l n=inP m n)->l=m:=by
 induction l generalizing m with
 |nil =>
  intro _ hm h;cases m with
  |nil=>rfl
  |cons b q =>have:=h b;rw[inP,inP,zA2 zN,Yu (fun x hx=>hm.1 x hx)] at this;cases this
 |cons a r ih =>
  intro hl hm h;cases m with
  |nil =>have:=h a;rw[inP,inP,zA2 zN,Yu (fun x hx=>hl.1 x hx)] at this;cases this
  |cons b q =>
   have j:a=b:=by
    rcases Nat.lt_trichotomy a b with hlt|heq|hlt
    ·have:=h a;rw[inP,inP,zA2 zN,zA1 (by omega),Yu (fun x hx=>hl.1 x hx)] at this;cases this
    ·exact heq
    ·have:=h b;rw[inP,inP,zA1 (by omega),zA2 zN,Yu (fun x hx=>hm.1 x hx)] at this;cases this
   subst j;rw[ih hl.2 hm.2 fun n=>?_]
   by_cases hn:a<=n
   ·have:=h n;rw[inP,inP,zA2 hn,zA2 hn] at this;cases hx:inP r n<;>cases hy:inP q n<;>simp_all
   ·rw[Yu (fun x hx=>by have:=hl.1 x hx;omega),Yu (fun x hx=>by have:=hm.1 x hx;omega)]
theorem zcS:∀{l:List zf} {lo:Nat},qR lo l->∀x∈tp l,lo<=x:=by
 intro l
 induction l with
 |nil=>intro lo _ x hx;cases hx
 |cons s r ih =>
  intro lo h x hx;obtain⟨h1,h2,h3,h4⟩:=h;rw[tp] at hx;rcases List.mem_cons.1 hx with rfl|hx
  ·exact h1
  ·rcases List.mem_cons.1 hx with rfl|hx
   ·omega
   ·have:=ih h4 x hx;omega
theorem J9:∀{l:List zf} {lo:Nat},qR lo l->Up (tp l):=by
 intro l
 induction l with
 |nil=>intro lo _;trivial
 |cons s r ih =>
  intro lo h;obtain⟨h1,h2,h3,h4⟩:=h;refine⟨fun x hx=>?_,fun x hx=>?_,ih h4⟩
  ·rcases List.mem_cons.1 hx with rfl|hx
   ·exact h2
   ·have:=zcS h4 x hx;omega
  ·have:=zcS h4 x hx;omega
theorem Z8:∀{l:List zf} {lo n:Nat},qR lo l->(inP (tp l) n=true↔mem l n):=by
 intro l
 induction l with
 |nil=>intro lo n _;simp[tp,inP,Ql]
 |cons s r ih =>
  intro lo n h;obtain⟨h1,h2,h3,h4⟩:=h;have hr:=ih (n:=n) h4;have hg:mem r n->s.2+1<=n:=h4.ge;rw[tp,inP,inP,mem_cons]
  by_cases a:s.1<=n
  ·rw[zA2 a]
   by_cases b:s.2<=n
   ·rw[zA2 b];simp only[Bool.not_not,hr];constructor
    ·exact Or.inr
    ·rintro (⟨_,h⟩|h)
     ·omega
     ·exact h
   ·rw[zA1 b];simp only[Bool.not_false,true_iff];left;omega
  ·rw[zA1 a];simp only[Bool.false_eq_true,false_iff];rintro (⟨h,_⟩|h)
   ·omega
   ·have:=hg h;omega
theorem Kd(l:List zf):(tp l).length=l.length*2:=by
 induction l with
 |nil=>rfl
 |cons s r ih=>rw[tp,List.length_cons,List.length_cons,ih,List.length_cons];omega
theorem zmw{a b:Nat}:tp (zh a b)=if a<b then [a,b] else []:=by
 unfold zh;split<;>rfl
def Srt:List Nat->Prop
 |[]=>True
 |a :: r=>(∀x∈r,a<=x)/\Srt r
theorem zbD{l r:List Nat}:Srt (l++r)↔Srt l/\Srt r/\∀x∈l,∀y∈r,x<=y:=by
 induction l with
 |nil=>simp[Srt]
 |cons a l ih =>
  rw[List.cons_append,Srt,Srt,ih];constructor
  ·rintro⟨h1,h2,h3,h4⟩;refine⟨⟨fun x hx=>h1 x (List.mem_append_left _ hx),h2⟩,h3,fun x hx y hy=>?_⟩;rcases List.mem_cons.1 hx with rfl|hx
   ·exact h1 y (List.mem_append_right _ hy)
   ·exact h4 x hx y hy
  ·rintro⟨⟨h1,h2⟩,h3,h4⟩;refine⟨fun x hx=>?_,h2,h3,fun x hx y hy=>h4 x (List.mem_cons_of_mem _ hx) y hy⟩;rcases List.mem_append.1 hx with hx|hx
   ·exact h1 x hx
   ·exact h4 a List.mem_cons_self x hx
def qS(l:List Nat)(n:Nat):Nat->Nat
 |0=>0
 |k+1=>if n<l.getD k 0 then qS l n k else k+1
theorem zaj(l:List Nat)(n k:Nat):qS l n k<=k:=by
 induction k with
 |zero=>exact Nat.le_refl _
 |succ k ih=>unfold qS;split<;>omega
def xo(l:List Nat)(n:Nat):List Nat:=l.take (qS l n l.length)++n :: l.drop (qS l n l.length)
theorem zi9(l:List Nat)(n:Nat):∀k j,qS l n k<=j->j<k->n<l.getD j 0:=by
 intro k
 induction k with
 |zero=>intro j _ h;omega
 |succ k ih =>
  intro j h1 h2;unfold qS at h1;split at h1
  ·rename_i hlt
   by_cases hj:j<k
   ·exact ih j h1 hj
   ·obtain rfl:j=k:=by omega
    exact hlt
  ·omega
theorem zjd(l:List Nat)(n:Nat):∀k,0<qS l n k->l.getD (qS l n k-1) 0<=n:=by
 intro k
 induction k with
 |zero=>intro h;exact absurd h (by simp[qS])
 |succ k ih =>
  unfold qS;split
  ·exact ih
  ·rename_i h;intro _;simpa using h
theorem zpJ{l:List Nat}{n x:Nat}:x∈xo l n↔x=n\/x∈l:=by
 unfold xo;rw[List.mem_append,List.mem_cons];have:x∈l↔x∈l.take (qS l n l.length)\/x∈l.drop (qS l n l.length):=by
  rw[<-List.mem_append,List.take_append_drop]
 rw[this];constructor
 ·rintro (h|h|h)<;>simp[h]
 ·rintro (h|h|h)<;>simp[h]
theorem zmT{l:List Nat}{n:Nat}(h:Srt l):Srt (xo l n):=by
 unfold xo;have j:=h;rw[<-List.take_append_drop (qS l n l.length) l,zbD] at j;obtain⟨h1,h2,h3⟩:=j;have hp:=zaj l n l.length;rw[zbD];refine⟨h1,⟨fun x hx=>?_,h2⟩,fun x hx y hy=>?_⟩
 ·obtain⟨i,hi,rfl⟩:=List.getElem_of_mem hx;rw[List.length_drop] at hi;have:=zi9 l n l.length (qS l n l.length+i) (by omega) (by omega);rw[List.getD_eq_getElem?_getD,List.getElem?_eq_getElem (by omega)] at this;rw[List.getElem_drop];simp at this;omega
 ·rcases List.mem_cons.1 hy with rfl|hy
  ·by_cases hz:0<qS l y l.length
   ·have q:=zjd l y l.length hz
    -- the last one of the first part is not greater,and all of them are not greater than it
    have p:l.getD (qS l y l.length-1) 0∈l.take (qS l y l.length):=by
     rw[List.getD_eq_getElem?_getD,List.getElem?_eq_getElem (by omega)];simp only[Option.getD_some];exact List.mem_iff_getElem.2 ⟨qS l y l.length-1,by rw[List.length_take];omega,by rw[List.getElem_take]⟩
    obtain⟨i,hi,rfl⟩:=List.getElem_of_mem hx;rw[List.length_take] at hi;rw[List.getElem_take];have C:∀(a b:Nat) (hb:b<l.length),(o:a<=b)->l[a]'(by omega)<=l[b]:=by
     intro a b hb o;rcases Nat.lt_or_eq_of_le o with hlt|rfl
     ·have u:=h;rw[<-List.take_append_drop (a+1) l,zbD] at u;refine u.2.2 _ ?_ _ ?_
      ·exact List.mem_iff_getElem.2 ⟨a,by rw[List.length_take];omega,by rw[List.getElem_take]⟩
      ·exact List.mem_iff_getElem.2 ⟨b-(a+1),by rw[List.length_drop];omega,by rw[List.getElem_drop];congr 1;omega⟩
     ·exact Nat.le_refl _
    have:=C i (qS l y l.length-1) (by omega) (by omega);rw[List.getD_eq_getElem?_getD,List.getElem?_eq_getElem (by omega)] at q;simp only[Option.getD_some] at q;omega
   ·rw[show qS l y l.length=0 by omega] at hx;simp at hx
  ·exact h3 x hx y hy
def q7(acc:List Nat)(l:List Nat):List Nat:=l.foldl xo acc
theorem zaz:∀{l acc:List Nat},Srt acc->Srt (q7 acc l):=by
 intro l
 induction l with
 |nil=>intro acc h;exact h
 |cons a r ih=>intro acc h;exact ih (acc:=xo acc a) (zmT h)
theorem zaU:∀{l acc:List Nat} {x:Nat},x∈q7 acc l↔x∈acc\/x∈l:=by
 intro l
 induction l with
 |nil=>intro acc x;simp[q7]
 |cons a r ih =>
  intro acc x;show x∈q7 (xo acc a) r↔_;rw[ih,zpJ,List.mem_cons];constructor
  ·rintro ((h|h)|h)<;>simp[h]
  ·rintro (h|h|h)<;>simp[h]
def qT(f:Nat->Bool):Bool->List Nat->List Nat
 |_,[]=>[]
 |is,n :: r=>if f n=is then qT f is r else n :: qT f (f n) r
def Q9(f:Nat->Bool):Bool->List Nat->Nat->Bool
 |is,[],_=>is
 |is,n :: r,x=>if n<=x then Q9 f (f n) r x else is
theorem zeC{f:Nat->Bool}:∀{l:List Nat} {is:Bool},∀x∈qT f is l,x∈l:=by
 intro l
 induction l with
 |nil=>intro is x hx;cases hx
 |cons n r ih =>
  intro is x hx;unfold qT at hx;split at hx
  ·exact List.mem_cons_of_mem _ (ih x hx)
  ·rcases List.mem_cons.1 hx with rfl|hx
   ·exact List.mem_cons_self
   ·exact List.mem_cons_of_mem _ (ih x hx)
theorem zmD{f:Nat->Bool}{n:Nat}:∀{l:List Nat},Srt l->(∀x∈l,n<=x)->∀x∈qT f (f n) l,n<x:=by
 intro l
 induction l with
 |nil=>intro _ _ x hx;cases hx
 |cons m r ih =>
  intro hs hl x hx;have hm:=hl m List.mem_cons_self;unfold qT at hx;split at hx
  ·exact ih hs.2 (fun y hy=>hl y (List.mem_cons_of_mem _ hy)) x hx
  ·rename_i hne;have j:n<m:=by
    rcases Nat.lt_or_eq_of_le hm with h|rfl
    ·exact h
    ·exact absurd rfl hne
   rcases List.mem_cons.1 hx with rfl|hx
   ·exact j
   ·have:=hs.1 x (zeC x hx);omega
theorem zhm{f:Nat->Bool}:∀{l:List Nat} {is:Bool},Srt l->Up (qT f is l):=by
 intro l
 induction l with
 |nil=>intro is _;trivial
 |cons n r ih =>
  intro is hs;unfold qT;split
  ·exact ih hs.2
  ·exact⟨zmD hs.2 hs.1,ih hs.2⟩
theorem zm9{f:Nat->Bool}{x:Nat}:∀{l:List Nat} {is:Bool},Srt l->(inP (qT f is l) x ^^ is)=Q9 f is l x:=by
 intro l
 induction l with
 |nil=>intro is _;simp[qT,inP,Q9]
 |cons n r ih =>
  intro is hs;have h1:=ih (is:=f n) hs.2;unfold qT Q9
  by_cases hn:n<=x
  ·rw[zA2 hn];split
   ·rename_i e;rw[<-e];exact h1
   ·rename_i e;rw[inP,zA2 hn,<-h1];cases hf:f n<;>cases is<;>simp_all
  ·rw[zA1 hn];split
   ·rw[Yu (fun y hy=>by have:=hs.1 y (zeC y hy);omega)];simp
   ·rw[inP,zA1 hn];simp
theorem zgD{f:Nat->Bool}{x:Nat}:∀{l:List Nat} {is:Bool},Srt l->(∃e∈l,e<=x)->∃m∈l,(∀e∈l,e<=m↔e<=x)/\Q9 f is l x=f m:=by
 intro l
 induction l with
 |nil=>rintro is _ ⟨e,he,_⟩;cases he
 |cons n r ih =>
  intro is hs o;have hn:n<=x:=by
   obtain⟨e,he,j⟩:=o;rcases List.mem_cons.1 he with rfl|he
   ·exact j
   ·have:=hs.1 e he;omega
  unfold Q9;rw[zA2 hn]
  by_cases h:∃e∈r,e<=x
  ·obtain⟨m,hm,h1,h2⟩:=ih (is:=f n) hs.2 h;refine⟨m,List.mem_cons_of_mem _ hm,fun e he=>?_,h2⟩;rcases List.mem_cons.1 he with rfl|he
   ·have:=hs.1 m hm;exact⟨fun _=>hn,fun _=>this⟩
   ·exact h1 e he
  ·refine⟨n,List.mem_cons_self,fun e he=>?_,?_⟩
   ·rcases List.mem_cons.1 he with rfl|he
    ·exact⟨fun _=>hn,fun _=>Nat.le_refl _⟩
    ·have p:¬e<=x:=fun j=>h ⟨e,he,j⟩;constructor
     ·intro j;omega
     ·intro j;exact absurd j p
   ·cases r with
    |nil=>rfl
    |cons m q =>unfold Q9;rw[zA1 (fun j=>h ⟨m,List.mem_cons_self,j⟩)]
theorem zb3{m x:Nat}:∀{l:List Nat},(∀e∈l,e<=m↔e<=x)->inP l m=inP l x:=by
 intro l
 induction l with
 |nil=>intro _;rfl
 |cons a r ih =>
  intro h;have:=h a List.mem_cons_self;unfold inP;rw[ih (fun e he=>h e (List.mem_cons_of_mem _ he))]
  by_cases ha:a<=x
  ·rw[zA2 ha,zA2 (this.2 ha)]
  ·rw[zA1 ha,zA1 (fun hm=>ha (this.1 hm))]
def ZS(a b:List Nat)(rule:Bool->Bool->Bool)(n:Nat):Bool:=decide (n<ALL)&&rule (inP a n) (inP b n)
def Z7(a b:List Nat):List Nat:=q7 (q7 (q7 [] [0,ALL]) a) b
def Qn(a b:List Nat)(rule:Bool->Bool->Bool):List Nat:=qT (ZS a b rule) false (Z7 a b)
theorem J8(a b:List Nat):Srt (Z7 a b):=zaz (zaz (zaz trivial))
theorem JH{a b:List Nat}{x:Nat}:x∈Z7 a b↔(x=0\/x=ALL)\/x∈a\/x∈b:=by
 unfold Z7;rw[zaU,zaU,zaU];simp[or_assoc]
theorem zak(a b:List Nat)(rule:Bool->Bool->Bool)(x:Nat):inP (Qn a b rule) x=ZS a b rule x:=by
 have h:=zm9 (f:=ZS a b rule) (x:=x) (is:=false) (J8 a b);obtain⟨m,hm,h1,h2⟩:=zgD (f:=ZS a b rule) (x:=x) (is:=false) (J8 a b) ⟨0,JH.2 (Or.inl (Or.inl rfl)),Nat.zero_le _⟩;rw[h2] at h;simp only[Bool.xor_false] at h;unfold Qn;rw[h];unfold ZS;have hA:=h1 ALL (JH.2 (Or.inl (Or.inr rfl)));rw[zb3 (l:=a) (fun e he=>h1 e (JH.2 (Or.inr (Or.inl he)))),zb3 (l:=b) (fun e he=>h1 e (JH.2 (Or.inr (Or.inr he))))];congr 1;rw[decide_eq_decide];omega
theorem J3(a b:List Nat)(rule:Bool->Bool->Bool):Up (Qn a b rule):=zhm (J8 a b)
open Classical in
theorem zgT{l m:List zf}(hl:Rg l)(hm:Rg m):Qn (tp l) (tp m) (fun x y=>x&&y)=tp (nd l m) :=
 zaS (J3 _ _ _) (J9 (Qg hl hm)) fun n=>by
  rw[zak,Bool.eq_iff_iff,Z8 (Qg hl hm),zcr hl hm];unfold ZS;rw[Bool.and_eq_true,Bool.and_eq_true,Z8 hl,Z8 hm,decide_eq_true_iff];exact⟨fun h=>h.2,fun h=>⟨hl.lt h.1,h⟩⟩
theorem zo9{l m:List zf}(hl:Rg l)(hm:Rg m):Qn (tp l) (tp m) (fun x y=>x||y)=tp (orr l m) :=
 zaS (J3 _ _ _) (J9 (X0 hl hm)) fun n=>by
  rw[zak,Bool.eq_iff_iff,Z8 (X0 hl hm),znt hl hm];unfold ZS;rw[Bool.and_eq_true,Bool.or_eq_true,Z8 hl,Z8 hm,decide_eq_true_iff];exact⟨fun h=>h.2,fun h=>⟨h.elim hl.lt hm.lt,h⟩⟩
theorem zlc{l:List zf}(hl:Rg l):Qn (tp l) [] (fun x _=>!x)=tp (nt l) :=
 zaS (J3 _ _ _) (J9 (xK hl)) fun n=>by
  rw[zak,Bool.eq_iff_iff,Z8 (xK hl),KQ hl];unfold ZS;rw[Bool.and_eq_true,Bool.not_eq_true',decide_eq_true_iff,<-Bool.not_eq_true,Z8 hl]
theorem zi4(a b:List Nat):(Z7 a b).length=a.length+b.length+2:=by
 have hi:∀(l:List Nat) (n:Nat),(xo l n).length=l.length+1:=fun l n=>by
  unfold xo;rw[List.length_append,List.length_cons,List.length_take,List.length_drop];have:=zaj l n l.length;omega
 have ha:∀(l j:List Nat),(q7 j l).length=j.length+l.length:=fun l=>by
  induction l with
  |nil=>intro j;rfl
  |cons x l ih=>intro j;show (q7 (xo j x) l).length=_;rw[ih,hi,List.length_cons];omega
 unfold Z7;rw[ha,ha,ha];simp;omega
end Go.Proofs.YthifnefkdjkicaaGreatDoor.Sv
namespace Go.Proofs.YthifnefkdjkicaaGreatDoor
open Go.RowKit Sv
def zA(l:List Nat):List Value:=l.map fun (n:Nat)=>.int .i64 n
def nv(l:List Nat)(i:Nat):Nat:=l.getD i 0
theorem Y5(l:List Nat)(i:Nat)(h:i<l.length):nv l i=l[i]:=by unfold nv;simp[List.getD_eq_getElem?_getD,List.getElem?_eq_getElem h]
theorem Z4(l:List Nat):(zA l).length=l.length:=by simp[zA]
theorem XP(a b:List Nat):zA (a++b)=zA a++zA b:=by simp[zA]
theorem Yx(l:List Nat)(i:Nat)(h:i<l.length):(zA l)[i]?=some (.int .i64 (nv l i)):=by simp[zA,h,Y5]
structure zG(w:World)(v:Value)(l:List Nat):Prop where
 form:∃a cap,v=.slice a l.length cap
 cells:∀i,i<l.length->∃g cap,v=.slice (some ⟨g,0,none⟩) l.length cap/\g<w.heap.size/\w.cell? ⟨g,i,none⟩=some (.int .i64 (nv l i))
theorem xD(w:World):zG w (.slice none 0 0) []:=⟨⟨none,0,rfl⟩,fun i h=>by simp at h⟩
theorem zG.below{B:Nat}{w w':World}{v:Value}{l:List Nat}(h:zG w v l)(hb:Below B w w')(hB:w.heap.size<=B):zG w' v l :=
 ⟨h.form,fun i hi=>by
  obtain⟨g,j,e,hg,c0⟩:=h.cells i hi;exact ⟨g,j,e,Nat.lt_of_lt_of_le hg hb.size,(hb.cell (p:=⟨g,i,none⟩) (by show g<B;omega)).trans c0⟩⟩
theorem zG.drew{w:World}{v:Value}{l:List Nat}(h:zG w v l):zG w.drew v l:=⟨h.form,h.cells⟩
theorem JN{B:Nat}{w:World}{v:Value}{l:List Nat}(h:w.ownsRow B 3 1 v l.length (zA l)):zG w v l:=by
 rcases h.2 with ⟨e,e0⟩|⟨g,o,q,e,hB,hg,hn,hm,u,j⟩
 ·exact⟨⟨none,0,by rw[e,e0]⟩,fun i hi=>by omega⟩
 ·refine⟨⟨_,_,e⟩,fun i hi=>?_⟩;have p:g<w.heap.size:=(h.lt g (by rw[e];rfl)).2;have cell:w.cell? ⟨g,i,none⟩=(zA l)[i]?:=by
   rw[<-j,List.getElem?_take,zA2 (by omega)];simp[World.cell?,hg]
  exact⟨g,o,e,p,cell.trans (Yx l i hi)⟩
theorem zbg{B n:Nat}{w:World}{v:Value}{t:TypeId}{cs:List Value}(h:w.ownsRow B t 1 v n cs):∃a c,v=.slice a n c:=by
 rcases h.2 with ⟨e,e0⟩|⟨g,j,o,e,-⟩
 ·exact⟨none,0,by rw[e,e0]⟩
 ·exact⟨_,_,e⟩
def yE(w:World)(l:List Nat)(e:Ending)(w':World):Prop:=∃a c,e=.returned (.slice a l.length c)/\zG w' (.slice a l.length c) l/\(∀g,(Value.slice a l.length c).ownBlock=some g->w.heap.size<=g)/\zB w w'
theorem zgs{l:List Nat}{n k:Nat}(hk:k<l.length)(h:nv l k<=n):inP (l.drop k) n=!inP (l.drop (k+1)) n:=by
 rw[List.drop_eq_getElem_cons hk,inP,<-Y5 l k hk,zA2 h]
theorem zi6{l:List Nat}{n k:Nat}(hk:k<l.length)(h:¬nv l k<=n):inP (l.drop k) n=false:=by
 rw[List.drop_eq_getElem_cons hk,inP,<-Y5 l k hk,zA1 h]
theorem zeQ(k:Nat):((k:Int)%2==1)=(k%2==1):=by
 rw[show (k:Int)%2=((k%2:Nat):Int) by omega];rcases Nat.mod_two_eq_zero_or_one k with e|e<;>rw[e]<;>rfl
theorem znn(k:Nat)(b:Bool):(b ^^ (k%2==1))=((!b) ^^ ((k+1)%2==1)):=by
 rcases Nat.mod_two_eq_zero_or_one k with e|e
 ·have:(k+1)%2=1:=by omega
  rw[e,this];cases b<;>rfl
 ·have:(k+1)%2=0:=by omega
  rw[e,this];cases b<;>rfl
theorem JS(l:List Nat)(n:Nat)(v:Value)(w:World)(hv:zG w v l)(hlen:l.length<=1000000000) :
  zC 125 #[v,n] w fun e w'=>e=.returned (.bool (inP l n))/\w'=w:=by
 obtain⟨a,u,rfl⟩:=hv.form;have HV:=zH hv;clear hv;go_enter Tryz.func125,Tryz.ntmps125;go_wp2_with fail;go_loopw [5] (fun kV wr=>∃k:Nat,k<=l.length/\kV=.int .i64 k/\(inP (l.drop k) n ^^ (k%2==1))=inP l n/\wr=w) (fun kV _=>l.length-(intOf kV).toNat)
 case atStart=>exact⟨0,Nat.zero_le _,rfl,by simp,rfl⟩
 case round =>
  obtain⟨k,hk,rfl,j,rfl⟩:=hrel;have HR:=zH j;clear j
  by_cases hlt:k<l.length
  ·obtain⟨g,q,e1,hg,c0⟩:=HV.out.cells k hlt;simp at e1;obtain⟨rfl,rfl⟩:=e1
   by_cases hle:nv l k<=n
   ·have j:=HR.out;rw[zgs hlt hle,znn,Bool.not_not] at j;have p:=zH j;clear j HR;generalize nv l k=A at *;go_wp2;go_roundw
    case rel=>exact⟨k+1,by omega,by go_num,p.out,trivial⟩
    case measure=>simp[intOf];omega
   ·have j:=HR.out;rw[zi6 hlt hle,Bool.false_xor] at j;have o:=zeQ k;rw[j] at o;have p:=zH o;clear j HR o;generalize nv l k=A at *;go_wp2;go_ret;exact⟨congrArg (fun b=>Ending.returned (.bool b)) p.out,rfl⟩
  ·obtain rfl:k=l.length:=by omega
   have j:=HR.out;rw[List.drop_length,inP,Bool.false_xor] at j;have o:=zeQ l.length;rw[j] at o;have p:=zH o;clear j HR o;go_wp2;go_ret;exact⟨congrArg (fun b=>Ending.returned (.bool b)) p.out,rfl⟩
theorem x8(x y:Nat)(w:World):zC 104 #[x,y] w (yE w (tp (zh x y))):=by
 rw[zmw]
 by_cases h:x<y
 ·rw[zA2 h];have h1:¬(y:Int)<=(x:Int):=by omega
  clear h;go_enter Tryz.func104,Tryz.ntmps104;go_wp2;go_ret;refine⟨_,_,rfl,⟨⟨_,_,rfl⟩,fun i hi=>⟨w.heap.size,2,rfl,by simp,?_⟩⟩,fun g hg=>by simp[Value.ownBlock] at hg;omega,(Below.refl _ w).alloc zN _⟩
  match i,hi with
  |0,_=>simp[nv]
  |1,_=>simp[nv]
 ·rw[zA1 h];have h1:(y:Int)<=(x:Int):=by omega
  clear h;go_enter Tryz.func104,Tryz.ntmps104;go_wp2;go_ret;exact⟨none,0,rfl,xD _,fun g hg=>by simp[Value.ownBlock] at hg,Below.refl _ _⟩
theorem yK(a b c:Nat)(ha:a<=1000)(hb:b<=1000)(hc:c<=1000)(w:World) :
  zR 126 #[.agg #[a,b,c]] w (.int .i64 (((a*1000+b)*1000+c:Nat):Int)):=by
 have hB:Hid (zB w (w.alloc (.cells #[a,b,c] 81))):=(Below.refl _ w).alloc zN _;have HN:Hid ((a:Int)*1000000+(b:Int)*1000+(c:Int)=(((a*1000+b)*1000+c:Nat):Int)):=by show _=_;omega
 go_enter Tryz.func126,Tryz.ntmps126;go_wp2;go_ret;exact⟨congrArg (fun z=>Ending.returned (Value.int .i64 z)) HN.out,hB.out⟩
end Go.Proofs.YthifnefkdjkicaaGreatDoor
