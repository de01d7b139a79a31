import Derived.Test.YthifnefkdjkicaaGreatDoorCtMap
import Derived.Shelf.SlSortCmp.NoneTotal
import Derived.Shelf.SlicesQ.Contains
import Derived.Shelf.SlicesE.Clone
import Derived.Shelf.Spec.SlicesInsertGrow
open Go.Proofs.YthifnefkdjkicaaGreatDoor
set_option maxHeartbeats 4000000
set_option maxRecDepth 100000
namespace Go.Proofs.YthifnefkdjkicaaGreatDoor
open Go.RowKit Go.Deep Go.Maps Sv
theorem zis{l:List It}{k:Nat}(h:k<l.length):l.take (k+1)=l.take k++[l.getD k default]:=by
 rw[List.take_succ_eq_append_getElem h,List.getD_eq_getElem?_getD,List.getElem?_eq_getElem h];rfl
theorem zoY(its:List It)(v:Value)(w:World)(h:yd w v its)(hl:its.length<=100000)(hn:∀x∈its,x.name.size<=100000) :
  zC 82 #[v] w fun e w'=>e=.returned (.map (some w.heap.size))/\qM w' w.heap.size (ye its) its.length/\zB w w':=by
 have HI:=zH h;have ai:=zH hn;obtain⟨va,vc,rfl,-⟩:=h.form;clear h hn;have af:=qM.made w;have ac:Hid (qM (w.alloc (.map #[] 0)) w.heap.size (ye (its.take 0)) 0):=af;have aa:Hid (zB w (w.alloc (.map #[] 0))):=(Below.refl _ w).alloc zN _;clear af;have am:=@run_makeMap Tryz.prog;go_enter Tryz.func82,Tryz.ntmps82;go_wp2_with fail;clear am;go_loopw [11] (fun iV wr=>∃k:Nat,k<=its.length/\iV=.int .i64 k/\qM wr w.heap.size (ye (its.take k)) k/\zB w wr) (fun iV _=>its.length-(intOf iV).toNat)
 case atStart=>exact⟨0,Nat.zero_le _,rfl,ac.out,aa.out⟩
 case round =>
  obtain⟨k,hk,rfl,o,u⟩:=hrel;clear ac aa
  by_cases hlt:k<its.length
  ·obtain⟨g,ak,e,hg,c0,c1,c2,c3⟩:=(show yd wr _ its from HI.out.below u zN).at k hlt;simp at e;obtain⟨rfl,rfl⟩:=e;have ah:ye (its.take (k+1))=fun c=>if c=(its.getD k default).name then some ((((ye (its.take k) (its.getD k default).name).map Prod.fst).getD k,k+1)) else ye (its.take k) c:=by
    funext c;rw[zis hlt,zbx,List.length_take,Nat.min_eq_left hk]
    by_cases hc:(its.getD k default).name=c
    ·subst hc;simp
    ·rw[zA1 hc,zA1 (fun e=>hc e.symm)]
   have a9:(its.getD k default).name.size<=100000:=ai.out _ (xR hlt);have ad:=zH ah;clear ah;generalize its.getD k default=x at *;generalize ye (its.take k)=f at *;have kx:=Blk.new wr 115 #[x.name,x.a,x.b,x.c];have a5:zB wr (wr.alloc (.cells #[x.name,x.a,x.b,x.c] 115)):=zF.alloc zN _;have ag:=o.below a5 zN;have ae:zB w (wr.alloc (.cells #[x.name,x.a,x.b,x.c] 115)):=zT u a5;have a0:=zH ag;have Y:=zH ae;clear o u a5 ag ae;go_upto_region 5 with fail;clear c0 c1 c2 c3;generalize wr.alloc (.cells #[x.name,x.a,x.b,x.c] 115)=W1 at *;generalize wr.heap.size=bx at *;obtain⟨⟨P,Q⟩,a7⟩:∃pq:Nat × Nat,(f x.name).getD (0,0)=pq:=⟨_,rfl⟩;obtain⟨b,hb⟩:∃b,(f x.name).isSome=b:=⟨_,rfl⟩;have K:(Instr.lookup 167 (.map (some w.heap.size)) (.string x.name) true).run Tryz.prog W1=.ok (.tuple #[.agg #[P,Q],.bool b]) W1:=by have h:=(a0.out.look a9).1;rw[a7,hb] at h;exact h
   have d0:_=some (Value.string x.name):=kx.cell 0;have kr:=Blk.new W1 174 #[P,Q];have u:zB W1 (W1.alloc (.cells #[P,Q] 174)):=zF.alloc zN _;have X:=kx.below u kx.lt;have C:=zH (a0.out.below u zN);have V:Hid (zB w (W1.alloc (.cells #[P,Q] 174))):=zT Y.out u;have aj:=zH a7;have ab:=zH hb;have a8:bx≠W1.heap.size:=Nat.ne_of_lt kx.lt;have a4:w.heap.size<=W1.heap.size:=Y.out.size;clear a7 hb u a0 Y kx;go_upto_region 6 with fail;clear K d0;generalize W1.alloc (.cells #[P,Q] 174)=W2 at *;generalize W1.heap.size=br at *;have a6:=C.out.ne kr;cases b with
   |false =>
    have e0:_=some (Value.int .i64 P):=kr.cell 0;have e1:_=some (Value.int .i64 Q):=kr.cell 1;have a2:=kr.frozen 0;have a3:=kr.frozen 1;have k3:Blk ((W2.setCell br (.int .i64 k)).setCell ⟨br,1,none⟩ (.int .i64 ((k:Int)+1))) br 174 #[k,.int .i64 ((k:Int)+1)]:=(kr.set (i:=0)).set (i:=1);have U:Blk ((W2.setCell br (.int .i64 k)).setCell ⟨br,1,none⟩ (.int .i64 ((k:Int)+1))) bx 115 #[x.name,x.a,x.b,x.c]:=(X.other a8).other a8;have M:qM ((W2.setCell br (.int .i64 k)).setCell ⟨br,1,none⟩ (.int .i64 ((k:Int)+1))) w.heap.size f k:=C.out.block (by rw[Below.heap_setCell _ _ _ _ a6,Below.heap_setCell _ _ _ _ a6]);have y:zB w ((W2.setCell br (.int .i64 k)).setCell ⟨br,1,none⟩ (.int .i64 ((k:Int)+1))):=(V.out.setCell (p:=br) a4 _).setCell (p:=⟨br,1,none⟩) a4 _;go_upto_region 9 with fail;clear e0 e1 a2 a3;generalize ((W2.setCell br (.int .i64 k)).setCell ⟨br,1,none⟩ (.int .i64 ((k:Int)+1)))=W3 at *;obtain⟨w4,q,R,J⟩:=M.put a9 (k,k+1) (by omega);have hrun':(Instr.mapUpdate 167 (.map (some w.heap.size)) (.string x.name) (.agg #[k,.int .i64 ((k:Int)+1)])).run Tryz.prog W3=.ok () w4:=q;have g0:_=some (Value.int .i64 k):=k3.cell 0;have g1:_=some (Value.int .i64 ((k:Int)+1)):=k3.cell 1;have g2:_=some (Value.string x.name):=U.cell 0;have Z:Hid (zB w w4):=y.grown J y.size (fun j hj=>by cases hj;exact Nat.le_refl _);have a1:Hid (qM w4 w.heap.size (ye (its.take (k+1))) (k+1)):=by
     show qM _ _ _ _;rw[ad.out];have e:((f x.name).map Prod.fst).getD k=k:=by
      have h:=ab.out;cases hf:f x.name with
      |none=>rfl
      |some r=>rw[hf] at h;cases h
     rw[e];exact R
    clear q R J k3 U M y C V kr X;go_wp2;go_roundw
    case rel=>exact⟨k+1,hlt,by go_num,a1.out,Z.out⟩
    case measure=>simp[intOf];omega
   |true =>
    have e0:_=some (Value.int .i64 P):=kr.cell 0;have e1:_=some (Value.int .i64 Q):=kr.cell 1;have a2:=kr.frozen 0;have a3:=kr.frozen 1;have k3:Blk (W2.setCell ⟨br,1,none⟩ (.int .i64 ((k:Int)+1))) br 174 #[P,.int .i64 ((k:Int)+1)]:=kr.set (i:=1);have U:Blk (W2.setCell ⟨br,1,none⟩ (.int .i64 ((k:Int)+1))) bx 115 #[x.name,x.a,x.b,x.c]:=X.other a8;have M:qM (W2.setCell ⟨br,1,none⟩ (.int .i64 ((k:Int)+1))) w.heap.size f k:=C.out.block (by rw[Below.heap_setCell _ _ _ _ a6]);have y:zB w (W2.setCell ⟨br,1,none⟩ (.int .i64 ((k:Int)+1))):=V.out.setCell (p:=⟨br,1,none⟩) a4 _;go_upto_region 9 with fail;clear e0 e1 a2 a3;generalize (W2.setCell ⟨br,1,none⟩ (.int .i64 ((k:Int)+1)))=W3 at *;obtain⟨w4,q,R,J⟩:=M.put a9 (P,k+1) (by omega);have hrun':(Instr.mapUpdate 167 (.map (some w.heap.size)) (.string x.name) (.agg #[P,.int .i64 ((k:Int)+1)])).run Tryz.prog W3=.ok () w4:=q;have g0:_=some (Value.int .i64 P):=k3.cell 0;have g1:_=some (Value.int .i64 ((k:Int)+1)):=k3.cell 1;have g2:_=some (Value.string x.name):=U.cell 0;have Z:Hid (zB w w4):=y.grown J y.size (fun j hj=>by cases hj;exact Nat.le_refl _);have a1:Hid (qM w4 w.heap.size (ye (its.take (k+1))) (k+1)):=by
     show qM _ _ _ _;rw[ad.out];have e:((f x.name).map Prod.fst).getD k=P:=by
      have h:=ab.out;have h2:=aj.out;cases hf:f x.name with
      |none=>rw[hf] at h;cases h
      |some r=>rw[hf] at h2;simp at h2;simp[h2]
     rw[e];exact R
    clear q R J k3 U M y C V kr X;go_wp2;go_roundw
    case rel=>exact⟨k+1,hlt,by go_num,a1.out,Z.out⟩
    case measure=>simp[intOf];omega
  ·obtain rfl:k=its.length:=by omega
   rw[List.take_length] at o;have HR:=zH o;have HB:=zH u;clear o u;go_wp2;go_ret;exact⟨rfl,HR.out,HB.out⟩
end Go.Proofs.YthifnefkdjkicaaGreatDoor
namespace Go.Proofs
open Go.Shelf
def Tryz.sortItem_ren:Go.Shelf.Ren:=⟨fun|6=>121|15=>166|14=>165|28=>205|29=>206|20=>197|21=>198|22=>199|23=>200|24=>201|25=>202|26=>203|27=>204|46=>225|47=>226|48=>227|49=>228|50=>229|57=>242|n=>n,fun|22=>111|24=>115|25=>227|3=>3|39=>22|0=>0|53=>312|55=>314|4=>4|46=>306|45=>305|50=>196|5=>5|9=>9|66=>343|70=>347|76=>357|77=>320|n=>n,fun|n=>n⟩
theorem Tryz.sortItem:Go.Proofs.SlLaysF0.n6 Tryz.prog Tryz.sortItem_ren:={
 mixed:=by kernel_rfl
 f6:=⟨Tryz.f121.name,by decide,zK Tryz.func121 (by kernel_rfl)⟩
 f14:=⟨Tryz.f165.name,by decide,zK Tryz.func165 (by kernel_rfl)⟩
 f15:=zK Tryz.func166 (by kernel_rfl)
 f20:=⟨Tryz.f197.name,by decide,zK Tryz.func197 (by kernel_rfl)⟩
 f21:=⟨Tryz.f198.name,by decide,zK Tryz.func198 (by kernel_rfl)⟩
 f22:=⟨Tryz.f199.name,by decide,zK Tryz.func199 (by kernel_rfl)⟩
 f23:=⟨Tryz.f200.name,by decide,zK Tryz.func200 (by kernel_rfl)⟩
 f24:=⟨Tryz.f201.name,by decide,zK Tryz.func201 (by kernel_rfl)⟩
 f25:=⟨Tryz.f202.name,by decide,zK Tryz.func202 (by kernel_rfl)⟩
 f26:=⟨Tryz.f203.name,by decide,zK Tryz.func203 (by kernel_rfl)⟩
 f27:=⟨Tryz.f204.name,by decide,zK Tryz.func204 (by kernel_rfl)⟩
 f28:=zK Tryz.func205 (by kernel_rfl)
 f29:=zK Tryz.func206 (by kernel_rfl)
 f46:=⟨Tryz.f225.name,by decide,zK Tryz.func225 (by kernel_rfl)⟩
 f47:=zK Tryz.func226 (by kernel_rfl)
 f48:=zK Tryz.func227 (by kernel_rfl)
 f49:=⟨Tryz.f228.name,by decide,zK Tryz.func228 (by kernel_rfl)⟩
 f50:=⟨Tryz.f229.name,by decide,zK Tryz.func229 (by kernel_rfl)⟩
 f57:=⟨Tryz.f242.name,by decide,zK Tryz.func242 (by kernel_rfl)⟩
 t0:=Tryz.underlying0
 a0:=Tryz.isAgg0
 z0:=Tryz.sizeOf0
 v0:=Tryz.zeroValue0
 t3:=Tryz.underlying3
 a3:=Tryz.isAgg3
 z3:=Tryz.sizeOf3
 v3:=Tryz.zeroValue3
 t4:=Tryz.underlying4
 a4:=Tryz.isAgg4
 z4:=Tryz.sizeOf4
 v4:=Tryz.zeroValue4
 t5:=Tryz.underlying5
 a5:=Tryz.isAgg5
 z5:=Tryz.sizeOf5
 v5:=Tryz.zeroValue5
 t9:=Tryz.underlying9
 a9:=Tryz.isAgg9
 z9:=Tryz.sizeOf9
 v9:=Tryz.zeroValue9
 t22:=Tryz.underlying111
 a22:=Tryz.isAgg111
 z22:=Tryz.sizeOf111
 v22:=Tryz.zeroValue111
 t25:=Tryz.underlying227
 a25:=Tryz.isAgg227
 z25:=Tryz.sizeOf227
 v25:=Tryz.zeroValue227
 t39:=Tryz.underlying22
 a39:=Tryz.isAgg22
 z39:=Tryz.sizeOf22
 v39:=Tryz.zeroValue22
 t45:=Tryz.underlying305
 a45:=Tryz.isAgg305
 z45:=Tryz.sizeOf305
 v45:=Tryz.zeroValue305
 t46:=Tryz.underlying306
 a46:=Tryz.isAgg306
 z46:=Tryz.sizeOf306
 v46:=Tryz.zeroValue306
 t50:=Tryz.underlying196
 a50:=Tryz.isAgg196
 z50:=Tryz.sizeOf196
 v50:=Tryz.zeroValue196
 t53:=Tryz.underlying312
 a53:=Tryz.isAgg312
 z53:=Tryz.sizeOf312
 v53:=Tryz.zeroValue312
 t55:=Tryz.underlying314
 a55:=Tryz.isAgg314
 z55:=Tryz.sizeOf314
 v55:=Tryz.zeroValue314
 t66:=Tryz.underlying343
 a66:=Tryz.isAgg343
 z66:=Tryz.sizeOf343
 v66:=Tryz.zeroValue343
 t70:=Tryz.underlying347
 a70:=Tryz.isAgg347
 z70:=Tryz.sizeOf347
 v70:=Tryz.zeroValue347
 t76:=Tryz.underlying357
 a76:=Tryz.isAgg357
 z76:=Tryz.sizeOf357
 v76:=Tryz.zeroValue357
 t77:=Tryz.underlying320
 a77:=Tryz.isAgg320
 z77:=Tryz.sizeOf320
 v77:=Tryz.zeroValue320 }
def Tryz.ixItem_ren:Go.Shelf.Ren:=⟨fun|6=>86|n=>n,fun|22=>111|24=>115|3=>3|0=>0|4=>4|n=>n,fun|n=>n⟩
theorem Tryz.ixItem:Go.Proofs.SlLaysQ.n6 Tryz.prog Tryz.ixItem_ren:={
 mixed:=by kernel_rfl
 f6:=⟨Tryz.f86.name,by decide,zK Tryz.func86 (by kernel_rfl)⟩
 t0:=Tryz.underlying0
 a0:=Tryz.isAgg0
 z0:=Tryz.sizeOf0
 v0:=Tryz.zeroValue0
 t3:=Tryz.underlying3
 a3:=Tryz.isAgg3
 z3:=Tryz.sizeOf3
 v3:=Tryz.zeroValue3
 t4:=Tryz.underlying4
 a4:=Tryz.isAgg4
 z4:=Tryz.sizeOf4
 v4:=Tryz.zeroValue4
 t22:=Tryz.underlying111
 a22:=Tryz.isAgg111
 z22:=Tryz.sizeOf111
 v22:=Tryz.zeroValue111 }
def Tryz.hasItem_ren:Go.Shelf.Ren:=⟨fun|7=>120|6=>86|n=>n,fun|22=>111|24=>115|4=>4|0=>0|3=>3|n=>n,fun|n=>n⟩
theorem Tryz.hasItem:Go.Proofs.SlLaysQ.n7 Tryz.prog Tryz.hasItem_ren:={
 mixed:=by kernel_rfl
 f6:=⟨Tryz.f86.name,by decide,zK Tryz.func86 (by kernel_rfl)⟩
 f7:=⟨Tryz.f120.name,by decide,zK Tryz.func120 (by kernel_rfl)⟩
 t0:=Tryz.underlying0
 a0:=Tryz.isAgg0
 z0:=Tryz.sizeOf0
 v0:=Tryz.zeroValue0
 t3:=Tryz.underlying3
 a3:=Tryz.isAgg3
 z3:=Tryz.sizeOf3
 v3:=Tryz.zeroValue3
 t4:=Tryz.underlying4
 a4:=Tryz.isAgg4
 z4:=Tryz.sizeOf4
 v4:=Tryz.zeroValue4
 t22:=Tryz.underlying111
 a22:=Tryz.isAgg111
 z22:=Tryz.sizeOf111
 v22:=Tryz.zeroValue111 }
def Tryz.clnLine_ren:Go.Shelf.Ren:=⟨fun|41=>81|n=>n,fun|22=>88|23=>97|4=>4|n=>n,fun|n=>n⟩
theorem Tryz.clnLine:Go.Proofs.SlLaysE0.n41 Tryz.prog Tryz.clnLine_ren:={
 mixed:=by kernel_rfl
 f41:=⟨Tryz.f81.name,by decide,zK Tryz.func81 (by kernel_rfl)⟩
 t4:=Tryz.underlying4
 a4:=Tryz.isAgg4
 z4:=Tryz.sizeOf4
 v4:=Tryz.zeroValue4
 t22:=Tryz.underlying88
 a22:=Tryz.isAgg88
 z22:=Tryz.sizeOf88
 v22:=Tryz.zeroValue88 }
def Tryz.clnItem_ren:Go.Shelf.Ren:=⟨fun|41=>84|n=>n,fun|22=>111|23=>115|4=>4|n=>n,fun|n=>n⟩
theorem Tryz.clnItem:Go.Proofs.SlLaysE0.n41 Tryz.prog Tryz.clnItem_ren:={
 mixed:=by kernel_rfl
 f41:=⟨Tryz.f84.name,by decide,zK Tryz.func84 (by kernel_rfl)⟩
 t4:=Tryz.underlying4
 a4:=Tryz.isAgg4
 z4:=Tryz.sizeOf4
 v4:=Tryz.zeroValue4
 t22:=Tryz.underlying111
 a22:=Tryz.isAgg111
 z22:=Tryz.sizeOf111
 v22:=Tryz.zeroValue111 }
def Tryz.insInt_ren:Go.Shelf.Ren:=⟨fun|21=>52|27=>87|28=>88|35=>130|39=>169|n=>n,fun|22=>23|3=>3|4=>4|0=>0|n=>n,fun|n=>n⟩
theorem Tryz.insInt:Go.Proofs.Lays2.n21 Tryz.prog Tryz.insInt_ren:={
 mixed:=by kernel_rfl
 f21:=zK Tryz.func52 (by kernel_rfl)
 f27:=zK Tryz.func87 (by kernel_rfl)
 f28:=zK Tryz.func88 (by kernel_rfl)
 f35:=zK Tryz.func130 (by kernel_rfl)
 f39:=zK Tryz.func169 (by kernel_rfl)
 t0:=Tryz.underlying0
 a0:=Tryz.isAgg0
 z0:=Tryz.sizeOf0
 v0:=Tryz.zeroValue0
 t3:=Tryz.underlying3
 a3:=Tryz.isAgg3
 z3:=Tryz.sizeOf3
 v3:=Tryz.zeroValue3
 t4:=Tryz.underlying4
 a4:=Tryz.isAgg4
 z4:=Tryz.sizeOf4
 v4:=Tryz.zeroValue4
 t22:=Tryz.underlying23
 a22:=Tryz.isAgg23
 z22:=Tryz.sizeOf23
 v22:=Tryz.zeroValue23
 i3:=by kernel_rfl }
end Go.Proofs
namespace Go.Proofs.YthifnefkdjkicaaGreatDoor
open Go.RowKit Go.Shelf Go.Lib Sv
theorem eq3(a b c a' b' c':Int)(w:World):(Op.equalIn 9999 92 (.agg #[a,b,c]) (.agg #[a',b',c'])).run Tryz.prog w=.ok (a==a'&&(b==b'&&c==c')) w:=by
 have u3:=Tryz.underlying3;have a3:=Tryz.isAgg3;have z3:=Tryz.sizeOf3;rw[show (9999:Nat)=9998+1 from rfl,Op.equalIn];simp only[Sem.run_bind,run_underlying Tryz.underlying92,Result.andThen_ok];simp only[Std.Legacy.Range.forIn_eq_forIn_range',Std.Legacy.Range.size,Nat.sub_zero,Nat.add_sub_cancel,Nat.div_one,List.range'_succ,List.range'_zero,List.forIn_cons,List.forIn_nil]
 by_cases h1:a=a'
 ·by_cases h2:b=b'
  ·by_cases h3:c=c'
   ·subst h1 h2 h3;go_simp
   ·have e3:(c==c')=false:=by simpa using h3
    subst h1 h2;go_simp
  ·have e2:(b==b')=false:=by simpa using h2
   subst h1;go_simp
 ·have e1:(a==a')=false:=by simpa using h1
  go_simp
theorem zdb:EqlAt Tryz.prog 115 (fun x=>.agg (zX x).toArray) (fun x y=>decide (x=y)):=by
 refine⟨fun x y w=>?_,GuardAt.agg _ (by kernel_rfl)⟩;have u3:=Tryz.underlying3;have a3:=Tryz.isAgg3;have z3:=Tryz.sizeOf3;have u9:=Tryz.underlying9;have a9:=Tryz.isAgg9;have z9:=Tryz.sizeOf9;have av:=Tryz.isAgg92;have zv:=Tryz.sizeOf92;have hS:Tryz.prog.underlying 115=some (.struct (Tryz.prog.fieldsOf 115)):=by kernel_rfl
 have hp:Tryz.prog.stoodInHeld 115=false:=by kernel_rfl
 have he:decide (x=y)=(x.name.toList==y.name.toList&&(x.a==y.a&&(x.b==y.b&&x.c==y.c))):=by
  obtain⟨n,a,b,c⟩:=x;obtain⟨n',a',b',c'⟩:=y;rw[Bool.eq_iff_iff];simp only[decide_eq_true_eq,It.mk.injEq,Bool.and_eq_true,beq_iff_eq];constructor
  ·rintro⟨rfl,rfl,rfl,rfl⟩;exact⟨rfl,rfl,rfl,rfl⟩
  ·rintro⟨h,rfl,rfl,rfl⟩;exact⟨Zb h,rfl,rfl,rfl⟩
 show (binOp .eql 115 (.agg (zX x).toArray) (.agg (zX y).toArray)).run Tryz.prog w=.ok (.bool (decide (x=y))) w;rw[he];simp only[zX];have h3:=eq3 x.a x.b x.c y.a y.b y.c;generalize x.name=n at *;generalize y.name=n' at *;generalize x.a=a at *;generalize x.b=b at *;generalize x.c=c at *;generalize y.a=a' at *;generalize y.b=b' at *;generalize y.c=c' at *;generalize (a==a'&&(b==b'&&c==c'))=q at *;clear he;rw[run_eql_struct,show (10000:Nat)=9999+1 from rfl,run_equalIn_agg w 9999 115 _ _ hS hp];simp only[Program.fieldsOf,Tryz.underlying115];cases hn:(n.toList==n'.toList)<;>cases q<;>go_simp
end Go.Proofs.YthifnefkdjkicaaGreatDoor
namespace Go.Proofs.YthifnefkdjkicaaGreatDoor
open Go.RowKit Sv
theorem zlN(va:Option Addr)(vl vc:Nat)(a b c:Int)(hx:a<0)(w:World) :
  zR 85 #[.agg #[.slice va vl vc],.agg #[a,b,c]] w (.bool false):=by
 have j:zB w ((w.alloc (.cells #[.slice va vl vc] 95)).alloc (.cells #[a,b,c] 92)):=((Below.refl _ w).alloc zN _).alloc (by simp only[zA0];omega) _;have o:=zH j;clear j;go_enter Tryz.func85,Tryz.ntmps85;go_wp2_with fail;generalize (w.alloc (.cells #[.slice va vl vc] 95)).alloc (.cells #[a,b,c] 92)=W0 at *;go_loop [10] (fun i=>∃k:Nat,k<=0/\i=.int .i64 k) (fun i=>3-(intOf i).toNat)
 case atStart=>exact⟨0,by omega,rfl⟩
 case round =>
  obtain⟨k,hk,rfl⟩:=hrel
  match k,hk with
  |0,_ =>have p:=Yr a b c W0;go_wp2;go_ret;exact⟨rfl,o.out⟩
theorem zmd(va:Option Addr)(vl vc:Nat)(a b c:Int)(hx0:¬a<0)(hx:999<a)(w:World) :
  zR 85 #[.agg #[.slice va vl vc],.agg #[a,b,c]] w (.bool false):=by
 have j:zB w ((w.alloc (.cells #[.slice va vl vc] 95)).alloc (.cells #[a,b,c] 92)):=((Below.refl _ w).alloc zN _).alloc (by simp only[zA0];omega) _;have o:=zH j;clear j;go_enter Tryz.func85,Tryz.ntmps85;go_wp2_with fail;generalize (w.alloc (.cells #[.slice va vl vc] 95)).alloc (.cells #[a,b,c] 92)=W0 at *;go_loop [10] (fun i=>∃k:Nat,k<=0/\i=.int .i64 k) (fun i=>3-(intOf i).toNat)
 case atStart=>exact⟨0,by omega,rfl⟩
 case round =>
  obtain⟨k,hk,rfl⟩:=hrel
  match k,hk with
  |0,_ =>have p:=Yr a b c W0;go_wp2;go_ret;exact⟨rfl,o.out⟩
theorem zjY(va:Option Addr)(vl vc:Nat)(a b c:Int)(ha0:¬a<0)(ha1:¬999<a)(hx:b<0)(w:World) :
  zR 85 #[.agg #[.slice va vl vc],.agg #[a,b,c]] w (.bool false):=by
 have j:zB w ((w.alloc (.cells #[.slice va vl vc] 95)).alloc (.cells #[a,b,c] 92)):=((Below.refl _ w).alloc zN _).alloc (by simp only[zA0];omega) _;have o:=zH j;clear j;go_enter Tryz.func85,Tryz.ntmps85;go_wp2_with fail;generalize (w.alloc (.cells #[.slice va vl vc] 95)).alloc (.cells #[a,b,c] 92)=W0 at *;go_loop [10] (fun i=>∃k:Nat,k<=1/\i=.int .i64 k) (fun i=>3-(intOf i).toNat)
 case atStart=>exact⟨0,by omega,rfl⟩
 case round =>
  obtain⟨k,hk,rfl⟩:=hrel
  match k,hk with
  |0,_ =>
   have p:=Yr a b c W0;go_wp2;go_round
   case rel=>exact⟨1,by omega,rfl⟩
   case measure=>simp[intOf]
  |1,_ =>have p:=Xd a b c W0;go_wp2;go_ret;exact⟨rfl,o.out⟩
theorem zk4(va:Option Addr)(vl vc:Nat)(a b c:Int)(ha0:¬a<0)(ha1:¬999<a)(hx0:¬b<0)(hx:999<b)(w:World) :
  zR 85 #[.agg #[.slice va vl vc],.agg #[a,b,c]] w (.bool false):=by
 have j:zB w ((w.alloc (.cells #[.slice va vl vc] 95)).alloc (.cells #[a,b,c] 92)):=((Below.refl _ w).alloc zN _).alloc (by simp only[zA0];omega) _;have o:=zH j;clear j;go_enter Tryz.func85,Tryz.ntmps85;go_wp2_with fail;generalize (w.alloc (.cells #[.slice va vl vc] 95)).alloc (.cells #[a,b,c] 92)=W0 at *;go_loop [10] (fun i=>∃k:Nat,k<=1/\i=.int .i64 k) (fun i=>3-(intOf i).toNat)
 case atStart=>exact⟨0,by omega,rfl⟩
 case round =>
  obtain⟨k,hk,rfl⟩:=hrel
  match k,hk with
  |0,_ =>
   have p:=Yr a b c W0;go_wp2;go_round
   case rel=>exact⟨1,by omega,rfl⟩
   case measure=>simp[intOf]
  |1,_ =>have p:=Xd a b c W0;go_wp2;go_ret;exact⟨rfl,o.out⟩
theorem zha(va:Option Addr)(vl vc:Nat)(a b c:Int)(ha0:¬a<0)(ha1:¬999<a)(hb0:¬b<0)(hb1:¬999<b)(hx:c<0)(w:World) :
  zR 85 #[.agg #[.slice va vl vc],.agg #[a,b,c]] w (.bool false):=by
 have j:zB w ((w.alloc (.cells #[.slice va vl vc] 95)).alloc (.cells #[a,b,c] 92)):=((Below.refl _ w).alloc zN _).alloc (by simp only[zA0];omega) _;have p:=zH j;clear j;go_enter Tryz.func85,Tryz.ntmps85;go_wp2_with fail;generalize (w.alloc (.cells #[.slice va vl vc] 95)).alloc (.cells #[a,b,c] 92)=W0 at *;go_loop [10] (fun i=>∃k:Nat,k<=2/\i=.int .i64 k) (fun i=>3-(intOf i).toNat)
 case atStart=>exact⟨0,by omega,rfl⟩
 case round =>
  obtain⟨k,hk,rfl⟩:=hrel
  match k,hk with
  |0,_ =>
   have o:=Yr a b c W0;go_wp2;go_round
   case rel=>exact⟨1,by omega,rfl⟩
   case measure=>simp[intOf]
  |1,_ =>
   have o:=Xd a b c W0;go_wp2;go_round
   case rel=>exact⟨2,by omega,rfl⟩
   case measure=>simp[intOf]
  |2,_ =>have o:=zbf a b c W0;go_wp2;go_ret;exact⟨rfl,p.out⟩
theorem zgZ(va:Option Addr)(vl vc:Nat)(a b c:Int)(ha0:¬a<0)(ha1:¬999<a)(hb0:¬b<0)(hb1:¬999<b)(hx0:¬c<0)(hx:999<c)(w:World) :
  zR 85 #[.agg #[.slice va vl vc],.agg #[a,b,c]] w (.bool false):=by
 have j:zB w ((w.alloc (.cells #[.slice va vl vc] 95)).alloc (.cells #[a,b,c] 92)):=((Below.refl _ w).alloc zN _).alloc (by simp only[zA0];omega) _;have p:=zH j;clear j;go_enter Tryz.func85,Tryz.ntmps85;go_wp2_with fail;generalize (w.alloc (.cells #[.slice va vl vc] 95)).alloc (.cells #[a,b,c] 92)=W0 at *;go_loop [10] (fun i=>∃k:Nat,k<=2/\i=.int .i64 k) (fun i=>3-(intOf i).toNat)
 case atStart=>exact⟨0,by omega,rfl⟩
 case round =>
  obtain⟨k,hk,rfl⟩:=hrel
  match k,hk with
  |0,_ =>
   have o:=Yr a b c W0;go_wp2;go_round
   case rel=>exact⟨1,by omega,rfl⟩
   case measure=>simp[intOf]
  |1,_ =>
   have o:=Xd a b c W0;go_wp2;go_round
   case rel=>exact⟨2,by omega,rfl⟩
   case measure=>simp[intOf]
  |2,_ =>have o:=zbf a b c W0;go_wp2;go_ret;exact⟨rfl,p.out⟩
theorem zhn(va:Option Addr)(vl vc:Nat)(a b c:Int)(h:¬((0<=a/\a<=999)/\(0<=b/\b<=999)/\(0<=c/\c<=999)))(w:World) :
  zR 85 #[.agg #[.slice va vl vc],.agg #[a,b,c]] w (.bool false):=by
 by_cases a0:a<0
 ·exact zlN va vl vc a b c a0 w
 by_cases a1:999<a
 ·exact zmd va vl vc a b c a0 a1 w
 by_cases b0:b<0
 ·exact zjY va vl vc a b c a0 a1 b0 w
 by_cases b1:999<b
 ·exact zk4 va vl vc a b c a0 a1 b0 b1 w
 by_cases c0:c<0
 ·exact zha va vl vc a b c a0 a1 b0 b1 c0 w
 by_cases c1:999<c
 ·exact zgZ va vl vc a b c a0 a1 b0 b1 c0 c1 w
 exact absurd ⟨⟨by omega,by omega⟩,⟨by omega,by omega⟩,⟨by omega,by omega⟩⟩ h
end Go.Proofs.YthifnefkdjkicaaGreatDoor
namespace Go.Proofs.YthifnefkdjkicaaGreatDoor
open Go.RowKit Sv
theorem Zy(s:ByteArray)(w:World)(h:zr s):zC 163 #[s] w fun e w'=>e=.returned (.bool true)/\w=w':=(zb6 s w).mono fun _ _ ⟨h1,h2⟩=>⟨h1.1 h,h2⟩
theorem Y1(s:ByteArray)(w:World)(h:¬zr s):zC 163 #[s] w fun e w'=>e=.returned (.bool false)/\w=w':=(zb6 s w).mono fun _ _ ⟨h1,h2⟩=>⟨h1.2 h,h2⟩
open Classical in
theorem zfV(l:List zf)(hl:Rg l)(va:Option Addr)(vc:Nat)(x:It)(w:World)(hv:zk w (.slice va l.length vc) l) :
  zR 85 #[.agg #[.slice va l.length vc],.agg #[x.a,x.b,x.c]] w (.bool (decide (yZ l x))):=by
 by_cases h:InV x.a x.b x.c
 ·obtain⟨n,a,b,c⟩:=x;obtain⟨a',rfl⟩:∃a':Nat,a=(a':Int):=⟨a.toNat,by have:=h.1;simp only at this;omega⟩;obtain⟨b',rfl⟩:∃b':Nat,b=(b':Int):=⟨b.toNat,by have:=h.2.1;simp only at this;omega⟩;obtain⟨c',rfl⟩:∃c':Nat,c=(c':Int):=⟨c.toNat,by have:=h.2.2;simp only at this;omega⟩;have h1:=h.1;have h2:=h.2.1;have h3:=h.2.2;simp only at h1 h2 h3;refine(KK l hl (.slice va l.length vc) a' b' c' (by omega) (by omega) (by omega) w hv).mono fun e w' ⟨B,he,hB,hb⟩=>⟨?_,hb⟩;rw[he];congr 2;rw[Bool.eq_iff_iff,hB,decide_eq_true_eq];unfold yZ;simp only[Int.toNat_natCast];exact⟨fun h'=>⟨h,h'⟩,fun h'=>h'.2⟩
 ·refine(zhn va l.length vc x.a x.b x.c h w).mono fun e w' ⟨he,hb⟩=>⟨?_,hb⟩;rw[he];congr 2;symm;rw[decide_eq_false_iff_not];exact fun h'=>h h'.1
theorem KJ(va:Option Addr)(vc:Nat)(a b c:Int)(w:World)(hv:zk w (.slice va zn.length vc) zn) :
  zR 85 #[.agg #[.slice va zn.length vc],.agg #[a,b,c]] w (.bool (decide (InV a b c))):=by
 refine(zfV zn XG va vc ⟨⟨#[]⟩,a,b,c⟩ w hv).mono fun e w' ⟨he,hb⟩=>⟨?_,hb⟩;rw[he];congr 2;rw[Bool.eq_iff_iff];simp only[decide_eq_true_eq];unfold yZ;constructor
 ·exact fun h=>h.1
 ·intro h;refine⟨h,zoX.2 ?_⟩;obtain⟨h1,h2,h3⟩:=h;simp only;unfold ZR ALL;omega
theorem zks(ra:Option Addr)(rc:Nat)(w:World):zR 164 #[.agg #[.slice ra 0 rc]] w (.bool true):=by
 have hB:Hid (zB w (w.alloc (.cells #[.slice ra 0 rc] 95))):=(Below.refl _ w).alloc zN _;go_enter Tryz.func164,Tryz.ntmps164;go_wp2;go_ret;exact⟨rfl,hB.out⟩
theorem zoP(ra:Option Addr)(rn rc:Nat)(w:World)(h:0<rn):zR 164 #[.agg #[.slice ra rn rc]] w (.bool false):=by
 have hB:Hid (zB w (w.alloc (.cells #[.slice ra rn rc] 95))):=(Below.refl _ w).alloc zN _;have hz:((rn:Int)==0)=false:=by rw[beq_eq_false_iff_ne];omega
 go_enter Tryz.func164,Tryz.ntmps164;go_wp2;go_ret;exact⟨rfl,hB.out⟩
theorem zeF(a b c a' b' c':Int)(w:World):(Op.equalIn 10000 92 (.agg #[a,b,c]) (.agg #[a',b',c'])).run Tryz.prog w=.ok (a==a'&&(b==b'&&c==c')) w:=by
 have u3:=Tryz.underlying3;have a3:=Tryz.isAgg3;have z3:=Tryz.sizeOf3;rw[show (10000:Nat)=9999+1 from rfl,Op.equalIn];simp only[Sem.run_bind,run_underlying Tryz.underlying92,Result.andThen_ok];simp only[Std.Legacy.Range.forIn_eq_forIn_range',Std.Legacy.Range.size,Nat.sub_zero,Nat.add_sub_cancel,Nat.div_one,List.range'_succ,List.range'_zero,List.forIn_cons,List.forIn_nil]
 by_cases h1:a=a'
 ·by_cases h2:b=b'
  ·by_cases h3:c=c'
   ·subst h1 h2 h3;go_simp
   ·have e3:(c==c')=false:=by simpa using h3
    subst h1 h2;go_simp
  ·have e2:(b==b')=false:=by simpa using h2
   subst h1;go_simp
 ·have e1:(a==a')=false:=by simpa using h1
  go_simp
end Go.Proofs.YthifnefkdjkicaaGreatDoor
