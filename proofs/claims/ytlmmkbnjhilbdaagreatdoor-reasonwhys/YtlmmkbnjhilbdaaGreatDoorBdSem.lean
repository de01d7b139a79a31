/- What a diagram is true of; the same function is the same handle. -/
import Derived.Test.YtlmmkbnjhilbdaaGreatDoorArReached
namespace Go.Proofs.YtlmmkbnjhilbdaaGreatDoor
set_option maxHeartbeats 4000000
set_option maxRecDepth 100000
namespace Bd
open Go.RowKit Go.Maps
def icells(l:List Int):List Value:=l.map (Value.int .i64)
theorem xT(l:List Int):(icells l).length=l.length:=by simp[icells]
theorem ZE(l:List Int)(i:Nat)(h:i<l.length):(icells l)[i]?=some (.int .i64 l[i]):=by simp[icells,h]
theorem Zt:(Tryz.prog.info? 3).map (fun i=>(i.zero,i.size,i.bytes))=some (some (.int .i64 0),1,8):=by kernel_rfl
end Bd
namespace Bd
open Go.RowKit Go.Maps
def zbd(L:List (Nd × Int))(n:Nd):List (Nd × Int):=L.filter fun q=>decide (q.1≠n)
theorem zpq{P:Program}{ops:Array Oper}{o:Oper}{a:Act}{w w':World}{K:Act->World->Prop}{Q:Exit->Act->World->Prop}{E:Prop}
  (hg:o.guard=none) (m x:Operand) (t k:TypeId) (hop:o.op=Op.call { callee:=Callee.builtin Builtin.delete,args:=#[m,x],argTypes:=#[t,k] })
  {b:Nat} {key:Value} (hm:a.eval m=.map (some b)) (hx:a.eval x=key) (hrun:∀ty,(Builtin.delete_ #[t,k] ty #[.map (some b),key]).run P w=.ok (.tuple #[]) w')
  (hK:K (a.put o.dst (.tuple #[])) w'):if Region.wanted o (yielded ops a.tmps)=true then Oper.wp P o a w K Q else E:=by
 have hw:Region.wanted o (yielded ops a.tmps)=true:=by simp[Region.wanted,hg]
 rw[if_pos hw];unfold Oper.wp;simp[execOp,hop,resolve,invoke,builtin,hm,hx,hrun,Result.andThen];exact hK
section
variable {B b bm:Nat} {v:Value} {ns:List Nd} {L:List (Nd × Int)} {room next:Int} {w:World}
theorem znB{D:DataW Unit}(hD:w.ownsMap Tryz.prog 194 (plainElem Tryz.prog 3) bm L.length D)(hR:Rep Nd.Ok Nd.lit (fun x:Int=>.lit (.int .i64 x)) D L){p:Nd × Int}(hp:p∈L) :
  ∃w' D',(∀ty,(Builtin.delete_ #[181,194] ty #[.map (some bm),.agg #[.int .i64 p.1.v,.int .i64 p.1.l,.int .i64 p.1.h]]).run Tryz.prog w=.ok (.tuple #[]) w')/\w'.ownsMap Tryz.prog 194 (plainElem Tryz.prog 3) bm (L.filter fun q=>decide (q.1≠p.1)).length D'/\Rep Nd.Ok Nd.lit (fun x:Int=>.lit (.int .i64 x)) D' (L.filter fun q=>decide (q.1≠p.1))/\ze (fun k=>k=bm) w w':=by
 obtain⟨w',hrun,h1,h2⟩:=hD.drop Yp Tryz.underlying181 (QP p.1 (hR.oks p hp)) 0;have hR':=hR.del (fun _ _=>KZ) hp;refine⟨w',_,?_,hR'.size▸Z2 h1,hR',ze.of_grown h2.grown (fun i h=>by cases h;rfl)⟩;intro ty;obtain⟨w'',hrun2,h3,h4⟩:=hD.drop Yp Tryz.underlying181 (QP p.1 (hR.oks p hp)) ty;have e:w''=w':=by
  have:=hrun.symm.trans ((show (Builtin.delete_ #[181,194] 0 #[.map (some bm),p.1.val]).run Tryz.prog w=(Builtin.delete_ #[181,194] ty #[.map (some bm),p.1.val]).run Tryz.prog w from rfl).trans hrun2);injection this with _ e;exact e.symm
 rw[<-e];exact hrun2
theorem zla(hA:zD B w b bm v ns L room next)(hl:ns.length<=100000)(h:Int)(hi:I64 h)(ht:zb ns h=24) :
  zR 149 #[.pointer (some ⟨b,0,none⟩),.int .i64 h] w (.tuple #[]):=by
 have HG:=zH (XT hA h hi (by omega));have hgn:zl ns h=⟨0,0,0⟩:=by unfold zl;rw[if_pos ht]
 rw[hgn,ht] at HG;clear hA hgn ht;have e1:decide ((24:Int)≠24)=false:=by decide
 rw[e1] at HG;unfold Nd.val at HG;go_enter Tryz.func149,Tryz.ntmps149;go_wp2_with fail;refine HG.out.mono ?_;rintro e w1 ⟨rfl,hb1⟩;go_wp2;refine bodyPost_end (v:=.tuple #[]) (by simp[results,Tryz.results149,go_sem]) rfl ?_;exact⟨rfl,hb1.trans ((below_new w1 (.cells #[.int .i64 0,.int .i64 0,.int .i64 0] 194)).mono hb1.size)⟩
theorem zmq(hA:zD B w b bm v ns L room next)(hl:ns.length<=100000)(k:Nat)(hk:k<ns.length)(hv:(nd ns k).v≠24)(hin:(nd ns k,2+(k:Int))∈L) :
  zC 149 #[.pointer (some ⟨b,0,none⟩),.int .i64 (2+(k:Int))] w fun e w'=>e=.returned (.tuple #[])/\zD B w' b bm v (ns.set k ⟨24,0,0⟩) (zbd L (nd ns k)) room next/\ze (Own b bm v) w w':=by
 have ht:zb ns (2+(k:Int))≠24:=by rw[QL hk];exact hv
 have HG:=zH (XT hA (2+(k:Int)) ⟨by omega,by omega⟩ (by omega));have hgn:zl ns (2+(k:Int))=nd ns k:=by unfold zl;rw[if_neg ht,show (2+(k:Int)-2).toNat=k by omega]
 rw[hgn,decide_eq_true ht] at HG;unfold Nd.val at HG;obtain⟨a,cap,rfl,hgg⟩:=hA.form;obtain⟨g,rfl,hBg,hgl⟩:=hgg (by omega);have HA:=zH hA;have HIN:=zH hin;obtain⟨n,hne⟩:∃n,n=nd ns k:=⟨_,rfl⟩;rw[<-hne] at HG HIN ⊢;have e2:2+(k:Int)-2=(k:Int):=by omega
 have ib:(k:Int)<(ns.length:Int):=by omega
 clear ht hgn hA hin hv hne;obtain⟨nv,nl,nh⟩:=n;simp only at HG;go_enter Tryz.func149,Tryz.ntmps149;go_wp2_with fail;refine HG.out.mono ?_;rintro e w1 ⟨rfl,hb1⟩;clear HG;have hs1:=hb1.size;have hbN:=below_new w1 (.cells #[.int .i64 nv,.int .i64 nl,.int .i64 nh] 194);obtain⟨c0,c1,c2,-⟩:=xV w1 (.int .i64 nv) (.int .i64 nl) (.int .i64 nh) 194;have hb2:=zT hb1 hbN;have hA2:=HA.out.kept (ze.of_below hb2 (fun _=>False)) (fun _ _ h=>h);have hnotown:∀j,w.heap.size<=j->¬Own b bm (.slice (some ⟨g,0,none⟩) ns.length cap) j:=by
  have hlt:=HA.out.lt;obtain⟨D,hD,-⟩:=HA.out.hmap;have hbm:=hD.lt;rintro j hj (h|h|h)
  ·omega
  ·omega
  ·have:=(HA.out.row.lt _ h).2;omega
 have lN:w1.heap.size<(w1.alloc (.cells #[.int .i64 nv,.int .i64 nl,.int .i64 nh] 194)).heap.size:=by simp
 go_wp2_with fail;generalize w1.alloc (.cells #[.int .i64 nv,.int .i64 nl,.int .i64 nh] 194)=W2 at *;have hA2d:zD B W2.drew b bm (.slice (some ⟨g,0,none⟩) ns.length cap) ns L room next:=hA2.kept (ze.refl (fun _=>False) W2).drew (fun _ _ h=>h);obtain⟨D,hD,hR⟩:=hA2d.hmap;obtain⟨W3,D3,hrun,hD3,hR3,hK3⟩:=znB hD hR HIN.out;simp only at hrun;have hA3:=hA2d.setMap hK3 hD3 hR3;have cm:W2.drew.cell? ⟨b,2,none⟩=some (.map (some bm)):=hA2.cmap;have c0d:W2.drew.cell? ⟨w1.heap.size,0,none⟩=some (.int .i64 nv):=c0;have c1d:W2.drew.cell? ⟨w1.heap.size,1,none⟩=some (.int .i64 nl):=c1;have c2d:W2.drew.cell? ⟨w1.heap.size,2,none⟩=some (.int .i64 nh):=c2;have hxm:w1.heap.size≠bm:=fun e=>hnotown w1.heap.size hs1 (.inr (.inl e));have c03:=(hK3.cell (a:=⟨w1.heap.size,0,none⟩) lN hxm).trans c0d;have c13:=(hK3.cell (a:=⟨w1.heap.size,1,none⟩) lN hxm).trans c1d;have c23:=(hK3.cell (a:=⟨w1.heap.size,2,none⟩) lN hxm).trans c2d;have cm3:=hA3.cmap;have HA3:=zH hA3;have HK3:=zH (((ze.of_below hb2 (Own b bm (.slice (some ⟨g,0,none⟩) ns.length cap))).drew).andThen hK3 (fun j hj _=>.inr (.inl hj)));clear hA2 hA2d hD hR hD3 hR3 hK3 hA3 c0 c1 c2 hbN hb1 hb2;go_region_held3 (fun w'=>w'.cell? ⟨b,2,none⟩=some (.map (some bm))/\w'.cell? ⟨w1.heap.size,0,none⟩=some (.int .i64 nv)/\w'.cell? ⟨w1.heap.size,1,none⟩=some (.int .i64 nl)/\w'.cell? ⟨w1.heap.size,2,none⟩=some (.int .i64 nh)) (first|exact⟨cm,c0d,c1d,c2d⟩|exact⟨cm3,c03,c13,c23⟩)
  (first|(refine zpq rfl _ _ 181 194 rfl rfl rfl hrun ?_))
 have cn3:=HA3.out.cnodes;obtain⟨n1,n2,n3⟩:=XU ns k hk;have s0:=HA3.out.row.cellAt (k*3) (by omega);have s1:=HA3.out.row.cellAt (k*3+1) (by omega);have s2:=HA3.out.row.cellAt (k*3+2) (by omega);rw[n1] at s0;rw[n2] at s1;rw[n3] at s2;have t0:=HA3.out.row.frozenAt (k*3);have t1:=HA3.out.row.frozenAt (k*3+1);have t2:=HA3.out.row.frozenAt (k*3+2);have s1':(W3.setCell ⟨g,k*3,none⟩ (.int .i64 24)).cell? ⟨g,k*3+1,none⟩=some (.int .i64 (nd ns k).l):=by
  rw[World.cell?_setCell_other _ _ _ _ (by simp)];exact s1
 have s2':((W3.setCell ⟨g,k*3,none⟩ (.int .i64 24)).setCell ⟨g,k*3+1,none⟩ (.int .i64 0)).cell? ⟨g,k*3+2,none⟩=some (.int .i64 (nd ns k).h):=by
  rw[World.cell?_setCell_other _ _ _ _ (by simp),World.cell?_setCell_other _ _ _ _ (by simp)];exact s2
 have t1':(W3.setCell ⟨g,k*3,none⟩ (.int .i64 24)).frozen? ⟨g,k*3+1,none⟩=false:=by rw[World.frozen?_setCell];exact t1
 have t2':((W3.setCell ⟨g,k*3,none⟩ (.int .i64 24)).setCell ⟨g,k*3+1,none⟩ (.int .i64 0)).frozen? ⟨g,k*3+2,none⟩=false:=by rw[World.frozen?_setCell,World.frozen?_setCell];exact t2
 have hA4:=HA3.out.setNode hk ⟨24,0,0⟩;have hk4:ze (Own b bm (.slice (some ⟨g,0,none⟩) ns.length cap)) W3 (((W3.setCell ⟨g,k*3,none⟩ (.int .i64 24)).setCell ⟨g,k*3+1,none⟩ (.int .i64 0)).setCell ⟨g,k*3+2,none⟩ (.int .i64 0)) :=
  ((ze.setCell (S:=Own b bm (.slice (some ⟨g,0,none⟩) ns.length cap)) W3 ⟨g,k*3,none⟩ _ (.inr (.inr rfl))).trans (ze.setCell _ ⟨g,k*3+1,none⟩ _ (.inr (.inr rfl)))).trans (ze.setCell _ ⟨g,k*3+2,none⟩ _ (.inr (.inr rfl)))
 have ew:IntKind.i64.wrap (k:Int)=(k:Int):=IntWalk.i64_in _ ⟨by omega,by omega⟩;have HA4:=zH hA4;have HK4:=zH (HK3.out.trans hk4);clear hA4 hk4 n1 n2 n3 s1 s2 t1 t2 HA3 HK3;go_wp2;refine bodyPost_end (v:=.tuple #[]) (by simp[results,Tryz.results149,go_sem]) rfl ?_;exact⟨rfl,HA4.out,HK4.out⟩
end
end Bd
namespace Bd
open Go.RowKit Go.Maps
structure ZA(ns:List Nd)(L:List (Nd × Int)):Prop where
 mem:∀p∈L,∃i:Nat,i<ns.length/\(nd ns i).v<24/\p=(nd ns i,2+(i:Int))
 all:∀i,i<ns.length->(nd ns i).v<24->(nd ns i,2+(i:Int))∈L
 nodup:(L.map Prod.fst).Nodup
 free:∀i,i<ns.length->¬(nd ns i).v<24->nd ns i=⟨24,0,0⟩
theorem KT{a b:List Nd}(hl:a.length=b.length)(h:∀i,i<a.length->nd a i=nd b i):a=b:=by
 apply List.ext_getElem hl;intro i h1 h2;have:=h i h1
 rwa [ZS a i h1,ZS b i h2] at this
theorem zep(ns:List Nd)(k:Nat)(n:Nd)(i:Nat)(h:k<ns.length):nd (ns.set k n) i=if i=k then n else nd ns i:=by
 unfold nd;simp only[List.getD_eq_getElem?_getD,List.getElem?_set]
 by_cases e:k=i
 ·subst e;simp[h]
 ·rw[if_neg e,if_neg (fun h=>e h.symm)]
def Ze(ns:List Nd)(M:List Bool)(k:Nat):List Nd:=(List.range ns.length).map fun i=>if i<k/\mk M i=false then ⟨24,0,0⟩ else nd ns i
theorem xp(ns:List Nd)(M:List Bool)(k:Nat):(Ze ns M k).length=ns.length:=by simp[Ze]
theorem QN(ns:List Nd)(M:List Bool)(k i:Nat)(h:i<ns.length):nd (Ze ns M k) i=if i<k/\mk M i=false then ⟨24,0,0⟩ else nd ns i:=by
 rw[ZS _ i (by rw[xp];exact h)];simp[Ze]
theorem zlG(ns:List Nd)(M:List Bool):Ze ns M 0=ns :=
 KT (xp _ _ _) (fun i h=>by rw[QN ns M 0 i (by rwa [xp] at h),if_neg (by omega)])
theorem zho(ns:List Nd)(M:List Bool):Ze ns M ns.length=qy ns M :=
 KT (by rw [xp,Zu]) (fun i h=>by
  rw[xp] at h;rw[QN ns M _ i h,Qy ns M i h]
  by_cases e:mk M i=true
  ·rw[if_pos e,if_neg (by simp[e])]
  ·rw [if_neg e,if_pos ⟨h,by simpa using e⟩])
theorem zdr{ns:List Nd}{M:List Bool}{k:Nat}(_hk:k<ns.length)(h:mk M k=true\/nd ns k=⟨24,0,0⟩):Ze ns M (k+1)=Ze ns M k :=
 KT (by rw [xp,xp]) (fun i hi=>by
  rw[xp] at hi;rw[QN ns M _ i hi,QN ns M _ i hi]
  by_cases e:i=k
  ·subst e;rw[if_neg (show ¬(i<i/\mk M i=false) by omega)];rcases h with h|h
   ·rw[if_neg (by simp[h])]
   ·rw[h];split<;>rfl
  ·by_cases e2:i<k/\mk M i=false
   ·rw[if_pos e2,if_pos ⟨by omega,e2.2⟩]
   ·rw [if_neg e2,if_neg (fun h=>e2 ⟨by omega,h.2⟩)])
theorem zi1{ns:List Nd}{M:List Bool}{k:Nat}(hk:k<ns.length)(h:mk M k=false):(Ze ns M k).set k ⟨24,0,0⟩=Ze ns M (k+1) :=
 KT (by rw [List.length_set,xp,xp]) (fun i hi=>by
  rw[List.length_set,xp] at hi;rw[zep _ _ _ _ (by rw[xp];exact hk),QN ns M _ i hi,QN ns M _ i hi]
  by_cases e:i=k
  ·subst e;rw[if_pos rfl,if_pos ⟨by omega,h⟩]
  ·rw[if_neg e]
   by_cases e2:i<k/\mk M i=false
   ·rw[if_pos e2,if_pos ⟨by omega,e2.2⟩]
   ·rw [if_neg e2,if_neg (fun h=>e2 ⟨by omega,h.2⟩)])
def LTo(L:List (Nd × Int))(M:List Bool)(k:Nat):List (Nd × Int):=L.filter fun p=>decide (k<=(p.2-2).toNat)||mk M (p.2-2).toNat
theorem zj5(L:List (Nd × Int))(M:List Bool):LTo L M 0=L:=by
 unfold LTo;rw[List.filter_eq_self];intro p _;simp
theorem zfx{ns:List Nd}{L:List (Nd × Int)}{M:List Bool}{k:Nat}(hB:ZA ns L)(hk:k<ns.length)(h:mk M k=true\/¬(nd ns k).v<24):LTo L M (k+1)=LTo L M k:=by
 unfold LTo;apply List.filter_congr;intro p hp;obtain⟨i,hi,hv,rfl⟩:=hB.mem p hp;have e:(2+(i:Int)-2).toNat=i:=by omega
 simp only[e]
 by_cases e2:i=k
 ·subst e2;rcases h with h|h
  ·simp[h]
  ·exact absurd hv h
 ·congr 1;exact decide_eq_decide.2 (by omega)
theorem znM{ns:List Nd}{L:List (Nd × Int)}{M:List Bool}{k:Nat}(hB:ZA ns L)(hk:k<ns.length)(h:mk M k=false)(hv:(nd ns k).v<24):zbd (LTo L M k) (nd ns k)=LTo L M (k+1):=by
 unfold zbd LTo;rw[List.filter_filter];apply List.filter_congr;intro p hp;have hin:=hB.all k hk hv;obtain⟨i,hi,hvi,rfl⟩:=hB.mem p hp;have e:(2+(i:Int)-2).toNat=i:=by omega
 simp only[e]
 by_cases e2:i=k
 ·subst e2;simp[h]
 ·have hne:nd ns i≠nd ns k:=by
   intro he;obtain⟨x,hx,hxe⟩:=List.getElem_of_mem hp;obtain⟨y,hy,hye⟩:=List.getElem_of_mem hin;have:=(List.getElem_inj (h₀:=by simpa using hx) (h₁:=by simpa using hy) hB.nodup).1 (by simp[hxe,hye,he]);subst this;rw[hxe] at hye;have:=congrArg Prod.snd hye;simp at this;omega
  rw[decide_eq_true hne,Bool.true_and];congr 1;exact decide_eq_decide.2 (by omega)
theorem zgH{ns:List Nd}{L:List (Nd × Int)}{M:List Bool}{k:Nat}(hB:ZA ns L)(hk:k<ns.length)(hv:(nd ns k).v<24):(nd ns k,2+(k:Int))∈LTo L M k:=by
 unfold LTo;rw[List.mem_filter];exact⟨hB.all k hk hv,by simp;omega⟩
section
variable {B b bm:Nat} {v:Value} {ns:List Nd} {L:List (Nd × Int)} {room next:Int} {w:World}
theorem zke(hr:qg ns)(hbk:ZA ns L)(hl:ns.length<=100000)(hA:zD B w b bm v ns L room next)(bf:Nat){cp:Nat}(fs:List Int)(hF:xZ w bf fs)(hfl:fs.length<=1000)(hB:B<=w.heap.size)(hLl:L.length<=100000) :
  zC 101 #[.pointer (some ⟨b,0,none⟩),.slice (some ⟨bf,0,none⟩) fs.length cp] w fun e w'=>e=.returned (.int .i64 ((L.length:Int)-((LTo L (qx ns fs) ns.length).length:Int)))/\zD B w' b bm v (qy ns (qx ns fs)) (LTo L (qx ns fs) ns.length) room 2/\ze (Own b bm v) w w':=by
 have HC:=zH (zlB (cp:=cp) hr hl hA bf fs hF hfl hB);have hML:=JG ns fs;generalize qx ns fs=M at *;have HML:=zH hML;have hg:¬Own b bm v w.heap.size:=by
  obtain⟨D,hD,-⟩:=hA.hmap;have hbm:=hD.lt;have hlt:=hA.lt;rintro (h|h|h)
  ·omega
  ·omega
  ·have:=(hA.row.lt _ h).2;omega
 have HLEN:=zH (Jt hA);have HA:=zH hA;have HG:=zH hg;have HBK:=zH hbk;have HR:=zH hr;clear hA hF hr hML hg hbk;go_enter Tryz.func101,Tryz.ntmps101;go_wp2_with fail;refine HLEN.out.mono ?_;rintro e w0 ⟨rfl,rfl⟩;clear HLEN;go_wp2_with fail;refine HC.out.mono ?_;rintro e w1 ⟨rfl,hm1,hb1⟩;clear HC;have hA1:=HA.out.kept (ze.of_below hb1 (fun _=>False)) (fun _ _ h=>h);have hK1:=ze.of_below hb1 (Own b bm v);go_wp2_with fail;go_loopw [6,7,14] (fun _ _ i wr=>∃k:Nat,k<=ns.length/\i=.int .i64 k/\zD B wr b bm v (Ze ns M k) (LTo L M k) room next/\wr.ownsRow B 4 1 (.slice (some ⟨w.heap.size,0,none⟩) ns.length ns.length) ns.length (yP M)/\ze (Own b bm v) w wr)
  (fun _ _ i _=>ns.length-(intOf i).toNat)
 case atStart=>exact⟨0,Nat.zero_le _,rfl,by rw[zlG,zj5];exact hA1,hm1,hK1⟩
 case round =>
  obtain⟨k,hk,rfl,hAr,hmr,hKr⟩:=hrel;clear hA1 hK1 hm1 hb1
  by_cases hlt:k<ns.length
  ·have cm:=hmr.cellAt k (by omega);rw[zeG M k (by rw[HML.out];exact hlt)] at cm;have ib:(k:Int)<(ns.length:Int):=by omega
   by_cases hm:mk M k=true
   ·rw[hm] at cm;have E1:=zH (zdr hlt (.inl hm));have E2:=zH (zfx HBK.out hlt (.inl hm));have HAr:=zH hAr;have HKr:=zH hKr;have HM:=zH hmr;clear hm hAr hKr hmr;go_wp2;go_roundw
    case rel=>exact⟨k+1,by omega,by go_num,by rw[E1.out,E2.out];exact HAr.out,HM.out,HKr.out⟩
    case measure=>simp[intOf];omega
   ·have hm':mk M k=false:=by simpa using hm
    rw[hm'] at cm;have hnk:nd (Ze ns M k) k=nd ns k:=by rw[QN ns M k k hlt,if_neg (by omega)]
    have HAr:=zH hAr;have HKr:=zH hKr;have HM:=zH hmr;clear hAr hKr hmr
    by_cases hv:(nd ns k).v<24
    ·have HD:=zH (zmq HAr.out (by rw[xp];exact hl) k (by rw[xp];exact hlt) (by rw[hnk];omega) (by rw[hnk];exact zgH HBK.out hlt hv));rw[hnk,zi1 hlt hm',znM HBK.out hlt hm' hv] at HD;clear hm hm' hnk hv;go_wp2_with fail;refine HD.out.mono ?_;rintro e w2 ⟨rfl,hA2,hK2⟩;have hm2:=YX HM.out hK2 (fun j hj h2=>by have hj2:w.heap.size=j:=Option.some.inj hj;exact HG.out (hj2▸h2));have hKK:=HKr.out.trans hK2;clear HD hK2 HAr;go_wp2;go_roundw
     case rel=>exact⟨k+1,by omega,by go_num,hA2,hm2,hKK⟩
     case measure=>simp[intOf];omega
    ·have E1:=zH (zdr (M:=M) hlt (.inr (HBK.out.free k hlt hv)));have E2:=zH (zfx (M:=M) HBK.out hlt (.inr hv));have HD:=zH (zla HAr.out (by rw[xp];exact hl) (2+(k:Int)) ⟨by omega,by omega⟩ (by rw[QL (by rw[xp];exact hlt),hnk,HBK.out.free k hlt hv]));clear hm hm' hnk hv;go_wp2_with fail;refine HD.out.mono ?_;rintro e w2 ⟨rfl,hb2⟩;have hm2:=zbw HM.out hb2;have hKK:=HKr.out.trans (ze.of_below hb2 _);have hA2:=HAr.out.kept (ze.of_below hb2 (fun _=>False)) (fun _ _ h=>h);clear HD hb2 HAr;go_wp2;go_roundw
     case rel=>exact⟨k+1,by omega,by go_num,by rw[E1.out,E2.out];exact hA2,hm2,hKK⟩
     case measure=>simp[intOf];omega
  ·obtain rfl:k=ns.length:=by omega
   rw[zho] at hAr;have hA2:=hAr.setNext 2;have HLEN:=zH (Jt hA2);have cnx:=hAr.cnext;have fnx:=hAr.froz 3;have HA2:=zH hA2;have hKK:=hKr.trans (ze.setCell (S:=Own b bm v) wr ⟨b,3,none⟩ (.int .i64 2) (.inl rfl));have hle:(LTo L M ns.length).length<=L.length:=List.length_filter_le _ _;have HK2:=zH hKK;obtain⟨q,hq⟩:∃q,q=(LTo L M ns.length).length:=⟨_,rfl⟩;rw[<-hq] at HLEN hle;have HQ:=zH hq;clear hq;clear hAr hA2 hKr hKK hmr;go_wp2_with fail;refine HLEN.out.mono ?_;rintro e w3 ⟨rfl,rfl⟩;go_wp2;go_ret;exact⟨by rw[<-HQ.out];rfl,HA2.out,HK2.out⟩
end
end Bd
namespace Bd
open Go.RowKit Go.Maps
theorem K7(room:Int)(h0:0<=room)(h1:room<=4000)(w:World)(B:Nat)(hB:B<=w.heap.size) :
  zC 51 #[.int .i64 room] w fun e w'=>e=.returned (.tuple #[.pointer (some ⟨w.heap.size+1,0,none⟩),.nilIface])/\zD B w' (w.heap.size+1) w.heap.size (.slice none 0 0) [] [] room 2/\zB w w':=by
 have hmm:=@run_makeMap Tryz.prog;have hE:zD B ((w.alloc (.map #[] 0)).alloc (.cells #[.int .i64 room,.slice none 0 0,.map (some w.heap.size),.int .i64 2] 184)) (w.heap.size+1) w.heap.size (.slice none 0 0) [] [] room 2:=by
  have e1:(w.alloc (.map #[] 0)).heap.size=w.heap.size+1:=by simp
  have hm:((w.alloc (.map #[] 0)).alloc (.cells #[.int .i64 room,.slice none 0 0,.map (some w.heap.size),.int .i64 2] 184)).ownsMap Tryz.prog 194 (plainElem (H:=Unit) Tryz.prog 3) w.heap.size 0 (.map []):=(World.ownsMap_made w _ _ _).alloc _;refine⟨by simp,?_,?_,?_,?_,?_,World.ownsRow_nil _ _ _ _,⟨_,hm,Rep.empty⟩,by simp[Value.ownBlock],by omega,by simp[Value.ownBlock],by omega,hB⟩
  ·rw[<-e1];simp
  ·rw[<-e1];simp
  ·rw[<-e1];simp
  ·rw[<-e1];simp
  ·intro i;rw[<-e1];simp
 have hb:zB w ((w.alloc (.map #[] 0)).alloc (.cells #[.int .i64 room,.slice none 0 0,.map (some w.heap.size),.int .i64 2] 184)):=(zF.alloc zN _).alloc (by simp) _;have HE:=zH hE;clear hE;go_enter Tryz.func51,Tryz.ntmps51;go_wp2;go_ret2;exact⟨rfl,HE.out,hb⟩
end Bd
namespace Bd
open Go.RowKit Go.Maps
structure za5(ns:List Nd):Prop where
 ranked:qg ns
 occ:∀j,j<ns.length->(nd ns j).v<24
 inj:∀i j,i<ns.length->j<ns.length->nd ns i=nd ns j->i=j
def zaI(ns:List Nd):List (Nd × Int):=(List.range ns.length).map fun i=>(nd ns i,2+(i:Int))
theorem zo4{ns:List Nd}{p:Nd × Int}:p∈zaI ns↔∃i:Nat,i<ns.length/\p=(nd ns i,2+(i:Int)):=by
 unfold zaI;simp only[List.mem_map,List.mem_range];constructor
 ·rintro⟨i,h,rfl⟩;exact⟨i,h,rfl⟩
 ·rintro⟨i,h,rfl⟩;exact⟨i,h,rfl⟩
theorem Kf(ns:List Nd)(n:Nd)(i:Nat):nd (ns++[n]) i=if i<ns.length then nd ns i else if i=ns.length then n else ⟨0,0,0⟩:=by
 unfold nd;simp only[List.getD_eq_getElem?_getD]
 by_cases h:i<ns.length
 ·rw[if_pos h,List.getElem?_append_left h]
 ·rw[if_neg h,List.getElem?_append_right (by omega)]
  by_cases e:i=ns.length
  ·subst e;simp
  ·rw[if_neg e,List.getElem?_eq_none (by simp;omega)];rfl
theorem Ju{ns:List Nd}{h:Int}(hh:zj ns h=true):h=0\/h=1\/zb ns h<24:=by
 unfold zj at hh;simpa[or_assoc] using hh
theorem Xv{ns:List Nd}{h:Int}(n:Nd)(hh:zj ns h=true):zb (ns++[n]) h=zb ns h:=by
 rcases Ju hh with rfl|rfl|ht
 ·simp[zb]
 ·simp[zb]
 ·obtain⟨b1,b2,b3⟩:=Qf (by omega:zb ns h≠24);unfold zb;rw[if_pos (by rw[List.length_append];simp;omega),if_pos (by omega),Kf,if_pos b2]
theorem Kd{ns:List Nd}{h:Int}(n:Nd)(hh:zj ns h=true):zj (ns++[n]) h=true:=by
 unfold zj;rw[Xv n hh];exact hh
theorem za5.snoc{ns:List Nd}{n:Nd}(hF:za5 ns)(hn:n.Ok)(hf:Fit ns n)(hnin:n∉(zaI ns).map Prod.fst):za5 (ns++[n]):=by
 have key:∀j,j<(ns++[n]).length->nd (ns++[n]) j=n/\j=ns.length\/j<ns.length/\nd (ns++[n]) j=nd ns j:=fun j hj=>by
  rw[List.length_append,List.length_singleton] at hj
  by_cases h:j<ns.length
  ·exact .inr ⟨h,by rw[Kf,if_pos h]⟩
  ·exact .inl ⟨by rw[Kf,if_neg h,if_pos (by omega)],by omega⟩
 have hne:∀i,i<ns.length->nd ns i≠n:=fun i hi e=>hnin (List.mem_map.2 ⟨(nd ns i,2+(i:Int)),zo4.2 ⟨i,hi,rfl⟩,e⟩);refine⟨⟨?_,?_,?_,?_⟩,?_,?_⟩
 ·intro j hj;rcases key j hj with ⟨e,-⟩|⟨h,e⟩
  ·rw[e];have:=hf.v0;have:=hf.v1;omega
  ·rw[e];exact hF.ranked.v0 j h
 ·intro j hj hv;rcases key j hj with ⟨e,-⟩|⟨h,e⟩
  ·rw[e];exact⟨by rw[Xv n hf.l];exact hf.tl,Kd n hf.l⟩
  ·rw[e] at hv ⊢;have:=hF.ranked.l j h hv;exact⟨by rw[Xv n this.2];exact this.1,Kd n this.2⟩
 ·intro j hj hv;rcases key j hj with ⟨e,-⟩|⟨h,e⟩
  ·rw[e];exact⟨by rw[Xv n hf.h];exact hf.th,Kd n hf.h⟩
  ·rw[e] at hv ⊢;have:=hF.ranked.h j h hv;exact⟨by rw[Xv n this.2];exact this.1,Kd n this.2⟩
 ·intro j hj;rcases key j hj with ⟨e,-⟩|⟨h,e⟩
  ·rw[e];exact hn
  ·rw[e];exact hF.ranked.ok j h
 ·intro j hj;rcases key j hj with ⟨e,-⟩|⟨h,e⟩
  ·rw[e];exact hf.v1
  ·rw[e];exact hF.occ j h
 ·intro i j hi hj he;rcases key i hi with ⟨e1,q1⟩|⟨h1,e1⟩<;>rcases key j hj with ⟨e2,q2⟩|⟨h2,e2⟩
  ·omega
  ·rw[e1,e2] at he;exact absurd he.symm (hne j h2)
  ·rw[e1,e2] at he;exact absurd he (hne i h1)
  ·rw[e1,e2] at he;exact hF.inj i j h1 h2 he
end Bd
namespace Bd
open Go.RowKit Go.Maps
def qt(ns:List Nd)(k:Nat)(n:Nd):List Nd:=(if k=ns.length then ns++[⟨24,0,0⟩] else ns).set k n
section
variable {ns:List Nd} {k:Nat} {n:Nd}
theorem Qo(hk:k<=ns.length)(i:Nat):i<(qt ns k n).length↔i<ns.length\/i=k:=by
 unfold qt;rw[List.length_set];split
 ·rw[List.length_append,List.length_singleton];omega
 ·omega
theorem JN(_hk:k<=ns.length):(qt ns k n).length<=ns.length+1/\ns.length<=(qt ns k n).length:=by
 unfold qt;rw[List.length_set];split
 ·rw[List.length_append,List.length_singleton];omega
 ·omega
theorem x9(hk:k<=ns.length)(i:Nat)(hi:i<ns.length\/i=k):nd (qt ns k n) i=if i=k then n else nd ns i:=by
 unfold qt;rw[zep _ _ _ _ (by split<;>(try simp)<;>omega)]
 by_cases e:i=k
 ·rw[if_pos e,if_pos e]
 ·rw[if_neg e,if_neg e];split
  ·rw[Kf,if_pos (by omega)]
  ·rfl
theorem zeH(hk:k<=ns.length)(hfree:k<ns.length->¬(nd ns k).v<24){h:Int}(ht:zb ns h<24):nd (qt ns k n) (h-2).toNat=nd ns (h-2).toNat/\zb (qt ns k n) h=zb ns h:=by
 obtain⟨b1,b2,b3⟩:=Qf (by omega:zb ns h≠24);have hne:(h-2).toNat≠k:=fun e=>by
  rw[b3,e] at ht;exact hfree (e▸b2) ht
 have h1:nd (qt ns k n) (h-2).toNat=nd ns (h-2).toNat:=by rw[x9 hk _ (.inl b2),if_neg hne]
 refine⟨h1,?_⟩;have hl:=(Qo (n:=n) hk (h-2).toNat).2 (.inl b2);unfold zb;rw[if_pos (by omega),if_pos (by omega),h1]
theorem YE(hk:k<=ns.length)(hfree:k<ns.length->¬(nd ns k).v<24){h:Int}(hh:zj ns h=true):zb (qt ns k n) h=zb ns h:=by
 rcases Ju hh with rfl|rfl|ht
 ·simp[zb]
 ·simp[zb]
 ·exact(zeH hk hfree ht).2
theorem Xw(hk:k<=ns.length)(hfree:k<ns.length->¬(nd ns k).v<24){h:Int}(hh:zj ns h=true):zj (qt ns k n) h=true:=by
 unfold zj;rw[YE hk hfree hh];exact hh
theorem zfk(hk:k<=ns.length):zb (qt ns k n) (2+(k:Int))=n.v:=by
 rw[QL ((Qo hk k).2 (.inr rfl)),x9 hk k (.inr rfl),if_pos rfl]
theorem zmC(hr:qg ns)(hk:k<=ns.length)(hfree:k<ns.length->¬(nd ns k).v<24)(hn:n.Ok)(hf:Fit ns n):qg (qt ns k n):=by
 have key:∀j,j<(qt ns k n).length->nd (qt ns k n) j=n/\j=k\/j<ns.length/\nd (qt ns k n) j=nd ns j:=fun j hj=>by
  have hj':=(Qo hk j).1 hj
  by_cases e:j=k
  ·exact .inl ⟨by rw[x9 hk j hj',if_pos e],e⟩
  ·exact .inr ⟨by omega,by rw[x9 hk j hj',if_neg e]⟩
 refine⟨?_,?_,?_,?_⟩<;>intro j hj<;>rcases key j hj with ⟨e,-⟩|⟨hl,e⟩<;>rw[e]
 ·have:=hf.v0;have:=hf.v1;omega
 ·exact hr.v0 j hl
 ·intro _;rw[YE hk hfree hf.l];exact⟨hf.tl,Xw hk hfree hf.l⟩
 ·intro hv;have:=hr.l j hl hv;rw[YE hk hfree this.2];exact⟨this.1,Xw hk hfree this.2⟩
 ·intro _;rw[YE hk hfree hf.h];exact⟨hf.th,Xw hk hfree hf.h⟩
 ·intro hv;have:=hr.h j hl hv;rw[YE hk hfree this.2];exact⟨this.1,Xw hk hfree this.2⟩
 ·exact hn
 ·exact hr.ok j hl
theorem ziM{L:List (Nd × Int)}(hB:ZA ns L)(hk:k<=ns.length)(hfree:k<ns.length->¬(nd ns k).v<24)(hv:n.v<24)(hnin:n∉L.map Prod.fst):ZA (qt ns k n) (L++[(n,2+(k:Int))]):=by
 refine⟨fun p hp=>?_,fun i hi hvi=>?_,?_,fun i hi hvi=>?_⟩
 ·rcases List.mem_append.1 hp with hp|hp
  ·obtain⟨i,hi,hvi,rfl⟩:=hB.mem p hp;have hne:i≠k:=fun e=>by subst e;exact hfree hi hvi
   refine⟨i,(Qo hk i).2 (.inl hi),?_,?_⟩<;>rw[x9 hk i (.inl hi),if_neg hne]
   exact hvi
  ·rw[List.mem_singleton] at hp;subst hp;refine⟨k,(Qo hk k).2 (.inr rfl),?_,?_⟩<;>rw[x9 hk k (.inr rfl),if_pos rfl]
   exact hv
 ·have hi':=(Qo hk i).1 hi;rw[x9 hk i hi'] at hvi ⊢
  by_cases e:i=k
  ·rw[if_pos e];subst e;simp
  ·rw[if_neg e] at hvi ⊢;exact List.mem_append.2 (.inl (hB.all i (by omega) hvi))
 ·rw[List.map_append,List.nodup_append];refine⟨hB.nodup,by simp,fun x hx y hy=>?_⟩;simp at hy;subst hy;exact fun e=>hnin (e▸hx)
 ·have hi':=(Qo hk i).1 hi;rw[x9 hk i hi'] at hvi ⊢
  by_cases e:i=k
  ·rw[if_pos e] at hvi;exact absurd hv hvi
  ·rw[if_neg e] at hvi ⊢;exact hB.free i (by omega) hvi
end
end Bd
namespace Bd
open Go.RowKit Go.Maps
def pl(h:Int):Nat:=(h-2).toNat
def yK:Nat->List Nd->Int->(Nat->Bool)->Bool
 |0,_,h,_=>decide (h=1)
 |d+1,ns,h,f =>
  if zb ns h=24 then decide (h=1)
  else if f (zb ns h).toNat then yK d ns (nd ns (pl h)).h f else yK d ns (nd ns (pl h)).l f
def sem(ns:List Nd)(h:Int)(f:Nat->Bool):Bool:=yK 24 ns h f
structure zu(vars:Nat)(ns:List Nd):Prop where
 ranked:qg ns
 once:∀i j,i<ns.length->j<ns.length->(nd ns i).v<24->nd ns i=nd ns j->i=j
 red:∀i,i<ns.length->(nd ns i).v<24->(nd ns i).l≠(nd ns i).h
 vars:∀i,i<ns.length->(nd ns i).v<24->(nd ns i).v<(vars:Int)
 free:∀i,i<ns.length->¬(nd ns i).v<24->nd ns i=⟨24,0,0⟩
section
variable {ns:List Nd}
theorem yU{h:Int}(ht:zb ns h≠24):2<=h/\pl h<ns.length/\zb ns h=(nd ns (pl h)).v/\h=2+(pl h:Int):=by
 obtain⟨h1,h2,h3⟩:=Qf ht;exact⟨h1,h2,h3,by unfold pl;omega⟩
theorem YC(hr:qg ns){h:Int}(ht:zb ns h≠24):zb ns h<24:=by
 have:=(qi hr h).2;omega
theorem xN(hr:qg ns){h:Int}(ht:zb ns h≠24):zb ns h<zb ns (nd ns (pl h)).l/\zj ns (nd ns (pl h)).l=true/\zb ns h<zb ns (nd ns (pl h)).h/\zj ns (nd ns (pl h)).h=true:=by
 obtain⟨h1,h2,h3,h4⟩:=yU ht;have hv:=YC hr ht;rw[h3] at hv ⊢;exact⟨(hr.l _ h2 hv).1,(hr.l _ h2 hv).2,(hr.h _ h2 hv).1,(hr.h _ h2 hv).2⟩
theorem QY{h:Int}(hh:zj ns h=true)(ht:zb ns h=24):h=0\/h=1:=by
 rcases Ju hh with h1|h1|h1
 ·exact .inl h1
 ·exact .inr h1
 ·omega
theorem KD(hr:qg ns)(f:Nat->Bool):∀(d e:Nat) (h:Int),24<=zb ns h+d->24<=zb ns h+e->yK d ns h f=yK e ns h f
 |0,0,h,_,_=>rfl
 |0,e+1,h,hd,_=>by
  have:=(qi hr h).2;unfold yK;rw[if_pos (by omega)]
 |d+1,0,h,_,he=>by
  have:=(qi hr h).2;unfold yK;rw[if_pos (by omega)]
 |d+1,e+1,h,hd,he=>by
  unfold yK
  by_cases ht:zb ns h=24
  ·rw[if_pos ht,if_pos ht]
  ·rw[if_neg ht,if_neg ht];obtain⟨k1,-,k2,-⟩:=xN hr ht;rw[KD hr f d e _ (by omega) (by omega),KD hr f d e (nd ns (pl h)).l (by omega) (by omega)]
theorem Jb{h:Int}(ht:zb ns h=24)(f:Nat->Bool):sem ns h f=decide (h=1):=by
 unfold sem yK;rw[if_pos ht]
theorem Zh(f:Nat->Bool):sem ns 0 f=false:=by rw[Jb (by simp[zb])];rfl
theorem Zj(f:Nat->Bool):sem ns 1 f=true:=by rw[Jb (by simp[zb])];rfl
theorem Yu(hr:qg ns){h:Int}(ht:zb ns h≠24)(f:Nat->Bool):sem ns h f=if f (zb ns h).toNat then sem ns (nd ns (pl h)).h f else sem ns (nd ns (pl h)).l f:=by
 obtain⟨k1,-,k2,-⟩:=xN hr ht;have h0:=(qi hr h).1;show yK 24 ns h f=_;unfold yK;rw[if_neg ht,KD hr f 23 24 _ (by omega) (by omega),KD hr f 23 24 (nd ns (pl h)).l (by omega) (by omega)];rfl
def loS(ns:List Nd)(h v:Int):Int:=if zb ns h=v then (nd ns (pl h)).l else h
def hiS(ns:List Nd)(h v:Int):Int:=if zb ns h=v then (nd ns (pl h)).h else h
theorem QX(hr:qg ns){h v:Int}(hv:v<24)(hh:zj ns h=true):zj ns (loS ns h v)=true/\(v<=zb ns h->v<zb ns (loS ns h v))/\zb ns h<=zb ns (loS ns h v):=by
 unfold loS
 by_cases e:zb ns h=v
 ·rw[if_pos e];have:=xN hr (h:=h) (by omega);exact⟨this.2.1,fun _=>by omega,by omega⟩
 ·rw[if_neg e];exact⟨hh,fun h=>by omega,Int.le_refl _⟩
theorem QR(hr:qg ns){h v:Int}(hv:v<24)(hh:zj ns h=true):zj ns (hiS ns h v)=true/\(v<=zb ns h->v<zb ns (hiS ns h v))/\zb ns h<=zb ns (hiS ns h v):=by
 unfold hiS
 by_cases e:zb ns h=v
 ·rw[if_pos e];have:=xN hr (h:=h) (by omega);exact⟨this.2.2.2,fun _=>by omega,by omega⟩
 ·rw[if_neg e];exact⟨hh,fun h=>by omega,Int.le_refl _⟩
theorem QJ(hr:qg ns){h v:Int}(hv:v<24)(f:Nat->Bool):sem ns h f=if f v.toNat then sem ns (hiS ns h v) f else sem ns (loS ns h v) f:=by
 unfold loS hiS
 by_cases e:zb ns h=v
 ·rw[if_pos e,if_pos e,Yu hr (by omega),e]
 ·rw[if_neg e,if_neg e];split<;>rfl
theorem zao(hr:qg ns){f g:Nat->Bool}:∀(d:Nat) (h:Int),(∀i:Nat,zb ns h<=(i:Int)->f i=g i)->yK d ns h f=yK d ns h g
 |0,_,_=>rfl
 |d+1,h,hfg=>by
  unfold yK
  by_cases ht:zb ns h=24
  ·rw[if_pos ht,if_pos ht]
  ·rw[if_neg ht,if_neg ht];obtain⟨k1,-,k2,-⟩:=xN hr ht;have h0:=(qi hr h).1;rw[hfg (zb ns h).toNat (by omega),zao hr d _ (fun i hi=>hfg i (by omega)),zao hr d (nd ns (pl h)).l (fun i hi=>hfg i (by omega))]
theorem Q3(hr:qg ns){f g:Nat->Bool}{h:Int}(hfg:∀i:Nat,zb ns h<=(i:Int)->f i=g i):sem ns h f=sem ns h g:=zao hr 24 h hfg
def turn(f:Nat->Bool)(v:Nat)(b:Bool):Nat->Bool:=fun i=>if i=v then b else f i
theorem Q6(f:Nat->Bool){v i:Nat}(b:Bool)(h:i≠v):turn f v b i=f i:=if_neg h
theorem KW(f:Nat->Bool)(v:Nat)(b:Bool):turn f v b v=b:=if_pos rfl
theorem zik(hr:qg ns){a b v:Int}(hv0:0<=v)(hv:v<24)(ha:zj ns a=true)(hb:zj ns b=true)(hta:v<=zb ns a)(htb:v<=zb ns b)(h:∀f,sem ns a f=sem ns b f) :
  (∀f,sem ns (loS ns a v) f=sem ns (loS ns b v) f)/\(∀f,sem ns (hiS ns a v) f=sem ns (hiS ns b v) f):=by
 have la:=(QX hr hv ha).2.1 hta;have lb:=(QX hr hv hb).2.1 htb;have ga:=(QR hr hv ha).2.1 hta;have gb:=(QR hr hv hb).2.1 htb;refine⟨fun f=>?_,fun f=>?_⟩
 ·have:=h (turn f v.toNat false);rw[QJ hr hv,QJ (h:=b) hr hv] at this;rw[KW,if_neg (by simp),if_neg (by simp),Q3 hr (g:=f) (fun i hi=>Q6 _ _ (by omega)),Q3 (h:=loS ns b v) hr (g:=f) (fun i hi=>Q6 _ _ (by omega))] at this;exact this
 ·have:=h (turn f v.toNat true);rw[QJ hr hv,QJ (h:=b) hr hv] at this;rw[KW,if_pos rfl,if_pos rfl,Q3 hr (g:=f) (fun i hi=>Q6 _ _ (by omega)),Q3 (h:=hiS ns b v) hr (g:=f) (fun i hi=>Q6 _ _ (by omega))] at this;exact this
theorem zk3{a b:Nd}(h0:a.v=b.v)(h1:a.l=b.l)(h2:a.h=b.h):a=b:=by cases a;cases b;cases h0;cases h1;cases h2;rfl
theorem X6{vars:Nat}(hg:zu vars ns):∀(d:Nat) (a b:Int),24<=zb ns a+d->24<=zb ns b+d->zj ns a=true->zj ns b=true->(∀f,sem ns a f=sem ns b f)->a=b
 |0,a,b,da,db,ha,hb,h=>by
  have ta:=(qi hg.ranked a).2;have tb:=(qi hg.ranked b).2;have:=h (fun _=>false);rw[Jb (by omega),Jb (by omega)] at this;rcases QY ha (by omega) with rfl|rfl<;>rcases QY hb (by omega) with rfl|rfl<;>simp at this ⊢
 |d+1,a,b,da,db,ha,hb,h=>by
  have ta:=qi hg.ranked a;have tb:=qi hg.ranked b
  by_cases e:zb ns a=24/\zb ns b=24
  ·exact X6 hg 0 a b (by omega) (by omega) ha hb h
  ·have hr:=hg.ranked;obtain⟨v,hv,hva,hvb,hve⟩:∃v,v<24/\v<=zb ns a/\v<=zb ns b/\(v=zb ns a\/v=zb ns b):=by
    rcases Int.lt_or_le (zb ns a) (zb ns b) with h1|h1
    ·exact⟨zb ns a,by omega,by omega,by omega,.inl rfl⟩
    ·exact⟨zb ns b,by omega,by omega,by omega,.inr rfl⟩
   have hv0:0<=v:=by omega
   obtain⟨sl,sh⟩:=zik hr hv0 hv ha hb hva hvb h;have la:=QX hr hv ha;have lb:=QX hr hv hb;have ga:=QR hr hv ha;have gb:=QR hr hv hb;have e1:=X6 hg d _ _ (by have:=la.2.1 hva;omega) (by have:=lb.2.1 hvb;omega) la.1 lb.1 sl;have e2:=X6 hg d _ _ (by have:=ga.2.1 hva;omega) (by have:=gb.2.1 hvb;omega) ga.1 gb.1 sh
   by_cases ca:zb ns a=v
   ·obtain⟨na1,na2,na3,na4⟩:=yU (ns:=ns) (h:=a) (by omega)
    by_cases cb:zb ns b=v
    ·obtain⟨nb1,nb2,nb3,nb4⟩:=yU (ns:=ns) (h:=b) (by omega);unfold loS at e1;unfold hiS at e2;rw[if_pos ca,if_pos cb] at e1 e2;have:=hg.once (pl a) (pl b) na2 nb2 (by omega) (by
      have e0:(nd ns (pl a)).v=(nd ns (pl b)).v:=by omega
      exact zk3 e0 e1 e2)
     rw[na4,nb4,this]
    ·unfold loS at e1;unfold hiS at e2;rw[if_pos ca,if_neg cb] at e1 e2;exact absurd (e1.trans e2.symm) (hg.red _ na2 (by omega))
   ·have cb:zb ns b=v:=by omega
    obtain⟨nb1,nb2,nb3,nb4⟩:=yU (ns:=ns) (h:=b) (by omega);unfold loS at e1;unfold hiS at e2;rw[if_neg ca,if_pos cb] at e1 e2;exact absurd (e1.symm.trans e2) (hg.red _ nb2 (by omega))
theorem X8{vars:Nat}(hg:zu vars ns){a b:Int}(ha:zj ns a=true)(hb:zj ns b=true)(h:∀f,sem ns a f=sem ns b f):a=b :=
 X6 hg 24 a b (by have:=(qi hg.ranked a).1;omega) (by have:=(qi hg.ranked b).1;omega) ha hb h
structure Ext(ns ns':List Nd):Prop where
 has:∀h,zj ns h=true->zj ns' h=true
 top:∀h,zj ns h=true->zb ns' h=zb ns h
 node:∀h,zj ns h=true->zb ns h≠24->nd ns' (pl h)=nd ns (pl h)
theorem Ext.refl(ns:List Nd):Ext ns ns:=⟨fun _ h=>h,fun _ _=>rfl,fun _ _ _=>rfl⟩
theorem Ext.trans{a b c:List Nd}(h:Ext a b)(k:Ext b c):Ext a c :=
 ⟨fun x hx=>k.has x (h.has x hx),fun x hx=>(k.top x (h.has x hx)).trans (h.top x hx),fun x hx ht=>(k.node x (h.has x hx) (by rw[h.top x hx];exact ht)).trans (h.node x hx ht)⟩
theorem zbv{ns':List Nd}(hr:qg ns)(he:Ext ns ns')(f:Nat->Bool):∀(d:Nat) (h:Int),zj ns h=true->yK d ns' h f=yK d ns h f
 |0,_,_=>rfl
 |d+1,h,hh=>by
  unfold yK;rw[he.top h hh]
  by_cases ht:zb ns h=24
  ·rw[if_pos ht,if_pos ht]
  ·obtain⟨-,k1,-,k2⟩:=xN hr ht;rw[if_neg ht,if_neg ht,he.node h hh ht,zbv hr he f d _ k1,zbv hr he f d _ k2]
theorem xJ{ns':List Nd}(hr:qg ns)(he:Ext ns ns'){h:Int}(hh:zj ns h=true)(f:Nat->Bool):sem ns' h f=sem ns h f:=zbv hr he f 24 h hh
theorem zoy{k:Nat}{n:Nd}(hk:k<=ns.length)(hfree:k<ns.length->¬(nd ns k).v<24)(hr:qg ns):Ext ns (qt ns k n) :=
 ⟨fun _ hh=>Xw hk hfree hh,fun _ hh=>YE hk hfree hh,fun _ _ ht=>(zeH hk hfree (YC hr ht)).1⟩
end
end Bd
end Go.Proofs.YtlmmkbnjhilbdaaGreatDoor
