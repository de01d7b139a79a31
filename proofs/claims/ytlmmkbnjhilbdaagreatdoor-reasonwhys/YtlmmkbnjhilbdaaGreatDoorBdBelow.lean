/- below: an end; what was counted already. -/
import Derived.Test.YtlmmkbnjhilbdaaGreatDoorCnOf
namespace Go.Proofs.YtlmmkbnjhilbdaaGreatDoor
set_option maxHeartbeats 2000000
set_option maxRecDepth 100000
namespace Bd
open Go.RowKit Num Go.Sort
theorem ziL(va vb:Value)(a b:List Nat)(w:World)(ha:Dig .u64 w va a)(hb:Dig .u64 w vb b)(na:∀i,dig a i<1000000000)(nb:∀i,dig b i<1000000000)(la:a.length<=5000)(lb:b.length<=5000) :
  zC 105 #[.agg #[va],.agg #[vb]] w fun e w'=>∃v',e=.returned (.agg #[v'])/\∃ds',Dig .u64 w' v' ds'/\xP 1000000000 ds'/\val 1000000000 ds'=val 1000000000 a+val 1000000000 b/\ds'.length<=max a.length b.length+1/\zB w w':=by
 obtain⟨aa,ca,eva,hca,hcella⟩:=id ha;obtain⟨ab,cb,evb,hcb,hcellb⟩:=id hb;subst eva evb;clear hcella hcellb hca hcb;obtain⟨m,hm,hmx,hma,hmb,hml⟩:∃m:Nat,max (a.length:Int) (b.length:Int)=(m:Int)/\max a.length b.length=m/\a.length<=m/\b.length<=m/\m<=5000:=⟨max a.length b.length,by omega,rfl,by omega,by omega,by omega⟩;rw[hmx];clear hmx;obtain⟨i0,hi,hz0,hz1,hz2⟩:=info_parts Ke;go_enter Tryz.func105,Tryz.ntmps105;go_wp2_with (at_make;refine wpList_make_full _ rfl _ _ 47 rfl (w.heap.size+3) 200 i0 (.int .u64 0) 1 Tryz.underlying47 hi hz0 hz1 .i64 .i64 _ _ (m+1) rfl rfl ?c1 ?c2 ?c3 ?c4 ?c5 ?_)
 case c1=>omega
 case c2=>omega
 case c3=>rw[hz2];omega
 case c4=>unfold maxLen;omega
 case c5=>simp
 intro w1 hown hgrow;rw[zcn] at hown;have hbel:Below (w.heap.size+3) (((w.alloc (.cells #[.slice aa a.length ca] 49)).alloc (.cells #[.slice ab b.length cb] 49)).alloc (.cells #[.slice none 0 0] 49)) w1:=zF.grown hgrow (by simp) (fun k hk=>by cases hk);clear hgrow hm;go_wp2_with fail;go_loopw [7,21] (fun cv i wr=>∃(k c:Nat) (out:List Nat),k<=m+1/\i=.int .i64 k/\cv=.int .u64 c/\c<=1/\out.length=m+1/\(∀i,dig out i<1000000000)/\S 1000000000 (dig out) k+c*1000000000^k=S 1000000000 (dig a) k+S 1000000000 (dig b) k/\wr.ownsRow (w.heap.size+3) 200 1 (.slice (some ⟨w.heap.size+1+1+1,0,none⟩) (m+1) (m+1)) (m+1) (zX .u64 out)/\Below (w.heap.size+3) (((w.alloc (.cells #[.slice aa a.length ca] 49)).alloc (.cells #[.slice ab b.length cb] 49)).alloc (.cells #[.slice none 0 0] 49)) wr)
  (fun _ i _=>m+1-(intOf i).toNat)
 case atStart=>exact⟨0,0,List.replicate (m+1) 0,Nat.zero_le _,rfl,rfl,Nat.zero_le _,by simp,fun i=>by rw[zeE];omega,by simp[S],hown,hbel⟩
 case round =>
  obtain⟨k,c,out,hk,rfl,rfl,hc1,hol,hsm,hS,hownr,hbelr⟩:=hrel;have HSm:Hid (∀i,dig out i<1000000000):=hsm;have HS:Hid (S 1000000000 (dig out) k+c*1000000000^k=S 1000000000 (dig a) k+S 1000000000 (dig b) k):=hS;have HO:Hid (out.length=m+1):=hol;clear hsm hS hown hbel hol;have hbw:zB w wr:=(((zF.alloc zN _).alloc (by simp) _).alloc (by simp;omega) _).trans (hbelr.mono (by omega));have hsz:=hbelr.size;simp only[World.size_alloc] at hsz
  by_cases hlt:k<m+1
  ·have c0:wr.cell? ⟨w.heap.size,0,none⟩=some (.slice aa a.length ca):=(hbelr.cell (p:=⟨w.heap.size,0,none⟩) (by show w.heap.size<_;omega)).trans (zgB _ _ _ _ _);have c1:wr.cell? ⟨w.heap.size+1,0,none⟩=some (.slice ab b.length cb):=(hbelr.cell (p:=⟨w.heap.size+1,0,none⟩) (by show w.heap.size+1<_;omega)).trans (zjW _ _ _ _ _);have k0:=cell_regrown c0;have k1:=cell_regrown c1;have cA:∀d os,zC 152 #[.agg #[.slice aa a.length ca],.int .i64 k] (grow (redrawn wr d) os) fun e w''=>e=.returned (.int .u64 ((dig a k:Nat):Int))/\∃p:Regrown,w''=grow (redrawn wr p.d) p.os:=fun d os =>
    Calls.regrown_of (zaa _ a k (grow (redrawn wr d) os) (ha.below (hbw.trans ((below_regrown wr d os).mono hbw.size))) (by omega) (by omega))
   have cB:∀d os,zC 152 #[.agg #[.slice ab b.length cb],.int .i64 k] (grow (redrawn wr d) os) fun e w''=>e=.returned (.int .u64 ((dig b k:Nat):Int))/\∃p:Regrown,w''=grow (redrawn wr p.d) p.os:=fun d os =>
    Calls.regrown_of (zaa _ b k (grow (redrawn wr d) os) (hb.below (hbw.trans ((below_regrown wr d os).mono hbw.size))) (by omega) (by omega))
   have hx:=na k;have hy:=nb k;have e1:IntKind.u64.wrap (((dig a k:Nat):Int)+((dig b k:Nat):Int))=((dig a k:Nat):Int)+((dig b k:Nat):Int):=zaw (by omega) (by omega);have e2:IntKind.u64.wrap (((dig a k:Nat):Int)+((dig b k:Nat):Int)+(c:Int))=((dig a k:Nat):Int)+((dig b k:Nat):Int)+(c:Int):=zaw (by omega) (by omega);go_wp2_with fail;refine wp_region_quiet_below mixed (by kernel_rfl) ?_
   repeat(quiet_step (first|(go_at_call_of 152 aa;exact cA _ _)|(go_at_call_of 152 ab;exact cB _ _)))
   refine wpQuiet_nil ?_;intro _ hw';obtain⟨⟨dq,osq⟩,hw''⟩:=hw';subst hw'';clear cA cB k0 k1 c0 c1;have hbq:=below_regrown wr dq osq;generalize grow (redrawn wr dq) osq=wq at *;have hownq:=zdz hownr hbq;have hbelq:=hbelr.trans (hbq.mono (by omega));have HA:Hid (dig a k=dig a k):=rfl;clear hownr hbelr hbq hbw e1 e2;generalize hdx:dig a k=x at *;generalize hdy:dig b k=y at *;have HX:Hid (dig a k=x):=hdx;have HY:Hid (dig b k=y):=hdy;clear hdx hdy HA;have hcell:=hownq.cellAt k (by omega);rw[Yz .u64 out k (by have:=HO.out;omega)] at hcell;have hfr:=hownq.frozenAt k;go_wp2;go_roundw
   case rel =>
    have e3:((x:Int)+y+c)%1000000000=(((x+y+c)%1000000000:Nat):Int):=by omega
    have e4:((x:Int)+y+c)/1000000000=(((x+y+c)/1000000000:Nat):Int):=by omega
    have hkl:k<out.length:=by have:=HO.out;omega
    rw[e3,e4];refine⟨k+1,(x+y+c)/1000000000,out.set k ((x+y+c)%1000000000),by omega,by go_num,rfl,by omega,by rw[List.length_set];exact HO.out,zej hkl HSm.out (by omega),zmh hkl HS.out HX.out HY.out,zcL hownq k _,hbelq.setCell (by show _<=w.heap.size+1+1+1;omega) _⟩
   case measure=>simp[intOf];omega
  ·obtain rfl:k=m+1:=by omega
   have hva:=QE 1000000000 a (m+1) (by omega);have hvb:=QE 1000000000 b (m+1) (by omega);have hvo:=QE 1000000000 out (m+1) (by have:=HO.out;omega);have hE:=HS.out;rw[hva,hvb,hvo] at hE;have b1:val 1000000000 a<1000000000^m:=by
    rw[<-QE 1000000000 a m hma];exact Kq _ _ _ na
   have b2:val 1000000000 b<1000000000^m:=by
    rw[<-QE 1000000000 b m hmb];exact Kq _ _ _ nb
   have hc0:=zfa hE (by rw[Nat.pow_succ];omega);subst hc0;have HVO:Hid (val 1000000000 out=val 1000000000 a+val 1000000000 b):=by show _=_;omega
   clear hva hvb hvo hE b1 b2;rw[show m+1=out.length from HO.out.symm] at hownr;have hD:=Dig.of_owns hownr;rw[HO.out] at hD;clear hownr;go_wp2_with fail;refine(ze4 _ out _ hD HSm.out (by have:=HO.out;omega)).mono ?_;rintro e w2 ⟨v2,rfl,ds2,hd2,hn2,hv2,hl2,hb2⟩;obtain⟨a2,cap2,ev2,-,-⟩:=id hd2;subst ev2;have hb3:Below (w.heap.size+3) (((w.alloc (.cells #[.slice aa a.length ca] 49)).alloc (.cells #[.slice ab b.length cb] 49)).alloc (.cells #[.slice none 0 0] 49)) w2:=hbelr.trans (hb2.mono (by omega));have hc:w2.cell? ⟨w.heap.size+1+1,0,none⟩=some (.slice none 0 0):=(hb3.cell (p:=⟨w.heap.size+1+1,0,none⟩) (by show w.heap.size+1+1<_;omega)).trans (zpt _ _ _ _ _);have hf:w2.frozen? ⟨w.heap.size+1+1,0,none⟩=false:=(hb3.frozen (p:=⟨w.heap.size+1+1,0,none⟩) (by show w.heap.size+1+1<_;omega)).trans (zh1 _ _ _ _ _);have hcs:(w2.setCell ⟨w.heap.size+1+1,0,none⟩ (.slice a2 ds2.length cap2)).cell? ⟨w.heap.size+1+1,0,none⟩=some (.slice a2 ds2.length cap2):=World.cell?_setCell_same' _ _ _ (by simp[hc]);go_wp2;refine bodyPost_ret (v:=.agg #[.slice a2 ds2.length cap2]) (by simp[results,Tryz.results105,go_sem,hcs]) rfl ?_;refine⟨_,rfl,ds2,hd2.set hc (fun n h=>by cases h) _,hn2,by rw[hv2];exact HVO.out,by have:=HO.out;omega,?_⟩;exact((((zF.alloc zN _).alloc (by simp) _).alloc (by simp;omega) _).trans (hb3.mono (by omega))).setCell (by show _<=w.heap.size+1+1;omega) _
end Bd
namespace Bd
open Go.RowKit Num Go.Sort
theorem zbf(v:Value)(ds:List Nat)(w:World)(hd:Dig .u64 w v ds)(hl:ds.length<=100000) :
  zC 106 #[v] w fun e w'=>∃v',e=.returned v'/\Dig .u64 w' v' ds/\zB w w':=by
 obtain⟨a,cap,hv,hc,hcell⟩:=id hd;subst hv;obtain⟨i0,hi,hz0,hz1,hz2⟩:=info_parts Ke;have hq:=fun (x:Option Addr) (n c:Nat) (W:World)=>Lib.run_eql_slice_nil (P:=Tryz.prog) W 47 200 x n c 0 0 Tryz.underlying47;cases a with
 |none =>
  have h0:ds.length=0:=by
   by_cases h:ds.length=0
   ·exact h
   ·obtain⟨b,off,e,-⟩:=hcell 0 (by omega);cases e
  obtain rfl:ds=[]:=List.length_eq_zero_iff.1 h0;clear hcell hd;go_enter Tryz.func106,Tryz.ntmps106;go_wp2;go_ret;exact⟨_,rfl,Dig.nil _ _,Below.refl _ _⟩
 |some ad =>
  go_enter Tryz.func106,Tryz.ntmps106;go_wp2_with (at_builtin;refine wpList_append_own _ rfl _ _ 47 rfl w.heap.size 200 i0 (.int .u64 0) 1 8 Tryz.underlying47 hi hz0 hz1 hz2 rfl (by decide) _ _ _ rfl (World.ownsRow_lit w #[] 0 zN (by unfold maxLen;omega) rfl) ad ds.length cap (zX .u64 ds) rfl ?c0 ?c1 ?c2 ?c3 ?c4 ?c5 ?_)
  case c0=>simp[zgk]
  case c1 =>
   intro j u hj;have hjl:j<ds.length:=by
    have h5:=(List.getElem?_eq_some_iff.1 hj).1
    rwa [zgk] at h5
   obtain⟨b,off,e,hb,hcl⟩:=hcell j hjl;cases e;rw[Yz .u64 ds j hjl] at hj;cases hj;rw[show (⟨b,off,none⟩:Addr).add j=⟨b,off+j,none⟩ by simp[Addr.add]];exact(X0 (off:=off+j) _ hb).trans hcl
  case c2=>intro u hu;simp only[zX,List.mem_map] at hu;obtain⟨x,_,rfl⟩:=hu;rfl
  case c3=>unfold maxLen;omega
  case c4=>omega
  case c5=>simp
  intro v' w1 hown hgrow _;have hb1:zB w w1:=(zF.alloc zN _).grown hgrow (by simp) (fun k hk=>by cases hk;exact Nat.le_refl _);have hD:Dig .u64 w1 v' ds:=Dig.of_owns (by simpa using hown);clear hown hgrow hcell;go_wp2;go_ret;exact⟨v',rfl,hD,hb1⟩
theorem znD(va:Value)(a:List Nat)(t:Nat)(w:World)(ha:Dig .u64 w va a)(na:∀i,dig a i<1000000000)(la:a.length<=5000)(ht:t<=30) :
  zC 107 #[.agg #[va],.int .i64 t] w fun e w'=>∃v',e=.returned (.agg #[v'])/\∃ds',Dig .u64 w' v' ds'/\xP 1000000000 ds'/\val 1000000000 ds'=val 1000000000 a*2^t/\ds'.length<=a.length+2/\zB w w':=by
 obtain⟨aa,ca,eva,hca,hcella⟩:=id ha;subst eva;clear hcella hca;obtain⟨i0,hi,hz0,hz1,hz2⟩:=info_parts Ke;go_enter Tryz.func107,Tryz.ntmps107;go_wp2_with (at_make;refine wpList_make_full _ rfl _ _ 47 rfl (w.heap.size+2) 200 i0 (.int .u64 0) 1 Tryz.underlying47 hi hz0 hz1 .i64 .i64 _ _ (a.length+2) rfl rfl ?c1 ?c2 ?c3 ?c4 ?c5 ?_)
 case c1=>omega
 case c2=>omega
 case c3=>rw[hz2];omega
 case c4=>unfold maxLen;omega
 case c5=>simp
 intro w1 hown hgrow;rw[zcn] at hown;have hbel:Below (w.heap.size+2) ((w.alloc (.cells #[.slice aa a.length ca] 49)).alloc (.cells #[.slice none 0 0] 49)) w1:=zF.grown hgrow (by simp) (fun k hk=>by cases hk);clear hgrow;have hP:2^t<=1073741824:=Nat.pow_le_pow_right (i:=t) (j:=30) (by omega:2>0) ht;have hP1:1<=2^t:=Nat.one_le_pow _ _ (by omega);go_wp2_with fail;go_loopw [7,18] (fun cv i wr=>∃(k c:Nat) (out:List Nat),k<=a.length+2/\i=.int .i64 k/\cv=.int .u64 c/\c<=2^t/\out.length=a.length+2/\(∀i,dig out i<1000000000)/\S 1000000000 (dig out) k+c*1000000000^k=S 1000000000 (dig a) k*2^t/\wr.ownsRow (w.heap.size+2) 200 1 (.slice (some ⟨w.heap.size+1+1,0,none⟩) (a.length+2) (a.length+2)) (a.length+2) (zX .u64 out)/\Below (w.heap.size+2) ((w.alloc (.cells #[.slice aa a.length ca] 49)).alloc (.cells #[.slice none 0 0] 49)) wr)
  (fun _ i _=>a.length+2-(intOf i).toNat)
 case atStart=>exact⟨0,0,List.replicate (a.length+2) 0,Nat.zero_le _,rfl,rfl,Nat.zero_le _,by simp,fun i=>by rw[zeE];omega,by simp[S],hown,hbel⟩
 case round =>
  obtain⟨k,c,out,hk,rfl,rfl,hc1,hol,hsm,hS,hownr,hbelr⟩:=hrel;have HSm:Hid (∀i,dig out i<1000000000):=hsm;have HS:Hid (S 1000000000 (dig out) k+c*1000000000^k=S 1000000000 (dig a) k*2^t):=hS;have HO:Hid (out.length=a.length+2):=hol;clear hsm hS hown hbel hol;have hbw:zB w wr:=((zF.alloc zN _).alloc (by simp) _).trans (hbelr.mono (by omega));have hsz:=hbelr.size;simp only[World.size_alloc] at hsz
  by_cases hlt:k<a.length+2
  ·have c0:wr.cell? ⟨w.heap.size,0,none⟩=some (.slice aa a.length ca):=(hbelr.cell (p:=⟨w.heap.size,0,none⟩) (by show w.heap.size<_;omega)).trans (zfm _ _ _ _);go_wp2_with fail;refine(zaa _ a k _ (ha.below hbw) (by omega) (by omega)).mono ?_;rintro e wq ⟨rfl,hbq⟩;have hownq:=zdz hownr hbq;have hbelq:=hbelr.trans (hbq.mono (by omega));have hkl:k<out.length:=by have:=HO.out;omega
   clear hownr hbelr hbq hbw c0;have hx:=na k;generalize hdx:dig a k=x at *;have HX:Hid (dig a k=x):=hdx;clear hdx;have hcell:=hownq.cellAt k (by omega);rw[Yz .u64 out k hkl] at hcell;have hfr:=hownq.frozenAt k;obtain⟨z,hz⟩:∃z,z=x*2^t:=⟨_,rfl⟩;have hzb:x*2^t<=999999999*2^t:=Nat.mul_le_mul_right _ (by omega);have hzc:z+c<=1000000000*2^t:=by omega
   have hz1:z<=1073741824000000000:=by omega
   have hc2:c<=1073741824:=by omega
   have e0:IntKind.u64.wrap ((x:Int)*2^t)=(z:Int):=by
    have:(x:Int)*2^t=(z:Int):=by rw[hz,Int.natCast_mul,Int.natCast_pow];rfl
    rw[this];exact zaw (by omega) (by omega)
   have HZZ:Hid (z=x*2^t):=hz;have HZC:Hid (z+c<=1000000000*2^t):=hzc;have HPP:Hid (1<=2^t):=hP1;clear hz hzb hzc hP1 hP hc1;go_wp2;go_roundw
   case rel =>
    have e3:((z:Int)+c)%1000000000=(((x*2^t+c)%1000000000:Nat):Int):=by rw[<-HZZ.out];omega
    have e4:((z:Int)+c)/1000000000=(((x*2^t+c)/1000000000:Nat):Int):=by rw[<-HZZ.out];omega
    rw[e3,e4];refine⟨k+1,(x*2^t+c)/1000000000,out.set k ((x*2^t+c)%1000000000),by omega,by go_num,rfl,?_,by rw[List.length_set];exact HO.out,zej hkl HSm.out (by omega),zoB hkl HS.out HX.out,zcL hownq k _,hbelq.setCell (by show _<=w.heap.size+1+1;omega) _⟩;rw[<-HZZ.out];have:=HZC.out;omega
   case measure=>simp[intOf];omega
  ·obtain rfl:k=a.length+2:=by omega
   have hva:=QE 1000000000 a (a.length+2) (by omega);have hvo:=QE 1000000000 out (a.length+2) (by have:=HO.out;omega);have hE:=HS.out;rw[hva,hvo] at hE;have b1:val 1000000000 a*2^t<1000000000^(a.length+2):=by
    have h1:=zoS na;have h2:val 1000000000 a*2^t<=val 1000000000 a*1073741824:=Nat.mul_le_mul_left _ hP;rw[Nat.pow_add];omega
   have hc0:=zfa hE b1;subst hc0;have HVO:Hid (val 1000000000 out=val 1000000000 a*2^t):=by show _=_;omega
   clear hva hvo hE b1 hP hP1 hc1;rw[show a.length+2=out.length from HO.out.symm] at hownr;have hD:=Dig.of_owns hownr;rw[HO.out] at hD;clear hownr;go_wp2_with fail;refine(ze4 _ out _ hD HSm.out (by have:=HO.out;omega)).mono ?_;rintro e w2 ⟨v2,rfl,ds2,hd2,hn2,hv2,hl2,hb2⟩;obtain⟨a2,cap2,ev2,-,-⟩:=id hd2;subst ev2;have hb3:Below (w.heap.size+2) ((w.alloc (.cells #[.slice aa a.length ca] 49)).alloc (.cells #[.slice none 0 0] 49)) w2:=hbelr.trans (hb2.mono (by omega));have hc:w2.cell? ⟨w.heap.size+1,0,none⟩=some (.slice none 0 0):=(hb3.cell (p:=⟨w.heap.size+1,0,none⟩) (by show w.heap.size+1<_;omega)).trans (KG _ _ _ _);have hf:w2.frozen? ⟨w.heap.size+1,0,none⟩=false:=(hb3.frozen (p:=⟨w.heap.size+1,0,none⟩) (by show w.heap.size+1<_;omega)).trans (zak _ _ _ _);have hcs:(w2.setCell ⟨w.heap.size+1,0,none⟩ (.slice a2 ds2.length cap2)).cell? ⟨w.heap.size+1,0,none⟩=some (.slice a2 ds2.length cap2):=World.cell?_setCell_same' _ _ _ (by simp[hc]);go_wp2;refine bodyPost_ret (v:=.agg #[.slice a2 ds2.length cap2]) (by simp[results,Tryz.results107,go_sem,hcs]) rfl ?_;refine⟨_,rfl,ds2,hd2.set hc (fun n h=>by cases h) _,hn2,by rw[hv2];exact HVO.out,by have:=HO.out;omega,?_⟩;exact(((zF.alloc zN _).alloc (by simp) _).trans (hb3.mono (by omega))).setCell (by show _<=w.heap.size+1;omega) _
theorem znX(va:Value)(a:List Nat)(x:Int)(t:Nat)(w:World)(hx:x=(t:Int))(ha:Dig .u64 w va a)(na:∀i,dig a i<1000000000)(la:a.length<=5000)(ht:t<=30) :
  zC 107 #[.agg #[va],.int .i64 x] w fun e w'=>∃v',e=.returned (.agg #[v'])/\∃ds',Dig .u64 w' v' ds'/\xP 1000000000 ds'/\val 1000000000 ds'=val 1000000000 a*2^t/\ds'.length<=a.length+2/\zB w w':=by
 subst hx;exact znD va a t w ha na la ht
theorem zkD(va:Value)(a:List Nat)(times:Int)(w:World)(ha:Dig .u64 w va a)(na:xP 1000000000 a)(la:a.length<=2000)(h0:-9223372036854775808<=times)(h1:times<=9223372036854775807) :
  zC 67 #[.agg #[va],.int .i64 times] w fun e w'=>∃v',e=.returned (.agg #[v'])/\∃ds',Dig .u64 w' v' ds'/\xP 1000000000 ds'/\val 1000000000 ds'=val 1000000000 a*2^(min times 1000).toNat/\ds'.length<=a.length+68/\zB w w':=by
 obtain⟨aa,ca,eva,hca,hcella⟩:=id ha;subst eva;clear hcella hca;obtain⟨T,hT,hT1,hT0⟩:∃T:Int,min times 1000=T/\T<=1000/\-9223372036854775808<=T:=⟨_,rfl,by omega,by omega⟩;rw[hT];have hb2:zB w ((w.alloc (.cells #[.slice aa a.length ca] 49)).alloc (.cells #[.slice none 0 0] 49)):=(zF.alloc zN _).alloc (by simp) _;have HC:=zbf _ a _ (ha.below hb2) (by omega);clear hb2;go_enter Tryz.func67,Tryz.ntmps67;go_wp2_with fail;refine HC.mono ?_;rintro e w1 ⟨v1,rfl,hd1,hb1⟩;obtain⟨a1,cap1,ev1,-,-⟩:=id hd1;subst ev1;have hs1:=hb1.size;simp only[World.size_alloc] at hs1;have hb1':Below (w.heap.size+2) ((w.alloc (.cells #[.slice aa a.length ca] 49)).alloc (.cells #[.slice none 0 0] 49)) w1:=hb1.mono (by simp);clear HC hb1 ha;have hD0:Dig .u64 (w1.alloc (.cells #[.slice a1 a.length cap1] 49)) (.slice a1 a.length cap1) a:=hd1.below (zF.alloc zN _);have hB0:Below (w.heap.size+2) ((w.alloc (.cells #[.slice aa a.length ca] 49)).alloc (.cells #[.slice none 0 0] 49)) (w1.alloc (.cells #[.slice a1 a.length cap1] 49)):=hb1'.alloc (by omega) _;have hC0:=Qk w1 (.slice a1 a.length cap1) 49;have hF0:=Xa w1 (.slice a1 a.length cap1) 49;have hZ0:w1.heap.size<(w1.alloc (.cells #[.slice a1 a.length cap1] 49)).heap.size:=by simp
 have HK:Hid (Dig .u64 (w1.alloc (.cells #[.slice a1 a.length cap1] 49)) (.slice a1 a.length cap1) a/\Below (w.heap.size+2) ((w.alloc (.cells #[.slice aa a.length ca] 49)).alloc (.cells #[.slice none 0 0] 49)) (w1.alloc (.cells #[.slice a1 a.length cap1] 49))/\(w1.alloc (.cells #[.slice a1 a.length cap1] 49)).cell? ⟨w1.heap.size,0,none⟩=some (.slice a1 a.length cap1)/\(w1.alloc (.cells #[.slice a1 a.length cap1] 49)).frozen? ⟨w1.heap.size,0,none⟩=false/\w1.heap.size<(w1.alloc (.cells #[.slice a1 a.length cap1] 49)).heap.size):=⟨hD0,hB0,hC0,hF0,hZ0⟩;clear hD0 hB0 hC0 hF0 hZ0 hd1 hb1';go_wp2_with fail;go_loopw [6] (fun lv wr=>∃(r:Nat) (ds:List Nat) (a2:Option Addr) (cap2:Nat),r<=34/\lv=.int .i64 (T-30*r)/\(0<r->-30<T-30*r)/\xP 1000000000 ds/\ds.length<=a.length+2*r/\val 1000000000 ds=val 1000000000 a*2^(min (30*r) T.toNat)/\Dig .u64 wr (.slice a2 ds.length cap2) ds/\Below (w.heap.size+2) ((w.alloc (.cells #[.slice aa a.length ca] 49)).alloc (.cells #[.slice none 0 0] 49)) wr/\wr.cell? ⟨w1.heap.size,0,none⟩=some (.slice a2 ds.length cap2)/\wr.frozen? ⟨w1.heap.size,0,none⟩=false/\w1.heap.size<wr.heap.size)
  (fun lv _=>(intOf lv).toNat)
 case atStart=>exact⟨0,a,a1,cap1,by omega,by go_num,by omega,na,by omega,by simp,HK.out.1,HK.out.2.1,HK.out.2.2.1,HK.out.2.2.2.1,HK.out.2.2.2.2⟩
 case round =>
  obtain⟨r,ds,a2,cap2,hr,rfl,hr0,hnr,hlr,hvr,hdr,hbr,hcr,hfr,hzr⟩:=hrel;have HV:Hid (val 1000000000 ds=val 1000000000 a*2^(min (30*r) T.toNat)):=hvr;clear hvr HK
  by_cases hpos:0<T-30*r
  ·obtain⟨s,hs1,hs2⟩:∃s:Nat,min (T-30*(r:Int)) 30=(s:Int)/\s<=30:=⟨(min (T-30*(r:Int)) 30).toNat,by omega,by omega⟩;go_wp2_with fail;refine(znX _ ds _ s _ (by first|rfl|exact hs1) hdr hnr.small (by omega) hs2).mono ?_;rintro e w3 ⟨v3,rfl,ds3,hd3,hn3,hv3,hl3,hb3⟩;obtain⟨a3,cap3,ev3,-,-⟩:=id hd3;subst ev3;have hc3:w3.cell? ⟨w1.heap.size,0,none⟩=some (.slice a2 ds.length cap2):=(hb3.cell (p:=⟨w1.heap.size,0,none⟩) hzr).trans hcr;have hf3:w3.frozen? ⟨w1.heap.size,0,none⟩=false:=(hb3.frozen (p:=⟨w1.heap.size,0,none⟩) hzr).trans hfr;have hsr:=hbr.size;simp only[World.size_alloc] at hsr;have hb3':=hbr.trans (hb3.mono (by omega));have hs3:=hb3.size;have HV3:Hid (val 1000000000 ds3=val 1000000000 ds*2^s):=hv3;clear hbr hb3 hcr hfr hdr hv3;go_wp2;go_roundw
   case rel =>refine⟨r+1,ds3,a3,cap3,by omega,by go_num,by omega,hn3,by omega,?_,hd3.set hc3 (fun n h=>by cases h) _,hb3'.setCell (by show _<=w1.heap.size;omega) _,World.cell?_setCell_same' _ _ _ (by simp[hc3]),by simpa using hf3,by simp[World.setCell];omega⟩;rw[HV3.out,HV.out,Nat.mul_assoc,<-Nat.pow_add];congr 2;omega
   case measure=>simp[intOf];omega
  ·have hc:wr.cell? ⟨w.heap.size+1,0,none⟩=some (.slice none 0 0):=(hbr.cell (p:=⟨w.heap.size+1,0,none⟩) (by show w.heap.size+1<_;omega)).trans (KG _ _ _ _);have hf:wr.frozen? ⟨w.heap.size+1,0,none⟩=false:=(hbr.frozen (p:=⟨w.heap.size+1,0,none⟩) (by show w.heap.size+1<_;omega)).trans (zak _ _ _ _);have hcs:(wr.setCell ⟨w.heap.size+1,0,none⟩ (.slice a2 ds.length cap2)).cell? ⟨w.heap.size+1,0,none⟩=some (.slice a2 ds.length cap2):=World.cell?_setCell_same' _ _ _ (by simp[hc]);have hmin:min (30*r) T.toNat=T.toNat:=by omega
   have HV2:Hid (val 1000000000 ds=val 1000000000 a*2^T.toNat):=by show _=_;rw[HV.out,hmin]
   clear hmin;go_wp2;refine bodyPost_ret (v:=.agg #[.slice a2 ds.length cap2]) (by simp[results,Tryz.results67,go_sem,hcs]) rfl ?_;refine⟨_,rfl,ds,hdr.set hc (fun n h=>by cases h) _,hnr,HV2.out,by omega,?_⟩;exact(((zF.alloc zN _).alloc (by simp) _).trans (hbr.mono (by omega))).setCell (by show _<=w.heap.size+1;omega) _
end Bd
namespace Bd
open Go.RowKit Go.Maps Num
def qj(w:World)(v:Value)(m:Nat):Prop:=∃x:NV,v=x.val/\∃ds,Dig .u64 w (.slice x.a x.n x.c) ds/\xP 1000000000 ds/\val 1000000000 ds=m
theorem qj.new{w w':World}{v:Value}{m:Nat}(h:qj w v m)(hb:zB w w'):qj w' v m:=by
 obtain⟨x,e,ds,h1,h2,h3⟩:=h;exact⟨x,e,ds,h1.below hb,h2,h3⟩
theorem qj.kept{S:Nat->Prop}{w w':World}{v:Value}{m:Nat}(h:qj w v m)(hk:ze S w w')(hn:∀b o n,S b->w.cell? ⟨b,o,none⟩≠some (.int .u64 n)):qj w' v m:=by
 obtain⟨x,e,ds,⟨a,cap,hv,hc,hi⟩,h2,h3⟩:=h;refine⟨x,e,ds,⟨a,cap,hv,hc,fun i hl=>?_⟩,h2,h3⟩;obtain⟨b,off,ha,hb,hcell⟩:=hi i hl;exact⟨b,off,ha,Nat.lt_of_lt_of_le hb hk.size,(hk.cell (a:=⟨b,off+i,none⟩) hb (fun hs=>hn b _ _ hs hcell)).trans hcell⟩
theorem zar{w:World}{s:Value}{ds:List Nat}{m:Nat}(h:Dig .u64 w s ds)(hN:xP 1000000000 ds)(hv:val 1000000000 ds=m):qj w (.agg #[s]) m:=by
 have h0:=h;obtain⟨a,cap,e,-⟩:=h0;subst e;exact⟨⟨a,ds.length,cap⟩,rfl,ds,h,hN,hv⟩
theorem qj.open{w:World}{v:Value}{m:Nat}(h:qj w v m)(hm:m<=100000000):∃s ds,v=.agg #[s]/\Dig .u64 w s ds/\xP 1000000000 ds/\val 1000000000 ds=m/\ds.length<=1:=by
 obtain⟨x,e,ds,h1,h2,h3⟩:=h;exact⟨_,ds,e,h1,h2,h3,zoA (by omega) h2 (by rw[h3];omega)⟩
structure qO(w:World)(dk vars:Nat)(ns:List Nd)(L:List (Int × NV)):Prop where
 hmap:∃D,w.ownsMap Tryz.prog 3 Yn dk L.length D/\Y4 D L
 keys:∀p∈L,zb ns p.1≠24
 nums:∀p∈L,qj w p.2.val (yw vars ns p.1)
section
variable {w w':World} {dk vars:Nat} {ns:List Nd} {L:List (Int × NV)}
theorem qO.lt(h:qO w dk vars ns L):dk<w.heap.size:=by obtain⟨D,hD,-⟩:=h.hmap;exact hD.lt
theorem qO.none(h:qO w dk vars ns L)(o:Nat):w.cell? ⟨dk,o,none⟩=none:=by
 obtain⟨D,⟨es,clock,hb,-⟩,-⟩:=h.hmap;unfold World.cell?;simp only[hb]
theorem qO.kept{S:Nat->Prop}(h:qO w dk vars ns L)(hk:ze S w w')(hn:¬S dk)(hc:∀b o n,S b->w.cell? ⟨b,o,Option.none⟩≠some (.int .u64 n)):qO w' dk vars ns L:=by
 obtain⟨D,hD,hR⟩:=h.hmap;exact⟨⟨D,ZV hD hk hn,hR⟩,h.keys,fun p hp=>(h.nums p hp).kept hk hc⟩
theorem qO.new(h:qO w dk vars ns L)(hb:zB w w'):qO w' dk vars ns L:=h.kept (ze.of_below hb (fun _=>False)) (fun h=>h) (fun _ _ _ h=>h.elim)
theorem qO.no(h:qO w dk vars ns L)(b o:Nat)(n:Int)(e:b=dk):w.cell? ⟨b,o,Option.none⟩≠some (.int .u64 n):=by rw[e,h.none];exact fun h=>by cases h
theorem Jz(w:World)(o:Nat)(n:Int):(w.alloc (.cells #[.slice none 0 0] 49)).cell? ⟨w.heap.size,o,Option.none⟩≠some (.int .u64 n):=by
 cases o with
 |zero=>simp
 |succ o=>simp
theorem qj.box{v:Value}{m bx:Nat}(h:qj w v m)(hb:∀o n,w.cell? ⟨bx,o,Option.none⟩≠some (.int .u64 n))(u:Value):qj (w.setCell ⟨bx,0,Option.none⟩ u) v m :=
 h.kept (S:=fun j=>j=bx) (ze.setCell _ _ _ rfl) (fun b o n e=>by rw[e];exact hb o n)
theorem qO.box{bx:Nat}(h:qO w dk vars ns L)(hb:∀o n,w.cell? ⟨bx,o,Option.none⟩≠some (.int .u64 n))(hne:bx≠dk)(u:Value):qO (w.setCell ⟨bx,0,Option.none⟩ u) dk vars ns L :=
 h.kept (S:=fun j=>j=bx) (ze.setCell _ _ _ rfl) (fun e=>hne e.symm) (fun b o n e=>by rw[e];exact hb o n)
theorem Qv:∀(n:Nat) (l:List Nat),l.Nodup->(∀x∈l,x<n)->l.length<=n
 |0,l,_,h=>by
  cases l with
  |nil=>simp
  |cons a l=>have:=h a (List.mem_cons_self ..);omega
 |n+1,l,hd,h=>by
  have ih:=Qv n (l.erase n) (hd.erase n) (fun x hx=>by
   have h1:=(hd.mem_erase_iff).1 hx;have h2:=h x h1.2;have h3:=h1.1;omega)
  by_cases hm:n∈l
  ·rw[List.length_erase_of_mem hm] at ih;omega
  ·rw[List.erase_of_not_mem hm] at ih;omega
theorem qO.len(h:qO w dk vars ns L):L.length<=ns.length:=by
 obtain⟨D,-,hR⟩:=h.hmap;have hk:∀p∈L,p.1=2+(pl p.1:Int)/\pl p.1<ns.length:=fun p hp=>⟨(yU (h.keys p hp)).2.2.2,(yU (h.keys p hp)).2.1⟩;have hd:=Rep.nodup hR;have:=Qv ns.length (L.map fun p=>pl p.1) (by
  have e:(L.map fun p=>pl p.1)=(L.map Prod.fst).map pl:=by simp
  rw[e];refine(List.nodup_iff_pairwise_ne.1 hd |> fun hp=>?_);refine List.nodup_iff_pairwise_ne.2 (List.pairwise_map.2 (hp.imp_of_mem fun {a b} ha hb hab e=>hab ?_));obtain⟨p,hp1,rfl⟩:=List.mem_map.1 ha;obtain⟨q,hq1,rfl⟩:=List.mem_map.1 hb;rw[(hk p hp1).1,(hk q hq1).1,e]) (fun x hx=>by
  obtain⟨p,hp1,rfl⟩:=List.mem_map.1 hx;exact (hk p hp1).2)
 simpa using this
end
def ZB(dk vars:Nat)(ns:List Nd)(m:Nat)(w:World)(e:Ending)(w':World):Prop :=
 ∃v L',e=.returned v/\qj w' v m/\qO w' dk vars ns L'/\ze (fun j=>j=dk) w w'
def zd7(B s b dk:Nat)(O:Nat->Prop)(vars:Nat)(room:Int)(ns:List Nd)(d:Nat):Prop :=
 ∀(h:Int) (L:List (Int × NV)) (w:World),zo B w s b O vars room ns->qO w dk vars ns L->zj ns h=true->24<=zb ns h+d ->
  zC 66 #[.pointer (some ⟨s,0,none⟩),.int .i64 h,.map (some dk)] w (ZB dk vars ns (yw vars ns h) w)
def Kk(B s b dk:Nat)(O:Nat->Prop)(vars:Nat)(room:Int)(ns:List Nd)(d:Nat):Prop :=
 ∀(h:Int) (v:Nat) (L:List (Int × NV)) (w:World),zo B w s b O vars room ns->qO w dk vars ns L->zj ns h=true->24<=zb ns h+d->v<=zV vars ns h ->
  zC 29 #[.pointer (some ⟨s,0,none⟩),.int .i64 h,.int .i64 v,.map (some dk)] w (ZB dk vars ns (yn vars ns h v) w)
theorem zaG(vars:Nat)(ns:List Nd)(h:Int)(v:Nat)(hv:vars<=24):yn vars ns h v<=16777216:=by
 unfold yn;have h1:=zdM (sem ns h) (vars-v) v (fun _=>false);have h2:2^(vars-v)<=2^24:=Nat.pow_le_pow_right (by omega) (by omega);have h3:2^24=16777216:=by decide
 omega
section
variable {B s b dk:Nat} {O:Nat->Prop} {vars:Nat} {room:Int} {ns:List Nd}
theorem zd0(hg:zu vars ns)(hl:ns.length<=90000)(hv:vars<=24){d:Nat}(ih:zd7 B s b dk O vars room ns d):Kk B s b dk O vars room ns d:=by
 intro h v L w hS hD hh hd hvt;have hi:=yS hh (by omega);have hb1:=below_new w (.cells #[.slice none 0 0] 49);have HT:Hid (∀X,zB w X->zC 65 #[.pointer (some ⟨b,0,none⟩),.int .i64 h] X fun e w'=>e=.returned (.int .i64 (zb ns h))/\X=w'):=fun X hX=>zbM (hS.new hX) h hi hl;have SC:Hid (∀X,zB w X->X.cell? ⟨s,0,none⟩=some (.pointer (some ⟨b,0,none⟩))/\X.cell? ⟨s,1,none⟩=some (.int .i64 vars)):=fun X hX=>⟨(hS.new hX).c0,(hS.new hX).c1⟩;have HC:Hid (∀X,zB w X->zC 66 #[.pointer (some ⟨s,0,none⟩),.int .i64 h,.map (some dk)] X (ZB dk vars ns (yw vars ns h) X)):=fun X hX=>ih h L X (hS.new hX) (hD.new hX) hh hd;have h0:=(qi hg.ranked h).1;have htop:min (zb ns h) (vars:Int)=(zV vars ns h:Int):=by unfold zV;omega
 have hgap:=zfv hg (h:=h) (zV vars ns h-v) v (by omega);have hbl:yw vars ns h<=16777216:=zaG vars ns h _ hv;have htl:zV vars ns h<=24:=by unfold zV;omega
 have hdl:=hD.lt;have hsl:=hS.slt;have e1:IntKind.i64.wrap ((zV vars ns h:Int)-(v:Int))=((zV vars ns h-v:Nat):Int):=by
  rw[show ((zV vars ns h:Int)-(v:Int))=((zV vars ns h-v:Nat):Int) by omega];exact IntWalk.i64_in _ ⟨by omega,by omega⟩
 have HGAP:=zH hgap;have HBL:=zH hbl;have HB1:=zH hb1;have hS0:=SC.out _ hb1.drew;have bxl:w.heap.size<(w.alloc (.cells #[.slice none 0 0] 49)).heap.size:=by simp
 have bc:(w.alloc (.cells #[.slice none 0 0] 49)).cell? ⟨w.heap.size,0,none⟩=some (.slice none 0 0):=by simp
 have bf:(w.alloc (.cells #[.slice none 0 0] 49)).frozen? ⟨w.heap.size,0,none⟩=false:=by simp
 have bo:∀o n,(w.alloc (.cells #[.slice none 0 0] 49)).drew.cell? ⟨w.heap.size,o,none⟩≠some (.int .u64 n):=fun o n=>Jz w o n;have BO:=zH bo;clear bo;have HTP:=zH htop;have E1:=zH e1;clear ih hS hD hg hh hgap hbl hb1 htop e1;generalize yw vars ns h=m at *;generalize yn vars ns h v=r at *;generalize zV vars ns h=tn at *;generalize zb ns h=tp at *;go_enter Tryz.func29,Tryz.ntmps29;go_wp2_with fail;go_region_held3 (fun X=>X.cell? ⟨s,0,none⟩=some (.pointer (some ⟨b,0,none⟩))/\X.cell? ⟨s,1,none⟩=some (.int .i64 vars)) (exact hS0)
  (first|(go_at_call 65;with_reducible refine(HT.out _ HB1.out.drew).mono ?_;rintro e wz ⟨rfl,rfl⟩))
 simp only[HTP.out];have HC1:=zH (HC.out _ HB1.out.drew);have HB2:=zH HB1.out.drew;have bxl2:w.heap.size<(w.alloc (.cells #[.slice none 0 0] 49)).drew.heap.size:=bxl;have bc2:(w.alloc (.cells #[.slice none 0 0] 49)).drew.cell? ⟨w.heap.size,0,none⟩=some (.slice none 0 0):=bc;have bf2:(w.alloc (.cells #[.slice none 0 0] 49)).drew.frozen? ⟨w.heap.size,0,none⟩=false:=bf;clear HC HT SC hS0 HB1 bxl bc bf;generalize (w.alloc (.cells #[.slice none 0 0] 49)).drew=W1 at *;go_wp2_with fail;refine HC1.out.mono ?_;rintro e w2 ⟨v2,L2,rfl,hn2,hD2,hk2⟩;obtain⟨s2,ds2,rfl,hdg,hnm,hvl,hlen⟩:=hn2.open (by have:=HBL.out;omega);have hdo:=zkD s2 ds2 ((tn-v:Nat):Int) w2 hdg hnm (by omega) (by omega) (by omega);rw[hvl] at hdo;have HDO:=zH hdo;have hne:w.heap.size≠dk:=by omega
 have bc3:=(hk2.cell (a:=⟨w.heap.size,0,none⟩) bxl2 hne).trans bc2;have bf3:=(hk2.frozen (a:=⟨w.heap.size,0,none⟩) bxl2 hne).trans bf2;have bxl3:=Nat.lt_of_lt_of_le bxl2 hk2.size;have HKC:Hid (∀o,w2.cell? ⟨w.heap.size,o,none⟩=W1.cell? ⟨w.heap.size,o,none⟩):=fun o=>hk2.cell (a:=⟨w.heap.size,o,none⟩) bxl2 hne;have HK2:=zH ((ze.of_below HB2.out (fun j=>j=dk)).trans hk2);have HD2:=zH hD2;have e2:=E1.out;clear HC1 hn2 hD2 hk2 hdg hnm hvl hlen hdo bc2 bf2 bxl2;go_wp2_with fail;refine HDO.out.mono ?_;rintro e w3 ⟨v3,rfl,ds3,hdg3,hnm3,hvl3,-,hb3⟩;have hnat:=zar hdg3 hnm3 hvl3;have hmn:(min ((tn-v:Nat):Int) 1000).toNat=tn-v:=by omega
 rw[hmn,<-HGAP.out] at hnat;obtain⟨a3,c3,e3,-⟩:=id hdg3;subst e3;have bc4:=(hb3.cell (p:=⟨w.heap.size,0,none⟩) bxl3).trans bc3;have bf4:=(hb3.frozen (p:=⟨w.heap.size,0,none⟩) bxl3).trans bf3;have hcs:(w3.setCell ⟨w.heap.size,0,none⟩ (.slice a3 ds3.length c3)).cell? ⟨w.heap.size,0,none⟩=some (.slice a3 ds3.length c3):=World.cell?_setCell_same _ _ _ bc4;have hno:∀o n,w3.cell? ⟨w.heap.size,o,none⟩≠some (.int .u64 n):=fun o n=>by
  rw[hb3.cell (p:=⟨w.heap.size,o,none⟩) bxl3,HKC.out o];exact BO.out o n
 have hk3:ze (fun j=>j=dk) w (w3.setCell ⟨w.heap.size,0,none⟩ (.slice a3 ds3.length c3)):=(HK2.out.trans (ze.of_below hb3 _)).andThen (ze.setCell (S:=fun j=>j=w.heap.size) _ _ _ rfl) (fun i hi hlt=>by omega);have HFIN:Hid (ZB dk vars ns r w (.returned (.agg #[.slice a3 ds3.length c3])) (w3.setCell ⟨w.heap.size,0,none⟩ (.slice a3 ds3.length c3))):=⟨_,L2,rfl,hnat.box hno _,(HD2.out.new hb3).box hno hne _,hk3⟩;clear hdg3 hnm3 hvl3 hnat hno hk3 HK2 HD2 HDO hb3 bc3 bf3;go_wp2;refine bodyPost_ret (v:=.agg #[.slice a3 ds3.length c3]) (by simp[results,Tryz.results29,go_sem,hcs]) rfl HFIN.out
end
end Bd
namespace Bd
open Go.RowKit Go.Maps Num
section
variable {B s b dk:Nat} {O:Nat->Prop} {vars:Nat} {room:Int} {ns:List Nd}
theorem zbY(hl:ns.length<=90000)(hv:vars<=24)(h:Int)(L:List (Int × NV))(w:World)(hS:zo B w s b O vars room ns)(hD:qO w dk vars ns L)(hh:zj ns h=true)(ht:zb ns h=24) :
  zC 66 #[.pointer (some ⟨s,0,none⟩),.int .i64 h,.map (some dk)] w (ZB dk vars ns (yw vars ns h) w):=by
 have hi:=yS hh (by omega);have hb1:=below_new w (.cells #[.slice none 0 0] 49);have c0:=(hS.new hb1).c0;have HG:=Q9 (hS.new hb1) h hi hl;rw[show decide (zb ns h≠24)=false by simp[ht],show zl ns h=⟨0,0,0⟩ by unfold zl;rw[if_pos ht]] at HG;unfold Nd.val at HG;have HGT:=zH HG;have hbe:=zps (vars:=vars) hh ht hv;have hdl:=hD.lt;have bxl:w.heap.size<(w.alloc (.cells #[.slice none 0 0] 49)).heap.size:=by simp
 have bc:(w.alloc (.cells #[.slice none 0 0] 49)).cell? ⟨w.heap.size,0,none⟩=some (.slice none 0 0):=by simp
 have bf:(w.alloc (.cells #[.slice none 0 0] 49)).frozen? ⟨w.heap.size,0,none⟩=false:=by simp
 have BO:=zH (Jz w);have HB1:=zH hb1;have HD:=zH hD;have HBE:=zH hbe;obtain⟨hi0,hi1⟩:=hi;clear HG hS hD hh ht hb1 hbe;go_enter Tryz.func66,Tryz.ntmps66;go_wp2_with fail;refine HGT.out.mono ?_;rintro e w2 ⟨rfl,hb2⟩;generalize (w.alloc (.cells #[.slice none 0 0] 49))=W1 at *;have hb3:=hb2.alloc hb2.size (.cells #[.int .i64 0,.int .i64 0,.int .i64 0] 194);have HOF:=zH (zhA h (w2.alloc (.cells #[.int .i64 0,.int .i64 0,.int .i64 0] 194)) hi0 hi1);have HB3:=zH hb3;clear hb2 hb3 HGT c0;go_wp2_with fail;refine HOF.out.mono ?_;rintro e w4 ⟨v4,rfl,ds4,hdg,hnm,hvl,hb4⟩;have hb5:=zT HB3.out hb4;have hnat:=zar hdg hnm hvl;rw[<-HBE.out] at hnat;obtain⟨a4,c4,e4,-⟩:=id hdg;subst e4;have bc4:=(hb5.cell (p:=⟨w.heap.size,0,none⟩) bxl).trans bc;have bf4:=(hb5.frozen (p:=⟨w.heap.size,0,none⟩) bxl).trans bf;have hcs:(w4.setCell ⟨w.heap.size,0,none⟩ (.slice a4 ds4.length c4)).cell? ⟨w.heap.size,0,none⟩=some (.slice a4 ds4.length c4):=World.cell?_setCell_same _ _ _ bc4;have hno:∀o n,w4.cell? ⟨w.heap.size,o,none⟩≠some (.int .u64 n):=fun o n=>by
  rw[hb5.cell (p:=⟨w.heap.size,o,none⟩) bxl];exact BO.out o n
 have hb6:zB w w4:=zT HB1.out hb5;have hne:w.heap.size≠dk:=by omega
 have hk:ze (fun j=>j=dk) w (w4.setCell ⟨w.heap.size,0,none⟩ (.slice a4 ds4.length c4)):=(ze.of_below hb6 _).andThen (ze.setCell (S:=fun j=>j=w.heap.size) _ _ _ rfl) (fun i hi hlt=>by omega);have HFIN:Hid (ZB dk vars ns (yw vars ns h) w (.returned (.agg #[.slice a4 ds4.length c4])) (w4.setCell ⟨w.heap.size,0,none⟩ (.slice a4 ds4.length c4))):=⟨_,L,rfl,hnat.box hno _,(HD.out.new hb6).box hno hne _,hk⟩;clear hdg hnm hvl hnat hno hk hb4 hb5 hb6 HOF HB3 HB1 HD BO HBE bc bf;go_wp2;refine bodyPost_ret (v:=.agg #[.slice a4 ds4.length c4]) (by simp[results,Tryz.results66,go_sem,hcs]) rfl HFIN.out
theorem zje(hl:ns.length<=90000)(L:List (Int × NV))(w:World)(hS:zo B w s b O vars room ns)(hD:qO w dk vars ns L)(p:Int × NV)(hp:p∈L)(hh:zj ns p.1=true) :
  zC 66 #[.pointer (some ⟨s,0,none⟩),.int .i64 p.1,.map (some dk)] w (ZB dk vars ns (yw vars ns p.1) w):=by
 have hi:=yS hh (by omega);have ht:=hD.keys p hp;have hnat:=hD.nums p hp;have hb1:=below_new w (.cells #[.slice none 0 0] 49);have c0:=(hS.new hb1).c0;have HG:=Q9 (hS.new hb1) p.1 hi hl;rw[show decide (zb ns p.1≠24)=true by simp[ht]] at HG;unfold Nd.val at HG;have HGT:=zH HG;have HL:Hid (∀W,zB w W->(Instr.lookup 87 (.map (some dk)) (.int .i64 p.1) true).run Tryz.prog W=.ok (.tuple #[.agg #[.slice p.2.a p.2.n p.2.c],.bool true]) W):=fun W hW=>by
  obtain⟨D,hDm,hR⟩:=(hD.new hW).hmap;exact zit hDm hR hp
 have hdl:=hD.lt;have bxl:w.heap.size<(w.alloc (.cells #[.slice none 0 0] 49)).heap.size:=by simp
 have bc:(w.alloc (.cells #[.slice none 0 0] 49)).cell? ⟨w.heap.size,0,none⟩=some (.slice none 0 0):=by simp
 have bf:(w.alloc (.cells #[.slice none 0 0] 49)).frozen? ⟨w.heap.size,0,none⟩=false:=by simp
 have BO:=zH (Jz w);have HB1:=zH hb1;have HD:=zH hD;have HN:Hid (qj w (.agg #[.slice p.2.a p.2.n p.2.c]) (yw vars ns p.1)):=hnat;clear HG hS hD hh ht hb1 hnat hp;generalize p.2.a=xa at *;generalize p.2.n=xn at *;generalize p.2.c=xc at *;generalize p.1=h at *;generalize zl ns h=gn at *;generalize yw vars ns h=m at *;obtain⟨gv,gl,gh⟩:=gn;simp only at HGT;go_enter Tryz.func66,Tryz.ntmps66;go_wp2_with fail;refine HGT.out.mono ?_;rintro e w2 ⟨rfl,hb2⟩;generalize (w.alloc (.cells #[.slice none 0 0] 49))=W1 at *;have hb3:=hb2.alloc hb2.size (.cells #[.int .i64 gv,.int .i64 gl,.int .i64 gh] 194);have hb4:=zT HB1.out hb3;have hrun:=HL.out _ hb4;have hb5:=hb3.alloc hb3.size (.cells #[.slice xa xn xc] 49);have bc4:=(hb5.cell (p:=⟨w.heap.size,0,none⟩) bxl).trans bc;have bf4:=(hb5.frozen (p:=⟨w.heap.size,0,none⟩) bxl).trans bf;have hno:∀o n,((w2.alloc (.cells #[.int .i64 gv,.int .i64 gl,.int .i64 gh] 194)).alloc (.cells #[.slice xa xn xc] 49)).cell? ⟨w.heap.size,o,none⟩≠some (.int .u64 n):=fun o n=>by
  rw[hb5.cell (p:=⟨w.heap.size,o,none⟩) bxl];exact BO.out o n
 have hb6:zB w ((w2.alloc (.cells #[.int .i64 gv,.int .i64 gl,.int .i64 gh] 194)).alloc (.cells #[.slice xa xn xc] 49)):=zT HB1.out hb5;have hcs:(((w2.alloc (.cells #[.int .i64 gv,.int .i64 gl,.int .i64 gh] 194)).alloc (.cells #[.slice xa xn xc] 49)).setCell ⟨w.heap.size,0,none⟩ (.slice xa xn xc)).cell? ⟨w.heap.size,0,none⟩=some (.slice xa xn xc):=World.cell?_setCell_same _ _ _ bc4;have hne:w.heap.size≠dk:=by omega
 have hk:ze (fun j=>j=dk) w (((w2.alloc (.cells #[.int .i64 gv,.int .i64 gl,.int .i64 gh] 194)).alloc (.cells #[.slice xa xn xc] 49)).setCell ⟨w.heap.size,0,none⟩ (.slice xa xn xc)):=(ze.of_below hb6 _).andThen (ze.setCell (S:=fun j=>j=w.heap.size) _ _ _ rfl) (fun i hi hlt=>by omega);have HFIN:Hid (ZB dk vars ns m w (.returned (.agg #[.slice xa xn xc])) (((w2.alloc (.cells #[.int .i64 gv,.int .i64 gl,.int .i64 gh] 194)).alloc (.cells #[.slice xa xn xc] 49)).setCell ⟨w.heap.size,0,none⟩ (.slice xa xn xc))):=⟨_,L,rfl,(HN.out.new hb6).box hno _,(HD.out.new hb6).box hno hne _,hk⟩;clear hb2 hb3 hb4 hb5 hb6 hno hk HGT HL HB1 HD HN BO c0 bc bf;go_wp2;refine bodyPost_ret (v:=.agg #[.slice xa xn xc]) (by simp[results,Tryz.results66,go_sem,hcs]) rfl HFIN.out
end
end Bd
end Go.Proofs.YtlmmkbnjhilbdaaGreatDoor
