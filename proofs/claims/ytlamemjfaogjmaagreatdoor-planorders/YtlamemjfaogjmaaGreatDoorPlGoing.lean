/- plan: going, a function that is ranged over. -/
import Derived.Test.YtlamemjfaogjmaaGreatDoorPlROrder
set_option maxHeartbeats 4000000
set_option maxRecDepth 100000
namespace Go.Proofs.YtlamemjfaogjmaaGreatDoor
section
open Go.RowKit Go.Deep Sv
theorem zcv(ls:List Ln)(its:List It)(hN:zk ls=.ok its)(set:Nat)(hs:set<2^its.length)(v:Value)(w:World)(h:RLs w v ls)(hf:(zm its ls set).1=true) :
  zC 5 #[v,.int .u64 set] w (Xr w (zl its ls set)):=by
 obtain⟨va,vc,rfl⟩:∃a c,v=.slice a ls.length c:=by obtain⟨vs',_,h2⟩:=h;obtain⟨a,c,e,_⟩:=h2.form;exact⟨a,c,e⟩
 obtain⟨hl,hll,-⟩:=ya hN;obtain⟨i0,hin,hz0,hz1,hz2⟩:=info_parts xM;have hs24:set<16777216:=Nat.lt_of_lt_of_le hs (Nat.pow_le_pow_right (n:=2) (by decide) hl);have hba:=qE w (.cells #[.slice va ls.length vc] 24);have hbb:=qE (w.alloc (.cells #[.slice va ls.length vc] 24)) (.cells #[.int .u64 set] 22);have hbc:=zT hba hbb;have k1:=(Blk.new w 24 #[.slice va ls.length vc]).alloc (.cells #[.int .u64 set] 22);have k2:=Blk.new (w.alloc (.cells #[.slice va ls.length vc] 24)) 22 #[.int .u64 set];rw[World.size_alloc] at k2;have HF0:=zak ls its hN set (.slice va ls.length vc) _ (h.below hbc zN);rw[hf] at HF0;have HF:=zH HF0;have HBC:=zH hbc;have HRL:=zH (h.below hbc zN);have HIT:Hid (∀W,RLs W (.slice va ls.length vc) ls->zC 14 #[.slice va ls.length vc] W fun e w'=>∃ia ic,e=.returned (.slice ia its.length ic)/\zS w' (.slice ia its.length ic) its/\zB W w'):=fun W hR=>by
  have h0:=YZ ls (.slice va ls.length vc) W hR (by omega);rw[(ZF hN).2] at h0;refine h0.mono ?_;rintro e w' ⟨v',rfl,hown,hb⟩;obtain⟨ia,ic,rfl,-⟩:∃a c,v'=.slice a its.length c/\True:=by obtain⟨a,c,e,_⟩:=(zD hown).form;exact⟨a,c,e,trivial⟩
  exact⟨ia,ic,rfl,zD hown,hb⟩
 have HNE:Hid (∀(b2 b8 i k:Nat) (ia:Option Addr) (ic:Nat) (W:World),b8<W.heap.size->W.cell? ⟨b2,0,none⟩=some (.slice va ls.length vc)->W.cell? ⟨b8,0,none⟩=some (.slice ia its.length ic)->RLs W (.slice va ls.length vc) ls->zS W (.slice ia its.length ic) its->zR 16 #[.int .i64 i,.int .i64 k,.pointer (some ⟨b2,0,none⟩),.pointer (some ⟨b8,0,none⟩)] W (.bool (yB its ls i k))):=fun b2 b8 i k ia ic W q1 q2 q3 q4 q5=>zct ls its hN b2 b8 i k va vc ia ic W q1 q2 q3 q4 q5;have HNX:Hid (∀(out:List Nat) (left:Nat),(∀i,left.testBit i=decide (i∈zj set out))->atG (q8 its ls set out) 0 its.length=Zw (((zj set out).findIdx? fun i=>decide ((q7 its ls).getD i 0&&&left=0)).map fun j=>(zj set out).getD j 0)):=fun out left hl=>zhB hN hs out left hl;have HLF:Hid (∀out,yv set out 0 its.length=false↔zj set out=[]):=fun out=>zh7 hl hs out;have HR:Hid (zl its ls set=Ym (qH (q7 its ls) (zj set []).length (zj set []) set [])):=by
  show _=_;unfold zl Zc;rw[if_neg (by rw[hf];decide),show zj set []=zx set 24 by unfold zj;simp]
 have HL0:Hid (∀i,set.testBit i=decide (i∈zj set [])):=fun i=>by rw[show zj set []=zx set 24 by unfold zj;simp];exact Zo set hs24 i
 have HW24:Hid (∀out,∀i∈zj set out,i<its.length):=fun out i hi=>by
  have h2:=((ZA hs24 out i).1 hi).1;apply Classical.byContradiction;intro hc;rw[xw hs (by omega)] at h2;cases h2
 have hw0:(zj set []).length<=24:=by rw[show zj set []=zx set 24 by unfold zj;simp];exact Q8 set 24
 clear HF0 h hN hf hba hbb hbc hs;generalize (zm its ls set).2=f2 at *;generalize q7 its ls=ND at *;go_enter Tryz.func5,Tryz.ntmps5;go_upto_region 1 with fail;generalize (w.alloc (.cells #[.slice va ls.length vc] 24)).alloc (.cells #[.int .u64 set] 22)=W0 at *;have c1:_=some (Value.slice va ls.length vc):=k1.cell 0;have c2:_=some (Value.int .u64 set):=k2.cell 0;go_wp2_with fail;refine HF.out.mono ?_;rintro e w1 ⟨rfl,hb1⟩;have HB1:Hid (zB w w1):=zT HBC.out hb1;have k1':=k1.below hb1 k1.lt;have k2':=k2.below hb1 k2.lt;have HRL1:=zH (HRL.out.below hb1 zN);have d1:w1.cell? ⟨w.heap.size,0,none⟩=some (.slice va ls.length vc):=k1'.cell 0;have HI1:=zH (HIT.out w1 HRL1.out);clear hb1 HF k1 k2 c1 c2 HBC HRL HIT;go_wp2_with fail;refine HI1.out.mono ?_;rintro e w2 ⟨ia,ic,rfl,hit,hb2⟩;have hbn:=qE w2 (.cells #[.slice ia its.length ic] 52);have k8:=Blk.new w2 52 #[.slice ia its.length ic];have hb3:=zT hb2 hbn;have k1'':=k1'.below hb3 k1'.lt;have k2'':=k2'.below hb3 k2'.lt;have HB3:Hid (zB w (w2.alloc (.cells #[.slice ia its.length ic] 52))):=zT HB1.out hb3;have HRL3:=zH (HRL1.out.below hb3 zN);have HIT3:Hid (zS (w2.alloc (.cells #[.slice ia its.length ic] 52)) (.slice ia its.length ic) its):=qt.below hit hbn zN;clear hb2 hbn hb3 hit HI1 HB1 HRL1 k1' k2' d1;go_upto_region 5 with fail;generalize w2.alloc (.cells #[.slice ia its.length ic] 52)=W5 at *;generalize w2.heap.size=b8 at *;have l1:=k1''.lt;have l2:=k2''.lt;have l8:=k8.lt;have C1:Hid (∀W,zB W5 W->W.cell? ⟨w.heap.size,0,none⟩=some (.slice va ls.length vc)):=fun W hb=>(k1''.below hb l1).cell 0;have C2:Hid (∀W,zB W5 W->W.cell? ⟨w.heap.size+1,0,none⟩=some (.int .u64 set)):=fun W hb=>(k2''.below hb l2).cell 0;have C8:Hid (∀W,zB W5 W->W.cell? ⟨b8,0,none⟩=some (.slice ia its.length ic)):=fun W hb=>(k8.below hb l8).cell 0;have HIN:Hid (∀(W:World) (k:Nat),k<24->zB W5 W->zC 15 #[.int .i64 k,.pointer (some ⟨w.heap.size+1,0,none⟩)] W fun e w'=>e=.returned (.bool (set.testBit k))/\w'=W):=fun W k hk hb=>zhW set (by omega) (w.heap.size+1) k hk W (C2.out W hb);have HNQ:Hid (∀(W:World) (i k:Nat),zB W5 W->zR 16 #[.int .i64 i,.int .i64 k,.pointer (some ⟨w.heap.size,0,none⟩),.pointer (some ⟨b8,0,none⟩)] W (.bool (yB its ls i k))):=fun W i k hb=>HNE.out w.heap.size b8 i k ia ic W (Nat.lt_of_lt_of_le l8 hb.size) (C1.out W hb) (C8.out W hb) (HRL3.out.below hb zN) (qt.below HIT3.out hb zN);clear k1'' k2'' k8 HNE;go_wp2_with fail;go_loopw [11] (fun oV wr=>∃(out:List Nat) (left:Nat),wr.ownsRow W5.heap.size 3 1 oV out.length (zn (zq out))/\zB W5 wr/\(∀i,left.testBit i=decide (i∈zj set out))/\qH ND (zj set out).length (zj set out) left out=qH ND (zj set []).length (zj set []) set []/\out.length+(zj set out).length<=24) (fun oV _=>match oV with|.slice _ n _=>24-n|_=>0)
 case atStart=>exact⟨[],set,World.ownsRow_nil _ _ _ _,Below.refl _ _,HL0.out,rfl,by simpa using hw0⟩
 case round =>
  obtain⟨out,left,hrow,hbr,hlf,hgo,h24⟩:=hrel;obtain⟨w6,hw6⟩:∃w6,w6=wr:=⟨wr,rfl⟩;subst hw6;obtain⟨oa,oc,rfl,-⟩:=qm hrow;have HROW:=zH hrow;have HBR:=zH hbr;have HLEF:=zH hlf;have HGO:=zH hgo;have HHAS:Hid (∀(W:World) (k:Nat),zB w6 W->zC 18 #[.slice oa out.length oc,.int .i64 k] W fun e w'=>e=.returned (.bool (decide (k∈out)))/\W=w'):=fun W k hb=>by
   have h:=K7 (zq out) (k:Int) oa oc W (yd (B:=W5.heap.size) (c:=oc) (by rw[zz];exact qK HROW.out hb)) (by rw[zz];omega);rw[zz,zap] at h;exact h
  have z8:=C8.out w6 hbr;have hiw:IntKind.i64.wrap ((its.length:Int)-1)=(its.length:Int)-1:=by rw[IntKind.wrap_i64];omega
  clear hrow hbr hlf hgo;go_wp2_with fail;go_loopw [12,13,14] (fun aV lV iV wr=>∃m:Nat,m<=its.length/\iV=.int .i64 ((m:Int)-1)/\aV=.int .i64 (atG (q8 its ls set out) m (its.length-m))/\lV=.bool (yv set out m (its.length-m))/\zB w6 wr) (fun _ _ iV _=>(intOf iV+1).toNat)
  case atStart=>exact⟨its.length,Nat.le_refl _,by first|rfl|go_num,by rw[Nat.sub_self];rfl,by rw[Nat.sub_self];rfl,Below.refl _ _⟩
  case round =>
   obtain⟨m,hm,rfl,rfl,rfl,hbm⟩:=hrel;obtain⟨w7,hw7⟩:∃w7,w7=wr:=⟨wr,rfl⟩;subst hw7;have HBM:=zH hbm;have HBW:Hid (zB W5 w7):=zT HBR.out hbm;clear hbm
   by_cases hm0:m=0
   ·subst hm0;rw[Nat.sub_zero,HNX.out out left HLEF.out];have HROW7:=zH (qK HROW.out HBM.out);have HBQ:Hid (zB w w7):=zT HB3.out HBW.out;have hsz:=HB3.out.size;cases hlb:yv set out 0 its.length with
    |false =>
     have hwe:=(HLF.out out).1 hlb;have HRR:Hid (zl its ls set=.ok out):=by show _=_;rw[HR.out,<-HGO.out,hwe,J6];rfl
     clear hlb hwe;generalize Zw _=OO at *;go_wp2;go_ret2;rw[HRR.out];exact⟨_,rfl,ZV HROW7.out hsz,HBQ.out⟩
    |true =>
     have hwe:zj set out≠[]:=fun e=>by rw[(HLF.out out).2 e] at hlb;cases hlb
     clear hlb;cases hfi:(zj set out).findIdx? (fun i=>decide (ND.getD i 0&&&left=0)) with
     |none =>
      have HRR:Hid (zl its ls set=.error 11):=by show _=_;rw[HR.out,<-HGO.out,KJ hwe hfi];rfl
      rw[show Zw ((none:Option Nat).map fun j=>(zj set out).getD j 0)=-1 from rfl];clear hfi hwe;go_wp2;go_ret2;rw[HRR.out];exact⟨rfl,HBQ.out⟩
     |some j =>
      have hj:=(List.findIdx?_eq_some_iff_findIdx_eq.1 hfi).1;rw[show Zw ((some j:Option Nat).map fun j=>(zj set out).getD j 0)=(((zj set out).getD j 0:Nat):Int) from rfl];have HG2:Hid (qH ND (zj set (out++[(zj set out).getD j 0])).length (zj set (out++[(zj set out).getD j 0])) (left&&&(18446744073709551615-2^(zj set out).getD j 0)) (out++[(zj set out).getD j 0])=qH ND (zj set []).length (zj set []) set []):=by show _=_;rw[Xw set out hj,<-HGO.out,zaG hfi]
      have HL2:Hid (∀i,(left&&&(18446744073709551615-2^(zj set out).getD j 0)).testBit i=decide (i∈zj set (out++[(zj set out).getD j 0]))):=fun i=>by rw[Xw set out hj];exact zhU (fun i hi=>by have:=HW24.out out i hi;omega) HLEF.out hj i
      have HN2:Hid ((out++[(zj set out).getD j 0]).length+(zj set (out++[(zj set out).getD j 0])).length<=24):=by
       show _<=_;rw[Xw set out hj,List.length_eraseIdx_of_lt hj,List.length_append,List.length_singleton];omega
      have ho24:out.length<24:=by omega
      obtain⟨x,hx⟩:∃x,(zj set out).getD j 0=x:=⟨_,rfl⟩;rw[hx] at HG2 HL2 HN2 ⊢;have hxn:¬(x:Int)<0:=by omega
      have hw7:=HBW.out.size;clear hx hfi hwe hj z8;go_wp2_with (at_builtin;refine wpList_append_own_at _ rfl _ _ 27 rfl W5.heap.size 3 i0 (.int .i64 0) 1 8 Tryz.underlying27 hin hz0 hz1 hz2 rfl (by decide) _ _ _ rfl (HROW7.out.alloc _) ⟨w7.heap.size,0,none⟩ 1 1 [.int .i64 x] rfl rfl ?g1 ?g2 ?g3 ?g4 ?g5 ?_)
      case g2=>first|exact xx _|rfl
      case g3=>unfold maxLen;omega
      case g4=>omega
      case g5=>first|omega|(simp;omega)
      intro v8 w8 hown8 hgrow8 _ hloc8;have HR8:Hid (w8.ownsRow W5.heap.size 3 1 v8 (out++[x]).length (zn (zq (out++[x])))):=by
       show World.ownsRow _ _ _ _ _ _ _;rw[Yy,xm,List.length_append];exact hown8
      have HB8:Hid (zB W5 w8):=(zL HBW.out).grown hgrow8 (by simp;omega) (fun k hk=>(HROW7.out.lt k hk).1);obtain⟨v8a,v8c,rfl,-⟩:=qm hown8;clear hown8 hgrow8 hloc8 HROW7;go_wp2;go_roundw
      case rel=>exact⟨out++[x],_,HR8.out,HB8.out,HL2.out,HG2.out,HN2.out⟩
      case measure=>simp;omega
   ·obtain⟨i,rfl⟩:∃i,m=i+1:=⟨m-1,by omega⟩;have hjw:((i+1:Nat):Int)-1=(i:Int):=by omega
    rw[hjw];have hi24:i<24:=by omega
    have HQI:=zH (HIN.out w7 i hi24 HBW.out);have hsub:its.length-i=(its.length-(i+1))+1:=by omega
    have HAT:Hid (atG (q8 its ls set out) i (its.length-i)=if q8 its ls set out i then (i:Int) else atG (q8 its ls set out) (i+1) (its.length-(i+1))):=by show _=_;rw[hsub];rfl
    have HLB:Hid (yv set out i (its.length-i)=((set.testBit i&&!decide (i∈out))||yv set out (i+1) (its.length-(i+1)))):=by show _=_;rw[hsub];rfl
    generalize atG (q8 its ls set out) (i+1) (its.length-(i+1))=AT at *;generalize yv set out (i+1) (its.length-(i+1))=LB at *;clear hm0 hjw hsub;have hi0:(0:Int)<=(i:Int):=by omega
    have hiwi:IntKind.i64.wrap ((i:Int)-1)=(i:Int)-1:=by rw[IntKind.wrap_i64];omega
    cases hbi:set.testBit i with
    |false =>
     have HA2:Hid (atG (q8 its ls set out) i (its.length-i)=AT):=by show _=_;rw[HAT.out,if_neg (by unfold q8;rw[hbi];simp)]
     have HL2:Hid (yv set out i (its.length-i)=LB):=by show _=_;rw[HLB.out,hbi];simp
     rw[hbi] at HQI;clear hbi HAT HLB;go_wp2_with fail;refine HQI.out.mono ?_;rintro e w8 ⟨rfl,rfl⟩;clear HQI;go_wp2;go_roundw
     case rel=>exact⟨i,by omega,by first|rfl|go_num,by rw[HA2.out],by rw[HL2.out],HBM.out⟩
     case measure=>first|(simp[intOf];done)|(simp[intOf];omega)
    |true =>
     rw[hbi] at HQI;have HHI:=zH (HHAS.out w7 i HBM.out)
     by_cases hio:i∈out
     ·have HA2:Hid (atG (q8 its ls set out) i (its.length-i)=AT):=by show _=_;rw[HAT.out,if_neg (by unfold q8;rw[decide_eq_true hio];simp)]
      have HL2:Hid (yv set out i (its.length-i)=LB):=by show _=_;rw[HLB.out,decide_eq_true hio];simp
      rw[decide_eq_true hio] at HHI;clear hbi HAT HLB hio;go_wp2_with fail;refine HQI.out.mono ?_;rintro e w8 ⟨rfl,rfl⟩;clear HQI;go_wp2_with fail;refine HHI.out.mono ?_;rintro e w9 ⟨rfl,rfl⟩;clear HHI;go_wp2;go_roundw
      case rel=>exact⟨i,by omega,by first|rfl|go_num,by rw[HA2.out],by rw[HL2.out],HBM.out⟩
      case measure=>first|(simp[intOf];done)|(simp[intOf];omega)
     ·rw[decide_eq_false hio] at HHI;have HL2:Hid (yv set out i (its.length-i)=true):=by show _=_;rw[HLB.out,hbi,decide_eq_false hio];rfl
      have HA2:Hid (atG (q8 its ls set out) i (its.length-i)=if yJ its ls set out i its.length then (i:Int) else AT):=by show _=_;rw[HAT.out];unfold q8;rw[hbi,decide_eq_false hio];rfl
      clear hbi HAT HLB hio;go_wp2_with fail;refine HQI.out.mono ?_;rintro e w8 ⟨rfl,rfl⟩;clear HQI;go_wp2_with fail;refine HHI.out.mono ?_;rintro e w9 ⟨rfl,rfl⟩;clear HHI;have z9:=C8.out w8 HBW.out;go_wp2_with fail;go_loopw [15,47] (fun rV kV wr=>∃k:Nat,k<=its.length/\kV=.int .i64 k/\rV=.bool (yJ its ls set out i k)/\zB w6 wr) (fun _ kV _=>its.length-(intOf kV).toNat)
      case atStart=>exact⟨0,Nat.zero_le _,rfl,rfl,HBM.out⟩
      case round =>
       obtain⟨k,hk,rfl,rfl,hbk⟩:=hrel;have HBK:=zH hbk;have HBKW:Hid (zB W5 wr):=zT HBR.out hbk;clear hbk
       by_cases hlk:k<its.length
       ·have HRS:Hid (yJ its ls set out i (k+1)=(yJ its ls set out i k&&(!set.testBit k||(decide (k∈out)||!yB its ls i k)))):=rfl;have HQK:=zH (HIN.out wr k (by omega) HBKW.out);have HHK:=zH (HHAS.out wr k HBK.out);have HNK:=zH (HNQ.out wr i k HBKW.out);cases hrd:yJ its ls set out i k with
        |false =>
         rw[hrd,Bool.false_and] at HRS;clear hrd HQK HHK HNK;go_wp2;go_roundw
         case rel=>exact⟨k+1,hlk,by go_num,by rw[HRS.out],HBK.out⟩
         case measure=>simp[intOf];omega
        |true =>
         rw[hrd,Bool.true_and] at HRS;clear hrd;cases hbk2:set.testBit k with
         |false =>
          rw[hbk2] at HRS HQK;simp only[Bool.not_false,Bool.true_or] at HRS;clear hbk2 HHK HNK;go_wp2_with fail;refine HQK.out.mono ?_;rintro e w10 ⟨rfl,rfl⟩;clear HQK;go_wp2;go_roundw
          case rel=>exact⟨k+1,hlk,by go_num,by rw[HRS.out],HBK.out⟩
          case measure=>simp[intOf];omega
         |true =>
          rw[hbk2] at HRS HQK;simp only[Bool.not_true,Bool.false_or] at HRS;clear hbk2
          by_cases hko:k∈out
          ·rw[decide_eq_true hko,Bool.true_or] at HRS;rw[decide_eq_true hko] at HHK;clear hko HNK;go_wp2_with fail;refine HQK.out.mono ?_;rintro e w10 ⟨rfl,rfl⟩;clear HQK;go_wp2_with fail;refine HHK.out.mono ?_;rintro e w11 ⟨rfl,rfl⟩;clear HHK;go_wp2;go_roundw
           case rel=>exact⟨k+1,hlk,by go_num,by rw[HRS.out],HBK.out⟩
           case measure=>simp[intOf];omega
          ·rw[decide_eq_false hko,Bool.false_or] at HRS;rw[decide_eq_false hko] at HHK;clear hko;obtain⟨NB,hNB⟩:∃NB,yB its ls i k=NB:=⟨_,rfl⟩;rw[hNB] at HRS HNK;clear hNB;go_wp2_with fail;refine HQK.out.mono ?_;rintro e w10 ⟨rfl,rfl⟩;clear HQK;go_wp2_with fail;refine HHK.out.mono ?_;rintro e w11 ⟨rfl,rfl⟩;clear HHK;go_wp2_with fail;refine HNK.out.mono ?_;rintro e w12 ⟨rfl,hb12⟩;have HB12:Hid (zB w6 w12):=zT HBK.out hb12;clear HNK hb12;go_wp2;go_roundw
           case rel=>exact⟨k+1,hlk,by go_num,by rw[HRS.out],HB12.out⟩
           case measure=>simp[intOf];omega
       ·obtain rfl:k=its.length:=by omega
        cases hrd:yJ its ls set out i its.length with
        |true =>
         rw[hrd,if_pos rfl] at HA2;clear hrd;go_wp2;go_roundw
         case rel=>exact⟨i,by omega,by first|rfl|go_num,by rw[HA2.out],by rw[HL2.out],HBK.out⟩
         case measure=>first|(simp[intOf];done)|(simp[intOf];omega)
        |false =>
         rw[hrd,if_neg (by simp)] at HA2;clear hrd;go_wp2;go_roundw
         case rel=>exact⟨i,by omega,by first|rfl|go_num,by rw[HA2.out],by rw[HL2.out],HBK.out⟩
         case measure=>first|(simp[intOf];done)|(simp[intOf];omega)
theorem Zr(ls:List Ln)(its:List It)(hN:zk ls=.ok its)(set:Nat)(v:Value)(w:World)(h:RLs w v ls) :
  zC 5 #[v,.int .u64 set] w (Xr w (zl its ls set)):=by
 cases hf:(zm its ls set).1 with
 |false=>exact zdg ls its hN set v w h hf
 |true =>
  refine zcv ls its hN set ?_ v w h hf;cases hsb:qh its set with
  |false=>rw[show zm its ls set=(false,-2) by unfold zm;rw[if_pos hsb]] at hf;cases hf
  |true =>unfold qh at hsb;exact of_decide_eq_true (Bool.and_eq_true_iff.1 hsb).1
end
section
open Go.RowKit Go.Shelf Go.Deep Sv
attribute [local go_sem] Oper.semAt_some
theorem zd9(a:Option Addr)(n c:Nat)(stay:Nat)(w:World) :
  CallsIn Fence.wide 3 Tryz.prog 29 #[.slice a n c,.int .u64 stay] w fun e w'=>e=.returned (.func (.func 49) #[] #[.pointer (some ⟨w.heap.size,0,none⟩),.pointer (some ⟨w.heap.size+1,0,none⟩)])/\w'=(w.alloc (.cells #[.slice a n c] 27)).alloc (.cells #[.int .u64 stay] 22):=by
 refine callsIn_of_wp Tryz.func29 rfl trivial ?_ rfl;simp only[Tryz.ntmps29,List.size_toArray,List.length_cons,List.length_nil,Nat.reduceAdd,Nat.reduceSub,Array.replicate_succ,Array.replicate_zero,List.push_toArray,List.append_toArray,List.nil_append,List.cons_append]
 gi_wp2
 go_ret;exact⟨by simp,rfl⟩
def goF(l:List Nat)(stay:Nat):List Nat:=l.reverse.filter fun i=>!stay.testBit i
theorem zaa(l:List Nat)(stay k:Nat)(h:k<l.length):goF (l.take (k+1)) stay=(if stay.testBit (l.getD k 0) then [] else [l.getD k 0])++goF (l.take k) stay:=by
 unfold goF;rw[Qj l k h,List.reverse_append,List.filter_append];congr 1
 by_cases hb:stay.testBit (l.getD k 0)=true
 ·rw[if_pos hb];simp only[List.reverse_singleton,List.filter_cons,hb];rfl
 ·rw[if_neg hb];have:stay.testBit (l.getD k 0)=false:=by simpa using hb
  simp only[List.reverse_singleton,List.filter_cons,this];rfl
def KpG(B bo:Nat)(W W':World):Prop:=∀k,k<B->k≠bo->W'.heap[k]?=W.heap[k]?
def K8(x:Nat):Array Value:=#[.int .i64 x]
theorem Qu{B bo:Nat}{W W':World}(h:KpG B bo W W'){p:Addr}(h1:p.block<B)(h2:p.block≠bo):W'.cell? p=W.cell? p:=by
 have:=h p.block h1 h2;unfold World.cell?;rw[this]
theorem Z2(ad:Addr)(j:Nat):(ad.add j).block=ad.block:=by unfold Addr.add;split<;>rfl
theorem zfi(l B bo b:Nat)(A:List Nat)(a:Option Addr)(c stay:Nat)(hA:∀x∈A,x<24)(hAl:A.length<=24)(hst:stay<18446744073709551616)(J Jx:List Nat->World->Prop)
  (hJd:∀(pre:List Nat) (W:World) (n:Nat),J pre W->J pre (W.drewN n))
  (hY:∀ (pre:List Nat) (x:Nat) (W:World),J pre W->pre.length<(goF A stay).length->YieldAt Fence.wide (3 - 1) Tryz.prog l #[.int .i64 x] W fun e W' =>
   (e=.returned (.bool true)/\J (pre++[x]) W'/\KpG B bo W W')\/(e=.returned (.bool false)/\Jx (pre++[x]) W'))
  (W:World) (hb:b<B) (hb1:b+1<B) (hn0:b≠bo) (hn1:b+1≠bo) (h0:W.cell? ⟨b,0,none⟩=some (.slice a A.length c)) (h1:W.cell? ⟨b+1,0,none⟩=some (.int .u64 stay)) (hI:∀i,i<A.length->∃ad:Addr,a=some ad/\ad.block<B/\ad.block≠bo/\W.cell? (ad.add i)=some (.int .i64 ((A.getD i 0:Nat):Int))) (hJ:J [] W) :
  CallsIn Fence.wide 3 Tryz.prog 49 #[.func (.yield l) #[] #[],.pointer (some ⟨b,0,none⟩),.pointer (some ⟨b+1,0,none⟩)] W fun e W'=>(∃v,e=.returned v)/\((∃ys,ys=goF A stay/\J ys W')\/(∃pre,pre <+: goF A stay/\Jx pre W')):=by
 have HY:=zH hY;have HJD:=zH hJd;have HJU:Hid (∀W (k:Nat),k<24->CallsIn Fence.wide 2 Tryz.prog 25 #[.int .i64 k] W fun e w'=>e=.returned (.int .u64 ((2^k:Nat):Int))/\w'=W):=fun W k hk=>callsIn_wide.2 (x8 k (by omega) W);have HI:=zH hI;have HA:=zH hA;clear hY hJd hI hA;refine callsIn_of_wp Tryz.func49 rfl trivial ?_ rfl;simp only[Tryz.ntmps49,List.size_toArray,List.length_cons,List.length_nil,Nat.reduceAdd,Nat.reduceSub,Array.replicate_succ,Array.replicate_zero,List.push_toArray,List.append_toArray,List.nil_append,List.cons_append]
 gi_wp2_with fail
 gi_loopw [4] (fun p wr=>∃(pre:List Nat) (k:Nat),p=.int .i64 ((k:Int)-1)/\k<=A.length/\pre++goF (A.take k) stay=goF A stay/\KpG B bo W wr/\J pre wr) (fun p _=>(intOf p+1).toNat)
 case atStart=>exact⟨[],A.length,by go_num,Nat.le_refl _,by rw[List.take_length];rfl,fun _ _ _=>rfl,hJ⟩
 case round =>
  obtain⟨pre,k,rfl,hk,hcut,hkp,hJs⟩:=hrel;have HJ:=zH hJs;have HC:=zH hcut;have HKP:=zH hkp;have d0:wr.cell? ⟨b,0,none⟩=some (.slice a A.length c):=(Qu hkp hb hn0).trans h0;have d1:wr.cell? ⟨b+1,0,none⟩=some (.int .u64 stay):=(Qu hkp hb1 hn1).trans h1;clear hJs hcut hkp
  by_cases hk0:k=0
  ·subst hk0;have hcut:=HC.out;rw[show goF (A.take 0) stay=[] by simp[goF],List.append_nil] at hcut;have HX:=zH hcut;clear hcut HC
   gi_wp2
   refine bodyPost_end (results_none rfl _ _ _) rfl ?_;exact⟨⟨_,rfl⟩,.inl ⟨pre,HX.out,HJ.out⟩⟩
  ·obtain⟨j,rfl⟩:∃j,k=j+1:=⟨k-1,by omega⟩;have hj:j<A.length:=by omega
   obtain⟨ad,rfl,had,hado,cA⟩:=HI.out j hj;have cA2:wr.cell? (ad.add j)=some (.int .i64 ((A.getD j 0:Nat):Int)):=(Qu (p:=ad.add j) HKP.out (by rw[Z2];exact had) (by rw[Z2];exact hado)).trans cA;have hx24:=HA.out _ (yw A j hj);have hgo:=zaa A stay j hj;have hcut:=HC.out;rw[hgo] at hcut;have HX:=zH hcut;have hand:=yl stay (2^A.getD j 0) hst (xu _ (by omega));have hpn:=Yf stay (A.getD j 0);have hjw:((j+1:Nat):Int)-1=(j:Int):=by omega
   rw[hjw];have hj0:(0:Int)<=(j:Int):=by omega
   have hj1:(j:Int)<(A.length:Int):=by omega
   obtain⟨x,hx⟩:∃x,A.getD j 0=x:=⟨_,rfl⟩;rw[hx] at cA2 hx24 HX hand hpn;have HJx:=zH (fun W=>HJU.out W x hx24);have HJP:Hid (∀W,zC 25 #[.int .i64 x] W fun e w'=>e=.returned (.int .u64 ((2^x:Nat):Int))/\w'=W):=fun W=>x8 x (by omega) W;obtain⟨P2,hP2⟩:∃P2,(2^x:Nat)=P2:=⟨_,rfl⟩;rw[hP2] at hand hpn HJx HJP;have hmx:Tryz.prog.follows .mixedOrders=true:=by kernel_rfl
   obtain⟨ab,ao,asp⟩:=ad;clear hgo hcut hx hP2 HC cA had hado hjw;generalize stay&&&P2=Q at *;cases ht:stay.testBit x with
   |true =>
    rw[ht] at hpn HX;have hq:((Q:Int)==0)=false:=by have:=hpn.2 rfl;simpa using this
    have hq2:¬(Q:Int)=0:=by have:=hpn.2 rfl;omega
    rw[if_pos rfl,List.nil_append] at HX;have HJ1:Hid (∀n,J pre (wr.drewN n)):=fun n=>HJD.out _ _ n HJ.out;clear hpn
    gi_upto_region 3 with fail
    refine wpIn_wide.2 ?_;have HQQ:Hid (∀n,zC 25 #[.int .i64 x] (wr.drewN n) fun e w'=>e=.returned (.int .u64 P2)/\w'=wr.drewN n):=fun n=>HJP.out _;go_quiet (first|(go_at_call 25;refine Calls.quiet_of_same (HQQ.out _)));have HKP2:Hid (KpG B bo W (wr.drewN nq)):=HKP.out;have HJ2:=zH (HJ1.out nq);clear HJ1 HQQ d0 d1 cA2
    gi_wp2
    go_roundw
    case rel=>exact⟨pre,j,rfl,by omega,HX.out,HKP2.out,HJ2.out⟩
    case measure=>first|(simp[intOf];done)|(simp[intOf];omega)
   |false =>
    rw[ht] at hpn HX;have hq0:Q=0:=by
     apply Classical.byContradiction;intro h;cases hpn.1 h
    subst hq0;have hand0:bits BinOp.and IntKind.u64 (stay:Int) (P2:Int)=0:=hand;rw[if_neg (by simp)] at HX;have hlen:pre.length<(goF A stay).length:=by
     rw[<-HX.out];simp
    obtain⟨fn,tmps,assign,body,hy,hR⟩:=HY.out pre x wr.drew (HJD.out _ _ 1 HJ.out) hlen;clear hpn hand;have hR2:=hR.mono (R':=fun e W'=>∃ bv:Bool,e=.returned (.bool bv)/\((bv=true/\J (pre++[x]) W'/\KpG B bo wr.drew W')\/(bv=false/\Jx (pre++[x]) W'))) (by
     rintro e W' (⟨h1,h2,h3⟩|⟨h1,h2⟩)
     ·exact⟨true,h1,Or.inl ⟨rfl,h2,h3⟩⟩
     ·exact ⟨false,h1,Or.inr ⟨rfl,h2⟩⟩)
    clear hR
    gi_wp2_with fail
    gi_region_with_o (first|(refine⟨trivial,?_⟩;gi_at_call 25;refine(HJx.out _).mono ?_;rintro e w' ⟨rfl,rfl⟩)|(refine hR2.mono ?_;rintro e W3 ⟨bv,rfl,hor⟩))
    all_goals
     rcases hor with ⟨rfl,hJ3,hk3⟩|⟨rfl,hJx3⟩
     ·have HJ3:=zH hJ3;have HK3:Hid (KpG B bo W W3):=fun q h1 h2=>(hk3 q h1 h2).trans (HKP.out q h1 h2);clear hJ3 hk3 d0 d1 cA2 hR2
      gi_wp2
      go_roundw
      case rel=>exact⟨pre++[x],j,rfl,by omega,by rw[List.append_assoc];exact HX.out,HK3.out,HJ3.out⟩
      case measure=>first|(simp[intOf];done)|(simp[intOf];omega)
     ·clear hR2
      gi_wp2
      refine bodyPost_ret (results_none rfl _ _ _) rfl ?_;exact⟨⟨_,rfl⟩,.inr ⟨_,⟨_,by rw[List.append_assoc];exact HX.out⟩,hJx3⟩⟩
end
end Go.Proofs.YtlamemjfaogjmaaGreatDoor
