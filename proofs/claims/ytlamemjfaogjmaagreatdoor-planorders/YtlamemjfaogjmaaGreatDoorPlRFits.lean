/- plan: the reference's Fits (printed by gen/genrfits.py). -/
import Derived.Test.YtlamemjfaogjmaaGreatDoorRlAmong
set_option maxHeartbeats 4000000
set_option maxRecDepth 100000
namespace Go.Proofs.YtlamemjfaogjmaaGreatDoor
open Go.RowKit Go.Deep Sv
theorem zfI(set:Nat)(hs:set<18446744073709551616)(b k:Nat)(hk:k<24)(w:World)(hc:w.cell? ⟨b,0,none⟩=some (.int .u64 set)) :
  zC 37 #[.int .i64 k,.pointer (some ⟨b,0,none⟩)] w fun e w'=>e=.returned (.bool (set.testBit k))/\w'=w:=by
 have h1:=Kr set k hs;go_enter Tryz.func37,Tryz.ntmps37;go_wp2;go_ret;exact⟨by first|rfl|simp,rfl⟩
theorem Je{its:List It}{ls:List Ln}{set:Nat}(h:qh its set=false):zm its ls set=(false,-2):=by unfold zm;rw[if_pos h]
theorem zgf{its:List It}{ls:List Ln}{set:Nat}(h:qh its set=true):zm its ls set=QN (xL its ls set):=by unfold zm;rw[if_neg (by rw[h];decide)]
theorem QK(set:Nat)(A:List Nat)(j:Nat)(h:j<A.length):qx set (A.take (j+1))=(qx set (A.take j)||set.testBit (A.getD j 0)):=by
 unfold qx;rw[Qj A j h,List.any_append];simp
theorem zb1(ls:List Ln)(its:List It)(hN:zk ls=.ok its)(set:Nat)(v:Value)(w:World)(h:RLs w v ls)(hlt:¬set<2^its.length) :
  zR 13 #[v,.int .u64 set] w (.tuple #[.bool (zm its ls set).1,.int .i64 (zm its ls set).2]):=by
 obtain⟨hl,hll,-⟩:=ya hN;have hbx:=qE w (.cells #[.int .u64 set] 22);have kx:=Blk.new w 22 #[.int .u64 set];have HI0:=YZ ls v _ (h.below hbx zN) (by omega);rw[(ZF hN).2] at HI0;obtain⟨va,vc,rfl⟩:∃a c,v=.slice a ls.length c:=by obtain⟨vs',_,h2⟩:=h;obtain⟨a,c,e,_⟩:=h2.form;exact⟨a,c,e⟩
 have HI:=zH HI0;have hz:(0:Int)<(set:Int)/2^its.length:=by
  have e2:((set/2^its.length:Nat):Int)=(set:Int)/2^its.length:=by simp
  have:¬set/2^its.length=0:=fun e=>hlt ((Yj _ _).1 e);rw[<-e2];exact Int.natCast_pos.2 (Nat.pos_of_ne_zero this)
 have HF:=zH (Je (its:=its) (ls:=ls) (set:=set) (by unfold qh;rw[decide_eq_false hlt,Bool.false_and]));rw[HF.out];have HBX:=zH hbx;clear h hlt hN hbx HI0;go_enter Tryz.func13,Tryz.ntmps13;go_upto_region 1 with fail;generalize w.alloc (.cells #[.int .u64 set] 22)=W0 at *;go_wp2_with fail;refine HI.out.mono ?_;rintro e w1 ⟨v',rfl,hown,hb1⟩;obtain⟨ia,ic,rfl,-⟩:∃a c,v'=.slice a its.length c/\True:=by obtain⟨a,c,e,_⟩:=(zD hown).form;exact⟨a,c,e,trivial⟩
 have k1:=kx.below hb1 kx.lt;have c0:_=some (Value.int .u64 set):=k1.cell 0;have HB1:Hid (zB w w1):=zT HBX.out hb1;clear hown hb1 HI kx k1 HBX;go_wp2;go_ret2;exact⟨rfl,HB1.out⟩
def xS(its:List It)(ls:List Ln)(set i:Nat):Prop:=∀j,j<i->zZ its (ls.getD j default) set=true
theorem zd2(ls:List Ln)(its:List It)(hN:zk ls=.ok its)(set:Nat)(v:Value)(w:World)(h:RLs w v ls)(hlt:set<2^its.length) :
  zR 13 #[v,.int .u64 set] w (.tuple #[.bool (zm its ls set).1,.int .i64 (zm its ls set).2]):=by
 obtain⟨hl,hll,-⟩:=ya hN;have hs:set<16777216:=Nat.lt_of_lt_of_le hlt (Nat.pow_le_pow_right (n:=2) (by decide) hl);have hbx:=qE w (.cells #[.int .u64 set] 22);have kx:=Blk.new w 22 #[.int .u64 set];have HI0:=YZ ls v _ (h.below hbx zN) (by omega);rw[(ZF hN).2] at HI0;have HRL:=zH (h.below hbx zN);obtain⟨va,vc,rfl⟩:∃a c,v=.slice a ls.length c:=by obtain⟨vs',_,h2⟩:=h;obtain⟨a,c,e,_⟩:=h2.form;exact⟨a,c,e⟩
 have HI:=zH HI0;have hz:(set:Int)/2^its.length=0:=by
  have e2:((set/2^its.length:Nat):Int)=(set:Int)/2^its.length:=by simp
  have:=(Yj set its.length).2 hlt;omega
 have HSI:=zH (ze5 hN set);have HOW:Hid (∀x∈ls,x.pair->zJ its x.it=(zi its x:Int)/\zi its x<its.length):=fun x hx hp=>⟨(xk hN hx hp).1,(xk hN hx hp).2.1⟩;have HRA:Hid (∀name rng,ye its name rng its.length=zO its name rng):=fun name rng=>zal (ZF hN).1 name rng;have HLT2:=zH hlt;have HINS:Hid (∀(W:World) (k:Nat),k<24->W.cell? ⟨w.heap.size,0,none⟩=some (.int .u64 set)->zC 37 #[.int .i64 k,.pointer (some ⟨w.heap.size,0,none⟩)] W fun e w'=>e=.returned (.bool (set.testBit k))/\w'=W):=fun W k hk hc=>zfI set (by omega) w.heap.size k hk W hc;have HBX:=zH hbx;clear h hlt hN hbx HI0;go_enter Tryz.func13,Tryz.ntmps13;go_upto_region 1 with fail;generalize w.alloc (.cells #[.int .u64 set] 22)=W0 at *;go_wp2_with fail;refine HI.out.mono ?_;rintro e w1 ⟨v',rfl,hown,hb1⟩;obtain⟨ia,ic,rfl,-⟩:∃a c,v'=.slice a its.length c/\True:=by obtain⟨a,c,e,_⟩:=(zD hown).form;exact⟨a,c,e,trivial⟩
 have k1:=kx.below hb1 kx.lt;have hwl:=k1.lt;have c0:_=some (Value.int .u64 set):=k1.cell 0;have CS:Hid (∀W,zB w1 W->W.cell? ⟨w.heap.size,0,none⟩=some (.int .u64 set)):=fun W hb=>(k1.below hb hwl).cell 0;have HIT:Hid (zS w1 (.slice ia its.length ic) its):=zD hown;have HR1:=zH (HRL.out.below hb1 zN);have HB1:Hid (zB w w1):=zT HBX.out hb1;clear hown hb1 HI kx k1 HBX HRL;go_wp2_with fail;clear c0;go_loopw [28] (fun iV wr=>∃i:Nat,i<=its.length/\iV=.int .i64 i/\(∀a b,a<i->b<its.length->a≠b->set.testBit a=true->set.testBit b=true->(its.getD a default).name≠(its.getD b default).name)/\zB w1 wr) (fun iV _=>its.length-(intOf iV).toNat)
 case atStart=>exact⟨0,Nat.zero_le _,rfl,fun a b h=>by omega,Below.refl _ _⟩
 case round =>
  obtain⟨i,hil,rfl,hpre,hbr⟩:=hrel;have HPRE:=zH hpre;have HBR:=zH hbr;clear hpre hbr
  by_cases hli:i<its.length
  ·go_wp2_with fail;go_loopw [33] (fun kV wx=>∃k:Nat,k<=its.length/\kV=.int .i64 k/\(∀b,b<k->i≠b->set.testBit i=true->set.testBit b=true->(its.getD i default).name≠(its.getD b default).name)/\zB w1 wx) (fun kV _=>its.length-(intOf kV).toNat)
   case atStart=>exact⟨0,Nat.zero_le _,rfl,fun b h=>by omega,HBR.out⟩
   case round =>
    clear HBR;obtain⟨k,hkl,rfl,hin,hbx2⟩:=hrel;have HIN2:=zH hin;have HBX2:=zH hbx2;have cS:=CS.out _ hbx2;clear hin
    by_cases hlk:k<its.length
    ·obtain⟨g,cap',e,hg,n0,-,-,-⟩:=(show zS _ _ its from HIT.out.below hbx2 zN).at i hli;simp at e;obtain⟨rfl,rfl⟩:=e;obtain⟨g',cap'',e,hg',n1,-,-,-⟩:=(show zS _ _ its from HIT.out.below hbx2 zN).at k hlk;simp at e;obtain⟨rfl,rfl⟩:=e;have hi0:(0:Int)<=(i:Int):=by omega
     have hi1:(i:Int)<(its.length:Int):=by omega
     have hk0:(0:Int)<=(k:Int):=by omega
     have hk1:(k:Int)<(its.length:Int):=by omega
     obtain⟨X,hX⟩:∃X,its.getD i default=X:=⟨_,rfl⟩;obtain⟨Y,hY⟩:∃Y,its.getD k default=Y:=⟨_,rfl⟩;rw[hX] at n0;rw[hY] at n1;have HX:=zH hX;have HY:=zH hY;obtain⟨BB,hBB⟩:∃BB:Bool,(decide (i≠k)&&(set.testBit i&&(set.testBit k&&decide (X.name=Y.name))))=BB:=⟨_,rfl⟩;have HBB:=zH hBB;have HQ1:Hid (∀n,zC 37 #[.int .i64 i,.pointer (some ⟨w.heap.size,0,none⟩)] (wr.drewN n) fun e w'=>e=.returned (.bool (set.testBit i))/\w'=wr.drewN n):=fun n=>HINS.out _ i (by omega) cS;have HQ2:Hid (∀n,zC 37 #[.int .i64 k,.pointer (some ⟨w.heap.size,0,none⟩)] (wr.drewN n) fun e w'=>e=.returned (.bool (set.testBit k))/\w'=wr.drewN n):=fun n=>HINS.out _ k (by omega) cS;clear hX hY hBB hbx2;go_upto_region 11 with fail;go_cut [61] from 36 to 61 (fun c wy=>c=.bool BB/\zB w1 wy)
     case first =>
      by_cases hik:i=k
      ·have HB:Hid (BB=false):=by show _=_;rw[<-HBB.out,decide_eq_false (by simpa using hik),Bool.false_and]
       have hd:((i:Int) != (k:Int))=false:=by simp[hik]
       clear hik HQ1 HQ2;go_quiet (fail);go_wp2;go_meet
       case rel=>exact⟨by rw[HB.out],xd HBX2.out _⟩
      ·have hd:((i:Int) != (k:Int))=true:=by simp;omega
       have HIK:Hid (decide (i≠k)=true):=decide_eq_true hik;clear hik;cases hti:set.testBit i with
       |false =>
        have HB:Hid (BB=false):=by show _=_;rw[<-HBB.out,hti];simp
        rw[hti] at HQ1;clear hti HQ2;go_quiet (first|(go_at_call 37;refine Calls.quiet_of_same (HQ1.out _)));go_wp2;go_meet
        case rel=>exact⟨by rw[HB.out],xd HBX2.out _⟩
       |true =>
        rw[hti] at HQ1;cases htk:set.testBit k with
        |false =>
         have HB:Hid (BB=false):=by show _=_;rw[<-HBB.out,htk];simp
         rw[htk] at HQ2;clear hti htk;go_quiet (first|(go_at_call 37;refine Calls.quiet_of_same (HQ1.out _))|(go_at_call 37;refine Calls.quiet_of_same (HQ2.out _)));go_wp2;go_meet
         case rel=>exact⟨by rw[HB.out],xd HBX2.out _⟩
        |true =>
         rw[htk] at HQ2
         by_cases hnm:X.name=Y.name
         ·have HB:Hid (BB=true):=by show _=_;rw[<-HBB.out,hti,htk,HIK.out,decide_eq_true hnm];rfl
          have e1:(X.name.toList==Y.name.toList)=true:=by rw[hnm];simp
          clear hti htk hnm;go_quiet (first|(go_at_call 37;refine Calls.quiet_of_same (HQ1.out _))|(go_at_call 37;refine Calls.quiet_of_same (HQ2.out _)));go_wp2;go_meet
          case rel=>exact⟨by rw[HB.out],xd HBX2.out _⟩
         ·have HB:Hid (BB=false):=by show _=_;rw[<-HBB.out,decide_eq_false hnm];simp
          have e1:(X.name.toList==Y.name.toList)=false:=by rw[beq_eq_false_iff_ne];exact fun e=>hnm (yE e)
          clear hti htk hnm;go_quiet (first|(go_at_call 37;refine Calls.quiet_of_same (HQ1.out _))|(go_at_call 37;refine Calls.quiet_of_same (HQ2.out _)));go_wp2;go_meet
          case rel=>exact⟨by rw[HB.out],xd HBX2.out _⟩
     case rest =>
      obtain⟨rfl,hbc⟩:=hcut;have HBC:=zH hbc;clear hbc HBX2 HQ1 HQ2 cS n0 n1;cases BB with
      |true =>
       have HSF:Hid (zm its ls set=(false,-2)):=by
        refine Je ?_;have hb:=HBB.out;simp only[Bool.and_eq_true,decide_eq_true_eq] at hb;cases hsb:qh its set with
        |false=>rfl
        |true =>have:=(HSI.out.1 hsb).2 i k hli hlk hb.1 hb.2.1 hb.2.2.1;rw[HX.out,HY.out] at this;exact absurd hb.2.2.2 this
       have HB9:Hid (zB w wc):=zT HB1.out HBC.out;clear HBC;go_wp2;go_ret2;exact⟨by rw[HSF.out];rfl,HB9.out⟩
      |false =>
       have HNX:Hid (∀b,b<k+1->i≠b->set.testBit i=true->set.testBit b=true->(its.getD i default).name≠(its.getD b default).name):=fun b hb h1 h2 h3=>by
        rcases Nat.lt_succ_iff_lt_or_eq.1 hb with e|e
        ·exact HIN2.out b e h1 h2 h3
        ·subst e;rw[HX.out,HY.out];intro hn;have hb:=HBB.out;rw[decide_eq_true h1,h2,h3,decide_eq_true hn] at hb;cases hb
       go_wp2;go_roundw
       case rel=>exact⟨k+1,hlk,by go_num,HNX.out,HBC.out⟩
       case measure=>simp[intOf];omega
    ·obtain rfl:k=its.length:=by omega
     have HNX:Hid (∀a b,a<i+1->b<its.length->a≠b->set.testBit a=true->set.testBit b=true->(its.getD a default).name≠(its.getD b default).name):=fun a b ha hb h1 h2 h3=>by
      rcases Nat.lt_succ_iff_lt_or_eq.1 ha with e|e
      ·exact HPRE.out a b e hb h1 h2 h3
      ·subst e;exact HIN2.out b hb h1 h2 h3
     clear hbx2 cS;go_wp2;go_roundw
     case rel=>exact⟨i+1,hli,by go_num,HNX.out,HBX2.out⟩
     case measure=>simp[intOf];omega
  ·obtain rfl:i=its.length:=by omega
   obtain⟨w3,hw3⟩:∃w3,w3=wr:=⟨wr,rfl⟩;subst hw3;have HSF:Hid (zm its ls set=QN (xL its ls set)):=zgf (HSI.out.2 ⟨HLT2.out,fun a b ha hb h1 h2 h3=>HPRE.out a b ha hb h1 h2 h3⟩);have HR2:=zH (HR1.out.below HBR.out zN);have HB2:Hid (zB w w3):=zT HB1.out HBR.out;have CS2:Hid (∀W,zB w3 W->W.cell? ⟨w.heap.size,0,none⟩=some (.int .u64 set)):=fun W hb=>CS.out W (zT HBR.out hb);have HIT2:Hid (zS w3 (.slice ia its.length ic) its):=HIT.out.below HBR.out zN;clear HSI HPRE HLT2 hz HR1 HB1 CS HIT HBR;go_wp2_with fail;go_loopw [66] (fun iV wx=>∃i:Nat,i<=ls.length/\iV=.int .i64 i/\xS its ls set i/\zB w3 wx) (fun iV _=>ls.length-(intOf iV).toNat)
   case atStart=>exact⟨0,Nat.zero_le _,rfl,fun j hj=>by omega,Below.refl _ _⟩
   case round =>
    obtain⟨i,hil2,rfl,hall,hbr⟩:=hrel;have HALL:=zH hall;clear hall
    by_cases hlt:i<ls.length
    ·have hii0:(0:Int)<=(i:Int):=by omega
     have hii1:(i:Int)<(ls.length:Int):=by omega
     obtain⟨g,cap',ra,rc,e,hg,hns,hrg,c0,c1,c2,c3,c4,c5,c6⟩:=(HR2.out.below hbr zN).at i hlt;simp at e;obtain⟨rfl,rfl⟩:=e;have HXM:=zH (Zh ls i hlt);obtain⟨x,hxe⟩:∃x,ls.getD i default=x:=⟨_,rfl⟩;rw[hxe] at hns hrg c0 c1 c2 c3 c4 c5 c6 HXM;have HXE:=zH hxe;have hb6:=qE wr (.cells #[.int .i64 x.kind,.string x.name,.int .i64 x.a,.int .i64 x.b,.int .i64 x.c,.string x.other,.slice ra (tp x.rng).length rc] 59);have kx:=Blk.new wr 59 #[.int .i64 x.kind,.string x.name,.int .i64 x.a,.int .i64 x.b,.int .i64 x.c,.string x.other,.slice ra (tp x.rng).length rc];have HB6:Hid (zB w3 (wr.alloc (.cells #[.int .i64 x.kind,.string x.name,.int .i64 x.a,.int .i64 x.b,.int .i64 x.c,.string x.other,.slice ra (tp x.rng).length rc] 59))):=zT hbr hb6;have HNS:=zH (hns.below hb6 zN);clear hns hxe hb6 hbr;go_upto_region 18 with fail;generalize wr.alloc (.cells #[.int .i64 x.kind,.string x.name,.int .i64 x.a,.int .i64 x.b,.int .i64 x.c,.string x.other,.slice ra (tp x.rng).length rc] 59)=W6 at *;generalize wr.heap.size=bx at *;clear c0 c1 c2 c3 c4 c5 c6 hg;have x0:_=some (Value.int .i64 x.kind):=kx.cell 0;have x1:_=some (Value.string x.name):=kx.cell 1;have x2:_=some (Value.int .i64 x.a):=kx.cell 2;have x3:_=some (Value.int .i64 x.b):=kx.cell 3;have x4:_=some (Value.int .i64 x.c):=kx.cell 4;have x5:_=some (Value.string x.other):=kx.cell 5;have x6:_=some (Value.slice ra (tp x.rng).length rc):=kx.cell 6;have hxl:=kx.lt;have XS:Hid (∀W,zB W6 W->Blk W bx 59 #[.int .i64 x.kind,.string x.name,.int .i64 x.a,.int .i64 x.b,.int .i64 x.c,.string x.other,.slice ra (tp x.rng).length rc]):=fun W hb=>kx.below hb hxl;clear kx;have HKI:=zH (zec its x set)
     by_cases h4:x.kind=4
     ·have hk:=h4;clear h4;rw[hk] at x0;have HAM0:=ZS its x.name x.rng hrg (.slice ia its.length ic) (.slice ra (tp x.rng).length rc) W6 (HIT2.out.below HB6.out zN) (by omega) HNS.out;rw[HRA.out] at HAM0;have HAL:=zH (xF its x.name x.rng);have hal:=Zl its x.name x.rng;rw[if_pos hk] at HKI;obtain⟨A,hA⟩:∃A,zO its x.name x.rng=A:=⟨_,rfl⟩;rw[hA] at HAM0 HAL hal HKI;have HAM:=zH HAM0;clear hA HAM0;have HK:=zH hk;clear hk;go_wp2_with fail;refine HAM.out.mono ?_;rintro e w7 ⟨v7,rfl,hown,hb7⟩;obtain⟨aa,ac,rfl,-⟩:=qm hown;have HINT:Hid (zW w7 aa (zq A)):=yd (B:=W6.heap.size) (c:=ac) (by rw[zz];exact hown);have HB7:Hid (zB w3 w7):=zT HB6.out hb7;have X7:=zH (XS.out w7 hb7);clear hown hb7 HAM HB6 XS HNS x0 x1 x2 x3 x4 x5 x6;go_wp2_with fail;go_loopw [13,84] (fun sV jV wy=>∃j:Nat,j<=A.length/\jV=.int .i64 j/\sV=.bool (qx set (A.take j))/\wy=w7) (fun _ jV _=>A.length-(intOf jV).toNat)
      case atStart=>exact⟨0,Nat.zero_le _,rfl,rfl,rfl⟩
      case round =>
       obtain⟨j,hjl,rfl,rfl,rfl⟩:=hrel;have cS:=CS2.out _ HB7.out
       by_cases hlj:j<A.length
       ·obtain⟨ad,rfl,had,ca⟩:=HINT.out j (by rw[zz];exact hlj);rw[yS A j hlj] at ca;have hxA:=HAL.out _ (yw A j hlj);have HTK:=zH (QK set A j hlj);have hj0:(0:Int)<=(j:Int):=by omega
        have hj1:(j:Int)<(A.length:Int):=by omega
        obtain⟨y,hy⟩:∃y,A.getD j 0=y:=⟨_,rfl⟩;rw[hy] at ca hxA HTK;have HQ:=zH (HINS.out _ y (by omega) cS);obtain⟨ab,ao,asp⟩:=ad;clear hy;cases hso:qx set (A.take j) with
        |true =>
         rw[hso,Bool.true_or] at HTK;clear hso HQ;go_wp2;go_roundw
         case rel=>exact⟨j+1,hlj,by go_num,by rw[HTK.out],by first|rfl|trivial⟩
         case measure=>simp[intOf];omega
        |false =>
         rw[hso,Bool.false_or] at HTK;clear hso;go_wp2_with fail;refine HQ.out.mono ?_;rintro e w8 ⟨rfl,rfl⟩;clear HQ;go_wp2;go_roundw
         case rel=>exact⟨j+1,hlj,by go_num,by rw[HTK.out],by first|rfl|trivial⟩
         case measure=>simp[intOf];omega
       ·obtain rfl:j=A.length:=by omega
        rw[List.take_length];have x0:_=some (Value.int .i64 x.kind):=X7.out.cell 0;have x1:_=some (Value.string x.name):=X7.out.cell 1;have x2:_=some (Value.int .i64 x.a):=X7.out.cell 2;have x3:_=some (Value.int .i64 x.b):=X7.out.cell 3;have x4:_=some (Value.int .i64 x.c):=X7.out.cell 4;have HNM:=zH (ZG its x.it (.slice ia its.length ic) wr (HIT2.out.below HB7.out zN) (by omega));generalize zJ its x.it=NN at *;go_wp2_with fail;refine HNM.out.mono ?_;rintro e w9 ⟨rfl,hb9⟩;have k9:=X7.out.below hb9 X7.out.lt;have y0:_=some (Value.int .i64 x.kind):=k9.cell 0;have HB9:Hid (zB w3 w9):=zT HB7.out hb9;have cS9:=CS2.out _ HB9.out;clear hb9 HNM X7 k9 HB7 x0 x1 x2 x3 x4 cS HINT;rw[HK.out] at y0;cases hso:qx set A with
        |true =>
         have HKE:Hid (zZ its x set=true):=by show _=_;rw[HKI.out,hso]
         clear hso HKI;have HNX:Hid (xS its ls set (i+1)):=fun q hq=>by
          rcases Nat.lt_succ_iff_lt_or_eq.1 hq with e|e
          ·exact HALL.out q e
          ·rw[e,HXE.out];exact HKE.out
         go_wp2;go_roundw
         case rel=>exact⟨i+1,hlt,by go_num,HNX.out,HB9.out⟩
         case measure=>simp[intOf];omega
        |false =>
         have HKE:Hid (zZ its x set=false):=by show _=_;rw[HKI.out,hso]
         clear hso HKI;have HBD:Hid (zm its ls set=(false,(i:Int))):=by show _=_;rw[HSF.out,Yb hlt HALL.out (by rw[HXE.out];exact HKE.out)];rfl
         have HB8:Hid (zB w w9):=zT HB2.out HB9.out;go_wp2;go_ret2;exact⟨by rw[HBD.out];rfl,HB8.out⟩
     ·by_cases h2:x.kind=2
      ·have hk:=h2;clear h2;rw[hk] at x0;have HAM0:=ZS its x.other x.rng hrg (.slice ia its.length ic) (.slice ra (tp x.rng).length rc) W6 (HIT2.out.below HB6.out zN) (by omega) HNS.out;rw[HRA.out] at HAM0;have HAL:=zH (xF its x.other x.rng);have hal:=Zl its x.other x.rng;obtain⟨ho1,ho2⟩:=HOW.out x HXM.out (Or.inl hk);rw[if_neg (by omega),if_pos hk] at HKI;obtain⟨A,hA⟩:∃A,zO its x.other x.rng=A:=⟨_,rfl⟩;rw[hA] at HAM0 HAL hal HKI;have HAM:=zH HAM0;clear hA HAM0;have HK:=zH hk;clear hk;go_wp2_with fail;refine HAM.out.mono ?_;rintro e w7 ⟨v7,rfl,hown,hb7⟩;obtain⟨aa,ac,rfl,-⟩:=qm hown;have HINT:Hid (zW w7 aa (zq A)):=yd (B:=W6.heap.size) (c:=ac) (by rw[zz];exact hown);have HB7:Hid (zB w3 w7):=zT HB6.out hb7;have X7:=zH (XS.out w7 hb7);clear hown hb7 HAM HB6 XS HNS x0 x1 x2 x3 x4 x5 x6;go_wp2_with fail;go_loopw [13,84] (fun sV jV wy=>∃j:Nat,j<=A.length/\jV=.int .i64 j/\sV=.bool (qx set (A.take j))/\wy=w7) (fun _ jV _=>A.length-(intOf jV).toNat)
       case atStart=>exact⟨0,Nat.zero_le _,rfl,rfl,rfl⟩
       case round =>
        obtain⟨j,hjl,rfl,rfl,rfl⟩:=hrel;have cS:=CS2.out _ HB7.out
        by_cases hlj:j<A.length
        ·obtain⟨ad,rfl,had,ca⟩:=HINT.out j (by rw[zz];exact hlj);rw[yS A j hlj] at ca;have hxA:=HAL.out _ (yw A j hlj);have HTK:=zH (QK set A j hlj);have hj0:(0:Int)<=(j:Int):=by omega
         have hj1:(j:Int)<(A.length:Int):=by omega
         obtain⟨y,hy⟩:∃y,A.getD j 0=y:=⟨_,rfl⟩;rw[hy] at ca hxA HTK;have HQ:=zH (HINS.out _ y (by omega) cS);obtain⟨ab,ao,asp⟩:=ad;clear hy;cases hso:qx set (A.take j) with
         |true =>
          rw[hso,Bool.true_or] at HTK;clear hso HQ;go_wp2;go_roundw
          case rel=>exact⟨j+1,hlj,by go_num,by rw[HTK.out],by first|rfl|trivial⟩
          case measure=>simp[intOf];omega
         |false =>
          rw[hso,Bool.false_or] at HTK;clear hso;go_wp2_with fail;refine HQ.out.mono ?_;rintro e w8 ⟨rfl,rfl⟩;clear HQ;go_wp2;go_roundw
          case rel=>exact⟨j+1,hlj,by go_num,by rw[HTK.out],by first|rfl|trivial⟩
          case measure=>simp[intOf];omega
        ·obtain rfl:j=A.length:=by omega
         rw[List.take_length];have x0:_=some (Value.int .i64 x.kind):=X7.out.cell 0;have x1:_=some (Value.string x.name):=X7.out.cell 1;have x2:_=some (Value.int .i64 x.a):=X7.out.cell 2;have x3:_=some (Value.int .i64 x.b):=X7.out.cell 3;have x4:_=some (Value.int .i64 x.c):=X7.out.cell 4;have HNM:=zH (ZG its x.it (.slice ia its.length ic) wr (HIT2.out.below HB7.out zN) (by omega));rw[ho1] at HNM;clear ho1;go_wp2_with fail;refine HNM.out.mono ?_;rintro e w9 ⟨rfl,hb9⟩;have k9:=X7.out.below hb9 X7.out.lt;have y0:_=some (Value.int .i64 x.kind):=k9.cell 0;have HB9:Hid (zB w3 w9):=zT HB7.out hb9;have cS9:=CS2.out _ HB9.out;clear hb9 HNM X7 k9 HB7 x0 x1 x2 x3 x4 cS HINT;rw[HK.out] at y0;have HQ:=zH (HINS.out _ (zi its x) (by omega) cS9);cases hto:set.testBit (zi its x) with
         |false =>
          have HKE:Hid (zZ its x set=true):=by show _=_;rw[HKI.out,hto];simp
          rw[hto] at HQ;clear hto HKI;generalize zi its x=oo at *;generalize qx set A=SO at *;go_wp2_with fail;refine HQ.out.mono ?_;rintro e w10 ⟨rfl,rfl⟩;clear HQ;have HNX:Hid (xS its ls set (i+1)):=fun q hq=>by
           rcases Nat.lt_succ_iff_lt_or_eq.1 hq with e|e
           ·exact HALL.out q e
           ·rw[e,HXE.out];exact HKE.out
          go_wp2;go_roundw
          case rel=>exact⟨i+1,hlt,by go_num,HNX.out,HB9.out⟩
          case measure=>simp[intOf];omega
         |true =>
          rw[hto] at HQ;cases hso:qx set A with
          |true =>
           have HKE:Hid (zZ its x set=true):=by show _=_;rw[HKI.out,hto,hso];rfl
           clear hto hso HKI;generalize zi its x=oo at *;go_wp2_with fail;refine HQ.out.mono ?_;rintro e w10 ⟨rfl,rfl⟩;clear HQ;have HNX:Hid (xS its ls set (i+1)):=fun q hq=>by
            rcases Nat.lt_succ_iff_lt_or_eq.1 hq with e|e
            ·exact HALL.out q e
            ·rw[e,HXE.out];exact HKE.out
           go_wp2;go_roundw
           case rel=>exact⟨i+1,hlt,by go_num,HNX.out,HB9.out⟩
           case measure=>simp[intOf];omega
          |false =>
           have HKE:Hid (zZ its x set=false):=by show _=_;rw[HKI.out,hto,hso];rfl
           clear hto hso HKI;generalize zi its x=oo at *;go_wp2_with fail;refine HQ.out.mono ?_;rintro e w10 ⟨rfl,rfl⟩;clear HQ;have HBD:Hid (zm its ls set=(false,(i:Int))):=by show _=_;rw[HSF.out,Yb hlt HALL.out (by rw[HXE.out];exact HKE.out)];rfl
           have HB8:Hid (zB w w10):=zT HB2.out HB9.out;go_wp2;go_ret2;exact⟨by rw[HBD.out];rfl,HB8.out⟩
      ·by_cases h3:x.kind=3
       ·have hk:=h3;clear h3;rw[hk] at x0;have HAM0:=ZS its x.other x.rng hrg (.slice ia its.length ic) (.slice ra (tp x.rng).length rc) W6 (HIT2.out.below HB6.out zN) (by omega) HNS.out;rw[HRA.out] at HAM0;have HAL:=zH (xF its x.other x.rng);have hal:=Zl its x.other x.rng;obtain⟨ho1,ho2⟩:=HOW.out x HXM.out (Or.inr hk);rw[if_neg (by omega),if_neg (by omega),if_pos hk] at HKI;obtain⟨A,hA⟩:∃A,zO its x.other x.rng=A:=⟨_,rfl⟩;rw[hA] at HAM0 HAL hal HKI;have HAM:=zH HAM0;clear hA HAM0;have HK:=zH hk;clear hk;go_wp2_with fail;refine HAM.out.mono ?_;rintro e w7 ⟨v7,rfl,hown,hb7⟩;obtain⟨aa,ac,rfl,-⟩:=qm hown;have HINT:Hid (zW w7 aa (zq A)):=yd (B:=W6.heap.size) (c:=ac) (by rw[zz];exact hown);have HB7:Hid (zB w3 w7):=zT HB6.out hb7;have X7:=zH (XS.out w7 hb7);clear hown hb7 HAM HB6 XS HNS x0 x1 x2 x3 x4 x5 x6;go_wp2_with fail;go_loopw [13,84] (fun sV jV wy=>∃j:Nat,j<=A.length/\jV=.int .i64 j/\sV=.bool (qx set (A.take j))/\wy=w7) (fun _ jV _=>A.length-(intOf jV).toNat)
        case atStart=>exact⟨0,Nat.zero_le _,rfl,rfl,rfl⟩
        case round =>
         obtain⟨j,hjl,rfl,rfl,rfl⟩:=hrel;have cS:=CS2.out _ HB7.out
         by_cases hlj:j<A.length
         ·obtain⟨ad,rfl,had,ca⟩:=HINT.out j (by rw[zz];exact hlj);rw[yS A j hlj] at ca;have hxA:=HAL.out _ (yw A j hlj);have HTK:=zH (QK set A j hlj);have hj0:(0:Int)<=(j:Int):=by omega
          have hj1:(j:Int)<(A.length:Int):=by omega
          obtain⟨y,hy⟩:∃y,A.getD j 0=y:=⟨_,rfl⟩;rw[hy] at ca hxA HTK;have HQ:=zH (HINS.out _ y (by omega) cS);obtain⟨ab,ao,asp⟩:=ad;clear hy;cases hso:qx set (A.take j) with
          |true =>
           rw[hso,Bool.true_or] at HTK;clear hso HQ;go_wp2;go_roundw
           case rel=>exact⟨j+1,hlj,by go_num,by rw[HTK.out],by first|rfl|trivial⟩
           case measure=>simp[intOf];omega
          |false =>
           rw[hso,Bool.false_or] at HTK;clear hso;go_wp2_with fail;refine HQ.out.mono ?_;rintro e w8 ⟨rfl,rfl⟩;clear HQ;go_wp2;go_roundw
           case rel=>exact⟨j+1,hlj,by go_num,by rw[HTK.out],by first|rfl|trivial⟩
           case measure=>simp[intOf];omega
         ·obtain rfl:j=A.length:=by omega
          rw[List.take_length];have x0:_=some (Value.int .i64 x.kind):=X7.out.cell 0;have x1:_=some (Value.string x.name):=X7.out.cell 1;have x2:_=some (Value.int .i64 x.a):=X7.out.cell 2;have x3:_=some (Value.int .i64 x.b):=X7.out.cell 3;have x4:_=some (Value.int .i64 x.c):=X7.out.cell 4;have HNM:=zH (ZG its x.it (.slice ia its.length ic) wr (HIT2.out.below HB7.out zN) (by omega));rw[ho1] at HNM;clear ho1;go_wp2_with fail;refine HNM.out.mono ?_;rintro e w9 ⟨rfl,hb9⟩;have k9:=X7.out.below hb9 X7.out.lt;have y0:_=some (Value.int .i64 x.kind):=k9.cell 0;have HB9:Hid (zB w3 w9):=zT HB7.out hb9;have cS9:=CS2.out _ HB9.out;clear hb9 HNM X7 k9 HB7 x0 x1 x2 x3 x4 cS HINT;rw[HK.out] at y0;have HQ:=zH (HINS.out _ (zi its x) (by omega) cS9);cases hto:set.testBit (zi its x) with
          |false =>
           have HKE:Hid (zZ its x set=true):=by show _=_;rw[HKI.out,hto];simp
           rw[hto] at HQ;clear hto HKI;generalize zi its x=oo at *;generalize qx set A=SO at *;go_wp2_with fail;refine HQ.out.mono ?_;rintro e w10 ⟨rfl,rfl⟩;clear HQ;have HNX:Hid (xS its ls set (i+1)):=fun q hq=>by
            rcases Nat.lt_succ_iff_lt_or_eq.1 hq with e|e
            ·exact HALL.out q e
            ·rw[e,HXE.out];exact HKE.out
           go_wp2;go_roundw
           case rel=>exact⟨i+1,hlt,by go_num,HNX.out,HB9.out⟩
           case measure=>simp[intOf];omega
          |true =>
           rw[hto] at HQ;cases hso:qx set A with
           |true =>
            have HKE:Hid (zZ its x set=false):=by show _=_;rw[HKI.out,hto,hso];rfl
            clear hto hso HKI;generalize zi its x=oo at *;go_wp2_with fail;refine HQ.out.mono ?_;rintro e w10 ⟨rfl,rfl⟩;clear HQ;have HBD:Hid (zm its ls set=(false,(i:Int))):=by show _=_;rw[HSF.out,Yb hlt HALL.out (by rw[HXE.out];exact HKE.out)];rfl
            have HB8:Hid (zB w w10):=zT HB2.out HB9.out;go_wp2;go_ret2;exact⟨by rw[HBD.out];rfl,HB8.out⟩
           |false =>
            have HKE:Hid (zZ its x set=true):=by show _=_;rw[HKI.out,hto,hso];rfl
            clear hto hso HKI;generalize zi its x=oo at *;go_wp2_with fail;refine HQ.out.mono ?_;rintro e w10 ⟨rfl,rfl⟩;clear HQ;have HNX:Hid (xS its ls set (i+1)):=fun q hq=>by
             rcases Nat.lt_succ_iff_lt_or_eq.1 hq with e|e
             ·exact HALL.out q e
             ·rw[e,HXE.out];exact HKE.out
            go_wp2;go_roundw
            case rel=>exact⟨i+1,hlt,by go_num,HNX.out,HB9.out⟩
            case measure=>simp[intOf];omega
       ·have HAM0:=ZS its x.other x.rng hrg (.slice ia its.length ic) (.slice ra (tp x.rng).length rc) W6 (HIT2.out.below HB6.out zN) (by omega) HNS.out;rw[HRA.out] at HAM0;have HAL:=zH (xF its x.other x.rng);have hal:=Zl its x.other x.rng;rw[if_neg h4,if_neg h2,if_neg h3] at HKI;obtain⟨A,hA⟩:∃A,zO its x.other x.rng=A:=⟨_,rfl⟩;rw[hA] at HAM0 HAL hal;have HAM:=zH HAM0;clear hA HAM0;go_wp2_with fail;refine HAM.out.mono ?_;rintro e w7 ⟨v7,rfl,hown,hb7⟩;obtain⟨aa,ac,rfl,-⟩:=qm hown;have HINT:Hid (zW w7 aa (zq A)):=yd (B:=W6.heap.size) (c:=ac) (by rw[zz];exact hown);have HB7:Hid (zB w3 w7):=zT HB6.out hb7;have X7:=zH (XS.out w7 hb7);clear hown hb7 HAM HB6 XS HNS x0 x1 x2 x3 x4 x5 x6;go_wp2_with fail;go_loopw [13,84] (fun sV jV wy=>∃j:Nat,j<=A.length/\jV=.int .i64 j/\sV=.bool (qx set (A.take j))/\wy=w7) (fun _ jV _=>A.length-(intOf jV).toNat)
        case atStart=>exact⟨0,Nat.zero_le _,rfl,rfl,rfl⟩
        case round =>
         obtain⟨j,hjl,rfl,rfl,rfl⟩:=hrel;have cS:=CS2.out _ HB7.out
         by_cases hlj:j<A.length
         ·obtain⟨ad,rfl,had,ca⟩:=HINT.out j (by rw[zz];exact hlj);rw[yS A j hlj] at ca;have hxA:=HAL.out _ (yw A j hlj);have HTK:=zH (QK set A j hlj);have hj0:(0:Int)<=(j:Int):=by omega
          have hj1:(j:Int)<(A.length:Int):=by omega
          obtain⟨y,hy⟩:∃y,A.getD j 0=y:=⟨_,rfl⟩;rw[hy] at ca hxA HTK;have HQ:=zH (HINS.out _ y (by omega) cS);obtain⟨ab,ao,asp⟩:=ad;clear hy;cases hso:qx set (A.take j) with
          |true =>
           rw[hso,Bool.true_or] at HTK;clear hso HQ;go_wp2;go_roundw
           case rel=>exact⟨j+1,hlj,by go_num,by rw[HTK.out],by first|rfl|trivial⟩
           case measure=>simp[intOf];omega
          |false =>
           rw[hso,Bool.false_or] at HTK;clear hso;go_wp2_with fail;refine HQ.out.mono ?_;rintro e w8 ⟨rfl,rfl⟩;clear HQ;go_wp2;go_roundw
           case rel=>exact⟨j+1,hlj,by go_num,by rw[HTK.out],by first|rfl|trivial⟩
           case measure=>simp[intOf];omega
         ·obtain rfl:j=A.length:=by omega
          rw[List.take_length];have x0:_=some (Value.int .i64 x.kind):=X7.out.cell 0;have x1:_=some (Value.string x.name):=X7.out.cell 1;have x2:_=some (Value.int .i64 x.a):=X7.out.cell 2;have x3:_=some (Value.int .i64 x.b):=X7.out.cell 3;have x4:_=some (Value.int .i64 x.c):=X7.out.cell 4;have HNM:=zH (ZG its x.it (.slice ia its.length ic) wr (HIT2.out.below HB7.out zN) (by omega));generalize zJ its x.it=NN at *;go_wp2_with fail;refine HNM.out.mono ?_;rintro e w9 ⟨rfl,hb9⟩;have k9:=X7.out.below hb9 X7.out.lt;have y0:_=some (Value.int .i64 x.kind):=k9.cell 0;have HB9:Hid (zB w3 w9):=zT HB7.out hb9;have cS9:=CS2.out _ HB9.out;clear hb9 HNM X7 k9 HB7 x0 x1 x2 x3 x4 cS HINT;have HKE:Hid (zZ its x set=true):=HKI;generalize qx set A=SO at *;have HNX:Hid (xS its ls set (i+1)):=fun q hq=>by
           rcases Nat.lt_succ_iff_lt_or_eq.1 hq with e|e
           ·exact HALL.out q e
           ·rw[e,HXE.out];exact HKE.out
          go_wp2;go_roundw
          case rel=>exact⟨i+1,hlt,by go_num,HNX.out,HB9.out⟩
          case measure=>simp[intOf];omega
    ·obtain rfl:i=ls.length:=by omega
     have HBD:Hid (zm its ls set=(true,-1)):=by show _=_;rw[HSF.out,XW HALL.out];rfl
     have HB8:Hid (zB w wr):=zT HB2.out hbr;clear hbr;go_wp2;go_ret2;exact⟨by rw[HBD.out];rfl,HB8.out⟩
theorem zak(ls:List Ln)(its:List It)(hN:zk ls=.ok its)(set:Nat)(v:Value)(w:World)(h:RLs w v ls) :
  zR 13 #[v,.int .u64 set] w (.tuple #[.bool (zm its ls set).1,.int .i64 (zm its ls set).2]):=by
 by_cases hlt:set<2^its.length
 ·exact zd2 ls its hN set v w h hlt
 ·exact zb1 ls its hN set v w h hlt
end Go.Proofs.YtlamemjfaogjmaaGreatDoor
