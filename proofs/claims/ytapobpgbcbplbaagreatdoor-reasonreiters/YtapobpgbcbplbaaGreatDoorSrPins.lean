/- partialInsertionSortOrdered. -/
import Derived.Test.YtapobpgbcbplbaaGreatDoorSrPart
set_option maxHeartbeats 4000000
set_option maxRecDepth 100000
namespace Go.Proofs.YtapobpgbcbplbaaGreatDoor.Sr
open Go.RowKit Go.Maps Go.Proofs.YtapobpgbcbplbaaGreatDoor.Bd Go.Proofs.YtapobpgbcbplbaaGreatDoor.Fm Go.Sort
section
variable {d dk:Array Int} {a b pivot i j i2 j2:Nat}
theorem zlX{J:Nat}{p q:Bool}(h1:false=(decide (i<=J)&&!p))(h2:false=(decide (i<=j)&&q))(hpq:i=j->p=q)(hij:i<=j)(hjJ:j<=J):¬i=j:=fun e=>by
 rw[decide_eq_true (by omega:i<=J),Bool.true_and] at h1;rw[decide_eq_true hij,Bool.true_and] at h2;rw[hpq e,<-h2] at h1;cases h1
theorem zmk(hi:scanUp (fun x=>!ltInt dk[a]! x) dk j i=i2)(hj:scanDown (fun x=>ltInt dk[a]! x) dk i2 j=j2)(h:j2<i2):partEqLoop ltInt a i j dk=(i2,dk):=by
 rw[partEqLoop];rw[hi,hj,if_pos h]
theorem zj2(hi:scanUp (fun x=>!ltInt dk[a]! x) dk j i=i2)(hj:scanDown (fun x=>ltInt dk[a]! x) dk i2 j=j2)(h:i2<=j2)(h1:i<=i2)(h2:j2<=j)(h3:0<j2):partEqLoop ltInt a i j dk=partEqLoop ltInt a (i2+1) (j2-1) (swp dk i2 j2):=by
 rw[partEqLoop];rw[hi,hj,if_neg (by omega),dif_pos (by omega)]
end
theorem zh8(g cap:Nat)(d:Array Int)(a b pivot:Nat)(w:World)(h:UR w g d)(hap:a<=pivot)(hpb:pivot<b)(hb:b<=d.size)(hsz:d.size<=1000000) :
  zC 134 #[.slice (some ⟨g,0,none⟩) d.size cap,.int .i64 a,.int .i64 b,.int .i64 pivot] w fun e w'=>e=.returned (.int .i64 ((partitionEqual ltInt d a b pivot).1:Int))/\UR w' g (partitionEqual ltInt d a b pivot).2/\KG g w w':=by
 have h0:=zH h;obtain⟨n,hn⟩:∃n,n=d.size:=⟨_,rfl⟩;have HK0:Hid (KG g w w):=zc.refl _ _;rw[<-hn] at hb hsz ⊢;have hdsz:=zH hn;obtain⟨J0,hJ0⟩:∃J0,J0=b-1:=⟨_,rfl⟩;have hJl:J0+1=b/\a<b:=by omega
 have HPE:Hid (partitionEqual ltInt d a b pivot=partEqLoop ltInt a (a+1) J0 (swp d a pivot)):=by rw[hJ0];exact rfl
 obtain⟨R0,hR0⟩:∃R0,R0=partEqLoop ltInt a (a+1) J0 (swp d a pivot):=⟨_,rfl⟩;rw[HPE.out,<-hR0];have HR0:=zH hR0;clear h hn hJ0 hR0 HPE;go_enter Tryz.func134,Tryz.ntmps134;go_upto_region 1 with fail;go_cut [] (fun wx=>UR wx g (swp d a pivot)/\KG g w wx)
 case first =>
  have bi:a<(d:Array Int).size/\pivot<(d:Array Int).size:=(⟨by have:=hdsz.out;omega,by have:=hdsz.out;omega⟩:a<(d:Array Int).size/\pivot<(d:Array Int).size);have hU:=h0.out;have hK:=HK0.out;have cx:=hU.cell a bi.1;have cy:=hU.cell pivot bi.2;have fx:=hU.froz a bi.1;have fy:=hU.froz pivot bi.2;obtain⟨x,hx⟩:∃x,x=(d:Array Int)[a]! := ⟨_,rfl⟩;obtain⟨y,hy⟩:∃y,y=(d:Array Int)[pivot]! := ⟨_,rfl⟩;have HSW:=zH (hU.swp (i:=a) (j:=pivot) bi.1 bi.2 hx hy).drew;have HSK:=zH (hK.trans (KG.swp (g:=g) w a pivot (.int .u64 y) (.int .u64 x))).drew;have i1:(a:Int)<(n:Int):=by have:=(⟨by have:=hdsz.out;omega,by have:=hdsz.out;omega⟩:a<(d:Array Int).size/\pivot<(d:Array Int).size);have:=hdsz.out;omega
  have i2:(pivot:Int)<(n:Int):=by have:=(⟨by have:=hdsz.out;omega,by have:=hdsz.out;omega⟩:a<(d:Array Int).size/\pivot<(d:Array Int).size);have:=hdsz.out;omega
  by_cases hij:a=pivot
  ·have hxy:x=y:=by rw[hx,hy,hij]
   have HSW2:Hid (UR ((w.setCell ⟨g,pivot,none⟩ (.int .u64 y)).setCell ⟨g,pivot,none⟩ (.int .u64 y)).drew g (swp d a pivot)/\KG g w ((w.setCell ⟨g,pivot,none⟩ (.int .u64 y)).setCell ⟨g,pivot,none⟩ (.int .u64 y)).drew):=by
    have h1:=HSW.out;have h2:=HSK.out;rw[hxy,hij] at h1 h2;rw[hij];exact⟨h1,h2⟩
   rw[<-hy] at cy;clear hU hK hx hy cx fx hxy HSW HSK;go_wp2_with fail;go_region;go_wp2_with fail;go_meet
   case rel=>exact HSW2.out
  ·rw[<-hx] at cx;rw[<-hy] at cy;clear hU hK hx hy;go_wp2_with fail;go_region;go_wp2_with fail;go_meet
   case rel=>exact⟨HSW.out,HSK.out⟩
 case rest =>
  obtain⟨Y1,hY⟩:∃Y,Y=wc:=⟨_,rfl⟩;subst hY;obtain⟨hU,hK⟩:=hcut;have HU2:=zH hU;have HK3:=zH hK;clear hU hK h0 HK0;obtain⟨d1,hd1⟩:∃d1,d1=swp d a pivot:=⟨_,rfl⟩;have hds2:Hid (d1.size=n):=by show _=_;rw[hd1,qP];exact hdsz.out.symm
  rw[<-hd1] at HU2 HR0;clear hd1 hdsz;go_upto_region 2 with fail;go_cut [9,10] (fun v9 v10 wx=>v9=.int .i64 ((a+1:Nat):Int)/\v10=.int .i64 ((J0:Nat):Int)/\UR wx g d1/\KG g w wx)
  case first =>
   have hU:=HU2;have hK:=HK3;clear HU2 HK3;go_wp2_with fail;go_meet
   case rel=>exact⟨(by first|rfl|(congr 1;omega)|(simp;omega)),(by first|rfl|(congr 1;omega)|(simp;omega)),hU.out,hK.out⟩
  case rest =>
   obtain⟨Y4,hY⟩:∃Y,Y=wc:=⟨_,rfl⟩;subst hY;obtain⟨rfl,rfl,hU,hK⟩:=hcut;have HU5:=zH hU;have HK6:=zH hK;clear hU hK HU2 HK3;go_wp2_with fail;go_loopw [9,10] (fun iV jV wr=>∃(i3 j3:Nat) (dk:Array Int),iV=.int .i64 i3/\jV=.int .i64 j3/\a+1<=i3/\i3<=b/\a<=j3/\j3<=J0/\dk.size=n/\UR wr g dk/\KG g w wr/\partEqLoop ltInt a i3 j3 dk=R0) (fun iV jV _=>(intOf jV).toNat+1-(intOf iV).toNat)
   case atStart=>exact⟨a+1,J0,_,by first|rfl|go_num|(congr 1;omega),by first|rfl|go_num|(congr 1;omega),by omega,by omega,by omega,by omega,hds2.out,HU5.out,HK6.out,HR0.out.symm⟩
   case round =>
    obtain⟨X0,hX⟩:∃X,X=wr:=⟨_,rfl⟩;subst hX;obtain⟨i3,j3,dk,rfl,rfl,b1,b2,b3,b4,hdk,hU,hK,heq⟩:=hrel;have HUA:=zH hU;have HKA:=zH hK;have HQA:=zH heq;have hdsz:=zH hdk;clear hU hK heq hdk HU5 HK6 HR0 hds2;go_wp2_with fail;go_loopw [9] (fun iV wr=>∃i4:Nat,iV=.int .i64 i4/\i3<=i4/\i4<=b/\UR wr g dk/\KG g w wr/\scanUp (fun x=>!ltInt dk[a]! x) dk j3 i4=scanUp (fun x=>!ltInt dk[a]! x) dk j3 i3) (fun iV _=>j3+1-(intOf iV).toNat)
    case atStart=>exact⟨_,rfl,by omega,by omega,HUA.out,HKA.out,rfl⟩
    case round =>
     obtain⟨X7,hX⟩:∃X,X=wr:=⟨_,rfl⟩;subst hX;obtain⟨i4,rfl,hlo,hhi,hU,hK,heq⟩:=hrel;have HU8:=zH hU;have HK9:=zH hK;have HQ10:=zH heq;clear hU hK heq HUA HKA;obtain⟨B12,hB⟩:∃B,B=(decide (i4<=j3)&&(fun x=>!ltInt dk[a]! x) (dk:Array Int)[i4]!):=⟨_,rfl⟩;have HB:=zH hB;clear hB;go_upto_region 3 with fail;go_cut [43] (fun v wx=>v=.bool B12/\UR wx g dk/\KG g w wx)
     case first =>
      have HUN:Hid (∀m,UR (X7.drewN m) g dk):=HU8.out.drewN;have HKN:Hid (∀m,KG g w (X7.drewN m)):=HK9.out.drewN
      by_cases hij:i4<=j3
      ·have bi:i4<(dk:Array Int).size/\a<(dk:Array Int).size:=by rw[hdsz.out];omega
       have cx:=HU8.out.cell i4 bi.1;have cy:=HU8.out.cell a bi.2;have i1:(i4:Int)<(n:Int):=by have:=hdsz.out;omega
       have i2:(a:Int)<(n:Int):=by have:=hdsz.out;omega
       have i3:(i4:Int)<=(j3:Int):=by omega
       obtain⟨x,hx⟩:∃x,x=(dk:Array Int)[i4]! := ⟨_,rfl⟩;obtain⟨y,hy⟩:∃y,y=(dk:Array Int)[a]! := ⟨_,rfl⟩;have HBV:Hid (Value.bool (!decide (y<x))=.bool B12):=by
        rw[HB.out,decide_eq_true hij,Bool.true_and,hx,hy];rfl
       rw[<-hx] at cx;rw[<-hy] at cy;clear hx hy bi HB HU8 HK9 HQ10;go_wp2_with fail;go_quiet (first|(go_at_call 133;refine Calls.quiet_of_same (qR _ _ _)));go_wp2_with fail;go_meet
       case rel=>exact⟨HBV.out,HUN.out _,HKN.out _⟩
      ·have i3:decide ((i4:Int)<=(j3:Int))=false:=by simp;omega
       have HBV:Hid (Value.bool false=.bool B12):=by
        rw[HB.out,decide_eq_false hij,Bool.false_and];exact rfl
       clear HB HU8 HK9 HQ10;go_wp2_with fail;go_quiet (fail);go_wp2_with fail;go_meet
       case rel=>exact⟨HBV.out,HUN.out _,HKN.out _⟩
     case rest =>
      obtain⟨Y13,hY⟩:∃Y,Y=wc:=⟨_,rfl⟩;subst hY;obtain⟨rfl,hU,hK⟩:=hcut;have HU14:=zH hU;have HK15:=zH hK;clear hU hK HU8 HK9;cases B12 with
      |true =>
       have hij:i4<=j3:=of_decide_eq_true ((Bool.and_eq_true _ _).mp HB.out.symm).1;have HQ2:=zH ((za1 HB.out.symm).symm.trans HQ10.out);clear HB HQ10;go_wp2;go_roundw
       case rel=>first|exact⟨i4+1,by first|go_num|(congr 1;omega),by omega,by omega,HU14.out,HK15.out,HQ2.out⟩|((repeat apply Exists.intro);exact⟨⟨i4+1,by first|go_num|(congr 1;omega),by omega,by omega,HU14.out,HK15.out,HQ2.out⟩,rfl⟩)
       case measure=>first|(simp[intOf];done)|(simp[intOf];omega)
      |false =>
       have HS11:=zH (HQ10.out.symm.trans (zaB HB.out.symm));have HS11c:=HB;clear HQ10 HB;go_wp2_with fail;go_loopw [10] (fun iV wr=>∃j4:Nat,iV=.int .i64 j4/\a<=j4/\j4<=j3/\UR wr g dk/\KG g w wr/\scanDown (fun x=>ltInt dk[a]! x) dk i4 j4=scanDown (fun x=>ltInt dk[a]! x) dk i4 j3) (fun iV _=>(intOf iV).toNat)
       case atStart=>exact⟨_,rfl,by omega,by omega,HU14.out,HK15.out,rfl⟩
       case round =>
        obtain⟨X16,hX⟩:∃X,X=wr:=⟨_,rfl⟩;subst hX;obtain⟨j4,rfl,hlo,hhi,hU,hK,heq⟩:=hrel;have HU17:=zH hU;have HK18:=zH hK;have HQ19:=zH heq;clear hU hK heq HU14 HK15;obtain⟨B21,hB⟩:∃B,B=(decide (i4<=j4)&&(fun x=>ltInt dk[a]! x) (dk:Array Int)[j4]!):=⟨_,rfl⟩;have HB:=zH hB;clear hB;go_upto_region 5 with fail;go_cut [59] (fun v wx=>v=.bool B21/\UR wx g dk/\KG g w wx)
        case first =>
         have HUN:Hid (∀m,UR (X16.drewN m) g dk):=HU17.out.drewN;have HKN:Hid (∀m,KG g w (X16.drewN m)):=HK18.out.drewN
         by_cases hij:i4<=j4
         ·have bi:j4<(dk:Array Int).size/\a<(dk:Array Int).size:=by rw[hdsz.out];omega
          have cx:=HU17.out.cell j4 bi.1;have cy:=HU17.out.cell a bi.2;have i1:(j4:Int)<(n:Int):=by have:=hdsz.out;omega
          have i2:(a:Int)<(n:Int):=by have:=hdsz.out;omega
          have i3:(i4:Int)<=(j4:Int):=by omega
          obtain⟨x,hx⟩:∃x,x=(dk:Array Int)[j4]! := ⟨_,rfl⟩;obtain⟨y,hy⟩:∃y,y=(dk:Array Int)[a]! := ⟨_,rfl⟩;have HBV:Hid (Value.bool (decide (y<x))=.bool B21):=by
           rw[HB.out,decide_eq_true hij,Bool.true_and,hx,hy];rfl
          rw[<-hx] at cx;rw[<-hy] at cy;clear hx hy bi HB HU17 HK18 HQ19;go_wp2_with fail;go_quiet (first|(go_at_call 133;refine Calls.quiet_of_same (qR _ _ _)));go_wp2_with fail;go_meet
          case rel=>exact⟨HBV.out,HUN.out _,HKN.out _⟩
         ·have i3:decide ((i4:Int)<=(j4:Int))=false:=by simp;omega
          have HBV:Hid (Value.bool false=.bool B21):=by
           rw[HB.out,decide_eq_false hij,Bool.false_and];exact rfl
          clear HB HU17 HK18 HQ19;go_wp2_with fail;go_quiet (fail);go_wp2_with fail;go_meet
          case rel=>exact⟨HBV.out,HUN.out _,HKN.out _⟩
        case rest =>
         obtain⟨Y22,hY⟩:∃Y,Y=wc:=⟨_,rfl⟩;subst hY;obtain⟨rfl,hU,hK⟩:=hcut;have HU23:=zH hU;have HK24:=zH hK;clear hU hK HU17 HK18;cases B21 with
         |true =>
          have hij:i4<=j4:=of_decide_eq_true ((Bool.and_eq_true _ _).mp HB.out.symm).1;have HQ2:=zH ((zad (by omega) HB.out.symm).symm.trans HQ19.out);clear HB HQ19;go_wp2;go_roundw
          case rel=>first|exact⟨j4-1,by first|go_num|(congr 1;omega),by omega,by omega,HU23.out,HK24.out,HQ2.out⟩|((repeat apply Exists.intro);exact⟨⟨j4-1,by first|go_num|(congr 1;omega),by omega,by omega,HU23.out,HK24.out,HQ2.out⟩,rfl⟩)
          case measure=>first|(simp[intOf];done)|(simp[intOf];omega)
         |false =>
          have HS20:=zH (HQ19.out.symm.trans (zah HB.out.symm));have HS20c:=HB;clear HQ19 HB
          by_cases hgt4:j4<i4
          ·have i10:(j4:Int)<(i4:Int):=by omega
           have HRE:Hid (R0=(i4,dk)):=HQA.out.symm.trans (zmk HS11.out HS20.out hgt4);clear HQA HS11 HS20 HS11c HS20c;go_wp2;go_ret;rw[HRE.out];exact⟨rfl,HU23.out,HK24.out⟩
          ·have i10:¬(j4:Int)<(i4:Int):=by omega
           have HRE:Hid (partEqLoop ltInt a (i4+1) (j4-1) (swp dk i4 j4)=R0):=(zj2 HS11.out HS20.out (by omega) (by omega) (by omega) (by omega)).symm.trans HQA.out;have hne8:¬i4=j4:=zlX HS11c.out HS20c.out (fun e=>by rw[e]) (by omega) (by omega);clear HQA HS11 HS20 HS11c HS20c;go_upto_region 8 with fail;go_cut [] (fun wx=>UR wx g (swp dk i4 j4)/\KG g w wx)
           case first =>
            have bi:i4<(dk:Array Int).size/\j4<(dk:Array Int).size:=(⟨by have:=hdsz.out;omega,by have:=hdsz.out;omega⟩:i4<(dk:Array Int).size/\j4<(dk:Array Int).size);have hU:=HU23.out;have hK:=HK24.out;have cx:=hU.cell i4 bi.1;have cy:=hU.cell j4 bi.2;have fx:=hU.froz i4 bi.1;have fy:=hU.froz j4 bi.2;obtain⟨x,hx⟩:∃x,x=(dk:Array Int)[i4]! := ⟨_,rfl⟩;obtain⟨y,hy⟩:∃y,y=(dk:Array Int)[j4]! := ⟨_,rfl⟩;have HSW:=zH (hU.swp (i:=i4) (j:=j4) bi.1 bi.2 hx hy).drew;have HSK:=zH (hK.trans (KG.swp (g:=g) Y22 i4 j4 (.int .u64 y) (.int .u64 x))).drew;have i1:(i4:Int)<(n:Int):=by have:=(⟨by have:=hdsz.out;omega,by have:=hdsz.out;omega⟩:i4<(dk:Array Int).size/\j4<(dk:Array Int).size);have:=hdsz.out;omega
            have i2:(j4:Int)<(n:Int):=by have:=(⟨by have:=hdsz.out;omega,by have:=hdsz.out;omega⟩:i4<(dk:Array Int).size/\j4<(dk:Array Int).size);have:=hdsz.out;omega
            have hij:¬i4=j4:=hne8;rw[<-hx] at cx;rw[<-hy] at cy;clear hU hK hx hy;go_wp2_with fail;go_region;go_wp2_with fail;go_meet
            case rel=>exact⟨HSW.out,HSK.out⟩
           case rest =>
            obtain⟨Y25,hY⟩:∃Y,Y=wc:=⟨_,rfl⟩;subst hY;obtain⟨hU,hK⟩:=hcut;have HU26:=zH hU;have HK27:=zH hK;clear hU hK HU23 HK24;have hds5:Hid ((swp dk i4 j4).size=n):=by show _=_;rw[qP];exact hdsz.out
            go_wp2;go_roundw
            case rel=>first|exact⟨i4+1,j4-1,swp dk i4 j4,by first|go_num|(congr 1;omega),by first|go_num|(congr 1;omega),by omega,by omega,by omega,by omega,hds5.out,HU26.out,HK27.out,HRE.out⟩|((repeat apply Exists.intro);exact⟨⟨i4+1,j4-1,swp dk i4 j4,by first|go_num|(congr 1;omega),by first|go_num|(congr 1;omega),by omega,by omega,by omega,by omega,hds5.out,HU26.out,HK27.out,HRE.out⟩,rfl⟩)
            case measure=>first|(simp[intOf];done)|(simp[intOf];omega)
end Go.Proofs.YtapobpgbcbplbaaGreatDoor.Sr
namespace Go.Proofs.YtapobpgbcbplbaaGreatDoor.Sr
open Go.RowKit Go.Maps Go.Proofs.YtapobpgbcbplbaaGreatDoor.Bd Go.Proofs.YtapobpgbcbplbaaGreatDoor.Fm Go.Sort
section
variable {d:Array Int} {a b i j:Nat}
theorem zng(h:(decide (i<b)&&!ltInt d[i]! d[i-1]!)=true):scanSorted ltInt d b i=scanSorted ltInt d b (i+1):=by
 have e:scanSorted ltInt d b i=if (decide (i<b)&&!ltInt d[i]! d[i-1]!)=true then scanSorted ltInt d b (i+1) else i:=by rw[scanSorted]
 rw[e,if_pos h]
theorem zmt(h:(decide (i<b)&&!ltInt d[i]! d[i-1]!)=false):scanSorted ltInt d b i=i:=by
 have e:scanSorted ltInt d b i=if (decide (i<b)&&!ltInt d[i]! d[i-1]!)=true then scanSorted ltInt d b (i+1) else i:=by rw[scanSorted]
 rw[e,if_neg (by rw[h];decide)]
theorem zcF(h:0<j->ltInt d[j]! d[j-1]! = false):shiftDown ltInt j d=d:=by
 cases j with
 |zero=>rfl
 |succ m =>show (if (!ltInt d[m+1]! d[m]!)=true then d else _)=d;have:=h (by omega);simp only[Nat.add_sub_cancel] at this;rw[this];rfl
theorem zhA(hj:0<j)(h:ltInt d[j]! d[j-1]! = true):shiftDown ltInt j d=shiftDown ltInt (j-1) (swp d j (j-1)):=by
 obtain⟨m,rfl⟩:∃m,j=m+1:=⟨j-1,by omega⟩;simp only[Nat.add_sub_cancel] at h ⊢;show (if (!ltInt d[m+1]! d[m]!)=true then d else _)=_;rw[h];rfl
theorem zae(h:b<=j):shiftUp ltInt b j d=d:=by rw[shiftUp,if_neg (by omega)]
theorem zeG(h:ltInt d[j]! d[j-1]! = false):shiftUp ltInt b j d=d:=by
 rw[shiftUp];split
 ·rw[h];rfl
 ·rfl
theorem zcJ(hj:j<b)(h:ltInt d[j]! d[j-1]! = true):shiftUp ltInt b j d=shiftUp ltInt b (j+1) (swp d j (j-1)):=by
 rw[shiftUp,if_pos hj,h];rfl
theorem zbn:∀(j:Nat) (d:Array Int),(shiftDown ltInt j d).size=d.size
 |0,d=>rfl
 |j+1,d=>by
  show (if (!ltInt d[j+1]! d[j]!)=true then d else shiftDown ltInt j (swp d (j+1) j)).size=d.size;split
  ·rfl
  ·rw[zbn j,qP]
theorem zeH:∀(m j:Nat) (d:Array Int),b-j<=m->(shiftUp ltInt b j d).size=d.size
 |0,j,d,h=>by rw[zae (by omega)]
 |m+1,j,d,h=>by
  by_cases hj:j<b
  ·cases e:ltInt d[j]! d[j-1]! with
   |true=>rw[zcJ hj e,zeH m _ _ (by omega),qP]
   |false=>rw[zeG e]
  ·rw[zae (by omega)]
theorem zmK{s i2:Nat}(hi:scanSorted ltInt d b i=i2)(h:i2=b):partialIns ltInt a b (s+1) i d=(d,true):=by
 show (if scanSorted ltInt d b i=b then (d,true) else _)=_;rw[hi,if_pos h]
theorem zhu{s i2:Nat}(hi:scanSorted ltInt d b i=i2)(h:¬i2=b)(h5:b-a<50):partialIns ltInt a b (s+1) i d=(d,false):=by
 show (if scanSorted ltInt d b i=b then (d,true) else if b-a<50 then (d,false) else _)=_;rw[hi,if_neg h,if_pos h5]
theorem zga{s i2:Nat}{d1 d2 d3:Array Int}(hi:scanSorted ltInt d b i=i2)(h:¬i2=b)(h5:¬b-a<50)(e1:d1=swp d i2 (i2-1))(e2:d2=if i2-a≥2 then shiftDown ltInt (i2-1) d1 else d1)(e3:d3=if b-i2≥2 then shiftUp ltInt b (i2+1) d2 else d2) :
  partialIns ltInt a b (s+1) i d=partialIns ltInt a b s i2 d3:=by
 subst e1 e2 e3;subst hi;show (if scanSorted ltInt d b i=b then (d,true) else if b-a<50 then (d,false) else _)=_;rw[if_neg h,if_neg h5]
end
theorem zk9(g cap:Nat)(d:Array Int)(a b:Nat)(w:World)(h:UR w g d)(hab:a<b)(hb:b<=d.size)(hsz:d.size<=1000000) :
  zC 132 #[.slice (some ⟨g,0,none⟩) d.size cap,.int .i64 a,.int .i64 b] w fun e w'=>e=.returned (.bool (partialInsertionSort ltInt d a b).2)/\UR w' g (partialInsertionSort ltInt d a b).1/\KG g w w':=by
 have h0:=zH h;obtain⟨n,hn⟩:∃n,n=d.size:=⟨_,rfl⟩;obtain⟨R0,hR0⟩:∃R0,R0=partialInsertionSort ltInt d a b:=⟨_,rfl⟩;have HR0:Hid (partialIns ltInt a b 5 (a+1) d=R0):=by rw[hR0];exact rfl
 rw[<-hR0];rw[<-hn] at hb hsz ⊢;have HN:=zH hn;have w1:IntKind.i64.wrap ((a:Int)+1)=((a+1:Nat):Int):=by rw[IntKind.wrap_i64];omega
 clear h hn hR0;go_enter Tryz.func132,Tryz.ntmps132;go_wp2_with fail;go_loopw [7,8] (fun iV cV wr=>∃(i c:Nat) (dk:Array Int),iV=.int .i64 i/\cV=.int .i64 c/\c<=5/\a+1<=i/\i<=b/\dk.size=n/\UR wr g dk/\KG g w wr/\partialIns ltInt a b (5-c) i dk=R0) (fun _ cV _=>5-(intOf cV).toNat)
 case atStart=>exact⟨a+1,0,d,by first|rfl|go_num|(congr 1;omega),rfl,by omega,by omega,by omega,HN.out.symm,h0.out,zc.refl _ _,HR0.out⟩
 case round =>
  obtain⟨X0,hX⟩:∃X,X=wr:=⟨_,rfl⟩;subst hX;obtain⟨i3,c,dk,rfl,rfl,hc,b1,b2,hdk,hU,hK,heq⟩:=hrel;have HUA:=zH hU;have HKA:=zH hK;have hdsz:=zH hdk;clear hU hK hdk HR0 w1
  by_cases hc5:c<5
  ·obtain⟨s,hs⟩:∃s,5-c=s+1:=⟨4-c,by omega⟩;rw[hs] at heq;have HQA:=zH heq;have HS5:=zH hs;have ic5:(c:Int)<5:=by omega
   clear heq hs;go_wp2_with fail;go_loopw [7] (fun iV wr=>∃i:Nat,iV=.int .i64 i/\a+1<=i/\i<=b/\UR wr g dk/\KG g w wr/\scanSorted ltInt dk b i=scanSorted ltInt dk b i3) (fun iV _=>b-(intOf iV).toNat)
   case atStart=>exact⟨_,rfl,by omega,by omega,HUA.out,HKA.out,rfl⟩
   case round =>
    obtain⟨X1,hX⟩:∃X,X=wr:=⟨_,rfl⟩;subst hX;obtain⟨i,rfl,hlo,hhi,hU,hK,heq⟩:=hrel;have HU1:=zH hU;have HK1:=zH hK;have HQ1:=zH heq;clear hU hK heq HUA HKA;obtain⟨im,him⟩:∃im,im=i-1:=⟨_,rfl⟩;have wi:IntKind.i64.wrap ((i:Int)-1)=(im:Int):=by rw[IntKind.wrap_i64];omega
    have himl:im+1=i:=by omega
    have HIM:=zH him;clear him;obtain⟨B,hB⟩:∃B,B=(decide (i<b)&&!ltInt (dk:Array Int)[i]! (dk:Array Int)[i-1]!):=⟨_,rfl⟩;have HB:=zH hB;clear hB;go_upto_region 5 with fail;go_cut [32] (fun v wx=>v=.bool B/\UR wx g dk/\KG g w wx)
    case first =>
     have HUN:Hid (∀m,UR (X1.drewN m) g dk):=HU1.out.drewN;have HKN:Hid (∀m,KG g w (X1.drewN m)):=HK1.out.drewN
     by_cases hij:i<b
     ·have bi:i<(dk:Array Int).size/\im<(dk:Array Int).size:=by rw[hdsz.out];omega
      have cx:=HU1.out.cell i bi.1;have cy:=HU1.out.cell im bi.2;have i1:(i:Int)<(n:Int):=by omega
      have i2:(im:Int)<(n:Int):=by omega
      have i3':(i:Int)<(b:Int):=by omega
      obtain⟨x,hx⟩:∃x,x=(dk:Array Int)[i]! := ⟨_,rfl⟩;obtain⟨y,hy⟩:∃y,y=(dk:Array Int)[im]! := ⟨_,rfl⟩;have HBV:Hid (Value.bool (!decide (x<y))=.bool B):=by
       rw[HB.out,decide_eq_true hij,Bool.true_and,<-HIM.out,hx,hy];rfl
      rw[<-hx] at cx;rw[<-hy] at cy;clear hx hy bi HB HU1 HK1 HQ1;go_wp2_with fail;go_quiet (first|(go_at_call 133;refine Calls.quiet_of_same (qR _ _ _)));go_wp2_with fail;go_meet
      case rel=>exact⟨HBV.out,HUN.out _,HKN.out _⟩
     ·have i3':decide ((i:Int)<(b:Int))=false:=by simp;omega
      have HBV:Hid (Value.bool false=.bool B):=by
       rw[HB.out,decide_eq_false hij,Bool.false_and];exact rfl
      clear HB HU1 HK1 HQ1;go_wp2_with fail;go_quiet (fail);go_wp2_with fail;go_meet
      case rel=>exact⟨HBV.out,HUN.out _,HKN.out _⟩
    case rest =>
     obtain⟨Y1,hY⟩:∃Y,Y=wc:=⟨_,rfl⟩;subst hY;obtain⟨rfl,hU,hK⟩:=hcut;have HU2:=zH hU;have HK2:=zH hK;clear hU hK HU1 HK1;cases B with
     |true =>
      have hij:i<b:=of_decide_eq_true ((Bool.and_eq_true _ _).mp HB.out.symm).1;have HQ2:=zH ((zng HB.out.symm).symm.trans HQ1.out);clear HB HQ1;go_wp2;go_roundw
      case rel=>first|exact⟨i+1,by first|go_num|(congr 1;omega),by omega,by omega,HU2.out,HK2.out,HQ2.out⟩|((repeat apply Exists.intro);exact⟨⟨i+1,by first|go_num|(congr 1;omega),by omega,by omega,HU2.out,HK2.out,HQ2.out⟩,rfl⟩)
      case measure=>first|(simp[intOf];done)|(simp[intOf];omega)
     |false =>
      have HS:=zH (HQ1.out.symm.trans (zmt HB.out.symm));clear HQ1 HB
      by_cases hib:i=b
      ·have HRE:Hid (R0=(dk,true)):=HQA.out.symm.trans (zmK HS.out hib);have ieq:(((i:Int))==((b:Int)))=true:=by simp;omega
       have HUF:=HU2;clear HQA HS hib;go_wp2;go_ret;rw[HRE.out];exact⟨rfl,HUF.out,HK2.out⟩
      have ieq:(((i:Int))==((b:Int)))=false:=by rw[beq_eq_false_iff_ne];omega
      have wba:IntKind.i64.wrap ((b:Int)-(a:Int))=(b:Int)-(a:Int):=by rw[IntKind.wrap_i64];omega
      by_cases hba:b-a<50
      ·have HRE:Hid (R0=(dk,false)):=HQA.out.symm.trans (zhu HS.out hib hba);have i50:(b:Int)-(a:Int)<50:=by omega
       clear HQA HS;go_wp2;go_ret;rw[HRE.out];exact⟨rfl,HU2.out,HK2.out⟩
      have i50:¬(b:Int)-(a:Int)<50:=by omega
      have hilt:i<b:=by omega
      have hne7:¬i=im:=by omega
      go_upto_region 11 with fail;go_cut [] (fun wx=>UR wx g (swp dk i im)/\KG g w wx)
      case first =>
       have bi:i<(dk:Array Int).size/\im<(dk:Array Int).size:=(⟨by have:=hdsz.out;omega,by have:=hdsz.out;omega⟩:i<(dk:Array Int).size/\im<(dk:Array Int).size);have hU:=HU2.out;have hK:=HK2.out;have cx:=hU.cell i bi.1;have cy:=hU.cell im bi.2;have fx:=hU.froz i bi.1;have fy:=hU.froz im bi.2;obtain⟨x,hx⟩:∃x,x=(dk:Array Int)[i]! := ⟨_,rfl⟩;obtain⟨y,hy⟩:∃y,y=(dk:Array Int)[im]! := ⟨_,rfl⟩;have HSW:=zH (hU.swp (i:=i) (j:=im) bi.1 bi.2 hx hy).drew;have HSK:=zH (hK.trans (KG.swp (g:=g) Y1 i im (.int .u64 y) (.int .u64 x))).drew;have i1:(i:Int)<(n:Int):=by have:=(⟨by have:=hdsz.out;omega,by have:=hdsz.out;omega⟩:i<(dk:Array Int).size/\im<(dk:Array Int).size);have:=hdsz.out;omega
       have i2:(im:Int)<(n:Int):=by have:=(⟨by have:=hdsz.out;omega,by have:=hdsz.out;omega⟩:i<(dk:Array Int).size/\im<(dk:Array Int).size);have:=hdsz.out;omega
       have hij:¬i=im:=hne7;rw[<-hx] at cx;rw[<-hy] at cy;clear hU hK hx hy;go_wp2_with fail;go_region;go_wp2_with fail;go_meet
       case rel=>exact⟨HSW.out,HSK.out⟩
      case rest =>
       obtain⟨Y21,hY⟩:∃Y,Y=wc:=⟨_,rfl⟩;subst hY;obtain⟨hU,hK⟩:=hcut;have HU22:=zH hU;have HK23:=zH hK;clear hU hK HU2 HK2;obtain⟨d1,hd1⟩:∃d1,d1=swp dk i im:=⟨_,rfl⟩;have hds1:Hid (d1.size=n):=by show _=_;rw[hd1,qP];exact hdsz.out
       have HD1:Hid (d1=swp dk i (i-1)):=by rw[<-HIM.out];exact hd1
       rw[<-hd1] at HU22;clear hd1 hdsz;have wia:IntKind.i64.wrap ((i:Int)-(a:Int))=(i:Int)-(a:Int):=by rw[IntKind.wrap_i64];omega
       obtain⟨d2,hd2⟩:∃d2,d2=if i-a≥2 then shiftDown ltInt (i-1) d1 else d1:=⟨_,rfl⟩;have HD2:=zH hd2;have hds2:Hid (d2.size=n):=by
        show _=_;rw[hd2];split
        ·rw[zbn];exact hds1.out
        ·exact hds1.out
       clear hd2;go_upto_if 61 with fail;go_cut [] (fun wx=>UR wx g d2/\KG g w wx)
       case first =>
        have hU:=HU22;have hK:=HK23;clear HU22 HK23 HQA HS
        by_cases hcd:i-a≥2
        ·have icd:(2:Int)<=(i:Int)-(a:Int):=by omega
         have HDD:Hid (d2=shiftDown ltInt im d1):=by rw[HD2.out,if_pos hcd];rw[<-HIM.out];exact zH rfl
         go_wp2_with fail;go_loopw [9] (fun jV wr=>∃(j:Nat) (dj:Array Int),jV=.int .i64 j/\j<=im/\dj.size=n/\UR wr g dj/\KG g w wr/\shiftDown ltInt j dj=d2) (fun jV _=>(intOf jV).toNat)
         case atStart=>exact⟨im,d1,by first|rfl|go_num|(congr 1;omega),by omega,hds1.out,hU.out,hK.out,HDD.out.symm⟩
         case round =>
          obtain⟨Z,hX⟩:∃X,X=wr:=⟨_,rfl⟩;subst hX;obtain⟨j,dj,rfl,hj2,hdj,hU3,hK3,heq⟩:=hrel;clear hU hK HDD
          by_cases hjc:0<j
          ·have ijc:(1:Int)<=(j:Int):=by omega
           obtain⟨jm,hjm⟩:∃jm,jm=j-1:=⟨_,rfl⟩;have wj:IntKind.i64.wrap ((j:Int)-1)=(jm:Int):=by rw[IntKind.wrap_i64];omega
           have bj:j<dj.size/\jm<dj.size:=by rw[hdj];omega
           have cx:=hU3.cell j bj.1;have cy:=hU3.cell jm bj.2;have fx:=hU3.froz j bj.1;have fy:=hU3.froz jm bj.2;have hnej:¬j=jm:=by omega
           have ij1:(j:Int)<(n:Int):=by omega
           have ij2:(jm:Int)<(n:Int):=by omega
           obtain⟨x,hx⟩:∃x,x=dj[j]! := ⟨_,rfl⟩;obtain⟨y,hy⟩:∃y,y=dj[jm]! := ⟨_,rfl⟩;have HJM:=zH hjm;have HUM:Hid (∀m,UR (Z.drewN m) g dj):=hU3.drewN;have HKM:Hid (∀m,KG g w (Z.drewN m)):=hK3.drewN;have HSW:Hid (∀m,UR (((Z.drewN m).setCell ⟨g,j,none⟩ (.int .u64 y)).setCell ⟨g,jm,none⟩ (.int .u64 x)) g (swp dj j jm)):=fun m=>(hU3.drewN m).swp bj.1 bj.2 hx hy;have HSK:Hid (∀m,KG g w (((Z.drewN m).setCell ⟨g,j,none⟩ (.int .u64 y)).setCell ⟨g,jm,none⟩ (.int .u64 x))):=fun m=>(hK3.drewN m).trans (KG.swp _ _ _ _ _);have HSZ:Hid ((swp dj j jm).size=n):=by show _=_;rw[qP];exact hdj
           have HLT:Hid (∀B:Bool,decide (x<y)=B->ltInt dj[j]! dj[j-1]! = B):=fun B hB=>by rw[<-hjm,<-hx,<-hy];exact hB
           have HEQ:=zH heq;have hjml:jm+1=j:=by omega
           rw[<-hx] at cx;rw[<-hy] at cy;clear hU3 hK3 hx hy heq hdj bj hjm
           by_cases hxy:x<y
           ·have hd:decide (x<y)=true:=by simpa using hxy
            have HQ:Hid (shiftDown ltInt jm (swp dj j jm)=d2):=by
             have e:=zhA hjc (HLT.out true hd);rw[<-HJM.out] at e;exact e.symm.trans HEQ.out
            clear HLT HEQ HUM HKM;go_wp2_with fail;go_quiet (first|(go_at_call 133;refine Calls.quiet_of_same (qR _ _ _)));go_wp2_with fail;go_region;go_wp2;go_roundw
            case rel=>exact⟨jm,swp dj j jm,by first|rfl|go_num|(congr 1;omega),by omega,HSZ.out,HSW.out _,HSK.out _,HQ.out⟩
            case measure=>first|(simp[intOf];done)|(simp[intOf];omega)
           ·have hd:decide (x<y)=false:=by simpa using hxy
            have HQ:Hid (dj=d2):=(zcF (fun _=>HLT.out false hd)).symm.trans HEQ.out;clear HLT HEQ HSW HSK;go_wp2_with fail;go_quiet (first|(go_at_call 133;refine Calls.quiet_of_same (qR _ _ _)));go_wp2_with fail;go_meet
            case rel=>rw[<-HQ.out];exact⟨HUM.out _,HKM.out _⟩
          ·have ijc:¬(1:Int)<=(j:Int):=by omega
           have HQ:Hid (dj=d2):=(zcF (fun h=>absurd h hjc)).symm.trans heq;have HU4:=zH hU3;have HK4:=zH hK3;clear heq hU3 hK3;go_wp2_with fail;go_meet
           case rel=>rw[<-HQ.out];exact⟨HU4.out,HK4.out⟩
        ·have icd:¬(2:Int)<=(i:Int)-(a:Int):=by omega
         have HDD:Hid (d2=d1):=by rw[HD2.out,if_neg hcd];exact zH rfl
         go_wp2_with fail;go_meet
         case rel=>rw[HDD.out];exact⟨hU.out,hK.out⟩
       case rest =>
        obtain⟨Y8,hY⟩:∃Y,Y=wc:=⟨_,rfl⟩;subst hY;obtain⟨hU,hK⟩:=hcut;have HU22n:=zH hU;have HK23n:=zH hK;clear hU hK HU22 HK23;have wbi:IntKind.i64.wrap ((b:Int)-(i:Int))=(b:Int)-(i:Int):=by rw[IntKind.wrap_i64];omega
        obtain⟨d3,hd3⟩:∃d3,d3=if b-i≥2 then shiftUp ltInt b (i+1) d2 else d2:=⟨_,rfl⟩;have HD3:=zH hd3;have hds3:Hid (d3.size=n):=by
         show _=_;rw[hd3];split
         ·rw[zeH (b-(i+1)) _ _ zN];exact hds2.out
         ·exact hds2.out
        clear hd3;have HFQ:Hid (partialIns ltInt a b (5-(c+1)) i d3=R0):=by
         have e:=zga (s:=s) HS.out hib hba HD1.out HD2.out HD3.out;have e5:5-(c+1)=s:=by have:=HS5.out;omega
         rw[e5];exact e.symm.trans HQA.out
        clear HD1 HD2;have hU:=HU22n;have hK:=HK23n;clear HU22n HK23n HQA HS
        by_cases hcd:b-i≥2
        ·have icd:(2:Int)<=(b:Int)-(i:Int):=by omega
         have HDD:Hid (d3=shiftUp ltInt b (i+1) d2):=by rw[HD3.out,if_pos hcd];exact zH rfl
         go_wp2_with fail;go_loopw [10] (fun jV wr=>∃(j:Nat) (dj:Array Int),jV=.int .i64 j/\i+1<=j/\j<=b/\dj.size=n/\UR wr g dj/\KG g w wr/\shiftUp ltInt b j dj=d3) (fun jV _=>b-(intOf jV).toNat)
         case atStart=>exact⟨(i+1),d2,by first|rfl|go_num|(congr 1;omega),by omega,by omega,hds2.out,hU.out,hK.out,HDD.out.symm⟩
         case round =>
          obtain⟨Z,hX⟩:∃X,X=wr:=⟨_,rfl⟩;subst hX;obtain⟨j,dj,rfl,hj1,hj2,hdj,hU3,hK3,heq⟩:=hrel;clear hU hK HDD
          by_cases hjc:j<b
          ·have ijc:(j:Int)<(b:Int):=by omega
           obtain⟨jm,hjm⟩:∃jm,jm=j-1:=⟨_,rfl⟩;have wj:IntKind.i64.wrap ((j:Int)-1)=(jm:Int):=by rw[IntKind.wrap_i64];omega
           have bj:j<dj.size/\jm<dj.size:=by rw[hdj];omega
           have cx:=hU3.cell j bj.1;have cy:=hU3.cell jm bj.2;have fx:=hU3.froz j bj.1;have fy:=hU3.froz jm bj.2;have hnej:¬j=jm:=by omega
           have ij1:(j:Int)<(n:Int):=by omega
           have ij2:(jm:Int)<(n:Int):=by omega
           obtain⟨x,hx⟩:∃x,x=dj[j]! := ⟨_,rfl⟩;obtain⟨y,hy⟩:∃y,y=dj[jm]! := ⟨_,rfl⟩;have HJM:=zH hjm;have HUM:Hid (∀m,UR (Z.drewN m) g dj):=hU3.drewN;have HKM:Hid (∀m,KG g w (Z.drewN m)):=hK3.drewN;have HSW:Hid (∀m,UR (((Z.drewN m).setCell ⟨g,j,none⟩ (.int .u64 y)).setCell ⟨g,jm,none⟩ (.int .u64 x)) g (swp dj j jm)):=fun m=>(hU3.drewN m).swp bj.1 bj.2 hx hy;have HSK:Hid (∀m,KG g w (((Z.drewN m).setCell ⟨g,j,none⟩ (.int .u64 y)).setCell ⟨g,jm,none⟩ (.int .u64 x))):=fun m=>(hK3.drewN m).trans (KG.swp _ _ _ _ _);have HSZ:Hid ((swp dj j jm).size=n):=by show _=_;rw[qP];exact hdj
           have HLT:Hid (∀B:Bool,decide (x<y)=B->ltInt dj[j]! dj[j-1]! = B):=fun B hB=>by rw[<-hjm,<-hx,<-hy];exact hB
           have HEQ:=zH heq;have hjml:jm+1=j:=by omega
           rw[<-hx] at cx;rw[<-hy] at cy;clear hU3 hK3 hx hy heq hdj bj hjm
           by_cases hxy:x<y
           ·have hd:decide (x<y)=true:=by simpa using hxy
            have HQ:Hid (shiftUp ltInt b (j+1) (swp dj j jm)=d3):=by
             have e:=zcJ hjc (HLT.out true hd);rw[<-HJM.out] at e;exact e.symm.trans HEQ.out
            clear HLT HEQ HUM HKM;go_wp2_with fail;go_quiet (first|(go_at_call 133;refine Calls.quiet_of_same (qR _ _ _)));go_wp2_with fail;go_region;go_wp2;go_roundw
            case rel=>exact⟨j+1,swp dj j jm,by first|rfl|go_num|(congr 1;omega),by omega,by omega,HSZ.out,HSW.out _,HSK.out _,HQ.out⟩
            case measure=>first|(simp[intOf];done)|(simp[intOf];omega)
           ·have hd:decide (x<y)=false:=by simpa using hxy
            have HQ:Hid (dj=d3):=(zeG (HLT.out false hd)).symm.trans HEQ.out;clear HLT HEQ HSW HSK;go_wp2_with fail;go_quiet (first|(go_at_call 133;refine Calls.quiet_of_same (qR _ _ _)));go_wp2;go_roundw
            case rel=>first|exact⟨i,c+1,d3,rfl,by first|go_num|(congr 1;omega),by omega,by omega,by omega,hds3.out,by rw[<-HQ.out];exact HUM.out _,HKM.out _,HFQ.out⟩|((repeat apply Exists.intro);exact⟨⟨i,c+1,d3,rfl,by first|go_num|(congr 1;omega),by omega,by omega,by omega,hds3.out,by rw[<-HQ.out];exact HUM.out _,HKM.out _,HFQ.out⟩,rfl⟩)
            case measure=>first|(simp[intOf];done)|(simp[intOf];omega)
          ·have ijc:¬(j:Int)<(b:Int):=by omega
           have HQ:Hid (dj=d3):=(zae (by omega)).symm.trans heq;have HU4:=zH hU3;have HK4:=zH hK3;clear heq hU3 hK3;go_wp2;go_roundw
           case rel=>first|exact⟨i,c+1,d3,rfl,by first|go_num|(congr 1;omega),by omega,by omega,by omega,hds3.out,by rw[<-HQ.out];exact HU4.out,HK4.out,HFQ.out⟩|((repeat apply Exists.intro);exact⟨⟨i,c+1,d3,rfl,by first|go_num|(congr 1;omega),by omega,by omega,by omega,hds3.out,by rw[<-HQ.out];exact HU4.out,HK4.out,HFQ.out⟩,rfl⟩)
           case measure=>first|(simp[intOf];done)|(simp[intOf];omega)
        ·have icd:¬(2:Int)<=(b:Int)-(i:Int):=by omega
         have HDD:Hid (d3=d2):=by rw[HD3.out,if_neg hcd];exact zH rfl
         go_wp2;go_roundw
         case rel=>first|exact⟨i,c+1,d3,rfl,by first|go_num|(congr 1;omega),by omega,by omega,by omega,hds3.out,by rw[HDD.out];exact hU.out,hK.out,HFQ.out⟩|((repeat apply Exists.intro);exact⟨⟨i,c+1,d3,rfl,by first|go_num|(congr 1;omega),by omega,by omega,by omega,hds3.out,by rw[HDD.out];exact hU.out,hK.out,HFQ.out⟩,rfl⟩)
         case measure=>first|(simp[intOf];done)|(simp[intOf];omega)
  ·obtain rfl:c=5:=by omega
   have HRE:Hid (R0=(dk,false)):=heq.symm;clear heq;go_wp2;go_ret;rw[HRE.out];exact⟨rfl,HUA.out,HKA.out⟩
end Go.Proofs.YtapobpgbcbplbaaGreatDoor.Sr
