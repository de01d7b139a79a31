/- partitionOrdered. -/
import Derived.Test.YtapobpgbcbplbaaGreatDoorSrBase
set_option maxHeartbeats 4000000
set_option maxRecDepth 100000
namespace Go.Proofs.YtapobpgbcbplbaaGreatDoor.Sr
open Go.RowKit Go.Maps Go.Proofs.YtapobpgbcbplbaaGreatDoor.Bd Go.Proofs.YtapobpgbcbplbaaGreatDoor.Fm Go.Sort
section
variable {p:Int->Bool} {d:Array Int} {i j:Nat}
theorem za1(h:(decide (i<=j)&&p d[i]!)=true):scanUp p d j i=scanUp p d j (i+1):=by
 have e:scanUp p d j i=if (decide (i<=j)&&p d[i]!)=true then scanUp p d j (i+1) else i:=by rw[scanUp]
 rw[e,if_pos h]
theorem zaB(h:(decide (i<=j)&&p d[i]!)=false):scanUp p d j i=i:=by
 have e:scanUp p d j i=if (decide (i<=j)&&p d[i]!)=true then scanUp p d j (i+1) else i:=by rw[scanUp]
 rw[e,if_neg (by rw[h];decide)]
theorem zad(hj:0<j)(h:(decide (i<=j)&&p d[j]!)=true):scanDown p d i j=scanDown p d i (j-1):=by
 obtain⟨m,rfl⟩:∃m,j=m+1:=⟨j-1,by omega⟩;show (if (decide (i<=m+1)&&p d[m+1]!)=true then _ else _)=_;rw[if_pos h];rfl
theorem zah(h:(decide (i<=j)&&p d[j]!)=false):scanDown p d i j=j:=by
 cases j with
 |zero=>rfl
 |succ m =>show (if (decide (i<=m+1)&&p d[m+1]!)=true then _ else _)=_;rw[if_neg (by rw[h];decide)]
end
section
variable {d d1 dk:Array Int} {a b pivot i j i2 j2 J0:Nat}
theorem zjB(hd1:d1=swp d a pivot)(hJ:J0+1=b)(hi:scanUp (fun x=>ltInt x d1[a]!) d1 J0 (a+1)=i)(hj:scanDown (fun x=>!ltInt x d1[a]!) d1 i J0=j) :
  Go.Sort.partition ltInt d a b pivot=if i>j then (j,true,swp d1 j a) else ((partLoop ltInt a (i+1) (j-1) (swp d1 i j)).1,false,swp (partLoop ltInt a (i+1) (j-1) (swp d1 i j)).2 (partLoop ltInt a (i+1) (j-1) (swp d1 i j)).1 a):=by
 have e:J0=b-1:=by omega
 subst hd1 hi hj e;rfl
theorem zdu{J:Nat}{p q:Bool}(h1:false=(decide (i<=J)&&p))(h2:false=(decide (i<=j)&&!q))(hpq:i=j->p=q)(hij:i<=j)(hjJ:j<=J):¬i=j:=fun e=>by
 rw[decide_eq_true (by omega:i<=J),Bool.true_and] at h1;rw[decide_eq_true hij,Bool.true_and] at h2;rw[<-hpq e,<-h1] at h2;cases h2
theorem zgq(hi:scanUp (fun x=>ltInt x dk[a]!) dk j i=i2)(hj:scanDown (fun x=>!ltInt x dk[a]!) dk i2 j=j2)(h:j2<i2):partLoop ltInt a i j dk=(j2,dk):=by
 rw[partLoop];rw[hi,hj,if_pos h]
theorem zix(hi:scanUp (fun x=>ltInt x dk[a]!) dk j i=i2)(hj:scanDown (fun x=>!ltInt x dk[a]!) dk i2 j=j2)(h:i2<=j2)(h1:i<=i2)(h2:j2<=j)(h3:0<j2):partLoop ltInt a i j dk=partLoop ltInt a (i2+1) (j2-1) (swp dk i2 j2):=by
 rw[partLoop];rw[hi,hj,if_neg (by omega),dif_pos (by omega)]
end
theorem J7(g cap:Nat)(d:Array Int)(a b pivot:Nat)(w:World)(h:UR w g d)(hap:a<=pivot)(hpb:pivot<b)(hb:b<=d.size)(hsz:d.size<=1000000) :
  zC 135 #[.slice (some ⟨g,0,none⟩) d.size cap,.int .i64 a,.int .i64 b,.int .i64 pivot] w fun e w'=>e=.returned (.tuple #[.int .i64 ((Go.Sort.partition ltInt d a b pivot).1:Int),.bool (Go.Sort.partition ltInt d a b pivot).2.1])/\UR w' g (Go.Sort.partition ltInt d a b pivot).2.2/\KG g w w':=by
 have h0:=zH h;obtain⟨n,hn⟩:∃n,n=d.size:=⟨_,rfl⟩;have HK0:Hid (KG g w w):=zc.refl _ _;rw[<-hn] at hb hsz ⊢;have hdsz:=zH hn;obtain⟨J0,hJ0⟩:∃J0,J0=b-1:=⟨_,rfl⟩;have hJl:J0+1=b/\a<b:=by omega
 clear h hn hJ0;go_enter Tryz.func135,Tryz.ntmps135;go_upto_region 1 with fail;go_cut [] (fun wx=>UR wx g (swp d a pivot)/\KG g w wx)
 case first =>
  have bi:a<(d:Array Int).size/\pivot<(d:Array Int).size:=(⟨by have:=hdsz.out;omega,by have:=hdsz.out;omega⟩:a<d.size/\pivot<d.size);have hU:=h0.out;have hK:=HK0.out;have cx:=hU.cell a bi.1;have cy:=hU.cell pivot bi.2;have fx:=hU.froz a bi.1;have fy:=hU.froz pivot bi.2;obtain⟨x,hx⟩:∃x,x=(d:Array Int)[a]! := ⟨_,rfl⟩;obtain⟨y,hy⟩:∃y,y=(d:Array Int)[pivot]! := ⟨_,rfl⟩;have HSW:=zH (hU.swp (i:=a) (j:=pivot) bi.1 bi.2 hx hy).drew;have HSK:=zH (hK.trans (KG.swp (g:=g) w a pivot (.int .u64 y) (.int .u64 x))).drew;have i1:(a:Int)<(n:Int):=by have:=(⟨by have:=hdsz.out;omega,by have:=hdsz.out;omega⟩:a<d.size/\pivot<d.size);have:=hdsz.out;omega
  have i2:(pivot:Int)<(n:Int):=by have:=(⟨by have:=hdsz.out;omega,by have:=hdsz.out;omega⟩:a<d.size/\pivot<d.size);have:=hdsz.out;omega
  by_cases hij:a=pivot
  ·have hxy:x=y:=by rw[hx,hy,hij]
   have HSW2:Hid (UR ((w.setCell ⟨g,pivot,none⟩ (.int .u64 y)).setCell ⟨g,pivot,none⟩ (.int .u64 y)).drew g (swp d a pivot)/\KG g w ((w.setCell ⟨g,pivot,none⟩ (.int .u64 y)).setCell ⟨g,pivot,none⟩ (.int .u64 y)).drew):=by
    have h1:=HSW.out;have h2:=HSK.out;rw[hxy,hij] at h1 h2;rw[hij];exact⟨h1,h2⟩
   rw[<-hy] at cy;clear hU hK hx hy cx fx hxy HSW HSK;go_wp2_with fail;go_region;go_wp2_with fail;go_meet
   case rel=>exact HSW2.out
  ·rw[<-hx] at cx;rw[<-hy] at cy;clear hU hK hx hy;go_wp2_with fail;go_region;go_wp2_with fail;go_meet
   case rel=>exact⟨HSW.out,HSK.out⟩
 case rest =>
  obtain⟨Y1,hY⟩:∃Y,Y=wc:=⟨_,rfl⟩;subst hY;obtain⟨hU,hK⟩:=hcut;have HU2:=zH hU;have HK3:=zH hK;clear hU hK h0 HK0;obtain⟨d1,hd1⟩:∃d1,d1=swp d a pivot:=⟨_,rfl⟩;have hdsz1:Hid (d1.size=n):=by show _=_;rw[hd1,qP];exact hdsz.out.symm
  have HD1:=zH hd1;rw[<-hd1] at HU2;clear hd1 hdsz;have hdsz:=hdsz1;clear hdsz1;go_upto_region 2 with fail;go_cut [10,11] (fun v10 v11 wx=>v10=.int .i64 ((a+1:Nat):Int)/\v11=.int .i64 ((J0:Nat):Int)/\UR wx g d1/\KG g w wx)
  case first =>
   have hU:=HU2;have hK:=HK3;clear HU2 HK3;go_wp2_with fail;go_meet
   case rel=>exact⟨(by first|rfl|(congr 1;omega)|(simp;omega)),(by first|rfl|(congr 1;omega)|(simp;omega)),hU.out,hK.out⟩
  case rest =>
   obtain⟨Y4,hY⟩:∃Y,Y=wc:=⟨_,rfl⟩;subst hY;obtain⟨rfl,rfl,hU,hK⟩:=hcut;have HU5:=zH hU;have HK6:=zH hK;clear hU hK HU2 HK3;go_wp2_with fail;go_loopw [10] (fun iV wr=>∃i:Nat,iV=.int .i64 i/\(a+1)<=i/\i<=b/\UR wr g d1/\KG g w wr/\scanUp (fun x=>ltInt x d1[a]!) d1 J0 i=scanUp (fun x=>ltInt x d1[a]!) d1 J0 (a+1)) (fun iV _=>J0+1-(intOf iV).toNat)
   case atStart=>exact⟨_,rfl,by omega,by omega,HU5.out,HK6.out,rfl⟩
   case round =>
    obtain⟨X7,hX⟩:∃X,X=wr:=⟨_,rfl⟩;subst hX;obtain⟨i,rfl,hlo,hhi,hU,hK,heq⟩:=hrel;have HU8:=zH hU;have HK9:=zH hK;have HQ10:=zH heq;clear hU hK heq HU5 HK6;obtain⟨B12,hB⟩:∃B,B=(decide (i<=J0)&&(fun x=>ltInt x d1[a]!) (d1:Array Int)[i]!):=⟨_,rfl⟩;have HB:=zH hB;clear hB;go_upto_region 3 with fail;go_cut [43] (fun v wx=>v=.bool B12/\UR wx g d1/\KG g w wx)
    case first =>
     have HUN:Hid (∀m,UR (X7.drewN m) g d1):=HU8.out.drewN;have HKN:Hid (∀m,KG g w (X7.drewN m)):=HK9.out.drewN
     by_cases hij:i<=J0
     ·have bi:i<(d1:Array Int).size/\a<(d1:Array Int).size:=by rw[hdsz.out];omega
      have cx:=HU8.out.cell i bi.1;have cy:=HU8.out.cell a bi.2;have i1:(i:Int)<(n:Int):=by have:=hdsz.out;omega
      have i2:(a:Int)<(n:Int):=by have:=hdsz.out;omega
      have i3:(i:Int)<=(J0:Int):=by omega
      obtain⟨x,hx⟩:∃x,x=(d1:Array Int)[i]! := ⟨_,rfl⟩;obtain⟨y,hy⟩:∃y,y=(d1:Array Int)[a]! := ⟨_,rfl⟩;have HBV:Hid (Value.bool (decide (x<y))=.bool B12):=by
       rw[HB.out,decide_eq_true hij,Bool.true_and,hx,hy];rfl
      rw[<-hx] at cx;rw[<-hy] at cy;clear hx hy bi HB HU8 HK9 HQ10;go_wp2_with fail;go_quiet (first|(go_at_call 133;refine Calls.quiet_of_same (qR _ _ _)));go_wp2_with fail;go_meet
      case rel=>exact⟨HBV.out,HUN.out _,HKN.out _⟩
     ·have i3:decide ((i:Int)<=(J0:Int))=false:=by simp;omega
      have HBV:Hid (Value.bool false=.bool B12):=by
       rw[HB.out,decide_eq_false hij,Bool.false_and];exact rfl
      clear HB HU8 HK9 HQ10;go_wp2_with fail;go_quiet (fail);go_wp2_with fail;go_meet
      case rel=>exact⟨HBV.out,HUN.out _,HKN.out _⟩
    case rest =>
     obtain⟨Y13,hY⟩:∃Y,Y=wc:=⟨_,rfl⟩;subst hY;obtain⟨rfl,hU,hK⟩:=hcut;have HU14:=zH hU;have HK15:=zH hK;clear hU hK HU8 HK9;cases B12 with
     |true =>
      have hij:i<=J0:=of_decide_eq_true ((Bool.and_eq_true _ _).mp HB.out.symm).1;have HQ2:=zH ((za1 HB.out.symm).symm.trans HQ10.out);clear HB HQ10;go_wp2;go_roundw
      case rel=>first|exact⟨i+1,by first|go_num|(congr 1;omega),by omega,by omega,HU14.out,HK15.out,HQ2.out⟩|((repeat apply Exists.intro);exact⟨⟨i+1,by first|go_num|(congr 1;omega),by omega,by omega,HU14.out,HK15.out,HQ2.out⟩,rfl⟩)
      case measure=>first|(simp[intOf];done)|(simp[intOf];omega)
     |false =>
      have HS11:=zH (HQ10.out.symm.trans (zaB HB.out.symm));have HS11c:=HB;clear HQ10 HB;go_wp2_with fail;go_loopw [11] (fun iV wr=>∃j:Nat,iV=.int .i64 j/\a<=j/\j<=J0/\UR wr g d1/\KG g w wr/\scanDown (fun x=>!ltInt x d1[a]!) d1 i j=scanDown (fun x=>!ltInt x d1[a]!) d1 i J0) (fun iV _=>(intOf iV).toNat)
      case atStart=>exact⟨_,rfl,by omega,by omega,HU14.out,HK15.out,rfl⟩
      case round =>
       obtain⟨X16,hX⟩:∃X,X=wr:=⟨_,rfl⟩;subst hX;obtain⟨j,rfl,hlo,hhi,hU,hK,heq⟩:=hrel;have HU17:=zH hU;have HK18:=zH hK;have HQ19:=zH heq;clear hU hK heq HU14 HK15;obtain⟨B21,hB⟩:∃B,B=(decide (i<=j)&&(fun x=>!ltInt x d1[a]!) (d1:Array Int)[j]!):=⟨_,rfl⟩;have HB:=zH hB;clear hB;go_upto_region 5 with fail;go_cut [60] (fun v wx=>v=.bool B21/\UR wx g d1/\KG g w wx)
       case first =>
        have HUN:Hid (∀m,UR (X16.drewN m) g d1):=HU17.out.drewN;have HKN:Hid (∀m,KG g w (X16.drewN m)):=HK18.out.drewN
        by_cases hij:i<=j
        ·have bi:j<(d1:Array Int).size/\a<(d1:Array Int).size:=by rw[hdsz.out];omega
         have cx:=HU17.out.cell j bi.1;have cy:=HU17.out.cell a bi.2;have i1:(j:Int)<(n:Int):=by have:=hdsz.out;omega
         have i2:(a:Int)<(n:Int):=by have:=hdsz.out;omega
         have i3:(i:Int)<=(j:Int):=by omega
         obtain⟨x,hx⟩:∃x,x=(d1:Array Int)[j]! := ⟨_,rfl⟩;obtain⟨y,hy⟩:∃y,y=(d1:Array Int)[a]! := ⟨_,rfl⟩;have HBV:Hid (Value.bool (!decide (x<y))=.bool B21):=by
          rw[HB.out,decide_eq_true hij,Bool.true_and,hx,hy];rfl
         rw[<-hx] at cx;rw[<-hy] at cy;clear hx hy bi HB HU17 HK18 HQ19;go_wp2_with fail;go_quiet (first|(go_at_call 133;refine Calls.quiet_of_same (qR _ _ _)));go_wp2_with fail;go_meet
         case rel=>exact⟨HBV.out,HUN.out _,HKN.out _⟩
        ·have i3:decide ((i:Int)<=(j:Int))=false:=by simp;omega
         have HBV:Hid (Value.bool false=.bool B21):=by
          rw[HB.out,decide_eq_false hij,Bool.false_and];exact rfl
         clear HB HU17 HK18 HQ19;go_wp2_with fail;go_quiet (fail);go_wp2_with fail;go_meet
         case rel=>exact⟨HBV.out,HUN.out _,HKN.out _⟩
       case rest =>
        obtain⟨Y22,hY⟩:∃Y,Y=wc:=⟨_,rfl⟩;subst hY;obtain⟨rfl,hU,hK⟩:=hcut;have HU23:=zH hU;have HK24:=zH hK;clear hU hK HU17 HK18;cases B21 with
        |true =>
         have hij:i<=j:=of_decide_eq_true ((Bool.and_eq_true _ _).mp HB.out.symm).1;have HQ2:=zH ((zad (by omega) HB.out.symm).symm.trans HQ19.out);clear HB HQ19;go_wp2;go_roundw
         case rel=>first|exact⟨j-1,by first|go_num|(congr 1;omega),by omega,by omega,HU23.out,HK24.out,HQ2.out⟩|((repeat apply Exists.intro);exact⟨⟨j-1,by first|go_num|(congr 1;omega),by omega,by omega,HU23.out,HK24.out,HQ2.out⟩,rfl⟩)
         case measure=>first|(simp[intOf];done)|(simp[intOf];omega)
        |false =>
         have HS20:=zH (HQ19.out.symm.trans (zah HB.out.symm));have HS20c:=HB;clear HQ19 HB;have HPE:=zH (zjB HD1.out hJl.1 HS11.out HS20.out)
         by_cases hgt:j<i
         ·have i9:(j:Int)<(i:Int):=by omega
          have HPF:=zH (HPE.out.trans (if_pos hgt));clear HPE HS11 HS20 HS11c HS20c;go_upto_region 8 with fail;go_cut [] (fun wx=>UR wx g (swp d1 j a)/\KG g w wx)
          case first =>
           have bi:j<(d1:Array Int).size/\a<(d1:Array Int).size:=(⟨by have:=hdsz.out;omega,by have:=hdsz.out;omega⟩:j<(d1:Array Int).size/\a<(d1:Array Int).size);have hU:=HU23.out;have hK:=HK24.out;have cx:=hU.cell j bi.1;have cy:=hU.cell a bi.2;have fx:=hU.froz j bi.1;have fy:=hU.froz a bi.2;obtain⟨x,hx⟩:∃x,x=(d1:Array Int)[j]! := ⟨_,rfl⟩;obtain⟨y,hy⟩:∃y,y=(d1:Array Int)[a]! := ⟨_,rfl⟩;have HSW:=zH (hU.swp (i:=j) (j:=a) bi.1 bi.2 hx hy).drew;have HSK:=zH (hK.trans (KG.swp (g:=g) Y22 j a (.int .u64 y) (.int .u64 x))).drew;have i1:(j:Int)<(n:Int):=by have:=(⟨by have:=hdsz.out;omega,by have:=hdsz.out;omega⟩:j<(d1:Array Int).size/\a<(d1:Array Int).size);have:=hdsz.out;omega
           have i2:(a:Int)<(n:Int):=by have:=(⟨by have:=hdsz.out;omega,by have:=hdsz.out;omega⟩:j<(d1:Array Int).size/\a<(d1:Array Int).size);have:=hdsz.out;omega
           by_cases hij:j=a
           ·have hxy:x=y:=by rw[hx,hy,hij]
            have HSW2:Hid (UR ((Y22.setCell ⟨g,a,none⟩ (.int .u64 y)).setCell ⟨g,a,none⟩ (.int .u64 y)).drew g (swp d1 j a)/\KG g w ((Y22.setCell ⟨g,a,none⟩ (.int .u64 y)).setCell ⟨g,a,none⟩ (.int .u64 y)).drew):=by
             have h1:=HSW.out;have h2:=HSK.out;rw[hxy,hij] at h1 h2;rw[hij];exact⟨h1,h2⟩
            rw[<-hy] at cy;clear hU hK hx hy cx fx hxy HSW HSK;go_wp2_with fail;go_region;go_wp2_with fail;go_meet
            case rel=>exact HSW2.out
           ·rw[<-hx] at cx;rw[<-hy] at cy;clear hU hK hx hy;go_wp2_with fail;go_region;go_wp2_with fail;go_meet
            case rel=>exact⟨HSW.out,HSK.out⟩
          case rest =>obtain⟨Y25,hY⟩:∃Y,Y=wc:=⟨_,rfl⟩;subst hY;obtain⟨hU,hK⟩:=hcut;have HU26:=zH hU;have HK27:=zH hK;clear hU hK HU23 HK24;go_wp2;refine bodyPost_ret (v:=.tuple #[.int .i64 j,.bool true]) (by simp[results,Tryz.results135,go_sem]) rfl ?_;rw[HPF.out];exact⟨rfl,HU26.out,HK27.out⟩
         ·have i9:¬(j:Int)<(i:Int):=by omega
          have HPF:=zH (HPE.out.trans (if_neg hgt));have hne9:¬i=j:=zdu HS11c.out HS20c.out (fun e=>by rw[e]) (by omega) (by omega);clear HPE HS11 HS20 HS11c HS20c;go_upto_region 10 with fail;go_cut [] (fun wx=>UR wx g (swp d1 i j)/\KG g w wx)
          case first =>
           have bi:i<(d1:Array Int).size/\j<(d1:Array Int).size:=(⟨by have:=hdsz.out;omega,by have:=hdsz.out;omega⟩:i<(d1:Array Int).size/\j<(d1:Array Int).size);have hU:=HU23.out;have hK:=HK24.out;have cx:=hU.cell i bi.1;have cy:=hU.cell j bi.2;have fx:=hU.froz i bi.1;have fy:=hU.froz j bi.2;obtain⟨x,hx⟩:∃x,x=(d1:Array Int)[i]! := ⟨_,rfl⟩;obtain⟨y,hy⟩:∃y,y=(d1:Array Int)[j]! := ⟨_,rfl⟩;have HSW:=zH (hU.swp (i:=i) (j:=j) bi.1 bi.2 hx hy).drew;have HSK:=zH (hK.trans (KG.swp (g:=g) Y22 i j (.int .u64 y) (.int .u64 x))).drew;have i1:(i:Int)<(n:Int):=by have:=(⟨by have:=hdsz.out;omega,by have:=hdsz.out;omega⟩:i<(d1:Array Int).size/\j<(d1:Array Int).size);have:=hdsz.out;omega
           have i2:(j:Int)<(n:Int):=by have:=(⟨by have:=hdsz.out;omega,by have:=hdsz.out;omega⟩:i<(d1:Array Int).size/\j<(d1:Array Int).size);have:=hdsz.out;omega
           have hij:¬i=j:=hne9;rw[<-hx] at cx;rw[<-hy] at cy;clear hU hK hx hy;go_wp2_with fail;go_region;go_wp2_with fail;go_meet
           case rel=>exact⟨HSW.out,HSK.out⟩
          case rest =>
           obtain⟨Y28,hY⟩:∃Y,Y=wc:=⟨_,rfl⟩;subst hY;obtain⟨hU,hK⟩:=hcut;have HU29:=zH hU;have HK30:=zH hK;clear hU hK HU23 HK24;obtain⟨R0,hR0⟩:∃R0,R0=partLoop ltInt a (i+1) (j-1) (swp d1 i j):=⟨_,rfl⟩;rw[<-hR0] at HPF;have HR0:=zH hR0;have hds2:Hid ((swp d1 i j).size=n):=by show _=_;rw[qP];exact hdsz.out
           clear hR0 hdsz;go_wp2_with fail;go_loopw [10,11] (fun iV jV wr=>∃(i3 j3:Nat) (dk:Array Int),iV=.int .i64 i3/\jV=.int .i64 j3/\a+1<=i3/\i3<=b/\a<=j3/\j3<=J0/\dk.size=n/\UR wr g dk/\KG g w wr/\partLoop ltInt a i3 j3 dk=R0) (fun iV jV _=>(intOf jV).toNat+1-(intOf iV).toNat)
           case atStart=>exact⟨i+1,j-1,_,by first|go_num|(congr 1;omega),by first|go_num|(congr 1;omega),by omega,by omega,by omega,by omega,hds2.out,HU29.out,HK30.out,HR0.out.symm⟩
           case round =>
            obtain⟨X0,hX⟩:∃X,X=wr:=⟨_,rfl⟩;subst hX;obtain⟨i3,j3,dk,rfl,rfl,b1,b2,b3,b4,hdk,hU,hK,heq⟩:=hrel;have HUA:=zH hU;have HKA:=zH hK;have HQA:=zH heq;have hdsz:=zH hdk;clear hU hK heq hdk HU29 HK30 HR0 hds2;go_wp2_with fail;go_loopw [10] (fun iV wr=>∃i4:Nat,iV=.int .i64 i4/\i3<=i4/\i4<=b/\UR wr g dk/\KG g w wr/\scanUp (fun x=>ltInt x dk[a]!) dk j3 i4=scanUp (fun x=>ltInt x dk[a]!) dk j3 i3) (fun iV _=>j3+1-(intOf iV).toNat)
            case atStart=>exact⟨_,rfl,by omega,by omega,HUA.out,HKA.out,rfl⟩
            case round =>
             obtain⟨X31,hX⟩:∃X,X=wr:=⟨_,rfl⟩;subst hX;obtain⟨i4,rfl,hlo,hhi,hU,hK,heq⟩:=hrel;have HU32:=zH hU;have HK33:=zH hK;have HQ34:=zH heq;clear hU hK heq HUA HKA;obtain⟨B36,hB⟩:∃B,B=(decide (i4<=j3)&&(fun x=>ltInt x dk[a]!) (dk:Array Int)[i4]!):=⟨_,rfl⟩;have HB:=zH hB;clear hB;go_upto_region 13 with fail;go_cut [112] (fun v wx=>v=.bool B36/\UR wx g dk/\KG g w wx)
             case first =>
              have HUN:Hid (∀m,UR (X31.drewN m) g dk):=HU32.out.drewN;have HKN:Hid (∀m,KG g w (X31.drewN m)):=HK33.out.drewN
              by_cases hij:i4<=j3
              ·have bi:i4<(dk:Array Int).size/\a<(dk:Array Int).size:=by rw[hdsz.out];omega
               have cx:=HU32.out.cell i4 bi.1;have cy:=HU32.out.cell a bi.2;have i1:(i4:Int)<(n:Int):=by have:=hdsz.out;omega
               have i2:(a:Int)<(n:Int):=by have:=hdsz.out;omega
               have i3:(i4:Int)<=(j3:Int):=by omega
               obtain⟨x,hx⟩:∃x,x=(dk:Array Int)[i4]! := ⟨_,rfl⟩;obtain⟨y,hy⟩:∃y,y=(dk:Array Int)[a]! := ⟨_,rfl⟩;have HBV:Hid (Value.bool (decide (x<y))=.bool B36):=by
                rw[HB.out,decide_eq_true hij,Bool.true_and,hx,hy];rfl
               rw[<-hx] at cx;rw[<-hy] at cy;clear hx hy bi HB HU32 HK33 HQ34;go_wp2_with fail;go_quiet (first|(go_at_call 133;refine Calls.quiet_of_same (qR _ _ _)));go_wp2_with fail;go_meet
               case rel=>exact⟨HBV.out,HUN.out _,HKN.out _⟩
              ·have i3:decide ((i4:Int)<=(j3:Int))=false:=by simp;omega
               have HBV:Hid (Value.bool false=.bool B36):=by
                rw[HB.out,decide_eq_false hij,Bool.false_and];exact rfl
               clear HB HU32 HK33 HQ34;go_wp2_with fail;go_quiet (fail);go_wp2_with fail;go_meet
               case rel=>exact⟨HBV.out,HUN.out _,HKN.out _⟩
             case rest =>
              obtain⟨Y37,hY⟩:∃Y,Y=wc:=⟨_,rfl⟩;subst hY;obtain⟨rfl,hU,hK⟩:=hcut;have HU38:=zH hU;have HK39:=zH hK;clear hU hK HU32 HK33;cases B36 with
              |true =>
               have hij:i4<=j3:=of_decide_eq_true ((Bool.and_eq_true _ _).mp HB.out.symm).1;have HQ2:=zH ((za1 HB.out.symm).symm.trans HQ34.out);clear HB HQ34;go_wp2;go_roundw
               case rel=>first|exact⟨i4+1,by first|go_num|(congr 1;omega),by omega,by omega,HU38.out,HK39.out,HQ2.out⟩|((repeat apply Exists.intro);exact⟨⟨i4+1,by first|go_num|(congr 1;omega),by omega,by omega,HU38.out,HK39.out,HQ2.out⟩,rfl⟩)
               case measure=>first|(simp[intOf];done)|(simp[intOf];omega)
              |false =>
               have HS35:=zH (HQ34.out.symm.trans (zaB HB.out.symm));have HS35c:=HB;clear HQ34 HB;go_wp2_with fail;go_loopw [11] (fun iV wr=>∃j4:Nat,iV=.int .i64 j4/\a<=j4/\j4<=j3/\UR wr g dk/\KG g w wr/\scanDown (fun x=>!ltInt x dk[a]!) dk i4 j4=scanDown (fun x=>!ltInt x dk[a]!) dk i4 j3) (fun iV _=>(intOf iV).toNat)
               case atStart=>exact⟨_,rfl,by omega,by omega,HU38.out,HK39.out,rfl⟩
               case round =>
                obtain⟨X40,hX⟩:∃X,X=wr:=⟨_,rfl⟩;subst hX;obtain⟨j4,rfl,hlo,hhi,hU,hK,heq⟩:=hrel;have HU41:=zH hU;have HK42:=zH hK;have HQ43:=zH heq;clear hU hK heq HU38 HK39;obtain⟨B45,hB⟩:∃B,B=(decide (i4<=j4)&&(fun x=>!ltInt x dk[a]!) (dk:Array Int)[j4]!):=⟨_,rfl⟩;have HB:=zH hB;clear hB;go_upto_region 15 with fail;go_cut [129] (fun v wx=>v=.bool B45/\UR wx g dk/\KG g w wx)
                case first =>
                 have HUN:Hid (∀m,UR (X40.drewN m) g dk):=HU41.out.drewN;have HKN:Hid (∀m,KG g w (X40.drewN m)):=HK42.out.drewN
                 by_cases hij:i4<=j4
                 ·have bi:j4<(dk:Array Int).size/\a<(dk:Array Int).size:=by rw[hdsz.out];omega
                  have cx:=HU41.out.cell j4 bi.1;have cy:=HU41.out.cell a bi.2;have i1:(j4:Int)<(n:Int):=by have:=hdsz.out;omega
                  have i2:(a:Int)<(n:Int):=by have:=hdsz.out;omega
                  have i3:(i4:Int)<=(j4:Int):=by omega
                  obtain⟨x,hx⟩:∃x,x=(dk:Array Int)[j4]! := ⟨_,rfl⟩;obtain⟨y,hy⟩:∃y,y=(dk:Array Int)[a]! := ⟨_,rfl⟩;have HBV:Hid (Value.bool (!decide (x<y))=.bool B45):=by
                   rw[HB.out,decide_eq_true hij,Bool.true_and,hx,hy];rfl
                  rw[<-hx] at cx;rw[<-hy] at cy;clear hx hy bi HB HU41 HK42 HQ43;go_wp2_with fail;go_quiet (first|(go_at_call 133;refine Calls.quiet_of_same (qR _ _ _)));go_wp2_with fail;go_meet
                  case rel=>exact⟨HBV.out,HUN.out _,HKN.out _⟩
                 ·have i3:decide ((i4:Int)<=(j4:Int))=false:=by simp;omega
                  have HBV:Hid (Value.bool false=.bool B45):=by
                   rw[HB.out,decide_eq_false hij,Bool.false_and];exact rfl
                  clear HB HU41 HK42 HQ43;go_wp2_with fail;go_quiet (fail);go_wp2_with fail;go_meet
                  case rel=>exact⟨HBV.out,HUN.out _,HKN.out _⟩
                case rest =>
                 obtain⟨Y46,hY⟩:∃Y,Y=wc:=⟨_,rfl⟩;subst hY;obtain⟨rfl,hU,hK⟩:=hcut;have HU47:=zH hU;have HK48:=zH hK;clear hU hK HU41 HK42;cases B45 with
                 |true =>
                  have hij:i4<=j4:=of_decide_eq_true ((Bool.and_eq_true _ _).mp HB.out.symm).1;have HQ2:=zH ((zad (by omega) HB.out.symm).symm.trans HQ43.out);clear HB HQ43;go_wp2;go_roundw
                  case rel=>first|exact⟨j4-1,by first|go_num|(congr 1;omega),by omega,by omega,HU47.out,HK48.out,HQ2.out⟩|((repeat apply Exists.intro);exact⟨⟨j4-1,by first|go_num|(congr 1;omega),by omega,by omega,HU47.out,HK48.out,HQ2.out⟩,rfl⟩)
                  case measure=>first|(simp[intOf];done)|(simp[intOf];omega)
                 |false =>
                  have HS44:=zH (HQ43.out.symm.trans (zah HB.out.symm));have HS44c:=HB;clear HQ43 HB
                  by_cases hgt4:j4<i4
                  ·have i10:(j4:Int)<(i4:Int):=by omega
                   have HRE:Hid (R0=(j4,dk)):=HQA.out.symm.trans (zgq HS35.out HS44.out hgt4);clear HQA HS35 HS44 HS35c HS44c;go_upto_region 21 with fail;go_cut [] (fun wx=>UR wx g (swp dk j4 a)/\KG g w wx)
                   case first =>
                    have bi:j4<(dk:Array Int).size/\a<(dk:Array Int).size:=(⟨by have:=hdsz.out;omega,by have:=hdsz.out;omega⟩:j4<(dk:Array Int).size/\a<(dk:Array Int).size);have hU:=HU47.out;have hK:=HK48.out;have cx:=hU.cell j4 bi.1;have cy:=hU.cell a bi.2;have fx:=hU.froz j4 bi.1;have fy:=hU.froz a bi.2;obtain⟨x,hx⟩:∃x,x=(dk:Array Int)[j4]! := ⟨_,rfl⟩;obtain⟨y,hy⟩:∃y,y=(dk:Array Int)[a]! := ⟨_,rfl⟩;have HSW:=zH (hU.swp (i:=j4) (j:=a) bi.1 bi.2 hx hy).drew;have HSK:=zH (hK.trans (KG.swp (g:=g) Y46 j4 a (.int .u64 y) (.int .u64 x))).drew;have i1:(j4:Int)<(n:Int):=by have:=(⟨by have:=hdsz.out;omega,by have:=hdsz.out;omega⟩:j4<(dk:Array Int).size/\a<(dk:Array Int).size);have:=hdsz.out;omega
                    have i2:(a:Int)<(n:Int):=by have:=(⟨by have:=hdsz.out;omega,by have:=hdsz.out;omega⟩:j4<(dk:Array Int).size/\a<(dk:Array Int).size);have:=hdsz.out;omega
                    by_cases hij:j4=a
                    ·have hxy:x=y:=by rw[hx,hy,hij]
                     have HSW2:Hid (UR ((Y46.setCell ⟨g,a,none⟩ (.int .u64 y)).setCell ⟨g,a,none⟩ (.int .u64 y)).drew g (swp dk j4 a)/\KG g w ((Y46.setCell ⟨g,a,none⟩ (.int .u64 y)).setCell ⟨g,a,none⟩ (.int .u64 y)).drew):=by
                      have h1:=HSW.out;have h2:=HSK.out;rw[hxy,hij] at h1 h2;rw[hij];exact⟨h1,h2⟩
                     rw[<-hy] at cy;clear hU hK hx hy cx fx hxy HSW HSK;go_wp2_with fail;go_region;go_wp2_with fail;go_meet
                     case rel=>exact HSW2.out
                    ·rw[<-hx] at cx;rw[<-hy] at cy;clear hU hK hx hy;go_wp2_with fail;go_region;go_wp2_with fail;go_meet
                     case rel=>exact⟨HSW.out,HSK.out⟩
                   case rest =>obtain⟨Y49,hY⟩:∃Y,Y=wc:=⟨_,rfl⟩;subst hY;obtain⟨hU,hK⟩:=hcut;have HU50:=zH hU;have HK51:=zH hK;clear hU hK HU47 HK48;go_wp2;refine bodyPost_ret (v:=.tuple #[.int .i64 j4,.bool false]) (by simp[results,Tryz.results135,go_sem]) rfl ?_;rw[HPF.out,HRE.out];exact⟨rfl,HU50.out,HK51.out⟩
                  ·have i10:¬(j4:Int)<(i4:Int):=by omega
                   have HRE:Hid (partLoop ltInt a (i4+1) (j4-1) (swp dk i4 j4)=R0):=(zix HS35.out HS44.out (by omega) (by omega) (by omega) (by omega)).symm.trans HQA.out;have hne8:¬i4=j4:=zdu HS35c.out HS44c.out (fun e=>by rw[e]) (by omega) (by omega);clear HQA HS35 HS44 HS35c HS44c;go_upto_region 18 with fail;go_cut [] (fun wx=>UR wx g (swp dk i4 j4)/\KG g w wx)
                   case first =>
                    have bi:i4<(dk:Array Int).size/\j4<(dk:Array Int).size:=(⟨by have:=hdsz.out;omega,by have:=hdsz.out;omega⟩:i4<(dk:Array Int).size/\j4<(dk:Array Int).size);have hU:=HU47.out;have hK:=HK48.out;have cx:=hU.cell i4 bi.1;have cy:=hU.cell j4 bi.2;have fx:=hU.froz i4 bi.1;have fy:=hU.froz j4 bi.2;obtain⟨x,hx⟩:∃x,x=(dk:Array Int)[i4]! := ⟨_,rfl⟩;obtain⟨y,hy⟩:∃y,y=(dk:Array Int)[j4]! := ⟨_,rfl⟩;have HSW:=zH (hU.swp (i:=i4) (j:=j4) bi.1 bi.2 hx hy).drew;have HSK:=zH (hK.trans (KG.swp (g:=g) Y46 i4 j4 (.int .u64 y) (.int .u64 x))).drew;have i1:(i4:Int)<(n:Int):=by have:=(⟨by have:=hdsz.out;omega,by have:=hdsz.out;omega⟩:i4<(dk:Array Int).size/\j4<(dk:Array Int).size);have:=hdsz.out;omega
                    have i2:(j4:Int)<(n:Int):=by have:=(⟨by have:=hdsz.out;omega,by have:=hdsz.out;omega⟩:i4<(dk:Array Int).size/\j4<(dk:Array Int).size);have:=hdsz.out;omega
                    have hij:¬i4=j4:=hne8;rw[<-hx] at cx;rw[<-hy] at cy;clear hU hK hx hy;go_wp2_with fail;go_region;go_wp2_with fail;go_meet
                    case rel=>exact⟨HSW.out,HSK.out⟩
                   case rest =>
                    obtain⟨Y52,hY⟩:∃Y,Y=wc:=⟨_,rfl⟩;subst hY;obtain⟨hU,hK⟩:=hcut;have HU53:=zH hU;have HK54:=zH hK;clear hU hK HU47 HK48;have hds5:Hid ((swp dk i4 j4).size=n):=by show _=_;rw[qP];exact hdsz.out
                    go_wp2;go_roundw
                    case rel=>first|exact⟨i4+1,j4-1,swp dk i4 j4,by first|go_num|(congr 1;omega),by first|go_num|(congr 1;omega),by omega,by omega,by omega,by omega,hds5.out,HU53.out,HK54.out,HRE.out⟩|((repeat apply Exists.intro);exact⟨⟨i4+1,j4-1,swp dk i4 j4,by first|go_num|(congr 1;omega),by first|go_num|(congr 1;omega),by omega,by omega,by omega,by omega,hds5.out,HU53.out,HK54.out,HRE.out⟩,rfl⟩)
                    case measure=>first|(simp[intOf];done)|(simp[intOf];omega)
end Go.Proofs.YtapobpgbcbplbaaGreatDoor.Sr
