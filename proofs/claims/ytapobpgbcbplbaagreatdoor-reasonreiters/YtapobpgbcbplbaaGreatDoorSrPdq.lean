/- pdqsort. -/
import Derived.Test.YtapobpgbcbplbaaGreatDoorSrIns
namespace Go.Proofs.YtapobpgbcbplbaaGreatDoor
set_option maxHeartbeats 8000000
set_option maxRecDepth 100000
namespace Sr
open Go.RowKit Go.Maps Go.Proofs.YtapobpgbcbplbaaGreatDoor.Bd Go.Proofs.YtapobpgbcbplbaaGreatDoor.Fm Go.Sort
theorem zav{hi first r:Nat}{d:Array Int}(h:hi<=2*r+1):siftDown ltInt hi first r d=d:=by rw[siftDown,dif_pos h]
theorem zeB{hi first r c:Nat}{d:Array Int}(h:2*r+1<hi)(hc:c=if (decide (2*r+1+1<hi)&&ltInt d[first+(2*r+1)]! d[first+(2*r+1)+1]!)=true then 2*r+2 else 2*r+1) :
  siftDown ltInt hi first r d=if ltInt d[first+r]! d[first+c]! = true then siftDown ltInt hi first c (swp d (first+r) (first+c)) else d:=by
 rw[siftDown,dif_neg (by omega)]
 by_cases e:(decide (2*r+1+1<hi)&&ltInt d[first+(2*r+1)]! d[first+(2*r+1)+1]!)=true
 ·rw[if_pos e] at hc ⊢;subst hc;have h2:2*r+2<hi:=by
   rw[Bool.and_eq_true] at e;have:=of_decide_eq_true e.1;omega
  by_cases l:ltInt d[first+r]! d[first+(2*r+2)]! = true
  ·rw[if_pos l,if_neg (by rw[l];decide),dif_pos h2]
  ·rw[if_neg l,if_pos (by simpa using l)]
 ·rw[if_neg e] at hc ⊢;subst hc
  by_cases l:ltInt d[first+r]! d[first+(2*r+1)]! = true
  ·rw[if_pos l,if_neg (by rw[l];decide)]
  ·rw[if_neg l,if_pos (by simpa using l)]
theorem JI(g cap:Nat)(d:Array Int)(lo hi first:Nat)(w:World)(h:UR w g d)(hb:first+hi<=d.size)(hsz:d.size<=1000000)(hlo:lo<=hi) :
  zC 166 #[.slice (some ⟨g,0,none⟩) d.size cap,.int .i64 lo,.int .i64 hi,.int .i64 first] w fun e w'=>e=.returned (.tuple #[])/\UR w' g (siftDown ltInt hi first lo d)/\KG g w w':=by
 have h0:=zH h;obtain⟨n,hn⟩:∃n,n=d.size:=⟨_,rfl⟩;rw[<-hn] at hb hsz ⊢;have HN:=zH hn;clear h hn;go_enter Tryz.func166,Tryz.ntmps166;go_wp2_with fail;go_loopw [8] (fun rV wr=>∃(r:Nat) (dk:Array Int),rV=.int .i64 r/\r<=hi/\dk.size=n/\UR wr g dk/\KG g w wr/\siftDown ltInt hi first r dk=siftDown ltInt hi first lo d) (fun rV _=>hi-(intOf rV).toNat)
 case atStart=>exact⟨lo,d,rfl,hlo,HN.out.symm,h0.out,zc.refl _ _,rfl⟩
 case round =>
  obtain⟨r,dk,rfl,hr,hdk,hU,hK,heq⟩:=hrel;obtain⟨c1,hc1⟩:∃c1,c1=2*r+1:=⟨_,rfl⟩;have w1:IntKind.i64.wrap (2*(r:Int))=2*(r:Int):=by rw[IntKind.wrap_i64];omega
  have w2:2*(r:Int)+1=(c1:Int):=by omega
  have w3:IntKind.i64.wrap (c1:Int)=(c1:Int):=by rw[IntKind.wrap_i64];omega
  have HC1:=zH hc1;clear hc1
  by_cases hlt:hi<=c1
  ·have HD:=zH ((zav (first:=first) (d:=dk) (by have:=HC1.out;omega)).symm.trans heq);have i1:(hi:Int)<=(c1:Int):=by omega
   clear heq;go_wp2
   first|refine bodyPost_end (v:=.tuple #[]) (by simp[results,go_sem]) rfl ?_|refine bodyPost_end (v:=.tuple #[]) (by first|simp[results,go_sem]|simp[results,Tryz.results166,go_sem]) rfl ?_|refine bodyPost_ret (v:=.tuple #[]) (by first|simp[results,go_sem]|simp[results,Tryz.results166,go_sem]) rfl ?_
   exact⟨rfl,by rw[<-HD.out];exact hU,hK⟩
  ·have i1:¬(hi:Int)<=(c1:Int):=by omega
   have HAT:Hid (∀c,c=(if (decide (c1+1<hi)&&ltInt dk[first+c1]! dk[first+c1+1]!)=true then c1+1 else c1)->siftDown ltInt hi first r dk=if ltInt dk[first+r]! dk[first+c]! = true then siftDown ltInt hi first c (swp dk (first+r) (first+c)) else dk):=fun c hc=>by
    have:=HC1.out;subst this;exact zeB (by omega) hc
   have HEQ:=zH heq;have hds:=zH hdk;have w4:IntKind.i64.wrap ((c1:Int)+1)=((c1+1:Nat):Int):=by rw[IntKind.wrap_i64];omega
   have HUN:Hid (∀m,UR (wr.drewN m) g dk):=hU.drewN;have HKN:Hid (∀m,KG g w (wr.drewN m)):=hK.drewN;obtain⟨ir,hir⟩:∃ir,ir=first+r:=⟨_,rfl⟩;have HIR:=zH hir;have wr1:(first:Int)+(r:Int)=(ir:Int):=by omega
   have wr2:IntKind.i64.wrap (ir:Int)=(ir:Int):=by rw[IntKind.wrap_i64];omega
   clear heq hir
   by_cases h2:c1+1<hi
   ·have i2:(c1:Int)+1<(hi:Int):=by omega
    obtain⟨ic1,hic1⟩:∃ic,ic=first+c1:=⟨_,rfl⟩;have wd1:(first:Int)+(c1:Int)=(ic1:Int):=by omega
    have wd2:IntKind.i64.wrap (ic1:Int)=(ic1:Int):=by rw[IntKind.wrap_i64];omega
    have wd3:IntKind.i64.wrap ((ic1:Int)+1)=((ic1+1:Nat):Int):=by rw[IntKind.wrap_i64];omega
    have bd1:ic1<n/\ic1+1<n:=by omega
    have qd1:(ic1:Int)<(n:Int):=by omega
    have qd2:((ic1+1:Nat):Int)<(n:Int):=by omega
    have cu:=hU.cell ic1 (by omega);have cv:=hU.cell (ic1+1) (by omega);obtain⟨u,hu⟩:∃x,x=dk[ic1]! := ⟨_,rfl⟩;obtain⟨v,hv⟩:∃y,y=dk[ic1+1]! := ⟨_,rfl⟩;have HCC:Hid (∀B:Bool,decide (u<v)=B->(if (decide (c1+1<hi)&&ltInt dk[first+c1]! dk[first+c1+1]!)=true then c1+1 else c1)=if B=true then c1+1 else c1):=fun B hB=>by
     rw[<-hic1,show ltInt dk[ic1]! dk[ic1+1]! = B by rw[<-hu,<-hv];exact hB,decide_eq_true h2,Bool.true_and]
    rw[<-hu] at cu;rw[<-hv] at cv;have HIC1:=zH hic1;clear hu hv hic1 hU hK hdk
    by_cases huv:u<v
    ·have hd:decide (u<v)=true:=by simpa using huv
     have HAC:=zH (HAT.out (c1+1) (by rw[HCC.out true hd,if_pos rfl]));clear HCC HAT;go_wp2_with fail;go_quiet (first|(go_at_call 133;refine Calls.quiet_of_same (qR _ _ _)));have HU:=zH (HUN.out nq);have HK:=zH (HKN.out nq);generalize wr.drewN nq=X at *;clear HUN HKN cu cv

     have hic:(first+(c1+1))=first+(c1+1):=rfl;have wc2:IntKind.i64.wrap ((first:Int)+((c1:Int)+1))=(first:Int)+((c1:Int)+1):=by rw[IntKind.wrap_i64];omega
     have qc3:(first:Int)+((c1:Int)+1)<(n:Int):=by omega
     have bic:(first+(c1+1))<n/\ir<n/\ir<(first+(c1+1)):=by have:=HIR.out;have:=HC1.out;omega
     have qc1:(((first+(c1+1)):Nat):Int)<(n:Int):=by omega
     have qc2:(ir:Int)<(n:Int):=by omega
     have cx:=HU.out.cell ir (by have:=hds.out;omega);have cy:=HU.out.cell (first+(c1+1)) (by have:=hds.out;omega);have fx:=HU.out.froz ir (by have:=hds.out;omega);have fy:=HU.out.froz (first+(c1+1)) (by have:=hds.out;omega);obtain⟨x,hx⟩:∃x,x=dk[ir]! := ⟨_,rfl⟩;obtain⟨y,hy⟩:∃y,y=dk[(first+(c1+1))]! := ⟨_,rfl⟩;have HA2:Hid ((if decide (x<y)=true then siftDown ltInt hi first (c1+1) (swp dk ir (first+(c1+1))) else dk)=siftDown ltInt hi first lo d):=by
      have:=HAC.out;rw[<-HIR.out,<-hic] at this;rw[hx,hy];exact this.symm.trans HEQ.out
     have HSW:Hid (∀m,UR (((X.drewN m).setCell ⟨g,ir,none⟩ (.int .u64 y)).setCell ⟨g,(first+(c1+1)),none⟩ (.int .u64 x)) g (swp dk ir (first+(c1+1)))):=fun m=>(HU.out.drewN m).swp (by have:=hds.out;omega) (by have:=hds.out;omega) hx hy;have HSK:Hid (∀m,KG g w (((X.drewN m).setCell ⟨g,ir,none⟩ (.int .u64 y)).setCell ⟨g,(first+(c1+1)),none⟩ (.int .u64 x))):=fun m=>(HK.out.drewN m).trans (KG.swp _ _ _ _ _);have HSZ:Hid ((swp dk ir (first+(c1+1))).size=n):=by show _=_;rw[qP];exact hds.out
     have HUM:Hid (∀m,UR (X.drewN m) g dk):=HU.out.drewN;have HKM:Hid (∀m,KG g w (X.drewN m)):=HK.out.drewN;rw[<-hx] at cx;rw[<-hy] at cy;have hne:¬ir=(first+(c1+1)):=by omega
     clear hx hy hic bic HU HK HAC
     by_cases hxy:x<y
     ·have hd:decide (x<y)=true:=by simpa using hxy
      have HQ:=zH (show siftDown ltInt hi first (c1+1) (swp dk ir (first+(c1+1)))=siftDown ltInt hi first lo d from by rw[<-HA2.out,if_pos hd]);have hcr:(c1+1)<=hi/\r<(c1+1):=by have:=HC1.out;omega
      clear HA2 HUM HKM;go_wp2_with fail;go_quiet (first|(go_at_call 133;refine Calls.quiet_of_same (qR _ _ _)));go_wp2_with fail;go_region;go_wp2;go_roundw
      case rel=>exact⟨(c1+1),swp dk ir (first+(c1+1)),by go_num,hcr.1,HSZ.out,HSW.out _,HSK.out _,HQ.out⟩
      case measure=>simp[intOf];omega
     ·have hd:decide (x<y)=false:=by simpa using hxy
      have HQ:=zH (show dk=siftDown ltInt hi first lo d from by rw[<-HA2.out,if_neg (by rw[hd];decide)]);clear HA2 HSW HSK;go_wp2_with fail;go_quiet (first|(go_at_call 133;refine Calls.quiet_of_same (qR _ _ _)));go_wp2
      first|refine bodyPost_end (v:=.tuple #[]) (by simp[results,go_sem]) rfl ?_|refine bodyPost_end (v:=.tuple #[]) (by first|simp[results,go_sem]|simp[results,Tryz.results166,go_sem]) rfl ?_|refine bodyPost_ret (v:=.tuple #[]) (by first|simp[results,go_sem]|simp[results,Tryz.results166,go_sem]) rfl ?_
      exact⟨rfl,by rw[<-HQ.out];exact HUM.out _,HKM.out _⟩
    ·have hd:decide (u<v)=false:=by simpa using huv
     have HAC:=zH (HAT.out c1 (by rw[HCC.out false hd,if_neg (by decide)]));clear HCC HAT;go_wp2_with fail;go_quiet (first|(go_at_call 133;refine Calls.quiet_of_same (qR _ _ _)));have HU:=zH (HUN.out nq);have HK:=zH (HKN.out nq);generalize wr.drewN nq=X at *;clear HUN HKN cu cv;have hic:ic1=first+c1:=HIC1.out;have bic:ic1<n/\ir<n/\ir<ic1:=by have:=HIR.out;have:=HC1.out;omega
     have qc1:((ic1:Nat):Int)<(n:Int):=by omega
     have qc2:(ir:Int)<(n:Int):=by omega
     have cx:=HU.out.cell ir (by have:=hds.out;omega);have cy:=HU.out.cell ic1 (by have:=hds.out;omega);have fx:=HU.out.froz ir (by have:=hds.out;omega);have fy:=HU.out.froz ic1 (by have:=hds.out;omega);obtain⟨x,hx⟩:∃x,x=dk[ir]! := ⟨_,rfl⟩;obtain⟨y,hy⟩:∃y,y=dk[ic1]! := ⟨_,rfl⟩;have HA2:Hid ((if decide (x<y)=true then siftDown ltInt hi first c1 (swp dk ir ic1) else dk)=siftDown ltInt hi first lo d):=by
      have:=HAC.out;rw[<-HIR.out,<-hic] at this;rw[hx,hy];exact this.symm.trans HEQ.out
     have HSW:Hid (∀m,UR (((X.drewN m).setCell ⟨g,ir,none⟩ (.int .u64 y)).setCell ⟨g,ic1,none⟩ (.int .u64 x)) g (swp dk ir ic1)):=fun m=>(HU.out.drewN m).swp (by have:=hds.out;omega) (by have:=hds.out;omega) hx hy;have HSK:Hid (∀m,KG g w (((X.drewN m).setCell ⟨g,ir,none⟩ (.int .u64 y)).setCell ⟨g,ic1,none⟩ (.int .u64 x))):=fun m=>(HK.out.drewN m).trans (KG.swp _ _ _ _ _);have HSZ:Hid ((swp dk ir ic1).size=n):=by show _=_;rw[qP];exact hds.out
     have HUM:Hid (∀m,UR (X.drewN m) g dk):=HU.out.drewN;have HKM:Hid (∀m,KG g w (X.drewN m)):=HK.out.drewN;rw[<-hx] at cx;rw[<-hy] at cy;have hne:¬ir=ic1:=by omega
     clear hx hy hic bic HU HK HAC
     by_cases hxy:x<y
     ·have hd:decide (x<y)=true:=by simpa using hxy
      have HQ:=zH (show siftDown ltInt hi first c1 (swp dk ir ic1)=siftDown ltInt hi first lo d from by rw[<-HA2.out,if_pos hd]);have hcr:c1<=hi/\r<c1:=by have:=HC1.out;omega
      clear HA2 HUM HKM;go_wp2_with fail;go_quiet (first|(go_at_call 133;refine Calls.quiet_of_same (qR _ _ _)));go_wp2_with fail;go_region;go_wp2;go_roundw
      case rel=>exact⟨c1,swp dk ir ic1,rfl,hcr.1,HSZ.out,HSW.out _,HSK.out _,HQ.out⟩
      case measure=>simp[intOf];omega
     ·have hd:decide (x<y)=false:=by simpa using hxy
      have HQ:=zH (show dk=siftDown ltInt hi first lo d from by rw[<-HA2.out,if_neg (by rw[hd];decide)]);clear HA2 HSW HSK;go_wp2_with fail;go_quiet (first|(go_at_call 133;refine Calls.quiet_of_same (qR _ _ _)));go_wp2
      first|refine bodyPost_end (v:=.tuple #[]) (by simp[results,go_sem]) rfl ?_|refine bodyPost_end (v:=.tuple #[]) (by first|simp[results,go_sem]|simp[results,Tryz.results166,go_sem]) rfl ?_|refine bodyPost_ret (v:=.tuple #[]) (by first|simp[results,go_sem]|simp[results,Tryz.results166,go_sem]) rfl ?_
      exact⟨rfl,by rw[<-HQ.out];exact HUM.out _,HKM.out _⟩
   ·have i2:decide ((c1:Int)+1<(hi:Int))=false:=by simp;omega
    have HAC:=zH (HAT.out c1 (by rw[if_neg (by simp;omega)]));clear HAT hU hK hdk;go_wp2_with fail;go_quiet (fail);have HU:=zH (HUN.out nq);have HK:=zH (HKN.out nq);generalize wr.drewN nq=X at *;clear HUN HKN;obtain⟨ic,hic⟩:∃ic,ic=first+c1:=⟨_,rfl⟩;have wc1:(first:Int)+(c1:Int)=(ic:Int):=by omega
    have wc2:IntKind.i64.wrap (ic:Int)=(ic:Int):=by rw[IntKind.wrap_i64];omega
    have bic:ic<n/\ir<n/\ir<ic:=by have:=HIR.out;have:=HC1.out;omega
    have qc1:((ic:Nat):Int)<(n:Int):=by omega
    have qc2:(ir:Int)<(n:Int):=by omega
    have cx:=HU.out.cell ir (by have:=hds.out;omega);have cy:=HU.out.cell ic (by have:=hds.out;omega);have fx:=HU.out.froz ir (by have:=hds.out;omega);have fy:=HU.out.froz ic (by have:=hds.out;omega);obtain⟨x,hx⟩:∃x,x=dk[ir]! := ⟨_,rfl⟩;obtain⟨y,hy⟩:∃y,y=dk[ic]! := ⟨_,rfl⟩;have HA2:Hid ((if decide (x<y)=true then siftDown ltInt hi first c1 (swp dk ir ic) else dk)=siftDown ltInt hi first lo d):=by
     have:=HAC.out;rw[<-HIR.out,<-hic] at this;rw[hx,hy];exact this.symm.trans HEQ.out
    have HSW:Hid (∀m,UR (((X.drewN m).setCell ⟨g,ir,none⟩ (.int .u64 y)).setCell ⟨g,ic,none⟩ (.int .u64 x)) g (swp dk ir ic)):=fun m=>(HU.out.drewN m).swp (by have:=hds.out;omega) (by have:=hds.out;omega) hx hy;have HSK:Hid (∀m,KG g w (((X.drewN m).setCell ⟨g,ir,none⟩ (.int .u64 y)).setCell ⟨g,ic,none⟩ (.int .u64 x))):=fun m=>(HK.out.drewN m).trans (KG.swp _ _ _ _ _);have HSZ:Hid ((swp dk ir ic).size=n):=by show _=_;rw[qP];exact hds.out
    have HUM:Hid (∀m,UR (X.drewN m) g dk):=HU.out.drewN;have HKM:Hid (∀m,KG g w (X.drewN m)):=HK.out.drewN;rw[<-hx] at cx;rw[<-hy] at cy;have hne:¬ir=ic:=by omega
    clear hx hy hic bic HU HK HAC
    by_cases hxy:x<y
    ·have hd:decide (x<y)=true:=by simpa using hxy
     have HQ:=zH (show siftDown ltInt hi first c1 (swp dk ir ic)=siftDown ltInt hi first lo d from by rw[<-HA2.out,if_pos hd]);have hcr:c1<=hi/\r<c1:=by have:=HC1.out;omega
     clear HA2 HUM HKM;go_wp2_with fail;go_quiet (first|(go_at_call 133;refine Calls.quiet_of_same (qR _ _ _)));go_wp2_with fail;go_region;go_wp2;go_roundw
     case rel=>exact⟨c1,swp dk ir ic,rfl,hcr.1,HSZ.out,HSW.out _,HSK.out _,HQ.out⟩
     case measure=>simp[intOf];omega
    ·have hd:decide (x<y)=false:=by simpa using hxy
     have HQ:=zH (show dk=siftDown ltInt hi first lo d from by rw[<-HA2.out,if_neg (by rw[hd];decide)]);clear HA2 HSW HSK;go_wp2_with fail;go_quiet (first|(go_at_call 133;refine Calls.quiet_of_same (qR _ _ _)));go_wp2
     first|refine bodyPost_end (v:=.tuple #[]) (by simp[results,go_sem]) rfl ?_|refine bodyPost_end (v:=.tuple #[]) (by first|simp[results,go_sem]|simp[results,Tryz.results166,go_sem]) rfl ?_|refine bodyPost_ret (v:=.tuple #[]) (by first|simp[results,go_sem]|simp[results,Tryz.results166,go_sem]) rfl ?_
     exact⟨rfl,by rw[<-HQ.out];exact HUM.out _,HKM.out _⟩
end Sr
namespace Sr
open Go.RowKit Go.Maps Go.Proofs.YtapobpgbcbplbaaGreatDoor.Bd Go.Proofs.YtapobpgbcbplbaaGreatDoor.Fm Go.Sort
theorem XX(hi first:Nat):∀(m r:Nat) (d:Array Int),hi-r<=m->(siftDown ltInt hi first r d).size=d.size
 |0,r,d,h=>by rw[zav (by omega)]
 |m+1,r,d,h=>by
  by_cases e:hi<=2*r+1
  ·rw[zav e]
  ·obtain⟨c,hc⟩:∃c,c=if (decide (2*r+1+1<hi)&&ltInt d[first+(2*r+1)]! d[first+(2*r+1)+1]!)=true then 2*r+2 else 2*r+1:=⟨_,rfl⟩;have hc2:c=2*r+2\/c=2*r+1:=by rw[hc];split<;>simp
   rw[zeB (by omega) hc];split
   ·rw[XX hi first m _ _ (by omega),qP]
   ·rfl
theorem zhR(g cap:Nat)(d:Array Int)(a b:Nat)(w:World)(h:UR w g d)(hab:a<b)(hb:b<=d.size)(hsz:d.size<=1000000) :
  zC 128 #[.slice (some ⟨g,0,none⟩) d.size cap,.int .i64 a,.int .i64 b] w fun e w'=>e=.returned (.tuple #[])/\UR w' g (heapSort ltInt d a b)/\KG g w w':=by
 have h0:=zH h;obtain⟨n,hn⟩:∃n,n=d.size:=⟨_,rfl⟩;obtain⟨hi,hhi⟩:∃hi,hi=b-a:=⟨_,rfl⟩;obtain⟨q,hq⟩:∃q,q=(hi-1)/2:=⟨_,rfl⟩;have HS:Hid (heapSort ltInt d a b=heapPop ltInt a hi (heapBuild ltInt hi a (q+1) d)):=by subst hq hhi;exact rfl
 rw[HS.out];rw[<-hn] at hb hsz ⊢;have HN:=zH hn;have w1:IntKind.i64.wrap ((b:Int)-(a:Int))=(hi:Int):=by rw[IntKind.wrap_i64];omega
 have w2:IntKind.i64.wrap ((hi:Int)-1)=((hi-1:Nat):Int):=by rw[IntKind.wrap_i64];omega
 have w3:((hi-1:Nat):Int)/2=(q:Int):=by omega
 have bh:0<hi/\a+hi<=n/\q<hi:=by omega
 clear h hn hhi hq HS;go_enter Tryz.func128,Tryz.ntmps128;go_wp2_with fail;go_loopw [9] (fun iV wr=>∃(z:Int) (k:Nat) (dk:Array Int),iV=.int .i64 z/\z=(k:Int)-1/\k<=q+1/\dk.size=n/\UR wr g dk/\KG g w wr/\heapBuild ltInt hi a k dk=heapBuild ltInt hi a (q+1) d) (fun iV _=>(intOf iV+1).toNat)
 case atStart=>exact⟨_,q+1,d,rfl,by omega,Nat.le_refl _,HN.out.symm,h0.out,zc.refl _ _,rfl⟩
 case round =>
  obtain⟨z,k,dk,rfl,hz,hk,hdk,hU,hK,heq⟩:=hrel;cases k with
  |succ m =>
   have hzm:z=(m:Int):=by omega
   subst hzm;clear hz;have hds:=zH hdk;have HC:=JI g cap dk m hi a wr hU (by omega) (by omega) (by omega);rw[hdk] at HC;have HCC:=zH HC;have HK:=zH hK;have HQ:Hid (heapBuild ltInt hi a m (siftDown ltInt hi a m dk)=heapBuild ltInt hi a (q+1) d):=heq;clear hU hK heq hdk HC;go_wp2_with fail;refine HCC.out.mono ?_;rintro e w4 ⟨rfl,hU4,hK4⟩;have HU4:=zH hU4;have HK4:=zH (HK.out.trans hK4);clear hU4 hK4 HCC HK;go_wp2;go_roundw
   case rel=>exact⟨_,m,siftDown ltInt hi a m dk,rfl,rfl,by omega,by rw[XX hi a hi m dk (by omega)];exact hds.out,HU4.out,HK4.out,HQ.out⟩
   case measure=>first|(simp[intOf];done)|(simp[intOf];omega)
  |zero =>
   have hzm:z=-1:=by omega
   subst hzm;obtain⟨d1,hd1⟩:∃d1,d1=heapBuild ltInt hi a (q+1) d:=⟨_,rfl⟩;have e1:dk=d1:=by rw[hd1,<-heq];rfl
   subst e1;have HD1:=zH hd1;have HST:Hid (∃(z:Int) (k:Nat) (de:Array Int),Value.int .i64 ((hi-1:Nat):Int)=.int .i64 z/\z=(k:Int)-1/\k<=hi/\de.size=n/\UR wr g de/\KG g w wr/\heapPop ltInt a k de=heapPop ltInt a hi dk):=⟨_,hi,dk,rfl,by omega,Nat.le_refl _,hdk,hU,hK,rfl⟩;clear hU hK heq hd1 hz hdk w3;go_wp2_with fail;go_loopw [10] (fun iV wq=>∃(z:Int) (k:Nat) (de:Array Int),iV=.int .i64 z/\z=(k:Int)-1/\k<=hi/\de.size=n/\UR wq g de/\KG g w wq/\heapPop ltInt a k de=heapPop ltInt a hi dk) (fun iV _=>(intOf iV+1).toNat)
   case atStart=>exact HST.out
   case round =>
    obtain⟨z,k,de,rfl,hz,hk,hdk,hU,hK,heq⟩:=hrel;clear HST;cases k with
    |succ m =>
     have hzm:z=(m:Int):=by omega
     subst hzm;clear hz w2
     by_cases hm0:m=0
     ·subst hm0;have hds:Hid ((swp de a a).size=n):=by show _=_;rw[qP];exact hdk
      have cx:=hU.cell a (by omega);have fx:=hU.froz a (by omega);obtain⟨x,hx⟩:∃x,x=de[a]! := ⟨_,rfl⟩;have HSW:=zH (hU.swp (i:=a) (j:=a) (by omega) (by omega) hx hx).drew;have HSK:=zH (hK.trans (KG.swp (g:=g) wr a a (.int .u64 x) (.int .u64 x))).drew;have HQ:Hid (heapPop ltInt a 0 (siftDown ltInt 0 a 0 (swp de a a))=heapPop ltInt a hi dk):=heq;have i1:(a:Int)<(n:Int):=by omega
      rw[<-hx] at cx;clear hU hK heq hx hdk;go_wp2_with fail;go_region;obtain⟨W,hW⟩:∃W,W=((wr.setCell ⟨g,a,none⟩ (.int .u64 x)).setCell ⟨g,a,none⟩ (.int .u64 x)).drew:=⟨_,rfl⟩;rw[<-hW] at HSW HSK ⊢;clear hW cx fx;have HC:=JI g cap (swp de a a) 0 0 a W HSW.out (by have:=hds.out;omega) (by have:=hds.out;omega) (by omega);rw[hds.out] at HC;have HCC:=zH HC;clear HC;go_wp2_with fail;refine HCC.out.mono ?_;rintro e w4 ⟨rfl,hU4,hK4⟩;have HU4:=zH hU4;have HK4:=zH (HSK.out.trans hK4);clear hU4 hK4 HCC HSK HSW;go_wp2;go_roundw
      case rel=>exact⟨_,0,siftDown ltInt 0 a 0 (swp de a a),rfl,rfl,by omega,by rw[XX 0 a 0 0 _ (by omega)];exact hds.out,HU4.out,HK4.out,HQ.out⟩
      case measure=>simp[intOf]
     ·have hds:Hid ((swp de a (a+m)).size=n):=by show _=_;rw[qP];exact hdk
      have cx:=hU.cell a (by omega);have fx:=hU.froz a (by omega);have cy:=hU.cell (a+m) (by omega);have fy:=hU.froz (a+m) (by omega);obtain⟨x,hx⟩:∃x,x=de[a]! := ⟨_,rfl⟩;obtain⟨y,hy⟩:∃y,y=de[a+m]! := ⟨_,rfl⟩;have HSW:=zH (hU.swp (i:=a) (j:=a+m) (by omega) (by omega) hx hy).drew;have HSK:=zH (hK.trans (KG.swp (g:=g) wr a (a+m) (.int .u64 y) (.int .u64 x))).drew;have HQ:Hid (heapPop ltInt a m (siftDown ltInt m a 0 (swp de a (a+m)))=heapPop ltInt a hi dk):=heq;have i1:(a:Int)<(n:Int):=by omega
      have i2:(a:Int)+(m:Int)<(n:Int):=by omega
      have hne:¬a=a+m:=by omega
      rw[<-hy] at cy;rw[<-hx] at cx;clear hU hK heq hx hy hdk;go_wp2_with fail;go_region;obtain⟨W,hW⟩:∃W,W=((wr.setCell ⟨g,a,none⟩ (.int .u64 y)).setCell ⟨g,(a+m),none⟩ (.int .u64 x)).drew:=⟨_,rfl⟩;rw[<-hW] at HSW HSK ⊢;clear hW cx fx cy fy;have HC:=JI g cap (swp de a (a+m)) 0 m a W HSW.out (by have:=hds.out;omega) (by have:=hds.out;omega) (by omega);rw[hds.out] at HC;have HCC:=zH HC;clear HC;go_wp2_with fail;refine HCC.out.mono ?_;rintro e w4 ⟨rfl,hU4,hK4⟩;have HU4:=zH hU4;have HK4:=zH (HSK.out.trans hK4);clear hU4 hK4 HCC HSK HSW;go_wp2;go_roundw
      case rel=>exact⟨_,m,siftDown ltInt m a 0 (swp de a (a+m)),rfl,rfl,by omega,by rw[XX m a m 0 _ (by omega)];exact hds.out,HU4.out,HK4.out,HQ.out⟩
      case measure=>first|(simp[intOf];done)|(simp[intOf];omega)
    |zero =>
     have hzm:z=-1:=by omega
     subst hzm;have HD:Hid (de=heapPop ltInt a hi dk):=heq;clear heq hz;go_wp2
     first|refine bodyPost_end (v:=.tuple #[]) (by simp[results,go_sem]) rfl ?_|refine bodyPost_end (v:=.tuple #[]) (by simp[results,Tryz.results128,go_sem]) rfl ?_
     exact⟨rfl,by rw[<-HD1.out,<-HD.out];exact hU,hK⟩
end Sr
namespace Sr
open Go.RowKit Go.Maps Go.Proofs.YtapobpgbcbplbaaGreatDoor.Bd Go.Proofs.YtapobpgbcbplbaaGreatDoor.Fm Go.Sort
theorem zkp{d:Array Int}{a b:Nat}(h:a<b):a<=(choosePivot ltInt d a b).1/\(choosePivot ltInt d a b).1<b:=choosePivot_holds ltInt d a b h
def ZG(g n a b:Nat)(d:Array Int)(w:World)(e:Ending)(w':World):Prop:=∃d',e=.returned (.tuple #[])/\d'.size=n/\UR w' g d'/\PermIn a b d d'/\SortedIn ltInt a b d'/\KG g w w'
theorem zjY(g cap n:Nat)(hn:n<256)(N:Nat)
  (ih:∀(a b lim:Nat) (d:Array Int) (w:World),b-a<N->UR w g d->d.size=n->a<=b->b<=n->Go.Sort.Below ltInt a b d->lim<=1000->zC 79 #[.slice (some ⟨g,0,none⟩) n cap,.int .i64 a,.int .i64 b,.int .i64 lim] w (ZG g n a b d w))
  (a b lim:Nat) (d:Array Int) (w:World) (hN:b-a<=N) (h:UR w g d) (hd:d.size=n) (hab:a<=b) (hb:b<=n) (hB:Go.Sort.Below ltInt a b d) (hl:lim<=1000) :
  zC 79 #[.slice (some ⟨g,0,none⟩) n cap,.int .i64 a,.int .i64 b,.int .i64 lim] w (ZG g n a b d w):=by
 have IH:=zH ih;have h0:=zH h;have HD:=zH hd;have HB0:=zH hB;clear ih h hd hB;go_enter Tryz.func79,Tryz.ntmps79;go_wp2_with fail;go_loopw [1,2,3,8,9] (fun aV bV lV BV PV wr=>∃(a1 b1 l1:Nat) (B P:Bool) (dk:Array Int),aV=.int .i64 a1/\bV=.int .i64 b1/\lV=.int .i64 l1/\BV=.bool B/\PV=.bool P/\a1<=b1/\b1<=n/\b1-a1<=N/\l1<=1000/\dk.size=n/\UR wr g dk/\KG g w wr/\Go.Sort.Below ltInt a1 b1 dk/\∀R,PermIn a1 b1 dk R->SortedIn ltInt a1 b1 R->PermIn a b d R/\SortedIn ltInt a b R) (fun aV bV _ _ _ _=>(intOf bV).toNat-(intOf aV).toNat)
 case atStart=>exact⟨a,b,lim,true,true,d,rfl,rfl,rfl,rfl,rfl,hab,hb,hN,hl,HD.out,h0.out,zc.refl _ _,HB0.out,fun R h1 h2=>⟨h1,h2⟩⟩
 case round =>
  obtain⟨X0,hX⟩:∃X,X=wr:=⟨_,rfl⟩;subst hX;obtain⟨a1,b1,l1,B,P,dk,rfl,rfl,rfl,rfl,rfl,c1,c2,c3,c4,hdk,hU,hK,hBl,hCt⟩:=hrel;have HU:=zH hU;have HK:=zH hK;have HBL:=zH hBl;have HCT:=zH hCt;have HDK:=zH hdk;obtain⟨L,hL⟩:∃L,L=b1-a1:=⟨_,rfl⟩;have wl:IntKind.i64.wrap ((b1:Int)-(a1:Int))=(L:Int):=by rw[IntKind.wrap_i64];omega
  have HL:=zH hL;have hLs:a1+L=b1:=by omega
  clear hU hK hBl hCt hdk hL HB0 HD h0
  by_cases h12:L<=12
  ·have i12:(L:Int)<=12:=by omega
   have HI:=zjd g cap dk a1 b1 X0 HU.out c1 (by rw[HDK.out];exact c2) (by rw[HDK.out];omega);rw[HDK.out] at HI;have HII:=zH HI;clear HI;go_wp2_with fail;refine HII.out.mono ?_;rintro e w2 ⟨rfl,hU2,hK2⟩;obtain⟨p1,p2⟩:=insertionSort_holds swo_ltInt dk a1 b1 c1 (by rw[HDK.out];exact c2);have HF:Hid (ZG g n a b d w (.returned (.tuple #[])) w2):=⟨_,rfl,by rw[p1.1];exact HDK.out,hU2,(HCT.out _ p1 p2).1,(HCT.out _ p1 p2).2,HK.out.trans hK2⟩;clear hU2 hK2 p1 p2 HII HU HK HCT HBL;go_wp2
   first|refine bodyPost_ret (v:=.tuple #[]) (by first|simp[results,go_sem]|simp[results,Tryz.results79,go_sem]) rfl ?_|refine bodyPost_end (v:=.tuple #[]) (by first|simp[results,go_sem]|simp[results,Tryz.results79,go_sem]) rfl ?_
   exact HF.out
  have i12:¬(L:Int)<=12:=by omega
  have hab1:a1<b1:=by omega
  by_cases hl0:l1=0
  ·subst hl0;have HI:=zhR g cap dk a1 b1 X0 HU.out hab1 (by rw[HDK.out];exact c2) (by rw[HDK.out];omega);rw[HDK.out] at HI;have HII:=zH HI;clear HI;go_wp2_with fail;refine HII.out.mono ?_;rintro e w2 ⟨rfl,hU2,hK2⟩;obtain⟨p1,p2⟩:=heapSort_holds swo_ltInt dk a1 b1 c1 (by rw[HDK.out];exact c2);have HF:Hid (ZG g n a b d w (.returned (.tuple #[])) w2):=⟨_,rfl,by rw[p1.1];exact HDK.out,hU2,(HCT.out _ p1 p2).1,(HCT.out _ p1 p2).2,HK.out.trans hK2⟩;clear hU2 hK2 p1 p2 HII HU HK HCT HBL;go_wp2
   first|refine bodyPost_ret (v:=.tuple #[]) (by first|simp[results,go_sem]|simp[results,Tryz.results79,go_sem]) rfl ?_|refine bodyPost_end (v:=.tuple #[]) (by first|simp[results,go_sem]|simp[results,Tryz.results79,go_sem]) rfl ?_
   exact HF.out
  have il0:(((l1:Int))==0)=false:=by rw[beq_eq_false_iff_ne];omega
  obtain⟨lm,hlm⟩:∃lm,lm=l1-1:=⟨_,rfl⟩;have wlm:IntKind.i64.wrap ((l1:Int)-1)=(lm:Int):=by rw[IntKind.wrap_i64];omega
  have hlm2:lm<=1000:=by omega
  clear hlm;go_upto_if 35 with fail;go_cut [3] (fun v wx=>∃(l2:Nat) (d1:Array Int),v=.int .i64 l2/\l2<=1000/\UR wx g d1/\PermIn a1 b1 dk d1/\KG g w wx)
  case first =>
   cases B with
   |true =>
    go_wp2_with fail;go_meet
    case rel=>exact⟨l1,dk,rfl,c4,HU.out,permIn_refl _ _ _,HK.out⟩
   |false =>
    have HI:=zie g cap dk a1 b1 X0 HU.out (by omega) (by rw[HDK.out];exact c2) (by rw[HDK.out];omega);rw[HDK.out] at HI;have HII:=zH HI;have HKK:=zH HK.out;clear HI HU HK HCT HBL;go_wp2_with fail;refine HII.out.mono ?_;rintro e w2 ⟨d1,rfl,hU2,hP2,hK2⟩;have HF:=zH (⟨hU2,hP2,HKK.out.trans hK2⟩:UR w2 g d1/\PermIn a1 b1 dk d1/\KG g w w2);clear hU2 hP2 hK2 HII;go_wp2_with fail;go_meet
    case rel=>exact⟨lm,d1,rfl,hlm2,HF.out.1,HF.out.2.1,HF.out.2.2⟩
  case rest =>
   obtain⟨X1,hY⟩:∃Y,Y=wc:=⟨_,rfl⟩;subst hY;obtain⟨l2,d1,rfl,hl2,hU,hP,hK⟩:=hcut;have HU1:=zH hU;have HK1:=zH hK;have HP1:=zH hP;have HD1:Hid (d1.size=n):=hP.1.trans HDK.out;clear hU hK hP HU HK;have HI:=zoL g cap d1 a1 b1 X1 HU1.out (by omega) (by rw[HD1.out];exact c2) (by rw[HD1.out];omega);rw[HD1.out] at HI;have hpr:=zkp (d:=d1) hab1;obtain⟨p,hp⟩:∃p,p=(choosePivot ltInt d1 a1 b1).1:=⟨_,rfl⟩;obtain⟨H,hH⟩:∃H,H=(choosePivot ltInt d1 a1 b1).2:=⟨_,rfl⟩;rw[<-hp,<-hH] at HI;rw[<-hp] at hpr;have HII:=zH HI;clear HI hp hH wlm il0;go_wp2_with fail;refine HII.out.mono ?_;rintro e X2 ⟨rfl,hb2⟩;have HU2:=zH (HU1.out.kept (zc.of_below hb2 (fun _=>False)) (fun h=>h));have HK2:Hid (KG g w X2):=HK1.out.trans (zc.of_below hb2 _);clear hb2 HII HU1 HK1;obtain⟨hv,hhv⟩:∃hv,hv=zbp H:=⟨_,rfl⟩;rw[<-hhv];clear hhv;have wp1:IntKind.i64.wrap ((b1:Int)-1)=(b1:Int)-1:=by rw[IntKind.wrap_i64];omega
   have wp2:IntKind.i64.wrap ((p:Int)-(a1:Int))=(p:Int)-(a1:Int):=by rw[IntKind.wrap_i64];omega
   obtain⟨p2,hp2⟩:∃p2,p2=(b1-1)-(p-a1):=⟨_,rfl⟩;have wp3:IntKind.i64.wrap ((b1:Int)-1-((p:Int)-(a1:Int)))=(b1:Int)-1-((p:Int)-(a1:Int)):=by rw[IntKind.wrap_i64];omega
   have hp2e:Value.int .i64 ((b1:Int)-1-((p:Int)-(a1:Int)))=.int .i64 p2:=by congr 1;omega
   have hp2r:a1<=p2/\p2<b1:=by omega
   have HP2E:=zH hp2e;clear hp2 hp2e;go_upto_if 50 with fail;go_cut [11,12] (fun v u wx=>∃(q:Nat) (z:Int) (d2:Array Int),v=.int .i64 q/\u=.int .i64 z/\a1<=q/\q<b1/\UR wx g d2/\PermIn a1 b1 d1 d2/\KG g w wx)
   case first =>
    have HKK:=zH HK2.out;have HUU:=zH HU2.out
    by_cases h2:hv=2
    ·subst h2;have HI:=zh1 g cap d1 a1 b1 X2 HUU.out hab1 (by rw[HD1.out];exact c2) (by rw[HD1.out];omega);rw[HD1.out] at HI;have HII:=zH HI;clear HI HU2 HK2 HCT HBL;go_wp2_with fail;refine HII.out.mono ?_;rintro e w2 ⟨rfl,hU3,hK3⟩;have hperm:=reverseRange_holds d1 a1 b1 c1 (by rw[HD1.out];exact c2);have HF:=zH (⟨hU3,hperm,HKK.out.trans hK3⟩:UR w2 g (reverseRange d1 a1 b1)/\PermIn a1 b1 d1 (reverseRange d1 a1 b1)/\KG g w w2);clear hU3 hK3 hperm HII;go_wp2_with fail;go_meet
     case rel=>exact⟨p2,1,_,HP2E.out,rfl,hp2r.1,hp2r.2,HF.out.1,HF.out.2.1,HF.out.2.2⟩
    ·have ih2:(hv==2)=false:=by rw[beq_eq_false_iff_ne];exact h2
     clear HU2 HK2 HCT HBL;go_wp2_with fail;go_meet
     case rel=>exact⟨p,hv,d1,rfl,rfl,hpr.1,hpr.2,HUU.out,permIn_refl _ _ _,HKK.out⟩
   case rest =>
    obtain⟨X3,hY⟩:∃Y,Y=wc:=⟨_,rfl⟩;subst hY;obtain⟨q,z,d2,rfl,rfl,hq1,hq2,hU,hP,hK⟩:=hcut;have HU3:=zH hU;have HK3:=zH hK;have HP2:=zH (permIn_trans _ _ _ a1 b1 HP1.out hP);have HD2:Hid (d2.size=n):=hP.1.trans HD1.out;clear hU hK hP HU2 HK2 HP1 HP2E wp1 wp2 wp3 hp2r hpr HD1;go_upto_region 15 with fail;go_cut [68] (fun v wx=>(∃E:Bool,v=.bool E)/\UR wx g d2/\KG g w wx)
    case first =>
     have HKK:=zH HK3.out;have HUU:=zH HU3.out;clear HU3 HK3 HCT HBL HP2;cases B with
     |false =>
      go_wp2_with fail;go_meet
      case rel=>exact⟨⟨_,rfl⟩,HUU.out,HKK.out⟩
     |true =>
      cases P with
      |false =>
       go_wp2_with fail;go_meet
       case rel=>exact⟨⟨_,rfl⟩,HUU.out,HKK.out⟩
      |true =>
       go_wp2_with fail;go_meet
       case rel=>exact⟨⟨_,rfl⟩,HUU.out,HKK.out⟩
    case rest =>
     obtain⟨X3b,hY⟩:∃Y,Y=wc:=⟨_,rfl⟩;subst hY;obtain⟨⟨E,rfl⟩,hU,hK⟩:=hcut;clear HU3 HK3;have HU3:=zH hU;have HK3:=zH hK;clear hU hK;go_upto_if 68 with fail;go_cut [] (fun wx=>∃d3:Array Int,UR wx g d3/\PermIn a1 b1 d2 d3/\KG g w wx)
     case first =>
      have HKK:=zH HK3.out;have HUU:=zH HU3.out;have HFIN:Hid (∀wx,UR wx g d2->KG g w wx->∃d3:Array Int,UR wx g d3/\PermIn a1 b1 d2 d3/\KG g w wx):=fun wx h1 h2=>⟨d2,h1,permIn_refl _ _ _,h2⟩;cases E with
      |true =>
       have HI:=zk9 g cap d2 a1 b1 X3b HUU.out hab1 (by rw[HD2.out];exact c2) (by rw[HD2.out];omega);rw[HD2.out] at HI;have hB2:=Go.Sort.Below.perm HBL.out (by rw[HDK.out];exact c2) HP2.out;obtain⟨p1,p2'⟩:=partialInsertionSort_holds swo_ltInt d2 a1 b1 hab1 (by rw[HD2.out];exact c2) hB2;have HSRT:=zH p2';have HPRM:=zH p1;obtain⟨ok,hok⟩:∃ok,ok=(partialInsertionSort ltInt d2 a1 b1).2:=⟨_,rfl⟩;rw[<-hok] at HI HSRT;have HII:=zH HI;clear HI HU3 HK3 hB2 p1 p2' hok HFIN;go_wp2_with fail;refine HII.out.mono ?_;rintro e w2 ⟨rfl,hU4,hK4⟩;have HU4:=zH hU4;have HK4:=zH (HKK.out.trans hK4);clear hU4 hK4 HII;cases ok with
       |true =>
        have HF:Hid (ZG g n a b d w (.returned (.tuple #[])) w2):=by
         have s:=HCT.out _ (permIn_trans _ _ _ a1 b1 HP2.out HPRM.out) (HSRT.out rfl);exact⟨_,rfl,by rw[HPRM.out.1];exact HD2.out,HU4.out,s.1,s.2,HK4.out⟩
        clear HU4 HK4 HPRM HSRT HCT HBL HP2;go_wp2
        first|refine bodyPost_ret (v:=.tuple #[]) (by first|simp[results,go_sem]|simp[results,Tryz.results79,go_sem]) rfl ?_|refine bodyPost_end (v:=.tuple #[]) (by first|simp[results,go_sem]|simp[results,Tryz.results79,go_sem]) rfl ?_
        exact HF.out
       |false =>
        clear HSRT HCT HBL HP2;go_wp2_with fail;go_meet
        case rel=>exact⟨_,HU4.out,HPRM.out,HK4.out⟩
      |false =>
       clear HU3 HK3 HCT HBL HP2;go_wp2_with fail;go_meet
       case rel=>exact HFIN.out _ HUU.out HKK.out
     case rest =>
      obtain⟨X4,hY⟩:∃Y,Y=wc:=⟨_,rfl⟩;subst hY;obtain⟨d3,hU,hP,hK⟩:=hcut;have HU4:=zH hU;have HK4:=zH hK;have HP3:=zH (permIn_trans _ _ _ a1 b1 HP2.out hP);have HD3:Hid (d3.size=n):=hP.1.trans HD2.out;have HB3:Hid (Go.Sort.Below ltInt a1 b1 d3):=Go.Sort.Below.perm HBL.out (by rw[HDK.out];exact c2) HP3.out;clear hU hK hP HU3 HK3 HP2 HD2 HBL;obtain⟨C,hC⟩:∃C,C=(decide (0<a1)&&!ltInt (d3:Array Int)[a1-1]! (d3:Array Int)[q]!):=⟨_,rfl⟩;have HC:=zH hC;obtain⟨am,ham⟩:∃am,am=a1-1:=⟨_,rfl⟩;have wam:0<a1->IntKind.i64.wrap ((a1:Int)-1)=(am:Int):=fun h=>by rw[IntKind.wrap_i64];omega
      have HAM:=zH ham;have HWAM:=zH wam;clear hC ham wam;go_upto_region 17 with fail;go_cut [87] (fun v wx=>v=.bool C/\UR wx g d3/\KG g w wx)
      case first =>
       have HUN:Hid (∀m,UR (X4.drewN m) g d3):=HU4.out.drewN;have HKN:Hid (∀m,KG g w (X4.drewN m)):=HK4.out.drewN
       by_cases h0a:0<a1
       ·have waa:=HWAM.out h0a;have bi:am<d3.size/\q<d3.size:=by rw[HD3.out];have:=HAM.out;omega
        have cx:=HU4.out.cell am bi.1;have cy:=HU4.out.cell q bi.2;have i1:(am:Int)<(n:Int):=by have:=HD3.out;omega
        have i2:(q:Int)<(n:Int):=by have:=HD3.out;omega
        have i3:(0:Int)<(a1:Int):=by omega
        obtain⟨x,hx⟩:∃x,x=(d3:Array Int)[am]! := ⟨_,rfl⟩;obtain⟨y,hy⟩:∃y,y=(d3:Array Int)[q]! := ⟨_,rfl⟩;have HBV:Hid (Value.bool (!decide (x<y))=.bool C):=by
         rw[HC.out,decide_eq_true h0a,Bool.true_and,<-HAM.out,hx,hy];rfl
        rw[<-hx] at cx;rw[<-hy] at cy;clear hx hy bi HC HU4 HK4 HCT HB3 HP3;go_wp2_with fail;go_quiet (first|(go_at_call 133;refine Calls.quiet_of_same (qR _ _ _)));go_wp2_with fail;go_meet
        case rel=>exact⟨HBV.out,HUN.out _,HKN.out _⟩
       ·have i3:decide ((0:Int)<(a1:Int))=false:=by simp;omega
        have i4:a1=0:=by omega
        have HBV:Hid (Value.bool false=.bool C):=by
         rw[HC.out,decide_eq_false h0a,Bool.false_and];exact rfl
        clear HC HU4 HK4 HCT HB3 HP3;go_wp2_with fail;go_quiet (fail);go_wp2_with fail;go_meet
        case rel=>exact⟨HBV.out,HUN.out _,HKN.out _⟩
      case rest =>
       obtain⟨X5,hY⟩:∃Y,Y=wc:=⟨_,rfl⟩;subst hY;obtain⟨rfl,hU,hK⟩:=hcut;have HU5:=zH hU;have HK5:=zH hK;clear hU hK HU4 HK4;have hq2n:q<n:=by omega
       cases C with
       |true =>
        have hc2:=(Bool.and_eq_true _ _).mp HC.out.symm;have h0a:0<a1:=of_decide_eq_true hc2.1;have hnl:ltInt d3[a1-1]! d3[q]! = false:=by simpa using hc2.2
        obtain⟨m2,d4,hx⟩:∃m2 d4,partitionEqual ltInt d3 a1 b1 q=(m2,d4):=⟨_,_,rfl⟩;obtain⟨r1,r2,r3,r4,r5⟩:=round_eq swo_ltInt (partitionEqual_holds _) h0a hq1 hq2 (by rw[HD3.out];exact c2) HB3.out hnl hx;have HI:=zh8 g cap d3 a1 b1 q X5 HU5.out hq1 hq2 (by rw[HD3.out];exact c2) (by rw[HD3.out];omega);rw[HD3.out,hx] at HI;have HII:=zH HI;have HR4:=zH r4;have HR5:=zH r5;have HR3:Hid (d4.size=n):=r3.trans HD3.out;clear HI r3 r4 r5 hx hc2 hnl HC;go_wp2_with fail;refine HII.out.mono ?_;rintro e w6 ⟨rfl,hU6,hK6⟩;have HU6:=zH hU6;have HK6:=zH (HK5.out.trans hK6);have HCC:Hid (∀R,PermIn m2 b1 d4 R->SortedIn ltInt m2 b1 R->PermIn a b d R/\SortedIn ltInt a b R):=fun R h1 h2=>HCT.out R (permIn_trans _ _ _ a1 b1 HP3.out (HR5.out R h1 h2).1) (HR5.out R h1 h2).2;clear hU6 hK6 HII HCT HP3 HR5 HU5 HK5;go_wp2;go_roundw
        case rel=>first|exact⟨m2,b1,l2,B,P,d4,rfl,rfl,rfl,rfl,rfl,r2,c2,by omega,hl2,HR3.out,HU6.out,HK6.out,HR4.out,HCC.out⟩|((repeat apply Exists.intro);exact⟨⟨m2,b1,l2,B,P,d4,rfl,rfl,rfl,rfl,rfl,r2,c2,by omega,hl2,HR3.out,HU6.out,HK6.out,HR4.out,HCC.out⟩,rfl⟩)
        case measure=>first|(simp[intOf];done)|(simp[intOf];omega)
       |false =>
        obtain⟨m2,ap,d4,hx⟩:∃m2 ap d4,Go.Sort.partition ltInt d3 a1 b1 q=(m2,ap,d4):=⟨_,_,_,rfl⟩;obtain⟨r1,r2,r3,r4,r5,r6,r7⟩:=round_part swo_ltInt (partition_holds _) hq1 hq2 (by rw[HD3.out];exact c2) HB3.out hx;have HI:=J7 g cap d3 a1 b1 q X5 HU5.out hq1 hq2 (by rw[HD3.out];exact c2) (by rw[HD3.out];omega);rw[HD3.out,hx] at HI;have HII:=zH HI;have HR4:=zH r4;have HR5:=zH r5;have HR6:=zH r6;have HR7:=zH r7;have HR3:Hid (d4.size=n):=r3.trans HD3.out;clear HI r3 r4 r5 r6 r7 hx HC;go_wp2_with fail;refine HII.out.mono ?_;rintro e w6 ⟨rfl,hU6,hK6⟩;have HU6:=zH hU6;have HK6:=zH (HK5.out.trans hK6);have s1:IntKind.i64.wrap ((m2:Int)-(a1:Int))=(m2:Int)-(a1:Int):=by rw[IntKind.wrap_i64];omega
        have s2:IntKind.i64.wrap ((b1:Int)-(m2:Int))=(b1:Int)-(m2:Int):=by rw[IntKind.wrap_i64];omega
        have s3:IntKind.i64.wrap ((m2:Int)+1)=((m2+1:Nat):Int):=by rw[IntKind.wrap_i64];omega
        clear hU6 hK6 HII HU5 HK5
        by_cases hlr:m2-a1<b1-m2
        ·have ilr:(m2:Int)-(a1:Int)<(b1:Int)-(m2:Int):=by omega
         have HRC:=zH (IH.out a1 m2 l2 d4 w6 (by omega) HU6.out HR3.out r1 (by omega) HR4.out hl2);unfold ZG at HRC;clear HR4 HR5 HR7;go_wp2_with fail;refine HRC.out.mono ?_;rintro e w7 ⟨d5,rfl,hd5,hU7,hP7,hS7,hK7⟩;obtain⟨t1,t2⟩:=HR6.out d5 hP7 hS7;have HU7:=zH hU7;have HK7:=zH (HK6.out.trans hK7);have HT1:=zH t1;have HCC:Hid (∀R,PermIn (m2+1) b1 d5 R->SortedIn ltInt (m2+1) b1 R->PermIn a b d R/\SortedIn ltInt a b R):=fun R h1 h2=>HCT.out R (permIn_trans _ _ _ a1 b1 HP3.out (t2 R h1 h2).1) (t2 R h1 h2).2;have HD5:=zH hd5;clear hU7 hK7 t1 t2 hP7 hS7 hd5 HRC HR6 HCT HP3 HU6 HK6;go_wp2;go_roundw
         case rel=>first|exact⟨m2+1,b1,l2,_,ap,d5,by first|rfl|go_num|(congr 1;omega),rfl,rfl,rfl,rfl,by omega,c2,by omega,hl2,HD5.out,HU7.out,HK7.out,HT1.out,HCC.out⟩|((repeat apply Exists.intro);exact⟨⟨m2+1,b1,l2,_,ap,d5,by first|rfl|go_num|(congr 1;omega),rfl,rfl,rfl,rfl,by omega,c2,by omega,hl2,HD5.out,HU7.out,HK7.out,HT1.out,HCC.out⟩,rfl⟩)
         case measure=>first|(simp[intOf];done)|(simp[intOf];omega)
        ·have ilr:¬(m2:Int)-(a1:Int)<(b1:Int)-(m2:Int):=by omega
         have HRC:=zH (IH.out (m2+1) b1 l2 d4 w6 (by omega) HU6.out HR3.out (by omega) c2 HR5.out hl2);unfold ZG at HRC;clear HR4 HR5 HR6;go_wp2_with fail;refine HRC.out.mono ?_;rintro e w7 ⟨d5,rfl,hd5,hU7,hP7,hS7,hK7⟩;obtain⟨t1,t2⟩:=HR7.out d5 hP7 hS7;have HU7:=zH hU7;have HK7:=zH (HK6.out.trans hK7);have HT1:=zH t1;have HCC:Hid (∀R,PermIn a1 m2 d5 R->SortedIn ltInt a1 m2 R->PermIn a b d R/\SortedIn ltInt a b R):=fun R h1 h2=>HCT.out R (permIn_trans _ _ _ a1 b1 HP3.out (t2 R h1 h2).1) (t2 R h1 h2).2;have HD5:=zH hd5;clear hU7 hK7 t1 t2 hP7 hS7 hd5 HRC HR7 HCT HP3 HU6 HK6;go_wp2;go_roundw
         case rel=>first|exact⟨a1,m2,l2,_,ap,d5,rfl,rfl,rfl,rfl,rfl,r1,by omega,by omega,hl2,HD5.out,HU7.out,HK7.out,HT1.out,HCC.out⟩|((repeat apply Exists.intro);exact⟨⟨a1,m2,l2,_,ap,d5,rfl,rfl,rfl,rfl,rfl,r1,by omega,by omega,hl2,HD5.out,HU7.out,HK7.out,HT1.out,HCC.out⟩,rfl⟩)
         case measure=>first|(simp[intOf];done)|(simp[intOf];omega)
theorem zbI(g cap n:Nat)(hn:n<256):∀(N a b lim:Nat) (d:Array Int) (w:World),b-a<N->UR w g d->d.size=n->a<=b->b<=n->Go.Sort.Below ltInt a b d->lim<=1000->zC 79 #[.slice (some ⟨g,0,none⟩) n cap,.int .i64 a,.int .i64 b,.int .i64 lim] w (ZG g n a b d w)
 |0,a,b,lim,d,w,h,_,_,_,_,_,_=>absurd h (Nat.not_lt_zero _)
 |N+1,a,b,lim,d,w,h,h1,h2,h3,h4,h5,h6=>zjY g cap n hn N (zbI g cap n hn N) a b lim d w (by omega) h1 h2 h3 h4 h5 h6
end Sr
end Go.Proofs.YtapobpgbcbplbaaGreatDoor
