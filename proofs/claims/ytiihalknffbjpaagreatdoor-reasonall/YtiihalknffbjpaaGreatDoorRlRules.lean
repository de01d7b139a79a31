/- The reference's Rules. -/
import Derived.Test.YtiihalknffbjpaaGreatDoorRlItems
set_option maxHeartbeats 16000000
set_option maxRecDepth 100000
namespace Go.Proofs.YtiihalknffbjpaaGreatDoor
open Go.RowKit Go.Deep Sv
theorem zhv:(Tryz.prog.info? 81).map (fun i=>(i.zero,i.size,i.bytes))=some (some (.slice none 0 0),1,24):=by kernel_rfl
theorem ZA{x:Int}(h0:-10000<=x)(h1:x<=10000):IntKind.i64.wrap x=x:=by rw[IntKind.wrap_i64];omega
theorem zgp{its:List It}{k j:Nat}(h:(its.getD j default).name=(its.getD k default).name):pr0 its k j=[(-1,[zp (j:Int),zp (k:Int)])]:=by unfold pr0;rw[if_pos h]
theorem zgx{its:List It}{k j:Nat}(h:¬(its.getD j default).name=(its.getD k default).name):pr0 its k j=[]:=by unfold pr0;rw[if_neg h]
def zeE(w:World)(P:List (Int × List Int))(e:Ending)(w':World):Prop:=∃cv fv,e=.returned (.tuple #[cv,fv,.bool (decide (P.length<=200))])/\RS w.heap.size w' cv fv (P.map Prod.snd) (P.map Prod.fst)/\zB w w'
theorem zcM(ls:List Ln)(its:List It)(v:Value)(w:World)(h:RLs w v ls)(hl:ls.length<=100)(hi24:its.length<=24)(hri:qc ls []=its)(hasc:Asc its) :
  zC 72 #[v] w (zeE w (ofL its ls)):=by
 obtain⟨va,vc,rfl⟩:∃va vc,v=.slice va ls.length vc:=by obtain⟨vs,_,h2⟩:=h;obtain⟨a,c,e,_⟩:=h2.form;exact⟨a,c,e⟩
 obtain⟨i0,hin,hz0,hz1,hz2⟩:=info_parts yY;obtain⟨j0,cin,cz0,cz1,cz2⟩:=info_parts zhv;have HIT:Hid (zC 46 #[.slice va ls.length vc] w fun e w'=>∃v',e=.returned v'/\w'.ownsRow w.heap.size 93 4 v' its.length (zh its)/\zB w w'):=by rw[<-hri];exact Kv ls _ w h (by omega)
 have HI:=zH h;have HPL:=zH (Y1 its);have HPI:=zH (Y4 its);have HLL:=zH (Ke its ls hi24);have HASC:=zH hasc;have HOF:Hid (ofL its ls=prF its its.length++lnL its ls ls.length):=by show _=_;rfl
 clear h hri hasc;go_enter Tryz.func72,Tryz.ntmps72;go_wp2_with fail;refine HIT.out.mono ?_;rintro e w1 ⟨iv,rfl,hiv,hb1⟩;obtain⟨ia,ic,rfl,-⟩:=(zj hiv).form;have HR0:Hid (RR w w1 (.slice none 0 0) (.slice none 0 0) (.slice ia its.length ic) [] its):=⟨RS.nil _ _,hiv,hb1⟩;clear hiv hb1 HIT;go_wp2_with fail;go_loopw [6,7,23] (fun cV fV kV wr=>∃k:Nat,k<=its.length/\kV=.int .i64 k/\RR w wr cV fV (.slice ia its.length ic) (prF its k) its) (fun _ _ kV _=>its.length-(intOf kV).toNat)
 case atStart=>exact⟨0,Nat.zero_le _,rfl,HR0.out⟩
 case round =>
  obtain⟨k,hk,rfl,hrr⟩:=hrel;have HRR:=zH hrr;obtain⟨ca,cc,rfl⟩:=hrr.cform;obtain⟨fa,fc,rfl⟩:=hrr.fform;have hpl:=HPL.out k (by omega);clear hrr HR0
  by_cases hlt:k<its.length
  ·have hki:(k:Int)<(its.length:Int):=by omega
   have hk0:(0:Int)<=(k:Int):=by omega
   have HPS:Hid (prF its (k+1)=prF its k++prI its k k):=Kz its k;have HP0:Hid (prF its k=prF its k++prI its k 0):=by show _=_;simp[prI]
   go_wp2_with fail
   try rw[show decide ((k:Int)<(its.length:Int))=true from decide_eq_true hki]
   go_loopw [6,7,27] (fun cV fV jV wz=>∃j:Nat,j<=k/\jV=.int .i64 j/\RR w wz cV fV (.slice ia its.length ic) (prF its k++prI its k j) its) (fun _ _ jV _=>k-(intOf jV).toNat)
   case atStart=>exact⟨0,Nat.zero_le _,rfl,by rw[<-HP0.out];exact HRR.out⟩
   case round =>
    obtain⟨j,hj,rfl,hrz⟩:=hrel;have HRZ:=zH hrz;obtain⟨ca,cc,rfl⟩:=hrz.cform;obtain⟨fa,fc,rfl⟩:=hrz.fform;have hpi:=HPI.out k j;clear hrz
    by_cases hjl:j<k
    ·have hji:(j:Int)<(k:Int):=by omega
     have hj0:(0:Int)<=(j:Int):=by omega
     have hjL:(j:Int)<(its.length:Int):=by omega
     obtain⟨g,cap',e1,hg,x0,-⟩:=(show qP wr (.slice ia its.length ic) its from zj HRZ.out.it).at j (by omega);simp at e1;obtain⟨rfl,rfl⟩:=e1;obtain⟨g',cap',e1,hg',y0,-⟩:=(show qP wr (.slice (some ⟨g,0,none⟩) its.length ic) its from zj HRZ.out.it).at k hlt;simp at e1;obtain⟨rfl,rfl⟩:=e1;have hY:=@zgp its k j;have hN:=@zgx its k j;have HSU:=zH (Kt its k j);obtain⟨PJ,hPJ⟩:∃PJ,prF its k++prI its k j=PJ:=⟨_,rfl⟩;have HPJ:=zH hPJ;rw[hPJ] at HRZ;have hlen:PJ.length<=1000:=by rw[<-hPJ,List.length_append];omega
     rw[show (prF its k++prI its k j).length=PJ.length by rw[hPJ]];clear hPJ hpi hpl;generalize its.getD j default=X at *;generalize its.getD k default=Y at *;have HYY:=zH hY;have HNN:=zH hN;clear hY hN;have hdr:zB wr (wr.drewN 1):=Z8 zF 1
     by_cases hnm:X.name=Y.name
     ·have e1:(X.name.toList==Y.name.toList)=true:=by rw[hnm];simp
      have HQ:Hid (prF its k++prI its k (j+1)=PJ++[(-1,[zp (j:Int),zp (k:Int)])]):=by show _=_;rw[HSU.out,HYY.out hnm,<-HPJ.out,List.append_assoc]
      clear hnm HYY HNN;go_upto_region 10 with fail;go_quiet (fail);have HRD:Hid (RR w (wr.drewN nq) (.slice ca PJ.length cc) (.slice fa PJ.length fc) (.slice (some ⟨g,0,none⟩) its.length ic) PJ its):=HRZ.out.new (Z8 zF _);clear x0 y0 hdr HRZ;generalize wr.drewN nq=WD at *;have en0:IntKind.i64.wrap ((j:Int)+1)=(j:Int)+1:=ZA (by omega) (by omega);have en1:IntKind.i64.wrap (-((j:Int)+1))=zp (j:Int):=ZA (by omega) (by omega);have en2:IntKind.i64.wrap ((k:Int)+1)=(k:Int)+1:=ZA (by omega) (by omega);have en3:IntKind.i64.wrap (-((k:Int)+1))=zp (k:Int):=ZA (by omega) (by omega);generalize zp (j:Int)=N1 at *;generalize zp (k:Int)=N2 at *;have hla:=zo WD (.cells #[.int .i64 N1,.int .i64 N2] 3);have HIK:=zH (JO WD N1 N2);have hrf:=HRD.out.rs.frow;have HNB:Hid (0<[N1,N2].length->∀g,(Value.slice (some ⟨WD.heap.size,0,none⟩) 2 2).ownBlock=some g->some g≠(Value.slice fa PJ.length fc).ownBlock):=fun _ g hg e=>by
       have h1:=(hrf.lt g e.symm).2;simp[Value.ownBlock] at hg;omega
      have HRA:=zH (HRD.out.new hla);obtain⟨cs,hrow,hck,hcn,hpl⟩:=HRA.out.rs.crow;have hrow2:(WD.alloc (.cells #[.int .i64 N1,.int .i64 N2] 3)).ownsRow w.heap.size 81 1 (.slice ca PJ.length cc) PJ.length cs:=by simpa using hrow
      have HROW:=zH hrow2;have HCK:=zH hck;have HCN:=zH hcn;have HPL2:=zH hpl;have HLT:Hid (∀(j:Nat) (x:Value),[Value.slice (some ⟨WD.heap.size,0,none⟩) 2 2][j]?=some x->((WD.alloc (.cells #[.int .i64 N1,.int .i64 N2] 3)).alloc (.cells #[.slice (some ⟨WD.heap.size,0,none⟩) 2 2] 81)).cell? ((⟨WD.heap.size+1,0,none⟩:Addr).add j)=some x):=by
       have hh:=ZS (WD.alloc (.cells #[.int .i64 N1,.int .i64 N2] 3)) (.slice (some ⟨WD.heap.size,0,none⟩) 2 2) 81;rw[World.size_alloc] at hh;exact hh
      have hszD:=HRD.out.bel.size;clear hla hrf hrow hrow2 hck hcn hpl HRD;go_wp2_with (at_builtin;refine wpList_append_own_at _ rfl _ _ 26 rfl w.heap.size 81 j0 (.slice none 0 0) 1 24 Tryz.underlying26 cin cz0 cz1 cz2 rfl (by decide) _ _ _ rfl (HROW.out.alloc _) ⟨WD.heap.size+1,0,none⟩ 1 1 [.slice (some ⟨WD.heap.size,0,none⟩) 2 2] rfl rfl ?c1b ?c2b ?c3b ?c4b ?c5b ?_)
      case c1b=>exact HLT.out
      case c2b=>first|rfl|(intro u hu;rw[List.mem_singleton] at hu;subst hu;rfl)
      case c3b=>unfold maxLen;omega
      case c4b=>omega
      case c5b=>first|omega|(simp;omega)
      intro v7 w7 hown7 hgrow7 _ hloc7;obtain⟨q1,q2,q3⟩:=HRA.out.appC (c:=[N1,N2]) HROW.out HCK.out HCN.out HPL2.out (fun ad e=>by cases e;rfl) zN (by show 2<=9223372036854775807;decide) HIK.out HNB.out hown7 hgrow7;have HF7:Hid (w7.ownsRow w.heap.size 3 1 (.slice fa PJ.length fc) PJ.length (zd (PJ.map Prod.fst))):=by show World.ownsRow _ _ _ _ _ _ _;simpa using q1.frow
      have HQ1:=zH q1;have HQ2:=zH q2;have HQ3:=zH q3;have hsz7:=q3.size;clear hown7 hgrow7 hloc7 q1 q2 q3 HRA HROW HCK HCN HPL2 HIK HNB HLT hszD;go_wp2_with (at_builtin;refine wpList_append_own_at _ rfl _ _ 47 rfl w.heap.size 3 i0 (.int .i64 0) 1 8 Tryz.underlying47 hin hz0 hz1 hz2 rfl (by decide) _ _ _ rfl (HF7.out.alloc _) ⟨w7.heap.size,0,none⟩ 1 1 [.int .i64 (-1)] rfl rfl ?d1c ?d2c ?d3c ?d4c ?d5c ?_)
      case d1c=>exact yJ _ _ _
      case d2c=>exact yI _
      case d3c=>unfold maxLen;omega
      case d4c=>omega
      case d5c=>first|omega|(simp;omega)
      intro v8 w8 hown8 hgrow8 _ hloc8;have HR8:Hid (RR w w8 v7 v8 (.slice (some ⟨g,0,none⟩) its.length ic) (PJ++[((-1),[N1,N2])]) its):=RR.appF HQ1.out rfl rfl HQ2.out HQ3.out (by simpa using hown8) hgrow8 (by rw[World.size_alloc];exact hloc8);clear hown8 hgrow8 hloc8 HF7 HQ1 HQ2 HQ3;go_wp2;go_roundw
      case rel=>exact⟨j+1,by omega,by go_num,by rw[HQ.out];exact HR8.out⟩
      case measure=>simp[intOf];omega
     ·have e1:(X.name.toList==Y.name.toList)=false:=by rw[beq_eq_false_iff_ne];exact fun e=>hnm (xH e)
      have HQ:Hid (prF its k++prI its k (j+1)=PJ):=by show _=_;rw[HSU.out,HNN.out hnm,List.append_nil,HPJ.out]
      clear hnm HYY HNN;go_upto_region 10 with fail;go_quiet (fail);go_wp2;go_roundw
      case rel=>exact⟨j+1,by omega,by go_num,by rw[HQ.out];exact HRZ.out.new (Z8 zF _)⟩
      case measure=>simp[intOf];omega
    ·have hji:¬(j:Int)<(k:Int):=by omega
     obtain rfl:j=k:=by omega
     go_wp2;go_roundw
     case rel=>exact⟨j+1,by omega,by go_num,by rw[HPS.out];exact HRZ.out⟩
     case measure=>simp[intOf];omega
  ·have hki:¬(k:Int)<(its.length:Int):=by omega
   obtain rfl:k=its.length:=by omega
   have HRE:Hid (RR w wr (.slice ca (prF its its.length).length cc) (.slice fa (prF its its.length).length fc) (.slice ia its.length ic) (prF its its.length++lnL its ls 0) its):=by show RR _ _ _ _ _ _ _;simpa[lnL] using HRR.out
   clear HRR HPL HPI;generalize prF its its.length=P0 at *;go_wp2_with fail
   try rw[show decide ((its.length:Int)<(its.length:Int))=false from decide_eq_false hki]
   go_loopw [6,7,58] (fun cV fV nV wz=>∃n:Nat,n<=ls.length/\nV=.int .i64 n/\RR w wz cV fV (.slice ia its.length ic) (P0++lnL its ls n) its) (fun _ _ nV _=>ls.length-(intOf nV).toNat)
   case atStart=>exact⟨0,Nat.zero_le _,rfl,HRE.out⟩
   case round =>
    obtain⟨n,hn,rfl,hrz⟩:=hrel;obtain⟨PN,hPN⟩:∃PN,P0++lnL its ls n=PN:=⟨_,rfl⟩;rw[hPN] at hrz;have HPN:=zH hPN;have hlen:PN.length<=5000:=by have:=HLL.out n;rw[<-hPN,List.length_append];omega
    obtain⟨ca,cc,rfl⟩:=hrz.cform;obtain⟨fa,fc,rfl⟩:=hrz.fform;have HRZ:=zH hrz;clear HRE hPN
    by_cases hnl:n<ls.length
    ·obtain⟨g,cap',ra,rc,e1,hg,hns,hrg,c0,c1,c2,c3,c4,c5,c6⟩:=(HI.out.below hrz.bel zN).at n hnl;simp at e1;obtain⟨rfl,rfl⟩:=e1;have hii0:(0:Int)<=(n:Int):=by omega
     have hii1:(n:Int)<(ls.length:Int):=by omega
     have hsu:=KY its ls n;generalize ls.getD n default=X at *;have HSU:Hid (P0++lnL its ls (n+1)=PN++yj its n X):=by show _=_;rw[hsu,<-HPN.out,List.append_assoc]
     have hA:zB wr (wr.alloc (.cells #[.int .i64 X.kind,.string X.name,.int .i64 X.a,.int .i64 X.b,.int .i64 X.c,.string X.other,.slice ra (tp X.rng).length rc] 101)):=zF.alloc zN _;have HKN:=zH (Blk.new wr 101 #[.int .i64 X.kind,.string X.name,.int .i64 X.a,.int .i64 X.b,.int .i64 X.c,.string X.other,.slice ra (tp X.rng).length rc]);have HR3:=zH (hrz.new hA);have HNS:=zH (hns.below hA zN);have HRGX:=zH hrg;clear hrz hA hns hsu hrg HRZ;generalize hTL:(tp X.rng).length=TL at *;have HTL:=zH hTL;clear hTL;go_upto_region 17 with fail;generalize hW3:wr.alloc (.cells #[.int .i64 X.kind,.string X.name,.int .i64 X.a,.int .i64 X.b,.int .i64 X.c,.string X.other,.slice ra TL rc] 101)=W3 at *;clear hW3 c0 c1 c2 c3 c4 c5 c6;generalize wr.heap.size=bx at *;have c1:_=some (Value.string X.name):=HKN.out.cell 1;have c2:_=some (Value.int .i64 X.a):=HKN.out.cell 2;have c3:_=some (Value.int .i64 X.b):=HKN.out.cell 3;have c4:_=some (Value.int .i64 X.c):=HKN.out.cell 4;have HNU:=zH (zhj its ⟨X.name,X.a,X.b,X.c⟩ (.slice ia its.length ic) W3 (zj HR3.out.it) (by omega));obtain⟨ho1,ho2⟩:=Jp its ⟨X.name,X.a,X.b,X.c⟩ hi24;obtain⟨O,hO⟩:∃O,ql its ⟨X.name,X.a,X.b,X.c⟩=O:=⟨_,rfl⟩;have HO:Hid (ql its X.it=O):=hO;rw[hO] at HNU ho1 ho2;clear hO;go_wp2_with fail;refine HNU.out.mono ?_;rintro e w4 ⟨rfl,hb4⟩;have HR4:=zH (HR3.out.new hb4);have HK4:=zH (HKN.out.below hb4 HKN.out.lt);have HNS4:=zH (HNS.out.below hb4 zN);have eo1:IntKind.i64.wrap (O+1)=O+1:=ZA (by omega) (by omega);have eo2:IntKind.i64.wrap (-(O+1))=zp O:=ZA (by omega) (by omega);clear hb4 HNU HR3 HKN HNS c1 c2 c3 c4;have c0:_=some (Value.int .i64 X.kind):=HK4.out.cell 0;have c1:_=some (Value.string X.name):=HK4.out.cell 1;have c5:_=some (Value.string X.other):=HK4.out.cell 5;have c6:_=some (Value.slice ra TL rc):=HK4.out.cell 6
     by_cases hk24:X.kind=2\/X.kind=4
     ·rcases hk24 with hk2|hk4
      ·have HLC:Hid (yj its n X=[((n:Int),[zp O]++qi (zZ its X.other X.rng))]):=by show _=_;unfold yj;rw[if_neg (by omega),if_pos hk2,HO.out];rfl
       rw[hk2] at c0;clear hk2;have kb:=Blk.new w4 3 #[.int .i64 (zp O)];have hbk:=zo w4 (.cells #[.int .i64 (zp O)] 3);have hc0:(w4.alloc (.cells #[.int .i64 (zp O)] 3)).ownsRow w4.heap.size 3 1 (.slice (some ⟨w4.heap.size,0,none⟩) 1 1) 1 (zd [zp O]):=⟨by simp[zd],Or.inr ⟨w4.heap.size,1,_,rfl,Nat.le_refl _,kb,Nat.le_refl _,by decide,rfl,rfl⟩⟩;have hprl:[zp O].length<=1:=by simp
       have HC0:=zH hc0;have HBK:=zH hbk;have HKB:=zH (HK4.out.below hbk HK4.out.lt);clear kb hbk hc0;obtain⟨N0,hN0⟩:∃N0,zp O=N0:=⟨_,rfl⟩;rw[hN0] at eo2 HC0 HBK HKB HLC hprl;clear hN0;go_upto_region 24 with fail;have c5a:w4.drew.cell? ⟨bx,5,none⟩=some (.string X.other):=c5;have c5b:(w4.alloc (.cells #[.int .i64 N0] 3)).drew.cell? ⟨bx,5,none⟩=some (.string X.other):=HKB.out.cell 5;go_big_region;have HC:Hid ((w4.alloc (.cells #[.int .i64 N0] 3)).drew.ownsRow w4.heap.size 3 1 (.slice (some ⟨w4.heap.size,0,none⟩) 1 1) [N0].length (zd [N0])):=HC0.out;have HB45:Hid (zB w4 (w4.alloc (.cells #[.int .i64 N0] 3)).drew):=HBK.out.drew;have c6b:(w4.alloc (.cells #[.int .i64 N0] 3)).drew.cell? ⟨bx,6,none⟩=some (.slice ra TL rc):=HKB.out.cell 6;obtain⟨PRE,hPRE⟩:∃PRE:List Int,PRE=[N0]:=⟨_,rfl⟩;rw[<-hPRE] at HLC hprl HC;have HPRE:=zH hPRE;generalize (w4.alloc (.cells #[.int .i64 N0] 3)).drew=W5 at *;clear hPRE HC0 HBK HKB c5a c5b;have HAM:Hid (zC 149 #[.slice ia its.length ic,.string X.other,.slice ra TL rc] W5 fun e w'=>∃v',e=.returned v'/\w'.ownsRow W5.heap.size 3 1 v' (zZ its X.other X.rng).length (zd ((zZ its X.other X.rng).map fun (k:Nat)=>(k:Int)))/\zB W5 w'):=by
        have hq:=Ko its X.other X.rng HRGX.out (.slice ia its.length ic) (.slice ra TL rc) W5 (zj (HR4.out.new HB45.out).it) (by omega) (HNS4.out.below HB45.out zN);rw[Jj HASC.out] at hq;exact hq
       have hal:=Qc its X.other X.rng;have hab:=QS its X.other X.rng;generalize zZ its X.other X.rng=am at *;have HAB:=zH hab;clear hab;go_wp2_with fail;refine HAM.out.mono ?_;rintro e w6 ⟨av,rfl,hav,hb6⟩;obtain⟨aa,ac,rfl,-⟩:=(zj hav).form;have hcb:∀g,(Value.slice aa am.length ac).ownBlock=some g->(Value.slice (some ⟨w4.heap.size,0,none⟩) 1 1).ownBlock≠some g:=fun g hg e=>by
        have h1:=(hav.lt g hg).1;have h2:=(HC.out.lt g e).2;omega
       have HC6:=zH (zm HC.out hb6);have HCB:=zH hcb;have HB46:Hid (zB w4 w6):=zT HB45.out hb6;have HAV:=zH (yn hav HB45.out.size);clear hav hb6 hcb HAM HC HB45 HNS4 HRGX HK4 c0 c1 c5 c6;go_wp2_with fail;go_loopw [13,92] (fun cV jV wz=>∃j:Nat,j<=am.length/\jV=.int .i64 j/\wz.ownsRow w4.heap.size 3 1 cV (PRE++qi (am.take j)).length (zd (PRE++qi (am.take j)))/\wz.ownsRow w4.heap.size 3 1 (.slice aa am.length ac) am.length (zd (am.map fun (k:Nat)=>(k:Int)))/\(∀g,(Value.slice aa am.length ac).ownBlock=some g->cV.ownBlock≠some g)/\zB w4 wz) (fun _ jV _=>am.length-(intOf jV).toNat)
       case atStart=>exact⟨0,Nat.zero_le _,rfl,by simpa[qi] using HC6.out,HAV.out,HCB.out,HB46.out⟩
       case round =>
        obtain⟨j,hj,rfl,hcj,hav,hcb,hbj⟩:=hrel;obtain⟨CJ,hCJ⟩:∃CJ,PRE++qi (am.take j)=CJ:=⟨_,rfl⟩;rw[hCJ] at hcj;have HCJ:=zH hCJ;have hlenC:CJ.length<=100:=by rw[<-hCJ,List.length_append,qi,List.length_map,List.length_take];omega
        obtain⟨xa,xc,rfl,hc1,hc2,hik,hpa⟩:=QF hcj;have HROWC:=zH hcj;have HAV2:=zH hav;have HCB2:=zH hcb;have HBJ:=zH hbj;have hszJ:=hbj.size;clear hCJ HC6 HAV HCB HB46 hcj
        by_cases hjl:j<am.length
        ·have hji:(j:Int)<(am.length:Int):=by omega
         have hj0:(0:Int)<=(j:Int):=by omega
         obtain⟨g9,cap9,e9,hg9,hc9⟩:=(zj hav).cells (by omega);simp at e9;obtain⟨rfl,rfl⟩:=e9;obtain⟨K,hK⟩:∃K,am.getD j 0=K:=⟨_,rfl⟩;have hKm:am[j]?=some K:=by rw[<-hK,List.getD_eq_getElem?_getD,List.getElem?_eq_getElem hjl];rfl
         have hK24:K<its.length:=HAB.out K (List.mem_of_getElem? hKm);have z0:wr.cell? ⟨g9,j,none⟩=some (.int .i64 K):=hc9 j _ (by simp[zd,hKm]);have HQ:Hid (PRE++qi (am.take (j+1))=CJ++[(K:Int)+1]):=by show _=_;rw[<-HCJ.out,List.take_add_one,hKm];simp[qi]
         have en0:IntKind.i64.wrap ((K:Int)+1)=(K:Int)+1:=ZA (by omega) (by omega);clear hav hcb hbj hc9 hK hKm hik hpa hc1 hc2;go_wp2_with (at_builtin;refine wpList_append_own_at _ rfl _ _ 81 rfl w4.heap.size 3 i0 (.int .i64 0) 1 8 Tryz.underlying81 hin hz0 hz1 hz2 rfl (by decide) _ _ _ rfl (HROWC.out.alloc _) ⟨wr.heap.size,0,none⟩ 1 1 [.int .i64 ((K:Int)+1)] rfl rfl ?c1d ?c2d ?c3d ?c4d ?c5d ?_)
         case c1d=>exact yJ _ _ _
         case c2d=>exact yI _
         case c3d=>unfold maxLen;omega
         case c4d=>omega
         case c5d=>first|omega|(simp;omega)
         intro v7 w7 hown7 hgrow7 _ hloc7;have hbn7:=zo wr (.cells #[.int .i64 ((K:Int)+1)] 3);have HA7:=zH (xD (zm HAV2.out hbn7) hgrow7 (Or.inr fun e=>by
          cases ho:(Value.slice (some ⟨g9,0,none⟩) am.length ac).ownBlock with
          |none=>simp[Value.ownBlock] at ho
          | some g=>rw [ho] at e;exact HCB2.out g ho e.symm))
         have HCB7:Hid (∀g,(Value.slice (some ⟨g9,0,none⟩) am.length ac).ownBlock=some g->v7.ownBlock≠some g):=fun g hg e=>by
          rcases hloc7 with h|h
          ·exact HCB2.out g hg (h▸e)
          ·have h1:=(HAV2.out.lt g hg).2;rw[h] at e;simp at e;omega
         have HR7:Hid (w7.ownsRow w4.heap.size 3 1 v7 (CJ++[((K:Int)+1)]).length (zd (CJ++[((K:Int)+1)]))):=by
          show World.ownsRow _ _ _ _ _ _ _;rw[yO,List.length_append];exact hown7
         have HB7:Hid (zB w4 w7):=(zL HBJ.out).grown hgrow7 (by simp;omega) (fun k hk=>(HROWC.out.lt k hk).1);clear hown7 hgrow7 hloc7 hbn7 HROWC HAV2 HCB2 HBJ z0;go_wp2;go_roundw
         case rel=>exact⟨j+1,by omega,by go_num,by rw[HQ.out];exact HR7.out,HA7.out,HCB7.out,HB7.out⟩
         case measure=>simp[intOf];omega
        ·have hji:¬(j:Int)<(am.length:Int):=by omega
         obtain rfl:j=am.length:=by omega
         have HQ:Hid (P0++lnL its ls (n+1)=PN++[((n:Int),CJ)]):=by show _=_;rw[HSU.out,HLC.out,<-HCJ.out,List.take_length]
         have HIK:=zH hik;have HPA:=zH hpa;have HNB:Hid (0<CJ.length->∀g,(Value.slice xa CJ.length xc).ownBlock=some g->some g≠(Value.slice fa PN.length fc).ownBlock):=fun _ g hg e=>by
          have h1:=(HROWC.out.lt g hg).1;have h2:=(HR4.out.rs.frow.lt g e.symm).2;omega
         have HRD:=zH (HR4.out.new HBJ.out);clear hav hcb hbj hik hpa HROWC HAV2 HCB2 HBJ HR4;generalize wr=WD at *;obtain⟨cs,hrow,hck,hcn,hpl⟩:=HRD.out.rs.crow;have hrow2:WD.ownsRow w.heap.size 81 1 (.slice ca PN.length cc) PN.length cs:=by simpa using hrow
         have HROW:=zH hrow2;have HCK:=zH hck;have HCN:=zH hcn;have HPL2:=zH hpl;have hszD:=HRD.out.bel.size;clear hrow hrow2 hck hcn hpl;go_wp2_with (at_builtin;refine wpList_append_own_at _ rfl _ _ 26 rfl w.heap.size 81 j0 (.slice none 0 0) 1 24 Tryz.underlying26 cin cz0 cz1 cz2 rfl (by decide) _ _ _ rfl (HROW.out.alloc _) ⟨WD.heap.size,0,none⟩ 1 1 [.slice xa CJ.length xc] rfl rfl ?c1e ?c2e ?c3e ?c4e ?c5e ?_)
         try(case c1e=>exact ZS _ _ _)
         case c2e=>first|rfl|(intro u hu;rw[List.mem_singleton] at hu;subst hu;rfl)
         case c3e=>unfold maxLen;omega
         case c4e=>omega
         case c5e=>first|omega|(simp;omega)
         intro v7 w7 hown7 hgrow7 _ hloc7;obtain⟨q1,q2,q3⟩:=HRD.out.appC HROW.out HCK.out HCN.out HPL2.out HPA.out hc1 hc2 HIK.out HNB.out hown7 hgrow7;have HF7:Hid (w7.ownsRow w.heap.size 3 1 (.slice fa PN.length fc) PN.length (zd (PN.map Prod.fst))):=by show World.ownsRow _ _ _ _ _ _ _;simpa using q1.frow
         have HQ1:=zH q1;have HQ2:=zH q2;have HQ3:=zH q3;have hsz7:=q3.size;clear hown7 hgrow7 hloc7 q1 q2 q3 HRD HROW HCK HCN HPL2 HIK HNB hszD;go_wp2_with (at_builtin;refine wpList_append_own_at _ rfl _ _ 47 rfl w.heap.size 3 i0 (.int .i64 0) 1 8 Tryz.underlying47 hin hz0 hz1 hz2 rfl (by decide) _ _ _ rfl (HF7.out.alloc _) ⟨w7.heap.size,0,none⟩ 1 1 [.int .i64 n] rfl rfl ?d1f ?d2f ?d3f ?d4f ?d5f ?_)
         case d1f=>exact yJ _ _ _
         case d2f=>exact yI _
         case d3f=>unfold maxLen;omega
         case d4f=>omega
         case d5f=>first|omega|(simp;omega)
         intro v8 w8 hown8 hgrow8 _ hloc8;have HR8:Hid (RR w w8 v7 v8 (.slice ia its.length ic) (PN++[((n:Int),CJ)]) its):=RR.appF HQ1.out rfl rfl HQ2.out HQ3.out (by simpa using hown8) hgrow8 (by rw[World.size_alloc];exact hloc8);clear hown8 hgrow8 hloc8 HF7 HQ1 HQ2 HQ3;go_wp2;go_roundw
         case rel=>exact⟨n+1,by omega,by go_num,by rw[HQ.out];exact HR8.out⟩
         case measure=>simp[intOf];omega
      ·have HLC:Hid (yj its n X=[((n:Int),[]++qi (zZ its X.name X.rng))]):=by show _=_;unfold yj;rw[if_pos hk4];rfl
       rw[hk4] at c0;have hprl:([]:List Int).length<=1:=by simp
       have HC:Hid (w4.ownsRow w4.heap.size 3 1 (.slice none 0 0) ([]:List Int).length (zd [])):=World.ownsRow_nil _ _ _ _;have HB45:Hid (zB w4 w4):=Below.refl _ _;clear hk4;obtain⟨PRE,hPRE⟩:∃PRE:List Int,PRE=[]:=⟨_,rfl⟩;rw[<-hPRE] at HLC hprl HC;have HPRE:=zH hPRE;clear hPRE;have HAM:Hid (zC 149 #[.slice ia its.length ic,.string X.name,.slice ra TL rc] w4 fun e w'=>∃v',e=.returned v'/\w'.ownsRow w4.heap.size 3 1 v' (zZ its X.name X.rng).length (zd ((zZ its X.name X.rng).map fun (k:Nat)=>(k:Int)))/\zB w4 w'):=by
        have hq:=Ko its X.name X.rng HRGX.out (.slice ia its.length ic) (.slice ra TL rc) w4 (zj (HR4.out.new HB45.out).it) (by omega) (HNS4.out.below HB45.out zN);rw[Jj HASC.out] at hq;exact hq
       have hal:=Qc its X.name X.rng;have hab:=QS its X.name X.rng;generalize zZ its X.name X.rng=am at *;have HAB:=zH hab;clear hab;go_wp2_with fail;refine HAM.out.mono ?_;rintro e w6 ⟨av,rfl,hav,hb6⟩;obtain⟨aa,ac,rfl,-⟩:=(zj hav).form;have hcb:∀g,(Value.slice aa am.length ac).ownBlock=some g->(Value.slice none 0 0).ownBlock≠some g:=fun g hg e=>by
        have h1:=(hav.lt g hg).1;have h2:=(HC.out.lt g e).2;omega
       have HC6:=zH (zm HC.out hb6);have HCB:=zH hcb;have HB46:Hid (zB w4 w6):=zT HB45.out hb6;have HAV:=zH (yn hav HB45.out.size);clear hav hb6 hcb HAM HC HB45 HNS4 HRGX HK4 c0 c1 c5 c6;go_wp2_with fail;go_loopw [13,92] (fun cV jV wz=>∃j:Nat,j<=am.length/\jV=.int .i64 j/\wz.ownsRow w4.heap.size 3 1 cV (PRE++qi (am.take j)).length (zd (PRE++qi (am.take j)))/\wz.ownsRow w4.heap.size 3 1 (.slice aa am.length ac) am.length (zd (am.map fun (k:Nat)=>(k:Int)))/\(∀g,(Value.slice aa am.length ac).ownBlock=some g->cV.ownBlock≠some g)/\zB w4 wz) (fun _ jV _=>am.length-(intOf jV).toNat)
       case atStart=>exact⟨0,Nat.zero_le _,rfl,by simpa[qi] using HC6.out,HAV.out,HCB.out,HB46.out⟩
       case round =>
        obtain⟨j,hj,rfl,hcj,hav,hcb,hbj⟩:=hrel;obtain⟨CJ,hCJ⟩:∃CJ,PRE++qi (am.take j)=CJ:=⟨_,rfl⟩;rw[hCJ] at hcj;have HCJ:=zH hCJ;have hlenC:CJ.length<=100:=by rw[<-hCJ,List.length_append,qi,List.length_map,List.length_take];omega
        obtain⟨xa,xc,rfl,hc1,hc2,hik,hpa⟩:=QF hcj;have HROWC:=zH hcj;have HAV2:=zH hav;have HCB2:=zH hcb;have HBJ:=zH hbj;have hszJ:=hbj.size;clear hCJ HC6 HAV HCB HB46 hcj
        by_cases hjl:j<am.length
        ·have hji:(j:Int)<(am.length:Int):=by omega
         have hj0:(0:Int)<=(j:Int):=by omega
         obtain⟨g9,cap9,e9,hg9,hc9⟩:=(zj hav).cells (by omega);simp at e9;obtain⟨rfl,rfl⟩:=e9;obtain⟨K,hK⟩:∃K,am.getD j 0=K:=⟨_,rfl⟩;have hKm:am[j]?=some K:=by rw[<-hK,List.getD_eq_getElem?_getD,List.getElem?_eq_getElem hjl];rfl
         have hK24:K<its.length:=HAB.out K (List.mem_of_getElem? hKm);have z0:wr.cell? ⟨g9,j,none⟩=some (.int .i64 K):=hc9 j _ (by simp[zd,hKm]);have HQ:Hid (PRE++qi (am.take (j+1))=CJ++[(K:Int)+1]):=by show _=_;rw[<-HCJ.out,List.take_add_one,hKm];simp[qi]
         have en0:IntKind.i64.wrap ((K:Int)+1)=(K:Int)+1:=ZA (by omega) (by omega);clear hav hcb hbj hc9 hK hKm hik hpa hc1 hc2;go_wp2_with (at_builtin;refine wpList_append_own_at _ rfl _ _ 81 rfl w4.heap.size 3 i0 (.int .i64 0) 1 8 Tryz.underlying81 hin hz0 hz1 hz2 rfl (by decide) _ _ _ rfl (HROWC.out.alloc _) ⟨wr.heap.size,0,none⟩ 1 1 [.int .i64 ((K:Int)+1)] rfl rfl ?c1g ?c2g ?c3g ?c4g ?c5g ?_)
         case c1g=>exact yJ _ _ _
         case c2g=>exact yI _
         case c3g=>unfold maxLen;omega
         case c4g=>omega
         case c5g=>first|omega|(simp;omega)
         intro v7 w7 hown7 hgrow7 _ hloc7;have hbn7:=zo wr (.cells #[.int .i64 ((K:Int)+1)] 3);have HA7:=zH (xD (zm HAV2.out hbn7) hgrow7 (Or.inr fun e=>by
          cases ho:(Value.slice (some ⟨g9,0,none⟩) am.length ac).ownBlock with
          |none=>simp[Value.ownBlock] at ho
          | some g=>rw [ho] at e;exact HCB2.out g ho e.symm))
         have HCB7:Hid (∀g,(Value.slice (some ⟨g9,0,none⟩) am.length ac).ownBlock=some g->v7.ownBlock≠some g):=fun g hg e=>by
          rcases hloc7 with h|h
          ·exact HCB2.out g hg (h▸e)
          ·have h1:=(HAV2.out.lt g hg).2;rw[h] at e;simp at e;omega
         have HR7:Hid (w7.ownsRow w4.heap.size 3 1 v7 (CJ++[((K:Int)+1)]).length (zd (CJ++[((K:Int)+1)]))):=by
          show World.ownsRow _ _ _ _ _ _ _;rw[yO,List.length_append];exact hown7
         have HB7:Hid (zB w4 w7):=(zL HBJ.out).grown hgrow7 (by simp;omega) (fun k hk=>(HROWC.out.lt k hk).1);clear hown7 hgrow7 hloc7 hbn7 HROWC HAV2 HCB2 HBJ z0;go_wp2;go_roundw
         case rel=>exact⟨j+1,by omega,by go_num,by rw[HQ.out];exact HR7.out,HA7.out,HCB7.out,HB7.out⟩
         case measure=>simp[intOf];omega
        ·have hji:¬(j:Int)<(am.length:Int):=by omega
         obtain rfl:j=am.length:=by omega
         have HQ:Hid (P0++lnL its ls (n+1)=PN++[((n:Int),CJ)]):=by show _=_;rw[HSU.out,HLC.out,<-HCJ.out,List.take_length]
         have HIK:=zH hik;have HPA:=zH hpa;have HNB:Hid (0<CJ.length->∀g,(Value.slice xa CJ.length xc).ownBlock=some g->some g≠(Value.slice fa PN.length fc).ownBlock):=fun _ g hg e=>by
          have h1:=(HROWC.out.lt g hg).1;have h2:=(HR4.out.rs.frow.lt g e.symm).2;omega
         have HRD:=zH (HR4.out.new HBJ.out);clear hav hcb hbj hik hpa HROWC HAV2 HCB2 HBJ HR4;generalize wr=WD at *;obtain⟨cs,hrow,hck,hcn,hpl⟩:=HRD.out.rs.crow;have hrow2:WD.ownsRow w.heap.size 81 1 (.slice ca PN.length cc) PN.length cs:=by simpa using hrow
         have HROW:=zH hrow2;have HCK:=zH hck;have HCN:=zH hcn;have HPL2:=zH hpl;have hszD:=HRD.out.bel.size;clear hrow hrow2 hck hcn hpl;go_wp2_with (at_builtin;refine wpList_append_own_at _ rfl _ _ 26 rfl w.heap.size 81 j0 (.slice none 0 0) 1 24 Tryz.underlying26 cin cz0 cz1 cz2 rfl (by decide) _ _ _ rfl (HROW.out.alloc _) ⟨WD.heap.size,0,none⟩ 1 1 [.slice xa CJ.length xc] rfl rfl ?c1h ?c2h ?c3h ?c4h ?c5h ?_)
         try(case c1h=>exact ZS _ _ _)
         case c2h=>first|rfl|(intro u hu;rw[List.mem_singleton] at hu;subst hu;rfl)
         case c3h=>unfold maxLen;omega
         case c4h=>omega
         case c5h=>first|omega|(simp;omega)
         intro v7 w7 hown7 hgrow7 _ hloc7;obtain⟨q1,q2,q3⟩:=HRD.out.appC HROW.out HCK.out HCN.out HPL2.out HPA.out hc1 hc2 HIK.out HNB.out hown7 hgrow7;have HF7:Hid (w7.ownsRow w.heap.size 3 1 (.slice fa PN.length fc) PN.length (zd (PN.map Prod.fst))):=by show World.ownsRow _ _ _ _ _ _ _;simpa using q1.frow
         have HQ1:=zH q1;have HQ2:=zH q2;have HQ3:=zH q3;have hsz7:=q3.size;clear hown7 hgrow7 hloc7 q1 q2 q3 HRD HROW HCK HCN HPL2 HIK HNB hszD;go_wp2_with (at_builtin;refine wpList_append_own_at _ rfl _ _ 47 rfl w.heap.size 3 i0 (.int .i64 0) 1 8 Tryz.underlying47 hin hz0 hz1 hz2 rfl (by decide) _ _ _ rfl (HF7.out.alloc _) ⟨w7.heap.size,0,none⟩ 1 1 [.int .i64 n] rfl rfl ?d1i ?d2i ?d3i ?d4i ?d5i ?_)
         case d1i=>exact yJ _ _ _
         case d2i=>exact yI _
         case d3i=>unfold maxLen;omega
         case d4i=>omega
         case d5i=>first|omega|(simp;omega)
         intro v8 w8 hown8 hgrow8 _ hloc8;have HR8:Hid (RR w w8 v7 v8 (.slice ia its.length ic) (PN++[((n:Int),CJ)]) its):=RR.appF HQ1.out rfl rfl HQ2.out HQ3.out (by simpa using hown8) hgrow8 (by rw[World.size_alloc];exact hloc8);clear hown8 hgrow8 hloc8 HF7 HQ1 HQ2 HQ3;go_wp2;go_roundw
         case rel=>exact⟨n+1,by omega,by go_num,by rw[HQ.out];exact HR8.out⟩
         case measure=>simp[intOf];omega
     ·by_cases hk3:X.kind=3
      ·have HAM:Hid (zC 149 #[.slice ia its.length ic,.string X.other,.slice ra TL rc] w4 fun e w'=>∃v',e=.returned v'/\w'.ownsRow w4.heap.size 3 1 v' (zZ its X.other X.rng).length (zd ((zZ its X.other X.rng).map fun (k:Nat)=>(k:Int)))/\zB w4 w'):=by
        have hq:=Ko its X.other X.rng HRGX.out (.slice ia its.length ic) (.slice ra TL rc) w4 (zj HR4.out.it) (by omega) HNS4.out;rw[Jj HASC.out] at hq;exact hq
       have hal:=Qc its X.other X.rng;have hab:=QS its X.other X.rng;have HLC:Hid (yj its n X=(zZ its X.other X.rng).map fun (k:Nat)=>((n:Int),[zp O,zp (k:Int)])):=by show _=_;unfold yj;rw[if_neg (by omega),if_neg (by omega),if_pos hk3,HO.out]
       have hn2:(X.kind==2)=false:=by rw[hk3];rfl
       rw[hk3] at c0;generalize zZ its X.other X.rng=am at *;have HAB:=zH hab;clear hk24 hk3 hab hn2 HNS4 HRGX HTL c1;go_wp2_with fail;refine HAM.out.mono ?_;rintro e w5 ⟨av,rfl,hav,hb5⟩;obtain⟨aa,ac,rfl,-⟩:=(zj hav).form;have HR5:=zH (HR4.out.new hb5);have hfb:∀g,(Value.slice aa am.length ac).ownBlock=some g->(Value.slice fa PN.length fc).ownBlock≠some g:=fun g hg e=>by
        have h1:=(hav.lt g hg).1;have h2:=(HR4.out.rs.frow.lt g e).2;omega
       have HAV:=zH hav;have HFB:=zH hfb;clear hav hb5 hfb HAM HR4 HK4 c0 c5 c6;go_wp2_with fail;go_loopw [6,7,119] (fun cV fV jV wz=>∃j:Nat,j<=am.length/\jV=.int .i64 j/\RR w wz cV fV (.slice ia its.length ic) (PN++(am.take j).map fun (k:Nat)=>((n:Int),[zp O,zp (k:Int)])) its/\wz.ownsRow w4.heap.size 3 1 (.slice aa am.length ac) am.length (zd (am.map fun (k:Nat)=>(k:Int)))/\∀g,(Value.slice aa am.length ac).ownBlock=some g->fV.ownBlock≠some g) (fun _ _ jV _=>am.length-(intOf jV).toNat)
       case atStart=>exact⟨0,Nat.zero_le _,rfl,by simpa using HR5.out,HAV.out,HFB.out⟩
       case round =>
        obtain⟨j,hj,rfl,hrj,hav,hfb⟩:=hrel;obtain⟨PJ,hPJ⟩:∃PJ,(PN++(am.take j).map fun (k:Nat)=>((n:Int),[zp O,zp (k:Int)]))=PJ:=⟨_,rfl⟩;rw[hPJ] at hrj;have HPJ:=zH hPJ;have hlenJ:PJ.length<=6000:=by rw[<-hPJ,List.length_append,List.length_map,List.length_take];omega
        obtain⟨ca,cc,rfl⟩:=hrj.cform;obtain⟨fa,fc,rfl⟩:=hrj.fform;have HRJ:=zH hrj;have HAV2:=zH hav;have HFB2:=zH hfb;clear hPJ HR5 HAV HFB hrj
        by_cases hjl:j<am.length
        ·have hji:(j:Int)<(am.length:Int):=by omega
         have hj0:(0:Int)<=(j:Int):=by omega
         obtain⟨g9,cap9,e9,hg9,hc9⟩:=(zj hav).cells (by omega);simp at e9;obtain⟨rfl,rfl⟩:=e9;obtain⟨K,hK⟩:∃K,am.getD j 0=K:=⟨_,rfl⟩;have hKm:am[j]?=some K:=by rw[<-hK,List.getD_eq_getElem?_getD,List.getElem?_eq_getElem hjl];rfl
         have hK24:K<its.length:=HAB.out K (List.mem_of_getElem? hKm);have z0:wr.cell? ⟨g9,j,none⟩=some (.int .i64 K):=hc9 j _ (by simp[zd,hKm]);have HQ:Hid ((PN++(am.take (j+1)).map fun (k:Nat)=>((n:Int),[zp O,zp (k:Int)]))=PJ++[((n:Int),[zp O,zp (K:Int)])]):=by show _=_;rw[<-HPJ.out,List.take_add_one,hKm];simp
         have en0:IntKind.i64.wrap ((K:Int)+1)=(K:Int)+1:=ZA (by omega) (by omega);have en1:IntKind.i64.wrap (-((K:Int)+1))=zp (K:Int):=ZA (by omega) (by omega);generalize zp (K:Int)=N2 at *;generalize zp O=N1 at *;clear hav hfb hc9 hK hKm;go_upto_region 35 with fail;clear z0;generalize wr=WD at *;have hla:=zo WD (.cells #[.int .i64 N1,.int .i64 N2] 3);have HIK:=zH (JO WD N1 N2);have hrf:=HRJ.out.rs.frow;have HNB:Hid (0<[N1,N2].length->∀g,(Value.slice (some ⟨WD.heap.size,0,none⟩) 2 2).ownBlock=some g->some g≠(Value.slice fa PJ.length fc).ownBlock):=fun _ g hg e=>by
          have h1:=(hrf.lt g e.symm).2;simp[Value.ownBlock] at hg;omega
         have HRA:=zH (HRJ.out.new hla);have HA1:=zH (zm HAV2.out hla);obtain⟨cs,hrow,hck,hcn,hpl⟩:=HRA.out.rs.crow;have hrow2:(WD.alloc (.cells #[.int .i64 N1,.int .i64 N2] 3)).ownsRow w.heap.size 81 1 (.slice ca PJ.length cc) PJ.length cs:=by simpa using hrow
         have HROW:=zH hrow2;have HCK:=zH hck;have HCN:=zH hcn;have HPL2:=zH hpl;have HLT:Hid (∀(j:Nat) (x:Value),[Value.slice (some ⟨WD.heap.size,0,none⟩) 2 2][j]?=some x->((WD.alloc (.cells #[.int .i64 N1,.int .i64 N2] 3)).alloc (.cells #[.slice (some ⟨WD.heap.size,0,none⟩) 2 2] 81)).cell? ((⟨WD.heap.size+1,0,none⟩:Addr).add j)=some x):=by
          have hh:=ZS (WD.alloc (.cells #[.int .i64 N1,.int .i64 N2] 3)) (.slice (some ⟨WD.heap.size,0,none⟩) 2 2) 81;rw[World.size_alloc] at hh;exact hh
         have hszD:=HRJ.out.bel.size;clear hla hrf hrow hrow2 hck hcn hpl HRJ;go_wp2_with (at_builtin;refine wpList_append_own_at _ rfl _ _ 26 rfl w.heap.size 81 j0 (.slice none 0 0) 1 24 Tryz.underlying26 cin cz0 cz1 cz2 rfl (by decide) _ _ _ rfl (HROW.out.alloc _) ⟨WD.heap.size+1,0,none⟩ 1 1 [.slice (some ⟨WD.heap.size,0,none⟩) 2 2] rfl rfl ?c1j ?c2j ?c3j ?c4j ?c5j ?_)
         case c1j=>exact HLT.out
         case c2j=>first|rfl|(intro u hu;rw[List.mem_singleton] at hu;subst hu;rfl)
         case c3j=>unfold maxLen;omega
         case c4j=>omega
         case c5j=>first|omega|(simp;omega)
         intro v7 w7 hown7 hgrow7 _ hloc7;obtain⟨q1,q2,q3⟩:=HRA.out.appC (c:=[N1,N2]) HROW.out HCK.out HCN.out HPL2.out (fun ad e=>by cases e;rfl) zN (by show 2<=9223372036854775807;decide) HIK.out HNB.out hown7 hgrow7;have hbn7:=zo (WD.alloc (.cells #[.int .i64 N1,.int .i64 N2] 3)) (.cells #[.slice (some ⟨WD.heap.size,0,none⟩) 2 2] 81);have HA7:=zH (xD (zm HA1.out hbn7) hgrow7 (xr (yn (zm HA1.out hbn7) (Nat.zero_le _)) (yn (zm HROW.out hbn7) (Nat.zero_le _)) (by decide)));clear hbn7;have HF7:Hid (w7.ownsRow w.heap.size 3 1 (.slice fa PJ.length fc) PJ.length (zd (PJ.map Prod.fst))):=by show World.ownsRow _ _ _ _ _ _ _;simpa using q1.frow
         have HQ1:=zH q1;have HQ2:=zH q2;have HQ3:=zH q3;have hsz7:=q3.size;clear hown7 hgrow7 hloc7 q1 q2 q3 HRA HROW HCK HCN HPL2 HIK HNB HLT hszD;go_wp2_with (at_builtin;refine wpList_append_own_at _ rfl _ _ 47 rfl w.heap.size 3 i0 (.int .i64 0) 1 8 Tryz.underlying47 hin hz0 hz1 hz2 rfl (by decide) _ _ _ rfl (HF7.out.alloc _) ⟨w7.heap.size,0,none⟩ 1 1 [.int .i64 n] rfl rfl ?d1k ?d2k ?d3k ?d4k ?d5k ?_)
         case d1k=>exact yJ _ _ _
         case d2k=>exact yI _
         case d3k=>unfold maxLen;omega
         case d4k=>omega
         case d5k=>first|omega|(simp;omega)
         intro v8 w8 hown8 hgrow8 _ hloc8;have hbn8:=zo w7 (.cells #[.int .i64 n] 3);have HA8:=zH (xD (zm HA7.out hbn8) hgrow8 (Or.inr fun e=>by
          cases ho:(Value.slice (some ⟨g9,0,none⟩) am.length ac).ownBlock with
          |none=>simp[Value.ownBlock] at ho
          | some g=>rw [ho] at e;exact HFB2.out g ho e.symm))
         have HFB8:Hid (∀g,(Value.slice (some ⟨g9,0,none⟩) am.length ac).ownBlock=some g->v8.ownBlock≠some g):=fun g hg e=>by
          rcases hloc8 with h|h
          ·exact HFB2.out g hg (h▸e)
          ·have h1:=(HA7.out.lt g hg).2;rw[h] at e;simp at e;omega
         have HR8:Hid (RR w w8 v7 v8 (.slice ia its.length ic) (PJ++[((n:Int),[N1,N2])]) its):=RR.appF HQ1.out rfl rfl HQ2.out HQ3.out (by simpa using hown8) hgrow8 (by rw[World.size_alloc];exact hloc8);clear hown8 hgrow8 hloc8 HF7 HQ1 HQ2 HQ3;go_wp2;go_roundw
         case rel=>exact⟨j+1,by omega,by go_num,by rw[HQ.out];exact HR8.out,HA8.out,HFB8.out⟩
         case measure=>simp[intOf];omega
        ·have hji:¬(j:Int)<(am.length:Int):=by omega
         obtain rfl:j=am.length:=by omega
         have HQ:Hid (P0++lnL its ls (n+1)=PJ):=by show _=_;rw[HSU.out,HLC.out,<-HPJ.out,List.take_length]
         clear hav hfb;go_wp2;go_roundw
         case rel=>exact⟨n+1,by omega,by go_num,by rw[HQ.out];exact HRJ.out⟩
         case measure=>simp[intOf];omega
      ·have HLC:Hid (P0++lnL its ls (n+1)=PN):=by show _=_;rw[HSU.out];unfold yj;rw[if_neg (by omega),if_neg (by omega),if_neg (by omega),List.append_nil]
       have hn2:¬X.kind=2:=by omega
       have hn4:¬X.kind=4:=by omega
       clear hk24 HNS4 HRGX HTL HK4;go_wp2;go_roundw
       case rel=>exact⟨n+1,by omega,by go_num,by rw[HLC.out];exact HR4.out⟩
       case measure=>simp[intOf];omega
    ·have hni:¬(n:Int)<(ls.length:Int):=by omega
     obtain rfl:n=ls.length:=by omega
     have HQ:Hid (ofL its ls=PN):=by show _=_;rw[HOF.out,HPN.out]
     clear hrz;go_wp2;refine bodyPost_ret (v:=.tuple #[.slice ca PN.length cc,.slice fa PN.length fc,.bool (decide ((PN.length:Int)<=200))]) (by simp[results,Tryz.f72,go_sem]) rfl ?_;rw[HQ.out];exact⟨_,_,by rw[show decide ((PN.length:Int)<=200)=decide (PN.length<=200) by congr 1;simp;omega],HRZ.out.rs,HRZ.out.bel⟩
end Go.Proofs.YtiihalknffbjpaaGreatDoor
