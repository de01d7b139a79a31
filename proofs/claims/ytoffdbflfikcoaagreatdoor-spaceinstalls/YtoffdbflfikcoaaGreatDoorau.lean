import Derived.Test.YtoffdbflfikcoaaGreatDoorat
open Go.Proofs.Tryz Go.RowKit
set_option maxHeartbeats 4000000
set_option maxRecDepth 100000
namespace Go.Proofs.YtoffdbflfikcoaaGreatDoor
section
open Sv
theorem zbn(a b:List Nat)(va vb:Value)(F:Nat)(rule:Bool->Bool->Bool)(w:World)(hva:zE w va a)(hvb:zE w vb b)(hla:a.length<=1000000000)(hlb:b.length<=1000000000)
  (hent:∀aN w,(callFunc F aN).run prog w=.ok (.enter F aN) w)
  (hrule:∀x y W,zC F #[.bool x,.bool y] W fun e w'=>e=.returned (rule x y)/\w'=W) :
  zC 178 #[va,vb,.func (.func F) #[] #[]] w (yM w (Qv a b rule)):=by
 obtain⟨i0,aQ,aR,aS,aT⟩:=info_parts ziP;obtain⟨aa,ca,rfl⟩:=hva.form;obtain⟨ab,cb,rfl⟩:=hvb.form;have aX:=zH hva;have aZ:=zH hvb;have HR:=zH hrule;clear hva hvb hrule;go_enter func178,ntmps178;go_wp2_with fail;obtain⟨W0,b4⟩:∃W0,(w.alloc (.cells #[(0:Int),(1000000000:Int)] 3)).alloc (.cells #[.slice (some w) 2 2,.slice aa a.length ca,.slice ab b.length cb] 92)=W0:=⟨_,rfl⟩;obtain⟨bc,hX⟩:=zqJ a b aa ab ca cb w W0 b4 aX.out aZ.out;have aJ:=zH bc;have HX:=zH hX;have aY:Hid (∀W,zB W0 W->zE W (.slice aa a.length ca) a):=fun W hb=>aX.out.below (zT aJ.out hb) zN;have b0:Hid (∀W,zB W0 W->zE W (.slice ab b.length cb) b):=fun W hb=>aZ.out.below (zT aJ.out hb) zN;rw[b4];clear b4 aX aZ bc hX;go_loopw [7,23] (fun aV jV wr=>∃j:Nat,j<=3/\jV=.int .i64 j/\wr.ownsRow W0 3 1 aV (yV a b j).length (zw (yV a b j))/\zB W0 wr) (fun _ jV _=>3-(intOf jV).toNat)
 case atStart=>exact⟨0,zf6 _,rfl,zrp _ _ _ _,zf0 _ _⟩
 case round =>
  obtain⟨j,hj,rfl,a5,aG⟩:=hrel;obtain⟨ra,rc,rfl⟩:=zaG a5;have U:=zH a5;have ag:=zH aG;have az:=aG.size;clear a5 aG
  by_cases hlt:j<3
  ·obtain⟨x,c,hx⟩:=HX.out j hlt;have bE:(Zt a b j).length<=1000000000:=zom a b hla hlb j;have b5:∀k,(yg (yV a b j) ((Zt a b j).take k)).length<=2000000002:=fun k=>by have:=zpV a b j k hlt;omega
   have HJ:Hid (yV a b (j+1)=yg (yV a b j) (Zt a b j)):=rfl;have bj:=zH hx;have bf:=zH b5;have cj:=(hx wr ag.out).1;clear hx b5;generalize br:yV a b j=acc0 at *;generalize bu:Zt a b j=X at *;go_wp2_with fail;rw[show decide ((j:Int)<3)=true from zq9 (by omega)];go_loopw [7,29] (fun aV kV wr=>∃k:Nat,k<=X.length/\kV=.int .i64 k/\wr.ownsRow W0 3 1 aV (yg acc0 (X.take k)).length (zw (yg acc0 (X.take k)))/\zB W0 wr) (fun _ kV _=>X.length-(intOf kV).toNat)
   case atStart=>exact⟨0,zf6 _,rfl,by simpa[yg] using U.out,ag.out⟩
   case round =>
    clear U ag az cj;obtain⟨k,hk,rfl,a5,aG⟩:=hrel;obtain⟨ra,rc,rfl⟩:=zaG a5;have U:=zH a5;have ag:=zH aG;have az:=aG.size;clear a5 aG
    by_cases hlt2:k<X.length
    ·obtain⟨g1,c1,e1,bv,b1⟩:=(bj.out wr ag.out).2.cells k hlt2;simp at e1;obtain⟨rfl,rfl⟩:=e1;have ax:=bf.out k;have aU:=zH (zpT acc0 X k hlt2);generalize bk:yg acc0 (X.take k)=o at *;generalize bB:nv X k=n at *;go_wp2_with fail
     try rw[show decide ((k:Int)<(X.length:Int))=true from zq9 (by omega)]
     go_loopw [12] (fun iV bq=>∃i:Nat,i<=o.length/\iV=.int .i64 i/\qY o n o.length=qY o n i/\bq=wr) (fun iV _=>(intOf iV).toNat)
     case atStart=>exact⟨o.length,zri _,rfl,rfl,rfl⟩
     case round =>
      obtain⟨i,hi,rfl,hp,rfl⟩:=hrel
      by_cases be:i=0
      ·have HP:Hid (qY o n o.length=i):=by rw[be] at hp ⊢;exact hp
       have hi0':¬(0:Int)<(i:Int):=by omega
       clear hp be;go_wp2_with (at_builtin;refine zs7 _ rfl _ _ 47 rfl W0.heap.size 3 i0 (.int .i64 0) 1 8 zrq aQ aR aS aT rfl (by decide) _ _ _ rfl (U.out.alloc _) wr.heap.size 1 1 [.int .i64 0] rfl rfl (XR _ _ _) ?c2 ?c3 ?c4 ?c5 ?_)
       case c2=>first|rfl|(intro u hu;simp at hu;subst hu;rfl)
       case c3=>unfold maxLen;omega
       case c4=>omega
       case c5=>first|omega|(simp;omega)
       intro v' w3 C q _;have ah:zB W0 w3:=(ag.out.alloc az _).grown q (by simp;omega) (fun j hj=>(U.out.lt j hj).1);obtain⟨g,a6,aB,CS,rfl,aj,bn,aO,a4,a2,a7,af,a3⟩:=zdr (i:=i) (n:=n) hi C;obtain⟨I1,ar⟩:∃I1:Nat,I1=i+1:=⟨_,rfl⟩;rw[<-ar] at a4 af a3;have bp:IntKind.i64.wrap ((i:Int)+1)=(I1:Int):=by rw[ar];rw[zrl];omega
       have bo:I1<=o.length+1:=by omega
       have b9:(I1:Int)<=(o.length:Int)+1:=by omega
       have bm:(i:Int)<=(o.length:Int)+1:=by omega
       have HG:=zH aO;have Z:=zH a4;have K:=zH a2;have a0:=zH a7;have ac:=zH af;have V:=zH a3;have aw:=zH ah;have ae:Hid (yg acc0 (X.take (k+1))=o.take i++n :: o.drop i):=by show _=_;rw[aU.out];unfold xF;rw[HP.out]
       have aE:Hid ((o.take i++n :: o.drop i).length=o.length+1):=by show _=_;rw[zf4,zrb,zrj,zrK];omega
       have ai:Hid (zB W0 w3.drew):=aw.out.drew;clear C q ah aU HP U ag aO a4 a2 a7 af a3
       by_cases hend:i<o.length
       ·have bl:¬a6=I1:=by omega
        have b7:¬a6=i:=by omega
        have J:Hid (∀(dp sp:Option Addr),dp=some ⟨g,I1,none⟩->sp=some ⟨g,i,none⟩->0<CS.length->dp=some ⟨g,I1,none⟩/\∃ad:Addr,sp=some ad/\∀j v,CS[j]?=some v->w3.drew.cell? (ad.add j)=some v):=fun _ _ h1 h2 _=>⟨h1,⟨g,i,none⟩,h2,fun j v hv=>by have h7:=K.out j v hv;show w3.cell? (Addr.add ⟨g,i,none⟩ j)=_;rw[<-h7];congr 1;unfold Addr.add;split<;>simp_all⟩
        clear ar;go_wp2_with fail;go_region_held_law (fun _=>True) (exact trivial) (first|(refine step_copy_splice rfl (.tmp 54) (.tmp 57) 47 47 rfl 3 zrq YS (some ⟨g,I1,none⟩) (some ⟨g,i,none⟩) (o.length+1-I1) (a6-I1) (o.length+1-i) (a6-i) rfl rfl g I1 aB 3 HG.out CS ac.out (J.out _ _ rfl rfl) V.out a0.out W0.heap.size W0 ai.out aj ?_;intro w4 a9 a8));obtain⟨⟨u4,q1⟩,q2,q3⟩:=Z.out w4 a9.out;have an:=zH q3;have am:Hid (zB W0 (w4.setCell ⟨g,i,none⟩ (.int .i64 n))):=a8.setCell (p:=⟨g,i,none⟩) aj _;clear q3 a9 a8 Z HG aw ac V a0 K J ai;go_wp2;go_roundw
        case rel=>exact⟨k+1,by omega,by go_num,by rw[ae.out,aE.out];exact an.out,am.out⟩
        case measure=>simp[intOf];omega
       ·have J:Hid (∀(dp sp:Option Addr),0<CS.length->dp=some ⟨g,I1,none⟩/\∃ad:Addr,sp=some ad/\∀j v,CS[j]?=some v->w3.drew.cell? (ad.add j)=some v):=fun _ _ h=>by have h7:=ac.out;rw[h7] at h;exact absurd h (by show ¬0<min _ _;omega)
        have b7:¬a6=i:=by omega
        by_cases hcc:a6=I1
        ·subst hcc;have aF:Hid (CS.length=Nat.min (o.length+1-i) 0):=by show _=_;rw[ac.out,show o.length+1-a6=0 by omega]
         clear ar;go_wp2_with fail;go_region_held_law (fun _=>True) (exact trivial) (first|(refine step_copy_splice rfl (.tmp 54) (.tmp 57) 47 47 rfl 3 zrq YS _ _ _ _ _ _ rfl rfl g a6 aB 3 HG.out CS aF.out (J.out _ _) V.out a0.out W0.heap.size W0 ai.out aj ?_;intro w4 a9 a8));obtain⟨⟨u4,q1⟩,q2,q3⟩:=Z.out w4 a9.out;have an:=zH q3;have am:Hid (zB W0 (w4.setCell ⟨g,i,none⟩ (.int .i64 n))):=a8.setCell (p:=⟨g,i,none⟩) aj _;clear q3 a9 a8 Z HG aw ac V a0 K J ai;go_wp2;go_roundw
         case rel=>exact⟨k+1,by omega,by go_num,by rw[ae.out,aE.out];exact an.out,am.out⟩
         case measure=>simp[intOf];omega
        ·clear ar;go_wp2_with fail;go_region_held_law (fun _=>True) (exact trivial) (first|(refine step_copy_splice rfl (.tmp 54) (.tmp 57) 47 47 rfl 3 zrq YS _ _ _ _ _ _ rfl rfl g I1 aB 3 HG.out CS ac.out (J.out _ _) V.out a0.out W0.heap.size W0 ai.out aj ?_;intro w4 a9 a8));obtain⟨⟨u4,q1⟩,q2,q3⟩:=Z.out w4 a9.out;have an:=zH q3;have am:Hid (zB W0 (w4.setCell ⟨g,i,none⟩ (.int .i64 n))):=a8.setCell (p:=⟨g,i,none⟩) aj _;clear q3 a9 a8 Z HG aw ac V a0 K J ai;go_wp2;go_roundw
         case rel=>exact⟨k+1,by omega,by go_num,by rw[ae.out,aE.out];exact an.out,am.out⟩
         case measure=>simp[intOf];omega
      ·obtain⟨i',b8⟩:∃i',i'+1=i:=⟨i-1,by omega⟩;obtain⟨g2,c2,e2,bw,b2⟩:=(zbj U.out).cells i' (by omega);simp at e2;obtain⟨rfl,rfl⟩:=e2;have h1:(i:Int)-1=(i':Int):=by omega
       have bC:0<i:=by omega
       have bA:i'<o.length:=by omega
       have HI':=zH b8;rw[<-b8] at hp;clear b8
       by_cases hgt:n<nv o i'
       ·have bh:Hid (qY o n o.length=qY o n i'):=hp.trans (zc3 (show n<o.getD i' 0 from hgt));clear hp;generalize nv o i'=Y at *;go_wp2;go_roundw
        case rel=>exact⟨i',by omega,by go_num,bh.out,trivial⟩
        case measure=>have:=HI'.out;simp[intOf];omega
       ·have HP:Hid (qY o n o.length=i):=(hp.trans (zc2 (show ¬n<o.getD i' 0 from hgt))).trans HI'.out;clear hp;generalize nv o i'=Y at *;go_wp2_with (at_builtin;refine zs7 _ rfl _ _ 47 rfl W0.heap.size 3 i0 (.int .i64 0) 1 8 zrq aQ aR aS aT rfl (by decide) _ _ _ rfl (U.out.alloc _) wr.heap.size 1 1 [.int .i64 0] rfl rfl (XR _ _ _) ?c2 ?c3 ?c4 ?c5 ?_)
        case c2=>first|rfl|(intro u hu;simp at hu;subst hu;rfl)
        case c3=>unfold maxLen;omega
        case c4=>omega
        case c5=>first|omega|(simp;omega)
        intro v' w3 C q _;have ah:zB W0 w3:=(ag.out.alloc az _).grown q (by simp;omega) (fun j hj=>(U.out.lt j hj).1);obtain⟨g,a6,aB,CS,rfl,aj,bn,aO,a4,a2,a7,af,a3⟩:=zdr (i:=i) (n:=n) hi C;obtain⟨I1,ar⟩:∃I1:Nat,I1=i+1:=⟨_,rfl⟩;rw[<-ar] at a4 af a3;have bp:IntKind.i64.wrap ((i:Int)+1)=(I1:Int):=by rw[ar];rw[zrl];omega
        have bo:I1<=o.length+1:=by omega
        have b9:(I1:Int)<=(o.length:Int)+1:=by omega
        have bm:(i:Int)<=(o.length:Int)+1:=by omega
        have HG:=zH aO;have Z:=zH a4;have K:=zH a2;have a0:=zH a7;have ac:=zH af;have V:=zH a3;have aw:=zH ah;have ae:Hid (yg acc0 (X.take (k+1))=o.take i++n :: o.drop i):=by show _=_;rw[aU.out];unfold xF;rw[HP.out]
        have aE:Hid ((o.take i++n :: o.drop i).length=o.length+1):=by show _=_;rw[zf4,zrb,zrj,zrK];omega
        have ai:Hid (zB W0 w3.drew):=aw.out.drew;clear C q ah aU HP U ag aO a4 a2 a7 af a3
        by_cases hend:i<o.length
        ·have bl:¬a6=I1:=by omega
         have b7:¬a6=i:=by omega
         have J:Hid (∀(dp sp:Option Addr),dp=some ⟨g,I1,none⟩->sp=some ⟨g,i,none⟩->0<CS.length->dp=some ⟨g,I1,none⟩/\∃ad:Addr,sp=some ad/\∀j v,CS[j]?=some v->w3.drew.cell? (ad.add j)=some v):=fun _ _ h1 h2 _=>⟨h1,⟨g,i,none⟩,h2,fun j v hv=>by have h7:=K.out j v hv;show w3.cell? (Addr.add ⟨g,i,none⟩ j)=_;rw[<-h7];congr 1;unfold Addr.add;split<;>simp_all⟩
         clear ar;go_wp2_with fail;go_region_held_law (fun _=>True) (exact trivial) (first|(refine step_copy_splice rfl (.tmp 54) (.tmp 57) 47 47 rfl 3 zrq YS (some ⟨g,I1,none⟩) (some ⟨g,i,none⟩) (o.length+1-I1) (a6-I1) (o.length+1-i) (a6-i) rfl rfl g I1 aB 3 HG.out CS ac.out (J.out _ _ rfl rfl) V.out a0.out W0.heap.size W0 ai.out aj ?_;intro w4 a9 a8));obtain⟨⟨u4,q1⟩,q2,q3⟩:=Z.out w4 a9.out;have an:=zH q3;have am:Hid (zB W0 (w4.setCell ⟨g,i,none⟩ (.int .i64 n))):=a8.setCell (p:=⟨g,i,none⟩) aj _;clear q3 a9 a8 Z HG aw ac V a0 K J ai;go_wp2;go_roundw
         case rel=>exact⟨k+1,by omega,by go_num,by rw[ae.out,aE.out];exact an.out,am.out⟩
         case measure=>simp[intOf];omega
        ·have J:Hid (∀(dp sp:Option Addr),0<CS.length->dp=some ⟨g,I1,none⟩/\∃ad:Addr,sp=some ad/\∀j v,CS[j]?=some v->w3.drew.cell? (ad.add j)=some v):=fun _ _ h=>by have h7:=ac.out;rw[h7] at h;exact absurd h (by show ¬0<min _ _;omega)
         have b7:¬a6=i:=by omega
         by_cases hcc:a6=I1
         ·subst hcc;have aF:Hid (CS.length=Nat.min (o.length+1-i) 0):=by show _=_;rw[ac.out,show o.length+1-a6=0 by omega]
          clear ar;go_wp2_with fail;go_region_held_law (fun _=>True) (exact trivial) (first|(refine step_copy_splice rfl (.tmp 54) (.tmp 57) 47 47 rfl 3 zrq YS _ _ _ _ _ _ rfl rfl g a6 aB 3 HG.out CS aF.out (J.out _ _) V.out a0.out W0.heap.size W0 ai.out aj ?_;intro w4 a9 a8));obtain⟨⟨u4,q1⟩,q2,q3⟩:=Z.out w4 a9.out;have an:=zH q3;have am:Hid (zB W0 (w4.setCell ⟨g,i,none⟩ (.int .i64 n))):=a8.setCell (p:=⟨g,i,none⟩) aj _;clear q3 a9 a8 Z HG aw ac V a0 K J ai;go_wp2;go_roundw
          case rel=>exact⟨k+1,by omega,by go_num,by rw[ae.out,aE.out];exact an.out,am.out⟩
          case measure=>simp[intOf];omega
         ·clear ar;go_wp2_with fail;go_region_held_law (fun _=>True) (exact trivial) (first|(refine step_copy_splice rfl (.tmp 54) (.tmp 57) 47 47 rfl 3 zrq YS _ _ _ _ _ _ rfl rfl g I1 aB 3 HG.out CS ac.out (J.out _ _) V.out a0.out W0.heap.size W0 ai.out aj ?_;intro w4 a9 a8));obtain⟨⟨u4,q1⟩,q2,q3⟩:=Z.out w4 a9.out;have an:=zH q3;have am:Hid (zB W0 (w4.setCell ⟨g,i,none⟩ (.int .i64 n))):=a8.setCell (p:=⟨g,i,none⟩) aj _;clear q3 a9 a8 Z HG aw ac V a0 K J ai;go_wp2;go_roundw
          case rel=>exact⟨k+1,by omega,by go_num,by rw[ae.out,aE.out];exact an.out,am.out⟩
          case measure=>simp[intOf];omega
    ·obtain rfl:k=X.length:=by omega
     have aM:Hid (wr.ownsRow W0 3 1 (.slice ra (yV a b (j+1)).length rc) (yV a b (j+1)).length (zw (yV a b (j+1)))):=by
      show World.ownsRow _ _ _ _ _ _ _;rw[HJ.out];have h7:=U.out;rw[zrC] at h7;exact h7
     have bg:Hid ((yg acc0 (X.take X.length)).length=(yV a b (j+1)).length):=by show _=_;rw[HJ.out,zrC]
     clear U;rw[bg.out];go_wp2;go_roundw
     case rel=>exact⟨j+1,by omega,by go_num,aM.out,ag.out⟩
     case measure=>simp[intOf];omega
  ·have e3:yV a b j=Qj a b:=by
    obtain rfl:j=3:=by omega
    rfl
   rw[e3] at U ⊢;clear e3;have bD:(Qj a b).length<=2000000002:=by rw[zhY];omega
   have bb:Hid (Qv a b rule=qX (ZV a b rule) false (Qj a b)):=rfl;have bi:Hid (∀n:Nat,ZV a b rule n=(decide (n<ALL)&&rule (inP a n) (inP b n))):=fun _=>rfl;generalize hP:Qj a b=P at *;generalize hM:Qv a b rule=M at *;generalize bt:ZV a b rule=R at *
   rename World=>w9
   have bs:M.length<=P.length:=by rw[bb.out];exact zjt _ _ _
   go_wp2_with fail
   try rw[show decide ((j:Int)<3)=false from zf5 (by omega)]
   go_loopw [13,14,67] (fun oV sV kV wr=>∃(k:Nat) (o:List Nat) (is:Bool),k<=P.length/\kV=.int .i64 k/\sV=.bool is/\o++qX R is (P.drop k)=M/\wr.ownsRow w9 3 1 oV o.length (zw o)/\zB w9 wr) (fun _ _ kV _=>P.length-(intOf kV).toNat)
   case atStart=>exact⟨0,[],false,zf6 _,rfl,rfl,by rw[bb.out];rfl,zrp _ _ _ _,zf0 _ _⟩
   case round =>
    obtain⟨k,o,is,hk,rfl,rfl,aH,a5,b6⟩:=hrel;obtain⟨oa,oc,rfl⟩:=zaG a5;have b5:o.length<=M.length:=by rw[<-aH];simp
    have av:=zH a5;have aA:=zH b6;have ao:=zH aH;have ba:=b6.size;clear a5 b6 aH
    by_cases hlt3:k<P.length
    ·obtain⟨g3,c3,e3,bz,xA⟩:=(zbj U.out).cells k hlt3;simp at e3;obtain⟨rfl,rfl⟩:=e3;have cz:=(aA.out.cell (p:=⟨g3,k,none⟩) (by show g3<_;omega)).trans xA;have b3:zB W0 wr:=zT ag.out aA.out;have aC:=zH (zae a (nv P k) _ wr (aY.out wr b3) (by omega));have aD:=zH (zae b (nv P k) _ wr (b0.out wr b3) (by omega));have aq:=zH (HR.out (inP a (nv P k)) (inP b (nv P k)) wr);have au:=bi.out (nv P k);clear b3
     by_cases ay:nv P k<ALL
     ·have hall':(nv P k:Int)<1000000000:=by unfold ALL at ay;omega
      rw[zq9 ay,zuZ] at au;rw[<-au] at aq
      by_cases hsame:R (nv P k)=is
      ·have ak:Hid (o++qX R is (P.drop (k+1))=M):=by show _=_;rw[<-zec hlt3 hsame];exact ao.out
       rw[hsame] at aq;clear au hsame ao;generalize inP a (nv P k)=X1 at *;generalize inP b (nv P k)=X2 at *;generalize nv P k=N at *;go_wp2_with fail;refine aC.out.mono ?_;rintro e w1 ⟨rfl,a1⟩;rw[a1];clear a1;go_wp2_with fail;refine aD.out.mono ?_;rintro e w1 ⟨rfl,a1⟩;rw[a1];clear a1;go_wp2_with fail;refine aq.out.mono ?_;rintro e w1 ⟨rfl,a1⟩;rw[a1];clear a1;clear aC aD aq;go_wp2;go_roundw
       case rel=>exact⟨k+1,o,is,by omega,by go_num,rfl,ak.out,av.out,aA.out⟩
       case measure=>simp[intOf];omega
      ·have aI:=zfU hlt3 hsame;have ak:Hid ((o++[nv P k])++qX R (R (nv P k)) (P.drop (k+1))=M):=by show _=_;rw[zrH,List.singleton_append,<-aI];exact ao.out
       have ax:(o++[nv P k]).length<=M.length:=by rw[<-ak.out];simp
       simp at ax;cases is with
       |false =>
        have aP:R (nv P k)=true:=by simpa using hsame
        rw[aP] at ak aq;clear au hsame ao aI aP;generalize inP a (nv P k)=X1 at *;generalize inP b (nv P k)=X2 at *;generalize nv P k=N at *;go_wp2_with fail;refine aC.out.mono ?_;rintro e w1 ⟨rfl,a1⟩;rw[a1];clear a1;go_wp2_with fail;refine aD.out.mono ?_;rintro e w1 ⟨rfl,a1⟩;rw[a1];clear a1;go_wp2_with fail;refine aq.out.mono ?_;rintro e w1 ⟨rfl,a1⟩;rw[a1];clear a1;clear aC aD aq;go_wp2_with (at_builtin;refine zs7 _ rfl _ _ 92 rfl w9.heap.size 3 i0 (.int .i64 0) 1 8 underlying92 aQ aR aS aT rfl (by decide) _ _ _ rfl (av.out.alloc _) wr.heap.size 1 1 [.int .i64 N] rfl rfl (XR _ _ _) ?d2 ?d3 ?d4 ?d5 ?_)
        case d2=>first|rfl|(intro u hu;simp at hu;subst hu;rfl)
        case d3=>unfold maxLen;omega
        case d4=>omega
        case d5=>first|omega|(simp;omega)
        intro v' w3 C q _;have ah:zB w9 w3:=(aA.out.alloc ba _).grown q (by simp;omega) (fun j hj=>(av.out.lt j hj).1);have e7:(o++[N]).length=o.length+1:=by simp
        have es:zw (o++[N])=zw o++[.int .i64 N]:=Kq _ _;rw[<-es,<-e7] at C;have aL:=zH C;have aK:=zH ah;clear C q ah e7 es;go_wp2;go_roundw
        case rel=>exact⟨k+1,o++[N],true,by omega,by go_num,rfl,ak.out,aL.out,aK.out⟩
        case measure=>simp[intOf];omega
       |true =>
        have aP:R (nv P k)=false:=by simpa using hsame
        rw[aP] at ak aq;clear au hsame ao aI aP;generalize inP a (nv P k)=X1 at *;generalize inP b (nv P k)=X2 at *;generalize nv P k=N at *;go_wp2_with fail;refine aC.out.mono ?_;rintro e w1 ⟨rfl,a1⟩;rw[a1];clear a1;go_wp2_with fail;refine aD.out.mono ?_;rintro e w1 ⟨rfl,a1⟩;rw[a1];clear a1;go_wp2_with fail;refine aq.out.mono ?_;rintro e w1 ⟨rfl,a1⟩;rw[a1];clear a1;clear aC aD aq;go_wp2_with (at_builtin;refine zs7 _ rfl _ _ 92 rfl w9.heap.size 3 i0 (.int .i64 0) 1 8 underlying92 aQ aR aS aT rfl (by decide) _ _ _ rfl (av.out.alloc _) wr.heap.size 1 1 [.int .i64 N] rfl rfl (XR _ _ _) ?d2 ?d3 ?d4 ?d5 ?_)
        case d2=>first|rfl|(intro u hu;simp at hu;subst hu;rfl)
        case d3=>unfold maxLen;omega
        case d4=>omega
        case d5=>first|omega|(simp;omega)
        intro v' w3 C q _;have ah:zB w9 w3:=(aA.out.alloc ba _).grown q (by simp;omega) (fun j hj=>(av.out.lt j hj).1);have e7:(o++[N]).length=o.length+1:=by simp
        have es:zw (o++[N])=zw o++[.int .i64 N]:=Kq _ _;rw[<-es,<-e7] at C;have aL:=zH C;have aK:=zH ah;clear C q ah e7 es;go_wp2;go_roundw
        case rel=>exact⟨k+1,o++[N],false,by omega,by go_num,rfl,ak.out,aL.out,aK.out⟩
        case measure=>simp[intOf];omega
     ·have hall':¬(nv P k:Int)<1000000000:=by unfold ALL at ay;omega
      rw[zf5 ay,Bool.false_and] at au;clear aC aD aq;cases is with
      |false =>
       have ak:Hid (o++qX R false (P.drop (k+1))=M):=by show _=_;rw[<-zec hlt3 au];exact ao.out
       clear au ao;generalize nv P k=N at *;go_wp2;go_roundw
       case rel=>exact⟨k+1,o,false,by omega,by go_num,rfl,ak.out,av.out,aA.out⟩
       case measure=>simp[intOf];omega
      |true =>
       have aI:=zfU (f:=R) (is:=true) hlt3 (by rw[au];decide);rw[au] at aI;have ak:Hid ((o++[nv P k])++qX R false (P.drop (k+1))=M):=by show _=_;rw[zrH,List.singleton_append,<-aI];exact ao.out
       have ax:(o++[nv P k]).length<=M.length:=by rw[<-ak.out];simp
       simp at ax;clear au ao aI;generalize nv P k=N at *;go_wp2_with (at_builtin;refine zs7 _ rfl _ _ 92 rfl w9.heap.size 3 i0 (.int .i64 0) 1 8 underlying92 aQ aR aS aT rfl (by decide) _ _ _ rfl (av.out.alloc _) wr.heap.size 1 1 [.int .i64 N] rfl rfl (XR _ _ _) ?d2 ?d3 ?d4 ?d5 ?_)
       case d2=>first|rfl|(intro u hu;simp at hu;subst hu;rfl)
       case d3=>unfold maxLen;omega
       case d4=>omega
       case d5=>first|omega|(simp;omega)
       intro v' w3 C q _;have ah:zB w9 w3:=(aA.out.alloc ba _).grown q (by simp;omega) (fun j hj=>(av.out.lt j hj).1);have e7:(o++[N]).length=o.length+1:=by simp
       have es:zw (o++[N])=zw o++[.int .i64 N]:=Kq _ _;rw[<-es,<-e7] at C;have aL:=zH C;have aK:=zH ah;clear C q ah e7 es;go_wp2;go_roundw
       case rel=>exact⟨k+1,o++[N],false,by omega,by go_num,rfl,ak.out,aL.out,aK.out⟩
       case measure=>simp[intOf];omega
    ·obtain rfl:k=P.length:=by omega
     have bd:o=M:=by rw[<-ao.out,zsV,qX,zrS]
     have aW:Hid (yM w M (.returned (.slice oa o.length oc)) wr):=by
      rw[<-bd];exact⟨oa,oc,rfl,zbj av.out,fun g hg=>zf1 (zf1 aJ.out.size ag.out.size) (av.out.lt g hg).1,(zT aJ.out ag.out).trans (aA.out.mono (zf1 aJ.out.size ag.out.size))⟩
     clear bd ao;go_wp2;go_ret;exact aW.out
end
section
open Sv
theorem zjy:∀j w,(callFunc 180 j).run prog w=.ok (.enter 180 j) w:=by intro j w;kernel_rfl
theorem zpo:∀j w,(callFunc 179 j).run prog w=.ok (.enter 179 j) w:=by intro j w;kernel_rfl
theorem zj9:∀j w,(callFunc 219 j).run prog w=.ok (.enter 219 j) w:=by intro j w;kernel_rfl
theorem zlw(x y:Bool)(W:World):zC 180 #[x,y] W fun e w'=>e=.returned (.bool (x||y))/\w'=W:=by
 cases x
 ·go_enter func180,ntmps180;go_wp2;go_ret;exact⟨rfl,rfl⟩
 ·go_enter func180,ntmps180;go_wp2;go_ret;exact⟨rfl,rfl⟩
theorem zpF(x y:Bool)(W:World):zC 179 #[x,y] W fun e w'=>e=.returned (.bool (x&&y))/\w'=W:=by
 cases x
 ·go_enter func179,ntmps179;go_wp2;go_ret;exact⟨rfl,rfl⟩
 ·go_enter func179,ntmps179;go_wp2;go_ret;exact⟨rfl,rfl⟩
theorem ziA(x y:Bool)(W:World):zC 219 #[x,y] W fun e w'=>e=.returned (.bool (!x))/\w'=W:=by
 go_enter func219,ntmps219;go_wp2;go_ret;exact⟨rfl,rfl⟩
theorem YO{l:List zf}(h:Rg l):(tp l).length<=1000000000:=by have:=YB h;rw[Kl];omega
theorem zhG(l m:List zf)(hl:Rg l)(hm:Rg m)(v u:Value)(w:World)(hv:zE w v (tp l))(hu:zE w u (tp m)) :
  zC 124 #[v,u] w (yM w (tp (orr l m))):=by
 have H:=zH (zbn (tp l) (tp m) v u 180 (fun x y=>x||y) w hv hu (YO hl) (YO hm) zjy zlw);rw[zpk hl hm] at H;obtain⟨a,c,rfl⟩:=hv.form;obtain⟨a',c',rfl⟩:=hu.form;clear hv hu;generalize (tp l).length=n1 at *;generalize (tp m).length=n2 at *;generalize tp (orr l m)=R at *;go_enter func124,ntmps124;go_wp2_with fail;refine H.out.mono ?_;rintro e w' ⟨b,d,rfl,h1,h2,h3⟩;have H1:=zH h1;have H2:=zH h2;have H3:=zH h3;clear h1 h2 h3;go_wp2;go_ret;exact⟨b,d,rfl,H1.out,H2.out,H3.out⟩
theorem zpG(l m:List zf)(hl:Rg l)(hm:Rg m)(v u:Value)(w:World)(hv:zE w v (tp l))(hu:zE w u (tp m)) :
  zC 123 #[v,u] w (yM w (tp (nd l m))):=by
 have H:=zH (zbn (tp l) (tp m) v u 179 (fun x y=>x&&y) w hv hu (YO hl) (YO hm) zpo zpF);rw[zkw hl hm] at H;obtain⟨a,c,rfl⟩:=hv.form;obtain⟨a',c',rfl⟩:=hu.form;clear hv hu;generalize (tp l).length=n1 at *;generalize (tp m).length=n2 at *;generalize tp (nd l m)=R at *;go_enter func123,ntmps123;go_wp2_with fail;refine H.out.mono ?_;rintro e w' ⟨b,d,rfl,h1,h2,h3⟩;have H1:=zH h1;have H2:=zH h2;have H3:=zH h3;clear h1 h2 h3;go_wp2;go_ret;exact⟨b,d,rfl,H1.out,H2.out,H3.out⟩
theorem zkZ(l:List zf)(hl:Rg l)(v:Value)(w:World)(hv:zE w v (tp l)) :
  zC 177 #[v] w (yM w (tp (nt l))):=by
 have H:=zH (zbn (tp l) [] v (.slice none 0 0) 219 (fun x _=>!x) w hv (xM w) (YO hl) (zf6 _) zj9 ziA);rw[zoL hl] at H;obtain⟨a,c,rfl⟩:=hv.form;clear hv;generalize (tp l).length=n1 at *;generalize tp (nt l)=R at *;go_enter func177,ntmps177;go_wp2_with fail;refine H.out.mono ?_;rintro e w' ⟨b,d,rfl,h1,h2,h3⟩;have H1:=zH h1;have H2:=zH h2;have H3:=zH h3;clear h1 h2 h3;go_wp2;go_ret;exact⟨b,d,rfl,H1.out,H2.out,H3.out⟩
end
section
open Go.Shelf Go.Sort Sv
def QX(l:List UInt8):Option Int :=
 match Lib.parseIntB 64 l with
 |.ok v=>if Lib.itoa v=l then some v else none
 |_=>none
def Xv:Option Int->Value
 |some v=>.tuple #[v,true]
 |none=>.tuple #[(0:Int),false]
theorem zez(s:ByteArray)(w:World)(hs:s.size<=100000)(hw:Lb w)(h:∀v,Lib.parseIntB 64 s.data.toList≠.ok v) :
  zR 120 #[s] w (.tuple #[(0:Int),false]):=by
 have H:Hid (zC 174 #[s,(10:Int),(64:Int)] w fun e w'=>∃N x,e=.returned (.tuple #[.int .i64 x,.iface 353 (.pointer (some ⟨N,0,none⟩))])/\zB w w'):=by
  cases hp:Lib.parseIntB 64 s.data.toList with
  |ok v=>exact absurd hp (h v)
  |«syntax» =>obtain⟨ev,h3,j⟩:=hw.es;exact(Tryz.strconv_ParseInt_10_at64_syntax s (by omega) hp ev w h3 j).mono fun e w' ⟨N,he,_,_,hb⟩=>⟨N,_,he,hb⟩
  |range =>obtain⟨ev,h3,j⟩:=hw.er;exact(Tryz.strconv_ParseInt_10_at64_range s (by omega) hp ev w h3 j).mono fun e w' ⟨N,he,_,_,hb⟩=>⟨N,_,he,hb⟩
 clear h hw;go_enter func120,ntmps120;go_wp2_with fail;refine H.out.mono ?_;rintro e w1 ⟨N,x,rfl,hb⟩;have HB:=zH hb;clear hb H;go_wp2;go_ret2;exact⟨rfl,HB.out⟩
theorem zjb(s:ByteArray)(w:World)(hs:s.size<=100000)(hw:Lb w)(v:Int)(h:Lib.parseIntB 64 s.data.toList=.ok v) :
  zR 120 #[s] w (Xv (if Lib.itoa v=s.data.toList then some v else none)):=by
 obtain⟨r0,r1⟩:=zcW h;have H:Hid (zR 174 #[s,(10:Int),(64:Int)] w (.tuple #[v,.nilIface])):=(Tryz.strconv_ParseInt_10_at64_ok s (by omega) v h w).mono fun e w' ⟨he,p⟩=>by
  refine⟨he,?_⟩;rcases p with rfl|⟨t,rfl⟩
  ·exact zf0 _ _
  ·exact zcD w t
 have HF:Hid (∀W,zB w W->zR 175 #[v,(10:Int)] W (.string ⟨(Lib.itoa v).toArray⟩)):=fun W hb=>(Tryz.strconv_FormatInt_10 v r0 r1 W (hw.below hb).tab).mono fun e w' ⟨he,k,os,p⟩=>⟨he,p▸zbv _ W k os zN⟩;clear h hw;generalize Lib.itoa v=l at *
 by_cases hl:l=s.data.toList
 ·have q:(l==s.toList)=true:=by rw[ByteArray.toList_eq,hl];simp
  rw[zc3 hl];clear hl;go_enter func120,ntmps120;go_wp2_with fail;refine H.out.mono ?_;rintro e w1 ⟨rfl,hb⟩;have H2:=zH (HF.out _ hb);have HB:=zH hb;clear hb H HF;go_wp2_with fail;refine H2.out.mono ?_;rintro e w2 ⟨rfl,j⟩;have o:Hid (zB w w2):=zT HB.out j;clear j H2 HB;go_wp2;go_ret2;exact⟨rfl,o.out⟩
 ·have q:(l==s.toList)=false:=by rw[ByteArray.toList_eq];simpa using hl
  rw[zc2 hl];clear hl;go_enter func120,ntmps120;go_wp2_with fail;refine H.out.mono ?_;rintro e w1 ⟨rfl,hb⟩;have H2:=zH (HF.out _ hb);have HB:=zH hb;clear hb H HF;go_wp2_with fail;refine H2.out.mono ?_;rintro e w2 ⟨rfl,j⟩;have o:Hid (zB w w2):=zT HB.out j;clear j H2 HB;go_wp2;go_ret2;exact⟨rfl,o.out⟩
theorem zjl(s:ByteArray)(w:World)(hs:s.size<=100000)(hw:Lb w) :
  zR 120 #[s] w (Xv (QX s.data.toList)):=by
 cases h:Lib.parseIntB 64 s.data.toList with
 |ok v=>unfold QX;rw[h];exact zjb s w hs hw v h
 |«syntax»=>unfold QX;rw[h];exact zez s w hs hw (fun v e=>by rw[h] at e;cases e)
 |range=>unfold QX;rw[h];exact zez s w hs hw (fun v e=>by rw[h] at e;cases e)
theorem zkU(l:List UInt8):yp l=match QX l with
  |none=>.error 3
  |some v=>if v<0 then .error 3 else if 999<v then .error 2 else .ok v.toNat:=by
 unfold yp QX;cases hv:Lib.parseIntB 64 l with
 |ok v =>
  by_cases h:Lib.itoa v=l
  ·simp only[h,ztL]
   by_cases hn:v<0<;>simp[hn]
  ·simp[h]
 |«syntax»=>rfl
 |range=>rfl
end
section
open Go.Shelf Sv
def J0:Prop:=∀(s:ByteArray) (W:World),s.size<=100000->Lb W->zC 32 #[s,.string ⟨#[46]⟩] W fun e w' =>
 e=.returned (.slice (some W) (zq s ⟨#[46]⟩ s.size 0).length (zq s ⟨#[46]⟩ s.size 0).length)/\w'=W.alloc (.cells (((zq s ⟨#[46]⟩ s.size 0).map (·.2)).map Value.string).toArray 9)
def QI:Except Int (List Nat)->Value
 |.ok ns=>.tuple #[.agg (xK ns),(0:Int)]
 |.error k=>.tuple #[.agg #[(0:Int),(0:Int),(0:Int)],k]
theorem zog(HS:J0)(s:ByteArray)(w:World)(hs:s.size<=100000)(hw:Lb w)(h:(zq s ⟨#[46]⟩ s.size 0).length≠3) :
  zR 75 #[s] w (QI (.error 3)):=by
 have H:Hid (∀W,zB w W->zC 32 #[s,.string ⟨#[46]⟩] W fun e w'=>∃a n,n≠3/\e=.returned (.slice a n n)/\zB W w'):=fun W hb=>(HS s W hs (hw.below hb)).mono fun e w' ⟨he,hw'⟩=>⟨_,_,h,he,hw'▸zF.alloc zN _⟩;have kr:=Blk.new w 91 #[(0:Int),(0:Int),(0:Int)];have y:zB w (w.alloc (.cells #[(0:Int),(0:Int),(0:Int)] 91)):=(zf0 _ w).alloc zN _;have u:=zH kr;have o:=zH y;clear h hw HS kr y;go_enter func75,ntmps75;go_wp2_with fail;generalize w.alloc (.cells #[(0:Int),(0:Int),(0:Int)] 91)=W0 at *;refine(H.out _ o.out).mono ?_;rintro e w1 ⟨a,n,hn,rfl,j⟩;have k1:=u.out.below j u.out.lt;have C:Hid (zB w w1):=zT o.out j;have K:=zH k1;have c0:_=some (Value.int .i64 0):=k1.cell 0;have c1:_=some (Value.int .i64 0):=k1.cell 1;have c2:_=some (Value.int .i64 0):=k1.cell 2;have f0:=k1.frozen 0;have f1:=k1.frozen 1;have f2:=k1.frozen 2;have M:((n:Int) != 3)=true:=by rw[bne_iff_ne];omega
 have q:Blk (((w1.setCell w (.int .i64 0)).setCell ⟨w.heap.size,1,none⟩ (.int .i64 0)).setCell ⟨w.heap.size,2,none⟩ (.int .i64 0)) w.heap.size 91 #[(0:Int),(0:Int),(0:Int)]:=((k1.set (i:=0) (v:=.int .i64 0)).set (i:=1) (v:=.int .i64 0)).set (i:=2) (v:=.int .i64 0);have J:Hid (zB w (((w1.setCell w (.int .i64 0)).setCell ⟨w.heap.size,1,none⟩ (.int .i64 0)).setCell ⟨w.heap.size,2,none⟩ (.int .i64 0))):=((C.out.setCell (p:=w) zN _).setCell (p:=⟨w.heap.size,1,none⟩) zN _).setCell (p:=⟨w.heap.size,2,none⟩) zN _;have HQ:=zH q;clear k1 j H hn q;go_wp2;have r0:=HQ.out.cell 0;have r1:=HQ.out.cell 1;have r2:=HQ.out.cell 2;refine zc4 (v:=.tuple #[.agg #[(0:Int),(0:Int),(0:Int)],(3:Int)]) (by simp[results,results75,go_sem,r0,r1,r2]) rfl ?_;exact⟨rfl,J.out⟩
theorem zny(ns:List Nat)(n:Nat)(h:ns.length<3):(xK ns).setIfInBounds ns.length (.int .i64 n)=xK (ns++[n]):=by
 match ns,h with
 |[],_=>rfl
 |[_],_=>rfl
 |[_,_],_=>rfl
theorem znt{L:List (Nat × ByteArray)}{k:Nat}{ns:List Nat}(hk:k<L.length)(h:qJ (L.take k)=.ok ns):qJ (L.take (k+1))=match yp (L[k].2).data.toList with
  |.error e=>.error e
  |.ok n=>.ok (ns++[n]):=by
 rw[zry hk,zew h];cases yp L[k].2.data.toList<;>rfl
theorem zao{L:List (Nat × ByteArray)}{k:Nat}{e:Int}(h:qJ (L.take k)=.error e):qJ L=.error e:=by
 have:=zee (r:=L.drop k) h
 rwa [zrN] at this
theorem zi0(HS:J0)(s:ByteArray)(w:World)(hs:s.size<=100000)(hw:Lb w)(h:(zq s ⟨#[46]⟩ s.size 0).length=3)(hsz:∀x∈zq s ⟨#[46]⟩ s.size 0,x.2.size<=100000) :
  zR 75 #[s] w (QI (qJ (zq s ⟨#[46]⟩ s.size 0))):=by
 have H:Hid (∀W,zB w W->zC 32 #[s,.string ⟨#[46]⟩] W fun e w'=>e=.returned (.slice (some W) 3 3)/\Blk w' W.heap.size 9 (((zq s ⟨#[46]⟩ s.size 0).map (·.2)).map Value.string).toArray/\zB W w'):=fun W hb=>(HS s W hs (hw.below hb)).mono fun e w' ⟨he,hw'⟩=>by
  rw[h] at he;exact⟨he,hw'▸Blk.new _ _ _,hw'▸zF.alloc zN _⟩
 generalize zq s ⟨#[46]⟩ s.size 0=L at *;have HN:Hid (∀k (hk:k<L.length) W,zB w W->zR 120 #[.string L[k].2] W (Xv (QX (L[k].2).data.toList))):=fun k hk W hb=>zjl _ W (hsz _ (zr0 hk)) (hw.below hb);have kr:=Blk.new w 91 #[(0:Int),(0:Int),(0:Int)];have ag:zB w (w.alloc (.cells #[(0:Int),(0:Int),(0:Int)] 91)):=(zf0 _ w).alloc zN _;have a7:=zH kr;have a6:=zH ag;have ad:=zH h;clear h hw HS kr ag hsz;go_enter func75,ntmps75;go_wp2_with fail;generalize w.alloc (.cells #[(0:Int),(0:Int),(0:Int)] 91)=W0 at *;refine(H.out _ a6.out).mono ?_;rintro e w1 ⟨rfl,kp,a9⟩;have U:=zH (a7.out.below a9 a7.out.lt);have aa:Hid (zB w w1):=zT a6.out a9;have ac:=zH kp;clear a9 H kp;go_wp2_with fail;have kv:=Blk.new w1 91 #[(0:Int),(0:Int),(0:Int)];have ai:zB w1 (w1.alloc (.cells #[(0:Int),(0:Int),(0:Int)] 91)):=(zf0 _ w1).alloc zN _;have an:=zH kv;have am:=zH ai;clear kv ai;generalize w1.alloc (.cells #[(0:Int),(0:Int),(0:Int)] 91)=W2 at *;go_loopw [18] (fun iV wr=>∃(k:Nat) (ns:List Nat),k<=3/\iV=.int .i64 k/\ns.length=k/\qJ (L.take k)=.ok ns/\Blk wr w1.heap.size 91 (xK ns)/\zB w1 wr) (fun iV _=>3-(intOf iV).toNat)
 case atStart=>exact⟨0,[],by omega,rfl,rfl,rfl,an.out,am.out⟩
 case round =>
  obtain⟨k,ns,hk,rfl,Y,Z,hv,aj⟩:=hrel;have a3:=zH Y;have af:=zH Z;have V:=zH hv;have o:=zH aj;clear Y Z hv aj
  by_cases hlt:k<3
  ·have a5:k<L.length:=by rw[ad.out];exact hlt
   have c0:wr.cell? ⟨W0.heap.size,k,none⟩=some (.string L[k].2):=by
    rw[(ac.out.below o.out ac.out.lt).cell k];simp[a5]
   have a4:=zH (znt a5 af.out);have ae:=zH (HN.out k a5);generalize L[k].2=p at *;clear a5;have ab:Hid (zB w wr):=zT aa.out o.out;go_wp2_with fail;refine(ae.out _ ab.out).mono ?_;rintro e w3 ⟨rfl,X⟩;have R:Hid (zB w w3):=zT ab.out X;have J:=zH ((U.out.below o.out U.out.lt).below X (zc6 U.out.lt o.out.size));have a8:=zH (V.out.below X V.out.lt);have ao:Hid (zB w1 w3):=zT o.out X;clear X ae a7 a6;have j:=zkU p.data.toList;cases hnm:QX p.data.toList with
   |none =>rw[hnm] at j;simp only[Xv];have K:Hid (yp p.data.toList=.error 3):=j;clear j hnm c0;have M:Hid (qJ L=.error 3):=zao (k:=k+1) (by rw[a4.out,K.out]);have kz:=J.out;have z0:_=some (Value.int .i64 0):=kz.cell 0;have z1:_=some (Value.int .i64 0):=kz.cell 1;have z2:_=some (Value.int .i64 0):=kz.cell 2;have f0:=kz.frozen 0;have f1:=kz.frozen 1;have f2:=kz.frozen 2;have q:Blk (((w3.setCell w (.int .i64 0)).setCell ⟨w.heap.size,1,none⟩ (.int .i64 0)).setCell ⟨w.heap.size,2,none⟩ (.int .i64 0)) w.heap.size 91 #[(0:Int),(0:Int),(0:Int)]:=((kz.set (i:=0) (v:=.int .i64 0)).set (i:=1) (v:=.int .i64 0)).set (i:=2) (v:=.int .i64 0);have C:Hid (zB w (((w3.setCell w (.int .i64 0)).setCell ⟨w.heap.size,1,none⟩ (.int .i64 0)).setCell ⟨w.heap.size,2,none⟩ (.int .i64 0))):=((R.out.setCell (p:=w) zN _).setCell (p:=⟨w.heap.size,1,none⟩) zN _).setCell (p:=⟨w.heap.size,2,none⟩) zN _;have HQ:=zH q;clear kz q;go_wp2;have r0:=HQ.out.cell 0;have r1:=HQ.out.cell 1;have r2:=HQ.out.cell 2;rw[M.out];refine zc4 (v:=.tuple #[.agg #[(0:Int),(0:Int),(0:Int)],(3:Int)]) (by simp[results,results75,go_sem,r0,r1,r2]) rfl ?_;exact⟨rfl,C.out⟩
   |some x =>
    rw[hnm] at j;simp only[Xv]
    by_cases hneg:x<0
    ·have K:Hid (yp p.data.toList=.error 3):=by show _=_;rw[j];simp[hneg]
     clear j hnm c0;have M:Hid (qJ L=.error 3):=zao (k:=k+1) (by rw[a4.out,K.out]);have kz:=J.out;have z0:_=some (Value.int .i64 0):=kz.cell 0;have z1:_=some (Value.int .i64 0):=kz.cell 1;have z2:_=some (Value.int .i64 0):=kz.cell 2;have f0:=kz.frozen 0;have f1:=kz.frozen 1;have f2:=kz.frozen 2;have q:Blk (((w3.setCell w (.int .i64 0)).setCell ⟨w.heap.size,1,none⟩ (.int .i64 0)).setCell ⟨w.heap.size,2,none⟩ (.int .i64 0)) w.heap.size 91 #[(0:Int),(0:Int),(0:Int)]:=((kz.set (i:=0) (v:=.int .i64 0)).set (i:=1) (v:=.int .i64 0)).set (i:=2) (v:=.int .i64 0);have C:Hid (zB w (((w3.setCell w (.int .i64 0)).setCell ⟨w.heap.size,1,none⟩ (.int .i64 0)).setCell ⟨w.heap.size,2,none⟩ (.int .i64 0))):=((R.out.setCell (p:=w) zN _).setCell (p:=⟨w.heap.size,1,none⟩) zN _).setCell (p:=⟨w.heap.size,2,none⟩) zN _;have HQ:=zH q;clear kz q;go_wp2;have r0:=HQ.out.cell 0;have r1:=HQ.out.cell 1;have r2:=HQ.out.cell 2;rw[M.out];refine zc4 (v:=.tuple #[.agg #[(0:Int),(0:Int),(0:Int)],(3:Int)]) (by simp[results,results75,go_sem,r0,r1,r2]) rfl ?_;exact⟨rfl,C.out⟩
    ·by_cases hbig:999<x
     ·have K:Hid (yp p.data.toList=.error 2):=by show _=_;rw[j];simp[hneg,hbig]
      clear j hnm c0;have M:Hid (qJ L=.error 2):=zao (k:=k+1) (by rw[a4.out,K.out]);have kz:=J.out;have z0:_=some (Value.int .i64 0):=kz.cell 0;have z1:_=some (Value.int .i64 0):=kz.cell 1;have z2:_=some (Value.int .i64 0):=kz.cell 2;have f0:=kz.frozen 0;have f1:=kz.frozen 1;have f2:=kz.frozen 2;have q:Blk (((w3.setCell w (.int .i64 0)).setCell ⟨w.heap.size,1,none⟩ (.int .i64 0)).setCell ⟨w.heap.size,2,none⟩ (.int .i64 0)) w.heap.size 91 #[(0:Int),(0:Int),(0:Int)]:=((kz.set (i:=0) (v:=.int .i64 0)).set (i:=1) (v:=.int .i64 0)).set (i:=2) (v:=.int .i64 0);have C:Hid (zB w (((w3.setCell w (.int .i64 0)).setCell ⟨w.heap.size,1,none⟩ (.int .i64 0)).setCell ⟨w.heap.size,2,none⟩ (.int .i64 0))):=((R.out.setCell (p:=w) zN _).setCell (p:=⟨w.heap.size,1,none⟩) zN _).setCell (p:=⟨w.heap.size,2,none⟩) zN _;have HQ:=zH q;clear kz q;go_wp2;have r0:=HQ.out.cell 0;have r1:=HQ.out.cell 1;have r2:=HQ.out.cell 2;rw[M.out];refine zc4 (v:=.tuple #[.agg #[(0:Int),(0:Int),(0:Int)],(2:Int)]) (by simp[results,results75,go_sem,r0,r1,r2]) rfl ?_;exact⟨rfl,C.out⟩
     ·obtain⟨n,rfl⟩:=zue (Int.not_lt.1 hneg);have K:Hid (yp p.data.toList=.ok n):=by show _=_;rw[j];simp[hbig]
      clear j hnm c0;have ak:k<(xK ns).size:=hlt;have v0:w3.cell? ⟨w1.heap.size,k,none⟩=(xK ns)[k]?:=a8.out.cell k;obtain⟨u,hu⟩:∃u,(xK ns)[k]?=some u:=⟨_,zsI ak⟩;rw[hu] at v0;have fv:=a8.out.frozen k;clear hu ak;obtain⟨WF,ah⟩:∃WF,w3.setCell ⟨w1.heap.size,k,none⟩ (.int .i64 n)=WF:=⟨_,rfl⟩;have aq:=zH ah;clear ah;go_wp2;go_roundw
      case rel =>refine⟨k+1,ns++[n],by omega,by go_num,by simp[a3.out],by rw[a4.out,K.out],?_,ao.out.setCell (p:=⟨w1.heap.size,k,none⟩) zN _⟩;have h1:=a8.out.set (i:=k) (v:=.int .i64 n);have h2:=zny ns n (by rw[a3.out];exact hlt);rw[a3.out] at h2;rw[h2] at h1;exact h1
      case measure=>simp[intOf];omega
  ·obtain rfl:k=3:=by omega
   obtain⟨x,y,z,rfl⟩:=Yy a3.out;have M:Hid (qJ L=.ok [x,y,z]):=by have h1:=af.out;rw[ztx (by rw[ad.out];omega)] at h1;exact h1
   have R:Hid (zB w wr):=zT aa.out o.out;have kz:=U.out.below o.out U.out.lt;have a0:_=some (Value.int .i64 x):=V.out.cell 0;have a1:_=some (Value.int .i64 y):=V.out.cell 1;have a2:_=some (Value.int .i64 z):=V.out.cell 2;have z0:_=some (Value.int .i64 0):=kz.cell 0;have z1:_=some (Value.int .i64 0):=kz.cell 1;have z2:_=some (Value.int .i64 0):=kz.cell 2;have f0:=kz.frozen 0;have f1:=kz.frozen 1;have f2:=kz.frozen 2;have q:Blk (((wr.setCell w (.int .i64 x)).setCell ⟨w.heap.size,1,none⟩ (.int .i64 y)).setCell ⟨w.heap.size,2,none⟩ (.int .i64 z)) w.heap.size 91 #[x,y,z]:=((kz.set (i:=0) (v:=.int .i64 x)).set (i:=1) (v:=.int .i64 y)).set (i:=2) (v:=.int .i64 z);have C:Hid (zB w (((wr.setCell w (.int .i64 x)).setCell ⟨w.heap.size,1,none⟩ (.int .i64 y)).setCell ⟨w.heap.size,2,none⟩ (.int .i64 z))):=((R.out.setCell (p:=w) zN _).setCell (p:=⟨w.heap.size,1,none⟩) zN _).setCell (p:=⟨w.heap.size,2,none⟩) zN _;have HQ:=zH q;clear kz q;go_wp2;have r0:=HQ.out.cell 0;have r1:=HQ.out.cell 1;have r2:=HQ.out.cell 2;rw[M.out];refine zc4 (v:=.tuple #[.agg #[x,y,z],(0:Int)]) (by simp[results,results75,go_sem,r0,r1,r2]) rfl ?_;exact⟨rfl,C.out⟩
theorem zjn(s m:ByteArray):∀(f k:Nat),∀x∈zq s m f k,x.2.size<=s.size:=by
 intro f
 induction f with
 |zero=>intro k x hx;simp only[zq,zra] at hx;subst hx;simp
 |succ f ih =>
  intro k x hx;rw[zq] at hx;split at hx
  ·simp only[zra] at hx;subst hx;simp
  ·rcases zrw.1 hx with rfl|hx
   ·simp;omega
   ·exact ih _ x hx
theorem yU(HS:J0)(s:ByteArray)(w:World)(hs:s.size<=100000)(hw:Lb w) :
  zR 75 #[s] w (QI (zO s)):=by
 have hc:=zap s 46 s.size 0 (by omega) (zf6 _);rw[ztn] at hc
 by_cases h:(zq s ⟨#[46]⟩ s.size 0).length=3
 ·unfold zO;rw[zc3 (by omega)];exact zi0 HS s w hs hw h (fun x hx=>zf1 (zjn s _ _ _ x hx) hs)
 ·unfold zO;rw[zc2 (by omega)];exact zog HS s w hs hw h
end
