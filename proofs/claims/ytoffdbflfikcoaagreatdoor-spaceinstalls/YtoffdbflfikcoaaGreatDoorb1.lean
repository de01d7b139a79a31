import Derived.Test.YtoffdbflfikcoaaGreatDoorb0
set_option maxHeartbeats 16000000
set_option maxRecDepth 100000
namespace Go.Proofs.YtoffdbflfikcoaaGreatDoor
open Go.RowKit Go.Deep Sv
theorem zif:(Tryz.prog.info? 117).map (fun i=>(i.zero,i.size,i.bytes))=some (some (.slice none 0 0),1,24):=by kernel_rfl
theorem Qi{x:Int}(h0:-10000<=x)(h1:x<=10000):IntKind.i64.wrap x=x:=by rw[zrl];omega
theorem zmo{its:List It}{k j:Nat}(h:(its.getD j default).name=(its.getD k default).name):pr0 its k j=[(-1,[zD (j:Int),zD (k:Int)])]:=by unfold pr0;rw[zc3 h]
theorem zkP{its:List It}{k j:Nat}(h:¬(its.getD j default).name=(its.getD k default).name):pr0 its k j=[]:=by unfold pr0;rw[zc2 h]
def znX(w:World)(P:List (Int × List Int))(e:Ending)(w':World):Prop:=∃cv fv,e=.returned (.tuple #[cv,fv,.bool (decide (P.length<=200))])/\RS w.heap.size w' cv fv (P.map Prod.snd) (P.map Prod.fst)/\zB w w'
theorem zqp(ls:List Ln)(its:List It)(v:Value)(w:World)(h:RLs w v ls)(hl:ls.length<=100)(hi24:its.length<=24)(hri:qy ls []=its)(hasc:Asc its) :
  zC 17 #[v] w (znX w (ofL its ls)):=by
 obtain⟨va,vc,rfl⟩:∃va vc,v=.slice va ls.length vc:=by obtain⟨vs,_,h2⟩:=h;obtain⟨a,c,e,_⟩:=h2.form;exact⟨a,c,e⟩
 obtain⟨i0,b0,b2,b3,b4⟩:=info_parts ZO;obtain⟨j0,bm,bn,bo,bp⟩:=info_parts zif;have bR:Hid (zC 18 #[.slice va ls.length vc] w fun e w'=>∃v',e=.returned v'/\w'.ownsRow w 116 4 v' its.length (zl its)/\zB w w'):=by rw[<-hri];exact ze1 ls _ w h (by omega)
 have HI:=zH h;have bU:=zH (JE its);have bT:=zH (K8 its);have cm:=zH (zan its ls hi24);have aN:=zH hasc;have co:Hid (ofL its ls=prF its its.length++lnL its ls ls.length):=by show _=_;rfl
 clear h hri hasc;go_enter Tryz.func17,Tryz.ntmps17;go_wp2_with fail;refine bR.out.mono ?_;rintro e w1 ⟨iv,rfl,bK,cb⟩;obtain⟨ia,ic,rfl,-⟩:=(zx bK).form;have bW:Hid (RR w w1 (.slice none 0 0) (.slice none 0 0) (.slice ia its.length ic) [] its):=⟨RS.nil _ _,bK,cb⟩;clear bK cb bR;go_wp2_with fail;go_loopw [6,7,23] (fun cV fV kV wr=>∃k:Nat,k<=its.length/\kV=.int .i64 k/\RR w wr cV fV (.slice ia its.length ic) (prF its k) its) (fun _ _ kV _=>its.length-(intOf kV).toNat)
 case atStart=>exact⟨0,zf6 _,rfl,bW.out⟩
 case round =>
  obtain⟨k,hk,rfl,bs⟩:=hrel;have bF:=zH bs;obtain⟨ca,cc,rfl⟩:=bs.cform;obtain⟨fa,fc,rfl⟩:=bs.fform;have ah:=bU.out k (by omega);clear bs bW
  by_cases hlt:k<its.length
  ·have bM:(k:Int)<(its.length:Int):=by omega
   have cI:(0:Int)<=(k:Int):=by omega
   have cq:Hid (prF its (k+1)=prF its k++prI its k k):=zbX its k;have cp:Hid (prF its k=prF its k++prI its k 0):=by show _=_;simp[prI]
   go_wp2_with fail
   try rw[show decide ((k:Int)<(its.length:Int))=true from zq9 bM]
   go_loopw [6,7,27] (fun cV fV jV wz=>∃j:Nat,j<=k/\jV=.int .i64 j/\RR w wz cV fV (.slice ia its.length ic) (prF its k++prI its k j) its) (fun _ _ jV _=>k-(intOf jV).toNat)
   case atStart=>exact⟨0,zf6 _,rfl,by rw[<-cp.out];exact bF.out⟩
   case round =>
    obtain⟨j,hj,rfl,ai⟩:=hrel;have ay:=zH ai;obtain⟨ca,cc,rfl⟩:=ai.cform;obtain⟨fa,fc,rfl⟩:=ai.fform;have cB:=bT.out k j;clear ai
    by_cases hjl:j<k
    ·have aV:(j:Int)<(k:Int):=by omega
     have bL:(0:Int)<=(j:Int):=by omega
     have cH:(j:Int)<(its.length:Int):=by omega
     obtain⟨g,bd,e1,hg,x0,-⟩:=(show yc wr (.slice ia its.length ic) its from zx ay.out.it).at j (by omega);simp at e1;obtain⟨rfl,rfl⟩:=e1;obtain⟨g',bd,e1,cG,y0,-⟩:=(show yc wr (.slice (some ⟨g,0,none⟩) its.length ic) its from zx ay.out.it).at k hlt;simp at e1;obtain⟨rfl,rfl⟩:=e1;have hY:=@zmo its k j;have hN:=@zkP its k j;have aS:=zH (zaH its k j);obtain⟨PJ,aD⟩:∃PJ,prF its k++prI its k j=PJ:=⟨_,rfl⟩;have bb:=zH aD;rw[aD] at ay;have bN:PJ.length<=1000:=by rw[<-aD,zf4];omega
     rw[show (prF its k++prI its k j).length=PJ.length by rw[aD]];clear aD cB ah;generalize its.getD j default=X at *;generalize its.getD k default=Y at *;have bG:=zH hY;have bz:=zH hN;clear hY hN;have cw:zB wr (wr.drewN 1):=xp zF 1
     by_cases hnm:X.name=Y.name
     ·have e1:(X.name.toList==Y.name.toList)=true:=by rw[hnm];simp
      have HQ:Hid (prF its k++prI its k (j+1)=PJ++[(-1,[zD (j:Int),zD (k:Int)])]):=by show _=_;rw[aS.out,bG.out hnm,<-bb.out,zrH]
      clear hnm bG bz;go_upto_region 10 with fail;go_quiet (fail);have a9:Hid (RR w (wr.drewN nq) (.slice ca PJ.length cc) (.slice fa PJ.length fc) (.slice (some ⟨g,0,none⟩) its.length ic) PJ its):=ay.out.new (xp zF _);clear x0 y0 cw ay;generalize wr.drewN nq=WD at *;have bH:IntKind.i64.wrap ((j:Int)+1)=(j:Int)+1:=Qi (by omega) (by omega);have ct:IntKind.i64.wrap (-((j:Int)+1))=zD (j:Int):=Qi (by omega) (by omega);have cD:IntKind.i64.wrap ((k:Int)+1)=(k:Int)+1:=Qi (by omega) (by omega);have cE:IntKind.i64.wrap (-((k:Int)+1))=zD (k:Int):=Qi (by omega) (by omega);generalize zD (j:Int)=N1 at *;generalize zD (k:Int)=N2 at *;have b1:=below_new WD (.cells #[N1,N2] 3);have aq:=zH (zet WD N1 N2);have bj:=a9.out.rs.frow;have ar:Hid (0<[N1,N2].length->∀g,(Value.slice (some WD) 2 2).ownBlock=some g->some g≠(Value.slice fa PJ.length fc).ownBlock):=fun _ g hg e=>by
       have h1:=(bj.lt g e.symm).2;simp[Value.ownBlock] at hg;omega
      have aR:=zH (a9.out.new b1);obtain⟨cs,a2,az,aA,ah⟩:=aR.out.rs.crow;have R:(WD.alloc (.cells #[N1,N2] 3)).ownsRow w 117 1 (.slice ca PJ.length cc) PJ.length cs:=by simpa using a2
      have U:=zH R;have ak:=zH az;have an:=zH aA;have a1:=zH ah;have ba:Hid (∀(j:Nat) (x:Value),[Value.slice (some WD) 2 2][j]?=some x->((WD.alloc (.cells #[N1,N2] 3)).alloc (.cells #[.slice (some WD) 2 2] 117)).cell? ((⟨WD.heap.size+1,0,none⟩:Addr).add j)=some x):=by
       have hh:=XC (WD.alloc (.cells #[N1,N2] 3)) (.slice (some WD) 2 2) 117;rw[zc1] at hh;exact hh
      have a8:=a9.out.bel.size;clear b1 bj a2 R az aA ah a9;go_wp2_with (at_builtin;refine wpList_append_own_at _ rfl _ _ 26 rfl w.heap.size 117 j0 (.slice none 0 0) 1 24 ztG bm bn bo bp rfl (by decide) _ _ _ rfl (U.out.alloc _) ⟨WD.heap.size+1,0,none⟩ 1 1 [.slice (some WD) 2 2] rfl rfl ?c1b ?c2b ?c3b ?c4b ?c5b ?_)
      case c1b=>exact ba.out
      case c2b=>first|rfl|(intro u hu;rw[zra] at hu;subst hu;rfl)
      case c3b=>unfold maxLen;omega
      case c4b=>omega
      case c5b=>first|omega|(simp;omega)
      intro v7 w7 p o _ y;obtain⟨q1,q2,q3⟩:=aR.out.appC (c:=[N1,N2]) U.out ak.out an.out a1.out (fun ad e=>by cases e;rfl) zN (by show 2<=9223372036854775807;decide) aq.out ar.out p o;have ao:Hid (w7.ownsRow w 3 1 (.slice fa PJ.length fc) PJ.length (icells (PJ.map Prod.fst))):=by show World.ownsRow _ _ _ _ _ _ _;simpa using q1.frow
      have au:=zH q1;have aw:=zH q2;have ax:=zH q3;have aX:=q3.size;clear p o y q1 q2 q3 aR U ak an a1 aq ar ba a8;go_wp2_with (at_builtin;refine wpList_append_own_at _ rfl _ _ 47 rfl w.heap.size 3 i0 (.int .i64 0) 1 8 zrq b0 b2 b3 b4 rfl (by decide) _ _ _ rfl (ao.out.alloc _) w7.heap.size 1 1 [.int .i64 (-1)] rfl rfl ?d1c ?d2c ?d3c ?d4c ?d5c ?_)
      case d1c=>exact yI _ _ _
      case d2c=>exact yq _
      case d3c=>unfold maxLen;omega
      case d4c=>omega
      case d5c=>first|omega|(simp;omega)
      intro v8 w8 M q _ C;have aQ:Hid (RR w w8 v7 v8 (.slice (some ⟨g,0,none⟩) its.length ic) (PJ++[((-1),[N1,N2])]) its):=RR.appF au.out rfl rfl aw.out ax.out (by simpa using M) q (by rw[zc1];exact C);clear M q C ao au aw ax;go_wp2;go_roundw
      case rel=>exact⟨j+1,by omega,by go_num,by rw[HQ.out];exact aQ.out⟩
      case measure=>simp[intOf];omega
     ·have e1:(X.name.toList==Y.name.toList)=false:=by rw[zf2];exact fun e=>hnm (Zd e)
      have HQ:Hid (prF its k++prI its k (j+1)=PJ):=by show _=_;rw[aS.out,bz.out hnm,zrS,bb.out]
      clear hnm bG bz;go_upto_region 10 with fail;go_quiet (fail);go_wp2;go_roundw
      case rel=>exact⟨j+1,by omega,by go_num,by rw[HQ.out];exact ay.out.new (xp zF _)⟩
      case measure=>simp[intOf];omega
    ·have aV:¬(j:Int)<(k:Int):=by omega
     obtain rfl:j=k:=by omega
     go_wp2;go_roundw
     case rel=>exact⟨j+1,by omega,by go_num,by rw[cq.out];exact ay.out⟩
     case measure=>simp[intOf];omega
  ·have bM:¬(k:Int)<(its.length:Int):=by omega
   obtain rfl:k=its.length:=by omega
   have bY:Hid (RR w wr (.slice ca (prF its its.length).length cc) (.slice fa (prF its its.length).length fc) (.slice ia its.length ic) (prF its its.length++lnL its ls 0) its):=by show RR _ _ _ _ _ _ _;simpa[lnL] using bF.out
   clear bF bU bT;generalize prF its its.length=P0 at *;go_wp2_with fail
   try rw[show decide ((its.length:Int)<(its.length:Int))=false from zf5 bM]
   go_loopw [6,7,58] (fun cV fV nV wz=>∃n:Nat,n<=ls.length/\nV=.int .i64 n/\RR w wz cV fV (.slice ia its.length ic) (P0++lnL its ls n) its) (fun _ _ nV _=>ls.length-(intOf nV).toNat)
   case atStart=>exact⟨0,zf6 _,rfl,bY.out⟩
   case round =>
    obtain⟨n,hn,rfl,ai⟩:=hrel;obtain⟨PN,bq⟩:∃PN,P0++lnL its ls n=PN:=⟨_,rfl⟩;rw[bq] at ai;have bV:=zH bq;have bN:PN.length<=5000:=by have:=cm.out n;rw[<-bq,zf4];omega
    obtain⟨ca,cc,rfl⟩:=ai.cform;obtain⟨fa,fc,rfl⟩:=ai.fform;have ay:=zH ai;clear bY bq
    by_cases hnl:n<ls.length
    ·obtain⟨g,bd,ra,rc,e1,hg,ci,cj,c0,c1,c2,c3,c4,c5,c6⟩:=(HI.out.below ai.bel zN).at n hnl;simp at e1;obtain⟨rfl,rfl⟩:=e1;have cx:(0:Int)<=(n:Int):=by omega
     have cy:(n:Int)<(ls.length:Int):=by omega
     have ck:=zbf its ls n;generalize ls.getD n default=X at *;have aS:Hid (P0++lnL its ls (n+1)=PN++yy its n X):=by show _=_;rw[ck,<-bV.out,zrH]
     have hA:zB wr (wr.alloc (.cells #[X.kind,X.name,X.a,X.b,X.c,X.other,.slice ra (tp X.rng).length rc] 94)):=zF.alloc zN _;have aP:=zH (Blk.new wr 94 #[X.kind,X.name,X.a,X.b,X.c,X.other,.slice ra (tp X.rng).length rc]);have bD:=zH (ai.new hA);have bS:=zH (ci.below hA zN);have a6:=zH cj;clear ai hA ci ck cj ay;generalize c8:(tp X.rng).length=TL at *;have bZ:=zH c8;clear c8;go_upto_region 17 with fail;generalize cv:wr.alloc (.cells #[X.kind,X.name,X.a,X.b,X.c,X.other,.slice ra TL rc] 94)=W3 at *;clear cv c0 c1 c2 c3 c4 c5 c6;generalize wr.heap.size=bx at *;have c1:_=some (Value.string X.name):=aP.out.cell 1;have c2:_=some (Value.int .i64 X.a):=aP.out.cell 2;have c3:_=some (Value.int .i64 X.b):=aP.out.cell 3;have c4:_=some (Value.int .i64 X.c):=aP.out.cell 4;have bA:=zH (zir its ⟨X.name,X.a,X.b,X.c⟩ (.slice ia its.length ic) W3 (zx bD.out.it) (by omega));obtain⟨cz,cA⟩:=zbc its ⟨X.name,X.a,X.b,X.c⟩ hi24;obtain⟨O,hO⟩:∃O,qK its ⟨X.name,X.a,X.b,X.c⟩=O:=⟨_,rfl⟩;have HO:Hid (qK its X.it=O):=hO;rw[hO] at bA cz cA;clear hO;go_wp2_with fail;refine bA.out.mono ?_;rintro e w4 ⟨rfl,br⟩;have ae:=zH (bD.out.new br);have aB:=zH (aP.out.below br aP.out.lt);have a5:=zH (bS.out.below br zN);have cF:IntKind.i64.wrap (O+1)=O+1:=Qi (by omega) (by omega);have cu:IntKind.i64.wrap (-(O+1))=zD O:=Qi (by omega) (by omega);clear br bA bD aP bS c1 c2 c3 c4;have c0:_=some (Value.int .i64 X.kind):=aB.out.cell 0;have c1:_=some (Value.string X.name):=aB.out.cell 1;have c5:_=some (Value.string X.other):=aB.out.cell 5;have c6:_=some (Value.slice ra TL rc):=aB.out.cell 6
     by_cases hk24:X.kind=2\/X.kind=4
     ·rcases hk24 with hk2|hk4
      ·have aC:Hid (yy its n X=[((n:Int),[zD O]++qG (qo its X.other X.rng))]):=by show _=_;unfold yy;rw[zc2 (by omega),zc3 hk2,HO.out];rfl
       rw[hk2] at c0;clear hk2;have kb:=Blk.new w4 3 #[.int .i64 (zD O)];have bI:=below_new w4 (.cells #[.int .i64 (zD O)] 3);have ce:(w4.alloc (.cells #[.int .i64 (zD O)] 3)).ownsRow w4 3 1 (.slice (some w4) 1 1) 1 (icells [zD O]):=⟨by simp[icells],Or.inr ⟨w4.heap.size,1,_,rfl,zri _,kb,zri _,by decide,rfl,rfl⟩⟩;have aI:[zD O].length<=1:=by simp
       have bv:=zH ce;have bu:=zH bI;have bl:=zH (aB.out.below bI aB.out.lt);clear kb bI ce;obtain⟨N0,c7⟩:∃N0,zD O=N0:=⟨_,rfl⟩;rw[c7] at cu bv bu bl aC aI;clear c7;go_upto_region 24 with fail;have cr:w4.drew.cell? ⟨bx,5,none⟩=some (.string X.other):=c5;have c5b:(w4.alloc (.cells #[.int .i64 N0] 3)).drew.cell? ⟨bx,5,none⟩=some (.string X.other):=bl.out.cell 5;go_big_region;have HC:Hid ((w4.alloc (.cells #[.int .i64 N0] 3)).drew.ownsRow w4 3 1 (.slice (some w4) 1 1) [N0].length (icells [N0])):=bv.out;have a0:Hid (zB w4 (w4.alloc (.cells #[.int .i64 N0] 3)).drew):=bu.out.drew;have cC:(w4.alloc (.cells #[.int .i64 N0] 3)).drew.cell? ⟨bx,6,none⟩=some (.slice ra TL rc):=bl.out.cell 6;obtain⟨af,a7⟩:∃af:List Int,af=[N0]:=⟨_,rfl⟩;rw[<-a7] at aC aI HC;have bC:=zH a7;generalize (w4.alloc (.cells #[.int .i64 N0] 3)).drew=W5 at *;clear a7 bv bu bl cr c5b;have aJ:Hid (zC 40 #[.slice ia its.length ic,X.other,.slice ra TL rc] W5 fun e w'=>∃v',e=.returned v'/\w'.ownsRow W5 3 1 v' (qo its X.other X.rng).length (icells ((qo its X.other X.rng).map fun (k:Nat)=>(k:Int)))/\zB W5 w'):=by
        have hq:=J7 its X.other X.rng a6.out (.slice ia its.length ic) (.slice ra TL rc) W5 (zx (ae.out.new a0.out).it) (by omega) (a5.out.below a0.out zN);rw[za6 aN.out] at hq;exact hq
       have c9:=Yw its X.other X.rng;have aL:=Y2 its X.other X.rng;generalize qo its X.other X.rng=am at *;have b5:=zH aL;clear aL;go_wp2_with fail;refine aJ.out.mono ?_;rintro e w6 ⟨av,rfl,V,aT⟩;obtain⟨aa,ac,rfl,-⟩:=(zx V).form;have ag:∀g,(Value.slice aa am.length ac).ownBlock=some g->(Value.slice (some w4) 1 1).ownBlock≠some g:=fun g hg e=>by
        have h1:=(V.lt g hg).1;have h2:=(HC.out.lt g e).2;omega
       have b6:=zH (zA HC.out aT);have b7:=zH ag;have aj:Hid (zB w4 w6):=zT a0.out aT;have aK:=zH (ownsRow_base V a0.out.size);clear V aT ag aJ HC a0 a5 a6 aB c0 c1 c5 c6;go_wp2_with fail;go_loopw [13,92] (fun cV jV wz=>∃j:Nat,j<=am.length/\jV=.int .i64 j/\wz.ownsRow w4 3 1 cV (af++qG (am.take j)).length (icells (af++qG (am.take j)))/\wz.ownsRow w4 3 1 (.slice aa am.length ac) am.length (icells (am.map fun (k:Nat)=>(k:Int)))/\(∀g,(Value.slice aa am.length ac).ownBlock=some g->cV.ownBlock≠some g)/\zB w4 wz) (fun _ jV _=>am.length-(intOf jV).toNat)
       case atStart=>exact⟨0,zf6 _,rfl,by simpa[qG] using b6.out,aK.out,b7.out,aj.out⟩
       case round =>
        obtain⟨j,hj,rfl,aH,V,ag,aG⟩:=hrel;obtain⟨CJ,aF⟩:∃CJ,af++qG (am.take j)=CJ:=⟨_,rfl⟩;rw[aF] at aH;have b8:=zH aF;have bi:CJ.length<=100:=by rw[<-aF,zf4,qG,zrs,zrj];omega
        obtain⟨xa,xc,rfl,bg,bh,aU,aW⟩:=zbx aH;have J:=zH aH;have Z:=zH V;have a4:=zH ag;have aE:=zH aG;have bO:=aG.size;clear aF b6 aK b7 aj aH
        by_cases hjl:j<am.length
        ·have aV:(j:Int)<(am.length:Int):=by omega
         have bL:(0:Int)<=(j:Int):=by omega
         obtain⟨g9,be,e9,cf,aM⟩:=(zx V).cells (by omega);simp at e9;obtain⟨rfl,rfl⟩:=e9;obtain⟨K,hK⟩:∃K,am.getD j 0=K:=⟨_,rfl⟩;have ab:am[j]?=some K:=by rw[<-hK,zc0,zc5 hjl];rfl
         have bf:K<its.length:=b5.out K (ztM ab);have z0:wr.cell? ⟨g9,j,none⟩=some (.int .i64 K):=aM j _ (by simp[icells,ab]);have HQ:Hid (af++qG (am.take (j+1))=CJ++[(K:Int)+1]):=by show _=_;rw[<-b8.out,zs8,ab];simp[qG]
         have bH:IntKind.i64.wrap ((K:Int)+1)=(K:Int)+1:=Qi (by omega) (by omega);clear V ag aG aM hK ab aU aW bg bh;go_wp2_with (at_builtin;refine wpList_append_own_at _ rfl _ _ 117 rfl w4.heap.size 3 i0 (.int .i64 0) 1 8 zub b0 b2 b3 b4 rfl (by decide) _ _ _ rfl (J.out.alloc _) wr.heap.size 1 1 [.int .i64 ((K:Int)+1)] rfl rfl ?c1d ?c2d ?c3d ?c4d ?c5d ?_)
         case c1d=>exact yI _ _ _
         case c2d=>exact yq _
         case c3d=>unfold maxLen;omega
         case c4d=>omega
         case c5d=>first|omega|(simp;omega)
         intro v7 w7 p o _ y;have a3:=below_new wr (.cells #[.int .i64 ((K:Int)+1)] 3);have aY:=zH (Zm (zA Z.out a3) o (Or.inr fun e=>by
          cases ho:(Value.slice (some g9) am.length ac).ownBlock with
          |none=>simp[Value.ownBlock] at ho
          | some g=>rw [ho] at e;exact a4.out g ho e.symm))
         have aO:Hid (∀g,(Value.slice (some g9) am.length ac).ownBlock=some g->v7.ownBlock≠some g):=fun g hg e=>by
          rcases y with h|h
          ·exact a4.out g hg (h▸e)
          ·have h1:=(Z.out.lt g hg).2;rw[h] at e;simp at e;omega
         have bE:Hid (w7.ownsRow w4 3 1 v7 (CJ++[((K:Int)+1)]).length (icells (CJ++[((K:Int)+1)]))):=by
          show World.ownsRow _ _ _ _ _ _ _;rw[Ze,zf4];exact p
         have bt:Hid (zB w4 w7):=(zL aE.out).grown o (by simp;omega) (fun k hk=>(J.out.lt k hk).1);clear p o y a3 J Z a4 aE z0;go_wp2;go_roundw
         case rel=>exact⟨j+1,by omega,by go_num,by rw[HQ.out];exact bE.out,aY.out,aO.out,bt.out⟩
         case measure=>simp[intOf];omega
        ·have aV:¬(j:Int)<(am.length:Int):=by omega
         obtain rfl:j=am.length:=by omega
         have HQ:Hid (P0++lnL its ls (n+1)=PN++[((n:Int),CJ)]):=by show _=_;rw[aS.out,aC.out,<-b8.out,zrC]
         have aq:=zH aU;have bB:=zH aW;have ar:Hid (0<CJ.length->∀g,(Value.slice xa CJ.length xc).ownBlock=some g->some g≠(Value.slice fa PN.length fc).ownBlock):=fun _ g hg e=>by
          have h1:=(J.out.lt g hg).1;have h2:=(ae.out.rs.frow.lt g e.symm).2;omega
         have a9:=zH (ae.out.new aE.out);clear V ag aG aU aW J Z a4 aE ae;generalize wr=WD at *;obtain⟨cs,a2,az,aA,ah⟩:=a9.out.rs.crow;have R:WD.ownsRow w 117 1 (.slice ca PN.length cc) PN.length cs:=by simpa using a2
         have U:=zH R;have ak:=zH az;have an:=zH aA;have a1:=zH ah;have a8:=a9.out.bel.size;clear a2 R az aA ah;go_wp2_with (at_builtin;refine wpList_append_own_at _ rfl _ _ 26 rfl w.heap.size 117 j0 (.slice none 0 0) 1 24 ztG bm bn bo bp rfl (by decide) _ _ _ rfl (U.out.alloc _) WD.heap.size 1 1 [.slice xa CJ.length xc] rfl rfl ?c1e ?c2e ?c3e ?c4e ?c5e ?_)
         try(case c1e=>exact XC _ _ _)
         case c2e=>first|rfl|(intro u hu;rw[zra] at hu;subst hu;rfl)
         case c3e=>unfold maxLen;omega
         case c4e=>omega
         case c5e=>first|omega|(simp;omega)
         intro v7 w7 p o _ y;obtain⟨q1,q2,q3⟩:=a9.out.appC U.out ak.out an.out a1.out bB.out bg bh aq.out ar.out p o;have ao:Hid (w7.ownsRow w 3 1 (.slice fa PN.length fc) PN.length (icells (PN.map Prod.fst))):=by show World.ownsRow _ _ _ _ _ _ _;simpa using q1.frow
         have au:=zH q1;have aw:=zH q2;have ax:=zH q3;have aX:=q3.size;clear p o y q1 q2 q3 a9 U ak an a1 aq ar a8;go_wp2_with (at_builtin;refine wpList_append_own_at _ rfl _ _ 47 rfl w.heap.size 3 i0 (.int .i64 0) 1 8 zrq b0 b2 b3 b4 rfl (by decide) _ _ _ rfl (ao.out.alloc _) w7.heap.size 1 1 [.int .i64 n] rfl rfl ?d1f ?d2f ?d3f ?d4f ?d5f ?_)
         case d1f=>exact yI _ _ _
         case d2f=>exact yq _
         case d3f=>unfold maxLen;omega
         case d4f=>omega
         case d5f=>first|omega|(simp;omega)
         intro v8 w8 M q _ C;have aQ:Hid (RR w w8 v7 v8 (.slice ia its.length ic) (PN++[((n:Int),CJ)]) its):=RR.appF au.out rfl rfl aw.out ax.out (by simpa using M) q (by rw[zc1];exact C);clear M q C ao au aw ax;go_wp2;go_roundw
         case rel=>exact⟨n+1,by omega,by go_num,by rw[HQ.out];exact aQ.out⟩
         case measure=>simp[intOf];omega
      ·have aC:Hid (yy its n X=[((n:Int),[]++qG (qo its X.name X.rng))]):=by show _=_;unfold yy;rw[zc3 hk4];rfl
       rw[hk4] at c0;have aI:([]:List Int).length<=1:=by simp
       have HC:Hid (w4.ownsRow w4 3 1 (.slice none 0 0) ([]:List Int).length (icells [])):=zrp _ _ _ _;have a0:Hid (zB w4 w4):=zf0 _ _;clear hk4;obtain⟨af,a7⟩:∃af:List Int,af=[]:=⟨_,rfl⟩;rw[<-a7] at aC aI HC;have bC:=zH a7;clear a7;have aJ:Hid (zC 40 #[.slice ia its.length ic,X.name,.slice ra TL rc] w4 fun e w'=>∃v',e=.returned v'/\w'.ownsRow w4 3 1 v' (qo its X.name X.rng).length (icells ((qo its X.name X.rng).map fun (k:Nat)=>(k:Int)))/\zB w4 w'):=by
        have hq:=J7 its X.name X.rng a6.out (.slice ia its.length ic) (.slice ra TL rc) w4 (zx (ae.out.new a0.out).it) (by omega) (a5.out.below a0.out zN);rw[za6 aN.out] at hq;exact hq
       have c9:=Yw its X.name X.rng;have aL:=Y2 its X.name X.rng;generalize qo its X.name X.rng=am at *;have b5:=zH aL;clear aL;go_wp2_with fail;refine aJ.out.mono ?_;rintro e w6 ⟨av,rfl,V,aT⟩;obtain⟨aa,ac,rfl,-⟩:=(zx V).form;have ag:∀g,(Value.slice aa am.length ac).ownBlock=some g->(Value.slice none 0 0).ownBlock≠some g:=fun g hg e=>by
        have h1:=(V.lt g hg).1;have h2:=(HC.out.lt g e).2;omega
       have b6:=zH (zA HC.out aT);have b7:=zH ag;have aj:Hid (zB w4 w6):=zT a0.out aT;have aK:=zH (ownsRow_base V a0.out.size);clear V aT ag aJ HC a0 a5 a6 aB c0 c1 c5 c6;go_wp2_with fail;go_loopw [13,92] (fun cV jV wz=>∃j:Nat,j<=am.length/\jV=.int .i64 j/\wz.ownsRow w4 3 1 cV (af++qG (am.take j)).length (icells (af++qG (am.take j)))/\wz.ownsRow w4 3 1 (.slice aa am.length ac) am.length (icells (am.map fun (k:Nat)=>(k:Int)))/\(∀g,(Value.slice aa am.length ac).ownBlock=some g->cV.ownBlock≠some g)/\zB w4 wz) (fun _ jV _=>am.length-(intOf jV).toNat)
       case atStart=>exact⟨0,zf6 _,rfl,by simpa[qG] using b6.out,aK.out,b7.out,aj.out⟩
       case round =>
        obtain⟨j,hj,rfl,aH,V,ag,aG⟩:=hrel;obtain⟨CJ,aF⟩:∃CJ,af++qG (am.take j)=CJ:=⟨_,rfl⟩;rw[aF] at aH;have b8:=zH aF;have bi:CJ.length<=100:=by rw[<-aF,zf4,qG,zrs,zrj];omega
        obtain⟨xa,xc,rfl,bg,bh,aU,aW⟩:=zbx aH;have J:=zH aH;have Z:=zH V;have a4:=zH ag;have aE:=zH aG;have bO:=aG.size;clear aF b6 aK b7 aj aH
        by_cases hjl:j<am.length
        ·have aV:(j:Int)<(am.length:Int):=by omega
         have bL:(0:Int)<=(j:Int):=by omega
         obtain⟨g9,be,e9,cf,aM⟩:=(zx V).cells (by omega);simp at e9;obtain⟨rfl,rfl⟩:=e9;obtain⟨K,hK⟩:∃K,am.getD j 0=K:=⟨_,rfl⟩;have ab:am[j]?=some K:=by rw[<-hK,zc0,zc5 hjl];rfl
         have bf:K<its.length:=b5.out K (ztM ab);have z0:wr.cell? ⟨g9,j,none⟩=some (.int .i64 K):=aM j _ (by simp[icells,ab]);have HQ:Hid (af++qG (am.take (j+1))=CJ++[(K:Int)+1]):=by show _=_;rw[<-b8.out,zs8,ab];simp[qG]
         have bH:IntKind.i64.wrap ((K:Int)+1)=(K:Int)+1:=Qi (by omega) (by omega);clear V ag aG aM hK ab aU aW bg bh;go_wp2_with (at_builtin;refine wpList_append_own_at _ rfl _ _ 117 rfl w4.heap.size 3 i0 (.int .i64 0) 1 8 zub b0 b2 b3 b4 rfl (by decide) _ _ _ rfl (J.out.alloc _) wr.heap.size 1 1 [.int .i64 ((K:Int)+1)] rfl rfl ?c1g ?c2g ?c3g ?c4g ?c5g ?_)
         case c1g=>exact yI _ _ _
         case c2g=>exact yq _
         case c3g=>unfold maxLen;omega
         case c4g=>omega
         case c5g=>first|omega|(simp;omega)
         intro v7 w7 p o _ y;have a3:=below_new wr (.cells #[.int .i64 ((K:Int)+1)] 3);have aY:=zH (Zm (zA Z.out a3) o (Or.inr fun e=>by
          cases ho:(Value.slice (some g9) am.length ac).ownBlock with
          |none=>simp[Value.ownBlock] at ho
          | some g=>rw [ho] at e;exact a4.out g ho e.symm))
         have aO:Hid (∀g,(Value.slice (some g9) am.length ac).ownBlock=some g->v7.ownBlock≠some g):=fun g hg e=>by
          rcases y with h|h
          ·exact a4.out g hg (h▸e)
          ·have h1:=(Z.out.lt g hg).2;rw[h] at e;simp at e;omega
         have bE:Hid (w7.ownsRow w4 3 1 v7 (CJ++[((K:Int)+1)]).length (icells (CJ++[((K:Int)+1)]))):=by
          show World.ownsRow _ _ _ _ _ _ _;rw[Ze,zf4];exact p
         have bt:Hid (zB w4 w7):=(zL aE.out).grown o (by simp;omega) (fun k hk=>(J.out.lt k hk).1);clear p o y a3 J Z a4 aE z0;go_wp2;go_roundw
         case rel=>exact⟨j+1,by omega,by go_num,by rw[HQ.out];exact bE.out,aY.out,aO.out,bt.out⟩
         case measure=>simp[intOf];omega
        ·have aV:¬(j:Int)<(am.length:Int):=by omega
         obtain rfl:j=am.length:=by omega
         have HQ:Hid (P0++lnL its ls (n+1)=PN++[((n:Int),CJ)]):=by show _=_;rw[aS.out,aC.out,<-b8.out,zrC]
         have aq:=zH aU;have bB:=zH aW;have ar:Hid (0<CJ.length->∀g,(Value.slice xa CJ.length xc).ownBlock=some g->some g≠(Value.slice fa PN.length fc).ownBlock):=fun _ g hg e=>by
          have h1:=(J.out.lt g hg).1;have h2:=(ae.out.rs.frow.lt g e.symm).2;omega
         have a9:=zH (ae.out.new aE.out);clear V ag aG aU aW J Z a4 aE ae;generalize wr=WD at *;obtain⟨cs,a2,az,aA,ah⟩:=a9.out.rs.crow;have R:WD.ownsRow w 117 1 (.slice ca PN.length cc) PN.length cs:=by simpa using a2
         have U:=zH R;have ak:=zH az;have an:=zH aA;have a1:=zH ah;have a8:=a9.out.bel.size;clear a2 R az aA ah;go_wp2_with (at_builtin;refine wpList_append_own_at _ rfl _ _ 26 rfl w.heap.size 117 j0 (.slice none 0 0) 1 24 ztG bm bn bo bp rfl (by decide) _ _ _ rfl (U.out.alloc _) WD.heap.size 1 1 [.slice xa CJ.length xc] rfl rfl ?c1h ?c2h ?c3h ?c4h ?c5h ?_)
         try(case c1h=>exact XC _ _ _)
         case c2h=>first|rfl|(intro u hu;rw[zra] at hu;subst hu;rfl)
         case c3h=>unfold maxLen;omega
         case c4h=>omega
         case c5h=>first|omega|(simp;omega)
         intro v7 w7 p o _ y;obtain⟨q1,q2,q3⟩:=a9.out.appC U.out ak.out an.out a1.out bB.out bg bh aq.out ar.out p o;have ao:Hid (w7.ownsRow w 3 1 (.slice fa PN.length fc) PN.length (icells (PN.map Prod.fst))):=by show World.ownsRow _ _ _ _ _ _ _;simpa using q1.frow
         have au:=zH q1;have aw:=zH q2;have ax:=zH q3;have aX:=q3.size;clear p o y q1 q2 q3 a9 U ak an a1 aq ar a8;go_wp2_with (at_builtin;refine wpList_append_own_at _ rfl _ _ 47 rfl w.heap.size 3 i0 (.int .i64 0) 1 8 zrq b0 b2 b3 b4 rfl (by decide) _ _ _ rfl (ao.out.alloc _) w7.heap.size 1 1 [.int .i64 n] rfl rfl ?d1i ?d2i ?d3i ?d4i ?d5i ?_)
         case d1i=>exact yI _ _ _
         case d2i=>exact yq _
         case d3i=>unfold maxLen;omega
         case d4i=>omega
         case d5i=>first|omega|(simp;omega)
         intro v8 w8 M q _ C;have aQ:Hid (RR w w8 v7 v8 (.slice ia its.length ic) (PN++[((n:Int),CJ)]) its):=RR.appF au.out rfl rfl aw.out ax.out (by simpa using M) q (by rw[zc1];exact C);clear M q C ao au aw ax;go_wp2;go_roundw
         case rel=>exact⟨n+1,by omega,by go_num,by rw[HQ.out];exact aQ.out⟩
         case measure=>simp[intOf];omega
     ·by_cases hk3:X.kind=3
      ·have aJ:Hid (zC 40 #[.slice ia its.length ic,X.other,.slice ra TL rc] w4 fun e w'=>∃v',e=.returned v'/\w'.ownsRow w4 3 1 v' (qo its X.other X.rng).length (icells ((qo its X.other X.rng).map fun (k:Nat)=>(k:Int)))/\zB w4 w'):=by
        have hq:=J7 its X.other X.rng a6.out (.slice ia its.length ic) (.slice ra TL rc) w4 (zx ae.out.it) (by omega) a5.out;rw[za6 aN.out] at hq;exact hq
       have c9:=Yw its X.other X.rng;have aL:=Y2 its X.other X.rng;have aC:Hid (yy its n X=(qo its X.other X.rng).map fun (k:Nat)=>((n:Int),[zD O,zD (k:Int)])):=by show _=_;unfold yy;rw[zc2 (by omega),zc2 (by omega),zc3 hk3,HO.out]
       have ch:(X.kind==2)=false:=by rw[hk3];rfl
       rw[hk3] at c0;generalize qo its X.other X.rng=am at *;have b5:=zH aL;clear hk24 hk3 aL ch a5 a6 bZ c1;go_wp2_with fail;refine aJ.out.mono ?_;rintro e w5 ⟨av,rfl,V,cd⟩;obtain⟨aa,ac,rfl,-⟩:=(zx V).form;have bX:=zH (ae.out.new cd);have aZ:∀g,(Value.slice aa am.length ac).ownBlock=some g->(Value.slice fa PN.length fc).ownBlock≠some g:=fun g hg e=>by
        have h1:=(V.lt g hg).1;have h2:=(ae.out.rs.frow.lt g e).2;omega
       have aK:=zH V;have bQ:=zH aZ;clear V cd aZ aJ ae aB c0 c5 c6;go_wp2_with fail;go_loopw [6,7,119] (fun cV fV jV wz=>∃j:Nat,j<=am.length/\jV=.int .i64 j/\RR w wz cV fV (.slice ia its.length ic) (PN++(am.take j).map fun (k:Nat)=>((n:Int),[zD O,zD (k:Int)])) its/\wz.ownsRow w4 3 1 (.slice aa am.length ac) am.length (icells (am.map fun (k:Nat)=>(k:Int)))/\∀g,(Value.slice aa am.length ac).ownBlock=some g->fV.ownBlock≠some g) (fun _ _ jV _=>am.length-(intOf jV).toNat)
       case atStart=>exact⟨0,zf6 _,rfl,by simpa using bX.out,aK.out,bQ.out⟩
       case round =>
        obtain⟨j,hj,rfl,bk,V,aZ⟩:=hrel;obtain⟨PJ,aD⟩:∃PJ,(PN++(am.take j).map fun (k:Nat)=>((n:Int),[zD O,zD (k:Int)]))=PJ:=⟨_,rfl⟩;rw[aD] at bk;have bb:=zH aD;have cg:PJ.length<=6000:=by rw[<-aD,zf4,zrs,zrj];omega
        obtain⟨ca,cc,rfl⟩:=bk.cform;obtain⟨fa,fc,rfl⟩:=bk.fform;have bc:=zH bk;have Z:=zH V;have b9:=zH aZ;clear aD bX aK bQ bk
        by_cases hjl:j<am.length
        ·have aV:(j:Int)<(am.length:Int):=by omega
         have bL:(0:Int)<=(j:Int):=by omega
         obtain⟨g9,be,e9,cf,aM⟩:=(zx V).cells (by omega);simp at e9;obtain⟨rfl,rfl⟩:=e9;obtain⟨K,hK⟩:∃K,am.getD j 0=K:=⟨_,rfl⟩;have ab:am[j]?=some K:=by rw[<-hK,zc0,zc5 hjl];rfl
         have bf:K<its.length:=b5.out K (ztM ab);have z0:wr.cell? ⟨g9,j,none⟩=some (.int .i64 K):=aM j _ (by simp[icells,ab]);have HQ:Hid ((PN++(am.take (j+1)).map fun (k:Nat)=>((n:Int),[zD O,zD (k:Int)]))=PJ++[((n:Int),[zD O,zD (K:Int)])]):=by show _=_;rw[<-bb.out,zs8,ab];simp
         have bH:IntKind.i64.wrap ((K:Int)+1)=(K:Int)+1:=Qi (by omega) (by omega);have ct:IntKind.i64.wrap (-((K:Int)+1))=zD (K:Int):=Qi (by omega) (by omega);generalize zD (K:Int)=N2 at *;generalize zD O=N1 at *;clear V aZ aM hK ab;go_upto_region 35 with fail;clear z0;generalize wr=WD at *;have b1:=below_new WD (.cells #[N1,N2] 3);have aq:=zH (zet WD N1 N2);have bj:=bc.out.rs.frow;have ar:Hid (0<[N1,N2].length->∀g,(Value.slice (some WD) 2 2).ownBlock=some g->some g≠(Value.slice fa PJ.length fc).ownBlock):=fun _ g hg e=>by
          have h1:=(bj.lt g e.symm).2;simp[Value.ownBlock] at hg;omega
         have aR:=zH (bc.out.new b1);have bP:=zH (zA Z.out b1);obtain⟨cs,a2,az,aA,ah⟩:=aR.out.rs.crow;have R:(WD.alloc (.cells #[N1,N2] 3)).ownsRow w 117 1 (.slice ca PJ.length cc) PJ.length cs:=by simpa using a2
         have U:=zH R;have ak:=zH az;have an:=zH aA;have a1:=zH ah;have ba:Hid (∀(j:Nat) (x:Value),[Value.slice (some WD) 2 2][j]?=some x->((WD.alloc (.cells #[N1,N2] 3)).alloc (.cells #[.slice (some WD) 2 2] 117)).cell? ((⟨WD.heap.size+1,0,none⟩:Addr).add j)=some x):=by
          have hh:=XC (WD.alloc (.cells #[N1,N2] 3)) (.slice (some WD) 2 2) 117;rw[zc1] at hh;exact hh
         have a8:=bc.out.bel.size;clear b1 bj a2 R az aA ah bc;go_wp2_with (at_builtin;refine wpList_append_own_at _ rfl _ _ 26 rfl w.heap.size 117 j0 (.slice none 0 0) 1 24 ztG bm bn bo bp rfl (by decide) _ _ _ rfl (U.out.alloc _) ⟨WD.heap.size+1,0,none⟩ 1 1 [.slice (some WD) 2 2] rfl rfl ?c1j ?c2j ?c3j ?c4j ?c5j ?_)
         case c1j=>exact ba.out
         case c2j=>first|rfl|(intro u hu;rw[zra] at hu;subst hu;rfl)
         case c3j=>unfold maxLen;omega
         case c4j=>omega
         case c5j=>first|omega|(simp;omega)
         intro v7 w7 p o _ y;obtain⟨q1,q2,q3⟩:=aR.out.appC (c:=[N1,N2]) U.out ak.out an.out a1.out (fun ad e=>by cases e;rfl) zN (by show 2<=9223372036854775807;decide) aq.out ar.out p o;have a3:=below_new (WD.alloc (.cells #[N1,N2] 3)) (.cells #[.slice (some WD) 2 2] 117);have aY:=zH (Zm (zA bP.out a3) o (ZW (ownsRow_base (zA bP.out a3) (zf6 _)) (ownsRow_base (zA U.out a3) (zf6 _)) (by decide)));clear a3;have ao:Hid (w7.ownsRow w 3 1 (.slice fa PJ.length fc) PJ.length (icells (PJ.map Prod.fst))):=by show World.ownsRow _ _ _ _ _ _ _;simpa using q1.frow
         have au:=zH q1;have aw:=zH q2;have ax:=zH q3;have aX:=q3.size;clear p o y q1 q2 q3 aR U ak an a1 aq ar ba a8;go_wp2_with (at_builtin;refine wpList_append_own_at _ rfl _ _ 47 rfl w.heap.size 3 i0 (.int .i64 0) 1 8 zrq b0 b2 b3 b4 rfl (by decide) _ _ _ rfl (ao.out.alloc _) w7.heap.size 1 1 [.int .i64 n] rfl rfl ?d1k ?d2k ?d3k ?d4k ?d5k ?_)
         case d1k=>exact yI _ _ _
         case d2k=>exact yq _
         case d3k=>unfold maxLen;omega
         case d4k=>omega
         case d5k=>first|omega|(simp;omega)
         intro v8 w8 M q _ C;have bJ:=below_new w7 (.cells #[n] 3);have cl:=zH (Zm (zA aY.out bJ) q (Or.inr fun e=>by
          cases ho:(Value.slice (some g9) am.length ac).ownBlock with
          |none=>simp[Value.ownBlock] at ho
          | some g=>rw [ho] at e;exact b9.out g ho e.symm))
         have bw:Hid (∀g,(Value.slice (some g9) am.length ac).ownBlock=some g->v8.ownBlock≠some g):=fun g hg e=>by
          rcases C with h|h
          ·exact b9.out g hg (h▸e)
          ·have h1:=(aY.out.lt g hg).2;rw[h] at e;simp at e;omega
         have aQ:Hid (RR w w8 v7 v8 (.slice ia its.length ic) (PJ++[((n:Int),[N1,N2])]) its):=RR.appF au.out rfl rfl aw.out ax.out (by simpa using M) q (by rw[zc1];exact C);clear M q C ao au aw ax;go_wp2;go_roundw
         case rel=>exact⟨j+1,by omega,by go_num,by rw[HQ.out];exact aQ.out,cl.out,bw.out⟩
         case measure=>simp[intOf];omega
        ·have aV:¬(j:Int)<(am.length:Int):=by omega
         obtain rfl:j=am.length:=by omega
         have HQ:Hid (P0++lnL its ls (n+1)=PJ):=by show _=_;rw[aS.out,aC.out,<-bb.out,zrC]
         clear V aZ;go_wp2;go_roundw
         case rel=>exact⟨n+1,by omega,by go_num,by rw[HQ.out];exact bc.out⟩
         case measure=>simp[intOf];omega
      ·have aC:Hid (P0++lnL its ls (n+1)=PN):=by show _=_;rw[aS.out];unfold yy;rw[zc2 (by omega),zc2 (by omega),zc2 (by omega),zrS]
       have ch:¬X.kind=2:=by omega
       have cJ:¬X.kind=4:=by omega
       clear hk24 a5 a6 bZ aB;go_wp2;go_roundw
       case rel=>exact⟨n+1,by omega,by go_num,by rw[aC.out];exact ae.out⟩
       case measure=>simp[intOf];omega
    ·have cK:¬(n:Int)<(ls.length:Int):=by omega
     obtain rfl:n=ls.length:=by omega
     have HQ:Hid (ofL its ls=PN):=by show _=_;rw[co.out,bV.out]
     clear ai;go_wp2;refine zc4 (v:=.tuple #[.slice ca PN.length cc,.slice fa PN.length fc,.bool (decide ((PN.length:Int)<=200))]) (by simp[results,Tryz.f17,go_sem]) rfl ?_;rw[HQ.out];exact⟨_,_,by rw[show decide ((PN.length:Int)<=200)=decide (PN.length<=200) by congr 1;simp;omega],ay.out.rs,ay.out.bel⟩
