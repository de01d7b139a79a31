import Derived.Test.YthifnefkdjkicaaGreatDoorRlItems
set_option maxHeartbeats 16000000
set_option maxRecDepth 100000
namespace Go.Proofs.YthifnefkdjkicaaGreatDoor
open Go.RowKit Go.Deep Sv
theorem zmb:(Tryz.prog.info? 107).map (fun i=>(i.zero,i.size,i.bytes))=some (some (.slice none 0 0),1,24):=by kernel_rfl
theorem Qf{x:Int}(h0:-10000<=x)(h1:x<=10000):IntKind.i64.wrap x=x:=by rw[IntKind.wrap_i64];omega
theorem zmo{its:List It}{k j:Nat}(h:(its.getD j default).name=(its.getD k default).name):pr0 its k j=[(-1,[zE (j:Int),zE (k:Int)])]:=by unfold pr0;rw[zA2 h]
theorem zk5{its:List It}{k j:Nat}(h:¬(its.getD j default).name=(its.getD k default).name):pr0 its k j=[]:=by unfold pr0;rw[zA1 h]
def ziE(w:World)(P:List (Int × List Int))(e:Ending)(w':World):Prop:=∃cv fv,e=.returned (.tuple #[cv,fv,.bool (decide (P.length<=200))])/\RS w.heap.size w' cv fv (P.map Prod.snd) (P.map Prod.fst)/\zB w w'
theorem ziQ(ls:List Ln)(its:List It)(v:Value)(w:World)(h:RLs w v ls)(hl:ls.length<=100)(hi24:its.length<=24)(hri:qC ls []=its)(hasc:Asc its) :
  zC 19 #[v] w (ziE w (ofL its ls)):=by
 obtain⟨va,vc,rfl⟩:∃va vc,v=.slice va ls.length vc:=by obtain⟨vs,_,h2⟩:=h;obtain⟨a,c,e,_⟩:=h2.form;exact⟨a,c,e⟩
 obtain⟨i0,aZ,b1,b2,b3⟩:=info_parts Z0;obtain⟨j0,bl,bm,bn,bo⟩:=info_parts zmb;have bQ:Hid (zC 20 #[.slice va ls.length vc] w fun e w'=>∃v',e=.returned v'/\w'.ownsRow w.heap.size 106 4 v' its.length (zl its)/\zB w w'):=by rw[<-hri];exact zeB ls _ w h (by omega)
 have HI:=zH h;have bT:=zH (Jj its);have bS:=zH (JF its);have cl:=zH (JW its ls hi24);have aM:=zH hasc;have cm:Hid (ofL its ls=prF its its.length++lnL its ls ls.length):=by show _=_;rfl
 clear h hri hasc;go_enter Tryz.func19,Tryz.ntmps19;go_wp2_with fail;refine bQ.out.mono ?_;rintro e w1 ⟨iv,rfl,bJ,c9⟩;obtain⟨ia,ic,rfl,-⟩:=(zD bJ).form;have bV:Hid (RR w w1 (.slice none 0 0) (.slice none 0 0) (.slice ia its.length ic) [] its):=⟨RS.nil _ _,bJ,c9⟩;clear bJ c9 bQ;go_wp2_with fail;go_loopw [6,7,23] (fun cV fV kV wr=>∃k:Nat,k<=its.length/\kV=.int .i64 k/\RR w wr cV fV (.slice ia its.length ic) (prF its k) its) (fun _ _ kV _=>its.length-(intOf kV).toNat)
 case atStart=>exact⟨0,Nat.zero_le _,rfl,bV.out⟩
 case round =>
  obtain⟨k,hk,rfl,br⟩:=hrel;have bE:=zH br;obtain⟨ca,cc,rfl⟩:=br.cform;obtain⟨fa,fc,rfl⟩:=br.fform;have ah:=bT.out k (by omega);clear br bV
  by_cases hlt:k<its.length
  ·have bL:(k:Int)<(its.length:Int):=by omega
   have cG:(0:Int)<=(k:Int):=by omega
   have co:Hid (prF its (k+1)=prF its k++prI its k k):=zaa its k;have cn:Hid (prF its k=prF its k++prI its k 0):=by show _=_;simp[prI]
   go_wp2_with fail
   try rw[show decide ((k:Int)<(its.length:Int))=true from decide_eq_true bL]
   go_loopw [6,7,27] (fun cV fV jV wz=>∃j:Nat,j<=k/\jV=.int .i64 j/\RR w wz cV fV (.slice ia its.length ic) (prF its k++prI its k j) its) (fun _ _ jV _=>k-(intOf jV).toNat)
   case atStart=>exact⟨0,Nat.zero_le _,rfl,by rw[<-cn.out];exact bE.out⟩
   case round =>
    obtain⟨j,hj,rfl,ai⟩:=hrel;have ax:=zH ai;obtain⟨ca,cc,rfl⟩:=ai.cform;obtain⟨fa,fc,rfl⟩:=ai.fform;have cz:=bS.out k j;clear ai
    by_cases hjl:j<k
    ·have aU:(j:Int)<(k:Int):=by omega
     have bK:(0:Int)<=(j:Int):=by omega
     have cF:(j:Int)<(its.length:Int):=by omega
     obtain⟨g,bc,e1,hg,x0,-⟩:=(show yd wr (.slice ia its.length ic) its from zD ax.out.it).at j (by omega);simp at e1;obtain⟨rfl,rfl⟩:=e1;obtain⟨g',bc,e1,cE,y0,-⟩:=(show yd wr (.slice (some ⟨g,0,none⟩) its.length ic) its from zD ax.out.it).at k hlt;simp at e1;obtain⟨rfl,rfl⟩:=e1;have hY:=@zmo its k j;have hN:=@zk5 its k j;have aR:=zH (zbK its k j);obtain⟨PJ,aC⟩:∃PJ,prF its k++prI its k j=PJ:=⟨_,rfl⟩;have ba:=zH aC;rw[aC] at ax;have bM:PJ.length<=1000:=by rw[<-aC,List.length_append];omega
     rw[show (prF its k++prI its k j).length=PJ.length by rw[aC]];clear aC cz ah;generalize its.getD j default=X at *;generalize its.getD k default=Y at *;have bF:=zH hY;have bw:=zH hN;clear hY hN;have cu:zB wr (wr.drewN 1):=yV zF 1
     by_cases hnm:X.name=Y.name
     ·have e1:(X.name.toList==Y.name.toList)=true:=by rw[hnm];simp
      have HQ:Hid (prF its k++prI its k (j+1)=PJ++[(-1,[zE (j:Int),zE (k:Int)])]):=by show _=_;rw[aR.out,bF.out hnm,<-ba.out,List.append_assoc]
      clear hnm bF bw;go_upto_region 10 with fail;go_quiet (fail);have a9:Hid (RR w (wr.drewN nq) (.slice ca PJ.length cc) (.slice fa PJ.length fc) (.slice (some ⟨g,0,none⟩) its.length ic) PJ its):=ax.out.new (yV zF _);clear x0 y0 cu ax;generalize wr.drewN nq=WD at *;have bG:IntKind.i64.wrap ((j:Int)+1)=(j:Int)+1:=Qf (by omega) (by omega);have cq:IntKind.i64.wrap (-((j:Int)+1))=zE (j:Int):=Qf (by omega) (by omega);have cB:IntKind.i64.wrap ((k:Int)+1)=(k:Int)+1:=Qf (by omega) (by omega);have cC:IntKind.i64.wrap (-((k:Int)+1))=zE (k:Int):=Qf (by omega) (by omega);generalize zE (j:Int)=N1 at *;generalize zE (k:Int)=N2 at *;have b0:=below_new WD (.cells #[N1,N2] 3);have ap:=zH (zb4 WD N1 N2);have bi:=a9.out.rs.frow;have aq:Hid (0<[N1,N2].length->∀g,(Value.slice (some WD.heap.size) 2 2).ownBlock=some g->some g≠(Value.slice fa PJ.length fc).ownBlock):=fun _ g hg e=>by
       have h1:=(bi.lt g e.symm).2;simp[Value.ownBlock] at hg;omega
      have aQ:=zH (a9.out.new b0);obtain⟨cs,a2,ay,az,ah⟩:=aQ.out.rs.crow;have R:(WD.alloc (.cells #[N1,N2] 3)).ownsRow w.heap.size 107 1 (.slice ca PJ.length cc) PJ.length cs:=by simpa using a2
      have U:=zH R;have ak:=zH ay;have an:=zH az;have a1:=zH ah;have b9:Hid (∀(j:Nat) (x:Value),[Value.slice (some WD.heap.size) 2 2][j]?=some x->((WD.alloc (.cells #[N1,N2] 3)).alloc (.cells #[.slice (some WD.heap.size) 2 2] 107)).cell? ((⟨WD.heap.size+1,0,none⟩:Addr).add j)=some x):=by
       have hh:=Xi (WD.alloc (.cells #[N1,N2] 3)) (.slice (some WD.heap.size) 2 2) 107;rw[zA0] at hh;exact hh
      have a8:=a9.out.bel.size;clear b0 bi a2 R ay az ah a9;go_wp2_with (at_builtin;refine wpList_append_own_at _ rfl _ _ 28 rfl w.heap.size 107 j0 (.slice none 0 0) 1 24 Tryz.underlying28 bl bm bn bo rfl (by decide) _ _ _ rfl (U.out.alloc _) ⟨WD.heap.size+1,0,none⟩ 1 1 [.slice (some WD.heap.size) 2 2] rfl rfl ?c1b ?c2b ?c3b ?c4b ?c5b ?_)
      case c1b=>exact b9.out
      case c2b=>first|rfl|(intro u hu;rw[List.mem_singleton] at hu;subst hu;rfl)
      case c3b=>unfold maxLen;omega
      case c4b=>omega
      case c5b=>first|omega|(simp;omega)
      intro v7 w7 p o _ y;obtain⟨q1,q2,q3⟩:=aQ.out.appC (c:=[N1,N2]) U.out ak.out an.out a1.out (fun ad e=>by cases e;rfl) zN (by show 2<=9223372036854775807;decide) ap.out aq.out p o;have ao:Hid (w7.ownsRow w.heap.size 3 1 (.slice fa PJ.length fc) PJ.length (zm (PJ.map Prod.fst))):=by show World.ownsRow _ _ _ _ _ _ _;simpa using q1.frow
      have ar:=zH q1;have au:=zH q2;have aw:=zH q3;have aW:=q3.size;clear p o y q1 q2 q3 aQ U ak an a1 ap aq b9 a8;go_wp2_with (at_builtin;refine wpList_append_own_at _ rfl _ _ 23 rfl w.heap.size 3 i0 (.int .i64 0) 1 8 Tryz.underlying23 aZ b1 b2 b3 rfl (by decide) _ _ _ rfl (ao.out.alloc _) w7.heap.size 1 1 [.int .i64 (-1)] rfl rfl ?d1c ?d2c ?d3c ?d4c ?d5c ?_)
      case d1c=>exact xN _ _ _
      case d2c=>exact xw _
      case d3c=>unfold maxLen;omega
      case d4c=>omega
      case d5c=>first|omega|(simp;omega)
      intro v8 w8 M q _ C;have aP:Hid (RR w w8 v7 v8 (.slice (some ⟨g,0,none⟩) its.length ic) (PJ++[((-1),[N1,N2])]) its):=RR.appF ar.out rfl rfl au.out aw.out (by simpa using M) q (by rw[zA0];exact C);clear M q C ao ar au aw;go_wp2;go_roundw
      case rel=>exact⟨j+1,by omega,by go_num,by rw[HQ.out];exact aP.out⟩
      case measure=>simp[intOf];omega
     ·have e1:(X.name.toList==Y.name.toList)=false:=by rw[beq_eq_false_iff_ne];exact fun e=>hnm (Zb e)
      have HQ:Hid (prF its k++prI its k (j+1)=PJ):=by show _=_;rw[aR.out,bw.out hnm,List.append_nil,ba.out]
      clear hnm bF bw;go_upto_region 10 with fail;go_quiet (fail);go_wp2;go_roundw
      case rel=>exact⟨j+1,by omega,by go_num,by rw[HQ.out];exact ax.out.new (yV zF _)⟩
      case measure=>simp[intOf];omega
    ·have aU:¬(j:Int)<(k:Int):=by omega
     obtain rfl:j=k:=by omega
     go_wp2;go_roundw
     case rel=>exact⟨j+1,by omega,by go_num,by rw[co.out];exact ax.out⟩
     case measure=>simp[intOf];omega
  ·have bL:¬(k:Int)<(its.length:Int):=by omega
   obtain rfl:k=its.length:=by omega
   have bX:Hid (RR w wr (.slice ca (prF its its.length).length cc) (.slice fa (prF its its.length).length fc) (.slice ia its.length ic) (prF its its.length++lnL its ls 0) its):=by show RR _ _ _ _ _ _ _;simpa[lnL] using bE.out
   clear bE bT bS;generalize prF its its.length=P0 at *;go_wp2_with fail
   try rw[show decide ((its.length:Int)<(its.length:Int))=false from decide_eq_false bL]
   go_loopw [6,7,58] (fun cV fV nV wz=>∃n:Nat,n<=ls.length/\nV=.int .i64 n/\RR w wz cV fV (.slice ia its.length ic) (P0++lnL its ls n) its) (fun _ _ nV _=>ls.length-(intOf nV).toNat)
   case atStart=>exact⟨0,Nat.zero_le _,rfl,bX.out⟩
   case round =>
    obtain⟨n,hn,rfl,ai⟩:=hrel;obtain⟨PN,bp⟩:∃PN,P0++lnL its ls n=PN:=⟨_,rfl⟩;rw[bp] at ai;have bU:=zH bp;have bM:PN.length<=5000:=by have:=cl.out n;rw[<-bp,List.length_append];omega
    obtain⟨ca,cc,rfl⟩:=ai.cform;obtain⟨fa,fc,rfl⟩:=ai.fform;have ax:=zH ai;clear bX bp
    by_cases hnl:n<ls.length
    ·obtain⟨g,bc,ra,rc,e1,hg,ch,ci,c0,c1,c2,c3,c4,c5,c6⟩:=(HI.out.below ai.bel zN).at n hnl;simp at e1;obtain⟨rfl,rfl⟩:=e1;have cv:(0:Int)<=(n:Int):=by omega
     have cw:(n:Int)<(ls.length:Int):=by omega
     have cj:=zbd its ls n;generalize ls.getD n default=X at *;have aR:Hid (P0++lnL its ls (n+1)=PN++yy its n X):=by show _=_;rw[cj,<-bU.out,List.append_assoc]
     have hA:zB wr (wr.alloc (.cells #[X.kind,X.name,X.a,X.b,X.c,X.other,.slice ra (tp X.rng).length rc] 84)):=zF.alloc zN _;have aO:=zH (Blk.new wr 84 #[X.kind,X.name,X.a,X.b,X.c,X.other,.slice ra (tp X.rng).length rc]);have bC:=zH (ai.new hA);have bR:=zH (ch.below hA zN);have a6:=zH ci;clear ai hA ch cj ci ax;generalize c7:(tp X.rng).length=TL at *;have bY:=zH c7;clear c7;go_upto_region 17 with fail;generalize ct:wr.alloc (.cells #[X.kind,X.name,X.a,X.b,X.c,X.other,.slice ra TL rc] 84)=W3 at *;clear ct c0 c1 c2 c3 c4 c5 c6;generalize wr.heap.size=bx at *;have c1:_=some (Value.string X.name):=aO.out.cell 1;have c2:_=some (Value.int .i64 X.a):=aO.out.cell 2;have c3:_=some (Value.int .i64 X.b):=aO.out.cell 3;have c4:_=some (Value.int .i64 X.c):=aO.out.cell 4;have bz:=zH (zkf its ⟨X.name,X.a,X.b,X.c⟩ (.slice ia its.length ic) W3 (zD bC.out.it) (by omega));obtain⟨cx,cy⟩:=zbe its ⟨X.name,X.a,X.b,X.c⟩ hi24;obtain⟨O,hO⟩:∃O,qI its ⟨X.name,X.a,X.b,X.c⟩=O:=⟨_,rfl⟩;have HO:Hid (qI its X.it=O):=hO;rw[hO] at bz cx cy;clear hO;go_wp2_with fail;refine bz.out.mono ?_;rintro e w4 ⟨rfl,bq⟩;have ae:=zH (bC.out.new bq);have aA:=zH (aO.out.below bq aO.out.lt);have a5:=zH (bR.out.below bq zN);have cD:IntKind.i64.wrap (O+1)=O+1:=Qf (by omega) (by omega);have cr:IntKind.i64.wrap (-(O+1))=zE O:=Qf (by omega) (by omega);clear bq bz bC aO bR c1 c2 c3 c4;have c0:_=some (Value.int .i64 X.kind):=aA.out.cell 0;have c1:_=some (Value.string X.name):=aA.out.cell 1;have c5:_=some (Value.string X.other):=aA.out.cell 5;have c6:_=some (Value.slice ra TL rc):=aA.out.cell 6
     by_cases hk24:X.kind=2\/X.kind=4
     ·rcases hk24 with hk2|hk4
      ·have aB:Hid (yy its n X=[((n:Int),[zE O]++qG (qs its X.other X.rng))]):=by show _=_;unfold yy;rw[zA1 (by omega),zA2 hk2,HO.out];rfl
       rw[hk2] at c0;clear hk2;have kb:=Blk.new w4 3 #[.int .i64 (zE O)];have bH:=below_new w4 (.cells #[.int .i64 (zE O)] 3);have cd:(w4.alloc (.cells #[.int .i64 (zE O)] 3)).ownsRow w4.heap.size 3 1 (.slice (some w4.heap.size) 1 1) 1 (zm [zE O]):=⟨by simp[zm],Or.inr ⟨w4.heap.size,1,_,rfl,Nat.le_refl _,kb,Nat.le_refl _,by decide,rfl,rfl⟩⟩;have aH:[zE O].length<=1:=by simp
       have bu:=zH cd;have bt:=zH bH;have bk:=zH (aA.out.below bH aA.out.lt);clear kb bH cd;obtain⟨N0,bZ⟩:∃N0,zE O=N0:=⟨_,rfl⟩;rw[bZ] at cr bu bt bk aB aH;clear bZ;go_upto_region 24 with fail;have cp:w4.drew.cell? ⟨bx,5,none⟩=some (.string X.other):=c5;have c5b:(w4.alloc (.cells #[.int .i64 N0] 3)).drew.cell? ⟨bx,5,none⟩=some (.string X.other):=bk.out.cell 5;go_big_region;have HC:Hid ((w4.alloc (.cells #[.int .i64 N0] 3)).drew.ownsRow w4.heap.size 3 1 (.slice (some w4.heap.size) 1 1) [N0].length (zm [N0])):=bu.out;have a0:Hid (zB w4 (w4.alloc (.cells #[.int .i64 N0] 3)).drew):=bt.out.drew;have cA:(w4.alloc (.cells #[.int .i64 N0] 3)).drew.cell? ⟨bx,6,none⟩=some (.slice ra TL rc):=bk.out.cell 6;obtain⟨af,a7⟩:∃af:List Int,af=[N0]:=⟨_,rfl⟩;rw[<-a7] at aB aH HC;have bB:=zH a7;generalize (w4.alloc (.cells #[.int .i64 N0] 3)).drew=W5 at *;clear a7 bu bt bk cp c5b;have aI:Hid (zC 43 #[.slice ia its.length ic,X.other,.slice ra TL rc] W5 fun e w'=>∃v',e=.returned v'/\w'.ownsRow W5.heap.size 3 1 v' (qs its X.other X.rng).length (zm ((qs its X.other X.rng).map fun (k:Nat)=>(k:Int)))/\zB W5 w'):=by
        have hq:=zba its X.other X.rng a6.out (.slice ia its.length ic) (.slice ra TL rc) W5 (zD (ae.out.new a0.out).it) (by omega) (a5.out.below a0.out zN);rw[zbm aM.out] at hq;exact hq
       have c8:=Q8 its X.other X.rng;have aK:=Y6 its X.other X.rng;generalize qs its X.other X.rng=am at *;have b4:=zH aK;clear aK;go_wp2_with fail;refine aI.out.mono ?_;rintro e w6 ⟨av,rfl,V,aS⟩;obtain⟨aa,ac,rfl,-⟩:=(zD V).form;have ag:∀g,(Value.slice aa am.length ac).ownBlock=some g->(Value.slice (some w4.heap.size) 1 1).ownBlock≠some g:=fun g hg e=>by
        have h1:=(V.lt g hg).1;have h2:=(HC.out.lt g e).2;omega
       have b5:=zH (zI HC.out aS);have b6:=zH ag;have aj:Hid (zB w4 w6):=zT a0.out aS;have aJ:=zH (ownsRow_base V a0.out.size);clear V aS ag aI HC a0 a5 a6 aA c0 c1 c5 c6;go_wp2_with fail;go_loopw [13,92] (fun cV jV wz=>∃j:Nat,j<=am.length/\jV=.int .i64 j/\wz.ownsRow w4.heap.size 3 1 cV (af++qG (am.take j)).length (zm (af++qG (am.take j)))/\wz.ownsRow w4.heap.size 3 1 (.slice aa am.length ac) am.length (zm (am.map fun (k:Nat)=>(k:Int)))/\(∀g,(Value.slice aa am.length ac).ownBlock=some g->cV.ownBlock≠some g)/\zB w4 wz) (fun _ jV _=>am.length-(intOf jV).toNat)
       case atStart=>exact⟨0,Nat.zero_le _,rfl,by simpa[qG] using b5.out,aJ.out,b6.out,aj.out⟩
       case round =>
        obtain⟨j,hj,rfl,aG,V,ag,aF⟩:=hrel;obtain⟨CJ,aE⟩:∃CJ,af++qG (am.take j)=CJ:=⟨_,rfl⟩;rw[aE] at aG;have b7:=zH aE;have bh:CJ.length<=100:=by rw[<-aE,List.length_append,qG,List.length_map,List.length_take];omega
        obtain⟨xa,xc,rfl,bf,bg,aT,aV⟩:=J5 aG;have J:=zH aG;have Z:=zH V;have a4:=zH ag;have aD:=zH aF;have bN:=aF.size;clear aE b5 aJ b6 aj aG
        by_cases hjl:j<am.length
        ·have aU:(j:Int)<(am.length:Int):=by omega
         have bK:(0:Int)<=(j:Int):=by omega
         obtain⟨g9,bd,e9,ce,aL⟩:=(zD V).cells (by omega);simp at e9;obtain⟨rfl,rfl⟩:=e9;obtain⟨K,hK⟩:∃K,am.getD j 0=K:=⟨_,rfl⟩;have ab:am[j]?=some K:=by rw[<-hK,List.getD_eq_getElem?_getD,List.getElem?_eq_getElem hjl];rfl
         have be:K<its.length:=b4.out K (List.mem_of_getElem? ab);have z0:wr.cell? ⟨g9,j,none⟩=some (.int .i64 K):=aL j _ (by simp[zm,ab]);have HQ:Hid (af++qG (am.take (j+1))=CJ++[(K:Int)+1]):=by show _=_;rw[<-b7.out,List.take_add_one,ab];simp[qG]
         have bG:IntKind.i64.wrap ((K:Int)+1)=(K:Int)+1:=Qf (by omega) (by omega);clear V ag aF aL hK ab aT aV bf bg;go_wp2_with (at_builtin;refine wpList_append_own_at _ rfl _ _ 107 rfl w4.heap.size 3 i0 (.int .i64 0) 1 8 Tryz.underlying107 aZ b1 b2 b3 rfl (by decide) _ _ _ rfl (J.out.alloc _) wr.heap.size 1 1 [.int .i64 ((K:Int)+1)] rfl rfl ?c1d ?c2d ?c3d ?c4d ?c5d ?_)
         case c1d=>exact xN _ _ _
         case c2d=>exact xw _
         case c3d=>unfold maxLen;omega
         case c4d=>omega
         case c5d=>first|omega|(simp;omega)
         intro v7 w7 p o _ y;have a3:=below_new wr (.cells #[.int .i64 ((K:Int)+1)] 3);have aX:=zH (xZ (zI Z.out a3) o (Or.inr fun e=>by
          cases ho:(Value.slice (some g9) am.length ac).ownBlock with
          |none=>simp[Value.ownBlock] at ho
          | some g=>rw [ho] at e;exact a4.out g ho e.symm))
         have aN:Hid (∀g,(Value.slice (some g9) am.length ac).ownBlock=some g->v7.ownBlock≠some g):=fun g hg e=>by
          rcases y with h|h
          ·exact a4.out g hg (h▸e)
          ·have h1:=(Z.out.lt g hg).2;rw[h] at e;simp at e;omega
         have bD:Hid (w7.ownsRow w4.heap.size 3 1 v7 (CJ++[((K:Int)+1)]).length (zm (CJ++[((K:Int)+1)]))):=by
          show World.ownsRow _ _ _ _ _ _ _;rw[Z1,List.length_append];exact p
         have bs:Hid (zB w4 w7):=(zL aD.out).grown o (by simp;omega) (fun k hk=>(J.out.lt k hk).1);clear p o y a3 J Z a4 aD z0;go_wp2;go_roundw
         case rel=>exact⟨j+1,by omega,by go_num,by rw[HQ.out];exact bD.out,aX.out,aN.out,bs.out⟩
         case measure=>simp[intOf];omega
        ·have aU:¬(j:Int)<(am.length:Int):=by omega
         obtain rfl:j=am.length:=by omega
         have HQ:Hid (P0++lnL its ls (n+1)=PN++[((n:Int),CJ)]):=by show _=_;rw[aR.out,aB.out,<-b7.out,List.take_length]
         have ap:=zH aT;have bA:=zH aV;have aq:Hid (0<CJ.length->∀g,(Value.slice xa CJ.length xc).ownBlock=some g->some g≠(Value.slice fa PN.length fc).ownBlock):=fun _ g hg e=>by
          have h1:=(J.out.lt g hg).1;have h2:=(ae.out.rs.frow.lt g e.symm).2;omega
         have a9:=zH (ae.out.new aD.out);clear V ag aF aT aV J Z a4 aD ae;generalize wr=WD at *;obtain⟨cs,a2,ay,az,ah⟩:=a9.out.rs.crow;have R:WD.ownsRow w.heap.size 107 1 (.slice ca PN.length cc) PN.length cs:=by simpa using a2
         have U:=zH R;have ak:=zH ay;have an:=zH az;have a1:=zH ah;have a8:=a9.out.bel.size;clear a2 R ay az ah;go_wp2_with (at_builtin;refine wpList_append_own_at _ rfl _ _ 28 rfl w.heap.size 107 j0 (.slice none 0 0) 1 24 Tryz.underlying28 bl bm bn bo rfl (by decide) _ _ _ rfl (U.out.alloc _) WD.heap.size 1 1 [.slice xa CJ.length xc] rfl rfl ?c1e ?c2e ?c3e ?c4e ?c5e ?_)
         try(case c1e=>exact Xi _ _ _)
         case c2e=>first|rfl|(intro u hu;rw[List.mem_singleton] at hu;subst hu;rfl)
         case c3e=>unfold maxLen;omega
         case c4e=>omega
         case c5e=>first|omega|(simp;omega)
         intro v7 w7 p o _ y;obtain⟨q1,q2,q3⟩:=a9.out.appC U.out ak.out an.out a1.out bA.out bf bg ap.out aq.out p o;have ao:Hid (w7.ownsRow w.heap.size 3 1 (.slice fa PN.length fc) PN.length (zm (PN.map Prod.fst))):=by show World.ownsRow _ _ _ _ _ _ _;simpa using q1.frow
         have ar:=zH q1;have au:=zH q2;have aw:=zH q3;have aW:=q3.size;clear p o y q1 q2 q3 a9 U ak an a1 ap aq a8;go_wp2_with (at_builtin;refine wpList_append_own_at _ rfl _ _ 23 rfl w.heap.size 3 i0 (.int .i64 0) 1 8 Tryz.underlying23 aZ b1 b2 b3 rfl (by decide) _ _ _ rfl (ao.out.alloc _) w7.heap.size 1 1 [.int .i64 n] rfl rfl ?d1f ?d2f ?d3f ?d4f ?d5f ?_)
         case d1f=>exact xN _ _ _
         case d2f=>exact xw _
         case d3f=>unfold maxLen;omega
         case d4f=>omega
         case d5f=>first|omega|(simp;omega)
         intro v8 w8 M q _ C;have aP:Hid (RR w w8 v7 v8 (.slice ia its.length ic) (PN++[((n:Int),CJ)]) its):=RR.appF ar.out rfl rfl au.out aw.out (by simpa using M) q (by rw[zA0];exact C);clear M q C ao ar au aw;go_wp2;go_roundw
         case rel=>exact⟨n+1,by omega,by go_num,by rw[HQ.out];exact aP.out⟩
         case measure=>simp[intOf];omega
      ·have aB:Hid (yy its n X=[((n:Int),[]++qG (qs its X.name X.rng))]):=by show _=_;unfold yy;rw[zA2 hk4];rfl
       rw[hk4] at c0;have aH:([]:List Int).length<=1:=by simp
       have HC:Hid (w4.ownsRow w4.heap.size 3 1 (.slice none 0 0) ([]:List Int).length (zm [])):=World.ownsRow_nil _ _ _ _;have a0:Hid (zB w4 w4):=Below.refl _ _;clear hk4;obtain⟨af,a7⟩:∃af:List Int,af=[]:=⟨_,rfl⟩;rw[<-a7] at aB aH HC;have bB:=zH a7;clear a7;have aI:Hid (zC 43 #[.slice ia its.length ic,X.name,.slice ra TL rc] w4 fun e w'=>∃v',e=.returned v'/\w'.ownsRow w4.heap.size 3 1 v' (qs its X.name X.rng).length (zm ((qs its X.name X.rng).map fun (k:Nat)=>(k:Int)))/\zB w4 w'):=by
        have hq:=zba its X.name X.rng a6.out (.slice ia its.length ic) (.slice ra TL rc) w4 (zD (ae.out.new a0.out).it) (by omega) (a5.out.below a0.out zN);rw[zbm aM.out] at hq;exact hq
       have c8:=Q8 its X.name X.rng;have aK:=Y6 its X.name X.rng;generalize qs its X.name X.rng=am at *;have b4:=zH aK;clear aK;go_wp2_with fail;refine aI.out.mono ?_;rintro e w6 ⟨av,rfl,V,aS⟩;obtain⟨aa,ac,rfl,-⟩:=(zD V).form;have ag:∀g,(Value.slice aa am.length ac).ownBlock=some g->(Value.slice none 0 0).ownBlock≠some g:=fun g hg e=>by
        have h1:=(V.lt g hg).1;have h2:=(HC.out.lt g e).2;omega
       have b5:=zH (zI HC.out aS);have b6:=zH ag;have aj:Hid (zB w4 w6):=zT a0.out aS;have aJ:=zH (ownsRow_base V a0.out.size);clear V aS ag aI HC a0 a5 a6 aA c0 c1 c5 c6;go_wp2_with fail;go_loopw [13,92] (fun cV jV wz=>∃j:Nat,j<=am.length/\jV=.int .i64 j/\wz.ownsRow w4.heap.size 3 1 cV (af++qG (am.take j)).length (zm (af++qG (am.take j)))/\wz.ownsRow w4.heap.size 3 1 (.slice aa am.length ac) am.length (zm (am.map fun (k:Nat)=>(k:Int)))/\(∀g,(Value.slice aa am.length ac).ownBlock=some g->cV.ownBlock≠some g)/\zB w4 wz) (fun _ jV _=>am.length-(intOf jV).toNat)
       case atStart=>exact⟨0,Nat.zero_le _,rfl,by simpa[qG] using b5.out,aJ.out,b6.out,aj.out⟩
       case round =>
        obtain⟨j,hj,rfl,aG,V,ag,aF⟩:=hrel;obtain⟨CJ,aE⟩:∃CJ,af++qG (am.take j)=CJ:=⟨_,rfl⟩;rw[aE] at aG;have b7:=zH aE;have bh:CJ.length<=100:=by rw[<-aE,List.length_append,qG,List.length_map,List.length_take];omega
        obtain⟨xa,xc,rfl,bf,bg,aT,aV⟩:=J5 aG;have J:=zH aG;have Z:=zH V;have a4:=zH ag;have aD:=zH aF;have bN:=aF.size;clear aE b5 aJ b6 aj aG
        by_cases hjl:j<am.length
        ·have aU:(j:Int)<(am.length:Int):=by omega
         have bK:(0:Int)<=(j:Int):=by omega
         obtain⟨g9,bd,e9,ce,aL⟩:=(zD V).cells (by omega);simp at e9;obtain⟨rfl,rfl⟩:=e9;obtain⟨K,hK⟩:∃K,am.getD j 0=K:=⟨_,rfl⟩;have ab:am[j]?=some K:=by rw[<-hK,List.getD_eq_getElem?_getD,List.getElem?_eq_getElem hjl];rfl
         have be:K<its.length:=b4.out K (List.mem_of_getElem? ab);have z0:wr.cell? ⟨g9,j,none⟩=some (.int .i64 K):=aL j _ (by simp[zm,ab]);have HQ:Hid (af++qG (am.take (j+1))=CJ++[(K:Int)+1]):=by show _=_;rw[<-b7.out,List.take_add_one,ab];simp[qG]
         have bG:IntKind.i64.wrap ((K:Int)+1)=(K:Int)+1:=Qf (by omega) (by omega);clear V ag aF aL hK ab aT aV bf bg;go_wp2_with (at_builtin;refine wpList_append_own_at _ rfl _ _ 107 rfl w4.heap.size 3 i0 (.int .i64 0) 1 8 Tryz.underlying107 aZ b1 b2 b3 rfl (by decide) _ _ _ rfl (J.out.alloc _) wr.heap.size 1 1 [.int .i64 ((K:Int)+1)] rfl rfl ?c1g ?c2g ?c3g ?c4g ?c5g ?_)
         case c1g=>exact xN _ _ _
         case c2g=>exact xw _
         case c3g=>unfold maxLen;omega
         case c4g=>omega
         case c5g=>first|omega|(simp;omega)
         intro v7 w7 p o _ y;have a3:=below_new wr (.cells #[.int .i64 ((K:Int)+1)] 3);have aX:=zH (xZ (zI Z.out a3) o (Or.inr fun e=>by
          cases ho:(Value.slice (some g9) am.length ac).ownBlock with
          |none=>simp[Value.ownBlock] at ho
          | some g=>rw [ho] at e;exact a4.out g ho e.symm))
         have aN:Hid (∀g,(Value.slice (some g9) am.length ac).ownBlock=some g->v7.ownBlock≠some g):=fun g hg e=>by
          rcases y with h|h
          ·exact a4.out g hg (h▸e)
          ·have h1:=(Z.out.lt g hg).2;rw[h] at e;simp at e;omega
         have bD:Hid (w7.ownsRow w4.heap.size 3 1 v7 (CJ++[((K:Int)+1)]).length (zm (CJ++[((K:Int)+1)]))):=by
          show World.ownsRow _ _ _ _ _ _ _;rw[Z1,List.length_append];exact p
         have bs:Hid (zB w4 w7):=(zL aD.out).grown o (by simp;omega) (fun k hk=>(J.out.lt k hk).1);clear p o y a3 J Z a4 aD z0;go_wp2;go_roundw
         case rel=>exact⟨j+1,by omega,by go_num,by rw[HQ.out];exact bD.out,aX.out,aN.out,bs.out⟩
         case measure=>simp[intOf];omega
        ·have aU:¬(j:Int)<(am.length:Int):=by omega
         obtain rfl:j=am.length:=by omega
         have HQ:Hid (P0++lnL its ls (n+1)=PN++[((n:Int),CJ)]):=by show _=_;rw[aR.out,aB.out,<-b7.out,List.take_length]
         have ap:=zH aT;have bA:=zH aV;have aq:Hid (0<CJ.length->∀g,(Value.slice xa CJ.length xc).ownBlock=some g->some g≠(Value.slice fa PN.length fc).ownBlock):=fun _ g hg e=>by
          have h1:=(J.out.lt g hg).1;have h2:=(ae.out.rs.frow.lt g e.symm).2;omega
         have a9:=zH (ae.out.new aD.out);clear V ag aF aT aV J Z a4 aD ae;generalize wr=WD at *;obtain⟨cs,a2,ay,az,ah⟩:=a9.out.rs.crow;have R:WD.ownsRow w.heap.size 107 1 (.slice ca PN.length cc) PN.length cs:=by simpa using a2
         have U:=zH R;have ak:=zH ay;have an:=zH az;have a1:=zH ah;have a8:=a9.out.bel.size;clear a2 R ay az ah;go_wp2_with (at_builtin;refine wpList_append_own_at _ rfl _ _ 28 rfl w.heap.size 107 j0 (.slice none 0 0) 1 24 Tryz.underlying28 bl bm bn bo rfl (by decide) _ _ _ rfl (U.out.alloc _) WD.heap.size 1 1 [.slice xa CJ.length xc] rfl rfl ?c1h ?c2h ?c3h ?c4h ?c5h ?_)
         try(case c1h=>exact Xi _ _ _)
         case c2h=>first|rfl|(intro u hu;rw[List.mem_singleton] at hu;subst hu;rfl)
         case c3h=>unfold maxLen;omega
         case c4h=>omega
         case c5h=>first|omega|(simp;omega)
         intro v7 w7 p o _ y;obtain⟨q1,q2,q3⟩:=a9.out.appC U.out ak.out an.out a1.out bA.out bf bg ap.out aq.out p o;have ao:Hid (w7.ownsRow w.heap.size 3 1 (.slice fa PN.length fc) PN.length (zm (PN.map Prod.fst))):=by show World.ownsRow _ _ _ _ _ _ _;simpa using q1.frow
         have ar:=zH q1;have au:=zH q2;have aw:=zH q3;have aW:=q3.size;clear p o y q1 q2 q3 a9 U ak an a1 ap aq a8;go_wp2_with (at_builtin;refine wpList_append_own_at _ rfl _ _ 23 rfl w.heap.size 3 i0 (.int .i64 0) 1 8 Tryz.underlying23 aZ b1 b2 b3 rfl (by decide) _ _ _ rfl (ao.out.alloc _) w7.heap.size 1 1 [.int .i64 n] rfl rfl ?d1i ?d2i ?d3i ?d4i ?d5i ?_)
         case d1i=>exact xN _ _ _
         case d2i=>exact xw _
         case d3i=>unfold maxLen;omega
         case d4i=>omega
         case d5i=>first|omega|(simp;omega)
         intro v8 w8 M q _ C;have aP:Hid (RR w w8 v7 v8 (.slice ia its.length ic) (PN++[((n:Int),CJ)]) its):=RR.appF ar.out rfl rfl au.out aw.out (by simpa using M) q (by rw[zA0];exact C);clear M q C ao ar au aw;go_wp2;go_roundw
         case rel=>exact⟨n+1,by omega,by go_num,by rw[HQ.out];exact aP.out⟩
         case measure=>simp[intOf];omega
     ·by_cases hk3:X.kind=3
      ·have aI:Hid (zC 43 #[.slice ia its.length ic,X.other,.slice ra TL rc] w4 fun e w'=>∃v',e=.returned v'/\w'.ownsRow w4.heap.size 3 1 v' (qs its X.other X.rng).length (zm ((qs its X.other X.rng).map fun (k:Nat)=>(k:Int)))/\zB w4 w'):=by
        have hq:=zba its X.other X.rng a6.out (.slice ia its.length ic) (.slice ra TL rc) w4 (zD ae.out.it) (by omega) a5.out;rw[zbm aM.out] at hq;exact hq
       have c8:=Q8 its X.other X.rng;have aK:=Y6 its X.other X.rng;have aB:Hid (yy its n X=(qs its X.other X.rng).map fun (k:Nat)=>((n:Int),[zE O,zE (k:Int)])):=by show _=_;unfold yy;rw[zA1 (by omega),zA1 (by omega),zA2 hk3,HO.out]
       have cg:(X.kind==2)=false:=by rw[hk3];rfl
       rw[hk3] at c0;generalize qs its X.other X.rng=am at *;have b4:=zH aK;clear hk24 hk3 aK cg a5 a6 bY c1;go_wp2_with fail;refine aI.out.mono ?_;rintro e w5 ⟨av,rfl,V,cb⟩;obtain⟨aa,ac,rfl,-⟩:=(zD V).form;have bW:=zH (ae.out.new cb);have aY:∀g,(Value.slice aa am.length ac).ownBlock=some g->(Value.slice fa PN.length fc).ownBlock≠some g:=fun g hg e=>by
        have h1:=(V.lt g hg).1;have h2:=(ae.out.rs.frow.lt g e).2;omega
       have aJ:=zH V;have bP:=zH aY;clear V cb aY aI ae aA c0 c5 c6;go_wp2_with fail;go_loopw [6,7,119] (fun cV fV jV wz=>∃j:Nat,j<=am.length/\jV=.int .i64 j/\RR w wz cV fV (.slice ia its.length ic) (PN++(am.take j).map fun (k:Nat)=>((n:Int),[zE O,zE (k:Int)])) its/\wz.ownsRow w4.heap.size 3 1 (.slice aa am.length ac) am.length (zm (am.map fun (k:Nat)=>(k:Int)))/\∀g,(Value.slice aa am.length ac).ownBlock=some g->fV.ownBlock≠some g) (fun _ _ jV _=>am.length-(intOf jV).toNat)
       case atStart=>exact⟨0,Nat.zero_le _,rfl,by simpa using bW.out,aJ.out,bP.out⟩
       case round =>
        obtain⟨j,hj,rfl,bj,V,aY⟩:=hrel;obtain⟨PJ,aC⟩:∃PJ,(PN++(am.take j).map fun (k:Nat)=>((n:Int),[zE O,zE (k:Int)]))=PJ:=⟨_,rfl⟩;rw[aC] at bj;have ba:=zH aC;have cf:PJ.length<=6000:=by rw[<-aC,List.length_append,List.length_map,List.length_take];omega
        obtain⟨ca,cc,rfl⟩:=bj.cform;obtain⟨fa,fc,rfl⟩:=bj.fform;have bb:=zH bj;have Z:=zH V;have b8:=zH aY;clear aC bW aJ bP bj
        by_cases hjl:j<am.length
        ·have aU:(j:Int)<(am.length:Int):=by omega
         have bK:(0:Int)<=(j:Int):=by omega
         obtain⟨g9,bd,e9,ce,aL⟩:=(zD V).cells (by omega);simp at e9;obtain⟨rfl,rfl⟩:=e9;obtain⟨K,hK⟩:∃K,am.getD j 0=K:=⟨_,rfl⟩;have ab:am[j]?=some K:=by rw[<-hK,List.getD_eq_getElem?_getD,List.getElem?_eq_getElem hjl];rfl
         have be:K<its.length:=b4.out K (List.mem_of_getElem? ab);have z0:wr.cell? ⟨g9,j,none⟩=some (.int .i64 K):=aL j _ (by simp[zm,ab]);have HQ:Hid ((PN++(am.take (j+1)).map fun (k:Nat)=>((n:Int),[zE O,zE (k:Int)]))=PJ++[((n:Int),[zE O,zE (K:Int)])]):=by show _=_;rw[<-ba.out,List.take_add_one,ab];simp
         have bG:IntKind.i64.wrap ((K:Int)+1)=(K:Int)+1:=Qf (by omega) (by omega);have cq:IntKind.i64.wrap (-((K:Int)+1))=zE (K:Int):=Qf (by omega) (by omega);generalize zE (K:Int)=N2 at *;generalize zE O=N1 at *;clear V aY aL hK ab;go_upto_region 35 with fail;clear z0;generalize wr=WD at *;have b0:=below_new WD (.cells #[N1,N2] 3);have ap:=zH (zb4 WD N1 N2);have bi:=bb.out.rs.frow;have aq:Hid (0<[N1,N2].length->∀g,(Value.slice (some WD.heap.size) 2 2).ownBlock=some g->some g≠(Value.slice fa PJ.length fc).ownBlock):=fun _ g hg e=>by
          have h1:=(bi.lt g e.symm).2;simp[Value.ownBlock] at hg;omega
         have aQ:=zH (bb.out.new b0);have bO:=zH (zI Z.out b0);obtain⟨cs,a2,ay,az,ah⟩:=aQ.out.rs.crow;have R:(WD.alloc (.cells #[N1,N2] 3)).ownsRow w.heap.size 107 1 (.slice ca PJ.length cc) PJ.length cs:=by simpa using a2
         have U:=zH R;have ak:=zH ay;have an:=zH az;have a1:=zH ah;have b9:Hid (∀(j:Nat) (x:Value),[Value.slice (some WD.heap.size) 2 2][j]?=some x->((WD.alloc (.cells #[N1,N2] 3)).alloc (.cells #[.slice (some WD.heap.size) 2 2] 107)).cell? ((⟨WD.heap.size+1,0,none⟩:Addr).add j)=some x):=by
          have hh:=Xi (WD.alloc (.cells #[N1,N2] 3)) (.slice (some WD.heap.size) 2 2) 107;rw[zA0] at hh;exact hh
         have a8:=bb.out.bel.size;clear b0 bi a2 R ay az ah bb;go_wp2_with (at_builtin;refine wpList_append_own_at _ rfl _ _ 28 rfl w.heap.size 107 j0 (.slice none 0 0) 1 24 Tryz.underlying28 bl bm bn bo rfl (by decide) _ _ _ rfl (U.out.alloc _) ⟨WD.heap.size+1,0,none⟩ 1 1 [.slice (some WD.heap.size) 2 2] rfl rfl ?c1j ?c2j ?c3j ?c4j ?c5j ?_)
         case c1j=>exact b9.out
         case c2j=>first|rfl|(intro u hu;rw[List.mem_singleton] at hu;subst hu;rfl)
         case c3j=>unfold maxLen;omega
         case c4j=>omega
         case c5j=>first|omega|(simp;omega)
         intro v7 w7 p o _ y;obtain⟨q1,q2,q3⟩:=aQ.out.appC (c:=[N1,N2]) U.out ak.out an.out a1.out (fun ad e=>by cases e;rfl) zN (by show 2<=9223372036854775807;decide) ap.out aq.out p o;have a3:=below_new (WD.alloc (.cells #[N1,N2] 3)) (.cells #[.slice (some WD.heap.size) 2 2] 107);have aX:=zH (xZ (zI bO.out a3) o (ZP (ownsRow_base (zI bO.out a3) (Nat.zero_le _)) (ownsRow_base (zI U.out a3) (Nat.zero_le _)) (by decide)));clear a3;have ao:Hid (w7.ownsRow w.heap.size 3 1 (.slice fa PJ.length fc) PJ.length (zm (PJ.map Prod.fst))):=by show World.ownsRow _ _ _ _ _ _ _;simpa using q1.frow
         have ar:=zH q1;have au:=zH q2;have aw:=zH q3;have aW:=q3.size;clear p o y q1 q2 q3 aQ U ak an a1 ap aq b9 a8;go_wp2_with (at_builtin;refine wpList_append_own_at _ rfl _ _ 23 rfl w.heap.size 3 i0 (.int .i64 0) 1 8 Tryz.underlying23 aZ b1 b2 b3 rfl (by decide) _ _ _ rfl (ao.out.alloc _) w7.heap.size 1 1 [.int .i64 n] rfl rfl ?d1k ?d2k ?d3k ?d4k ?d5k ?_)
         case d1k=>exact xN _ _ _
         case d2k=>exact xw _
         case d3k=>unfold maxLen;omega
         case d4k=>omega
         case d5k=>first|omega|(simp;omega)
         intro v8 w8 M q _ C;have bI:=below_new w7 (.cells #[n] 3);have ck:=zH (xZ (zI aX.out bI) q (Or.inr fun e=>by
          cases ho:(Value.slice (some g9) am.length ac).ownBlock with
          |none=>simp[Value.ownBlock] at ho
          | some g=>rw [ho] at e;exact b8.out g ho e.symm))
         have bv:Hid (∀g,(Value.slice (some g9) am.length ac).ownBlock=some g->v8.ownBlock≠some g):=fun g hg e=>by
          rcases C with h|h
          ·exact b8.out g hg (h▸e)
          ·have h1:=(aX.out.lt g hg).2;rw[h] at e;simp at e;omega
         have aP:Hid (RR w w8 v7 v8 (.slice ia its.length ic) (PJ++[((n:Int),[N1,N2])]) its):=RR.appF ar.out rfl rfl au.out aw.out (by simpa using M) q (by rw[zA0];exact C);clear M q C ao ar au aw;go_wp2;go_roundw
         case rel=>exact⟨j+1,by omega,by go_num,by rw[HQ.out];exact aP.out,ck.out,bv.out⟩
         case measure=>simp[intOf];omega
        ·have aU:¬(j:Int)<(am.length:Int):=by omega
         obtain rfl:j=am.length:=by omega
         have HQ:Hid (P0++lnL its ls (n+1)=PJ):=by show _=_;rw[aR.out,aB.out,<-ba.out,List.take_length]
         clear V aY;go_wp2;go_roundw
         case rel=>exact⟨n+1,by omega,by go_num,by rw[HQ.out];exact bb.out⟩
         case measure=>simp[intOf];omega
      ·have aB:Hid (P0++lnL its ls (n+1)=PN):=by show _=_;rw[aR.out];unfold yy;rw[zA1 (by omega),zA1 (by omega),zA1 (by omega),List.append_nil]
       have cg:¬X.kind=2:=by omega
       have cH:¬X.kind=4:=by omega
       clear hk24 a5 a6 bY aA;go_wp2;go_roundw
       case rel=>exact⟨n+1,by omega,by go_num,by rw[aB.out];exact ae.out⟩
       case measure=>simp[intOf];omega
    ·have cI:¬(n:Int)<(ls.length:Int):=by omega
     obtain rfl:n=ls.length:=by omega
     have HQ:Hid (ofL its ls=PN):=by show _=_;rw[cm.out,bU.out]
     clear ai;go_wp2;refine bodyPost_ret (v:=.tuple #[.slice ca PN.length cc,.slice fa PN.length fc,.bool (decide ((PN.length:Int)<=200))]) (by simp[results,Tryz.f19,go_sem]) rfl ?_;rw[HQ.out];exact⟨_,_,by rw[show decide ((PN.length:Int)<=200)=decide (PN.length<=200) by congr 1;simp;omega],ax.out.rs,ax.out.bel⟩
end Go.Proofs.YthifnefkdjkicaaGreatDoor
