import Derived.Test.YtoffdbflfikcoaaGreatDoorb2
import Derived.Test.YtoffdbflfikcoaaGreatDooraz
open Go.RowKit
set_option maxHeartbeats 4000000
set_option maxRecDepth 100000
namespace Go.Proofs.YtoffdbflfikcoaaGreatDoor
section
open Go.Shelf Sv
theorem zeH(s:ByteArray)(w:World)(hs:s.size<=100000)(hw:Lb w)(hF:yA w)(ad:Addr)(cap:Nat)(hK:xe w ad cap)(K:Nat)(hK23:K=2\/K=3)(hk:zI (zb s 32).1=K)(va vb vc:Nat)(hver:zO (zb (zb (zb s 32).2 32).2 32).1=.ok [va,vb,vc])(q:Int)(o:Option Nat)(hrg:xz (zb (zb (zb (zb s 32).2 32).2 32).2 32).2=.error (q,o)):zC 33 #[s] w (Qy w (.error (q,o))):=by
 have bl:((K:Int)==1)=false:=by rw[zf2];omega
 have bm:((K:Int)==4)=false:=by rw[zf2];omega
 have bk:((K:Int)==0)=false:=by rw[zf2];omega
 have k0:=(Blk.new w 94 z7).alloc (.cells #[(0:Int),(0:Int)] 55);have k1:=Blk.new (w.alloc (.cells z7 94)) 55 #[(0:Int),(0:Int)];rw[zc1] at k1;have au:zB w ((w.alloc (.cells z7 94)).alloc (.cells #[(0:Int),(0:Int)] 55)):=((zf0 _ w).alloc zN _).alloc (by simp) _;have a2:=zH k0;have U:=zH k1;have aj:=zH au;have X:=zH (fun W=>yu s W hs);have aC:=(qC s 32).2;have bj:=zH hw;have bi:=zH hF;have aG:=zH hK;obtain⟨w1,aX⟩:∃w1,(zb s 32).1=w1:=⟨_,rfl⟩;obtain⟨s2,af⟩:∃s2,(zb s 32).2=s2:=⟨_,rfl⟩;rw[aX] at hk X;rw[af] at aC X;have hz2':s2.size<=100000:=by omega
 have ak:Hid (∀k,1<=k->k<=4->((⟨(wl k).toArray⟩:ByteArray).toList==w1.toList)=decide (zI w1=k)):=fun k h1 h4=>QO h1 h4;rw[hk] at ak;have Y:=zH (fun W=>yu s2 W hz2');have aD:=(qC s2 32).2;obtain⟨nm,ay⟩:∃nm,(zb s2 32).1=nm:=⟨_,rfl⟩;obtain⟨s3,a1⟩:∃s3,(zb s2 32).2=s3:=⟨_,rfl⟩;rw[ay] at Y;rw[a1] at aD Y;have hz3':s3.size<=100000:=by omega
 have a6:=zH (fun W=>yu s3 W hz3');have aE:=qC s3 32;obtain⟨vw,ai⟩:∃vw,(zb s3 32).1=vw:=⟨_,rfl⟩;obtain⟨s4,ag⟩:∃s4,(zb s3 32).2=s4:=⟨_,rfl⟩;rw[ai,ag] at aE a6;have hz4':s4.size<=100000:=by omega
 have u:∀W,zB w W->zR 75 #[.string vw] W (QI (zO vw)):=fun W hb=>yU yP vw W (by omega) (hw.below hb);rw[af,a1,ai] at hver;rw[hver] at u;have ar:Hid (∀W,zB w W->zR 75 #[.string vw] W (.tuple #[.agg #[va,vb,vc],(0:Int)])):=u;clear u hver;have a7:=zH (fun W=>yu s4 W hz4');have y:=qC s4 32;obtain⟨ot,az⟩:∃ot,(zb s4 32).1=ot:=⟨_,rfl⟩;obtain⟨s5,ah⟩:∃s5,(zb s4 32).2=s5:=⟨_,rfl⟩;rw[az,ah] at y a7;have hz5':s5.size<=100000:=by omega
 rw[af,a1,ag,ah] at hrg;have aA:=zbr hrg;obtain⟨pp,ae⟩:∃pp,Yn o=pp:=⟨_,rfl⟩;have ao:Hid (∀W,zB w W->zC 76 #[.string s5] W fun e w'=>∃(l:List zf) (a:Option Addr) (c:Nat) (k p:Int),e=.returned (.tuple #[.slice a (tp l).length c,.agg #[.int .i64 k,p]])/\zE w' (.slice a (tp l).length c) (tp l)/\Rg l/\(∀g,(Value.slice a (tp l).length c).ownBlock=some g->W.heap.size<=g)/\zB W w'/\l=[]/\k=q/\p=pp):=fun W hb=>by have:=JQ s5 W (by omega) (hw.below hb) (hF.below hb);rw[hrg] at this;rw[<-ae];exact this
 have aI:=zH ae;clear hrg ae;clear aD aE y ay a1 ai ag az ah;clear k0 k1 au hw hF hK aC hs;go_enter ztT,ztC;go_wp2_with fail;generalize (w.alloc (.cells z7 94)).alloc (.cells #[(0:Int),(0:Int)] 55)=W0 at *;refine(X.out _).mono ?_;rintro e wA ⟨rfl,aa⟩;have hx:=Blk.new wA 94 z7;have hA:zB wA (wA.alloc (.cells z7 94)):=zF.alloc zN _;have a0:zB W0 (wA.alloc (.cells z7 94)):=zT aa hA;have M:LR w (wA.alloc (.cells z7 94)) wA.heap.size z7:=⟨a2.out.below a0 a2.out.lt,U.out.below a0 U.out.lt,hx,zc6 U.out.lt aa.size,zT aj.out a0⟩;have a5:=zH M;clear aa hx hA a0 M X a2 U aj;go_wp2_with fail;generalize wA.alloc (.cells z7 94)=W1 at *;obtain⟨b,hb⟩:∃b,wA.heap.size=b:=⟨_,rfl⟩;rw[hb] at a5 ⊢;clear hb;go_loopw [7] (fun kV wr=>∃k:Nat,1<=k/\k<=5/\kV=.int .i64 k/\LR w wr b (x7 (kup K k) ⟨#[]⟩ 0 0 0 ⟨#[]⟩ (.slice none 0 0))) (fun kV _=>5-(intOf kV).toNat)
 case atStart=>exact⟨1,by omega,by omega,rfl,by rw[show kup K 1=0 by unfold kup;split<;>omega];exact a5.out⟩
 case round =>
  clear a5;obtain⟨k,aT,bn,rfl,M⟩:=hrel;have HL:=zH M;clear M
  by_cases hlt:k<=4
  ·have ac:=aG.out.below HL.out.B;have g0:=ac.c;have g1:=ac.s k (by omega);have hc:=ak.out k aT hlt;have x0:_=some (Value.int .i64 ((kup K k:Nat):Int)):=HL.out.x.cell 0;have xf:=HL.out.x.frozen 0;clear ac
   by_cases he:K=k
   ·have aB:=HL.out.set 0 (.int .i64 k);have a8:Hid (LR w (wr.setCell ⟨b,0,none⟩ (.int .i64 k)) b (x7 (kup K (k+1)) ⟨#[]⟩ 0 0 0 ⟨#[]⟩ (.slice none 0 0))):=by
     have e:kup K (k+1)=k:=by unfold kup;rw[zc3 (by omega)];exact he
     rw[e];exact aB
    rw[zq9 he] at hc;generalize kup K k=KU at *;generalize (⟨(wl k).toArray⟩:ByteArray)=WK at *;clear aB he;go_wp2;go_roundw
    case rel=>exact⟨k+1,by omega,by omega,by go_num,a8.out⟩
    case measure=>simp[intOf];omega
   ·have a8:Hid (LR w wr b (x7 (kup K (k+1)) ⟨#[]⟩ 0 0 0 ⟨#[]⟩ (.slice none 0 0))):=by
     have e:kup K (k+1)=kup K k:=by
      unfold kup
      by_cases h:K<k
      ·rw[zc3 h,zc3 (by omega)]
      ·rw[zc2 h,zc2 (by omega)]
     rw[e];exact HL.out
    rw[zf5 he] at hc;generalize kup K k=KU at *;generalize (⟨(wl k).toArray⟩:ByteArray)=WK at *;clear he;go_wp2;go_roundw
    case rel=>exact⟨k+1,by omega,by omega,by go_num,a8.out⟩
    case measure=>simp[intOf];omega
  ·obtain rfl:k=5:=by omega
   have ax:kup K 5=K:=by unfold kup;rw[zc3 (by omega)]
   rw[ax] at HL;clear ax;have b1:_=some (Value.int .i64 K):=HL.out.x.cell 0;go_wp2_with fail;refine(Y.out _).mono ?_;rintro e wB ⟨rfl,hb⟩;have C:=zH (HL.out.step hb);clear hb Y HL;have aZ:_=some (Value.int .i64 K):=C.out.x.cell 0;have b0:_=some (Value.string ⟨#[]⟩):=C.out.x.cell 1;have b2:=C.out.x.frozen 1;have a3:Hid (LR w (wB.setCell ⟨b,1,none⟩ (.string nm)) b (x7 K nm 0 0 0 ⟨#[]⟩ (.slice none 0 0))):=C.out.set 1 (.string nm);have y0:(wB.setCell ⟨b,1,none⟩ (.string nm)).cell? ⟨b,0,none⟩=some (.int .i64 K):=a3.out.x.cell 0;clear C b1;go_wp2_with fail;generalize wB.setCell ⟨b,1,none⟩ (.string nm)=W2 at *;clear aZ b0 b2;refine(a6.out _).mono ?_;rintro e wC ⟨rfl,hb⟩;have a4:=zH (a3.out.step hb);have aq:=zH (ar.out _ a4.out.B);clear hb a6 a3 y0 ar;go_wp2_with fail;refine aq.out.mono ?_;rintro e wD ⟨rfl,hb⟩;have am:=zH (a4.out.step hb);have kv:=Blk.new wD 91 #[va,vb,vc];have aw:zB wD (wD.alloc (.cells #[va,vb,vc] 91)):=zF.alloc zN _;have HL:=zH (am.out.step aw);have V:=zH kv;clear hb aw a4 am aq kv;have v0:=V.out.cell 0;have v1:=V.out.cell 1;have v2:=V.out.cell 2;have e0:(wD.alloc (.cells #[va,vb,vc] 91)).cell? ⟨b,0,none⟩=some (.int .i64 K):=HL.out.x.cell 0;have e2:(wD.alloc (.cells #[va,vb,vc] 91)).cell? ⟨b,2,none⟩=some (.int .i64 0):=HL.out.x.cell 2;have e3:(wD.alloc (.cells #[va,vb,vc] 91)).cell? ⟨b,3,none⟩=some (.int .i64 0):=HL.out.x.cell 3;have e4:(wD.alloc (.cells #[va,vb,vc] 91)).cell? ⟨b,4,none⟩=some (.int .i64 0):=HL.out.x.cell 4;have aK:=HL.out.x.frozen 2;have aL:=HL.out.x.frozen 3;have aM:=HL.out.x.frozen 4;have y:=(((HL.out.set 2 (.int .i64 va)).set 3 (.int .i64 vb)).set 4 (.int .i64 vc));have a9:Hid (LR w ((((wD.alloc (.cells #[va,vb,vc] 91)).setCell ⟨b,2,none⟩ (.int .i64 va)).setCell ⟨b,3,none⟩ (.int .i64 vb)).setCell ⟨b,4,none⟩ (.int .i64 vc)) b (x7 K nm (va:Int) (vb:Int) (vc:Int) ⟨#[]⟩ (.slice none 0 0))):=y;have m0:((((wD.alloc (.cells #[va,vb,vc] 91)).setCell ⟨b,2,none⟩ (.int .i64 va)).setCell ⟨b,3,none⟩ (.int .i64 vb)).setCell ⟨b,4,none⟩ (.int .i64 vc)).cell? ⟨b,0,none⟩=some (.int .i64 K):=y.x.cell 0;clear y HL;go_upto_region 17 with fail;obtain⟨W5,av⟩:∃W5,((((wD.alloc (.cells #[va,vb,vc] 91)).setCell ⟨b,2,none⟩ (.int .i64 va)).setCell ⟨b,3,none⟩ (.int .i64 vb)).setCell ⟨b,4,none⟩ (.int .i64 vc))=W5:=⟨_,rfl⟩;rw[av] at a9 m0 ⊢;clear av v0 v1 v2 e0 e2 e3 e4 aK aL aM V;go_wp2_with fail;refine(a7.out _).mono ?_;rintro e wO ⟨rfl,hb⟩;have J:=zH (a9.out.step hb);clear hb a7 a9 m0;have o0:_=some (Value.int .i64 K):=J.out.x.cell 0;have o5:_=some (Value.string ⟨#[]⟩):=J.out.x.cell 5;have aY:=J.out.x.frozen 5;have HX:Hid (LR w (wO.setCell ⟨b,5,none⟩ (.string ot)) b (x7 K nm (va:Int) (vb:Int) (vc:Int) ot (.slice none 0 0))):=J.out.set 5 (.string ot);clear J;go_upto_region 23 with fail;generalize wO.setCell ⟨b,5,none⟩ (.string ot)=W8 at *;clear o0 o5 aY;go_wp2_with fail;refine(ao.out _ HX.out.B).mono ?_;rintro e wG ⟨l',ra,rc,k',p',rfl,nl,gl,fl,hb,aU,aV,aW⟩;have ab:zB wG (wG.alloc (.cells #[k',p'] 55)):=zF.alloc zN _;have HG:=zH ((HX.out.step hb).step ab);have aH:=zH (nl.below ab zN);have HQ:=zH (Blk.new wG 55 #[k',p']);have aR:=HX.out.x.lt;have R:=HX.out.ne;have aS:=hb.size;have bh:Hid (∀g,(Value.slice ra (tp l').length rc).ownBlock=some g->b<g):=fun g hg=>by have:=fl g hg;omega
   have q0:(wG.alloc (.cells #[k',p'] 55)).cell? wG.heap.size=some (.int .i64 k'):=HQ.out.cell 0;have q1:(wG.alloc (.cells #[k',p'] 55)).cell? ⟨wG.heap.size,1,none⟩=some (.int .i64 p'):=HQ.out.cell 1;have n5:¬wG.heap.size=w.heap.size:=by omega
   have n6:¬wG.heap.size=w.heap.size+1:=by omega
   have n7:¬wG.heap.size=b:=by omega
   have aF:=zH R;clear hb ab nl fl aR R aS HX ao HQ;subst aU;subst aV;subst aW;have hk':(k' != 0)=true:=by simpa using aA
   clear aA;have b3:(wG.alloc (.cells #[k',p'] 55)).cell? w.heap.size=some (.int .i64 0):=HG.out.z.cell 0;have b4:(wG.alloc (.cells #[k',p'] 55)).cell? ⟨w.heap.size,1,none⟩=some (.string ⟨#[]⟩):=HG.out.z.cell 1;have b5:(wG.alloc (.cells #[k',p'] 55)).cell? ⟨w.heap.size,2,none⟩=some (.int .i64 0):=HG.out.z.cell 2;have b6:(wG.alloc (.cells #[k',p'] 55)).cell? ⟨w.heap.size,3,none⟩=some (.int .i64 0):=HG.out.z.cell 3;have b7:(wG.alloc (.cells #[k',p'] 55)).cell? ⟨w.heap.size,4,none⟩=some (.int .i64 0):=HG.out.z.cell 4;have b8:(wG.alloc (.cells #[k',p'] 55)).cell? ⟨w.heap.size,5,none⟩=some (.string ⟨#[]⟩):=HG.out.z.cell 5;have b9:(wG.alloc (.cells #[k',p'] 55)).cell? ⟨w.heap.size,6,none⟩=some (.slice none 0 0):=HG.out.z.cell 6;have ba:=HG.out.z.frozen 0;have bb:=HG.out.z.frozen 1;have bc:=HG.out.z.frozen 2;have bd:=HG.out.z.frozen 3;have be:=HG.out.z.frozen 4;have bf:=HG.out.z.frozen 5;have bg:=HG.out.z.frozen 6;have aN:(wG.alloc (.cells #[k',p'] 55)).cell? ⟨w.heap.size+1,0,none⟩=some (.int .i64 0):=HG.out.f.cell 0;have aO:(wG.alloc (.cells #[k',p'] 55)).cell? ⟨w.heap.size+1,1,none⟩=some (.int .i64 0):=HG.out.f.cell 1;have aP:=HG.out.f.frozen 0;have aQ:=HG.out.f.frozen 1;obtain⟨Z,hZ,qz,qf,qB,-⟩:=HG.out.done (.int .i64 0) (.string ⟨#[]⟩) (.int .i64 0) (.int .i64 0) (.int .i64 0) (.string ⟨#[]⟩) (.slice none 0 0) (.int .i64 k') (.int .i64 p');have HZ:=zH hZ;have j:=zH qz;have an:=zH qf;have aJ:=zH qB;clear hZ qz qf qB aH HG;go_upto_region 24 with fail;generalize wG.alloc (.cells #[k',p'] 55)=W6 at *;go_wp2_with fail;go_big_region;clear q0 q1 n5 n6 n7;clear b3 b4 b5 b6 b7 b8 b9 ba bb bc bd be bf bg aN aO aP aQ;rw[HZ.out];go_wp2;have r0:=j.out.cell 0;have r1:=j.out.cell 1;have r2:=j.out.cell 2;have r3:=j.out.cell 3;have r4:=j.out.cell 4;have r5:=j.out.cell 5;have r6:=j.out.cell 6;have s0:=an.out.cell 0;have s1:=an.out.cell 1;refine zc4 (v:=.tuple #[.agg z7,.agg #[k',p']]) (by simp[results,Tryz.results33,go_sem,r0,r1,r2,r3,r4,r5,r6,s0,s1]) rfl ?_;exact⟨Xl,none,0,k',p',rfl,xM _,Zu,fun g hg=>by simp[Value.ownBlock] at hg,aJ.out.drew,rfl,rfl,aI.out.symm⟩
theorem zdK(s:ByteArray)(w:World)(hs:s.size<=100000)(hw:Lb w)(hF:yA w)(ad:Addr)(cap:Nat)(hK:xe w ad cap)(K:Nat)(hK23:K=2\/K=3)(hk:zI (zb s 32).1=K)(va vb vc:Nat)(hver:zO (zb (zb (zb s 32).2 32).2 32).1=.ok [va,vb,vc])(lo:List zf)(hrg:xz (zb (zb (zb (zb s 32).2 32).2 32).2 32).2=.ok lo):zC 33 #[s] w (Qy w (.ok ⟨K,(zb (zb s 32).2 32).1,(va:Int),(vb:Int),(vc:Int),(zb (zb (zb (zb s 32).2 32).2 32).2 32).1,lo⟩)):=by
 have bw:((K:Int)==1)=false:=by rw[zf2];omega
 have bz:((K:Int)==4)=false:=by rw[zf2];omega
 have bv:((K:Int)==0)=false:=by rw[zf2];omega
 have k0:=(Blk.new w 94 z7).alloc (.cells #[(0:Int),(0:Int)] 55);have k1:=Blk.new (w.alloc (.cells z7 94)) 55 #[(0:Int),(0:Int)];rw[zc1] at k1;have aA:zB w ((w.alloc (.cells z7 94)).alloc (.cells #[(0:Int),(0:Int)] 55)):=((zf0 _ w).alloc zN _).alloc (by simp) _;have a4:=zH k0;have R:=zH k1;have ao:=zH aA;have V:=zH (fun W=>yu s W hs);have aF:=(qC s 32).2;have bu:=zH hw;have ar:=zH hF;have aI:=zH hK;obtain⟨w1,b2⟩:∃w1,(zb s 32).1=w1:=⟨_,rfl⟩;obtain⟨s2,a0⟩:∃s2,(zb s 32).2=s2:=⟨_,rfl⟩;rw[b2] at hk V;rw[a0] at aF V;have hz2':s2.size<=100000:=by omega
 have au:Hid (∀k,1<=k->k<=4->((⟨(wl k).toArray⟩:ByteArray).toList==w1.toList)=decide (zI w1=k)):=fun k h1 h4=>QO h1 h4;rw[hk] at au;have X:=zH (fun W=>yu s2 W hz2');have aG:=(qC s2 32).2;obtain⟨nm,aj⟩:∃nm,(zb s2 32).1=nm:=⟨_,rfl⟩;obtain⟨s3,M⟩:∃s3,(zb s2 32).2=s3:=⟨_,rfl⟩;rw[aj] at X;rw[M] at aG X;have hz3':s3.size<=100000:=by omega
 have a8:=zH (fun W=>yu s3 W hz3');have aH:=qC s3 32;obtain⟨vw,an⟩:∃vw,(zb s3 32).1=vw:=⟨_,rfl⟩;obtain⟨s4,a1⟩:∃s4,(zb s3 32).2=s4:=⟨_,rfl⟩;rw[an,a1] at aH a8;have hz4':s4.size<=100000:=by omega
 have q:∀W,zB w W->zR 75 #[.string vw] W (QI (zO vw)):=fun W hb=>yU yP vw W (by omega) (hw.below hb);rw[a0,M,an] at hver;rw[hver] at q;have az:Hid (∀W,zB w W->zR 75 #[.string vw] W (.tuple #[.agg #[va,vb,vc],(0:Int)])):=q;clear q hver;have a9:=zH (fun W=>yu s4 W hz4');have u:=qC s4 32;obtain⟨ot,ak⟩:∃ot,(zb s4 32).1=ot:=⟨_,rfl⟩;obtain⟨s5,am⟩:∃s5,(zb s4 32).2=s5:=⟨_,rfl⟩;rw[ak,am] at u a9;have hz5':s5.size<=100000:=by omega
 rw[a0,M,a1,am] at hrg;have ax:Hid (∀W,zB w W->zC 76 #[.string s5] W fun e w'=>∃(l:List zf) (a:Option Addr) (c:Nat) (k p:Int),e=.returned (.tuple #[.slice a (tp l).length c,.agg #[.int .i64 k,p]])/\zE w' (.slice a (tp l).length c) (tp l)/\Rg l/\(∀g,(Value.slice a (tp l).length c).ownBlock=some g->W.heap.size<=g)/\zB W w'/\l=lo/\k=0/\p=-1):=fun W hb=>by have:=JQ s5 W (by omega) (hw.below hb) (hF.below hb);rw[hrg] at this;exact this
 clear hrg;rw[a0,aj,M,a1,ak];clear aG aH u aj M an a1 ak am;clear k0 k1 aA hw hF hK aF hs;go_enter ztT,ztC;go_wp2_with fail;generalize (w.alloc (.cells z7 94)).alloc (.cells #[(0:Int),(0:Int)] 55)=W0 at *;refine(V.out _).mono ?_;rintro e wA ⟨rfl,af⟩;have hx:=Blk.new wA 94 z7;have hA:zB wA (wA.alloc (.cells z7 94)):=zF.alloc zN _;have Y:zB W0 (wA.alloc (.cells z7 94)):=zT af hA;have J:LR w (wA.alloc (.cells z7 94)) wA.heap.size z7:=⟨a4.out.below Y a4.out.lt,R.out.below Y R.out.lt,hx,zc6 R.out.lt af.size,zT ao.out Y⟩;have a7:=zH J;clear af hx hA Y J V a4 R ao;go_wp2_with fail;generalize wA.alloc (.cells z7 94)=W1 at *;obtain⟨b,hb⟩:∃b,wA.heap.size=b:=⟨_,rfl⟩;rw[hb] at a7 ⊢;clear hb;go_loopw [7] (fun kV wr=>∃k:Nat,1<=k/\k<=5/\kV=.int .i64 k/\LR w wr b (x7 (kup K k) ⟨#[]⟩ 0 0 0 ⟨#[]⟩ (.slice none 0 0))) (fun kV _=>5-(intOf kV).toNat)
 case atStart=>exact⟨1,by omega,by omega,rfl,by rw[show kup K 1=0 by unfold kup;split<;>omega];exact a7.out⟩
 case round =>
  clear a7;obtain⟨k,aX,bA,rfl,J⟩:=hrel;have HL:=zH J;clear J
  by_cases hlt:k<=4
  ·have ai:=aI.out.below HL.out.B;have g0:=ai.c;have g1:=ai.s k (by omega);have hc:=au.out k aX hlt;have x0:_=some (Value.int .i64 ((kup K k:Nat):Int)):=HL.out.x.cell 0;have xf:=HL.out.x.frozen 0;clear ai
   by_cases he:K=k
   ·have aE:=HL.out.set 0 (.int .i64 k);have ab:Hid (LR w (wr.setCell ⟨b,0,none⟩ (.int .i64 k)) b (x7 (kup K (k+1)) ⟨#[]⟩ 0 0 0 ⟨#[]⟩ (.slice none 0 0))):=by
     have e:kup K (k+1)=k:=by unfold kup;rw[zc3 (by omega)];exact he
     rw[e];exact aE
    rw[zq9 he] at hc;generalize kup K k=KU at *;generalize (⟨(wl k).toArray⟩:ByteArray)=WK at *;clear aE he;go_wp2;go_roundw
    case rel=>exact⟨k+1,by omega,by omega,by go_num,ab.out⟩
    case measure=>simp[intOf];omega
   ·have ab:Hid (LR w wr b (x7 (kup K (k+1)) ⟨#[]⟩ 0 0 0 ⟨#[]⟩ (.slice none 0 0))):=by
     have e:kup K (k+1)=kup K k:=by
      unfold kup
      by_cases h:K<k
      ·rw[zc3 h,zc3 (by omega)]
      ·rw[zc2 h,zc2 (by omega)]
     rw[e];exact HL.out
    rw[zf5 he] at hc;generalize kup K k=KU at *;generalize (⟨(wl k).toArray⟩:ByteArray)=WK at *;clear he;go_wp2;go_roundw
    case rel=>exact⟨k+1,by omega,by omega,by go_num,ab.out⟩
    case measure=>simp[intOf];omega
  ·obtain rfl:k=5:=by omega
   have aD:kup K 5=K:=by unfold kup;rw[zc3 (by omega)]
   rw[aD] at HL;clear aD;have b7:_=some (Value.int .i64 K):=HL.out.x.cell 0;go_wp2_with fail;refine(X.out _).mono ?_;rintro e wB ⟨rfl,hb⟩;have y:=zH (HL.out.step hb);clear hb X HL;have b5:_=some (Value.int .i64 K):=y.out.x.cell 0;have b6:_=some (Value.string ⟨#[]⟩):=y.out.x.cell 1;have b8:=y.out.x.frozen 1;have a5:Hid (LR w (wB.setCell ⟨b,1,none⟩ (.string nm)) b (x7 K nm 0 0 0 ⟨#[]⟩ (.slice none 0 0))):=y.out.set 1 (.string nm);have y0:(wB.setCell ⟨b,1,none⟩ (.string nm)).cell? ⟨b,0,none⟩=some (.int .i64 K):=a5.out.x.cell 0;clear y b7;go_wp2_with fail;generalize wB.setCell ⟨b,1,none⟩ (.string nm)=W2 at *;clear b5 b6 b8;refine(a8.out _).mono ?_;rintro e wC ⟨rfl,hb⟩;have a6:=zH (a5.out.step hb);have ay:=zH (az.out _ a6.out.B);clear hb a8 a5 y0 az;go_wp2_with fail;refine ay.out.mono ?_;rintro e wD ⟨rfl,hb⟩;have av:=zH (a6.out.step hb);have kv:=Blk.new wD 91 #[va,vb,vc];have aC:zB wD (wD.alloc (.cells #[va,vb,vc] 91)):=zF.alloc zN _;have HL:=zH (av.out.step aC);have U:=zH kv;clear hb aC a6 av ay kv;have v0:=U.out.cell 0;have v1:=U.out.cell 1;have v2:=U.out.cell 2;have e0:(wD.alloc (.cells #[va,vb,vc] 91)).cell? ⟨b,0,none⟩=some (.int .i64 K):=HL.out.x.cell 0;have e2:(wD.alloc (.cells #[va,vb,vc] 91)).cell? ⟨b,2,none⟩=some (.int .i64 0):=HL.out.x.cell 2;have e3:(wD.alloc (.cells #[va,vb,vc] 91)).cell? ⟨b,3,none⟩=some (.int .i64 0):=HL.out.x.cell 3;have e4:(wD.alloc (.cells #[va,vb,vc] 91)).cell? ⟨b,4,none⟩=some (.int .i64 0):=HL.out.x.cell 4;have aM:=HL.out.x.frozen 2;have aN:=HL.out.x.frozen 3;have aO:=HL.out.x.frozen 4;have u:=(((HL.out.set 2 (.int .i64 va)).set 3 (.int .i64 vb)).set 4 (.int .i64 vc));have ac:Hid (LR w ((((wD.alloc (.cells #[va,vb,vc] 91)).setCell ⟨b,2,none⟩ (.int .i64 va)).setCell ⟨b,3,none⟩ (.int .i64 vb)).setCell ⟨b,4,none⟩ (.int .i64 vc)) b (x7 K nm (va:Int) (vb:Int) (vc:Int) ⟨#[]⟩ (.slice none 0 0))):=u;have m0:((((wD.alloc (.cells #[va,vb,vc] 91)).setCell ⟨b,2,none⟩ (.int .i64 va)).setCell ⟨b,3,none⟩ (.int .i64 vb)).setCell ⟨b,4,none⟩ (.int .i64 vc)).cell? ⟨b,0,none⟩=some (.int .i64 K):=u.x.cell 0;clear u HL;go_upto_region 17 with fail;obtain⟨W5,aB⟩:∃W5,((((wD.alloc (.cells #[va,vb,vc] 91)).setCell ⟨b,2,none⟩ (.int .i64 va)).setCell ⟨b,3,none⟩ (.int .i64 vb)).setCell ⟨b,4,none⟩ (.int .i64 vc))=W5:=⟨_,rfl⟩;rw[aB] at ac m0 ⊢;clear aB v0 v1 v2 e0 e2 e3 e4 aM aN aO U;go_wp2_with fail;refine(a9.out _).mono ?_;rintro e wO ⟨rfl,hb⟩;have C:=zH (ac.out.step hb);clear hb a9 ac m0;have o0:_=some (Value.int .i64 K):=C.out.x.cell 0;have o5:_=some (Value.string ⟨#[]⟩):=C.out.x.cell 5;have b3:=C.out.x.frozen 5;have HX:Hid (LR w (wO.setCell ⟨b,5,none⟩ (.string ot)) b (x7 K nm (va:Int) (vb:Int) (vc:Int) ot (.slice none 0 0))):=C.out.set 5 (.string ot);clear C;go_upto_region 23 with fail;generalize wO.setCell ⟨b,5,none⟩ (.string ot)=W8 at *;clear o0 o5 b3;go_wp2_with fail;refine(ax.out _ HX.out.B).mono ?_;rintro e wG ⟨l',ra,rc,k',p',rfl,nl,gl,fl,hb,aZ,b0,b1⟩;have ag:zB wG (wG.alloc (.cells #[k',p'] 55)):=zF.alloc zN _;have HG:=zH ((HX.out.step hb).step ag);have aa:=zH (nl.below ag zN);have HQ:=zH (Blk.new wG 55 #[k',p']);have aV:=HX.out.x.lt;have j:=HX.out.ne;have aW:=hb.size;have a3:Hid (∀g,(Value.slice ra (tp l').length rc).ownBlock=some g->b<g):=fun g hg=>by have:=fl g hg;omega
   have q0:(wG.alloc (.cells #[k',p'] 55)).cell? wG.heap.size=some (.int .i64 k'):=HQ.out.cell 0;have q1:(wG.alloc (.cells #[k',p'] 55)).cell? ⟨wG.heap.size,1,none⟩=some (.int .i64 p'):=HQ.out.cell 1;have n5:¬wG.heap.size=w.heap.size:=by omega
   have n6:¬wG.heap.size=w.heap.size+1:=by omega
   have n7:¬wG.heap.size=b:=by omega
   have a2:=zH j;clear hb ag nl fl aV j aW HX ax HQ;subst aZ;subst b0;subst b1;have t6:(wG.alloc (.cells #[(0:Int),.int .i64 (-1)] 55)).cell? ⟨b,6,none⟩=some (.slice none 0 0):=HG.out.x.cell 6;have b4:=HG.out.x.frozen 6;have HE:Hid (LR w ((wG.alloc (.cells #[(0:Int),.int .i64 (-1)] 55)).setCell ⟨b,6,none⟩ (.slice ra (tp l').length rc)) b (x7 K nm (va:Int) (vb:Int) (vc:Int) ot (.slice ra (tp l').length rc))):=HG.out.set 6 (.slice ra (tp l').length rc);have aJ:Hid (zE ((wG.alloc (.cells #[(0:Int),.int .i64 (-1)] 55)).setCell ⟨b,6,none⟩ (.slice ra (tp l').length rc)) (.slice ra (tp l').length rc) (tp l')):=by
    refine⟨aa.out.form,fun i hi=>?_⟩;obtain⟨g,ae,e,hg,hc⟩:=aa.out.cells i hi;have:=a3.out g (by rw[e];rfl);exact⟨g,ae,e,by simp only[World.setCell,zuy];exact hg,(qq (by omega)).trans hc⟩
   have aq:Hid (∀g,(Value.slice ra (tp l').length rc).ownBlock=some g->w.heap.size+1<g):=fun g hg=>by have:=a3.out g hg;have:=a2.out;omega
   clear aa HG a3;go_upto_region 27 with fail;clear q0 q1 t6 b4 n5 n6 n7;generalize (wG.alloc (.cells #[(0:Int),.int .i64 (-1)] 55)).setCell ⟨b,6,none⟩ (.slice ra (tp l').length rc)=W7 at *;have ah:=ar.out.below HE.out.B;have aT:W7.cell? ⟨0,0,none⟩=some (.int .i64 0):=ah.c0;have aU:W7.cell? ⟨0,1,none⟩=some (.int .i64 (-1)):=ah.c1;have j:=HE.out.ne;have aY:=ar.out.lt;have n1:¬0=w.heap.size:=by omega
   have n2:¬b=w.heap.size:=by omega
   have n3:¬b=w.heap.size+1:=by omega
   have n4:¬w.heap.size=0:=by omega
   clear j aY;have bg:_=some (Value.int .i64 0):=HE.out.z.cell 0;have bh:_=some (Value.string ⟨#[]⟩):=HE.out.z.cell 1;have bi:_=some (Value.int .i64 0):=HE.out.z.cell 2;have bj:_=some (Value.int .i64 0):=HE.out.z.cell 3;have bk:_=some (Value.int .i64 0):=HE.out.z.cell 4;have bl:_=some (Value.string ⟨#[]⟩):=HE.out.z.cell 5;have bm:_=some (Value.slice none 0 0):=HE.out.z.cell 6;have bn:=HE.out.z.frozen 0;have bo:=HE.out.z.frozen 1;have bp:=HE.out.z.frozen 2;have bq:=HE.out.z.frozen 3;have br:=HE.out.z.frozen 4;have bs:=HE.out.z.frozen 5;have bt:=HE.out.z.frozen 6;have aP:_=some (Value.int .i64 0):=HE.out.f.cell 0;have aQ:_=some (Value.int .i64 0):=HE.out.f.cell 1;have aR:=HE.out.f.frozen 0;have aS:=HE.out.f.frozen 1;have b9:_=some (Value.int .i64 K):=HE.out.x.cell 0;have ba:_=some (Value.string nm):=HE.out.x.cell 1;have bb:_=some (Value.int .i64 va):=HE.out.x.cell 2;have bc:_=some (Value.int .i64 vb):=HE.out.x.cell 3;have bd:_=some (Value.int .i64 vc):=HE.out.x.cell 4;have be:_=some (Value.string ot):=HE.out.x.cell 5;have bf:_=some (Value.slice ra (tp l').length rc):=HE.out.x.cell 6;obtain⟨Z,hZ,qz,qf,qB,qN⟩:=HE.out.done (.int .i64 K) (.string nm) (.int .i64 va) (.int .i64 vb) (.int .i64 vc) (.string ot) (.slice ra (tp l').length rc) (.int .i64 0) (.int .i64 (-1));have HZ:=zH hZ;have o:=zH qz;have aw:=zH qf;have aK:=zH qB;have aL:=zH qN;clear hZ qz qf qB qN ah;go_wp2_with fail;go_big_region;clear aT aU n1 n2 n3 n4;clear bg bh bi bj bk bl bm bn bo bp bq br bs bt aP aQ aR aS;clear b9 ba bb bc bd be bf;rw[HZ.out];go_wp2;have r0:=o.out.cell 0;have r1:=o.out.cell 1;have r2:=o.out.cell 2;have r3:=o.out.cell 3;have r4:=o.out.cell 4;have r5:=o.out.cell 5;have r6:=o.out.cell 6;have s0:=aw.out.cell 0;have s1:=aw.out.cell 1;refine zc4 (v:=.tuple #[.agg #[K,.string nm,va,vb,vc,.string ot,(.slice ra (tp l').length rc)],.agg #[(0:Int),.int .i64 (-1)]]) (by simp[results,Tryz.results33,go_sem,r0,r1,r2,r3,r4,r5,r6,s0,s1]) rfl ?_;exact⟨⟨K,nm,(va:Int),(vb:Int),(vc:Int),ot,l'⟩,ra,rc,0,-1,rfl,(aL.out _ _ aq.out aJ.out).drew,gl,fun g hg=>by have:=aq.out g hg;omega,aK.out.drew,rfl,rfl,rfl⟩
end
section
open Go.Shelf Sv
theorem znM(s:ByteArray)(w:World)(hs:s.size<=100000)(hw:Lb w)(hF:yA w)(ad:Addr)(cap:Nat)(hK:xe w ad cap):zC 33 #[s] w (Qy w (Z5 s)):=by
 have h4:=zdW (zb s 32).1;have h:zI (zb s 32).1=0\/zI (zb s 32).1=1\/zI (zb s 32).1=2\/zI (zb s 32).1=3\/zI (zb s 32).1=4:=by omega
 unfold Z5;rcases h with h|h|h|h|h
 ·rw[h];exact zlE s w hs hw hF ad cap hK h
 ·rw[h,zc2 (by decide),zc2 (by decide)];cases hv:zO (zb (zb (zb s 32).2 32).2 32).1 with
  |error ke=>exact zb6 s w hs hw hF ad cap hK 1 (Or.inl rfl) h ke hv
  |ok ns =>
   obtain⟨a,b,c,rfl⟩:=Yy (YU hv).1;simp only[zc3]
   by_cases hr:(zb (zb (zb s 32).2 32).2 32).2.size=0
   ·rw[zc3 hr];exact zhs s w hs hw hF ad cap hK h a b c hv hr
   ·rw[zc2 hr];exact zlN s w hs hw hF ad cap hK h a b c hv hr
 ·rw[h,zc2 (by decide),zc2 (by decide)];cases hv:zO (zb (zb (zb s 32).2 32).2 32).1 with
  |error ke=>exact zb6 s w hs hw hF ad cap hK 2 (Or.inr (Or.inl rfl)) h ke hv
  |ok ns =>
   obtain⟨a,b,c,rfl⟩:=Yy (YU hv).1;simp only;rw[zc2 (by decide)];unfold xu;cases hr:xz (zb (zb (zb (zb s 32).2 32).2 32).2 32).2 with
   |error q=>obtain⟨q,o⟩:=q;exact zeH s w hs hw hF ad cap hK 2 (Or.inl rfl) h a b c hv q o hr
   |ok lo=>exact zdK s w hs hw hF ad cap hK 2 (Or.inl rfl) h a b c hv lo hr
 ·rw[h,zc2 (by decide),zc2 (by decide)];cases hv:zO (zb (zb (zb s 32).2 32).2 32).1 with
  |error ke=>exact zb6 s w hs hw hF ad cap hK 3 (Or.inr (Or.inr rfl)) h ke hv
  |ok ns =>
   obtain⟨a,b,c,rfl⟩:=Yy (YU hv).1;simp only;rw[zc2 (by decide)];unfold xu;cases hr:xz (zb (zb (zb (zb s 32).2 32).2 32).2 32).2 with
   |error q=>obtain⟨q,o⟩:=q;exact zeH s w hs hw hF ad cap hK 3 (Or.inr rfl) h a b c hv q o hr
   |ok lo=>exact zdK s w hs hw hF ad cap hK 3 (Or.inr rfl) h a b c hv lo hr
 ·rw[h,zc2 (by decide),zc3 rfl];unfold xu;cases hr:xz (zb (zb s 32).2 32).2 with
  |error q=>obtain⟨q,o⟩:=q;exact zhu s w hs hw hF ad cap hK h q o hr
  |ok lo=>exact zq0 s w hs hw hF ad cap hK h lo hr
end
section
open Go.Deep Go.Shelf Sv
theorem zqz:(Tryz.prog.info? 94).map (fun i=>(i.zero,i.size,i.bytes))=some (some (.agg #[(0:Int),.string ⟨#[]⟩,(0:Int),(0:Int),(0:Int),.string ⟨#[]⟩,.slice none 0 0]),7,88):=by kernel_rfl
theorem Kl(l:List zf):(tp l).length=2*l.length:=by
 induction l with
 |nil=>rfl
 |cons s r ih=>simp only[tp,zrb,ih];omega
def Zv(W:World)(ls:List Ln)(vs:List Value):Prop:=vs.length=ls.length/\∀i,i<ls.length->zE W (vs.getD i undef) (tp (ls.getD i default).rng)/\Rg (ls.getD i default).rng
theorem Zv.below{B:Nat}{w w':World}{l:List Ln}{vs:List Value}(h:Zv w l vs)(hb:Below B w w')(hB:w.heap.size<=B):Zv w' l vs:=⟨h.1,fun i hi=>⟨(h.2 i hi).1.below hb hB,(h.2 i hi).2⟩⟩
theorem zjU(w:World):Zv w [] []:=⟨rfl,fun i h=>by simp at h⟩
theorem zE.lt'{w:World}{v:Value}{l:List zf}(h:zE w v (tp l))(hl:0<l.length){g:Nat}(hg:v.ownBlock=some g):g<w.heap.size:=by
 obtain⟨g',j,e,o,_⟩:=h.cells 0 (by rw[Kl];omega);rw[e] at hg;simp[Value.ownBlock] at hg;omega
theorem RgN.newR{W:World}{ls:List Ln}{vs:List Value}(h:Zv W ls vs){b:Nat}(hb:W.heap.size<=b):RgN ls vs (some b):=fun i hi hl g hg e=>by
 have:=(h.2 i hi).1.lt' hl hg;cases e;omega
theorem zE.grown{W W':World}{v:Value}{l:List zf}{row:Option Nat}(h:zE W v (tp l))(hg:W.grownBy W' row)(hn:0<l.length->∀g,v.ownBlock=some g->some g≠row):zE W' v (tp l) :=
 ⟨h.form,fun i hi=>by
  obtain⟨g,o,e,j,c0⟩:=h.cells i hi;have p:=hn (by rw[Kl] at hi;omega) g (by rw[e];rfl);exact ⟨g,o,e,zc6 j hg.size,(Qq hg j p).trans c0⟩⟩
theorem Zv.grown{W W':World}{ls:List Ln}{vs:List Value}{row:Option Nat}(h:Zv W ls vs)(hg:W.grownBy W' row)(hn:RgN ls vs row):Zv W' ls vs:=⟨h.1,fun i hi=>⟨(h.2 i hi).1.grown hg (hn i hi),(h.2 i hi).2⟩⟩
theorem Zv.snoc{w:World}{l:List Ln}{vs:List Value}(h:Zv w l vs){x:Ln}{v:Value}(hv:zE w v (tp x.rng))(hr:Rg x.rng):Zv w (l++[x]) (vs++[v]):=by
 refine⟨by simp[h.1],fun i hi=>?_⟩
 by_cases hl:i<l.length
 ·have e1:(l++[x]).getD i default=l.getD i default:=by simp[List.getD_eq_getElem?_getD,List.getElem?_append_left hl]
  have e2:(vs++[v]).getD i undef=vs.getD i undef:=by simp[List.getD_eq_getElem?_getD,List.getElem?_append_left (show i<vs.length by rw[h.1];exact hl)]
  rw[e1,e2];exact h.2 i hl
 ·obtain rfl:i=l.length:=by simp at hi;omega
  have e1:(l++[x]).getD l.length default=x:=by simp[List.getD_eq_getElem?_getD]
  have e2:(vs++[v]).getD l.length undef=v:=by simp[List.getD_eq_getElem?_getD,<-h.1]
  rw[e1,e2];exact⟨hv,hr⟩
structure RPS(W0 W:World)(lv sv:Value)(ls:List Ln)(vs:List Value)(ss:List Nat):Prop where
 lrow:W.ownsRow W0 94 7 lv ls.length (qu ls vs)
 srow:W.ownsRow W0 3 1 sv ss.length (icells (ss.map fun (k:Nat)=>(k:Int)))
 rg:Zv W ls vs
 nl:RgN ls vs lv.ownBlock
 ns:RgN ls vs sv.ownBlock
 lo:∀k,k<W0.heap.size->RgN ls vs (some k)
 B:zB W0 W
theorem RPS.start(W0:World):RPS W0 W0 (.slice none 0 0) (.slice none 0 0) [] [] []:=⟨zrp _ _ _ _,zrp _ _ _ _,zjU _,RgN.nil _,RgN.nil _,fun _ _=>RgN.nil _,zf0 _ _⟩
theorem RPS.step{W0 W W':World}{lv sv:Value}{ls:List Ln}{vs:List Value}{ss:List Nat}(h:RPS W0 W lv sv ls vs ss)(hb:zB W W'):RPS W0 W' lv sv ls vs ss :=
 ⟨zA h.lrow hb,zA h.srow hb,h.rg.below hb zN,h.nl,h.ns,h.lo,zT h.B hb⟩
theorem RPS.appL{W0 W w':World}{lv lv' sv v:Value}{ls:List Ln}{vs:List Value}{ss:List Nat}{x:Ln}(h:RPS W0 W lv sv ls vs ss)(hv:zE W v (tp x.rng))(hrg:Rg x.rng)(hn:0<x.rng.length->∀g,v.ownBlock=some g->W0.heap.size<=g/\some g≠lv.ownBlock/\some g≠sv.ownBlock)
  (hown:w'.ownsRow W0 94 7 lv' (ls.length+1) (qu ls vs++ZC x v)) (hg:W.grownBy w' lv.ownBlock) (hloc:lv'.ownBlock=lv.ownBlock\/lv'.ownBlock=some W.heap.size):RPS W0 w' lv' sv (ls++[x]) (vs++[v]) ss:=by
 have hx:0<x.rng.length->∀g,v.ownBlock=some g->some g≠lv.ownBlock:=fun h1 g h2=>(hn h1 g h2).2.1;have j:Zv w' (ls++[x]) (vs++[v]):=(h.rg.grown hg h.nl).snoc (hv.grown hg hx) hrg;refine⟨?_,Zm h.srow hg (ZW h.srow h.lrow (by decide)),j,?_,h.ns.snoc h.rg.1 (fun h1 g h2=>(hn h1 g h2).2.2),fun k hk=>(h.lo k hk).snoc h.rg.1 (fun h1 g h2 e=>by have:=(hn h1 g h2).1;cases e;omega),h.B.grown hg h.B.size (fun k hk=>(h.lrow.lt k hk).1)⟩
 ·rw[zbM _ _ _ _ h.rg.1,zf4];exact hown
 ·rcases hloc with e|e
  ·rw[e];exact h.nl.snoc h.rg.1 hx
  ·rw[e];refine(RgN.newR h.rg zN).snoc h.rg.1 (fun h1 g h2 e2=>?_);have:=hv.lt' h1 h2;cases e2;omega
theorem RPS.appS{W0 W w':World}{lv sv sv':Value}{ls:List Ln}{vs:List Value}{ss:List Nat}{k:Nat}(h:RPS W0 W lv sv ls vs ss)
  (hown:w'.ownsRow W0 3 1 sv' (ss.length+1) (icells (ss.map fun (k:Nat)=>(k:Int))++[.int .i64 k])) (hg:W.grownBy w' sv.ownBlock) (hloc:sv'.ownBlock=sv.ownBlock\/sv'.ownBlock=some W.heap.size):RPS W0 w' lv sv' ls vs (ss++[k]):=by
 refine⟨Zm h.lrow hg (ZW h.lrow h.srow (by decide)),?_,h.rg.grown hg h.ns,h.nl,?_,h.lo,h.B.grown hg h.B.size (fun k hk=>(h.srow.lt k hk).1)⟩
 ·rw[zrv,zf4];have e:icells (List.map (fun (k:Nat)=>(k:Int)) ss++List.map (fun (k:Nat)=>(k:Int)) [k])=icells (ss.map fun (k:Nat)=>(k:Int))++[.int .i64 k]:=by rw[ztf,zuI,Ze]
  rw[e];exact hown
 ·rcases hloc with e|e
  ·rw[e];exact h.ns
  ·rw[e];exact RgN.newR h.rg zN
theorem zE.one'{W:World}{b:Nat}{v x:Value}{l:List zf}{i:Nat}(h:zE W v (tp l))(hn:0<l.length->∀g,v.ownBlock=some g->some g≠some b):zE (W.setCell ⟨b,i,none⟩ x) v (tp l) :=
 ⟨h.form,fun j hj=>by
  obtain⟨g,o,e,hg,c0⟩:=h.cells j hj;have p:g≠b:=fun e'=>hn (by rw[Kl] at hj;omega) g (by rw[e];rfl) (by rw[e']);exact ⟨g,o,e,by simp [World.setCell];exact hg,(qq p).trans c0⟩⟩
theorem RPS.rlsSet{W0 W:World}{lv sv x y:Value}{ls:List Ln}{vs:List Value}{ss:List Nat}{b i j:Nat}(h:RPS W0 W lv sv ls vs ss)(hb:b<W0.heap.size):RLs ((W.setCell ⟨b,i,none⟩ x).setCell ⟨b,j,none⟩ y) lv ls :=
 ⟨vs,⟨h.rg.1,fun k hk=>⟨((h.rg.2 k hk).1.one' (h.lo b hb k hk)).one' (h.lo b hb k hk),(h.rg.2 k hk).2⟩⟩,zx (ZD (ZD h.lrow hb) hb)⟩
theorem RPS.rls{W0 W:World}{lv sv:Value}{ls:List Ln}{vs:List Value}{ss:List Nat}(h:RPS W0 W lv sv ls vs ss):RLs W lv ls:=⟨vs,h.rg,zx h.lrow⟩
theorem zpL{L:List (Nat × ByteArray)}{k:Nat}(hk:k<L.length):(L.take (k+1)).filter (fun x=>decide (x.2.size≠0))=(L.take k).filter (fun x=>decide (x.2.size≠0))++(if (px L k).2.size=0 then [] else [px L k]):=by
 rw[zry hk,zsg,QA L k hk];congr 1;rw[zsp,zs0]
 by_cases h:(L[k]).2.size=0
 ·rw[zc2 (by simp[h]),zc3 h]
 ·rw[zc3 (zq9 h),zc2 h]
theorem zmX{L:List (Nat × ByteArray)}{k:Nat}(hk:k<L.length){acc:List (Nat × Ln)}(h:plF ((L.take k).filter (fun x=>decide (x.2.size≠0))) []=.ok acc) :
  plF ((L.take (k+1)).filter (fun x=>decide (x.2.size≠0))) []=if (px L k).2.size=0 then .ok acc else match Z5 (px L k).2 with
   |.error e=>.error (e.1,(px L k).1)
   |.ok l=>.ok (acc++[((px L k).1,l)]):=by
 rw[zpL hk,KI,h];simp only
 by_cases h0:(px L k).2.size=0
 ·rw[zc3 h0,zc3 h0];rfl
 ·rw[zc2 h0,zc2 h0,plF];cases Z5 (px L k).2 with
  |error e=>rfl
  |ok l=>rfl
theorem zjQ{L:List (Nat × ByteArray)}{k:Nat}{e:Int × Nat}(h:plF ((L.take k).filter (fun x=>decide (x.2.size≠0))) []=.error e):plF (L.filter (fun x=>decide (x.2.size≠0))) []=.error e:=by
 conv=>lhs;rw[<-zrN k L,zsg,KI,h]
end
section
open Go.Shelf Sv
theorem zfI{k:Nat}{nm:ByteArray}{ns:List Nat}{ot rest:ByteArray}{q:Int}{o:Option Nat}(h:xu k nm ns ot rest=.error (q,o)):q≠0:=by
 unfold xu at h;split at h
 ·rename_i e hx;cases h;exact zbr hx
 ·cases h
theorem zcz{s:ByteArray}{q:Int}{o:Option Nat}(h:Z5 s=.error (q,o)):q≠0:=by
 unfold Z5 at h;split at h
 ·cases h;decide
 ·split at h
  ·exact zfI h
  ·split at h
   ·rename_i hx;cases h;exact Jg hx
   ·split at h
    ·split at h
     ·cases h
     ·cases h;decide
    ·exact zfI h
end
