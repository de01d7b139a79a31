import Derived.Test.YtoffdbflfikcoaaGreatDoorax
open Go.RowKit
set_option maxHeartbeats 4000000
set_option maxRecDepth 100000
namespace Go.Proofs.YtoffdbflfikcoaaGreatDoor
section
open Sv
theorem zor(s:ByteArray):∀(f k:Nat),s.size<=k+f->k<=s.size->yb s f k=(zq s ⟨#[10]⟩ f k).filter (fun x=>decide (x.2.size≠0)):=by
 intro f
 induction f with
 |zero =>
  intro k h1 h2;obtain rfl:k=s.size:=by omega
  simp[yb,zq]
 |succ f ih =>
  intro k h1 h2;have hL:(s.extract k s.size).data.toList=s.data.toList.drop k:=zfW s k;have q:(s.extract k s.size).size=s.size-k:=by simp[ByteArray.size_extract]
  rcases zsh k s.size with hk|hk
  ·rw[zeq hk,zq]
   by_cases hi:Lib.index (s.extract k s.size).data.toList [10]<0
   ·have e:zb (s.extract k s.size) 10=(s.extract k s.size,⟨#[]⟩):=by
     unfold zb Lib.cut;rw[zc2 (by omega)]
    rw[zc3 hi,e,za3 (by simp only;omega)]
    by_cases h0:(s.extract k s.size).size=0
    ·omega
    ·simp only[zc2 h0,zrS];rw[zsp,zc3 (zq9 h0),zs0]
   ·obtain⟨j,hj⟩:∃j:Nat,Lib.index (s.extract k s.size).data.toList [10]=(j:Int):=⟨(Lib.index (s.extract k s.size).data.toList [10]).toNat,by omega⟩;have o:=YX (s.extract k s.size).data.toList [10] (by omega);rw[hj] at o;have p:(s.extract k s.size).data.toList.length=s.size-k:=by rw[zsZ];exact q
    simp only[zrb,zrY,zrh] at o;have e1:(zb (s.extract k s.size) 10).1=s.extract k (k+j):=by
     unfold zb Lib.cut;rw[zc3 (by omega)];simp only;rw[hj];refine XX ?_;simp only[zrh];rw[hL,Xe,List.take_drop]
    have e2:(s.extract k (k+j)).size=j:=by
     simp only[zsX];omega
    rw[zc2 hi,e1,e2];simp only;rw[hj];simp only[zrh];rw[ih (k+j+1) (by omega) (by omega)];show _=List.filter _ (_ :: zq s ⟨#[10]⟩ f (k+j+1));rw[zsp]
    by_cases hj0:j=0
    ·rw[zc3 hj0,zc2 (by rw[e2];simp[hj0])];rfl
    ·rw[zc2 hj0,zc3 (by rw[e2];simp[hj0])];rfl
  ·obtain rfl:k=s.size:=by omega
   rw[za3 zN];have he:(s.extract s.size s.size).data.toList=[]:=by rw[hL];simp
   rw[zq];show []=List.filter _ (if Lib.index (s.extract s.size s.size).data.toList [10]<0 then _ else _);rw[he];have:Lib.index ([]:List UInt8) [10]<0:=by decide
   rw[zc3 this];simp
end
section
open Go.Shelf Sv
theorem zb6(s:ByteArray)(w:World)(hs:s.size<=100000)(hw:Lb w)(hF:yA w)(ad:Addr)(cap:Nat)(hK:xe w ad cap)(K:Nat)(hK13:K=1\/K=2\/K=3)(hk:zI (zb s 32).1=K)(ke:Int)(hver:zO (zb (zb (zb s 32).2 32).2 32).1=.error ke):zC 33 #[s] w (Qy w (.error (ke,none))):=by
 have aW:((K:Int)==4)=false:=by rw[zf2];omega
 have aV:((K:Int)==0)=false:=by rw[zf2];omega
 have k0:=(Blk.new w 94 z7).alloc (.cells #[(0:Int),(0:Int)] 55);have k1:=Blk.new (w.alloc (.cells z7 94)) 55 #[(0:Int),(0:Int)];rw[zc1] at k1;have ab:zB w ((w.alloc (.cells z7 94)).alloc (.cells #[(0:Int),(0:Int)] 55)):=((zf0 _ w).alloc zN _).alloc (by simp) _;have M:=zH k0;have u:=zH k1;have a4:=zH ab;have y:=zH (fun W=>yu s W hs);have am:=(qC s 32).2;have aU:=zH hw;have aT:=zH hF;have aq:=zH hK;obtain⟨w1,aA⟩:∃w1,(zb s 32).1=w1:=⟨_,rfl⟩;obtain⟨s2,ai⟩:∃s2,(zb s 32).2=s2:=⟨_,rfl⟩;rw[aA] at hk y;rw[ai] at am y;have hz2':s2.size<=100000:=by omega
 have a6:Hid (∀k,1<=k->k<=4->((⟨(wl k).toArray⟩:ByteArray).toList==w1.toList)=decide (zI w1=k)):=fun k h1 h4=>QO h1 h4;rw[hk] at a6;have C:=zH (fun W=>yu s2 W hz2');have an:=(qC s2 32).2;obtain⟨nm,ah⟩:∃nm,(zb s2 32).1=nm:=⟨_,rfl⟩;obtain⟨s3,a2⟩:∃s3,(zb s2 32).2=s3:=⟨_,rfl⟩;rw[ah] at C;rw[a2] at an C;have hz3':s3.size<=100000:=by omega
 have X:=zH (fun W=>yu s3 W hz3');have ao:=qC s3 32;obtain⟨vw,a3⟩:∃vw,(zb s3 32).1=vw:=⟨_,rfl⟩;obtain⟨s4,aj⟩:∃s4,(zb s3 32).2=s4:=⟨_,rfl⟩;rw[a3,aj] at ao X;have hz4':s4.size<=100000:=by omega
 have o:∀W,zB w W->zR 75 #[.string vw] W (QI (zO vw)):=fun W hb=>yU yP vw W (by omega) (hw.below hb);rw[ai,a2,a3] at hver;rw[hver] at o;have af:=Jg hver;have hke':(ke != 0)=true:=by simpa using af
 have aa:Hid (∀W,zB w W->zR 75 #[.string vw] W (.tuple #[.agg #[(0:Int),(0:Int),(0:Int)],ke])):=o;clear o af hver an ao ah a2 a3 aj;clear k0 k1 ab hw hF hK am hs;go_enter ztT,ztC;go_wp2_with fail;generalize (w.alloc (.cells z7 94)).alloc (.cells #[(0:Int),(0:Int)] 55)=W0 at *;refine(y.out _).mono ?_;rintro e wA ⟨rfl,a0⟩;have hx:=Blk.new wA 94 z7;have hA:zB wA (wA.alloc (.cells z7 94)):=zF.alloc zN _;have J:zB W0 (wA.alloc (.cells z7 94)):=zT a0 hA;have q:LR w (wA.alloc (.cells z7 94)) wA.heap.size z7:=⟨M.out.below J M.out.lt,u.out.below J u.out.lt,hx,zc6 u.out.lt a0.size,zT a4.out J⟩;have V:=zH q;clear a0 hx hA J q y M u a4;go_wp2_with fail;generalize wA.alloc (.cells z7 94)=W1 at *;obtain⟨b,hb⟩:∃b,wA.heap.size=b:=⟨_,rfl⟩;rw[hb] at V ⊢;clear hb;go_loopw [7] (fun kV wr=>∃k:Nat,1<=k/\k<=5/\kV=.int .i64 k/\LR w wr b (x7 (kup K k) ⟨#[]⟩ 0 0 0 ⟨#[]⟩ (.slice none 0 0))) (fun kV _=>5-(intOf kV).toNat)
 case atStart=>exact⟨1,by omega,by omega,rfl,by rw[show kup K 1=0 by unfold kup;split<;>omega];exact V.out⟩
 case round =>
  clear V;obtain⟨k,az,aX,rfl,q⟩:=hrel;have HL:=zH q;clear q
  by_cases hlt:k<=4
  ·have a1:=aq.out.below HL.out.B;have g0:=a1.c;have g1:=a1.s k (by omega);have hc:=a6.out k az hlt;have x0:_=some (Value.int .i64 ((kup K k:Nat):Int)):=HL.out.x.cell 0;have xf:=HL.out.x.frozen 0;clear a1
   by_cases he:K=k
   ·have ak:=HL.out.set 0 (.int .i64 k);have Y:Hid (LR w (wr.setCell ⟨b,0,none⟩ (.int .i64 k)) b (x7 (kup K (k+1)) ⟨#[]⟩ 0 0 0 ⟨#[]⟩ (.slice none 0 0))):=by
     have e:kup K (k+1)=k:=by unfold kup;rw[zc3 (by omega)];exact he
     rw[e];exact ak
    rw[zq9 he] at hc;generalize kup K k=KU at *;generalize (⟨(wl k).toArray⟩:ByteArray)=WK at *;clear ak he;go_wp2;go_roundw
    case rel=>exact⟨k+1,by omega,by omega,by go_num,Y.out⟩
    case measure=>simp[intOf];omega
   ·have Y:Hid (LR w wr b (x7 (kup K (k+1)) ⟨#[]⟩ 0 0 0 ⟨#[]⟩ (.slice none 0 0))):=by
     have e:kup K (k+1)=kup K k:=by
      unfold kup
      by_cases h:K<k
      ·rw[zc3 h,zc3 (by omega)]
      ·rw[zc2 h,zc2 (by omega)]
     rw[e];exact HL.out
    rw[zf5 he] at hc;generalize kup K k=KU at *;generalize (⟨(wl k).toArray⟩:ByteArray)=WK at *;clear he;go_wp2;go_roundw
    case rel=>exact⟨k+1,by omega,by omega,by go_num,Y.out⟩
    case measure=>simp[intOf];omega
  ·obtain rfl:k=5:=by omega
   have ag:kup K 5=K:=by unfold kup;rw[zc3 (by omega)]
   rw[ag] at HL;clear ag;have aD:_=some (Value.int .i64 K):=HL.out.x.cell 0;go_wp2_with fail;refine(C.out _).mono ?_;rintro e wB ⟨rfl,hb⟩;have p:=zH (HL.out.step hb);clear hb C HL;have aB:_=some (Value.int .i64 K):=p.out.x.cell 0;have aC:_=some (Value.string ⟨#[]⟩):=p.out.x.cell 1;have aE:=p.out.x.frozen 1;have R:Hid (LR w (wB.setCell ⟨b,1,none⟩ (.string nm)) b (x7 K nm 0 0 0 ⟨#[]⟩ (.slice none 0 0))):=p.out.set 1 (.string nm);have y0:(wB.setCell ⟨b,1,none⟩ (.string nm)).cell? ⟨b,0,none⟩=some (.int .i64 K):=R.out.x.cell 0;clear p aD;go_wp2_with fail;generalize wB.setCell ⟨b,1,none⟩ (.string nm)=W2 at *;clear aB aC aE;refine(X.out _).mono ?_;rintro e wC ⟨rfl,hb⟩;have U:=zH (R.out.step hb);have a9:=zH (aa.out _ U.out.B);clear hb X R y0 aa;go_wp2_with fail;refine a9.out.mono ?_;rintro e wD ⟨rfl,hb⟩;have a7:=zH (U.out.step hb);have kv:=Blk.new wD 91 #[(0:Int),(0:Int),(0:Int)];have ae:zB wD (wD.alloc (.cells #[(0:Int),(0:Int),(0:Int)] 91)):=zF.alloc zN _;have HL:=zH (a7.out.step ae);have ar:=zH kv;clear hb ae U a7 a9 kv;have a5:=zH (Xm ke (wD.alloc (.cells #[(0:Int),(0:Int),(0:Int)] 91)));clear ar;go_wp2_with fail;generalize wD.alloc (.cells #[(0:Int),(0:Int),(0:Int)] 91)=W5 at *;refine a5.out.mono ?_;rintro e wE ⟨rfl,ac⟩;have hE:=HL.out.step ac;have aF:_=some (Value.int .i64 0):=hE.z.cell 0;have aG:_=some (Value.string ⟨#[]⟩):=hE.z.cell 1;have aH:_=some (Value.int .i64 0):=hE.z.cell 2;have aI:_=some (Value.int .i64 0):=hE.z.cell 3;have aJ:_=some (Value.int .i64 0):=hE.z.cell 4;have aK:_=some (Value.string ⟨#[]⟩):=hE.z.cell 5;have aL:_=some (Value.slice none 0 0):=hE.z.cell 6;have aM:=hE.z.frozen 0;have aN:=hE.z.frozen 1;have aO:=hE.z.frozen 2;have aP:=hE.z.frozen 3;have aQ:=hE.z.frozen 4;have aR:=hE.z.frozen 5;have aS:=hE.z.frozen 6;have av:_=some (Value.int .i64 0):=hE.f.cell 0;have aw:_=some (Value.int .i64 0):=hE.f.cell 1;have ax:=hE.f.frozen 0;have ay:=hE.f.frozen 1;obtain⟨Z,hZ,qz,qf,qB,-⟩:=hE.done (.int .i64 0) (.string ⟨#[]⟩) (.int .i64 0) (.int .i64 0) (.int .i64 0) (.string ⟨#[]⟩) (.slice none 0 0) (.int .i64 ke) (.int .i64 (-1));have HZ:=zH hZ;have j:=zH qz;have a8:=zH qf;have au:=zH qB;clear hZ qz qf qB hE ac a5 HL;go_wp2;clear aF aG aH aI aJ aK aL aM aN aO aP aQ aR aS av aw ax ay;rw[HZ.out];have r0:=j.out.cell 0;have r1:=j.out.cell 1;have r2:=j.out.cell 2;have r3:=j.out.cell 3;have r4:=j.out.cell 4;have r5:=j.out.cell 5;have r6:=j.out.cell 6;have s0:=a8.out.cell 0;have s1:=a8.out.cell 1;refine zc4 (v:=.tuple #[.agg z7,.agg #[ke,.int .i64 (-1)]]) (by simp[results,Tryz.results33,go_sem,r0,r1,r2,r3,r4,r5,r6,s0,s1]) rfl ?_;exact⟨Xl,none,0,ke,-1,rfl,xM _,Zu,fun g hg=>by simp[Value.ownBlock] at hg,au.out,rfl,rfl,rfl⟩
end
section
open Go.Shelf Sv
theorem zlN(s:ByteArray)(w:World)(hs:s.size<=100000)(hw:Lb w)(hF:yA w)(ad:Addr)(cap:Nat)(hK:xe w ad cap)(hk:zI (zb s 32).1=1)(va vb vc:Nat)(hver:zO (zb (zb (zb s 32).2 32).2 32).1=.ok [va,vb,vc])(hr:(zb (zb (zb s 32).2 32).2 32).2.size≠0):zC 33 #[s] w (Qy w (.error (3,none))):=by
 have k0:=(Blk.new w 94 z7).alloc (.cells #[(0:Int),(0:Int)] 55);have k1:=Blk.new (w.alloc (.cells z7 94)) 55 #[(0:Int),(0:Int)];rw[zc1] at k1;have ah:zB w ((w.alloc (.cells z7 94)).alloc (.cells #[(0:Int),(0:Int)] 55)):=((zf0 _ w).alloc zN _).alloc (by simp) _;have U:=zH k0;have y:=zH k1;have a9:=zH ah;have J:=zH (fun W=>yu s W hs);have aq:=(qC s 32).2;have aZ:=zH hw;have aY:=zH hF;have av:=zH hK;obtain⟨w1,aF⟩:∃w1,(zb s 32).1=w1:=⟨_,rfl⟩;obtain⟨s2,a5⟩:∃s2,(zb s 32).2=s2:=⟨_,rfl⟩;rw[aF] at hk J;rw[a5] at aq J;have hz2':s2.size<=100000:=by omega
 have ab:Hid (∀k,1<=k->k<=4->((⟨(wl k).toArray⟩:ByteArray).toList==w1.toList)=decide (zI w1=k)):=fun k h1 h4=>QO h1 h4;rw[hk] at ab;have K:=zH (fun W=>yu s2 W hz2');have ar:=(qC s2 32).2;obtain⟨nm,an⟩:∃nm,(zb s2 32).1=nm:=⟨_,rfl⟩;obtain⟨s3,R⟩:∃s3,(zb s2 32).2=s3:=⟨_,rfl⟩;rw[an] at K;rw[R] at ar K;have hz3':s3.size<=100000:=by omega
 have a0:=zH (fun W=>yu s3 W hz3');have au:=qC s3 32;obtain⟨vw,a7⟩:∃vw,(zb s3 32).1=vw:=⟨_,rfl⟩;obtain⟨s4,a6⟩:∃s4,(zb s3 32).2=s4:=⟨_,rfl⟩;rw[a7,a6] at au a0;have hz4':s4.size<=100000:=by omega
 have o:∀W,zB w W->zR 75 #[.string vw] W (QI (zO vw)):=fun W hb=>yU yP vw W (by omega) (hw.below hb);rw[a5,R,a7] at hver;rw[hver] at o;have ag:Hid (∀W,zB w W->zR 75 #[.string vw] W (.tuple #[.agg #[va,vb,vc],(0:Int)])):=o;clear o hver;have u:=R;clear ar au an R a7;rw[a5,show (zb s2 32).2=s3 from u,a6] at hr;have b1:(s4.toList==[])=false:=by
  rw[zf2,ByteArray.toList_eq];intro e;have:=zsj List.length e;simp at this;exact hr (by rw[this];rfl)
 clear hr u a6;clear k0 k1 ah hw hF hK aq hs;go_enter ztT,ztC;go_wp2_with fail;generalize (w.alloc (.cells z7 94)).alloc (.cells #[(0:Int),(0:Int)] 55)=W0 at *;refine(J.out _).mono ?_;rintro e wA ⟨rfl,a3⟩;have hx:=Blk.new wA 94 z7;have hA:zB wA (wA.alloc (.cells z7 94)):=zF.alloc zN _;have M:zB W0 (wA.alloc (.cells z7 94)):=zT a3 hA;have q:LR w (wA.alloc (.cells z7 94)) wA.heap.size z7:=⟨U.out.below M U.out.lt,y.out.below M y.out.lt,hx,zc6 y.out.lt a3.size,zT a9.out M⟩;have Y:=zH q;clear a3 hx hA M q J U y a9;go_wp2_with fail;generalize wA.alloc (.cells z7 94)=W1 at *;obtain⟨b,hb⟩:∃b,wA.heap.size=b:=⟨_,rfl⟩;rw[hb] at Y ⊢;clear hb;go_loopw [7] (fun kV wr=>∃k:Nat,1<=k/\k<=5/\kV=.int .i64 k/\LR w wr b (x7 (kup 1 k) ⟨#[]⟩ 0 0 0 ⟨#[]⟩ (.slice none 0 0))) (fun kV _=>5-(intOf kV).toNat)
 case atStart=>exact⟨1,by omega,by omega,rfl,by rw[show kup 1 1=0 by unfold kup;split<;>omega];exact Y.out⟩
 case round =>
  clear Y;obtain⟨k,aE,b0,rfl,q⟩:=hrel;have HL:=zH q;clear q
  by_cases hlt:k<=4
  ·have a4:=av.out.below HL.out.B;have g0:=a4.c;have g1:=a4.s k (by omega);have hc:=ab.out k aE hlt;have x0:_=some (Value.int .i64 ((kup 1 k:Nat):Int)):=HL.out.x.cell 0;have xf:=HL.out.x.frozen 0;clear a4
   by_cases he:1=k
   ·have ao:=HL.out.set 0 (.int .i64 k);have a1:Hid (LR w (wr.setCell ⟨b,0,none⟩ (.int .i64 k)) b (x7 (kup 1 (k+1)) ⟨#[]⟩ 0 0 0 ⟨#[]⟩ (.slice none 0 0))):=by
     have e:kup 1 (k+1)=k:=by unfold kup;rw[zc3 (by omega)];exact he
     rw[e];exact ao
    rw[zq9 he] at hc;generalize kup 1 k=KU at *;generalize (⟨(wl k).toArray⟩:ByteArray)=WK at *;clear ao he;go_wp2;go_roundw
    case rel=>exact⟨k+1,by omega,by omega,by go_num,a1.out⟩
    case measure=>simp[intOf];omega
   ·have a1:Hid (LR w wr b (x7 (kup 1 (k+1)) ⟨#[]⟩ 0 0 0 ⟨#[]⟩ (.slice none 0 0))):=by
     have e:kup 1 (k+1)=kup 1 k:=by
      unfold kup
      by_cases h:1<k
      ·rw[zc3 h,zc3 (by omega)]
      ·rw[zc2 h,zc2 (by omega)]
     rw[e];exact HL.out
    rw[zf5 he] at hc;generalize kup 1 k=KU at *;generalize (⟨(wl k).toArray⟩:ByteArray)=WK at *;clear he;go_wp2;go_roundw
    case rel=>exact⟨k+1,by omega,by omega,by go_num,a1.out⟩
    case measure=>simp[intOf];omega
  ·obtain rfl:k=5:=by omega
   have am:kup 1 5=1:=by unfold kup;rw[zc3 (by omega)]
   rw[am] at HL;clear am;have aI:_=some (Value.int .i64 (1:Int)):=HL.out.x.cell 0;go_wp2_with fail;refine(K.out _).mono ?_;rintro e wB ⟨rfl,hb⟩;have p:=zH (HL.out.step hb);clear hb K HL;have aG:_=some (Value.int .i64 1):=p.out.x.cell 0;have aH:_=some (Value.string ⟨#[]⟩):=p.out.x.cell 1;have aJ:=p.out.x.frozen 1;have V:Hid (LR w (wB.setCell ⟨b,1,none⟩ (.string nm)) b (x7 1 nm 0 0 0 ⟨#[]⟩ (.slice none 0 0))):=p.out.set 1 (.string nm);have y0:(wB.setCell ⟨b,1,none⟩ (.string nm)).cell? ⟨b,0,none⟩=some (.int .i64 1):=V.out.x.cell 0;clear p aI;go_wp2_with fail;generalize wB.setCell ⟨b,1,none⟩ (.string nm)=W2 at *;clear aG aH aJ;refine(a0.out _).mono ?_;rintro e wC ⟨rfl,hb⟩;have X:=zH (V.out.step hb);have af:=zH (ag.out _ X.out.B);clear hb a0 V y0 ag;go_wp2_with fail;refine af.out.mono ?_;rintro e wD ⟨rfl,hb⟩;have ac:=zH (X.out.step hb);have kv:=Blk.new wD 91 #[va,vb,vc];have ak:zB wD (wD.alloc (.cells #[va,vb,vc] 91)):=zF.alloc zN _;have HL:=zH (ac.out.step ak);have C:=zH kv;clear hb ak X ac af kv;have v0:=C.out.cell 0;have v1:=C.out.cell 1;have v2:=C.out.cell 2;have e0:(wD.alloc (.cells #[va,vb,vc] 91)).cell? ⟨b,0,none⟩=some (.int .i64 1):=HL.out.x.cell 0;have e2:(wD.alloc (.cells #[va,vb,vc] 91)).cell? ⟨b,2,none⟩=some (.int .i64 0):=HL.out.x.cell 2;have e3:(wD.alloc (.cells #[va,vb,vc] 91)).cell? ⟨b,3,none⟩=some (.int .i64 0):=HL.out.x.cell 3;have e4:(wD.alloc (.cells #[va,vb,vc] 91)).cell? ⟨b,4,none⟩=some (.int .i64 0):=HL.out.x.cell 4;have ax:=HL.out.x.frozen 2;have ay:=HL.out.x.frozen 3;have az:=HL.out.x.frozen 4;have a8:=(((HL.out.set 2 (.int .i64 va)).set 3 (.int .i64 vb)).set 4 (.int .i64 vc));have a2:Hid (LR w ((((wD.alloc (.cells #[va,vb,vc] 91)).setCell ⟨b,2,none⟩ (.int .i64 va)).setCell ⟨b,3,none⟩ (.int .i64 vb)).setCell ⟨b,4,none⟩ (.int .i64 vc)) b (x7 1 nm (va:Int) (vb:Int) (vc:Int) ⟨#[]⟩ (.slice none 0 0))):=a8;have m0:((((wD.alloc (.cells #[va,vb,vc] 91)).setCell ⟨b,2,none⟩ (.int .i64 va)).setCell ⟨b,3,none⟩ (.int .i64 vb)).setCell ⟨b,4,none⟩ (.int .i64 vc)).cell? ⟨b,0,none⟩=some (.int .i64 1):=a8.x.cell 0;clear a8 HL;go_upto_region 17 with fail;obtain⟨W5,ai⟩:∃W5,((((wD.alloc (.cells #[va,vb,vc] 91)).setCell ⟨b,2,none⟩ (.int .i64 va)).setCell ⟨b,3,none⟩ (.int .i64 vb)).setCell ⟨b,4,none⟩ (.int .i64 vc))=W5:=⟨_,rfl⟩;rw[ai] at a2 m0 ⊢;clear ai v0 v1 v2 e0 e2 e3 e4 ax ay az C;have HL:=a2;clear a2;have aa:=zH (Xm 3 W5);go_wp2_with fail;refine aa.out.mono ?_;rintro e wE ⟨rfl,aj⟩;have hE:=HL.out.step aj;have aK:_=some (Value.int .i64 0):=hE.z.cell 0;have aL:_=some (Value.string ⟨#[]⟩):=hE.z.cell 1;have aM:_=some (Value.int .i64 0):=hE.z.cell 2;have aN:_=some (Value.int .i64 0):=hE.z.cell 3;have aO:_=some (Value.int .i64 0):=hE.z.cell 4;have aP:_=some (Value.string ⟨#[]⟩):=hE.z.cell 5;have aQ:_=some (Value.slice none 0 0):=hE.z.cell 6;have aR:=hE.z.frozen 0;have aS:=hE.z.frozen 1;have aT:=hE.z.frozen 2;have aU:=hE.z.frozen 3;have aV:=hE.z.frozen 4;have aW:=hE.z.frozen 5;have aX:=hE.z.frozen 6;have aA:_=some (Value.int .i64 0):=hE.f.cell 0;have aB:_=some (Value.int .i64 0):=hE.f.cell 1;have aC:=hE.f.frozen 0;have aD:=hE.f.frozen 1;obtain⟨Z,hZ,qz,qf,qB,-⟩:=hE.done (.int .i64 0) (.string ⟨#[]⟩) (.int .i64 0) (.int .i64 0) (.int .i64 0) (.string ⟨#[]⟩) (.slice none 0 0) (.int .i64 3) (.int .i64 (-1));have HZ:=zH hZ;have j:=zH qz;have ae:=zH qf;have aw:=zH qB;clear hZ qz qf qB hE aj aa HL;go_wp2;clear aK aL aM aN aO aP aQ aR aS aT aU aV aW aX aA aB aC aD;rw[HZ.out];have r0:=j.out.cell 0;have r1:=j.out.cell 1;have r2:=j.out.cell 2;have r3:=j.out.cell 3;have r4:=j.out.cell 4;have r5:=j.out.cell 5;have r6:=j.out.cell 6;have s0:=ae.out.cell 0;have s1:=ae.out.cell 1;refine zc4 (v:=.tuple #[.agg z7,.agg #[(3:Int),.int .i64 (-1)]]) (by simp[results,Tryz.results33,go_sem,r0,r1,r2,r3,r4,r5,r6,s0,s1]) rfl ?_;exact⟨Xl,none,0,3,-1,rfl,xM _,Zu,fun g hg=>by simp[Value.ownBlock] at hg,aw.out,rfl,rfl,rfl⟩
theorem zhs(s:ByteArray)(w:World)(hs:s.size<=100000)(hw:Lb w)(hF:yA w)(ad:Addr)(cap:Nat)(hK:xe w ad cap)(hk:zI (zb s 32).1=1)(va vb vc:Nat)(hver:zO (zb (zb (zb s 32).2 32).2 32).1=.ok [va,vb,vc])(hr:(zb (zb (zb s 32).2 32).2 32).2.size=0):zC 33 #[s] w (Qy w (.ok ⟨1,(zb (zb s 32).2 32).1,(va:Int),(vb:Int),(vc:Int),⟨#[]⟩,[]⟩)):=by
 have k0:=(Blk.new w 94 z7).alloc (.cells #[(0:Int),(0:Int)] 55);have k1:=Blk.new (w.alloc (.cells z7 94)) 55 #[(0:Int),(0:Int)];rw[zc1] at k1;have aj:zB w ((w.alloc (.cells z7 94)).alloc (.cells #[(0:Int),(0:Int)] 55)):=((zf0 _ w).alloc zN _).alloc (by simp) _;have U:=zH k0;have u:=zH k1;have ab:=zH aj;have C:=zH (fun W=>yu s W hs);have aq:=(qC s 32).2;have b8:=zH hw;have ac:=zH hF;have av:=zH hK;obtain⟨w1,aI⟩:∃w1,(zb s 32).1=w1:=⟨_,rfl⟩;obtain⟨s2,M⟩:∃s2,(zb s 32).2=s2:=⟨_,rfl⟩;rw[aI] at hk C;rw[M] at aq C;have hz2':s2.size<=100000:=by omega
 have ae:Hid (∀k,1<=k->k<=4->((⟨(wl k).toArray⟩:ByteArray).toList==w1.toList)=decide (zI w1=k)):=fun k h1 h4=>QO h1 h4;rw[hk] at ae;have J:=zH (fun W=>yu s2 W hz2');have ar:=(qC s2 32).2;obtain⟨nm,a7⟩:∃nm,(zb s2 32).1=nm:=⟨_,rfl⟩;obtain⟨s3,R⟩:∃s3,(zb s2 32).2=s3:=⟨_,rfl⟩;rw[a7] at J;rw[R] at ar J;have hz3':s3.size<=100000:=by omega
 have a0:=zH (fun W=>yu s3 W hz3');have au:=qC s3 32;obtain⟨vw,a9⟩:∃vw,(zb s3 32).1=vw:=⟨_,rfl⟩;obtain⟨s4,a8⟩:∃s4,(zb s3 32).2=s4:=⟨_,rfl⟩;rw[a9,a8] at au a0;have hz4':s4.size<=100000:=by omega
 have o:∀W,zB w W->zR 75 #[.string vw] W (QI (zO vw)):=fun W hb=>yU yP vw W (by omega) (hw.below hb);rw[M,R,a9] at hver;rw[hver] at o;have ai:Hid (∀W,zB w W->zR 75 #[.string vw] W (.tuple #[.agg #[va,vb,vc],(0:Int)])):=o;clear o hver;rw[M,R,a8] at hr;rw[M,a7];have bb:(s4.toList==[])=true:=by
  rw[ztW,ByteArray.toList_eq];exact zsT.1 (by rw[zsZ];exact hr)
 clear ar au a7 R a9 hr a8;clear k0 k1 aj hw hF hK aq hs;go_enter ztT,ztC;go_wp2_with fail;generalize (w.alloc (.cells z7 94)).alloc (.cells #[(0:Int),(0:Int)] 55)=W0 at *;refine(C.out _).mono ?_;rintro e wA ⟨rfl,a3⟩;have hx:=Blk.new wA 94 z7;have hA:zB wA (wA.alloc (.cells z7 94)):=zF.alloc zN _;have K:zB W0 (wA.alloc (.cells z7 94)):=zT a3 hA;have q:LR w (wA.alloc (.cells z7 94)) wA.heap.size z7:=⟨U.out.below K U.out.lt,u.out.below K u.out.lt,hx,zc6 u.out.lt a3.size,zT ab.out K⟩;have Y:=zH q;clear a3 hx hA K q C U u ab;go_wp2_with fail;generalize wA.alloc (.cells z7 94)=W1 at *;obtain⟨b,hb⟩:∃b,wA.heap.size=b:=⟨_,rfl⟩;rw[hb] at Y ⊢;clear hb;go_loopw [7] (fun kV wr=>∃k:Nat,1<=k/\k<=5/\kV=.int .i64 k/\LR w wr b (x7 (kup 1 k) ⟨#[]⟩ 0 0 0 ⟨#[]⟩ (.slice none 0 0))) (fun kV _=>5-(intOf kV).toNat)
 case atStart=>exact⟨1,by omega,by omega,rfl,by rw[show kup 1 1=0 by unfold kup;split<;>omega];exact Y.out⟩
 case round =>
  clear Y;obtain⟨k,aG,ba,rfl,q⟩:=hrel;have HL:=zH q;clear q
  by_cases hlt:k<=4
  ·have a6:=av.out.below HL.out.B;have g0:=a6.c;have g1:=a6.s k (by omega);have hc:=ae.out k aG hlt;have x0:_=some (Value.int .i64 ((kup 1 k:Nat):Int)):=HL.out.x.cell 0;have xf:=HL.out.x.frozen 0;clear a6
   by_cases he:1=k
   ·have ao:=HL.out.set 0 (.int .i64 k);have a1:Hid (LR w (wr.setCell ⟨b,0,none⟩ (.int .i64 k)) b (x7 (kup 1 (k+1)) ⟨#[]⟩ 0 0 0 ⟨#[]⟩ (.slice none 0 0))):=by
     have e:kup 1 (k+1)=k:=by unfold kup;rw[zc3 (by omega)];exact he
     rw[e];exact ao
    rw[zq9 he] at hc;generalize kup 1 k=KU at *;generalize (⟨(wl k).toArray⟩:ByteArray)=WK at *;clear ao he;go_wp2;go_roundw
    case rel=>exact⟨k+1,by omega,by omega,by go_num,a1.out⟩
    case measure=>simp[intOf];omega
   ·have a1:Hid (LR w wr b (x7 (kup 1 (k+1)) ⟨#[]⟩ 0 0 0 ⟨#[]⟩ (.slice none 0 0))):=by
     have e:kup 1 (k+1)=kup 1 k:=by
      unfold kup
      by_cases h:1<k
      ·rw[zc3 h,zc3 (by omega)]
      ·rw[zc2 h,zc2 (by omega)]
     rw[e];exact HL.out
    rw[zf5 he] at hc;generalize kup 1 k=KU at *;generalize (⟨(wl k).toArray⟩:ByteArray)=WK at *;clear he;go_wp2;go_roundw
    case rel=>exact⟨k+1,by omega,by omega,by go_num,a1.out⟩
    case measure=>simp[intOf];omega
  ·obtain rfl:k=5:=by omega
   have an:kup 1 5=1:=by unfold kup;rw[zc3 (by omega)]
   rw[an] at HL;clear an;have aL:_=some (Value.int .i64 (1:Int)):=HL.out.x.cell 0;go_wp2_with fail;refine(J.out _).mono ?_;rintro e wB ⟨rfl,hb⟩;have p:=zH (HL.out.step hb);clear hb J HL;have aJ:_=some (Value.int .i64 1):=p.out.x.cell 0;have aK:_=some (Value.string ⟨#[]⟩):=p.out.x.cell 1;have aM:=p.out.x.frozen 1;have V:Hid (LR w (wB.setCell ⟨b,1,none⟩ (.string nm)) b (x7 1 nm 0 0 0 ⟨#[]⟩ (.slice none 0 0))):=p.out.set 1 (.string nm);have y0:(wB.setCell ⟨b,1,none⟩ (.string nm)).cell? ⟨b,0,none⟩=some (.int .i64 1):=V.out.x.cell 0;clear p aL;go_wp2_with fail;generalize wB.setCell ⟨b,1,none⟩ (.string nm)=W2 at *;clear aJ aK aM;refine(a0.out _).mono ?_;rintro e wC ⟨rfl,hb⟩;have X:=zH (V.out.step hb);have ah:=zH (ai.out _ X.out.B);clear hb a0 V y0 ai;go_wp2_with fail;refine ah.out.mono ?_;rintro e wD ⟨rfl,hb⟩;have af:=zH (X.out.step hb);have kv:=Blk.new wD 91 #[va,vb,vc];have am:zB wD (wD.alloc (.cells #[va,vb,vc] 91)):=zF.alloc zN _;have HL:=zH (af.out.step am);have y:=zH kv;clear hb am X af ah kv;have v0:=y.out.cell 0;have v1:=y.out.cell 1;have v2:=y.out.cell 2;have e0:(wD.alloc (.cells #[va,vb,vc] 91)).cell? ⟨b,0,none⟩=some (.int .i64 1):=HL.out.x.cell 0;have e2:(wD.alloc (.cells #[va,vb,vc] 91)).cell? ⟨b,2,none⟩=some (.int .i64 0):=HL.out.x.cell 2;have e3:(wD.alloc (.cells #[va,vb,vc] 91)).cell? ⟨b,3,none⟩=some (.int .i64 0):=HL.out.x.cell 3;have e4:(wD.alloc (.cells #[va,vb,vc] 91)).cell? ⟨b,4,none⟩=some (.int .i64 0):=HL.out.x.cell 4;have ax:=HL.out.x.frozen 2;have ay:=HL.out.x.frozen 3;have az:=HL.out.x.frozen 4;have aa:=(((HL.out.set 2 (.int .i64 va)).set 3 (.int .i64 vb)).set 4 (.int .i64 vc));have a2:Hid (LR w ((((wD.alloc (.cells #[va,vb,vc] 91)).setCell ⟨b,2,none⟩ (.int .i64 va)).setCell ⟨b,3,none⟩ (.int .i64 vb)).setCell ⟨b,4,none⟩ (.int .i64 vc)) b (x7 1 nm (va:Int) (vb:Int) (vc:Int) ⟨#[]⟩ (.slice none 0 0))):=aa;have m0:((((wD.alloc (.cells #[va,vb,vc] 91)).setCell ⟨b,2,none⟩ (.int .i64 va)).setCell ⟨b,3,none⟩ (.int .i64 vb)).setCell ⟨b,4,none⟩ (.int .i64 vc)).cell? ⟨b,0,none⟩=some (.int .i64 1):=aa.x.cell 0;clear aa HL;go_upto_region 17 with fail;obtain⟨W5,ak⟩:∃W5,((((wD.alloc (.cells #[va,vb,vc] 91)).setCell ⟨b,2,none⟩ (.int .i64 va)).setCell ⟨b,3,none⟩ (.int .i64 vb)).setCell ⟨b,4,none⟩ (.int .i64 vc))=W5:=⟨_,rfl⟩;rw[ak] at a2 m0 ⊢;clear ak v0 v1 v2 e0 e2 e3 e4 ax ay az y;have HE:=a2;clear a2;have a5:=ac.out.below HE.out.B;have aE:W5.cell? ⟨0,0,none⟩=some (.int .i64 0):=a5.c0;have aF:W5.cell? ⟨0,1,none⟩=some (.int .i64 (-1)):=a5.c1;have a4:=HE.out.ne;have aH:=ac.out.lt;have n1:¬0=w.heap.size:=by omega
   have n2:¬b=w.heap.size:=by omega
   have n3:¬b=w.heap.size+1:=by omega
   have n4:¬w.heap.size=0:=by omega
   clear a4 aH;have aU:_=some (Value.int .i64 0):=HE.out.z.cell 0;have aV:_=some (Value.string ⟨#[]⟩):=HE.out.z.cell 1;have aW:_=some (Value.int .i64 0):=HE.out.z.cell 2;have aX:_=some (Value.int .i64 0):=HE.out.z.cell 3;have aY:_=some (Value.int .i64 0):=HE.out.z.cell 4;have aZ:_=some (Value.string ⟨#[]⟩):=HE.out.z.cell 5;have b0:_=some (Value.slice none 0 0):=HE.out.z.cell 6;have b1:=HE.out.z.frozen 0;have b2:=HE.out.z.frozen 1;have b3:=HE.out.z.frozen 2;have b4:=HE.out.z.frozen 3;have b5:=HE.out.z.frozen 4;have b6:=HE.out.z.frozen 5;have b7:=HE.out.z.frozen 6;have aA:_=some (Value.int .i64 0):=HE.out.f.cell 0;have aB:_=some (Value.int .i64 0):=HE.out.f.cell 1;have aC:=HE.out.f.frozen 0;have aD:=HE.out.f.frozen 1;have aN:_=some (Value.int .i64 1):=HE.out.x.cell 0;have aO:_=some (Value.string nm):=HE.out.x.cell 1;have aP:_=some (Value.int .i64 va):=HE.out.x.cell 2;have aQ:_=some (Value.int .i64 vb):=HE.out.x.cell 3;have aR:_=some (Value.int .i64 vc):=HE.out.x.cell 4;have aS:_=some (Value.string ⟨#[]⟩):=HE.out.x.cell 5;have aT:_=some (Value.slice none 0 0):=HE.out.x.cell 6;obtain⟨Z,hZ,qz,qf,qB,qN⟩:=HE.out.done (.int .i64 1) (.string nm) (.int .i64 va) (.int .i64 vb) (.int .i64 vc) (.string ⟨#[]⟩) (.slice none 0 0) (.int .i64 0) (.int .i64 (-1));have HZ:=zH hZ;have j:=zH qz;have ag:=zH qf;have aw:=zH qB;have b9:=zH qN;clear hZ qz qf qB qN a5;go_wp2_with fail;go_big_region;clear aE aF n1 n2 n3 n4;clear aU aV aW aX aY aZ b0 b1 b2 b3 b4 b5 b6 b7 aA aB aC aD;clear aN aO aP aQ aR aS aT;rw[HZ.out];go_wp2;have r0:=j.out.cell 0;have r1:=j.out.cell 1;have r2:=j.out.cell 2;have r3:=j.out.cell 3;have r4:=j.out.cell 4;have r5:=j.out.cell 5;have r6:=j.out.cell 6;have s0:=ag.out.cell 0;have s1:=ag.out.cell 1;refine zc4 (v:=.tuple #[.agg #[(1:Int),.string nm,va,vb,vc,.string ⟨#[]⟩,(.slice none 0 0)],.agg #[(0:Int),.int .i64 (-1)]]) (by simp[results,Tryz.results33,go_sem,r0,r1,r2,r3,r4,r5,r6,s0,s1]) rfl ?_;refine⟨⟨1,nm,(va:Int),(vb:Int),(vc:Int),⟨#[]⟩,[]⟩,none,0,0,-1,rfl,xM _,Zu,fun g hg=>by simp[Value.ownBlock] at hg,aw.out.drew,rfl,rfl,rfl⟩
end
section
open Go.Shelf Sv
theorem zpB{s:ByteArray}{k:Int}{i:Nat}(h:Zr s=.error (k,i)):k≠0:=by
 unfold Zr at h;have pe:∀{t:ByteArray} {p:Nat} {k:Int} {i:Nat},yQ t p=.error (k,i)->k≠0:=by
  intro t p k i h;unfold yQ at h;have we:∀{l:List (Nat × ByteArray)} {st:List zf × Nat} {k:Int} {i:Nat},qH l st=.error (k,i)->k≠0:=by
   intro l
   induction l with
   |nil=>intro st k i h;cases h
   |cons x l ih =>
    intro st k i h;unfold qH at h;split at h
    ·exact ih h
    ·split at h
     ·rename_i hw;cases h;exact zdL hw
     ·exact ih h
  split at h
  ·rename_i hw;cases h;exact we hw
  ·split at h
   ·cases h;decide
   ·cases h
 have go:∀{l:List (Nat × ByteArray)} {j:List zf} {k:Int} {i:Nat},qW l j=.error (k,i)->k≠0:=by
  intro l
  induction l with
  |nil=>intro j k i h;cases h
  |cons x l ih =>
   intro j k i h;unfold qW at h;split at h
   ·rename_i hp;cases h;exact pe hp
   ·exact ih h
 exact go h
end
section
open Go.Shelf Sv
theorem zbr{s:ByteArray}{q:Int}{o:Option Nat}(h:xz s=.error (q,o)):q≠0:=by
 unfold xz at h;split at h
 ·cases h;decide
 ·split at h
  ·rename_i hx;cases h;exact zpB hx
  ·cases h
theorem zhu(s:ByteArray)(w:World)(hs:s.size<=100000)(hw:Lb w)(hF:yA w)(ad:Addr)(cap:Nat)(hK:xe w ad cap)(hk:zI (zb s 32).1=4)(q:Int)(o:Option Nat)(hrg:xz (zb (zb s 32).2 32).2=.error (q,o)):zC 33 #[s] w (Qy w (.error (q,o))):=by
 have k0:=(Blk.new w 94 z7).alloc (.cells #[(0:Int),(0:Int)] 55);have k1:=Blk.new (w.alloc (.cells z7 94)) 55 #[(0:Int),(0:Int)];rw[zc1] at k1;have a9:zB w ((w.alloc (.cells z7 94)).alloc (.cells #[(0:Int),(0:Int)] 55)):=((zf0 _ w).alloc zN _).alloc (by simp) _;have U:=zH k0;have J:=zH k1;have a5:=zH a9;have K:=zH (fun W=>yu s W hs);have ag:=(qC s 32).2;have aW:=zH hw;have aV:=zH hF;have aj:=zH hK;obtain⟨w1,aB⟩:∃w1,(zb s 32).1=w1:=⟨_,rfl⟩;obtain⟨s2,ae⟩:∃s2,(zb s 32).2=s2:=⟨_,rfl⟩;rw[aB] at hk K;rw[ae] at ag K;have hz2':s2.size<=100000:=by omega
 have a6:Hid (∀k,1<=k->k<=4->((⟨(wl k).toArray⟩:ByteArray).toList==w1.toList)=decide (zI w1=k)):=fun k h1 h4=>QO h1 h4;rw[hk] at a6;have M:=zH (fun W=>yu s2 W hz2');have ah:=(qC s2 32).2;obtain⟨nm,ab⟩:∃nm,(zb s2 32).1=nm:=⟨_,rfl⟩;obtain⟨s3,a4⟩:∃s3,(zb s2 32).2=s3:=⟨_,rfl⟩;rw[ab] at M;rw[a4] at ah M;have hz3':s3.size<=100000:=by omega
 rw[ae,a4] at hrg;have ac:=zbr hrg;obtain⟨pp,a3⟩:∃pp,Yn o=pp:=⟨_,rfl⟩;have a8:Hid (∀W,zB w W->zC 76 #[.string s3] W fun e w'=>∃(l:List zf) (a:Option Addr) (c:Nat) (k p:Int),e=.returned (.tuple #[.slice a (tp l).length c,.agg #[.int .i64 k,p]])/\zE w' (.slice a (tp l).length c) (tp l)/\Rg l/\(∀g,(Value.slice a (tp l).length c).ownBlock=some g->W.heap.size<=g)/\zB W w'/\l=[]/\k=q/\p=pp):=fun W hb=>by have:=JQ s3 W (by omega) (hw.below hb) (hF.below hb);rw[hrg] at this;rw[<-a3];exact this
 have am:=zH a3;clear hrg a3;clear ah a4 ab;clear k0 k1 a9 hw hF hK ag hs;go_enter ztT,ztC;go_wp2_with fail;generalize (w.alloc (.cells z7 94)).alloc (.cells #[(0:Int),(0:Int)] 55)=W0 at *;refine(K.out _).mono ?_;rintro e wA ⟨rfl,a0⟩;have hx:=Blk.new wA 94 z7;have hA:zB wA (wA.alloc (.cells z7 94)):=zF.alloc zN _;have R:zB W0 (wA.alloc (.cells z7 94)):=zT a0 hA;have y:LR w (wA.alloc (.cells z7 94)) wA.heap.size z7:=⟨U.out.below R U.out.lt,J.out.below R J.out.lt,hx,zc6 J.out.lt a0.size,zT a5.out R⟩;have X:=zH y;clear a0 hx hA R y K U J a5;go_wp2_with fail;generalize wA.alloc (.cells z7 94)=W1 at *;obtain⟨b,hb⟩:∃b,wA.heap.size=b:=⟨_,rfl⟩;rw[hb] at X ⊢;clear hb;go_loopw [7] (fun kV wr=>∃k:Nat,1<=k/\k<=5/\kV=.int .i64 k/\LR w wr b (x7 (kup 4 k) ⟨#[]⟩ 0 0 0 ⟨#[]⟩ (.slice none 0 0))) (fun kV _=>5-(intOf kV).toNat)
 case atStart=>exact⟨1,by omega,by omega,rfl,by rw[show kup 4 1=0 by unfold kup;split<;>omega];exact X.out⟩
 case round =>
  clear X;obtain⟨k,ax,aX,rfl,y⟩:=hrel;have HL:=zH y;clear y
  by_cases hlt:k<=4
  ·have a2:=aj.out.below HL.out.B;have g0:=a2.c;have g1:=a2.s k (by omega);have hc:=a6.out k ax hlt;have x0:_=some (Value.int .i64 ((kup 4 k:Nat):Int)):=HL.out.x.cell 0;have xf:=HL.out.x.frozen 0;clear a2
   by_cases he:4=k
   ·have af:=HL.out.set 0 (.int .i64 k);have Y:Hid (LR w (wr.setCell ⟨b,0,none⟩ (.int .i64 k)) b (x7 (kup 4 (k+1)) ⟨#[]⟩ 0 0 0 ⟨#[]⟩ (.slice none 0 0))):=by
     have e:kup 4 (k+1)=k:=by unfold kup;rw[zc3 (by omega)];exact he
     rw[e];exact af
    rw[zq9 he] at hc;generalize kup 4 k=KU at *;generalize (⟨(wl k).toArray⟩:ByteArray)=WK at *;clear af he;go_wp2;go_roundw
    case rel=>exact⟨k+1,by omega,by omega,by go_num,Y.out⟩
    case measure=>simp[intOf];omega
   ·have Y:Hid (LR w wr b (x7 (kup 4 (k+1)) ⟨#[]⟩ 0 0 0 ⟨#[]⟩ (.slice none 0 0))):=by
     have e:kup 4 (k+1)=kup 4 k:=by
      unfold kup
      by_cases h:4<k
      ·rw[zc3 h,zc3 (by omega)]
      ·rw[zc2 h,zc2 (by omega)]
     rw[e];exact HL.out
    rw[zf5 he] at hc;generalize kup 4 k=KU at *;generalize (⟨(wl k).toArray⟩:ByteArray)=WK at *;clear he;go_wp2;go_roundw
    case rel=>exact⟨k+1,by omega,by omega,by go_num,Y.out⟩
    case measure=>simp[intOf];omega
  ·obtain rfl:k=5:=by omega
   have aa:kup 4 5=4:=by unfold kup;rw[zc3 (by omega)]
   rw[aa] at HL;clear aa;have aE:_=some (Value.int .i64 (4:Int)):=HL.out.x.cell 0;go_wp2_with fail;refine(M.out _).mono ?_;rintro e wB ⟨rfl,hb⟩;have u:=zH (HL.out.step hb);clear hb M HL;have aC:_=some (Value.int .i64 4):=u.out.x.cell 0;have aD:_=some (Value.string ⟨#[]⟩):=u.out.x.cell 1;have aF:=u.out.x.frozen 1;have V:Hid (LR w (wB.setCell ⟨b,1,none⟩ (.string nm)) b (x7 4 nm 0 0 0 ⟨#[]⟩ (.slice none 0 0))):=u.out.set 1 (.string nm);have y0:(wB.setCell ⟨b,1,none⟩ (.string nm)).cell? ⟨b,0,none⟩=some (.int .i64 4):=V.out.x.cell 0;clear u aE;go_upto_region 11 with fail;generalize wB.setCell ⟨b,1,none⟩ (.string nm)=W2 at *;clear aC aD aF;have HX:=V;clear V;go_wp2_with fail;refine(a8.out _ HX.out.B).mono ?_;rintro e wG ⟨l',ra,rc,k',p',rfl,nl,gl,fl,hb,ay,az,aA⟩;have a1:zB wG (wG.alloc (.cells #[k',p'] 55)):=zF.alloc zN _;have HG:=zH ((HX.out.step hb).step a1);have ak:=zH (nl.below a1 zN);have HQ:=zH (Blk.new wG 55 #[k',p']);have av:=HX.out.x.lt;have C:=HX.out.ne;have aw:=hb.size;have aU:Hid (∀g,(Value.slice ra (tp l').length rc).ownBlock=some g->b<g):=fun g hg=>by have:=fl g hg;omega
   have q0:(wG.alloc (.cells #[k',p'] 55)).cell? wG.heap.size=some (.int .i64 k'):=HQ.out.cell 0;have q1:(wG.alloc (.cells #[k',p'] 55)).cell? ⟨wG.heap.size,1,none⟩=some (.int .i64 p'):=HQ.out.cell 1;have n5:¬wG.heap.size=w.heap.size:=by omega
   have n6:¬wG.heap.size=w.heap.size+1:=by omega
   have n7:¬wG.heap.size=b:=by omega
   have ai:=zH C;clear hb a1 nl fl av C aw HX a8 HQ;subst ay;subst az;subst aA;have hk':(k' != 0)=true:=by simpa using ac
   clear ac;have aG:(wG.alloc (.cells #[k',p'] 55)).cell? w.heap.size=some (.int .i64 0):=HG.out.z.cell 0;have aH:(wG.alloc (.cells #[k',p'] 55)).cell? ⟨w.heap.size,1,none⟩=some (.string ⟨#[]⟩):=HG.out.z.cell 1;have aI:(wG.alloc (.cells #[k',p'] 55)).cell? ⟨w.heap.size,2,none⟩=some (.int .i64 0):=HG.out.z.cell 2;have aJ:(wG.alloc (.cells #[k',p'] 55)).cell? ⟨w.heap.size,3,none⟩=some (.int .i64 0):=HG.out.z.cell 3;have aK:(wG.alloc (.cells #[k',p'] 55)).cell? ⟨w.heap.size,4,none⟩=some (.int .i64 0):=HG.out.z.cell 4;have aL:(wG.alloc (.cells #[k',p'] 55)).cell? ⟨w.heap.size,5,none⟩=some (.string ⟨#[]⟩):=HG.out.z.cell 5;have aM:(wG.alloc (.cells #[k',p'] 55)).cell? ⟨w.heap.size,6,none⟩=some (.slice none 0 0):=HG.out.z.cell 6;have aN:=HG.out.z.frozen 0;have aO:=HG.out.z.frozen 1;have aP:=HG.out.z.frozen 2;have aQ:=HG.out.z.frozen 3;have aR:=HG.out.z.frozen 4;have aS:=HG.out.z.frozen 5;have aT:=HG.out.z.frozen 6;have ao:(wG.alloc (.cells #[k',p'] 55)).cell? ⟨w.heap.size+1,0,none⟩=some (.int .i64 0):=HG.out.f.cell 0;have aq:(wG.alloc (.cells #[k',p'] 55)).cell? ⟨w.heap.size+1,1,none⟩=some (.int .i64 0):=HG.out.f.cell 1;have ar:=HG.out.f.frozen 0;have au:=HG.out.f.frozen 1;obtain⟨Z,hZ,qz,qf,qB,-⟩:=HG.out.done (.int .i64 0) (.string ⟨#[]⟩) (.int .i64 0) (.int .i64 0) (.int .i64 0) (.string ⟨#[]⟩) (.slice none 0 0) (.int .i64 k') (.int .i64 p');have HZ:=zH hZ;have j:=zH qz;have a7:=zH qf;have an:=zH qB;clear hZ qz qf qB ak HG;go_upto_region 24 with fail;generalize wG.alloc (.cells #[k',p'] 55)=W6 at *;go_wp2_with fail;go_big_region;clear q0 q1 n5 n6 n7;clear aG aH aI aJ aK aL aM aN aO aP aQ aR aS aT ao aq ar au;rw[HZ.out];go_wp2;have r0:=j.out.cell 0;have r1:=j.out.cell 1;have r2:=j.out.cell 2;have r3:=j.out.cell 3;have r4:=j.out.cell 4;have r5:=j.out.cell 5;have r6:=j.out.cell 6;have s0:=a7.out.cell 0;have s1:=a7.out.cell 1;refine zc4 (v:=.tuple #[.agg z7,.agg #[k',p']]) (by simp[results,Tryz.results33,go_sem,r0,r1,r2,r3,r4,r5,r6,s0,s1]) rfl ?_;exact⟨Xl,none,0,k',p',rfl,xM _,Zu,fun g hg=>by simp[Value.ownBlock] at hg,an.out.drew,rfl,rfl,am.out.symm⟩
theorem zq0(s:ByteArray)(w:World)(hs:s.size<=100000)(hw:Lb w)(hF:yA w)(ad:Addr)(cap:Nat)(hK:xe w ad cap)(hk:zI (zb s 32).1=4)(lo:List zf)(hrg:xz (zb (zb s 32).2 32).2=.ok lo):zC 33 #[s] w (Qy w (.ok ⟨4,(zb (zb s 32).2 32).1,0,0,0,⟨#[]⟩,lo⟩)):=by
 have k0:=(Blk.new w 94 z7).alloc (.cells #[(0:Int),(0:Int)] 55);have k1:=Blk.new (w.alloc (.cells z7 94)) 55 #[(0:Int),(0:Int)];rw[zc1] at k1;have ag:zB w ((w.alloc (.cells z7 94)).alloc (.cells #[(0:Int),(0:Int)] 55)):=((zf0 _ w).alloc zN _).alloc (by simp) _;have U:=zH k0;have y:=zH k1;have a9:=zH ag;have C:=zH (fun W=>yu s W hs);have aj:=(qC s 32).2;have b7:=zH hw;have ab:=zH hF;have am:=zH hK;obtain⟨w1,aG⟩:∃w1,(zb s 32).1=w1:=⟨_,rfl⟩;obtain⟨s2,a7⟩:∃s2,(zb s 32).2=s2:=⟨_,rfl⟩;rw[aG] at hk C;rw[a7] at aj C;have hz2':s2.size<=100000:=by omega
 have ac:Hid (∀k,1<=k->k<=4->((⟨(wl k).toArray⟩:ByteArray).toList==w1.toList)=decide (zI w1=k)):=fun k h1 h4=>QO h1 h4;rw[hk] at ac;have J:=zH (fun W=>yu s2 W hz2');have ak:=(qC s2 32).2;obtain⟨nm,a6⟩:∃nm,(zb s2 32).1=nm:=⟨_,rfl⟩;obtain⟨s3,a8⟩:∃s3,(zb s2 32).2=s3:=⟨_,rfl⟩;rw[a6] at J;rw[a8] at ak J;have hz3':s3.size<=100000:=by omega
 rw[a7,a8] at hrg;have af:Hid (∀W,zB w W->zC 76 #[.string s3] W fun e w'=>∃(l:List zf) (a:Option Addr) (c:Nat) (k p:Int),e=.returned (.tuple #[.slice a (tp l).length c,.agg #[.int .i64 k,p]])/\zE w' (.slice a (tp l).length c) (tp l)/\Rg l/\(∀g,(Value.slice a (tp l).length c).ownBlock=some g->W.heap.size<=g)/\zB W w'/\l=lo/\k=0/\p=-1):=fun W hb=>by have:=JQ s3 W (by omega) (hw.below hb) (hF.below hb);rw[hrg] at this;exact this
 clear hrg;rw[a7,a6];clear ak a8 a6;clear k0 k1 ag hw hF hK aj hs;go_enter ztT,ztC;go_wp2_with fail;generalize (w.alloc (.cells z7 94)).alloc (.cells #[(0:Int),(0:Int)] 55)=W0 at *;refine(C.out _).mono ?_;rintro e wA ⟨rfl,a2⟩;have hx:=Blk.new wA 94 z7;have hA:zB wA (wA.alloc (.cells z7 94)):=zF.alloc zN _;have K:zB W0 (wA.alloc (.cells z7 94)):=zT a2 hA;have u:LR w (wA.alloc (.cells z7 94)) wA.heap.size z7:=⟨U.out.below K U.out.lt,y.out.below K y.out.lt,hx,zc6 y.out.lt a2.size,zT a9.out K⟩;have X:=zH u;clear a2 hx hA K u C U y a9;go_wp2_with fail;generalize wA.alloc (.cells z7 94)=W1 at *;obtain⟨b,hb⟩:∃b,wA.heap.size=b:=⟨_,rfl⟩;rw[hb] at X ⊢;clear hb;go_loopw [7] (fun kV wr=>∃k:Nat,1<=k/\k<=5/\kV=.int .i64 k/\LR w wr b (x7 (kup 4 k) ⟨#[]⟩ 0 0 0 ⟨#[]⟩ (.slice none 0 0))) (fun kV _=>5-(intOf kV).toNat)
 case atStart=>exact⟨1,by omega,by omega,rfl,by rw[show kup 4 1=0 by unfold kup;split<;>omega];exact X.out⟩
 case round =>
  clear X;obtain⟨k,aB,b8,rfl,u⟩:=hrel;have HL:=zH u;clear u
  by_cases hlt:k<=4
  ·have a5:=am.out.below HL.out.B;have g0:=a5.c;have g1:=a5.s k (by omega);have hc:=ac.out k aB hlt;have x0:_=some (Value.int .i64 ((kup 4 k:Nat):Int)):=HL.out.x.cell 0;have xf:=HL.out.x.frozen 0;clear a5
   by_cases he:4=k
   ·have ai:=HL.out.set 0 (.int .i64 k);have a0:Hid (LR w (wr.setCell ⟨b,0,none⟩ (.int .i64 k)) b (x7 (kup 4 (k+1)) ⟨#[]⟩ 0 0 0 ⟨#[]⟩ (.slice none 0 0))):=by
     have e:kup 4 (k+1)=k:=by unfold kup;rw[zc3 (by omega)];exact he
     rw[e];exact ai
    rw[zq9 he] at hc;generalize kup 4 k=KU at *;generalize (⟨(wl k).toArray⟩:ByteArray)=WK at *;clear ai he;go_wp2;go_roundw
    case rel=>exact⟨k+1,by omega,by omega,by go_num,a0.out⟩
    case measure=>simp[intOf];omega
   ·have a0:Hid (LR w wr b (x7 (kup 4 (k+1)) ⟨#[]⟩ 0 0 0 ⟨#[]⟩ (.slice none 0 0))):=by
     have e:kup 4 (k+1)=kup 4 k:=by
      unfold kup
      by_cases h:4<k
      ·rw[zc3 h,zc3 (by omega)]
      ·rw[zc2 h,zc2 (by omega)]
     rw[e];exact HL.out
    rw[zf5 he] at hc;generalize kup 4 k=KU at *;generalize (⟨(wl k).toArray⟩:ByteArray)=WK at *;clear he;go_wp2;go_roundw
    case rel=>exact⟨k+1,by omega,by omega,by go_num,a0.out⟩
    case measure=>simp[intOf];omega
  ·obtain rfl:k=5:=by omega
   have ah:kup 4 5=4:=by unfold kup;rw[zc3 (by omega)]
   rw[ah] at HL;clear ah;have aK:_=some (Value.int .i64 (4:Int)):=HL.out.x.cell 0;go_wp2_with fail;refine(J.out _).mono ?_;rintro e wB ⟨rfl,hb⟩;have q:=zH (HL.out.step hb);clear hb J HL;have aI:_=some (Value.int .i64 4):=q.out.x.cell 0;have aJ:_=some (Value.string ⟨#[]⟩):=q.out.x.cell 1;have aL:=q.out.x.frozen 1;have V:Hid (LR w (wB.setCell ⟨b,1,none⟩ (.string nm)) b (x7 4 nm 0 0 0 ⟨#[]⟩ (.slice none 0 0))):=q.out.set 1 (.string nm);have y0:(wB.setCell ⟨b,1,none⟩ (.string nm)).cell? ⟨b,0,none⟩=some (.int .i64 4):=V.out.x.cell 0;clear q aK;go_upto_region 11 with fail;generalize wB.setCell ⟨b,1,none⟩ (.string nm)=W2 at *;clear aI aJ aL;have HX:=V;clear V;go_wp2_with fail;refine(af.out _ HX.out.B).mono ?_;rintro e wG ⟨l',ra,rc,k',p',rfl,nl,gl,fl,hb,aD,aE,aF⟩;have a3:zB wG (wG.alloc (.cells #[k',p'] 55)):=zF.alloc zN _;have HG:=zH ((HX.out.step hb).step a3);have Y:=zH (nl.below a3 zN);have HQ:=zH (Blk.new wG 55 #[k',p']);have az:=HX.out.x.lt;have j:=HX.out.ne;have aA:=hb.size;have R:Hid (∀g,(Value.slice ra (tp l').length rc).ownBlock=some g->b<g):=fun g hg=>by have:=fl g hg;omega
   have q0:(wG.alloc (.cells #[k',p'] 55)).cell? wG.heap.size=some (.int .i64 k'):=HQ.out.cell 0;have q1:(wG.alloc (.cells #[k',p'] 55)).cell? ⟨wG.heap.size,1,none⟩=some (.int .i64 p'):=HQ.out.cell 1;have n5:¬wG.heap.size=w.heap.size:=by omega
   have n6:¬wG.heap.size=w.heap.size+1:=by omega
   have n7:¬wG.heap.size=b:=by omega
   have M:=zH j;clear hb a3 nl fl az j aA HX af HQ;subst aD;subst aE;subst aF;have t6:(wG.alloc (.cells #[(0:Int),.int .i64 (-1)] 55)).cell? ⟨b,6,none⟩=some (.slice none 0 0):=HG.out.x.cell 6;have aH:=HG.out.x.frozen 6;have HE:Hid (LR w ((wG.alloc (.cells #[(0:Int),.int .i64 (-1)] 55)).setCell ⟨b,6,none⟩ (.slice ra (tp l').length rc)) b (x7 4 nm 0 0 0 ⟨#[]⟩ (.slice ra (tp l').length rc))):=HG.out.set 6 (.slice ra (tp l').length rc);have an:Hid (zE ((wG.alloc (.cells #[(0:Int),.int .i64 (-1)] 55)).setCell ⟨b,6,none⟩ (.slice ra (tp l').length rc)) (.slice ra (tp l').length rc) (tp l')):=by
    refine⟨Y.out.form,fun i hi=>?_⟩;obtain⟨g,a1,e,hg,hc⟩:=Y.out.cells i hi;have:=R.out g (by rw[e];rfl);exact⟨g,a1,e,by simp only[World.setCell,zuy];exact hg,(qq (by omega)).trans hc⟩
   have aa:Hid (∀g,(Value.slice ra (tp l').length rc).ownBlock=some g->w.heap.size+1<g):=fun g hg=>by have:=R.out g hg;have:=M.out;omega
   clear Y HG R;go_upto_region 27 with fail;clear q0 q1 t6 aH n5 n6 n7;generalize (wG.alloc (.cells #[(0:Int),.int .i64 (-1)] 55)).setCell ⟨b,6,none⟩ (.slice ra (tp l').length rc)=W7 at *;have a4:=ab.out.below HE.out.B;have ax:W7.cell? ⟨0,0,none⟩=some (.int .i64 0):=a4.c0;have ay:W7.cell? ⟨0,1,none⟩=some (.int .i64 (-1)):=a4.c1;have j:=HE.out.ne;have aC:=ab.out.lt;have n1:¬0=w.heap.size:=by omega
   have n2:¬b=w.heap.size:=by omega
   have n3:¬b=w.heap.size+1:=by omega
   have n4:¬w.heap.size=0:=by omega
   clear j aC;have aT:_=some (Value.int .i64 0):=HE.out.z.cell 0;have aU:_=some (Value.string ⟨#[]⟩):=HE.out.z.cell 1;have aV:_=some (Value.int .i64 0):=HE.out.z.cell 2;have aW:_=some (Value.int .i64 0):=HE.out.z.cell 3;have aX:_=some (Value.int .i64 0):=HE.out.z.cell 4;have aY:_=some (Value.string ⟨#[]⟩):=HE.out.z.cell 5;have aZ:_=some (Value.slice none 0 0):=HE.out.z.cell 6;have b0:=HE.out.z.frozen 0;have b1:=HE.out.z.frozen 1;have b2:=HE.out.z.frozen 2;have b3:=HE.out.z.frozen 3;have b4:=HE.out.z.frozen 4;have b5:=HE.out.z.frozen 5;have b6:=HE.out.z.frozen 6;have ar:_=some (Value.int .i64 0):=HE.out.f.cell 0;have au:_=some (Value.int .i64 0):=HE.out.f.cell 1;have av:=HE.out.f.frozen 0;have aw:=HE.out.f.frozen 1;have aM:_=some (Value.int .i64 4):=HE.out.x.cell 0;have aN:_=some (Value.string nm):=HE.out.x.cell 1;have aO:_=some (Value.int .i64 0):=HE.out.x.cell 2;have aP:_=some (Value.int .i64 0):=HE.out.x.cell 3;have aQ:_=some (Value.int .i64 0):=HE.out.x.cell 4;have aR:_=some (Value.string ⟨#[]⟩):=HE.out.x.cell 5;have aS:_=some (Value.slice ra (tp l').length rc):=HE.out.x.cell 6;obtain⟨Z,hZ,qz,qf,qB,qN⟩:=HE.out.done (.int .i64 4) (.string nm) (.int .i64 0) (.int .i64 0) (.int .i64 0) (.string ⟨#[]⟩) (.slice ra (tp l').length rc) (.int .i64 0) (.int .i64 (-1));have HZ:=zH hZ;have o:=zH qz;have ae:=zH qf;have ao:=zH qB;have aq:=zH qN;clear hZ qz qf qB qN a4;go_wp2_with fail;go_big_region;clear ax ay n1 n2 n3 n4;clear aT aU aV aW aX aY aZ b0 b1 b2 b3 b4 b5 b6 ar au av aw;clear aM aN aO aP aQ aR aS;rw[HZ.out];go_wp2;have r0:=o.out.cell 0;have r1:=o.out.cell 1;have r2:=o.out.cell 2;have r3:=o.out.cell 3;have r4:=o.out.cell 4;have r5:=o.out.cell 5;have r6:=o.out.cell 6;have s0:=ae.out.cell 0;have s1:=ae.out.cell 1;refine zc4 (v:=.tuple #[.agg #[(4:Int),.string nm,(0:Int),(0:Int),(0:Int),.string ⟨#[]⟩,(.slice ra (tp l').length rc)],.agg #[(0:Int),.int .i64 (-1)]]) (by simp[results,Tryz.results33,go_sem,r0,r1,r2,r3,r4,r5,r6,s0,s1]) rfl ?_;exact⟨⟨4,nm,0,0,0,⟨#[]⟩,l'⟩,ra,rc,0,-1,rfl,(aq.out _ _ aa.out an.out).drew,gl,fun g hg=>by have:=aa.out g hg;omega,ao.out.drew,rfl,rfl,rfl⟩
end
