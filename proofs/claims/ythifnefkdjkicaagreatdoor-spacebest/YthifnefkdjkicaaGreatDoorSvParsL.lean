import Derived.Test.YthifnefkdjkicaaGreatDoorSvRHas
set_option maxHeartbeats 4000000
set_option maxRecDepth 100000
namespace Go.Proofs.YthifnefkdjkicaaGreatDoor
section
open Go.RowKit Go.Deep
theorem zcB(m k:Int)(v:Value)(w:World)(hg:yU w)(hv:Qo w v m (-1)) :
  zR 10 #[v,k] w (.bool (m==k)):=by
 generalize hz:(m==k)=z;have HG:=zH hg;have HV:=zH hv;clear hg hv;go_enter Tryz.func10,Tryz.ntmps10;go_wp2_with fail;refine(Q7 k _).mono ?_;rintro e w1 ⟨rfl,j⟩;have HA:=zhJ m k (-1) (-1) v w1 (HG.out.below j) (HV.out.below j);rw[beq_self_eq_true,Bool.and_true,hz] at HA;clear hz;go_wp2_with fail;refine HA.mono ?_;rintro e w2 ⟨rfl,o⟩;go_wp2;go_ret;exact⟨rfl,zT j o⟩
end
section
open Sv
theorem znY(s:ByteArray):∀(f k:Nat),s.size<=k+f->k<=s.size->yc s f k=(zq s ⟨#[10]⟩ f k).filter (fun x=>decide (x.2.size≠0)):=by
 intro f
 induction f with
 |zero =>
  intro k h1 h2;obtain rfl:k=s.size:=by omega
  simp[yc,zq]
 |succ f ih =>
  intro k h1 h2;have hL:(s.extract k s.size).data.toList=s.data.toList.drop k:=zb5 s k;have q:(s.extract k s.size).size=s.size-k:=by simp[ByteArray.size_extract]
  rcases Nat.lt_or_ge k s.size with hk|hk
  ·rw[zdA hk,zq]
   by_cases hi:Lib.index (s.extract k s.size).data.toList [10]<0
   ·have e:zb (s.extract k s.size) 10=(s.extract k s.size,⟨#[]⟩):=by
     unfold zb Lib.cut;rw[zA1 (by omega)]
    rw[zA2 hi,e,zbF (by simp only;omega)]
    by_cases h0:(s.extract k s.size).size=0
    ·omega
    ·simp only[zA1 h0,List.append_nil];rw[List.filter_cons,zA2 (decide_eq_true h0),List.filter_nil]
   ·obtain⟨j,hj⟩:∃j:Nat,Lib.index (s.extract k s.size).data.toList [10]=(j:Int):=⟨(Lib.index (s.extract k s.size).data.toList [10]).toNat,by omega⟩;have o:=Y9 (s.extract k s.size).data.toList [10] (by omega);rw[hj] at o;have p:(s.extract k s.size).data.toList.length=s.size-k:=by rw[Array.length_toList];exact q
    simp only[List.length_cons,List.length_nil,Int.toNat_natCast] at o;have e1:(zb (s.extract k s.size) 10).1=s.extract k (k+j):=by
     unfold zb Lib.cut;rw[zA2 (by omega)];simp only;rw[hj];refine XE ?_;simp only[Int.toNat_natCast];rw[hL,YY,List.take_drop]
    have e2:(s.extract k (k+j)).size=j:=by
     simp only[ByteArray.size_extract];omega
    rw[zA1 hi,e1,e2];simp only;rw[hj];simp only[Int.toNat_natCast];rw[ih (k+j+1) (by omega) (by omega)];show _=List.filter _ (_ :: zq s ⟨#[10]⟩ f (k+j+1));rw[List.filter_cons]
    by_cases hj0:j=0
    ·rw[zA2 hj0,zA1 (by rw[e2];simp[hj0])];rfl
    ·rw[zA1 hj0,zA2 (by rw[e2];simp[hj0])];rfl
  ·obtain rfl:k=s.size:=by omega
   rw[zbF zN];have he:(s.extract s.size s.size).data.toList=[]:=by rw[hL];simp
   rw[zq];show []=List.filter _ (if Lib.index (s.extract s.size s.size).data.toList [10]<0 then _ else _);rw[he];have:Lib.index ([]:List UInt8) [10]<0:=by decide
   rw[zA2 this];simp
end
section
open Go.RowKit Go.Shelf Sv
theorem JU(s:ByteArray)(w:World)(hs:s.size<=100000)(hw:Lb w)(hF:yu w)(ad:Addr)(cap:Nat)(hK:xg w ad cap)(K:Nat)(hK13:K=1\/K=2\/K=3)(hk:zO (zb s 32).1=K)(ke:Int)(hver:zS (zb (zb (zb s 32).2 32).2 32).1=.error ke):zC 36 #[s] w (Qm w (.error (ke,none))):=by
 have aV:((K:Int)==4)=false:=by rw[beq_eq_false_iff_ne];omega
 have aU:((K:Int)==0)=false:=by rw[beq_eq_false_iff_ne];omega
 have k0:=(Blk.new w 84 z7).alloc (.cells #[(0:Int),(0:Int)] 50);have k1:=Blk.new (w.alloc (.cells z7 84)) 50 #[(0:Int),(0:Int)];rw[zA0] at k1;have ab:zB w ((w.alloc (.cells z7 84)).alloc (.cells #[(0:Int),(0:Int)] 50)):=((Below.refl _ w).alloc zN _).alloc (by simp) _;have M:=zH k0;have u:=zH k1;have a4:=zH ab;have y:=zH (fun W=>yn s W hs);have am:=(qD s 32).2;have aT:=zH hw;have aS:=zH hF;have ap:=zH hK;obtain⟨w1,az⟩:∃w1,(zb s 32).1=w1:=⟨_,rfl⟩;obtain⟨s2,ai⟩:∃s2,(zb s 32).2=s2:=⟨_,rfl⟩;rw[az] at hk y;rw[ai] at am y;have hz2':s2.size<=100000:=by omega
 have a6:Hid (∀k,1<=k->k<=4->((⟨(wl k).toArray⟩:ByteArray).toList==w1.toList)=decide (zO w1=k)):=fun k h1 h4=>Qw h1 h4;rw[hk] at a6;have C:=zH (fun W=>yn s2 W hz2');have an:=(qD s2 32).2;obtain⟨nm,ah⟩:∃nm,(zb s2 32).1=nm:=⟨_,rfl⟩;obtain⟨s3,a2⟩:∃s3,(zb s2 32).2=s3:=⟨_,rfl⟩;rw[ah] at C;rw[a2] at an C;have hz3':s3.size<=100000:=by omega
 have X:=zH (fun W=>yn s3 W hz3');have ao:=qD s3 32;obtain⟨vw,a3⟩:∃vw,(zb s3 32).1=vw:=⟨_,rfl⟩;obtain⟨s4,aj⟩:∃s4,(zb s3 32).2=s4:=⟨_,rfl⟩;rw[a3,aj] at ao X;have hz4':s4.size<=100000:=by omega
 have o:∀W,zB w W->zR 69 #[.string vw] W (QB (zS vw)):=fun W hb=>yR yQ vw W (by omega) (hw.below hb);rw[ai,a2,a3] at hver;rw[hver] at o;have af:=KT hver;have hke':(ke != 0)=true:=by simpa using af
 have aa:Hid (∀W,zB w W->zR 69 #[.string vw] W (.tuple #[.agg #[(0:Int),(0:Int),(0:Int)],ke])):=o;clear o af hver an ao ah a2 a3 aj;clear k0 k1 ab hw hF hK am hs;go_enter Tryz.func36,Tryz.ntmps36;go_wp2_with fail;generalize (w.alloc (.cells z7 84)).alloc (.cells #[(0:Int),(0:Int)] 50)=W0 at *;refine(y.out _).mono ?_;rintro e wA ⟨rfl,a0⟩;have hx:=Blk.new wA 84 z7;have hA:zB wA (wA.alloc (.cells z7 84)):=zF.alloc zN _;have J:zB W0 (wA.alloc (.cells z7 84)):=zT a0 hA;have q:LR w (wA.alloc (.cells z7 84)) wA.heap.size z7:=⟨M.out.below J M.out.lt,u.out.below J u.out.lt,hx,Nat.lt_of_lt_of_le u.out.lt a0.size,zT a4.out J⟩;have V:=zH q;clear a0 hx hA J q y M u a4;go_wp2_with fail;generalize wA.alloc (.cells z7 84)=W1 at *;obtain⟨b,hb⟩:∃b,wA.heap.size=b:=⟨_,rfl⟩;rw[hb] at V ⊢;clear hb;go_loopw [7] (fun kV wr=>∃k:Nat,1<=k/\k<=5/\kV=.int .i64 k/\LR w wr b (x7 (kup K k) ⟨#[]⟩ 0 0 0 ⟨#[]⟩ (.slice none 0 0))) (fun kV _=>5-(intOf kV).toNat)
 case atStart=>exact⟨1,by omega,by omega,rfl,by rw[show kup K 1=0 by unfold kup;split<;>omega];exact V.out⟩
 case round =>
  clear V;obtain⟨k,ay,aW,rfl,q⟩:=hrel;have HL:=zH q;clear q
  by_cases hlt:k<=4
  ·have a1:=ap.out.below HL.out.B;have g0:=a1.c;have g1:=a1.s k (by omega);have hc:=a6.out k ay hlt;have x0:_=some (Value.int .i64 ((kup K k:Nat):Int)):=HL.out.x.cell 0;have xf:=HL.out.x.frozen 0;clear a1
   by_cases he:K=k
   ·have ak:=HL.out.set 0 (.int .i64 k);have Y:Hid (LR w (wr.setCell ⟨b,0,none⟩ (.int .i64 k)) b (x7 (kup K (k+1)) ⟨#[]⟩ 0 0 0 ⟨#[]⟩ (.slice none 0 0))):=by
     have e:kup K (k+1)=k:=by unfold kup;rw[zA2 (by omega)];exact he
     rw[e];exact ak
    rw[decide_eq_true he] at hc;generalize kup K k=KU at *;generalize (⟨(wl k).toArray⟩:ByteArray)=WK at *;clear ak he;go_wp2;go_roundw
    case rel=>exact⟨k+1,by omega,by omega,by go_num,Y.out⟩
    case measure=>simp[intOf];omega
   ·have Y:Hid (LR w wr b (x7 (kup K (k+1)) ⟨#[]⟩ 0 0 0 ⟨#[]⟩ (.slice none 0 0))):=by
     have e:kup K (k+1)=kup K k:=by
      unfold kup
      by_cases h:K<k
      ·rw[zA2 h,zA2 (by omega)]
      ·rw[zA1 h,zA1 (by omega)]
     rw[e];exact HL.out
    rw[decide_eq_false he] at hc;generalize kup K k=KU at *;generalize (⟨(wl k).toArray⟩:ByteArray)=WK at *;clear he;go_wp2;go_roundw
    case rel=>exact⟨k+1,by omega,by omega,by go_num,Y.out⟩
    case measure=>simp[intOf];omega
  ·obtain rfl:k=5:=by omega
   have ag:kup K 5=K:=by unfold kup;rw[zA2 (by omega)]
   rw[ag] at HL;clear ag;have aC:_=some (Value.int .i64 K):=HL.out.x.cell 0;go_wp2_with fail;refine(C.out _).mono ?_;rintro e wB ⟨rfl,hb⟩;have p:=zH (HL.out.step hb);clear hb C HL;have aA:_=some (Value.int .i64 K):=p.out.x.cell 0;have aB:_=some (Value.string ⟨#[]⟩):=p.out.x.cell 1;have aD:=p.out.x.frozen 1;have R:Hid (LR w (wB.setCell ⟨b,1,none⟩ (.string nm)) b (x7 K nm 0 0 0 ⟨#[]⟩ (.slice none 0 0))):=p.out.set 1 (.string nm);have y0:(wB.setCell ⟨b,1,none⟩ (.string nm)).cell? ⟨b,0,none⟩=some (.int .i64 K):=R.out.x.cell 0;clear p aC;go_wp2_with fail;generalize wB.setCell ⟨b,1,none⟩ (.string nm)=W2 at *;clear aA aB aD;refine(X.out _).mono ?_;rintro e wC ⟨rfl,hb⟩;have U:=zH (R.out.step hb);have a9:=zH (aa.out _ U.out.B);clear hb X R y0 aa;go_wp2_with fail;refine a9.out.mono ?_;rintro e wD ⟨rfl,hb⟩;have a7:=zH (U.out.step hb);have kv:=Blk.new wD 81 #[(0:Int),(0:Int),(0:Int)];have ae:zB wD (wD.alloc (.cells #[(0:Int),(0:Int),(0:Int)] 81)):=zF.alloc zN _;have HL:=zH (a7.out.step ae);have aq:=zH kv;clear hb ae U a7 a9 kv;have a5:=zH (Q7 ke (wD.alloc (.cells #[(0:Int),(0:Int),(0:Int)] 81)));clear aq;go_wp2_with fail;generalize wD.alloc (.cells #[(0:Int),(0:Int),(0:Int)] 81)=W5 at *;refine a5.out.mono ?_;rintro e wE ⟨rfl,ac⟩;have hE:=HL.out.step ac;have aE:_=some (Value.int .i64 0):=hE.z.cell 0;have aF:_=some (Value.string ⟨#[]⟩):=hE.z.cell 1;have aG:_=some (Value.int .i64 0):=hE.z.cell 2;have aH:_=some (Value.int .i64 0):=hE.z.cell 3;have aI:_=some (Value.int .i64 0):=hE.z.cell 4;have aJ:_=some (Value.string ⟨#[]⟩):=hE.z.cell 5;have aK:_=some (Value.slice none 0 0):=hE.z.cell 6;have aL:=hE.z.frozen 0;have aM:=hE.z.frozen 1;have aN:=hE.z.frozen 2;have aO:=hE.z.frozen 3;have aP:=hE.z.frozen 4;have aQ:=hE.z.frozen 5;have aR:=hE.z.frozen 6;have au:_=some (Value.int .i64 0):=hE.f.cell 0;have av:_=some (Value.int .i64 0):=hE.f.cell 1;have aw:=hE.f.frozen 0;have ax:=hE.f.frozen 1;obtain⟨Z,hZ,qz,qf,qB,-⟩:=hE.done (.int .i64 0) (.string ⟨#[]⟩) (.int .i64 0) (.int .i64 0) (.int .i64 0) (.string ⟨#[]⟩) (.slice none 0 0) (.int .i64 ke) (.int .i64 (-1));have HZ:=zH hZ;have j:=zH qz;have a8:=zH qf;have ar:=zH qB;clear hZ qz qf qB hE ac a5 HL;go_wp2;clear aE aF aG aH aI aJ aK aL aM aN aO aP aQ aR au av aw ax;rw[HZ.out];have r0:=j.out.cell 0;have r1:=j.out.cell 1;have r2:=j.out.cell 2;have r3:=j.out.cell 3;have r4:=j.out.cell 4;have r5:=j.out.cell 5;have r6:=j.out.cell 6;have s0:=a8.out.cell 0;have s1:=a8.out.cell 1;refine bodyPost_ret (v:=.tuple #[.agg z7,.agg #[ke,.int .i64 (-1)]]) (by simp[results,Tryz.results36,go_sem,r0,r1,r2,r3,r4,r5,r6,s0,s1]) rfl ?_;exact⟨YB,none,0,ke,-1,rfl,xD _,Ze,fun g hg=>by simp[Value.ownBlock] at hg,ar.out,rfl,rfl,rfl⟩
end
section
open Go.RowKit Go.Shelf Sv
theorem zhY(s:ByteArray)(w:World)(hs:s.size<=100000)(hw:Lb w)(hF:yu w)(ad:Addr)(cap:Nat)(hK:xg w ad cap)(hk:zO (zb s 32).1=1)(va vb vc:Nat)(hver:zS (zb (zb (zb s 32).2 32).2 32).1=.ok [va,vb,vc])(hr:(zb (zb (zb s 32).2 32).2 32).2.size≠0):zC 36 #[s] w (Qm w (.error (3,none))):=by
 have k0:=(Blk.new w 84 z7).alloc (.cells #[(0:Int),(0:Int)] 50);have k1:=Blk.new (w.alloc (.cells z7 84)) 50 #[(0:Int),(0:Int)];rw[zA0] at k1;have ah:zB w ((w.alloc (.cells z7 84)).alloc (.cells #[(0:Int),(0:Int)] 50)):=((Below.refl _ w).alloc zN _).alloc (by simp) _;have U:=zH k0;have y:=zH k1;have a9:=zH ah;have J:=zH (fun W=>yn s W hs);have ap:=(qD s 32).2;have aY:=zH hw;have aX:=zH hF;have au:=zH hK;obtain⟨w1,aE⟩:∃w1,(zb s 32).1=w1:=⟨_,rfl⟩;obtain⟨s2,a5⟩:∃s2,(zb s 32).2=s2:=⟨_,rfl⟩;rw[aE] at hk J;rw[a5] at ap J;have hz2':s2.size<=100000:=by omega
 have ab:Hid (∀k,1<=k->k<=4->((⟨(wl k).toArray⟩:ByteArray).toList==w1.toList)=decide (zO w1=k)):=fun k h1 h4=>Qw h1 h4;rw[hk] at ab;have K:=zH (fun W=>yn s2 W hz2');have aq:=(qD s2 32).2;obtain⟨nm,an⟩:∃nm,(zb s2 32).1=nm:=⟨_,rfl⟩;obtain⟨s3,R⟩:∃s3,(zb s2 32).2=s3:=⟨_,rfl⟩;rw[an] at K;rw[R] at aq K;have hz3':s3.size<=100000:=by omega
 have a0:=zH (fun W=>yn s3 W hz3');have ar:=qD s3 32;obtain⟨vw,a7⟩:∃vw,(zb s3 32).1=vw:=⟨_,rfl⟩;obtain⟨s4,a6⟩:∃s4,(zb s3 32).2=s4:=⟨_,rfl⟩;rw[a7,a6] at ar a0;have hz4':s4.size<=100000:=by omega
 have o:∀W,zB w W->zR 69 #[.string vw] W (QB (zS vw)):=fun W hb=>yR yQ vw W (by omega) (hw.below hb);rw[a5,R,a7] at hver;rw[hver] at o;have ag:Hid (∀W,zB w W->zR 69 #[.string vw] W (.tuple #[.agg #[va,vb,vc],(0:Int)])):=o;clear o hver;have u:=R;clear aq ar an R a7;rw[a5,show (zb s2 32).2=s3 from u,a6] at hr;have b0:(s4.toList==[])=false:=by
  rw[beq_eq_false_iff_ne,ByteArray.toList_eq];intro e;have:=congrArg List.length e;simp at this;exact hr (by rw[this];rfl)
 clear hr u a6;clear k0 k1 ah hw hF hK ap hs;go_enter Tryz.func36,Tryz.ntmps36;go_wp2_with fail;generalize (w.alloc (.cells z7 84)).alloc (.cells #[(0:Int),(0:Int)] 50)=W0 at *;refine(J.out _).mono ?_;rintro e wA ⟨rfl,a3⟩;have hx:=Blk.new wA 84 z7;have hA:zB wA (wA.alloc (.cells z7 84)):=zF.alloc zN _;have M:zB W0 (wA.alloc (.cells z7 84)):=zT a3 hA;have q:LR w (wA.alloc (.cells z7 84)) wA.heap.size z7:=⟨U.out.below M U.out.lt,y.out.below M y.out.lt,hx,Nat.lt_of_lt_of_le y.out.lt a3.size,zT a9.out M⟩;have Y:=zH q;clear a3 hx hA M q J U y a9;go_wp2_with fail;generalize wA.alloc (.cells z7 84)=W1 at *;obtain⟨b,hb⟩:∃b,wA.heap.size=b:=⟨_,rfl⟩;rw[hb] at Y ⊢;clear hb;go_loopw [7] (fun kV wr=>∃k:Nat,1<=k/\k<=5/\kV=.int .i64 k/\LR w wr b (x7 (kup 1 k) ⟨#[]⟩ 0 0 0 ⟨#[]⟩ (.slice none 0 0))) (fun kV _=>5-(intOf kV).toNat)
 case atStart=>exact⟨1,by omega,by omega,rfl,by rw[show kup 1 1=0 by unfold kup;split<;>omega];exact Y.out⟩
 case round =>
  clear Y;obtain⟨k,aD,aZ,rfl,q⟩:=hrel;have HL:=zH q;clear q
  by_cases hlt:k<=4
  ·have a4:=au.out.below HL.out.B;have g0:=a4.c;have g1:=a4.s k (by omega);have hc:=ab.out k aD hlt;have x0:_=some (Value.int .i64 ((kup 1 k:Nat):Int)):=HL.out.x.cell 0;have xf:=HL.out.x.frozen 0;clear a4
   by_cases he:1=k
   ·have ao:=HL.out.set 0 (.int .i64 k);have a1:Hid (LR w (wr.setCell ⟨b,0,none⟩ (.int .i64 k)) b (x7 (kup 1 (k+1)) ⟨#[]⟩ 0 0 0 ⟨#[]⟩ (.slice none 0 0))):=by
     have e:kup 1 (k+1)=k:=by unfold kup;rw[zA2 (by omega)];exact he
     rw[e];exact ao
    rw[decide_eq_true he] at hc;generalize kup 1 k=KU at *;generalize (⟨(wl k).toArray⟩:ByteArray)=WK at *;clear ao he;go_wp2;go_roundw
    case rel=>exact⟨k+1,by omega,by omega,by go_num,a1.out⟩
    case measure=>simp[intOf];omega
   ·have a1:Hid (LR w wr b (x7 (kup 1 (k+1)) ⟨#[]⟩ 0 0 0 ⟨#[]⟩ (.slice none 0 0))):=by
     have e:kup 1 (k+1)=kup 1 k:=by
      unfold kup
      by_cases h:1<k
      ·rw[zA2 h,zA2 (by omega)]
      ·rw[zA1 h,zA1 (by omega)]
     rw[e];exact HL.out
    rw[decide_eq_false he] at hc;generalize kup 1 k=KU at *;generalize (⟨(wl k).toArray⟩:ByteArray)=WK at *;clear he;go_wp2;go_roundw
    case rel=>exact⟨k+1,by omega,by omega,by go_num,a1.out⟩
    case measure=>simp[intOf];omega
  ·obtain rfl:k=5:=by omega
   have am:kup 1 5=1:=by unfold kup;rw[zA2 (by omega)]
   rw[am] at HL;clear am;have aH:_=some (Value.int .i64 (1:Int)):=HL.out.x.cell 0;go_wp2_with fail;refine(K.out _).mono ?_;rintro e wB ⟨rfl,hb⟩;have p:=zH (HL.out.step hb);clear hb K HL;have aF:_=some (Value.int .i64 1):=p.out.x.cell 0;have aG:_=some (Value.string ⟨#[]⟩):=p.out.x.cell 1;have aI:=p.out.x.frozen 1;have V:Hid (LR w (wB.setCell ⟨b,1,none⟩ (.string nm)) b (x7 1 nm 0 0 0 ⟨#[]⟩ (.slice none 0 0))):=p.out.set 1 (.string nm);have y0:(wB.setCell ⟨b,1,none⟩ (.string nm)).cell? ⟨b,0,none⟩=some (.int .i64 1):=V.out.x.cell 0;clear p aH;go_wp2_with fail;generalize wB.setCell ⟨b,1,none⟩ (.string nm)=W2 at *;clear aF aG aI;refine(a0.out _).mono ?_;rintro e wC ⟨rfl,hb⟩;have X:=zH (V.out.step hb);have af:=zH (ag.out _ X.out.B);clear hb a0 V y0 ag;go_wp2_with fail;refine af.out.mono ?_;rintro e wD ⟨rfl,hb⟩;have ac:=zH (X.out.step hb);have kv:=Blk.new wD 81 #[va,vb,vc];have ak:zB wD (wD.alloc (.cells #[va,vb,vc] 81)):=zF.alloc zN _;have HL:=zH (ac.out.step ak);have C:=zH kv;clear hb ak X ac af kv;have v0:=C.out.cell 0;have v1:=C.out.cell 1;have v2:=C.out.cell 2;have e0:(wD.alloc (.cells #[va,vb,vc] 81)).cell? ⟨b,0,none⟩=some (.int .i64 1):=HL.out.x.cell 0;have e2:(wD.alloc (.cells #[va,vb,vc] 81)).cell? ⟨b,2,none⟩=some (.int .i64 0):=HL.out.x.cell 2;have e3:(wD.alloc (.cells #[va,vb,vc] 81)).cell? ⟨b,3,none⟩=some (.int .i64 0):=HL.out.x.cell 3;have e4:(wD.alloc (.cells #[va,vb,vc] 81)).cell? ⟨b,4,none⟩=some (.int .i64 0):=HL.out.x.cell 4;have aw:=HL.out.x.frozen 2;have ax:=HL.out.x.frozen 3;have ay:=HL.out.x.frozen 4;have a8:=(((HL.out.set 2 (.int .i64 va)).set 3 (.int .i64 vb)).set 4 (.int .i64 vc));have a2:Hid (LR w ((((wD.alloc (.cells #[va,vb,vc] 81)).setCell ⟨b,2,none⟩ (.int .i64 va)).setCell ⟨b,3,none⟩ (.int .i64 vb)).setCell ⟨b,4,none⟩ (.int .i64 vc)) b (x7 1 nm (va:Int) (vb:Int) (vc:Int) ⟨#[]⟩ (.slice none 0 0))):=a8;have m0:((((wD.alloc (.cells #[va,vb,vc] 81)).setCell ⟨b,2,none⟩ (.int .i64 va)).setCell ⟨b,3,none⟩ (.int .i64 vb)).setCell ⟨b,4,none⟩ (.int .i64 vc)).cell? ⟨b,0,none⟩=some (.int .i64 1):=a8.x.cell 0;clear a8 HL;go_upto_region 17 with fail;obtain⟨W5,ai⟩:∃W5,((((wD.alloc (.cells #[va,vb,vc] 81)).setCell ⟨b,2,none⟩ (.int .i64 va)).setCell ⟨b,3,none⟩ (.int .i64 vb)).setCell ⟨b,4,none⟩ (.int .i64 vc))=W5:=⟨_,rfl⟩;rw[ai] at a2 m0 ⊢;clear ai v0 v1 v2 e0 e2 e3 e4 aw ax ay C;have HL:=a2;clear a2;have aa:=zH (Q7 3 W5);go_wp2_with fail;refine aa.out.mono ?_;rintro e wE ⟨rfl,aj⟩;have hE:=HL.out.step aj;have aJ:_=some (Value.int .i64 0):=hE.z.cell 0;have aK:_=some (Value.string ⟨#[]⟩):=hE.z.cell 1;have aL:_=some (Value.int .i64 0):=hE.z.cell 2;have aM:_=some (Value.int .i64 0):=hE.z.cell 3;have aN:_=some (Value.int .i64 0):=hE.z.cell 4;have aO:_=some (Value.string ⟨#[]⟩):=hE.z.cell 5;have aP:_=some (Value.slice none 0 0):=hE.z.cell 6;have aQ:=hE.z.frozen 0;have aR:=hE.z.frozen 1;have aS:=hE.z.frozen 2;have aT:=hE.z.frozen 3;have aU:=hE.z.frozen 4;have aV:=hE.z.frozen 5;have aW:=hE.z.frozen 6;have az:_=some (Value.int .i64 0):=hE.f.cell 0;have aA:_=some (Value.int .i64 0):=hE.f.cell 1;have aB:=hE.f.frozen 0;have aC:=hE.f.frozen 1;obtain⟨Z,hZ,qz,qf,qB,-⟩:=hE.done (.int .i64 0) (.string ⟨#[]⟩) (.int .i64 0) (.int .i64 0) (.int .i64 0) (.string ⟨#[]⟩) (.slice none 0 0) (.int .i64 3) (.int .i64 (-1));have HZ:=zH hZ;have j:=zH qz;have ae:=zH qf;have av:=zH qB;clear hZ qz qf qB hE aj aa HL;go_wp2;clear aJ aK aL aM aN aO aP aQ aR aS aT aU aV aW az aA aB aC;rw[HZ.out];have r0:=j.out.cell 0;have r1:=j.out.cell 1;have r2:=j.out.cell 2;have r3:=j.out.cell 3;have r4:=j.out.cell 4;have r5:=j.out.cell 5;have r6:=j.out.cell 6;have s0:=ae.out.cell 0;have s1:=ae.out.cell 1;refine bodyPost_ret (v:=.tuple #[.agg z7,.agg #[(3:Int),.int .i64 (-1)]]) (by simp[results,Tryz.results36,go_sem,r0,r1,r2,r3,r4,r5,r6,s0,s1]) rfl ?_;exact⟨YB,none,0,3,-1,rfl,xD _,Ze,fun g hg=>by simp[Value.ownBlock] at hg,av.out,rfl,rfl,rfl⟩
theorem znN(s:ByteArray)(w:World)(hs:s.size<=100000)(hw:Lb w)(hF:yu w)(ad:Addr)(cap:Nat)(hK:xg w ad cap)(hk:zO (zb s 32).1=1)(va vb vc:Nat)(hver:zS (zb (zb (zb s 32).2 32).2 32).1=.ok [va,vb,vc])(hr:(zb (zb (zb s 32).2 32).2 32).2.size=0):zC 36 #[s] w (Qm w (.ok ⟨1,(zb (zb s 32).2 32).1,(va:Int),(vb:Int),(vc:Int),⟨#[]⟩,[]⟩)):=by
 have k0:=(Blk.new w 84 z7).alloc (.cells #[(0:Int),(0:Int)] 50);have k1:=Blk.new (w.alloc (.cells z7 84)) 50 #[(0:Int),(0:Int)];rw[zA0] at k1;have aj:zB w ((w.alloc (.cells z7 84)).alloc (.cells #[(0:Int),(0:Int)] 50)):=((Below.refl _ w).alloc zN _).alloc (by simp) _;have U:=zH k0;have u:=zH k1;have ab:=zH aj;have C:=zH (fun W=>yn s W hs);have ap:=(qD s 32).2;have b7:=zH hw;have ac:=zH hF;have au:=zH hK;obtain⟨w1,aH⟩:∃w1,(zb s 32).1=w1:=⟨_,rfl⟩;obtain⟨s2,M⟩:∃s2,(zb s 32).2=s2:=⟨_,rfl⟩;rw[aH] at hk C;rw[M] at ap C;have hz2':s2.size<=100000:=by omega
 have ae:Hid (∀k,1<=k->k<=4->((⟨(wl k).toArray⟩:ByteArray).toList==w1.toList)=decide (zO w1=k)):=fun k h1 h4=>Qw h1 h4;rw[hk] at ae;have J:=zH (fun W=>yn s2 W hz2');have aq:=(qD s2 32).2;obtain⟨nm,a7⟩:∃nm,(zb s2 32).1=nm:=⟨_,rfl⟩;obtain⟨s3,R⟩:∃s3,(zb s2 32).2=s3:=⟨_,rfl⟩;rw[a7] at J;rw[R] at aq J;have hz3':s3.size<=100000:=by omega
 have a0:=zH (fun W=>yn s3 W hz3');have ar:=qD s3 32;obtain⟨vw,a9⟩:∃vw,(zb s3 32).1=vw:=⟨_,rfl⟩;obtain⟨s4,a8⟩:∃s4,(zb s3 32).2=s4:=⟨_,rfl⟩;rw[a9,a8] at ar a0;have hz4':s4.size<=100000:=by omega
 have o:∀W,zB w W->zR 69 #[.string vw] W (QB (zS vw)):=fun W hb=>yR yQ vw W (by omega) (hw.below hb);rw[M,R,a9] at hver;rw[hver] at o;have ai:Hid (∀W,zB w W->zR 69 #[.string vw] W (.tuple #[.agg #[va,vb,vc],(0:Int)])):=o;clear o hver;rw[M,R,a8] at hr;rw[M,a7];have ba:(s4.toList==[])=true:=by
  rw[beq_iff_eq,ByteArray.toList_eq];exact List.length_eq_zero_iff.1 (by rw[Array.length_toList];exact hr)
 clear aq ar a7 R a9 hr a8;clear k0 k1 aj hw hF hK ap hs;go_enter Tryz.func36,Tryz.ntmps36;go_wp2_with fail;generalize (w.alloc (.cells z7 84)).alloc (.cells #[(0:Int),(0:Int)] 50)=W0 at *;refine(C.out _).mono ?_;rintro e wA ⟨rfl,a3⟩;have hx:=Blk.new wA 84 z7;have hA:zB wA (wA.alloc (.cells z7 84)):=zF.alloc zN _;have K:zB W0 (wA.alloc (.cells z7 84)):=zT a3 hA;have q:LR w (wA.alloc (.cells z7 84)) wA.heap.size z7:=⟨U.out.below K U.out.lt,u.out.below K u.out.lt,hx,Nat.lt_of_lt_of_le u.out.lt a3.size,zT ab.out K⟩;have Y:=zH q;clear a3 hx hA K q C U u ab;go_wp2_with fail;generalize wA.alloc (.cells z7 84)=W1 at *;obtain⟨b,hb⟩:∃b,wA.heap.size=b:=⟨_,rfl⟩;rw[hb] at Y ⊢;clear hb;go_loopw [7] (fun kV wr=>∃k:Nat,1<=k/\k<=5/\kV=.int .i64 k/\LR w wr b (x7 (kup 1 k) ⟨#[]⟩ 0 0 0 ⟨#[]⟩ (.slice none 0 0))) (fun kV _=>5-(intOf kV).toNat)
 case atStart=>exact⟨1,by omega,by omega,rfl,by rw[show kup 1 1=0 by unfold kup;split<;>omega];exact Y.out⟩
 case round =>
  clear Y;obtain⟨k,aF,b9,rfl,q⟩:=hrel;have HL:=zH q;clear q
  by_cases hlt:k<=4
  ·have a6:=au.out.below HL.out.B;have g0:=a6.c;have g1:=a6.s k (by omega);have hc:=ae.out k aF hlt;have x0:_=some (Value.int .i64 ((kup 1 k:Nat):Int)):=HL.out.x.cell 0;have xf:=HL.out.x.frozen 0;clear a6
   by_cases he:1=k
   ·have ao:=HL.out.set 0 (.int .i64 k);have a1:Hid (LR w (wr.setCell ⟨b,0,none⟩ (.int .i64 k)) b (x7 (kup 1 (k+1)) ⟨#[]⟩ 0 0 0 ⟨#[]⟩ (.slice none 0 0))):=by
     have e:kup 1 (k+1)=k:=by unfold kup;rw[zA2 (by omega)];exact he
     rw[e];exact ao
    rw[decide_eq_true he] at hc;generalize kup 1 k=KU at *;generalize (⟨(wl k).toArray⟩:ByteArray)=WK at *;clear ao he;go_wp2;go_roundw
    case rel=>exact⟨k+1,by omega,by omega,by go_num,a1.out⟩
    case measure=>simp[intOf];omega
   ·have a1:Hid (LR w wr b (x7 (kup 1 (k+1)) ⟨#[]⟩ 0 0 0 ⟨#[]⟩ (.slice none 0 0))):=by
     have e:kup 1 (k+1)=kup 1 k:=by
      unfold kup
      by_cases h:1<k
      ·rw[zA2 h,zA2 (by omega)]
      ·rw[zA1 h,zA1 (by omega)]
     rw[e];exact HL.out
    rw[decide_eq_false he] at hc;generalize kup 1 k=KU at *;generalize (⟨(wl k).toArray⟩:ByteArray)=WK at *;clear he;go_wp2;go_roundw
    case rel=>exact⟨k+1,by omega,by omega,by go_num,a1.out⟩
    case measure=>simp[intOf];omega
  ·obtain rfl:k=5:=by omega
   have an:kup 1 5=1:=by unfold kup;rw[zA2 (by omega)]
   rw[an] at HL;clear an;have aK:_=some (Value.int .i64 (1:Int)):=HL.out.x.cell 0;go_wp2_with fail;refine(J.out _).mono ?_;rintro e wB ⟨rfl,hb⟩;have p:=zH (HL.out.step hb);clear hb J HL;have aI:_=some (Value.int .i64 1):=p.out.x.cell 0;have aJ:_=some (Value.string ⟨#[]⟩):=p.out.x.cell 1;have aL:=p.out.x.frozen 1;have V:Hid (LR w (wB.setCell ⟨b,1,none⟩ (.string nm)) b (x7 1 nm 0 0 0 ⟨#[]⟩ (.slice none 0 0))):=p.out.set 1 (.string nm);have y0:(wB.setCell ⟨b,1,none⟩ (.string nm)).cell? ⟨b,0,none⟩=some (.int .i64 1):=V.out.x.cell 0;clear p aK;go_wp2_with fail;generalize wB.setCell ⟨b,1,none⟩ (.string nm)=W2 at *;clear aI aJ aL;refine(a0.out _).mono ?_;rintro e wC ⟨rfl,hb⟩;have X:=zH (V.out.step hb);have ah:=zH (ai.out _ X.out.B);clear hb a0 V y0 ai;go_wp2_with fail;refine ah.out.mono ?_;rintro e wD ⟨rfl,hb⟩;have af:=zH (X.out.step hb);have kv:=Blk.new wD 81 #[va,vb,vc];have am:zB wD (wD.alloc (.cells #[va,vb,vc] 81)):=zF.alloc zN _;have HL:=zH (af.out.step am);have y:=zH kv;clear hb am X af ah kv;have v0:=y.out.cell 0;have v1:=y.out.cell 1;have v2:=y.out.cell 2;have e0:(wD.alloc (.cells #[va,vb,vc] 81)).cell? ⟨b,0,none⟩=some (.int .i64 1):=HL.out.x.cell 0;have e2:(wD.alloc (.cells #[va,vb,vc] 81)).cell? ⟨b,2,none⟩=some (.int .i64 0):=HL.out.x.cell 2;have e3:(wD.alloc (.cells #[va,vb,vc] 81)).cell? ⟨b,3,none⟩=some (.int .i64 0):=HL.out.x.cell 3;have e4:(wD.alloc (.cells #[va,vb,vc] 81)).cell? ⟨b,4,none⟩=some (.int .i64 0):=HL.out.x.cell 4;have aw:=HL.out.x.frozen 2;have ax:=HL.out.x.frozen 3;have ay:=HL.out.x.frozen 4;have aa:=(((HL.out.set 2 (.int .i64 va)).set 3 (.int .i64 vb)).set 4 (.int .i64 vc));have a2:Hid (LR w ((((wD.alloc (.cells #[va,vb,vc] 81)).setCell ⟨b,2,none⟩ (.int .i64 va)).setCell ⟨b,3,none⟩ (.int .i64 vb)).setCell ⟨b,4,none⟩ (.int .i64 vc)) b (x7 1 nm (va:Int) (vb:Int) (vc:Int) ⟨#[]⟩ (.slice none 0 0))):=aa;have m0:((((wD.alloc (.cells #[va,vb,vc] 81)).setCell ⟨b,2,none⟩ (.int .i64 va)).setCell ⟨b,3,none⟩ (.int .i64 vb)).setCell ⟨b,4,none⟩ (.int .i64 vc)).cell? ⟨b,0,none⟩=some (.int .i64 1):=aa.x.cell 0;clear aa HL;go_upto_region 17 with fail;obtain⟨W5,ak⟩:∃W5,((((wD.alloc (.cells #[va,vb,vc] 81)).setCell ⟨b,2,none⟩ (.int .i64 va)).setCell ⟨b,3,none⟩ (.int .i64 vb)).setCell ⟨b,4,none⟩ (.int .i64 vc))=W5:=⟨_,rfl⟩;rw[ak] at a2 m0 ⊢;clear ak v0 v1 v2 e0 e2 e3 e4 aw ax ay y;have HE:=a2;clear a2;have a5:=ac.out.below HE.out.B;have aD:W5.cell? ⟨0,0,none⟩=some (.int .i64 0):=a5.c0;have aE:W5.cell? ⟨0,1,none⟩=some (.int .i64 (-1)):=a5.c1;have a4:=HE.out.ne;have aG:=ac.out.lt;have n1:¬0=w.heap.size:=by omega
   have n2:¬b=w.heap.size:=by omega
   have n3:¬b=w.heap.size+1:=by omega
   have n4:¬w.heap.size=0:=by omega
   clear a4 aG;have aT:_=some (Value.int .i64 0):=HE.out.z.cell 0;have aU:_=some (Value.string ⟨#[]⟩):=HE.out.z.cell 1;have aV:_=some (Value.int .i64 0):=HE.out.z.cell 2;have aW:_=some (Value.int .i64 0):=HE.out.z.cell 3;have aX:_=some (Value.int .i64 0):=HE.out.z.cell 4;have aY:_=some (Value.string ⟨#[]⟩):=HE.out.z.cell 5;have aZ:_=some (Value.slice none 0 0):=HE.out.z.cell 6;have b0:=HE.out.z.frozen 0;have b1:=HE.out.z.frozen 1;have b2:=HE.out.z.frozen 2;have b3:=HE.out.z.frozen 3;have b4:=HE.out.z.frozen 4;have b5:=HE.out.z.frozen 5;have b6:=HE.out.z.frozen 6;have az:_=some (Value.int .i64 0):=HE.out.f.cell 0;have aA:_=some (Value.int .i64 0):=HE.out.f.cell 1;have aB:=HE.out.f.frozen 0;have aC:=HE.out.f.frozen 1;have aM:_=some (Value.int .i64 1):=HE.out.x.cell 0;have aN:_=some (Value.string nm):=HE.out.x.cell 1;have aO:_=some (Value.int .i64 va):=HE.out.x.cell 2;have aP:_=some (Value.int .i64 vb):=HE.out.x.cell 3;have aQ:_=some (Value.int .i64 vc):=HE.out.x.cell 4;have aR:_=some (Value.string ⟨#[]⟩):=HE.out.x.cell 5;have aS:_=some (Value.slice none 0 0):=HE.out.x.cell 6;obtain⟨Z,hZ,qz,qf,qB,qN⟩:=HE.out.done (.int .i64 1) (.string nm) (.int .i64 va) (.int .i64 vb) (.int .i64 vc) (.string ⟨#[]⟩) (.slice none 0 0) (.int .i64 0) (.int .i64 (-1));have HZ:=zH hZ;have j:=zH qz;have ag:=zH qf;have av:=zH qB;have b8:=zH qN;clear hZ qz qf qB qN a5;go_wp2_with fail;go_big_region;clear aD aE n1 n2 n3 n4;clear aT aU aV aW aX aY aZ b0 b1 b2 b3 b4 b5 b6 az aA aB aC;clear aM aN aO aP aQ aR aS;rw[HZ.out];go_wp2;have r0:=j.out.cell 0;have r1:=j.out.cell 1;have r2:=j.out.cell 2;have r3:=j.out.cell 3;have r4:=j.out.cell 4;have r5:=j.out.cell 5;have r6:=j.out.cell 6;have s0:=ag.out.cell 0;have s1:=ag.out.cell 1;refine bodyPost_ret (v:=.tuple #[.agg #[(1:Int),.string nm,va,vb,vc,.string ⟨#[]⟩,(.slice none 0 0)],.agg #[(0:Int),.int .i64 (-1)]]) (by simp[results,Tryz.results36,go_sem,r0,r1,r2,r3,r4,r5,r6,s0,s1]) rfl ?_;refine⟨⟨1,nm,(va:Int),(vb:Int),(vc:Int),⟨#[]⟩,[]⟩,none,0,0,-1,rfl,xD _,Ze,fun g hg=>by simp[Value.ownBlock] at hg,av.out.drew,rfl,rfl,rfl⟩
end
section
open Go.RowKit Go.Shelf Sv
theorem zj0{s:ByteArray}{k:Int}{i:Nat}(h:Zi s=.error (k,i)):k≠0:=by
 unfold Zi at h;have pe:∀{t:ByteArray} {p:Nat} {k:Int} {i:Nat},yO t p=.error (k,i)->k≠0:=by
  intro t p k i h;unfold yO at h;have we:∀{l:List (Nat × ByteArray)} {st:List zf × Nat} {k:Int} {i:Nat},qF l st=.error (k,i)->k≠0:=by
   intro l
   induction l with
   |nil=>intro st k i h;cases h
   |cons x l ih =>
    intro st k i h;unfold qF at h;split at h
    ·exact ih h
    ·split at h
     ·rename_i hw;cases h;exact zf7 hw
     ·exact ih h
  split at h
  ·rename_i hw;cases h;exact we hw
  ·split at h
   ·cases h;decide
   ·cases h
 have go:∀{l:List (Nat × ByteArray)} {j:List zf} {k:Int} {i:Nat},qQ l j=.error (k,i)->k≠0:=by
  intro l
  induction l with
  |nil=>intro j k i h;cases h
  |cons x l ih =>
   intro j k i h;unfold qQ at h;split at h
   ·rename_i hp;cases h;exact pe hp
   ·exact ih h
 exact go h
end
end Go.Proofs.YthifnefkdjkicaaGreatDoor
