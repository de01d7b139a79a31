import Derived.Test.YtoffdbflfikcoaaGreatDoorad
open Go.Proofs.Tryz
set_option maxHeartbeats 4000000
set_option maxRecDepth 100000
namespace Go.Proofs.YtoffdbflfikcoaaGreatDoor
section
open Go.RowKit Go.Shelf Sv
attribute [local go_sem] Oper.semAt_some
theorem zoN(s:ByteArray)(w:World) :
  CallsIn Fence.wide 3 prog 35 #[s] w fun e w'=>e=.returned (.func (.func 78) #[] #[.pointer (some w)])/\w'=w.alloc (.cells #[s] 9):=by
 refine callsIn_of_wp func35 rfl trivial ?_ rfl;simp only[ntmps35,zrT,zrb,zrY,Nat.reduceAdd,Nat.reduceSub,zr6,zr5,zsq,zsb,zrX,zrL]
 gi_wp2
 go_ret;exact⟨rfl,rfl⟩
theorem za3{s:ByteArray}{k:Nat}(h:s.size<=k):∀f,yb s f k=[]
 |0=>rfl
 |f+1=>by rw[yb,zc3 h]
theorem zeq{s:ByteArray}{k:Nat}(h:k<s.size)(f:Nat):yb s (f+1) k=(if (zb (s.extract k s.size) 10).1.size=0 then [] else [(k,(zb (s.extract k s.size) 10).1)])++yb s f (k+(zb (s.extract k s.size) 10).1.size+1):=by
 rw[yb,zc2 (by omega)]
theorem zfL(s:ByteArray):∀(f k:Nat),(yb s f k).length<=f
 |0,_=>by simp[yb]
 |f+1,k=>by
  rw[yb];split
  ·simp
  ·have:=zfL s f (k+(zb (s.extract k s.size) 10).1.size+1);rw[zf4];split<;>simp<;>omega
def Kp1(bt:Nat)(W W':World):Prop:=W'.cell? bt=W.cell? bt/\W'.cell? ⟨5,0,none⟩=W.cell? ⟨5,0,none⟩
theorem zla(s:ByteArray)(m:Int)(W:World)(hs:s.size<=100000)(hm:W.cell? ⟨5,0,none⟩=some (.int .i64 m)) :
  zC 79 #[s,.string ⟨#[10]⟩] W fun e w'=>∃b,e=.returned (.tuple #[.string (zb s 10).1,.string (zb s 10).2,.bool b])/\∃n,w'=W.drewN n :=
 (Tryz.strings_Cut s ⟨#[10]⟩ m W (by omega) hm).mono fun e w' ⟨he,n,hn⟩=>⟨_,he,n,hn⟩
theorem zjL(l bt:Nat)(s:ByteArray)(hs:s.size<=20000)(J Jx:List Pc->World->Prop)
  (hJd:∀j W n,J j W->J j (W.drewN n))
  (hY:∀ j x W,J j W->j.length<(yb s s.size 0).length->YieldAt Fence.wide (3 - 1) prog l #[x.1.1,x.1.2] W fun e W' =>
   (e=.returned true/\J (j++[x]) W'/\Kp1 bt W W')\/(e=.returned false/\Jx (j++[x]) W'))
  (W:World) (h0:W.cell? bt=some (.string s)) (n:Int) (hn0:W.cell? ⟨5,0,none⟩=some (.int .i64 n)) (hJ:J [] W) :
  CallsIn Fence.wide 3 prog 78 #[.func (.yield l) #[] #[],.pointer (some bt)] W fun e W'=>(∃v,e=.returned v)/\((∃ys,zW ys=yb s s.size 0/\J ys W')\/(∃j,zW j <+: yb s s.size 0/\Jx j W')):=by
 have HY:=zH hY;have a2:=zH hJd;clear hY hJd;refine callsIn_of_wp func78 rfl trivial ?_ rfl;simp only[ntmps78,zrT,zrb,zrY,Nat.reduceAdd,Nat.reduceSub,zr6,zr5,zsq,zsb,zrX,zrL]
 gi_wp2
 gi_loopw [3] (fun p wr=>∃(j:List Pc) (k f:Nat),p=.int .i64 k/\k<=s.size+1/\s.size<=k+f/\zW j++yb s f k=yb s s.size 0/\wr.cell? bt=some (.string s)/\wr.cell? ⟨5,0,none⟩=some (.int .i64 n)/\J j wr)
  (fun p _=>s.size+1-(intOf p).toNat)
 case atStart=>exact⟨[],0,s.size,rfl,zf6 _,by omega,rfl,h0,hn0,hJ⟩
 case round =>
  obtain⟨j,k,f,rfl,hk,hf,hcut,c0,hn,Y⟩:=hrel;have HJ:=zH Y;have HC:=zH hcut;clear Y hcut;have HN:=zH hn;clear hn
  by_cases hlt:k<s.size
  ·obtain⟨f',rfl⟩:∃f',f=f'+1:=⟨f-1,by omega⟩;have hx:(s.extract k s.size).size=s.size-k:=by rw[zsX];omega
   have a5:=(qC (s.extract k s.size) 10).1;have hcut:=HC.out;rw[zeq hlt] at hcut;have o:=zH (zla (s.extract k s.size) n wr (by omega) HN.out);have i0:(0:Int)<=(k:Int):=by omega
   have i1:(k:Int)<=(s.size:Int):=by omega
   have a0:=fun W'=>run_slice_string (P:=prog) W' 9 s .i64 .i64 (k:Int) (s.size:Int) zrf i0 i1 (Int.le_refl _);simp only[zrh] at a0;generalize (zb (s.extract k s.size) 10).1=ln at *;generalize (zb (s.extract k s.size) 10).2=rs at *;have y:ln.size<=100000:=by omega
   have M:k<=100000:=by omega
   have HX:=zH hcut;clear hcut HC
   gi_wp2_with fail
   refine⟨trivial,?_⟩;refine(callsIn_wide.2 o.out).mono ?_;rintro e w1 ⟨b,rfl,nq,rfl⟩;have e0:(wr.drewN nq).cell? bt=some (.string s):=c0;have V:Hid ((wr.drewN nq).cell? ⟨5,0,none⟩=some (.int .i64 n)):=HN.out;have U:Hid (J j (wr.drewN nq)):=a2.out _ _ nq HJ.out;clear o a0 i0 i1 c0 HN HJ
   by_cases hz:ln.size=0
   ·have u:Hid (zW j++yb s f' (k+0+1)=yb s s.size 0):=by have h:=HX.out;rw[zc3 hz,hz] at h;exact h
    obtain rfl:=Qu hz;clear HX hz y a5
    gi_wp2
    refine⟨(fun f h=>by cases h),?_⟩
    gi_wp2
    go_roundw
    case rel=>exact⟨j,k+1,f',by go_num,by omega,by omega,u.out,e0,V.out,U.out⟩
    case measure=>simp[intOf];omega
   ·have Z:ln.toList.isEmpty=false:=Qr (by omega);have a7:(ln.toList==[])=false:=by rw[zf2];intro h;rw[h] at Z;cases Z
    have u:Hid (zW (j++[⟨(k,ln),M,y⟩])++yb s f' (k+ln.size+1)=yb s s.size 0):=by
     have h:=HX.out;rw[zc2 hz] at h;show _=_;rw[zW,zrv,zrH];exact h
    have q:j.length<(yb s s.size 0).length:=by
     have h:=zsj List.length u.out;rw[zf4,zW,zrs,zf4,zrb] at h;omega
    clear HX;obtain⟨fn,a6,C,a4,hy,hR⟩:=HY.out j ⟨(k,ln),M,y⟩ (wr.drewN nq) U.out q;dsimp only at hy;have a3:=zH q;clear q
    gi_wp2
    refine hR.mono ?_;rintro e W3 (⟨rfl,X,R⟩|⟨rfl,K⟩)
    ·have d0:W3.cell? bt=some (.string s):=R.1.trans e0;have d2:Hid (W3.cell? ⟨5,0,none⟩=some (.int .i64 n)):=R.2.trans V.out;have a1:=zH X;clear X R
     gi_wp2
     go_roundw
     case rel=>exact⟨j++[⟨(k,ln),M,y⟩],k+ln.size+1,f',by go_num,by omega,by omega,u.out,d0,d2.out,a1.out⟩
     case measure=>simp[intOf];omega
    ·gi_wp2
     refine zc4 (ztX rfl _ _ _) rfl ?_;exact⟨⟨_,rfl⟩,.inr ⟨_,⟨_,u.out⟩,K⟩⟩
  ·have hcut:=HC.out;rw[za3 (by omega),zrS] at hcut;have HX:=zH hcut;clear hcut HC
   gi_wp2
   refine zuC (ztX rfl _ _ _) rfl ?_;exact⟨⟨_,rfl⟩,.inl ⟨j,HX.out,HJ.out⟩⟩
theorem zpu(W:World)(n:Nat):W.grownBy (W.drewN n) none:=⟨rfl,rfl,rfl,zri _,fun _ _ _=>rfl⟩
theorem zhn(bt:Nat)(s:ByteArray)(hs:s.size<=20000)(w:World)(hbt:bt<w.heap.size)(h1:5<w.heap.size)(c0:w.cell? bt=some (.string s))(n:Int)(c2:w.cell? ⟨5,0,none⟩=some (.int .i64 n)) :
  SeqStopsK Fence.wide 3 prog 78 #[.pointer (some bt)] zdV (Kp1 bt) (fun ys=>zW ys=yb s s.size 0) (fun j=>zW j <+: yb s s.size 0) (yb s s.size 0).length w:=fun l J Jx W hW hJ _ hY h0 =>
 zjL l bt s hs J Jx (fun j W n h=>hJ j W _ none h (zpu W n) (fun r e=>by cases e)) hY W ((hW.cell (p:=bt) hbt).trans c0) n ((hW.cell (p:=⟨5,0,none⟩) h1).trans c2) h0
theorem zcj{bt:Nat}{A B C:World}(h:Kp1 bt A B)(k:Kp1 bt B C):Kp1 bt A C:=⟨k.1.trans h.1,k.2.trans h.2⟩
theorem ziZ{bt:Nat}{w:World}(hbt:bt<w.heap.size)(h1:5<w.heap.size)(W:World)(l:Nat)(o o':Obj)(hl:w.heap.size<=l)(_:W.heap[l]?=some o)(_:o.isCells=false)(_:o.isWalk=false):Kp1 bt W (W.putObj l o') :=
 ⟨XT (by omega),XT (by omega)⟩
theorem zaC{bt B:Nat}{W W':World}(h:Below B W W')(h1:bt<B)(h3:5<B):Kp1 bt W W':=⟨h.cell (p:=bt) h1,h.cell (p:=⟨5,0,none⟩) h3⟩
theorem zfv{bt b i:Nat}{W W':World}{v:Value}(h:Kp1 bt W W')(h1:bt≠b)(h3:5≠b):Kp1 bt W (W'.setCell ⟨b,i,none⟩ v):=⟨(qq h1).trans h.1,(qq h3).trans h.2⟩
end
section
open Go.RowKit Go.Shelf Sv
theorem zpe(s:ByteArray)(w:World)(hs:s.size<=100000)(hw:Lw w)(hk:zI (zb s 32).1=0) :
  zC 36 #[s] w (Kk w (.error (3,none))):=by
 have k0:=Blk.new w 107 z7;have j:zB w (w.alloc (.cells z7 107)):=(zf0 _ w).alloc zN _;have HC:=zH (Qf s 32 (w.alloc (.cells z7 107)) hs (hw.below j).lb);have HW:=zH (hw.below j);have HK:Hid (∀W,Qk W->zC 80 #[.string (zb s 32).1] W fun e w'=>e=.returned (.int .i64 0)/\w'=W):=fun W h=>by have:=JC (zb s 32).1 W h;rw[hk] at this;exact this
 have u:=(qC s 32).2;generalize (zb s 32).1=s1 at *;generalize (zb s 32).2=s2 at *;have hs2':s2.size<=100000:=by omega
 clear hk hs u;go_enter func36,ntmps36;go_wp2_with fail;generalize w.alloc (.cells z7 107)=W0 at *;refine HC.out.mono ?_;rintro e wC ⟨b,rfl,hb⟩;have o:=zH (HK.out wC (HW.out.below hb).wd);have k1:=k0.below hb k0.lt;have hB:zB w wC:=zT j hb;have q:=k1.lt;have y:=zH (HW.out.below hb);clear HC HK k0 j hb HW;go_wp2_with fail;refine o.out.mono ?_;rintro e w2 ⟨rfl,rfl⟩;clear o;have h1:LS w (w2.alloc (.cells #[(0:Int),.string ⟨#[]⟩,(0:Int),(0:Int),(0:Int),.string ⟨#[]⟩,.slice none 0 0] 107)) w2.heap.size #[(0:Int),.string ⟨#[]⟩,(0:Int),(0:Int),(0:Int),.string ⟨#[]⟩,.slice none 0 0]:=⟨k1.alloc _,Blk.new _ _ _,q,zL hB⟩;clear k1 hB;go_upto_region 3 with fail;generalize w2.alloc (.cells #[(0:Int),.string ⟨#[]⟩,(0:Int),(0:Int),(0:Int),.string ⟨#[]⟩,.slice none 0 0] 107)=W3 at *;obtain⟨a4,ab,a5,ac,a6,ad,a7,ae,a8,af,a9,ag,aa,ah⟩:=zcf h1.z;obtain⟨C,X,J,Y,K,Z,M,a0,R,a1,U,a2,V,a3⟩:=zcf h1.x;have HZ:Hid (Blk (((((((W3.setCell w (.int .i64 0)).setCell ⟨w.heap.size,1,none⟩ (.string ⟨#[]⟩)).setCell ⟨w.heap.size,2,none⟩ (.int .i64 0)).setCell ⟨w.heap.size,3,none⟩ (.int .i64 0)).setCell ⟨w.heap.size,4,none⟩ (.int .i64 0)).setCell ⟨w.heap.size,5,none⟩ (.string ⟨#[]⟩)).setCell ⟨w.heap.size,6,none⟩ (.slice none 0 0)) w.heap.size 107 #[(0:Int),.string ⟨#[]⟩,(0:Int),(0:Int),(0:Int),.string ⟨#[]⟩,.slice none 0 0]):=by
  have h:=h1.z;exact(((((((h.set (i:=0) (v:=.int .i64 0)).set (i:=1) (v:=.string ⟨#[]⟩)).set (i:=2) (v:=.int .i64 0)).set (i:=3) (v:=.int .i64 0)).set (i:=4) (v:=.int .i64 0)).set (i:=5) (v:=.string ⟨#[]⟩)).set (i:=6) (v:=.slice none 0 0))
 have HB:Hid (zB w (((((((W3.setCell w (.int .i64 0)).setCell ⟨w.heap.size,1,none⟩ (.string ⟨#[]⟩)).setCell ⟨w.heap.size,2,none⟩ (.int .i64 0)).setCell ⟨w.heap.size,3,none⟩ (.int .i64 0)).setCell ⟨w.heap.size,4,none⟩ (.int .i64 0)).setCell ⟨w.heap.size,5,none⟩ (.string ⟨#[]⟩)).setCell ⟨w.heap.size,6,none⟩ (.slice none 0 0))):=(((((((h1.B.setCell (p:=w) zN _).setCell (p:=⟨w.heap.size,1,none⟩) zN _).setCell (p:=⟨w.heap.size,2,none⟩) zN _).setCell (p:=⟨w.heap.size,3,none⟩) zN _).setCell (p:=⟨w.heap.size,4,none⟩) zN _).setCell (p:=⟨w.heap.size,5,none⟩) zN _).setCell (p:=⟨w.heap.size,6,none⟩) zN _);clear h1;go_wp2;generalize (((((((W3.setCell w (.int .i64 0)).setCell ⟨w.heap.size,1,none⟩ (.string ⟨#[]⟩)).setCell ⟨w.heap.size,2,none⟩ (.int .i64 0)).setCell ⟨w.heap.size,3,none⟩ (.int .i64 0)).setCell ⟨w.heap.size,4,none⟩ (.int .i64 0)).setCell ⟨w.heap.size,5,none⟩ (.string ⟨#[]⟩)).setCell ⟨w.heap.size,6,none⟩ (.slice none 0 0))=WF at *;have r0:_=some (Value.int .i64 0):=HZ.out.cell 0;have r1:_=some (Value.string ⟨#[]⟩):=HZ.out.cell 1;have r2:_=some (Value.int .i64 0):=HZ.out.cell 2;have r3:_=some (Value.int .i64 0):=HZ.out.cell 3;have r4:_=some (Value.int .i64 0):=HZ.out.cell 4;have r5:_=some (Value.string ⟨#[]⟩):=HZ.out.cell 5;have r6:_=some (Value.slice none 0 0):=HZ.out.cell 6;refine zc4 (v:=.tuple #[.agg #[(0:Int),.string ⟨#[]⟩,(0:Int),(0:Int),(0:Int),.string ⟨#[]⟩,.slice none 0 0],.iface 53 (.int .i64 3)]) (by simp[results,Tryz.f36,go_sem,r0,r1,r2,r3,r4,r5,r6]) rfl ?_;exact⟨_,rfl,rfl,HB.out⟩
theorem zov(s:ByteArray)(w:World)(hs:s.size<=100000)(hw:Lw w)(hk:zI (zb s 32).1=4) :
  zC 36 #[s] w (Kk w (xu 4 (zb (zb s 32).2 32).1 [] ⟨#[]⟩ (zb (zb s 32).2 32).2)):=by
 have k0:=Blk.new w 107 z7;have a3:zB w (w.alloc (.cells z7 107)):=(zf0 _ w).alloc zN _;have HC:=zH (Qf s 32 (w.alloc (.cells z7 107)) hs (hw.below a3).lb);have HW:=zH (hw.below a3);have HK:Hid (∀W,Qk W->zC 80 #[.string (zb s 32).1] W fun e w'=>e=.returned (.int .i64 4)/\w'=W):=fun W h=>by have:=JC (zb s 32).1 W h;rw[hk] at this;exact this
 have aE:=(qC s 32).2;generalize (zb s 32).1=s1 at *;generalize (zb s 32).2=s2 at *;have hs2':s2.size<=100000:=by omega
 have an:=zH hw;clear hk hs aE hw;go_enter func36,ntmps36;go_wp2_with fail;generalize w.alloc (.cells z7 107)=W0 at *;refine HC.out.mono ?_;rintro e wC ⟨b,rfl,hb⟩;have am:=zH (HK.out wC (HW.out.below hb).wd);have k1:=k0.below hb k0.lt;have hB:zB w wC:=zT a3 hb;have aD:=k1.lt;have aC:=zH (HW.out.below hb);clear HC HK k0 a3 hb HW;go_wp2_with fail;refine am.out.mono ?_;rintro e w2 ⟨rfl,rfl⟩;clear am;have h1:LS w (w2.alloc (.cells #[(4:Int),.string ⟨#[]⟩,(0:Int),(0:Int),(0:Int),.string ⟨#[]⟩,.slice none 0 0] 107)) w2.heap.size #[(4:Int),.string ⟨#[]⟩,(0:Int),(0:Int),(0:Int),.string ⟨#[]⟩,.slice none 0 0]:=⟨k1.alloc _,Blk.new _ _ _,aD,zL hB⟩;clear k1 hB;go_upto_region 3 with fail;generalize w2.alloc (.cells #[(4:Int),.string ⟨#[]⟩,(0:Int),(0:Int),(0:Int),.string ⟨#[]⟩,.slice none 0 0] 107)=W3 at *;generalize w2.heap.size=b1 at *;clear aC;obtain⟨a7,ae,a8,af,a9,ag,aa,ah,ab,ai,ac,aj,ad,ak⟩:=zcf h1.z;obtain⟨j,K,o,M,q,R,u,U,y,V,C,X,J,Y⟩:=zcf h1.x;go_wp2_with fail;clear a7 ae a8 af a9 ag aa ah ab ai ac aj ad ak j K o M q R u U y V C X J Y;have HC:=zH (Qf s2 32 W3 (by omega) (an.out.below h1.B).lb);have aG:=qC s2 32;generalize (zb s2 32).1=n1 at *;generalize (zb s2 32).2=n2 at *;obtain⟨aH,aI⟩:=aG;refine HC.out.mono ?_;rintro e w4 ⟨aL,rfl,ao⟩;have h4:=h1.step ao;clear HC ao;have h5:LS w (w4.setCell ⟨b1,1,none⟩ (.string n1)) b1 #[(4:Int),n1,(0:Int),(0:Int),(0:Int),.string ⟨#[]⟩,.slice none 0 0]:=(h4.set 1 (.string n1));obtain⟨j,K,o,M,q,R,u,U,y,V,C,X,J,Y⟩:=zcf h4.x;have H5:=zH h5;clear h5;go_upto_region 7 with fail;have h5:=H5.out;clear h4 H5 j K o M q R u U y V C X J Y;generalize (w4.setCell ⟨b1,1,none⟩ (.string n1))=W5 at *;obtain⟨j,K,o,M,q,R,u,U,y,V,C,X,J,Y⟩:=zcf h5.x;go_wp2_with fail;clear j K o M q R u U y V C X J Y;have HP:Hid (zC 82 #[.agg #[(4:Int),n1,(0:Int),(0:Int),(0:Int),.string ⟨#[]⟩,.slice none 0 0]] W5 fun e w'=>e=.returned false/\w'=W5.alloc (.cells #[(4:Int),n1,(0:Int),(0:Int),(0:Int),.string ⟨#[]⟩,.slice none 0 0] 107)):=yE ⟨4,n1,0,0,0,⟨#[]⟩,[]⟩ (.slice none 0 0) W5;refine HP.out.mono ?_;rintro e w6 ⟨rfl,aw⟩;have aq:zB W5 w6:=by rw[aw];exact zF.alloc zN _
 have h6:=h5.step aq;clear HP aw aq h5;go_wp2_with fail;have HR:=zH (zcJ n2 w6 (by omega) (an.out.below h6.B).lb);refine HR.out.mono ?_;rintro e w7 ⟨ra,rn,rc,er,rfl,a0,Z,ar⟩;have h7:=h6.step ar;have ax:=h6.B.size;have aJ:=h6.x.lt;have aK:=h6.z.lt;have ay:Hid ((Value.slice ra rn rc).ownBlock≠some b1):=fun h=>by have:=Z _ h;omega
 have az:Hid ((Value.slice ra rn rc).ownBlock≠some w.heap.size):=fun h=>by have:=Z _ h;omega
 have a2:Hid (∀g,(Value.slice ra rn rc).ownBlock=some g->w.heap.size<=g):=fun g hg=>zf1 ax (Z g hg);clear HR ar Z ax aJ aK;cases hx:xz n2 with
 |error e2 =>
  obtain⟨k2,p2⟩:=e2;rw[hx] at a0;obtain⟨aF,a1⟩:=a0;cases aF;obtain⟨et,ev,rfl⟩:=a1.form;have hS:LS w (w7.setCell ⟨b1,6,none⟩ (.slice none 0 0)) b1 #[(4:Int),n1,(0:Int),(0:Int),(0:Int),.string ⟨#[]⟩,.slice none 0 0]:=(h7.set 6 (.slice none 0 0));have a5:=zH a1;clear a1;obtain⟨j,K,o,M,q,R,u,U,y,V,C,X,J,Y⟩:=zcf h7.x;have HS:=zH hS;clear hS;go_upto_region 20 with fail;have hS:=HS.out;have a4:Hid (ye (w7.setCell ⟨b1,6,none⟩ (.slice none 0 0)) (.iface et ev) k2 p2):=a5.out.setx h7;clear h7 j K o M q R u U y V C X J Y;generalize (w7.setCell ⟨b1,6,none⟩ (.slice none 0 0))=W9 at *;obtain⟨a7,ae,a8,af,a9,ag,aa,ah,ab,ai,ac,aj,ad,ak⟩:=zcf hS.z;have HE:Hid (ye (((((((W9.setCell w (.int .i64 0)).setCell ⟨w.heap.size,1,none⟩ (.string ⟨#[]⟩)).setCell ⟨w.heap.size,2,none⟩ (.int .i64 0)).setCell ⟨w.heap.size,3,none⟩ (.int .i64 0)).setCell ⟨w.heap.size,4,none⟩ (.int .i64 0)).setCell ⟨w.heap.size,5,none⟩ (.string ⟨#[]⟩)).setCell ⟨w.heap.size,6,none⟩ (.slice none 0 0)) (.iface et ev) k2 p2):=a4.out.setz hS;have HZ:Hid (Blk (((((((W9.setCell w (.int .i64 0)).setCell ⟨w.heap.size,1,none⟩ (.string ⟨#[]⟩)).setCell ⟨w.heap.size,2,none⟩ (.int .i64 0)).setCell ⟨w.heap.size,3,none⟩ (.int .i64 0)).setCell ⟨w.heap.size,4,none⟩ (.int .i64 0)).setCell ⟨w.heap.size,5,none⟩ (.string ⟨#[]⟩)).setCell ⟨w.heap.size,6,none⟩ (.slice none 0 0)) w.heap.size 107 #[(0:Int),.string ⟨#[]⟩,(0:Int),(0:Int),(0:Int),.string ⟨#[]⟩,.slice none 0 0]):=by
   have h:=hS.z;exact(((((((h.set (i:=0) (v:=.int .i64 0)).set (i:=1) (v:=.string ⟨#[]⟩)).set (i:=2) (v:=.int .i64 0)).set (i:=3) (v:=.int .i64 0)).set (i:=4) (v:=.int .i64 0)).set (i:=5) (v:=.string ⟨#[]⟩)).set (i:=6) (v:=.slice none 0 0))
  have HB:Hid (zB w (((((((W9.setCell w (.int .i64 0)).setCell ⟨w.heap.size,1,none⟩ (.string ⟨#[]⟩)).setCell ⟨w.heap.size,2,none⟩ (.int .i64 0)).setCell ⟨w.heap.size,3,none⟩ (.int .i64 0)).setCell ⟨w.heap.size,4,none⟩ (.int .i64 0)).setCell ⟨w.heap.size,5,none⟩ (.string ⟨#[]⟩)).setCell ⟨w.heap.size,6,none⟩ (.slice none 0 0))):=(((((((hS.B.setCell (p:=w) zN _).setCell (p:=⟨w.heap.size,1,none⟩) zN _).setCell (p:=⟨w.heap.size,2,none⟩) zN _).setCell (p:=⟨w.heap.size,3,none⟩) zN _).setCell (p:=⟨w.heap.size,4,none⟩) zN _).setCell (p:=⟨w.heap.size,5,none⟩) zN _).setCell (p:=⟨w.heap.size,6,none⟩) zN _);clear hS;go_wp2;generalize (((((((W9.setCell w (.int .i64 0)).setCell ⟨w.heap.size,1,none⟩ (.string ⟨#[]⟩)).setCell ⟨w.heap.size,2,none⟩ (.int .i64 0)).setCell ⟨w.heap.size,3,none⟩ (.int .i64 0)).setCell ⟨w.heap.size,4,none⟩ (.int .i64 0)).setCell ⟨w.heap.size,5,none⟩ (.string ⟨#[]⟩)).setCell ⟨w.heap.size,6,none⟩ (.slice none 0 0))=WF at *;have r0:_=some (Value.int .i64 0):=HZ.out.cell 0;have r1:_=some (Value.string ⟨#[]⟩):=HZ.out.cell 1;have r2:_=some (Value.int .i64 0):=HZ.out.cell 2;have r3:_=some (Value.int .i64 0):=HZ.out.cell 3;have r4:_=some (Value.int .i64 0):=HZ.out.cell 4;have r5:_=some (Value.string ⟨#[]⟩):=HZ.out.cell 5;have r6:_=some (Value.slice none 0 0):=HZ.out.cell 6;refine zc4 (v:=.tuple #[.agg #[(0:Int),.string ⟨#[]⟩,(0:Int),(0:Int),(0:Int),.string ⟨#[]⟩,.slice none 0 0],.iface et ev]) (by simp[results,Tryz.f36,go_sem,r0,r1,r2,r3,r4,r5,r6]) rfl ?_;have ht:xu 4 n1 [] ⟨#[]⟩ n2=.error (k2,p2):=by unfold xu;rw[hx]
  rw[ht];exact⟨_,rfl,HE.out,HB.out⟩
 |ok l =>
  rw[hx] at a0;obtain⟨rfl,av,au⟩:=a0;have hS:LS w (w7.setCell ⟨b1,6,none⟩ (.slice ra rn rc)) b1 #[(4:Int),n1,(0:Int),(0:Int),(0:Int),.string ⟨#[]⟩,.slice ra rn rc]:=(h7.set 6 (.slice ra rn rc));obtain⟨j,K,o,M,q,R,u,U,y,V,C,X,J,Y⟩:=zcf h7.x;have HS:=zH hS;have aB:Hid (zk (w7.setCell ⟨b1,6,none⟩ (.slice ra rn rc)) (.slice ra rn rc) l):=av.one ay.out;have aA:=zH au;clear hS av au;go_upto_region 21 with fail;have hS:=HS.out;clear h7 j K o M q R u U y V C X J Y;generalize (w7.setCell ⟨b1,6,none⟩ (.slice ra rn rc))=W9 at *;obtain⟨a7,ae,a8,af,a9,ag,aa,ah,ab,ai,ac,aj,ad,ak⟩:=zcf hS.z;obtain⟨j,K,o,M,q,R,u,U,y,V,C,X,J,Y⟩:=zcf hS.x;have a6:Hid (zk (((((((W9.setCell w (.int .i64 4)).setCell ⟨w.heap.size,1,none⟩ (.string n1)).setCell ⟨w.heap.size,2,none⟩ (.int .i64 0)).setCell ⟨w.heap.size,3,none⟩ (.int .i64 0)).setCell ⟨w.heap.size,4,none⟩ (.int .i64 0)).setCell ⟨w.heap.size,5,none⟩ (.string ⟨#[]⟩)).setCell ⟨w.heap.size,6,none⟩ (.slice ra rn rc)) (.slice ra rn rc) l):=aB.out.all7 az.out;have aM:=hS.ne;have HZ:Hid (Blk (((((((W9.setCell w (.int .i64 4)).setCell ⟨w.heap.size,1,none⟩ (.string n1)).setCell ⟨w.heap.size,2,none⟩ (.int .i64 0)).setCell ⟨w.heap.size,3,none⟩ (.int .i64 0)).setCell ⟨w.heap.size,4,none⟩ (.int .i64 0)).setCell ⟨w.heap.size,5,none⟩ (.string ⟨#[]⟩)).setCell ⟨w.heap.size,6,none⟩ (.slice ra rn rc)) w.heap.size 107 #[(4:Int),n1,(0:Int),(0:Int),(0:Int),.string ⟨#[]⟩,.slice ra rn rc]):=by
   have h:=hS.z;exact(((((((h.set (i:=0) (v:=.int .i64 4)).set (i:=1) (v:=.string n1)).set (i:=2) (v:=.int .i64 0)).set (i:=3) (v:=.int .i64 0)).set (i:=4) (v:=.int .i64 0)).set (i:=5) (v:=.string ⟨#[]⟩)).set (i:=6) (v:=.slice ra rn rc))
  have HB:Hid (zB w (((((((W9.setCell w (.int .i64 4)).setCell ⟨w.heap.size,1,none⟩ (.string n1)).setCell ⟨w.heap.size,2,none⟩ (.int .i64 0)).setCell ⟨w.heap.size,3,none⟩ (.int .i64 0)).setCell ⟨w.heap.size,4,none⟩ (.int .i64 0)).setCell ⟨w.heap.size,5,none⟩ (.string ⟨#[]⟩)).setCell ⟨w.heap.size,6,none⟩ (.slice ra rn rc))):=(((((((hS.B.setCell (p:=w) zN _).setCell (p:=⟨w.heap.size,1,none⟩) zN _).setCell (p:=⟨w.heap.size,2,none⟩) zN _).setCell (p:=⟨w.heap.size,3,none⟩) zN _).setCell (p:=⟨w.heap.size,4,none⟩) zN _).setCell (p:=⟨w.heap.size,5,none⟩) zN _).setCell (p:=⟨w.heap.size,6,none⟩) zN _);clear hS;go_wp2;generalize (((((((W9.setCell w (.int .i64 4)).setCell ⟨w.heap.size,1,none⟩ (.string n1)).setCell ⟨w.heap.size,2,none⟩ (.int .i64 0)).setCell ⟨w.heap.size,3,none⟩ (.int .i64 0)).setCell ⟨w.heap.size,4,none⟩ (.int .i64 0)).setCell ⟨w.heap.size,5,none⟩ (.string ⟨#[]⟩)).setCell ⟨w.heap.size,6,none⟩ (.slice ra rn rc))=WF at *;have r0:_=some (Value.int .i64 4):=HZ.out.cell 0;have r1:_=some (Value.string n1):=HZ.out.cell 1;have r2:_=some (Value.int .i64 0):=HZ.out.cell 2;have r3:_=some (Value.int .i64 0):=HZ.out.cell 3;have r4:_=some (Value.int .i64 0):=HZ.out.cell 4;have r5:_=some (Value.string ⟨#[]⟩):=HZ.out.cell 5;have r6:_=some (Value.slice ra rn rc):=HZ.out.cell 6;refine zc4 (v:=.tuple #[.agg #[(4:Int),n1,(0:Int),(0:Int),(0:Int),.string ⟨#[]⟩,.slice ra rn rc],.nilIface]) (by simp[results,Tryz.f36,go_sem,r0,r1,r2,r3,r4,r5,r6]) rfl ?_;have ht:xu 4 n1 [] ⟨#[]⟩ n2=.ok ⟨4,n1,0,0,0,⟨#[]⟩,l⟩:=by unfold xu;rw[hx];rfl
  rw[ht];exact⟨_,rfl,a6.out,aA.out,a2.out,HB.out⟩
end
