import Derived.Test.YtoffdbflfikcoaaGreatDooraw
open Go.Proofs.Tryz Go.RowKit
set_option maxHeartbeats 4000000
set_option maxRecDepth 100000
namespace Go.Proofs.YtoffdbflfikcoaaGreatDoor
section
open Go.Shelf Sv
theorem zbl(s m:ByteArray):∀(f k:Nat),k<=s.size->∀i,(h:i<(zq s m f k).length)->(i=0->((zq s m f k)[i]).1=k)/\((zq s m f k)[i]).1+((zq s m f k)[i]).2.size<=s.size/\(∀h2:i+1<(zq s m f k).length,((zq s m f k)[i+1]).1=((zq s m f k)[i]).1+((zq s m f k)[i]).2.size+m.size):=by
 intro f
 induction f with
 |zero =>
  intro k hk i h;have e:zq s m 0 k=[(k,s.extract k s.size)]:=rfl;simp only[e] at h ⊢;simp only[zr9] at h;obtain rfl:i=0:=by omega
  refine⟨fun _=>rfl,?_,fun h2=>by simp at h2⟩;simp;omega
 |succ f ih =>
  intro k hk i h
  by_cases hn:Lib.index (s.extract k s.size).data.toList m.data.toList<0
  ·have e:=Kt hn (f+1);simp only[e] at h ⊢;simp only[zr9] at h;obtain rfl:i=0:=by omega
   refine⟨fun _=>rfl,?_,fun h2=>by simp at h2⟩;simp;omega
  ·obtain⟨j,hj⟩:∃j:Nat,Lib.index (s.extract k s.size).data.toList m.data.toList=(j:Int):=⟨(Lib.index (s.extract k s.size).data.toList m.data.toList).toNat,by omega⟩;have o:=YX (s.extract k s.size).data.toList m.data.toList (by omega);rw[hj] at o;have u:(s.extract k s.size).data.toList.length=s.size-k:=by
    show (s.extract k s.size).data.toList.length=_;rw[zsZ];show (s.extract k s.size).size=_;simp
   have q:m.data.toList.length=m.size:=by rw[zsZ];rfl
   rw[u,q] at o;simp only[zrh] at o;have e:=Je (f:=f) hj;simp only[e] at h ⊢;have p:=ih (k+j+m.size) (by omega);cases i with
   |zero =>
    refine⟨fun _=>rfl,?_,fun h2=>?_⟩
    ·simp;omega
    ·simp only[List.getElem_cons_zero,zuh];have:=(p 0 (by simpa using h2)).1 rfl;rw[this];simp;omega
   |succ i =>
    refine⟨fun h0=>by omega,?_,fun h2=>?_⟩
    ·simp only[zuh];exact(p i (by simpa using h)).2.1
    ·simp only[zuh];exact(p i (by simpa using h)).2.2 (by simpa using h2)
def px(L:List (Nat × ByteArray))(k:Nat):Nat × ByteArray:=L.getD k (0,⟨#[]⟩)
theorem QA(L:List (Nat × ByteArray))(k:Nat)(h:k<L.length):px L k=L[k]:=by unfold px;simp[List.getD_eq_getElem?_getD,List.getElem?_eq_getElem h]
structure zkt(s m:ByteArray)(L:List (Nat × ByteArray)):Prop where
 pos:0<L.length
 len:L.length<=s.size+1
 first:(px L 0).1=0
 room:∀k,k<L.length->(px L k).1+(px L k).2.size<=s.size
 next:∀k,k+1<L.length->(px L (k+1)).1=(px L k).1+(px L k).2.size+m.size
theorem zac(s m:ByteArray):zkt s m (zq s m s.size 0):=by
 refine⟨J2 _ _ _ _,by have:=zdw s m s.size 0;omega,?_,fun k hk=>?_,fun k hk=>?_⟩
 ·rw[QA _ _ (J2 _ _ _ _)];exact(zbl s m s.size 0 (zf6 _) 0 (J2 _ _ _ _)).1 rfl
 ·rw[QA _ _ hk];exact(zbl s m s.size 0 (zf6 _) k hk).2.1
 ·rw[QA _ _ hk,QA _ _ (by omega)];exact(zbl s m s.size 0 (zf6 _) k (by omega)).2.2 hk
theorem zk1{L:List (Nat × ByteArray)}{k:Nat}{st:List zf × Nat}(hk:k<L.length)(h:qH (L.take k) (zm,0)=.ok st):qH (L.take (k+1)) (zm,0)=if (px L k).2.toList=[] then .ok st else match Za (px L k).2 with
  |.error q=>.error (q,(px L k).1)
  |.ok l=>.ok (nd st.1 l,st.2+1):=by
 rw[zry hk,JB,h,QA L k hk];show qH [L[k]] st=_;unfold qH;split
 ·rfl
 ·cases Za L[k].2 with
  |error q=>rfl
  |ok l=>rfl
theorem zi8{L:List (Nat × ByteArray)}{k:Nat}{q:Int × Nat}(h:qH (L.take k) (zm,0)=.error q):qH L (zm,0)=.error q:=by
 have:=JB (L.take k) (L.drop k) (zm,0);rw[zrN,h] at this;exact this
theorem zq8{L:List (Nat × ByteArray)}{k:Nat}{acc:List zf}(hk:k<L.length)(h:qW (L.take k) []=.ok acc):qW (L.take (k+1)) []=match yQ (px L k).2 (px L k).1 with
  |.error q=>.error q
  |.ok l=>.ok (orr acc l):=by
 rw[zry hk,Jp,h,QA L k hk];show qW [L[k]] acc=_;unfold qW;cases yQ L[k].2 L[k].1 with
 |error q=>rfl
 |ok l=>rfl
theorem zgr{L:List (Nat × ByteArray)}{k:Nat}{q:Int × Nat}(h:qW (L.take k) []=.error q):qW L []=.error q:=by
 have:=Jp (L.take k) (L.drop k) [];rw[zrN,h] at this;exact this
structure yA(w:World):Prop where
 c0:w.cell? ⟨0,0,none⟩=some (.int .i64 0)
 c1:w.cell? ⟨0,1,none⟩=some (.int .i64 (-1))
 lt:0<w.heap.size
theorem yA.below{w w':World}(h:yA w)(hb:zB w w'):yA w':=⟨(hb.cell (p:=⟨0,0,none⟩) h.lt).trans h.c0,(hb.cell (p:=⟨0,1,none⟩) h.lt).trans h.c1,zc6 h.lt hb.size⟩
def zip(m:List Nat)(k p:Int):Except (Int × Nat) (List zf)->Prop
 |.ok l=>m=tp l/\k=0/\p=-1
 |.error (q,i)=>m=[]/\k=q/\p=(i:Int)
def znd(w:World)(x:Except (Int × Nat) (List zf))(e:Ending)(w':World):Prop:=∃(m:List Nat) (a:Option Addr) (c:Nat) (k p:Int),e=.returned (.tuple #[.slice a m.length c,.agg #[k,p]])/\zE w' (.slice a m.length c) m/\(∀g,(Value.slice a m.length c).ownBlock=some g->w.heap.size<=g)/\zB w w'/\zip m k p x
end
section
open Go.Shelf Sv
theorem zaD(s m:ByteArray)(hm:1<=m.size)(W:World)(hs:s.size<=100000)(hw:Lb W):zC 32 #[s,m] W fun e w'=>e=.returned (.slice (some W) (zq s m s.size 0).length (zq s m s.size 0).length)/\Blk w' W.heap.size 9 (((zq s m s.size 0).map (·.2)).map Value.string).toArray/\zB W w':=by
 obtain⟨n,hn⟩:=hw.ml;have h:=zdt s m hm s.size 0 (by omega) (zf6 _);have hx:s.extract 0 s.size=s:=XX (by rw[Lib.extract_to_end];simp);rw[hx] at h;have j:Lib.countB s m+1=(zq s m s.size 0).length:=by
  have h2:=zsj List.length h;rw[zrs,Lib.splitB_all _ hm 0 _ s rfl] at h2;exact h2
 refine(Tryz.strings_Split s m n W (by omega) hn hm).mono fun e w' ⟨he,hw'⟩=>?_;rw[j] at he;rw[h] at hw';exact⟨he,hw'▸Blk.new _ _ _,hw'▸zF.alloc zN _⟩
theorem zeM{W:World}{b:Nat}{L:List (Nat × ByteArray)}(h:Blk W b 9 ((L.map (·.2)).map Value.string).toArray){k:Nat}(hk:k<L.length):W.cell? ⟨b,k,none⟩=some (.string (px L k).2):=by
 rw[h.cell k,QA L k hk];simp[hk]
theorem zjS(s:ByteArray)(w:World)(hs:¬s.size<=1000):zR 76 #[s] w (.tuple #[.slice none 0 0,.agg #[(4:Int),.int .i64 (-1)]]):=by
 have h1:(1000:Int)<(s.size:Int):=by omega
 have o:=zH (fun W=>Xm 4 W);have k0:=Blk.new w 55 #[(0:Int),(0:Int)];have hB:zB w (w.alloc (.cells #[(0:Int),(0:Int)] 55)):=zF.alloc zN _;have HK:=zH k0;have HB:=zH hB;clear k0 hB hs;go_enter func76,ntmps76;go_wp2_with fail;generalize w.alloc (.cells #[(0:Int),(0:Int)] 55)=W0 at *;refine(o.out _).mono ?_;rintro e w1 ⟨rfl,j⟩;have k1:=HK.out.below j HK.out.lt;have c0:=k1.cell 0;have c1:=k1.cell 1;have f0:=k1.frozen 0;have f1:=k1.frozen 1;have q:=(k1.set (i:=0) (v:=.int .i64 4)).set (i:=1) (v:=.int .i64 (-1));have HQ:=zH q;have u:Hid (zB w ((w1.setCell w (.int .i64 4)).setCell ⟨w.heap.size,1,none⟩ (.int .i64 (-1)))):=((zT HB.out j).setCell (p:=w) zN _).setCell (p:=⟨w.heap.size,1,none⟩) zN _;clear j k1 q HK;go_wp2;have r0:=HQ.out.cell 0;have r1:=HQ.out.cell 1;refine zc4 (v:=.tuple #[.slice none 0 0,.agg #[(4:Int),.int .i64 (-1)]]) (by simp[results,results76,go_sem,r0,r1]) rfl ?_;exact⟨rfl,u.out⟩
theorem zmy(s:ByteArray)(w:World)(hs:s.size<=1000)(hw:Lb w)(hF:yA w):zC 76 #[s] w (znd w (Zr s)):=by
 have h1:¬(1000:Int)<(s.size:Int):=by omega
 have k0:=Blk.new w 55 #[(0:Int),(0:Int)];have hB:zB w (w.alloc (.cells #[(0:Int),(0:Int)] 55)):=zF.alloc zN _;have HK:=zH k0;have HB:=zH hB;have HW:=zH hw;have bj:=zH hF;have b7:Hid (∀W,zB w W->zC 32 #[s,.string ⟨#[124,124]⟩] W fun e w'=>e=.returned (.slice (some W) (zq s ⟨#[124,124]⟩ s.size 0).length (zq s ⟨#[124,124]⟩ s.size 0).length)/\Blk w' W.heap.size 9 (((zq s ⟨#[124,124]⟩ s.size 0).map (·.2)).map Value.string).toArray/\zB W w'):=fun W hb=>zaD s ⟨#[124,124]⟩ (by decide) W (by omega) (hw.below hb);have HC:=zH (zac s ⟨#[124,124]⟩);have HR:Hid (Zr s=qW (zq s ⟨#[124,124]⟩ s.size 0) []):=rfl;clear k0 hB hw hF;generalize zq s ⟨#[124,124]⟩ s.size 0=L at *;generalize Zr s=RF at *;go_enter func76,ntmps76;go_wp2_with fail;generalize w.alloc (.cells #[(0:Int),(0:Int)] 55)=W0 at *;refine(b7.out _ HB.out).mono ?_;rintro e w1 ⟨rfl,hL,aW⟩;have aI:Hid (zB w w1):=zT HB.out aW;have a7:=zH (HK.out.below aW HK.out.lt);have HL:=zH hL;have bq:w.heap.size<w1.heap.size:=a7.out.lt;have bv:=HC.out.len;clear hL aW b7 HK HB;go_wp2_with fail
 rename World=>w1
 go_loopw [4,5,22] (fun oV bV jV wr=>∃(j:Nat) (J:List zf) (B:Nat) (oa:Option Addr) (oc:Nat),j<=L.length/\jV=.int .i64 j/\bV=.int .i64 B/\(j<L.length->B=(px L j).1)/\B<=1002/\qW (L.take j) []=.ok J/\Rg J/\oV=.slice oa (tp J).length oc/\zE wr (.slice oa (tp J).length oc) (tp J)/\(∀g,(Value.slice oa (tp J).length oc).ownBlock=some g->w1.heap.size<=g)/\zB w1 wr) (fun _ _ jV _=>L.length-(intOf jV).toNat)
 case atStart=>exact⟨0,[],0,none,0,zf6 _,rfl,rfl,fun _=>HC.out.first.symm,by omega,rfl,Zu,rfl,xM _,fun g hg=>by simp[Value.ownBlock] at hg,zf0 _ _⟩
 case round =>
  obtain⟨j,J,B,oa,oc,hj,rfl,rfl,ba,bu,ad,ay,rfl,bg,bd,aY⟩:=hrel;have aN:=zH bg;have aL:=zH bd;have aF:=zH aY;have aO:=zH ad;have af:=zH ay;have bA:=aY.size;clear bg bd aY ad ay
  by_cases hlt:j<L.length
  ·have b9:=ba hlt;have aD:=HC.out.room j hlt;have Y:=HC.out.next j;have a8:=zH (zq8 hlt aO.out);have cj:=zeM (HL.out.below aF.out HL.out.lt) hlt;rw[<-b9] at aD Y a8;have bl:Hid (j+1<L.length->B+(px L j).2.size+2=(px L (j+1)).1):=fun h=>(Y h).symm;generalize hx:(px L j).2=x at *;have bB:x.size<=1000:=by omega
   have ar:Hid (∀W,zC 121 #[(0:Int),(1000000000:Int)] W (yM W (tp zm))):=fun W=>Zc 0 1000000000 W;have au:Hid (∀W,zB w W->zC 32 #[x,.string ⟨#[32]⟩] W fun e w'=>e=.returned (.slice (some W) (zq x ⟨#[32]⟩ x.size 0).length (zq x ⟨#[32]⟩ x.size 0).length)/\Blk w' W.heap.size 9 (((zq x ⟨#[32]⟩ x.size 0).map (·.2)).map Value.string).toArray/\zB W w'):=fun W hb=>zaD x ⟨#[32]⟩ (by decide) W (by omega) (HW.out.below hb);have aj:=zH (zac x ⟨#[32]⟩);have aq:Hid (yQ x B=match qH (zq x ⟨#[32]⟩ x.size 0) (zm,0) with
     |.error (k,i)=>.error (k,B+i)
     | .ok (J,n)=>if n=0 then .error (3,B + x.size) else .ok J):=rfl
   clear ba Y hx b9;generalize zq x ⟨#[32]⟩ x.size 0=L2 at *;generalize bw:yQ x B=PX at *;go_wp2_with fail;refine(ar.out _).mono ?_;rintro e w2 ⟨ra,rc,rfl,n2,-,aX⟩;have b3:=zH n2;have a4:Hid (zB w1 w2):=zT aF.out aX;have am:=zH (aN.out.below aX zN);clear n2 aX ar cj;go_wp2_with fail;refine(au.out _ (zT aI.out a4.out)).mono ?_;rintro e w3 ⟨rfl,bb,aH⟩;have aK:Hid (zB w1 w3):=zT a4.out aH;have an:=zH (am.out.below aH zN);have b4:=zH (b3.out.below aH zN);have b2:=zH bb;have bp:=aj.out.len;clear bb aH au b3 am a4;go_wp2_with fail
   try rw[show decide ((j:Int)<(L.length:Int))=true from zq9 (by omega)]
   rename World=>w3
   go_loopw [8,9,10,31] (fun rV sV aV kV wr=>∃(k:Nat) (o:List zf) (n A:Nat) (ra:Option Addr) (rc:Nat),k<=L2.length/\kV=.int .i64 k/\aV=.int .i64 ((B+A:Nat):Int)/\(k<L2.length->A=(px L2 k).1)/\A<=1001/\sV=.bool (decide (0<n))/\qH (L2.take k) (zm,0)=.ok (o,n)/\Rg o/\rV=.slice ra (tp o).length rc/\zE wr (.slice ra (tp o).length rc) (tp o)/\zB w3 wr) (fun _ _ _ kV _=>L2.length-(intOf kV).toNat)
   case atStart=>exact⟨0,zm,0,0,ra,rc,zf6 _,rfl,rfl,fun _=>aj.out.first.symm,by omega,rfl,rfl,Xp,rfl,b4.out,zf0 _ _⟩
   case round =>
    clear b4;obtain⟨k,o,n,A,ra,rc,hk,rfl,rfl,aT,bt,rfl,ae,a2,rfl,aC,a0⟩:=hrel;have ak:=zH aC;have aE:=zH a0;have aG:=zH ae;have U:=zH a2;have br:=a0.size;have R:Hid (zB w1 wr):=zT aK.out a0;have K:Hid (zB w wr):=zT aI.out R.out;clear aC a0 ae a2
    by_cases hlt2:k<L2.length
    ·have b8:=aT hlt2;have aa:=aj.out.room k hlt2;have M:=aj.out.next k;have av:=zH (zk1 hlt2 aG.out);have ck:=zeM (b2.out.below aE.out b2.out.lt) hlt2;rw[<-b8] at aa M av;have ao:Hid (k+1<L2.length->A+(px L2 k).2.size+1=(px L2 (k+1)).1):=fun h=>(M h).symm;generalize hy:(px L2 k).2=y at *;have bC:y.size<=1000:=by omega
     clear aT M hy b8 aG
     by_cases hy0:y.toList=[]
     ·have bs:(y.toList==[])=true:=by rw[hy0];rfl
      have aR:Hid (qH (L2.take (k+1)) (zm,0)=.ok (o,n)):=by show _=_;rw[av.out,zc3 hy0]
      clear av hy0;obtain⟨SN,aU⟩:∃SN,decide (0<n)=SN:=⟨_,rfl⟩;rw[aU];have bo:=zH aU;clear aU;go_wp2;go_roundw
      case rel=>exact⟨k+1,o,n,A+y.size+1,ra,rc,by omega,by go_num,zsj (Value.int .i64) (by omega),ao.out,by omega,by rw[bo.out],aR.out,U.out,rfl,ak.out,aE.out⟩
      case measure=>simp[intOf];omega
     ·have bs:(y.toList==[])=false:=by rw[zf2];exact hy0
      have ab:=av.out;rw[zc2 hy0] at ab;have ac:=zH (zp8 y wr (by omega) (HW.out.below K.out));clear av hy0;cases hwd:Za y with
      |error q =>
       rw[hwd] at ab ac;have bz:(q != 0)=true:=by have:=zdL hwd;simpa using this
       have C:PX=.error (q,B+A):=by rw[aq.out,zi8 ab]
       have a3:RF=.error (q,B+A):=by rw[HR.out];refine zgr (k:=j+1) ?_;rw[a8.out,C]
       have V:=zH a3;clear ab hwd C a3;go_wp2_with fail;refine ac.out.mono ?_;rintro e w5 ⟨m5,a5,c5,kk,rfl,-,-,a9,rfl,rfl⟩;have bh:Hid (zB w w5):=zT K.out a9;have k5:=(a7.out.below R.out a7.out.lt).below a9 (by have:=K.out.size;have:=R.out.size;omega);have c0:=k5.cell 0;have c1:=k5.cell 1;have f0:=k5.frozen 0;have f1:=k5.frozen 1;obtain⟨PL,aw⟩:∃PL:Int,((B+A:Nat):Int)=PL:=⟨_,rfl⟩;rw[aw];have q5:=(k5.set (i:=0) (v:=.int .i64 kk)).set (i:=1) (v:=.int .i64 PL);have a1:=zH q5;have ai:Hid (zB w ((w5.setCell w (.int .i64 kk)).setCell ⟨w.heap.size,1,none⟩ (.int .i64 PL))):=(bh.out.setCell (p:=w) zN _).setCell (p:=⟨w.heap.size,1,none⟩) zN _;have b6:=zH aw;clear q5 k5 a9 aw ac aq a8;go_wp2;have r0:=a1.out.cell 0;have r1:=a1.out.cell 1;refine zc4 (v:=.tuple #[.slice none 0 0,.agg #[kk,PL]]) (by simp[results,results76,go_sem,r0,r1]) rfl ?_;refine⟨[],none,0,kk,PL,rfl,xM _,fun g hg=>by simp[Value.ownBlock] at hg,ai.out,?_⟩;rw[V.out];exact⟨rfl,rfl,b6.out.symm⟩
      |ok lw =>
       rw[hwd] at ab ac;have b0:=za5 hwd;have aR:Hid (qH (L2.take (k+1)) (zm,0)=.ok (nd o lw,n+1)):=ab;have aQ:=zH (Qz U.out b0);have ag:=zH (fun (u:Value) (X:World) (h1:zE X (.slice ra (tp o).length rc) (tp o)) (h2:zE X u (tp lw))=>zpG o lw U.out b0 (.slice ra (tp o).length rc) u X h1 h2);have bD:((0:Int) != 0)=false:=rfl;clear ab hwd b0;go_wp2_with fail;refine ac.out.mono ?_;rintro e w5 ⟨m5,a5,c5,kk,rfl,be,-,a9,rfl,rfl⟩;have b1:=zH (ag.out _ w5 (ak.out.below a9 zN) be);have ah:Hid (zB w3 w5):=aE.out.trans (a9.mono br);clear be a9 ag ac ak;go_wp2_with fail;refine b1.out.mono ?_;rintro e w6 ⟨a6,c6,rfl,aB,-,az⟩;have aM:=zH aB;have aJ:Hid (zB w3 w6):=zT ah.out az;clear aB az b1 ah;go_wp2;go_roundw
       case rel=>exact⟨k+1,nd o lw,n+1,A+y.size+1,a6,c6,by omega,by go_num,zsj (Value.int .i64) (by omega),ao.out,by omega,by simp,aR.out,aQ.out,rfl,aM.out,aJ.out⟩
       case measure=>simp[intOf];omega
    ·obtain rfl:k=L2.length:=by omega
     have ae:=aG.out;rw[zrC] at ae;have C:=aq.out;rw[ae] at C;simp only at C;clear ae aG aT aj
     by_cases hn0:n=0
     ·rw[zc3 hn0] at C;have a3:RF=.error (3,B+x.size):=by rw[HR.out];refine zgr (k:=j+1) ?_;rw[a8.out,C]
      have V:=zH a3;have aA:decide (0<n)=false:=zf5 (by omega);rw[aA];have k5:=a7.out.below R.out a7.out.lt;have c0:=k5.cell 0;have c1:=k5.cell 1;have f0:=k5.frozen 0;have f1:=k5.frozen 1;obtain⟨PL,aw⟩:∃PL:Int,(B:Int)+(x.size:Int)=PL:=⟨_,rfl⟩;have ax:PL=((B+x.size:Nat):Int):=by omega
      have q5:=(k5.set (i:=0) (v:=.int .i64 3)).set (i:=1) (v:=.int .i64 PL);have a1:=zH q5;have ai:Hid (zB w ((wr.setCell w (.int .i64 3)).setCell ⟨w.heap.size,1,none⟩ (.int .i64 PL))):=(K.out.setCell (p:=w) zN _).setCell (p:=⟨w.heap.size,1,none⟩) zN _;have b6:=zH aw;have aP:=zH ax;clear q5 k5 C a3 ax aA hn0 aq a8;go_wp2;have r0:=a1.out.cell 0;have r1:=a1.out.cell 1;refine zc4 (v:=.tuple #[.slice none 0 0,.agg #[(3:Int),PL]]) (by simp[results,results76,go_sem,r0,r1]) rfl ?_;refine⟨[],none,0,3,PL,rfl,xM _,fun g hg=>by simp[Value.ownBlock] at hg,ai.out,?_⟩;rw[V.out];exact⟨rfl,rfl,aP.out⟩
     ·rw[zc2 hn0] at C;have aZ:=a8.out;rw[C] at aZ;have bn:Hid (qW (L.take (j+1)) []=.ok (orr J o)):=aZ;have aQ:=zH (XJ af.out U.out);have aA:decide (0<n)=true:=zq9 (by omega);rw[aA];have b5:=zH (zhG J o af.out U.out (.slice oa (tp J).length oc) (.slice ra (tp o).length rc) wr (an.out.below aE.out zN) ak.out);clear C aZ aA hn0 aq a8 ak an;go_wp2_with fail;refine b5.out.mono ?_;rintro e w6 ⟨a6,c6,rfl,aB,bc,az⟩;have aM:=zH aB;have bi:Hid (∀g,(Value.slice a6 (tp (orr J o)).length c6).ownBlock=some g->w1.heap.size<=g):=fun g hg=>zf1 R.out.size (bc g hg);have aJ:Hid (zB w1 w6):=zT R.out az;clear aB bc az b5;go_wp2;go_roundw
      case rel=>exact⟨j+1,orr J o,B+x.size+2,a6,c6,by omega,by go_num,zsj (Value.int .i64) (by omega),bl.out,by omega,bn.out,aQ.out,rfl,aM.out,bi.out,aJ.out⟩
      case measure=>simp[intOf];omega
  ·obtain rfl:j=L.length:=by omega
   have ad:=aO.out;rw[zrC] at ad;have a3:RF=.ok J:=by rw[HR.out,ad]
   have V:=zH a3;have K:Hid (zB w wr):=zT aI.out aF.out;have fr:=bj.out.below K.out;have k7:Blk wr w.heap.size 55 #[(0:Int),(0:Int)]:=a7.out.below aF.out a7.out.lt;have c3:_=some (Value.int .i64 0):=k7.cell 0;have c4:_=some (Value.int .i64 0):=k7.cell 1;have f3:=k7.frozen 0;have f4:=k7.frozen 1;have g3:wr.cell? ⟨0,0,none⟩=some (.int .i64 0):=fr.c0;have g4:wr.cell? ⟨0,1,none⟩=some (.int .i64 (-1)):=fr.c1;obtain⟨Z,hZ⟩:∃Z,(wr.setCell w (.int .i64 0)).setCell ⟨w.heap.size,1,none⟩ (.int .i64 (-1))=Z:=⟨_,rfl⟩;have q5:Blk Z w.heap.size 55 #[(0:Int),.int .i64 (-1)]:=by rw[<-hZ];exact(k7.set (i:=0) (v:=.int .i64 0)).set (i:=1) (v:=.int .i64 (-1))
   have a1:=zH q5;have ai:Hid (zB w Z.drew):=by rw[<-hZ];exact((K.out.setCell (p:=w) zN _).setCell (p:=⟨w.heap.size,1,none⟩) zN _).drew
   have bm:Hid (zE Z.drew (.slice oa (tp J).length oc) (tp J)):=by
    refine zE.drew ⟨⟨_,_,rfl⟩,fun i hi=>?_⟩;obtain⟨g,aS,e1,hg,hc⟩:=aN.out.cells i hi;refine⟨g,aS,e1,by rw[<-hZ];simp[World.setCell];exact hg,?_⟩;have bf:g≠w.heap.size:=by have:=aL.out g (by rw[e1];rfl);omega
    rw[<-hZ,qq bf,qq bf];exact hc
   have bk:Hid (∀g,(Value.slice oa (tp J).length oc).ownBlock=some g->w.heap.size<=g):=fun g hg=>by have:=aL.out g hg;omega
   have HZ:=zH hZ;clear k7 fr ad a3 aL aN aO q5 hZ;go_wp2_with fail;go_big_region;clear c3 c4 f3 f4 g3 g4;rw[HZ.out];go_wp2;have r0:=a1.out.cell 0;have r1:=a1.out.cell 1;refine zc4 (v:=.tuple #[.slice oa (tp J).length oc,.agg #[(0:Int),.int .i64 (-1)]]) (by simp[results,results76,go_sem,r0,r1]) rfl ?_;refine⟨tp J,oa,oc,0,-1,rfl,bm.out,bk.out,ai.out,?_⟩;rw[V.out];exact⟨rfl,rfl,rfl⟩
end
section
open Go.Shelf Sv
structure xe(w:World)(ad:Addr)(cap:Nat):Prop where
 c:w.cell? ⟨1,0,none⟩=some (.slice (some ad) 5 cap)
 s:∀j,j<5->w.cell? (ad.add j)=some (.string ⟨(wl j).toArray⟩)
 lt:1<w.heap.size
 la:ad.block<w.heap.size
theorem xe.below{w w':World}{ad:Addr}{cap:Nat}(h:xe w ad cap)(hb:zB w w'):xe w' ad cap :=
 ⟨(hb.cell (p:=⟨1,0,none⟩) h.lt).trans h.c,fun j hj=>(hb.cell (p:=ad.add j) (by rw[Z0];exact h.la)).trans (h.s j hj),zc6 h.lt hb.size,zc6 h.la hb.size⟩
def Yn:Option Nat->Int
 |none=>-1
 |some i=>(i:Int)
def Xl:Ln:=⟨0,⟨#[]⟩,0,0,0,⟨#[]⟩,[]⟩
def znx(x:Ln)(k p:Int):Except (Int × Option Nat) Ln->Prop
 |.ok y=>x=y/\k=0/\p=-1
 |.error (q,o)=>x=Xl/\k=q/\p=Yn o
def Qy(w:World)(r:Except (Int × Option Nat) Ln)(e:Ending)(w':World):Prop:=∃(x:Ln) (a:Option Addr) (c:Nat) (k p:Int),e=.returned (.tuple #[.agg #[x.kind,x.name,x.a,x.b,x.c,x.other,.slice a (tp x.rng).length c],.agg #[k,p]])/\zE w' (.slice a (tp x.rng).length c) (tp x.rng)/\Rg x.rng/\(∀g,(Value.slice a (tp x.rng).length c).ownBlock=some g->w.heap.size<=g)/\zB w w'/\znx x k p r
theorem JQ(s:ByteArray)(W:World)(hs:s.size<=100000)(hw:Lb W)(hF:yA W):zC 76 #[s] W fun e w'=>∃ (l:List zf) (a:Option Addr) (c:Nat) (k p:Int),e=.returned (.tuple #[.slice a (tp l).length c,.agg #[k,p]])/\zE w' (.slice a (tp l).length c) (tp l)/\Rg l/\(∀ g,(Value.slice a (tp l).length c).ownBlock=some g->W.heap.size<=g)/\zB W w'/\(match xz s with
  |.ok m=>l=m/\k=0/\p=-1
  | .error (q,o)=>l=[]/\k=q/\p=Yn o):=by
 unfold xz
 by_cases h:1000<s.size
 ·rw[zc3 h];exact(zjS s W (by omega)).mono fun e w' ⟨he,hb⟩=>⟨[],none,0,4,-1,he,xM _,Zu,(fun g hg=>by simp[Value.ownBlock] at hg),hb,rfl,rfl,rfl⟩
 ·rw[zc2 h];refine(zmy s W (by omega) hw hF).mono fun e w' ⟨m,a,c,k,p,he,h1,h2,h3,h4⟩=>?_;cases hx:Zr s with
  |ok l =>rw[hx] at h4;obtain⟨rfl,rfl,rfl⟩:=h4;exact⟨l,a,c,0,-1,he,h1,zeJ hx,h2,h3,rfl,rfl,rfl⟩
  |error q =>obtain⟨q1,q2⟩:=q;rw[hx] at h4;obtain⟨rfl,rfl,rfl⟩:=h4;exact⟨[],a,c,_,_,he,h1,Zu,h2,h3,rfl,rfl,rfl⟩
theorem QO{s:ByteArray}{k:Nat}(hk:1<=k)(hk4:k<=4):((⟨(wl k).toArray⟩:ByteArray).toList==s.toList)=decide (zI s=k):=by
 have e:(⟨(wl k).toArray⟩:ByteArray).toList=wl k:=ByteArray.toList_eq _;rw[e,zrB,ztW,zt1];constructor
 ·intro h;exact zgx hk hk4 h.symm
 ·intro h;unfold zI at h;split at h
  ·rename_i h1;subst h;rw[h1];rfl
  ·split at h
   ·rename_i h1;subst h;rw[h1];rfl
   ·split at h
    ·rename_i h1;subst h;rw[h1];rfl
    ·split at h
     ·rename_i h1;subst h;rw[h1];rfl
     ·omega
structure LR(w W:World)(b:Nat)(cs:Array Value):Prop where
 z:Blk W w.heap.size 94 z7
 f:Blk W (w.heap.size+1) 55 #[(0:Int),(0:Int)]
 x:Blk W b 94 cs
 ne:w.heap.size+1<b
 B:zB w W
theorem LR.step{w W W':World}{b:Nat}{cs:Array Value}(h:LR w W b cs)(hb:zB W W'):LR w W' b cs:=⟨h.z.below hb h.z.lt,h.f.below hb h.f.lt,h.x.below hb h.x.lt,h.ne,zT h.B hb⟩
theorem LR.set{w W:World}{b:Nat}{cs:Array Value}(h:LR w W b cs)(i:Nat)(v:Value):LR w (W.setCell ⟨b,i,none⟩ v) b (cs.setIfInBounds i v) :=
 ⟨h.z.other (by have:=h.ne;omega),h.f.other (by have:=h.ne;omega),h.x.set,h.ne,h.B.setCell (p:=⟨b,i,none⟩) (by have:=h.ne;show w.heap.size<=b;omega) _⟩
theorem LR.done{w W:World}{b:Nat}{cs:Array Value}(h:LR w W b cs)(v0 v1 v2 v3 v4 v5 v6 u0 u1:Value):∃Z,(((((((((W.setCell w v0).setCell ⟨w.heap.size,1,none⟩ v1).setCell ⟨w.heap.size,2,none⟩ v2).setCell ⟨w.heap.size,3,none⟩ v3).setCell ⟨w.heap.size,4,none⟩ v4).setCell ⟨w.heap.size,5,none⟩ v5).setCell ⟨w.heap.size,6,none⟩ v6).setCell ⟨w.heap.size+1,0,none⟩ u0).setCell ⟨w.heap.size+1,1,none⟩ u1)=Z /\
  Blk Z w.heap.size 94 #[v0,v1,v2,v3,v4,v5,v6]/\Blk Z (w.heap.size+1) 55 #[u0,u1]/\zB w Z/\(∀(v:Value) (l:List Nat),(∀g,v.ownBlock=some g->w.heap.size+1<g)->zE W v l->zE Z v l):=by
 refine⟨_,rfl,?_,?_,?_,?_⟩
 ·exact((((((((h.z.set (i:=0) (v:=v0)).set (i:=1) (v:=v1)).set (i:=2) (v:=v2)).set (i:=3) (v:=v3)).set (i:=4) (v:=v4)).set (i:=5) (v:=v5)).set (i:=6) (v:=v6)).other (by omega)).other (by omega)
 ·exact(((((((((h.f.other (by omega)).other (by omega)).other (by omega)).other (by omega)).other (by omega)).other (by omega)).other (by omega)).set (i:=0) (v:=u0)).set (i:=1) (v:=u1))
 ·exact((((((((h.B.setCell (p:=w) zN _).setCell (p:=⟨w.heap.size,1,none⟩) zN _).setCell (p:=⟨w.heap.size,2,none⟩) zN _).setCell (p:=⟨w.heap.size,3,none⟩) zN _).setCell (p:=⟨w.heap.size,4,none⟩) zN _).setCell (p:=⟨w.heap.size,5,none⟩) zN _).setCell (p:=⟨w.heap.size,6,none⟩) zN _).setCell (p:=⟨w.heap.size+1,0,none⟩) (zrr _) _).setCell (p:=⟨w.heap.size+1,1,none⟩) (zrr _) _
 ·intro v l hv hn;refine⟨hn.form,fun i hi=>?_⟩;obtain⟨g,j,e,hg,hc⟩:=hn.cells i hi;have o:=hv g (by rw[e];rfl);refine⟨g,j,e,by simp[World.setCell];exact hg,?_⟩;rw[qq (by omega),qq (by omega),qq (by omega),qq (by omega),qq (by omega),qq (by omega),qq (by omega),qq (by omega),qq (by omega)];exact hc
def kup(K k:Nat):Nat:=if K<k then K else 0
abbrev x7(K:Nat)(nm:ByteArray)(a b c:Int)(ot:ByteArray)(r:Value):Array Value:=#[.int .i64 K,.string nm,.int .i64 a,.int .i64 b,.int .i64 c,.string ot,r]
theorem zlE(s:ByteArray)(w:World)(hs:s.size<=100000)(hw:Lb w)(hF:yA w)(ad:Addr)(cap:Nat)(hK:xe w ad cap)(hk:zI (zb s 32).1=0):zC 33 #[s] w (Qy w (.error (3,none))):=by
 have k0:=(Blk.new w 94 z7).alloc (.cells #[(0:Int),(0:Int)] 55);have k1:=Blk.new (w.alloc (.cells z7 94)) 55 #[(0:Int),(0:Int)];rw[zc1] at k1;have Y:zB w ((w.alloc (.cells z7 94)).alloc (.cells #[(0:Int),(0:Int)] 55)):=((zf0 _ w).alloc zN _).alloc (by simp) _;have y:=zH k0;have p:=zH k1;have R:=zH Y;have q:=zH (fun W=>yu s W hs);have a3:=(qC s 32).2;have ax:=zH hw;have aw:=zH hF;have a4:=zH hK;obtain⟨w1,ac⟩:∃w1,(zb s 32).1=w1:=⟨_,rfl⟩;obtain⟨s2,ab⟩:∃s2,(zb s 32).2=s2:=⟨_,rfl⟩;rw[ac] at hk q;rw[ab] at a3 q;have hz2':s2.size<=100000:=by omega
 have V:Hid (∀k,1<=k->k<=4->((⟨(wl k).toArray⟩:ByteArray).toList==w1.toList)=decide (zI w1=k)):=fun k h1 h4=>QO h1 h4;rw[hk] at V;clear k0 k1 Y hw hF hK a3 hs;go_enter ztT,ztC;go_wp2_with fail;generalize (w.alloc (.cells z7 94)).alloc (.cells #[(0:Int),(0:Int)] 55)=W0 at *;refine(q.out _).mono ?_;rintro e wA ⟨rfl,K⟩;have hx:=Blk.new wA 94 z7;have hA:zB wA (wA.alloc (.cells z7 94)):=zF.alloc zN _;have u:zB W0 (wA.alloc (.cells z7 94)):=zT K hA;have o:LR w (wA.alloc (.cells z7 94)) wA.heap.size z7:=⟨y.out.below u y.out.lt,p.out.below u p.out.lt,hx,zc6 p.out.lt K.size,zT R.out u⟩;have C:=zH o;clear K hx hA u o q y p R;go_wp2_with fail;generalize wA.alloc (.cells z7 94)=W1 at *;obtain⟨b,hb⟩:∃b,wA.heap.size=b:=⟨_,rfl⟩;rw[hb] at C ⊢;clear hb;go_loopw [7] (fun kV wr=>∃k:Nat,1<=k/\k<=5/\kV=.int .i64 k/\LR w wr b (x7 (kup 0 k) ⟨#[]⟩ 0 0 0 ⟨#[]⟩ (.slice none 0 0))) (fun kV _=>5-(intOf kV).toNat)
 case atStart=>exact⟨1,by omega,by omega,rfl,by rw[show kup 0 1=0 by unfold kup;split<;>omega];exact C.out⟩
 case round =>
  clear C;obtain⟨k,aa,ay,rfl,o⟩:=hrel;have HL:=zH o;clear o
  by_cases hlt:k<=4
  ·have M:=a4.out.below HL.out.B;have g0:=M.c;have g1:=M.s k (by omega);have hc:=V.out k aa hlt;have x0:_=some (Value.int .i64 ((kup 0 k:Nat):Int)):=HL.out.x.cell 0;have xf:=HL.out.x.frozen 0;clear M
   by_cases he:0=k
   ·have a2:=HL.out.set 0 (.int .i64 k);have J:Hid (LR w (wr.setCell ⟨b,0,none⟩ (.int .i64 k)) b (x7 (kup 0 (k+1)) ⟨#[]⟩ 0 0 0 ⟨#[]⟩ (.slice none 0 0))):=by
     have e:kup 0 (k+1)=k:=by unfold kup;rw[zc3 (by omega)];exact he
     rw[e];exact a2
    rw[zq9 he] at hc;generalize kup 0 k=KU at *;generalize (⟨(wl k).toArray⟩:ByteArray)=WK at *;clear a2 he;go_wp2;go_roundw
    case rel=>exact⟨k+1,by omega,by omega,by go_num,J.out⟩
    case measure=>simp[intOf];omega
   ·have J:Hid (LR w wr b (x7 (kup 0 (k+1)) ⟨#[]⟩ 0 0 0 ⟨#[]⟩ (.slice none 0 0))):=by
     have e:kup 0 (k+1)=kup 0 k:=by
      unfold kup
      by_cases h:0<k
      ·rw[zc3 h,zc3 (by omega)]
      ·rw[zc2 h,zc2 (by omega)]
     rw[e];exact HL.out
    rw[zf5 he] at hc;generalize kup 0 k=KU at *;generalize (⟨(wl k).toArray⟩:ByteArray)=WK at *;clear he;go_wp2;go_roundw
    case rel=>exact⟨k+1,by omega,by omega,by go_num,J.out⟩
    case measure=>simp[intOf];omega
  ·obtain rfl:k=5:=by omega
   have a1:kup 0 5=0:=by unfold kup;rw[zc3 (by omega)]
   rw[a1] at HL;clear a1;have az:_=some (Value.int .i64 (0:Int)):=HL.out.x.cell 0;have U:=zH (Xm 3 wr);go_wp2_with fail;refine U.out.mono ?_;rintro e wE ⟨rfl,a0⟩;have hE:=HL.out.step a0;have ae:_=some (Value.int .i64 0):=hE.z.cell 0;have af:_=some (Value.string ⟨#[]⟩):=hE.z.cell 1;have ag:_=some (Value.int .i64 0):=hE.z.cell 2;have ah:_=some (Value.int .i64 0):=hE.z.cell 3;have ai:_=some (Value.int .i64 0):=hE.z.cell 4;have aj:_=some (Value.string ⟨#[]⟩):=hE.z.cell 5;have ak:_=some (Value.slice none 0 0):=hE.z.cell 6;have am:=hE.z.frozen 0;have an:=hE.z.frozen 1;have ao:=hE.z.frozen 2;have aq:=hE.z.frozen 3;have ar:=hE.z.frozen 4;have au:=hE.z.frozen 5;have av:=hE.z.frozen 6;have a6:_=some (Value.int .i64 0):=hE.f.cell 0;have a7:_=some (Value.int .i64 0):=hE.f.cell 1;have a8:=hE.f.frozen 0;have a9:=hE.f.frozen 1;obtain⟨Z,hZ,qz,qf,qB,-⟩:=hE.done (.int .i64 0) (.string ⟨#[]⟩) (.int .i64 0) (.int .i64 0) (.int .i64 0) (.string ⟨#[]⟩) (.slice none 0 0) (.int .i64 3) (.int .i64 (-1));have HZ:=zH hZ;have j:=zH qz;have X:=zH qf;have a5:=zH qB;clear hZ qz qf qB hE a0 U HL;go_wp2;clear ae af ag ah ai aj ak am an ao aq ar au av a6 a7 a8 a9;rw[HZ.out];have r0:=j.out.cell 0;have r1:=j.out.cell 1;have r2:=j.out.cell 2;have r3:=j.out.cell 3;have r4:=j.out.cell 4;have r5:=j.out.cell 5;have r6:=j.out.cell 6;have s0:=X.out.cell 0;have s1:=X.out.cell 1;refine zc4 (v:=.tuple #[.agg z7,.agg #[(3:Int),.int .i64 (-1)]]) (by simp[results,results33,go_sem,r0,r1,r2,r3,r4,r5,r6,s0,s1]) rfl ?_;exact⟨Xl,none,0,3,-1,rfl,xM _,Zu,fun g hg=>by simp[Value.ownBlock] at hg,a5.out,rfl,rfl,rfl⟩
end
section
open Go.Shelf Sv
def okP(x:Int):Bool:=decide (0<=x/\x<=999)
def zh(l:List zf)(a b c:Int):Bool:=if okP a&&okP b&&okP c then inP (tp l) (Z4 a.toNat b.toNat c.toNat) else false
theorem XL(A B C:Int)(W:World):(Instr.index 91 (.agg #[A,B,C]) (.int .i64 0)).run prog W=.ok (.int .i64 A) W:=by kernel_rfl
theorem Xz(A B C:Int)(W:World):(Instr.index 91 (.agg #[A,B,C]) (.int .i64 1)).run prog W=.ok (.int .i64 B) W:=by kernel_rfl
theorem Kc(A B C:Int)(W:World):(Instr.index 91 (.agg #[A,B,C]) (.int .i64 2)).run prog W=.ok (.int .i64 C) W:=by kernel_rfl
theorem znZ(l:List zf)(hl:Rg l)(v:Value)(a b c:Int)(w:World)(hv:zE w v (tp l)) :
  zR 89 #[v,.agg #[a,b,c]] w (.bool (zh l a b c)):=by
 obtain⟨va,vc,rfl⟩:=hv.form;have kv:=Blk.new w 91 #[a,b,c];have R:zB w (w.alloc (.cells #[a,b,c] 91)):=(zf0 _ w).alloc zN _;have HV:=zH hv;have K:=zH kv;have C:=zH R;have Y:=zH (YO hl);have u:Hid (∀x W,zC 125 #[.int .i64 x,(0:Int),(999:Int)] W fun e w'=>e=.returned (okP x)/\W=w'):=fun x W=>zX x 0 999 W;have J:Hid (zh l a b c=if okP a&&okP b&&okP c then inP (tp l) (Z4 a.toNat b.toNat c.toNat) else false):=rfl;clear hv kv R hl;generalize zh l a b c=RB at *;go_enter func89,ntmps89;go_wp2_with fail;generalize w.alloc (.cells #[a,b,c] 91)=W0 at *;go_loopw [8] (fun iV wr=>∃k:Nat,k<=3/\iV=.int .i64 k/\(∀j,j<k->okP (tI a b c j)=true)/\wr=W0) (fun iV _=>3-(intOf iV).toNat)
 case atStart=>exact⟨0,by omega,rfl,fun j h=>by omega,rfl⟩
 case round =>
  obtain⟨k,hk,rfl,y,rfl⟩:=hrel;have q:=zH y;clear y
  match k,hk with
  |0,_ =>
   have V:=XL a b c wr;cases hok:okP a with
   |true =>
    have o:=zH (u.out a wr);rw[hok] at o;have HN:Hid (∀j,j<1->okP (tI a b c j)=true):=fun j h=>by
     obtain rfl:j=0:=by omega
     exact hok
    clear hok;go_wp2_with fail;refine o.out.mono ?_;rintro e w1 ⟨rfl,p⟩;rw[<-p];clear p;go_wp2;go_roundw
    case rel=>exact⟨1,by omega,rfl,HN.out,trivial⟩
    case measure=>simp[intOf]
   |false =>
    have o:=zH (u.out a wr);rw[hok] at o;have hR:RB=false:=by rw[J.out,hok];rfl
    clear hok;go_wp2_with fail;refine o.out.mono ?_;rintro e w1 ⟨rfl,p⟩;rw[<-p];clear p;go_wp2;go_ret;exact⟨by rw[hR];rfl,C.out⟩
  |1,_ =>
   have V:=Xz a b c wr;cases hok:okP b with
   |true =>
    have o:=zH (u.out b wr);rw[hok] at o;have HN:Hid (∀j,j<2->okP (tI a b c j)=true):=fun j h=>by
     match j,h with
     |0,_=>exact q.out 0 (by omega)
     |1,_=>exact hok
    clear hok;go_wp2_with fail;refine o.out.mono ?_;rintro e w1 ⟨rfl,p⟩;rw[<-p];clear p;go_wp2;go_roundw
    case rel=>exact⟨2,by omega,rfl,HN.out,trivial⟩
    case measure=>simp[intOf]
   |false =>
    have o:=zH (u.out b wr);rw[hok] at o;have hR:RB=false:=by rw[J.out,hok];simp
    clear hok;go_wp2_with fail;refine o.out.mono ?_;rintro e w1 ⟨rfl,p⟩;rw[<-p];clear p;go_wp2;go_ret;exact⟨by rw[hR];rfl,C.out⟩
  |2,_ =>
   have V:=Kc a b c wr;cases hok:okP c with
   |true =>
    have o:=zH (u.out c wr);rw[hok] at o;have HN:Hid (∀j,j<3->okP (tI a b c j)=true):=fun j h=>by
     match j,h with
     |0,_=>exact q.out 0 (by omega)
     |1,_=>exact q.out 1 (by omega)
     |2,_=>exact hok
    clear hok;go_wp2_with fail;refine o.out.mono ?_;rintro e w1 ⟨rfl,p⟩;rw[<-p];clear p;go_wp2;go_roundw
    case rel=>exact⟨3,by omega,rfl,HN.out,trivial⟩
    case measure=>simp[intOf]
   |false =>
    have o:=zH (u.out c wr);rw[hok] at o;have hR:RB=false:=by rw[J.out,hok];simp
    clear hok;go_wp2_with fail;refine o.out.mono ?_;rintro e w1 ⟨rfl,p⟩;rw[<-p];clear p;go_wp2;go_ret;exact⟨by rw[hR];rfl,C.out⟩
  |3,_ =>
   have oa:okP a=true:=q.out 0 (by omega);have ob:okP b=true:=q.out 1 (by omega);have oc:okP c=true:=q.out 2 (by omega);have ia:0<=a/\a<=999:=zrZ oa;have ib:0<=b/\b<=999:=zrZ ob;have ic:0<=c/\c<=999:=zrZ oc;have HR:Hid (RB=inP (tp l) (Z4 a.toNat b.toNat c.toNat)):=by show _=_;rw[J.out,oa,ob,oc];rfl
   have HN:Hid (zR 143 #[.agg #[a,b,c]] wr (.int .i64 (Z4 a.toNat b.toNat c.toNat))):=by
    have:=yZ a.toNat b.toNat c.toNat (by omega) (by omega) (by omega) wr;rw[ztV ia.1,ztV ib.1,ztV ic.1] at this;exact this
   have d0:_=some (Value.int .i64 a):=K.out.cell 0;have d1:_=some (Value.int .i64 b):=K.out.cell 1;have d2:_=some (Value.int .i64 c):=K.out.cell 2;clear oa ob oc ia ib ic;generalize Z4 a.toNat b.toNat c.toNat=N at *;go_wp2_with fail;refine HN.out.mono ?_;rintro e w1 ⟨rfl,U⟩;have M:Hid (zB w w1):=zT C.out U;have HI:=zH (zae (tp l) N _ w1 (HV.out.below M.out zN) Y.out);rw[<-HR.out] at HI;clear U HN d0 d1 d2 HV;go_wp2_with fail;refine HI.out.mono ?_;rintro e w2 ⟨rfl,X⟩;rw[X];clear X;go_wp2;go_ret;exact⟨rfl,M.out⟩
end
