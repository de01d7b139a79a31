/- The reference: LineParse. -/
import Derived.Test.YtlamemjfaogjmaaGreatDoorSvRWord
set_option maxHeartbeats 4000000
set_option maxRecDepth 100000
namespace Go.Proofs.YtlamemjfaogjmaaGreatDoor
section
open Go.RowKit Go.Shelf Sv
theorem Y0(s m:ByteArray):∀(f k:Nat),k<=s.size->∀i,(h:i<(zg s m f k).length)->(i=0->((zg s m f k)[i]).1=k)/\((zg s m f k)[i]).1+((zg s m f k)[i]).2.size<=s.size/\(∀h2:i+1<(zg s m f k).length,((zg s m f k)[i+1]).1=((zg s m f k)[i]).1+((zg s m f k)[i]).2.size+m.size):=by
 intro f
 induction f with
 |zero =>
  intro k hk i h;have e:zg s m 0 k=[(k,s.extract k s.size)]:=rfl;simp only[e] at h ⊢;simp only[List.length_singleton] at h;obtain rfl:i=0:=by omega
  refine⟨fun _=>rfl,?_,fun h2=>by simp at h2⟩;simp;omega
 |succ f ih =>
  intro k hk i h
  by_cases hn:Lib.index (s.extract k s.size).data.toList m.data.toList<0
  ·have e:=Qn hn (f+1);simp only[e] at h ⊢;simp only[List.length_singleton] at h;obtain rfl:i=0:=by omega
   refine⟨fun _=>rfl,?_,fun h2=>by simp at h2⟩;simp;omega
  ·obtain⟨j,hj⟩:∃j:Nat,Lib.index (s.extract k s.size).data.toList m.data.toList=(j:Int):=⟨(Lib.index (s.extract k s.size).data.toList m.data.toList).toNat,by omega⟩;have hroom:=Zp (s.extract k s.size).data.toList m.data.toList (by omega);rw[hj] at hroom;have hrl:(s.extract k s.size).data.toList.length=s.size-k:=by
    show (s.extract k s.size).data.toList.length=_;rw[Array.length_toList];show (s.extract k s.size).size=_;simp
   have hml:m.data.toList.length=m.size:=by rw[Array.length_toList];rfl
   rw[hrl,hml] at hroom;simp only[Int.toNat_natCast] at hroom;have e:=QD (f:=f) hj;simp only[e] at h ⊢;have hih:=ih (k+j+m.size) (by omega);cases i with
   |zero =>
    refine⟨fun _=>rfl,?_,fun h2=>?_⟩
    ·simp;omega
    ·simp only[List.getElem_cons_zero,List.getElem_cons_succ];have:=(hih 0 (by simpa using h2)).1 rfl;rw[this];simp;omega
   |succ i =>
    refine⟨fun h0=>by omega,?_,fun h2=>?_⟩
    ·simp only[List.getElem_cons_succ];exact(hih i (by simpa using h)).2.1
    ·simp only[List.getElem_cons_succ];exact(hih i (by simpa using h)).2.2 (by simpa using h2)
def px(L:List (Nat × ByteArray))(k:Nat):Nat × ByteArray:=L.getD k (0,⟨#[]⟩)
theorem xA(L:List (Nat × ByteArray))(k:Nat)(h:k<L.length):px L k=L[k]:=by unfold px;simp[List.getD_eq_getElem?_getD,List.getElem?_eq_getElem h]
structure zhP(s m:ByteArray)(L:List (Nat × ByteArray)):Prop where
 pos:0<L.length
 len:L.length<=s.size+1
 first:(px L 0).1=0
 room:∀k,k<L.length->(px L k).1+(px L k).2.size<=s.size
 next:∀k,k+1<L.length->(px L (k+1)).1=(px L k).1+(px L k).2.size+m.size
theorem Y7(s m:ByteArray):zhP s m (zg s m s.size 0):=by
 refine⟨Yg _ _ _ _,by have:=Kq s m s.size 0;omega,?_,fun k hk=>?_,fun k hk=>?_⟩
 ·rw[xA _ _ (Yg _ _ _ _)];exact(Y0 s m s.size 0 (Nat.zero_le _) 0 (Yg _ _ _ _)).1 rfl
 ·rw[xA _ _ hk];exact(Y0 s m s.size 0 (Nat.zero_le _) k hk).2.1
 ·rw[xA _ _ hk,xA _ _ (by omega)];exact(Y0 s m s.size 0 (Nat.zero_le _) k (by omega)).2.2 hk
theorem zfe{L:List (Nat × ByteArray)}{k:Nat}{st:List Span × Nat}(hk:k<L.length)(h:zQ (L.take k) (zd,0)=.ok st):zQ (L.take (k+1)) (zd,0)=if (px L k).2.toList=[] then .ok st else match yu (px L k).2 with
  |.error q=>.error (q,(px L k).1)
  |.ok l=>.ok (nd st.1 l,st.2+1):=by
 rw[List.take_succ_eq_append_getElem hk,QY,h,xA L k hk];show zQ [L[k]] st=_;unfold zQ;split
 ·rfl
 ·cases yu L[k].2 with
  |error q=>rfl
  |ok l=>rfl
theorem zfR{L:List (Nat × ByteArray)}{k:Nat}{q:Int × Nat}(h:zQ (L.take k) (zd,0)=.error q):zQ L (zd,0)=.error q:=by
 have:=QY (L.take k) (L.drop k) (zd,0);rw[List.take_append_drop,h] at this;exact this
theorem zil{L:List (Nat × ByteArray)}{k:Nat}{acc:List Span}(hk:k<L.length)(h:qd (L.take k) []=.ok acc):qd (L.take (k+1)) []=match qO (px L k).2 (px L k).1 with
  |.error q=>.error q
  |.ok l=>.ok (orr acc l):=by
 rw[List.take_succ_eq_append_getElem hk,QW,h,xA L k hk];show qd [L[k]] acc=_;unfold qd;cases qO L[k].2 L[k].1 with
 |error q=>rfl
 |ok l=>rfl
theorem zaw{L:List (Nat × ByteArray)}{k:Nat}{q:Int × Nat}(h:qd (L.take k) []=.error q):qd L []=.error q:=by
 have:=QW (L.take k) (L.drop k) [];rw[List.take_append_drop,h] at this;exact this
structure FineR(w:World):Prop where
 c0:w.cell? ⟨0,0,none⟩=some (.int .i64 0)
 c1:w.cell? ⟨0,1,none⟩=some (.int .i64 (-1))
 lt:0<w.heap.size
theorem FineR.below{w w':World}(h:FineR w)(hb:zB w w'):FineR w':=⟨(hb.cell (p:=⟨0,0,none⟩) h.lt).trans h.c0,(hb.cell (p:=⟨0,1,none⟩) h.lt).trans h.c1,Nat.lt_of_lt_of_le h.lt hb.size⟩
def zdk(m:List Nat)(k p:Int):Except (Int × Nat) (List Span)->Prop
 |.ok l=>m=tp l/\k=0/\p=-1
 |.error (q,i)=>m=[]/\k=q/\p=(i:Int)
def zeU(w:World)(x:Except (Int × Nat) (List Span))(e:Ending)(w':World):Prop:=∃(m:List Nat) (a:Option Addr) (c:Nat) (k p:Int),e=.returned (.tuple #[.slice a m.length c,.agg #[.int .i64 k,.int .i64 p]])/\NsAt w' (.slice a m.length c) m/\(∀g,(Value.slice a m.length c).ownBlock=some g->w.heap.size<=g)/\zB w w'/\zdk m k p x
end
section
open Go.RowKit Go.Shelf Sv
theorem XA(s m:ByteArray)(hm:1<=m.size)(W:World)(hs:s.size<=100000)(hw:Lb W):zC 30 #[.string s,.string m] W fun e w'=>e=.returned (.slice (some ⟨W.heap.size,0,none⟩) (zg s m s.size 0).length (zg s m s.size 0).length)/\Blk w' W.heap.size 9 (((zg s m s.size 0).map (·.2)).map Value.string).toArray/\zB W w':=by
 obtain⟨n,hn⟩:=hw.ml;have h:=zah s m hm s.size 0 (by omega) (Nat.zero_le _);have hx:s.extract 0 s.size=s:=ZW (by rw[Lib.extract_to_end];simp);rw[hx] at h;have hlen:Lib.countB s m+1=(zg s m s.size 0).length:=by
  have h2:=congrArg List.length h;rw[List.length_map,Lib.splitB_all _ hm 0 _ s rfl] at h2;exact h2
 refine(Tryz.strings_Split s m n W (by omega) hn hm).mono fun e w' ⟨he,hw'⟩=>?_;rw[hlen] at he;rw[h] at hw';exact⟨he,hw'▸Blk.new _ _ _,hw'▸zF.alloc zN _⟩
theorem KZ{W:World}{b:Nat}{L:List (Nat × ByteArray)}(h:Blk W b 9 ((L.map (·.2)).map Value.string).toArray){k:Nat}(hk:k<L.length):W.cell? ⟨b,k,none⟩=some (.string (px L k).2):=by
 rw[h.cell k,xA L k hk];simp[hk]
theorem zcH(s:ByteArray)(w:World)(hs:¬s.size<=1000):zR 53 #[.string s] w (.tuple #[.slice none 0 0,.agg #[.int .i64 4,.int .i64 (-1)]]):=by
 have h1:(1000:Int)<(s.size:Int):=by omega
 have HBR:=zH (fun W=>xN 4 W);have k0:=Blk.new w 45 #[.int .i64 0,.int .i64 0];have hB:zB w (w.alloc (.cells #[.int .i64 0,.int .i64 0] 45)):=zF.alloc zN _;have HK:=zH k0;have HB:=zH hB;clear k0 hB hs;go_enter Tryz.func53,Tryz.ntmps53;go_wp2_with fail;generalize w.alloc (.cells #[.int .i64 0,.int .i64 0] 45)=W0 at *;refine(HBR.out _).mono ?_;rintro e w1 ⟨rfl,hb1⟩;have k1:=HK.out.below hb1 HK.out.lt;have c0:=k1.cell 0;have c1:=k1.cell 1;have f0:=k1.frozen 0;have f1:=k1.frozen 1;have q:=(k1.set (i:=0) (v:=.int .i64 4)).set (i:=1) (v:=.int .i64 (-1));have HQ:=zH q;have HBZ:Hid (zB w ((w1.setCell ⟨w.heap.size,0,none⟩ (.int .i64 4)).setCell ⟨w.heap.size,1,none⟩ (.int .i64 (-1)))):=((zT HB.out hb1).setCell (p:=⟨w.heap.size,0,none⟩) zN _).setCell (p:=⟨w.heap.size,1,none⟩) zN _;clear hb1 k1 q HK;go_wp2;have r0:=HQ.out.cell 0;have r1:=HQ.out.cell 1;refine bodyPost_ret (v:=.tuple #[.slice none 0 0,.agg #[.int .i64 4,.int .i64 (-1)]]) (by simp[results,Tryz.results53,go_sem,r0,r1]) rfl ?_;exact⟨rfl,HBZ.out⟩
theorem zck(s:ByteArray)(w:World)(hs:s.size<=1000)(hw:Lb w)(hF:FineR w):zC 53 #[.string s] w (zeU w (yH s)):=by
 have h1:¬(1000:Int)<(s.size:Int):=by omega
 have k0:=Blk.new w 45 #[.int .i64 0,.int .i64 0];have hB:zB w (w.alloc (.cells #[.int .i64 0,.int .i64 0] 45)):=zF.alloc zN _;have HK:=zH k0;have HB:=zH hB;have HW:=zH hw;have HFN:=zH hF;have HSP:Hid (∀W,zB w W->zC 30 #[.string s,.string ⟨#[124,124]⟩] W fun e w'=>e=.returned (.slice (some ⟨W.heap.size,0,none⟩) (zg s ⟨#[124,124]⟩ s.size 0).length (zg s ⟨#[124,124]⟩ s.size 0).length)/\Blk w' W.heap.size 9 (((zg s ⟨#[124,124]⟩ s.size 0).map (·.2)).map Value.string).toArray/\zB W w'):=fun W hb=>XA s ⟨#[124,124]⟩ (by decide) W (by omega) (hw.below hb);have HC:=zH (Y7 s ⟨#[124,124]⟩);have HR:Hid (yH s=qd (zg s ⟨#[124,124]⟩ s.size 0) []):=rfl;clear k0 hB hw hF;generalize zg s ⟨#[124,124]⟩ s.size 0=L at *;generalize yH s=RF at *;go_enter Tryz.func53,Tryz.ntmps53;go_wp2_with fail;generalize w.alloc (.cells #[.int .i64 0,.int .i64 0] 45)=W0 at *;refine(HSP.out _ HB.out).mono ?_;rintro e w1 ⟨rfl,hL,hb1⟩;have HB1:Hid (zB w w1):=zT HB.out hb1;have HK1:=zH (HK.out.below hb1 HK.out.lt);have HL:=zH hL;have hlt1:w.heap.size<w1.heap.size:=HK1.out.lt;have hLl:=HC.out.len;clear hL hb1 HSP HK HB;go_wp2_with fail
 rename World=>w1
 go_loopw [4,5,22] (fun oV bV jV wr=>∃(j:Nat) (acc:List Span) (B:Nat) (oa:Option Addr) (oc:Nat),j<=L.length/\jV=.int .i64 j/\bV=.int .i64 B/\(j<L.length->B=(px L j).1)/\B<=1002/\qd (L.take j) []=.ok acc/\Rg acc/\oV=.slice oa (tp acc).length oc/\NsAt wr (.slice oa (tp acc).length oc) (tp acc)/\(∀g,(Value.slice oa (tp acc).length oc).ownBlock=some g->w1.heap.size<=g)/\zB w1 wr) (fun _ _ jV _=>L.length-(intOf jV).toNat)
 case atStart=>exact⟨0,[],0,none,0,Nat.zero_le _,rfl,rfl,fun _=>HC.out.first.symm,by omega,rfl,rg_nil,rfl,nsAt_nil _,fun g hg=>by simp[Value.ownBlock] at hg,Below.refl _ _⟩
 case round =>
  obtain⟨j,acc,B,oa,oc,hj,rfl,rfl,hBj,hBu,hpf,hacc,rfl,hns,hfr,hbr⟩:=hrel;have HNS:=zH hns;have HFR:=zH hfr;have HBR:=zH hbr;have HPF:=zH hpf;have HACC:=zH hacc;have hwr:=hbr.size;clear hns hfr hbr hpf hacc
  by_cases hlt:j<L.length
  ·have hBe:=hBj hlt;have hroom:=HC.out.room j hlt;have hnext:=HC.out.next j;have HPT:=zH (zil hlt HPF.out);have cj:=KZ (HL.out.below HBR.out HL.out.lt) hlt;rw[<-hBe] at hroom hnext HPT;have HNX:Hid (j+1<L.length->B+(px L j).2.size+2=(px L (j+1)).1):=fun h=>(hnext h).symm;generalize hx:(px L j).2=x at *;have hxs:x.size<=1000:=by omega
   have HROW:Hid (∀W,zC 81 #[.int .i64 0,.int .i64 1000000000] W (qM W (tp zd))):=fun W=>yA 0 1000000000 W;have HSP2:Hid (∀W,zB w W->zC 30 #[.string x,.string ⟨#[32]⟩] W fun e w'=>e=.returned (.slice (some ⟨W.heap.size,0,none⟩) (zg x ⟨#[32]⟩ x.size 0).length (zg x ⟨#[32]⟩ x.size 0).length)/\Blk w' W.heap.size 9 (((zg x ⟨#[32]⟩ x.size 0).map (·.2)).map Value.string).toArray/\zB W w'):=fun W hb=>XA x ⟨#[32]⟩ (by decide) W (by omega) (HW.out.below hb);have HC2:=zH (Y7 x ⟨#[32]⟩);have HPC:Hid (qO x B=match zQ (zg x ⟨#[32]⟩ x.size 0) (zd,0) with
     |.error (k,i)=>.error (k,B+i)
     | .ok (acc,n)=>if n=0 then .error (3,B + x.size) else .ok acc):=rfl
   clear hBj hnext hx hBe;generalize zg x ⟨#[32]⟩ x.size 0=L2 at *;generalize hpx:qO x B=PX at *;go_wp2_with fail;refine(HROW.out _).mono ?_;rintro e w2 ⟨ra,rc,rfl,n2,-,hb2⟩;have HN2:=zH n2;have HBR2:Hid (zB w1 w2):=zT HBR.out hb2;have HNS2:=zH (HNS.out.below hb2 zN);clear n2 hb2 HROW cj;go_wp2_with fail;refine(HSP2.out _ (zT HB1.out HBR2.out)).mono ?_;rintro e w3 ⟨rfl,hL2,hb3⟩;have HBR3:Hid (zB w1 w3):=zT HBR2.out hb3;have HNS3:=zH (HNS2.out.below hb3 zN);have HN3:=zH (HN2.out.below hb3 zN);have HL2:=zH hL2;have hL2l:=HC2.out.len;clear hL2 hb3 HSP2 HN2 HNS2 HBR2;go_wp2_with fail
   try rw[show decide ((j:Int)<(L.length:Int))=true from decide_eq_true (by omega)]
   rename World=>w3
   go_loopw [8,9,10,31] (fun rV sV aV kV wr=>∃(k:Nat) (acc2:List Span) (n A:Nat) (ra:Option Addr) (rc:Nat),k<=L2.length/\kV=.int .i64 k/\aV=.int .i64 ((B+A:Nat):Int)/\(k<L2.length->A=(px L2 k).1)/\A<=1001/\sV=.bool (decide (0<n))/\zQ (L2.take k) (zd,0)=.ok (acc2,n)/\Rg acc2/\rV=.slice ra (tp acc2).length rc/\NsAt wr (.slice ra (tp acc2).length rc) (tp acc2)/\zB w3 wr) (fun _ _ _ kV _=>L2.length-(intOf kV).toNat)
   case atStart=>exact⟨0,zd,0,0,ra,rc,Nat.zero_le _,rfl,rfl,fun _=>HC2.out.first.symm,by omega,rfl,rfl,Zu,rfl,HN3.out,Below.refl _ _⟩
   case round =>
    clear HN3;obtain⟨k,acc2,n,A,ra,rc,hk,rfl,rfl,hAk,hAu,rfl,hwf,hacc2,rfl,hns2,hbr2⟩:=hrel;have HNR:=zH hns2;have HBQ:=zH hbr2;have HWF:=zH hwf;have HAC2:=zH hacc2;have hwq:=hbr2.size;have HB13:Hid (zB w1 wr):=zT HBR3.out hbr2;have HB03:Hid (zB w wr):=zT HB1.out HB13.out;clear hns2 hbr2 hwf hacc2
    by_cases hlt2:k<L2.length
    ·have hAe:=hAk hlt2;have hroom2:=HC2.out.room k hlt2;have hnext2:=HC2.out.next k;have HWT:=zH (zfe hlt2 HWF.out);have ck:=KZ (HL2.out.below HBQ.out HL2.out.lt) hlt2;rw[<-hAe] at hroom2 hnext2 HWT;have HNX2:Hid (k+1<L2.length->A+(px L2 k).2.size+1=(px L2 (k+1)).1):=fun h=>(hnext2 h).symm;generalize hy:(px L2 k).2=y at *;have hys:y.size<=1000:=by omega
     clear hAk hnext2 hy hAe HWF
     by_cases hy0:y.toList=[]
     ·have hyb:(y.toList==[])=true:=by rw[hy0];rfl
      have HWN:Hid (zQ (L2.take (k+1)) (zd,0)=.ok (acc2,n)):=by show _=_;rw[HWT.out,if_pos hy0]
      clear HWT hy0;obtain⟨SN,hSN⟩:∃SN,decide (0<n)=SN:=⟨_,rfl⟩;rw[hSN];have HSN:=zH hSN;clear hSN;go_wp2;go_roundw
      case rel=>exact⟨k+1,acc2,n,A+y.size+1,ra,rc,by omega,by go_num,congrArg (Value.int .i64) (by omega),HNX2.out,by omega,by rw[HSN.out],HWN.out,HAC2.out,rfl,HNR.out,HBQ.out⟩
      case measure=>simp[intOf];omega
     ·have hyb:(y.toList==[])=false:=by rw[beq_eq_false_iff_ne];exact hy0
      have hwt:=HWT.out;rw[if_neg hy0] at hwt;have HWD:=zH (zhI y wr (by omega) (HW.out.below HB03.out));clear HWT hy0;cases hwd:yu y with
      |error q =>
       rw[hwd] at hwt HWD;have hq0:(q != 0)=true:=by have:=JF hwd;simpa using this
       have hpx2:PX=.error (q,B+A):=by rw[HPC.out,zfR hwt]
       have hrf:RF=.error (q,B+A):=by rw[HR.out];refine zaw (k:=j+1) ?_;rw[HPT.out,hpx2]
       have HRFE:=zH hrf;clear hwt hwd hpx2 hrf;go_wp2_with fail;refine HWD.out.mono ?_;rintro e w5 ⟨m5,a5,c5,kk,rfl,-,-,hb5,rfl,rfl⟩;have HB5:Hid (zB w w5):=zT HB03.out hb5;have k5:=(HK1.out.below HB13.out HK1.out.lt).below hb5 (by have:=HB03.out.size;have:=HB13.out.size;omega);have c0:=k5.cell 0;have c1:=k5.cell 1;have f0:=k5.frozen 0;have f1:=k5.frozen 1;obtain⟨PL,hPL⟩:∃PL:Int,((B+A:Nat):Int)=PL:=⟨_,rfl⟩;rw[hPL];have q5:=(k5.set (i:=0) (v:=.int .i64 kk)).set (i:=1) (v:=.int .i64 PL);have HQ5:=zH q5;have HBZ:Hid (zB w ((w5.setCell ⟨w.heap.size,0,none⟩ (.int .i64 kk)).setCell ⟨w.heap.size,1,none⟩ (.int .i64 PL))):=(HB5.out.setCell (p:=⟨w.heap.size,0,none⟩) zN _).setCell (p:=⟨w.heap.size,1,none⟩) zN _;have HPL:=zH hPL;clear q5 k5 hb5 hPL HWD HPC HPT;go_wp2;have r0:=HQ5.out.cell 0;have r1:=HQ5.out.cell 1;refine bodyPost_ret (v:=.tuple #[.slice none 0 0,.agg #[.int .i64 kk,.int .i64 PL]]) (by simp[results,Tryz.results53,go_sem,r0,r1]) rfl ?_;refine⟨[],none,0,kk,PL,rfl,nsAt_nil _,fun g hg=>by simp[Value.ownBlock] at hg,HBZ.out,?_⟩;rw[HRFE.out];exact⟨rfl,rfl,HPL.out.symm⟩
      |ok lw =>
       rw[hwd] at hwt HWD;have hrl:=Xm hwd;have HWN:Hid (zQ (L2.take (k+1)) (zd,0)=.ok (nd acc2 lw,n+1)):=hwt;have HRG:=zH (xC HAC2.out hrl);have HAND:=zH (fun (u:Value) (X:World) (h1:NsAt X (.slice ra (tp acc2).length rc) (tp acc2)) (h2:NsAt X u (tp lw))=>zgF acc2 lw HAC2.out hrl (.slice ra (tp acc2).length rc) u X h1 h2);have hzz:((0:Int) != 0)=false:=rfl;clear hwt hwd hrl;go_wp2_with fail;refine HWD.out.mono ?_;rintro e w5 ⟨m5,a5,c5,kk,rfl,hn5,-,hb5,rfl,rfl⟩;have HA5:=zH (HAND.out _ w5 (HNR.out.below hb5 zN) hn5);have HBQ5:Hid (zB w3 w5):=HBQ.out.trans (hb5.mono hwq);clear hn5 hb5 HAND HWD HNR;go_wp2_with fail;refine HA5.out.mono ?_;rintro e w6 ⟨a6,c6,rfl,hn6,-,hb6⟩;have HN6:=zH hn6;have HB6:Hid (zB w3 w6):=zT HBQ5.out hb6;clear hn6 hb6 HA5 HBQ5;go_wp2;go_roundw
       case rel=>exact⟨k+1,nd acc2 lw,n+1,A+y.size+1,a6,c6,by omega,by go_num,congrArg (Value.int .i64) (by omega),HNX2.out,by omega,by simp,HWN.out,HRG.out,rfl,HN6.out,HB6.out⟩
       case measure=>simp[intOf];omega
    ·obtain rfl:k=L2.length:=by omega
     have hwf:=HWF.out;rw[List.take_length] at hwf;have hpx2:=HPC.out;rw[hwf] at hpx2;simp only at hpx2;clear hwf HWF hAk HC2
     by_cases hn0:n=0
     ·rw[if_pos hn0] at hpx2;have hrf:RF=.error (3,B+x.size):=by rw[HR.out];refine zaw (k:=j+1) ?_;rw[HPT.out,hpx2]
      have HRFE:=zH hrf;have hd0:decide (0<n)=false:=decide_eq_false (by omega);rw[hd0];have k5:=HK1.out.below HB13.out HK1.out.lt;have c0:=k5.cell 0;have c1:=k5.cell 1;have f0:=k5.frozen 0;have f1:=k5.frozen 1;obtain⟨PL,hPL⟩:∃PL:Int,(B:Int)+(x.size:Int)=PL:=⟨_,rfl⟩;have hPL2:PL=((B+x.size:Nat):Int):=by omega
      have q5:=(k5.set (i:=0) (v:=.int .i64 3)).set (i:=1) (v:=.int .i64 PL);have HQ5:=zH q5;have HBZ:Hid (zB w ((wr.setCell ⟨w.heap.size,0,none⟩ (.int .i64 3)).setCell ⟨w.heap.size,1,none⟩ (.int .i64 PL))):=(HB03.out.setCell (p:=⟨w.heap.size,0,none⟩) zN _).setCell (p:=⟨w.heap.size,1,none⟩) zN _;have HPL:=zH hPL;have HPL2:=zH hPL2;clear q5 k5 hpx2 hrf hPL2 hd0 hn0 HPC HPT;go_wp2;have r0:=HQ5.out.cell 0;have r1:=HQ5.out.cell 1;refine bodyPost_ret (v:=.tuple #[.slice none 0 0,.agg #[.int .i64 3,.int .i64 PL]]) (by simp[results,Tryz.results53,go_sem,r0,r1]) rfl ?_;refine⟨[],none,0,3,PL,rfl,nsAt_nil _,fun g hg=>by simp[Value.ownBlock] at hg,HBZ.out,?_⟩;rw[HRFE.out];exact⟨rfl,rfl,HPL2.out⟩
     ·rw[if_neg hn0] at hpx2;have hpt:=HPT.out;rw[hpx2] at hpt;have HPN:Hid (qd (L.take (j+1)) []=.ok (orr acc acc2)):=hpt;have HRG:=zH (ZH HACC.out HAC2.out);have hd0:decide (0<n)=true:=decide_eq_true (by omega);rw[hd0];have HOR:=zH (zgS acc acc2 HACC.out HAC2.out (.slice oa (tp acc).length oc) (.slice ra (tp acc2).length rc) wr (HNS3.out.below HBQ.out zN) HNR.out);clear hpx2 hpt hd0 hn0 HPC HPT HNR HNS3;go_wp2_with fail;refine HOR.out.mono ?_;rintro e w6 ⟨a6,c6,rfl,hn6,hf6,hb6⟩;have HN6:=zH hn6;have HF6:Hid (∀g,(Value.slice a6 (tp (orr acc acc2)).length c6).ownBlock=some g->w1.heap.size<=g):=fun g hg=>Nat.le_trans HB13.out.size (hf6 g hg);have HB6:Hid (zB w1 w6):=zT HB13.out hb6;clear hn6 hf6 hb6 HOR;go_wp2;go_roundw
      case rel=>exact⟨j+1,orr acc acc2,B+x.size+2,a6,c6,by omega,by go_num,congrArg (Value.int .i64) (by omega),HNX.out,by omega,HPN.out,HRG.out,rfl,HN6.out,HF6.out,HB6.out⟩
      case measure=>simp[intOf];omega
  ·obtain rfl:j=L.length:=by omega
   have hpf:=HPF.out;rw[List.take_length] at hpf;have hrf:RF=.ok acc:=by rw[HR.out,hpf]
   have HRFE:=zH hrf;have HB03:Hid (zB w wr):=zT HB1.out HBR.out;have fr:=HFN.out.below HB03.out;have k7:Blk wr w.heap.size 45 #[.int .i64 0,.int .i64 0]:=HK1.out.below HBR.out HK1.out.lt;have c3:_=some (Value.int .i64 0):=k7.cell 0;have c4:_=some (Value.int .i64 0):=k7.cell 1;have f3:=k7.frozen 0;have f4:=k7.frozen 1;have g3:wr.cell? ⟨0,0,none⟩=some (.int .i64 0):=fr.c0;have g4:wr.cell? ⟨0,1,none⟩=some (.int .i64 (-1)):=fr.c1;obtain⟨Z,hZ⟩:∃Z,(wr.setCell ⟨w.heap.size,0,none⟩ (.int .i64 0)).setCell ⟨w.heap.size,1,none⟩ (.int .i64 (-1))=Z:=⟨_,rfl⟩;have q5:Blk Z w.heap.size 45 #[.int .i64 0,.int .i64 (-1)]:=by rw[<-hZ];exact(k7.set (i:=0) (v:=.int .i64 0)).set (i:=1) (v:=.int .i64 (-1))
   have HQ5:=zH q5;have HBZ:Hid (zB w Z.drew):=by rw[<-hZ];exact((HB03.out.setCell (p:=⟨w.heap.size,0,none⟩) zN _).setCell (p:=⟨w.heap.size,1,none⟩) zN _).drew
   have HNZ:Hid (NsAt Z.drew (.slice oa (tp acc).length oc) (tp acc)):=by
    refine NsAt.drew ⟨⟨_,_,rfl⟩,fun i hi=>?_⟩;obtain⟨g,cap',e1,hg,hc⟩:=HNS.out.cells i hi;refine⟨g,cap',e1,by rw[<-hZ];simp[World.setCell];exact hg,?_⟩;have hne:g≠w.heap.size:=by have:=HFR.out g (by rw[e1];rfl);omega
    rw[<-hZ,cell_set_other hne,cell_set_other hne];exact hc
   have HFZ:Hid (∀g,(Value.slice oa (tp acc).length oc).ownBlock=some g->w.heap.size<=g):=fun g hg=>by have:=HFR.out g hg;omega
   have HZ:=zH hZ;clear k7 fr hpf hrf HFR HNS HPF q5 hZ;go_wp2_with fail;go_big_region;clear c3 c4 f3 f4 g3 g4;rw[HZ.out];go_wp2;have r0:=HQ5.out.cell 0;have r1:=HQ5.out.cell 1;refine bodyPost_ret (v:=.tuple #[.slice oa (tp acc).length oc,.agg #[.int .i64 0,.int .i64 (-1)]]) (by simp[results,Tryz.results53,go_sem,r0,r1]) rfl ?_;refine⟨tp acc,oa,oc,0,-1,rfl,HNZ.out,HFZ.out,HBZ.out,?_⟩;rw[HRFE.out];exact⟨rfl,rfl,rfl⟩
end
section
open Go.RowKit Go.Shelf Sv
structure KindsAt(w:World)(ad:Addr)(cap:Nat):Prop where
 c:w.cell? ⟨1,0,none⟩=some (.slice (some ad) 5 cap)
 s:∀j,j<5->w.cell? (ad.add j)=some (.string ⟨(wl j).toArray⟩)
 lt:1<w.heap.size
 la:ad.block<w.heap.size
theorem KindsAt.below{w w':World}{ad:Addr}{cap:Nat}(h:KindsAt w ad cap)(hb:zB w w'):KindsAt w' ad cap :=
 ⟨(hb.cell (p:=⟨1,0,none⟩) h.lt).trans h.c,fun j hj=>(hb.cell (p:=ad.add j) (by rw[Zq];exact h.la)).trans (h.s j hj),Nat.lt_of_lt_of_le h.lt hb.size,Nat.lt_of_lt_of_le h.la hb.size⟩
def placeO:Option Nat->Int
 |none=>-1
 |some i=>(i:Int)
def zeroLn:Ln:=⟨0,⟨#[]⟩,0,0,0,⟨#[]⟩,[]⟩
def zaY(x:Ln)(k p:Int):Except (Int × Option Nat) Ln->Prop
 |.ok y=>x=y/\k=0/\p=-1
 |.error (q,o)=>x=zeroLn/\k=q/\p=placeO o
def RlRes(w:World)(r:Except (Int × Option Nat) Ln)(e:Ending)(w':World):Prop:=∃(x:Ln) (a:Option Addr) (c:Nat) (k p:Int),e=.returned (.tuple #[.agg #[.int .i64 x.kind,.string x.name,.int .i64 x.a,.int .i64 x.b,.int .i64 x.c,.string x.other,.slice a (tp x.rng).length c],.agg #[.int .i64 k,.int .i64 p]])/\NsAt w' (.slice a (tp x.rng).length c) (tp x.rng)/\Rg x.rng/\(∀g,(Value.slice a (tp x.rng).length c).ownBlock=some g->w.heap.size<=g)/\zB w w'/\zaY x k p r
theorem rrng_any(s:ByteArray)(W:World)(hs:s.size<=100000)(hw:Lb W)(hF:FineR W):zC 53 #[.string s] W fun e w'=>∃ (l:List Span) (a:Option Addr) (c:Nat) (k p:Int),e=.returned (.tuple #[.slice a (tp l).length c,.agg #[.int .i64 k,.int .i64 p]])/\NsAt w' (.slice a (tp l).length c) (tp l)/\Rg l/\(∀ g,(Value.slice a (tp l).length c).ownBlock=some g->W.heap.size<=g)/\zB W w'/\(match rngF s with
  |.ok m=>l=m/\k=0/\p=-1
  | .error (q,o)=>l=[]/\k=q/\p=placeO o):=by
 unfold rngF
 by_cases h:1000<s.size
 ·rw[if_pos h];exact(zcH s W (by omega)).mono fun e w' ⟨he,hb⟩=>⟨[],none,0,4,-1,he,nsAt_nil _,rg_nil,(fun g hg=>by simp[Value.ownBlock] at hg),hb,rfl,rfl,rfl⟩
 ·rw[if_neg h];refine(zck s W (by omega) hw hF).mono fun e w' ⟨m,a,c,k,p,he,h1,h2,h3,h4⟩=>?_;cases hx:yH s with
  |ok l =>rw[hx] at h4;obtain⟨rfl,rfl,rfl⟩:=h4;exact⟨l,a,c,0,-1,he,h1,Ji hx,h2,h3,rfl,rfl,rfl⟩
  |error q =>obtain⟨q1,q2⟩:=q;rw[hx] at h4;obtain⟨rfl,rfl,rfl⟩:=h4;exact⟨[],a,c,_,_,he,h1,rg_nil,h2,h3,rfl,rfl,rfl⟩
theorem kind_lt{s:ByteArray}{k:Nat}(hk:1<=k)(hk4:k<=4):((⟨(wl k).toArray⟩:ByteArray).toList==s.toList)=decide (kindF s=k):=by
 have e:(⟨(wl k).toArray⟩:ByteArray).toList=wl k:=ByteArray.toList_eq _;rw[e,Bool.eq_iff_iff,beq_iff_eq,decide_eq_true_iff];constructor
 ·intro h;exact JK hk hk4 h.symm
 ·intro h;unfold kindF at h;split at h
  ·rename_i h1;subst h;rw[h1];rfl
  ·split at h
   ·rename_i h1;subst h;rw[h1];rfl
   ·split at h
    ·rename_i h1;subst h;rw[h1];rfl
    ·split at h
     ·rename_i h1;subst h;rw[h1];rfl
     ·omega
structure LR(w W:World)(b:Nat)(cs:Array Value):Prop where
 z:Blk W w.heap.size 59 z7
 f:Blk W (w.heap.size+1) 45 #[.int .i64 0,.int .i64 0]
 x:Blk W b 59 cs
 ne:w.heap.size+1<b
 B:zB w W
theorem LR.step{w W W':World}{b:Nat}{cs:Array Value}(h:LR w W b cs)(hb:zB W W'):LR w W' b cs:=⟨h.z.below hb h.z.lt,h.f.below hb h.f.lt,h.x.below hb h.x.lt,h.ne,zT h.B hb⟩
theorem LR.set{w W:World}{b:Nat}{cs:Array Value}(h:LR w W b cs)(i:Nat)(v:Value):LR w (W.setCell ⟨b,i,none⟩ v) b (cs.setIfInBounds i v) :=
 ⟨h.z.other (by have:=h.ne;omega),h.f.other (by have:=h.ne;omega),h.x.set,h.ne,h.B.setCell (p:=⟨b,i,none⟩) (by have:=h.ne;show w.heap.size<=b;omega) _⟩
theorem LR.done{w W:World}{b:Nat}{cs:Array Value}(h:LR w W b cs)(v0 v1 v2 v3 v4 v5 v6 u0 u1:Value):∃Z,(((((((((W.setCell ⟨w.heap.size,0,none⟩ v0).setCell ⟨w.heap.size,1,none⟩ v1).setCell ⟨w.heap.size,2,none⟩ v2).setCell ⟨w.heap.size,3,none⟩ v3).setCell ⟨w.heap.size,4,none⟩ v4).setCell ⟨w.heap.size,5,none⟩ v5).setCell ⟨w.heap.size,6,none⟩ v6).setCell ⟨w.heap.size+1,0,none⟩ u0).setCell ⟨w.heap.size+1,1,none⟩ u1)=Z /\
  Blk Z w.heap.size 59 #[v0,v1,v2,v3,v4,v5,v6]/\Blk Z (w.heap.size+1) 45 #[u0,u1]/\zB w Z/\(∀(v:Value) (l:List Nat),(∀g,v.ownBlock=some g->w.heap.size+1<g)->NsAt W v l->NsAt Z v l):=by
 refine⟨_,rfl,?_,?_,?_,?_⟩
 ·exact((((((((h.z.set (i:=0) (v:=v0)).set (i:=1) (v:=v1)).set (i:=2) (v:=v2)).set (i:=3) (v:=v3)).set (i:=4) (v:=v4)).set (i:=5) (v:=v5)).set (i:=6) (v:=v6)).other (by omega)).other (by omega)
 ·exact(((((((((h.f.other (by omega)).other (by omega)).other (by omega)).other (by omega)).other (by omega)).other (by omega)).other (by omega)).set (i:=0) (v:=u0)).set (i:=1) (v:=u1))
 ·exact((((((((h.B.setCell (p:=⟨w.heap.size,0,none⟩) zN _).setCell (p:=⟨w.heap.size,1,none⟩) zN _).setCell (p:=⟨w.heap.size,2,none⟩) zN _).setCell (p:=⟨w.heap.size,3,none⟩) zN _).setCell (p:=⟨w.heap.size,4,none⟩) zN _).setCell (p:=⟨w.heap.size,5,none⟩) zN _).setCell (p:=⟨w.heap.size,6,none⟩) zN _).setCell (p:=⟨w.heap.size+1,0,none⟩) (Nat.le_succ _) _).setCell (p:=⟨w.heap.size+1,1,none⟩) (Nat.le_succ _) _
 ·intro v l hv hn;refine⟨hn.form,fun i hi=>?_⟩;obtain⟨g,cap,e,hg,hc⟩:=hn.cells i hi;have hgt:=hv g (by rw[e];rfl);refine⟨g,cap,e,by simp[World.setCell];exact hg,?_⟩;rw[cell_set_other (by omega),cell_set_other (by omega),cell_set_other (by omega),cell_set_other (by omega),cell_set_other (by omega),cell_set_other (by omega),cell_set_other (by omega),cell_set_other (by omega),cell_set_other (by omega)];exact hc
def kup(K k:Nat):Nat:=if K<k then K else 0
abbrev x7(K:Nat)(nm:ByteArray)(a b c:Int)(ot:ByteArray)(r:Value):Array Value:=#[.int .i64 K,.string nm,.int .i64 a,.int .i64 b,.int .i64 c,.string ot,r]
theorem rline_none(s:ByteArray)(w:World)(hs:s.size<=100000)(hw:Lb w)(hF:FineR w)(ad:Addr)(cap:Nat)(hK:KindsAt w ad cap)(hk:kindF (cutF s 32).1=0):zC 31 #[.string s] w (RlRes w (.error (3,none))):=by
 have k0:=(Blk.new w 59 z7).alloc (.cells #[.int .i64 0,.int .i64 0] 45);have k1:=Blk.new (w.alloc (.cells z7 59)) 45 #[.int .i64 0,.int .i64 0];rw[World.size_alloc] at k1;have hB0:zB w ((w.alloc (.cells z7 59)).alloc (.cells #[.int .i64 0,.int .i64 0] 45)):=((Below.refl _ w).alloc zN _).alloc (by simp) _;have HK0:=zH k0;have HK1:=zH k1;have HB0:=zH hB0;have HN1:=zH (fun W=>rnext_any s W hs);have hz2:=(cutF_size s 32).2;have HLW:=zH hw;have HFN:=zH hF;have HKD:=zH hK;obtain⟨w1,hw1⟩:∃w1,(cutF s 32).1=w1:=⟨_,rfl⟩;obtain⟨s2,hs2⟩:∃s2,(cutF s 32).2=s2:=⟨_,rfl⟩;rw[hw1] at hk HN1;rw[hs2] at hz2 HN1;have hz2':s2.size<=100000:=by omega
 have HKX:Hid (∀k,1<=k->k<=4->((⟨(wl k).toArray⟩:ByteArray).toList==w1.toList)=decide (kindF w1=k)):=fun k h1 h4=>kind_lt h1 h4;rw[hk] at HKX;clear k0 k1 hB0 hw hF hK hz2 hs;go_enter Tryz.func31,Tryz.ntmps31;go_wp2_with fail;generalize (w.alloc (.cells z7 59)).alloc (.cells #[.int .i64 0,.int .i64 0] 45)=W0 at *;refine(HN1.out _).mono ?_;rintro e wA ⟨rfl,hbA⟩;have hx:=Blk.new wA 59 z7;have hA:zB wA (wA.alloc (.cells z7 59)):=zF.alloc zN _;have hA0:zB W0 (wA.alloc (.cells z7 59)):=zT hbA hA;have hLR:LR w (wA.alloc (.cells z7 59)) wA.heap.size z7:=⟨HK0.out.below hA0 HK0.out.lt,HK1.out.below hA0 HK1.out.lt,hx,Nat.lt_of_lt_of_le HK1.out.lt hbA.size,zT HB0.out hA0⟩;have HLR:=zH hLR;clear hbA hx hA hA0 hLR HN1 HK0 HK1 HB0;go_wp2_with fail;generalize wA.alloc (.cells z7 59)=W1 at *;obtain⟨b,hb⟩:∃b,wA.heap.size=b:=⟨_,rfl⟩;rw[hb] at HLR ⊢;clear hb;go_loopw [7] (fun kV wr=>∃k:Nat,1<=k/\k<=5/\kV=.int .i64 k/\LR w wr b (x7 (kup 0 k) ⟨#[]⟩ 0 0 0 ⟨#[]⟩ (.slice none 0 0))) (fun kV _=>5-(intOf kV).toNat)
 case atStart=>exact⟨1,by omega,by omega,rfl,by rw[show kup 0 1=0 by unfold kup;split<;>omega];exact HLR.out⟩
 case round =>
  clear HLR;obtain⟨k,hk1,hk5,rfl,hLR⟩:=hrel;have HL:=zH hLR;clear hLR
  by_cases hlt:k<=4
  ·have hkd:=HKD.out.below HL.out.B;have g0:=hkd.c;have g1:=hkd.s k (by omega);have hc:=HKX.out k hk1 hlt;have x0:_=some (Value.int .i64 ((kup 0 k:Nat):Int)):=HL.out.x.cell 0;have xf:=HL.out.x.frozen 0;clear hkd
   by_cases he:0=k
   ·have hst:=HL.out.set 0 (.int .i64 k);have HST:Hid (LR w (wr.setCell ⟨b,0,none⟩ (.int .i64 k)) b (x7 (kup 0 (k+1)) ⟨#[]⟩ 0 0 0 ⟨#[]⟩ (.slice none 0 0))):=by
     have e:kup 0 (k+1)=k:=by unfold kup;rw[if_pos (by omega)];exact he
     rw[e];exact hst
    rw[decide_eq_true he] at hc;generalize kup 0 k=KU at *;generalize (⟨(wl k).toArray⟩:ByteArray)=WK at *;clear hst he;go_wp2;go_roundw
    case rel=>exact⟨k+1,by omega,by omega,by go_num,HST.out⟩
    case measure=>simp[intOf];omega
   ·have HST:Hid (LR w wr b (x7 (kup 0 (k+1)) ⟨#[]⟩ 0 0 0 ⟨#[]⟩ (.slice none 0 0))):=by
     have e:kup 0 (k+1)=kup 0 k:=by
      unfold kup
      by_cases h:0<k
      ·rw[if_pos h,if_pos (by omega)]
      ·rw[if_neg h,if_neg (by omega)]
     rw[e];exact HL.out
    rw[decide_eq_false he] at hc;generalize kup 0 k=KU at *;generalize (⟨(wl k).toArray⟩:ByteArray)=WK at *;clear he;go_wp2;go_roundw
    case rel=>exact⟨k+1,by omega,by omega,by go_num,HST.out⟩
    case measure=>simp[intOf];omega
  ·obtain rfl:k=5:=by omega
   have hku:kup 0 5=0:=by unfold kup;rw[if_pos (by omega)]
   rw[hku] at HL;clear hku;have xc0:_=some (Value.int .i64 (0:Int)):=HL.out.x.cell 0;have HBR:=zH (xN 3 wr);go_wp2_with fail;refine HBR.out.mono ?_;rintro e wE ⟨rfl,hbE⟩;have hE:=HL.out.step hbE;have zc0:_=some (Value.int .i64 0):=hE.z.cell 0;have zc1:_=some (Value.string ⟨#[]⟩):=hE.z.cell 1;have zc2:_=some (Value.int .i64 0):=hE.z.cell 2;have zc3:_=some (Value.int .i64 0):=hE.z.cell 3;have zc4:_=some (Value.int .i64 0):=hE.z.cell 4;have zc5:_=some (Value.string ⟨#[]⟩):=hE.z.cell 5;have zc6:_=some (Value.slice none 0 0):=hE.z.cell 6;have zf0:=hE.z.frozen 0;have zf1:=hE.z.frozen 1;have zf2:=hE.z.frozen 2;have zf3:=hE.z.frozen 3;have zf4:=hE.z.frozen 4;have zf5:=hE.z.frozen 5;have zf6:=hE.z.frozen 6;have fc0:_=some (Value.int .i64 0):=hE.f.cell 0;have fc1:_=some (Value.int .i64 0):=hE.f.cell 1;have ff0:=hE.f.frozen 0;have ff1:=hE.f.frozen 1;obtain⟨Z,hZ,qz,qf,qB,-⟩:=hE.done (.int .i64 0) (.string ⟨#[]⟩) (.int .i64 0) (.int .i64 0) (.int .i64 0) (.string ⟨#[]⟩) (.slice none 0 0) (.int .i64 3) (.int .i64 (-1));have HZ:=zH hZ;have HQZ:=zH qz;have HQF:=zH qf;have HQB:=zH qB;clear hZ qz qf qB hE hbE HBR HL;go_wp2;clear zc0 zc1 zc2 zc3 zc4 zc5 zc6 zf0 zf1 zf2 zf3 zf4 zf5 zf6 fc0 fc1 ff0 ff1;rw[HZ.out];have r0:=HQZ.out.cell 0;have r1:=HQZ.out.cell 1;have r2:=HQZ.out.cell 2;have r3:=HQZ.out.cell 3;have r4:=HQZ.out.cell 4;have r5:=HQZ.out.cell 5;have r6:=HQZ.out.cell 6;have s0:=HQF.out.cell 0;have s1:=HQF.out.cell 1;refine bodyPost_ret (v:=.tuple #[.agg z7,.agg #[.int .i64 3,.int .i64 (-1)]]) (by simp[results,Tryz.results31,go_sem,r0,r1,r2,r3,r4,r5,r6,s0,s1]) rfl ?_;exact⟨zeroLn,none,0,3,-1,rfl,nsAt_nil _,rg_nil,fun g hg=>by simp[Value.ownBlock] at hg,HQB.out,rfl,rfl,rfl⟩
end
end Go.Proofs.YtlamemjfaogjmaaGreatDoor
