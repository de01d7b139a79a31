import Derived.Test.YthifnefkdjkicaaGreatDoorSvRNum
import Derived.Lib.ItoaLen
set_option maxHeartbeats 1000000
set_option maxRecDepth 100000
namespace Go.Proofs.YthifnefkdjkicaaGreatDoor
section
open Go.RowKit Go.Shelf Sv
def JD:Prop:=∀(s:ByteArray) (W:World),s.size<=100000->Lb W->zC 35 #[s,.string ⟨#[46]⟩] W fun e w' =>
 e=.returned (.slice (some W.heap.size) (zq s ⟨#[46]⟩ s.size 0).length (zq s ⟨#[46]⟩ s.size 0).length)/\w'=W.alloc (.cells (((zq s ⟨#[46]⟩ s.size 0).map (·.2)).map Value.string).toArray 9)
def QB:Except Int (List Nat)->Value
 |.ok ns=>.tuple #[.agg (xu ns),(0:Int)]
 |.error k=>.tuple #[.agg #[(0:Int),(0:Int),(0:Int)],k]
theorem zpH(HS:JD)(s:ByteArray)(w:World)(hs:s.size<=100000)(hw:Lb w)(h:(zq s ⟨#[46]⟩ s.size 0).length≠3) :
  zR 69 #[s] w (QB (.error 3)):=by
 have H:Hid (∀W,zB w W->zC 35 #[s,.string ⟨#[46]⟩] W fun e w'=>∃a n,n≠3/\e=.returned (.slice a n n)/\zB W w'):=fun W hb=>(HS s W hs (hw.below hb)).mono fun e w' ⟨he,hw'⟩=>⟨_,_,h,he,hw'▸zF.alloc zN _⟩;have kr:=Blk.new w 81 #[(0:Int),(0:Int),(0:Int)];have y:zB w (w.alloc (.cells #[(0:Int),(0:Int),(0:Int)] 81)):=(Below.refl _ w).alloc zN _;have u:=zH kr;have o:=zH y;clear h hw HS kr y;go_enter Tryz.func69,Tryz.ntmps69;go_wp2_with fail;generalize w.alloc (.cells #[(0:Int),(0:Int),(0:Int)] 81)=W0 at *;refine(H.out _ o.out).mono ?_;rintro e w1 ⟨a,n,hn,rfl,j⟩;have k1:=u.out.below j u.out.lt;have C:Hid (zB w w1):=zT o.out j;have K:=zH k1;have c0:_=some (Value.int .i64 0):=k1.cell 0;have c1:_=some (Value.int .i64 0):=k1.cell 1;have c2:_=some (Value.int .i64 0):=k1.cell 2;have f0:=k1.frozen 0;have f1:=k1.frozen 1;have f2:=k1.frozen 2;have M:((n:Int) != 3)=true:=by rw[bne_iff_ne];omega
 have q:Blk (((w1.setCell w.heap.size (.int .i64 0)).setCell ⟨w.heap.size,1,none⟩ (.int .i64 0)).setCell ⟨w.heap.size,2,none⟩ (.int .i64 0)) w.heap.size 81 #[(0:Int),(0:Int),(0:Int)]:=((k1.set (i:=0) (v:=.int .i64 0)).set (i:=1) (v:=.int .i64 0)).set (i:=2) (v:=.int .i64 0);have J:Hid (zB w (((w1.setCell w.heap.size (.int .i64 0)).setCell ⟨w.heap.size,1,none⟩ (.int .i64 0)).setCell ⟨w.heap.size,2,none⟩ (.int .i64 0))):=((C.out.setCell (p:=w.heap.size) zN _).setCell (p:=⟨w.heap.size,1,none⟩) zN _).setCell (p:=⟨w.heap.size,2,none⟩) zN _;have HQ:=zH q;clear k1 j H hn q;go_wp2;have r0:=HQ.out.cell 0;have r1:=HQ.out.cell 1;have r2:=HQ.out.cell 2;refine bodyPost_ret (v:=.tuple #[.agg #[(0:Int),(0:Int),(0:Int)],(3:Int)]) (by simp[results,Tryz.results69,go_sem,r0,r1,r2]) rfl ?_;exact⟨rfl,J.out⟩
theorem znH(ns:List Nat)(n:Nat)(h:ns.length<3):(xu ns).setIfInBounds ns.length (.int .i64 n)=xu (ns++[n]):=by
 match ns,h with
 |[],_=>rfl
 |[_],_=>rfl
 |[_,_],_=>rfl
theorem zpX{L:List (Nat × ByteArray)}{k:Nat}{ns:List Nat}(hk:k<L.length)(h:qH (L.take k)=.ok ns):qH (L.take (k+1))=match yg (L[k].2).data.toList with
  |.error e=>.error e
  |.ok n=>.ok (ns++[n]):=by
 rw[List.take_succ_eq_append_getElem hk,zfB h];cases yg L[k].2.data.toList<;>rfl
theorem zbp{L:List (Nat × ByteArray)}{k:Nat}{e:Int}(h:qH (L.take k)=.error e):qH L=.error e:=by
 have:=zcC (r:=L.drop k) h
 rwa [List.take_append_drop] at this
theorem zjW(HS:JD)(s:ByteArray)(w:World)(hs:s.size<=100000)(hw:Lb w)(h:(zq s ⟨#[46]⟩ s.size 0).length=3)(hsz:∀x∈zq s ⟨#[46]⟩ s.size 0,x.2.size<=100000) :
  zR 69 #[s] w (QB (qH (zq s ⟨#[46]⟩ s.size 0))):=by
 have H:Hid (∀W,zB w W->zC 35 #[s,.string ⟨#[46]⟩] W fun e w'=>e=.returned (.slice (some W.heap.size) 3 3)/\Blk w' W.heap.size 9 (((zq s ⟨#[46]⟩ s.size 0).map (·.2)).map Value.string).toArray/\zB W w'):=fun W hb=>(HS s W hs (hw.below hb)).mono fun e w' ⟨he,hw'⟩=>by
  rw[h] at he;exact⟨he,hw'▸Blk.new _ _ _,hw'▸zF.alloc zN _⟩
 generalize zq s ⟨#[46]⟩ s.size 0=L at *;have HN:Hid (∀k (hk:k<L.length) W,zB w W->zR 103 #[.string L[k].2] W (XZ (QO (L[k].2).data.toList))):=fun k hk W hb=>zn1 _ W (hsz _ (List.getElem_mem hk)) (hw.below hb);have kr:=Blk.new w 81 #[(0:Int),(0:Int),(0:Int)];have ag:zB w (w.alloc (.cells #[(0:Int),(0:Int),(0:Int)] 81)):=(Below.refl _ w).alloc zN _;have a7:=zH kr;have a6:=zH ag;have ad:=zH h;clear h hw HS kr ag hsz;go_enter Tryz.func69,Tryz.ntmps69;go_wp2_with fail;generalize w.alloc (.cells #[(0:Int),(0:Int),(0:Int)] 81)=W0 at *;refine(H.out _ a6.out).mono ?_;rintro e w1 ⟨rfl,kp,a9⟩;have U:=zH (a7.out.below a9 a7.out.lt);have aa:Hid (zB w w1):=zT a6.out a9;have ac:=zH kp;clear a9 H kp;go_wp2_with fail;have kv:=Blk.new w1 81 #[(0:Int),(0:Int),(0:Int)];have ai:zB w1 (w1.alloc (.cells #[(0:Int),(0:Int),(0:Int)] 81)):=(Below.refl _ w1).alloc zN _;have an:=zH kv;have am:=zH ai;clear kv ai;generalize w1.alloc (.cells #[(0:Int),(0:Int),(0:Int)] 81)=W2 at *;go_loopw [18] (fun iV wr=>∃(k:Nat) (ns:List Nat),k<=3/\iV=.int .i64 k/\ns.length=k/\qH (L.take k)=.ok ns/\Blk wr w1.heap.size 81 (xu ns)/\zB w1 wr) (fun iV _=>3-(intOf iV).toNat)
 case atStart=>exact⟨0,[],by omega,rfl,rfl,rfl,an.out,am.out⟩
 case round =>
  obtain⟨k,ns,hk,rfl,Y,Z,hv,aj⟩:=hrel;have a3:=zH Y;have af:=zH Z;have V:=zH hv;have o:=zH aj;clear Y Z hv aj
  by_cases hlt:k<3
  ·have a5:k<L.length:=by rw[ad.out];exact hlt
   have c0:wr.cell? ⟨W0.heap.size,k,none⟩=some (.string L[k].2):=by
    rw[(ac.out.below o.out ac.out.lt).cell k];simp[a5]
   have a4:=zH (zpX a5 af.out);have ae:=zH (HN.out k a5);generalize L[k].2=p at *;clear a5;have ab:Hid (zB w wr):=zT aa.out o.out;go_wp2_with fail;refine(ae.out _ ab.out).mono ?_;rintro e w3 ⟨rfl,X⟩;have R:Hid (zB w w3):=zT ab.out X;have J:=zH ((U.out.below o.out U.out.lt).below X (Nat.lt_of_lt_of_le U.out.lt o.out.size));have a8:=zH (V.out.below X V.out.lt);have ao:Hid (zB w1 w3):=zT o.out X;clear X ae a7 a6;have j:=zkY p.data.toList;cases hnm:QO p.data.toList with
   |none =>rw[hnm] at j;simp only[XZ];have K:Hid (yg p.data.toList=.error 3):=j;clear j hnm c0;have M:Hid (qH L=.error 3):=zbp (k:=k+1) (by rw[a4.out,K.out]);have kz:=J.out;have z0:_=some (Value.int .i64 0):=kz.cell 0;have z1:_=some (Value.int .i64 0):=kz.cell 1;have z2:_=some (Value.int .i64 0):=kz.cell 2;have f0:=kz.frozen 0;have f1:=kz.frozen 1;have f2:=kz.frozen 2;have q:Blk (((w3.setCell w.heap.size (.int .i64 0)).setCell ⟨w.heap.size,1,none⟩ (.int .i64 0)).setCell ⟨w.heap.size,2,none⟩ (.int .i64 0)) w.heap.size 81 #[(0:Int),(0:Int),(0:Int)]:=((kz.set (i:=0) (v:=.int .i64 0)).set (i:=1) (v:=.int .i64 0)).set (i:=2) (v:=.int .i64 0);have C:Hid (zB w (((w3.setCell w.heap.size (.int .i64 0)).setCell ⟨w.heap.size,1,none⟩ (.int .i64 0)).setCell ⟨w.heap.size,2,none⟩ (.int .i64 0))):=((R.out.setCell (p:=w.heap.size) zN _).setCell (p:=⟨w.heap.size,1,none⟩) zN _).setCell (p:=⟨w.heap.size,2,none⟩) zN _;have HQ:=zH q;clear kz q;go_wp2;have r0:=HQ.out.cell 0;have r1:=HQ.out.cell 1;have r2:=HQ.out.cell 2;rw[M.out];refine bodyPost_ret (v:=.tuple #[.agg #[(0:Int),(0:Int),(0:Int)],(3:Int)]) (by simp[results,Tryz.results69,go_sem,r0,r1,r2]) rfl ?_;exact⟨rfl,C.out⟩
   |some x =>
    rw[hnm] at j;simp only[XZ]
    by_cases hneg:x<0
    ·have K:Hid (yg p.data.toList=.error 3):=by show _=_;rw[j];simp[hneg]
     clear j hnm c0;have M:Hid (qH L=.error 3):=zbp (k:=k+1) (by rw[a4.out,K.out]);have kz:=J.out;have z0:_=some (Value.int .i64 0):=kz.cell 0;have z1:_=some (Value.int .i64 0):=kz.cell 1;have z2:_=some (Value.int .i64 0):=kz.cell 2;have f0:=kz.frozen 0;have f1:=kz.frozen 1;have f2:=kz.frozen 2;have q:Blk (((w3.setCell w.heap.size (.int .i64 0)).setCell ⟨w.heap.size,1,none⟩ (.int .i64 0)).setCell ⟨w.heap.size,2,none⟩ (.int .i64 0)) w.heap.size 81 #[(0:Int),(0:Int),(0:Int)]:=((kz.set (i:=0) (v:=.int .i64 0)).set (i:=1) (v:=.int .i64 0)).set (i:=2) (v:=.int .i64 0);have C:Hid (zB w (((w3.setCell w.heap.size (.int .i64 0)).setCell ⟨w.heap.size,1,none⟩ (.int .i64 0)).setCell ⟨w.heap.size,2,none⟩ (.int .i64 0))):=((R.out.setCell (p:=w.heap.size) zN _).setCell (p:=⟨w.heap.size,1,none⟩) zN _).setCell (p:=⟨w.heap.size,2,none⟩) zN _;have HQ:=zH q;clear kz q;go_wp2;have r0:=HQ.out.cell 0;have r1:=HQ.out.cell 1;have r2:=HQ.out.cell 2;rw[M.out];refine bodyPost_ret (v:=.tuple #[.agg #[(0:Int),(0:Int),(0:Int)],(3:Int)]) (by simp[results,Tryz.results69,go_sem,r0,r1,r2]) rfl ?_;exact⟨rfl,C.out⟩
    ·by_cases hbig:999<x
     ·have K:Hid (yg p.data.toList=.error 2):=by show _=_;rw[j];simp[hneg,hbig]
      clear j hnm c0;have M:Hid (qH L=.error 2):=zbp (k:=k+1) (by rw[a4.out,K.out]);have kz:=J.out;have z0:_=some (Value.int .i64 0):=kz.cell 0;have z1:_=some (Value.int .i64 0):=kz.cell 1;have z2:_=some (Value.int .i64 0):=kz.cell 2;have f0:=kz.frozen 0;have f1:=kz.frozen 1;have f2:=kz.frozen 2;have q:Blk (((w3.setCell w.heap.size (.int .i64 0)).setCell ⟨w.heap.size,1,none⟩ (.int .i64 0)).setCell ⟨w.heap.size,2,none⟩ (.int .i64 0)) w.heap.size 81 #[(0:Int),(0:Int),(0:Int)]:=((kz.set (i:=0) (v:=.int .i64 0)).set (i:=1) (v:=.int .i64 0)).set (i:=2) (v:=.int .i64 0);have C:Hid (zB w (((w3.setCell w.heap.size (.int .i64 0)).setCell ⟨w.heap.size,1,none⟩ (.int .i64 0)).setCell ⟨w.heap.size,2,none⟩ (.int .i64 0))):=((R.out.setCell (p:=w.heap.size) zN _).setCell (p:=⟨w.heap.size,1,none⟩) zN _).setCell (p:=⟨w.heap.size,2,none⟩) zN _;have HQ:=zH q;clear kz q;go_wp2;have r0:=HQ.out.cell 0;have r1:=HQ.out.cell 1;have r2:=HQ.out.cell 2;rw[M.out];refine bodyPost_ret (v:=.tuple #[.agg #[(0:Int),(0:Int),(0:Int)],(2:Int)]) (by simp[results,Tryz.results69,go_sem,r0,r1,r2]) rfl ?_;exact⟨rfl,C.out⟩
     ·obtain⟨n,rfl⟩:=Int.eq_ofNat_of_zero_le (Int.not_lt.1 hneg);have K:Hid (yg p.data.toList=.ok n):=by show _=_;rw[j];simp[hbig]
      clear j hnm c0;have ak:k<(xu ns).size:=hlt;have v0:w3.cell? ⟨w1.heap.size,k,none⟩=(xu ns)[k]?:=a8.out.cell k;obtain⟨u,hu⟩:∃u,(xu ns)[k]?=some u:=⟨_,Array.getElem?_eq_getElem ak⟩;rw[hu] at v0;have fv:=a8.out.frozen k;clear hu ak;obtain⟨WF,ah⟩:∃WF,w3.setCell ⟨w1.heap.size,k,none⟩ (.int .i64 n)=WF:=⟨_,rfl⟩;have ap:=zH ah;clear ah;go_wp2;go_roundw
      case rel =>refine⟨k+1,ns++[n],by omega,by go_num,by simp[a3.out],by rw[a4.out,K.out],?_,ao.out.setCell (p:=⟨w1.heap.size,k,none⟩) zN _⟩;have h1:=a8.out.set (i:=k) (v:=.int .i64 n);have h2:=znH ns n (by rw[a3.out];exact hlt);rw[a3.out] at h2;rw[h2] at h1;exact h1
      case measure=>simp[intOf];omega
  ·obtain rfl:k=3:=by omega
   obtain⟨x,y,z,rfl⟩:=Ys a3.out;have M:Hid (qH L=.ok [x,y,z]):=by have h1:=af.out;rw[List.take_of_length_le (by rw[ad.out];omega)] at h1;exact h1
   have R:Hid (zB w wr):=zT aa.out o.out;have kz:=U.out.below o.out U.out.lt;have a0:_=some (Value.int .i64 x):=V.out.cell 0;have a1:_=some (Value.int .i64 y):=V.out.cell 1;have a2:_=some (Value.int .i64 z):=V.out.cell 2;have z0:_=some (Value.int .i64 0):=kz.cell 0;have z1:_=some (Value.int .i64 0):=kz.cell 1;have z2:_=some (Value.int .i64 0):=kz.cell 2;have f0:=kz.frozen 0;have f1:=kz.frozen 1;have f2:=kz.frozen 2;have q:Blk (((wr.setCell w.heap.size (.int .i64 x)).setCell ⟨w.heap.size,1,none⟩ (.int .i64 y)).setCell ⟨w.heap.size,2,none⟩ (.int .i64 z)) w.heap.size 81 #[x,y,z]:=((kz.set (i:=0) (v:=.int .i64 x)).set (i:=1) (v:=.int .i64 y)).set (i:=2) (v:=.int .i64 z);have C:Hid (zB w (((wr.setCell w.heap.size (.int .i64 x)).setCell ⟨w.heap.size,1,none⟩ (.int .i64 y)).setCell ⟨w.heap.size,2,none⟩ (.int .i64 z))):=((R.out.setCell (p:=w.heap.size) zN _).setCell (p:=⟨w.heap.size,1,none⟩) zN _).setCell (p:=⟨w.heap.size,2,none⟩) zN _;have HQ:=zH q;clear kz q;go_wp2;have r0:=HQ.out.cell 0;have r1:=HQ.out.cell 1;have r2:=HQ.out.cell 2;rw[M.out];refine bodyPost_ret (v:=.tuple #[.agg #[x,y,z],(0:Int)]) (by simp[results,Tryz.results69,go_sem,r0,r1,r2]) rfl ?_;exact⟨rfl,C.out⟩
theorem zjP(s m:ByteArray):∀(f k:Nat),∀x∈zq s m f k,x.2.size<=s.size:=by
 intro f
 induction f with
 |zero=>intro k x hx;simp only[zq,List.mem_singleton] at hx;subst hx;simp
 |succ f ih =>
  intro k x hx;rw[zq] at hx;split at hx
  ·simp only[List.mem_singleton] at hx;subst hx;simp
  ·rcases List.mem_cons.1 hx with rfl|hx
   ·simp;omega
   ·exact ih _ x hx
theorem yR(HS:JD)(s:ByteArray)(w:World)(hs:s.size<=100000)(hw:Lb w) :
  zR 69 #[s] w (QB (zS s)):=by
 have hc:=zbW s 46 s.size 0 (by omega) (Nat.zero_le _);rw[List.drop_zero] at hc
 by_cases h:(zq s ⟨#[46]⟩ s.size 0).length=3
 ·unfold zS;rw[zA2 (by omega)];exact zjW HS s w hs hw h (fun x hx=>Nat.le_trans (zjP s _ _ _ x hx) hs)
 ·unfold zS;rw[zA1 (by omega)];exact zpH HS s w hs hw h
end
section
open Go.RowKit Go.Shelf Sv
theorem yQ:JD:=fun s W hs hw=>by
 obtain⟨m,hm⟩:=hw.ml;have h:=zeO s ⟨#[46]⟩ (by decide) s.size 0 (by omega) (Nat.zero_le _);have hx:s.extract 0 s.size=s:=XE (by rw[Lib.extract_to_end];simp);rw[hx] at h;have j:Lib.countB s ⟨#[46]⟩+1=(zq s ⟨#[46]⟩ s.size 0).length:=by
  have h2:=congrArg List.length h;rw[List.length_map,Lib.splitB_all _ (by decide) 0 _ s rfl] at h2;exact h2
 refine(Tryz.strings_Split s ⟨#[46]⟩ m W (by omega) hm (by decide)).mono fun e w' ⟨he,hw'⟩=>?_;rw[j] at he;rw[h] at hw';exact⟨he,hw'⟩
end
end Go.Proofs.YthifnefkdjkicaaGreatDoor