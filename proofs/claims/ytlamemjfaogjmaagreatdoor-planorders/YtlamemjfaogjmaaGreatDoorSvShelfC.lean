/- strings.Split, Join and ReplaceAll, as the laws ask for them. -/
import Derived.Test.YtlamemjfaogjmaaGreatDoorSvRNum
import Derived.Lib.ItoaLen
set_option maxHeartbeats 1000000
set_option maxRecDepth 100000
namespace Go.Proofs.YtlamemjfaogjmaaGreatDoor
section
open Go.RowKit Go.Shelf Sv
def QP:Prop:=∀(s:ByteArray) (W:World),s.size<=100000->Lb W->zC 30 #[.string s,.string ⟨#[46]⟩] W fun e w' =>
 e=.returned (.slice (some ⟨W.heap.size,0,none⟩) (zg s ⟨#[46]⟩ s.size 0).length (zg s ⟨#[46]⟩ s.size 0).length)/\w'=W.alloc (.cells (((zg s ⟨#[46]⟩ s.size 0).map (·.2)).map Value.string).toArray 9)
def rversV:Except Int (List Nat)->Value
 |.ok ns=>.tuple #[.agg (yf ns),.int .i64 0]
 |.error k=>.tuple #[.agg #[.int .i64 0,.int .i64 0,.int .i64 0],.int .i64 k]
theorem zff(HS:QP)(s:ByteArray)(w:World)(hs:s.size<=100000)(hw:Lb w)(h:(zg s ⟨#[46]⟩ s.size 0).length≠3) :
  zR 52 #[.string s] w (rversV (.error 3)):=by
 have H:Hid (∀W,zB w W->zC 30 #[.string s,.string ⟨#[46]⟩] W fun e w'=>∃a n,n≠3/\e=.returned (.slice a n n)/\zB W w'):=fun W hb=>(HS s W hs (hw.below hb)).mono fun e w' ⟨he,hw'⟩=>⟨_,_,h,he,hw'▸zF.alloc zN _⟩;have kr:=Blk.new w 56 #[.int .i64 0,.int .i64 0,.int .i64 0];have hB0:zB w (w.alloc (.cells #[.int .i64 0,.int .i64 0,.int .i64 0] 56)):=(Below.refl _ w).alloc zN _;have HKR:=zH kr;have HB0:=zH hB0;clear h hw HS kr hB0;go_enter Tryz.func52,Tryz.ntmps52;go_wp2_with fail;generalize w.alloc (.cells #[.int .i64 0,.int .i64 0,.int .i64 0] 56)=W0 at *;refine(H.out _ HB0.out).mono ?_;rintro e w1 ⟨a,n,hn,rfl,hb1⟩;have k1:=HKR.out.below hb1 HKR.out.lt;have HB1:Hid (zB w w1):=zT HB0.out hb1;have HK1:=zH k1;have c0:_=some (Value.int .i64 0):=k1.cell 0;have c1:_=some (Value.int .i64 0):=k1.cell 1;have c2:_=some (Value.int .i64 0):=k1.cell 2;have f0:=k1.frozen 0;have f1:=k1.frozen 1;have f2:=k1.frozen 2;have hn1:((n:Int) != 3)=true:=by rw[bne_iff_ne];omega
 have q:Blk (((w1.setCell ⟨w.heap.size,0,none⟩ (.int .i64 0)).setCell ⟨w.heap.size,1,none⟩ (.int .i64 0)).setCell ⟨w.heap.size,2,none⟩ (.int .i64 0)) w.heap.size 56 #[.int .i64 0,.int .i64 0,.int .i64 0]:=((k1.set (i:=0) (v:=.int .i64 0)).set (i:=1) (v:=.int .i64 0)).set (i:=2) (v:=.int .i64 0);have HBZ:Hid (zB w (((w1.setCell ⟨w.heap.size,0,none⟩ (.int .i64 0)).setCell ⟨w.heap.size,1,none⟩ (.int .i64 0)).setCell ⟨w.heap.size,2,none⟩ (.int .i64 0))):=((HB1.out.setCell (p:=⟨w.heap.size,0,none⟩) zN _).setCell (p:=⟨w.heap.size,1,none⟩) zN _).setCell (p:=⟨w.heap.size,2,none⟩) zN _;have HQ:=zH q;clear k1 hb1 H hn q;go_wp2;have r0:=HQ.out.cell 0;have r1:=HQ.out.cell 1;have r2:=HQ.out.cell 2;refine bodyPost_ret (v:=.tuple #[.agg #[.int .i64 0,.int .i64 0,.int .i64 0],.int .i64 3]) (by simp[results,Tryz.results52,go_sem,r0,r1,r2]) rfl ?_;exact⟨rfl,HBZ.out⟩
theorem zgV(ns:List Nat)(n:Nat)(h:ns.length<3):(yf ns).setIfInBounds ns.length (.int .i64 n)=yf (ns++[n]):=by
 match ns,h with
 |[],_=>rfl
 |[_],_=>rfl
 |[_,_],_=>rfl
theorem zdd{L:List (Nat × ByteArray)}{k:Nat}{ns:List Nat}(hk:k<L.length)(h:zU (L.take k)=.ok ns):zU (L.take (k+1))=match qw (L[k].2).data.toList with
  |.error e=>.error e
  |.ok n=>.ok (ns++[n]):=by
 rw[List.take_succ_eq_append_getElem hk,zaj h];cases qw L[k].2.data.toList<;>rfl
theorem YG{L:List (Nat × ByteArray)}{k:Nat}{e:Int}(h:zU (L.take k)=.error e):zU L=.error e:=by
 have:=KA (r:=L.drop k) h
 rwa [List.take_append_drop] at this
theorem za3(HS:QP)(s:ByteArray)(w:World)(hs:s.size<=100000)(hw:Lb w)(h:(zg s ⟨#[46]⟩ s.size 0).length=3)(hsz:∀x∈zg s ⟨#[46]⟩ s.size 0,x.2.size<=100000) :
  zR 52 #[.string s] w (rversV (zU (zg s ⟨#[46]⟩ s.size 0))):=by
 have H:Hid (∀W,zB w W->zC 30 #[.string s,.string ⟨#[46]⟩] W fun e w'=>e=.returned (.slice (some ⟨W.heap.size,0,none⟩) 3 3)/\Blk w' W.heap.size 9 (((zg s ⟨#[46]⟩ s.size 0).map (·.2)).map Value.string).toArray/\zB W w'):=fun W hb=>(HS s W hs (hw.below hb)).mono fun e w' ⟨he,hw'⟩=>by
  rw[h] at he;exact⟨he,hw'▸Blk.new _ _ _,hw'▸zF.alloc zN _⟩
 generalize zg s ⟨#[46]⟩ s.size 0=L at *;have HN:Hid (∀k (hk:k<L.length) W,zB w W->zR 80 #[.string L[k].2] W (ZK (xE (L[k].2).data.toList))):=fun k hk W hb=>zca _ W (hsz _ (List.getElem_mem hk)) (hw.below hb);have kr:=Blk.new w 56 #[.int .i64 0,.int .i64 0,.int .i64 0];have hB0:zB w (w.alloc (.cells #[.int .i64 0,.int .i64 0,.int .i64 0] 56)):=(Below.refl _ w).alloc zN _;have HKR:=zH kr;have HB0:=zH hB0;have HLN:=zH h;clear h hw HS kr hB0 hsz;go_enter Tryz.func52,Tryz.ntmps52;go_wp2_with fail;generalize w.alloc (.cells #[.int .i64 0,.int .i64 0,.int .i64 0] 56)=W0 at *;refine(H.out _ HB0.out).mono ?_;rintro e w1 ⟨rfl,kp,hb1⟩;have HK1:=zH (HKR.out.below hb1 HKR.out.lt);have HB1:Hid (zB w w1):=zT HB0.out hb1;have HKP:=zH kp;clear hb1 H kp;go_wp2_with fail;have kv:=Blk.new w1 56 #[.int .i64 0,.int .i64 0,.int .i64 0];have hb2:zB w1 (w1.alloc (.cells #[.int .i64 0,.int .i64 0,.int .i64 0] 56)):=(Below.refl _ w1).alloc zN _;have HKV:=zH kv;have HB2:=zH hb2;clear kv hb2;generalize w1.alloc (.cells #[.int .i64 0,.int .i64 0,.int .i64 0] 56)=W2 at *;go_loopw [18] (fun iV wr=>∃(k:Nat) (ns:List Nat),k<=3/\iV=.int .i64 k/\ns.length=k/\zU (L.take k)=.ok ns/\Blk wr w1.heap.size 56 (yf ns)/\zB w1 wr) (fun iV _=>3-(intOf iV).toNat)
 case atStart=>exact⟨0,[],by omega,rfl,rfl,rfl,HKV.out,HB2.out⟩
 case round =>
  obtain⟨k,ns,hk,rfl,hlen,hpar,hv,hbr⟩:=hrel;have HLE:=zH hlen;have HPA:=zH hpar;have HVV:=zH hv;have HBR:=zH hbr;clear hlen hpar hv hbr
  by_cases hlt:k<3
  ·have hkL:k<L.length:=by rw[HLN.out];exact hlt
   have c0:wr.cell? ⟨W0.heap.size,k,none⟩=some (.string L[k].2):=by
    rw[(HKP.out.below HBR.out HKP.out.lt).cell k];simp[hkL]
   have HST:=zH (zdd hkL HPA.out);have HNk:=zH (HN.out k hkL);generalize L[k].2=p at *;clear hkL;have HB8:Hid (zB w wr):=zT HB1.out HBR.out;go_wp2_with fail;refine(HNk.out _ HB8.out).mono ?_;rintro e w3 ⟨rfl,hb3⟩;have HB9:Hid (zB w w3):=zT HB8.out hb3;have HKR9:=zH ((HK1.out.below HBR.out HK1.out.lt).below hb3 (Nat.lt_of_lt_of_le HK1.out.lt HBR.out.size));have HV9:=zH (HVV.out.below hb3 HVV.out.lt);have HR9:Hid (zB w1 w3):=zT HBR.out hb3;clear hb3 HNk HKR HB0;have hpn:=zdq p.data.toList;cases hnm:xE p.data.toList with
   |none =>rw[hnm] at hpn;simp only[ZK];have HPN:Hid (qw p.data.toList=.error 3):=hpn;clear hpn hnm c0;have HPR:Hid (zU L=.error 3):=YG (k:=k+1) (by rw[HST.out,HPN.out]);have kz:=HKR9.out;have z0:_=some (Value.int .i64 0):=kz.cell 0;have z1:_=some (Value.int .i64 0):=kz.cell 1;have z2:_=some (Value.int .i64 0):=kz.cell 2;have f0:=kz.frozen 0;have f1:=kz.frozen 1;have f2:=kz.frozen 2;have q:Blk (((w3.setCell ⟨w.heap.size,0,none⟩ (.int .i64 0)).setCell ⟨w.heap.size,1,none⟩ (.int .i64 0)).setCell ⟨w.heap.size,2,none⟩ (.int .i64 0)) w.heap.size 56 #[.int .i64 0,.int .i64 0,.int .i64 0]:=((kz.set (i:=0) (v:=.int .i64 0)).set (i:=1) (v:=.int .i64 0)).set (i:=2) (v:=.int .i64 0);have HBZ:Hid (zB w (((w3.setCell ⟨w.heap.size,0,none⟩ (.int .i64 0)).setCell ⟨w.heap.size,1,none⟩ (.int .i64 0)).setCell ⟨w.heap.size,2,none⟩ (.int .i64 0))):=((HB9.out.setCell (p:=⟨w.heap.size,0,none⟩) zN _).setCell (p:=⟨w.heap.size,1,none⟩) zN _).setCell (p:=⟨w.heap.size,2,none⟩) zN _;have HQ:=zH q;clear kz q;go_wp2;have r0:=HQ.out.cell 0;have r1:=HQ.out.cell 1;have r2:=HQ.out.cell 2;rw[HPR.out];refine bodyPost_ret (v:=.tuple #[.agg #[.int .i64 0,.int .i64 0,.int .i64 0],.int .i64 3]) (by simp[results,Tryz.results52,go_sem,r0,r1,r2]) rfl ?_;exact⟨rfl,HBZ.out⟩
   |some x =>
    rw[hnm] at hpn;simp only[ZK]
    by_cases hneg:x<0
    ·have HPN:Hid (qw p.data.toList=.error 3):=by show _=_;rw[hpn];simp[hneg]
     clear hpn hnm c0;have HPR:Hid (zU L=.error 3):=YG (k:=k+1) (by rw[HST.out,HPN.out]);have kz:=HKR9.out;have z0:_=some (Value.int .i64 0):=kz.cell 0;have z1:_=some (Value.int .i64 0):=kz.cell 1;have z2:_=some (Value.int .i64 0):=kz.cell 2;have f0:=kz.frozen 0;have f1:=kz.frozen 1;have f2:=kz.frozen 2;have q:Blk (((w3.setCell ⟨w.heap.size,0,none⟩ (.int .i64 0)).setCell ⟨w.heap.size,1,none⟩ (.int .i64 0)).setCell ⟨w.heap.size,2,none⟩ (.int .i64 0)) w.heap.size 56 #[.int .i64 0,.int .i64 0,.int .i64 0]:=((kz.set (i:=0) (v:=.int .i64 0)).set (i:=1) (v:=.int .i64 0)).set (i:=2) (v:=.int .i64 0);have HBZ:Hid (zB w (((w3.setCell ⟨w.heap.size,0,none⟩ (.int .i64 0)).setCell ⟨w.heap.size,1,none⟩ (.int .i64 0)).setCell ⟨w.heap.size,2,none⟩ (.int .i64 0))):=((HB9.out.setCell (p:=⟨w.heap.size,0,none⟩) zN _).setCell (p:=⟨w.heap.size,1,none⟩) zN _).setCell (p:=⟨w.heap.size,2,none⟩) zN _;have HQ:=zH q;clear kz q;go_wp2;have r0:=HQ.out.cell 0;have r1:=HQ.out.cell 1;have r2:=HQ.out.cell 2;rw[HPR.out];refine bodyPost_ret (v:=.tuple #[.agg #[.int .i64 0,.int .i64 0,.int .i64 0],.int .i64 3]) (by simp[results,Tryz.results52,go_sem,r0,r1,r2]) rfl ?_;exact⟨rfl,HBZ.out⟩
    ·by_cases hbig:999<x
     ·have HPN:Hid (qw p.data.toList=.error 2):=by show _=_;rw[hpn];simp[hneg,hbig]
      clear hpn hnm c0;have HPR:Hid (zU L=.error 2):=YG (k:=k+1) (by rw[HST.out,HPN.out]);have kz:=HKR9.out;have z0:_=some (Value.int .i64 0):=kz.cell 0;have z1:_=some (Value.int .i64 0):=kz.cell 1;have z2:_=some (Value.int .i64 0):=kz.cell 2;have f0:=kz.frozen 0;have f1:=kz.frozen 1;have f2:=kz.frozen 2;have q:Blk (((w3.setCell ⟨w.heap.size,0,none⟩ (.int .i64 0)).setCell ⟨w.heap.size,1,none⟩ (.int .i64 0)).setCell ⟨w.heap.size,2,none⟩ (.int .i64 0)) w.heap.size 56 #[.int .i64 0,.int .i64 0,.int .i64 0]:=((kz.set (i:=0) (v:=.int .i64 0)).set (i:=1) (v:=.int .i64 0)).set (i:=2) (v:=.int .i64 0);have HBZ:Hid (zB w (((w3.setCell ⟨w.heap.size,0,none⟩ (.int .i64 0)).setCell ⟨w.heap.size,1,none⟩ (.int .i64 0)).setCell ⟨w.heap.size,2,none⟩ (.int .i64 0))):=((HB9.out.setCell (p:=⟨w.heap.size,0,none⟩) zN _).setCell (p:=⟨w.heap.size,1,none⟩) zN _).setCell (p:=⟨w.heap.size,2,none⟩) zN _;have HQ:=zH q;clear kz q;go_wp2;have r0:=HQ.out.cell 0;have r1:=HQ.out.cell 1;have r2:=HQ.out.cell 2;rw[HPR.out];refine bodyPost_ret (v:=.tuple #[.agg #[.int .i64 0,.int .i64 0,.int .i64 0],.int .i64 2]) (by simp[results,Tryz.results52,go_sem,r0,r1,r2]) rfl ?_;exact⟨rfl,HBZ.out⟩
     ·obtain⟨n,rfl⟩:=Int.eq_ofNat_of_zero_le (Int.not_lt.1 hneg);have HPN:Hid (qw p.data.toList=.ok n):=by show _=_;rw[hpn];simp[hbig]
      clear hpn hnm c0;have hks:k<(yf ns).size:=hlt;have v0:w3.cell? ⟨w1.heap.size,k,none⟩=(yf ns)[k]?:=HV9.out.cell k;obtain⟨u,hu⟩:∃u,(yf ns)[k]?=some u:=⟨_,Array.getElem?_eq_getElem hks⟩;rw[hu] at v0;have fv:=HV9.out.frozen k;clear hu hks;obtain⟨WF,hWF⟩:∃WF,w3.setCell ⟨w1.heap.size,k,none⟩ (.int .i64 n)=WF:=⟨_,rfl⟩;have HWF:=zH hWF;clear hWF;go_wp2;go_roundw
      case rel =>refine⟨k+1,ns++[n],by omega,by go_num,by simp[HLE.out],by rw[HST.out,HPN.out],?_,HR9.out.setCell (p:=⟨w1.heap.size,k,none⟩) zN _⟩;have h1:=HV9.out.set (i:=k) (v:=.int .i64 n);have h2:=zgV ns n (by rw[HLE.out];exact hlt);rw[HLE.out] at h2;rw[h2] at h1;exact h1
      case measure=>simp[intOf];omega
  ·obtain rfl:k=3:=by omega
   obtain⟨x,y,z,rfl⟩:=len3 HLE.out;have HPR:Hid (zU L=.ok [x,y,z]):=by have h1:=HPA.out;rw[List.take_of_length_le (by rw[HLN.out];omega)] at h1;exact h1
   have HB9:Hid (zB w wr):=zT HB1.out HBR.out;have kz:=HK1.out.below HBR.out HK1.out.lt;have a0:_=some (Value.int .i64 x):=HVV.out.cell 0;have a1:_=some (Value.int .i64 y):=HVV.out.cell 1;have a2:_=some (Value.int .i64 z):=HVV.out.cell 2;have z0:_=some (Value.int .i64 0):=kz.cell 0;have z1:_=some (Value.int .i64 0):=kz.cell 1;have z2:_=some (Value.int .i64 0):=kz.cell 2;have f0:=kz.frozen 0;have f1:=kz.frozen 1;have f2:=kz.frozen 2;have q:Blk (((wr.setCell ⟨w.heap.size,0,none⟩ (.int .i64 x)).setCell ⟨w.heap.size,1,none⟩ (.int .i64 y)).setCell ⟨w.heap.size,2,none⟩ (.int .i64 z)) w.heap.size 56 #[.int .i64 x,.int .i64 y,.int .i64 z]:=((kz.set (i:=0) (v:=.int .i64 x)).set (i:=1) (v:=.int .i64 y)).set (i:=2) (v:=.int .i64 z);have HBZ:Hid (zB w (((wr.setCell ⟨w.heap.size,0,none⟩ (.int .i64 x)).setCell ⟨w.heap.size,1,none⟩ (.int .i64 y)).setCell ⟨w.heap.size,2,none⟩ (.int .i64 z))):=((HB9.out.setCell (p:=⟨w.heap.size,0,none⟩) zN _).setCell (p:=⟨w.heap.size,1,none⟩) zN _).setCell (p:=⟨w.heap.size,2,none⟩) zN _;have HQ:=zH q;clear kz q;go_wp2;have r0:=HQ.out.cell 0;have r1:=HQ.out.cell 1;have r2:=HQ.out.cell 2;rw[HPR.out];refine bodyPost_ret (v:=.tuple #[.agg #[.int .i64 x,.int .i64 y,.int .i64 z],.int .i64 0]) (by simp[results,Tryz.results52,go_sem,r0,r1,r2]) rfl ?_;exact⟨rfl,HBZ.out⟩
theorem zcL(s m:ByteArray):∀(f k:Nat),∀x∈zg s m f k,x.2.size<=s.size:=by
 intro f
 induction f with
 |zero=>intro k x hx;simp only[zg,List.mem_singleton] at hx;subst hx;simp
 |succ f ih =>
  intro k x hx;rw[zg] at hx;split at hx
  ·simp only[List.mem_singleton] at hx;subst hx;simp
  ·rcases List.mem_cons.1 hx with rfl|hx
   ·simp;omega
   ·exact ih _ x hx
theorem rvparse_any(HS:QP)(s:ByteArray)(w:World)(hs:s.size<=100000)(hw:Lb w) :
  zR 52 #[.string s] w (rversV (versF s)):=by
 have hc:=YI s 46 s.size 0 (by omega) (Nat.zero_le _);rw[List.drop_zero] at hc
 by_cases h:(zg s ⟨#[46]⟩ s.size 0).length=3
 ·unfold versF;rw[if_pos (by omega)];exact za3 HS s w hs hw h (fun x hx=>Nat.le_trans (zcL s _ _ _ x hx) hs)
 ·unfold versF;rw[if_neg (by omega)];exact zff HS s w hs hw h
end
section
open Go.RowKit Go.Shelf Sv
theorem splitC:QP:=fun s W hs hw=>by
 obtain⟨m,hm⟩:=hw.ml;have h:=zah s ⟨#[46]⟩ (by decide) s.size 0 (by omega) (Nat.zero_le _);have hx:s.extract 0 s.size=s:=ZW (by rw[Lib.extract_to_end];simp);rw[hx] at h;have hlen:Lib.countB s ⟨#[46]⟩+1=(zg s ⟨#[46]⟩ s.size 0).length:=by
  have h2:=congrArg List.length h;rw[List.length_map,Lib.splitB_all _ (by decide) 0 _ s rfl] at h2;exact h2
 refine(Tryz.strings_Split s ⟨#[46]⟩ m W (by omega) hm (by decide)).mono fun e w' ⟨he,hw'⟩=>?_;rw[hlen] at he;rw[h] at hw';exact⟨he,hw'⟩
end
end Go.Proofs.YtlamemjfaogjmaaGreatDoor