/- strings.Split, Join and ReplaceAll, as the laws ask for them. -/
import Derived.Test.YtiihalknffbjpaaGreatDoorSvNs
import Derived.Lib.ItoaLen
set_option maxHeartbeats 2000000
set_option maxRecDepth 100000
namespace Go.Proofs.YtiihalknffbjpaaGreatDoor
section
open Go.RowKit Go.Shelf Go.Sort Sv
def ZT(l:List UInt8):Option Int :=
 match Lib.parseIntB 64 l with
 |.ok v=>if Lib.itoa v=l then some v else none
 |_=>none
def Yw:Option Int->Value
 |some v=>.tuple #[.int .i64 v,.bool true]
 |none=>.tuple #[.int .i64 0,.bool false]
theorem zb9(s:ByteArray)(w:World)(hs:s.size<=100000)(hw:Lb w)(h:∀v,Lib.parseIntB 64 s.data.toList≠.ok v) :
  zR 205 #[.string s] w (.tuple #[.int .i64 0,.bool false]):=by
 have H:Hid (zC 270 #[.string s,.int .i64 10,.int .i64 64] w fun e w'=>∃N x,e=.returned (.tuple #[.int .i64 x,.iface 458 (.pointer (some ⟨N,0,none⟩))])/\zB w w'):=by
  cases hp:Lib.parseIntB 64 s.data.toList with
  |ok v=>exact absurd hp (h v)
  |«syntax» =>obtain⟨ev,h3,h3'⟩:=hw.es;exact(Tryz.strconv_ParseInt_10_at64_syntax s (by omega) hp ev w h3 h3').mono fun e w' ⟨N,he,_,_,hb⟩=>⟨N,_,he,hb⟩
  |range =>obtain⟨ev,h3,h3'⟩:=hw.er;exact(Tryz.strconv_ParseInt_10_at64_range s (by omega) hp ev w h3 h3').mono fun e w' ⟨N,he,_,_,hb⟩=>⟨N,_,he,hb⟩
 clear h hw;go_enter Tryz.func205,Tryz.ntmps205;go_wp2_with fail;refine H.out.mono ?_;rintro e w1 ⟨N,x,rfl,hb⟩;have HB:=zH hb;clear hb H;go_wp2;go_ret2;exact⟨rfl,HB.out⟩
theorem zdc(s:ByteArray)(w:World)(hs:s.size<=100000)(hw:Lb w)(v:Int)(h:Lib.parseIntB 64 s.data.toList=.ok v) :
  zR 205 #[.string s] w (Yw (if Lib.itoa v=s.data.toList then some v else none)):=by
 obtain⟨r0,r1⟩:=zaI h;have H:Hid (zR 270 #[.string s,.int .i64 10,.int .i64 64] w (.tuple #[.int .i64 v,.nilIface])):=(Tryz.strconv_ParseInt_10_at64_ok s (by omega) v h w).mono fun e w' ⟨he,hw'⟩=>by
  refine⟨he,?_⟩;rcases hw' with rfl|⟨t,rfl⟩
  ·exact Below.refl _ _
  ·exact zcA w t
 have HF:Hid (∀W,zB w W->zR 271 #[.int .i64 v,.int .i64 10] W (.string ⟨(Lib.itoa v).toArray⟩)):=fun W hb=>(Tryz.strconv_FormatInt_10 v r0 r1 W (hw.below hb).tab).mono fun e w' ⟨he,k,os,hw'⟩=>⟨he,hw'▸zb8 _ W k os zN⟩;clear h hw;generalize Lib.itoa v=l at *
 by_cases hl:l=s.data.toList
 ·have heq:(l==s.toList)=true:=by rw[ByteArray.toList_eq,hl];simp
  rw[if_pos hl];clear hl;go_enter Tryz.func205,Tryz.ntmps205;go_wp2_with fail;refine H.out.mono ?_;rintro e w1 ⟨rfl,hb⟩;have H2:=zH (HF.out _ hb);have HB:=zH hb;clear hb H HF;go_wp2_with fail;refine H2.out.mono ?_;rintro e w2 ⟨rfl,hb2⟩;have HB2:Hid (zB w w2):=zT HB.out hb2;clear hb2 H2 HB;go_wp2;go_ret2;exact⟨rfl,HB2.out⟩
 ·have heq:(l==s.toList)=false:=by rw[ByteArray.toList_eq];simpa using hl
  rw[if_neg hl];clear hl;go_enter Tryz.func205,Tryz.ntmps205;go_wp2_with fail;refine H.out.mono ?_;rintro e w1 ⟨rfl,hb⟩;have H2:=zH (HF.out _ hb);have HB:=zH hb;clear hb H HF;go_wp2_with fail;refine H2.out.mono ?_;rintro e w2 ⟨rfl,hb2⟩;have HB2:Hid (zB w w2):=zT HB.out hb2;clear hb2 H2 HB;go_wp2;go_ret2;exact⟨rfl,HB2.out⟩
theorem zeZ(s:ByteArray)(w:World)(hs:s.size<=100000)(hw:Lb w) :
  zR 205 #[.string s] w (Yw (ZT s.data.toList)):=by
 cases h:Lib.parseIntB 64 s.data.toList with
 |ok v=>unfold ZT;rw[h];exact zdc s w hs hw v h
 |«syntax»=>unfold ZT;rw[h];exact zb9 s w hs hw (fun v e=>by rw[h] at e;cases e)
 |range=>unfold ZT;rw[h];exact zb9 s w hs hw (fun v e=>by rw[h] at e;cases e)
theorem zhe(l:List UInt8):q8 l=match ZT l with
  |none=>.error 3
  |some v=>if v<0 then .error 3 else if 999<v then .error 2 else .ok v.toNat:=by
 unfold q8 ZT;cases hv:Lib.parseIntB 64 l with
 |ok v =>
  by_cases h:Lib.itoa v=l
  ·simp only[h,if_true]
   by_cases hn:v<0<;>simp[hn]
  ·simp[h]
 |«syntax»=>rfl
 |range=>rfl
end
section
open Go.RowKit Go.Shelf Sv
def YY:Prop:=∀(s:ByteArray) (W:World),s.size<=100000->Lb W->zC 113 #[.string s,.string ⟨#[46]⟩] W fun e w' =>
 e=.returned (.slice (some ⟨W.heap.size,0,none⟩) (zk s ⟨#[46]⟩ s.size 0).length (zk s ⟨#[46]⟩ s.size 0).length)/\w'=W.alloc (.cells (((zk s ⟨#[46]⟩ s.size 0).map (·.2)).map Value.string).toArray 9)
def ZZ:Except Int (List Nat)->Value
 |.ok ns=>.tuple #[.agg (xd ns),.int .i64 0]
 |.error k=>.tuple #[.agg #[.int .i64 0,.int .i64 0,.int .i64 0],.int .i64 k]
theorem zdA(HS:YY)(s:ByteArray)(w:World)(hs:s.size<=100000)(hw:Lb w)(h:(zk s ⟨#[46]⟩ s.size 0).length≠3) :
  zR 131 #[.string s] w (ZZ (.error 3)):=by
 have H:Hid (∀W,zB w W->zC 113 #[.string s,.string ⟨#[46]⟩] W fun e w'=>∃a n,n≠3/\e=.returned (.slice a n n)/\zB W w'):=fun W hb=>(HS s W hs (hw.below hb)).mono fun e w' ⟨he,hw'⟩=>⟨_,_,h,he,hw'▸zF.alloc zN _⟩;have kr:=Blk.new w 91 #[.int .i64 0,.int .i64 0,.int .i64 0];have hB0:zB w (w.alloc (.cells #[.int .i64 0,.int .i64 0,.int .i64 0] 91)):=(Below.refl _ w).alloc zN _;have HKR:=zH kr;have HB0:=zH hB0;clear h hw HS kr hB0;go_enter Tryz.func131,Tryz.ntmps131;go_wp2_with fail;generalize w.alloc (.cells #[.int .i64 0,.int .i64 0,.int .i64 0] 91)=W0 at *;refine(H.out _ HB0.out).mono ?_;rintro e w1 ⟨a,n,hn,rfl,hb1⟩;have k1:=HKR.out.below hb1 HKR.out.lt;have HB1:Hid (zB w w1):=zT HB0.out hb1;have HK1:=zH k1;have c0:_=some (Value.int .i64 0):=k1.cell 0;have c1:_=some (Value.int .i64 0):=k1.cell 1;have c2:_=some (Value.int .i64 0):=k1.cell 2;have f0:=k1.frozen 0;have f1:=k1.frozen 1;have f2:=k1.frozen 2;have hn1:((n:Int) != 3)=true:=by rw[bne_iff_ne];omega
 have q:Blk (((w1.setCell ⟨w.heap.size,0,none⟩ (.int .i64 0)).setCell ⟨w.heap.size,1,none⟩ (.int .i64 0)).setCell ⟨w.heap.size,2,none⟩ (.int .i64 0)) w.heap.size 91 #[.int .i64 0,.int .i64 0,.int .i64 0]:=((k1.set (i:=0) (v:=.int .i64 0)).set (i:=1) (v:=.int .i64 0)).set (i:=2) (v:=.int .i64 0);have HBZ:Hid (zB w (((w1.setCell ⟨w.heap.size,0,none⟩ (.int .i64 0)).setCell ⟨w.heap.size,1,none⟩ (.int .i64 0)).setCell ⟨w.heap.size,2,none⟩ (.int .i64 0))):=((HB1.out.setCell (p:=⟨w.heap.size,0,none⟩) zN _).setCell (p:=⟨w.heap.size,1,none⟩) zN _).setCell (p:=⟨w.heap.size,2,none⟩) zN _;have HQ:=zH q;clear k1 hb1 H hn q;go_wp2;have r0:=HQ.out.cell 0;have r1:=HQ.out.cell 1;have r2:=HQ.out.cell 2;refine bodyPost_ret (v:=.tuple #[.agg #[.int .i64 0,.int .i64 0,.int .i64 0],.int .i64 3]) (by simp[results,Tryz.results131,go_sem,r0,r1,r2]) rfl ?_;exact⟨rfl,HBZ.out⟩
theorem zh3(ns:List Nat)(n:Nat)(h:ns.length<3):(xd ns).setIfInBounds ns.length (.int .i64 n)=xd (ns++[n]):=by
 match ns,h with
 |[],_=>rfl
 |[_],_=>rfl
 |[_,_],_=>rfl
theorem zeI{L:List (Nat × ByteArray)}{k:Nat}{ns:List Nat}(hk:k<L.length)(h:qk (L.take k)=.ok ns):qk (L.take (k+1))=match q8 (L[k].2).data.toList with
  |.error e=>.error e
  |.ok n=>.ok (ns++[n]):=by
 rw[List.take_succ_eq_append_getElem hk,JE h];cases q8 L[k].2.data.toList<;>rfl
theorem XN{L:List (Nat × ByteArray)}{k:Nat}{e:Int}(h:qk (L.take k)=.error e):qk L=.error e:=by
 have:=JK (r:=L.drop k) h
 rwa [List.take_append_drop] at this
theorem zeF(HS:YY)(s:ByteArray)(w:World)(hs:s.size<=100000)(hw:Lb w)(h:(zk s ⟨#[46]⟩ s.size 0).length=3)(hsz:∀x∈zk s ⟨#[46]⟩ s.size 0,x.2.size<=100000) :
  zR 131 #[.string s] w (ZZ (qk (zk s ⟨#[46]⟩ s.size 0))):=by
 have H:Hid (∀W,zB w W->zC 113 #[.string s,.string ⟨#[46]⟩] W fun e w'=>e=.returned (.slice (some ⟨W.heap.size,0,none⟩) 3 3)/\Blk w' W.heap.size 9 (((zk s ⟨#[46]⟩ s.size 0).map (·.2)).map Value.string).toArray/\zB W w'):=fun W hb=>(HS s W hs (hw.below hb)).mono fun e w' ⟨he,hw'⟩=>by
  rw[h] at he;exact⟨he,hw'▸Blk.new _ _ _,hw'▸zF.alloc zN _⟩
 generalize zk s ⟨#[46]⟩ s.size 0=L at *;have HN:Hid (∀k (hk:k<L.length) W,zB w W->zR 205 #[.string L[k].2] W (Yw (ZT (L[k].2).data.toList))):=fun k hk W hb=>zeZ _ W (hsz _ (List.getElem_mem hk)) (hw.below hb);have kr:=Blk.new w 91 #[.int .i64 0,.int .i64 0,.int .i64 0];have hB0:zB w (w.alloc (.cells #[.int .i64 0,.int .i64 0,.int .i64 0] 91)):=(Below.refl _ w).alloc zN _;have HKR:=zH kr;have HB0:=zH hB0;have HLN:=zH h;clear h hw HS kr hB0 hsz;go_enter Tryz.func131,Tryz.ntmps131;go_wp2_with fail;generalize w.alloc (.cells #[.int .i64 0,.int .i64 0,.int .i64 0] 91)=W0 at *;refine(H.out _ HB0.out).mono ?_;rintro e w1 ⟨rfl,kp,hb1⟩;have HK1:=zH (HKR.out.below hb1 HKR.out.lt);have HB1:Hid (zB w w1):=zT HB0.out hb1;have HKP:=zH kp;clear hb1 H kp;go_wp2_with fail;have kv:=Blk.new w1 91 #[.int .i64 0,.int .i64 0,.int .i64 0];have hb2:zB w1 (w1.alloc (.cells #[.int .i64 0,.int .i64 0,.int .i64 0] 91)):=(Below.refl _ w1).alloc zN _;have HKV:=zH kv;have HB2:=zH hb2;clear kv hb2;generalize w1.alloc (.cells #[.int .i64 0,.int .i64 0,.int .i64 0] 91)=W2 at *;go_loopw [18] (fun iV wr=>∃(k:Nat) (ns:List Nat),k<=3/\iV=.int .i64 k/\ns.length=k/\qk (L.take k)=.ok ns/\Blk wr w1.heap.size 91 (xd ns)/\zB w1 wr) (fun iV _=>3-(intOf iV).toNat)
 case atStart=>exact⟨0,[],by omega,rfl,rfl,rfl,HKV.out,HB2.out⟩
 case round =>
  obtain⟨k,ns,hk,rfl,hlen,hpar,hv,hbr⟩:=hrel;have HLE:=zH hlen;have HPA:=zH hpar;have HVV:=zH hv;have HBR:=zH hbr;clear hlen hpar hv hbr
  by_cases hlt:k<3
  ·have hkL:k<L.length:=by rw[HLN.out];exact hlt
   have c0:wr.cell? ⟨W0.heap.size,k,none⟩=some (.string L[k].2):=by
    rw[(HKP.out.below HBR.out HKP.out.lt).cell k];simp[hkL]
   have HST:=zH (zeI hkL HPA.out);have HNk:=zH (HN.out k hkL);generalize L[k].2=p at *;clear hkL;have HB8:Hid (zB w wr):=zT HB1.out HBR.out;go_wp2_with fail;refine(HNk.out _ HB8.out).mono ?_;rintro e w3 ⟨rfl,hb3⟩;have HB9:Hid (zB w w3):=zT HB8.out hb3;have HKR9:=zH ((HK1.out.below HBR.out HK1.out.lt).below hb3 (Nat.lt_of_lt_of_le HK1.out.lt HBR.out.size));have HV9:=zH (HVV.out.below hb3 HVV.out.lt);have HR9:Hid (zB w1 w3):=zT HBR.out hb3;clear hb3 HNk HKR HB0;have hpn:=zhe p.data.toList;cases hnm:ZT p.data.toList with
   |none =>rw[hnm] at hpn;simp only[Yw];have HPN:Hid (q8 p.data.toList=.error 3):=hpn;clear hpn hnm c0;have HPR:Hid (qk L=.error 3):=XN (k:=k+1) (by rw[HST.out,HPN.out]);have kz:=HKR9.out;have z0:_=some (Value.int .i64 0):=kz.cell 0;have z1:_=some (Value.int .i64 0):=kz.cell 1;have z2:_=some (Value.int .i64 0):=kz.cell 2;have f0:=kz.frozen 0;have f1:=kz.frozen 1;have f2:=kz.frozen 2;have q:Blk (((w3.setCell ⟨w.heap.size,0,none⟩ (.int .i64 0)).setCell ⟨w.heap.size,1,none⟩ (.int .i64 0)).setCell ⟨w.heap.size,2,none⟩ (.int .i64 0)) w.heap.size 91 #[.int .i64 0,.int .i64 0,.int .i64 0]:=((kz.set (i:=0) (v:=.int .i64 0)).set (i:=1) (v:=.int .i64 0)).set (i:=2) (v:=.int .i64 0);have HBZ:Hid (zB w (((w3.setCell ⟨w.heap.size,0,none⟩ (.int .i64 0)).setCell ⟨w.heap.size,1,none⟩ (.int .i64 0)).setCell ⟨w.heap.size,2,none⟩ (.int .i64 0))):=((HB9.out.setCell (p:=⟨w.heap.size,0,none⟩) zN _).setCell (p:=⟨w.heap.size,1,none⟩) zN _).setCell (p:=⟨w.heap.size,2,none⟩) zN _;have HQ:=zH q;clear kz q;go_wp2;have r0:=HQ.out.cell 0;have r1:=HQ.out.cell 1;have r2:=HQ.out.cell 2;rw[HPR.out];refine bodyPost_ret (v:=.tuple #[.agg #[.int .i64 0,.int .i64 0,.int .i64 0],.int .i64 3]) (by simp[results,Tryz.results131,go_sem,r0,r1,r2]) rfl ?_;exact⟨rfl,HBZ.out⟩
   |some x =>
    rw[hnm] at hpn;simp only[Yw]
    by_cases hneg:x<0
    ·have HPN:Hid (q8 p.data.toList=.error 3):=by show _=_;rw[hpn];simp[hneg]
     clear hpn hnm c0;have HPR:Hid (qk L=.error 3):=XN (k:=k+1) (by rw[HST.out,HPN.out]);have kz:=HKR9.out;have z0:_=some (Value.int .i64 0):=kz.cell 0;have z1:_=some (Value.int .i64 0):=kz.cell 1;have z2:_=some (Value.int .i64 0):=kz.cell 2;have f0:=kz.frozen 0;have f1:=kz.frozen 1;have f2:=kz.frozen 2;have q:Blk (((w3.setCell ⟨w.heap.size,0,none⟩ (.int .i64 0)).setCell ⟨w.heap.size,1,none⟩ (.int .i64 0)).setCell ⟨w.heap.size,2,none⟩ (.int .i64 0)) w.heap.size 91 #[.int .i64 0,.int .i64 0,.int .i64 0]:=((kz.set (i:=0) (v:=.int .i64 0)).set (i:=1) (v:=.int .i64 0)).set (i:=2) (v:=.int .i64 0);have HBZ:Hid (zB w (((w3.setCell ⟨w.heap.size,0,none⟩ (.int .i64 0)).setCell ⟨w.heap.size,1,none⟩ (.int .i64 0)).setCell ⟨w.heap.size,2,none⟩ (.int .i64 0))):=((HB9.out.setCell (p:=⟨w.heap.size,0,none⟩) zN _).setCell (p:=⟨w.heap.size,1,none⟩) zN _).setCell (p:=⟨w.heap.size,2,none⟩) zN _;have HQ:=zH q;clear kz q;go_wp2;have r0:=HQ.out.cell 0;have r1:=HQ.out.cell 1;have r2:=HQ.out.cell 2;rw[HPR.out];refine bodyPost_ret (v:=.tuple #[.agg #[.int .i64 0,.int .i64 0,.int .i64 0],.int .i64 3]) (by simp[results,Tryz.results131,go_sem,r0,r1,r2]) rfl ?_;exact⟨rfl,HBZ.out⟩
    ·by_cases hbig:999<x
     ·have HPN:Hid (q8 p.data.toList=.error 2):=by show _=_;rw[hpn];simp[hneg,hbig]
      clear hpn hnm c0;have HPR:Hid (qk L=.error 2):=XN (k:=k+1) (by rw[HST.out,HPN.out]);have kz:=HKR9.out;have z0:_=some (Value.int .i64 0):=kz.cell 0;have z1:_=some (Value.int .i64 0):=kz.cell 1;have z2:_=some (Value.int .i64 0):=kz.cell 2;have f0:=kz.frozen 0;have f1:=kz.frozen 1;have f2:=kz.frozen 2;have q:Blk (((w3.setCell ⟨w.heap.size,0,none⟩ (.int .i64 0)).setCell ⟨w.heap.size,1,none⟩ (.int .i64 0)).setCell ⟨w.heap.size,2,none⟩ (.int .i64 0)) w.heap.size 91 #[.int .i64 0,.int .i64 0,.int .i64 0]:=((kz.set (i:=0) (v:=.int .i64 0)).set (i:=1) (v:=.int .i64 0)).set (i:=2) (v:=.int .i64 0);have HBZ:Hid (zB w (((w3.setCell ⟨w.heap.size,0,none⟩ (.int .i64 0)).setCell ⟨w.heap.size,1,none⟩ (.int .i64 0)).setCell ⟨w.heap.size,2,none⟩ (.int .i64 0))):=((HB9.out.setCell (p:=⟨w.heap.size,0,none⟩) zN _).setCell (p:=⟨w.heap.size,1,none⟩) zN _).setCell (p:=⟨w.heap.size,2,none⟩) zN _;have HQ:=zH q;clear kz q;go_wp2;have r0:=HQ.out.cell 0;have r1:=HQ.out.cell 1;have r2:=HQ.out.cell 2;rw[HPR.out];refine bodyPost_ret (v:=.tuple #[.agg #[.int .i64 0,.int .i64 0,.int .i64 0],.int .i64 2]) (by simp[results,Tryz.results131,go_sem,r0,r1,r2]) rfl ?_;exact⟨rfl,HBZ.out⟩
     ·obtain⟨n,rfl⟩:=Int.eq_ofNat_of_zero_le (Int.not_lt.1 hneg);have HPN:Hid (q8 p.data.toList=.ok n):=by show _=_;rw[hpn];simp[hbig]
      clear hpn hnm c0;have hks:k<(xd ns).size:=hlt;have v0:w3.cell? ⟨w1.heap.size,k,none⟩=(xd ns)[k]?:=HV9.out.cell k;obtain⟨u,hu⟩:∃u,(xd ns)[k]?=some u:=⟨_,Array.getElem?_eq_getElem hks⟩;rw[hu] at v0;have fv:=HV9.out.frozen k;clear hu hks;obtain⟨WF,hWF⟩:∃WF,w3.setCell ⟨w1.heap.size,k,none⟩ (.int .i64 n)=WF:=⟨_,rfl⟩;have HWF:=zH hWF;clear hWF;go_wp2;go_roundw
      case rel =>refine⟨k+1,ns++[n],by omega,by go_num,by simp[HLE.out],by rw[HST.out,HPN.out],?_,HR9.out.setCell (p:=⟨w1.heap.size,k,none⟩) zN _⟩;have h1:=HV9.out.set (i:=k) (v:=.int .i64 n);have h2:=zh3 ns n (by rw[HLE.out];exact hlt);rw[HLE.out] at h2;rw[h2] at h1;exact h1
      case measure=>simp[intOf];omega
  ·obtain rfl:k=3:=by omega
   obtain⟨x,y,z,rfl⟩:=Qs HLE.out;have HPR:Hid (qk L=.ok [x,y,z]):=by have h1:=HPA.out;rw[List.take_of_length_le (by rw[HLN.out];omega)] at h1;exact h1
   have HB9:Hid (zB w wr):=zT HB1.out HBR.out;have kz:=HK1.out.below HBR.out HK1.out.lt;have a0:_=some (Value.int .i64 x):=HVV.out.cell 0;have a1:_=some (Value.int .i64 y):=HVV.out.cell 1;have a2:_=some (Value.int .i64 z):=HVV.out.cell 2;have z0:_=some (Value.int .i64 0):=kz.cell 0;have z1:_=some (Value.int .i64 0):=kz.cell 1;have z2:_=some (Value.int .i64 0):=kz.cell 2;have f0:=kz.frozen 0;have f1:=kz.frozen 1;have f2:=kz.frozen 2;have q:Blk (((wr.setCell ⟨w.heap.size,0,none⟩ (.int .i64 x)).setCell ⟨w.heap.size,1,none⟩ (.int .i64 y)).setCell ⟨w.heap.size,2,none⟩ (.int .i64 z)) w.heap.size 91 #[.int .i64 x,.int .i64 y,.int .i64 z]:=((kz.set (i:=0) (v:=.int .i64 x)).set (i:=1) (v:=.int .i64 y)).set (i:=2) (v:=.int .i64 z);have HBZ:Hid (zB w (((wr.setCell ⟨w.heap.size,0,none⟩ (.int .i64 x)).setCell ⟨w.heap.size,1,none⟩ (.int .i64 y)).setCell ⟨w.heap.size,2,none⟩ (.int .i64 z))):=((HB9.out.setCell (p:=⟨w.heap.size,0,none⟩) zN _).setCell (p:=⟨w.heap.size,1,none⟩) zN _).setCell (p:=⟨w.heap.size,2,none⟩) zN _;have HQ:=zH q;clear kz q;go_wp2;have r0:=HQ.out.cell 0;have r1:=HQ.out.cell 1;have r2:=HQ.out.cell 2;rw[HPR.out];refine bodyPost_ret (v:=.tuple #[.agg #[.int .i64 x,.int .i64 y,.int .i64 z],.int .i64 0]) (by simp[results,Tryz.results131,go_sem,r0,r1,r2]) rfl ?_;exact⟨rfl,HBZ.out⟩
theorem zc8(s m:ByteArray):∀(f k:Nat),∀x∈zk s m f k,x.2.size<=s.size:=by
 intro f
 induction f with
 |zero=>intro k x hx;simp only[zk,List.mem_singleton] at hx;subst hx;simp
 |succ f ih =>
  intro k x hx;rw[zk] at hx;split at hx
  ·simp only[List.mem_singleton] at hx;subst hx;simp
  ·rcases List.mem_cons.1 hx with rfl|hx
   ·simp;omega
   ·exact ih _ x hx
theorem yF(HS:YY)(s:ByteArray)(w:World)(hs:s.size<=100000)(hw:Lb w) :
  zR 131 #[.string s] w (ZZ (zz s)):=by
 have hc:=Kq s 46 s.size 0 (by omega) (Nat.zero_le _);rw[List.drop_zero] at hc
 by_cases h:(zk s ⟨#[46]⟩ s.size 0).length=3
 ·unfold zz;rw[if_pos (by omega)];exact zeF HS s w hs hw h (fun x hx=>Nat.le_trans (zc8 s _ _ _ x hx) hs)
 ·unfold zz;rw[if_neg (by omega)];exact zdA HS s w hs hw h
end
section
open Go.RowKit Go.Shelf Sv
theorem yA:YY:=fun s W hs hw=>by
 obtain⟨m,hm⟩:=hw.ml;have h:=za7 s ⟨#[46]⟩ (by decide) s.size 0 (by omega) (Nat.zero_le _);have hx:s.extract 0 s.size=s:=Yo (by rw[Lib.extract_to_end];simp);rw[hx] at h;have hlen:Lib.countB s ⟨#[46]⟩+1=(zk s ⟨#[46]⟩ s.size 0).length:=by
  have h2:=congrArg List.length h;rw[List.length_map,Lib.splitB_all _ (by decide) 0 _ s rfl] at h2;exact h2
 refine(Tryz.strings_Split s ⟨#[46]⟩ m W (by omega) hm (by decide)).mono fun e w' ⟨he,hw'⟩=>?_;rw[hlen] at he;rw[h] at hw';exact⟨he,hw'⟩
end
end Go.Proofs.YtiihalknffbjpaaGreatDoor
