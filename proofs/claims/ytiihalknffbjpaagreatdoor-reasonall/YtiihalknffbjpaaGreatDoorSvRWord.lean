/- The reference: a word of a range. -/
import Derived.Test.YtiihalknffbjpaaGreatDoorSvMix
import Derived.Lib.ItoaLen
set_option maxHeartbeats 2000000
set_option maxRecDepth 100000
namespace Go.Proofs.YtiihalknffbjpaaGreatDoor
section
open Go.RowKit Sv
theorem zq6:∀args w,(callFunc 193 args).run Tryz.prog w=.ok (.enter 193 args) w:=by intro args w;kernel_rfl
theorem zpF:∀args w,(callFunc 192 args).run Tryz.prog w=.ok (.enter 192 args) w:=by intro args w;kernel_rfl
theorem zoQ:∀args w,(callFunc 255 args).run Tryz.prog w=.ok (.enter 255 args) w:=by intro args w;kernel_rfl
theorem zrq(x y:Bool)(W:World):zC 193 #[.bool x,.bool y] W fun e w'=>e=.returned (.bool (x||y))/\w'=W:=by
 cases x
 ·go_enter Tryz.func193,Tryz.ntmps193;go_wp2;go_ret;exact⟨rfl,rfl⟩
 ·go_enter Tryz.func193,Tryz.ntmps193;go_wp2;go_ret;exact⟨rfl,rfl⟩
theorem zoU(x y:Bool)(W:World):zC 192 #[.bool x,.bool y] W fun e w'=>e=.returned (.bool (x&&y))/\w'=W:=by
 cases x
 ·go_enter Tryz.func192,Tryz.ntmps192;go_wp2;go_ret;exact⟨rfl,rfl⟩
 ·go_enter Tryz.func192,Tryz.ntmps192;go_wp2;go_ret;exact⟨rfl,rfl⟩
theorem zoy(x y:Bool)(W:World):zC 255 #[.bool x,.bool y] W fun e w'=>e=.returned (.bool (!x))/\w'=W:=by
 go_enter Tryz.func255,Tryz.ntmps255;go_wp2;go_ret;exact⟨rfl,rfl⟩
theorem zdp{l:List zap}(h:Rg l):(tp l).length<=1000000000:=by have:=zfh h;rw[zis];omega
theorem zqG(l m:List zap)(hl:Rg l)(hm:Rg m)(v u:Value)(w:World)(hv:zbW w v (tp l))(hu:zbW w u (tp m)) :
  zC 117 #[v,u] w (zhb w (tp (orr l m))):=by
 have H:=zH (ziQ (tp l) (tp m) v u 193 (fun x y=>x||y) w hv hu (zdp hl) (zdp hm) zq6 zrq);rw[ztb hl hm] at H;obtain⟨a,c,rfl⟩:=hv.form;obtain⟨a',c',rfl⟩:=hu.form;clear hv hu;generalize (tp l).length=n1 at *;generalize (tp m).length=n2 at *;generalize tp (orr l m)=R at *;go_enter Tryz.func117,Tryz.ntmps117;go_wp2_with fail;refine H.out.mono ?_;rintro e w' ⟨b,d,rfl,h1,h2,h3⟩;have H1:=zH h1;have H2:=zH h2;have H3:=zH h3;clear h1 h2 h3;go_wp2;go_ret;exact⟨b,d,rfl,H1.out,H2.out,H3.out⟩
theorem zoX(l m:List zap)(hl:Rg l)(hm:Rg m)(v u:Value)(w:World)(hv:zbW w v (tp l))(hu:zbW w u (tp m)) :
  zC 116 #[v,u] w (zhb w (tp (nd l m))):=by
 have H:=zH (ziQ (tp l) (tp m) v u 192 (fun x y=>x&&y) w hv hu (zdp hl) (zdp hm) zpF zoU);rw[zrz hl hm] at H;obtain⟨a,c,rfl⟩:=hv.form;obtain⟨a',c',rfl⟩:=hu.form;clear hv hu;generalize (tp l).length=n1 at *;generalize (tp m).length=n2 at *;generalize tp (nd l m)=R at *;go_enter Tryz.func116,Tryz.ntmps116;go_wp2_with fail;refine H.out.mono ?_;rintro e w' ⟨b,d,rfl,h1,h2,h3⟩;have H1:=zH h1;have H2:=zH h2;have H3:=zH h3;clear h1 h2 h3;go_wp2;go_ret;exact⟨b,d,rfl,H1.out,H2.out,H3.out⟩
theorem zod(l:List zap)(hl:Rg l)(v:Value)(w:World)(hv:zbW w v (tp l)) :
  zC 190 #[v] w (zhb w (tp (nt l))):=by
 have H:=zH (ziQ (tp l) [] v (.slice none 0 0) 255 (fun x _=>!x) w hv (za9 w) (zdp hl) (Nat.zero_le _) zoQ zoy);rw[zqO hl] at H;obtain⟨a,c,rfl⟩:=hv.form;clear hv;generalize (tp l).length=n1 at *;generalize tp (nt l)=R at *;go_enter Tryz.func190,Tryz.ntmps190;go_wp2_with fail;refine H.out.mono ?_;rintro e w' ⟨b,d,rfl,h1,h2,h3⟩;have H1:=zH h1;have H2:=zH h2;have H3:=zH h3;clear h1 h2 h3;go_wp2;go_ret;exact⟨b,d,rfl,H1.out,H2.out,H3.out⟩
end
section
open Go.RowKit Go.Shelf Go.Sort Sv
def zhI(l:List UInt8):Option Int :=
 match Lib.parseIntB 64 l with
 |.ok v=>if Lib.itoa v=l then some v else none
 |_=>none
def zlW:Option Int->Value
 |some v=>.tuple #[.int .i64 v,.bool true]
 |none=>.tuple #[.int .i64 0,.bool false]
theorem zgo(s:ByteArray)(w:World)(hs:s.size<=100000)(hw:Lb w)(h:∀v,Lib.parseIntB 64 s.data.toList≠.ok v) :
  zR 205 #[.string s] w (.tuple #[.int .i64 0,.bool false]):=by
 have H:Hid (zC 270 #[.string s,.int .i64 10,.int .i64 64] w fun e w'=>∃N x,e=.returned (.tuple #[.int .i64 x,.iface 458 (.pointer (some ⟨N,0,none⟩))])/\zB w w'):=by
  cases hp:Lib.parseIntB 64 s.data.toList with
  |ok v=>exact absurd hp (h v)
  |«syntax» =>obtain⟨ev,h3,h3'⟩:=hw.es;exact(Tryz.strconv_ParseInt_10_at64_syntax s (by omega) hp ev w h3 h3').mono fun e w' ⟨N,he,_,_,hb⟩=>⟨N,_,he,hb⟩
  |range =>obtain⟨ev,h3,h3'⟩:=hw.er;exact(Tryz.strconv_ParseInt_10_at64_range s (by omega) hp ev w h3 h3').mono fun e w' ⟨N,he,_,_,hb⟩=>⟨N,_,he,hb⟩
 clear h hw;go_enter Tryz.func205,Tryz.ntmps205;go_wp2_with fail;refine H.out.mono ?_;rintro e w1 ⟨N,x,rfl,hb⟩;have HB:=zH hb;clear hb H;go_wp2;go_ret2;exact⟨rfl,HB.out⟩
theorem zmD(s:ByteArray)(w:World)(hs:s.size<=100000)(hw:Lb w)(v:Int)(h:Lib.parseIntB 64 s.data.toList=.ok v) :
  zR 205 #[.string s] w (zlW (if Lib.itoa v=s.data.toList then some v else none)):=by
 obtain⟨r0,r1⟩:=zgp h;have H:Hid (zR 270 #[.string s,.int .i64 10,.int .i64 64] w (.tuple #[.int .i64 v,.nilIface])):=(Tryz.strconv_ParseInt_10_at64_ok s (by omega) v h w).mono fun e w' ⟨he,hw'⟩=>by
  refine⟨he,?_⟩;rcases hw' with rfl|⟨t,rfl⟩
  ·exact Below.refl _ _
  ·exact zc9 w t
 have HF:Hid (∀W,zB w W->zR 271 #[.int .i64 v,.int .i64 10] W (.string ⟨(Lib.itoa v).toArray⟩)):=fun W hb=>(Tryz.strconv_FormatInt_10 v r0 r1 W (hw.below hb).tab).mono fun e w' ⟨he,k,os,hw'⟩=>⟨he,hw'▸zgk _ W k os zN⟩;clear h hw;generalize Lib.itoa v=l at *
 by_cases hl:l=s.data.toList
 ·have heq:(l==s.toList)=true:=by rw[ByteArray.toList_eq,hl];simp
  rw[if_pos hl];clear hl;go_enter Tryz.func205,Tryz.ntmps205;go_wp2_with fail;refine H.out.mono ?_;rintro e w1 ⟨rfl,hb⟩;have H2:=zH (HF.out _ hb);have HB:=zH hb;clear hb H HF;go_wp2_with fail;refine H2.out.mono ?_;rintro e w2 ⟨rfl,hb2⟩;have HB2:Hid (zB w w2):=zT HB.out hb2;clear hb2 H2 HB;go_wp2;go_ret2;exact⟨rfl,HB2.out⟩
 ·have heq:(l==s.toList)=false:=by rw[ByteArray.toList_eq];simpa using hl
  rw[if_neg hl];clear hl;go_enter Tryz.func205,Tryz.ntmps205;go_wp2_with fail;refine H.out.mono ?_;rintro e w1 ⟨rfl,hb⟩;have H2:=zH (HF.out _ hb);have HB:=zH hb;clear hb H HF;go_wp2_with fail;refine H2.out.mono ?_;rintro e w2 ⟨rfl,hb2⟩;have HB2:Hid (zB w w2):=zT HB.out hb2;clear hb2 H2 HB;go_wp2;go_ret2;exact⟨rfl,HB2.out⟩
theorem ziW(s:ByteArray)(w:World)(hs:s.size<=100000)(hw:Lb w) :
  zR 205 #[.string s] w (zlW (zhI s.data.toList)):=by
 cases h:Lib.parseIntB 64 s.data.toList with
 |ok v=>unfold zhI;rw[h];exact zmD s w hs hw v h
 |«syntax»=>unfold zhI;rw[h];exact zgo s w hs hw (fun v e=>by rw[h] at e;cases e)
 |range=>unfold zhI;rw[h];exact zgo s w hs hw (fun v e=>by rw[h] at e;cases e)
theorem zmc(l:List UInt8):zcn l=match zhI l with
  |none=>.error 3
  |some v=>if v<0 then .error 3 else if 999<v then .error 2 else .ok v.toNat:=by
 unfold zcn zhI;cases hv:Lib.parseIntB 64 l with
 |ok v =>
  by_cases h:Lib.itoa v=l
  ·simp only[h,if_true]
   by_cases hn:v<0<;>simp[hn]
  ·simp[h]
 |«syntax»=>rfl
 |range=>rfl
end
section
open Go.RowKit Go.Shelf Sv
def zjo:Prop:=∀(s:ByteArray) (W:World),s.size<=100000->Lb W->zC 113 #[.string s,.string ⟨#[46]⟩] W fun e w' =>
 e=.returned (.slice (some ⟨W.heap.size,0,none⟩) (zbh s ⟨#[46]⟩ s.size 0).length (zbh s ⟨#[46]⟩ s.size 0).length)/\w'=W.alloc (.cells (((zbh s ⟨#[46]⟩ s.size 0).map (·.2)).map Value.string).toArray 9)
def zeO:Except Int (List Nat)->Value
 |.ok ns=>.tuple #[.agg (ziv ns),.int .i64 0]
 |.error k=>.tuple #[.agg #[.int .i64 0,.int .i64 0,.int .i64 0],.int .i64 k]
theorem zjk(HS:zjo)(s:ByteArray)(w:World)(hs:s.size<=100000)(hw:Lb w)(h:(zbh s ⟨#[46]⟩ s.size 0).length≠3) :
  zR 131 #[.string s] w (zeO (.error 3)):=by
 have H:Hid (∀W,zB w W->zC 113 #[.string s,.string ⟨#[46]⟩] W fun e w'=>∃a n,n≠3/\e=.returned (.slice a n n)/\zB W w'):=fun W hb=>(HS s W hs (hw.below hb)).mono fun e w' ⟨he,hw'⟩=>⟨_,_,h,he,hw'▸zF.alloc zN _⟩;have kr:=Blk.new w 91 #[.int .i64 0,.int .i64 0,.int .i64 0];have hB0:zB w (w.alloc (.cells #[.int .i64 0,.int .i64 0,.int .i64 0] 91)):=(Below.refl _ w).alloc zN _;have HKR:=zH kr;have HB0:=zH hB0;clear h hw HS kr hB0;go_enter Tryz.func131,Tryz.ntmps131;go_wp2_with fail;generalize w.alloc (.cells #[.int .i64 0,.int .i64 0,.int .i64 0] 91)=W0 at *;refine(H.out _ HB0.out).mono ?_;rintro e w1 ⟨a,n,hn,rfl,hb1⟩;have k1:=HKR.out.below hb1 HKR.out.lt;have HB1:Hid (zB w w1):=zT HB0.out hb1;have HK1:=zH k1;have c0:_=some (Value.int .i64 0):=k1.cell 0;have c1:_=some (Value.int .i64 0):=k1.cell 1;have c2:_=some (Value.int .i64 0):=k1.cell 2;have f0:=k1.frozen 0;have f1:=k1.frozen 1;have f2:=k1.frozen 2;have hn1:((n:Int) != 3)=true:=by rw[bne_iff_ne];omega
 have q:Blk (((w1.setCell ⟨w.heap.size,0,none⟩ (.int .i64 0)).setCell ⟨w.heap.size,1,none⟩ (.int .i64 0)).setCell ⟨w.heap.size,2,none⟩ (.int .i64 0)) w.heap.size 91 #[.int .i64 0,.int .i64 0,.int .i64 0]:=((k1.set (i:=0) (v:=.int .i64 0)).set (i:=1) (v:=.int .i64 0)).set (i:=2) (v:=.int .i64 0);have HBZ:Hid (zB w (((w1.setCell ⟨w.heap.size,0,none⟩ (.int .i64 0)).setCell ⟨w.heap.size,1,none⟩ (.int .i64 0)).setCell ⟨w.heap.size,2,none⟩ (.int .i64 0))):=((HB1.out.setCell (p:=⟨w.heap.size,0,none⟩) zN _).setCell (p:=⟨w.heap.size,1,none⟩) zN _).setCell (p:=⟨w.heap.size,2,none⟩) zN _;have HQ:=zH q;clear k1 hb1 H hn q;go_wp2;have r0:=HQ.out.cell 0;have r1:=HQ.out.cell 1;have r2:=HQ.out.cell 2;refine bodyPost_ret (v:=.tuple #[.agg #[.int .i64 0,.int .i64 0,.int .i64 0],.int .i64 3]) (by simp[results,Tryz.results131,go_sem,r0,r1,r2]) rfl ?_;exact⟨rfl,HBZ.out⟩
theorem znU(ns:List Nat)(n:Nat)(h:ns.length<3):(ziv ns).setIfInBounds ns.length (.int .i64 n)=ziv (ns++[n]):=by
 match ns,h with
 |[],_=>rfl
 |[_],_=>rfl
 |[_,_],_=>rfl
theorem zkf{L:List (Nat × ByteArray)}{k:Nat}{ns:List Nat}(hk:k<L.length)(h:zaW (L.take k)=.ok ns):zaW (L.take (k+1))=match zcn (L[k].2).data.toList with
  |.error e=>.error e
  |.ok n=>.ok (ns++[n]):=by
 rw[List.take_succ_eq_append_getElem hk,zfl h];cases zcn L[k].2.data.toList<;>rfl
theorem zfD{L:List (Nat × ByteArray)}{k:Nat}{e:Int}(h:zaW (L.take k)=.error e):zaW L=.error e:=by
 have:=zc8 (r:=L.drop k) h
 rwa [List.take_append_drop] at this
theorem zhn(HS:zjo)(s:ByteArray)(w:World)(hs:s.size<=100000)(hw:Lb w)(h:(zbh s ⟨#[46]⟩ s.size 0).length=3)(hsz:∀x∈zbh s ⟨#[46]⟩ s.size 0,x.2.size<=100000) :
  zR 131 #[.string s] w (zeO (zaW (zbh s ⟨#[46]⟩ s.size 0))):=by
 have H:Hid (∀W,zB w W->zC 113 #[.string s,.string ⟨#[46]⟩] W fun e w'=>e=.returned (.slice (some ⟨W.heap.size,0,none⟩) 3 3)/\Blk w' W.heap.size 9 (((zbh s ⟨#[46]⟩ s.size 0).map (·.2)).map Value.string).toArray/\zB W w'):=fun W hb=>(HS s W hs (hw.below hb)).mono fun e w' ⟨he,hw'⟩=>by
  rw[h] at he;exact⟨he,hw'▸Blk.new _ _ _,hw'▸zF.alloc zN _⟩
 generalize zbh s ⟨#[46]⟩ s.size 0=L at *;have HN:Hid (∀k (hk:k<L.length) W,zB w W->zR 205 #[.string L[k].2] W (zlW (zhI (L[k].2).data.toList))):=fun k hk W hb=>ziW _ W (hsz _ (List.getElem_mem hk)) (hw.below hb);have kr:=Blk.new w 91 #[.int .i64 0,.int .i64 0,.int .i64 0];have hB0:zB w (w.alloc (.cells #[.int .i64 0,.int .i64 0,.int .i64 0] 91)):=(Below.refl _ w).alloc zN _;have HKR:=zH kr;have HB0:=zH hB0;have HLN:=zH h;clear h hw HS kr hB0 hsz;go_enter Tryz.func131,Tryz.ntmps131;go_wp2_with fail;generalize w.alloc (.cells #[.int .i64 0,.int .i64 0,.int .i64 0] 91)=W0 at *;refine(H.out _ HB0.out).mono ?_;rintro e w1 ⟨rfl,kp,hb1⟩;have HK1:=zH (HKR.out.below hb1 HKR.out.lt);have HB1:Hid (zB w w1):=zT HB0.out hb1;have HKP:=zH kp;clear hb1 H kp;go_wp2_with fail;have kv:=Blk.new w1 91 #[.int .i64 0,.int .i64 0,.int .i64 0];have hb2:zB w1 (w1.alloc (.cells #[.int .i64 0,.int .i64 0,.int .i64 0] 91)):=(Below.refl _ w1).alloc zN _;have HKV:=zH kv;have HB2:=zH hb2;clear kv hb2;generalize w1.alloc (.cells #[.int .i64 0,.int .i64 0,.int .i64 0] 91)=W2 at *;go_loopw [18] (fun iV wr=>∃(k:Nat) (ns:List Nat),k<=3/\iV=.int .i64 k/\ns.length=k/\zaW (L.take k)=.ok ns/\Blk wr w1.heap.size 91 (ziv ns)/\zB w1 wr) (fun iV _=>3-(intOf iV).toNat)
 case atStart=>exact⟨0,[],by omega,rfl,rfl,rfl,HKV.out,HB2.out⟩
 case round =>
  obtain⟨k,ns,hk,rfl,hlen,hpar,hv,hbr⟩:=hrel;have HLE:=zH hlen;have HPA:=zH hpar;have HVV:=zH hv;have HBR:=zH hbr;clear hlen hpar hv hbr
  by_cases hlt:k<3
  ·have hkL:k<L.length:=by rw[HLN.out];exact hlt
   have c0:wr.cell? ⟨W0.heap.size,k,none⟩=some (.string L[k].2):=by
    rw[(HKP.out.below HBR.out HKP.out.lt).cell k];simp[hkL]
   have HST:=zH (zkf hkL HPA.out);have HNk:=zH (HN.out k hkL);generalize L[k].2=p at *;clear hkL;have HB8:Hid (zB w wr):=zT HB1.out HBR.out;go_wp2_with fail;refine(HNk.out _ HB8.out).mono ?_;rintro e w3 ⟨rfl,hb3⟩;have HB9:Hid (zB w w3):=zT HB8.out hb3;have HKR9:=zH ((HK1.out.below HBR.out HK1.out.lt).below hb3 (Nat.lt_of_lt_of_le HK1.out.lt HBR.out.size));have HV9:=zH (HVV.out.below hb3 HVV.out.lt);have HR9:Hid (zB w1 w3):=zT HBR.out hb3;clear hb3 HNk HKR HB0;have hpn:=zmc p.data.toList;cases hnm:zhI p.data.toList with
   |none =>rw[hnm] at hpn;simp only[zlW];have HPN:Hid (zcn p.data.toList=.error 3):=hpn;clear hpn hnm c0;have HPR:Hid (zaW L=.error 3):=zfD (k:=k+1) (by rw[HST.out,HPN.out]);have kz:=HKR9.out;have z0:_=some (Value.int .i64 0):=kz.cell 0;have z1:_=some (Value.int .i64 0):=kz.cell 1;have z2:_=some (Value.int .i64 0):=kz.cell 2;have f0:=kz.frozen 0;have f1:=kz.frozen 1;have f2:=kz.frozen 2;have q:Blk (((w3.setCell ⟨w.heap.size,0,none⟩ (.int .i64 0)).setCell ⟨w.heap.size,1,none⟩ (.int .i64 0)).setCell ⟨w.heap.size,2,none⟩ (.int .i64 0)) w.heap.size 91 #[.int .i64 0,.int .i64 0,.int .i64 0]:=((kz.set (i:=0) (v:=.int .i64 0)).set (i:=1) (v:=.int .i64 0)).set (i:=2) (v:=.int .i64 0);have HBZ:Hid (zB w (((w3.setCell ⟨w.heap.size,0,none⟩ (.int .i64 0)).setCell ⟨w.heap.size,1,none⟩ (.int .i64 0)).setCell ⟨w.heap.size,2,none⟩ (.int .i64 0))):=((HB9.out.setCell (p:=⟨w.heap.size,0,none⟩) zN _).setCell (p:=⟨w.heap.size,1,none⟩) zN _).setCell (p:=⟨w.heap.size,2,none⟩) zN _;have HQ:=zH q;clear kz q;go_wp2;have r0:=HQ.out.cell 0;have r1:=HQ.out.cell 1;have r2:=HQ.out.cell 2;rw[HPR.out];refine bodyPost_ret (v:=.tuple #[.agg #[.int .i64 0,.int .i64 0,.int .i64 0],.int .i64 3]) (by simp[results,Tryz.results131,go_sem,r0,r1,r2]) rfl ?_;exact⟨rfl,HBZ.out⟩
   |some x =>
    rw[hnm] at hpn;simp only[zlW]
    by_cases hneg:x<0
    ·have HPN:Hid (zcn p.data.toList=.error 3):=by show _=_;rw[hpn];simp[hneg]
     clear hpn hnm c0;have HPR:Hid (zaW L=.error 3):=zfD (k:=k+1) (by rw[HST.out,HPN.out]);have kz:=HKR9.out;have z0:_=some (Value.int .i64 0):=kz.cell 0;have z1:_=some (Value.int .i64 0):=kz.cell 1;have z2:_=some (Value.int .i64 0):=kz.cell 2;have f0:=kz.frozen 0;have f1:=kz.frozen 1;have f2:=kz.frozen 2;have q:Blk (((w3.setCell ⟨w.heap.size,0,none⟩ (.int .i64 0)).setCell ⟨w.heap.size,1,none⟩ (.int .i64 0)).setCell ⟨w.heap.size,2,none⟩ (.int .i64 0)) w.heap.size 91 #[.int .i64 0,.int .i64 0,.int .i64 0]:=((kz.set (i:=0) (v:=.int .i64 0)).set (i:=1) (v:=.int .i64 0)).set (i:=2) (v:=.int .i64 0);have HBZ:Hid (zB w (((w3.setCell ⟨w.heap.size,0,none⟩ (.int .i64 0)).setCell ⟨w.heap.size,1,none⟩ (.int .i64 0)).setCell ⟨w.heap.size,2,none⟩ (.int .i64 0))):=((HB9.out.setCell (p:=⟨w.heap.size,0,none⟩) zN _).setCell (p:=⟨w.heap.size,1,none⟩) zN _).setCell (p:=⟨w.heap.size,2,none⟩) zN _;have HQ:=zH q;clear kz q;go_wp2;have r0:=HQ.out.cell 0;have r1:=HQ.out.cell 1;have r2:=HQ.out.cell 2;rw[HPR.out];refine bodyPost_ret (v:=.tuple #[.agg #[.int .i64 0,.int .i64 0,.int .i64 0],.int .i64 3]) (by simp[results,Tryz.results131,go_sem,r0,r1,r2]) rfl ?_;exact⟨rfl,HBZ.out⟩
    ·by_cases hbig:999<x
     ·have HPN:Hid (zcn p.data.toList=.error 2):=by show _=_;rw[hpn];simp[hneg,hbig]
      clear hpn hnm c0;have HPR:Hid (zaW L=.error 2):=zfD (k:=k+1) (by rw[HST.out,HPN.out]);have kz:=HKR9.out;have z0:_=some (Value.int .i64 0):=kz.cell 0;have z1:_=some (Value.int .i64 0):=kz.cell 1;have z2:_=some (Value.int .i64 0):=kz.cell 2;have f0:=kz.frozen 0;have f1:=kz.frozen 1;have f2:=kz.frozen 2;have q:Blk (((w3.setCell ⟨w.heap.size,0,none⟩ (.int .i64 0)).setCell ⟨w.heap.size,1,none⟩ (.int .i64 0)).setCell ⟨w.heap.size,2,none⟩ (.int .i64 0)) w.heap.size 91 #[.int .i64 0,.int .i64 0,.int .i64 0]:=((kz.set (i:=0) (v:=.int .i64 0)).set (i:=1) (v:=.int .i64 0)).set (i:=2) (v:=.int .i64 0);have HBZ:Hid (zB w (((w3.setCell ⟨w.heap.size,0,none⟩ (.int .i64 0)).setCell ⟨w.heap.size,1,none⟩ (.int .i64 0)).setCell ⟨w.heap.size,2,none⟩ (.int .i64 0))):=((HB9.out.setCell (p:=⟨w.heap.size,0,none⟩) zN _).setCell (p:=⟨w.heap.size,1,none⟩) zN _).setCell (p:=⟨w.heap.size,2,none⟩) zN _;have HQ:=zH q;clear kz q;go_wp2;have r0:=HQ.out.cell 0;have r1:=HQ.out.cell 1;have r2:=HQ.out.cell 2;rw[HPR.out];refine bodyPost_ret (v:=.tuple #[.agg #[.int .i64 0,.int .i64 0,.int .i64 0],.int .i64 2]) (by simp[results,Tryz.results131,go_sem,r0,r1,r2]) rfl ?_;exact⟨rfl,HBZ.out⟩
     ·obtain⟨n,rfl⟩:=Int.eq_ofNat_of_zero_le (Int.not_lt.1 hneg);have HPN:Hid (zcn p.data.toList=.ok n):=by show _=_;rw[hpn];simp[hbig]
      clear hpn hnm c0;have hks:k<(ziv ns).size:=hlt;have v0:w3.cell? ⟨w1.heap.size,k,none⟩=(ziv ns)[k]?:=HV9.out.cell k;obtain⟨u,hu⟩:∃u,(ziv ns)[k]?=some u:=⟨_,Array.getElem?_eq_getElem hks⟩;rw[hu] at v0;have fv:=HV9.out.frozen k;clear hu hks;obtain⟨WF,hWF⟩:∃WF,w3.setCell ⟨w1.heap.size,k,none⟩ (.int .i64 n)=WF:=⟨_,rfl⟩;have HWF:=zH hWF;clear hWF;go_wp2;go_roundw
      case rel =>refine⟨k+1,ns++[n],by omega,by go_num,by simp[HLE.out],by rw[HST.out,HPN.out],?_,HR9.out.setCell (p:=⟨w1.heap.size,k,none⟩) zN _⟩;have h1:=HV9.out.set (i:=k) (v:=.int .i64 n);have h2:=znU ns n (by rw[HLE.out];exact hlt);rw[HLE.out] at h2;rw[h2] at h1;exact h1
      case measure=>simp[intOf];omega
  ·obtain rfl:k=3:=by omega
   obtain⟨x,y,z,rfl⟩:=zq5 HLE.out;have HPR:Hid (zaW L=.ok [x,y,z]):=by have h1:=HPA.out;rw[List.take_of_length_le (by rw[HLN.out];omega)] at h1;exact h1
   have HB9:Hid (zB w wr):=zT HB1.out HBR.out;have kz:=HK1.out.below HBR.out HK1.out.lt;have a0:_=some (Value.int .i64 x):=HVV.out.cell 0;have a1:_=some (Value.int .i64 y):=HVV.out.cell 1;have a2:_=some (Value.int .i64 z):=HVV.out.cell 2;have z0:_=some (Value.int .i64 0):=kz.cell 0;have z1:_=some (Value.int .i64 0):=kz.cell 1;have z2:_=some (Value.int .i64 0):=kz.cell 2;have f0:=kz.frozen 0;have f1:=kz.frozen 1;have f2:=kz.frozen 2;have q:Blk (((wr.setCell ⟨w.heap.size,0,none⟩ (.int .i64 x)).setCell ⟨w.heap.size,1,none⟩ (.int .i64 y)).setCell ⟨w.heap.size,2,none⟩ (.int .i64 z)) w.heap.size 91 #[.int .i64 x,.int .i64 y,.int .i64 z]:=((kz.set (i:=0) (v:=.int .i64 x)).set (i:=1) (v:=.int .i64 y)).set (i:=2) (v:=.int .i64 z);have HBZ:Hid (zB w (((wr.setCell ⟨w.heap.size,0,none⟩ (.int .i64 x)).setCell ⟨w.heap.size,1,none⟩ (.int .i64 y)).setCell ⟨w.heap.size,2,none⟩ (.int .i64 z))):=((HB9.out.setCell (p:=⟨w.heap.size,0,none⟩) zN _).setCell (p:=⟨w.heap.size,1,none⟩) zN _).setCell (p:=⟨w.heap.size,2,none⟩) zN _;have HQ:=zH q;clear kz q;go_wp2;have r0:=HQ.out.cell 0;have r1:=HQ.out.cell 1;have r2:=HQ.out.cell 2;rw[HPR.out];refine bodyPost_ret (v:=.tuple #[.agg #[.int .i64 x,.int .i64 y,.int .i64 z],.int .i64 0]) (by simp[results,Tryz.results131,go_sem,r0,r1,r2]) rfl ?_;exact⟨rfl,HBZ.out⟩
theorem zpH(s m:ByteArray):∀(f k:Nat),∀x∈zbh s m f k,x.2.size<=s.size:=by
 intro f
 induction f with
 |zero=>intro k x hx;simp only[zbh,List.mem_singleton] at hx;subst hx;simp
 |succ f ih =>
  intro k x hx;rw[zbh] at hx;split at hx
  ·simp only[List.mem_singleton] at hx;subst hx;simp
  ·rcases List.mem_cons.1 hx with rfl|hx
   ·simp;omega
   ·exact ih _ x hx
theorem zbA(HS:zjo)(s:ByteArray)(w:World)(hs:s.size<=100000)(hw:Lb w) :
  zR 131 #[.string s] w (zeO (zbp s)):=by
 have hc:=zew s 46 s.size 0 (by omega) (Nat.zero_le _);rw[List.drop_zero] at hc
 by_cases h:(zbh s ⟨#[46]⟩ s.size 0).length=3
 ·unfold zbp;rw[if_pos (by omega)];exact zhn HS s w hs hw h (fun x hx=>Nat.le_trans (zpH s _ _ _ x hx) hs)
 ·unfold zbp;rw[if_neg (by omega)];exact zjk HS s w hs hw h
end
section
open Go.RowKit Go.Shelf Sv
theorem zfo:zjo:=fun s W hs hw=>by
 obtain⟨m,hm⟩:=hw.ml;have h:=zhD s ⟨#[46]⟩ (by decide) s.size 0 (by omega) (Nat.zero_le _);have hx:s.extract 0 s.size=s:=zih (by rw[Lib.extract_to_end];simp);rw[hx] at h;have hlen:Lib.countB s ⟨#[46]⟩+1=(zbh s ⟨#[46]⟩ s.size 0).length:=by
  have h2:=congrArg List.length h;rw[List.length_map,Lib.splitB_all _ (by decide) 0 _ s rfl] at h2;exact h2
 refine(Tryz.strings_Split s ⟨#[46]⟩ m W (by omega) hm (by decide)).mono fun e w' ⟨he,hw'⟩=>?_;rw[hlen] at he;rw[h] at hw';exact⟨he,hw'⟩
end
section
open Go.RowKit Go.Shelf Sv
theorem zmO{l:List UInt8}{k:Int}(h:zcn l=.error k):k≠0:=by
 unfold zcn at h;split at h
 ·split at h
  ·cases h;decide
  ·split at h
   ·cases h;decide
   ·cases h
 ·cases h;decide
theorem zks:∀{l:List (Nat × ByteArray)} {k:Int},zaW l=.error k->k≠0:=by
 intro l
 induction l with
 |nil=>intro k h;cases h
 |cons x l ih =>
  intro k h;unfold zaW at h;split at h
  ·rename_i hx;cases h;exact zmO hx
  ·split at h
   ·rename_i hx;cases h;exact ih hx
   ·cases h
theorem zeh{s:ByteArray}{k:Int}(h:zbp s=.error k):k≠0:=by
 unfold zbp at h;split at h
 ·exact zks h
 ·cases h;decide
theorem zny{g:List UInt8}{a b c:Nat}{k:Int}(h:zdZ g a b c=.error k):k=3:=by
 unfold zdZ at h
 repeat(split at h;· cases h)
 cases h;rfl
theorem zib{s:ByteArray}{k:Int}(h:zdB s=.error k):k≠0:=by
 unfold zdB at h;split at h
 ·cases h
 ·split at h
  ·cases h
  ·split at h
   ·rename_i hx;cases h;exact zeh hx
   ·rw[zny h];decide
def zt6(m:List Nat)(k:Int):Except Int (List zap)->Prop
 |.ok l=>m=tp l/\k=0
 |.error q=>m=[]/\k=q
def zkD(w:World)(x:Except Int (List zap))(e:Ending)(w':World):Prop:=∃(m:List Nat) (a:Option Addr) (c:Nat) (k:Int),e=.returned (.tuple #[.slice a m.length c,.int .i64 k])/\zbW w' (.slice a m.length c) m/\(∀g,(Value.slice a m.length c).ownBlock=some g->w.heap.size<=g)/\zB w w'/\zt6 m k x
theorem zkJ(s:ByteArray)(w:World)(h:s.toList=[97,110,121]):zC 115 #[.string s] w (zkD w (.ok za2)):=by
 have h1:(s.toList==[97,110,121])=true:=by rw[h];rfl
 have HR:=zH (zgW 0 1000000000 w);have he:zbR 0 1000000000=za2:=rfl;rw[he] at HR;have HRR:Hid (zC 114 #[.int .i64 0,.int .i64 1000000000] w (zhb w (tp za2))):=HR.out;clear HR he h;generalize za2=L at *;go_enter Tryz.func115,Tryz.ntmps115;go_wp2_with fail;refine HRR.out.mono ?_;rintro e w' ⟨a,c,rfl,q1,q2,q3⟩;have Q1:=zH q1;have Q2:=zH q2;have Q3:=zH q3;clear q1 q2 q3;go_wp2;refine bodyPost_ret (v:=.tuple #[.slice a (tp L).length c,.int .i64 0]) (by simp[results,Tryz.results115,go_sem]) rfl ?_;exact⟨_,a,c,0,rfl,Q1.out,Q2.out,Q3.out,rfl,rfl⟩
theorem zkY(s:ByteArray)(w:World)(h:s.toList=[110,111,110,101]):zC 115 #[.string s] w (zkD w (.ok [])):=by
 have h1:(s.toList==[97,110,121])=false:=by rw[h];rfl
 have h2:(s.toList==[110,111,110,101])=true:=by rw[h];rfl
 clear h;go_enter Tryz.func115,Tryz.ntmps115;go_wp2;refine bodyPost_ret (v:=.tuple #[.slice none 0 0,.int .i64 0]) (by simp[results,Tryz.results115,go_sem]) rfl ?_;exact⟨[],none,0,0,rfl,za9 _,fun g hg=>by simp[Value.ownBlock] at hg,Below.refl _ _,rfl,rfl⟩
theorem znz(s:ByteArray)(w:World)(hs:s.size<=100000)(hw:Lb w)(h1:(s.toList==[97,110,121])=false)(h2:(s.toList==[110,111,110,101])=false)(k:Int)(hv:zbp (zcd s)=.error k):zC 115 #[.string s] w (zkD w (.error k)):=by
 have HT:=zH (ze4 s w);have HP:Hid (∀W,zB w W->zR 131 #[.string (zcd s)] W (.tuple #[.agg #[.int .i64 0,.int .i64 0,.int .i64 0],.int .i64 k])):=fun W hb=>by have:=zbA zfo (zcd s) W (Nat.le_trans (zcm s) hs) (hw.below hb);rw[hv] at this;exact this
 have hk:=zeh hv;have hk':(k != 0)=true:=by simpa using hk
 clear hv hw hk;generalize zcd s=t at *;go_enter Tryz.func115,Tryz.ntmps115;go_wp2_with fail;refine HT.out.mono ?_;rintro e w1 ⟨rfl,hb1⟩;have H2:=zH (HP.out _ hb1);have HB1:=zH hb1;clear hb1 HP HT;go_wp2_with fail;refine H2.out.mono ?_;rintro e w2 ⟨rfl,hb2⟩;have HB2:Hid (zB w (w2.alloc (.cells #[.int .i64 0,.int .i64 0,.int .i64 0] 91))):=(zT HB1.out hb2).alloc (by have:=HB1.out.size;have:=hb2.size;omega) _;clear hb2 H2;go_wp2;refine bodyPost_ret (v:=.tuple #[.slice none 0 0,.int .i64 k]) (by simp[results,Tryz.results115,go_sem]) rfl ?_;exact⟨[],none,0,k,rfl,za9 _,fun g hg=>by simp[Value.ownBlock] at hg,HB2.out,rfl,rfl⟩
theorem zqb{w w4 w5:World}{L:List zap}{x:Option Addr}{y:Nat}(h:zB w w4)(q1:zbW w5 (.slice x (tp L).length y) (tp L))(q2:∀g,(Value.slice x (tp L).length y).ownBlock=some g->w4.heap.size<=g)(q3:zB w4 w5):zkD w (.ok L) (.returned (.tuple #[.slice x (tp L).length y,.int .i64 0])) w5:=⟨_,x,y,0,rfl,q1,fun g hg=>Nat.le_trans h.size (q2 g hg),zT h q3,rfl,rfl⟩
theorem zkP(s:ByteArray)(w:World)(hs:s.size<=100000)(hw:Lb w)(h1:(s.toList==[97,110,121])=false)(h2:(s.toList==[110,111,110,101])=false)(a b c:Nat)(ha:a<=999)(hb:b<=999)(hc:c<=999)(hv:zbp (zcd s)=.ok [a,b,c]):zC 115 #[.string s] w (zkD w (zdZ (s.extract 0 (s.size-(zcd s).size)).toList a b c)):=by
 have HT:=zH (ze4 s w);have HP:Hid (∀W,zB w W->zR 131 #[.string (zcd s)] W (.tuple #[.agg #[.int .i64 a,.int .i64 b,.int .i64 c],.int .i64 0])):=fun W hb=>by have:=zbA zfo (zcd s) W (Nat.le_trans (zcm s) hs) (hw.below hb);rw[hv] at this;exact this
 have HN:Hid (∀W,zR 189 #[.agg #[.int .i64 a,.int .i64 b,.int .i64 c]] W (.int .i64 (zbH a b c))):=fun W=>zgC a b c (by omega) (by omega) (by omega) W;have hN:=zcW ha hb hc;have hNi:(zbH a b c:Int)<1000000000:=by unfold ALL at hN;omega
 have HR:Hid (∀(x y:Nat) (W:World),zC 114 #[.int .i64 x,.int .i64 y] W (zhb W (tp (zbR x y)))):=zgW;have HM:Hid (∀x y z:Nat,x<=1000->y<=1000->z<=1000->∃M:Nat,zbH x y z=M/\∀W,zR 189 #[.agg #[.int .i64 x,.int .i64 y,.int .i64 z]] W (.int .i64 M)):=fun x y z h k l=>⟨_,rfl,zgC x y z h k l⟩;generalize hX:zdZ (s.extract 0 (s.size-(zcd s).size)).toList a b c=X;have hts:=zcm s;generalize zcd s=t at *;have hq:(s.size:Int)-(t.size:Int)=((s.size-t.size:Nat):Int):=by omega
 have hqs:s.size-t.size<=s.size:=by omega
 generalize s.size-t.size=q at *;have i0:(0:Int)<=(q:Int):=by omega
 have i2:(q:Int)<=(s.size:Int):=by omega
 have hsl:=fun W'=>run_slice_string_h (P:=Tryz.prog) W' 9 s Tryz.underlying9 .i64 (q:Int) i0 i2;simp only[Int.toNat_natCast] at hsl;have hw1:wrap64 ((s.size:Int)-(t.size:Int))=(q:Int):=by rw[hq];unfold wrap64;omega
 have hw2:IntKind.i64.wrap ((s.size:Int)-(t.size:Int))=(q:Int):=by rw[IntKind.wrap_i64];unfold wrap64 at hw1;exact hw1
 generalize s.extract 0 q=u at *;unfold zdZ zka at hX;clear hv hw hts hq hN;generalize zbH a b c=N at *;go_enter Tryz.func115,Tryz.ntmps115;go_wp2_with fail;refine HT.out.mono ?_;rintro e w1 ⟨rfl,hb1⟩;have H2:=zH (HP.out _ hb1);have HB1:=zH hb1;clear hb1 HP HT;go_wp2_with fail;refine H2.out.mono ?_;rintro e w2 ⟨rfl,hb2⟩;have HB2:Hid (zB w (w2.alloc (.cells #[.int .i64 a,.int .i64 b,.int .i64 c] 91))):=(zT HB1.out hb2).alloc (by have:=HB1.out.size;have:=hb2.size;omega) _;have kv:=Blk.new w2 91 #[.int .i64 a,.int .i64 b,.int .i64 c];clear hb2 H2;go_wp2_with fail;generalize w2.alloc (.cells #[.int .i64 a,.int .i64 b,.int .i64 c] 91)=W3 at *;refine(HN.out _).mono ?_;rintro e w4 ⟨rfl,hb4⟩;have HB4:Hid (zB w w4):=zT HB2.out hb4;have kv4:=kv.below hb4 kv.lt;have HKV:=zH kv4;clear hb4 HN kv kv4 HB2;rcases Bool.eq_false_or_eq_true (u.toList==[]) with g0|g0;rw[if_pos (.inl (eq_of_beq g0))] at hX;subst hX;have HROW:=zH (HR.out N (N+1));have HBZ:=HB4;rotate_left;rcases Bool.eq_false_or_eq_true (u.toList==[61]) with g1|g1;rw[if_pos (.inr (eq_of_beq g1))] at hX;subst hX;have HROW:=zH (HR.out N (N+1));have HBZ:=HB4;rotate_left;rw[if_neg (not_or.2 ⟨ne_of_beq_false g0,ne_of_beq_false g1⟩)] at hX;rcases Bool.eq_false_or_eq_true (u.toList==[33]) with g2|g2
 ·rw[if_pos (eq_of_beq g2)] at hX;subst hX;go_wp2_with fail;refine(HR.out N (N+1) _).mono ?_;rintro e w5 ⟨x,y,rfl,q1,q2,q3⟩;have HB5:Hid (zB w w5):=zT HB4.out q3;have HNOT:=zH (zod (zbR N (N+1)) (zhX (by unfold ALL;omega)) _ w5 q1);clear q1 q2 q3;go_wp2_with fail;refine HNOT.out.mono ?_;rintro e w6 ⟨x,y,rfl,q1,q2,q3⟩;have Q:=zH (zqb HB5.out q1 q2 q3);clear q1 q2 q3;go_wp2;exact bodyPost_ret (by simp[results,Tryz.results115,go_sem]) rfl Q.out
 rw[if_neg (ne_of_beq_false g2)] at hX;rcases Bool.eq_false_or_eq_true (u.toList==[60]) with g3|g3;rw[if_pos (eq_of_beq g3)] at hX;subst hX;have HROW:=zH (HR.out 0 N);have HBZ:=HB4;rotate_left;rw[if_neg (ne_of_beq_false g3)] at hX;rcases Bool.eq_false_or_eq_true (u.toList==[60,61]) with g4|g4;rw[if_pos (eq_of_beq g4)] at hX;subst hX;have HROW:=zH (HR.out 0 (N+1));have HBZ:=HB4;rotate_left;rw[if_neg (ne_of_beq_false g4)] at hX;rcases Bool.eq_false_or_eq_true (u.toList==[62]) with g5|g5;rw[if_pos (eq_of_beq g5)] at hX;subst hX;have HROW:=zH (HR.out (N+1) 1000000000);have HBZ:=HB4;rotate_left;rw[if_neg (ne_of_beq_false g5)] at hX;rcases Bool.eq_false_or_eq_true (u.toList==[62,61]) with g6|g6;rw[if_pos (eq_of_beq g6)] at hX;subst hX;have HROW:=zH (HR.out N 1000000000);have HBZ:=HB4;rotate_left;rw[if_neg (ne_of_beq_false g6)] at hX;have c0:=HKV.out.cell 0;have c1:=HKV.out.cell 1;rcases Bool.eq_false_or_eq_true (u.toList==[126]) with g7|g7;have g8:u.toList≠[94]:=by rw[eq_of_beq g7];decide
 rw[if_neg g8,if_pos (eq_of_beq g7)] at hX;clear g8;obtain⟨M,hM,hm⟩:=HM.out a (b+1) 0 (by omega) (by omega) (by omega);rw[hM] at hX;subst hX;have HMM:=zH hm;clear hM hm HM;have HROW:=zH (HR.out N M);go_wp2_with fail;refine(HMM.out _).mono ?_;rintro e w7 ⟨rfl,hb7⟩;have HBZ:Hid (zB w w7):=zT HB4.out hb7;clear hb7 c0 c1;rotate_left;rcases Bool.eq_false_or_eq_true (u.toList==[94]) with g8|g8;rw[if_pos (eq_of_beq g8)] at hX;have c2:=HKV.out.cell 2;have hl4:=HKV.out.lt;have d0:=(HKV.out.alloc (.cells #[.int .i64 a,.int .i64 b,.int .i64 ((c:Int)+1)] 91)).cell 0;have d1:=(HKV.out.alloc (.cells #[.int .i64 a,.int .i64 b,.int .i64 ((c:Int)+1)] 91)).cell 1;have e0:=(HKV.out.alloc (.cells #[.int .i64 a,.int .i64 ((b:Int)+1),.int .i64 0] 91)).cell 0
 by_cases ha0:(0:Int)<a
 by_cases hb0:(0:Int)<b
 rw[if_pos (by omega)] at hX;obtain⟨M,hM,hm⟩:=HM.out (a+1) 0 0 (by omega) (by omega) (by omega);rw[hM] at hX;subst hX;have HMM:=zH hm;clear hM hm HM;have HROW:=zH (HR.out N M);go_wp2_with fail;refine(HMM.out _).mono ?_;rintro e w7 ⟨rfl,hb7⟩;have HBZ:Hid (zB w w7):=(zL HB4.out).trans (hb7.mono (zL HB4.out).size);clear hb7 c0 c1 c2 d0 d1 e0;rotate_left;rw[if_pos (by omega)] at hX;obtain⟨M,hM,hm⟩:=HM.out (a+1) 0 0 (by omega) (by omega) (by omega);rw[hM] at hX;subst hX;have HMM:=zH hm;clear hM hm HM;have HROW:=zH (HR.out N M);go_wp2_with fail;refine(HMM.out _).mono ?_;rintro e w7 ⟨rfl,hb7⟩;have HBZ:Hid (zB w w7):=(zL HB4.out).trans (hb7.mono (zL HB4.out).size);clear hb7 c0 c1 c2 d0 d1 e0;rotate_left;rw[if_neg (by omega)] at hX
 by_cases hb0:(0:Int)<b
 rw[if_pos (by omega)] at hX;obtain⟨M,hM,hm⟩:=HM.out a (b+1) 0 (by omega) (by omega) (by omega);rw[hM] at hX;subst hX;have HMM:=zH hm;clear hM hm HM;have HROW:=zH (HR.out N M);go_wp2_with fail;refine(HMM.out _).mono ?_;rintro e w7 ⟨rfl,hb7⟩;have HBZ:Hid (zB w w7):=(zL HB4.out).trans (hb7.mono (zL HB4.out).size);clear hb7 c0 c1 c2 d0 d1 e0;rotate_left;rw[if_neg (by omega)] at hX;obtain⟨M,hM,hm⟩:=HM.out a b (c+1) (by omega) (by omega) (by omega);rw[hM] at hX;subst hX;have HMM:=zH hm;clear hM hm HM;have HROW:=zH (HR.out N M);go_wp2_with fail;refine(HMM.out _).mono ?_;rintro e w7 ⟨rfl,hb7⟩;have HBZ:Hid (zB w w7):=(zL HB4.out).trans (hb7.mono (zL HB4.out).size);clear hb7 c0 c1 c2 d0 d1 e0;rotate_left
 ·rw[if_neg (ne_of_beq_false g8),if_neg (ne_of_beq_false g7)] at hX;subst hX;go_wp2_with fail;refine bodyPost_ret (v:=.tuple #[.slice none 0 0,.int .i64 3]) (by simp[results,Tryz.results115,go_sem]) rfl ?_;exact⟨[],none,0,3,rfl,za9 _,fun g hg=>by simp[Value.ownBlock] at hg,HB4.out,rfl,rfl⟩
 all_goals
  clear HR HKV;go_wp2_with fail;refine(HROW.out _).mono ?_;rintro e w5 ⟨x,y,rfl,q1,q2,q3⟩;have Q:=zH (zqb HBZ.out q1 q2 q3);clear q1 q2 q3;go_wp2;exact bodyPost_ret (by simp[results,Tryz.results115,go_sem]) rfl Q.out
theorem zls(s:ByteArray)(w:World)(hs:s.size<=100000)(hw:Lb w):zC 115 #[.string s] w (zkD w (zdB s)):=by
 unfold zdB
 by_cases h1:s.toList=[97,110,121]
 ·rw[if_pos h1];exact zkJ s w h1
 rw[if_neg h1]
 by_cases h2:s.toList=[110,111,110,101]
 ·rw[if_pos h2];exact zkY s w h2
 rw[if_neg h2];have q1:(s.toList==[97,110,121])=false:=by rw[beq_eq_false_iff_ne];exact h1
 have q2:(s.toList==[110,111,110,101])=false:=by rw[beq_eq_false_iff_ne];exact h2
 cases hv:zbp (zcd s) with
 |error k=>exact znz s w hs hw q1 q2 k hv
 |ok ns =>obtain⟨hl,hn⟩:=zcJ hv;obtain⟨a,b,c,rfl⟩:=zq5 hl;exact zkP s w hs hw q1 q2 a b c (hn a (by simp)) (hn b (by simp)) (hn c (by simp)) hv
end
end Go.Proofs.YtiihalknffbjpaaGreatDoor
