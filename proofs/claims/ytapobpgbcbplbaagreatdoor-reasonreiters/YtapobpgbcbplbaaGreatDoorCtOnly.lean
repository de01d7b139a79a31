/- Only. -/
import Derived.Test.YtapobpgbcbplbaaGreatDoorCtOfS
set_option maxHeartbeats 4000000
set_option maxRecDepth 100000
namespace Go.Proofs.YtapobpgbcbplbaaGreatDoor
section
open Go.RowKit Go.Deep Sv
section
variable {w W:World} {b5:Nat} {n:Int} {cv fv iv:Value} {P:List (Int × List Int)} {its:List It}
def zcY(w W:World)(b5:Nat)(n:Int)(cv fv:Value)(P:List (Int × List Int))(iv:Value)(its:List It)(f:Int)(c:List Int)(e:Ending)(w':World):Prop :=
 e=.returned (.tuple #[])/\∃cv' fv',OS w w' b5 n cv' fv' (P++[(f,c)]) iv its/\Fr b5 cv fv W w'/\Loc W cv cv'/\Loc W fv fv'
theorem za3(h:OS w W b5 n cv fv P iv its)(hP:P.length<=90000)(f:Int)(a:Option Addr)(c:List Int)(cap:Nat)(hc1:c.length<=cap)(hc2:cap<=9223372036854775807)(hi:qp 0 W a c)(hN:0<c.length->∀g,(Value.slice a c.length cap).ownBlock=some g->some g≠fv.ownBlock)(hpa:PlA a) :
  zC 29 #[.int .i64 f,.slice a c.length cap,.pointer (some ⟨b5,0,none⟩)] W (zcY w W b5 n cv fv P iv its f c) :=
 (zjw b5 n W cv fv _ _ f a c cap h.r5 h.rs hc1 hc2 hi hN hpa (by simp;omega) (by simp;omega)).mono fun _ _ ⟨he,cv',fv',h1,h2,h3,h4,h5⟩=>⟨he,cv',fv',h.add h3 h1 h2,h3,h4,h5⟩
theorem zbA(h:OS w W b5 n cv fv P iv its)(hP:P.length<=90000)(f x y:Int) :
  zC 29 #[.int .i64 f,.slice (some ⟨W.heap.size,0,none⟩) 2 2,.pointer (some ⟨b5,0,none⟩)] (W.alloc (.cells #[.int .i64 x,.int .i64 y] 3)) (zcY w (W.alloc (.cells #[.int .i64 x,.int .i64 y] 3)) b5 n cv fv P iv its f [x,y]):=by
 have hbn:=zf W (.cells #[.int .i64 x,.int .i64 y] 3);have hB:=Blk.new W 3 #[.int .i64 x,.int .i64 y];refine za3 (h.new hbn) hP f (some ⟨W.heap.size,0,none⟩) [x,y] 2 zN (by omega) (fun i hi=>⟨_,rfl,hB.lt,Or.inr ⟨_,_,hB⟩,?_⟩) (fun _ g hg e=>?_) (fun ad e=>by cases e;rfl)
 ·rw[yo,Nat.zero_add,hB.cell i]
  match i,hi with
  |0,_=>rfl
  |1,_=>rfl
 ·simp[Value.ownBlock] at hg;have:=(h.rs.frow.lt g e.symm).2;omega
end
theorem RS.set{B b i:Nat}{W:World}{cv fv v:Value}{K:List (List Int)}{F:List Int}{cs:Array Value}(h:RS B W cv fv K F)(hb:Blk W b 26 cs)(hlt:b<B):RS B (W.setCell ⟨b,i,none⟩ v) cv fv K F:=by
 obtain⟨c,h1,h2,h3⟩:=h.crow;exact⟨⟨c,yA h1 hlt,h2.kp (Kp.set (Nat.zero_le _) hb (by decide)),h3⟩,yA h.frow hlt⟩
theorem RS.base{B B':Nat}{W:World}{cv fv:Value}{K:List (List Int)}{F:List Int}(h:RS B W cv fv K F)(hlt:B'<=B):RS B' W cv fv K F:=by
 obtain⟨c,h1,h2,h3⟩:=h.crow;exact⟨⟨c,yu h1 hlt,h2,h3⟩,yu h.frow hlt⟩
def zkZ(w:World)(n:Int)(P:List (Int × List Int))(e:Ending)(w':World):Prop :=
 (200<P.length/\e=.returned (.tuple #[.agg #[.int .i64 0,.slice none 0 0,.slice none 0 0],.iface 64 (.int .i64 4)])/\zB w w') \/
 (P.length<=200/\∃cv fv,e=.returned (.tuple #[.agg #[.int .i64 n,cv,fv],.nilIface])/\RS w.heap.size w' cv fv (P.map Prod.snd) (P.map Prod.fst)/\zB w w')
theorem KQ{its:List It}(hl:its.length<=24)(nm:ByteArray)(rng:List zh):(qS its nm rng).length<=24/\∀x∈qS its nm rng,x<=24 :=
 ⟨Nat.le_trans (XW _ _ _) hl,fun x hx=>by have:=zaH its nm rng x hx;omega⟩
theorem Q9(l:List Nat):(yT l).length=l.length:=by simp[yT]
theorem zcA(bk:Nat)(ls:List Ln)(its:List It)(w:World)(h:ya w bk ls its)(hl:its.length<=24)(hll:ls.length<=120)(hnm:∀x∈ls,x.name.size<=100000/\x.other.size<=100000) :
  zC 11 #[.pointer (some ⟨bk,0,none⟩)] w (zkZ w (its.length:Int) (ofL its ls)):=by
 have HFIN:Hid (ofL its ls=prF its its.length++lnL its ls ls.length):=rfl;generalize ofL its ls=PF at *;have HC:=zH h;have hbx:zB w (w.alloc (.cells #[.int .i64 0,.slice none 0 0,.slice none 0 0] 26)):=(Below.refl _ w).alloc zN _;have k2:=Blk.new w 26 #[.int .i64 0,.slice none 0 0,.slice none 0 0];have HIT:=zH (zm4 bk ls its _ (h.below hbx zN) (by omega));clear h;go_enter Tryz.func11,Tryz.ntmps11;go_upto_region 1 with fail;generalize w.alloc (.cells #[.int .i64 0,.slice none 0 0,.slice none 0 0] 26)=W0 at *;go_wp2_with fail;refine HIT.out.mono ?_;rintro e w1 ⟨iv,rfl,hrow,hb1⟩;have hs0:=hbx.size;have hs1:=hb1.size;have h2lt:=k2.lt;have hos:OS w (w1.alloc (.cells #[.int .i64 its.length,.slice none 0 0,.slice none 0 0] 26)) w1.heap.size (its.length:Int) (.slice none 0 0) (.slice none 0 0) (prF its 0) iv its :=
  ⟨((k2.below hb1 h2lt).alloc _),Blk.new _ _ _,RS.nil _ _,(hbx.trans (hb1.mono hs0)).alloc (by omega) _,by omega,yu (zS hrow (zf _ _)) hs0⟩
 have HOS:=zH hos;obtain⟨ia,ic,rfl,-⟩:=(zD hrow).form;clear hos hrow hb1 HIT hbx k2 h2lt hs0;go_upto_region 4 with fail;generalize w1.alloc (.cells #[.int .i64 its.length,.slice none 0 0,.slice none 0 0] 26)=W1 at *;generalize w1.heap.size=b5 at *;clear hs1;go_wp2_with fail;go_loopw [24] (fun kV wr=>∃(k:Nat) (cv fv:Value),k<=its.length/\kV=.int .i64 k/\OS w wr b5 (its.length:Int) cv fv (prF its k) (.slice ia its.length ic) its) (fun kV _=>its.length-(intOf kV).toNat)
 case atStart=>exact⟨0,_,_,Nat.zero_le _,rfl,HOS.out⟩
 case round =>
  obtain⟨k,cv,fv,hkl,rfl,hos⟩:=hrel
  by_cases hlt:k<its.length
  ·obtain⟨g,cap',e,hg,c0,c1,c2,c3⟩:=(show yJ wr _ its from zD hos.its).at k hlt;simp at e;obtain⟨rfl,rfl⟩:=e;obtain⟨X,hXe⟩:∃X,its.getD k default=X:=⟨_,rfl⟩;rw[hXe] at c0 c1 c2 c3;have HXE:=zH hXe;clear hXe;have hii0:(0:Int)<=(k:Int):=by omega
   have hii1:(k:Int)<(its.length:Int):=by omega
   have hb2:=zf wr (.cells #[.string X.name,.int .i64 X.a,.int .i64 X.b,.int .i64 X.c] 92);have kx:=Blk.new wr 92 #[.string X.name,.int .i64 X.a,.int .i64 X.b,.int .i64 X.c];have hos1:OS w (wr.alloc (.cells #[.string X.name,.int .i64 X.a,.int .i64 X.b,.int .i64 X.c] 92)) b5 (its.length:Int) cv fv (prF its k++prI its k 0) (.slice (some ⟨g,0,none⟩) its.length ic) its:=by
    rw[show prI its k 0=[] from rfl,List.append_nil];exact hos.new hb2
   have HOS1:=zH hos1;have HX:=zH kx;clear hos hos1 hb2 kx HOS;go_upto_region 7 with fail;generalize wr.alloc (.cells #[.string X.name,.int .i64 X.a,.int .i64 X.b,.int .i64 X.c] 92)=W2 at *;generalize wr.heap.size=bx at *;clear c0 c1 c2 c3 hg;go_wp2_with fail;go_loopw [30] (fun iV wr=>∃(i:Nat) (cv fv:Value),i<=k/\iV=.int .i64 i/\OS w wr b5 (its.length:Int) cv fv (prF its k++prI its k i) (.slice (some ⟨g,0,none⟩) its.length ic) its/\Blk wr bx 92 #[.string X.name,.int .i64 X.a,.int .i64 X.b,.int .i64 X.c]) (fun iV _=>k-(intOf iV).toNat)
   case atStart=>exact⟨0,_,_,Nat.zero_le _,rfl,HOS1.out,HX.out⟩
   case round =>
    clear HOS1 HX W2;obtain⟨i,cv,fv,hik,rfl,hos,hX⟩:=hrel
    by_cases hlt2:i<k
    ·obtain⟨g',cap',e,hg,c0,c1,c2,c3⟩:=(show yJ wr _ its from zD hos.its).at i (by omega);simp at e;obtain⟨rfl,rfl⟩:=e;have hjj0:(0:Int)<=(i:Int):=by omega
     have hjj1:(i:Int)<(its.length:Int):=by omega
     have hjj2:(i:Int)<(k:Int):=by omega
     have x0:_=some (Value.string X.name):=hX.cell 0;have HSU:=zH (zd2 its k i);have HP0:Hid (pr0 its k i=if (its.getD i default).name=X.name then [(-1,[qj (i:Int),qj (k:Int)])] else []):=by show _=_;unfold pr0;rw[HXE.out]
     obtain⟨Y,hYe⟩:∃Y,(its.getD i default).name=Y:=⟨_,rfl⟩;rw[hYe] at c0 HP0;have HOS:=zH hos;have HX:=zH hX;have hlen:(prF its k++prI its k i).length<=90000:=by have:=zaU its k (by omega);have:=zam its k i;rw[List.length_append];omega
     clear hos hX c1 c2 c3 hYe hg;go_upto_region 10 with fail
     by_cases heq:Y=X.name
     ·have HPE:Hid (prF its k++prI its k (i+1)=(prF its k++prI its k i)++[(-1,[qj (i:Int),qj (k:Int)])]):=by show _=_;rw[HSU.out,HP0.out,if_pos heq,List.append_assoc]
      clear HP0 HSU;go_big_region;have hbd:zB wr wr.drew:=zF.drew;have HOSD:=zH (HOS.out.new hbd);have HXD:=zH (HX.out.below hbd HX.out.lt);clear hbd HOS HX x0 c0 heq;generalize wr.drew=W3 at *;go_wp2_with fail;refine(Y2 (i:Int) (by omega) (by omega) _).mono ?_;rintro e w' ⟨rfl,rfl⟩;go_wp2_with fail;refine(Y2 (k:Int) (by omega) (by omega) _).mono ?_;rintro e w' ⟨rfl,rfl⟩;go_wp2_with fail;refine(zbA HOSD.out hlen (-1) (qj (i:Int)) (qj (k:Int))).mono ?_;rintro e w4 ⟨rfl,cv',fv',ho,hf,-,-⟩;have HO4:Hid (OS w w4 b5 (its.length:Int) cv' fv' (prF its k++prI its k (i+1)) (.slice (some ⟨g,0,none⟩) its.length ic) its):=by show OS _ _ _ _ _ _ _ _ _;rw[HPE.out];exact ho
      have HX4:=zH ((HOSD.out.new (zf _ _)).keep hf (HXD.out.alloc _) (by decide) (by decide) (by decide));clear ho hf HOSD HXD HPE;go_wp2;go_roundw
      case rel=>exact⟨i+1,cv',fv',by omega,by go_num,HO4.out,HX4.out⟩
      case measure=>simp[intOf];omega
     ·have HPE:Hid (prI its k (i+1)=prI its k i):=by show _=_;rw[HSU.out,HP0.out,if_neg heq,List.append_nil]
      clear HP0 HSU;have hbq:(Y.toList==X.name.toList)=false:=by rw[beq_eq_false_iff_ne];exact fun h=>heq (QL h)
      go_big_region;have hbd:zB wr wr.drew:=zF.drew;have HO4:Hid (OS w wr.drew b5 (its.length:Int) cv fv (prF its k++prI its k (i+1)) (.slice (some ⟨g,0,none⟩) its.length ic) its):=by show OS _ _ _ _ _ _ _ _ _;rw[HPE.out];exact HOS.out.new hbd
      have HX4:=zH (HX.out.below hbd HX.out.lt);clear hbd HOS HX x0 c0;generalize wr.drew=W3 at *;go_wp2;go_roundw
      case rel=>exact⟨i+1,cv,fv,by omega,by go_num,HO4.out,HX4.out⟩
      case measure=>simp[intOf];omega
    ·obtain rfl:i=k:=by omega
     have HO4:Hid (OS w wr b5 (its.length:Int) cv fv (prF its (i+1)) (.slice (some ⟨g,0,none⟩) its.length ic) its):=by show OS _ _ _ _ _ _ _ _ _;rw[zdK];exact hos
     clear hos hX;go_wp2;go_roundw
     case rel=>exact⟨i+1,cv,fv,by omega,by go_num,HO4.out⟩
     case measure=>simp[intOf];omega
  ·obtain rfl:k=its.length:=by omega
   have HO2:=zH hos;obtain⟨lv,iv0,bm,q1,⟨vs,q2,q2'⟩,-,-⟩:=HC.out;have HLN:=zH (zom bk bm lv iv0 ls vs wr (q1.below hos.B q1.lt) (q2.below hos.B zN) (q2'.below hos.B zN) (by omega));have HRG:=zH q2;clear hos HOS W1 q1 q2 q2' lv iv0 bm;go_wp2_with fail;refine HLN.out.mono ?_;rintro e w2 ⟨lv,rfl,hlr,hb2⟩;have hos2:=HO2.out.new hb2;have HO3:Hid (OS w w2 b5 (its.length:Int) cv fv (prF its its.length++lnL its ls 0) (.slice ia its.length ic) its):=by show OS _ _ _ _ _ _ _ _ _;rw[show lnL its ls 0=[] from rfl,List.append_nil];exact hos2
   have HLR:=zH (yu hlr HO2.out.B.size);obtain⟨la,lc,rfl,-⟩:=(zD hlr).form;clear hlr hb2 hos2 HLN HO2;go_wp2_with fail;go_loopw [53] (fun nV wr=>∃(n:Nat) (cv fv:Value),n<=ls.length/\nV=.int .i64 n/\OS w wr b5 (its.length:Int) cv fv (prF its its.length++lnL its ls n) (.slice ia its.length ic) its/\wr.ownsRow w.heap.size 38 7 (.slice la ls.length lc) ls.length (qq ls vs)) (fun nV _=>ls.length-(intOf nV).toNat)
   case atStart=>exact⟨0,_,_,Nat.zero_le _,rfl,HO3.out,HLR.out⟩
   case round =>
    clear HO3 HLR hkl hlt;obtain⟨n,cv,fv,hnl,rfl,hos,hlr⟩:=hrel
    by_cases hlt:n<ls.length
    ·obtain⟨g,cap',rv,e,hg,hsp,hrg,c0,c1,c2,c3,c4,c5,c6⟩:=xj.at ⟨vs,HRG.out.below hos.B zN,zD hlr⟩ n hlt;simp at e;obtain⟨rfl,rfl⟩:=e;have hnn:=hnm (ls.getD n default) (by rw[List.getD_eq_getElem?_getD,List.getElem?_eq_getElem hlt];exact List.getElem_mem hlt);have HSU:=zH (Xh its ls n);have hlen:(prF its its.length++lnL its ls n).length<=80000:=by have:=zaU its its.length hl;have:=zer its ls hl n;rw[List.length_append];omega
     obtain⟨x,hxe⟩:∃x,ls.getD n default=x:=⟨_,rfl⟩;rw[hxe] at hsp hrg c0 c1 c2 c3 c4 c5 hnn HSU;obtain⟨hn1,hn2⟩:=hnn;obtain⟨ra,rc,rfl⟩:=hsp.form;have hii0:(0:Int)<=(n:Int):=by omega
     have hii1:(n:Int)<(ls.length:Int):=by omega
     have hb2:=zf wr (.cells #[.int .i64 x.kind,.string x.name,.int .i64 x.a,.int .i64 x.b,.int .i64 x.c,.string x.other,.slice ra x.rng.length rc] 38);have kx:=Blk.new wr 38 #[.int .i64 x.kind,.string x.name,.int .i64 x.a,.int .i64 x.b,.int .i64 x.c,.string x.other,.slice ra x.rng.length rc];have HOS1:=zH (hos.new hb2);have HSP:=zH (hsp.below hb2 zN);have HRG1:=zH hrg;have HLR:=zH (zS hlr hb2);clear hxe hsp hrg hos hlr hb2 hnl;go_upto_region 17 with fail;generalize wr.alloc (.cells #[.int .i64 x.kind,.string x.name,.int .i64 x.a,.int .i64 x.b,.int .i64 x.c,.string x.other,.slice ra x.rng.length rc] 38)=W2 at *;generalize wr.heap.size=bx at *;clear c0 c1 c2 c3 c4 c5 c6 hg;have d0:_=some (Value.int .i64 x.kind):=kx.cell 0;have d1:_=some (Value.string x.name):=kx.cell 1;have d2:_=some (Value.int .i64 x.a):=kx.cell 2;have d3:_=some (Value.int .i64 x.b):=kx.cell 3;have d4:_=some (Value.int .i64 x.c):=kx.cell 4;have d5:_=some (Value.string x.other):=kx.cell 5;have d6:_=some (Value.slice ra x.rng.length rc):=kx.cell 6;have HX:=zH kx;have HCAT:=zH (HC.out.below HOS1.out.B zN);have hO1:=HOS1.out.B.size;clear kx
     by_cases hk4:x.kind=4
     ·have HLC:Hid (qY its n x=[((n:Int),yT (qS its x.name x.rng))]):=by show _=_;unfold qY yT;rw[if_pos hk4]
      have hab:=KQ hl x.name x.rng;have HAM:=zH (zaN bk ls its x.name x.rng HRG1.out _ W2 HCAT.out (by omega) hn1 HSP.out);generalize qS its x.name x.rng=am at *;go_wp2_with fail;refine HAM.out.mono ?_;rintro e w3 ⟨av,rfl,har,hb3⟩;have HTH:=zH (zdp am av w3 (by omega) (fun x hx=>by have:=hab.2 x hx;omega) (zD har));obtain⟨aa,ac,rfl,-⟩:=(zD har).form;clear HAM d0 d1 d2 d3 d4 d5 d6 har;go_wp2_with fail;refine HTH.out.mono ?_;rintro e w4 ⟨tv,rfl,htr,-,hb4⟩;have hos3:=HOS1.out.new hb3;have hos4:=hos3.new hb4;obtain⟨ta,tc,rfl,t1,t2,t3,t5⟩:=Z3 (l:=yT am) (by rw[Q9];exact htr);have HADD:=zH (za3 hos4 (Nat.le_trans hlen (by omega)) (n:Int) ta (yT am) tc t1 t2 t3 (fun _ g hg=>hos3.fresh ((htr.lt g hg).1)) t5);have HO4:=zH hos4;have HLR4:=zH (zS (zS HLR.out hb3) hb4);clear HTH hos3 hos4 htr hb3 hb4 t1 t2 t3;go_wp2_with fail;refine HADD.out.mono ?_;rintro e w5 ⟨rfl,cv',fv',ho,hf,-,-⟩;have HO5:Hid (OS w w5 b5 (its.length:Int) cv' fv' (prF its its.length++lnL its ls (n+1)) (.slice ia its.length ic) its):=by show OS _ _ _ _ _ _ _ _ _;rw[HSU.out,HLC.out,<-List.append_assoc];exact ho
      have HLR5:=zH (HO4.out.keepRow hf HLR4.out (by decide) (by decide) (by decide));clear HADD ho hf HO4 HLR4;go_wp2;go_roundw
      case rel=>exact⟨n+1,cv',fv',hlt,by go_num,HO5.out,HLR5.out⟩
      case measure=>simp[intOf];omega
     ·by_cases hk2:x.kind=2
      ·have HLC:Hid (qY its n x=[((n:Int),qj (qQ its ⟨x.name,x.a,x.b,x.c⟩) :: yT (qS its x.other x.rng))]):=by show _=_;unfold qY yT;rw[if_neg hk4,if_pos hk2];rfl
       have hab:=KQ hl x.other x.rng;have hnb:=zeQ its ⟨x.name,x.a,x.b,x.c⟩ hl;have HNU:=zH (Jj bk ls its x.name x.a x.b x.c W2 HCAT.out (by omega));have HAM:=zH (fun w3 hb3=>zaN bk ls its x.other x.rng HRG1.out (.slice ra x.rng.length rc) w3 (HCAT.out.below (B:=W2.heap.size) hb3 zN) (by omega) hn2 (HSP.out.below hb3 zN));generalize qS its x.other x.rng=am at *;generalize qQ its ⟨x.name,x.a,x.b,x.c⟩=nu at *;go_wp2_with fail;refine HNU.out.mono ?_;rintro e w3 ⟨rfl,hb3⟩;clear HNU d0 d1 d2 d3 d4 d5 d6;go_wp2_with fail;refine(Y2 nu (by omega) (by omega) _).mono ?_;rintro e w' ⟨rfl,hw'⟩;rw[hw'];clear hw';clear w';have kx3:=HX.out.below hb3 HX.out.lt;have d5:_=some (Value.string x.other):=kx3.cell 5;have d6:_=some (Value.slice ra x.rng.length rc):=kx3.cell 6;have HA3:=zH (HAM.out w3 hb3);have HO3:=zH (HOS1.out.new hb3);have HLR3:=zH (zS HLR.out hb3);generalize qj nu=own at *;clear kx3 HAM hb3 HOS1 HLR HX HCAT HSP HRG1 hO1;go_wp2_with fail;refine HA3.out.mono ?_;rintro e w4 ⟨av,rfl,har,hb4⟩;have HTH:=zH (zdp am av w4 (by omega) (fun x hx=>by have:=hab.2 x hx;omega) (zD har));obtain⟨aa,ac,rfl,-⟩:=(zD har).form;have HO4:=zH (HO3.out.new hb4);have HLR4:=zH (zS HLR3.out hb4);clear d5 d6 har HA3 HO3 HLR3 hb4;go_wp2_with fail;refine HTH.out.mono ?_;rintro e w5 ⟨tv,rfl,htr,ht0,hb5⟩;have hvb:=Blk.new w5 3 #[.int .i64 own];have hbn:=zf w5 (.cells #[.int .i64 own] 3);have HINS:=zH (zjT (yT am) own tv w5.heap.size w4.heap.size (w5.alloc (.cells #[.int .i64 own] 3)) (Nat.le_trans hb5.size hbn.size) (by rw[Q9];exact zS htr hbn) (fun e=>ht0 (by cases am with|nil=>rfl|cons _ _=>cases e)) hvb (fun e=>by have:=(htr.lt _ e).2;omega) (by rw[Q9];omega));have HB5:=zH (zT hb5 hbn);obtain⟨ta,tc,rfl,-⟩:=(zD htr).form;rw[Q9] at HINS;clear HTH htr ht0 hb5 hvb hbn;go_wp2_with fail;refine HINS.out.mono ?_;rintro e w6 ⟨g6,cap6,rfl,t1,t2,t3,t4,hb6⟩;have hb7:=HB5.out.trans hb6;have HO6:=zH (HO4.out.new hb7);have HLR6:=zH (zS HLR4.out hb7);have HADD:=zH (za3 HO6.out (Nat.le_trans hlen (by omega)) (n:Int) (some ⟨g6,0,none⟩) (own :: yT am) cap6 (by simp[Q9];exact t1) t2 t3 (fun _ g hg=>by simp[Value.ownBlock] at hg;subst hg;exact HO4.out.fresh t4) (fun ad e=>by cases e;rfl));rw[List.length_cons,Q9] at HADD;clear HINS hb6 hb7 HB5 HO4 HLR4 t1 t2 t3 t4;go_wp2_with fail;refine HADD.out.mono ?_;rintro e w7 ⟨rfl,cv',fv',ho,hf,-,-⟩;have HO5:Hid (OS w w7 b5 (its.length:Int) cv' fv' (prF its its.length++lnL its ls (n+1)) (.slice ia its.length ic) its):=by show OS _ _ _ _ _ _ _ _ _;rw[HSU.out,HLC.out,<-List.append_assoc];exact ho
       have HLR5:=zH (HO6.out.keepRow hf HLR6.out (by decide) (by decide) (by decide));clear HADD ho hf HO6 HLR6;go_wp2;go_roundw
       case rel=>exact⟨n+1,cv',fv',hlt,by go_num,HO5.out,HLR5.out⟩
       case measure=>simp[intOf];omega
      ·by_cases hk3:x.kind=3
       ·have HLC:Hid (qY its n x=(qS its x.other x.rng).map fun (k:Nat)=>((n:Int),[qj (qQ its ⟨x.name,x.a,x.b,x.c⟩),qj (k:Int)])):=by show _=_;unfold qY;rw[if_neg hk4,if_neg hk2,if_pos hk3];rfl
        have hab:=KQ hl x.other x.rng;have hnb:=zeQ its ⟨x.name,x.a,x.b,x.c⟩ hl;have HNU:=zH (Jj bk ls its x.name x.a x.b x.c W2 HCAT.out (by omega));have HAM:=zH (fun w3 hb3=>zaN bk ls its x.other x.rng HRG1.out (.slice ra x.rng.length rc) w3 (HCAT.out.below (B:=W2.heap.size) hb3 zN) (by omega) hn2 (HSP.out.below hb3 zN));generalize qS its x.other x.rng=am at *;generalize qQ its ⟨x.name,x.a,x.b,x.c⟩=nu at *;go_wp2_with fail;refine HNU.out.mono ?_;rintro e w3 ⟨rfl,hb3⟩;clear HNU d0 d1 d2 d3 d4 d5 d6;go_wp2_with fail;refine(Y2 nu (by omega) (by omega) _).mono ?_;rintro e w' ⟨rfl,hw'⟩;rw[hw'];clear hw';clear w';have kx3:=HX.out.below hb3 HX.out.lt;have d5:_=some (Value.string x.other):=kx3.cell 5;have d6:_=some (Value.slice ra x.rng.length rc):=kx3.cell 6;have HA3:=zH (HAM.out w3 hb3);have HO3:=zH (HOS1.out.new hb3);have HLR3:=zH (zS HLR.out hb3);generalize qj nu=own at *;clear kx3 HAM hb3 HOS1 HLR HX HCAT HSP HRG1 hO1;go_wp2_with fail;refine HA3.out.mono ?_;rintro e w4 ⟨av,rfl,har,hb4⟩;have HFN:Hid (∀g,av.ownBlock=some g->some g≠fv.ownBlock):=fun g hg=>HO3.out.fresh (har.lt g hg).1;have HAR:=zH har;have HO4:Hid (OS w w4 b5 (its.length:Int) cv fv ((prF its its.length++lnL its ls n)++((am.take 0).map fun (k:Nat)=>((n:Int),[own,qj (k:Int)]))) (.slice ia its.length ic) its):=by show OS _ _ _ _ _ _ _ _ _;rw[List.take_zero,List.map_nil,List.append_nil];exact HO3.out.new hb4
        have HLR4:=zH (zS HLR3.out hb4);obtain⟨aa,ac,rfl,-⟩:=(zD har).form;clear d5 d6 har HA3 HO3 HLR3 hb4;go_wp2_with fail;go_loopw [110] (fun jV wr=>∃(j:Nat) (cv fv:Value),j<=am.length/\jV=.int .i64 j/\OS w wr b5 (its.length:Int) cv fv ((prF its its.length++lnL its ls n)++((am.take j).map fun (k:Nat)=>((n:Int),[own,qj (k:Int)]))) (.slice ia its.length ic) its/\wr.ownsRow w.heap.size 38 7 (.slice (some ⟨g,0,none⟩) ls.length lc) ls.length (qq ls vs)/\wr.ownsRow w3.heap.size 3 1 (.slice aa am.length ac) am.length (zn (am.map fun (k:Nat)=>(k:Int)))/\(∀g,(Value.slice aa am.length ac).ownBlock=some g->some g≠fv.ownBlock)) (fun jV _=>am.length-(intOf jV).toNat)
        case atStart=>exact⟨0,_,_,Nat.zero_le _,rfl,HO4.out,HLR4.out,HAR.out,HFN.out⟩
        case round =>
         clear HFN HAR HO4 HLR4;obtain⟨j,cv,fv,hjl,rfl,hos,hlr,har,hfn⟩:=hrel
         by_cases hjt:j<am.length
         ·obtain⟨ga,cap',e,hga,hca⟩:=(zD har).cells (by omega);simp at e;obtain⟨rfl,rfl⟩:=e;have hcj:wr.cell? ⟨ga,j,none⟩=some (.int .i64 ((am.getD j 0:Nat):Int)):=hca j _ (by rw[xU _ _ (by simpa using hjt)];simp[List.getD_eq_getElem?_getD,hjt]);have hxb:am.getD j 0<=24:=hab.2 _ (by rw[List.getD_eq_getElem?_getD,List.getElem?_eq_getElem hjt];exact List.getElem_mem hjt);have hlen2:((prF its its.length++lnL its ls n)++((am.take j).map fun (k:Nat)=>((n:Int),[own,qj (k:Int)]))).length<=90000:=by have h1:=List.length_take_le j am;have h2:=hab.1;rw[List.length_append,List.length_map];omega
          have HTK:Hid ((am.take (j+1)).map (fun (k:Nat)=>((n:Int),[own,qj (k:Int)]))=(am.take j).map (fun (k:Nat)=>((n:Int),[own,qj (k:Int)]))++[((n:Int),[own,qj ((am.getD j 0:Nat):Int)])]):=by
           show _=_;rw[List.take_add_one,List.getElem?_eq_getElem hjt,List.map_append,List.getD_eq_getElem?_getD,List.getElem?_eq_getElem hjt];rfl
          generalize am.getD j 0=kk at *;have hjj0:(0:Int)<=(j:Int):=by omega
          have hjj1:(j:Int)<(am.length:Int):=by omega
          have HOJ:=zH hos;have HLJ:=zH hlr;have HAJ:=zH har;have HFJ:=zH hfn;have hgl:=hga;clear hos hlr har hfn hca;go_wp2_with fail;refine(Y2 (kk:Int) (by omega) (by omega) _).mono ?_;rintro e w' ⟨rfl,hw'⟩;rw[hw'];clear hw';clear w';clear hcj;generalize qj (kk:Int)=nk at *;go_wp2_with fail;refine(zbA HOJ.out hlen2 (n:Int) own nk).mono ?_;rintro e w5 ⟨rfl,cv',fv',ho,hf,-,hlf⟩;have HO5:Hid (OS w w5 b5 (its.length:Int) cv' fv' ((prF its its.length++lnL its ls n)++((am.take (j+1)).map fun (k:Nat)=>((n:Int),[own,qj (k:Int)]))) (.slice ia its.length ic) its):=by show OS _ _ _ _ _ _ _ _ _;rw[HTK.out,<-List.append_assoc];exact ho
          have hosa:=HOJ.out.new (zf wr (.cells #[.int .i64 own,.int .i64 nk] 3));have HLR5:=zH (hosa.keepRow hf (zS HLJ.out (zf _ _)) (by decide) (by decide) (by decide));have HAR5:=zH (hosa.keepInts hf (zS HAJ.out (zf _ _)) HFJ.out);have HFN5:Hid (∀g,(Value.slice (some ⟨ga,0,none⟩) am.length ac).ownBlock=some g->some g≠fv'.ownBlock):=fun g hg=>by
           rcases hlf with e|⟨g',e,hg'⟩
           ·rw[e];exact HFJ.out g hg
           ·rw[e];simp[Value.ownBlock] at hg;simp at hg' ⊢;omega
          clear ho hf hlf hosa HOJ HLJ HAJ HFJ HTK;go_wp2;go_roundw
          case rel=>exact⟨j+1,cv',fv',hjt,by go_num,HO5.out,HLR5.out,HAR5.out,HFN5.out⟩
          case measure=>simp[intOf];omega
         ·obtain rfl:j=am.length:=by omega
          have HO5:Hid (OS w wr b5 (its.length:Int) cv fv (prF its its.length++lnL its ls (n+1)) (.slice ia its.length ic) its):=by
           show OS _ _ _ _ _ _ _ _ _;rw[HSU.out,HLC.out,<-List.append_assoc];rw[List.take_length] at hos;exact hos
          have HLR5:=zH hlr;clear hos hlr har hfn HSU HLC;go_wp2;go_roundw
          case rel=>exact⟨n+1,cv,fv,hlt,by go_num,HO5.out,HLR5.out⟩
          case measure=>simp[intOf];omega
       ·have HLC:Hid (qY its n x=[]):=by show _=_;unfold qY;rw[if_neg hk4,if_neg hk2,if_neg hk3]
        have HO5:Hid (OS w W2 b5 (its.length:Int) cv fv (prF its its.length++lnL its ls (n+1)) (.slice ia its.length ic) its):=by show OS _ _ _ _ _ _ _ _ _;rw[HSU.out,HLC.out,List.append_nil];exact HOS1.out
        clear HSU HLC HX HCAT HSP HRG1 HOS1;go_wp2;go_roundw
        case rel=>exact⟨n+1,cv,fv,hlt,by go_num,HO5.out,HLR.out⟩
        case measure=>simp[intOf];omega
    ·obtain rfl:n=ls.length:=by omega
     have hlenF:(prF its its.length++lnL its ls ls.length).length=PF.length:=by rw[HFIN.out]
     obtain⟨csx,hcx,-⟩:=hos.rs.crow;rw[List.length_map,hlenF] at hcx;obtain⟨ca,cc,rfl,-⟩:=(zD hcx).form;have c0:_=some (Value.int .i64 its.length):=hos.r5.cell 0;have c1:_=some (Value.slice ca PF.length cc):=hos.r5.cell 1;have c2:_=some fv:=hos.r5.cell 2;have d0:_=some (Value.int .i64 0):=hos.r2.cell 0;have d1:_=some (Value.slice none 0 0):=hos.r2.cell 1;have d2:_=some (Value.slice none 0 0):=hos.r2.cell 2;have f0:=hos.r2.frozen 0;have f1:=hos.r2.frozen 1;have f2:=hos.r2.frozen 2;have HO:=zH hos;have hlo:=hos.lo;clear hcx hos hlr hlenF
     by_cases hbig:200<PF.length
     ·have hbi:(200:Int)<(PF.length:Int):=by omega
      have q0:Blk (((wr.setCell ⟨w.heap.size,0,none⟩ (.int .i64 0)).setCell ⟨w.heap.size,1,none⟩ (.slice none 0 0)).setCell ⟨w.heap.size,2,none⟩ (.slice none 0 0)) w.heap.size 26 #[.int .i64 0,.slice none 0 0,.slice none 0 0]:=((HO.out.r2.set (i:=0)).set (i:=1)).set (i:=2);have hB:zB w (((wr.setCell ⟨w.heap.size,0,none⟩ (.int .i64 0)).setCell ⟨w.heap.size,1,none⟩ (.slice none 0 0)).setCell ⟨w.heap.size,2,none⟩ (.slice none 0 0)):=((HO.out.B.setCell (p:=⟨w.heap.size,0,none⟩) zN _).setCell (p:=⟨w.heap.size,1,none⟩) zN _).setCell (p:=⟨w.heap.size,2,none⟩) zN _;have Q0:=zH q0;have HB:=zH hB;clear q0 hB HO;go_wp2;generalize ((wr.setCell ⟨w.heap.size,0,none⟩ (.int .i64 0)).setCell ⟨w.heap.size,1,none⟩ (.slice none 0 0)).setCell ⟨w.heap.size,2,none⟩ (.slice none 0 0)=WG at *;have r0:=Q0.out.cell 0;have r1:=Q0.out.cell 1;have r2:=Q0.out.cell 2;refine bodyPost_ret (v:=.tuple #[.agg #[.int .i64 0,.slice none 0 0,.slice none 0 0],.iface 64 (.int .i64 4)]) (by simp[results,Tryz.f11,go_sem,r0,r1,r2]) rfl ?_;exact .inl ⟨hbig,rfl,HB.out⟩
     ·have hbi:¬(200:Int)<(PF.length:Int):=by omega
      have q0:Blk (((wr.setCell ⟨w.heap.size,0,none⟩ (.int .i64 its.length)).setCell ⟨w.heap.size,1,none⟩ (.slice ca PF.length cc)).setCell ⟨w.heap.size,2,none⟩ fv) w.heap.size 26 #[.int .i64 its.length,.slice ca PF.length cc,fv]:=((HO.out.r2.set (i:=0)).set (i:=1)).set (i:=2);have hB:zB w (((wr.setCell ⟨w.heap.size,0,none⟩ (.int .i64 its.length)).setCell ⟨w.heap.size,1,none⟩ (.slice ca PF.length cc)).setCell ⟨w.heap.size,2,none⟩ fv):=((HO.out.B.setCell (p:=⟨w.heap.size,0,none⟩) zN _).setCell (p:=⟨w.heap.size,1,none⟩) zN _).setCell (p:=⟨w.heap.size,2,none⟩) zN _;have hR:=(((HO.out.rs.set (i:=0) (v:=.int .i64 its.length) HO.out.r2 (by omega)).set (i:=1) (v:=.slice ca PF.length cc) (HO.out.r2.set (i:=0)) (by omega)).set (i:=2) (v:=fv) ((HO.out.r2.set (i:=0)).set (i:=1)) (by omega)).base (B':=w.heap.size) (by omega);rw[<-HFIN.out] at hR;have Q0:=zH q0;have HB:=zH hB;have HR:=zH hR;obtain⟨fa,fc,hfe,-⟩:=(zD HO.out.rs.frow).form;rw[List.length_map,<-HFIN.out] at hfe;subst hfe;clear q0 hB HO hR;go_wp2;generalize ((wr.setCell ⟨w.heap.size,0,none⟩ (.int .i64 its.length)).setCell ⟨w.heap.size,1,none⟩ (.slice ca PF.length cc)).setCell ⟨w.heap.size,2,none⟩ (.slice fa PF.length fc)=WG at *;have r0:=Q0.out.cell 0;have r1:=Q0.out.cell 1;have r2:=Q0.out.cell 2;refine bodyPost_ret (v:=.tuple #[.agg #[.int .i64 its.length,.slice ca PF.length cc,.slice fa PF.length fc],.nilIface]) (by simp[results,Tryz.f11,go_sem,r0,r1,r2]) rfl ?_;exact .inr ⟨by omega,_,_,rfl,HR.out,HB.out⟩
end
section
open Go.RowKit Go.Deep Sv
def xN(w:World)(a:Option Addr)(bs:List Bool):Prop:=∀i,i<bs.length->∃ad:Addr,a=some ad/\ad.block<w.heap.size/\w.cell? (ad.add i)=some (.bool (bs.getD i false))
theorem xN.below{B:Nat}{w w':World}{a:Option Addr}{bs:List Bool}(h:xN w a bs)(hb:Below B w w')(hB:w.heap.size<=B):xN w' a bs:=fun i hi=>by
 obtain⟨ad,h1,h2,h3⟩:=h i hi;exact⟨ad,h1,Nat.lt_of_lt_of_le h2 hb.size,(hb.cell (p:=ad.add i) (by rw[xm];omega)).trans h3⟩
theorem zhw(b3:Nat)(a:Option Addr)(bs:List Bool)(cap:Nat)(n:Int)(w:World)(hc:w.cell? ⟨b3,0,none⟩=some (.slice a bs.length cap))(hb:xN w a bs) :
  zC 110 #[.int .i64 n,.pointer (some ⟨b3,0,none⟩)] w fun e w'=>e=.returned (.bool (yH bs n))/\w'=w:=by
 by_cases h1:n=-1
 ·subst h1;have hT:yH bs (-1)=true:=by simp[yH]
  rw[hT];go_enter Tryz.func110,Tryz.ntmps110;go_wp2;go_ret;exact⟨rfl,rfl⟩
 ·by_cases h0:0<=n
  ·obtain⟨k,rfl⟩:=Int.eq_ofNat_of_zero_le h0
   by_cases hk:k<bs.length
   ·obtain⟨ad,rfl,hlt,hcell⟩:=hb k hk;have hT:yH bs (k:Int)=bs.getD k false:=by simp[yH]
    rw[hT];generalize bs.getD k false=bb at *;have hki:(k:Int)<(bs.length:Int):=by omega
    obtain⟨ab,ao,asp⟩:=ad;clear hb hT;go_enter Tryz.func110,Tryz.ntmps110;go_wp2;go_ret;exact⟨rfl,rfl⟩
   ·have hT:yH bs (k:Int)=false:=by simp[yH,List.getD_eq_getElem?_getD,List.getElem?_eq_none (show bs.length<=k by omega)]
    rw[hT];have hki:¬(k:Int)<(bs.length:Int):=by omega
    clear hb hT;go_enter Tryz.func110,Tryz.ntmps110;go_wp2;go_ret;exact⟨rfl,rfl⟩
  ·have hT:yH bs n=false:=by simp[yH,h1,h0]
   have hq:(n==-1)=false:=by simpa using h1
   rw[hT];clear hb hT;go_enter Tryz.func110,Tryz.ntmps110;go_wp2;go_ret;exact⟨rfl,rfl⟩
theorem zlx(c:List Int)(a:Option Addr)(cap:Nat)(w:World)(hp:PlA a)(hi:qp 0 w a c)(hl:c.length<=100000)(h0:a=none->c=[]) :
  zC 111 #[.slice a c.length cap] w fun e w'=>∃a' cap',e=.returned (.slice a' c.length cap')/\c.length<=cap'/\cap'<=9223372036854775807/\qp 0 w' a' c/\zB w w':=by
 obtain⟨i0,hin,hz0,hz1,hz2⟩:=info_parts Zm;cases a with
 |none =>obtain rfl:=h0 rfl;exact(AnyE.slices_Clone_nil Tryz.clnCl 0 cap w).mono fun e w' ⟨he,hw⟩=>⟨none,0,he,Nat.le_refl _,by omega,(fun i hi=>by simp at hi),by rw[hw];exact Below.refl _ _⟩
 |some ad =>
  obtain⟨b,o,sp⟩:=ad;obtain rfl:sp=none:=hp _ rfl;refine(AnyE.slices_Clone Tryz.clnCl i0 _ 1 8 hin hz0 hz1 hz2 rfl (by decide) Tryz.sizeOf3 b o c.length cap (zn c) w (by rw[xu];omega) (by unfold maxLen;omega) (by omega) (fun j u hu=>?_) (fun u hu=>by obtain⟨y,_,rfl⟩:=List.mem_map.1 hu;rfl)).mono fun e w' ⟨v',he,h1,_,h3⟩=>?_
  ·have hj:j<c.length:=by have:=(List.getElem?_eq_some_iff.1 hu).1;rwa [xu] at this
   rw[xU c j hj] at hu;obtain⟨ad,h1,_,_,h4⟩:=hi j hj;cases h1;rw[<-hu]
   rwa [yo] at h4
  ·obtain⟨a',cap',rfl,h4,h5,h6,_⟩:=Z3 (l:=c) h1;exact⟨a',cap',he,h4,h5,h6,h3⟩
def xA(P:List (Int × List Int))(bs:List Bool)(i:Nat):List (List Int):=qb (P.take i) bs
theorem zn6(P:List (Int × List Int))(bs:List Bool)(i:Nat)(h:i<P.length):xA P bs (i+1)=xA P bs i++(if yH bs (P.getD i default).1 then [(P.getD i default).2] else []):=by
 unfold xA qb;rw[List.take_add_one,List.getElem?_eq_getElem h,List.filter_append,List.map_append,List.getD_eq_getElem?_getD,List.getElem?_eq_getElem h];congr 1;simp only[Option.toList_some,Option.getD_some,List.filter_cons,List.filter_nil];split<;>simp
theorem zd5(P:List (Int × List Int))(bs:List Bool)(i:Nat):(xA P bs i).length<=i:=by
 unfold xA qb;rw[List.length_map];exact Nat.le_trans (List.length_filter_le _ _) (List.length_take_le _ _)
def CO(B:Nat)(W:World)(v:Value)(K:List (List Int)):Prop:=∃cs,W.ownsRow B 202 1 v K.length cs/\zX 0 W cs K
theorem CO.new{B:Nat}{W W':World}{v:Value}{K:List (List Int)}(h:CO B W v K)(hb:zB W W'):CO B W' v K:=by
 obtain⟨cs,h1,h2⟩:=h;exact⟨cs,zS h1 hb,h2.kp (Kp.new hb)⟩
theorem CO.app{B:Nat}{W w7:World}{v v':Value}{K:List (List Int)}{c:List Int}{a:Option Addr}{cap:Nat}{cs:List Value}(hB:B<=W.heap.size)(hrow:W.ownsRow B 202 1 v K.length cs)(hck:zX 0 W cs K)
  (hc1:c.length<=cap) (hc2:cap<=9223372036854775807) (hi:qp 0 W a c)
  (hown:w7.ownsRow B 202 1 v' (K.length+1) (cs++[.slice a c.length cap])) (hg:(W.alloc (.cells #[.slice a c.length cap] 202)).grownBy w7 v.ownBlock):CO B w7 v' (K++[c])/\Below B W w7:=by
 have hbn:=zf W (.cells #[.slice a c.length cap] 202);have hk:Kp 0 (W.alloc (.cells #[.slice a c.length cap] 202)) w7:=Kp.grown (yu (zS hrow hbn) (Nat.zero_le _)) hg (by decide);have hk3:=(Kp.new (B:=0) hbn).trans hk;exact⟨⟨_,by simpa using hown,(hck.kp hk3).snoc hc1 hc2 (hi.kp hk3)⟩,(hbn.mono hB).grown hg (by simp;omega) (fun k hk=>(hrow.lt k hk).1)⟩
theorem RS.at{B:Nat}{W:World}{cv fv:Value}{P:List (Int × List Int)}(h:RS B W cv fv (P.map Prod.snd) (P.map Prod.fst))(i:Nat)(hi:i<P.length) :
  ∃cg cc fg fc a cap,cv=.slice (some ⟨cg,0,none⟩) P.length cc/\fv=.slice (some ⟨fg,0,none⟩) P.length fc/\W.cell? ⟨cg,i,none⟩=some (.slice a (P.getD i default).2.length cap)/\W.cell? ⟨fg,i,none⟩=some (.int .i64 (P.getD i default).1)/\qp 0 W a (P.getD i default).2/\PlA a:=by
 obtain⟨cs,h1,h2,_,h4⟩:=h.crow;have h3:=h.frow;obtain⟨cg,cc,e1,_,hc1⟩:=(zD h1).cells (by rw[List.length_map];omega);obtain⟨fg,fc,e2,_,hc2⟩:=(zD h3).cells (by rw[List.length_map];omega);obtain⟨a,cap,q1,_,_,q4⟩:=h2.2 i (by simpa using hi);have g1:(P.map Prod.snd).getD i []=(P.getD i default).2:=by simp[List.getD_eq_getElem?_getD,hi]
 have g2:(P.map Prod.fst).getD i 0=(P.getD i default).1:=by simp[List.getD_eq_getElem?_getD,hi]
 rw[g1] at q1 q4;refine⟨cg,cc,fg,fc,a,cap,by simpa using e1,by simpa using e2,hc1 i _ q1,hc2 i _ (by rw[xU _ _ (by simpa using hi),g2]),q4,?_⟩;exact h4 _ (List.mem_of_getElem? q1) _ _ _ rfl
end
end Go.Proofs.YtapobpgbcbplbaaGreatDoor
