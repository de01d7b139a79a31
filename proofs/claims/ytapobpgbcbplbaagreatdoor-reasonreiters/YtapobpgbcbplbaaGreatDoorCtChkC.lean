/- check, whole. -/
import Derived.Test.YtapobpgbcbplbaaGreatDoorCtChk
set_option maxHeartbeats 2000000
set_option maxRecDepth 100000
namespace Go.Proofs.YtapobpgbcbplbaaGreatDoor
section
open Go.RowKit Sv
abbrev xD(w:World)(v:Int)(ks:Array Value):Prop:=zR 91 #[.agg ks] w (.int .i64 v)
theorem zJ{W:World}{b:Nat}{t:TypeId}{x0 x1 x2 x3 x4 x5 x6:Value}(h:Blk W b t #[x0,x1,x2,x3,x4,x5,x6]):W.cell? ⟨b,0,none⟩=some x0/\W.cell? ⟨b,1,none⟩=some x1/\W.cell? ⟨b,2,none⟩=some x2/\W.cell? ⟨b,3,none⟩=some x3/\W.cell? ⟨b,4,none⟩=some x4/\W.cell? ⟨b,5,none⟩=some x5/\W.cell? ⟨b,6,none⟩=some x6:=⟨h.cell 0,h.cell 1,h.cell 2,h.cell 3,h.cell 4,h.cell 5,h.cell 6⟩
theorem yM(w:World)(K:Array Value):∃W0,w.alloc (.cells K 38)=W0/\Blk W0 w.heap.size 38 K/\zB w W0:=⟨_,rfl,Blk.new _ _ _,(Below.refl _ w).alloc zN _⟩
theorem zob(k:Int)(n o:ByteArray)(a b c:Int)(ra:Option Addr)(rn rc:Nat)(w:World)(hk:k<1) :
  xD w 1 #[.int .i64 k,.string n,.int .i64 a,.int .i64 b,.int .i64 c,.string o,.slice ra rn rc]:=by
 obtain⟨W0,hW0,k0,hb0⟩:=yM w #[.int .i64 k,.string n,.int .i64 a,.int .i64 b,.int .i64 c,.string o,.slice ra rn rc];go_enter Tryz.func91,Tryz.ntmps91;go_upto_region 1 with fail;clear hW0;have hk2:¬(4:Int)<k:=by omega
 obtain⟨xc0,xc1,xc2,xc3,xc4,xc5,xc6⟩:=zJ k0;have HB:=zH hb0;clear k0 hb0;go_wp2;go_ret;exact⟨rfl,HB.out⟩
theorem zgi(k:Int)(n o:ByteArray)(a b c:Int)(ra:Option Addr)(rn rc:Nat)(w:World)(hk:4<k) :
  xD w 1 #[.int .i64 k,.string n,.int .i64 a,.int .i64 b,.int .i64 c,.string o,.slice ra rn rc]:=by
 obtain⟨W0,hW0,k0,hb0⟩:=yM w #[.int .i64 k,.string n,.int .i64 a,.int .i64 b,.int .i64 c,.string o,.slice ra rn rc];go_enter Tryz.func91,Tryz.ntmps91;go_upto_region 1 with fail;clear hW0;have hk2:¬k<(1:Int):=by omega
 obtain⟨xc0,xc1,xc2,xc3,xc4,xc5,xc6⟩:=zJ k0;have HB:=zH hb0;clear k0 hb0;go_wp2;go_ret;exact⟨rfl,HB.out⟩
theorem zhi(n o:ByteArray)(a b c:Int)(ra:Option Addr)(rn rc:Nat)(w:World)(hn:¬zV n) :
  xD w 5 #[.int .i64 1,.string n,.int .i64 a,.int .i64 b,.int .i64 c,.string o,.slice ra rn rc]:=by
 obtain⟨W0,hW0,k0,hb0⟩:=yM w #[.int .i64 1,.string n,.int .i64 a,.int .i64 b,.int .i64 c,.string o,.slice ra rn rc];go_enter Tryz.func91,Tryz.ntmps91;go_upto_region 1 with fail;clear hW0;obtain⟨xc0,xc1,xc2,xc3,xc4,xc5,xc6⟩:=zJ k0;go_wp2_with fail;clear xc0 xc1 xc2 xc3 xc4 xc5 xc6;refine(Ya n W0 hn).mono ?_;rintro e w1 ⟨rfl,hwx⟩;subst hwx;have HB:=zH hb0;clear k0 hb0;go_wp2;go_ret;exact⟨rfl,HB.out⟩
theorem zos(n o:ByteArray)(a b c:Int)(ra:Option Addr)(rn rc:Nat)(w:World)(hn:¬zV n) :
  xD w 5 #[.int .i64 2,.string n,.int .i64 a,.int .i64 b,.int .i64 c,.string o,.slice ra rn rc]:=by
 obtain⟨W0,hW0,k0,hb0⟩:=yM w #[.int .i64 2,.string n,.int .i64 a,.int .i64 b,.int .i64 c,.string o,.slice ra rn rc];go_enter Tryz.func91,Tryz.ntmps91;go_upto_region 1 with fail;clear hW0;obtain⟨xc0,xc1,xc2,xc3,xc4,xc5,xc6⟩:=zJ k0;go_wp2_with fail;clear xc0 xc1 xc2 xc3 xc4 xc5 xc6;refine(Ya n W0 hn).mono ?_;rintro e w1 ⟨rfl,hwx⟩;subst hwx;have HB:=zH hb0;clear k0 hb0;go_wp2;go_ret;exact⟨rfl,HB.out⟩
theorem zlr(n o:ByteArray)(a b c:Int)(ra:Option Addr)(rn rc:Nat)(w:World)(hn:¬zV n) :
  xD w 5 #[.int .i64 3,.string n,.int .i64 a,.int .i64 b,.int .i64 c,.string o,.slice ra rn rc]:=by
 obtain⟨W0,hW0,k0,hb0⟩:=yM w #[.int .i64 3,.string n,.int .i64 a,.int .i64 b,.int .i64 c,.string o,.slice ra rn rc];go_enter Tryz.func91,Tryz.ntmps91;go_upto_region 1 with fail;clear hW0;obtain⟨xc0,xc1,xc2,xc3,xc4,xc5,xc6⟩:=zJ k0;go_wp2_with fail;clear xc0 xc1 xc2 xc3 xc4 xc5 xc6;refine(Ya n W0 hn).mono ?_;rintro e w1 ⟨rfl,hwx⟩;subst hwx;have HB:=zH hb0;clear k0 hb0;go_wp2;go_ret;exact⟨rfl,HB.out⟩
theorem zn9(n o:ByteArray)(a b c:Int)(ra:Option Addr)(rn rc:Nat)(w:World)(hn:¬zV n) :
  xD w 5 #[.int .i64 4,.string n,.int .i64 a,.int .i64 b,.int .i64 c,.string o,.slice ra rn rc]:=by
 obtain⟨W0,hW0,k0,hb0⟩:=yM w #[.int .i64 4,.string n,.int .i64 a,.int .i64 b,.int .i64 c,.string o,.slice ra rn rc];go_enter Tryz.func91,Tryz.ntmps91;go_upto_region 1 with fail;clear hW0;obtain⟨xc0,xc1,xc2,xc3,xc4,xc5,xc6⟩:=zJ k0;go_wp2_with fail;clear xc0 xc1 xc2 xc3 xc4 xc5 xc6;refine(Ya n W0 hn).mono ?_;rintro e w1 ⟨rfl,hwx⟩;subst hwx;have HB:=zH hb0;clear k0 hb0;go_wp2;go_ret;exact⟨rfl,HB.out⟩
theorem zfS(n o:ByteArray)(a b c:Int)(ra:Option Addr)(rn rc:Nat)(w:World)(hn:zV n)(ho:¬zV o) :
  xD w 5 #[.int .i64 2,.string n,.int .i64 a,.int .i64 b,.int .i64 c,.string o,.slice ra rn rc]:=by
 obtain⟨W0,hW0,k0,hb0⟩:=yM w #[.int .i64 2,.string n,.int .i64 a,.int .i64 b,.int .i64 c,.string o,.slice ra rn rc];go_enter Tryz.func91,Tryz.ntmps91;go_upto_region 1 with fail;clear hW0;obtain⟨xc0,xc1,xc2,xc3,xc4,xc5,xc6⟩:=zJ k0;go_wp2_with fail;clear xc0 xc1 xc2 xc3 xc4 xc5 xc6;refine(xT n W0 hn).mono ?_;rintro e w1 ⟨rfl,hwx⟩;subst hwx;obtain⟨xc0,xc1,xc2,xc3,xc4,xc5,xc6⟩:=zJ k0;go_wp2_with fail;clear xc0 xc1 xc2 xc3 xc4 xc5 xc6;have HP1:Hid (zC 53 #[.agg #[.int .i64 2,.string n,.int .i64 a,.int .i64 b,.int .i64 c,.string o,.slice ra rn rc]] W0 fun e w'=>e=.returned (.bool true)/\w'=W0.alloc (.cells #[.int .i64 2,.string n,.int .i64 a,.int .i64 b,.int .i64 c,.string o,.slice ra rn rc] 38)):=ye ⟨2,n,a,b,c,o,[]⟩ (.slice ra rn rc) W0;refine HP1.out.mono ?_;rintro e w1 ⟨rfl,hwx⟩;have hbx:zB W0 w1:=by rw[hwx];exact zF.alloc zN _
 have k1:=k0.below hbx k0.lt;have hb1:zB w w1:=zT hb0 hbx;clear HP1 hwx hbx k0 hb0;obtain⟨xc0,xc1,xc2,xc3,xc4,xc5,xc6⟩:=zJ k1;go_wp2_with fail;clear xc0 xc1 xc2 xc3 xc4 xc5 xc6;refine(Ya o w1 ho).mono ?_;rintro e w2 ⟨rfl,hwx⟩;subst hwx;have HB:=zH hb1;clear k1 hb1;go_wp2;go_ret;exact⟨rfl,HB.out⟩
theorem zfW(n o:ByteArray)(a b c:Int)(ra:Option Addr)(rn rc:Nat)(w:World)(hn:zV n)(ho:¬zV o) :
  xD w 5 #[.int .i64 3,.string n,.int .i64 a,.int .i64 b,.int .i64 c,.string o,.slice ra rn rc]:=by
 obtain⟨W0,hW0,k0,hb0⟩:=yM w #[.int .i64 3,.string n,.int .i64 a,.int .i64 b,.int .i64 c,.string o,.slice ra rn rc];go_enter Tryz.func91,Tryz.ntmps91;go_upto_region 1 with fail;clear hW0;obtain⟨xc0,xc1,xc2,xc3,xc4,xc5,xc6⟩:=zJ k0;go_wp2_with fail;clear xc0 xc1 xc2 xc3 xc4 xc5 xc6;refine(xT n W0 hn).mono ?_;rintro e w1 ⟨rfl,hwx⟩;subst hwx;obtain⟨xc0,xc1,xc2,xc3,xc4,xc5,xc6⟩:=zJ k0;go_wp2_with fail;clear xc0 xc1 xc2 xc3 xc4 xc5 xc6;have HP1:Hid (zC 53 #[.agg #[.int .i64 3,.string n,.int .i64 a,.int .i64 b,.int .i64 c,.string o,.slice ra rn rc]] W0 fun e w'=>e=.returned (.bool true)/\w'=W0.alloc (.cells #[.int .i64 3,.string n,.int .i64 a,.int .i64 b,.int .i64 c,.string o,.slice ra rn rc] 38)):=ye ⟨3,n,a,b,c,o,[]⟩ (.slice ra rn rc) W0;refine HP1.out.mono ?_;rintro e w1 ⟨rfl,hwx⟩;have hbx:zB W0 w1:=by rw[hwx];exact zF.alloc zN _
 have k1:=k0.below hbx k0.lt;have hb1:zB w w1:=zT hb0 hbx;clear HP1 hwx hbx k0 hb0;obtain⟨xc0,xc1,xc2,xc3,xc4,xc5,xc6⟩:=zJ k1;go_wp2_with fail;clear xc0 xc1 xc2 xc3 xc4 xc5 xc6;refine(Ya o w1 ho).mono ?_;rintro e w2 ⟨rfl,hwx⟩;subst hwx;have HB:=zH hb1;clear k1 hb1;go_wp2;go_ret;exact⟨rfl,HB.out⟩
theorem zgJ(n o:ByteArray)(a b c:Int)(ra:Option Addr)(rn rc:Nat)(w:World)(hn:zV n)(ho:zV o) :
  zR 91 #[.agg #[.int .i64 2,.string n,.int .i64 a,.int .i64 b,.int .i64 c,.string o,.slice ra rn rc]] w (.int .i64 (if InV a b c then (0:Int) else 2)):=by
 obtain⟨Z,hZ⟩:∃Z:Int,(if InV a b c then (0:Int) else 2)=Z:=⟨_,rfl⟩;rw[hZ];have HZ:=zH hZ;clear hZ;obtain⟨W0,hW0,k0,hb0⟩:=yM w #[.int .i64 2,.string n,.int .i64 a,.int .i64 b,.int .i64 c,.string o,.slice ra rn rc];go_enter Tryz.func91,Tryz.ntmps91;go_upto_region 1 with fail;clear hW0;obtain⟨xc0,xc1,xc2,xc3,xc4,xc5,xc6⟩:=zJ k0;go_wp2_with fail;clear xc0 xc1 xc2 xc3 xc4 xc5 xc6;refine(xT n W0 hn).mono ?_;rintro e w1 ⟨rfl,hwx⟩;subst hwx;obtain⟨xc0,xc1,xc2,xc3,xc4,xc5,xc6⟩:=zJ k0;go_wp2_with fail;clear xc0 xc1 xc2 xc3 xc4 xc5 xc6;have HP1:Hid (zC 53 #[.agg #[.int .i64 2,.string n,.int .i64 a,.int .i64 b,.int .i64 c,.string o,.slice ra rn rc]] W0 fun e w'=>e=.returned (.bool true)/\w'=W0.alloc (.cells #[.int .i64 2,.string n,.int .i64 a,.int .i64 b,.int .i64 c,.string o,.slice ra rn rc] 38)):=ye ⟨2,n,a,b,c,o,[]⟩ (.slice ra rn rc) W0;refine HP1.out.mono ?_;rintro e w1 ⟨rfl,hwx⟩;have hbx:zB W0 w1:=by rw[hwx];exact zF.alloc zN _
 have k1:=k0.below hbx k0.lt;have hb1:zB w w1:=zT hb0 hbx;clear HP1 hwx hbx k0 hb0;obtain⟨xc0,xc1,xc2,xc3,xc4,xc5,xc6⟩:=zJ k1;go_wp2_with fail;clear xc0 xc1 xc2 xc3 xc4 xc5 xc6;refine(xT o w1 ho).mono ?_;rintro e w2 ⟨rfl,hwx⟩;subst hwx;obtain⟨xc0,xc1,xc2,xc3,xc4,xc5,xc6⟩:=zJ k1;go_wp2_with fail;clear xc0 xc1 xc2 xc3 xc4 xc5 xc6;have HP2:Hid (zC 53 #[.agg #[.int .i64 2,.string n,.int .i64 a,.int .i64 b,.int .i64 c,.string o,.slice ra rn rc]] w1 fun e w'=>e=.returned (.bool true)/\w'=w1.alloc (.cells #[.int .i64 2,.string n,.int .i64 a,.int .i64 b,.int .i64 c,.string o,.slice ra rn rc] 38)):=ye ⟨2,n,a,b,c,o,[]⟩ (.slice ra rn rc) w1;refine HP2.out.mono ?_;rintro e w3 ⟨rfl,hwx⟩;have hbx:zB w1 w3:=by rw[hwx];exact zF.alloc zN _
 have k3:=k1.below hbx k1.lt;have hb3:zB w w3:=zT hb1 hbx;clear HP2 hwx hbx k1 hb1;obtain⟨xc0,xc1,xc2,xc3,xc4,xc5,xc6⟩:=zJ k3;go_upto_region 11 with fail;clear xc0 xc1 xc2 xc3 xc4 xc5 xc6;obtain⟨q,hq⟩:∃q,decide (InV a b c)=q:=⟨_,rfl⟩;have HANY:Hid (∀W',zC 145 #[] W' fun e w'=>∃a' c',e=.returned (.agg #[.slice a' zr.length c'])/\zi w' (.slice a' zr.length c') zr/\zB W' w'):=fun W'=>(QH W').mono fun e w' ⟨v',he,hs,hn,hb⟩=>by obtain⟨a',c',rfl⟩:=hs.form;exact⟨a',c',he,hs,hb⟩
 have HHAS:Hid (∀va vc W',zi W' (.slice va zr.length vc) zr->zR 60 #[.agg #[.slice va zr.length vc],.agg #[.int .i64 a,.int .i64 b,.int .i64 c]] W' (.bool q)):=fun va vc W' h=>by rw[<-hq];exact XP va vc a b c W' h
 have HQ:=zH hq;clear hq;have hxl:=k3.lt;have SC:Hid (∀W',zB w3 W'->W'.cell? ⟨w.heap.size,2,none⟩=some (.int .i64 a)/\W'.cell? ⟨w.heap.size,3,none⟩=some (.int .i64 b)/\W'.cell? ⟨w.heap.size,4,none⟩=some (.int .i64 c)):=fun W' h=>⟨(k3.below h hxl).cell 2,(k3.below h hxl).cell 3,(k3.below h hxl).cell 4⟩;have HB0:=zH hb3;clear k3 hb3 hxl;have D0:zB w3 w3.drew:=zF.drew;go_region_held3 (fun W'=>W'.cell? ⟨w.heap.size,2,none⟩=some (.int .i64 a)/\W'.cell? ⟨w.heap.size,3,none⟩=some (.int .i64 b)/\W'.cell? ⟨w.heap.size,4,none⟩=some (.int .i64 c)) (first|exact SC.out _ D0|exact SC.out _ D1|exact SC.out _ D2)
  (first
   |((with_reducible refine(HANY.out _).mono ?_);rintro e x1 ⟨va,vc,rfl,hs1,hb1⟩;have D1:zB w3 x1:=zT D0 hb1;clear HANY D0 hb1)
   | ((with_reducible refine (HHAS.out _ _ _ hs1).mono ?_);rintro e x2 ⟨rfl,hb2⟩;have D2:zB w3 x2:=zT D1 hb2;clear HHAS D1 hb2 hs1))
 have HB:Hid (zB w x2):=zT HB0.out D2;clear D2 HB0 SC;cases q with
 |true =>
  have HC:Hid (Z=0):=by have h:=HQ.out;show _=_;rw[<-HZ.out];exact if_pos (by simpa using h)
  go_wp2;go_ret;exact⟨by rw[HC.out];rfl,HB.out⟩
 |false =>
  have HC:Hid (Z=2):=by have h:=HQ.out;show _=_;rw[<-HZ.out];exact if_neg (by simpa using h)
  go_wp2;go_ret;exact⟨by rw[HC.out];rfl,HB.out⟩
theorem zjg(n o:ByteArray)(a b c:Int)(ra:Option Addr)(rn rc:Nat)(w:World)(hn:zV n)(ho:zV o) :
  zR 91 #[.agg #[.int .i64 3,.string n,.int .i64 a,.int .i64 b,.int .i64 c,.string o,.slice ra rn rc]] w (.int .i64 (if InV a b c then (0:Int) else 2)):=by
 obtain⟨Z,hZ⟩:∃Z:Int,(if InV a b c then (0:Int) else 2)=Z:=⟨_,rfl⟩;rw[hZ];have HZ:=zH hZ;clear hZ;obtain⟨W0,hW0,k0,hb0⟩:=yM w #[.int .i64 3,.string n,.int .i64 a,.int .i64 b,.int .i64 c,.string o,.slice ra rn rc];go_enter Tryz.func91,Tryz.ntmps91;go_upto_region 1 with fail;clear hW0;obtain⟨xc0,xc1,xc2,xc3,xc4,xc5,xc6⟩:=zJ k0;go_wp2_with fail;clear xc0 xc1 xc2 xc3 xc4 xc5 xc6;refine(xT n W0 hn).mono ?_;rintro e w1 ⟨rfl,hwx⟩;subst hwx;obtain⟨xc0,xc1,xc2,xc3,xc4,xc5,xc6⟩:=zJ k0;go_wp2_with fail;clear xc0 xc1 xc2 xc3 xc4 xc5 xc6;have HP1:Hid (zC 53 #[.agg #[.int .i64 3,.string n,.int .i64 a,.int .i64 b,.int .i64 c,.string o,.slice ra rn rc]] W0 fun e w'=>e=.returned (.bool true)/\w'=W0.alloc (.cells #[.int .i64 3,.string n,.int .i64 a,.int .i64 b,.int .i64 c,.string o,.slice ra rn rc] 38)):=ye ⟨3,n,a,b,c,o,[]⟩ (.slice ra rn rc) W0;refine HP1.out.mono ?_;rintro e w1 ⟨rfl,hwx⟩;have hbx:zB W0 w1:=by rw[hwx];exact zF.alloc zN _
 have k1:=k0.below hbx k0.lt;have hb1:zB w w1:=zT hb0 hbx;clear HP1 hwx hbx k0 hb0;obtain⟨xc0,xc1,xc2,xc3,xc4,xc5,xc6⟩:=zJ k1;go_wp2_with fail;clear xc0 xc1 xc2 xc3 xc4 xc5 xc6;refine(xT o w1 ho).mono ?_;rintro e w2 ⟨rfl,hwx⟩;subst hwx;obtain⟨xc0,xc1,xc2,xc3,xc4,xc5,xc6⟩:=zJ k1;go_wp2_with fail;clear xc0 xc1 xc2 xc3 xc4 xc5 xc6;have HP2:Hid (zC 53 #[.agg #[.int .i64 3,.string n,.int .i64 a,.int .i64 b,.int .i64 c,.string o,.slice ra rn rc]] w1 fun e w'=>e=.returned (.bool true)/\w'=w1.alloc (.cells #[.int .i64 3,.string n,.int .i64 a,.int .i64 b,.int .i64 c,.string o,.slice ra rn rc] 38)):=ye ⟨3,n,a,b,c,o,[]⟩ (.slice ra rn rc) w1;refine HP2.out.mono ?_;rintro e w3 ⟨rfl,hwx⟩;have hbx:zB w1 w3:=by rw[hwx];exact zF.alloc zN _
 have k3:=k1.below hbx k1.lt;have hb3:zB w w3:=zT hb1 hbx;clear HP2 hwx hbx k1 hb1;obtain⟨xc0,xc1,xc2,xc3,xc4,xc5,xc6⟩:=zJ k3;go_upto_region 11 with fail;clear xc0 xc1 xc2 xc3 xc4 xc5 xc6;obtain⟨q,hq⟩:∃q,decide (InV a b c)=q:=⟨_,rfl⟩;have HANY:Hid (∀W',zC 145 #[] W' fun e w'=>∃a' c',e=.returned (.agg #[.slice a' zr.length c'])/\zi w' (.slice a' zr.length c') zr/\zB W' w'):=fun W'=>(QH W').mono fun e w' ⟨v',he,hs,hn,hb⟩=>by obtain⟨a',c',rfl⟩:=hs.form;exact⟨a',c',he,hs,hb⟩
 have HHAS:Hid (∀va vc W',zi W' (.slice va zr.length vc) zr->zR 60 #[.agg #[.slice va zr.length vc],.agg #[.int .i64 a,.int .i64 b,.int .i64 c]] W' (.bool q)):=fun va vc W' h=>by rw[<-hq];exact XP va vc a b c W' h
 have HQ:=zH hq;clear hq;have hxl:=k3.lt;have SC:Hid (∀W',zB w3 W'->W'.cell? ⟨w.heap.size,2,none⟩=some (.int .i64 a)/\W'.cell? ⟨w.heap.size,3,none⟩=some (.int .i64 b)/\W'.cell? ⟨w.heap.size,4,none⟩=some (.int .i64 c)):=fun W' h=>⟨(k3.below h hxl).cell 2,(k3.below h hxl).cell 3,(k3.below h hxl).cell 4⟩;have HB0:=zH hb3;clear k3 hb3 hxl;have D0:zB w3 w3.drew:=zF.drew;go_region_held3 (fun W'=>W'.cell? ⟨w.heap.size,2,none⟩=some (.int .i64 a)/\W'.cell? ⟨w.heap.size,3,none⟩=some (.int .i64 b)/\W'.cell? ⟨w.heap.size,4,none⟩=some (.int .i64 c)) (first|exact SC.out _ D0|exact SC.out _ D1|exact SC.out _ D2)
  (first
   |((with_reducible refine(HANY.out _).mono ?_);rintro e x1 ⟨va,vc,rfl,hs1,hb1⟩;have D1:zB w3 x1:=zT D0 hb1;clear HANY D0 hb1)
   | ((with_reducible refine (HHAS.out _ _ _ hs1).mono ?_);rintro e x2 ⟨rfl,hb2⟩;have D2:zB w3 x2:=zT D1 hb2;clear HHAS D1 hb2 hs1))
 have HB:Hid (zB w x2):=zT HB0.out D2;clear D2 HB0 SC;cases q with
 |true =>
  have HC:Hid (Z=0):=by have h:=HQ.out;show _=_;rw[<-HZ.out];exact if_pos (by simpa using h)
  go_wp2;go_ret;exact⟨by rw[HC.out];rfl,HB.out⟩
 |false =>
  have HC:Hid (Z=2):=by have h:=HQ.out;show _=_;rw[<-HZ.out];exact if_neg (by simpa using h)
  go_wp2;go_ret;exact⟨by rw[HC.out];rfl,HB.out⟩
theorem zlC(n o:ByteArray)(a b c:Int)(ra:Option Addr)(rn rc:Nat)(w:World)(hn:zV n)(ho:0<o.size) :
  xD w 1 #[.int .i64 1,.string n,.int .i64 a,.int .i64 b,.int .i64 c,.string o,.slice ra rn rc]:=by
 obtain⟨W0,hW0,k0,hb0⟩:=yM w #[.int .i64 1,.string n,.int .i64 a,.int .i64 b,.int .i64 c,.string o,.slice ra rn rc];go_enter Tryz.func91,Tryz.ntmps91;go_upto_region 1 with fail;clear hW0;obtain⟨xc0,xc1,xc2,xc3,xc4,xc5,xc6⟩:=zJ k0;go_wp2_with fail;clear xc0 xc1 xc2 xc3 xc4 xc5 xc6;refine(xT n W0 hn).mono ?_;rintro e w1 ⟨rfl,hwx⟩;subst hwx;obtain⟨xc0,xc1,xc2,xc3,xc4,xc5,xc6⟩:=zJ k0;go_wp2_with fail;clear xc0 xc1 xc2 xc3 xc4 xc5 xc6;have HP1:Hid (zC 53 #[.agg #[.int .i64 1,.string n,.int .i64 a,.int .i64 b,.int .i64 c,.string o,.slice ra rn rc]] W0 fun e w'=>e=.returned (.bool false)/\w'=W0.alloc (.cells #[.int .i64 1,.string n,.int .i64 a,.int .i64 b,.int .i64 c,.string o,.slice ra rn rc] 38)):=ye ⟨1,n,a,b,c,o,[]⟩ (.slice ra rn rc) W0;refine HP1.out.mono ?_;rintro e w1 ⟨rfl,hwx⟩;have hbx:zB W0 w1:=by rw[hwx];exact zF.alloc zN _
 have k1:=k0.below hbx k0.lt;have hb1:zB w w1:=zT hb0 hbx;clear HP1 hwx hbx k0 hb0;obtain⟨xc0,xc1,xc2,xc3,xc4,xc5,xc6⟩:=zJ k1;go_wp2_with fail;clear xc0 xc1 xc2 xc3 xc4 xc5 xc6;have HP2:Hid (zC 53 #[.agg #[.int .i64 1,.string n,.int .i64 a,.int .i64 b,.int .i64 c,.string o,.slice ra rn rc]] w1 fun e w'=>e=.returned (.bool false)/\w'=w1.alloc (.cells #[.int .i64 1,.string n,.int .i64 a,.int .i64 b,.int .i64 c,.string o,.slice ra rn rc] 38)):=ye ⟨1,n,a,b,c,o,[]⟩ (.slice ra rn rc) w1;refine HP2.out.mono ?_;rintro e w3 ⟨rfl,hwx⟩;have hbx:zB w1 w3:=by rw[hwx];exact zF.alloc zN _
 have k3:=k1.below hbx k1.lt;have hb3:zB w w3:=zT hb1 hbx;clear HP2 hwx hbx k1 hb1;have he1:o.toList.isEmpty=false:=Q4 ho;have he2:(o.toList==[])=false:=by rw[beq_eq_false_iff_ne];intro h;rw[h] at he1;cases he1
 obtain⟨xc0,xc1,xc2,xc3,xc4,xc5,xc6⟩:=zJ k3;have HB:=zH hb3;clear k3 hb3;go_wp2;go_ret;exact⟨rfl,HB.out⟩
theorem zoj(n o:ByteArray)(a b c:Int)(ra:Option Addr)(rn rc:Nat)(w:World)(hn:zV n)(ho:0<o.size) :
  xD w 1 #[.int .i64 4,.string n,.int .i64 a,.int .i64 b,.int .i64 c,.string o,.slice ra rn rc]:=by
 obtain⟨W0,hW0,k0,hb0⟩:=yM w #[.int .i64 4,.string n,.int .i64 a,.int .i64 b,.int .i64 c,.string o,.slice ra rn rc];go_enter Tryz.func91,Tryz.ntmps91;go_upto_region 1 with fail;clear hW0;obtain⟨xc0,xc1,xc2,xc3,xc4,xc5,xc6⟩:=zJ k0;go_wp2_with fail;clear xc0 xc1 xc2 xc3 xc4 xc5 xc6;refine(xT n W0 hn).mono ?_;rintro e w1 ⟨rfl,hwx⟩;subst hwx;obtain⟨xc0,xc1,xc2,xc3,xc4,xc5,xc6⟩:=zJ k0;go_wp2_with fail;clear xc0 xc1 xc2 xc3 xc4 xc5 xc6;have HP1:Hid (zC 53 #[.agg #[.int .i64 4,.string n,.int .i64 a,.int .i64 b,.int .i64 c,.string o,.slice ra rn rc]] W0 fun e w'=>e=.returned (.bool false)/\w'=W0.alloc (.cells #[.int .i64 4,.string n,.int .i64 a,.int .i64 b,.int .i64 c,.string o,.slice ra rn rc] 38)):=ye ⟨4,n,a,b,c,o,[]⟩ (.slice ra rn rc) W0;refine HP1.out.mono ?_;rintro e w1 ⟨rfl,hwx⟩;have hbx:zB W0 w1:=by rw[hwx];exact zF.alloc zN _
 have k1:=k0.below hbx k0.lt;have hb1:zB w w1:=zT hb0 hbx;clear HP1 hwx hbx k0 hb0;obtain⟨xc0,xc1,xc2,xc3,xc4,xc5,xc6⟩:=zJ k1;go_wp2_with fail;clear xc0 xc1 xc2 xc3 xc4 xc5 xc6;have HP2:Hid (zC 53 #[.agg #[.int .i64 4,.string n,.int .i64 a,.int .i64 b,.int .i64 c,.string o,.slice ra rn rc]] w1 fun e w'=>e=.returned (.bool false)/\w'=w1.alloc (.cells #[.int .i64 4,.string n,.int .i64 a,.int .i64 b,.int .i64 c,.string o,.slice ra rn rc] 38)):=ye ⟨4,n,a,b,c,o,[]⟩ (.slice ra rn rc) w1;refine HP2.out.mono ?_;rintro e w3 ⟨rfl,hwx⟩;have hbx:zB w1 w3:=by rw[hwx];exact zF.alloc zN _
 have k3:=k1.below hbx k1.lt;have hb3:zB w w3:=zT hb1 hbx;clear HP2 hwx hbx k1 hb1;have he1:o.toList.isEmpty=false:=Q4 ho;have he2:(o.toList==[])=false:=by rw[beq_eq_false_iff_ne];intro h;rw[h] at he1;cases he1
 obtain⟨xc0,xc1,xc2,xc3,xc4,xc5,xc6⟩:=zJ k3;have HB:=zH hb3;clear k3 hb3;go_wp2;go_ret;exact⟨rfl,HB.out⟩
theorem zhn(n:ByteArray)(a b c:Int)(ra:Option Addr)(rn rc:Nat)(w:World)(hn:zV n)(hr:0<rn) :
  xD w 1 #[.int .i64 1,.string n,.int .i64 a,.int .i64 b,.int .i64 c,.string ⟨#[]⟩,.slice ra rn rc]:=by
 obtain⟨W0,hW0,k0,hb0⟩:=yM w #[.int .i64 1,.string n,.int .i64 a,.int .i64 b,.int .i64 c,.string ⟨#[]⟩,.slice ra rn rc];go_enter Tryz.func91,Tryz.ntmps91;go_upto_region 1 with fail;clear hW0;obtain⟨xc0,xc1,xc2,xc3,xc4,xc5,xc6⟩:=zJ k0;go_wp2_with fail;clear xc0 xc1 xc2 xc3 xc4 xc5 xc6;refine(xT n W0 hn).mono ?_;rintro e w1 ⟨rfl,hwx⟩;subst hwx;obtain⟨xc0,xc1,xc2,xc3,xc4,xc5,xc6⟩:=zJ k0;go_wp2_with fail;clear xc0 xc1 xc2 xc3 xc4 xc5 xc6;have HP1:Hid (zC 53 #[.agg #[.int .i64 1,.string n,.int .i64 a,.int .i64 b,.int .i64 c,.string ⟨#[]⟩,.slice ra rn rc]] W0 fun e w'=>e=.returned (.bool false)/\w'=W0.alloc (.cells #[.int .i64 1,.string n,.int .i64 a,.int .i64 b,.int .i64 c,.string ⟨#[]⟩,.slice ra rn rc] 38)):=ye ⟨1,n,a,b,c,⟨#[]⟩,[]⟩ (.slice ra rn rc) W0;refine HP1.out.mono ?_;rintro e w1 ⟨rfl,hwx⟩;have hbx:zB W0 w1:=by rw[hwx];exact zF.alloc zN _
 have k1:=k0.below hbx k0.lt;have hb1:zB w w1:=zT hb0 hbx;clear HP1 hwx hbx k0 hb0;obtain⟨xc0,xc1,xc2,xc3,xc4,xc5,xc6⟩:=zJ k1;go_wp2_with fail;clear xc0 xc1 xc2 xc3 xc4 xc5 xc6;have HP2:Hid (zC 53 #[.agg #[.int .i64 1,.string n,.int .i64 a,.int .i64 b,.int .i64 c,.string ⟨#[]⟩,.slice ra rn rc]] w1 fun e w'=>e=.returned (.bool false)/\w'=w1.alloc (.cells #[.int .i64 1,.string n,.int .i64 a,.int .i64 b,.int .i64 c,.string ⟨#[]⟩,.slice ra rn rc] 38)):=ye ⟨1,n,a,b,c,⟨#[]⟩,[]⟩ (.slice ra rn rc) w1;refine HP2.out.mono ?_;rintro e w3 ⟨rfl,hwx⟩;have hbx:zB w1 w3:=by rw[hwx];exact zF.alloc zN _
 have k3:=k1.below hbx k1.lt;have hb3:zB w w3:=zT hb1 hbx;clear HP2 hwx hbx k1 hb1;obtain⟨xc0,xc1,xc2,xc3,xc4,xc5,xc6⟩:=zJ k3;go_wp2_with fail;clear xc0 xc1 xc2 xc3 xc4 xc5 xc6;have HE:Hid (zR 153 #[.agg #[.slice ra rn rc]] w3 (.bool false)):=zlD ra rn rc w3 hr;refine HE.out.mono ?_;rintro e w4 ⟨rfl,hbx⟩;have k4:=k3.below hbx k3.lt;have hb4:zB w w4:=zT hb3 hbx;clear HE hbx k3 hb3;obtain⟨xc0,xc1,xc2,xc3,xc4,xc5,xc6⟩:=zJ k4;have HB:=zH hb4;clear k4 hb4;go_wp2;go_ret;exact⟨rfl,HB.out⟩
theorem zhI(n:ByteArray)(a b c:Int)(ra:Option Addr)(rc:Nat)(w:World)(hn:zV n) :
  zR 91 #[.agg #[.int .i64 1,.string n,.int .i64 a,.int .i64 b,.int .i64 c,.string ⟨#[]⟩,.slice ra 0 rc]] w (.int .i64 (if InV a b c then (0:Int) else 2)):=by
 obtain⟨Z,hZ⟩:∃Z:Int,(if InV a b c then (0:Int) else 2)=Z:=⟨_,rfl⟩;rw[hZ];have HZ:=zH hZ;clear hZ;obtain⟨W0,hW0,k0,hb0⟩:=yM w #[.int .i64 1,.string n,.int .i64 a,.int .i64 b,.int .i64 c,.string ⟨#[]⟩,.slice ra 0 rc];go_enter Tryz.func91,Tryz.ntmps91;go_upto_region 1 with fail;clear hW0;obtain⟨xc0,xc1,xc2,xc3,xc4,xc5,xc6⟩:=zJ k0;go_wp2_with fail;clear xc0 xc1 xc2 xc3 xc4 xc5 xc6;refine(xT n W0 hn).mono ?_;rintro e w1 ⟨rfl,hwx⟩;subst hwx;obtain⟨xc0,xc1,xc2,xc3,xc4,xc5,xc6⟩:=zJ k0;go_wp2_with fail;clear xc0 xc1 xc2 xc3 xc4 xc5 xc6;have HP1:Hid (zC 53 #[.agg #[.int .i64 1,.string n,.int .i64 a,.int .i64 b,.int .i64 c,.string ⟨#[]⟩,.slice ra 0 rc]] W0 fun e w'=>e=.returned (.bool false)/\w'=W0.alloc (.cells #[.int .i64 1,.string n,.int .i64 a,.int .i64 b,.int .i64 c,.string ⟨#[]⟩,.slice ra 0 rc] 38)):=ye ⟨1,n,a,b,c,⟨#[]⟩,[]⟩ (.slice ra 0 rc) W0;refine HP1.out.mono ?_;rintro e w1 ⟨rfl,hwx⟩;have hbx:zB W0 w1:=by rw[hwx];exact zF.alloc zN _
 have k1:=k0.below hbx k0.lt;have hb1:zB w w1:=zT hb0 hbx;clear HP1 hwx hbx k0 hb0;obtain⟨xc0,xc1,xc2,xc3,xc4,xc5,xc6⟩:=zJ k1;go_wp2_with fail;clear xc0 xc1 xc2 xc3 xc4 xc5 xc6;have HP2:Hid (zC 53 #[.agg #[.int .i64 1,.string n,.int .i64 a,.int .i64 b,.int .i64 c,.string ⟨#[]⟩,.slice ra 0 rc]] w1 fun e w'=>e=.returned (.bool false)/\w'=w1.alloc (.cells #[.int .i64 1,.string n,.int .i64 a,.int .i64 b,.int .i64 c,.string ⟨#[]⟩,.slice ra 0 rc] 38)):=ye ⟨1,n,a,b,c,⟨#[]⟩,[]⟩ (.slice ra 0 rc) w1;refine HP2.out.mono ?_;rintro e w3 ⟨rfl,hwx⟩;have hbx:zB w1 w3:=by rw[hwx];exact zF.alloc zN _
 have k3:=k1.below hbx k1.lt;have hb3:zB w w3:=zT hb1 hbx;clear HP2 hwx hbx k1 hb1;obtain⟨xc0,xc1,xc2,xc3,xc4,xc5,xc6⟩:=zJ k3;go_wp2_with fail;clear xc0 xc1 xc2 xc3 xc4 xc5 xc6;have HE:Hid (zR 153 #[.agg #[.slice ra 0 rc]] w3 (.bool true)):=zjA ra rc w3;refine HE.out.mono ?_;rintro e w4 ⟨rfl,hbx⟩;have k4:=k3.below hbx k3.lt;have hb4:zB w w4:=zT hb3 hbx;clear HE hbx k3 hb3;obtain⟨xc0,xc1,xc2,xc3,xc4,xc5,xc6⟩:=zJ k4;go_upto_region 11 with fail;clear xc0 xc1 xc2 xc3 xc4 xc5 xc6;obtain⟨q,hq⟩:∃q,decide (InV a b c)=q:=⟨_,rfl⟩;have HANY:Hid (∀W',zC 145 #[] W' fun e w'=>∃a' c',e=.returned (.agg #[.slice a' zr.length c'])/\zi w' (.slice a' zr.length c') zr/\zB W' w'):=fun W'=>(QH W').mono fun e w' ⟨v',he,hs,hn,hb⟩=>by obtain⟨a',c',rfl⟩:=hs.form;exact⟨a',c',he,hs,hb⟩
 have HHAS:Hid (∀va vc W',zi W' (.slice va zr.length vc) zr->zR 60 #[.agg #[.slice va zr.length vc],.agg #[.int .i64 a,.int .i64 b,.int .i64 c]] W' (.bool q)):=fun va vc W' h=>by rw[<-hq];exact XP va vc a b c W' h
 have HQ:=zH hq;clear hq;have hxl:=k4.lt;have SC:Hid (∀W',zB w4 W'->W'.cell? ⟨w.heap.size,2,none⟩=some (.int .i64 a)/\W'.cell? ⟨w.heap.size,3,none⟩=some (.int .i64 b)/\W'.cell? ⟨w.heap.size,4,none⟩=some (.int .i64 c)):=fun W' h=>⟨(k4.below h hxl).cell 2,(k4.below h hxl).cell 3,(k4.below h hxl).cell 4⟩;have HB0:=zH hb4;clear k4 hb4 hxl;have D0:zB w4 w4.drew:=zF.drew;go_region_held3 (fun W'=>W'.cell? ⟨w.heap.size,2,none⟩=some (.int .i64 a)/\W'.cell? ⟨w.heap.size,3,none⟩=some (.int .i64 b)/\W'.cell? ⟨w.heap.size,4,none⟩=some (.int .i64 c)) (first|exact SC.out _ D0|exact SC.out _ D1|exact SC.out _ D2)
  (first
   |((with_reducible refine(HANY.out _).mono ?_);rintro e x1 ⟨va,vc,rfl,hs1,hb1⟩;have D1:zB w4 x1:=zT D0 hb1;clear HANY D0 hb1)
   | ((with_reducible refine (HHAS.out _ _ _ hs1).mono ?_);rintro e x2 ⟨rfl,hb2⟩;have D2:zB w4 x2:=zT D1 hb2;clear HHAS D1 hb2 hs1))
 have HB:Hid (zB w x2):=zT HB0.out D2;clear D2 HB0 SC;cases q with
 |true =>
  have HC:Hid (Z=0):=by have h:=HQ.out;show _=_;rw[<-HZ.out];exact if_pos (by simpa using h)
  go_wp2;go_ret;exact⟨by rw[HC.out];rfl,HB.out⟩
 |false =>
  have HC:Hid (Z=2):=by have h:=HQ.out;show _=_;rw[<-HZ.out];exact if_neg (by simpa using h)
  go_wp2;go_ret;exact⟨by rw[HC.out];rfl,HB.out⟩
theorem zfx(n:ByteArray)(a b c:Int)(ra:Option Addr)(rn rc:Nat)(w:World)(hn:zV n)(hz:(a==0&&(b==0&&c==0))=false) :
  xD w 1 #[.int .i64 4,.string n,.int .i64 a,.int .i64 b,.int .i64 c,.string ⟨#[]⟩,.slice ra rn rc]:=by
 obtain⟨W0,hW0,k0,hb0⟩:=yM w #[.int .i64 4,.string n,.int .i64 a,.int .i64 b,.int .i64 c,.string ⟨#[]⟩,.slice ra rn rc];go_enter Tryz.func91,Tryz.ntmps91;go_upto_region 1 with fail;clear hW0;obtain⟨xc0,xc1,xc2,xc3,xc4,xc5,xc6⟩:=zJ k0;go_wp2_with fail;clear xc0 xc1 xc2 xc3 xc4 xc5 xc6;refine(xT n W0 hn).mono ?_;rintro e w1 ⟨rfl,hwx⟩;subst hwx;obtain⟨xc0,xc1,xc2,xc3,xc4,xc5,xc6⟩:=zJ k0;go_wp2_with fail;clear xc0 xc1 xc2 xc3 xc4 xc5 xc6;have HP1:Hid (zC 53 #[.agg #[.int .i64 4,.string n,.int .i64 a,.int .i64 b,.int .i64 c,.string ⟨#[]⟩,.slice ra rn rc]] W0 fun e w'=>e=.returned (.bool false)/\w'=W0.alloc (.cells #[.int .i64 4,.string n,.int .i64 a,.int .i64 b,.int .i64 c,.string ⟨#[]⟩,.slice ra rn rc] 38)):=ye ⟨4,n,a,b,c,⟨#[]⟩,[]⟩ (.slice ra rn rc) W0;refine HP1.out.mono ?_;rintro e w1 ⟨rfl,hwx⟩;have hbx:zB W0 w1:=by rw[hwx];exact zF.alloc zN _
 have k1:=k0.below hbx k0.lt;have hb1:zB w w1:=zT hb0 hbx;clear HP1 hwx hbx k0 hb0;obtain⟨xc0,xc1,xc2,xc3,xc4,xc5,xc6⟩:=zJ k1;go_wp2_with fail;clear xc0 xc1 xc2 xc3 xc4 xc5 xc6;have HP2:Hid (zC 53 #[.agg #[.int .i64 4,.string n,.int .i64 a,.int .i64 b,.int .i64 c,.string ⟨#[]⟩,.slice ra rn rc]] w1 fun e w'=>e=.returned (.bool false)/\w'=w1.alloc (.cells #[.int .i64 4,.string n,.int .i64 a,.int .i64 b,.int .i64 c,.string ⟨#[]⟩,.slice ra rn rc] 38)):=ye ⟨4,n,a,b,c,⟨#[]⟩,[]⟩ (.slice ra rn rc) w1;refine HP2.out.mono ?_;rintro e w3 ⟨rfl,hwx⟩;have hbx:zB w1 w3:=by rw[hwx];exact zF.alloc zN _
 have k3:=k1.below hbx k1.lt;have hb3:zB w w3:=zT hb1 hbx;clear HP2 hwx hbx k1 hb1;have h3:=zbf a b c 0 0 0;rw[hz] at h3;obtain⟨xc0,xc1,xc2,xc3,xc4,xc5,xc6⟩:=zJ k3;have HB:=zH hb3;clear k3 hb3;go_wp2;go_ret;exact⟨rfl,HB.out⟩
theorem zg0(n:ByteArray)(ra:Option Addr)(rn rc:Nat)(w:World)(hn:zV n) :
  xD w 0 #[.int .i64 4,.string n,.int .i64 0,.int .i64 0,.int .i64 0,.string ⟨#[]⟩,.slice ra rn rc]:=by
 obtain⟨W0,hW0,k0,hb0⟩:=yM w #[.int .i64 4,.string n,.int .i64 0,.int .i64 0,.int .i64 0,.string ⟨#[]⟩,.slice ra rn rc];go_enter Tryz.func91,Tryz.ntmps91;go_upto_region 1 with fail;clear hW0;obtain⟨xc0,xc1,xc2,xc3,xc4,xc5,xc6⟩:=zJ k0;go_wp2_with fail;clear xc0 xc1 xc2 xc3 xc4 xc5 xc6;refine(xT n W0 hn).mono ?_;rintro e w1 ⟨rfl,hwx⟩;subst hwx;obtain⟨xc0,xc1,xc2,xc3,xc4,xc5,xc6⟩:=zJ k0;go_wp2_with fail;clear xc0 xc1 xc2 xc3 xc4 xc5 xc6;have HP1:Hid (zC 53 #[.agg #[.int .i64 4,.string n,.int .i64 0,.int .i64 0,.int .i64 0,.string ⟨#[]⟩,.slice ra rn rc]] W0 fun e w'=>e=.returned (.bool false)/\w'=W0.alloc (.cells #[.int .i64 4,.string n,.int .i64 0,.int .i64 0,.int .i64 0,.string ⟨#[]⟩,.slice ra rn rc] 38)):=ye ⟨4,n,0,0,0,⟨#[]⟩,[]⟩ (.slice ra rn rc) W0;refine HP1.out.mono ?_;rintro e w1 ⟨rfl,hwx⟩;have hbx:zB W0 w1:=by rw[hwx];exact zF.alloc zN _
 have k1:=k0.below hbx k0.lt;have hb1:zB w w1:=zT hb0 hbx;clear HP1 hwx hbx k0 hb0;obtain⟨xc0,xc1,xc2,xc3,xc4,xc5,xc6⟩:=zJ k1;go_wp2_with fail;clear xc0 xc1 xc2 xc3 xc4 xc5 xc6;have HP2:Hid (zC 53 #[.agg #[.int .i64 4,.string n,.int .i64 0,.int .i64 0,.int .i64 0,.string ⟨#[]⟩,.slice ra rn rc]] w1 fun e w'=>e=.returned (.bool false)/\w'=w1.alloc (.cells #[.int .i64 4,.string n,.int .i64 0,.int .i64 0,.int .i64 0,.string ⟨#[]⟩,.slice ra rn rc] 38)):=ye ⟨4,n,0,0,0,⟨#[]⟩,[]⟩ (.slice ra rn rc) w1;refine HP2.out.mono ?_;rintro e w3 ⟨rfl,hwx⟩;have hbx:zB w1 w3:=by rw[hwx];exact zF.alloc zN _
 have k3:=k1.below hbx k1.lt;have hb3:zB w w3:=zT hb1 hbx;clear HP2 hwx hbx k1 hb1;have h3:=zbf 0 0 0 0 0 0;obtain⟨xc0,xc1,xc2,xc3,xc4,xc5,xc6⟩:=zJ k3;go_upto_region 11 with fail;clear xc0 xc1 xc2 xc3 xc4 xc5 xc6;clear h3;obtain⟨q,hq⟩:∃q,decide (InV 0 0 0)=q:=⟨_,rfl⟩;have HANY:Hid (∀W',zC 145 #[] W' fun e w'=>∃a' c',e=.returned (.agg #[.slice a' zr.length c'])/\zi w' (.slice a' zr.length c') zr/\zB W' w'):=fun W'=>(QH W').mono fun e w' ⟨v',he,hs,hn,hb⟩=>by obtain⟨a',c',rfl⟩:=hs.form;exact⟨a',c',he,hs,hb⟩
 have HHAS:Hid (∀va vc W',zi W' (.slice va zr.length vc) zr->zR 60 #[.agg #[.slice va zr.length vc],.agg #[.int .i64 0,.int .i64 0,.int .i64 0]] W' (.bool q)):=fun va vc W' h=>by rw[<-hq];exact XP va vc 0 0 0 W' h
 have HQ:=zH hq;clear hq;have hxl:=k3.lt;have SC:Hid (∀W',zB w3 W'->W'.cell? ⟨w.heap.size,2,none⟩=some (.int .i64 0)/\W'.cell? ⟨w.heap.size,3,none⟩=some (.int .i64 0)/\W'.cell? ⟨w.heap.size,4,none⟩=some (.int .i64 0)):=fun W' h=>⟨(k3.below h hxl).cell 2,(k3.below h hxl).cell 3,(k3.below h hxl).cell 4⟩;have HB0:=zH hb3;clear k3 hb3 hxl;have D0:zB w3 w3.drew:=zF.drew;go_region_held3 (fun W'=>W'.cell? ⟨w.heap.size,2,none⟩=some (.int .i64 0)/\W'.cell? ⟨w.heap.size,3,none⟩=some (.int .i64 0)/\W'.cell? ⟨w.heap.size,4,none⟩=some (.int .i64 0)) (first|exact SC.out _ D0|exact SC.out _ D1|exact SC.out _ D2)
  (first
   |((with_reducible refine(HANY.out _).mono ?_);rintro e x1 ⟨va,vc,rfl,hs1,hb1⟩;have D1:zB w3 x1:=zT D0 hb1;clear HANY D0 hb1)
   | ((with_reducible refine (HHAS.out _ _ _ hs1).mono ?_);rintro e x2 ⟨rfl,hb2⟩;have D2:zB w3 x2:=zT D1 hb2;clear HHAS D1 hb2 hs1))
 have HB:Hid (zB w x2):=zT HB0.out D2;clear D2 HB0 SC;obtain rfl:q=true:=by rw[<-HQ.out];decide
 go_wp2;go_ret;exact⟨rfl,HB.out⟩
end
section
open Go.RowKit Sv
theorem zmb(x:Ln)(v:Value)(w:World)(hv:zi w v x.rng) :
  zR 91 #[.agg #[.int .i64 x.kind,.string x.name,.int .i64 x.a,.int .i64 x.b,.int .i64 x.c,.string x.other,v]] w (.int .i64 (qJ x)):=by
 obtain⟨ra,rc,rfl⟩:=hv.form;clear hv;obtain⟨k,n,a,b,c,o,r⟩:=x;unfold qJ Ln.pair;simp only
 by_cases hk:k<1\/4<k
 ·rw[if_pos hk];rcases hk with hk|hk
  ·exact zob k n o a b c ra r.length rc w hk
  ·exact zgi k n o a b c ra r.length rc w hk
 rw[if_neg hk];have hk4:k=1\/k=2\/k=3\/k=4:=by omega
 by_cases hn:zV n
 ·rcases hk4 with rfl|rfl|rfl|rfl
  ·have h1:¬(¬zV n\/(((1:Int)=2\/(1:Int)=3)/\¬zV o)):=by
    rintro (h|⟨h,_⟩)
    ·exact h hn
    ·omega
   rw[if_neg h1]
   by_cases ho:o.size≠0
   ·rw[if_pos ⟨by omega,ho⟩];exact zlC n o a b c ra r.length rc w hn (by omega)
   ·rw[if_neg (fun h=>ho h.2)];obtain rfl:=Yz (s:=o) (by omega);cases r with
    |nil =>
     rw[if_neg (fun h=>h.2 rfl),if_neg (by omega)];refine(zhI n a b c ra rc w hn).mono fun e w' ⟨h1,h2⟩=>⟨?_,h2⟩;rw[h1]
     by_cases hi:InV a b c
     ·rw[if_pos hi,if_neg (fun h=>h hi)]
     ·rw[if_neg hi,if_pos hi]
    |cons s r =>rw[if_pos ⟨rfl,by simp⟩];exact zhn n a b c ra (s :: r).length rc w hn (by simp)
  ·by_cases ho:zV o
   ·have h1:¬(¬zV n\/(((2:Int)=2\/(2:Int)=3)/\¬zV o)):=by
     rintro (h|⟨_,h⟩)
     ·exact h hn
     ·exact h ho
    rw[if_neg h1,if_neg (fun h=>h.1 (Or.inl rfl)),if_neg (by omega),if_neg (by omega)];refine(zgJ n o a b c ra r.length rc w hn ho).mono fun e w' ⟨h1,h2⟩=>⟨?_,h2⟩;rw[h1]
    by_cases hi:InV a b c
    ·rw[if_pos hi,if_neg (fun h=>h hi)]
    ·rw[if_neg hi,if_pos hi]
   ·rw[if_pos (Or.inr ⟨Or.inl rfl,ho⟩)];exact zfS n o a b c ra r.length rc w hn ho
  ·by_cases ho:zV o
   ·have h1:¬(¬zV n\/(((3:Int)=2\/(3:Int)=3)/\¬zV o)):=by
     rintro (h|⟨_,h⟩)
     ·exact h hn
     ·exact h ho
    rw[if_neg h1,if_neg (fun h=>h.1 (Or.inr rfl)),if_neg (by omega),if_neg (by omega)];refine(zjg n o a b c ra r.length rc w hn ho).mono fun e w' ⟨h1,h2⟩=>⟨?_,h2⟩;rw[h1]
    by_cases hi:InV a b c
    ·rw[if_pos hi,if_neg (fun h=>h hi)]
    ·rw[if_neg hi,if_pos hi]
   ·rw[if_pos (Or.inr ⟨Or.inr rfl,ho⟩)];exact zfW n o a b c ra r.length rc w hn ho
  ·have h1:¬(¬zV n\/(((4:Int)=2\/(4:Int)=3)/\¬zV o)):=by
    rintro (h|⟨h,_⟩)
    ·exact h hn
    ·omega
   rw[if_neg h1]
   by_cases ho:o.size≠0
   ·rw[if_pos ⟨by omega,ho⟩];exact zoj n o a b c ra r.length rc w hn (by omega)
   ·rw[if_neg (fun h=>ho h.2),if_neg (by omega)];obtain rfl:=Yz (s:=o) (by omega)
    by_cases hz:a≠0\/b≠0\/c≠0
    ·rw[if_pos ⟨rfl,hz⟩];refine zfx n a b c ra r.length rc w hn ?_
     by_cases h0:a=0
     ·by_cases h1:b=0
      ·have h2:c≠0:=by omega
       simp[h2]
      ·simp[h1]
     ·simp[h0]
    ·rw[if_neg (fun h=>hz h.2)];obtain rfl:a=0:=by omega
     obtain rfl:b=0:=by omega
     obtain rfl:c=0:=by omega
     rw[if_neg (fun h=>h (by decide))];exact zg0 n ra r.length rc w hn
 ·rw[if_pos (Or.inl hn)];rcases hk4 with rfl|rfl|rfl|rfl
  ·exact zhi n o a b c ra r.length rc w hn
  ·exact zos n o a b c ra r.length rc w hn
  ·exact zlr n o a b c ra r.length rc w hn
  ·exact zn9 n o a b c ra r.length rc w hn
end
end Go.Proofs.YtapobpgbcbplbaaGreatDoor
