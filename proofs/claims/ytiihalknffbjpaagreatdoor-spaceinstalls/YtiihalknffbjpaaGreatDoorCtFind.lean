/- Items found, and copied. -/
import Derived.Test.YtiihalknffbjpaaGreatDoorCtChk
set_option maxHeartbeats 2000000
set_option maxRecDepth 100000
namespace Go.Proofs.YtiihalknffbjpaaGreatDoor
section
open Go.RowKit Sv
theorem zuN(k:Int)(n o:ByteArray)(a b c:Int)(ra:Option Addr)(rn rc:Nat)(w:World)(hk:k<1) :
  ChkR w 1 #[.int .i64 k,.string n,.int .i64 a,.int .i64 b,.int .i64 c,.string o,.slice ra rn rc]:=by
 obtain⟨W0,hW0,k0,hb0⟩:=lbox w #[.int .i64 k,.string n,.int .i64 a,.int .i64 b,.int .i64 c,.string o,.slice ra rn rc];go_enter Tryz.func263,Tryz.ntmps263;go_upto_region 1 with fail;clear hW0;have hk2:¬(4:Int)<k:=by omega
 obtain⟨xc0,xc1,xc2,xc3,xc4,xc5,xc6⟩:=cells7 k0;have HB:=zH hb0;clear k0 hb0;go_wp2;go_ret;exact⟨rfl,HB.out⟩
theorem zsr(k:Int)(n o:ByteArray)(a b c:Int)(ra:Option Addr)(rn rc:Nat)(w:World)(hk:4<k) :
  ChkR w 1 #[.int .i64 k,.string n,.int .i64 a,.int .i64 b,.int .i64 c,.string o,.slice ra rn rc]:=by
 obtain⟨W0,hW0,k0,hb0⟩:=lbox w #[.int .i64 k,.string n,.int .i64 a,.int .i64 b,.int .i64 c,.string o,.slice ra rn rc];go_enter Tryz.func263,Tryz.ntmps263;go_upto_region 1 with fail;clear hW0;have hk2:¬k<(1:Int):=by omega
 obtain⟨xc0,xc1,xc2,xc3,xc4,xc5,xc6⟩:=cells7 k0;have HB:=zH hb0;clear k0 hb0;go_wp2;go_ret;exact⟨rfl,HB.out⟩
theorem zqI(n o:ByteArray)(a b c:Int)(ra:Option Addr)(rn rc:Nat)(w:World)(hn:¬zaj n) :
  ChkR w 5 #[.int .i64 1,.string n,.int .i64 a,.int .i64 b,.int .i64 c,.string o,.slice ra rn rc]:=by
 obtain⟨W0,hW0,k0,hb0⟩:=lbox w #[.int .i64 1,.string n,.int .i64 a,.int .i64 b,.int .i64 c,.string o,.slice ra rn rc];go_enter Tryz.func263,Tryz.ntmps263;go_upto_region 1 with fail;clear hW0;obtain⟨xc0,xc1,xc2,xc3,xc4,xc5,xc6⟩:=cells7 k0;go_wp2_with fail;clear xc0 xc1 xc2 xc3 xc4 xc5 xc6;refine(zfB n W0 hn).mono ?_;rintro e w1 ⟨rfl,hwx⟩;subst hwx;have HB:=zH hb0;clear k0 hb0;go_wp2;go_ret;exact⟨rfl,HB.out⟩
theorem zpY(n o:ByteArray)(a b c:Int)(ra:Option Addr)(rn rc:Nat)(w:World)(hn:¬zaj n) :
  ChkR w 5 #[.int .i64 2,.string n,.int .i64 a,.int .i64 b,.int .i64 c,.string o,.slice ra rn rc]:=by
 obtain⟨W0,hW0,k0,hb0⟩:=lbox w #[.int .i64 2,.string n,.int .i64 a,.int .i64 b,.int .i64 c,.string o,.slice ra rn rc];go_enter Tryz.func263,Tryz.ntmps263;go_upto_region 1 with fail;clear hW0;obtain⟨xc0,xc1,xc2,xc3,xc4,xc5,xc6⟩:=cells7 k0;go_wp2_with fail;clear xc0 xc1 xc2 xc3 xc4 xc5 xc6;refine(zfB n W0 hn).mono ?_;rintro e w1 ⟨rfl,hwx⟩;subst hwx;have HB:=zH hb0;clear k0 hb0;go_wp2;go_ret;exact⟨rfl,HB.out⟩
theorem zpC(n o:ByteArray)(a b c:Int)(ra:Option Addr)(rn rc:Nat)(w:World)(hn:¬zaj n) :
  ChkR w 5 #[.int .i64 3,.string n,.int .i64 a,.int .i64 b,.int .i64 c,.string o,.slice ra rn rc]:=by
 obtain⟨W0,hW0,k0,hb0⟩:=lbox w #[.int .i64 3,.string n,.int .i64 a,.int .i64 b,.int .i64 c,.string o,.slice ra rn rc];go_enter Tryz.func263,Tryz.ntmps263;go_upto_region 1 with fail;clear hW0;obtain⟨xc0,xc1,xc2,xc3,xc4,xc5,xc6⟩:=cells7 k0;go_wp2_with fail;clear xc0 xc1 xc2 xc3 xc4 xc5 xc6;refine(zfB n W0 hn).mono ?_;rintro e w1 ⟨rfl,hwx⟩;subst hwx;have HB:=zH hb0;clear k0 hb0;go_wp2;go_ret;exact⟨rfl,HB.out⟩
theorem zrq(n o:ByteArray)(a b c:Int)(ra:Option Addr)(rn rc:Nat)(w:World)(hn:¬zaj n) :
  ChkR w 5 #[.int .i64 4,.string n,.int .i64 a,.int .i64 b,.int .i64 c,.string o,.slice ra rn rc]:=by
 obtain⟨W0,hW0,k0,hb0⟩:=lbox w #[.int .i64 4,.string n,.int .i64 a,.int .i64 b,.int .i64 c,.string o,.slice ra rn rc];go_enter Tryz.func263,Tryz.ntmps263;go_upto_region 1 with fail;clear hW0;obtain⟨xc0,xc1,xc2,xc3,xc4,xc5,xc6⟩:=cells7 k0;go_wp2_with fail;clear xc0 xc1 xc2 xc3 xc4 xc5 xc6;refine(zfB n W0 hn).mono ?_;rintro e w1 ⟨rfl,hwx⟩;subst hwx;have HB:=zH hb0;clear k0 hb0;go_wp2;go_ret;exact⟨rfl,HB.out⟩
theorem znU(n o:ByteArray)(a b c:Int)(ra:Option Addr)(rn rc:Nat)(w:World)(hn:zaj n)(ho:¬zaj o) :
  ChkR w 5 #[.int .i64 2,.string n,.int .i64 a,.int .i64 b,.int .i64 c,.string o,.slice ra rn rc]:=by
 obtain⟨W0,hW0,k0,hb0⟩:=lbox w #[.int .i64 2,.string n,.int .i64 a,.int .i64 b,.int .i64 c,.string o,.slice ra rn rc];go_enter Tryz.func263,Tryz.ntmps263;go_upto_region 1 with fail;clear hW0;obtain⟨xc0,xc1,xc2,xc3,xc4,xc5,xc6⟩:=cells7 k0;go_wp2_with fail;clear xc0 xc1 xc2 xc3 xc4 xc5 xc6;refine(zbI n W0 hn).mono ?_;rintro e w1 ⟨rfl,hwx⟩;subst hwx;obtain⟨xc0,xc1,xc2,xc3,xc4,xc5,xc6⟩:=cells7 k0;go_wp2_with fail;clear xc0 xc1 xc2 xc3 xc4 xc5 xc6;have HP1:Hid (zC 135 #[.agg #[.int .i64 2,.string n,.int .i64 a,.int .i64 b,.int .i64 c,.string o,.slice ra rn rc]] W0 fun e w'=>e=.returned (.bool true)/\w'=W0.alloc (.cells #[.int .i64 2,.string n,.int .i64 a,.int .i64 b,.int .i64 c,.string o,.slice ra rn rc] 130)):=zaQ ⟨2,n,a,b,c,o,[]⟩ (.slice ra rn rc) W0;refine HP1.out.mono ?_;rintro e w1 ⟨rfl,hwx⟩;have hbx:zB W0 w1:=by rw[hwx];exactzF.alloc zN _
 have k1:=k0.below hbx k0.lt;have hb1:zB w w1:=zT hb0 hbx;clear HP1 hwx hbx k0 hb0;obtain⟨xc0,xc1,xc2,xc3,xc4,xc5,xc6⟩:=cells7 k1;go_wp2_with fail;clear xc0 xc1 xc2 xc3 xc4 xc5 xc6;refine(zfB o w1 ho).mono ?_;rintro e w2 ⟨rfl,hwx⟩;subst hwx;have HB:=zH hb1;clear k1 hb1;go_wp2;go_ret;exact⟨rfl,HB.out⟩
theorem zog(n o:ByteArray)(a b c:Int)(ra:Option Addr)(rn rc:Nat)(w:World)(hn:zaj n)(ho:¬zaj o) :
  ChkR w 5 #[.int .i64 3,.string n,.int .i64 a,.int .i64 b,.int .i64 c,.string o,.slice ra rn rc]:=by
 obtain⟨W0,hW0,k0,hb0⟩:=lbox w #[.int .i64 3,.string n,.int .i64 a,.int .i64 b,.int .i64 c,.string o,.slice ra rn rc];go_enter Tryz.func263,Tryz.ntmps263;go_upto_region 1 with fail;clear hW0;obtain⟨xc0,xc1,xc2,xc3,xc4,xc5,xc6⟩:=cells7 k0;go_wp2_with fail;clear xc0 xc1 xc2 xc3 xc4 xc5 xc6;refine(zbI n W0 hn).mono ?_;rintro e w1 ⟨rfl,hwx⟩;subst hwx;obtain⟨xc0,xc1,xc2,xc3,xc4,xc5,xc6⟩:=cells7 k0;go_wp2_with fail;clear xc0 xc1 xc2 xc3 xc4 xc5 xc6;have HP1:Hid (zC 135 #[.agg #[.int .i64 3,.string n,.int .i64 a,.int .i64 b,.int .i64 c,.string o,.slice ra rn rc]] W0 fun e w'=>e=.returned (.bool true)/\w'=W0.alloc (.cells #[.int .i64 3,.string n,.int .i64 a,.int .i64 b,.int .i64 c,.string o,.slice ra rn rc] 130)):=zaQ ⟨3,n,a,b,c,o,[]⟩ (.slice ra rn rc) W0;refine HP1.out.mono ?_;rintro e w1 ⟨rfl,hwx⟩;have hbx:zB W0 w1:=by rw[hwx];exactzF.alloc zN _
 have k1:=k0.below hbx k0.lt;have hb1:zB w w1:=zT hb0 hbx;clear HP1 hwx hbx k0 hb0;obtain⟨xc0,xc1,xc2,xc3,xc4,xc5,xc6⟩:=cells7 k1;go_wp2_with fail;clear xc0 xc1 xc2 xc3 xc4 xc5 xc6;refine(zfB o w1 ho).mono ?_;rintro e w2 ⟨rfl,hwx⟩;subst hwx;have HB:=zH hb1;clear k1 hb1;go_wp2;go_ret;exact⟨rfl,HB.out⟩
theorem zoI(n o:ByteArray)(a b c:Int)(ra:Option Addr)(rn rc:Nat)(w:World)(hn:zaj n)(ho:zaj o) :
  zR 263 #[.agg #[.int .i64 2,.string n,.int .i64 a,.int .i64 b,.int .i64 c,.string o,.slice ra rn rc]] w (.int .i64 (if InV a b c then (0:Int) else 2)):=by
 obtain⟨Z,hZ⟩:∃Z:Int,(if InV a b c then (0:Int) else 2)=Z:=⟨_,rfl⟩;rw[hZ];have HZ:=zH hZ;clear hZ;obtain⟨W0,hW0,k0,hb0⟩:=lbox w #[.int .i64 2,.string n,.int .i64 a,.int .i64 b,.int .i64 c,.string o,.slice ra rn rc];go_enter Tryz.func263,Tryz.ntmps263;go_upto_region 1 with fail;clear hW0;obtain⟨xc0,xc1,xc2,xc3,xc4,xc5,xc6⟩:=cells7 k0;go_wp2_with fail;clear xc0 xc1 xc2 xc3 xc4 xc5 xc6;refine(zbI n W0 hn).mono ?_;rintro e w1 ⟨rfl,hwx⟩;subst hwx;obtain⟨xc0,xc1,xc2,xc3,xc4,xc5,xc6⟩:=cells7 k0;go_wp2_with fail;clear xc0 xc1 xc2 xc3 xc4 xc5 xc6;have HP1:Hid (zC 135 #[.agg #[.int .i64 2,.string n,.int .i64 a,.int .i64 b,.int .i64 c,.string o,.slice ra rn rc]] W0 fun e w'=>e=.returned (.bool true)/\w'=W0.alloc (.cells #[.int .i64 2,.string n,.int .i64 a,.int .i64 b,.int .i64 c,.string o,.slice ra rn rc] 130)):=zaQ ⟨2,n,a,b,c,o,[]⟩ (.slice ra rn rc) W0;refine HP1.out.mono ?_;rintro e w1 ⟨rfl,hwx⟩;have hbx:zB W0 w1:=by rw[hwx];exactzF.alloc zN _
 have k1:=k0.below hbx k0.lt;have hb1:zB w w1:=zT hb0 hbx;clear HP1 hwx hbx k0 hb0;obtain⟨xc0,xc1,xc2,xc3,xc4,xc5,xc6⟩:=cells7 k1;go_wp2_with fail;clear xc0 xc1 xc2 xc3 xc4 xc5 xc6;refine(zbI o w1 ho).mono ?_;rintro e w2 ⟨rfl,hwx⟩;subst hwx;obtain⟨xc0,xc1,xc2,xc3,xc4,xc5,xc6⟩:=cells7 k1;go_wp2_with fail;clear xc0 xc1 xc2 xc3 xc4 xc5 xc6;have HP2:Hid (zC 135 #[.agg #[.int .i64 2,.string n,.int .i64 a,.int .i64 b,.int .i64 c,.string o,.slice ra rn rc]] w1 fun e w'=>e=.returned (.bool true)/\w'=w1.alloc (.cells #[.int .i64 2,.string n,.int .i64 a,.int .i64 b,.int .i64 c,.string o,.slice ra rn rc] 130)):=zaQ ⟨2,n,a,b,c,o,[]⟩ (.slice ra rn rc) w1;refine HP2.out.mono ?_;rintro e w3 ⟨rfl,hwx⟩;have hbx:zB w1 w3:=by rw[hwx];exactzF.alloc zN _
 have k3:=k1.below hbx k1.lt;have hb3:zB w w3:=zT hb1 hbx;clear HP2 hwx hbx k1 hb1;obtain⟨xc0,xc1,xc2,xc3,xc4,xc5,xc6⟩:=cells7 k3;go_upto_region 11 with fail;clear xc0 xc1 xc2 xc3 xc4 xc5 xc6;obtain⟨q,hq⟩:∃q,decide (InV a b c)=q:=⟨_,rfl⟩;have HANY:Hid (∀W',zC 259 #[] W' fun e w'=>∃a' c',e=.returned (.agg #[.slice a' zbc.length c'])/\zaZ w' (.slice a' zbc.length c') zbc/\zB W' w'):=fun W'=>(zfp W').mono fun e w' ⟨v',he,hs,hn,hb⟩=>by obtain⟨a',c',rfl⟩:=hs.form;exact⟨a',c',he,hs,hb⟩
 have HHAS:Hid (∀va vc W',zaZ W' (.slice va zbc.length vc) zbc->zR 218 #[.agg #[.slice va zbc.length vc],.agg #[.int .i64 a,.int .i64 b,.int .i64 c]] W' (.bool q)):=fun va vc W' h=>by rw[<-hq];exact zmI va vc a b c W' h
 have HQ:=zH hq;clear hq;have hxl:=k3.lt;have SC:Hid (∀W',zB w3 W'->W'.cell? ⟨w.heap.size,2,none⟩=some (.int .i64 a)/\W'.cell? ⟨w.heap.size,3,none⟩=some (.int .i64 b)/\W'.cell? ⟨w.heap.size,4,none⟩=some (.int .i64 c)):=fun W' h=>⟨(k3.below h hxl).cell 2,(k3.below h hxl).cell 3,(k3.below h hxl).cell 4⟩;have HB0:=zH hb3;clear k3 hb3 hxl;have D0:zB w3 w3.drew:=zF.drew;go_region_held3 (fun W'=>W'.cell? ⟨w.heap.size,2,none⟩=some (.int .i64 a)/\W'.cell? ⟨w.heap.size,3,none⟩=some (.int .i64 b)/\W'.cell? ⟨w.heap.size,4,none⟩=some (.int .i64 c)) (first|exact SC.out _ D0|exact SC.out _ D1|exact SC.out _ D2)
  (first
   |((with_reducible refine(HANY.out _).mono ?_);rintro e x1 ⟨va,vc,rfl,hs1,hb1⟩;have D1:zB w3 x1:=zT D0 hb1;clear HANY D0 hb1)
   | ((with_reducible refine (HHAS.out _ _ _ hs1).mono ?_);rintro e x2 ⟨rfl,hb2⟩;have D2:zB w3 x2:=zT D1 hb2;clear HHAS D1 hb2 hs1))
 have HB:Hid (zB w x2):=zT HB0.out D2;clear D2 HB0 SC;cases q with
 |true =>
  have HC:Hid (Z=0):=by have h:=HQ.out;show _=_;rw[<-HZ.out];exact if_pos (by simpa using h)
  go_wp2;go_ret;exact⟨by rw[HC.out];rfl,HB.out⟩
 |false =>
  have HC:Hid (Z=2):=by have h:=HQ.out;show _=_;rw[<-HZ.out];exact if_neg (by simpa using h)
  go_wp2;go_ret;exact⟨by rw[HC.out];rfl,HB.out⟩
theorem zp7(n o:ByteArray)(a b c:Int)(ra:Option Addr)(rn rc:Nat)(w:World)(hn:zaj n)(ho:zaj o) :
  zR 263 #[.agg #[.int .i64 3,.string n,.int .i64 a,.int .i64 b,.int .i64 c,.string o,.slice ra rn rc]] w (.int .i64 (if InV a b c then (0:Int) else 2)):=by
 obtain⟨Z,hZ⟩:∃Z:Int,(if InV a b c then (0:Int) else 2)=Z:=⟨_,rfl⟩;rw[hZ];have HZ:=zH hZ;clear hZ;obtain⟨W0,hW0,k0,hb0⟩:=lbox w #[.int .i64 3,.string n,.int .i64 a,.int .i64 b,.int .i64 c,.string o,.slice ra rn rc];go_enter Tryz.func263,Tryz.ntmps263;go_upto_region 1 with fail;clear hW0;obtain⟨xc0,xc1,xc2,xc3,xc4,xc5,xc6⟩:=cells7 k0;go_wp2_with fail;clear xc0 xc1 xc2 xc3 xc4 xc5 xc6;refine(zbI n W0 hn).mono ?_;rintro e w1 ⟨rfl,hwx⟩;subst hwx;obtain⟨xc0,xc1,xc2,xc3,xc4,xc5,xc6⟩:=cells7 k0;go_wp2_with fail;clear xc0 xc1 xc2 xc3 xc4 xc5 xc6;have HP1:Hid (zC 135 #[.agg #[.int .i64 3,.string n,.int .i64 a,.int .i64 b,.int .i64 c,.string o,.slice ra rn rc]] W0 fun e w'=>e=.returned (.bool true)/\w'=W0.alloc (.cells #[.int .i64 3,.string n,.int .i64 a,.int .i64 b,.int .i64 c,.string o,.slice ra rn rc] 130)):=zaQ ⟨3,n,a,b,c,o,[]⟩ (.slice ra rn rc) W0;refine HP1.out.mono ?_;rintro e w1 ⟨rfl,hwx⟩;have hbx:zB W0 w1:=by rw[hwx];exactzF.alloc zN _
 have k1:=k0.below hbx k0.lt;have hb1:zB w w1:=zT hb0 hbx;clear HP1 hwx hbx k0 hb0;obtain⟨xc0,xc1,xc2,xc3,xc4,xc5,xc6⟩:=cells7 k1;go_wp2_with fail;clear xc0 xc1 xc2 xc3 xc4 xc5 xc6;refine(zbI o w1 ho).mono ?_;rintro e w2 ⟨rfl,hwx⟩;subst hwx;obtain⟨xc0,xc1,xc2,xc3,xc4,xc5,xc6⟩:=cells7 k1;go_wp2_with fail;clear xc0 xc1 xc2 xc3 xc4 xc5 xc6;have HP2:Hid (zC 135 #[.agg #[.int .i64 3,.string n,.int .i64 a,.int .i64 b,.int .i64 c,.string o,.slice ra rn rc]] w1 fun e w'=>e=.returned (.bool true)/\w'=w1.alloc (.cells #[.int .i64 3,.string n,.int .i64 a,.int .i64 b,.int .i64 c,.string o,.slice ra rn rc] 130)):=zaQ ⟨3,n,a,b,c,o,[]⟩ (.slice ra rn rc) w1;refine HP2.out.mono ?_;rintro e w3 ⟨rfl,hwx⟩;have hbx:zB w1 w3:=by rw[hwx];exactzF.alloc zN _
 have k3:=k1.below hbx k1.lt;have hb3:zB w w3:=zT hb1 hbx;clear HP2 hwx hbx k1 hb1;obtain⟨xc0,xc1,xc2,xc3,xc4,xc5,xc6⟩:=cells7 k3;go_upto_region 11 with fail;clear xc0 xc1 xc2 xc3 xc4 xc5 xc6;obtain⟨q,hq⟩:∃q,decide (InV a b c)=q:=⟨_,rfl⟩;have HANY:Hid (∀W',zC 259 #[] W' fun e w'=>∃a' c',e=.returned (.agg #[.slice a' zbc.length c'])/\zaZ w' (.slice a' zbc.length c') zbc/\zB W' w'):=fun W'=>(zfp W').mono fun e w' ⟨v',he,hs,hn,hb⟩=>by obtain⟨a',c',rfl⟩:=hs.form;exact⟨a',c',he,hs,hb⟩
 have HHAS:Hid (∀va vc W',zaZ W' (.slice va zbc.length vc) zbc->zR 218 #[.agg #[.slice va zbc.length vc],.agg #[.int .i64 a,.int .i64 b,.int .i64 c]] W' (.bool q)):=fun va vc W' h=>by rw[<-hq];exact zmI va vc a b c W' h
 have HQ:=zH hq;clear hq;have hxl:=k3.lt;have SC:Hid (∀W',zB w3 W'->W'.cell? ⟨w.heap.size,2,none⟩=some (.int .i64 a)/\W'.cell? ⟨w.heap.size,3,none⟩=some (.int .i64 b)/\W'.cell? ⟨w.heap.size,4,none⟩=some (.int .i64 c)):=fun W' h=>⟨(k3.below h hxl).cell 2,(k3.below h hxl).cell 3,(k3.below h hxl).cell 4⟩;have HB0:=zH hb3;clear k3 hb3 hxl;have D0:zB w3 w3.drew:=zF.drew;go_region_held3 (fun W'=>W'.cell? ⟨w.heap.size,2,none⟩=some (.int .i64 a)/\W'.cell? ⟨w.heap.size,3,none⟩=some (.int .i64 b)/\W'.cell? ⟨w.heap.size,4,none⟩=some (.int .i64 c)) (first|exact SC.out _ D0|exact SC.out _ D1|exact SC.out _ D2)
  (first
   |((with_reducible refine(HANY.out _).mono ?_);rintro e x1 ⟨va,vc,rfl,hs1,hb1⟩;have D1:zB w3 x1:=zT D0 hb1;clear HANY D0 hb1)
   | ((with_reducible refine (HHAS.out _ _ _ hs1).mono ?_);rintro e x2 ⟨rfl,hb2⟩;have D2:zB w3 x2:=zT D1 hb2;clear HHAS D1 hb2 hs1))
 have HB:Hid (zB w x2):=zT HB0.out D2;clear D2 HB0 SC;cases q with
 |true =>
  have HC:Hid (Z=0):=by have h:=HQ.out;show _=_;rw[<-HZ.out];exact if_pos (by simpa using h)
  go_wp2;go_ret;exact⟨by rw[HC.out];rfl,HB.out⟩
 |false =>
  have HC:Hid (Z=2):=by have h:=HQ.out;show _=_;rw[<-HZ.out];exact if_neg (by simpa using h)
  go_wp2;go_ret;exact⟨by rw[HC.out];rfl,HB.out⟩
theorem zse(n o:ByteArray)(a b c:Int)(ra:Option Addr)(rn rc:Nat)(w:World)(hn:zaj n)(ho:0<o.size) :
  ChkR w 1 #[.int .i64 1,.string n,.int .i64 a,.int .i64 b,.int .i64 c,.string o,.slice ra rn rc]:=by
 obtain⟨W0,hW0,k0,hb0⟩:=lbox w #[.int .i64 1,.string n,.int .i64 a,.int .i64 b,.int .i64 c,.string o,.slice ra rn rc];go_enter Tryz.func263,Tryz.ntmps263;go_upto_region 1 with fail;clear hW0;obtain⟨xc0,xc1,xc2,xc3,xc4,xc5,xc6⟩:=cells7 k0;go_wp2_with fail;clear xc0 xc1 xc2 xc3 xc4 xc5 xc6;refine(zbI n W0 hn).mono ?_;rintro e w1 ⟨rfl,hwx⟩;subst hwx;obtain⟨xc0,xc1,xc2,xc3,xc4,xc5,xc6⟩:=cells7 k0;go_wp2_with fail;clear xc0 xc1 xc2 xc3 xc4 xc5 xc6;have HP1:Hid (zC 135 #[.agg #[.int .i64 1,.string n,.int .i64 a,.int .i64 b,.int .i64 c,.string o,.slice ra rn rc]] W0 fun e w'=>e=.returned (.bool false)/\w'=W0.alloc (.cells #[.int .i64 1,.string n,.int .i64 a,.int .i64 b,.int .i64 c,.string o,.slice ra rn rc] 130)):=zaQ ⟨1,n,a,b,c,o,[]⟩ (.slice ra rn rc) W0;refine HP1.out.mono ?_;rintro e w1 ⟨rfl,hwx⟩;have hbx:zB W0 w1:=by rw[hwx];exactzF.alloc zN _
 have k1:=k0.below hbx k0.lt;have hb1:zB w w1:=zT hb0 hbx;clear HP1 hwx hbx k0 hb0;obtain⟨xc0,xc1,xc2,xc3,xc4,xc5,xc6⟩:=cells7 k1;go_wp2_with fail;clear xc0 xc1 xc2 xc3 xc4 xc5 xc6;have HP2:Hid (zC 135 #[.agg #[.int .i64 1,.string n,.int .i64 a,.int .i64 b,.int .i64 c,.string o,.slice ra rn rc]] w1 fun e w'=>e=.returned (.bool false)/\w'=w1.alloc (.cells #[.int .i64 1,.string n,.int .i64 a,.int .i64 b,.int .i64 c,.string o,.slice ra rn rc] 130)):=zaQ ⟨1,n,a,b,c,o,[]⟩ (.slice ra rn rc) w1;refine HP2.out.mono ?_;rintro e w3 ⟨rfl,hwx⟩;have hbx:zB w1 w3:=by rw[hwx];exactzF.alloc zN _
 have k3:=k1.below hbx k1.lt;have hb3:zB w w3:=zT hb1 hbx;clear HP2 hwx hbx k1 hb1;have he1:o.toList.isEmpty=false:=zaE ho;have he2:(o.toList==[])=false:=by rw[beq_eq_false_iff_ne];intro h;rw[h] at he1;cases he1
 obtain⟨xc0,xc1,xc2,xc3,xc4,xc5,xc6⟩:=cells7 k3;have HB:=zH hb3;clear k3 hb3;go_wp2;go_ret;exact⟨rfl,HB.out⟩
theorem zrK(n o:ByteArray)(a b c:Int)(ra:Option Addr)(rn rc:Nat)(w:World)(hn:zaj n)(ho:0<o.size) :
  ChkR w 1 #[.int .i64 4,.string n,.int .i64 a,.int .i64 b,.int .i64 c,.string o,.slice ra rn rc]:=by
 obtain⟨W0,hW0,k0,hb0⟩:=lbox w #[.int .i64 4,.string n,.int .i64 a,.int .i64 b,.int .i64 c,.string o,.slice ra rn rc];go_enter Tryz.func263,Tryz.ntmps263;go_upto_region 1 with fail;clear hW0;obtain⟨xc0,xc1,xc2,xc3,xc4,xc5,xc6⟩:=cells7 k0;go_wp2_with fail;clear xc0 xc1 xc2 xc3 xc4 xc5 xc6;refine(zbI n W0 hn).mono ?_;rintro e w1 ⟨rfl,hwx⟩;subst hwx;obtain⟨xc0,xc1,xc2,xc3,xc4,xc5,xc6⟩:=cells7 k0;go_wp2_with fail;clear xc0 xc1 xc2 xc3 xc4 xc5 xc6;have HP1:Hid (zC 135 #[.agg #[.int .i64 4,.string n,.int .i64 a,.int .i64 b,.int .i64 c,.string o,.slice ra rn rc]] W0 fun e w'=>e=.returned (.bool false)/\w'=W0.alloc (.cells #[.int .i64 4,.string n,.int .i64 a,.int .i64 b,.int .i64 c,.string o,.slice ra rn rc] 130)):=zaQ ⟨4,n,a,b,c,o,[]⟩ (.slice ra rn rc) W0;refine HP1.out.mono ?_;rintro e w1 ⟨rfl,hwx⟩;have hbx:zB W0 w1:=by rw[hwx];exactzF.alloc zN _
 have k1:=k0.below hbx k0.lt;have hb1:zB w w1:=zT hb0 hbx;clear HP1 hwx hbx k0 hb0;obtain⟨xc0,xc1,xc2,xc3,xc4,xc5,xc6⟩:=cells7 k1;go_wp2_with fail;clear xc0 xc1 xc2 xc3 xc4 xc5 xc6;have HP2:Hid (zC 135 #[.agg #[.int .i64 4,.string n,.int .i64 a,.int .i64 b,.int .i64 c,.string o,.slice ra rn rc]] w1 fun e w'=>e=.returned (.bool false)/\w'=w1.alloc (.cells #[.int .i64 4,.string n,.int .i64 a,.int .i64 b,.int .i64 c,.string o,.slice ra rn rc] 130)):=zaQ ⟨4,n,a,b,c,o,[]⟩ (.slice ra rn rc) w1;refine HP2.out.mono ?_;rintro e w3 ⟨rfl,hwx⟩;have hbx:zB w1 w3:=by rw[hwx];exactzF.alloc zN _
 have k3:=k1.below hbx k1.lt;have hb3:zB w w3:=zT hb1 hbx;clear HP2 hwx hbx k1 hb1;have he1:o.toList.isEmpty=false:=zaE ho;have he2:(o.toList==[])=false:=by rw[beq_eq_false_iff_ne];intro h;rw[h] at he1;cases he1
 obtain⟨xc0,xc1,xc2,xc3,xc4,xc5,xc6⟩:=cells7 k3;have HB:=zH hb3;clear k3 hb3;go_wp2;go_ret;exact⟨rfl,HB.out⟩
theorem zq7(n:ByteArray)(a b c:Int)(ra:Option Addr)(rn rc:Nat)(w:World)(hn:zaj n)(hr:0<rn) :
  ChkR w 1 #[.int .i64 1,.string n,.int .i64 a,.int .i64 b,.int .i64 c,.string ⟨#[]⟩,.slice ra rn rc]:=by
 obtain⟨W0,hW0,k0,hb0⟩:=lbox w #[.int .i64 1,.string n,.int .i64 a,.int .i64 b,.int .i64 c,.string ⟨#[]⟩,.slice ra rn rc];go_enter Tryz.func263,Tryz.ntmps263;go_upto_region 1 with fail;clear hW0;obtain⟨xc0,xc1,xc2,xc3,xc4,xc5,xc6⟩:=cells7 k0;go_wp2_with fail;clear xc0 xc1 xc2 xc3 xc4 xc5 xc6;refine(zbI n W0 hn).mono ?_;rintro e w1 ⟨rfl,hwx⟩;subst hwx;obtain⟨xc0,xc1,xc2,xc3,xc4,xc5,xc6⟩:=cells7 k0;go_wp2_with fail;clear xc0 xc1 xc2 xc3 xc4 xc5 xc6;have HP1:Hid (zC 135 #[.agg #[.int .i64 1,.string n,.int .i64 a,.int .i64 b,.int .i64 c,.string ⟨#[]⟩,.slice ra rn rc]] W0 fun e w'=>e=.returned (.bool false)/\w'=W0.alloc (.cells #[.int .i64 1,.string n,.int .i64 a,.int .i64 b,.int .i64 c,.string ⟨#[]⟩,.slice ra rn rc] 130)):=zaQ ⟨1,n,a,b,c,⟨#[]⟩,[]⟩ (.slice ra rn rc) W0;refine HP1.out.mono ?_;rintro e w1 ⟨rfl,hwx⟩;have hbx:zB W0 w1:=by rw[hwx];exactzF.alloc zN _
 have k1:=k0.below hbx k0.lt;have hb1:zB w w1:=zT hb0 hbx;clear HP1 hwx hbx k0 hb0;obtain⟨xc0,xc1,xc2,xc3,xc4,xc5,xc6⟩:=cells7 k1;go_wp2_with fail;clear xc0 xc1 xc2 xc3 xc4 xc5 xc6;have HP2:Hid (zC 135 #[.agg #[.int .i64 1,.string n,.int .i64 a,.int .i64 b,.int .i64 c,.string ⟨#[]⟩,.slice ra rn rc]] w1 fun e w'=>e=.returned (.bool false)/\w'=w1.alloc (.cells #[.int .i64 1,.string n,.int .i64 a,.int .i64 b,.int .i64 c,.string ⟨#[]⟩,.slice ra rn rc] 130)):=zaQ ⟨1,n,a,b,c,⟨#[]⟩,[]⟩ (.slice ra rn rc) w1;refine HP2.out.mono ?_;rintro e w3 ⟨rfl,hwx⟩;have hbx:zB w1 w3:=by rw[hwx];exactzF.alloc zN _
 have k3:=k1.below hbx k1.lt;have hb3:zB w w3:=zT hb1 hbx;clear HP2 hwx hbx k1 hb1;obtain⟨xc0,xc1,xc2,xc3,xc4,xc5,xc6⟩:=cells7 k3;go_wp2_with fail;clear xc0 xc1 xc2 xc3 xc4 xc5 xc6;have HE:Hid (zR 276 #[.agg #[.slice ra rn rc]] w3 (.bool false)):=ztu ra rn rc w3 hr;refine HE.out.mono ?_;rintro e w4 ⟨rfl,hbx⟩;have k4:=k3.below hbx k3.lt;have hb4:zB w w4:=zT hb3 hbx;clear HE hbx k3 hb3;obtain⟨xc0,xc1,xc2,xc3,xc4,xc5,xc6⟩:=cells7 k4;have HB:=zH hb4;clear k4 hb4;go_wp2;go_ret;exact⟨rfl,HB.out⟩
theorem zsq(n:ByteArray)(a b c:Int)(ra:Option Addr)(rc:Nat)(w:World)(hn:zaj n) :
  zR 263 #[.agg #[.int .i64 1,.string n,.int .i64 a,.int .i64 b,.int .i64 c,.string ⟨#[]⟩,.slice ra 0 rc]] w (.int .i64 (if InV a b c then (0:Int) else 2)):=by
 obtain⟨Z,hZ⟩:∃Z:Int,(if InV a b c then (0:Int) else 2)=Z:=⟨_,rfl⟩;rw[hZ];have HZ:=zH hZ;clear hZ;obtain⟨W0,hW0,k0,hb0⟩:=lbox w #[.int .i64 1,.string n,.int .i64 a,.int .i64 b,.int .i64 c,.string ⟨#[]⟩,.slice ra 0 rc];go_enter Tryz.func263,Tryz.ntmps263;go_upto_region 1 with fail;clear hW0;obtain⟨xc0,xc1,xc2,xc3,xc4,xc5,xc6⟩:=cells7 k0;go_wp2_with fail;clear xc0 xc1 xc2 xc3 xc4 xc5 xc6;refine(zbI n W0 hn).mono ?_;rintro e w1 ⟨rfl,hwx⟩;subst hwx;obtain⟨xc0,xc1,xc2,xc3,xc4,xc5,xc6⟩:=cells7 k0;go_wp2_with fail;clear xc0 xc1 xc2 xc3 xc4 xc5 xc6;have HP1:Hid (zC 135 #[.agg #[.int .i64 1,.string n,.int .i64 a,.int .i64 b,.int .i64 c,.string ⟨#[]⟩,.slice ra 0 rc]] W0 fun e w'=>e=.returned (.bool false)/\w'=W0.alloc (.cells #[.int .i64 1,.string n,.int .i64 a,.int .i64 b,.int .i64 c,.string ⟨#[]⟩,.slice ra 0 rc] 130)):=zaQ ⟨1,n,a,b,c,⟨#[]⟩,[]⟩ (.slice ra 0 rc) W0;refine HP1.out.mono ?_;rintro e w1 ⟨rfl,hwx⟩;have hbx:zB W0 w1:=by rw[hwx];exactzF.alloc zN _
 have k1:=k0.below hbx k0.lt;have hb1:zB w w1:=zT hb0 hbx;clear HP1 hwx hbx k0 hb0;obtain⟨xc0,xc1,xc2,xc3,xc4,xc5,xc6⟩:=cells7 k1;go_wp2_with fail;clear xc0 xc1 xc2 xc3 xc4 xc5 xc6;have HP2:Hid (zC 135 #[.agg #[.int .i64 1,.string n,.int .i64 a,.int .i64 b,.int .i64 c,.string ⟨#[]⟩,.slice ra 0 rc]] w1 fun e w'=>e=.returned (.bool false)/\w'=w1.alloc (.cells #[.int .i64 1,.string n,.int .i64 a,.int .i64 b,.int .i64 c,.string ⟨#[]⟩,.slice ra 0 rc] 130)):=zaQ ⟨1,n,a,b,c,⟨#[]⟩,[]⟩ (.slice ra 0 rc) w1;refine HP2.out.mono ?_;rintro e w3 ⟨rfl,hwx⟩;have hbx:zB w1 w3:=by rw[hwx];exactzF.alloc zN _
 have k3:=k1.below hbx k1.lt;have hb3:zB w w3:=zT hb1 hbx;clear HP2 hwx hbx k1 hb1;obtain⟨xc0,xc1,xc2,xc3,xc4,xc5,xc6⟩:=cells7 k3;go_wp2_with fail;clear xc0 xc1 xc2 xc3 xc4 xc5 xc6;have HE:Hid (zR 276 #[.agg #[.slice ra 0 rc]] w3 (.bool true)):=zrk ra rc w3;refine HE.out.mono ?_;rintro e w4 ⟨rfl,hbx⟩;have k4:=k3.below hbx k3.lt;have hb4:zB w w4:=zT hb3 hbx;clear HE hbx k3 hb3;obtain⟨xc0,xc1,xc2,xc3,xc4,xc5,xc6⟩:=cells7 k4;go_upto_region 11 with fail;clear xc0 xc1 xc2 xc3 xc4 xc5 xc6;obtain⟨q,hq⟩:∃q,decide (InV a b c)=q:=⟨_,rfl⟩;have HANY:Hid (∀W',zC 259 #[] W' fun e w'=>∃a' c',e=.returned (.agg #[.slice a' zbc.length c'])/\zaZ w' (.slice a' zbc.length c') zbc/\zB W' w'):=fun W'=>(zfp W').mono fun e w' ⟨v',he,hs,hn,hb⟩=>by obtain⟨a',c',rfl⟩:=hs.form;exact⟨a',c',he,hs,hb⟩
 have HHAS:Hid (∀va vc W',zaZ W' (.slice va zbc.length vc) zbc->zR 218 #[.agg #[.slice va zbc.length vc],.agg #[.int .i64 a,.int .i64 b,.int .i64 c]] W' (.bool q)):=fun va vc W' h=>by rw[<-hq];exact zmI va vc a b c W' h
 have HQ:=zH hq;clear hq;have hxl:=k4.lt;have SC:Hid (∀W',zB w4 W'->W'.cell? ⟨w.heap.size,2,none⟩=some (.int .i64 a)/\W'.cell? ⟨w.heap.size,3,none⟩=some (.int .i64 b)/\W'.cell? ⟨w.heap.size,4,none⟩=some (.int .i64 c)):=fun W' h=>⟨(k4.below h hxl).cell 2,(k4.below h hxl).cell 3,(k4.below h hxl).cell 4⟩;have HB0:=zH hb4;clear k4 hb4 hxl;have D0:zB w4 w4.drew:=zF.drew;go_region_held3 (fun W'=>W'.cell? ⟨w.heap.size,2,none⟩=some (.int .i64 a)/\W'.cell? ⟨w.heap.size,3,none⟩=some (.int .i64 b)/\W'.cell? ⟨w.heap.size,4,none⟩=some (.int .i64 c)) (first|exact SC.out _ D0|exact SC.out _ D1|exact SC.out _ D2)
  (first
   |((with_reducible refine(HANY.out _).mono ?_);rintro e x1 ⟨va,vc,rfl,hs1,hb1⟩;have D1:zB w4 x1:=zT D0 hb1;clear HANY D0 hb1)
   | ((with_reducible refine (HHAS.out _ _ _ hs1).mono ?_);rintro e x2 ⟨rfl,hb2⟩;have D2:zB w4 x2:=zT D1 hb2;clear HHAS D1 hb2 hs1))
 have HB:Hid (zB w x2):=zT HB0.out D2;clear D2 HB0 SC;cases q with
 |true =>
  have HC:Hid (Z=0):=by have h:=HQ.out;show _=_;rw[<-HZ.out];exact if_pos (by simpa using h)
  go_wp2;go_ret;exact⟨by rw[HC.out];rfl,HB.out⟩
 |false =>
  have HC:Hid (Z=2):=by have h:=HQ.out;show _=_;rw[<-HZ.out];exact if_neg (by simpa using h)
  go_wp2;go_ret;exact⟨by rw[HC.out];rfl,HB.out⟩
theorem zpw(n:ByteArray)(a b c:Int)(ra:Option Addr)(rn rc:Nat)(w:World)(hn:zaj n)(hz:(a==0&&(b==0&&c==0))=false) :
  ChkR w 1 #[.int .i64 4,.string n,.int .i64 a,.int .i64 b,.int .i64 c,.string ⟨#[]⟩,.slice ra rn rc]:=by
 obtain⟨W0,hW0,k0,hb0⟩:=lbox w #[.int .i64 4,.string n,.int .i64 a,.int .i64 b,.int .i64 c,.string ⟨#[]⟩,.slice ra rn rc];go_enter Tryz.func263,Tryz.ntmps263;go_upto_region 1 with fail;clear hW0;obtain⟨xc0,xc1,xc2,xc3,xc4,xc5,xc6⟩:=cells7 k0;go_wp2_with fail;clear xc0 xc1 xc2 xc3 xc4 xc5 xc6;refine(zbI n W0 hn).mono ?_;rintro e w1 ⟨rfl,hwx⟩;subst hwx;obtain⟨xc0,xc1,xc2,xc3,xc4,xc5,xc6⟩:=cells7 k0;go_wp2_with fail;clear xc0 xc1 xc2 xc3 xc4 xc5 xc6;have HP1:Hid (zC 135 #[.agg #[.int .i64 4,.string n,.int .i64 a,.int .i64 b,.int .i64 c,.string ⟨#[]⟩,.slice ra rn rc]] W0 fun e w'=>e=.returned (.bool false)/\w'=W0.alloc (.cells #[.int .i64 4,.string n,.int .i64 a,.int .i64 b,.int .i64 c,.string ⟨#[]⟩,.slice ra rn rc] 130)):=zaQ ⟨4,n,a,b,c,⟨#[]⟩,[]⟩ (.slice ra rn rc) W0;refine HP1.out.mono ?_;rintro e w1 ⟨rfl,hwx⟩;have hbx:zB W0 w1:=by rw[hwx];exactzF.alloc zN _
 have k1:=k0.below hbx k0.lt;have hb1:zB w w1:=zT hb0 hbx;clear HP1 hwx hbx k0 hb0;obtain⟨xc0,xc1,xc2,xc3,xc4,xc5,xc6⟩:=cells7 k1;go_wp2_with fail;clear xc0 xc1 xc2 xc3 xc4 xc5 xc6;have HP2:Hid (zC 135 #[.agg #[.int .i64 4,.string n,.int .i64 a,.int .i64 b,.int .i64 c,.string ⟨#[]⟩,.slice ra rn rc]] w1 fun e w'=>e=.returned (.bool false)/\w'=w1.alloc (.cells #[.int .i64 4,.string n,.int .i64 a,.int .i64 b,.int .i64 c,.string ⟨#[]⟩,.slice ra rn rc] 130)):=zaQ ⟨4,n,a,b,c,⟨#[]⟩,[]⟩ (.slice ra rn rc) w1;refine HP2.out.mono ?_;rintro e w3 ⟨rfl,hwx⟩;have hbx:zB w1 w3:=by rw[hwx];exactzF.alloc zN _
 have k3:=k1.below hbx k1.lt;have hb3:zB w w3:=zT hb1 hbx;clear HP2 hwx hbx k1 hb1;have h3:=zx3 a b c 0 0 0;rw[hz] at h3;obtain⟨xc0,xc1,xc2,xc3,xc4,xc5,xc6⟩:=cells7 k3;have HB:=zH hb3;clear k3 hb3;go_wp2;go_ret;exact⟨rfl,HB.out⟩
theorem zrX(n:ByteArray)(ra:Option Addr)(rn rc:Nat)(w:World)(hn:zaj n) :
  ChkR w 0 #[.int .i64 4,.string n,.int .i64 0,.int .i64 0,.int .i64 0,.string ⟨#[]⟩,.slice ra rn rc]:=by
 obtain⟨W0,hW0,k0,hb0⟩:=lbox w #[.int .i64 4,.string n,.int .i64 0,.int .i64 0,.int .i64 0,.string ⟨#[]⟩,.slice ra rn rc];go_enter Tryz.func263,Tryz.ntmps263;go_upto_region 1 with fail;clear hW0;obtain⟨xc0,xc1,xc2,xc3,xc4,xc5,xc6⟩:=cells7 k0;go_wp2_with fail;clear xc0 xc1 xc2 xc3 xc4 xc5 xc6;refine(zbI n W0 hn).mono ?_;rintro e w1 ⟨rfl,hwx⟩;subst hwx;obtain⟨xc0,xc1,xc2,xc3,xc4,xc5,xc6⟩:=cells7 k0;go_wp2_with fail;clear xc0 xc1 xc2 xc3 xc4 xc5 xc6;have HP1:Hid (zC 135 #[.agg #[.int .i64 4,.string n,.int .i64 0,.int .i64 0,.int .i64 0,.string ⟨#[]⟩,.slice ra rn rc]] W0 fun e w'=>e=.returned (.bool false)/\w'=W0.alloc (.cells #[.int .i64 4,.string n,.int .i64 0,.int .i64 0,.int .i64 0,.string ⟨#[]⟩,.slice ra rn rc] 130)):=zaQ ⟨4,n,0,0,0,⟨#[]⟩,[]⟩ (.slice ra rn rc) W0;refine HP1.out.mono ?_;rintro e w1 ⟨rfl,hwx⟩;have hbx:zB W0 w1:=by rw[hwx];exactzF.alloc zN _
 have k1:=k0.below hbx k0.lt;have hb1:zB w w1:=zT hb0 hbx;clear HP1 hwx hbx k0 hb0;obtain⟨xc0,xc1,xc2,xc3,xc4,xc5,xc6⟩:=cells7 k1;go_wp2_with fail;clear xc0 xc1 xc2 xc3 xc4 xc5 xc6;have HP2:Hid (zC 135 #[.agg #[.int .i64 4,.string n,.int .i64 0,.int .i64 0,.int .i64 0,.string ⟨#[]⟩,.slice ra rn rc]] w1 fun e w'=>e=.returned (.bool false)/\w'=w1.alloc (.cells #[.int .i64 4,.string n,.int .i64 0,.int .i64 0,.int .i64 0,.string ⟨#[]⟩,.slice ra rn rc] 130)):=zaQ ⟨4,n,0,0,0,⟨#[]⟩,[]⟩ (.slice ra rn rc) w1;refine HP2.out.mono ?_;rintro e w3 ⟨rfl,hwx⟩;have hbx:zB w1 w3:=by rw[hwx];exactzF.alloc zN _
 have k3:=k1.below hbx k1.lt;have hb3:zB w w3:=zT hb1 hbx;clear HP2 hwx hbx k1 hb1;have h3:=zx3 0 0 0 0 0 0;obtain⟨xc0,xc1,xc2,xc3,xc4,xc5,xc6⟩:=cells7 k3;go_upto_region 11 with fail;clear xc0 xc1 xc2 xc3 xc4 xc5 xc6;clear h3;obtain⟨q,hq⟩:∃q,decide (InV 0 0 0)=q:=⟨_,rfl⟩;have HANY:Hid (∀W',zC 259 #[] W' fun e w'=>∃a' c',e=.returned (.agg #[.slice a' zbc.length c'])/\zaZ w' (.slice a' zbc.length c') zbc/\zB W' w'):=fun W'=>(zfp W').mono fun e w' ⟨v',he,hs,hn,hb⟩=>by obtain⟨a',c',rfl⟩:=hs.form;exact⟨a',c',he,hs,hb⟩
 have HHAS:Hid (∀va vc W',zaZ W' (.slice va zbc.length vc) zbc->zR 218 #[.agg #[.slice va zbc.length vc],.agg #[.int .i64 0,.int .i64 0,.int .i64 0]] W' (.bool q)):=fun va vc W' h=>by rw[<-hq];exact zmI va vc 0 0 0 W' h
 have HQ:=zH hq;clear hq;have hxl:=k3.lt;have SC:Hid (∀W',zB w3 W'->W'.cell? ⟨w.heap.size,2,none⟩=some (.int .i64 0)/\W'.cell? ⟨w.heap.size,3,none⟩=some (.int .i64 0)/\W'.cell? ⟨w.heap.size,4,none⟩=some (.int .i64 0)):=fun W' h=>⟨(k3.below h hxl).cell 2,(k3.below h hxl).cell 3,(k3.below h hxl).cell 4⟩;have HB0:=zH hb3;clear k3 hb3 hxl;have D0:zB w3 w3.drew:=zF.drew;go_region_held3 (fun W'=>W'.cell? ⟨w.heap.size,2,none⟩=some (.int .i64 0)/\W'.cell? ⟨w.heap.size,3,none⟩=some (.int .i64 0)/\W'.cell? ⟨w.heap.size,4,none⟩=some (.int .i64 0)) (first|exact SC.out _ D0|exact SC.out _ D1|exact SC.out _ D2)
  (first
   |((with_reducible refine(HANY.out _).mono ?_);rintro e x1 ⟨va,vc,rfl,hs1,hb1⟩;have D1:zB w3 x1:=zT D0 hb1;clear HANY D0 hb1)
   | ((with_reducible refine (HHAS.out _ _ _ hs1).mono ?_);rintro e x2 ⟨rfl,hb2⟩;have D2:zB w3 x2:=zT D1 hb2;clear HHAS D1 hb2 hs1))
 have HB:Hid (zB w x2):=zT HB0.out D2;clear D2 HB0 SC;obtain rfl:q=true:=by rw[<-HQ.out];decide
 go_wp2;go_ret;exact⟨rfl,HB.out⟩
end
section
open Go.RowKit Sv
theorem zuc(x:Ln)(v:Value)(w:World)(hv:zaZ w v x.rng) :
  zR 263 #[.agg #[.int .i64 x.kind,.string x.name,.int .i64 x.a,.int .i64 x.b,.int .i64 x.c,.string x.other,v]] w (.int .i64 (zaC x)):=by
 obtain⟨ra,rc,rfl⟩:=hv.form;clear hv;obtain⟨k,n,a,b,c,o,r⟩:=x;unfold zaC Ln.pair;simp only
 by_cases hk:k<1\/4<k
 ·rw[if_pos hk];rcases hk with hk|hk
  ·exact zuN k n o a b c ra r.length rc w hk
  ·exact zsr k n o a b c ra r.length rc w hk
 rw[if_neg hk];have hk4:k=1\/k=2\/k=3\/k=4:=by omega
 by_cases hn:zaj n
 ·rcases hk4 with rfl|rfl|rfl|rfl
  ·have h1:¬(¬zaj n\/(((1:Int)=2\/(1:Int)=3)/\¬zaj o)):=by
    rintro (h|⟨h,_⟩)
    ·exact h hn
    ·omega
   rw[if_neg h1]
   by_cases ho:o.size≠0
   ·rw[if_pos ⟨by omega,ho⟩];exact zse n o a b c ra r.length rc w hn (by omega)
   ·rw[if_neg (fun h=>ho h.2)];obtain rfl:=zbf (s:=o) (by omega);cases r with
    |nil =>
     rw[if_neg (fun h=>h.2 rfl),if_neg (by omega)];refine(zsq n a b c ra rc w hn).mono fun e w' ⟨h1,h2⟩=>⟨?_,h2⟩;rw[h1]
     by_cases hi:InV a b c
     ·rw[if_pos hi,if_neg (fun h=>h hi)]
     ·rw[if_neg hi,if_pos hi]
    |cons s r =>rw[if_pos ⟨rfl,by simp⟩];exact zq7 n a b c ra (s :: r).length rc w hn (by simp)
  ·by_cases ho:zaj o
   ·have h1:¬(¬zaj n\/(((2:Int)=2\/(2:Int)=3)/\¬zaj o)):=by
     rintro (h|⟨_,h⟩)
     ·exact h hn
     ·exact h ho
    rw[if_neg h1,if_neg (fun h=>h.1 (Or.inl rfl)),if_neg (by omega),if_neg (by omega)];refine(zoI n o a b c ra r.length rc w hn ho).mono fun e w' ⟨h1,h2⟩=>⟨?_,h2⟩;rw[h1]
    by_cases hi:InV a b c
    ·rw[if_pos hi,if_neg (fun h=>h hi)]
    ·rw[if_neg hi,if_pos hi]
   ·rw[if_pos (Or.inr ⟨Or.inl rfl,ho⟩)];exact znU n o a b c ra r.length rc w hn ho
  ·by_cases ho:zaj o
   ·have h1:¬(¬zaj n\/(((3:Int)=2\/(3:Int)=3)/\¬zaj o)):=by
     rintro (h|⟨_,h⟩)
     ·exact h hn
     ·exact h ho
    rw[if_neg h1,if_neg (fun h=>h.1 (Or.inr rfl)),if_neg (by omega),if_neg (by omega)];refine(zp7 n o a b c ra r.length rc w hn ho).mono fun e w' ⟨h1,h2⟩=>⟨?_,h2⟩;rw[h1]
    by_cases hi:InV a b c
    ·rw[if_pos hi,if_neg (fun h=>h hi)]
    ·rw[if_neg hi,if_pos hi]
   ·rw[if_pos (Or.inr ⟨Or.inr rfl,ho⟩)];exact zog n o a b c ra r.length rc w hn ho
  ·have h1:¬(¬zaj n\/(((4:Int)=2\/(4:Int)=3)/\¬zaj o)):=by
    rintro (h|⟨h,_⟩)
    ·exact h hn
    ·omega
   rw[if_neg h1]
   by_cases ho:o.size≠0
   ·rw[if_pos ⟨by omega,ho⟩];exact zrK n o a b c ra r.length rc w hn (by omega)
   ·rw[if_neg (fun h=>ho h.2),if_neg (by omega)];obtain rfl:=zbf (s:=o) (by omega)
    by_cases hz:a≠0\/b≠0\/c≠0
    ·rw[if_pos ⟨rfl,hz⟩];refine zpw n a b c ra r.length rc w hn ?_
     by_cases h0:a=0
     ·by_cases h1:b=0
      ·have h2:c≠0:=by omega
       simp[h2]
      ·simp[h1]
     ·simp[h0]
    ·rw[if_neg (fun h=>hz h.2)];obtain rfl:a=0:=by omega
     obtain rfl:b=0:=by omega
     obtain rfl:c=0:=by omega
     rw[if_neg (fun h=>h (by decide))];exact zrX n ra r.length rc w hn
 ·rw[if_pos (Or.inl hn)];rcases hk4 with rfl|rfl|rfl|rfl
  ·exact zqI n o a b c ra r.length rc w hn
  ·exact zpY n o a b c ra r.length rc w hn
  ·exact zpC n o a b c ra r.length rc w hn
  ·exact zrq n o a b c ra r.length rc w hn
end
section
open Go.RowKit Go.Shelf Go.Lib Sv
theorem znK(l:List It)(x:It):Lib.idxBy (fun x y=>decide (x=y)) l x=zaY l x:=by
 have key:∀(l:List It) (i:Nat),Lib.idxByFrom (fun x y=>decide (x=y)) x l i=match l.findIdx? (fun y=>decide (x=y)) with|some k=>((i+k:Nat):Int)|none=>-1:=by
  intro l
  induction l with
  |nil=>intro i;rfl
  |cons y l ih =>
   intro i;rw[Lib.idxByFrom,List.findIdx?_cons]
   by_cases h:x=y
   ·simp[h]
   ·simp only[h,decide_false,Bool.false_eq_true,if_false];rw[ih];cases l.findIdx? (fun y=>decide (x=y)) with
    |none=>rfl
    |some k =>show (((i+1+k:Nat)):Int)=((i+(k+1):Nat):Int);rw[show i+1+k=i+(k+1) by omega]
 unfold Lib.idxBy zaY;rw[key];cases l.findIdx? (fun y=>decide (x=y)) with
 |none=>rfl
 |some k=>simp
theorem zvJ(l:List It)(x:It):(l.any fun y=>decide (x=y))=decide (x∈l):=by
 rw[Bool.eq_iff_iff];simp only[List.any_eq_true,decide_eq_true_eq];constructor
 ·rintro⟨y,hy,rfl⟩;exact hy
 ·intro h;exact⟨x,h,rfl⟩
theorem zjD{w:World}{v:Value}{l:List It}(h:zcn w v l)(hl:0<l.length):∃g cap,v=.slice (some ⟨g,0,none⟩) l.length cap/\g<w.heap.size/\∀j,j<l.length->∀(i:Nat) u,(za8 l[j]!)[i]?=some u->w.cell? ⟨g,0+j*4+i,none⟩=some u:=by
 obtain⟨g,cap,e,hg,hc⟩:=h.cells hl;refine⟨g,cap,e,hg,fun j hj i u hu=>?_⟩;rw[Nat.zero_add];refine hc _ _ (zb6 l j hj i u ?_);rw[<-hu,List.getD_eq_getElem?_getD,List.getElem?_eq_getElem hj,getElem!_pos l j hj];rfl
theorem zat{w:World}{B:Nat}{W:World}(h:Below B w W)(n:Nat):Below B w (W.drewN n):=⟨h.os,h.tape,h.output,h.size,h.block⟩
theorem zoE(a:Option Addr)(c:Nat)(n:ByteArray)(x y z:Int)(w:World) :
  zR 195 #[.slice a 0 c,.agg #[.string n,.int .i64 x,.int .i64 y,.int .i64 z]] w (.int .i64 (-1)):=by
 have hB:Hid (zB w (w.alloc (.cells #[.string n,.int .i64 x,.int .i64 y,.int .i64 z] 114))):=(Below.refl _ w).alloc zN _;go_enter Tryz.func195,Tryz.ntmps195;go_wp2_with fail;go_loop [8] (fun i=>i=.int .i64 0) (fun _=>0)
 case atStart=>rfl
 case round =>subst hrel;go_wp2;go_ret;exact⟨rfl,hB.out⟩
theorem zuO(l:List It)(x:It)(v:Value)(w:World)(h:zcn w v l)(hl:l.length<=100000) :
  zR 195 #[v,.agg #[.string x.name,.int .i64 x.a,.int .i64 x.b,.int .i64 x.c]] w (.int .i64 (zaY l x)):=by
 by_cases h0:0<l.length
 ·obtain⟨g,cap,rfl,hg,hc⟩:=zjD h h0;refine(AnyQ.slices_Index Tryz.ixItem 4 Tryz.isAgg114 Tryz.sizeOf114 za8 (fun _=>rfl) _ zx7 g 0 l.length cap l x w zN (by omega) hc).mono fun e w' ⟨he,q,hq⟩=>?_;rw[List.take_length,znK] at he;refine⟨he,?_⟩;rw[hq];exact zat ((Below.refl _ w).alloc zN _) q
 ·obtain rfl:l=[]:=by cases l with|nil=>rfl|cons a l=>simp at h0
  obtain⟨a,cap,rfl,-⟩:=h.form;exact zoE a cap x.name x.a x.b x.c w
theorem zrI(a:Option Addr)(c:Nat)(x:It)(w:World) :
  zR 264 #[.slice a 0 c,.agg #[.string x.name,.int .i64 x.a,.int .i64 x.b,.int .i64 x.c]] w (.bool false):=by
 have H:Hid (∀W,zR 195 #[.slice a 0 c,.agg #[.string x.name,.int .i64 x.a,.int .i64 x.b,.int .i64 x.c]] W (.int .i64 (-1))):=fun W=>zoE a c x.name x.a x.b x.c W;have k0:=Blk.new w 114 #[.string x.name,.int .i64 x.a,.int .i64 x.b,.int .i64 x.c];have hB:zB w (w.alloc (.cells #[.string x.name,.int .i64 x.a,.int .i64 x.b,.int .i64 x.c] 114)):=(Below.refl _ w).alloc zN _;have HB:=zH hB;clear k0 hB;generalize x.name=n at *;generalize x.a=xa at *;generalize x.b=xb at *;generalize x.c=xc at *;go_enter Tryz.func264,Tryz.ntmps264;go_wp2_with fail;refine(H.out _).mono ?_;rintro e w1 ⟨rfl,hb1⟩;have HB1:Hid (zB w w1):=zT HB.out hb1;clear hb1 H HB;go_wp2;go_ret;exact⟨rfl,HB1.out⟩
theorem ztj(l:List It)(x:It)(v:Value)(w:World)(h:zcn w v l)(hl:l.length<=100000) :
  zR 264 #[v,.agg #[.string x.name,.int .i64 x.a,.int .i64 x.b,.int .i64 x.c]] w (.bool (decide (x∈l))):=by
 by_cases h0:0<l.length
 ·obtain⟨g,cap,rfl,hg,hc⟩:=zjD h h0;refine(AnyQ.slices_Contains Tryz.hasItem 4 Tryz.isAgg114 Tryz.sizeOf114 za8 (fun _=>rfl) _ zx7 g 0 l.length cap l x w zN (by omega) hc).mono fun e w' ⟨he,hb⟩=>?_;rw[List.take_length,zvJ] at he;exact⟨he,hb⟩
 ·obtain rfl:l=[]:=by cases l with|nil=>rfl|cons a l=>simp at h0
  obtain⟨a,cap,rfl,-⟩:=h.form;exact(zrI a cap x w).mono fun e w' ⟨he,hb⟩=>⟨by rw[he];simp,hb⟩
theorem ztX:(Tryz.prog.info? 114).map (fun i=>(i.zero,i.size,i.bytes))=some (some (.agg #[.string ⟨#[]⟩,.int .i64 0,.int .i64 0,.int .i64 0]),4,40):=by kernel_rfl
theorem ztK:(Tryz.prog.info? 130).map (fun i=>(i.zero,i.size,i.bytes))=some (some (.agg #[.int .i64 0,.string ⟨#[]⟩,.int .i64 0,.int .i64 0,.int .i64 0,.string ⟨#[]⟩,.slice none 0 0]),7,88):=by kernel_rfl
theorem ztJ(l:List It):∀u∈zac l,u.oneCell'=true:=by
 intro u hu;obtain⟨x,_,hx⟩:=List.mem_flatMap.1 hu;simp[za8] at hx;rcases hx with rfl|rfl|rfl|rfl<;>rfl
theorem zt0:∀(l:List Ln) (vs:List Value),(∀v∈vs,v.oneCell'=true)->∀u∈zax l vs,u.oneCell'=true
 |[],_,_,u,hu=>by simp[zax] at hu
 |_ :: _,[],_,u,hu=>by simp[zax] at hu
 |x :: l,v :: vs,h,u,hu=>by
  rw[zax] at hu;rcases List.mem_append.1 hu with hu|hu
  ·simp[zfO] at hu;rcases hu with rfl|rfl|rfl|rfl|rfl|rfl|rfl
   all_goals first|rfl|exact h _ (by simp)
  ·exact zt0 l vs (fun v hv=>h v (by simp[hv])) u hu
theorem zbV.one{w:World}{l:List Ln}{vs:List Value}(h:zbV w l vs):∀v∈vs,v.oneCell'=true:=by
 intro v hv;obtain⟨i,hi,rfl⟩:=List.getElem_of_mem hv;have h2:=(h.2 i (by rw[<-h.1];exact hi)).1;obtain⟨a,cap,e⟩:=h2.form;rw[List.getD_eq_getElem?_getD,List.getElem?_eq_getElem hi] at e;rw[show vs[i]=_ from e];rfl
theorem zoJ(l:List It)(v:Value)(w:World)(h:zct w v l.length (zac l))(hl:l.length<=100000) :
  zC 129 #[v] w fun e w'=>∃v',e=.returned v'/\w'.ownsRow w.heap.size 114 4 v' l.length (zac l)/\zB w w':=by
 obtain⟨i0,hi,hz0,hz1,hz2⟩:=info_parts ztX;obtain⟨a,cap,rfl,hn,-,-,had⟩:=h.form;rcases had with rfl|⟨g,rfl⟩
 ·obtain rfl:l=[]:=by
   cases l with
   |nil=>rfl
   |cons x l=>obtain⟨g,cap',e,_⟩:=h.cells (by simp);simp at e
  refine(AnyE.slices_Clone_nil Tryz.clnItem 0 cap w).mono fun e w' ⟨he,hw⟩=>⟨_,he,World.ownsRow_nil _ _ _ _,by rw[hw];exact Below.refl _ _⟩
 ·refine(AnyE.slices_Clone Tryz.clnItem i0 _ 4 40 hi hz0 hz1 hz2 rfl (by decide) Tryz.sizeOf114 g 0 l.length cap (zac l) w (zaq l) (by unfold maxLen;omega) (by omega) (fun j u hu=>?_) (ztJ l)).mono fun e w' ⟨v',he,h1,_,h3⟩=>⟨v',he,h1,h3⟩;have h0:0<l.length:=by
   have:=(List.getElem?_eq_some_iff.1 hu).1;rw[zaq l] at this;omega
  obtain⟨g',cap',e,hg,hc⟩:=h.cells h0;simp at e;obtain⟨rfl,rfl⟩:=e;rw[Nat.zero_add];exact hc j u hu
theorem zjZ(l:List Ln)(vs:List Value)(hvs:vs.length=l.length)(hv1:∀v∈vs,v.oneCell'=true)(v:Value)(w:World)(h:zct w v l.length (zax l vs))(hl:l.length<=100000) :
  zC 128 #[v] w fun e w'=>∃v',e=.returned v'/\w'.ownsRow w.heap.size 130 7 v' l.length (zax l vs)/\zB w w':=by
 obtain⟨i0,hi,hz0,hz1,hz2⟩:=info_parts ztK;obtain⟨a,cap,rfl,hn,-,-,had⟩:=h.form;rcases had with rfl|⟨g,rfl⟩
 ·obtain rfl:l=[]:=by
   cases l with
   |nil=>rfl
   |cons x l=>obtain⟨g,cap',e,_⟩:=h.cells (by simp);simp at e
  have hc0:zax [] vs=[]:=by cases vs<;>rfl
  rw[hc0];refine(AnyE.slices_Clone_nil Tryz.clnLine 0 cap w).mono fun e w' ⟨he,hw⟩=>⟨_,he,World.ownsRow_nil _ _ _ _,by rw[hw];exact Below.refl _ _⟩
 ·refine(AnyE.slices_Clone Tryz.clnLine i0 _ 7 88 hi hz0 hz1 hz2 rfl (by decide) Tryz.sizeOf130 g 0 l.length cap (zax l vs) w (zcd l vs hvs) (by unfold maxLen;omega) (by omega) (fun j u hu=>?_) (zt0 l vs hv1)).mono fun e w' ⟨v',he,h1,_,h3⟩=>⟨v',he,h1,h3⟩;have h0:0<l.length:=by
   have:=(List.getElem?_eq_some_iff.1 hu).1;rw[zcd l vs hvs] at this;omega
  obtain⟨g',cap',e,hg,hc⟩:=h.cells h0;simp at e;obtain⟨rfl,rfl⟩:=e;rw[Nat.zero_add];exact hc j u hu
end
end Go.Proofs.YtiihalknffbjpaaGreatDoor
