/- The reference's sets: of names, of items. -/
import Derived.Test.YtiihalknffbjpaaGreatDoorSvRHas
set_option maxHeartbeats 2000000
set_option maxRecDepth 100000
namespace Go.Proofs.YtiihalknffbjpaaGreatDoor
section
open Go.RowKit Sv
theorem zbI(s:ByteArray)(w:World)(h:zaj s):zC 210 #[.string s] w fun e w'=>e=.returned (.bool true)/\w=w':=(zmg s w).mono fun _ _ ⟨h1,h2⟩=>⟨h1.1 h,h2⟩
theorem zfl(s:ByteArray)(w:World)(h:¬zaj s):zC 210 #[.string s] w fun e w'=>e=.returned (.bool false)/\w=w':=(zmg s w).mono fun _ _ ⟨h1,h2⟩=>⟨h1.2 h,h2⟩
theorem zw0(a b c a' b' c':Int)(w:World):(Op.equalIn 10000 91 (.agg #[.int .i64 a,.int .i64 b,.int .i64 c]) (.agg #[.int .i64 a',.int .i64 b',.int .i64 c'])).run Tryz.prog w=.ok (a==a'&&(b==b'&&c==c')) w:=by
 have u3:=Tryz.underlying3;have a3:=Tryz.isAgg3;have z3:=Tryz.sizeOf3;rw[show (10000:Nat)=9999+1 from rfl,Op.equalIn];simp only[Sem.run_bind,run_underlying Tryz.underlying91,Result.andThen_ok];simp only[Std.Legacy.Range.forIn_eq_forIn_range',Std.Legacy.Range.size,Nat.sub_zero,Nat.add_sub_cancel,Nat.div_one,List.range'_succ,List.range'_zero,List.forIn_cons,List.forIn_nil]
 by_cases h1:a=a'
 ·by_cases h2:b=b'
  ·by_cases h3:c=c'
   ·subst h1 h2 h3;go_simp
   ·have e3:(c==c')=false:=by simpa using h3
    subst h1 h2;go_simp
  ·have e2:(b==b')=false:=by simpa using h2
   subst h1;go_simp
 ·have e1:(a==a')=false:=by simpa using h1
  go_simp
theorem zph(k:Int)(n o:ByteArray)(a b c:Int)(ra:Option Addr)(rn rc:Nat)(w:World)(hk:¬(1<=k/\k<=4)) :
  ChkRr w (1) #[.int .i64 k,.string n,.int .i64 a,.int .i64 b,.int .i64 c,.string o,.slice ra rn rc]:=by
 obtain⟨W0,hW0,k0,hb0⟩:=lboxr w #[.int .i64 k,.string n,.int .i64 a,.int .i64 b,.int .i64 c,.string o,.slice ra rn rc];go_enter Tryz.func136,Tryz.ntmps136;go_upto_region 1 with fail;clear hW0;obtain⟨xc0,xc1,xc2,xc3,xc4,xc5,xc6⟩:=cells7r k0;have HB:=zH hb0;clear k0 hb0;have HWI:Hid (zC 209 #[.int .i64 k,.int .i64 1,.int .i64 4] W0 fun e w'=>e=.returned (.bool false)/\W0=w'):=(zae k 1 4 W0).mono fun e w' ⟨h1,h2⟩=>⟨by rw[h1,decide_eq_false hk],h2⟩;clear hk;go_wp2_with fail;refine HWI.out.mono ?_;rintro e w1 ⟨rfl,hwx⟩;subst hwx;clear HWI;go_wp2;go_ret;exact⟨rfl,HB.out⟩
theorem ztB(n o:ByteArray)(a b c:Int)(ra:Option Addr)(rn rc:Nat)(w:World)(hn:¬zaj n) :
  ChkRr w (5) #[.int .i64 1,.string n,.int .i64 a,.int .i64 b,.int .i64 c,.string o,.slice ra rn rc]:=by
 obtain⟨W0,hW0,k0,hb0⟩:=lboxr w #[.int .i64 1,.string n,.int .i64 a,.int .i64 b,.int .i64 c,.string o,.slice ra rn rc];go_enter Tryz.func136,Tryz.ntmps136;go_upto_region 1 with fail;clear hW0;obtain⟨xc0,xc1,xc2,xc3,xc4,xc5,xc6⟩:=cells7r k0;have HB:=zH hb0;clear k0 hb0;have HWI:Hid (zC 209 #[.int .i64 1,.int .i64 1,.int .i64 4] W0 fun e w'=>e=.returned (.bool true)/\W0=w'):=(zae 1 1 4 W0).mono fun e w' ⟨h1,h2⟩=>⟨by rw[h1];rfl,h2⟩;go_wp2_with fail;refine HWI.out.mono ?_;rintro e w1 ⟨rfl,hwx⟩;subst hwx;clear HWI;go_wp2_with fail;refine(zfl n W0 hn).mono ?_;rintro e w1 ⟨rfl,hwx⟩;subst hwx;go_wp2;go_ret;exact⟨rfl,HB.out⟩
theorem zty(n o:ByteArray)(a b c:Int)(ra:Option Addr)(rn rc:Nat)(w:World)(hn:¬zaj n) :
  ChkRr w (5) #[.int .i64 2,.string n,.int .i64 a,.int .i64 b,.int .i64 c,.string o,.slice ra rn rc]:=by
 obtain⟨W0,hW0,k0,hb0⟩:=lboxr w #[.int .i64 2,.string n,.int .i64 a,.int .i64 b,.int .i64 c,.string o,.slice ra rn rc];go_enter Tryz.func136,Tryz.ntmps136;go_upto_region 1 with fail;clear hW0;obtain⟨xc0,xc1,xc2,xc3,xc4,xc5,xc6⟩:=cells7r k0;have HB:=zH hb0;clear k0 hb0;have HWI:Hid (zC 209 #[.int .i64 2,.int .i64 1,.int .i64 4] W0 fun e w'=>e=.returned (.bool true)/\W0=w'):=(zae 2 1 4 W0).mono fun e w' ⟨h1,h2⟩=>⟨by rw[h1];rfl,h2⟩;go_wp2_with fail;refine HWI.out.mono ?_;rintro e w1 ⟨rfl,hwx⟩;subst hwx;clear HWI;go_wp2_with fail;refine(zfl n W0 hn).mono ?_;rintro e w1 ⟨rfl,hwx⟩;subst hwx;go_wp2;go_ret;exact⟨rfl,HB.out⟩
theorem zuW(n o:ByteArray)(a b c:Int)(ra:Option Addr)(rn rc:Nat)(w:World)(hn:¬zaj n) :
  ChkRr w (5) #[.int .i64 3,.string n,.int .i64 a,.int .i64 b,.int .i64 c,.string o,.slice ra rn rc]:=by
 obtain⟨W0,hW0,k0,hb0⟩:=lboxr w #[.int .i64 3,.string n,.int .i64 a,.int .i64 b,.int .i64 c,.string o,.slice ra rn rc];go_enter Tryz.func136,Tryz.ntmps136;go_upto_region 1 with fail;clear hW0;obtain⟨xc0,xc1,xc2,xc3,xc4,xc5,xc6⟩:=cells7r k0;have HB:=zH hb0;clear k0 hb0;have HWI:Hid (zC 209 #[.int .i64 3,.int .i64 1,.int .i64 4] W0 fun e w'=>e=.returned (.bool true)/\W0=w'):=(zae 3 1 4 W0).mono fun e w' ⟨h1,h2⟩=>⟨by rw[h1];rfl,h2⟩;go_wp2_with fail;refine HWI.out.mono ?_;rintro e w1 ⟨rfl,hwx⟩;subst hwx;clear HWI;go_wp2_with fail;refine(zfl n W0 hn).mono ?_;rintro e w1 ⟨rfl,hwx⟩;subst hwx;go_wp2;go_ret;exact⟨rfl,HB.out⟩
theorem zt6(n o:ByteArray)(a b c:Int)(ra:Option Addr)(rn rc:Nat)(w:World)(hn:¬zaj n) :
  ChkRr w (5) #[.int .i64 4,.string n,.int .i64 a,.int .i64 b,.int .i64 c,.string o,.slice ra rn rc]:=by
 obtain⟨W0,hW0,k0,hb0⟩:=lboxr w #[.int .i64 4,.string n,.int .i64 a,.int .i64 b,.int .i64 c,.string o,.slice ra rn rc];go_enter Tryz.func136,Tryz.ntmps136;go_upto_region 1 with fail;clear hW0;obtain⟨xc0,xc1,xc2,xc3,xc4,xc5,xc6⟩:=cells7r k0;have HB:=zH hb0;clear k0 hb0;have HWI:Hid (zC 209 #[.int .i64 4,.int .i64 1,.int .i64 4] W0 fun e w'=>e=.returned (.bool true)/\W0=w'):=(zae 4 1 4 W0).mono fun e w' ⟨h1,h2⟩=>⟨by rw[h1];rfl,h2⟩;go_wp2_with fail;refine HWI.out.mono ?_;rintro e w1 ⟨rfl,hwx⟩;subst hwx;clear HWI;go_wp2_with fail;refine(zfl n W0 hn).mono ?_;rintro e w1 ⟨rfl,hwx⟩;subst hwx;go_wp2;go_ret;exact⟨rfl,HB.out⟩
theorem zug(n o:ByteArray)(a b c:Int)(ra:Option Addr)(rn rc:Nat)(w:World)(hn:zaj n)(ho:¬zaj o) :
  ChkRr w (5) #[.int .i64 2,.string n,.int .i64 a,.int .i64 b,.int .i64 c,.string o,.slice ra rn rc]:=by
 obtain⟨W0,hW0,k0,hb0⟩:=lboxr w #[.int .i64 2,.string n,.int .i64 a,.int .i64 b,.int .i64 c,.string o,.slice ra rn rc];go_enter Tryz.func136,Tryz.ntmps136;go_upto_region 1 with fail;clear hW0;obtain⟨xc0,xc1,xc2,xc3,xc4,xc5,xc6⟩:=cells7r k0;have HB:=zH hb0;clear k0 hb0;have HWI:Hid (zC 209 #[.int .i64 2,.int .i64 1,.int .i64 4] W0 fun e w'=>e=.returned (.bool true)/\W0=w'):=(zae 2 1 4 W0).mono fun e w' ⟨h1,h2⟩=>⟨by rw[h1];rfl,h2⟩;go_wp2_with fail;refine HWI.out.mono ?_;rintro e w1 ⟨rfl,hwx⟩;subst hwx;clear HWI;go_wp2_with fail;refine(zbI n W0 hn).mono ?_;rintro e w1 ⟨rfl,hwx⟩;subst hwx;go_wp2_with fail;refine(zfl o W0 ho).mono ?_;rintro e w1 ⟨rfl,hwx⟩;subst hwx;go_wp2;go_ret;exact⟨rfl,HB.out⟩
theorem zua(n o:ByteArray)(a b c:Int)(ra:Option Addr)(rn rc:Nat)(w:World)(hn:zaj n)(ho:zaj o) :
  zR 136 #[.agg #[.int .i64 2,.string n,.int .i64 a,.int .i64 b,.int .i64 c,.string o,.slice ra rn rc]] w (.int .i64 (if InV a b c then 0 else 2)):=by
 obtain⟨W0,hW0,k0,hb0⟩:=lboxr w #[.int .i64 2,.string n,.int .i64 a,.int .i64 b,.int .i64 c,.string o,.slice ra rn rc];obtain⟨Z,hZ⟩:∃Z:Int,(if InV a b c then (0:Int) else 2)=Z:=⟨_,rfl⟩;rw[hZ];have HZ:=zH hZ;clear hZ;go_enter Tryz.func136,Tryz.ntmps136;go_upto_region 1 with fail;clear hW0;obtain⟨xc0,xc1,xc2,xc3,xc4,xc5,xc6⟩:=cells7r k0;have HB:=zH hb0;clear k0 hb0;have HWI:Hid (zC 209 #[.int .i64 2,.int .i64 1,.int .i64 4] W0 fun e w'=>e=.returned (.bool true)/\W0=w'):=(zae 2 1 4 W0).mono fun e w' ⟨h1,h2⟩=>⟨by rw[h1];rfl,h2⟩;go_wp2_with fail;refine HWI.out.mono ?_;rintro e w1 ⟨rfl,hwx⟩;subst hwx;clear HWI;go_wp2_with fail;refine(zbI n W0 hn).mono ?_;rintro e w1 ⟨rfl,hwx⟩;subst hwx;go_wp2_with fail;refine(zbI o W0 ho).mono ?_;rintro e w1 ⟨rfl,hwx⟩;subst hwx;go_wp2_with fail;go_loopw [62] (fun kV wz=>wz=W0/\∃k:Int,kV=.int .i64 k/\(k=0\/(k=1/\0<=a/\a<=999)\/(k=2/\(0<=a/\a<=999)/\0<=b/\b<=999)\/(k=3/\(0<=a/\a<=999)/\(0<=b/\b<=999)/\0<=c/\c<=999))) (fun kV _=>3-(intOf kV).toNat)
 case atStart=>exact⟨rfl,0,rfl,Or.inl rfl⟩
 case round =>
  obtain⟨rfl,k,rfl,hk⟩:=hrel;rcases hk with rfl|⟨rfl,h1⟩|⟨rfl,h1,h2⟩|⟨rfl,h1,h2,h3⟩
  ·have hix:=zoq a b c wr;go_wp2_with fail;clear hix
   by_cases hv:0<=a/\a<=999
   ·have HWV:Hid (zC 209 #[.int .i64 a,.int .i64 0,.int .i64 999] wr fun e w'=>e=.returned (.bool true)/\wr=w'):=(zae a 0 999 wr).mono fun e w' ⟨h1,h2⟩=>⟨by rw[h1,decide_eq_true hv],h2⟩;have HV:=zH hv;clear hv;refine HWV.out.mono ?_;rintro e w1 ⟨rfl,hwx⟩;subst hwx;clear HWV;go_wp2;go_roundw
    case rel=>exact⟨trivial,1,by go_num,Or.inr (Or.inl ⟨rfl,HV.out⟩)⟩
    case measure=>simp[intOf]
   ·have HWV:Hid (zC 209 #[.int .i64 a,.int .i64 0,.int .i64 999] wr fun e w'=>e=.returned (.bool false)/\wr=w'):=(zae a 0 999 wr).mono fun e w' ⟨h1,h2⟩=>⟨by rw[h1,decide_eq_false hv],h2⟩;have HC:Hid (Z=2):=by show _=_;rw[<-HZ.out];exact if_neg (fun h=>hv h.1)
    clear hv HZ;refine HWV.out.mono ?_;rintro e w1 ⟨rfl,hwx⟩;subst hwx;clear HWV;go_wp2;go_ret;exact⟨by rw[HC.out];rfl,HB.out⟩
  ·have hix:=zpP a b c wr;go_wp2_with fail;clear hix
   by_cases hv:0<=b/\b<=999
   ·have HWV:Hid (zC 209 #[.int .i64 b,.int .i64 0,.int .i64 999] wr fun e w'=>e=.returned (.bool true)/\wr=w'):=(zae b 0 999 wr).mono fun e w' ⟨h1,h2⟩=>⟨by rw[h1,decide_eq_true hv],h2⟩;have HV:=zH hv;clear hv;refine HWV.out.mono ?_;rintro e w1 ⟨rfl,hwx⟩;subst hwx;clear HWV;go_wp2;go_roundw
    case rel=>exact⟨trivial,2,by go_num,Or.inr (Or.inr (Or.inl ⟨rfl,h1,HV.out⟩))⟩
    case measure=>simp[intOf]
   ·have HWV:Hid (zC 209 #[.int .i64 b,.int .i64 0,.int .i64 999] wr fun e w'=>e=.returned (.bool false)/\wr=w'):=(zae b 0 999 wr).mono fun e w' ⟨h1,h2⟩=>⟨by rw[h1,decide_eq_false hv],h2⟩;have HC:Hid (Z=2):=by show _=_;rw[<-HZ.out];exact if_neg (fun h=>hv h.2.1)
    clear hv HZ;refine HWV.out.mono ?_;rintro e w1 ⟨rfl,hwx⟩;subst hwx;clear HWV;go_wp2;go_ret;exact⟨by rw[HC.out];rfl,HB.out⟩
  ·have hix:=zpJ a b c wr;go_wp2_with fail;clear hix
   by_cases hv:0<=c/\c<=999
   ·have HWV:Hid (zC 209 #[.int .i64 c,.int .i64 0,.int .i64 999] wr fun e w'=>e=.returned (.bool true)/\wr=w'):=(zae c 0 999 wr).mono fun e w' ⟨h1,h2⟩=>⟨by rw[h1,decide_eq_true hv],h2⟩;have HV:=zH hv;clear hv;refine HWV.out.mono ?_;rintro e w1 ⟨rfl,hwx⟩;subst hwx;clear HWV;go_wp2;go_roundw
    case rel=>exact⟨trivial,3,by go_num,Or.inr (Or.inr (Or.inr ⟨rfl,h1,h2,HV.out⟩))⟩
    case measure=>simp[intOf]
   ·have HWV:Hid (zC 209 #[.int .i64 c,.int .i64 0,.int .i64 999] wr fun e w'=>e=.returned (.bool false)/\wr=w'):=(zae c 0 999 wr).mono fun e w' ⟨h1,h2⟩=>⟨by rw[h1,decide_eq_false hv],h2⟩;have HC:Hid (Z=2):=by show _=_;rw[<-HZ.out];exact if_neg (fun h=>hv h.2.2)
    clear hv HZ;refine HWV.out.mono ?_;rintro e w1 ⟨rfl,hwx⟩;subst hwx;clear HWV;go_wp2;go_ret;exact⟨by rw[HC.out];rfl,HB.out⟩
  ·have HC:Hid (Z=0):=by show _=_;rw[<-HZ.out];exact if_pos ⟨h1,h2,h3⟩
   clear HZ h1 h2 h3;go_wp2;go_ret;exact⟨by rw[HC.out];rfl,HB.out⟩
theorem zur(n o:ByteArray)(a b c:Int)(ra:Option Addr)(rn rc:Nat)(w:World)(hn:zaj n)(ho:¬zaj o) :
  ChkRr w (5) #[.int .i64 3,.string n,.int .i64 a,.int .i64 b,.int .i64 c,.string o,.slice ra rn rc]:=by
 obtain⟨W0,hW0,k0,hb0⟩:=lboxr w #[.int .i64 3,.string n,.int .i64 a,.int .i64 b,.int .i64 c,.string o,.slice ra rn rc];go_enter Tryz.func136,Tryz.ntmps136;go_upto_region 1 with fail;clear hW0;obtain⟨xc0,xc1,xc2,xc3,xc4,xc5,xc6⟩:=cells7r k0;have HB:=zH hb0;clear k0 hb0;have HWI:Hid (zC 209 #[.int .i64 3,.int .i64 1,.int .i64 4] W0 fun e w'=>e=.returned (.bool true)/\W0=w'):=(zae 3 1 4 W0).mono fun e w' ⟨h1,h2⟩=>⟨by rw[h1];rfl,h2⟩;go_wp2_with fail;refine HWI.out.mono ?_;rintro e w1 ⟨rfl,hwx⟩;subst hwx;clear HWI;go_wp2_with fail;refine(zbI n W0 hn).mono ?_;rintro e w1 ⟨rfl,hwx⟩;subst hwx;go_wp2_with fail;refine(zfl o W0 ho).mono ?_;rintro e w1 ⟨rfl,hwx⟩;subst hwx;go_wp2;go_ret;exact⟨rfl,HB.out⟩
theorem zuA(n o:ByteArray)(a b c:Int)(ra:Option Addr)(rn rc:Nat)(w:World)(hn:zaj n)(ho:zaj o) :
  zR 136 #[.agg #[.int .i64 3,.string n,.int .i64 a,.int .i64 b,.int .i64 c,.string o,.slice ra rn rc]] w (.int .i64 (if InV a b c then 0 else 2)):=by
 obtain⟨W0,hW0,k0,hb0⟩:=lboxr w #[.int .i64 3,.string n,.int .i64 a,.int .i64 b,.int .i64 c,.string o,.slice ra rn rc];obtain⟨Z,hZ⟩:∃Z:Int,(if InV a b c then (0:Int) else 2)=Z:=⟨_,rfl⟩;rw[hZ];have HZ:=zH hZ;clear hZ;go_enter Tryz.func136,Tryz.ntmps136;go_upto_region 1 with fail;clear hW0;obtain⟨xc0,xc1,xc2,xc3,xc4,xc5,xc6⟩:=cells7r k0;have HB:=zH hb0;clear k0 hb0;have HWI:Hid (zC 209 #[.int .i64 3,.int .i64 1,.int .i64 4] W0 fun e w'=>e=.returned (.bool true)/\W0=w'):=(zae 3 1 4 W0).mono fun e w' ⟨h1,h2⟩=>⟨by rw[h1];rfl,h2⟩;go_wp2_with fail;refine HWI.out.mono ?_;rintro e w1 ⟨rfl,hwx⟩;subst hwx;clear HWI;go_wp2_with fail;refine(zbI n W0 hn).mono ?_;rintro e w1 ⟨rfl,hwx⟩;subst hwx;go_wp2_with fail;refine(zbI o W0 ho).mono ?_;rintro e w1 ⟨rfl,hwx⟩;subst hwx;go_wp2_with fail;go_loopw [62] (fun kV wz=>wz=W0/\∃k:Int,kV=.int .i64 k/\(k=0\/(k=1/\0<=a/\a<=999)\/(k=2/\(0<=a/\a<=999)/\0<=b/\b<=999)\/(k=3/\(0<=a/\a<=999)/\(0<=b/\b<=999)/\0<=c/\c<=999))) (fun kV _=>3-(intOf kV).toNat)
 case atStart=>exact⟨rfl,0,rfl,Or.inl rfl⟩
 case round =>
  obtain⟨rfl,k,rfl,hk⟩:=hrel;rcases hk with rfl|⟨rfl,h1⟩|⟨rfl,h1,h2⟩|⟨rfl,h1,h2,h3⟩
  ·have hix:=zoq a b c wr;go_wp2_with fail;clear hix
   by_cases hv:0<=a/\a<=999
   ·have HWV:Hid (zC 209 #[.int .i64 a,.int .i64 0,.int .i64 999] wr fun e w'=>e=.returned (.bool true)/\wr=w'):=(zae a 0 999 wr).mono fun e w' ⟨h1,h2⟩=>⟨by rw[h1,decide_eq_true hv],h2⟩;have HV:=zH hv;clear hv;refine HWV.out.mono ?_;rintro e w1 ⟨rfl,hwx⟩;subst hwx;clear HWV;go_wp2;go_roundw
    case rel=>exact⟨trivial,1,by go_num,Or.inr (Or.inl ⟨rfl,HV.out⟩)⟩
    case measure=>simp[intOf]
   ·have HWV:Hid (zC 209 #[.int .i64 a,.int .i64 0,.int .i64 999] wr fun e w'=>e=.returned (.bool false)/\wr=w'):=(zae a 0 999 wr).mono fun e w' ⟨h1,h2⟩=>⟨by rw[h1,decide_eq_false hv],h2⟩;have HC:Hid (Z=2):=by show _=_;rw[<-HZ.out];exact if_neg (fun h=>hv h.1)
    clear hv HZ;refine HWV.out.mono ?_;rintro e w1 ⟨rfl,hwx⟩;subst hwx;clear HWV;go_wp2;go_ret;exact⟨by rw[HC.out];rfl,HB.out⟩
  ·have hix:=zpP a b c wr;go_wp2_with fail;clear hix
   by_cases hv:0<=b/\b<=999
   ·have HWV:Hid (zC 209 #[.int .i64 b,.int .i64 0,.int .i64 999] wr fun e w'=>e=.returned (.bool true)/\wr=w'):=(zae b 0 999 wr).mono fun e w' ⟨h1,h2⟩=>⟨by rw[h1,decide_eq_true hv],h2⟩;have HV:=zH hv;clear hv;refine HWV.out.mono ?_;rintro e w1 ⟨rfl,hwx⟩;subst hwx;clear HWV;go_wp2;go_roundw
    case rel=>exact⟨trivial,2,by go_num,Or.inr (Or.inr (Or.inl ⟨rfl,h1,HV.out⟩))⟩
    case measure=>simp[intOf]
   ·have HWV:Hid (zC 209 #[.int .i64 b,.int .i64 0,.int .i64 999] wr fun e w'=>e=.returned (.bool false)/\wr=w'):=(zae b 0 999 wr).mono fun e w' ⟨h1,h2⟩=>⟨by rw[h1,decide_eq_false hv],h2⟩;have HC:Hid (Z=2):=by show _=_;rw[<-HZ.out];exact if_neg (fun h=>hv h.2.1)
    clear hv HZ;refine HWV.out.mono ?_;rintro e w1 ⟨rfl,hwx⟩;subst hwx;clear HWV;go_wp2;go_ret;exact⟨by rw[HC.out];rfl,HB.out⟩
  ·have hix:=zpJ a b c wr;go_wp2_with fail;clear hix
   by_cases hv:0<=c/\c<=999
   ·have HWV:Hid (zC 209 #[.int .i64 c,.int .i64 0,.int .i64 999] wr fun e w'=>e=.returned (.bool true)/\wr=w'):=(zae c 0 999 wr).mono fun e w' ⟨h1,h2⟩=>⟨by rw[h1,decide_eq_true hv],h2⟩;have HV:=zH hv;clear hv;refine HWV.out.mono ?_;rintro e w1 ⟨rfl,hwx⟩;subst hwx;clear HWV;go_wp2;go_roundw
    case rel=>exact⟨trivial,3,by go_num,Or.inr (Or.inr (Or.inr ⟨rfl,h1,h2,HV.out⟩))⟩
    case measure=>simp[intOf]
   ·have HWV:Hid (zC 209 #[.int .i64 c,.int .i64 0,.int .i64 999] wr fun e w'=>e=.returned (.bool false)/\wr=w'):=(zae c 0 999 wr).mono fun e w' ⟨h1,h2⟩=>⟨by rw[h1,decide_eq_false hv],h2⟩;have HC:Hid (Z=2):=by show _=_;rw[<-HZ.out];exact if_neg (fun h=>hv h.2.2)
    clear hv HZ;refine HWV.out.mono ?_;rintro e w1 ⟨rfl,hwx⟩;subst hwx;clear HWV;go_wp2;go_ret;exact⟨by rw[HC.out];rfl,HB.out⟩
  ·have HC:Hid (Z=0):=by show _=_;rw[<-HZ.out];exact if_pos ⟨h1,h2,h3⟩
   clear HZ h1 h2 h3;go_wp2;go_ret;exact⟨by rw[HC.out];rfl,HB.out⟩
theorem zv7(n o:ByteArray)(a b c:Int)(ra:Option Addr)(rn rc:Nat)(w:World)(hn:zaj n)(ho:0<o.size) :
  ChkRr w (1) #[.int .i64 1,.string n,.int .i64 a,.int .i64 b,.int .i64 c,.string o,.slice ra rn rc]:=by
 obtain⟨W0,hW0,k0,hb0⟩:=lboxr w #[.int .i64 1,.string n,.int .i64 a,.int .i64 b,.int .i64 c,.string o,.slice ra rn rc];go_enter Tryz.func136,Tryz.ntmps136;go_upto_region 1 with fail;clear hW0;obtain⟨xc0,xc1,xc2,xc3,xc4,xc5,xc6⟩:=cells7r k0;have HB:=zH hb0;clear k0 hb0;have HWI:Hid (zC 209 #[.int .i64 1,.int .i64 1,.int .i64 4] W0 fun e w'=>e=.returned (.bool true)/\W0=w'):=(zae 1 1 4 W0).mono fun e w' ⟨h1,h2⟩=>⟨by rw[h1];rfl,h2⟩;go_wp2_with fail;refine HWI.out.mono ?_;rintro e w1 ⟨rfl,hwx⟩;subst hwx;clear HWI;go_wp2_with fail;refine(zbI n W0 hn).mono ?_;rintro e w1 ⟨rfl,hwx⟩;subst hwx;have he1:o.toList.isEmpty=false:=zaE ho;have he2:(o.toList==[])=false:=by rw[beq_eq_false_iff_ne];intro h;rw[h] at he1;cases he1
 go_wp2;go_ret;exact⟨rfl,HB.out⟩
theorem zvS(n o:ByteArray)(a b c:Int)(ra:Option Addr)(rn rc:Nat)(w:World)(hn:zaj n)(ho:0<o.size) :
  ChkRr w (1) #[.int .i64 4,.string n,.int .i64 a,.int .i64 b,.int .i64 c,.string o,.slice ra rn rc]:=by
 obtain⟨W0,hW0,k0,hb0⟩:=lboxr w #[.int .i64 4,.string n,.int .i64 a,.int .i64 b,.int .i64 c,.string o,.slice ra rn rc];go_enter Tryz.func136,Tryz.ntmps136;go_upto_region 1 with fail;clear hW0;obtain⟨xc0,xc1,xc2,xc3,xc4,xc5,xc6⟩:=cells7r k0;have HB:=zH hb0;clear k0 hb0;have HWI:Hid (zC 209 #[.int .i64 4,.int .i64 1,.int .i64 4] W0 fun e w'=>e=.returned (.bool true)/\W0=w'):=(zae 4 1 4 W0).mono fun e w' ⟨h1,h2⟩=>⟨by rw[h1];rfl,h2⟩;go_wp2_with fail;refine HWI.out.mono ?_;rintro e w1 ⟨rfl,hwx⟩;subst hwx;clear HWI;go_wp2_with fail;refine(zbI n W0 hn).mono ?_;rintro e w1 ⟨rfl,hwx⟩;subst hwx;have he1:o.toList.isEmpty=false:=zaE ho;have he2:(o.toList==[])=false:=by rw[beq_eq_false_iff_ne];intro h;rw[h] at he1;cases he1
 go_wp2;go_ret;exact⟨rfl,HB.out⟩
theorem zuE(n:ByteArray)(a b c:Int)(ra:Option Addr)(rn rc:Nat)(w:World)(hn:zaj n)(hr:0<rn) :
  ChkRr w (1) #[.int .i64 1,.string n,.int .i64 a,.int .i64 b,.int .i64 c,.string ⟨#[]⟩,.slice ra rn rc]:=by
 obtain⟨W0,hW0,k0,hb0⟩:=lboxr w #[.int .i64 1,.string n,.int .i64 a,.int .i64 b,.int .i64 c,.string ⟨#[]⟩,.slice ra rn rc];go_enter Tryz.func136,Tryz.ntmps136;go_upto_region 1 with fail;clear hW0;obtain⟨xc0,xc1,xc2,xc3,xc4,xc5,xc6⟩:=cells7r k0;have HB:=zH hb0;clear k0 hb0;have HWI:Hid (zC 209 #[.int .i64 1,.int .i64 1,.int .i64 4] W0 fun e w'=>e=.returned (.bool true)/\W0=w'):=(zae 1 1 4 W0).mono fun e w' ⟨h1,h2⟩=>⟨by rw[h1];rfl,h2⟩;go_wp2_with fail;refine HWI.out.mono ?_;rintro e w1 ⟨rfl,hwx⟩;subst hwx;clear HWI;go_wp2_with fail;refine(zbI n W0 hn).mono ?_;rintro e w1 ⟨rfl,hwx⟩;subst hwx;have hr2:(0:Int)<(rn:Int):=by omega
 go_wp2;go_ret;exact⟨rfl,HB.out⟩
theorem zud(n:ByteArray)(a b c:Int)(ra:Option Addr)(rc:Nat)(w:World)(hn:zaj n) :
  zR 136 #[.agg #[.int .i64 1,.string n,.int .i64 a,.int .i64 b,.int .i64 c,.string ⟨#[]⟩,.slice ra 0 rc]] w (.int .i64 (if InV a b c then 0 else 2)):=by
 obtain⟨W0,hW0,k0,hb0⟩:=lboxr w #[.int .i64 1,.string n,.int .i64 a,.int .i64 b,.int .i64 c,.string ⟨#[]⟩,.slice ra 0 rc];obtain⟨Z,hZ⟩:∃Z:Int,(if InV a b c then (0:Int) else 2)=Z:=⟨_,rfl⟩;rw[hZ];have HZ:=zH hZ;clear hZ;go_enter Tryz.func136,Tryz.ntmps136;go_upto_region 1 with fail;clear hW0;obtain⟨xc0,xc1,xc2,xc3,xc4,xc5,xc6⟩:=cells7r k0;have HB:=zH hb0;clear k0 hb0;have HWI:Hid (zC 209 #[.int .i64 1,.int .i64 1,.int .i64 4] W0 fun e w'=>e=.returned (.bool true)/\W0=w'):=(zae 1 1 4 W0).mono fun e w' ⟨h1,h2⟩=>⟨by rw[h1];rfl,h2⟩;go_wp2_with fail;refine HWI.out.mono ?_;rintro e w1 ⟨rfl,hwx⟩;subst hwx;clear HWI;go_wp2_with fail;refine(zbI n W0 hn).mono ?_;rintro e w1 ⟨rfl,hwx⟩;subst hwx;go_wp2_with fail;go_loopw [62] (fun kV wz=>wz=W0/\∃k:Int,kV=.int .i64 k/\(k=0\/(k=1/\0<=a/\a<=999)\/(k=2/\(0<=a/\a<=999)/\0<=b/\b<=999)\/(k=3/\(0<=a/\a<=999)/\(0<=b/\b<=999)/\0<=c/\c<=999))) (fun kV _=>3-(intOf kV).toNat)
 case atStart=>exact⟨rfl,0,rfl,Or.inl rfl⟩
 case round =>
  obtain⟨rfl,k,rfl,hk⟩:=hrel;rcases hk with rfl|⟨rfl,h1⟩|⟨rfl,h1,h2⟩|⟨rfl,h1,h2,h3⟩
  ·have hix:=zoq a b c wr;go_wp2_with fail;clear hix
   by_cases hv:0<=a/\a<=999
   ·have HWV:Hid (zC 209 #[.int .i64 a,.int .i64 0,.int .i64 999] wr fun e w'=>e=.returned (.bool true)/\wr=w'):=(zae a 0 999 wr).mono fun e w' ⟨h1,h2⟩=>⟨by rw[h1,decide_eq_true hv],h2⟩;have HV:=zH hv;clear hv;refine HWV.out.mono ?_;rintro e w1 ⟨rfl,hwx⟩;subst hwx;clear HWV;go_wp2;go_roundw
    case rel=>exact⟨trivial,1,by go_num,Or.inr (Or.inl ⟨rfl,HV.out⟩)⟩
    case measure=>simp[intOf]
   ·have HWV:Hid (zC 209 #[.int .i64 a,.int .i64 0,.int .i64 999] wr fun e w'=>e=.returned (.bool false)/\wr=w'):=(zae a 0 999 wr).mono fun e w' ⟨h1,h2⟩=>⟨by rw[h1,decide_eq_false hv],h2⟩;have HC:Hid (Z=2):=by show _=_;rw[<-HZ.out];exact if_neg (fun h=>hv h.1)
    clear hv HZ;refine HWV.out.mono ?_;rintro e w1 ⟨rfl,hwx⟩;subst hwx;clear HWV;go_wp2;go_ret;exact⟨by rw[HC.out];rfl,HB.out⟩
  ·have hix:=zpP a b c wr;go_wp2_with fail;clear hix
   by_cases hv:0<=b/\b<=999
   ·have HWV:Hid (zC 209 #[.int .i64 b,.int .i64 0,.int .i64 999] wr fun e w'=>e=.returned (.bool true)/\wr=w'):=(zae b 0 999 wr).mono fun e w' ⟨h1,h2⟩=>⟨by rw[h1,decide_eq_true hv],h2⟩;have HV:=zH hv;clear hv;refine HWV.out.mono ?_;rintro e w1 ⟨rfl,hwx⟩;subst hwx;clear HWV;go_wp2;go_roundw
    case rel=>exact⟨trivial,2,by go_num,Or.inr (Or.inr (Or.inl ⟨rfl,h1,HV.out⟩))⟩
    case measure=>simp[intOf]
   ·have HWV:Hid (zC 209 #[.int .i64 b,.int .i64 0,.int .i64 999] wr fun e w'=>e=.returned (.bool false)/\wr=w'):=(zae b 0 999 wr).mono fun e w' ⟨h1,h2⟩=>⟨by rw[h1,decide_eq_false hv],h2⟩;have HC:Hid (Z=2):=by show _=_;rw[<-HZ.out];exact if_neg (fun h=>hv h.2.1)
    clear hv HZ;refine HWV.out.mono ?_;rintro e w1 ⟨rfl,hwx⟩;subst hwx;clear HWV;go_wp2;go_ret;exact⟨by rw[HC.out];rfl,HB.out⟩
  ·have hix:=zpJ a b c wr;go_wp2_with fail;clear hix
   by_cases hv:0<=c/\c<=999
   ·have HWV:Hid (zC 209 #[.int .i64 c,.int .i64 0,.int .i64 999] wr fun e w'=>e=.returned (.bool true)/\wr=w'):=(zae c 0 999 wr).mono fun e w' ⟨h1,h2⟩=>⟨by rw[h1,decide_eq_true hv],h2⟩;have HV:=zH hv;clear hv;refine HWV.out.mono ?_;rintro e w1 ⟨rfl,hwx⟩;subst hwx;clear HWV;go_wp2;go_roundw
    case rel=>exact⟨trivial,3,by go_num,Or.inr (Or.inr (Or.inr ⟨rfl,h1,h2,HV.out⟩))⟩
    case measure=>simp[intOf]
   ·have HWV:Hid (zC 209 #[.int .i64 c,.int .i64 0,.int .i64 999] wr fun e w'=>e=.returned (.bool false)/\wr=w'):=(zae c 0 999 wr).mono fun e w' ⟨h1,h2⟩=>⟨by rw[h1,decide_eq_false hv],h2⟩;have HC:Hid (Z=2):=by show _=_;rw[<-HZ.out];exact if_neg (fun h=>hv h.2.2)
    clear hv HZ;refine HWV.out.mono ?_;rintro e w1 ⟨rfl,hwx⟩;subst hwx;clear HWV;go_wp2;go_ret;exact⟨by rw[HC.out];rfl,HB.out⟩
  ·have HC:Hid (Z=0):=by show _=_;rw[<-HZ.out];exact if_pos ⟨h1,h2,h3⟩
   clear HZ h1 h2 h3;go_wp2;go_ret;exact⟨by rw[HC.out];rfl,HB.out⟩
theorem zwe(n:ByteArray)(a b c:Int)(ra:Option Addr)(rn rc:Nat)(w:World)(hn:zaj n)(hz:(a==0&&(b==0&&c==0))=false) :
  ChkRr w (1) #[.int .i64 4,.string n,.int .i64 a,.int .i64 b,.int .i64 c,.string ⟨#[]⟩,.slice ra rn rc]:=by
 obtain⟨W0,hW0,k0,hb0⟩:=lboxr w #[.int .i64 4,.string n,.int .i64 a,.int .i64 b,.int .i64 c,.string ⟨#[]⟩,.slice ra rn rc];go_enter Tryz.func136,Tryz.ntmps136;go_upto_region 1 with fail;clear hW0;obtain⟨xc0,xc1,xc2,xc3,xc4,xc5,xc6⟩:=cells7r k0;have HB:=zH hb0;clear k0 hb0;have HWI:Hid (zC 209 #[.int .i64 4,.int .i64 1,.int .i64 4] W0 fun e w'=>e=.returned (.bool true)/\W0=w'):=(zae 4 1 4 W0).mono fun e w' ⟨h1,h2⟩=>⟨by rw[h1];rfl,h2⟩;go_wp2_with fail;refine HWI.out.mono ?_;rintro e w1 ⟨rfl,hwx⟩;subst hwx;clear HWI;go_wp2_with fail;refine(zbI n W0 hn).mono ?_;rintro e w1 ⟨rfl,hwx⟩;subst hwx;have h3:=zw0 a b c 0 0 0;rw[hz] at h3;go_wp2;go_ret;exact⟨rfl,HB.out⟩
theorem zut(n:ByteArray)(a b c:Int)(ra:Option Addr)(rn rc:Nat)(w:World)(hn:zaj n)(hz:(a==0&&(b==0&&c==0))=true) :
  zR 136 #[.agg #[.int .i64 4,.string n,.int .i64 a,.int .i64 b,.int .i64 c,.string ⟨#[]⟩,.slice ra rn rc]] w (.int .i64 (if InV a b c then 0 else 2)):=by
 obtain⟨W0,hW0,k0,hb0⟩:=lboxr w #[.int .i64 4,.string n,.int .i64 a,.int .i64 b,.int .i64 c,.string ⟨#[]⟩,.slice ra rn rc];obtain⟨Z,hZ⟩:∃Z:Int,(if InV a b c then (0:Int) else 2)=Z:=⟨_,rfl⟩;rw[hZ];have HZ:=zH hZ;clear hZ;go_enter Tryz.func136,Tryz.ntmps136;go_upto_region 1 with fail;clear hW0;obtain⟨xc0,xc1,xc2,xc3,xc4,xc5,xc6⟩:=cells7r k0;have HB:=zH hb0;clear k0 hb0;have HWI:Hid (zC 209 #[.int .i64 4,.int .i64 1,.int .i64 4] W0 fun e w'=>e=.returned (.bool true)/\W0=w'):=(zae 4 1 4 W0).mono fun e w' ⟨h1,h2⟩=>⟨by rw[h1];rfl,h2⟩;go_wp2_with fail;refine HWI.out.mono ?_;rintro e w1 ⟨rfl,hwx⟩;subst hwx;clear HWI;go_wp2_with fail;refine(zbI n W0 hn).mono ?_;rintro e w1 ⟨rfl,hwx⟩;subst hwx;have h3:=zw0 a b c 0 0 0;rw[hz] at h3;go_wp2_with fail;clear h3;go_loopw [62] (fun kV wz=>wz=W0/\∃k:Int,kV=.int .i64 k/\(k=0\/(k=1/\0<=a/\a<=999)\/(k=2/\(0<=a/\a<=999)/\0<=b/\b<=999)\/(k=3/\(0<=a/\a<=999)/\(0<=b/\b<=999)/\0<=c/\c<=999))) (fun kV _=>3-(intOf kV).toNat)
 case atStart=>exact⟨rfl,0,rfl,Or.inl rfl⟩
 case round =>
  obtain⟨rfl,k,rfl,hk⟩:=hrel;rcases hk with rfl|⟨rfl,h1⟩|⟨rfl,h1,h2⟩|⟨rfl,h1,h2,h3⟩
  ·have hix:=zoq a b c wr;go_wp2_with fail;clear hix
   by_cases hv:0<=a/\a<=999
   ·have HWV:Hid (zC 209 #[.int .i64 a,.int .i64 0,.int .i64 999] wr fun e w'=>e=.returned (.bool true)/\wr=w'):=(zae a 0 999 wr).mono fun e w' ⟨h1,h2⟩=>⟨by rw[h1,decide_eq_true hv],h2⟩;have HV:=zH hv;clear hv;refine HWV.out.mono ?_;rintro e w1 ⟨rfl,hwx⟩;subst hwx;clear HWV;go_wp2;go_roundw
    case rel=>exact⟨trivial,1,by go_num,Or.inr (Or.inl ⟨rfl,HV.out⟩)⟩
    case measure=>simp[intOf]
   ·have HWV:Hid (zC 209 #[.int .i64 a,.int .i64 0,.int .i64 999] wr fun e w'=>e=.returned (.bool false)/\wr=w'):=(zae a 0 999 wr).mono fun e w' ⟨h1,h2⟩=>⟨by rw[h1,decide_eq_false hv],h2⟩;have HC:Hid (Z=2):=by show _=_;rw[<-HZ.out];exact if_neg (fun h=>hv h.1)
    clear hv HZ;refine HWV.out.mono ?_;rintro e w1 ⟨rfl,hwx⟩;subst hwx;clear HWV;go_wp2;go_ret;exact⟨by rw[HC.out];rfl,HB.out⟩
  ·have hix:=zpP a b c wr;go_wp2_with fail;clear hix
   by_cases hv:0<=b/\b<=999
   ·have HWV:Hid (zC 209 #[.int .i64 b,.int .i64 0,.int .i64 999] wr fun e w'=>e=.returned (.bool true)/\wr=w'):=(zae b 0 999 wr).mono fun e w' ⟨h1,h2⟩=>⟨by rw[h1,decide_eq_true hv],h2⟩;have HV:=zH hv;clear hv;refine HWV.out.mono ?_;rintro e w1 ⟨rfl,hwx⟩;subst hwx;clear HWV;go_wp2;go_roundw
    case rel=>exact⟨trivial,2,by go_num,Or.inr (Or.inr (Or.inl ⟨rfl,h1,HV.out⟩))⟩
    case measure=>simp[intOf]
   ·have HWV:Hid (zC 209 #[.int .i64 b,.int .i64 0,.int .i64 999] wr fun e w'=>e=.returned (.bool false)/\wr=w'):=(zae b 0 999 wr).mono fun e w' ⟨h1,h2⟩=>⟨by rw[h1,decide_eq_false hv],h2⟩;have HC:Hid (Z=2):=by show _=_;rw[<-HZ.out];exact if_neg (fun h=>hv h.2.1)
    clear hv HZ;refine HWV.out.mono ?_;rintro e w1 ⟨rfl,hwx⟩;subst hwx;clear HWV;go_wp2;go_ret;exact⟨by rw[HC.out];rfl,HB.out⟩
  ·have hix:=zpJ a b c wr;go_wp2_with fail;clear hix
   by_cases hv:0<=c/\c<=999
   ·have HWV:Hid (zC 209 #[.int .i64 c,.int .i64 0,.int .i64 999] wr fun e w'=>e=.returned (.bool true)/\wr=w'):=(zae c 0 999 wr).mono fun e w' ⟨h1,h2⟩=>⟨by rw[h1,decide_eq_true hv],h2⟩;have HV:=zH hv;clear hv;refine HWV.out.mono ?_;rintro e w1 ⟨rfl,hwx⟩;subst hwx;clear HWV;go_wp2;go_roundw
    case rel=>exact⟨trivial,3,by go_num,Or.inr (Or.inr (Or.inr ⟨rfl,h1,h2,HV.out⟩))⟩
    case measure=>simp[intOf]
   ·have HWV:Hid (zC 209 #[.int .i64 c,.int .i64 0,.int .i64 999] wr fun e w'=>e=.returned (.bool false)/\wr=w'):=(zae c 0 999 wr).mono fun e w' ⟨h1,h2⟩=>⟨by rw[h1,decide_eq_false hv],h2⟩;have HC:Hid (Z=2):=by show _=_;rw[<-HZ.out];exact if_neg (fun h=>hv h.2.2)
    clear hv HZ;refine HWV.out.mono ?_;rintro e w1 ⟨rfl,hwx⟩;subst hwx;clear HWV;go_wp2;go_ret;exact⟨by rw[HC.out];rfl,HB.out⟩
  ·have HC:Hid (Z=0):=by show _=_;rw[<-HZ.out];exact if_pos ⟨h1,h2,h3⟩
   clear HZ h1 h2 h3;go_wp2;go_ret;exact⟨by rw[HC.out];rfl,HB.out⟩
end
section
open Go.RowKit Sv
theorem ztk(x:Ln)(ra:Option Addr)(rc:Nat)(w:World) :
  zR 136 #[.agg #[.int .i64 x.kind,.string x.name,.int .i64 x.a,.int .i64 x.b,.int .i64 x.c,.string x.other,.slice ra (tp x.rng).length rc]] w (.int .i64 (zaC x)):=by
 obtain⟨k,n,a,b,c,o,r⟩:=x;unfold zaC Ln.pair;simp only
 by_cases hk:k<1\/4<k
 ·rw[if_pos hk];rcases hk with hk|hk
  ·exact zph k n o a b c ra (tp r).length rc w (by omega)
  ·exact zph k n o a b c ra (tp r).length rc w (by omega)
 rw[if_neg hk];have hk4:k=1\/k=2\/k=3\/k=4:=by omega
 by_cases hn:zaj n
 ·rcases hk4 with rfl|rfl|rfl|rfl
  ·have h1:¬(¬zaj n\/(((1:Int)=2\/(1:Int)=3)/\¬zaj o)):=by
    rintro (h|⟨h,_⟩)
    ·exact h hn
    ·omega
   rw[if_neg h1]
   by_cases ho:o.size≠0
   ·rw[if_pos ⟨by omega,ho⟩];exact zv7 n o a b c ra (tp r).length rc w hn (by omega)
   ·rw[if_neg (fun h=>ho h.2)];obtain rfl:=zbh (s:=o) (by omega);cases r with
    |nil =>
     rw[if_neg (fun h=>h.2 rfl),if_neg (by omega)];refine(zud n a b c ra rc w hn).mono fun e w' ⟨h1,h2⟩=>⟨?_,h2⟩;rw[h1]
     by_cases hi:InV a b c
     ·rw[if_pos hi,if_neg (fun h=>h hi)]
     ·rw[if_neg hi,if_pos hi]
    |cons s r =>rw[if_pos ⟨rfl,by simp⟩];exact zuE n a b c ra (tp (s :: r)).length rc w hn (by simp[tp])
  ·by_cases ho:zaj o
   ·have h1:¬(¬zaj n\/(((2:Int)=2\/(2:Int)=3)/\¬zaj o)):=by
     rintro (h|⟨_,h⟩)
     ·exact h hn
     ·exact h ho
    rw[if_neg h1,if_neg (fun h=>h.1 (Or.inl rfl)),if_neg (by omega),if_neg (by omega)];refine(zua n o a b c ra (tp r).length rc w hn ho).mono fun e w' ⟨h1,h2⟩=>⟨?_,h2⟩;rw[h1]
    by_cases hi:InV a b c
    ·rw[if_pos hi,if_neg (fun h=>h hi)]
    ·rw[if_neg hi,if_pos hi]
   ·rw[if_pos (Or.inr ⟨Or.inl rfl,ho⟩)];exact zug n o a b c ra (tp r).length rc w hn ho
  ·by_cases ho:zaj o
   ·have h1:¬(¬zaj n\/(((3:Int)=2\/(3:Int)=3)/\¬zaj o)):=by
     rintro (h|⟨_,h⟩)
     ·exact h hn
     ·exact h ho
    rw[if_neg h1,if_neg (fun h=>h.1 (Or.inr rfl)),if_neg (by omega),if_neg (by omega)];refine(zuA n o a b c ra (tp r).length rc w hn ho).mono fun e w' ⟨h1,h2⟩=>⟨?_,h2⟩;rw[h1]
    by_cases hi:InV a b c
    ·rw[if_pos hi,if_neg (fun h=>h hi)]
    ·rw[if_neg hi,if_pos hi]
   ·rw[if_pos (Or.inr ⟨Or.inr rfl,ho⟩)];exact zur n o a b c ra (tp r).length rc w hn ho
  ·have h1:¬(¬zaj n\/(((4:Int)=2\/(4:Int)=3)/\¬zaj o)):=by
    rintro (h|⟨h,_⟩)
    ·exact h hn
    ·omega
   rw[if_neg h1]
   by_cases ho:o.size≠0
   ·rw[if_pos ⟨by omega,ho⟩];exact zvS n o a b c ra (tp r).length rc w hn (by omega)
   ·rw[if_neg (fun h=>ho h.2),if_neg (by omega)];obtain rfl:=zbh (s:=o) (by omega)
    by_cases hz:a≠0\/b≠0\/c≠0
    ·rw[if_pos ⟨rfl,hz⟩];refine zwe n a b c ra (tp r).length rc w hn ?_
     by_cases h0:a=0
     ·by_cases h1:b=0
      ·have h2:c≠0:=by omega
       simp[h2]
      ·simp[h1]
     ·simp[h0]
    ·rw[if_neg (fun h=>hz h.2)];obtain rfl:a=0:=by omega
     obtain rfl:b=0:=by omega
     obtain rfl:c=0:=by omega
     rw[if_neg (fun h=>h (by decide))];exact(zut n 0 0 0 ra (tp r).length rc w hn (by decide)).mono fun e w' ⟨h1,h2⟩=>⟨by rw[h1,if_pos (by decide)],h2⟩
 ·rw[if_pos (Or.inl hn)];rcases hk4 with rfl|rfl|rfl|rfl
  ·exact ztB n o a b c ra (tp r).length rc w hn
  ·exact zty n o a b c ra (tp r).length rc w hn
  ·exact zuW n o a b c ra (tp r).length rc w hn
  ·exact zt6 n o a b c ra (tp r).length rc w hn
end
section
open Go.RowKit Go.Deep Go.Maps
def zeQ:Value->Option (DataW Unit × List MemPlace)
 |.bool b=>some (.lit (.bool b),[])
 |_=>none
theorem zez(b:Bool):zeQ (.bool b)=some (.lit (.bool b),[]):=rfl
theorem zfz{v:Value}{b:Bool}{ps:List MemPlace}(h:zeQ v=some (.lit (.bool b),ps)):v=.bool b:=by
 unfold zeQ at h;split at h
 ·simp at h;rw[h.1]
 ·cases h
theorem zsp(w:World):(zeroValue 4).run Tryz.prog w=.ok (.bool false) w:=by kernel_rfl
def zbU(w:World)(bm:Nat)(l:List It):Prop:=∃D,w.ownsMap Tryz.prog 9 zeQ bm (zbk l) D/\znV (fun _:Unit=>.lit (.bool true)) D (zdu l) (zbk l)
theorem zbU.made(w:World):zbU (w.alloc (.map #[] 0)) w.heap.size []:=⟨.map [],World.ownsMap_made w _ _ _,znV.empty⟩
theorem zbU.below{B:Nat}{w w':World}{bm:Nat}{l:List It}(h:zbU w bm l)(hb:Below B w w')(hB:w.heap.size<=B):zbU w' bm l:=by
 obtain⟨D,h1,h2⟩:=h;exact⟨D,zcu h1 (hb.mono hB),h2⟩
theorem zbU.lt{w:World}{bm:Nat}{l:List It}(h:zbU w bm l):bm<w.heap.size:=by obtain⟨D,h1,_⟩:=h;exact h1.lt
theorem zbU.block{w w':World}{bm:Nat}{l:List It}(h:zbU w bm l)(hb:w'.heap[bm]?=w.heap[bm]?):zbU w' bm l:=by
 obtain⟨D,⟨es,clock,h1,h2⟩,hR⟩:=h;exact⟨D,⟨es,clock,hb.trans h1,h2⟩,hR⟩
theorem zbU.put{w:World}{bm:Nat}{l:List It}(h:zbU w bm l)(hl:l.length<1000000){x:It}(hs:x.name.size<=100000) :
  ∃w',(Instr.mapUpdate 239 (.map (some bm)) (.string x.name) (.bool true)).run Tryz.prog w=.ok () w'/\zbU w' bm (l++[x])/\w.grownBy w' (some bm):=by
 obtain⟨D,hD,hR⟩:=h;have hle:=ziP l;obtain⟨w',hrun,g1,k1⟩:=hD.update ziT Tryz.underlying239 (by unfold maxLen;omega) (zi5 hs) (zez true);have hR1:=hR.put x.name ();have e1:(fun c=>if c=x.name then some () else zdu l c)=zdu (l++[x]):=by
  funext c;unfold zdu
  by_cases h:c=x.name
  ·simp[h]
  ·simp[h]
 have e2:(if (zdu l x.name).isSome then zbk l else zbk l+1)=zbk (l++[x]):=by
  rw[zgj];unfold zdu
  by_cases h:x.name∈l.map It.name
  ·rw[if_pos h,if_pos h];rfl
  ·rw[if_neg h,if_neg h];rfl
 rw[e1,e2] at hR1;exact⟨w',hrun,⟨_,hR1.size▸za5 g1,hR1⟩,k1⟩
theorem zbU.len{w:World}{bm:Nat}{l:List It}(h:zbU w bm l)(ty:TypeId):(Builtin.len_ #[239] ty #[.map (some bm)]).run Tryz.prog w=.ok (.int .i64 (zbk l)) w:=by
 obtain⟨D,hD,hR⟩:=h;rw[hD.len Tryz.underlying239 ty,hR.size]
theorem zsn:laidOutB Tryz.prog=true:=by kernel_rfl
theorem zqB:(93:TypeId)<Tryz.prog.types.size:=of_decide_eq_true (by kernel_rfl)
theorem zoo:(match Tryz.prog.underlying 93 with|some (.array _ _)|some (.struct _)=>true|_=>false)=true:=by rw[Tryz.underlying93]
theorem ztm:Keyed Tryz.prog 93:=Keyed.of_law (deep_law_laid zsn (m:=3) (by omega) zqB (by kernel_rfl) zoo)
theorem zpI:Tryz.prog.keyType 93=true:=by kernel_rfl
theorem zqj:Tryz.prog.cellsOf 93=4:=by kernel_rfl
theorem zoI:Tryz.prog.cellsOf 91=3:=by kernel_rfl
theorem zuZ:Tryz.prog.cellsOf 3=1:=by kernel_rfl
theorem zu4:Tryz.prog.cellsOf 9=1:=by kernel_rfl
def itV(x:It):Value:=.agg #[.string x.name,.int .i64 x.a,.int .i64 x.b,.int .i64 x.c]
def zrT(x:It):Prop:=x.name.size<=100000/\(0<=x.a/\x.a<=999)/\(0<=x.b/\x.b<=999)/\0<=x.c/\x.c<=999
def zi3(x:It):Lit:=.string (keyBytes [.string x.name.data.toList,.int .i64 x.a,.int .i64 x.b,.int .i64 x.c])
theorem zxh{m:Int}(h:0<=m/\m<=999):(Lit.int .i64 m).wf=true:=by
 simp[Lit.wf,IntKind.min,IntKind.max,IntKind.signed,IntKind.bits];omega
theorem zte(d:Nat){m:Int}(h:0<=m/\m<=999):Tryz.prog.keyLits (d+1) 3 [.int .i64 m]=some [.int .i64 m]:=by
 unfold Program.keyLits;rw[Tryz.underlying3];simp[zxh h]
theorem zwF(d:Nat){s:ByteArray}(h:s.size<=100000):Tryz.prog.keyLits (d+1) 9 [.string s]=some [.string s.data.toList]:=by
 unfold Program.keyLits;rw[Tryz.underlying9];have h2:s.size<=maxLen:=by unfold maxLen;omega
 simp[h2]
theorem zwN(d:Nat){a b c:Int}(ha:0<=a/\a<=999)(hb:0<=b/\b<=999)(hc:0<=c/\c<=999):Tryz.prog.keyLits (d+2) 91 [.int .i64 a,.int .i64 b,.int .i64 c]=some [.int .i64 a,.int .i64 b,.int .i64 c]:=by
 unfold Program.keyLits;rw[Tryz.underlying91];have e:List.range 3=[0,1,2]:=rfl;simp[zoI,zuZ,e,zte d ha,zte d hb,zte d hc]
theorem zqX(x:It)(h:zrT x):keyOf Tryz.prog 93 (itV x)=some (zi3 x):=by
 have hf:(itV x).formed Tryz.prog 93=true:=by simp[Value.formed,Tryz.underlying93,zqj,itV]
 unfold keyOf;rw[Tryz.underlying93];simp only[zpI,hf,Bool.and_self,if_true];obtain⟨d,hd⟩:∃d,Tryz.prog.types.size+1=d+3:=⟨Tryz.prog.types.size-2,by have:3<Tryz.prog.types.size:=of_decide_eq_true (by kernel_rfl);omega⟩;rw[hd];have hc:(itV x).cells.toList=[.string x.name,.int .i64 x.a,.int .i64 x.b,.int .i64 x.c]:=rfl;rw[hc];unfold Program.keyLits;rw[Tryz.underlying93];simp[zqj,zoI,zu4,zwF (d+1) h.1,zwN d h.2.1 h.2.2.1 h.2.2.2,zi3]
theorem zpw{x y:It}(hx:zrT x)(hy:zrT y)(h:zi3 x=zi3 y):x=y:=by
 have:=ztm.inj (zqX x hx) (h▸zqX y hy);obtain⟨n,a,b,c⟩:=x;obtain⟨n',a',b',c'⟩:=y;simp[itV] at this;obtain⟨rfl,rfl,rfl,rfl⟩:=this;rfl
def zjT(l:List It):List (It × Unit):=l.map fun s=>(s,())
theorem zjF(l:List It):(zjT l).map Prod.fst=l:=by unfold zjT;rw[List.map_map];simp[Function.comp_def]
def zw2(D:DataW Unit)(l:List It):Prop:=Rep zrT zi3 (fun _:Unit=>.lit (.bool true)) D (zjT l)
def zbz(w:World)(bm:Nat)(l:List It):Prop:=∃D,w.ownsMap Tryz.prog 93 zeQ bm l.length D/\zw2 D l
theorem zbz.lt{w:World}{bm:Nat}{l:List It}(h:zbz w bm l):bm<w.heap.size:=by obtain⟨D,hD,_⟩:=h;exact hD.lt
theorem zbz.made(w:World):zbz (w.alloc (.map #[] 0)) w.heap.size []:=⟨.map [],World.ownsMap_made w _ _ _,Rep.empty⟩
theorem zbz.block{w w':World}{bm:Nat}{l:List It}(h:zbz w bm l)(hb:w'.heap[bm]?=w.heap[bm]?):zbz w' bm l:=by
 obtain⟨D,⟨es,clock,h1,h2⟩,hR⟩:=h;exact⟨D,⟨es,clock,hb.trans h1,h2⟩,hR⟩
theorem zbz.below{B:Nat}{w w':World}{bm:Nat}{l:List It}(h:zbz w bm l)(hb:Below B w w')(hB:w.heap.size<=B):zbz w' bm l:=by
 obtain⟨D,h1,h2⟩:=h;exact⟨D,zcu h1 (hb.mono hB),h2⟩
theorem zbz.look{w:World}{bm:Nat}{l:List It}(h:zbz w bm l){x:It}(hx:zrT x) :
  (Instr.lookup 240 (.map (some bm)) (.agg #[.string x.name,.int .i64 x.a,.int .i64 x.b,.int .i64 x.c]) false).run Tryz.prog w=.ok (.bool (decide (x∈l))) w:=by
 obtain⟨D,hD,hR⟩:=h;obtain⟨v,ps,hrun,hv⟩:=hD.lookup ztm Tryz.underlying240 (zsp w) (zez false) (zqX x hx)
 by_cases hm:x∈l
 ·rw[show D.atKey (zi3 x) (.lit (.bool false))=.lit (.bool true) from hR.at' (x,()) (by unfold zjT;exact List.mem_map.2 ⟨x,hm,rfl⟩) _] at hv;rw[zfz hv] at hrun;rw[decide_eq_true hm];exact hrun
 ·have hn:Maps.has D (zi3 x)=false:=Rep.not hR hx (by rw[zjF];exact hm);rw[atKey_of_not_has hn] at hv;rw[zfz hv] at hrun;rw[decide_eq_false hm];exact hrun
theorem zbz.put{w:World}{bm:Nat}{l:List It}(h:zbz w bm l)(hl:l.length<1000000){x:It}(hx:zrT x)(hn:x∉l) :
  ∃w',(Instr.mapUpdate 240 (.map (some bm)) (.agg #[.string x.name,.int .i64 x.a,.int .i64 x.b,.int .i64 x.c]) (.bool true)).run Tryz.prog w=.ok () w'/\zbz w' bm (l++[x])/\w.grownBy w' (some bm):=by
 obtain⟨D,hD,hR⟩:=h;obtain⟨w',hrun,g1,k1⟩:=hD.update ztm Tryz.underlying240 (by unfold maxLen;omega) (zqX x hx) (zez true);have hR1:zw2 (D.put (zi3 x) (.lit (.bool true))) (l++[x]):=by
  have:=Rep.put hR (fun a b ha hb e=>zpw ha hb e) (fun _=>trivial) hx (by rw[zjF];exact hn) ();show Rep _ _ _ _ (zjT (l++[x]));unfold zjT at *;rw[List.map_append];exact this
 refine⟨w',hrun,⟨_,?_,hR1⟩,k1⟩;have h2:=hR1.size;unfold zjT at h2;rw[List.length_map] at h2;exact h2▸za5 g1
theorem zbz.len{w:World}{bm:Nat}{l:List It}(h:zbz w bm l)(ty:TypeId):(Builtin.len_ #[240] ty #[.map (some bm)]).run Tryz.prog w=.ok (.int .i64 l.length) w:=by
 obtain⟨D,hD,hR⟩:=h;rw[hD.len Tryz.underlying240 ty,hR.size,zjT,List.length_map]
theorem zbU.ne{w:World}{bm b:Nat}{l:List It}{t:TypeId}{cs:Array Value}(h:zbU w bm l)(hb:Blk w b t cs):bm≠b:=by
 rintro rfl;obtain⟨D,⟨es,clock,h1,_⟩,_⟩:=h;have:=h1.symm.trans hb;cases this
theorem zbz.ne{w:World}{bm b:Nat}{l:List It}{t:TypeId}{cs:Array Value}(h:zbz w bm l)(hb:Blk w b t cs):bm≠b:=by
 rintro rfl;obtain⟨D,⟨es,clock,h1,_⟩,_⟩:=h;have:=h1.symm.trans hb;cases this
end
end Go.Proofs.YtiihalknffbjpaaGreatDoor
