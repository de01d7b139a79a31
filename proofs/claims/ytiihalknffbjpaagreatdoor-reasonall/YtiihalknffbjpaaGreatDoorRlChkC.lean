/- The reference: lineCheck, whole. -/
import Derived.Test.YtiihalknffbjpaaGreatDoorSvRHas
set_option maxHeartbeats 2000000
set_option maxRecDepth 100000
namespace Go.Proofs.YtiihalknffbjpaaGreatDoor
section
open Go.RowKit Sv
abbrev Zk(w:World)(v:Int)(ks:Array Value):Prop:=zR 136 #[.agg ks] w (.int .i64 v)
theorem xt{W:World}{b:Nat}{t:TypeId}{x0 x1 x2 x3 x4 x5 x6:Value}(h:Blk W b t #[x0,x1,x2,x3,x4,x5,x6]):W.cell? ⟨b,0,none⟩=some x0/\W.cell? ⟨b,1,none⟩=some x1/\W.cell? ⟨b,2,none⟩=some x2/\W.cell? ⟨b,3,none⟩=some x3/\W.cell? ⟨b,4,none⟩=some x4/\W.cell? ⟨b,5,none⟩=some x5/\W.cell? ⟨b,6,none⟩=some x6:=⟨h.cell 0,h.cell 1,h.cell 2,h.cell 3,h.cell 4,h.cell 5,h.cell 6⟩
theorem xw(w:World)(K:Array Value):∃W0,w.alloc (.cells K 101)=W0/\Blk W0 w.heap.size 101 K/\zB w W0:=⟨_,rfl,Blk.new _ _ _,(Below.refl _ w).alloc zN _⟩
theorem xY(s:ByteArray)(w:World)(h:zl s):zC 210 #[.string s] w fun e w'=>e=.returned (.bool true)/\w=w':=(zcK s w).mono fun _ _ ⟨h1,h2⟩=>⟨h1.1 h,h2⟩
theorem QL(s:ByteArray)(w:World)(h:¬zl s):zC 210 #[.string s] w fun e w'=>e=.returned (.bool false)/\w=w':=(zcK s w).mono fun _ _ ⟨h1,h2⟩=>⟨h1.2 h,h2⟩
theorem zb1(a b c a' b' c':Int)(w:World):(Op.equalIn 10000 91 (.agg #[.int .i64 a,.int .i64 b,.int .i64 c]) (.agg #[.int .i64 a',.int .i64 b',.int .i64 c'])).run Tryz.prog w=.ok (a==a'&&(b==b'&&c==c')) w:=by
 have u3:=Tryz.underlying3;have a3:=Tryz.isAgg3;have z3:=Tryz.sizeOf3;rw[show (10000:Nat)=9999+1 from rfl,Op.equalIn];simp only[Sem.run_bind,run_underlying Tryz.underlying91,Result.andThen_ok];simp only[Std.Legacy.Range.forIn_eq_forIn_range',Std.Legacy.Range.size,Nat.sub_zero,Nat.add_sub_cancel,Nat.div_one,List.range'_succ,List.range'_zero,List.forIn_cons,List.forIn_nil]
 by_cases h1:a=a'
 ·by_cases h2:b=b'
  ·by_cases h3:c=c'
   ·subst h1 h2 h3;go_simp
   ·have e3:(c==c')=false:=by simpa using h3
    subst h1 h2;go_simp
  ·have e2:(b==b')=false:=by simpa using h2
   subst h1;go_simp
 ·have e1:(a==a')=false:=by simpa using h1
  go_simp
theorem zay(k:Int)(n o:ByteArray)(a b c:Int)(ra:Option Addr)(rn rc:Nat)(w:World)(hk:¬(1<=k/\k<=4)) :
  Zk w (1) #[.int .i64 k,.string n,.int .i64 a,.int .i64 b,.int .i64 c,.string o,.slice ra rn rc]:=by
 obtain⟨W0,hW0,k0,hb0⟩:=xw w #[.int .i64 k,.string n,.int .i64 a,.int .i64 b,.int .i64 c,.string o,.slice ra rn rc];go_enter Tryz.func136,Tryz.ntmps136;go_upto_region 1 with fail;clear hW0;obtain⟨xc0,xc1,xc2,xc3,xc4,xc5,xc6⟩:=xt k0;have HB:=zH hb0;clear k0 hb0;have HWI:Hid (zC 209 #[.int .i64 k,.int .i64 1,.int .i64 4] W0 fun e w'=>e=.returned (.bool false)/\W0=w'):=(zP k 1 4 W0).mono fun e w' ⟨h1,h2⟩=>⟨by rw[h1,decide_eq_false hk],h2⟩;clear hk;go_wp2_with fail;refine HWI.out.mono ?_;rintro e w1 ⟨rfl,hwx⟩;subst hwx;clear HWI;go_wp2;go_ret;exact⟨rfl,HB.out⟩
theorem zgI(n o:ByteArray)(a b c:Int)(ra:Option Addr)(rn rc:Nat)(w:World)(hn:¬zl n) :
  Zk w (5) #[.int .i64 1,.string n,.int .i64 a,.int .i64 b,.int .i64 c,.string o,.slice ra rn rc]:=by
 obtain⟨W0,hW0,k0,hb0⟩:=xw w #[.int .i64 1,.string n,.int .i64 a,.int .i64 b,.int .i64 c,.string o,.slice ra rn rc];go_enter Tryz.func136,Tryz.ntmps136;go_upto_region 1 with fail;clear hW0;obtain⟨xc0,xc1,xc2,xc3,xc4,xc5,xc6⟩:=xt k0;have HB:=zH hb0;clear k0 hb0;have HWI:Hid (zC 209 #[.int .i64 1,.int .i64 1,.int .i64 4] W0 fun e w'=>e=.returned (.bool true)/\W0=w'):=(zP 1 1 4 W0).mono fun e w' ⟨h1,h2⟩=>⟨by rw[h1];rfl,h2⟩;go_wp2_with fail;refine HWI.out.mono ?_;rintro e w1 ⟨rfl,hwx⟩;subst hwx;clear HWI;go_wp2_with fail;refine(QL n W0 hn).mono ?_;rintro e w1 ⟨rfl,hwx⟩;subst hwx;go_wp2;go_ret;exact⟨rfl,HB.out⟩
theorem zgE(n o:ByteArray)(a b c:Int)(ra:Option Addr)(rn rc:Nat)(w:World)(hn:¬zl n) :
  Zk w (5) #[.int .i64 2,.string n,.int .i64 a,.int .i64 b,.int .i64 c,.string o,.slice ra rn rc]:=by
 obtain⟨W0,hW0,k0,hb0⟩:=xw w #[.int .i64 2,.string n,.int .i64 a,.int .i64 b,.int .i64 c,.string o,.slice ra rn rc];go_enter Tryz.func136,Tryz.ntmps136;go_upto_region 1 with fail;clear hW0;obtain⟨xc0,xc1,xc2,xc3,xc4,xc5,xc6⟩:=xt k0;have HB:=zH hb0;clear k0 hb0;have HWI:Hid (zC 209 #[.int .i64 2,.int .i64 1,.int .i64 4] W0 fun e w'=>e=.returned (.bool true)/\W0=w'):=(zP 2 1 4 W0).mono fun e w' ⟨h1,h2⟩=>⟨by rw[h1];rfl,h2⟩;go_wp2_with fail;refine HWI.out.mono ?_;rintro e w1 ⟨rfl,hwx⟩;subst hwx;clear HWI;go_wp2_with fail;refine(QL n W0 hn).mono ?_;rintro e w1 ⟨rfl,hwx⟩;subst hwx;go_wp2;go_ret;exact⟨rfl,HB.out⟩
theorem zlM(n o:ByteArray)(a b c:Int)(ra:Option Addr)(rn rc:Nat)(w:World)(hn:¬zl n) :
  Zk w (5) #[.int .i64 3,.string n,.int .i64 a,.int .i64 b,.int .i64 c,.string o,.slice ra rn rc]:=by
 obtain⟨W0,hW0,k0,hb0⟩:=xw w #[.int .i64 3,.string n,.int .i64 a,.int .i64 b,.int .i64 c,.string o,.slice ra rn rc];go_enter Tryz.func136,Tryz.ntmps136;go_upto_region 1 with fail;clear hW0;obtain⟨xc0,xc1,xc2,xc3,xc4,xc5,xc6⟩:=xt k0;have HB:=zH hb0;clear k0 hb0;have HWI:Hid (zC 209 #[.int .i64 3,.int .i64 1,.int .i64 4] W0 fun e w'=>e=.returned (.bool true)/\W0=w'):=(zP 3 1 4 W0).mono fun e w' ⟨h1,h2⟩=>⟨by rw[h1];rfl,h2⟩;go_wp2_with fail;refine HWI.out.mono ?_;rintro e w1 ⟨rfl,hwx⟩;subst hwx;clear HWI;go_wp2_with fail;refine(QL n W0 hn).mono ?_;rintro e w1 ⟨rfl,hwx⟩;subst hwx;go_wp2;go_ret;exact⟨rfl,HB.out⟩
theorem zf9(n o:ByteArray)(a b c:Int)(ra:Option Addr)(rn rc:Nat)(w:World)(hn:¬zl n) :
  Zk w (5) #[.int .i64 4,.string n,.int .i64 a,.int .i64 b,.int .i64 c,.string o,.slice ra rn rc]:=by
 obtain⟨W0,hW0,k0,hb0⟩:=xw w #[.int .i64 4,.string n,.int .i64 a,.int .i64 b,.int .i64 c,.string o,.slice ra rn rc];go_enter Tryz.func136,Tryz.ntmps136;go_upto_region 1 with fail;clear hW0;obtain⟨xc0,xc1,xc2,xc3,xc4,xc5,xc6⟩:=xt k0;have HB:=zH hb0;clear k0 hb0;have HWI:Hid (zC 209 #[.int .i64 4,.int .i64 1,.int .i64 4] W0 fun e w'=>e=.returned (.bool true)/\W0=w'):=(zP 4 1 4 W0).mono fun e w' ⟨h1,h2⟩=>⟨by rw[h1];rfl,h2⟩;go_wp2_with fail;refine HWI.out.mono ?_;rintro e w1 ⟨rfl,hwx⟩;subst hwx;clear HWI;go_wp2_with fail;refine(QL n W0 hn).mono ?_;rintro e w1 ⟨rfl,hwx⟩;subst hwx;go_wp2;go_ret;exact⟨rfl,HB.out⟩
theorem zgO(n o:ByteArray)(a b c:Int)(ra:Option Addr)(rn rc:Nat)(w:World)(hn:zl n)(ho:¬zl o) :
  Zk w (5) #[.int .i64 2,.string n,.int .i64 a,.int .i64 b,.int .i64 c,.string o,.slice ra rn rc]:=by
 obtain⟨W0,hW0,k0,hb0⟩:=xw w #[.int .i64 2,.string n,.int .i64 a,.int .i64 b,.int .i64 c,.string o,.slice ra rn rc];go_enter Tryz.func136,Tryz.ntmps136;go_upto_region 1 with fail;clear hW0;obtain⟨xc0,xc1,xc2,xc3,xc4,xc5,xc6⟩:=xt k0;have HB:=zH hb0;clear k0 hb0;have HWI:Hid (zC 209 #[.int .i64 2,.int .i64 1,.int .i64 4] W0 fun e w'=>e=.returned (.bool true)/\W0=w'):=(zP 2 1 4 W0).mono fun e w' ⟨h1,h2⟩=>⟨by rw[h1];rfl,h2⟩;go_wp2_with fail;refine HWI.out.mono ?_;rintro e w1 ⟨rfl,hwx⟩;subst hwx;clear HWI;go_wp2_with fail;refine(xY n W0 hn).mono ?_;rintro e w1 ⟨rfl,hwx⟩;subst hwx;go_wp2_with fail;refine(QL o W0 ho).mono ?_;rintro e w1 ⟨rfl,hwx⟩;subst hwx;go_wp2;go_ret;exact⟨rfl,HB.out⟩
theorem zi0(n o:ByteArray)(a b c:Int)(ra:Option Addr)(rn rc:Nat)(w:World)(hn:zl n)(ho:zl o) :
  zR 136 #[.agg #[.int .i64 2,.string n,.int .i64 a,.int .i64 b,.int .i64 c,.string o,.slice ra rn rc]] w (.int .i64 (if InV a b c then 0 else 2)):=by
 obtain⟨W0,hW0,k0,hb0⟩:=xw w #[.int .i64 2,.string n,.int .i64 a,.int .i64 b,.int .i64 c,.string o,.slice ra rn rc];obtain⟨Z,hZ⟩:∃Z:Int,(if InV a b c then (0:Int) else 2)=Z:=⟨_,rfl⟩;rw[hZ];have HZ:=zH hZ;clear hZ;go_enter Tryz.func136,Tryz.ntmps136;go_upto_region 1 with fail;clear hW0;obtain⟨xc0,xc1,xc2,xc3,xc4,xc5,xc6⟩:=xt k0;have HB:=zH hb0;clear k0 hb0;have HWI:Hid (zC 209 #[.int .i64 2,.int .i64 1,.int .i64 4] W0 fun e w'=>e=.returned (.bool true)/\W0=w'):=(zP 2 1 4 W0).mono fun e w' ⟨h1,h2⟩=>⟨by rw[h1];rfl,h2⟩;go_wp2_with fail;refine HWI.out.mono ?_;rintro e w1 ⟨rfl,hwx⟩;subst hwx;clear HWI;go_wp2_with fail;refine(xY n W0 hn).mono ?_;rintro e w1 ⟨rfl,hwx⟩;subst hwx;go_wp2_with fail;refine(xY o W0 ho).mono ?_;rintro e w1 ⟨rfl,hwx⟩;subst hwx;go_wp2_with fail;go_loopw [62] (fun kV wz=>wz=W0/\∃k:Int,kV=.int .i64 k/\(k=0\/(k=1/\0<=a/\a<=999)\/(k=2/\(0<=a/\a<=999)/\0<=b/\b<=999)\/(k=3/\(0<=a/\a<=999)/\(0<=b/\b<=999)/\0<=c/\c<=999))) (fun kV _=>3-(intOf kV).toNat)
 case atStart=>exact⟨rfl,0,rfl,Or.inl rfl⟩
 case round =>
  obtain⟨rfl,k,rfl,hk⟩:=hrel;rcases hk with rfl|⟨rfl,h1⟩|⟨rfl,h1,h2⟩|⟨rfl,h1,h2,h3⟩
  ·have hix:=Ya a b c wr;go_wp2_with fail;clear hix
   by_cases hv:0<=a/\a<=999
   ·have HWV:Hid (zC 209 #[.int .i64 a,.int .i64 0,.int .i64 999] wr fun e w'=>e=.returned (.bool true)/\wr=w'):=(zP a 0 999 wr).mono fun e w' ⟨h1,h2⟩=>⟨by rw[h1,decide_eq_true hv],h2⟩;have HV:=zH hv;clear hv;refine HWV.out.mono ?_;rintro e w1 ⟨rfl,hwx⟩;subst hwx;clear HWV;go_wp2;go_roundw
    case rel=>exact⟨trivial,1,by go_num,Or.inr (Or.inl ⟨rfl,HV.out⟩)⟩
    case measure=>simp[intOf]
   ·have HWV:Hid (zC 209 #[.int .i64 a,.int .i64 0,.int .i64 999] wr fun e w'=>e=.returned (.bool false)/\wr=w'):=(zP a 0 999 wr).mono fun e w' ⟨h1,h2⟩=>⟨by rw[h1,decide_eq_false hv],h2⟩;have HC:Hid (Z=2):=by show _=_;rw[<-HZ.out];exact if_neg (fun h=>hv h.1)
    clear hv HZ;refine HWV.out.mono ?_;rintro e w1 ⟨rfl,hwx⟩;subst hwx;clear HWV;go_wp2;go_ret;exact⟨by rw[HC.out];rfl,HB.out⟩
  ·have hix:=Yh a b c wr;go_wp2_with fail;clear hix
   by_cases hv:0<=b/\b<=999
   ·have HWV:Hid (zC 209 #[.int .i64 b,.int .i64 0,.int .i64 999] wr fun e w'=>e=.returned (.bool true)/\wr=w'):=(zP b 0 999 wr).mono fun e w' ⟨h1,h2⟩=>⟨by rw[h1,decide_eq_true hv],h2⟩;have HV:=zH hv;clear hv;refine HWV.out.mono ?_;rintro e w1 ⟨rfl,hwx⟩;subst hwx;clear HWV;go_wp2;go_roundw
    case rel=>exact⟨trivial,2,by go_num,Or.inr (Or.inr (Or.inl ⟨rfl,h1,HV.out⟩))⟩
    case measure=>simp[intOf]
   ·have HWV:Hid (zC 209 #[.int .i64 b,.int .i64 0,.int .i64 999] wr fun e w'=>e=.returned (.bool false)/\wr=w'):=(zP b 0 999 wr).mono fun e w' ⟨h1,h2⟩=>⟨by rw[h1,decide_eq_false hv],h2⟩;have HC:Hid (Z=2):=by show _=_;rw[<-HZ.out];exact if_neg (fun h=>hv h.2.1)
    clear hv HZ;refine HWV.out.mono ?_;rintro e w1 ⟨rfl,hwx⟩;subst hwx;clear HWV;go_wp2;go_ret;exact⟨by rw[HC.out];rfl,HB.out⟩
  ·have hix:=Yx a b c wr;go_wp2_with fail;clear hix
   by_cases hv:0<=c/\c<=999
   ·have HWV:Hid (zC 209 #[.int .i64 c,.int .i64 0,.int .i64 999] wr fun e w'=>e=.returned (.bool true)/\wr=w'):=(zP c 0 999 wr).mono fun e w' ⟨h1,h2⟩=>⟨by rw[h1,decide_eq_true hv],h2⟩;have HV:=zH hv;clear hv;refine HWV.out.mono ?_;rintro e w1 ⟨rfl,hwx⟩;subst hwx;clear HWV;go_wp2;go_roundw
    case rel=>exact⟨trivial,3,by go_num,Or.inr (Or.inr (Or.inr ⟨rfl,h1,h2,HV.out⟩))⟩
    case measure=>simp[intOf]
   ·have HWV:Hid (zC 209 #[.int .i64 c,.int .i64 0,.int .i64 999] wr fun e w'=>e=.returned (.bool false)/\wr=w'):=(zP c 0 999 wr).mono fun e w' ⟨h1,h2⟩=>⟨by rw[h1,decide_eq_false hv],h2⟩;have HC:Hid (Z=2):=by show _=_;rw[<-HZ.out];exact if_neg (fun h=>hv h.2.2)
    clear hv HZ;refine HWV.out.mono ?_;rintro e w1 ⟨rfl,hwx⟩;subst hwx;clear HWV;go_wp2;go_ret;exact⟨by rw[HC.out];rfl,HB.out⟩
  ·have HC:Hid (Z=0):=by show _=_;rw[<-HZ.out];exact if_pos ⟨h1,h2,h3⟩
   clear HZ h1 h2 h3;go_wp2;go_ret;exact⟨by rw[HC.out];rfl,HB.out⟩
theorem zeG(n o:ByteArray)(a b c:Int)(ra:Option Addr)(rn rc:Nat)(w:World)(hn:zl n)(ho:¬zl o) :
  Zk w (5) #[.int .i64 3,.string n,.int .i64 a,.int .i64 b,.int .i64 c,.string o,.slice ra rn rc]:=by
 obtain⟨W0,hW0,k0,hb0⟩:=xw w #[.int .i64 3,.string n,.int .i64 a,.int .i64 b,.int .i64 c,.string o,.slice ra rn rc];go_enter Tryz.func136,Tryz.ntmps136;go_upto_region 1 with fail;clear hW0;obtain⟨xc0,xc1,xc2,xc3,xc4,xc5,xc6⟩:=xt k0;have HB:=zH hb0;clear k0 hb0;have HWI:Hid (zC 209 #[.int .i64 3,.int .i64 1,.int .i64 4] W0 fun e w'=>e=.returned (.bool true)/\W0=w'):=(zP 3 1 4 W0).mono fun e w' ⟨h1,h2⟩=>⟨by rw[h1];rfl,h2⟩;go_wp2_with fail;refine HWI.out.mono ?_;rintro e w1 ⟨rfl,hwx⟩;subst hwx;clear HWI;go_wp2_with fail;refine(xY n W0 hn).mono ?_;rintro e w1 ⟨rfl,hwx⟩;subst hwx;go_wp2_with fail;refine(QL o W0 ho).mono ?_;rintro e w1 ⟨rfl,hwx⟩;subst hwx;go_wp2;go_ret;exact⟨rfl,HB.out⟩
theorem zka(n o:ByteArray)(a b c:Int)(ra:Option Addr)(rn rc:Nat)(w:World)(hn:zl n)(ho:zl o) :
  zR 136 #[.agg #[.int .i64 3,.string n,.int .i64 a,.int .i64 b,.int .i64 c,.string o,.slice ra rn rc]] w (.int .i64 (if InV a b c then 0 else 2)):=by
 obtain⟨W0,hW0,k0,hb0⟩:=xw w #[.int .i64 3,.string n,.int .i64 a,.int .i64 b,.int .i64 c,.string o,.slice ra rn rc];obtain⟨Z,hZ⟩:∃Z:Int,(if InV a b c then (0:Int) else 2)=Z:=⟨_,rfl⟩;rw[hZ];have HZ:=zH hZ;clear hZ;go_enter Tryz.func136,Tryz.ntmps136;go_upto_region 1 with fail;clear hW0;obtain⟨xc0,xc1,xc2,xc3,xc4,xc5,xc6⟩:=xt k0;have HB:=zH hb0;clear k0 hb0;have HWI:Hid (zC 209 #[.int .i64 3,.int .i64 1,.int .i64 4] W0 fun e w'=>e=.returned (.bool true)/\W0=w'):=(zP 3 1 4 W0).mono fun e w' ⟨h1,h2⟩=>⟨by rw[h1];rfl,h2⟩;go_wp2_with fail;refine HWI.out.mono ?_;rintro e w1 ⟨rfl,hwx⟩;subst hwx;clear HWI;go_wp2_with fail;refine(xY n W0 hn).mono ?_;rintro e w1 ⟨rfl,hwx⟩;subst hwx;go_wp2_with fail;refine(xY o W0 ho).mono ?_;rintro e w1 ⟨rfl,hwx⟩;subst hwx;go_wp2_with fail;go_loopw [62] (fun kV wz=>wz=W0/\∃k:Int,kV=.int .i64 k/\(k=0\/(k=1/\0<=a/\a<=999)\/(k=2/\(0<=a/\a<=999)/\0<=b/\b<=999)\/(k=3/\(0<=a/\a<=999)/\(0<=b/\b<=999)/\0<=c/\c<=999))) (fun kV _=>3-(intOf kV).toNat)
 case atStart=>exact⟨rfl,0,rfl,Or.inl rfl⟩
 case round =>
  obtain⟨rfl,k,rfl,hk⟩:=hrel;rcases hk with rfl|⟨rfl,h1⟩|⟨rfl,h1,h2⟩|⟨rfl,h1,h2,h3⟩
  ·have hix:=Ya a b c wr;go_wp2_with fail;clear hix
   by_cases hv:0<=a/\a<=999
   ·have HWV:Hid (zC 209 #[.int .i64 a,.int .i64 0,.int .i64 999] wr fun e w'=>e=.returned (.bool true)/\wr=w'):=(zP a 0 999 wr).mono fun e w' ⟨h1,h2⟩=>⟨by rw[h1,decide_eq_true hv],h2⟩;have HV:=zH hv;clear hv;refine HWV.out.mono ?_;rintro e w1 ⟨rfl,hwx⟩;subst hwx;clear HWV;go_wp2;go_roundw
    case rel=>exact⟨trivial,1,by go_num,Or.inr (Or.inl ⟨rfl,HV.out⟩)⟩
    case measure=>simp[intOf]
   ·have HWV:Hid (zC 209 #[.int .i64 a,.int .i64 0,.int .i64 999] wr fun e w'=>e=.returned (.bool false)/\wr=w'):=(zP a 0 999 wr).mono fun e w' ⟨h1,h2⟩=>⟨by rw[h1,decide_eq_false hv],h2⟩;have HC:Hid (Z=2):=by show _=_;rw[<-HZ.out];exact if_neg (fun h=>hv h.1)
    clear hv HZ;refine HWV.out.mono ?_;rintro e w1 ⟨rfl,hwx⟩;subst hwx;clear HWV;go_wp2;go_ret;exact⟨by rw[HC.out];rfl,HB.out⟩
  ·have hix:=Yh a b c wr;go_wp2_with fail;clear hix
   by_cases hv:0<=b/\b<=999
   ·have HWV:Hid (zC 209 #[.int .i64 b,.int .i64 0,.int .i64 999] wr fun e w'=>e=.returned (.bool true)/\wr=w'):=(zP b 0 999 wr).mono fun e w' ⟨h1,h2⟩=>⟨by rw[h1,decide_eq_true hv],h2⟩;have HV:=zH hv;clear hv;refine HWV.out.mono ?_;rintro e w1 ⟨rfl,hwx⟩;subst hwx;clear HWV;go_wp2;go_roundw
    case rel=>exact⟨trivial,2,by go_num,Or.inr (Or.inr (Or.inl ⟨rfl,h1,HV.out⟩))⟩
    case measure=>simp[intOf]
   ·have HWV:Hid (zC 209 #[.int .i64 b,.int .i64 0,.int .i64 999] wr fun e w'=>e=.returned (.bool false)/\wr=w'):=(zP b 0 999 wr).mono fun e w' ⟨h1,h2⟩=>⟨by rw[h1,decide_eq_false hv],h2⟩;have HC:Hid (Z=2):=by show _=_;rw[<-HZ.out];exact if_neg (fun h=>hv h.2.1)
    clear hv HZ;refine HWV.out.mono ?_;rintro e w1 ⟨rfl,hwx⟩;subst hwx;clear HWV;go_wp2;go_ret;exact⟨by rw[HC.out];rfl,HB.out⟩
  ·have hix:=Yx a b c wr;go_wp2_with fail;clear hix
   by_cases hv:0<=c/\c<=999
   ·have HWV:Hid (zC 209 #[.int .i64 c,.int .i64 0,.int .i64 999] wr fun e w'=>e=.returned (.bool true)/\wr=w'):=(zP c 0 999 wr).mono fun e w' ⟨h1,h2⟩=>⟨by rw[h1,decide_eq_true hv],h2⟩;have HV:=zH hv;clear hv;refine HWV.out.mono ?_;rintro e w1 ⟨rfl,hwx⟩;subst hwx;clear HWV;go_wp2;go_roundw
    case rel=>exact⟨trivial,3,by go_num,Or.inr (Or.inr (Or.inr ⟨rfl,h1,h2,HV.out⟩))⟩
    case measure=>simp[intOf]
   ·have HWV:Hid (zC 209 #[.int .i64 c,.int .i64 0,.int .i64 999] wr fun e w'=>e=.returned (.bool false)/\wr=w'):=(zP c 0 999 wr).mono fun e w' ⟨h1,h2⟩=>⟨by rw[h1,decide_eq_false hv],h2⟩;have HC:Hid (Z=2):=by show _=_;rw[<-HZ.out];exact if_neg (fun h=>hv h.2.2)
    clear hv HZ;refine HWV.out.mono ?_;rintro e w1 ⟨rfl,hwx⟩;subst hwx;clear HWV;go_wp2;go_ret;exact⟨by rw[HC.out];rfl,HB.out⟩
  ·have HC:Hid (Z=0):=by show _=_;rw[<-HZ.out];exact if_pos ⟨h1,h2,h3⟩
   clear HZ h1 h2 h3;go_wp2;go_ret;exact⟨by rw[HC.out];rfl,HB.out⟩
theorem zk4(n o:ByteArray)(a b c:Int)(ra:Option Addr)(rn rc:Nat)(w:World)(hn:zl n)(ho:0<o.size) :
  Zk w (1) #[.int .i64 1,.string n,.int .i64 a,.int .i64 b,.int .i64 c,.string o,.slice ra rn rc]:=by
 obtain⟨W0,hW0,k0,hb0⟩:=xw w #[.int .i64 1,.string n,.int .i64 a,.int .i64 b,.int .i64 c,.string o,.slice ra rn rc];go_enter Tryz.func136,Tryz.ntmps136;go_upto_region 1 with fail;clear hW0;obtain⟨xc0,xc1,xc2,xc3,xc4,xc5,xc6⟩:=xt k0;have HB:=zH hb0;clear k0 hb0;have HWI:Hid (zC 209 #[.int .i64 1,.int .i64 1,.int .i64 4] W0 fun e w'=>e=.returned (.bool true)/\W0=w'):=(zP 1 1 4 W0).mono fun e w' ⟨h1,h2⟩=>⟨by rw[h1];rfl,h2⟩;go_wp2_with fail;refine HWI.out.mono ?_;rintro e w1 ⟨rfl,hwx⟩;subst hwx;clear HWI;go_wp2_with fail;refine(xY n W0 hn).mono ?_;rintro e w1 ⟨rfl,hwx⟩;subst hwx;have he1:o.toList.isEmpty=false:=ZG ho;have he2:(o.toList==[])=false:=by rw[beq_eq_false_iff_ne];intro h;rw[h] at he1;cases he1
 go_wp2;go_ret;exact⟨rfl,HB.out⟩
theorem zjp(n o:ByteArray)(a b c:Int)(ra:Option Addr)(rn rc:Nat)(w:World)(hn:zl n)(ho:0<o.size) :
  Zk w (1) #[.int .i64 4,.string n,.int .i64 a,.int .i64 b,.int .i64 c,.string o,.slice ra rn rc]:=by
 obtain⟨W0,hW0,k0,hb0⟩:=xw w #[.int .i64 4,.string n,.int .i64 a,.int .i64 b,.int .i64 c,.string o,.slice ra rn rc];go_enter Tryz.func136,Tryz.ntmps136;go_upto_region 1 with fail;clear hW0;obtain⟨xc0,xc1,xc2,xc3,xc4,xc5,xc6⟩:=xt k0;have HB:=zH hb0;clear k0 hb0;have HWI:Hid (zC 209 #[.int .i64 4,.int .i64 1,.int .i64 4] W0 fun e w'=>e=.returned (.bool true)/\W0=w'):=(zP 4 1 4 W0).mono fun e w' ⟨h1,h2⟩=>⟨by rw[h1];rfl,h2⟩;go_wp2_with fail;refine HWI.out.mono ?_;rintro e w1 ⟨rfl,hwx⟩;subst hwx;clear HWI;go_wp2_with fail;refine(xY n W0 hn).mono ?_;rintro e w1 ⟨rfl,hwx⟩;subst hwx;have he1:o.toList.isEmpty=false:=ZG ho;have he2:(o.toList==[])=false:=by rw[beq_eq_false_iff_ne];intro h;rw[h] at he1;cases he1
 go_wp2;go_ret;exact⟨rfl,HB.out⟩
theorem zg2(n:ByteArray)(a b c:Int)(ra:Option Addr)(rn rc:Nat)(w:World)(hn:zl n)(hr:0<rn) :
  Zk w (1) #[.int .i64 1,.string n,.int .i64 a,.int .i64 b,.int .i64 c,.string ⟨#[]⟩,.slice ra rn rc]:=by
 obtain⟨W0,hW0,k0,hb0⟩:=xw w #[.int .i64 1,.string n,.int .i64 a,.int .i64 b,.int .i64 c,.string ⟨#[]⟩,.slice ra rn rc];go_enter Tryz.func136,Tryz.ntmps136;go_upto_region 1 with fail;clear hW0;obtain⟨xc0,xc1,xc2,xc3,xc4,xc5,xc6⟩:=xt k0;have HB:=zH hb0;clear k0 hb0;have HWI:Hid (zC 209 #[.int .i64 1,.int .i64 1,.int .i64 4] W0 fun e w'=>e=.returned (.bool true)/\W0=w'):=(zP 1 1 4 W0).mono fun e w' ⟨h1,h2⟩=>⟨by rw[h1];rfl,h2⟩;go_wp2_with fail;refine HWI.out.mono ?_;rintro e w1 ⟨rfl,hwx⟩;subst hwx;clear HWI;go_wp2_with fail;refine(xY n W0 hn).mono ?_;rintro e w1 ⟨rfl,hwx⟩;subst hwx;have hr2:(0:Int)<(rn:Int):=by omega
 go_wp2;go_ret;exact⟨rfl,HB.out⟩
theorem zev(n:ByteArray)(a b c:Int)(ra:Option Addr)(rc:Nat)(w:World)(hn:zl n) :
  zR 136 #[.agg #[.int .i64 1,.string n,.int .i64 a,.int .i64 b,.int .i64 c,.string ⟨#[]⟩,.slice ra 0 rc]] w (.int .i64 (if InV a b c then 0 else 2)):=by
 obtain⟨W0,hW0,k0,hb0⟩:=xw w #[.int .i64 1,.string n,.int .i64 a,.int .i64 b,.int .i64 c,.string ⟨#[]⟩,.slice ra 0 rc];obtain⟨Z,hZ⟩:∃Z:Int,(if InV a b c then (0:Int) else 2)=Z:=⟨_,rfl⟩;rw[hZ];have HZ:=zH hZ;clear hZ;go_enter Tryz.func136,Tryz.ntmps136;go_upto_region 1 with fail;clear hW0;obtain⟨xc0,xc1,xc2,xc3,xc4,xc5,xc6⟩:=xt k0;have HB:=zH hb0;clear k0 hb0;have HWI:Hid (zC 209 #[.int .i64 1,.int .i64 1,.int .i64 4] W0 fun e w'=>e=.returned (.bool true)/\W0=w'):=(zP 1 1 4 W0).mono fun e w' ⟨h1,h2⟩=>⟨by rw[h1];rfl,h2⟩;go_wp2_with fail;refine HWI.out.mono ?_;rintro e w1 ⟨rfl,hwx⟩;subst hwx;clear HWI;go_wp2_with fail;refine(xY n W0 hn).mono ?_;rintro e w1 ⟨rfl,hwx⟩;subst hwx;go_wp2_with fail;go_loopw [62] (fun kV wz=>wz=W0/\∃k:Int,kV=.int .i64 k/\(k=0\/(k=1/\0<=a/\a<=999)\/(k=2/\(0<=a/\a<=999)/\0<=b/\b<=999)\/(k=3/\(0<=a/\a<=999)/\(0<=b/\b<=999)/\0<=c/\c<=999))) (fun kV _=>3-(intOf kV).toNat)
 case atStart=>exact⟨rfl,0,rfl,Or.inl rfl⟩
 case round =>
  obtain⟨rfl,k,rfl,hk⟩:=hrel;rcases hk with rfl|⟨rfl,h1⟩|⟨rfl,h1,h2⟩|⟨rfl,h1,h2,h3⟩
  ·have hix:=Ya a b c wr;go_wp2_with fail;clear hix
   by_cases hv:0<=a/\a<=999
   ·have HWV:Hid (zC 209 #[.int .i64 a,.int .i64 0,.int .i64 999] wr fun e w'=>e=.returned (.bool true)/\wr=w'):=(zP a 0 999 wr).mono fun e w' ⟨h1,h2⟩=>⟨by rw[h1,decide_eq_true hv],h2⟩;have HV:=zH hv;clear hv;refine HWV.out.mono ?_;rintro e w1 ⟨rfl,hwx⟩;subst hwx;clear HWV;go_wp2;go_roundw
    case rel=>exact⟨trivial,1,by go_num,Or.inr (Or.inl ⟨rfl,HV.out⟩)⟩
    case measure=>simp[intOf]
   ·have HWV:Hid (zC 209 #[.int .i64 a,.int .i64 0,.int .i64 999] wr fun e w'=>e=.returned (.bool false)/\wr=w'):=(zP a 0 999 wr).mono fun e w' ⟨h1,h2⟩=>⟨by rw[h1,decide_eq_false hv],h2⟩;have HC:Hid (Z=2):=by show _=_;rw[<-HZ.out];exact if_neg (fun h=>hv h.1)
    clear hv HZ;refine HWV.out.mono ?_;rintro e w1 ⟨rfl,hwx⟩;subst hwx;clear HWV;go_wp2;go_ret;exact⟨by rw[HC.out];rfl,HB.out⟩
  ·have hix:=Yh a b c wr;go_wp2_with fail;clear hix
   by_cases hv:0<=b/\b<=999
   ·have HWV:Hid (zC 209 #[.int .i64 b,.int .i64 0,.int .i64 999] wr fun e w'=>e=.returned (.bool true)/\wr=w'):=(zP b 0 999 wr).mono fun e w' ⟨h1,h2⟩=>⟨by rw[h1,decide_eq_true hv],h2⟩;have HV:=zH hv;clear hv;refine HWV.out.mono ?_;rintro e w1 ⟨rfl,hwx⟩;subst hwx;clear HWV;go_wp2;go_roundw
    case rel=>exact⟨trivial,2,by go_num,Or.inr (Or.inr (Or.inl ⟨rfl,h1,HV.out⟩))⟩
    case measure=>simp[intOf]
   ·have HWV:Hid (zC 209 #[.int .i64 b,.int .i64 0,.int .i64 999] wr fun e w'=>e=.returned (.bool false)/\wr=w'):=(zP b 0 999 wr).mono fun e w' ⟨h1,h2⟩=>⟨by rw[h1,decide_eq_false hv],h2⟩;have HC:Hid (Z=2):=by show _=_;rw[<-HZ.out];exact if_neg (fun h=>hv h.2.1)
    clear hv HZ;refine HWV.out.mono ?_;rintro e w1 ⟨rfl,hwx⟩;subst hwx;clear HWV;go_wp2;go_ret;exact⟨by rw[HC.out];rfl,HB.out⟩
  ·have hix:=Yx a b c wr;go_wp2_with fail;clear hix
   by_cases hv:0<=c/\c<=999
   ·have HWV:Hid (zC 209 #[.int .i64 c,.int .i64 0,.int .i64 999] wr fun e w'=>e=.returned (.bool true)/\wr=w'):=(zP c 0 999 wr).mono fun e w' ⟨h1,h2⟩=>⟨by rw[h1,decide_eq_true hv],h2⟩;have HV:=zH hv;clear hv;refine HWV.out.mono ?_;rintro e w1 ⟨rfl,hwx⟩;subst hwx;clear HWV;go_wp2;go_roundw
    case rel=>exact⟨trivial,3,by go_num,Or.inr (Or.inr (Or.inr ⟨rfl,h1,h2,HV.out⟩))⟩
    case measure=>simp[intOf]
   ·have HWV:Hid (zC 209 #[.int .i64 c,.int .i64 0,.int .i64 999] wr fun e w'=>e=.returned (.bool false)/\wr=w'):=(zP c 0 999 wr).mono fun e w' ⟨h1,h2⟩=>⟨by rw[h1,decide_eq_false hv],h2⟩;have HC:Hid (Z=2):=by show _=_;rw[<-HZ.out];exact if_neg (fun h=>hv h.2.2)
    clear hv HZ;refine HWV.out.mono ?_;rintro e w1 ⟨rfl,hwx⟩;subst hwx;clear HWV;go_wp2;go_ret;exact⟨by rw[HC.out];rfl,HB.out⟩
  ·have HC:Hid (Z=0):=by show _=_;rw[<-HZ.out];exact if_pos ⟨h1,h2,h3⟩
   clear HZ h1 h2 h3;go_wp2;go_ret;exact⟨by rw[HC.out];rfl,HB.out⟩
theorem zj3(n:ByteArray)(a b c:Int)(ra:Option Addr)(rn rc:Nat)(w:World)(hn:zl n)(hz:(a==0&&(b==0&&c==0))=false) :
  Zk w (1) #[.int .i64 4,.string n,.int .i64 a,.int .i64 b,.int .i64 c,.string ⟨#[]⟩,.slice ra rn rc]:=by
 obtain⟨W0,hW0,k0,hb0⟩:=xw w #[.int .i64 4,.string n,.int .i64 a,.int .i64 b,.int .i64 c,.string ⟨#[]⟩,.slice ra rn rc];go_enter Tryz.func136,Tryz.ntmps136;go_upto_region 1 with fail;clear hW0;obtain⟨xc0,xc1,xc2,xc3,xc4,xc5,xc6⟩:=xt k0;have HB:=zH hb0;clear k0 hb0;have HWI:Hid (zC 209 #[.int .i64 4,.int .i64 1,.int .i64 4] W0 fun e w'=>e=.returned (.bool true)/\W0=w'):=(zP 4 1 4 W0).mono fun e w' ⟨h1,h2⟩=>⟨by rw[h1];rfl,h2⟩;go_wp2_with fail;refine HWI.out.mono ?_;rintro e w1 ⟨rfl,hwx⟩;subst hwx;clear HWI;go_wp2_with fail;refine(xY n W0 hn).mono ?_;rintro e w1 ⟨rfl,hwx⟩;subst hwx;have h3:=zb1 a b c 0 0 0;rw[hz] at h3;go_wp2;go_ret;exact⟨rfl,HB.out⟩
theorem zfB(n:ByteArray)(a b c:Int)(ra:Option Addr)(rn rc:Nat)(w:World)(hn:zl n)(hz:(a==0&&(b==0&&c==0))=true) :
  zR 136 #[.agg #[.int .i64 4,.string n,.int .i64 a,.int .i64 b,.int .i64 c,.string ⟨#[]⟩,.slice ra rn rc]] w (.int .i64 (if InV a b c then 0 else 2)):=by
 obtain⟨W0,hW0,k0,hb0⟩:=xw w #[.int .i64 4,.string n,.int .i64 a,.int .i64 b,.int .i64 c,.string ⟨#[]⟩,.slice ra rn rc];obtain⟨Z,hZ⟩:∃Z:Int,(if InV a b c then (0:Int) else 2)=Z:=⟨_,rfl⟩;rw[hZ];have HZ:=zH hZ;clear hZ;go_enter Tryz.func136,Tryz.ntmps136;go_upto_region 1 with fail;clear hW0;obtain⟨xc0,xc1,xc2,xc3,xc4,xc5,xc6⟩:=xt k0;have HB:=zH hb0;clear k0 hb0;have HWI:Hid (zC 209 #[.int .i64 4,.int .i64 1,.int .i64 4] W0 fun e w'=>e=.returned (.bool true)/\W0=w'):=(zP 4 1 4 W0).mono fun e w' ⟨h1,h2⟩=>⟨by rw[h1];rfl,h2⟩;go_wp2_with fail;refine HWI.out.mono ?_;rintro e w1 ⟨rfl,hwx⟩;subst hwx;clear HWI;go_wp2_with fail;refine(xY n W0 hn).mono ?_;rintro e w1 ⟨rfl,hwx⟩;subst hwx;have h3:=zb1 a b c 0 0 0;rw[hz] at h3;go_wp2_with fail;clear h3;go_loopw [62] (fun kV wz=>wz=W0/\∃k:Int,kV=.int .i64 k/\(k=0\/(k=1/\0<=a/\a<=999)\/(k=2/\(0<=a/\a<=999)/\0<=b/\b<=999)\/(k=3/\(0<=a/\a<=999)/\(0<=b/\b<=999)/\0<=c/\c<=999))) (fun kV _=>3-(intOf kV).toNat)
 case atStart=>exact⟨rfl,0,rfl,Or.inl rfl⟩
 case round =>
  obtain⟨rfl,k,rfl,hk⟩:=hrel;rcases hk with rfl|⟨rfl,h1⟩|⟨rfl,h1,h2⟩|⟨rfl,h1,h2,h3⟩
  ·have hix:=Ya a b c wr;go_wp2_with fail;clear hix
   by_cases hv:0<=a/\a<=999
   ·have HWV:Hid (zC 209 #[.int .i64 a,.int .i64 0,.int .i64 999] wr fun e w'=>e=.returned (.bool true)/\wr=w'):=(zP a 0 999 wr).mono fun e w' ⟨h1,h2⟩=>⟨by rw[h1,decide_eq_true hv],h2⟩;have HV:=zH hv;clear hv;refine HWV.out.mono ?_;rintro e w1 ⟨rfl,hwx⟩;subst hwx;clear HWV;go_wp2;go_roundw
    case rel=>exact⟨trivial,1,by go_num,Or.inr (Or.inl ⟨rfl,HV.out⟩)⟩
    case measure=>simp[intOf]
   ·have HWV:Hid (zC 209 #[.int .i64 a,.int .i64 0,.int .i64 999] wr fun e w'=>e=.returned (.bool false)/\wr=w'):=(zP a 0 999 wr).mono fun e w' ⟨h1,h2⟩=>⟨by rw[h1,decide_eq_false hv],h2⟩;have HC:Hid (Z=2):=by show _=_;rw[<-HZ.out];exact if_neg (fun h=>hv h.1)
    clear hv HZ;refine HWV.out.mono ?_;rintro e w1 ⟨rfl,hwx⟩;subst hwx;clear HWV;go_wp2;go_ret;exact⟨by rw[HC.out];rfl,HB.out⟩
  ·have hix:=Yh a b c wr;go_wp2_with fail;clear hix
   by_cases hv:0<=b/\b<=999
   ·have HWV:Hid (zC 209 #[.int .i64 b,.int .i64 0,.int .i64 999] wr fun e w'=>e=.returned (.bool true)/\wr=w'):=(zP b 0 999 wr).mono fun e w' ⟨h1,h2⟩=>⟨by rw[h1,decide_eq_true hv],h2⟩;have HV:=zH hv;clear hv;refine HWV.out.mono ?_;rintro e w1 ⟨rfl,hwx⟩;subst hwx;clear HWV;go_wp2;go_roundw
    case rel=>exact⟨trivial,2,by go_num,Or.inr (Or.inr (Or.inl ⟨rfl,h1,HV.out⟩))⟩
    case measure=>simp[intOf]
   ·have HWV:Hid (zC 209 #[.int .i64 b,.int .i64 0,.int .i64 999] wr fun e w'=>e=.returned (.bool false)/\wr=w'):=(zP b 0 999 wr).mono fun e w' ⟨h1,h2⟩=>⟨by rw[h1,decide_eq_false hv],h2⟩;have HC:Hid (Z=2):=by show _=_;rw[<-HZ.out];exact if_neg (fun h=>hv h.2.1)
    clear hv HZ;refine HWV.out.mono ?_;rintro e w1 ⟨rfl,hwx⟩;subst hwx;clear HWV;go_wp2;go_ret;exact⟨by rw[HC.out];rfl,HB.out⟩
  ·have hix:=Yx a b c wr;go_wp2_with fail;clear hix
   by_cases hv:0<=c/\c<=999
   ·have HWV:Hid (zC 209 #[.int .i64 c,.int .i64 0,.int .i64 999] wr fun e w'=>e=.returned (.bool true)/\wr=w'):=(zP c 0 999 wr).mono fun e w' ⟨h1,h2⟩=>⟨by rw[h1,decide_eq_true hv],h2⟩;have HV:=zH hv;clear hv;refine HWV.out.mono ?_;rintro e w1 ⟨rfl,hwx⟩;subst hwx;clear HWV;go_wp2;go_roundw
    case rel=>exact⟨trivial,3,by go_num,Or.inr (Or.inr (Or.inr ⟨rfl,h1,h2,HV.out⟩))⟩
    case measure=>simp[intOf]
   ·have HWV:Hid (zC 209 #[.int .i64 c,.int .i64 0,.int .i64 999] wr fun e w'=>e=.returned (.bool false)/\wr=w'):=(zP c 0 999 wr).mono fun e w' ⟨h1,h2⟩=>⟨by rw[h1,decide_eq_false hv],h2⟩;have HC:Hid (Z=2):=by show _=_;rw[<-HZ.out];exact if_neg (fun h=>hv h.2.2)
    clear hv HZ;refine HWV.out.mono ?_;rintro e w1 ⟨rfl,hwx⟩;subst hwx;clear HWV;go_wp2;go_ret;exact⟨by rw[HC.out];rfl,HB.out⟩
  ·have HC:Hid (Z=0):=by show _=_;rw[<-HZ.out];exact if_pos ⟨h1,h2,h3⟩
   clear HZ h1 h2 h3;go_wp2;go_ret;exact⟨by rw[HC.out];rfl,HB.out⟩
end
section
open Go.RowKit Sv
theorem zjM(x:Ln)(ra:Option Addr)(rc:Nat)(w:World) :
  zR 136 #[.agg #[.int .i64 x.kind,.string x.name,.int .i64 x.a,.int .i64 x.b,.int .i64 x.c,.string x.other,.slice ra (tp x.rng).length rc]] w (.int .i64 (qp x)):=by
 obtain⟨k,n,a,b,c,o,r⟩:=x;unfold qp Ln.pair;simp only
 by_cases hk:k<1\/4<k
 ·rw[if_pos hk];rcases hk with hk|hk
  ·exact zay k n o a b c ra (tp r).length rc w (by omega)
  ·exact zay k n o a b c ra (tp r).length rc w (by omega)
 rw[if_neg hk];have hk4:k=1\/k=2\/k=3\/k=4:=by omega
 by_cases hn:zl n
 ·rcases hk4 with rfl|rfl|rfl|rfl
  ·have h1:¬(¬zl n\/(((1:Int)=2\/(1:Int)=3)/\¬zl o)):=by
    rintro (h|⟨h,_⟩)
    ·exact h hn
    ·omega
   rw[if_neg h1]
   by_cases ho:o.size≠0
   ·rw[if_pos ⟨by omega,ho⟩];exact zk4 n o a b c ra (tp r).length rc w hn (by omega)
   ·rw[if_neg (fun h=>ho h.2)];obtain rfl:=ZL (s:=o) (by omega);cases r with
    |nil =>
     rw[if_neg (fun h=>h.2 rfl),if_neg (by omega)];refine(zev n a b c ra rc w hn).mono fun e w' ⟨h1,h2⟩=>⟨?_,h2⟩;rw[h1]
     by_cases hi:InV a b c
     ·rw[if_pos hi,if_neg (fun h=>h hi)]
     ·rw[if_neg hi,if_pos hi]
    |cons s r =>rw[if_pos ⟨rfl,by simp⟩];exact zg2 n a b c ra (tp (s :: r)).length rc w hn (by simp[tp])
  ·by_cases ho:zl o
   ·have h1:¬(¬zl n\/(((2:Int)=2\/(2:Int)=3)/\¬zl o)):=by
     rintro (h|⟨_,h⟩)
     ·exact h hn
     ·exact h ho
    rw[if_neg h1,if_neg (fun h=>h.1 (Or.inl rfl)),if_neg (by omega),if_neg (by omega)];refine(zi0 n o a b c ra (tp r).length rc w hn ho).mono fun e w' ⟨h1,h2⟩=>⟨?_,h2⟩;rw[h1]
    by_cases hi:InV a b c
    ·rw[if_pos hi,if_neg (fun h=>h hi)]
    ·rw[if_neg hi,if_pos hi]
   ·rw[if_pos (Or.inr ⟨Or.inl rfl,ho⟩)];exact zgO n o a b c ra (tp r).length rc w hn ho
  ·by_cases ho:zl o
   ·have h1:¬(¬zl n\/(((3:Int)=2\/(3:Int)=3)/\¬zl o)):=by
     rintro (h|⟨_,h⟩)
     ·exact h hn
     ·exact h ho
    rw[if_neg h1,if_neg (fun h=>h.1 (Or.inr rfl)),if_neg (by omega),if_neg (by omega)];refine(zka n o a b c ra (tp r).length rc w hn ho).mono fun e w' ⟨h1,h2⟩=>⟨?_,h2⟩;rw[h1]
    by_cases hi:InV a b c
    ·rw[if_pos hi,if_neg (fun h=>h hi)]
    ·rw[if_neg hi,if_pos hi]
   ·rw[if_pos (Or.inr ⟨Or.inr rfl,ho⟩)];exact zeG n o a b c ra (tp r).length rc w hn ho
  ·have h1:¬(¬zl n\/(((4:Int)=2\/(4:Int)=3)/\¬zl o)):=by
    rintro (h|⟨h,_⟩)
    ·exact h hn
    ·omega
   rw[if_neg h1]
   by_cases ho:o.size≠0
   ·rw[if_pos ⟨by omega,ho⟩];exact zjp n o a b c ra (tp r).length rc w hn (by omega)
   ·rw[if_neg (fun h=>ho h.2),if_neg (by omega)];obtain rfl:=ZL (s:=o) (by omega)
    by_cases hz:a≠0\/b≠0\/c≠0
    ·rw[if_pos ⟨rfl,hz⟩];refine zj3 n a b c ra (tp r).length rc w hn ?_
     by_cases h0:a=0
     ·by_cases h1:b=0
      ·have h2:c≠0:=by omega
       simp[h2]
      ·simp[h1]
     ·simp[h0]
    ·rw[if_neg (fun h=>hz h.2)];obtain rfl:a=0:=by omega
     obtain rfl:b=0:=by omega
     obtain rfl:c=0:=by omega
     rw[if_neg (fun h=>h (by decide))];exact(zfB n 0 0 0 ra (tp r).length rc w hn (by decide)).mono fun e w' ⟨h1,h2⟩=>⟨by rw[h1,if_pos (by decide)],h2⟩
 ·rw[if_pos (Or.inl hn)];rcases hk4 with rfl|rfl|rfl|rfl
  ·exact zgI n o a b c ra (tp r).length rc w hn
  ·exact zgE n o a b c ra (tp r).length rc w hn
  ·exact zlM n o a b c ra (tp r).length rc w hn
  ·exact zf9 n o a b c ra (tp r).length rc w hn
end
end Go.Proofs.YtiihalknffbjpaaGreatDoor
