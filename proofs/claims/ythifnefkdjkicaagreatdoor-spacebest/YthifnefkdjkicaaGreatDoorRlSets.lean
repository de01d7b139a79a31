import Derived.Test.YthifnefkdjkicaaGreatDoorSvRHas
set_option maxHeartbeats 2000000
set_option maxRecDepth 100000
namespace Go.Proofs.YthifnefkdjkicaaGreatDoor
section
open Go.RowKit Sv
abbrev ZV(w:World)(v:Int)(ks:Array Value):Prop:=zR 71 #[.agg ks] w (.int .i64 v)
theorem xI{W:World}{b:Nat}{t:TypeId}{x0 x1 x2 x3 x4 x5 x6:Value}(h:Blk W b t #[x0,x1,x2,x3,x4,x5,x6]):W.cell? b=some x0/\W.cell? ⟨b,1,none⟩=some x1/\W.cell? ⟨b,2,none⟩=some x2/\W.cell? ⟨b,3,none⟩=some x3/\W.cell? ⟨b,4,none⟩=some x4/\W.cell? ⟨b,5,none⟩=some x5/\W.cell? ⟨b,6,none⟩=some x6:=⟨h.cell 0,h.cell 1,h.cell 2,h.cell 3,h.cell 4,h.cell 5,h.cell 6⟩
theorem xE(w:World)(K:Array Value):∃W0,w.alloc (.cells K 84)=W0/\Blk W0 w.heap.size 84 K/\zB w W0:=⟨_,rfl,Blk.new _ _ _,(Below.refl _ w).alloc zN _⟩
theorem Zz(s:ByteArray)(w:World)(h:zr s):zC 109 #[s] w fun e w'=>e=.returned (.bool true)/\w=w':=(zeV s w).mono fun _ _ ⟨h1,h2⟩=>⟨h1.1 h,h2⟩
theorem YS(s:ByteArray)(w:World)(h:¬zr s):zC 109 #[s] w fun e w'=>e=.returned (.bool false)/\w=w':=(zeV s w).mono fun _ _ ⟨h1,h2⟩=>⟨h1.2 h,h2⟩
theorem zdV(a b c a' b' c':Int)(w:World):(Op.equalIn 10000 81 (.agg #[a,b,c]) (.agg #[a',b',c'])).run Tryz.prog w=.ok (a==a'&&(b==b'&&c==c')) w:=by
 have u3:=Tryz.underlying3;have a3:=Tryz.isAgg3;have z3:=Tryz.sizeOf3;rw[show (10000:Nat)=9999+1 from rfl,Op.equalIn];simp only[Sem.run_bind,run_underlying Tryz.underlying81,Result.andThen_ok];simp only[Std.Legacy.Range.forIn_eq_forIn_range',Std.Legacy.Range.size,Nat.sub_zero,Nat.add_sub_cancel,Nat.div_one,List.range'_succ,List.range'_zero,List.forIn_cons,List.forIn_nil]
 by_cases h1:a=a'
 ·by_cases h2:b=b'
  ·by_cases h3:c=c'
   ·subst h1 h2 h3;go_simp
   ·have e3:(c==c')=false:=by simpa using h3
    subst h1 h2;go_simp
  ·have e2:(b==b')=false:=by simpa using h2
   subst h1;go_simp
 ·have e1:(a==a')=false:=by simpa using h1
  go_simp
theorem zcz(k:Int)(n o:ByteArray)(a b c:Int)(ra:Option Addr)(rn rc:Nat)(w:World)(hk:¬(1<=k/\k<=4)) :
  ZV w (1) #[k,n,a,b,c,o,.slice ra rn rc]:=by
 obtain⟨W0,q,k0,p⟩:=xE w #[k,n,a,b,c,o,.slice ra rn rc];go_enter Tryz.func71,Tryz.ntmps71;go_upto_region 1 with fail;clear q;obtain⟨y,C,J,K,M,R,U⟩:=xI k0;have HB:=zH p;clear k0 p;have j:Hid (zC 108 #[k,(1:Int),(4:Int)] W0 fun e w'=>e=.returned (.bool false)/\W0=w'):=(qa k 1 4 W0).mono fun e w' ⟨h1,h2⟩=>⟨by rw[h1,decide_eq_false hk],h2⟩;clear hk;go_wp2_with fail;refine j.out.mono ?_;rintro e w1 ⟨rfl,u⟩;subst u;clear j;go_wp2;go_ret;exact⟨rfl,HB.out⟩
theorem zhF(n o:ByteArray)(a b c:Int)(ra:Option Addr)(rn rc:Nat)(w:World)(hn:¬zr n) :
  ZV w (5) #[(1:Int),n,a,b,c,o,.slice ra rn rc]:=by
 obtain⟨W0,u,k0,q⟩:=xE w #[(1:Int),n,a,b,c,o,.slice ra rn rc];go_enter Tryz.func71,Tryz.ntmps71;go_upto_region 1 with fail;clear u;obtain⟨y,C,J,K,M,R,U⟩:=xI k0;have HB:=zH q;clear k0 q;have p:Hid (zC 108 #[(1:Int),(1:Int),(4:Int)] W0 fun e w'=>e=.returned (.bool true)/\W0=w'):=(qa 1 1 4 W0).mono fun e w' ⟨h1,h2⟩=>⟨by rw[h1];rfl,h2⟩;go_wp2_with fail;refine p.out.mono ?_;rintro e w1 ⟨rfl,j⟩;subst j;clear p;go_wp2_with fail;refine(YS n W0 hn).mono ?_;rintro e w1 ⟨rfl,j⟩;subst j;go_wp2;go_ret;exact⟨rfl,HB.out⟩
theorem zgi(n o:ByteArray)(a b c:Int)(ra:Option Addr)(rn rc:Nat)(w:World)(hn:¬zr n) :
  ZV w (5) #[(2:Int),n,a,b,c,o,.slice ra rn rc]:=by
 obtain⟨W0,u,k0,q⟩:=xE w #[(2:Int),n,a,b,c,o,.slice ra rn rc];go_enter Tryz.func71,Tryz.ntmps71;go_upto_region 1 with fail;clear u;obtain⟨y,C,J,K,M,R,U⟩:=xI k0;have HB:=zH q;clear k0 q;have p:Hid (zC 108 #[(2:Int),(1:Int),(4:Int)] W0 fun e w'=>e=.returned (.bool true)/\W0=w'):=(qa 2 1 4 W0).mono fun e w' ⟨h1,h2⟩=>⟨by rw[h1];rfl,h2⟩;go_wp2_with fail;refine p.out.mono ?_;rintro e w1 ⟨rfl,j⟩;subst j;clear p;go_wp2_with fail;refine(YS n W0 hn).mono ?_;rintro e w1 ⟨rfl,j⟩;subst j;go_wp2;go_ret;exact⟨rfl,HB.out⟩
theorem zo2(n o:ByteArray)(a b c:Int)(ra:Option Addr)(rn rc:Nat)(w:World)(hn:¬zr n) :
  ZV w (5) #[(3:Int),n,a,b,c,o,.slice ra rn rc]:=by
 obtain⟨W0,u,k0,q⟩:=xE w #[(3:Int),n,a,b,c,o,.slice ra rn rc];go_enter Tryz.func71,Tryz.ntmps71;go_upto_region 1 with fail;clear u;obtain⟨y,C,J,K,M,R,U⟩:=xI k0;have HB:=zH q;clear k0 q;have p:Hid (zC 108 #[(3:Int),(1:Int),(4:Int)] W0 fun e w'=>e=.returned (.bool true)/\W0=w'):=(qa 3 1 4 W0).mono fun e w' ⟨h1,h2⟩=>⟨by rw[h1];rfl,h2⟩;go_wp2_with fail;refine p.out.mono ?_;rintro e w1 ⟨rfl,j⟩;subst j;clear p;go_wp2_with fail;refine(YS n W0 hn).mono ?_;rintro e w1 ⟨rfl,j⟩;subst j;go_wp2;go_ret;exact⟨rfl,HB.out⟩
theorem zg5(n o:ByteArray)(a b c:Int)(ra:Option Addr)(rn rc:Nat)(w:World)(hn:¬zr n) :
  ZV w (5) #[(4:Int),n,a,b,c,o,.slice ra rn rc]:=by
 obtain⟨W0,u,k0,q⟩:=xE w #[(4:Int),n,a,b,c,o,.slice ra rn rc];go_enter Tryz.func71,Tryz.ntmps71;go_upto_region 1 with fail;clear u;obtain⟨y,C,J,K,M,R,U⟩:=xI k0;have HB:=zH q;clear k0 q;have p:Hid (zC 108 #[(4:Int),(1:Int),(4:Int)] W0 fun e w'=>e=.returned (.bool true)/\W0=w'):=(qa 4 1 4 W0).mono fun e w' ⟨h1,h2⟩=>⟨by rw[h1];rfl,h2⟩;go_wp2_with fail;refine p.out.mono ?_;rintro e w1 ⟨rfl,j⟩;subst j;clear p;go_wp2_with fail;refine(YS n W0 hn).mono ?_;rintro e w1 ⟨rfl,j⟩;subst j;go_wp2;go_ret;exact⟨rfl,HB.out⟩
theorem zg8(n o:ByteArray)(a b c:Int)(ra:Option Addr)(rn rc:Nat)(w:World)(hn:zr n)(ho:¬zr o) :
  ZV w (5) #[(2:Int),n,a,b,c,o,.slice ra rn rc]:=by
 obtain⟨W0,u,k0,q⟩:=xE w #[(2:Int),n,a,b,c,o,.slice ra rn rc];go_enter Tryz.func71,Tryz.ntmps71;go_upto_region 1 with fail;clear u;obtain⟨y,C,J,K,M,R,U⟩:=xI k0;have HB:=zH q;clear k0 q;have p:Hid (zC 108 #[(2:Int),(1:Int),(4:Int)] W0 fun e w'=>e=.returned (.bool true)/\W0=w'):=(qa 2 1 4 W0).mono fun e w' ⟨h1,h2⟩=>⟨by rw[h1];rfl,h2⟩;go_wp2_with fail;refine p.out.mono ?_;rintro e w1 ⟨rfl,j⟩;subst j;clear p;go_wp2_with fail;refine(Zz n W0 hn).mono ?_;rintro e w1 ⟨rfl,j⟩;subst j;go_wp2_with fail;refine(YS o W0 ho).mono ?_;rintro e w1 ⟨rfl,j⟩;subst j;go_wp2;go_ret;exact⟨rfl,HB.out⟩
theorem ziM(n o:ByteArray)(a b c:Int)(ra:Option Addr)(rn rc:Nat)(w:World)(hn:zr n)(ho:zr o) :
  zR 71 #[.agg #[(2:Int),n,a,b,c,o,.slice ra rn rc]] w (.int .i64 (if InV a b c then 0 else 2)):=by
 obtain⟨W0,C,k0,y⟩:=xE w #[(2:Int),n,a,b,c,o,.slice ra rn rc];obtain⟨Z,hZ⟩:∃Z:Int,(if InV a b c then (0:Int) else 2)=Z:=⟨_,rfl⟩;rw[hZ];have HZ:=zH hZ;clear hZ;go_enter Tryz.func71,Tryz.ntmps71;go_upto_region 1 with fail;clear C;obtain⟨J,K,M,R,U,V,X⟩:=xI k0;have HB:=zH y;clear k0 y;have u:Hid (zC 108 #[(2:Int),(1:Int),(4:Int)] W0 fun e w'=>e=.returned (.bool true)/\W0=w'):=(qa 2 1 4 W0).mono fun e w' ⟨h1,h2⟩=>⟨by rw[h1];rfl,h2⟩;go_wp2_with fail;refine u.out.mono ?_;rintro e w1 ⟨rfl,p⟩;subst p;clear u;go_wp2_with fail;refine(Zz n W0 hn).mono ?_;rintro e w1 ⟨rfl,p⟩;subst p;go_wp2_with fail;refine(Zz o W0 ho).mono ?_;rintro e w1 ⟨rfl,p⟩;subst p;go_wp2_with fail;go_loopw [62] (fun kV wz=>wz=W0/\∃k:Int,kV=.int .i64 k/\(k=0\/(k=1/\0<=a/\a<=999)\/(k=2/\(0<=a/\a<=999)/\0<=b/\b<=999)\/(k=3/\(0<=a/\a<=999)/\(0<=b/\b<=999)/\0<=c/\c<=999))) (fun kV _=>3-(intOf kV).toNat)
 case atStart=>exact⟨rfl,0,rfl,Or.inl rfl⟩
 case round =>
  obtain⟨rfl,k,rfl,hk⟩:=hrel;rcases hk with rfl|⟨rfl,h1⟩|⟨rfl,h1,h2⟩|⟨rfl,h1,h2,h3⟩
  ·have q:=XA a b c wr;go_wp2_with fail;clear q
   by_cases hv:0<=a/\a<=999
   ·have j:Hid (zC 108 #[a,(0:Int),(999:Int)] wr fun e w'=>e=.returned (.bool true)/\wr=w'):=(qa a 0 999 wr).mono fun e w' ⟨h1,h2⟩=>⟨by rw[h1,decide_eq_true hv],h2⟩;have HV:=zH hv;clear hv;refine j.out.mono ?_;rintro e w1 ⟨rfl,p⟩;subst p;clear j;go_wp2;go_roundw
    case rel=>exact⟨trivial,1,by go_num,Or.inr (Or.inl ⟨rfl,HV.out⟩)⟩
    case measure=>simp[intOf]
   ·have j:Hid (zC 108 #[a,(0:Int),(999:Int)] wr fun e w'=>e=.returned (.bool false)/\wr=w'):=(qa a 0 999 wr).mono fun e w' ⟨h1,h2⟩=>⟨by rw[h1,decide_eq_false hv],h2⟩;have HC:Hid (Z=2):=by show _=_;rw[<-HZ.out];exact zA1 (fun h=>hv h.1)
    clear hv HZ;refine j.out.mono ?_;rintro e w1 ⟨rfl,p⟩;subst p;clear j;go_wp2;go_ret;exact⟨by rw[HC.out];rfl,HB.out⟩
  ·have q:=Xj a b c wr;go_wp2_with fail;clear q
   by_cases hv:0<=b/\b<=999
   ·have j:Hid (zC 108 #[b,(0:Int),(999:Int)] wr fun e w'=>e=.returned (.bool true)/\wr=w'):=(qa b 0 999 wr).mono fun e w' ⟨h1,h2⟩=>⟨by rw[h1,decide_eq_true hv],h2⟩;have HV:=zH hv;clear hv;refine j.out.mono ?_;rintro e w1 ⟨rfl,p⟩;subst p;clear j;go_wp2;go_roundw
    case rel=>exact⟨trivial,2,by go_num,Or.inr (Or.inr (Or.inl ⟨rfl,h1,HV.out⟩))⟩
    case measure=>simp[intOf]
   ·have j:Hid (zC 108 #[b,(0:Int),(999:Int)] wr fun e w'=>e=.returned (.bool false)/\wr=w'):=(qa b 0 999 wr).mono fun e w' ⟨h1,h2⟩=>⟨by rw[h1,decide_eq_false hv],h2⟩;have HC:Hid (Z=2):=by show _=_;rw[<-HZ.out];exact zA1 (fun h=>hv h.2.1)
    clear hv HZ;refine j.out.mono ?_;rintro e w1 ⟨rfl,p⟩;subst p;clear j;go_wp2;go_ret;exact⟨by rw[HC.out];rfl,HB.out⟩
  ·have q:=Kg a b c wr;go_wp2_with fail;clear q
   by_cases hv:0<=c/\c<=999
   ·have j:Hid (zC 108 #[c,(0:Int),(999:Int)] wr fun e w'=>e=.returned (.bool true)/\wr=w'):=(qa c 0 999 wr).mono fun e w' ⟨h1,h2⟩=>⟨by rw[h1,decide_eq_true hv],h2⟩;have HV:=zH hv;clear hv;refine j.out.mono ?_;rintro e w1 ⟨rfl,p⟩;subst p;clear j;go_wp2;go_roundw
    case rel=>exact⟨trivial,3,by go_num,Or.inr (Or.inr (Or.inr ⟨rfl,h1,h2,HV.out⟩))⟩
    case measure=>simp[intOf]
   ·have j:Hid (zC 108 #[c,(0:Int),(999:Int)] wr fun e w'=>e=.returned (.bool false)/\wr=w'):=(qa c 0 999 wr).mono fun e w' ⟨h1,h2⟩=>⟨by rw[h1,decide_eq_false hv],h2⟩;have HC:Hid (Z=2):=by show _=_;rw[<-HZ.out];exact zA1 (fun h=>hv h.2.2)
    clear hv HZ;refine j.out.mono ?_;rintro e w1 ⟨rfl,p⟩;subst p;clear j;go_wp2;go_ret;exact⟨by rw[HC.out];rfl,HB.out⟩
  ·have HC:Hid (Z=0):=by show _=_;rw[<-HZ.out];exact zA2 ⟨h1,h2,h3⟩
   clear HZ h1 h2 h3;go_wp2;go_ret;exact⟨by rw[HC.out];rfl,HB.out⟩
theorem znp(n o:ByteArray)(a b c:Int)(ra:Option Addr)(rn rc:Nat)(w:World)(hn:zr n)(ho:¬zr o) :
  ZV w (5) #[(3:Int),n,a,b,c,o,.slice ra rn rc]:=by
 obtain⟨W0,u,k0,q⟩:=xE w #[(3:Int),n,a,b,c,o,.slice ra rn rc];go_enter Tryz.func71,Tryz.ntmps71;go_upto_region 1 with fail;clear u;obtain⟨y,C,J,K,M,R,U⟩:=xI k0;have HB:=zH q;clear k0 q;have p:Hid (zC 108 #[(3:Int),(1:Int),(4:Int)] W0 fun e w'=>e=.returned (.bool true)/\W0=w'):=(qa 3 1 4 W0).mono fun e w' ⟨h1,h2⟩=>⟨by rw[h1];rfl,h2⟩;go_wp2_with fail;refine p.out.mono ?_;rintro e w1 ⟨rfl,j⟩;subst j;clear p;go_wp2_with fail;refine(Zz n W0 hn).mono ?_;rintro e w1 ⟨rfl,j⟩;subst j;go_wp2_with fail;refine(YS o W0 ho).mono ?_;rintro e w1 ⟨rfl,j⟩;subst j;go_wp2;go_ret;exact⟨rfl,HB.out⟩
theorem ziU(n o:ByteArray)(a b c:Int)(ra:Option Addr)(rn rc:Nat)(w:World)(hn:zr n)(ho:zr o) :
  zR 71 #[.agg #[(3:Int),n,a,b,c,o,.slice ra rn rc]] w (.int .i64 (if InV a b c then 0 else 2)):=by
 obtain⟨W0,C,k0,y⟩:=xE w #[(3:Int),n,a,b,c,o,.slice ra rn rc];obtain⟨Z,hZ⟩:∃Z:Int,(if InV a b c then (0:Int) else 2)=Z:=⟨_,rfl⟩;rw[hZ];have HZ:=zH hZ;clear hZ;go_enter Tryz.func71,Tryz.ntmps71;go_upto_region 1 with fail;clear C;obtain⟨J,K,M,R,U,V,X⟩:=xI k0;have HB:=zH y;clear k0 y;have u:Hid (zC 108 #[(3:Int),(1:Int),(4:Int)] W0 fun e w'=>e=.returned (.bool true)/\W0=w'):=(qa 3 1 4 W0).mono fun e w' ⟨h1,h2⟩=>⟨by rw[h1];rfl,h2⟩;go_wp2_with fail;refine u.out.mono ?_;rintro e w1 ⟨rfl,p⟩;subst p;clear u;go_wp2_with fail;refine(Zz n W0 hn).mono ?_;rintro e w1 ⟨rfl,p⟩;subst p;go_wp2_with fail;refine(Zz o W0 ho).mono ?_;rintro e w1 ⟨rfl,p⟩;subst p;go_wp2_with fail;go_loopw [62] (fun kV wz=>wz=W0/\∃k:Int,kV=.int .i64 k/\(k=0\/(k=1/\0<=a/\a<=999)\/(k=2/\(0<=a/\a<=999)/\0<=b/\b<=999)\/(k=3/\(0<=a/\a<=999)/\(0<=b/\b<=999)/\0<=c/\c<=999))) (fun kV _=>3-(intOf kV).toNat)
 case atStart=>exact⟨rfl,0,rfl,Or.inl rfl⟩
 case round =>
  obtain⟨rfl,k,rfl,hk⟩:=hrel;rcases hk with rfl|⟨rfl,h1⟩|⟨rfl,h1,h2⟩|⟨rfl,h1,h2,h3⟩
  ·have q:=XA a b c wr;go_wp2_with fail;clear q
   by_cases hv:0<=a/\a<=999
   ·have j:Hid (zC 108 #[a,(0:Int),(999:Int)] wr fun e w'=>e=.returned (.bool true)/\wr=w'):=(qa a 0 999 wr).mono fun e w' ⟨h1,h2⟩=>⟨by rw[h1,decide_eq_true hv],h2⟩;have HV:=zH hv;clear hv;refine j.out.mono ?_;rintro e w1 ⟨rfl,p⟩;subst p;clear j;go_wp2;go_roundw
    case rel=>exact⟨trivial,1,by go_num,Or.inr (Or.inl ⟨rfl,HV.out⟩)⟩
    case measure=>simp[intOf]
   ·have j:Hid (zC 108 #[a,(0:Int),(999:Int)] wr fun e w'=>e=.returned (.bool false)/\wr=w'):=(qa a 0 999 wr).mono fun e w' ⟨h1,h2⟩=>⟨by rw[h1,decide_eq_false hv],h2⟩;have HC:Hid (Z=2):=by show _=_;rw[<-HZ.out];exact zA1 (fun h=>hv h.1)
    clear hv HZ;refine j.out.mono ?_;rintro e w1 ⟨rfl,p⟩;subst p;clear j;go_wp2;go_ret;exact⟨by rw[HC.out];rfl,HB.out⟩
  ·have q:=Xj a b c wr;go_wp2_with fail;clear q
   by_cases hv:0<=b/\b<=999
   ·have j:Hid (zC 108 #[b,(0:Int),(999:Int)] wr fun e w'=>e=.returned (.bool true)/\wr=w'):=(qa b 0 999 wr).mono fun e w' ⟨h1,h2⟩=>⟨by rw[h1,decide_eq_true hv],h2⟩;have HV:=zH hv;clear hv;refine j.out.mono ?_;rintro e w1 ⟨rfl,p⟩;subst p;clear j;go_wp2;go_roundw
    case rel=>exact⟨trivial,2,by go_num,Or.inr (Or.inr (Or.inl ⟨rfl,h1,HV.out⟩))⟩
    case measure=>simp[intOf]
   ·have j:Hid (zC 108 #[b,(0:Int),(999:Int)] wr fun e w'=>e=.returned (.bool false)/\wr=w'):=(qa b 0 999 wr).mono fun e w' ⟨h1,h2⟩=>⟨by rw[h1,decide_eq_false hv],h2⟩;have HC:Hid (Z=2):=by show _=_;rw[<-HZ.out];exact zA1 (fun h=>hv h.2.1)
    clear hv HZ;refine j.out.mono ?_;rintro e w1 ⟨rfl,p⟩;subst p;clear j;go_wp2;go_ret;exact⟨by rw[HC.out];rfl,HB.out⟩
  ·have q:=Kg a b c wr;go_wp2_with fail;clear q
   by_cases hv:0<=c/\c<=999
   ·have j:Hid (zC 108 #[c,(0:Int),(999:Int)] wr fun e w'=>e=.returned (.bool true)/\wr=w'):=(qa c 0 999 wr).mono fun e w' ⟨h1,h2⟩=>⟨by rw[h1,decide_eq_true hv],h2⟩;have HV:=zH hv;clear hv;refine j.out.mono ?_;rintro e w1 ⟨rfl,p⟩;subst p;clear j;go_wp2;go_roundw
    case rel=>exact⟨trivial,3,by go_num,Or.inr (Or.inr (Or.inr ⟨rfl,h1,h2,HV.out⟩))⟩
    case measure=>simp[intOf]
   ·have j:Hid (zC 108 #[c,(0:Int),(999:Int)] wr fun e w'=>e=.returned (.bool false)/\wr=w'):=(qa c 0 999 wr).mono fun e w' ⟨h1,h2⟩=>⟨by rw[h1,decide_eq_false hv],h2⟩;have HC:Hid (Z=2):=by show _=_;rw[<-HZ.out];exact zA1 (fun h=>hv h.2.2)
    clear hv HZ;refine j.out.mono ?_;rintro e w1 ⟨rfl,p⟩;subst p;clear j;go_wp2;go_ret;exact⟨by rw[HC.out];rfl,HB.out⟩
  ·have HC:Hid (Z=0):=by show _=_;rw[<-HZ.out];exact zA2 ⟨h1,h2,h3⟩
   clear HZ h1 h2 h3;go_wp2;go_ret;exact⟨by rw[HC.out];rfl,HB.out⟩
theorem zpG(n o:ByteArray)(a b c:Int)(ra:Option Addr)(rn rc:Nat)(w:World)(hn:zr n)(ho:0<o.size) :
  ZV w (1) #[(1:Int),n,a,b,c,o,.slice ra rn rc]:=by
 obtain⟨W0,y,k0,q⟩:=xE w #[(1:Int),n,a,b,c,o,.slice ra rn rc];go_enter Tryz.func71,Tryz.ntmps71;go_upto_region 1 with fail;clear y;obtain⟨J,K,M,R,U,V,X⟩:=xI k0;have HB:=zH q;clear k0 q;have p:Hid (zC 108 #[(1:Int),(1:Int),(4:Int)] W0 fun e w'=>e=.returned (.bool true)/\W0=w'):=(qa 1 1 4 W0).mono fun e w' ⟨h1,h2⟩=>⟨by rw[h1];rfl,h2⟩;go_wp2_with fail;refine p.out.mono ?_;rintro e w1 ⟨rfl,j⟩;subst j;clear p;go_wp2_with fail;refine(Zz n W0 hn).mono ?_;rintro e w1 ⟨rfl,j⟩;subst j;have u:o.toList.isEmpty=false:=Qk ho;have C:(o.toList==[])=false:=by rw[beq_eq_false_iff_ne];intro h;rw[h] at u;cases u
 go_wp2;go_ret;exact⟨rfl,HB.out⟩
theorem zoJ(n o:ByteArray)(a b c:Int)(ra:Option Addr)(rn rc:Nat)(w:World)(hn:zr n)(ho:0<o.size) :
  ZV w (1) #[(4:Int),n,a,b,c,o,.slice ra rn rc]:=by
 obtain⟨W0,y,k0,q⟩:=xE w #[(4:Int),n,a,b,c,o,.slice ra rn rc];go_enter Tryz.func71,Tryz.ntmps71;go_upto_region 1 with fail;clear y;obtain⟨J,K,M,R,U,V,X⟩:=xI k0;have HB:=zH q;clear k0 q;have p:Hid (zC 108 #[(4:Int),(1:Int),(4:Int)] W0 fun e w'=>e=.returned (.bool true)/\W0=w'):=(qa 4 1 4 W0).mono fun e w' ⟨h1,h2⟩=>⟨by rw[h1];rfl,h2⟩;go_wp2_with fail;refine p.out.mono ?_;rintro e w1 ⟨rfl,j⟩;subst j;clear p;go_wp2_with fail;refine(Zz n W0 hn).mono ?_;rintro e w1 ⟨rfl,j⟩;subst j;have u:o.toList.isEmpty=false:=Qk ho;have C:(o.toList==[])=false:=by rw[beq_eq_false_iff_ne];intro h;rw[h] at u;cases u
 go_wp2;go_ret;exact⟨rfl,HB.out⟩
theorem zhT(n:ByteArray)(a b c:Int)(ra:Option Addr)(rn rc:Nat)(w:World)(hn:zr n)(hr:0<rn) :
  ZV w (1) #[(1:Int),n,a,b,c,.string ⟨#[]⟩,.slice ra rn rc]:=by
 obtain⟨W0,q,k0,p⟩:=xE w #[(1:Int),n,a,b,c,.string ⟨#[]⟩,.slice ra rn rc];go_enter Tryz.func71,Tryz.ntmps71;go_upto_region 1 with fail;clear q;obtain⟨y,C,J,K,M,R,U⟩:=xI k0;have HB:=zH p;clear k0 p;have o:Hid (zC 108 #[(1:Int),(1:Int),(4:Int)] W0 fun e w'=>e=.returned (.bool true)/\W0=w'):=(qa 1 1 4 W0).mono fun e w' ⟨h1,h2⟩=>⟨by rw[h1];rfl,h2⟩;go_wp2_with fail;refine o.out.mono ?_;rintro e w1 ⟨rfl,j⟩;subst j;clear o;go_wp2_with fail;refine(Zz n W0 hn).mono ?_;rintro e w1 ⟨rfl,j⟩;subst j;have u:(0:Int)<(rn:Int):=by omega
 go_wp2;go_ret;exact⟨rfl,HB.out⟩
theorem zpq(n:ByteArray)(a b c:Int)(ra:Option Addr)(rc:Nat)(w:World)(hn:zr n) :
  zR 71 #[.agg #[(1:Int),n,a,b,c,.string ⟨#[]⟩,.slice ra 0 rc]] w (.int .i64 (if InV a b c then 0 else 2)):=by
 obtain⟨W0,y,k0,u⟩:=xE w #[(1:Int),n,a,b,c,.string ⟨#[]⟩,.slice ra 0 rc];obtain⟨Z,hZ⟩:∃Z:Int,(if InV a b c then (0:Int) else 2)=Z:=⟨_,rfl⟩;rw[hZ];have HZ:=zH hZ;clear hZ;go_enter Tryz.func71,Tryz.ntmps71;go_upto_region 1 with fail;clear y;obtain⟨C,J,K,M,R,U,V⟩:=xI k0;have HB:=zH u;clear k0 u;have q:Hid (zC 108 #[(1:Int),(1:Int),(4:Int)] W0 fun e w'=>e=.returned (.bool true)/\W0=w'):=(qa 1 1 4 W0).mono fun e w' ⟨h1,h2⟩=>⟨by rw[h1];rfl,h2⟩;go_wp2_with fail;refine q.out.mono ?_;rintro e w1 ⟨rfl,o⟩;subst o;clear q;go_wp2_with fail;refine(Zz n W0 hn).mono ?_;rintro e w1 ⟨rfl,o⟩;subst o;go_wp2_with fail;go_loopw [62] (fun kV wz=>wz=W0/\∃k:Int,kV=.int .i64 k/\(k=0\/(k=1/\0<=a/\a<=999)\/(k=2/\(0<=a/\a<=999)/\0<=b/\b<=999)\/(k=3/\(0<=a/\a<=999)/\(0<=b/\b<=999)/\0<=c/\c<=999))) (fun kV _=>3-(intOf kV).toNat)
 case atStart=>exact⟨rfl,0,rfl,Or.inl rfl⟩
 case round =>
  obtain⟨rfl,k,rfl,hk⟩:=hrel;rcases hk with rfl|⟨rfl,h1⟩|⟨rfl,h1,h2⟩|⟨rfl,h1,h2,h3⟩
  ·have p:=XA a b c wr;go_wp2_with fail;clear p
   by_cases hv:0<=a/\a<=999
   ·have j:Hid (zC 108 #[a,(0:Int),(999:Int)] wr fun e w'=>e=.returned (.bool true)/\wr=w'):=(qa a 0 999 wr).mono fun e w' ⟨h1,h2⟩=>⟨by rw[h1,decide_eq_true hv],h2⟩;have HV:=zH hv;clear hv;refine j.out.mono ?_;rintro e w1 ⟨rfl,o⟩;subst o;clear j;go_wp2;go_roundw
    case rel=>exact⟨trivial,1,by go_num,Or.inr (Or.inl ⟨rfl,HV.out⟩)⟩
    case measure=>simp[intOf]
   ·have j:Hid (zC 108 #[a,(0:Int),(999:Int)] wr fun e w'=>e=.returned (.bool false)/\wr=w'):=(qa a 0 999 wr).mono fun e w' ⟨h1,h2⟩=>⟨by rw[h1,decide_eq_false hv],h2⟩;have HC:Hid (Z=2):=by show _=_;rw[<-HZ.out];exact zA1 (fun h=>hv h.1)
    clear hv HZ;refine j.out.mono ?_;rintro e w1 ⟨rfl,o⟩;subst o;clear j;go_wp2;go_ret;exact⟨by rw[HC.out];rfl,HB.out⟩
  ·have p:=Xj a b c wr;go_wp2_with fail;clear p
   by_cases hv:0<=b/\b<=999
   ·have j:Hid (zC 108 #[b,(0:Int),(999:Int)] wr fun e w'=>e=.returned (.bool true)/\wr=w'):=(qa b 0 999 wr).mono fun e w' ⟨h1,h2⟩=>⟨by rw[h1,decide_eq_true hv],h2⟩;have HV:=zH hv;clear hv;refine j.out.mono ?_;rintro e w1 ⟨rfl,o⟩;subst o;clear j;go_wp2;go_roundw
    case rel=>exact⟨trivial,2,by go_num,Or.inr (Or.inr (Or.inl ⟨rfl,h1,HV.out⟩))⟩
    case measure=>simp[intOf]
   ·have j:Hid (zC 108 #[b,(0:Int),(999:Int)] wr fun e w'=>e=.returned (.bool false)/\wr=w'):=(qa b 0 999 wr).mono fun e w' ⟨h1,h2⟩=>⟨by rw[h1,decide_eq_false hv],h2⟩;have HC:Hid (Z=2):=by show _=_;rw[<-HZ.out];exact zA1 (fun h=>hv h.2.1)
    clear hv HZ;refine j.out.mono ?_;rintro e w1 ⟨rfl,o⟩;subst o;clear j;go_wp2;go_ret;exact⟨by rw[HC.out];rfl,HB.out⟩
  ·have p:=Kg a b c wr;go_wp2_with fail;clear p
   by_cases hv:0<=c/\c<=999
   ·have j:Hid (zC 108 #[c,(0:Int),(999:Int)] wr fun e w'=>e=.returned (.bool true)/\wr=w'):=(qa c 0 999 wr).mono fun e w' ⟨h1,h2⟩=>⟨by rw[h1,decide_eq_true hv],h2⟩;have HV:=zH hv;clear hv;refine j.out.mono ?_;rintro e w1 ⟨rfl,o⟩;subst o;clear j;go_wp2;go_roundw
    case rel=>exact⟨trivial,3,by go_num,Or.inr (Or.inr (Or.inr ⟨rfl,h1,h2,HV.out⟩))⟩
    case measure=>simp[intOf]
   ·have j:Hid (zC 108 #[c,(0:Int),(999:Int)] wr fun e w'=>e=.returned (.bool false)/\wr=w'):=(qa c 0 999 wr).mono fun e w' ⟨h1,h2⟩=>⟨by rw[h1,decide_eq_false hv],h2⟩;have HC:Hid (Z=2):=by show _=_;rw[<-HZ.out];exact zA1 (fun h=>hv h.2.2)
    clear hv HZ;refine j.out.mono ?_;rintro e w1 ⟨rfl,o⟩;subst o;clear j;go_wp2;go_ret;exact⟨by rw[HC.out];rfl,HB.out⟩
  ·have HC:Hid (Z=0):=by show _=_;rw[<-HZ.out];exact zA2 ⟨h1,h2,h3⟩
   clear HZ h1 h2 h3;go_wp2;go_ret;exact⟨by rw[HC.out];rfl,HB.out⟩
theorem zno(n:ByteArray)(a b c:Int)(ra:Option Addr)(rn rc:Nat)(w:World)(hn:zr n)(hz:(a==0&&(b==0&&c==0))=false) :
  ZV w (1) #[(4:Int),n,a,b,c,.string ⟨#[]⟩,.slice ra rn rc]:=by
 obtain⟨W0,q,k0,p⟩:=xE w #[(4:Int),n,a,b,c,.string ⟨#[]⟩,.slice ra rn rc];go_enter Tryz.func71,Tryz.ntmps71;go_upto_region 1 with fail;clear q;obtain⟨u,y,C,J,K,M,R⟩:=xI k0;have HB:=zH p;clear k0 p;have o:Hid (zC 108 #[(4:Int),(1:Int),(4:Int)] W0 fun e w'=>e=.returned (.bool true)/\W0=w'):=(qa 4 1 4 W0).mono fun e w' ⟨h1,h2⟩=>⟨by rw[h1];rfl,h2⟩;go_wp2_with fail;refine o.out.mono ?_;rintro e w1 ⟨rfl,j⟩;subst j;clear o;go_wp2_with fail;refine(Zz n W0 hn).mono ?_;rintro e w1 ⟨rfl,j⟩;subst j;have h3:=zdV a b c 0 0 0;rw[hz] at h3;go_wp2;go_ret;exact⟨rfl,HB.out⟩
theorem zmR(n:ByteArray)(a b c:Int)(ra:Option Addr)(rn rc:Nat)(w:World)(hn:zr n)(hz:(a==0&&(b==0&&c==0))=true) :
  zR 71 #[.agg #[(4:Int),n,a,b,c,.string ⟨#[]⟩,.slice ra rn rc]] w (.int .i64 (if InV a b c then 0 else 2)):=by
 obtain⟨W0,y,k0,u⟩:=xE w #[(4:Int),n,a,b,c,.string ⟨#[]⟩,.slice ra rn rc];obtain⟨Z,hZ⟩:∃Z:Int,(if InV a b c then (0:Int) else 2)=Z:=⟨_,rfl⟩;rw[hZ];have HZ:=zH hZ;clear hZ;go_enter Tryz.func71,Tryz.ntmps71;go_upto_region 1 with fail;clear y;obtain⟨C,J,K,M,R,U,V⟩:=xI k0;have HB:=zH u;clear k0 u;have q:Hid (zC 108 #[(4:Int),(1:Int),(4:Int)] W0 fun e w'=>e=.returned (.bool true)/\W0=w'):=(qa 4 1 4 W0).mono fun e w' ⟨h1,h2⟩=>⟨by rw[h1];rfl,h2⟩;go_wp2_with fail;refine q.out.mono ?_;rintro e w1 ⟨rfl,o⟩;subst o;clear q;go_wp2_with fail;refine(Zz n W0 hn).mono ?_;rintro e w1 ⟨rfl,o⟩;subst o;have h3:=zdV a b c 0 0 0;rw[hz] at h3;go_wp2_with fail;clear h3;go_loopw [62] (fun kV wz=>wz=W0/\∃k:Int,kV=.int .i64 k/\(k=0\/(k=1/\0<=a/\a<=999)\/(k=2/\(0<=a/\a<=999)/\0<=b/\b<=999)\/(k=3/\(0<=a/\a<=999)/\(0<=b/\b<=999)/\0<=c/\c<=999))) (fun kV _=>3-(intOf kV).toNat)
 case atStart=>exact⟨rfl,0,rfl,Or.inl rfl⟩
 case round =>
  obtain⟨rfl,k,rfl,hk⟩:=hrel;rcases hk with rfl|⟨rfl,h1⟩|⟨rfl,h1,h2⟩|⟨rfl,h1,h2,h3⟩
  ·have p:=XA a b c wr;go_wp2_with fail;clear p
   by_cases hv:0<=a/\a<=999
   ·have j:Hid (zC 108 #[a,(0:Int),(999:Int)] wr fun e w'=>e=.returned (.bool true)/\wr=w'):=(qa a 0 999 wr).mono fun e w' ⟨h1,h2⟩=>⟨by rw[h1,decide_eq_true hv],h2⟩;have HV:=zH hv;clear hv;refine j.out.mono ?_;rintro e w1 ⟨rfl,o⟩;subst o;clear j;go_wp2;go_roundw
    case rel=>exact⟨trivial,1,by go_num,Or.inr (Or.inl ⟨rfl,HV.out⟩)⟩
    case measure=>simp[intOf]
   ·have j:Hid (zC 108 #[a,(0:Int),(999:Int)] wr fun e w'=>e=.returned (.bool false)/\wr=w'):=(qa a 0 999 wr).mono fun e w' ⟨h1,h2⟩=>⟨by rw[h1,decide_eq_false hv],h2⟩;have HC:Hid (Z=2):=by show _=_;rw[<-HZ.out];exact zA1 (fun h=>hv h.1)
    clear hv HZ;refine j.out.mono ?_;rintro e w1 ⟨rfl,o⟩;subst o;clear j;go_wp2;go_ret;exact⟨by rw[HC.out];rfl,HB.out⟩
  ·have p:=Xj a b c wr;go_wp2_with fail;clear p
   by_cases hv:0<=b/\b<=999
   ·have j:Hid (zC 108 #[b,(0:Int),(999:Int)] wr fun e w'=>e=.returned (.bool true)/\wr=w'):=(qa b 0 999 wr).mono fun e w' ⟨h1,h2⟩=>⟨by rw[h1,decide_eq_true hv],h2⟩;have HV:=zH hv;clear hv;refine j.out.mono ?_;rintro e w1 ⟨rfl,o⟩;subst o;clear j;go_wp2;go_roundw
    case rel=>exact⟨trivial,2,by go_num,Or.inr (Or.inr (Or.inl ⟨rfl,h1,HV.out⟩))⟩
    case measure=>simp[intOf]
   ·have j:Hid (zC 108 #[b,(0:Int),(999:Int)] wr fun e w'=>e=.returned (.bool false)/\wr=w'):=(qa b 0 999 wr).mono fun e w' ⟨h1,h2⟩=>⟨by rw[h1,decide_eq_false hv],h2⟩;have HC:Hid (Z=2):=by show _=_;rw[<-HZ.out];exact zA1 (fun h=>hv h.2.1)
    clear hv HZ;refine j.out.mono ?_;rintro e w1 ⟨rfl,o⟩;subst o;clear j;go_wp2;go_ret;exact⟨by rw[HC.out];rfl,HB.out⟩
  ·have p:=Kg a b c wr;go_wp2_with fail;clear p
   by_cases hv:0<=c/\c<=999
   ·have j:Hid (zC 108 #[c,(0:Int),(999:Int)] wr fun e w'=>e=.returned (.bool true)/\wr=w'):=(qa c 0 999 wr).mono fun e w' ⟨h1,h2⟩=>⟨by rw[h1,decide_eq_true hv],h2⟩;have HV:=zH hv;clear hv;refine j.out.mono ?_;rintro e w1 ⟨rfl,o⟩;subst o;clear j;go_wp2;go_roundw
    case rel=>exact⟨trivial,3,by go_num,Or.inr (Or.inr (Or.inr ⟨rfl,h1,h2,HV.out⟩))⟩
    case measure=>simp[intOf]
   ·have j:Hid (zC 108 #[c,(0:Int),(999:Int)] wr fun e w'=>e=.returned (.bool false)/\wr=w'):=(qa c 0 999 wr).mono fun e w' ⟨h1,h2⟩=>⟨by rw[h1,decide_eq_false hv],h2⟩;have HC:Hid (Z=2):=by show _=_;rw[<-HZ.out];exact zA1 (fun h=>hv h.2.2)
    clear hv HZ;refine j.out.mono ?_;rintro e w1 ⟨rfl,o⟩;subst o;clear j;go_wp2;go_ret;exact⟨by rw[HC.out];rfl,HB.out⟩
  ·have HC:Hid (Z=0):=by show _=_;rw[<-HZ.out];exact zA2 ⟨h1,h2,h3⟩
   clear HZ h1 h2 h3;go_wp2;go_ret;exact⟨by rw[HC.out];rfl,HB.out⟩
end
section
open Go.RowKit Sv
theorem zh6(x:Ln)(ra:Option Addr)(rc:Nat)(w:World) :
  zR 71 #[.agg #[x.kind,x.name,x.a,x.b,x.c,x.other,.slice ra (tp x.rng).length rc]] w (.int .i64 (qJ x)):=by
 obtain⟨k,n,a,b,c,o,r⟩:=x;unfold qJ Ln.pair;simp only
 by_cases hk:k<1\/4<k
 ·rw[zA2 hk];rcases hk with hk|hk
  ·exact zcz k n o a b c ra (tp r).length rc w (by omega)
  ·exact zcz k n o a b c ra (tp r).length rc w (by omega)
 rw[zA1 hk];have j:k=1\/k=2\/k=3\/k=4:=by omega
 by_cases hn:zr n
 ·rcases j with rfl|rfl|rfl|rfl
  ·have h1:¬(¬zr n\/(((1:Int)=2\/(1:Int)=3)/\¬zr o)):=by
    rintro (h|⟨h,_⟩)
    ·exact h hn
    ·omega
   rw[zA1 h1]
   by_cases ho:o.size≠0
   ·rw[zA2 ⟨by omega,ho⟩];exact zpG n o a b c ra (tp r).length rc w hn (by omega)
   ·rw[zA1 (fun h=>ho h.2)];obtain rfl:=Qs (s:=o) (by omega);cases r with
    |nil =>
     rw[zA1 (fun h=>h.2 rfl),zA1 (by omega)];refine(zpq n a b c ra rc w hn).mono fun e w' ⟨h1,h2⟩=>⟨?_,h2⟩;rw[h1]
     by_cases hi:InV a b c
     ·rw[zA2 hi,zA1 (fun h=>h hi)]
     ·rw[zA1 hi,zA2 hi]
    |cons s r =>rw[zA2 ⟨rfl,by simp⟩];exact zhT n a b c ra (tp (s :: r)).length rc w hn (by simp[tp])
  ·by_cases ho:zr o
   ·have h1:¬(¬zr n\/(((2:Int)=2\/(2:Int)=3)/\¬zr o)):=by
     rintro (h|⟨_,h⟩)
     ·exact h hn
     ·exact h ho
    rw[zA1 h1,zA1 (fun h=>h.1 (Or.inl rfl)),zA1 (by omega),zA1 (by omega)];refine(ziM n o a b c ra (tp r).length rc w hn ho).mono fun e w' ⟨h1,h2⟩=>⟨?_,h2⟩;rw[h1]
    by_cases hi:InV a b c
    ·rw[zA2 hi,zA1 (fun h=>h hi)]
    ·rw[zA1 hi,zA2 hi]
   ·rw[zA2 (Or.inr ⟨Or.inl rfl,ho⟩)];exact zg8 n o a b c ra (tp r).length rc w hn ho
  ·by_cases ho:zr o
   ·have h1:¬(¬zr n\/(((3:Int)=2\/(3:Int)=3)/\¬zr o)):=by
     rintro (h|⟨_,h⟩)
     ·exact h hn
     ·exact h ho
    rw[zA1 h1,zA1 (fun h=>h.1 (Or.inr rfl)),zA1 (by omega),zA1 (by omega)];refine(ziU n o a b c ra (tp r).length rc w hn ho).mono fun e w' ⟨h1,h2⟩=>⟨?_,h2⟩;rw[h1]
    by_cases hi:InV a b c
    ·rw[zA2 hi,zA1 (fun h=>h hi)]
    ·rw[zA1 hi,zA2 hi]
   ·rw[zA2 (Or.inr ⟨Or.inr rfl,ho⟩)];exact znp n o a b c ra (tp r).length rc w hn ho
  ·have h1:¬(¬zr n\/(((4:Int)=2\/(4:Int)=3)/\¬zr o)):=by
    rintro (h|⟨h,_⟩)
    ·exact h hn
    ·omega
   rw[zA1 h1]
   by_cases ho:o.size≠0
   ·rw[zA2 ⟨by omega,ho⟩];exact zoJ n o a b c ra (tp r).length rc w hn (by omega)
   ·rw[zA1 (fun h=>ho h.2),zA1 (by omega)];obtain rfl:=Qs (s:=o) (by omega)
    by_cases hz:a≠0\/b≠0\/c≠0
    ·rw[zA2 ⟨rfl,hz⟩];refine zno n a b c ra (tp r).length rc w hn ?_
     by_cases h0:a=0
     ·by_cases h1:b=0
      ·have h2:c≠0:=by omega
       simp[h2]
      ·simp[h1]
     ·simp[h0]
    ·rw[zA1 (fun h=>hz h.2)];obtain rfl:a=0:=by omega
     obtain rfl:b=0:=by omega
     obtain rfl:c=0:=by omega
     rw[zA1 (fun h=>h (by decide))];exact(zmR n 0 0 0 ra (tp r).length rc w hn (by decide)).mono fun e w' ⟨h1,h2⟩=>⟨by rw[h1,zA2 (by decide)],h2⟩
 ·rw[zA2 (Or.inl hn)];rcases j with rfl|rfl|rfl|rfl
  ·exact zhF n o a b c ra (tp r).length rc w hn
  ·exact zgi n o a b c ra (tp r).length rc w hn
  ·exact zo2 n o a b c ra (tp r).length rc w hn
  ·exact zg5 n o a b c ra (tp r).length rc w hn
end
section
open Go.RowKit Go.Deep Go.Maps
def XN:Value->Option (DataW Unit × List MemPlace)
 |.bool b=>some (.lit (.bool b),[])
 |_=>none
theorem zax(b:Bool):XN (.bool b)=some (.lit (.bool b),[]):=rfl
theorem zcF{v:Value}{b:Bool}{ps:List MemPlace}(h:XN v=some (.lit (.bool b),ps)):v=.bool b:=by
 unfold XN at h;split at h
 ·simp at h;rw[h.1]
 ·cases h
theorem zgG(w:World):(zeroValue 4).run Tryz.prog w=.ok (.bool false) w:=by kernel_rfl
def yL(w:World)(bm:Nat)(l:List It):Prop:=∃D,w.ownsMap Tryz.prog 9 XN bm (qY l) D/\ZW (fun _:Unit=>.lit (.bool true)) D (ZH l) (qY l)
theorem yL.made(w:World):yL (w.alloc (.map #[] 0)) w.heap.size []:=⟨.map [],World.ownsMap_made w _ _ _,ZW.empty⟩
theorem yL.below{B:Nat}{w w':World}{bm:Nat}{l:List It}(h:yL w bm l)(hb:Below B w w')(hB:w.heap.size<=B):yL w' bm l:=by
 obtain⟨D,h1,h2⟩:=h;exact⟨D,Kw h1 (hb.mono hB),h2⟩
theorem yL.lt{w:World}{bm:Nat}{l:List It}(h:yL w bm l):bm<w.heap.size:=by obtain⟨D,h1,_⟩:=h;exact h1.lt
theorem yL.block{w w':World}{bm:Nat}{l:List It}(h:yL w bm l)(hb:w'.heap[bm]?=w.heap[bm]?):yL w' bm l:=by
 obtain⟨D,⟨es,j,h1,h2⟩,hR⟩:=h;exact⟨D,⟨es,j,hb.trans h1,h2⟩,hR⟩
theorem yL.put{w:World}{bm:Nat}{l:List It}(h:yL w bm l)(hl:l.length<1000000){x:It}(hs:x.name.size<=100000) :
  ∃w',(Instr.mapUpdate 149 (.map (some bm)) (.string x.name) (.bool true)).run Tryz.prog w=.ok () w'/\yL w' bm (l++[x])/\w.grownBy w' (some bm):=by
 obtain⟨D,hD,hR⟩:=h;have p:=zfk l;obtain⟨w',o,g1,k1⟩:=hD.update XW Tryz.underlying149 (by unfold maxLen;omega) (Xv hs) (zax true);have j:=hR.put x.name ();have e1:(fun c=>if c=x.name then some () else ZH l c)=ZH (l++[x]):=by
  funext c;unfold ZH
  by_cases h:c=x.name
  ·simp[h]
  ·simp[h]
 have e2:(if (ZH l x.name).isSome then qY l else qY l+1)=qY (l++[x]):=by
  rw[zfz];unfold ZH
  by_cases h:x.name∈l.map It.name
  ·rw[zA2 h,zA2 h];rfl
  ·rw[zA1 h,zA1 h];rfl
 rw[e1,e2] at j;exact⟨w',o,⟨_,j.size▸Qh g1,j⟩,k1⟩
theorem yL.len{w:World}{bm:Nat}{l:List It}(h:yL w bm l)(ty:TypeId):(Builtin.len_ #[149] ty #[.map (some bm)]).run Tryz.prog w=.ok (.int .i64 (qY l)) w:=by
 obtain⟨D,hD,hR⟩:=h;rw[hD.len Tryz.underlying149 ty,hR.size]
theorem zlR:laidOutB Tryz.prog=true:=by kernel_rfl
theorem zg6:(106:TypeId)<Tryz.prog.types.size:=of_decide_eq_true (by kernel_rfl)
theorem zgo:(match Tryz.prog.underlying 106 with|some (.array _ _)|some (.struct _)=>true|_=>false)=true:=by rw[Tryz.underlying106]
theorem zbS:Keyed Tryz.prog 106:=Keyed.of_law (deep_law_laid zlR (m:=3) (by omega) zg6 (by kernel_rfl) zgo)
theorem zgw:Tryz.prog.keyType 106=true:=by kernel_rfl
theorem zd4:Tryz.prog.cellsOf 106=4:=by kernel_rfl
theorem zfC:Tryz.prog.cellsOf 81=3:=by kernel_rfl
theorem zmM:Tryz.prog.cellsOf 3=1:=by kernel_rfl
theorem zll:Tryz.prog.cellsOf 9=1:=by kernel_rfl
def itV(x:It):Value:=.agg #[x.name,x.a,x.b,x.c]
def Qp(x:It):Prop:=x.name.size<=100000/\(0<=x.a/\x.a<=999)/\(0<=x.b/\x.b<=999)/\0<=x.c/\x.c<=999
def QI(x:It):Lit:=.string (keyBytes [.string x.name.data.toList,.int .i64 x.a,.int .i64 x.b,.int .i64 x.c])
theorem zj1{m:Int}(h:0<=m/\m<=999):(Lit.int .i64 m).wf=true:=by
 simp[Lit.wf,IntKind.min,IntKind.max,IntKind.signed,IntKind.bits];omega
theorem zbI(d:Nat){m:Int}(h:0<=m/\m<=999):Tryz.prog.keyLits (d+1) 3 [.int .i64 m]=some [.int .i64 m]:=by
 unfold Program.keyLits;rw[Tryz.underlying3];simp[zj1 h]
theorem zhX(d:Nat){s:ByteArray}(h:s.size<=100000):Tryz.prog.keyLits (d+1) 9 [.string s]=some [.string s.data.toList]:=by
 unfold Program.keyLits;rw[Tryz.underlying9];have h2:s.size<=maxLen:=by unfold maxLen;omega
 simp[h2]
theorem zmY(d:Nat){a b c:Int}(ha:0<=a/\a<=999)(hb:0<=b/\b<=999)(hc:0<=c/\c<=999):Tryz.prog.keyLits (d+2) 81 [.int .i64 a,.int .i64 b,.int .i64 c]=some [.int .i64 a,.int .i64 b,.int .i64 c]:=by
 unfold Program.keyLits;rw[Tryz.underlying81];have e:List.range 3=[0,1,2]:=rfl;simp[zfC,zmM,e,zbI d ha,zbI d hb,zbI d hc]
theorem Kl(x:It)(h:Qp x):keyOf Tryz.prog 106 (itV x)=some (QI x):=by
 have hf:(itV x).formed Tryz.prog 106=true:=by simp[Value.formed,Tryz.underlying106,zd4,itV]
 unfold keyOf;rw[Tryz.underlying106];simp only[zgw,hf,Bool.and_self,if_true];obtain⟨d,hd⟩:∃d,Tryz.prog.types.size+1=d+3:=⟨Tryz.prog.types.size-2,by have:3<Tryz.prog.types.size:=of_decide_eq_true (by kernel_rfl);omega⟩;rw[hd];have hc:(itV x).cells.toList=[.string x.name,.int .i64 x.a,.int .i64 x.b,.int .i64 x.c]:=rfl;rw[hc];unfold Program.keyLits;rw[Tryz.underlying106];simp[zd4,zfC,zll,zhX (d+1) h.1,zmY d h.2.1 h.2.2.1 h.2.2.2,QI]
theorem zo7{x y:It}(hx:Qp x)(hy:Qp y)(h:QI x=QI y):x=y:=by
 have:=zbS.inj (Kl x hx) (h▸Kl y hy);obtain⟨n,a,b,c⟩:=x;obtain⟨n',a',b',c'⟩:=y;simp[itV] at this;obtain⟨rfl,rfl,rfl,rfl⟩:=this;rfl
def Qy(l:List It):List (It × Unit):=l.map fun s=>(s,())
theorem zd9(l:List It):(Qy l).map Prod.fst=l:=by unfold Qy;rw[List.map_map];simp[Function.comp_def]
def zdm(D:DataW Unit)(l:List It):Prop:=Rep Qp QI (fun _:Unit=>.lit (.bool true)) D (Qy l)
def ym(w:World)(bm:Nat)(l:List It):Prop:=∃D,w.ownsMap Tryz.prog 106 XN bm l.length D/\zdm D l
theorem ym.lt{w:World}{bm:Nat}{l:List It}(h:ym w bm l):bm<w.heap.size:=by obtain⟨D,hD,_⟩:=h;exact hD.lt
theorem ym.made(w:World):ym (w.alloc (.map #[] 0)) w.heap.size []:=⟨.map [],World.ownsMap_made w _ _ _,Rep.empty⟩
theorem ym.block{w w':World}{bm:Nat}{l:List It}(h:ym w bm l)(hb:w'.heap[bm]?=w.heap[bm]?):ym w' bm l:=by
 obtain⟨D,⟨es,j,h1,h2⟩,hR⟩:=h;exact⟨D,⟨es,j,hb.trans h1,h2⟩,hR⟩
theorem ym.below{B:Nat}{w w':World}{bm:Nat}{l:List It}(h:ym w bm l)(hb:Below B w w')(hB:w.heap.size<=B):ym w' bm l:=by
 obtain⟨D,h1,h2⟩:=h;exact⟨D,Kw h1 (hb.mono hB),h2⟩
theorem ym.look{w:World}{bm:Nat}{l:List It}(h:ym w bm l){x:It}(hx:Qp x) :
  (Instr.lookup 150 (.map (some bm)) (.agg #[x.name,x.a,x.b,x.c]) false).run Tryz.prog w=.ok (.bool (decide (x∈l))) w:=by
 obtain⟨D,hD,hR⟩:=h;obtain⟨v,ps,j,hv⟩:=hD.lookup zbS Tryz.underlying150 (zgG w) (zax false) (Kl x hx)
 by_cases hm:x∈l
 ·rw[show D.atKey (QI x) (.lit (.bool false))=.lit (.bool true) from hR.at' (x,()) (by unfold Qy;exact List.mem_map.2 ⟨x,hm,rfl⟩) _] at hv;rw[zcF hv] at j;rw[decide_eq_true hm];exact j
 ·have hn:Maps.has D (QI x)=false:=Rep.not hR hx (by rw[zd9];exact hm);rw[atKey_of_not_has hn] at hv;rw[zcF hv] at j;rw[decide_eq_false hm];exact j
theorem ym.put{w:World}{bm:Nat}{l:List It}(h:ym w bm l)(hl:l.length<1000000){x:It}(hx:Qp x)(hn:x∉l) :
  ∃w',(Instr.mapUpdate 150 (.map (some bm)) (.agg #[x.name,x.a,x.b,x.c]) (.bool true)).run Tryz.prog w=.ok () w'/\ym w' bm (l++[x])/\w.grownBy w' (some bm):=by
 obtain⟨D,hD,hR⟩:=h;obtain⟨w',j,g1,k1⟩:=hD.update zbS Tryz.underlying150 (by unfold maxLen;omega) (Kl x hx) (zax true);have o:zdm (D.put (QI x) (.lit (.bool true))) (l++[x]):=by
  have:=Rep.put hR (fun a b ha hb e=>zo7 ha hb e) (fun _=>trivial) hx (by rw[zd9];exact hn) ();show Rep _ _ _ _ (Qy (l++[x]));unfold Qy at *;rw[List.map_append];exact this
 refine⟨w',j,⟨_,?_,o⟩,k1⟩;have h2:=o.size;unfold Qy at h2;rw[List.length_map] at h2;exact h2▸Qh g1
theorem ym.len{w:World}{bm:Nat}{l:List It}(h:ym w bm l)(ty:TypeId):(Builtin.len_ #[150] ty #[.map (some bm)]).run Tryz.prog w=.ok (.int .i64 l.length) w:=by
 obtain⟨D,hD,hR⟩:=h;rw[hD.len Tryz.underlying150 ty,hR.size,Qy,List.length_map]
theorem yL.ne{w:World}{bm b:Nat}{l:List It}{t:TypeId}{cs:Array Value}(h:yL w bm l)(hb:Blk w b t cs):bm≠b:=by
 rintro rfl;obtain⟨D,⟨es,j,h1,_⟩,_⟩:=h;have:=h1.symm.trans hb;cases this
theorem ym.ne{w:World}{bm b:Nat}{l:List It}{t:TypeId}{cs:Array Value}(h:ym w bm l)(hb:Blk w b t cs):bm≠b:=by
 rintro rfl;obtain⟨D,⟨es,j,h1,_⟩,_⟩:=h;have:=h1.symm.trans hb;cases this
end
end Go.Proofs.YthifnefkdjkicaaGreatDoor
