import Derived.Test.YtoffdbflfikcoaaGreatDoorax
open Go.Proofs.Tryz
set_option maxHeartbeats 2000000
set_option maxRecDepth 100000
namespace Go.Proofs.YtoffdbflfikcoaaGreatDoor
section
open Go.RowKit Sv
abbrev ZX(w:World)(v:Int)(ks:Array Value):Prop:=zR 77 #[.agg ks] w (.int .i64 v)
theorem xP{W:World}{b:Nat}{t:TypeId}{x0 x1 x2 x3 x4 x5 x6:Value}(h:Blk W b t #[x0,x1,x2,x3,x4,x5,x6]):W.cell? b=some x0/\W.cell? ⟨b,1,none⟩=some x1/\W.cell? ⟨b,2,none⟩=some x2/\W.cell? ⟨b,3,none⟩=some x3/\W.cell? ⟨b,4,none⟩=some x4/\W.cell? ⟨b,5,none⟩=some x5/\W.cell? ⟨b,6,none⟩=some x6:=⟨h.cell 0,h.cell 1,h.cell 2,h.cell 3,h.cell 4,h.cell 5,h.cell 6⟩
theorem xZ(w:World)(K:Array Value):∃W0,w.alloc (.cells K 94)=W0/\Blk W0 w.heap.size 94 K/\zB w W0:=⟨_,rfl,Blk.new _ _ _,(zf0 _ w).alloc zN _⟩
theorem ZL(s:ByteArray)(w:World)(h:zr s):zC 126 #[s] w fun e w'=>e=.returned true/\w=w':=(zgu s w).mono fun _ _ ⟨h1,h2⟩=>⟨h1.1 h,h2⟩
theorem Xo(s:ByteArray)(w:World)(h:¬zr s):zC 126 #[s] w fun e w'=>e=.returned false/\w=w':=(zgu s w).mono fun _ _ ⟨h1,h2⟩=>⟨h1.2 h,h2⟩
theorem zgO(a b c a' b' c':Int)(w:World):(Op.equalIn 10000 91 (.agg #[a,b,c]) (.agg #[a',b',c'])).run prog w=.ok (a==a'&&(b==b'&&c==c')) w:=by
 have u3:=zrn;have a3:=zsc;have z3:=zr4;rw[show (10000:Nat)=9999+1 from rfl,Op.equalIn];simp only[zuG,ztw underlying91,zuu];simp only[zsC,Std.Legacy.Range.size,zuH,zsR,Nat.div_one,zuP,ztQ,zu4,zvr]
 by_cases h1:a=a'
 ·by_cases h2:b=b'
  ·by_cases h3:c=c'
   ·subst h1 h2 h3;go_simp
   ·have e3:(c==c')=false:=by simpa using h3
    subst h1 h2;go_simp
  ·have e2:(b==b')=false:=by simpa using h2
   subst h1;go_simp
 ·have e1:(a==a')=false:=by simpa using h1
  go_simp
theorem zgL(k:Int)(n o:ByteArray)(a b c:Int)(ra:Option Addr)(rn rc:Nat)(w:World)(hk:¬(1<=k/\k<=4)) :
  ZX w (1) #[k,n,a,b,c,o,.slice ra rn rc]:=by
 obtain⟨W0,q,k0,p⟩:=xZ w #[k,n,a,b,c,o,.slice ra rn rc];go_enter zsO,zsE;go_upto_region 1 with fail;clear q;obtain⟨y,C,J,K,M,R,U⟩:=xP k0;have HB:=zH p;clear k0 p;have j:Hid (zC 125 #[k,(1:Int),(4:Int)] W0 fun e w'=>e=.returned false/\W0=w'):=(zX k 1 4 W0).mono fun e w' ⟨h1,h2⟩=>⟨by rw[h1,zf5 hk],h2⟩;clear hk;go_wp2_with fail;refine j.out.mono ?_;rintro e w1 ⟨rfl,u⟩;subst u;clear j;go_wp2;go_ret;exact⟨rfl,HB.out⟩
theorem znf(n o:ByteArray)(a b c:Int)(ra:Option Addr)(rn rc:Nat)(w:World)(hn:¬zr n) :
  ZX w (5) #[(1:Int),n,a,b,c,o,.slice ra rn rc]:=by
 obtain⟨W0,u,k0,q⟩:=xZ w #[(1:Int),n,a,b,c,o,.slice ra rn rc];go_enter zsO,zsE;go_upto_region 1 with fail;clear u;obtain⟨y,C,J,K,M,R,U⟩:=xP k0;have HB:=zH q;clear k0 q;have p:Hid (zC 125 #[(1:Int),(1:Int),(4:Int)] W0 fun e w'=>e=.returned true/\W0=w'):=(zX 1 1 4 W0).mono fun e w' ⟨h1,h2⟩=>⟨by rw[h1];rfl,h2⟩;go_wp2_with fail;refine p.out.mono ?_;rintro e w1 ⟨rfl,j⟩;subst j;clear p;go_wp2_with fail;refine(Xo n W0 hn).mono ?_;rintro e w1 ⟨rfl,j⟩;subst j;go_wp2;go_ret;exact⟨rfl,HB.out⟩
theorem zg8(n o:ByteArray)(a b c:Int)(ra:Option Addr)(rn rc:Nat)(w:World)(hn:¬zr n) :
  ZX w (5) #[(2:Int),n,a,b,c,o,.slice ra rn rc]:=by
 obtain⟨W0,u,k0,q⟩:=xZ w #[(2:Int),n,a,b,c,o,.slice ra rn rc];go_enter zsO,zsE;go_upto_region 1 with fail;clear u;obtain⟨y,C,J,K,M,R,U⟩:=xP k0;have HB:=zH q;clear k0 q;have p:Hid (zC 125 #[(2:Int),(1:Int),(4:Int)] W0 fun e w'=>e=.returned true/\W0=w'):=(zX 2 1 4 W0).mono fun e w' ⟨h1,h2⟩=>⟨by rw[h1];rfl,h2⟩;go_wp2_with fail;refine p.out.mono ?_;rintro e w1 ⟨rfl,j⟩;subst j;clear p;go_wp2_with fail;refine(Xo n W0 hn).mono ?_;rintro e w1 ⟨rfl,j⟩;subst j;go_wp2;go_ret;exact⟨rfl,HB.out⟩
theorem zhF(n o:ByteArray)(a b c:Int)(ra:Option Addr)(rn rc:Nat)(w:World)(hn:¬zr n) :
  ZX w (5) #[(3:Int),n,a,b,c,o,.slice ra rn rc]:=by
 obtain⟨W0,u,k0,q⟩:=xZ w #[(3:Int),n,a,b,c,o,.slice ra rn rc];go_enter zsO,zsE;go_upto_region 1 with fail;clear u;obtain⟨y,C,J,K,M,R,U⟩:=xP k0;have HB:=zH q;clear k0 q;have p:Hid (zC 125 #[(3:Int),(1:Int),(4:Int)] W0 fun e w'=>e=.returned true/\W0=w'):=(zX 3 1 4 W0).mono fun e w' ⟨h1,h2⟩=>⟨by rw[h1];rfl,h2⟩;go_wp2_with fail;refine p.out.mono ?_;rintro e w1 ⟨rfl,j⟩;subst j;clear p;go_wp2_with fail;refine(Xo n W0 hn).mono ?_;rintro e w1 ⟨rfl,j⟩;subst j;go_wp2;go_ret;exact⟨rfl,HB.out⟩
theorem zlR(n o:ByteArray)(a b c:Int)(ra:Option Addr)(rn rc:Nat)(w:World)(hn:¬zr n) :
  ZX w (5) #[(4:Int),n,a,b,c,o,.slice ra rn rc]:=by
 obtain⟨W0,u,k0,q⟩:=xZ w #[(4:Int),n,a,b,c,o,.slice ra rn rc];go_enter zsO,zsE;go_upto_region 1 with fail;clear u;obtain⟨y,C,J,K,M,R,U⟩:=xP k0;have HB:=zH q;clear k0 q;have p:Hid (zC 125 #[(4:Int),(1:Int),(4:Int)] W0 fun e w'=>e=.returned true/\W0=w'):=(zX 4 1 4 W0).mono fun e w' ⟨h1,h2⟩=>⟨by rw[h1];rfl,h2⟩;go_wp2_with fail;refine p.out.mono ?_;rintro e w1 ⟨rfl,j⟩;subst j;clear p;go_wp2_with fail;refine(Xo n W0 hn).mono ?_;rintro e w1 ⟨rfl,j⟩;subst j;go_wp2;go_ret;exact⟨rfl,HB.out⟩
theorem zjV(n o:ByteArray)(a b c:Int)(ra:Option Addr)(rn rc:Nat)(w:World)(hn:zr n)(ho:¬zr o) :
  ZX w (5) #[(2:Int),n,a,b,c,o,.slice ra rn rc]:=by
 obtain⟨W0,u,k0,q⟩:=xZ w #[(2:Int),n,a,b,c,o,.slice ra rn rc];go_enter zsO,zsE;go_upto_region 1 with fail;clear u;obtain⟨y,C,J,K,M,R,U⟩:=xP k0;have HB:=zH q;clear k0 q;have p:Hid (zC 125 #[(2:Int),(1:Int),(4:Int)] W0 fun e w'=>e=.returned true/\W0=w'):=(zX 2 1 4 W0).mono fun e w' ⟨h1,h2⟩=>⟨by rw[h1];rfl,h2⟩;go_wp2_with fail;refine p.out.mono ?_;rintro e w1 ⟨rfl,j⟩;subst j;clear p;go_wp2_with fail;refine(ZL n W0 hn).mono ?_;rintro e w1 ⟨rfl,j⟩;subst j;go_wp2_with fail;refine(Xo o W0 ho).mono ?_;rintro e w1 ⟨rfl,j⟩;subst j;go_wp2;go_ret;exact⟨rfl,HB.out⟩
theorem zlX(n o:ByteArray)(a b c:Int)(ra:Option Addr)(rn rc:Nat)(w:World)(hn:zr n)(ho:zr o) :
  zR 77 #[.agg #[(2:Int),n,a,b,c,o,.slice ra rn rc]] w (.int .i64 (if InV a b c then 0 else 2)):=by
 obtain⟨W0,C,k0,y⟩:=xZ w #[(2:Int),n,a,b,c,o,.slice ra rn rc];obtain⟨Z,hZ⟩:∃Z:Int,(if InV a b c then (0:Int) else 2)=Z:=⟨_,rfl⟩;rw[hZ];have HZ:=zH hZ;clear hZ;go_enter zsO,zsE;go_upto_region 1 with fail;clear C;obtain⟨J,K,M,R,U,V,X⟩:=xP k0;have HB:=zH y;clear k0 y;have u:Hid (zC 125 #[(2:Int),(1:Int),(4:Int)] W0 fun e w'=>e=.returned true/\W0=w'):=(zX 2 1 4 W0).mono fun e w' ⟨h1,h2⟩=>⟨by rw[h1];rfl,h2⟩;go_wp2_with fail;refine u.out.mono ?_;rintro e w1 ⟨rfl,p⟩;subst p;clear u;go_wp2_with fail;refine(ZL n W0 hn).mono ?_;rintro e w1 ⟨rfl,p⟩;subst p;go_wp2_with fail;refine(ZL o W0 ho).mono ?_;rintro e w1 ⟨rfl,p⟩;subst p;go_wp2_with fail;go_loopw [62] (fun kV wz=>wz=W0/\∃k:Int,kV=.int .i64 k/\(k=0\/(k=1/\0<=a/\a<=999)\/(k=2/\(0<=a/\a<=999)/\0<=b/\b<=999)\/(k=3/\(0<=a/\a<=999)/\(0<=b/\b<=999)/\0<=c/\c<=999))) (fun kV _=>3-(intOf kV).toNat)
 case atStart=>exact⟨rfl,0,rfl,Or.inl rfl⟩
 case round =>
  obtain⟨rfl,k,rfl,hk⟩:=hrel;rcases hk with rfl|⟨rfl,h1⟩|⟨rfl,h1,h2⟩|⟨rfl,h1,h2,h3⟩
  ·have q:=XL a b c wr;go_wp2_with fail;clear q
   by_cases hv:0<=a/\a<=999
   ·have j:Hid (zC 125 #[a,(0:Int),(999:Int)] wr fun e w'=>e=.returned true/\wr=w'):=(zX a 0 999 wr).mono fun e w' ⟨h1,h2⟩=>⟨by rw[h1,zq9 hv],h2⟩;have HV:=zH hv;clear hv;refine j.out.mono ?_;rintro e w1 ⟨rfl,p⟩;subst p;clear j;go_wp2;go_roundw
    case rel=>exact⟨trivial,1,by go_num,Or.inr (Or.inl ⟨rfl,HV.out⟩)⟩
    case measure=>simp[intOf]
   ·have j:Hid (zC 125 #[a,(0:Int),(999:Int)] wr fun e w'=>e=.returned false/\wr=w'):=(zX a 0 999 wr).mono fun e w' ⟨h1,h2⟩=>⟨by rw[h1,zf5 hv],h2⟩;have HC:Hid (Z=2):=by show _=_;rw[<-HZ.out];exact zc2 (fun h=>hv h.1)
    clear hv HZ;refine j.out.mono ?_;rintro e w1 ⟨rfl,p⟩;subst p;clear j;go_wp2;go_ret;exact⟨by rw[HC.out];rfl,HB.out⟩
  ·have q:=Xz a b c wr;go_wp2_with fail;clear q
   by_cases hv:0<=b/\b<=999
   ·have j:Hid (zC 125 #[b,(0:Int),(999:Int)] wr fun e w'=>e=.returned true/\wr=w'):=(zX b 0 999 wr).mono fun e w' ⟨h1,h2⟩=>⟨by rw[h1,zq9 hv],h2⟩;have HV:=zH hv;clear hv;refine j.out.mono ?_;rintro e w1 ⟨rfl,p⟩;subst p;clear j;go_wp2;go_roundw
    case rel=>exact⟨trivial,2,by go_num,Or.inr (Or.inr (Or.inl ⟨rfl,h1,HV.out⟩))⟩
    case measure=>simp[intOf]
   ·have j:Hid (zC 125 #[b,(0:Int),(999:Int)] wr fun e w'=>e=.returned false/\wr=w'):=(zX b 0 999 wr).mono fun e w' ⟨h1,h2⟩=>⟨by rw[h1,zf5 hv],h2⟩;have HC:Hid (Z=2):=by show _=_;rw[<-HZ.out];exact zc2 (fun h=>hv h.2.1)
    clear hv HZ;refine j.out.mono ?_;rintro e w1 ⟨rfl,p⟩;subst p;clear j;go_wp2;go_ret;exact⟨by rw[HC.out];rfl,HB.out⟩
  ·have q:=Kc a b c wr;go_wp2_with fail;clear q
   by_cases hv:0<=c/\c<=999
   ·have j:Hid (zC 125 #[c,(0:Int),(999:Int)] wr fun e w'=>e=.returned true/\wr=w'):=(zX c 0 999 wr).mono fun e w' ⟨h1,h2⟩=>⟨by rw[h1,zq9 hv],h2⟩;have HV:=zH hv;clear hv;refine j.out.mono ?_;rintro e w1 ⟨rfl,p⟩;subst p;clear j;go_wp2;go_roundw
    case rel=>exact⟨trivial,3,by go_num,Or.inr (Or.inr (Or.inr ⟨rfl,h1,h2,HV.out⟩))⟩
    case measure=>simp[intOf]
   ·have j:Hid (zC 125 #[c,(0:Int),(999:Int)] wr fun e w'=>e=.returned false/\wr=w'):=(zX c 0 999 wr).mono fun e w' ⟨h1,h2⟩=>⟨by rw[h1,zf5 hv],h2⟩;have HC:Hid (Z=2):=by show _=_;rw[<-HZ.out];exact zc2 (fun h=>hv h.2.2)
    clear hv HZ;refine j.out.mono ?_;rintro e w1 ⟨rfl,p⟩;subst p;clear j;go_wp2;go_ret;exact⟨by rw[HC.out];rfl,HB.out⟩
  ·have HC:Hid (Z=0):=by show _=_;rw[<-HZ.out];exact zc3 ⟨h1,h2,h3⟩
   clear HZ h1 h2 h3;go_wp2;go_ret;exact⟨by rw[HC.out];rfl,HB.out⟩
theorem znP(n o:ByteArray)(a b c:Int)(ra:Option Addr)(rn rc:Nat)(w:World)(hn:zr n)(ho:¬zr o) :
  ZX w (5) #[(3:Int),n,a,b,c,o,.slice ra rn rc]:=by
 obtain⟨W0,u,k0,q⟩:=xZ w #[(3:Int),n,a,b,c,o,.slice ra rn rc];go_enter zsO,zsE;go_upto_region 1 with fail;clear u;obtain⟨y,C,J,K,M,R,U⟩:=xP k0;have HB:=zH q;clear k0 q;have p:Hid (zC 125 #[(3:Int),(1:Int),(4:Int)] W0 fun e w'=>e=.returned true/\W0=w'):=(zX 3 1 4 W0).mono fun e w' ⟨h1,h2⟩=>⟨by rw[h1];rfl,h2⟩;go_wp2_with fail;refine p.out.mono ?_;rintro e w1 ⟨rfl,j⟩;subst j;clear p;go_wp2_with fail;refine(ZL n W0 hn).mono ?_;rintro e w1 ⟨rfl,j⟩;subst j;go_wp2_with fail;refine(Xo o W0 ho).mono ?_;rintro e w1 ⟨rfl,j⟩;subst j;go_wp2;go_ret;exact⟨rfl,HB.out⟩
theorem ziG(n o:ByteArray)(a b c:Int)(ra:Option Addr)(rn rc:Nat)(w:World)(hn:zr n)(ho:zr o) :
  zR 77 #[.agg #[(3:Int),n,a,b,c,o,.slice ra rn rc]] w (.int .i64 (if InV a b c then 0 else 2)):=by
 obtain⟨W0,C,k0,y⟩:=xZ w #[(3:Int),n,a,b,c,o,.slice ra rn rc];obtain⟨Z,hZ⟩:∃Z:Int,(if InV a b c then (0:Int) else 2)=Z:=⟨_,rfl⟩;rw[hZ];have HZ:=zH hZ;clear hZ;go_enter zsO,zsE;go_upto_region 1 with fail;clear C;obtain⟨J,K,M,R,U,V,X⟩:=xP k0;have HB:=zH y;clear k0 y;have u:Hid (zC 125 #[(3:Int),(1:Int),(4:Int)] W0 fun e w'=>e=.returned true/\W0=w'):=(zX 3 1 4 W0).mono fun e w' ⟨h1,h2⟩=>⟨by rw[h1];rfl,h2⟩;go_wp2_with fail;refine u.out.mono ?_;rintro e w1 ⟨rfl,p⟩;subst p;clear u;go_wp2_with fail;refine(ZL n W0 hn).mono ?_;rintro e w1 ⟨rfl,p⟩;subst p;go_wp2_with fail;refine(ZL o W0 ho).mono ?_;rintro e w1 ⟨rfl,p⟩;subst p;go_wp2_with fail;go_loopw [62] (fun kV wz=>wz=W0/\∃k:Int,kV=.int .i64 k/\(k=0\/(k=1/\0<=a/\a<=999)\/(k=2/\(0<=a/\a<=999)/\0<=b/\b<=999)\/(k=3/\(0<=a/\a<=999)/\(0<=b/\b<=999)/\0<=c/\c<=999))) (fun kV _=>3-(intOf kV).toNat)
 case atStart=>exact⟨rfl,0,rfl,Or.inl rfl⟩
 case round =>
  obtain⟨rfl,k,rfl,hk⟩:=hrel;rcases hk with rfl|⟨rfl,h1⟩|⟨rfl,h1,h2⟩|⟨rfl,h1,h2,h3⟩
  ·have q:=XL a b c wr;go_wp2_with fail;clear q
   by_cases hv:0<=a/\a<=999
   ·have j:Hid (zC 125 #[a,(0:Int),(999:Int)] wr fun e w'=>e=.returned true/\wr=w'):=(zX a 0 999 wr).mono fun e w' ⟨h1,h2⟩=>⟨by rw[h1,zq9 hv],h2⟩;have HV:=zH hv;clear hv;refine j.out.mono ?_;rintro e w1 ⟨rfl,p⟩;subst p;clear j;go_wp2;go_roundw
    case rel=>exact⟨trivial,1,by go_num,Or.inr (Or.inl ⟨rfl,HV.out⟩)⟩
    case measure=>simp[intOf]
   ·have j:Hid (zC 125 #[a,(0:Int),(999:Int)] wr fun e w'=>e=.returned false/\wr=w'):=(zX a 0 999 wr).mono fun e w' ⟨h1,h2⟩=>⟨by rw[h1,zf5 hv],h2⟩;have HC:Hid (Z=2):=by show _=_;rw[<-HZ.out];exact zc2 (fun h=>hv h.1)
    clear hv HZ;refine j.out.mono ?_;rintro e w1 ⟨rfl,p⟩;subst p;clear j;go_wp2;go_ret;exact⟨by rw[HC.out];rfl,HB.out⟩
  ·have q:=Xz a b c wr;go_wp2_with fail;clear q
   by_cases hv:0<=b/\b<=999
   ·have j:Hid (zC 125 #[b,(0:Int),(999:Int)] wr fun e w'=>e=.returned true/\wr=w'):=(zX b 0 999 wr).mono fun e w' ⟨h1,h2⟩=>⟨by rw[h1,zq9 hv],h2⟩;have HV:=zH hv;clear hv;refine j.out.mono ?_;rintro e w1 ⟨rfl,p⟩;subst p;clear j;go_wp2;go_roundw
    case rel=>exact⟨trivial,2,by go_num,Or.inr (Or.inr (Or.inl ⟨rfl,h1,HV.out⟩))⟩
    case measure=>simp[intOf]
   ·have j:Hid (zC 125 #[b,(0:Int),(999:Int)] wr fun e w'=>e=.returned false/\wr=w'):=(zX b 0 999 wr).mono fun e w' ⟨h1,h2⟩=>⟨by rw[h1,zf5 hv],h2⟩;have HC:Hid (Z=2):=by show _=_;rw[<-HZ.out];exact zc2 (fun h=>hv h.2.1)
    clear hv HZ;refine j.out.mono ?_;rintro e w1 ⟨rfl,p⟩;subst p;clear j;go_wp2;go_ret;exact⟨by rw[HC.out];rfl,HB.out⟩
  ·have q:=Kc a b c wr;go_wp2_with fail;clear q
   by_cases hv:0<=c/\c<=999
   ·have j:Hid (zC 125 #[c,(0:Int),(999:Int)] wr fun e w'=>e=.returned true/\wr=w'):=(zX c 0 999 wr).mono fun e w' ⟨h1,h2⟩=>⟨by rw[h1,zq9 hv],h2⟩;have HV:=zH hv;clear hv;refine j.out.mono ?_;rintro e w1 ⟨rfl,p⟩;subst p;clear j;go_wp2;go_roundw
    case rel=>exact⟨trivial,3,by go_num,Or.inr (Or.inr (Or.inr ⟨rfl,h1,h2,HV.out⟩))⟩
    case measure=>simp[intOf]
   ·have j:Hid (zC 125 #[c,(0:Int),(999:Int)] wr fun e w'=>e=.returned false/\wr=w'):=(zX c 0 999 wr).mono fun e w' ⟨h1,h2⟩=>⟨by rw[h1,zf5 hv],h2⟩;have HC:Hid (Z=2):=by show _=_;rw[<-HZ.out];exact zc2 (fun h=>hv h.2.2)
    clear hv HZ;refine j.out.mono ?_;rintro e w1 ⟨rfl,p⟩;subst p;clear j;go_wp2;go_ret;exact⟨by rw[HC.out];rfl,HB.out⟩
  ·have HC:Hid (Z=0):=by show _=_;rw[<-HZ.out];exact zc3 ⟨h1,h2,h3⟩
   clear HZ h1 h2 h3;go_wp2;go_ret;exact⟨by rw[HC.out];rfl,HB.out⟩
theorem znq(n o:ByteArray)(a b c:Int)(ra:Option Addr)(rn rc:Nat)(w:World)(hn:zr n)(ho:0<o.size) :
  ZX w (1) #[(1:Int),n,a,b,c,o,.slice ra rn rc]:=by
 obtain⟨W0,y,k0,q⟩:=xZ w #[(1:Int),n,a,b,c,o,.slice ra rn rc];go_enter zsO,zsE;go_upto_region 1 with fail;clear y;obtain⟨J,K,M,R,U,V,X⟩:=xP k0;have HB:=zH q;clear k0 q;have p:Hid (zC 125 #[(1:Int),(1:Int),(4:Int)] W0 fun e w'=>e=.returned true/\W0=w'):=(zX 1 1 4 W0).mono fun e w' ⟨h1,h2⟩=>⟨by rw[h1];rfl,h2⟩;go_wp2_with fail;refine p.out.mono ?_;rintro e w1 ⟨rfl,j⟩;subst j;clear p;go_wp2_with fail;refine(ZL n W0 hn).mono ?_;rintro e w1 ⟨rfl,j⟩;subst j;have u:o.toList.isEmpty=false:=Qr ho;have C:(o.toList==[])=false:=by rw[zf2];intro h;rw[h] at u;cases u
 go_wp2;go_ret;exact⟨rfl,HB.out⟩
theorem zn0(n o:ByteArray)(a b c:Int)(ra:Option Addr)(rn rc:Nat)(w:World)(hn:zr n)(ho:0<o.size) :
  ZX w (1) #[(4:Int),n,a,b,c,o,.slice ra rn rc]:=by
 obtain⟨W0,y,k0,q⟩:=xZ w #[(4:Int),n,a,b,c,o,.slice ra rn rc];go_enter zsO,zsE;go_upto_region 1 with fail;clear y;obtain⟨J,K,M,R,U,V,X⟩:=xP k0;have HB:=zH q;clear k0 q;have p:Hid (zC 125 #[(4:Int),(1:Int),(4:Int)] W0 fun e w'=>e=.returned true/\W0=w'):=(zX 4 1 4 W0).mono fun e w' ⟨h1,h2⟩=>⟨by rw[h1];rfl,h2⟩;go_wp2_with fail;refine p.out.mono ?_;rintro e w1 ⟨rfl,j⟩;subst j;clear p;go_wp2_with fail;refine(ZL n W0 hn).mono ?_;rintro e w1 ⟨rfl,j⟩;subst j;have u:o.toList.isEmpty=false:=Qr ho;have C:(o.toList==[])=false:=by rw[zf2];intro h;rw[h] at u;cases u
 go_wp2;go_ret;exact⟨rfl,HB.out⟩
theorem zmE(n:ByteArray)(a b c:Int)(ra:Option Addr)(rn rc:Nat)(w:World)(hn:zr n)(hr:0<rn) :
  ZX w (1) #[(1:Int),n,a,b,c,.string ⟨#[]⟩,.slice ra rn rc]:=by
 obtain⟨W0,q,k0,p⟩:=xZ w #[(1:Int),n,a,b,c,.string ⟨#[]⟩,.slice ra rn rc];go_enter zsO,zsE;go_upto_region 1 with fail;clear q;obtain⟨y,C,J,K,M,R,U⟩:=xP k0;have HB:=zH p;clear k0 p;have o:Hid (zC 125 #[(1:Int),(1:Int),(4:Int)] W0 fun e w'=>e=.returned true/\W0=w'):=(zX 1 1 4 W0).mono fun e w' ⟨h1,h2⟩=>⟨by rw[h1];rfl,h2⟩;go_wp2_with fail;refine o.out.mono ?_;rintro e w1 ⟨rfl,j⟩;subst j;clear o;go_wp2_with fail;refine(ZL n W0 hn).mono ?_;rintro e w1 ⟨rfl,j⟩;subst j;have u:(0:Int)<(rn:Int):=by omega
 go_wp2;go_ret;exact⟨rfl,HB.out⟩
theorem zmm(n:ByteArray)(a b c:Int)(ra:Option Addr)(rc:Nat)(w:World)(hn:zr n) :
  zR 77 #[.agg #[(1:Int),n,a,b,c,.string ⟨#[]⟩,.slice ra 0 rc]] w (.int .i64 (if InV a b c then 0 else 2)):=by
 obtain⟨W0,y,k0,u⟩:=xZ w #[(1:Int),n,a,b,c,.string ⟨#[]⟩,.slice ra 0 rc];obtain⟨Z,hZ⟩:∃Z:Int,(if InV a b c then (0:Int) else 2)=Z:=⟨_,rfl⟩;rw[hZ];have HZ:=zH hZ;clear hZ;go_enter zsO,zsE;go_upto_region 1 with fail;clear y;obtain⟨C,J,K,M,R,U,V⟩:=xP k0;have HB:=zH u;clear k0 u;have q:Hid (zC 125 #[(1:Int),(1:Int),(4:Int)] W0 fun e w'=>e=.returned true/\W0=w'):=(zX 1 1 4 W0).mono fun e w' ⟨h1,h2⟩=>⟨by rw[h1];rfl,h2⟩;go_wp2_with fail;refine q.out.mono ?_;rintro e w1 ⟨rfl,o⟩;subst o;clear q;go_wp2_with fail;refine(ZL n W0 hn).mono ?_;rintro e w1 ⟨rfl,o⟩;subst o;go_wp2_with fail;go_loopw [62] (fun kV wz=>wz=W0/\∃k:Int,kV=.int .i64 k/\(k=0\/(k=1/\0<=a/\a<=999)\/(k=2/\(0<=a/\a<=999)/\0<=b/\b<=999)\/(k=3/\(0<=a/\a<=999)/\(0<=b/\b<=999)/\0<=c/\c<=999))) (fun kV _=>3-(intOf kV).toNat)
 case atStart=>exact⟨rfl,0,rfl,Or.inl rfl⟩
 case round =>
  obtain⟨rfl,k,rfl,hk⟩:=hrel;rcases hk with rfl|⟨rfl,h1⟩|⟨rfl,h1,h2⟩|⟨rfl,h1,h2,h3⟩
  ·have p:=XL a b c wr;go_wp2_with fail;clear p
   by_cases hv:0<=a/\a<=999
   ·have j:Hid (zC 125 #[a,(0:Int),(999:Int)] wr fun e w'=>e=.returned true/\wr=w'):=(zX a 0 999 wr).mono fun e w' ⟨h1,h2⟩=>⟨by rw[h1,zq9 hv],h2⟩;have HV:=zH hv;clear hv;refine j.out.mono ?_;rintro e w1 ⟨rfl,o⟩;subst o;clear j;go_wp2;go_roundw
    case rel=>exact⟨trivial,1,by go_num,Or.inr (Or.inl ⟨rfl,HV.out⟩)⟩
    case measure=>simp[intOf]
   ·have j:Hid (zC 125 #[a,(0:Int),(999:Int)] wr fun e w'=>e=.returned false/\wr=w'):=(zX a 0 999 wr).mono fun e w' ⟨h1,h2⟩=>⟨by rw[h1,zf5 hv],h2⟩;have HC:Hid (Z=2):=by show _=_;rw[<-HZ.out];exact zc2 (fun h=>hv h.1)
    clear hv HZ;refine j.out.mono ?_;rintro e w1 ⟨rfl,o⟩;subst o;clear j;go_wp2;go_ret;exact⟨by rw[HC.out];rfl,HB.out⟩
  ·have p:=Xz a b c wr;go_wp2_with fail;clear p
   by_cases hv:0<=b/\b<=999
   ·have j:Hid (zC 125 #[b,(0:Int),(999:Int)] wr fun e w'=>e=.returned true/\wr=w'):=(zX b 0 999 wr).mono fun e w' ⟨h1,h2⟩=>⟨by rw[h1,zq9 hv],h2⟩;have HV:=zH hv;clear hv;refine j.out.mono ?_;rintro e w1 ⟨rfl,o⟩;subst o;clear j;go_wp2;go_roundw
    case rel=>exact⟨trivial,2,by go_num,Or.inr (Or.inr (Or.inl ⟨rfl,h1,HV.out⟩))⟩
    case measure=>simp[intOf]
   ·have j:Hid (zC 125 #[b,(0:Int),(999:Int)] wr fun e w'=>e=.returned false/\wr=w'):=(zX b 0 999 wr).mono fun e w' ⟨h1,h2⟩=>⟨by rw[h1,zf5 hv],h2⟩;have HC:Hid (Z=2):=by show _=_;rw[<-HZ.out];exact zc2 (fun h=>hv h.2.1)
    clear hv HZ;refine j.out.mono ?_;rintro e w1 ⟨rfl,o⟩;subst o;clear j;go_wp2;go_ret;exact⟨by rw[HC.out];rfl,HB.out⟩
  ·have p:=Kc a b c wr;go_wp2_with fail;clear p
   by_cases hv:0<=c/\c<=999
   ·have j:Hid (zC 125 #[c,(0:Int),(999:Int)] wr fun e w'=>e=.returned true/\wr=w'):=(zX c 0 999 wr).mono fun e w' ⟨h1,h2⟩=>⟨by rw[h1,zq9 hv],h2⟩;have HV:=zH hv;clear hv;refine j.out.mono ?_;rintro e w1 ⟨rfl,o⟩;subst o;clear j;go_wp2;go_roundw
    case rel=>exact⟨trivial,3,by go_num,Or.inr (Or.inr (Or.inr ⟨rfl,h1,h2,HV.out⟩))⟩
    case measure=>simp[intOf]
   ·have j:Hid (zC 125 #[c,(0:Int),(999:Int)] wr fun e w'=>e=.returned false/\wr=w'):=(zX c 0 999 wr).mono fun e w' ⟨h1,h2⟩=>⟨by rw[h1,zf5 hv],h2⟩;have HC:Hid (Z=2):=by show _=_;rw[<-HZ.out];exact zc2 (fun h=>hv h.2.2)
    clear hv HZ;refine j.out.mono ?_;rintro e w1 ⟨rfl,o⟩;subst o;clear j;go_wp2;go_ret;exact⟨by rw[HC.out];rfl,HB.out⟩
  ·have HC:Hid (Z=0):=by show _=_;rw[<-HZ.out];exact zc3 ⟨h1,h2,h3⟩
   clear HZ h1 h2 h3;go_wp2;go_ret;exact⟨by rw[HC.out];rfl,HB.out⟩
theorem zih(n:ByteArray)(a b c:Int)(ra:Option Addr)(rn rc:Nat)(w:World)(hn:zr n)(hz:(a==0&&(b==0&&c==0))=false) :
  ZX w (1) #[(4:Int),n,a,b,c,.string ⟨#[]⟩,.slice ra rn rc]:=by
 obtain⟨W0,q,k0,p⟩:=xZ w #[(4:Int),n,a,b,c,.string ⟨#[]⟩,.slice ra rn rc];go_enter zsO,zsE;go_upto_region 1 with fail;clear q;obtain⟨u,y,C,J,K,M,R⟩:=xP k0;have HB:=zH p;clear k0 p;have o:Hid (zC 125 #[(4:Int),(1:Int),(4:Int)] W0 fun e w'=>e=.returned true/\W0=w'):=(zX 4 1 4 W0).mono fun e w' ⟨h1,h2⟩=>⟨by rw[h1];rfl,h2⟩;go_wp2_with fail;refine o.out.mono ?_;rintro e w1 ⟨rfl,j⟩;subst j;clear o;go_wp2_with fail;refine(ZL n W0 hn).mono ?_;rintro e w1 ⟨rfl,j⟩;subst j;have h3:=zgO a b c 0 0 0;rw[hz] at h3;go_wp2;go_ret;exact⟨rfl,HB.out⟩
theorem zqF(n:ByteArray)(a b c:Int)(ra:Option Addr)(rn rc:Nat)(w:World)(hn:zr n)(hz:(a==0&&(b==0&&c==0))=true) :
  zR 77 #[.agg #[(4:Int),n,a,b,c,.string ⟨#[]⟩,.slice ra rn rc]] w (.int .i64 (if InV a b c then 0 else 2)):=by
 obtain⟨W0,y,k0,u⟩:=xZ w #[(4:Int),n,a,b,c,.string ⟨#[]⟩,.slice ra rn rc];obtain⟨Z,hZ⟩:∃Z:Int,(if InV a b c then (0:Int) else 2)=Z:=⟨_,rfl⟩;rw[hZ];have HZ:=zH hZ;clear hZ;go_enter zsO,zsE;go_upto_region 1 with fail;clear y;obtain⟨C,J,K,M,R,U,V⟩:=xP k0;have HB:=zH u;clear k0 u;have q:Hid (zC 125 #[(4:Int),(1:Int),(4:Int)] W0 fun e w'=>e=.returned true/\W0=w'):=(zX 4 1 4 W0).mono fun e w' ⟨h1,h2⟩=>⟨by rw[h1];rfl,h2⟩;go_wp2_with fail;refine q.out.mono ?_;rintro e w1 ⟨rfl,o⟩;subst o;clear q;go_wp2_with fail;refine(ZL n W0 hn).mono ?_;rintro e w1 ⟨rfl,o⟩;subst o;have h3:=zgO a b c 0 0 0;rw[hz] at h3;go_wp2_with fail;clear h3;go_loopw [62] (fun kV wz=>wz=W0/\∃k:Int,kV=.int .i64 k/\(k=0\/(k=1/\0<=a/\a<=999)\/(k=2/\(0<=a/\a<=999)/\0<=b/\b<=999)\/(k=3/\(0<=a/\a<=999)/\(0<=b/\b<=999)/\0<=c/\c<=999))) (fun kV _=>3-(intOf kV).toNat)
 case atStart=>exact⟨rfl,0,rfl,Or.inl rfl⟩
 case round =>
  obtain⟨rfl,k,rfl,hk⟩:=hrel;rcases hk with rfl|⟨rfl,h1⟩|⟨rfl,h1,h2⟩|⟨rfl,h1,h2,h3⟩
  ·have p:=XL a b c wr;go_wp2_with fail;clear p
   by_cases hv:0<=a/\a<=999
   ·have j:Hid (zC 125 #[a,(0:Int),(999:Int)] wr fun e w'=>e=.returned true/\wr=w'):=(zX a 0 999 wr).mono fun e w' ⟨h1,h2⟩=>⟨by rw[h1,zq9 hv],h2⟩;have HV:=zH hv;clear hv;refine j.out.mono ?_;rintro e w1 ⟨rfl,o⟩;subst o;clear j;go_wp2;go_roundw
    case rel=>exact⟨trivial,1,by go_num,Or.inr (Or.inl ⟨rfl,HV.out⟩)⟩
    case measure=>simp[intOf]
   ·have j:Hid (zC 125 #[a,(0:Int),(999:Int)] wr fun e w'=>e=.returned false/\wr=w'):=(zX a 0 999 wr).mono fun e w' ⟨h1,h2⟩=>⟨by rw[h1,zf5 hv],h2⟩;have HC:Hid (Z=2):=by show _=_;rw[<-HZ.out];exact zc2 (fun h=>hv h.1)
    clear hv HZ;refine j.out.mono ?_;rintro e w1 ⟨rfl,o⟩;subst o;clear j;go_wp2;go_ret;exact⟨by rw[HC.out];rfl,HB.out⟩
  ·have p:=Xz a b c wr;go_wp2_with fail;clear p
   by_cases hv:0<=b/\b<=999
   ·have j:Hid (zC 125 #[b,(0:Int),(999:Int)] wr fun e w'=>e=.returned true/\wr=w'):=(zX b 0 999 wr).mono fun e w' ⟨h1,h2⟩=>⟨by rw[h1,zq9 hv],h2⟩;have HV:=zH hv;clear hv;refine j.out.mono ?_;rintro e w1 ⟨rfl,o⟩;subst o;clear j;go_wp2;go_roundw
    case rel=>exact⟨trivial,2,by go_num,Or.inr (Or.inr (Or.inl ⟨rfl,h1,HV.out⟩))⟩
    case measure=>simp[intOf]
   ·have j:Hid (zC 125 #[b,(0:Int),(999:Int)] wr fun e w'=>e=.returned false/\wr=w'):=(zX b 0 999 wr).mono fun e w' ⟨h1,h2⟩=>⟨by rw[h1,zf5 hv],h2⟩;have HC:Hid (Z=2):=by show _=_;rw[<-HZ.out];exact zc2 (fun h=>hv h.2.1)
    clear hv HZ;refine j.out.mono ?_;rintro e w1 ⟨rfl,o⟩;subst o;clear j;go_wp2;go_ret;exact⟨by rw[HC.out];rfl,HB.out⟩
  ·have p:=Kc a b c wr;go_wp2_with fail;clear p
   by_cases hv:0<=c/\c<=999
   ·have j:Hid (zC 125 #[c,(0:Int),(999:Int)] wr fun e w'=>e=.returned true/\wr=w'):=(zX c 0 999 wr).mono fun e w' ⟨h1,h2⟩=>⟨by rw[h1,zq9 hv],h2⟩;have HV:=zH hv;clear hv;refine j.out.mono ?_;rintro e w1 ⟨rfl,o⟩;subst o;clear j;go_wp2;go_roundw
    case rel=>exact⟨trivial,3,by go_num,Or.inr (Or.inr (Or.inr ⟨rfl,h1,h2,HV.out⟩))⟩
    case measure=>simp[intOf]
   ·have j:Hid (zC 125 #[c,(0:Int),(999:Int)] wr fun e w'=>e=.returned false/\wr=w'):=(zX c 0 999 wr).mono fun e w' ⟨h1,h2⟩=>⟨by rw[h1,zf5 hv],h2⟩;have HC:Hid (Z=2):=by show _=_;rw[<-HZ.out];exact zc2 (fun h=>hv h.2.2)
    clear hv HZ;refine j.out.mono ?_;rintro e w1 ⟨rfl,o⟩;subst o;clear j;go_wp2;go_ret;exact⟨by rw[HC.out];rfl,HB.out⟩
  ·have HC:Hid (Z=0):=by show _=_;rw[<-HZ.out];exact zc3 ⟨h1,h2,h3⟩
   clear HZ h1 h2 h3;go_wp2;go_ret;exact⟨by rw[HC.out];rfl,HB.out⟩
end
section
open Go.RowKit Sv
theorem zii(x:Ln)(ra:Option Addr)(rc:Nat)(w:World) :
  zR 77 #[.agg #[x.kind,x.name,x.a,x.b,x.c,x.other,.slice ra (tp x.rng).length rc]] w (.int .i64 (qQ x)):=by
 obtain⟨k,n,a,b,c,o,r⟩:=x;unfold qQ Ln.pair;simp only
 by_cases hk:k<1\/4<k
 ·rw[zc3 hk];rcases hk with hk|hk
  ·exact zgL k n o a b c ra (tp r).length rc w (by omega)
  ·exact zgL k n o a b c ra (tp r).length rc w (by omega)
 rw[zc2 hk];have j:k=1\/k=2\/k=3\/k=4:=by omega
 by_cases hn:zr n
 ·rcases j with rfl|rfl|rfl|rfl
  ·have h1:¬(¬zr n\/(((1:Int)=2\/(1:Int)=3)/\¬zr o)):=by
    rintro (h|⟨h,_⟩)
    ·exact h hn
    ·omega
   rw[zc2 h1]
   by_cases ho:o.size≠0
   ·rw[zc3 ⟨by omega,ho⟩];exact znq n o a b c ra (tp r).length rc w hn (by omega)
   ·rw[zc2 (fun h=>ho h.2)];obtain rfl:=Qu (s:=o) (by omega);cases r with
    |nil =>
     rw[zc2 (fun h=>h.2 rfl),zc2 (by omega)];refine(zmm n a b c ra rc w hn).mono fun e w' ⟨h1,h2⟩=>⟨?_,h2⟩;rw[h1]
     by_cases hi:InV a b c
     ·rw[zc3 hi,zc2 (fun h=>h hi)]
     ·rw[zc2 hi,zc3 hi]
    |cons s r =>rw[zc3 ⟨rfl,by simp⟩];exact zmE n a b c ra (tp (s :: r)).length rc w hn (by simp[tp])
  ·by_cases ho:zr o
   ·have h1:¬(¬zr n\/(((2:Int)=2\/(2:Int)=3)/\¬zr o)):=by
     rintro (h|⟨_,h⟩)
     ·exact h hn
     ·exact h ho
    rw[zc2 h1,zc2 (fun h=>h.1 (Or.inl rfl)),zc2 (by omega),zc2 (by omega)];refine(zlX n o a b c ra (tp r).length rc w hn ho).mono fun e w' ⟨h1,h2⟩=>⟨?_,h2⟩;rw[h1]
    by_cases hi:InV a b c
    ·rw[zc3 hi,zc2 (fun h=>h hi)]
    ·rw[zc2 hi,zc3 hi]
   ·rw[zc3 (Or.inr ⟨Or.inl rfl,ho⟩)];exact zjV n o a b c ra (tp r).length rc w hn ho
  ·by_cases ho:zr o
   ·have h1:¬(¬zr n\/(((3:Int)=2\/(3:Int)=3)/\¬zr o)):=by
     rintro (h|⟨_,h⟩)
     ·exact h hn
     ·exact h ho
    rw[zc2 h1,zc2 (fun h=>h.1 (Or.inr rfl)),zc2 (by omega),zc2 (by omega)];refine(ziG n o a b c ra (tp r).length rc w hn ho).mono fun e w' ⟨h1,h2⟩=>⟨?_,h2⟩;rw[h1]
    by_cases hi:InV a b c
    ·rw[zc3 hi,zc2 (fun h=>h hi)]
    ·rw[zc2 hi,zc3 hi]
   ·rw[zc3 (Or.inr ⟨Or.inr rfl,ho⟩)];exact znP n o a b c ra (tp r).length rc w hn ho
  ·have h1:¬(¬zr n\/(((4:Int)=2\/(4:Int)=3)/\¬zr o)):=by
    rintro (h|⟨h,_⟩)
    ·exact h hn
    ·omega
   rw[zc2 h1]
   by_cases ho:o.size≠0
   ·rw[zc3 ⟨by omega,ho⟩];exact zn0 n o a b c ra (tp r).length rc w hn (by omega)
   ·rw[zc2 (fun h=>ho h.2),zc2 (by omega)];obtain rfl:=Qu (s:=o) (by omega)
    by_cases hz:a≠0\/b≠0\/c≠0
    ·rw[zc3 ⟨rfl,hz⟩];refine zih n a b c ra (tp r).length rc w hn ?_
     by_cases h0:a=0
     ·by_cases h1:b=0
      ·have h2:c≠0:=by omega
       simp[h2]
      ·simp[h1]
     ·simp[h0]
    ·rw[zc2 (fun h=>hz h.2)];obtain rfl:a=0:=by omega
     obtain rfl:b=0:=by omega
     obtain rfl:c=0:=by omega
     rw[zc2 (fun h=>h (by decide))];exact(zqF n 0 0 0 ra (tp r).length rc w hn (by decide)).mono fun e w' ⟨h1,h2⟩=>⟨by rw[h1,zc3 (by decide)],h2⟩
 ·rw[zc3 (Or.inl hn)];rcases j with rfl|rfl|rfl|rfl
  ·exact znf n o a b c ra (tp r).length rc w hn
  ·exact zg8 n o a b c ra (tp r).length rc w hn
  ·exact zhF n o a b c ra (tp r).length rc w hn
  ·exact zlR n o a b c ra (tp r).length rc w hn
end
section
open Go.RowKit Go.Deep Go.Maps
def X5:Value->Option (DataW Unit × List MemPlace)
 |.bool b=>some (.lit (.bool b),[])
 |_=>none
theorem zcg(b:Bool):X5 (.bool b)=some (.lit (.bool b),[]):=rfl
theorem zgt{v:Value}{b:Bool}{ps:List MemPlace}(h:X5 v=some (.lit (.bool b),ps)):v=.bool b:=by
 unfold X5 at h;split at h
 ·simp at h;rw[h.1]
 ·cases h
theorem zle(w:World):(zeroValue 4).run prog w=.ok (.bool false) w:=by kernel_rfl
def yW(w:World)(bm:Nat)(l:List It):Prop:=∃D,w.ownsMap prog 9 X5 bm (yi l) D/\ZY (fun _:Unit=>.lit (.bool true)) D (ZB l) (yi l)
theorem yW.made(w:World):yW (w.alloc (.map #[] 0)) w.heap.size []:=⟨.map [],World.ownsMap_made w _ _ _,ZY.empty⟩
theorem yW.below{B:Nat}{w w':World}{bm:Nat}{l:List It}(h:yW w bm l)(hb:Below B w w')(hB:w.heap.size<=B):yW w' bm l:=by
 obtain⟨D,h1,h2⟩:=h;exact⟨D,KO h1 (hb.mono hB),h2⟩
theorem yW.lt{w:World}{bm:Nat}{l:List It}(h:yW w bm l):bm<w.heap.size:=by obtain⟨D,h1,_⟩:=h;exact h1.lt
theorem yW.block{w w':World}{bm:Nat}{l:List It}(h:yW w bm l)(hb:w'.heap[bm]?=w.heap[bm]?):yW w' bm l:=by
 obtain⟨D,⟨es,j,h1,h2⟩,hR⟩:=h;exact⟨D,⟨es,j,hb.trans h1,h2⟩,hR⟩
theorem yW.put{w:World}{bm:Nat}{l:List It}(h:yW w bm l)(hl:l.length<1000000){x:It}(hs:x.name.size<=100000) :
  ∃w',(Instr.mapUpdate 163 (.map (some bm)) (.string x.name) (.bool true)).run prog w=.ok () w'/\yW w' bm (l++[x])/\w.grownBy w' (some bm):=by
 obtain⟨D,hD,hR⟩:=h;have p:=zeB l;obtain⟨w',o,g1,k1⟩:=hD.update Kr underlying163 (by unfold maxLen;omega) (XY hs) (zcg true);have j:=hR.put x.name ();have e1:(fun c=>if c=x.name then some () else ZB l c)=ZB (l++[x]):=by
  funext c;unfold ZB
  by_cases h:c=x.name
  ·simp[h]
  ·simp[h]
 have e2:(if (ZB l x.name).isSome then yi l else yi l+1)=yi (l++[x]):=by
  rw[zcA];unfold ZB
  by_cases h:x.name∈l.map It.name
  ·rw[zc3 h,zc3 h];rfl
  ·rw[zc2 h,zc2 h];rfl
 rw[e1,e2] at j;exact⟨w',o,⟨_,j.size▸Z1 g1,j⟩,k1⟩
theorem yW.len{w:World}{bm:Nat}{l:List It}(h:yW w bm l)(ty:TypeId):(Builtin.len_ #[163] ty #[.map (some bm)]).run prog w=.ok (.int .i64 (yi l)) w:=by
 obtain⟨D,hD,hR⟩:=h;rw[hD.len underlying163 ty,hR.size]
theorem zms:laidOutB prog=true:=by kernel_rfl
theorem zkC:(116:TypeId)<prog.types.size:=zrZ (by kernel_rfl)
theorem zpX:(match prog.underlying 116 with|some (.array _ _)|some (.struct _)=>true|_=>false)=true:=by rw[ztA]
theorem zb5:Keyed prog 116:=Keyed.of_law (deep_law_laid zms (m:=3) (by omega) zkC (by kernel_rfl) zpX)
theorem zoM:prog.keyType 116=true:=by kernel_rfl
theorem zfo:prog.cellsOf 116=4:=by kernel_rfl
theorem zdG:prog.cellsOf 91=3:=by kernel_rfl
theorem zi1:prog.cellsOf 3=1:=by kernel_rfl
theorem ziH:prog.cellsOf 9=1:=by kernel_rfl
def itV(x:It):Value:=.agg #[x.name,x.a,x.b,x.c]
def Qx(x:It):Prop:=x.name.size<=100000/\(0<=x.a/\x.a<=999)/\(0<=x.b/\x.b<=999)/\0<=x.c/\x.c<=999
def QL(x:It):Lit:=.string (keyBytes [.string x.name.data.toList,.int .i64 x.a,.int .i64 x.b,.int .i64 x.c])
theorem zkN{m:Int}(h:0<=m/\m<=999):(Lit.int .i64 m).wf=true:=by
 simp[Lit.wf,IntKind.min,IntKind.max,IntKind.signed,IntKind.bits];omega
theorem zad(d:Nat){m:Int}(h:0<=m/\m<=999):prog.keyLits (d+1) 3 [.int .i64 m]=some [.int .i64 m]:=by
 unfold Program.keyLits;rw[zrn];simp[zkN h]
theorem zne(d:Nat){s:ByteArray}(h:s.size<=100000):prog.keyLits (d+1) 9 [.string s]=some [.string s.data.toList]:=by
 unfold Program.keyLits;rw[zrf];have h2:s.size<=maxLen:=by unfold maxLen;omega
 simp[h2]
theorem zkr(d:Nat){a b c:Int}(ha:0<=a/\a<=999)(hb:0<=b/\b<=999)(hc:0<=c/\c<=999):prog.keyLits (d+2) 91 [.int .i64 a,.int .i64 b,.int .i64 c]=some [.int .i64 a,.int .i64 b,.int .i64 c]:=by
 unfold Program.keyLits;rw[underlying91];have e:List.range 3=[0,1,2]:=rfl;simp[zdG,zi1,e,zad d ha,zad d hb,zad d hc]
theorem JX(x:It)(h:Qx x):keyOf prog 116 (itV x)=some (QL x):=by
 have hf:(itV x).formed prog 116=true:=by simp[Value.formed,underlying116,zfo,itV]
 unfold keyOf;rw[ztA];simp only[zoM,hf,Bool.and_self,ztL];obtain⟨d,hd⟩:∃d,prog.types.size+1=d+3:=⟨prog.types.size-2,by have:3<prog.types.size:=zrZ (by kernel_rfl);omega⟩;rw[hd];have hc:(itV x).cells.toList=[.string x.name,.int .i64 x.a,.int .i64 x.b,.int .i64 x.c]:=rfl;rw[hc];unfold Program.keyLits;rw[ztA];simp[zfo,zdG,ziH,zne (d+1) h.1,zkr d h.2.1 h.2.2.1 h.2.2.2,QL]
theorem zmH{x y:It}(hx:Qx x)(hy:Qx y)(h:QL x=QL y):x=y:=by
 have:=zb5.inj (JX x hx) (h▸JX y hy);obtain⟨n,a,b,c⟩:=x;obtain⟨n',a',b',c'⟩:=y;simp[itV] at this;obtain⟨rfl,rfl,rfl,rfl⟩:=this;rfl
def QH(l:List It):List (It × Unit):=l.map fun s=>(s,())
theorem zfq(l:List It):(QH l).map Prod.fst=l:=by unfold QH;rw[List.map_map];simp[Function.comp_def]
def zcP(D:DataW Unit)(l:List It):Prop:=Rep Qx QL (fun _:Unit=>.lit (.bool true)) D (QH l)
def yr(w:World)(bm:Nat)(l:List It):Prop:=∃D,w.ownsMap prog 116 X5 bm l.length D/\zcP D l
theorem yr.lt{w:World}{bm:Nat}{l:List It}(h:yr w bm l):bm<w.heap.size:=by obtain⟨D,hD,_⟩:=h;exact hD.lt
theorem yr.made(w:World):yr (w.alloc (.map #[] 0)) w.heap.size []:=⟨.map [],World.ownsMap_made w _ _ _,Rep.empty⟩
theorem yr.block{w w':World}{bm:Nat}{l:List It}(h:yr w bm l)(hb:w'.heap[bm]?=w.heap[bm]?):yr w' bm l:=by
 obtain⟨D,⟨es,j,h1,h2⟩,hR⟩:=h;exact⟨D,⟨es,j,hb.trans h1,h2⟩,hR⟩
theorem yr.below{B:Nat}{w w':World}{bm:Nat}{l:List It}(h:yr w bm l)(hb:Below B w w')(hB:w.heap.size<=B):yr w' bm l:=by
 obtain⟨D,h1,h2⟩:=h;exact⟨D,KO h1 (hb.mono hB),h2⟩
theorem yr.look{w:World}{bm:Nat}{l:List It}(h:yr w bm l){x:It}(hx:Qx x) :
  (Instr.lookup 164 (.map (some bm)) (.agg #[x.name,x.a,x.b,x.c]) false).run prog w=.ok (.bool (decide (x∈l))) w:=by
 obtain⟨D,hD,hR⟩:=h;obtain⟨v,ps,j,hv⟩:=hD.lookup zb5 underlying164 (zle w) (zcg false) (JX x hx)
 by_cases hm:x∈l
 ·rw[show D.atKey (QL x) (.lit (.bool false))=.lit (.bool true) from hR.at' (x,()) (by unfold QH;exact zrA.2 ⟨x,hm,rfl⟩) _] at hv;rw[zgt hv] at j;rw[zq9 hm];exact j
 ·have hn:Maps.has D (QL x)=false:=Rep.not hR hx (by rw[zfq];exact hm);rw[atKey_of_not_has hn] at hv;rw[zgt hv] at j;rw[zf5 hm];exact j
theorem yr.put{w:World}{bm:Nat}{l:List It}(h:yr w bm l)(hl:l.length<1000000){x:It}(hx:Qx x)(hn:x∉l) :
  ∃w',(Instr.mapUpdate 164 (.map (some bm)) (.agg #[x.name,x.a,x.b,x.c]) (.bool true)).run prog w=.ok () w'/\yr w' bm (l++[x])/\w.grownBy w' (some bm):=by
 obtain⟨D,hD,hR⟩:=h;obtain⟨w',j,g1,k1⟩:=hD.update zb5 underlying164 (by unfold maxLen;omega) (JX x hx) (zcg true);have o:zcP (D.put (QL x) (.lit (.bool true))) (l++[x]):=by
  have:=Rep.put hR (fun a b ha hb e=>zmH ha hb e) (fun _=>trivial) hx (by rw[zfq];exact hn) ();show Rep _ _ _ _ (QH (l++[x]));unfold QH at *;rw[zrv];exact this
 refine⟨w',j,⟨_,?_,o⟩,k1⟩;have h2:=o.size;unfold QH at h2;rw[zrs] at h2;exact h2▸Z1 g1
theorem yr.len{w:World}{bm:Nat}{l:List It}(h:yr w bm l)(ty:TypeId):(Builtin.len_ #[164] ty #[.map (some bm)]).run prog w=.ok (.int .i64 l.length) w:=by
 obtain⟨D,hD,hR⟩:=h;rw[hD.len underlying164 ty,hR.size,QH,zrs]
theorem yW.ne{w:World}{bm b:Nat}{l:List It}{t:TypeId}{cs:Array Value}(h:yW w bm l)(hb:Blk w b t cs):bm≠b:=by
 rintro rfl;obtain⟨D,⟨es,j,h1,_⟩,_⟩:=h;have:=h1.symm.trans hb;cases this
theorem yr.ne{w:World}{bm b:Nat}{l:List It}{t:TypeId}{cs:Array Value}(h:yr w bm l)(hb:Blk w b t cs):bm≠b:=by
 rintro rfl;obtain⟨D,⟨es,j,h1,_⟩,_⟩:=h;have:=h1.symm.trans hb;cases this
end
