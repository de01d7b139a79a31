import Derived.Test.YtoffdbflfikcoaaGreatDoorag
open Go.Proofs.Tryz
set_option maxHeartbeats 2000000
set_option maxRecDepth 100000
namespace Go.Proofs.YtoffdbflfikcoaaGreatDoor
section
open Go.RowKit Sv
abbrev Zs(w:World)(v:Int)(ks:Array Value):Prop:=zR 136 #[.agg ks] w (.int .i64 v)
theorem zJ{W:World}{b:Nat}{t:TypeId}{x0 x1 x2 x3 x4 x5 x6:Value}(h:Blk W b t #[x0,x1,x2,x3,x4,x5,x6]):W.cell? b=some x0/\W.cell? ⟨b,1,none⟩=some x1/\W.cell? ⟨b,2,none⟩=some x2/\W.cell? ⟨b,3,none⟩=some x3/\W.cell? ⟨b,4,none⟩=some x4/\W.cell? ⟨b,5,none⟩=some x5/\W.cell? ⟨b,6,none⟩=some x6:=⟨h.cell 0,h.cell 1,h.cell 2,h.cell 3,h.cell 4,h.cell 5,h.cell 6⟩
theorem xC(w:World)(K:Array Value):∃W0,w.alloc (.cells K 107)=W0/\Blk W0 w.heap.size 107 K/\zB w W0:=⟨_,rfl,Blk.new _ _ _,(zf0 _ w).alloc zN _⟩
theorem zmw(k:Int)(n o:ByteArray)(a b c:Int)(ra:Option Addr)(rn rc:Nat)(w:World)(hk:k<1) :
  Zs w 1 #[k,n,a,b,c,o,.slice ra rn rc]:=by
 obtain⟨W0,p,k0,j⟩:=xC w #[k,n,a,b,c,o,.slice ra rn rc];go_enter zsv,zsk;go_upto_region 1 with fail;clear p;have q:¬(4:Int)<k:=by omega
 obtain⟨u,y,C,J,K,M,R⟩:=zJ k0;have HB:=zH j;clear k0 j;go_wp2;go_ret;exact⟨rfl,HB.out⟩
theorem zha(k:Int)(n o:ByteArray)(a b c:Int)(ra:Option Addr)(rn rc:Nat)(w:World)(hk:4<k) :
  Zs w 1 #[k,n,a,b,c,o,.slice ra rn rc]:=by
 obtain⟨W0,p,k0,j⟩:=xC w #[k,n,a,b,c,o,.slice ra rn rc];go_enter zsv,zsk;go_upto_region 1 with fail;clear p;have q:¬k<(1:Int):=by omega
 obtain⟨u,y,C,J,K,M,R⟩:=zJ k0;have HB:=zH j;clear k0 j;go_wp2;go_ret;exact⟨rfl,HB.out⟩
theorem zol(n o:ByteArray)(a b c:Int)(ra:Option Addr)(rn rc:Nat)(w:World)(hn:¬zr n) :
  Zs w 5 #[(1:Int),n,a,b,c,o,.slice ra rn rc]:=by
 obtain⟨W0,p,k0,j⟩:=xC w #[(1:Int),n,a,b,c,o,.slice ra rn rc];go_enter zsv,zsk;go_upto_region 1 with fail;clear p;obtain⟨u,y,C,J,K,M,R⟩:=zJ k0;go_wp2_with fail;clear u y C J K M R;refine(Xi n W0 hn).mono ?_;rintro e w1 ⟨rfl,q⟩;subst q;have HB:=zH j;clear k0 j;go_wp2;go_ret;exact⟨rfl,HB.out⟩
theorem zkl(n o:ByteArray)(a b c:Int)(ra:Option Addr)(rn rc:Nat)(w:World)(hn:¬zr n) :
  Zs w 5 #[(2:Int),n,a,b,c,o,.slice ra rn rc]:=by
 obtain⟨W0,p,k0,j⟩:=xC w #[(2:Int),n,a,b,c,o,.slice ra rn rc];go_enter zsv,zsk;go_upto_region 1 with fail;clear p;obtain⟨u,y,C,J,K,M,R⟩:=zJ k0;go_wp2_with fail;clear u y C J K M R;refine(Xi n W0 hn).mono ?_;rintro e w1 ⟨rfl,q⟩;subst q;have HB:=zH j;clear k0 j;go_wp2;go_ret;exact⟨rfl,HB.out⟩
theorem zpd(n o:ByteArray)(a b c:Int)(ra:Option Addr)(rn rc:Nat)(w:World)(hn:¬zr n) :
  Zs w 5 #[(3:Int),n,a,b,c,o,.slice ra rn rc]:=by
 obtain⟨W0,p,k0,j⟩:=xC w #[(3:Int),n,a,b,c,o,.slice ra rn rc];go_enter zsv,zsk;go_upto_region 1 with fail;clear p;obtain⟨u,y,C,J,K,M,R⟩:=zJ k0;go_wp2_with fail;clear u y C J K M R;refine(Xi n W0 hn).mono ?_;rintro e w1 ⟨rfl,q⟩;subst q;have HB:=zH j;clear k0 j;go_wp2;go_ret;exact⟨rfl,HB.out⟩
theorem zi9(n o:ByteArray)(a b c:Int)(ra:Option Addr)(rn rc:Nat)(w:World)(hn:¬zr n) :
  Zs w 5 #[(4:Int),n,a,b,c,o,.slice ra rn rc]:=by
 obtain⟨W0,p,k0,j⟩:=xC w #[(4:Int),n,a,b,c,o,.slice ra rn rc];go_enter zsv,zsk;go_upto_region 1 with fail;clear p;obtain⟨u,y,C,J,K,M,R⟩:=zJ k0;go_wp2_with fail;clear u y C J K M R;refine(Xi n W0 hn).mono ?_;rintro e w1 ⟨rfl,q⟩;subst q;have HB:=zH j;clear k0 j;go_wp2;go_ret;exact⟨rfl,HB.out⟩
theorem zmZ(n o:ByteArray)(a b c:Int)(ra:Option Addr)(rn rc:Nat)(w:World)(hn:zr n)(ho:¬zr o) :
  Zs w 5 #[(2:Int),n,a,b,c,o,.slice ra rn rc]:=by
 obtain⟨W0,X,k0,U⟩:=xC w #[(2:Int),n,a,b,c,o,.slice ra rn rc];go_enter zsv,zsk;go_upto_region 1 with fail;clear X;obtain⟨p,q,u,y,C,J,K⟩:=zJ k0;go_wp2_with fail;clear p q u y C J K;refine(ZP n W0 hn).mono ?_;rintro e w1 ⟨rfl,j⟩;subst j;obtain⟨p,q,u,y,C,J,K⟩:=zJ k0;go_wp2_with fail;clear p q u y C J K;have R:Hid (zC 82 #[.agg #[(2:Int),n,a,b,c,o,.slice ra rn rc]] W0 fun e w'=>e=.returned true/\w'=W0.alloc (.cells #[(2:Int),n,a,b,c,o,.slice ra rn rc] 107)):=yE ⟨2,n,a,b,c,o,[]⟩ (.slice ra rn rc) W0;refine R.out.mono ?_;rintro e w1 ⟨rfl,j⟩;have M:zB W0 w1:=by rw[j];exact zF.alloc zN _
 have k1:=k0.below M k0.lt;have V:zB w w1:=zT U M;clear R j M k0 U;obtain⟨p,q,u,y,C,J,K⟩:=zJ k1;go_wp2_with fail;clear p q u y C J K;refine(Xi o w1 ho).mono ?_;rintro e w2 ⟨rfl,j⟩;subst j;have HB:=zH V;clear k1 V;go_wp2;go_ret;exact⟨rfl,HB.out⟩
theorem znK(n o:ByteArray)(a b c:Int)(ra:Option Addr)(rn rc:Nat)(w:World)(hn:zr n)(ho:¬zr o) :
  Zs w 5 #[(3:Int),n,a,b,c,o,.slice ra rn rc]:=by
 obtain⟨W0,X,k0,U⟩:=xC w #[(3:Int),n,a,b,c,o,.slice ra rn rc];go_enter zsv,zsk;go_upto_region 1 with fail;clear X;obtain⟨p,q,u,y,C,J,K⟩:=zJ k0;go_wp2_with fail;clear p q u y C J K;refine(ZP n W0 hn).mono ?_;rintro e w1 ⟨rfl,j⟩;subst j;obtain⟨p,q,u,y,C,J,K⟩:=zJ k0;go_wp2_with fail;clear p q u y C J K;have R:Hid (zC 82 #[.agg #[(3:Int),n,a,b,c,o,.slice ra rn rc]] W0 fun e w'=>e=.returned true/\w'=W0.alloc (.cells #[(3:Int),n,a,b,c,o,.slice ra rn rc] 107)):=yE ⟨3,n,a,b,c,o,[]⟩ (.slice ra rn rc) W0;refine R.out.mono ?_;rintro e w1 ⟨rfl,j⟩;have M:zB W0 w1:=by rw[j];exact zF.alloc zN _
 have k1:=k0.below M k0.lt;have V:zB w w1:=zT U M;clear R j M k0 U;obtain⟨p,q,u,y,C,J,K⟩:=zJ k1;go_wp2_with fail;clear p q u y C J K;refine(Xi o w1 ho).mono ?_;rintro e w2 ⟨rfl,j⟩;subst j;have HB:=zH V;clear k1 V;go_wp2;go_ret;exact⟨rfl,HB.out⟩
theorem zqx(n o:ByteArray)(a b c:Int)(ra:Option Addr)(rn rc:Nat)(w:World)(hn:zr n)(ho:zr o) :
  zR 136 #[.agg #[(2:Int),n,a,b,c,o,.slice ra rn rc]] w (.int .i64 (if InV a b c then (0:Int) else 2)):=by
 obtain⟨Z,hZ⟩:∃Z:Int,(if InV a b c then (0:Int) else 2)=Z:=⟨_,rfl⟩;rw[hZ];have HZ:=zH hZ;clear hZ;obtain⟨W0,a7,k0,a3⟩:=xC w #[(2:Int),n,a,b,c,o,.slice ra rn rc];go_enter zsv,zsk;go_upto_region 1 with fail;clear a7;obtain⟨p,u,y,C,J,K,M⟩:=zJ k0;go_wp2_with fail;clear p u y C J K M;refine(ZP n W0 hn).mono ?_;rintro e w1 ⟨rfl,j⟩;subst j;obtain⟨p,u,y,C,J,K,M⟩:=zJ k0;go_wp2_with fail;clear p u y C J K M;have a1:Hid (zC 82 #[.agg #[(2:Int),n,a,b,c,o,.slice ra rn rc]] W0 fun e w'=>e=.returned true/\w'=W0.alloc (.cells #[(2:Int),n,a,b,c,o,.slice ra rn rc] 107)):=yE ⟨2,n,a,b,c,o,[]⟩ (.slice ra rn rc) W0;refine a1.out.mono ?_;rintro e w1 ⟨rfl,j⟩;have R:zB W0 w1:=by rw[j];exact zF.alloc zN _
 have k1:=k0.below R k0.lt;have X:zB w w1:=zT a3 R;clear a1 j R k0 a3;obtain⟨p,u,y,C,J,K,M⟩:=zJ k1;go_wp2_with fail;clear p u y C J K M;refine(ZP o w1 ho).mono ?_;rintro e w2 ⟨rfl,j⟩;subst j;obtain⟨p,u,y,C,J,K,M⟩:=zJ k1;go_wp2_with fail;clear p u y C J K M;have a2:Hid (zC 82 #[.agg #[(2:Int),n,a,b,c,o,.slice ra rn rc]] w1 fun e w'=>e=.returned true/\w'=w1.alloc (.cells #[(2:Int),n,a,b,c,o,.slice ra rn rc] 107)):=yE ⟨2,n,a,b,c,o,[]⟩ (.slice ra rn rc) w1;refine a2.out.mono ?_;rintro e w3 ⟨rfl,j⟩;have R:zB w1 w3:=by rw[j];exact zF.alloc zN _
 have k3:=k1.below R k1.lt;have a5:zB w w3:=zT X R;clear a2 j R k1 X;obtain⟨p,u,y,C,J,K,M⟩:=zJ k3;go_upto_region 11 with fail;clear p u y C J K M;obtain⟨q,hq⟩:∃q,decide (InV a b c)=q:=⟨_,rfl⟩;have U:Hid (∀W',zC 182 #[] W' fun e w'=>∃a' c',e=.returned (.agg #[.slice a' zm.length c'])/\zk w' (.slice a' zm.length c') zm/\zB W' w'):=fun W'=>(Xk W').mono fun e w' ⟨v',he,hs,hn,hb⟩=>by obtain⟨a',c',rfl⟩:=hs.form;exact⟨a',c',he,hs,hb⟩
 have V:Hid (∀va vc W',zk W' (.slice va zm.length vc) zm->zR 91 #[.agg #[.slice va zm.length vc],.agg #[a,b,c]] W' (.bool q)):=fun va vc W' h=>by rw[<-hq];exact KT va vc a b c W' h
 have HQ:=zH hq;clear hq;have Y:=k3.lt;have SC:Hid (∀W',zB w3 W'->W'.cell? ⟨w.heap.size,2,none⟩=some (.int .i64 a)/\W'.cell? ⟨w.heap.size,3,none⟩=some (.int .i64 b)/\W'.cell? ⟨w.heap.size,4,none⟩=some (.int .i64 c)):=fun W' h=>⟨(k3.below h Y).cell 2,(k3.below h Y).cell 3,(k3.below h Y).cell 4⟩;have a0:=zH a5;clear k3 a5 Y;have D0:zB w3 w3.drew:=zF.drew;go_region_held3 (fun W'=>W'.cell? ⟨w.heap.size,2,none⟩=some (.int .i64 a)/\W'.cell? ⟨w.heap.size,3,none⟩=some (.int .i64 b)/\W'.cell? ⟨w.heap.size,4,none⟩=some (.int .i64 c)) (first|exact SC.out _ D0|exact SC.out _ D1|exact SC.out _ D2)
  (first
   |((with_reducible refine(U.out _).mono ?_);rintro e x1 ⟨va,vc,rfl,a6,X⟩;have D1:zB w3 x1:=zT D0 X;clear U D0 X)
   | ((with_reducible refine (V.out _ _ _ a6).mono ?_);rintro e x2 ⟨rfl,a4⟩;have D2:zB w3 x2:=zT D1 a4;clear V D1 a4 a6))
 have HB:Hid (zB w x2):=zT a0.out D2;clear D2 a0 SC;cases q with
 |true =>
  have HC:Hid (Z=0):=by have h:=HQ.out;show _=_;rw[<-HZ.out];exact zc3 (by simpa using h)
  go_wp2;go_ret;exact⟨by rw[HC.out];rfl,HB.out⟩
 |false =>
  have HC:Hid (Z=2):=by have h:=HQ.out;show _=_;rw[<-HZ.out];exact zc2 (by simpa using h)
  go_wp2;go_ret;exact⟨by rw[HC.out];rfl,HB.out⟩
theorem zlC(n o:ByteArray)(a b c:Int)(ra:Option Addr)(rn rc:Nat)(w:World)(hn:zr n)(ho:zr o) :
  zR 136 #[.agg #[(3:Int),n,a,b,c,o,.slice ra rn rc]] w (.int .i64 (if InV a b c then (0:Int) else 2)):=by
 obtain⟨Z,hZ⟩:∃Z:Int,(if InV a b c then (0:Int) else 2)=Z:=⟨_,rfl⟩;rw[hZ];have HZ:=zH hZ;clear hZ;obtain⟨W0,a7,k0,a3⟩:=xC w #[(3:Int),n,a,b,c,o,.slice ra rn rc];go_enter zsv,zsk;go_upto_region 1 with fail;clear a7;obtain⟨p,u,y,C,J,K,M⟩:=zJ k0;go_wp2_with fail;clear p u y C J K M;refine(ZP n W0 hn).mono ?_;rintro e w1 ⟨rfl,j⟩;subst j;obtain⟨p,u,y,C,J,K,M⟩:=zJ k0;go_wp2_with fail;clear p u y C J K M;have a1:Hid (zC 82 #[.agg #[(3:Int),n,a,b,c,o,.slice ra rn rc]] W0 fun e w'=>e=.returned true/\w'=W0.alloc (.cells #[(3:Int),n,a,b,c,o,.slice ra rn rc] 107)):=yE ⟨3,n,a,b,c,o,[]⟩ (.slice ra rn rc) W0;refine a1.out.mono ?_;rintro e w1 ⟨rfl,j⟩;have R:zB W0 w1:=by rw[j];exact zF.alloc zN _
 have k1:=k0.below R k0.lt;have X:zB w w1:=zT a3 R;clear a1 j R k0 a3;obtain⟨p,u,y,C,J,K,M⟩:=zJ k1;go_wp2_with fail;clear p u y C J K M;refine(ZP o w1 ho).mono ?_;rintro e w2 ⟨rfl,j⟩;subst j;obtain⟨p,u,y,C,J,K,M⟩:=zJ k1;go_wp2_with fail;clear p u y C J K M;have a2:Hid (zC 82 #[.agg #[(3:Int),n,a,b,c,o,.slice ra rn rc]] w1 fun e w'=>e=.returned true/\w'=w1.alloc (.cells #[(3:Int),n,a,b,c,o,.slice ra rn rc] 107)):=yE ⟨3,n,a,b,c,o,[]⟩ (.slice ra rn rc) w1;refine a2.out.mono ?_;rintro e w3 ⟨rfl,j⟩;have R:zB w1 w3:=by rw[j];exact zF.alloc zN _
 have k3:=k1.below R k1.lt;have a5:zB w w3:=zT X R;clear a2 j R k1 X;obtain⟨p,u,y,C,J,K,M⟩:=zJ k3;go_upto_region 11 with fail;clear p u y C J K M;obtain⟨q,hq⟩:∃q,decide (InV a b c)=q:=⟨_,rfl⟩;have U:Hid (∀W',zC 182 #[] W' fun e w'=>∃a' c',e=.returned (.agg #[.slice a' zm.length c'])/\zk w' (.slice a' zm.length c') zm/\zB W' w'):=fun W'=>(Xk W').mono fun e w' ⟨v',he,hs,hn,hb⟩=>by obtain⟨a',c',rfl⟩:=hs.form;exact⟨a',c',he,hs,hb⟩
 have V:Hid (∀va vc W',zk W' (.slice va zm.length vc) zm->zR 91 #[.agg #[.slice va zm.length vc],.agg #[a,b,c]] W' (.bool q)):=fun va vc W' h=>by rw[<-hq];exact KT va vc a b c W' h
 have HQ:=zH hq;clear hq;have Y:=k3.lt;have SC:Hid (∀W',zB w3 W'->W'.cell? ⟨w.heap.size,2,none⟩=some (.int .i64 a)/\W'.cell? ⟨w.heap.size,3,none⟩=some (.int .i64 b)/\W'.cell? ⟨w.heap.size,4,none⟩=some (.int .i64 c)):=fun W' h=>⟨(k3.below h Y).cell 2,(k3.below h Y).cell 3,(k3.below h Y).cell 4⟩;have a0:=zH a5;clear k3 a5 Y;have D0:zB w3 w3.drew:=zF.drew;go_region_held3 (fun W'=>W'.cell? ⟨w.heap.size,2,none⟩=some (.int .i64 a)/\W'.cell? ⟨w.heap.size,3,none⟩=some (.int .i64 b)/\W'.cell? ⟨w.heap.size,4,none⟩=some (.int .i64 c)) (first|exact SC.out _ D0|exact SC.out _ D1|exact SC.out _ D2)
  (first
   |((with_reducible refine(U.out _).mono ?_);rintro e x1 ⟨va,vc,rfl,a6,X⟩;have D1:zB w3 x1:=zT D0 X;clear U D0 X)
   | ((with_reducible refine (V.out _ _ _ a6).mono ?_);rintro e x2 ⟨rfl,a4⟩;have D2:zB w3 x2:=zT D1 a4;clear V D1 a4 a6))
 have HB:Hid (zB w x2):=zT a0.out D2;clear D2 a0 SC;cases q with
 |true =>
  have HC:Hid (Z=0):=by have h:=HQ.out;show _=_;rw[<-HZ.out];exact zc3 (by simpa using h)
  go_wp2;go_ret;exact⟨by rw[HC.out];rfl,HB.out⟩
 |false =>
  have HC:Hid (Z=2):=by have h:=HQ.out;show _=_;rw[<-HZ.out];exact zc2 (by simpa using h)
  go_wp2;go_ret;exact⟨by rw[HC.out];rfl,HB.out⟩
theorem zlU(n o:ByteArray)(a b c:Int)(ra:Option Addr)(rn rc:Nat)(w:World)(hn:zr n)(ho:0<o.size) :
  Zs w 1 #[(1:Int),n,a,b,c,o,.slice ra rn rc]:=by
 obtain⟨W0,a0,k0,V⟩:=xC w #[(1:Int),n,a,b,c,o,.slice ra rn rc];go_enter zsv,zsk;go_upto_region 1 with fail;clear a0;obtain⟨q,u,y,C,J,K,M⟩:=zJ k0;go_wp2_with fail;clear q u y C J K M;refine(ZP n W0 hn).mono ?_;rintro e w1 ⟨rfl,p⟩;subst p;obtain⟨q,u,y,C,J,K,M⟩:=zJ k0;go_wp2_with fail;clear q u y C J K M;have R:Hid (zC 82 #[.agg #[(1:Int),n,a,b,c,o,.slice ra rn rc]] W0 fun e w'=>e=.returned false/\w'=W0.alloc (.cells #[(1:Int),n,a,b,c,o,.slice ra rn rc] 107)):=yE ⟨1,n,a,b,c,o,[]⟩ (.slice ra rn rc) W0;refine R.out.mono ?_;rintro e w1 ⟨rfl,p⟩;have j:zB W0 w1:=by rw[p];exact zF.alloc zN _
 have k1:=k0.below j k0.lt;have X:zB w w1:=zT V j;clear R p j k0 V;obtain⟨q,u,y,C,J,K,M⟩:=zJ k1;go_wp2_with fail;clear q u y C J K M;have U:Hid (zC 82 #[.agg #[(1:Int),n,a,b,c,o,.slice ra rn rc]] w1 fun e w'=>e=.returned false/\w'=w1.alloc (.cells #[(1:Int),n,a,b,c,o,.slice ra rn rc] 107)):=yE ⟨1,n,a,b,c,o,[]⟩ (.slice ra rn rc) w1;refine U.out.mono ?_;rintro e w3 ⟨rfl,p⟩;have j:zB w1 w3:=by rw[p];exact zF.alloc zN _
 have k3:=k1.below j k1.lt;have Y:zB w w3:=zT X j;clear U p j k1 X;have Z:o.toList.isEmpty=false:=Qr ho;have a1:(o.toList==[])=false:=by rw[zf2];intro h;rw[h] at Z;cases Z
 obtain⟨q,u,y,C,J,K,M⟩:=zJ k3;have HB:=zH Y;clear k3 Y;go_wp2;go_ret;exact⟨rfl,HB.out⟩
theorem zm4(n o:ByteArray)(a b c:Int)(ra:Option Addr)(rn rc:Nat)(w:World)(hn:zr n)(ho:0<o.size) :
  Zs w 1 #[(4:Int),n,a,b,c,o,.slice ra rn rc]:=by
 obtain⟨W0,a0,k0,V⟩:=xC w #[(4:Int),n,a,b,c,o,.slice ra rn rc];go_enter zsv,zsk;go_upto_region 1 with fail;clear a0;obtain⟨q,u,y,C,J,K,M⟩:=zJ k0;go_wp2_with fail;clear q u y C J K M;refine(ZP n W0 hn).mono ?_;rintro e w1 ⟨rfl,p⟩;subst p;obtain⟨q,u,y,C,J,K,M⟩:=zJ k0;go_wp2_with fail;clear q u y C J K M;have R:Hid (zC 82 #[.agg #[(4:Int),n,a,b,c,o,.slice ra rn rc]] W0 fun e w'=>e=.returned false/\w'=W0.alloc (.cells #[(4:Int),n,a,b,c,o,.slice ra rn rc] 107)):=yE ⟨4,n,a,b,c,o,[]⟩ (.slice ra rn rc) W0;refine R.out.mono ?_;rintro e w1 ⟨rfl,p⟩;have j:zB W0 w1:=by rw[p];exact zF.alloc zN _
 have k1:=k0.below j k0.lt;have X:zB w w1:=zT V j;clear R p j k0 V;obtain⟨q,u,y,C,J,K,M⟩:=zJ k1;go_wp2_with fail;clear q u y C J K M;have U:Hid (zC 82 #[.agg #[(4:Int),n,a,b,c,o,.slice ra rn rc]] w1 fun e w'=>e=.returned false/\w'=w1.alloc (.cells #[(4:Int),n,a,b,c,o,.slice ra rn rc] 107)):=yE ⟨4,n,a,b,c,o,[]⟩ (.slice ra rn rc) w1;refine U.out.mono ?_;rintro e w3 ⟨rfl,p⟩;have j:zB w1 w3:=by rw[p];exact zF.alloc zN _
 have k3:=k1.below j k1.lt;have Y:zB w w3:=zT X j;clear U p j k1 X;have Z:o.toList.isEmpty=false:=Qr ho;have a1:(o.toList==[])=false:=by rw[zf2];intro h;rw[h] at Z;cases Z
 obtain⟨q,u,y,C,J,K,M⟩:=zJ k3;have HB:=zH Y;clear k3 Y;go_wp2;go_ret;exact⟨rfl,HB.out⟩
theorem zq1(n:ByteArray)(a b c:Int)(ra:Option Addr)(rn rc:Nat)(w:World)(hn:zr n)(hr:0<rn) :
  Zs w 1 #[(1:Int),n,a,b,c,.string ⟨#[]⟩,.slice ra rn rc]:=by
 obtain⟨W0,Z,k0,U⟩:=xC w #[(1:Int),n,a,b,c,.string ⟨#[]⟩,.slice ra rn rc];go_enter zsv,zsk;go_upto_region 1 with fail;clear Z;obtain⟨o,p,q,u,y,C,J⟩:=zJ k0;go_wp2_with fail;clear o p q u y C J;refine(ZP n W0 hn).mono ?_;rintro e w1 ⟨rfl,K⟩;subst K;obtain⟨o,p,q,u,y,C,J⟩:=zJ k0;go_wp2_with fail;clear o p q u y C J;have M:Hid (zC 82 #[.agg #[(1:Int),n,a,b,c,.string ⟨#[]⟩,.slice ra rn rc]] W0 fun e w'=>e=.returned false/\w'=W0.alloc (.cells #[(1:Int),n,a,b,c,.string ⟨#[]⟩,.slice ra rn rc] 107)):=yE ⟨1,n,a,b,c,⟨#[]⟩,[]⟩ (.slice ra rn rc) W0;refine M.out.mono ?_;rintro e w1 ⟨rfl,K⟩;have j:zB W0 w1:=by rw[K];exact zF.alloc zN _
 have k1:=k0.below j k0.lt;have V:zB w w1:=zT U j;clear M K j k0 U;obtain⟨o,p,q,u,y,C,J⟩:=zJ k1;go_wp2_with fail;clear o p q u y C J;have R:Hid (zC 82 #[.agg #[(1:Int),n,a,b,c,.string ⟨#[]⟩,.slice ra rn rc]] w1 fun e w'=>e=.returned false/\w'=w1.alloc (.cells #[(1:Int),n,a,b,c,.string ⟨#[]⟩,.slice ra rn rc] 107)):=yE ⟨1,n,a,b,c,⟨#[]⟩,[]⟩ (.slice ra rn rc) w1;refine R.out.mono ?_;rintro e w3 ⟨rfl,K⟩;have j:zB w1 w3:=by rw[K];exact zF.alloc zN _
 have k3:=k1.below j k1.lt;have X:zB w w3:=zT V j;clear R K j k1 V;obtain⟨o,p,q,u,y,C,J⟩:=zJ k3;go_wp2_with fail;clear o p q u y C J;have HE:Hid (zR 190 #[.agg #[.slice ra rn rc]] w3 (.bool false)):=zkF ra rn rc w3 hr;refine HE.out.mono ?_;rintro e w4 ⟨rfl,j⟩;have k4:=k3.below j k3.lt;have Y:zB w w4:=zT X j;clear HE j k3 X;obtain⟨o,p,q,u,y,C,J⟩:=zJ k4;have HB:=zH Y;clear k4 Y;go_wp2;go_ret;exact⟨rfl,HB.out⟩
theorem zky(n:ByteArray)(a b c:Int)(ra:Option Addr)(rc:Nat)(w:World)(hn:zr n) :
  zR 136 #[.agg #[(1:Int),n,a,b,c,.string ⟨#[]⟩,.slice ra 0 rc]] w (.int .i64 (if InV a b c then (0:Int) else 2)):=by
 obtain⟨Z,hZ⟩:∃Z:Int,(if InV a b c then (0:Int) else 2)=Z:=⟨_,rfl⟩;rw[hZ];have HZ:=zH hZ;clear hZ;obtain⟨W0,a7,k0,a2⟩:=xC w #[(1:Int),n,a,b,c,.string ⟨#[]⟩,.slice ra 0 rc];go_enter zsv,zsk;go_upto_region 1 with fail;clear a7;obtain⟨o,p,u,y,C,J,K⟩:=zJ k0;go_wp2_with fail;clear o p u y C J K;refine(ZP n W0 hn).mono ?_;rintro e w1 ⟨rfl,M⟩;subst M;obtain⟨o,p,u,y,C,J,K⟩:=zJ k0;go_wp2_with fail;clear o p u y C J K;have a0:Hid (zC 82 #[.agg #[(1:Int),n,a,b,c,.string ⟨#[]⟩,.slice ra 0 rc]] W0 fun e w'=>e=.returned false/\w'=W0.alloc (.cells #[(1:Int),n,a,b,c,.string ⟨#[]⟩,.slice ra 0 rc] 107)):=yE ⟨1,n,a,b,c,⟨#[]⟩,[]⟩ (.slice ra 0 rc) W0;refine a0.out.mono ?_;rintro e w1 ⟨rfl,M⟩;have j:zB W0 w1:=by rw[M];exact zF.alloc zN _
 have k1:=k0.below j k0.lt;have V:zB w w1:=zT a2 j;clear a0 M j k0 a2;obtain⟨o,p,u,y,C,J,K⟩:=zJ k1;go_wp2_with fail;clear o p u y C J K;have a1:Hid (zC 82 #[.agg #[(1:Int),n,a,b,c,.string ⟨#[]⟩,.slice ra 0 rc]] w1 fun e w'=>e=.returned false/\w'=w1.alloc (.cells #[(1:Int),n,a,b,c,.string ⟨#[]⟩,.slice ra 0 rc] 107)):=yE ⟨1,n,a,b,c,⟨#[]⟩,[]⟩ (.slice ra 0 rc) w1;refine a1.out.mono ?_;rintro e w3 ⟨rfl,M⟩;have j:zB w1 w3:=by rw[M];exact zF.alloc zN _
 have k3:=k1.below j k1.lt;have a4:zB w w3:=zT V j;clear a1 M j k1 V;obtain⟨o,p,u,y,C,J,K⟩:=zJ k3;go_wp2_with fail;clear o p u y C J K;have HE:Hid (zR 190 #[.agg #[.slice ra 0 rc]] w3 (.bool true)):=zh5 ra rc w3;refine HE.out.mono ?_;rintro e w4 ⟨rfl,j⟩;have k4:=k3.below j k3.lt;have a5:zB w w4:=zT a4 j;clear HE j k3 a4;obtain⟨o,p,u,y,C,J,K⟩:=zJ k4;go_upto_region 11 with fail;clear o p u y C J K;obtain⟨q,hq⟩:∃q,decide (InV a b c)=q:=⟨_,rfl⟩;have R:Hid (∀W',zC 182 #[] W' fun e w'=>∃a' c',e=.returned (.agg #[.slice a' zm.length c'])/\zk w' (.slice a' zm.length c') zm/\zB W' w'):=fun W'=>(Xk W').mono fun e w' ⟨v',he,hs,hn,hb⟩=>by obtain⟨a',c',rfl⟩:=hs.form;exact⟨a',c',he,hs,hb⟩
 have U:Hid (∀va vc W',zk W' (.slice va zm.length vc) zm->zR 91 #[.agg #[.slice va zm.length vc],.agg #[a,b,c]] W' (.bool q)):=fun va vc W' h=>by rw[<-hq];exact KT va vc a b c W' h
 have HQ:=zH hq;clear hq;have X:=k4.lt;have SC:Hid (∀W',zB w4 W'->W'.cell? ⟨w.heap.size,2,none⟩=some (.int .i64 a)/\W'.cell? ⟨w.heap.size,3,none⟩=some (.int .i64 b)/\W'.cell? ⟨w.heap.size,4,none⟩=some (.int .i64 c)):=fun W' h=>⟨(k4.below h X).cell 2,(k4.below h X).cell 3,(k4.below h X).cell 4⟩;have Y:=zH a5;clear k4 a5 X;have D0:zB w4 w4.drew:=zF.drew;go_region_held3 (fun W'=>W'.cell? ⟨w.heap.size,2,none⟩=some (.int .i64 a)/\W'.cell? ⟨w.heap.size,3,none⟩=some (.int .i64 b)/\W'.cell? ⟨w.heap.size,4,none⟩=some (.int .i64 c)) (first|exact SC.out _ D0|exact SC.out _ D1|exact SC.out _ D2)
  (first
   |((with_reducible refine(R.out _).mono ?_);rintro e x1 ⟨va,vc,rfl,a6,V⟩;have D1:zB w4 x1:=zT D0 V;clear R D0 V)
   | ((with_reducible refine (U.out _ _ _ a6).mono ?_);rintro e x2 ⟨rfl,a3⟩;have D2:zB w4 x2:=zT D1 a3;clear U D1 a3 a6))
 have HB:Hid (zB w x2):=zT Y.out D2;clear D2 Y SC;cases q with
 |true =>
  have HC:Hid (Z=0):=by have h:=HQ.out;show _=_;rw[<-HZ.out];exact zc3 (by simpa using h)
  go_wp2;go_ret;exact⟨by rw[HC.out];rfl,HB.out⟩
 |false =>
  have HC:Hid (Z=2):=by have h:=HQ.out;show _=_;rw[<-HZ.out];exact zc2 (by simpa using h)
  go_wp2;go_ret;exact⟨by rw[HC.out];rfl,HB.out⟩
theorem zo4(n:ByteArray)(a b c:Int)(ra:Option Addr)(rn rc:Nat)(w:World)(hn:zr n)(hz:(a==0&&(b==0&&c==0))=false) :
  Zs w 1 #[(4:Int),n,a,b,c,.string ⟨#[]⟩,.slice ra rn rc]:=by
 obtain⟨W0,Y,k0,U⟩:=xC w #[(4:Int),n,a,b,c,.string ⟨#[]⟩,.slice ra rn rc];go_enter zsv,zsk;go_upto_region 1 with fail;clear Y;obtain⟨p,q,u,y,C,J,K⟩:=zJ k0;go_wp2_with fail;clear p q u y C J K;refine(ZP n W0 hn).mono ?_;rintro e w1 ⟨rfl,o⟩;subst o;obtain⟨p,q,u,y,C,J,K⟩:=zJ k0;go_wp2_with fail;clear p q u y C J K;have M:Hid (zC 82 #[.agg #[(4:Int),n,a,b,c,.string ⟨#[]⟩,.slice ra rn rc]] W0 fun e w'=>e=.returned false/\w'=W0.alloc (.cells #[(4:Int),n,a,b,c,.string ⟨#[]⟩,.slice ra rn rc] 107)):=yE ⟨4,n,a,b,c,⟨#[]⟩,[]⟩ (.slice ra rn rc) W0;refine M.out.mono ?_;rintro e w1 ⟨rfl,o⟩;have j:zB W0 w1:=by rw[o];exact zF.alloc zN _
 have k1:=k0.below j k0.lt;have V:zB w w1:=zT U j;clear M o j k0 U;obtain⟨p,q,u,y,C,J,K⟩:=zJ k1;go_wp2_with fail;clear p q u y C J K;have R:Hid (zC 82 #[.agg #[(4:Int),n,a,b,c,.string ⟨#[]⟩,.slice ra rn rc]] w1 fun e w'=>e=.returned false/\w'=w1.alloc (.cells #[(4:Int),n,a,b,c,.string ⟨#[]⟩,.slice ra rn rc] 107)):=yE ⟨4,n,a,b,c,⟨#[]⟩,[]⟩ (.slice ra rn rc) w1;refine R.out.mono ?_;rintro e w3 ⟨rfl,o⟩;have j:zB w1 w3:=by rw[o];exact zF.alloc zN _
 have k3:=k1.below j k1.lt;have X:zB w w3:=zT V j;clear R o j k1 V;have h3:=zgW a b c 0 0 0;rw[hz] at h3;obtain⟨p,q,u,y,C,J,K⟩:=zJ k3;have HB:=zH X;clear k3 X;go_wp2;go_ret;exact⟨rfl,HB.out⟩
theorem ziy(n:ByteArray)(ra:Option Addr)(rn rc:Nat)(w:World)(hn:zr n) :
  Zs w 0 #[(4:Int),n,(0:Int),(0:Int),(0:Int),.string ⟨#[]⟩,.slice ra rn rc]:=by
 obtain⟨W0,a5,k0,a1⟩:=xC w #[(4:Int),n,(0:Int),(0:Int),(0:Int),.string ⟨#[]⟩,.slice ra rn rc];go_enter zsv,zsk;go_upto_region 1 with fail;clear a5;obtain⟨p,u,y,C,J,K,M⟩:=zJ k0;go_wp2_with fail;clear p u y C J K M;refine(ZP n W0 hn).mono ?_;rintro e w1 ⟨rfl,o⟩;subst o;obtain⟨p,u,y,C,J,K,M⟩:=zJ k0;go_wp2_with fail;clear p u y C J K M;have Z:Hid (zC 82 #[.agg #[(4:Int),n,(0:Int),(0:Int),(0:Int),.string ⟨#[]⟩,.slice ra rn rc]] W0 fun e w'=>e=.returned false/\w'=W0.alloc (.cells #[(4:Int),n,(0:Int),(0:Int),(0:Int),.string ⟨#[]⟩,.slice ra rn rc] 107)):=yE ⟨4,n,0,0,0,⟨#[]⟩,[]⟩ (.slice ra rn rc) W0;refine Z.out.mono ?_;rintro e w1 ⟨rfl,o⟩;have j:zB W0 w1:=by rw[o];exact zF.alloc zN _
 have k1:=k0.below j k0.lt;have V:zB w w1:=zT a1 j;clear Z o j k0 a1;obtain⟨p,u,y,C,J,K,M⟩:=zJ k1;go_wp2_with fail;clear p u y C J K M;have a0:Hid (zC 82 #[.agg #[(4:Int),n,(0:Int),(0:Int),(0:Int),.string ⟨#[]⟩,.slice ra rn rc]] w1 fun e w'=>e=.returned false/\w'=w1.alloc (.cells #[(4:Int),n,(0:Int),(0:Int),(0:Int),.string ⟨#[]⟩,.slice ra rn rc] 107)):=yE ⟨4,n,0,0,0,⟨#[]⟩,[]⟩ (.slice ra rn rc) w1;refine a0.out.mono ?_;rintro e w3 ⟨rfl,o⟩;have j:zB w1 w3:=by rw[o];exact zF.alloc zN _
 have k3:=k1.below j k1.lt;have a3:zB w w3:=zT V j;clear a0 o j k1 V;have h3:=zgW 0 0 0 0 0 0;obtain⟨p,u,y,C,J,K,M⟩:=zJ k3;go_upto_region 11 with fail;clear p u y C J K M;clear h3;obtain⟨q,hq⟩:∃q,decide (InV 0 0 0)=q:=⟨_,rfl⟩;have R:Hid (∀W',zC 182 #[] W' fun e w'=>∃a' c',e=.returned (.agg #[.slice a' zm.length c'])/\zk w' (.slice a' zm.length c') zm/\zB W' w'):=fun W'=>(Xk W').mono fun e w' ⟨v',he,hs,hn,hb⟩=>by obtain⟨a',c',rfl⟩:=hs.form;exact⟨a',c',he,hs,hb⟩
 have U:Hid (∀va vc W',zk W' (.slice va zm.length vc) zm->zR 91 #[.agg #[.slice va zm.length vc],.agg #[(0:Int),(0:Int),(0:Int)]] W' (.bool q)):=fun va vc W' h=>by rw[<-hq];exact KT va vc 0 0 0 W' h
 have HQ:=zH hq;clear hq;have X:=k3.lt;have SC:Hid (∀W',zB w3 W'->W'.cell? ⟨w.heap.size,2,none⟩=some (.int .i64 0)/\W'.cell? ⟨w.heap.size,3,none⟩=some (.int .i64 0)/\W'.cell? ⟨w.heap.size,4,none⟩=some (.int .i64 0)):=fun W' h=>⟨(k3.below h X).cell 2,(k3.below h X).cell 3,(k3.below h X).cell 4⟩;have Y:=zH a3;clear k3 a3 X;have D0:zB w3 w3.drew:=zF.drew;go_region_held3 (fun W'=>W'.cell? ⟨w.heap.size,2,none⟩=some (.int .i64 0)/\W'.cell? ⟨w.heap.size,3,none⟩=some (.int .i64 0)/\W'.cell? ⟨w.heap.size,4,none⟩=some (.int .i64 0)) (first|exact SC.out _ D0|exact SC.out _ D1|exact SC.out _ D2)
  (first
   |((with_reducible refine(R.out _).mono ?_);rintro e x1 ⟨va,vc,rfl,a4,V⟩;have D1:zB w3 x1:=zT D0 V;clear R D0 V)
   | ((with_reducible refine (U.out _ _ _ a4).mono ?_);rintro e x2 ⟨rfl,a2⟩;have D2:zB w3 x2:=zT D1 a2;clear U D1 a2 a4))
 have HB:Hid (zB w x2):=zT Y.out D2;clear D2 Y SC;obtain rfl:q=true:=by rw[<-HQ.out];decide
 go_wp2;go_ret;exact⟨rfl,HB.out⟩
end
section
open Go.RowKit Sv
theorem zke(x:Ln)(v:Value)(w:World)(hv:zk w v x.rng) :
  zR 136 #[.agg #[x.kind,x.name,x.a,x.b,x.c,x.other,v]] w (.int .i64 (qQ x)):=by
 obtain⟨ra,rc,rfl⟩:=hv.form;clear hv;obtain⟨k,n,a,b,c,o,r⟩:=x;unfold qQ Ln.pair;simp only
 by_cases hk:k<1\/4<k
 ·rw[zc3 hk];rcases hk with hk|hk
  ·exact zmw k n o a b c ra r.length rc w hk
  ·exact zha k n o a b c ra r.length rc w hk
 rw[zc2 hk];have j:k=1\/k=2\/k=3\/k=4:=by omega
 by_cases hn:zr n
 ·rcases j with rfl|rfl|rfl|rfl
  ·have h1:¬(¬zr n\/(((1:Int)=2\/(1:Int)=3)/\¬zr o)):=by
    rintro (h|⟨h,_⟩)
    ·exact h hn
    ·omega
   rw[zc2 h1]
   by_cases ho:o.size≠0
   ·rw[zc3 ⟨by omega,ho⟩];exact zlU n o a b c ra r.length rc w hn (by omega)
   ·rw[zc2 (fun h=>ho h.2)];obtain rfl:=Qu (s:=o) (by omega);cases r with
    |nil =>
     rw[zc2 (fun h=>h.2 rfl),zc2 (by omega)];refine(zky n a b c ra rc w hn).mono fun e w' ⟨h1,h2⟩=>⟨?_,h2⟩;rw[h1]
     by_cases hi:InV a b c
     ·rw[zc3 hi,zc2 (fun h=>h hi)]
     ·rw[zc2 hi,zc3 hi]
    |cons s r =>rw[zc3 ⟨rfl,by simp⟩];exact zq1 n a b c ra (s :: r).length rc w hn (by simp)
  ·by_cases ho:zr o
   ·have h1:¬(¬zr n\/(((2:Int)=2\/(2:Int)=3)/\¬zr o)):=by
     rintro (h|⟨_,h⟩)
     ·exact h hn
     ·exact h ho
    rw[zc2 h1,zc2 (fun h=>h.1 (Or.inl rfl)),zc2 (by omega),zc2 (by omega)];refine(zqx n o a b c ra r.length rc w hn ho).mono fun e w' ⟨h1,h2⟩=>⟨?_,h2⟩;rw[h1]
    by_cases hi:InV a b c
    ·rw[zc3 hi,zc2 (fun h=>h hi)]
    ·rw[zc2 hi,zc3 hi]
   ·rw[zc3 (Or.inr ⟨Or.inl rfl,ho⟩)];exact zmZ n o a b c ra r.length rc w hn ho
  ·by_cases ho:zr o
   ·have h1:¬(¬zr n\/(((3:Int)=2\/(3:Int)=3)/\¬zr o)):=by
     rintro (h|⟨_,h⟩)
     ·exact h hn
     ·exact h ho
    rw[zc2 h1,zc2 (fun h=>h.1 (Or.inr rfl)),zc2 (by omega),zc2 (by omega)];refine(zlC n o a b c ra r.length rc w hn ho).mono fun e w' ⟨h1,h2⟩=>⟨?_,h2⟩;rw[h1]
    by_cases hi:InV a b c
    ·rw[zc3 hi,zc2 (fun h=>h hi)]
    ·rw[zc2 hi,zc3 hi]
   ·rw[zc3 (Or.inr ⟨Or.inr rfl,ho⟩)];exact znK n o a b c ra r.length rc w hn ho
  ·have h1:¬(¬zr n\/(((4:Int)=2\/(4:Int)=3)/\¬zr o)):=by
    rintro (h|⟨h,_⟩)
    ·exact h hn
    ·omega
   rw[zc2 h1]
   by_cases ho:o.size≠0
   ·rw[zc3 ⟨by omega,ho⟩];exact zm4 n o a b c ra r.length rc w hn (by omega)
   ·rw[zc2 (fun h=>ho h.2),zc2 (by omega)];obtain rfl:=Qu (s:=o) (by omega)
    by_cases hz:a≠0\/b≠0\/c≠0
    ·rw[zc3 ⟨rfl,hz⟩];refine zo4 n a b c ra r.length rc w hn ?_
     by_cases h0:a=0
     ·by_cases h1:b=0
      ·have h2:c≠0:=by omega
       simp[h2]
      ·simp[h1]
     ·simp[h0]
    ·rw[zc2 (fun h=>hz h.2)];obtain rfl:a=0:=by omega
     obtain rfl:b=0:=by omega
     obtain rfl:c=0:=by omega
     rw[zc2 (fun h=>h (by decide))];exact ziy n ra r.length rc w hn
 ·rw[zc3 (Or.inl hn)];rcases j with rfl|rfl|rfl|rfl
  ·exact zol n o a b c ra r.length rc w hn
  ·exact zkl n o a b c ra r.length rc w hn
  ·exact zpd n o a b c ra r.length rc w hn
  ·exact zi9 n o a b c ra r.length rc w hn
end
section
open Go.RowKit Go.Shelf Go.Lib Sv
theorem zqY(l:List It)(x:It):Lib.idxBy (fun x y=>decide (x=y)) l x=qK l x:=by
 have j:∀(l:List It) (i:Nat),Lib.idxByFrom (fun x y=>decide (x=y)) x l i=match l.findIdx? (fun y=>decide (x=y)) with|some k=>((i+k:Nat):Int)|none=>-1:=by
  intro l
  induction l with
  |nil=>intro i;rfl
  |cons y l ih =>
   intro i;rw[Lib.idxByFrom,List.findIdx?_cons]
   by_cases h:x=y
   ·simp[h]
   ·simp only[h,decide_false,zsu,zvs];rw[ih];cases l.findIdx? (fun y=>decide (x=y)) with
    |none=>rfl
    |some k =>show (((i+1+k:Nat)):Int)=((i+(k+1):Nat):Int);rw[show i+1+k=i+(k+1) by omega]
 unfold Lib.idxBy qK;rw[j];cases l.findIdx? (fun y=>decide (x=y)) with
 |none=>rfl
 |some k=>simp
theorem zhw(l:List It)(x:It):(l.any fun y=>decide (x=y))=decide (x∈l):=by
 rw[zrB];simp only[zrM,zrz];constructor
 ·rintro⟨y,hy,rfl⟩;exact hy
 ·intro h;exact⟨x,h,rfl⟩
theorem zcB{w:World}{v:Value}{l:List It}(h:yc w v l)(hl:0<l.length):∃g o,v=.slice (some ⟨g,0,none⟩) l.length o/\g<w.heap.size/\∀j,j<l.length->∀(i:Nat) u,(zQ l[j]!)[i]?=some u->w.cell? ⟨g,0+j*4+i,none⟩=some u:=by
 obtain⟨g,o,e,hg,hc⟩:=h.cells hl;refine⟨g,o,e,hg,fun j hj i u hu=>?_⟩;rw[zrI];refine hc _ _ (Yu l j hj i u ?_);rw[<-hu,zc0,zc5 hj,zuB l j hj];rfl
theorem xp{w:World}{B:Nat}{W:World}(h:Below B w W)(n:Nat):Below B w (W.drewN n):=⟨h.os,h.tape,h.output,h.size,h.block⟩
theorem zeS(a:Option Addr)(c:Nat)(n:ByteArray)(x y z:Int)(w:World) :
  zR 92 #[.slice a 0 c,.agg #[n,x,y,z]] w (.int .i64 (-1)):=by
 have hB:Hid (zB w (w.alloc (.cells #[n,x,y,z] 125))):=(zf0 _ w).alloc zN _;go_enter func92,ntmps92;go_wp2_with fail;go_loop [8] (fun i=>i=.int .i64 0) (fun _=>0)
 case atStart=>rfl
 case round =>subst hrel;go_wp2;go_ret;exact⟨rfl,hB.out⟩
theorem zhA(l:List It)(x:It)(v:Value)(w:World)(h:yc w v l)(hl:l.length<=100000) :
  zR 92 #[v,.agg #[x.name,x.a,x.b,x.c]] w (.int .i64 (qK l x)):=by
 by_cases h0:0<l.length
 ·obtain⟨g,j,rfl,hg,hc⟩:=zcB h h0;refine(AnyQ.slices_Index Tryz.ixItem 4 isAgg125 zvm zQ (fun _=>rfl) _ ze9 g 0 l.length j l x w zN (by omega) hc).mono fun e w' ⟨he,q,hq⟩=>?_;rw[zrC,zqY] at he;refine⟨he,?_⟩;rw[hq];exact xp ((zf0 _ w).alloc zN _) q
 ·obtain rfl:l=[]:=by cases l with|nil=>rfl|cons a l=>simp at h0
  obtain⟨a,j,rfl,-⟩:=h.form;exact zeS a j x.name x.a x.b x.c w
theorem znJ(a:Option Addr)(c:Nat)(x:It)(w:World) :
  zR 137 #[.slice a 0 c,.agg #[x.name,x.a,x.b,x.c]] w (.bool false):=by
 have H:Hid (∀W,zR 92 #[.slice a 0 c,.agg #[x.name,x.a,x.b,x.c]] W (.int .i64 (-1))):=fun W=>zeS a c x.name x.a x.b x.c W;have k0:=Blk.new w 125 #[x.name,x.a,x.b,x.c];have hB:zB w (w.alloc (.cells #[x.name,x.a,x.b,x.c] 125)):=(zf0 _ w).alloc zN _;have HB:=zH hB;clear k0 hB;generalize x.name=n at *;generalize x.a=xa at *;generalize x.b=xb at *;generalize x.c=xc at *;go_enter func137,ntmps137;go_wp2_with fail;refine(H.out _).mono ?_;rintro e w1 ⟨rfl,j⟩;have o:Hid (zB w w1):=zT HB.out j;clear j H HB;go_wp2;go_ret;exact⟨rfl,o.out⟩
theorem zmT(l:List It)(x:It)(v:Value)(w:World)(h:yc w v l)(hl:l.length<=100000) :
  zR 137 #[v,.agg #[x.name,x.a,x.b,x.c]] w (.bool (decide (x∈l))):=by
 by_cases h0:0<l.length
 ·obtain⟨g,j,rfl,hg,hc⟩:=zcB h h0;refine(AnyQ.slices_Contains Tryz.hasItem 4 isAgg125 zvm zQ (fun _=>rfl) _ ze9 g 0 l.length j l x w zN (by omega) hc).mono fun e w' ⟨he,hb⟩=>?_;rw[zrC,zhw] at he;exact⟨he,hb⟩
 ·obtain rfl:l=[]:=by cases l with|nil=>rfl|cons a l=>simp at h0
  obtain⟨a,j,rfl,-⟩:=h.form;exact(znJ a j x w).mono fun e w' ⟨he,hb⟩=>⟨by rw[he];simp,hb⟩
theorem zdI:(prog.info? 125).map (fun i=>(i.zero,i.size,i.bytes))=some (some (.agg #[.string ⟨#[]⟩,(0:Int),(0:Int),(0:Int)]),4,40):=by kernel_rfl
theorem zc7:(prog.info? 107).map (fun i=>(i.zero,i.size,i.bytes))=some (some (.agg #[(0:Int),.string ⟨#[]⟩,(0:Int),(0:Int),(0:Int),.string ⟨#[]⟩,.slice none 0 0]),7,88):=by kernel_rfl
theorem zfm(l:List It):∀u∈zl l,u.oneCell'=true:=by
 intro u hu;obtain⟨x,_,hx⟩:=ztR.1 hu;simp[zQ] at hx;rcases hx with rfl|rfl|rfl|rfl<;>rfl
theorem zfF:∀(l:List Ln) (vs:List Value),(∀v∈vs,v.oneCell'=true)->∀u∈qu l vs,u.oneCell'=true
 |[],_,_,u,hu=>by simp[qu] at hu
 |_ :: _,[],_,u,hu=>by simp[qu] at hu
 |x :: l,v :: vs,h,u,hu=>by
  rw[qu] at hu;rcases zro.1 hu with hu|hu
  ·simp[ZC] at hu;rcases hu with rfl|rfl|rfl|rfl|rfl|rfl|rfl
   all_goals first|rfl|exact h _ (by simp)
  ·exact zfF l vs (fun v hv=>h v (by simp[hv])) u hu
theorem qT.one{w:World}{l:List Ln}{vs:List Value}(h:qT w l vs):∀v∈vs,v.oneCell'=true:=by
 intro v hv;obtain⟨i,hi,rfl⟩:=zrQ hv;have h2:=(h.2 i (by rw[<-h.1];exact hi)).1;obtain⟨a,j,e⟩:=h2.form;rw[zc0,zc5 hi] at e;rw[show vs[i]=_ from e];rfl
theorem zob(l:List It)(v:Value)(w:World)(h:yj w v l.length (zl l))(hl:l.length<=100000) :
  zC 90 #[v] w fun e w'=>∃v',e=.returned v'/\w'.ownsRow w 125 4 v' l.length (zl l)/\zB w w':=by
 obtain⟨i0,hi,y,C,J⟩:=info_parts zdI;obtain⟨a,p,rfl,hn,-,-,q⟩:=h.form;rcases q with rfl|⟨g,rfl⟩
 ·obtain rfl:l=[]:=by
   cases l with
   |nil=>rfl
   |cons x l=>obtain⟨g,o,e,_⟩:=h.cells (by simp);simp at e
  refine(AnyE.slices_Clone_nil Tryz.clnItem 0 p w).mono fun e w' ⟨he,hw⟩=>⟨_,he,zrp _ _ _ _,by rw[hw];exact zf0 _ _⟩
 ·refine(AnyE.slices_Clone Tryz.clnItem i0 _ 4 40 hi y C J rfl (by decide) zvm g 0 l.length p (zl l) w (xQ l) (by unfold maxLen;omega) (by omega) (fun j u hu=>?_) (zfm l)).mono fun e w' ⟨v',he,h1,_,h3⟩=>⟨v',he,h1,h3⟩;have h0:0<l.length:=by
   have:=(zrJ.1 hu).1;rw[xQ l] at this;omega
  obtain⟨g',o,e,hg,hc⟩:=h.cells h0;simp at e;obtain⟨rfl,rfl⟩:=e;rw[zrI];exact hc j u hu
theorem zgH(l:List Ln)(vs:List Value)(hvs:vs.length=l.length)(hv1:∀v∈vs,v.oneCell'=true)(v:Value)(w:World)(h:yj w v l.length (qu l vs))(hl:l.length<=100000) :
  zC 87 #[v] w fun e w'=>∃v',e=.returned v'/\w'.ownsRow w 107 7 v' l.length (qu l vs)/\zB w w':=by
 obtain⟨i0,hi,C,J,K⟩:=info_parts zc7;obtain⟨a,p,rfl,hn,-,-,q⟩:=h.form;rcases q with rfl|⟨g,rfl⟩
 ·obtain rfl:l=[]:=by
   cases l with
   |nil=>rfl
   |cons x l=>obtain⟨g,o,e,_⟩:=h.cells (by simp);simp at e
  have y:qu [] vs=[]:=by cases vs<;>rfl
  rw[y];refine(AnyE.slices_Clone_nil Tryz.clnLine 0 p w).mono fun e w' ⟨he,hw⟩=>⟨_,he,zrp _ _ _ _,by rw[hw];exact zf0 _ _⟩
 ·refine(AnyE.slices_Clone Tryz.clnLine i0 _ 7 88 hi C J K rfl (by decide) sizeOf107 g 0 l.length p (qu l vs) w (Jl l vs hvs) (by unfold maxLen;omega) (by omega) (fun j u hu=>?_) (zfF l vs hv1)).mono fun e w' ⟨v',he,h1,_,h3⟩=>⟨v',he,h1,h3⟩;have h0:0<l.length:=by
   have:=(zrJ.1 hu).1;rw[Jl l vs hvs] at this;omega
  obtain⟨g',o,e,hg,hc⟩:=h.cells h0;simp at e;obtain⟨rfl,rfl⟩:=e;rw[zrI];exact hc j u hu
end
