/- check: what it asks. -/
import Derived.Shelf.SlSortCmp.NoneTotal
import Derived.Shelf.SlicesQ.Contains
import Derived.Shelf.SlicesE.Clone
import Derived.Shelf.Spec.SlicesInsertGrow
import Derived.Test.YtiihalknffbjpaaGreatDoorErAt
open Go.Proofs.YtiihalknffbjpaaGreatDoor
set_option maxHeartbeats 1000000
set_option maxRecDepth 100000
namespace Go.Proofs
open Go.Shelf
def Tryz.sortItem_ren:Go.Shelf.Ren:=⟨fun|6=>265|15=>307|14=>306|28=>341|29=>293|20=>333|21=>334|22=>335|23=>336|24=>337|25=>338|26=>339|27=>340|46=>353|47=>354|48=>355|49=>356|50=>357|57=>364|n=>n,fun|22=>111|24=>114|25=>396|3=>3|39=>48|0=>0|53=>417|55=>165|4=>4|46=>450|45=>449|50=>289|5=>5|9=>9|66=>471|70=>475|76=>482|77=>187|n=>n,fun|n=>n⟩
theorem Tryz.sortItem:Go.Proofs.SlLaysF0.n6 Tryz.prog Tryz.sortItem_ren:={
 zdx:=by kernel_rfl
 f6:=⟨Tryz.f265.name,by decide,zK Tryz.func265 (by kernel_rfl)⟩
 f14:=⟨Tryz.f306.name,by decide,zK Tryz.func306 (by kernel_rfl)⟩
 f15:=zK Tryz.func307 (by kernel_rfl)
 f20:=⟨Tryz.f333.name,by decide,zK Tryz.func333 (by kernel_rfl)⟩
 f21:=⟨Tryz.f334.name,by decide,zK Tryz.func334 (by kernel_rfl)⟩
 f22:=⟨Tryz.f335.name,by decide,zK Tryz.func335 (by kernel_rfl)⟩
 f23:=⟨Tryz.f336.name,by decide,zK Tryz.func336 (by kernel_rfl)⟩
 f24:=⟨Tryz.f337.name,by decide,zK Tryz.func337 (by kernel_rfl)⟩
 f25:=⟨Tryz.f338.name,by decide,zK Tryz.func338 (by kernel_rfl)⟩
 f26:=⟨Tryz.f339.name,by decide,zK Tryz.func339 (by kernel_rfl)⟩
 f27:=⟨Tryz.f340.name,by decide,zK Tryz.func340 (by kernel_rfl)⟩
 f28:=zK Tryz.func341 (by kernel_rfl)
 f29:=zK Tryz.func293 (by kernel_rfl)
 f46:=⟨Tryz.f353.name,by decide,zK Tryz.func353 (by kernel_rfl)⟩
 f47:=zK Tryz.func354 (by kernel_rfl)
 f48:=zK Tryz.func355 (by kernel_rfl)
 f49:=⟨Tryz.f356.name,by decide,zK Tryz.func356 (by kernel_rfl)⟩
 f50:=⟨Tryz.f357.name,by decide,zK Tryz.func357 (by kernel_rfl)⟩
 f57:=⟨Tryz.f364.name,by decide,zK Tryz.func364 (by kernel_rfl)⟩
 t0:=Tryz.underlying0
 a0:=Tryz.isAgg0
 z0:=Tryz.sizeOf0
 v0:=Tryz.zeroValue0
 t3:=Tryz.underlying3
 a3:=Tryz.isAgg3
 z3:=Tryz.sizeOf3
 v3:=Tryz.zeroValue3
 t4:=Tryz.underlying4
 a4:=Tryz.isAgg4
 z4:=Tryz.sizeOf4
 v4:=Tryz.zeroValue4
 t5:=Tryz.underlying5
 a5:=Tryz.isAgg5
 z5:=Tryz.sizeOf5
 v5:=Tryz.zeroValue5
 t9:=Tryz.underlying9
 a9:=Tryz.isAgg9
 z9:=Tryz.sizeOf9
 v9:=Tryz.zeroValue9
 t22:=Tryz.underlying111
 a22:=Tryz.isAgg111
 z22:=Tryz.sizeOf111
 v22:=Tryz.zeroValue111
 t25:=Tryz.underlying396
 a25:=Tryz.isAgg396
 z25:=Tryz.sizeOf396
 v25:=Tryz.zeroValue396
 t39:=Tryz.underlying48
 a39:=Tryz.isAgg48
 z39:=Tryz.sizeOf48
 v39:=Tryz.zeroValue48
 t45:=Tryz.underlying449
 a45:=Tryz.isAgg449
 z45:=Tryz.sizeOf449
 v45:=Tryz.zeroValue449
 t46:=Tryz.underlying450
 a46:=Tryz.isAgg450
 z46:=Tryz.sizeOf450
 v46:=Tryz.zeroValue450
 t50:=Tryz.underlying289
 a50:=Tryz.isAgg289
 z50:=Tryz.sizeOf289
 v50:=Tryz.zeroValue289
 t53:=Tryz.underlying417
 a53:=Tryz.isAgg417
 z53:=Tryz.sizeOf417
 v53:=Tryz.zeroValue417
 t55:=Tryz.underlying165
 a55:=Tryz.isAgg165
 z55:=Tryz.sizeOf165
 v55:=Tryz.zeroValue165
 t66:=Tryz.underlying471
 a66:=Tryz.isAgg471
 z66:=Tryz.sizeOf471
 v66:=Tryz.zeroValue471
 t70:=Tryz.underlying475
 a70:=Tryz.isAgg475
 z70:=Tryz.sizeOf475
 v70:=Tryz.zeroValue475
 t76:=Tryz.underlying482
 a76:=Tryz.isAgg482
 z76:=Tryz.sizeOf482
 v76:=Tryz.zeroValue482
 t77:=Tryz.underlying187
 a77:=Tryz.isAgg187
 z77:=Tryz.sizeOf187
 v77:=Tryz.zeroValue187 }
def Tryz.ixItem_ren:Go.Shelf.Ren:=⟨fun|6=>195|n=>n,fun|22=>111|24=>114|3=>3|0=>0|4=>4|n=>n,fun|n=>n⟩
theorem Tryz.ixItem:Go.Proofs.SlLaysQ.n6 Tryz.prog Tryz.ixItem_ren:={
 zdx:=by kernel_rfl
 f6:=⟨Tryz.f195.name,by decide,zK Tryz.func195 (by kernel_rfl)⟩
 t0:=Tryz.underlying0
 a0:=Tryz.isAgg0
 z0:=Tryz.sizeOf0
 v0:=Tryz.zeroValue0
 t3:=Tryz.underlying3
 a3:=Tryz.isAgg3
 z3:=Tryz.sizeOf3
 v3:=Tryz.zeroValue3
 t4:=Tryz.underlying4
 a4:=Tryz.isAgg4
 z4:=Tryz.sizeOf4
 v4:=Tryz.zeroValue4
 t22:=Tryz.underlying111
 a22:=Tryz.isAgg111
 z22:=Tryz.sizeOf111
 v22:=Tryz.zeroValue111 }
def Tryz.hasItem_ren:Go.Shelf.Ren:=⟨fun|7=>264|6=>195|n=>n,fun|22=>111|24=>114|4=>4|0=>0|3=>3|n=>n,fun|n=>n⟩
theorem Tryz.hasItem:Go.Proofs.SlLaysQ.n7 Tryz.prog Tryz.hasItem_ren:={
 zdx:=by kernel_rfl
 f6:=⟨Tryz.f195.name,by decide,zK Tryz.func195 (by kernel_rfl)⟩
 f7:=⟨Tryz.f264.name,by decide,zK Tryz.func264 (by kernel_rfl)⟩
 t0:=Tryz.underlying0
 a0:=Tryz.isAgg0
 z0:=Tryz.sizeOf0
 v0:=Tryz.zeroValue0
 t3:=Tryz.underlying3
 a3:=Tryz.isAgg3
 z3:=Tryz.sizeOf3
 v3:=Tryz.zeroValue3
 t4:=Tryz.underlying4
 a4:=Tryz.isAgg4
 z4:=Tryz.sizeOf4
 v4:=Tryz.zeroValue4
 t22:=Tryz.underlying111
 a22:=Tryz.isAgg111
 z22:=Tryz.sizeOf111
 v22:=Tryz.zeroValue111 }
def Tryz.clnLine_ren:Go.Shelf.Ren:=⟨fun|41=>128|n=>n,fun|22=>109|23=>130|4=>4|n=>n,fun|n=>n⟩
theorem Tryz.clnLine:Go.Proofs.SlLaysE0.n41 Tryz.prog Tryz.clnLine_ren:={
 zdx:=by kernel_rfl
 f41:=⟨Tryz.f128.name,by decide,zK Tryz.func128 (by kernel_rfl)⟩
 t4:=Tryz.underlying4
 a4:=Tryz.isAgg4
 z4:=Tryz.sizeOf4
 v4:=Tryz.zeroValue4
 t22:=Tryz.underlying109
 a22:=Tryz.isAgg109
 z22:=Tryz.sizeOf109
 v22:=Tryz.zeroValue109 }
def Tryz.clnItem_ren:Go.Shelf.Ren:=⟨fun|41=>129|n=>n,fun|22=>111|23=>114|4=>4|n=>n,fun|n=>n⟩
theorem Tryz.clnItem:Go.Proofs.SlLaysE0.n41 Tryz.prog Tryz.clnItem_ren:={
 zdx:=by kernel_rfl
 f41:=⟨Tryz.f129.name,by decide,zK Tryz.func129 (by kernel_rfl)⟩
 t4:=Tryz.underlying4
 a4:=Tryz.isAgg4
 z4:=Tryz.sizeOf4
 v4:=Tryz.zeroValue4
 t22:=Tryz.underlying111
 a22:=Tryz.isAgg111
 z22:=Tryz.sizeOf111
 v22:=Tryz.zeroValue111 }
def Tryz.insInt_ren:Go.Shelf.Ren:=⟨fun|21=>154|27=>219|28=>220|35=>281|39=>317|n=>n,fun|22=>47|3=>3|4=>4|0=>0|n=>n,fun|n=>n⟩
theorem Tryz.insInt:Go.Proofs.Lays2.n21 Tryz.prog Tryz.insInt_ren:={
 zdx:=by kernel_rfl
 f21:=zK Tryz.func154 (by kernel_rfl)
 f27:=zK Tryz.func219 (by kernel_rfl)
 f28:=zK Tryz.func220 (by kernel_rfl)
 f35:=zK Tryz.func281 (by kernel_rfl)
 f39:=zK Tryz.func317 (by kernel_rfl)
 t0:=Tryz.underlying0
 a0:=Tryz.isAgg0
 z0:=Tryz.sizeOf0
 v0:=Tryz.zeroValue0
 t3:=Tryz.underlying3
 a3:=Tryz.isAgg3
 z3:=Tryz.sizeOf3
 v3:=Tryz.zeroValue3
 t4:=Tryz.underlying4
 a4:=Tryz.isAgg4
 z4:=Tryz.sizeOf4
 v4:=Tryz.zeroValue4
 t22:=Tryz.underlying47
 a22:=Tryz.isAgg47
 z22:=Tryz.sizeOf47
 v22:=Tryz.zeroValue47
 i3:=by kernel_rfl }
end Go.Proofs
namespace Go.Proofs.YtiihalknffbjpaaGreatDoor
section
open Go.RowKit Go.Shelf Go.Lib Sv
theorem eq3(a b c a' b' c':Int)(w:World):(Op.equalIn 9999 84 (.agg #[.int .i64 a,.int .i64 b,.int .i64 c]) (.agg #[.int .i64 a',.int .i64 b',.int .i64 c'])).run Tryz.prog w=.ok (a==a'&&(b==b'&&c==c')) w:=by
 have u3:=Tryz.underlying3;have a3:=Tryz.isAgg3;have z3:=Tryz.sizeOf3;rw[show (9999:Nat)=9998+1 from rfl,Op.equalIn];simp only[Sem.run_bind,run_underlying Tryz.underlying84,Result.andThen_ok];simp only[Std.Legacy.Range.forIn_eq_forIn_range',Std.Legacy.Range.size,Nat.sub_zero,Nat.add_sub_cancel,Nat.div_one,List.range'_succ,List.range'_zero,List.forIn_cons,List.forIn_nil]
 by_cases h1:a=a'
 ·by_cases h2:b=b'
  ·by_cases h3:c=c'
   ·subst h1 h2 h3;go_simp
   ·have e3:(c==c')=false:=by simpa using h3
    subst h1 h2;go_simp
  ·have e2:(b==b')=false:=by simpa using h2
   subst h1;go_simp
 ·have e1:(a==a')=false:=by simpa using h1
  go_simp
theorem zx7:EqlAt Tryz.prog 114 (fun x=>.agg (za8 x).toArray) (fun x y=>decide (x=y)):=by
 refine⟨fun x y w=>?_,GuardAt.agg _ (by kernel_rfl)⟩;have u3:=Tryz.underlying3;have a3:=Tryz.isAgg3;have z3:=Tryz.sizeOf3;have u9:=Tryz.underlying9;have a9:=Tryz.isAgg9;have z9:=Tryz.sizeOf9;have av:=Tryz.isAgg84;have zv:=Tryz.sizeOf84;have hS:Tryz.prog.underlying 114=some (.struct (Tryz.prog.fieldsOf 114)):=by kernel_rfl
 have hp:Tryz.prog.stoodInHeld 114=false:=by kernel_rfl
 have he:decide (x=y)=(x.name.toList==y.name.toList&&(x.a==y.a&&(x.b==y.b&&x.c==y.c))):=by
  obtain⟨n,a,b,c⟩:=x;obtain⟨n',a',b',c'⟩:=y;rw[Bool.eq_iff_iff];simp only[decide_eq_true_eq,It.mk.injEq,Bool.and_eq_true,beq_iff_eq];constructor
  ·rintro⟨rfl,rfl,rfl,rfl⟩;exact⟨rfl,rfl,rfl,rfl⟩
  ·rintro⟨h,rfl,rfl,rfl⟩;exact⟨zbt h,rfl,rfl,rfl⟩
 show (binOp .eql 114 (.agg (za8 x).toArray) (.agg (za8 y).toArray)).run Tryz.prog w=.ok (.bool (decide (x=y))) w;rw[he];simp only[za8];have h3:=eq3 x.a x.b x.c y.a y.b y.c;generalize x.name=n at *;generalize y.name=n' at *;generalize x.a=a at *;generalize x.b=b at *;generalize x.c=c at *;generalize y.a=a' at *;generalize y.b=b' at *;generalize y.c=c' at *;generalize (a==a'&&(b==b'&&c==c'))=q at *;clear he;rw[run_eql_struct,show (10000:Nat)=9999+1 from rfl,run_equalIn_agg w 9999 114 _ _ hS hp];simp only[Program.fieldsOf,Tryz.underlying114];cases hn:(n.toList==n'.toList)<;>cases q<;>go_simp
end
section
open Go.RowKit Sv
theorem zk1(va:Option Addr)(vl vc:Nat)(a b c:Int)(hx:a<0)(w:World) :
  zR 218 #[.agg #[.slice va vl vc],.agg #[.int .i64 a,.int .i64 b,.int .i64 c]] w (.bool false):=by
 have hB0:zB w ((w.alloc (.cells #[.slice va vl vc] 128)).alloc (.cells #[.int .i64 a,.int .i64 b,.int .i64 c] 84)):=((Below.refl _ w).alloc zN _).alloc (by simp only[World.size_alloc];omega) _;have HB0:=zH hB0;clear hB0;go_enter Tryz.func218,Tryz.ntmps218;go_wp2_with fail;generalize (w.alloc (.cells #[.slice va vl vc] 128)).alloc (.cells #[.int .i64 a,.int .i64 b,.int .i64 c] 84)=W0 at *;go_loop [10] (fun i=>∃k:Nat,k<=0/\i=.int .i64 k) (fun i=>3-(intOf i).toNat)
 case atStart=>exact⟨0,by omega,rfl⟩
 case round =>
  obtain⟨k,hk,rfl⟩:=hrel
  match k,hk with
  |0,_ =>have hix:=zue a b c W0;go_wp2;go_ret;exact⟨rfl,HB0.out⟩
theorem zkY(va:Option Addr)(vl vc:Nat)(a b c:Int)(hx0:¬a<0)(hx:999<a)(w:World) :
  zR 218 #[.agg #[.slice va vl vc],.agg #[.int .i64 a,.int .i64 b,.int .i64 c]] w (.bool false):=by
 have hB0:zB w ((w.alloc (.cells #[.slice va vl vc] 128)).alloc (.cells #[.int .i64 a,.int .i64 b,.int .i64 c] 84)):=((Below.refl _ w).alloc zN _).alloc (by simp only[World.size_alloc];omega) _;have HB0:=zH hB0;clear hB0;go_enter Tryz.func218,Tryz.ntmps218;go_wp2_with fail;generalize (w.alloc (.cells #[.slice va vl vc] 128)).alloc (.cells #[.int .i64 a,.int .i64 b,.int .i64 c] 84)=W0 at *;go_loop [10] (fun i=>∃k:Nat,k<=0/\i=.int .i64 k) (fun i=>3-(intOf i).toNat)
 case atStart=>exact⟨0,by omega,rfl⟩
 case round =>
  obtain⟨k,hk,rfl⟩:=hrel
  match k,hk with
  |0,_ =>have hix:=zue a b c W0;go_wp2;go_ret;exact⟨rfl,HB0.out⟩
theorem zks(va:Option Addr)(vl vc:Nat)(a b c:Int)(ha0:¬a<0)(ha1:¬999<a)(hx:b<0)(w:World) :
  zR 218 #[.agg #[.slice va vl vc],.agg #[.int .i64 a,.int .i64 b,.int .i64 c]] w (.bool false):=by
 have hB0:zB w ((w.alloc (.cells #[.slice va vl vc] 128)).alloc (.cells #[.int .i64 a,.int .i64 b,.int .i64 c] 84)):=((Below.refl _ w).alloc zN _).alloc (by simp only[World.size_alloc];omega) _;have HB0:=zH hB0;clear hB0;go_enter Tryz.func218,Tryz.ntmps218;go_wp2_with fail;generalize (w.alloc (.cells #[.slice va vl vc] 128)).alloc (.cells #[.int .i64 a,.int .i64 b,.int .i64 c] 84)=W0 at *;go_loop [10] (fun i=>∃k:Nat,k<=1/\i=.int .i64 k) (fun i=>3-(intOf i).toNat)
 case atStart=>exact⟨0,by omega,rfl⟩
 case round =>
  obtain⟨k,hk,rfl⟩:=hrel
  match k,hk with
  |0,_ =>
   have hix:=zue a b c W0;go_wp2;go_round
   case rel=>exact⟨1,by omega,rfl⟩
   case measure=>simp[intOf]
  |1,_ =>have hix:=zxn a b c W0;go_wp2;go_ret;exact⟨rfl,HB0.out⟩
theorem zkz(va:Option Addr)(vl vc:Nat)(a b c:Int)(ha0:¬a<0)(ha1:¬999<a)(hx0:¬b<0)(hx:999<b)(w:World) :
  zR 218 #[.agg #[.slice va vl vc],.agg #[.int .i64 a,.int .i64 b,.int .i64 c]] w (.bool false):=by
 have hB0:zB w ((w.alloc (.cells #[.slice va vl vc] 128)).alloc (.cells #[.int .i64 a,.int .i64 b,.int .i64 c] 84)):=((Below.refl _ w).alloc zN _).alloc (by simp only[World.size_alloc];omega) _;have HB0:=zH hB0;clear hB0;go_enter Tryz.func218,Tryz.ntmps218;go_wp2_with fail;generalize (w.alloc (.cells #[.slice va vl vc] 128)).alloc (.cells #[.int .i64 a,.int .i64 b,.int .i64 c] 84)=W0 at *;go_loop [10] (fun i=>∃k:Nat,k<=1/\i=.int .i64 k) (fun i=>3-(intOf i).toNat)
 case atStart=>exact⟨0,by omega,rfl⟩
 case round =>
  obtain⟨k,hk,rfl⟩:=hrel
  match k,hk with
  |0,_ =>
   have hix:=zue a b c W0;go_wp2;go_round
   case rel=>exact⟨1,by omega,rfl⟩
   case measure=>simp[intOf]
  |1,_ =>have hix:=zxn a b c W0;go_wp2;go_ret;exact⟨rfl,HB0.out⟩
theorem zkZ(va:Option Addr)(vl vc:Nat)(a b c:Int)(ha0:¬a<0)(ha1:¬999<a)(hb0:¬b<0)(hb1:¬999<b)(hx:c<0)(w:World) :
  zR 218 #[.agg #[.slice va vl vc],.agg #[.int .i64 a,.int .i64 b,.int .i64 c]] w (.bool false):=by
 have hB0:zB w ((w.alloc (.cells #[.slice va vl vc] 128)).alloc (.cells #[.int .i64 a,.int .i64 b,.int .i64 c] 84)):=((Below.refl _ w).alloc zN _).alloc (by simp only[World.size_alloc];omega) _;have HB0:=zH hB0;clear hB0;go_enter Tryz.func218,Tryz.ntmps218;go_wp2_with fail;generalize (w.alloc (.cells #[.slice va vl vc] 128)).alloc (.cells #[.int .i64 a,.int .i64 b,.int .i64 c] 84)=W0 at *;go_loop [10] (fun i=>∃k:Nat,k<=2/\i=.int .i64 k) (fun i=>3-(intOf i).toNat)
 case atStart=>exact⟨0,by omega,rfl⟩
 case round =>
  obtain⟨k,hk,rfl⟩:=hrel
  match k,hk with
  |0,_ =>
   have hix:=zue a b c W0;go_wp2;go_round
   case rel=>exact⟨1,by omega,rfl⟩
   case measure=>simp[intOf]
  |1,_ =>
   have hix:=zxn a b c W0;go_wp2;go_round
   case rel=>exact⟨2,by omega,rfl⟩
   case measure=>simp[intOf]
  |2,_ =>have hix:=zxH a b c W0;go_wp2;go_ret;exact⟨rfl,HB0.out⟩
theorem zlH(va:Option Addr)(vl vc:Nat)(a b c:Int)(ha0:¬a<0)(ha1:¬999<a)(hb0:¬b<0)(hb1:¬999<b)(hx0:¬c<0)(hx:999<c)(w:World) :
  zR 218 #[.agg #[.slice va vl vc],.agg #[.int .i64 a,.int .i64 b,.int .i64 c]] w (.bool false):=by
 have hB0:zB w ((w.alloc (.cells #[.slice va vl vc] 128)).alloc (.cells #[.int .i64 a,.int .i64 b,.int .i64 c] 84)):=((Below.refl _ w).alloc zN _).alloc (by simp only[World.size_alloc];omega) _;have HB0:=zH hB0;clear hB0;go_enter Tryz.func218,Tryz.ntmps218;go_wp2_with fail;generalize (w.alloc (.cells #[.slice va vl vc] 128)).alloc (.cells #[.int .i64 a,.int .i64 b,.int .i64 c] 84)=W0 at *;go_loop [10] (fun i=>∃k:Nat,k<=2/\i=.int .i64 k) (fun i=>3-(intOf i).toNat)
 case atStart=>exact⟨0,by omega,rfl⟩
 case round =>
  obtain⟨k,hk,rfl⟩:=hrel
  match k,hk with
  |0,_ =>
   have hix:=zue a b c W0;go_wp2;go_round
   case rel=>exact⟨1,by omega,rfl⟩
   case measure=>simp[intOf]
  |1,_ =>
   have hix:=zxn a b c W0;go_wp2;go_round
   case rel=>exact⟨2,by omega,rfl⟩
   case measure=>simp[intOf]
  |2,_ =>have hix:=zxH a b c W0;go_wp2;go_ret;exact⟨rfl,HB0.out⟩
theorem zwn(va:Option Addr)(vl vc:Nat)(a b c:Int)(h:¬((0<=a/\a<=999)/\(0<=b/\b<=999)/\(0<=c/\c<=999)))(w:World) :
  zR 218 #[.agg #[.slice va vl vc],.agg #[.int .i64 a,.int .i64 b,.int .i64 c]] w (.bool false):=by
 by_cases a0:a<0
 ·exact zk1 va vl vc a b c a0 w
 by_cases a1:999<a
 ·exact zkY va vl vc a b c a0 a1 w
 by_cases b0:b<0
 ·exact zks va vl vc a b c a0 a1 b0 w
 by_cases b1:999<b
 ·exact zkz va vl vc a b c a0 a1 b0 b1 w
 by_cases c0:c<0
 ·exact zkZ va vl vc a b c a0 a1 b0 b1 c0 w
 by_cases c1:999<c
 ·exact zlH va vl vc a b c a0 a1 b0 b1 c0 c1 w
 exact absurd ⟨⟨by omega,by omega⟩,⟨by omega,by omega⟩,⟨by omega,by omega⟩⟩ h
end
section
open Go.RowKit Sv
theorem zbI(s:ByteArray)(w:World)(h:zaj s):zC 305 #[.string s] w fun e w'=>e=.returned (.bool true)/\w=w':=(zl4 s w).mono fun _ _ ⟨h1,h2⟩=>⟨h1.1 h,h2⟩
theorem zfB(s:ByteArray)(w:World)(h:¬zaj s):zC 305 #[.string s] w fun e w'=>e=.returned (.bool false)/\w=w':=(zl4 s w).mono fun _ _ ⟨h1,h2⟩=>⟨h1.2 h,h2⟩
open Classical in
theorem zyb(l:List zau)(hl:Rg l)(va:Option Addr)(vc:Nat)(x:It)(w:World)(hv:zaZ w (.slice va l.length vc) l) :
  zR 218 #[.agg #[.slice va l.length vc],.agg #[.int .i64 x.a,.int .i64 x.b,.int .i64 x.c]] w (.bool (decide (ziY l x))):=by
 by_cases h:InV x.a x.b x.c
 ·obtain⟨n,a,b,c⟩:=x;obtain⟨a',rfl⟩:∃a':Nat,a=(a':Int):=⟨a.toNat,by have:=h.1;simp only at this;omega⟩;obtain⟨b',rfl⟩:∃b':Nat,b=(b':Int):=⟨b.toNat,by have:=h.2.1;simp only at this;omega⟩;obtain⟨c',rfl⟩:∃c':Nat,c=(c':Int):=⟨c.toNat,by have:=h.2.2;simp only at this;omega⟩;have h1:=h.1;have h2:=h.2.1;have h3:=h.2.2;simp only at h1 h2 h3;refine(ziv l hl (.slice va l.length vc) a' b' c' (by omega) (by omega) (by omega) w hv).mono fun e w' ⟨B,he,hB,hb⟩=>⟨?_,hb⟩;rw[he];congr 2;rw[Bool.eq_iff_iff,hB,decide_eq_true_eq];unfold ziY;simp only[Int.toNat_natCast];exact⟨fun h'=>⟨h,h'⟩,fun h'=>h'.2⟩
 ·refine(zwn va l.length vc x.a x.b x.c h w).mono fun e w' ⟨he,hb⟩=>⟨?_,hb⟩;rw[he];congr 2;symm;rw[decide_eq_false_iff_not];exact fun h'=>h h'.1
theorem zmI(va:Option Addr)(vc:Nat)(a b c:Int)(w:World)(hv:zaZ w (.slice va zbc.length vc) zbc) :
  zR 218 #[.agg #[.slice va zbc.length vc],.agg #[.int .i64 a,.int .i64 b,.int .i64 c]] w (.bool (decide (InV a b c))):=by
 refine(zyb zbc zjs va vc ⟨⟨#[]⟩,a,b,c⟩ w hv).mono fun e w' ⟨he,hb⟩=>⟨?_,hb⟩;rw[he];congr 2;rw[Bool.eq_iff_iff];simp only[decide_eq_true_eq];unfold ziY;constructor
 ·exact fun h=>h.1
 ·intro h;refine⟨h,zuP.2 ?_⟩;obtain⟨h1,h2,h3⟩:=h;simp only;unfold zqL ALL;omega
theorem zrk(ra:Option Addr)(rc:Nat)(w:World):zR 276 #[.agg #[.slice ra 0 rc]] w (.bool true):=by
 have hB:Hid (zB w (w.alloc (.cells #[.slice ra 0 rc] 128))):=(Below.refl _ w).alloc zN _;go_enter Tryz.func276,Tryz.ntmps276;go_wp2;go_ret;exact⟨rfl,hB.out⟩
theorem ztu(ra:Option Addr)(rn rc:Nat)(w:World)(h:0<rn):zR 276 #[.agg #[.slice ra rn rc]] w (.bool false):=by
 have hB:Hid (zB w (w.alloc (.cells #[.slice ra rn rc] 128))):=(Below.refl _ w).alloc zN _;have hz:((rn:Int)==0)=false:=by rw[beq_eq_false_iff_ne];omega
 go_enter Tryz.func276,Tryz.ntmps276;go_wp2;go_ret;exact⟨rfl,hB.out⟩
theorem zx3(a b c a' b' c':Int)(w:World):(Op.equalIn 10000 84 (.agg #[.int .i64 a,.int .i64 b,.int .i64 c]) (.agg #[.int .i64 a',.int .i64 b',.int .i64 c'])).run Tryz.prog w=.ok (a==a'&&(b==b'&&c==c')) w:=by
 have u3:=Tryz.underlying3;have a3:=Tryz.isAgg3;have z3:=Tryz.sizeOf3;rw[show (10000:Nat)=9999+1 from rfl,Op.equalIn];simp only[Sem.run_bind,run_underlying Tryz.underlying84,Result.andThen_ok];simp only[Std.Legacy.Range.forIn_eq_forIn_range',Std.Legacy.Range.size,Nat.sub_zero,Nat.add_sub_cancel,Nat.div_one,List.range'_succ,List.range'_zero,List.forIn_cons,List.forIn_nil]
 by_cases h1:a=a'
 ·by_cases h2:b=b'
  ·by_cases h3:c=c'
   ·subst h1 h2 h3;go_simp
   ·have e3:(c==c')=false:=by simpa using h3
    subst h1 h2;go_simp
  ·have e2:(b==b')=false:=by simpa using h2
   subst h1;go_simp
 ·have e1:(a==a')=false:=by simpa using h1
  go_simp
end
end Go.Proofs.YtiihalknffbjpaaGreatDoor
