/- errors.As, api.Tell, plain.Place and the laws' 'at': also of an error at a place. -/
import Derived.Test.YtiihalknffbjpaaGreatDoorCtMap
import Derived.Shelf.SlSortCmp.NoneTotal
import Derived.Shelf.SlicesQ.Contains
import Derived.Shelf.SlicesE.Clone
import Derived.Shelf.Spec.SlicesInsertGrow
open Go.Proofs.YtiihalknffbjpaaGreatDoor
set_option maxHeartbeats 4000000
set_option maxRecDepth 100000
namespace Go.Proofs.YtiihalknffbjpaaGreatDoor
open Go.RowKit Sv
theorem yk(x:Ln)(v:Value)(w:World) :
  zC 135 #[.agg #[.int .i64 x.kind,.string x.name,.int .i64 x.a,.int .i64 x.b,.int .i64 x.c,.string x.other,v]] w fun e w'=>e=.returned (.bool (decide x.pair))/\w'=w.alloc (.cells #[.int .i64 x.kind,.string x.name,.int .i64 x.a,.int .i64 x.b,.int .i64 x.c,.string x.other,v] 130):=by
 have hd:decide x.pair=(decide (x.kind=2)||decide (x.kind=3)):=by
  by_cases h2:x.kind=2<;>by_cases h3:x.kind=3<;>simp[Ln.pair,h2,h3]
 rw[hd];clear hd;generalize x.kind=k
 by_cases h2:k=2
 ·subst h2;go_enter Tryz.func135,Tryz.ntmps135;go_wp2;go_ret;exact⟨rfl,rfl⟩
 ·by_cases h3:k=3
  ·subst h3;go_enter Tryz.func135,Tryz.ntmps135;go_wp2;go_ret;exact⟨rfl,rfl⟩
  ·have e2:(k==2)=false:=by simpa using h2
   have e3:(k==3)=false:=by simpa using h3
   have HD:Hid ((decide (k=2)||decide (k=3))=false):=by show _=_;simp[h2,h3]
   go_enter Tryz.func135,Tryz.ntmps135;go_wp2;go_ret;exact⟨by rw[HD.out];rfl,rfl⟩
def wl:Nat->List UInt8
 |1=>[112,97,99,107,97,103,101]
 |2=>[110,101,101,100,115]
 |3=>[99,108,97,115,104,101,115]
 |4=>[114,111,111,116]
 |_=>[]
structure Zz(w:World):Prop where
 c0:w.cell? ⟨3,0,none⟩=some (.string ⟨#[]⟩)
 c1:w.cell? ⟨3,1,none⟩=some (.string ⟨#[112,97,99,107,97,103,101]⟩)
 c2:w.cell? ⟨3,2,none⟩=some (.string ⟨#[110,101,101,100,115]⟩)
 c3:w.cell? ⟨3,3,none⟩=some (.string ⟨#[99,108,97,115,104,101,115]⟩)
 c4:w.cell? ⟨3,4,none⟩=some (.string ⟨#[114,111,111,116]⟩)
theorem Zz.below{B:Nat}{w w':World}(h:Zz w)(hb:Below B w w')(hB:3<B):Zz w' :=
 ⟨(hb.cell (p:=⟨3,0,none⟩) hB).trans h.c0,(hb.cell (p:=⟨3,1,none⟩) hB).trans h.c1,(hb.cell (p:=⟨3,2,none⟩) hB).trans h.c2,(hb.cell (p:=⟨3,3,none⟩) hB).trans h.c3,(hb.cell (p:=⟨3,4,none⟩) hB).trans h.c4⟩
abbrev Yp:Value:=.agg #[.string ⟨#[]⟩,.string ⟨#[112,97,99,107,97,103,101]⟩,.string ⟨#[110,101,101,100,115]⟩,.string ⟨#[99,108,97,115,104,101,115]⟩,.string ⟨#[114,111,111,116]⟩]
theorem wix(W:World):(Instr.index 330 Yp (.int .i64 0)).run Tryz.prog W=.ok (.string ⟨#[]⟩) W/\(Instr.index 330 Yp (.int .i64 1)).run Tryz.prog W=.ok (.string ⟨#[112,97,99,107,97,103,101]⟩) W/\(Instr.index 330 Yp (.int .i64 2)).run Tryz.prog W=.ok (.string ⟨#[110,101,101,100,115]⟩) W/\(Instr.index 330 Yp (.int .i64 3)).run Tryz.prog W=.ok (.string ⟨#[99,108,97,115,104,101,115]⟩) W/\(Instr.index 330 Yp (.int .i64 4)).run Tryz.prog W=.ok (.string ⟨#[114,111,111,116]⟩) W:=by
 refine⟨?_,?_,?_,?_,?_⟩<;>kernel_rfl
theorem zaG{s:ByteArray}{k:Nat}(hk:1<=k)(hk4:k<=4)(h:s.toList=wl k):zw s=k:=by
 match k,hk,hk4,h with
 |1,_,_,h=>unfold zw;rw[h];rfl
 |2,_,_,h=>unfold zw;rw[h];rfl
 |3,_,_,h=>unfold zw;rw[h];rfl
 |4,_,_,h=>unfold zw;rw[h];rfl
theorem zb3{s:ByteArray}(h:s.toList=[]\/∀j,j<5->s.toList≠wl j):zw s=0:=by
 rcases h with h|h
 ·unfold zw;rw[h];rfl
 ·unfold zw;have h1:s.toList≠[112,97,99,107,97,103,101]:=h 1 (by omega);have h2:s.toList≠[110,101,101,100,115]:=h 2 (by omega);have h3:s.toList≠[99,108,97,115,104,101,115]:=h 3 (by omega);have h4:s.toList≠[114,111,111,116]:=h 4 (by omega);rw[if_neg h1,if_neg h2,if_neg h3,if_neg h4]
theorem Xb(s:ByteArray)(w:World)(hw:Zz w) :
  zC 133 #[.string s] w fun e w'=>e=.returned (.int .i64 (zw s:Nat))/\w'=w:=by
 obtain⟨c0,c1,c2,c3,c4⟩:=hw;go_enter Tryz.func133,Tryz.ntmps133;go_wp2_with fail;clear c0 c1 c2 c3 c4;go_loop [6] (fun i=>∃k:Nat,k<=5/\i=.int .i64 k/\∀j,j<k->s.toList≠wl j) (fun i=>5-(intOf i).toNat)
 case atStart=>exact⟨0,by omega,rfl,fun j h=>by omega⟩
 case round =>
  obtain⟨k,hk,rfl,hne⟩:=hrel;obtain⟨x0,x1,x2,x3,x4⟩:=wix w;have HNE:=zH hne;clear hne
  by_cases h5:k=5
  ·subst h5;have HK:Hid (zw s=0):=zb3 (Or.inr HNE.out);go_wp2;go_ret;exact⟨by rw[HK.out];rfl,rfl⟩
  ·have h4:k<5:=by omega
   clear h5 hk
   by_cases hs:s.toList=wl k
   ·have HK:Hid (zw s=k):=by
     show _=_
     by_cases h0:k=0
     ·subst h0;exact zb3 (Or.inl hs)
     ·exact zaG (by omega) (by omega) hs
    match k,h4 with
    |0,_ =>
     have hb:(([]:List UInt8)==s.toList)=true:=by rw[hs];rfl
     have hb2:s.toList.isEmpty=true:=by rw[hs];rfl
     clear hs;go_wp2;go_ret;exact⟨by rw[HK.out];rfl,rfl⟩
    |1,_ =>
     have hb:([112,97,99,107,97,103,101]==s.toList)=true:=by rw[hs];rfl
     clear hs;go_wp2;go_ret;exact⟨by rw[HK.out];rfl,rfl⟩
    |2,_ =>
     have hb:([110,101,101,100,115]==s.toList)=true:=by rw[hs];rfl
     clear hs;go_wp2;go_ret;exact⟨by rw[HK.out];rfl,rfl⟩
    |3,_ =>
     have hb:([99,108,97,115,104,101,115]==s.toList)=true:=by rw[hs];rfl
     clear hs;go_wp2;go_ret;exact⟨by rw[HK.out];rfl,rfl⟩
    |4,_ =>
     have hb:([114,111,111,116]==s.toList)=true:=by rw[hs];rfl
     clear hs;go_wp2;go_ret;exact⟨by rw[HK.out];rfl,rfl⟩
   ·have HN2:Hid (∀j,j<k+1->s.toList≠wl j):=fun j hj=>by
     rcases Nat.lt_succ_iff_lt_or_eq.1 hj with h|h
     ·exact HNE.out j h
     ·rw[h];exact hs
    have hs':(wl k==s.toList)=false:=by rw[beq_eq_false_iff_ne];exact fun e=>hs e.symm
    clear hs
    match k,h4 with
    |0,_ =>
     have hb:(([]:List UInt8)==s.toList)=false:=hs';have hb2:s.toList.isEmpty=false:=by
      cases h:s.toList with
      |nil=>rw[h] at hb;cases hb
      |cons a t=>rfl
     clear hs';go_wp2;go_round
     case rel=>exact⟨1,by omega,rfl,HN2.out⟩
     case measure=>simp[intOf]
    |1,_ =>
     have hb:([112,97,99,107,97,103,101]==s.toList)=false:=hs';clear hs';go_wp2;go_round
     case rel=>exact⟨2,by omega,rfl,HN2.out⟩
     case measure=>simp[intOf]
    |2,_ =>
     have hb:([110,101,101,100,115]==s.toList)=false:=hs';clear hs';go_wp2;go_round
     case rel=>exact⟨3,by omega,rfl,HN2.out⟩
     case measure=>simp[intOf]
    |3,_ =>
     have hb:([99,108,97,115,104,101,115]==s.toList)=false:=hs';clear hs';go_wp2;go_round
     case rel=>exact⟨4,by omega,rfl,HN2.out⟩
     case measure=>simp[intOf]
    |4,_ =>
     have hb:([114,111,111,116]==s.toList)=false:=hs';clear hs';go_wp2;go_round
     case rel=>exact⟨5,by omega,rfl,HN2.out⟩
     case measure=>simp[intOf]
end Go.Proofs.YtiihalknffbjpaaGreatDoor
namespace Go.Proofs
open Go.Shelf
def Tryz.sortItem_ren:Go.Shelf.Ren:=⟨fun|6=>265|15=>307|14=>306|28=>341|29=>293|20=>333|21=>334|22=>335|23=>336|24=>337|25=>338|26=>339|27=>340|46=>353|47=>354|48=>355|49=>356|50=>357|57=>364|n=>n,fun|22=>111|24=>114|25=>396|3=>3|39=>48|0=>0|53=>417|55=>165|4=>4|46=>450|45=>449|50=>289|5=>5|9=>9|66=>471|70=>475|76=>482|77=>187|n=>n,fun|n=>n⟩
theorem Tryz.sortItem:Go.Proofs.SlLaysF0.n6 Tryz.prog Tryz.sortItem_ren:={
 mixed:=by kernel_rfl
 f6:=⟨Tryz.f265.name,by decide,zK Tryz.func265 (by kernel_rfl)⟩
 f14:=⟨Tryz.f306.name,by decide,zK Tryz.func306 (by kernel_rfl)⟩
 f15:=zK Tryz.func307 (by kernel_rfl)
 f20:=⟨Tryz.f333.name,by decide,zK Tryz.func333 (by kernel_rfl)⟩
 f21:=⟨Tryz.f334.name,by decide,zK Tryz.func334 (by kernel_rfl)⟩
 f22:=⟨Tryz.f335.name,by decide,zK Tryz.func335 (by kernel_rfl)⟩
 f23:=⟨Tryz.f336.name,by decide,zK Tryz.func336 (by kernel_rfl)⟩
 f24:=⟨Tryz.f337.name,by decide,zK Tryz.func337 (by kernel_rfl)⟩
 f25:=⟨Tryz.f338.name,by decide,zK Tryz.func338 (by kernel_rfl)⟩
 f26:=⟨Tryz.f339.name,by decide,zK Tryz.func339 (by kernel_rfl)⟩
 f27:=⟨Tryz.f340.name,by decide,zK Tryz.func340 (by kernel_rfl)⟩
 f28:=zK Tryz.func341 (by kernel_rfl)
 f29:=zK Tryz.func293 (by kernel_rfl)
 f46:=⟨Tryz.f353.name,by decide,zK Tryz.func353 (by kernel_rfl)⟩
 f47:=zK Tryz.func354 (by kernel_rfl)
 f48:=zK Tryz.func355 (by kernel_rfl)
 f49:=⟨Tryz.f356.name,by decide,zK Tryz.func356 (by kernel_rfl)⟩
 f50:=⟨Tryz.f357.name,by decide,zK Tryz.func357 (by kernel_rfl)⟩
 f57:=⟨Tryz.f364.name,by decide,zK Tryz.func364 (by kernel_rfl)⟩
 t0:=Tryz.underlying0
 a0:=Tryz.isAgg0
 z0:=Tryz.sizeOf0
 v0:=Tryz.zeroValue0
 t3:=Tryz.underlying3
 a3:=Tryz.isAgg3
 z3:=Tryz.sizeOf3
 v3:=Tryz.zeroValue3
 t4:=Tryz.underlying4
 a4:=Tryz.isAgg4
 z4:=Tryz.sizeOf4
 v4:=Tryz.zeroValue4
 t5:=Tryz.underlying5
 a5:=Tryz.isAgg5
 z5:=Tryz.sizeOf5
 v5:=Tryz.zeroValue5
 t9:=Tryz.underlying9
 a9:=Tryz.isAgg9
 z9:=Tryz.sizeOf9
 v9:=Tryz.zeroValue9
 t22:=Tryz.underlying111
 a22:=Tryz.isAgg111
 z22:=Tryz.sizeOf111
 v22:=Tryz.zeroValue111
 t25:=Tryz.underlying396
 a25:=Tryz.isAgg396
 z25:=Tryz.sizeOf396
 v25:=Tryz.zeroValue396
 t39:=Tryz.underlying48
 a39:=Tryz.isAgg48
 z39:=Tryz.sizeOf48
 v39:=Tryz.zeroValue48
 t45:=Tryz.underlying449
 a45:=Tryz.isAgg449
 z45:=Tryz.sizeOf449
 v45:=Tryz.zeroValue449
 t46:=Tryz.underlying450
 a46:=Tryz.isAgg450
 z46:=Tryz.sizeOf450
 v46:=Tryz.zeroValue450
 t50:=Tryz.underlying289
 a50:=Tryz.isAgg289
 z50:=Tryz.sizeOf289
 v50:=Tryz.zeroValue289
 t53:=Tryz.underlying417
 a53:=Tryz.isAgg417
 z53:=Tryz.sizeOf417
 v53:=Tryz.zeroValue417
 t55:=Tryz.underlying165
 a55:=Tryz.isAgg165
 z55:=Tryz.sizeOf165
 v55:=Tryz.zeroValue165
 t66:=Tryz.underlying471
 a66:=Tryz.isAgg471
 z66:=Tryz.sizeOf471
 v66:=Tryz.zeroValue471
 t70:=Tryz.underlying475
 a70:=Tryz.isAgg475
 z70:=Tryz.sizeOf475
 v70:=Tryz.zeroValue475
 t76:=Tryz.underlying482
 a76:=Tryz.isAgg482
 z76:=Tryz.sizeOf482
 v76:=Tryz.zeroValue482
 t77:=Tryz.underlying187
 a77:=Tryz.isAgg187
 z77:=Tryz.sizeOf187
 v77:=Tryz.zeroValue187 }
def Tryz.ixItem_ren:Go.Shelf.Ren:=⟨fun|6=>195|n=>n,fun|22=>111|24=>114|3=>3|0=>0|4=>4|n=>n,fun|n=>n⟩
theorem Tryz.ixItem:Go.Proofs.SlLaysQ.n6 Tryz.prog Tryz.ixItem_ren:={
 mixed:=by kernel_rfl
 f6:=⟨Tryz.f195.name,by decide,zK Tryz.func195 (by kernel_rfl)⟩
 t0:=Tryz.underlying0
 a0:=Tryz.isAgg0
 z0:=Tryz.sizeOf0
 v0:=Tryz.zeroValue0
 t3:=Tryz.underlying3
 a3:=Tryz.isAgg3
 z3:=Tryz.sizeOf3
 v3:=Tryz.zeroValue3
 t4:=Tryz.underlying4
 a4:=Tryz.isAgg4
 z4:=Tryz.sizeOf4
 v4:=Tryz.zeroValue4
 t22:=Tryz.underlying111
 a22:=Tryz.isAgg111
 z22:=Tryz.sizeOf111
 v22:=Tryz.zeroValue111 }
def Tryz.hasItem_ren:Go.Shelf.Ren:=⟨fun|7=>264|6=>195|n=>n,fun|22=>111|24=>114|4=>4|0=>0|3=>3|n=>n,fun|n=>n⟩
theorem Tryz.hasItem:Go.Proofs.SlLaysQ.n7 Tryz.prog Tryz.hasItem_ren:={
 mixed:=by kernel_rfl
 f6:=⟨Tryz.f195.name,by decide,zK Tryz.func195 (by kernel_rfl)⟩
 f7:=⟨Tryz.f264.name,by decide,zK Tryz.func264 (by kernel_rfl)⟩
 t0:=Tryz.underlying0
 a0:=Tryz.isAgg0
 z0:=Tryz.sizeOf0
 v0:=Tryz.zeroValue0
 t3:=Tryz.underlying3
 a3:=Tryz.isAgg3
 z3:=Tryz.sizeOf3
 v3:=Tryz.zeroValue3
 t4:=Tryz.underlying4
 a4:=Tryz.isAgg4
 z4:=Tryz.sizeOf4
 v4:=Tryz.zeroValue4
 t22:=Tryz.underlying111
 a22:=Tryz.isAgg111
 z22:=Tryz.sizeOf111
 v22:=Tryz.zeroValue111 }
def Tryz.clnLine_ren:Go.Shelf.Ren:=⟨fun|41=>128|n=>n,fun|22=>109|23=>130|4=>4|n=>n,fun|n=>n⟩
theorem Tryz.clnLine:Go.Proofs.SlLaysE0.n41 Tryz.prog Tryz.clnLine_ren:={
 mixed:=by kernel_rfl
 f41:=⟨Tryz.f128.name,by decide,zK Tryz.func128 (by kernel_rfl)⟩
 t4:=Tryz.underlying4
 a4:=Tryz.isAgg4
 z4:=Tryz.sizeOf4
 v4:=Tryz.zeroValue4
 t22:=Tryz.underlying109
 a22:=Tryz.isAgg109
 z22:=Tryz.sizeOf109
 v22:=Tryz.zeroValue109 }
def Tryz.clnItem_ren:Go.Shelf.Ren:=⟨fun|41=>129|n=>n,fun|22=>111|23=>114|4=>4|n=>n,fun|n=>n⟩
theorem Tryz.clnItem:Go.Proofs.SlLaysE0.n41 Tryz.prog Tryz.clnItem_ren:={
 mixed:=by kernel_rfl
 f41:=⟨Tryz.f129.name,by decide,zK Tryz.func129 (by kernel_rfl)⟩
 t4:=Tryz.underlying4
 a4:=Tryz.isAgg4
 z4:=Tryz.sizeOf4
 v4:=Tryz.zeroValue4
 t22:=Tryz.underlying111
 a22:=Tryz.isAgg111
 z22:=Tryz.sizeOf111
 v22:=Tryz.zeroValue111 }
def Tryz.clnCl_ren:Go.Shelf.Ren:=⟨fun|41=>248|n=>n,fun|22=>81|23=>3|4=>4|n=>n,fun|n=>n⟩
theorem Tryz.clnCl:Go.Proofs.SlLaysE0.n41 Tryz.prog Tryz.clnCl_ren:={
 mixed:=by kernel_rfl
 f41:=⟨Tryz.f248.name,by decide,zK Tryz.func248 (by kernel_rfl)⟩
 t4:=Tryz.underlying4
 a4:=Tryz.isAgg4
 z4:=Tryz.sizeOf4
 v4:=Tryz.zeroValue4
 t22:=Tryz.underlying81
 a22:=Tryz.isAgg81
 z22:=Tryz.sizeOf81
 v22:=Tryz.zeroValue81 }
def Tryz.insInt_ren:Go.Shelf.Ren:=⟨fun|21=>154|27=>219|28=>220|35=>281|39=>317|n=>n,fun|22=>47|3=>3|4=>4|0=>0|n=>n,fun|n=>n⟩
theorem Tryz.insInt:Go.Proofs.Lays2.n21 Tryz.prog Tryz.insInt_ren:={
 mixed:=by kernel_rfl
 f21:=zK Tryz.func154 (by kernel_rfl)
 f27:=zK Tryz.func219 (by kernel_rfl)
 f28:=zK Tryz.func220 (by kernel_rfl)
 f35:=zK Tryz.func281 (by kernel_rfl)
 f39:=zK Tryz.func317 (by kernel_rfl)
 t0:=Tryz.underlying0
 a0:=Tryz.isAgg0
 z0:=Tryz.sizeOf0
 v0:=Tryz.zeroValue0
 t3:=Tryz.underlying3
 a3:=Tryz.isAgg3
 z3:=Tryz.sizeOf3
 v3:=Tryz.zeroValue3
 t4:=Tryz.underlying4
 a4:=Tryz.isAgg4
 z4:=Tryz.sizeOf4
 v4:=Tryz.zeroValue4
 t22:=Tryz.underlying47
 a22:=Tryz.isAgg47
 z22:=Tryz.sizeOf47
 v22:=Tryz.zeroValue47
 i3:=by kernel_rfl }
end Go.Proofs
namespace Go.Proofs.YtiihalknffbjpaaGreatDoor
open Go.RowKit Go.Shelf Go.Lib Sv
theorem eq3(a b c a' b' c':Int)(w:World):(Op.equalIn 9999 84 (.agg #[.int .i64 a,.int .i64 b,.int .i64 c]) (.agg #[.int .i64 a',.int .i64 b',.int .i64 c'])).run Tryz.prog w=.ok (a==a'&&(b==b'&&c==c')) w:=by
 have u3:=Tryz.underlying3;have a3:=Tryz.isAgg3;have z3:=Tryz.sizeOf3;rw[show (9999:Nat)=9998+1 from rfl,Op.equalIn];simp only[Sem.run_bind,run_underlying Tryz.underlying84,Result.andThen_ok];simp only[Std.Legacy.Range.forIn_eq_forIn_range',Std.Legacy.Range.size,Nat.sub_zero,Nat.add_sub_cancel,Nat.div_one,List.range'_succ,List.range'_zero,List.forIn_cons,List.forIn_nil]
 by_cases h1:a=a'
 ·by_cases h2:b=b'
  ·by_cases h3:c=c'
   ·subst h1 h2 h3;go_simp
   ·have e3:(c==c')=false:=by simpa using h3
    subst h1 h2;go_simp
  ·have e2:(b==b')=false:=by simpa using h2
   subst h1;go_simp
 ·have e1:(a==a')=false:=by simpa using h1
  go_simp
theorem zap:EqlAt Tryz.prog 114 (fun x=>.agg (zG x).toArray) (fun x y=>decide (x=y)):=by
 refine⟨fun x y w=>?_,GuardAt.agg _ (by kernel_rfl)⟩;have u3:=Tryz.underlying3;have a3:=Tryz.isAgg3;have z3:=Tryz.sizeOf3;have u9:=Tryz.underlying9;have a9:=Tryz.isAgg9;have z9:=Tryz.sizeOf9;have av:=Tryz.isAgg84;have zv:=Tryz.sizeOf84;have hS:Tryz.prog.underlying 114=some (.struct (Tryz.prog.fieldsOf 114)):=by kernel_rfl
 have hp:Tryz.prog.stoodInHeld 114=false:=by kernel_rfl
 have he:decide (x=y)=(x.name.toList==y.name.toList&&(x.a==y.a&&(x.b==y.b&&x.c==y.c))):=by
  obtain⟨n,a,b,c⟩:=x;obtain⟨n',a',b',c'⟩:=y;rw[Bool.eq_iff_iff];simp only[decide_eq_true_eq,It.mk.injEq,Bool.and_eq_true,beq_iff_eq];constructor
  ·rintro⟨rfl,rfl,rfl,rfl⟩;exact⟨rfl,rfl,rfl,rfl⟩
  ·rintro⟨h,rfl,rfl,rfl⟩;exact⟨xH h,rfl,rfl,rfl⟩
 show (binOp .eql 114 (.agg (zG x).toArray) (.agg (zG y).toArray)).run Tryz.prog w=.ok (.bool (decide (x=y))) w;rw[he];simp only[zG];have h3:=eq3 x.a x.b x.c y.a y.b y.c;generalize x.name=n at *;generalize y.name=n' at *;generalize x.a=a at *;generalize x.b=b at *;generalize x.c=c at *;generalize y.a=a' at *;generalize y.b=b' at *;generalize y.c=c' at *;generalize (a==a'&&(b==b'&&c==c'))=q at *;clear he;rw[run_eql_struct,show (10000:Nat)=9999+1 from rfl,run_equalIn_agg w 9999 114 _ _ hS hp];simp only[Program.fieldsOf,Tryz.underlying114];cases hn:(n.toList==n'.toList)<;>cases q<;>go_simp
end Go.Proofs.YtiihalknffbjpaaGreatDoor
namespace Go.Proofs.YtiihalknffbjpaaGreatDoor
open Go.RowKit Sv
theorem zeW(va:Option Addr)(vl vc:Nat)(a b c:Int)(hx:a<0)(w:World) :
  zR 218 #[.agg #[.slice va vl vc],.agg #[.int .i64 a,.int .i64 b,.int .i64 c]] w (.bool false):=by
 have hB0:zB w ((w.alloc (.cells #[.slice va vl vc] 128)).alloc (.cells #[.int .i64 a,.int .i64 b,.int .i64 c] 84)):=((Below.refl _ w).alloc zN _).alloc (by simp only[World.size_alloc];omega) _;have HB0:=zH hB0;clear hB0;go_enter Tryz.func218,Tryz.ntmps218;go_wp2_with fail;generalize (w.alloc (.cells #[.slice va vl vc] 128)).alloc (.cells #[.int .i64 a,.int .i64 b,.int .i64 c] 84)=W0 at *;go_loop [10] (fun i=>∃k:Nat,k<=0/\i=.int .i64 k) (fun i=>3-(intOf i).toNat)
 case atStart=>exact⟨0,by omega,rfl⟩
 case round =>
  obtain⟨k,hk,rfl⟩:=hrel
  match k,hk with
  |0,_ =>have hix:=Qg a b c W0;go_wp2;go_ret;exact⟨rfl,HB0.out⟩
theorem zjY(va:Option Addr)(vl vc:Nat)(a b c:Int)(hx0:¬a<0)(hx:999<a)(w:World) :
  zR 218 #[.agg #[.slice va vl vc],.agg #[.int .i64 a,.int .i64 b,.int .i64 c]] w (.bool false):=by
 have hB0:zB w ((w.alloc (.cells #[.slice va vl vc] 128)).alloc (.cells #[.int .i64 a,.int .i64 b,.int .i64 c] 84)):=((Below.refl _ w).alloc zN _).alloc (by simp only[World.size_alloc];omega) _;have HB0:=zH hB0;clear hB0;go_enter Tryz.func218,Tryz.ntmps218;go_wp2_with fail;generalize (w.alloc (.cells #[.slice va vl vc] 128)).alloc (.cells #[.int .i64 a,.int .i64 b,.int .i64 c] 84)=W0 at *;go_loop [10] (fun i=>∃k:Nat,k<=0/\i=.int .i64 k) (fun i=>3-(intOf i).toNat)
 case atStart=>exact⟨0,by omega,rfl⟩
 case round =>
  obtain⟨k,hk,rfl⟩:=hrel
  match k,hk with
  |0,_ =>have hix:=Qg a b c W0;go_wp2;go_ret;exact⟨rfl,HB0.out⟩
theorem zcW(va:Option Addr)(vl vc:Nat)(a b c:Int)(ha0:¬a<0)(ha1:¬999<a)(hx:b<0)(w:World) :
  zR 218 #[.agg #[.slice va vl vc],.agg #[.int .i64 a,.int .i64 b,.int .i64 c]] w (.bool false):=by
 have hB0:zB w ((w.alloc (.cells #[.slice va vl vc] 128)).alloc (.cells #[.int .i64 a,.int .i64 b,.int .i64 c] 84)):=((Below.refl _ w).alloc zN _).alloc (by simp only[World.size_alloc];omega) _;have HB0:=zH hB0;clear hB0;go_enter Tryz.func218,Tryz.ntmps218;go_wp2_with fail;generalize (w.alloc (.cells #[.slice va vl vc] 128)).alloc (.cells #[.int .i64 a,.int .i64 b,.int .i64 c] 84)=W0 at *;go_loop [10] (fun i=>∃k:Nat,k<=1/\i=.int .i64 k) (fun i=>3-(intOf i).toNat)
 case atStart=>exact⟨0,by omega,rfl⟩
 case round =>
  obtain⟨k,hk,rfl⟩:=hrel
  match k,hk with
  |0,_ =>
   have hix:=Qg a b c W0;go_wp2;go_round
   case rel=>exact⟨1,by omega,rfl⟩
   case measure=>simp[intOf]
  |1,_ =>have hix:=YA a b c W0;go_wp2;go_ret;exact⟨rfl,HB0.out⟩
theorem zfp(va:Option Addr)(vl vc:Nat)(a b c:Int)(ha0:¬a<0)(ha1:¬999<a)(hx0:¬b<0)(hx:999<b)(w:World) :
  zR 218 #[.agg #[.slice va vl vc],.agg #[.int .i64 a,.int .i64 b,.int .i64 c]] w (.bool false):=by
 have hB0:zB w ((w.alloc (.cells #[.slice va vl vc] 128)).alloc (.cells #[.int .i64 a,.int .i64 b,.int .i64 c] 84)):=((Below.refl _ w).alloc zN _).alloc (by simp only[World.size_alloc];omega) _;have HB0:=zH hB0;clear hB0;go_enter Tryz.func218,Tryz.ntmps218;go_wp2_with fail;generalize (w.alloc (.cells #[.slice va vl vc] 128)).alloc (.cells #[.int .i64 a,.int .i64 b,.int .i64 c] 84)=W0 at *;go_loop [10] (fun i=>∃k:Nat,k<=1/\i=.int .i64 k) (fun i=>3-(intOf i).toNat)
 case atStart=>exact⟨0,by omega,rfl⟩
 case round =>
  obtain⟨k,hk,rfl⟩:=hrel
  match k,hk with
  |0,_ =>
   have hix:=Qg a b c W0;go_wp2;go_round
   case rel=>exact⟨1,by omega,rfl⟩
   case measure=>simp[intOf]
  |1,_ =>have hix:=YA a b c W0;go_wp2;go_ret;exact⟨rfl,HB0.out⟩
theorem zhH(va:Option Addr)(vl vc:Nat)(a b c:Int)(ha0:¬a<0)(ha1:¬999<a)(hb0:¬b<0)(hb1:¬999<b)(hx:c<0)(w:World) :
  zR 218 #[.agg #[.slice va vl vc],.agg #[.int .i64 a,.int .i64 b,.int .i64 c]] w (.bool false):=by
 have hB0:zB w ((w.alloc (.cells #[.slice va vl vc] 128)).alloc (.cells #[.int .i64 a,.int .i64 b,.int .i64 c] 84)):=((Below.refl _ w).alloc zN _).alloc (by simp only[World.size_alloc];omega) _;have HB0:=zH hB0;clear hB0;go_enter Tryz.func218,Tryz.ntmps218;go_wp2_with fail;generalize (w.alloc (.cells #[.slice va vl vc] 128)).alloc (.cells #[.int .i64 a,.int .i64 b,.int .i64 c] 84)=W0 at *;go_loop [10] (fun i=>∃k:Nat,k<=2/\i=.int .i64 k) (fun i=>3-(intOf i).toNat)
 case atStart=>exact⟨0,by omega,rfl⟩
 case round =>
  obtain⟨k,hk,rfl⟩:=hrel
  match k,hk with
  |0,_ =>
   have hix:=Qg a b c W0;go_wp2;go_round
   case rel=>exact⟨1,by omega,rfl⟩
   case measure=>simp[intOf]
  |1,_ =>
   have hix:=YA a b c W0;go_wp2;go_round
   case rel=>exact⟨2,by omega,rfl⟩
   case measure=>simp[intOf]
  |2,_ =>have hix:=XR a b c W0;go_wp2;go_ret;exact⟨rfl,HB0.out⟩
theorem zgt(va:Option Addr)(vl vc:Nat)(a b c:Int)(ha0:¬a<0)(ha1:¬999<a)(hb0:¬b<0)(hb1:¬999<b)(hx0:¬c<0)(hx:999<c)(w:World) :
  zR 218 #[.agg #[.slice va vl vc],.agg #[.int .i64 a,.int .i64 b,.int .i64 c]] w (.bool false):=by
 have hB0:zB w ((w.alloc (.cells #[.slice va vl vc] 128)).alloc (.cells #[.int .i64 a,.int .i64 b,.int .i64 c] 84)):=((Below.refl _ w).alloc zN _).alloc (by simp only[World.size_alloc];omega) _;have HB0:=zH hB0;clear hB0;go_enter Tryz.func218,Tryz.ntmps218;go_wp2_with fail;generalize (w.alloc (.cells #[.slice va vl vc] 128)).alloc (.cells #[.int .i64 a,.int .i64 b,.int .i64 c] 84)=W0 at *;go_loop [10] (fun i=>∃k:Nat,k<=2/\i=.int .i64 k) (fun i=>3-(intOf i).toNat)
 case atStart=>exact⟨0,by omega,rfl⟩
 case round =>
  obtain⟨k,hk,rfl⟩:=hrel
  match k,hk with
  |0,_ =>
   have hix:=Qg a b c W0;go_wp2;go_round
   case rel=>exact⟨1,by omega,rfl⟩
   case measure=>simp[intOf]
  |1,_ =>
   have hix:=YA a b c W0;go_wp2;go_round
   case rel=>exact⟨2,by omega,rfl⟩
   case measure=>simp[intOf]
  |2,_ =>have hix:=XR a b c W0;go_wp2;go_ret;exact⟨rfl,HB0.out⟩
theorem zhY(va:Option Addr)(vl vc:Nat)(a b c:Int)(h:¬((0<=a/\a<=999)/\(0<=b/\b<=999)/\(0<=c/\c<=999)))(w:World) :
  zR 218 #[.agg #[.slice va vl vc],.agg #[.int .i64 a,.int .i64 b,.int .i64 c]] w (.bool false):=by
 by_cases a0:a<0
 ·exact zeW va vl vc a b c a0 w
 by_cases a1:999<a
 ·exact zjY va vl vc a b c a0 a1 w
 by_cases b0:b<0
 ·exact zcW va vl vc a b c a0 a1 b0 w
 by_cases b1:999<b
 ·exact zfp va vl vc a b c a0 a1 b0 b1 w
 by_cases c0:c<0
 ·exact zhH va vl vc a b c a0 a1 b0 b1 c0 w
 by_cases c1:999<c
 ·exact zgt va vl vc a b c a0 a1 b0 b1 c0 c1 w
 exact absurd ⟨⟨by omega,by omega⟩,⟨by omega,by omega⟩,⟨by omega,by omega⟩⟩ h
end Go.Proofs.YtiihalknffbjpaaGreatDoor
namespace Go.Proofs.YtiihalknffbjpaaGreatDoor
open Go.RowKit Sv
theorem Zc(s:ByteArray)(w:World)(h:zl s):zC 305 #[.string s] w fun e w'=>e=.returned (.bool true)/\w=w':=(zbd s w).mono fun _ _ ⟨h1,h2⟩=>⟨h1.1 h,h2⟩
theorem QR(s:ByteArray)(w:World)(h:¬zl s):zC 305 #[.string s] w fun e w'=>e=.returned (.bool false)/\w=w':=(zbd s w).mono fun _ _ ⟨h1,h2⟩=>⟨h1.2 h,h2⟩
open Classical in
theorem zcO(l:List zc)(hl:Rg l)(va:Option Addr)(vc:Nat)(x:It)(w:World)(hv:zg w (.slice va l.length vc) l) :
  zR 218 #[.agg #[.slice va l.length vc],.agg #[.int .i64 x.a,.int .i64 x.b,.int .i64 x.c]] w (.bool (decide (yM l x))):=by
 by_cases h:InV x.a x.b x.c
 ·obtain⟨n,a,b,c⟩:=x;obtain⟨a',rfl⟩:∃a':Nat,a=(a':Int):=⟨a.toNat,by have:=h.1;simp only at this;omega⟩;obtain⟨b',rfl⟩:∃b':Nat,b=(b':Int):=⟨b.toNat,by have:=h.2.1;simp only at this;omega⟩;obtain⟨c',rfl⟩:∃c':Nat,c=(c':Int):=⟨c.toNat,by have:=h.2.2;simp only at this;omega⟩;have h1:=h.1;have h2:=h.2.1;have h3:=h.2.2;simp only at h1 h2 h3;refine(zdh l hl (.slice va l.length vc) a' b' c' (by omega) (by omega) (by omega) w hv).mono fun e w' ⟨B,he,hB,hb⟩=>⟨?_,hb⟩;rw[he];congr 2;rw[Bool.eq_iff_iff,hB,decide_eq_true_eq];unfold yM;simp only[Int.toNat_natCast];exact⟨fun h'=>⟨h,h'⟩,fun h'=>h'.2⟩
 ·refine(zhY va l.length vc x.a x.b x.c h w).mono fun e w' ⟨he,hb⟩=>⟨?_,hb⟩;rw[he];congr 2;symm;rw[decide_eq_false_iff_not];exact fun h'=>h h'.1
theorem Xh(va:Option Addr)(vc:Nat)(a b c:Int)(w:World)(hv:zg w (.slice va zi.length vc) zi) :
  zR 218 #[.agg #[.slice va zi.length vc],.agg #[.int .i64 a,.int .i64 b,.int .i64 c]] w (.bool (decide (InV a b c))):=by
 refine(zcO zi Yt va vc ⟨⟨#[]⟩,a,b,c⟩ w hv).mono fun e w' ⟨he,hb⟩=>⟨?_,hb⟩;rw[he];congr 2;rw[Bool.eq_iff_iff];simp only[decide_eq_true_eq];unfold yM;constructor
 ·exact fun h=>h.1
 ·intro h;refine⟨h,zlc.2 ?_⟩;obtain⟨h1,h2,h3⟩:=h;simp only;unfold Zm ALL;omega
theorem zhX(ra:Option Addr)(rc:Nat)(w:World):zR 276 #[.agg #[.slice ra 0 rc]] w (.bool true):=by
 have hB:Hid (zB w (w.alloc (.cells #[.slice ra 0 rc] 128))):=(Below.refl _ w).alloc zN _;go_enter Tryz.func276,Tryz.ntmps276;go_wp2;go_ret;exact⟨rfl,hB.out⟩
theorem zkK(ra:Option Addr)(rn rc:Nat)(w:World)(h:0<rn):zR 276 #[.agg #[.slice ra rn rc]] w (.bool false):=by
 have hB:Hid (zB w (w.alloc (.cells #[.slice ra rn rc] 128))):=(Below.refl _ w).alloc zN _;have hz:((rn:Int)==0)=false:=by rw[beq_eq_false_iff_ne];omega
 go_enter Tryz.func276,Tryz.ntmps276;go_wp2;go_ret;exact⟨rfl,hB.out⟩
theorem zaq(a b c a' b' c':Int)(w:World):(Op.equalIn 10000 84 (.agg #[.int .i64 a,.int .i64 b,.int .i64 c]) (.agg #[.int .i64 a',.int .i64 b',.int .i64 c'])).run Tryz.prog w=.ok (a==a'&&(b==b'&&c==c')) w:=by
 have u3:=Tryz.underlying3;have a3:=Tryz.isAgg3;have z3:=Tryz.sizeOf3;rw[show (10000:Nat)=9999+1 from rfl,Op.equalIn];simp only[Sem.run_bind,run_underlying Tryz.underlying84,Result.andThen_ok];simp only[Std.Legacy.Range.forIn_eq_forIn_range',Std.Legacy.Range.size,Nat.sub_zero,Nat.add_sub_cancel,Nat.div_one,List.range'_succ,List.range'_zero,List.forIn_cons,List.forIn_nil]
 by_cases h1:a=a'
 ·by_cases h2:b=b'
  ·by_cases h3:c=c'
   ·subst h1 h2 h3;go_simp
   ·have e3:(c==c')=false:=by simpa using h3
    subst h1 h2;go_simp
  ·have e2:(b==b')=false:=by simpa using h2
   subst h1;go_simp
 ·have e1:(a==a')=false:=by simpa using h1
  go_simp
end Go.Proofs.YtiihalknffbjpaaGreatDoor
namespace Go.Proofs.YtiihalknffbjpaaGreatDoor
open Go.RowKit
def xZ(w:World)(e:Value)(m pl:Int):Prop :=
 (m=0/\pl=-1/\e=.nilIface)\/(m≠0/\pl=-1/\e=.iface 57 (.int .i64 m)) \/
 (m≠0/\∃b,b<w.heap.size/\e=.iface 260 (.pointer (some ⟨b,0,none⟩))/\w.cell? ⟨b,0,none⟩=some (.int .i64 m)/\w.cell? ⟨b,1,none⟩=some (.int .i64 pl))
theorem xZ.below{w w':World}{e:Value}{m pl:Int}(h:xZ w e m pl)(hb:zB w w'):xZ w' e m pl:=by
 rcases h with h|h|⟨h0,b,h1,h2,h3,h4⟩
 ·exact Or.inl h
 ·exact Or.inr (Or.inl h)
 ·exact Or.inr (Or.inr ⟨h0,b,Nat.lt_of_lt_of_le h1 hb.size,h2,(hb.cell (p:=⟨b,0,none⟩) h1).trans h3,(hb.cell (p:=⟨b,1,none⟩) h1).trans h4⟩)
end Go.Proofs.YtiihalknffbjpaaGreatDoor
namespace Go.Proofs.YtiihalknffbjpaaGreatDoor
open Go.RowKit
def qg(v x:Int):Bool:=decide (x≠0/\-v<=x/\x<=v)
theorem zfJ(x v:Int)(h0:0<=v)(h1:v<=24)(w:World) :
  zC 176 #[.int .i64 x,.int .i64 v] w fun e w'=>e=.returned (.bool (qg v x))/\w=w':=by
 by_cases hx:x=0
 ·have e:qg v x=false:=by simp[qg,hx]
  rw[e];go_enter Tryz.func176,Tryz.ntmps176;go_wp2;go_ret;exact⟨rfl,rfl⟩
 ·by_cases h2:-v<=x
  ·by_cases h3:x<=v
   ·have e:qg v x=true:=by simp[qg,hx,h2,h3]
    rw[e];have hx':(x != 0)=true:=by simpa using hx
    go_enter Tryz.func176,Tryz.ntmps176;go_wp2;go_ret;exact⟨rfl,rfl⟩
   ·have e:qg v x=false:=by simp[qg,h3]
    rw[e];go_enter Tryz.func176,Tryz.ntmps176;go_wp2;go_ret;exact⟨rfl,rfl⟩
  ·have e:qg v x=false:=by simp[qg,h2]
   rw[e];go_enter Tryz.func176,Tryz.ntmps176;go_wp2;go_ret;exact⟨rfl,rfl⟩
end Go.Proofs.YtiihalknffbjpaaGreatDoor
namespace Go.Proofs.YtiihalknffbjpaaGreatDoor
open Go.RowKit
def xS(vals:Nat)(x:Int):Bool:=if 0<x then vals.testBit (x.toNat-1) else !vals.testBit ((-x).toNat-1)
theorem K9(vals t:Nat)(hv:vals<18446744073709551616):(bits BinOp.and IntKind.u64 ((vals:Int)/2^t) 1==1)=vals.testBit t:=by
 have e:(vals:Int)/2^t=((vals/2^t:Nat):Int):=by simp
 have hd:vals/2^t<=vals:=Nat.div_le_self _ _;rw[e,Nat.testBit_eq_decide_div_mod_eq];generalize vals/2^t=m at *;rw[and_one_u64 _ (by omega) (by omega),Bool.eq_iff_iff];simp;omega
end Go.Proofs.YtiihalknffbjpaaGreatDoor
namespace Go.Proofs.YtiihalknffbjpaaGreatDoor
open Go.RowKit
theorem zP(n lo hi:Int)(w:World):zC 209 #[.int .i64 n,.int .i64 lo,.int .i64 hi] w fun e w'=>e=.returned (.bool (decide (lo<=n/\n<=hi)))/\w=w':=by
 by_cases h1:lo<=n
 ·by_cases h2:n<=hi
  ·rw[show decide (lo<=n/\n<=hi)=true by simp[h1,h2]];go_enter Tryz.func209,Tryz.ntmps209;go_wp2;go_ret;exact⟨rfl,rfl⟩
  ·rw[show decide (lo<=n/\n<=hi)=false by simp[h2]];go_enter Tryz.func209,Tryz.ntmps209;go_wp2;go_ret;exact⟨rfl,rfl⟩
 ·rw[show decide (lo<=n/\n<=hi)=false by simp[h1]];go_enter Tryz.func209,Tryz.ntmps209;go_wp2;go_ret;exact⟨rfl,rfl⟩
end Go.Proofs.YtiihalknffbjpaaGreatDoor
namespace Go.Proofs.YtiihalknffbjpaaGreatDoor
open Go.RowKit Go.Extern.Stop Go.Stop Go.Extern
namespace Errs
theorem ze8(v:Value)(w:World):(ReflectliteType.typeOf #[.iface 260 v]).run Tryz.prog w=.ok (.iface 362 (.agg #[.pointer (some ⟨12,260,none⟩)])) w:=by kernel_rfl
theorem zew(w:World):(ReflectliteType.relation "AssignableTo" ReflectliteType.assignableTo #[.agg #[.pointer (some ⟨12,260,none⟩)],.iface 362 (.agg #[.pointer (some ⟨12,57,none⟩)])]).run Tryz.prog w=.ok (.bool false) w:=by kernel_rfl
theorem zkB(h:Value)(w:World):(Go.method 613 260 h "Unwrap").run Tryz.prog w=.ok (385,h) w:=by kernel_rfl
theorem zdN(v:Value)(w:World):(Instr.typeAssert (.iface 260 v) 31 367 true).run Tryz.prog w=.ok (.tuple #[.nilIface,.bool false]) w:=run_typeAssert_lacksB Tryz.underlying367 (by kernel_rfl) (by kernel_rfl) _ 31 w
theorem zgV(v:Value)(w:World):(Instr.typeAssert (.iface 260 v) 31 334 true).run Tryz.prog w=.ok (.tuple #[.iface 260 v,.bool true]) w:=run_typeAssert_hasB Tryz.underlying334 (by kernel_rfl) _ 31 w
theorem as_at(n:Int)(ba:Nat)(t:Addr)(old:Value)(w:World)(hg:w.cell? ⟨2,0,none⟩=some (.iface 362 (.agg #[.pointer (some ⟨12,31,none⟩)])))(ht0:w.cell? t=some old)(hf0:w.frozen? t=false)(hba:w.cell? ⟨ba,0,none⟩=some (.int .i64 n)) :
  zC 105 #[.iface 260 (.pointer (some ⟨ba,0,none⟩)),.iface 197 (.pointer (some t))] w fun ev w'=>ev=.returned (.bool true)/\w'=((((w.alloc (.cells #[.pointer (some t)] 197)).alloc (.cells #[.pointer (some ⟨12,197,none⟩),.pointer (some ⟨w.heap.size,0,none⟩),.int .u64 150] 298)).alloc (.cells #[.pointer (some ⟨12,197,none⟩),.pointer (some ⟨w.heap.size,0,none⟩),.int .u64 150] 298)).alloc (.cells #[.int .i64 n] 57)).setCell t (.int .i64 n):=by
 have h6:=@run_callFunc_extern Tryz.prog 180 _ (fun args=>ReflectliteValue.unpack (args.getD 0 (.tuple #[]))) Tryz.func180 (by kernel_rfl) (by kernel_rfl) (by kernel_rfl) (by kernel_rfl);have h7:=@run_callFunc_extern Tryz.prog 181 _ (ReflectliteValue.methodAny (ReflectliteValue.valueError "reflectlite.Value.Type" 0) (fun t _ _ _=>ReflectliteType.toType t)) Tryz.func181 (by kernel_rfl) (by kernel_rfl) (by kernel_rfl) (by kernel_rfl);have h8:=@run_callFunc_extern Tryz.prog 182 _ (ReflectliteValue.method (ReflectliteValue.valueError "reflectlite.Value.IsNil" 0) ReflectliteValue.isNil) Tryz.func182 (by kernel_rfl) (by kernel_rfl) (by kernel_rfl) (by kernel_rfl);have h27:=@run_callFunc_extern Tryz.prog 379 _ (ReflectliteType.abiMethod fun t=>do pure (.int .u8 (<-Rtype.kind t))) Tryz.func379 (by kernel_rfl) (by kernel_rfl) (by kernel_rfl) (by kernel_rfl);have h37:=@run_callFunc_extern Tryz.prog 392 _ (ReflectliteType.method ReflectliteType.elem) Tryz.func392 (by kernel_rfl) (by kernel_rfl) (by kernel_rfl) (by kernel_rfl);have h38:=@run_callFunc_extern Tryz.prog 393 _ (ReflectliteType.relation "Implements" ReflectliteType.implements_) Tryz.func393 (by kernel_rfl) (by kernel_rfl) (by kernel_rfl) (by kernel_rfl);have h10:=@run_callFunc_extern Tryz.prog 242 _ ReflectliteType.typeOf Tryz.func242 (by kernel_rfl) (by kernel_rfl) (by kernel_rfl) (by kernel_rfl);have h35:=@run_callFunc_extern Tryz.prog 390 _ (ReflectliteType.relation "AssignableTo" ReflectliteType.assignableTo) Tryz.func390 (by kernel_rfl) (by kernel_rfl) (by kernel_rfl) (by kernel_rfl);have h11:=@run_callFunc_extern Tryz.prog 243 _ (ReflectliteValue.method (ReflectliteValue.valueError "reflectlite.Value.Elem" 0) ReflectliteValue.elem) Tryz.func243 (by kernel_rfl) (by kernel_rfl) (by kernel_rfl) (by kernel_rfl);have h12:=@run_callFunc_extern Tryz.prog 244 _ ReflectliteValue.set Tryz.func244 (by kernel_rfl) (by kernel_rfl) (by kernel_rfl) (by kernel_rfl);have tO:=JU;have mA:=zaS;have a25:=zcL;have v25:=zaY;have f6:=zb7;have f7:=J2;have mK:=za8;have mE:=zcG;have mI:=JM;have k27:=zcu;have k25:=zbf;have e27:=za3;have i25:=zb0;have n8:=zbv ⟨w.heap.size,0,none⟩ t ((w.alloc (.cells #[.pointer (some t)] 197)).alloc (.cells #[.pointer (some ⟨12,197,none⟩),.pointer (some ⟨w.heap.size,0,none⟩),.int .u64 150] 298)) (by simp);have hlt:2<w.heap.size:=by
  rcases Nat.lt_or_ge 2 w.heap.size with h|h
  ·exact h
  ·simp[World.cell?,Array.getElem?_eq_none h] at hg
 have hg2:((w.alloc (.cells #[.pointer (some t)] 197)).alloc (.cells #[.pointer (some ⟨12,197,none⟩),.pointer (some ⟨w.heap.size,0,none⟩),.int .u64 150] 298)).cell? ⟨2,0,none⟩=some (.iface 362 (.agg #[.pointer (some ⟨12,31,none⟩)])):=by
  rw[World.cell?_alloc_lt _ _ ⟨2,0,none⟩ (by simp only[World.size_alloc];omega),World.cell?_alloc_lt _ _ ⟨2,0,none⟩ hlt];exact hg
 have htl:t.block<w.heap.size:=by
  rcases Nat.lt_or_ge t.block w.heap.size with h|h
  ·exact h
  ·simp[World.cell?,Array.getElem?_eq_none h] at ht0
 have el:=zaB ⟨w.heap.size,0,none⟩ t (((w.alloc (.cells #[.pointer (some t)] 197)).alloc (.cells #[.pointer (some ⟨12,197,none⟩),.pointer (some ⟨w.heap.size,0,none⟩),.int .u64 150] 298)).alloc (.cells #[.pointer (some ⟨12,197,none⟩),.pointer (some ⟨w.heap.size,0,none⟩),.int .u64 150] 298)) (by rw[World.cell?_alloc_lt _ _ ⟨w.heap.size,0,none⟩ (by simp;omega)];simp);have st:=zce t ⟨w.heap.size+1+1+1,0,none⟩ n old ((((w.alloc (.cells #[.pointer (some t)] 197)).alloc (.cells #[.pointer (some ⟨12,197,none⟩),.pointer (some ⟨w.heap.size,0,none⟩),.int .u64 150] 298)).alloc (.cells #[.pointer (some ⟨12,197,none⟩),.pointer (some ⟨w.heap.size,0,none⟩),.int .u64 150] 298)).alloc (.cells #[.int .i64 n] 57))
  (by rw[World.cell?_alloc_at _ _ _ _ (by simp)];rfl)
  (by rw[World.cell?_alloc_lt _ _ t (by simp;omega),World.cell?_alloc_lt _ _ t (by simp;omega),World.cell?_alloc_lt _ _ t (by simp;omega),World.cell?_alloc_lt _ _ t htl];exact ht0)
  (by rw[World.frozen?_alloc_old _ _ t (by simp;omega),World.frozen?_alloc_old _ _ t (by simp;omega),World.frozen?_alloc_old _ _ t (by simp;omega),World.frozen?_alloc_old _ _ t (Nat.ne_of_lt htl)];exact hf0)
 have hbl:ba<w.heap.size:=by
  rcases Nat.lt_or_ge ba w.heap.size with h|h
  ·exact h
  ·simp[World.cell?,Array.getElem?_eq_none h] at hba
 have hb3:(((w.alloc (.cells #[.pointer (some t)] 197)).alloc (.cells #[.pointer (some ⟨12,197,none⟩),.pointer (some ⟨w.heap.size,0,none⟩),.int .u64 150] 298)).alloc (.cells #[.pointer (some ⟨12,197,none⟩),.pointer (some ⟨w.heap.size,0,none⟩),.int .u64 150] 298)).cell? ⟨ba,0,none⟩=some (.int .i64 n):=by
  rw[World.cell?_alloc_lt _ _ ⟨ba,0,none⟩ (by simp only[World.size_alloc];omega),World.cell?_alloc_lt _ _ ⟨ba,0,none⟩ (by simp only[World.size_alloc];omega),World.cell?_alloc_lt _ _ ⟨ba,0,none⟩ hbl];exact hba
 have tA:=ze8;have aA:=zew;have mU:=zkB;have n1:=zdN;have y1:=zgV;go_enter Tryz.func105,Tryz.ntmps105;go_wp2;refine wp_loop_rounds 2 ?_;rw[rounds_succ];go_wp2;rw[rounds_succ];go_wp2;go_ret;exact⟨rfl,rfl⟩
end Errs
theorem zah(n:Int)(ba:Nat)(w:World)(hg:yV w)(hba:w.cell? ⟨ba,0,none⟩=some (.int .i64 n)) :
  zR 39 #[.iface 260 (.pointer (some ⟨ba,0,none⟩))] w (.int .i64 n):=by
 have hbl:ba<w.heap.size:=by
  rcases Nat.lt_or_ge ba w.heap.size with h|h
  ·exact h
  ·simp[World.cell?,Array.getElem?_eq_none h] at hba
 have H:=Errs.as_at n ba ⟨w.heap.size,0,none⟩ (.int .i64 0) (w.alloc (.cells #[.int .i64 0] 57)) (hg.below (zF.alloc zN _)) (Yq _ _ _) (zba _ _ _) ((World.cell?_alloc_lt _ _ ⟨ba,0,none⟩ hbl).trans hba);clear hba;go_enter Tryz.func39,Tryz.ntmps39;go_wp2_with fail;refine H.mono ?_;rintro e w' ⟨rfl,hw⟩;have hc:w'.cell? ⟨w.heap.size,0,none⟩=some (.int .i64 n):=by
  rw[hw];refine World.cell?_setCell_same' _ _ _ ?_;rw[World.cell?_alloc_lt _ _ ⟨w.heap.size,0,none⟩ (by simp;omega),World.cell?_alloc_lt _ _ ⟨w.heap.size,0,none⟩ (by simp;omega),World.cell?_alloc_lt _ _ ⟨w.heap.size,0,none⟩ (by simp;omega),World.cell?_alloc_lt _ _ ⟨w.heap.size,0,none⟩ (by simp),Yq];rfl
 have hb:zB w w':=by
  rw[hw];exact(((((zF.alloc zN _).alloc (by simp) _).alloc (by simp;omega) _).alloc (by simp;omega) _).alloc (by simp;omega) _).setCell zN _
 clear H hw;go_wp2;go_ret;exact⟨rfl,hb⟩
theorem zc9(w:World):zC 140 #[.nilIface] w fun e w'=>e=.returned (.tuple #[.int .i64 0,.int .i64 (-1)])/\w=w':=by
 go_enter Tryz.func140,Tryz.ntmps140;go_wp2_with fail;refine(zhf _).mono ?_;rintro e w' ⟨rfl,rfl⟩;go_wp2_with fail;refine wp_loop_rounds 1 ?_;rw[rounds_succ];go_wp2;go_ret2;exact⟨rfl,rfl⟩
theorem zbx(n:Int)(w:World):(Instr.typeAssert (.iface 57 (.int .i64 n)) 31 260 true).run Tryz.prog w=.ok (.tuple #[.pointer none,.bool false]) w:=by kernel_rfl
theorem zbI(b:Nat)(w:World):(Instr.typeAssert (.iface 260 (.pointer (some ⟨b,0,none⟩))) 31 260 true).run Tryz.prog w=.ok (.tuple #[.pointer (some ⟨b,0,none⟩),.bool true]) w:=by kernel_rfl
theorem zkP(n:Int)(w:World):(Instr.typeAssert (.iface 57 (.int .i64 n)) 31 334 true).run Tryz.prog w=.ok (.tuple #[.nilIface,.bool false]) w:=run_typeAssert_lacksB Tryz.underlying334 (by kernel_rfl) (by kernel_rfl) _ 31 w
theorem zlN(n:Int)(w:World)(hg:yV w):zR 140 #[.iface 57 (.int .i64 n)] w (.tuple #[.int .i64 n,.int .i64 (-1)]):=by
 have H:=KM n w hg;have h1:=zbx n;have h2:=zkP n;go_enter Tryz.func140,Tryz.ntmps140;go_wp2_with fail;refine H.mono ?_;rintro e w' ⟨rfl,hb⟩;clear H;go_wp2_with fail;refine wp_loop_rounds 1 ?_;rw[rounds_succ];go_wp2;go_ret2;exact⟨rfl,hb⟩
theorem zdM(n pl:Int)(b:Nat)(w:World)(hg:yV w)(h0:w.cell? ⟨b,0,none⟩=some (.int .i64 n))(h1:w.cell? ⟨b,1,none⟩=some (.int .i64 pl)) :
  zR 140 #[.iface 260 (.pointer (some ⟨b,0,none⟩))] w (.tuple #[.int .i64 n,.int .i64 pl]):=by
 have hbl:b<w.heap.size:=by
  rcases Nat.lt_or_ge b w.heap.size with h|h
  ·exact h
  ·simp[World.cell?,Array.getElem?_eq_none h] at h0
 have H:=zah n b w hg h0;have h2:=zbI b;have H1:=zH h1;clear h1 h0;go_enter Tryz.func140,Tryz.ntmps140;go_wp2_with fail;refine H.mono ?_;rintro e w' ⟨rfl,hb⟩;have c1:w'.cell? ⟨b,1,none⟩=some (.int .i64 pl):=(hb.cell (p:=⟨b,1,none⟩) hbl).trans H1.out;clear H;go_wp2_with fail;refine wp_loop_rounds 1 ?_;rw[rounds_succ];go_wp2_with fail;go_quiet (fail);have hbn:zB w (w'.drewN nq):=hb.trans ⟨rfl,rfl,rfl,Nat.le_refl _,fun _ _=>rfl⟩;have HBN:=zH hbn;clear hbn;go_wp2;go_ret2;exact⟨rfl,HBN.out⟩
theorem zlL(e:Value)(m pl:Int)(w:World)(hg:yV w)(h:xZ w e m pl):zR 140 #[e] w (.tuple #[.int .i64 m,.int .i64 pl]):=by
 rcases h with ⟨rfl,rfl,rfl⟩|⟨_,rfl,rfl⟩|⟨_,b,_,rfl,h0,h1⟩
 ·exact(zc9 w).mono fun e w' ⟨he,hw⟩=>⟨he,hw▸Below.refl _ _⟩
 ·exact zlN m w hg
 ·exact zdM m pl b w hg h0 h1
theorem Qf(k:Int)(w:World):zR 61 #[.int .i64 k] w (.agg #[.int .i64 k,.int .i64 (-1)]):=by
 go_enter Tryz.func61,Tryz.ntmps61;go_wp2;exact bodyPost_ret (v:=.agg #[.int .i64 k,.int .i64 (-1)]) (by simp[results,Tryz.results61,go_sem]) rfl ⟨rfl,zF.alloc zN _⟩
theorem ziS(m k pl pk:Int)(v:Value)(w:World)(hg:yV w)(hv:xZ w v m pl) :
  zR 63 #[v,.agg #[.int .i64 k,.int .i64 pk]] w (.bool (m==k&&pl==pk)):=by
 have HH:Hid (∀W:World,zB w W->zR 140 #[v] W (.tuple #[.int .i64 m,.int .i64 pl])):=fun W hW=>zlL v m pl W (hg.below hW) (hv.below hW);clear hv hg;have hb1:zB w (w.alloc (.cells #[.int .i64 k,.int .i64 pk] 96)):=zF.alloc zN _;have fin:∀q r:Bool,(m==k)=q->(pl==pk)=r->zR 63 #[v,.agg #[.int .i64 k,.int .i64 pk]] w (.bool (q&&r)):=by
  intro q r hq hr;cases q<;>cases r
  all_goals
   go_enter Tryz.func63,Tryz.ntmps63;go_wp2_with fail;refine(HH.out _ hb1).mono ?_;rintro e w2 ⟨rfl,hb2⟩;have c0:w2.cell? ⟨w.heap.size,0,none⟩=some (.int .i64 k):=(hb2.cell (p:=⟨w.heap.size,0,none⟩) (by simp)).trans (by simp);have c1:w2.cell? ⟨w.heap.size,1,none⟩=some (.int .i64 pk):=(hb2.cell (p:=⟨w.heap.size,1,none⟩) (by simp)).trans (by simp);have hb3:zB w w2:=hb1.trans (hb2.mono (by simp));clear hb2;go_wp2;go_ret;exact⟨rfl,hb3⟩
 exact fin _ _ rfl rfl
end Go.Proofs.YtiihalknffbjpaaGreatDoor
