/- check: what it asks. -/
import Derived.Test.YtlmmkbnjhilbdaaGreatDoorCtMap
import Derived.Shelf.SlSortCmp.NoneTotal
import Derived.Shelf.SlicesQ.Contains
import Derived.Shelf.SlicesE.Clone
import Derived.Shelf.Spec.SlicesInsertGrow
open Go.Proofs.YtlmmkbnjhilbdaaGreatDoor
set_option maxHeartbeats 4000000
set_option maxRecDepth 100000
namespace Go.Proofs.YtlmmkbnjhilbdaaGreatDoor
open Go.RowKit Go.Deep Go.Maps Sv
theorem znf{l:List It}{k:Nat}(h:k<l.length):l.take (k+1)=l.take k++[l.getD k default]:=by
 rw[List.take_succ_eq_append_getElem h,List.getD_eq_getElem?_getD,List.getElem?_eq_getElem h];rfl
theorem zjE(its:List It)(v:Value)(w:World)(h:yJ w v its)(hl:its.length<=100000)(hn:∀x∈its,x.name.size<=100000) :
  zC 49 #[v] w fun e w'=>e=.returned (.map (some w.heap.size))/\qM w' w.heap.size (yk its) its.length/\zB w w':=by
 have HI:=zH h;have HNS:=zH hn;obtain⟨va,vc,rfl,-⟩:=h.form;clear h hn;have hr0:=qM.made w;have HR0:Hid (qM (w.alloc (.map #[] 0)) w.heap.size (yk (its.take 0)) 0):=hr0;have HB0:Hid (zB w (w.alloc (.map #[] 0))):=(Below.refl _ w).alloc zN _;clear hr0;have hmm:=@run_makeMap Tryz.prog;go_enter Tryz.func49,Tryz.ntmps49;go_wp2_with fail;clear hmm;go_loopw [11] (fun iV wr=>∃k:Nat,k<=its.length/\iV=.int .i64 k/\qM wr w.heap.size (yk (its.take k)) k/\zB w wr) (fun iV _=>its.length-(intOf iV).toNat)
 case atStart=>exact⟨0,Nat.zero_le _,rfl,HR0.out,HB0.out⟩
 case round =>
  obtain⟨k,hk,rfl,hrows,hbr⟩:=hrel;clear HR0 HB0
  by_cases hlt:k<its.length
  ·obtain⟨g,cap',e,hg,c0,c1,c2,c3⟩:=(show yJ wr _ its from HI.out.below hbr zN).at k hlt;simp at e;obtain⟨rfl,rfl⟩:=e;have hsn:yk (its.take (k+1))=fun c=>if c=(its.getD k default).name then some ((((yk (its.take k) (its.getD k default).name).map Prod.fst).getD k,k+1)) else yk (its.take k) c:=by
    funext c;rw[znf hlt,JI,List.length_take,Nat.min_eq_left hk]
    by_cases hc:(its.getD k default).name=c
    ·subst hc;simp
    ·rw[if_neg hc,if_neg (fun e=>hc e.symm)]
   have hxs:(its.getD k default).name.size<=100000:=HNS.out _ (y7 hlt);have HSN:=zH hsn;clear hsn;generalize its.getD k default=x at *;generalize yk (its.take k)=f at *;have kx:=Blk.new wr 42 #[.string x.name,.int .i64 x.a,.int .i64 x.b,.int .i64 x.c];have hbx:zB wr (wr.alloc (.cells #[.string x.name,.int .i64 x.a,.int .i64 x.b,.int .i64 x.c] 42)):=zF.alloc zN _;have hr1:=hrows.below hbx zN;have hb1:zB w (wr.alloc (.cells #[.string x.name,.int .i64 x.a,.int .i64 x.b,.int .i64 x.c] 42)):=zT hbr hbx;have HR1:=zH hr1;have HB1:=zH hb1;clear hrows hbr hbx hr1 hb1;go_upto_region 5 with fail;clear c0 c1 c2 c3;generalize wr.alloc (.cells #[.string x.name,.int .i64 x.a,.int .i64 x.b,.int .i64 x.c] 42)=W1 at *;generalize wr.heap.size=bx at *;obtain⟨⟨P,Q⟩,hpq⟩:∃pq:Nat × Nat,(f x.name).getD (0,0)=pq:=⟨_,rfl⟩;obtain⟨b,hb⟩:∃b,(f x.name).isSome=b:=⟨_,rfl⟩;have hlook:(Instr.lookup 70 (.map (some w.heap.size)) (.string x.name) true).run Tryz.prog W1=.ok (.tuple #[.agg #[.int .i64 P,.int .i64 Q],.bool b]) W1:=by have h:=(HR1.out.look hxs).1;rw[hpq,hb] at h;exact h
   have d0:_=some (Value.string x.name):=kx.cell 0;have kr:=Blk.new W1 162 #[.int .i64 P,.int .i64 Q];have hbr:zB W1 (W1.alloc (.cells #[.int .i64 P,.int .i64 Q] 162)):=zF.alloc zN _;have kx2:=kx.below hbr kx.lt;have HR2:=zH (HR1.out.below hbr zN);have HB2:Hid (zB w (W1.alloc (.cells #[.int .i64 P,.int .i64 Q] 162))):=zT HB1.out hbr;have HPQ:=zH hpq;have HBB:=zH hb;have hxr:bx≠W1.heap.size:=Nat.ne_of_lt kx.lt;have hbW:w.heap.size<=W1.heap.size:=HB1.out.size;clear hpq hb hbr HR1 HB1 kx;go_upto_region 6 with fail;clear hlook d0;generalize W1.alloc (.cells #[.int .i64 P,.int .i64 Q] 162)=W2 at *;generalize W1.heap.size=br at *;have hmr:=HR2.out.ne kr;cases b with
   |false =>
    have e0:_=some (Value.int .i64 P):=kr.cell 0;have e1:_=some (Value.int .i64 Q):=kr.cell 1;have ef0:=kr.frozen 0;have ef1:=kr.frozen 1;have k3:Blk ((W2.setCell ⟨br,0,none⟩ (.int .i64 k)).setCell ⟨br,1,none⟩ (.int .i64 ((k:Int)+1))) br 162 #[.int .i64 k,.int .i64 ((k:Int)+1)]:=(kr.set (i:=0)).set (i:=1);have kx3:Blk ((W2.setCell ⟨br,0,none⟩ (.int .i64 k)).setCell ⟨br,1,none⟩ (.int .i64 ((k:Int)+1))) bx 42 #[.string x.name,.int .i64 x.a,.int .i64 x.b,.int .i64 x.c]:=(kx2.other hxr).other hxr;have hr3:qM ((W2.setCell ⟨br,0,none⟩ (.int .i64 k)).setCell ⟨br,1,none⟩ (.int .i64 ((k:Int)+1))) w.heap.size f k:=HR2.out.block (by rw[Below.heap_setCell _ _ _ _ hmr,Below.heap_setCell _ _ _ _ hmr]);have hb3:zB w ((W2.setCell ⟨br,0,none⟩ (.int .i64 k)).setCell ⟨br,1,none⟩ (.int .i64 ((k:Int)+1))):=(HB2.out.setCell (p:=⟨br,0,none⟩) hbW _).setCell (p:=⟨br,1,none⟩) hbW _;go_upto_region 9 with fail;clear e0 e1 ef0 ef1;generalize ((W2.setCell ⟨br,0,none⟩ (.int .i64 k)).setCell ⟨br,1,none⟩ (.int .i64 ((k:Int)+1)))=W3 at *;obtain⟨w4,hrun,hr4,hg4⟩:=hr3.put hxs (k,k+1) (by omega);have hrun':(Instr.mapUpdate 70 (.map (some w.heap.size)) (.string x.name) (.agg #[.int .i64 k,.int .i64 ((k:Int)+1)])).run Tryz.prog W3=.ok () w4:=hrun;have g0:_=some (Value.int .i64 k):=k3.cell 0;have g1:_=some (Value.int .i64 ((k:Int)+1)):=k3.cell 1;have g2:_=some (Value.string x.name):=kx3.cell 0;have HB4:Hid (zB w w4):=hb3.grown hg4 hb3.size (fun j hj=>by cases hj;exact Nat.le_refl _);have HR4:Hid (qM w4 w.heap.size (yk (its.take (k+1))) (k+1)):=by
     show qM _ _ _ _;rw[HSN.out];have e:((f x.name).map Prod.fst).getD k=k:=by
      have h:=HBB.out;cases hf:f x.name with
      |none=>rfl
      |some r=>rw[hf] at h;cases h
     rw[e];exact hr4
    clear hrun hr4 hg4 k3 kx3 hr3 hb3 HR2 HB2 kr kx2;go_wp2;go_roundw
    case rel=>exact⟨k+1,hlt,by go_num,HR4.out,HB4.out⟩
    case measure=>simp[intOf];omega
   |true =>
    have e0:_=some (Value.int .i64 P):=kr.cell 0;have e1:_=some (Value.int .i64 Q):=kr.cell 1;have ef0:=kr.frozen 0;have ef1:=kr.frozen 1;have k3:Blk (W2.setCell ⟨br,1,none⟩ (.int .i64 ((k:Int)+1))) br 162 #[.int .i64 P,.int .i64 ((k:Int)+1)]:=kr.set (i:=1);have kx3:Blk (W2.setCell ⟨br,1,none⟩ (.int .i64 ((k:Int)+1))) bx 42 #[.string x.name,.int .i64 x.a,.int .i64 x.b,.int .i64 x.c]:=kx2.other hxr;have hr3:qM (W2.setCell ⟨br,1,none⟩ (.int .i64 ((k:Int)+1))) w.heap.size f k:=HR2.out.block (by rw[Below.heap_setCell _ _ _ _ hmr]);have hb3:zB w (W2.setCell ⟨br,1,none⟩ (.int .i64 ((k:Int)+1))):=HB2.out.setCell (p:=⟨br,1,none⟩) hbW _;go_upto_region 9 with fail;clear e0 e1 ef0 ef1;generalize (W2.setCell ⟨br,1,none⟩ (.int .i64 ((k:Int)+1)))=W3 at *;obtain⟨w4,hrun,hr4,hg4⟩:=hr3.put hxs (P,k+1) (by omega);have hrun':(Instr.mapUpdate 70 (.map (some w.heap.size)) (.string x.name) (.agg #[.int .i64 P,.int .i64 ((k:Int)+1)])).run Tryz.prog W3=.ok () w4:=hrun;have g0:_=some (Value.int .i64 P):=k3.cell 0;have g1:_=some (Value.int .i64 ((k:Int)+1)):=k3.cell 1;have g2:_=some (Value.string x.name):=kx3.cell 0;have HB4:Hid (zB w w4):=hb3.grown hg4 hb3.size (fun j hj=>by cases hj;exact Nat.le_refl _);have HR4:Hid (qM w4 w.heap.size (yk (its.take (k+1))) (k+1)):=by
     show qM _ _ _ _;rw[HSN.out];have e:((f x.name).map Prod.fst).getD k=P:=by
      have h:=HBB.out;have h2:=HPQ.out;cases hf:f x.name with
      |none=>rw[hf] at h;cases h
      |some r=>rw[hf] at h2;simp at h2;simp[h2]
     rw[e];exact hr4
    clear hrun hr4 hg4 k3 kx3 hr3 hb3 HR2 HB2 kr kx2;go_wp2;go_roundw
    case rel=>exact⟨k+1,hlt,by go_num,HR4.out,HB4.out⟩
    case measure=>simp[intOf];omega
  ·obtain rfl:k=its.length:=by omega
   rw[List.take_length] at hrows;have HR:=zH hrows;have HB:=zH hbr;clear hrows hbr;go_wp2;go_ret;exact⟨rfl,HR.out,HB.out⟩
end Go.Proofs.YtlmmkbnjhilbdaaGreatDoor
namespace Go.Proofs
open Go.Shelf
def Tryz.sortItem_ren:Go.Shelf.Ren:=⟨fun|6=>90|15=>137|14=>136|28=>184|29=>185|20=>176|21=>177|22=>178|23=>179|24=>180|25=>181|26=>182|27=>183|46=>212|47=>213|48=>214|49=>215|50=>216|57=>229|n=>n,fun|22=>33|24=>42|25=>179|3=>3|39=>73|0=>0|53=>291|55=>200|4=>4|46=>285|45=>284|50=>264|5=>5|9=>9|66=>314|70=>318|76=>332|77=>227|n=>n,fun|n=>n⟩
theorem Tryz.sortItem:Go.Proofs.SlLaysF0.n6 Tryz.prog Tryz.sortItem_ren:={
 mixed:=by kernel_rfl
 f6:=⟨Tryz.f90.name,by decide,zK Tryz.func90 (by kernel_rfl)⟩
 f14:=⟨Tryz.f136.name,by decide,zK Tryz.func136 (by kernel_rfl)⟩
 f15:=zK Tryz.func137 (by kernel_rfl)
 f20:=⟨Tryz.f176.name,by decide,zK Tryz.func176 (by kernel_rfl)⟩
 f21:=⟨Tryz.f177.name,by decide,zK Tryz.func177 (by kernel_rfl)⟩
 f22:=⟨Tryz.f178.name,by decide,zK Tryz.func178 (by kernel_rfl)⟩
 f23:=⟨Tryz.f179.name,by decide,zK Tryz.func179 (by kernel_rfl)⟩
 f24:=⟨Tryz.f180.name,by decide,zK Tryz.func180 (by kernel_rfl)⟩
 f25:=⟨Tryz.f181.name,by decide,zK Tryz.func181 (by kernel_rfl)⟩
 f26:=⟨Tryz.f182.name,by decide,zK Tryz.func182 (by kernel_rfl)⟩
 f27:=⟨Tryz.f183.name,by decide,zK Tryz.func183 (by kernel_rfl)⟩
 f28:=zK Tryz.func184 (by kernel_rfl)
 f29:=zK Tryz.func185 (by kernel_rfl)
 f46:=⟨Tryz.f212.name,by decide,zK Tryz.func212 (by kernel_rfl)⟩
 f47:=zK Tryz.func213 (by kernel_rfl)
 f48:=zK Tryz.func214 (by kernel_rfl)
 f49:=⟨Tryz.f215.name,by decide,zK Tryz.func215 (by kernel_rfl)⟩
 f50:=⟨Tryz.f216.name,by decide,zK Tryz.func216 (by kernel_rfl)⟩
 f57:=⟨Tryz.f229.name,by decide,zK Tryz.func229 (by kernel_rfl)⟩
 t0:=Tryz.underlying0
 a0:=Tryz.isAgg0
 z0:=Tryz.sizeOf0
 v0:=Tryz.zeroValue0
 t3:=Tryz.underlying3
 a3:=Tryz.isAgg3
 z3:=Tryz.sizeOf3
 v3:=Tryz.zeroValue3
 t4:=Tryz.underlying4
 a4:=Tryz.isAgg4
 z4:=Tryz.sizeOf4
 v4:=Tryz.zeroValue4
 t5:=Tryz.underlying5
 a5:=Tryz.isAgg5
 z5:=Tryz.sizeOf5
 v5:=Tryz.zeroValue5
 t9:=Tryz.underlying9
 a9:=Tryz.isAgg9
 z9:=Tryz.sizeOf9
 v9:=Tryz.zeroValue9
 t22:=Tryz.underlying33
 a22:=Tryz.isAgg33
 z22:=Tryz.sizeOf33
 v22:=Tryz.zeroValue33
 t25:=Tryz.underlying179
 a25:=Tryz.isAgg179
 z25:=Tryz.sizeOf179
 v25:=Tryz.zeroValue179
 t39:=Tryz.underlying73
 a39:=Tryz.isAgg73
 z39:=Tryz.sizeOf73
 v39:=Tryz.zeroValue73
 t45:=Tryz.underlying284
 a45:=Tryz.isAgg284
 z45:=Tryz.sizeOf284
 v45:=Tryz.zeroValue284
 t46:=Tryz.underlying285
 a46:=Tryz.isAgg285
 z46:=Tryz.sizeOf285
 v46:=Tryz.zeroValue285
 t50:=Tryz.underlying264
 a50:=Tryz.isAgg264
 z50:=Tryz.sizeOf264
 v50:=Tryz.zeroValue264
 t53:=Tryz.underlying291
 a53:=Tryz.isAgg291
 z53:=Tryz.sizeOf291
 v53:=Tryz.zeroValue291
 t55:=Tryz.underlying200
 a55:=Tryz.isAgg200
 z55:=Tryz.sizeOf200
 v55:=Tryz.zeroValue200
 t66:=Tryz.underlying314
 a66:=Tryz.isAgg314
 z66:=Tryz.sizeOf314
 v66:=Tryz.zeroValue314
 t70:=Tryz.underlying318
 a70:=Tryz.isAgg318
 z70:=Tryz.sizeOf318
 v70:=Tryz.zeroValue318
 t76:=Tryz.underlying332
 a76:=Tryz.isAgg332
 z76:=Tryz.sizeOf332
 v76:=Tryz.zeroValue332
 t77:=Tryz.underlying227
 a77:=Tryz.isAgg227
 z77:=Tryz.sizeOf227
 v77:=Tryz.zeroValue227 }
def Tryz.ixItem_ren:Go.Shelf.Ren:=⟨fun|6=>42|n=>n,fun|22=>33|24=>42|3=>3|0=>0|4=>4|n=>n,fun|n=>n⟩
theorem Tryz.ixItem:Go.Proofs.SlLaysQ.n6 Tryz.prog Tryz.ixItem_ren:={
 mixed:=by kernel_rfl
 f6:=⟨Tryz.f42.name,by decide,zK Tryz.func42 (by kernel_rfl)⟩
 t0:=Tryz.underlying0
 a0:=Tryz.isAgg0
 z0:=Tryz.sizeOf0
 v0:=Tryz.zeroValue0
 t3:=Tryz.underlying3
 a3:=Tryz.isAgg3
 z3:=Tryz.sizeOf3
 v3:=Tryz.zeroValue3
 t4:=Tryz.underlying4
 a4:=Tryz.isAgg4
 z4:=Tryz.sizeOf4
 v4:=Tryz.zeroValue4
 t22:=Tryz.underlying33
 a22:=Tryz.isAgg33
 z22:=Tryz.sizeOf33
 v22:=Tryz.zeroValue33 }
def Tryz.hasItem_ren:Go.Shelf.Ren:=⟨fun|7=>89|6=>42|n=>n,fun|22=>33|24=>42|4=>4|0=>0|3=>3|n=>n,fun|n=>n⟩
theorem Tryz.hasItem:Go.Proofs.SlLaysQ.n7 Tryz.prog Tryz.hasItem_ren:={
 mixed:=by kernel_rfl
 f6:=⟨Tryz.f42.name,by decide,zK Tryz.func42 (by kernel_rfl)⟩
 f7:=⟨Tryz.f89.name,by decide,zK Tryz.func89 (by kernel_rfl)⟩
 t0:=Tryz.underlying0
 a0:=Tryz.isAgg0
 z0:=Tryz.sizeOf0
 v0:=Tryz.zeroValue0
 t3:=Tryz.underlying3
 a3:=Tryz.isAgg3
 z3:=Tryz.sizeOf3
 v3:=Tryz.zeroValue3
 t4:=Tryz.underlying4
 a4:=Tryz.isAgg4
 z4:=Tryz.sizeOf4
 v4:=Tryz.zeroValue4
 t22:=Tryz.underlying33
 a22:=Tryz.isAgg33
 z22:=Tryz.sizeOf33
 v22:=Tryz.zeroValue33 }
def Tryz.clnLine_ren:Go.Shelf.Ren:=⟨fun|41=>19|n=>n,fun|22=>30|23=>69|4=>4|n=>n,fun|n=>n⟩
theorem Tryz.clnLine:Go.Proofs.SlLaysE0.n41 Tryz.prog Tryz.clnLine_ren:={
 mixed:=by kernel_rfl
 f41:=⟨Tryz.f19.name,by decide,zK Tryz.func19 (by kernel_rfl)⟩
 t4:=Tryz.underlying4
 a4:=Tryz.isAgg4
 z4:=Tryz.sizeOf4
 v4:=Tryz.zeroValue4
 t22:=Tryz.underlying30
 a22:=Tryz.isAgg30
 z22:=Tryz.sizeOf30
 v22:=Tryz.zeroValue30 }
def Tryz.clnItem_ren:Go.Shelf.Ren:=⟨fun|41=>20|n=>n,fun|22=>33|23=>42|4=>4|n=>n,fun|n=>n⟩
theorem Tryz.clnItem:Go.Proofs.SlLaysE0.n41 Tryz.prog Tryz.clnItem_ren:={
 mixed:=by kernel_rfl
 f41:=⟨Tryz.f20.name,by decide,zK Tryz.func20 (by kernel_rfl)⟩
 t4:=Tryz.underlying4
 a4:=Tryz.isAgg4
 z4:=Tryz.sizeOf4
 v4:=Tryz.zeroValue4
 t22:=Tryz.underlying33
 a22:=Tryz.isAgg33
 z22:=Tryz.sizeOf33
 v22:=Tryz.zeroValue33 }
def Tryz.clnCl_ren:Go.Shelf.Ren:=⟨fun|41=>128|n=>n,fun|22=>127|23=>3|4=>4|n=>n,fun|n=>n⟩
theorem Tryz.clnCl:Go.Proofs.SlLaysE0.n41 Tryz.prog Tryz.clnCl_ren:={
 mixed:=by kernel_rfl
 f41:=⟨Tryz.f128.name,by decide,zK Tryz.func128 (by kernel_rfl)⟩
 t4:=Tryz.underlying4
 a4:=Tryz.isAgg4
 z4:=Tryz.sizeOf4
 v4:=Tryz.zeroValue4
 t22:=Tryz.underlying127
 a22:=Tryz.isAgg127
 z22:=Tryz.sizeOf127
 v22:=Tryz.zeroValue127 }
def Tryz.insInt_ren:Go.Shelf.Ren:=⟨fun|21=>37|27=>77|28=>78|35=>117|39=>158|n=>n,fun|22=>24|3=>3|4=>4|0=>0|n=>n,fun|n=>n⟩
theorem Tryz.insInt:Go.Proofs.Lays2.n21 Tryz.prog Tryz.insInt_ren:={
 mixed:=by kernel_rfl
 f21:=zK Tryz.func37 (by kernel_rfl)
 f27:=zK Tryz.func77 (by kernel_rfl)
 f28:=zK Tryz.func78 (by kernel_rfl)
 f35:=zK Tryz.func117 (by kernel_rfl)
 f39:=zK Tryz.func158 (by kernel_rfl)
 t0:=Tryz.underlying0
 a0:=Tryz.isAgg0
 z0:=Tryz.sizeOf0
 v0:=Tryz.zeroValue0
 t3:=Tryz.underlying3
 a3:=Tryz.isAgg3
 z3:=Tryz.sizeOf3
 v3:=Tryz.zeroValue3
 t4:=Tryz.underlying4
 a4:=Tryz.isAgg4
 z4:=Tryz.sizeOf4
 v4:=Tryz.zeroValue4
 t22:=Tryz.underlying24
 a22:=Tryz.isAgg24
 z22:=Tryz.sizeOf24
 v22:=Tryz.zeroValue24
 i3:=by kernel_rfl }
end Go.Proofs
namespace Go.Proofs.YtlmmkbnjhilbdaaGreatDoor
open Go.RowKit Go.Shelf Go.Lib Sv
theorem eq3(a b c a' b' c':Int)(w:World):(Op.equalIn 9999 40 (.agg #[.int .i64 a,.int .i64 b,.int .i64 c]) (.agg #[.int .i64 a',.int .i64 b',.int .i64 c'])).run Tryz.prog w=.ok (a==a'&&(b==b'&&c==c')) w:=by
 have u3:=Tryz.underlying3;have a3:=Tryz.isAgg3;have z3:=Tryz.sizeOf3;rw[show (9999:Nat)=9998+1 from rfl,Op.equalIn];simp only[Sem.run_bind,run_underlying Tryz.underlying40,Result.andThen_ok];simp only[Std.Legacy.Range.forIn_eq_forIn_range',Std.Legacy.Range.size,Nat.sub_zero,Nat.add_sub_cancel,Nat.div_one,List.range'_succ,List.range'_zero,List.forIn_cons,List.forIn_nil]
 by_cases h1:a=a'
 ·by_cases h2:b=b'
  ·by_cases h3:c=c'
   ·subst h1 h2 h3;go_simp
   ·have e3:(c==c')=false:=by simpa using h3
    subst h1 h2;go_simp
  ·have e2:(b==b')=false:=by simpa using h2
   subst h1;go_simp
 ·have e1:(a==a')=false:=by simpa using h1
  go_simp
theorem zcy:EqlAt Tryz.prog 42 (fun x=>.agg (qC x).toArray) (fun x y=>decide (x=y)):=by
 refine⟨fun x y w=>?_,GuardAt.agg _ (by kernel_rfl)⟩;have u3:=Tryz.underlying3;have a3:=Tryz.isAgg3;have z3:=Tryz.sizeOf3;have u9:=Tryz.underlying9;have a9:=Tryz.isAgg9;have z9:=Tryz.sizeOf9;have av:=Tryz.isAgg40;have zv:=Tryz.sizeOf40;have hS:Tryz.prog.underlying 42=some (.struct (Tryz.prog.fieldsOf 42)):=by kernel_rfl
 have hp:Tryz.prog.stoodInHeld 42=false:=by kernel_rfl
 have he:decide (x=y)=(x.name.toList==y.name.toList&&(x.a==y.a&&(x.b==y.b&&x.c==y.c))):=by
  obtain⟨n,a,b,c⟩:=x;obtain⟨n',a',b',c'⟩:=y;rw[Bool.eq_iff_iff];simp only[decide_eq_true_eq,It.mk.injEq,Bool.and_eq_true,beq_iff_eq];constructor
  ·rintro⟨rfl,rfl,rfl,rfl⟩;exact⟨rfl,rfl,rfl,rfl⟩
  ·rintro⟨h,rfl,rfl,rfl⟩;exact⟨YS h,rfl,rfl,rfl⟩
 show (binOp .eql 42 (.agg (qC x).toArray) (.agg (qC y).toArray)).run Tryz.prog w=.ok (.bool (decide (x=y))) w;rw[he];simp only[qC];have h3:=eq3 x.a x.b x.c y.a y.b y.c;generalize x.name=n at *;generalize y.name=n' at *;generalize x.a=a at *;generalize x.b=b at *;generalize x.c=c at *;generalize y.a=a' at *;generalize y.b=b' at *;generalize y.c=c' at *;generalize (a==a'&&(b==b'&&c==c'))=q at *;clear he;rw[run_eql_struct,show (10000:Nat)=9999+1 from rfl,run_equalIn_agg w 9999 42 _ _ hS hp];simp only[Program.fieldsOf,Tryz.underlying42];cases hn:(n.toList==n'.toList)<;>cases q<;>go_simp
end Go.Proofs.YtlmmkbnjhilbdaaGreatDoor
namespace Go.Proofs.YtlmmkbnjhilbdaaGreatDoor
open Go.RowKit Sv
theorem zlL(va:Option Addr)(vl vc:Nat)(a b c:Int)(hx:a<0)(w:World) :
  zR 76 #[.agg #[.slice va vl vc],.agg #[.int .i64 a,.int .i64 b,.int .i64 c]] w (.bool false):=by
 have hB0:zB w ((w.alloc (.cells #[.slice va vl vc] 67)).alloc (.cells #[.int .i64 a,.int .i64 b,.int .i64 c] 40)):=((Below.refl _ w).alloc zN _).alloc (by simp only[World.size_alloc];omega) _;have HB0:=zH hB0;clear hB0;go_enter Tryz.func76,Tryz.ntmps76;go_wp2_with fail;generalize (w.alloc (.cells #[.slice va vl vc] 67)).alloc (.cells #[.int .i64 a,.int .i64 b,.int .i64 c] 40)=W0 at *;go_loop [10] (fun i=>∃k:Nat,k<=0/\i=.int .i64 k) (fun i=>3-(intOf i).toNat)
 case atStart=>exact⟨0,by omega,rfl⟩
 case round =>
  obtain⟨k,hk,rfl⟩:=hrel
  match k,hk with
  |0,_ =>have hix:=Yc a b c W0;go_wp2;go_ret;exact⟨rfl,HB0.out⟩
theorem znL(va:Option Addr)(vl vc:Nat)(a b c:Int)(hx0:¬a<0)(hx:999<a)(w:World) :
  zR 76 #[.agg #[.slice va vl vc],.agg #[.int .i64 a,.int .i64 b,.int .i64 c]] w (.bool false):=by
 have hB0:zB w ((w.alloc (.cells #[.slice va vl vc] 67)).alloc (.cells #[.int .i64 a,.int .i64 b,.int .i64 c] 40)):=((Below.refl _ w).alloc zN _).alloc (by simp only[World.size_alloc];omega) _;have HB0:=zH hB0;clear hB0;go_enter Tryz.func76,Tryz.ntmps76;go_wp2_with fail;generalize (w.alloc (.cells #[.slice va vl vc] 67)).alloc (.cells #[.int .i64 a,.int .i64 b,.int .i64 c] 40)=W0 at *;go_loop [10] (fun i=>∃k:Nat,k<=0/\i=.int .i64 k) (fun i=>3-(intOf i).toNat)
 case atStart=>exact⟨0,by omega,rfl⟩
 case round =>
  obtain⟨k,hk,rfl⟩:=hrel
  match k,hk with
  |0,_ =>have hix:=Yc a b c W0;go_wp2;go_ret;exact⟨rfl,HB0.out⟩
theorem znY(va:Option Addr)(vl vc:Nat)(a b c:Int)(ha0:¬a<0)(ha1:¬999<a)(hx:b<0)(w:World) :
  zR 76 #[.agg #[.slice va vl vc],.agg #[.int .i64 a,.int .i64 b,.int .i64 c]] w (.bool false):=by
 have hB0:zB w ((w.alloc (.cells #[.slice va vl vc] 67)).alloc (.cells #[.int .i64 a,.int .i64 b,.int .i64 c] 40)):=((Below.refl _ w).alloc zN _).alloc (by simp only[World.size_alloc];omega) _;have HB0:=zH hB0;clear hB0;go_enter Tryz.func76,Tryz.ntmps76;go_wp2_with fail;generalize (w.alloc (.cells #[.slice va vl vc] 67)).alloc (.cells #[.int .i64 a,.int .i64 b,.int .i64 c] 40)=W0 at *;go_loop [10] (fun i=>∃k:Nat,k<=1/\i=.int .i64 k) (fun i=>3-(intOf i).toNat)
 case atStart=>exact⟨0,by omega,rfl⟩
 case round =>
  obtain⟨k,hk,rfl⟩:=hrel
  match k,hk with
  |0,_ =>
   have hix:=Yc a b c W0;go_wp2;go_round
   case rel=>exact⟨1,by omega,rfl⟩
   case measure=>simp[intOf]
  |1,_ =>have hix:=Y9 a b c W0;go_wp2;go_ret;exact⟨rfl,HB0.out⟩
theorem zgO(va:Option Addr)(vl vc:Nat)(a b c:Int)(ha0:¬a<0)(ha1:¬999<a)(hx0:¬b<0)(hx:999<b)(w:World) :
  zR 76 #[.agg #[.slice va vl vc],.agg #[.int .i64 a,.int .i64 b,.int .i64 c]] w (.bool false):=by
 have hB0:zB w ((w.alloc (.cells #[.slice va vl vc] 67)).alloc (.cells #[.int .i64 a,.int .i64 b,.int .i64 c] 40)):=((Below.refl _ w).alloc zN _).alloc (by simp only[World.size_alloc];omega) _;have HB0:=zH hB0;clear hB0;go_enter Tryz.func76,Tryz.ntmps76;go_wp2_with fail;generalize (w.alloc (.cells #[.slice va vl vc] 67)).alloc (.cells #[.int .i64 a,.int .i64 b,.int .i64 c] 40)=W0 at *;go_loop [10] (fun i=>∃k:Nat,k<=1/\i=.int .i64 k) (fun i=>3-(intOf i).toNat)
 case atStart=>exact⟨0,by omega,rfl⟩
 case round =>
  obtain⟨k,hk,rfl⟩:=hrel
  match k,hk with
  |0,_ =>
   have hix:=Yc a b c W0;go_wp2;go_round
   case rel=>exact⟨1,by omega,rfl⟩
   case measure=>simp[intOf]
  |1,_ =>have hix:=Y9 a b c W0;go_wp2;go_ret;exact⟨rfl,HB0.out⟩
theorem zoF(va:Option Addr)(vl vc:Nat)(a b c:Int)(ha0:¬a<0)(ha1:¬999<a)(hb0:¬b<0)(hb1:¬999<b)(hx:c<0)(w:World) :
  zR 76 #[.agg #[.slice va vl vc],.agg #[.int .i64 a,.int .i64 b,.int .i64 c]] w (.bool false):=by
 have hB0:zB w ((w.alloc (.cells #[.slice va vl vc] 67)).alloc (.cells #[.int .i64 a,.int .i64 b,.int .i64 c] 40)):=((Below.refl _ w).alloc zN _).alloc (by simp only[World.size_alloc];omega) _;have HB0:=zH hB0;clear hB0;go_enter Tryz.func76,Tryz.ntmps76;go_wp2_with fail;generalize (w.alloc (.cells #[.slice va vl vc] 67)).alloc (.cells #[.int .i64 a,.int .i64 b,.int .i64 c] 40)=W0 at *;go_loop [10] (fun i=>∃k:Nat,k<=2/\i=.int .i64 k) (fun i=>3-(intOf i).toNat)
 case atStart=>exact⟨0,by omega,rfl⟩
 case round =>
  obtain⟨k,hk,rfl⟩:=hrel
  match k,hk with
  |0,_ =>
   have hix:=Yc a b c W0;go_wp2;go_round
   case rel=>exact⟨1,by omega,rfl⟩
   case measure=>simp[intOf]
  |1,_ =>
   have hix:=Y9 a b c W0;go_wp2;go_round
   case rel=>exact⟨2,by omega,rfl⟩
   case measure=>simp[intOf]
  |2,_ =>have hix:=zaW a b c W0;go_wp2;go_ret;exact⟨rfl,HB0.out⟩
theorem znq(va:Option Addr)(vl vc:Nat)(a b c:Int)(ha0:¬a<0)(ha1:¬999<a)(hb0:¬b<0)(hb1:¬999<b)(hx0:¬c<0)(hx:999<c)(w:World) :
  zR 76 #[.agg #[.slice va vl vc],.agg #[.int .i64 a,.int .i64 b,.int .i64 c]] w (.bool false):=by
 have hB0:zB w ((w.alloc (.cells #[.slice va vl vc] 67)).alloc (.cells #[.int .i64 a,.int .i64 b,.int .i64 c] 40)):=((Below.refl _ w).alloc zN _).alloc (by simp only[World.size_alloc];omega) _;have HB0:=zH hB0;clear hB0;go_enter Tryz.func76,Tryz.ntmps76;go_wp2_with fail;generalize (w.alloc (.cells #[.slice va vl vc] 67)).alloc (.cells #[.int .i64 a,.int .i64 b,.int .i64 c] 40)=W0 at *;go_loop [10] (fun i=>∃k:Nat,k<=2/\i=.int .i64 k) (fun i=>3-(intOf i).toNat)
 case atStart=>exact⟨0,by omega,rfl⟩
 case round =>
  obtain⟨k,hk,rfl⟩:=hrel
  match k,hk with
  |0,_ =>
   have hix:=Yc a b c W0;go_wp2;go_round
   case rel=>exact⟨1,by omega,rfl⟩
   case measure=>simp[intOf]
  |1,_ =>
   have hix:=Y9 a b c W0;go_wp2;go_round
   case rel=>exact⟨2,by omega,rfl⟩
   case measure=>simp[intOf]
  |2,_ =>have hix:=zaW a b c W0;go_wp2;go_ret;exact⟨rfl,HB0.out⟩
theorem zky(va:Option Addr)(vl vc:Nat)(a b c:Int)(h:¬((0<=a/\a<=999)/\(0<=b/\b<=999)/\(0<=c/\c<=999)))(w:World) :
  zR 76 #[.agg #[.slice va vl vc],.agg #[.int .i64 a,.int .i64 b,.int .i64 c]] w (.bool false):=by
 by_cases a0:a<0
 ·exact zlL va vl vc a b c a0 w
 by_cases a1:999<a
 ·exact znL va vl vc a b c a0 a1 w
 by_cases b0:b<0
 ·exact znY va vl vc a b c a0 a1 b0 w
 by_cases b1:999<b
 ·exact zgO va vl vc a b c a0 a1 b0 b1 w
 by_cases c0:c<0
 ·exact zoF va vl vc a b c a0 a1 b0 b1 c0 w
 by_cases c1:999<c
 ·exact znq va vl vc a b c a0 a1 b0 b1 c0 c1 w
 exact absurd ⟨⟨by omega,by omega⟩,⟨by omega,by omega⟩,⟨by omega,by omega⟩⟩ h
end Go.Proofs.YtlmmkbnjhilbdaaGreatDoor
namespace Go.Proofs.YtlmmkbnjhilbdaaGreatDoor
open Go.RowKit Sv
theorem Zv(s:ByteArray)(w:World)(h:zI s):zC 134 #[.string s] w fun e w'=>e=.returned (.bool true)/\w=w':=(zfE s w).mono fun _ _ ⟨h1,h2⟩=>⟨h1.1 h,h2⟩
theorem YL(s:ByteArray)(w:World)(h:¬zI s):zC 134 #[.string s] w fun e w'=>e=.returned (.bool false)/\w=w':=(zfE s w).mono fun _ _ ⟨h1,h2⟩=>⟨h1.2 h,h2⟩
open Classical in
theorem zfq(l:List zg)(hl:Rg l)(va:Option Addr)(vc:Nat)(x:It)(w:World)(hv:zi w (.slice va l.length vc) l) :
  zR 76 #[.agg #[.slice va l.length vc],.agg #[.int .i64 x.a,.int .i64 x.b,.int .i64 x.c]] w (.bool (decide (xF l x))):=by
 by_cases h:InV x.a x.b x.c
 ·obtain⟨n,a,b,c⟩:=x;obtain⟨a',rfl⟩:∃a':Nat,a=(a':Int):=⟨a.toNat,by have:=h.1;simp only at this;omega⟩;obtain⟨b',rfl⟩:∃b':Nat,b=(b':Int):=⟨b.toNat,by have:=h.2.1;simp only at this;omega⟩;obtain⟨c',rfl⟩:∃c':Nat,c=(c':Int):=⟨c.toNat,by have:=h.2.2;simp only at this;omega⟩;have h1:=h.1;have h2:=h.2.1;have h3:=h.2.2;simp only at h1 h2 h3;refine(KM l hl (.slice va l.length vc) a' b' c' (by omega) (by omega) (by omega) w hv).mono fun e w' ⟨B,he,hB,hb⟩=>⟨?_,hb⟩;rw[he];congr 2;rw[Bool.eq_iff_iff,hB,decide_eq_true_eq];unfold xF;simp only[Int.toNat_natCast];exact⟨fun h'=>⟨h,h'⟩,fun h'=>h'.2⟩
 ·refine(zky va l.length vc x.a x.b x.c h w).mono fun e w' ⟨he,hb⟩=>⟨?_,hb⟩;rw[he];congr 2;symm;rw[decide_eq_false_iff_not];exact fun h'=>h h'.1
theorem K6(va:Option Addr)(vc:Nat)(a b c:Int)(w:World)(hv:zi w (.slice va zt.length vc) zt) :
  zR 76 #[.agg #[.slice va zt.length vc],.agg #[.int .i64 a,.int .i64 b,.int .i64 c]] w (.bool (decide (InV a b c))):=by
 refine(zfq zt Ya va vc ⟨⟨#[]⟩,a,b,c⟩ w hv).mono fun e w' ⟨he,hb⟩=>⟨?_,hb⟩;rw[he];congr 2;rw[Bool.eq_iff_iff];simp only[decide_eq_true_eq];unfold xF;constructor
 ·exact fun h=>h.1
 ·intro h;refine⟨h,zgt.2 ?_⟩;obtain⟨h1,h2,h3⟩:=h;simp only;unfold Qj ALL;omega
theorem zgL(ra:Option Addr)(rc:Nat)(w:World):zR 135 #[.agg #[.slice ra 0 rc]] w (.bool true):=by
 have hB:Hid (zB w (w.alloc (.cells #[.slice ra 0 rc] 67))):=(Below.refl _ w).alloc zN _;go_enter Tryz.func135,Tryz.ntmps135;go_wp2;go_ret;exact⟨rfl,hB.out⟩
theorem zn2(ra:Option Addr)(rn rc:Nat)(w:World)(h:0<rn):zR 135 #[.agg #[.slice ra rn rc]] w (.bool false):=by
 have hB:Hid (zB w (w.alloc (.cells #[.slice ra rn rc] 67))):=(Below.refl _ w).alloc zN _;have hz:((rn:Int)==0)=false:=by rw[beq_eq_false_iff_ne];omega
 go_enter Tryz.func135,Tryz.ntmps135;go_wp2;go_ret;exact⟨rfl,hB.out⟩
theorem zgb(a b c a' b' c':Int)(w:World):(Op.equalIn 10000 40 (.agg #[.int .i64 a,.int .i64 b,.int .i64 c]) (.agg #[.int .i64 a',.int .i64 b',.int .i64 c'])).run Tryz.prog w=.ok (a==a'&&(b==b'&&c==c')) w:=by
 have u3:=Tryz.underlying3;have a3:=Tryz.isAgg3;have z3:=Tryz.sizeOf3;rw[show (10000:Nat)=9999+1 from rfl,Op.equalIn];simp only[Sem.run_bind,run_underlying Tryz.underlying40,Result.andThen_ok];simp only[Std.Legacy.Range.forIn_eq_forIn_range',Std.Legacy.Range.size,Nat.sub_zero,Nat.add_sub_cancel,Nat.div_one,List.range'_succ,List.range'_zero,List.forIn_cons,List.forIn_nil]
 by_cases h1:a=a'
 ·by_cases h2:b=b'
  ·by_cases h3:c=c'
   ·subst h1 h2 h3;go_simp
   ·have e3:(c==c')=false:=by simpa using h3
    subst h1 h2;go_simp
  ·have e2:(b==b')=false:=by simpa using h2
   subst h1;go_simp
 ·have e1:(a==a')=false:=by simpa using h1
  go_simp
end Go.Proofs.YtlmmkbnjhilbdaaGreatDoor
