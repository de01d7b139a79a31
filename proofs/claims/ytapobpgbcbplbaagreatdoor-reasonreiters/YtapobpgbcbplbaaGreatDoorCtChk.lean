/- check: what it asks. -/
import Derived.Test.YtapobpgbcbplbaaGreatDoorCtMap
import Derived.Shelf.SlSortCmp.NoneTotal
import Derived.Shelf.SlicesQ.Contains
import Derived.Shelf.SlicesE.Clone
import Derived.Shelf.Spec.SlicesInsertGrow
open Go.Proofs.YtapobpgbcbplbaaGreatDoor
set_option maxHeartbeats 4000000
set_option maxRecDepth 100000
namespace Go.Proofs.YtapobpgbcbplbaaGreatDoor
open Go.RowKit Go.Deep Go.Maps Sv
theorem zgX{l:List It}{k:Nat}(h:k<l.length):l.take (k+1)=l.take k++[l.getD k default]:=by
 rw[List.take_succ_eq_append_getElem h,List.getD_eq_getElem?_getD,List.getElem?_eq_getElem h];rfl
theorem zgU(its:List It)(v:Value)(w:World)(h:yJ w v its)(hl:its.length<=100000)(hn:∀x∈its,x.name.size<=100000) :
  zC 58 #[v] w fun e w'=>e=.returned (.map (some w.heap.size))/\qv w' w.heap.size (yf its) its.length/\zB w w':=by
 have HI:=zH h;have HNS:=zH hn;obtain⟨va,vc,rfl,-⟩:=h.form;clear h hn;have hr0:=qv.made w;have HR0:Hid (qv (w.alloc (.map #[] 0)) w.heap.size (yf (its.take 0)) 0):=hr0;have HB0:Hid (zB w (w.alloc (.map #[] 0))):=(Below.refl _ w).alloc zN _;clear hr0;have hmm:=@run_makeMap Tryz.prog;go_enter Tryz.func58,Tryz.ntmps58;go_wp2_with fail;clear hmm;go_loopw [11] (fun iV wr=>∃k:Nat,k<=its.length/\iV=.int .i64 k/\qv wr w.heap.size (yf (its.take k)) k/\zB w wr) (fun iV _=>its.length-(intOf iV).toNat)
 case atStart=>exact⟨0,Nat.zero_le _,rfl,HR0.out,HB0.out⟩
 case round =>
  obtain⟨k,hk,rfl,hrows,hbr⟩:=hrel;clear HR0 HB0
  by_cases hlt:k<its.length
  ·obtain⟨g,cap',e,hg,c0,c1,c2,c3⟩:=(show yJ wr _ its from HI.out.below hbr zN).at k hlt;simp at e;obtain⟨rfl,rfl⟩:=e;have hsn:yf (its.take (k+1))=fun c=>if c=(its.getD k default).name then some ((((yf (its.take k) (its.getD k default).name).map Prod.fst).getD k,k+1)) else yf (its.take k) c:=by
    funext c;rw[zgX hlt,zeY,List.length_take,Nat.min_eq_left hk]
    by_cases hc:(its.getD k default).name=c
    ·subst hc;simp
    ·rw[if_neg hc,if_neg (fun e=>hc e.symm)]
   have hxs:(its.getD k default).name.size<=100000:=HNS.out _ (xL hlt);have HSN:=zH hsn;clear hsn;generalize its.getD k default=x at *;generalize yf (its.take k)=f at *;have kx:=Blk.new wr 92 #[.string x.name,.int .i64 x.a,.int .i64 x.b,.int .i64 x.c];have hbx:zB wr (wr.alloc (.cells #[.string x.name,.int .i64 x.a,.int .i64 x.b,.int .i64 x.c] 92)):=zF.alloc zN _;have hr1:=hrows.below hbx zN;have hb1:zB w (wr.alloc (.cells #[.string x.name,.int .i64 x.a,.int .i64 x.b,.int .i64 x.c] 92)):=zT hbr hbx;have HR1:=zH hr1;have HB1:=zH hb1;clear hrows hbr hbx hr1 hb1;go_upto_region 5 with fail;clear c0 c1 c2 c3;generalize wr.alloc (.cells #[.string x.name,.int .i64 x.a,.int .i64 x.b,.int .i64 x.c] 92)=W1 at *;generalize wr.heap.size=bx at *;obtain⟨⟨P,Q⟩,hpq⟩:∃pq:Nat × Nat,(f x.name).getD (0,0)=pq:=⟨_,rfl⟩;obtain⟨b,hb⟩:∃b,(f x.name).isSome=b:=⟨_,rfl⟩;have hlook:(Instr.lookup 57 (.map (some w.heap.size)) (.string x.name) true).run Tryz.prog W1=.ok (.tuple #[.agg #[.int .i64 P,.int .i64 Q],.bool b]) W1:=by have h:=(HR1.out.look hxs).1;rw[hpq,hb] at h;exact h
   have d0:_=some (Value.string x.name):=kx.cell 0;have kr:=Blk.new W1 132 #[.int .i64 P,.int .i64 Q];have hbr:zB W1 (W1.alloc (.cells #[.int .i64 P,.int .i64 Q] 132)):=zF.alloc zN _;have kx2:=kx.below hbr kx.lt;have HR2:=zH (HR1.out.below hbr zN);have HB2:Hid (zB w (W1.alloc (.cells #[.int .i64 P,.int .i64 Q] 132))):=zT HB1.out hbr;have HPQ:=zH hpq;have HBB:=zH hb;have hxr:bx≠W1.heap.size:=Nat.ne_of_lt kx.lt;have hbW:w.heap.size<=W1.heap.size:=HB1.out.size;clear hpq hb hbr HR1 HB1 kx;go_upto_region 6 with fail;clear hlook d0;generalize W1.alloc (.cells #[.int .i64 P,.int .i64 Q] 132)=W2 at *;generalize W1.heap.size=br at *;have hmr:=HR2.out.ne kr;cases b with
   |false =>
    have e0:_=some (Value.int .i64 P):=kr.cell 0;have e1:_=some (Value.int .i64 Q):=kr.cell 1;have ef0:=kr.frozen 0;have ef1:=kr.frozen 1;have k3:Blk ((W2.setCell ⟨br,0,none⟩ (.int .i64 k)).setCell ⟨br,1,none⟩ (.int .i64 ((k:Int)+1))) br 132 #[.int .i64 k,.int .i64 ((k:Int)+1)]:=(kr.set (i:=0)).set (i:=1);have kx3:Blk ((W2.setCell ⟨br,0,none⟩ (.int .i64 k)).setCell ⟨br,1,none⟩ (.int .i64 ((k:Int)+1))) bx 92 #[.string x.name,.int .i64 x.a,.int .i64 x.b,.int .i64 x.c]:=(kx2.other hxr).other hxr;have hr3:qv ((W2.setCell ⟨br,0,none⟩ (.int .i64 k)).setCell ⟨br,1,none⟩ (.int .i64 ((k:Int)+1))) w.heap.size f k:=HR2.out.block (by rw[Below.heap_setCell _ _ _ _ hmr,Below.heap_setCell _ _ _ _ hmr]);have hb3:zB w ((W2.setCell ⟨br,0,none⟩ (.int .i64 k)).setCell ⟨br,1,none⟩ (.int .i64 ((k:Int)+1))):=(HB2.out.setCell (p:=⟨br,0,none⟩) hbW _).setCell (p:=⟨br,1,none⟩) hbW _;go_upto_region 9 with fail;clear e0 e1 ef0 ef1;generalize ((W2.setCell ⟨br,0,none⟩ (.int .i64 k)).setCell ⟨br,1,none⟩ (.int .i64 ((k:Int)+1)))=W3 at *;obtain⟨w4,hrun,hr4,hg4⟩:=hr3.put hxs (k,k+1) (by omega);have hrun':(Instr.mapUpdate 57 (.map (some w.heap.size)) (.string x.name) (.agg #[.int .i64 k,.int .i64 ((k:Int)+1)])).run Tryz.prog W3=.ok () w4:=hrun;have g0:_=some (Value.int .i64 k):=k3.cell 0;have g1:_=some (Value.int .i64 ((k:Int)+1)):=k3.cell 1;have g2:_=some (Value.string x.name):=kx3.cell 0;have HB4:Hid (zB w w4):=hb3.grown hg4 hb3.size (fun j hj=>by cases hj;exact Nat.le_refl _);have HR4:Hid (qv w4 w.heap.size (yf (its.take (k+1))) (k+1)):=by
     show qv _ _ _ _;rw[HSN.out];have e:((f x.name).map Prod.fst).getD k=k:=by
      have h:=HBB.out;cases hf:f x.name with
      |none=>rfl
      |some r=>rw[hf] at h;cases h
     rw[e];exact hr4
    clear hrun hr4 hg4 k3 kx3 hr3 hb3 HR2 HB2 kr kx2;go_wp2;go_roundw
    case rel=>exact⟨k+1,hlt,by go_num,HR4.out,HB4.out⟩
    case measure=>simp[intOf];omega
   |true =>
    have e0:_=some (Value.int .i64 P):=kr.cell 0;have e1:_=some (Value.int .i64 Q):=kr.cell 1;have ef0:=kr.frozen 0;have ef1:=kr.frozen 1;have k3:Blk (W2.setCell ⟨br,1,none⟩ (.int .i64 ((k:Int)+1))) br 132 #[.int .i64 P,.int .i64 ((k:Int)+1)]:=kr.set (i:=1);have kx3:Blk (W2.setCell ⟨br,1,none⟩ (.int .i64 ((k:Int)+1))) bx 92 #[.string x.name,.int .i64 x.a,.int .i64 x.b,.int .i64 x.c]:=kx2.other hxr;have hr3:qv (W2.setCell ⟨br,1,none⟩ (.int .i64 ((k:Int)+1))) w.heap.size f k:=HR2.out.block (by rw[Below.heap_setCell _ _ _ _ hmr]);have hb3:zB w (W2.setCell ⟨br,1,none⟩ (.int .i64 ((k:Int)+1))):=HB2.out.setCell (p:=⟨br,1,none⟩) hbW _;go_upto_region 9 with fail;clear e0 e1 ef0 ef1;generalize (W2.setCell ⟨br,1,none⟩ (.int .i64 ((k:Int)+1)))=W3 at *;obtain⟨w4,hrun,hr4,hg4⟩:=hr3.put hxs (P,k+1) (by omega);have hrun':(Instr.mapUpdate 57 (.map (some w.heap.size)) (.string x.name) (.agg #[.int .i64 P,.int .i64 ((k:Int)+1)])).run Tryz.prog W3=.ok () w4:=hrun;have g0:_=some (Value.int .i64 P):=k3.cell 0;have g1:_=some (Value.int .i64 ((k:Int)+1)):=k3.cell 1;have g2:_=some (Value.string x.name):=kx3.cell 0;have HB4:Hid (zB w w4):=hb3.grown hg4 hb3.size (fun j hj=>by cases hj;exact Nat.le_refl _);have HR4:Hid (qv w4 w.heap.size (yf (its.take (k+1))) (k+1)):=by
     show qv _ _ _ _;rw[HSN.out];have e:((f x.name).map Prod.fst).getD k=P:=by
      have h:=HBB.out;have h2:=HPQ.out;cases hf:f x.name with
      |none=>rw[hf] at h;cases h
      |some r=>rw[hf] at h2;simp at h2;simp[h2]
     rw[e];exact hr4
    clear hrun hr4 hg4 k3 kx3 hr3 hb3 HR2 HB2 kr kx2;go_wp2;go_roundw
    case rel=>exact⟨k+1,hlt,by go_num,HR4.out,HB4.out⟩
    case measure=>simp[intOf];omega
  ·obtain rfl:k=its.length:=by omega
   rw[List.take_length] at hrows;have HR:=zH hrows;have HB:=zH hbr;clear hrows hbr;go_wp2;go_ret;exact⟨rfl,HR.out,HB.out⟩
end Go.Proofs.YtapobpgbcbplbaaGreatDoor
namespace Go.Proofs
open Go.Shelf
def Tryz.sortItem_ren:Go.Shelf.Ren:=⟨fun|6=>93|15=>80|14=>154|28=>136|29=>137|20=>182|21=>183|22=>184|23=>185|24=>186|25=>187|26=>188|27=>189|46=>216|47=>167|48=>168|49=>217|50=>218|57=>232|n=>n,fun|22=>56|24=>92|25=>194|3=>3|39=>68|0=>0|53=>236|55=>223|4=>4|46=>229|45=>228|50=>155|5=>5|9=>9|66=>272|70=>276|76=>290|77=>209|n=>n,fun|n=>n⟩
theorem Tryz.sortItem:Go.Proofs.SlLaysF0.n6 Tryz.prog Tryz.sortItem_ren:={
 mixed:=by kernel_rfl
 f6:=⟨Tryz.f93.name,by decide,zK Tryz.func93 (by kernel_rfl)⟩
 f14:=⟨Tryz.f154.name,by decide,zK Tryz.func154 (by kernel_rfl)⟩
 f15:=zK Tryz.func80 (by kernel_rfl)
 f20:=⟨Tryz.f182.name,by decide,zK Tryz.func182 (by kernel_rfl)⟩
 f21:=⟨Tryz.f183.name,by decide,zK Tryz.func183 (by kernel_rfl)⟩
 f22:=⟨Tryz.f184.name,by decide,zK Tryz.func184 (by kernel_rfl)⟩
 f23:=⟨Tryz.f185.name,by decide,zK Tryz.func185 (by kernel_rfl)⟩
 f24:=⟨Tryz.f186.name,by decide,zK Tryz.func186 (by kernel_rfl)⟩
 f25:=⟨Tryz.f187.name,by decide,zK Tryz.func187 (by kernel_rfl)⟩
 f26:=⟨Tryz.f188.name,by decide,zK Tryz.func188 (by kernel_rfl)⟩
 f27:=⟨Tryz.f189.name,by decide,zK Tryz.func189 (by kernel_rfl)⟩
 f28:=zK Tryz.func136 (by kernel_rfl)
 f29:=zK Tryz.func137 (by kernel_rfl)
 f46:=⟨Tryz.f216.name,by decide,zK Tryz.func216 (by kernel_rfl)⟩
 f47:=zK Tryz.func167 (by kernel_rfl)
 f48:=zK Tryz.func168 (by kernel_rfl)
 f49:=⟨Tryz.f217.name,by decide,zK Tryz.func217 (by kernel_rfl)⟩
 f50:=⟨Tryz.f218.name,by decide,zK Tryz.func218 (by kernel_rfl)⟩
 f57:=⟨Tryz.f232.name,by decide,zK Tryz.func232 (by kernel_rfl)⟩
 t0:=Tryz.underlying0
 a0:=Tryz.isAgg0
 z0:=Tryz.sizeOf0
 v0:=Tryz.zeroValue0
 t3:=Tryz.underlying3
 a3:=Tryz.isAgg3
 z3:=Tryz.sizeOf3
 v3:=Tryz.zeroValue3
 t4:=Tryz.underlying4
 a4:=Tryz.isAgg4
 z4:=Tryz.sizeOf4
 v4:=Tryz.zeroValue4
 t5:=Tryz.underlying5
 a5:=Tryz.isAgg5
 z5:=Tryz.sizeOf5
 v5:=Tryz.zeroValue5
 t9:=Tryz.underlying9
 a9:=Tryz.isAgg9
 z9:=Tryz.sizeOf9
 v9:=Tryz.zeroValue9
 t22:=Tryz.underlying56
 a22:=Tryz.isAgg56
 z22:=Tryz.sizeOf56
 v22:=Tryz.zeroValue56
 t25:=Tryz.underlying194
 a25:=Tryz.isAgg194
 z25:=Tryz.sizeOf194
 v25:=Tryz.zeroValue194
 t39:=Tryz.underlying68
 a39:=Tryz.isAgg68
 z39:=Tryz.sizeOf68
 v39:=Tryz.zeroValue68
 t45:=Tryz.underlying228
 a45:=Tryz.isAgg228
 z45:=Tryz.sizeOf228
 v45:=Tryz.zeroValue228
 t46:=Tryz.underlying229
 a46:=Tryz.isAgg229
 z46:=Tryz.sizeOf229
 v46:=Tryz.zeroValue229
 t50:=Tryz.underlying155
 a50:=Tryz.isAgg155
 z50:=Tryz.sizeOf155
 v50:=Tryz.zeroValue155
 t53:=Tryz.underlying236
 a53:=Tryz.isAgg236
 z53:=Tryz.sizeOf236
 v53:=Tryz.zeroValue236
 t55:=Tryz.underlying223
 a55:=Tryz.isAgg223
 z55:=Tryz.sizeOf223
 v55:=Tryz.zeroValue223
 t66:=Tryz.underlying272
 a66:=Tryz.isAgg272
 z66:=Tryz.sizeOf272
 v66:=Tryz.zeroValue272
 t70:=Tryz.underlying276
 a70:=Tryz.isAgg276
 z70:=Tryz.sizeOf276
 v70:=Tryz.zeroValue276
 t76:=Tryz.underlying290
 a76:=Tryz.isAgg290
 z76:=Tryz.sizeOf290
 v76:=Tryz.zeroValue290
 t77:=Tryz.underlying209
 a77:=Tryz.isAgg209
 z77:=Tryz.sizeOf209
 v77:=Tryz.zeroValue209 }
def Tryz.ixItem_ren:Go.Shelf.Ren:=⟨fun|6=>61|n=>n,fun|22=>56|24=>92|3=>3|0=>0|4=>4|n=>n,fun|n=>n⟩
theorem Tryz.ixItem:Go.Proofs.SlLaysQ.n6 Tryz.prog Tryz.ixItem_ren:={
 mixed:=by kernel_rfl
 f6:=⟨Tryz.f61.name,by decide,zK Tryz.func61 (by kernel_rfl)⟩
 t0:=Tryz.underlying0
 a0:=Tryz.isAgg0
 z0:=Tryz.sizeOf0
 v0:=Tryz.zeroValue0
 t3:=Tryz.underlying3
 a3:=Tryz.isAgg3
 z3:=Tryz.sizeOf3
 v3:=Tryz.zeroValue3
 t4:=Tryz.underlying4
 a4:=Tryz.isAgg4
 z4:=Tryz.sizeOf4
 v4:=Tryz.zeroValue4
 t22:=Tryz.underlying56
 a22:=Tryz.isAgg56
 z22:=Tryz.sizeOf56
 v22:=Tryz.zeroValue56 }
def Tryz.hasItem_ren:Go.Shelf.Ren:=⟨fun|7=>92|6=>61|n=>n,fun|22=>56|24=>92|4=>4|0=>0|3=>3|n=>n,fun|n=>n⟩
theorem Tryz.hasItem:Go.Proofs.SlLaysQ.n7 Tryz.prog Tryz.hasItem_ren:={
 mixed:=by kernel_rfl
 f6:=⟨Tryz.f61.name,by decide,zK Tryz.func61 (by kernel_rfl)⟩
 f7:=⟨Tryz.f92.name,by decide,zK Tryz.func92 (by kernel_rfl)⟩
 t0:=Tryz.underlying0
 a0:=Tryz.isAgg0
 z0:=Tryz.sizeOf0
 v0:=Tryz.zeroValue0
 t3:=Tryz.underlying3
 a3:=Tryz.isAgg3
 z3:=Tryz.sizeOf3
 v3:=Tryz.zeroValue3
 t4:=Tryz.underlying4
 a4:=Tryz.isAgg4
 z4:=Tryz.sizeOf4
 v4:=Tryz.zeroValue4
 t22:=Tryz.underlying56
 a22:=Tryz.isAgg56
 z22:=Tryz.sizeOf56
 v22:=Tryz.zeroValue56 }
def Tryz.clnLine_ren:Go.Shelf.Ren:=⟨fun|41=>14|n=>n,fun|22=>30|23=>38|4=>4|n=>n,fun|n=>n⟩
theorem Tryz.clnLine:Go.Proofs.SlLaysE0.n41 Tryz.prog Tryz.clnLine_ren:={
 mixed:=by kernel_rfl
 f41:=⟨Tryz.f14.name,by decide,zK Tryz.func14 (by kernel_rfl)⟩
 t4:=Tryz.underlying4
 a4:=Tryz.isAgg4
 z4:=Tryz.sizeOf4
 v4:=Tryz.zeroValue4
 t22:=Tryz.underlying30
 a22:=Tryz.isAgg30
 z22:=Tryz.sizeOf30
 v22:=Tryz.zeroValue30 }
def Tryz.clnItem_ren:Go.Shelf.Ren:=⟨fun|41=>59|n=>n,fun|22=>56|23=>92|4=>4|n=>n,fun|n=>n⟩
theorem Tryz.clnItem:Go.Proofs.SlLaysE0.n41 Tryz.prog Tryz.clnItem_ren:={
 mixed:=by kernel_rfl
 f41:=⟨Tryz.f59.name,by decide,zK Tryz.func59 (by kernel_rfl)⟩
 t4:=Tryz.underlying4
 a4:=Tryz.isAgg4
 z4:=Tryz.sizeOf4
 v4:=Tryz.zeroValue4
 t22:=Tryz.underlying56
 a22:=Tryz.isAgg56
 z22:=Tryz.sizeOf56
 v22:=Tryz.zeroValue56 }
def Tryz.clnCl_ren:Go.Shelf.Ren:=⟨fun|41=>111|n=>n,fun|22=>202|23=>3|4=>4|n=>n,fun|n=>n⟩
theorem Tryz.clnCl:Go.Proofs.SlLaysE0.n41 Tryz.prog Tryz.clnCl_ren:={
 mixed:=by kernel_rfl
 f41:=⟨Tryz.f111.name,by decide,zK Tryz.func111 (by kernel_rfl)⟩
 t4:=Tryz.underlying4
 a4:=Tryz.isAgg4
 z4:=Tryz.sizeOf4
 v4:=Tryz.zeroValue4
 t22:=Tryz.underlying202
 a22:=Tryz.isAgg202
 z22:=Tryz.sizeOf202
 v22:=Tryz.zeroValue202 }
def Tryz.insInt_ren:Go.Shelf.Ren:=⟨fun|21=>34|27=>62|28=>63|35=>100|39=>157|n=>n,fun|22=>24|3=>3|4=>4|0=>0|n=>n,fun|n=>n⟩
theorem Tryz.insInt:Go.Proofs.Lays2.n21 Tryz.prog Tryz.insInt_ren:={
 mixed:=by kernel_rfl
 f21:=zK Tryz.func34 (by kernel_rfl)
 f27:=zK Tryz.func62 (by kernel_rfl)
 f28:=zK Tryz.func63 (by kernel_rfl)
 f35:=zK Tryz.func100 (by kernel_rfl)
 f39:=zK Tryz.func157 (by kernel_rfl)
 t0:=Tryz.underlying0
 a0:=Tryz.isAgg0
 z0:=Tryz.sizeOf0
 v0:=Tryz.zeroValue0
 t3:=Tryz.underlying3
 a3:=Tryz.isAgg3
 z3:=Tryz.sizeOf3
 v3:=Tryz.zeroValue3
 t4:=Tryz.underlying4
 a4:=Tryz.isAgg4
 z4:=Tryz.sizeOf4
 v4:=Tryz.zeroValue4
 t22:=Tryz.underlying24
 a22:=Tryz.isAgg24
 z22:=Tryz.sizeOf24
 v22:=Tryz.zeroValue24
 i3:=by kernel_rfl }
end Go.Proofs
namespace Go.Proofs.YtapobpgbcbplbaaGreatDoor
open Go.RowKit Go.Shelf Go.Lib Sv
theorem eq3(a b c a' b' c':Int)(w:World):(Op.equalIn 9999 33 (.agg #[.int .i64 a,.int .i64 b,.int .i64 c]) (.agg #[.int .i64 a',.int .i64 b',.int .i64 c'])).run Tryz.prog w=.ok (a==a'&&(b==b'&&c==c')) w:=by
 have u3:=Tryz.underlying3;have a3:=Tryz.isAgg3;have z3:=Tryz.sizeOf3;rw[show (9999:Nat)=9998+1 from rfl,Op.equalIn];simp only[Sem.run_bind,run_underlying Tryz.underlying33,Result.andThen_ok];simp only[Std.Legacy.Range.forIn_eq_forIn_range',Std.Legacy.Range.size,Nat.sub_zero,Nat.add_sub_cancel,Nat.div_one,List.range'_succ,List.range'_zero,List.forIn_cons,List.forIn_nil]
 by_cases h1:a=a'
 ·by_cases h2:b=b'
  ·by_cases h3:c=c'
   ·subst h1 h2 h3;go_simp
   ·have e3:(c==c')=false:=by simpa using h3
    subst h1 h2;go_simp
  ·have e2:(b==b')=false:=by simpa using h2
   subst h1;go_simp
 ·have e1:(a==a')=false:=by simpa using h1
  go_simp
theorem zem:EqlAt Tryz.prog 92 (fun x=>.agg (qn x).toArray) (fun x y=>decide (x=y)):=by
 refine⟨fun x y w=>?_,GuardAt.agg _ (by kernel_rfl)⟩;have u3:=Tryz.underlying3;have a3:=Tryz.isAgg3;have z3:=Tryz.sizeOf3;have u9:=Tryz.underlying9;have a9:=Tryz.isAgg9;have z9:=Tryz.sizeOf9;have av:=Tryz.isAgg33;have zv:=Tryz.sizeOf33;have hS:Tryz.prog.underlying 92=some (.struct (Tryz.prog.fieldsOf 92)):=by kernel_rfl
 have hp:Tryz.prog.stoodInHeld 92=false:=by kernel_rfl
 have he:decide (x=y)=(x.name.toList==y.name.toList&&(x.a==y.a&&(x.b==y.b&&x.c==y.c))):=by
  obtain⟨n,a,b,c⟩:=x;obtain⟨n',a',b',c'⟩:=y;rw[Bool.eq_iff_iff];simp only[decide_eq_true_eq,It.mk.injEq,Bool.and_eq_true,beq_iff_eq];constructor
  ·rintro⟨rfl,rfl,rfl,rfl⟩;exact⟨rfl,rfl,rfl,rfl⟩
  ·rintro⟨h,rfl,rfl,rfl⟩;exact⟨QL h,rfl,rfl,rfl⟩
 show (binOp .eql 92 (.agg (qn x).toArray) (.agg (qn y).toArray)).run Tryz.prog w=.ok (.bool (decide (x=y))) w;rw[he];simp only[qn];have h3:=eq3 x.a x.b x.c y.a y.b y.c;generalize x.name=n at *;generalize y.name=n' at *;generalize x.a=a at *;generalize x.b=b at *;generalize x.c=c at *;generalize y.a=a' at *;generalize y.b=b' at *;generalize y.c=c' at *;generalize (a==a'&&(b==b'&&c==c'))=q at *;clear he;rw[run_eql_struct,show (10000:Nat)=9999+1 from rfl,run_equalIn_agg w 9999 92 _ _ hS hp];simp only[Program.fieldsOf,Tryz.underlying92];cases hn:(n.toList==n'.toList)<;>cases q<;>go_simp
end Go.Proofs.YtapobpgbcbplbaaGreatDoor
namespace Go.Proofs.YtapobpgbcbplbaaGreatDoor
open Go.RowKit Sv
theorem zhe(va:Option Addr)(vl vc:Nat)(a b c:Int)(hx:a<0)(w:World) :
  zR 60 #[.agg #[.slice va vl vc],.agg #[.int .i64 a,.int .i64 b,.int .i64 c]] w (.bool false):=by
 have hB0:zB w ((w.alloc (.cells #[.slice va vl vc] 36)).alloc (.cells #[.int .i64 a,.int .i64 b,.int .i64 c] 33)):=((Below.refl _ w).alloc zN _).alloc (by simp only[World.size_alloc];omega) _;have HB0:=zH hB0;clear hB0;go_enter Tryz.func60,Tryz.ntmps60;go_wp2_with fail;generalize (w.alloc (.cells #[.slice va vl vc] 36)).alloc (.cells #[.int .i64 a,.int .i64 b,.int .i64 c] 33)=W0 at *;go_loop [10] (fun i=>∃k:Nat,k<=0/\i=.int .i64 k) (fun i=>3-(intOf i).toNat)
 case atStart=>exact⟨0,by omega,rfl⟩
 case round =>
  obtain⟨k,hk,rfl⟩:=hrel
  match k,hk with
  |0,_ =>have hix:=Qv a b c W0;go_wp2;go_ret;exact⟨rfl,HB0.out⟩
theorem zl5(va:Option Addr)(vl vc:Nat)(a b c:Int)(hx0:¬a<0)(hx:999<a)(w:World) :
  zR 60 #[.agg #[.slice va vl vc],.agg #[.int .i64 a,.int .i64 b,.int .i64 c]] w (.bool false):=by
 have hB0:zB w ((w.alloc (.cells #[.slice va vl vc] 36)).alloc (.cells #[.int .i64 a,.int .i64 b,.int .i64 c] 33)):=((Below.refl _ w).alloc zN _).alloc (by simp only[World.size_alloc];omega) _;have HB0:=zH hB0;clear hB0;go_enter Tryz.func60,Tryz.ntmps60;go_wp2_with fail;generalize (w.alloc (.cells #[.slice va vl vc] 36)).alloc (.cells #[.int .i64 a,.int .i64 b,.int .i64 c] 33)=W0 at *;go_loop [10] (fun i=>∃k:Nat,k<=0/\i=.int .i64 k) (fun i=>3-(intOf i).toNat)
 case atStart=>exact⟨0,by omega,rfl⟩
 case round =>
  obtain⟨k,hk,rfl⟩:=hrel
  match k,hk with
  |0,_ =>have hix:=Qv a b c W0;go_wp2;go_ret;exact⟨rfl,HB0.out⟩
theorem zn7(va:Option Addr)(vl vc:Nat)(a b c:Int)(ha0:¬a<0)(ha1:¬999<a)(hx:b<0)(w:World) :
  zR 60 #[.agg #[.slice va vl vc],.agg #[.int .i64 a,.int .i64 b,.int .i64 c]] w (.bool false):=by
 have hB0:zB w ((w.alloc (.cells #[.slice va vl vc] 36)).alloc (.cells #[.int .i64 a,.int .i64 b,.int .i64 c] 33)):=((Below.refl _ w).alloc zN _).alloc (by simp only[World.size_alloc];omega) _;have HB0:=zH hB0;clear hB0;go_enter Tryz.func60,Tryz.ntmps60;go_wp2_with fail;generalize (w.alloc (.cells #[.slice va vl vc] 36)).alloc (.cells #[.int .i64 a,.int .i64 b,.int .i64 c] 33)=W0 at *;go_loop [10] (fun i=>∃k:Nat,k<=1/\i=.int .i64 k) (fun i=>3-(intOf i).toNat)
 case atStart=>exact⟨0,by omega,rfl⟩
 case round =>
  obtain⟨k,hk,rfl⟩:=hrel
  match k,hk with
  |0,_ =>
   have hix:=Qv a b c W0;go_wp2;go_round
   case rel=>exact⟨1,by omega,rfl⟩
   case measure=>simp[intOf]
  |1,_ =>have hix:=YE a b c W0;go_wp2;go_ret;exact⟨rfl,HB0.out⟩
theorem zjQ(va:Option Addr)(vl vc:Nat)(a b c:Int)(ha0:¬a<0)(ha1:¬999<a)(hx0:¬b<0)(hx:999<b)(w:World) :
  zR 60 #[.agg #[.slice va vl vc],.agg #[.int .i64 a,.int .i64 b,.int .i64 c]] w (.bool false):=by
 have hB0:zB w ((w.alloc (.cells #[.slice va vl vc] 36)).alloc (.cells #[.int .i64 a,.int .i64 b,.int .i64 c] 33)):=((Below.refl _ w).alloc zN _).alloc (by simp only[World.size_alloc];omega) _;have HB0:=zH hB0;clear hB0;go_enter Tryz.func60,Tryz.ntmps60;go_wp2_with fail;generalize (w.alloc (.cells #[.slice va vl vc] 36)).alloc (.cells #[.int .i64 a,.int .i64 b,.int .i64 c] 33)=W0 at *;go_loop [10] (fun i=>∃k:Nat,k<=1/\i=.int .i64 k) (fun i=>3-(intOf i).toNat)
 case atStart=>exact⟨0,by omega,rfl⟩
 case round =>
  obtain⟨k,hk,rfl⟩:=hrel
  match k,hk with
  |0,_ =>
   have hix:=Qv a b c W0;go_wp2;go_round
   case rel=>exact⟨1,by omega,rfl⟩
   case measure=>simp[intOf]
  |1,_ =>have hix:=YE a b c W0;go_wp2;go_ret;exact⟨rfl,HB0.out⟩
theorem zla(va:Option Addr)(vl vc:Nat)(a b c:Int)(ha0:¬a<0)(ha1:¬999<a)(hb0:¬b<0)(hb1:¬999<b)(hx:c<0)(w:World) :
  zR 60 #[.agg #[.slice va vl vc],.agg #[.int .i64 a,.int .i64 b,.int .i64 c]] w (.bool false):=by
 have hB0:zB w ((w.alloc (.cells #[.slice va vl vc] 36)).alloc (.cells #[.int .i64 a,.int .i64 b,.int .i64 c] 33)):=((Below.refl _ w).alloc zN _).alloc (by simp only[World.size_alloc];omega) _;have HB0:=zH hB0;clear hB0;go_enter Tryz.func60,Tryz.ntmps60;go_wp2_with fail;generalize (w.alloc (.cells #[.slice va vl vc] 36)).alloc (.cells #[.int .i64 a,.int .i64 b,.int .i64 c] 33)=W0 at *;go_loop [10] (fun i=>∃k:Nat,k<=2/\i=.int .i64 k) (fun i=>3-(intOf i).toNat)
 case atStart=>exact⟨0,by omega,rfl⟩
 case round =>
  obtain⟨k,hk,rfl⟩:=hrel
  match k,hk with
  |0,_ =>
   have hix:=Qv a b c W0;go_wp2;go_round
   case rel=>exact⟨1,by omega,rfl⟩
   case measure=>simp[intOf]
  |1,_ =>
   have hix:=YE a b c W0;go_wp2;go_round
   case rel=>exact⟨2,by omega,rfl⟩
   case measure=>simp[intOf]
  |2,_ =>have hix:=Ji a b c W0;go_wp2;go_ret;exact⟨rfl,HB0.out⟩
theorem zgT(va:Option Addr)(vl vc:Nat)(a b c:Int)(ha0:¬a<0)(ha1:¬999<a)(hb0:¬b<0)(hb1:¬999<b)(hx0:¬c<0)(hx:999<c)(w:World) :
  zR 60 #[.agg #[.slice va vl vc],.agg #[.int .i64 a,.int .i64 b,.int .i64 c]] w (.bool false):=by
 have hB0:zB w ((w.alloc (.cells #[.slice va vl vc] 36)).alloc (.cells #[.int .i64 a,.int .i64 b,.int .i64 c] 33)):=((Below.refl _ w).alloc zN _).alloc (by simp only[World.size_alloc];omega) _;have HB0:=zH hB0;clear hB0;go_enter Tryz.func60,Tryz.ntmps60;go_wp2_with fail;generalize (w.alloc (.cells #[.slice va vl vc] 36)).alloc (.cells #[.int .i64 a,.int .i64 b,.int .i64 c] 33)=W0 at *;go_loop [10] (fun i=>∃k:Nat,k<=2/\i=.int .i64 k) (fun i=>3-(intOf i).toNat)
 case atStart=>exact⟨0,by omega,rfl⟩
 case round =>
  obtain⟨k,hk,rfl⟩:=hrel
  match k,hk with
  |0,_ =>
   have hix:=Qv a b c W0;go_wp2;go_round
   case rel=>exact⟨1,by omega,rfl⟩
   case measure=>simp[intOf]
  |1,_ =>
   have hix:=YE a b c W0;go_wp2;go_round
   case rel=>exact⟨2,by omega,rfl⟩
   case measure=>simp[intOf]
  |2,_ =>have hix:=Ji a b c W0;go_wp2;go_ret;exact⟨rfl,HB0.out⟩
theorem zln(va:Option Addr)(vl vc:Nat)(a b c:Int)(h:¬((0<=a/\a<=999)/\(0<=b/\b<=999)/\(0<=c/\c<=999)))(w:World) :
  zR 60 #[.agg #[.slice va vl vc],.agg #[.int .i64 a,.int .i64 b,.int .i64 c]] w (.bool false):=by
 by_cases a0:a<0
 ·exact zhe va vl vc a b c a0 w
 by_cases a1:999<a
 ·exact zl5 va vl vc a b c a0 a1 w
 by_cases b0:b<0
 ·exact zn7 va vl vc a b c a0 a1 b0 w
 by_cases b1:999<b
 ·exact zjQ va vl vc a b c a0 a1 b0 b1 w
 by_cases c0:c<0
 ·exact zla va vl vc a b c a0 a1 b0 b1 c0 w
 by_cases c1:999<c
 ·exact zgT va vl vc a b c a0 a1 b0 b1 c0 c1 w
 exact absurd ⟨⟨by omega,by omega⟩,⟨by omega,by omega⟩,⟨by omega,by omega⟩⟩ h
end Go.Proofs.YtapobpgbcbplbaaGreatDoor
namespace Go.Proofs.YtapobpgbcbplbaaGreatDoor
open Go.RowKit Sv
theorem xT(s:ByteArray)(w:World)(h:zV s):zC 152 #[.string s] w fun e w'=>e=.returned (.bool true)/\w=w':=(zb6 s w).mono fun _ _ ⟨h1,h2⟩=>⟨h1.1 h,h2⟩
theorem Ya(s:ByteArray)(w:World)(h:¬zV s):zC 152 #[.string s] w fun e w'=>e=.returned (.bool false)/\w=w':=(zb6 s w).mono fun _ _ ⟨h1,h2⟩=>⟨h1.2 h,h2⟩
open Classical in
theorem zce(l:List zh)(hl:Rg l)(va:Option Addr)(vc:Nat)(x:It)(w:World)(hv:zi w (.slice va l.length vc) l) :
  zR 60 #[.agg #[.slice va l.length vc],.agg #[.int .i64 x.a,.int .i64 x.b,.int .i64 x.c]] w (.bool (decide (xF l x))):=by
 by_cases h:InV x.a x.b x.c
 ·obtain⟨n,a,b,c⟩:=x;obtain⟨a',rfl⟩:∃a':Nat,a=(a':Int):=⟨a.toNat,by have:=h.1;simp only at this;omega⟩;obtain⟨b',rfl⟩:∃b':Nat,b=(b':Int):=⟨b.toNat,by have:=h.2.1;simp only at this;omega⟩;obtain⟨c',rfl⟩:∃c':Nat,c=(c':Int):=⟨c.toNat,by have:=h.2.2;simp only at this;omega⟩;have h1:=h.1;have h2:=h.2.1;have h3:=h.2.2;simp only at h1 h2 h3;refine(X6 l hl (.slice va l.length vc) a' b' c' (by omega) (by omega) (by omega) w hv).mono fun e w' ⟨B,he,hB,hb⟩=>⟨?_,hb⟩;rw[he];congr 2;rw[Bool.eq_iff_iff,hB,decide_eq_true_eq];unfold xF;simp only[Int.toNat_natCast];exact⟨fun h'=>⟨h,h'⟩,fun h'=>h'.2⟩
 ·refine(zln va l.length vc x.a x.b x.c h w).mono fun e w' ⟨he,hb⟩=>⟨?_,hb⟩;rw[he];congr 2;symm;rw[decide_eq_false_iff_not];exact fun h'=>h h'.1
theorem XP(va:Option Addr)(vc:Nat)(a b c:Int)(w:World)(hv:zi w (.slice va zr.length vc) zr) :
  zR 60 #[.agg #[.slice va zr.length vc],.agg #[.int .i64 a,.int .i64 b,.int .i64 c]] w (.bool (decide (InV a b c))):=by
 refine(zce zr Xm va vc ⟨⟨#[]⟩,a,b,c⟩ w hv).mono fun e w' ⟨he,hb⟩=>⟨?_,hb⟩;rw[he];congr 2;rw[Bool.eq_iff_iff];simp only[decide_eq_true_eq];unfold xF;constructor
 ·exact fun h=>h.1
 ·intro h;refine⟨h,zj5.2 ?_⟩;obtain⟨h1,h2,h3⟩:=h;simp only;unfold QV ALL;omega
theorem zjA(ra:Option Addr)(rc:Nat)(w:World):zR 153 #[.agg #[.slice ra 0 rc]] w (.bool true):=by
 have hB:Hid (zB w (w.alloc (.cells #[.slice ra 0 rc] 36))):=(Below.refl _ w).alloc zN _;go_enter Tryz.func153,Tryz.ntmps153;go_wp2;go_ret;exact⟨rfl,hB.out⟩
theorem zlD(ra:Option Addr)(rn rc:Nat)(w:World)(h:0<rn):zR 153 #[.agg #[.slice ra rn rc]] w (.bool false):=by
 have hB:Hid (zB w (w.alloc (.cells #[.slice ra rn rc] 36))):=(Below.refl _ w).alloc zN _;have hz:((rn:Int)==0)=false:=by rw[beq_eq_false_iff_ne];omega
 go_enter Tryz.func153,Tryz.ntmps153;go_wp2;go_ret;exact⟨rfl,hB.out⟩
theorem zbf(a b c a' b' c':Int)(w:World):(Op.equalIn 10000 33 (.agg #[.int .i64 a,.int .i64 b,.int .i64 c]) (.agg #[.int .i64 a',.int .i64 b',.int .i64 c'])).run Tryz.prog w=.ok (a==a'&&(b==b'&&c==c')) w:=by
 have u3:=Tryz.underlying3;have a3:=Tryz.isAgg3;have z3:=Tryz.sizeOf3;rw[show (10000:Nat)=9999+1 from rfl,Op.equalIn];simp only[Sem.run_bind,run_underlying Tryz.underlying33,Result.andThen_ok];simp only[Std.Legacy.Range.forIn_eq_forIn_range',Std.Legacy.Range.size,Nat.sub_zero,Nat.add_sub_cancel,Nat.div_one,List.range'_succ,List.range'_zero,List.forIn_cons,List.forIn_nil]
 by_cases h1:a=a'
 ·by_cases h2:b=b'
  ·by_cases h3:c=c'
   ·subst h1 h2 h3;go_simp
   ·have e3:(c==c')=false:=by simpa using h3
    subst h1 h2;go_simp
  ·have e2:(b==b')=false:=by simpa using h2
   subst h1;go_simp
 ·have e1:(a==a')=false:=by simpa using h1
  go_simp
end Go.Proofs.YtapobpgbcbplbaaGreatDoor
