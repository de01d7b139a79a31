/- The reference: RangeOr, RangeAnd, RangeNot. -/
import Derived.Test.YtiihalknffbjpaaGreatDoorSvNs
import Derived.Laws.CopyOwn
import Derived.Deep.RegionHeldLaw
set_option maxHeartbeats 4000000
set_option maxRecDepth 100000
namespace Go.Proofs.YtiihalknffbjpaaGreatDoor
section
open Go.RowKit Sv
theorem ze3:(Tryz.prog.info? 3).map (fun i=>(i.zero,i.size,i.bytes))=some (some (.int .i64 0),1,8):=by kernel_rfl
theorem QJ:(Tryz.prog.info? 3).map (·.size)=some 1:=by kernel_rfl
theorem QW(w:World)(A:Value)(t:TypeId):∀(j:Nat) (u:Value),[A][j]?=some u->(w.alloc (.cells #[A] t)).cell? (Addr.add ⟨w.heap.size,0,none⟩ j)=some u:=by
 intro j u h
 match j,h with
 |0,h=>simp at h;subst h;simp[Addr.add]
 |j+1,h=>simp at h
def xK(a b:List Nat):Nat->List Nat
 |0=>[0,ALL]
 |1=>a
 |_=>b
def yC(a b:List Nat):Nat->List Nat
 |0=>[]
 |j+1=>qU (yC a b j) (xK a b j)
theorem zeN(acc l:List Nat)(k:Nat)(hk:k<l.length):qU acc (l.take (k+1))=xh (qU acc (l.take k)) (nv l k):=by
 unfold qU;rw[List.take_succ_eq_append_getElem hk,List.foldl_append,List.foldl_cons,List.foldl_nil,QI l k hk]
theorem QY(l acc:List Nat):(qU acc l).length=acc.length+l.length:=by
 have hi:∀(l:List Nat) (n:Nat),(xh l n).length=l.length+1:=fun l n=>by
  unfold xh;rw[List.length_append,List.length_cons,List.length_take,List.length_drop];have:=KE l n l.length;omega
 induction l generalizing acc with
 |nil=>rfl
 |cons x l ih=>show (qU (xh acc x) l).length=_;rw[ih,hi,List.length_cons];omega
theorem zgJ(a b:List Nat)(j:Nat)(hj:j<=3):(yC a b j).length<=a.length+b.length+2:=by
 match j,hj with
 |0,_=>simp[yC]
 |1,_=>simp[yC,QY,xK]
 |2,_=>simp[yC,QY,xK];omega
 |3,_=>simp[yC,QY,xK];omega
theorem zfO(a b:List Nat)(j k:Nat)(hj:j<3):(qU (yC a b j) ((xK a b j).take k)).length<=a.length+b.length+2:=by
 have h:=zgJ a b (j+1) hj;rw[yC,QY] at h;rw[QY,List.length_take];omega
theorem zls{acc:List Nat}{n i:Nat}{cur:List Value}(hi:i<=acc.length)(hc:cur.take (acc.length+1)=zV acc++[.int .i64 0]) :
  ((splice cur (i+1) ((zV acc).drop i)).set i (.int .i64 n)).take (acc.length+1)=zV (acc.take i++n :: acc.drop i):=by
 have hlen:acc.length+1<=cur.length:=by
  have:=congrArg List.length hc;rw[List.length_take,List.length_append,ZM,List.length_singleton] at this;omega
 apply List.ext_getElem?;intro j;have hcj:∀j,j<acc.length+1->cur[j]?=(zV acc++[.int .i64 0])[j]?:=fun j hj=>by
  rw[<-hc,List.getElem?_take,if_pos hj]
 by_cases hj:j<acc.length+1
 ·rw[List.getElem?_take,if_pos hj];unfold splice;rw[List.getElem?_set];have hdl:((zV acc).drop i).length=acc.length-i:=by rw[List.length_drop,ZM]
  by_cases hij:i=j
  ·subst hij;rw[if_pos rfl,if_pos (by simp;omega)];unfold zV;rw[List.getElem?_map,List.getElem?_append_right (by rw[List.length_take];omega)];rw[List.length_take,show i-min i acc.length=0 by omega];rfl
  ·rw[if_neg hij]
   by_cases hlt:j<i
   ·rw[List.getElem?_append_left (by rw[List.length_take];omega),List.getElem?_take,if_pos (by omega),hcj j hj,List.getElem?_append_left (by rw[ZM];omega)];unfold zV;rw[List.getElem?_map,List.getElem?_map,List.getElem?_append_left (by rw[List.length_take];omega),List.getElem?_take,if_pos hlt]
   ·rw[List.getElem?_append_right (by rw[List.length_take];omega),List.length_take,show min (i+1) cur.length=i+1 by omega,List.getElem?_append_left (by rw[hdl];omega),List.getElem?_drop];unfold zV;rw[List.getElem?_map,List.getElem?_map,List.getElem?_append_right (by rw[List.length_take];omega),List.length_take,show j-min i acc.length=(j-i-1)+1 by omega,List.getElem?_cons_succ,List.getElem?_drop];congr 2
 ·rw[List.getElem?_take,if_neg hj,List.getElem?_eq_none];rw[ZM,List.length_append,List.length_cons,List.length_take,List.length_drop];omega
theorem zhQ{w4:World}{B g cap i n:Nat}{acc:List Nat}{cur:List Value}(hi:i<=acc.length)(hB:B<=g)(hnc:acc.length+1<=cap)(hmx:cap<=maxLen)(hsz:cur.length=cap)(htk:cur.take (acc.length+1)=zV acc++[.int .i64 0])
  (h4:w4.heap[g]?=some (.cells (splice cur (i+1) ((zV acc).drop i)).toArray 3 (0,0))) :
  (∃u,w4.cell? ⟨g,i,none⟩=some u)/\w4.frozen? ⟨g,i,none⟩=false/\(w4.setCell ⟨g,i,none⟩ (.int .i64 n)).ownsRow B 3 1 (.slice (some ⟨g,0,none⟩) (acc.length+1) cap) (acc.length+1) (zV (acc.take i++n :: acc.drop i)):=by
 have k:Blk w4 g 3 (splice cur (i+1) ((zV acc).drop i)).toArray:=h4;have hdl:((zV acc).drop i).length=acc.length-i:=by rw[List.length_drop,ZM]
 have hsl:(splice cur (i+1) ((zV acc).drop i)).length=cap:=by rw[length_splice _ _ _ (by rw[hdl];omega),hsz]
 refine⟨?_,k.frozen i,?_,.inr ⟨g,cap,_,rfl,hB,k.set (i:=i),hnc,hmx,?_,?_⟩⟩
 ·rw[k.cell i];exact⟨_,by rw[List.getElem?_toArray,List.getElem?_eq_getElem (by omega)]⟩
 ·rw[ZM,List.length_append,List.length_cons,List.length_take,List.length_drop];omega
 ·rw[Array.size_setIfInBounds,List.size_toArray,hsl,Nat.mul_one]
 ·rw[Array.toList_setIfInBounds,Nat.mul_one];exact zls hi htk
theorem zde(f:Nat->Bool)(is:Bool)(l:List Nat):(qI f is l).length<=l.length:=by
 induction l generalizing is with
 |nil=>exact Nat.le_refl _
 |cons n r ih =>
  unfold qI;split
  ·have:=ih is;rw[List.length_cons];omega
  ·have:=ih (f n);rw[List.length_cons,List.length_cons];omega
theorem zbX{f:Nat->Bool}{is:Bool}{l:List Nat}{k:Nat}(hk:k<l.length)(h:f (nv l k)=is):qI f is (l.drop k)=qI f is (l.drop (k+1)):=by
 rw[List.drop_eq_getElem_cons hk,qI,<-QI l k hk,if_pos h]
theorem JC{f:Nat->Bool}{is:Bool}{l:List Nat}{k:Nat}(hk:k<l.length)(h:¬f (nv l k)=is):qI f is (l.drop k)=nv l k :: qI f (f (nv l k)) (l.drop (k+1)):=by
 rw[List.drop_eq_getElem_cons hk,qI,<-QI l k hk,if_neg h]
theorem zh1(a b:List Nat)(hla:a.length<=1000000000)(hlb:b.length<=1000000000):∀j,(xK a b j).length<=1000000000
 |0=>Nat.le_of_ble_eq_true rfl
 |1=>hla
 |_+2=>hlb
theorem zi6(a b:List Nat)(aa ab:Option Addr)(ca cb:Nat)(w W0:World)(hW0:(w.alloc (.cells #[.int .i64 0,.int .i64 1000000000] 3)).alloc (.cells #[.slice (some ⟨w.heap.size,0,none⟩) 2 2,.slice aa a.length ca,.slice ab b.length cb] 94)=W0)
  (HVA:zr w (.slice aa a.length ca) a) (HVB:zr w (.slice ab b.length cb) b) :
  zB w W0/\(∀j,j<3->∃x c,∀W,zB W0 W->W.cell? ⟨w.heap.size+1,j,none⟩=some (.slice x (xK a b j).length c)/\zr W (.slice x (xK a b j).length c) (xK a b j)):=by
 have HB0:zB w W0:=by rw[<-hW0];exact((Below.refl _ w).alloc zN _).alloc (by simp) _
 refine⟨HB0,fun j hj=>?_⟩;have k0:Blk W0 w.heap.size 3 #[.int .i64 0,.int .i64 1000000000]:=by rw[<-hW0];exact(Blk.new w 3 _).alloc _
 have k1:Blk W0 (w.heap.size+1) 94 #[.slice (some ⟨w.heap.size,0,none⟩) 2 2,.slice aa a.length ca,.slice ab b.length cb]:=by rw[<-hW0];have:=Blk.new (w.alloc (.cells #[.int .i64 0,.int .i64 1000000000] 3)) 94 #[.slice (some ⟨w.heap.size,0,none⟩) 2 2,.slice aa a.length ca,.slice ab b.length cb];rw[World.size_alloc] at this;exact this
 match j,hj with
 | 0,_=>exact ⟨some ⟨w.heap.size,0,none⟩,2,fun W hb=>⟨(k1.below hb k1.lt).cell 0,⟨_,_,rfl⟩,fun i hi=>⟨_,_,rfl,(k0.below hb k0.lt).lt,by
   match i,hi with
   |0,_=>exact(k0.below hb k0.lt).cell 0
   | 1,_=>exact (k0.below hb k0.lt).cell 1⟩⟩⟩
 |1,_=>exact⟨aa,ca,fun W hb=>⟨(k1.below hb k1.lt).cell 1,HVA.below (zT HB0 hb) zN⟩⟩
 |2,_=>exact⟨ab,cb,fun W hb=>⟨(k1.below hb k1.lt).cell 2,HVB.below (zT HB0 hb) zN⟩⟩
theorem zbN{w3:World}{B i n:Nat}{acc:List Nat}{v':Value}(hi:i<=acc.length)(hown:w3.ownsRow B 3 1 v' (acc.length+1) (zV acc++[.int .i64 0])) :
  ∃(g cap:Nat) (cur CS:List Value),v'=.slice (some ⟨g,0,none⟩) (acc.length+1) cap/\B<=g/\acc.length+1<=cap/\w3.heap[g]?=some (.cells cur.toArray 3 (0,0)) /\
   (∀w4:World,w4.heap[g]?=some (.cells (splice cur (i+1) CS).toArray 3 (0,0))->(∃u,w4.cell? ⟨g,i,none⟩=some u)/\w4.frozen? ⟨g,i,none⟩=false/\(w4.setCell ⟨g,i,none⟩ (.int .i64 n)).ownsRow B 3 1 (.slice (some ⟨g,0,none⟩) (acc.length+1) cap) (acc.length+1) (zV (acc.take i++n :: acc.drop i))) /\
   (∀j v,CS[j]?=some v->w3.cell? ⟨g,i+j,none⟩=some v)/\(∀v∈CS,v.oneCell'=true)/\CS.length=Nat.min (acc.length+1-i) (acc.length+1-(i+1))/\(i+1)+CS.length<=cur.length:=by
 rcases hown.2 with ⟨_,h0'⟩|⟨g,cap,cur,rfl,hBg,hg,hnc,hmx,hsz,htk⟩
 ·exact absurd h0' (by simp)
 have hdl:((zV acc).drop i).length=acc.length-i:=by rw[List.length_drop,ZM]
 have hsz':cur.toList.length=cap:=by simpa using hsz
 refine⟨g,cap,cur.toList,(zV acc).drop i,rfl,hBg,hnc,hg,fun w4 h4=>zhQ hi hBg hnc hmx hsz' (by simpa using htk) h4,fun j v hv=>?_,fun v hv=>?_,?_,?_⟩
 ·have hj:i+j<acc.length:=by have:=(List.getElem?_eq_some_iff.1 hv).1;rw[List.length_drop,ZM] at this;omega
  rw[(show Blk w3 g 3 cur from hg).cell,<-hv,List.getElem?_drop,<-Array.getElem?_toList,show cur.toList[i+j]?=(cur.toList.take ((acc.length+1)*1))[i+j]? by rw[List.getElem?_take,if_pos (by omega)],htk,List.getElem?_append_left (by rw[ZM];omega)]
 ·obtain⟨x,_,rfl⟩:=List.mem_map.1 (List.mem_of_mem_drop hv);rfl
 ·rw[hdl];show _=min _ _;omega
 ·rw[hdl,hsz'];omega
end
section
open Go.RowKit Sv
theorem XJ(a b:List Nat)(va vb:Value)(F:Nat)(rule:Bool->Bool->Bool)(w:World)(hva:zr w va a)(hvb:zr w vb b)(hla:a.length<=1000000000)(hlb:b.length<=1000000000)
  (hent:∀args w,(callFunc F args).run Tryz.prog w=.ok (.enter F args) w)
  (hrule:∀x y W,zC F #[.bool x,.bool y] W fun e w'=>e=.returned (.bool (rule x y))/\w'=W) :
  zC 191 #[va,vb,.func (.func F) #[] #[]] w (yo w (ZD a b rule)):=by
 obtain⟨i0,hin,hz0,hz1,hz2⟩:=info_parts ze3;obtain⟨aa,ca,rfl⟩:=hva.form;obtain⟨ab,cb,rfl⟩:=hvb.form;have HVA:=zH hva;have HVB:=zH hvb;have HR:=zH hrule;clear hva hvb hrule;go_enter Tryz.func191,Tryz.ntmps191;go_wp2_with fail;obtain⟨W0,hW0⟩:∃W0,(w.alloc (.cells #[.int .i64 0,.int .i64 1000000000] 3)).alloc (.cells #[.slice (some ⟨w.heap.size,0,none⟩) 2 2,.slice aa a.length ca,.slice ab b.length cb] 94)=W0:=⟨_,rfl⟩;obtain⟨hB0,hX⟩:=zi6 a b aa ab ca cb w W0 hW0 HVA.out HVB.out;have HB0:=zH hB0;have HX:=zH hX;have HVA0:Hid (∀W,zB W0 W->zr W (.slice aa a.length ca) a):=fun W hb=>HVA.out.below (zT HB0.out hb) zN;have HVB0:Hid (∀W,zB W0 W->zr W (.slice ab b.length cb) b):=fun W hb=>HVB.out.below (zT HB0.out hb) zN;rw[hW0];clear hW0 HVA HVB hB0 hX;go_loopw [7,23] (fun aV jV wr=>∃j:Nat,j<=3/\jV=.int .i64 j/\wr.ownsRow W0.heap.size 3 1 aV (yC a b j).length (zV (yC a b j))/\zB W0 wr) (fun _ jV _=>3-(intOf jV).toNat)
 case atStart=>exact⟨0,Nat.zero_le _,rfl,World.ownsRow_nil _ _ _ _,Below.refl _ _⟩
 case round =>
  obtain⟨j,hj,rfl,hrow,hbr⟩:=hrel;obtain⟨ra,rc,rfl⟩:=K8 hrow;have HROW:=zH hrow;have HBR:=zH hbr;have hwsz:=hbr.size;clear hrow hbr
  by_cases hlt:j<3
  ·obtain⟨x,c,hx⟩:=HX.out j hlt;have hxl:(xK a b j).length<=1000000000:=zh1 a b hla hlb j;have hal:∀k,(qU (yC a b j) ((xK a b j).take k)).length<=2000000002:=fun k=>by have:=zfO a b j k hlt;omega
   have HJ:Hid (yC a b (j+1)=qU (yC a b j) (xK a b j)):=rfl;have HXJ:=zH hx;have HAL:=zH hal;have cj:=(hx wr HBR.out).1;clear hx hal;generalize hA0:yC a b j=acc0 at *;generalize hXX:xK a b j=X at *;go_wp2_with fail;rw[show decide ((j:Int)<3)=true from decide_eq_true (by omega)];go_loopw [7,29] (fun aV kV wr=>∃k:Nat,k<=X.length/\kV=.int .i64 k/\wr.ownsRow W0.heap.size 3 1 aV (qU acc0 (X.take k)).length (zV (qU acc0 (X.take k)))/\zB W0 wr) (fun _ kV _=>X.length-(intOf kV).toNat)
   case atStart=>exact⟨0,Nat.zero_le _,rfl,by simpa[qU] using HROW.out,HBR.out⟩
   case round =>
    clear HROW HBR hwsz cj;obtain⟨k,hk,rfl,hrow,hbr⟩:=hrel;obtain⟨ra,rc,rfl⟩:=K8 hrow;have HROW:=zH hrow;have HBR:=zH hbr;have hwsz:=hbr.size;clear hrow hbr
    by_cases hlt2:k<X.length
    ·obtain⟨g1,c1,e1,hg1,cell1'⟩:=(HXJ.out wr HBR.out).2.cells k hlt2;simp at e1;obtain⟨rfl,rfl⟩:=e1;have hal2:=HAL.out k;have HSN:=zH (zeN acc0 X k hlt2);generalize hacc:qU acc0 (X.take k)=acc at *;generalize hnn:nv X k=n at *;go_wp2_with fail
     try rw[show decide ((k:Int)<(X.length:Int))=true from decide_eq_true (by omega)]
     go_loopw [12] (fun iV wr3=>∃i:Nat,i<=acc.length/\iV=.int .i64 i/\qG acc n acc.length=qG acc n i/\wr3=wr) (fun iV _=>(intOf iV).toNat)
     case atStart=>exact⟨acc.length,Nat.le_refl _,rfl,rfl,rfl⟩
     case round =>
      obtain⟨i,hi,rfl,hp,rfl⟩:=hrel
      by_cases hi0:i=0
      ·have HP:Hid (qG acc n acc.length=i):=by rw[hi0] at hp ⊢;exact hp
       have hi0':¬(0:Int)<(i:Int):=by omega
       clear hp hi0;go_wp2_with (at_builtin;refine wpList_append_own _ rfl _ _ 47 rfl W0.heap.size 3 i0 (.int .i64 0) 1 8 Tryz.underlying47 hin hz0 hz1 hz2 rfl (by decide) _ _ _ rfl (HROW.out.alloc _) ⟨wr.heap.size,0,none⟩ 1 1 [.int .i64 0] rfl rfl (QW _ _ _) ?c2 ?c3 ?c4 ?c5 ?_)
       case c2=>first|rfl|(intro u hu;simp at hu;subst hu;rfl)
       case c3=>unfold maxLen;omega
       case c4=>omega
       case c5=>first|omega|(simp;omega)
       intro v' w3 hown hgrow _;have hb3:zB W0 w3:=(HBR.out.alloc hwsz _).grown hgrow (by simp;omega) (fun j hj=>(HROW.out.lt j hj).1);obtain⟨g,cap,CUR,CS,rfl,hBg,hnc,hHG,hHINS,hHCELL,hHONE,hHMN,hHFIT⟩:=zbN (i:=i) (n:=n) hi hown;obtain⟨I1,hI1⟩:∃I1:Nat,I1=i+1:=⟨_,rfl⟩;rw[<-hI1] at hHINS hHMN hHFIT;have hwr:IntKind.i64.wrap ((i:Int)+1)=(I1:Int):=by rw[hI1];rw[IntKind.wrap_i64];omega
       have hub:I1<=acc.length+1:=by omega
       have hubI:(I1:Int)<=(acc.length:Int)+1:=by omega
       have hiI:(i:Int)<=(acc.length:Int)+1:=by omega
       have HG:=zH hHG;have HINS:=zH hHINS;have HCELL:=zH hHCELL;have HONE:=zH hHONE;have HMN:=zH hHMN;have HFIT:=zH hHFIT;have HB3:=zH hb3;have HRP2:Hid (qU acc0 (X.take (k+1))=acc.take i++n :: acc.drop i):=by show _=_;rw[HSN.out];unfold xh;rw[HP.out]
       have HL2:Hid ((acc.take i++n :: acc.drop i).length=acc.length+1):=by show _=_;rw[List.length_append,List.length_cons,List.length_take,List.length_drop];omega
       have hBd:Hid (zB W0 w3.drew):=HB3.out.drew;clear hown hgrow hb3 HSN HP HROW HBR hHG hHINS hHCELL hHONE hHMN hHFIT
       by_cases hend:i<acc.length
       ·have hc1:¬cap=I1:=by omega
        have hc2:¬cap=i:=by omega
        have hpos:Hid (∀(dp sp:Option Addr),dp=some ⟨g,I1,none⟩->sp=some ⟨g,i,none⟩->0<CS.length->dp=some ⟨g,I1,none⟩/\∃ad:Addr,sp=some ad/\∀j v,CS[j]?=some v->w3.drew.cell? (ad.add j)=some v):=fun _ _ h1 h2 _=>⟨h1,⟨g,i,none⟩,h2,fun j v hv=>by have h7:=HCELL.out j v hv;show w3.cell? (Addr.add ⟨g,i,none⟩ j)=_;rw[<-h7];congr 1;unfold Addr.add;split<;>simp_all⟩
        clear hI1;go_wp2_with fail;go_region_held_law (fun _=>True) (exact trivial) (first|(refine step_copy_splice rfl (.tmp 54) (.tmp 57) 47 47 rfl 3 Tryz.underlying47 QJ (some ⟨g,I1,none⟩) (some ⟨g,i,none⟩) (acc.length+1-I1) (cap-I1) (acc.length+1-i) (cap-i) rfl rfl g I1 CUR 3 HG.out CS HMN.out (hpos.out _ _ rfl rfl) HFIT.out HONE.out W0.heap.size W0 hBd.out hBg ?_;intro w4 hg4 hb4));obtain⟨⟨u4,q1⟩,q2,q3⟩:=HINS.out w4 hg4.out;have HQ3:=zH q3;have HB5:Hid (zB W0 (w4.setCell ⟨g,i,none⟩ (.int .i64 n))):=hb4.setCell (p:=⟨g,i,none⟩) hBg _;clear q3 hg4 hb4 HINS HG HB3 HMN HFIT HONE HCELL hpos hBd;go_wp2;go_roundw
        case rel=>exact⟨k+1,by omega,by go_num,by rw[HRP2.out,HL2.out];exact HQ3.out,HB5.out⟩
        case measure=>simp[intOf];omega
       ·have hpos:Hid (∀(dp sp:Option Addr),0<CS.length->dp=some ⟨g,I1,none⟩/\∃ad:Addr,sp=some ad/\∀j v,CS[j]?=some v->w3.drew.cell? (ad.add j)=some v):=fun _ _ h=>by have h7:=HMN.out;rw[h7] at h;exact absurd h (by show ¬0<min _ _;omega)
        have hc2:¬cap=i:=by omega
        by_cases hcc:cap=I1
        ·subst hcc;have HMN0:Hid (CS.length=Nat.min (acc.length+1-i) 0):=by show _=_;rw[HMN.out,show acc.length+1-cap=0 by omega]
         clear hI1;go_wp2_with fail;go_region_held_law (fun _=>True) (exact trivial) (first|(refine step_copy_splice rfl (.tmp 54) (.tmp 57) 47 47 rfl 3 Tryz.underlying47 QJ _ _ _ _ _ _ rfl rfl g cap CUR 3 HG.out CS HMN0.out (hpos.out _ _) HFIT.out HONE.out W0.heap.size W0 hBd.out hBg ?_;intro w4 hg4 hb4));obtain⟨⟨u4,q1⟩,q2,q3⟩:=HINS.out w4 hg4.out;have HQ3:=zH q3;have HB5:Hid (zB W0 (w4.setCell ⟨g,i,none⟩ (.int .i64 n))):=hb4.setCell (p:=⟨g,i,none⟩) hBg _;clear q3 hg4 hb4 HINS HG HB3 HMN HFIT HONE HCELL hpos hBd;go_wp2;go_roundw
         case rel=>exact⟨k+1,by omega,by go_num,by rw[HRP2.out,HL2.out];exact HQ3.out,HB5.out⟩
         case measure=>simp[intOf];omega
        ·clear hI1;go_wp2_with fail;go_region_held_law (fun _=>True) (exact trivial) (first|(refine step_copy_splice rfl (.tmp 54) (.tmp 57) 47 47 rfl 3 Tryz.underlying47 QJ _ _ _ _ _ _ rfl rfl g I1 CUR 3 HG.out CS HMN.out (hpos.out _ _) HFIT.out HONE.out W0.heap.size W0 hBd.out hBg ?_;intro w4 hg4 hb4));obtain⟨⟨u4,q1⟩,q2,q3⟩:=HINS.out w4 hg4.out;have HQ3:=zH q3;have HB5:Hid (zB W0 (w4.setCell ⟨g,i,none⟩ (.int .i64 n))):=hb4.setCell (p:=⟨g,i,none⟩) hBg _;clear q3 hg4 hb4 HINS HG HB3 HMN HFIT HONE HCELL hpos hBd;go_wp2;go_roundw
         case rel=>exact⟨k+1,by omega,by go_num,by rw[HRP2.out,HL2.out];exact HQ3.out,HB5.out⟩
         case measure=>simp[intOf];omega
      ·obtain⟨i',hi'⟩:∃i',i'+1=i:=⟨i-1,by omega⟩;obtain⟨g2,c2,e2,hg2,cell2'⟩:=(Jr HROW.out).cells i' (by omega);simp at e2;obtain⟨rfl,rfl⟩:=e2;have h1:(i:Int)-1=(i':Int):=by omega
       have hpi:0<i:=by omega
       have hi2:i'<acc.length:=by omega
       have HI':=zH hi';rw[<-hi'] at hp;clear hi'
       by_cases hgt:n<nv acc i'
       ·have HPN:Hid (qG acc n acc.length=qG acc n i'):=hp.trans (if_pos (show n<acc.getD i' 0 from hgt));clear hp;generalize nv acc i'=Y at *;go_wp2;go_roundw
        case rel=>exact⟨i',by omega,by go_num,HPN.out,trivial⟩
        case measure=>have:=HI'.out;simp[intOf];omega
       ·have HP:Hid (qG acc n acc.length=i):=(hp.trans (if_neg (show ¬n<acc.getD i' 0 from hgt))).trans HI'.out;clear hp;generalize nv acc i'=Y at *;go_wp2_with (at_builtin;refine wpList_append_own _ rfl _ _ 47 rfl W0.heap.size 3 i0 (.int .i64 0) 1 8 Tryz.underlying47 hin hz0 hz1 hz2 rfl (by decide) _ _ _ rfl (HROW.out.alloc _) ⟨wr.heap.size,0,none⟩ 1 1 [.int .i64 0] rfl rfl (QW _ _ _) ?c2 ?c3 ?c4 ?c5 ?_)
        case c2=>first|rfl|(intro u hu;simp at hu;subst hu;rfl)
        case c3=>unfold maxLen;omega
        case c4=>omega
        case c5=>first|omega|(simp;omega)
        intro v' w3 hown hgrow _;have hb3:zB W0 w3:=(HBR.out.alloc hwsz _).grown hgrow (by simp;omega) (fun j hj=>(HROW.out.lt j hj).1);obtain⟨g,cap,CUR,CS,rfl,hBg,hnc,hHG,hHINS,hHCELL,hHONE,hHMN,hHFIT⟩:=zbN (i:=i) (n:=n) hi hown;obtain⟨I1,hI1⟩:∃I1:Nat,I1=i+1:=⟨_,rfl⟩;rw[<-hI1] at hHINS hHMN hHFIT;have hwr:IntKind.i64.wrap ((i:Int)+1)=(I1:Int):=by rw[hI1];rw[IntKind.wrap_i64];omega
        have hub:I1<=acc.length+1:=by omega
        have hubI:(I1:Int)<=(acc.length:Int)+1:=by omega
        have hiI:(i:Int)<=(acc.length:Int)+1:=by omega
        have HG:=zH hHG;have HINS:=zH hHINS;have HCELL:=zH hHCELL;have HONE:=zH hHONE;have HMN:=zH hHMN;have HFIT:=zH hHFIT;have HB3:=zH hb3;have HRP2:Hid (qU acc0 (X.take (k+1))=acc.take i++n :: acc.drop i):=by show _=_;rw[HSN.out];unfold xh;rw[HP.out]
        have HL2:Hid ((acc.take i++n :: acc.drop i).length=acc.length+1):=by show _=_;rw[List.length_append,List.length_cons,List.length_take,List.length_drop];omega
        have hBd:Hid (zB W0 w3.drew):=HB3.out.drew;clear hown hgrow hb3 HSN HP HROW HBR hHG hHINS hHCELL hHONE hHMN hHFIT
        by_cases hend:i<acc.length
        ·have hc1:¬cap=I1:=by omega
         have hc2:¬cap=i:=by omega
         have hpos:Hid (∀(dp sp:Option Addr),dp=some ⟨g,I1,none⟩->sp=some ⟨g,i,none⟩->0<CS.length->dp=some ⟨g,I1,none⟩/\∃ad:Addr,sp=some ad/\∀j v,CS[j]?=some v->w3.drew.cell? (ad.add j)=some v):=fun _ _ h1 h2 _=>⟨h1,⟨g,i,none⟩,h2,fun j v hv=>by have h7:=HCELL.out j v hv;show w3.cell? (Addr.add ⟨g,i,none⟩ j)=_;rw[<-h7];congr 1;unfold Addr.add;split<;>simp_all⟩
         clear hI1;go_wp2_with fail;go_region_held_law (fun _=>True) (exact trivial) (first|(refine step_copy_splice rfl (.tmp 54) (.tmp 57) 47 47 rfl 3 Tryz.underlying47 QJ (some ⟨g,I1,none⟩) (some ⟨g,i,none⟩) (acc.length+1-I1) (cap-I1) (acc.length+1-i) (cap-i) rfl rfl g I1 CUR 3 HG.out CS HMN.out (hpos.out _ _ rfl rfl) HFIT.out HONE.out W0.heap.size W0 hBd.out hBg ?_;intro w4 hg4 hb4));obtain⟨⟨u4,q1⟩,q2,q3⟩:=HINS.out w4 hg4.out;have HQ3:=zH q3;have HB5:Hid (zB W0 (w4.setCell ⟨g,i,none⟩ (.int .i64 n))):=hb4.setCell (p:=⟨g,i,none⟩) hBg _;clear q3 hg4 hb4 HINS HG HB3 HMN HFIT HONE HCELL hpos hBd;go_wp2;go_roundw
         case rel=>exact⟨k+1,by omega,by go_num,by rw[HRP2.out,HL2.out];exact HQ3.out,HB5.out⟩
         case measure=>simp[intOf];omega
        ·have hpos:Hid (∀(dp sp:Option Addr),0<CS.length->dp=some ⟨g,I1,none⟩/\∃ad:Addr,sp=some ad/\∀j v,CS[j]?=some v->w3.drew.cell? (ad.add j)=some v):=fun _ _ h=>by have h7:=HMN.out;rw[h7] at h;exact absurd h (by show ¬0<min _ _;omega)
         have hc2:¬cap=i:=by omega
         by_cases hcc:cap=I1
         ·subst hcc;have HMN0:Hid (CS.length=Nat.min (acc.length+1-i) 0):=by show _=_;rw[HMN.out,show acc.length+1-cap=0 by omega]
          clear hI1;go_wp2_with fail;go_region_held_law (fun _=>True) (exact trivial) (first|(refine step_copy_splice rfl (.tmp 54) (.tmp 57) 47 47 rfl 3 Tryz.underlying47 QJ _ _ _ _ _ _ rfl rfl g cap CUR 3 HG.out CS HMN0.out (hpos.out _ _) HFIT.out HONE.out W0.heap.size W0 hBd.out hBg ?_;intro w4 hg4 hb4));obtain⟨⟨u4,q1⟩,q2,q3⟩:=HINS.out w4 hg4.out;have HQ3:=zH q3;have HB5:Hid (zB W0 (w4.setCell ⟨g,i,none⟩ (.int .i64 n))):=hb4.setCell (p:=⟨g,i,none⟩) hBg _;clear q3 hg4 hb4 HINS HG HB3 HMN HFIT HONE HCELL hpos hBd;go_wp2;go_roundw
          case rel=>exact⟨k+1,by omega,by go_num,by rw[HRP2.out,HL2.out];exact HQ3.out,HB5.out⟩
          case measure=>simp[intOf];omega
         ·clear hI1;go_wp2_with fail;go_region_held_law (fun _=>True) (exact trivial) (first|(refine step_copy_splice rfl (.tmp 54) (.tmp 57) 47 47 rfl 3 Tryz.underlying47 QJ _ _ _ _ _ _ rfl rfl g I1 CUR 3 HG.out CS HMN.out (hpos.out _ _) HFIT.out HONE.out W0.heap.size W0 hBd.out hBg ?_;intro w4 hg4 hb4));obtain⟨⟨u4,q1⟩,q2,q3⟩:=HINS.out w4 hg4.out;have HQ3:=zH q3;have HB5:Hid (zB W0 (w4.setCell ⟨g,i,none⟩ (.int .i64 n))):=hb4.setCell (p:=⟨g,i,none⟩) hBg _;clear q3 hg4 hb4 HINS HG HB3 HMN HFIT HONE HCELL hpos hBd;go_wp2;go_roundw
          case rel=>exact⟨k+1,by omega,by go_num,by rw[HRP2.out,HL2.out];exact HQ3.out,HB5.out⟩
          case measure=>simp[intOf];omega
    ·obtain rfl:k=X.length:=by omega
     have HROW2:Hid (wr.ownsRow W0.heap.size 3 1 (.slice ra (yC a b (j+1)).length rc) (yC a b (j+1)).length (zV (yC a b (j+1)))):=by
      show World.ownsRow _ _ _ _ _ _ _;rw[HJ.out];have h7:=HROW.out;rw[List.take_length] at h7;exact h7
     have HLL:Hid ((qU acc0 (X.take X.length)).length=(yC a b (j+1)).length):=by show _=_;rw[HJ.out,List.take_length]
     clear HROW;rw[HLL.out];go_wp2;go_roundw
     case rel=>exact⟨j+1,by omega,by go_num,HROW2.out,HBR.out⟩
     case measure=>simp[intOf];omega
  ·have e3:yC a b j=Zy a b:=by
    obtain rfl:j=3:=by omega
    rfl
   rw[e3] at HROW ⊢;clear e3;have hpl:(Zy a b).length<=2000000002:=by rw[zhK];omega
   have HML:Hid (ZD a b rule=qI (Zn a b rule) false (Zy a b)):=rfl;have HRF:Hid (∀n:Nat,Zn a b rule n=(decide (n<ALL)&&rule (inP a n) (inP b n))):=fun _=>rfl;generalize hP:Zy a b=P at *;generalize hM:ZD a b rule=M at *;generalize hRU:Zn a b rule=R at *
   rename World=>w9
   have hML:M.length<=P.length:=by rw[HML.out];exact zde _ _ _
   go_wp2_with fail
   try rw[show decide ((j:Int)<3)=false from decide_eq_false (by omega)]
   go_loopw [13,14,67] (fun oV sV kV wr=>∃(k:Nat) (acc:List Nat) (is:Bool),k<=P.length/\kV=.int .i64 k/\sV=.bool is/\acc++qI R is (P.drop k)=M/\wr.ownsRow w9.heap.size 3 1 oV acc.length (zV acc)/\zB w9 wr) (fun _ _ kV _=>P.length-(intOf kV).toNat)
   case atStart=>exact⟨0,[],false,Nat.zero_le _,rfl,rfl,by rw[HML.out];rfl,World.ownsRow_nil _ _ _ _,Below.refl _ _⟩
   case round =>
    obtain⟨k,acc,is,hk,rfl,rfl,hres,hrow,hbz⟩:=hrel;obtain⟨oa,oc,rfl⟩:=K8 hrow;have hal:acc.length<=M.length:=by rw[<-hres];simp
    have HRZ:=zH hrow;have HBZ:=zH hbz;have HRS:=zH hres;have hwz:=hbz.size;clear hrow hbz hres
    by_cases hlt3:k<P.length
    ·obtain⟨g3,c3,e3,hg3,cell3⟩:=(Jr HROW.out).cells k hlt3;simp at e3;obtain⟨rfl,rfl⟩:=e3;have cz:=(HBZ.out.cell (p:=⟨g3,k,none⟩) (by show g3<_;omega)).trans cell3;have hBW:zB W0 wr:=zT HBR.out HBZ.out;have HIA:=zH (XO a (nv P k) _ wr (HVA0.out wr hBW) (by omega));have HIB:=zH (XO b (nv P k) _ wr (HVB0.out wr hBW) (by omega));have HRU:=zH (HR.out (inP a (nv P k)) (inP b (nv P k)) wr);have hRn:=HRF.out (nv P k);clear hBW
     by_cases hall:nv P k<ALL
     ·have hall':(nv P k:Int)<1000000000:=by unfold ALL at hall;omega
      rw[decide_eq_true hall,Bool.true_and] at hRn;rw[<-hRn] at HRU
      by_cases hsame:R (nv P k)=is
      ·have HRN:Hid (acc++qI R is (P.drop (k+1))=M):=by show _=_;rw[<-zbX hlt3 hsame];exact HRS.out
       rw[hsame] at HRU;clear hRn hsame HRS;generalize inP a (nv P k)=X1 at *;generalize inP b (nv P k)=X2 at *;generalize nv P k=N at *;go_wp2_with fail;refine HIA.out.mono ?_;rintro e w1 ⟨rfl,hw1⟩;rw[hw1];clear hw1;go_wp2_with fail;refine HIB.out.mono ?_;rintro e w1 ⟨rfl,hw1⟩;rw[hw1];clear hw1;go_wp2_with fail;refine HRU.out.mono ?_;rintro e w1 ⟨rfl,hw1⟩;rw[hw1];clear hw1;clear HIA HIB HRU;go_wp2;go_roundw
       case rel=>exact⟨k+1,acc,is,by omega,by go_num,rfl,HRN.out,HRZ.out,HBZ.out⟩
       case measure=>simp[intOf];omega
      ·have hte:=JC hlt3 hsame;have HRN:Hid ((acc++[nv P k])++qI R (R (nv P k)) (P.drop (k+1))=M):=by show _=_;rw[List.append_assoc,List.singleton_append,<-hte];exact HRS.out
       have hal2:(acc++[nv P k]).length<=M.length:=by rw[<-HRN.out];simp
       simp at hal2;cases is with
       |false =>
        have hRt:R (nv P k)=true:=by simpa using hsame
        rw[hRt] at HRN HRU;clear hRn hsame HRS hte hRt;generalize inP a (nv P k)=X1 at *;generalize inP b (nv P k)=X2 at *;generalize nv P k=N at *;go_wp2_with fail;refine HIA.out.mono ?_;rintro e w1 ⟨rfl,hw1⟩;rw[hw1];clear hw1;go_wp2_with fail;refine HIB.out.mono ?_;rintro e w1 ⟨rfl,hw1⟩;rw[hw1];clear hw1;go_wp2_with fail;refine HRU.out.mono ?_;rintro e w1 ⟨rfl,hw1⟩;rw[hw1];clear hw1;clear HIA HIB HRU;go_wp2_with (at_builtin;refine wpList_append_own _ rfl _ _ 94 rfl w9.heap.size 3 i0 (.int .i64 0) 1 8 Tryz.underlying94 hin hz0 hz1 hz2 rfl (by decide) _ _ _ rfl (HRZ.out.alloc _) ⟨wr.heap.size,0,none⟩ 1 1 [.int .i64 N] rfl rfl (QW _ _ _) ?d2 ?d3 ?d4 ?d5 ?_)
        case d2=>first|rfl|(intro u hu;simp at hu;subst hu;rfl)
        case d3=>unfold maxLen;omega
        case d4=>omega
        case d5=>first|omega|(simp;omega)
        intro v' w3 hown hgrow _;have hb3:zB w9 w3:=(HBZ.out.alloc hwz _).grown hgrow (by simp;omega) (fun j hj=>(HRZ.out.lt j hj).1);have e7:(acc++[N]).length=acc.length+1:=by simp
        have es:zV (acc++[N])=zV acc++[.int .i64 N]:=XH _ _;rw[<-es,<-e7] at hown;have HO7:=zH hown;have HB7:=zH hb3;clear hown hgrow hb3 e7 es;go_wp2;go_roundw
        case rel=>exact⟨k+1,acc++[N],true,by omega,by go_num,rfl,HRN.out,HO7.out,HB7.out⟩
        case measure=>simp[intOf];omega
       |true =>
        have hRt:R (nv P k)=false:=by simpa using hsame
        rw[hRt] at HRN HRU;clear hRn hsame HRS hte hRt;generalize inP a (nv P k)=X1 at *;generalize inP b (nv P k)=X2 at *;generalize nv P k=N at *;go_wp2_with fail;refine HIA.out.mono ?_;rintro e w1 ⟨rfl,hw1⟩;rw[hw1];clear hw1;go_wp2_with fail;refine HIB.out.mono ?_;rintro e w1 ⟨rfl,hw1⟩;rw[hw1];clear hw1;go_wp2_with fail;refine HRU.out.mono ?_;rintro e w1 ⟨rfl,hw1⟩;rw[hw1];clear hw1;clear HIA HIB HRU;go_wp2_with (at_builtin;refine wpList_append_own _ rfl _ _ 94 rfl w9.heap.size 3 i0 (.int .i64 0) 1 8 Tryz.underlying94 hin hz0 hz1 hz2 rfl (by decide) _ _ _ rfl (HRZ.out.alloc _) ⟨wr.heap.size,0,none⟩ 1 1 [.int .i64 N] rfl rfl (QW _ _ _) ?d2 ?d3 ?d4 ?d5 ?_)
        case d2=>first|rfl|(intro u hu;simp at hu;subst hu;rfl)
        case d3=>unfold maxLen;omega
        case d4=>omega
        case d5=>first|omega|(simp;omega)
        intro v' w3 hown hgrow _;have hb3:zB w9 w3:=(HBZ.out.alloc hwz _).grown hgrow (by simp;omega) (fun j hj=>(HRZ.out.lt j hj).1);have e7:(acc++[N]).length=acc.length+1:=by simp
        have es:zV (acc++[N])=zV acc++[.int .i64 N]:=XH _ _;rw[<-es,<-e7] at hown;have HO7:=zH hown;have HB7:=zH hb3;clear hown hgrow hb3 e7 es;go_wp2;go_roundw
        case rel=>exact⟨k+1,acc++[N],false,by omega,by go_num,rfl,HRN.out,HO7.out,HB7.out⟩
        case measure=>simp[intOf];omega
     ·have hall':¬(nv P k:Int)<1000000000:=by unfold ALL at hall;omega
      rw[decide_eq_false hall,Bool.false_and] at hRn;clear HIA HIB HRU;cases is with
      |false =>
       have HRN:Hid (acc++qI R false (P.drop (k+1))=M):=by show _=_;rw[<-zbX hlt3 hRn];exact HRS.out
       clear hRn HRS;generalize nv P k=N at *;go_wp2;go_roundw
       case rel=>exact⟨k+1,acc,false,by omega,by go_num,rfl,HRN.out,HRZ.out,HBZ.out⟩
       case measure=>simp[intOf];omega
      |true =>
       have hte:=JC (f:=R) (is:=true) hlt3 (by rw[hRn];decide);rw[hRn] at hte;have HRN:Hid ((acc++[nv P k])++qI R false (P.drop (k+1))=M):=by show _=_;rw[List.append_assoc,List.singleton_append,<-hte];exact HRS.out
       have hal2:(acc++[nv P k]).length<=M.length:=by rw[<-HRN.out];simp
       simp at hal2;clear hRn HRS hte;generalize nv P k=N at *;go_wp2_with (at_builtin;refine wpList_append_own _ rfl _ _ 94 rfl w9.heap.size 3 i0 (.int .i64 0) 1 8 Tryz.underlying94 hin hz0 hz1 hz2 rfl (by decide) _ _ _ rfl (HRZ.out.alloc _) ⟨wr.heap.size,0,none⟩ 1 1 [.int .i64 N] rfl rfl (QW _ _ _) ?d2 ?d3 ?d4 ?d5 ?_)
       case d2=>first|rfl|(intro u hu;simp at hu;subst hu;rfl)
       case d3=>unfold maxLen;omega
       case d4=>omega
       case d5=>first|omega|(simp;omega)
       intro v' w3 hown hgrow _;have hb3:zB w9 w3:=(HBZ.out.alloc hwz _).grown hgrow (by simp;omega) (fun j hj=>(HRZ.out.lt j hj).1);have e7:(acc++[N]).length=acc.length+1:=by simp
       have es:zV (acc++[N])=zV acc++[.int .i64 N]:=XH _ _;rw[<-es,<-e7] at hown;have HO7:=zH hown;have HB7:=zH hb3;clear hown hgrow hb3 e7 es;go_wp2;go_roundw
       case rel=>exact⟨k+1,acc++[N],false,by omega,by go_num,rfl,HRN.out,HO7.out,HB7.out⟩
       case measure=>simp[intOf];omega
    ·obtain rfl:k=P.length:=by omega
     have hMA:acc=M:=by rw[<-HRS.out,List.drop_length,qI,List.append_nil]
     have HOUT:Hid (yo w M (.returned (.slice oa acc.length oc)) wr):=by
      rw[<-hMA];exact⟨oa,oc,rfl,Jr HRZ.out,fun g hg=>Nat.le_trans (Nat.le_trans HB0.out.size HBR.out.size) (HRZ.out.lt g hg).1,(zT HB0.out HBR.out).trans (HBZ.out.mono (Nat.le_trans HB0.out.size HBR.out.size))⟩
     clear hMA HRS;go_wp2;go_ret;exact HOUT.out
end
section
open Go.RowKit Sv
theorem zjy:∀args w,(callFunc 193 args).run Tryz.prog w=.ok (.enter 193 args) w:=by intro args w;kernel_rfl
theorem zlC:∀args w,(callFunc 192 args).run Tryz.prog w=.ok (.enter 192 args) w:=by intro args w;kernel_rfl
theorem zdH:∀args w,(callFunc 255 args).run Tryz.prog w=.ok (.enter 255 args) w:=by intro args w;kernel_rfl
theorem zhh(x y:Bool)(W:World):zC 193 #[.bool x,.bool y] W fun e w'=>e=.returned (.bool (x||y))/\w'=W:=by
 cases x
 ·go_enter Tryz.func193,Tryz.ntmps193;go_wp2;go_ret;exact⟨rfl,rfl⟩
 ·go_enter Tryz.func193,Tryz.ntmps193;go_wp2;go_ret;exact⟨rfl,rfl⟩
theorem zlz(x y:Bool)(W:World):zC 192 #[.bool x,.bool y] W fun e w'=>e=.returned (.bool (x&&y))/\w'=W:=by
 cases x
 ·go_enter Tryz.func192,Tryz.ntmps192;go_wp2;go_ret;exact⟨rfl,rfl⟩
 ·go_enter Tryz.func192,Tryz.ntmps192;go_wp2;go_ret;exact⟨rfl,rfl⟩
theorem zlm(x y:Bool)(W:World):zC 255 #[.bool x,.bool y] W fun e w'=>e=.returned (.bool (!x))/\w'=W:=by
 go_enter Tryz.func255,Tryz.ntmps255;go_wp2;go_ret;exact⟨rfl,rfl⟩
theorem QH{l:List zc}(h:Rg l):(tp l).length<=1000000000:=by have:=Qw h;rw[YC];omega
theorem zd6(l m:List zc)(hl:Rg l)(hm:Rg m)(v u:Value)(w:World)(hv:zr w v (tp l))(hu:zr w u (tp m)) :
  zC 117 #[v,u] w (yo w (tp (orr l m))):=by
 have H:=zH (XJ (tp l) (tp m) v u 193 (fun x y=>x||y) w hv hu (QH hl) (QH hm) zjy zhh);rw[zcX hl hm] at H;obtain⟨a,c,rfl⟩:=hv.form;obtain⟨a',c',rfl⟩:=hu.form;clear hv hu;generalize (tp l).length=n1 at *;generalize (tp m).length=n2 at *;generalize tp (orr l m)=R at *;go_enter Tryz.func117,Tryz.ntmps117;go_wp2_with fail;refine H.out.mono ?_;rintro e w' ⟨b,d,rfl,h1,h2,h3⟩;have H1:=zH h1;have H2:=zH h2;have H3:=zH h3;clear h1 h2 h3;go_wp2;go_ret;exact⟨b,d,rfl,H1.out,H2.out,H3.out⟩
theorem zk9(l m:List zc)(hl:Rg l)(hm:Rg m)(v u:Value)(w:World)(hv:zr w v (tp l))(hu:zr w u (tp m)) :
  zC 116 #[v,u] w (yo w (tp (nd l m))):=by
 have H:=zH (XJ (tp l) (tp m) v u 192 (fun x y=>x&&y) w hv hu (QH hl) (QH hm) zlC zlz);rw[zgf hl hm] at H;obtain⟨a,c,rfl⟩:=hv.form;obtain⟨a',c',rfl⟩:=hu.form;clear hv hu;generalize (tp l).length=n1 at *;generalize (tp m).length=n2 at *;generalize tp (nd l m)=R at *;go_enter Tryz.func116,Tryz.ntmps116;go_wp2_with fail;refine H.out.mono ?_;rintro e w' ⟨b,d,rfl,h1,h2,h3⟩;have H1:=zH h1;have H2:=zH h2;have H3:=zH h3;clear h1 h2 h3;go_wp2;go_ret;exact⟨b,d,rfl,H1.out,H2.out,H3.out⟩
theorem zkH(l:List zc)(hl:Rg l)(v:Value)(w:World)(hv:zr w v (tp l)) :
  zC 190 #[v] w (yo w (tp (nt l))):=by
 have H:=zH (XJ (tp l) [] v (.slice none 0 0) 255 (fun x _=>!x) w hv (xj w) (QH hl) (Nat.zero_le _) zdH zlm);rw[zjf hl] at H;obtain⟨a,c,rfl⟩:=hv.form;clear hv;generalize (tp l).length=n1 at *;generalize tp (nt l)=R at *;go_enter Tryz.func190,Tryz.ntmps190;go_wp2_with fail;refine H.out.mono ?_;rintro e w' ⟨b,d,rfl,h1,h2,h3⟩;have H1:=zH h1;have H2:=zH h2;have H3:=zH h3;clear h1 h2 h3;go_wp2;go_ret;exact⟨b,d,rfl,H1.out,H2.out,H3.out⟩
end
end Go.Proofs.YtiihalknffbjpaaGreatDoor
