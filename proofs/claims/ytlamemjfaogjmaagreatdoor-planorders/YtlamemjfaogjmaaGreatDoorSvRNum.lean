/- The reference: the number that a text tells. -/
import Derived.Test.YtlamemjfaogjmaaGreatDoorSvMixP
import Derived.Deep.RegionHeldLaw
set_option maxHeartbeats 4000000
set_option maxRecDepth 100000
namespace Go.Proofs.YtlamemjfaogjmaaGreatDoor
section
open Go.RowKit Sv
theorem XN(a b:List Nat)(va vb:Value)(F:Nat)(rule:Bool->Bool->Bool)(w:World)(hva:NsAt w va a)(hvb:NsAt w vb b)(hla:a.length<=1000000000)(hlb:b.length<=1000000000)
  (hent:∀args w,(callFunc F args).run Tryz.prog w=.ok (.enter F args) w)
  (hrule:∀x y W,zC F #[.bool x,.bool y] W fun e w'=>e=.returned (.bool (rule x y))/\w'=W) :
  zC 114 #[va,vb,.func (.func F) #[] #[]] w (qM w (xt a b rule)):=by
 obtain⟨i0,hin,hz0,hz1,hz2⟩:=info_parts zg1;obtain⟨aa,ca,rfl⟩:=hva.form;obtain⟨ab,cb,rfl⟩:=hvb.form;have HVA:=zH hva;have HVB:=zH hvb;have HR:=zH hrule;clear hva hvb hrule;go_enter Tryz.func114,Tryz.ntmps114;go_wp2_with fail;obtain⟨W0,hW0⟩:∃W0,(w.alloc (.cells #[.int .i64 0,.int .i64 1000000000] 3)).alloc (.cells #[.slice (some ⟨w.heap.size,0,none⟩) 2 2,.slice aa a.length ca,.slice ab b.length cb] 57)=W0:=⟨_,rfl⟩;obtain⟨hB0,hX⟩:=zfa a b aa ab ca cb w W0 hW0 HVA.out HVB.out;have HB0:=zH hB0;have HX:=zH hX;have HVA0:Hid (∀W,zB W0 W->NsAt W (.slice aa a.length ca) a):=fun W hb=>HVA.out.below (zT HB0.out hb) zN;have HVB0:Hid (∀W,zB W0 W->NsAt W (.slice ab b.length cb) b):=fun W hb=>HVB.out.below (zT HB0.out hb) zN;rw[hW0];clear hW0 HVA HVB hB0 hX;go_loopw [7,23] (fun aV jV wr=>∃j:Nat,j<=3/\jV=.int .i64 j/\wr.ownsRow W0.heap.size 3 1 aV (qS a b j).length (zA (qS a b j))/\zB W0 wr) (fun _ jV _=>3-(intOf jV).toNat)
 case atStart=>exact⟨0,Nat.zero_le _,rfl,World.ownsRow_nil _ _ _ _,Below.refl _ _⟩
 case round =>
  obtain⟨j,hj,rfl,hrow,hbr⟩:=hrel;obtain⟨ra,rc,rfl⟩:=XI hrow;have HROW:=zH hrow;have HBR:=zH hbr;have hwsz:=hbr.size;clear hrow hbr
  by_cases hlt:j<3
  ·obtain⟨x,c,hx⟩:=HX.out j hlt;have hxl:(yK a b j).length<=1000000000:=zfS a b hla hlb j;have hal:∀k,(qn (qS a b j) ((yK a b j).take k)).length<=2000000002:=fun k=>by have:=zfF a b j k hlt;omega
   have HJ:Hid (qS a b (j+1)=qn (qS a b j) (yK a b j)):=rfl;have HXJ:=zH hx;have HAL:=zH hal;have cj:=(hx wr HBR.out).1;clear hx hal;generalize hA0:qS a b j=acc0 at *;generalize hXX:yK a b j=X at *;go_wp2_with fail;rw[show decide ((j:Int)<3)=true from decide_eq_true (by omega)];go_loopw [7,29] (fun aV kV wr=>∃k:Nat,k<=X.length/\kV=.int .i64 k/\wr.ownsRow W0.heap.size 3 1 aV (qn acc0 (X.take k)).length (zA (qn acc0 (X.take k)))/\zB W0 wr) (fun _ kV _=>X.length-(intOf kV).toNat)
   case atStart=>exact⟨0,Nat.zero_le _,rfl,by simpa[qn] using HROW.out,HBR.out⟩
   case round =>
    clear HROW HBR hwsz cj;obtain⟨k,hk,rfl,hrow,hbr⟩:=hrel;obtain⟨ra,rc,rfl⟩:=XI hrow;have HROW:=zH hrow;have HBR:=zH hbr;have hwsz:=hbr.size;clear hrow hbr
    by_cases hlt2:k<X.length
    ·obtain⟨g1,c1,e1,hg1,cell1'⟩:=(HXJ.out wr HBR.out).2.cells k hlt2;simp at e1;obtain⟨rfl,rfl⟩:=e1;have hal2:=HAL.out k;have HSN:=zH (zbu acc0 X k hlt2);generalize hacc:qn acc0 (X.take k)=acc at *;generalize hnn:nv X k=n at *;go_wp2_with fail
     try rw[show decide ((k:Int)<(X.length:Int))=true from decide_eq_true (by omega)]
     go_loopw [12] (fun iV wr3=>∃i:Nat,i<=acc.length/\iV=.int .i64 i/\qj acc n acc.length=qj acc n i/\wr3=wr) (fun iV _=>(intOf iV).toNat)
     case atStart=>exact⟨acc.length,Nat.le_refl _,rfl,rfl,rfl⟩
     case round =>
      obtain⟨i,hi,rfl,hp,rfl⟩:=hrel
      by_cases hi0:i=0
      ·have HP:Hid (qj acc n acc.length=i):=by rw[hi0] at hp ⊢;exact hp
       have hi0':¬(0:Int)<(i:Int):=by omega
       clear hp hi0;go_wp2_with (at_builtin;refine wpList_append_own _ rfl _ _ 27 rfl W0.heap.size 3 i0 (.int .i64 0) 1 8 Tryz.underlying27 hin hz0 hz1 hz2 rfl (by decide) _ _ _ rfl (HROW.out.alloc _) ⟨wr.heap.size,0,none⟩ 1 1 [.int .i64 0] rfl rfl (Qg _ _ _) ?c2 ?c3 ?c4 ?c5 ?_)
       case c2=>first|rfl|(intro u hu;simp at hu;subst hu;rfl)
       case c3=>unfold maxLen;omega
       case c4=>omega
       case c5=>first|omega|(simp;omega)
       intro v' w3 hown hgrow _;have hb3:zB W0 w3:=(HBR.out.alloc hwsz _).grown hgrow (by simp;omega) (fun j hj=>(HROW.out.lt j hj).1);obtain⟨g,cap,CUR,CS,rfl,hBg,hnc,hHG,hHINS,hHCELL,hHONE,hHMN,hHFIT⟩:=JE (i:=i) (n:=n) hi hown;obtain⟨I1,hI1⟩:∃I1:Nat,I1=i+1:=⟨_,rfl⟩;rw[<-hI1] at hHINS hHMN hHFIT;have hwr:IntKind.i64.wrap ((i:Int)+1)=(I1:Int):=by rw[hI1];rw[IntKind.wrap_i64];omega
       have hub:I1<=acc.length+1:=by omega
       have hubI:(I1:Int)<=(acc.length:Int)+1:=by omega
       have hiI:(i:Int)<=(acc.length:Int)+1:=by omega
       have HG:=zH hHG;have HINS:=zH hHINS;have HCELL:=zH hHCELL;have HONE:=zH hHONE;have HMN:=zH hHMN;have HFIT:=zH hHFIT;have HB3:=zH hb3;have HRP2:Hid (qn acc0 (X.take (k+1))=acc.take i++n :: acc.drop i):=by show _=_;rw[HSN.out];unfold yg;rw[HP.out]
       have HL2:Hid ((acc.take i++n :: acc.drop i).length=acc.length+1):=by show _=_;rw[List.length_append,List.length_cons,List.length_take,List.length_drop];omega
       have hBd:Hid (zB W0 w3.drew):=HB3.out.drew;clear hown hgrow hb3 HSN HP HROW HBR hHG hHINS hHCELL hHONE hHMN hHFIT
       by_cases hend:i<acc.length
       ·have hc1:¬cap=I1:=by omega
        have hc2:¬cap=i:=by omega
        have hpos:Hid (∀(dp sp:Option Addr),dp=some ⟨g,I1,none⟩->sp=some ⟨g,i,none⟩->0<CS.length->dp=some ⟨g,I1,none⟩/\∃ad:Addr,sp=some ad/\∀j v,CS[j]?=some v->w3.drew.cell? (ad.add j)=some v):=fun _ _ h1 h2 _=>⟨h1,⟨g,i,none⟩,h2,fun j v hv=>by have h7:=HCELL.out j v hv;show w3.cell? (Addr.add ⟨g,i,none⟩ j)=_;rw[<-h7];congr 1;unfold Addr.add;split<;>simp_all⟩
        clear hI1;go_wp2_with fail;go_region_held_law (fun _=>True) (exact trivial) (first|(refine step_copy_splice rfl (.tmp 54) (.tmp 57) 27 27 rfl 3 Tryz.underlying27 Zj (some ⟨g,I1,none⟩) (some ⟨g,i,none⟩) (acc.length+1-I1) (cap-I1) (acc.length+1-i) (cap-i) rfl rfl g I1 CUR 3 HG.out CS HMN.out (hpos.out _ _ rfl rfl) HFIT.out HONE.out W0.heap.size W0 hBd.out hBg ?_;intro w4 hg4 hb4));obtain⟨⟨u4,q1⟩,q2,q3⟩:=HINS.out w4 hg4.out;have HQ3:=zH q3;have HB5:Hid (zB W0 (w4.setCell ⟨g,i,none⟩ (.int .i64 n))):=hb4.setCell (p:=⟨g,i,none⟩) hBg _;clear q3 hg4 hb4 HINS HG HB3 HMN HFIT HONE HCELL hpos hBd;go_wp2;go_roundw
        case rel=>exact⟨k+1,by omega,by go_num,by rw[HRP2.out,HL2.out];exact HQ3.out,HB5.out⟩
        case measure=>simp[intOf];omega
       ·have hpos:Hid (∀(dp sp:Option Addr),0<CS.length->dp=some ⟨g,I1,none⟩/\∃ad:Addr,sp=some ad/\∀j v,CS[j]?=some v->w3.drew.cell? (ad.add j)=some v):=fun _ _ h=>by have h7:=HMN.out;rw[h7] at h;exact absurd h (by show ¬0<min _ _;omega)
        have hc2:¬cap=i:=by omega
        by_cases hcc:cap=I1
        ·subst hcc;have HMN0:Hid (CS.length=Nat.min (acc.length+1-i) 0):=by show _=_;rw[HMN.out,show acc.length+1-cap=0 by omega]
         clear hI1;go_wp2_with fail;go_region_held_law (fun _=>True) (exact trivial) (first|(refine step_copy_splice rfl (.tmp 54) (.tmp 57) 27 27 rfl 3 Tryz.underlying27 Zj _ _ _ _ _ _ rfl rfl g cap CUR 3 HG.out CS HMN0.out (hpos.out _ _) HFIT.out HONE.out W0.heap.size W0 hBd.out hBg ?_;intro w4 hg4 hb4));obtain⟨⟨u4,q1⟩,q2,q3⟩:=HINS.out w4 hg4.out;have HQ3:=zH q3;have HB5:Hid (zB W0 (w4.setCell ⟨g,i,none⟩ (.int .i64 n))):=hb4.setCell (p:=⟨g,i,none⟩) hBg _;clear q3 hg4 hb4 HINS HG HB3 HMN HFIT HONE HCELL hpos hBd;go_wp2;go_roundw
         case rel=>exact⟨k+1,by omega,by go_num,by rw[HRP2.out,HL2.out];exact HQ3.out,HB5.out⟩
         case measure=>simp[intOf];omega
        ·clear hI1;go_wp2_with fail;go_region_held_law (fun _=>True) (exact trivial) (first|(refine step_copy_splice rfl (.tmp 54) (.tmp 57) 27 27 rfl 3 Tryz.underlying27 Zj _ _ _ _ _ _ rfl rfl g I1 CUR 3 HG.out CS HMN.out (hpos.out _ _) HFIT.out HONE.out W0.heap.size W0 hBd.out hBg ?_;intro w4 hg4 hb4));obtain⟨⟨u4,q1⟩,q2,q3⟩:=HINS.out w4 hg4.out;have HQ3:=zH q3;have HB5:Hid (zB W0 (w4.setCell ⟨g,i,none⟩ (.int .i64 n))):=hb4.setCell (p:=⟨g,i,none⟩) hBg _;clear q3 hg4 hb4 HINS HG HB3 HMN HFIT HONE HCELL hpos hBd;go_wp2;go_roundw
         case rel=>exact⟨k+1,by omega,by go_num,by rw[HRP2.out,HL2.out];exact HQ3.out,HB5.out⟩
         case measure=>simp[intOf];omega
      ·obtain⟨i',hi'⟩:∃i',i'+1=i:=⟨i-1,by omega⟩;obtain⟨g2,c2,e2,hg2,cell2'⟩:=(YV HROW.out).cells i' (by omega);simp at e2;obtain⟨rfl,rfl⟩:=e2;have h1:(i:Int)-1=(i':Int):=by omega
       have hpi:0<i:=by omega
       have hi2:i'<acc.length:=by omega
       have HI':=zH hi';rw[<-hi'] at hp;clear hi'
       by_cases hgt:n<nv acc i'
       ·have HPN:Hid (qj acc n acc.length=qj acc n i'):=hp.trans (if_pos (show n<acc.getD i' 0 from hgt));clear hp;generalize nv acc i'=Y at *;go_wp2;go_roundw
        case rel=>exact⟨i',by omega,by go_num,HPN.out,trivial⟩
        case measure=>have:=HI'.out;simp[intOf];omega
       ·have HP:Hid (qj acc n acc.length=i):=(hp.trans (if_neg (show ¬n<acc.getD i' 0 from hgt))).trans HI'.out;clear hp;generalize nv acc i'=Y at *;go_wp2_with (at_builtin;refine wpList_append_own _ rfl _ _ 27 rfl W0.heap.size 3 i0 (.int .i64 0) 1 8 Tryz.underlying27 hin hz0 hz1 hz2 rfl (by decide) _ _ _ rfl (HROW.out.alloc _) ⟨wr.heap.size,0,none⟩ 1 1 [.int .i64 0] rfl rfl (Qg _ _ _) ?c2 ?c3 ?c4 ?c5 ?_)
        case c2=>first|rfl|(intro u hu;simp at hu;subst hu;rfl)
        case c3=>unfold maxLen;omega
        case c4=>omega
        case c5=>first|omega|(simp;omega)
        intro v' w3 hown hgrow _;have hb3:zB W0 w3:=(HBR.out.alloc hwsz _).grown hgrow (by simp;omega) (fun j hj=>(HROW.out.lt j hj).1);obtain⟨g,cap,CUR,CS,rfl,hBg,hnc,hHG,hHINS,hHCELL,hHONE,hHMN,hHFIT⟩:=JE (i:=i) (n:=n) hi hown;obtain⟨I1,hI1⟩:∃I1:Nat,I1=i+1:=⟨_,rfl⟩;rw[<-hI1] at hHINS hHMN hHFIT;have hwr:IntKind.i64.wrap ((i:Int)+1)=(I1:Int):=by rw[hI1];rw[IntKind.wrap_i64];omega
        have hub:I1<=acc.length+1:=by omega
        have hubI:(I1:Int)<=(acc.length:Int)+1:=by omega
        have hiI:(i:Int)<=(acc.length:Int)+1:=by omega
        have HG:=zH hHG;have HINS:=zH hHINS;have HCELL:=zH hHCELL;have HONE:=zH hHONE;have HMN:=zH hHMN;have HFIT:=zH hHFIT;have HB3:=zH hb3;have HRP2:Hid (qn acc0 (X.take (k+1))=acc.take i++n :: acc.drop i):=by show _=_;rw[HSN.out];unfold yg;rw[HP.out]
        have HL2:Hid ((acc.take i++n :: acc.drop i).length=acc.length+1):=by show _=_;rw[List.length_append,List.length_cons,List.length_take,List.length_drop];omega
        have hBd:Hid (zB W0 w3.drew):=HB3.out.drew;clear hown hgrow hb3 HSN HP HROW HBR hHG hHINS hHCELL hHONE hHMN hHFIT
        by_cases hend:i<acc.length
        ·have hc1:¬cap=I1:=by omega
         have hc2:¬cap=i:=by omega
         have hpos:Hid (∀(dp sp:Option Addr),dp=some ⟨g,I1,none⟩->sp=some ⟨g,i,none⟩->0<CS.length->dp=some ⟨g,I1,none⟩/\∃ad:Addr,sp=some ad/\∀j v,CS[j]?=some v->w3.drew.cell? (ad.add j)=some v):=fun _ _ h1 h2 _=>⟨h1,⟨g,i,none⟩,h2,fun j v hv=>by have h7:=HCELL.out j v hv;show w3.cell? (Addr.add ⟨g,i,none⟩ j)=_;rw[<-h7];congr 1;unfold Addr.add;split<;>simp_all⟩
         clear hI1;go_wp2_with fail;go_region_held_law (fun _=>True) (exact trivial) (first|(refine step_copy_splice rfl (.tmp 54) (.tmp 57) 27 27 rfl 3 Tryz.underlying27 Zj (some ⟨g,I1,none⟩) (some ⟨g,i,none⟩) (acc.length+1-I1) (cap-I1) (acc.length+1-i) (cap-i) rfl rfl g I1 CUR 3 HG.out CS HMN.out (hpos.out _ _ rfl rfl) HFIT.out HONE.out W0.heap.size W0 hBd.out hBg ?_;intro w4 hg4 hb4));obtain⟨⟨u4,q1⟩,q2,q3⟩:=HINS.out w4 hg4.out;have HQ3:=zH q3;have HB5:Hid (zB W0 (w4.setCell ⟨g,i,none⟩ (.int .i64 n))):=hb4.setCell (p:=⟨g,i,none⟩) hBg _;clear q3 hg4 hb4 HINS HG HB3 HMN HFIT HONE HCELL hpos hBd;go_wp2;go_roundw
         case rel=>exact⟨k+1,by omega,by go_num,by rw[HRP2.out,HL2.out];exact HQ3.out,HB5.out⟩
         case measure=>simp[intOf];omega
        ·have hpos:Hid (∀(dp sp:Option Addr),0<CS.length->dp=some ⟨g,I1,none⟩/\∃ad:Addr,sp=some ad/\∀j v,CS[j]?=some v->w3.drew.cell? (ad.add j)=some v):=fun _ _ h=>by have h7:=HMN.out;rw[h7] at h;exact absurd h (by show ¬0<min _ _;omega)
         have hc2:¬cap=i:=by omega
         by_cases hcc:cap=I1
         ·subst hcc;have HMN0:Hid (CS.length=Nat.min (acc.length+1-i) 0):=by show _=_;rw[HMN.out,show acc.length+1-cap=0 by omega]
          clear hI1;go_wp2_with fail;go_region_held_law (fun _=>True) (exact trivial) (first|(refine step_copy_splice rfl (.tmp 54) (.tmp 57) 27 27 rfl 3 Tryz.underlying27 Zj _ _ _ _ _ _ rfl rfl g cap CUR 3 HG.out CS HMN0.out (hpos.out _ _) HFIT.out HONE.out W0.heap.size W0 hBd.out hBg ?_;intro w4 hg4 hb4));obtain⟨⟨u4,q1⟩,q2,q3⟩:=HINS.out w4 hg4.out;have HQ3:=zH q3;have HB5:Hid (zB W0 (w4.setCell ⟨g,i,none⟩ (.int .i64 n))):=hb4.setCell (p:=⟨g,i,none⟩) hBg _;clear q3 hg4 hb4 HINS HG HB3 HMN HFIT HONE HCELL hpos hBd;go_wp2;go_roundw
          case rel=>exact⟨k+1,by omega,by go_num,by rw[HRP2.out,HL2.out];exact HQ3.out,HB5.out⟩
          case measure=>simp[intOf];omega
         ·clear hI1;go_wp2_with fail;go_region_held_law (fun _=>True) (exact trivial) (first|(refine step_copy_splice rfl (.tmp 54) (.tmp 57) 27 27 rfl 3 Tryz.underlying27 Zj _ _ _ _ _ _ rfl rfl g I1 CUR 3 HG.out CS HMN.out (hpos.out _ _) HFIT.out HONE.out W0.heap.size W0 hBd.out hBg ?_;intro w4 hg4 hb4));obtain⟨⟨u4,q1⟩,q2,q3⟩:=HINS.out w4 hg4.out;have HQ3:=zH q3;have HB5:Hid (zB W0 (w4.setCell ⟨g,i,none⟩ (.int .i64 n))):=hb4.setCell (p:=⟨g,i,none⟩) hBg _;clear q3 hg4 hb4 HINS HG HB3 HMN HFIT HONE HCELL hpos hBd;go_wp2;go_roundw
          case rel=>exact⟨k+1,by omega,by go_num,by rw[HRP2.out,HL2.out];exact HQ3.out,HB5.out⟩
          case measure=>simp[intOf];omega
    ·obtain rfl:k=X.length:=by omega
     have HROW2:Hid (wr.ownsRow W0.heap.size 3 1 (.slice ra (qS a b (j+1)).length rc) (qS a b (j+1)).length (zA (qS a b (j+1)))):=by
      show World.ownsRow _ _ _ _ _ _ _;rw[HJ.out];have h7:=HROW.out;rw[List.take_length] at h7;exact h7
     have HLL:Hid ((qn acc0 (X.take X.length)).length=(qS a b (j+1)).length):=by show _=_;rw[HJ.out,List.take_length]
     clear HROW;rw[HLL.out];go_wp2;go_roundw
     case rel=>exact⟨j+1,by omega,by go_num,HROW2.out,HBR.out⟩
     case measure=>simp[intOf];omega
  ·have e3:qS a b j=xh a b:=by
    obtain rfl:j=3:=by omega
    rfl
   rw[e3] at HROW ⊢;clear e3;have hpl:(xh a b).length<=2000000002:=by rw[zeG];omega
   have HML:Hid (xt a b rule=qk (y7 a b rule) false (xh a b)):=rfl;have HRF:Hid (∀n:Nat,y7 a b rule n=(decide (n<ALL)&&rule (inP a n) (inP b n))):=fun _=>rfl;generalize hP:xh a b=P at *;generalize hM:xt a b rule=M at *;generalize hRU:y7 a b rule=R at *
   rename World=>w9
   have hML:M.length<=P.length:=by rw[HML.out];exact zcZ _ _ _
   go_wp2_with fail
   try rw[show decide ((j:Int)<3)=false from decide_eq_false (by omega)]
   go_loopw [13,14,67] (fun oV sV kV wr=>∃(k:Nat) (acc:List Nat) (is:Bool),k<=P.length/\kV=.int .i64 k/\sV=.bool is/\acc++qk R is (P.drop k)=M/\wr.ownsRow w9.heap.size 3 1 oV acc.length (zA acc)/\zB w9 wr) (fun _ _ kV _=>P.length-(intOf kV).toNat)
   case atStart=>exact⟨0,[],false,Nat.zero_le _,rfl,rfl,by rw[HML.out];rfl,World.ownsRow_nil _ _ _ _,Below.refl _ _⟩
   case round =>
    obtain⟨k,acc,is,hk,rfl,rfl,hres,hrow,hbz⟩:=hrel;obtain⟨oa,oc,rfl⟩:=XI hrow;have hal:acc.length<=M.length:=by rw[<-hres];simp
    have HRZ:=zH hrow;have HBZ:=zH hbz;have HRS:=zH hres;have hwz:=hbz.size;clear hrow hbz hres
    by_cases hlt3:k<P.length
    ·obtain⟨g3,c3,e3,hg3,cell3⟩:=(YV HROW.out).cells k hlt3;simp at e3;obtain⟨rfl,rfl⟩:=e3;have cz:=(HBZ.out.cell (p:=⟨g3,k,none⟩) (by show g3<_;omega)).trans cell3;have hBW:zB W0 wr:=zT HBR.out HBZ.out;have HIA:=zH (YE a (nv P k) _ wr (HVA0.out wr hBW) (by omega));have HIB:=zH (YE b (nv P k) _ wr (HVB0.out wr hBW) (by omega));have HRU:=zH (HR.out (inP a (nv P k)) (inP b (nv P k)) wr);have hRn:=HRF.out (nv P k);clear hBW
     by_cases hall:nv P k<ALL
     ·have hall':(nv P k:Int)<1000000000:=by unfold ALL at hall;omega
      rw[decide_eq_true hall,Bool.true_and] at hRn;rw[<-hRn] at HRU
      by_cases hsame:R (nv P k)=is
      ·have HRN:Hid (acc++qk R is (P.drop (k+1))=M):=by show _=_;rw[<-Kx hlt3 hsame];exact HRS.out
       rw[hsame] at HRU;clear hRn hsame HRS;generalize inP a (nv P k)=X1 at *;generalize inP b (nv P k)=X2 at *;generalize nv P k=N at *;go_wp2_with fail;refine HIA.out.mono ?_;rintro e w1 ⟨rfl,hw1⟩;rw[hw1];clear hw1;go_wp2_with fail;refine HIB.out.mono ?_;rintro e w1 ⟨rfl,hw1⟩;rw[hw1];clear hw1;go_wp2_with fail;refine HRU.out.mono ?_;rintro e w1 ⟨rfl,hw1⟩;rw[hw1];clear hw1;clear HIA HIB HRU;go_wp2;go_roundw
       case rel=>exact⟨k+1,acc,is,by omega,by go_num,rfl,HRN.out,HRZ.out,HBZ.out⟩
       case measure=>simp[intOf];omega
      ·have hte:=X3 hlt3 hsame;have HRN:Hid ((acc++[nv P k])++qk R (R (nv P k)) (P.drop (k+1))=M):=by show _=_;rw[List.append_assoc,List.singleton_append,<-hte];exact HRS.out
       have hal2:(acc++[nv P k]).length<=M.length:=by rw[<-HRN.out];simp
       simp at hal2;cases is with
       |false =>
        have hRt:R (nv P k)=true:=by simpa using hsame
        rw[hRt] at HRN HRU;clear hRn hsame HRS hte hRt;generalize inP a (nv P k)=X1 at *;generalize inP b (nv P k)=X2 at *;generalize nv P k=N at *;go_wp2_with fail;refine HIA.out.mono ?_;rintro e w1 ⟨rfl,hw1⟩;rw[hw1];clear hw1;go_wp2_with fail;refine HIB.out.mono ?_;rintro e w1 ⟨rfl,hw1⟩;rw[hw1];clear hw1;go_wp2_with fail;refine HRU.out.mono ?_;rintro e w1 ⟨rfl,hw1⟩;rw[hw1];clear hw1;clear HIA HIB HRU;go_wp2_with (at_builtin;refine wpList_append_own _ rfl _ _ 57 rfl w9.heap.size 3 i0 (.int .i64 0) 1 8 Tryz.underlying57 hin hz0 hz1 hz2 rfl (by decide) _ _ _ rfl (HRZ.out.alloc _) ⟨wr.heap.size,0,none⟩ 1 1 [.int .i64 N] rfl rfl (Qg _ _ _) ?d2 ?d3 ?d4 ?d5 ?_)
        case d2=>first|rfl|(intro u hu;simp at hu;subst hu;rfl)
        case d3=>unfold maxLen;omega
        case d4=>omega
        case d5=>first|omega|(simp;omega)
        intro v' w3 hown hgrow _;have hb3:zB w9 w3:=(HBZ.out.alloc hwz _).grown hgrow (by simp;omega) (fun j hj=>(HRZ.out.lt j hj).1);have e7:(acc++[N]).length=acc.length+1:=by simp
        have es:zA (acc++[N])=zA acc++[.int .i64 N]:=Y4 _ _;rw[<-es,<-e7] at hown;have HO7:=zH hown;have HB7:=zH hb3;clear hown hgrow hb3 e7 es;go_wp2;go_roundw
        case rel=>exact⟨k+1,acc++[N],true,by omega,by go_num,rfl,HRN.out,HO7.out,HB7.out⟩
        case measure=>simp[intOf];omega
       |true =>
        have hRt:R (nv P k)=false:=by simpa using hsame
        rw[hRt] at HRN HRU;clear hRn hsame HRS hte hRt;generalize inP a (nv P k)=X1 at *;generalize inP b (nv P k)=X2 at *;generalize nv P k=N at *;go_wp2_with fail;refine HIA.out.mono ?_;rintro e w1 ⟨rfl,hw1⟩;rw[hw1];clear hw1;go_wp2_with fail;refine HIB.out.mono ?_;rintro e w1 ⟨rfl,hw1⟩;rw[hw1];clear hw1;go_wp2_with fail;refine HRU.out.mono ?_;rintro e w1 ⟨rfl,hw1⟩;rw[hw1];clear hw1;clear HIA HIB HRU;go_wp2_with (at_builtin;refine wpList_append_own _ rfl _ _ 57 rfl w9.heap.size 3 i0 (.int .i64 0) 1 8 Tryz.underlying57 hin hz0 hz1 hz2 rfl (by decide) _ _ _ rfl (HRZ.out.alloc _) ⟨wr.heap.size,0,none⟩ 1 1 [.int .i64 N] rfl rfl (Qg _ _ _) ?d2 ?d3 ?d4 ?d5 ?_)
        case d2=>first|rfl|(intro u hu;simp at hu;subst hu;rfl)
        case d3=>unfold maxLen;omega
        case d4=>omega
        case d5=>first|omega|(simp;omega)
        intro v' w3 hown hgrow _;have hb3:zB w9 w3:=(HBZ.out.alloc hwz _).grown hgrow (by simp;omega) (fun j hj=>(HRZ.out.lt j hj).1);have e7:(acc++[N]).length=acc.length+1:=by simp
        have es:zA (acc++[N])=zA acc++[.int .i64 N]:=Y4 _ _;rw[<-es,<-e7] at hown;have HO7:=zH hown;have HB7:=zH hb3;clear hown hgrow hb3 e7 es;go_wp2;go_roundw
        case rel=>exact⟨k+1,acc++[N],false,by omega,by go_num,rfl,HRN.out,HO7.out,HB7.out⟩
        case measure=>simp[intOf];omega
     ·have hall':¬(nv P k:Int)<1000000000:=by unfold ALL at hall;omega
      rw[decide_eq_false hall,Bool.false_and] at hRn;clear HIA HIB HRU;cases is with
      |false =>
       have HRN:Hid (acc++qk R false (P.drop (k+1))=M):=by show _=_;rw[<-Kx hlt3 hRn];exact HRS.out
       clear hRn HRS;generalize nv P k=N at *;go_wp2;go_roundw
       case rel=>exact⟨k+1,acc,false,by omega,by go_num,rfl,HRN.out,HRZ.out,HBZ.out⟩
       case measure=>simp[intOf];omega
      |true =>
       have hte:=X3 (f:=R) (is:=true) hlt3 (by rw[hRn];decide);rw[hRn] at hte;have HRN:Hid ((acc++[nv P k])++qk R false (P.drop (k+1))=M):=by show _=_;rw[List.append_assoc,List.singleton_append,<-hte];exact HRS.out
       have hal2:(acc++[nv P k]).length<=M.length:=by rw[<-HRN.out];simp
       simp at hal2;clear hRn HRS hte;generalize nv P k=N at *;go_wp2_with (at_builtin;refine wpList_append_own _ rfl _ _ 57 rfl w9.heap.size 3 i0 (.int .i64 0) 1 8 Tryz.underlying57 hin hz0 hz1 hz2 rfl (by decide) _ _ _ rfl (HRZ.out.alloc _) ⟨wr.heap.size,0,none⟩ 1 1 [.int .i64 N] rfl rfl (Qg _ _ _) ?d2 ?d3 ?d4 ?d5 ?_)
       case d2=>first|rfl|(intro u hu;simp at hu;subst hu;rfl)
       case d3=>unfold maxLen;omega
       case d4=>omega
       case d5=>first|omega|(simp;omega)
       intro v' w3 hown hgrow _;have hb3:zB w9 w3:=(HBZ.out.alloc hwz _).grown hgrow (by simp;omega) (fun j hj=>(HRZ.out.lt j hj).1);have e7:(acc++[N]).length=acc.length+1:=by simp
       have es:zA (acc++[N])=zA acc++[.int .i64 N]:=Y4 _ _;rw[<-es,<-e7] at hown;have HO7:=zH hown;have HB7:=zH hb3;clear hown hgrow hb3 e7 es;go_wp2;go_roundw
       case rel=>exact⟨k+1,acc++[N],false,by omega,by go_num,rfl,HRN.out,HO7.out,HB7.out⟩
       case measure=>simp[intOf];omega
    ·obtain rfl:k=P.length:=by omega
     have hMA:acc=M:=by rw[<-HRS.out,List.drop_length,qk,List.append_nil]
     have HOUT:Hid (qM w M (.returned (.slice oa acc.length oc)) wr):=by
      rw[<-hMA];exact⟨oa,oc,rfl,YV HRZ.out,fun g hg=>Nat.le_trans (Nat.le_trans HB0.out.size HBR.out.size) (HRZ.out.lt g hg).1,(zT HB0.out HBR.out).trans (HBZ.out.mono (Nat.le_trans HB0.out.size HBR.out.size))⟩
     clear hMA HRS;go_wp2;go_ret;exact HOUT.out
end
section
open Go.RowKit Sv
theorem zcJ:∀args w,(callFunc 116 args).run Tryz.prog w=.ok (.enter 116 args) w:=by intro args w;kernel_rfl
theorem zgd:∀args w,(callFunc 115 args).run Tryz.prog w=.ok (.enter 115 args) w:=by intro args w;kernel_rfl
theorem zbb:∀args w,(callFunc 144 args).run Tryz.prog w=.ok (.enter 144 args) w:=by intro args w;kernel_rfl
theorem za7(x y:Bool)(W:World):zC 116 #[.bool x,.bool y] W fun e w'=>e=.returned (.bool (x||y))/\w'=W:=by
 cases x
 ·go_enter Tryz.func116,Tryz.ntmps116;go_wp2;go_ret;exact⟨rfl,rfl⟩
 ·go_enter Tryz.func116,Tryz.ntmps116;go_wp2;go_ret;exact⟨rfl,rfl⟩
theorem zhT(x y:Bool)(W:World):zC 115 #[.bool x,.bool y] W fun e w'=>e=.returned (.bool (x&&y))/\w'=W:=by
 cases x
 ·go_enter Tryz.func115,Tryz.ntmps115;go_wp2;go_ret;exact⟨rfl,rfl⟩
 ·go_enter Tryz.func115,Tryz.ntmps115;go_wp2;go_ret;exact⟨rfl,rfl⟩
theorem zhc(x y:Bool)(W:World):zC 144 #[.bool x,.bool y] W fun e w'=>e=.returned (.bool (!x))/\w'=W:=by
 go_enter Tryz.func144,Tryz.ntmps144;go_wp2;go_ret;exact⟨rfl,rfl⟩
theorem Zx{l:List Span}(h:Rg l):(tp l).length<=1000000000:=by have:=xO h;rw[ZT];omega
theorem zgS(l m:List Span)(hl:Rg l)(hm:Rg m)(v u:Value)(w:World)(hv:NsAt w v (tp l))(hu:NsAt w u (tp m)) :
  zC 84 #[v,u] w (qM w (tp (orr l m))):=by
 have H:=zH (XN (tp l) (tp m) v u 116 (fun x y=>x||y) w hv hu (Zx hl) (Zx hm) zcJ za7);rw[zcx hl hm] at H;obtain⟨a,c,rfl⟩:=hv.form;obtain⟨a',c',rfl⟩:=hu.form;clear hv hu;generalize (tp l).length=n1 at *;generalize (tp m).length=n2 at *;generalize tp (orr l m)=R at *;go_enter Tryz.func84,Tryz.ntmps84;go_wp2_with fail;refine H.out.mono ?_;rintro e w' ⟨b,d,rfl,h1,h2,h3⟩;have H1:=zH h1;have H2:=zH h2;have H3:=zH h3;clear h1 h2 h3;go_wp2;go_ret;exact⟨b,d,rfl,H1.out,H2.out,H3.out⟩
theorem zgF(l m:List Span)(hl:Rg l)(hm:Rg m)(v u:Value)(w:World)(hv:NsAt w v (tp l))(hu:NsAt w u (tp m)) :
  zC 83 #[v,u] w (qM w (tp (nd l m))):=by
 have H:=zH (XN (tp l) (tp m) v u 115 (fun x y=>x&&y) w hv hu (Zx hl) (Zx hm) zgd zhT);rw[zaR hl hm] at H;obtain⟨a,c,rfl⟩:=hv.form;obtain⟨a',c',rfl⟩:=hu.form;clear hv hu;generalize (tp l).length=n1 at *;generalize (tp m).length=n2 at *;generalize tp (nd l m)=R at *;go_enter Tryz.func83,Tryz.ntmps83;go_wp2_with fail;refine H.out.mono ?_;rintro e w' ⟨b,d,rfl,h1,h2,h3⟩;have H1:=zH h1;have H2:=zH h2;have H3:=zH h3;clear h1 h2 h3;go_wp2;go_ret;exact⟨b,d,rfl,H1.out,H2.out,H3.out⟩
theorem ze8(l:List Span)(hl:Rg l)(v:Value)(w:World)(hv:NsAt w v (tp l)) :
  zC 113 #[v] w (qM w (tp (nt l))):=by
 have H:=zH (XN (tp l) [] v (.slice none 0 0) 144 (fun x _=>!x) w hv (nsAt_nil w) (Zx hl) (Nat.zero_le _) zbb zhc);rw[za1 hl] at H;obtain⟨a,c,rfl⟩:=hv.form;clear hv;generalize (tp l).length=n1 at *;generalize tp (nt l)=R at *;go_enter Tryz.func113,Tryz.ntmps113;go_wp2_with fail;refine H.out.mono ?_;rintro e w' ⟨b,d,rfl,h1,h2,h3⟩;have H1:=zH h1;have H2:=zH h2;have H3:=zH h3;clear h1 h2 h3;go_wp2;go_ret;exact⟨b,d,rfl,H1.out,H2.out,H3.out⟩
end
section
open Go.RowKit Go.Shelf Go.Sort Sv
def xE(l:List UInt8):Option Int :=
 match Lib.parseIntB 64 l with
 |.ok v=>if Lib.itoa v=l then some v else none
 |_=>none
def ZK:Option Int->Value
 |some v=>.tuple #[.int .i64 v,.bool true]
 |none=>.tuple #[.int .i64 0,.bool false]
theorem K3(s:ByteArray)(w:World)(hs:s.size<=100000)(hw:Lb w)(h:∀v,Lib.parseIntB 64 s.data.toList≠.ok v) :
  zR 80 #[.string s] w (.tuple #[.int .i64 0,.bool false]):=by
 have H:Hid (zC 110 #[.string s,.int .i64 10,.int .i64 64] w fun e w'=>∃N x,e=.returned (.tuple #[.int .i64 x,.iface 251 (.pointer (some ⟨N,0,none⟩))])/\zB w w'):=by
  cases hp:Lib.parseIntB 64 s.data.toList with
  |ok v=>exact absurd hp (h v)
  |«syntax» =>obtain⟨ev,h3,h3'⟩:=hw.es;exact(Tryz.strconv_ParseInt_10_at64_syntax s (by omega) hp ev w h3 h3').mono fun e w' ⟨N,he,_,_,hb⟩=>⟨N,_,he,hb⟩
  |range =>obtain⟨ev,h3,h3'⟩:=hw.er;exact(Tryz.strconv_ParseInt_10_at64_range s (by omega) hp ev w h3 h3').mono fun e w' ⟨N,he,_,_,hb⟩=>⟨N,_,he,hb⟩
 clear h hw;go_enter Tryz.func80,Tryz.ntmps80;go_wp2_with fail;refine H.out.mono ?_;rintro e w1 ⟨N,x,rfl,hb⟩;have HB:=zH hb;clear hb H;go_wp2;go_ret2;exact⟨rfl,HB.out⟩
theorem zef(s:ByteArray)(w:World)(hs:s.size<=100000)(hw:Lb w)(v:Int)(h:Lib.parseIntB 64 s.data.toList=.ok v) :
  zR 80 #[.string s] w (ZK (if Lib.itoa v=s.data.toList then some v else none)):=by
 obtain⟨r0,r1⟩:=X6 h;have H:Hid (zR 110 #[.string s,.int .i64 10,.int .i64 64] w (.tuple #[.int .i64 v,.nilIface])):=(Tryz.strconv_ParseInt_10_at64_ok s (by omega) v h w).mono fun e w' ⟨he,hw'⟩=>by
  refine⟨he,?_⟩;rcases hw' with rfl|⟨t,rfl⟩
  ·exact Below.refl _ _
  ·exact Ki w t
 have HF:Hid (∀W,zB w W->zR 111 #[.int .i64 v,.int .i64 10] W (.string ⟨(Lib.itoa v).toArray⟩)):=fun W hb=>(Tryz.strconv_FormatInt_10 v r0 r1 W (hw.below hb).tab).mono fun e w' ⟨he,k,os,hw'⟩=>⟨he,hw'▸zaH _ W k os zN⟩;clear h hw;generalize Lib.itoa v=l at *
 by_cases hl:l=s.data.toList
 ·have heq:(l==s.toList)=true:=by rw[ByteArray.toList_eq,hl];simp
  rw[if_pos hl];clear hl;go_enter Tryz.func80,Tryz.ntmps80;go_wp2_with fail;refine H.out.mono ?_;rintro e w1 ⟨rfl,hb⟩;have H2:=zH (HF.out _ hb);have HB:=zH hb;clear hb H HF;go_wp2_with fail;refine H2.out.mono ?_;rintro e w2 ⟨rfl,hb2⟩;have HB2:Hid (zB w w2):=zT HB.out hb2;clear hb2 H2 HB;go_wp2;go_ret2;exact⟨rfl,HB2.out⟩
 ·have heq:(l==s.toList)=false:=by rw[ByteArray.toList_eq];simpa using hl
  rw[if_neg hl];clear hl;go_enter Tryz.func80,Tryz.ntmps80;go_wp2_with fail;refine H.out.mono ?_;rintro e w1 ⟨rfl,hb⟩;have H2:=zH (HF.out _ hb);have HB:=zH hb;clear hb H HF;go_wp2_with fail;refine H2.out.mono ?_;rintro e w2 ⟨rfl,hb2⟩;have HB2:Hid (zB w w2):=zT HB.out hb2;clear hb2 H2 HB;go_wp2;go_ret2;exact⟨rfl,HB2.out⟩
theorem zca(s:ByteArray)(w:World)(hs:s.size<=100000)(hw:Lb w) :
  zR 80 #[.string s] w (ZK (xE s.data.toList)):=by
 cases h:Lib.parseIntB 64 s.data.toList with
 |ok v=>unfold xE;rw[h];exact zef s w hs hw v h
 |«syntax»=>unfold xE;rw[h];exact K3 s w hs hw (fun v e=>by rw[h] at e;cases e)
 |range=>unfold xE;rw[h];exact K3 s w hs hw (fun v e=>by rw[h] at e;cases e)
theorem zdq(l:List UInt8):qw l=match xE l with
  |none=>.error 3
  |some v=>if v<0 then .error 3 else if 999<v then .error 2 else .ok v.toNat:=by
 unfold qw xE;cases hv:Lib.parseIntB 64 l with
 |ok v =>
  by_cases h:Lib.itoa v=l
  ·simp only[h,if_true]
   by_cases hn:v<0<;>simp[hn]
  ·simp[h]
 |«syntax»=>rfl
 |range=>rfl
end
end Go.Proofs.YtlamemjfaogjmaaGreatDoor
