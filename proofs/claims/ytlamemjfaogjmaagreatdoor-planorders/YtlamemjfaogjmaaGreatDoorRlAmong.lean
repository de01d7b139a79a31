/- The reference's Among. -/
import Derived.Test.YtlamemjfaogjmaaGreatDoorSvRCmp
set_option maxHeartbeats 8000000
set_option maxRecDepth 100000
namespace Go.Proofs.YtlamemjfaogjmaaGreatDoor
section
open Go.RowKit Go.Deep Go.Sort Sv
theorem zb7:(Tryz.prog.info? 62).map (fun i=>(i.zero,i.size,i.bytes))=some (some (.agg #[.string ⟨#[]⟩,.int .i64 0,.int .i64 0,.int .i64 0]),4,40):=by kernel_rfl
theorem YT:(Tryz.prog.info? 62).map (·.size)=some 4:=by kernel_rfl
theorem zfL(ls:List Ln):∀(k:Nat) (acc:List It),k<ls.length->zP (ls.take (k+1)) acc=if (ls.getD k default).kind=1 then yj (zP (ls.take k) acc) (ls.getD k default).it (qG (zP (ls.take k) acc) (ls.getD k default).it (zP (ls.take k) acc).length) else zP (ls.take k) acc:=by
 induction ls with
 |nil=>intro k acc h;simp at h
 |cons y r ih =>
  intro k acc h;cases k with
  |zero =>show zP [y] acc=_;rw[List.take_zero];show zP [y] acc=if y.kind=1 then yj acc y.it (qG acc y.it acc.length) else acc;rw[zP];split<;>rfl
  |succ k =>
   have hk:k<r.length:=by simpa using h
   show zP (y :: r.take (k+1)) acc=_;rw[zP];simp only[List.take_succ_cons,List.getD_cons_succ]
   by_cases hy:y.kind=1
   ·rw[if_pos hy,ih k _ hk,zP,if_pos hy]
   ·rw[if_neg hy,ih k _ hk,zP,if_neg hy]
theorem zhO(ls:List Ln):∀acc:List It,(zP ls acc).length<=acc.length+ls.length:=by
 intro acc;rw[(Qw ls acc).length_eq,List.length_append];unfold qy;have:=List.length_filter_le (fun x:Ln=>decide (x.kind=1)) ls;simp;omega
theorem zbE(w:World):∀(j:Nat) (u:Value),(zr ⟨⟨#[]⟩,0,0,0⟩)[j]?=some u->(w.alloc (.cells #[.string ⟨#[]⟩,.int .i64 0,.int .i64 0,.int .i64 0] 62)).cell? (Addr.add ⟨w.heap.size,0,none⟩ j)=some u:=by
 intro j u hu;have hB:=Blk.new w 62 #[.string ⟨#[]⟩,.int .i64 0,.int .i64 0,.int .i64 0];rw[Zn,Nat.zero_add,hB.cell j,<-hu]
 match j with
 |0=>rfl
 |1=>rfl
 |2=>rfl
 |3=>rfl
 |j+4=>simp[zr]
theorem YZ(ls:List Ln)(v:Value)(w:World)(h:RLs w v ls)(hl:ls.length<=100000) :
  zC 14 #[v] w fun e w'=>∃v',e=.returned v'/\w'.ownsRow w.heap.size 62 4 v' (zP ls []).length (zf (zP ls []))/\zB w w':=by
 obtain⟨va,vc,rfl⟩:∃va vc,v=.slice va ls.length vc:=by obtain⟨vs,_,h2⟩:=h;obtain⟨a,c,e,_⟩:=h2.form;exact⟨a,c,e⟩
 obtain⟨i0,hin,hz0,hz1,hz2⟩:=info_parts zb7;have HI:=zH h;have HST:=zH (fun k hk=>zfL ls k [] hk);have HLE:Hid (∀k,(zP (ls.take k) []).length<=100000):=fun k=>by have:=zhO (ls.take k) [];simp at this;omega
 have HS0:Hid (zP (ls.take 0) []=[]):=by show _=_;rfl
 have HEN:Hid (zP (ls.take ls.length) []=zP ls []):=by show _=_;rw[List.take_length]
 clear h;go_enter Tryz.func14,Tryz.ntmps14;go_wp2_with fail;go_loopw [3,9] (fun oV kV wr=>∃(k:Nat),k<=ls.length/\kV=.int .i64 k/\wr.ownsRow w.heap.size 62 4 oV (zP (ls.take k) []).length (zf (zP (ls.take k) []))/\zB w wr) (fun _ kV _=>ls.length-(intOf kV).toNat)
 case atStart=>exact⟨0,Nat.zero_le _,rfl,by rw[HS0.out];exact World.ownsRow_nil _ _ _ _,Below.refl _ _⟩
 case round =>
  obtain⟨k,hk,rfl,hrow,hbw⟩:=hrel;obtain⟨oa,oc,rfl,-⟩:=(zD hrow).form;have hale:=HLE.out k
  by_cases hlt:k<ls.length
  ·obtain⟨g,cap',ra,rc,e1,hg,hns,hrg,c0,c1,c2,c3,c4,c5,c6⟩:=(HI.out.below hbw zN).at k hlt;simp at e1;obtain⟨rfl,rfl⟩:=e1;have hii0:(0:Int)<=(k:Int):=by omega
   have hii1:(k:Int)<(ls.length:Int):=by omega
   have hst:=HST.out k hlt;generalize ls.getD k default=X at *;generalize zP (ls.take k) []=acc at *;obtain⟨R,hR⟩:∃R,zP (ls.take (k+1)) []=R:=⟨_,rfl⟩;rw[hR] at hst;have HR:=zH hR;have HSTK:=zH hst;have hA:zB wr (wr.alloc (.cells #[.int .i64 X.kind,.string X.name,.int .i64 X.a,.int .i64 X.b,.int .i64 X.c,.string X.other,.slice ra (tp X.rng).length rc] 59)):=zF.alloc zN _;have HKN:=zH (Blk.new wr 59 #[.int .i64 X.kind,.string X.name,.int .i64 X.a,.int .i64 X.b,.int .i64 X.c,.string X.other,.slice ra (tp X.rng).length rc]);have HR3:=zH (qK hrow hA);have HB3:Hid (zB w (wr.alloc (.cells #[.int .i64 X.kind,.string X.name,.int .i64 X.a,.int .i64 X.b,.int .i64 X.c,.string X.other,.slice ra (tp X.rng).length rc] 59))):=zT hbw hA;have hsz1:=hbw.size;clear hrow hbw hA hst hR hns hrg HST HEN HS0 HLE HI;generalize (tp X.rng).length=TL at *;go_upto_region 5 with fail;generalize hW3:wr.alloc (.cells #[.int .i64 X.kind,.string X.name,.int .i64 X.a,.int .i64 X.b,.int .i64 X.c,.string X.other,.slice ra TL rc] 59)=W3 at *;clear hW3 c0 c1 c2 c3 c4 c5 c6;have c0:_=some (Value.int .i64 X.kind):=HKN.out.cell 0;have c1:_=some (Value.string X.name):=HKN.out.cell 1;have c2:_=some (Value.int .i64 X.a):=HKN.out.cell 2;have c3:_=some (Value.int .i64 X.b):=HKN.out.cell 3;have c4:_=some (Value.int .i64 X.c):=HKN.out.cell 4
   by_cases hk1:X.kind=1
   ·have hRe:R=yj acc X.it (qG acc X.it acc.length):=by rw[HSTK.out,if_pos hk1]
    have HRE:=zH hRe;clear hRe HSTK;rw[hk1] at c0;rw[hk1];clear hk1;generalize wr.heap.size=bx at *;go_wp2_with fail;go_loopw [6] (fun iV wz=>∃i:Nat,i<=acc.length/\iV=.int .i64 i/\qG acc X.it acc.length=qG acc X.it i/\zB W3 wz) (fun iV _=>(intOf iV).toNat)
    case atStart=>exact⟨acc.length,Nat.le_refl _,rfl,rfl,Below.refl _ _⟩
    case round =>
     obtain⟨i,hi,rfl,hp,hbz⟩:=hrel;have HP:=zH hp;have HBZ:=zH hbz;have HR4:=zH (qK HR3.out hbz);have HK4:=zH (HKN.out.below hbz HKN.out.lt);have HB4:Hid (zB w wr):=zT HB3.out hbz;clear c0 c1 c2 c3 c4 hp hbz;have c1:_=some (Value.string X.name):=HK4.out.cell 1;have c2:_=some (Value.int .i64 X.a):=HK4.out.cell 2;have c3:_=some (Value.int .i64 X.b):=HK4.out.cell 3;have c4:_=some (Value.int .i64 X.c):=HK4.out.cell 4;obtain⟨D,hD⟩:∃D:Bool,D=decide (0<i/\zw X.it (acc.getD (i-1) default)<0):=⟨_,rfl⟩;have HD:=zH hD;clear hD;go_upto_region 7 with fail;go_cut [53] from 18 to 55 (fun c wx=>c=.bool D/\zB wr wx)
     case first =>
      by_cases hi0:0<i
      ·obtain⟨j,hj⟩:∃j,j+1=i:=⟨i-1,by omega⟩;have hD:=HD.out;rw[show i-1=j by omega] at hD;obtain⟨g2,cap2,e2,hg2,y0,y1,y2,y3⟩:=(show zS wr (.slice oa acc.length oc) acc from zD HR4.out).at j (by omega);simp at e2;obtain⟨rfl,rfl⟩:=e2;have hiI:(0:Int)<(i:Int):=by omega
       have hjw:IntKind.i64.wrap ((i:Int)-1)=(j:Int):=by rw[show (i:Int)-1=(j:Int) by omega,IntKind.wrap_i64];omega
       have hj0:(0:Int)<=(j:Int):=by omega
       have hj1:(j:Int)<(acc.length:Int):=by omega
       have hDD:D=decide (zw X.it (acc.getD j default)<0):=by rw[hD];simp[hi0]
       clear hD HD hj;generalize acc.getD j default=Y at *
       by_cases hnm:Y.name=X.name
       ·have e1:(Y.name.toList==X.name.toList)=true:=by rw[hnm];simp
        have e2:Op.bytesLess Y.name.toList X.name.toList=false:=by
         rw[XO,hnm];refine decide_eq_false ?_;have:=ZD X.name.data.toList X.name.data.toList;omega
        have hDC:D=decide (qp (tI Y.a Y.b Y.c) (tI X.a X.b X.c) 3<0):=by
         rw[hDD];unfold zw;rw[if_pos (show X.it.name.toList=Y.name.toList by rw[hnm];rfl)];rfl
        have HCM:Hid (∀d os,zC 38 #[.agg #[.int .i64 Y.a,.int .i64 Y.b,.int .i64 Y.c],.agg #[.int .i64 X.a,.int .i64 X.b,.int .i64 X.c]] (grow (redrawn wr d) os) fun e w''=>e=.returned (.int .i64 (qp (tI Y.a Y.b Y.c) (tI X.a X.b X.c) 3))/\∃p:Regrown,w''=grow (redrawn wr p.d) p.os):=fun d os=>Calls.regrown_of (zfW _ _ _ _ _ _ _);have HDC:=zH hDC;have kx1:=cell_regrown c1;have kx2:=cell_regrown c2;have kx3:=cell_regrown c3;have kx4:=cell_regrown c4;have ky0:=cell_regrown y0;have ky1:=cell_regrown y1;have ky2:=cell_regrown y2;have ky3:=cell_regrown y3;clear c1 c2 c3 c4 y0 y1 y2 y3 hDD hDC hnm;generalize qp (tI Y.a Y.b Y.c) (tI X.a X.b X.c) 3=CM at *;refine wp_region_quiet_below zeY (by kernel_rfl) ?_
        repeat(quiet_step (first|(go_at_call 38;exact HCM.out _ _)))
        refine wpQuiet_nil ?_;intro _ hw';obtain⟨⟨dq,osq⟩,hw''⟩:=hw';subst hw'';have hbq:=zH (below_regrown wr dq osq);clear kx1 kx2 kx3 kx4 ky0 ky1 ky2 ky3 HCM;generalize grow (redrawn wr dq) osq=wq at *;go_wp2;go_meet
        case rel=>exact⟨by rw[HDC.out],hbq.out⟩
       ·have e1:(Y.name.toList==X.name.toList)=false:=by rw[beq_eq_false_iff_ne];exact fun e=>hnm (yE e)
        have hDC:D=decide (Lib.compareBytes X.name.data.toList Y.name.data.toList<0):=by
         rw[hDD];unfold zw;rw[if_neg (show ¬X.it.name.toList=Y.name.toList from fun e=>hnm (yE e.symm))];rfl
        have ha:=ZD X.name.data.toList Y.name.data.toList
        by_cases hls:Lib.compareBytes Y.name.data.toList X.name.data.toList<0
        ·have e2:Op.bytesLess Y.name.toList X.name.toList=true:=by rw[XO];exact decide_eq_true hls
         have HDF:Hid (D=false):=by show D=false;rw[hDC];exact decide_eq_false (by omega)
         clear hDC ha hls hDD hnm;go_quiet (fail);go_wp2;go_meet
         case rel=>exact⟨by rw[HDF.out],xd zF _⟩
        ·have e2:Op.bytesLess Y.name.toList X.name.toList=false:=by rw[XO];exact decide_eq_false hls
         have hne:Lib.compareBytes Y.name.data.toList X.name.data.toList≠0:=fun e=>hnm (yE (by rw[ByteArray.toList_eq,ByteArray.toList_eq];exact XJ _ _ e));have HDF:Hid (D=true):=by show D=true;rw[hDC];exact decide_eq_true (by omega)
         clear hDC ha hls hne hDD hnm;go_quiet (fail);go_wp2;go_meet
         case rel=>exact⟨by rw[HDF.out],xd zF _⟩
      ·have HDF:Hid (D=false):=by show D=false;rw[HD.out];exact decide_eq_false (by omega)
       have hiI:¬(0:Int)<(i:Int):=by omega
       clear HD;go_quiet (fail);go_wp2;go_meet
       case rel=>exact⟨by rw[HDF.out],xd zF _⟩
     case rest =>
      obtain⟨rfl,hbc⟩:=hcut;have HR5:=zH (qK HR4.out hbc);have HK5:=zH (HK4.out.below hbc HK4.out.lt);have HB5:Hid (zB w wc):=zT HB4.out hbc;have HB6:Hid (zB W3 wc):=zT HBZ.out hbc;have hszc:=HB5.out.size;clear hbc HB4 HBZ HR4 HK4 c1 c2 c3 c4;cases D with
      |true =>
       have hd:=HD.out;simp only[true_eq_decide_iff] at hd;obtain⟨j,hj⟩:∃j,j+1=i:=⟨i-1,by omega⟩;have HP2:Hid (qG acc X.it acc.length=qG acc X.it j):=by
        show _=_;rw[HP.out,<-hj,qG,if_pos (by have:=hd.2;rwa [<-hj] at this)]
       have hjw:IntKind.i64.wrap ((i:Int)-1)=(j:Int):=by rw[show (i:Int)-1=(j:Int) by omega,IntKind.wrap_i64];omega
       have hji:j<i:=by omega
       clear hd HD HP hj;go_wp2;go_roundw
       case rel=>exact⟨j,by omega,by go_num,HP2.out,HB6.out⟩
       case measure=>simp[intOf];omega
      |false =>
       have HPI:Hid (qG acc X.it acc.length=i):=by
        have hd:=HD.out;show _=_;rw[HP.out];cases i with
        |zero=>rfl
        |succ j =>rw[qG,if_neg];intro hc;simp only[false_eq_decide_iff] at hd;exact hd ⟨by omega,hc⟩
       clear HD HP;go_wp2_with (at_builtin;refine wpList_append_own_at _ rfl _ _ 52 rfl w.heap.size 62 i0 (.agg #[.string ⟨#[]⟩,.int .i64 0,.int .i64 0,.int .i64 0]) 4 40 Tryz.underlying52 hin hz0 hz1 hz2 rfl (by decide) _ _ _ rfl (HR5.out.alloc _) ⟨wc.heap.size,0,none⟩ 1 1 (zr ⟨⟨#[]⟩,0,0,0⟩) rfl rfl ?c1 ?c2 ?c3 ?c4 ?c5 ?_)
       case c1=>exact zbE wc
       case c2=>intro u hu;simp only[zr,List.mem_cons,List.not_mem_nil,or_false] at hu;rcases hu with rfl|rfl|rfl|rfl<;>rfl
       case c3=>unfold maxLen;omega
       case c4=>omega
       case c5=>simp;omega
       intro v7 w7 hown7 hgrow7 _ hloc7;have hb7:zB w w7:=(HB5.out.alloc hszc _).grown hgrow7 (by simp;omega) (fun k hk=>(HR5.out.lt k hk).1);have HK7:Hid (Blk w7 bx 59 #[.int .i64 X.kind,.string X.name,.int .i64 X.a,.int .i64 X.b,.int .i64 X.c,.string X.other,.slice ra TL rc]):=(HK5.out.alloc _).kept hgrow7 (fun e=>zay HR5.out HK5.out (by decide) e.symm);obtain⟨g7,cap,CUR,CS,rfl,hBg,hnc,hHG,hHINS,hHCELL,hHONE,hHMN,hHFIT⟩:=zgw (x:=X.it) (i:=i) hi hown7;have hne:bx≠g7:=fun e=>by
        have h1:w7.heap[g7]?=_:=e▸HK7.out;rw[hHG] at h1;simp at h1
       obtain⟨I1,hI1⟩:∃I1:Nat,I1=i+1:=⟨_,rfl⟩;rw[<-hI1] at hHINS hHMN hHFIT;have hwr:IntKind.i64.wrap ((i:Int)+1)=(I1:Int):=by rw[hI1];rw[IntKind.wrap_i64];omega
       have hub:I1<=acc.length+1:=by omega
       have hubI:(I1:Int)<=(acc.length:Int)+1:=by omega
       have hI0:(0:Int)<=(I1:Int):=by omega
       have hi0I:(0:Int)<=(i:Int):=by omega
       have hiI:(i:Int)<=(acc.length:Int)+1:=by omega
       have hiI1:(i:Int)<(acc.length:Int)+1:=by omega
       have h04:0<4:=by decide
       have HG:=zH hHG;have HINS:=zH hHINS;have HCELL:=zH hHCELL;have HONE:=zH hHONE;have HMN:=zH hHMN;have HFIT:=zH hHFIT;have HRP:Hid (R=yj acc X.it i):=by show _=_;rw[HRE.out,HPI.out]
       have HL2:Hid ((yj acc X.it i).length=acc.length+1):=Yu _ _ _;have hBd:Hid (zB w w7.drew):=hb7.drew;have HNE:=zH hne;clear hown7 hgrow7 hloc7 hb7 HRE HPI HR5 HK5 HB5 HB6 HR3 HKN HB3 hHG hHINS hHCELL hHONE hHMN hHFIT hne
       by_cases hend:i<acc.length
       ·have hc1:¬cap=I1:=by omega
        have hc2:¬cap=i:=by omega
        have hpos:Hid (∀(dp sp:Option Addr),dp=some ⟨g7,I1*4,none⟩->sp=some ⟨g7,i*4,none⟩->0<CS.length->dp=some ⟨g7,I1*4,none⟩/\∃ad:Addr,sp=some ad/\∀j v,CS[j]?=some v->w7.drew.cell? (ad.add j)=some v):=fun _ _ h1 h2 _=>⟨h1,⟨g7,i*4,none⟩,h2,fun j v hv=>by have h7:=HCELL.out j v hv;show w7.cell? (Addr.add ⟨g7,i*4,none⟩ j)=_;rw[<-h7,Zn]⟩;clear hI1;go_wp2_with fail;go_region_held_law (fun _=>True) (exact trivial) (first|(refine Xz rfl (.tmp 63) (.tmp 66) 52 52 rfl 62 Tryz.underlying52 4 YT (some ⟨g7,I1*4,none⟩) (some ⟨g7,i*4,none⟩) (acc.length+1-I1) (cap-I1) (acc.length+1-i) (cap-i) rfl rfl g7 (I1*4) CUR 62 HG.out CS HMN.out h04 (hpos.out _ _ rfl rfl) HFIT.out HONE.out w.heap.size w hBd.out hBg ?_;intro w8 u8 hg8 ho8 hb8));obtain⟨⟨d0,d1,d2,d3,q0,q1,q2,q3⟩,qf,qr⟩:=HINS.out w8 hg8.out;have f0:=qf (i*4);have f1:=qf (i*4+1);have f2:=qf (i*4+2);have f3:=qf (i*4+3);have HK8:Blk w8 bx 59 #[.int .i64 X.kind,.string X.name,.int .i64 X.a,.int .i64 X.b,.int .i64 X.c,.string X.other,.slice ra TL rc]:=(ho8.out bx HNE.out).trans HK7.out;have c1:_=some (Value.string X.name):=HK8.cell 1;have c2:_=some (Value.int .i64 X.a):=HK8.cell 2;have c3:_=some (Value.int .i64 X.b):=HK8.cell 3;have c4:_=some (Value.int .i64 X.c):=HK8.cell 4;have HQR:=zH qr;have HB9:=zH ((((hb8.setCell (p:=⟨g7,i*4,none⟩) hBg (.string X.name)).setCell (p:=⟨g7,i*4+1,none⟩) hBg (.int .i64 X.a)).setCell (p:=⟨g7,i*4+2,none⟩) hBg (.int .i64 X.b)).setCell (p:=⟨g7,i*4+3,none⟩) hBg (.int .i64 X.c));clear qf qr HK8 hg8 ho8 hb8 HINS HG HMN HFIT HONE HCELL hpos hBd HK7;go_wp2;go_roundw
        case rel=>exact⟨k+1,by omega,by go_num,by rw[HR.out,HRP.out,HL2.out];exact HQR.out,HB9.out⟩
        case measure=>simp[intOf];omega
       ·have hpos:Hid (∀(dp sp:Option Addr),0<CS.length->dp=some ⟨g7,I1*4,none⟩/\∃ad:Addr,sp=some ad/\∀j v,CS[j]?=some v->w7.drew.cell? (ad.add j)=some v):=fun _ _ h=>by have h7:=HMN.out;rw[h7] at h;exact absurd h (by show ¬0<min _ _*4;omega)
        have hc2:¬cap=i:=by omega
        by_cases hcc:cap=I1
        ·subst hcc;have HMN0:Hid (CS.length=Nat.min (acc.length+1-i) 0*4):=by show _=_;rw[HMN.out,show acc.length+1-cap=0 by omega]
         clear hI1;go_wp2_with fail;go_region_held_law (fun _=>True) (exact trivial) (first|(refine Xz rfl (.tmp 63) (.tmp 66) 52 52 rfl 62 Tryz.underlying52 4 YT _ _ _ _ _ _ rfl rfl g7 (cap*4) CUR 62 HG.out CS HMN0.out h04 (hpos.out _ _) HFIT.out HONE.out w.heap.size w hBd.out hBg ?_;intro w8 u8 hg8 ho8 hb8));obtain⟨⟨d0,d1,d2,d3,q0,q1,q2,q3⟩,qf,qr⟩:=HINS.out w8 hg8.out;have f0:=qf (i*4);have f1:=qf (i*4+1);have f2:=qf (i*4+2);have f3:=qf (i*4+3);have HK8:Blk w8 bx 59 #[.int .i64 X.kind,.string X.name,.int .i64 X.a,.int .i64 X.b,.int .i64 X.c,.string X.other,.slice ra TL rc]:=(ho8.out bx HNE.out).trans HK7.out;have c1:_=some (Value.string X.name):=HK8.cell 1;have c2:_=some (Value.int .i64 X.a):=HK8.cell 2;have c3:_=some (Value.int .i64 X.b):=HK8.cell 3;have c4:_=some (Value.int .i64 X.c):=HK8.cell 4;have HQR:=zH qr;have HB9:=zH ((((hb8.setCell (p:=⟨g7,i*4,none⟩) hBg (.string X.name)).setCell (p:=⟨g7,i*4+1,none⟩) hBg (.int .i64 X.a)).setCell (p:=⟨g7,i*4+2,none⟩) hBg (.int .i64 X.b)).setCell (p:=⟨g7,i*4+3,none⟩) hBg (.int .i64 X.c));clear qf qr HK8 hg8 ho8 hb8 HINS HG HMN HFIT HONE HCELL hpos hBd HK7;go_wp2;go_roundw
         case rel=>exact⟨k+1,by omega,by go_num,by rw[HR.out,HRP.out,HL2.out];exact HQR.out,HB9.out⟩
         case measure=>simp[intOf];omega
        ·clear hI1;go_wp2_with fail;go_region_held_law (fun _=>True) (exact trivial) (first|(refine Xz rfl (.tmp 63) (.tmp 66) 52 52 rfl 62 Tryz.underlying52 4 YT _ _ _ _ _ _ rfl rfl g7 (I1*4) CUR 62 HG.out CS HMN.out h04 (hpos.out _ _) HFIT.out HONE.out w.heap.size w hBd.out hBg ?_;intro w8 u8 hg8 ho8 hb8));obtain⟨⟨d0,d1,d2,d3,q0,q1,q2,q3⟩,qf,qr⟩:=HINS.out w8 hg8.out;have f0:=qf (i*4);have f1:=qf (i*4+1);have f2:=qf (i*4+2);have f3:=qf (i*4+3);have HK8:Blk w8 bx 59 #[.int .i64 X.kind,.string X.name,.int .i64 X.a,.int .i64 X.b,.int .i64 X.c,.string X.other,.slice ra TL rc]:=(ho8.out bx HNE.out).trans HK7.out;have c1:_=some (Value.string X.name):=HK8.cell 1;have c2:_=some (Value.int .i64 X.a):=HK8.cell 2;have c3:_=some (Value.int .i64 X.b):=HK8.cell 3;have c4:_=some (Value.int .i64 X.c):=HK8.cell 4;have HQR:=zH qr;have HB9:=zH ((((hb8.setCell (p:=⟨g7,i*4,none⟩) hBg (.string X.name)).setCell (p:=⟨g7,i*4+1,none⟩) hBg (.int .i64 X.a)).setCell (p:=⟨g7,i*4+2,none⟩) hBg (.int .i64 X.b)).setCell (p:=⟨g7,i*4+3,none⟩) hBg (.int .i64 X.c));clear qf qr HK8 hg8 ho8 hb8 HINS HG HMN HFIT HONE HCELL hpos hBd HK7;go_wp2;go_roundw
         case rel=>exact⟨k+1,by omega,by go_num,by rw[HR.out,HRP.out,HL2.out];exact HQR.out,HB9.out⟩
         case measure=>simp[intOf];omega
   ·have hRe:R=acc:=by rw[HSTK.out,if_neg hk1]
    have HR7:Hid (W3.ownsRow w.heap.size 62 4 (.slice oa acc.length oc) R.length (zf R)):=by
     show World.ownsRow _ _ _ _ _ _ _;rw[hRe];exact HR3.out
    clear HSTK hRe HR3;go_wp2;go_roundw
    case rel=>exact⟨k+1,by omega,by go_num,by rw[HR.out];exact HR7.out,HB3.out⟩
    case measure=>simp[intOf];omega
  ·have hni:¬(k:Int)<(ls.length:Int):=by omega
   obtain rfl:k=ls.length:=by omega
   have HROW:=zH hrow;have HBW:=zH hbw;clear hrow hbw HST HI;go_wp2;go_ret;exact⟨_,rfl,by rw[<-HEN.out];exact HROW.out,HBW.out⟩
end
section
open Go.RowKit Go.Deep Sv
theorem zii{l:List Span}(hl:Rg l)(x:It):(xT l x.a x.b x.c=true/\qL l x)\/(xT l x.a x.b x.c=false/\¬qL l x):=by
 unfold xT qL InV
 by_cases h:(0<=x.a/\x.a<=999)/\(0<=x.b/\x.b<=999)/\0<=x.c/\x.c<=999
 ·rw[if_pos (by simp[okP,h])]
  by_cases hm:mem l (yV x.a.toNat x.b.toNat x.c.toNat)
  ·exact Or.inl ⟨(xi hl).2 hm,h,hm⟩
  ·refine Or.inr ⟨?_,fun e=>hm e.2⟩;rw[Bool.eq_false_iff];exact fun e=>hm ((xi hl).1 e)
 ·exact Or.inr ⟨if_neg (by simp[okP];omega),fun e=>h e.1⟩
open Classical in
noncomputable def ye(its:List It)(name:ByteArray)(rng:List Span)(k:Nat):List Nat:=(List.range k).filter fun i=>decide ((its.getD i default).name=name/\qL rng (its.getD i default))
theorem zbg{its:List It}{name:ByteArray}{rng:List Span}{k:Nat}(h1:(its.getD k default).name=name)(h2:qL rng (its.getD k default)):ye its name rng (k+1)=ye its name rng k++[k]:=by
 unfold ye;rw[List.range_succ,List.filter_append];congr 1;rw[List.filter_cons,if_pos (by simpa using ⟨h1,h2⟩),List.filter_nil]
theorem zcQ{its:List It}{name:ByteArray}{rng:List Span}{k:Nat}(h:¬((its.getD k default).name=name/\qL rng (its.getD k default))):ye its name rng (k+1)=ye its name rng k:=by
 unfold ye;rw[List.range_succ,List.filter_append,List.filter_cons,if_neg (by simpa using h),List.filter_nil,List.append_nil]
theorem zbc(its:List It)(name:ByteArray)(rng:List Span)(k:Nat):(ye its name rng k).length<=k:=by
 unfold ye;exact Nat.le_trans (List.length_filter_le _ _) (by simp)
theorem zal{its:List It}(h:Asc its)(name:ByteArray)(rng:List Span):ye its name rng its.length=zO its name rng:=by
 unfold ye zO;refine zbB _ _ _ (zcd its name) fun i hi=>?_;simp only[decide_eq_true_eq];rw[Y1 h name i hi]
theorem ZS(its:List It)(name:ByteArray)(rng:List Span)(hr:Rg rng)(iv rv:Value)(w:World)(h:zS w iv its)(hl:its.length<=100000)(hv:NsAt w rv (tp rng)) :
  zC 19 #[iv,.string name,rv] w fun e w'=>∃v',e=.returned v'/\w'.ownsRow w.heap.size 3 1 v' (ye its name rng its.length).length (zn ((ye its name rng its.length).map fun (k:Nat)=>(k:Int)))/\zB w w':=by
 obtain⟨va,vc,rfl⟩:=hv.form;obtain⟨ia,ic,rfl,-⟩:=h.form;obtain⟨i0,hin,hz0,hz1,hz2⟩:=info_parts xM;have HHAS:Hid (∀W (X:It),zB w W->zR 39 #[.slice va (tp rng).length vc,.agg #[.int .i64 X.a,.int .i64 X.b,.int .i64 X.c]] W (.bool (xT rng X.a X.b X.c))):=fun W X hW=>zeH rng hr _ X.a X.b X.c W (hv.below hW zN);have HBF:=zH (fun X=>zii hr X);have HI:=zH h;have HY:=zH (fun k=>@zbg its name rng k);have HNO:=zH (fun k=>@zcQ its name rng k);have HLE:=zH (zbc its name rng);have HS0:Hid (ye its name rng 0=[]):=by show _=_;rfl
 clear h hv hr;generalize ye its name rng=am at *;generalize (tp rng).length=tl at *;go_enter Tryz.func19,Tryz.ntmps19;go_wp2_with fail;go_loopw [7,12] (fun oV iV wr=>∃(i:Nat),i<=its.length/\iV=.int .i64 i/\wr.ownsRow w.heap.size 3 1 oV (am i).length (zn ((am i).map fun (k:Nat)=>(k:Int)))/\zB w wr) (fun _ iV _=>its.length-(intOf iV).toNat)
 case atStart=>exact⟨0,Nat.zero_le _,rfl,by rw[HS0.out];exact World.ownsRow_nil _ _ _ _,Below.refl _ _⟩
 case round =>
  obtain⟨i,hih,rfl,hrow,hbw⟩:=hrel;obtain⟨oa,oc,rfl,-⟩:=(zD hrow).form;have HROW:=zH hrow;have HBW:=zH hbw;have hale:=HLE.out i
  by_cases hlt:i<its.length
  ·obtain⟨g,cap',e,hg,c0,c1,c2,c3⟩:=(show zS wr (.slice ia its.length ic) its from HI.out.below hbw zN).at i hlt;simp at e;obtain⟨rfl,rfl⟩:=e;have hii0:(0:Int)<=(i:Int):=by omega
   have hii1:(i:Int)<(its.length:Int):=by omega
   have hY:=HY.out i;have hN:=HNO.out i;generalize its.getD i default=X at *;have HYI:=zH hY;have HNI:=zH hN;have HBX:=HBF.out X;have HHX:=zH (fun W hW=>HHAS.out W X hW);have hA:zB wr (wr.alloc (.cells #[.string X.name,.int .i64 X.a,.int .i64 X.b,.int .i64 X.c] 62)):=zF.alloc zN _;have HKN:=zH (Blk.new wr 62 #[.string X.name,.int .i64 X.a,.int .i64 X.b,.int .i64 X.c]);have HR3:=zH (qK hrow hA);have HB3:Hid (zB w (wr.alloc (.cells #[.string X.name,.int .i64 X.a,.int .i64 X.b,.int .i64 X.c] 62))):=zT hbw hA;clear hrow hbw hA hY hN HROW HBW HY HNO HHAS HBF;go_upto_region 5 with fail;generalize wr.alloc (.cells #[.string X.name,.int .i64 X.a,.int .i64 X.b,.int .i64 X.c] 62)=W3 at *;clear c0 c1 c2 c3;have c0:=HKN.out.cell 0;have c1:=HKN.out.cell 1;have c2:=HKN.out.cell 2;have c3:=HKN.out.cell 3
   by_cases hnm:X.name=name
   ·have hnb:(X.name.toList==name.toList)=true:=by rw[hnm];simp
    rcases HBX with ⟨hbt,hft⟩|⟨hbt,hft⟩
    ·have HA:Hid (am (i+1)=am i++[i]):=HYI.out hnm hft;have HQ:Hid (∀W,zB w W->zR 39 #[.slice va tl vc,.agg #[.int .i64 X.a,.int .i64 X.b,.int .i64 X.c]] W (.bool true)):=fun W hW=>by have:=HHX.out W hW;rw[hbt] at this;exact this
     clear HHX hbt hft hnm HYI HNI;go_wp2_with fail;refine(HQ.out _ HB3.out).mono ?_;rintro e x1 ⟨rfl,hb1⟩;have HROW2:=zH (qK HR3.out hb1);have HBX:Hid (zB w x1):=zT HB3.out hb1;have hxs:=HBX.out.size;clear hb1 HR3 HB3 HQ c0 c1 c2 c3;go_wp2_with (at_builtin;refine wpList_append_own_at _ rfl _ _ 27 rfl w.heap.size 3 i0 (.int .i64 0) 1 8 Tryz.underlying27 hin hz0 hz1 hz2 rfl (by decide) _ _ _ rfl (HROW2.out.alloc _) ⟨x1.heap.size,0,none⟩ 1 1 [.int .i64 i] rfl rfl ?c1 ?c2 ?c3 ?c4 ?c5 ?_)
     case c1=>exact xK _ _ _
     case c2=>exact xx _
     case c3=>unfold maxLen;omega
     case c4=>omega
     case c5=>simp;omega
     intro v7 w7 hown7 hgrow7 _ hloc7;have HR7:Hid (w7.ownsRow w.heap.size 3 1 v7 (am (i+1)).length (zn ((am (i+1)).map fun (k:Nat)=>(k:Int)))):=by
      show World.ownsRow _ _ _ _ _ _ _;rw[HA.out,List.map_append,List.map_cons,List.map_nil,xm,List.length_append];exact hown7
     have HB7:Hid (zB w w7):=(zL HBX.out).grown hgrow7 (by simp;omega) (fun k hk=>(HROW2.out.lt k hk).1);clear hown7 hgrow7 hloc7 HROW2 HBX;go_wp2;go_roundw
     case rel=>exact⟨i+1,by omega,by go_num,HR7.out,HB7.out⟩
     case measure=>simp[intOf];omega
    ·have HA:Hid (am (i+1)=am i):=HNI.out fun e=>hft e.2;have HQ:Hid (∀W,zB w W->zR 39 #[.slice va tl vc,.agg #[.int .i64 X.a,.int .i64 X.b,.int .i64 X.c]] W (.bool false)):=fun W hW=>by have:=HHX.out W hW;rw[hbt] at this;exact this
     clear HHX hbt hft hnm HYI HNI;go_wp2_with fail;refine(HQ.out _ HB3.out).mono ?_;rintro e x1 ⟨rfl,hb1⟩;have HR7:Hid (x1.ownsRow w.heap.size 3 1 (.slice oa (am i).length oc) (am (i+1)).length (zn ((am (i+1)).map fun (k:Nat)=>(k:Int)))):=by
      show World.ownsRow _ _ _ _ _ _ _;rw[HA.out];exact qK HR3.out hb1
     have HBX:Hid (zB w x1):=zT HB3.out hb1;clear hb1 HR3 HB3 HQ c0 c1 c2 c3;go_wp2;go_roundw
     case rel=>exact⟨i+1,by omega,by go_num,HR7.out,HBX.out⟩
     case measure=>simp[intOf];omega
   ·have hnb:(X.name.toList==name.toList)=false:=by rw[beq_eq_false_iff_ne];exact fun e=>hnm (yE e)
    have HA:Hid (am (i+1)=am i):=HNI.out fun e=>hnm e.1;have HR7:Hid (W3.ownsRow w.heap.size 3 1 (.slice oa (am i).length oc) (am (i+1)).length (zn ((am (i+1)).map fun (k:Nat)=>(k:Int)))):=by
     show World.ownsRow _ _ _ _ _ _ _;rw[HA.out];exact HR3.out
    clear HHX HBX hnm HYI HNI HR3;go_wp2;go_roundw
    case rel=>exact⟨i+1,by omega,by go_num,HR7.out,HB3.out⟩
    case measure=>simp[intOf];omega
  ·have hni:¬(i:Int)<(its.length:Int):=by omega
   obtain rfl:i=its.length:=by omega
   clear hrow hbw HHAS HBF HY HNO;go_wp2;go_ret;exact⟨_,rfl,HROW.out,HBW.out⟩
end
end Go.Proofs.YtlamemjfaogjmaaGreatDoor
