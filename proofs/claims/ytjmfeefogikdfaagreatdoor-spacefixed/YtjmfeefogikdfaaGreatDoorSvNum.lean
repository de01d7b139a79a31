/- Parse, whole; number, next, lead. -/
import Derived.Test.YtjmfeefogikdfaaGreatDoorSvNot
set_option maxHeartbeats 8000000
set_option maxRecDepth 100000
namespace Go.Proofs.YtjmfeefogikdfaaGreatDoor
section
open Go.RowKit Sv
theorem zdk{l m:List zh}{i j:Nat}(hi:i<l.length)(hj:j<m.length):xh (l.drop i) (m.drop j)=(if max (sp l i).1 (sp m j).1<min (sp l i).2 (sp m j).2 then [(max (sp l i).1 (sp m j).1,min (sp l i).2 (sp m j).2)] else [])++(if (sp l i).2<(sp m j).2 then xh (l.drop (i+1)) (m.drop j) else xh (l.drop i) (m.drop (j+1))):=by
 rw[List.drop_eq_getElem_cons hi,List.drop_eq_getElem_cons hj,xh,<-Qo l i hi,<-Qo m j hj]
theorem zey(l m:List zh)(hl:Rg l)(hm:Rg m)(v u:Value)(w:World)(hv:zi w v l)(hu:zi w u m) :
  zC 145 #[.agg #[v],.agg #[u]] w (QL w (nd l m)):=by
 obtain⟨i0,hin,hz0,hz1,hz2⟩:=info_parts zdo;obtain⟨a,cap,rfl⟩:=hv.form;obtain⟨b,cbp,rfl⟩:=hu.form;have hlen:=Ya hl;have hmlen:=Ya hm;have hnlen:=Ya (YD hl hm);have HL:=zH hl;have HM:=zH hm;have HV:=zH hv;have HU:=zH hu;clear hl hv hm hu;go_enter Tryz.func145,Tryz.ntmps145;go_wp2_with fail;obtain⟨W0,hW0⟩:∃W0,((w.alloc (.cells #[.slice a l.length cap] 96)).alloc (.cells #[.slice b m.length cbp] 96)).alloc (.cells #[.slice none 0 0] 96)=W0:=⟨_,rfl⟩;have hbox:zbH w W0 (.slice a l.length cap) (.slice b m.length cbp) (.slice none 0 0):=hW0▸J2 w _ _ _ _ _ _;have hB0:=hbox.below;have hs0:=hbox.size;have hr0:=hbox.c0;have ho0:=hbox.c1;have hc0:=hbox.c2;have hf0:=hbox.f2;clear hbox;have HV0:Hid (zi W0 (.slice a l.length cap) l):=HV.out.below hB0 zN;have HU0:Hid (zi W0 (.slice b m.length cbp) m):=HU.out.below hB0 zN;have HB0:=zH hB0;have HC0:=zH hc0;have HF0:=zH hf0;have HR0:=zH hr0;have HO0:=zH ho0;rw[hW0];clear hB0 hc0 hf0 hW0 HV HU hr0 ho0;go_loopw [5,6,7] (fun bV iV jV wr=>∃(i j:Nat) (acc:List zh),i<=l.length/\j<=m.length/\iV=.int .i64 i/\jV=.int .i64 j/\acc++xh (l.drop i) (m.drop j)=nd l m/\wr.ownsRow (w.heap.size+3) 217 2 bV acc.length (qM acc)/\Below (w.heap.size+3) W0 wr) (fun _ iV jV _=>(l.length-(intOf iV).toNat)+(m.length-(intOf jV).toNat))
 case atStart=>exact⟨0,0,[],Nat.zero_le _,Nat.zero_le _,rfl,rfl,rfl,World.ownsRow_nil _ _ _ _,Below.refl _ _⟩
 case round =>
  obtain⟨i,j,acc,hi,hj,rfl,rfl,hres,hrow,hbr⟩:=hrel;obtain⟨ra,rc,rfl⟩:=KW hrow;have hal:acc.length<=(nd l m).length:=by rw[<-hres];simp
  have hws:=hbr.size;rw[hs0] at hws;have hr1:=(hbr.cell (p:=⟨w.heap.size,0,none⟩) (by show w.heap.size<_;omega)).trans HR0.out;have ho1:=(hbr.cell (p:=⟨w.heap.size+1,0,none⟩) (by show w.heap.size+1<_;omega)).trans HO0.out;have HROW:=zH hrow;have HBR:=zH hbr;have HR:=zH hres;clear hrow hbr hres
  by_cases hlt:i<l.length
  ·by_cases hjt:j<m.length
   ·obtain⟨g,cap',e1,hg,c0,c1⟩:=(HV0.out.below HBR.out (Nat.le_of_eq hs0)).cells i hlt;simp at e1;obtain⟨rfl,rfl⟩:=e1;obtain⟨g2,cap2,e2,hg2,d0,d1⟩:=(HU0.out.below HBR.out (Nat.le_of_eq hs0)).cells j hjt;simp at e2;obtain⟨rfl,rfl⟩:=e2;have hin1:i*2<i*2+1:=Nat.lt_succ_self _;have SC:Hid (∀W,zB wr W->(W.cell? ⟨w.heap.size,0,none⟩=some (.slice (some ⟨g,0,none⟩) l.length cap)/\W.cell? ⟨w.heap.size+1,0,none⟩=some (.slice (some ⟨g2,0,none⟩) m.length cbp)/\W.cell? ⟨g,i*2,none⟩=some (.int .i64 ((sp l i).1:Int))/\W.cell? ⟨g,i*2+1,none⟩=some (.int .i64 ((sp l i).2:Int))/\W.cell? ⟨g2,j*2,none⟩=some (.int .i64 ((sp m j).1:Int))/\W.cell? ⟨g2,j*2+1,none⟩=some (.int .i64 ((sp m j).2:Int)))):=fun W hb =>
     ⟨(hb.cell (p:=⟨w.heap.size,0,none⟩) (by show w.heap.size<_;omega)).trans hr1,(hb.cell (p:=⟨w.heap.size+1,0,none⟩) (by show w.heap.size+1<_;omega)).trans ho1,(hb.cell (p:=⟨g,i*2,none⟩) hg).trans c0,(hb.cell (p:=⟨g,i*2+1,none⟩) hg).trans c1,(hb.cell (p:=⟨g2,j*2,none⟩) hg2).trans d0,(hb.cell (p:=⟨g2,j*2+1,none⟩) hg2).trans d1⟩
    go_wp2_with fail;go_region_held3 (fun w'=>w'.cell? ⟨w.heap.size,0,none⟩=some (.slice (some ⟨g,0,none⟩) l.length cap)/\w'.cell? ⟨w.heap.size+1,0,none⟩=some (.slice (some ⟨g2,0,none⟩) m.length cbp)/\w'.cell? ⟨g,i*2,none⟩=some (.int .i64 ((sp l i).1:Int))/\w'.cell? ⟨g,i*2+1,none⟩=some (.int .i64 ((sp l i).2:Int))/\w'.cell? ⟨g2,j*2,none⟩=some (.int .i64 ((sp m j).1:Int))/\w'.cell? ⟨g2,j*2+1,none⟩=some (.int .i64 ((sp m j).2:Int))) ((refine SC.out _ ?_;repeat' (first|exact Below.refl _ _|refine Below.drew ?_|refine Below.alloc ?_ (by simp) _|refine Below.alloc ?_ (by simp;omega) _|refine Below.setCell (p:=_) ?_ (by simp) _))) (first|fail)
    ·have h2:=ze8 wr (.int .i64 ((sp l i).1:Int)) (.int .i64 ((sp l i).2:Int)) (.int .i64 ((sp m j).1:Int)) (.int .i64 ((sp m j).2:Int)) 217 217;generalize ((wr.alloc (.cells #[.int .i64 ((sp l i).1:Int),.int .i64 ((sp l i).2:Int)] 217)).alloc (.cells #[.int .i64 ((sp m j).1:Int),.int .i64 ((sp m j).2:Int)] 217)).drew=W1 at *;have hres:=HR.out;rw[zdk hlt hjt] at hres;generalize (sp l i).1=A at *;generalize (sp l i).2=T at *;generalize (sp m j).1=C at *;generalize (sp m j).2=D at *;have s0:=h2.s0;have s1:=h2.s1;have t0:=h2.t0;have t1:=h2.t1;have HRS:=zH hres;clear c0 c1 d0 d1 hres HR;go_wp2_with fail;go_quiet (fail);have h3:=h2.drewN nq;generalize W1.drewN nq=W2 at *;have HROW2:=zH (zbk HROW.out h3.below zN);have hb2:=h3.below;have hws2:=hb2.size;have hls:=h3.ls;have hlt2:=h3.lt;have hbs:=h3.hs;have hbt:=h3.ht;have HB2:Hid (Below (w.heap.size+3) W0 W2):=HBR.out.trans (hb2.mono hws);have u1:=h3.s1;have u3:=h3.t1;clear hb2 s0 s1 t0 t1 h2 h3 HBR SC
     by_cases hmx:max A C<min T D
     ·have hmx':max (A:Int) (C:Int)<min (T:Int) (D:Int):=by omega
      have hres:=HRS.out;rw[if_pos hmx] at hres;have hal2:(acc++[(max A C,min T D)]).length<=(nd l m).length:=by rw[<-hres,<-List.append_assoc];simp
      simp at hal2;have eM:((max A C:Nat):Int)=max (A:Int) (C:Int):=by omega
      have eN:((min T D:Nat):Int)=min (T:Int) (D:Int):=by omega
      have HEM:=zH eM;have HEN:=zH eN;have HRS2:=zH hres;clear hres HRS eM eN;go_wp2_with (at_builtin;refine wpList_append_own_at _ rfl _ _ 94 rfl (w.heap.size+3) 217 i0 (.agg #[.int .i64 0,.int .i64 0]) 2 16 Tryz.underlying94 hin hz0 hz1 hz2 rfl (by decide) _ _ _ rfl (HROW2.out.alloc _) ⟨W2.heap.size,0,none⟩ 1 1 [.int .i64 (max (A:Int) (C:Int)),.int .i64 (min (T:Int) (D:Int))] rfl rfl (Ky _ _ _ _) ?c2 ?c3 ?c4 ?c5 ?_)
      case c2=>intro u hu;simp at hu;rcases hu with rfl|rfl<;>rfl
      case c3=>unfold maxLen;omega
      case c4=>omega
      case c5=>show w.heap.size+3<=(World.alloc _ _).heap.size;rw[World.size_alloc];omega
      intro v7 w7 hown7 hgrow7 _ hloc7;have hb7:Below (w.heap.size+3) W0 w7:=((HB2.out.alloc (by omega) _).grown hgrow7 (by rw[World.size_alloc];omega) (fun k hk=>(HROW2.out.lt k hk).1));have x1:w7.cell? ⟨wr.heap.size,1,none⟩=some (.int .i64 T):=by
       rw[ZW hgrow7 (by rw[World.size_alloc];omega) (Y2 HROW.out hbs)];exact(((Below.refl W2.heap.size W2).alloc zN _).cell (p:=⟨wr.heap.size,1,none⟩) hls).trans u1
      have x3:w7.cell? ⟨wr.heap.size+1,1,none⟩=some (.int .i64 D):=by
       rw[ZW hgrow7 (by rw[World.size_alloc];omega) (Y2 HROW.out hbt)];exact(((Below.refl W2.heap.size W2).alloc zN _).cell (p:=⟨wr.heap.size+1,1,none⟩) hlt2).trans u3
      have e7:(acc++[(max A C,min T D)]).length=acc.length+1:=by simp
      have es:qM (acc++[(max A C,min T D)])=qM acc++[.int .i64 (max (A:Int) (C:Int)),.int .i64 (min (T:Int) (D:Int))]:=by rw[X7,<-HEM.out,<-HEN.out];rfl
      rw[<-es,<-e7] at hown7;have HO7:=zH hown7;have HB7:=zH hb7;clear hown7 hgrow7 hloc7 hb7 e7 es u1 u3
      by_cases hTD:T<D
      ·have hres:=HRS2.out;rw[if_pos hTD,<-List.append_assoc] at hres;have HRS3:=zH hres;clear hres HRS2;go_wp2;go_roundw
       case rel=>exact⟨i+1,j,acc++[(max A C,min T D)],by omega,by omega,rfl,rfl,HRS3.out,HO7.out,HB7.out⟩
       case measure=>simp[intOf];omega
      ·have hres:=HRS2.out;rw[if_neg hTD,<-List.append_assoc] at hres;have HRS3:=zH hres;clear hres HRS2;go_wp2;go_roundw
       case rel=>exact⟨i,j+1,acc++[(max A C,min T D)],by omega,by omega,rfl,rfl,HRS3.out,HO7.out,HB7.out⟩
       case measure=>simp[intOf];omega
     ·have hmx':¬max (A:Int) (C:Int)<min (T:Int) (D:Int):=by omega
      have hres:=HRS.out;rw[if_neg hmx,List.nil_append] at hres;have HRS2:=zH hres;clear hres HRS
      by_cases hTD:T<D
      ·have hres:=HRS2.out;rw[if_pos hTD] at hres;have HRS3:=zH hres;clear hres HRS2;go_wp2;go_roundw
       case rel=>exact⟨i+1,j,acc,by omega,by omega,rfl,rfl,HRS3.out,HROW2.out,HB2.out⟩
       case measure=>simp[intOf];omega
      ·have hres:=HRS2.out;rw[if_neg hTD] at hres;have HRS3:=zH hres;clear hres HRS2;go_wp2;go_roundw
       case rel=>exact⟨i,j+1,acc,by omega,by omega,rfl,rfl,HRS3.out,HROW2.out,HB2.out⟩
       case measure=>simp[intOf];omega
    ·have h2:=zho wr (.int .i64 ((sp l i).1:Int)) (.int .i64 ((sp l i).2:Int)) (.int .i64 ((sp m j).1:Int)) (.int .i64 ((sp m j).2:Int)) 217 217;generalize ((wr.alloc (.cells #[.int .i64 ((sp m j).1:Int),.int .i64 ((sp m j).2:Int)] 217)).alloc (.cells #[.int .i64 ((sp l i).1:Int),.int .i64 ((sp l i).2:Int)] 217)).drew=W1 at *;have hres:=HR.out;rw[zdk hlt hjt] at hres;generalize (sp l i).1=A at *;generalize (sp l i).2=T at *;generalize (sp m j).1=C at *;generalize (sp m j).2=D at *;have s0:=h2.s0;have s1:=h2.s1;have t0:=h2.t0;have t1:=h2.t1;have HRS:=zH hres;clear c0 c1 d0 d1 hres HR;go_wp2_with fail;go_quiet (fail);have h3:=h2.drewN nq;generalize W1.drewN nq=W2 at *;have HROW2:=zH (zbk HROW.out h3.below zN);have hb2:=h3.below;have hws2:=hb2.size;have hls:=h3.ls;have hlt2:=h3.lt;have hbs:=h3.hs;have hbt:=h3.ht;have HB2:Hid (Below (w.heap.size+3) W0 W2):=HBR.out.trans (hb2.mono hws);have u1:=h3.s1;have u3:=h3.t1;clear hb2 s0 s1 t0 t1 h2 h3 HBR SC
     by_cases hmx:max A C<min T D
     ·have hmx':max (A:Int) (C:Int)<min (T:Int) (D:Int):=by omega
      have hres:=HRS.out;rw[if_pos hmx] at hres;have hal2:(acc++[(max A C,min T D)]).length<=(nd l m).length:=by rw[<-hres,<-List.append_assoc];simp
      simp at hal2;have eM:((max A C:Nat):Int)=max (A:Int) (C:Int):=by omega
      have eN:((min T D:Nat):Int)=min (T:Int) (D:Int):=by omega
      have HEM:=zH eM;have HEN:=zH eN;have HRS2:=zH hres;clear hres HRS eM eN;go_wp2_with (at_builtin;refine wpList_append_own_at _ rfl _ _ 94 rfl (w.heap.size+3) 217 i0 (.agg #[.int .i64 0,.int .i64 0]) 2 16 Tryz.underlying94 hin hz0 hz1 hz2 rfl (by decide) _ _ _ rfl (HROW2.out.alloc _) ⟨W2.heap.size,0,none⟩ 1 1 [.int .i64 (max (A:Int) (C:Int)),.int .i64 (min (T:Int) (D:Int))] rfl rfl (Ky _ _ _ _) ?c2 ?c3 ?c4 ?c5 ?_)
      case c2=>intro u hu;simp at hu;rcases hu with rfl|rfl<;>rfl
      case c3=>unfold maxLen;omega
      case c4=>omega
      case c5=>show w.heap.size+3<=(World.alloc _ _).heap.size;rw[World.size_alloc];omega
      intro v7 w7 hown7 hgrow7 _ hloc7;have hb7:Below (w.heap.size+3) W0 w7:=((HB2.out.alloc (by omega) _).grown hgrow7 (by rw[World.size_alloc];omega) (fun k hk=>(HROW2.out.lt k hk).1));have x1:w7.cell? ⟨wr.heap.size+1,1,none⟩=some (.int .i64 T):=by
       rw[ZW hgrow7 (by rw[World.size_alloc];omega) (Y2 HROW.out hbs)];exact(((Below.refl W2.heap.size W2).alloc zN _).cell (p:=⟨wr.heap.size+1,1,none⟩) hls).trans u1
      have x3:w7.cell? ⟨wr.heap.size,1,none⟩=some (.int .i64 D):=by
       rw[ZW hgrow7 (by rw[World.size_alloc];omega) (Y2 HROW.out hbt)];exact(((Below.refl W2.heap.size W2).alloc zN _).cell (p:=⟨wr.heap.size,1,none⟩) hlt2).trans u3
      have e7:(acc++[(max A C,min T D)]).length=acc.length+1:=by simp
      have es:qM (acc++[(max A C,min T D)])=qM acc++[.int .i64 (max (A:Int) (C:Int)),.int .i64 (min (T:Int) (D:Int))]:=by rw[X7,<-HEM.out,<-HEN.out];rfl
      rw[<-es,<-e7] at hown7;have HO7:=zH hown7;have HB7:=zH hb7;clear hown7 hgrow7 hloc7 hb7 e7 es u1 u3
      by_cases hTD:T<D
      ·have hres:=HRS2.out;rw[if_pos hTD,<-List.append_assoc] at hres;have HRS3:=zH hres;clear hres HRS2;go_wp2;go_roundw
       case rel=>exact⟨i+1,j,acc++[(max A C,min T D)],by omega,by omega,rfl,rfl,HRS3.out,HO7.out,HB7.out⟩
       case measure=>simp[intOf];omega
      ·have hres:=HRS2.out;rw[if_neg hTD,<-List.append_assoc] at hres;have HRS3:=zH hres;clear hres HRS2;go_wp2;go_roundw
       case rel=>exact⟨i,j+1,acc++[(max A C,min T D)],by omega,by omega,rfl,rfl,HRS3.out,HO7.out,HB7.out⟩
       case measure=>simp[intOf];omega
     ·have hmx':¬max (A:Int) (C:Int)<min (T:Int) (D:Int):=by omega
      have hres:=HRS.out;rw[if_neg hmx,List.nil_append] at hres;have HRS2:=zH hres;clear hres HRS
      by_cases hTD:T<D
      ·have hres:=HRS2.out;rw[if_pos hTD] at hres;have HRS3:=zH hres;clear hres HRS2;go_wp2;go_roundw
       case rel=>exact⟨i+1,j,acc,by omega,by omega,rfl,rfl,HRS3.out,HROW2.out,HB2.out⟩
       case measure=>simp[intOf];omega
      ·have hres:=HRS2.out;rw[if_neg hTD] at hres;have HRS3:=zH hres;clear hres HRS2;go_wp2;go_roundw
       case rel=>exact⟨i,j+1,acc,by omega,by omega,rfl,rfl,HRS3.out,HROW2.out,HB2.out⟩
       case measure=>simp[intOf];omega
   ·obtain rfl:j=m.length:=by omega
    have hres:=HR.out;rw[List.drop_length,zmU,List.append_nil] at hres;have hc1:=(HBR.out.cell (p:=⟨w.heap.size+1+1,0,none⟩) (by show w.heap.size+1+1<_;omega)).trans HC0.out;have hf1:=(HBR.out.frozen (p:=⟨w.heap.size+1+1,0,none⟩) (by show w.heap.size+1+1<_;omega)).trans HF0.out;have hown8:(wr.setCell ⟨w.heap.size+1+1,0,none⟩ (.slice ra acc.length rc)).ownsRow (w.heap.size+3) 217 2 (.slice ra acc.length rc) acc.length (qM acc):=KN HROW.out (by omega);have HG8:Hid (∀g,(Value.slice ra acc.length rc).ownBlock=some g->w.heap.size<=g):=fun g hg=>by have:=(hown8.lt g hg).1;omega
    have HS8:Hid (zi (wr.setCell ⟨w.heap.size+1+1,0,none⟩ (.slice ra acc.length rc)) (.slice ra acc.length rc) (nd l m)):=hres▸Xx hown8;have HW7:=zH ((HB0.out.trans (HBR.out.mono (Nat.le_add_right _ 3))).setCell (p:=⟨w.heap.size+1+1,0,none⟩) (by show w.heap.size<=w.heap.size+1+1;omega) (.slice ra acc.length rc));have hr8:(wr.setCell ⟨w.heap.size+1+1,0,none⟩ (.slice ra acc.length rc)).cell? ⟨w.heap.size+1+1,0,none⟩=some (.slice ra acc.length rc):=World.cell?_setCell_same' _ _ _ (by rw[hc1];rfl);have HR8:=zH hr8;clear hown8 hr8 hres;go_wp2;have hr8:=HR8.out;refine bodyPost_ret (v:=.agg #[.slice ra acc.length rc]) (by simp[results,Tryz.results145,go_sem,hr8]) rfl ?_;exact⟨_,rfl,HS8.out,HG8.out,HW7.out⟩
  ·obtain rfl:i=l.length:=by omega
   have hres:=HR.out;rw[List.drop_length,xh,List.append_nil] at hres;have hc1:=(HBR.out.cell (p:=⟨w.heap.size+1+1,0,none⟩) (by show w.heap.size+1+1<_;omega)).trans HC0.out;have hf1:=(HBR.out.frozen (p:=⟨w.heap.size+1+1,0,none⟩) (by show w.heap.size+1+1<_;omega)).trans HF0.out;have hown8:(wr.setCell ⟨w.heap.size+1+1,0,none⟩ (.slice ra acc.length rc)).ownsRow (w.heap.size+3) 217 2 (.slice ra acc.length rc) acc.length (qM acc):=KN HROW.out (by omega);have HG8:Hid (∀g,(Value.slice ra acc.length rc).ownBlock=some g->w.heap.size<=g):=fun g hg=>by have:=(hown8.lt g hg).1;omega
   have HS8:Hid (zi (wr.setCell ⟨w.heap.size+1+1,0,none⟩ (.slice ra acc.length rc)) (.slice ra acc.length rc) (nd l m)):=hres▸Xx hown8;have HW7:=zH ((HB0.out.trans (HBR.out.mono (Nat.le_add_right _ 3))).setCell (p:=⟨w.heap.size+1+1,0,none⟩) (by show w.heap.size<=w.heap.size+1+1;omega) (.slice ra acc.length rc));have hr8:(wr.setCell ⟨w.heap.size+1+1,0,none⟩ (.slice ra acc.length rc)).cell? ⟨w.heap.size+1+1,0,none⟩=some (.slice ra acc.length rc):=World.cell?_setCell_same' _ _ _ (by rw[hc1];rfl);have HR8:=zH hr8;clear hown8 hr8 hres;go_wp2;have hr8:=HR8.out;refine bodyPost_ret (v:=.agg #[.slice ra acc.length rc]) (by simp[results,Tryz.results145,go_sem,hr8]) rfl ?_;exact⟨_,rfl,HS8.out,HG8.out,HW7.out⟩
end
section
open Go.RowKit Sv
theorem zeF(a b:Nat)(w:World) :
  zC 181 #[.int .i64 a,.int .i64 b] w (QL w (zw a b)):=by
 by_cases h:a<b
 ·have h':¬(b:Int)<=(a:Int):=by omega
  have hb:=((Below.refl w.heap.size w).alloc zN (.cells #[.slice (some ⟨w.heap.size+1,0,none⟩) 1 1] 96)).alloc (by rw[World.size_alloc];omega) (.cells #[.int .i64 a,.int .i64 b] 217);have h2:=KD (w.alloc (.cells #[.slice (some ⟨w.heap.size+1,0,none⟩) 1 1] 96)) (.int .i64 a) (.int .i64 b) 217;rw[World.size_alloc] at h2;have h1:=QF w (.slice (some ⟨w.heap.size+1,0,none⟩) 1 1) 96;have h3:((w.alloc (.cells #[.slice (some ⟨w.heap.size+1,0,none⟩) 1 1] 96)).alloc (.cells #[.int .i64 a,.int .i64 b] 217)).cell? ⟨w.heap.size,0,none⟩=some (.slice (some ⟨w.heap.size+1,0,none⟩) 1 1):=(((Below.refl _ (w.alloc (.cells #[.slice (some ⟨w.heap.size+1,0,none⟩) 1 1] 96))).alloc zN _).cell (p:=⟨w.heap.size,0,none⟩) (by show w.heap.size<_;rw[World.size_alloc];omega)).trans h1;have hs:w.heap.size+1<((w.alloc (.cells #[.slice (some ⟨w.heap.size+1,0,none⟩) 1 1] 96)).alloc (.cells #[.int .i64 a,.int .i64 b] 217)).heap.size:=by rw[World.size_alloc,World.size_alloc];omega
  have HB:=zH hb;have H2:=zH h2;have H3:=zH h3;have HS:=zH hs;clear hb h2 h1 h3 hs;go_enter Tryz.func181,Tryz.ntmps181;go_wp2;have h3:=H3.out;refine bodyPost_ret (v:=.agg #[.slice (some ⟨w.heap.size+1,0,none⟩) 1 1]) (by simp[results,Tryz.results181,go_sem,h3]) rfl ?_;refine⟨_,rfl,?_,fun g hg=>by simp[Value.ownBlock] at hg;omega,HB.out⟩;rw[zw,if_pos h];exact⟨⟨_,_,rfl⟩,fun i hi=>⟨w.heap.size+1,1,rfl,HS.out,by obtain rfl:i=0:=(by simp at hi;exact hi);exact H2.out.1,by obtain rfl:i=0:=(by simp at hi;exact hi);exact H2.out.2⟩⟩
 ·have h':(b:Int)<=(a:Int):=by omega
  have h1:=QF w (.slice none 0 0) 96;have H1:=zH h1;clear h1;go_enter Tryz.func181,Tryz.ntmps181;go_wp2;have h1:=H1.out;refine bodyPost_ret (v:=.agg #[.slice none 0 0]) (by simp[results,Tryz.results181,go_sem]) rfl ?_;refine⟨_,rfl,?_,fun g hg=>by simp[Value.ownBlock] at hg,zF.alloc zN _⟩;rw[zw,if_neg h];exact Kg _
theorem Za{w w1 w':World}{v:Value}{l:List zh}{b:Nat}(hb:zB w w1)(h1:w1.cell? ⟨b,0,none⟩=some (.slice none 0 0))(hB:w.heap.size<=b)(hl:b<w1.heap.size)(hs:zi w' v l)(hn:∀g,v.ownBlock=some g->w1.heap.size<=g)(h':zB w1 w') :
  (w'.setCell ⟨b,0,none⟩ v).cell? ⟨b,0,none⟩=some v/\zi (w'.setCell ⟨b,0,none⟩ v) v l/\(∀g,v.ownBlock=some g->w.heap.size<=g)/\zB w (w'.setCell ⟨b,0,none⟩ v):=by
 refine⟨World.cell?_setCell_same' _ _ _ (by rw[h'.cell (p:=⟨b,0,none⟩) hl,h1];rfl),hs.set (fun e=>by have:=hn b e;omega),fun g hg=>Nat.le_trans hb.size (hn g hg),(zT hb h').setCell (p:=⟨b,0,none⟩) hB v⟩
theorem Yv(w:World):zC 143 #[] w (QL w zq):=by
 have HH:Hid (∀W:World,zC 181 #[.int .i64 0,.int .i64 1000000000] W (fun e w'=>∃v',e=.returned (.agg #[v'])/\zi w' v' zq/\(∀g,v'.ownBlock=some g->W.heap.size<=g)/\zB W w')):=fun W=>zeF 0 1000000000 W;have h1:=QF w (.slice none 0 0) 96;have f1:=zcF w (.slice none 0 0) 96;have b1:zB w (w.alloc (.cells #[.slice none 0 0] 96)):=zF.alloc zN _;have l1:w.heap.size<(w.alloc (.cells #[.slice none 0 0] 96)).heap.size:=by rw[World.size_alloc];omega
 have H1:=zH h1;have F1:=zH f1;have B1:=zH b1;have L1:=zH l1;clear h1 f1 b1 l1;go_enter Tryz.func143,Tryz.ntmps143;go_wp2_with fail;generalize w.alloc (.cells #[.slice none 0 0] 96)=W1 at *;refine(HH.out _).mono ?_;rintro e w' ⟨v',rfl,hs,hn,hb⟩;obtain⟨va,vc,rfl⟩:=hs.form;have hc:=(hb.cell (p:=⟨w.heap.size,0,none⟩) L1.out).trans H1.out;have hf:=(hb.frozen (p:=⟨w.heap.size,0,none⟩) L1.out).trans F1.out;have HP:=zH (Za B1.out H1.out zN L1.out hs hn hb);clear hs hn hb;go_wp2;obtain⟨h3,h4,h5,h6⟩:=HP.out;refine bodyPost_ret (v:=.agg #[.slice va zq.length vc]) (by simp[results,Tryz.results143,go_sem,h3]) rfl ?_;exact⟨_,rfl,h4,h5,h6⟩
end
section
open Go.RowKit Sv
theorem zn1(l m:List zh)(hl:Rg l)(hm:Rg m)(v u:Value)(w:World)(hv:zi w v l)(hu:zi w u m) :
  zC 102 #[.agg #[v],.agg #[u]] w (QL w (orr l m)):=by
 obtain⟨a,cap,rfl⟩:=hv.form;obtain⟨b,cbp,rfl⟩:=hu.form;have hB:=(J2 w (.slice a l.length cap) (.slice b m.length cbp) (.slice none 0 0) 96 96 96).below;have HN1:Hid (∀W,zB w W->zC 146 #[.agg #[.slice a l.length cap]] W (fun e w'=>∃a' c',e=.returned (.agg #[.slice a' (nt l).length c'])/\zi w' (.slice a' (nt l).length c') (nt l)/\zB W w')):=fun W hW=>(Kf l hl _ W (hv.below hW zN)).mono fun e w' ⟨v',he,hs,hn,hb⟩=>by obtain⟨a',c',rfl⟩:=hs.form;exact⟨a',c',he,hs,hb⟩
 have HN2:Hid (∀W,zB w W->zC 146 #[.agg #[.slice b m.length cbp]] W (fun e w'=>∃a' c',e=.returned (.agg #[.slice a' (nt m).length c'])/\zi w' (.slice a' (nt m).length c') (nt m)/\zB W w')):=fun W hW=>(Kf m hm _ W (hu.below hW zN)).mono fun e w' ⟨v',he,hs,hn,hb⟩=>by obtain⟨a',c',rfl⟩:=hs.form;exact⟨a',c',he,hs,hb⟩
 have HA:Hid (∀v1 v2 W,zi W v1 (nt l)->zi W v2 (nt m)->zC 145 #[.agg #[v1],.agg #[v2]] W (fun e w'=>∃a' c',e=.returned (.agg #[.slice a' (nd (nt l) (nt m)).length c'])/\zi w' (.slice a' (nd (nt l) (nt m)).length c') (nd (nt l) (nt m))/\zB W w')):=fun v1 v2 W h1 h2=>(zey _ _ (ZO hl) (ZO hm) v1 v2 W h1 h2).mono fun e w' ⟨v',he,hs,hn,hb⟩=>by obtain⟨a',c',rfl⟩:=hs.form;exact⟨a',c',he,hs,hb⟩
 have HN3:Hid (∀v1 W,zi W v1 (nd (nt l) (nt m))->zC 146 #[.agg #[v1]] W (fun e w'=>∃a' c',e=.returned (.agg #[.slice a' (orr l m).length c'])/\zi w' (.slice a' (orr l m).length c') (orr l m)/\(∀g,(Value.slice a' (orr l m).length c').ownBlock=some g->W.heap.size<=g)/\zB W w')):=fun v1 W h1=>(Kf _ (YD (ZO hl) (ZO hm)) v1 W h1).mono fun e w' ⟨v',he,hs,hn,hb⟩=>by obtain⟨a',c',rfl⟩:=hs.form;exact⟨a',c',he,hs,hn,hb⟩
 have hbox:=J2 w (.slice a l.length cap) (.slice b m.length cbp) (.slice none 0 0) 96 96 96;clear hv hu hl hm hB;go_enter Tryz.func102,Tryz.ntmps102;go_wp2_with fail;generalize ((w.alloc (.cells #[.slice a l.length cap] 96)).alloc (.cells #[.slice b m.length cbp] 96)).alloc (.cells #[.slice none 0 0] 96)=W0 at *;have hs0:=hbox.size;have hB0:=hbox.below;have hr0:=hbox.c0;have ho0:=hbox.c1;have hc0:=hbox.c2;have hf0:=hbox.f2;have SC:Hid (∀W,Below (w.heap.size+2) W0 W->W.cell? ⟨w.heap.size,0,none⟩=some (.slice a l.length cap)/\W.cell? ⟨w.heap.size+1,0,none⟩=some (.slice b m.length cbp)):=fun W hb=>⟨(hb.cell (p:=⟨w.heap.size,0,none⟩) (by show w.heap.size<_;omega)).trans hr0,(hb.cell (p:=⟨w.heap.size+1,0,none⟩) (by show w.heap.size+1<_;omega)).trans ho0⟩;have HB0:=zH hB0;have HS0:=zH hs0;have HC0:=zH hc0;have HF0:=zH hf0;have L0:Hid (w.heap.size+2<=W0.heap.size):=by show w.heap.size+2<=W0.heap.size;omega
 have L1:Hid (w.heap.size+1+1<W0.heap.size):=by show w.heap.size+1+1<W0.heap.size;omega
 have D0:zB W0 W0.drew:=zF.drew;have E0:zB w W0.drew:=hB0.drew;clear hbox hs0 hB0 hr0 ho0 hc0 hf0;go_region_held3 (fun w'=>w'.cell? ⟨w.heap.size,0,none⟩=some (.slice a l.length cap)/\w'.cell? ⟨w.heap.size+1,0,none⟩=some (.slice b m.length cbp)) (first|exact SC.out _ (D0.mono L0.out)|exact SC.out _ (D1.mono L0.out)|exact SC.out _ (D2.mono L0.out)|exact SC.out _ (D3.mono L0.out)|exact SC.out _ (D4.mono L0.out)|exact SC.out _ D5)
  (first
   |((with_reducible refine(HN1.out _ E0).mono ?_);rintro e w1 ⟨a1,c1,rfl,hs1,hb1⟩;have D1:zB W0 w1:=D0.trans hb1;have E1:zB w w1:=zT E0 hb1;clear HN1)
   |((with_reducible refine(HN2.out _ E1).mono ?_);rintro e w2 ⟨a2,c2,rfl,hs2,hb2⟩;have D2:zB W0 w2:=zT D1 hb2;have hs12:=hs1.below hb2 zN;clear HN2)
   |((with_reducible refine(HA.out _ _ _ hs12 hs2).mono ?_);rintro e w3 ⟨a3,c3,rfl,hs3,hb3⟩;have D3:zB W0 w3:=zT D2 hb3;clear HA)
   | ((with_reducible refine (HN3.out _ _ hs3).mono ?_);rintro e w4 ⟨a4,c4,rfl,hs4,hn4,hb4⟩;have D4:zB W0 w4:=zT D3 hb4;have hc4:=(D4.cell (p:=⟨w.heap.size + 1 + 1,0,none⟩) L1.out).trans HC0.out;have hf4:=(D4.frozen (p:=⟨w.heap.size + 1 + 1,0,none⟩) L1.out).trans HF0.out;have D5:Below (w.heap.size + 2) W0 (w4.setCell ⟨w.heap.size + 1 + 1,0,none⟩ (.slice a4 (orr l m).length c4)):=(D4.mono L0.out).setCell (p:=⟨w.heap.size + 1 + 1,0,none⟩) zN _;clear HN3))
 have hn:∀g,(Value.slice a4 (orr l m).length c4).ownBlock=some g->W0.heap.size<=g:=fun g hg=>Nat.le_trans D3.size (hn4 g hg);have HP:=zH (Za HB0.out HC0.out (by omega) L1.out hs4 hn D4);clear hs1 hs2 hs12 hs3 hs4 hn4 hn hb1 hb2 hb3 hb4 D0 D1 D2 D3 D4 D5 E0 E1;go_wp2;obtain⟨h3,h4,h5,h6⟩:=HP.out;refine bodyPost_ret (v:=.agg #[.slice a4 (orr l m).length c4]) (by simp[results,Tryz.results102,go_sem,h3]) rfl ?_;exact⟨_,rfl,h4,h5,h6⟩
end
section
open Go.RowKit Go.Shelf Sv
theorem znR(s:ByteArray)(w:World)(hc:s.data.toList.count 46≠2) :
  zR 68 #[.string s] w (ZM (.error 3)):=by
 have HC:Hid (∀W,zC 98 #[.string s,.string ⟨#[46]⟩] W fun e w'=>e=.returned (.int .i64 (s.data.toList.count 46:Nat))/\w'=W):=fun W=>Tryz.strings_Count_one s 46 W;have hne:(((s.data.toList.count 46:Nat):Int)==2)=false:=by rw[beq_eq_false_iff_ne];omega
 generalize s.data.toList.count 46=n at *;clear hc;go_enter Tryz.func68,Tryz.ntmps68;go_wp2_with (go_at_call 98;refine(HC.out _).mono ?_;rintro e w' ⟨rfl,rfl⟩);have k0:=((Blk.new w 93 z3).alloc (.cells #[.iface 76 (.int .i64 3)] 33)).alloc (.cells z3 93);have k1:=(Blk.new (w.alloc (.cells z3 93)) 33 #[.iface 76 (.int .i64 3)]).alloc (.cells z3 93);rw[World.size_alloc] at k1;have hB:zB w (((w.alloc (.cells z3 93)).alloc (.cells #[.iface 76 (.int .i64 3)] 33)).alloc (.cells z3 93)):=(((Below.refl _ w).alloc zN _).alloc (by simp only[World.size_alloc];omega) _).alloc (by simp only[World.size_alloc];omega) _;generalize ((w.alloc (.cells z3 93)).alloc (.cells #[.iface 76 (.int .i64 3)] 33)).alloc (.cells z3 93)=WF at *;have r0:=k0.cell 0;have r1:=k0.cell 1;have r2:=k0.cell 2;have r3:=k1.cell 0;refine bodyPost_ret (v:=ZM (.error 3)) (by simp[results,Tryz.f68,go_sem,r0,r1,r2,r3,ZM]) rfl ?_;exact⟨rfl,hB⟩
theorem XL(s:ByteArray)(w:World)(hs:s.size<=100000)(hw:Lb w) :
  zR 68 #[.string s] w (ZM (xM s)):=by
 unfold xM
 by_cases hc:s.data.toList.count 46=2
 ·rw[if_pos hc];exact(callsIn_wide (n:=4)).1 (zfY s w hs hw hc)
 ·rw[if_neg hc];exact znR s w hc
theorem xA(a b c:Nat)(ha:a<=1000)(hb:b<=1000)(hc:c<=1000)(w:World) :
  zR 113 #[.agg #[.int .i64 a,.int .i64 b,.int .i64 c]] w (.int .i64 (((a*1000+b)*1000+c:Nat):Int)):=by
 have hB:=(Below.refl w.heap.size w).alloc zN (.cells #[.int .i64 a,.int .i64 b,.int .i64 c] 93);have he:(((a*1000+b)*1000+c:Nat):Int)=((a:Int)*1000+(b:Int))*1000+(c:Int):=by omega
 have HB:=zH hB;have HE:=zH he;clear hB he;go_enter Tryz.func113,Tryz.ntmps113;go_wp2;go_ret;exact⟨by rw[HE.out];rfl,HB.out⟩
theorem Jd(w:World)(x y z:Value):∃W1:World,((w.alloc (.cells #[x,y,z] 93)).alloc (.cells z3 93))=W1/\Blk W1 w.heap.size 93 #[x,y,z]/\Blk W1 (w.heap.size+1) 93 z3/\zB w W1:=by
 have k0:=(Blk.new w 93 #[x,y,z]).alloc (.cells z3 93);have k1:=Blk.new (w.alloc (.cells #[x,y,z] 93)) 93 z3;rw[World.size_alloc] at k1;exact⟨_,rfl,k0,k1,((Below.refl _ w).alloc zN _).alloc (by simp only[World.size_alloc];omega) _⟩
theorem zi8(a b c:Nat)(ha:a<=999)(w:World) :
  zR 210 #[.agg #[.int .i64 a,.int .i64 b,.int .i64 c],.int .i64 0] w (.agg #[.int .i64 ((a+1:Nat):Int),.int .i64 0,.int .i64 0]):=by
 obtain⟨W1,hW1,k0,k1,hB⟩:=Jd w (.int .i64 ((a:Int)+1)) (.int .i64 b) (.int .i64 c);have HW1:=zH hW1;have HK0:=zH k0;have HK1:=zH k1;have HB:=zH hB;clear hW1 k0 k1 hB;have hcl:=Lib.run_clear_slice (P:=Tryz.prog) W1 25 3 0 (.int .i64 0) Tryz.underlying25 Tryz.zeroValue3 rfl rfl w.heap.size 1 2 2 (by omega) (fun j hj=>by
  match j,hj with
  |0,_=>rw[HK0.out.cell 1];rfl
  | 1,_=>rw [HK0.out.cell 2];rfl) (fun j _=>HK0.out.frozen _)
 have m0:Blk (W1.setCells w.heap.size 1 (List.replicate 2 (.int .i64 0))) w.heap.size 93 #[.int .i64 ((a:Int)+1),.int .i64 0,.int .i64 0]:=(HK0.out.set (i:=1) (v:=.int .i64 0)).set (i:=2) (v:=.int .i64 0);have m1:Blk (W1.setCells w.heap.size 1 (List.replicate 2 (.int .i64 0))) (w.heap.size+1) 93 z3:=(HK1.out.other (by omega)).other (by omega);have mB:zB w (W1.setCells w.heap.size 1 (List.replicate 2 (.int .i64 0))):=(HB.out.setCell (p:=⟨w.heap.size,1,none⟩) zN _).setCell (p:=⟨w.heap.size,2,none⟩) zN _;generalize W1.setCells w.heap.size 1 (List.replicate 2 (.int .i64 0))=W2 at *;have d0:=m0.cell 0;have d1:=m0.cell 1;have d2:=m0.cell 2;have f0:=m1.frozen 0;have f1:=m1.frozen 1;have f2:=m1.frozen 2;have g0:_=some (Value.int .i64 0):=m1.cell 0;have g1:_=some (Value.int .i64 0):=m1.cell 1;have g2:_=some (Value.int .i64 0):=m1.cell 2;simp only[List.getElem?_toArray,List.getElem?_cons_zero,List.getElem?_cons_succ] at d0 d1 d2;obtain⟨WF,hWF⟩:∃WF,((W2.setCell ⟨w.heap.size+1,0,none⟩ (.int .i64 ((a:Int)+1))).setCell ⟨w.heap.size+1,1,none⟩ (.int .i64 0)).setCell ⟨w.heap.size+1,2,none⟩ (.int .i64 0)=WF:=⟨_,rfl⟩;have p1:Blk WF (w.heap.size+1) 93 #[(.int .i64 ((a:Int)+1)),(.int .i64 0),(.int .i64 0)]:=by rw[<-hWF];exact((m1.set (i:=0) (v:=(.int .i64 ((a:Int)+1)))).set (i:=1) (v:=(.int .i64 0))).set (i:=2) (v:=(.int .i64 0))
 have pB:zB w WF:=by rw[<-hWF];exact((mB.setCell (p:=⟨w.heap.size+1,0,none⟩) (Nat.le_succ _) _).setCell (p:=⟨w.heap.size+1,1,none⟩) (Nat.le_succ _) _).setCell (p:=⟨w.heap.size+1,2,none⟩) (Nat.le_succ _) _
 have HP1:=zH p1;have HPB:=zH pB;have HWF:=zH hWF;rw[<-HW1.out] at hcl;clear m0 m1 mB p1 pB hWF HK0 HK1 HB HW1;go_enter Tryz.func210,Tryz.ntmps210;go_wp2;rw[HWF.out];have r0:=HP1.out.cell 0;have r1:=HP1.out.cell 1;have r2:=HP1.out.cell 2;refine bodyPost_ret (v:=.agg #[(.int .i64 ((a:Int)+1)),(.int .i64 0),(.int .i64 0)]) (by simp[results,Tryz.results210,go_sem,r0,r1,r2]) rfl ?_;exact⟨rfl,HPB.out⟩
theorem zcZ(a b c:Nat)(hb:b<=999)(w:World) :
  zR 210 #[.agg #[.int .i64 a,.int .i64 b,.int .i64 c],.int .i64 1] w (.agg #[.int .i64 a,.int .i64 ((b+1:Nat):Int),.int .i64 0]):=by
 obtain⟨W1,hW1,k0,k1,hB⟩:=Jd w (.int .i64 a) (.int .i64 ((b:Int)+1)) (.int .i64 c);have HW1:=zH hW1;have HK0:=zH k0;have HK1:=zH k1;have HB:=zH hB;clear hW1 k0 k1 hB;have hcl:=Lib.run_clear_slice (P:=Tryz.prog) W1 25 3 0 (.int .i64 0) Tryz.underlying25 Tryz.zeroValue3 rfl rfl w.heap.size 2 1 1 (by omega) (fun j hj=>by
  match j,hj with
  | 0,_=>rw [HK0.out.cell 2];rfl) (fun j _=>HK0.out.frozen _)
 have m0:Blk (W1.setCells w.heap.size 2 (List.replicate 1 (.int .i64 0))) w.heap.size 93 #[.int .i64 a,.int .i64 ((b:Int)+1),.int .i64 0]:=HK0.out.set (i:=2) (v:=.int .i64 0);have m1:Blk (W1.setCells w.heap.size 2 (List.replicate 1 (.int .i64 0))) (w.heap.size+1) 93 z3:=HK1.out.other (by omega);have mB:zB w (W1.setCells w.heap.size 2 (List.replicate 1 (.int .i64 0))):=HB.out.setCell (p:=⟨w.heap.size,2,none⟩) zN _;generalize W1.setCells w.heap.size 2 (List.replicate 1 (.int .i64 0))=W2 at *;have d0:=m0.cell 0;have d1:=m0.cell 1;have d2:=m0.cell 2;have f0:=m1.frozen 0;have f1:=m1.frozen 1;have f2:=m1.frozen 2;have g0:_=some (Value.int .i64 0):=m1.cell 0;have g1:_=some (Value.int .i64 0):=m1.cell 1;have g2:_=some (Value.int .i64 0):=m1.cell 2;simp only[List.getElem?_toArray,List.getElem?_cons_zero,List.getElem?_cons_succ] at d0 d1 d2;obtain⟨WF,hWF⟩:∃WF,((W2.setCell ⟨w.heap.size+1,0,none⟩ (.int .i64 a)).setCell ⟨w.heap.size+1,1,none⟩ (.int .i64 ((b:Int)+1))).setCell ⟨w.heap.size+1,2,none⟩ (.int .i64 0)=WF:=⟨_,rfl⟩;have p1:Blk WF (w.heap.size+1) 93 #[(.int .i64 a),(.int .i64 ((b:Int)+1)),(.int .i64 0)]:=by rw[<-hWF];exact((m1.set (i:=0) (v:=(.int .i64 a))).set (i:=1) (v:=(.int .i64 ((b:Int)+1)))).set (i:=2) (v:=(.int .i64 0))
 have pB:zB w WF:=by rw[<-hWF];exact((mB.setCell (p:=⟨w.heap.size+1,0,none⟩) (Nat.le_succ _) _).setCell (p:=⟨w.heap.size+1,1,none⟩) (Nat.le_succ _) _).setCell (p:=⟨w.heap.size+1,2,none⟩) (Nat.le_succ _) _
 have HP1:=zH p1;have HPB:=zH pB;have HWF:=zH hWF;rw[<-HW1.out] at hcl;clear m0 m1 mB p1 pB hWF HK0 HK1 HB HW1;go_enter Tryz.func210,Tryz.ntmps210;go_wp2;rw[HWF.out];have r0:=HP1.out.cell 0;have r1:=HP1.out.cell 1;have r2:=HP1.out.cell 2;refine bodyPost_ret (v:=.agg #[(.int .i64 a),(.int .i64 ((b:Int)+1)),(.int .i64 0)]) (by simp[results,Tryz.results210,go_sem,r0,r1,r2]) rfl ?_;exact⟨rfl,HPB.out⟩
theorem zlh(W:World)(b:Nat):(Builtin.clear_ #[25] 0 #[.slice (some ⟨b,0,none⟩) 0 0]).run Tryz.prog W=.ok (.tuple #[]) W:=by
 simp[Builtin.clear_,run_underlying Tryz.underlying25,go_sem]
theorem znx(a b c:Nat)(hc:c<=999)(w:World) :
  zR 210 #[.agg #[.int .i64 a,.int .i64 b,.int .i64 c],.int .i64 2] w (.agg #[.int .i64 a,.int .i64 b,.int .i64 ((c+1:Nat):Int)]):=by
 obtain⟨W1,hW1,k0,k1,hB⟩:=Jd w (.int .i64 a) (.int .i64 b) (.int .i64 ((c:Int)+1));have HW1:=zH hW1;have HK0:=zH k0;have HK1:=zH k1;have HB:=zH hB;clear hW1 k0 k1 hB;obtain⟨W2,hW2⟩:∃W2,W1=W2:=⟨_,rfl⟩;have hcl:(Builtin.clear_ #[25] 0 #[.slice (some ⟨w.heap.size,0,none⟩) 0 0]).run Tryz.prog W1=.ok (.tuple #[]) W2:=hW2▸zlh W1 w.heap.size;have m0:Blk W2 _ _ _:=hW2▸HK0.out;have m1:Blk W2 _ _ _:=hW2▸HK1.out;have mB:zB w W2:=hW2▸HB.out;clear hW2;have d0:=m0.cell 0;have d1:=m0.cell 1;have d2:=m0.cell 2;have f0:=m1.frozen 0;have f1:=m1.frozen 1;have f2:=m1.frozen 2;have g0:_=some (Value.int .i64 0):=m1.cell 0;have g1:_=some (Value.int .i64 0):=m1.cell 1;have g2:_=some (Value.int .i64 0):=m1.cell 2;simp only[List.getElem?_toArray,List.getElem?_cons_zero,List.getElem?_cons_succ] at d0 d1 d2;obtain⟨WF,hWF⟩:∃WF,((W2.setCell ⟨w.heap.size+1,0,none⟩ (.int .i64 a)).setCell ⟨w.heap.size+1,1,none⟩ (.int .i64 b)).setCell ⟨w.heap.size+1,2,none⟩ (.int .i64 ((c:Int)+1))=WF:=⟨_,rfl⟩;have p1:Blk WF (w.heap.size+1) 93 #[(.int .i64 a),(.int .i64 b),(.int .i64 ((c:Int)+1))]:=by rw[<-hWF];exact((m1.set (i:=0) (v:=(.int .i64 a))).set (i:=1) (v:=(.int .i64 b))).set (i:=2) (v:=(.int .i64 ((c:Int)+1)))
 have pB:zB w WF:=by rw[<-hWF];exact((mB.setCell (p:=⟨w.heap.size+1,0,none⟩) (Nat.le_succ _) _).setCell (p:=⟨w.heap.size+1,1,none⟩) (Nat.le_succ _) _).setCell (p:=⟨w.heap.size+1,2,none⟩) (Nat.le_succ _) _
 have HP1:=zH p1;have HPB:=zH pB;have HWF:=zH hWF;rw[<-HW1.out] at hcl;clear m0 m1 mB p1 pB hWF HK0 HK1 HB HW1;go_enter Tryz.func210,Tryz.ntmps210;go_wp2;rw[HWF.out];have r0:=HP1.out.cell 0;have r1:=HP1.out.cell 1;have r2:=HP1.out.cell 2;refine bodyPost_ret (v:=.agg #[(.int .i64 a),(.int .i64 b),(.int .i64 ((c:Int)+1))]) (by simp[results,Tryz.results210,go_sem,r0,r1,r2]) rfl ?_;exact⟨rfl,HPB.out⟩
theorem zax(a b c:Nat)(w:World) :
  zR 211 #[.agg #[.int .i64 a,.int .i64 b,.int .i64 c]] w (.int .i64 (if a≠0 then 0 else if b≠0 then 1 else 2)):=by
 have hk:=Blk.new w 93 #[.int .i64 a,.int .i64 b,.int .i64 c];have hB:=(Below.refl w.heap.size w).alloc zN (.cells #[.int .i64 a,.int .i64 b,.int .i64 c] 93);have HB:=zH hB;have c0:(w.alloc (.cells #[.int .i64 a,.int .i64 b,.int .i64 c] 93)).cell? ⟨w.heap.size,0,none⟩=some (.int .i64 a):=hk.cell 0;have c1:(w.alloc (.cells #[.int .i64 a,.int .i64 b,.int .i64 c] 93)).cell? ⟨w.heap.size,1,none⟩=some (.int .i64 b):=hk.cell 1;clear hk hB;go_enter Tryz.func211,Tryz.ntmps211;go_wp2_with fail;generalize w.alloc (.cells #[.int .i64 a,.int .i64 b,.int .i64 c] 93)=W1 at *;go_loop [9] (fun i=>∃k:Nat,k<=2/\i=.int .i64 k/\(0<k->a=0)/\(1<k->b=0)) (fun i=>2-(intOf i).toNat)
 case atStart=>exact⟨0,by omega,rfl,fun h=>by omega,fun h=>by omega⟩
 case round =>
  obtain⟨k,hk,rfl,ha,hb⟩:=hrel
  match k,hk with
  |0,_ =>
   by_cases h:a=0
   ·have e:((a:Int)==0)=true:=by rw[beq_iff_eq];omega
    have HA:=zH h;clear h ha hb;go_wp2;go_round
    case rel=>exact⟨1,by omega,rfl,fun _=>HA.out,fun h=>by omega⟩
    case measure=>simp[intOf]
   ·have e:((a:Int)==0)=false:=by rw[beq_eq_false_iff_ne];omega
    have HH:=zH h;clear h ha hb;go_wp2;go_ret;exact⟨by first|rfl|(rw[if_pos HH.out];rfl),HB.out⟩
  |1,_ =>
   have ha0:=ha (by omega);have HA:=zH ha0
   by_cases h:b=0
   ·have e:((b:Int)==0)=true:=by rw[beq_iff_eq];omega
    have HBB:=zH h;clear h ha hb ha0;go_wp2;go_round
    case rel=>exact⟨2,by omega,rfl,fun _=>HA.out,fun _=>HBB.out⟩
    case measure=>simp[intOf]
   ·have e:((b:Int)==0)=false:=by rw[beq_eq_false_iff_ne];omega
    have HH:=zH h;clear h ha hb ha0;go_wp2;go_ret;exact⟨by first|rfl|(rw[if_neg (by simpa using HA.out),if_pos HH.out];rfl),HB.out⟩
  |2,_ =>have ha0:=ha (by omega);have hb0:=hb (by omega);have HA:=zH ha0;have HBB:=zH hb0;clear ha hb ha0 hb0;go_wp2;go_ret;exact⟨by first|rfl|(rw[if_neg (by simpa using HA.out),if_neg (by simpa using HBB.out)];rfl),HB.out⟩
end
end Go.Proofs.YtjmfeefogikdfaaGreatDoor
