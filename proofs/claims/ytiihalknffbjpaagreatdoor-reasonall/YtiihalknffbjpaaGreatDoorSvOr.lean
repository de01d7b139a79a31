/- Or, Empty. -/
import Derived.Test.YtiihalknffbjpaaGreatDoorSvPart
set_option maxHeartbeats 8000000
set_option maxRecDepth 100000
namespace Go.Proofs.YtiihalknffbjpaaGreatDoor
section
open Go.RowKit Sv
theorem zm7{l:List Span}{k e:Nat}(hk:k<l.length)(h:e<(sp l k).1):zgQ e (l.drop k)=(e,(sp l k).1) :: zgQ (sp l k).2 (l.drop (k+1)):=by
 rw[List.drop_eq_getElem_cons hk,zgQ,<-zhD l k hk,if_pos h]
theorem zll{l:List Span}{k e:Nat}(hk:k<l.length)(h:¬e<(sp l k).1):zgQ e (l.drop k)=zgQ (sp l k).2 (l.drop (k+1)):=by
 rw[List.drop_eq_getElem_cons hk,zgQ,<-zhD l k hk,if_neg h]
theorem zi1{l:List Span}{k e:Nat}(hk:k<l.length)(h:zbD e (l.drop k)):e<=(sp l k).1/\(sp l k).1<(sp l k).2/\(sp l k).2<=ALL/\zbD (sp l k).2 (l.drop (k+1)):=by
 rw[List.drop_eq_getElem_cons hk,<-zhD l k hk] at h;exact⟨h.1,h.2.1,h.2.2.1,h.2.2.2.mono (Nat.le_succ _)⟩
theorem zga(l:List Span)(hl:Rg l)(v:Value)(w:World)(hv:zaO w v l) :
  zC 262 #[.agg #[v]] w (zhZ w (nt l)):=by
 obtain⟨i0,hin,hz0,hz1,hz2⟩:=info_parts ziu;obtain⟨a,cap,rfl⟩:=hv.form;have hlen:=zeD hl;have hnlen:=zeD (zdf hl);have HL:=zH hl;have HV:=zH hv;clear hl hv;go_enter Tryz.func262,Tryz.ntmps262;go_wp2_with fail;obtain⟨W0,hW0⟩:∃W0,(w.alloc (.cells #[.slice a l.length cap] 128)).alloc (.cells #[.slice none 0 0] 128)=W0:=⟨_,rfl⟩;have hB0:zB w W0:=by rw[<-hW0];exact((Below.refl _ w).alloc zN _).alloc (by simp) _
 have hs0:W0.heap.size=w.heap.size+2:=by rw[<-hW0];simp
 have hc0:W0.cell? ⟨w.heap.size+1,0,none⟩=some (.slice none 0 0):=by rw[<-hW0];have:=zh7 (w.alloc (.cells #[.slice a l.length cap] 128)) (.slice none 0 0) 128;rw[World.size_alloc] at this;exact this
 have hf0:W0.frozen? ⟨w.heap.size+1,0,none⟩=false:=by rw[<-hW0];simp
 have HV0:Hid (zaO W0 (.slice a l.length cap) l):=HV.out.below hB0 zN;have HB0:=zH hB0;have HC0:=zH hc0;have HF0:=zH hf0;rw[hW0];clear hB0 hc0 hf0 hW0 HV;go_loopw [3,4,10] (fun gV eV kV wr=>∃(k e:Nat) (acc:List Span),k<=l.length/\kV=.int .i64 k/\eV=.int .i64 e/\e<=ALL/\zbD e (l.drop k)/\acc++zgQ e (l.drop k)=nt l/\wr.ownsRow (w.heap.size+2) 402 2 gV acc.length (zaZ acc)/\Below (w.heap.size+2) W0 wr) (fun _ _ kV _=>l.length-(intOf kV).toNat)
 case atStart=>exact⟨0,0,[],Nat.zero_le _,rfl,rfl,Nat.zero_le _,HL.out,rfl,World.ownsRow_nil _ _ _ _,Below.refl _ _⟩
 case round =>
  obtain⟨k,e,acc,hk,rfl,rfl,he,hcan,hres,hrow,hbr⟩:=hrel;obtain⟨ra,rc,rfl⟩:=zeN hrow;have hal:acc.length<=(nt l).length:=by rw[<-hres];simp
  have hws:=hbr.size;rw[hs0] at hws;have HROW:=zH hrow;have HBR:=zH hbr;have HC:=zH hcan;have HR:=zH hres;clear hrow hbr hcan hres
  by_cases hlt:k<l.length
  ·obtain⟨g,cap',e1,hg,c0,c1⟩:=(HV0.out.below HBR.out (Nat.le_of_eq hs0)).cells k hlt;simp at e1;obtain⟨rfl,rfl⟩:=e1;obtain⟨d1,d2,d3,d4⟩:=zi1 hlt HC.out;have HD:=zH d4;clear d4
   by_cases hgap:e<(sp l k).1
   ·have hres:=HR.out;rw[zm7 hlt hgap,List.append_cons] at hres;have hal2:(acc++[(e,(sp l k).1)]).length<=(nt l).length:=by rw[<-hres];simp
    simp at hal2;have HRS:=zH hres;clear hres HR;generalize (sp l k).1=A at *;generalize (sp l k).2=T at *;go_wp2_with (at_builtin;refine wpList_append_own_at _ rfl _ _ 126 rfl (w.heap.size+2) 402 i0 (.agg #[.int .i64 0,.int .i64 0]) 2 16 Tryz.underlying126 hin hz0 hz1 hz2 rfl (by decide) _ _ _ rfl ((HROW.out.alloc _).alloc _) ⟨wr.heap.size+1,0,none⟩ 1 1 [.int .i64 e,.int .i64 A] rfl rfl ?c1 ?c2 ?c3 ?c4 ?c5 ?_)
    case c1=>have:=zb9 (wr.alloc (.cells #[.int .i64 A,.int .i64 T] 402)) (.int .i64 e) (.int .i64 A) 402;rw[World.size_alloc] at this;exact this
    case c2=>intro u hu;simp at hu;rcases hu with rfl|rfl<;>rfl
    case c3=>unfold maxLen;omega
    case c4=>omega
    case c5=>show (w.heap.size+2)<=(World.alloc _ _).heap.size;simp;omega
    intro v7 w7 hown7 hgrow7 _ hloc7;have hb7:Below (w.heap.size+2) W0 w7:=(((HBR.out.alloc hws _).alloc (by simp;omega) _).grown hgrow7 (by simp;omega) (fun k hk=>(HROW.out.lt k hk).1));have ct:w7.cell? ⟨wr.heap.size,1,none⟩=some (.int .i64 T):=by
     rw[za4 hgrow7 (by simp;omega) (ze8 HROW.out zN)];have:=(znd wr (.int .i64 A) (.int .i64 T) 402).2;have b1:=((Below.refl _ (wr.alloc (.cells #[.int .i64 A,.int .i64 T] 402))).alloc zN (.cells #[.int .i64 e,.int .i64 A] 402)).cell (p:=⟨wr.heap.size,1,none⟩) (by simp);exact b1.trans this
    have e7:(acc++[(e,A)]).length=acc.length+1:=by simp
    have es:zaZ (acc++[(e,A)])=zaZ acc++[.int .i64 e,.int .i64 A]:=by rw[zb2];rfl
    rw[<-es,<-e7] at hown7;have HO7:=zH hown7;have HB7:=zH hb7;clear hown7 hgrow7 hloc7 hb7 e7 es;go_wp2;go_roundw
    case rel=>exact⟨k+1,T,acc++[(e,A)],by omega,rfl,rfl,d3,HD.out,HRS.out,HO7.out,HB7.out⟩
    case measure=>simp[intOf];omega
   ·have hres:=HR.out;rw[zll hlt hgap] at hres;have HRS:=zH hres;clear hres HR;generalize (sp l k).1=A at *;generalize (sp l k).2=T at *;go_wp2;go_roundw
    case rel=>exact⟨k+1,T,acc,by omega,rfl,rfl,d3,HD.out,HRS.out,HROW.out.alloc _,HBR.out.alloc hws _⟩
    case measure=>simp[intOf];omega
  ·obtain rfl:k=l.length:=by omega
   have hres:=HR.out;rw[List.drop_length,zgQ] at hres;have hc1:=(HBR.out.cell (p:=⟨w.heap.size+1,0,none⟩) (by show w.heap.size+1<_;omega)).trans HC0.out;have hf1:=(HBR.out.frozen (p:=⟨w.heap.size+1,0,none⟩) (by show w.heap.size+1<_;omega)).trans HF0.out
   by_cases hend:e<ALL
   ·rw[if_pos hend] at hres;have hal2:(acc++[(e,ALL)]).length<=(nt l).length:=by rw[<-hres];simp
    simp at hal2;have HRS:=zH hres;have hend':(e:Int)<1000000000:=by unfold ALL at hend;omega
    clear hres HR;go_wp2_with (at_builtin;refine wpList_append_own_at _ rfl _ _ 126 rfl (w.heap.size+2) 402 i0 (.agg #[.int .i64 0,.int .i64 0]) 2 16 Tryz.underlying126 hin hz0 hz1 hz2 rfl (by decide) _ _ _ rfl (HROW.out.alloc _) ⟨wr.heap.size,0,none⟩ 1 1 [.int .i64 e,.int .i64 1000000000] rfl rfl (zb9 _ _ _ _) ?c2 ?c3 ?c4 ?c5 ?_)
    case c2=>intro u hu;simp at hu;rcases hu with rfl|rfl<;>rfl
    case c3=>unfold maxLen;omega
    case c4=>omega
    case c5=>show (w.heap.size+2)<=(World.alloc _ _).heap.size;simp;omega
    intro v7 w7 hown7 hgrow7 _ hloc7;have hb7:Below (w.heap.size+2) W0 w7:=((HBR.out.alloc hws _).grown hgrow7 (by simp;omega) (fun k hk=>(HROW.out.lt k hk).1));have hc7:=(hb7.cell (p:=⟨w.heap.size+1,0,none⟩) (by show w.heap.size+1<_;omega)).trans HC0.out;have hf7:=(hb7.frozen (p:=⟨w.heap.size+1,0,none⟩) (by show w.heap.size+1<_;omega)).trans HF0.out;have e7:(acc++[(e,ALL)]).length=acc.length+1:=by simp
    have es:zaZ (acc++[(e,ALL)])=zaZ acc++[.int .i64 e,.int .i64 1000000000]:=by rw[zb2];rfl
    rw[<-es,<-e7,HRS.out] at hown7;have hS7:=zdE hown7;obtain⟨va,vc,rfl⟩:=zeN hown7;have hw7:zB w (w7.setCell ⟨w.heap.size+1,0,none⟩ (.slice va (nt l).length vc)):=(HB0.out.trans (hb7.mono (Nat.le_add_right _ 2))).setCell (p:=⟨w.heap.size+1,0,none⟩) (by show w.heap.size<=w.heap.size+1;omega) _;have hown8:(w7.setCell ⟨w.heap.size+1,0,none⟩ (.slice va (nt l).length vc)).ownsRow (w.heap.size+2) 402 2 (.slice va (nt l).length vc) (nt l).length (zaZ (nt l)):=by
     have hbl:Below (w.heap.size+2) w7 w7:=Below.refl _ _;exact zfN hown7 (by omega)
    have hS8:=zdE hown8;have HS8:=zH hS8;have HG8:Hid (∀g,(Value.slice va (nt l).length vc).ownBlock=some g->w.heap.size<=g):=fun g hg=>by have:=(hown8.lt g hg).1;omega
    have HW7:=zH hw7;clear hown7 hgrow7 hloc7 hb7 e7 es hS7 hown8 hS8 hw7 hc1 hf1;go_wp2;have hr8:(w7.setCell ⟨w.heap.size+1,0,none⟩ (.slice va (nt l).length vc)).cell? ⟨w.heap.size+1,0,none⟩=some (.slice va (nt l).length vc):=World.cell?_setCell_same' _ _ _ (by rw[hc7];rfl);refine bodyPost_ret (v:=.agg #[.slice va (nt l).length vc]) (by simp[results,Tryz.results262,go_sem,hr8]) rfl ?_;exact⟨_,rfl,HS8.out,HG8.out,HW7.out⟩
   ·rw[if_neg hend,List.append_nil] at hres;have hend':¬(e:Int)<1000000000:=by unfold ALL at hend;omega
    have hrow:=HROW.out;have hown8:(wr.setCell ⟨w.heap.size+1,0,none⟩ (.slice ra acc.length rc)).ownsRow (w.heap.size+2) 402 2 (.slice ra acc.length rc) acc.length (zaZ acc):=zfN hrow (by omega);have HG8:Hid (∀g,(Value.slice ra acc.length rc).ownBlock=some g->w.heap.size<=g):=fun g hg=>by have:=(hown8.lt g hg).1;omega
    have HS8:Hid (zaO (wr.setCell ⟨w.heap.size+1,0,none⟩ (.slice ra acc.length rc)) (.slice ra acc.length rc) (nt l)):=hres▸zdE hown8;have HW7:=zH ((HB0.out.trans (HBR.out.mono (Nat.le_add_right _ 2))).setCell (p:=⟨w.heap.size+1,0,none⟩) (by show w.heap.size<=w.heap.size+1;omega) (.slice ra acc.length rc));have hr8:(wr.setCell ⟨w.heap.size+1,0,none⟩ (.slice ra acc.length rc)).cell? ⟨w.heap.size+1,0,none⟩=some (.slice ra acc.length rc):=World.cell?_setCell_same' _ _ _ (by rw[hc1];rfl);have HR8:=zH hr8;clear hrow hown8 hr8 hres;go_wp2;have hr8:=HR8.out;refine bodyPost_ret (v:=.agg #[.slice ra acc.length rc]) (by simp[results,Tryz.results262,go_sem,hr8]) rfl ?_;exact⟨_,rfl,HS8.out,HG8.out,HW7.out⟩
end
section
open Go.RowKit Sv
theorem zg1{l m:List Span}{i j:Nat}(hi:i<l.length)(hj:j<m.length):zff (l.drop i) (m.drop j)=(if max (sp l i).1 (sp m j).1<min (sp l i).2 (sp m j).2 then [(max (sp l i).1 (sp m j).1,min (sp l i).2 (sp m j).2)] else [])++(if (sp l i).2<(sp m j).2 then zff (l.drop (i+1)) (m.drop j) else zff (l.drop i) (m.drop (j+1))):=by
 rw[List.drop_eq_getElem_cons hi,List.drop_eq_getElem_cons hj,zff,<-zhD l i hi,<-zhD m j hj]
theorem zkP(l m:List Span)(hl:Rg l)(hm:Rg m)(v u:Value)(w:World)(hv:zaO w v l)(hu:zaO w u m) :
  zC 261 #[.agg #[v],.agg #[u]] w (zhZ w (nd l m)):=by
 obtain⟨i0,hin,hz0,hz1,hz2⟩:=info_parts ziu;obtain⟨a,cap,rfl⟩:=hv.form;obtain⟨b,cbp,rfl⟩:=hu.form;have hlen:=zeD hl;have hmlen:=zeD hm;have hnlen:=zeD (zf7 hl hm);have HL:=zH hl;have HM:=zH hm;have HV:=zH hv;have HU:=zH hu;clear hl hv hm hu;go_enter Tryz.func261,Tryz.ntmps261;go_wp2_with fail;obtain⟨W0,hW0⟩:∃W0,((w.alloc (.cells #[.slice a l.length cap] 128)).alloc (.cells #[.slice b m.length cbp] 128)).alloc (.cells #[.slice none 0 0] 128)=W0:=⟨_,rfl⟩;have hbox:zsr w W0 (.slice a l.length cap) (.slice b m.length cbp) (.slice none 0 0):=hW0▸zsd w _ _ _ _ _ _;have hB0:=hbox.below;have hs0:=hbox.size;have hr0:=hbox.c0;have ho0:=hbox.c1;have hc0:=hbox.c2;have hf0:=hbox.f2;clear hbox;have HV0:Hid (zaO W0 (.slice a l.length cap) l):=HV.out.below hB0 zN;have HU0:Hid (zaO W0 (.slice b m.length cbp) m):=HU.out.below hB0 zN;have HB0:=zH hB0;have HC0:=zH hc0;have HF0:=zH hf0;have HR0:=zH hr0;have HO0:=zH ho0;rw[hW0];clear hB0 hc0 hf0 hW0 HV HU hr0 ho0;go_loopw [5,6,7] (fun bV iV jV wr=>∃(i j:Nat) (acc:List Span),i<=l.length/\j<=m.length/\iV=.int .i64 i/\jV=.int .i64 j/\acc++zff (l.drop i) (m.drop j)=nd l m/\wr.ownsRow (w.heap.size+3) 402 2 bV acc.length (zaZ acc)/\Below (w.heap.size+3) W0 wr) (fun _ iV jV _=>(l.length-(intOf iV).toNat)+(m.length-(intOf jV).toNat))
 case atStart=>exact⟨0,0,[],Nat.zero_le _,Nat.zero_le _,rfl,rfl,rfl,World.ownsRow_nil _ _ _ _,Below.refl _ _⟩
 case round =>
  obtain⟨i,j,acc,hi,hj,rfl,rfl,hres,hrow,hbr⟩:=hrel;obtain⟨ra,rc,rfl⟩:=zeN hrow;have hal:acc.length<=(nd l m).length:=by rw[<-hres];simp
  have hws:=hbr.size;rw[hs0] at hws;have hr1:=(hbr.cell (p:=⟨w.heap.size,0,none⟩) (by show w.heap.size<_;omega)).trans HR0.out;have ho1:=(hbr.cell (p:=⟨w.heap.size+1,0,none⟩) (by show w.heap.size+1<_;omega)).trans HO0.out;have HROW:=zH hrow;have HBR:=zH hbr;have HR:=zH hres;clear hrow hbr hres
  by_cases hlt:i<l.length
  ·by_cases hjt:j<m.length
   ·obtain⟨g,cap',e1,hg,c0,c1⟩:=(HV0.out.below HBR.out (Nat.le_of_eq hs0)).cells i hlt;simp at e1;obtain⟨rfl,rfl⟩:=e1;obtain⟨g2,cap2,e2,hg2,d0,d1⟩:=(HU0.out.below HBR.out (Nat.le_of_eq hs0)).cells j hjt;simp at e2;obtain⟨rfl,rfl⟩:=e2;have hin1:i*2<i*2+1:=Nat.lt_succ_self _;have SC:Hid (∀W,zB wr W->(W.cell? ⟨w.heap.size,0,none⟩=some (.slice (some ⟨g,0,none⟩) l.length cap)/\W.cell? ⟨w.heap.size+1,0,none⟩=some (.slice (some ⟨g2,0,none⟩) m.length cbp)/\W.cell? ⟨g,i*2,none⟩=some (.int .i64 ((sp l i).1:Int))/\W.cell? ⟨g,i*2+1,none⟩=some (.int .i64 ((sp l i).2:Int))/\W.cell? ⟨g2,j*2,none⟩=some (.int .i64 ((sp m j).1:Int))/\W.cell? ⟨g2,j*2+1,none⟩=some (.int .i64 ((sp m j).2:Int)))):=fun W hb =>
     ⟨(hb.cell (p:=⟨w.heap.size,0,none⟩) (by show w.heap.size<_;omega)).trans hr1,(hb.cell (p:=⟨w.heap.size+1,0,none⟩) (by show w.heap.size+1<_;omega)).trans ho1,(hb.cell (p:=⟨g,i*2,none⟩) hg).trans c0,(hb.cell (p:=⟨g,i*2+1,none⟩) hg).trans c1,(hb.cell (p:=⟨g2,j*2,none⟩) hg2).trans d0,(hb.cell (p:=⟨g2,j*2+1,none⟩) hg2).trans d1⟩
    go_wp2_with fail;go_region_held3 (fun w'=>w'.cell? ⟨w.heap.size,0,none⟩=some (.slice (some ⟨g,0,none⟩) l.length cap)/\w'.cell? ⟨w.heap.size+1,0,none⟩=some (.slice (some ⟨g2,0,none⟩) m.length cbp)/\w'.cell? ⟨g,i*2,none⟩=some (.int .i64 ((sp l i).1:Int))/\w'.cell? ⟨g,i*2+1,none⟩=some (.int .i64 ((sp l i).2:Int))/\w'.cell? ⟨g2,j*2,none⟩=some (.int .i64 ((sp m j).1:Int))/\w'.cell? ⟨g2,j*2+1,none⟩=some (.int .i64 ((sp m j).2:Int))) ((refine SC.out _ ?_;repeat' (first|exact Below.refl _ _|refine Below.drew ?_|refine Below.alloc ?_ (by simp) _|refine Below.alloc ?_ (by simp;omega) _|refine Below.setCell (p:=_) ?_ (by simp) _))) (first|fail)
    ·have h2:=zo0 wr (.int .i64 ((sp l i).1:Int)) (.int .i64 ((sp l i).2:Int)) (.int .i64 ((sp m j).1:Int)) (.int .i64 ((sp m j).2:Int)) 402 402;generalize ((wr.alloc (.cells #[.int .i64 ((sp l i).1:Int),.int .i64 ((sp l i).2:Int)] 402)).alloc (.cells #[.int .i64 ((sp m j).1:Int),.int .i64 ((sp m j).2:Int)] 402)).drew=W1 at *;have hres:=HR.out;rw[zg1 hlt hjt] at hres;generalize (sp l i).1=A at *;generalize (sp l i).2=T at *;generalize (sp m j).1=C at *;generalize (sp m j).2=D at *;have s0:=h2.s0;have s1:=h2.s1;have t0:=h2.t0;have t1:=h2.t1;have HRS:=zH hres;clear c0 c1 d0 d1 hres HR;go_wp2_with fail;go_quiet (fail);have h3:=h2.drewN nq;generalize W1.drewN nq=W2 at *;have HROW2:=zH (zgP HROW.out h3.below zN);have hb2:=h3.below;have hws2:=hb2.size;have hls:=h3.ls;have hlt2:=h3.lt;have hbs:=h3.hs;have hbt:=h3.ht;have HB2:Hid (Below (w.heap.size+3) W0 W2):=HBR.out.trans (hb2.mono hws);have u1:=h3.s1;have u3:=h3.t1;clear hb2 s0 s1 t0 t1 h2 h3 HBR SC
     by_cases hmx:max A C<min T D
     ·have hmx':max (A:Int) (C:Int)<min (T:Int) (D:Int):=by omega
      have hres:=HRS.out;rw[if_pos hmx] at hres;have hal2:(acc++[(max A C,min T D)]).length<=(nd l m).length:=by rw[<-hres,<-List.append_assoc];simp
      simp at hal2;have eM:((max A C:Nat):Int)=max (A:Int) (C:Int):=by omega
      have eN:((min T D:Nat):Int)=min (T:Int) (D:Int):=by omega
      have HEM:=zH eM;have HEN:=zH eN;have HRS2:=zH hres;clear hres HRS eM eN;go_wp2_with (at_builtin;refine wpList_append_own_at _ rfl _ _ 126 rfl (w.heap.size+3) 402 i0 (.agg #[.int .i64 0,.int .i64 0]) 2 16 Tryz.underlying126 hin hz0 hz1 hz2 rfl (by decide) _ _ _ rfl (HROW2.out.alloc _) ⟨W2.heap.size,0,none⟩ 1 1 [.int .i64 (max (A:Int) (C:Int)),.int .i64 (min (T:Int) (D:Int))] rfl rfl (zb9 _ _ _ _) ?c2 ?c3 ?c4 ?c5 ?_)
      case c2=>intro u hu;simp at hu;rcases hu with rfl|rfl<;>rfl
      case c3=>unfold maxLen;omega
      case c4=>omega
      case c5=>show w.heap.size+3<=(World.alloc _ _).heap.size;rw[World.size_alloc];omega
      intro v7 w7 hown7 hgrow7 _ hloc7;have hb7:Below (w.heap.size+3) W0 w7:=((HB2.out.alloc (by omega) _).grown hgrow7 (by rw[World.size_alloc];omega) (fun k hk=>(HROW2.out.lt k hk).1));have x1:w7.cell? ⟨wr.heap.size,1,none⟩=some (.int .i64 T):=by
       rw[za4 hgrow7 (by rw[World.size_alloc];omega) (ze8 HROW.out hbs)];exact(((Below.refl W2.heap.size W2).alloc zN _).cell (p:=⟨wr.heap.size,1,none⟩) hls).trans u1
      have x3:w7.cell? ⟨wr.heap.size+1,1,none⟩=some (.int .i64 D):=by
       rw[za4 hgrow7 (by rw[World.size_alloc];omega) (ze8 HROW.out hbt)];exact(((Below.refl W2.heap.size W2).alloc zN _).cell (p:=⟨wr.heap.size+1,1,none⟩) hlt2).trans u3
      have e7:(acc++[(max A C,min T D)]).length=acc.length+1:=by simp
      have es:zaZ (acc++[(max A C,min T D)])=zaZ acc++[.int .i64 (max (A:Int) (C:Int)),.int .i64 (min (T:Int) (D:Int))]:=by rw[zb2,<-HEM.out,<-HEN.out];rfl
      rw[<-es,<-e7] at hown7;have HO7:=zH hown7;have HB7:=zH hb7;clear hown7 hgrow7 hloc7 hb7 e7 es u1 u3
      by_cases hTD:T<D
      ·have hres:=HRS2.out;rw[if_pos hTD,<-List.append_assoc] at hres;have HRS3:=zH hres;clear hres HRS2;go_wp2;go_roundw
       case rel=>exact⟨i+1,j,acc++[(max A C,min T D)],by omega,by omega,rfl,rfl,HRS3.out,HO7.out,HB7.out⟩
       case measure=>simp[intOf];omega
      ·have hres:=HRS2.out;rw[if_neg hTD,<-List.append_assoc] at hres;have HRS3:=zH hres;clear hres HRS2;go_wp2;go_roundw
       case rel=>exact⟨i,j+1,acc++[(max A C,min T D)],by omega,by omega,rfl,rfl,HRS3.out,HO7.out,HB7.out⟩
       case measure=>simp[intOf];omega
     ·have hmx':¬max (A:Int) (C:Int)<min (T:Int) (D:Int):=by omega
      have hres:=HRS.out;rw[if_neg hmx,List.nil_append] at hres;have HRS2:=zH hres;clear hres HRS
      by_cases hTD:T<D
      ·have hres:=HRS2.out;rw[if_pos hTD] at hres;have HRS3:=zH hres;clear hres HRS2;go_wp2;go_roundw
       case rel=>exact⟨i+1,j,acc,by omega,by omega,rfl,rfl,HRS3.out,HROW2.out,HB2.out⟩
       case measure=>simp[intOf];omega
      ·have hres:=HRS2.out;rw[if_neg hTD] at hres;have HRS3:=zH hres;clear hres HRS2;go_wp2;go_roundw
       case rel=>exact⟨i,j+1,acc,by omega,by omega,rfl,rfl,HRS3.out,HROW2.out,HB2.out⟩
       case measure=>simp[intOf];omega
    ·have h2:=zrj wr (.int .i64 ((sp l i).1:Int)) (.int .i64 ((sp l i).2:Int)) (.int .i64 ((sp m j).1:Int)) (.int .i64 ((sp m j).2:Int)) 402 402;generalize ((wr.alloc (.cells #[.int .i64 ((sp m j).1:Int),.int .i64 ((sp m j).2:Int)] 402)).alloc (.cells #[.int .i64 ((sp l i).1:Int),.int .i64 ((sp l i).2:Int)] 402)).drew=W1 at *;have hres:=HR.out;rw[zg1 hlt hjt] at hres;generalize (sp l i).1=A at *;generalize (sp l i).2=T at *;generalize (sp m j).1=C at *;generalize (sp m j).2=D at *;have s0:=h2.s0;have s1:=h2.s1;have t0:=h2.t0;have t1:=h2.t1;have HRS:=zH hres;clear c0 c1 d0 d1 hres HR;go_wp2_with fail;go_quiet (fail);have h3:=h2.drewN nq;generalize W1.drewN nq=W2 at *;have HROW2:=zH (zgP HROW.out h3.below zN);have hb2:=h3.below;have hws2:=hb2.size;have hls:=h3.ls;have hlt2:=h3.lt;have hbs:=h3.hs;have hbt:=h3.ht;have HB2:Hid (Below (w.heap.size+3) W0 W2):=HBR.out.trans (hb2.mono hws);have u1:=h3.s1;have u3:=h3.t1;clear hb2 s0 s1 t0 t1 h2 h3 HBR SC
     by_cases hmx:max A C<min T D
     ·have hmx':max (A:Int) (C:Int)<min (T:Int) (D:Int):=by omega
      have hres:=HRS.out;rw[if_pos hmx] at hres;have hal2:(acc++[(max A C,min T D)]).length<=(nd l m).length:=by rw[<-hres,<-List.append_assoc];simp
      simp at hal2;have eM:((max A C:Nat):Int)=max (A:Int) (C:Int):=by omega
      have eN:((min T D:Nat):Int)=min (T:Int) (D:Int):=by omega
      have HEM:=zH eM;have HEN:=zH eN;have HRS2:=zH hres;clear hres HRS eM eN;go_wp2_with (at_builtin;refine wpList_append_own_at _ rfl _ _ 126 rfl (w.heap.size+3) 402 i0 (.agg #[.int .i64 0,.int .i64 0]) 2 16 Tryz.underlying126 hin hz0 hz1 hz2 rfl (by decide) _ _ _ rfl (HROW2.out.alloc _) ⟨W2.heap.size,0,none⟩ 1 1 [.int .i64 (max (A:Int) (C:Int)),.int .i64 (min (T:Int) (D:Int))] rfl rfl (zb9 _ _ _ _) ?c2 ?c3 ?c4 ?c5 ?_)
      case c2=>intro u hu;simp at hu;rcases hu with rfl|rfl<;>rfl
      case c3=>unfold maxLen;omega
      case c4=>omega
      case c5=>show w.heap.size+3<=(World.alloc _ _).heap.size;rw[World.size_alloc];omega
      intro v7 w7 hown7 hgrow7 _ hloc7;have hb7:Below (w.heap.size+3) W0 w7:=((HB2.out.alloc (by omega) _).grown hgrow7 (by rw[World.size_alloc];omega) (fun k hk=>(HROW2.out.lt k hk).1));have x1:w7.cell? ⟨wr.heap.size+1,1,none⟩=some (.int .i64 T):=by
       rw[za4 hgrow7 (by rw[World.size_alloc];omega) (ze8 HROW.out hbs)];exact(((Below.refl W2.heap.size W2).alloc zN _).cell (p:=⟨wr.heap.size+1,1,none⟩) hls).trans u1
      have x3:w7.cell? ⟨wr.heap.size,1,none⟩=some (.int .i64 D):=by
       rw[za4 hgrow7 (by rw[World.size_alloc];omega) (ze8 HROW.out hbt)];exact(((Below.refl W2.heap.size W2).alloc zN _).cell (p:=⟨wr.heap.size,1,none⟩) hlt2).trans u3
      have e7:(acc++[(max A C,min T D)]).length=acc.length+1:=by simp
      have es:zaZ (acc++[(max A C,min T D)])=zaZ acc++[.int .i64 (max (A:Int) (C:Int)),.int .i64 (min (T:Int) (D:Int))]:=by rw[zb2,<-HEM.out,<-HEN.out];rfl
      rw[<-es,<-e7] at hown7;have HO7:=zH hown7;have HB7:=zH hb7;clear hown7 hgrow7 hloc7 hb7 e7 es u1 u3
      by_cases hTD:T<D
      ·have hres:=HRS2.out;rw[if_pos hTD,<-List.append_assoc] at hres;have HRS3:=zH hres;clear hres HRS2;go_wp2;go_roundw
       case rel=>exact⟨i+1,j,acc++[(max A C,min T D)],by omega,by omega,rfl,rfl,HRS3.out,HO7.out,HB7.out⟩
       case measure=>simp[intOf];omega
      ·have hres:=HRS2.out;rw[if_neg hTD,<-List.append_assoc] at hres;have HRS3:=zH hres;clear hres HRS2;go_wp2;go_roundw
       case rel=>exact⟨i,j+1,acc++[(max A C,min T D)],by omega,by omega,rfl,rfl,HRS3.out,HO7.out,HB7.out⟩
       case measure=>simp[intOf];omega
     ·have hmx':¬max (A:Int) (C:Int)<min (T:Int) (D:Int):=by omega
      have hres:=HRS.out;rw[if_neg hmx,List.nil_append] at hres;have HRS2:=zH hres;clear hres HRS
      by_cases hTD:T<D
      ·have hres:=HRS2.out;rw[if_pos hTD] at hres;have HRS3:=zH hres;clear hres HRS2;go_wp2;go_roundw
       case rel=>exact⟨i+1,j,acc,by omega,by omega,rfl,rfl,HRS3.out,HROW2.out,HB2.out⟩
       case measure=>simp[intOf];omega
      ·have hres:=HRS2.out;rw[if_neg hTD] at hres;have HRS3:=zH hres;clear hres HRS2;go_wp2;go_roundw
       case rel=>exact⟨i,j+1,acc,by omega,by omega,rfl,rfl,HRS3.out,HROW2.out,HB2.out⟩
       case measure=>simp[intOf];omega
   ·obtain rfl:j=m.length:=by omega
    have hres:=HR.out;rw[List.drop_length,zfe,List.append_nil] at hres;have hc1:=(HBR.out.cell (p:=⟨w.heap.size+1+1,0,none⟩) (by show w.heap.size+1+1<_;omega)).trans HC0.out;have hf1:=(HBR.out.frozen (p:=⟨w.heap.size+1+1,0,none⟩) (by show w.heap.size+1+1<_;omega)).trans HF0.out;have hown8:(wr.setCell ⟨w.heap.size+1+1,0,none⟩ (.slice ra acc.length rc)).ownsRow (w.heap.size+3) 402 2 (.slice ra acc.length rc) acc.length (zaZ acc):=zfN HROW.out (by omega);have HG8:Hid (∀g,(Value.slice ra acc.length rc).ownBlock=some g->w.heap.size<=g):=fun g hg=>by have:=(hown8.lt g hg).1;omega
    have HS8:Hid (zaO (wr.setCell ⟨w.heap.size+1+1,0,none⟩ (.slice ra acc.length rc)) (.slice ra acc.length rc) (nd l m)):=hres▸zdE hown8;have HW7:=zH ((HB0.out.trans (HBR.out.mono (Nat.le_add_right _ 3))).setCell (p:=⟨w.heap.size+1+1,0,none⟩) (by show w.heap.size<=w.heap.size+1+1;omega) (.slice ra acc.length rc));have hr8:(wr.setCell ⟨w.heap.size+1+1,0,none⟩ (.slice ra acc.length rc)).cell? ⟨w.heap.size+1+1,0,none⟩=some (.slice ra acc.length rc):=World.cell?_setCell_same' _ _ _ (by rw[hc1];rfl);have HR8:=zH hr8;clear hown8 hr8 hres;go_wp2;have hr8:=HR8.out;refine bodyPost_ret (v:=.agg #[.slice ra acc.length rc]) (by simp[results,Tryz.results261,go_sem,hr8]) rfl ?_;exact⟨_,rfl,HS8.out,HG8.out,HW7.out⟩
  ·obtain rfl:i=l.length:=by omega
   have hres:=HR.out;rw[List.drop_length,zff,List.append_nil] at hres;have hc1:=(HBR.out.cell (p:=⟨w.heap.size+1+1,0,none⟩) (by show w.heap.size+1+1<_;omega)).trans HC0.out;have hf1:=(HBR.out.frozen (p:=⟨w.heap.size+1+1,0,none⟩) (by show w.heap.size+1+1<_;omega)).trans HF0.out;have hown8:(wr.setCell ⟨w.heap.size+1+1,0,none⟩ (.slice ra acc.length rc)).ownsRow (w.heap.size+3) 402 2 (.slice ra acc.length rc) acc.length (zaZ acc):=zfN HROW.out (by omega);have HG8:Hid (∀g,(Value.slice ra acc.length rc).ownBlock=some g->w.heap.size<=g):=fun g hg=>by have:=(hown8.lt g hg).1;omega
   have HS8:Hid (zaO (wr.setCell ⟨w.heap.size+1+1,0,none⟩ (.slice ra acc.length rc)) (.slice ra acc.length rc) (nd l m)):=hres▸zdE hown8;have HW7:=zH ((HB0.out.trans (HBR.out.mono (Nat.le_add_right _ 3))).setCell (p:=⟨w.heap.size+1+1,0,none⟩) (by show w.heap.size<=w.heap.size+1+1;omega) (.slice ra acc.length rc));have hr8:(wr.setCell ⟨w.heap.size+1+1,0,none⟩ (.slice ra acc.length rc)).cell? ⟨w.heap.size+1+1,0,none⟩=some (.slice ra acc.length rc):=World.cell?_setCell_same' _ _ _ (by rw[hc1];rfl);have HR8:=zH hr8;clear hown8 hr8 hres;go_wp2;have hr8:=HR8.out;refine bodyPost_ret (v:=.agg #[.slice ra acc.length rc]) (by simp[results,Tryz.results261,go_sem,hr8]) rfl ?_;exact⟨_,rfl,HS8.out,HG8.out,HW7.out⟩
end
section
open Go.RowKit Sv
theorem zks(a b:Nat)(w:World) :
  zC 303 #[.int .i64 a,.int .i64 b] w (zhZ w (rowF a b)):=by
 by_cases h:a<b
 ·have h':¬(b:Int)<=(a:Int):=by omega
  have hb:=((Below.refl w.heap.size w).alloc zN (.cells #[.slice (some ⟨w.heap.size+1,0,none⟩) 1 1] 128)).alloc (by rw[World.size_alloc];omega) (.cells #[.int .i64 a,.int .i64 b] 402);have h2:=znd (w.alloc (.cells #[.slice (some ⟨w.heap.size+1,0,none⟩) 1 1] 128)) (.int .i64 a) (.int .i64 b) 402;rw[World.size_alloc] at h2;have h1:=zh7 w (.slice (some ⟨w.heap.size+1,0,none⟩) 1 1) 128;have h3:((w.alloc (.cells #[.slice (some ⟨w.heap.size+1,0,none⟩) 1 1] 128)).alloc (.cells #[.int .i64 a,.int .i64 b] 402)).cell? ⟨w.heap.size,0,none⟩=some (.slice (some ⟨w.heap.size+1,0,none⟩) 1 1):=(((Below.refl _ (w.alloc (.cells #[.slice (some ⟨w.heap.size+1,0,none⟩) 1 1] 128))).alloc zN _).cell (p:=⟨w.heap.size,0,none⟩) (by show w.heap.size<_;rw[World.size_alloc];omega)).trans h1;have hs:w.heap.size+1<((w.alloc (.cells #[.slice (some ⟨w.heap.size+1,0,none⟩) 1 1] 128)).alloc (.cells #[.int .i64 a,.int .i64 b] 402)).heap.size:=by rw[World.size_alloc,World.size_alloc];omega
  have HB:=zH hb;have H2:=zH h2;have H3:=zH h3;have HS:=zH hs;clear hb h2 h1 h3 hs;go_enter Tryz.func303,Tryz.ntmps303;go_wp2;have h3:=H3.out;refine bodyPost_ret (v:=.agg #[.slice (some ⟨w.heap.size+1,0,none⟩) 1 1]) (by simp[results,Tryz.results303,go_sem,h3]) rfl ?_;refine⟨_,rfl,?_,fun g hg=>by simp[Value.ownBlock] at hg;omega,HB.out⟩;rw[rowF,if_pos h];exact⟨⟨_,_,rfl⟩,fun i hi=>⟨w.heap.size+1,1,rfl,HS.out,by obtain rfl:i=0:=(by simp at hi;exact hi);exact H2.out.1,by obtain rfl:i=0:=(by simp at hi;exact hi);exact H2.out.2⟩⟩
 ·have h':(b:Int)<=(a:Int):=by omega
  have h1:=zh7 w (.slice none 0 0) 128;have H1:=zH h1;clear h1;go_enter Tryz.func303,Tryz.ntmps303;go_wp2;have h1:=H1.out;refine bodyPost_ret (v:=.agg #[.slice none 0 0]) (by simp[results,Tryz.results303,go_sem]) rfl ?_;refine⟨_,rfl,?_,fun g hg=>by simp[Value.ownBlock] at hg,zF.alloc zN _⟩;rw[rowF,if_neg h];exact zeu _
theorem zbW{w w1 w':World}{v:Value}{l:List Span}{b:Nat}(hb:zB w w1)(h1:w1.cell? ⟨b,0,none⟩=some (.slice none 0 0))(hB:w.heap.size<=b)(hl:b<w1.heap.size)(hs:zaO w' v l)(hn:∀g,v.ownBlock=some g->w1.heap.size<=g)(h':zB w1 w') :
  (w'.setCell ⟨b,0,none⟩ v).cell? ⟨b,0,none⟩=some v/\zaO (w'.setCell ⟨b,0,none⟩ v) v l/\(∀g,v.ownBlock=some g->w.heap.size<=g)/\zB w (w'.setCell ⟨b,0,none⟩ v):=by
 refine⟨World.cell?_setCell_same' _ _ _ (by rw[h'.cell (p:=⟨b,0,none⟩) hl,h1];rfl),hs.set (fun e=>by have:=hn b e;omega),fun g hg=>Nat.le_trans hb.size (hn g hg),(zT hb h').setCell (p:=⟨b,0,none⟩) hB v⟩
theorem zdJ(w:World):zC 259 #[] w (zhZ w anyF):=by
 have HH:Hid (∀W:World,zC 303 #[.int .i64 0,.int .i64 1000000000] W (fun e w'=>∃v',e=.returned (.agg #[v'])/\zaO w' v' anyF/\(∀g,v'.ownBlock=some g->W.heap.size<=g)/\zB W w')):=fun W=>zks 0 1000000000 W;have h1:=zh7 w (.slice none 0 0) 128;have f1:=zmn w (.slice none 0 0) 128;have b1:zB w (w.alloc (.cells #[.slice none 0 0] 128)):=zF.alloc zN _;have l1:w.heap.size<(w.alloc (.cells #[.slice none 0 0] 128)).heap.size:=by rw[World.size_alloc];omega
 have H1:=zH h1;have F1:=zH f1;have B1:=zH b1;have L1:=zH l1;clear h1 f1 b1 l1;go_enter Tryz.func259,Tryz.ntmps259;go_wp2_with fail;generalize w.alloc (.cells #[.slice none 0 0] 128)=W1 at *;refine(HH.out _).mono ?_;rintro e w' ⟨v',rfl,hs,hn,hb⟩;obtain⟨va,vc,rfl⟩:=hs.form;have hc:=(hb.cell (p:=⟨w.heap.size,0,none⟩) L1.out).trans H1.out;have hf:=(hb.frozen (p:=⟨w.heap.size,0,none⟩) L1.out).trans F1.out;have HP:=zH (zbW B1.out H1.out zN L1.out hs hn hb);clear hs hn hb;go_wp2;obtain⟨h3,h4,h5,h6⟩:=HP.out;refine bodyPost_ret (v:=.agg #[.slice va anyF.length vc]) (by simp[results,Tryz.results259,go_sem,h3]) rfl ?_;exact⟨_,rfl,h4,h5,h6⟩
end
section
open Go.RowKit Sv
theorem zrd(l m:List Span)(hl:Rg l)(hm:Rg m)(v u:Value)(w:World)(hv:zaO w v l)(hu:zaO w u m) :
  zC 198 #[.agg #[v],.agg #[u]] w (zhZ w (orr l m)):=by
 obtain⟨a,cap,rfl⟩:=hv.form;obtain⟨b,cbp,rfl⟩:=hu.form;have hB:=(zsd w (.slice a l.length cap) (.slice b m.length cbp) (.slice none 0 0) 128 128 128).below;have HN1:Hid (∀W,zB w W->zC 262 #[.agg #[.slice a l.length cap]] W (fun e w'=>∃a' c',e=.returned (.agg #[.slice a' (nt l).length c'])/\zaO w' (.slice a' (nt l).length c') (nt l)/\zB W w')):=fun W hW=>(zga l hl _ W (hv.below hW zN)).mono fun e w' ⟨v',he,hs,hn,hb⟩=>by obtain⟨a',c',rfl⟩:=hs.form;exact⟨a',c',he,hs,hb⟩
 have HN2:Hid (∀W,zB w W->zC 262 #[.agg #[.slice b m.length cbp]] W (fun e w'=>∃a' c',e=.returned (.agg #[.slice a' (nt m).length c'])/\zaO w' (.slice a' (nt m).length c') (nt m)/\zB W w')):=fun W hW=>(zga m hm _ W (hu.below hW zN)).mono fun e w' ⟨v',he,hs,hn,hb⟩=>by obtain⟨a',c',rfl⟩:=hs.form;exact⟨a',c',he,hs,hb⟩
 have HA:Hid (∀v1 v2 W,zaO W v1 (nt l)->zaO W v2 (nt m)->zC 261 #[.agg #[v1],.agg #[v2]] W (fun e w'=>∃a' c',e=.returned (.agg #[.slice a' (nd (nt l) (nt m)).length c'])/\zaO w' (.slice a' (nd (nt l) (nt m)).length c') (nd (nt l) (nt m))/\zB W w')):=fun v1 v2 W h1 h2=>(zkP _ _ (zdf hl) (zdf hm) v1 v2 W h1 h2).mono fun e w' ⟨v',he,hs,hn,hb⟩=>by obtain⟨a',c',rfl⟩:=hs.form;exact⟨a',c',he,hs,hb⟩
 have HN3:Hid (∀v1 W,zaO W v1 (nd (nt l) (nt m))->zC 262 #[.agg #[v1]] W (fun e w'=>∃a' c',e=.returned (.agg #[.slice a' (orr l m).length c'])/\zaO w' (.slice a' (orr l m).length c') (orr l m)/\(∀g,(Value.slice a' (orr l m).length c').ownBlock=some g->W.heap.size<=g)/\zB W w')):=fun v1 W h1=>(zga _ (zf7 (zdf hl) (zdf hm)) v1 W h1).mono fun e w' ⟨v',he,hs,hn,hb⟩=>by obtain⟨a',c',rfl⟩:=hs.form;exact⟨a',c',he,hs,hn,hb⟩
 have hbox:=zsd w (.slice a l.length cap) (.slice b m.length cbp) (.slice none 0 0) 128 128 128;clear hv hu hl hm hB;go_enter Tryz.func198,Tryz.ntmps198;go_wp2_with fail;generalize ((w.alloc (.cells #[.slice a l.length cap] 128)).alloc (.cells #[.slice b m.length cbp] 128)).alloc (.cells #[.slice none 0 0] 128)=W0 at *;have hs0:=hbox.size;have hB0:=hbox.below;have hr0:=hbox.c0;have ho0:=hbox.c1;have hc0:=hbox.c2;have hf0:=hbox.f2;have SC:Hid (∀W,Below (w.heap.size+2) W0 W->W.cell? ⟨w.heap.size,0,none⟩=some (.slice a l.length cap)/\W.cell? ⟨w.heap.size+1,0,none⟩=some (.slice b m.length cbp)):=fun W hb=>⟨(hb.cell (p:=⟨w.heap.size,0,none⟩) (by show w.heap.size<_;omega)).trans hr0,(hb.cell (p:=⟨w.heap.size+1,0,none⟩) (by show w.heap.size+1<_;omega)).trans ho0⟩;have HB0:=zH hB0;have HS0:=zH hs0;have HC0:=zH hc0;have HF0:=zH hf0;have L0:Hid (w.heap.size+2<=W0.heap.size):=by show w.heap.size+2<=W0.heap.size;omega
 have L1:Hid (w.heap.size+1+1<W0.heap.size):=by show w.heap.size+1+1<W0.heap.size;omega
 have D0:zB W0 W0.drew:=zF.drew;have E0:zB w W0.drew:=hB0.drew;clear hbox hs0 hB0 hr0 ho0 hc0 hf0;go_region_held3 (fun w'=>w'.cell? ⟨w.heap.size,0,none⟩=some (.slice a l.length cap)/\w'.cell? ⟨w.heap.size+1,0,none⟩=some (.slice b m.length cbp)) (first|exact SC.out _ (D0.mono L0.out)|exact SC.out _ (D1.mono L0.out)|exact SC.out _ (D2.mono L0.out)|exact SC.out _ (D3.mono L0.out)|exact SC.out _ (D4.mono L0.out)|exact SC.out _ D5)
  (first
   |((with_reducible refine(HN1.out _ E0).mono ?_);rintro e w1 ⟨a1,c1,rfl,hs1,hb1⟩;have D1:zB W0 w1:=D0.trans hb1;have E1:zB w w1:=zT E0 hb1;clear HN1)
   |((with_reducible refine(HN2.out _ E1).mono ?_);rintro e w2 ⟨a2,c2,rfl,hs2,hb2⟩;have D2:zB W0 w2:=zT D1 hb2;have hs12:=hs1.below hb2 zN;clear HN2)
   |((with_reducible refine(HA.out _ _ _ hs12 hs2).mono ?_);rintro e w3 ⟨a3,c3,rfl,hs3,hb3⟩;have D3:zB W0 w3:=zT D2 hb3;clear HA)
   | ((with_reducible refine (HN3.out _ _ hs3).mono ?_);rintro e w4 ⟨a4,c4,rfl,hs4,hn4,hb4⟩;have D4:zB W0 w4:=zT D3 hb4;have hc4:=(D4.cell (p:=⟨w.heap.size + 1 + 1,0,none⟩) L1.out).trans HC0.out;have hf4:=(D4.frozen (p:=⟨w.heap.size + 1 + 1,0,none⟩) L1.out).trans HF0.out;have D5:Below (w.heap.size + 2) W0 (w4.setCell ⟨w.heap.size + 1 + 1,0,none⟩ (.slice a4 (orr l m).length c4)):=(D4.mono L0.out).setCell (p:=⟨w.heap.size + 1 + 1,0,none⟩) zN _;clear HN3))
 have hn:∀g,(Value.slice a4 (orr l m).length c4).ownBlock=some g->W0.heap.size<=g:=fun g hg=>Nat.le_trans D3.size (hn4 g hg);have HP:=zH (zbW HB0.out HC0.out (by omega) L1.out hs4 hn D4);clear hs1 hs2 hs12 hs3 hs4 hn4 hn hb1 hb2 hb3 hb4 D0 D1 D2 D3 D4 D5 E0 E1;go_wp2;obtain⟨h3,h4,h5,h6⟩:=HP.out;refine bodyPost_ret (v:=.agg #[.slice a4 (orr l m).length c4]) (by simp[results,Tryz.results198,go_sem,h3]) rfl ?_;exact⟨_,rfl,h4,h5,h6⟩
end
end Go.Proofs.YtiihalknffbjpaaGreatDoor
