/- Or, Empty. -/
import Derived.Test.YtiihalknffbjpaaGreatDoorSvNot
set_option maxHeartbeats 8000000
set_option maxRecDepth 100000
namespace Go.Proofs.YtiihalknffbjpaaGreatDoor
section
open Go.RowKit Sv
theorem andF_step {l m:List Span} {i j:Nat} (hi:i<l.length) (hj:j<m.length):andF (l.drop i) (m.drop j)=(if max (sp l i).1 (sp m j).1<min (sp l i).2 (sp m j).2 then [(max (sp l i).1 (sp m j).1,min (sp l i).2 (sp m j).2)] else [])++(if (sp l i).2<(sp m j).2 then andF (l.drop (i + 1)) (m.drop j) else andF (l.drop i) (m.drop (j + 1))):=by
 rw [List.drop_eq_getElem_cons hi,List.drop_eq_getElem_cons hj,andF,<- sp_at l i hi,<- sp_at m j hj]
theorem and_any (l m:List Span) (hl:Rg l) (hm:Rg m) (v u:Value) (w:World) (hv:SpAt w v l) (hu:SpAt w u m) :
  Calls Tryz.prog 261 #[.agg #[v],.agg #[u]] w (RgOut w (nd l m)):=by
 obtain ⟨i0,hin,hz0,hz1,hz2⟩:=info_parts infoSpan
 obtain ⟨a,cap,rfl⟩:=hv.form
 obtain ⟨b,cbp,rfl⟩:=hu.form
 have hlen:=rg_len hl
 have hmlen:=rg_len hm
 have hnlen:=rg_len (rg_nd hl hm)
 have HL:=Lib.hid hl
 have HM:=Lib.hid hm
 have HV:=Lib.hid hv
 have HU:=Lib.hid hu
 clear hl hv hm hu
 go_enter Tryz.func261,Tryz.ntmps261
 go_wp2_with fail
 obtain ⟨W0,hW0⟩:∃ W0,((w.alloc (.cells #[.slice a l.length cap] 128)).alloc (.cells #[.slice b m.length cbp] 128)).alloc (.cells #[.slice none 0 0] 128)=W0:=⟨_,rfl⟩
 have hbox:Box3 w W0 (.slice a l.length cap) (.slice b m.length cbp) (.slice none 0 0):=hW0 ▸ box3 w _ _ _ _ _ _
 have hB0:=hbox.below
 have hs0:=hbox.size
 have hr0:=hbox.c0
 have ho0:=hbox.c1
 have hc0:=hbox.c2
 have hf0:=hbox.f2
 clear hbox
 have HV0:Hid (SpAt W0 (.slice a l.length cap) l):=HV.out.below hB0 (Nat.le_refl _)
 have HU0:Hid (SpAt W0 (.slice b m.length cbp) m):=HU.out.below hB0 (Nat.le_refl _)
 have HB0:=Lib.hid hB0
 have HC0:=Lib.hid hc0
 have HF0:=Lib.hid hf0
 have HR0:=Lib.hid hr0
 have HO0:=Lib.hid ho0
 rw [hW0]
 clear hB0 hc0 hf0 hW0 HV HU hr0 ho0
 go_loopw [5,6,7] (fun bV iV jV wr=>∃ (i j:Nat) (acc:List Span),i<=l.length/\j<=m.length/\iV=.int .i64 (i:Int)/\jV=.int .i64 (j:Int)/\acc++andF (l.drop i) (m.drop j)=nd l m/\wr.ownsRow (w.heap.size + 3) 402 2 bV acc.length (scells acc)/\Below (w.heap.size + 3) W0 wr) (fun _ iV jV _=>(l.length - (intOf iV).toNat) + (m.length - (intOf jV).toNat))
 case atStart=>exact ⟨0,0,[],Nat.zero_le _,Nat.zero_le _,rfl,rfl,rfl,World.ownsRow_nil _ _ _ _,Below.refl _ _⟩
 case round =>
  obtain ⟨i,j,acc,hi,hj,rfl,rfl,hres,hrow,hbr⟩:=hrel
  obtain ⟨ra,rc,rfl⟩:=row_form2 hrow
  have hal:acc.length<=(nd l m).length:=by rw [<- hres];simp
  have hws:=hbr.size
  rw [hs0] at hws
  have hr1:=(hbr.cell (p:=⟨w.heap.size,0,none⟩) (by show w.heap.size<_;omega)).trans HR0.out
  have ho1:=(hbr.cell (p:=⟨w.heap.size + 1,0,none⟩) (by show w.heap.size + 1<_;omega)).trans HO0.out
  have HROW:=Lib.hid hrow
  have HBR:=Lib.hid hbr
  have HR:=Lib.hid hres
  clear hrow hbr hres
  by_cases hlt:i<l.length
  ·by_cases hjt:j<m.length
   ·obtain ⟨g,cap',e1,hg,c0,c1⟩:=(HV0.out.below HBR.out (Nat.le_of_eq hs0)).cells i hlt
    simp at e1
    obtain ⟨rfl,rfl⟩:=e1
    obtain ⟨g2,cap2,e2,hg2,d0,d1⟩:=(HU0.out.below HBR.out (Nat.le_of_eq hs0)).cells j hjt
    simp at e2
    obtain ⟨rfl,rfl⟩:=e2
    have hin1:i * 2<i * 2 + 1:=Nat.lt_succ_self _
    have SC:Hid (∀ W,Below wr.heap.size wr W->(W.cell? ⟨w.heap.size,0,none⟩=some (.slice (some ⟨g,0,none⟩) l.length cap)/\W.cell? ⟨w.heap.size + 1,0,none⟩=some (.slice (some ⟨g2,0,none⟩) m.length cbp)/\W.cell? ⟨g,i * 2,none⟩=some (.int .i64 ((sp l i).1:Int))/\W.cell? ⟨g,i * 2 + 1,none⟩=some (.int .i64 ((sp l i).2:Int))/\W.cell? ⟨g2,j * 2,none⟩=some (.int .i64 ((sp m j).1:Int))/\W.cell? ⟨g2,j * 2 + 1,none⟩=some (.int .i64 ((sp m j).2:Int)))):=fun W hb =>
     ⟨(hb.cell (p:=⟨w.heap.size,0,none⟩) (by show w.heap.size<_;omega)).trans hr1,(hb.cell (p:=⟨w.heap.size + 1,0,none⟩) (by show w.heap.size + 1<_;omega)).trans ho1,(hb.cell (p:=⟨g,i * 2,none⟩) hg).trans c0,(hb.cell (p:=⟨g,i * 2 + 1,none⟩) hg).trans c1,(hb.cell (p:=⟨g2,j * 2,none⟩) hg2).trans d0,(hb.cell (p:=⟨g2,j * 2 + 1,none⟩) hg2).trans d1⟩
    go_wp2_with fail
    go_region_held3 (fun w'=>w'.cell? ⟨w.heap.size,0,none⟩=some (.slice (some ⟨g,0,none⟩) l.length cap)/\w'.cell? ⟨w.heap.size + 1,0,none⟩=some (.slice (some ⟨g2,0,none⟩) m.length cbp)/\w'.cell? ⟨g,i * 2,none⟩=some (.int .i64 ((sp l i).1:Int))/\w'.cell? ⟨g,i * 2 + 1,none⟩=some (.int .i64 ((sp l i).2:Int))/\w'.cell? ⟨g2,j * 2,none⟩=some (.int .i64 ((sp m j).1:Int))/\w'.cell? ⟨g2,j * 2 + 1,none⟩=some (.int .i64 ((sp m j).2:Int))) ((refine SC.out _ ?_;repeat' (first | exact Below.refl _ _ | refine Below.drew ?_ | refine Below.alloc ?_ (by simp) _ | refine Below.alloc ?_ (by simp;omega) _ | refine Below.setCell (p:=_) ?_ (by simp) _))) (first | fail)
    ·have h2:=two_st wr (.int .i64 ((sp l i).1:Int)) (.int .i64 ((sp l i).2:Int)) (.int .i64 ((sp m j).1:Int)) (.int .i64 ((sp m j).2:Int)) 402 402
     generalize ((wr.alloc (.cells #[.int .i64 ((sp l i).1:Int),.int .i64 ((sp l i).2:Int)] 402)).alloc (.cells #[.int .i64 ((sp m j).1:Int),.int .i64 ((sp m j).2:Int)] 402)).drew=W1 at *
     have hres:=HR.out
     rw [andF_step hlt hjt] at hres
     generalize (sp l i).1=A at *
     generalize (sp l i).2=T at *
     generalize (sp m j).1=C at *
     generalize (sp m j).2=D at *
     have s0:=h2.s0
     have s1:=h2.s1
     have t0:=h2.t0
     have t1:=h2.t1
     have HRS:=Lib.hid hres
     clear c0 c1 d0 d1 hres HR
     go_wp2_with fail
     go_quiet (fail)
     have h3:=h2.drewN nq
     generalize W1.drewN nq=W2 at *
     have HROW2:=Lib.hid (row_below HROW.out h3.below (Nat.le_refl _))
     have hb2:=h3.below
     have hws2:=hb2.size
     have hls:=h3.ls
     have hlt2:=h3.lt
     have hbs:=h3.hs
     have hbt:=h3.ht
     have HB2:Hid (Below (w.heap.size + 3) W0 W2):=HBR.out.trans (hb2.mono hws)
     have u1:=h3.s1
     have u3:=h3.t1
     clear hb2 s0 s1 t0 t1 h2 h3 HBR SC
     by_cases hmx:max A C<min T D
     ·have hmx':max (A:Int) (C:Int)<min (T:Int) (D:Int):=by omega
      have hres:=HRS.out
      rw [if_pos hmx] at hres
      have hal2:(acc++[(max A C,min T D)]).length<=(nd l m).length:=by rw [<- hres,<- List.append_assoc];simp
      simp at hal2
      have eM:((max A C:Nat):Int)=max (A:Int) (C:Int):=by omega
      have eN:((min T D:Nat):Int)=min (T:Int) (D:Int):=by omega
      have HEM:=Lib.hid eM
      have HEN:=Lib.hid eN
      have HRS2:=Lib.hid hres
      clear hres HRS eM eN
      go_wp2_with (at_builtin;refine wpList_append_own_at _ rfl _ _ 126 rfl (w.heap.size + 3) 402 i0 (.agg #[.int .i64 0,.int .i64 0]) 2 16 Tryz.underlying126 hin hz0 hz1 hz2 rfl (by decide) _ _ _ rfl (HROW2.out.alloc _) ⟨W2.heap.size,0,none⟩ 1 1 [.int .i64 (max (A:Int) (C:Int)),.int .i64 (min (T:Int) (D:Int))] rfl rfl (cell_two_new _ _ _ _) ?c2 ?c3 ?c4 ?c5 ?_)
      case c2=>intro u hu;simp at hu;rcases hu with rfl | rfl <;> rfl
      case c3=>unfold maxLen;omega
      case c4=>omega
      case c5=>show w.heap.size + 3<=(World.alloc _ _).heap.size;rw [World.size_alloc];omega
      intro v7 w7 hown7 hgrow7 _ hloc7
      have hb7:Below (w.heap.size + 3) W0 w7:=((HB2.out.alloc (by omega) _).grown hgrow7 (by rw [World.size_alloc];omega) (fun k hk=>(HROW2.out.lt k hk).1))
      have x1:w7.cell? ⟨wr.heap.size,1,none⟩=some (.int .i64 (T:Int)):=by
       rw [grown_cell hgrow7 (by rw [World.size_alloc];omega) (row_old HROW.out hbs)]
       exact (((Below.refl W2.heap.size W2).alloc (Nat.le_refl _) _).cell (p:=⟨wr.heap.size,1,none⟩) hls).trans u1
      have x3:w7.cell? ⟨wr.heap.size + 1,1,none⟩=some (.int .i64 (D:Int)):=by
       rw [grown_cell hgrow7 (by rw [World.size_alloc];omega) (row_old HROW.out hbt)]
       exact (((Below.refl W2.heap.size W2).alloc (Nat.le_refl _) _).cell (p:=⟨wr.heap.size + 1,1,none⟩) hlt2).trans u3
      have e7:(acc++[(max A C,min T D)]).length=acc.length + 1:=by simp
      have es:scells (acc++[(max A C,min T D)])=scells acc++[.int .i64 (max (A:Int) (C:Int)),.int .i64 (min (T:Int) (D:Int))]:=by rw [scells_append,<- HEM.out,<- HEN.out];rfl
      rw [<- es,<- e7] at hown7
      have HO7:=Lib.hid hown7
      have HB7:=Lib.hid hb7
      clear hown7 hgrow7 hloc7 hb7 e7 es u1 u3
      by_cases hTD:T<D
      ·have hres:=HRS2.out
       rw [if_pos hTD,<- List.append_assoc] at hres
       have HRS3:=Lib.hid hres
       clear hres HRS2
       go_wp2
       go_roundw
       case rel=>exact ⟨i + 1,j,acc++[(max A C,min T D)],by omega,by omega,rfl,rfl,HRS3.out,HO7.out,HB7.out⟩
       case measure=>simp [intOf];omega
      ·have hres:=HRS2.out
       rw [if_neg hTD,<- List.append_assoc] at hres
       have HRS3:=Lib.hid hres
       clear hres HRS2
       go_wp2
       go_roundw
       case rel=>exact ⟨i,j + 1,acc++[(max A C,min T D)],by omega,by omega,rfl,rfl,HRS3.out,HO7.out,HB7.out⟩
       case measure=>simp [intOf];omega
     ·have hmx':¬ max (A:Int) (C:Int)<min (T:Int) (D:Int):=by omega
      have hres:=HRS.out
      rw [if_neg hmx,List.nil_append] at hres
      have HRS2:=Lib.hid hres
      clear hres HRS
      by_cases hTD:T<D
      ·have hres:=HRS2.out
       rw [if_pos hTD] at hres
       have HRS3:=Lib.hid hres
       clear hres HRS2
       go_wp2
       go_roundw
       case rel=>exact ⟨i + 1,j,acc,by omega,by omega,rfl,rfl,HRS3.out,HROW2.out,HB2.out⟩
       case measure=>simp [intOf];omega
      ·have hres:=HRS2.out
       rw [if_neg hTD] at hres
       have HRS3:=Lib.hid hres
       clear hres HRS2
       go_wp2
       go_roundw
       case rel=>exact ⟨i,j + 1,acc,by omega,by omega,rfl,rfl,HRS3.out,HROW2.out,HB2.out⟩
       case measure=>simp [intOf];omega
    ·have h2:=two_ts wr (.int .i64 ((sp l i).1:Int)) (.int .i64 ((sp l i).2:Int)) (.int .i64 ((sp m j).1:Int)) (.int .i64 ((sp m j).2:Int)) 402 402
     generalize ((wr.alloc (.cells #[.int .i64 ((sp m j).1:Int),.int .i64 ((sp m j).2:Int)] 402)).alloc (.cells #[.int .i64 ((sp l i).1:Int),.int .i64 ((sp l i).2:Int)] 402)).drew=W1 at *
     have hres:=HR.out
     rw [andF_step hlt hjt] at hres
     generalize (sp l i).1=A at *
     generalize (sp l i).2=T at *
     generalize (sp m j).1=C at *
     generalize (sp m j).2=D at *
     have s0:=h2.s0
     have s1:=h2.s1
     have t0:=h2.t0
     have t1:=h2.t1
     have HRS:=Lib.hid hres
     clear c0 c1 d0 d1 hres HR
     go_wp2_with fail
     go_quiet (fail)
     have h3:=h2.drewN nq
     generalize W1.drewN nq=W2 at *
     have HROW2:=Lib.hid (row_below HROW.out h3.below (Nat.le_refl _))
     have hb2:=h3.below
     have hws2:=hb2.size
     have hls:=h3.ls
     have hlt2:=h3.lt
     have hbs:=h3.hs
     have hbt:=h3.ht
     have HB2:Hid (Below (w.heap.size + 3) W0 W2):=HBR.out.trans (hb2.mono hws)
     have u1:=h3.s1
     have u3:=h3.t1
     clear hb2 s0 s1 t0 t1 h2 h3 HBR SC
     by_cases hmx:max A C<min T D
     ·have hmx':max (A:Int) (C:Int)<min (T:Int) (D:Int):=by omega
      have hres:=HRS.out
      rw [if_pos hmx] at hres
      have hal2:(acc++[(max A C,min T D)]).length<=(nd l m).length:=by rw [<- hres,<- List.append_assoc];simp
      simp at hal2
      have eM:((max A C:Nat):Int)=max (A:Int) (C:Int):=by omega
      have eN:((min T D:Nat):Int)=min (T:Int) (D:Int):=by omega
      have HEM:=Lib.hid eM
      have HEN:=Lib.hid eN
      have HRS2:=Lib.hid hres
      clear hres HRS eM eN
      go_wp2_with (at_builtin;refine wpList_append_own_at _ rfl _ _ 126 rfl (w.heap.size + 3) 402 i0 (.agg #[.int .i64 0,.int .i64 0]) 2 16 Tryz.underlying126 hin hz0 hz1 hz2 rfl (by decide) _ _ _ rfl (HROW2.out.alloc _) ⟨W2.heap.size,0,none⟩ 1 1 [.int .i64 (max (A:Int) (C:Int)),.int .i64 (min (T:Int) (D:Int))] rfl rfl (cell_two_new _ _ _ _) ?c2 ?c3 ?c4 ?c5 ?_)
      case c2=>intro u hu;simp at hu;rcases hu with rfl | rfl <;> rfl
      case c3=>unfold maxLen;omega
      case c4=>omega
      case c5=>show w.heap.size + 3<=(World.alloc _ _).heap.size;rw [World.size_alloc];omega
      intro v7 w7 hown7 hgrow7 _ hloc7
      have hb7:Below (w.heap.size + 3) W0 w7:=((HB2.out.alloc (by omega) _).grown hgrow7 (by rw [World.size_alloc];omega) (fun k hk=>(HROW2.out.lt k hk).1))
      have x1:w7.cell? ⟨wr.heap.size + 1,1,none⟩=some (.int .i64 (T:Int)):=by
       rw [grown_cell hgrow7 (by rw [World.size_alloc];omega) (row_old HROW.out hbs)]
       exact (((Below.refl W2.heap.size W2).alloc (Nat.le_refl _) _).cell (p:=⟨wr.heap.size + 1,1,none⟩) hls).trans u1
      have x3:w7.cell? ⟨wr.heap.size,1,none⟩=some (.int .i64 (D:Int)):=by
       rw [grown_cell hgrow7 (by rw [World.size_alloc];omega) (row_old HROW.out hbt)]
       exact (((Below.refl W2.heap.size W2).alloc (Nat.le_refl _) _).cell (p:=⟨wr.heap.size,1,none⟩) hlt2).trans u3
      have e7:(acc++[(max A C,min T D)]).length=acc.length + 1:=by simp
      have es:scells (acc++[(max A C,min T D)])=scells acc++[.int .i64 (max (A:Int) (C:Int)),.int .i64 (min (T:Int) (D:Int))]:=by rw [scells_append,<- HEM.out,<- HEN.out];rfl
      rw [<- es,<- e7] at hown7
      have HO7:=Lib.hid hown7
      have HB7:=Lib.hid hb7
      clear hown7 hgrow7 hloc7 hb7 e7 es u1 u3
      by_cases hTD:T<D
      ·have hres:=HRS2.out
       rw [if_pos hTD,<- List.append_assoc] at hres
       have HRS3:=Lib.hid hres
       clear hres HRS2
       go_wp2
       go_roundw
       case rel=>exact ⟨i + 1,j,acc++[(max A C,min T D)],by omega,by omega,rfl,rfl,HRS3.out,HO7.out,HB7.out⟩
       case measure=>simp [intOf];omega
      ·have hres:=HRS2.out
       rw [if_neg hTD,<- List.append_assoc] at hres
       have HRS3:=Lib.hid hres
       clear hres HRS2
       go_wp2
       go_roundw
       case rel=>exact ⟨i,j + 1,acc++[(max A C,min T D)],by omega,by omega,rfl,rfl,HRS3.out,HO7.out,HB7.out⟩
       case measure=>simp [intOf];omega
     ·have hmx':¬ max (A:Int) (C:Int)<min (T:Int) (D:Int):=by omega
      have hres:=HRS.out
      rw [if_neg hmx,List.nil_append] at hres
      have HRS2:=Lib.hid hres
      clear hres HRS
      by_cases hTD:T<D
      ·have hres:=HRS2.out
       rw [if_pos hTD] at hres
       have HRS3:=Lib.hid hres
       clear hres HRS2
       go_wp2
       go_roundw
       case rel=>exact ⟨i + 1,j,acc,by omega,by omega,rfl,rfl,HRS3.out,HROW2.out,HB2.out⟩
       case measure=>simp [intOf];omega
      ·have hres:=HRS2.out
       rw [if_neg hTD] at hres
       have HRS3:=Lib.hid hres
       clear hres HRS2
       go_wp2
       go_roundw
       case rel=>exact ⟨i,j + 1,acc,by omega,by omega,rfl,rfl,HRS3.out,HROW2.out,HB2.out⟩
       case measure=>simp [intOf];omega
   ·obtain rfl:j=m.length:=by omega
    have hres:=HR.out
    rw [List.drop_length,andF_nil_right,List.append_nil] at hres
    have hc1:=(HBR.out.cell (p:=⟨w.heap.size + 1 + 1,0,none⟩) (by show w.heap.size + 1 + 1<_;omega)).trans HC0.out
    have hf1:=(HBR.out.frozen (p:=⟨w.heap.size + 1 + 1,0,none⟩) (by show w.heap.size + 1 + 1<_;omega)).trans HF0.out
    have hown8:(wr.setCell ⟨w.heap.size + 1 + 1,0,none⟩ (.slice ra acc.length rc)).ownsRow (w.heap.size + 3) 402 2 (.slice ra acc.length rc) acc.length (scells acc):=row_set HROW.out (by omega)
    have HG8:Hid (∀ g,(Value.slice ra acc.length rc).ownBlock=some g->w.heap.size<=g):=fun g hg=>by have:=(hown8.lt g hg).1;omega
    have HS8:Hid (SpAt (wr.setCell ⟨w.heap.size + 1 + 1,0,none⟩ (.slice ra acc.length rc)) (.slice ra acc.length rc) (nd l m)):=hres ▸ spAt_row hown8
    have HW7:=Lib.hid ((HB0.out.trans (HBR.out.mono (Nat.le_add_right _ 3))).setCell (p:=⟨w.heap.size + 1 + 1,0,none⟩) (by show w.heap.size<=w.heap.size + 1 + 1;omega) (.slice ra acc.length rc))
    have hr8:(wr.setCell ⟨w.heap.size + 1 + 1,0,none⟩ (.slice ra acc.length rc)).cell? ⟨w.heap.size + 1 + 1,0,none⟩=some (.slice ra acc.length rc):=World.cell?_setCell_same' _ _ _ (by rw [hc1];rfl)
    have HR8:=Lib.hid hr8
    clear hown8 hr8 hres
    go_wp2
    have hr8:=HR8.out
    refine bodyPost_ret (v:=.agg #[.slice ra acc.length rc]) (by simp [results,Tryz.results261,go_sem,hr8]) rfl ?_
    exact ⟨_,rfl,HS8.out,HG8.out,HW7.out⟩
  ·obtain rfl:i=l.length:=by omega
   have hres:=HR.out
   rw [List.drop_length,andF,List.append_nil] at hres
   have hc1:=(HBR.out.cell (p:=⟨w.heap.size + 1 + 1,0,none⟩) (by show w.heap.size + 1 + 1<_;omega)).trans HC0.out
   have hf1:=(HBR.out.frozen (p:=⟨w.heap.size + 1 + 1,0,none⟩) (by show w.heap.size + 1 + 1<_;omega)).trans HF0.out
   have hown8:(wr.setCell ⟨w.heap.size + 1 + 1,0,none⟩ (.slice ra acc.length rc)).ownsRow (w.heap.size + 3) 402 2 (.slice ra acc.length rc) acc.length (scells acc):=row_set HROW.out (by omega)
   have HG8:Hid (∀ g,(Value.slice ra acc.length rc).ownBlock=some g->w.heap.size<=g):=fun g hg=>by have:=(hown8.lt g hg).1;omega
   have HS8:Hid (SpAt (wr.setCell ⟨w.heap.size + 1 + 1,0,none⟩ (.slice ra acc.length rc)) (.slice ra acc.length rc) (nd l m)):=hres ▸ spAt_row hown8
   have HW7:=Lib.hid ((HB0.out.trans (HBR.out.mono (Nat.le_add_right _ 3))).setCell (p:=⟨w.heap.size + 1 + 1,0,none⟩) (by show w.heap.size<=w.heap.size + 1 + 1;omega) (.slice ra acc.length rc))
   have hr8:(wr.setCell ⟨w.heap.size + 1 + 1,0,none⟩ (.slice ra acc.length rc)).cell? ⟨w.heap.size + 1 + 1,0,none⟩=some (.slice ra acc.length rc):=World.cell?_setCell_same' _ _ _ (by rw [hc1];rfl)
   have HR8:=Lib.hid hr8
   clear hown8 hr8 hres
   go_wp2
   have hr8:=HR8.out
   refine bodyPost_ret (v:=.agg #[.slice ra acc.length rc]) (by simp [results,Tryz.results261,go_sem,hr8]) rfl ?_
   exact ⟨_,rfl,HS8.out,HG8.out,HW7.out⟩
end
section
open Go.RowKit Sv
theorem row_any (a b:Nat) (w:World) :
  Calls Tryz.prog 303 #[.int .i64 (a:Int),.int .i64 (b:Int)] w (RgOut w (rowF a b)):=by
 by_cases h:a<b
 ·have h':¬ (b:Int)<=(a:Int):=by omega
  have hb:=((Below.refl w.heap.size w).alloc (Nat.le_refl _) (.cells #[.slice (some ⟨w.heap.size + 1,0,none⟩) 1 1] 128)).alloc (by rw [World.size_alloc];omega) (.cells #[.int .i64 (a:Int),.int .i64 (b:Int)] 402)
  have h2:=cell2 (w.alloc (.cells #[.slice (some ⟨w.heap.size + 1,0,none⟩) 1 1] 128)) (.int .i64 (a:Int)) (.int .i64 (b:Int)) 402
  rw [World.size_alloc] at h2
  have h1:=cell1 w (.slice (some ⟨w.heap.size + 1,0,none⟩) 1 1) 128
  have h3:((w.alloc (.cells #[.slice (some ⟨w.heap.size + 1,0,none⟩) 1 1] 128)).alloc (.cells #[.int .i64 (a:Int),.int .i64 (b:Int)] 402)).cell? ⟨w.heap.size,0,none⟩=some (.slice (some ⟨w.heap.size + 1,0,none⟩) 1 1):=(((Below.refl _ (w.alloc (.cells #[.slice (some ⟨w.heap.size + 1,0,none⟩) 1 1] 128))).alloc (Nat.le_refl _) _).cell (p:=⟨w.heap.size,0,none⟩) (by show w.heap.size<_;rw [World.size_alloc];omega)).trans h1
  have hs:w.heap.size + 1<((w.alloc (.cells #[.slice (some ⟨w.heap.size + 1,0,none⟩) 1 1] 128)).alloc (.cells #[.int .i64 (a:Int),.int .i64 (b:Int)] 402)).heap.size:=by rw [World.size_alloc,World.size_alloc];omega
  have HB:=Lib.hid hb
  have H2:=Lib.hid h2
  have H3:=Lib.hid h3
  have HS:=Lib.hid hs
  clear hb h2 h1 h3 hs
  go_enter Tryz.func303,Tryz.ntmps303
  go_wp2
  have h3:=H3.out
  refine bodyPost_ret (v:=.agg #[.slice (some ⟨w.heap.size + 1,0,none⟩) 1 1]) (by simp [results,Tryz.results303,go_sem,h3]) rfl ?_
  refine ⟨_,rfl,?_,fun g hg=>by simp [Value.ownBlock] at hg;omega,HB.out⟩
  rw [rowF,if_pos h]
  exact ⟨⟨_,_,rfl⟩,fun i hi=>⟨w.heap.size + 1,1,rfl,HS.out,by obtain rfl:i=0:=(by simp at hi;exact hi);exact H2.out.1,by obtain rfl:i=0:=(by simp at hi;exact hi);exact H2.out.2⟩⟩
 ·have h':(b:Int)<=(a:Int):=by omega
  have h1:=cell1 w (.slice none 0 0) 128
  have H1:=Lib.hid h1
  clear h1
  go_enter Tryz.func303,Tryz.ntmps303
  go_wp2
  have h1:=H1.out
  refine bodyPost_ret (v:=.agg #[.slice none 0 0]) (by simp [results,Tryz.results303,go_sem]) rfl ?_
  refine ⟨_,rfl,?_,fun g hg=>by simp [Value.ownBlock] at hg,(Below.refl _ _).alloc (Nat.le_refl _) _⟩
  rw [rowF,if_neg h]
  exact spAt_nil _
theorem put_out {w w1 w':World} {v:Value} {l:List Span} {b:Nat} (hb:Below w.heap.size w w1) (h1:w1.cell? ⟨b,0,none⟩=some (.slice none 0 0)) (hB:w.heap.size<=b) (hl:b<w1.heap.size) (hs:SpAt w' v l) (hn:∀ g,v.ownBlock=some g->w1.heap.size<=g) (h':Below w1.heap.size w1 w') :
  (w'.setCell ⟨b,0,none⟩ v).cell? ⟨b,0,none⟩=some v/\SpAt (w'.setCell ⟨b,0,none⟩ v) v l/\(∀ g,v.ownBlock=some g->w.heap.size<=g)/\Below w.heap.size w (w'.setCell ⟨b,0,none⟩ v):=by
 refine ⟨World.cell?_setCell_same' _ _ _ (by rw [h'.cell (p:=⟨b,0,none⟩) hl,h1];rfl),hs.set (fun e=>by have:=hn b e;omega),fun g hg=>Nat.le_trans hb.size (hn g hg),(hb.trans (h'.mono hb.size)).setCell (p:=⟨b,0,none⟩) hB v⟩
theorem any_any (w:World):Calls Tryz.prog 259 #[] w (RgOut w anyF):=by
 have HH:Hid (∀ W:World,Calls Tryz.prog 303 #[.int .i64 0,.int .i64 1000000000] W (fun e w'=>∃ v',e=.returned (.agg #[v'])/\SpAt w' v' anyF/\(∀ g,v'.ownBlock=some g->W.heap.size<=g)/\Below W.heap.size W w')):=fun W=>row_any 0 1000000000 W
 have h1:=cell1 w (.slice none 0 0) 128
 have f1:=frozen1 w (.slice none 0 0) 128
 have b1:Below w.heap.size w (w.alloc (.cells #[.slice none 0 0] 128)):=(Below.refl _ _).alloc (Nat.le_refl _) _
 have l1:w.heap.size<(w.alloc (.cells #[.slice none 0 0] 128)).heap.size:=by rw [World.size_alloc];omega
 have H1:=Lib.hid h1
 have F1:=Lib.hid f1
 have B1:=Lib.hid b1
 have L1:=Lib.hid l1
 clear h1 f1 b1 l1
 go_enter Tryz.func259,Tryz.ntmps259
 go_wp2_with fail
 generalize w.alloc (.cells #[.slice none 0 0] 128)=W1 at *
 refine (HH.out _).mono ?_
 rintro e w' ⟨v',rfl,hs,hn,hb⟩
 obtain ⟨va,vc,rfl⟩:=hs.form
 have hc:=(hb.cell (p:=⟨w.heap.size,0,none⟩) L1.out).trans H1.out
 have hf:=(hb.frozen (p:=⟨w.heap.size,0,none⟩) L1.out).trans F1.out
 have HP:=Lib.hid (put_out B1.out H1.out (Nat.le_refl _) L1.out hs hn hb)
 clear hs hn hb
 go_wp2
 obtain ⟨h3,h4,h5,h6⟩:=HP.out
 refine bodyPost_ret (v:=.agg #[.slice va anyF.length vc]) (by simp [results,Tryz.results259,go_sem,h3]) rfl ?_
 exact ⟨_,rfl,h4,h5,h6⟩
end
section
open Go.RowKit Sv
theorem or_any (l m:List Span) (hl:Rg l) (hm:Rg m) (v u:Value) (w:World) (hv:SpAt w v l) (hu:SpAt w u m) :
  Calls Tryz.prog 198 #[.agg #[v],.agg #[u]] w (RgOut w (orr l m)):=by
 obtain ⟨a,cap,rfl⟩:=hv.form
 obtain ⟨b,cbp,rfl⟩:=hu.form
 have hB:=(box3 w (.slice a l.length cap) (.slice b m.length cbp) (.slice none 0 0) 128 128 128).below
 have HN1:Hid (∀ W,Below w.heap.size w W->Calls Tryz.prog 262 #[.agg #[.slice a l.length cap]] W (fun e w'=>∃ a' c',e=.returned (.agg #[.slice a' (nt l).length c'])/\SpAt w' (.slice a' (nt l).length c') (nt l)/\Below W.heap.size W w')):=fun W hW=>(not_any l hl _ W (hv.below hW (Nat.le_refl _))).mono fun e w' ⟨v',he,hs,hn,hb⟩=>by obtain ⟨a',c',rfl⟩:=hs.form;exact ⟨a',c',he,hs,hb⟩
 have HN2:Hid (∀ W,Below w.heap.size w W->Calls Tryz.prog 262 #[.agg #[.slice b m.length cbp]] W (fun e w'=>∃ a' c',e=.returned (.agg #[.slice a' (nt m).length c'])/\SpAt w' (.slice a' (nt m).length c') (nt m)/\Below W.heap.size W w')):=fun W hW=>(not_any m hm _ W (hu.below hW (Nat.le_refl _))).mono fun e w' ⟨v',he,hs,hn,hb⟩=>by obtain ⟨a',c',rfl⟩:=hs.form;exact ⟨a',c',he,hs,hb⟩
 have HA:Hid (∀ v1 v2 W,SpAt W v1 (nt l)->SpAt W v2 (nt m)->Calls Tryz.prog 261 #[.agg #[v1],.agg #[v2]] W (fun e w'=>∃ a' c',e=.returned (.agg #[.slice a' (nd (nt l) (nt m)).length c'])/\SpAt w' (.slice a' (nd (nt l) (nt m)).length c') (nd (nt l) (nt m))/\Below W.heap.size W w')):=fun v1 v2 W h1 h2=>(and_any _ _ (rg_nt hl) (rg_nt hm) v1 v2 W h1 h2).mono fun e w' ⟨v',he,hs,hn,hb⟩=>by obtain ⟨a',c',rfl⟩:=hs.form;exact ⟨a',c',he,hs,hb⟩
 have HN3:Hid (∀ v1 W,SpAt W v1 (nd (nt l) (nt m))->Calls Tryz.prog 262 #[.agg #[v1]] W (fun e w'=>∃ a' c',e=.returned (.agg #[.slice a' (orr l m).length c'])/\SpAt w' (.slice a' (orr l m).length c') (orr l m)/\(∀ g,(Value.slice a' (orr l m).length c').ownBlock=some g->W.heap.size<=g)/\Below W.heap.size W w')):=fun v1 W h1=>(not_any _ (rg_nd (rg_nt hl) (rg_nt hm)) v1 W h1).mono fun e w' ⟨v',he,hs,hn,hb⟩=>by obtain ⟨a',c',rfl⟩:=hs.form;exact ⟨a',c',he,hs,hn,hb⟩
 have hbox:=box3 w (.slice a l.length cap) (.slice b m.length cbp) (.slice none 0 0) 128 128 128
 clear hv hu hl hm hB
 go_enter Tryz.func198,Tryz.ntmps198
 go_wp2_with fail
 generalize ((w.alloc (.cells #[.slice a l.length cap] 128)).alloc (.cells #[.slice b m.length cbp] 128)).alloc (.cells #[.slice none 0 0] 128)=W0 at *
 have hs0:=hbox.size
 have hB0:=hbox.below
 have hr0:=hbox.c0
 have ho0:=hbox.c1
 have hc0:=hbox.c2
 have hf0:=hbox.f2
 have SC:Hid (∀ W,Below (w.heap.size + 2) W0 W->W.cell? ⟨w.heap.size,0,none⟩=some (.slice a l.length cap)/\W.cell? ⟨w.heap.size + 1,0,none⟩=some (.slice b m.length cbp)):=fun W hb=>⟨(hb.cell (p:=⟨w.heap.size,0,none⟩) (by show w.heap.size<_;omega)).trans hr0,(hb.cell (p:=⟨w.heap.size + 1,0,none⟩) (by show w.heap.size + 1<_;omega)).trans ho0⟩
 have HB0:=Lib.hid hB0
 have HS0:=Lib.hid hs0
 have HC0:=Lib.hid hc0
 have HF0:=Lib.hid hf0
 have L0:Hid (w.heap.size + 2<=W0.heap.size):=by show w.heap.size + 2<=W0.heap.size;omega
 have L1:Hid (w.heap.size + 1 + 1<W0.heap.size):=by show w.heap.size + 1 + 1<W0.heap.size;omega
 have D0:Below W0.heap.size W0 W0.drew:=(Below.refl _ _).drew
 have E0:Below w.heap.size w W0.drew:=hB0.drew
 clear hbox hs0 hB0 hr0 ho0 hc0 hf0
 go_region_held3 (fun w'=>w'.cell? ⟨w.heap.size,0,none⟩=some (.slice a l.length cap)/\w'.cell? ⟨w.heap.size + 1,0,none⟩=some (.slice b m.length cbp)) (first | exact SC.out _ (D0.mono L0.out) | exact SC.out _ (D1.mono L0.out) | exact SC.out _ (D2.mono L0.out) | exact SC.out _ (D3.mono L0.out) | exact SC.out _ (D4.mono L0.out) | exact SC.out _ D5)
  (first
   | ((with_reducible refine (HN1.out _ E0).mono ?_);rintro e w1 ⟨a1,c1,rfl,hs1,hb1⟩;have D1:Below W0.heap.size W0 w1:=D0.trans hb1;have E1:Below w.heap.size w w1:=E0.trans (hb1.mono E0.size);clear HN1)
   | ((with_reducible refine (HN2.out _ E1).mono ?_);rintro e w2 ⟨a2,c2,rfl,hs2,hb2⟩;have D2:Below W0.heap.size W0 w2:=D1.trans (hb2.mono D1.size);have hs12:=hs1.below hb2 (Nat.le_refl _);clear HN2)
   | ((with_reducible refine (HA.out _ _ _ hs12 hs2).mono ?_);rintro e w3 ⟨a3,c3,rfl,hs3,hb3⟩;have D3:Below W0.heap.size W0 w3:=D2.trans (hb3.mono D2.size);clear HA)
   | ((with_reducible refine (HN3.out _ _ hs3).mono ?_);rintro e w4 ⟨a4,c4,rfl,hs4,hn4,hb4⟩;have D4:Below W0.heap.size W0 w4:=D3.trans (hb4.mono D3.size);have hc4:=(D4.cell (p:=⟨w.heap.size + 1 + 1,0,none⟩) L1.out).trans HC0.out;have hf4:=(D4.frozen (p:=⟨w.heap.size + 1 + 1,0,none⟩) L1.out).trans HF0.out;have D5:Below (w.heap.size + 2) W0 (w4.setCell ⟨w.heap.size + 1 + 1,0,none⟩ (.slice a4 (orr l m).length c4)):=(D4.mono L0.out).setCell (p:=⟨w.heap.size + 1 + 1,0,none⟩) (Nat.le_refl _) _;clear HN3))
 have hn:∀ g,(Value.slice a4 (orr l m).length c4).ownBlock=some g->W0.heap.size<=g:=fun g hg=>Nat.le_trans D3.size (hn4 g hg)
 have HP:=Lib.hid (put_out HB0.out HC0.out (by omega) L1.out hs4 hn D4)
 clear hs1 hs2 hs12 hs3 hs4 hn4 hn hb1 hb2 hb3 hb4 D0 D1 D2 D3 D4 D5 E0 E1
 go_wp2
 obtain ⟨h3,h4,h5,h6⟩:=HP.out
 refine bodyPost_ret (v:=.agg #[.slice a4 (orr l m).length c4]) (by simp [results,Tryz.results198,go_sem,h3]) rfl ?_
 exact ⟨_,rfl,h4,h5,h6⟩
end
end Go.Proofs.YtiihalknffbjpaaGreatDoor
