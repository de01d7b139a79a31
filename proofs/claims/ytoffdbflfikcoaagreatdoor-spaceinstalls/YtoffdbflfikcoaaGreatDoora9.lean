import Derived.Test.YtoffdbflfikcoaaGreatDoora8
open Go.Proofs.Tryz Go.RowKit
set_option maxHeartbeats 8000000
set_option maxRecDepth 100000
namespace Go.Proofs.YtoffdbflfikcoaaGreatDoor
section
open Sv
theorem zoR{l:List zf}{k e:Nat}(hk:k<l.length)(h:e<(sp l k).1):xw e (l.drop k)=(e,(sp l k).1) :: xw (sp l k).2 (l.drop (k+1)):=by
 rw[zrR hk,xw,<-Q9 l k hk,zc3 h]
theorem zjZ{l:List zf}{k e:Nat}(hk:k<l.length)(h:¬e<(sp l k).1):xw e (l.drop k)=xw (sp l k).2 (l.drop (k+1)):=by
 rw[zrR hk,xw,<-Q9 l k hk,zc2 h]
theorem ziM{l:List zf}{k e:Nat}(hk:k<l.length)(h:qV e (l.drop k)):e<=(sp l k).1/\(sp l k).1<(sp l k).2/\(sp l k).2<=ALL/\qV (sp l k).2 (l.drop (k+1)):=by
 rw[zrR hk,<-Q9 l k hk] at h;exact⟨h.1,h.2.1,h.2.2.1,h.2.2.2.mono (zrr _)⟩
theorem Jj(l:List zf)(hl:Rg l)(v:Value)(w:World)(hv:zk w v l) :
  zC 185 #[.agg #[v]] w (Q4 w (nt l)):=by
 obtain⟨i0,ag,ak,am,an⟩:=info_parts zgT;obtain⟨a,a6,rfl⟩:=hv.form;have az:=YB hl;have ah:=YB (xO hl);have HL:=zH hl;have HV:=zH hv;clear hl hv;go_enter func185,ntmps185;go_wp2_with fail;obtain⟨W0,Y⟩:∃W0,(w.alloc (.cells #[.slice a l.length a6] 105)).alloc (.cells #[.slice none 0 0] 105)=W0:=⟨_,rfl⟩;have a7:zB w W0:=by rw[<-Y];exact((zf0 _ w).alloc zN _).alloc (by simp) _
 have ai:W0.heap.size=w.heap.size+2:=by rw[<-Y];simp
 have ad:W0.cell? ⟨w.heap.size+1,0,none⟩=some (.slice none 0 0):=by rw[<-Y];have:=YI (w.alloc (.cells #[.slice a l.length a6] 105)) (.slice none 0 0) 105;rw[zc1] at this;exact this
 have af:W0.frozen? ⟨w.heap.size+1,0,none⟩=false:=by rw[<-Y];simp
 have au:Hid (zk W0 (.slice a l.length a6) l):=HV.out.below a7 zN;have a9:=zH a7;have aa:=zH ad;have ab:=zH af;rw[Y];clear a7 ad af Y HV;go_loopw [3,4,10] (fun gV eV kV wr=>∃(k e:Nat) (q:List zf),k<=l.length/\kV=.int .i64 k/\eV=.int .i64 e/\e<=ALL/\qV e (l.drop k)/\q++xw e (l.drop k)=nt l/\wr.ownsRow (w.heap.size+2) 254 2 gV q.length (q8 q)/\Below (w.heap.size+2) W0 wr) (fun _ _ kV _=>l.length-(intOf kV).toNat)
 case atStart=>exact⟨0,0,[],zf6 _,rfl,rfl,zf6 _,HL.out,rfl,zrp _ _ _ _,zf0 _ _⟩
 case round =>
  obtain⟨k,e,q,hk,rfl,rfl,he,a1,j,K,a8⟩:=hrel;obtain⟨ra,rc,rfl⟩:=zct K;have aA:q.length<=(nt l).length:=by rw[<-j];simp
  have a2:=a8.size;rw[ai] at a2;have J:=zH K;have U:=zH a8;have HC:=zH a1;have HR:=zH j;clear K a8 a1 j
  by_cases hlt:k<l.length
  ·obtain⟨g,av,e1,hg,c0,c1⟩:=(au.out.below U.out (Nat.le_of_eq ai)).cells k hlt;simp at e1;obtain⟨rfl,rfl⟩:=e1;obtain⟨d1,d2,d3,d4⟩:=ziM hlt HC.out;have HD:=zH d4;clear d4
   by_cases hgap:e<(sp l k).1
   ·have j:=HR.out;rw[zoR hlt hgap,List.append_cons] at j;have V:(q++[(e,(sp l k).1)]).length<=(nt l).length:=by rw[<-j];simp
    simp at V;have a0:=zH j;clear j HR;generalize (sp l k).1=A at *;generalize (sp l k).2=T at *;go_wp2_with (at_builtin;refine wpList_append_own_at _ rfl _ _ 103 rfl (w.heap.size+2) 254 i0 (.agg #[(0:Int),(0:Int)]) 2 16 zuc ag ak am an rfl (by decide) _ _ _ rfl ((J.out.alloc _).alloc _) ⟨wr.heap.size+1,0,none⟩ 1 1 [.int .i64 e,.int .i64 A] rfl rfl ?c1 ?c2 ?c3 ?c4 ?c5 ?_)
    case c1=>have:=Jk (wr.alloc (.cells #[A,T] 254)) (.int .i64 e) (.int .i64 A) 254;rw[zc1] at this;exact this
    case c2=>intro u hu;simp at hu;rcases hu with rfl|rfl<;>rfl
    case c3=>unfold maxLen;omega
    case c4=>omega
    case c5=>show (w.heap.size+2)<=(World.alloc _ _).heap.size;simp;omega
    intro v7 w7 o y _ M;have X:Below (w.heap.size+2) W0 w7:=(((U.out.alloc a2 _).alloc (by simp;omega) _).grown y (by simp;omega) (fun k hk=>(J.out.lt k hk).1));have ct:w7.cell? ⟨wr.heap.size,1,none⟩=some (.int .i64 T):=by
     rw[Qq y (by simp;omega) (XE J.out zN)];have:=(Jf wr (.int .i64 A) (.int .i64 T) 254).2;have b1:=((zf0 _ (wr.alloc (.cells #[A,T] 254))).alloc zN (.cells #[e,A] 254)).cell (p:=⟨wr.heap.size,1,none⟩) (by simp);exact b1.trans this
    have e7:(q++[(e,A)]).length=q.length+1:=by simp
    have es:q8 (q++[(e,A)])=q8 q++[.int .i64 e,.int .i64 A]:=by rw[JD];rfl
    rw[<-es,<-e7] at o;have aq:=zH o;have ao:=zH X;clear o y M X e7 es;go_wp2;go_roundw
    case rel=>exact⟨k+1,T,q++[(e,A)],by omega,rfl,rfl,d3,HD.out,a0.out,aq.out,ao.out⟩
    case measure=>simp[intOf];omega
   ·have j:=HR.out;rw[zjZ hlt hgap] at j;have a0:=zH j;clear j HR;generalize (sp l k).1=A at *;generalize (sp l k).2=T at *;go_wp2;go_roundw
    case rel=>exact⟨k+1,T,q,by omega,rfl,rfl,d3,HD.out,a0.out,J.out.alloc _,U.out.alloc a2 _⟩
    case measure=>simp[intOf];omega
  ·obtain rfl:k=l.length:=by omega
   have j:=HR.out;rw[zsV,xw] at j;have ae:=(U.out.cell (p:=⟨w.heap.size+1,0,none⟩) (by show w.heap.size+1<_;omega)).trans aa.out;have ay:=(U.out.frozen (p:=⟨w.heap.size+1,0,none⟩) (by show w.heap.size+1<_;omega)).trans ab.out
   by_cases R:e<ALL
   ·rw[zc3 R] at j;have V:(q++[(e,ALL)]).length<=(nt l).length:=by rw[<-j];simp
    simp at V;have a0:=zH j;have hend':(e:Int)<1000000000:=by unfold ALL at R;omega
    clear j HR;go_wp2_with (at_builtin;refine wpList_append_own_at _ rfl _ _ 103 rfl (w.heap.size+2) 254 i0 (.agg #[(0:Int),(0:Int)]) 2 16 zuc ag ak am an rfl (by decide) _ _ _ rfl (J.out.alloc _) wr.heap.size 1 1 [.int .i64 e,.int .i64 1000000000] rfl rfl (Jk _ _ _ _) ?c2 ?c3 ?c4 ?c5 ?_)
    case c2=>intro u hu;simp at hu;rcases hu with rfl|rfl<;>rfl
    case c3=>unfold maxLen;omega
    case c4=>omega
    case c5=>show (w.heap.size+2)<=(World.alloc _ _).heap.size;simp;omega
    intro v7 w7 o y _ M;have X:Below (w.heap.size+2) W0 w7:=((U.out.alloc a2 _).grown y (by simp;omega) (fun k hk=>(J.out.lt k hk).1));have ax:=(X.cell (p:=⟨w.heap.size+1,0,none⟩) (by show w.heap.size+1<_;omega)).trans aa.out;have aC:=(X.frozen (p:=⟨w.heap.size+1,0,none⟩) (by show w.heap.size+1<_;omega)).trans ab.out;have e7:(q++[(e,ALL)]).length=q.length+1:=by simp
    have es:q8 (q++[(e,ALL)])=q8 q++[.int .i64 e,.int .i64 1000000000]:=by rw[JD];rfl
    rw[<-es,<-e7,a0.out] at o;have aw:=Ko o;obtain⟨va,vc,rfl⟩:=zct o;have aj:zB w (w7.setCell ⟨w.heap.size+1,0,none⟩ (.slice va (nt l).length vc)):=(a9.out.trans (X.mono (zuO _ 2))).setCell (p:=⟨w.heap.size+1,0,none⟩) (by show w.heap.size<=w.heap.size+1;omega) _;have C:(w7.setCell ⟨w.heap.size+1,0,none⟩ (.slice va (nt l).length vc)).ownsRow (w.heap.size+2) 254 2 (.slice va (nt l).length vc) (nt l).length (q8 (nt l)):=by
     have aB:Below (w.heap.size+2) w7 w7:=zf0 _ _;exact KK o (by omega)
    have ac:=Ko C;have a4:=zH ac;have a3:Hid (∀g,(Value.slice va (nt l).length vc).ownBlock=some g->w.heap.size<=g):=fun g hg=>by have:=(C.lt g hg).1;omega
    have a5:=zH aj;clear o y M X e7 es aw C ac aj ae ay;go_wp2;have Z:(w7.setCell ⟨w.heap.size+1,0,none⟩ (.slice va (nt l).length vc)).cell? ⟨w.heap.size+1,0,none⟩=some (.slice va (nt l).length vc):=zrx _ _ _ (by rw[ax];rfl);refine zc4 (v:=.agg #[.slice va (nt l).length vc]) (by simp[results,results185,go_sem,Z]) rfl ?_;exact⟨_,rfl,a4.out,a3.out,a5.out⟩
   ·rw[zc2 R,zrS] at j;have hend':¬(e:Int)<1000000000:=by unfold ALL at R;omega
    have K:=J.out;have C:(wr.setCell ⟨w.heap.size+1,0,none⟩ (.slice ra q.length rc)).ownsRow (w.heap.size+2) 254 2 (.slice ra q.length rc) q.length (q8 q):=KK K (by omega);have a3:Hid (∀g,(Value.slice ra q.length rc).ownBlock=some g->w.heap.size<=g):=fun g hg=>by have:=(C.lt g hg).1;omega
    have a4:Hid (zk (wr.setCell ⟨w.heap.size+1,0,none⟩ (.slice ra q.length rc)) (.slice ra q.length rc) (nt l)):=j▸Ko C;have a5:=zH ((a9.out.trans (U.out.mono (zuO _ 2))).setCell (p:=⟨w.heap.size+1,0,none⟩) (by show w.heap.size<=w.heap.size+1;omega) (.slice ra q.length rc));have Z:(wr.setCell ⟨w.heap.size+1,0,none⟩ (.slice ra q.length rc)).cell? ⟨w.heap.size+1,0,none⟩=some (.slice ra q.length rc):=zrx _ _ _ (by rw[ae];rfl);have ar:=zH Z;clear K C Z j;go_wp2;have Z:=ar.out;refine zc4 (v:=.agg #[.slice ra q.length rc]) (by simp[results,results185,go_sem,Z]) rfl ?_;exact⟨_,rfl,a4.out,a3.out,a5.out⟩
end
section
open Sv
theorem zgY{l m:List zf}{i j:Nat}(hi:i<l.length)(hj:j<m.length):yF (l.drop i) (m.drop j)=(if max (sp l i).1 (sp m j).1<min (sp l i).2 (sp m j).2 then [(max (sp l i).1 (sp m j).1,min (sp l i).2 (sp m j).2)] else [])++(if (sp l i).2<(sp m j).2 then yF (l.drop (i+1)) (m.drop j) else yF (l.drop i) (m.drop (j+1))):=by
 rw[zrR hi,zrR hj,yF,<-Q9 l i hi,<-Q9 m j hj]
theorem zdn(l m:List zf)(hl:Rg l)(hm:Rg m)(v u:Value)(w:World)(hv:zk w v l)(hu:zk w u m) :
  zC 184 #[.agg #[v],.agg #[u]] w (Q4 w (nd l m)):=by
 obtain⟨i0,aD,aI,aJ,aK⟩:=info_parts zgT;obtain⟨a,a9,rfl⟩:=hv.form;obtain⟨b,aa,rfl⟩:=hu.form;have aT:=YB hl;have aE:=YB hm;have aF:=YB (Qz hl hm);have HL:=zH hl;have HM:=zH hm;have HV:=zH hv;have HU:=zH hu;clear hl hv hm hu;go_enter func184,ntmps184;go_wp2_with fail;obtain⟨W0,am⟩:∃W0,((w.alloc (.cells #[.slice a l.length a9] 105)).alloc (.cells #[.slice b m.length aa] 105)).alloc (.cells #[.slice none 0 0] 105)=W0:=⟨_,rfl⟩;have X:zcY w W0 (.slice a l.length a9) (.slice b m.length aa) (.slice none 0 0):=am▸zaL w _ _ _ _ _ _;have ae:=X.below;have au:=X.size;have aH:=X.c0;have aG:=X.c1;have aA:=X.c2;have aB:=X.f2;clear X;have aO:Hid (zk W0 (.slice a l.length a9) l):=HV.out.below ae zN;have aN:Hid (zk W0 (.slice b m.length aa) m):=HU.out.below ae zN;have ax:=zH ae;have ay:=zH aA;have az:=zH aB;have aM:=zH aH;have aL:=zH aG;rw[am];clear ae aA aB am HV HU aH aG;go_loopw [5,6,7] (fun bV iV jV wr=>∃(i j:Nat) (q:List zf),i<=l.length/\j<=m.length/\iV=.int .i64 i/\jV=.int .i64 j/\q++yF (l.drop i) (m.drop j)=nd l m/\wr.ownsRow (w.heap.size+3) 254 2 bV q.length (q8 q)/\Below (w.heap.size+3) W0 wr) (fun _ iV jV _=>(l.length-(intOf iV).toNat)+(m.length-(intOf jV).toNat))
 case atStart=>exact⟨0,0,[],zf6 _,zf6 _,rfl,rfl,rfl,zrp _ _ _ _,zf0 _ _⟩
 case round =>
  obtain⟨i,j,q,hi,hj,rfl,rfl,o,a6,ac⟩:=hrel;obtain⟨ra,rc,rfl⟩:=zct a6;have aW:q.length<=(nd l m).length:=by rw[<-o];simp
  have av:=ac.size;rw[au] at av;have aV:=(ac.cell (p:=w) (by show w.heap.size<_;omega)).trans aM.out;have aU:=(ac.cell (p:=⟨w.heap.size+1,0,none⟩) (by show w.heap.size+1<_;omega)).trans aL.out;have V:=zH a6;have Y:=zH ac;have HR:=zH o;clear a6 ac o
  by_cases hlt:i<l.length
  ·by_cases hjt:j<m.length
   ·obtain⟨g,aP,e1,hg,c0,c1⟩:=(aO.out.below Y.out (Nat.le_of_eq au)).cells i hlt;simp at e1;obtain⟨rfl,rfl⟩:=e1;obtain⟨g2,aQ,e2,aC,d0,d1⟩:=(aN.out.below Y.out (Nat.le_of_eq au)).cells j hjt;simp at e2;obtain⟨rfl,rfl⟩:=e2;have aS:i*2<i*2+1:=zsA _;have SC:Hid (∀W,zB wr W->(W.cell? w.heap.size=some (.slice (some ⟨g,0,none⟩) l.length a9)/\W.cell? ⟨w.heap.size+1,0,none⟩=some (.slice (some g2) m.length aa)/\W.cell? ⟨g,i*2,none⟩=some (.int .i64 ((sp l i).1:Int))/\W.cell? ⟨g,i*2+1,none⟩=some (.int .i64 ((sp l i).2:Int))/\W.cell? ⟨g2,j*2,none⟩=some (.int .i64 ((sp m j).1:Int))/\W.cell? ⟨g2,j*2+1,none⟩=some (.int .i64 ((sp m j).2:Int)))):=fun W hb =>
     ⟨(hb.cell (p:=w) (by show w.heap.size<_;omega)).trans aV,(hb.cell (p:=⟨w.heap.size+1,0,none⟩) (by show w.heap.size+1<_;omega)).trans aU,(hb.cell (p:=⟨g,i*2,none⟩) hg).trans c0,(hb.cell (p:=⟨g,i*2+1,none⟩) hg).trans c1,(hb.cell (p:=⟨g2,j*2,none⟩) aC).trans d0,(hb.cell (p:=⟨g2,j*2+1,none⟩) aC).trans d1⟩
    go_wp2_with fail;go_region_held3 (fun w'=>w'.cell? w.heap.size=some (.slice (some ⟨g,0,none⟩) l.length a9)/\w'.cell? ⟨w.heap.size+1,0,none⟩=some (.slice (some g2) m.length aa)/\w'.cell? ⟨g,i*2,none⟩=some (.int .i64 ((sp l i).1:Int))/\w'.cell? ⟨g,i*2+1,none⟩=some (.int .i64 ((sp l i).2:Int))/\w'.cell? ⟨g2,j*2,none⟩=some (.int .i64 ((sp m j).1:Int))/\w'.cell? ⟨g2,j*2+1,none⟩=some (.int .i64 ((sp m j).2:Int))) ((refine SC.out _ ?_;repeat' (first|exact zf0 _ _|refine Below.drew ?_|refine Below.alloc ?_ (by simp) _|refine Below.alloc ?_ (by simp;omega) _|refine Below.setCell (p:=_) ?_ (by simp) _))) (first|fail)
    ·have h2:=zf7 wr (.int .i64 ((sp l i).1:Int)) (.int .i64 ((sp l i).2:Int)) (.int .i64 ((sp m j).1:Int)) (.int .i64 ((sp m j).2:Int)) 254 254;generalize ((wr.alloc (.cells #[.int .i64 ((sp l i).1:Int),.int .i64 ((sp l i).2:Int)] 254)).alloc (.cells #[.int .i64 ((sp m j).1:Int),.int .i64 ((sp m j).2:Int)] 254)).drew=W1 at *;have o:=HR.out;rw[zgY hlt hjt] at o;generalize (sp l i).1=A at *;generalize (sp l i).2=T at *;generalize (sp m j).1=C at *;generalize (sp m j).2=D at *;have s0:=h2.s0;have s1:=h2.s1;have t0:=h2.t0;have t1:=h2.t1;have a0:=zH o;clear c0 c1 d0 d1 o HR;go_wp2_with fail;go_quiet (fail);have h3:=h2.drewN nq;generalize W1.drewN nq=W2 at *;have M:=zH (zeo V.out h3.below zN);have a4:=h3.below;have aw:=a4.size;have ar:=h3.ls;have a5:=h3.lt;have an:=h3.hs;have ao:=h3.ht;have a2:Hid (Below (w.heap.size+3) W0 W2):=Y.out.trans (a4.mono av);have u1:=h3.s1;have u3:=h3.t1;clear a4 s0 s1 t0 t1 h2 h3 Y SC
     by_cases ad:max A C<min T D
     ·have hmx':max (A:Int) (C:Int)<min (T:Int) (D:Int):=by omega
      have o:=a0.out;rw[zc3 ad] at o;have a3:(q++[(max A C,min T D)]).length<=(nd l m).length:=by rw[<-o,<-zrH];simp
      simp at a3;have eM:((max A C:Nat):Int)=max (A:Int) (C:Int):=by omega
      have eN:((min T D:Nat):Int)=min (T:Int) (D:Int):=by omega
      have af:=zH eM;have ag:=zH eN;have y:=zH o;clear o a0 eM eN;go_wp2_with (at_builtin;refine wpList_append_own_at _ rfl _ _ 103 rfl (w.heap.size+3) 254 i0 (.agg #[(0:Int),(0:Int)]) 2 16 zuc aD aI aJ aK rfl (by decide) _ _ _ rfl (M.out.alloc _) W2.heap.size 1 1 [.int .i64 (max (A:Int) (C:Int)),.int .i64 (min (T:Int) (D:Int))] rfl rfl (Jk _ _ _ _) ?c2 ?c3 ?c4 ?c5 ?_)
      case c2=>intro u hu;simp at hu;rcases hu with rfl|rfl<;>rfl
      case c3=>unfold maxLen;omega
      case c4=>omega
      case c5=>show w.heap.size+3<=(World.alloc _ _).heap.size;rw[zc1];omega
      intro v7 w7 R J _ Z;have ab:Below (w.heap.size+3) W0 w7:=((a2.out.alloc (by omega) _).grown J (by rw[zc1];omega) (fun k hk=>(M.out.lt k hk).1));have x1:w7.cell? ⟨wr.heap.size,1,none⟩=some (.int .i64 T):=by
       rw[Qq J (by rw[zc1];omega) (XE V.out an)];exact(((zf0 W2.heap.size W2).alloc zN _).cell (p:=⟨wr.heap.size,1,none⟩) ar).trans u1
      have x3:w7.cell? ⟨wr.heap.size+1,1,none⟩=some (.int .i64 D):=by
       rw[Qq J (by rw[zc1];omega) (XE V.out ao)];exact(((zf0 W2.heap.size W2).alloc zN _).cell (p:=⟨wr.heap.size+1,1,none⟩) a5).trans u3
      have e7:(q++[(max A C,min T D)]).length=q.length+1:=by simp
      have es:q8 (q++[(max A C,min T D)])=q8 q++[.int .i64 (max (A:Int) (C:Int)),.int .i64 (min (T:Int) (D:Int))]:=by rw[JD,<-af.out,<-ag.out];rfl
      rw[<-es,<-e7] at R;have a8:=zH R;have a7:=zH ab;clear R J Z ab e7 es u1 u3
      by_cases hTD:T<D
      ·have o:=y.out;rw[zc3 hTD,<-zrH] at o;have K:=zH o;clear o y;go_wp2;go_roundw
       case rel=>exact⟨i+1,j,q++[(max A C,min T D)],by omega,by omega,rfl,rfl,K.out,a8.out,a7.out⟩
       case measure=>simp[intOf];omega
      ·have o:=y.out;rw[zc2 hTD,<-zrH] at o;have K:=zH o;clear o y;go_wp2;go_roundw
       case rel=>exact⟨i,j+1,q++[(max A C,min T D)],by omega,by omega,rfl,rfl,K.out,a8.out,a7.out⟩
       case measure=>simp[intOf];omega
     ·have hmx':¬max (A:Int) (C:Int)<min (T:Int) (D:Int):=by omega
      have o:=a0.out;rw[zc2 ad,zrX] at o;have y:=zH o;clear o a0
      by_cases hTD:T<D
      ·have o:=y.out;rw[zc3 hTD] at o;have K:=zH o;clear o y;go_wp2;go_roundw
       case rel=>exact⟨i+1,j,q,by omega,by omega,rfl,rfl,K.out,M.out,a2.out⟩
       case measure=>simp[intOf];omega
      ·have o:=y.out;rw[zc2 hTD] at o;have K:=zH o;clear o y;go_wp2;go_roundw
       case rel=>exact⟨i,j+1,q,by omega,by omega,rfl,rfl,K.out,M.out,a2.out⟩
       case measure=>simp[intOf];omega
    ·have h2:=zjN wr (.int .i64 ((sp l i).1:Int)) (.int .i64 ((sp l i).2:Int)) (.int .i64 ((sp m j).1:Int)) (.int .i64 ((sp m j).2:Int)) 254 254;generalize ((wr.alloc (.cells #[.int .i64 ((sp m j).1:Int),.int .i64 ((sp m j).2:Int)] 254)).alloc (.cells #[.int .i64 ((sp l i).1:Int),.int .i64 ((sp l i).2:Int)] 254)).drew=W1 at *;have o:=HR.out;rw[zgY hlt hjt] at o;generalize (sp l i).1=A at *;generalize (sp l i).2=T at *;generalize (sp m j).1=C at *;generalize (sp m j).2=D at *;have s0:=h2.s0;have s1:=h2.s1;have t0:=h2.t0;have t1:=h2.t1;have a0:=zH o;clear c0 c1 d0 d1 o HR;go_wp2_with fail;go_quiet (fail);have h3:=h2.drewN nq;generalize W1.drewN nq=W2 at *;have M:=zH (zeo V.out h3.below zN);have a4:=h3.below;have aw:=a4.size;have ar:=h3.ls;have a5:=h3.lt;have an:=h3.hs;have ao:=h3.ht;have a2:Hid (Below (w.heap.size+3) W0 W2):=Y.out.trans (a4.mono av);have u1:=h3.s1;have u3:=h3.t1;clear a4 s0 s1 t0 t1 h2 h3 Y SC
     by_cases ad:max A C<min T D
     ·have hmx':max (A:Int) (C:Int)<min (T:Int) (D:Int):=by omega
      have o:=a0.out;rw[zc3 ad] at o;have a3:(q++[(max A C,min T D)]).length<=(nd l m).length:=by rw[<-o,<-zrH];simp
      simp at a3;have eM:((max A C:Nat):Int)=max (A:Int) (C:Int):=by omega
      have eN:((min T D:Nat):Int)=min (T:Int) (D:Int):=by omega
      have af:=zH eM;have ag:=zH eN;have y:=zH o;clear o a0 eM eN;go_wp2_with (at_builtin;refine wpList_append_own_at _ rfl _ _ 103 rfl (w.heap.size+3) 254 i0 (.agg #[(0:Int),(0:Int)]) 2 16 zuc aD aI aJ aK rfl (by decide) _ _ _ rfl (M.out.alloc _) W2.heap.size 1 1 [.int .i64 (max (A:Int) (C:Int)),.int .i64 (min (T:Int) (D:Int))] rfl rfl (Jk _ _ _ _) ?c2 ?c3 ?c4 ?c5 ?_)
      case c2=>intro u hu;simp at hu;rcases hu with rfl|rfl<;>rfl
      case c3=>unfold maxLen;omega
      case c4=>omega
      case c5=>show w.heap.size+3<=(World.alloc _ _).heap.size;rw[zc1];omega
      intro v7 w7 R J _ Z;have ab:Below (w.heap.size+3) W0 w7:=((a2.out.alloc (by omega) _).grown J (by rw[zc1];omega) (fun k hk=>(M.out.lt k hk).1));have x1:w7.cell? ⟨wr.heap.size+1,1,none⟩=some (.int .i64 T):=by
       rw[Qq J (by rw[zc1];omega) (XE V.out an)];exact(((zf0 W2.heap.size W2).alloc zN _).cell (p:=⟨wr.heap.size+1,1,none⟩) ar).trans u1
      have x3:w7.cell? ⟨wr.heap.size,1,none⟩=some (.int .i64 D):=by
       rw[Qq J (by rw[zc1];omega) (XE V.out ao)];exact(((zf0 W2.heap.size W2).alloc zN _).cell (p:=⟨wr.heap.size,1,none⟩) a5).trans u3
      have e7:(q++[(max A C,min T D)]).length=q.length+1:=by simp
      have es:q8 (q++[(max A C,min T D)])=q8 q++[.int .i64 (max (A:Int) (C:Int)),.int .i64 (min (T:Int) (D:Int))]:=by rw[JD,<-af.out,<-ag.out];rfl
      rw[<-es,<-e7] at R;have a8:=zH R;have a7:=zH ab;clear R J Z ab e7 es u1 u3
      by_cases hTD:T<D
      ·have o:=y.out;rw[zc3 hTD,<-zrH] at o;have K:=zH o;clear o y;go_wp2;go_roundw
       case rel=>exact⟨i+1,j,q++[(max A C,min T D)],by omega,by omega,rfl,rfl,K.out,a8.out,a7.out⟩
       case measure=>simp[intOf];omega
      ·have o:=y.out;rw[zc2 hTD,<-zrH] at o;have K:=zH o;clear o y;go_wp2;go_roundw
       case rel=>exact⟨i,j+1,q++[(max A C,min T D)],by omega,by omega,rfl,rfl,K.out,a8.out,a7.out⟩
       case measure=>simp[intOf];omega
     ·have hmx':¬max (A:Int) (C:Int)<min (T:Int) (D:Int):=by omega
      have o:=a0.out;rw[zc2 ad,zrX] at o;have y:=zH o;clear o a0
      by_cases hTD:T<D
      ·have o:=y.out;rw[zc3 hTD] at o;have K:=zH o;clear o y;go_wp2;go_roundw
       case rel=>exact⟨i+1,j,q,by omega,by omega,rfl,rfl,K.out,M.out,a2.out⟩
       case measure=>simp[intOf];omega
      ·have o:=y.out;rw[zc2 hTD] at o;have K:=zH o;clear o y;go_wp2;go_roundw
       case rel=>exact⟨i,j+1,q,by omega,by omega,rfl,rfl,K.out,M.out,a2.out⟩
       case measure=>simp[intOf];omega
   ·obtain rfl:j=m.length:=by omega
    have o:=HR.out;rw[zsV,zmu,zrS] at o;have aq:=(Y.out.cell (p:=⟨w.heap.size+1+1,0,none⟩) (by show w.heap.size+1+1<_;omega)).trans ay.out;have aR:=(Y.out.frozen (p:=⟨w.heap.size+1+1,0,none⟩) (by show w.heap.size+1+1<_;omega)).trans az.out;have U:(wr.setCell ⟨w.heap.size+1+1,0,none⟩ (.slice ra q.length rc)).ownsRow (w.heap.size+3) 254 2 (.slice ra q.length rc) q.length (q8 q):=KK V.out (by omega);have ah:Hid (∀g,(Value.slice ra q.length rc).ownBlock=some g->w.heap.size<=g):=fun g hg=>by have:=(U.lt g hg).1;omega
    have aj:Hid (zk (wr.setCell ⟨w.heap.size+1+1,0,none⟩ (.slice ra q.length rc)) (.slice ra q.length rc) (nd l m)):=o▸Ko U;have ak:=zH ((ax.out.trans (Y.out.mono (zuO _ 3))).setCell (p:=⟨w.heap.size+1+1,0,none⟩) (by show w.heap.size<=w.heap.size+1+1;omega) (.slice ra q.length rc));have a1:(wr.setCell ⟨w.heap.size+1+1,0,none⟩ (.slice ra q.length rc)).cell? ⟨w.heap.size+1+1,0,none⟩=some (.slice ra q.length rc):=zrx _ _ _ (by rw[aq];rfl);have ai:=zH a1;clear U a1 o;go_wp2;have a1:=ai.out;refine zc4 (v:=.agg #[.slice ra q.length rc]) (by simp[results,results184,go_sem,a1]) rfl ?_;exact⟨_,rfl,aj.out,ah.out,ak.out⟩
  ·obtain rfl:i=l.length:=by omega
   have o:=HR.out;rw[zsV,yF,zrS] at o;have aq:=(Y.out.cell (p:=⟨w.heap.size+1+1,0,none⟩) (by show w.heap.size+1+1<_;omega)).trans ay.out;have aR:=(Y.out.frozen (p:=⟨w.heap.size+1+1,0,none⟩) (by show w.heap.size+1+1<_;omega)).trans az.out;have U:(wr.setCell ⟨w.heap.size+1+1,0,none⟩ (.slice ra q.length rc)).ownsRow (w.heap.size+3) 254 2 (.slice ra q.length rc) q.length (q8 q):=KK V.out (by omega);have ah:Hid (∀g,(Value.slice ra q.length rc).ownBlock=some g->w.heap.size<=g):=fun g hg=>by have:=(U.lt g hg).1;omega
   have aj:Hid (zk (wr.setCell ⟨w.heap.size+1+1,0,none⟩ (.slice ra q.length rc)) (.slice ra q.length rc) (nd l m)):=o▸Ko U;have ak:=zH ((ax.out.trans (Y.out.mono (zuO _ 3))).setCell (p:=⟨w.heap.size+1+1,0,none⟩) (by show w.heap.size<=w.heap.size+1+1;omega) (.slice ra q.length rc));have a1:(wr.setCell ⟨w.heap.size+1+1,0,none⟩ (.slice ra q.length rc)).cell? ⟨w.heap.size+1+1,0,none⟩=some (.slice ra q.length rc):=zrx _ _ _ (by rw[aq];rfl);have ai:=zH a1;clear U a1 o;go_wp2;have a1:=ai.out;refine zc4 (v:=.agg #[.slice ra q.length rc]) (by simp[results,results184,go_sem,a1]) rfl ?_;exact⟨_,rfl,aj.out,ah.out,ak.out⟩
end
section
open Sv
theorem zde(a b:Nat)(w:World) :
  zC 220 #[a,b] w (Q4 w (zi a b)):=by
 by_cases h:a<b
 ·have h':¬(b:Int)<=(a:Int):=by omega
  have hb:=((zf0 w.heap.size w).alloc zN (.cells #[.slice (some ⟨w.heap.size+1,0,none⟩) 1 1] 105)).alloc (by rw[zc1];omega) (.cells #[a,b] 254);have h2:=Jf (w.alloc (.cells #[.slice (some ⟨w.heap.size+1,0,none⟩) 1 1] 105)) (.int .i64 a) (.int .i64 b) 254;rw[zc1] at h2;have h1:=YI w (.slice (some ⟨w.heap.size+1,0,none⟩) 1 1) 105;have h3:((w.alloc (.cells #[.slice (some ⟨w.heap.size+1,0,none⟩) 1 1] 105)).alloc (.cells #[a,b] 254)).cell? w.heap.size=some (.slice (some ⟨w.heap.size+1,0,none⟩) 1 1):=(((zf0 _ (w.alloc (.cells #[.slice (some ⟨w.heap.size+1,0,none⟩) 1 1] 105))).alloc zN _).cell (p:=w) (by show w.heap.size<_;rw[zc1];omega)).trans h1;have hs:w.heap.size+1<((w.alloc (.cells #[.slice (some ⟨w.heap.size+1,0,none⟩) 1 1] 105)).alloc (.cells #[a,b] 254)).heap.size:=by rw[zc1,zc1];omega
  have HB:=zH hb;have H2:=zH h2;have H3:=zH h3;have HS:=zH hs;clear hb h2 h1 h3 hs;go_enter func220,ntmps220;go_wp2;have h3:=H3.out;refine zc4 (v:=.agg #[.slice (some ⟨w.heap.size+1,0,none⟩) 1 1]) (by simp[results,results220,go_sem,h3]) rfl ?_;refine⟨_,rfl,?_,fun g hg=>by simp[Value.ownBlock] at hg;omega,HB.out⟩;rw[zi,zc3 h];exact⟨⟨_,_,rfl⟩,fun i hi=>⟨w.heap.size+1,1,rfl,HS.out,by obtain rfl:i=0:=(by simp at hi;exact hi);exact H2.out.1,by obtain rfl:i=0:=(by simp at hi;exact hi);exact H2.out.2⟩⟩
 ·have h':(b:Int)<=(a:Int):=by omega
  have h1:=YI w (.slice none 0 0) 105;have H1:=zH h1;clear h1;go_enter func220,ntmps220;go_wp2;have h1:=H1.out;refine zc4 (v:=.agg #[.slice none 0 0]) (by simp[results,results220,go_sem]) rfl ?_;refine⟨_,rfl,?_,fun g hg=>by simp[Value.ownBlock] at hg,zF.alloc zN _⟩;rw[zi,zc2 h];exact K4 _
theorem ZG{w w1 w':World}{v:Value}{l:List zf}{b:Nat}(hb:zB w w1)(h1:w1.cell? b=some (.slice none 0 0))(hB:w.heap.size<=b)(hl:b<w1.heap.size)(hs:zk w' v l)(hn:∀g,v.ownBlock=some g->w1.heap.size<=g)(h':zB w1 w') :
  (w'.setCell b v).cell? b=some v/\zk (w'.setCell b v) v l/\(∀g,v.ownBlock=some g->w.heap.size<=g)/\zB w (w'.setCell b v):=by
 refine⟨zrx _ _ _ (by rw[h'.cell (p:=b) hl,h1];rfl),hs.set (fun e=>by have:=hn b e;omega),fun g hg=>zf1 hb.size (hn g hg),(zT hb h').setCell (p:=b) hB v⟩
theorem Xk(w:World):zC 182 #[] w (Q4 w zm):=by
 have HH:Hid (∀W:World,zC 220 #[(0:Int),(1000000000:Int)] W (fun e w'=>∃v',e=.returned (.agg #[v'])/\zk w' v' zm/\(∀g,v'.ownBlock=some g->W.heap.size<=g)/\zB W w')):=fun W=>zde 0 1000000000 W;have h1:=YI w (.slice none 0 0) 105;have f1:=zeI w (.slice none 0 0) 105;have b1:zB w (w.alloc (.cells #[.slice none 0 0] 105)):=zF.alloc zN _;have l1:w.heap.size<(w.alloc (.cells #[.slice none 0 0] 105)).heap.size:=by rw[zc1];omega
 have H1:=zH h1;have F1:=zH f1;have B1:=zH b1;have L1:=zH l1;clear h1 f1 b1 l1;go_enter func182,ntmps182;go_wp2_with fail;generalize w.alloc (.cells #[.slice none 0 0] 105)=W1 at *;refine(HH.out _).mono ?_;rintro e w' ⟨v',rfl,hs,hn,hb⟩;obtain⟨va,vc,rfl⟩:=hs.form;have hc:=(hb.cell (p:=w) L1.out).trans H1.out;have hf:=(hb.frozen (p:=w) L1.out).trans F1.out;have HP:=zH (ZG B1.out H1.out zN L1.out hs hn hb);clear hs hn hb;go_wp2;obtain⟨h3,h4,h5,h6⟩:=HP.out;refine zc4 (v:=.agg #[.slice va zm.length vc]) (by simp[results,results182,go_sem,h3]) rfl ?_;exact⟨_,rfl,h4,h5,h6⟩
end
section
open Sv
theorem zhI(l m:List zf)(hl:Rg l)(hm:Rg m)(v u:Value)(w:World)(hv:zk w v l)(hu:zk w u m) :
  zC 131 #[.agg #[v],.agg #[u]] w (Q4 w (orr l m)):=by
 obtain⟨a,o,rfl⟩:=hv.form;obtain⟨b,q,rfl⟩:=hu.form;have hB:=(zaL w (.slice a l.length o) (.slice b m.length q) (.slice none 0 0) 105 105 105).below;have R:Hid (∀W,zB w W->zC 185 #[.agg #[.slice a l.length o]] W (fun e w'=>∃a' c',e=.returned (.agg #[.slice a' (nt l).length c'])/\zk w' (.slice a' (nt l).length c') (nt l)/\zB W w')):=fun W hW=>(Jj l hl _ W (hv.below hW zN)).mono fun e w' ⟨v',he,hs,hn,hb⟩=>by obtain⟨a',c',rfl⟩:=hs.form;exact⟨a',c',he,hs,hb⟩
 have U:Hid (∀W,zB w W->zC 185 #[.agg #[.slice b m.length q]] W (fun e w'=>∃a' c',e=.returned (.agg #[.slice a' (nt m).length c'])/\zk w' (.slice a' (nt m).length c') (nt m)/\zB W w')):=fun W hW=>(Jj m hm _ W (hu.below hW zN)).mono fun e w' ⟨v',he,hs,hn,hb⟩=>by obtain⟨a',c',rfl⟩:=hs.form;exact⟨a',c',he,hs,hb⟩
 have HA:Hid (∀v1 v2 W,zk W v1 (nt l)->zk W v2 (nt m)->zC 184 #[.agg #[v1],.agg #[v2]] W (fun e w'=>∃a' c',e=.returned (.agg #[.slice a' (nd (nt l) (nt m)).length c'])/\zk w' (.slice a' (nd (nt l) (nt m)).length c') (nd (nt l) (nt m))/\zB W w')):=fun v1 v2 W h1 h2=>(zdn _ _ (xO hl) (xO hm) v1 v2 W h1 h2).mono fun e w' ⟨v',he,hs,hn,hb⟩=>by obtain⟨a',c',rfl⟩:=hs.form;exact⟨a',c',he,hs,hb⟩
 have V:Hid (∀v1 W,zk W v1 (nd (nt l) (nt m))->zC 185 #[.agg #[v1]] W (fun e w'=>∃a' c',e=.returned (.agg #[.slice a' (orr l m).length c'])/\zk w' (.slice a' (orr l m).length c') (orr l m)/\(∀g,(Value.slice a' (orr l m).length c').ownBlock=some g->W.heap.size<=g)/\zB W w')):=fun v1 W h1=>(Jj _ (Qz (xO hl) (xO hm)) v1 W h1).mono fun e w' ⟨v',he,hs,hn,hb⟩=>by obtain⟨a',c',rfl⟩:=hs.form;exact⟨a',c',he,hs,hn,hb⟩
 have j:=zaL w (.slice a l.length o) (.slice b m.length q) (.slice none 0 0) 105 105 105;clear hv hu hl hm hB;go_enter func131,ntmps131;go_wp2_with fail;generalize ((w.alloc (.cells #[.slice a l.length o] 105)).alloc (.cells #[.slice b m.length q] 105)).alloc (.cells #[.slice none 0 0] 105)=W0 at *;have a8:=j.size;have C:=j.below;have a7:=j.c0;have a6:=j.c1;have Z:=j.c2;have a0:=j.f2;have SC:Hid (∀W,Below (w.heap.size+2) W0 W->W.cell? w.heap.size=some (.slice a l.length o)/\W.cell? ⟨w.heap.size+1,0,none⟩=some (.slice b m.length q)):=fun W hb=>⟨(hb.cell (p:=w) (by show w.heap.size<_;omega)).trans a7,(hb.cell (p:=⟨w.heap.size+1,0,none⟩) (by show w.heap.size+1<_;omega)).trans a6⟩;have ad:=zH C;have af:=zH a8;have M:=zH Z;have ae:=zH a0;have L0:Hid (w.heap.size+2<=W0.heap.size):=by show w.heap.size+2<=W0.heap.size;omega
 have L1:Hid (w.heap.size+1+1<W0.heap.size):=by show w.heap.size+1+1<W0.heap.size;omega
 have D0:zB W0 W0.drew:=zF.drew;have E0:zB w W0.drew:=C.drew;clear j a8 C a7 a6 Z a0;go_region_held3 (fun w'=>w'.cell? w.heap.size=some (.slice a l.length o)/\w'.cell? ⟨w.heap.size+1,0,none⟩=some (.slice b m.length q)) (first|exact SC.out _ (D0.mono L0.out)|exact SC.out _ (D1.mono L0.out)|exact SC.out _ (D2.mono L0.out)|exact SC.out _ (D3.mono L0.out)|exact SC.out _ (D4.mono L0.out)|exact SC.out _ D5)
  (first
   |((with_reducible refine(R.out _ E0).mono ?_);rintro e w1 ⟨a1,c1,rfl,a9,J⟩;have D1:zB W0 w1:=D0.trans J;have E1:zB w w1:=zT E0 J;clear R)
   |((with_reducible refine(U.out _ E1).mono ?_);rintro e w2 ⟨a2,c2,rfl,aa,K⟩;have D2:zB W0 w2:=zT D1 K;have y:=a9.below K zN;clear U)
   |((with_reducible refine(HA.out _ _ _ y aa).mono ?_);rintro e w3 ⟨a3,c3,rfl,ab,X⟩;have D3:zB W0 w3:=zT D2 X;clear HA)
   | ((with_reducible refine (V.out _ _ ab).mono ?_);rintro e w4 ⟨a4,c4,rfl,ac,a5,Y⟩;have D4:zB W0 w4:=zT D3 Y;have ag:=(D4.cell (p:=⟨w.heap.size + 1 + 1,0,none⟩) L1.out).trans M.out;have ah:=(D4.frozen (p:=⟨w.heap.size + 1 + 1,0,none⟩) L1.out).trans ae.out;have D5:Below (w.heap.size + 2) W0 (w4.setCell ⟨w.heap.size + 1 + 1,0,none⟩ (.slice a4 (orr l m).length c4)):=(D4.mono L0.out).setCell (p:=⟨w.heap.size + 1 + 1,0,none⟩) zN _;clear V))
 have hn:∀g,(Value.slice a4 (orr l m).length c4).ownBlock=some g->W0.heap.size<=g:=fun g hg=>zf1 D3.size (a5 g hg);have HP:=zH (ZG ad.out M.out (by omega) L1.out ac hn D4);clear a9 aa y ab ac a5 hn J K X Y D0 D1 D2 D3 D4 D5 E0 E1;go_wp2;obtain⟨h3,h4,h5,h6⟩:=HP.out;refine zc4 (v:=.agg #[.slice a4 (orr l m).length c4]) (by simp[results,results131,go_sem,h3]) rfl ?_;exact⟨_,rfl,h4,h5,h6⟩
end
section
open Go.Shelf Sv
theorem zka(s:ByteArray)(w:World)(hc:s.data.toList.count 46≠2) :
  zR 81 #[s] w (Qs (.error 3)):=by
 have HC:Hid (∀W,zC 117 #[s,.string ⟨#[46]⟩] W fun e w'=>e=.returned (.int .i64 (s.data.toList.count 46:Nat))/\w'=W):=fun W=>Tryz.strings_Count_one s 46 W;have j:(((s.data.toList.count 46:Nat):Int)==2)=false:=by rw[zf2];omega
 generalize s.data.toList.count 46=n at *;clear hc;go_enter func81,ntmps81;go_wp2_with (go_at_call 117;refine(HC.out _).mono ?_;rintro e w' ⟨rfl,rfl⟩);have k0:=((Blk.new w 102 z3).alloc (.cells #[.iface 53 (.int .i64 3)] 31)).alloc (.cells z3 102);have k1:=(Blk.new (w.alloc (.cells z3 102)) 31 #[.iface 53 (.int .i64 3)]).alloc (.cells z3 102);rw[zc1] at k1;have hB:zB w (((w.alloc (.cells z3 102)).alloc (.cells #[.iface 53 (.int .i64 3)] 31)).alloc (.cells z3 102)):=(((zf0 _ w).alloc zN _).alloc (by simp only[zc1];omega) _).alloc (by simp only[zc1];omega) _;generalize ((w.alloc (.cells z3 102)).alloc (.cells #[.iface 53 (.int .i64 3)] 31)).alloc (.cells z3 102)=WF at *;have r0:=k0.cell 0;have r1:=k0.cell 1;have r2:=k0.cell 2;have r3:=k1.cell 0;refine zc4 (v:=Qs (.error 3)) (by simp[results,Tryz.f81,go_sem,r0,r1,r2,r3,Qs]) rfl ?_;exact⟨rfl,hB⟩
theorem JY(s:ByteArray)(w:World)(hs:s.size<=100000)(hw:Lb w) :
  zR 81 #[s] w (Qs (zO s)):=by
 unfold zO
 by_cases hc:s.data.toList.count 46=2
 ·rw[zc3 hc];exact(callsIn_wide (n:=4)).1 (zlA s w hs hw hc)
 ·rw[zc2 hc];exact zka s w hc
theorem Zb(a b c:Nat)(ha:a<=1000)(hb:b<=1000)(hc:c<=1000)(w:World) :
  zR 144 #[.agg #[a,b,c]] w (.int .i64 (((a*1000+b)*1000+c:Nat):Int)):=by
 have hB:=(zf0 w.heap.size w).alloc zN (.cells #[a,b,c] 102);have he:(((a*1000+b)*1000+c:Nat):Int)=((a:Int)*1000+(b:Int))*1000+(c:Int):=by omega
 have HB:=zH hB;have HE:=zH he;clear hB he;go_enter func144,ntmps144;go_wp2;go_ret;exact⟨by rw[HE.out];rfl,HB.out⟩
theorem zbW(w:World)(x y z:Value):∃W1:World,((w.alloc (.cells #[x,y,z] 102)).alloc (.cells z3 102))=W1/\Blk W1 w.heap.size 102 #[x,y,z]/\Blk W1 (w.heap.size+1) 102 z3/\zB w W1:=by
 have k0:=(Blk.new w 102 #[x,y,z]).alloc (.cells z3 102);have k1:=Blk.new (w.alloc (.cells #[x,y,z] 102)) 102 z3;rw[zc1] at k1;exact⟨_,rfl,k0,k1,((zf0 _ w).alloc zN _).alloc (by simp only[zc1];omega) _⟩
theorem zln(a b c:Nat)(ha:a<=999)(w:World) :
  zR 243 #[.agg #[a,b,c],(0:Int)] w (.agg #[.int .i64 ((a+1:Nat):Int),(0:Int),(0:Int)]):=by
 obtain⟨W1,J,k0,k1,hB⟩:=zbW w (.int .i64 ((a:Int)+1)) (.int .i64 b) (.int .i64 c);have C:=zH J;have o:=zH k0;have y:=zH k1;have HB:=zH hB;clear J k0 k1 hB;have R:=Lib.run_clear_slice (P:=prog) W1 47 3 0 (.int .i64 0) zrq zrW rfl rfl w.heap.size 1 2 2 (by omega) (fun j hj=>by
  match j,hj with
  |0,_=>rw[o.out.cell 1];rfl
  | 1,_=>rw [o.out.cell 2];rfl) (fun j _=>o.out.frozen _)
 have m0:Blk (W1.setCells w.heap.size 1 (List.replicate 2 (.int .i64 0))) w.heap.size 102 #[.int .i64 ((a:Int)+1),(0:Int),(0:Int)]:=(o.out.set (i:=1) (v:=.int .i64 0)).set (i:=2) (v:=.int .i64 0);have m1:Blk (W1.setCells w.heap.size 1 (List.replicate 2 (.int .i64 0))) (w.heap.size+1) 102 z3:=(y.out.other (by omega)).other (by omega);have mB:zB w (W1.setCells w.heap.size 1 (List.replicate 2 (.int .i64 0))):=(HB.out.setCell (p:=⟨w.heap.size,1,none⟩) zN _).setCell (p:=⟨w.heap.size,2,none⟩) zN _;generalize W1.setCells w.heap.size 1 (List.replicate 2 (.int .i64 0))=W2 at *;have d0:=m0.cell 0;have d1:=m0.cell 1;have d2:=m0.cell 2;have f0:=m1.frozen 0;have f1:=m1.frozen 1;have f2:=m1.frozen 2;have g0:_=some (Value.int .i64 0):=m1.cell 0;have g1:_=some (Value.int .i64 0):=m1.cell 1;have g2:_=some (Value.int .i64 0):=m1.cell 2;simp only[zti,zud,ztu] at d0 d1 d2;obtain⟨WF,q⟩:∃WF,((W2.setCell ⟨w.heap.size+1,0,none⟩ (.int .i64 ((a:Int)+1))).setCell ⟨w.heap.size+1,1,none⟩ (.int .i64 0)).setCell ⟨w.heap.size+1,2,none⟩ (.int .i64 0)=WF:=⟨_,rfl⟩;have p1:Blk WF (w.heap.size+1) 102 #[(.int .i64 ((a:Int)+1)),(.int .i64 0),(.int .i64 0)]:=by rw[<-q];exact((m1.set (i:=0) (v:=(.int .i64 ((a:Int)+1)))).set (i:=1) (v:=(.int .i64 0))).set (i:=2) (v:=(.int .i64 0))
 have pB:zB w WF:=by rw[<-q];exact((mB.setCell (p:=⟨w.heap.size+1,0,none⟩) (zrr _) _).setCell (p:=⟨w.heap.size+1,1,none⟩) (zrr _) _).setCell (p:=⟨w.heap.size+1,2,none⟩) (zrr _) _
 have u:=zH p1;have K:=zH pB;have M:=zH q;rw[<-C.out] at R;clear m0 m1 mB p1 pB q o y HB C;go_enter func243,ntmps243;go_wp2;rw[M.out];have r0:=u.out.cell 0;have r1:=u.out.cell 1;have r2:=u.out.cell 2;refine zc4 (v:=.agg #[(.int .i64 ((a:Int)+1)),(.int .i64 0),(.int .i64 0)]) (by simp[results,results243,go_sem,r0,r1,r2]) rfl ?_;exact⟨rfl,K.out⟩
theorem zdk(a b c:Nat)(hb:b<=999)(w:World) :
  zR 243 #[.agg #[a,b,c],(1:Int)] w (.agg #[a,.int .i64 ((b+1:Nat):Int),(0:Int)]):=by
 obtain⟨W1,J,k0,k1,hB⟩:=zbW w (.int .i64 a) (.int .i64 ((b:Int)+1)) (.int .i64 c);have C:=zH J;have o:=zH k0;have y:=zH k1;have HB:=zH hB;clear J k0 k1 hB;have R:=Lib.run_clear_slice (P:=prog) W1 47 3 0 (.int .i64 0) zrq zrW rfl rfl w.heap.size 2 1 1 (by omega) (fun j hj=>by
  match j,hj with
  | 0,_=>rw [o.out.cell 2];rfl) (fun j _=>o.out.frozen _)
 have m0:Blk (W1.setCells w.heap.size 2 (List.replicate 1 (.int .i64 0))) w.heap.size 102 #[a,.int .i64 ((b:Int)+1),(0:Int)]:=o.out.set (i:=2) (v:=.int .i64 0);have m1:Blk (W1.setCells w.heap.size 2 (List.replicate 1 (.int .i64 0))) (w.heap.size+1) 102 z3:=y.out.other (by omega);have mB:zB w (W1.setCells w.heap.size 2 (List.replicate 1 (.int .i64 0))):=HB.out.setCell (p:=⟨w.heap.size,2,none⟩) zN _;generalize W1.setCells w.heap.size 2 (List.replicate 1 (.int .i64 0))=W2 at *;have d0:=m0.cell 0;have d1:=m0.cell 1;have d2:=m0.cell 2;have f0:=m1.frozen 0;have f1:=m1.frozen 1;have f2:=m1.frozen 2;have g0:_=some (Value.int .i64 0):=m1.cell 0;have g1:_=some (Value.int .i64 0):=m1.cell 1;have g2:_=some (Value.int .i64 0):=m1.cell 2;simp only[zti,zud,ztu] at d0 d1 d2;obtain⟨WF,q⟩:∃WF,((W2.setCell ⟨w.heap.size+1,0,none⟩ (.int .i64 a)).setCell ⟨w.heap.size+1,1,none⟩ (.int .i64 ((b:Int)+1))).setCell ⟨w.heap.size+1,2,none⟩ (.int .i64 0)=WF:=⟨_,rfl⟩;have p1:Blk WF (w.heap.size+1) 102 #[(.int .i64 a),(.int .i64 ((b:Int)+1)),(.int .i64 0)]:=by rw[<-q];exact((m1.set (i:=0) (v:=(.int .i64 a))).set (i:=1) (v:=(.int .i64 ((b:Int)+1)))).set (i:=2) (v:=(.int .i64 0))
 have pB:zB w WF:=by rw[<-q];exact((mB.setCell (p:=⟨w.heap.size+1,0,none⟩) (zrr _) _).setCell (p:=⟨w.heap.size+1,1,none⟩) (zrr _) _).setCell (p:=⟨w.heap.size+1,2,none⟩) (zrr _) _
 have u:=zH p1;have K:=zH pB;have M:=zH q;rw[<-C.out] at R;clear m0 m1 mB p1 pB q o y HB C;go_enter func243,ntmps243;go_wp2;rw[M.out];have r0:=u.out.cell 0;have r1:=u.out.cell 1;have r2:=u.out.cell 2;refine zc4 (v:=.agg #[(.int .i64 a),(.int .i64 ((b:Int)+1)),(.int .i64 0)]) (by simp[results,results243,go_sem,r0,r1,r2]) rfl ?_;exact⟨rfl,K.out⟩
theorem zjh(W:World)(b:Nat):(Builtin.clear_ #[47] 0 #[.slice (some b) 0 0]).run prog W=.ok (.tuple #[]) W:=by
 simp[Builtin.clear_,run_underlying underlying47,go_sem]
theorem zjW(a b c:Nat)(hc:c<=999)(w:World) :
  zR 243 #[.agg #[a,b,c],(2:Int)] w (.agg #[a,b,.int .i64 ((c+1:Nat):Int)]):=by
 obtain⟨W1,J,k0,k1,hB⟩:=zbW w (.int .i64 a) (.int .i64 b) (.int .i64 ((c:Int)+1));have C:=zH J;have u:=zH k0;have y:=zH k1;have HB:=zH hB;clear J k0 k1 hB;obtain⟨W2,j⟩:∃W2,W1=W2:=⟨_,rfl⟩;have R:(Builtin.clear_ #[47] 0 #[.slice (some w) 0 0]).run prog W1=.ok (.tuple #[]) W2:=j▸zjh W1 w.heap.size;have m0:Blk W2 _ _ _:=j▸u.out;have m1:Blk W2 _ _ _:=j▸y.out;have mB:zB w W2:=j▸HB.out;clear j;have d0:=m0.cell 0;have d1:=m0.cell 1;have d2:=m0.cell 2;have f0:=m1.frozen 0;have f1:=m1.frozen 1;have f2:=m1.frozen 2;have g0:_=some (Value.int .i64 0):=m1.cell 0;have g1:_=some (Value.int .i64 0):=m1.cell 1;have g2:_=some (Value.int .i64 0):=m1.cell 2;simp only[zti,zud,ztu] at d0 d1 d2;obtain⟨WF,o⟩:∃WF,((W2.setCell ⟨w.heap.size+1,0,none⟩ (.int .i64 a)).setCell ⟨w.heap.size+1,1,none⟩ (.int .i64 b)).setCell ⟨w.heap.size+1,2,none⟩ (.int .i64 ((c:Int)+1))=WF:=⟨_,rfl⟩;have p1:Blk WF (w.heap.size+1) 102 #[(.int .i64 a),(.int .i64 b),(.int .i64 ((c:Int)+1))]:=by rw[<-o];exact((m1.set (i:=0) (v:=(.int .i64 a))).set (i:=1) (v:=(.int .i64 b))).set (i:=2) (v:=(.int .i64 ((c:Int)+1)))
 have pB:zB w WF:=by rw[<-o];exact((mB.setCell (p:=⟨w.heap.size+1,0,none⟩) (zrr _) _).setCell (p:=⟨w.heap.size+1,1,none⟩) (zrr _) _).setCell (p:=⟨w.heap.size+1,2,none⟩) (zrr _) _
 have q:=zH p1;have K:=zH pB;have M:=zH o;rw[<-C.out] at R;clear m0 m1 mB p1 pB o u y HB C;go_enter func243,ntmps243;go_wp2;rw[M.out];have r0:=q.out.cell 0;have r1:=q.out.cell 1;have r2:=q.out.cell 2;refine zc4 (v:=.agg #[(.int .i64 a),(.int .i64 b),(.int .i64 ((c:Int)+1))]) (by simp[results,results243,go_sem,r0,r1,r2]) rfl ?_;exact⟨rfl,K.out⟩
theorem zbD(a b c:Nat)(w:World) :
  zR 244 #[.agg #[a,b,c]] w (.int .i64 (if a≠0 then 0 else if b≠0 then 1 else 2)):=by
 have hk:=Blk.new w 102 #[a,b,c];have hB:=(zf0 w.heap.size w).alloc zN (.cells #[a,b,c] 102);have HB:=zH hB;have c0:(w.alloc (.cells #[a,b,c] 102)).cell? w.heap.size=some (.int .i64 a):=hk.cell 0;have c1:(w.alloc (.cells #[a,b,c] 102)).cell? ⟨w.heap.size,1,none⟩=some (.int .i64 b):=hk.cell 1;clear hk hB;go_enter func244,ntmps244;go_wp2_with fail;generalize w.alloc (.cells #[a,b,c] 102)=W1 at *;go_loop [9] (fun i=>∃k:Nat,k<=2/\i=.int .i64 k/\(0<k->a=0)/\(1<k->b=0)) (fun i=>2-(intOf i).toNat)
 case atStart=>exact⟨0,by omega,rfl,fun h=>by omega,fun h=>by omega⟩
 case round =>
  obtain⟨k,hk,rfl,ha,hb⟩:=hrel
  match k,hk with
  |0,_ =>
   by_cases h:a=0
   ·have e:((a:Int)==0)=true:=by rw[ztW];omega
    have HA:=zH h;clear h ha hb;go_wp2;go_round
    case rel=>exact⟨1,by omega,rfl,fun _=>HA.out,fun h=>by omega⟩
    case measure=>simp[intOf]
   ·have e:((a:Int)==0)=false:=by rw[zf2];omega
    have HH:=zH h;clear h ha hb;go_wp2;go_ret;exact⟨by first|rfl|(rw[zc3 HH.out];rfl),HB.out⟩
  |1,_ =>
   have j:=ha (by omega);have HA:=zH j
   by_cases h:b=0
   ·have e:((b:Int)==0)=true:=by rw[ztW];omega
    have o:=zH h;clear h ha hb j;go_wp2;go_round
    case rel=>exact⟨2,by omega,rfl,fun _=>HA.out,fun _=>o.out⟩
    case measure=>simp[intOf]
   ·have e:((b:Int)==0)=false:=by rw[zf2];omega
    have HH:=zH h;clear h ha hb j;go_wp2;go_ret;exact⟨by first|rfl|(rw[zc2 (by simpa using HA.out),zc3 HH.out];rfl),HB.out⟩
  |2,_ =>have j:=ha (by omega);have p:=hb (by omega);have HA:=zH j;have o:=zH p;clear ha hb j p;go_wp2;go_ret;exact⟨by first|rfl|(rw[zc2 (by simpa using HA.out),zc2 (by simpa using o.out)];rfl),HB.out⟩
end
