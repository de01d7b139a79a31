import Derived.Test.YthifnefkdjkicaaGreatDoorCtCat
import Derived.Maps.OwnIn
import Derived.Sort.CutIn
set_option maxHeartbeats 4000000
set_option maxRecDepth 100000
namespace Go.Proofs.YthifnefkdjkicaaGreatDoor
section
open Go.RowKit Go.Deep Sv
theorem zpt(ls:List Ln)(la:Option Addr)(lc:Nat)(w:World)(h:100<ls.length) :
  zR 41 #[.slice la ls.length lc] w (.tuple #[.pointer none,.iface 42 (.int .i64 4)]):=by
 have h1:(100:Int)<(ls.length:Int):=by omega
 clear h;go_enter Tryz.func41,Tryz.ntmps41;go_wp2;go_ret2;exact⟨rfl,Below.refl _ _⟩
theorem zlo(ls:List Ln)(la:Option Addr)(lc:Nat)(w:World)(hl:ls.length<=100)(vs:List Value)(h:ZX w (.slice la ls.length lc) ls)(k:Int)(i:Nat)(hg:qg ls 0 []=.error (k,i)) :
  zC 41 #[.slice la ls.length lc] w (zaK w ls vs (.error (k,some i))):=by
 have h1:¬(100:Int)<(ls.length:Int):=by omega
 have HG:Hid (zC 79 #[.slice la ls.length lc] w fun e w'=>∃N,e=.returned (.tuple #[.slice none 0 0,.iface 100 (.pointer (some ⟨N,0,none⟩))])/\Blk w' N 102 #[k,i]/\zB w w'):=by
  have h2:=zdO ls _ w h (by omega);rw[hg] at h2;exact h2
 clear hg h hl;go_enter Tryz.func41,Tryz.ntmps41;go_wp2_with fail;refine HG.out.mono ?_;rintro e w1 ⟨N,rfl,hN,hb⟩;have HN:=zH hN;have HB:=zH hb;clear hN hb HG;go_wp2;go_ret2;exact⟨_,rfl,⟨N,rfl,HN.out⟩,HB.out⟩
theorem zhS(ls:List Ln)(la:Option Addr)(lc:Nat)(w:World)(hl:ls.length<=100)(vs:List Value)(hvg:qO w ls vs)(hvr:yf w (.slice la ls.length lc) ls.length (qw ls vs))(its:List It)(hg:qg ls 0 []=.ok its)(R:Except (Int × Option Nat) (List It))(hR:R=match qu ls 0 (qX its) with|some i=>.error (7,some i)|none=>.ok (qX its)) :
  zC 41 #[.slice la ls.length lc] w (zaK w ls vs R):=by
 have h:ZX w (.slice la ls.length lc) ls:=⟨vs,hvg,hvr⟩;have h1:¬(100:Int)<(ls.length:Int):=by omega
 have HR:=zH hR;clear hR;have HG:Hid (zC 79 #[.slice la ls.length lc] w fun e w'=>∃v,e=.returned (.tuple #[v,.nilIface])/\w'.ownsRow w.heap.size 115 4 v its.length (zl its)/\zB w w'):=by
  have h2:=zdO ls _ w h (by omega);rw[hg] at h2;exact h2
 have ag:=zbc (P:=fun x=>x.name.size<=12) ls 0 [] its hg (fun x hx=>by cases hx) (fun x hx=>zao hx);have aP:its.length<=100:=by have:=ag.2;simp at this;omega
 have au:Hid (∀x∈qX its,x.name.size<=100000):=fun x hx=>by have:=ag.1 x ((Yo its).mem_iff.1 hx);omega
 obtain⟨S,hS⟩:∃S,qX its=S:=⟨_,rfl⟩;have ah:S.length=its.length:=by rw[<-hS];exact zaG its
 have aQ:S.length<=100:=by omega
 have ax:Hid (∀v W,W.ownsRow w.heap.size 115 4 v S.length (zl its)->zC 80 #[v] W fun e w'=>e=.returned (.tuple #[])/\w'.ownsRow w.heap.size 115 4 v S.length (zl S)/\Below w.heap.size W w'):=fun v W h=>by rw[ah] at h ⊢;rw[<-hS];exact znf its v w.heap.size W h (by omega)
 rw[<-ah] at HG;rw[hS] at au HR;have ay:=zH hvg;have az:=zH hvr;clear hg h ag hS ah aP hvg hvr;go_enter Tryz.func41,Tryz.ntmps41;go_wp2_with fail;refine HG.out.mono ?_;rintro e w1 ⟨v,rfl,U,aB⟩;have HS:=zH (ax.out v w1 U);have ai:=zH aB;obtain⟨va,vc,rfl,-⟩:=(zD U).form;clear HG U aB ax;go_wp2_with fail;refine HS.out.mono ?_;rintro e w2 ⟨rfl,o,aC⟩;have a0:Hid (zB w w2):=ai.out.trans aC;have ao:Hid (yd w2 (.slice va S.length vc) S):=zD o;have Y:=ay.out.below a0.out zN;have aG:=az.out.below a0.out zN;have an:=zH (zcA ls vs Y.1 Y.one _ w2 aG (by omega));have av:=zH Y;have aq:Hid (∀g,(Value.slice va S.length vc).ownBlock=some g->w.heap.size<=g):=fun g hg=>(o.lt g hg).1;have aO:=a0.out.size;clear HS o aC ai Y aG ay az;go_wp2_with fail;refine an.out.mono ?_;rintro e w3 ⟨lv,rfl,j,a8⟩;have aa:Hid (zB w w3):=zT a0.out a8;have ad:Hid (yd w3 (.slice va S.length vc) S):=ao.out.below a8 zN;have ae:Hid (qO w3 ls vs/\yf w3 lv ls.length (qw ls vs)):=⟨av.out.below a8 zN,zD j⟩;have ar:Hid (∀g,lv.ownBlock=some g->w.heap.size<=g):=fun g hg=>by have:=(j.lt g hg).1;omega
 have aA:=aa.out.size;have aw:=zH (zoY S _ w3 ad.out (by omega) au.out);obtain⟨u,y,rfl,-⟩:=(zD j).form;clear an j a8 a0 ao av;go_wp2_with fail;refine aw.out.mono ?_;rintro e w4 ⟨rfl,M,a5⟩;have ab:Hid (zB w w4):=zT aa.out a5;have ap:Hid (yd w4 (.slice va S.length vc) S):=ad.out.below a5 zN;have a2:Hid (qO w4 ls vs/\yf w4 (.slice u ls.length y) ls.length (qw ls vs)):=⟨ae.out.1.below a5 zN,ae.out.2.below a5 zN⟩;have a4:=zH M;clear aw M a5 aa ad ae;have kc:=Blk.new w4 170 #[.slice u ls.length y,.slice va S.length vc,.map (some w3.heap.size)];have K:zB w4 (w4.alloc (.cells #[.slice u ls.length y,.slice va S.length vc,.map (some w3.heap.size)] 170)):=zF.alloc zN _;have aE:w.heap.size<=w4.heap.size:=ab.out.size;have am:Hid (yH (w4.alloc (.cells #[.slice u ls.length y,.slice va S.length vc,.map (some w3.heap.size)] 170)) w4.heap.size ls vs S w.heap.size):=⟨_,_,_,kc,a2.out.1.below K zN,a2.out.2.below K zN,ap.out.below K zN,a4.out.below K zN,aE,aA,ar.out,aq.out⟩;have aM:Hid (ZX (w4.alloc (.cells #[.slice u ls.length y,.slice va S.length vc,.map (some w3.heap.size)] 170)) (.slice u ls.length y) ls):=⟨vs,a2.out.1.below K zN,a2.out.2.below K zN⟩;have aj:Hid (zB w (w4.alloc (.cells #[.slice u ls.length y,.slice va S.length vc,.map (some w3.heap.size)] 170))):=zT ab.out K;clear K ab ap a2 a4 ar aq aO aA aE;go_upto_region 8 with fail;generalize w4.alloc (.cells #[.slice u ls.length y,.slice va S.length vc,.map (some w3.heap.size)] 170)=W5 at *;generalize w4.heap.size=bc at *;have d0:_=some (Value.slice u ls.length y):=kc.cell 0;clear kc;go_wp2_with fail;clear d0;go_loopw [35] (fun iV wr=>∃i:Nat,i<=ls.length/\iV=.int .i64 i/\qu (ls.drop i) i S=qu ls 0 S/\zB W5 wr) (fun iV _=>ls.length-(intOf iV).toNat)
 case atStart=>exact⟨0,Nat.zero_le _,rfl,by rw[List.drop_zero],Below.refl _ _⟩
 case round =>
  obtain⟨i,hi,rfl,a6,X⟩:=hrel;have hB:zB w wr:=zT aj.out X;have aK:=zH (am.out.below X zN);have HB:=zH hB;have aJ:=zH X
  by_cases hlt:i<ls.length
  ·obtain⟨g,aN,rv,e,hg,aH,Y,c0,c1,c2,c3,c4,c5,c6⟩:=(aM.out.below X zN).at i hlt;simp at e;obtain⟨rfl,rfl⟩:=e;rw[zce hlt] at a6;have af:=zH a6;obtain⟨C,J,rfl⟩:=aH.form;clear a6 aH Y X hB;generalize ls.getD i default=x at *;have kx:=Blk.new wr 97 #[x.kind,x.name,x.a,x.b,x.c,x.other,.slice C x.rng.length J];have aF:zB wr (wr.alloc (.cells #[x.kind,x.name,x.a,x.b,x.c,x.other,.slice C x.rng.length J] 97)):=zF.alloc zN _;have ak:Hid (zB wr (wr.alloc (.cells #[x.kind,x.name,x.a,x.b,x.c,x.other,.slice C x.rng.length J] 97))):=aF;clear aF;go_upto_region 11 with fail;clear c0 c1 c2 c3 c4 c5 c6;have p:Hid (zB W5 (wr.alloc (.cells #[x.kind,x.name,x.a,x.b,x.c,x.other,.slice C x.rng.length J] 97))):=zT aJ.out ak.out;clear ak;generalize wr.alloc (.cells #[x.kind,x.name,x.a,x.b,x.c,x.other,.slice C x.rng.length J] 97)=W6 at *;generalize wr.heap.size=bx at *;have d0:_=some (Value.int .i64 x.kind):=kx.cell 0;have d1:_=some (Value.string x.name):=kx.cell 1;have d2:_=some (Value.int .i64 x.a):=kx.cell 2;have d3:_=some (Value.int .i64 x.b):=kx.cell 3;have d4:_=some (Value.int .i64 x.c):=kx.cell 4;have d5:_=some (Value.string x.other):=kx.cell 5;have d6:_=some (Value.slice C x.rng.length J):=kx.cell 6;go_wp2_with fail;clear d0 d1 d2 d3 d4 d5 d6;have a9:=yw x (.slice C x.rng.length J) W6
   by_cases hpr:x.pair
   ·have HP:Hid (zR 76 #[.agg #[x.kind,x.name,x.a,x.b,x.c,x.other,.slice C x.rng.length J]] W6 (.bool true)):=a9.mono fun e w' ⟨he,hw⟩=>⟨by rw[he,decide_eq_true hpr],by rw[hw];exact zF.alloc zN _⟩;clear a9;refine HP.out.mono ?_;rintro e w7 ⟨rfl,V⟩;have a7:=kx.below V kx.lt;have a1:Hid (zB W5 w7):=zT p.out V;have d1:_=some (Value.string x.name):=a7.cell 1;have d2:_=some (Value.int .i64 x.a):=a7.cell 2;have d3:_=some (Value.int .i64 x.b):=a7.cell 3;have d4:_=some (Value.int .i64 x.c):=a7.cell 4;have a3:=zH (zbh bc ls S x.name x.a x.b x.c w7 (am.out.below a1.out zN).cat (by omega));clear HP V kx a7 p;go_wp2_with fail;clear d1 d2 d3 d4;refine a3.out.mono ?_;rintro e w8 ⟨rfl,aD⟩;have ac:Hid (zB W5 w8):=zT a1.out aD;have q:Hid (qI S ⟨x.name,x.a,x.b,x.c⟩<0↔x.it∉S):=zjT S x.it;clear a3 aD a1;generalize qI S ⟨x.name,x.a,x.b,x.c⟩=Z at *
    by_cases hz:Z<0
    ·have HM:Hid (qu ls 0 S=some i):=by show _=_;rw[<-af.out,zA2 ⟨hpr,q.out.1 hz⟩]
     have aI:Hid (zB w (w8.alloc (.cells #[(7:Int),i] 102))):=by
      have h:=zT aj.out ac.out;exact zL h
     have aL:Hid (Blk (w8.alloc (.cells #[(7:Int),i] 102)) w8.heap.size 102 #[(7:Int),i]):=Blk.new _ _ _;clear q ac hpr;go_wp2;go_ret2;rw[HR.out,HM.out];exact⟨_,rfl,⟨_,rfl,aL.out⟩,aI.out⟩
    ·have HM:Hid (qu (ls.drop (i+1)) (i+1) S=qu ls 0 S):=by show _=_;rw[<-af.out,zA1 (fun h=>hz (q.out.2 h.2))]
     clear q hpr;go_wp2;go_roundw
     case rel=>exact⟨i+1,hlt,by go_num,HM.out,ac.out⟩
     case measure=>simp[intOf];omega
   ·have HP:Hid (zR 76 #[.agg #[x.kind,x.name,x.a,x.b,x.c,x.other,.slice C x.rng.length J]] W6 (.bool false)):=a9.mono fun e w' ⟨he,hw⟩=>⟨by rw[he,decide_eq_false hpr],by rw[hw];exact zF.alloc zN _⟩;have HM:Hid (qu (ls.drop (i+1)) (i+1) S=qu ls 0 S):=by show _=_;rw[<-af.out,zA1 (fun h=>hpr h.1)]
    clear a9 hpr;refine HP.out.mono ?_;rintro e w7 ⟨rfl,V⟩;have a1:Hid (zB W5 w7):=zT p.out V;clear HP V kx p;go_wp2;go_roundw
    case rel=>exact⟨i+1,hlt,by go_num,HM.out,a1.out⟩
    case measure=>simp[intOf];omega
  ·obtain rfl:i=ls.length:=by omega
   have HM:Hid (qu ls 0 S=none):=by show _=_;rw[<-a6,List.drop_length,qu]
   clear a6 X hB;go_wp2;go_ret2;rw[HR.out,HM.out];exact⟨bc,rfl,aK.out,HB.out⟩
theorem zbt(ls:List Ln)(vs:List Value)(lv:Value)(w:World)(hvg:qO w ls vs)(hvr:yf w lv ls.length (qw ls vs)):zC 41 #[lv] w (zaK w ls vs (qA ls)):=by
 obtain⟨la,lc,rfl,-⟩:=hvr.form;unfold qA
 by_cases h1:100<ls.length
 ·rw[zA2 h1];exact(zpt ls la lc w h1).mono fun e w' ⟨he,hb⟩=>⟨_,he,rfl,hb⟩
 ·rw[zA1 h1];cases hg:qg ls 0 [] with
  |error e=>exact zlo ls la lc w (by omega) vs ⟨vs,hvg,hvr⟩ e.1 e.2 hg
  |ok its=>exact zhS ls la lc w (by omega) vs hvg hvr its hg _ rfl
end
section
open Go.RowKit Go.Deep Go.Shelf Sv
def RgN(ls:List Ln)(vs:List Value)(b:Option Nat):Prop:=∀i,i<ls.length->0<(ls.getD i default).rng.length->∀g,(vs.getD i undef).ownBlock=some g->some g≠b
theorem RgN.nil(b:Option Nat):RgN [] [] b:=fun i h=>by simp at h
theorem RgN.none(ls:List Ln)(vs:List Value):RgN ls vs none:=fun _ _ _ _ _ h=>by cases h
theorem zk.lt'{w:World}{v:Value}{l:List zf}(h:zk w v l)(hl:0<l.length){g:Nat}(hg:v.ownBlock=some g):g<w.heap.size:=by
 obtain⟨g',j,e,o,_⟩:=h.cells 0 hl;rw[e] at hg;simp[Value.ownBlock] at hg;omega
theorem RgN.new{W:World}{ls:List Ln}{vs:List Value}(h:qO W ls vs){b:Nat}(hb:W.heap.size<=b):RgN ls vs (some b):=fun i hi hl g hg e=>by
 have:=(h.2 i hi).1.lt' hl hg;cases e;omega
theorem RgN.snoc{ls:List Ln}{vs:List Value}{b:Option Nat}(h:RgN ls vs b)(hv:vs.length=ls.length){x:Ln}{v:Value}(hx:0<x.rng.length->∀g,v.ownBlock=some g->some g≠b):RgN (ls++[x]) (vs++[v]) b:=by
 intro i hi
 by_cases hl:i<ls.length
 ·have e1:(ls++[x]).getD i default=ls.getD i default:=by simp[List.getD_eq_getElem?_getD,List.getElem?_append_left hl]
  have e2:(vs++[v]).getD i undef=vs.getD i undef:=by simp[List.getD_eq_getElem?_getD,List.getElem?_append_left (show i<vs.length by rw[hv];exact hl)]
  rw[e1,e2];exact h i hl
 ·obtain rfl:i=ls.length:=by simp at hi;omega
  have e1:(ls++[x]).getD ls.length default=x:=by simp[List.getD_eq_getElem?_getD]
  have e2:(vs++[v]).getD ls.length undef=v:=by simp[List.getD_eq_getElem?_getD,<-hv]
  rw[e1,e2];exact hx
theorem zk.grown{W W':World}{v:Value}{l:List zf}{row:Option Nat}(h:zk W v l)(hg:W.grownBy W' row)(hn:0<l.length->∀g,v.ownBlock=some g->some g≠row):zk W' v l :=
 ⟨h.form,fun i hi=>by
  obtain⟨g,p,e,j,c0,c1⟩:=h.cells i hi;have o:=hn (by omega) g (by rw[e];rfl);exact ⟨g,p,e,Nat.lt_of_lt_of_le j hg.size,(Z3 hg j o).trans c0,(Z3 hg j o).trans c1⟩⟩
theorem qO.grown{W W':World}{ls:List Ln}{vs:List Value}{row:Option Nat}(h:qO W ls vs)(hg:W.grownBy W' row)(hn:RgN ls vs row):qO W' ls vs:=⟨h.1,fun i hi=>⟨(h.2 i hi).1.grown hg (hn i hi),(h.2 i hi).2⟩⟩
theorem zk.one'{W:World}{b:Nat}{v x:Value}{l:List zf}{i:Nat}(h:zk W v l)(hn:0<l.length->∀g,v.ownBlock=some g->some g≠some b):zk (W.setCell ⟨b,i,none⟩ x) v l :=
 ⟨h.form,fun j hj=>by
  obtain⟨g,p,e,hg,c0,c1⟩:=h.cells j hj;have o:g≠b:=fun e'=>hn (by omega) g (by rw[e];rfl) (by rw[e']);exact ⟨g,p,e,by simp [World.setCell];exact hg,(qq o).trans c0,(qq o).trans c1⟩⟩
theorem qO.set{W:World}{ls:List Ln}{vs:List Value}{b i:Nat}{x:Value}(h:qO W ls vs)(hn:RgN ls vs (some b)):qO (W.setCell ⟨b,i,none⟩ x) ls vs:=⟨h.1,fun j hj=>⟨(h.2 j hj).1.one' (hn j hj),(h.2 j hj).2⟩⟩
theorem qO.keptO{W W':World}{ls:List Ln}{vs:List Value}{row:Option Nat}(h:qO W ls vs)(hg:W.grownBy W' row)(hr:∀r,row=some r->∃o:Obj,W.heap[r]?=some o/\o.isCells=false):qO W' ls vs:=⟨h.1,fun i hi=>⟨XI (h.2 i hi).1 hg hr,(h.2 i hi).2⟩⟩
theorem zee{W W':World}{B t k n:Nat}{v:Value}{cs:List Value}{row:Option Nat}(h:W.ownsRow B t k v n cs)(hg:W.grownBy W' row)(hr:∀r,row=some r->∃o:Obj,W.heap[r]?=some o/\o.isCells=false):W'.ownsRow B t k v n cs:=by
 obtain⟨h1,h2⟩:=h;refine⟨h1,?_⟩;rcases h2 with h2|⟨g,j,p,rfl,hB,hh,r⟩
 ·exact Or.inl h2
 ·refine Or.inr ⟨g,j,p,rfl,hB,(hg.block g (Array.getElem?_eq_some_iff.1 hh).1 (fun e=>?_)).trans hh,r⟩;obtain⟨o,ho,hc⟩:=hr g e.symm;rw[hh] at ho;cases ho;cases hc
theorem xZ{W W':World}{B t k n:Nat}{v:Value}{cs:List Value}{row:Option Nat}(h:W.ownsRow B t k v n cs)(hg:W.grownBy W' row)(hne:v.ownBlock=none\/v.ownBlock≠row):W'.ownsRow B t k v n cs:=by
 obtain⟨h1,h2⟩:=h;refine⟨h1,?_⟩;rcases h2 with h2|⟨g,j,o,rfl,hB,hh,r⟩
 ·exact Or.inl h2
 ·refine Or.inr ⟨g,j,o,rfl,hB,(hg.block g (Array.getElem?_eq_some_iff.1 hh).1 (fun e=>?_)).trans hh,r⟩;rcases hne with h|h
  ·simp[Value.ownBlock] at h
  ·exact h e
theorem Zs{W:World}{B t k n b i:Nat}{v x:Value}{cs:List Value}(h:W.ownsRow B t k v n cs)(hb:b<B):(W.setCell ⟨b,i,none⟩ x).ownsRow B t k v n cs:=by
 refine⟨h.1,?_⟩;rcases h.2 with h1|⟨g,j,o,h1,h2,h3,h4⟩
 ·exact .inl h1
 ·exact .inr ⟨g,j,o,h1,h2,(Below.heap_setCell _ _ _ g (by show g≠b;omega)).trans h3,h4⟩
theorem zfN(w:World)(A B C D E F G:Value)(t:TypeId):∀(j:Nat) (u:Value),[A,B,C,D,E,F,G][j]?=some u->(w.alloc (.cells #[A,B,C,D,E,F,G] t)).cell? (Addr.add w.heap.size j)=some u:=by
 intro j u h
 match j,h with
 |0,h=>simp at h;subst h;simp[Addr.add]
 |1,h=>simp at h;subst h;simp[Addr.add]
 |2,h=>simp at h;subst h;simp[Addr.add]
 |3,h=>simp at h;subst h;simp[Addr.add]
 |4,h=>simp at h;subst h;simp[Addr.add]
 |5,h=>simp at h;subst h;simp[Addr.add]
 |6,h=>simp at h;subst h;simp[Addr.add]
 |j+7,h=>simp at h
structure PS(w W:World)(lv sv:Value)(ls:List Ln)(vs:List Value)(ss:List Nat):Prop where
 r0:Blk W w.heap.size 24 #[.pointer none]
 r1:Blk W (w.heap.size+1) 33 #[.nilIface]
 r2:Blk W (w.heap.size+1+1) 88 #[lv]
 r3:Blk W (w.heap.size+1+1+1) 23 #[sv]
 lrow:W.ownsRow (w.heap.size+1+1+1+1+1) 97 7 lv ls.length (qw ls vs)
 srow:W.ownsRow (w.heap.size+1+1+1+1+1) 3 1 sv ss.length (zm (ss.map fun (k:Nat)=>(k:Int)))
 rg:qO W ls vs
 nl:RgN ls vs lv.ownBlock
 ns:RgN ls vs sv.ownBlock
 lo:∀k,k<w.heap.size+1+1+1+1+1->RgN ls vs (some k)
 B:zB w W
 sz:w.heap.size+1+1+1+1+1<=W.heap.size
theorem PS.step{w W W':World}{lv sv:Value}{ls:List Ln}{vs:List Value}{ss:List Nat}(h:PS w W lv sv ls vs ss)(hb:zB W W'):PS w W' lv sv ls vs ss :=
 ⟨h.r0.below hb h.r0.lt,h.r1.below hb h.r1.lt,h.r2.below hb h.r2.lt,h.r3.below hb h.r3.lt,zI h.lrow hb,zI h.srow hb,h.rg.below hb zN,h.nl,h.ns,h.lo,zT h.B hb,Nat.le_trans h.sz hb.size⟩
theorem PS.own{w:World}(B:Nat)(hB:w.heap.size<=B)(Φ:List Pc->List Ln->List Nat->Prop):OwnFrom B (fun (pre:List Pc) W=>∃lv sv ls vs ss,Φ pre ls ss/\PS w W lv sv ls vs ss):=by
 intro pre W W' row ⟨lv,sv,ls,vs,ss,hΦ,h⟩ hg hr;have hr':∀r,row=some r->∃o:Obj,W.heap[r]?=some o/\o.isCells=false:=fun r e=>(hr r e).2;exact⟨lv,sv,ls,vs,ss,hΦ,⟨yo h.r0 hg hr',yo h.r1 hg hr',yo h.r2 hg hr',yo h.r3 hg hr',zee h.lrow hg hr',zee h.srow hg hr',h.rg.keptO hg hr',h.nl,h.ns,h.lo,ownFrom_below (β:=Unit) zN hB () W W' row h.B hg hr,Nat.le_trans h.sz hg.size⟩⟩
theorem PS.appL{w W w':World}{lv lv' sv v:Value}{ls:List Ln}{vs:List Value}{ss:List Nat}{x:Ln}(h:PS w W lv sv ls vs ss)(hv:zk W v x.rng)(hrg:Rg x.rng)(hn:0<x.rng.length->∀g,v.ownBlock=some g->w.heap.size+1+1+1+1+1<=g/\some g≠lv.ownBlock/\some g≠sv.ownBlock)
  (hown:w'.ownsRow (w.heap.size+1+1+1+1+1) 97 7 lv' (ls.length+1) (qw ls vs++ZD x v)) (hg:W.grownBy w' lv.ownBlock) (hloc:lv'.ownBlock=lv.ownBlock\/lv'.ownBlock=some W.heap.size) :
  PS w (w'.setCell ⟨w.heap.size+1+1,0,none⟩ lv') lv' sv (ls++[x]) (vs++[v]) ss/\Blk w' (w.heap.size+1+1) 88 #[lv]/\Blk (w'.setCell ⟨w.heap.size+1+1,0,none⟩ lv') (w.heap.size+1+1+1) 23 #[sv]:=by
 have o:∀b,b<w.heap.size+1+1+1+1+1->some b≠lv.ownBlock:=fun b hb e=>by have:=(h.lrow.lt b e.symm).1;omega
 have q0:=h.r0.kept hg (o _ (by omega));have q1:=h.r1.kept hg (o _ (by omega));have q2:=h.r2.kept hg (o _ (by omega));have q3:=h.r3.kept hg (o _ (by omega));have hx:0<x.rng.length->∀g,v.ownBlock=some g->some g≠lv.ownBlock:=fun h1 g h2=>(hn h1 g h2).2.1;have u:qO w' (ls++[x]) (vs++[v]):=(h.rg.grown hg h.nl).snoc (hv.grown hg hx) hrg;have q:∀k,k<w.heap.size+1+1+1+1+1->RgN (ls++[x]) (vs++[v]) (some k):=fun k hk=>(h.lo k hk).snoc h.rg.1 (fun h1 g h2 e=>by have:=(hn h1 g h2).1;cases e;omega);have j:=xZ h.srow hg (ZP h.srow h.lrow (by decide));have hB:zB w w':=h.B.grown hg h.B.size (fun k hk=>by have:=(h.lrow.lt k hk).1;omega);refine⟨⟨q0.other (by omega),q1.other (by omega),q2.set (i:=0),q3.other (by omega),?_,Zs j (by omega),u.set (q _ (by omega)),?_,h.ns.snoc h.rg.1 (fun h1 g h2=>(hn h1 g h2).2.2),q,hB.setCell (p:=⟨w.heap.size+1+1,0,none⟩) (by show w.heap.size<=w.heap.size+1+1;omega) _,by simp[World.setCell];exact Nat.le_trans h.sz hg.size⟩,q2,q3.other (by omega)⟩
 ·rw[zbT _ _ _ _ h.rg.1,List.length_append];exact Zs hown (by omega)
 ·rcases hloc with e|e
  ·rw[e];exact h.nl.snoc h.rg.1 hx
  ·rw[e];refine(RgN.new h.rg zN).snoc h.rg.1 (fun h1 g h2 e2=>?_);have:=hv.lt' h1 h2;cases e2;omega
theorem PS.appS{w W w':World}{lv sv sv':Value}{ls:List Ln}{vs:List Value}{ss:List Nat}{k:Nat}(h:PS w W lv sv ls vs ss)
  (hown:w'.ownsRow (w.heap.size+1+1+1+1+1) 3 1 sv' (ss.length+1) (zm (ss.map fun (k:Nat)=>(k:Int))++[.int .i64 k])) (hg:W.grownBy w' sv.ownBlock) (hloc:sv'.ownBlock=sv.ownBlock\/sv'.ownBlock=some W.heap.size) :
  PS w (w'.setCell ⟨w.heap.size+1+1+1,0,none⟩ sv') lv sv' ls vs (ss++[k])/\Blk w' (w.heap.size+1+1+1) 23 #[sv]:=by
 have o:∀b,b<w.heap.size+1+1+1+1+1->some b≠sv.ownBlock:=fun b hb e=>by have:=(h.srow.lt b e.symm).1;omega
 have q0:=h.r0.kept hg (o _ (by omega));have q1:=h.r1.kept hg (o _ (by omega));have q2:=h.r2.kept hg (o _ (by omega));have q3:=h.r3.kept hg (o _ (by omega));have q:qO w' ls vs:=h.rg.grown hg h.ns;have j:=xZ h.lrow hg (ZP h.lrow h.srow (by decide));have hB:zB w w':=h.B.grown hg h.B.size (fun k hk=>by have:=(h.srow.lt k hk).1;omega);refine⟨⟨q0.other (by omega),q1.other (by omega),q2.other (by omega),q3.set (i:=0),Zs j (by omega),?_,q.set (h.lo _ (by omega)),h.nl,?_,h.lo,hB.setCell (p:=⟨w.heap.size+1+1+1,0,none⟩) (by show w.heap.size<=w.heap.size+1+1+1;omega) _,by simp[World.setCell];exact Nat.le_trans h.sz hg.size⟩,q3⟩
 ·rw[List.map_append,List.length_append];have e:zm (List.map (fun (k:Nat)=>(k:Int)) ss++List.map (fun (k:Nat)=>(k:Int)) [k])=zm (ss.map fun (k:Nat)=>(k:Int))++[.int .i64 k]:=by rw[List.map_cons,List.map_nil,Z1]
  rw[e];exact Zs hown (by omega)
 ·rcases hloc with e|e
  ·rw[e];exact h.ns
  ·rw[e];exact RgN.new h.rg zN
theorem zfW{W:World}{B t k n:Nat}{v:Value}{cs:List Value}(h:W.ownsRow B t k v n cs):∀(j:Nat) (o:Obj),v.ownBlock=some j->W.heap[j]?=some o->o.isCells=true:=by
 intro j o hj ho;rcases h.2 with ⟨rfl,_⟩|⟨g,p,q,rfl,_,hg,_⟩
 ·simp[Value.ownBlock] at hj
 ·simp only[Value.ownBlock,Option.some.injEq] at hj;subst hj;rw[hg] at ho;cases ho;rfl
theorem zfr{bt:Nat}{W W1 W':World}{B t k n:Nat}{v:Value}{cs:List Value}(hK:Kp1 bt W W1)(h:W1.ownsRow B t k v n cs)(hg:W1.grownBy W' v.ownBlock)(h1:bt<B)(h2:4<B)(h3:bt<W1.heap.size)(h4:4<W1.heap.size):Kp1 bt W W':=by
 have j:∀b,b<B->some b≠v.ownBlock:=fun b hb e=>by have:=(h.lt b e.symm).1;omega
 exact⟨(Z3 hg h3 (j _ h1)).trans hK.1,(Z3 hg h4 (j _ h2)).trans hK.2⟩
theorem yH.set{w:World}{b:Nat}{ls:List Ln}{vs:List Value}{its:List It}{B k i:Nat}{x:Value}(h:yH w b ls vs its B)(hk:k<B)(hn:RgN ls vs (some k)):yH (w.setCell ⟨k,i,none⟩ x) b ls vs its B:=by
 obtain⟨lv,iv,bm,h1,h2,h3,h4,h5,h6,h7,h8,h9⟩:=h;exact⟨lv,iv,bm,h1.other (by omega),h2.set hn,h3.set (fun g hg=>by have:=h8 g hg;omega),yf.set h4 (fun g hg=>by have:=h9 g hg;omega),h5.block (Below.heap_setCell _ _ _ _ (by show bm≠k;omega)),h6,h7,h8,h9⟩
theorem yH.putD{w:World}{b D:Nat}{ls:List Ln}{vs:List Value}{its:List It}{B:Nat}{o':Obj}(h:yH w b ls vs its B)(hK:∃o,w.heap[D]?=some o/\o.isCells=false/\∀es c,o≠.map es c):yH (w.putObj D o') b ls vs its B:=by
 obtain⟨lv,iv,bm,h1,h2,h3,h4,h5,h6,h7,h8,h9⟩:=h;obtain⟨o,ho,hc,hm⟩:=hK;have q:b≠D:=by
  rintro rfl;rw[show w.heap[b]?=_ from h1] at ho;cases ho;cases hc
 have u:bm≠D:=by
  rintro rfl;obtain⟨E,n,⟨es,j,p,_⟩,_⟩:=h5;rw[p] at ho;cases ho;exact hm _ _ rfl
 refine⟨lv,iv,bm,h1.put q,h2.keptO (grownBy_putObj' _ D o') (fun r e=>by cases e;exact⟨_,ho,hc⟩),h3.put ho hc (fun h=>?_),yf.put h4 ho hc (fun h=>?_),h5.block (World.putObj_heap_other u),h6,h7,h8,h9⟩
 ·rw[Kx _ _ h2.1] at h;omega
 ·rw[xF] at h;omega
end
section
open Go.RowKit Go.Deep Sv
theorem znA(bk:Nat)(ls:List Ln)(its:List It)(w:World)(h:xY w bk ls its)(hl:its.length<=100000) :
  zC 45 #[.pointer (some bk)] w fun e w'=>∃v',e=.returned v'/\w'.ownsRow w.heap.size 115 4 v' its.length (zl its)/\zB w w':=by
 obtain⟨lv,iv,bm,h1,h2,h3,h4⟩:=h;have HI:=zH (zpf its iv w h3 hl);obtain⟨va,vc,rfl,-⟩:=h3.form;have c1:_=some (Value.slice va its.length vc):=h1.cell 1;clear h1 h2 h3 h4 hl;go_enter Tryz.func45,Tryz.ntmps45;go_wp2_with fail;refine HI.out.mono ?_;rintro e w1 ⟨v',rfl,j,o⟩;have HR:=zH j;have p:=zH o;clear o HI j c1;go_wp2;go_ret;exact⟨v',rfl,HR.out,p.out⟩
theorem zow(name:ByteArray):∀(l:List It) (r:Nat × Nat),ye l name=some r->r.1<r.2/\r.2<=l.length:=by
 intro l
 induction h:l.length generalizing l with
 |zero =>intro r hr;obtain rfl:l=[]:=List.eq_nil_of_length_eq_zero h;cases hr
 |succ n ih =>
  intro r hr;obtain⟨l',x,rfl⟩:∃l' x,l=l'++[x]:=by
   rcases List.eq_nil_or_concat l with e|⟨l',x,e⟩
   ·subst e;simp at h
   ·exact⟨l',x,by rw[e,List.concat_eq_append]⟩
  have hl':l'.length=n:=by simpa using h
  rw[zbx] at hr;split at hr
  ·cases hr;cases hf:ye l' name with
   |none=>simp[hl']
   |some r' =>have:=ih l' hl' r' hf;simp[hl'];omega
  ·have:=ih l' hl' r hr;omega
theorem zaB(its:List It)(name:ByteArray):(ya its name).1<=(ya its name).2/\(ya its name).2<=its.length:=by
 unfold ya;cases h:ye its name with
 |none=>simp
 |some r=>have:=zow name its r h;simp;omega
open Classical in
noncomputable def amP(its:List It)(name:ByteArray)(rng:List zf)(i:Nat):List Nat :=
 (List.range' (ya its name).1 (i-(ya its name).1)).filter fun i=>decide (yZ rng (its.getD i default))
theorem zgQ(its:List It)(name:ByteArray)(rng:List zf):amP its name rng (ya its name).1=[]:=by unfold amP;simp
theorem zid(its:List It)(name:ByteArray)(rng:List zf):amP its name rng (ya its name).2=qs its name rng:=rfl
open Classical in
theorem zhH(its:List It)(name:ByteArray)(rng:List zf){i:Nat}(hi:(ya its name).1<=i):amP its name rng (i+1)=amP its name rng i++(if yZ rng (its.getD i default) then [i] else []):=by
 unfold amP;rw[show i+1-(ya its name).1=(i-(ya its name).1)+1 by omega,List.range'_concat,List.filter_append,Nat.one_mul,show (ya its name).1+(i-(ya its name).1)=i by omega];congr 1
 by_cases h:yZ rng (its.getD i default)
 ·rw[zA2 h];simp only[List.filter_cons,List.filter_nil,decide_eq_true h,if_true]
 ·rw[zA1 h];simp only[List.filter_cons,List.filter_nil,decide_eq_false h,Bool.false_eq_true,if_false]
theorem zm8(its:List It)(name:ByteArray)(rng:List zf)(i:Nat):(amP its name rng i).length<=i:=by
 unfold amP;refine Nat.le_trans (List.length_filter_le _ _) ?_;rw[List.length_range'];omega
end
section
open Go.RowKit Go.Deep Sv
theorem zh8(a b:Int)(W:World):(Instr.field 174 (.agg #[a,b]) 0).run Tryz.prog W=.ok (.int .i64 a) W/\(Instr.field 174 (.agg #[a,b]) 1).run Tryz.prog W=.ok (.int .i64 b) W:=by
 constructor<;>kernel_rfl
theorem zbQ(bk:Nat)(ls:List Ln)(its:List It)(name:ByteArray)(rng:List zf)(hr:Rg rng)(v:Value)(w:World)(h:xY w bk ls its)(hl:its.length<=100000)(hn:name.size<=100000)(hv:zk w v rng) :
  zC 50 #[.pointer (some bk),name,.agg #[v]] w fun e w'=>∃v',e=.returned v'/\w'.ownsRow w.heap.size 3 1 v' (qs its name rng).length (zm ((qs its name rng).map fun (k:Nat)=>(k:Int)))/\zB w w':=by
 obtain⟨va,vc,rfl⟩:=hv.form;obtain⟨lv,iv,bm,h1,h2,h3,h4⟩:=h;obtain⟨ia,ic,rfl,-⟩:=h3.form;obtain⟨i0,ay,aA,aB,aC⟩:=info_parts Z0;have a0:Hid (∀W i,zB w W->zC 85 #[.agg #[.slice va rng.length vc],.agg #[.int .i64 (its.getD i default).a,.int .i64 (its.getD i default).b,.int .i64 (its.getD i default).c]] W fun e w'=>(e=.returned (.bool true)/\yZ rng (its.getD i default)\/e=.returned (.bool false)/\¬yZ rng (its.getD i default))/\zB W w'):=fun W i hW=>(zfV rng hr va vc (its.getD i default) W (hv.below hW zN)).mono fun e w' ⟨he,hb⟩=>by
  refine⟨?_,hb⟩
  by_cases hh:yZ rng (its.getD i default)
  ·exact Or.inl ⟨by rw[he];congr 2;exact @decide_eq_true _ (Classical.propDecidable _) hh,hh⟩
  ·exact Or.inr ⟨by rw[he];congr 2;exact @decide_eq_false _ (Classical.propDecidable _) hh,hh⟩
 have a3:zB w (w.alloc (.cells #[.slice va rng.length vc] 95)):=(Below.refl _ w).alloc zN _;have kr:=Blk.new w 95 #[.slice va rng.length vc];have k1:=h1.below a3 h1.lt;have h5:=h4.below a3 zN;have o:=fun (n:Nat)=>((h5.block (w':=(w.alloc (.cells #[.slice va rng.length vc] 95)).drewN n) rfl).look hn).2;clear h5;have HI:=zH (show yd (w.alloc (.cells #[.slice va rng.length vc] 95)) (.slice ia its.length ic) its from h3.below a3 zN);have V:=zH a3;have af:=zH (zgQ its name rng);have aa:=zH (zid its name rng);have ac:Hid (∀i,(ya its name).1<=i->amP its name rng (i+1)=amP its name rng i++(@ite _ (yZ rng (its.getD i default)) (Classical.propDecidable _) [i] [])):=fun i hi=>zhH its name rng hi;have ak:=zH (fun i=>zm8 its name rng i);have ag:=zaB its name;have j:(ye its name).getD (0,0)=ya its name:=rfl;simp only[j,Yh] at o;obtain⟨la,lc,rfl,-⟩:∃la lc,lv=.slice la ls.length lc/\True:=by obtain⟨vs,_,h2⟩:=h2;obtain⟨x,y,e,_⟩:=h2.form;exact⟨x,y,e,trivial⟩
 clear j h1 h2 h3 h4 a3 hv hr hn;generalize amP its name rng=am at *;generalize qs its name rng=amF at *;obtain⟨lo,a8⟩:∃lo,(ya its name).1=lo:=⟨_,rfl⟩;obtain⟨hi,a7⟩:∃hi,(ya its name).2=hi:=⟨_,rfl⟩;rw[a8,a7] at ag;simp only[a8,a7] at o;rw[a8] at af ac;rw[a7] at aa;clear a8 a7;obtain⟨ap,aD⟩:=ag;go_enter Tryz.func50,Tryz.ntmps50;go_upto_region 4 with fail;generalize w.alloc (.cells #[.slice va rng.length vc] 95)=W0 at *;have d2:_=some (Value.map (some bm)):=k1.cell 2;have K:=o 1;rw[show W0.drewN 1=W0.drew from rfl] at K;clear o;obtain⟨ar,au⟩:=zh8 (lo:Int) (hi:Int) W0.drew;go_big_region;clear d2 K ar au;have a1:zB W0 W0.drew:=⟨rfl,rfl,rfl,Nat.le_refl _,fun _ _=>rfl⟩;have ah:=kr.below a1 kr.lt;have k2:=k1.below a1 k1.lt;have aj:=zH (show yd W0.drew (.slice ia its.length ic) its from HI.out.below a1 zN);have a9:Hid (zB w W0.drew):=zT V.out a1;clear a1 kr k1 HI V;generalize W0.drew=W1 at *;go_wp2_with fail;go_loopw [7,8] (fun oV iV wr=>∃(i:Nat),lo<=i/\i<=hi/\iV=.int .i64 i/\wr.ownsRow W1.heap.size 3 1 oV (am i).length (zm ((am i).map fun (k:Nat)=>(k:Int)))/\zB w wr/\zB W1 wr) (fun _ iV _=>hi-(intOf iV).toNat)
 case atStart=>exact⟨lo,Nat.le_refl _,ap,rfl,by rw[af.out];exact World.ownsRow_nil _ _ _ _,a9.out,Below.refl _ _⟩
 case round =>
  obtain⟨i,ax,aE,rfl,j,a2,Y⟩:=hrel;obtain⟨oa,oc,rfl,-⟩:=(zD j).form
  by_cases hlt:i<hi
  ·obtain⟨g,an,e,hg,c0,c1,c2,c3⟩:=(show yd wr _ its from aj.out.below Y zN).at i (by omega);simp at e;obtain⟨rfl,rfl⟩:=e;have av:(0:Int)<=(i:Int):=by omega
   have aw:(i:Int)<(its.length:Int):=by omega
   have ao:=ak.out i;have M:=zH (ac.out i ax);have a6:=zH (fun W hW=>a0.out W i hW);have q:=zH j;have X:=zH a2;have a5:=zH Y;have ad:=ah.below Y ah.lt;have k3:=k2.below Y k2.lt;have az:=ad.lt;have aq:=k3.lt;generalize its.getD i default=x at *;have SC:Hid (∀W,zB wr W->W.cell? w.heap.size=some (.slice va rng.length vc)/\W.cell? ⟨bk,1,none⟩=some (.slice (some g) its.length ic)/\W.cell? ⟨g,i*4+1,none⟩=some (.int .i64 x.a)/\W.cell? ⟨g,i*4+2,none⟩=some (.int .i64 x.b)/\W.cell? ⟨g,i*4+3,none⟩=some (.int .i64 x.c)):=fun W h=>⟨(ad.below h az).cell 0,(k3.below h aq).cell 1,(h.cell (p:=⟨g,i*4+1,none⟩) hg).trans c1,(h.cell (p:=⟨g,i*4+2,none⟩) hg).trans c2,(h.cell (p:=⟨g,i*4+3,none⟩) hg).trans c3⟩;have D0:zB wr wr.drew:=zF.drew;have E0:zB w wr.drew:=a2.drew;clear j a2 Y ad k3 c0 c1 c2 c3 a0 ac;go_upto_region 7 with fail
   by_cases hh:yZ rng x
   ·have HQ:Hid (∀W,zB w W->zR 85 #[.agg #[.slice va rng.length vc],.agg #[x.a,x.b,x.c]] W (.bool true)):=fun W hW=>(a6.out W hW).mono fun e w' ⟨h,hb⟩=>⟨by rcases h with h|h;exact h.1;exact absurd hh h.2,hb⟩;have HA:Hid (am (i+1)=am i++[i]):=by show _=_;rw[M.out,zA2 hh]
    clear a6 M hh;go_region_held3 (fun W=>W.cell? w.heap.size=some (.slice va rng.length vc)/\W.cell? ⟨bk,1,none⟩=some (.slice (some g) its.length ic)/\W.cell? ⟨g,i*4+1,none⟩=some (.int .i64 x.a)/\W.cell? ⟨g,i*4+2,none⟩=some (.int .i64 x.b)/\W.cell? ⟨g,i*4+3,none⟩=some (.int .i64 x.c)) (first|exact SC.out _ D0|exact SC.out _ D1)
     (((with_reducible refine(HQ.out _ E0).mono ?_);rintro e x1 ⟨rfl,C⟩;have D1:zB wr x1:=zT D0 C;clear HQ D0 E0 C))
    have U:=zI q.out D1;have V:Hid (zB w x1):=zT X.out D1;have Z:Hid (zB W1 x1):=zT a5.out D1;have u:=zH U;have aF:=V.out.size;have aG:=Z.out.size;clear D1 U SC q X a5;go_wp2_with (at_builtin;refine wpList_append_own_at _ rfl _ _ 23 rfl W1.heap.size 3 i0 (.int .i64 0) 1 8 Tryz.underlying23 ay aA aB aC rfl (by decide) _ _ _ rfl (u.out.alloc _) x1.heap.size 1 1 [.int .i64 i] rfl rfl ?c1 ?c2 ?c3 ?c4 ?c5 ?_)
    case c1=>exact xN _ _ _
    case c2=>exact xw _
    case c3=>unfold maxLen;omega
    case c4=>omega
    case c5=>simp;omega
    intro v7 w7 R J _ a4;have ab:Hid (w7.ownsRow W1.heap.size 3 1 v7 (am (i+1)).length (zm ((am (i+1)).map fun (k:Nat)=>(k:Int)))):=by
     show World.ownsRow _ _ _ _ _ _ _;rw[HA.out,List.map_append,List.map_cons,List.map_nil,Z1,List.length_append];exact R
    have ae:Hid (zB W1 w7):=(zL Z.out).grown J (by simp;omega) (fun k hk=>(u.out.lt k hk).1);have ai:Hid (zB w w7):=zT a9.out ae.out;clear R J a4 u V Z;go_wp2;go_roundw
    case rel=>exact⟨i+1,by omega,hlt,by go_num,ab.out,ai.out,ae.out⟩
    case measure=>simp[intOf];omega
   ·have HQ:Hid (∀W,zB w W->zR 85 #[.agg #[.slice va rng.length vc],.agg #[x.a,x.b,x.c]] W (.bool false)):=fun W hW=>(a6.out W hW).mono fun e w' ⟨h,hb⟩=>⟨by rcases h with h|h;exact absurd h.2 hh;exact h.1,hb⟩;have HA:Hid (am (i+1)=am i):=by show _=_;rw[M.out,zA1 hh,List.append_nil]
    clear a6 M hh;go_region_held3 (fun W=>W.cell? w.heap.size=some (.slice va rng.length vc)/\W.cell? ⟨bk,1,none⟩=some (.slice (some g) its.length ic)/\W.cell? ⟨g,i*4+1,none⟩=some (.int .i64 x.a)/\W.cell? ⟨g,i*4+2,none⟩=some (.int .i64 x.b)/\W.cell? ⟨g,i*4+3,none⟩=some (.int .i64 x.c)) (first|exact SC.out _ D0|exact SC.out _ D1)
     (((with_reducible refine(HQ.out _ E0).mono ?_);rintro e x1 ⟨rfl,C⟩;have D1:zB wr x1:=zT D0 C;clear HQ D0 E0 C))
    have ab:Hid (x1.ownsRow W1.heap.size 3 1 (.slice oa (am i).length oc) (am (i+1)).length (zm ((am (i+1)).map fun (k:Nat)=>(k:Int)))):=by
     show World.ownsRow _ _ _ _ _ _ _;rw[HA.out];exact zI q.out D1
    have V:Hid (zB w x1):=zT X.out D1;have Z:Hid (zB W1 x1):=zT a5.out D1;clear D1 SC q X a5;go_wp2;go_roundw
    case rel=>exact⟨i+1,by omega,hlt,by go_num,ab.out,V.out,Z.out⟩
    case measure=>simp[intOf];omega
  ·obtain rfl:i=hi:=by omega
   rw[aa.out] at j;have q:=zH j;have X:=zH a2;clear j a2 Y;go_wp2;go_ret;rw[aa.out];exact⟨_,rfl,ownsRow_base q.out a9.out.size,X.out⟩
end
section
open Go.RowKit Go.Deep Sv
def ClN(K:List (List Int))(cs:List Value)(b:Option Nat):Prop:=∀i,i<K.length->0<(K.getD i []).length->∀g,(cs.getD i undef).ownBlock=some g->some g≠b
theorem ClN.nil(b:Option Nat):ClN [] [] b:=fun i h=>by simp at h
theorem ClN.new{W:World}{cs:List Value}{K:List (List Int)}(h:qW 0 W cs K){b:Nat}(hb:W.heap.size<=b):ClN K cs (some b):=fun i hi hl g hg e=>by
 obtain⟨a,j,h1,_,_,h4⟩:=h.2 i hi;obtain⟨ad,h5,h6,_⟩:=h4 0 hl;rw[List.getD_eq_getElem?_getD,h1,h5] at hg;simp[Value.ownBlock] at hg;cases e;omega
theorem ClN.snoc{K:List (List Int)}{cs:List Value}{b:Option Nat}(h:ClN K cs b)(hv:cs.length=K.length){c:List Int}{v:Value}(hx:0<c.length->∀g,v.ownBlock=some g->some g≠b):ClN (K++[c]) (cs++[v]) b:=by
 intro i hi
 by_cases hl:i<K.length
 ·have e1:(K++[c]).getD i []=K.getD i []:=by simp[List.getD_eq_getElem?_getD,List.getElem?_append_left hl]
  have e2:(cs++[v]).getD i undef=cs.getD i undef:=by simp[List.getD_eq_getElem?_getD,List.getElem?_append_left (show i<cs.length by rw[hv];exact hl)]
  rw[e1,e2];exact h i hl
 ·obtain rfl:i=K.length:=by simp at hi;omega
  have e1:(K++[c]).getD K.length []=c:=by simp[List.getD_eq_getElem?_getD]
  have e2:(cs++[v]).getD K.length undef=v:=by simp[List.getD_eq_getElem?_getD,<-hv]
  rw[e1,e2];exact hx
theorem qU.heapOf{W W':World}{a:Option Addr}{c:List Int}(h:qU 0 W a c)(hs:W.heap.size<=W'.heap.size)(hb:∀ad,a=some ad->ad.block<W.heap.size->W'.heap[ad.block]?=W.heap[ad.block]?):qU 0 W' a c:=fun i hi=>by
 obtain⟨ad,h1,h2,h3,h4⟩:=h i hi;have e:=hb ad h1 h2;refine⟨ad,h1,Nat.lt_of_lt_of_le h2 hs,by rw[e];exact h3,?_⟩;rw[World.cell?_of_block (w:=W) (by rw[Zt];exact e)];exact h4
theorem qW.grownN{W W':World}{cs:List Value}{K:List (List Int)}{row:Option Nat}(h:qW 0 W cs K)(hg:W.grownBy W' row)(hn:ClN K cs row):qW 0 W' cs K:=⟨h.1,fun i hi=>by
 obtain⟨a,o,h1,h2,h3,h4⟩:=h.2 i hi;refine⟨a,o,h1,h2,h3,?_⟩
 by_cases hl:0<(K.getD i []).length
 ·refine h4.heapOf hg.size (fun ad e p=>hg.block _ p (hn i hi hl _ ?_));rw[List.getD_eq_getElem?_getD,h1,e];rfl
 ·exact fun j hj=>by omega⟩
def PlA(a:Option Addr):Prop:=∀ad,a=some ad->ad.spot=none
def PlC(cs:List Value):Prop:=∀u∈cs,∀a n c,u=.slice a n c->PlA a
theorem PlC.snoc{cs:List Value}(h:PlC cs){a:Option Addr}(ha:PlA a)(n c:Nat):PlC (cs++[.slice a n c]):=by
 intro u hu;rcases List.mem_append.1 hu with hu|hu
 ·exact h u hu
 ·rw[List.mem_singleton] at hu;subst hu;intro a' n' c' e;cases e;exact ha
structure RS(B:Nat)(W:World)(cv fv:Value)(K:List (List Int))(F:List Int):Prop where
 crow:∃cs,W.ownsRow B 107 1 cv K.length cs/\qW 0 W cs K/\ClN K cs fv.ownBlock/\PlC cs
 frow:W.ownsRow B 3 1 fv F.length (zm F)
theorem RS.nil(B:Nat)(W:World):RS B W (.slice none 0 0) (.slice none 0 0) [] []:=⟨⟨[],World.ownsRow_nil _ _ _ _,qW.nil,ClN.nil _,fun u hu=>by cases hu⟩,World.ownsRow_nil _ _ _ _⟩
theorem RS.new{B:Nat}{W W':World}{cv fv:Value}{K:List (List Int)}{F:List Int}(h:RS B W cv fv K F)(hb:zB W W'):RS B W' cv fv K F:=by
 obtain⟨cs,h1,h2,h3⟩:=h.crow;exact⟨⟨cs,zI h1 hb,h2.kp (Kp.new hb),h3⟩,zI h.frow hb⟩
structure Fr(b5:Nat)(cv fv:Value)(W W':World):Prop where
 size:W.heap.size<=W'.heap.size
 block:∀k,k<W.heap.size->k≠b5->some k≠cv.ownBlock->some k≠fv.ownBlock->W'.heap[k]?=W.heap[k]?
 B:Below b5 W W'
def Loc(W:World)(v v':Value):Prop:=v'.ownBlock=v.ownBlock\/∃g,v'.ownBlock=some g/\W.heap.size<=g
theorem RS.appC{b5:Nat}{n:Int}{W w7:World}{cv cv' fv:Value}{K:List (List Int)}{F:List Int}{c:List Int}{a:Option Addr}{cap:Nat}{cs:List Value}
  (h5:Blk W b5 60 #[n,cv,fv]) (hfr:W.ownsRow (b5+1) 3 1 fv F.length (zm F)) (hrow:W.ownsRow (b5+1) 107 1 cv K.length cs) (hck:qW 0 W cs K) (hcn:ClN K cs fv.ownBlock) (hpl:PlC cs) (hpa:PlA a)
  (hc1:c.length<=cap) (hc2:cap<=9223372036854775807) (hi:qU 0 W a c) (hN:0<c.length->∀g,(Value.slice a c.length cap).ownBlock=some g->some g≠fv.ownBlock)
  (hown:w7.ownsRow (b5+1) 107 1 cv' (K.length+1) (cs++[.slice a c.length cap])) (hg:(W.alloc (.cells #[.slice a c.length cap] 107)).grownBy w7 cv.ownBlock) :
  Blk w7 b5 60 #[n,cv,fv]/\Blk (w7.setCell ⟨b5,1,none⟩ cv') b5 60 #[n,cv',fv]/\RS (b5+1) (w7.setCell ⟨b5,1,none⟩ cv') cv' fv (K++[c]) F/\(∀k,k<W.heap.size->k≠b5->some k≠cv.ownBlock->(w7.setCell ⟨b5,1,none⟩ cv').heap[k]?=W.heap[k]?)/\Below b5 W (w7.setCell ⟨b5,1,none⟩ cv'):=by
 have j:=below_new W (.cells #[.slice a c.length cap] 107);have h5':=h5.below j h5.lt;have hl:=h5.lt;have y:some b5≠cv.ownBlock:=fun e=>by have:=(hrow.lt b5 e.symm).1;omega
 have q5:=h5'.kept hg y;have hk:Kp 0 (W.alloc (.cells #[.slice a c.length cap] 107)) w7:=Kp.grown (ownsRow_base (zI hrow j) (Nat.zero_le _)) hg (by decide);have u:Kp 0 w7 (w7.setCell ⟨b5,1,none⟩ cv'):=Kp.set (Nat.zero_le _) q5 (by decide);have o:=(Kp.new (B:=0) j).trans (hk.trans u);have q:=xZ (zI hfr j) hg (ZP (zI hfr j) (zI hrow j) (by decide));refine⟨q5,q5.set (i:=1),⟨⟨_,by simpa using Zs hown (Nat.lt_succ_self _),(hck.kp o).snoc hc1 hc2 (hi.kp o),hcn.snoc hck.1 hN,hpl.snoc hpa _ _⟩,Zs q (Nat.lt_succ_self _)⟩,fun k h1 h2 h3=>?_,?_⟩
 ·refine(Below.heap_setCell _ _ _ k (fun e=>h2 e)).trans ((hg.block k (by simp;omega) h3).trans (j.block k h1))
 ·exact((j.mono (Nat.le_of_lt hl)).grown hg (by simp;omega) (fun k hk=>by have:=(hrow.lt k hk).1;omega)).setCell (p:=⟨b5,1,none⟩) zN _
theorem RS.appF{b5:Nat}{n:Int}{W w7:World}{cv fv fv':Value}{K:List (List Int)}{F:List Int}{x:Int}
  (h5:Blk W b5 60 #[n,cv,fv]) (hr:RS (b5+1) W cv fv K F)
  (hown:w7.ownsRow (b5+1) 3 1 fv' (F.length+1) (zm F++[.int .i64 x])) (hg:(W.alloc (.cells #[x] 3)).grownBy w7 fv.ownBlock) (hloc:fv'.ownBlock=fv.ownBlock\/fv'.ownBlock=some (W.heap.size+1)) :
  Blk w7 b5 60 #[n,cv,fv]/\Blk (w7.setCell ⟨b5,2,none⟩ fv') b5 60 #[n,cv,fv']/\RS (b5+1) (w7.setCell ⟨b5,2,none⟩ fv') cv fv' K (F++[x])/\(∀k,k<W.heap.size->k≠b5->some k≠fv.ownBlock->(w7.setCell ⟨b5,2,none⟩ fv').heap[k]?=W.heap[k]?)/\Below b5 W (w7.setCell ⟨b5,2,none⟩ fv'):=by
 have j:=below_new W (.cells #[x] 3);obtain⟨cs,o,u,y,U⟩:=(hr.new j).crow;have C:=hr.frow;have q:=(hr.new j).frow;have h5':=h5.below j h5.lt;have hl:=h5.lt;have R:some b5≠fv.ownBlock:=fun e=>by have:=(C.lt b5 e.symm).1;omega
 have q5:=h5'.kept hg R;have M:Kp 0 w7 (w7.setCell ⟨b5,2,none⟩ fv'):=Kp.set (Nat.zero_le _) q5 (by decide);have J:=xZ o hg (ZP o q (by decide));refine⟨q5,q5.set (i:=2),⟨⟨cs,Zs J (Nat.lt_succ_self _),(u.grownN hg y).kp M,?_,U⟩,by rw[List.length_append,Z1];exact Zs hown (Nat.lt_succ_self _)⟩,fun k h1 h2 h3=>?_,?_⟩
 ·rcases hloc with e|e
  ·rw[e];exact y
  ·rw[e];exact ClN.new u (by simp)
 ·refine(Below.heap_setCell _ _ _ k (fun e=>h2 e)).trans ((hg.block k (by simp;omega) h3).trans (j.block k h1))
 ·exact((j.mono (Nat.le_of_lt hl)).grown hg (by simp;omega) (fun k hk=>by have:=(C.lt k hk).1;omega)).setCell (p:=⟨b5,2,none⟩) zN _
theorem Xi(w:World)(u:Value)(t:TypeId):∀(j:Nat) (x:Value),[u][j]?=some x->(w.alloc (.cells #[u] t)).cell? ((w.heap.size:Addr).add j)=some x:=by
 intro j x hu;cases j with
 |zero=>simp at hu;subst hu;simp[Addr.add]
 |succ j=>simp at hu
theorem X8(k:Int)(h0:-10000<=k)(h1:k<=10000)(w:World):zC 47 #[k] w fun e w'=>e=.returned (.int .i64 (zE k))/\w'=w:=by
 have e1:IntKind.i64.wrap (k+1)=k+1:=by rw[IntKind.wrap_i64];omega
 have e2:IntKind.i64.wrap (-(k+1))=-(k+1):=by rw[IntKind.wrap_i64];omega
 go_enter Tryz.func47,Tryz.ntmps47;go_wp2;go_ret;exact⟨rfl,rfl⟩
theorem znz(b5:Nat)(n:Int)(W:World)(cv fv:Value)(K:List (List Int))(F:List Int)(from_:Int)(a:Option Addr)(c:List Int)(cap:Nat)(h5:Blk W b5 60 #[n,cv,fv])(hr:RS (b5+1) W cv fv K F)
  (hc1:c.length<=cap) (hc2:cap<=9223372036854775807) (hi:qU 0 W a c) (hN:0<c.length->∀g,(Value.slice a c.length cap).ownBlock=some g->some g≠fv.ownBlock) (hpa:PlA a) (hK:K.length<=100000) (hF:F.length<=100000) :
  zC 46 #[from_,.slice a c.length cap,.pointer (some b5)] W fun e w'=>e=.returned (.tuple #[])/\∃X Y,Blk w' b5 60 #[n,X,Y]/\RS (b5+1) w' X Y (K++[c]) (F++[from_])/\Fr b5 cv fv W w'/\Loc W cv X/\Loc W fv Y:=by
 obtain⟨cs,R,ae,af,ai⟩:=hr.crow;have aq:=zH ai;have ap:=zH hpa;have a9:=hr.frow;obtain⟨ca,cc,rfl,-⟩:=(zD R).form;obtain⟨fa,fc,rfl,-⟩:=(zD a9).form;have c1:_=some (Value.slice ca K.length cc):=h5.cell 1;have aA:=h5.lt;have H5:=zH h5;have J:=zH R;have U:=zH a9;have ab:=zH ae;have ac:=zH af;have HI:=zH hi;have HN:=zH hN;obtain⟨ic,au,a6,a7,a8⟩:=info_parts zjM;obtain⟨i0,av,ax,ay,az⟩:=info_parts Z0;clear R ae af a9 h5 hi hN hr ai hpa;go_enter Tryz.func46,Tryz.ntmps46;go_wp2_with (at_builtin;refine wpList_append_own_at _ rfl _ _ 28 rfl (b5+1) 107 ic (.slice none 0 0) 1 24 Tryz.underlying28 au a6 a7 a8 rfl (by decide) _ _ _ rfl (J.out.alloc _) W.heap.size 1 1 [.slice a c.length cap] rfl rfl ?c1 ?c2 ?c3 ?c4 ?c5 ?_)
 case c1=>exact Xi _ _ _
 case c2=>intro u hu;rw[List.mem_singleton] at hu;subst hu;rfl
 case c3=>unfold maxLen;omega
 case c4=>omega
 case c5=>simp;omega
 intro v7 w7 q j _ C;obtain⟨q5,q6,aj,ag,Z⟩:=RS.appC H5.out U.out J.out ab.out ac.out aq.out ap.out hc1 hc2 HI.out HN.out q j;have an:Hid (Loc W (.slice ca K.length cc) v7):=by
  rcases C with e|e
  ·exact .inl e
  ·exact .inr ⟨_,e,by omega⟩
 have e1:_=some (Value.slice ca K.length cc):=q5.cell 1;have f1:=q5.frozen 1;have H6:=zH q6;have V:=zH aj;have ad:=zH ag;have aa:=zH Z;have aw:=Z.size;obtain⟨g7,M,rfl⟩:=ownsRow_succ q;clear q j C q5 q6 aj ag Z J U ab ac HI HN H5 c1;go_upto_region 1 with fail;generalize w7.setCell ⟨b5,1,none⟩ (.slice (some g7) (K.length+1) M)=W6 at *;clear e1 f1;have c2:_=some (Value.slice fa F.length fc):=H6.out.cell 2;have U:=zH V.out.frow;have aB:=H6.out.lt;go_wp2_with (at_builtin;refine wpList_append_own_at _ rfl _ _ 23 rfl (b5+1) 3 i0 (.int .i64 0) 1 8 Tryz.underlying23 av ax ay az rfl (by decide) _ _ _ rfl (U.out.alloc _) W6.heap.size 1 1 [.int .i64 from_] rfl rfl ?a1 ?a2 ?a3 ?a4 ?a5 ?_)
 case a1=>exact xN _ _ _
 case a2=>exact xw _
 case a3=>unfold maxLen;omega
 case a4=>omega
 case a5=>simp;omega
 intro v8 w8 y o _ p;obtain⟨q5,q6,ak,ah,a0⟩:=RS.appF H6.out V.out y o p;have e2:_=some (Value.slice fa F.length fc):=q5.cell 2;have f2:=q5.frozen 2;have ao:Hid (Loc W (.slice fa F.length fc) v8):=by
  rcases p with e|e
  ·exact .inl e
  ·exact .inr ⟨_,e,by omega⟩
 have am:Hid (Fr b5 (.slice ca K.length cc) (.slice fa F.length fc) W (w8.setCell ⟨b5,2,none⟩ v8)):=⟨Nat.le_trans aw a0.size,fun k h1 h2 h3 h4=>(ah k (by omega) h2 h4).trans (ad.out k h1 h2 h3),aa.out.trans a0⟩;have HX:Hid (Blk (w8.setCell ⟨b5,2,none⟩ v8) b5 60 #[n,.slice (some g7) (K.length+1) M,v8]/\RS (b5+1) (w8.setCell ⟨b5,2,none⟩ v8) (.slice (some g7) (K.length+1) M) v8 (K++[c]) (F++[from_])):=⟨q6,ak⟩;obtain⟨g8,ar,rfl⟩:=ownsRow_succ y;clear y o p q5 q6 ak ah a0 V ad aa U H6 c2;go_wp2;refine bodyPost_end (v:=.tuple #[]) (by simp[results,Tryz.results46,go_sem]) rfl ?_;exact⟨rfl,_,_,HX.out.1,HX.out.2,am.out,an.out,ao.out⟩
end
end Go.Proofs.YthifnefkdjkicaaGreatDoor
