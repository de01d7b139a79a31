import Derived.Test.YtoffdbflfikcoaaGreatDoorah
import Derived.Deep.CutBlock
open Go.Proofs.Tryz Go.RowKit
set_option maxHeartbeats 4000000
set_option maxRecDepth 100000
namespace Go.Proofs.YtoffdbflfikcoaaGreatDoor
section
open Go.Deep Go.Maps Sv
structure GS(w W:World)(bm:Nat)(itV:Value)(its nms:List It):Prop where
 row:W.ownsRow w 125 4 itV its.length (zl its)
 nm:xg W bm nms
 bmB:w.heap.size<=bm
 B:zB w W
theorem GS.step{w W W':World}{bm:Nat}{itV:Value}{its nms:List It}(h:GS w W bm itV its nms)(hb:zB W W'):GS w W' bm itV its nms :=
 ⟨zA h.row hb,h.nm.below hb zN,h.bmB,zT h.B hb⟩
theorem zfP{W:World}{B t k n bm:Nat}{v:Value}{cs:List Value}{l:List It}(h:W.ownsRow B t k v n cs)(hn:xg W bm l):v.ownBlock≠some bm:=by
 obtain⟨D,⟨es,j,h1,_⟩,_⟩:=hn;rcases h.2 with ⟨rfl,_⟩|⟨g,o,p,rfl,_,hg,_⟩
 ·simp[Value.ownBlock]
 ·intro e;simp only[Value.ownBlock,zsd] at e;subst e;rw[h1] at hg;cases hg
theorem zq7{W W':World}{B t k n bm:Nat}{v:Value}{cs:List Value}(h:W.ownsRow B t k v n cs)(hg:W.grownBy W' (some bm))(hne:v.ownBlock≠some bm):W'.ownsRow B t k v n cs:=by
 obtain⟨h1,h2⟩:=h;refine⟨h1,?_⟩;rcases h2 with h2|⟨g,j,o,rfl,hB,hh,r⟩
 ·exact Or.inl h2
 ·exact Or.inr ⟨g,j,o,rfl,hB,(hg.block g (zrg.1 hh).1 (fun e=>hne e)).trans hh,r⟩
theorem GS.put{w W:World}{bm:Nat}{itV:Value}{its nms:List It}(h:GS w W bm itV its nms)(hl:nms.length<1000000){x:It}(hs:x.name.size<=100000) :
  ∃W',(Instr.mapUpdate 243 (.map (some bm)) (.string x.name) (.agg #[])).run prog W=.ok () W'/\GS w W' bm itV its (nms++[x])/\(∀b t cs,Blk W b t cs->Blk W' b t cs):=by
 obtain⟨W',j,h1,h2⟩:=h.nm.put hl hs;refine⟨W',j,⟨zq7 h.row h2 (zfP h.row h.nm),h1,h.bmB,h.B.grown h2 h.B.size (fun k hk=>by cases hk;exact h.bmB)⟩,fun b t cs hb=>?_⟩;refine hb.kept h2 (fun e=>?_);obtain⟨D,⟨es,o,h3,_⟩,_⟩:=h.nm;cases e;rw[show W.heap[bm]?=_ from hb] at h3;cases h3
theorem GS.app{w W W':World}{bm:Nat}{itV v':Value}{its nms:List It}{x:It}(h:GS w W bm itV its nms)(hown:W'.ownsRow w 125 4 v' (its.length+1) (zl its++zQ x))(hg:W.grownBy W' itV.ownBlock):GS w W' bm v' (its++[x]) nms:=by
 refine⟨?_,h.nm.block (hg.block bm h.nm.lt (fun e=>zfP h.row h.nm e.symm)),h.bmB,h.B.grown hg h.B.size (fun k hk=>(h.row.lt k hk).1)⟩;rw[JM,zf4];simpa[zl] using hown
theorem JA(w:World)(A B C D:Value)(t:TypeId):∀(j:Nat) (u:Value),[A,B,C,D][j]?=some u->(w.alloc (.cells #[A,B,C,D] t)).cell? (Addr.add w.heap.size j)=some u:=by
 intro j u h
 match j,h with
 |0,h=>simp at h;subst h;simp[Addr.add]
 |1,h=>simp at h;subst h;simp[Addr.add]
 |2,h=>simp at h;subst h;simp[Addr.add]
 |3,h=>simp at h;subst h;simp[Addr.add]
 |j+4,h=>simp at h
def zm7(w:World)(r:Except (Int × Nat) (List It))(e:Ending)(w':World):Prop :=
 match r with
 |.ok its=>∃v,e=.returned (.tuple #[v,.nilIface])/\w'.ownsRow w 125 4 v its.length (zl its)/\zB w w'
 |.error (k,i)=>∃N,e=.returned (.tuple #[.slice none 0 0,.iface 110 (.pointer (some ⟨N,0,none⟩))])/\Blk w' N 112 #[k,i]/\zB w w'
theorem zdS{ls:List Ln}{i:Nat}(hi:i<ls.length)(its:List It):qh (ls.drop i) i its=(if qQ (ls.getD i default) ≠ 0 then .error (qQ (ls.getD i default),i)
  else if (ls.getD i default).kind=1 then
   if (ls.getD i default).it∈its then .error (9,i)
   else if 8<yi (its++[(ls.getD i default).it])\/its.length=24 then .error (4,i)
   else qh (ls.drop (i+1)) (i+1) (its++[(ls.getD i default).it])
  else qh (ls.drop (i + 1)) (i + 1) its):=by
 rw[zc9 (d:=default) hi,qh]
theorem zbK{x:Ln}(h:qQ x=0):x.name.size<=12:=by
 unfold qQ at h;split at h
 ·cases h
 ·split at h
  ·cases h
  ·rename_i h2
   by_cases hn:zr x.name
   ·exact hn.len
   ·exact absurd (Or.inl hn) h2
end
section
open Go.Deep Go.Maps Sv
theorem zfH(ls:List Ln)(lv:Value)(w:World)(h:Z3 w lv ls)(hl:ls.length<=100000) :
  zC 85 #[lv] w (zm7 w (qh ls 0 [])):=by
 obtain⟨R,hR⟩:∃R,qh ls 0 []=R:=⟨_,rfl⟩;rw[hR];have HR:=zH hR;have HL:=zH h;clear hR;obtain⟨la,lc,rfl,-⟩:∃la lc,lv=.slice la ls.length lc/\True:=by obtain⟨vs,_,h2⟩:=h;obtain⟨a,c,e,_⟩:=h2.form;exact⟨a,c,e,trivial⟩
 clear h;have az:GS w (w.alloc (.map #[] 0)) w.heap.size (.slice none 0 0) [] []:=⟨zrp _ _ _ _,xg.made w,zri _,(zf0 _ w).alloc zN _⟩;have au:=zH az;clear az;obtain⟨i0,ae,ag,ah,ad⟩:=info_parts zdI;have aD:=@run_makeMap prog;go_enter func85,ntmps85;go_wp2_with fail;clear aD;go_loopw [4,13] (fun itV iV wr=>∃(i:Nat) (its:List It),i<=ls.length/\iV=.int .i64 i/\its.length<=i/\qh (ls.drop i) i its=R/\GS w wr w.heap.size itV its its) (fun _ iV _=>ls.length-(intOf iV).toNat)
 case atStart=>exact⟨0,[],zf6 _,rfl,zri _,by rw[ztn];exact HR.out,au.out⟩
 case round =>
  obtain⟨i,its,hi,rfl,aF,a9,a5⟩:=hrel;clear HR au;obtain⟨ai,aj,rfl,-⟩:=(zx a5.row).form
  by_cases hlt:i<ls.length
  ·obtain⟨g,aC,rv,e,hg,aq,aE,c0,c1,c2,c3,c4,c5,c6⟩:=(HL.out.below a5.B zN).at i hlt;simp at e;obtain⟨rfl,rfl⟩:=e;rw[zdS hlt] at a9;have C:=zH a9;clear a9 aE;generalize ls.getD i default=x at *;have ay:=zH aq;obtain⟨Z,a0,rfl⟩:=aq.form;clear aq;have kx:=Blk.new wr 107 #[x.kind,x.name,x.a,x.b,x.c,x.other,.slice Z x.rng.length a0];have ao:zB wr (wr.alloc (.cells #[x.kind,x.name,x.a,x.b,x.c,x.other,.slice Z x.rng.length a0] 107)):=zF.alloc zN _;have av:Hid (GS w (wr.alloc (.cells #[x.kind,x.name,x.a,x.b,x.c,x.other,.slice Z x.rng.length a0] 107)) w.heap.size (.slice ai its.length aj) its its):=a5.step ao;have a6:=zH (zke x (.slice Z x.rng.length a0) (wr.alloc (.cells #[x.kind,x.name,x.a,x.b,x.c,x.other,.slice Z x.rng.length a0] 107)) (ay.out.below ao zN));have ak:Hid (qQ x=0->x.name.size<=12):=zbK;clear a5 ao ay;go_upto_region 6 with fail;clear c0 c1 c2 c3 c4 c5 c6;generalize wr.alloc (.cells #[x.kind,x.name,x.a,x.b,x.c,x.other,.slice Z x.rng.length a0] 107)=W1 at *;generalize wr.heap.size=bx at *;have d0:_=some (Value.int .i64 x.kind):=kx.cell 0;have d1:_=some (Value.string x.name):=kx.cell 1;have d2:_=some (Value.int .i64 x.a):=kx.cell 2;have d3:_=some (Value.int .i64 x.b):=kx.cell 3;have d4:_=some (Value.int .i64 x.c):=kx.cell 4;have d5:_=some (Value.string x.other):=kx.cell 5;have d6:_=some (Value.slice Z x.rng.length a0):=kx.cell 6;go_wp2_with fail;clear d0 d1 d2 d3 d4 d5 d6;refine a6.out.mono ?_;rintro e w2 ⟨rfl,am⟩;have U:=kx.below am kx.lt;have a7:=zH (av.out.step am);clear a6 am kx av
   by_cases hz:qQ x=0
   ·have aH:=ak.out hz;rw[hz] at C ⊢;rw[zc2 (by simp)] at C;clear hz ak
    by_cases hk:x.kind=1
    ·rw[zc3 hk] at C;have d0:_=some (Value.int .i64 x.kind):=U.cell 0;have d1:_=some (Value.string x.name):=U.cell 1;have d2:_=some (Value.int .i64 x.a):=U.cell 2;have d3:_=some (Value.int .i64 x.b):=U.cell 3;have d4:_=some (Value.int .i64 x.c):=U.cell 4;have d5:_=some (Value.string x.other):=U.cell 5;have d6:_=some (Value.slice Z x.rng.length a0):=U.cell 6;rw[hk] at d0;have ki:=Blk.new w2 125 #[x.name,x.a,x.b,x.c];have an:zB w2 (w2.alloc (.cells #[x.name,x.a,x.b,x.c] 125)):=zF.alloc zN _;have aw:=zH (a7.out.step an);have ar:=U.below an U.lt;clear an a7 U;go_upto_region 9 with fail;clear d0 d1 d2 d3 d4 d5 d6;generalize w2.alloc (.cells #[x.name,x.a,x.b,x.c] 125)=W3 at *;generalize w2.heap.size=bi at *;obtain⟨w4,ac,ab,X⟩:=aw.out.put (by omega) (x:=x.it) (show x.name.size<=100000 by omega);have hrun':(Instr.mapUpdate 243 (.map (some w)) (.string x.name) (.agg #[])).run prog W3=.ok () w4:=ac;have M:=X _ _ _ ki;have aB:=X _ _ _ ar;have a8:=zH ab;clear ac ab X aw;have d1:_=some (Value.string x.name):=ar.cell 1;go_upto_region 10 with fail;clear d1 hrun' ki ar;have af:=zmT its x.it (.slice ai its.length aj) w4 (zx a8.out.row) (by omega)
     by_cases hm:x.it∈its
     ·rw[zc3 hm] at C;have V:Hid (zR 137 #[.slice ai its.length aj,.agg #[x.name,x.a,x.b,x.c]] w4 (.bool true)):=by have h:=af;rw[zq9 hm] at h;exact h
      clear hm af;have e0:_=some (Value.string x.name):=M.cell 0;have e1:_=some (Value.int .i64 x.a):=M.cell 1;have e2:_=some (Value.int .i64 x.b):=M.cell 2;have e3:_=some (Value.int .i64 x.c):=M.cell 3;go_wp2_with fail;clear e0 e1 e2 e3;refine V.out.mono ?_;rintro e w5 ⟨rfl,a3⟩;have J:=M.below a3 M.lt;have K:=zH (a8.out.step a3);clear V a3 M a8 aB;have f0:_=some (Value.string x.name):=J.cell 0;have f1:_=some (Value.int .i64 x.a):=J.cell 1;have f2:_=some (Value.int .i64 x.b):=J.cell 2;have f3:_=some (Value.int .i64 x.c):=J.cell 3;have q:=zH K.out.row;have p:=zH (K.out.step ((zf0 _ w5).alloc zN (.cells #[x.name,x.a,x.b,x.c] 125)));have a4:=K.out.B.size;go_wp2_with (at_builtin;refine wpList_append_own_at _ rfl _ _ 121 rfl w.heap.size 125 i0 (.agg #[.string ⟨#[]⟩,(0:Int),(0:Int),(0:Int)]) 4 40 zsQ ae ag ah ad rfl (by decide) _ _ _ rfl (q.out.alloc _) w5.heap.size 1 1 [.string x.name,.int .i64 x.a,.int .i64 x.b,.int .i64 x.c] rfl rfl ?c1a ?c2a ?c3a ?c4a ?c5a ?_)
      case c1a=>exact JA _ _ _ _ _ _
      case c2a=>intro u hu;simp at hu;rcases hu with rfl|rfl|rfl|rfl<;>rfl
      case c3a=>unfold maxLen;omega
      case c4a=>omega
      case c5a=>simp;omega
      intro v7 w7 o j _ y;have Y:Hid (GS w w7 w.heap.size v7 (its++[x.it]) (its++[x.it])):=p.out.app o j;clear o j y p q f0 f1 f2 f3 a4;have a1:Hid (zB w (w7.alloc (.cells #[(9:Int),i] 112))):=zL Y.out.B;have a2:Hid (Blk (w7.alloc (.cells #[(9:Int),i] 112)) w7.heap.size 112 #[(9:Int),i]):=Blk.new _ _ _;clear Y;go_wp2;go_ret2;rw[<-C.out];exact⟨_,rfl,a2.out,a1.out⟩
     ·rw[zc2 hm] at C;have V:Hid (zR 137 #[.slice ai its.length aj,.agg #[x.name,x.a,x.b,x.c]] w4 (.bool false)):=by have h:=af;rw[zf5 hm] at h;exact h
      clear hm af;have e0:_=some (Value.string x.name):=M.cell 0;have e1:_=some (Value.int .i64 x.a):=M.cell 1;have e2:_=some (Value.int .i64 x.b):=M.cell 2;have e3:_=some (Value.int .i64 x.c):=M.cell 3;go_wp2_with fail;clear e0 e1 e2 e3;refine V.out.mono ?_;rintro e w5 ⟨rfl,a3⟩;have J:=M.below a3 M.lt;have K:=zH (a8.out.step a3);clear V a3 M a8 aB;have aA:=fun ty=>K.out.nm.len ty;generalize hN:yi (its++[x.it])=N at *;clear hN
      by_cases h8:8<N
      ·rw[zc3 (Or.inl h8)] at C;have h8':(8:Int)<(N:Int):=by omega
       have f0:_=some (Value.string x.name):=J.cell 0;have f1:_=some (Value.int .i64 x.a):=J.cell 1;have f2:_=some (Value.int .i64 x.b):=J.cell 2;have f3:_=some (Value.int .i64 x.c):=J.cell 3;have q:=zH K.out.row;have p:=zH (K.out.step ((zf0 _ w5).alloc zN (.cells #[x.name,x.a,x.b,x.c] 125)));have a4:=K.out.B.size;go_wp2_with (at_builtin;refine wpList_append_own_at _ rfl _ _ 121 rfl w.heap.size 125 i0 (.agg #[.string ⟨#[]⟩,(0:Int),(0:Int),(0:Int)]) 4 40 zsQ ae ag ah ad rfl (by decide) _ _ _ rfl (q.out.alloc _) w5.heap.size 1 1 [.string x.name,.int .i64 x.a,.int .i64 x.b,.int .i64 x.c] rfl rfl ?c1b ?c2b ?c3b ?c4b ?c5b ?_)
       case c1b=>exact JA _ _ _ _ _ _
       case c2b=>intro u hu;simp at hu;rcases hu with rfl|rfl|rfl|rfl<;>rfl
       case c3b=>unfold maxLen;omega
       case c4b=>omega
       case c5b=>simp;omega
       intro v7 w7 o j _ y;have Y:Hid (GS w w7 w.heap.size v7 (its++[x.it]) (its++[x.it])):=p.out.app o j;clear o j y p q f0 f1 f2 f3 a4;have a1:Hid (zB w (w7.alloc (.cells #[(4:Int),i] 112))):=zL Y.out.B;have a2:Hid (Blk (w7.alloc (.cells #[(4:Int),i] 112)) w7.heap.size 112 #[(4:Int),i]):=Blk.new _ _ _;clear Y;go_wp2;go_ret2;rw[<-C.out];exact⟨_,rfl,a2.out,a1.out⟩
      ·have h8':¬(8:Int)<(N:Int):=by omega
       by_cases h24:its.length=24
       ·rw[zc3 (Or.inr h24)] at C;have hq:((its.length:Int)==24)=true:=by rw[h24];rfl
        clear h24;have f0:_=some (Value.string x.name):=J.cell 0;have f1:_=some (Value.int .i64 x.a):=J.cell 1;have f2:_=some (Value.int .i64 x.b):=J.cell 2;have f3:_=some (Value.int .i64 x.c):=J.cell 3;have q:=zH K.out.row;have p:=zH (K.out.step ((zf0 _ w5).alloc zN (.cells #[x.name,x.a,x.b,x.c] 125)));have a4:=K.out.B.size;go_wp2_with (at_builtin;refine wpList_append_own_at _ rfl _ _ 121 rfl w.heap.size 125 i0 (.agg #[.string ⟨#[]⟩,(0:Int),(0:Int),(0:Int)]) 4 40 zsQ ae ag ah ad rfl (by decide) _ _ _ rfl (q.out.alloc _) w5.heap.size 1 1 [.string x.name,.int .i64 x.a,.int .i64 x.b,.int .i64 x.c] rfl rfl ?c1c ?c2c ?c3c ?c4c ?c5c ?_)
        case c1c=>exact JA _ _ _ _ _ _
        case c2c=>intro u hu;simp at hu;rcases hu with rfl|rfl|rfl|rfl<;>rfl
        case c3c=>unfold maxLen;omega
        case c4c=>omega
        case c5c=>simp;omega
        intro v7 w7 o j _ y;have Y:Hid (GS w w7 w.heap.size v7 (its++[x.it]) (its++[x.it])):=p.out.app o j;clear o j y p q f0 f1 f2 f3 a4;have a1:Hid (zB w (w7.alloc (.cells #[(4:Int),i] 112))):=zL Y.out.B;have a2:Hid (Blk (w7.alloc (.cells #[(4:Int),i] 112)) w7.heap.size 112 #[(4:Int),i]):=Blk.new _ _ _;clear Y;go_wp2;go_ret2;rw[<-C.out];exact⟨_,rfl,a2.out,a1.out⟩
       ·rw[zc2 (fun h=>h.elim h8 h24)] at C;have hq:((its.length:Int)==24)=false:=by rw[zf2];omega
        clear h24;have f0:_=some (Value.string x.name):=J.cell 0;have f1:_=some (Value.int .i64 x.a):=J.cell 1;have f2:_=some (Value.int .i64 x.b):=J.cell 2;have f3:_=some (Value.int .i64 x.c):=J.cell 3;have q:=zH K.out.row;have p:=zH (K.out.step ((zf0 _ w5).alloc zN (.cells #[x.name,x.a,x.b,x.c] 125)));have a4:=K.out.B.size;go_wp2_with (at_builtin;refine wpList_append_own_at _ rfl _ _ 121 rfl w.heap.size 125 i0 (.agg #[.string ⟨#[]⟩,(0:Int),(0:Int),(0:Int)]) 4 40 zsQ ae ag ah ad rfl (by decide) _ _ _ rfl (q.out.alloc _) w5.heap.size 1 1 [.string x.name,.int .i64 x.a,.int .i64 x.b,.int .i64 x.c] rfl rfl ?c1d ?c2d ?c3d ?c4d ?c5d ?_)
        case c1d=>exact JA _ _ _ _ _ _
        case c2d=>intro u hu;simp at hu;rcases hu with rfl|rfl|rfl|rfl<;>rfl
        case c3d=>unfold maxLen;omega
        case c4d=>omega
        case c5d=>simp;omega
        intro v7 w7 o j _ y;have Y:Hid (GS w w7 w.heap.size v7 (its++[x.it]) (its++[x.it])):=p.out.app o j;clear o j y p q f0 f1 f2 f3 a4;go_wp2;go_roundw
        case rel=>exact⟨i+1,its++[x.it],by omega,by go_num,by simp;omega,C.out,Y.out⟩
        case measure=>simp[intOf];omega
    ·rw[zc2 hk] at C;have aG:(x.kind==1)=false:=by simpa using hk
     have d0:_=some (Value.int .i64 x.kind):=U.cell 0;clear U hk;go_wp2;go_roundw
     case rel=>exact⟨i+1,its,by omega,by go_num,by omega,C.out,a7.out⟩
     case measure=>simp[intOf];omega
   ·have ad:(qQ x==0)=false:=by simpa using hz
    rw[zc3 hz] at C;generalize qQ x=E at *;have a1:Hid (zB w (w2.alloc (.cells #[E,i] 112))):=zL a7.out.B;have a2:Hid (Blk (w2.alloc (.cells #[E,i] 112)) w2.heap.size 112 #[E,i]):=Blk.new _ _ _;clear a7 U hz ak;go_wp2;go_ret2;rw[<-C.out];exact⟨_,rfl,a2.out,a1.out⟩
  ·obtain rfl:i=ls.length:=by omega
   have aa:R=.ok its:=by rw[<-a9,zsV,qh]
   have C:=zH aa;have ax:=zH a5;clear a9 aa a5;go_wp2;go_ret2;rw[C.out];exact⟨_,rfl,ax.out.row,ax.out.B⟩
end
section
open Go.Shelf Go.Lib Go.Sort Sv
theorem zhx{α:Type}{c:α->α->Int}(anti:∀x y,c y x=-c x y)(eq0:∀x y,c x y=0->x=y)(tr:∀x y z,c x y<0->c y z<0->c x z<0):SWO (ltOf c) where
 irrefl x:=by have:=anti x x;unfold ltOf;simp;omega
 trans x y z h1 h2:=by unfold ltOf at *;simp at *;exact tr x y z h1 h2
 ntrans x y z h1 h2:=by
  unfold ltOf at *;simp at *
  by_cases h:c x z<0
  ·exfalso
   by_cases e:c x y=0
   ·have:=eq0 x y e;subst this;omega
   ·have h3:c y x<0:=by rw[anti];omega
    have:=tr y x z h3 h;omega
  ·omega
theorem zoZ{α:Type}{c:α->α->Int}(anti:∀x y,c y x=-c x y)(eq0:∀x y,c x y=0->x=y):∀x y,ltOf c x y=false->ltOf c y x=false->x=y:=by
 intro x y h1 h2;unfold ltOf at *;simp at *;have:=anti x y;exact eq0 x y (by omega)
theorem YZ:∀a b:List UInt8,compareBytes b a=-compareBytes a b
 |[],[]=>rfl
 |[],_ :: _=>rfl
 |_ :: _,[]=>rfl
 |x :: a,y :: b=>by
  rw[compareBytes,compareBytes]
  by_cases h:x<y
  ·have h':¬y<x:=fun h2=>absurd (UInt8.lt_trans h h2) (UInt8.lt_irrefl _);rw[zc3 h,zc2 h',zc3 h];rfl
  ·by_cases h':y<x
   ·rw[zc3 h',zc2 h,zc3 h']
   ·rw[zc2 h,zc2 h',zc2 h',zc2 h];exact YZ a b
theorem KW{x y:UInt8}(h:¬x<y)(h':¬y<x):x=y:=UInt8.le_antisymm (UInt8.not_lt.1 h') (UInt8.not_lt.1 h)
theorem zbi:∀a b:List UInt8,compareBytes a b=0->a=b
 |[],[],_=>rfl
 |[],_ :: _,h=>by cases h
 |_ :: _,[],h=>by cases h
 |x :: a,y :: b,h=>by
  rw[compareBytes] at h
  by_cases h1:x<y
  ·rw[zc3 h1] at h;cases h
  ·by_cases h2:y<x
   ·rw[zc2 h1,zc3 h2] at h;cases h
   ·rw[zc2 h1,zc2 h2] at h;rw[KW h1 h2,zbi a b h]
theorem zef:∀a b c:List UInt8,compareBytes a b<0->compareBytes b c<0->compareBytes a c<0
 |[],_,[],h1,h2=>by
  rename_i b;cases b with
  |nil=>exact h1
  |cons y b=>exact absurd (show (1:Int)<0 from h2) (by decide)
 |[],_,_ :: _,_,_=>show (-1:Int)<0 by decide
 |_ :: _,[],_,h1,_=>absurd (show (1:Int)<0 from h1) (by decide)
 |_ :: _,_ :: _,[],_,h2=>absurd (show (1:Int)<0 from h2) (by decide)
 |x :: a,y :: b,z :: c,h1,h2=>by
  rw[compareBytes] at h1 h2 ⊢
  by_cases xy:x<y
  ·by_cases yz:y<z
   ·rw[zc3 (UInt8.lt_trans xy yz)];decide
   ·by_cases zy:z<y
    ·rw[zc2 yz,zc3 zy] at h2;exact absurd h2 (by decide)
    ·rw[<-KW yz zy,zc3 xy];decide
  ·by_cases yx:y<x
   ·rw[zc2 xy,zc3 yx] at h1;exact absurd h1 (by decide)
   ·rw[zc2 xy,zc2 yx] at h1;have e:=KW xy yx;subst e
    by_cases yz:x<z
    ·rw[zc3 yz];decide
    ·by_cases zy:z<x
     ·rw[zc2 yz,zc3 zy] at h2;exact absurd h2 (by decide)
     ·rw[zc2 yz,zc2 zy] at h2 ⊢;exact zef a b c h1 h2
theorem JG(a b c d e f:Int):yd (tI a b c) (tI d e f) 3=if a<d then -1 else if d<a then 1 else if b<e then -1 else if e<b then 1 else if c<f then -1 else if f<c then 1 else 0:=by
 show (if qU a d≠0 then qU a d else if qU b e≠0 then qU b e else if qU c f≠0 then qU c f else 0)=_;unfold qU
 by_cases h1:a<d
 ·simp[h1]
 ·by_cases h2:d<a
  ·simp[h1,h2]
  ·by_cases h3:b<e
   ·simp[h1,h2,h3]
   ·by_cases h4:e<b
    ·simp[h1,h2,h3,h4]
    ·by_cases h5:c<f
     ·simp[h1,h2,h3,h4,h5]
     ·by_cases h6:f<c<;>simp[h1,h2,h3,h4,h5,h6]
theorem zaA(a b c d e f:Int):yd (tI a b c) (tI d e f) 3<0↔(a<d\/(a=d/\(b<e\/(b=e/\c<f)))):=by
 rw[JG]
 repeat' split
 all_goals omega
theorem ziF(a b c d e f:Int):yd (tI a b c) (tI d e f) 3=0↔(a=d/\b=e/\c=f):=by
 rw[JG]
 repeat' split
 all_goals omega
theorem zhh(a b c d e f:Int):yd (tI d e f) (tI a b c) 3=-yd (tI a b c) (tI d e f) 3:=by
 rw[JG,JG]
 by_cases h1:a<d
 ·have:¬d<a:=by omega
  simp[h1,this]
 ·by_cases h2:d<a
  ·simp[h1,h2]
  ·by_cases h3:b<e
   ·have:¬e<b:=by omega
    simp[h1,h2,h3,this]
   ·by_cases h4:e<b
    ·simp[h1,h2,h3,h4]
    ·by_cases h5:c<f
     ·have:¬f<c:=by omega
      simp[h1,h2,h3,h4,h5,this]
     ·by_cases h6:f<c<;>simp[h1,h2,h3,h4,h5,h6]
theorem Jq{x y:It}:x.name.toList=y.name.toList↔x.name.data.toList=y.name.data.toList:=by rw[ByteArray.toList_eq,ByteArray.toList_eq]
theorem YM(x y:It):zY y x=-zY x y:=by
 unfold zY
 by_cases h:x.name.toList=y.name.toList
 ·rw[zc3 h,zc3 h.symm];exact zhh _ _ _ _ _ _
 ·rw[zc2 h,zc2 (fun e=>h e.symm)];exact YZ _ _
theorem Kn(x y:It)(h:zY x y=0):x=y:=by
 unfold zY at h
 by_cases e:x.name.toList=y.name.toList
 ·rw[zc3 e,ziF] at h;obtain⟨n,a,b,c⟩:=x;obtain⟨n',a',b',c'⟩:=y;obtain rfl:n=n':=Zd e;obtain⟨h1,h2,h3⟩:=h;simp only at h1 h2 h3;subst h1 h2 h3;rfl
 ·rw[zc2 e] at h;exact absurd (Jq.2 (zbi _ _ h)) e
theorem zbE(x y z:It)(h1:zY x y<0)(h2:zY y z<0):zY x z<0:=by
 unfold zY at *
 by_cases e1:x.name.toList=y.name.toList
 ·by_cases e2:y.name.toList=z.name.toList
  ·rw[zc3 e1,zaA] at h1;rw[zc3 e2,zaA] at h2;rw[zc3 (e1.trans e2),zaA];omega
  ·rw[zc2 e2] at h2;rw[zc2 (fun e=>e2 (e1.symm.trans e)),Jq.1 e1];exact h2
 ·by_cases e2:y.name.toList=z.name.toList
  ·rw[zc2 e1] at h1;rw[zc2 (fun e=>e1 (e.trans e2.symm)),<-Jq.1 e2];exact h1
  ·rw[zc2 e1] at h1;rw[zc2 e2] at h2
   by_cases e3:x.name.toList=z.name.toList
   ·exfalso;rw[<-Jq.1 e3,YZ] at h2;omega
   ·rw[zc2 e3];exact zef _ _ _ h1 h2
theorem zh0:SWO (ltOf zY):=zhx YM Kn zbE
theorem zk6:∀x y,ltOf zY x y=false->ltOf zY y x=false->x=y:=zoZ YM Kn
theorem Q7(l:List It):(ya l).Perm l:=List.mergeSort_perm _ _
theorem zbQ(l:List It):(ya l).length=l.length:=(Q7 l).length_eq
end
section
open Go.Shelf Go.Lib Go.Sort Sv
theorem znm(x y:It)(W:World) :
  zC 139 #[.agg #[x.name,x.a,x.b,x.c],.agg #[y.name,y.a,y.b,y.c]] W fun e w'=>e=.returned (.int .i64 (zY x y))/\Gr W w':=by
 have hg:Gr W ((W.alloc (.cells #[x.name,x.a,x.b,x.c] 125)).alloc (.cells #[y.name,y.a,y.b,y.c] 125)):=((Gr.refl W).alloc _).alloc _;have HG:=zH hg;clear hg;have HV:Hid (∀W',zC 140 #[.agg #[y.a,y.b,y.c],.agg #[x.a,x.b,x.c]] W' fun r w'=>r=.returned (.int .i64 (yd (tI y.a y.b y.c) (tI x.a x.b x.c) 3))/\Gr W' w'):=fun W'=>zmP y.a y.b y.c x.a x.b x.c W';have HN:Hid (∀W',zC 141 #[x.name,y.name] W' fun r w'=>r=.returned (.int .i64 (compareBytes x.name.data.toList y.name.data.toList))/\w'=W'):=fun W'=>Tryz.strings_Compare x.name y.name W'
 by_cases h:x.name.toList=y.name.toList
 ·have HC:Hid (zY x y=yd (tI y.a y.b y.c) (tI x.a x.b x.c) 3):=by show _=_;unfold zY;rw[zc3 h]
  have hb:(x.name.toList==y.name.toList)=true:=by rw[h];exact beq_self_eq_true _
  clear h HN;generalize yd (tI y.a y.b y.c) (tI x.a x.b x.c) 3=Z at *;go_enter func139,ntmps139;go_wp2_with fail;refine(HV.out _).mono ?_;rintro e w1 ⟨rfl,j⟩;have o:Hid (Gr W w1):=HG.out.trans j;clear j HG HV;go_wp2;go_ret;exact⟨by rw[HC.out];rfl,o.out⟩
 ·have HC:Hid (zY x y=compareBytes x.name.data.toList y.name.data.toList):=by show _=_;unfold zY;rw[zc2 h]
  have hb:(x.name.toList==y.name.toList)=false:=by rw[zf2];exact h
  clear h HV;generalize compareBytes x.name.data.toList y.name.data.toList=Z at *;go_enter func139,ntmps139;go_wp2_with fail;refine(HN.out _).mono ?_;rintro e w1 ⟨rfl,rfl⟩;clear HN;go_wp2;go_ret;exact⟨by rw[HC.out];rfl,HG.out⟩
theorem zoi(blk off size:Nat)(w:World):CmpLays prog 139 #[] zQ 4 zY blk off size w :=
 fun _ _ _ _ x y=>znm x y _
theorem zfS(l:List It):flatK zQ 4 l.toArray=(zl l).toArray:=by
 apply Array.ext_getElem?;intro t
 by_cases ht:t<l.length*4
 ·have h1:t<(flatK zQ 4 l.toArray).size:=by rw[size_flatK];simpa using ht
  have hj:t/4<l.length:=by omega
  have h2:(zl l)[t]?=some ((zQ (l.getD (t/4) default))[t%4]!):=by
   have j:t%4<(zQ (l.getD (t/4) default)).length:=by simp[zQ];omega
   have:=Yu l (t/4) hj (t%4) _ (zc5 j);rw[show t/4*4+t%4=t by omega] at this;rw[this,zuB (zQ (l.getD (t/4) default)) (t%4) j]
  have e1:(flatK zQ 4 l.toArray)[t]?=some ((flatK zQ 4 l.toArray)[t]!):=by rw[zsI h1,zuB (flatK zQ 4 l.toArray) t h1]
  have e2:(zl l).toArray[t]?=(zl l)[t]?:=by simp
  have e3:l.toArray[t/4]! = l.getD (t/4) default:=by
   rw[zuB l.toArray (t/4) (by simpa using hj),zc0,zc5 hj];rfl
  rw[e1,get_flatK zQ 4 _ t (by simpa using ht),e2,h2,e3]
 ·rw[zrO (by rw[size_flatK];simpa using ht),zrO (by simp[xQ];omega)]
theorem zqM(l:List It)(v:Value)(B:Nat)(w:World)(h:w.ownsRow B 125 4 v l.length (zl l))(hl:l.length<=100000) :
  zC 86 #[v] w fun e w'=>e=.returned (.tuple #[])/\w'.ownsRow B 125 4 v l.length (zl (ya l))/\Below B w w':=by
 have H:Hid (zC 138 #[v,.func (.func 139) #[] #[]] w fun e w'=>e=.returned (.tuple #[])/\w'.ownsRow B 125 4 v l.length (zl (ya l))/\Below B w w'):=by
  rcases h.2 with ⟨rfl,e0⟩|⟨g,y,C,rfl,hB,hg,hn,hm,R,q⟩
  ·obtain rfl:l=[]:=ztv e0;refine(AnyF.slices_SortFunc_none Tryz.sortItem none 0 _ w).mono fun e w' ⟨he,hw⟩=>⟨he,?_,by rw[hw];exact zf0 _ _⟩;rw[hw,show ya []=[] by unfold ya;simp];exact h
  ·have eg:∀p w,(callFunc 139 p).run prog w=.ok (.enter 139 p) w:=enters_of func139 (by kernel_rfl) rfl;have M:g<w.heap.size:=(zrg.1 hg).1;have hH:HoldsK zQ 4 w g 0 l.toArray:=by
    intro j hj;rw[size_flatK] at hj;have hj':j<l.length*4:=by simpa using hj
    rw[zfS];have K:j<(zl l).length:=by rw[xQ];exact hj'
    rw[zuB _ j (by simpa using K)];constructor
    ·rw[zrI];have hc:C[j]?=(zl l)[j]?:=by
      rw[<-q,zrP,zc3 hj',ztD]
     show w.cell? _=some (zl l)[j];simp[World.cell?,hg,hc,List.getElem?_eq_getElem K]
    ·simp[World.frozen?,hg]
   refine(AnyQ.slices_SortFunc_total Tryz.sortItem 4 isAgg125 zvm zQ (fun _=>rfl) (fun x u hu=>zfm [x] u (by simpa[zl] using hu)) zY zh0 139 #[] g 0 y l.toArray w eg (zoi g 0 _ w) hH M (by simp;omega) zk6).mono fun e w' ⟨he,n,os,hw⟩=>⟨he,?_⟩;have U:w'=grow (putRow id (Sort.ahead w n) g 0 ((zl (ya l)).toArray)) os:=by
    rw[hw,<-zfS];rfl
   have J:w'.heap[g]?=some (.cells (putCells id 0 (zl (ya l)).toArray C) 125 (0,0)):=by
    rw[U];show ((putRow id (Sort.ahead w n) g 0 ((zl (ya l)).toArray)).heap++os)[g]?=_;rw[ztb (by simp[putRow,mapBlock,Sort.ahead];exact M)];simp[putRow,mapBlock,Sort.ahead,Array.getElem?_modify,hg,onCells]
   refine⟨⟨by rw[xQ,zbQ],Or.inr ⟨g,y,_,rfl,hB,J,hn,hm,by simp[putCells,R],?_⟩⟩,?_⟩
   ·apply zuw;intro t;rw[zrP];have o:(zl (ya l)).length=l.length*4:=by rw[xQ,zbQ]
    by_cases ht:t<l.length*4
    ·have X:t<C.size:=by rw[R];omega
     rw[zc3 ht,ztD];simp only[putCells,Array.getElem?_mapIdx,zsI X,Option.map_some];rw[zc3 ⟨zf6 _,by simp[o];exact ht⟩,zuH,zuB _ t (by simp[o];exact ht),zc5 (by rw[o];exact ht)];rfl
    ·rw[zc2 ht,zsM (by rw[o];omega)]
   ·rw[U];refine⟨rfl,rfl,rfl,by simp[grow,putRow,mapBlock,Sort.ahead],fun k hk=>?_⟩;show ((putRow id (Sort.ahead w n) g 0 ((zl (ya l)).toArray)).heap++os)[k]?=_;have V:(putRow id (Sort.ahead w n) g 0 ((zl (ya l)).toArray)).heap[k]?=w.heap[k]?:=by
     simp only[putRow,mapBlock,Sort.ahead,zuL];rw[zc2 (by omega)]
    rcases zsh k w.heap.size with hkl|hkl
    ·rw[ztb (by simp[putRow,mapBlock,Sort.ahead];exact hkl),V]
    ·exfalso;omega
 obtain⟨a,y,rfl,-⟩:=(zx h).form;clear h;go_enter func86,ntmps86;go_wp2_with fail;refine H.out.mono ?_;rintro e w1 ⟨rfl,h1,h2⟩;have H1:=zH h1;have H2:=zH h2;clear h1 h2 H;go_wp2;go_end0;exact⟨rfl,H1.out,H2.out⟩
end
section
open Go.Deep Sv
def Zj(w:World)(b:Nat)(ls:List Ln)(its:List It):Prop :=
 ∃lv iv bm,Blk w b 183 #[lv,iv,.map (some bm)]/\Z3 w lv ls/\yc w iv its/\qR w bm (yk its) its.length
theorem Zj.below{B:Nat}{w w':World}{b:Nat}{ls:List Ln}{its:List It}(h:Zj w b ls its)(hb:Below B w w')(hB:w.heap.size<=B):Zj w' b ls its:=by
 obtain⟨lv,iv,bm,h1,h2,h3,h4⟩:=h;exact⟨lv,iv,bm,h1.below hb (zc6 h1.lt hB),h2.below hb hB,h3.below hb hB,h4.below hb hB⟩
theorem Zj.lt{w:World}{b:Nat}{ls:List Ln}{its:List It}(h:Zj w b ls its):b<w.heap.size:=by
 obtain⟨lv,iv,bm,h1,_⟩:=h;exact h1.lt
def yS(w:World)(b:Nat)(ls:List Ln)(vs:List Value)(its:List It)(B:Nat):Prop :=
 ∃lv iv bm,Blk w b 183 #[lv,iv,.map (some bm)]/\qT w ls vs/\yj w lv ls.length (qu ls vs)/\yc w iv its/\qR w bm (yk its) its.length/\B<=b/\B<=bm/\(∀g,lv.ownBlock=some g->B<=g)/\(∀g,iv.ownBlock=some g->B<=g)
theorem yS.cat{w:World}{b:Nat}{ls:List Ln}{vs:List Value}{its:List It}{B:Nat}(h:yS w b ls vs its B):Zj w b ls its:=by
 obtain⟨lv,iv,bm,h1,h2,h3,h4,h5,-⟩:=h;exact⟨lv,iv,bm,h1,⟨vs,h2,h3⟩,h4,h5⟩
theorem yS.below{B':Nat}{w w':World}{b:Nat}{ls:List Ln}{vs:List Value}{its:List It}{B:Nat}(h:yS w b ls vs its B)(hb:Below B' w w')(hB:w.heap.size<=B'):yS w' b ls vs its B:=by
 obtain⟨lv,iv,bm,h1,h2,h3,h4,h5,h6⟩:=h;exact⟨lv,iv,bm,h1.below hb (zc6 h1.lt hB),h2.below hb hB,h3.below hb hB,h4.below hb hB,h5.below hb hB,h6⟩
theorem yj.set{w:World}{v x:Value}{n b i:Nat}{cs:List Value}(h:yj w v n cs)(hn:∀g,v.ownBlock=some g->g≠b):yj (w.setCell ⟨b,i,none⟩ x) v n cs :=
 ⟨h.form,fun h0=>by
  obtain⟨g,o,e,hg,hc⟩:=h.cells h0;have p:=hn g (by rw[e];rfl);exact ⟨g,o,e,by simp [World.setCell];exact hg,fun j u hu=>by unfold World.cell?;rw [zrF _ _ _ g p];exact hc j u hu⟩⟩
theorem yj.put{w:World}{v:Value}{n l:Nat}{cs:List Value}{o o':Obj}(h:yj w v n cs)(hl:w.heap[l]?=some o)(hc:o.isCells=false)(hcs:cs.length=0->n=0):yj (w.putObj l o') v n cs :=
 ⟨h.form,fun h0=>by
  obtain⟨g,q,e,hg,p⟩:=h.cells h0;have C:g≠l:=by
   rintro rfl;have y:0<cs.length:=by
    rcases Nat.eq_zero_or_pos cs.length with h|h
    ·have:=hcs h;omega
    ·exact h
   have:=p 0 _ (zc5 y);unfold World.cell? at this;rw[hl] at this;cases o<;>simp[Obj.isCells] at hc this
  exact ⟨g,q,e,by simp [World.putObj];exact hg,fun j u hu=>by unfold World.cell?;rw [World.putObj_heap_other C];exact p j u hu⟩⟩
theorem zbU(bk:Nat)(ls:List Ln)(its:List It)(name:ByteArray)(a b c:Int)(w:World)(h:Zj w bk ls its)(hl:its.length<=100000) :
  zR 48 #[.pointer (some bk),name,.agg #[a,b,c]] w (.int .i64 (qK its ⟨name,a,b,c⟩)):=by
 obtain⟨lv,iv,bm,h1,h2,h3,h4⟩:=h;obtain⟨la,lc,rfl,-⟩:∃la lc,lv=.slice la ls.length lc/\True:=by obtain⟨vs,_,h2⟩:=h2;obtain⟨x,y,e,_⟩:=h2.form;exact⟨x,y,e,trivial⟩
 obtain⟨va,vc,rfl,-⟩:=h3.form;have HI:Hid (∀W,zB w W->zR 92 #[.slice va its.length vc,.agg #[name,a,b,c]] W (.int .i64 (qK its ⟨name,a,b,c⟩))):=fun W hW=>zhA its ⟨name,a,b,c⟩ _ W (h3.below hW zN) hl;have kv:=Blk.new w 102 #[a,b,c];have o:zB w (w.alloc (.cells #[a,b,c] 102)):=(zf0 _ w).alloc zN _;have k1:=h1.below o h1.lt;clear h1 h2 h3 h4 hl;generalize qK its ⟨name,a,b,c⟩=Z at *;go_enter func48,ntmps48;go_wp2_with fail;have D0:zB w (w.alloc (.cells #[a,b,c] 102)).drew:=o.drew;generalize w.alloc (.cells #[a,b,c] 102)=W0 at *;have SC:Hid (∀W,zB W0 W->W.cell? ⟨bk,1,none⟩=some (.slice va its.length vc)/\W.cell? w.heap.size=some (.int .i64 a)/\W.cell? ⟨w.heap.size,1,none⟩=some (.int .i64 b)/\W.cell? ⟨w.heap.size,2,none⟩=some (.int .i64 c)):=fun W h=>⟨(k1.below h k1.lt).cell 1,(kv.below h kv.lt).cell 0,(kv.below h kv.lt).cell 1,(kv.below h kv.lt).cell 2⟩;have E0:zB W0 W0.drew:=zF.drew;clear kv k1;go_region_held3 (fun W=>W.cell? ⟨bk,1,none⟩=some (.slice va its.length vc)/\W.cell? w.heap.size=some (.int .i64 a)/\W.cell? ⟨w.heap.size,1,none⟩=some (.int .i64 b)/\W.cell? ⟨w.heap.size,2,none⟩=some (.int .i64 c)) (first|exact SC.out _ E0|exact SC.out _ E1)
  (((with_reducible refine(HI.out _ D0).mono ?_);rintro e x1 ⟨rfl,j⟩;have E1:zB W0 x1:=zT E0 j;have D1:zB w x1:=zT D0 j;clear HI D0 E0 j))
 have p:=zH D1;clear D1 E1;go_wp2;go_ret;exact⟨rfl,p.out⟩
def zb0(w:World)(ls:List Ln)(vs:List Value)(r:Except (Int × Option Nat) (List It))(e:Ending)(w':World):Prop :=
 match r with
 |.ok its=>∃bc,e=.returned (.tuple #[.pointer (some ⟨bc,0,none⟩),.nilIface])/\yS w' bc ls vs its w.heap.size/\zB w w'
 |.error (k,p)=>∃er,e=.returned (.tuple #[.pointer none,er])/\ye w' er k p/\zB w w'
theorem zaT{P:It->Prop}:∀(ls:List Ln) (i:Nat) (its out:List It),qh ls i its=.ok out->(∀x∈its,P x)->(∀x:Ln,qQ x=0->P x.it)->(∀x∈out,P x)/\out.length<=its.length+ls.length
 |[],i,its,out,h,h1,_=>by cases h;exact⟨h1,by simp⟩
 |x :: r,i,its,out,h,h1,h2=>by
  rw[qh] at h
  by_cases hz:qQ x=0
  ·rw[zc2 (fun h=>h hz)] at h
   by_cases hk:x.kind=1
   ·rw[zc3 hk] at h;split at h
    ·cases h
    ·split at h
     ·cases h
     ·have:=zaT r (i + 1) (its++[x.it]) out h (fun y hy=>by
       rcases zro.1 hy with hy|hy
       ·exact h1 y hy
       ·rw [zra] at hy;subst hy;exact h2 x hz) h2
      refine⟨this.1,?_⟩;have h3:=this.2;simp at h3 ⊢;omega
   ·rw[zc2 hk] at h;have:=zaT r (i+1) its out h h1 h2;exact⟨this.1,by have h3:=this.2;simp;omega⟩
  ·rw[zc3 hz] at h;cases h
theorem zdQ{ls:List Ln}{i:Nat}(hi:i<ls.length)(its:List It):qD (ls.drop i) i its=if (ls.getD i default).pair/\(ls.getD i default).it∉its then some i else qD (ls.drop (i+1)) (i+1) its:=by
 rw[zc9 (d:=default) hi,qD]
theorem zqL(its:List It)(x:It):qK its x<0↔x∉its:=by
 unfold qK;cases h:its.findIdx? (fun y=>decide (x=y)) with
 |none =>
  simp only[zsr,zsm] at h;constructor
  ·intro _ hm;exact h x hm rfl
  ·intro _;decide
 |some i =>
  rw[zrU] at h;obtain⟨hi,hp,-⟩:=h;simp at hp;constructor
  ·intro h;have h':(i:Int)<0:=h;omega
  ·intro h;exact absurd (hp▸zr0 hi) h
end
section
open Go.Deep Sv
theorem zqX(ls:List Ln)(la:Option Addr)(lc:Nat)(w:World)(h:100<ls.length) :
  zR 38 #[.slice la ls.length lc] w (.tuple #[.pointer none,.iface 53 (.int .i64 4)]):=by
 have h1:(100:Int)<(ls.length:Int):=by omega
 clear h;go_enter func38,ntmps38;go_wp2;go_ret2;exact⟨rfl,zf0 _ _⟩
theorem zhT(ls:List Ln)(la:Option Addr)(lc:Nat)(w:World)(hl:ls.length<=100)(vs:List Value)(h:Z3 w (.slice la ls.length lc) ls)(k:Int)(i:Nat)(hg:qh ls 0 []=.error (k,i)) :
  zC 38 #[.slice la ls.length lc] w (zb0 w ls vs (.error (k,some i))):=by
 have h1:¬(100:Int)<(ls.length:Int):=by omega
 have HG:Hid (zC 85 #[.slice la ls.length lc] w fun e w'=>∃N,e=.returned (.tuple #[.slice none 0 0,.iface 110 (.pointer (some ⟨N,0,none⟩))])/\Blk w' N 112 #[k,i]/\zB w w'):=by
  have h2:=zfH ls _ w h (by omega);rw[hg] at h2;exact h2
 clear hg h hl;go_enter func38,ntmps38;go_wp2_with fail;refine HG.out.mono ?_;rintro e w1 ⟨N,rfl,hN,hb⟩;have HN:=zH hN;have HB:=zH hb;clear hN hb HG;go_wp2;go_ret2;exact⟨_,rfl,⟨N,rfl,HN.out⟩,HB.out⟩
theorem zkf(ls:List Ln)(la:Option Addr)(lc:Nat)(w:World)(hl:ls.length<=100)(vs:List Value)(hvg:qT w ls vs)(hvr:yj w (.slice la ls.length lc) ls.length (qu ls vs))(its:List It)(hg:qh ls 0 []=.ok its)(R:Except (Int × Option Nat) (List It))(hR:R=match qD ls 0 (ya its) with|some i=>.error (7,some i)|none=>.ok (ya its)) :
  zC 38 #[.slice la ls.length lc] w (zb0 w ls vs R):=by
 have h:Z3 w (.slice la ls.length lc) ls:=⟨vs,hvg,hvr⟩;have h1:¬(100:Int)<(ls.length:Int):=by omega
 have HR:=zH hR;clear hR;have HG:Hid (zC 85 #[.slice la ls.length lc] w fun e w'=>∃v,e=.returned (.tuple #[v,.nilIface])/\w'.ownsRow w 125 4 v its.length (zl its)/\zB w w'):=by
  have h2:=zfH ls _ w h (by omega);rw[hg] at h2;exact h2
 have ag:=zaT (P:=fun x=>x.name.size<=12) ls 0 [] its hg (fun x hx=>by cases hx) (fun x hx=>zbK hx);have aQ:its.length<=100:=by have:=ag.2;simp at this;omega
 have av:Hid (∀x∈ya its,x.name.size<=100000):=fun x hx=>by have:=ag.1 x ((Q7 its).mem_iff.1 hx);omega
 obtain⟨S,hS⟩:∃S,ya its=S:=⟨_,rfl⟩;have ah:S.length=its.length:=by rw[<-hS];exact zbQ its
 have aR:S.length<=100:=by omega
 have ay:Hid (∀v W,W.ownsRow w 125 4 v S.length (zl its)->zC 86 #[v] W fun e w'=>e=.returned (.tuple #[])/\w'.ownsRow w 125 4 v S.length (zl S)/\Below w.heap.size W w'):=fun v W h=>by rw[ah] at h ⊢;rw[<-hS];exact zqM its v w.heap.size W h (by omega)
 rw[<-ah] at HG;rw[hS] at av HR;have az:=zH hvg;have aA:=zH hvr;clear hg h ag hS ah aQ hvg hvr;go_enter func38,ntmps38;go_wp2_with fail;refine HG.out.mono ?_;rintro e w1 ⟨v,rfl,U,aC⟩;have HS:=zH (ay.out v w1 U);have ai:=zH aC;obtain⟨va,vc,rfl,-⟩:=(zx U).form;clear HG U aC ay;go_wp2_with fail;refine HS.out.mono ?_;rintro e w2 ⟨rfl,o,aD⟩;have a0:Hid (zB w w2):=ai.out.trans aD;have ao:Hid (yc w2 (.slice va S.length vc) S):=zx o;have Y:=az.out.below a0.out zN;have aH:=aA.out.below a0.out zN;have an:=zH (zgH ls vs Y.1 Y.one _ w2 aH (by omega));have aw:=zH Y;have ar:Hid (∀g,(Value.slice va S.length vc).ownBlock=some g->w.heap.size<=g):=fun g hg=>(o.lt g hg).1;have aP:=a0.out.size;clear HS o aD ai Y aH az aA;go_wp2_with fail;refine an.out.mono ?_;rintro e w3 ⟨lv,rfl,j,a8⟩;have aa:Hid (zB w w3):=zT a0.out a8;have ad:Hid (yc w3 (.slice va S.length vc) S):=ao.out.below a8 zN;have ae:Hid (qT w3 ls vs/\yj w3 lv ls.length (qu ls vs)):=⟨aw.out.below a8 zN,zx j⟩;have au:Hid (∀g,lv.ownBlock=some g->w.heap.size<=g):=fun g hg=>by have:=(j.lt g hg).1;omega
 have aB:=aa.out.size;have ax:=zH (zjp S _ w3 ad.out (by omega) av.out);obtain⟨u,y,rfl,-⟩:=(zx j).form;clear an j a8 a0 ao aw;go_wp2_with fail;refine ax.out.mono ?_;rintro e w4 ⟨rfl,M,a5⟩;have ab:Hid (zB w w4):=zT aa.out a5;have aq:Hid (yc w4 (.slice va S.length vc) S):=ad.out.below a5 zN;have a2:Hid (qT w4 ls vs/\yj w4 (.slice u ls.length y) ls.length (qu ls vs)):=⟨ae.out.1.below a5 zN,ae.out.2.below a5 zN⟩;have a4:=zH M;clear ax M a5 aa ad ae;have kc:=Blk.new w4 183 #[.slice u ls.length y,.slice va S.length vc,.map (some w3)];have K:zB w4 (w4.alloc (.cells #[.slice u ls.length y,.slice va S.length vc,.map (some w3)] 183)):=zF.alloc zN _;have aF:w.heap.size<=w4.heap.size:=ab.out.size;have am:Hid (yS (w4.alloc (.cells #[.slice u ls.length y,.slice va S.length vc,.map (some w3)] 183)) w4.heap.size ls vs S w.heap.size):=⟨_,_,_,kc,a2.out.1.below K zN,a2.out.2.below K zN,aq.out.below K zN,a4.out.below K zN,aF,aB,au.out,ar.out⟩;have aN:Hid (Z3 (w4.alloc (.cells #[.slice u ls.length y,.slice va S.length vc,.map (some w3)] 183)) (.slice u ls.length y) ls):=⟨vs,a2.out.1.below K zN,a2.out.2.below K zN⟩;have aj:Hid (zB w (w4.alloc (.cells #[.slice u ls.length y,.slice va S.length vc,.map (some w3)] 183))):=zT ab.out K;clear K ab aq a2 a4 au ar aP aB aF;go_upto_region 8 with fail;generalize w4.alloc (.cells #[.slice u ls.length y,.slice va S.length vc,.map (some w3)] 183)=W5 at *;generalize w4.heap.size=bc at *;have d0:_=some (Value.slice u ls.length y):=kc.cell 0;clear kc;go_wp2_with fail;clear d0;go_loopw [35] (fun iV wr=>∃i:Nat,i<=ls.length/\iV=.int .i64 i/\qD (ls.drop i) i S=qD ls 0 S/\zB W5 wr) (fun iV _=>ls.length-(intOf iV).toNat)
 case atStart=>exact⟨0,zf6 _,rfl,by rw[ztn],zf0 _ _⟩
 case round =>
  obtain⟨i,hi,rfl,a6,X⟩:=hrel;have hB:zB w wr:=zT aj.out X;have aL:=zH (am.out.below X zN);have HB:=zH hB;have aK:=zH X
  by_cases hlt:i<ls.length
  ·obtain⟨g,aO,rv,e,hg,aI,Y,c0,c1,c2,c3,c4,c5,c6⟩:=(aN.out.below X zN).at i hlt;simp at e;obtain⟨rfl,rfl⟩:=e;rw[zdQ hlt] at a6;have af:=zH a6;obtain⟨C,J,rfl⟩:=aI.form;clear a6 aI Y X hB;generalize ls.getD i default=x at *;have kx:=Blk.new wr 107 #[x.kind,x.name,x.a,x.b,x.c,x.other,.slice C x.rng.length J];have aG:zB wr (wr.alloc (.cells #[x.kind,x.name,x.a,x.b,x.c,x.other,.slice C x.rng.length J] 107)):=zF.alloc zN _;have ak:Hid (zB wr (wr.alloc (.cells #[x.kind,x.name,x.a,x.b,x.c,x.other,.slice C x.rng.length J] 107))):=aG;clear aG;go_upto_region 11 with fail;clear c0 c1 c2 c3 c4 c5 c6;have p:Hid (zB W5 (wr.alloc (.cells #[x.kind,x.name,x.a,x.b,x.c,x.other,.slice C x.rng.length J] 107))):=zT aK.out ak.out;clear ak;generalize wr.alloc (.cells #[x.kind,x.name,x.a,x.b,x.c,x.other,.slice C x.rng.length J] 107)=W6 at *;generalize wr.heap.size=bx at *;have d0:_=some (Value.int .i64 x.kind):=kx.cell 0;have d1:_=some (Value.string x.name):=kx.cell 1;have d2:_=some (Value.int .i64 x.a):=kx.cell 2;have d3:_=some (Value.int .i64 x.b):=kx.cell 3;have d4:_=some (Value.int .i64 x.c):=kx.cell 4;have d5:_=some (Value.string x.other):=kx.cell 5;have d6:_=some (Value.slice C x.rng.length J):=kx.cell 6;go_wp2_with fail;clear d0 d1 d2 d3 d4 d5 d6;have a9:=yE x (.slice C x.rng.length J) W6
   by_cases hpr:x.pair
   ·have HP:Hid (zR 82 #[.agg #[x.kind,x.name,x.a,x.b,x.c,x.other,.slice C x.rng.length J]] W6 (.bool true)):=a9.mono fun e w' ⟨he,hw⟩=>⟨by rw[he,zq9 hpr],by rw[hw];exact zF.alloc zN _⟩;clear a9;refine HP.out.mono ?_;rintro e w7 ⟨rfl,V⟩;have a7:=kx.below V kx.lt;have a1:Hid (zB W5 w7):=zT p.out V;have d1:_=some (Value.string x.name):=a7.cell 1;have d2:_=some (Value.int .i64 x.a):=a7.cell 2;have d3:_=some (Value.int .i64 x.b):=a7.cell 3;have d4:_=some (Value.int .i64 x.c):=a7.cell 4;have a3:=zH (zbU bc ls S x.name x.a x.b x.c w7 (am.out.below a1.out zN).cat (by omega));clear HP V kx a7 p;go_wp2_with fail;clear d1 d2 d3 d4;refine a3.out.mono ?_;rintro e w8 ⟨rfl,aE⟩;have ac:Hid (zB W5 w8):=zT a1.out aE;have q:Hid (qK S ⟨x.name,x.a,x.b,x.c⟩<0↔x.it∉S):=zqL S x.it;clear a3 aE a1;generalize qK S ⟨x.name,x.a,x.b,x.c⟩=Z at *
    by_cases hz:Z<0
    ·have HM:Hid (qD ls 0 S=some i):=by show _=_;rw[<-af.out,zc3 ⟨hpr,q.out.1 hz⟩]
     have aJ:Hid (zB w (w8.alloc (.cells #[(7:Int),i] 112))):=by
      have h:=zT aj.out ac.out;exact zL h
     have aM:Hid (Blk (w8.alloc (.cells #[(7:Int),i] 112)) w8.heap.size 112 #[(7:Int),i]):=Blk.new _ _ _;clear q ac hpr;go_wp2;go_ret2;rw[HR.out,HM.out];exact⟨_,rfl,⟨_,rfl,aM.out⟩,aJ.out⟩
    ·have HM:Hid (qD (ls.drop (i+1)) (i+1) S=qD ls 0 S):=by show _=_;rw[<-af.out,zc2 (fun h=>hz (q.out.2 h.2))]
     clear q hpr;go_wp2;go_roundw
     case rel=>exact⟨i+1,hlt,by go_num,HM.out,ac.out⟩
     case measure=>simp[intOf];omega
   ·have HP:Hid (zR 82 #[.agg #[x.kind,x.name,x.a,x.b,x.c,x.other,.slice C x.rng.length J]] W6 (.bool false)):=a9.mono fun e w' ⟨he,hw⟩=>⟨by rw[he,zf5 hpr],by rw[hw];exact zF.alloc zN _⟩;have HM:Hid (qD (ls.drop (i+1)) (i+1) S=qD ls 0 S):=by show _=_;rw[<-af.out,zc2 (fun h=>hpr h.1)]
    clear a9 hpr;refine HP.out.mono ?_;rintro e w7 ⟨rfl,V⟩;have a1:Hid (zB W5 w7):=zT p.out V;clear HP V kx p;go_wp2;go_roundw
    case rel=>exact⟨i+1,hlt,by go_num,HM.out,a1.out⟩
    case measure=>simp[intOf];omega
  ·obtain rfl:i=ls.length:=by omega
   have HM:Hid (qD ls 0 S=none):=by show _=_;rw[<-a6,zsV,qD]
   clear a6 X hB;go_wp2;go_ret2;rw[HR.out,HM.out];exact⟨bc,rfl,aL.out,HB.out⟩
theorem zar(ls:List Ln)(vs:List Value)(lv:Value)(w:World)(hvg:qT w ls vs)(hvr:yj w lv ls.length (qu ls vs)):zC 38 #[lv] w (zb0 w ls vs (qA ls)):=by
 obtain⟨la,lc,rfl,-⟩:=hvr.form;unfold qA
 by_cases h1:100<ls.length
 ·rw[zc3 h1];exact(zqX ls la lc w h1).mono fun e w' ⟨he,hb⟩=>⟨_,he,rfl,hb⟩
 ·rw[zc2 h1];cases hg:qh ls 0 [] with
  |error e=>exact zhT ls la lc w (by omega) vs ⟨vs,hvg,hvr⟩ e.1 e.2 hg
  |ok its=>exact zkf ls la lc w (by omega) vs hvg hvr its hg _ rfl
end
