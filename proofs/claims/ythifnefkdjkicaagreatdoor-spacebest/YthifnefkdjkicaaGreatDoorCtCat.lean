import Derived.Test.YthifnefkdjkicaaGreatDoorCtFind
import Derived.Deep.CutBlock
set_option maxHeartbeats 4000000
set_option maxRecDepth 100000
namespace Go.Proofs.YthifnefkdjkicaaGreatDoor
section
open Go.RowKit Go.Deep Go.Maps Sv
structure GS(w W:World)(bm:Nat)(itV:Value)(its nms:List It):Prop where
 row:W.ownsRow w.heap.size 115 4 itV its.length (zl its)
 nm:xi W bm nms
 bmB:w.heap.size<=bm
 B:zB w W
theorem GS.step{w W W':World}{bm:Nat}{itV:Value}{its nms:List It}(h:GS w W bm itV its nms)(hb:zB W W'):GS w W' bm itV its nms :=
 ⟨zI h.row hb,h.nm.below hb zN,h.bmB,zT h.B hb⟩
theorem zdx{W:World}{B t k n bm:Nat}{v:Value}{cs:List Value}{l:List It}(h:W.ownsRow B t k v n cs)(hn:xi W bm l):v.ownBlock≠some bm:=by
 obtain⟨D,⟨es,j,h1,_⟩,_⟩:=hn;rcases h.2 with ⟨rfl,_⟩|⟨g,o,p,rfl,_,hg,_⟩
 ·simp[Value.ownBlock]
 ·intro e;simp only[Value.ownBlock,Option.some.injEq] at e;subst e;rw[h1] at hg;cases hg
theorem zgH{W W':World}{B t k n bm:Nat}{v:Value}{cs:List Value}(h:W.ownsRow B t k v n cs)(hg:W.grownBy W' (some bm))(hne:v.ownBlock≠some bm):W'.ownsRow B t k v n cs:=by
 obtain⟨h1,h2⟩:=h;refine⟨h1,?_⟩;rcases h2 with h2|⟨g,j,o,rfl,hB,hh,r⟩
 ·exact Or.inl h2
 ·exact Or.inr ⟨g,j,o,rfl,hB,(hg.block g (Array.getElem?_eq_some_iff.1 hh).1 (fun e=>hne e)).trans hh,r⟩
theorem GS.put{w W:World}{bm:Nat}{itV:Value}{its nms:List It}(h:GS w W bm itV its nms)(hl:nms.length<1000000){x:It}(hs:x.name.size<=100000) :
  ∃W',(Instr.mapUpdate 221 (.map (some bm)) (.string x.name) (.agg #[])).run Tryz.prog W=.ok () W'/\GS w W' bm itV its (nms++[x])/\(∀b t cs,Blk W b t cs->Blk W' b t cs):=by
 obtain⟨W',j,h1,h2⟩:=h.nm.put hl hs;refine⟨W',j,⟨zgH h.row h2 (zdx h.row h.nm),h1,h.bmB,h.B.grown h2 h.B.size (fun k hk=>by cases hk;exact h.bmB)⟩,fun b t cs hb=>?_⟩;refine hb.kept h2 (fun e=>?_);obtain⟨D,⟨es,o,h3,_⟩,_⟩:=h.nm;cases e;rw[show W.heap[bm]?=_ from hb] at h3;cases h3
theorem GS.app{w W W':World}{bm:Nat}{itV v':Value}{its nms:List It}{x:It}(h:GS w W bm itV its nms)(hown:W'.ownsRow w.heap.size 115 4 v' (its.length+1) (zl its++zX x))(hg:W.grownBy W' itV.ownBlock):GS w W' bm v' (its++[x]) nms:=by
 refine⟨?_,h.nm.block (hg.block bm h.nm.lt (fun e=>zdx h.row h.nm e.symm)),h.bmB,h.B.grown hg h.B.size (fun k hk=>(h.row.lt k hk).1)⟩;rw[Jk,List.length_append];simpa[zl] using hown
theorem Kr(w:World)(A B C D:Value)(t:TypeId):∀(j:Nat) (u:Value),[A,B,C,D][j]?=some u->(w.alloc (.cells #[A,B,C,D] t)).cell? (Addr.add w.heap.size j)=some u:=by
 intro j u h
 match j,h with
 |0,h=>simp at h;subst h;simp[Addr.add]
 |1,h=>simp at h;subst h;simp[Addr.add]
 |2,h=>simp at h;subst h;simp[Addr.add]
 |3,h=>simp at h;subst h;simp[Addr.add]
 |j+4,h=>simp at h
def zk6(w:World)(r:Except (Int × Nat) (List It))(e:Ending)(w':World):Prop :=
 match r with
 |.ok its=>∃v,e=.returned (.tuple #[v,.nilIface])/\w'.ownsRow w.heap.size 115 4 v its.length (zl its)/\zB w w'
 |.error (k,i)=>∃N,e=.returned (.tuple #[.slice none 0 0,.iface 100 (.pointer (some ⟨N,0,none⟩))])/\Blk w' N 102 #[k,i]/\zB w w'
theorem zcE{ls:List Ln}{i:Nat}(hi:i<ls.length)(its:List It):qg (ls.drop i) i its=(if qJ (ls.getD i default) ≠ 0 then .error (qJ (ls.getD i default),i)
  else if (ls.getD i default).kind=1 then
   if (ls.getD i default).it∈its then .error (9,i)
   else if 8<qY (its++[(ls.getD i default).it])\/its.length=24 then .error (4,i)
   else qg (ls.drop (i+1)) (i+1) (its++[(ls.getD i default).it])
  else qg (ls.drop (i + 1)) (i + 1) its):=by
 rw[zfn (d:=default) hi,qg]
theorem zao{x:Ln}(h:qJ x=0):x.name.size<=12:=by
 unfold qJ at h;split at h
 ·cases h
 ·split at h
  ·cases h
  ·rename_i h2
   by_cases hn:zr x.name
   ·exact hn.len
   ·exact absurd (Or.inl hn) h2
end
section
open Go.RowKit Go.Deep Go.Maps Sv
theorem zdO(ls:List Ln)(lv:Value)(w:World)(h:ZX w lv ls)(hl:ls.length<=100000) :
  zC 79 #[lv] w (zk6 w (qg ls 0 [])):=by
 obtain⟨R,hR⟩:∃R,qg ls 0 []=R:=⟨_,rfl⟩;rw[hR];have HR:=zH hR;have HL:=zH h;clear hR;obtain⟨la,lc,rfl,-⟩:∃la lc,lv=.slice la ls.length lc/\True:=by obtain⟨vs,_,h2⟩:=h;obtain⟨a,c,e,_⟩:=h2.form;exact⟨a,c,e,trivial⟩
 clear h;have ay:GS w (w.alloc (.map #[] 0)) w.heap.size (.slice none 0 0) [] []:=⟨World.ownsRow_nil _ _ _ _,xi.made w,Nat.le_refl _,(Below.refl _ w).alloc zN _⟩;have ar:=zH ay;clear ay;obtain⟨i0,ae,ag,ah,ad⟩:=info_parts zfc;have aC:=@run_makeMap Tryz.prog;go_enter Tryz.func79,Tryz.ntmps79;go_wp2_with fail;clear aC;go_loopw [4,13] (fun itV iV wr=>∃(i:Nat) (its:List It),i<=ls.length/\iV=.int .i64 i/\its.length<=i/\qg (ls.drop i) i its=R/\GS w wr w.heap.size itV its its) (fun _ iV _=>ls.length-(intOf iV).toNat)
 case atStart=>exact⟨0,[],Nat.zero_le _,rfl,Nat.le_refl _,by rw[List.drop_zero];exact HR.out,ar.out⟩
 case round =>
  obtain⟨i,its,hi,rfl,aE,a9,a5⟩:=hrel;clear HR ar;obtain⟨ai,aj,rfl,-⟩:=(zD a5.row).form
  by_cases hlt:i<ls.length
  ·obtain⟨g,aB,rv,e,hg,ap,aD,c0,c1,c2,c3,c4,c5,c6⟩:=(HL.out.below a5.B zN).at i hlt;simp at e;obtain⟨rfl,rfl⟩:=e;rw[zcE hlt] at a9;have C:=zH a9;clear a9 aD;generalize ls.getD i default=x at *;have ax:=zH ap;obtain⟨Z,a0,rfl⟩:=ap.form;clear ap;have kx:=Blk.new wr 97 #[x.kind,x.name,x.a,x.b,x.c,x.other,.slice Z x.rng.length a0];have ao:zB wr (wr.alloc (.cells #[x.kind,x.name,x.a,x.b,x.c,x.other,.slice Z x.rng.length a0] 97)):=zF.alloc zN _;have au:Hid (GS w (wr.alloc (.cells #[x.kind,x.name,x.a,x.b,x.c,x.other,.slice Z x.rng.length a0] 97)) w.heap.size (.slice ai its.length aj) its its):=a5.step ao;have a6:=zH (zmn x (.slice Z x.rng.length a0) (wr.alloc (.cells #[x.kind,x.name,x.a,x.b,x.c,x.other,.slice Z x.rng.length a0] 97)) (ax.out.below ao zN));have ak:Hid (qJ x=0->x.name.size<=12):=zao;clear a5 ao ax;go_upto_region 6 with fail;clear c0 c1 c2 c3 c4 c5 c6;generalize wr.alloc (.cells #[x.kind,x.name,x.a,x.b,x.c,x.other,.slice Z x.rng.length a0] 97)=W1 at *;generalize wr.heap.size=bx at *;have d0:_=some (Value.int .i64 x.kind):=kx.cell 0;have d1:_=some (Value.string x.name):=kx.cell 1;have d2:_=some (Value.int .i64 x.a):=kx.cell 2;have d3:_=some (Value.int .i64 x.b):=kx.cell 3;have d4:_=some (Value.int .i64 x.c):=kx.cell 4;have d5:_=some (Value.string x.other):=kx.cell 5;have d6:_=some (Value.slice Z x.rng.length a0):=kx.cell 6;go_wp2_with fail;clear d0 d1 d2 d3 d4 d5 d6;refine a6.out.mono ?_;rintro e w2 ⟨rfl,am⟩;have U:=kx.below am kx.lt;have a7:=zH (au.out.step am);clear a6 am kx au
   by_cases hz:qJ x=0
   ·have aG:=ak.out hz;rw[hz] at C ⊢;rw[zA1 (by simp)] at C;clear hz ak
    by_cases hk:x.kind=1
    ·rw[zA2 hk] at C;have d0:_=some (Value.int .i64 x.kind):=U.cell 0;have d1:_=some (Value.string x.name):=U.cell 1;have d2:_=some (Value.int .i64 x.a):=U.cell 2;have d3:_=some (Value.int .i64 x.b):=U.cell 3;have d4:_=some (Value.int .i64 x.c):=U.cell 4;have d5:_=some (Value.string x.other):=U.cell 5;have d6:_=some (Value.slice Z x.rng.length a0):=U.cell 6;rw[hk] at d0;have ki:=Blk.new w2 115 #[x.name,x.a,x.b,x.c];have an:zB w2 (w2.alloc (.cells #[x.name,x.a,x.b,x.c] 115)):=zF.alloc zN _;have av:=zH (a7.out.step an);have aq:=U.below an U.lt;clear an a7 U;go_upto_region 9 with fail;clear d0 d1 d2 d3 d4 d5 d6;generalize w2.alloc (.cells #[x.name,x.a,x.b,x.c] 115)=W3 at *;generalize w2.heap.size=bi at *;obtain⟨w4,ac,ab,X⟩:=av.out.put (by omega) (x:=x.it) (show x.name.size<=100000 by omega);have hrun':(Instr.mapUpdate 221 (.map (some w.heap.size)) (.string x.name) (.agg #[])).run Tryz.prog W3=.ok () w4:=ac;have M:=X _ _ _ ki;have aA:=X _ _ _ aq;have a8:=zH ab;clear ac ab X av;have d1:_=some (Value.string x.name):=aq.cell 1;go_upto_region 10 with fail;clear d1 hrun' ki aq;have af:=zlb its x.it (.slice ai its.length aj) w4 (zD a8.out.row) (by omega)
     by_cases hm:x.it∈its
     ·rw[zA2 hm] at C;have V:Hid (zR 120 #[.slice ai its.length aj,.agg #[x.name,x.a,x.b,x.c]] w4 (.bool true)):=by have h:=af;rw[decide_eq_true hm] at h;exact h
      clear hm af;have e0:_=some (Value.string x.name):=M.cell 0;have e1:_=some (Value.int .i64 x.a):=M.cell 1;have e2:_=some (Value.int .i64 x.b):=M.cell 2;have e3:_=some (Value.int .i64 x.c):=M.cell 3;go_wp2_with fail;clear e0 e1 e2 e3;refine V.out.mono ?_;rintro e w5 ⟨rfl,a3⟩;have J:=M.below a3 M.lt;have K:=zH (a8.out.step a3);clear V a3 M a8 aA;have f0:_=some (Value.string x.name):=J.cell 0;have f1:_=some (Value.int .i64 x.a):=J.cell 1;have f2:_=some (Value.int .i64 x.b):=J.cell 2;have f3:_=some (Value.int .i64 x.c):=J.cell 3;have q:=zH K.out.row;have p:=zH (K.out.step ((Below.refl _ w5).alloc zN (.cells #[x.name,x.a,x.b,x.c] 115)));have a4:=K.out.B.size;go_wp2_with (at_builtin;refine wpList_append_own_at _ rfl _ _ 111 rfl w.heap.size 115 i0 (.agg #[.string ⟨#[]⟩,(0:Int),(0:Int),(0:Int)]) 4 40 Tryz.underlying111 ae ag ah ad rfl (by decide) _ _ _ rfl (q.out.alloc _) w5.heap.size 1 1 [.string x.name,.int .i64 x.a,.int .i64 x.b,.int .i64 x.c] rfl rfl ?c1a ?c2a ?c3a ?c4a ?c5a ?_)
      case c1a=>exact Kr _ _ _ _ _ _
      case c2a=>intro u hu;simp at hu;rcases hu with rfl|rfl|rfl|rfl<;>rfl
      case c3a=>unfold maxLen;omega
      case c4a=>omega
      case c5a=>simp;omega
      intro v7 w7 o j _ y;have Y:Hid (GS w w7 w.heap.size v7 (its++[x.it]) (its++[x.it])):=p.out.app o j;clear o j y p q f0 f1 f2 f3 a4;have a1:Hid (zB w (w7.alloc (.cells #[(9:Int),i] 102))):=zL Y.out.B;have a2:Hid (Blk (w7.alloc (.cells #[(9:Int),i] 102)) w7.heap.size 102 #[(9:Int),i]):=Blk.new _ _ _;clear Y;go_wp2;go_ret2;rw[<-C.out];exact⟨_,rfl,a2.out,a1.out⟩
     ·rw[zA1 hm] at C;have V:Hid (zR 120 #[.slice ai its.length aj,.agg #[x.name,x.a,x.b,x.c]] w4 (.bool false)):=by have h:=af;rw[decide_eq_false hm] at h;exact h
      clear hm af;have e0:_=some (Value.string x.name):=M.cell 0;have e1:_=some (Value.int .i64 x.a):=M.cell 1;have e2:_=some (Value.int .i64 x.b):=M.cell 2;have e3:_=some (Value.int .i64 x.c):=M.cell 3;go_wp2_with fail;clear e0 e1 e2 e3;refine V.out.mono ?_;rintro e w5 ⟨rfl,a3⟩;have J:=M.below a3 M.lt;have K:=zH (a8.out.step a3);clear V a3 M a8 aA;have az:=fun ty=>K.out.nm.len ty;generalize hN:qY (its++[x.it])=N at *;clear hN
      by_cases h8:8<N
      ·rw[zA2 (Or.inl h8)] at C;have h8':(8:Int)<(N:Int):=by omega
       have f0:_=some (Value.string x.name):=J.cell 0;have f1:_=some (Value.int .i64 x.a):=J.cell 1;have f2:_=some (Value.int .i64 x.b):=J.cell 2;have f3:_=some (Value.int .i64 x.c):=J.cell 3;have q:=zH K.out.row;have p:=zH (K.out.step ((Below.refl _ w5).alloc zN (.cells #[x.name,x.a,x.b,x.c] 115)));have a4:=K.out.B.size;go_wp2_with (at_builtin;refine wpList_append_own_at _ rfl _ _ 111 rfl w.heap.size 115 i0 (.agg #[.string ⟨#[]⟩,(0:Int),(0:Int),(0:Int)]) 4 40 Tryz.underlying111 ae ag ah ad rfl (by decide) _ _ _ rfl (q.out.alloc _) w5.heap.size 1 1 [.string x.name,.int .i64 x.a,.int .i64 x.b,.int .i64 x.c] rfl rfl ?c1b ?c2b ?c3b ?c4b ?c5b ?_)
       case c1b=>exact Kr _ _ _ _ _ _
       case c2b=>intro u hu;simp at hu;rcases hu with rfl|rfl|rfl|rfl<;>rfl
       case c3b=>unfold maxLen;omega
       case c4b=>omega
       case c5b=>simp;omega
       intro v7 w7 o j _ y;have Y:Hid (GS w w7 w.heap.size v7 (its++[x.it]) (its++[x.it])):=p.out.app o j;clear o j y p q f0 f1 f2 f3 a4;have a1:Hid (zB w (w7.alloc (.cells #[(4:Int),i] 102))):=zL Y.out.B;have a2:Hid (Blk (w7.alloc (.cells #[(4:Int),i] 102)) w7.heap.size 102 #[(4:Int),i]):=Blk.new _ _ _;clear Y;go_wp2;go_ret2;rw[<-C.out];exact⟨_,rfl,a2.out,a1.out⟩
      ·have h8':¬(8:Int)<(N:Int):=by omega
       by_cases h24:its.length=24
       ·rw[zA2 (Or.inr h24)] at C;have hq:((its.length:Int)==24)=true:=by rw[h24];rfl
        clear h24;have f0:_=some (Value.string x.name):=J.cell 0;have f1:_=some (Value.int .i64 x.a):=J.cell 1;have f2:_=some (Value.int .i64 x.b):=J.cell 2;have f3:_=some (Value.int .i64 x.c):=J.cell 3;have q:=zH K.out.row;have p:=zH (K.out.step ((Below.refl _ w5).alloc zN (.cells #[x.name,x.a,x.b,x.c] 115)));have a4:=K.out.B.size;go_wp2_with (at_builtin;refine wpList_append_own_at _ rfl _ _ 111 rfl w.heap.size 115 i0 (.agg #[.string ⟨#[]⟩,(0:Int),(0:Int),(0:Int)]) 4 40 Tryz.underlying111 ae ag ah ad rfl (by decide) _ _ _ rfl (q.out.alloc _) w5.heap.size 1 1 [.string x.name,.int .i64 x.a,.int .i64 x.b,.int .i64 x.c] rfl rfl ?c1c ?c2c ?c3c ?c4c ?c5c ?_)
        case c1c=>exact Kr _ _ _ _ _ _
        case c2c=>intro u hu;simp at hu;rcases hu with rfl|rfl|rfl|rfl<;>rfl
        case c3c=>unfold maxLen;omega
        case c4c=>omega
        case c5c=>simp;omega
        intro v7 w7 o j _ y;have Y:Hid (GS w w7 w.heap.size v7 (its++[x.it]) (its++[x.it])):=p.out.app o j;clear o j y p q f0 f1 f2 f3 a4;have a1:Hid (zB w (w7.alloc (.cells #[(4:Int),i] 102))):=zL Y.out.B;have a2:Hid (Blk (w7.alloc (.cells #[(4:Int),i] 102)) w7.heap.size 102 #[(4:Int),i]):=Blk.new _ _ _;clear Y;go_wp2;go_ret2;rw[<-C.out];exact⟨_,rfl,a2.out,a1.out⟩
       ·rw[zA1 (fun h=>h.elim h8 h24)] at C;have hq:((its.length:Int)==24)=false:=by rw[beq_eq_false_iff_ne];omega
        clear h24;have f0:_=some (Value.string x.name):=J.cell 0;have f1:_=some (Value.int .i64 x.a):=J.cell 1;have f2:_=some (Value.int .i64 x.b):=J.cell 2;have f3:_=some (Value.int .i64 x.c):=J.cell 3;have q:=zH K.out.row;have p:=zH (K.out.step ((Below.refl _ w5).alloc zN (.cells #[x.name,x.a,x.b,x.c] 115)));have a4:=K.out.B.size;go_wp2_with (at_builtin;refine wpList_append_own_at _ rfl _ _ 111 rfl w.heap.size 115 i0 (.agg #[.string ⟨#[]⟩,(0:Int),(0:Int),(0:Int)]) 4 40 Tryz.underlying111 ae ag ah ad rfl (by decide) _ _ _ rfl (q.out.alloc _) w5.heap.size 1 1 [.string x.name,.int .i64 x.a,.int .i64 x.b,.int .i64 x.c] rfl rfl ?c1d ?c2d ?c3d ?c4d ?c5d ?_)
        case c1d=>exact Kr _ _ _ _ _ _
        case c2d=>intro u hu;simp at hu;rcases hu with rfl|rfl|rfl|rfl<;>rfl
        case c3d=>unfold maxLen;omega
        case c4d=>omega
        case c5d=>simp;omega
        intro v7 w7 o j _ y;have Y:Hid (GS w w7 w.heap.size v7 (its++[x.it]) (its++[x.it])):=p.out.app o j;clear o j y p q f0 f1 f2 f3 a4;go_wp2;go_roundw
        case rel=>exact⟨i+1,its++[x.it],by omega,by go_num,by simp;omega,C.out,Y.out⟩
        case measure=>simp[intOf];omega
    ·rw[zA1 hk] at C;have aF:(x.kind==1)=false:=by simpa using hk
     have d0:_=some (Value.int .i64 x.kind):=U.cell 0;clear U hk;go_wp2;go_roundw
     case rel=>exact⟨i+1,its,by omega,by go_num,by omega,C.out,a7.out⟩
     case measure=>simp[intOf];omega
   ·have ad:(qJ x==0)=false:=by simpa using hz
    rw[zA2 hz] at C;generalize qJ x=E at *;have a1:Hid (zB w (w2.alloc (.cells #[E,i] 102))):=zL a7.out.B;have a2:Hid (Blk (w2.alloc (.cells #[E,i] 102)) w2.heap.size 102 #[E,i]):=Blk.new _ _ _;clear a7 U hz ak;go_wp2;go_ret2;rw[<-C.out];exact⟨_,rfl,a2.out,a1.out⟩
  ·obtain rfl:i=ls.length:=by omega
   have aa:R=.ok its:=by rw[<-a9,List.drop_length,qg]
   have C:=zH aa;have aw:=zH a5;clear a9 aa a5;go_wp2;go_ret2;rw[C.out];exact⟨_,rfl,aw.out.row,aw.out.B⟩
end
section
open Go.Shelf Go.Lib Go.Sort Sv
theorem zjb{α:Type}{c:α->α->Int}(anti:∀x y,c y x=-c x y)(eq0:∀x y,c x y=0->x=y)(tr:∀x y z,c x y<0->c y z<0->c x z<0):SWO (ltOf c) where
 irrefl x:=by have:=anti x x;unfold ltOf;simp;omega
 trans x y z h1 h2:=by unfold ltOf at *;simp at *;exact tr x y z h1 h2
 ntrans x y z h1 h2:=by
  unfold ltOf at *;simp at *
  by_cases h:c x z<0
  ·exfalso
   by_cases e:c x y=0
   ·have:=eq0 x y e;subst this;omega
   ·have h3:c y x<0:=by rw[anti];omega
    have:=tr y x z h3 h;omega
  ·omega
theorem zmE{α:Type}{c:α->α->Int}(anti:∀x y,c y x=-c x y)(eq0:∀x y,c x y=0->x=y):∀x y,ltOf c x y=false->ltOf c y x=false->x=y:=by
 intro x y h1 h2;unfold ltOf at *;simp at *;have:=anti x y;exact eq0 x y (by omega)
theorem YW:∀a b:List UInt8,compareBytes b a=-compareBytes a b
 |[],[]=>rfl
 |[],_ :: _=>rfl
 |_ :: _,[]=>rfl
 |x :: a,y :: b=>by
  rw[compareBytes,compareBytes]
  by_cases h:x<y
  ·have h':¬y<x:=fun h2=>absurd (UInt8.lt_trans h h2) (UInt8.lt_irrefl _);rw[zA2 h,zA1 h',zA2 h];rfl
  ·by_cases h':y<x
   ·rw[zA2 h',zA1 h,zA2 h']
   ·rw[zA1 h,zA1 h',zA1 h',zA1 h];exact YW a b
theorem Ky{x y:UInt8}(h:¬x<y)(h':¬y<x):x=y:=UInt8.le_antisymm (UInt8.not_lt.1 h') (UInt8.not_lt.1 h)
theorem zaC:∀a b:List UInt8,compareBytes a b=0->a=b
 |[],[],_=>rfl
 |[],_ :: _,h=>by cases h
 |_ :: _,[],h=>by cases h
 |x :: a,y :: b,h=>by
  rw[compareBytes] at h
  by_cases h1:x<y
  ·rw[zA2 h1] at h;cases h
  ·by_cases h2:y<x
   ·rw[zA1 h1,zA2 h2] at h;cases h
   ·rw[zA1 h1,zA1 h2] at h;rw[Ky h1 h2,zaC a b h]
theorem zfX:∀a b c:List UInt8,compareBytes a b<0->compareBytes b c<0->compareBytes a c<0
 |[],_,[],h1,h2=>by
  rename_i b;cases b with
  |nil=>exact h1
  |cons y b=>exact absurd (show (1:Int)<0 from h2) (by decide)
 |[],_,_ :: _,_,_=>show (-1:Int)<0 by decide
 |_ :: _,[],_,h1,_=>absurd (show (1:Int)<0 from h1) (by decide)
 |_ :: _,_ :: _,[],_,h2=>absurd (show (1:Int)<0 from h2) (by decide)
 |x :: a,y :: b,z :: c,h1,h2=>by
  rw[compareBytes] at h1 h2 ⊢
  by_cases xy:x<y
  ·by_cases yz:y<z
   ·rw[zA2 (UInt8.lt_trans xy yz)];decide
   ·by_cases zy:z<y
    ·rw[zA1 yz,zA2 zy] at h2;exact absurd h2 (by decide)
    ·rw[<-Ky yz zy,zA2 xy];decide
  ·by_cases yx:y<x
   ·rw[zA1 xy,zA2 yx] at h1;exact absurd h1 (by decide)
   ·rw[zA1 xy,zA1 yx] at h1;have e:=Ky xy yx;subst e
    by_cases yz:x<z
    ·rw[zA2 yz];decide
    ·by_cases zy:z<x
     ·rw[zA1 yz,zA2 zy] at h2;exact absurd h2 (by decide)
     ·rw[zA1 yz,zA1 zy] at h2 ⊢;exact zfX a b c h1 h2
theorem JC(a b c d e f:Int):q8 (tI a b c) (tI d e f) 3=if a<d then -1 else if d<a then 1 else if b<e then -1 else if e<b then 1 else if c<f then -1 else if f<c then 1 else 0:=by
 show (if qP a d≠0 then qP a d else if qP b e≠0 then qP b e else if qP c f≠0 then qP c f else 0)=_;unfold qP
 by_cases h1:a<d
 ·simp[h1]
 ·by_cases h2:d<a
  ·simp[h1,h2]
  ·by_cases h3:b<e
   ·simp[h1,h2,h3]
   ·by_cases h4:e<b
    ·simp[h1,h2,h3,h4]
    ·by_cases h5:c<f
     ·simp[h1,h2,h3,h4,h5]
     ·by_cases h6:f<c<;>simp[h1,h2,h3,h4,h5,h6]
theorem zbN(a b c d e f:Int):q8 (tI a b c) (tI d e f) 3<0↔(a<d\/(a=d/\(b<e\/(b=e/\c<f)))):=by
 rw[JC]
 repeat' split
 all_goals omega
theorem zls(a b c d e f:Int):q8 (tI a b c) (tI d e f) 3=0↔(a=d/\b=e/\c=f):=by
 rw[JC]
 repeat' split
 all_goals omega
theorem zgR(a b c d e f:Int):q8 (tI d e f) (tI a b c) 3=-q8 (tI a b c) (tI d e f) 3:=by
 rw[JC,JC]
 by_cases h1:a<d
 ·have:¬d<a:=by omega
  simp[h1,this]
 ·by_cases h2:d<a
  ·simp[h1,h2]
  ·by_cases h3:b<e
   ·have:¬e<b:=by omega
    simp[h1,h2,h3,this]
   ·by_cases h4:e<b
    ·simp[h1,h2,h3,h4]
    ·by_cases h5:c<f
     ·have:¬f<c:=by omega
      simp[h1,h2,h3,h4,h5,this]
     ·by_cases h6:f<c<;>simp[h1,h2,h3,h4,h5,h6]
theorem K6{x y:It}:x.name.toList=y.name.toList↔x.name.data.toList=y.name.data.toList:=by rw[ByteArray.toList_eq,ByteArray.toList_eq]
theorem Yb(x y:It):qb y x=-qb x y:=by
 unfold qb
 by_cases h:x.name.toList=y.name.toList
 ·rw[zA2 h,zA2 h.symm];exact zgR _ _ _ _ _ _
 ·rw[zA1 h,zA1 (fun e=>h e.symm)];exact YW _ _
theorem XS(x y:It)(h:qb x y=0):x=y:=by
 unfold qb at h
 by_cases e:x.name.toList=y.name.toList
 ·rw[zA2 e,zls] at h;obtain⟨n,a,b,c⟩:=x;obtain⟨n',a',b',c'⟩:=y;obtain rfl:n=n':=Zb e;obtain⟨h1,h2,h3⟩:=h;simp only at h1 h2 h3;subst h1 h2 h3;rfl
 ·rw[zA1 e] at h;exact absurd (K6.2 (zaC _ _ h)) e
theorem JP(x y z:It)(h1:qb x y<0)(h2:qb y z<0):qb x z<0:=by
 unfold qb at *
 by_cases e1:x.name.toList=y.name.toList
 ·by_cases e2:y.name.toList=z.name.toList
  ·rw[zA2 e1,zbN] at h1;rw[zA2 e2,zbN] at h2;rw[zA2 (e1.trans e2),zbN];omega
  ·rw[zA1 e2] at h2;rw[zA1 (fun e=>e2 (e1.symm.trans e)),K6.1 e1];exact h2
 ·by_cases e2:y.name.toList=z.name.toList
  ·rw[zA1 e1] at h1;rw[zA1 (fun e=>e1 (e.trans e2.symm)),<-K6.1 e2];exact h1
  ·rw[zA1 e1] at h1;rw[zA1 e2] at h2
   by_cases e3:x.name.toList=z.name.toList
   ·exfalso;rw[<-K6.1 e3,YW] at h2;omega
   ·rw[zA1 e3];exact zfX _ _ _ h1 h2
theorem zmm:SWO (ltOf qb):=zjb Yb XS JP
theorem zlW:∀x y,ltOf qb x y=false->ltOf qb y x=false->x=y:=zmE Yb XS
theorem Yo(l:List It):(qX l).Perm l:=List.mergeSort_perm _ _
theorem zaG(l:List It):(qX l).length=l.length:=(Yo l).length_eq
end
section
open Go.RowKit Go.Shelf Go.Lib Go.Sort Sv
theorem zlg(x y:It)(W:World) :
  zC 122 #[.agg #[x.name,x.a,x.b,x.c],.agg #[y.name,y.a,y.b,y.c]] W fun e w'=>e=.returned (.int .i64 (qb x y))/\Gr W w':=by
 have hg:Gr W ((W.alloc (.cells #[x.name,x.a,x.b,x.c] 115)).alloc (.cells #[y.name,y.a,y.b,y.c] 115)):=((Gr.refl W).alloc _).alloc _;have HG:=zH hg;clear hg;have HV:Hid (∀W',zC 123 #[.agg #[y.a,y.b,y.c],.agg #[x.a,x.b,x.c]] W' fun r w'=>r=.returned (.int .i64 (q8 (tI y.a y.b y.c) (tI x.a x.b x.c) 3))/\Gr W' w'):=fun W'=>zpA y.a y.b y.c x.a x.b x.c W';have HN:Hid (∀W',zC 124 #[x.name,y.name] W' fun r w'=>r=.returned (.int .i64 (compareBytes x.name.data.toList y.name.data.toList))/\w'=W'):=fun W'=>Tryz.strings_Compare x.name y.name W'
 by_cases h:x.name.toList=y.name.toList
 ·have HC:Hid (qb x y=q8 (tI y.a y.b y.c) (tI x.a x.b x.c) 3):=by show _=_;unfold qb;rw[zA2 h]
  have hb:(x.name.toList==y.name.toList)=true:=by rw[h];exact beq_self_eq_true _
  clear h HN;generalize q8 (tI y.a y.b y.c) (tI x.a x.b x.c) 3=Z at *;go_enter Tryz.func122,Tryz.ntmps122;go_wp2_with fail;refine(HV.out _).mono ?_;rintro e w1 ⟨rfl,j⟩;have o:Hid (Gr W w1):=HG.out.trans j;clear j HG HV;go_wp2;go_ret;exact⟨by rw[HC.out];rfl,o.out⟩
 ·have HC:Hid (qb x y=compareBytes x.name.data.toList y.name.data.toList):=by show _=_;unfold qb;rw[zA1 h]
  have hb:(x.name.toList==y.name.toList)=false:=by rw[beq_eq_false_iff_ne];exact h
  clear h HV;generalize compareBytes x.name.data.toList y.name.data.toList=Z at *;go_enter Tryz.func122,Tryz.ntmps122;go_wp2_with fail;refine(HN.out _).mono ?_;rintro e w1 ⟨rfl,rfl⟩;clear HN;go_wp2;go_ret;exact⟨by rw[HC.out];rfl,HG.out⟩
theorem zia(blk off size:Nat)(w:World):CmpLays Tryz.prog 122 #[] zX 4 qb blk off size w :=
 fun _ _ _ _ x y=>zlg x y _
theorem zcm(l:List It):flatK zX 4 l.toArray=(zl l).toArray:=by
 apply Array.ext_getElem?;intro t
 by_cases ht:t<l.length*4
 ·have h1:t<(flatK zX 4 l.toArray).size:=by rw[size_flatK];simpa using ht
  have hj:t/4<l.length:=by omega
  have h2:(zl l)[t]?=some ((zX (l.getD (t/4) default))[t%4]!):=by
   have j:t%4<(zX (l.getD (t/4) default)).length:=by simp[zX];omega
   have:=Yv l (t/4) hj (t%4) _ (List.getElem?_eq_getElem j);rw[show t/4*4+t%4=t by omega] at this;rw[this,getElem!_pos (zX (l.getD (t/4) default)) (t%4) j]
  have e1:(flatK zX 4 l.toArray)[t]?=some ((flatK zX 4 l.toArray)[t]!):=by rw[Array.getElem?_eq_getElem h1,getElem!_pos (flatK zX 4 l.toArray) t h1]
  have e2:(zl l).toArray[t]?=(zl l)[t]?:=by simp
  have e3:l.toArray[t/4]! = l.getD (t/4) default:=by
   rw[getElem!_pos l.toArray (t/4) (by simpa using hj),List.getD_eq_getElem?_getD,List.getElem?_eq_getElem hj];rfl
  rw[e1,get_flatK zX 4 _ t (by simpa using ht),e2,h2,e3]
 ·rw[Array.getElem?_eq_none (by rw[size_flatK];simpa using ht),Array.getElem?_eq_none (by simp[xF];omega)]
theorem znf(l:List It)(v:Value)(B:Nat)(w:World)(h:w.ownsRow B 115 4 v l.length (zl l))(hl:l.length<=100000) :
  zC 80 #[v] w fun e w'=>e=.returned (.tuple #[])/\w'.ownsRow B 115 4 v l.length (zl (qX l))/\Below B w w':=by
 have H:Hid (zC 121 #[v,.func (.func 122) #[] #[]] w fun e w'=>e=.returned (.tuple #[])/\w'.ownsRow B 115 4 v l.length (zl (qX l))/\Below B w w'):=by
  rcases h.2 with ⟨rfl,e0⟩|⟨g,y,C,rfl,hB,hg,hn,hm,R,q⟩
  ·obtain rfl:l=[]:=List.eq_nil_of_length_eq_zero e0;refine(AnyF.slices_SortFunc_none Tryz.sortItem none 0 _ w).mono fun e w' ⟨he,hw⟩=>⟨he,?_,by rw[hw];exact Below.refl _ _⟩;rw[hw,show qX []=[] by unfold qX;simp];exact h
  ·have eg:∀p w,(callFunc 122 p).run Tryz.prog w=.ok (.enter 122 p) w:=enters_of Tryz.func122 (by kernel_rfl) rfl;have M:g<w.heap.size:=(Array.getElem?_eq_some_iff.1 hg).1;have hH:HoldsK zX 4 w g 0 l.toArray:=by
    intro j hj;rw[size_flatK] at hj;have hj':j<l.length*4:=by simpa using hj
    rw[zcm];have K:j<(zl l).length:=by rw[xF];exact hj'
    rw[getElem!_pos _ j (by simpa using K)];constructor
    ·rw[Nat.zero_add];have hc:C[j]?=(zl l)[j]?:=by
      rw[<-q,List.getElem?_take,zA2 hj',Array.getElem?_toList]
     show w.cell? _=some (zl l)[j];simp[World.cell?,hg,hc,List.getElem?_eq_getElem K]
    ·simp[World.frozen?,hg]
   refine(AnyQ.slices_SortFunc_total Tryz.sortItem 4 Tryz.isAgg115 Tryz.sizeOf115 zX (fun _=>rfl) (fun x u hu=>zfA [x] u (by simpa[zl] using hu)) qb zmm 122 #[] g 0 y l.toArray w eg (zia g 0 _ w) hH M (by simp;omega) zlW).mono fun e w' ⟨he,n,os,hw⟩=>⟨he,?_⟩;have U:w'=grow (putRow id (Sort.ahead w n) g 0 ((zl (qX l)).toArray)) os:=by
    rw[hw,<-zcm];rfl
   have J:w'.heap[g]?=some (.cells (putCells id 0 (zl (qX l)).toArray C) 115 (0,0)):=by
    rw[U];show ((putRow id (Sort.ahead w n) g 0 ((zl (qX l)).toArray)).heap++os)[g]?=_;rw[Array.getElem?_append_left (by simp[putRow,mapBlock,Sort.ahead];exact M)];simp[putRow,mapBlock,Sort.ahead,Array.getElem?_modify,hg,onCells]
   refine⟨⟨by rw[xF,zaG],Or.inr ⟨g,y,_,rfl,hB,J,hn,hm,by simp[putCells,R],?_⟩⟩,?_⟩
   ·apply List.ext_getElem?;intro t;rw[List.getElem?_take];have o:(zl (qX l)).length=l.length*4:=by rw[xF,zaG]
    by_cases ht:t<l.length*4
    ·have X:t<C.size:=by rw[R];omega
     rw[zA2 ht,Array.getElem?_toList];simp only[putCells,Array.getElem?_mapIdx,Array.getElem?_eq_getElem X,Option.map_some];rw[zA2 ⟨Nat.zero_le _,by simp[o];exact ht⟩,Nat.sub_zero,getElem!_pos _ t (by simp[o];exact ht),List.getElem?_eq_getElem (by rw[o];exact ht)];rfl
    ·rw[zA1 ht,List.getElem?_eq_none (by rw[o];omega)]
   ·rw[U];refine⟨rfl,rfl,rfl,by simp[grow,putRow,mapBlock,Sort.ahead],fun k hk=>?_⟩;show ((putRow id (Sort.ahead w n) g 0 ((zl (qX l)).toArray)).heap++os)[k]?=_;have V:(putRow id (Sort.ahead w n) g 0 ((zl (qX l)).toArray)).heap[k]?=w.heap[k]?:=by
     simp only[putRow,mapBlock,Sort.ahead,Array.getElem?_modify];rw[zA1 (by omega)]
    rcases Nat.lt_or_ge k w.heap.size with hkl|hkl
    ·rw[Array.getElem?_append_left (by simp[putRow,mapBlock,Sort.ahead];exact hkl),V]
    ·exfalso;omega
 obtain⟨a,y,rfl,-⟩:=(zD h).form;clear h;go_enter Tryz.func80,Tryz.ntmps80;go_wp2_with fail;refine H.out.mono ?_;rintro e w1 ⟨rfl,h1,h2⟩;have H1:=zH h1;have H2:=zH h2;clear h1 h2 H;go_wp2;go_end0;exact⟨rfl,H1.out,H2.out⟩
end
section
open Go.RowKit Go.Deep Sv
def xY(w:World)(b:Nat)(ls:List Ln)(its:List It):Prop :=
 ∃lv iv bm,Blk w b 170 #[lv,iv,.map (some bm)]/\ZX w lv ls/\yd w iv its/\qM w bm (ye its) its.length
theorem xY.below{B:Nat}{w w':World}{b:Nat}{ls:List Ln}{its:List It}(h:xY w b ls its)(hb:Below B w w')(hB:w.heap.size<=B):xY w' b ls its:=by
 obtain⟨lv,iv,bm,h1,h2,h3,h4⟩:=h;exact⟨lv,iv,bm,h1.below hb (Nat.lt_of_lt_of_le h1.lt hB),h2.below hb hB,h3.below hb hB,h4.below hb hB⟩
theorem xY.lt{w:World}{b:Nat}{ls:List Ln}{its:List It}(h:xY w b ls its):b<w.heap.size:=by
 obtain⟨lv,iv,bm,h1,_⟩:=h;exact h1.lt
def yH(w:World)(b:Nat)(ls:List Ln)(vs:List Value)(its:List It)(B:Nat):Prop :=
 ∃lv iv bm,Blk w b 170 #[lv,iv,.map (some bm)]/\qO w ls vs/\yf w lv ls.length (qw ls vs)/\yd w iv its/\qM w bm (ye its) its.length/\B<=b/\B<=bm/\(∀g,lv.ownBlock=some g->B<=g)/\(∀g,iv.ownBlock=some g->B<=g)
theorem yH.cat{w:World}{b:Nat}{ls:List Ln}{vs:List Value}{its:List It}{B:Nat}(h:yH w b ls vs its B):xY w b ls its:=by
 obtain⟨lv,iv,bm,h1,h2,h3,h4,h5,-⟩:=h;exact⟨lv,iv,bm,h1,⟨vs,h2,h3⟩,h4,h5⟩
theorem yH.below{B':Nat}{w w':World}{b:Nat}{ls:List Ln}{vs:List Value}{its:List It}{B:Nat}(h:yH w b ls vs its B)(hb:Below B' w w')(hB:w.heap.size<=B'):yH w' b ls vs its B:=by
 obtain⟨lv,iv,bm,h1,h2,h3,h4,h5,h6⟩:=h;exact⟨lv,iv,bm,h1.below hb (Nat.lt_of_lt_of_le h1.lt hB),h2.below hb hB,h3.below hb hB,h4.below hb hB,h5.below hb hB,h6⟩
theorem yf.set{w:World}{v x:Value}{n b i:Nat}{cs:List Value}(h:yf w v n cs)(hn:∀g,v.ownBlock=some g->g≠b):yf (w.setCell ⟨b,i,none⟩ x) v n cs :=
 ⟨h.form,fun h0=>by
  obtain⟨g,o,e,hg,hc⟩:=h.cells h0;have p:=hn g (by rw[e];rfl);exact ⟨g,o,e,by simp [World.setCell];exact hg,fun j u hu=>by unfold World.cell?;rw [Below.heap_setCell _ _ _ g p];exact hc j u hu⟩⟩
theorem yf.put{w:World}{v:Value}{n l:Nat}{cs:List Value}{o o':Obj}(h:yf w v n cs)(hl:w.heap[l]?=some o)(hc:o.isCells=false)(hcs:cs.length=0->n=0):yf (w.putObj l o') v n cs :=
 ⟨h.form,fun h0=>by
  obtain⟨g,q,e,hg,p⟩:=h.cells h0;have C:g≠l:=by
   rintro rfl;have y:0<cs.length:=by
    rcases Nat.eq_zero_or_pos cs.length with h|h
    ·have:=hcs h;omega
    ·exact h
   have:=p 0 _ (List.getElem?_eq_getElem y);unfold World.cell? at this;rw[hl] at this;cases o<;>simp[Obj.isCells] at hc this
  exact ⟨g,q,e,by simp [World.putObj];exact hg,fun j u hu=>by unfold World.cell?;rw [World.putObj_heap_other C];exact p j u hu⟩⟩
theorem zbh(bk:Nat)(ls:List Ln)(its:List It)(name:ByteArray)(a b c:Int)(w:World)(h:xY w bk ls its)(hl:its.length<=100000) :
  zR 51 #[.pointer (some bk),name,.agg #[a,b,c]] w (.int .i64 (qI its ⟨name,a,b,c⟩)):=by
 obtain⟨lv,iv,bm,h1,h2,h3,h4⟩:=h;obtain⟨la,lc,rfl,-⟩:∃la lc,lv=.slice la ls.length lc/\True:=by obtain⟨vs,_,h2⟩:=h2;obtain⟨x,y,e,_⟩:=h2.form;exact⟨x,y,e,trivial⟩
 obtain⟨va,vc,rfl,-⟩:=h3.form;have HI:Hid (∀W,zB w W->zR 86 #[.slice va its.length vc,.agg #[name,a,b,c]] W (.int .i64 (qI its ⟨name,a,b,c⟩))):=fun W hW=>zmi its ⟨name,a,b,c⟩ _ W (h3.below hW zN) hl;have kv:=Blk.new w 92 #[a,b,c];have o:zB w (w.alloc (.cells #[a,b,c] 92)):=(Below.refl _ w).alloc zN _;have k1:=h1.below o h1.lt;clear h1 h2 h3 h4 hl;generalize qI its ⟨name,a,b,c⟩=Z at *;go_enter Tryz.func51,Tryz.ntmps51;go_wp2_with fail;have D0:zB w (w.alloc (.cells #[a,b,c] 92)).drew:=o.drew;generalize w.alloc (.cells #[a,b,c] 92)=W0 at *;have SC:Hid (∀W,zB W0 W->W.cell? ⟨bk,1,none⟩=some (.slice va its.length vc)/\W.cell? w.heap.size=some (.int .i64 a)/\W.cell? ⟨w.heap.size,1,none⟩=some (.int .i64 b)/\W.cell? ⟨w.heap.size,2,none⟩=some (.int .i64 c)):=fun W h=>⟨(k1.below h k1.lt).cell 1,(kv.below h kv.lt).cell 0,(kv.below h kv.lt).cell 1,(kv.below h kv.lt).cell 2⟩;have E0:zB W0 W0.drew:=zF.drew;clear kv k1;go_region_held3 (fun W=>W.cell? ⟨bk,1,none⟩=some (.slice va its.length vc)/\W.cell? w.heap.size=some (.int .i64 a)/\W.cell? ⟨w.heap.size,1,none⟩=some (.int .i64 b)/\W.cell? ⟨w.heap.size,2,none⟩=some (.int .i64 c)) (first|exact SC.out _ E0|exact SC.out _ E1)
  (((with_reducible refine(HI.out _ D0).mono ?_);rintro e x1 ⟨rfl,j⟩;have E1:zB W0 x1:=zT E0 j;have D1:zB w x1:=zT D0 j;clear HI D0 E0 j))
 have p:=zH D1;clear D1 E1;go_wp2;go_ret;exact⟨rfl,p.out⟩
def zaK(w:World)(ls:List Ln)(vs:List Value)(r:Except (Int × Option Nat) (List It))(e:Ending)(w':World):Prop :=
 match r with
 |.ok its=>∃bc,e=.returned (.tuple #[.pointer (some ⟨bc,0,none⟩),.nilIface])/\yH w' bc ls vs its w.heap.size/\zB w w'
 |.error (k,p)=>∃er,e=.returned (.tuple #[.pointer none,er])/\yb w' er k p/\zB w w'
theorem zbc{P:It->Prop}:∀(ls:List Ln) (i:Nat) (its out:List It),qg ls i its=.ok out->(∀x∈its,P x)->(∀x:Ln,qJ x=0->P x.it)->(∀x∈out,P x)/\out.length<=its.length+ls.length
 |[],i,its,out,h,h1,_=>by cases h;exact⟨h1,by simp⟩
 |x :: r,i,its,out,h,h1,h2=>by
  rw[qg] at h
  by_cases hz:qJ x=0
  ·rw[zA1 (fun h=>h hz)] at h
   by_cases hk:x.kind=1
   ·rw[zA2 hk] at h;split at h
    ·cases h
    ·split at h
     ·cases h
     ·have:=zbc r (i + 1) (its++[x.it]) out h (fun y hy=>by
       rcases List.mem_append.1 hy with hy|hy
       ·exact h1 y hy
       ·rw [List.mem_singleton] at hy;subst hy;exact h2 x hz) h2
      refine⟨this.1,?_⟩;have h3:=this.2;simp at h3 ⊢;omega
   ·rw[zA1 hk] at h;have:=zbc r (i+1) its out h h1 h2;exact⟨this.1,by have h3:=this.2;simp;omega⟩
  ·rw[zA2 hz] at h;cases h
theorem zce{ls:List Ln}{i:Nat}(hi:i<ls.length)(its:List It):qu (ls.drop i) i its=if (ls.getD i default).pair/\(ls.getD i default).it∉its then some i else qu (ls.drop (i+1)) (i+1) its:=by
 rw[zfn (d:=default) hi,qu]
theorem zjT(its:List It)(x:It):qI its x<0↔x∉its:=by
 unfold qI;cases h:its.findIdx? (fun y=>decide (x=y)) with
 |none =>
  simp only[List.findIdx?_eq_none_iff,decide_eq_false_iff_not] at h;constructor
  ·intro _ hm;exact h x hm rfl
  ·intro _;decide
 |some i =>
  rw[List.findIdx?_eq_some_iff_getElem] at h;obtain⟨hi,hp,-⟩:=h;simp at hp;constructor
  ·intro h;have h':(i:Int)<0:=h;omega
  ·intro h;exact absurd (hp▸List.getElem_mem hi) h
end
end Go.Proofs.YthifnefkdjkicaaGreatDoor
