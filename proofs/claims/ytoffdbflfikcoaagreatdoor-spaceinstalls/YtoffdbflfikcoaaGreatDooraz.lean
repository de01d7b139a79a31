import Derived.Test.YtoffdbflfikcoaaGreatDooray
open Go.Proofs.Tryz
set_option maxHeartbeats 4000000
set_option maxRecDepth 100000
namespace Go.Proofs.YtoffdbflfikcoaaGreatDoor
section
open Go.RowKit Go.Deep Go.Maps Sv
def RLs(w:World)(v:Value)(ls:List Ln):Prop:=∃vs,(vs.length=ls.length/\∀i,i<ls.length->zE w (vs.getD i undef) (tp (ls.getD i default).rng)/\Rg (ls.getD i default).rng)/\yj w v ls.length (qu ls vs)
theorem RLs.below{B:Nat}{w w':World}{v:Value}{l:List Ln}(h:RLs w v l)(hb:Below B w w')(hB:w.heap.size<=B):RLs w' v l:=by
 obtain⟨vs,⟨h1,h2⟩,h3⟩:=h;exact⟨vs,⟨h1,fun i hi=>⟨(h2 i hi).1.below hb hB,(h2 i hi).2⟩⟩,h3.below hb hB⟩
theorem RLs.at{w:World}{v:Value}{l:List Ln}(h:RLs w v l)(i:Nat)(hi:i<l.length):∃g o ra rc,v=.slice (some ⟨g,0,none⟩) l.length o/\g<w.heap.size/\zE w (.slice ra (tp (l.getD i default).rng).length rc) (tp (l.getD i default).rng)/\Rg (l.getD i default).rng/\w.cell? ⟨g,i*7,none⟩=some (.int .i64 (l.getD i default).kind)/\w.cell? ⟨g,i*7+1,none⟩=some (.string (l.getD i default).name)/\w.cell? ⟨g,i*7+2,none⟩=some (.int .i64 (l.getD i default).a)/\w.cell? ⟨g,i*7+3,none⟩=some (.int .i64 (l.getD i default).b)/\w.cell? ⟨g,i*7+4,none⟩=some (.int .i64 (l.getD i default).c)/\w.cell? ⟨g,i*7+5,none⟩=some (.string (l.getD i default).other)/\w.cell? ⟨g,i*7+6,none⟩=some (.slice ra (tp (l.getD i default).rng).length rc):=by
 obtain⟨vs,⟨h1,p⟩,h2⟩:=h;obtain⟨g,o,e,hg,hc⟩:=h2.cells (by omega);have H:=fun j u hu=>hc _ _ (zcq l vs h1 i hi j u hu);have hN:=(p i hi).1;obtain⟨ra,rc,hf⟩:=hN.form;have h6:w.cell? ⟨g,i*7+6,none⟩=some (vs.getD i undef):=H 6 _ rfl;rw[hf] at hN h6;exact⟨g,o,ra,rc,e,hg,hN,(p i hi).2,H 0 _ rfl,H 1 _ rfl,H 2 _ rfl,H 3 _ rfl,H 4 _ rfl,H 5 _ rfl,h6⟩
def QD:Except (Int × Option Nat) (List It)->Int × Int
 |.ok _=>(0,-1)
 |.error (q,o)=>(q,Yn o)
theorem zdD(its its':List It)(h:∀x,x∈its↔x∈its'):∀(ls:List Ln) (i:Nat),qD ls i its=qD ls i its':=by
 intro ls
 induction ls with
 |nil=>intro i;rfl
 |cons x r ih =>
  intro i;unfold qD;rw[ih (i+1)]
  by_cases hp:x.pair/\x.it∉its
  ·rw[zc3 hp,zc3 ⟨hp.1,fun e=>hp.2 ((h _).2 e)⟩]
  ·rw[zc2 hp,zc2 (fun e=>hp ⟨e.1,fun e'=>e.2 ((h _).1 e')⟩)]
theorem zl3{ls:List Ln}(h:100<ls.length):QD (qA ls)=(4,-1):=by unfold qA;rw[zc3 h];rfl
theorem Jn{ls:List Ln}(h:¬100<ls.length){k:Int}{i:Nat}(hg:qh ls 0 []=.error (k,i)):QD (qA ls)=(k,(i:Int)):=by unfold qA;rw[zc2 h,hg];rfl
theorem znc{ls:List Ln}(h:¬100<ls.length){its:List It}(hg:qh ls 0 []=.ok its){i:Nat}(hm:qD ls 0 its=some i):QD (qA ls)=(7,(i:Int)):=by
 unfold qA;rw[zc2 h,hg];simp only;rw[zdD (ya its) its (fun x=>(Q7 its).mem_iff),hm];rfl
theorem zkv{ls:List Ln}(h:¬100<ls.length){its:List It}(hg:qh ls 0 []=.ok its)(hm:qD ls 0 its=none):QD (qA ls)=(0,-1):=by
 unfold qA;rw[zc2 h,hg];simp only;rw[zdD (ya its) its (fun x=>(Q7 its).mem_iff),hm];rfl
theorem zhr:∀(ls:List Ln) (i:Nat) (its out:List It),qh ls i its=.ok out->∀x∈ls,qQ x=0:=by
 intro ls
 induction ls with
 |nil=>intro i its out _ x hx;cases hx
 |cons y r ih =>
  intro i its out h x hx;unfold qh at h;split at h
  ·cases h
  ·rename_i hz;rcases zrw.1 hx with rfl|hx
   ·exact zss fun h=>hz h
   ·split at h
    ·split at h
     ·cases h
     ·split at h
      ·cases h
      ·exact ih _ _ _ h x hx
    ·exact ih _ _ _ h x hx
theorem zd6{x:Ln}(h:qQ x=0):Qx x.it:=by
 have hn:=zbK h;unfold qQ at h;split at h
 ·cases h
 ·split at h
  ·cases h
  ·split at h
   ·cases h
   ·split at h
    ·cases h
    ·split at h
     ·cases h
     ·split at h
      ·cases h
      ·rename_i hi;have hi:InV x.a x.b x.c:=zss fun e=>hi e;exact⟨show x.name.size<=100000 by omega,hi⟩
theorem Zq{w W:World}{b:Nat}(h:Blk W b 55 #[(0:Int),(0:Int)])(hB:zB w W)(hb:w.heap.size<=b)(m pl:Int) :
  ((W.setCell b (.int .i64 m)).cell? ⟨b,1,none⟩=some (.int .i64 0)/\(W.setCell b (.int .i64 m)).frozen? ⟨b,1,none⟩=false) /\
  ((W.setCell b (.int .i64 m)).setCell ⟨b,1,none⟩ (.int .i64 pl)).cell? b=some (.int .i64 m) /\
  ((W.setCell b (.int .i64 m)).setCell ⟨b,1,none⟩ (.int .i64 pl)).cell? ⟨b,1,none⟩=some (.int .i64 pl) /\
  zB w ((W.setCell b (.int .i64 m)).setCell ⟨b,1,none⟩ (.int .i64 pl)):=by
 have h1:=h.set (i:=0) (v:=.int .i64 m);have h2:=h1.set (i:=1) (v:=.int .i64 pl);exact⟨⟨h1.cell 1,h1.frozen 1⟩,h2.cell 0,h2.cell 1,(hB.setCell hb _).setCell hb _⟩
structure CS(w W:World)(its:List It):Prop where
 nm:yW W (w.heap.size+1) its
 al:yr W (w.heap.size+2) its
 f:Blk W w.heap.size 55 #[(0:Int),(0:Int)]
 B:zB w W
theorem CS.step{w W W':World}{its:List It}(h:CS w W its)(hb:zB W W'):CS w W' its :=
 ⟨h.nm.below hb zN,h.al.below hb zN,h.f.below hb h.f.lt,zT h.B hb⟩
theorem CS.made(w:World):CS w (((w.alloc (.cells #[(0:Int),(0:Int)] 55)).alloc (.map #[] 0)).alloc (.map #[] 0)) []:=by
 have h1:=yW.made (w.alloc (.cells #[(0:Int),(0:Int)] 55));have h2:=yr.made ((w.alloc (.cells #[(0:Int),(0:Int)] 55)).alloc (.map #[] 0));have h3:Below ((w.alloc (.cells #[(0:Int),(0:Int)] 55)).alloc (.map #[] 0)).heap.size ((w.alloc (.cells #[(0:Int),(0:Int)] 55)).alloc (.map #[] 0)) (((w.alloc (.cells #[(0:Int),(0:Int)] 55)).alloc (.map #[] 0)).alloc (.map #[] 0)):=zF.alloc zN _;have h4:=h1.below h3 zN;simp only[zc1] at h2 h4;have h5:zB w (w.alloc (.cells #[(0:Int),(0:Int)] 55)):=(zf0 _ w).alloc zN _;exact⟨h4,h2,((Blk.new w _ _).alloc _).alloc _,((zL h5).alloc (by simp;omega) _)⟩
theorem CS.put{w W:World}{its:List It}(h:CS w W its)(hl:its.length<1000000){x:It}(hx:Qx x)(hn:x∉its) :
  ∃W1 W2,(Instr.mapUpdate 163 (.map (some (w.heap.size+1))) (.string x.name) (.bool true)).run prog W=.ok () W1/\(Instr.mapUpdate 164 (.map (some (w.heap.size+2))) (.agg #[x.name,x.a,x.b,x.c]) (.bool true)).run prog W1=.ok () W2/\CS w W2 (its++[x])/\(∀k t cs,Blk W k t cs->Blk W1 k t cs/\Blk W2 k t cs):=by
 obtain⟨W1,r1,n1,g1⟩:=h.nm.put hl hx.1;have a1:yr W1 (w.heap.size+2) its:=h.al.block (g1.block _ h.al.lt (by simp));obtain⟨W2,r2,n2,g2⟩:=a1.put hl hx hn;have k1:∀k t cs,Blk W k t cs->Blk W1 k t cs:=fun k t cs hk=>hk.kept g1 (fun e=>h.nm.ne hk (zru e).symm);have k2:∀k t cs,Blk W1 k t cs->Blk W2 k t cs:=fun k t cs hk=>hk.kept g2 (fun e=>a1.ne hk (zru e).symm);refine⟨W1,W2,r1,r2,⟨n1.block (g2.block _ n1.lt (by simp)),n2,k2 _ _ _ (k1 _ _ _ h.f),?_⟩,fun k t cs hk=>⟨k1 k t cs hk,k2 k t cs (k1 k t cs hk)⟩⟩;have j:=h.B.grown g1 h.B.size (fun k hk=>by cases hk;omega);exact j.grown g2 j.size (fun k hk=>by cases hk;omega)
theorem zqo(ls:List Ln)(v:Value)(w:World)(h:RLs w v ls)(hl:ls.length<=100000)(hF:yA w) :
  zR 34 #[v] w (.agg #[.int .i64 (QD (qA ls)).1,.int .i64 (QD (qA ls)).2]):=by
 obtain⟨la,lc,rfl⟩:∃la lc,v=.slice la ls.length lc:=by obtain⟨vs,_,h2⟩:=h;obtain⟨a,c,e,_⟩:=h2.form;exact⟨a,c,e⟩
 have HL:=zH h;have av:=zH hF;clear h hF;obtain⟨N,hN⟩:∃N,QD (qA ls)=N:=⟨_,rfl⟩;rw[hN];have HN:=zH hN;clear hN
 by_cases y:100<ls.length
 ·have aw:Hid (N=(4,-1)):=by show _=_;rw[<-HN.out];exact zl3 y
  have h100':(100:Int)<(ls.length:Int):=by omega
  have aj:=zH (Xm 4 (w.alloc (.cells #[(0:Int),(0:Int)] 55)));have kf:=Blk.new w 55 #[(0:Int),(0:Int)];have ao:zB w (w.alloc (.cells #[(0:Int),(0:Int)] 55)):=(zf0 _ w).alloc zN _;clear HN y;go_enter func34,ntmps34;go_wp2_with fail;refine aj.out.mono ?_;rintro e w1 ⟨rfl,ac⟩;have Z:=kf.below ac kf.lt;have q0:_=some (Value.int .i64 0):=Z.cell 0;have q1:_=some (Value.int .i64 0):=Z.cell 1;have q2:=Z.frozen 0;have q3:=Z.frozen 1;obtain⟨⟨p0,p1⟩,p2,p3,p4⟩:=Zq Z (zT ao ac) zN 4 (-1);have P2:=zH p2;have P3:=zH p3;have P4:=zH p4;clear p2 p3 p4 kf Z ao ac aj;go_wp2;exact zc4 (v:=.agg #[(4:Int),.int .i64 (-1)]) (by simp[results,results34,go_sem,P2.out,P3.out]) rfl ⟨by rw[aw.out],P4.out⟩
 have h100':¬(100:Int)<(ls.length:Int):=by omega
 obtain⟨R,hR⟩:∃R,qh ls 0 []=R:=⟨_,rfl⟩;have HR:=zH hR;have ak:=zH (CS.made w);clear hR;have ay:=@run_makeMap prog;go_enter func34,ntmps34;go_wp2_with fail;clear ay;generalize ((w.alloc (.cells #[(0:Int),(0:Int)] 55)).alloc (.map #[] 0)).alloc (.map #[] 0)=W0 at *;simp only[Nat.add_assoc] at *;go_loopw [19] (fun iV wr=>∃(i:Nat) (its:List It),i<=ls.length/\iV=.int .i64 i/\its.length<=24/\qh (ls.drop i) i its=R/\CS w wr its) (fun iV _=>ls.length-(intOf iV).toNat)
 case atStart=>exact⟨0,[],zf6 _,rfl,zf6 _,by rw[ztn];exact HR.out,ak.out⟩
 case round =>
  obtain⟨i,its,hi,rfl,aq,a3,J⟩:=hrel;clear ak
  by_cases hlt:i<ls.length
  ·obtain⟨g,a9,ra,rc,e,hg,ah,ag,c0,c1,c2,c3,c4,c5,c6⟩:=(HL.out.below J.B zN).at i hlt;simp at e;obtain⟨rfl,rfl⟩:=e;rw[zdS hlt] at a3;have p:=zH a3;clear a3 ag ah;generalize ls.getD i default=x at *;have kx:=Blk.new wr 94 #[x.kind,x.name,x.a,x.b,x.c,x.other,.slice ra (tp x.rng).length rc];have a1:zB wr (wr.alloc (.cells #[x.kind,x.name,x.a,x.b,x.c,x.other,.slice ra (tp x.rng).length rc] 94)):=zF.alloc zN _;have j:Hid (CS w (wr.alloc (.cells #[x.kind,x.name,x.a,x.b,x.c,x.other,.slice ra (tp x.rng).length rc] 94)) its):=J.step a1;have a0:=zH (zii x ra rc (wr.alloc (.cells #[x.kind,x.name,x.a,x.b,x.c,x.other,.slice ra (tp x.rng).length rc] 94)));have a8:Hid (qQ x=0->Qx x.it):=zd6;clear J a1;go_upto_region 7 with fail;clear c0 c1 c2 c3 c4 c5 c6;generalize wr.alloc (.cells #[x.kind,x.name,x.a,x.b,x.c,x.other,.slice ra (tp x.rng).length rc] 94)=W1 at *;generalize wr.heap.size=bx at *;have d0:_=some (Value.int .i64 x.kind):=kx.cell 0;have d1:_=some (Value.string x.name):=kx.cell 1;have d2:_=some (Value.int .i64 x.a):=kx.cell 2;have d3:_=some (Value.int .i64 x.b):=kx.cell 3;have d4:_=some (Value.int .i64 x.c):=kx.cell 4;have d5:_=some (Value.string x.other):=kx.cell 5;have d6:_=some (Value.slice ra (tp x.rng).length rc):=kx.cell 6;go_wp2_with fail;clear d0 d1 d2 d3 d4 d5 d6;refine a0.out.mono ?_;rintro e w2 ⟨rfl,ad⟩;have q:=kx.below ad kx.lt;have M:=zH (j.out.step ad);clear a0 ad kx j
   by_cases hz:qQ x=0
   ·have X:=zH (a8.out hz);rw[hz] at p ⊢;rw[zc2 (by simp)] at p;clear hz a8
    by_cases hk:x.kind=1
    ·rw[zc3 hk] at p;have d0:_=some (Value.int .i64 x.kind):=q.cell 0;have d1:_=some (Value.string x.name):=q.cell 1;have d2:_=some (Value.int .i64 x.a):=q.cell 2;have d3:_=some (Value.int .i64 x.b):=q.cell 3;have d4:_=some (Value.int .i64 x.c):=q.cell 4;have d5:_=some (Value.string x.other):=q.cell 5;have d6:_=some (Value.slice ra (tp x.rng).length rc):=q.cell 6;rw[hk] at d0;have ki:=Blk.new w2 116 #[x.name,x.a,x.b,x.c];have ae:zB w2 (w2.alloc (.cells #[x.name,x.a,x.b,x.c] 116)):=zF.alloc zN _;have U:=zH (M.out.step ae);have ai:=q.below ae q.lt;clear ae M q;go_upto_region 12 with fail;clear d0 d1 d2 d3 d4 d5 d6;generalize w2.alloc (.cells #[x.name,x.a,x.b,x.c] 116)=W3 at *;generalize w2.heap.size=bi at *;have o:(Instr.lookup 164 (.map (some (w.heap.size+2))) (.agg #[x.name,x.a,x.b,x.c]) false).run prog W3=.ok (.bool (decide (x.it∈its))) W3:=U.out.al.look (x:=x.it) X.out;have e0:_=some (Value.string x.name):=ki.cell 0;have e1:_=some (Value.int .i64 x.a):=ki.cell 1;have e2:_=some (Value.int .i64 x.b):=ki.cell 2;have e3:_=some (Value.int .i64 x.c):=ki.cell 3
     by_cases hm:x.it∈its
     ·rw[zc3 hm] at p;rw[zq9 hm] at o;have C:Hid (N=(9,(i:Int))):=by show _=_;rw[<-HN.out];exact Jn y (HR.out.trans p.out.symm)
      clear hm HN HR p ki ai;have q0:_=some (Value.int .i64 0):=U.out.f.cell 0;have q1:_=some (Value.int .i64 0):=U.out.f.cell 1;have q2:=U.out.f.frozen 0;have q3:=U.out.f.frozen 1;obtain⟨⟨p0,p1⟩,p2,p3,p4⟩:=Zq U.out.f U.out.B zN 9 (i:Int);have P2:=zH p2;have P3:=zH p3;have P4:=zH p4;clear p2 p3 p4 U;go_wp2;exact zc4 (v:=.agg #[(9:Int),i]) (by simp[results,results34,go_sem,P2.out,P3.out]) rfl ⟨by rw[C.out],P4.out⟩
     ·rw[zc2 hm] at p;rw[zf5 hm] at o;have hd:=U.out.step ((zf0 _ W3).drew);obtain⟨V1,V2,r1,r2,a2,V⟩:=hd.put (by omega) (x:=x.it) X.out hm;have r1':(Instr.mapUpdate 163 (.map (some (w.heap.size+1))) (.string x.name) (.bool true)).run prog W3.drew=.ok () V1:=r1;have r2':(Instr.mapUpdate 164 (.map (some (w.heap.size+2))) (.agg #[x.name,x.a,x.b,x.c]) (.bool true)).run prog V1=.ok () V2:=r2;have u:=zH a2;clear r1 r2 a2 hd hm;have d1:_=some (Value.string x.name):=ai.cell 1;go_upto_region 14 with fail;have a6:=(V _ _ _ (show Blk W3.drew bi 116 #[x.name,x.a,x.b,x.c] from ki)).1;have f0:_=some (Value.string x.name):=a6.cell 0;have f1:_=some (Value.int .i64 x.a):=a6.cell 1;have f2:_=some (Value.int .i64 x.b):=a6.cell 2;have f3:_=some (Value.int .i64 x.c):=a6.cell 3;clear V;go_region;clear d1 e0 e1 e2 e3 f0 f1 f2 f3 r1' r2' o a6 ki ai U X;have aA:=fun ty=>u.out.nm.len ty;have az:=fun ty=>u.out.al.len ty;obtain⟨LL,ab⟩:∃LL,(its++[x.it]).length=LL:=⟨_,rfl⟩;have hLL':LL=its.length+1:=by rw[<-ab];simp
      rw[ab] at az;generalize ax:yi (its++[x.it])=NN at *;clear ax ab
      by_cases h8:8<NN
      ·rw[zc3 (Or.inl h8)] at p;have h8':(8:Int)<(NN:Int):=by omega
       have C:Hid (N=(4,(i:Int))):=by show _=_;rw[<-HN.out];exact Jn y (HR.out.trans p.out.symm)
       clear HN HR p h8;have q0:_=some (Value.int .i64 0):=u.out.f.cell 0;have q1:_=some (Value.int .i64 0):=u.out.f.cell 1;have q2:=u.out.f.frozen 0;have q3:=u.out.f.frozen 1;obtain⟨⟨p0,p1⟩,p2,p3,p4⟩:=Zq u.out.f u.out.B zN 4 (i:Int);have P2:=zH p2;have P3:=zH p3;have P4:=zH p4;clear p2 p3 p4 u;go_wp2;exact zc4 (v:=.agg #[(4:Int),i]) (by simp[results,results34,go_sem,P2.out,P3.out]) rfl ⟨by rw[C.out],P4.out⟩
      ·have h8':¬(8:Int)<(NN:Int):=by omega
       by_cases aa:its.length=24
       ·rw[zc3 (Or.inr aa)] at p;have h24':(24:Int)<(LL:Int):=by omega
        have C:Hid (N=(4,(i:Int))):=by show _=_;rw[<-HN.out];exact Jn y (HR.out.trans p.out.symm)
        clear HN HR p h8 aa;have q0:_=some (Value.int .i64 0):=u.out.f.cell 0;have q1:_=some (Value.int .i64 0):=u.out.f.cell 1;have q2:=u.out.f.frozen 0;have q3:=u.out.f.frozen 1;obtain⟨⟨p0,p1⟩,p2,p3,p4⟩:=Zq u.out.f u.out.B zN 4 (i:Int);have P2:=zH p2;have P3:=zH p3;have P4:=zH p4;clear p2 p3 p4 u;go_wp2;exact zc4 (v:=.agg #[(4:Int),i]) (by simp[results,results34,go_sem,P2.out,P3.out]) rfl ⟨by rw[C.out],P4.out⟩
       ·rw[zc2 (fun h=>h.elim h8 aa)] at p;have h24':¬(24:Int)<(LL:Int):=by omega
        go_wp2;go_roundw
        case rel=>exact⟨_,_,_,_,.int .i64 ((i+1:Nat):Int),⟨i+1,by omega,rfl,its++[x.it],by simp;omega,p.out,u.out⟩,rfl,rfl,rfl,rfl,by go_num⟩
        case measure=>simp[intOf];omega
    ·rw[zc2 hk] at p;have d0:_=some (Value.int .i64 x.kind):=q.cell 0;have d1:_=some (Value.string x.name):=q.cell 1;have d2:_=some (Value.int .i64 x.a):=q.cell 2;have d3:_=some (Value.int .i64 x.b):=q.cell 3;have d4:_=some (Value.int .i64 x.c):=q.cell 4;have d5:_=some (Value.string x.other):=q.cell 5;have d6:_=some (Value.slice ra (tp x.rng).length rc):=q.cell 6;clear q X;go_wp2;go_roundw
     case rel=>exact⟨_,_,_,_,.int .i64 ((i+1:Nat):Int),_,_,_,_,_,_,_,_,_,_,_,_,_,_,_,_,_,_,_,_,_,_,_,_,_,_,_,_,_,_,_,_,_,_,_,_,_,_,_,_,⟨i+1,its,by omega,rfl,aq,p.out,M.out⟩,by repeat' (first|rfl|go_num|constructor)⟩
     case measure=>simp[intOf];omega
   ·rw[zc3 hz] at p;have C:Hid (N=(qQ x,(i:Int))):=by show _=_;rw[<-HN.out];exact Jn y (HR.out.trans p.out.symm)
    clear HN HR p a8 q;generalize qQ x=Q at *;have q0:_=some (Value.int .i64 0):=M.out.f.cell 0;have q1:_=some (Value.int .i64 0):=M.out.f.cell 1;have q2:=M.out.f.frozen 0;have q3:=M.out.f.frozen 1;obtain⟨⟨p0,p1⟩,p2,p3,p4⟩:=Zq M.out.f M.out.B zN Q (i:Int);have P2:=zH p2;have P3:=zH p3;have P4:=zH p4;clear p2 p3 p4 M;go_wp2;exact zc4 (v:=.agg #[Q,i]) (by simp[results,results34,go_sem,P2.out,P3.out]) rfl ⟨by rw[C.out],P4.out⟩
  ·obtain rfl:i=ls.length:=by omega
   have K:Hid (qh ls 0 []=.ok its):=by show _=_;rw[HR.out,<-a3,zsV,qh]
   have a7:=zH (zhr ls 0 [] its K.out);have am:=zH J;clear a3 J HR hlt hi aq;go_wp2_with fail;go_loopw [62] (fun iV wz=>∃i:Nat,i<=ls.length/\iV=.int .i64 i/\qD (ls.drop i) i its=qD ls 0 its/\CS w wz its) (fun iV _=>ls.length-(intOf iV).toNat)
   case atStart=>exact⟨0,zf6 _,rfl,by rw[ztn],am.out⟩
   case round =>
    obtain⟨i,hi,rfl,a5,J⟩:=hrel;clear am
    by_cases hlt:i<ls.length
    ·obtain⟨g,a9,ra,rc,e,hg,ah,ag,c0,c1,c2,c3,c4,c5,c6⟩:=(HL.out.below J.B zN).at i hlt;simp at e;obtain⟨rfl,rfl⟩:=e;rw[zdQ hlt] at a5;have Y:=zH a5;have an:Hid (qQ (ls.getD i default)=0):=a7.out _ (by rw[zc0,zc5 hlt];exact zr0 hlt);clear a5 ag ah;generalize ls.getD i default=x at *;have X:=zH (zd6 an.out);have kx:=Blk.new wr 94 #[x.kind,x.name,x.a,x.b,x.c,x.other,.slice ra (tp x.rng).length rc];have a1:zB wr (wr.alloc (.cells #[x.kind,x.name,x.a,x.b,x.c,x.other,.slice ra (tp x.rng).length rc] 94)):=zF.alloc zN _;have j:Hid (CS w (wr.alloc (.cells #[x.kind,x.name,x.a,x.b,x.c,x.other,.slice ra (tp x.rng).length rc] 94)) its):=J.step a1;clear J a1 an;go_upto_region 21 with fail;clear c0 c1 c2 c3 c4 c5 c6;generalize wr.alloc (.cells #[x.kind,x.name,x.a,x.b,x.c,x.other,.slice ra (tp x.rng).length rc] 94)=W1 at *;generalize wr.heap.size=bx at *;have o:(Instr.lookup 164 (.map (some (w.heap.size+2))) (.agg #[x.name,x.a,x.b,x.c]) false).run prog W1=.ok (.bool (decide (x.it∈its))) W1:=j.out.al.look (x:=x.it) X.out;have d0:_=some (Value.int .i64 x.kind):=kx.cell 0;have d1:_=some (Value.string x.name):=kx.cell 1;have d2:_=some (Value.int .i64 x.a):=kx.cell 2;have d3:_=some (Value.int .i64 x.b):=kx.cell 3;have d4:_=some (Value.int .i64 x.c):=kx.cell 4;have d5:_=some (Value.string x.other):=kx.cell 5;have d6:_=some (Value.slice ra (tp x.rng).length rc):=kx.cell 6;clear kx X
     by_cases hpr:x.pair
     ·have a4:x.kind=2\/x.kind=3:=hpr
      by_cases hm:x.it∈its
      ·rw[zq9 hm] at o;have HM:Hid (qD (ls.drop (i+1)) (i+1) its=qD ls 0 its):=by show _=_;rw[<-Y.out,zc2 (fun h=>h.2 hm)]
       clear Y hm hpr;rcases a4 with hk|hk
       ·rw[hk] at d0;go_wp2;go_roundw
        case rel=>exact⟨i+1,by omega,by go_num,HM.out,j.out⟩
        case measure=>simp[intOf];omega
       ·rw[hk] at d0;go_wp2;go_roundw
        case rel=>exact⟨i+1,by omega,by go_num,HM.out,j.out⟩
        case measure=>simp[intOf];omega
      ·rw[zf5 hm] at o;have HM:Hid (qD ls 0 its=some i):=by show _=_;rw[<-Y.out,zc3 ⟨hpr,hm⟩]
       have C:Hid (N=(7,(i:Int))):=by show _=_;rw[<-HN.out];exact znc y K.out HM.out
       clear Y hm hpr HM HN K a7;rcases a4 with hk|hk
       ·rw[hk] at d0;have q0:_=some (Value.int .i64 0):=j.out.f.cell 0;have q1:_=some (Value.int .i64 0):=j.out.f.cell 1;have q2:=j.out.f.frozen 0;have q3:=j.out.f.frozen 1;obtain⟨⟨p0,p1⟩,p2,p3,p4⟩:=Zq j.out.f j.out.B zN 7 (i:Int);have P2:=zH p2;have P3:=zH p3;have P4:=zH p4;clear p2 p3 p4 j;go_wp2;exact zc4 (v:=.agg #[(7:Int),i]) (by simp[results,results34,go_sem,P2.out,P3.out]) rfl ⟨by rw[C.out],P4.out⟩
       ·rw[hk] at d0;have q0:_=some (Value.int .i64 0):=j.out.f.cell 0;have q1:_=some (Value.int .i64 0):=j.out.f.cell 1;have q2:=j.out.f.frozen 0;have q3:=j.out.f.frozen 1;obtain⟨⟨p0,p1⟩,p2,p3,p4⟩:=Zq j.out.f j.out.B zN 7 (i:Int);have P2:=zH p2;have P3:=zH p3;have P4:=zH p4;clear p2 p3 p4 j;go_wp2;exact zc4 (v:=.agg #[(7:Int),i]) (by simp[results,results34,go_sem,P2.out,P3.out]) rfl ⟨by rw[C.out],P4.out⟩
     ·have HM:Hid (qD (ls.drop (i+1)) (i+1) its=qD ls 0 its):=by show _=_;rw[<-Y.out,zc2 (fun h=>hpr h.1)]
      have ar:¬x.kind=2:=fun h=>hpr (Or.inl h);have au:¬x.kind=3:=fun h=>hpr (Or.inr h);have hk2':(x.kind==2)=false:=by rw[zf2];exact ar
      have hk3':(x.kind==3)=false:=by rw[zf2];exact au
      clear Y hpr ar au o;go_wp2;go_roundw
      case rel=>exact⟨i+1,by omega,by go_num,HM.out,j.out⟩
      case measure=>simp[intOf];omega
    ·obtain rfl:i=ls.length:=by omega
     have HM:Hid (qD ls 0 its=none):=by show _=_;rw[<-a5,zsV,qD]
     have C:Hid (N=(0,-1)):=by show _=_;rw[<-HN.out];exact zkv y K.out HM.out
     have j:=zH J;have af:=av.out.below J.B;have g0:=af.c0;have g1:=af.c1;clear a5 J HM HN K a7 af hlt hi;have q0:_=some (Value.int .i64 0):=j.out.f.cell 0;have q1:_=some (Value.int .i64 0):=j.out.f.cell 1;have q2:=j.out.f.frozen 0;have q3:=j.out.f.frozen 1;obtain⟨⟨p0,p1⟩,p2,p3,p4⟩:=Zq j.out.f j.out.B zN 0 (-1);have P2:=zH p2;have P3:=zH p3;have P4:=zH p4;clear p2 p3 p4 j;go_wp2;exact zc4 (v:=.agg #[(0:Int),.int .i64 (-1)]) (by simp[results,results34,go_sem,P2.out,P3.out]) rfl ⟨by rw[C.out],P4.out⟩
end
section
open Go.RowKit Go.Shelf Go.Lib Sv
theorem zi5{its:List It}{x:It}{k:Nat}(hk:k<its.length)(hx:x=its.getD k default)(hno:∀j,j<k->x≠its.getD j default):qK its x=(k:Int):=by
 have gd:∀j (hj:j<its.length),its.getD j default=its[j]:=fun j hj=>by rw[zc0,zc5 hj];rfl
 have h:its.findIdx? (fun y=>decide (x=y))=some k:=by
  rw[zrU];refine⟨hk,by rw[<-gd k hk];simpa using hx,fun j hj=>?_⟩;have:=hno j hj;rw[gd j (by omega)] at this;simpa using this
 unfold qK;rw[h]
theorem zhk{its:List It}{x:It}(hno:∀j,j<its.length->x≠its.getD j default):qK its x=-1:=by
 have gd:∀j (hj:j<its.length),its.getD j default=its[j]:=fun j hj=>by rw[zc0,zc5 hj];rfl
 have h:its.findIdx? (fun y=>decide (x=y))=none:=by
  rw[zsr];intro y hy;obtain⟨j,hj,rfl⟩:=zrQ hy;have:=hno j hj;rw[gd j hj] at this;simpa using this
 unfold qK;rw[h]
theorem zj7(a b c a' b' c':Int)(w:World):(Op.equalIn 9999 91 (.agg #[a,b,c]) (.agg #[a',b',c'])).run prog w=.ok (a==a'&&(b==b'&&c==c')) w:=by
 have u3:=zrn;have a3:=zsc;have z3:=zr4;rw[show (9999:Nat)=9998+1 from rfl,Op.equalIn];simp only[zuG,ztw underlying91,zuu];simp only[zsC,Std.Legacy.Range.size,zuH,zsR,Nat.div_one,zuP,ztQ,zu4,zvr]
 by_cases h1:a=a'
 ·by_cases h2:b=b'
  ·by_cases h3:c=c'
   ·subst h1 h2 h3;go_simp
   ·have e3:(c==c')=false:=by simpa using h3
    subst h1 h2;go_simp
  ·have e2:(b==b')=false:=by simpa using h2
   subst h1;go_simp
 ·have e1:(a==a')=false:=by simpa using h1
  go_simp
theorem zj6(x y:It)(w:World):(Op.equalIn 10000 116 (.agg #[x.name,x.a,x.b,x.c]) (.agg #[y.name,y.a,y.b,y.c])).run prog w=.ok (decide (x=y)) w:=by
 have u3:=zrn;have a3:=zsc;have z3:=zr4;have u9:=zrf;have a9:=zsY;have z9:=zsK;have av:=isAgg91;have zv:=sizeOf91;have hS:prog.underlying 116=some (.struct (prog.fieldsOf 116)):=by kernel_rfl
 have hp:prog.stoodInHeld 116=false:=by kernel_rfl
 have he:decide (x=y)=(x.name.toList==y.name.toList&&(x.a==y.a&&(x.b==y.b&&x.c==y.c))):=by
  obtain⟨n,a,b,c⟩:=x;obtain⟨n',a',b',c'⟩:=y;rw[zrB];simp only[zrz,It.mk.injEq,zs1,ztW];constructor
  ·rintro⟨rfl,rfl,rfl,rfl⟩;exact⟨rfl,rfl,rfl,rfl⟩
  ·rintro⟨h,rfl,rfl,rfl⟩;exact⟨Zd h,rfl,rfl,rfl⟩
 rw[he];have h3:=zj7 x.a x.b x.c y.a y.b y.c;generalize x.name=n at *;generalize y.name=n' at *;generalize x.a=a at *;generalize x.b=b at *;generalize x.c=c at *;generalize y.a=a' at *;generalize y.b=b' at *;generalize y.c=c' at *;generalize (a==a'&&(b==b'&&c==c'))=q at *;clear he;rw[show (10000:Nat)=9999+1 from rfl,run_equalIn_struct w 9999 116 _ _ hS hp];simp only[Program.fieldsOf,ztA];cases hn:(n.toList==n'.toList)<;>cases q<;>go_simp
theorem zir(its:List It)(x:It)(v:Value)(w:World)(h:yc w v its)(hl:its.length<=100000) :
  zR 39 #[v,.agg #[x.name,x.a,x.b,x.c]] w (.int .i64 (qK its x)):=by
 obtain⟨va,vc,rfl,-⟩:=h.form;have R:zB w (w.alloc (.cells #[x.name,x.a,x.b,x.c] 116)):=(zf0 _ w).alloc zN _;have k0:=Blk.new w 116 #[x.name,x.a,x.b,x.c];have HI:=zH (show yc (w.alloc (.cells #[x.name,x.a,x.b,x.c] 116)) (.slice va its.length vc) its from h.below R zN);have Y:=zH R;have U:=zH k0;have C:=zH (fun k hk hx o=>zi5 (its:=its) (x:=x) (k:=k) hk hx o);have M:=zH (fun o=>zhk (its:=its) (x:=x) o);have q:=zH (fun y w=>zj6 x y w);clear h R k0;go_enter func39,ntmps39;go_upto_region 1 with fail;generalize w.alloc (.cells #[x.name,x.a,x.b,x.c] 116)=W0 at *;go_wp2_with fail;go_loopw [9] (fun kV wr=>∃k:Nat,k<=its.length/\kV=.int .i64 k/\(∀j,j<k->x≠its.getD j default)/\zB W0 wr) (fun kV _=>its.length-(intOf kV).toNat)
 case atStart=>exact⟨0,zf6 _,rfl,fun j h=>by omega,zf0 _ _⟩
 case round =>
  obtain⟨k,hk,rfl,o,p⟩:=hrel;have HB:Hid (zB w wr):=zT Y.out p;have u:=zH o;have Z:=zH p
  by_cases hlt:k<its.length
  ·obtain⟨g,a2,e1,hg,c0,c1,c2,c3⟩:=(show yc wr (.slice va its.length vc) its from HI.out.below p zN).at k hlt;simp at e1;obtain⟨rfl,rfl⟩:=e1;have kx:=U.out.below p U.out.lt;have a4:(0:Int)<=(k:Int):=by omega
   have a5:(k:Int)<(its.length:Int):=by omega
   obtain⟨X,hX⟩:∃X,its.getD k default=X:=⟨_,rfl⟩;rw[hX] at c0 c1 c2 c3;have HX:=zH hX;have hA:zB wr (wr.alloc (.cells #[X.name,X.a,X.b,X.c] 116)):=zF.alloc zN _;have kn:=Blk.new wr 116 #[X.name,X.a,X.b,X.c];have V:=kx.below hA kx.lt;have HA:=zH hA;have K:=zH V;have J:=zH kn;clear o p kx hA kn V hX;go_upto_region 4 with fail;generalize wr.alloc (.cells #[X.name,X.a,X.b,X.c] 116)=W3 at *;clear c0 c1 c2 c3;have c0:=K.out.cell 0;have c1:=K.out.cell 1;have c2:=K.out.cell 2;have c3:=K.out.cell 3;have d0:=J.out.cell 0;have d1:=J.out.cell 1;have d2:=J.out.cell 2;have d3:=J.out.cell 3;have a0:Hid (zB w W3):=zT HB.out HA.out;have a1:Hid (zB W0 W3):=zT Z.out HA.out
   by_cases hx:x=X
   ·have a3:∀w,(Op.equalIn 10000 116 (.agg #[x.name,x.a,x.b,x.c]) (.agg #[X.name,X.a,X.b,X.c])).run prog w=.ok true w:=fun w=>by rw[q.out X w,zq9 hx]
    have HR:Hid (qK its x=(k:Int)):=C.out k hlt (by rw[hx,HX.out]) u.out;clear hx u M C q HX;go_wp2;go_ret;exact⟨by rw[HR.out];rfl,a0.out⟩
   ·have a3:∀w,(Op.equalIn 10000 116 (.agg #[x.name,x.a,x.b,x.c]) (.agg #[X.name,X.a,X.b,X.c])).run prog w=.ok false w:=fun w=>by rw[q.out X w,zf5 hx]
    have HN:Hid (∀j,j<k+1->x≠its.getD j default):=fun j hj=>by
     rcases zsh j k with h|h
     ·exact u.out j h
     ·obtain rfl:j=k:=by omega
      rw[HX.out];exact hx
    clear hx u M C q HX;go_wp2;go_roundw
    case rel=>exact⟨k+1,by omega,by go_num,HN.out,a1.out⟩
    case measure=>simp[intOf];omega
  ·have a6:¬(k:Int)<(its.length:Int):=by omega
   obtain rfl:k=its.length:=by omega
   have HR:Hid (qK its x=-1):=M.out u.out;clear M C q o p;go_wp2;go_ret;exact⟨by rw[HR.out];rfl,HB.out⟩
end
section
open Go.RowKit Go.Deep Sv
theorem zg7{l:List zf}(hl:Rg l)(x:It):(zh l x.a x.b x.c=true/\xh l x)\/(zh l x.a x.b x.c=false/\¬xh l x):=by
 unfold zh xh InV
 by_cases h:(0<=x.a/\x.a<=999)/\(0<=x.b/\x.b<=999)/\0<=x.c/\x.c<=999
 ·rw[zc3 (by simp[okP,h])]
  by_cases hm:mem l (Z4 x.a.toNat x.b.toNat x.c.toNat)
  ·exact Or.inl ⟨(Qe hl).2 hm,h,hm⟩
  ·refine Or.inr ⟨?_,fun e=>hm e.2⟩;rw[Bool.eq_false_iff];exact fun e=>hm ((Qe hl).1 e)
 ·exact Or.inr ⟨zc2 (by simp[okP];omega),fun e=>h e.1⟩
open Classical in
noncomputable def Zl(its:List It)(name:ByteArray)(rng:List zf)(k:Nat):List Nat:=(List.range k).filter fun i=>decide ((its.getD i default).name=name/\xh rng (its.getD i default))
theorem zo8{its:List It}{name:ByteArray}{rng:List zf}{k:Nat}(h1:(its.getD k default).name=name)(h2:xh rng (its.getD k default)):Zl its name rng (k+1)=Zl its name rng k++[k]:=by
 unfold Zl;rw[zta,zsg];congr 1;rw[zsp,zc3 (by simpa using ⟨h1,h2⟩),zs0]
theorem zqw{its:List It}{name:ByteArray}{rng:List zf}{k:Nat}(h:¬((its.getD k default).name=name/\xh rng (its.getD k default))):Zl its name rng (k+1)=Zl its name rng k:=by
 unfold Zl;rw[zta,zsg,zsp,zc2 (by simpa using h),zs0,zrS]
theorem zhc(its:List It)(name:ByteArray)(rng:List zf)(k:Nat):(Zl its name rng k).length<=k:=by
 unfold Zl;exact zf1 (zsi _ _) (by simp)
theorem za6{its:List It}(h:Asc its)(name:ByteArray)(rng:List zf):Zl its name rng its.length=qo its name rng:=by
 unfold Zl qo;refine zgZ _ _ _ (zpN its name) fun i hi=>?_;simp only[zrz];rw[zki h name i hi]
theorem J7(its:List It)(name:ByteArray)(rng:List zf)(hr:Rg rng)(iv rv:Value)(w:World)(h:yc w iv its)(hl:its.length<=100000)(hv:zE w rv (tp rng)) :
  zC 40 #[iv,name,rv] w fun e w'=>∃v',e=.returned v'/\w'.ownsRow w 3 1 v' (Zl its name rng its.length).length (icells ((Zl its name rng its.length).map fun (k:Nat)=>(k:Int)))/\zB w w':=by
 obtain⟨va,vc,rfl⟩:=hv.form;obtain⟨ia,ic,rfl,-⟩:=h.form;obtain⟨i0,ae,ag,ah,ai⟩:=info_parts ZO;have C:Hid (∀W (X:It),zB w W->zR 89 #[.slice va (tp rng).length vc,.agg #[X.a,X.b,X.c]] W (.bool (zh rng X.a X.b X.c))):=fun W X hW=>znZ rng hr _ X.a X.b X.c W (hv.below hW zN);have a4:=zH (fun X=>zg7 hr X);have HI:=zH h;have HY:=zH (fun k=>@zo8 its name rng k);have a5:=zH (fun k=>@zqw its name rng k);have a8:=zH (zhc its name rng);have a9:Hid (Zl its name rng 0=[]):=by show _=_;rfl
 clear h hv hr;generalize Zl its name rng=am at *;generalize (tp rng).length=tl at *;go_enter func40,ntmps40;go_wp2_with fail;go_loopw [7,12] (fun oV iV wr=>∃(i:Nat),i<=its.length/\iV=.int .i64 i/\wr.ownsRow w 3 1 oV (am i).length (icells ((am i).map fun (k:Nat)=>(k:Int)))/\zB w wr) (fun _ iV _=>its.length-(intOf iV).toNat)
 case atStart=>exact⟨0,zf6 _,rfl,by rw[a9.out];exact zrp _ _ _ _,zf0 _ _⟩
 case round =>
  obtain⟨i,aj,rfl,p,Z⟩:=hrel;obtain⟨oa,oc,rfl,-⟩:=(zx p).form;have V:=zH p;have a6:=zH Z;have ab:=a8.out i
  by_cases hlt:i<its.length
  ·obtain⟨g,aa,e,hg,c0,c1,c2,c3⟩:=(show yc wr (.slice ia its.length ic) its from HI.out.below Z zN).at i hlt;simp at e;obtain⟨rfl,rfl⟩:=e;have ac:(0:Int)<=(i:Int):=by omega
   have ad:(i:Int)<(its.length:Int):=by omega
   have hY:=HY.out i;have hN:=a5.out i;generalize its.getD i default=X at *;have a3:=zH hY;have R:=zH hN;have q:=a4.out X;have M:=zH (fun W hW=>C.out W X hW);have hA:zB wr (wr.alloc (.cells #[X.name,X.a,X.b,X.c] 116)):=zF.alloc zN _;have a2:=zH (Blk.new wr 116 #[X.name,X.a,X.b,X.c]);have K:=zH (zA p hA);have y:Hid (zB w (wr.alloc (.cells #[X.name,X.a,X.b,X.c] 116))):=zT Z hA;clear p Z hA hY hN V a6 HY a5 C a4;go_upto_region 5 with fail;generalize wr.alloc (.cells #[X.name,X.a,X.b,X.c] 116)=W3 at *;clear c0 c1 c2 c3;have c0:=a2.out.cell 0;have c1:=a2.out.cell 1;have c2:=a2.out.cell 2;have c3:=a2.out.cell 3
   by_cases hnm:X.name=name
   ·have af:(X.name.toList==name.toList)=true:=by rw[hnm];simp
    rcases q with ⟨Y,a0⟩|⟨Y,a0⟩
    ·have HA:Hid (am (i+1)=am i++[i]):=a3.out hnm a0;have HQ:Hid (∀W,zB w W->zR 89 #[.slice va tl vc,.agg #[X.a,X.b,X.c]] W (.bool true)):=fun W hW=>by have:=M.out W hW;rw[Y] at this;exact this
     clear M Y a0 hnm a3 R;go_wp2_with fail;refine(HQ.out _ y.out).mono ?_;rintro e x1 ⟨rfl,J⟩;have j:=zH (zA K.out J);have q:Hid (zB w x1):=zT y.out J;have an:=q.out.size;clear J K y HQ c0 c1 c2 c3;go_wp2_with (at_builtin;refine wpList_append_own_at _ rfl _ _ 47 rfl w.heap.size 3 i0 (.int .i64 0) 1 8 zrq ae ag ah ai rfl (by decide) _ _ _ rfl (j.out.alloc _) x1.heap.size 1 1 [.int .i64 i] rfl rfl ?c1 ?c2 ?c3 ?c4 ?c5 ?_)
     case c1=>exact yI _ _ _
     case c2=>exact yq _
     case c3=>unfold maxLen;omega
     case c4=>omega
     case c5=>simp;omega
     intro v7 w7 u o _ a1;have U:Hid (w7.ownsRow w 3 1 v7 (am (i+1)).length (icells ((am (i+1)).map fun (k:Nat)=>(k:Int)))):=by
      show World.ownsRow _ _ _ _ _ _ _;rw[HA.out,zrv,ztf,zuI,Ze,zf4];exact u
     have a7:Hid (zB w w7):=(zL q.out).grown o (by simp;omega) (fun k hk=>(j.out.lt k hk).1);clear u o a1 j q;go_wp2;go_roundw
     case rel=>exact⟨i+1,by omega,by go_num,U.out,a7.out⟩
     case measure=>simp[intOf];omega
    ·have HA:Hid (am (i+1)=am i):=R.out fun e=>a0 e.2;have HQ:Hid (∀W,zB w W->zR 89 #[.slice va tl vc,.agg #[X.a,X.b,X.c]] W (.bool false)):=fun W hW=>by have:=M.out W hW;rw[Y] at this;exact this
     clear M Y a0 hnm a3 R;go_wp2_with fail;refine(HQ.out _ y.out).mono ?_;rintro e x1 ⟨rfl,J⟩;have U:Hid (x1.ownsRow w 3 1 (.slice oa (am i).length oc) (am (i+1)).length (icells ((am (i+1)).map fun (k:Nat)=>(k:Int)))):=by
      show World.ownsRow _ _ _ _ _ _ _;rw[HA.out];exact zA K.out J
     have q:Hid (zB w x1):=zT y.out J;clear J K y HQ c0 c1 c2 c3;go_wp2;go_roundw
     case rel=>exact⟨i+1,by omega,by go_num,U.out,q.out⟩
     case measure=>simp[intOf];omega
   ·have af:(X.name.toList==name.toList)=false:=by rw[zf2];exact fun e=>hnm (Zd e)
    have HA:Hid (am (i+1)=am i):=R.out fun e=>hnm e.1;have U:Hid (W3.ownsRow w 3 1 (.slice oa (am i).length oc) (am (i+1)).length (icells ((am (i+1)).map fun (k:Nat)=>(k:Int)))):=by
     show World.ownsRow _ _ _ _ _ _ _;rw[HA.out];exact K.out
    clear M q hnm a3 R K;go_wp2;go_roundw
    case rel=>exact⟨i+1,by omega,by go_num,U.out,y.out⟩
    case measure=>simp[intOf];omega
  ·have ak:¬(i:Int)<(its.length:Int):=by omega
   obtain rfl:i=its.length:=by omega
   clear p Z C a4 HY a5;go_wp2;go_ret;exact⟨_,rfl,V.out,a6.out⟩
end
