/- The reference's Among. -/
import Derived.Test.YtiihalknffbjpaaGreatDoorCtAsc
set_option maxHeartbeats 4000000
set_option maxRecDepth 100000
namespace Go.Proofs.YtiihalknffbjpaaGreatDoor
section
open Go.RowKit Go.Deep Go.Maps Sv
def RLs(w:World)(v:Value)(ls:List Ln):Prop:=∃vs,(vs.length=ls.length/\∀i,i<ls.length->zr w (vs.getD i undef) (tp (ls.getD i default).rng)/\Rg (ls.getD i default).rng)/\qY w v ls.length (qb ls vs)
theorem RLs.below{B:Nat}{w w':World}{v:Value}{l:List Ln}(h:RLs w v l)(hb:Below B w w')(hB:w.heap.size<=B):RLs w' v l:=by
 obtain⟨vs,⟨h1,h2⟩,h3⟩:=h;exact⟨vs,⟨h1,fun i hi=>⟨(h2 i hi).1.below hb hB,(h2 i hi).2⟩⟩,h3.below hb hB⟩
theorem RLs.at{w:World}{v:Value}{l:List Ln}(h:RLs w v l)(i:Nat)(hi:i<l.length):∃g cap ra rc,v=.slice (some ⟨g,0,none⟩) l.length cap/\g<w.heap.size/\zr w (.slice ra (tp (l.getD i default).rng).length rc) (tp (l.getD i default).rng)/\Rg (l.getD i default).rng/\w.cell? ⟨g,i*7,none⟩=some (.int .i64 (l.getD i default).kind)/\w.cell? ⟨g,i*7+1,none⟩=some (.string (l.getD i default).name)/\w.cell? ⟨g,i*7+2,none⟩=some (.int .i64 (l.getD i default).a)/\w.cell? ⟨g,i*7+3,none⟩=some (.int .i64 (l.getD i default).b)/\w.cell? ⟨g,i*7+4,none⟩=some (.int .i64 (l.getD i default).c)/\w.cell? ⟨g,i*7+5,none⟩=some (.string (l.getD i default).other)/\w.cell? ⟨g,i*7+6,none⟩=some (.slice ra (tp (l.getD i default).rng).length rc):=by
 obtain⟨vs,⟨h1,h1'⟩,h2⟩:=h;obtain⟨g,cap,e,hg,hc⟩:=h2.cells (by omega);have H:=fun j u hu=>hc _ _ (Jy l vs h1 i hi j u hu);have hN:=(h1' i hi).1;obtain⟨ra,rc,hf⟩:=hN.form;have h6:w.cell? ⟨g,i*7+6,none⟩=some (vs.getD i undef):=H 6 _ rfl;rw[hf] at hN h6;exact⟨g,cap,ra,rc,e,hg,hN,(h1' i hi).2,H 0 _ rfl,H 1 _ rfl,H 2 _ rfl,H 3 _ rfl,H 4 _ rfl,H 5 _ rfl,h6⟩
def ZU:Except (Int × Option Nat) (List It)->Int × Int
 |.ok _=>(0,-1)
 |.error (q,o)=>(q,Qx o)
theorem zci(its its':List It)(h:∀x,x∈its↔x∈its'):∀(ls:List Ln) (i:Nat),qd ls i its=qd ls i its':=by
 intro ls
 induction ls with
 |nil=>intro i;rfl
 |cons x r ih =>
  intro i;unfold qd;rw[ih (i+1)]
  by_cases hp:x.pair/\x.it∉its
  ·rw[if_pos hp,if_pos ⟨hp.1,fun e=>hp.2 ((h _).2 e)⟩]
  ·rw[if_neg hp,if_neg (fun e=>hp ⟨e.1,fun e'=>e.2 ((h _).1 e')⟩)]
theorem zgH{ls:List Ln}(h:100<ls.length):ZU (zQ ls)=(4,-1):=by unfold zQ;rw[if_pos h];rfl
theorem YJ{ls:List Ln}(h:¬100<ls.length){k:Int}{i:Nat}(hg:zU ls 0 []=.error (k,i)):ZU (zQ ls)=(k,(i:Int)):=by unfold zQ;rw[if_neg h,hg];rfl
theorem zgz{ls:List Ln}(h:¬100<ls.length){its:List It}(hg:zU ls 0 []=.ok its){i:Nat}(hm:qd ls 0 its=some i):ZU (zQ ls)=(7,(i:Int)):=by
 unfold zQ;rw[if_neg h,hg];simp only;rw[zci (qR its) its (fun x=>(Qo its).mem_iff),hm];rfl
theorem zfc{ls:List Ln}(h:¬100<ls.length){its:List It}(hg:zU ls 0 []=.ok its)(hm:qd ls 0 its=none):ZU (zQ ls)=(0,-1):=by
 unfold zQ;rw[if_neg h,hg];simp only;rw[zci (qR its) its (fun x=>(Qo its).mem_iff),hm];rfl
theorem zfs:∀(ls:List Ln) (i:Nat) (its out:List It),zU ls i its=.ok out->∀x∈ls,qp x=0:=by
 intro ls
 induction ls with
 |nil=>intro i its out _ x hx;cases hx
 |cons y r ih =>
  intro i its out h x hx;unfold zU at h;split at h
  ·cases h
  ·rename_i hz;rcases List.mem_cons.1 hx with rfl|hx
   ·exact Classical.byContradiction fun h=>hz h
   ·split at h
    ·split at h
     ·cases h
     ·split at h
      ·cases h
      ·exact ih _ _ _ h x hx
    ·exact ih _ _ _ h x hx
theorem zaw{x:Ln}(h:qp x=0):ZI x.it:=by
 have hn:=Jf h;unfold qp at h;split at h
 ·cases h
 ·split at h
  ·cases h
  ·split at h
   ·cases h
   ·split at h
    ·cases h
    ·split at h
     ·cases h
     ·split at h
      ·cases h
      ·rename_i hi;have hi:InV x.a x.b x.c:=Classical.byContradiction fun e=>hi e;exact⟨show x.name.size<=100000 by omega,hi⟩
theorem xP{w W:World}{b:Nat}(h:Blk W b 96 #[.int .i64 0,.int .i64 0])(hB:zB w W)(hb:w.heap.size<=b)(m pl:Int) :
  ((W.setCell ⟨b,0,none⟩ (.int .i64 m)).cell? ⟨b,1,none⟩=some (.int .i64 0)/\(W.setCell ⟨b,0,none⟩ (.int .i64 m)).frozen? ⟨b,1,none⟩=false) /\
  ((W.setCell ⟨b,0,none⟩ (.int .i64 m)).setCell ⟨b,1,none⟩ (.int .i64 pl)).cell? ⟨b,0,none⟩=some (.int .i64 m) /\
  ((W.setCell ⟨b,0,none⟩ (.int .i64 m)).setCell ⟨b,1,none⟩ (.int .i64 pl)).cell? ⟨b,1,none⟩=some (.int .i64 pl) /\
  zB w ((W.setCell ⟨b,0,none⟩ (.int .i64 m)).setCell ⟨b,1,none⟩ (.int .i64 pl)):=by
 have h1:=h.set (i:=0) (v:=.int .i64 m);have h2:=h1.set (i:=1) (v:=.int .i64 pl);exact⟨⟨h1.cell 1,h1.frozen 1⟩,h2.cell 0,h2.cell 1,(hB.setCell hb _).setCell hb _⟩
structure CS(w W:World)(its:List It):Prop where
 nm:yE W (w.heap.size+1) its
 al:ye W (w.heap.size+2) its
 f:Blk W w.heap.size 96 #[.int .i64 0,.int .i64 0]
 B:zB w W
theorem CS.step{w W W':World}{its:List It}(h:CS w W its)(hb:zB W W'):CS w W' its :=
 ⟨h.nm.below hb zN,h.al.below hb zN,h.f.below hb h.f.lt,zT h.B hb⟩
theorem CS.made(w:World):CS w (((w.alloc (.cells #[.int .i64 0,.int .i64 0] 96)).alloc (.map #[] 0)).alloc (.map #[] 0)) []:=by
 have h1:=yE.made (w.alloc (.cells #[.int .i64 0,.int .i64 0] 96));have h2:=ye.made ((w.alloc (.cells #[.int .i64 0,.int .i64 0] 96)).alloc (.map #[] 0));have h3:Below ((w.alloc (.cells #[.int .i64 0,.int .i64 0] 96)).alloc (.map #[] 0)).heap.size ((w.alloc (.cells #[.int .i64 0,.int .i64 0] 96)).alloc (.map #[] 0)) (((w.alloc (.cells #[.int .i64 0,.int .i64 0] 96)).alloc (.map #[] 0)).alloc (.map #[] 0)):=zF.alloc zN _;have h4:=h1.below h3 zN;simp only[World.size_alloc] at h2 h4;have h5:zB w (w.alloc (.cells #[.int .i64 0,.int .i64 0] 96)):=(Below.refl _ w).alloc zN _;exact⟨h4,h2,((Blk.new w _ _).alloc _).alloc _,((zL h5).alloc (by simp;omega) _)⟩
theorem CS.put{w W:World}{its:List It}(h:CS w W its)(hl:its.length<1000000){x:It}(hx:ZI x)(hn:x∉its) :
  ∃W1 W2,(Instr.mapUpdate 239 (.map (some (w.heap.size+1))) (.string x.name) (.bool true)).run Tryz.prog W=.ok () W1/\(Instr.mapUpdate 240 (.map (some (w.heap.size+2))) (.agg #[.string x.name,.int .i64 x.a,.int .i64 x.b,.int .i64 x.c]) (.bool true)).run Tryz.prog W1=.ok () W2/\CS w W2 (its++[x])/\(∀k t cs,Blk W k t cs->Blk W1 k t cs/\Blk W2 k t cs):=by
 obtain⟨W1,r1,n1,g1⟩:=h.nm.put hl hx.1;have a1:ye W1 (w.heap.size+2) its:=h.al.block (g1.block _ h.al.lt (by simp));obtain⟨W2,r2,n2,g2⟩:=a1.put hl hx hn;have k1:∀k t cs,Blk W k t cs->Blk W1 k t cs:=fun k t cs hk=>hk.kept g1 (fun e=>h.nm.ne hk (Option.some.inj e).symm);have k2:∀k t cs,Blk W1 k t cs->Blk W2 k t cs:=fun k t cs hk=>hk.kept g2 (fun e=>a1.ne hk (Option.some.inj e).symm);refine⟨W1,W2,r1,r2,⟨n1.block (g2.block _ n1.lt (by simp)),n2,k2 _ _ _ (k1 _ _ _ h.f),?_⟩,fun k t cs hk=>⟨k1 k t cs hk,k2 k t cs (k1 k t cs hk)⟩⟩;have hB1:=h.B.grown g1 h.B.size (fun k hk=>by cases hk;omega);exact hB1.grown g2 hB1.size (fun k hk=>by cases hk;omega)
theorem ziU(ls:List Ln)(v:Value)(w:World)(h:RLs w v ls)(hl:ls.length<=100000)(hF:yf w) :
  zR 58 #[v] w (.agg #[.int .i64 (ZU (zQ ls)).1,.int .i64 (ZU (zQ ls)).2]):=by
 obtain⟨la,lc,rfl⟩:∃la lc,v=.slice la ls.length lc:=by obtain⟨vs,_,h2⟩:=h;obtain⟨a,c,e,_⟩:=h2.form;exact⟨a,c,e⟩
 have HL:=zH h;have HFN:=zH hF;clear h hF;obtain⟨N,hN⟩:∃N,ZU (zQ ls)=N:=⟨_,rfl⟩;rw[hN];have HN:=zH hN;clear hN
 by_cases h100:100<ls.length
 ·have HNL:Hid (N=(4,-1)):=by show _=_;rw[<-HN.out];exact zgH h100
  have h100':(100:Int)<(ls.length:Int):=by omega
  have HBR:=zH (Qf 4 (w.alloc (.cells #[.int .i64 0,.int .i64 0] 96)));have kf:=Blk.new w 96 #[.int .i64 0,.int .i64 0];have hbf:zB w (w.alloc (.cells #[.int .i64 0,.int .i64 0] 96)):=(Below.refl _ w).alloc zN _;clear HN h100;go_enter Tryz.func58,Tryz.ntmps58;go_wp2_with fail;refine HBR.out.mono ?_;rintro e w1 ⟨rfl,hb1⟩;have kf1:=kf.below hb1 kf.lt;have q0:_=some (Value.int .i64 0):=kf1.cell 0;have q1:_=some (Value.int .i64 0):=kf1.cell 1;have q2:=kf1.frozen 0;have q3:=kf1.frozen 1;obtain⟨⟨p0,p1⟩,p2,p3,p4⟩:=xP kf1 (zT hbf hb1) zN 4 (-1);have P2:=zH p2;have P3:=zH p3;have P4:=zH p4;clear p2 p3 p4 kf kf1 hbf hb1 HBR;go_wp2;exact bodyPost_ret (v:=.agg #[.int .i64 4,.int .i64 (-1)]) (by simp[results,Tryz.results58,go_sem,P2.out,P3.out]) rfl ⟨by rw[HNL.out],P4.out⟩
 have h100':¬(100:Int)<(ls.length:Int):=by omega
 obtain⟨R,hR⟩:∃R,zU ls 0 []=R:=⟨_,rfl⟩;have HR:=zH hR;have HC0:=zH (CS.made w);clear hR;have hmm:=@run_makeMap Tryz.prog;go_enter Tryz.func58,Tryz.ntmps58;go_wp2_with fail;clear hmm;generalize ((w.alloc (.cells #[.int .i64 0,.int .i64 0] 96)).alloc (.map #[] 0)).alloc (.map #[] 0)=W0 at *;simp only[Nat.add_assoc] at *;go_loopw [19] (fun iV wr=>∃(i:Nat) (its:List It),i<=ls.length/\iV=.int .i64 i/\its.length<=24/\zU (ls.drop i) i its=R/\CS w wr its) (fun iV _=>ls.length-(intOf iV).toNat)
 case atStart=>exact⟨0,[],Nat.zero_le _,rfl,Nat.zero_le _,by rw[List.drop_zero];exact HR.out,HC0.out⟩
 case round =>
  obtain⟨i,its,hi,rfl,hil,hga,hcs⟩:=hrel;clear HC0
  by_cases hlt:i<ls.length
  ·obtain⟨g,cap',ra,rc,e,hg,hsp,hrg,c0,c1,c2,c3,c4,c5,c6⟩:=(HL.out.below hcs.B zN).at i hlt;simp at e;obtain⟨rfl,rfl⟩:=e;rw[J5 hlt] at hga;have HGA:=zH hga;clear hga hrg hsp;generalize ls.getD i default=x at *;have kx:=Blk.new wr 101 #[.int .i64 x.kind,.string x.name,.int .i64 x.a,.int .i64 x.b,.int .i64 x.c,.string x.other,.slice ra (tp x.rng).length rc];have hbx:zB wr (wr.alloc (.cells #[.int .i64 x.kind,.string x.name,.int .i64 x.a,.int .i64 x.b,.int .i64 x.c,.string x.other,.slice ra (tp x.rng).length rc] 101)):=zF.alloc zN _;have HC1:Hid (CS w (wr.alloc (.cells #[.int .i64 x.kind,.string x.name,.int .i64 x.a,.int .i64 x.b,.int .i64 x.c,.string x.other,.slice ra (tp x.rng).length rc] 101)) its):=hcs.step hbx;have HCHK:=zH (zjM x ra rc (wr.alloc (.cells #[.int .i64 x.kind,.string x.name,.int .i64 x.a,.int .i64 x.b,.int .i64 x.c,.string x.other,.slice ra (tp x.rng).length rc] 101)));have HNM:Hid (qp x=0->ZI x.it):=zaw;clear hcs hbx;go_upto_region 7 with fail;clear c0 c1 c2 c3 c4 c5 c6;generalize wr.alloc (.cells #[.int .i64 x.kind,.string x.name,.int .i64 x.a,.int .i64 x.b,.int .i64 x.c,.string x.other,.slice ra (tp x.rng).length rc] 101)=W1 at *;generalize wr.heap.size=bx at *;have d0:_=some (Value.int .i64 x.kind):=kx.cell 0;have d1:_=some (Value.string x.name):=kx.cell 1;have d2:_=some (Value.int .i64 x.a):=kx.cell 2;have d3:_=some (Value.int .i64 x.b):=kx.cell 3;have d4:_=some (Value.int .i64 x.c):=kx.cell 4;have d5:_=some (Value.string x.other):=kx.cell 5;have d6:_=some (Value.slice ra (tp x.rng).length rc):=kx.cell 6;go_wp2_with fail;clear d0 d1 d2 d3 d4 d5 d6;refine HCHK.out.mono ?_;rintro e w2 ⟨rfl,hb2⟩;have kx2:=kx.below hb2 kx.lt;have HC2:=zH (HC1.out.step hb2);clear HCHK hb2 kx HC1
   by_cases hz:qp x=0
   ·have HOK:=zH (HNM.out hz);rw[hz] at HGA ⊢;rw[if_neg (by simp)] at HGA;clear hz HNM
    by_cases hk:x.kind=1
    ·rw[if_pos hk] at HGA;have d0:_=some (Value.int .i64 x.kind):=kx2.cell 0;have d1:_=some (Value.string x.name):=kx2.cell 1;have d2:_=some (Value.int .i64 x.a):=kx2.cell 2;have d3:_=some (Value.int .i64 x.b):=kx2.cell 3;have d4:_=some (Value.int .i64 x.c):=kx2.cell 4;have d5:_=some (Value.string x.other):=kx2.cell 5;have d6:_=some (Value.slice ra (tp x.rng).length rc):=kx2.cell 6;rw[hk] at d0;have ki:=Blk.new w2 93 #[.string x.name,.int .i64 x.a,.int .i64 x.b,.int .i64 x.c];have hbi:zB w2 (w2.alloc (.cells #[.string x.name,.int .i64 x.a,.int .i64 x.b,.int .i64 x.c] 93)):=zF.alloc zN _;have HC3:=zH (HC2.out.step hbi);have kx3:=kx2.below hbi kx2.lt;clear hbi HC2 kx2;go_upto_region 12 with fail;clear d0 d1 d2 d3 d4 d5 d6;generalize w2.alloc (.cells #[.string x.name,.int .i64 x.a,.int .i64 x.b,.int .i64 x.c] 93)=W3 at *;generalize w2.heap.size=bi at *;have hlook:(Instr.lookup 240 (.map (some (w.heap.size+2))) (.agg #[.string x.name,.int .i64 x.a,.int .i64 x.b,.int .i64 x.c]) false).run Tryz.prog W3=.ok (.bool (decide (x.it∈its))) W3:=HC3.out.al.look (x:=x.it) HOK.out;have e0:_=some (Value.string x.name):=ki.cell 0;have e1:_=some (Value.int .i64 x.a):=ki.cell 1;have e2:_=some (Value.int .i64 x.b):=ki.cell 2;have e3:_=some (Value.int .i64 x.c):=ki.cell 3
     by_cases hm:x.it∈its
     ·rw[if_pos hm] at HGA;rw[decide_eq_true hm] at hlook;have HNE:Hid (N=(9,(i:Int))):=by show _=_;rw[<-HN.out];exact YJ h100 (HR.out.trans HGA.out.symm)
      clear hm HN HR HGA ki kx3;have q0:_=some (Value.int .i64 0):=HC3.out.f.cell 0;have q1:_=some (Value.int .i64 0):=HC3.out.f.cell 1;have q2:=HC3.out.f.frozen 0;have q3:=HC3.out.f.frozen 1;obtain⟨⟨p0,p1⟩,p2,p3,p4⟩:=xP HC3.out.f HC3.out.B zN 9 (i:Int);have P2:=zH p2;have P3:=zH p3;have P4:=zH p4;clear p2 p3 p4 HC3;go_wp2;exact bodyPost_ret (v:=.agg #[.int .i64 9,.int .i64 i]) (by simp[results,Tryz.results58,go_sem,P2.out,P3.out]) rfl ⟨by rw[HNE.out],P4.out⟩
     ·rw[if_neg hm] at HGA;rw[decide_eq_false hm] at hlook;have hd:=HC3.out.step ((Below.refl _ W3).drew);obtain⟨V1,V2,r1,r2,hcs4,hkeep⟩:=hd.put (by omega) (x:=x.it) HOK.out hm;have r1':(Instr.mapUpdate 239 (.map (some (w.heap.size+1))) (.string x.name) (.bool true)).run Tryz.prog W3.drew=.ok () V1:=r1;have r2':(Instr.mapUpdate 240 (.map (some (w.heap.size+2))) (.agg #[.string x.name,.int .i64 x.a,.int .i64 x.b,.int .i64 x.c]) (.bool true)).run Tryz.prog V1=.ok () V2:=r2;have HC4:=zH hcs4;clear r1 r2 hcs4 hd hm;have d1:_=some (Value.string x.name):=kx3.cell 1;go_upto_region 14 with fail;have kiv:=(hkeep _ _ _ (show Blk W3.drew bi 93 #[.string x.name,.int .i64 x.a,.int .i64 x.b,.int .i64 x.c] from ki)).1;have f0:_=some (Value.string x.name):=kiv.cell 0;have f1:_=some (Value.int .i64 x.a):=kiv.cell 1;have f2:_=some (Value.int .i64 x.b):=kiv.cell 2;have f3:_=some (Value.int .i64 x.c):=kiv.cell 3;clear hkeep;go_region;clear d1 e0 e1 e2 e3 f0 f1 f2 f3 r1' r2' hlook kiv ki kx3 HC3 HOK;have hn1:=fun ty=>HC4.out.nm.len ty;have hn2:=fun ty=>HC4.out.al.len ty;obtain⟨LL,hLL⟩:∃LL,(its++[x.it]).length=LL:=⟨_,rfl⟩;have hLL':LL=its.length+1:=by rw[<-hLL];simp
      rw[hLL] at hn2;generalize hNN:qO (its++[x.it])=NN at *;clear hNN hLL
      by_cases h8:8<NN
      ·rw[if_pos (Or.inl h8)] at HGA;have h8':(8:Int)<(NN:Int):=by omega
       have HNE:Hid (N=(4,(i:Int))):=by show _=_;rw[<-HN.out];exact YJ h100 (HR.out.trans HGA.out.symm)
       clear HN HR HGA h8;have q0:_=some (Value.int .i64 0):=HC4.out.f.cell 0;have q1:_=some (Value.int .i64 0):=HC4.out.f.cell 1;have q2:=HC4.out.f.frozen 0;have q3:=HC4.out.f.frozen 1;obtain⟨⟨p0,p1⟩,p2,p3,p4⟩:=xP HC4.out.f HC4.out.B zN 4 (i:Int);have P2:=zH p2;have P3:=zH p3;have P4:=zH p4;clear p2 p3 p4 HC4;go_wp2;exact bodyPost_ret (v:=.agg #[.int .i64 4,.int .i64 i]) (by simp[results,Tryz.results58,go_sem,P2.out,P3.out]) rfl ⟨by rw[HNE.out],P4.out⟩
      ·have h8':¬(8:Int)<(NN:Int):=by omega
       by_cases h24:its.length=24
       ·rw[if_pos (Or.inr h24)] at HGA;have h24':(24:Int)<(LL:Int):=by omega
        have HNE:Hid (N=(4,(i:Int))):=by show _=_;rw[<-HN.out];exact YJ h100 (HR.out.trans HGA.out.symm)
        clear HN HR HGA h8 h24;have q0:_=some (Value.int .i64 0):=HC4.out.f.cell 0;have q1:_=some (Value.int .i64 0):=HC4.out.f.cell 1;have q2:=HC4.out.f.frozen 0;have q3:=HC4.out.f.frozen 1;obtain⟨⟨p0,p1⟩,p2,p3,p4⟩:=xP HC4.out.f HC4.out.B zN 4 (i:Int);have P2:=zH p2;have P3:=zH p3;have P4:=zH p4;clear p2 p3 p4 HC4;go_wp2;exact bodyPost_ret (v:=.agg #[.int .i64 4,.int .i64 i]) (by simp[results,Tryz.results58,go_sem,P2.out,P3.out]) rfl ⟨by rw[HNE.out],P4.out⟩
       ·rw[if_neg (fun h=>h.elim h8 h24)] at HGA;have h24':¬(24:Int)<(LL:Int):=by omega
        go_wp2;go_roundw
        case rel=>exact⟨_,_,_,_,.int .i64 ((i+1:Nat):Int),⟨i+1,by omega,rfl,its++[x.it],by simp;omega,HGA.out,HC4.out⟩,rfl,rfl,rfl,rfl,by go_num⟩
        case measure=>simp[intOf];omega
    ·rw[if_neg hk] at HGA;have d0:_=some (Value.int .i64 x.kind):=kx2.cell 0;have d1:_=some (Value.string x.name):=kx2.cell 1;have d2:_=some (Value.int .i64 x.a):=kx2.cell 2;have d3:_=some (Value.int .i64 x.b):=kx2.cell 3;have d4:_=some (Value.int .i64 x.c):=kx2.cell 4;have d5:_=some (Value.string x.other):=kx2.cell 5;have d6:_=some (Value.slice ra (tp x.rng).length rc):=kx2.cell 6;clear kx2 HOK;go_wp2;go_roundw
     case rel=>exact⟨_,_,_,_,.int .i64 ((i+1:Nat):Int),_,_,_,_,_,_,_,_,_,_,_,_,_,_,_,_,_,_,_,_,_,_,_,_,_,_,_,_,_,_,_,_,_,_,_,_,_,_,_,_,⟨i+1,its,by omega,rfl,hil,HGA.out,HC2.out⟩,by repeat' (first|rfl|go_num|constructor)⟩
     case measure=>simp[intOf];omega
   ·rw[if_pos hz] at HGA;have HNE:Hid (N=(qp x,(i:Int))):=by show _=_;rw[<-HN.out];exact YJ h100 (HR.out.trans HGA.out.symm)
    clear HN HR HGA HNM kx2;generalize qp x=Q at *;have q0:_=some (Value.int .i64 0):=HC2.out.f.cell 0;have q1:_=some (Value.int .i64 0):=HC2.out.f.cell 1;have q2:=HC2.out.f.frozen 0;have q3:=HC2.out.f.frozen 1;obtain⟨⟨p0,p1⟩,p2,p3,p4⟩:=xP HC2.out.f HC2.out.B zN Q (i:Int);have P2:=zH p2;have P3:=zH p3;have P4:=zH p4;clear p2 p3 p4 HC2;go_wp2;exact bodyPost_ret (v:=.agg #[.int .i64 Q,.int .i64 i]) (by simp[results,Tryz.results58,go_sem,P2.out,P3.out]) rfl ⟨by rw[HNE.out],P4.out⟩
  ·obtain rfl:i=ls.length:=by omega
   have HOKG:Hid (zU ls 0 []=.ok its):=by show _=_;rw[HR.out,<-hga,List.drop_length,zU]
   have HCK:=zH (zfs ls 0 [] its HOKG.out);have HCS:=zH hcs;clear hga hcs HR hlt hi hil;go_wp2_with fail;go_loopw [62] (fun iV wz=>∃i:Nat,i<=ls.length/\iV=.int .i64 i/\qd (ls.drop i) i its=qd ls 0 its/\CS w wz its) (fun iV _=>ls.length-(intOf iV).toNat)
   case atStart=>exact⟨0,Nat.zero_le _,rfl,by rw[List.drop_zero],HCS.out⟩
   case round =>
    obtain⟨i,hi,rfl,hms,hcs⟩:=hrel;clear HCS
    by_cases hlt:i<ls.length
    ·obtain⟨g,cap',ra,rc,e,hg,hsp,hrg,c0,c1,c2,c3,c4,c5,c6⟩:=(HL.out.below hcs.B zN).at i hlt;simp at e;obtain⟨rfl,rfl⟩:=e;rw[zaf hlt] at hms;have HMS:=zH hms;have HCX:Hid (qp (ls.getD i default)=0):=HCK.out _ (by rw[List.getD_eq_getElem?_getD,List.getElem?_eq_getElem hlt];exact List.getElem_mem hlt);clear hms hrg hsp;generalize ls.getD i default=x at *;have HOK:=zH (zaw HCX.out);have kx:=Blk.new wr 101 #[.int .i64 x.kind,.string x.name,.int .i64 x.a,.int .i64 x.b,.int .i64 x.c,.string x.other,.slice ra (tp x.rng).length rc];have hbx:zB wr (wr.alloc (.cells #[.int .i64 x.kind,.string x.name,.int .i64 x.a,.int .i64 x.b,.int .i64 x.c,.string x.other,.slice ra (tp x.rng).length rc] 101)):=zF.alloc zN _;have HC1:Hid (CS w (wr.alloc (.cells #[.int .i64 x.kind,.string x.name,.int .i64 x.a,.int .i64 x.b,.int .i64 x.c,.string x.other,.slice ra (tp x.rng).length rc] 101)) its):=hcs.step hbx;clear hcs hbx HCX;go_upto_region 21 with fail;clear c0 c1 c2 c3 c4 c5 c6;generalize wr.alloc (.cells #[.int .i64 x.kind,.string x.name,.int .i64 x.a,.int .i64 x.b,.int .i64 x.c,.string x.other,.slice ra (tp x.rng).length rc] 101)=W1 at *;generalize wr.heap.size=bx at *;have hlook:(Instr.lookup 240 (.map (some (w.heap.size+2))) (.agg #[.string x.name,.int .i64 x.a,.int .i64 x.b,.int .i64 x.c]) false).run Tryz.prog W1=.ok (.bool (decide (x.it∈its))) W1:=HC1.out.al.look (x:=x.it) HOK.out;have d0:_=some (Value.int .i64 x.kind):=kx.cell 0;have d1:_=some (Value.string x.name):=kx.cell 1;have d2:_=some (Value.int .i64 x.a):=kx.cell 2;have d3:_=some (Value.int .i64 x.b):=kx.cell 3;have d4:_=some (Value.int .i64 x.c):=kx.cell 4;have d5:_=some (Value.string x.other):=kx.cell 5;have d6:_=some (Value.slice ra (tp x.rng).length rc):=kx.cell 6;clear kx HOK
     by_cases hpr:x.pair
     ·have hk23:x.kind=2\/x.kind=3:=hpr
      by_cases hm:x.it∈its
      ·rw[decide_eq_true hm] at hlook;have HM:Hid (qd (ls.drop (i+1)) (i+1) its=qd ls 0 its):=by show _=_;rw[<-HMS.out,if_neg (fun h=>h.2 hm)]
       clear HMS hm hpr;rcases hk23 with hk|hk
       ·rw[hk] at d0;go_wp2;go_roundw
        case rel=>exact⟨i+1,by omega,by go_num,HM.out,HC1.out⟩
        case measure=>simp[intOf];omega
       ·rw[hk] at d0;go_wp2;go_roundw
        case rel=>exact⟨i+1,by omega,by go_num,HM.out,HC1.out⟩
        case measure=>simp[intOf];omega
      ·rw[decide_eq_false hm] at hlook;have HM:Hid (qd ls 0 its=some i):=by show _=_;rw[<-HMS.out,if_pos ⟨hpr,hm⟩]
       have HNE:Hid (N=(7,(i:Int))):=by show _=_;rw[<-HN.out];exact zgz h100 HOKG.out HM.out
       clear HMS hm hpr HM HN HOKG HCK;rcases hk23 with hk|hk
       ·rw[hk] at d0;have q0:_=some (Value.int .i64 0):=HC1.out.f.cell 0;have q1:_=some (Value.int .i64 0):=HC1.out.f.cell 1;have q2:=HC1.out.f.frozen 0;have q3:=HC1.out.f.frozen 1;obtain⟨⟨p0,p1⟩,p2,p3,p4⟩:=xP HC1.out.f HC1.out.B zN 7 (i:Int);have P2:=zH p2;have P3:=zH p3;have P4:=zH p4;clear p2 p3 p4 HC1;go_wp2;exact bodyPost_ret (v:=.agg #[.int .i64 7,.int .i64 i]) (by simp[results,Tryz.results58,go_sem,P2.out,P3.out]) rfl ⟨by rw[HNE.out],P4.out⟩
       ·rw[hk] at d0;have q0:_=some (Value.int .i64 0):=HC1.out.f.cell 0;have q1:_=some (Value.int .i64 0):=HC1.out.f.cell 1;have q2:=HC1.out.f.frozen 0;have q3:=HC1.out.f.frozen 1;obtain⟨⟨p0,p1⟩,p2,p3,p4⟩:=xP HC1.out.f HC1.out.B zN 7 (i:Int);have P2:=zH p2;have P3:=zH p3;have P4:=zH p4;clear p2 p3 p4 HC1;go_wp2;exact bodyPost_ret (v:=.agg #[.int .i64 7,.int .i64 i]) (by simp[results,Tryz.results58,go_sem,P2.out,P3.out]) rfl ⟨by rw[HNE.out],P4.out⟩
     ·have HM:Hid (qd (ls.drop (i+1)) (i+1) its=qd ls 0 its):=by show _=_;rw[<-HMS.out,if_neg (fun h=>hpr h.1)]
      have hk2:¬x.kind=2:=fun h=>hpr (Or.inl h);have hk3:¬x.kind=3:=fun h=>hpr (Or.inr h);have hk2':(x.kind==2)=false:=by rw[beq_eq_false_iff_ne];exact hk2
      have hk3':(x.kind==3)=false:=by rw[beq_eq_false_iff_ne];exact hk3
      clear HMS hpr hk2 hk3 hlook;go_wp2;go_roundw
      case rel=>exact⟨i+1,by omega,by go_num,HM.out,HC1.out⟩
      case measure=>simp[intOf];omega
    ·obtain rfl:i=ls.length:=by omega
     have HM:Hid (qd ls 0 its=none):=by show _=_;rw[<-hms,List.drop_length,qd]
     have HNE:Hid (N=(0,-1)):=by show _=_;rw[<-HN.out];exact zfc h100 HOKG.out HM.out
     have HC1:=zH hcs;have hf1:=HFN.out.below hcs.B;have g0:=hf1.c0;have g1:=hf1.c1;clear hms hcs HM HN HOKG HCK hf1 hlt hi;have q0:_=some (Value.int .i64 0):=HC1.out.f.cell 0;have q1:_=some (Value.int .i64 0):=HC1.out.f.cell 1;have q2:=HC1.out.f.frozen 0;have q3:=HC1.out.f.frozen 1;obtain⟨⟨p0,p1⟩,p2,p3,p4⟩:=xP HC1.out.f HC1.out.B zN 0 (-1);have P2:=zH p2;have P3:=zH p3;have P4:=zH p4;clear p2 p3 p4 HC1;go_wp2;exact bodyPost_ret (v:=.agg #[.int .i64 0,.int .i64 (-1)]) (by simp[results,Tryz.results58,go_sem,P2.out,P3.out]) rfl ⟨by rw[HNE.out],P4.out⟩
end
section
open Go.RowKit Go.Shelf Go.Lib Sv
theorem zg1{its:List It}{x:It}{k:Nat}(hk:k<its.length)(hx:x=its.getD k default)(hno:∀j,j<k->x≠its.getD j default):ql its x=(k:Int):=by
 have gd:∀j (hj:j<its.length),its.getD j default=its[j]:=fun j hj=>by rw[List.getD_eq_getElem?_getD,List.getElem?_eq_getElem hj];rfl
 have h:its.findIdx? (fun y=>decide (x=y))=some k:=by
  rw[List.findIdx?_eq_some_iff_getElem];refine⟨hk,by rw[<-gd k hk];simpa using hx,fun j hj=>?_⟩;have:=hno j hj;rw[gd j (by omega)] at this;simpa using this
 unfold ql;rw[h]
theorem zg9{its:List It}{x:It}(hno:∀j,j<its.length->x≠its.getD j default):ql its x=-1:=by
 have gd:∀j (hj:j<its.length),its.getD j default=its[j]:=fun j hj=>by rw[List.getD_eq_getElem?_getD,List.getElem?_eq_getElem hj];rfl
 have h:its.findIdx? (fun y=>decide (x=y))=none:=by
  rw[List.findIdx?_eq_none_iff];intro y hy;obtain⟨j,hj,rfl⟩:=List.getElem_of_mem hy;have:=hno j hj;rw[gd j hj] at this;simpa using this
 unfold ql;rw[h]
theorem zjS(a b c a' b' c':Int)(w:World):(Op.equalIn 9999 91 (.agg #[.int .i64 a,.int .i64 b,.int .i64 c]) (.agg #[.int .i64 a',.int .i64 b',.int .i64 c'])).run Tryz.prog w=.ok (a==a'&&(b==b'&&c==c')) w:=by
 have u3:=Tryz.underlying3;have a3:=Tryz.isAgg3;have z3:=Tryz.sizeOf3;rw[show (9999:Nat)=9998+1 from rfl,Op.equalIn];simp only[Sem.run_bind,run_underlying Tryz.underlying91,Result.andThen_ok];simp only[Std.Legacy.Range.forIn_eq_forIn_range',Std.Legacy.Range.size,Nat.sub_zero,Nat.add_sub_cancel,Nat.div_one,List.range'_succ,List.range'_zero,List.forIn_cons,List.forIn_nil]
 by_cases h1:a=a'
 ·by_cases h2:b=b'
  ·by_cases h3:c=c'
   ·subst h1 h2 h3;go_simp
   ·have e3:(c==c')=false:=by simpa using h3
    subst h1 h2;go_simp
  ·have e2:(b==b')=false:=by simpa using h2
   subst h1;go_simp
 ·have e1:(a==a')=false:=by simpa using h1
  go_simp
theorem zgQ(x y:It)(w:World):(Op.equalIn 10000 93 (.agg #[.string x.name,.int .i64 x.a,.int .i64 x.b,.int .i64 x.c]) (.agg #[.string y.name,.int .i64 y.a,.int .i64 y.b,.int .i64 y.c])).run Tryz.prog w=.ok (decide (x=y)) w:=by
 have u3:=Tryz.underlying3;have a3:=Tryz.isAgg3;have z3:=Tryz.sizeOf3;have u9:=Tryz.underlying9;have a9:=Tryz.isAgg9;have z9:=Tryz.sizeOf9;have av:=Tryz.isAgg91;have zv:=Tryz.sizeOf91;have hS:Tryz.prog.underlying 93=some (.struct (Tryz.prog.fieldsOf 93)):=by kernel_rfl
 have hp:Tryz.prog.stoodInHeld 93=false:=by kernel_rfl
 have he:decide (x=y)=(x.name.toList==y.name.toList&&(x.a==y.a&&(x.b==y.b&&x.c==y.c))):=by
  obtain⟨n,a,b,c⟩:=x;obtain⟨n',a',b',c'⟩:=y;rw[Bool.eq_iff_iff];simp only[decide_eq_true_eq,It.mk.injEq,Bool.and_eq_true,beq_iff_eq];constructor
  ·rintro⟨rfl,rfl,rfl,rfl⟩;exact⟨rfl,rfl,rfl,rfl⟩
  ·rintro⟨h,rfl,rfl,rfl⟩;exact⟨xH h,rfl,rfl,rfl⟩
 rw[he];have h3:=zjS x.a x.b x.c y.a y.b y.c;generalize x.name=n at *;generalize y.name=n' at *;generalize x.a=a at *;generalize x.b=b at *;generalize x.c=c at *;generalize y.a=a' at *;generalize y.b=b' at *;generalize y.c=c' at *;generalize (a==a'&&(b==b'&&c==c'))=q at *;clear he;rw[show (10000:Nat)=9999+1 from rfl,run_equalIn_struct w 9999 93 _ _ hS hp];simp only[Program.fieldsOf,Tryz.underlying93];cases hn:(n.toList==n'.toList)<;>cases q<;>go_simp
theorem zhj(its:List It)(x:It)(v:Value)(w:World)(h:qP w v its)(hl:its.length<=100000) :
  zR 45 #[v,.agg #[.string x.name,.int .i64 x.a,.int .i64 x.b,.int .i64 x.c]] w (.int .i64 (ql its x)):=by
 obtain⟨va,vc,rfl,-⟩:=h.form;have hb0:zB w (w.alloc (.cells #[.string x.name,.int .i64 x.a,.int .i64 x.b,.int .i64 x.c] 93)):=(Below.refl _ w).alloc zN _;have k0:=Blk.new w 93 #[.string x.name,.int .i64 x.a,.int .i64 x.b,.int .i64 x.c];have HI:=zH (show qP (w.alloc (.cells #[.string x.name,.int .i64 x.a,.int .i64 x.b,.int .i64 x.c] 93)) (.slice va its.length vc) its from h.below hb0 zN);have HB0:=zH hb0;have HK0:=zH k0;have HAT:=zH (fun k hk hx hno=>zg1 (its:=its) (x:=x) (k:=k) hk hx hno);have HNO:=zH (fun hno=>zg9 (its:=its) (x:=x) hno);have HEQ:=zH (fun y w=>zgQ x y w);clear h hb0 k0;go_enter Tryz.func45,Tryz.ntmps45;go_upto_region 1 with fail;generalize w.alloc (.cells #[.string x.name,.int .i64 x.a,.int .i64 x.b,.int .i64 x.c] 93)=W0 at *;go_wp2_with fail;go_loopw [9] (fun kV wr=>∃k:Nat,k<=its.length/\kV=.int .i64 k/\(∀j,j<k->x≠its.getD j default)/\zB W0 wr) (fun kV _=>its.length-(intOf kV).toNat)
 case atStart=>exact⟨0,Nat.zero_le _,rfl,fun j h=>by omega,Below.refl _ _⟩
 case round =>
  obtain⟨k,hk,rfl,hno,hbr⟩:=hrel;have HB:Hid (zB w wr):=zT HB0.out hbr;have HNK:=zH hno;have HBR:=zH hbr
  by_cases hlt:k<its.length
  ·obtain⟨g,cap',e1,hg,c0,c1,c2,c3⟩:=(show qP wr (.slice va its.length vc) its from HI.out.below hbr zN).at k hlt;simp at e1;obtain⟨rfl,rfl⟩:=e1;have kx:=HK0.out.below hbr HK0.out.lt;have hii0:(0:Int)<=(k:Int):=by omega
   have hii1:(k:Int)<(its.length:Int):=by omega
   obtain⟨X,hX⟩:∃X,its.getD k default=X:=⟨_,rfl⟩;rw[hX] at c0 c1 c2 c3;have HX:=zH hX;have hA:zB wr (wr.alloc (.cells #[.string X.name,.int .i64 X.a,.int .i64 X.b,.int .i64 X.c] 93)):=zF.alloc zN _;have kn:=Blk.new wr 93 #[.string X.name,.int .i64 X.a,.int .i64 X.b,.int .i64 X.c];have kx2:=kx.below hA kx.lt;have HA:=zH hA;have HKX:=zH kx2;have HKN:=zH kn;clear hno hbr kx hA kn kx2 hX;go_upto_region 4 with fail;generalize wr.alloc (.cells #[.string X.name,.int .i64 X.a,.int .i64 X.b,.int .i64 X.c] 93)=W3 at *;clear c0 c1 c2 c3;have c0:=HKX.out.cell 0;have c1:=HKX.out.cell 1;have c2:=HKX.out.cell 2;have c3:=HKX.out.cell 3;have d0:=HKN.out.cell 0;have d1:=HKN.out.cell 1;have d2:=HKN.out.cell 2;have d3:=HKN.out.cell 3;have HW3:Hid (zB w W3):=zT HB.out HA.out;have HW4:Hid (zB W0 W3):=zT HBR.out HA.out
   by_cases hx:x=X
   ·have heq:∀w,(Op.equalIn 10000 93 (.agg #[.string x.name,.int .i64 x.a,.int .i64 x.b,.int .i64 x.c]) (.agg #[.string X.name,.int .i64 X.a,.int .i64 X.b,.int .i64 X.c])).run Tryz.prog w=.ok true w:=fun w=>by rw[HEQ.out X w,decide_eq_true hx]
    have HR:Hid (ql its x=(k:Int)):=HAT.out k hlt (by rw[hx,HX.out]) HNK.out;clear hx HNK HNO HAT HEQ HX;go_wp2;go_ret;exact⟨by rw[HR.out];rfl,HW3.out⟩
   ·have heq:∀w,(Op.equalIn 10000 93 (.agg #[.string x.name,.int .i64 x.a,.int .i64 x.b,.int .i64 x.c]) (.agg #[.string X.name,.int .i64 X.a,.int .i64 X.b,.int .i64 X.c])).run Tryz.prog w=.ok false w:=fun w=>by rw[HEQ.out X w,decide_eq_false hx]
    have HN:Hid (∀j,j<k+1->x≠its.getD j default):=fun j hj=>by
     rcases Nat.lt_or_ge j k with h|h
     ·exact HNK.out j h
     ·obtain rfl:j=k:=by omega
      rw[HX.out];exact hx
    clear hx HNK HNO HAT HEQ HX;go_wp2;go_roundw
    case rel=>exact⟨k+1,by omega,by go_num,HN.out,HW4.out⟩
    case measure=>simp[intOf];omega
  ·have hni:¬(k:Int)<(its.length:Int):=by omega
   obtain rfl:k=its.length:=by omega
   have HR:Hid (ql its x=-1):=HNO.out HNK.out;clear HNO HAT HEQ hno hbr;go_wp2;go_ret;exact⟨by rw[HR.out];rfl,HB.out⟩
end
section
open Go.RowKit Go.Deep Sv
theorem ziK{l:List zc}(hl:Rg l)(x:It):(Qv l x.a x.b x.c=true/\yM l x)\/(Qv l x.a x.b x.c=false/\¬yM l x):=by
 unfold Qv yM InV
 by_cases h:(0<=x.a/\x.a<=999)/\(0<=x.b/\x.b<=999)/\0<=x.c/\x.c<=999
 ·rw[if_pos (by simp[okP,h])]
  by_cases hm:mem l (Zm x.a.toNat x.b.toNat x.c.toNat)
  ·exact Or.inl ⟨(Zv hl).2 hm,h,hm⟩
  ·refine Or.inr ⟨?_,fun e=>hm e.2⟩;rw[Bool.eq_false_iff];exact fun e=>hm ((Zv hl).1 e)
 ·exact Or.inr ⟨if_neg (by simp[okP];omega),fun e=>h e.1⟩
open Classical in
noncomputable def xJ(its:List It)(name:ByteArray)(rng:List zc)(k:Nat):List Nat:=(List.range k).filter fun i=>decide ((its.getD i default).name=name/\yM rng (its.getD i default))
theorem zkx{its:List It}{name:ByteArray}{rng:List zc}{k:Nat}(h1:(its.getD k default).name=name)(h2:yM rng (its.getD k default)):xJ its name rng (k+1)=xJ its name rng k++[k]:=by
 unfold xJ;rw[List.range_succ,List.filter_append];congr 1;rw[List.filter_cons,if_pos (by simpa using ⟨h1,h2⟩),List.filter_nil]
theorem ziN{its:List It}{name:ByteArray}{rng:List zc}{k:Nat}(h:¬((its.getD k default).name=name/\yM rng (its.getD k default))):xJ its name rng (k+1)=xJ its name rng k:=by
 unfold xJ;rw[List.range_succ,List.filter_append,List.filter_cons,if_neg (by simpa using h),List.filter_nil,List.append_nil]
theorem zeb(its:List It)(name:ByteArray)(rng:List zc)(k:Nat):(xJ its name rng k).length<=k:=by
 unfold xJ;exact Nat.le_trans (List.length_filter_le _ _) (by simp)
theorem Jj{its:List It}(h:Asc its)(name:ByteArray)(rng:List zc):xJ its name rng its.length=zZ its name rng:=by
 unfold xJ zZ;refine zj4 _ _ _ (zjZ its name) fun i hi=>?_;simp only[decide_eq_true_eq];rw[zfr h name i hi]
theorem Ko(its:List It)(name:ByteArray)(rng:List zc)(hr:Rg rng)(iv rv:Value)(w:World)(h:qP w iv its)(hl:its.length<=100000)(hv:zr w rv (tp rng)) :
  zC 149 #[iv,.string name,rv] w fun e w'=>∃v',e=.returned v'/\w'.ownsRow w.heap.size 3 1 v' (xJ its name rng its.length).length (zd ((xJ its name rng its.length).map fun (k:Nat)=>(k:Int)))/\zB w w':=by
 obtain⟨va,vc,rfl⟩:=hv.form;obtain⟨ia,ic,rfl,-⟩:=h.form;obtain⟨i0,hin,hz0,hz1,hz2⟩:=info_parts yY;have HHAS:Hid (∀W (X:It),zB w W->zR 217 #[.slice va (tp rng).length vc,.agg #[.int .i64 X.a,.int .i64 X.b,.int .i64 X.c]] W (.bool (Qv rng X.a X.b X.c))):=fun W X hW=>zkF rng hr _ X.a X.b X.c W (hv.below hW zN);have HBF:=zH (fun X=>ziK hr X);have HI:=zH h;have HY:=zH (fun k=>@zkx its name rng k);have HNO:=zH (fun k=>@ziN its name rng k);have HLE:=zH (zeb its name rng);have HS0:Hid (xJ its name rng 0=[]):=by show _=_;rfl
 clear h hv hr;generalize xJ its name rng=am at *;generalize (tp rng).length=tl at *;go_enter Tryz.func149,Tryz.ntmps149;go_wp2_with fail;go_loopw [7,12] (fun oV iV wr=>∃(i:Nat),i<=its.length/\iV=.int .i64 i/\wr.ownsRow w.heap.size 3 1 oV (am i).length (zd ((am i).map fun (k:Nat)=>(k:Int)))/\zB w wr) (fun _ iV _=>its.length-(intOf iV).toNat)
 case atStart=>exact⟨0,Nat.zero_le _,rfl,by rw[HS0.out];exact World.ownsRow_nil _ _ _ _,Below.refl _ _⟩
 case round =>
  obtain⟨i,hih,rfl,hrow,hbw⟩:=hrel;obtain⟨oa,oc,rfl,-⟩:=(zj hrow).form;have HROW:=zH hrow;have HBW:=zH hbw;have hale:=HLE.out i
  by_cases hlt:i<its.length
  ·obtain⟨g,cap',e,hg,c0,c1,c2,c3⟩:=(show qP wr (.slice ia its.length ic) its from HI.out.below hbw zN).at i hlt;simp at e;obtain⟨rfl,rfl⟩:=e;have hii0:(0:Int)<=(i:Int):=by omega
   have hii1:(i:Int)<(its.length:Int):=by omega
   have hY:=HY.out i;have hN:=HNO.out i;generalize its.getD i default=X at *;have HYI:=zH hY;have HNI:=zH hN;have HBX:=HBF.out X;have HHX:=zH (fun W hW=>HHAS.out W X hW);have hA:zB wr (wr.alloc (.cells #[.string X.name,.int .i64 X.a,.int .i64 X.b,.int .i64 X.c] 93)):=zF.alloc zN _;have HKN:=zH (Blk.new wr 93 #[.string X.name,.int .i64 X.a,.int .i64 X.b,.int .i64 X.c]);have HR3:=zH (zm hrow hA);have HB3:Hid (zB w (wr.alloc (.cells #[.string X.name,.int .i64 X.a,.int .i64 X.b,.int .i64 X.c] 93))):=zT hbw hA;clear hrow hbw hA hY hN HROW HBW HY HNO HHAS HBF;go_upto_region 5 with fail;generalize wr.alloc (.cells #[.string X.name,.int .i64 X.a,.int .i64 X.b,.int .i64 X.c] 93)=W3 at *;clear c0 c1 c2 c3;have c0:=HKN.out.cell 0;have c1:=HKN.out.cell 1;have c2:=HKN.out.cell 2;have c3:=HKN.out.cell 3
   by_cases hnm:X.name=name
   ·have hnb:(X.name.toList==name.toList)=true:=by rw[hnm];simp
    rcases HBX with ⟨hbt,hft⟩|⟨hbt,hft⟩
    ·have HA:Hid (am (i+1)=am i++[i]):=HYI.out hnm hft;have HQ:Hid (∀W,zB w W->zR 217 #[.slice va tl vc,.agg #[.int .i64 X.a,.int .i64 X.b,.int .i64 X.c]] W (.bool true)):=fun W hW=>by have:=HHX.out W hW;rw[hbt] at this;exact this
     clear HHX hbt hft hnm HYI HNI;go_wp2_with fail;refine(HQ.out _ HB3.out).mono ?_;rintro e x1 ⟨rfl,hb1⟩;have HROW2:=zH (zm HR3.out hb1);have HBX:Hid (zB w x1):=zT HB3.out hb1;have hxs:=HBX.out.size;clear hb1 HR3 HB3 HQ c0 c1 c2 c3;go_wp2_with (at_builtin;refine wpList_append_own_at _ rfl _ _ 47 rfl w.heap.size 3 i0 (.int .i64 0) 1 8 Tryz.underlying47 hin hz0 hz1 hz2 rfl (by decide) _ _ _ rfl (HROW2.out.alloc _) ⟨x1.heap.size,0,none⟩ 1 1 [.int .i64 i] rfl rfl ?c1 ?c2 ?c3 ?c4 ?c5 ?_)
     case c1=>exact yJ _ _ _
     case c2=>exact yI _
     case c3=>unfold maxLen;omega
     case c4=>omega
     case c5=>simp;omega
     intro v7 w7 hown7 hgrow7 _ hloc7;have HR7:Hid (w7.ownsRow w.heap.size 3 1 v7 (am (i+1)).length (zd ((am (i+1)).map fun (k:Nat)=>(k:Int)))):=by
      show World.ownsRow _ _ _ _ _ _ _;rw[HA.out,List.map_append,List.map_cons,List.map_nil,yO,List.length_append];exact hown7
     have HB7:Hid (zB w w7):=(zL HBX.out).grown hgrow7 (by simp;omega) (fun k hk=>(HROW2.out.lt k hk).1);clear hown7 hgrow7 hloc7 HROW2 HBX;go_wp2;go_roundw
     case rel=>exact⟨i+1,by omega,by go_num,HR7.out,HB7.out⟩
     case measure=>simp[intOf];omega
    ·have HA:Hid (am (i+1)=am i):=HNI.out fun e=>hft e.2;have HQ:Hid (∀W,zB w W->zR 217 #[.slice va tl vc,.agg #[.int .i64 X.a,.int .i64 X.b,.int .i64 X.c]] W (.bool false)):=fun W hW=>by have:=HHX.out W hW;rw[hbt] at this;exact this
     clear HHX hbt hft hnm HYI HNI;go_wp2_with fail;refine(HQ.out _ HB3.out).mono ?_;rintro e x1 ⟨rfl,hb1⟩;have HR7:Hid (x1.ownsRow w.heap.size 3 1 (.slice oa (am i).length oc) (am (i+1)).length (zd ((am (i+1)).map fun (k:Nat)=>(k:Int)))):=by
      show World.ownsRow _ _ _ _ _ _ _;rw[HA.out];exact zm HR3.out hb1
     have HBX:Hid (zB w x1):=zT HB3.out hb1;clear hb1 HR3 HB3 HQ c0 c1 c2 c3;go_wp2;go_roundw
     case rel=>exact⟨i+1,by omega,by go_num,HR7.out,HBX.out⟩
     case measure=>simp[intOf];omega
   ·have hnb:(X.name.toList==name.toList)=false:=by rw[beq_eq_false_iff_ne];exact fun e=>hnm (xH e)
    have HA:Hid (am (i+1)=am i):=HNI.out fun e=>hnm e.1;have HR7:Hid (W3.ownsRow w.heap.size 3 1 (.slice oa (am i).length oc) (am (i+1)).length (zd ((am (i+1)).map fun (k:Nat)=>(k:Int)))):=by
     show World.ownsRow _ _ _ _ _ _ _;rw[HA.out];exact HR3.out
    clear HHX HBX hnm HYI HNI HR3;go_wp2;go_roundw
    case rel=>exact⟨i+1,by omega,by go_num,HR7.out,HB3.out⟩
    case measure=>simp[intOf];omega
  ·have hni:¬(i:Int)<(its.length:Int):=by omega
   obtain rfl:i=its.length:=by omega
   clear hrow hbw HHAS HBF HY HNO;go_wp2;go_ret;exact⟨_,rfl,HROW.out,HBW.out⟩
end
end Go.Proofs.YtiihalknffbjpaaGreatDoor
