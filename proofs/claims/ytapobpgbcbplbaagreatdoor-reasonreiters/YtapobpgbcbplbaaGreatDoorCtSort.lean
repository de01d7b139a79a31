/- sortItems. -/
import Derived.Test.YtapobpgbcbplbaaGreatDoorCtChkC
import Derived.Deep.CutBlock
set_option maxHeartbeats 4000000
set_option maxRecDepth 100000
namespace Go.Proofs.YtapobpgbcbplbaaGreatDoor
section
open Go.RowKit Go.Shelf Go.Lib Sv
theorem zhX(l:List It)(x:It):Lib.idxBy (fun x y=>decide (x=y)) l x=qQ l x:=by
 have key:∀(l:List It) (i:Nat),Lib.idxByFrom (fun x y=>decide (x=y)) x l i=match l.findIdx? (fun y=>decide (x=y)) with|some k=>((i+k:Nat):Int)|none=>-1:=by
  intro l
  induction l with
  |nil=>intro i;rfl
  |cons y l ih =>
   intro i;rw[Lib.idxByFrom,List.findIdx?_cons]
   by_cases h:x=y
   ·simp[h]
   ·simp only[h,decide_false,Bool.false_eq_true,if_false];rw[ih];cases l.findIdx? (fun y=>decide (x=y)) with
    |none=>rfl
    |some k =>show (((i+1+k:Nat)):Int)=((i+(k+1):Nat):Int);rw[show i+1+k=i+(k+1) by omega]
 unfold Lib.idxBy qQ;rw[key];cases l.findIdx? (fun y=>decide (x=y)) with
 |none=>rfl
 |some k=>simp
theorem znS(l:List It)(x:It):(l.any fun y=>decide (x=y))=decide (x∈l):=by
 rw[Bool.eq_iff_iff];simp only[List.any_eq_true,decide_eq_true_eq];constructor
 ·rintro⟨y,hy,rfl⟩;exact hy
 ·intro h;exact⟨x,h,rfl⟩
theorem zfq{w:World}{v:Value}{l:List It}(h:yJ w v l)(hl:0<l.length):∃g cap,v=.slice (some ⟨g,0,none⟩) l.length cap/\g<w.heap.size/\∀j,j<l.length->∀(i:Nat) u,(qn l[j]!)[i]?=some u->w.cell? ⟨g,0+j*4+i,none⟩=some u:=by
 obtain⟨g,cap,e,hg,hc⟩:=h.cells hl;refine⟨g,cap,e,hg,fun j hj i u hu=>?_⟩;rw[Nat.zero_add];refine hc _ _ (Qw l j hj i u ?_);rw[<-hu,List.getD_eq_getElem?_getD,List.getElem?_eq_getElem hj,getElem!_pos l j hj];rfl
theorem Qi{w:World}{B:Nat}{W:World}(h:Below B w W)(n:Nat):Below B w (W.drewN n):=⟨h.os,h.tape,h.output,h.size,h.block⟩
theorem zde(a:Option Addr)(c:Nat)(n:ByteArray)(x y z:Int)(w:World) :
  zR 61 #[.slice a 0 c,.agg #[.string n,.int .i64 x,.int .i64 y,.int .i64 z]] w (.int .i64 (-1)):=by
 have hB:Hid (zB w (w.alloc (.cells #[.string n,.int .i64 x,.int .i64 y,.int .i64 z] 92))):=(Below.refl _ w).alloc zN _;go_enter Tryz.func61,Tryz.ntmps61;go_wp2_with fail;go_loop [8] (fun i=>i=.int .i64 0) (fun _=>0)
 case atStart=>rfl
 case round =>subst hrel;go_wp2;go_ret;exact⟨rfl,hB.out⟩
theorem zhh(l:List It)(x:It)(v:Value)(w:World)(h:yJ w v l)(hl:l.length<=100000) :
  zR 61 #[v,.agg #[.string x.name,.int .i64 x.a,.int .i64 x.b,.int .i64 x.c]] w (.int .i64 (qQ l x)):=by
 by_cases h0:0<l.length
 ·obtain⟨g,cap,rfl,hg,hc⟩:=zfq h h0;refine(AnyQ.slices_Index Tryz.ixItem 4 Tryz.isAgg92 Tryz.sizeOf92 qn (fun _=>rfl) _ zem g 0 l.length cap l x w zN (by omega) hc).mono fun e w' ⟨he,q,hq⟩=>?_;rw[List.take_length,zhX] at he;refine⟨he,?_⟩;rw[hq];exact Qi ((Below.refl _ w).alloc zN _) q
 ·obtain rfl:l=[]:=by cases l with|nil=>rfl|cons a l=>simp at h0
  obtain⟨a,cap,rfl,-⟩:=h.form;exact zde a cap x.name x.a x.b x.c w
theorem zj0(a:Option Addr)(c:Nat)(x:It)(w:World) :
  zR 92 #[.slice a 0 c,.agg #[.string x.name,.int .i64 x.a,.int .i64 x.b,.int .i64 x.c]] w (.bool false):=by
 have H:Hid (∀W,zR 61 #[.slice a 0 c,.agg #[.string x.name,.int .i64 x.a,.int .i64 x.b,.int .i64 x.c]] W (.int .i64 (-1))):=fun W=>zde a c x.name x.a x.b x.c W;have k0:=Blk.new w 92 #[.string x.name,.int .i64 x.a,.int .i64 x.b,.int .i64 x.c];have hB:zB w (w.alloc (.cells #[.string x.name,.int .i64 x.a,.int .i64 x.b,.int .i64 x.c] 92)):=(Below.refl _ w).alloc zN _;have HB:=zH hB;clear k0 hB;generalize x.name=n at *;generalize x.a=xa at *;generalize x.b=xb at *;generalize x.c=xc at *;go_enter Tryz.func92,Tryz.ntmps92;go_wp2_with fail;refine(H.out _).mono ?_;rintro e w1 ⟨rfl,hb1⟩;have HB1:Hid (zB w w1):=zT HB.out hb1;clear hb1 H HB;go_wp2;go_ret;exact⟨rfl,HB1.out⟩
theorem zjv(l:List It)(x:It)(v:Value)(w:World)(h:yJ w v l)(hl:l.length<=100000) :
  zR 92 #[v,.agg #[.string x.name,.int .i64 x.a,.int .i64 x.b,.int .i64 x.c]] w (.bool (decide (x∈l))):=by
 by_cases h0:0<l.length
 ·obtain⟨g,cap,rfl,hg,hc⟩:=zfq h h0;refine(AnyQ.slices_Contains Tryz.hasItem 4 Tryz.isAgg92 Tryz.sizeOf92 qn (fun _=>rfl) _ zem g 0 l.length cap l x w zN (by omega) hc).mono fun e w' ⟨he,hb⟩=>?_;rw[List.take_length,znS] at he;exact⟨he,hb⟩
 ·obtain rfl:l=[]:=by cases l with|nil=>rfl|cons a l=>simp at h0
  obtain⟨a,cap,rfl,-⟩:=h.form;exact(zj0 a cap x w).mono fun e w' ⟨he,hb⟩=>⟨by rw[he];simp,hb⟩
theorem zcq:(Tryz.prog.info? 92).map (fun i=>(i.zero,i.size,i.bytes))=some (some (.agg #[.string ⟨#[]⟩,.int .i64 0,.int .i64 0,.int .i64 0]),4,40):=by kernel_rfl
theorem zfh:(Tryz.prog.info? 38).map (fun i=>(i.zero,i.size,i.bytes))=some (some (.agg #[.int .i64 0,.string ⟨#[]⟩,.int .i64 0,.int .i64 0,.int .i64 0,.string ⟨#[]⟩,.slice none 0 0]),7,88):=by kernel_rfl
theorem zfa(l:List It):∀u∈zQ l,u.oneCell'=true:=by
 intro u hu;obtain⟨x,_,hx⟩:=List.mem_flatMap.1 hu;simp[qn] at hx;rcases hx with rfl|rfl|rfl|rfl<;>rfl
theorem zbW:∀(l:List Ln) (vs:List Value),(∀v∈vs,v.oneCell'=true)->∀u∈qq l vs,u.oneCell'=true
 |[],_,_,u,hu=>by simp[qq] at hu
 |_ :: _,[],_,u,hu=>by simp[qq] at hu
 |x :: l,v :: vs,h,u,hu=>by
  rw[qq] at hu;rcases List.mem_append.1 hu with hu|hu
  ·simp[x8] at hu;rcases hu with rfl|rfl|rfl|rfl|rfl|rfl|rfl
   all_goals first|rfl|exact h _ (by simp)
  ·exact zbW l vs (fun v hv=>h v (by simp[hv])) u hu
theorem qu.one{w:World}{l:List Ln}{vs:List Value}(h:qu w l vs):∀v∈vs,v.oneCell'=true:=by
 intro v hv;obtain⟨i,hi,rfl⟩:=List.getElem_of_mem hv;have h2:=(h.2 i (by rw[<-h.1];exact hi)).1;obtain⟨a,cap,e⟩:=h2.form;rw[List.getD_eq_getElem?_getD,List.getElem?_eq_getElem hi] at e;rw[show vs[i]=_ from e];rfl
theorem zjc(l:List It)(v:Value)(w:World)(h:qT w v l.length (zQ l))(hl:l.length<=100000) :
  zC 59 #[v] w fun e w'=>∃v',e=.returned v'/\w'.ownsRow w.heap.size 92 4 v' l.length (zQ l)/\zB w w':=by
 obtain⟨i0,hi,hz0,hz1,hz2⟩:=info_parts zcq;obtain⟨a,cap,rfl,hn,-,-,had⟩:=h.form;rcases had with rfl|⟨g,rfl⟩
 ·obtain rfl:l=[]:=by
   cases l with
   |nil=>rfl
   |cons x l=>obtain⟨g,cap',e,_⟩:=h.cells (by simp);simp at e
  refine(AnyE.slices_Clone_nil Tryz.clnItem 0 cap w).mono fun e w' ⟨he,hw⟩=>⟨_,he,World.ownsRow_nil _ _ _ _,by rw[hw];exact Below.refl _ _⟩
 ·refine(AnyE.slices_Clone Tryz.clnItem i0 _ 4 40 hi hz0 hz1 hz2 rfl (by decide) Tryz.sizeOf92 g 0 l.length cap (zQ l) w (Ql l) (by unfold maxLen;omega) (by omega) (fun j u hu=>?_) (zfa l)).mono fun e w' ⟨v',he,h1,_,h3⟩=>⟨v',he,h1,h3⟩;have h0:0<l.length:=by
   have:=(List.getElem?_eq_some_iff.1 hu).1;rw[Ql l] at this;omega
  obtain⟨g',cap',e,hg,hc⟩:=h.cells h0;simp at e;obtain⟨rfl,rfl⟩:=e;rw[Nat.zero_add];exact hc j u hu
theorem zay(l:List Ln)(vs:List Value)(hvs:vs.length=l.length)(hv1:∀v∈vs,v.oneCell'=true)(v:Value)(w:World)(h:qT w v l.length (qq l vs))(hl:l.length<=100000) :
  zC 14 #[v] w fun e w'=>∃v',e=.returned v'/\w'.ownsRow w.heap.size 38 7 v' l.length (qq l vs)/\zB w w':=by
 obtain⟨i0,hi,hz0,hz1,hz2⟩:=info_parts zfh;obtain⟨a,cap,rfl,hn,-,-,had⟩:=h.form;rcases had with rfl|⟨g,rfl⟩
 ·obtain rfl:l=[]:=by
   cases l with
   |nil=>rfl
   |cons x l=>obtain⟨g,cap',e,_⟩:=h.cells (by simp);simp at e
  have hc0:qq [] vs=[]:=by cases vs<;>rfl
  rw[hc0];refine(AnyE.slices_Clone_nil Tryz.clnLine 0 cap w).mono fun e w' ⟨he,hw⟩=>⟨_,he,World.ownsRow_nil _ _ _ _,by rw[hw];exact Below.refl _ _⟩
 ·refine(AnyE.slices_Clone Tryz.clnLine i0 _ 7 88 hi hz0 hz1 hz2 rfl (by decide) Tryz.sizeOf38 g 0 l.length cap (qq l vs) w (Kq l vs hvs) (by unfold maxLen;omega) (by omega) (fun j u hu=>?_) (zbW l vs hv1)).mono fun e w' ⟨v',he,h1,_,h3⟩=>⟨v',he,h1,h3⟩;have h0:0<l.length:=by
   have:=(List.getElem?_eq_some_iff.1 hu).1;rw[Kq l vs hvs] at this;omega
  obtain⟨g',cap',e,hg,hc⟩:=h.cells h0;simp at e;obtain⟨rfl,rfl⟩:=e;rw[Nat.zero_add];exact hc j u hu
end
section
open Go.RowKit Go.Deep Go.Maps Sv
structure GS(w W:World)(bm:Nat)(itV:Value)(its nms:List It):Prop where
 row:W.ownsRow w.heap.size 92 4 itV its.length (zQ its)
 nm:yD W bm nms
 bmB:w.heap.size<=bm
 B:zB w W
theorem GS.step{w W W':World}{bm:Nat}{itV:Value}{its nms:List It}(h:GS w W bm itV its nms)(hb:zB W W'):GS w W' bm itV its nms :=
 ⟨zS h.row hb,h.nm.below hb zN,h.bmB,zT h.B hb⟩
theorem zfp{W:World}{B t k n bm:Nat}{v:Value}{cs:List Value}{l:List It}(h:W.ownsRow B t k v n cs)(hn:yD W bm l):v.ownBlock≠some bm:=by
 obtain⟨D,⟨es,clock,h1,_⟩,_⟩:=hn;rcases h.2 with ⟨rfl,_⟩|⟨g,cap,cur,rfl,_,hg,_⟩
 ·simp[Value.ownBlock]
 ·intro e;simp only[Value.ownBlock,Option.some.injEq] at e;subst e;rw[h1] at hg;cases hg
theorem znA{W W':World}{B t k n bm:Nat}{v:Value}{cs:List Value}(h:W.ownsRow B t k v n cs)(hg:W.grownBy W' (some bm))(hne:v.ownBlock≠some bm):W'.ownsRow B t k v n cs:=by
 obtain⟨h1,h2⟩:=h;refine⟨h1,?_⟩;rcases h2 with h2|⟨g,cap,cur,rfl,hB,hh,r⟩
 ·exact Or.inl h2
 ·exact Or.inr ⟨g,cap,cur,rfl,hB,(hg.block g (Array.getElem?_eq_some_iff.1 hh).1 (fun e=>hne e)).trans hh,r⟩
theorem GS.put{w W:World}{bm:Nat}{itV:Value}{its nms:List It}(h:GS w W bm itV its nms)(hl:nms.length<1000000){x:It}(hs:x.name.size<=100000) :
  ∃W',(Instr.mapUpdate 188 (.map (some bm)) (.string x.name) (.agg #[])).run Tryz.prog W=.ok () W'/\GS w W' bm itV its (nms++[x])/\(∀b t cs,Blk W b t cs->Blk W' b t cs):=by
 obtain⟨W',hrun,h1,h2⟩:=h.nm.put hl hs;refine⟨W',hrun,⟨znA h.row h2 (zfp h.row h.nm),h1,h.bmB,h.B.grown h2 h.B.size (fun k hk=>by cases hk;exact h.bmB)⟩,fun b t cs hb=>?_⟩;refine hb.kept h2 (fun e=>?_);obtain⟨D,⟨es,clock,h3,_⟩,_⟩:=h.nm;cases e;rw[show W.heap[bm]?=_ from hb] at h3;cases h3
theorem GS.app{w W W':World}{bm:Nat}{itV v':Value}{its nms:List It}{x:It}(h:GS w W bm itV its nms)(hown:W'.ownsRow w.heap.size 92 4 v' (its.length+1) (zQ its++qn x))(hg:W.grownBy W' itV.ownBlock):GS w W' bm v' (its++[x]) nms:=by
 refine⟨?_,h.nm.block (hg.block bm h.nm.lt (fun e=>zfp h.row h.nm e.symm)),h.bmB,h.B.grown hg h.B.size (fun k hk=>(h.row.lt k hk).1)⟩;rw[zlZ,List.length_append];simpa[zQ] using hown
theorem XK(w:World)(A B C D:Value)(t:TypeId):∀(j:Nat) (u:Value),[A,B,C,D][j]?=some u->(w.alloc (.cells #[A,B,C,D] t)).cell? (Addr.add ⟨w.heap.size,0,none⟩ j)=some u:=by
 intro j u h
 match j,h with
 |0,h=>simp at h;subst h;simp[Addr.add]
 |1,h=>simp at h;subst h;simp[Addr.add]
 |2,h=>simp at h;subst h;simp[Addr.add]
 |3,h=>simp at h;subst h;simp[Addr.add]
 |j+4,h=>simp at h
def zk5(w:World)(r:Except (Int × Nat) (List It))(e:Ending)(w':World):Prop :=
 match r with
 |.ok its=>∃v,e=.returned (.tuple #[v,.nilIface])/\w'.ownsRow w.heap.size 92 4 v its.length (zQ its)/\zB w w'
 |.error (k,i)=>∃N,e=.returned (.tuple #[.slice none 0 0,.iface 83 (.pointer (some ⟨N,0,none⟩))])/\Blk w' N 86 #[.int .i64 k,.int .i64 i]/\zB w w'
theorem znH{ls:List Ln}{i:Nat}(hi:i<ls.length)(its:List It):ql (ls.drop i) i its=(if qJ (ls.getD i default) ≠ 0 then .error (qJ (ls.getD i default),i)
  else if (ls.getD i default).kind=1 then
   if (ls.getD i default).it∈its then .error (9,i)
   else if 8<qX (its++[(ls.getD i default).it])\/its.length=24 then .error (4,i)
   else ql (ls.drop (i+1)) (i+1) (its++[(ls.getD i default).it])
  else ql (ls.drop (i + 1)) (i + 1) its):=by
 rw[zfr (d:=default) hi,ql]
theorem zed{x:Ln}(h:qJ x=0):x.name.size<=12:=by
 unfold qJ at h;split at h
 ·cases h
 ·split at h
  ·cases h
  ·rename_i h2
   by_cases hn:zV x.name
   ·exact hn.len
   ·exact absurd (Or.inl hn) h2
end
section
open Go.RowKit Go.Deep Go.Maps Sv
theorem zds(ls:List Ln)(lv:Value)(w:World)(h:xj w lv ls)(hl:ls.length<=100000) :
  zC 56 #[lv] w (zk5 w (ql ls 0 [])):=by
 obtain⟨R,hR⟩:∃R,ql ls 0 []=R:=⟨_,rfl⟩;rw[hR];have HR:=zH hR;have HL:=zH h;clear hR;obtain⟨la,lc,rfl,-⟩:∃la lc,lv=.slice la ls.length lc/\True:=by obtain⟨vs,_,h2⟩:=h;obtain⟨a,c,e,_⟩:=h2.form;exact⟨a,c,e,trivial⟩
 clear h;have hg0:GS w (w.alloc (.map #[] 0)) w.heap.size (.slice none 0 0) [] []:=⟨World.ownsRow_nil _ _ _ _,yD.made w,Nat.le_refl _,(Below.refl _ w).alloc zN _⟩;have HG0:=zH hg0;clear hg0;obtain⟨i0,hin,hz0,hz1,hz2⟩:=info_parts zcq;have hmm:=@run_makeMap Tryz.prog;go_enter Tryz.func56,Tryz.ntmps56;go_wp2_with fail;clear hmm;go_loopw [4,13] (fun itV iV wr=>∃(i:Nat) (its:List It),i<=ls.length/\iV=.int .i64 i/\its.length<=i/\ql (ls.drop i) i its=R/\GS w wr w.heap.size itV its its) (fun _ iV _=>ls.length-(intOf iV).toNat)
 case atStart=>exact⟨0,[],Nat.zero_le _,rfl,Nat.le_refl _,by rw[List.drop_zero];exact HR.out,HG0.out⟩
 case round =>
  obtain⟨i,its,hi,rfl,hil,hga,hgs⟩:=hrel;clear HR HG0;obtain⟨iva,ivc,rfl,-⟩:=(zD hgs.row).form
  by_cases hlt:i<ls.length
  ·obtain⟨g,cap',rv,e,hg,hsp,hrg,c0,c1,c2,c3,c4,c5,c6⟩:=(HL.out.below hgs.B zN).at i hlt;simp at e;obtain⟨rfl,rfl⟩:=e;rw[znH hlt] at hga;have HGA:=zH hga;clear hga hrg;generalize ls.getD i default=x at *;have HSP:=zH hsp;obtain⟨rra,rrc,rfl⟩:=hsp.form;clear hsp;have kx:=Blk.new wr 38 #[.int .i64 x.kind,.string x.name,.int .i64 x.a,.int .i64 x.b,.int .i64 x.c,.string x.other,.slice rra x.rng.length rrc];have hbx:zB wr (wr.alloc (.cells #[.int .i64 x.kind,.string x.name,.int .i64 x.a,.int .i64 x.b,.int .i64 x.c,.string x.other,.slice rra x.rng.length rrc] 38)):=zF.alloc zN _;have HG1:Hid (GS w (wr.alloc (.cells #[.int .i64 x.kind,.string x.name,.int .i64 x.a,.int .i64 x.b,.int .i64 x.c,.string x.other,.slice rra x.rng.length rrc] 38)) w.heap.size (.slice iva its.length ivc) its its):=hgs.step hbx;have HCHK:=zH (zmb x (.slice rra x.rng.length rrc) (wr.alloc (.cells #[.int .i64 x.kind,.string x.name,.int .i64 x.a,.int .i64 x.b,.int .i64 x.c,.string x.other,.slice rra x.rng.length rrc] 38)) (HSP.out.below hbx zN));have HNM:Hid (qJ x=0->x.name.size<=12):=zed;clear hgs hbx HSP;go_upto_region 6 with fail;clear c0 c1 c2 c3 c4 c5 c6;generalize wr.alloc (.cells #[.int .i64 x.kind,.string x.name,.int .i64 x.a,.int .i64 x.b,.int .i64 x.c,.string x.other,.slice rra x.rng.length rrc] 38)=W1 at *;generalize wr.heap.size=bx at *;have d0:_=some (Value.int .i64 x.kind):=kx.cell 0;have d1:_=some (Value.string x.name):=kx.cell 1;have d2:_=some (Value.int .i64 x.a):=kx.cell 2;have d3:_=some (Value.int .i64 x.b):=kx.cell 3;have d4:_=some (Value.int .i64 x.c):=kx.cell 4;have d5:_=some (Value.string x.other):=kx.cell 5;have d6:_=some (Value.slice rra x.rng.length rrc):=kx.cell 6;go_wp2_with fail;clear d0 d1 d2 d3 d4 d5 d6;refine HCHK.out.mono ?_;rintro e w2 ⟨rfl,hb2⟩;have kx2:=kx.below hb2 kx.lt;have HG2:=zH (HG1.out.step hb2);clear HCHK hb2 kx HG1
   by_cases hz:qJ x=0
   ·have hnm:=HNM.out hz;rw[hz] at HGA ⊢;rw[if_neg (by simp)] at HGA;clear hz HNM
    by_cases hk:x.kind=1
    ·rw[if_pos hk] at HGA;have d0:_=some (Value.int .i64 x.kind):=kx2.cell 0;have d1:_=some (Value.string x.name):=kx2.cell 1;have d2:_=some (Value.int .i64 x.a):=kx2.cell 2;have d3:_=some (Value.int .i64 x.b):=kx2.cell 3;have d4:_=some (Value.int .i64 x.c):=kx2.cell 4;have d5:_=some (Value.string x.other):=kx2.cell 5;have d6:_=some (Value.slice rra x.rng.length rrc):=kx2.cell 6;rw[hk] at d0;have ki:=Blk.new w2 92 #[.string x.name,.int .i64 x.a,.int .i64 x.b,.int .i64 x.c];have hbi:zB w2 (w2.alloc (.cells #[.string x.name,.int .i64 x.a,.int .i64 x.b,.int .i64 x.c] 92)):=zF.alloc zN _;have HG3:=zH (HG2.out.step hbi);have kx3:=kx2.below hbi kx2.lt;clear hbi HG2 kx2;go_upto_region 9 with fail;clear d0 d1 d2 d3 d4 d5 d6;generalize w2.alloc (.cells #[.string x.name,.int .i64 x.a,.int .i64 x.b,.int .i64 x.c] 92)=W3 at *;generalize w2.heap.size=bi at *;obtain⟨w4,hrun,hgs4,hkeep⟩:=HG3.out.put (by omega) (x:=x.it) (show x.name.size<=100000 by omega);have hrun':(Instr.mapUpdate 188 (.map (some w.heap.size)) (.string x.name) (.agg #[])).run Tryz.prog W3=.ok () w4:=hrun;have ki4:=hkeep _ _ _ ki;have kx4:=hkeep _ _ _ kx3;have HG4:=zH hgs4;clear hrun hgs4 hkeep HG3;have d1:_=some (Value.string x.name):=kx3.cell 1;go_upto_region 10 with fail;clear d1 hrun' ki kx3;have hm0:=zjv its x.it (.slice iva its.length ivc) w4 (zD HG4.out.row) (by omega)
     by_cases hm:x.it∈its
     ·rw[if_pos hm] at HGA;have HHAS:Hid (zR 92 #[.slice iva its.length ivc,.agg #[.string x.name,.int .i64 x.a,.int .i64 x.b,.int .i64 x.c]] w4 (.bool true)):=by have h:=hm0;rw[decide_eq_true hm] at h;exact h
      clear hm hm0;have e0:_=some (Value.string x.name):=ki4.cell 0;have e1:_=some (Value.int .i64 x.a):=ki4.cell 1;have e2:_=some (Value.int .i64 x.b):=ki4.cell 2;have e3:_=some (Value.int .i64 x.c):=ki4.cell 3;go_wp2_with fail;clear e0 e1 e2 e3;refine HHAS.out.mono ?_;rintro e w5 ⟨rfl,hb5⟩;have ki5:=ki4.below hb5 ki4.lt;have HG5:=zH (HG4.out.step hb5);clear HHAS hb5 ki4 HG4 kx4;have f0:_=some (Value.string x.name):=ki5.cell 0;have f1:_=some (Value.int .i64 x.a):=ki5.cell 1;have f2:_=some (Value.int .i64 x.b):=ki5.cell 2;have f3:_=some (Value.int .i64 x.c):=ki5.cell 3;have HROW:=zH HG5.out.row;have HGA5:=zH (HG5.out.step ((Below.refl _ w5).alloc zN (.cells #[.string x.name,.int .i64 x.a,.int .i64 x.b,.int .i64 x.c] 92)));have hws:=HG5.out.B.size;go_wp2_with (at_builtin;refine wpList_append_own_at _ rfl _ _ 56 rfl w.heap.size 92 i0 (.agg #[.string ⟨#[]⟩,.int .i64 0,.int .i64 0,.int .i64 0]) 4 40 Tryz.underlying56 hin hz0 hz1 hz2 rfl (by decide) _ _ _ rfl (HROW.out.alloc _) ⟨w5.heap.size,0,none⟩ 1 1 [.string x.name,.int .i64 x.a,.int .i64 x.b,.int .i64 x.c] rfl rfl ?c1a ?c2a ?c3a ?c4a ?c5a ?_)
      case c1a=>exact XK _ _ _ _ _ _
      case c2a=>intro u hu;simp at hu;rcases hu with rfl|rfl|rfl|rfl<;>rfl
      case c3a=>unfold maxLen;omega
      case c4a=>omega
      case c5a=>simp;omega
      intro v7 w7 hown7 hgrow7 _ hloc7;have HG7:Hid (GS w w7 w.heap.size v7 (its++[x.it]) (its++[x.it])):=HGA5.out.app hown7 hgrow7;clear hown7 hgrow7 hloc7 HGA5 HROW f0 f1 f2 f3 hws;have HBF:Hid (zB w (w7.alloc (.cells #[.int .i64 9,.int .i64 i] 86))):=zL HG7.out.B;have HKF:Hid (Blk (w7.alloc (.cells #[.int .i64 9,.int .i64 i] 86)) w7.heap.size 86 #[.int .i64 9,.int .i64 i]):=Blk.new _ _ _;clear HG7;go_wp2;go_ret2;rw[<-HGA.out];exact⟨_,rfl,HKF.out,HBF.out⟩
     ·rw[if_neg hm] at HGA;have HHAS:Hid (zR 92 #[.slice iva its.length ivc,.agg #[.string x.name,.int .i64 x.a,.int .i64 x.b,.int .i64 x.c]] w4 (.bool false)):=by have h:=hm0;rw[decide_eq_false hm] at h;exact h
      clear hm hm0;have e0:_=some (Value.string x.name):=ki4.cell 0;have e1:_=some (Value.int .i64 x.a):=ki4.cell 1;have e2:_=some (Value.int .i64 x.b):=ki4.cell 2;have e3:_=some (Value.int .i64 x.c):=ki4.cell 3;go_wp2_with fail;clear e0 e1 e2 e3;refine HHAS.out.mono ?_;rintro e w5 ⟨rfl,hb5⟩;have ki5:=ki4.below hb5 ki4.lt;have HG5:=zH (HG4.out.step hb5);clear HHAS hb5 ki4 HG4 kx4;have hlenN:=fun ty=>HG5.out.nm.len ty;generalize hN:qX (its++[x.it])=N at *;clear hN
      by_cases h8:8<N
      ·rw[if_pos (Or.inl h8)] at HGA;have h8':(8:Int)<(N:Int):=by omega
       have f0:_=some (Value.string x.name):=ki5.cell 0;have f1:_=some (Value.int .i64 x.a):=ki5.cell 1;have f2:_=some (Value.int .i64 x.b):=ki5.cell 2;have f3:_=some (Value.int .i64 x.c):=ki5.cell 3;have HROW:=zH HG5.out.row;have HGA5:=zH (HG5.out.step ((Below.refl _ w5).alloc zN (.cells #[.string x.name,.int .i64 x.a,.int .i64 x.b,.int .i64 x.c] 92)));have hws:=HG5.out.B.size;go_wp2_with (at_builtin;refine wpList_append_own_at _ rfl _ _ 56 rfl w.heap.size 92 i0 (.agg #[.string ⟨#[]⟩,.int .i64 0,.int .i64 0,.int .i64 0]) 4 40 Tryz.underlying56 hin hz0 hz1 hz2 rfl (by decide) _ _ _ rfl (HROW.out.alloc _) ⟨w5.heap.size,0,none⟩ 1 1 [.string x.name,.int .i64 x.a,.int .i64 x.b,.int .i64 x.c] rfl rfl ?c1b ?c2b ?c3b ?c4b ?c5b ?_)
       case c1b=>exact XK _ _ _ _ _ _
       case c2b=>intro u hu;simp at hu;rcases hu with rfl|rfl|rfl|rfl<;>rfl
       case c3b=>unfold maxLen;omega
       case c4b=>omega
       case c5b=>simp;omega
       intro v7 w7 hown7 hgrow7 _ hloc7;have HG7:Hid (GS w w7 w.heap.size v7 (its++[x.it]) (its++[x.it])):=HGA5.out.app hown7 hgrow7;clear hown7 hgrow7 hloc7 HGA5 HROW f0 f1 f2 f3 hws;have HBF:Hid (zB w (w7.alloc (.cells #[.int .i64 4,.int .i64 i] 86))):=zL HG7.out.B;have HKF:Hid (Blk (w7.alloc (.cells #[.int .i64 4,.int .i64 i] 86)) w7.heap.size 86 #[.int .i64 4,.int .i64 i]):=Blk.new _ _ _;clear HG7;go_wp2;go_ret2;rw[<-HGA.out];exact⟨_,rfl,HKF.out,HBF.out⟩
      ·have h8':¬(8:Int)<(N:Int):=by omega
       by_cases h24:its.length=24
       ·rw[if_pos (Or.inr h24)] at HGA;have hq:((its.length:Int)==24)=true:=by rw[h24];rfl
        clear h24;have f0:_=some (Value.string x.name):=ki5.cell 0;have f1:_=some (Value.int .i64 x.a):=ki5.cell 1;have f2:_=some (Value.int .i64 x.b):=ki5.cell 2;have f3:_=some (Value.int .i64 x.c):=ki5.cell 3;have HROW:=zH HG5.out.row;have HGA5:=zH (HG5.out.step ((Below.refl _ w5).alloc zN (.cells #[.string x.name,.int .i64 x.a,.int .i64 x.b,.int .i64 x.c] 92)));have hws:=HG5.out.B.size;go_wp2_with (at_builtin;refine wpList_append_own_at _ rfl _ _ 56 rfl w.heap.size 92 i0 (.agg #[.string ⟨#[]⟩,.int .i64 0,.int .i64 0,.int .i64 0]) 4 40 Tryz.underlying56 hin hz0 hz1 hz2 rfl (by decide) _ _ _ rfl (HROW.out.alloc _) ⟨w5.heap.size,0,none⟩ 1 1 [.string x.name,.int .i64 x.a,.int .i64 x.b,.int .i64 x.c] rfl rfl ?c1c ?c2c ?c3c ?c4c ?c5c ?_)
        case c1c=>exact XK _ _ _ _ _ _
        case c2c=>intro u hu;simp at hu;rcases hu with rfl|rfl|rfl|rfl<;>rfl
        case c3c=>unfold maxLen;omega
        case c4c=>omega
        case c5c=>simp;omega
        intro v7 w7 hown7 hgrow7 _ hloc7;have HG7:Hid (GS w w7 w.heap.size v7 (its++[x.it]) (its++[x.it])):=HGA5.out.app hown7 hgrow7;clear hown7 hgrow7 hloc7 HGA5 HROW f0 f1 f2 f3 hws;have HBF:Hid (zB w (w7.alloc (.cells #[.int .i64 4,.int .i64 i] 86))):=zL HG7.out.B;have HKF:Hid (Blk (w7.alloc (.cells #[.int .i64 4,.int .i64 i] 86)) w7.heap.size 86 #[.int .i64 4,.int .i64 i]):=Blk.new _ _ _;clear HG7;go_wp2;go_ret2;rw[<-HGA.out];exact⟨_,rfl,HKF.out,HBF.out⟩
       ·rw[if_neg (fun h=>h.elim h8 h24)] at HGA;have hq:((its.length:Int)==24)=false:=by rw[beq_eq_false_iff_ne];omega
        clear h24;have f0:_=some (Value.string x.name):=ki5.cell 0;have f1:_=some (Value.int .i64 x.a):=ki5.cell 1;have f2:_=some (Value.int .i64 x.b):=ki5.cell 2;have f3:_=some (Value.int .i64 x.c):=ki5.cell 3;have HROW:=zH HG5.out.row;have HGA5:=zH (HG5.out.step ((Below.refl _ w5).alloc zN (.cells #[.string x.name,.int .i64 x.a,.int .i64 x.b,.int .i64 x.c] 92)));have hws:=HG5.out.B.size;go_wp2_with (at_builtin;refine wpList_append_own_at _ rfl _ _ 56 rfl w.heap.size 92 i0 (.agg #[.string ⟨#[]⟩,.int .i64 0,.int .i64 0,.int .i64 0]) 4 40 Tryz.underlying56 hin hz0 hz1 hz2 rfl (by decide) _ _ _ rfl (HROW.out.alloc _) ⟨w5.heap.size,0,none⟩ 1 1 [.string x.name,.int .i64 x.a,.int .i64 x.b,.int .i64 x.c] rfl rfl ?c1d ?c2d ?c3d ?c4d ?c5d ?_)
        case c1d=>exact XK _ _ _ _ _ _
        case c2d=>intro u hu;simp at hu;rcases hu with rfl|rfl|rfl|rfl<;>rfl
        case c3d=>unfold maxLen;omega
        case c4d=>omega
        case c5d=>simp;omega
        intro v7 w7 hown7 hgrow7 _ hloc7;have HG7:Hid (GS w w7 w.heap.size v7 (its++[x.it]) (its++[x.it])):=HGA5.out.app hown7 hgrow7;clear hown7 hgrow7 hloc7 HGA5 HROW f0 f1 f2 f3 hws;go_wp2;go_roundw
        case rel=>exact⟨i+1,its++[x.it],by omega,by go_num,by simp;omega,HGA.out,HG7.out⟩
        case measure=>simp[intOf];omega
    ·rw[if_neg hk] at HGA;have hk2:(x.kind==1)=false:=by simpa using hk
     have d0:_=some (Value.int .i64 x.kind):=kx2.cell 0;clear kx2 hk;go_wp2;go_roundw
     case rel=>exact⟨i+1,its,by omega,by go_num,by omega,HGA.out,HG2.out⟩
     case measure=>simp[intOf];omega
   ·have hz2:(qJ x==0)=false:=by simpa using hz
    rw[if_pos hz] at HGA;generalize qJ x=E at *;have HBF:Hid (zB w (w2.alloc (.cells #[.int .i64 E,.int .i64 i] 86))):=zL HG2.out.B;have HKF:Hid (Blk (w2.alloc (.cells #[.int .i64 E,.int .i64 i] 86)) w2.heap.size 86 #[.int .i64 E,.int .i64 i]):=Blk.new _ _ _;clear HG2 kx2 hz HNM;go_wp2;go_ret2;rw[<-HGA.out];exact⟨_,rfl,HKF.out,HBF.out⟩
  ·obtain rfl:i=ls.length:=by omega
   have hga2:R=.ok its:=by rw[<-hga,List.drop_length,ql]
   have HGA:=zH hga2;have HGS:=zH hgs;clear hga hga2 hgs;go_wp2;go_ret2;rw[HGA.out];exact⟨_,rfl,HGS.out.row,HGS.out.B⟩
end
section
open Go.Shelf Go.Lib Go.Sort Sv
theorem znW{α:Type}{c:α->α->Int}(anti:∀x y,c y x=-c x y)(eq0:∀x y,c x y=0->x=y)(tr:∀x y z,c x y<0->c y z<0->c x z<0):SWO (ltOf c) where
 irrefl x:=by have:=anti x x;unfold ltOf;simp;omega
 trans x y z h1 h2:=by unfold ltOf at *;simp at *;exact tr x y z h1 h2
 ntrans x y z h1 h2:=by
  unfold ltOf at *;simp at *
  by_cases h:c x z<0
  ·exfalso
   by_cases e:c x y=0
   ·have:=eq0 x y e;subst this;omega
   ·have h3:c y x<0:=by rw[anti];omega
    have:=tr y x z h3 h;omega
  ·omega
theorem znw{α:Type}{c:α->α->Int}(anti:∀x y,c y x=-c x y)(eq0:∀x y,c x y=0->x=y):∀x y,ltOf c x y=false->ltOf c y x=false->x=y:=by
 intro x y h1 h2;unfold ltOf at *;simp at *;have:=anti x y;exact eq0 x y (by omega)
theorem XL:∀a b:List UInt8,compareBytes b a=-compareBytes a b
 |[],[]=>rfl
 |[],_ :: _=>rfl
 |_ :: _,[]=>rfl
 |x :: a,y :: b=>by
  rw[compareBytes,compareBytes]
  by_cases h:x<y
  ·have h':¬y<x:=fun h2=>absurd (UInt8.lt_trans h h2) (UInt8.lt_irrefl _);rw[if_pos h,if_neg h',if_pos h];rfl
  ·by_cases h':y<x
   ·rw[if_pos h',if_neg h,if_pos h']
   ·rw[if_neg h,if_neg h',if_neg h',if_neg h];exact XL a b
theorem Jb{x y:UInt8}(h:¬x<y)(h':¬y<x):x=y:=UInt8.le_antisymm (UInt8.not_lt.1 h') (UInt8.not_lt.1 h)
theorem zdG:∀a b:List UInt8,compareBytes a b=0->a=b
 |[],[],_=>rfl
 |[],_ :: _,h=>by cases h
 |_ :: _,[],h=>by cases h
 |x :: a,y :: b,h=>by
  rw[compareBytes] at h
  by_cases h1:x<y
  ·rw[if_pos h1] at h;cases h
  ·by_cases h2:y<x
   ·rw[if_neg h1,if_pos h2] at h;cases h
   ·rw[if_neg h1,if_neg h2] at h;rw[Jb h1 h2,zdG a b h]
theorem zfd:∀a b c:List UInt8,compareBytes a b<0->compareBytes b c<0->compareBytes a c<0
 |[],_,[],h1,h2=>by
  rename_i b;cases b with
  |nil=>exact h1
  |cons y b=>exact absurd (show (1:Int)<0 from h2) (by decide)
 |[],_,_ :: _,_,_=>show (-1:Int)<0 by decide
 |_ :: _,[],_,h1,_=>absurd (show (1:Int)<0 from h1) (by decide)
 |_ :: _,_ :: _,[],_,h2=>absurd (show (1:Int)<0 from h2) (by decide)
 |x :: a,y :: b,z :: c,h1,h2=>by
  rw[compareBytes] at h1 h2 ⊢
  by_cases xy:x<y
  ·by_cases yz:y<z
   ·rw[if_pos (UInt8.lt_trans xy yz)];decide
   ·by_cases zy:z<y
    ·rw[if_neg yz,if_pos zy] at h2;exact absurd h2 (by decide)
    ·rw[<-Jb yz zy,if_pos xy];decide
  ·by_cases yx:y<x
   ·rw[if_neg xy,if_pos yx] at h1;exact absurd h1 (by decide)
   ·rw[if_neg xy,if_neg yx] at h1;have e:=Jb xy yx;subst e
    by_cases yz:x<z
    ·rw[if_pos yz];decide
    ·by_cases zy:z<x
     ·rw[if_neg yz,if_pos zy] at h2;exact absurd h2 (by decide)
     ·rw[if_neg yz,if_neg zy] at h2 ⊢;exact zfd a b c h1 h2
theorem XC(a b c d e f:Int):yI (tI a b c) (tI d e f) 3=if a<d then -1 else if d<a then 1 else if b<e then -1 else if e<b then 1 else if c<f then -1 else if f<c then 1 else 0:=by
 show (if yk a d≠0 then yk a d else if yk b e≠0 then yk b e else if yk c f≠0 then yk c f else 0)=_;unfold yk
 by_cases h1:a<d
 ·simp[h1]
 ·by_cases h2:d<a
  ·simp[h1,h2]
  ·by_cases h3:b<e
   ·simp[h1,h2,h3]
   ·by_cases h4:e<b
    ·simp[h1,h2,h3,h4]
    ·by_cases h5:c<f
     ·simp[h1,h2,h3,h4,h5]
     ·by_cases h6:f<c<;>simp[h1,h2,h3,h4,h5,h6]
theorem Jg(a b c d e f:Int):yI (tI a b c) (tI d e f) 3<0↔(a<d\/(a=d/\(b<e\/(b=e/\c<f)))):=by
 rw[XC]
 repeat' split
 all_goals omega
theorem zhk(a b c d e f:Int):yI (tI a b c) (tI d e f) 3=0↔(a=d/\b=e/\c=f):=by
 rw[XC]
 repeat' split
 all_goals omega
theorem zmh(a b c d e f:Int):yI (tI d e f) (tI a b c) 3=-yI (tI a b c) (tI d e f) 3:=by
 rw[XC,XC]
 by_cases h1:a<d
 ·have:¬d<a:=by omega
  simp[h1,this]
 ·by_cases h2:d<a
  ·simp[h1,h2]
  ·by_cases h3:b<e
   ·have:¬e<b:=by omega
    simp[h1,h2,h3,this]
   ·by_cases h4:e<b
    ·simp[h1,h2,h3,h4]
    ·by_cases h5:c<f
     ·have:¬f<c:=by omega
      simp[h1,h2,h3,h4,h5,this]
     ·by_cases h6:f<c<;>simp[h1,h2,h3,h4,h5,h6]
theorem XO{x y:It}:x.name.toList=y.name.toList↔x.name.data.toList=y.name.data.toList:=by rw[ByteArray.toList_eq,ByteArray.toList_eq]
theorem Qe(x y:It):qf y x=-qf x y:=by
 unfold qf
 by_cases h:x.name.toList=y.name.toList
 ·rw[if_pos h,if_pos h.symm];exact zmh _ _ _ _ _ _
 ·rw[if_neg h,if_neg (fun e=>h e.symm)];exact XL _ _
theorem Yj(x y:It)(h:qf x y=0):x=y:=by
 unfold qf at h
 by_cases e:x.name.toList=y.name.toList
 ·rw[if_pos e,zhk] at h;obtain⟨n,a,b,c⟩:=x;obtain⟨n',a',b',c'⟩:=y;obtain rfl:n=n':=QL e;obtain⟨h1,h2,h3⟩:=h;simp only at h1 h2 h3;subst h1 h2 h3;rfl
 ·rw[if_neg e] at h;exact absurd (XO.2 (zdG _ _ h)) e
theorem zab(x y z:It)(h1:qf x y<0)(h2:qf y z<0):qf x z<0:=by
 unfold qf at *
 by_cases e1:x.name.toList=y.name.toList
 ·by_cases e2:y.name.toList=z.name.toList
  ·rw[if_pos e1,Jg] at h1;rw[if_pos e2,Jg] at h2;rw[if_pos (e1.trans e2),Jg];omega
  ·rw[if_neg e2] at h2;rw[if_neg (fun e=>e2 (e1.symm.trans e)),XO.1 e1];exact h2
 ·by_cases e2:y.name.toList=z.name.toList
  ·rw[if_neg e1] at h1;rw[if_neg (fun e=>e1 (e.trans e2.symm)),<-XO.1 e2];exact h1
  ·rw[if_neg e1] at h1;rw[if_neg e2] at h2
   by_cases e3:x.name.toList=z.name.toList
   ·exfalso;rw[<-XO.1 e3,XL] at h2;omega
   ·rw[if_neg e3];exact zfd _ _ _ h1 h2
theorem zl1:SWO (ltOf qf):=znW Qe Yj zab
theorem zkd:∀x y,ltOf qf x y=false->ltOf qf y x=false->x=y:=znw Qe Yj
theorem YP(l:List It):(qL l).Perm l:=List.mergeSort_perm _ _
theorem KU(l:List It):(qL l).length=l.length:=(YP l).length_eq
end
section
open Go.RowKit Go.Shelf Go.Lib Go.Sort Sv
theorem ziB(x y:It)(W:World) :
  zC 94 #[.agg #[.string x.name,.int .i64 x.a,.int .i64 x.b,.int .i64 x.c],.agg #[.string y.name,.int .i64 y.a,.int .i64 y.b,.int .i64 y.c]] W fun e w'=>e=.returned (.int .i64 (qf x y))/\Gr W w':=by
 have hg:Gr W ((W.alloc (.cells #[.string x.name,.int .i64 x.a,.int .i64 x.b,.int .i64 x.c] 92)).alloc (.cells #[.string y.name,.int .i64 y.a,.int .i64 y.b,.int .i64 y.c] 92)):=((Gr.refl W).alloc _).alloc _;have HG:=zH hg;clear hg;have HV:Hid (∀W',zC 95 #[.agg #[.int .i64 y.a,.int .i64 y.b,.int .i64 y.c],.agg #[.int .i64 x.a,.int .i64 x.b,.int .i64 x.c]] W' fun r w'=>r=.returned (.int .i64 (yI (tI y.a y.b y.c) (tI x.a x.b x.c) 3))/\Gr W' w'):=fun W'=>zh2 y.a y.b y.c x.a x.b x.c W';have HN:Hid (∀W',zC 96 #[.string x.name,.string y.name] W' fun r w'=>r=.returned (.int .i64 (compareBytes x.name.data.toList y.name.data.toList))/\w'=W'):=fun W'=>Tryz.strings_Compare x.name y.name W'
 by_cases h:x.name.toList=y.name.toList
 ·have HC:Hid (qf x y=yI (tI y.a y.b y.c) (tI x.a x.b x.c) 3):=by show _=_;unfold qf;rw[if_pos h]
  have hb:(x.name.toList==y.name.toList)=true:=by rw[h];exact beq_self_eq_true _
  clear h HN;generalize yI (tI y.a y.b y.c) (tI x.a x.b x.c) 3=Z at *;go_enter Tryz.func94,Tryz.ntmps94;go_wp2_with fail;refine(HV.out _).mono ?_;rintro e w1 ⟨rfl,hg1⟩;have HG1:Hid (Gr W w1):=HG.out.trans hg1;clear hg1 HG HV;go_wp2;go_ret;exact⟨by rw[HC.out];rfl,HG1.out⟩
 ·have HC:Hid (qf x y=compareBytes x.name.data.toList y.name.data.toList):=by show _=_;unfold qf;rw[if_neg h]
  have hb:(x.name.toList==y.name.toList)=false:=by rw[beq_eq_false_iff_ne];exact h
  clear h HV;generalize compareBytes x.name.data.toList y.name.data.toList=Z at *;go_enter Tryz.func94,Tryz.ntmps94;go_wp2_with fail;refine(HN.out _).mono ?_;rintro e w1 ⟨rfl,rfl⟩;clear HN;go_wp2;go_ret;exact⟨by rw[HC.out];rfl,HG.out⟩
theorem zgg(blk off size:Nat)(w:World):CmpLays Tryz.prog 94 #[] qn 4 qf blk off size w :=
 fun _ _ _ _ x y=>ziB x y _
theorem zcG(l:List It):flatK qn 4 l.toArray=(zQ l).toArray:=by
 apply Array.ext_getElem?;intro t
 by_cases ht:t<l.length*4
 ·have h1:t<(flatK qn 4 l.toArray).size:=by rw[size_flatK];simpa using ht
  have hj:t/4<l.length:=by omega
  have h2:(zQ l)[t]?=some ((qn (l.getD (t/4) default))[t%4]!):=by
   have hlt:t%4<(qn (l.getD (t/4) default)).length:=by simp[qn];omega
   have:=Qw l (t/4) hj (t%4) _ (List.getElem?_eq_getElem hlt);rw[show t/4*4+t%4=t by omega] at this;rw[this,getElem!_pos (qn (l.getD (t/4) default)) (t%4) hlt]
  have e1:(flatK qn 4 l.toArray)[t]?=some ((flatK qn 4 l.toArray)[t]!):=by rw[Array.getElem?_eq_getElem h1,getElem!_pos (flatK qn 4 l.toArray) t h1]
  have e2:(zQ l).toArray[t]?=(zQ l)[t]?:=by simp
  have e3:l.toArray[t/4]! = l.getD (t/4) default:=by
   rw[getElem!_pos l.toArray (t/4) (by simpa using hj),List.getD_eq_getElem?_getD,List.getElem?_eq_getElem hj];rfl
  rw[e1,get_flatK qn 4 _ t (by simpa using ht),e2,h2,e3]
 ·rw[Array.getElem?_eq_none (by rw[size_flatK];simpa using ht),Array.getElem?_eq_none (by simp[Ql];omega)]
theorem JX(l:List It)(v:Value)(B:Nat)(w:World)(h:w.ownsRow B 92 4 v l.length (zQ l))(hl:l.length<=100000) :
  zC 57 #[v] w fun e w'=>e=.returned (.tuple #[])/\w'.ownsRow B 92 4 v l.length (zQ (qL l))/\Below B w w':=by
 have H:Hid (zC 93 #[v,.func (.func 94) #[] #[]] w fun e w'=>e=.returned (.tuple #[])/\w'.ownsRow B 92 4 v l.length (zQ (qL l))/\Below B w w'):=by
  rcases h.2 with ⟨rfl,e0⟩|⟨g,cap,cur,rfl,hB,hg,hn,hm,hsz,htake⟩
  ·obtain rfl:l=[]:=List.eq_nil_of_length_eq_zero e0;refine(AnyF.slices_SortFunc_none Tryz.sortItem none 0 _ w).mono fun e w' ⟨he,hw⟩=>⟨he,?_,by rw[hw];exact Below.refl _ _⟩;rw[hw,show qL []=[] by unfold qL;simp];exact h
  ·have eg:∀args w,(callFunc 94 args).run Tryz.prog w=.ok (.enter 94 args) w:=enters_of Tryz.func94 (by kernel_rfl) rfl;have hlt:g<w.heap.size:=(Array.getElem?_eq_some_iff.1 hg).1;have hH:HoldsK qn 4 w g 0 l.toArray:=by
    intro j hj;rw[size_flatK] at hj;have hj':j<l.length*4:=by simpa using hj
    rw[zcG];have hjl:j<(zQ l).length:=by rw[Ql];exact hj'
    rw[getElem!_pos _ j (by simpa using hjl)];constructor
    ·rw[Nat.zero_add];have hc:cur[j]?=(zQ l)[j]?:=by
      rw[<-htake,List.getElem?_take,if_pos hj',Array.getElem?_toList]
     show w.cell? _=some (zQ l)[j];simp[World.cell?,hg,hc,List.getElem?_eq_getElem hjl]
    ·simp[World.frozen?,hg]
   refine(AnyQ.slices_SortFunc_total Tryz.sortItem 4 Tryz.isAgg92 Tryz.sizeOf92 qn (fun _=>rfl) (fun x u hu=>zfa [x] u (by simpa[zQ] using hu)) qf zl1 94 #[] g 0 cap l.toArray w eg (zgg g 0 _ w) hH hlt (by simp;omega) zkd).mono fun e w' ⟨he,n,os,hw⟩=>⟨he,?_⟩;have hw2:w'=grow (putRow id (Sort.ahead w n) g 0 ((zQ (qL l)).toArray)) os:=by
    rw[hw,<-zcG];rfl
   have hblk:w'.heap[g]?=some (.cells (putCells id 0 (zQ (qL l)).toArray cur) 92 (0,0)):=by
    rw[hw2];show ((putRow id (Sort.ahead w n) g 0 ((zQ (qL l)).toArray)).heap++os)[g]?=_;rw[Array.getElem?_append_left (by simp[putRow,mapBlock,Sort.ahead];exact hlt)];simp[putRow,mapBlock,Sort.ahead,Array.getElem?_modify,hg,onCells]
   refine⟨⟨by rw[Ql,KU],Or.inr ⟨g,cap,_,rfl,hB,hblk,hn,hm,by simp[putCells,hsz],?_⟩⟩,?_⟩
   ·apply List.ext_getElem?;intro t;rw[List.getElem?_take];have hlen:(zQ (qL l)).length=l.length*4:=by rw[Ql,KU]
    by_cases ht:t<l.length*4
    ·have htc:t<cur.size:=by rw[hsz];omega
     rw[if_pos ht,Array.getElem?_toList];simp only[putCells,Array.getElem?_mapIdx,Array.getElem?_eq_getElem htc,Option.map_some];rw[if_pos ⟨Nat.zero_le _,by simp[hlen];exact ht⟩,Nat.sub_zero,getElem!_pos _ t (by simp[hlen];exact ht),List.getElem?_eq_getElem (by rw[hlen];exact ht)];rfl
    ·rw[if_neg ht,List.getElem?_eq_none (by rw[hlen];omega)]
   ·rw[hw2];refine⟨rfl,rfl,rfl,by simp[grow,putRow,mapBlock,Sort.ahead],fun k hk=>?_⟩;show ((putRow id (Sort.ahead w n) g 0 ((zQ (qL l)).toArray)).heap++os)[k]?=_;have hkw:(putRow id (Sort.ahead w n) g 0 ((zQ (qL l)).toArray)).heap[k]?=w.heap[k]?:=by
     simp only[putRow,mapBlock,Sort.ahead,Array.getElem?_modify];rw[if_neg (by omega)]
    rcases Nat.lt_or_ge k w.heap.size with hkl|hkl
    ·rw[Array.getElem?_append_left (by simp[putRow,mapBlock,Sort.ahead];exact hkl),hkw]
    ·exfalso;omega
 obtain⟨a,cap,rfl,-⟩:=(zD h).form;clear h;go_enter Tryz.func57,Tryz.ntmps57;go_wp2_with fail;refine H.out.mono ?_;rintro e w1 ⟨rfl,h1,h2⟩;have H1:=zH h1;have H2:=zH h2;clear h1 h2 H;go_wp2;go_end0;exact⟨rfl,H1.out,H2.out⟩
end
end Go.Proofs.YtapobpgbcbplbaaGreatDoor
