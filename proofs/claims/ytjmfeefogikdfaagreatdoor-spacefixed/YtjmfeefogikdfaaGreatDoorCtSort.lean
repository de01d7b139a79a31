/- sortItems. -/
import Derived.Test.YtjmfeefogikdfaaGreatDoorCtChkC
import Derived.Deep.CutBlock
set_option maxHeartbeats 4000000
set_option maxRecDepth 100000
namespace Go.Proofs.YtjmfeefogikdfaaGreatDoor
section
open Go.RowKit Go.Shelf Go.Lib Sv
theorem zhF(l:List It)(x:It):Lib.idxBy (fun x y=>decide (x=y)) l x=qW l x:=by
 have key:∀(l:List It) (i:Nat),Lib.idxByFrom (fun x y=>decide (x=y)) x l i=match l.findIdx? (fun y=>decide (x=y)) with|some k=>((i+k:Nat):Int)|none=>-1:=by
  intro l
  induction l with
  |nil=>intro i;rfl
  |cons y l ih =>
   intro i;rw[Lib.idxByFrom,List.findIdx?_cons]
   by_cases h:x=y
   ·simp[h]
   ·simp only[h,decide_false,Bool.false_eq_true,if_false];rw[ih];cases l.findIdx? (fun y=>decide (x=y)) with
    |none=>rfl
    |some k =>show (((i+1+k:Nat)):Int)=((i+(k+1):Nat):Int);rw[show i+1+k=i+(k+1) by omega]
 unfold Lib.idxBy qW;rw[key];cases l.findIdx? (fun y=>decide (x=y)) with
 |none=>rfl
 |some k=>simp
theorem zfP(l:List It)(x:It):(l.any fun y=>decide (x=y))=decide (x∈l):=by
 rw[Bool.eq_iff_iff];simp only[List.any_eq_true,decide_eq_true_eq];constructor
 ·rintro⟨y,hy,rfl⟩;exact hy
 ·intro h;exact⟨x,h,rfl⟩
theorem zeP{w:World}{v:Value}{l:List It}(h:yZ w v l)(hl:0<l.length):∃g cap,v=.slice (some ⟨g,0,none⟩) l.length cap/\g<w.heap.size/\∀j,j<l.length->∀(i:Nat) u,(qw l[j]!)[i]?=some u->w.cell? ⟨g,0+j*4+i,none⟩=some u:=by
 obtain⟨g,cap,e,hg,hc⟩:=h.cells hl;refine⟨g,cap,e,hg,fun j hj i u hu=>?_⟩;rw[Nat.zero_add];refine hc _ _ (Qv l j hj i u ?_);rw[<-hu,List.getD_eq_getElem?_getD,List.getElem?_eq_getElem hj,getElem!_pos l j hj];rfl
theorem x7{w:World}{B:Nat}{W:World}(h:Below B w W)(n:Nat):Below B w (W.drewN n):=⟨h.os,h.tape,h.output,h.size,h.block⟩
theorem zez(a:Option Addr)(c:Nat)(n:ByteArray)(x y z:Int)(w:World) :
  zR 78 #[.slice a 0 c,.agg #[.string n,.int .i64 x,.int .i64 y,.int .i64 z]] w (.int .i64 (-1)):=by
 have hB:Hid (zB w (w.alloc (.cells #[.string n,.int .i64 x,.int .i64 y,.int .i64 z] 111))):=(Below.refl _ w).alloc zN _;go_enter Tryz.func78,Tryz.ntmps78;go_wp2_with fail;go_loop [8] (fun i=>i=.int .i64 0) (fun _=>0)
 case atStart=>rfl
 case round =>subst hrel;go_wp2;go_ret;exact⟨rfl,hB.out⟩
theorem zgO(l:List It)(x:It)(v:Value)(w:World)(h:yZ w v l)(hl:l.length<=100000) :
  zR 78 #[v,.agg #[.string x.name,.int .i64 x.a,.int .i64 x.b,.int .i64 x.c]] w (.int .i64 (qW l x)):=by
 by_cases h0:0<l.length
 ·obtain⟨g,cap,rfl,hg,hc⟩:=zeP h h0;refine(AnyQ.slices_Index Tryz.ixItem 4 Tryz.isAgg111 Tryz.sizeOf111 qw (fun _=>rfl) _ zaW g 0 l.length cap l x w zN (by omega) hc).mono fun e w' ⟨he,q,hq⟩=>?_;rw[List.take_length,zhF] at he;refine⟨he,?_⟩;rw[hq];exact x7 ((Below.refl _ w).alloc zN _) q
 ·obtain rfl:l=[]:=by cases l with|nil=>rfl|cons a l=>simp at h0
  obtain⟨a,cap,rfl,-⟩:=h.form;exact zez a cap x.name x.a x.b x.c w
theorem zhY(a:Option Addr)(c:Nat)(x:It)(w:World) :
  zR 108 #[.slice a 0 c,.agg #[.string x.name,.int .i64 x.a,.int .i64 x.b,.int .i64 x.c]] w (.bool false):=by
 have H:Hid (∀W,zR 78 #[.slice a 0 c,.agg #[.string x.name,.int .i64 x.a,.int .i64 x.b,.int .i64 x.c]] W (.int .i64 (-1))):=fun W=>zez a c x.name x.a x.b x.c W;have k0:=Blk.new w 111 #[.string x.name,.int .i64 x.a,.int .i64 x.b,.int .i64 x.c];have hB:zB w (w.alloc (.cells #[.string x.name,.int .i64 x.a,.int .i64 x.b,.int .i64 x.c] 111)):=(Below.refl _ w).alloc zN _;have HB:=zH hB;clear k0 hB;generalize x.name=n at *;generalize x.a=xa at *;generalize x.b=xb at *;generalize x.c=xc at *;go_enter Tryz.func108,Tryz.ntmps108;go_wp2_with fail;refine(H.out _).mono ?_;rintro e w1 ⟨rfl,hb1⟩;have HB1:Hid (zB w w1):=zT HB.out hb1;clear hb1 H HB;go_wp2;go_ret;exact⟨rfl,HB1.out⟩
theorem zhT(l:List It)(x:It)(v:Value)(w:World)(h:yZ w v l)(hl:l.length<=100000) :
  zR 108 #[v,.agg #[.string x.name,.int .i64 x.a,.int .i64 x.b,.int .i64 x.c]] w (.bool (decide (x∈l))):=by
 by_cases h0:0<l.length
 ·obtain⟨g,cap,rfl,hg,hc⟩:=zeP h h0;refine(AnyQ.slices_Contains Tryz.hasItem 4 Tryz.isAgg111 Tryz.sizeOf111 qw (fun _=>rfl) _ zaW g 0 l.length cap l x w zN (by omega) hc).mono fun e w' ⟨he,hb⟩=>?_;rw[List.take_length,zfP] at he;exact⟨he,hb⟩
 ·obtain rfl:l=[]:=by cases l with|nil=>rfl|cons a l=>simp at h0
  obtain⟨a,cap,rfl,-⟩:=h.form;exact(zhY a cap x w).mono fun e w' ⟨he,hb⟩=>⟨by rw[he];simp,hb⟩
theorem zdz:(Tryz.prog.info? 111).map (fun i=>(i.zero,i.size,i.bytes))=some (some (.agg #[.string ⟨#[]⟩,.int .i64 0,.int .i64 0,.int .i64 0]),4,40):=by kernel_rfl
theorem zdM:(Tryz.prog.info? 98).map (fun i=>(i.zero,i.size,i.bytes))=some (some (.agg #[.int .i64 0,.string ⟨#[]⟩,.int .i64 0,.int .i64 0,.int .i64 0,.string ⟨#[]⟩,.slice none 0 0]),7,88):=by kernel_rfl
theorem zbz(l:List It):∀u∈zP l,u.oneCell'=true:=by
 intro u hu;obtain⟨x,_,hx⟩:=List.mem_flatMap.1 hu;simp[qw] at hx;rcases hx with rfl|rfl|rfl|rfl<;>rfl
theorem zec:∀(l:List Ln) (vs:List Value),(∀v∈vs,v.oneCell'=true)->∀u∈qz l vs,u.oneCell'=true
 |[],_,_,u,hu=>by simp[qz] at hu
 |_ :: _,[],_,u,hu=>by simp[qz] at hu
 |x :: l,v :: vs,h,u,hu=>by
  rw[qz] at hu;rcases List.mem_append.1 hu with hu|hu
  ·simp[Zu] at hu;rcases hu with rfl|rfl|rfl|rfl|rfl|rfl|rfl
   all_goals first|rfl|exact h _ (by simp)
  ·exact zec l vs (fun v hv=>h v (by simp[hv])) u hu
theorem qG.one{w:World}{l:List Ln}{vs:List Value}(h:qG w l vs):∀v∈vs,v.oneCell'=true:=by
 intro v hv;obtain⟨i,hi,rfl⟩:=List.getElem_of_mem hv;have h2:=(h.2 i (by rw[<-h.1];exact hi)).1;obtain⟨a,cap,e⟩:=h2.form;rw[List.getD_eq_getElem?_getD,List.getElem?_eq_getElem hi] at e;rw[show vs[i]=_ from e];rfl
theorem zh8(l:List It)(v:Value)(w:World)(h:q8 w v l.length (zP l))(hl:l.length<=100000) :
  zC 76 #[v] w fun e w'=>∃v',e=.returned v'/\w'.ownsRow w.heap.size 111 4 v' l.length (zP l)/\zB w w':=by
 obtain⟨i0,hi,hz0,hz1,hz2⟩:=info_parts zdz;obtain⟨a,cap,rfl,hn,-,-,had⟩:=h.form;rcases had with rfl|⟨g,rfl⟩
 ·obtain rfl:l=[]:=by
   cases l with
   |nil=>rfl
   |cons x l=>obtain⟨g,cap',e,_⟩:=h.cells (by simp);simp at e
  refine(AnyE.slices_Clone_nil Tryz.clnItem 0 cap w).mono fun e w' ⟨he,hw⟩=>⟨_,he,World.ownsRow_nil _ _ _ _,by rw[hw];exact Below.refl _ _⟩
 ·refine(AnyE.slices_Clone Tryz.clnItem i0 _ 4 40 hi hz0 hz1 hz2 rfl (by decide) Tryz.sizeOf111 g 0 l.length cap (zP l) w (Ql l) (by unfold maxLen;omega) (by omega) (fun j u hu=>?_) (zbz l)).mono fun e w' ⟨v',he,h1,_,h3⟩=>⟨v',he,h1,h3⟩;have h0:0<l.length:=by
   have:=(List.getElem?_eq_some_iff.1 hu).1;rw[Ql l] at this;omega
  obtain⟨g',cap',e,hg,hc⟩:=h.cells h0;simp at e;obtain⟨rfl,rfl⟩:=e;rw[Nat.zero_add];exact hc j u hu
theorem zco(l:List Ln)(vs:List Value)(hvs:vs.length=l.length)(hv1:∀v∈vs,v.oneCell'=true)(v:Value)(w:World)(h:q8 w v l.length (qz l vs))(hl:l.length<=100000) :
  zC 74 #[v] w fun e w'=>∃v',e=.returned v'/\w'.ownsRow w.heap.size 98 7 v' l.length (qz l vs)/\zB w w':=by
 obtain⟨i0,hi,hz0,hz1,hz2⟩:=info_parts zdM;obtain⟨a,cap,rfl,hn,-,-,had⟩:=h.form;rcases had with rfl|⟨g,rfl⟩
 ·obtain rfl:l=[]:=by
   cases l with
   |nil=>rfl
   |cons x l=>obtain⟨g,cap',e,_⟩:=h.cells (by simp);simp at e
  have hc0:qz [] vs=[]:=by cases vs<;>rfl
  rw[hc0];refine(AnyE.slices_Clone_nil Tryz.clnLine 0 cap w).mono fun e w' ⟨he,hw⟩=>⟨_,he,World.ownsRow_nil _ _ _ _,by rw[hw];exact Below.refl _ _⟩
 ·refine(AnyE.slices_Clone Tryz.clnLine i0 _ 7 88 hi hz0 hz1 hz2 rfl (by decide) Tryz.sizeOf98 g 0 l.length cap (qz l vs) w (XM l vs hvs) (by unfold maxLen;omega) (by omega) (fun j u hu=>?_) (zec l vs hv1)).mono fun e w' ⟨v',he,h1,_,h3⟩=>⟨v',he,h1,h3⟩;have h0:0<l.length:=by
   have:=(List.getElem?_eq_some_iff.1 hu).1;rw[XM l vs hvs] at this;omega
  obtain⟨g',cap',e,hg,hc⟩:=h.cells h0;simp at e;obtain⟨rfl,rfl⟩:=e;rw[Nat.zero_add];exact hc j u hu
end
section
open Go.RowKit Go.Deep Go.Maps Sv
structure GS(w W:World)(bm:Nat)(itV:Value)(its nms:List It):Prop where
 row:W.ownsRow w.heap.size 111 4 itV its.length (zP its)
 nm:yN W bm nms
 bmB:w.heap.size<=bm
 B:zB w W
theorem GS.step{w W W':World}{bm:Nat}{itV:Value}{its nms:List It}(h:GS w W bm itV its nms)(hb:zB W W'):GS w W' bm itV its nms :=
 ⟨zZ h.row hb,h.nm.below hb zN,h.bmB,zT h.B hb⟩
theorem zdP{W:World}{B t k n bm:Nat}{v:Value}{cs:List Value}{l:List It}(h:W.ownsRow B t k v n cs)(hn:yN W bm l):v.ownBlock≠some bm:=by
 obtain⟨D,⟨es,clock,h1,_⟩,_⟩:=hn;rcases h.2 with ⟨rfl,_⟩|⟨g,cap,cur,rfl,_,hg,_⟩
 ·simp[Value.ownBlock]
 ·intro e;simp only[Value.ownBlock,Option.some.injEq] at e;subst e;rw[h1] at hg;cases hg
theorem zhR{W W':World}{B t k n bm:Nat}{v:Value}{cs:List Value}(h:W.ownsRow B t k v n cs)(hg:W.grownBy W' (some bm))(hne:v.ownBlock≠some bm):W'.ownsRow B t k v n cs:=by
 obtain⟨h1,h2⟩:=h;refine⟨h1,?_⟩;rcases h2 with h2|⟨g,cap,cur,rfl,hB,hh,r⟩
 ·exact Or.inl h2
 ·exact Or.inr ⟨g,cap,cur,rfl,hB,(hg.block g (Array.getElem?_eq_some_iff.1 hh).1 (fun e=>hne e)).trans hh,r⟩
theorem GS.put{w W:World}{bm:Nat}{itV:Value}{its nms:List It}(h:GS w W bm itV its nms)(hl:nms.length<1000000){x:It}(hs:x.name.size<=100000) :
  ∃W',(Instr.mapUpdate 207 (.map (some bm)) (.string x.name) (.agg #[])).run Tryz.prog W=.ok () W'/\GS w W' bm itV its (nms++[x])/\(∀b t cs,Blk W b t cs->Blk W' b t cs):=by
 obtain⟨W',hrun,h1,h2⟩:=h.nm.put hl hs;refine⟨W',hrun,⟨zhR h.row h2 (zdP h.row h.nm),h1,h.bmB,h.B.grown h2 h.B.size (fun k hk=>by cases hk;exact h.bmB)⟩,fun b t cs hb=>?_⟩;refine hb.kept h2 (fun e=>?_);obtain⟨D,⟨es,clock,h3,_⟩,_⟩:=h.nm;cases e;rw[show W.heap[bm]?=_ from hb] at h3;cases h3
theorem GS.app{w W W':World}{bm:Nat}{itV v':Value}{its nms:List It}{x:It}(h:GS w W bm itV its nms)(hown:W'.ownsRow w.heap.size 111 4 v' (its.length+1) (zP its++qw x))(hg:W.grownBy W' itV.ownBlock):GS w W' bm v' (its++[x]) nms:=by
 refine⟨?_,h.nm.block (hg.block bm h.nm.lt (fun e=>zdP h.row h.nm e.symm)),h.bmB,h.B.grown hg h.B.size (fun k hk=>(h.row.lt k hk).1)⟩;rw[zjY,List.length_append];simpa[zP] using hown
theorem Kh(w:World)(A B C D:Value)(t:TypeId):∀(j:Nat) (u:Value),[A,B,C,D][j]?=some u->(w.alloc (.cells #[A,B,C,D] t)).cell? (Addr.add ⟨w.heap.size,0,none⟩ j)=some u:=by
 intro j u h
 match j,h with
 |0,h=>simp at h;subst h;simp[Addr.add]
 |1,h=>simp at h;subst h;simp[Addr.add]
 |2,h=>simp at h;subst h;simp[Addr.add]
 |3,h=>simp at h;subst h;simp[Addr.add]
 |j+4,h=>simp at h
def zmc(w:World)(r:Except (Int × Nat) (List It))(e:Ending)(w':World):Prop :=
 match r with
 |.ok its=>∃v,e=.returned (.tuple #[v,.nilIface])/\w'.ownsRow w.heap.size 111 4 v its.length (zP its)/\zB w w'
 |.error (k,i)=>∃N,e=.returned (.tuple #[.slice none 0 0,.iface 101 (.pointer (some ⟨N,0,none⟩))])/\Blk w' N 104 #[.int .i64 k,.int .i64 i]/\zB w w'
theorem zlg{ls:List Ln}{i:Nat}(hi:i<ls.length)(its:List It):qK (ls.drop i) i its=(if qQ (ls.getD i default) ≠ 0 then .error (qQ (ls.getD i default),i)
  else if (ls.getD i default).kind=1 then
   if (ls.getD i default).it∈its then .error (9,i)
   else if 8<qX (its++[(ls.getD i default).it])\/its.length=24 then .error (4,i)
   else qK (ls.drop (i+1)) (i+1) (its++[(ls.getD i default).it])
  else qK (ls.drop (i + 1)) (i + 1) its):=by
 rw[zeq (d:=default) hi,qK]
theorem zcx{x:Ln}(h:qQ x=0):x.name.size<=12:=by
 unfold qQ at h;split at h
 ·cases h
 ·split at h
  ·cases h
  ·rename_i h2
   by_cases hn:zW x.name
   ·exact hn.len
   ·exact absurd (Or.inl hn) h2
end
section
open Go.RowKit Go.Deep Go.Maps Sv
theorem ze0(ls:List Ln)(lv:Value)(w:World)(h:Zq w lv ls)(hl:ls.length<=100000) :
  zC 72 #[lv] w (zmc w (qK ls 0 [])):=by
 obtain⟨R,hR⟩:∃R,qK ls 0 []=R:=⟨_,rfl⟩;rw[hR];have HR:=zH hR;have HL:=zH h;clear hR;obtain⟨la,lc,rfl,-⟩:∃la lc,lv=.slice la ls.length lc/\True:=by obtain⟨vs,_,h2⟩:=h;obtain⟨a,c,e,_⟩:=h2.form;exact⟨a,c,e,trivial⟩
 clear h;have hg0:GS w (w.alloc (.map #[] 0)) w.heap.size (.slice none 0 0) [] []:=⟨World.ownsRow_nil _ _ _ _,yN.made w,Nat.le_refl _,(Below.refl _ w).alloc zN _⟩;have HG0:=zH hg0;clear hg0;obtain⟨i0,hin,hz0,hz1,hz2⟩:=info_parts zdz;have hmm:=@run_makeMap Tryz.prog;go_enter Tryz.func72,Tryz.ntmps72;go_wp2_with fail;clear hmm;go_loopw [4,13] (fun itV iV wr=>∃(i:Nat) (its:List It),i<=ls.length/\iV=.int .i64 i/\its.length<=i/\qK (ls.drop i) i its=R/\GS w wr w.heap.size itV its its) (fun _ iV _=>ls.length-(intOf iV).toNat)
 case atStart=>exact⟨0,[],Nat.zero_le _,rfl,Nat.le_refl _,by rw[List.drop_zero];exact HR.out,HG0.out⟩
 case round =>
  obtain⟨i,its,hi,rfl,hil,hga,hgs⟩:=hrel;clear HR HG0;obtain⟨iva,ivc,rfl,-⟩:=(qj hgs.row).form
  by_cases hlt:i<ls.length
  ·obtain⟨g,cap',rv,e,hg,hsp,hrg,c0,c1,c2,c3,c4,c5,c6⟩:=(HL.out.below hgs.B zN).at i hlt;simp at e;obtain⟨rfl,rfl⟩:=e;rw[zlg hlt] at hga;have HGA:=zH hga;clear hga hrg;generalize ls.getD i default=x at *;have HSP:=zH hsp;obtain⟨rra,rrc,rfl⟩:=hsp.form;clear hsp;have kx:=Blk.new wr 98 #[.int .i64 x.kind,.string x.name,.int .i64 x.a,.int .i64 x.b,.int .i64 x.c,.string x.other,.slice rra x.rng.length rrc];have hbx:zB wr (wr.alloc (.cells #[.int .i64 x.kind,.string x.name,.int .i64 x.a,.int .i64 x.b,.int .i64 x.c,.string x.other,.slice rra x.rng.length rrc] 98)):=zF.alloc zN _;have HG1:Hid (GS w (wr.alloc (.cells #[.int .i64 x.kind,.string x.name,.int .i64 x.a,.int .i64 x.b,.int .i64 x.c,.string x.other,.slice rra x.rng.length rrc] 98)) w.heap.size (.slice iva its.length ivc) its its):=hgs.step hbx;have HCHK:=zH (zi0 x (.slice rra x.rng.length rrc) (wr.alloc (.cells #[.int .i64 x.kind,.string x.name,.int .i64 x.a,.int .i64 x.b,.int .i64 x.c,.string x.other,.slice rra x.rng.length rrc] 98)) (HSP.out.below hbx zN));have HNM:Hid (qQ x=0->x.name.size<=12):=zcx;clear hgs hbx HSP;go_upto_region 6 with fail;clear c0 c1 c2 c3 c4 c5 c6;generalize wr.alloc (.cells #[.int .i64 x.kind,.string x.name,.int .i64 x.a,.int .i64 x.b,.int .i64 x.c,.string x.other,.slice rra x.rng.length rrc] 98)=W1 at *;generalize wr.heap.size=bx at *;have d0:_=some (Value.int .i64 x.kind):=kx.cell 0;have d1:_=some (Value.string x.name):=kx.cell 1;have d2:_=some (Value.int .i64 x.a):=kx.cell 2;have d3:_=some (Value.int .i64 x.b):=kx.cell 3;have d4:_=some (Value.int .i64 x.c):=kx.cell 4;have d5:_=some (Value.string x.other):=kx.cell 5;have d6:_=some (Value.slice rra x.rng.length rrc):=kx.cell 6;go_wp2_with fail;clear d0 d1 d2 d3 d4 d5 d6;refine HCHK.out.mono ?_;rintro e w2 ⟨rfl,hb2⟩;have kx2:=kx.below hb2 kx.lt;have HG2:=zH (HG1.out.step hb2);clear HCHK hb2 kx HG1
   by_cases hz:qQ x=0
   ·have hnm:=HNM.out hz;rw[hz] at HGA ⊢;rw[if_neg (by simp)] at HGA;clear hz HNM
    by_cases hk:x.kind=1
    ·rw[if_pos hk] at HGA;have d0:_=some (Value.int .i64 x.kind):=kx2.cell 0;have d1:_=some (Value.string x.name):=kx2.cell 1;have d2:_=some (Value.int .i64 x.a):=kx2.cell 2;have d3:_=some (Value.int .i64 x.b):=kx2.cell 3;have d4:_=some (Value.int .i64 x.c):=kx2.cell 4;have d5:_=some (Value.string x.other):=kx2.cell 5;have d6:_=some (Value.slice rra x.rng.length rrc):=kx2.cell 6;rw[hk] at d0;have ki:=Blk.new w2 111 #[.string x.name,.int .i64 x.a,.int .i64 x.b,.int .i64 x.c];have hbi:zB w2 (w2.alloc (.cells #[.string x.name,.int .i64 x.a,.int .i64 x.b,.int .i64 x.c] 111)):=zF.alloc zN _;have HG3:=zH (HG2.out.step hbi);have kx3:=kx2.below hbi kx2.lt;clear hbi HG2 kx2;go_upto_region 9 with fail;clear d0 d1 d2 d3 d4 d5 d6;generalize w2.alloc (.cells #[.string x.name,.int .i64 x.a,.int .i64 x.b,.int .i64 x.c] 111)=W3 at *;generalize w2.heap.size=bi at *;obtain⟨w4,hrun,hgs4,hkeep⟩:=HG3.out.put (by omega) (x:=x.it) (show x.name.size<=100000 by omega);have hrun':(Instr.mapUpdate 207 (.map (some w.heap.size)) (.string x.name) (.agg #[])).run Tryz.prog W3=.ok () w4:=hrun;have ki4:=hkeep _ _ _ ki;have kx4:=hkeep _ _ _ kx3;have HG4:=zH hgs4;clear hrun hgs4 hkeep HG3;have d1:_=some (Value.string x.name):=kx3.cell 1;go_upto_region 10 with fail;clear d1 hrun' ki kx3;have hm0:=zhT its x.it (.slice iva its.length ivc) w4 (qj HG4.out.row) (by omega)
     by_cases hm:x.it∈its
     ·rw[if_pos hm] at HGA;have HHAS:Hid (zR 108 #[.slice iva its.length ivc,.agg #[.string x.name,.int .i64 x.a,.int .i64 x.b,.int .i64 x.c]] w4 (.bool true)):=by have h:=hm0;rw[decide_eq_true hm] at h;exact h
      clear hm hm0;have e0:_=some (Value.string x.name):=ki4.cell 0;have e1:_=some (Value.int .i64 x.a):=ki4.cell 1;have e2:_=some (Value.int .i64 x.b):=ki4.cell 2;have e3:_=some (Value.int .i64 x.c):=ki4.cell 3;go_wp2_with fail;clear e0 e1 e2 e3;refine HHAS.out.mono ?_;rintro e w5 ⟨rfl,hb5⟩;have ki5:=ki4.below hb5 ki4.lt;have HG5:=zH (HG4.out.step hb5);clear HHAS hb5 ki4 HG4 kx4;have f0:_=some (Value.string x.name):=ki5.cell 0;have f1:_=some (Value.int .i64 x.a):=ki5.cell 1;have f2:_=some (Value.int .i64 x.b):=ki5.cell 2;have f3:_=some (Value.int .i64 x.c):=ki5.cell 3;have HROW:=zH HG5.out.row;have HGA5:=zH (HG5.out.step ((Below.refl _ w5).alloc zN (.cells #[.string x.name,.int .i64 x.a,.int .i64 x.b,.int .i64 x.c] 111)));have hws:=HG5.out.B.size;go_wp2_with (at_builtin;refine wpList_append_own_at _ rfl _ _ 107 rfl w.heap.size 111 i0 (.agg #[.string ⟨#[]⟩,.int .i64 0,.int .i64 0,.int .i64 0]) 4 40 Tryz.underlying107 hin hz0 hz1 hz2 rfl (by decide) _ _ _ rfl (HROW.out.alloc _) ⟨w5.heap.size,0,none⟩ 1 1 [.string x.name,.int .i64 x.a,.int .i64 x.b,.int .i64 x.c] rfl rfl ?c1a ?c2a ?c3a ?c4a ?c5a ?_)
      case c1a=>exact Kh _ _ _ _ _ _
      case c2a=>intro u hu;simp at hu;rcases hu with rfl|rfl|rfl|rfl<;>rfl
      case c3a=>unfold maxLen;omega
      case c4a=>omega
      case c5a=>simp;omega
      intro v7 w7 hown7 hgrow7 _ hloc7;have HG7:Hid (GS w w7 w.heap.size v7 (its++[x.it]) (its++[x.it])):=HGA5.out.app hown7 hgrow7;clear hown7 hgrow7 hloc7 HGA5 HROW f0 f1 f2 f3 hws;have HBF:Hid (zB w (w7.alloc (.cells #[.int .i64 9,.int .i64 i] 104))):=zL HG7.out.B;have HKF:Hid (Blk (w7.alloc (.cells #[.int .i64 9,.int .i64 i] 104)) w7.heap.size 104 #[.int .i64 9,.int .i64 i]):=Blk.new _ _ _;clear HG7;go_wp2;go_ret2;rw[<-HGA.out];exact⟨_,rfl,HKF.out,HBF.out⟩
     ·rw[if_neg hm] at HGA;have HHAS:Hid (zR 108 #[.slice iva its.length ivc,.agg #[.string x.name,.int .i64 x.a,.int .i64 x.b,.int .i64 x.c]] w4 (.bool false)):=by have h:=hm0;rw[decide_eq_false hm] at h;exact h
      clear hm hm0;have e0:_=some (Value.string x.name):=ki4.cell 0;have e1:_=some (Value.int .i64 x.a):=ki4.cell 1;have e2:_=some (Value.int .i64 x.b):=ki4.cell 2;have e3:_=some (Value.int .i64 x.c):=ki4.cell 3;go_wp2_with fail;clear e0 e1 e2 e3;refine HHAS.out.mono ?_;rintro e w5 ⟨rfl,hb5⟩;have ki5:=ki4.below hb5 ki4.lt;have HG5:=zH (HG4.out.step hb5);clear HHAS hb5 ki4 HG4 kx4;have hlenN:=fun ty=>HG5.out.nm.len ty;generalize hN:qX (its++[x.it])=N at *;clear hN
      by_cases h8:8<N
      ·rw[if_pos (Or.inl h8)] at HGA;have h8':(8:Int)<(N:Int):=by omega
       have f0:_=some (Value.string x.name):=ki5.cell 0;have f1:_=some (Value.int .i64 x.a):=ki5.cell 1;have f2:_=some (Value.int .i64 x.b):=ki5.cell 2;have f3:_=some (Value.int .i64 x.c):=ki5.cell 3;have HROW:=zH HG5.out.row;have HGA5:=zH (HG5.out.step ((Below.refl _ w5).alloc zN (.cells #[.string x.name,.int .i64 x.a,.int .i64 x.b,.int .i64 x.c] 111)));have hws:=HG5.out.B.size;go_wp2_with (at_builtin;refine wpList_append_own_at _ rfl _ _ 107 rfl w.heap.size 111 i0 (.agg #[.string ⟨#[]⟩,.int .i64 0,.int .i64 0,.int .i64 0]) 4 40 Tryz.underlying107 hin hz0 hz1 hz2 rfl (by decide) _ _ _ rfl (HROW.out.alloc _) ⟨w5.heap.size,0,none⟩ 1 1 [.string x.name,.int .i64 x.a,.int .i64 x.b,.int .i64 x.c] rfl rfl ?c1b ?c2b ?c3b ?c4b ?c5b ?_)
       case c1b=>exact Kh _ _ _ _ _ _
       case c2b=>intro u hu;simp at hu;rcases hu with rfl|rfl|rfl|rfl<;>rfl
       case c3b=>unfold maxLen;omega
       case c4b=>omega
       case c5b=>simp;omega
       intro v7 w7 hown7 hgrow7 _ hloc7;have HG7:Hid (GS w w7 w.heap.size v7 (its++[x.it]) (its++[x.it])):=HGA5.out.app hown7 hgrow7;clear hown7 hgrow7 hloc7 HGA5 HROW f0 f1 f2 f3 hws;have HBF:Hid (zB w (w7.alloc (.cells #[.int .i64 4,.int .i64 i] 104))):=zL HG7.out.B;have HKF:Hid (Blk (w7.alloc (.cells #[.int .i64 4,.int .i64 i] 104)) w7.heap.size 104 #[.int .i64 4,.int .i64 i]):=Blk.new _ _ _;clear HG7;go_wp2;go_ret2;rw[<-HGA.out];exact⟨_,rfl,HKF.out,HBF.out⟩
      ·have h8':¬(8:Int)<(N:Int):=by omega
       by_cases h24:its.length=24
       ·rw[if_pos (Or.inr h24)] at HGA;have hq:((its.length:Int)==24)=true:=by rw[h24];rfl
        clear h24;have f0:_=some (Value.string x.name):=ki5.cell 0;have f1:_=some (Value.int .i64 x.a):=ki5.cell 1;have f2:_=some (Value.int .i64 x.b):=ki5.cell 2;have f3:_=some (Value.int .i64 x.c):=ki5.cell 3;have HROW:=zH HG5.out.row;have HGA5:=zH (HG5.out.step ((Below.refl _ w5).alloc zN (.cells #[.string x.name,.int .i64 x.a,.int .i64 x.b,.int .i64 x.c] 111)));have hws:=HG5.out.B.size;go_wp2_with (at_builtin;refine wpList_append_own_at _ rfl _ _ 107 rfl w.heap.size 111 i0 (.agg #[.string ⟨#[]⟩,.int .i64 0,.int .i64 0,.int .i64 0]) 4 40 Tryz.underlying107 hin hz0 hz1 hz2 rfl (by decide) _ _ _ rfl (HROW.out.alloc _) ⟨w5.heap.size,0,none⟩ 1 1 [.string x.name,.int .i64 x.a,.int .i64 x.b,.int .i64 x.c] rfl rfl ?c1c ?c2c ?c3c ?c4c ?c5c ?_)
        case c1c=>exact Kh _ _ _ _ _ _
        case c2c=>intro u hu;simp at hu;rcases hu with rfl|rfl|rfl|rfl<;>rfl
        case c3c=>unfold maxLen;omega
        case c4c=>omega
        case c5c=>simp;omega
        intro v7 w7 hown7 hgrow7 _ hloc7;have HG7:Hid (GS w w7 w.heap.size v7 (its++[x.it]) (its++[x.it])):=HGA5.out.app hown7 hgrow7;clear hown7 hgrow7 hloc7 HGA5 HROW f0 f1 f2 f3 hws;have HBF:Hid (zB w (w7.alloc (.cells #[.int .i64 4,.int .i64 i] 104))):=zL HG7.out.B;have HKF:Hid (Blk (w7.alloc (.cells #[.int .i64 4,.int .i64 i] 104)) w7.heap.size 104 #[.int .i64 4,.int .i64 i]):=Blk.new _ _ _;clear HG7;go_wp2;go_ret2;rw[<-HGA.out];exact⟨_,rfl,HKF.out,HBF.out⟩
       ·rw[if_neg (fun h=>h.elim h8 h24)] at HGA;have hq:((its.length:Int)==24)=false:=by rw[beq_eq_false_iff_ne];omega
        clear h24;have f0:_=some (Value.string x.name):=ki5.cell 0;have f1:_=some (Value.int .i64 x.a):=ki5.cell 1;have f2:_=some (Value.int .i64 x.b):=ki5.cell 2;have f3:_=some (Value.int .i64 x.c):=ki5.cell 3;have HROW:=zH HG5.out.row;have HGA5:=zH (HG5.out.step ((Below.refl _ w5).alloc zN (.cells #[.string x.name,.int .i64 x.a,.int .i64 x.b,.int .i64 x.c] 111)));have hws:=HG5.out.B.size;go_wp2_with (at_builtin;refine wpList_append_own_at _ rfl _ _ 107 rfl w.heap.size 111 i0 (.agg #[.string ⟨#[]⟩,.int .i64 0,.int .i64 0,.int .i64 0]) 4 40 Tryz.underlying107 hin hz0 hz1 hz2 rfl (by decide) _ _ _ rfl (HROW.out.alloc _) ⟨w5.heap.size,0,none⟩ 1 1 [.string x.name,.int .i64 x.a,.int .i64 x.b,.int .i64 x.c] rfl rfl ?c1d ?c2d ?c3d ?c4d ?c5d ?_)
        case c1d=>exact Kh _ _ _ _ _ _
        case c2d=>intro u hu;simp at hu;rcases hu with rfl|rfl|rfl|rfl<;>rfl
        case c3d=>unfold maxLen;omega
        case c4d=>omega
        case c5d=>simp;omega
        intro v7 w7 hown7 hgrow7 _ hloc7;have HG7:Hid (GS w w7 w.heap.size v7 (its++[x.it]) (its++[x.it])):=HGA5.out.app hown7 hgrow7;clear hown7 hgrow7 hloc7 HGA5 HROW f0 f1 f2 f3 hws;go_wp2;go_roundw
        case rel=>exact⟨i+1,its++[x.it],by omega,by go_num,by simp;omega,HGA.out,HG7.out⟩
        case measure=>simp[intOf];omega
    ·rw[if_neg hk] at HGA;have hk2:(x.kind==1)=false:=by simpa using hk
     have d0:_=some (Value.int .i64 x.kind):=kx2.cell 0;clear kx2 hk;go_wp2;go_roundw
     case rel=>exact⟨i+1,its,by omega,by go_num,by omega,HGA.out,HG2.out⟩
     case measure=>simp[intOf];omega
   ·have hz2:(qQ x==0)=false:=by simpa using hz
    rw[if_pos hz] at HGA;generalize qQ x=E at *;have HBF:Hid (zB w (w2.alloc (.cells #[.int .i64 E,.int .i64 i] 104))):=zL HG2.out.B;have HKF:Hid (Blk (w2.alloc (.cells #[.int .i64 E,.int .i64 i] 104)) w2.heap.size 104 #[.int .i64 E,.int .i64 i]):=Blk.new _ _ _;clear HG2 kx2 hz HNM;go_wp2;go_ret2;rw[<-HGA.out];exact⟨_,rfl,HKF.out,HBF.out⟩
  ·obtain rfl:i=ls.length:=by omega
   have hga2:R=.ok its:=by rw[<-hga,List.drop_length,qK]
   have HGA:=zH hga2;have HGS:=zH hgs;clear hga hga2 hgs;go_wp2;go_ret2;rw[HGA.out];exact⟨_,rfl,HGS.out.row,HGS.out.B⟩
end
section
open Go.Shelf Go.Lib Go.Sort Sv
theorem zjK{α:Type}{c:α->α->Int}(anti:∀x y,c y x=-c x y)(eq0:∀x y,c x y=0->x=y)(tr:∀x y z,c x y<0->c y z<0->c x z<0):SWO (ltOf c) where
 irrefl x:=by have:=anti x x;unfold ltOf;simp;omega
 trans x y z h1 h2:=by unfold ltOf at *;simp at *;exact tr x y z h1 h2
 ntrans x y z h1 h2:=by
  unfold ltOf at *;simp at *
  by_cases h:c x z<0
  ·exfalso
   by_cases e:c x y=0
   ·have:=eq0 x y e;subst this;omega
   ·have h3:c y x<0:=by rw[anti];omega
    have:=tr y x z h3 h;omega
  ·omega
theorem zjR{α:Type}{c:α->α->Int}(anti:∀x y,c y x=-c x y)(eq0:∀x y,c x y=0->x=y):∀x y,ltOf c x y=false->ltOf c y x=false->x=y:=by
 intro x y h1 h2;unfold ltOf at *;simp at *;have:=anti x y;exact eq0 x y (by omega)
theorem zaA:∀a b:List UInt8,compareBytes b a=-compareBytes a b
 |[],[]=>rfl
 |[],_ :: _=>rfl
 |_ :: _,[]=>rfl
 |x :: a,y :: b=>by
  rw[compareBytes,compareBytes]
  by_cases h:x<y
  ·have h':¬y<x:=fun h2=>absurd (UInt8.lt_trans h h2) (UInt8.lt_irrefl _);rw[if_pos h,if_neg h',if_pos h];rfl
  ·by_cases h':y<x
   ·rw[if_pos h',if_neg h,if_pos h']
   ·rw[if_neg h,if_neg h',if_neg h',if_neg h];exact zaA a b
theorem zaE{x y:UInt8}(h:¬x<y)(h':¬y<x):x=y:=UInt8.le_antisymm (UInt8.not_lt.1 h') (UInt8.not_lt.1 h)
theorem zcv:∀a b:List UInt8,compareBytes a b=0->a=b
 |[],[],_=>rfl
 |[],_ :: _,h=>by cases h
 |_ :: _,[],h=>by cases h
 |x :: a,y :: b,h=>by
  rw[compareBytes] at h
  by_cases h1:x<y
  ·rw[if_pos h1] at h;cases h
  ·by_cases h2:y<x
   ·rw[if_neg h1,if_pos h2] at h;cases h
   ·rw[if_neg h1,if_neg h2] at h;rw[zaE h1 h2,zcv a b h]
theorem zcg:∀a b c:List UInt8,compareBytes a b<0->compareBytes b c<0->compareBytes a c<0
 |[],_,[],h1,h2=>by
  rename_i b;cases b with
  |nil=>exact h1
  |cons y b=>exact absurd (show (1:Int)<0 from h2) (by decide)
 |[],_,_ :: _,_,_=>show (-1:Int)<0 by decide
 |_ :: _,[],_,h1,_=>absurd (show (1:Int)<0 from h1) (by decide)
 |_ :: _,_ :: _,[],_,h2=>absurd (show (1:Int)<0 from h2) (by decide)
 |x :: a,y :: b,z :: c,h1,h2=>by
  rw[compareBytes] at h1 h2 ⊢
  by_cases xy:x<y
  ·by_cases yz:y<z
   ·rw[if_pos (UInt8.lt_trans xy yz)];decide
   ·by_cases zy:z<y
    ·rw[if_neg yz,if_pos zy] at h2;exact absurd h2 (by decide)
    ·rw[<-zaE yz zy,if_pos xy];decide
  ·by_cases yx:y<x
   ·rw[if_neg xy,if_pos yx] at h1;exact absurd h1 (by decide)
   ·rw[if_neg xy,if_neg yx] at h1;have e:=zaE xy yx;subst e
    by_cases yz:x<z
    ·rw[if_pos yz];decide
    ·by_cases zy:z<x
     ·rw[if_neg yz,if_pos zy] at h2;exact absurd h2 (by decide)
     ·rw[if_neg yz,if_neg zy] at h2 ⊢;exact zcg a b c h1 h2
theorem KJ(a b c d e f:Int):yY (tI a b c) (tI d e f) 3=if a<d then -1 else if d<a then 1 else if b<e then -1 else if e<b then 1 else if c<f then -1 else if f<c then 1 else 0:=by
 show (if yt a d≠0 then yt a d else if yt b e≠0 then yt b e else if yt c f≠0 then yt c f else 0)=_;unfold yt
 by_cases h1:a<d
 ·simp[h1]
 ·by_cases h2:d<a
  ·simp[h1,h2]
  ·by_cases h3:b<e
   ·simp[h1,h2,h3]
   ·by_cases h4:e<b
    ·simp[h1,h2,h3,h4]
    ·by_cases h5:c<f
     ·simp[h1,h2,h3,h4,h5]
     ·by_cases h6:f<c<;>simp[h1,h2,h3,h4,h5,h6]
theorem K6(a b c d e f:Int):yY (tI a b c) (tI d e f) 3<0↔(a<d\/(a=d/\(b<e\/(b=e/\c<f)))):=by
 rw[KJ]
 repeat' split
 all_goals omega
theorem zis(a b c d e f:Int):yY (tI a b c) (tI d e f) 3=0↔(a=d/\b=e/\c=f):=by
 rw[KJ]
 repeat' split
 all_goals omega
theorem zg2(a b c d e f:Int):yY (tI d e f) (tI a b c) 3=-yY (tI a b c) (tI d e f) 3:=by
 rw[KJ,KJ]
 by_cases h1:a<d
 ·have:¬d<a:=by omega
  simp[h1,this]
 ·by_cases h2:d<a
  ·simp[h1,h2]
  ·by_cases h3:b<e
   ·have:¬e<b:=by omega
    simp[h1,h2,h3,this]
   ·by_cases h4:e<b
    ·simp[h1,h2,h3,h4]
    ·by_cases h5:c<f
     ·have:¬f<c:=by omega
      simp[h1,h2,h3,h4,h5,this]
     ·by_cases h6:f<c<;>simp[h1,h2,h3,h4,h5,h6]
theorem Kz{x y:It}:x.name.toList=y.name.toList↔x.name.data.toList=y.name.data.toList:=by rw[ByteArray.toList_eq,ByteArray.toList_eq]
theorem zbs(x y:It):yj y x=-yj x y:=by
 unfold yj
 by_cases h:x.name.toList=y.name.toList
 ·rw[if_pos h,if_pos h.symm];exact zg2 _ _ _ _ _ _
 ·rw[if_neg h,if_neg (fun e=>h e.symm)];exact zaA _ _
theorem zdF(x y:It)(h:yj x y=0):x=y:=by
 unfold yj at h
 by_cases e:x.name.toList=y.name.toList
 ·rw[if_pos e,zis] at h;obtain⟨n,a,b,c⟩:=x;obtain⟨n',a',b',c'⟩:=y;obtain rfl:n=n':=YB e;obtain⟨h1,h2,h3⟩:=h;simp only at h1 h2 h3;subst h1 h2 h3;rfl
 ·rw[if_neg e] at h;exact absurd (Kz.2 (zcv _ _ h)) e
theorem zfx(x y z:It)(h1:yj x y<0)(h2:yj y z<0):yj x z<0:=by
 unfold yj at *
 by_cases e1:x.name.toList=y.name.toList
 ·by_cases e2:y.name.toList=z.name.toList
  ·rw[if_pos e1,K6] at h1;rw[if_pos e2,K6] at h2;rw[if_pos (e1.trans e2),K6];omega
  ·rw[if_neg e2] at h2;rw[if_neg (fun e=>e2 (e1.symm.trans e)),Kz.1 e1];exact h2
 ·by_cases e2:y.name.toList=z.name.toList
  ·rw[if_neg e1] at h1;rw[if_neg (fun e=>e1 (e.trans e2.symm)),<-Kz.1 e2];exact h1
  ·rw[if_neg e1] at h1;rw[if_neg e2] at h2
   by_cases e3:x.name.toList=z.name.toList
   ·exfalso;rw[<-Kz.1 e3,zaA] at h2;omega
   ·rw[if_neg e3];exact zcg _ _ _ h1 h2
theorem zhz:SWO (ltOf yj):=zjK zbs zdF zfx
theorem zl9:∀x y,ltOf yj x y=false->ltOf yj y x=false->x=y:=zjR zbs zdF
theorem K8(l:List It):(yn l).Perm l:=List.mergeSort_perm _ _
theorem Ji(l:List It):(yn l).length=l.length:=(K8 l).length_eq
end
section
open Go.RowKit Go.Shelf Go.Lib Go.Sort Sv
theorem zfK(x y:It)(W:World) :
  zC 110 #[.agg #[.string x.name,.int .i64 x.a,.int .i64 x.b,.int .i64 x.c],.agg #[.string y.name,.int .i64 y.a,.int .i64 y.b,.int .i64 y.c]] W fun e w'=>e=.returned (.int .i64 (yj x y))/\Gr W w':=by
 have hg:Gr W ((W.alloc (.cells #[.string x.name,.int .i64 x.a,.int .i64 x.b,.int .i64 x.c] 111)).alloc (.cells #[.string y.name,.int .i64 y.a,.int .i64 y.b,.int .i64 y.c] 111)):=((Gr.refl W).alloc _).alloc _;have HG:=zH hg;clear hg;have HV:Hid (∀W',zC 111 #[.agg #[.int .i64 y.a,.int .i64 y.b,.int .i64 y.c],.agg #[.int .i64 x.a,.int .i64 x.b,.int .i64 x.c]] W' fun r w'=>r=.returned (.int .i64 (yY (tI y.a y.b y.c) (tI x.a x.b x.c) 3))/\Gr W' w'):=fun W'=>zgT y.a y.b y.c x.a x.b x.c W';have HN:Hid (∀W',zC 112 #[.string x.name,.string y.name] W' fun r w'=>r=.returned (.int .i64 (compareBytes x.name.data.toList y.name.data.toList))/\w'=W'):=fun W'=>Tryz.strings_Compare x.name y.name W'
 by_cases h:x.name.toList=y.name.toList
 ·have HC:Hid (yj x y=yY (tI y.a y.b y.c) (tI x.a x.b x.c) 3):=by show _=_;unfold yj;rw[if_pos h]
  have hb:(x.name.toList==y.name.toList)=true:=by rw[h];exact beq_self_eq_true _
  clear h HN;generalize yY (tI y.a y.b y.c) (tI x.a x.b x.c) 3=Z at *;go_enter Tryz.func110,Tryz.ntmps110;go_wp2_with fail;refine(HV.out _).mono ?_;rintro e w1 ⟨rfl,hg1⟩;have HG1:Hid (Gr W w1):=HG.out.trans hg1;clear hg1 HG HV;go_wp2;go_ret;exact⟨by rw[HC.out];rfl,HG1.out⟩
 ·have HC:Hid (yj x y=compareBytes x.name.data.toList y.name.data.toList):=by show _=_;unfold yj;rw[if_neg h]
  have hb:(x.name.toList==y.name.toList)=false:=by rw[beq_eq_false_iff_ne];exact h
  clear h HV;generalize compareBytes x.name.data.toList y.name.data.toList=Z at *;go_enter Tryz.func110,Tryz.ntmps110;go_wp2_with fail;refine(HN.out _).mono ?_;rintro e w1 ⟨rfl,rfl⟩;clear HN;go_wp2;go_ret;exact⟨by rw[HC.out];rfl,HG.out⟩
theorem zi7(blk off size:Nat)(w:World):CmpLays Tryz.prog 110 #[] qw 4 yj blk off size w :=
 fun _ _ _ _ x y=>zfK x y _
theorem zer(l:List It):flatK qw 4 l.toArray=(zP l).toArray:=by
 apply Array.ext_getElem?;intro t
 by_cases ht:t<l.length*4
 ·have h1:t<(flatK qw 4 l.toArray).size:=by rw[size_flatK];simpa using ht
  have hj:t/4<l.length:=by omega
  have h2:(zP l)[t]?=some ((qw (l.getD (t/4) default))[t%4]!):=by
   have hlt:t%4<(qw (l.getD (t/4) default)).length:=by simp[qw];omega
   have:=Qv l (t/4) hj (t%4) _ (List.getElem?_eq_getElem hlt);rw[show t/4*4+t%4=t by omega] at this;rw[this,getElem!_pos (qw (l.getD (t/4) default)) (t%4) hlt]
  have e1:(flatK qw 4 l.toArray)[t]?=some ((flatK qw 4 l.toArray)[t]!):=by rw[Array.getElem?_eq_getElem h1,getElem!_pos (flatK qw 4 l.toArray) t h1]
  have e2:(zP l).toArray[t]?=(zP l)[t]?:=by simp
  have e3:l.toArray[t/4]! = l.getD (t/4) default:=by
   rw[getElem!_pos l.toArray (t/4) (by simpa using hj),List.getD_eq_getElem?_getD,List.getElem?_eq_getElem hj];rfl
  rw[e1,get_flatK qw 4 _ t (by simpa using ht),e2,h2,e3]
 ·rw[Array.getElem?_eq_none (by rw[size_flatK];simpa using ht),Array.getElem?_eq_none (by simp[Ql];omega)]
theorem zfE(l:List It)(v:Value)(B:Nat)(w:World)(h:w.ownsRow B 111 4 v l.length (zP l))(hl:l.length<=100000) :
  zC 73 #[v] w fun e w'=>e=.returned (.tuple #[])/\w'.ownsRow B 111 4 v l.length (zP (yn l))/\Below B w w':=by
 have H:Hid (zC 109 #[v,.func (.func 110) #[] #[]] w fun e w'=>e=.returned (.tuple #[])/\w'.ownsRow B 111 4 v l.length (zP (yn l))/\Below B w w'):=by
  rcases h.2 with ⟨rfl,e0⟩|⟨g,cap,cur,rfl,hB,hg,hn,hm,hsz,htake⟩
  ·obtain rfl:l=[]:=List.eq_nil_of_length_eq_zero e0;refine(AnyF.slices_SortFunc_none Tryz.sortItem none 0 _ w).mono fun e w' ⟨he,hw⟩=>⟨he,?_,by rw[hw];exact Below.refl _ _⟩;rw[hw,show yn []=[] by unfold yn;simp];exact h
  ·have eg:∀args w,(callFunc 110 args).run Tryz.prog w=.ok (.enter 110 args) w:=enters_of Tryz.func110 (by kernel_rfl) rfl;have hlt:g<w.heap.size:=(Array.getElem?_eq_some_iff.1 hg).1;have hH:HoldsK qw 4 w g 0 l.toArray:=by
    intro j hj;rw[size_flatK] at hj;have hj':j<l.length*4:=by simpa using hj
    rw[zer];have hjl:j<(zP l).length:=by rw[Ql];exact hj'
    rw[getElem!_pos _ j (by simpa using hjl)];constructor
    ·rw[Nat.zero_add];have hc:cur[j]?=(zP l)[j]?:=by
      rw[<-htake,List.getElem?_take,if_pos hj',Array.getElem?_toList]
     show w.cell? _=some (zP l)[j];simp[World.cell?,hg,hc,List.getElem?_eq_getElem hjl]
    ·simp[World.frozen?,hg]
   refine(AnyQ.slices_SortFunc_total Tryz.sortItem 4 Tryz.isAgg111 Tryz.sizeOf111 qw (fun _=>rfl) (fun x u hu=>zbz [x] u (by simpa[zP] using hu)) yj zhz 110 #[] g 0 cap l.toArray w eg (zi7 g 0 _ w) hH hlt (by simp;omega) zl9).mono fun e w' ⟨he,n,os,hw⟩=>⟨he,?_⟩;have hw2:w'=grow (putRow id (Sort.ahead w n) g 0 ((zP (yn l)).toArray)) os:=by
    rw[hw,<-zer];rfl
   have hblk:w'.heap[g]?=some (.cells (putCells id 0 (zP (yn l)).toArray cur) 111 (0,0)):=by
    rw[hw2];show ((putRow id (Sort.ahead w n) g 0 ((zP (yn l)).toArray)).heap++os)[g]?=_;rw[Array.getElem?_append_left (by simp[putRow,mapBlock,Sort.ahead];exact hlt)];simp[putRow,mapBlock,Sort.ahead,Array.getElem?_modify,hg,onCells]
   refine⟨⟨by rw[Ql,Ji],Or.inr ⟨g,cap,_,rfl,hB,hblk,hn,hm,by simp[putCells,hsz],?_⟩⟩,?_⟩
   ·apply List.ext_getElem?;intro t;rw[List.getElem?_take];have hlen:(zP (yn l)).length=l.length*4:=by rw[Ql,Ji]
    by_cases ht:t<l.length*4
    ·have htc:t<cur.size:=by rw[hsz];omega
     rw[if_pos ht,Array.getElem?_toList];simp only[putCells,Array.getElem?_mapIdx,Array.getElem?_eq_getElem htc,Option.map_some];rw[if_pos ⟨Nat.zero_le _,by simp[hlen];exact ht⟩,Nat.sub_zero,getElem!_pos _ t (by simp[hlen];exact ht),List.getElem?_eq_getElem (by rw[hlen];exact ht)];rfl
    ·rw[if_neg ht,List.getElem?_eq_none (by rw[hlen];omega)]
   ·rw[hw2];refine⟨rfl,rfl,rfl,by simp[grow,putRow,mapBlock,Sort.ahead],fun k hk=>?_⟩;show ((putRow id (Sort.ahead w n) g 0 ((zP (yn l)).toArray)).heap++os)[k]?=_;have hkw:(putRow id (Sort.ahead w n) g 0 ((zP (yn l)).toArray)).heap[k]?=w.heap[k]?:=by
     simp only[putRow,mapBlock,Sort.ahead,Array.getElem?_modify];rw[if_neg (by omega)]
    rcases Nat.lt_or_ge k w.heap.size with hkl|hkl
    ·rw[Array.getElem?_append_left (by simp[putRow,mapBlock,Sort.ahead];exact hkl),hkw]
    ·exfalso;omega
 obtain⟨a,cap,rfl,-⟩:=(qj h).form;clear h;go_enter Tryz.func73,Tryz.ntmps73;go_wp2_with fail;refine H.out.mono ?_;rintro e w1 ⟨rfl,h1,h2⟩;have H1:=zH h1;have H2:=zH h2;clear h1 h2 H;go_wp2;go_end0;exact⟨rfl,H1.out,H2.out⟩
end
end Go.Proofs.YtjmfeefogikdfaaGreatDoor
