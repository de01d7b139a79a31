/- refute: its walk. -/
import Derived.Test.YtiihalknffbjpaaGreatDoorClBack
set_option maxHeartbeats 4000000
set_option maxRecDepth 100000
namespace Go.Proofs.YtiihalknffbjpaaGreatDoor
section
open Go.RowKit Go.Deep
structure SG(B:Nat)(w:World)(sb:Nat)(told:List Int)(decs:List (Int × List Int))(cl pl:List (List Int))(cV dV pV:Value):Prop where
 blk:Blk w sb 186 ([cV]++tvl told++[dV,pV]).toArray
 Bsb:B<=sb
 crow:∃cs,w.ownsRow B 81 1 cV cl.length cs/\zca B w cs cl
 prow:∃ps,w.ownsRow B 81 1 pV pl.length ps/\zca 0 w ps pl
 drow:w.ownsRow B 293 25 dV decs.length (zbq decs)
 apart:cV.ownBlock=none\/cV.ownBlock≠pV.ownBlock
section
variable {B sb:Nat} {W w1:World} {l:List (List Int)} {s:St} {told:List Int} {decs:List (Int × List Int)} {cl pl:List (List Int)} {cV dV pV:Value}
theorem SAt.sg(h:SAt B W sb l s cV dV pV):SG B W sb s.told s.decs (l++s.prf) s.prf cV dV pV:=⟨h.blk,h.Bsb,h.crow,h.prow,h.drow,h.apart⟩
theorem SG.st(h:SG B W sb s.told s.decs (l++s.prf) s.prf cV dV pV):SAt B W sb l s cV dV pV:=⟨h.blk,h.Bsb,h.crow,h.prow,h.drow,h.apart⟩
theorem SG.new{w':World}(h:SG B W sb told decs cl pl cV dV pV)(hb:zB W w'):SG B w' sb told decs cl pl cV dV pV:=by
 obtain⟨cs,h1,h2⟩:=h.crow;obtain⟨ps,h3,h4⟩:=h.prow;exact⟨h.blk.below hb h.blk.lt,h.Bsb,⟨cs,zad h1 hb,h2.kp (Kp.new hb)⟩,⟨ps,zad h3 hb,h4.kp (Kp.new hb)⟩,zad h.drow hb,h.apart⟩
theorem SG.c0(h:SG B W sb told decs cl pl cV dV pV):W.cell? ⟨sb,0,none⟩=some cV:=by rw[h.blk.cell];rfl
theorem SG.c26(h:SG B W sb told decs cl pl cV dV pV):W.cell? ⟨sb,26,none⟩=some pV:=by
 rw[h.blk.cell,List.getElem?_toArray,List.getElem?_append_right (by simp[zax])];simp[zax]
theorem SG.grow_p{ps:List Value}{pV':Value}{a:Option Addr}{cap:Nat}{c:List Int}(h:SG B W sb told decs cl pl cV dV pV)(hps:W.ownsRow B 81 1 pV pl.length ps)(hpk:zca 0 W ps pl)(hown:w1.ownsRow B 81 1 pV' (pl.length+1) (ps++[.slice a c.length cap]))(hg:W.grownBy w1 pV.ownBlock)(hloc:pV'.ownBlock=pV.ownBlock\/pV'.ownBlock=some W.heap.size)(hB:B<=W.heap.size)
  (h1:c.length<=cap) (h2:cap<=9223372036854775807) (h3:zbb 0 W a c) :
  w1.cell? ⟨sb,26,none⟩=some pV/\w1.frozen? ⟨sb,26,none⟩=false/\SG B (w1.setCell ⟨sb,26,none⟩ pV') sb told decs cl (pl++[c]) cV dV pV'/\Below B W (w1.setCell ⟨sb,26,none⟩ pV')/\zbb 0 (w1.setCell ⟨sb,26,none⟩ pV') a c:=by
 obtain⟨cs,h4,h5⟩:=h.crow;have hne:some sb≠pV.ownBlock:=fun e=>zah hps h.blk (by decide) e.symm;have hb:Blk w1 sb 186 _:=h.blk.kept hg hne;have hk:=Kp.grown hps hg (by decide);have h4':=h4.kept hg h.apart;have hd':=h.drow.kept hg (zas h.drow hps (by decide));have hk2:Kp B w1 (w1.setCell ⟨sb,26,none⟩ pV'):=Kp.set h.Bsb hb (by decide);have hbw:Below B W w1:=zF.grown hg hB (fun k hk=>(hps.lt k hk).1);refine⟨by rw[hb.cell,List.getElem?_toArray,List.getElem?_append_right (by simp[zax])];simp[zax],hb.frozen _,⟨?_,h.Bsb,⟨cs,ownsRow_setCell_other h4' (zah h4' hb (by decide)) _,(h5.kp hk).kp hk2⟩,⟨_,?_,((hpk.kp hk.zero).kp hk2.zero).snoc h1 h2 ((h3.kp hk.zero).kp hk2.zero)⟩,ownsRow_setCell_other hd' (zah hd' hb (by decide)) _,?_⟩,hbw.setCell h.Bsb _,(h3.kp hk.zero).kp hk2.zero⟩
 ·have:=hb.set (i:=26) (v:=pV');rw[zrZ] at this;exact this
 ·have:=ownsRow_setCell_other hown (a:=⟨sb,26,none⟩) (zah hown hb (by decide)) pV';simpa using this
 ·cases hcv:cV.ownBlock with
  |none=>exact Or.inl rfl
  |some k =>
   refine Or.inr fun e=>?_;have hlt:=(h4.lt k hcv).2;rcases hloc with hl|hl
   ·rw[hl] at e;rcases h.apart with ha|ha
    ·rw[ha] at hcv;cases hcv
    ·exact ha (hcv.trans e)
   ·rw[hl] at e;simp at e;omega
theorem SG.grow_c{cs:List Value}{cV':Value}{a:Option Addr}{cap:Nat}{c:List Int}(h:SG B W sb told decs cl pl cV dV pV)(hcs:W.ownsRow B 81 1 cV cl.length cs)(hck:zca B W cs cl)(hown:w1.ownsRow B 81 1 cV' (cl.length+1) (cs++[.slice a c.length cap]))(hg:W.grownBy w1 cV.ownBlock)(hloc:cV'.ownBlock=cV.ownBlock\/cV'.ownBlock=some W.heap.size)(hB:B<=W.heap.size)
  (h1:c.length<=cap) (h2:cap<=9223372036854775807) (h3:zbb B W a c) :
  w1.cell? ⟨sb,0,none⟩=some cV/\w1.frozen? ⟨sb,0,none⟩=false/\SG B (w1.setCell ⟨sb,0,none⟩ cV') sb told decs (cl++[c]) pl cV' dV pV/\Below B W (w1.setCell ⟨sb,0,none⟩ cV'):=by
 obtain⟨ps,h4,h5⟩:=h.prow;have hne:some sb≠cV.ownBlock:=fun e=>zah hcs h.blk (by decide) e.symm;have hb:Blk w1 sb 186 _:=h.blk.kept hg hne;have hk:=Kp.grown hcs hg (by decide);have hap:pV.ownBlock=none\/pV.ownBlock≠cV.ownBlock:=by
  cases hpv:pV.ownBlock with
  |none=>exact Or.inl rfl
  |some k =>
   refine Or.inr fun e=>?_;rcases h.apart with ha|ha
   ·rw[ha] at e;cases e
   ·exact ha (e.symm.trans hpv.symm)
 have h4':=h4.kept hg hap;have hd':=h.drow.kept hg (zas h.drow hcs (by decide));have hk2:Kp B w1 (w1.setCell ⟨sb,0,none⟩ cV'):=Kp.set h.Bsb hb (by decide);have hbw:Below B W w1:=zF.grown hg hB (fun k hk=>(hcs.lt k hk).1);refine⟨by rw[hb.cell];rfl,hb.frozen _,⟨?_,h.Bsb,⟨_,?_,((hck.kp hk).kp hk2).snoc h1 h2 ((h3.kp hk).kp hk2)⟩,⟨ps,ownsRow_setCell_other h4' (zah h4' hb (by decide)) _,(h5.kp hk.zero).kp hk2.zero⟩,ownsRow_setCell_other hd' (zah hd' hb (by decide)) _,?_⟩,hbw.setCell h.Bsb _⟩
 ·have:=hb.set (i:=0) (v:=cV');rw[zsG] at this;exact this
 ·have:=ownsRow_setCell_other hown (a:=⟨sb,0,none⟩) (zah hown hb (by decide)) cV';simpa using this
 ·rcases hloc with hl|hl
  ·rw[hl];exact h.apart
  ·rw[hl];refine Or.inr fun e=>?_;have:=(h4.lt W.heap.size e.symm).2;omega
end
def zj5(ds:List (Int × List Int))(k:Nat):List Int:=(zbf ds).take k++List.replicate (ds.length-k) 0
theorem zaJ(ds:List (Int × List Int)):(zbf ds).length=ds.length:=by simp[zbf]
theorem ziG(ds:List (Int × List Int)){k:Nat}(h:k<=ds.length):(zj5 ds k).length=ds.length:=by
 unfold zj5;rw[List.length_append,List.length_take,zaJ,List.length_replicate];omega
theorem zlf(ds:List (Int × List Int)):zj5 ds 0=List.replicate ds.length 0:=by simp[zj5]
theorem znA(ds:List (Int × List Int)):zj5 ds ds.length=zbf ds:=by
 unfold zj5;rw[Nat.sub_self,List.replicate_zero,List.append_nil,<-zaJ ds,List.take_length]
theorem zkY{ds:List (Int × List Int)}{k:Nat}{d:Int × List Int}(h:ds[k]?=some d):(zj5 ds k).set k (-d.1)=zj5 ds (k+1):=by
 have hk:=(List.getElem?_eq_some_iff.1 h).1;have he:(zbf ds)[k]?=some (-d.1):=by simp[zbf,h]
 apply List.ext_getElem?;intro i;rw[List.getElem?_set,ziG ds (by omega)];unfold zj5
 by_cases e:k=i
 ·subst e;rw[if_pos rfl,if_pos hk,List.getElem?_append_left (by rw[List.length_take,zaJ];omega),List.getElem?_take,if_pos (by omega),he]
 ·rw[if_neg e]
  by_cases hlt:i<k
  ·rw[List.getElem?_append_left (by rw[List.length_take,zaJ];omega),List.getElem?_append_left (by rw[List.length_take,zaJ];omega),List.getElem?_take,List.getElem?_take,if_pos hlt,if_pos (by omega)]
  ·rw[List.getElem?_append_right (by rw[List.length_take,zaJ];omega),List.getElem?_append_right (by rw[List.length_take,zaJ];omega),List.length_take,List.length_take,zaJ,Nat.min_eq_left (by omega),Nat.min_eq_left (by omega),List.getElem?_replicate,List.getElem?_replicate]
   by_cases h2:i<ds.length
   ·rw[if_pos (by omega),if_pos (by omega)]
   ·rw[if_neg (by omega),if_neg (by omega)]
theorem zkc(l:List Int)(k:Nat)(x:Int):(zaf l).set k (.int .i64 x)=zaf (l.set k x):=by simp[zaf,List.map_set]
theorem zh3(n:Nat):(madeCells #[Value.int .i64 0] n).toList=zaf (List.replicate n 0):=by rw[toList_madeCells_one];simp[zaf]
end
section
open Go.RowKit Go.Deep
theorem zou:(Tryz.prog.info? 293).map (·.size)=some 25:=by kernel_rfl
theorem zlB(d:Int × List Int):∀v∈zcF d,v.oneCell'=true:=fun v hv=>by
 rcases List.mem_cons.1 hv with h|h
 ·rw[h];rfl
 ·exact zlW _ v h
theorem zlo{B n g cap:Nat}{w:World}{ds:List (Int × List Int)}(h:w.ownsRow B 293 25 (.slice (some ⟨g,0,none⟩) n cap) n (zbq ds)){k:Nat}{d:Int × List Int}(hk:ds[k]?=some d)(hn:n=ds.length):w.rangeAt g (k*25) (zcF d):=by
 intro j v hj;have hj25:j<25:=by have:=(List.getElem?_eq_some_iff.1 hj).1;rw[zb4] at this;exact this
 have hkl:=(List.getElem?_eq_some_iff.1 hk).1;have:=h.cellAt (k*25+j) (by omega);rw[this,zlv hk j hj25];exact hj
theorem zop(w:World)(p:Addr)(v u:Value){t:TypeId}:∀(j:Nat) (x:Value),[u][j]?=some x->((w.setCell p v).alloc (.cells #[u] t)).cell? ((⟨w.heap.size,0,none⟩:Addr).add j)=some x:=by
 have e:(w.setCell p v).heap.size=w.heap.size:=by simp[World.setCell]
 have h:=World.news_of_block (heap_alloc_new (w.setCell p v) (.cells #[u] t));rw[e] at h;exact h
structure zrD(wr W2:World)(x:Int):Prop where
 below:zB wr W2
 c0:W2.cell? ⟨wr.heap.size,0,none⟩=some (.int .i64 x)
 size:wr.heap.size<W2.heap.size
theorem zrp(wr:World)(Z:Array Value)(hZ:Z.size=25)(x:Int)(V:List Value)(hV:V.length=24):zrD wr ((wr.alloc (.cells Z 293)).setCells wr.heap.size 0 (.int .i64 x :: V)) x/\(wr.alloc (.cells Z 293)).there wr.heap.size 0 25:=by
 have hb:=Blk.new wr 293 Z;have hth:(wr.alloc (.cells Z 293)).there wr.heap.size 0 25:=fun j hj=>by
  refine⟨?_,hb.frozen _⟩;rw[hb.cell,Nat.zero_add,Array.getElem?_eq_getElem (by omega)];rfl
 have hbe:zB wr ((wr.alloc (.cells Z 293)).setCells wr.heap.size 0 (.int .i64 x :: V)):=zcw zN _ _ _ (zac wr _);refine⟨⟨hbe,?_,?_⟩,hth⟩
 ·have:=World.rangeAt_setCells_same (wr.alloc (.cells Z 293)) wr.heap.size 0 (.int .i64 x :: V) (by rw[List.length_cons,hV];exact hth) 0 _ rfl;exact this
 ·have h2:Blk ((wr.alloc (.cells Z 293)).setCells wr.heap.size 0 (.int .i64 x :: V)) wr.heap.size 293 _:=zeQ (cs:=Z.toList) (by simpa using hb) (.int .i64 x :: V) 0 (by simp[hV,hZ]);exact h2.lt
theorem zj7(B sb:Nat)(l:List (List Int))(s:St)(cV dV pV:Value)(hd:s.decs.length<=24)(hds:∀d∈s.decs,-24<=d.1/\d.1<=24)(hp:s.prf.length<2000)(hl:l.length<=200)(w:World)(hB:B<=w.heap.size)(h:SAt B w sb l s cV dV pV) :
  zC 97 #[.pointer (some ⟨sb,0,none⟩)] w fun e w'=>e=.returned (.tuple #[])/\(∃cV' pV',SAt B w' sb l ⟨s.told,s.decs,s.prf++[zbf s.decs]⟩ cV' dV pV')/\Below B w w':=by
 obtain⟨i0,hin,hz0,hz1,hz2⟩:=info_parts zbe;obtain⟨ic,hic,hc0,hc1,hc2⟩:=info_parts zdq;have hform:∃a cap,dV=.slice a s.decs.length cap/\(0<s.decs.length->∃g,a=some ⟨g,0,none⟩/\g<w.heap.size):=by
  rcases h.drow.2 with ⟨e,e0⟩|⟨g,cap,cur,e,-,hg,-⟩
  ·exact⟨none,0,by rw[e,e0],fun h=>by omega⟩
  ·exact⟨_,cap,e,fun _=>⟨g,rfl,(Array.getElem?_eq_some_iff.1 hg).1⟩⟩
 obtain⟨da,dcap,rfl,hform⟩:=hform;have c25:=h.c25;have HS:=zH h;have HF:=zH hform;have HDS:=zH hds;clear h hform hds;generalize hn:s.decs.length=n at *;go_enter Tryz.func97,Tryz.ntmps97;go_wp2_with (at_make;refine wpList_make_full _ rfl _ _ 81 rfl w.heap.size 3 i0 (.int .i64 0) 1 Tryz.underlying81 hin hz0 hz1 .i64 .i64 _ _ n rfl rfl ?c1 ?c2 ?c3 ?c4 ?c5 ?_)
 case c1=>rfl
 case c2=>rfl
 case c3=>rw[hz2];omega
 case c4=>unfold maxLen;omega
 case c5=>omega
 intro w1 hown hgrow;have hown0:w1.ownsRow w.heap.size 3 1 (.slice (some ⟨w.heap.size,0,none⟩) n n) n (zaf (zj5 s.decs 0)):=by
  rw[zlf,hn,<-zh3];simpa using hown
 have hbel:zB w w1:=zF.grown hgrow zN (fun k hk=>by cases hk);have c25':=(HS.out.new hbel).c25;have HO:=zH hown0;have HB1:=zH hbel;have HN:=zH hn;clear hown hown0 hgrow hbel c25 hn;go_wp2_with fail;go_loopw [16] (fun kV wr=>∃k:Nat,k<=n/\kV=.int .i64 k/\wr.ownsRow w.heap.size 3 1 (.slice (some ⟨w.heap.size,0,none⟩) n n) n (zaf (zj5 s.decs k))/\zB w wr) (fun kV _=>n-(intOf kV).toNat)
 case atStart=>exact⟨0,Nat.zero_le _,rfl,HO.out,HB1.out⟩
 case round =>
  obtain⟨k,hk,rfl,hrow,hbr⟩:=hrel;clear HO c25' HB1
  by_cases hlt:k<n
  ·obtain⟨g,rfl,hgl⟩:=HF.out (by omega);obtain⟨d,hdk⟩:∃d,s.decs[k]?=some d:=⟨_,List.getElem?_eq_getElem (by rw[HN.out];exact hlt)⟩;have hS:=HS.out.new hbr;have hdr:=hS.drow;rw[HN.out] at hdr;have hrg:=zlo hdr hdk HN.out.symm;have hcp:=zrp wr #[.int .i64 0,.int .i8 0,.int .i8 0,.int .i8 0,.int .i8 0,.int .i8 0,.int .i8 0,.int .i8 0,.int .i8 0,.int .i8 0,.int .i8 0,.int .i8 0,.int .i8 0,.int .i8 0,.int .i8 0,.int .i8 0,.int .i8 0,.int .i8 0,.int .i8 0,.int .i8 0,.int .i8 0,.int .i8 0,.int .i8 0,.int .i8 0,.int .i8 0] rfl d.1 (tvl d.2) (zax _);obtain⟨⟨cb0,cc,csz⟩,hth⟩:=hcp;have cb:zB wr ((wr.alloc (.cells #[.int .i64 0,.int .i8 0,.int .i8 0,.int .i8 0,.int .i8 0,.int .i8 0,.int .i8 0,.int .i8 0,.int .i8 0,.int .i8 0,.int .i8 0,.int .i8 0,.int .i8 0,.int .i8 0,.int .i8 0,.int .i8 0,.int .i8 0,.int .i8 0,.int .i8 0,.int .i8 0,.int .i8 0,.int .i8 0,.int .i8 0,.int .i8 0,.int .i8 0] 293)).setCells wr.heap.size 0 (zcF d)):=cb0;clear cb0;have hrow2:=zgq hrow cb;have hln:=ziG s.decs (k:=k) (by rw[HN.out];exact hk);rw[HN.out] at hln;have hck:((wr.alloc (.cells #[.int .i64 0,.int .i8 0,.int .i8 0,.int .i8 0,.int .i8 0,.int .i8 0,.int .i8 0,.int .i8 0,.int .i8 0,.int .i8 0,.int .i8 0,.int .i8 0,.int .i8 0,.int .i8 0,.int .i8 0,.int .i8 0,.int .i8 0,.int .i8 0,.int .i8 0,.int .i8 0,.int .i8 0,.int .i8 0,.int .i8 0,.int .i8 0,.int .i8 0] 293)).setCells wr.heap.size 0 (zcF d)).cell? ⟨w.heap.size,k,none⟩=some (.int .i64 ((zj5 s.decs k).getD k 0)):=by
    have:=hrow2.cellAt k (by omega);rw[zbj _ _ (by omega)] at this;exact this
   have hfk:((wr.alloc (.cells #[.int .i64 0,.int .i8 0,.int .i8 0,.int .i8 0,.int .i8 0,.int .i8 0,.int .i8 0,.int .i8 0,.int .i8 0,.int .i8 0,.int .i8 0,.int .i8 0,.int .i8 0,.int .i8 0,.int .i8 0,.int .i8 0,.int .i8 0,.int .i8 0,.int .i8 0,.int .i8 0,.int .i8 0,.int .i8 0,.int .i8 0,.int .i8 0,.int .i8 0] 293)).setCells wr.heap.size 0 (zcF d)).frozen? ⟨w.heap.size,k,none⟩=false:=hrow2.frozenAt k;have hst:=(hrow2.stored k (.int .i64 (-d.1))).1;rw[zkc,zkY hdk] at hst;have hxb:=HDS.out d (List.mem_of_getElem? hdk);have HST:=zH hst;have hbb:=(zT hbr cb);have HB2:=zH (hbb.setCell (p:=⟨w.heap.size,k,none⟩) zN (.int .i64 (-d.1)));have HRG:=zH hrg;have HTH:Hid ((wr.alloc (.cells #[.int .i64 0,.int .i8 0,.int .i8 0,.int .i8 0,.int .i8 0,.int .i8 0,.int .i8 0,.int .i8 0,.int .i8 0,.int .i8 0,.int .i8 0,.int .i8 0,.int .i8 0,.int .i8 0,.int .i8 0,.int .i8 0,.int .i8 0,.int .i8 0,.int .i8 0,.int .i8 0,.int .i8 0,.int .i8 0,.int .i8 0,.int .i8 0,.int .i8 0] 293)).there wr.heap.size 0 (zcF d).toArray.size):=by have e:(zcF d).toArray.size=25:=(List.size_toArray ..).trans (zb4 d);rw[e];exact hth
   have HI:Hid ((Tryz.prog.info? 293).map (·.size)=some (zcF d).length):=by rw[zb4];exact zou
   have HON:=zH (all_oneCell_toArray (zlB d));have hu:=zH Tryz.underlying293;clear hdr hrow hbr hS hrg hth hrow2 hst hbb cb csz;have ccc:((wr.alloc (.cells #[.int .i64 0,.int .i8 0,.int .i8 0,.int .i8 0,.int .i8 0,.int .i8 0,.int .i8 0,.int .i8 0,.int .i8 0,.int .i8 0,.int .i8 0,.int .i8 0,.int .i8 0,.int .i8 0,.int .i8 0,.int .i8 0,.int .i8 0,.int .i8 0,.int .i8 0,.int .i8 0,.int .i8 0,.int .i8 0,.int .i8 0,.int .i8 0,.int .i8 0] 293)).setCells wr.heap.size 0 (zcF d)).cell? ⟨wr.heap.size,0,none⟩=some (.int .i64 d.1):=cc;clear cc;generalize zcF d=D at *;generalize (zj5 s.decs k).getD k 0=old at *;generalize d.1=x at *;obtain⟨hx0,hx1⟩:=hxb;go_wp2_with (first
    |(refine wpList_load_mid (by rfl) 293 _ (by rfl) g (k*25) (by rfl) D _ HRG.out hu.out (by rfl) HI.out ?_)
    |(refine wpList_store_mid (by rfl) 293 _ _ (by rfl) wr.heap.size 0 D.toArray (by rfl) (by rfl) HTH.out (by simpa using HI.out) HON.out ?_)
    | fail)
   go_roundw
   case rel=>exact⟨k+1,hlt,by go_num,HST.out,HB2.out⟩
   case measure=>simp[intOf];omega
  ·obtain rfl:k=n:=by omega
   have hS:=(HS.out.new hbr).sg;have hcl:(zbf s.decs).length=k:=by rw[zaJ];exact HN.out
   have hrow':wr.ownsRow w.heap.size 3 1 (.slice (some ⟨w.heap.size,0,none⟩) (zbf s.decs).length k) (zbf s.decs).length (zaf (zbf s.decs)):=by
    have:=hrow;rw[<-HN.out,znA,<-zaJ s.decs] at this;rw[<-hcl];exact this
   have hik:zbb 0 wr (some ⟨w.heap.size,0,none⟩) (zbf s.decs):=fun i hi=>by
    obtain⟨ad,e,q1,q2⟩:=zcA hrow' i hi;rcases hrow'.2 with ⟨e',_⟩|⟨g,cap,cur,e',_,hg,_⟩
    ·cases e'
    ·cases e';cases e;exact⟨_,rfl,q1,Or.inr ⟨cur,_,hg⟩,q2⟩
   obtain⟨ps,hps,hpk⟩:=hS.prow;obtain⟨pa,pc,rfl,-,-⟩:=zaj hps;have c26:=hS.c26;have hws:=hbr.size;have HSS:=zH hS;have HIK:=zH hik;have HPS:=zH hps;have HPK:=zH hpk;have HBR:=zH hbr;have HCL:=zH hcl;clear hS hik hps hpk hbr hrow hrow' hcl;have hc24:Hid ((zbf s.decs).length<=k):=Nat.le_of_eq HCL.out;go_wp2_with (at_builtin;refine wpList_append_own_at _ rfl _ _ 26 rfl B 81 ic (.slice none 0 0) 1 24 Tryz.underlying26 hic hc0 hc1 hc2 rfl (by decide) _ _ _ rfl (HPS.out.alloc _) ⟨wr.heap.size,0,none⟩ 1 1 [.slice (some ⟨w.heap.size,0,none⟩) k k] rfl rfl ?c1 ?c2 ?c3 ?c4 ?c5 ?_)
   case c1=>exact World.news_of_block (heap_alloc_new wr _)
   case c2=>intro u hu;rw[List.mem_singleton] at hu;subst hu;rfl
   case c3=>unfold maxLen;omega
   case c4=>omega
   case c5=>simp;omega
   intro pV' w7 hown7 hgrow7 _ hloc7;obtain⟨pa',pc',rfl,-,-⟩:=zaj hown7;have hbn:=zac wr (.cells #[.slice (some ⟨w.heap.size,0,none⟩) k k] 81);have hBn:B<=(wr.alloc (.cells #[.slice (some ⟨w.heap.size,0,none⟩) k k] 81)).heap.size:=by simp;omega
   have hgp:=(HSS.out.new hbn).grow_p (c:=zbf s.decs) (a:=some ⟨w.heap.size,0,none⟩) (cap:=k) (zad HPS.out hbn) (HPK.out.kp (Kp.new hbn)) (by rw[HCL.out];exact hown7) hgrow7 (by rw[World.size_alloc];exact hloc7) hBn hc24.out (by omega) (HIK.out.kp (Kp.new hbn));obtain⟨x1,x2,hS8,hb8,hik8⟩:=hgp;have HB8:Hid (Below B w (w7.setCell ⟨sb,26,none⟩ (.slice pa' (s.prf.length+1) pc'))):=((HBR.out.mono hB).trans (hbn.mono (by omega))).trans hb8;have HS8:=zH hS8;have HIK8:=zH hik8;have y0:=hS8.c0;obtain⟨cs,hcs,hck⟩:=hS8.crow;obtain⟨ca,cc,rfl,-,-⟩:=zaj hcs;have HCS:=zH hcs;have HCK:=zH hck;have hz8:w7.heap.size<=(w7.setCell ⟨sb,26,none⟩ (.slice pa' (s.prf.length+1) pc')).heap.size:=by simp[World.setCell]
   have hw7:=hgrow7.size;have hB8:B<=(w7.setCell ⟨sb,26,none⟩ (.slice pa' (s.prf.length+1) pc')).heap.size:=by omega
   have hll:(l++s.prf).length<=2200:=by rw[List.length_append];omega
   clear hown7 hgrow7 hloc7 hbn hBn hS8 hb8 hik8 hcs hck hz8 hw7 HSS HIK HPS HPK HBR;obtain⟨L0,hL0⟩:∃L0,L0=(l++s.prf).length:=⟨_,rfl⟩;rw[<-hL0] at HCS y0 HS8 hll;have HL0:=zH hL0;clear hL0;go_wp2_with (at_builtin;refine wpList_append_own_at _ rfl _ _ 26 rfl B 81 ic (.slice none 0 0) 1 24 Tryz.underlying26 hic hc0 hc1 hc2 rfl (by decide) _ _ _ rfl (HCS.out.alloc _) ⟨w7.heap.size,0,none⟩ 1 1 [.slice (some ⟨w.heap.size,0,none⟩) k k] rfl rfl ?c1 ?c2 ?c3 ?c4 ?c5 ?_)
   case c1=>exact zop _ _ _ _
   case c2=>intro u hu;rw[List.mem_singleton] at hu;subst hu;rfl
   case c3=>unfold maxLen;omega
   case c4=>omega
   case c5=>rw[World.size_alloc];omega
   intro cV' w9 hown9 hgrow9 _ hloc9;obtain⟨ca',cc',rfl,-,-⟩:=zaj hown9;have hz9:(w7.setCell ⟨sb,26,none⟩ (.slice pa' (s.prf.length+1) pc')).heap.size=w7.heap.size:=by simp[World.setCell]
   generalize w7.setCell ⟨sb,26,none⟩ (.slice pa' (s.prf.length+1) pc')=W8 at *;rw[<-hz9] at hloc9;clear hz9;have hbn:=zac W8 (.cells #[.slice (some ⟨w.heap.size,0,none⟩) k k] 81);have hBn:B<=(W8.alloc (.cells #[.slice (some ⟨w.heap.size,0,none⟩) k k] 81)).heap.size:=by rw[World.size_alloc];omega
   have hgc:=(HS8.out.new hbn).grow_c (c:=zbf s.decs) (a:=some ⟨w.heap.size,0,none⟩) (cap:=k) (by rw[<-HL0.out];exact zad HCS.out hbn) (HCK.out.kp (Kp.new hbn)) (by rw[HCL.out,<-HL0.out];exact hown9) hgrow9 (by rw[World.size_alloc];exact hloc9) hBn hc24.out (by omega) (HIK8.out.kp (Kp.new hbn)).more;obtain⟨z1,z2,hS9,hb9⟩:=hgc;have HB9:Hid (Below B w (w9.setCell ⟨sb,0,none⟩ (.slice ca' (L0+1) cc'))):=(HB8.out.trans (hbn.mono hB8)).trans hb9;have HS9:Hid (SAt B (w9.setCell ⟨sb,0,none⟩ (.slice ca' (L0+1) cc')) sb l ⟨s.told,s.decs,s.prf++[zbf s.decs]⟩ (.slice ca' (L0+1) cc') (.slice da k dcap) (.slice pa' (s.prf.length+1) pc')):=SG.st (by rw[<-List.append_assoc];exact hS9);clear hown9 hgrow9 hloc9 hbn hBn hS9 hb9 HS8 HB8 HCS HCK;go_wp2;refine bodyPost_end (v:=.tuple #[]) (by simp[results,Tryz.results97,go_sem]) rfl ?_;exact⟨rfl,⟨_,_,HS9.out⟩,HB9.out⟩
end
end Go.Proofs.YtiihalknffbjpaaGreatDoor
