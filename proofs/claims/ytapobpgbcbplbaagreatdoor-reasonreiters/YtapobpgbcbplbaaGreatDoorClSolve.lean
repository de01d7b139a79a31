/- Solve. -/
import Derived.Test.YtapobpgbcbplbaaGreatDoorClBack
set_option maxHeartbeats 4000000
set_option maxRecDepth 100000
namespace Go.Proofs.YtapobpgbcbplbaaGreatDoor
section
open Go.RowKit Go.Deep
structure SG(B:Nat)(w:World)(sb:Nat)(told:List Int)(decs:List (Int × List Int))(cl pl:List (List Int))(cV dV pV:Value):Prop where
  blk:Blk w sb 208 ([cV]++tvl told++[dV,pV]).toArray
  Bsb:B<=sb
  crow:∃cs,w.ownsRow B 202 1 cV cl.length cs/\zX B w cs cl
  prow:∃ps,w.ownsRow B 202 1 pV pl.length ps/\zX 0 w ps pl
  drow:w.ownsRow B 266 25 dV decs.length (qe decs)
  apart:cV.ownBlock=none\/cV.ownBlock≠pV.ownBlock
section
variable {B sb:Nat} {W w1:World} {l:List (List Int)} {s:St} {told:List Int} {decs:List (Int × List Int)} {cl pl:List (List Int)} {cV dV pV:Value}
theorem SAt.sg(h:SAt B W sb l s cV dV pV):SG B W sb s.told s.decs (l++s.prf) s.prf cV dV pV:=⟨h.blk,h.Bsb,h.crow,h.prow,h.drow,h.apart⟩
theorem SG.st(h:SG B W sb s.told s.decs (l++s.prf) s.prf cV dV pV):SAt B W sb l s cV dV pV:=⟨h.blk,h.Bsb,h.crow,h.prow,h.drow,h.apart⟩
theorem SG.new{w':World}(h:SG B W sb told decs cl pl cV dV pV)(hb:zB W w'):SG B w' sb told decs cl pl cV dV pV:=by
  obtain⟨cs,h1,h2⟩:=h.crow;obtain⟨ps,h3,h4⟩:=h.prow;exact⟨h.blk.below hb h.blk.lt,h.Bsb,⟨cs,zS h1 hb,h2.kp (Kp.new hb)⟩,⟨ps,zS h3 hb,h4.kp (Kp.new hb)⟩,zS h.drow hb,h.apart⟩
theorem SG.c0(h:SG B W sb told decs cl pl cV dV pV):W.cell? ⟨sb,0,none⟩=some cV:=by rw[h.blk.cell];rfl
theorem SG.c26(h:SG B W sb told decs cl pl cV dV pV):W.cell? ⟨sb,26,none⟩=some pV:=by
  rw[h.blk.cell,List.getElem?_toArray,List.getElem?_append_right (by simp[qo])];simp[qo]
theorem SG.grow_p{ps:List Value}{pV':Value}{a:Option Addr}{cap:Nat}{c:List Int}(h:SG B W sb told decs cl pl cV dV pV)(hps:W.ownsRow B 202 1 pV pl.length ps)(hpk:zX 0 W ps pl)(hown:w1.ownsRow B 202 1 pV' (pl.length+1) (ps++[.slice a c.length cap]))(hg:W.grownBy w1 pV.ownBlock)(hloc:pV'.ownBlock=pV.ownBlock\/pV'.ownBlock=some W.heap.size)(hB:B<=W.heap.size)
    (h1:c.length<=cap) (h2:cap<=9223372036854775807) (h3:qp 0 W a c) :
    w1.cell? ⟨sb,26,none⟩=some pV/\w1.frozen? ⟨sb,26,none⟩=false/\SG B (w1.setCell ⟨sb,26,none⟩ pV') sb told decs cl (pl++[c]) cV dV pV'/\Below B W (w1.setCell ⟨sb,26,none⟩ pV')/\qp 0 (w1.setCell ⟨sb,26,none⟩ pV') a c:=by
  obtain⟨cs,h4,h5⟩:=h.crow;have hne:some sb≠pV.ownBlock:=fun e=>qC hps h.blk (by decide) e.symm;have hb:Blk w1 sb 208 _:=h.blk.kept hg hne;have hk:=Kp.grown hps hg (by decide);have h4':=h4.kept hg h.apart;have hd':=h.drow.kept hg (ZV h.drow hps (by decide));have hk2:Kp B w1 (w1.setCell ⟨sb,26,none⟩ pV'):=Kp.set h.Bsb hb (by decide);have hbw:Below B W w1:=zF.grown hg hB (fun k hk=>(hps.lt k hk).1);refine⟨by rw[hb.cell,List.getElem?_toArray,List.getElem?_append_right (by simp[qo])];simp[qo],hb.frozen _,⟨?_,h.Bsb,⟨cs,ownsRow_setCell_other h4' (qC h4' hb (by decide)) _,(h5.kp hk).kp hk2⟩,⟨_,?_,((hpk.kp hk.zero).kp hk2.zero).snoc h1 h2 ((h3.kp hk.zero).kp hk2.zero)⟩,ownsRow_setCell_other hd' (qC hd' hb (by decide)) _,?_⟩,hbw.setCell h.Bsb _,(h3.kp hk.zero).kp hk2.zero⟩
  · have:=hb.set (i:=26) (v:=pV')
    rw[zlU] at this;exact this
  · have:=ownsRow_setCell_other hown (a:=⟨sb,26,none⟩) (qC hown hb (by decide)) pV'
    simpa using this
  · cases hcv:cV.ownBlock with
    |none=>exact Or.inl rfl
    |some k =>
      refine Or.inr fun e=>?_;have hlt:=(h4.lt k hcv).2;rcases hloc with hl|hl
      · rw[hl] at e
        rcases h.apart with ha|ha
        · rw[ha] at hcv;cases hcv
        · exact ha (hcv.trans e)
      · rw[hl] at e
        simp at e;omega
theorem SG.grow_c{cs:List Value}{cV':Value}{a:Option Addr}{cap:Nat}{c:List Int}(h:SG B W sb told decs cl pl cV dV pV)(hcs:W.ownsRow B 202 1 cV cl.length cs)(hck:zX B W cs cl)(hown:w1.ownsRow B 202 1 cV' (cl.length+1) (cs++[.slice a c.length cap]))(hg:W.grownBy w1 cV.ownBlock)(hloc:cV'.ownBlock=cV.ownBlock\/cV'.ownBlock=some W.heap.size)(hB:B<=W.heap.size)
    (h1:c.length<=cap) (h2:cap<=9223372036854775807) (h3:qp B W a c) :
    w1.cell? ⟨sb,0,none⟩=some cV/\w1.frozen? ⟨sb,0,none⟩=false/\SG B (w1.setCell ⟨sb,0,none⟩ cV') sb told decs (cl++[c]) pl cV' dV pV/\Below B W (w1.setCell ⟨sb,0,none⟩ cV'):=by
  obtain⟨ps,h4,h5⟩:=h.prow;have hne:some sb≠cV.ownBlock:=fun e=>qC hcs h.blk (by decide) e.symm;have hb:Blk w1 sb 208 _:=h.blk.kept hg hne;have hk:=Kp.grown hcs hg (by decide);have hap:pV.ownBlock=none\/pV.ownBlock≠cV.ownBlock:=by
    cases hpv:pV.ownBlock with
    |none=>exact Or.inl rfl
    |some k =>
      refine Or.inr fun e=>?_;rcases h.apart with ha|ha
      · rw[ha] at e;cases e
      · exact ha (e.symm.trans hpv.symm)
  have h4':=h4.kept hg hap;have hd':=h.drow.kept hg (ZV h.drow hcs (by decide));have hk2:Kp B w1 (w1.setCell ⟨sb,0,none⟩ cV'):=Kp.set h.Bsb hb (by decide);have hbw:Below B W w1:=zF.grown hg hB (fun k hk=>(hcs.lt k hk).1);refine⟨by rw[hb.cell];rfl,hb.frozen _,⟨?_,h.Bsb,⟨_,?_,((hck.kp hk).kp hk2).snoc h1 h2 ((h3.kp hk).kp hk2)⟩,⟨ps,ownsRow_setCell_other h4' (qC h4' hb (by decide)) _,(h5.kp hk.zero).kp hk2.zero⟩,ownsRow_setCell_other hd' (qC hd' hb (by decide)) _,?_⟩,hbw.setCell h.Bsb _⟩
  · have:=hb.set (i:=0) (v:=cV')
    rw[set0] at this;exact this
  · have:=ownsRow_setCell_other hown (a:=⟨sb,0,none⟩) (qC hown hb (by decide)) cV'
    simpa using this
  · rcases hloc with hl|hl
    · rw[hl];exact h.apart
    · rw[hl]
      refine Or.inr fun e=>?_;have:=(h4.lt W.heap.size e.symm).2;omega
end
def xE(ds:List (Int × List Int))(k:Nat):List Int:=(zE ds).take k++List.replicate (ds.length-k) 0
theorem Zu(ds:List (Int × List Int)):(zE ds).length=ds.length:=by simp[zE]
theorem zee(ds:List (Int × List Int)){k:Nat}(h:k<=ds.length):(xE ds k).length=ds.length:=by
  unfold xE;rw[List.length_append,List.length_take,Zu,List.length_replicate];omega
theorem zmc(ds:List (Int × List Int)):xE ds 0=List.replicate ds.length 0:=by simp[xE]
theorem zhH(ds:List (Int × List Int)):xE ds ds.length=zE ds:=by
  unfold xE;rw[Nat.sub_self,List.replicate_zero,List.append_nil,<-Zu ds,List.take_length]
theorem zl7{ds:List (Int × List Int)}{k:Nat}{d:Int × List Int}(h:ds[k]?=some d):(xE ds k).set k (-d.1)=xE ds (k+1):=by
  have hk:=(List.getElem?_eq_some_iff.1 h).1;have he:(zE ds)[k]?=some (-d.1):=by simp[zE,h]
  apply List.ext_getElem?;intro i;rw[List.getElem?_set,zee ds (by omega)];unfold xE
  by_cases e:k=i
  · subst e
    rw[if_pos rfl,if_pos hk,List.getElem?_append_left (by rw[List.length_take,Zu];omega),List.getElem?_take,if_pos (by omega),he]
  · rw[if_neg e]
    by_cases hlt:i<k
    · rw[List.getElem?_append_left (by rw[List.length_take,Zu];omega),List.getElem?_append_left (by rw[List.length_take,Zu];omega),List.getElem?_take,List.getElem?_take,if_pos hlt,if_pos (by omega)]
    · rw[List.getElem?_append_right (by rw[List.length_take,Zu];omega),List.getElem?_append_right (by rw[List.length_take,Zu];omega),List.length_take,List.length_take,Zu,Nat.min_eq_left (by omega),Nat.min_eq_left (by omega),List.getElem?_replicate,List.getElem?_replicate]
      by_cases h2:i<ds.length
      · rw[if_pos (by omega),if_pos (by omega)]
      · rw[if_neg (by omega),if_neg (by omega)]
theorem zhy(l:List Int)(k:Nat)(x:Int):(zn l).set k (.int .i64 x)=zn (l.set k x):=by simp[zn,List.map_set]
theorem zoc(n:Nat):(madeCells #[Value.int .i64 0] n).toList=zn (List.replicate n 0):=by rw[toList_madeCells_one];simp[zn]
end
section
open Go.RowKit Go.Deep
theorem zhZ:(Tryz.prog.info? 266).map (·.size)=some 25:=by kernel_rfl
theorem zho(d:Int × List Int):∀v∈yE d,v.oneCell'=true:=fun v hv=>by
  rcases List.mem_cons.1 hv with h|h
  · rw[h];rfl
  · exact zbu _ v h
theorem zmx{B n g cap:Nat}{w:World}{ds:List (Int × List Int)}(h:w.ownsRow B 266 25 (.slice (some ⟨g,0,none⟩) n cap) n (qe ds)){k:Nat}{d:Int × List Int}(hk:ds[k]?=some d)(hn:n=ds.length):w.rangeAt g (k*25) (yE d):=by
  intro j v hj;have hj25:j<25:=by have:=(List.getElem?_eq_some_iff.1 hj).1;rw[Z8] at this;exact this
  have hkl:=(List.getElem?_eq_some_iff.1 hk).1;have:=h.cellAt (k*25+j) (by omega);rw[this,XI hk j hj25];exact hj
theorem zj3(w:World)(p:Addr)(v u:Value){t:TypeId}:∀(j:Nat) (x:Value),[u][j]?=some x->((w.setCell p v).alloc (.cells #[u] t)).cell? ((⟨w.heap.size,0,none⟩:Addr).add j)=some x:=by
  have e:(w.setCell p v).heap.size=w.heap.size:=by simp[World.setCell]
  have h:=World.news_of_block (heap_alloc_new (w.setCell p v) (.cells #[u] t));rw[e] at h;exact h
structure zk0(wr W2:World)(x:Int):Prop where
  below:zB wr W2
  c0:W2.cell? ⟨wr.heap.size,0,none⟩=some (.int .i64 x)
  size:wr.heap.size<W2.heap.size
theorem zft(wr:World)(Z:Array Value)(hZ:Z.size=25)(x:Int)(V:List Value)(hV:V.length=24):zk0 wr ((wr.alloc (.cells Z 266)).setCells wr.heap.size 0 (.int .i64 x :: V)) x/\(wr.alloc (.cells Z 266)).there wr.heap.size 0 25:=by
  have hb:=Blk.new wr 266 Z;have hth:(wr.alloc (.cells Z 266)).there wr.heap.size 0 25:=fun j hj=>by
    refine⟨?_,hb.frozen _⟩;rw[hb.cell,Nat.zero_add,Array.getElem?_eq_getElem (by omega)];rfl
  have hbe:zB wr ((wr.alloc (.cells Z 266)).setCells wr.heap.size 0 (.int .i64 x :: V)):=Ko zN _ _ _ (zf wr _);refine⟨⟨hbe,?_,?_⟩,hth⟩
  · have:=World.rangeAt_setCells_same (wr.alloc (.cells Z 266)) wr.heap.size 0 (.int .i64 x :: V) (by rw[List.length_cons,hV];exact hth) 0 _ rfl
    exact this
  · have h2:Blk ((wr.alloc (.cells Z 266)).setCells wr.heap.size 0 (.int .i64 x :: V)) wr.heap.size 266 _:=KY (cs:=Z.toList) (by simpa using hb) (.int .i64 x :: V) 0 (by simp[hV,hZ])
    exact h2.lt
theorem zkV(B sb:Nat)(l:List (List Int))(s:St)(cV dV pV:Value)(hd:s.decs.length<=24)(hds:∀d∈s.decs,-24<=d.1/\d.1<=24)(hp:s.prf.length<2000)(hl:l.length<=200)(w:World)(hB:B<=w.heap.size)(h:SAt B w sb l s cV dV pV) :
    zC 105 #[.pointer (some ⟨sb,0,none⟩)] w fun e w'=>e=.returned (.tuple #[])/\(∃cV' pV',SAt B w' sb l ⟨s.told,s.decs,s.prf++[zE s.decs]⟩ cV' dV pV')/\Below B w w':=by
  obtain⟨i0,hin,hz0,hz1,hz2⟩:=info_parts Zm;obtain⟨ic,hic,hc0,hc1,hc2⟩:=info_parts Ku;have hform:∃a cap,dV=.slice a s.decs.length cap/\(0<s.decs.length->∃g,a=some ⟨g,0,none⟩/\g<w.heap.size):=by
    rcases h.drow.2 with ⟨e,e0⟩|⟨g,cap,cur,e,-,hg,-⟩
    · exact⟨none,0,by rw[e,e0],fun h=>by omega⟩
    · exact⟨_,cap,e,fun _=>⟨g,rfl,(Array.getElem?_eq_some_iff.1 hg).1⟩⟩
  obtain⟨da,dcap,rfl,hform⟩:=hform;have c25:=h.c25;have HS:=zH h;have HF:=zH hform;have HDS:=zH hds;clear h hform hds;generalize hn:s.decs.length=n at *;go_enter Tryz.func105,Tryz.ntmps105;go_wp2_with (at_make;refine wpList_make_full _ rfl _ _ 202 rfl w.heap.size 3 i0 (.int .i64 0) 1 Tryz.underlying202 hin hz0 hz1 .i64 .i64 _ _ n rfl rfl ?c1 ?c2 ?c3 ?c4 ?c5 ?_)
  case c1=>rfl
  case c2=>rfl
  case c3=>rw[hz2];omega
  case c4=>unfold maxLen;omega
  case c5=>omega
  intro w1 hown hgrow;have hown0:w1.ownsRow w.heap.size 3 1 (.slice (some ⟨w.heap.size,0,none⟩) n n) n (zn (xE s.decs 0)):=by
    rw[zmc,hn,<-zoc];simpa using hown
  have hbel:zB w w1:=zF.grown hgrow zN (fun k hk=>by cases hk);have c25':=(HS.out.new hbel).c25;have HO:=zH hown0;have HB1:=zH hbel;have HN:=zH hn;clear hown hown0 hgrow hbel c25 hn;go_wp2_with fail;go_loopw [16] (fun kV wr=>∃k:Nat,k<=n/\kV=.int .i64 k/\wr.ownsRow w.heap.size 3 1 (.slice (some ⟨w.heap.size,0,none⟩) n n) n (zn (xE s.decs k))/\zB w wr) (fun kV _=>n-(intOf kV).toNat)
  case atStart=>exact⟨0,Nat.zero_le _,rfl,HO.out,HB1.out⟩
  case round =>
    obtain⟨k,hk,rfl,hrow,hbr⟩:=hrel;clear HO c25' HB1
    by_cases hlt:k<n
    · obtain⟨g,rfl,hgl⟩:=HF.out (by omega)
      obtain⟨d,hdk⟩:∃d,s.decs[k]?=some d:=⟨_,List.getElem?_eq_getElem (by rw[HN.out];exact hlt)⟩;have hS:=HS.out.new hbr;have hdr:=hS.drow;rw[HN.out] at hdr;have hrg:=zmx hdr hdk HN.out.symm;have hcp:=zft wr #[.int .i64 0,.int .i8 0,.int .i8 0,.int .i8 0,.int .i8 0,.int .i8 0,.int .i8 0,.int .i8 0,.int .i8 0,.int .i8 0,.int .i8 0,.int .i8 0,.int .i8 0,.int .i8 0,.int .i8 0,.int .i8 0,.int .i8 0,.int .i8 0,.int .i8 0,.int .i8 0,.int .i8 0,.int .i8 0,.int .i8 0,.int .i8 0,.int .i8 0] rfl d.1 (tvl d.2) (qo _);obtain⟨⟨cb0,cc,csz⟩,hth⟩:=hcp;have cb:zB wr ((wr.alloc (.cells #[.int .i64 0,.int .i8 0,.int .i8 0,.int .i8 0,.int .i8 0,.int .i8 0,.int .i8 0,.int .i8 0,.int .i8 0,.int .i8 0,.int .i8 0,.int .i8 0,.int .i8 0,.int .i8 0,.int .i8 0,.int .i8 0,.int .i8 0,.int .i8 0,.int .i8 0,.int .i8 0,.int .i8 0,.int .i8 0,.int .i8 0,.int .i8 0,.int .i8 0] 266)).setCells wr.heap.size 0 (yE d)):=cb0;clear cb0;have hrow2:=KF hrow cb;have hln:=zee s.decs (k:=k) (by rw[HN.out];exact hk);rw[HN.out] at hln;have hck:((wr.alloc (.cells #[.int .i64 0,.int .i8 0,.int .i8 0,.int .i8 0,.int .i8 0,.int .i8 0,.int .i8 0,.int .i8 0,.int .i8 0,.int .i8 0,.int .i8 0,.int .i8 0,.int .i8 0,.int .i8 0,.int .i8 0,.int .i8 0,.int .i8 0,.int .i8 0,.int .i8 0,.int .i8 0,.int .i8 0,.int .i8 0,.int .i8 0,.int .i8 0,.int .i8 0] 266)).setCells wr.heap.size 0 (yE d)).cell? ⟨w.heap.size,k,none⟩=some (.int .i64 ((xE s.decs k).getD k 0)):=by
        have:=hrow2.cellAt k (by omega);rw[xU _ _ (by omega)] at this;exact this
      have hfk:((wr.alloc (.cells #[.int .i64 0,.int .i8 0,.int .i8 0,.int .i8 0,.int .i8 0,.int .i8 0,.int .i8 0,.int .i8 0,.int .i8 0,.int .i8 0,.int .i8 0,.int .i8 0,.int .i8 0,.int .i8 0,.int .i8 0,.int .i8 0,.int .i8 0,.int .i8 0,.int .i8 0,.int .i8 0,.int .i8 0,.int .i8 0,.int .i8 0,.int .i8 0,.int .i8 0] 266)).setCells wr.heap.size 0 (yE d)).frozen? ⟨w.heap.size,k,none⟩=false:=hrow2.frozenAt k;have hst:=(hrow2.stored k (.int .i64 (-d.1))).1;rw[zhy,zl7 hdk] at hst;have hxb:=HDS.out d (List.mem_of_getElem? hdk);have HST:=zH hst;have hbb:=(zT hbr cb);have HB2:=zH (hbb.setCell (p:=⟨w.heap.size,k,none⟩) zN (.int .i64 (-d.1)));have HRG:=zH hrg;have HTH:Hid ((wr.alloc (.cells #[.int .i64 0,.int .i8 0,.int .i8 0,.int .i8 0,.int .i8 0,.int .i8 0,.int .i8 0,.int .i8 0,.int .i8 0,.int .i8 0,.int .i8 0,.int .i8 0,.int .i8 0,.int .i8 0,.int .i8 0,.int .i8 0,.int .i8 0,.int .i8 0,.int .i8 0,.int .i8 0,.int .i8 0,.int .i8 0,.int .i8 0,.int .i8 0,.int .i8 0] 266)).there wr.heap.size 0 (yE d).toArray.size):=by have e:(yE d).toArray.size=25:=(List.size_toArray ..).trans (Z8 d);rw[e];exact hth
      have HI:Hid ((Tryz.prog.info? 266).map (·.size)=some (yE d).length):=by rw[Z8];exact zhZ
      have HON:=zH (all_oneCell_toArray (zho d));have hu:=zH Tryz.underlying266;clear hdr hrow hbr hS hrg hth hrow2 hst hbb cb csz;have ccc:((wr.alloc (.cells #[.int .i64 0,.int .i8 0,.int .i8 0,.int .i8 0,.int .i8 0,.int .i8 0,.int .i8 0,.int .i8 0,.int .i8 0,.int .i8 0,.int .i8 0,.int .i8 0,.int .i8 0,.int .i8 0,.int .i8 0,.int .i8 0,.int .i8 0,.int .i8 0,.int .i8 0,.int .i8 0,.int .i8 0,.int .i8 0,.int .i8 0,.int .i8 0,.int .i8 0] 266)).setCells wr.heap.size 0 (yE d)).cell? ⟨wr.heap.size,0,none⟩=some (.int .i64 d.1):=cc;clear cc;generalize yE d=D at *;generalize (xE s.decs k).getD k 0=old at *;generalize d.1=x at *;obtain⟨hx0,hx1⟩:=hxb;go_wp2_with (first
        |(refine wpList_load_mid (by rfl) 266 _ (by rfl) g (k*25) (by rfl) D _ HRG.out hu.out (by rfl) HI.out ?_)
        |(refine wpList_store_mid (by rfl) 266 _ _ (by rfl) wr.heap.size 0 D.toArray (by rfl) (by rfl) HTH.out (by simpa using HI.out) HON.out ?_)
        | fail)
      go_roundw
      case rel=>exact⟨k+1,hlt,by go_num,HST.out,HB2.out⟩
      case measure=>simp[intOf];omega
    · obtain rfl:k=n:=by omega
      have hS:=(HS.out.new hbr).sg;have hcl:(zE s.decs).length=k:=by rw[Zu];exact HN.out
      have hrow':wr.ownsRow w.heap.size 3 1 (.slice (some ⟨w.heap.size,0,none⟩) (zE s.decs).length k) (zE s.decs).length (zn (zE s.decs)):=by
        have:=hrow;rw[<-HN.out,zhH,<-Zu s.decs] at this;rw[<-hcl];exact this
      have hik:qp 0 wr (some ⟨w.heap.size,0,none⟩) (zE s.decs):=fun i hi=>by
        obtain⟨ad,e,q1,q2⟩:=zdc hrow' i hi;rcases hrow'.2 with ⟨e',_⟩|⟨g,cap,cur,e',_,hg,_⟩
        · cases e'
        · cases e';cases e
          exact⟨_,rfl,q1,Or.inr ⟨cur,_,hg⟩,q2⟩
      obtain⟨ps,hps,hpk⟩:=hS.prow;obtain⟨pa,pc,rfl,-,-⟩:=yU hps;have c26:=hS.c26;have hws:=hbr.size;have HSS:=zH hS;have HIK:=zH hik;have HPS:=zH hps;have HPK:=zH hpk;have HBR:=zH hbr;have HCL:=zH hcl;clear hS hik hps hpk hbr hrow hrow' hcl;have hc24:Hid ((zE s.decs).length<=k):=Nat.le_of_eq HCL.out;go_wp2_with (at_builtin;refine wpList_append_own_at _ rfl _ _ 23 rfl B 202 ic (.slice none 0 0) 1 24 Tryz.underlying23 hic hc0 hc1 hc2 rfl (by decide) _ _ _ rfl (HPS.out.alloc _) ⟨wr.heap.size,0,none⟩ 1 1 [.slice (some ⟨w.heap.size,0,none⟩) k k] rfl rfl ?c1 ?c2 ?c3 ?c4 ?c5 ?_)
      case c1=>exact World.news_of_block (heap_alloc_new wr _)
      case c2=>intro u hu;rw[List.mem_singleton] at hu;subst hu;rfl
      case c3=>unfold maxLen;omega
      case c4=>omega
      case c5=>simp;omega
      intro pV' w7 hown7 hgrow7 _ hloc7;obtain⟨pa',pc',rfl,-,-⟩:=yU hown7;have hbn:=zf wr (.cells #[.slice (some ⟨w.heap.size,0,none⟩) k k] 202);have hBn:B<=(wr.alloc (.cells #[.slice (some ⟨w.heap.size,0,none⟩) k k] 202)).heap.size:=by simp;omega
      have hgp:=(HSS.out.new hbn).grow_p (c:=zE s.decs) (a:=some ⟨w.heap.size,0,none⟩) (cap:=k) (zS HPS.out hbn) (HPK.out.kp (Kp.new hbn)) (by rw[HCL.out];exact hown7) hgrow7 (by rw[World.size_alloc];exact hloc7) hBn hc24.out (by omega) (HIK.out.kp (Kp.new hbn));obtain⟨x1,x2,hS8,hb8,hik8⟩:=hgp;have HB8:Hid (Below B w (w7.setCell ⟨sb,26,none⟩ (.slice pa' (s.prf.length+1) pc'))):=((HBR.out.mono hB).trans (hbn.mono (by omega))).trans hb8;have HS8:=zH hS8;have HIK8:=zH hik8;have y0:=hS8.c0;obtain⟨cs,hcs,hck⟩:=hS8.crow;obtain⟨ca,cc,rfl,-,-⟩:=yU hcs;have HCS:=zH hcs;have HCK:=zH hck;have hz8:w7.heap.size<=(w7.setCell ⟨sb,26,none⟩ (.slice pa' (s.prf.length+1) pc')).heap.size:=by simp[World.setCell]
      have hw7:=hgrow7.size;have hB8:B<=(w7.setCell ⟨sb,26,none⟩ (.slice pa' (s.prf.length+1) pc')).heap.size:=by omega
      have hll:(l++s.prf).length<=2200:=by rw[List.length_append];omega
      clear hown7 hgrow7 hloc7 hbn hBn hS8 hb8 hik8 hcs hck hz8 hw7 HSS HIK HPS HPK HBR;obtain⟨L0,hL0⟩:∃L0,L0=(l++s.prf).length:=⟨_,rfl⟩;rw[<-hL0] at HCS y0 HS8 hll;have HL0:=zH hL0;clear hL0;go_wp2_with (at_builtin;refine wpList_append_own_at _ rfl _ _ 23 rfl B 202 ic (.slice none 0 0) 1 24 Tryz.underlying23 hic hc0 hc1 hc2 rfl (by decide) _ _ _ rfl (HCS.out.alloc _) ⟨w7.heap.size,0,none⟩ 1 1 [.slice (some ⟨w.heap.size,0,none⟩) k k] rfl rfl ?c1 ?c2 ?c3 ?c4 ?c5 ?_)
      case c1=>exact zj3 _ _ _ _
      case c2=>intro u hu;rw[List.mem_singleton] at hu;subst hu;rfl
      case c3=>unfold maxLen;omega
      case c4=>omega
      case c5=>rw[World.size_alloc];omega
      intro cV' w9 hown9 hgrow9 _ hloc9;obtain⟨ca',cc',rfl,-,-⟩:=yU hown9;have hz9:(w7.setCell ⟨sb,26,none⟩ (.slice pa' (s.prf.length+1) pc')).heap.size=w7.heap.size:=by simp[World.setCell]
      generalize w7.setCell ⟨sb,26,none⟩ (.slice pa' (s.prf.length+1) pc')=W8 at *;rw[<-hz9] at hloc9;clear hz9;have hbn:=zf W8 (.cells #[.slice (some ⟨w.heap.size,0,none⟩) k k] 202);have hBn:B<=(W8.alloc (.cells #[.slice (some ⟨w.heap.size,0,none⟩) k k] 202)).heap.size:=by rw[World.size_alloc];omega
      have hgc:=(HS8.out.new hbn).grow_c (c:=zE s.decs) (a:=some ⟨w.heap.size,0,none⟩) (cap:=k) (by rw[<-HL0.out];exact zS HCS.out hbn) (HCK.out.kp (Kp.new hbn)) (by rw[HCL.out,<-HL0.out];exact hown9) hgrow9 (by rw[World.size_alloc];exact hloc9) hBn hc24.out (by omega) (HIK8.out.kp (Kp.new hbn)).more;obtain⟨z1,z2,hS9,hb9⟩:=hgc;have HB9:Hid (Below B w (w9.setCell ⟨sb,0,none⟩ (.slice ca' (L0+1) cc'))):=(HB8.out.trans (hbn.mono hB8)).trans hb9;have HS9:Hid (SAt B (w9.setCell ⟨sb,0,none⟩ (.slice ca' (L0+1) cc')) sb l ⟨s.told,s.decs,s.prf++[zE s.decs]⟩ (.slice ca' (L0+1) cc') (.slice da k dcap) (.slice pa' (s.prf.length+1) pc')):=SG.st (by rw[<-List.append_assoc];exact hS9);clear hown9 hgrow9 hloc9 hbn hBn hS9 hb9 HS8 HB8 HCS HCK;go_wp2;refine bodyPost_end (v:=.tuple #[]) (by simp[results,Tryz.results105,go_sem]) rfl ?_;exact⟨rfl,⟨_,_,HS9.out⟩,HB9.out⟩
end
section
open Go.RowKit Go.Deep
section
variable {v:Nat} {l:List (List Int)} {s:St}
theorem znz{i x:Int}(h:zO s.told (l++s.prf)=(i,x))(hx:x≠0):qz v l s=.inl ⟨s.told++[x],s.decs,s.prf⟩:=by
  unfold qz;rw[h,if_pos hx]
theorem znm{i:Int}(h:zO s.told (l++s.prf)=(i,0))(hi:0<=i)(hd:s.decs=[]):qz v l s=.inr (.unsat (s.prf++[zE s.decs])):=by
  unfold qz;rw[h,if_neg (by simp),if_pos hi,hd];rfl
theorem znv{i:Int}{ds:List (Int × List Int)}{d:Int × List Int}(h:zO s.told (l++s.prf)=(i,0))(hi:0<=i)(hd:s.decs=ds++[d])(hp:s.prf.length+1=2000):qz v l s=.inr .limit:=by
  unfold qz;rw[h,if_neg (by simp),if_pos hi,hd];simp[hp]
theorem zjV{i:Int}{ds:List (Int × List Int)}{d:Int × List Int}(h:zO s.told (l++s.prf)=(i,0))(hi:0<=i)(hd:s.decs=ds++[d])(hp:s.prf.length+1≠2000):qz v l s=.inl ⟨d.2,ds,s.prf++[zE s.decs]⟩:=by
  unfold qz;rw[h,if_neg (by simp),if_pos hi,hd];simp[hp]
theorem zit{i:Int}(h:zO s.told (l++s.prf)=(i,0))(hi:i<0)(hl:yB v s.told<0):qz v l s=.inr (.sat s.told):=by
  unfold qz;rw[h,if_neg (by simp),if_neg (by simp;omega),if_pos hl]
theorem znU{i:Int}(h:zO s.told (l++s.prf)=(i,0))(hi:i<0)(hl:¬yB v s.told<0):qz v l s=.inl ⟨s.told++[yB v s.told+1],s.decs++[(yB v s.told+1,s.told)],s.prf⟩:=by
  unfold qz;rw[h,if_neg (by simp),if_neg (by simp;omega),if_neg hl]
end
def zlf(v:Int)(l:List (List Int))(e:Ending)(w':World):Prop :=
  ((qB v l).1≠0/\∃er,e=.returned (.tuple #[.agg #[.bool false,.int .u64 0,.slice none 0 0],er])/\ZN w' er (qB v l).1 (qB v l).2) \/
  ((qB v l).1=0/\∃ r,Run v.toNat l st0 r /\
    ((∃ t,r=.sat t/\e=.returned (.tuple #[.agg #[.bool true,.int .u64 ((yr t 24:Nat):Int),.slice none 0 0],.nilIface])) \/
     (∃p a c,r=.unsat p/\e=.returned (.tuple #[.agg #[.bool false,.int .u64 0,.slice a p.length c],.nilIface])/\yK w' a p) \/
     (r=.limit/\e=.returned (.tuple #[.agg #[.bool false,.int .u64 0,.slice none 0 0],.iface 64 (.int .i64 4)]))))
structure ziK(W:World)(b:Nat)(x0 x1 x2 y0 y1 y2:Value):Prop where
  a0:W.cell? ⟨b,0,none⟩=some x0
  f0:W.frozen? ⟨b,0,none⟩=false
  a1:(W.setCell ⟨b,0,none⟩ y0).cell? ⟨b,1,none⟩=some x1
  f1:(W.setCell ⟨b,0,none⟩ y0).frozen? ⟨b,1,none⟩=false
  a2:((W.setCell ⟨b,0,none⟩ y0).setCell ⟨b,1,none⟩ y1).cell? ⟨b,2,none⟩=some x2
  f2:((W.setCell ⟨b,0,none⟩ y0).setCell ⟨b,1,none⟩ y1).frozen? ⟨b,2,none⟩=false
  r0:(((W.setCell ⟨b,0,none⟩ y0).setCell ⟨b,1,none⟩ y1).setCell ⟨b,2,none⟩ y2).cell? ⟨b,0,none⟩=some y0
  r1:(((W.setCell ⟨b,0,none⟩ y0).setCell ⟨b,1,none⟩ y1).setCell ⟨b,2,none⟩ y2).cell? ⟨b,1,none⟩=some y1
  r2:(((W.setCell ⟨b,0,none⟩ y0).setCell ⟨b,1,none⟩ y1).setCell ⟨b,2,none⟩ y2).cell? ⟨b,2,none⟩=some y2
theorem QE{W:World}{b:Nat}{t:TypeId}{x0 x1 x2:Value}(h:Blk W b t #[x0,x1,x2])(y0 y1 y2:Value):ziK W b x0 x1 x2 y0 y1 y2:=by
  have h1:=h.set (i:=0) (v:=y0);have h2:=h1.set (i:=1) (v:=y1);have h3:=h2.set (i:=2) (v:=y2);exact⟨h.cell 0,h.frozen 0,h1.cell 1,h1.frozen 1,h2.cell 2,h2.frozen 2,h3.cell 0,h3.cell 1,h3.cell 2⟩
theorem ZN.set3{W:World}{b:Nat}{e:Value}{m pl:Int}(h:ZN W e m pl)(hb:W.cell? ⟨b,0,none⟩=some (.bool false))(y0 y1 y2:Value):ZN (((W.setCell ⟨b,0,none⟩ y0).setCell ⟨b,1,none⟩ y1).setCell ⟨b,2,none⟩ y2) e m pl:=by
  rcases h with h|h|⟨h0,k,h1,h2,h3,h4⟩
  · exact Or.inl h
  · exact Or.inr (Or.inl h)
  · have hk:k≠b:=fun e=>by rw[e,hb] at h3;cases h3
    refine Or.inr (Or.inr ⟨h0,k,by simpa[World.setCell] using h1,h2,?_,?_⟩)
    · rw[World.cell?_setCell_other _ _ _ _ (fun e=>hk (congrArg Addr.block e).symm),World.cell?_setCell_other _ _ _ _ (fun e=>hk (congrArg Addr.block e).symm),World.cell?_setCell_other _ _ _ _ (fun e=>hk (congrArg Addr.block e).symm)];exact h3
    · rw[World.cell?_setCell_other _ _ _ _ (fun e=>hk (congrArg Addr.block e).symm),World.cell?_setCell_other _ _ _ _ (fun e=>hk (congrArg Addr.block e).symm),World.cell?_setCell_other _ _ _ _ (fun e=>hk (congrArg Addr.block e).symm)];exact h4
theorem zgP{B b:Nat}{W:World}{t:TypeId}{cs:Array Value}{ps:List Value}{p:List (List Int)}{a:Option Addr}{c:Nat}(hb:Blk W b t cs)(ht:t≠3)(ht2:t≠202)(hk:zX 0 W ps p)(hr:W.ownsRow B 202 1 (.slice a p.length c) p.length ps)(y0 y1 y2:Value) :
    yK (((W.setCell ⟨b,0,none⟩ y0).setCell ⟨b,1,none⟩ y1).setCell ⟨b,2,none⟩ y2) a p:=by
  have h1:=hb.set (i:=0) (v:=y0);have h2:=h1.set (i:=1) (v:=y1);have k1:=hk.kp (Kp.set (B:=0) (i:=0) (v:=y0) (Nat.zero_le _) hb ht);have k2:=k1.kp (Kp.set (B:=0) (i:=1) (v:=y1) (Nat.zero_le _) h1 ht);have k3:=k2.kp (Kp.set (B:=0) (i:=2) (v:=y2) (Nat.zero_le _) h2 ht);have r1:=ownsRow_setCell_other hr (a:=⟨b,0,none⟩) (qC hr hb ht2) y0;have r2:=ownsRow_setCell_other r1 (a:=⟨b,1,none⟩) (qC r1 h1 ht2) y1;have r3:=ownsRow_setCell_other r2 (a:=⟨b,2,none⟩) (qC r2 h2 ht2) y2;exact zX.cls ⟨k3.1,fun i hi=>by
    obtain⟨a',cap,q1,q2,q3,q4⟩:=k3.2 i hi;exact ⟨a',cap,q1,q2,q3,q4.more⟩⟩ r3
structure SS(w wr:World)(rb sb:Nat)(v:Nat)(l:List (List Int))(s:St)(r:Res)(cV dV pV:Value):Prop where
  at':SAt (rb+1) wr sb l s cV dV pV
  good:zI v s
  run:Run v l s r
  below:Below rb w wr
  blk:Blk wr rb 137 #[.bool false,.int .u64 0,.slice none 0 0]
theorem zoV:(Tryz.prog.info? 208).map (·.size)=some 27:=by kernel_rfl
theorem zmD(va:Option Addr)(n vc:Nat):(#[.slice va n vc,.int .i8 0,.int .i8 0,.int .i8 0,.int .i8 0,.int .i8 0,.int .i8 0,.int .i8 0,.int .i8 0,.int .i8 0,.int .i8 0,.int .i8 0,.int .i8 0,.int .i8 0,.int .i8 0,.int .i8 0,.int .i8 0,.int .i8 0,.int .i8 0,.int .i8 0,.int .i8 0,.int .i8 0,.int .i8 0,.int .i8 0,.int .i8 0,.slice none 0 0,.slice none 0 0]:Array Value).all (·.oneCell')=true :=
  all_oneCell_toArray (cs:=[.slice va n vc,.int .i8 0,.int .i8 0,.int .i8 0,.int .i8 0,.int .i8 0,.int .i8 0,.int .i8 0,.int .i8 0,.int .i8 0,.int .i8 0,.int .i8 0,.int .i8 0,.int .i8 0,.int .i8 0,.int .i8 0,.int .i8 0,.int .i8 0,.int .i8 0,.int .i8 0,.int .i8 0,.int .i8 0,.int .i8 0,.int .i8 0,.int .i8 0,.slice none 0 0,.slice none 0 0]) (fun v hv=>by
    rcases List.mem_cons.1 hv with rfl|hv
    · rfl
    · have:∀u∈([.int .i8 0,.int .i8 0,.int .i8 0,.int .i8 0,.int .i8 0,.int .i8 0,.int .i8 0,.int .i8 0,.int .i8 0,.int .i8 0,.int .i8 0,.int .i8 0,.int .i8 0,.int .i8 0,.int .i8 0,.int .i8 0,.int .i8 0,.int .i8 0,.int .i8 0,.int .i8 0,.int .i8 0,.int .i8 0,.int .i8 0,.int .i8 0,.slice none 0 0,.slice none 0 0]:List Value),u.oneCell'=true:=by decide
      exact this v hv)
theorem zlK{w w1 w2 WS:World}{n:Nat}{l:List (List Int)}{r:Res}{va:Option Addr}{vc:Nat}{cs:List Value}(hbn:zB w2 WS)(hbs:Blk WS w2.heap.size 208 #[.slice none 0 0,.int .i8 0,.int .i8 0,.int .i8 0,.int .i8 0,.int .i8 0,.int .i8 0,.int .i8 0,.int .i8 0,.int .i8 0,.int .i8 0,.int .i8 0,.int .i8 0,.int .i8 0,.int .i8 0,.int .i8 0,.int .i8 0,.int .i8 0,.int .i8 0,.int .i8 0,.int .i8 0,.int .i8 0,.int .i8 0,.int .i8 0,.int .i8 0,.slice none 0 0,.slice none 0 0])(hrow:w2.ownsRow w1.heap.size 202 1 (.slice va l.length vc) l.length cs)(hck:zX (w.heap.size+1) w2 cs l)(hs1:w.heap.size+1<=w1.heap.size)(hs2:w1.heap.size<=w2.heap.size)(hB1:zB w w1)(hBL:Blk w1 w.heap.size 137 #[.bool false,.int .u64 0,.slice none 0 0])(hb2:zB w1 w2)(hrun:Run n l st0 r) :
    SS w (WS.setCells w2.heap.size 0 [.slice va l.length vc,.int .i8 0,.int .i8 0,.int .i8 0,.int .i8 0,.int .i8 0,.int .i8 0,.int .i8 0,.int .i8 0,.int .i8 0,.int .i8 0,.int .i8 0,.int .i8 0,.int .i8 0,.int .i8 0,.int .i8 0,.int .i8 0,.int .i8 0,.int .i8 0,.int .i8 0,.int .i8 0,.int .i8 0,.int .i8 0,.int .i8 0,.int .i8 0,.slice none 0 0,.slice none 0 0]) w.heap.size w2.heap.size n l st0 r (.slice va l.length vc) (.slice none 0 0) (.slice none 0 0)/\WS.there w2.heap.size 0 27:=by
  have hrowS:=zS (yu hrow hs1) hbn;have hne:=qC hrowS hbs (by decide);have hset:=KY (cs:=[.slice none 0 0,.int .i8 0,.int .i8 0,.int .i8 0,.int .i8 0,.int .i8 0,.int .i8 0,.int .i8 0,.int .i8 0,.int .i8 0,.int .i8 0,.int .i8 0,.int .i8 0,.int .i8 0,.int .i8 0,.int .i8 0,.int .i8 0,.int .i8 0,.int .i8 0,.int .i8 0,.int .i8 0,.int .i8 0,.int .i8 0,.int .i8 0,.int .i8 0,.slice none 0 0,.slice none 0 0]) hbs [.slice va l.length vc,.int .i8 0,.int .i8 0,.int .i8 0,.int .i8 0,.int .i8 0,.int .i8 0,.int .i8 0,.int .i8 0,.int .i8 0,.int .i8 0,.int .i8 0,.int .i8 0,.int .i8 0,.int .i8 0,.int .i8 0,.int .i8 0,.int .i8 0,.int .i8 0,.int .i8 0,.int .i8 0,.int .i8 0,.int .i8 0,.int .i8 0,.int .i8 0,.slice none 0 0,.slice none 0 0] 0 (by simp);have hblA:=(hBL.below hb2 hBL.lt).below hbn (hBL.below hb2 hBL.lt).lt;have hkp:Kp (w.heap.size+1) WS (WS.setCells w2.heap.size 0 [.slice va l.length vc,.int .i8 0,.int .i8 0,.int .i8 0,.int .i8 0,.int .i8 0,.int .i8 0,.int .i8 0,.int .i8 0,.int .i8 0,.int .i8 0,.int .i8 0,.int .i8 0,.int .i8 0,.int .i8 0,.int .i8 0,.int .i8 0,.int .i8 0,.int .i8 0,.int .i8 0,.int .i8 0,.int .i8 0,.int .i8 0,.int .i8 0,.int .i8 0,.slice none 0 0,.slice none 0 0]):=zal (by omega) (by decide) _ _ _ _ hbs;refine⟨⟨⟨hset,by omega,⟨cs,?_,?_⟩,⟨[],World.ownsRow_nil _ _ _ _,zX.nil⟩,World.ownsRow_nil _ _ _ _,?_⟩,Kk n,hrun,Ko (by omega) _ _ _ ((zT hB1 hb2).trans (hbn.mono (by omega))),?_⟩,?_⟩
  · have:=YC hne [.slice va l.length vc,.int .i8 0,.int .i8 0,.int .i8 0,.int .i8 0,.int .i8 0,.int .i8 0,.int .i8 0,.int .i8 0,.int .i8 0,.int .i8 0,.int .i8 0,.int .i8 0,.int .i8 0,.int .i8 0,.int .i8 0,.int .i8 0,.int .i8 0,.int .i8 0,.int .i8 0,.int .i8 0,.int .i8 0,.int .i8 0,.int .i8 0,.int .i8 0,.slice none 0 0,.slice none 0 0] 0 _ hrowS
    simpa[st0] using this
  · have:=(hck.kp (Kp.new (B:=w.heap.size+1) hbn)).kp hkp
    simpa[st0] using this
  · cases va with
    |none=>exact Or.inl rfl
    |some ad=>exact Or.inr (by simp[Value.ownBlock])
  · have:=hkp.block w.heap.size hblA.lt (Or.inl (by omega))
    exact this.trans hblA
  · intro j hj
    refine⟨?_,hbs.frozen _⟩;rw[hbs.cell,Nat.zero_add,Array.getElem?_eq_getElem (by simpa using hj)];rfl
theorem zlI(v:Int)(l:List (List Int))(a:Option Addr)(cap:Nat)(hn:a=none->cap=0)(w:World)(hI:yK w a l)(hm:l.length<=9223372036854775807) :
    zC 64 #[.int .i64 v,.slice a l.length cap] w fun e w'=>zlf v l e w'/\zB w w':=by
  have hbA:=zf w (.cells #[.bool false,.int .u64 0,.slice none 0 0] 137);have hIA:=hI.below hbA;have hblkA:=Blk.new w 137 #[.bool false,.int .u64 0,.slice none 0 0];have HCH:=zH (znN v l a cap _ hIA hm);have hszA:(w.alloc (.cells #[.bool false,.int .u64 0,.slice none 0 0] 137)).heap.size=w.heap.size+1:=by simp
  have HBA:=zH hbA;have HIA:=zH hIA;have HBLK:=zH hblkA;have HSZ:=zH hszA;clear hI hbA hIA hblkA hszA;go_enter Tryz.func64,Tryz.ntmps64;go_wp2_with fail;generalize w.alloc (.cells #[.bool false,.int .u64 0,.slice none 0 0] 137)=WA at *;refine HCH.out.mono ?_;rintro e w1 ⟨er,rfl,her,hb1⟩;replace hb1:=hb1.mono (Nat.le_of_eq HSZ.out.symm);have hbl1:=HBLK.out.below hb1 (by omega);have hbw1:zB w w1:=HBA.out.trans (hb1.mono (by omega));clear HCH
  by_cases hz:(qB v l).1=0
  · obtain⟨hv0,hv1,hl200,hls,hck,hcl⟩:=zl9 hz
    obtain rfl:er=.nilIface:=by
      rcases her with h|h|h
      · exact h.2.2
      · exact absurd hz h.1
      · exact absurd hz h.1
    obtain⟨n,rfl⟩:∃n:Nat,v=(n:Int):=⟨v.toNat,by omega⟩;obtain⟨r,hrun⟩:=zh5 (v:=n) (l:=l) (by omega) hls (mu st0) st0 zN (Kk n);have HCL:=zH (zmy WA l a cap hn (by omega) w1 HIA.out (hb1.mono (Nat.le_of_eq HSZ.out)));have HZ:=zH hz;have HLS:=zH hls;have HRUN:=zH hrun;have HB1:=zH hbw1;have HBL:=zH hbl1;have hs1:=hb1.size;clear her hz hls hck hcl hb1 hbl1 hbw1 hrun HBA HIA HBLK;go_wp2_with fail;refine HCL.out.mono ?_;rintro e w2 ⟨va,vc,rfl,⟨cs,hrow,hck⟩,hb2⟩;have hs2:=hb2.size;rw[HSZ.out] at hs1 hck;have hbn:=zf w2 (.cells #[.slice none 0 0,.int .i8 0,.int .i8 0,.int .i8 0,.int .i8 0,.int .i8 0,.int .i8 0,.int .i8 0,.int .i8 0,.int .i8 0,.int .i8 0,.int .i8 0,.int .i8 0,.int .i8 0,.int .i8 0,.int .i8 0,.int .i8 0,.int .i8 0,.int .i8 0,.int .i8 0,.int .i8 0,.int .i8 0,.int .i8 0,.int .i8 0,.int .i8 0,.slice none 0 0,.slice none 0 0] 208);have hstart:=zlK (w:=w) (n:=n) (l:=l) (r:=r) hbn (Blk.new _ _ _) hrow hck hs1 hs2 HB1.out HBL.out hb2 HRUN.out;have HST:=zH hstart.1;have HTH:=zH hstart.2;have HON:=zH (zmD va l.length vc);clear hrow hck hb2 hstart HCL HB1 HBL hbn;go_wp2_with (first
      |(refine wpList_store_mid (by rfl) 208 _ _ (by rfl) w2.heap.size 0 #[.slice va l.length vc,.int .i8 0,.int .i8 0,.int .i8 0,.int .i8 0,.int .i8 0,.int .i8 0,.int .i8 0,.int .i8 0,.int .i8 0,.int .i8 0,.int .i8 0,.int .i8 0,.int .i8 0,.int .i8 0,.int .i8 0,.int .i8 0,.int .i8 0,.int .i8 0,.int .i8 0,.int .i8 0,.int .i8 0,.int .i8 0,.int .i8 0,.int .i8 0,.slice none 0 0,.slice none 0 0] (by rfl) (by rfl) HTH.out zoV HON.out ?_)
      | fail)
    generalize (w2.alloc (.cells #[.slice none 0 0,.int .i8 0,.int .i8 0,.int .i8 0,.int .i8 0,.int .i8 0,.int .i8 0,.int .i8 0,.int .i8 0,.int .i8 0,.int .i8 0,.int .i8 0,.int .i8 0,.int .i8 0,.int .i8 0,.int .i8 0,.int .i8 0,.int .i8 0,.int .i8 0,.int .i8 0,.int .i8 0,.int .i8 0,.int .i8 0,.int .i8 0,.int .i8 0,.slice none 0 0,.slice none 0 0] 208)).setCells w2.heap.size 0 [.slice va l.length vc,.int .i8 0,.int .i8 0,.int .i8 0,.int .i8 0,.int .i8 0,.int .i8 0,.int .i8 0,.int .i8 0,.int .i8 0,.int .i8 0,.int .i8 0,.int .i8 0,.int .i8 0,.int .i8 0,.int .i8 0,.int .i8 0,.int .i8 0,.int .i8 0,.int .i8 0,.int .i8 0,.int .i8 0,.int .i8 0,.int .i8 0,.int .i8 0,.slice none 0 0,.slice none 0 0]=W3 at *;simp only[Act.put];go_loopg [8] (mu st0) (fun k _ wr=>∃(s:St) (cV dV pV:Value),SS w wr w.heap.size w2.heap.size n l s r cV dV pV/\mu s<=k)
    case atStart=>exact⟨st0,_,_,_,HST.out,Nat.le_refl _⟩
    case round =>
      obtain⟨s,cV,dV,pV,hss,hmu⟩:=hrel;clear HST;obtain⟨cs,hcs,hck⟩:=hss.at'.crow;obtain⟨ca,cc,rfl,-,-⟩:=yU hcs;have hlp:yt n (l++s.prf):=Ym HLS.out hss.good.litsP;have h24:yt 24 (l++s.prf):=fun c hc x hx=>XY hv1 (hlp c hc x hx);have c0:=hss.at'.c0;have hpl:=hss.good.pl;have hll:(l++s.prf).length<=2200:=by rw[List.length_append];omega
      have HN:=Jf ⟨w2.heap.size,1,none⟩ s.told hss.good.cons (l++s.prf) h24 ca cc wr hss.at'.vals (hck.cls hcs) (by omega);have hnx:=Xj (l:=l++s.prf) hss.good.cons;have HSS:=zH hss;have HLP:=zH hlp;have hsg:Hid (∀s',qz n l s=.inl s'->zI n s'/\mu s'<mu s):=fun s' h=>YN (by omega) HLS.out hss.good h;generalize hr:zO s.told (l++s.prf)=nx at *;obtain⟨i,x⟩:=nx;have HR:=zH hr;obtain⟨L0,hL0⟩:∃L0,L0=(l++s.prf).length:=⟨_,rfl⟩;rw[<-hL0] at HN c0 hll;simp only at HN;have HNN:=zH HN;have hi01:(i=-1/\x=0)\/0<=i:=by
        cases hnx with
        |none=>exact Or.inl ⟨rfl,rfl⟩
        |bad=>exact Or.inr (by omega)
        |one=>exact Or.inr (by omega)
      clear hcs hck hlp h24 hnx hr HN hss hL0
      by_cases hx0:x=0
      · subst hx0
        by_cases hi:0<=i
        · -- a clause can't hold
          have hdl:s.decs.length<=24:=by have:=HSS.out.good.few;omega
          clear hi01;go_wp2_with fail;refine HNN.out.mono ?_;rintro e w3 ⟨rfl,hb3⟩;have ha3:=HSS.out.at'.new hb3;have hbl3:=HSS.out.blk.below hb3 HSS.out.blk.lt;have hbw3:=zT HSS.out.below hb3;have hB3:w.heap.size+1<=w3.heap.size:=by have:=hbl3.lt;omega
          have HRF:=zH (zkV (w.heap.size + 1) w2.heap.size l s _ _ _ hdl (fun d hd=>by
            obtain⟨k,hk⟩:=List.getElem?_of_mem hd;have:=(HSS.out.good.ds k d hk).2.2.2;rw [q7] at this;omega) hpl hl200 w3 hB3 ha3)
          have HBL3:=zH hbl3;have HBW3:=zH hbw3;clear hb3 ha3 hbl3 hbw3 HNN;go_wp2_with fail;refine HRF.out.mono ?_;rintro e w4 ⟨rfl,⟨cV',pV',ha4⟩,hb4⟩;have hbl4:=HBL3.out.below hb4 (by omega);have hbw4:zB w w4:=HBW3.out.trans (hb4.mono (by omega));obtain⟨ps,hps,hpk⟩:=ha4.prow;obtain⟨pa,pc,rfl,-,-⟩:=yU hps;have d25:=ha4.c25;have d26:=ha4.c26;have hprl:(s.prf++[zE s.decs]).length=s.prf.length+1:=by simp
          have HPC:Hid (∀(y0 y1 y2:Value),yK (((w4.setCell ⟨w.heap.size,0,none⟩ y0).setCell ⟨w.heap.size,1,none⟩ y1).setCell ⟨w.heap.size,2,none⟩ y2) pa (s.prf++[zE s.decs])):=fun y0 y1 y2=>zgP hbl4 (by decide) (by decide) hpk hps y0 y1 y2;simp only[hprl] at d26;obtain⟨da,dc,rfl⟩:∃a c,dV=.slice a s.decs.length c:=by
            rcases ha4.drow.2 with ⟨e,e0⟩|⟨g,cap,cur,e,-⟩
            · exact⟨none,0,by rw[e];exact congrArg (fun k=>Value.slice none k 0) e0.symm⟩
            · exact⟨_,_,e⟩
          have HA4:=zH ha4;have HB4:=zH hb4;have HBL4:=zH hbl4;have HBW4:=zH hbw4;have HPRL:=zH hprl;clear ha4 hb4 hbl4 hbw4 hps hpk HRF HBL3 HBW3 hprl
          by_cases hd0:s.decs=[]
          · have HRES:=zH (HSS.out.run.at_done (znm HR.out hi hd0))
            have hdz:s.decs.length=0:=by rw[hd0];rfl
            rw[hdz] at d25;have P:=QE HBL4.out (.bool false) (.int .u64 0) (.slice pa (s.prf.length+1) pc);have q0:=P.a0;have f0:=P.f0;have q1:=P.a1;have f1:=P.f1;have q2:=P.a2;have f2:=P.f2;have HP:=zH P;have HPB:Hid (zB w (((w4.setCell ⟨w.heap.size,0,none⟩ (.bool false)).setCell ⟨w.heap.size,1,none⟩ (.int .u64 0)).setCell ⟨w.heap.size,2,none⟩ (.slice pa (s.prf.length+1) pc))):=((HBW4.out.setCell zN _).setCell zN _).setCell zN _;have HPC2:Hid (yK (((w4.setCell ⟨w.heap.size,0,none⟩ (.bool false)).setCell ⟨w.heap.size,1,none⟩ (.int .u64 0)).setCell ⟨w.heap.size,2,none⟩ (.slice pa (s.prf.length+1) pc)) pa (s.prf++[zE s.decs])):=HPC.out _ _ _;clear P hdz hd0 HPC;go_wp2;refine bodyPost_ret (v:=.tuple #[.agg #[.bool false,.int .u64 0,.slice pa (s.prf.length+1) pc],.nilIface]) (by simp[results,Tryz.results64,go_sem,HP.out.r0,HP.out.r1,HP.out.r2]) rfl ?_;refine⟨Or.inr ⟨HZ.out,r,HRUN.out,Or.inr (Or.inl ⟨_,pa,pc,HRES.out,?_,HPC2.out⟩)⟩,HPB.out⟩;rw[HPRL.out]
          · obtain⟨ds,⟨y,t⟩,hds⟩:∃ds d,s.decs=ds++[d]:=⟨_,_,(List.dropLast_concat_getLast hd0).symm⟩
            have hpos:¬s.decs.length=0:=fun h=>hd0 (List.length_eq_zero_iff.1 h);have hdn:((s.decs.length:Int)==0)=false:=by simp;omega
            by_cases hlim:s.prf.length+1=2000
            · have HRES:=zH (HSS.out.run.at_done (znv HR.out hi hds hlim))
              have P:=QE HBL4.out (.bool false) (.int .u64 0) (.slice none 0 0);have q0:=P.a0;have f0:=P.f0;have q1:=P.a1;have f1:=P.f1;have q2:=P.a2;have f2:=P.f2;have HP:=zH P;have HPB:Hid (zB w (((w4.setCell ⟨w.heap.size,0,none⟩ (.bool false)).setCell ⟨w.heap.size,1,none⟩ (.int .u64 0)).setCell ⟨w.heap.size,2,none⟩ (.slice none 0 0))):=((HBW4.out.setCell zN _).setCell zN _).setCell zN _;clear P hd0 hds HPC;generalize s.decs.length=dl at *;rw[hlim] at d26;go_wp2;refine bodyPost_ret (v:=.tuple #[.agg #[.bool false,.int .u64 0,.slice none 0 0],.iface 64 (.int .i64 4)]) (by simp[results,Tryz.results64,go_sem,HP.out.r0,HP.out.r1,HP.out.r2]) rfl ?_;exact⟨Or.inr ⟨HZ.out,r,HRUN.out,Or.inr (Or.inr ⟨HRES.out,rfl⟩)⟩,HPB.out⟩
            · have hst:=zjV (v:=n) HR.out hi hds hlim
              have HGO:=zH (HSS.out.run.at_go hst);have HGD:=zH (hsg.out _ hst).1;have hmu2:=(hsg.out _ hst).2;have HTB:=zH (zk7 (w.heap.size+1) w2.heap.size l ⟨s.told,s.decs,s.prf++[zE s.decs]⟩ _ _ _ ds y t hds hdl w4 HA4.out);have hl2:(((s.prf.length:Int)+1)==2000)=false:=by simp;omega
              have hl3:(((s.prf.length+1:Nat):Int)==2000)=false:=by simp;omega
              clear hst hd0 hds HPC;generalize s.decs.length=dl at *;generalize s.prf.length=pl at *;go_wp2_with fail;refine HTB.out.mono ?_;rintro e w5 ⟨rfl,⟨dV',ha5⟩,hb5⟩;have HS5:Hid (SS w w5 w.heap.size w2.heap.size n l ⟨t,ds,s.prf++[zE s.decs]⟩ r cV' dV' _):=⟨ha5,HGD.out,HGO.out,HBW4.out.trans (hb5.mono (by omega)),HBL4.out.below hb5 (by omega)⟩;clear ha5 hb5 HTB;go_wp2;go_roundg (mu ⟨t,ds,s.prf++[zE s.decs]⟩)
              case rel=>exact⟨_,_,_,_,HS5.out,Nat.le_refl _⟩
              case measure=>exact Nat.lt_of_lt_of_le hmu2 hmu
        · -- nothing follows
          have hi1:i=-1:=by rcases hi01 with h|h<;>omega
          subst hi1;clear hi01;have hn24:n<=24:=by omega
          have hle:=Qz (v:=n) (told:=s.told);have hdl:s.decs.length<=24:=by have:=HSS.out.good.few;omega
          go_wp2_with fail;refine HNN.out.mono ?_;rintro e w3 ⟨rfl,hb3⟩;have ha3:=HSS.out.at'.new hb3;have hbl3:=HSS.out.blk.below hb3 HSS.out.blk.lt;have hbw3:=zT HSS.out.below hb3;have HIX:=zH (zh0 ⟨w2.heap.size,1,none⟩ s.told n hn24 24 w3 ha3.vals);have HA3:=zH ha3;have HBL3:=zH hbl3;have HBW3:=zH hbw3;clear hb3 ha3 hbl3 hbw3 HNN;rcases hle with ⟨hneg,-⟩|⟨k,hk,hkn,htz,-⟩
          · have HRES:=zH (HSS.out.run.at_done (zit HR.out (by omega) (by rw[hneg];omega)))
            rw[hneg] at HIX;have HNU:=zH (zfB ⟨w2.heap.size,1,none⟩ s.told w3 HA3.out.vals);clear hneg;obtain⟨N,hN⟩:∃N,N=yr s.told 24:=⟨_,rfl⟩;rw[<-hN] at HNU;have HNE:=zH hN;clear hN;go_wp2_with fail;refine HIX.out.mono ?_;rintro e w4 ⟨rfl,rfl⟩;clear HIX;go_wp2_with fail;refine HNU.out.mono ?_;rintro e w4 ⟨rfl,hb4⟩;have P:=QE (HBL3.out.below hb4 HBL3.out.lt) (.bool true) (.int .u64 N) (.slice none 0 0);have q0:=P.a0;have f0:=P.f0;have q1:=P.a1;have f1:=P.f1;have q2:=P.a2;have f2:=P.f2;have HP:=zH P;have HPB:Hid (zB w (((w4.setCell ⟨w.heap.size,0,none⟩ (.bool true)).setCell ⟨w.heap.size,1,none⟩ (.int .u64 N)).setCell ⟨w.heap.size,2,none⟩ (.slice none 0 0))):=(((zT HBW3.out hb4).setCell zN _).setCell zN _).setCell zN _;clear P hb4 HNU;go_wp2;refine bodyPost_ret (v:=.tuple #[.agg #[.bool true,.int .u64 N,.slice none 0 0],.nilIface]) (by simp[results,Tryz.results64,go_sem,HP.out.r0,HP.out.r1,HP.out.r2]) rfl ?_;exact⟨Or.inr ⟨HZ.out,r,HRUN.out,Or.inl ⟨s.told,HRES.out,by rw[HNE.out]⟩⟩,HPB.out⟩
          · have hst:=znU (v:=n) HR.out (by omega) (by rw[hk];omega)
            rw[hk] at hst HIX;have HGO:=zH (HSS.out.run.at_go hst);have HGD:=zH (hsg.out _ hst).1;have hmu2:=(hsg.out _ hst).2;obtain⟨z0,z1⟩:=Z9.1 htz;have hlk:qi 24 ((k:Int)+1)=true:=by rw[q7];omega
            have HDC:=zH (zlM (w.heap.size+1) w2.heap.size l s _ _ _ ((k:Int)+1) hlk z1 hdl w3 HA3.out);clear hst hk htz z0 z1 hlk;go_wp2_with fail;refine HIX.out.mono ?_;rintro e w4 ⟨rfl,rfl⟩;clear HIX;go_wp2_with fail;refine HDC.out.mono ?_;rintro e w5 ⟨rfl,⟨dV',ha5⟩,hb5⟩;have HS5:Hid (SS w w5 w.heap.size w2.heap.size n l ⟨s.told++[(k:Int)+1],s.decs++[((k:Int)+1,s.told)],s.prf⟩ r _ dV' _):=⟨ha5,HGD.out,HGO.out,HBW3.out.trans (hb5.mono (by omega)),HBL3.out.below hb5 (by omega)⟩;clear ha5 hb5 HDC;go_wp2;go_roundg (mu ⟨s.told++[(k:Int)+1],s.decs++[((k:Int)+1,s.told)],s.prf⟩)
            case rel=>exact⟨_,_,_,_,HS5.out,Nat.le_refl _⟩
            case measure=>exact Nat.lt_of_lt_of_le hmu2 hmu
      · -- a literal is told
        have hst:=znz (v:=n) HR.out hx0;have HGO:=zH (HSS.out.run.at_go hst);have HGD:=zH (hsg.out _ hst).1;have hmu2:=(hsg.out _ hst).2;obtain⟨p1,p2,p3,-,-⟩:=Xq HLP.out HSS.out.good.cons HSS.out.good.lits HR.out hx0;have hl24:=XY hv1 p1;have hxn:(x != 0)=true:=by simpa using hx0
        have HPP:Hid (-x∉s.told):=p3;clear hst p1 p2 p3 hi01 hx0;go_wp2_with fail;refine HNN.out.mono ?_;rintro e w3 ⟨rfl,hb3⟩;have ha3:=HSS.out.at'.new hb3;have HT:=zH (zaQ ⟨w2.heap.size,1,none⟩ s.told x hl24 w3 ha3.vals);have hbl3:=HSS.out.blk.below hb3 HSS.out.blk.lt;have hbw3:=zT HSS.out.below hb3;have hsb:=HSS.out.at'.Bsb;have HS5:Hid (SS w (w3.setCell ((⟨w2.heap.size,1,none⟩:Addr).add (qO x)) (.int .i8 (yN x))) w.heap.size w2.heap.size n l ⟨s.told++[x],s.decs,s.prf⟩ r _ _ _):=⟨ha3.tell hl24 HPP.out,HGD.out,HGO.out,hbw3.setCell (by rw[xm];show w.heap.size<=w2.heap.size;omega) _,by rw[yo];exact hbl3.other (by omega)⟩;clear hb3 ha3 hbl3 hbw3 HNN;go_wp2_with fail;refine HT.out.mono ?_;rintro e w4 ⟨rfl,hw4⟩;rw[<-hw4] at HS5;clear hw4 HT;go_wp2;go_roundg (mu ⟨s.told++[x],s.decs,s.prf⟩)
        case rel=>exact⟨_,_,_,_,HS5.out,Nat.le_refl _⟩
        case measure=>exact Nat.lt_of_lt_of_le hmu2 hmu
  · have HZ:=zH hz
    have HER:=zH her;have hnn:∃t u,er=.iface t u:=by
      rcases her with h|h|⟨_,b,_,h,_⟩
      · exact absurd h.1 hz
      · exact⟨_,_,h.2.2⟩
      · exact⟨_,_,h⟩
    obtain⟨t,u,rfl⟩:=hnn;have P:=QE hbl1 (.bool false) (.int .u64 0) (.slice none 0 0);have q0:=P.a0;have f0:=P.f0;have q1:=P.a1;have f1:=P.f1;have q2:=P.a2;have f2:=P.f2;have HP:=zH P;have HB:Hid (zB w (((w1.setCell ⟨w.heap.size,0,none⟩ (.bool false)).setCell ⟨w.heap.size,1,none⟩ (.int .u64 0)).setCell ⟨w.heap.size,2,none⟩ (.slice none 0 0))):=((hbw1.setCell zN _).setCell zN _).setCell zN _;have HK:Hid (ZN (((w1.setCell ⟨w.heap.size,0,none⟩ (.bool false)).setCell ⟨w.heap.size,1,none⟩ (.int .u64 0)).setCell ⟨w.heap.size,2,none⟩ (.slice none 0 0)) (.iface t u) (qB v l).1 (qB v l).2):=HER.out.set3 (hbl1.cell 0) _ _ _;clear her hz hb1 hbl1 P;go_wp2;refine bodyPost_ret (v:=.tuple #[.agg #[.bool false,.int .u64 0,.slice none 0 0],.iface t u]) (by simp[results,Tryz.results64,go_sem,HP.out.r0,HP.out.r1,HP.out.r2]) rfl ?_;exact⟨Or.inl ⟨HZ.out,_,rfl,HK.out⟩,HB.out⟩
end
end Go.Proofs.YtapobpgbcbplbaaGreatDoor
