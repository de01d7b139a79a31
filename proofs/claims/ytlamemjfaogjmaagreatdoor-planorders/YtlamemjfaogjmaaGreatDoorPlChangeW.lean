/- plan: Change: the walk. -/
import Derived.Test.YtlamemjfaogjmaaGreatDoorPlGoing
import Derived.Test.YtlamemjfaogjmaaGreatDoorCtParse
set_option maxHeartbeats 4000000
set_option maxRecDepth 100000
namespace Go.Proofs.YtlamemjfaogjmaaGreatDoor
section
open Go.RowKit Go.Deep Go.Shelf Sv
attribute [local go_sem] Oper.semAt_some
def zp(b:List Nat)(fr:Nat):List Nat:=b.filter fun i=>!fr.testBit i
noncomputable def chR(its:List It)(ls:List Ln)(fr tt:Nat):Except Int (List (Nat × Bool)) :=
 match zl its ls fr with
 |.error k=>.error k
 |.ok a=>match zl its ls tt with
  |.error k=>.error k
  |.ok b=>.ok ((goF a tt).map (fun i=>(i,false))++(zp b fr).map fun i=>(i,true))
def yL(l:List (Nat × Bool)):List Value:=l.flatMap fun x=>[.int .i64 x.1,.bool x.2]
theorem zaK(l:List (Nat × Bool))(x:Nat × Bool):yL (l++[x])=yL l++[.int .i64 x.1,.bool x.2]:=by
 unfold yL;rw[List.flatMap_append];simp
def Qq(w:World)(r:Except Int (List (Nat × Bool)))(e:Ending)(w':World):Prop :=
 match r with
 |.error k=>e=.returned (.tuple #[.slice none 0 0,.iface 28 (.int .i64 k)])/\zB w w'
 |.ok l=>∃v,e=.returned (.tuple #[v,.nilIface])/\w'.ownsRow w.heap.size 42 2 v l.length (yL l)/\zB w w'
theorem zeJ:(Tryz.prog.info? 42).map (fun i=>(i.zero,i.size,i.bytes))=some (some (.agg #[.int .i64 0,.bool false]),2,16):=by kernel_rfl
theorem Jy(w:World)(A B:Value)(t:TypeId):∀(j:Nat) (u:Value),[A,B][j]?=some u->(w.alloc (.cells #[A,B] t)).cell? (Addr.add ⟨w.heap.size,0,none⟩ j)=some u:=by
 intro j u h
 match j,h with
 |0,h=>simp at h;subst h;simp[Addr.add]
 |1,h=>simp at h;subst h;simp[Addr.add]
 |j+2,h=>simp at h
structure ChS(w W0 W:World)(bo B:Nat)(ov:Value)(st:List (Nat × Bool)):Prop where
 box:Blk W bo 38 #[ov]
 row:W.ownsRow B 42 2 ov st.length (yL st)
 kp:KpG B bo W0 W
 bel:zB w W
 sz:B<=W.heap.size
 lo:w.heap.size<=bo
 lt:bo<B
section
variable {w W0 W W':World} {bo B:Nat} {ov:Value} {st:List (Nat × Bool)}
theorem ChS.new(h:ChS w W0 W bo B ov st)(hb:zB W W'):ChS w W0 W' bo B ov st :=
 ⟨h.box.below hb h.box.lt,qK h.row hb,fun k h1 h2=>(hb.block k (Nat.lt_of_lt_of_le h1 h.sz)).trans (h.kp k h1 h2),zT h.bel hb,Nat.le_trans h.sz hb.size,h.lo,h.lt⟩
theorem ChS.app(h:ChS w W0 W bo B ov st){x:Nat}{b:Bool}{w7:World}{v7:Value}(hown:w7.ownsRow B 42 2 v7 (st.length+1) (yL st++[.int .i64 x,.bool b]))(hgr:(W.alloc (.cells #[.int .i64 x,.bool b] 42)).grownBy w7 ov.ownBlock) :
  Blk w7 bo 38 #[ov]/\ChS w W0 (w7.setCell ⟨bo,0,none⟩ v7) bo B v7 (st++[(x,b)]):=by
 have h':=h.new (qE W (.cells #[.int .i64 x,.bool b] 42));have hlt:=h.lt;have hlo:=h.lo;have ho:∀k,k<B->some k≠ov.ownBlock:=fun k hk e=>by have:=(h.row.lt k e.symm).1;omega
 have q:=h'.box.kept hgr (ho bo hlt);have hB7:zB w w7:=h'.bel.grown hgr (by have:=h'.bel.size;omega) (fun k hk=>by have:=(h.row.lt k hk).1;omega);refine⟨q,q.set (i:=0),?_,fun k h1 h2=>?_,hB7.setCell (p:=⟨bo,0,none⟩) hlo _,?_,hlo,hlt⟩
 ·rw[zaK,List.length_append];exact xj hown hlt
 ·refine(Below.heap_setCell _ _ _ k (show k≠bo from h2)).trans ((hgr.block k (Nat.lt_of_lt_of_le h1 h'.sz) (ho k h1)).trans (h'.kp k h1 h2))
 ·have:=h'.sz;have:=hgr.size;simp;omega
end
theorem ChS.own{w W0:World}{bo B:Nat}(hB:w.heap.size<=B)(f:List Nat->List (Nat × Bool)):OwnFrom B (fun (pre:List Nat) W=>∃ov,ChS w W0 W bo B ov (f pre)):=by
 intro pre W W' row ⟨ov,h⟩ hg hr;have hr':∀r,row=some r->∃o:Obj,W.heap[r]?=some o/\o.isCells=false:=fun r e=>(hr r e).2;exact⟨ov,qC h.box hg hr',Q5 h.row hg hr',fun k h1 h2=>(hg.block k (Nat.lt_of_lt_of_le h1 h.sz) (fun e=>by have:=(hr k e.symm).1;omega)).trans (h.kp k h1 h2),ownFrom_below (β:=Unit) zN hB () W W' row h.bel hg hr,Nat.le_trans h.sz hg.size,h.lo,h.lt⟩
theorem zfw(B bo b:Nat)(A:List Nat)(a:Option Addr)(c stay:Nat)(hA:∀x∈A,x<24)(hAl:A.length<=24)(hst:stay<18446744073709551616)(w:World)(hb:b<w.heap.size)(hb1:b+1<w.heap.size)(hbB:b<B)(hbB1:b+1<B)(hn0:b≠bo)(hn1:b+1≠bo)(h0:w.cell? ⟨b,0,none⟩=some (.slice a A.length c))(h1:w.cell? ⟨b+1,0,none⟩=some (.int .u64 stay))(hI:∀i,i<A.length->∃ad:Addr,a=some ad/\ad.block<w.heap.size/\ad.block<B/\ad.block≠bo/\w.cell? (ad.add i)=some (.int .i64 ((A.getD i 0:Nat):Int))) :
  SeqStopsK Fence.wide 3 Tryz.prog 49 #[.pointer (some ⟨b,0,none⟩),.pointer (some ⟨b+1,0,none⟩)] K8 (KpG B bo) (fun ys=>ys=goF A stay) (fun pre=>pre <+: goF A stay) (goF A stay).length w:=fun l J Jx W hW hJ _ hY hJ0 =>
 zfi l B bo b A a c stay hA hAl hst J Jx (fun pre W n h=>hJ pre W _ none h (zav W n) (fun r e=>by cases e)) hY W hbB hbB1 hn0 hn1 ((hW.cell (p:=⟨b,0,none⟩) hb).trans h0) ((hW.cell (p:=⟨b + 1,0,none⟩) hb1).trans h1) (fun i hi=>by
  obtain⟨ad,e,q1,q2,q3,q4⟩:=hI i hi;exact ⟨ad,e,q2,q3,(hW.cell (p:=ad.add i) (by rw [Z2];exact q1)).trans q4⟩) hJ0
theorem zcO{B bo:Nat}{A C D:World}(h:KpG B bo A C)(k:KpG B bo C D):KpG B bo A D:=fun q h1 h2=>(k q h1 h2).trans (h q h1 h2)
theorem zbS{B bo:Nat}{w:World}(hB:B<=w.heap.size)(W:World)(l:Nat)(o o':Obj)(hl:w.heap.size<=l)(_:W.heap[l]?=some o)(_:o.isCells=false)(_:o.isWalk=false):KpG B bo W (W.putObj l o') :=
 fun k h1 _=>World.putObj_heap_other (by omega)
end
section
open Go.RowKit Go.Deep Go.Shelf Sv
attribute [local go_sem] Oper.semAt_some
theorem K9{its:List It}{ls:List Ln}{fr tt:Nat}{k:Int}(h:zl its ls fr=.error k):chR its ls fr tt=.error k:=by unfold chR;rw[h]
theorem KN{its:List It}{ls:List Ln}{fr tt:Nat}{a:List Nat}{k:Int}(h:zl its ls fr=.ok a)(h2:zl its ls tt=.error k):chR its ls fr tt=.error k:=by unfold chR;rw[h];simp only[h2]
theorem XY{its:List It}{ls:List Ln}{fr tt:Nat}{a b:List Nat}(h:zl its ls fr=.ok a)(h2:zl its ls tt=.ok b):chR its ls fr tt=.ok ((goF a tt).map (fun i=>(i,false))++(zp b fr).map fun i=>(i,true)):=by unfold chR;rw[h];simp only[h2]
theorem zh5(bk:Nat)(ls:List Ln)(its:List It)(hN:zk ls=.ok its)(fr tt:Nat)(w:World)(h:zV w bk ls its)(h1:fr<18446744073709551616)(k:Int)(hk:zl its ls fr=.error k) :
  zC 10 #[.pointer (some ⟨bk,0,none⟩),.int .u64 fr,.int .u64 tt] w (Qq w (chR its ls fr tt)):=by
 have HO0:=Zt bk ls its hN fr w h h1;rw[hk] at HO0;have HO:Hid (zR 6 #[.pointer (some ⟨bk,0,none⟩),.int .u64 fr] w (.tuple #[.slice none 0 0,.iface 28 (.int .i64 k)])):=HO0;rw[K9 hk];show Calls _ _ _ _ fun e w'=>e=.returned (.tuple #[.slice none 0 0,.iface 28 (.int .i64 k)])/\zB w w';clear HO0 hk h hN;go_enter Tryz.func10,Tryz.ntmps10;go_wp2_with fail;refine HO.out.mono ?_;rintro e w1 ⟨rfl,hb1⟩;have HB1:=zH hb1;clear hb1 HO;go_wp2;go_ret2;exact⟨rfl,HB1.out⟩
theorem zfn(bk:Nat)(ls:List Ln)(its:List It)(hN:zk ls=.ok its)(fr tt:Nat)(w:World)(h:zV w bk ls its)(h1:fr<18446744073709551616)(h2:tt<18446744073709551616)(a:List Nat)(k:Int)(ha:zl its ls fr=.ok a)(hk:zl its ls tt=.error k) :
  zC 10 #[.pointer (some ⟨bk,0,none⟩),.int .u64 fr,.int .u64 tt] w (Qq w (chR its ls fr tt)):=by
 have HO0:=Zt bk ls its hN fr w h h1;rw[ha] at HO0;have HO:Hid (zC 6 #[.pointer (some ⟨bk,0,none⟩),.int .u64 fr] w fun e w'=>∃wa wc,e=.returned (.tuple #[.slice wa a.length wc,.nilIface])/\zB w w'):=HO0.mono fun e w' ⟨v,he,hr,hb⟩=>by
  obtain⟨wa,wc,rfl,-⟩:=qm hr;exact⟨wa,wc,he,hb⟩
 have HT:Hid (∀W,zB w W->zR 6 #[.pointer (some ⟨bk,0,none⟩),.int .u64 tt] W (.tuple #[.slice none 0 0,.iface 28 (.int .i64 k)])):=fun W hb=>by
  have:=Zt bk ls its hN tt W (h.below hb zN) h2;rw[hk] at this;exact this
 rw[KN ha hk];show Calls _ _ _ _ fun e w'=>e=.returned (.tuple #[.slice none 0 0,.iface 28 (.int .i64 k)])/\zB w w';clear HO0 hk ha h hN;go_enter Tryz.func10,Tryz.ntmps10;go_wp2_with fail;refine HO.out.mono ?_;rintro e w1 ⟨wa,wc,rfl,hb1⟩;have HT1:=zH (HT.out w1 hb1);have HB1:=zH hb1;clear hb1 HO HT;go_wp2_with fail;refine HT1.out.mono ?_;rintro e w2 ⟨rfl,hb2⟩;have HB2:=zH (zT HB1.out hb2);clear hb2 HT1 HB1;go_wp2;go_ret2;exact⟨rfl,HB2.out⟩
theorem zfo(bk:Nat)(ls:List Ln)(its:List It)(hN:zk ls=.ok its)(fr tt:Nat)(w:World)(h:zV w bk ls its)(h1:fr<18446744073709551616)(h2:tt<18446744073709551616)(a b:List Nat)(ha:zl its ls fr=.ok a)(hb:zl its ls tt=.ok b)(ha24:∀x∈a,x<24)(hb24:∀x∈b,x<24)(hal:a.length<=24)(hbl:b.length<=24) :
  CallsIn Fence.wide 4 Tryz.prog 10 #[.pointer (some ⟨bk,0,none⟩),.int .u64 fr,.int .u64 tt] w (Qq w (chR its ls fr tt)):=by
 have HO:Hid (CallsIn Fence.wide 3 Tryz.prog 6 #[.pointer (some ⟨bk,0,none⟩),.int .u64 fr] w fun e w'=>∃ wa wc,e=.returned (.tuple #[.slice wa a.length wc,.nilIface])/\zW w' wa (zq a)/\zB w w'):=callsIn_wide.2 (by
  have HO0:=Zt bk ls its hN fr w h h1;rw[ha] at HO0;exact HO0.mono fun e w' ⟨v,he,hr,hb⟩=>by
   obtain⟨wa,wc,rfl,-⟩:=qm hr;exact ⟨wa,wc,he,yd (B:=w.heap.size) (c:=wc) (by rw [zz];exact hr),hb⟩)
 have HT:Hid (∀ W,zB w W->CallsIn Fence.wide 3 Tryz.prog 6 #[.pointer (some ⟨bk,0,none⟩),.int .u64 tt] W fun e w'=>∃ wa wc,e=.returned (.tuple #[.slice wa b.length wc,.nilIface])/\zW w' wa (zq b)/\zB W w'):=fun W hb0=>callsIn_wide.2 (by
  have HO0:=Zt bk ls its hN tt W (h.below hb0 zN) h2;rw[hb] at HO0;exact HO0.mono fun e w' ⟨v,he,hr,hb⟩=>by
   obtain⟨wa,wc,rfl,-⟩:=qm hr;exact ⟨wa,wc,he,yd (B:=W.heap.size) (c:=wc) (by rw [zz];exact hr),hb⟩)
 have HG:Hid (∀(x:Option Addr) (c:Nat) (W:World),CallsIn Fence.wide 3 Tryz.prog 29 #[.slice x a.length c,.int .u64 tt] W fun e w'=>e=.returned (.func (.func 49) #[] #[.pointer (some ⟨W.heap.size,0,none⟩),.pointer (some ⟨W.heap.size+1,0,none⟩)])/\w'=(W.alloc (.cells #[.slice x a.length c] 27)).alloc (.cells #[.int .u64 tt] 22)):=fun x c W=>zd9 x a.length c tt W;have HJ:Hid (∀W (k:Nat),k<24->CallsIn Fence.wide 3 Tryz.prog 25 #[.int .i64 k] W fun e w'=>e=.returned (.int .u64 ((2^k:Nat):Int))/\w'=W):=fun W k hk=>callsIn_wide.2 (x8 k (by omega) W);rw[XY ha hb];obtain⟨i0,hin,hz0,hz1,hz2⟩:=info_parts zeJ;have HA:=zH ha24;have HBl:=zH hb24;clear h hN ha hb ha24 hb24;show CallsIn _ _ _ _ _ _ fun e w'=>∃v,e=.returned (.tuple #[v,.nilIface])/\w'.ownsRow w.heap.size 42 2 v ((goF a tt).map (fun i=>(i,false))++(zp b fr).map fun i=>(i,true)).length (yL ((goF a tt).map (fun i=>(i,false))++(zp b fr).map fun i=>(i,true)))/\zB w w';refine callsIn_of_wp_marks Tryz.func10 rfl trivial ?_ rfl;simp only[Tryz.ntmps10,List.size_toArray,List.length_cons,List.length_nil,Nat.reduceAdd,Nat.reduceSub,Array.replicate_succ,Array.replicate_zero,List.push_toArray,List.append_toArray,List.nil_append,List.cons_append]
 gi_wp2_with fail
 refine⟨trivial,?_⟩;refine HO.out.mono ?_;rintro e w1 ⟨wa,wc,rfl,hia,hb1⟩;have HT1:=zH (HT.out w1 hb1);have HB1:=zH hb1;have HIA:=zH hia;clear hb1 HO HT hia
 gi_wp2_with fail
 refine⟨trivial,?_⟩;refine HT1.out.mono ?_;rintro e w2 ⟨va,vc,rfl,hib,hb2⟩;have HB2:=zH (zT HB1.out hb2);have HIA2:=zH (HIA.out.below hb2);have HIB2:=zH hib;clear hb2 HT1 HB1 HIA hib;have HGG:Hid (CallsIn Fence.wide 3 Tryz.prog 29 #[.slice wa a.length wc,.int .u64 tt] (w2.alloc (.cells #[.slice none 0 0] 38)) fun e w'=>e=.returned (.func (.func 49) #[] #[.pointer (some ⟨w2.heap.size+1,0,none⟩),.pointer (some ⟨w2.heap.size+1+1,0,none⟩)])/\w'=((w2.alloc (.cells #[.slice none 0 0] 38)).alloc (.cells #[.slice wa a.length wc] 27)).alloc (.cells #[.int .u64 tt] 22)):=by
  have:=HG.out wa wc (w2.alloc (.cells #[.slice none 0 0] 38));rw[World.size_alloc] at this;exact this
 clear HG
 gi_wp2_with fail
 refine⟨trivial,?_⟩;refine HGG.out.mono ?_;rintro e w' ⟨rfl,rfl⟩;clear HGG;have k0:=((Blk.new w2 38 #[.slice none 0 0]).alloc (.cells #[.slice wa a.length wc] 27)).alloc (.cells #[.int .u64 tt] 22);have k1:=(Blk.new (w2.alloc (.cells #[.slice none 0 0] 38)) 27 #[.slice wa a.length wc]).alloc (.cells #[.int .u64 tt] 22);have k2:=Blk.new ((w2.alloc (.cells #[.slice none 0 0] 38)).alloc (.cells #[.slice wa a.length wc] 27)) 22 #[.int .u64 tt];simp only[World.size_alloc] at k1 k2;have hbA:zB w2 (((w2.alloc (.cells #[.slice none 0 0] 38)).alloc (.cells #[.slice wa a.length wc] 27)).alloc (.cells #[.int .u64 tt] 22)):=(((Below.refl _ w2).alloc zN _).alloc (by simp only[World.size_alloc];omega) _).alloc (by simp only[World.size_alloc];omega) _;have hsz:(((w2.alloc (.cells #[.slice none 0 0] 38)).alloc (.cells #[.slice wa a.length wc] 27)).alloc (.cells #[.int .u64 tt] 22)).heap.size=w2.heap.size+1+1+1:=by simp only[World.size_alloc]
 have hw2:=HB2.out.size;obtain⟨W0,hW0⟩:∃W0,((w2.alloc (.cells #[.slice none 0 0] 38)).alloc (.cells #[.slice wa a.length wc] 27)).alloc (.cells #[.int .u64 tt] 22)=W0:=⟨_,rfl⟩;rw[hW0] at k0 k1 k2 hbA hsz ⊢;clear hW0;have HSZ:=zH hsz;obtain⟨B0,hB0⟩:∃B0,W0.heap.size=B0:=⟨_,rfl⟩;have hBe:w2.heap.size+1+1<B0:=by omega
 have HB0:=zH hB0;clear hsz;have hIA0:=HIA2.out.below hbA;have HIB0:=zH (HIB2.out.below hbA);have hch0:ChS w W0 W0 w2.heap.size B0 (.slice none 0 0) []:=⟨k0,World.ownsRow_nil _ _ _ _,fun _ _ _=>rfl,zT HB2.out hbA,by omega,hw2,by omega⟩;have hst:=zfw B0 w2.heap.size (w2.heap.size + 1) a wa wc tt HA.out hal h2 W0 (by omega) (by omega) (by omega) (by omega) (by omega) (by omega) (k1.cell 0) (k2.cell 0) (fun i hi=>by
  obtain⟨ad,e,hl,hc⟩:=HIA2.out i (by rw[zz];exact hi);obtain⟨ad',e',hl',hc'⟩:=hIA0 i (by rw[zz];exact hi);rw[e] at e';cases e';rw[yS a i hi] at hc';exact ⟨ad,e,hl',by omega,by omega,hc'⟩)
 have HJR:Hid (∀(i:Nat),i<b.length->∃ad:Addr,va=some ad/\ad.block<B0/\ad.block≠w2.heap.size/\W0.cell? (ad.add i)=some (.int .i64 ((b.getD i 0:Nat):Int))):=fun i hi=>by
  obtain⟨ad,e,hl,hc⟩:=HIB2.out i (by rw[zz];exact hi);obtain⟨ad',e',hl',hc'⟩:=HIB0.out i (by rw[zz];exact hi);rw[e] at e';cases e';rw[yS b i hi] at hc';exact⟨ad,e,by omega,by omega,hc'⟩
 clear k0 k1 k2 hbA hIA0 HIB0 HIA2 HIB2
 gi_wp2_with fail
 refine wpIn_rangeFunc_ownF rfl (by omega) (gf:=49) (lb:=#[.pointer (some ⟨w2.heap.size+1,0,none⟩),.pointer (some ⟨w2.heap.size+1+1,0,none⟩)]) rfl trivial (enters_of Tryz.func49 (by kernel_rfl) rfl)
  hst zcO (zbS (by rw[hB0];exact Nat.le_refl _)) zF (fun _=>rfl)
  (fun (pre:List Nat) W=>∃ov,ChS w W0 W w2.heap.size B0 ov (pre.map fun i=>(i,false)))
  (fun _ _ _=>False)
  (by rw[hB0];exact ChS.own (by omega) _) (fun _ _ _ _ _ h _ _=>h)
  ⟨_,hch0⟩ (fun x=>{ tmps:=#[.pointer (some ⟨bk,0,none⟩),.int .u64 fr,.int .u64 tt,undef,undef,undef,.slice none 0 0,.nilIface,.slice wa a.length wc,.nilIface,.slice va b.length vc,.pointer (some ⟨w2.heap.size,0,none⟩),.int .i64 x,undef,undef,.tuple #[.slice wa a.length wc,.nilIface],.pointer (some ⟨bk,0,none⟩),.int .u64 fr,.tuple #[.slice wa a.length wc,.nilIface],.slice wa a.length wc,.nilIface,.nilIface,.bool false,undef,.tuple #[.slice va b.length vc,.nilIface],.pointer (some ⟨bk,0,none⟩),.int .u64 tt,.tuple #[.slice va b.length vc,.nilIface],.slice va b.length vc,.nilIface,.nilIface,.bool false,undef,.slice wa a.length wc,.int .u64 tt,.func (.func 49) #[] #[.pointer (some ⟨w2.heap.size+1,0,none⟩),.pointer (some ⟨w2.heap.size+1+1,0,none⟩)],.int .i64 x,undef,undef,undef,undef,undef,undef,undef,undef,undef,undef,undef,undef,undef,undef,undef,undef,undef,undef,undef,undef,undef,undef,undef],defers:=[] }) ?assign ?body ?done ?stop
 case assign =>
  intro l x W K hK;unfold K8
  gi_wp2
  exact hK
 case stop=>exact fun _ _ _ _ _ _ h _=>h.elim
 case body =>
  rintro l pre x W ⟨ov,hch⟩ hlen;clear hst hch0 hB0;have hpl:pre.length<=24:=by
   have:(goF a tt).length<=a.length:=by unfold goF;exact Nat.le_trans (List.length_filter_le _ _) (by simp)
   omega
  obtain⟨oa,oc,rfl,-⟩:=(zD hch.row).form;have HROW:=zH hch.row;have HCH:=zH hch;have d0:=hch.box.cell 0;have hWs:=hch.sz;rw[List.length_map] at HROW d0;have d1:W.cell? ⟨w2.heap.size,0,none⟩=some (.slice oa pre.length oc):=by simpa using d0
  clear d0 hlen hch
  gi_wp2_with (gi_at_builtin;refine wpListIn_append_own_at _ rfl _ _ 38 rfl B0 42 i0 (.agg #[.int .i64 0,.bool false]) 2 16 Tryz.underlying38 hin hz0 hz1 hz2 rfl (by decide) _ _ _ rfl (HROW.out.alloc _) ⟨W.heap.size,0,none⟩ 1 1 [.int .i64 x,.bool false] rfl rfl ?c1 ?c2 ?c3 ?c4 ?c5 ?_)
  case c1=>exact Jy _ _ _ _
  case c2=>intro u hu;simp at hu;rcases hu with rfl|rfl<;>rfl
  case c3=>unfold maxLen;omega
  case c4=>omega
  case c5=>simp;omega
  intro v7 w7 hown7 hgrow7 _ hloc7;obtain⟨g7,c7,rfl⟩:=ownsRow_succ hown7;have hch2:ChS w W0 W w2.heap.size B0 (.slice oa pre.length oc) (pre.map fun i=>(i,false)):=by have:=HCH.out;rw[List.length_map] at this;exact this
  obtain⟨kb,hch7⟩:=hch2.app (x:=x) (b:=false) (by rw[List.length_map];exact hown7) hgrow7;have e7:_=some (Value.slice oa pre.length oc):=kb.cell 0;have f7:=kb.frozen 0;have HKO:Hid (KeepsOthers W (w7.setCell ⟨w2.heap.size,0,none⟩ (.slice (some ⟨g7,0,none⟩) (pre.length+1) c7))):=((KeepsOthers.alloc _ _).trans (KeepsOthers.of_grownBy hgrow7 (QE (HROW.out.alloc _)))).trans (KeepsOthers.setCell _ _ _);have HKP:Hid (KpG B0 w2.heap.size W (w7.setCell ⟨w2.heap.size,0,none⟩ (.slice (some ⟨g7,0,none⟩) (pre.length+1) c7))):=fun k q1 q2=>(hch7.kp k q1 q2).trans (hch2.kp k q1 q2).symm;have HI:Hid (∃ov,ChS w W0 (w7.setCell ⟨w2.heap.size,0,none⟩ (.slice (some ⟨g7,0,none⟩) (pre.length+1) c7)) w2.heap.size B0 ov ((pre++[x]).map fun i=>(i,false))):=⟨_,by rw[List.map_append];exact hch7⟩;clear hown7 hgrow7 hloc7 hch2 hch7 kb HROW HCH d1
  gi_wp2
  exact⟨HKO.out,HKP.out,HI.out⟩
 case done =>
  rintro D ys WF hD rfl ⟨ov,hch⟩ hK;rw[hB0] at hD;clear hst hch0 hB0;have HCH:Hid (ChS w W0 WF w2.heap.size B0 ov ((goF a tt).map (fun i=>(i,false))++(zp (b.take 0) fr).map fun i=>(i,true))):=by
   show ChS _ _ _ _ _ _ _;rw[show (zp (b.take 0) fr).map (fun i=>(i,true))=[] by simp[zp],List.append_nil];exact hch
  have HK:=zH hK;have hgl:(goF a tt).length<=24:=by
   have:(goF a tt).length<=a.length:=by unfold goF;exact Nat.le_trans (List.length_filter_le _ _) (by simp)
   omega
  clear hch hK;obtain⟨GO,hGO⟩:∃GO,(goF a tt).map (fun i=>(i,false))=GO:=⟨_,rfl⟩;have hGl:GO.length<=24:=by rw[<-hGO,List.length_map];exact hgl
  have HGO:=zH hGO;rw[hGO] at HCH;clear hGO hgl
  gi_wp2_with fail
  gi_loopw [44] (fun iV wr=>∃(i:Nat) (ov:Value),i<=b.length/\iV=.int .i64 i/\ChS w W0 wr w2.heap.size B0 ov (GO++(zp (b.take i) fr).map fun i=>(i,true))/\wr.heap[D]?=some (.deferred (some []))) (fun iV _=>b.length-(intOf iV).toNat)
  case atStart=>exact⟨0,_,Nat.zero_le _,rfl,HCH.out,HK.out⟩
  case round =>
   clear HCH HK;obtain⟨i,ov2,hil,rfl,hch,hK⟩:=hrel;have HCH:=zH hch;have HK:=zH hK;have hcl:(zp (b.take i) fr).length<=24:=by
    unfold zp;have:=List.length_filter_le (fun i=>!fr.testBit i) (b.take i);rw[List.length_take] at this;omega
   obtain⟨oa,oc,rfl,-⟩:=(zD hch.row).form;have hWs:=hch.sz;have d0:_=some (Value.slice oa (GO++(zp (b.take i) fr).map fun i=>(i,true)).length oc):=hch.box.cell 0;have HROW:=zH hch.row;obtain⟨n,hn⟩:∃n,(GO++(zp (b.take i) fr).map fun i=>(i,true)).length=n:=⟨_,rfl⟩;have hn48:n<=48:=by rw[<-hn,List.length_append,List.length_map];omega
   have HN:=zH hn;rw[hn] at d0 HROW
   by_cases hlt:i<b.length
   ·obtain⟨ad,rfl,had,hado,cB⟩:=HJR.out i hlt;have cB2:wr.cell? (ad.add i)=some (.int .i64 ((b.getD i 0:Nat):Int)):=(Qu (p:=ad.add i) hch.kp (by rw[Z2];exact had) (by rw[Z2];exact hado)).trans cB;have hx24:=HBl.out _ (yw b i hlt);have HTK:Hid (zp (b.take (i+1)) fr=zp (b.take i) fr++(if fr.testBit (b.getD i 0) then [] else [b.getD i 0])):=by
     show _=_;unfold zp;rw[Qj b i hlt,List.filter_append];congr 1;cases hq:fr.testBit (b.getD i 0)<;>simp only[List.filter_cons,hq]<;>rfl
    obtain⟨x,hx⟩:∃x,b.getD i 0=x:=⟨_,rfl⟩;rw[hx] at cB2 hx24 HTK;have hand:=yl fr (2^x) h1 (xu x (by omega));have hpn:=Yf fr x;have HJx:=zH (HJ.out wr x hx24);have hi0:(0:Int)<=(i:Int):=by omega
    have hi1:(i:Int)<(b.length:Int):=by omega
    obtain⟨P2,hP2⟩:∃P2,(2^x:Nat)=P2:=⟨_,rfl⟩;rw[hP2] at hand hpn HJx;obtain⟨ab,ao,asp⟩:=ad;clear hx hP2 cB had hado hn hch;generalize fr&&&P2=Q at *;cases ht:fr.testBit x with
    |true =>
     rw[ht] at hpn HTK;rw[if_pos rfl,List.append_nil] at HTK;have hq:¬(Q:Int)=0:=by have:=hpn.2 rfl;omega
     have HNX:Hid (ChS w W0 wr w2.heap.size B0 (.slice oa n oc) (GO++(zp (b.take (i+1)) fr).map fun i=>(i,true))):=by
      show ChS _ _ _ _ _ _ _;have h:=HCH.out;rw[HTK.out,<-HN.out];exact h
     clear hpn HTK HCH
     gi_wp2_with fail
     refine⟨trivial,?_⟩;refine HJx.out.mono ?_;rintro e w9 ⟨rfl,rfl⟩;clear HJx
     gi_wp2
     go_roundw
     case rel=>exact⟨i+1,_,hlt,by go_num,HNX.out,HK.out⟩
     case measure=>simp[intOf];omega
    |false =>
     rw[ht] at hpn HTK;rw[if_neg (by simp)] at HTK;have hq:(Q:Int)=0:=by
      have:Q=0:=by
       apply Classical.byContradiction;intro h;cases hpn.1 h
      omega
     clear hpn
     gi_wp2_with fail
     refine⟨trivial,?_⟩;refine HJx.out.mono ?_;rintro e w9 ⟨rfl,rfl⟩;clear HJx
     gi_wp2_with (gi_at_builtin;refine wpListIn_append_own_at _ rfl _ _ 38 rfl B0 42 i0 (.agg #[.int .i64 0,.bool false]) 2 16 Tryz.underlying38 hin hz0 hz1 hz2 rfl (by decide) _ _ _ rfl (HROW.out.alloc _) ⟨w9.heap.size,0,none⟩ 1 1 [.int .i64 x,.bool true] rfl rfl ?c1 ?c2 ?c3 ?c4 ?c5 ?_)
     case c1=>exact Jy _ _ _ _
     case c2=>intro u hu;simp at hu;rcases hu with rfl|rfl<;>rfl
     case c3=>unfold maxLen;omega
     case c4=>omega
     case c5=>simp;omega
     intro v7 w7 hown7 hgrow7 _ hloc7;obtain⟨g7,c7,rfl⟩:=ownsRow_succ hown7;have hch2:ChS w W0 w9 w2.heap.size B0 (.slice oa n oc) (GO++(zp (b.take i) fr).map fun i=>(i,true)):=by have h:=HCH.out;rw[HN.out] at h;exact h
     obtain⟨kb,hch7⟩:=hch2.app (x:=x) (b:=true) (by rw[HN.out];exact hown7) hgrow7;have e7:_=some (Value.slice oa n oc):=kb.cell 0;have f7:=kb.frozen 0;have hKO:KeepsOthers w9 (w7.setCell ⟨w2.heap.size,0,none⟩ (.slice (some ⟨g7,0,none⟩) (n+1) c7)):=((KeepsOthers.alloc _ _).trans (KeepsOthers.of_grownBy hgrow7 (QE (HROW.out.alloc _)))).trans (KeepsOthers.setCell _ _ _);have HK7:Hid ((w7.setCell ⟨w2.heap.size,0,none⟩ (.slice (some ⟨g7,0,none⟩) (n+1) c7)).heap[D]?=some (.deferred (some []))):=hKO.same D _ HK.out rfl;have HNX:Hid (ChS w W0 (w7.setCell ⟨w2.heap.size,0,none⟩ (.slice (some ⟨g7,0,none⟩) (n+1) c7)) w2.heap.size B0 (.slice (some ⟨g7,0,none⟩) (n+1) c7) (GO++(zp (b.take (i+1)) fr).map fun i=>(i,true))):=by
      show ChS _ _ _ _ _ _ _;rw[HTK.out,List.map_append,<-List.append_assoc];exact hch7
     clear hown7 hgrow7 hloc7 hch2 hch7 kb HROW HCH HTK hKO d0 cB2
     gi_wp2
     go_roundw
     case rel=>exact⟨i+1,_,hlt,by go_num,HNX.out,HK7.out⟩
     case measure=>simp[intOf];omega
   ·obtain rfl:i=b.length:=by omega
    rw[List.take_length] at HCH HROW HN;have hr':∀r,some D=some r->∃o:Obj,wr.heap[r]?=some o/\o.isCells=false:=fun r e=>by cases e;exact⟨_,HK.out,rfl⟩
    have HRW:=zH (Q5 HROW.out (grownBy_putObj' wr D (.deferred none)) hr');have HBW:Hid (zB w wr):=hch.bel;clear hch hr'
    gi_wp2
    refine⟨by simp,.inl ⟨_,_,rfl,run_takeDeferred HK.out,?_⟩⟩;refine⟨.tuple #[.slice oa n oc,.nilIface],?_,?_⟩
    ·simp[results,Tryz.f10,go_sem]
    ·rw[HGO.out,HN.out];exact⟨_,rfl,ZV HRW.out (by omega),HBW.out.trans (belowK_b (w:=w) zN wr D _ _ (by omega) HK.out rfl rfl)⟩
theorem zdW(bk:Nat)(ls:List Ln)(its:List It)(hN:zk ls=.ok its)(fr tt:Nat)(w:World)(h:zV w bk ls its)(h1:fr<18446744073709551616)(h2:tt<18446744073709551616) :
  zC 10 #[.pointer (some ⟨bk,0,none⟩),.int .u64 fr,.int .u64 tt] w (Qq w (chR its ls fr tt)):=by
 have key:∀set l,zl its ls set=.ok l->(∀x∈l,x<24)/\l.length<=24:=fun set l hl=>by
  have hs:set<2^its.length:=by
   have hf:(zm its ls set).1=true:=by
    cases hf:(zm its ls set).1 with
    |true=>rfl
    |false=>unfold zl at hl;rw[if_pos hf] at hl;cases hl
   cases hsb:qh its set with
   |false=>rw[show zm its ls set=(false,-2) by unfold zm;rw[if_pos hsb]] at hf;cases hf
   |true =>unfold qh at hsb;exact of_decide_eq_true (Bool.and_eq_true_iff.1 hsb).1
  have hi:=Z1 hN hs hl;have:=(ya hN).1;exact⟨fun x hx=>by have:=hi.lt x hx;omega,hi.len⟩
 cases ha:zl its ls fr with
 |error k=>exact zh5 bk ls its hN fr tt w h h1 k ha
 |ok a =>
  cases hb:zl its ls tt with
  |error k=>exact zfn bk ls its hN fr tt w h h1 h2 a k ha hb
  |ok b=>exact(callsIn_wide (n:=4)).1 (zfo bk ls its hN fr tt w h h1 h2 a b ha hb (key fr a ha).1 (key tt b hb).1 (key fr a ha).2 (key tt b hb).2)
end
end Go.Proofs.YtlamemjfaogjmaaGreatDoor
