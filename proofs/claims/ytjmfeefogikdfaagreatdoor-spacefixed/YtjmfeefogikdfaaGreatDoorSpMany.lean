/- There are installations just if the search finds one: plain. -/
import Derived.Test.YtjmfeefogikdfaaGreatDoorBdBelow
import Derived.Shelf.Strconv.AppendInt10
open Go.Proofs.YtjmfeefogikdfaaGreatDoor
set_option maxHeartbeats 4000000
set_option maxRecDepth 100000
namespace Go.Proofs.YtjmfeefogikdfaaGreatDoor.Bd
open Go.RowKit Go.Maps Num
section
variable {w w':World} {dk vars:Nat} {ns:List Nd} {L:List (Int × NV)}
theorem znj(hD:qC w dk vars ns L){a:Int}(ha:I64 a)(ht:za ns a≠24)(x:NV)(hx:qd w x.val (yq vars ns a))(hl:ns.length<=90000) :
  ∃w' L',(Instr.mapUpdate 119 (.map (some dk)) (.int .i64 a) x.val).run Tryz.prog w=.ok () w'/\qC w' dk vars ns L'/\zb (fun j=>j=dk) w w':=by
 have hlen:=hD.len;obtain⟨D,hDm,hR⟩:=hD.hmap;obtain⟨w',hrun,h1,h2⟩:=hDm.update QQ Tryz.underlying119 (by unfold maxLen;omega) (QA ha) (zaR x);have hk:zb (fun k=>k=dk) w w':=zb.of_grown h2 (fun i h=>by cases h;rfl);have hno:∀b o n,b=dk->w.cell? ⟨b,o,Option.none⟩≠some (.int .u64 n):=fun b o n e=>hD.no b o n e
 by_cases hm:a∈L.map Prod.fst
 ·have hR':YT (D.put (.int .i64 a) x.dat) (L.map fun q=>if q.1=a then (q.1,x) else q):=Rep.put_over hR (fun a b _ _ e=>by injection e) (fun _=>trivial) x hm;refine⟨w',_,hrun,⟨⟨_,hR'.size▸ZP h1,hR'⟩,fun p hp=>?_,fun p hp=>?_⟩,hk⟩
  ·obtain⟨q,hq,rfl⟩:=List.mem_map.1 hp;split
   ·exact hD.keys q hq
   ·exact hD.keys q hq
  ·obtain⟨q,hq,rfl⟩:=List.mem_map.1 hp;split
   ·rename_i e;show qd w' x.val (yq vars ns q.1);rw[e];exact hx.kept hk hno
   ·exact(hD.nums q hq).kept hk hno
 ·have hR':YT (D.put (.int .i64 a) x.dat) (L++[(a,x)]):=Rep.put hR (fun a b _ _ e=>by injection e) (fun _=>trivial) ha hm x;refine⟨w',_,hrun,⟨⟨_,hR'.size▸ZP h1,hR'⟩,fun p hp=>?_,fun p hp=>?_⟩,hk⟩
  ·rcases List.mem_append.1 hp with h|h
   ·exact hD.keys p h
   ·rw[List.mem_singleton] at h;subst h;exact ht
  ·rcases List.mem_append.1 hp with h|h
   ·exact(hD.nums p h).kept hk hno
   ·rw[List.mem_singleton] at h;subst h;exact hx.kept hk hno
end
structure xQ(w:World)(bx:Nat):Prop where
 lt:bx<w.heap.size
 c:w.cell? ⟨bx,0,none⟩=some (.slice none 0 0)
 f:w.frozen? ⟨bx,0,none⟩=false
 no:∀o n,w.cell? ⟨bx,o,none⟩≠some (.int .u64 n)
theorem xQ.kept{S:Nat->Prop}{w w':World}{bx:Nat}(h:xQ w bx)(hk:zb S w w')(hn:¬S bx):xQ w' bx :=
 ⟨Nat.lt_of_lt_of_le h.lt hk.size,(hk.cell (a:=⟨bx,0,none⟩) h.lt hn).trans h.c,(hk.frozen (a:=⟨bx,0,none⟩) h.lt hn).trans h.f,fun o n=>by rw[hk.cell (a:=⟨bx,o,none⟩) h.lt hn];exact h.no o n⟩
theorem xQ.new{w w':World}{bx:Nat}(h:xQ w bx)(hb:zB w w'):xQ w' bx:=h.kept (zb.of_below hb (fun _=>False)) (fun h=>h)
theorem Y7(w:World):xQ (w.alloc (.cells #[.slice none 0 0] 56)) w.heap.size:=⟨by simp,by simp,by simp,X4 w⟩
structure CS(B s b dk:Nat)(O:Nat->Prop)(vars:Nat)(room:Int)(ns:List Nd)(W0 w:World)(nb bx:Nat)(gv gl gh:Int)(L:List (Int × NV)):Prop where
 space:zm B w s b O vars room ns
 done:qC w dk vars ns L
 tri:Tri w nb gv gl gh
 box:xQ w bx
 kept:zb (fun j=>j=dk) W0 w
section
variable {B s b dk:Nat} {O:Nat->Prop} {vars:Nat} {room:Int} {ns:List Nd} {W0 w w':World} {nb bx:Nat} {gv gl gh:Int} {L:List (Int × NV)}
theorem CS.new(h:CS B s b dk O vars room ns W0 w nb bx gv gl gh L)(hb:zB w w'):CS B s b dk O vars room ns W0 w' nb bx gv gl gh L :=
 ⟨h.space.new hb,h.done.new hb,h.tri.new hb,h.box.new hb,h.kept.trans (zb.of_below hb _)⟩
theorem CS.ways{d:Nat}(hW:X5 B s b dk O vars room ns d)(ho:¬O dk)(hs:s≠dk)(hn:nb≠dk)(hx:bx≠dk)(h:CS B s b dk O vars room ns W0 w nb bx gv gl gh L)(g:Int)(v:Nat)(hh:zg ns g=true)(hd:24<=za ns g+d)(hv:v<=zQ vars ns g) :
  zC 42 #[.pointer (some ⟨s,0,none⟩),.int .i64 g,.int .i64 v,.map (some dk)] w fun e w'=>∃r L',e=.returned r/\qd w' r (q7 vars ns g v)/\CS B s b dk O vars room ns W0 w' nb bx gv gl gh L'/\zb (fun j=>j=dk) w w':=by
 refine(hW g v L w h.space h.done hh hd hv).mono ?_;rintro e w2 ⟨r,L',he,hr,hD,hk⟩;exact⟨r,L',he,hr,⟨h.space.kept hk (fun j hj e=>ho (e▸hj)) hs,hD,h.tri.kept hk hn,h.box.kept hk hx,h.kept.trans hk⟩,hk⟩
theorem CS.add(h:CS B s b dk O vars room ns W0 w nb bx gv gl gh L){r1 r2:Value}{m1 m2:Nat}(h1:qd w r1 m1)(h2:qd w r2 m2)(l1:m1<=100000000)(l2:m2<=100000000) :
  zC 118 #[r1,r2] w fun e w'=>∃a n c,e=.returned (.agg #[.slice a n c])/\qd w' (.agg #[.slice a n c]) (m1+m2)/\CS B s b dk O vars room ns W0 w' nb bx gv gl gh L/\zB w w':=by
 obtain⟨s1,d1,rfl,g1,n1,v1,k1⟩:=h1.open l1;obtain⟨s2,d2,rfl,g2,n2,v2,k2⟩:=h2.open l2;refine(zhp s1 s2 d1 d2 w g1 g2 n1.small n2.small (by omega) (by omega)).mono ?_;rintro e w2 ⟨s3,he,d3,g3,n3,v3,-,hb⟩;have hn:=J5 g3 n3 v3;rw[v1,v2] at hn;obtain⟨a,c,e3,-⟩:=id g3;subst e3;exact⟨a,_,c,he,hn,h.new hb,hb⟩
end
end Go.Proofs.YtjmfeefogikdfaaGreatDoor.Bd
namespace Go.Proofs.YtjmfeefogikdfaaGreatDoor.Bd
open Go.RowKit Go.Maps Num
section
variable {B s b dk:Nat} {O:Nat->Prop} {vars:Nat} {room:Int} {ns:List Nd} {W0 w w':World} {nb bx:Nat} {gv gl gh:Int} {L:List (Int × NV)}
def Yz(B s b dk:Nat)(O:Nat->Prop)(vars:Nat)(room:Int)(ns:List Nd)(W0:World)(nb bx:Nat)(gv gl gh:Int)(m:Nat)(pv:Value)(wx:World):Prop :=
 ∃bx2 a n c L3,pv=.pointer (some ⟨bx2,0,none⟩)/\wx.cell? ⟨bx2,0,none⟩=some (.slice a n c)/\bx2<wx.heap.size/\bx2≠dk/\bx2≠bx/\qd wx (.agg #[.slice a n c]) m/\CS B s b dk O vars room ns W0 wx nb bx gv gl gh L3
theorem CS.sum(h:CS B s b dk O vars room ns W0 w nb bx gv gl gh L){bx2:Nat}(hb:xQ w bx2)(h0:W0.heap.size<=bx2)(hO:∀k,O k->k<W0.heap.size)(hs:s<W0.heap.size)(hd:dk<W0.heap.size)(hn:bx2≠nb)(hx:bx2≠bx){a:Option Addr}{n c m:Nat}(hm:qd w (.agg #[.slice a n c]) m) :
  Yz B s b dk O vars room ns W0 nb bx gv gl gh m (.pointer (some ⟨bx2,0,none⟩)) (w.setCell ⟨bx2,0,none⟩ (.slice a n c)):=by
 have hk:zb (fun j=>j=bx2) w (w.setCell ⟨bx2,0,none⟩ (.slice a n c)):=zb.setCell _ _ _ rfl;refine⟨bx2,a,n,c,L,rfl,World.cell?_setCell_same _ _ _ hb.c,Nat.lt_of_lt_of_le hb.lt hk.size,by omega,hx,hm.box hb.no _,⟨h.space.kept hk (fun j hj e=>by have:=hO j hj;omega) (by omega),h.done.box hb.no (by omega) _,h.tri.kept hk (fun e=>hn e.symm),h.box.kept hk (fun e=>hx e.symm),h.kept.andThen hk (fun i hi hlt=>by omega)⟩⟩
theorem CS.sum_new(h:CS B s b dk O vars room ns W0 w nb bx gv gl gh L)(hd:dk<w.heap.size){a:Option Addr}{n c m:Nat}(hm:qd w (.agg #[.slice a n c]) m) :
  Yz B s b dk O vars room ns W0 nb bx gv gl gh m (.pointer (some ⟨w.heap.size,0,none⟩)) (w.alloc (.cells #[.slice a n c] 56)) :=
 ⟨w.heap.size,a,n,c,L,rfl,by simp,by simp,by omega,by have:=h.box.lt;omega,hm.new (below_new _ _),h.new (below_new _ _)⟩
theorem Yz.tri3{m:Nat}{pv:Value}(h:Yz B s b dk O vars room ns W0 nb bx gv gl gh m pv w):w.cell? ⟨nb,0,none⟩=some (.int .i64 gv)/\w.cell? ⟨nb,1,none⟩=some (.int .i64 gl)/\w.cell? ⟨nb,2,none⟩=some (.int .i64 gh):=by
 obtain⟨_,_,_,_,_,-,-,-,-,-,-,hc⟩:=h;exact⟨hc.tri.c0,hc.tri.c1,hc.tri.c2⟩
theorem zkD(hg:zr vars ns)(hl:ns.length<=90000)(hv:vars<=24)(ho:¬O dk)(hs:s≠dk){d:Nat}(hW:X5 B s b dk O vars room ns d)(h:Int)(L:List (Int × NV))(w:World)(hS:zm B w s b O vars room ns)(hD:qC w dk vars ns L)(hh:zg ns h=true)(ht:za ns h≠24)(hd:24<=za ns h+((d+1:Nat):Int))(hnk:h∉L.map Prod.fst) :
  zC 81 #[.pointer (some ⟨s,0,none⟩),.int .i64 h,.map (some dk)] w (Zr dk vars ns (yq vars ns h) w):=by
 have hi:=yo hh (by omega);have hb1:=below_new w (.cells #[.slice none 0 0] 56);have c0:=(hS.new hb1).c0;have HG:=Qi (hS.new hb1) h hi hl;have h0:=(zY hg.ranked h).1;have htv:=Q6 hg ht;have ht24:=Q4 hg.ranked ht;obtain⟨k1,k2,k3,k4⟩:=xx hg.ranked ht;have hsum:=zka hg ht;have hgv:(zj ns h).v=za ns h:=by rw[JP ht];exact(yE ht).2.2.1.symm
 have hgn:=JP ht;rw[show decide (za ns h≠24)=true by simp[ht]] at HG;unfold Nd.val at HG;rw[<-hgn] at k1 k2 k3 k4 hsum;have HL:Hid (∀W,zB w W->(Instr.lookup 119 (.map (some dk)) (.int .i64 h) true).run Tryz.prog W=.ok (.tuple #[.agg #[.slice none 0 0],.bool false]) W):=fun W hW=>by
  obtain⟨D,hDm,hR⟩:=(hD.new hW).hmap;exact zmH hDm hR hi hnk
 obtain⟨t,et⟩:∃t:Nat,za ns h=(t:Int):=⟨(za ns h).toNat,by omega⟩;have hPUT:Hid (∀W L' x,qC W dk vars ns L'->qd W (NV.val x) (yq vars ns h)->∃w' L'',(Instr.mapUpdate 119 (.map (some dk)) (.int .i64 h) x.val).run Tryz.prog W=.ok () w'/\qC w' dk vars ns L''/\zb (fun j=>j=dk) W w'):=fun W L' x h1 h2=>znj h1 hi ht x h2 hl;rw[et] at hgv htv ht24 k1 k3 hsum hd;rw[Int.toNat_natCast] at hsum;generalize zj ns h=gn at *;obtain⟨gv,gl,gh⟩:=gn;simp only at hgv k1 k2 k3 k4 hsum HG;subst hgv;have tl:t+1<=zQ vars ns gl:=by unfold zQ;omega
 have th:t+1<=zQ vars ns gh:=by unfold zQ;omega
 have HW1:Hid (∀X L' nb bx,nb≠dk->bx≠dk->CS B s b dk O vars room ns w X nb bx (t:Int) gl gh L'->zC 42 #[.pointer (some ⟨s,0,none⟩),.int .i64 gl,.int .i64 ((t:Int)+1),.map (some dk)] X fun e w'=>∃r L',e=.returned r/\qd w' r (q7 vars ns gl (t+1))/\CS B s b dk O vars room ns w w' nb bx (t:Int) gl gh L'/\zb (fun j=>j=dk) X w'):=fun X L' nb bx h1 h2 hc =>
  hc.ways hW ho hs h1 h2 gl (t+1) k2 (by omega) tl
 have HW2:Hid (∀X L' nb bx,nb≠dk->bx≠dk->CS B s b dk O vars room ns w X nb bx (t:Int) gl gh L'->zC 42 #[.pointer (some ⟨s,0,none⟩),.int .i64 gh,.int .i64 ((t:Int)+1),.map (some dk)] X fun e w'=>∃r L',e=.returned r/\qd w' r (q7 vars ns gh (t+1))/\CS B s b dk O vars room ns w w' nb bx (t:Int) gl gh L'/\zb (fun j=>j=dk) X w'):=fun X L' nb bx h1 h2 hc =>
  hc.ways hW ho hs h1 h2 gh (t+1) k4 (by omega) th
 have l1:q7 vars ns gl (t+1)<=100000000:=by have:=zaL vars ns gl (t+1) hv;omega
 have l2:q7 vars ns gh (t+1)<=100000000:=by have:=zaL vars ns gh (t+1) hv;omega
 have hOw:∀k,O k->k<w.heap.size:=fun k hk=>(hS.own k hk).2;have hsl:=hS.slt;have hdl:=hD.lt;have HGT:=zH HG;have HS:=zH hS;have HD:=zH hD;have HB1:=zH hb1;have HSUM:=zH hsum;have HOW:=zH hOw;have BX:=zH (Y7 w);have hw1:IntKind.i64.wrap ((t:Int)+1)=(t:Int)+1:=IntWalk.i64_in _ ⟨by omega,by omega⟩;have hw2:wrap64 ((t:Int)+1)=(t:Int)+1:=by unfold wrap64;omega
 clear HG hS hD hh ht hb1 hsum hOw hW hg k1 k2 k3 k4 tl th hnk hgn et;generalize yq vars ns h=m at *;generalize q7 vars ns gl (t+1)=m1 at *;generalize q7 vars ns gh (t+1)=m2 at *;have bxl:=BX.out.lt;go_enter Tryz.func81,Tryz.ntmps81;go_wp2_with fail;refine HGT.out.mono ?_;rintro e w2 ⟨rfl,hb2⟩;generalize (w.alloc (.cells #[.slice none 0 0] 56))=W1 at *;have hb3:=hb2.alloc hb2.size (.cells #[.int .i64 t,.int .i64 gl,.int .i64 gh] 82);have hb4:=zT HB1.out hb3;have hrun:=HL.out _ hb4;have hs2:=hb2.size;have hb5:=below_new (w2.alloc (.cells #[.int .i64 t,.int .i64 gl,.int .i64 gh] 82)) (.cells #[.slice none 0 0] 56);have cs:CS B s b dk O vars room ns w ((w2.alloc (.cells #[.int .i64 t,.int .i64 gl,.int .i64 gh] 82)).alloc (.cells #[.slice none 0 0] 56)) w2.heap.size w.heap.size (t:Int) gl gh L :=
  CS.new ⟨HS.out.new hb4,HD.out.new hb4,Ys w2 (t:Int) gl gh 82,BX.out.new hb3,zb.of_below hb4 _⟩ hb5
 have HCS:=zH cs;clear hb2 hb3 hb4 hb5 cs HGT HL HS HD BX c0;go_wp2_with fail;generalize ((w2.alloc (.cells #[.int .i64 t,.int .i64 gl,.int .i64 gh] 82)).alloc (.cells #[.slice none 0 0] 56))=W4 at *;have cs0:=HCS.out.new zF.drew;have csA:=(HCS.out.new (below_new W4 (.cells #[.slice none 0 0] 56))).new zF.drew;have nd1:w2.heap.size≠dk:=by omega
 have nd2:w.heap.size≠dk:=by omega
 have nn1:w.heap.size<w2.heap.size:=by omega
 have w4l:w2.heap.size<W4.heap.size:=HCS.out.tri.lt;have HNO:Hid (∀X L',CS B s b dk O vars room ns w X w2.heap.size w.heap.size (t:Int) gl gh L'->∀b o n,b=dk->X.cell? ⟨b,o,none⟩≠some (.int .u64 n)):=fun X L' hc b o n e=>hc.done.no b o n e;have nA:W4.heap.size≠dk:=by omega
 have nB:w.heap.size<=W4.heap.size:=by omega
 have nC:W4.heap.size≠w2.heap.size:=by omega
 have nD:W4.heap.size≠w.heap.size:=by omega
 clear hrun;go_cut [11] (fun pv wx=>Yz B s b dk O vars room ns w w2.heap.size w.heap.size (t:Int) gl gh m pv wx)
 case first =>
  go_region_held3 (fun X=>X.cell? ⟨w2.heap.size,0,none⟩=some (.int .i64 t)/\X.cell? ⟨w2.heap.size,1,none⟩=some (.int .i64 gl)/\X.cell? ⟨w2.heap.size,2,none⟩=some (.int .i64 gh))
   (first
    |exact⟨cs0.tri.c0,cs0.tri.c1,cs0.tri.c2⟩
    |exact⟨csA.tri.c0,csA.tri.c1,csA.tri.c2⟩
    |exact⟨cs2.tri.c0,cs2.tri.c1,cs2.tri.c2⟩
    |exact⟨(cs2.new (below_new _ _)).tri.c0,(cs2.new (below_new _ _)).tri.c1,(cs2.new (below_new _ _)).tri.c2⟩
    |exact⟨cs3.tri.c0,cs3.tri.c1,cs3.tri.c2⟩
    |exact⟨(cs3.new (below_new _ _)).tri.c0,(cs3.new (below_new _ _)).tri.c1,(cs3.new (below_new _ _)).tri.c2⟩
    |exact hsm.tri3
    |exact⟨cs7.tri.c0,cs7.tri.c1,cs7.tri.c2⟩
    | exact ⟨(cs7.new (below_new _ _)).tri.c0,(cs7.new (below_new _ _)).tri.c1,(cs7.new (below_new _ _)).tri.c2⟩)
   (first
    |(go_at_call 42;with_reducible refine(HW1.out _ _ _ _ nd1 nd2 cs0).mono ?_;rintro e w5 ⟨r1,L1,rfl,hn1,cs2,hk1⟩)
    |(go_at_call 42;with_reducible refine(HW1.out _ _ _ _ nd1 nd2 csA).mono ?_;rintro e w5 ⟨r1,L1,rfl,hn1,cs2,hk1⟩)
    |(go_at_call 42;with_reducible refine(HW2.out _ _ _ _ nd1 nd2 cs2).mono ?_;rintro e w6 ⟨r2,L2,rfl,hn2,cs3,hk2⟩;have hn3:=hn1.kept hk2 (HNO.out _ _ cs2))
    |(go_at_call 42;with_reducible refine(HW2.out _ _ _ _ nd1 nd2 (cs2.new (below_new _ _))).mono ?_;rintro e w6 ⟨r2,L2,rfl,hn2,cs3,hk2⟩;have hn3:=(hn1.new (below_new _ _)).kept hk2 (HNO.out _ _ (cs2.new (below_new _ _))))
    |(go_at_call 118;(with_reducible refine(cs3.add hn3 hn2 l1 l2).mono ?_);rintro e w7 ⟨a7,n7,c7,rfl,hn7,cs7,hb7⟩;rw[<-HSUM.out] at hn7;have hbx:xQ w7 W4.heap.size:=((((Y7 W4).new zF.drew).kept hk1 nA).kept hk2 nA).new hb7;have hsm:=cs7.sum hbx nB HOW.out hsl hdl nC nD hn7;have q1:=hbx.c;have q2:=hbx.f)
    |(go_at_call 118;(with_reducible refine(cs3.add hn3 hn2 l1 l2).mono ?_);rintro e w7 ⟨a7,n7,c7,rfl,hn7,cs7,hb7⟩;rw[<-HSUM.out] at hn7;have z1:W4.heap.size<=w5.heap.size:=hk1.size;have hbx:xQ w7 w5.heap.size:=((Y7 w5).kept hk2 (show w5.heap.size≠dk by omega)).new hb7;have hsm:=cs7.sum hbx (by omega) HOW.out hsl hdl (by omega) (by omega) hn7;have q1:=hbx.c;have q2:=hbx.f)
    |(go_at_call 118;(with_reducible refine((cs3.new (below_new _ _)).add (hn3.new (below_new _ _)) (hn2.new (below_new _ _)) l1 l2).mono ?_);rintro e w7 ⟨a7,n7,c7,rfl,hn7,cs7,hb7⟩;rw[<-HSUM.out] at hn7;have z1:W4.heap.size<=w5.heap.size:=hk1.size;have z2:w5.heap.size<=w6.heap.size:=hk2.size;have hbx:xQ w7 w6.heap.size:=(Y7 w6).new hb7;have hsm:=cs7.sum hbx (by omega) HOW.out hsl hdl (by omega) (by omega) hn7;have q1:=hbx.c;have q2:=hbx.f)
    | (go_at_call 118;(with_reducible refine (cs3.add hn3 hn2 l1 l2).mono ?_);rintro e w7 ⟨a7,n7,c7,rfl,hn7,cs7,hb7⟩;rw [<- HSUM.out] at hn7;have hsm:=cs7.sum_new (Nat.lt_of_lt_of_le hdl cs7.kept.size) hn7))
  all_goals
   go_wp2_with fail;go_meet
   case rel=>exact hsm
 case rest =>obtain⟨bx2,a,n,c,L3,rfl,hc2,hl2,hd2,hx2,hn,cs3⟩:=hcut;obtain⟨w8,L4,hrun,hD8,hk8⟩:=hPUT.out wc L3 ⟨a,n,c⟩ cs3.done hn;unfold NV.val at hrun;have hc8:=(hk8.cell (a:=⟨bx2,0,none⟩) hl2 hd2).trans hc2;have hb8:=cs3.box.kept hk8 nd2;have bc8:=hb8.c;have bf8:=hb8.f;have hn8:=hn.kept hk8 (HNO.out _ _ cs3);have hcs:(w8.setCell ⟨w.heap.size,0,none⟩ (.slice a n c)).cell? ⟨w.heap.size,0,none⟩=some (.slice a n c):=World.cell?_setCell_same _ _ _ bc8;have hk:zb (fun j=>j=dk) w (w8.setCell ⟨w.heap.size,0,none⟩ (.slice a n c)):=(cs3.kept.trans hk8).andThen (zb.setCell (S:=fun j=>j=w.heap.size) _ _ _ rfl) (fun i hi hlt=>by omega);have HFIN:Hid (Zr dk vars ns m w (.returned (.agg #[.slice a n c])) (w8.setCell ⟨w.heap.size,0,none⟩ (.slice a n c))):=⟨_,L4,rfl,hn8.box hb8.no _,hD8.box hb8.no nd2 _,hk⟩;clear hn cs3 hD8 hk8 hb8 hn8 hk HW1 HW2 HNO hPUT HCS cs0 csA HOW;go_wp2;refine bodyPost_ret (v:=.agg #[.slice a n c]) (by simp[results,Tryz.results81,go_sem,hcs]) rfl HFIN.out
theorem zbd(hg:zr vars ns)(hl:ns.length<=90000)(hv:vars<=24)(ho:¬O dk)(hs:s≠dk):∀d,zeb B s b dk O vars room ns d
 |0=>fun h L w hS hD hh hd=>zeH hl hv h L w hS hD hh (by have:=(zY hg.ranked h).2;omega)
 |d+1=>fun h L w hS hD hh hd=>by
  by_cases ht:za ns h=24
  ·exact zeH hl hv h L w hS hD hh ht
  ·by_cases hk:h∈L.map Prod.fst
   ·obtain⟨p,hp,rfl⟩:=List.mem_map.1 hk;exact zfp hl L w hS hD p hp hh
   ·exact zkD hg hl hv ho hs (zbE hg hl hv (zbd hg hl hv ho hs d)) h L w hS hD hh ht hd hk
theorem zkS(hg:zr vars ns)(hl:ns.length<=90000)(hv:vars<=24)(ho:¬O dk)(hs:s≠dk):X5 B s b dk O vars room ns 24:=zbE hg hl hv (zbd hg hl hv ho hs 24)
end
end Go.Proofs.YtjmfeefogikdfaaGreatDoor.Bd
namespace Go.Proofs.YtjmfeefogikdfaaGreatDoor.Bd
open Go.RowKit Go.Maps Num
section
variable {B s b:Nat} {O:Nat->Prop} {vars:Nat} {room:Int} {ns:List Nd}
theorem zkH(w:World)(hS:zm B w s b O vars room ns)(hg:zr vars ns)(hl:ns.length<=90000)(hv:vars<=24)(h:Int)(hh:zg ns h=true) :
  zC 14 #[.pointer (some ⟨s,0,none⟩),.int .i64 h] w fun e w'=>∃v,e=.returned (.tuple #[v,.nilIface])/\qd w' v (q7 vars ns h 0)/\zB w w':=by
 have hi:=yo hh (by omega);have hb1:=below_new w (.cells #[.slice none 0 0] 56);have s1:(w.alloc (.cells #[.slice none 0 0] 56)).heap.size=w.heap.size+1:=by simp
 have HP:=zaC (cp:=1) ((hS.new hb1).new (below_new (w.alloc (.cells #[.slice none 0 0] 56)) (.cells #[.int .i64 h] 3))) (by omega) (w.alloc (.cells #[.slice none 0 0] 56)).heap.size [h] (za3 (w.alloc (.cells #[.slice none 0 0] 56)) h hi) (by simp) (fun y hy=>by rw[List.mem_singleton] at hy;subst hy;exact hh);rw[show [h].length=1 from rfl,s1] at HP;have HPR:=zH HP;have hb2:=hb1.alloc hb1.size (.cells #[.int .i64 h] 3);have s2:((w.alloc (.cells #[.slice none 0 0] 56)).alloc (.cells #[.int .i64 h] 3)).heap.size=w.heap.size+1+1:=by rw[World.size_alloc,s1]
 have hb3:=hb2.alloc hb2.size (.map #[] 0);have hown:=World.ownsMap_made ((w.alloc (.cells #[.slice none 0 0] 56)).alloc (.cells #[.int .i64 h] 3)) Tryz.prog 3 Qn;rw[s2] at hown;have hD:qC (((w.alloc (.cells #[.slice none 0 0] 56)).alloc (.cells #[.int .i64 h] 3)).alloc (.map #[] 0)) (w.heap.size+1+1) vars ns []:=⟨⟨_,hown,Rep.empty⟩,(fun p hp=>by cases hp),(fun p hp=>by cases hp)⟩;have hslt:=hS.slt;have HWA:=zkS (B:=B) (s:=s) (b:=b) (dk:=w.heap.size+1+1) (O:=O) (vars:=vars) (room:=room) (ns:=ns) hg hl hv (fun ho=>by have:=(hS.own _ ho).2;omega) (by omega) h 0 [] _ (hS.new hb3) hD hh (by have:=(zY hg.ranked h).1;omega) (Nat.zero_le _);have HWY:Hid (zC 42 #[.pointer (some ⟨s,0,none⟩),.int .i64 h,.int .i64 0,.map (some (w.heap.size+1+1))] (((w.alloc (.cells #[.slice none 0 0] 56)).alloc (.cells #[.int .i64 h] 3)).alloc (.map #[] 0)) (Zr (w.heap.size+1+1) vars ns (q7 vars ns h 0) (((w.alloc (.cells #[.slice none 0 0] 56)).alloc (.cells #[.int .i64 h] 3)).alloc (.map #[] 0)))):=HWA;have HBX:Hid (xQ (((w.alloc (.cells #[.slice none 0 0] 56)).alloc (.cells #[.int .i64 h] 3)).alloc (.map #[] 0)) w.heap.size):=((Y7 w).new (below_new _ _)).new (below_new _ _);have HB3:=zH hb3;have hmm:=@run_makeMap Tryz.prog;clear HP HWA hS hg hh hb1 hb2 hb3 hown hD;generalize q7 vars ns h 0=m at *;go_enter Tryz.func14,Tryz.ntmps14;go_wp2_with fail;refine HPR.out.mono ?_;rintro e w1 ⟨rfl,rfl⟩;clear HPR;go_wp2_with fail;refine HWY.out.mono ?_;rintro e w4 ⟨v4,L4,rfl,hn,hD4,hk⟩;generalize (((w.alloc (.cells #[.slice none 0 0] 56)).alloc (.cells #[.int .i64 h] 3)).alloc (.map #[] 0))=W3 at *;obtain⟨x,rfl,hx⟩:=hn;obtain⟨xa,xn,xc⟩:=x;have hn:qd w4 (NV.val ⟨xa,xn,xc⟩) m:=⟨_,rfl,hx⟩;have hbx:=HBX.out.kept hk (show w.heap.size≠w.heap.size+1+1 by omega);have bc:=hbx.c;have bf:=hbx.f;have hcs:(w4.setCell ⟨w.heap.size,0,none⟩ (.slice xa xn xc)).cell? ⟨w.heap.size,0,none⟩=some (.slice xa xn xc):=World.cell?_setCell_same _ _ _ bc;have hb4:zB w (w4.setCell ⟨w.heap.size,0,none⟩ (.slice xa xn xc)):=(HB3.out.trans (hk.below HB3.out.size (fun j e=>by omega))).setCell zN _;have HFIN:Hid (∃v,Ending.returned (.tuple #[.agg #[.slice xa xn xc],.nilIface])=.returned (.tuple #[v,.nilIface])/\qd (w4.setCell ⟨w.heap.size,0,none⟩ (.slice xa xn xc)) v m/\zB w (w4.setCell ⟨w.heap.size,0,none⟩ (.slice xa xn xc))):=⟨_,rfl,hn.box hbx.no _,hb4⟩;clear hn hx hD4 hk hbx hb4 HWY HBX HB3;unfold NV.val;go_wp2;refine bodyPost_ret (v:=.tuple #[.agg #[.slice xa xn xc],.nilIface]) (by simp[results,Tryz.results14,go_sem,hcs]) rfl HFIN.out
end
end Go.Proofs.YtjmfeefogikdfaaGreatDoor.Bd
namespace Go.Proofs
open Go.Shelf
def Tryz.laysM288_ren:Go.Shelf.Ren:=⟨fun|288=>83|283=>121|284=>122|285=>123|286=>124|129=>160|317=>159|318=>161|319=>162|320=>163|337=>195|338=>196|n=>n,fun|37=>120|53=>122|3=>3|4=>4|9=>9|171=>222|0=>0|173=>225|212=>266|51=>267|5=>5|20=>20|213=>268|46=>22|232=>320|233=>321|n=>n,fun|17=>2|18=>4|19=>5|n=>n⟩
theorem Tryz.laysM288:Go.Proofs.LaysM.n288 Tryz.prog Tryz.laysM288_ren:={
 mixed:=by kernel_rfl
 f129:=zK Tryz.func160 (by kernel_rfl)
 f283:=zK Tryz.func121 (by kernel_rfl)
 f284:=zK Tryz.func122 (by kernel_rfl)
 f285:=zK Tryz.func123 (by kernel_rfl)
 f286:=zK Tryz.func124 (by kernel_rfl)
 f288:=zK Tryz.func83 (by kernel_rfl)
 f317:=zK Tryz.func159 (by kernel_rfl)
 f318:=zK Tryz.func161 (by kernel_rfl)
 f319:=zK Tryz.func162 (by kernel_rfl)
 f320:=zK Tryz.func163 (by kernel_rfl)
 f337:=zK Tryz.func195 (by kernel_rfl)
 f338:=zK Tryz.func196 (by kernel_rfl)
 t0:=Tryz.underlying0
 a0:=Tryz.isAgg0
 z0:=Tryz.sizeOf0
 v0:=Tryz.zeroValue0
 t3:=Tryz.underlying3
 a3:=Tryz.isAgg3
 z3:=Tryz.sizeOf3
 v3:=Tryz.zeroValue3
 t4:=Tryz.underlying4
 a4:=Tryz.isAgg4
 z4:=Tryz.sizeOf4
 v4:=Tryz.zeroValue4
 t5:=Tryz.underlying5
 a5:=Tryz.isAgg5
 z5:=Tryz.sizeOf5
 v5:=Tryz.zeroValue5
 t9:=Tryz.underlying9
 a9:=Tryz.isAgg9
 z9:=Tryz.sizeOf9
 v9:=Tryz.zeroValue9
 t20:=Tryz.underlying20
 a20:=Tryz.isAgg20
 z20:=Tryz.sizeOf20
 v20:=Tryz.zeroValue20
 t37:=Tryz.underlying120
 a37:=Tryz.isAgg120
 z37:=Tryz.sizeOf120
 v37:=Tryz.zeroValue120
 t46:=Tryz.underlying22
 a46:=Tryz.isAgg22
 z46:=Tryz.sizeOf22
 v46:=Tryz.zeroValue22
 t51:=Tryz.underlying267
 a51:=Tryz.isAgg267
 z51:=Tryz.sizeOf267
 v51:=Tryz.zeroValue267
 t53:=Tryz.underlying122
 a53:=Tryz.isAgg122
 z53:=Tryz.sizeOf122
 v53:=Tryz.zeroValue122
 t171:=Tryz.underlying222
 a171:=Tryz.isAgg222
 z171:=Tryz.sizeOf222
 v171:=Tryz.zeroValue222
 t173:=Tryz.underlying225
 a173:=Tryz.isAgg225
 z173:=Tryz.sizeOf225
 v173:=Tryz.zeroValue225
 t212:=Tryz.underlying266
 a212:=Tryz.isAgg266
 z212:=Tryz.sizeOf266
 v212:=Tryz.zeroValue266
 t213:=Tryz.underlying268
 a213:=Tryz.isAgg268
 z213:=Tryz.sizeOf268
 t232:=Tryz.underlying320
 a232:=Tryz.isAgg320
 z232:=Tryz.sizeOf320
 v232:=Tryz.zeroValue320
 t233:=Tryz.underlying321
 a233:=Tryz.isAgg321
 z233:=Tryz.sizeOf321
 v233:=Tryz.zeroValue321
 g17:=by kernel_rfl
 g18:=by kernel_rfl
 g19:=by kernel_rfl
 i0:=by kernel_rfl
 i3:=by kernel_rfl
 i4:=by kernel_rfl
 i5:=by kernel_rfl
 i9:=by kernel_rfl
 i20:=by kernel_rfl
 i37:=by kernel_rfl
 i46:=by kernel_rfl
 i51:=by kernel_rfl
 i53:=by kernel_rfl
 i171:=by kernel_rfl
 i173:=by kernel_rfl
 i212:=by kernel_rfl
 i232:=by kernel_rfl
 i233:=by kernel_rfl
 m17:=by kernel_rfl
 m18:=by kernel_rfl
 m19:=by kernel_rfl }
open Go.RowKit Go.Sort Go.Lib in
theorem Tryz.internal_strconv_AppendUint_10(B n u:Nat)(hu64:u<18446744073709551616)(sv:Value)(xs:List Value)(w:World)(hown:w.ownsRow B 5 1 sv n xs)(hBw:B<=w.heap.size)(hlim:n+20<=140737488355328)(htab:Lib.TabIs Tryz.prog w "internal/strconv.uint64pow10" .u64 Lib.pow10Tab) :
  zC 83 #[sv,.int .u64 u,.int .i64 10] w fun e w'=>∃v',e=.returned v'/\w'.ownsRow B 5 1 v' (n+(Lib.decDigits u).length) (xs++Lib.byteCells (Lib.decDigits u))/\Below B w w'/\Lib.OthersKept 5 none w w':=Any.internal_strconv_AppendUint_10 Tryz.laysM288 B n u hu64 sv xs w hown hBw hlim htab
end Go.Proofs
namespace Go.Proofs.YtjmfeefogikdfaaGreatDoor.Bd
open Go.RowKit Num Go.Sort
theorem qd.small{w:World}{v:Value}{m:Nat}(h:qd w v m)(hm:m<=100000000) :
  (m=0/\∃a c,v=.agg #[.slice a 0 c])\/(m≠0/\∃b off c,v=.agg #[.slice (some ⟨b,off,none⟩) 1 c]/\b<w.heap.size/\w.cell? ⟨b,off,none⟩=some (.int .u64 m)):=by
 obtain⟨s,ds,rfl,⟨a,cap,rfl,hc,hi⟩,hN,hv,hl⟩:=h.open hm
 match ds,hl with
 |[],_=>exact .inl ⟨by rw[<-hv,zet],a,cap,rfl⟩
 |[d],_ =>
  obtain⟨b,off,rfl,hb,hcell⟩:=hi 0 (by simp);have hd:val 1000000000 [d]=d:=by unfold val;simp[S,dig]
  have h0:=hN.last (by simp);have e:d=m:=by rw[<-hd];exact hv
  subst e;exact .inr ⟨h0,b,off,cap,rfl,hb,hcell⟩
theorem zd3{w:World}{v:Value}{m:Nat}(h:qd w v m)(hm:m<=100000000):zR 43 #[v] w (.bool (decide (m=0))):=by
 rcases h.small hm with ⟨h0,a,c,rfl⟩|⟨h0,b,off,c,rfl,-,-⟩
 ·rw[decide_eq_true h0];clear h hm h0;have HB:Hid (zB w (w.alloc (.cells #[.slice a 0 c] 56))):=below_new w _;go_enter Tryz.func43,Tryz.ntmps43;go_wp2;go_ret;exact⟨by first|rfl|simp,HB.out⟩
 ·rw[decide_eq_false h0];clear h hm h0;have HB:Hid (zB w (w.alloc (.cells #[.slice (some ⟨b,off,none⟩) 1 c] 56))):=below_new w _;go_enter Tryz.func43,Tryz.ntmps43;go_wp2;go_ret;exact⟨by first|rfl|simp,HB.out⟩
theorem zgP(B u:Nat)(hu64:u<18446744073709551616)(w:World)(hBw:B<=w.heap.size)(htab:Lib.TabIs Tryz.prog w "internal/strconv.uint64pow10" .u64 Lib.pow10Tab) :
  zC 44 #[.slice none 0 0,.int .u64 u,.int .i64 10] w fun e w'=>∃v',e=.returned v'/\w'.ownsRow B 5 1 v' (Lib.decDigits u).length (Lib.byteCells (Lib.decDigits u))/\Below B w w':=by
 have H0:=Tryz.internal_strconv_AppendUint_10 B 0 u hu64 (.slice none 0 0) [] w (World.ownsRow_nil _ _ _ _) hBw (by omega) htab;have H:=zH H0;clear H0 htab;go_enter Tryz.func44,Tryz.ntmps44;go_wp2_with fail;refine H.out.mono ?_;rintro e w1 ⟨v',rfl,h1,h2,-⟩;have HF:Hid (w1.ownsRow B 5 1 v' (Lib.decDigits u).length (Lib.byteCells (Lib.decDigits u))/\Below B w w1):=by
  have:w1.ownsRow B 5 1 v' (Lib.decDigits u).length (Lib.byteCells (Lib.decDigits u)):=by simpa using h1
  exact⟨this,h2⟩
 clear h1 h2;go_wp2;go_ret;exact⟨v',rfl,HF.out⟩
theorem zgn{w:World}{base:Nat}{v:Value}{l:List UInt8}(h:w.ownsRow base 5 1 v l.length (Lib.byteCells l))(hl:l≠[]) :
  (convert 120 9 v).run Tryz.prog w=.ok (.string ⟨l.toArray⟩) w:=by
 rcases id h.2 with ⟨h1,h2⟩|⟨g,cap,cur,h1,hb,hg,h2,_⟩
 ·exact absurd (List.length_eq_zero_iff.1 h2) hl
 ·subst h1;refine run_convert_bytes_back (P:=Tryz.prog) w 120 9 5 ⟨g,0,none⟩ cap l Tryz.underlying120 Tryz.underlying5 Tryz.underlying9 (fun j hj=>?_);rw[Lib.add_plain,Nat.zero_add,h.cellAt j (by omega)];simp[Lib.byteCells,hj]
theorem zhL:Lib.decDigits 0=[48]:=by kernel_rfl
theorem zh3{w:World}{v:Value}{m:Nat}(h:qd w v m)(hm:m<=100000000)(htab:Lib.TabIs Tryz.prog w "internal/strconv.uint64pow10" .u64 Lib.pow10Tab) :
  zR 15 #[v] w (.string ⟨(Lib.decDigits m).toArray⟩):=by
 rcases h.small hm with ⟨h0,a,c,rfl⟩|⟨h0,b,off,c,rfl,hb,hcell⟩
 ·have hb0:=below_new w (.cells #[.slice a 0 c] 56);have hz:=zd3 (h.new hb0) hm;rw[decide_eq_true h0] at hz;have HZ:=zH hz;have HB:=zH hb0;subst h0;rw[zhL];clear h hm hz hb0 htab;go_enter Tryz.func15,Tryz.ntmps15;go_wp2_with fail;refine HZ.out.mono ?_;rintro e w1 ⟨rfl,hb1⟩;have HB1:Hid (zB w w1):=zT HB.out hb1;clear hb1 HZ HB;go_wp2;go_ret;exact⟨rfl,HB1.out⟩
 ·have hb0:=below_new w (.cells #[.slice (some ⟨b,off,none⟩) 1 c] 56);have hz:=zd3 (h.new hb0) hm;rw[decide_eq_false h0] at hz;have HZ:=zH hz;have HB:=zH hb0;have c0:(w.alloc (.cells #[.slice (some ⟨b,off,none⟩) 1 c] 56)).cell? ⟨w.heap.size,0,none⟩=some (.slice (some ⟨b,off,none⟩) 1 c):=by simp
  have c1:=(hb0.cell (p:=⟨b,off,none⟩) hb).trans hcell;have hsz:(w.alloc (.cells #[.slice (some ⟨b,off,none⟩) 1 c] 56)).heap.size=w.heap.size+1:=World.size_alloc _ _;have hlt:b<(w.alloc (.cells #[.slice (some ⟨b,off,none⟩) 1 c] 56)).heap.size:=by omega
  have HT:Hid (∀W,zB w W->Lib.TabIs Tryz.prog W "internal/strconv.uint64pow10" .u64 Lib.pow10Tab):=fun W hW=>Lib.tabBelow_of_tabIs htab W hW;have hne:Lib.decDigits m≠[]:=fun h=>by
   have h1:=Lib.decDigits_length m;have h2:=Lib.nDigits_pos m;rw[h,List.length_nil] at h1;omega
  have HNE:=zH hne;clear h hz hb0 htab hcell hne;go_enter Tryz.func15,Tryz.ntmps15;go_upto_region 1 with fail;generalize w.alloc (.cells #[.slice (some ⟨b,off,none⟩) 1 c] 56)=W0 at *;go_wp2_with fail;refine HZ.out.mono ?_;rintro e w1 ⟨rfl,hb1⟩;have d0:w1.cell? ⟨w.heap.size,0,none⟩=some (.slice (some ⟨b,off,none⟩) 1 c):=(hb1.cell (p:=⟨w.heap.size,0,none⟩) (by show w.heap.size<_;omega)).trans c0;have d1:w1.cell? ⟨b,off,none⟩=some (.int .u64 m):=(hb1.cell (p:=⟨b,off,none⟩) hlt).trans c1;have hB1:zB w w1:=zT HB.out hb1;have HAP:=zH (zgP w1.heap.size m (by omega) w1 zN (HT.out w1 hB1));have HB1:=zH hB1;clear hb1 HZ HB c0 c1 HT hB1;go_wp2_with fail;refine HAP.out.mono ?_;rintro e w2 ⟨v2,rfl,hrow,hb2⟩;have hcv:=zgn hrow HNE.out;have HB2:Hid (zB w w2):=zT HB1.out hb2;clear hb2 HAP HB1 d0 d1 hrow HNE;go_wp2_with fail;go_loopw [4,20] (fun o i wr=>o=v2/\i=.int .i64 0/\wr=w2) (fun _ _ _=>0)
  case atStart=>exact⟨rfl,rfl,rfl⟩
  case round =>obtain⟨rfl,rfl,rfl⟩:=hrel;go_wp2;go_ret;exact⟨rfl,HB2.out⟩
end Go.Proofs.YtjmfeefogikdfaaGreatDoor.Bd
namespace Go.Proofs.YtjmfeefogikdfaaGreatDoor.Bd
open Go.RowKit Go.Deep Sv
section
variable {B p s b vars:Nat} {O:Nat->Prop} {room:Int} {K:List (List Int)} {w:World}
theorem YX(h12:vars<=12)(hl:zU vars K):ClR vars K (clF K):=by
 have:=zai h12 K hl K.length zN
 rwa [List.take_length] at this
theorem JQ(h12:vars<=12)(hl:zU vars K):(clF K).1.length<=90000:=by
 have:=(YX h12 hl).len;have:=JR h12;omega
def Yu(vars:Nat)(K:List (List Int)):Nat:=qp vars 0 (fun f=>K.all (clS f)) (fun _=>false)
theorem zhW(hS:zm B w s b O vars room (clF K).1)(h12:vars<=12)(hl:zU vars K) :
  zC 14 #[.pointer (some ⟨s,0,none⟩),.int .i64 (clF K).2] w fun e w'=>∃a n c,e=.returned (.tuple #[.agg #[.slice a n c],.nilIface])/\qd w' (.agg #[.slice a n c]) (Yu vars K)/\zB w w':=by
 have hc:=YX h12 hl;refine(zkH w hS hc.good (JQ h12 hl) (by omega) (clF K).2 hc.has).mono ?_;rintro e w' ⟨v,rfl,hn,hb⟩;rw[zjC hc.sem] at hn;have hn0:=hn;obtain⟨x,rfl,-⟩:=hn0;exact⟨x.a,x.n,x.c,rfl,hn,hb⟩
theorem zki(hS:zm B w s b O vars room (clF K).1)(h12:vars<=12)(hl:zU vars K)(vals:Nat)(hv:vals<18446744073709551616) :
  zR 11 #[.pointer (some ⟨s,0,none⟩),.int .i64 (clF K).2,.int .u64 vals] w (.tuple #[.bool (xY vals K),.nilIface]):=by
 have hc:=YX h12 hl;have:=zlP hS hc.good (JQ h12 hl) (clF K).2 hc.has vals hv;rw[hc.sem] at this;have e:K.all (clS (qR vals))=xY vals K:=by
  unfold xY;rw[Bool.eq_iff_iff,List.all_eq_true,List.all_eq_true];have h24:∀c∈K,zS 24 c:=fun c hc x hx=>Zl (by omega) (hl c hc x hx);exact⟨fun h c hc=>by rw[<-XK (h24 c hc)];exact h c hc,fun h c hc=>by rw[XK (h24 c hc)];exact h c hc⟩
 rw[e] at this;exact this
end
end Go.Proofs.YtjmfeefogikdfaaGreatDoor.Bd
namespace Go.Proofs.YtjmfeefogikdfaaGreatDoor.Bd
open Go.RowKit
theorem XC(g:Fn'):∀(k v:Nat) (f:Nat->Bool),qp k v g f≠0↔∃f':Nat->Bool,(∀i,i<v\/v+k<=i->f' i=f i)/\g f'=true
 |0,v,f=>by
  unfold qp;constructor
  ·intro h;refine⟨f,fun _ _=>rfl,?_⟩;cases hg:g f with
   |true=>rfl
   |false=>rw[hg] at h;exact absurd rfl h
  ·rintro⟨f',h1,h2⟩;have:f'=f:=funext fun i=>h1 i (by omega);rw[<-this,h2];simp
 |k+1,v,f=>by
  unfold qp;have h0:=XC g k (v+1) (turn f v false);have h1:=XC g k (v+1) (turn f v true);constructor
  ·intro h
   by_cases e:qp k (v+1) g (turn f v false)=0
   ·obtain⟨f',a,b⟩:=h1.1 (by omega);exact⟨f',fun i hi=>by rw[a i (by omega),qS _ _ (by omega)],b⟩
   ·obtain⟨f',a,b⟩:=h0.1 e;exact⟨f',fun i hi=>by rw[a i (by omega),qS _ _ (by omega)],b⟩
  ·rintro⟨f',a,b⟩;have key:∀i,i<v+1\/v+1+k<=i->f' i=turn f v (f' v) i:=fun i hi=>by
    by_cases e:i=v
    ·rw[e,xw]
    ·rw[qS _ _ e];exact a i (by omega)
   cases hv:f' v with
   |false=>rw[hv] at key;have:=h0.2 ⟨f',key,b⟩;omega
   |true=>rw[hv] at key;have:=h1.2 ⟨f',key,b⟩;omega
theorem zdE{vars:Nat}{c:List Int}(hl:zS vars c){f g:Nat->Bool}(h:∀i,i<vars->f i=g i):clS f c=clS g c:=by
 unfold clS;rw[Bool.eq_iff_iff,List.any_eq_true,List.any_eq_true];have key:∀x∈c,xd f x=xd g x:=fun x hx=>by unfold xd;rw[h _ (Ye (hl x hx))]
 exact⟨fun⟨x,h1,h2⟩=>⟨x,h1,by rw[<-key x h1];exact h2⟩,fun⟨x,h1,h2⟩=>⟨x,h1,by rw[key x h1];exact h2⟩⟩
theorem JL{vars:Nat}{K:List (List Int)}(hl:zU vars K){f g:Nat->Bool}(h:∀i,i<vars->f i=g i):K.all (clS f)=K.all (clS g):=by
 rw[Bool.eq_iff_iff,List.all_eq_true,List.all_eq_true];exact⟨fun a c hc=>by rw[<-zdE (hl c hc) h];exact a c hc,fun a c hc=>by rw[zdE (hl c hc) h];exact a c hc⟩
theorem KY{vars:Nat}(h24:vars<=24){K:List (List Int)}(hl:zU vars K)(vals:Nat):K.all (clS (qR vals))=xY vals K:=by
 unfold xY;rw[Bool.eq_iff_iff,List.all_eq_true,List.all_eq_true];have h24:∀c∈K,zS 24 c:=fun c hc x hx=>Zl (by omega) (hl c hc x hx);exact⟨fun h c hc=>by rw[<-XK (h24 c hc)];exact h c hc,fun h c hc=>by rw[XK (h24 c hc)];exact h c hc⟩
theorem znJ{vars:Nat}(h24:vars<=24){K:List (List Int)}(hl:zU vars K){vals:Nat}(h:xe vals K):xY vals K=true:=by
 unfold xY;rw[List.all_eq_true];intro c hc;obtain⟨x,hx,hh⟩:=h c hc;unfold YL;rw[List.any_eq_true];exact⟨x,hx,by unfold Y9;rw[Zl (by omega) (hl c hc x hx),hh];rfl⟩
theorem zg3{vars:Nat}(h24:vars<=24){K:List (List Int)}(hl:zU vars K):Yu vars K≠0↔xD K=true:=by
 unfold Yu;rw[XC,KS];constructor
 ·rintro⟨f',-,h2⟩;refine⟨Qy f' vars,zmG ?_⟩;rw[<-KY h24 hl,JL hl (g:=f') (fun i hi=>zdp f' vars i hi)];exact h2
 ·rintro⟨vals,h⟩;refine⟨fun i=>decide (i<vars)&&qR vals i,fun i hi=>?_,?_⟩
  ·have:¬i<vars:=by omega
   simp[this]
  ·rw[JL hl (g:=qR vals) (fun i hi=>by simp[hi]),KY h24 hl];exact znJ h24 hl h
end Go.Proofs.YtjmfeefogikdfaaGreatDoor.Bd
