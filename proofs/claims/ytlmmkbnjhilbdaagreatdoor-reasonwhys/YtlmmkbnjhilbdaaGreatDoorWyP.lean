/- The way that costs the least: plain. -/
import Derived.Test.YtlmmkbnjhilbdaaGreatDoorBdBelow
import Derived.Shelf.Strconv.AppendInt10
namespace Go.Proofs.YtlmmkbnjhilbdaaGreatDoor
set_option maxHeartbeats 4000000
set_option maxRecDepth 100000
namespace Bd
open Go.RowKit Go.Maps Num
section
variable {w w':World} {dk vars:Nat} {ns:List Nd} {L:List (Int × NV)}
theorem zmc(hD:qO w dk vars ns L){a:Int}(ha:I64 a)(ht:zb ns a≠24)(x:NV)(hx:qj w x.val (yw vars ns a))(hl:ns.length<=90000) :
  ∃w' L',(Instr.mapUpdate 87 (.map (some dk)) (.int .i64 a) x.val).run Tryz.prog w=.ok () w'/\qO w' dk vars ns L'/\ze (fun j=>j=dk) w w':=by
 have hlen:=hD.len;obtain⟨D,hDm,hR⟩:=hD.hmap;obtain⟨w',hrun,h1,h2⟩:=hDm.update QK Tryz.underlying87 (by unfold maxLen;omega) (Yb ha) (zbo x);have hk:ze (fun k=>k=dk) w w':=ze.of_grown h2 (fun i h=>by cases h;rfl);have hno:∀b o n,b=dk->w.cell? ⟨b,o,Option.none⟩≠some (.int .u64 n):=fun b o n e=>hD.no b o n e
 by_cases hm:a∈L.map Prod.fst
 ·have hR':Y4 (D.put (.int .i64 a) x.dat) (L.map fun q=>if q.1=a then (q.1,x) else q):=Rep.put_over hR (fun a b _ _ e=>by injection e) (fun _=>trivial) x hm;refine⟨w',_,hrun,⟨⟨_,hR'.size▸Z2 h1,hR'⟩,fun p hp=>?_,fun p hp=>?_⟩,hk⟩
  ·obtain⟨q,hq,rfl⟩:=List.mem_map.1 hp;split
   ·exact hD.keys q hq
   ·exact hD.keys q hq
  ·obtain⟨q,hq,rfl⟩:=List.mem_map.1 hp;split
   ·rename_i e;show qj w' x.val (yw vars ns q.1);rw[e];exact hx.kept hk hno
   ·exact(hD.nums q hq).kept hk hno
 ·have hR':Y4 (D.put (.int .i64 a) x.dat) (L++[(a,x)]):=Rep.put hR (fun a b _ _ e=>by injection e) (fun _=>trivial) ha hm x;refine⟨w',_,hrun,⟨⟨_,hR'.size▸Z2 h1,hR'⟩,fun p hp=>?_,fun p hp=>?_⟩,hk⟩
  ·rcases List.mem_append.1 hp with h|h
   ·exact hD.keys p h
   ·rw[List.mem_singleton] at h;subst h;exact ht
  ·rcases List.mem_append.1 hp with h|h
   ·exact(hD.nums p h).kept hk hno
   ·rw[List.mem_singleton] at h;subst h;exact hx.kept hk hno
end
structure Za(w:World)(bx:Nat):Prop where
 lt:bx<w.heap.size
 c:w.cell? ⟨bx,0,none⟩=some (.slice none 0 0)
 f:w.frozen? ⟨bx,0,none⟩=false
 no:∀o n,w.cell? ⟨bx,o,none⟩≠some (.int .u64 n)
theorem Za.kept{S:Nat->Prop}{w w':World}{bx:Nat}(h:Za w bx)(hk:ze S w w')(hn:¬S bx):Za w' bx :=
 ⟨Nat.lt_of_lt_of_le h.lt hk.size,(hk.cell (a:=⟨bx,0,none⟩) h.lt hn).trans h.c,(hk.frozen (a:=⟨bx,0,none⟩) h.lt hn).trans h.f,fun o n=>by rw[hk.cell (a:=⟨bx,o,none⟩) h.lt hn];exact h.no o n⟩
theorem Za.new{w w':World}{bx:Nat}(h:Za w bx)(hb:zB w w'):Za w' bx:=h.kept (ze.of_below hb (fun _=>False)) (fun h=>h)
theorem Xx(w:World):Za (w.alloc (.cells #[.slice none 0 0] 49)) w.heap.size:=⟨by simp,by simp,by simp,Jz w⟩
structure CS(B s b dk:Nat)(O:Nat->Prop)(vars:Nat)(room:Int)(ns:List Nd)(W0 w:World)(nb bx:Nat)(gv gl gh:Int)(L:List (Int × NV)):Prop where
 space:zo B w s b O vars room ns
 done:qO w dk vars ns L
 tri:Tri w nb gv gl gh
 box:Za w bx
 kept:ze (fun j=>j=dk) W0 w
section
variable {B s b dk:Nat} {O:Nat->Prop} {vars:Nat} {room:Int} {ns:List Nd} {W0 w w':World} {nb bx:Nat} {gv gl gh:Int} {L:List (Int × NV)}
theorem CS.new(h:CS B s b dk O vars room ns W0 w nb bx gv gl gh L)(hb:zB w w'):CS B s b dk O vars room ns W0 w' nb bx gv gl gh L :=
 ⟨h.space.new hb,h.done.new hb,h.tri.new hb,h.box.new hb,h.kept.trans (ze.of_below hb _)⟩
theorem CS.ways{d:Nat}(hW:Kk B s b dk O vars room ns d)(ho:¬O dk)(hs:s≠dk)(hn:nb≠dk)(hx:bx≠dk)(h:CS B s b dk O vars room ns W0 w nb bx gv gl gh L)(g:Int)(v:Nat)(hh:zj ns g=true)(hd:24<=zb ns g+d)(hv:v<=zV vars ns g) :
  zC 29 #[.pointer (some ⟨s,0,none⟩),.int .i64 g,.int .i64 v,.map (some dk)] w fun e w'=>∃r L',e=.returned r/\qj w' r (yn vars ns g v)/\CS B s b dk O vars room ns W0 w' nb bx gv gl gh L'/\ze (fun j=>j=dk) w w':=by
 refine(hW g v L w h.space h.done hh hd hv).mono ?_;rintro e w2 ⟨r,L',he,hr,hD,hk⟩;exact⟨r,L',he,hr,⟨h.space.kept hk (fun j hj e=>ho (e▸hj)) hs,hD,h.tri.kept hk hn,h.box.kept hk hx,h.kept.trans hk⟩,hk⟩
theorem CS.add(h:CS B s b dk O vars room ns W0 w nb bx gv gl gh L){r1 r2:Value}{m1 m2:Nat}(h1:qj w r1 m1)(h2:qj w r2 m2)(l1:m1<=100000000)(l2:m2<=100000000) :
  zC 105 #[r1,r2] w fun e w'=>∃a n c,e=.returned (.agg #[.slice a n c])/\qj w' (.agg #[.slice a n c]) (m1+m2)/\CS B s b dk O vars room ns W0 w' nb bx gv gl gh L/\zB w w':=by
 obtain⟨s1,d1,rfl,g1,n1,v1,k1⟩:=h1.open l1;obtain⟨s2,d2,rfl,g2,n2,v2,k2⟩:=h2.open l2;refine(ziL s1 s2 d1 d2 w g1 g2 n1.small n2.small (by omega) (by omega)).mono ?_;rintro e w2 ⟨s3,he,d3,g3,n3,v3,-,hb⟩;have hn:=zar g3 n3 v3;rw[v1,v2] at hn;obtain⟨a,c,e3,-⟩:=id g3;subst e3;exact⟨a,_,c,he,hn,h.new hb,hb⟩
end
end Bd
namespace Bd
open Go.RowKit Go.Maps Num
section
variable {B s b dk:Nat} {O:Nat->Prop} {vars:Nat} {room:Int} {ns:List Nd} {W0 w w':World} {nb bx:Nat} {gv gl gh:Int} {L:List (Int × NV)}
def Y1(B s b dk:Nat)(O:Nat->Prop)(vars:Nat)(room:Int)(ns:List Nd)(W0:World)(nb bx:Nat)(gv gl gh:Int)(m:Nat)(pv:Value)(wx:World):Prop :=
 ∃bx2 a n c L3,pv=.pointer (some ⟨bx2,0,none⟩)/\wx.cell? ⟨bx2,0,none⟩=some (.slice a n c)/\bx2<wx.heap.size/\bx2≠dk/\bx2≠bx/\qj wx (.agg #[.slice a n c]) m/\CS B s b dk O vars room ns W0 wx nb bx gv gl gh L3
theorem CS.sum(h:CS B s b dk O vars room ns W0 w nb bx gv gl gh L){bx2:Nat}(hb:Za w bx2)(h0:W0.heap.size<=bx2)(hO:∀k,O k->k<W0.heap.size)(hs:s<W0.heap.size)(hd:dk<W0.heap.size)(hn:bx2≠nb)(hx:bx2≠bx){a:Option Addr}{n c m:Nat}(hm:qj w (.agg #[.slice a n c]) m) :
  Y1 B s b dk O vars room ns W0 nb bx gv gl gh m (.pointer (some ⟨bx2,0,none⟩)) (w.setCell ⟨bx2,0,none⟩ (.slice a n c)):=by
 have hk:ze (fun j=>j=bx2) w (w.setCell ⟨bx2,0,none⟩ (.slice a n c)):=ze.setCell _ _ _ rfl;refine⟨bx2,a,n,c,L,rfl,World.cell?_setCell_same _ _ _ hb.c,Nat.lt_of_lt_of_le hb.lt hk.size,by omega,hx,hm.box hb.no _,⟨h.space.kept hk (fun j hj e=>by have:=hO j hj;omega) (by omega),h.done.box hb.no (by omega) _,h.tri.kept hk (fun e=>hn e.symm),h.box.kept hk (fun e=>hx e.symm),h.kept.andThen hk (fun i hi hlt=>by omega)⟩⟩
theorem CS.sum_new(h:CS B s b dk O vars room ns W0 w nb bx gv gl gh L)(hd:dk<w.heap.size){a:Option Addr}{n c m:Nat}(hm:qj w (.agg #[.slice a n c]) m) :
  Y1 B s b dk O vars room ns W0 nb bx gv gl gh m (.pointer (some ⟨w.heap.size,0,none⟩)) (w.alloc (.cells #[.slice a n c] 49)) :=
 ⟨w.heap.size,a,n,c,L,rfl,by simp,by simp,by omega,by have:=h.box.lt;omega,hm.new (below_new _ _),h.new (below_new _ _)⟩
theorem Y1.tri3{m:Nat}{pv:Value}(h:Y1 B s b dk O vars room ns W0 nb bx gv gl gh m pv w):w.cell? ⟨nb,0,none⟩=some (.int .i64 gv)/\w.cell? ⟨nb,1,none⟩=some (.int .i64 gl)/\w.cell? ⟨nb,2,none⟩=some (.int .i64 gh):=by
 obtain⟨_,_,_,_,_,-,-,-,-,-,-,hc⟩:=h;exact⟨hc.tri.c0,hc.tri.c1,hc.tri.c2⟩
theorem ziB(hg:zu vars ns)(hl:ns.length<=90000)(hv:vars<=24)(ho:¬O dk)(hs:s≠dk){d:Nat}(hW:Kk B s b dk O vars room ns d)(h:Int)(L:List (Int × NV))(w:World)(hS:zo B w s b O vars room ns)(hD:qO w dk vars ns L)(hh:zj ns h=true)(ht:zb ns h≠24)(hd:24<=zb ns h+((d+1:Nat):Int))(hnk:h∉L.map Prod.fst) :
  zC 66 #[.pointer (some ⟨s,0,none⟩),.int .i64 h,.map (some dk)] w (ZB dk vars ns (yw vars ns h) w):=by
 have hi:=yS hh (by omega);have hb1:=below_new w (.cells #[.slice none 0 0] 49);have c0:=(hS.new hb1).c0;have HG:=Q9 (hS.new hb1) h hi hl;have h0:=(qi hg.ranked h).1;have htv:=YN hg ht;have ht24:=YC hg.ranked ht;obtain⟨k1,k2,k3,k4⟩:=xN hg.ranked ht;have hsum:=zpF hg ht;have hgv:(zl ns h).v=zb ns h:=by rw[zaP ht];exact(yU ht).2.2.1.symm
 have hgn:=zaP ht;rw[show decide (zb ns h≠24)=true by simp[ht]] at HG;unfold Nd.val at HG;rw[<-hgn] at k1 k2 k3 k4 hsum;have HL:Hid (∀W,zB w W->(Instr.lookup 87 (.map (some dk)) (.int .i64 h) true).run Tryz.prog W=.ok (.tuple #[.agg #[.slice none 0 0],.bool false]) W):=fun W hW=>by
  obtain⟨D,hDm,hR⟩:=(hD.new hW).hmap;exact zmZ hDm hR hi hnk
 obtain⟨t,et⟩:∃t:Nat,zb ns h=(t:Int):=⟨(zb ns h).toNat,by omega⟩;have hPUT:Hid (∀W L' x,qO W dk vars ns L'->qj W (NV.val x) (yw vars ns h)->∃w' L'',(Instr.mapUpdate 87 (.map (some dk)) (.int .i64 h) x.val).run Tryz.prog W=.ok () w'/\qO w' dk vars ns L''/\ze (fun j=>j=dk) W w'):=fun W L' x h1 h2=>zmc h1 hi ht x h2 hl;rw[et] at hgv htv ht24 k1 k3 hsum hd;rw[Int.toNat_natCast] at hsum;generalize zl ns h=gn at *;obtain⟨gv,gl,gh⟩:=gn;simp only at hgv k1 k2 k3 k4 hsum HG;subst hgv;have tl:t+1<=zV vars ns gl:=by unfold zV;omega
 have th:t+1<=zV vars ns gh:=by unfold zV;omega
 have HW1:Hid (∀X L' nb bx,nb≠dk->bx≠dk->CS B s b dk O vars room ns w X nb bx (t:Int) gl gh L'->zC 29 #[.pointer (some ⟨s,0,none⟩),.int .i64 gl,.int .i64 ((t:Int)+1),.map (some dk)] X fun e w'=>∃r L',e=.returned r/\qj w' r (yn vars ns gl (t+1))/\CS B s b dk O vars room ns w w' nb bx (t:Int) gl gh L'/\ze (fun j=>j=dk) X w'):=fun X L' nb bx h1 h2 hc =>
  hc.ways hW ho hs h1 h2 gl (t+1) k2 (by omega) tl
 have HW2:Hid (∀X L' nb bx,nb≠dk->bx≠dk->CS B s b dk O vars room ns w X nb bx (t:Int) gl gh L'->zC 29 #[.pointer (some ⟨s,0,none⟩),.int .i64 gh,.int .i64 ((t:Int)+1),.map (some dk)] X fun e w'=>∃r L',e=.returned r/\qj w' r (yn vars ns gh (t+1))/\CS B s b dk O vars room ns w w' nb bx (t:Int) gl gh L'/\ze (fun j=>j=dk) X w'):=fun X L' nb bx h1 h2 hc =>
  hc.ways hW ho hs h1 h2 gh (t+1) k4 (by omega) th
 have l1:yn vars ns gl (t+1)<=100000000:=by have:=zaG vars ns gl (t+1) hv;omega
 have l2:yn vars ns gh (t+1)<=100000000:=by have:=zaG vars ns gh (t+1) hv;omega
 have hOw:∀k,O k->k<w.heap.size:=fun k hk=>(hS.own k hk).2;have hsl:=hS.slt;have hdl:=hD.lt;have HGT:=zH HG;have HS:=zH hS;have HD:=zH hD;have HB1:=zH hb1;have HSUM:=zH hsum;have HOW:=zH hOw;have BX:=zH (Xx w);have hw1:IntKind.i64.wrap ((t:Int)+1)=(t:Int)+1:=IntWalk.i64_in _ ⟨by omega,by omega⟩;have hw2:wrap64 ((t:Int)+1)=(t:Int)+1:=by unfold wrap64;omega
 clear HG hS hD hh ht hb1 hsum hOw hW hg k1 k2 k3 k4 tl th hnk hgn et;generalize yw vars ns h=m at *;generalize yn vars ns gl (t+1)=m1 at *;generalize yn vars ns gh (t+1)=m2 at *;have bxl:=BX.out.lt;go_enter Tryz.func66,Tryz.ntmps66;go_wp2_with fail;refine HGT.out.mono ?_;rintro e w2 ⟨rfl,hb2⟩;generalize (w.alloc (.cells #[.slice none 0 0] 49))=W1 at *;have hb3:=hb2.alloc hb2.size (.cells #[.int .i64 t,.int .i64 gl,.int .i64 gh] 194);have hb4:=zT HB1.out hb3;have hrun:=HL.out _ hb4;have hs2:=hb2.size;have hb5:=below_new (w2.alloc (.cells #[.int .i64 t,.int .i64 gl,.int .i64 gh] 194)) (.cells #[.slice none 0 0] 49);have cs:CS B s b dk O vars room ns w ((w2.alloc (.cells #[.int .i64 t,.int .i64 gl,.int .i64 gh] 194)).alloc (.cells #[.slice none 0 0] 49)) w2.heap.size w.heap.size (t:Int) gl gh L :=
  CS.new ⟨HS.out.new hb4,HD.out.new hb4,Jv w2 (t:Int) gl gh 194,BX.out.new hb3,ze.of_below hb4 _⟩ hb5
 have HCS:=zH cs;clear hb2 hb3 hb4 hb5 cs HGT HL HS HD BX c0;go_wp2_with fail;generalize ((w2.alloc (.cells #[.int .i64 t,.int .i64 gl,.int .i64 gh] 194)).alloc (.cells #[.slice none 0 0] 49))=W4 at *;have cs0:=HCS.out.new zF.drew;have csA:=(HCS.out.new (below_new W4 (.cells #[.slice none 0 0] 49))).new zF.drew;have nd1:w2.heap.size≠dk:=by omega
 have nd2:w.heap.size≠dk:=by omega
 have nn1:w.heap.size<w2.heap.size:=by omega
 have w4l:w2.heap.size<W4.heap.size:=HCS.out.tri.lt;have HNO:Hid (∀X L',CS B s b dk O vars room ns w X w2.heap.size w.heap.size (t:Int) gl gh L'->∀b o n,b=dk->X.cell? ⟨b,o,none⟩≠some (.int .u64 n)):=fun X L' hc b o n e=>hc.done.no b o n e;have nA:W4.heap.size≠dk:=by omega
 have nB:w.heap.size<=W4.heap.size:=by omega
 have nC:W4.heap.size≠w2.heap.size:=by omega
 have nD:W4.heap.size≠w.heap.size:=by omega
 clear hrun;go_cut [11] (fun pv wx=>Y1 B s b dk O vars room ns w w2.heap.size w.heap.size (t:Int) gl gh m pv wx)
 case first =>
  go_region_held3 (fun X=>X.cell? ⟨w2.heap.size,0,none⟩=some (.int .i64 t)/\X.cell? ⟨w2.heap.size,1,none⟩=some (.int .i64 gl)/\X.cell? ⟨w2.heap.size,2,none⟩=some (.int .i64 gh))
   (first
    |exact⟨cs0.tri.c0,cs0.tri.c1,cs0.tri.c2⟩
    |exact⟨csA.tri.c0,csA.tri.c1,csA.tri.c2⟩
    |exact⟨cs2.tri.c0,cs2.tri.c1,cs2.tri.c2⟩
    |exact⟨(cs2.new (below_new _ _)).tri.c0,(cs2.new (below_new _ _)).tri.c1,(cs2.new (below_new _ _)).tri.c2⟩
    |exact⟨cs3.tri.c0,cs3.tri.c1,cs3.tri.c2⟩
    |exact⟨(cs3.new (below_new _ _)).tri.c0,(cs3.new (below_new _ _)).tri.c1,(cs3.new (below_new _ _)).tri.c2⟩
    |exact hsm.tri3
    |exact⟨cs7.tri.c0,cs7.tri.c1,cs7.tri.c2⟩
    | exact ⟨(cs7.new (below_new _ _)).tri.c0,(cs7.new (below_new _ _)).tri.c1,(cs7.new (below_new _ _)).tri.c2⟩)
   (first
    |(go_at_call 29;with_reducible refine(HW1.out _ _ _ _ nd1 nd2 cs0).mono ?_;rintro e w5 ⟨r1,L1,rfl,hn1,cs2,hk1⟩)
    |(go_at_call 29;with_reducible refine(HW1.out _ _ _ _ nd1 nd2 csA).mono ?_;rintro e w5 ⟨r1,L1,rfl,hn1,cs2,hk1⟩)
    |(go_at_call 29;with_reducible refine(HW2.out _ _ _ _ nd1 nd2 cs2).mono ?_;rintro e w6 ⟨r2,L2,rfl,hn2,cs3,hk2⟩;have hn3:=hn1.kept hk2 (HNO.out _ _ cs2))
    |(go_at_call 29;with_reducible refine(HW2.out _ _ _ _ nd1 nd2 (cs2.new (below_new _ _))).mono ?_;rintro e w6 ⟨r2,L2,rfl,hn2,cs3,hk2⟩;have hn3:=(hn1.new (below_new _ _)).kept hk2 (HNO.out _ _ (cs2.new (below_new _ _))))
    |(go_at_call 105;(with_reducible refine(cs3.add hn3 hn2 l1 l2).mono ?_);rintro e w7 ⟨a7,n7,c7,rfl,hn7,cs7,hb7⟩;rw[<-HSUM.out] at hn7;have hbx:Za w7 W4.heap.size:=((((Xx W4).new zF.drew).kept hk1 nA).kept hk2 nA).new hb7;have hsm:=cs7.sum hbx nB HOW.out hsl hdl nC nD hn7;have q1:=hbx.c;have q2:=hbx.f)
    |(go_at_call 105;(with_reducible refine(cs3.add hn3 hn2 l1 l2).mono ?_);rintro e w7 ⟨a7,n7,c7,rfl,hn7,cs7,hb7⟩;rw[<-HSUM.out] at hn7;have z1:W4.heap.size<=w5.heap.size:=hk1.size;have hbx:Za w7 w5.heap.size:=((Xx w5).kept hk2 (show w5.heap.size≠dk by omega)).new hb7;have hsm:=cs7.sum hbx (by omega) HOW.out hsl hdl (by omega) (by omega) hn7;have q1:=hbx.c;have q2:=hbx.f)
    |(go_at_call 105;(with_reducible refine((cs3.new (below_new _ _)).add (hn3.new (below_new _ _)) (hn2.new (below_new _ _)) l1 l2).mono ?_);rintro e w7 ⟨a7,n7,c7,rfl,hn7,cs7,hb7⟩;rw[<-HSUM.out] at hn7;have z1:W4.heap.size<=w5.heap.size:=hk1.size;have z2:w5.heap.size<=w6.heap.size:=hk2.size;have hbx:Za w7 w6.heap.size:=(Xx w6).new hb7;have hsm:=cs7.sum hbx (by omega) HOW.out hsl hdl (by omega) (by omega) hn7;have q1:=hbx.c;have q2:=hbx.f)
    | (go_at_call 105;(with_reducible refine (cs3.add hn3 hn2 l1 l2).mono ?_);rintro e w7 ⟨a7,n7,c7,rfl,hn7,cs7,hb7⟩;rw [<- HSUM.out] at hn7;have hsm:=cs7.sum_new (Nat.lt_of_lt_of_le hdl cs7.kept.size) hn7))
  all_goals
   go_wp2_with fail;go_meet
   case rel=>exact hsm
 case rest =>obtain⟨bx2,a,n,c,L3,rfl,hc2,hl2,hd2,hx2,hn,cs3⟩:=hcut;obtain⟨w8,L4,hrun,hD8,hk8⟩:=hPUT.out wc L3 ⟨a,n,c⟩ cs3.done hn;unfold NV.val at hrun;have hc8:=(hk8.cell (a:=⟨bx2,0,none⟩) hl2 hd2).trans hc2;have hb8:=cs3.box.kept hk8 nd2;have bc8:=hb8.c;have bf8:=hb8.f;have hn8:=hn.kept hk8 (HNO.out _ _ cs3);have hcs:(w8.setCell ⟨w.heap.size,0,none⟩ (.slice a n c)).cell? ⟨w.heap.size,0,none⟩=some (.slice a n c):=World.cell?_setCell_same _ _ _ bc8;have hk:ze (fun j=>j=dk) w (w8.setCell ⟨w.heap.size,0,none⟩ (.slice a n c)):=(cs3.kept.trans hk8).andThen (ze.setCell (S:=fun j=>j=w.heap.size) _ _ _ rfl) (fun i hi hlt=>by omega);have HFIN:Hid (ZB dk vars ns m w (.returned (.agg #[.slice a n c])) (w8.setCell ⟨w.heap.size,0,none⟩ (.slice a n c))):=⟨_,L4,rfl,hn8.box hb8.no _,hD8.box hb8.no nd2 _,hk⟩;clear hn cs3 hD8 hk8 hb8 hn8 hk HW1 HW2 HNO hPUT HCS cs0 csA HOW;go_wp2;refine bodyPost_ret (v:=.agg #[.slice a n c]) (by simp[results,Tryz.results66,go_sem,hcs]) rfl HFIN.out
theorem ze7(hg:zu vars ns)(hl:ns.length<=90000)(hv:vars<=24)(ho:¬O dk)(hs:s≠dk):∀d,zd7 B s b dk O vars room ns d
 |0=>fun h L w hS hD hh hd=>zbY hl hv h L w hS hD hh (by have:=(qi hg.ranked h).2;omega)
 |d+1=>fun h L w hS hD hh hd=>by
  by_cases ht:zb ns h=24
  ·exact zbY hl hv h L w hS hD hh ht
  ·by_cases hk:h∈L.map Prod.fst
   ·obtain⟨p,hp,rfl⟩:=List.mem_map.1 hk;exact zje hl L w hS hD p hp hh
   ·exact ziB hg hl hv ho hs (zd0 hg hl hv (ze7 hg hl hv ho hs d)) h L w hS hD hh ht hd hk
theorem zmx(hg:zu vars ns)(hl:ns.length<=90000)(hv:vars<=24)(ho:¬O dk)(hs:s≠dk):Kk B s b dk O vars room ns 24:=zd0 hg hl hv (ze7 hg hl hv ho hs 24)
end
end Bd
namespace Bd
open Go.RowKit Go.Maps Num
section
variable {B s b:Nat} {O:Nat->Prop} {vars:Nat} {room:Int} {ns:List Nd}
theorem zpB(w:World)(hS:zo B w s b O vars room ns)(hg:zu vars ns)(hl:ns.length<=90000)(hv:vars<=24)(h:Int)(hh:zj ns h=true) :
  zC 12 #[.pointer (some ⟨s,0,none⟩),.int .i64 h] w fun e w'=>∃v,e=.returned (.tuple #[v,.nilIface])/\qj w' v (yn vars ns h 0)/\zB w w':=by
 have hi:=yS hh (by omega);have hb1:=below_new w (.cells #[.slice none 0 0] 49);have s1:(w.alloc (.cells #[.slice none 0 0] 49)).heap.size=w.heap.size+1:=by simp
 have HP:=zcF (cp:=1) ((hS.new hb1).new (below_new (w.alloc (.cells #[.slice none 0 0] 49)) (.cells #[.int .i64 h] 3))) (by omega) (w.alloc (.cells #[.slice none 0 0] 49)).heap.size [h] (zjb (w.alloc (.cells #[.slice none 0 0] 49)) h hi) (by simp) (fun y hy=>by rw[List.mem_singleton] at hy;subst hy;exact hh);rw[show [h].length=1 from rfl,s1] at HP;have HPR:=zH HP;have hb2:=hb1.alloc hb1.size (.cells #[.int .i64 h] 3);have s2:((w.alloc (.cells #[.slice none 0 0] 49)).alloc (.cells #[.int .i64 h] 3)).heap.size=w.heap.size+1+1:=by rw[World.size_alloc,s1]
 have hb3:=hb2.alloc hb2.size (.map #[] 0);have hown:=World.ownsMap_made ((w.alloc (.cells #[.slice none 0 0] 49)).alloc (.cells #[.int .i64 h] 3)) Tryz.prog 3 Yn;rw[s2] at hown;have hD:qO (((w.alloc (.cells #[.slice none 0 0] 49)).alloc (.cells #[.int .i64 h] 3)).alloc (.map #[] 0)) (w.heap.size+1+1) vars ns []:=⟨⟨_,hown,Rep.empty⟩,(fun p hp=>by cases hp),(fun p hp=>by cases hp)⟩;have hslt:=hS.slt;have HWA:=zmx (B:=B) (s:=s) (b:=b) (dk:=w.heap.size+1+1) (O:=O) (vars:=vars) (room:=room) (ns:=ns) hg hl hv (fun ho=>by have:=(hS.own _ ho).2;omega) (by omega) h 0 [] _ (hS.new hb3) hD hh (by have:=(qi hg.ranked h).1;omega) (Nat.zero_le _);have HWY:Hid (zC 29 #[.pointer (some ⟨s,0,none⟩),.int .i64 h,.int .i64 0,.map (some (w.heap.size+1+1))] (((w.alloc (.cells #[.slice none 0 0] 49)).alloc (.cells #[.int .i64 h] 3)).alloc (.map #[] 0)) (ZB (w.heap.size+1+1) vars ns (yn vars ns h 0) (((w.alloc (.cells #[.slice none 0 0] 49)).alloc (.cells #[.int .i64 h] 3)).alloc (.map #[] 0)))):=HWA;have HBX:Hid (Za (((w.alloc (.cells #[.slice none 0 0] 49)).alloc (.cells #[.int .i64 h] 3)).alloc (.map #[] 0)) w.heap.size):=((Xx w).new (below_new _ _)).new (below_new _ _);have HB3:=zH hb3;have hmm:=@run_makeMap Tryz.prog;clear HP HWA hS hg hh hb1 hb2 hb3 hown hD;generalize yn vars ns h 0=m at *;go_enter Tryz.func12,Tryz.ntmps12;go_wp2_with fail;refine HPR.out.mono ?_;rintro e w1 ⟨rfl,rfl⟩;clear HPR;go_wp2_with fail;refine HWY.out.mono ?_;rintro e w4 ⟨v4,L4,rfl,hn,hD4,hk⟩;generalize (((w.alloc (.cells #[.slice none 0 0] 49)).alloc (.cells #[.int .i64 h] 3)).alloc (.map #[] 0))=W3 at *;obtain⟨x,rfl,hx⟩:=hn;obtain⟨xa,xn,xc⟩:=x;have hn:qj w4 (NV.val ⟨xa,xn,xc⟩) m:=⟨_,rfl,hx⟩;have hbx:=HBX.out.kept hk (show w.heap.size≠w.heap.size+1+1 by omega);have bc:=hbx.c;have bf:=hbx.f;have hcs:(w4.setCell ⟨w.heap.size,0,none⟩ (.slice xa xn xc)).cell? ⟨w.heap.size,0,none⟩=some (.slice xa xn xc):=World.cell?_setCell_same _ _ _ bc;have hb4:zB w (w4.setCell ⟨w.heap.size,0,none⟩ (.slice xa xn xc)):=(HB3.out.trans (hk.below HB3.out.size (fun j e=>by omega))).setCell zN _;have HFIN:Hid (∃v,Ending.returned (.tuple #[.agg #[.slice xa xn xc],.nilIface])=.returned (.tuple #[v,.nilIface])/\qj (w4.setCell ⟨w.heap.size,0,none⟩ (.slice xa xn xc)) v m/\zB w (w4.setCell ⟨w.heap.size,0,none⟩ (.slice xa xn xc))):=⟨_,rfl,hn.box hbx.no _,hb4⟩;clear hn hx hD4 hk hbx hb4 HWY HBX HB3;unfold NV.val;go_wp2;refine bodyPost_ret (v:=.tuple #[.agg #[.slice xa xn xc],.nilIface]) (by simp[results,Tryz.results12,go_sem,hcs]) rfl HFIN.out
end
end Bd
namespace Bd
open Go.RowKit Num Go.Sort
theorem qj.small{w:World}{v:Value}{m:Nat}(h:qj w v m)(hm:m<=100000000) :
  (m=0/\∃a c,v=.agg #[.slice a 0 c])\/(m≠0/\∃b off c,v=.agg #[.slice (some ⟨b,off,none⟩) 1 c]/\b<w.heap.size/\w.cell? ⟨b,off,none⟩=some (.int .u64 m)):=by
 obtain⟨s,ds,rfl,⟨a,cap,rfl,hc,hi⟩,hN,hv,hl⟩:=h.open hm
 match ds,hl with
 |[],_=>exact .inl ⟨by rw[<-hv,zeK],a,cap,rfl⟩
 |[d],_ =>
  obtain⟨b,off,rfl,hb,hcell⟩:=hi 0 (by simp);have hd:val 1000000000 [d]=d:=by unfold val;simp[S,dig]
  have h0:=hN.last (by simp);have e:d=m:=by rw[<-hd];exact hv
  subst e;exact .inr ⟨h0,b,off,cap,rfl,hb,hcell⟩
theorem zde{w:World}{v:Value}{m:Nat}(h:qj w v m)(hm:m<=100000000):zR 14 #[v] w (.bool (decide (m=0))):=by
 rcases h.small hm with ⟨h0,a,c,rfl⟩|⟨h0,b,off,c,rfl,-,-⟩
 ·rw[decide_eq_true h0];clear h hm h0;have HB:Hid (zB w (w.alloc (.cells #[.slice a 0 c] 49))):=below_new w _;go_enter Tryz.func14,Tryz.ntmps14;go_wp2;go_ret;exact⟨by first|rfl|simp,HB.out⟩
 ·rw[decide_eq_false h0];clear h hm h0;have HB:Hid (zB w (w.alloc (.cells #[.slice (some ⟨b,off,none⟩) 1 c] 49))):=below_new w _;go_enter Tryz.func14,Tryz.ntmps14;go_wp2;go_ret;exact⟨by first|rfl|simp,HB.out⟩
end Bd
namespace Bd
open Go.RowKit Go.Deep Sv
section
variable {B p s b vars:Nat} {O:Nat->Prop} {room:Int} {K:List (List Int)} {w:World}
theorem X9(h12:vars<=12)(hl:qs vars K):ClR vars K (clF K):=by
 have:=zbg h12 K hl K.length zN
 rwa [List.take_length] at this
theorem zfB(h12:vars<=12)(hl:qs vars K):(clF K).1.length<=90000:=by
 have:=(X9 h12 hl).len;have:=Ks h12;omega
def ZP(vars:Nat)(K:List (List Int)):Nat:=qw vars 0 (fun f=>K.all (clS f)) (fun _=>false)
theorem zgA(h12:vars<=12)(K:List (List Int)):ZP vars K<=100000000:=by
 have h1:=zdM (fun f=>K.all (clS f)) vars 0 (fun _=>false);have h2:=Ks h12;unfold ZP;omega
theorem zow(hS:zo B w s b O vars room (clF K).1)(h12:vars<=12)(hl:qs vars K) :
  zC 12 #[.pointer (some ⟨s,0,none⟩),.int .i64 (clF K).2] w fun e w'=>∃a n c,e=.returned (.tuple #[.agg #[.slice a n c],.nilIface])/\qj w' (.agg #[.slice a n c]) (ZP vars K)/\zB w w':=by
 have hc:=X9 h12 hl;refine(zpB w hS hc.good (zfB h12 hl) (by omega) (clF K).2 hc.has).mono ?_;rintro e w' ⟨v,rfl,hn,hb⟩;rw[zht hc.sem] at hn;have hn0:=hn;obtain⟨x,rfl,-⟩:=hn0;exact⟨x.a,x.n,x.c,rfl,hn,hb⟩
end
end Bd
namespace Bd
open Go.RowKit
theorem zah(g:Fn'):∀(k v:Nat) (f:Nat->Bool),qw k v g f≠0↔∃f':Nat->Bool,(∀i,i<v\/v+k<=i->f' i=f i)/\g f'=true
 |0,v,f=>by
  unfold qw;constructor
  ·intro h;refine⟨f,fun _ _=>rfl,?_⟩;cases hg:g f with
   |true=>rfl
   |false=>rw[hg] at h;exact absurd rfl h
  ·rintro⟨f',h1,h2⟩;have:f'=f:=funext fun i=>h1 i (by omega);rw[<-this,h2];simp
 |k+1,v,f=>by
  unfold qw;have h0:=zah g k (v+1) (turn f v false);have h1:=zah g k (v+1) (turn f v true);constructor
  ·intro h
   by_cases e:qw k (v+1) g (turn f v false)=0
   ·obtain⟨f',a,b⟩:=h1.1 (by omega);exact⟨f',fun i hi=>by rw[a i (by omega),ye _ _ (by omega)],b⟩
   ·obtain⟨f',a,b⟩:=h0.1 e;exact⟨f',fun i hi=>by rw[a i (by omega),ye _ _ (by omega)],b⟩
  ·rintro⟨f',a,b⟩;have key:∀i,i<v+1\/v+1+k<=i->f' i=turn f v (f' v) i:=fun i hi=>by
    by_cases e:i=v
    ·rw[e,xK]
    ·rw[ye _ _ e];exact a i (by omega)
   cases hv:f' v with
   |false=>rw[hv] at key;have:=h0.2 ⟨f',key,b⟩;omega
   |true=>rw[hv] at key;have:=h1.2 ⟨f',key,b⟩;omega
theorem zdg{vars:Nat}{c:List Int}(hl:zY vars c){f g:Nat->Bool}(h:∀i,i<vars->f i=g i):clS f c=clS g c:=by
 unfold clS;rw[Bool.eq_iff_iff,List.any_eq_true,List.any_eq_true];have key:∀x∈c,xw f x=xw g x:=fun x hx=>by unfold xw;rw[h _ (Yx (hl x hx))]
 exact⟨fun⟨x,h1,h2⟩=>⟨x,h1,by rw[<-key x h1];exact h2⟩,fun⟨x,h1,h2⟩=>⟨x,h1,by rw[key x h1];exact h2⟩⟩
theorem Jd{vars:Nat}{K:List (List Int)}(hl:qs vars K){f g:Nat->Bool}(h:∀i,i<vars->f i=g i):K.all (clS f)=K.all (clS g):=by
 rw[Bool.eq_iff_iff,List.all_eq_true,List.all_eq_true];exact⟨fun a c hc=>by rw[<-zdg (hl c hc) h];exact a c hc,fun a c hc=>by rw[zdg (hl c hc) h];exact a c hc⟩
theorem Ko{vars:Nat}(h24:vars<=24){K:List (List Int)}(hl:qs vars K)(vals:Nat):K.all (clS (xQ vals))=YF vals K:=by
 unfold YF;rw[Bool.eq_iff_iff,List.all_eq_true,List.all_eq_true];have h24:∀c∈K,zY 24 c:=fun c hc x hx=>Zz (by omega) (hl c hc x hx);exact⟨fun h c hc=>by rw[<-zeb (h24 c hc)];exact h c hc,fun h c hc=>by rw[zeb (h24 c hc)];exact h c hc⟩
theorem zfZ{vars:Nat}(h24:vars<=24){K:List (List Int)}(hl:qs vars K){vals:Nat}(h:xh vals K):YF vals K=true:=by
 unfold YF;rw[List.all_eq_true];intro c hc;obtain⟨x,hx,hh⟩:=h c hc;unfold Xq;rw[List.any_eq_true];exact⟨x,hx,by unfold XW;rw[Zz (by omega) (hl c hc x hx),hh];rfl⟩
theorem zjA{vars:Nat}(h24:vars<=24){K:List (List Int)}(hl:qs vars K):ZP vars K≠0↔xi K=true:=by
 unfold ZP;rw[zah,XY];constructor
 ·rintro⟨f',-,h2⟩;refine⟨Qh f' vars,zds ?_⟩;rw[<-Ko h24 hl,Jd hl (g:=f') (fun i hi=>JS f' vars i hi)];exact h2
 ·rintro⟨vals,h⟩;refine⟨fun i=>decide (i<vars)&&xQ vals i,fun i hi=>?_,?_⟩
  ·have:¬i<vars:=by omega
   simp[this]
  ·rw[Jd hl (g:=xQ vals) (fun i hi=>by simp[hi]),Ko h24 hl];exact zfZ h24 hl h
theorem znQ{vars:Nat}(h24:vars<=24){K:List (List Int)}(hl:qs vars K):decide (ZP vars K=0)=!xi K:=by
 have:=zjA h24 hl;cases hs:xi K with
 |true=>simpa using this.2 hs
 |false =>
  rw[hs] at this;have:¬ZP vars K≠0:=fun h=>by cases this.1 h
  simpa using this
end Bd
namespace Bd
open Go.RowKit
structure Wy where
 items:Nat
 cost:Int
 can:Bool
abbrev qE:Type:=Nat->Bool->Int
def woF(C:qE)(i:Nat)(wo:Wy):Wy:=⟨wo.items,wo.cost+C i false,wo.can⟩
def wiF(C:qE)(i:Nat)(wi:Wy):Wy:=⟨wi.items|||2^i,wi.cost+C i true,wi.can⟩
def xG(C:qE)(i:Nat)(wo wi:Wy):Wy:=if wi.can=true/\(wo.can=false\/(wiF C i wi).cost<=(woF C i wo).cost) then wiF C i wi else woF C i wo
def qz(C:qE):Nat->Nat->Fn'->(Nat->Bool)->Wy
 |0,_,g,f=>⟨0,0,g f⟩
 |k+1,v,g,f=>xG C v (qz C k (v+1) g (turn f v false)) (qz C k (v+1) g (turn f v true))
theorem YD(C:qE):∀(k v:Nat) {g g':Fn'} (f:Nat->Bool),(∀f',(∀i,i<v->f' i=f i)->g f'=g' f')->qz C k v g f=qz C k v g' f
 |0,v,g,g',f,h=>by unfold qz;rw[h f (fun _ _=>rfl)]
 |k+1,v,g,g',f,h=>by
  unfold qz;rw [YD C k (v + 1) (turn f v false) (fun f' hf=>h f' (fun i hi=>by rw [hf i (by omega),ye _ _ (by omega)])),
   YD C k (v + 1) (turn f v true) (fun f' hf=>h f' (fun i hi=>by rw [hf i (by omega),ye _ _ (by omega)]))]
theorem XH(C:qE):∀(k v:Nat) {g:Fn'},(∀f f':Nat->Bool,(∀i,v<=i->f i=f' i)->g f=g f')->∀f f':Nat->Bool,(∀i,v+k<=i->f i=f' i)->qz C k v g f=qz C k v g f'
 |0,v,g,hg,f,f',h=>by unfold qz;rw[hg f f' h]
 |k+1,v,g,hg,f,f',h=>by
  unfold qz;have key:∀b,qz C k (v+1) g (turn f v b)=qz C k (v+1) g (turn f' v b):=fun b=>by
   have e:qz C k (v + 1) g (turn f v b)=qz C k (v + 1) (fun f0=>g (turn f0 v b)) (turn f v b):=YD C k (v + 1) _ (fun f0 hf=>by
    have:turn f0 v b=f0:=funext fun i=>by
     by_cases e:i=v
     ·rw[e,xK,hf v (by omega),xK]
     ·rw[ye _ _ e]
    rw [this])
   have e':qz C k (v + 1) g (turn f' v b)=qz C k (v + 1) (fun f0=>g (turn f0 v b)) (turn f' v b):=YD C k (v + 1) _ (fun f0 hf=>by
    have:turn f0 v b=f0:=funext fun i=>by
     by_cases e:i=v
     ·rw[e,xK,hf v (by omega),xK]
     ·rw[ye _ _ e]
    rw [this])
   rw[e,e'];refine XH C k (v+1) (fun a c hac=>hg _ _ (fun i hi=>?_)) _ _ (fun i hi=>?_)
   ·by_cases e:i=v
    ·rw[e,xK,xK]
    ·rw[ye _ _ e,ye _ _ e];exact hac i (by omega)
   ·rw[ye _ _ (by omega),ye _ _ (by omega)];exact h i (by omega)
  rw[key false,key true]
def qh(C:qE)(vars:Nat)(ns:List Nd)(h:Int)(v:Nat):Wy:=qz C (vars-v) v (sem ns h) (fun _=>false)
def yq(C:qE)(vars:Nat)(ns:List Nd)(h:Int):Wy:=qh C vars ns h (zV vars ns h)
section
variable {C:qE} {vars:Nat} {ns:List Nd}
theorem zlz(hg:zu vars ns){h:Int}{v:Nat}(hv:v<zV vars ns h):qh C vars ns h v=xG C v (qh C vars ns h (v+1)) (qh C vars ns h (v+1)):=by
 have h0:=(qi hg.ranked h).1;have hvt:((v+1:Nat):Int)<=zb ns h:=by unfold zV at hv;omega
 have hvv:v<vars:=by unfold zV at hv;omega
 have hs:=Yy hg (h:=h) (v:=v+1) hvt;unfold qh;rw[show vars-v=(vars-(v+1))+1 by omega]
 conv=>lhs;unfold qz
 rw [XH C _ (v + 1) hs (turn (fun _=>false) v false) (fun _=>false) (fun i hi=>ye _ _ (by omega)),
  XH C _ (v + 1) hs (turn (fun _=>false) v true) (fun _=>false) (fun i hi=>ye _ _ (by omega))]
theorem zmg{h:Int}(hh:zj ns h=true)(ht:zb ns h=24)(hv:vars<=24):yq C vars ns h=⟨0,0,decide (h=1)⟩:=by
 have e:zV vars ns h=vars:=by unfold zV;rw[ht];simp;omega
 unfold yq qh;rw[e,Nat.sub_self];unfold qz;rcases QY hh ht with rfl|rfl
 ·rw[Zh];rfl
 ·rw[Zj];rfl
theorem zli(hg:zu vars ns){h:Int}(ht:zb ns h≠24):yq C vars ns h=xG C (zb ns h).toNat (qh C vars ns (nd ns (pl h)).l ((zb ns h).toNat+1)) (qh C vars ns (nd ns (pl h)).h ((zb ns h).toNat+1)):=by
 have hv:=YN hg ht;have h0:=(qi hg.ranked h).1;obtain⟨k1,-,k2,-⟩:=xN hg.ranked ht;obtain⟨v,e⟩:∃v:Nat,zb ns h=(v:Int):=⟨(zb ns h).toNat,by omega⟩;have et:zV vars ns h=v:=by unfold zV;rw[e];simp;omega
 have en:=Yu hg.ranked ht;unfold yq;rw[et];rw[e] at hv k1 k2 en ⊢;rw[Int.toNat_natCast] at en ⊢;unfold qh;rw[show vars-v=(vars-(v+1))+1 by omega];rw[qz];have hl:=Yy hg (h:=(nd ns (pl h)).l) (v:=v+1) (by omega);have hh:=Yy hg (h:=(nd ns (pl h)).h) (v:=v+1) (by omega);have e1:qz C (vars-(v+1)) (v+1) (sem ns h) (turn (fun _=>false) v false)=qz C (vars-(v+1)) (v+1) (sem ns (nd ns (pl h)).l) (turn (fun _=>false) v false) :=
  YD C _ _ _ (fun f' hf=>by
   have:f' v=false:=by rw[hf v (by omega),xK]
   rw [en f',this];rfl)
 have e2:qz C (vars-(v+1)) (v+1) (sem ns h) (turn (fun _=>false) v true)=qz C (vars-(v+1)) (v+1) (sem ns (nd ns (pl h)).h) (turn (fun _=>false) v true) :=
  YD C _ _ _ (fun f' hf=>by
   have:f' v=true:=by rw[hf v (by omega),xK]
   rw [en f',this];rfl)
 rw [e1,e2,XH C _ (v + 1) hl (turn (fun _=>false) v false) (fun _=>false) (fun i hi=>ye _ _ (by omega)),
  XH C _ (v + 1) hh (turn (fun _=>false) v true) (fun _=>false) (fun i hi=>ye _ _ (by omega))]
structure Xy(k v:Nat)(x:Wy):Prop where
 c0:0<=x.cost
 c1:x.cost<=1000000*(k:Int)
 it:x.items<2^(v+k)
def Q7(C:qE):Prop:=∀i b,0<=C i b/\C i b<=1000000
theorem Xy.bet(hC:Q7 C){k v:Nat}{a b:Wy}(ha:Xy k (v+1) a)(hb:Xy k (v+1) b):Xy (k+1) v (xG C v a b):=by
 have h1:=hC v false;have h2:=hC v true;have e:v+1+k=v+(k+1):=by omega
 have:=ha.c0;have:=ha.c1;have:=hb.c0;have:=hb.c1;have i1:=ha.it;have i2:=hb.it;rw[e] at i1 i2;unfold xG;split
 ·refine⟨by show 0<=b.cost+C v true;omega,by show b.cost+C v true<=_;omega,?_⟩;show b.items|||2^v<2^(v+(k+1));exact Nat.or_lt_two_pow i2 (Nat.pow_lt_pow_right (by omega) (by omega))
 ·exact⟨by show 0<=a.cost+C v false;omega,by show a.cost+C v false<=_;omega,i1⟩
theorem J8(hC:Q7 C)(g:Fn'):∀(k v:Nat) (f:Nat->Bool),Xy k v (qz C k v g f)
 |0,v,f=>⟨Int.le_refl _,by show (0:Int)<=_;omega,Nat.two_pow_pos _⟩
 |k+1,v,f=>by unfold qz;exact(J8 hC g k (v+1) _).bet hC (J8 hC g k (v+1) _)
theorem zbk(hC:Q7 C)(hv24:vars<=24)(h:Int)(v:Nat):0<=(qh C vars ns h v).cost/\(qh C vars ns h v).cost<=24000000/\(v<=vars->(qh C vars ns h v).items<2^vars):=by
 have:=J8 hC (sem ns h) (vars-v) v (fun _=>false);have h1:=this.c0;have h2:=this.c1;exact⟨h1,by show (qz C (vars-v) v (sem ns h) (fun _=>false)).cost<=_;omega,fun hv=>by have:=this.it;rw[show v+(vars-v)=vars by omega] at this;exact this⟩
end
end Bd
end Go.Proofs.YtlmmkbnjhilbdaaGreatDoor
