import Derived.Test.YtoffdbflfikcoaaGreatDoorap
open Go.Proofs.Tryz Go.RowKit
namespace Go.Proofs.YtoffdbflfikcoaaGreatDoor
set_option maxHeartbeats 4000000
set_option maxRecDepth 100000
namespace Bd
open Go.Maps Go.Deep
theorem ziE{C:qx}{w:World}{dk vars:Nat}{ns:List Nd}{L:List (Int × Wy)}(hD:qm C w dk vars ns L){a:Int}(ha:I64 a)(ht:za ns a≠24)(hl:ns.length<=90000) :
  ∃w' L',(Instr.mapUpdate 213 (.map (some dk)) (.int .i64 a) (yv C vars ns a).val).run prog w=.ok () w'/\qm C w' dk vars ns L'/\zc (fun j=>j=dk) w w':=by
 have K:=hD.len;obtain⟨D,J,hR⟩:=hD.hmap
 by_cases hm:a∈L.map Prod.fst
 ·obtain⟨w',o,h1,h2⟩:=J.update Ya zt7 (by unfold maxLen;omega) (YD ha) (JP (yv C vars ns a));have hk:zc (fun k=>k=dk) w w':=zc.of_grown h2 (fun i h=>by cases h;rfl);have hR':Q6 (D.put (.int .i64 a) (yv C vars ns a).dat) (L.map fun q=>if q.1=a then (q.1,yv C vars ns a) else q):=Rep.put_over hR (fun a b _ _ e=>by injection e) (fun _=>trivial) _ hm;have u:(L.map fun q=>if q.1=a then (q.1,yv C vars ns a) else q).map Prod.fst=L.map Prod.fst:=by
   rw[List.map_map];apply List.map_congr_left;intro q _;simp only[Function.comp];split<;>rfl
  refine⟨w',_,o,⟨⟨_,hR'.size▸Z1 h1,hR'⟩,fun p hp=>?_,fun p hp=>?_,by rw[u];exact hD.nodup⟩,hk⟩
  ·obtain⟨q,hq,rfl⟩:=zrA.1 hp;split
   ·exact hD.keys q hq
   ·exact hD.keys q hq
  ·obtain⟨q,hq,rfl⟩:=zrA.1 hp;split
   ·rename_i e;rw[e]
   ·exact hD.vals q hq
 ·obtain⟨w',D',o,h1,h2,h3⟩:=zoK J hR (by omega) ha hm (yv C vars ns a);refine⟨w',_,o,⟨⟨D',h1,h2⟩,fun p hp=>?_,fun p hp=>?_,?_⟩,h3⟩
  ·rcases zro.1 hp with hp|hp
   ·exact hD.keys p hp
   ·rw[zra] at hp;subst hp;exact ht
  ·rcases zro.1 hp with hp|hp
   ·exact hD.vals p hp
   ·rw[zra] at hp;subst hp;rfl
  ·rw[zrv,zts];refine⟨hD.nodup,by simp,fun x hx y hy e=>?_⟩;simp at hy;subst hy;exact hm (e▸hx)
section
variable {W0:World} {B p s b:Nat} {O:Nat->Prop} {vars:Nat} {room:Int} {st:List Nd × Int} {F:FuncId} {cb:Array Value} {C:qx} {dk:Nat}
structure NS(C:qx)(W0 W:World)(p dk vars:Nat)(ns:List Nd)(F:FuncId)(cb:Array Value)(nb:Nat)(gv gl gh:Int)(X:World):Prop where
 w0:Blk X W.heap.size 215 #[.pointer (some p),.func (.func F) #[] cb,.map (some dk)]
 w1:Blk X (W.heap.size+1) 152 #[.int .u64 0,(0:Int),false]
 w2:Blk X nb 200 #[gv,gl,gh]
 q1:W.heap.size+1<nb
 dq:dk<W.heap.size
 bel:zB W0 X
 way:∃L',qm C X dk vars ns L'
 kep:zc (fun k=>k=dk) W X
variable {W X X':World} {ns:List Nd} {nb:Nat} {gv gl gh:Int}
theorem NS.kept(h:NS C W0 W p dk vars ns F cb nb gv gl gh X)(hd:W0.heap.size<=dk)(hk:zc (fun k=>k=dk) X X')(hw:∃L',qm C X' dk vars ns L'):NS C W0 W p dk vars ns F cb nb gv gl gh X':=by
 have h1:=h.q1;have h2:=h.dq;exact⟨h.w0.keptB hk (by omega),h.w1.keptB hk (by omega),h.w2.keptB hk (by omega),h1,h2,h.bel.trans (hk.below h.bel.size (fun i e=>by omega)),hw,h.kep.andThen hk (fun _ h _=>h)⟩
theorem NS.below(h:NS C W0 W p dk vars ns F cb nb gv gl gh X)(hb:zB X X'):NS C W0 W p dk vars ns F cb nb gv gl gh X':=by
 obtain⟨L',hL⟩:=h.way;exact⟨h.w0.below hb h.w0.lt,h.w1.below hb h.w1.lt,h.w2.below hb h.w2.lt,h.q1,h.dq,zT h.bel hb,⟨L',hL.new hb⟩,h.kep.andThen (zc.of_below hb (fun _=>False)) (fun _ h _=>h.elim)⟩
theorem NS.sc(h:NS C W0 W p dk vars ns F cb nb gv gl gh X):X.cell? W.heap.size=some (.pointer (some p))/\X.cell? ⟨W.heap.size,1,none⟩=some (.func (.func F) #[] cb)/\X.cell? ⟨W.heap.size,2,none⟩=some (.map (some dk))/\X.cell? nb=some (.int .i64 gv)/\X.cell? ⟨nb,1,none⟩=some (.int .i64 gl)/\X.cell? ⟨nb,2,none⟩=some (.int .i64 gh) :=
 ⟨h.w0.cell 0,h.w0.cell 1,h.w0.cell 2,h.w2.cell 0,h.w2.cell 1,h.w2.cell 2⟩
theorem NS.put(h:NS C W0 W p dk vars ns F cb nb gv gl gh X)(hW:W0.heap.size<=W.heap.size){q:Nat}(hq:W.heap.size+1<q)(hqn:q≠nb)(x y z:Value):NS C W0 W p dk vars ns F cb nb gv gl gh (((X.setCell q x).setCell ⟨q,1,none⟩ y).setCell ⟨q,2,none⟩ z):=by
 obtain⟨L',hL⟩:=h.way;have h2:=h.dq;have hk:zc (fun k=>k=q) X (((X.setCell q x).setCell ⟨q,1,none⟩ y).setCell ⟨q,2,none⟩ z) :=
  ((zc.setCell (S:=fun k=>k=q) X q _ rfl).andThen (zc.setCell (S:=fun k=>k=q) _ ⟨q,1,none⟩ _ rfl) (fun _ h _=>h)).andThen (zc.setCell (S:=fun k=>k=q) _ ⟨q,2,none⟩ _ rfl) (fun _ h _=>h)
 exact⟨h.w0.keptB hk (by omega),h.w1.keptB hk (by omega),h.w2.keptB hk (fun e=>hqn e.symm),h.q1,h2,h.bel.trans (hk.below h.bel.size (fun i e=>by omega)),⟨L',hL.kept hk (by omega)⟩,h.kep.andThen hk (fun i e hi=>by omega)⟩
theorem zcl(x:Wy)(hdq:dk<W.heap.size)(way:∃L',qm C X dk vars ns L')(kep:zc (fun k=>k=dk) W X) :
  ∃L',qm C (((X.setCell ⟨W.heap.size+1,0,none⟩ (.int .u64 x.items)).setCell ⟨W.heap.size+1,1,none⟩ (.int .i64 x.cost)).setCell ⟨W.heap.size+1,2,none⟩ (.bool x.can)) dk vars ns L'/\zc (fun k=>k=dk) W (((X.setCell ⟨W.heap.size+1,0,none⟩ (.int .u64 x.items)).setCell ⟨W.heap.size+1,1,none⟩ (.int .i64 x.cost)).setCell ⟨W.heap.size+1,2,none⟩ (.bool x.can)):=by
 obtain⟨L',hL⟩:=way;have hk:zc (fun k=>k=W.heap.size+1) X (((X.setCell ⟨W.heap.size+1,0,none⟩ (.int .u64 x.items)).setCell ⟨W.heap.size+1,1,none⟩ (.int .i64 x.cost)).setCell ⟨W.heap.size+1,2,none⟩ (.bool x.can)) :=
  ((zc.setCell (S:=fun k=>k=W.heap.size+1) X ⟨W.heap.size+1,0,none⟩ _ rfl).andThen (zc.setCell (S:=fun k=>k=W.heap.size+1) _ ⟨W.heap.size+1,1,none⟩ _ rfl) (fun _ h _=>h)).andThen (zc.setCell (S:=fun k=>k=W.heap.size+1) _ ⟨W.heap.size+1,2,none⟩ _ rfl) (fun _ h _=>h)
 exact⟨L',hL.kept hk (by omega),kep.andThen hk (fun i e hi=>by omega)⟩
theorem zay{h:Int}{L:List (Int × Wy)}{W:World}(hW:zB W0 W)(hM:qm C W dk vars st.1 L){w1:World}(hb1:Below ((W.alloc (.cells #[.pointer (some p),.func (.func F) #[] cb,.map (some dk)] 215)).alloc (.cells #[.int .u64 0,(0:Int),false] 152)).heap.size ((W.alloc (.cells #[.pointer (some p),.func (.func F) #[] cb,.map (some dk)] 215)).alloc (.cells #[.int .u64 0,(0:Int),false] 152)) w1) :
  NS C W0 W p dk vars st.1 F cb w1.heap.size (zo st.1 h).v (zo st.1 h).l (zo st.1 h).h (w1.alloc (.cells #[.int .i64 (zo st.1 h).v,.int .i64 (zo st.1 h).l,.int .i64 (zo st.1 h).h] 200)):=by
 have k0:=(Blk.new W 215 #[.pointer (some p),.func (.func F) #[] cb,.map (some dk)]).alloc (.cells #[.int .u64 0,(0:Int),false] 152);have k1:=Blk.new (W.alloc (.cells #[.pointer (some p),.func (.func F) #[] cb,.map (some dk)] 215)) 152 #[.int .u64 0,(0:Int),false];simp only[zc1] at k1;have q:zB W ((W.alloc (.cells #[.pointer (some p),.func (.func F) #[] cb,.map (some dk)] 215)).alloc (.cells #[.int .u64 0,(0:Int),false] 152)):=((zf0 _ W).alloc zN _).alloc (by simp only[zc1];omega) _;have hs:=hb1.size;simp only[zc1] at hs;have o:=Go.Proofs.YtoffdbflfikcoaaGreatDoor.below_new w1 (.cells #[.int .i64 (zo st.1 h).v,.int .i64 (zo st.1 h).l,.int .i64 (zo st.1 h).h] 200);have j:zB W (w1.alloc (.cells #[.int .i64 (zo st.1 h).v,.int .i64 (zo st.1 h).l,.int .i64 (zo st.1 h).h] 200)):=(zT q hb1).trans (o.mono (by omega));exact⟨(k0.below hb1 k0.lt).alloc _,(k1.below hb1 k1.lt).alloc _,Blk.new _ _ _,by omega,hM.lt,zT hW j,⟨L,hM.new j⟩,zc.of_below j _⟩
theorem ze6(cx:Yh W0 B p s b O vars room st F cb C dk)(h:Int)(L:List (Int × Wy))(W:World)(hW:zB W0 W)(hM:qm C W dk vars st.1 L)(hh:zh st.1 h=true)(ht:za st.1 h=24) :
  zC 167 #[wkV p F cb dk,h] W (Yx C dk vars st.1 (yv C vars st.1 h) W):=by
 have J:=y7 hh (by have:=cx.len;omega);have M:zB W ((W.alloc (.cells #[.pointer (some p),.func (.func F) #[] cb,.map (some dk)] 215)).alloc (.cells #[.int .u64 0,(0:Int),false] 152)):=((zf0 _ W).alloc zN _).alloc (by simp only[zc1];omega) _;have j:=cx.sol.new (zT hW M);have k0:=(Blk.new W 215 #[.pointer (some p),.func (.func F) #[] cb,.map (some dk)]).alloc (.cells #[.int .u64 0,(0:Int),false] 152);have HG:=zH (YF j.space h J (by have:=cx.len;omega));have K:Hid (∀w1,Below ((W.alloc (.cells #[.pointer (some p),.func (.func F) #[] cb,.map (some dk)] 215)).alloc (.cells #[.int .u64 0,(0:Int),false] 152)).heap.size ((W.alloc (.cells #[.pointer (some p),.func (.func F) #[] cb,.map (some dk)] 215)).alloc (.cells #[.int .u64 0,(0:Int),false] 152)) w1->NS C W0 W p dk vars st.1 F cb w1.heap.size (zo st.1 h).v (zo st.1 h).l (zo st.1 h).h (w1.alloc (.cells #[.int .i64 (zo st.1 h).v,.int .i64 (zo st.1 h).l,.int .i64 (zo st.1 h).h] 200))):=fun w1 u=>zay hW hM u;have c0:=k0.cell 0;have c1:((W.alloc (.cells #[.pointer (some p),.func (.func F) #[] cb,.map (some dk)] 215)).alloc (.cells #[.int .u64 0,(0:Int),false] 152)).cell? p=some (.pointer (some s)):=j.blk.cell 0;have c2:((W.alloc (.cells #[.pointer (some p),.func (.func F) #[] cb,.map (some dk)] 215)).alloc (.cells #[.int .u64 0,(0:Int),false] 152)).cell? s=some (.pointer (some b)):=j.space.c0;have V:=zH cx;have U:=cx.dkl;have R:=hM.lt;have Y:=hW.size;unfold Nd.val at HG;have hR:yv C vars st.1 h=⟨0,0,decide (h=1)⟩:=zh2 hh ht cx.v24;rw[zf5 (show ¬za st.1 h≠24 from fun e=>e ht)] at HG;have HR:=zH hR;clear hM j hR ht;unfold wkV;go_enter func167,ntmps167;go_upto_region 1 with fail;generalize (W.alloc (.cells #[.pointer (some p),.func (.func F) #[] cb,.map (some dk)] 215)).alloc (.cells #[.int .u64 0,(0:Int),false] 152)=WA at *;go_wp2_with fail;refine HG.out.mono ?_;rintro e w1 ⟨rfl,u⟩;have o:=K.out w1 u;have z0:=o.w1.cell 0;have z1:=o.w1.cell 1;have z2:=o.w1.cell 2;have y0:=o.w1.frozen 0;have y1:=o.w1.frozen 1;have y2:=o.w1.frozen 2;have q:=set3 o.w1 (.int .u64 0) (.int .i64 0) (.bool (h==1));have r0:=q.cell 0;have r1:=q.cell 1;have r2:=q.cell 2;have y:=zH (zcl ⟨0,0,h==1⟩ R o.way o.kep);clear q o u HG K c0 c1 c2 M k0;go_wp2;refine zc4 (v:=.agg #[.int .u64 0,(0:Int),.bool (h==1)]) (by simp[results,Tryz.f167,go_sem,r0,r1,r2]) rfl ?_;exact⟨by rw[HR.out];rfl,y.out⟩
theorem zlk(cx:Yh W0 B p s b O vars room st F cb C dk)(h:Int)(L:List (Int × Wy))(W:World)(hW:zB W0 W)(hM:qm C W dk vars st.1 L)(hh:zh st.1 h=true)(ht:za st.1 h≠24)(R:Wy)(hin:(h,R)∈L) :
  zC 167 #[wkV p F cb dk,.int .i64 h] W (Yx C dk vars st.1 (yv C vars st.1 h) W):=by
 have K:=y7 hh (by have:=cx.len;omega);have y:zB W ((W.alloc (.cells #[.pointer (some p),.func (.func F) #[] cb,.map (some dk)] 215)).alloc (.cells #[.int .u64 0,(0:Int),false] 152)):=((zf0 _ W).alloc zN _).alloc (by simp only[zc1];omega) _;have j:=cx.sol.new (zT hW y);have k0:=(Blk.new W 215 #[.pointer (some p),.func (.func F) #[] cb,.map (some dk)]).alloc (.cells #[.int .u64 0,(0:Int),false] 152);have HG:=zH (YF j.space h K (by have:=cx.len;omega));have U:Hid (∀w1,Below ((W.alloc (.cells #[.pointer (some p),.func (.func F) #[] cb,.map (some dk)] 215)).alloc (.cells #[.int .u64 0,(0:Int),false] 152)).heap.size ((W.alloc (.cells #[.pointer (some p),.func (.func F) #[] cb,.map (some dk)] 215)).alloc (.cells #[.int .u64 0,(0:Int),false] 152)) w1->NS C W0 W p dk vars st.1 F cb w1.heap.size (zo st.1 h).v (zo st.1 h).l (zo st.1 h).h (w1.alloc (.cells #[.int .i64 (zo st.1 h).v,.int .i64 (zo st.1 h).l,.int .i64 (zo st.1 h).h] 200))):=fun w1 u=>zay hW hM u;have c0:=k0.cell 0;have c1:((W.alloc (.cells #[.pointer (some p),.func (.func F) #[] cb,.map (some dk)] 215)).alloc (.cells #[.int .u64 0,(0:Int),false] 152)).cell? p=some (.pointer (some s)):=j.blk.cell 0;have c2:((W.alloc (.cells #[.pointer (some p),.func (.func F) #[] cb,.map (some dk)] 215)).alloc (.cells #[.int .u64 0,(0:Int),false] 152)).cell? s=some (.pointer (some b)):=j.space.c0;have a4:=zH cx;have a1:=cx.dkl;have a0:=hM.lt;have a5:=hW.size;unfold Nd.val at HG;have hR:yv C vars st.1 h=R:=(hM.vals _ hin).symm;rw[zq9 ht] at HG;have HR:=zH hR;have V:Hid (∀X,zc (fun k=>False) W X->(Instr.lookup 213 (.map (some dk)) (.int .i64 h) true).run prog X=.ok (.tuple #[R.val,true]) X):=fun X hk=>by
  obtain⟨D,hD,Z⟩:=(hM.kept hk (fun h=>h)).hmap;exact zj0 hD Z hin
 clear hM j hR;unfold wkV;go_enter func167,ntmps167;go_upto_region 1 with fail;generalize (W.alloc (.cells #[.pointer (some p),.func (.func F) #[] cb,.map (some dk)] 215)).alloc (.cells #[.int .u64 0,(0:Int),false] 152)=WA at *;go_wp2_with fail;refine HG.out.mono ?_;rintro e w1 ⟨rfl,u⟩;have M:=U.out w1 u;have Y:zc (fun _=>False) W (w1.alloc (.cells #[.int .i64 (zo st.1 h).v,.int .i64 (zo st.1 h).l,.int .i64 (zo st.1 h).h] 200)):=zc.of_below ((zT y u).alloc (zf1 y.size u.size) _) _;have a3:=V.out _ Y;have a2:=M.w0.cell 2;generalize zo st.1 h=gt at *;go_upto_region 2 with fail;generalize w1.alloc (.cells #[gt.v,gt.l,gt.h] 200)=W2 at *;unfold Wy.val at a3;have o:=M.below (Go.Proofs.YtoffdbflfikcoaaGreatDoor.below_new W2 (.cells #[.int .u64 R.items,R.cost,R.can] 152));have z0:=o.w1.cell 0;have z1:=o.w1.cell 1;have z2:=o.w1.cell 2;have y0:=o.w1.frozen 0;have y1:=o.w1.frozen 1;have y2:=o.w1.frozen 2;have q:=set3 o.w1 (.int .u64 R.items) (.int .i64 R.cost) (.bool R.can);have r0:=q.cell 0;have r1:=q.cell 1;have r2:=q.cell 2;have J:=zH (zcl R a0 o.way o.kep);clear q M o u HG U V c0 c1 c2 y k0 Y;go_wp2;refine zc4 (v:=.agg #[.int .u64 R.items,R.cost,R.can]) (by simp[results,Tryz.f167,go_sem,r0,r1,r2]) rfl ?_;exact⟨by rw[HR.out];rfl,J.out⟩
end
end Bd
namespace Bd
open Go.Maps Go.Deep
section
variable {W0:World} {B p s b:Nat} {O:Nat->Prop} {vars:Nat} {room:Int} {st:List Nd × Int} {F:FuncId} {cb:Array Value} {C:qx} {dk:Nat} {W X X':World} {ns:List Nd} {nb:Nat} {gv gl gh:Int}
structure NQ(C:qx)(W0 W:World)(p dk vars:Nat)(ns:List Nd)(F:FuncId)(cb:Array Value)(nb:Nat)(gv gl gh:Int)(q:Nat)(x:Wy)(X:World):Prop where
 ns:NS C W0 W p dk vars ns F cb nb gv gl gh X
 bx:Blk X q 152 #[.int .u64 x.items,x.cost,x.can]
 q1:W.heap.size+1<q
 qn:q≠nb
theorem NS.box(h:NS C W0 W p dk vars ns F cb nb gv gl gh X)(x:Wy):NQ C W0 W p dk vars ns F cb nb gv gl gh X.heap.size x (X.alloc (.cells #[.int .u64 x.items,x.cost,x.can] 152)) :=
 ⟨h.below (Go.Proofs.YtoffdbflfikcoaaGreatDoor.below_new X _),Blk.new _ _ _,by have:=h.w1.lt;have:=h.q1;have:=h.w2.lt;omega,by have:=h.w2.lt;omega⟩
theorem NS.box0(h:NS C W0 W p dk vars ns F cb nb gv gl gh X):NQ C W0 W p dk vars ns F cb nb gv gl gh X.heap.size ⟨0,0,false⟩ (X.alloc (.cells #[.int .u64 0,(0:Int),false] 152)):=h.box ⟨0,0,false⟩
theorem NQ.kept{q:Nat}{x:Wy}(h:NQ C W0 W p dk vars ns F cb nb gv gl gh q x X)(hd:W0.heap.size<=dk)(hk:zc (fun k=>k=dk) X X')(hw:∃L',qm C X' dk vars ns L'):NQ C W0 W p dk vars ns F cb nb gv gl gh q x X' :=
 ⟨h.ns.kept hd hk hw,h.bx.keptB hk (by have:=h.q1;have:=h.ns.dq;omega),h.q1,h.qn⟩
theorem NQ.below{q:Nat}{x:Wy}(h:NQ C W0 W p dk vars ns F cb nb gv gl gh q x X)(hb:zB X X'):NQ C W0 W p dk vars ns F cb nb gv gl gh q x X':=⟨h.ns.below hb,h.bx.below hb h.bx.lt,h.q1,h.qn⟩
theorem NQ.put{q:Nat}{x:Wy}(h:NQ C W0 W p dk vars ns F cb nb gv gl gh q x X)(hW:W0.heap.size<=W.heap.size)(y:Wy):NQ C W0 W p dk vars ns F cb nb gv gl gh q y (((X.setCell q (.int .u64 y.items)).setCell ⟨q,1,none⟩ (.int .i64 y.cost)).setCell ⟨q,2,none⟩ (.bool y.can)) :=
 ⟨h.ns.put hW h.q1 h.qn _ _ _,set3 h.bx _ _ _,h.q1,h.qn⟩
def ziC(C:qx)(W0 W:World)(p dk vars:Nat)(ns:List Nd)(F:FuncId)(cb:Array Value)(nb:Nat)(gv gl gh:Int)(x:Wy)(qv:Value)(X:World):Prop:=∃q,qv=.pointer (some ⟨q,0,none⟩)/\NQ C W0 W p dk vars ns F cb nb gv gl gh q x X
theorem zpZ(cx:Yh W0 B p s b O vars room st F cb C dk){d:Nat}(hF:zdP W0 p vars st.1 F cb C dk d)(h:Int)(L:List (Int × Wy))(W:World)(hW:zB W0 W)(hM:qm C W dk vars st.1 L)(hh:zh st.1 h=true)(ht:za st.1 h≠24)(hd:24<=za st.1 h+((d+1:Nat):Int))(hnin:h∉L.map Prod.fst) :
  zC 167 #[wkV p F cb dk,.int .i64 h] W (Yx C dk vars st.1 (yv C vars st.1 h) W):=by
 have a3:=y7 hh (by have:=cx.len;omega);have a9:zB W ((W.alloc (.cells #[.pointer (some p),.func (.func F) #[] cb,.map (some dk)] 215)).alloc (.cells #[.int .u64 0,(0:Int),false] 152)):=((zf0 _ W).alloc zN _).alloc (by simp only[zc1];omega) _;have o:=cx.sol.new (zT hW a9);have k0:=(Blk.new W 215 #[.pointer (some p),.func (.func F) #[] cb,.map (some dk)]).alloc (.cells #[.int .u64 0,(0:Int),false] 152);have HG:=zH (YF o.space h a3 (by have:=cx.len;omega));have ae:Hid (∀w1,Below ((W.alloc (.cells #[.pointer (some p),.func (.func F) #[] cb,.map (some dk)] 215)).alloc (.cells #[.int .u64 0,(0:Int),false] 152)).heap.size ((W.alloc (.cells #[.pointer (some p),.func (.func F) #[] cb,.map (some dk)] 215)).alloc (.cells #[.int .u64 0,(0:Int),false] 152)) w1->NS C W0 W p dk vars st.1 F cb w1.heap.size (zo st.1 h).v (zo st.1 h).l (zo st.1 h).h (w1.alloc (.cells #[.int .i64 (zo st.1 h).v,.int .i64 (zo st.1 h).l,.int .i64 (zo st.1 h).h] 200))):=fun w1 a4=>zay hW hM a4;have c0:=k0.cell 0;have c1:((W.alloc (.cells #[.pointer (some p),.func (.func F) #[] cb,.map (some dk)] 215)).alloc (.cells #[.int .u64 0,(0:Int),false] 152)).cell? p=some (.pointer (some s)):=o.blk.cell 0;have c2:((W.alloc (.cells #[.pointer (some p),.func (.func F) #[] cb,.map (some dk)] 215)).alloc (.cells #[.int .u64 0,(0:Int),false] 152)).cell? s=some (.pointer (some b)):=o.space.c0;have y:=cx.dkl;have ar:=hM.lt;have a8:=hW.size;have V:=cx.v24;unfold Nd.val at HG;rw[zq9 ht] at HG;have hr:=cx.good.ranked;have ah:=zce ht;obtain⟨t1,t2,t3,t4⟩:=Zh hr ht;have tv:=(xo ht).2.2.1;have an:=YW hr ht;have ax:=(qe hr h).1;have av:=Xb cx.good ht;have a6:=zl8 (C:=C) cx.good ht;rw[<-ah] at t1 t2 t3 t4 tv a6;obtain⟨v,hv⟩:∃v:Nat,za st.1 h=(v:Int):=⟨(za st.1 h).toNat,by omega⟩;rw[hv] at t1 t3 tv a6 hd an av;rw[zrh] at a6;have M:Hid (∀X,(∃L',qm C X dk vars st.1 L')->∃w' L',(Instr.mapUpdate 213 (.map (some dk)) (.int .i64 h) (yv C vars st.1 h).val).run prog X=.ok () w'/\qm C w' dk vars st.1 L'/\zc (fun j=>j=dk) X w'):=fun X ⟨L',hL⟩=>ziE hL a3 ht cx.len;have af:Hid (∀X,zc (fun _=>False) W X->(Instr.lookup 213 (.map (some dk)) (.int .i64 h) true).run prog X=.ok (.tuple #[Wy.val ⟨0,0,false⟩,false]) X):=fun X hk=>by
  obtain⟨D,hD,aq⟩:=(hM.kept hk (fun h=>h)).hmap;exact zng hD aq a3 hnin
 have oA:=J3 (ns:=st.1) cx.cok V (zo st.1 h).l (v+1);have oB:=J3 (ns:=st.1) cx.cok V (zo st.1 h).h (v+1);have ad:2^vars<=2^24:=zrt (by omega) V;have a1:Hid (∀X,zB W0 X->(∃L',qm C X dk vars st.1 L')->zC 115 #[wkV p F cb dk,.int .i64 ((v:Int)+1),.int .i64 (zo st.1 h).l] X fun e w'=>e=.returned (qd C vars st.1 (zo st.1 h).l (v+1)).val/\∃L',qm C w' dk vars st.1 L'/\zc (fun k=>k=dk) X w'):=fun X h1 ⟨L',h2⟩=>hF (zo st.1 h).l (v+1) L' X h1 h2 t2 (by omega) (by omega) (by omega);have K:Hid (∀X,zB W0 X->(∃L',qm C X dk vars st.1 L')->zC 115 #[wkV p F cb dk,.int .i64 ((v:Int)+1),.int .i64 (zo st.1 h).h] X fun e w'=>e=.returned (qd C vars st.1 (zo st.1 h).h (v+1)).val/\∃L',qm C w' dk vars st.1 L'/\zc (fun k=>k=dk) X w'):=fun X h1 ⟨L',h2⟩=>hF (zo st.1 h).h (v+1) L' X h1 h2 t4 (by omega) (by omega) (by omega);have J:Hid (∀X,zB W0 X->zC 168 #[wkV p F cb dk,v,(qd C vars st.1 (zo st.1 h).l (v+1)).val,(qd C vars st.1 (zo st.1 h).h (v+1)).val] X fun e w'=>e=.returned (yv C vars st.1 h).val/\zB X w'):=fun X hX=>by
  rw[a6];exact zfc F cb C vars V cx.ent cx.cok cx.cat hX p dk v (by omega) _ _ ⟨oA.1,oA.2.1⟩ ⟨oB.1,oB.2.1⟩ (zc6 (oB.2.2 (by omega)) ad)
 generalize qd C vars st.1 (zo st.1 h).l (v+1)=RA at *;generalize qd C vars st.1 (zo st.1 h).h (v+1)=RB at *;generalize zo st.1 h=gt at *;obtain⟨gv,gl,gh⟩:=gt;simp only at *;subst tv;obtain⟨R,hR⟩:∃R,yv C vars st.1 h=R:=⟨_,rfl⟩;rw[hR] at M J ⊢;clear hM o hR a6 t1 t2 t3 t4 ah oA oB hF an hr hv hd cx;unfold wkV at *;go_enter func167,ntmps167;go_upto_region 1 with fail;generalize (W.alloc (.cells #[.pointer (some p),.func (.func F) #[] cb,.map (some dk)] 215)).alloc (.cells #[.int .u64 0,(0:Int),false] 152)=WA at *;go_wp2_with fail;refine HG.out.mono ?_;rintro e w1 ⟨rfl,a4⟩;have ac:=ae.out w1 a4;have ai:zc (fun _=>False) W (w1.alloc (.cells #[v,gl,gh] 200)):=zc.of_below ((zT a9 a4).alloc (zf1 a9.size a4.size) _) _;have ak:=af.out _ ai;unfold Wy.val at ak;have a2:=ac.w0.cell 2;go_upto_region 2 with fail;generalize w1.alloc (.cells #[v,gl,gh] 200)=W2 at *;have am:=ac.below (Go.Proofs.YtoffdbflfikcoaaGreatDoor.below_new W2 (.cells #[.int .u64 ((0:Nat):Int),(0:Int),false] 152));clear ac a4 HG ae af c0 c1 c2 a9 k0 ai;go_upto_region 7 with fail;unfold Wy.val at a1 K J M;have ab:NS C W0 W p dk vars st.1 F cb w1.heap.size v gl gh (W2.alloc (.cells #[.int .u64 0,(0:Int),false] 152)):=am;generalize W2.alloc (.cells #[.int .u64 0,(0:Int),false] 152)=W3 at *;have N0:=ab.below (zf0 _ W3).drew;have G0:=(ab.box0).below zF.drew;have s0:=N0.sc;have t0:=G0.ns.sc;have ay:(0:Int)<=v:=by omega
 have aw:(v:Int)+1<=24:=by omega
 clear am ab ak a2;generalize w1.heap.size=nb at *;have ao:IntKind.i64.wrap ((v:Int)+1)=(v:Int)+1:=by rw[zrl];omega
 rw[<-ao] at a1 K;clear ao;go_cut [9] (fun qv wx=>ziC C W0 W p dk vars st.1 F cb nb v gl gh R qv wx)
 case rest =>obtain⟨q,rfl,hE⟩:=hcut;clear N0 G0 s0 t0 a1 K J;obtain⟨w8,L8,au,ag,aj⟩:=M.out _ hE.ns.way;have u:=hE.kept y aj ⟨L8,ag⟩;have a2:=hE.ns.w0.cell 2;have e0:=hE.bx.cell 0;have e1:=hE.bx.cell 1;have e2:=hE.bx.cell 2;have f0:=u.bx.cell 0;have f1:=u.bx.cell 1;have f2:=u.bx.cell 2;have z0:=u.ns.w1.cell 0;have z1:=u.ns.w1.cell 1;have z2:=u.ns.w1.cell 2;have y0:=u.ns.w1.frozen 0;have y1:=u.ns.w1.frozen 1;have y2:=u.ns.w1.frozen 2;have U:=set3 u.ns.w1 (.int .u64 R.items) (.int .i64 R.cost) (.bool R.can);have r0:=U.cell 0;have r1:=U.cell 1;have r2:=U.cell 2;have aa:=zH (zcl R ar u.ns.way u.ns.kep);clear U hE u ag aj M;go_wp2;refine zc4 (v:=.agg #[.int .u64 R.items,R.cost,R.can]) (by simp[results,Tryz.f167,go_sem,r0,r1,r2]) rfl ?_;exact⟨rfl,aa.out⟩
 go_region_held3 (fun X=>X.cell? W.heap.size=some (.pointer (some p))/\X.cell? ⟨W.heap.size,1,none⟩=some (.func (.func F) #[] cb)/\X.cell? ⟨W.heap.size,2,none⟩=some (.map (some dk))/\X.cell? nb=some (.int .i64 v)/\X.cell? ⟨nb,1,none⟩=some (.int .i64 gl)/\X.cell? ⟨nb,2,none⟩=some (.int .i64 gh)) (first|with_reducible exact s0|with_reducible exact t0|with_reducible exact s1|with_reducible exact t1|with_reducible exact u1|with_reducible exact s2|with_reducible exact t2|with_reducible exact u2|with_reducible exact s3|with_reducible exact t3|with_reducible exact u3|with_reducible exact x3)
  (first
   |(go_at_call 115;with_reducible refine(a1.out _ N0.bel N0.way).mono ?_;rintro e w4 ⟨rfl,L4,a5,a7⟩;have N1:=N0.kept y a7 ⟨L4,a5⟩;have G1:=N1.box0;have s1:=N1.sc;have t1:=G1.ns.sc;clear a5 a7 N0 G0 s0 t0 a1)
   |(go_at_call 115;with_reducible refine(a1.out _ G0.ns.bel G0.ns.way).mono ?_;rintro e w4 ⟨rfl,L4,a5,a7⟩;have U1:=G0.kept y a7 ⟨L4,a5⟩;have u1:=U1.ns.sc;clear a5 a7 N0 G0 s0 t0 a1)
   |(go_at_call 115;with_reducible refine(K.out _ N1.bel N1.way).mono ?_;rintro e w5 ⟨rfl,L5,Y,a0⟩;have N2:=N1.kept y a0 ⟨L5,Y⟩;have G2:=N2.box0;have s2:=N2.sc;have t2:=G2.ns.sc;clear Y a0 N1 G1 s1 t1 K)
   |(go_at_call 115;with_reducible refine(K.out _ G1.ns.bel G1.ns.way).mono ?_;rintro e w5 ⟨rfl,L5,Y,a0⟩;have U2:=G1.kept y a0 ⟨L5,Y⟩;have u2:=U2.ns.sc;clear Y a0 N1 G1 s1 t1 K)
   |(go_at_call 115;with_reducible refine(K.out _ U1.ns.bel U1.ns.way).mono ?_;rintro e w5 ⟨rfl,L5,Y,a0⟩;have U2:=U1.kept y a0 ⟨L5,Y⟩;have u2:=U2.ns.sc;clear Y a0 U1 u1 K)
   |(go_at_call 168;with_reducible refine(J.out _ N2.bel).mono ?_;rintro e w6 ⟨rfl,Z⟩;have N3':=N2.below Z;have N3:=N3'.box0;have s3:=N3'.sc;have t3:=N3.ns.sc;have z0:=N3.bx.cell 0;have z1:=N3.bx.cell 1;have z2:=N3.bx.cell 2;have y0:=N3.bx.frozen 0;have y1:=N3.bx.frozen 1;have y2:=N3.bx.frozen 2;have NE:=N3'.box R;have x3:=NE.ns.sc;have HE:=zH NE;clear Z N3 N3' NE N2 G2 s2 t2 J)
   |(go_at_call 168;with_reducible refine(J.out _ G2.ns.bel).mono ?_;rintro e w6 ⟨rfl,Z⟩;have N3:=G2.below Z;have s3:=N3.ns.sc;have t3:=(N3.put a8 R).ns.sc;have z0:=N3.bx.cell 0;have z1:=N3.bx.cell 1;have z2:=N3.bx.cell 2;have y0:=N3.bx.frozen 0;have y1:=N3.bx.frozen 1;have y2:=N3.bx.frozen 2;have HE:=zH (N3.put a8 R);clear Z N3 N2 G2 s2 t2 J)
   | (go_at_call 168;with_reducible refine (J.out _ U2.ns.bel).mono ?_;rintro e w6 ⟨rfl,Z⟩;have N3:=U2.below Z;have s3:=N3.ns.sc;have t3:=(N3.put a8 R).ns.sc;have z0:=N3.bx.cell 0;have z1:=N3.bx.cell 1;have z2:=N3.bx.cell 2;have y0:=N3.bx.frozen 0;have y1:=N3.bx.frozen 1;have y2:=N3.bx.frozen 2;have HE:=zH (N3.put a8 R);clear Z N3 U2 u2 J))
 all_goals
  have hE:=HE.out;clear HE
  try clear z0 z1 z2
  try clear y0 y1 y2
  try clear s3 t3
  try clear x3
  go_wp2_with fail;go_meet
  case rel=>exact⟨_,rfl,hE⟩
end
end Bd
namespace Bd
open Go.Maps Go.Deep
section
variable {W0:World} {B p s b:Nat} {O:Nat->Prop} {vars:Nat} {room:Int} {st:List Nd × Int} {F:FuncId} {cb:Array Value} {C:qx} {dk:Nat}
theorem ziS(cx:Yh W0 B p s b O vars room st F cb C dk):∀d,zed W0 p vars st.1 F cb C dk d:=by
 intro d
 induction d with
 |zero=>exact fun h L W hW hM hh hd=>ze6 cx h L W hW hM hh (by have:=(qe cx.good.ranked h).2;omega)
 |succ d ih =>
  intro h L W hW hM hh hd
  by_cases ht:za st.1 h=24
  ·exact ze6 cx h L W hW hM hh ht
  ·by_cases hin:h∈L.map Prod.fst
   ·obtain⟨q,hq,rfl⟩:=zrA.1 hin;exact zlk cx q.1 L W hW hM hh ht q.2 hq
   ·exact zpZ cx (zeL cx ih) h L W hW hM hh ht hd hin
theorem zly(cx:Yh W0 B p s b O vars room st F cb C dk)(h:Int)(v:Nat)(L:List (Int × Wy))(W:World)(hW:zB W0 W)(hM:qm C W dk vars st.1 L)(hh:zh st.1 h=true)(hv:(v:Int)<=za st.1 h)(hvv:v<=vars):zC 115 #[wkV p F cb dk,v,h] W (Yx C dk vars st.1 (qd C vars st.1 h v) W) :=
 zeL cx (ziS cx 24) h v L W hW hM hh hv hvv (by have:=(qe cx.good.ranked h).1;omega)
theorem zkk{w:World}(hsol:Zo B w p s b O vars room st)(hg:zG vars st.1)(hl:st.1.length<=90000)(h24:vars<=24)(hent:∀u w,(callFunc F u).run prog w=.ok (.enter F u) w)(hcok:QZ C)(hcat:Ys w F cb C vars)(hh:zh st.1 st.2=true) :
  zC 70 #[.pointer (some ⟨p,0,none⟩),.func (.func F) #[] cb] w fun e w'=>e=.returned (qd C vars st.1 st.2 0).val/\zB w w':=by
 have s1:(w.alloc (.cells #[.int .u64 0,(0:Int),false] 152)).heap.size=w.heap.size+1:=by simp
 have s2:((w.alloc (.cells #[.int .u64 0,(0:Int),false] 152)).alloc (.map #[] 0)).heap.size=w.heap.size+1+1:=by rw[zc1,s1]
 have M:=Go.Proofs.YtoffdbflfikcoaaGreatDoor.below_new w (.cells #[.int .u64 0,(0:Int),false] 152);have U:=M.alloc M.size (.map #[] 0);have y:=U.alloc U.size (.cells #[.pointer (some ⟨p,0,none⟩),.func (.func F) #[] cb,.map (some (w.heap.size+1))] 215);have q:=World.ownsMap_made (w.alloc (.cells #[.int .u64 0,(0:Int),false] 152)) prog 3 Qo;rw[s1] at q;have a3:qm C ((w.alloc (.cells #[.int .u64 0,(0:Int),false] 152)).alloc (.map #[] 0)) (w.heap.size+1) vars st.1 []:=⟨⟨_,q,Rep.empty⟩,(fun p hp=>by cases hp),(fun p hp=>by cases hp),by simp⟩;have hM:=(a3.new (Go.Proofs.YtoffdbflfikcoaaGreatDoor.below_new _ (.cells #[.pointer (some ⟨p,0,none⟩),.func (.func F) #[] cb,.map (some (w.heap.size+1))] 215))).new zF.drew;have cx:Yh w B p s b O vars room st F cb C (w.heap.size+1):=⟨hsol,hg,hl,h24,hent,hcok,hcat,by omega⟩;have a5:Hid (zC 115 #[.agg #[.pointer (some ⟨p,0,none⟩),.func (.func F) #[] cb,.map (some (w.heap.size+1))],(0:Int),st.2] (((w.alloc (.cells #[.int .u64 0,(0:Int),false] 152)).alloc (.map #[] 0)).alloc (.cells #[.pointer (some ⟨p,0,none⟩),.func (.func F) #[] cb,.map (some (w.heap.size+1))] 215)).drew fun e w'=>e=.returned (qd C vars st.1 st.2 0).val/\∃L',qm C w' (w.heap.size+1) vars st.1 L'/\zc (fun k=>k=w.heap.size+1) (((w.alloc (.cells #[.int .u64 0,(0:Int),false] 152)).alloc (.map #[] 0)).alloc (.cells #[.pointer (some ⟨p,0,none⟩),.func (.func F) #[] cb,.map (some (w.heap.size+1))] 215)).drew w'):=zly cx st.2 0 [] _ y.drew hM hh (qe hg.ranked st.2).1 (zf6 _);have k0:=((Blk.new w 152 #[.int .u64 0,(0:Int),false]).alloc (.map #[] 0)).alloc (.cells #[.pointer (some ⟨p,0,none⟩),.func (.func F) #[] cb,.map (some (w.heap.size+1))] 215);have a4:Blk (((w.alloc (.cells #[.int .u64 0,(0:Int),false] 152)).alloc (.map #[] 0)).alloc (.cells #[.pointer (some ⟨p,0,none⟩),.func (.func F) #[] cb,.map (some (w.heap.size+1))] 215)).drew w.heap.size 152 #[.int .u64 0,(0:Int),false]:=k0.below zF.drew k0.lt;have k1:=Blk.new ((w.alloc (.cells #[.int .u64 0,(0:Int),false] 152)).alloc (.map #[] 0)) 215 #[.pointer (some ⟨p,0,none⟩),.func (.func F) #[] cb,.map (some (w.heap.size+1))];rw[s2] at k1;have cp:=(hsol.new y).blk.cell 1;have Y:=zH (k1.below zF.drew k1.lt);have Z:=zH ((hsol.new y).new zF.drew).blk;have aa:=hsol.blk.lt;have a0:=k1.cell 0;have a1:=k1.cell 1;have a2:=k1.cell 2;have ab:=@run_makeMap prog;have ac:(store ⟨w.heap.size+1+1,1,none⟩ (Value.func (Fn.func F) #[] cb)).run prog (((w.alloc (.cells #[.int .u64 0,(0:Int),false] 152)).alloc (.map #[] 0)).alloc (.cells #[.pointer (some ⟨p,0,none⟩),.nilFunc,.map none] 215))=.ok () (((w.alloc (.cells #[.int .u64 0,(0:Int),false] 152)).alloc (.map #[] 0)).alloc (.cells #[.pointer (some ⟨p,0,none⟩),.func (.func F) #[] cb,.map none] 215)):=by
  have kz:=Blk.new ((w.alloc (.cells #[.int .u64 0,(0:Int),false] 152)).alloc (.map #[] 0)) 215 #[.pointer (some ⟨p,0,none⟩),.nilFunc,.map none];rw[s2] at kz;have c1:(((w.alloc (.cells #[.int .u64 0,(0:Int),false] 152)).alloc (.map #[] 0)).alloc (.cells #[.pointer (some ⟨p,0,none⟩),.nilFunc,.map none] 215)).cell? ⟨w.heap.size+1+1,1,none⟩=some .nilFunc:=kz.cell 1;rw[run_store _ _ _ _ _ (by rfl),c1,kz.frozen 1];exact zsj (fun X=>Result.ok () X) (World.setCell_alloc_at _ _ _ _ _ s2.symm)
 have V:=zH y;have a6:=zH a4;clear hM a3 q cx M U y k0 a4 k1 hsol hg hcat hent hcok;generalize qd C vars st.1 st.2 0=R at *;go_enter func70,ntmps70;go_upto_region 2 with fail;generalize ((w.alloc (.cells #[.int .u64 0,(0:Int),false] 152)).alloc (.map #[] 0)).alloc (.cells #[.pointer (some ⟨p,0,none⟩),.func (.func F) #[] cb,.map (some (w.heap.size+1))] 215)=WA at *;have S0:WA.drew.cell? ⟨w.heap.size+1+1,0,none⟩=some (.pointer (some ⟨p,0,none⟩))/\WA.drew.cell? ⟨w.heap.size+1+1,1,none⟩=some (.func (.func F) #[] cb)/\WA.drew.cell? ⟨w.heap.size+1+1,2,none⟩=some (.map (some (w.heap.size+1)))/\WA.drew.cell? ⟨p,1,none⟩=some (.int .i64 st.2):=⟨a0,a1,a2,cp⟩;have SK:Hid (∀X,zc (fun k=>k=w.heap.size+1\/k=w.heap.size) WA.drew X->X.cell? ⟨w.heap.size+1+1,0,none⟩=some (.pointer (some ⟨p,0,none⟩))/\X.cell? ⟨w.heap.size+1+1,1,none⟩=some (.func (.func F) #[] cb)/\X.cell? ⟨w.heap.size+1+1,2,none⟩=some (.map (some (w.heap.size+1)))/\X.cell? ⟨p,1,none⟩=some (.int .i64 st.2)):=fun X hk=>by
  have k3:=Y.out.keptB hk (by omega);have k4:=Z.out.keptB hk (by omega);exact⟨k3.cell 0,k3.cell 1,k3.cell 2,k4.cell 1⟩
 have a7:Hid (∀X,zc (fun k=>k=w.heap.size+1) WA.drew X->zc (fun k=>k=w.heap.size+1\/k=w.heap.size) WA.drew (((X.setCell w (.int .u64 R.items)).setCell ⟨w.heap.size,1,none⟩ (.int .i64 R.cost)).setCell ⟨w.heap.size,2,none⟩ (.bool R.can))):=fun X hk =>
  ((((zc.refl (fun k=>k=w.heap.size+1\/k=w.heap.size) WA.drew).andThen hk (fun _ h _=>Or.inl h)).andThen (zc.setCell (S:=fun k=>k=w.heap.size) X w.heap.size _ rfl) (fun _ h _=>Or.inr h)).andThen (zc.setCell (S:=fun k=>k=w.heap.size) _ ⟨w.heap.size,1,none⟩ _ rfl) (fun _ h _=>Or.inr h)).andThen (zc.setCell (S:=fun k=>k=w.heap.size) _ ⟨w.heap.size,2,none⟩ _ rfl) (fun _ h _=>Or.inr h)
 have a8:Hid (∀X,zc (fun k=>k=w.heap.size+1) WA.drew X->X.cell? ⟨w.heap.size+1+1,0,none⟩=some (.pointer (some ⟨p,0,none⟩))/\X.cell? ⟨w.heap.size+1+1,1,none⟩=some (.func (.func F) #[] cb)/\X.cell? ⟨w.heap.size+1+1,2,none⟩=some (.map (some (w.heap.size+1)))/\X.cell? ⟨p,1,none⟩=some (.int .i64 st.2)):=fun X hk=>by
  have k3:=Y.out.keptB hk (by omega);have k4:=Z.out.keptB hk (by omega);exact⟨k3.cell 0,k3.cell 1,k3.cell 2,k4.cell 1⟩
 clear a0 a1 a2 cp;go_region_held3 (fun X=>X.cell? ⟨w.heap.size+1+1,0,none⟩=some (.pointer (some ⟨p,0,none⟩))/\X.cell? ⟨w.heap.size+1+1,1,none⟩=some (.func (.func F) #[] cb)/\X.cell? ⟨w.heap.size+1+1,2,none⟩=some (.map (some (w.heap.size+1)))/\X.cell? ⟨p,1,none⟩=some (.int .i64 st.2)) (first|with_reducible exact S0|with_reducible exact S1|with_reducible exact S2)
  (first
   | (go_at_call 115;with_reducible refine a5.out.mono ?_;rintro e w2 ⟨rfl,L2,a9,J⟩;have k2:=a6.out.keptB J (by omega);have S1:=a8.out _ J;have S2:=SK.out _ (a7.out _ J);have z0:=k2.cell 0;have z1:=k2.cell 1;have z2:=k2.cell 2;have y0:=k2.frozen 0;have y1:=k2.frozen 1;have y2:=k2.frozen 2;unfold Wy.val))
 all_goals
  have o:=set3 k2 (.int .u64 R.items) (.int .i64 R.cost) (.bool R.can);have r0:=o.cell 0;have r1:=o.cell 1;have r2:=o.cell 2;have K:Hid (zB w (((w2.setCell w (.int .u64 R.items)).setCell ⟨w.heap.size,1,none⟩ (.int .i64 R.cost)).setCell ⟨w.heap.size,2,none⟩ (.bool R.can))) :=
   (((V.out.drew.trans (J.below V.out.size (fun j e=>by omega))).setCell (p:=w) zN _).setCell (p:=⟨w.heap.size,1,none⟩) zN _).setCell (p:=⟨w.heap.size,2,none⟩) zN _
  clear o k2 z0 z1 z2 y0 y1 y2 a9 J;go_wp2;refine zc4 (v:=.agg #[.int .u64 R.items,R.cost,R.can]) (by simp[results,Tryz.f70,go_sem,r0,r1,r2]) rfl ?_;exact⟨rfl,K.out⟩
end
end Bd
namespace Bd
open Go.Maps Go.Deep
def Zx(b:Bool):Int:=if b then 1 else 0
theorem zeb(x:Bool)(w:World):zC 72 #[x] w fun e w'=>e=.returned (.int .i64 (Zx x))/\w=w':=by
 cases x
 ·go_enter func72,ntmps72;go_wp2;go_ret;exact⟨rfl,rfl⟩
 ·go_enter func72,ntmps72;go_wp2;go_ret;exact⟨rfl,rfl⟩
section
variable {B p s b:Nat} {O:Nat->Prop} {vars:Nat} {room:Int} {st:List Nd × Int} {F:FuncId} {cb:Array Value} {C:qx} {w:World}
theorem zg1(hsol:Zo B w p s b O vars room st)(hl:st.1.length<=90000)(hh:zh st.1 st.2=true):zR 69 #[.pointer (some p)] w .nilIface:=by
 have j:Hid (∀n,zC 51 #[.pointer (some s)] (w.drewN n) fun e w'=>e=.returned false/\w'=w.drewN n):=fun n=>(zeC (hsol.space.new (xp _ w n))).mono fun e w' ⟨h1,h2⟩=>⟨h1,h2.symm⟩;have o:Hid (∀n,zC 59 #[.pointer (some b),st.2] (w.drewN n) fun e w'=>e=.returned true/\w'=w.drewN n):=fun n=>(zfy (hsol.space.new (xp _ w n)) st.2 (y7 hh (by omega)) hl).mono fun e w' ⟨h1,h2⟩=>⟨by rw[h1,hh],h2.symm⟩;have c0:_=some (Value.pointer (some s)):=hsol.blk.cell 0;have c1:_=some (Value.int .i64 st.2):=hsol.blk.cell 1;have c2:w.cell? s=some (.pointer (some b)):=hsol.space.c0;clear hsol;go_enter func69,ntmps69;go_wp2_with fail;go_quiet (first|(go_at_call 51;refine Calls.quiet_of_same (j.out _))|(go_at_call 59;refine Calls.quiet_of_same (o.out _)));go_wp2;go_ret;exact⟨rfl,xp _ w _⟩
def y9(item:Nat)(is:Bool):qx:=fun i b=>Zx (decide (i=item)&&(b==is))
theorem znL(item:Nat)(is:Bool):QZ (y9 item is):=by
 intro i b;unfold y9 Zx;split<;>omega
theorem zpQ(item i:Nat)(is bb:Bool)(a c:Nat)(w:World)(ha:w.cell? a=some (.int .i64 item))(hc:w.cell? c=some (.bool is)) :
  zR 71 #[i,bb,.pointer (some a),.pointer (some c)] w (.int .i64 (y9 item is i bb)):=by
 by_cases h:i=item
 ·subst h;have HO:=zH (zeb (bb==is) w);have hR:y9 i is i bb=Zx (bb==is):=by unfold y9;simp
  rw[hR];go_enter func71,ntmps71;go_wp2_with fail;refine HO.out.mono ?_;rintro e w1 ⟨rfl,rfl⟩;go_wp2;go_ret;exact⟨rfl,zf0 _ _⟩
 ·have HO:=zH (zeb false w);have hR:y9 item is i bb=Zx false:=by unfold y9;simp[h]
  have j:¬(i:Int)=(item:Int):=by omega
  rw[hR];clear h;go_enter func71,ntmps71;go_wp2_with fail;refine HO.out.mono ?_;rintro e w1 ⟨rfl,rfl⟩;go_wp2;go_ret;exact⟨rfl,zf0 _ _⟩
theorem znR:∀j w,(callFunc 71 j).run prog w=.ok (.enter 71 j) w:=by intro j w;kernel_rfl
theorem znD(k:Nat)(is:Bool)(vars:Nat){a c:Nat}{W0:World}(ha:a<W0.heap.size)(hc:c<W0.heap.size)(ca:W0.cell? a=some (.int .i64 k))(cc:W0.cell? c=some (.bool is)):Ys W0 71 #[.pointer (some a),.pointer (some c)] (y9 k is) vars:=fun W j bb hW _ =>
 zpQ k j is bb a c W ((hW.cell (p:=a) ha).trans ca) ((hW.cell (p:=c) hc).trans cc)
def ZT(vars:Nat)(ns:List Nd)(h:Int)(is:Bool)(i:Nat):Bool:=!(qd (y9 i is) vars ns h 0).can||decide (0<(qd (y9 i is) vars ns h 0).cost)
def qF(vars:Nat)(ns:List Nd)(h:Int)(is:Bool)(k:Nat):List Int:=((List.range k).filter (ZT vars ns h is)).map (fun i:Nat=>(i:Int))
theorem zbY(vars:Nat)(ns:List Nd)(h:Int)(is:Bool)(k:Nat):qF vars ns h is (k+1)=qF vars ns h is k++(if ZT vars ns h is k then [(k:Int)] else []):=by
 unfold qF;rw[zta,zsg,zrv];congr 1
 by_cases hb:ZT vars ns h is k=true
 ·rw[zc3 hb,List.filter_cons_of_pos hb];rfl
 ·rw[zc2 hb,List.filter_cons_of_neg hb];rfl
theorem zat(vars:Nat)(ns:List Nd)(h:Int)(is:Bool)(k:Nat):(qF vars ns h is k).length<=k:=by
 unfold qF;rw[zrs];exact zf1 (zsi _ _) (by rw[List.length_range];exact zri _)
theorem ze3(hsol:Zo B w p s b O vars room st)(hg:zG vars st.1)(hl:st.1.length<=90000)(h24:vars<=24)(hh:zh st.1 st.2=true)(is:Bool) :
  zC 30 #[.pointer (some p),is] w fun e w'=>∃v,e=.returned (.tuple #[v,.nilIface])/\w'.ownsRow w 3 1 v (qF vars st.1 st.2 is vars).length (Go.Proofs.YtoffdbflfikcoaaGreatDoor.icells (qF vars st.1 st.2 is vars))/\zB w w':=by
 have a6:=Go.Proofs.YtoffdbflfikcoaaGreatDoor.below_new w (.cells #[is] 4);have a2:(w.alloc (.cells #[is] 4)).cell? w.heap.size=some (.bool is):=by simp
 have ag:=zH (zg1 (hsol.new a6) hl hh);have K:=zH hsol;have HG:=zH hg;obtain⟨i0,ai,ak,am,an⟩:=info_parts ZO;clear hsol hg;go_enter func30,ntmps30;go_wp2_with fail;refine ag.out.mono ?_;rintro e w2 ⟨rfl,a5⟩;have ac:zB w w2:=zT a6 a5;have aj:(w.alloc (.cells #[is] 4)).heap.size=w.heap.size+1:=by simp
 have a5:Go.RowKit.Below (w.heap.size+1) (w.alloc (.cells #[is] 4)) w2:=by rw[←aj];exact a5
 have a3:=a2;have HV:=zH (Ja (K.out.new ac).space);have c0:w2.cell? p=some (.pointer (some s)):=(K.out.new ac).blk.cell 0;have af:=zH a5;have ao:=zH a6;have ab:=zH a3;clear a6 a5 a2 ag ac a3;generalize (w.alloc (.cells #[is] 4))=W1 at *;go_wp2_with fail;refine HV.out.mono ?_;rintro e w3 ⟨rfl,rfl⟩;clear HV;have Y:Hid (w2.ownsRow (w.heap.size+1) 3 1 (.slice none 0 0) (qF vars st.1 st.2 is 0).length (Go.Proofs.YtoffdbflfikcoaaGreatDoor.icells (qF vars st.1 st.2 is 0))):=by
  exact zrp _ _ _ _
 go_wp2_with fail;go_loopw [7,20] (fun oV iV wr=>∃k:Nat,k<=vars/\iV=.int .i64 k/\wr.ownsRow (w.heap.size+1) 3 1 oV (qF vars st.1 st.2 is k).length (Go.Proofs.YtoffdbflfikcoaaGreatDoor.icells (qF vars st.1 st.2 is k))/\Below (w.heap.size+1) W1 wr) (fun _ iV _=>vars-(intOf iV).toNat)
 case atStart=>exact⟨0,zf6 _,rfl,Y.out,af.out⟩
 case round =>
  clear Y af c0;obtain⟨k,az,rfl,J,a0⟩:=hrel;have a2:wr.cell? w.heap.size=some (.bool is):=(a0.cell (p:=w) (zsA _)).trans ab.out;have ae:zB w wr:=ao.out.trans (a0.mono (zrr _));obtain⟨n,hn⟩:∃n,(qF vars st.1 st.2 is k).length=n:=⟨_,rfl⟩;have ar:n<=24:=by have:=zat vars st.1 st.2 is k;omega
  rw[hn] at J;have aq:=a0.size;rw[aj] at aq;obtain⟨qa,qc,rfl,-⟩:=row_form J;have HN:=zH hn
  by_cases hlt:k<vars
  ·have a7:=Go.Proofs.YtoffdbflfikcoaaGreatDoor.below_new wr (.cells #[.int .i64 k] 3);have ah:zB w (wr.alloc (.cells #[.int .i64 k] 3)):=ae.trans (a7.mono (by omega));have au:w.heap.size<wr.heap.size:=by omega
   have aa:=zH (zkk (F:=71) (cb:=#[.pointer (some wr),.pointer (some w)]) (C:=y9 k is) (K.out.new ah) HG.out hl h24 znR (znL k is) (znD k is vars (a:=wr) (c:=w.heap.size) (by simp) (by simp;omega) (by simp) ((a7.cell (p:=w) au).trans a2)) hh);have u:=zH (zbY vars st.1 st.2 is k);unfold ZT at u;have ax:(k:Int)<(vars:Int):=by omega
   have M:=zH J;have U:=zH a0;have a9:=zH a7;clear J a0 ae a2 a7 ah hn;generalize qd (y9 k is) vars st.1 st.2 0=R at *;obtain⟨ri,rc,rb⟩:=R;simp only at u;unfold Wy.val at aa;go_wp2_with fail;refine aa.out.mono ?_;rintro e w4 ⟨rfl,Z⟩;have ad:zB wr (w4.alloc (.cells #[.int .u64 ri,rc,rb] 152)):=(zT a9.out Z).alloc (zf1 a9.out.size Z.size) _;have ay:(w4.alloc (.cells #[.int .u64 ri,rc,rb] 152)).cell? wr.heap.size=some (.int .i64 k):=by
    have h1:w4.cell? wr.heap.size=some (.int .i64 k):=(Z.cell (p:=wr) (by simp)).trans (by simp);exact((Go.Proofs.YtoffdbflfikcoaaGreatDoor.below_new w4 _).cell (p:=wr) (by have:=Z.size;simp at this;show wr.heap.size<_;omega)).trans h1
   have kb:=Blk.new w4 152 #[.int .u64 ri,rc,rb];have q1:=kb.cell 1;have q2:=kb.cell 2;have q:Hid ((w4.alloc (.cells #[.int .u64 ri,rc,rb] 152)).ownsRow (w.heap.size+1) 3 1 (.slice qa n qc) n (Go.Proofs.YtoffdbflfikcoaaGreatDoor.icells (qF vars st.1 st.2 is k))):=zA M.out ad;have a4:Hid (Below (w.heap.size+1) W1 (w4.alloc (.cells #[.int .u64 ri,rc,rb] 152))):=U.out.trans (ad.mono (by omega));have a1:w.heap.size+1<=(w4.alloc (.cells #[.int .u64 ri,rc,rb] 152)).heap.size:=by have:=a4.out.size;omega
   clear kb Z ad M U a9 aa;go_upto_region 9 with fail;generalize w4.alloc (.cells #[.int .u64 ri,rc,rb] 152)=W5 at *;cases rb with
   |false =>
    rw[zc3 (by simp)] at u;go_wp2_with (at_builtin;refine wpList_append_own_at _ rfl _ _ 47 rfl (w.heap.size+1) 3 i0 (.int .i64 0) 1 8 zrq ai ak am an rfl (by decide) _ _ _ rfl (q.out.alloc _) W5.heap.size 1 1 [.int .i64 k] rfl rfl ?e1 ?e2 ?e3 ?e4 ?e5 ?_)
    case e1=>exact yI _ _ _
    case e2=>exact yq _
    case e3=>unfold maxLen;omega
    case e4=>omega
    case e5=>simp;omega
    intro v8 w8 o j _ y;have V:Hid (w8.ownsRow (w.heap.size+1) 3 1 v8 (qF vars st.1 st.2 is (k+1)).length (Go.Proofs.YtoffdbflfikcoaaGreatDoor.icells (qF vars st.1 st.2 is (k+1)))):=by
     show World.ownsRow _ _ _ _ _ _ _;rw[u.out,Ze,zf4,HN.out];exact o
    have a8:Hid (Below (w.heap.size+1) W1 w8):=(a4.out.alloc a1 _).grown j (by simp;omega) (fun k hk=>(q.out.lt k hk).1);obtain⟨av,aw,rfl,-⟩:=row_form o;clear o j y q u;go_wp2;go_roundw
    case rel=>exact⟨k+1,hlt,by go_num,V.out,a8.out⟩
    case measure=>simp[intOf];omega
   |true =>
    by_cases h0:0<rc
    ·rw[zc3 (by simp[h0])] at u;go_wp2_with (at_builtin;refine wpList_append_own_at _ rfl _ _ 47 rfl (w.heap.size+1) 3 i0 (.int .i64 0) 1 8 zrq ai ak am an rfl (by decide) _ _ _ rfl (q.out.alloc _) W5.heap.size 1 1 [.int .i64 k] rfl rfl ?e1 ?e2 ?e3 ?e4 ?e5 ?_)
     case e1=>exact yI _ _ _
     case e2=>exact yq _
     case e3=>unfold maxLen;omega
     case e4=>omega
     case e5=>simp;omega
     intro v8 w8 o j _ y;have V:Hid (w8.ownsRow (w.heap.size+1) 3 1 v8 (qF vars st.1 st.2 is (k+1)).length (Go.Proofs.YtoffdbflfikcoaaGreatDoor.icells (qF vars st.1 st.2 is (k+1)))):=by
      show World.ownsRow _ _ _ _ _ _ _;rw[u.out,Ze,zf4,HN.out];exact o
     have a8:Hid (Below (w.heap.size+1) W1 w8):=(a4.out.alloc a1 _).grown j (by simp;omega) (fun k hk=>(q.out.lt k hk).1);obtain⟨av,aw,rfl,-⟩:=row_form o;clear o j y q u;go_wp2;go_roundw
     case rel=>exact⟨k+1,hlt,by go_num,V.out,a8.out⟩
     case measure=>simp[intOf];omega
    ·rw[zc2 (by simp[h0])] at u;have V:Hid (W5.ownsRow (w.heap.size+1) 3 1 (.slice qa n qc) (qF vars st.1 st.2 is (k+1)).length (Go.Proofs.YtoffdbflfikcoaaGreatDoor.icells (qF vars st.1 st.2 is (k+1)))):=by
      show World.ownsRow _ _ _ _ _ _ _;rw[u.out,zrS,HN.out];exact q.out
     clear q u;go_wp2;go_roundw
     case rel=>exact⟨k+1,hlt,by go_num,V.out,a4.out⟩
     case measure=>simp[intOf];omega
  ·obtain rfl:k=vars:=by omega
   clear K;go_wp2;go_ret2;rw[HN.out];exact⟨_,rfl,Go.Proofs.YtoffdbflfikcoaaGreatDoor.ownsRow_base J (zrr _),ae⟩
end
end Bd
