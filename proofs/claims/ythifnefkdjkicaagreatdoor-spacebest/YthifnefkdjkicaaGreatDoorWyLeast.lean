import Derived.Test.YthifnefkdjkicaaGreatDoorWyFrom
namespace Go.Proofs.YthifnefkdjkicaaGreatDoor
set_option maxHeartbeats 4000000
set_option maxRecDepth 100000
namespace Bd
open Go.RowKit Go.Maps Go.Deep
theorem zoG{C:zJ}{w:World}{dk vars:Nat}{ns:List Nd}{L:List (Int × Wy)}(hD:qm C w dk vars ns L){a:Int}(ha:I64 a)(ht:za ns a≠24)(hl:ns.length<=90000) :
  ∃w' L',(Instr.mapUpdate 189 (.map (some dk)) (.int .i64 a) (yk C vars ns a).val).run Tryz.prog w=.ok () w'/\qm C w' dk vars ns L'/\zc (fun j=>j=dk) w w':=by
 have K:=hD.len;obtain⟨D,J,hR⟩:=hD.hmap
 by_cases hm:a∈L.map Prod.fst
 ·obtain⟨w',o,h1,h2⟩:=J.update Kj Tryz.underlying189 (by unfold maxLen;omega) (Km ha) (K9 (yk C vars ns a));have hk:zc (fun k=>k=dk) w w':=zc.of_grown h2 (fun i h=>by cases h;rfl);have hR':QQ (D.put (.int .i64 a) (yk C vars ns a).dat) (L.map fun q=>if q.1=a then (q.1,yk C vars ns a) else q):=Rep.put_over hR (fun a b _ _ e=>by injection e) (fun _=>trivial) _ hm;have u:(L.map fun q=>if q.1=a then (q.1,yk C vars ns a) else q).map Prod.fst=L.map Prod.fst:=by
   rw[List.map_map];apply List.map_congr_left;intro q _;simp only[Function.comp];split<;>rfl
  refine⟨w',_,o,⟨⟨_,hR'.size▸Qh h1,hR'⟩,fun p hp=>?_,fun p hp=>?_,by rw[u];exact hD.nodup⟩,hk⟩
  ·obtain⟨q,hq,rfl⟩:=List.mem_map.1 hp;split
   ·exact hD.keys q hq
   ·exact hD.keys q hq
  ·obtain⟨q,hq,rfl⟩:=List.mem_map.1 hp;split
   ·rename_i e;rw[e]
   ·exact hD.vals q hq
 ·obtain⟨w',D',o,h1,h2,h3⟩:=zmk J hR (by omega) ha hm (yk C vars ns a);refine⟨w',_,o,⟨⟨D',h1,h2⟩,fun p hp=>?_,fun p hp=>?_,?_⟩,h3⟩
  ·rcases List.mem_append.1 hp with hp|hp
   ·exact hD.keys p hp
   ·rw[List.mem_singleton] at hp;subst hp;exact ht
  ·rcases List.mem_append.1 hp with hp|hp
   ·exact hD.vals p hp
   ·rw[List.mem_singleton] at hp;subst hp;rfl
  ·rw[List.map_append,List.nodup_append];refine⟨hD.nodup,by simp,fun x hx y hy e=>?_⟩;simp at hy;subst hy;exact hm (e▸hx)
section
variable {W0:World} {B p s b:Nat} {O:Nat->Prop} {vars:Nat} {room:Int} {st:List Nd × Int} {F:FuncId} {cb:Array Value} {C:zJ} {dk:Nat}
structure NS(C:zJ)(W0 W:World)(p dk vars:Nat)(ns:List Nd)(F:FuncId)(cb:Array Value)(nb:Nat)(gv gl gh:Int)(X:World):Prop where
 w0:Blk X W.heap.size 191 #[.pointer (some p),.func (.func F) #[] cb,.map (some dk)]
 w1:Blk X (W.heap.size+1) 139 #[.int .u64 0,(0:Int),false]
 w2:Blk X nb 250 #[gv,gl,gh]
 q1:W.heap.size+1<nb
 dq:dk<W.heap.size
 bel:zB W0 X
 way:∃L',qm C X dk vars ns L'
 kep:zc (fun k=>k=dk) W X
variable {W X X':World} {ns:List Nd} {nb:Nat} {gv gl gh:Int}
theorem NS.kept(h:NS C W0 W p dk vars ns F cb nb gv gl gh X)(hd:W0.heap.size<=dk)(hk:zc (fun k=>k=dk) X X')(hw:∃L',qm C X' dk vars ns L'):NS C W0 W p dk vars ns F cb nb gv gl gh X':=by
 have h1:=h.q1;have h2:=h.dq;exact⟨h.w0.keptB hk (by omega),h.w1.keptB hk (by omega),h.w2.keptB hk (by omega),h1,h2,h.bel.trans (hk.below h.bel.size (fun i e=>by omega)),hw,h.kep.andThen hk (fun _ h _=>h)⟩
theorem NS.below(h:NS C W0 W p dk vars ns F cb nb gv gl gh X)(hb:zB X X'):NS C W0 W p dk vars ns F cb nb gv gl gh X':=by
 obtain⟨L',hL⟩:=h.way;exact⟨h.w0.below hb h.w0.lt,h.w1.below hb h.w1.lt,h.w2.below hb h.w2.lt,h.q1,h.dq,zT h.bel hb,⟨L',hL.new hb⟩,h.kep.andThen (zc.of_below hb (fun _=>False)) (fun _ h _=>h.elim)⟩
theorem NS.sc(h:NS C W0 W p dk vars ns F cb nb gv gl gh X):X.cell? W.heap.size=some (.pointer (some p))/\X.cell? ⟨W.heap.size,1,none⟩=some (.func (.func F) #[] cb)/\X.cell? ⟨W.heap.size,2,none⟩=some (.map (some dk))/\X.cell? nb=some (.int .i64 gv)/\X.cell? ⟨nb,1,none⟩=some (.int .i64 gl)/\X.cell? ⟨nb,2,none⟩=some (.int .i64 gh) :=
 ⟨h.w0.cell 0,h.w0.cell 1,h.w0.cell 2,h.w2.cell 0,h.w2.cell 1,h.w2.cell 2⟩
theorem NS.put(h:NS C W0 W p dk vars ns F cb nb gv gl gh X)(hW:W0.heap.size<=W.heap.size){q:Nat}(hq:W.heap.size+1<q)(hqn:q≠nb)(x y z:Value):NS C W0 W p dk vars ns F cb nb gv gl gh (((X.setCell q x).setCell ⟨q,1,none⟩ y).setCell ⟨q,2,none⟩ z):=by
 obtain⟨L',hL⟩:=h.way;have h2:=h.dq;have hk:zc (fun k=>k=q) X (((X.setCell q x).setCell ⟨q,1,none⟩ y).setCell ⟨q,2,none⟩ z) :=
  ((zc.setCell (S:=fun k=>k=q) X q _ rfl).andThen (zc.setCell (S:=fun k=>k=q) _ ⟨q,1,none⟩ _ rfl) (fun _ h _=>h)).andThen (zc.setCell (S:=fun k=>k=q) _ ⟨q,2,none⟩ _ rfl) (fun _ h _=>h)
 exact⟨h.w0.keptB hk (by omega),h.w1.keptB hk (by omega),h.w2.keptB hk (fun e=>hqn e.symm),h.q1,h2,h.bel.trans (hk.below h.bel.size (fun i e=>by omega)),⟨L',hL.kept hk (by omega)⟩,h.kep.andThen hk (fun i e hi=>by omega)⟩
theorem zbi(x:Wy)(hdq:dk<W.heap.size)(way:∃L',qm C X dk vars ns L')(kep:zc (fun k=>k=dk) W X) :
  ∃L',qm C (((X.setCell ⟨W.heap.size+1,0,none⟩ (.int .u64 x.items)).setCell ⟨W.heap.size+1,1,none⟩ (.int .i64 x.cost)).setCell ⟨W.heap.size+1,2,none⟩ (.bool x.can)) dk vars ns L'/\zc (fun k=>k=dk) W (((X.setCell ⟨W.heap.size+1,0,none⟩ (.int .u64 x.items)).setCell ⟨W.heap.size+1,1,none⟩ (.int .i64 x.cost)).setCell ⟨W.heap.size+1,2,none⟩ (.bool x.can)):=by
 obtain⟨L',hL⟩:=way;have hk:zc (fun k=>k=W.heap.size+1) X (((X.setCell ⟨W.heap.size+1,0,none⟩ (.int .u64 x.items)).setCell ⟨W.heap.size+1,1,none⟩ (.int .i64 x.cost)).setCell ⟨W.heap.size+1,2,none⟩ (.bool x.can)) :=
  ((zc.setCell (S:=fun k=>k=W.heap.size+1) X ⟨W.heap.size+1,0,none⟩ _ rfl).andThen (zc.setCell (S:=fun k=>k=W.heap.size+1) _ ⟨W.heap.size+1,1,none⟩ _ rfl) (fun _ h _=>h)).andThen (zc.setCell (S:=fun k=>k=W.heap.size+1) _ ⟨W.heap.size+1,2,none⟩ _ rfl) (fun _ h _=>h)
 exact⟨L',hL.kept hk (by omega),kep.andThen hk (fun i e hi=>by omega)⟩
theorem zaZ{h:Int}{L:List (Int × Wy)}{W:World}(hW:zB W0 W)(hM:qm C W dk vars st.1 L){w1:World}(hb1:Below ((W.alloc (.cells #[.pointer (some p),.func (.func F) #[] cb,.map (some dk)] 191)).alloc (.cells #[.int .u64 0,(0:Int),false] 139)).heap.size ((W.alloc (.cells #[.pointer (some p),.func (.func F) #[] cb,.map (some dk)] 191)).alloc (.cells #[.int .u64 0,(0:Int),false] 139)) w1) :
  NS C W0 W p dk vars st.1 F cb w1.heap.size (zt st.1 h).v (zt st.1 h).l (zt st.1 h).h (w1.alloc (.cells #[.int .i64 (zt st.1 h).v,.int .i64 (zt st.1 h).l,.int .i64 (zt st.1 h).h] 250)):=by
 have k0:=(Blk.new W 191 #[.pointer (some p),.func (.func F) #[] cb,.map (some dk)]).alloc (.cells #[.int .u64 0,(0:Int),false] 139);have k1:=Blk.new (W.alloc (.cells #[.pointer (some p),.func (.func F) #[] cb,.map (some dk)] 191)) 139 #[.int .u64 0,(0:Int),false];simp only[zA0] at k1;have q:zB W ((W.alloc (.cells #[.pointer (some p),.func (.func F) #[] cb,.map (some dk)] 191)).alloc (.cells #[.int .u64 0,(0:Int),false] 139)):=((Below.refl _ W).alloc zN _).alloc (by simp only[zA0];omega) _;have hs:=hb1.size;simp only[zA0] at hs;have o:=Go.Proofs.YthifnefkdjkicaaGreatDoor.below_new w1 (.cells #[.int .i64 (zt st.1 h).v,.int .i64 (zt st.1 h).l,.int .i64 (zt st.1 h).h] 250);have j:zB W (w1.alloc (.cells #[.int .i64 (zt st.1 h).v,.int .i64 (zt st.1 h).l,.int .i64 (zt st.1 h).h] 250)):=(zT q hb1).trans (o.mono (by omega));exact⟨(k0.below hb1 k0.lt).alloc _,(k1.below hb1 k1.lt).alloc _,Blk.new _ _ _,by omega,hM.lt,zT hW j,⟨L,hM.new j⟩,zc.of_below j _⟩
theorem zdy(cx:Yc W0 B p s b O vars room st F cb C dk)(h:Int)(L:List (Int × Wy))(W:World)(hW:zB W0 W)(hM:qm C W dk vars st.1 L)(hh:zj st.1 h=true)(ht:za st.1 h=24) :
  zC 141 #[wkV p F cb dk,h] W (Yn C dk vars st.1 (yk C vars st.1 h) W):=by
 have J:=xX hh (by have:=cx.len;omega);have M:zB W ((W.alloc (.cells #[.pointer (some p),.func (.func F) #[] cb,.map (some dk)] 191)).alloc (.cells #[.int .u64 0,(0:Int),false] 139)):=((Below.refl _ W).alloc zN _).alloc (by simp only[zA0];omega) _;have j:=cx.sol.new (zT hW M);have k0:=(Blk.new W 191 #[.pointer (some p),.func (.func F) #[] cb,.map (some dk)]).alloc (.cells #[.int .u64 0,(0:Int),false] 139);have HG:=zH (Jc j.space h J (by have:=cx.len;omega));have K:Hid (∀w1,Below ((W.alloc (.cells #[.pointer (some p),.func (.func F) #[] cb,.map (some dk)] 191)).alloc (.cells #[.int .u64 0,(0:Int),false] 139)).heap.size ((W.alloc (.cells #[.pointer (some p),.func (.func F) #[] cb,.map (some dk)] 191)).alloc (.cells #[.int .u64 0,(0:Int),false] 139)) w1->NS C W0 W p dk vars st.1 F cb w1.heap.size (zt st.1 h).v (zt st.1 h).l (zt st.1 h).h (w1.alloc (.cells #[.int .i64 (zt st.1 h).v,.int .i64 (zt st.1 h).l,.int .i64 (zt st.1 h).h] 250))):=fun w1 u=>zaZ hW hM u;have c0:=k0.cell 0;have c1:((W.alloc (.cells #[.pointer (some p),.func (.func F) #[] cb,.map (some dk)] 191)).alloc (.cells #[.int .u64 0,(0:Int),false] 139)).cell? p=some (.pointer (some s)):=j.blk.cell 0;have c2:((W.alloc (.cells #[.pointer (some p),.func (.func F) #[] cb,.map (some dk)] 191)).alloc (.cells #[.int .u64 0,(0:Int),false] 139)).cell? s=some (.pointer (some b)):=j.space.c0;have V:=zH cx;have U:=cx.dkl;have R:=hM.lt;have Y:=hW.size;unfold Nd.val at HG;have hR:yk C vars st.1 h=⟨0,0,decide (h=1)⟩:=zjh hh ht cx.v24;rw[decide_eq_false (show ¬za st.1 h≠24 from fun e=>e ht)] at HG;have HR:=zH hR;clear hM j hR ht;unfold wkV;go_enter Tryz.func141,Tryz.ntmps141;go_upto_region 1 with fail;generalize (W.alloc (.cells #[.pointer (some p),.func (.func F) #[] cb,.map (some dk)] 191)).alloc (.cells #[.int .u64 0,(0:Int),false] 139)=WA at *;go_wp2_with fail;refine HG.out.mono ?_;rintro e w1 ⟨rfl,u⟩;have o:=K.out w1 u;have z0:=o.w1.cell 0;have z1:=o.w1.cell 1;have z2:=o.w1.cell 2;have y0:=o.w1.frozen 0;have y1:=o.w1.frozen 1;have y2:=o.w1.frozen 2;have q:=set3 o.w1 (.int .u64 0) (.int .i64 0) (.bool (h==1));have r0:=q.cell 0;have r1:=q.cell 1;have r2:=q.cell 2;have y:=zH (zbi ⟨0,0,h==1⟩ R o.way o.kep);clear q o u HG K c0 c1 c2 M k0;go_wp2;refine bodyPost_ret (v:=.agg #[.int .u64 0,(0:Int),.bool (h==1)]) (by simp[results,Tryz.f141,go_sem,r0,r1,r2]) rfl ?_;exact⟨by rw[HR.out];rfl,y.out⟩
theorem zhs(cx:Yc W0 B p s b O vars room st F cb C dk)(h:Int)(L:List (Int × Wy))(W:World)(hW:zB W0 W)(hM:qm C W dk vars st.1 L)(hh:zj st.1 h=true)(ht:za st.1 h≠24)(R:Wy)(hin:(h,R)∈L) :
  zC 141 #[wkV p F cb dk,.int .i64 h] W (Yn C dk vars st.1 (yk C vars st.1 h) W):=by
 have K:=xX hh (by have:=cx.len;omega);have y:zB W ((W.alloc (.cells #[.pointer (some p),.func (.func F) #[] cb,.map (some dk)] 191)).alloc (.cells #[.int .u64 0,(0:Int),false] 139)):=((Below.refl _ W).alloc zN _).alloc (by simp only[zA0];omega) _;have j:=cx.sol.new (zT hW y);have k0:=(Blk.new W 191 #[.pointer (some p),.func (.func F) #[] cb,.map (some dk)]).alloc (.cells #[.int .u64 0,(0:Int),false] 139);have HG:=zH (Jc j.space h K (by have:=cx.len;omega));have U:Hid (∀w1,Below ((W.alloc (.cells #[.pointer (some p),.func (.func F) #[] cb,.map (some dk)] 191)).alloc (.cells #[.int .u64 0,(0:Int),false] 139)).heap.size ((W.alloc (.cells #[.pointer (some p),.func (.func F) #[] cb,.map (some dk)] 191)).alloc (.cells #[.int .u64 0,(0:Int),false] 139)) w1->NS C W0 W p dk vars st.1 F cb w1.heap.size (zt st.1 h).v (zt st.1 h).l (zt st.1 h).h (w1.alloc (.cells #[.int .i64 (zt st.1 h).v,.int .i64 (zt st.1 h).l,.int .i64 (zt st.1 h).h] 250))):=fun w1 u=>zaZ hW hM u;have c0:=k0.cell 0;have c1:((W.alloc (.cells #[.pointer (some p),.func (.func F) #[] cb,.map (some dk)] 191)).alloc (.cells #[.int .u64 0,(0:Int),false] 139)).cell? p=some (.pointer (some s)):=j.blk.cell 0;have c2:((W.alloc (.cells #[.pointer (some p),.func (.func F) #[] cb,.map (some dk)] 191)).alloc (.cells #[.int .u64 0,(0:Int),false] 139)).cell? s=some (.pointer (some b)):=j.space.c0;have a4:=zH cx;have a1:=cx.dkl;have a0:=hM.lt;have a5:=hW.size;unfold Nd.val at HG;have hR:yk C vars st.1 h=R:=(hM.vals _ hin).symm;rw[decide_eq_true ht] at HG;have HR:=zH hR;have V:Hid (∀X,zc (fun k=>False) W X->(Instr.lookup 189 (.map (some dk)) (.int .i64 h) true).run Tryz.prog X=.ok (.tuple #[R.val,true]) X):=fun X hk=>by
  obtain⟨D,hD,Z⟩:=(hM.kept hk (fun h=>h)).hmap;exact ziX hD Z hin
 clear hM j hR;unfold wkV;go_enter Tryz.func141,Tryz.ntmps141;go_upto_region 1 with fail;generalize (W.alloc (.cells #[.pointer (some p),.func (.func F) #[] cb,.map (some dk)] 191)).alloc (.cells #[.int .u64 0,(0:Int),false] 139)=WA at *;go_wp2_with fail;refine HG.out.mono ?_;rintro e w1 ⟨rfl,u⟩;have M:=U.out w1 u;have Y:zc (fun _=>False) W (w1.alloc (.cells #[.int .i64 (zt st.1 h).v,.int .i64 (zt st.1 h).l,.int .i64 (zt st.1 h).h] 250)):=zc.of_below ((zT y u).alloc (Nat.le_trans y.size u.size) _) _;have a3:=V.out _ Y;have a2:=M.w0.cell 2;generalize zt st.1 h=gt at *;go_upto_region 2 with fail;generalize w1.alloc (.cells #[gt.v,gt.l,gt.h] 250)=W2 at *;unfold Wy.val at a3;have o:=M.below (Go.Proofs.YthifnefkdjkicaaGreatDoor.below_new W2 (.cells #[.int .u64 R.items,R.cost,R.can] 139));have z0:=o.w1.cell 0;have z1:=o.w1.cell 1;have z2:=o.w1.cell 2;have y0:=o.w1.frozen 0;have y1:=o.w1.frozen 1;have y2:=o.w1.frozen 2;have q:=set3 o.w1 (.int .u64 R.items) (.int .i64 R.cost) (.bool R.can);have r0:=q.cell 0;have r1:=q.cell 1;have r2:=q.cell 2;have J:=zH (zbi R a0 o.way o.kep);clear q M o u HG U V c0 c1 c2 y k0 Y;go_wp2;refine bodyPost_ret (v:=.agg #[.int .u64 R.items,R.cost,R.can]) (by simp[results,Tryz.f141,go_sem,r0,r1,r2]) rfl ?_;exact⟨by rw[HR.out];rfl,J.out⟩
end
end Bd
namespace Bd
open Go.RowKit Go.Maps Go.Deep
section
variable {W0:World} {B p s b:Nat} {O:Nat->Prop} {vars:Nat} {room:Int} {st:List Nd × Int} {F:FuncId} {cb:Array Value} {C:zJ} {dk:Nat} {W X X':World} {ns:List Nd} {nb:Nat} {gv gl gh:Int}
structure NQ(C:zJ)(W0 W:World)(p dk vars:Nat)(ns:List Nd)(F:FuncId)(cb:Array Value)(nb:Nat)(gv gl gh:Int)(q:Nat)(x:Wy)(X:World):Prop where
 ns:NS C W0 W p dk vars ns F cb nb gv gl gh X
 bx:Blk X q 139 #[.int .u64 x.items,x.cost,x.can]
 q1:W.heap.size+1<q
 qn:q≠nb
theorem NS.box(h:NS C W0 W p dk vars ns F cb nb gv gl gh X)(x:Wy):NQ C W0 W p dk vars ns F cb nb gv gl gh X.heap.size x (X.alloc (.cells #[.int .u64 x.items,x.cost,x.can] 139)) :=
 ⟨h.below (Go.Proofs.YthifnefkdjkicaaGreatDoor.below_new X _),Blk.new _ _ _,by have:=h.w1.lt;have:=h.q1;have:=h.w2.lt;omega,by have:=h.w2.lt;omega⟩
theorem NS.box0(h:NS C W0 W p dk vars ns F cb nb gv gl gh X):NQ C W0 W p dk vars ns F cb nb gv gl gh X.heap.size ⟨0,0,false⟩ (X.alloc (.cells #[.int .u64 0,(0:Int),false] 139)):=h.box ⟨0,0,false⟩
theorem NQ.kept{q:Nat}{x:Wy}(h:NQ C W0 W p dk vars ns F cb nb gv gl gh q x X)(hd:W0.heap.size<=dk)(hk:zc (fun k=>k=dk) X X')(hw:∃L',qm C X' dk vars ns L'):NQ C W0 W p dk vars ns F cb nb gv gl gh q x X' :=
 ⟨h.ns.kept hd hk hw,h.bx.keptB hk (by have:=h.q1;have:=h.ns.dq;omega),h.q1,h.qn⟩
theorem NQ.below{q:Nat}{x:Wy}(h:NQ C W0 W p dk vars ns F cb nb gv gl gh q x X)(hb:zB X X'):NQ C W0 W p dk vars ns F cb nb gv gl gh q x X':=⟨h.ns.below hb,h.bx.below hb h.bx.lt,h.q1,h.qn⟩
theorem NQ.put{q:Nat}{x:Wy}(h:NQ C W0 W p dk vars ns F cb nb gv gl gh q x X)(hW:W0.heap.size<=W.heap.size)(y:Wy):NQ C W0 W p dk vars ns F cb nb gv gl gh q y (((X.setCell q (.int .u64 y.items)).setCell ⟨q,1,none⟩ (.int .i64 y.cost)).setCell ⟨q,2,none⟩ (.bool y.can)) :=
 ⟨h.ns.put hW h.q1 h.qn _ _ _,set3 h.bx _ _ _,h.q1,h.qn⟩
def zlX(C:zJ)(W0 W:World)(p dk vars:Nat)(ns:List Nd)(F:FuncId)(cb:Array Value)(nb:Nat)(gv gl gh:Int)(x:Wy)(qv:Value)(X:World):Prop:=∃q,qv=.pointer (some ⟨q,0,none⟩)/\NQ C W0 W p dk vars ns F cb nb gv gl gh q x X
theorem zoM(cx:Yc W0 B p s b O vars room st F cb C dk){d:Nat}(hF:zeU W0 p vars st.1 F cb C dk d)(h:Int)(L:List (Int × Wy))(W:World)(hW:zB W0 W)(hM:qm C W dk vars st.1 L)(hh:zj st.1 h=true)(ht:za st.1 h≠24)(hd:24<=za st.1 h+((d+1:Nat):Int))(hnin:h∉L.map Prod.fst) :
  zC 141 #[wkV p F cb dk,.int .i64 h] W (Yn C dk vars st.1 (yk C vars st.1 h) W):=by
 have a3:=xX hh (by have:=cx.len;omega);have a9:zB W ((W.alloc (.cells #[.pointer (some p),.func (.func F) #[] cb,.map (some dk)] 191)).alloc (.cells #[.int .u64 0,(0:Int),false] 139)):=((Below.refl _ W).alloc zN _).alloc (by simp only[zA0];omega) _;have o:=cx.sol.new (zT hW a9);have k0:=(Blk.new W 191 #[.pointer (some p),.func (.func F) #[] cb,.map (some dk)]).alloc (.cells #[.int .u64 0,(0:Int),false] 139);have HG:=zH (Jc o.space h a3 (by have:=cx.len;omega));have ae:Hid (∀w1,Below ((W.alloc (.cells #[.pointer (some p),.func (.func F) #[] cb,.map (some dk)] 191)).alloc (.cells #[.int .u64 0,(0:Int),false] 139)).heap.size ((W.alloc (.cells #[.pointer (some p),.func (.func F) #[] cb,.map (some dk)] 191)).alloc (.cells #[.int .u64 0,(0:Int),false] 139)) w1->NS C W0 W p dk vars st.1 F cb w1.heap.size (zt st.1 h).v (zt st.1 h).l (zt st.1 h).h (w1.alloc (.cells #[.int .i64 (zt st.1 h).v,.int .i64 (zt st.1 h).l,.int .i64 (zt st.1 h).h] 250))):=fun w1 a4=>zaZ hW hM a4;have c0:=k0.cell 0;have c1:((W.alloc (.cells #[.pointer (some p),.func (.func F) #[] cb,.map (some dk)] 191)).alloc (.cells #[.int .u64 0,(0:Int),false] 139)).cell? p=some (.pointer (some s)):=o.blk.cell 0;have c2:((W.alloc (.cells #[.pointer (some p),.func (.func F) #[] cb,.map (some dk)] 191)).alloc (.cells #[.int .u64 0,(0:Int),false] 139)).cell? s=some (.pointer (some b)):=o.space.c0;have y:=cx.dkl;have aq:=hM.lt;have a8:=hW.size;have V:=cx.v24;unfold Nd.val at HG;rw[decide_eq_true ht] at HG;have hr:=cx.good.ranked;have ah:=zhh ht;obtain⟨t1,t2,t3,t4⟩:=ZF hr ht;have tv:=(xj ht).2.2.1;have an:=XM hr ht;have aw:=(qx hr h).1;have au:=Ku cx.good ht;have a6:=zok (C:=C) cx.good ht;rw[<-ah] at t1 t2 t3 t4 tv a6;obtain⟨v,hv⟩:∃v:Nat,za st.1 h=(v:Int):=⟨(za st.1 h).toNat,by omega⟩;rw[hv] at t1 t3 tv a6 hd an au;rw[Int.toNat_natCast] at a6;have M:Hid (∀X,(∃L',qm C X dk vars st.1 L')->∃w' L',(Instr.mapUpdate 189 (.map (some dk)) (.int .i64 h) (yk C vars st.1 h).val).run Tryz.prog X=.ok () w'/\qm C w' dk vars st.1 L'/\zc (fun j=>j=dk) X w'):=fun X ⟨L',hL⟩=>zoG hL a3 ht cx.len;have af:Hid (∀X,zc (fun _=>False) W X->(Instr.lookup 189 (.map (some dk)) (.int .i64 h) true).run Tryz.prog X=.ok (.tuple #[Wy.val ⟨0,0,false⟩,false]) X):=fun X hk=>by
  obtain⟨D,hD,ap⟩:=(hM.kept hk (fun h=>h)).hmap;exact znJ hD ap a3 hnin
 have oA:=za0 (ns:=st.1) cx.cok V (zt st.1 h).l (v+1);have oB:=za0 (ns:=st.1) cx.cok V (zt st.1 h).h (v+1);have ad:2^vars<=2^24:=Nat.pow_le_pow_right (by omega) V;have a1:Hid (∀X,zB W0 X->(∃L',qm C X dk vars st.1 L')->zC 97 #[wkV p F cb dk,.int .i64 ((v:Int)+1),.int .i64 (zt st.1 h).l] X fun e w'=>e=.returned (zw C vars st.1 (zt st.1 h).l (v+1)).val/\∃L',qm C w' dk vars st.1 L'/\zc (fun k=>k=dk) X w'):=fun X h1 ⟨L',h2⟩=>hF (zt st.1 h).l (v+1) L' X h1 h2 t2 (by omega) (by omega) (by omega);have K:Hid (∀X,zB W0 X->(∃L',qm C X dk vars st.1 L')->zC 97 #[wkV p F cb dk,.int .i64 ((v:Int)+1),.int .i64 (zt st.1 h).h] X fun e w'=>e=.returned (zw C vars st.1 (zt st.1 h).h (v+1)).val/\∃L',qm C w' dk vars st.1 L'/\zc (fun k=>k=dk) X w'):=fun X h1 ⟨L',h2⟩=>hF (zt st.1 h).h (v+1) L' X h1 h2 t4 (by omega) (by omega) (by omega);have J:Hid (∀X,zB W0 X->zC 142 #[wkV p F cb dk,v,(zw C vars st.1 (zt st.1 h).l (v+1)).val,(zw C vars st.1 (zt st.1 h).h (v+1)).val] X fun e w'=>e=.returned (yk C vars st.1 h).val/\zB X w'):=fun X hX=>by
  rw[a6];exact zdC F cb C vars V cx.ent cx.cok cx.cat hX p dk v (by omega) _ _ ⟨oA.1,oA.2.1⟩ ⟨oB.1,oB.2.1⟩ (Nat.lt_of_lt_of_le (oB.2.2 (by omega)) ad)
 generalize zw C vars st.1 (zt st.1 h).l (v+1)=RA at *;generalize zw C vars st.1 (zt st.1 h).h (v+1)=RB at *;generalize zt st.1 h=gt at *;obtain⟨gv,gl,gh⟩:=gt;simp only at *;subst tv;obtain⟨R,hR⟩:∃R,yk C vars st.1 h=R:=⟨_,rfl⟩;rw[hR] at M J ⊢;clear hM o hR a6 t1 t2 t3 t4 ah oA oB hF an hr hv hd cx;unfold wkV at *;go_enter Tryz.func141,Tryz.ntmps141;go_upto_region 1 with fail;generalize (W.alloc (.cells #[.pointer (some p),.func (.func F) #[] cb,.map (some dk)] 191)).alloc (.cells #[.int .u64 0,(0:Int),false] 139)=WA at *;go_wp2_with fail;refine HG.out.mono ?_;rintro e w1 ⟨rfl,a4⟩;have ac:=ae.out w1 a4;have ai:zc (fun _=>False) W (w1.alloc (.cells #[v,gl,gh] 250)):=zc.of_below ((zT a9 a4).alloc (Nat.le_trans a9.size a4.size) _) _;have ak:=af.out _ ai;unfold Wy.val at ak;have a2:=ac.w0.cell 2;go_upto_region 2 with fail;generalize w1.alloc (.cells #[v,gl,gh] 250)=W2 at *;have am:=ac.below (Go.Proofs.YthifnefkdjkicaaGreatDoor.below_new W2 (.cells #[.int .u64 ((0:Nat):Int),(0:Int),false] 139));clear ac a4 HG ae af c0 c1 c2 a9 k0 ai;go_upto_region 7 with fail;unfold Wy.val at a1 K J M;have ab:NS C W0 W p dk vars st.1 F cb w1.heap.size v gl gh (W2.alloc (.cells #[.int .u64 0,(0:Int),false] 139)):=am;generalize W2.alloc (.cells #[.int .u64 0,(0:Int),false] 139)=W3 at *;have N0:=ab.below (Below.refl _ W3).drew;have G0:=(ab.box0).below zF.drew;have s0:=N0.sc;have t0:=G0.ns.sc;have ax:(0:Int)<=v:=by omega
 have av:(v:Int)+1<=24:=by omega
 clear am ab ak a2;generalize w1.heap.size=nb at *;have ao:IntKind.i64.wrap ((v:Int)+1)=(v:Int)+1:=by rw[IntKind.wrap_i64];omega
 rw[<-ao] at a1 K;clear ao;go_cut [9] (fun qv wx=>zlX C W0 W p dk vars st.1 F cb nb v gl gh R qv wx)
 case rest =>obtain⟨q,rfl,hE⟩:=hcut;clear N0 G0 s0 t0 a1 K J;obtain⟨w8,L8,ar,ag,aj⟩:=M.out _ hE.ns.way;have u:=hE.kept y aj ⟨L8,ag⟩;have a2:=hE.ns.w0.cell 2;have e0:=hE.bx.cell 0;have e1:=hE.bx.cell 1;have e2:=hE.bx.cell 2;have f0:=u.bx.cell 0;have f1:=u.bx.cell 1;have f2:=u.bx.cell 2;have z0:=u.ns.w1.cell 0;have z1:=u.ns.w1.cell 1;have z2:=u.ns.w1.cell 2;have y0:=u.ns.w1.frozen 0;have y1:=u.ns.w1.frozen 1;have y2:=u.ns.w1.frozen 2;have U:=set3 u.ns.w1 (.int .u64 R.items) (.int .i64 R.cost) (.bool R.can);have r0:=U.cell 0;have r1:=U.cell 1;have r2:=U.cell 2;have aa:=zH (zbi R aq u.ns.way u.ns.kep);clear U hE u ag aj M;go_wp2;refine bodyPost_ret (v:=.agg #[.int .u64 R.items,R.cost,R.can]) (by simp[results,Tryz.f141,go_sem,r0,r1,r2]) rfl ?_;exact⟨rfl,aa.out⟩
 go_region_held3 (fun X=>X.cell? W.heap.size=some (.pointer (some p))/\X.cell? ⟨W.heap.size,1,none⟩=some (.func (.func F) #[] cb)/\X.cell? ⟨W.heap.size,2,none⟩=some (.map (some dk))/\X.cell? nb=some (.int .i64 v)/\X.cell? ⟨nb,1,none⟩=some (.int .i64 gl)/\X.cell? ⟨nb,2,none⟩=some (.int .i64 gh)) (first|with_reducible exact s0|with_reducible exact t0|with_reducible exact s1|with_reducible exact t1|with_reducible exact u1|with_reducible exact s2|with_reducible exact t2|with_reducible exact u2|with_reducible exact s3|with_reducible exact t3|with_reducible exact u3|with_reducible exact x3)
  (first
   |(go_at_call 97;with_reducible refine(a1.out _ N0.bel N0.way).mono ?_;rintro e w4 ⟨rfl,L4,a5,a7⟩;have N1:=N0.kept y a7 ⟨L4,a5⟩;have G1:=N1.box0;have s1:=N1.sc;have t1:=G1.ns.sc;clear a5 a7 N0 G0 s0 t0 a1)
   |(go_at_call 97;with_reducible refine(a1.out _ G0.ns.bel G0.ns.way).mono ?_;rintro e w4 ⟨rfl,L4,a5,a7⟩;have U1:=G0.kept y a7 ⟨L4,a5⟩;have u1:=U1.ns.sc;clear a5 a7 N0 G0 s0 t0 a1)
   |(go_at_call 97;with_reducible refine(K.out _ N1.bel N1.way).mono ?_;rintro e w5 ⟨rfl,L5,Y,a0⟩;have N2:=N1.kept y a0 ⟨L5,Y⟩;have G2:=N2.box0;have s2:=N2.sc;have t2:=G2.ns.sc;clear Y a0 N1 G1 s1 t1 K)
   |(go_at_call 97;with_reducible refine(K.out _ G1.ns.bel G1.ns.way).mono ?_;rintro e w5 ⟨rfl,L5,Y,a0⟩;have U2:=G1.kept y a0 ⟨L5,Y⟩;have u2:=U2.ns.sc;clear Y a0 N1 G1 s1 t1 K)
   |(go_at_call 97;with_reducible refine(K.out _ U1.ns.bel U1.ns.way).mono ?_;rintro e w5 ⟨rfl,L5,Y,a0⟩;have U2:=U1.kept y a0 ⟨L5,Y⟩;have u2:=U2.ns.sc;clear Y a0 U1 u1 K)
   |(go_at_call 142;with_reducible refine(J.out _ N2.bel).mono ?_;rintro e w6 ⟨rfl,Z⟩;have N3':=N2.below Z;have N3:=N3'.box0;have s3:=N3'.sc;have t3:=N3.ns.sc;have z0:=N3.bx.cell 0;have z1:=N3.bx.cell 1;have z2:=N3.bx.cell 2;have y0:=N3.bx.frozen 0;have y1:=N3.bx.frozen 1;have y2:=N3.bx.frozen 2;have NE:=N3'.box R;have x3:=NE.ns.sc;have HE:=zH NE;clear Z N3 N3' NE N2 G2 s2 t2 J)
   |(go_at_call 142;with_reducible refine(J.out _ G2.ns.bel).mono ?_;rintro e w6 ⟨rfl,Z⟩;have N3:=G2.below Z;have s3:=N3.ns.sc;have t3:=(N3.put a8 R).ns.sc;have z0:=N3.bx.cell 0;have z1:=N3.bx.cell 1;have z2:=N3.bx.cell 2;have y0:=N3.bx.frozen 0;have y1:=N3.bx.frozen 1;have y2:=N3.bx.frozen 2;have HE:=zH (N3.put a8 R);clear Z N3 N2 G2 s2 t2 J)
   | (go_at_call 142;with_reducible refine (J.out _ U2.ns.bel).mono ?_;rintro e w6 ⟨rfl,Z⟩;have N3:=U2.below Z;have s3:=N3.ns.sc;have t3:=(N3.put a8 R).ns.sc;have z0:=N3.bx.cell 0;have z1:=N3.bx.cell 1;have z2:=N3.bx.cell 2;have y0:=N3.bx.frozen 0;have y1:=N3.bx.frozen 1;have y2:=N3.bx.frozen 2;have HE:=zH (N3.put a8 R);clear Z N3 U2 u2 J))
 all_goals
  have hE:=HE.out;clear HE
  try clear z0 z1 z2
  try clear y0 y1 y2
  try clear s3 t3
  try clear x3
  go_wp2_with fail;go_meet
  case rel=>exact⟨_,rfl,hE⟩
end
end Bd
namespace Bd
open Go.RowKit Go.Maps Go.Deep
section
variable {W0:World} {B p s b:Nat} {O:Nat->Prop} {vars:Nat} {room:Int} {st:List Nd × Int} {F:FuncId} {cb:Array Value} {C:zJ} {dk:Nat}
theorem ziI(cx:Yc W0 B p s b O vars room st F cb C dk):∀d,zef W0 p vars st.1 F cb C dk d:=by
 intro d
 induction d with
 |zero=>exact fun h L W hW hM hh hd=>zdy cx h L W hW hM hh (by have:=(qx cx.good.ranked h).2;omega)
 |succ d ih =>
  intro h L W hW hM hh hd
  by_cases ht:za st.1 h=24
  ·exact zdy cx h L W hW hM hh ht
  ·by_cases hin:h∈L.map Prod.fst
   ·obtain⟨q,hq,rfl⟩:=List.mem_map.1 hin;exact zhs cx q.1 L W hW hM hh ht q.2 hq
   ·exact zoM cx (zft cx ih) h L W hW hM hh ht hd hin
theorem zo3(cx:Yc W0 B p s b O vars room st F cb C dk)(h:Int)(v:Nat)(L:List (Int × Wy))(W:World)(hW:zB W0 W)(hM:qm C W dk vars st.1 L)(hh:zj st.1 h=true)(hv:(v:Int)<=za st.1 h)(hvv:v<=vars):zC 97 #[wkV p F cb dk,v,h] W (Yn C dk vars st.1 (zw C vars st.1 h v) W) :=
 zft cx (ziI cx 24) h v L W hW hM hh hv hvv (by have:=(qx cx.good.ranked h).1;omega)
theorem znq{w:World}(hsol:Zh B w p s b O vars room st)(hg:zU vars st.1)(hl:st.1.length<=90000)(h24:vars<=24)(hent:∀u w,(callFunc F u).run Tryz.prog w=.ok (.enter F u) w)(hcok:Zj C)(hcat:ZA w F cb C vars)(hh:zj st.1 st.2=true) :
  zC 64 #[.pointer (some ⟨p,0,none⟩),.func (.func F) #[] cb] w fun e w'=>e=.returned (zw C vars st.1 st.2 0).val/\zB w w':=by
 have s1:(w.alloc (.cells #[.int .u64 0,(0:Int),false] 139)).heap.size=w.heap.size+1:=by simp
 have s2:((w.alloc (.cells #[.int .u64 0,(0:Int),false] 139)).alloc (.map #[] 0)).heap.size=w.heap.size+1+1:=by rw[zA0,s1]
 have M:=Go.Proofs.YthifnefkdjkicaaGreatDoor.below_new w (.cells #[.int .u64 0,(0:Int),false] 139);have U:=M.alloc M.size (.map #[] 0);have y:=U.alloc U.size (.cells #[.pointer (some ⟨p,0,none⟩),.func (.func F) #[] cb,.map (some (w.heap.size+1))] 191);have q:=World.ownsMap_made (w.alloc (.cells #[.int .u64 0,(0:Int),false] 139)) Tryz.prog 3 Qb;rw[s1] at q;have a3:qm C ((w.alloc (.cells #[.int .u64 0,(0:Int),false] 139)).alloc (.map #[] 0)) (w.heap.size+1) vars st.1 []:=⟨⟨_,q,Rep.empty⟩,(fun p hp=>by cases hp),(fun p hp=>by cases hp),by simp⟩;have hM:=(a3.new (Go.Proofs.YthifnefkdjkicaaGreatDoor.below_new _ (.cells #[.pointer (some ⟨p,0,none⟩),.func (.func F) #[] cb,.map (some (w.heap.size+1))] 191))).new zF.drew;have cx:Yc w B p s b O vars room st F cb C (w.heap.size+1):=⟨hsol,hg,hl,h24,hent,hcok,hcat,by omega⟩;have a5:Hid (zC 97 #[.agg #[.pointer (some ⟨p,0,none⟩),.func (.func F) #[] cb,.map (some (w.heap.size+1))],(0:Int),st.2] (((w.alloc (.cells #[.int .u64 0,(0:Int),false] 139)).alloc (.map #[] 0)).alloc (.cells #[.pointer (some ⟨p,0,none⟩),.func (.func F) #[] cb,.map (some (w.heap.size+1))] 191)).drew fun e w'=>e=.returned (zw C vars st.1 st.2 0).val/\∃L',qm C w' (w.heap.size+1) vars st.1 L'/\zc (fun k=>k=w.heap.size+1) (((w.alloc (.cells #[.int .u64 0,(0:Int),false] 139)).alloc (.map #[] 0)).alloc (.cells #[.pointer (some ⟨p,0,none⟩),.func (.func F) #[] cb,.map (some (w.heap.size+1))] 191)).drew w'):=zo3 cx st.2 0 [] _ y.drew hM hh (qx hg.ranked st.2).1 (Nat.zero_le _);have k0:=((Blk.new w 139 #[.int .u64 0,(0:Int),false]).alloc (.map #[] 0)).alloc (.cells #[.pointer (some ⟨p,0,none⟩),.func (.func F) #[] cb,.map (some (w.heap.size+1))] 191);have a4:Blk (((w.alloc (.cells #[.int .u64 0,(0:Int),false] 139)).alloc (.map #[] 0)).alloc (.cells #[.pointer (some ⟨p,0,none⟩),.func (.func F) #[] cb,.map (some (w.heap.size+1))] 191)).drew w.heap.size 139 #[.int .u64 0,(0:Int),false]:=k0.below zF.drew k0.lt;have k1:=Blk.new ((w.alloc (.cells #[.int .u64 0,(0:Int),false] 139)).alloc (.map #[] 0)) 191 #[.pointer (some ⟨p,0,none⟩),.func (.func F) #[] cb,.map (some (w.heap.size+1))];rw[s2] at k1;have cp:=(hsol.new y).blk.cell 1;have Y:=zH (k1.below zF.drew k1.lt);have Z:=zH ((hsol.new y).new zF.drew).blk;have aa:=hsol.blk.lt;have a0:=k1.cell 0;have a1:=k1.cell 1;have a2:=k1.cell 2;have ab:=@run_makeMap Tryz.prog;have ac:(store ⟨w.heap.size+1+1,1,none⟩ (Value.func (Fn.func F) #[] cb)).run Tryz.prog (((w.alloc (.cells #[.int .u64 0,(0:Int),false] 139)).alloc (.map #[] 0)).alloc (.cells #[.pointer (some ⟨p,0,none⟩),.nilFunc,.map none] 191))=.ok () (((w.alloc (.cells #[.int .u64 0,(0:Int),false] 139)).alloc (.map #[] 0)).alloc (.cells #[.pointer (some ⟨p,0,none⟩),.func (.func F) #[] cb,.map none] 191)):=by
  have kz:=Blk.new ((w.alloc (.cells #[.int .u64 0,(0:Int),false] 139)).alloc (.map #[] 0)) 191 #[.pointer (some ⟨p,0,none⟩),.nilFunc,.map none];rw[s2] at kz;have c1:(((w.alloc (.cells #[.int .u64 0,(0:Int),false] 139)).alloc (.map #[] 0)).alloc (.cells #[.pointer (some ⟨p,0,none⟩),.nilFunc,.map none] 191)).cell? ⟨w.heap.size+1+1,1,none⟩=some .nilFunc:=kz.cell 1;rw[run_store _ _ _ _ _ (by rfl),c1,kz.frozen 1];exact congrArg (fun X=>Result.ok () X) (World.setCell_alloc_at _ _ _ _ _ s2.symm)
 have V:=zH y;have a6:=zH a4;clear hM a3 q cx M U y k0 a4 k1 hsol hg hcat hent hcok;generalize zw C vars st.1 st.2 0=R at *;go_enter Tryz.func64,Tryz.ntmps64;go_upto_region 2 with fail;generalize ((w.alloc (.cells #[.int .u64 0,(0:Int),false] 139)).alloc (.map #[] 0)).alloc (.cells #[.pointer (some ⟨p,0,none⟩),.func (.func F) #[] cb,.map (some (w.heap.size+1))] 191)=WA at *;have S0:WA.drew.cell? ⟨w.heap.size+1+1,0,none⟩=some (.pointer (some ⟨p,0,none⟩))/\WA.drew.cell? ⟨w.heap.size+1+1,1,none⟩=some (.func (.func F) #[] cb)/\WA.drew.cell? ⟨w.heap.size+1+1,2,none⟩=some (.map (some (w.heap.size+1)))/\WA.drew.cell? ⟨p,1,none⟩=some (.int .i64 st.2):=⟨a0,a1,a2,cp⟩;have SK:Hid (∀X,zc (fun k=>k=w.heap.size+1\/k=w.heap.size) WA.drew X->X.cell? ⟨w.heap.size+1+1,0,none⟩=some (.pointer (some ⟨p,0,none⟩))/\X.cell? ⟨w.heap.size+1+1,1,none⟩=some (.func (.func F) #[] cb)/\X.cell? ⟨w.heap.size+1+1,2,none⟩=some (.map (some (w.heap.size+1)))/\X.cell? ⟨p,1,none⟩=some (.int .i64 st.2)):=fun X hk=>by
  have k3:=Y.out.keptB hk (by omega);have k4:=Z.out.keptB hk (by omega);exact⟨k3.cell 0,k3.cell 1,k3.cell 2,k4.cell 1⟩
 have a7:Hid (∀X,zc (fun k=>k=w.heap.size+1) WA.drew X->zc (fun k=>k=w.heap.size+1\/k=w.heap.size) WA.drew (((X.setCell w.heap.size (.int .u64 R.items)).setCell ⟨w.heap.size,1,none⟩ (.int .i64 R.cost)).setCell ⟨w.heap.size,2,none⟩ (.bool R.can))):=fun X hk =>
  ((((zc.refl (fun k=>k=w.heap.size+1\/k=w.heap.size) WA.drew).andThen hk (fun _ h _=>Or.inl h)).andThen (zc.setCell (S:=fun k=>k=w.heap.size) X w.heap.size _ rfl) (fun _ h _=>Or.inr h)).andThen (zc.setCell (S:=fun k=>k=w.heap.size) _ ⟨w.heap.size,1,none⟩ _ rfl) (fun _ h _=>Or.inr h)).andThen (zc.setCell (S:=fun k=>k=w.heap.size) _ ⟨w.heap.size,2,none⟩ _ rfl) (fun _ h _=>Or.inr h)
 have a8:Hid (∀X,zc (fun k=>k=w.heap.size+1) WA.drew X->X.cell? ⟨w.heap.size+1+1,0,none⟩=some (.pointer (some ⟨p,0,none⟩))/\X.cell? ⟨w.heap.size+1+1,1,none⟩=some (.func (.func F) #[] cb)/\X.cell? ⟨w.heap.size+1+1,2,none⟩=some (.map (some (w.heap.size+1)))/\X.cell? ⟨p,1,none⟩=some (.int .i64 st.2)):=fun X hk=>by
  have k3:=Y.out.keptB hk (by omega);have k4:=Z.out.keptB hk (by omega);exact⟨k3.cell 0,k3.cell 1,k3.cell 2,k4.cell 1⟩
 clear a0 a1 a2 cp;go_region_held3 (fun X=>X.cell? ⟨w.heap.size+1+1,0,none⟩=some (.pointer (some ⟨p,0,none⟩))/\X.cell? ⟨w.heap.size+1+1,1,none⟩=some (.func (.func F) #[] cb)/\X.cell? ⟨w.heap.size+1+1,2,none⟩=some (.map (some (w.heap.size+1)))/\X.cell? ⟨p,1,none⟩=some (.int .i64 st.2)) (first|with_reducible exact S0|with_reducible exact S1|with_reducible exact S2)
  (first
   | (go_at_call 97;with_reducible refine a5.out.mono ?_;rintro e w2 ⟨rfl,L2,a9,J⟩;have k2:=a6.out.keptB J (by omega);have S1:=a8.out _ J;have S2:=SK.out _ (a7.out _ J);have z0:=k2.cell 0;have z1:=k2.cell 1;have z2:=k2.cell 2;have y0:=k2.frozen 0;have y1:=k2.frozen 1;have y2:=k2.frozen 2;unfold Wy.val))
 all_goals
  have o:=set3 k2 (.int .u64 R.items) (.int .i64 R.cost) (.bool R.can);have r0:=o.cell 0;have r1:=o.cell 1;have r2:=o.cell 2;have K:Hid (zB w (((w2.setCell w.heap.size (.int .u64 R.items)).setCell ⟨w.heap.size,1,none⟩ (.int .i64 R.cost)).setCell ⟨w.heap.size,2,none⟩ (.bool R.can))) :=
   (((V.out.drew.trans (J.below V.out.size (fun j e=>by omega))).setCell (p:=w.heap.size) zN _).setCell (p:=⟨w.heap.size,1,none⟩) zN _).setCell (p:=⟨w.heap.size,2,none⟩) zN _
  clear o k2 z0 z1 z2 y0 y1 y2 a9 J;go_wp2;refine bodyPost_ret (v:=.agg #[.int .u64 R.items,R.cost,R.can]) (by simp[results,Tryz.f64,go_sem,r0,r1,r2]) rfl ?_;exact⟨rfl,K.out⟩
end
end Bd
namespace Bd
open Go.RowKit Go.Maps Go.Deep
def Qa(b:Bool):Int:=if b then 1 else 0
theorem zdv(x:Bool)(w:World):zC 29 #[x] w fun e w'=>e=.returned (.int .i64 (Qa x))/\w=w':=by
 cases x
 ·go_enter Tryz.func29,Tryz.ntmps29;go_wp2;go_ret;exact⟨rfl,rfl⟩
 ·go_enter Tryz.func29,Tryz.ntmps29;go_wp2;go_ret;exact⟨rfl,rfl⟩
section
variable {B p s b:Nat} {O:Nat->Prop} {vars:Nat} {room:Int} {st:List Nd × Int} {F:FuncId} {cb:Array Value} {C:zJ} {w:World}
theorem zfh(hsol:Zh B w p s b O vars room st)(hl:st.1.length<=90000)(hh:zj st.1 st.2=true):zR 31 #[.pointer (some p)] w .nilIface:=by
 have j:Hid (∀n,zC 54 #[.pointer (some s)] (w.drewN n) fun e w'=>e=.returned (.bool false)/\w'=w.drewN n):=fun n=>(zdH (hsol.space.new (yV _ w n))).mono fun e w' ⟨h1,h2⟩=>⟨h1,h2.symm⟩;have o:Hid (∀n,zC 65 #[.pointer (some b),st.2] (w.drewN n) fun e w'=>e=.returned (.bool true)/\w'=w.drewN n):=fun n=>(zdp (hsol.space.new (yV _ w n)) st.2 (xX hh (by omega)) hl).mono fun e w' ⟨h1,h2⟩=>⟨by rw[h1,hh],h2.symm⟩;have c0:_=some (Value.pointer (some s)):=hsol.blk.cell 0;have c1:_=some (Value.int .i64 st.2):=hsol.blk.cell 1;have c2:w.cell? s=some (.pointer (some b)):=hsol.space.c0;clear hsol;go_enter Tryz.func31,Tryz.ntmps31;go_wp2_with fail;go_quiet (first|(go_at_call 54;refine Calls.quiet_of_same (j.out _))|(go_at_call 65;refine Calls.quiet_of_same (o.out _)));go_wp2;go_ret;exact⟨rfl,yV _ w _⟩
end
end Bd
namespace Bd
open Go.RowKit Go.Maps Go.Deep
def Wy.best(x:Wy):Value:=.tuple (if x.can then #[.int .u64 x.items,.nilIface] else #[.int .u64 0,.iface 42 (.int .i64 8)])
section
variable {B p s b:Nat} {O:Nat->Prop} {vars:Nat} {room:Int} {st:List Nd × Int} {F:FuncId} {cb:Array Value} {C:zJ} {w:World}
theorem ZA.new{W0 W1:World}(h:ZA W0 F cb C vars)(hb:zB W0 W1):ZA W1 F cb C vars:=fun W i bb hW hi=>h W i bb (zT hb hW) hi
theorem zas(hsol:Zh B w p s b O vars room st)(hg:zU vars st.1)(hl:st.1.length<=90000)(h24:vars<=24)(hent:∀j w,(callFunc F j).run Tryz.prog w=.ok (.enter F j) w)(hcok:Zj C)(hcat:ZA w F cb C vars)(hh:zj st.1 st.2=true) :
  zC 27 #[.pointer (some p),.func (.func F) #[] cb] w fun e w'=>e=.returned (zw C vars st.1 st.2 0).best/\zB w w':=by
 have y:=zH (zfh hsol hl hh);have q:Hid (∀W,zB w W->zC 64 #[.pointer (some p),.func (.func F) #[] cb] W fun e w'=>e=.returned (zw C vars st.1 st.2 0).val/\zB W w'):=fun W hW=>znq (hsol.new hW) hg hl h24 hent hcok (hcat.new hW) hh;clear hsol hg hcat hh hent hcok;generalize zw C vars st.1 st.2 0=R at *;obtain⟨ri,rc,rb⟩:=R;unfold Wy.val at q;unfold Wy.best;go_enter Tryz.func27,Tryz.ntmps27;go_wp2_with fail;refine y.out.mono ?_;rintro e w2 ⟨rfl,o⟩;clear y;go_wp2_with fail;refine(q.out _ o).mono ?_;rintro e w4 ⟨rfl,u⟩;have kb:=Blk.new w4 139 #[.int .u64 ri,rc,rb];have q0:=kb.cell 0;have q2:=kb.cell 2;have HB:Hid (zB w (w4.alloc (.cells #[.int .u64 ri,rc,rb] 139))):=(zT o u).alloc (Nat.le_trans o.size u.size) _;clear kb o u q;go_upto_region 5 with fail;generalize w4.alloc (.cells #[.int .u64 ri,rc,rb] 139)=W5 at *;cases rb with
 |false =>go_wp2;go_ret2;exact⟨rfl,HB.out⟩
 |true =>go_wp2;go_ret2;exact⟨rfl,HB.out⟩
def YE:zJ:=fun _ b=>Qa b
theorem KD(x:Bool):0<=Qa x/\Qa x<=1000000:=by unfold Qa;split<;>omega
theorem zpW:∀j w,(callFunc 28 j).run Tryz.prog w=.ok (.enter 28 j) w:=by intro j w;kernel_rfl
theorem zjX(i:Int)(bb:Bool)(w:World):zR 28 #[i,bb] w (.int .i64 (Qa bb)):=by
 have HO:=zH (zdv bb w);go_enter Tryz.func28,Tryz.ntmps28;go_wp2_with fail;refine HO.out.mono ?_;rintro e w1 ⟨rfl,rfl⟩;go_wp2;go_ret;exact⟨rfl,Below.refl _ _⟩
theorem znM(hsol:Zh B w p s b O vars room st)(hg:zU vars st.1)(hl:st.1.length<=90000)(h24:vars<=24)(hh:zj st.1 st.2=true) :
  zC 11 #[.pointer (some p)] w fun e w'=>e=.returned (zw YE vars st.1 st.2 0).best/\zB w w':=by
 have HS:=zH (zas (F:=28) (cb:=#[]) (C:=YE) hsol hg hl h24 zpW (fun _ b=>KD b) (fun W i bb _ _=>zjX i bb W) hh);clear hsol hg hh;generalize zw YE vars st.1 st.2 0=R at *;obtain⟨ri,rc,rb⟩:=R;unfold Wy.best at *;cases rb with
 |false =>go_enter Tryz.func11,Tryz.ntmps11;go_wp2_with fail;refine HS.out.mono ?_;rintro e w1 ⟨rfl,hb⟩;have HB:=zH hb;clear HS hb;go_wp2;go_ret2;exact⟨rfl,HB.out⟩
 |true =>go_enter Tryz.func11,Tryz.ntmps11;go_wp2_with fail;refine HS.out.mono ?_;rintro e w1 ⟨rfl,hb⟩;have HB:=zH hb;clear HS hb;go_wp2;go_ret2;exact⟨rfl,HB.out⟩
def ZO(now:Nat):zJ:=fun i b=>Qa (b != now.testBit i)
theorem zig:∀j w,(callFunc 30 j).run Tryz.prog w=.ok (.enter 30 j) w:=by intro j w;kernel_rfl
theorem zg1(now i:Nat)(bb:Bool)(a:Nat)(w:World)(hi:i<64)(hnow:now<2^64)(ha:w.cell? a=some (.int .u64 now)):zR 30 #[i,bb,.pointer (some a)] w (.int .i64 (ZO now i bb)):=by
 have HO:=zH (zdv (bb != now.testBit i) w);have hs:=XB now i (by omega);have hR:(!(bb==now.testBit i))=(bb != now.testBit i):=rfl;unfold ZO;go_enter Tryz.func30,Tryz.ntmps30;go_wp2_with fail;refine HO.out.mono ?_;rintro e w1 ⟨rfl,rfl⟩;go_wp2;go_ret;exact⟨rfl,Below.refl _ _⟩
theorem zgU(now vars:Nat)(hv:vars<=24)(hnow:now<2^64){a:Nat}{W0:World}(ha:a<W0.heap.size)(ca:W0.cell? a=some (.int .u64 now)):ZA W0 30 #[.pointer (some a)] (ZO now) vars:=fun W j bb hW hj =>
 zg1 now j bb a W (by omega) hnow ((hW.cell (p:=a) ha).trans ca)
theorem zhc(hsol:Zh B w p s b O vars room st)(hg:zU vars st.1)(hl:st.1.length<=90000)(h24:vars<=24)(hh:zj st.1 st.2=true)(now:Nat)(hnow:now<2^64) :
  zC 12 #[.pointer (some p),.int .u64 now] w fun e w'=>e=.returned (zw (ZO now) vars st.1 st.2 0).best/\zB w w':=by
 have o:=Go.Proofs.YthifnefkdjkicaaGreatDoor.below_new w (.cells #[.int .u64 now] 22);have HS:=zH (zas (F:=30) (cb:=#[.pointer (some w.heap.size)]) (C:=ZO now) (hsol.new o) hg hl h24 zig (fun i b=>KD _) (zgU now vars h24 hnow (by simp) (by simp)) hh);have j:=zH o;clear hsol hg hh o;generalize zw (ZO now) vars st.1 st.2 0=R at *;obtain⟨ri,rc,rb⟩:=R;unfold Wy.best at *;cases rb with
 |false =>go_enter Tryz.func12,Tryz.ntmps12;go_wp2_with fail;refine HS.out.mono ?_;rintro e w1 ⟨rfl,hb⟩;have HB:Hid (zB w w1):=zT j.out hb;clear HS hb j;go_wp2;go_ret2;exact⟨rfl,HB.out⟩
 |true =>go_enter Tryz.func12,Tryz.ntmps12;go_wp2_with fail;refine HS.out.mono ?_;rintro e w1 ⟨rfl,hb⟩;have HB:Hid (zB w w1):=zT j.out hb;clear HS hb j;go_wp2;go_ret2;exact⟨rfl,HB.out⟩
end
end Bd
end Go.Proofs.YthifnefkdjkicaaGreatDoor
