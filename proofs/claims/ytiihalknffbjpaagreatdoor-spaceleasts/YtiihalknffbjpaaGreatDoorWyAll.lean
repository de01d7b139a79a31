/- space: from and below of every node; cheapest. -/
import Derived.Test.YtiihalknffbjpaaGreatDoorWyFrom
import Derived.Test.YtiihalknffbjpaaGreatDoorSpSmall
set_option maxHeartbeats 4000000
set_option maxRecDepth 100000
namespace Go.Proofs.YtiihalknffbjpaaGreatDoor.Bd
open Go.RowKit Go.Maps Go.Deep
theorem way_put {C:Cost} {w:World} {dk vars:Nat} {ns:List Nd} {L:List (Int × Wy)} (hD:WayM C w dk vars ns L) {a:Int} (ha:I64 a) (ht:topOf ns a ≠ 24) (hl:ns.length<=90000) :
  ∃ w' L',(Instr.mapUpdate 355 (.map (some dk)) (.int .i64 a) (belowW C vars ns a).val).run Tryz.prog w=.ok () w'/\WayM C w' dk vars ns L'/\Kept (fun j=>j=dk) w w':=by
 have hlen:=hD.len
 obtain ⟨D,hDm,hR⟩:=hD.hmap
 by_cases hm:a ∈ L.map Prod.fst
 ·obtain ⟨w',hrun,h1,h2⟩:=hDm.update lawI Tryz.underlying355 (by unfold maxLen;omega) (keyI ha) (wayR_val (belowW C vars ns a))
  have hk:Kept (fun k=>k=dk) w w':=Kept.of_grown h2 (fun i h=>by cases h;rfl)
  have hR':WRep (D.put (.int .i64 a) (belowW C vars ns a).dat) (L.map fun q=>if q.1=a then (q.1,belowW C vars ns a) else q):=Rep.put_over hR (fun a b _ _ e=>by injection e) (fun _=>trivial) _ hm
  have hfst:(L.map fun q=>if q.1=a then (q.1,belowW C vars ns a) else q).map Prod.fst=L.map Prod.fst:=by
   rw [List.map_map]
   apply List.map_congr_left
   intro q _
   simp only [Function.comp]
   split <;> rfl
  refine ⟨w',_,hrun,⟨⟨_,hR'.size ▸ ownsMap_norm h1,hR'⟩,fun p hp=>?_,fun p hp=>?_,by rw [hfst];exact hD.nodup⟩,hk⟩
  ·obtain ⟨q,hq,rfl⟩:=List.mem_map.1 hp
   split
   ·exact hD.keys q hq
   ·exact hD.keys q hq
  ·obtain ⟨q,hq,rfl⟩:=List.mem_map.1 hp
   split
   ·rename_i e;rw [e]
   ·exact hD.vals q hq
 ·obtain ⟨w',D',hrun,h1,h2,h3⟩:=wstore hDm hR (by omega) ha hm (belowW C vars ns a)
  refine ⟨w',_,hrun,⟨⟨D',h1,h2⟩,fun p hp=>?_,fun p hp=>?_,?_⟩,h3⟩
  ·rcases List.mem_append.1 hp with hp | hp
   ·exact hD.keys p hp
   ·rw [List.mem_singleton] at hp;subst hp;exact ht
  ·rcases List.mem_append.1 hp with hp | hp
   ·exact hD.vals p hp
   ·rw [List.mem_singleton] at hp;subst hp;rfl
  ·rw [List.map_append,List.nodup_append]
   refine ⟨hD.nodup,by simp,fun x hx y hy e=>?_⟩
   simp at hy
   subst hy
   exact hm (e ▸ hx)
section
variable {W0:World} {B p s b:Nat} {O:Nat->Prop} {vars:Nat} {room:Int} {st:List Nd × Int} {F:FuncId} {cb:Array Value} {C:Cost} {dk:Nat}
structure NS (C:Cost) (W0 W:World) (p dk vars:Nat) (ns:List Nd) (F:FuncId) (cb:Array Value) (nb:Nat) (gv gl gh:Int) (X:World):Prop where
 w0:Blk X W.heap.size 357 #[.pointer (some ⟨p,0,none⟩),.func (.func F) #[] cb,.map (some dk)]
 w1:Blk X (W.heap.size + 1) 279 #[.int .u64 0,.int .i64 0,.bool false]
 w2:Blk X nb 176 #[.int .i64 gv,.int .i64 gl,.int .i64 gh]
 q1:W.heap.size + 1<nb
 dq:dk<W.heap.size
 bel:Below W0.heap.size W0 X
 way:∃ L',WayM C X dk vars ns L'
 kep:Kept (fun k=>k=dk) W X
variable {W X X':World} {ns:List Nd} {nb:Nat} {gv gl gh:Int}
theorem NS.kept (h:NS C W0 W p dk vars ns F cb nb gv gl gh X) (hd:W0.heap.size<=dk) (hk:Kept (fun k=>k=dk) X X') (hw:∃ L',WayM C X' dk vars ns L'):NS C W0 W p dk vars ns F cb nb gv gl gh X':=by
 have h1:=h.q1
 have h2:=h.dq
 exact ⟨h.w0.keptB hk (by omega),h.w1.keptB hk (by omega),h.w2.keptB hk (by omega),h1,h2,h.bel.trans (hk.below h.bel.size (fun i e=>by omega)),hw,h.kep.andThen hk (fun _ h _=>h)⟩
theorem NS.below (h:NS C W0 W p dk vars ns F cb nb gv gl gh X) (hb:Below X.heap.size X X'):NS C W0 W p dk vars ns F cb nb gv gl gh X':=by
 obtain ⟨L',hL⟩:=h.way
 exact ⟨h.w0.below hb h.w0.lt,h.w1.below hb h.w1.lt,h.w2.below hb h.w2.lt,h.q1,h.dq,h.bel.trans (hb.mono h.bel.size),⟨L',hL.new hb⟩,h.kep.andThen (Kept.of_below hb (fun _=>False)) (fun _ h _=>h.elim)⟩
theorem NS.sc (h:NS C W0 W p dk vars ns F cb nb gv gl gh X):X.cell? ⟨W.heap.size,0,none⟩=some (.pointer (some ⟨p,0,none⟩))/\X.cell? ⟨W.heap.size,1,none⟩=some (.func (.func F) #[] cb)/\X.cell? ⟨W.heap.size,2,none⟩=some (.map (some dk))/\X.cell? ⟨nb,0,none⟩=some (.int .i64 gv)/\X.cell? ⟨nb,1,none⟩=some (.int .i64 gl)/\X.cell? ⟨nb,2,none⟩=some (.int .i64 gh) :=
 ⟨h.w0.cell 0,h.w0.cell 1,h.w0.cell 2,h.w2.cell 0,h.w2.cell 1,h.w2.cell 2⟩
theorem NS.put (h:NS C W0 W p dk vars ns F cb nb gv gl gh X) (hW:W0.heap.size<=W.heap.size) {q:Nat} (hq:W.heap.size + 1<q) (hqn:q ≠ nb) (x y z:Value):NS C W0 W p dk vars ns F cb nb gv gl gh (((X.setCell ⟨q,0,none⟩ x).setCell ⟨q,1,none⟩ y).setCell ⟨q,2,none⟩ z):=by
 obtain ⟨L',hL⟩:=h.way
 have h2:=h.dq
 have hk:Kept (fun k=>k=q) X (((X.setCell ⟨q,0,none⟩ x).setCell ⟨q,1,none⟩ y).setCell ⟨q,2,none⟩ z) :=
  ((Kept.setCell (S:=fun k=>k=q) X ⟨q,0,none⟩ _ rfl).andThen (Kept.setCell (S:=fun k=>k=q) _ ⟨q,1,none⟩ _ rfl) (fun _ h _=>h)).andThen (Kept.setCell (S:=fun k=>k=q) _ ⟨q,2,none⟩ _ rfl) (fun _ h _=>h)
 exact ⟨h.w0.keptB hk (by omega),h.w1.keptB hk (by omega),h.w2.keptB hk (fun e=>hqn e.symm),h.q1,h2,h.bel.trans (hk.below h.bel.size (fun i e=>by omega)),⟨L',hL.kept hk (by omega)⟩,h.kep.andThen hk (fun i e hi=>by omega)⟩
theorem way_res (x:Wy) (hdq:dk<W.heap.size) (way:∃ L',WayM C X dk vars ns L') (kep:Kept (fun k=>k=dk) W X) :
  ∃ L',WayM C (((X.setCell ⟨W.heap.size + 1,0,none⟩ (.int .u64 (x.items:Int))).setCell ⟨W.heap.size + 1,1,none⟩ (.int .i64 x.cost)).setCell ⟨W.heap.size + 1,2,none⟩ (.bool x.can)) dk vars ns L'/\Kept (fun k=>k=dk) W (((X.setCell ⟨W.heap.size + 1,0,none⟩ (.int .u64 (x.items:Int))).setCell ⟨W.heap.size + 1,1,none⟩ (.int .i64 x.cost)).setCell ⟨W.heap.size + 1,2,none⟩ (.bool x.can)):=by
 obtain ⟨L',hL⟩:=way
 have hk:Kept (fun k=>k=W.heap.size + 1) X (((X.setCell ⟨W.heap.size + 1,0,none⟩ (.int .u64 (x.items:Int))).setCell ⟨W.heap.size + 1,1,none⟩ (.int .i64 x.cost)).setCell ⟨W.heap.size + 1,2,none⟩ (.bool x.can)) :=
  ((Kept.setCell (S:=fun k=>k=W.heap.size + 1) X ⟨W.heap.size + 1,0,none⟩ _ rfl).andThen (Kept.setCell (S:=fun k=>k=W.heap.size + 1) _ ⟨W.heap.size + 1,1,none⟩ _ rfl) (fun _ h _=>h)).andThen (Kept.setCell (S:=fun k=>k=W.heap.size + 1) _ ⟨W.heap.size + 1,2,none⟩ _ rfl) (fun _ h _=>h)
 exact ⟨L',hL.kept hk (by omega),kep.andThen hk (fun i e hi=>by omega)⟩
theorem below_head {h:Int} {L:List (Int × Wy)} {W:World} (hW:Below W0.heap.size W0 W) (hM:WayM C W dk vars st.1 L) {w1:World} (hb1:Below ((W.alloc (.cells #[.pointer (some ⟨p,0,none⟩),.func (.func F) #[] cb,.map (some dk)] 357)).alloc (.cells #[.int .u64 0,.int .i64 0,.bool false] 279)).heap.size ((W.alloc (.cells #[.pointer (some ⟨p,0,none⟩),.func (.func F) #[] cb,.map (some dk)] 357)).alloc (.cells #[.int .u64 0,.int .i64 0,.bool false] 279)) w1) :
  NS C W0 W p dk vars st.1 F cb w1.heap.size (getOf st.1 h).v (getOf st.1 h).l (getOf st.1 h).h (w1.alloc (.cells #[.int .i64 (getOf st.1 h).v,.int .i64 (getOf st.1 h).l,.int .i64 (getOf st.1 h).h] 176)):=by
 have k0:=(Blk.new W 357 #[.pointer (some ⟨p,0,none⟩),.func (.func F) #[] cb,.map (some dk)]).alloc (.cells #[.int .u64 0,.int .i64 0,.bool false] 279)
 have k1:=Blk.new (W.alloc (.cells #[.pointer (some ⟨p,0,none⟩),.func (.func F) #[] cb,.map (some dk)] 357)) 279 #[.int .u64 0,.int .i64 0,.bool false]
 simp only [World.size_alloc] at k1
 have hbA:Below W.heap.size W ((W.alloc (.cells #[.pointer (some ⟨p,0,none⟩),.func (.func F) #[] cb,.map (some dk)] 357)).alloc (.cells #[.int .u64 0,.int .i64 0,.bool false] 279)):=((Below.refl _ W).alloc (Nat.le_refl _) _).alloc (by simp only [World.size_alloc];omega) _
 have hs:=hb1.size
 simp only [World.size_alloc] at hs
 have hb2:=Go.Proofs.YtiihalknffbjpaaGreatDoor.below_new w1 (.cells #[.int .i64 (getOf st.1 h).v,.int .i64 (getOf st.1 h).l,.int .i64 (getOf st.1 h).h] 176)
 have hb3:Below W.heap.size W (w1.alloc (.cells #[.int .i64 (getOf st.1 h).v,.int .i64 (getOf st.1 h).l,.int .i64 (getOf st.1 h).h] 176)):=(hbA.trans (hb1.mono hbA.size)).trans (hb2.mono (by omega))
 exact ⟨(k0.below hb1 k0.lt).alloc _,(k1.below hb1 k1.lt).alloc _,Blk.new _ _ _,by omega,hM.lt,hW.trans (hb3.mono hW.size),⟨L,hM.new hb3⟩,Kept.of_below hb3 _⟩
theorem below_endW (cx:WyCx W0 B p s b O vars room st F cb C dk) (h:Int) (L:List (Int × Wy)) (W:World) (hW:Below W0.heap.size W0 W) (hM:WayM C W dk vars st.1 L) (hh:hasB st.1 h=true) (ht:topOf st.1 h=24) :
  Calls Tryz.prog 298 #[wkV p F cb dk,.int .i64 h] W (WyOut C dk vars st.1 (belowW C vars st.1 h) W):=by
 have hi64:=has_i64 hh (by have:=cx.len;omega)
 have hbA:Below W.heap.size W ((W.alloc (.cells #[.pointer (some ⟨p,0,none⟩),.func (.func F) #[] cb,.map (some dk)] 357)).alloc (.cells #[.int .u64 0,.int .i64 0,.bool false] 279)):=((Below.refl _ W).alloc (Nat.le_refl _) _).alloc (by simp only [World.size_alloc];omega) _
 have hsolA:=cx.sol.new (hW.trans (hbA.mono hW.size))
 have k0:=(Blk.new W 357 #[.pointer (some ⟨p,0,none⟩),.func (.func F) #[] cb,.map (some dk)]).alloc (.cells #[.int .u64 0,.int .i64 0,.bool false] 279)
 have HG:=Lib.hid (spGet hsolA.space h hi64 (by have:=cx.len;omega))
 have HHD:Hid (∀ w1,Below ((W.alloc (.cells #[.pointer (some ⟨p,0,none⟩),.func (.func F) #[] cb,.map (some dk)] 357)).alloc (.cells #[.int .u64 0,.int .i64 0,.bool false] 279)).heap.size ((W.alloc (.cells #[.pointer (some ⟨p,0,none⟩),.func (.func F) #[] cb,.map (some dk)] 357)).alloc (.cells #[.int .u64 0,.int .i64 0,.bool false] 279)) w1->NS C W0 W p dk vars st.1 F cb w1.heap.size (getOf st.1 h).v (getOf st.1 h).l (getOf st.1 h).h (w1.alloc (.cells #[.int .i64 (getOf st.1 h).v,.int .i64 (getOf st.1 h).l,.int .i64 (getOf st.1 h).h] 176))):=fun w1 hb1=>below_head hW hM hb1
 have c0:=k0.cell 0
 have c1:((W.alloc (.cells #[.pointer (some ⟨p,0,none⟩),.func (.func F) #[] cb,.map (some dk)] 357)).alloc (.cells #[.int .u64 0,.int .i64 0,.bool false] 279)).cell? ⟨p,0,none⟩=some (.pointer (some ⟨s,0,none⟩)):=hsolA.blk.cell 0
 have c2:((W.alloc (.cells #[.pointer (some ⟨p,0,none⟩),.func (.func F) #[] cb,.map (some dk)] 357)).alloc (.cells #[.int .u64 0,.int .i64 0,.bool false] 279)).cell? ⟨s,0,none⟩=some (.pointer (some ⟨b,0,none⟩)):=hsolA.space.c0
 have HCX:=Lib.hid cx
 have hdkl:=cx.dkl
 have hdW:=hM.lt
 have hW0:=hW.size
 unfold Nd.val at HG
 have hR:belowW C vars st.1 h=⟨0,0,decide (h=1)⟩:=belowW_end hh ht cx.v24
 rw [decide_eq_false (show ¬ topOf st.1 h ≠ 24 from fun e=>e ht)] at HG
 have HR:=Lib.hid hR
 clear hM hsolA hR ht
 unfold wkV
 go_enter Tryz.func298,Tryz.ntmps298
 go_upto_region 1 with fail
 generalize (W.alloc (.cells #[.pointer (some ⟨p,0,none⟩),.func (.func F) #[] cb,.map (some dk)] 357)).alloc (.cells #[.int .u64 0,.int .i64 0,.bool false] 279)=WA at *
 go_wp2_with fail
 refine HG.out.mono ?_
 rintro e w1 ⟨rfl,hb1⟩
 have hns:=HHD.out w1 hb1
 have z0:=hns.w1.cell 0
 have z1:=hns.w1.cell 1
 have z2:=hns.w1.cell 2
 have y0:=hns.w1.frozen 0
 have y1:=hns.w1.frozen 1
 have y2:=hns.w1.frozen 2
 have hres:=set3 hns.w1 (.int .u64 0) (.int .i64 0) (.bool (h == 1))
 have r0:=hres.cell 0
 have r1:=hres.cell 1
 have r2:=hres.cell 2
 have HFIN:=Lib.hid (way_res ⟨0,0,h == 1⟩ hdW hns.way hns.kep)
 clear hres hns hb1 HG HHD c0 c1 c2 hbA k0
 go_wp2
 refine bodyPost_ret (v:=.agg #[.int .u64 0,.int .i64 0,.bool (h == 1)]) (by simp [results,Tryz.f298,go_sem,r0,r1,r2]) rfl ?_
 exact ⟨by rw [HR.out];rfl,HFIN.out⟩
theorem below_foundW (cx:WyCx W0 B p s b O vars room st F cb C dk) (h:Int) (L:List (Int × Wy)) (W:World) (hW:Below W0.heap.size W0 W) (hM:WayM C W dk vars st.1 L) (hh:hasB st.1 h=true) (ht:topOf st.1 h ≠ 24) (R:Wy) (hin:(h,R) ∈ L) :
  Calls Tryz.prog 298 #[wkV p F cb dk,.int .i64 h] W (WyOut C dk vars st.1 (belowW C vars st.1 h) W):=by
 have hi64:=has_i64 hh (by have:=cx.len;omega)
 have hbA:Below W.heap.size W ((W.alloc (.cells #[.pointer (some ⟨p,0,none⟩),.func (.func F) #[] cb,.map (some dk)] 357)).alloc (.cells #[.int .u64 0,.int .i64 0,.bool false] 279)):=((Below.refl _ W).alloc (Nat.le_refl _) _).alloc (by simp only [World.size_alloc];omega) _
 have hsolA:=cx.sol.new (hW.trans (hbA.mono hW.size))
 have k0:=(Blk.new W 357 #[.pointer (some ⟨p,0,none⟩),.func (.func F) #[] cb,.map (some dk)]).alloc (.cells #[.int .u64 0,.int .i64 0,.bool false] 279)
 have HG:=Lib.hid (spGet hsolA.space h hi64 (by have:=cx.len;omega))
 have HHD:Hid (∀ w1,Below ((W.alloc (.cells #[.pointer (some ⟨p,0,none⟩),.func (.func F) #[] cb,.map (some dk)] 357)).alloc (.cells #[.int .u64 0,.int .i64 0,.bool false] 279)).heap.size ((W.alloc (.cells #[.pointer (some ⟨p,0,none⟩),.func (.func F) #[] cb,.map (some dk)] 357)).alloc (.cells #[.int .u64 0,.int .i64 0,.bool false] 279)) w1->NS C W0 W p dk vars st.1 F cb w1.heap.size (getOf st.1 h).v (getOf st.1 h).l (getOf st.1 h).h (w1.alloc (.cells #[.int .i64 (getOf st.1 h).v,.int .i64 (getOf st.1 h).l,.int .i64 (getOf st.1 h).h] 176))):=fun w1 hb1=>below_head hW hM hb1
 have c0:=k0.cell 0
 have c1:((W.alloc (.cells #[.pointer (some ⟨p,0,none⟩),.func (.func F) #[] cb,.map (some dk)] 357)).alloc (.cells #[.int .u64 0,.int .i64 0,.bool false] 279)).cell? ⟨p,0,none⟩=some (.pointer (some ⟨s,0,none⟩)):=hsolA.blk.cell 0
 have c2:((W.alloc (.cells #[.pointer (some ⟨p,0,none⟩),.func (.func F) #[] cb,.map (some dk)] 357)).alloc (.cells #[.int .u64 0,.int .i64 0,.bool false] 279)).cell? ⟨s,0,none⟩=some (.pointer (some ⟨b,0,none⟩)):=hsolA.space.c0
 have HCX:=Lib.hid cx
 have hdkl:=cx.dkl
 have hdW:=hM.lt
 have hW0:=hW.size
 unfold Nd.val at HG
 have hR:belowW C vars st.1 h=R:=(hM.vals _ hin).symm
 rw [decide_eq_true ht] at HG
 have HR:=Lib.hid hR
 have HLK:Hid (∀ X,Kept (fun k=>False) W X->(Instr.lookup 355 (.map (some dk)) (.int .i64 h) true).run Tryz.prog X=.ok (.tuple #[R.val,.bool true]) X):=fun X hk=>by
  obtain ⟨D,hD,hRp⟩:=(hM.kept hk (fun h=>h)).hmap
  exact wlook_found hD hRp hin
 clear hM hsolA hR
 unfold wkV
 go_enter Tryz.func298,Tryz.ntmps298
 go_upto_region 1 with fail
 generalize (W.alloc (.cells #[.pointer (some ⟨p,0,none⟩),.func (.func F) #[] cb,.map (some dk)] 357)).alloc (.cells #[.int .u64 0,.int .i64 0,.bool false] 279)=WA at *
 go_wp2_with fail
 refine HG.out.mono ?_
 rintro e w1 ⟨rfl,hb1⟩
 have hns:=HHD.out w1 hb1
 have hk1:Kept (fun _=>False) W (w1.alloc (.cells #[.int .i64 (getOf st.1 h).v,.int .i64 (getOf st.1 h).l,.int .i64 (getOf st.1 h).h] 176)):=Kept.of_below ((hbA.trans (hb1.mono hbA.size)).alloc (Nat.le_trans hbA.size hb1.size) _) _
 have hlk:=HLK.out _ hk1
 have a2:=hns.w0.cell 2
 generalize getOf st.1 h=gt at *
 go_upto_region 2 with fail
 generalize w1.alloc (.cells #[.int .i64 gt.v,.int .i64 gt.l,.int .i64 gt.h] 176)=W2 at *
 unfold Wy.val at hlk
 have hn3:=hns.below (Go.Proofs.YtiihalknffbjpaaGreatDoor.below_new W2 (.cells #[.int .u64 (R.items:Int),.int .i64 R.cost,.bool R.can] 279))
 have z0:=hn3.w1.cell 0
 have z1:=hn3.w1.cell 1
 have z2:=hn3.w1.cell 2
 have y0:=hn3.w1.frozen 0
 have y1:=hn3.w1.frozen 1
 have y2:=hn3.w1.frozen 2
 have hres:=set3 hn3.w1 (.int .u64 (R.items:Int)) (.int .i64 R.cost) (.bool R.can)
 have r0:=hres.cell 0
 have r1:=hres.cell 1
 have r2:=hres.cell 2
 have HFIN:=Lib.hid (way_res R hdW hn3.way hn3.kep)
 clear hres hns hn3 hb1 HG HHD HLK c0 c1 c2 hbA k0 hk1
 go_wp2
 refine bodyPost_ret (v:=.agg #[.int .u64 (R.items:Int),.int .i64 R.cost,.bool R.can]) (by simp [results,Tryz.f298,go_sem,r0,r1,r2]) rfl ?_
 exact ⟨by rw [HR.out];rfl,HFIN.out⟩
end
end Go.Proofs.YtiihalknffbjpaaGreatDoor.Bd
namespace Go.Proofs.YtiihalknffbjpaaGreatDoor.Bd
open Go.RowKit Go.Maps Go.Deep
section
variable {W0:World} {B p s b:Nat} {O:Nat->Prop} {vars:Nat} {room:Int} {st:List Nd × Int} {F:FuncId} {cb:Array Value} {C:Cost} {dk:Nat} {W X X':World} {ns:List Nd} {nb:Nat} {gv gl gh:Int}
structure NQ (C:Cost) (W0 W:World) (p dk vars:Nat) (ns:List Nd) (F:FuncId) (cb:Array Value) (nb:Nat) (gv gl gh:Int) (q:Nat) (x:Wy) (X:World):Prop where
 ns:NS C W0 W p dk vars ns F cb nb gv gl gh X
 bx:Blk X q 279 #[.int .u64 (x.items:Int),.int .i64 x.cost,.bool x.can]
 q1:W.heap.size + 1<q
 qn:q ≠ nb
theorem NS.box (h:NS C W0 W p dk vars ns F cb nb gv gl gh X) (x:Wy):NQ C W0 W p dk vars ns F cb nb gv gl gh X.heap.size x (X.alloc (.cells #[.int .u64 (x.items:Int),.int .i64 x.cost,.bool x.can] 279)) :=
 ⟨h.below (Go.Proofs.YtiihalknffbjpaaGreatDoor.below_new X _),Blk.new _ _ _,by have:=h.w1.lt;have:=h.q1;have:=h.w2.lt;omega,by have:=h.w2.lt;omega⟩
theorem NS.box0 (h:NS C W0 W p dk vars ns F cb nb gv gl gh X):NQ C W0 W p dk vars ns F cb nb gv gl gh X.heap.size ⟨0,0,false⟩ (X.alloc (.cells #[.int .u64 0,.int .i64 0,.bool false] 279)):=h.box ⟨0,0,false⟩
theorem NQ.kept {q:Nat} {x:Wy} (h:NQ C W0 W p dk vars ns F cb nb gv gl gh q x X) (hd:W0.heap.size<=dk) (hk:Kept (fun k=>k=dk) X X') (hw:∃ L',WayM C X' dk vars ns L'):NQ C W0 W p dk vars ns F cb nb gv gl gh q x X' :=
 ⟨h.ns.kept hd hk hw,h.bx.keptB hk (by have:=h.q1;have:=h.ns.dq;omega),h.q1,h.qn⟩
theorem NQ.below {q:Nat} {x:Wy} (h:NQ C W0 W p dk vars ns F cb nb gv gl gh q x X) (hb:Below X.heap.size X X'):NQ C W0 W p dk vars ns F cb nb gv gl gh q x X':=⟨h.ns.below hb,h.bx.below hb h.bx.lt,h.q1,h.qn⟩
theorem NQ.put {q:Nat} {x:Wy} (h:NQ C W0 W p dk vars ns F cb nb gv gl gh q x X) (hW:W0.heap.size<=W.heap.size) (y:Wy):NQ C W0 W p dk vars ns F cb nb gv gl gh q y (((X.setCell ⟨q,0,none⟩ (.int .u64 (y.items:Int))).setCell ⟨q,1,none⟩ (.int .i64 y.cost)).setCell ⟨q,2,none⟩ (.bool y.can)) :=
 ⟨h.ns.put hW h.q1 h.qn _ _ _,set3 h.bx _ _ _,h.q1,h.qn⟩
def NQat (C:Cost) (W0 W:World) (p dk vars:Nat) (ns:List Nd) (F:FuncId) (cb:Array Value) (nb:Nat) (gv gl gh:Int) (x:Wy) (qv:Value) (X:World):Prop:=∃ q,qv=.pointer (some ⟨q,0,none⟩)/\NQ C W0 W p dk vars ns F cb nb gv gl gh q x X
theorem below_makesW (cx:WyCx W0 B p s b O vars room st F cb C dk) {d:Nat} (hF:FromOkW W0 p vars st.1 F cb C dk d) (h:Int) (L:List (Int × Wy)) (W:World) (hW:Below W0.heap.size W0 W) (hM:WayM C W dk vars st.1 L) (hh:hasB st.1 h=true) (ht:topOf st.1 h ≠ 24) (hd:24<=topOf st.1 h + ((d + 1:Nat):Int)) (hnin:h ∉ L.map Prod.fst) :
  Calls Tryz.prog 298 #[wkV p F cb dk,.int .i64 h] W (WyOut C dk vars st.1 (belowW C vars st.1 h) W):=by
 have hi64:=has_i64 hh (by have:=cx.len;omega)
 have hbA:Below W.heap.size W ((W.alloc (.cells #[.pointer (some ⟨p,0,none⟩),.func (.func F) #[] cb,.map (some dk)] 357)).alloc (.cells #[.int .u64 0,.int .i64 0,.bool false] 279)):=((Below.refl _ W).alloc (Nat.le_refl _) _).alloc (by simp only [World.size_alloc];omega) _
 have hsolA:=cx.sol.new (hW.trans (hbA.mono hW.size))
 have k0:=(Blk.new W 357 #[.pointer (some ⟨p,0,none⟩),.func (.func F) #[] cb,.map (some dk)]).alloc (.cells #[.int .u64 0,.int .i64 0,.bool false] 279)
 have HG:=Lib.hid (spGet hsolA.space h hi64 (by have:=cx.len;omega))
 have HHD:Hid (∀ w1,Below ((W.alloc (.cells #[.pointer (some ⟨p,0,none⟩),.func (.func F) #[] cb,.map (some dk)] 357)).alloc (.cells #[.int .u64 0,.int .i64 0,.bool false] 279)).heap.size ((W.alloc (.cells #[.pointer (some ⟨p,0,none⟩),.func (.func F) #[] cb,.map (some dk)] 357)).alloc (.cells #[.int .u64 0,.int .i64 0,.bool false] 279)) w1->NS C W0 W p dk vars st.1 F cb w1.heap.size (getOf st.1 h).v (getOf st.1 h).l (getOf st.1 h).h (w1.alloc (.cells #[.int .i64 (getOf st.1 h).v,.int .i64 (getOf st.1 h).l,.int .i64 (getOf st.1 h).h] 176))):=fun w1 hb1=>below_head hW hM hb1
 have c0:=k0.cell 0
 have c1:((W.alloc (.cells #[.pointer (some ⟨p,0,none⟩),.func (.func F) #[] cb,.map (some dk)] 357)).alloc (.cells #[.int .u64 0,.int .i64 0,.bool false] 279)).cell? ⟨p,0,none⟩=some (.pointer (some ⟨s,0,none⟩)):=hsolA.blk.cell 0
 have c2:((W.alloc (.cells #[.pointer (some ⟨p,0,none⟩),.func (.func F) #[] cb,.map (some dk)] 357)).alloc (.cells #[.int .u64 0,.int .i64 0,.bool false] 279)).cell? ⟨s,0,none⟩=some (.pointer (some ⟨b,0,none⟩)):=hsolA.space.c0
 have hdkl:=cx.dkl
 have hdW:=hM.lt
 have hW0:=hW.size
 have hv24:=cx.v24
 unfold Nd.val at HG
 rw [decide_eq_true ht] at HG
 have hr:=cx.good.ranked
 have hgn:=getOf_node ht
 obtain ⟨t1,t2,t3,t4⟩:=kids hr ht
 have tv:=(node_at ht).2.2.1
 have htl:=top_lt hr ht
 have ht0:=(topOf_le hr h).1
 have htv:=top_vars cx.good ht
 have hRB:=belowW_node (C:=C) cx.good ht
 rw [<- hgn] at t1 t2 t3 t4 tv hRB
 obtain ⟨v,hv⟩:∃ v:Nat,topOf st.1 h=(v:Int):=⟨(topOf st.1 h).toNat,by omega⟩
 rw [hv] at t1 t3 tv hRB hd htl htv
 rw [Int.toNat_natCast] at hRB
 have HPUT:Hid (∀ X,(∃ L',WayM C X dk vars st.1 L')->∃ w' L',(Instr.mapUpdate 355 (.map (some dk)) (.int .i64 h) (belowW C vars st.1 h).val).run Tryz.prog X=.ok () w'/\WayM C w' dk vars st.1 L'/\Kept (fun j=>j=dk) X w'):=fun X ⟨L',hL⟩=>way_put hL hi64 ht cx.len
 have HLK:Hid (∀ X,Kept (fun _=>False) W X->(Instr.lookup 355 (.map (some dk)) (.int .i64 h) true).run Tryz.prog X=.ok (.tuple #[Wy.val ⟨0,0,false⟩,.bool false]) X):=fun X hk=>by
  obtain ⟨D,hD,hRp⟩:=(hM.kept hk (fun h=>h)).hmap
  exact wlook_none hD hRp hi64 hnin
 have oA:=fromW_ok (ns:=st.1) cx.cok hv24 (getOf st.1 h).l (v + 1)
 have oB:=fromW_ok (ns:=st.1) cx.cok hv24 (getOf st.1 h).h (v + 1)
 have hp24:2 ^ vars<=2 ^ 24:=Nat.pow_le_pow_right (by omega) hv24
 have HF1:Hid (∀ X,Below W0.heap.size W0 X->(∃ L',WayM C X dk vars st.1 L')->Calls Tryz.prog 237 #[wkV p F cb dk,.int .i64 ((v:Int) + 1),.int .i64 (getOf st.1 h).l] X fun e w'=>e=.returned (fromW C vars st.1 (getOf st.1 h).l (v + 1)).val/\∃ L',WayM C w' dk vars st.1 L'/\Kept (fun k=>k=dk) X w'):=fun X h1 ⟨L',h2⟩=>hF (getOf st.1 h).l (v + 1) L' X h1 h2 t2 (by omega) (by omega) (by omega)
 have HF2:Hid (∀ X,Below W0.heap.size W0 X->(∃ L',WayM C X dk vars st.1 L')->Calls Tryz.prog 237 #[wkV p F cb dk,.int .i64 ((v:Int) + 1),.int .i64 (getOf st.1 h).h] X fun e w'=>e=.returned (fromW C vars st.1 (getOf st.1 h).h (v + 1)).val/\∃ L',WayM C w' dk vars st.1 L'/\Kept (fun k=>k=dk) X w'):=fun X h1 ⟨L',h2⟩=>hF (getOf st.1 h).h (v + 1) L' X h1 h2 t4 (by omega) (by omega) (by omega)
 have HBT:Hid (∀ X,Below W0.heap.size W0 X->Calls Tryz.prog 299 #[wkV p F cb dk,.int .i64 (v:Int),(fromW C vars st.1 (getOf st.1 h).l (v + 1)).val,(fromW C vars st.1 (getOf st.1 h).h (v + 1)).val] X fun e w'=>e=.returned (belowW C vars st.1 h).val/\Below X.heap.size X w'):=fun X hX=>by
  rw [hRB]
  exact better_c F cb C vars hv24 cx.ent cx.cok cx.cat hX p dk v (by omega) _ _ ⟨oA.1,oA.2.1⟩ ⟨oB.1,oB.2.1⟩ (Nat.lt_of_lt_of_le (oB.2.2 (by omega)) hp24)
 generalize fromW C vars st.1 (getOf st.1 h).l (v + 1)=RA at *
 generalize fromW C vars st.1 (getOf st.1 h).h (v + 1)=RB at *
 generalize getOf st.1 h=gt at *
 obtain ⟨gv,gl,gh⟩:=gt
 simp only at *
 subst tv
 obtain ⟨R,hR⟩:∃ R,belowW C vars st.1 h=R:=⟨_,rfl⟩
 rw [hR] at HPUT HBT ⊢
 clear hM hsolA hR hRB t1 t2 t3 t4 hgn oA oB hF htl hr hv hd cx
 unfold wkV at *
 go_enter Tryz.func298,Tryz.ntmps298
 go_upto_region 1 with fail
 generalize (W.alloc (.cells #[.pointer (some ⟨p,0,none⟩),.func (.func F) #[] cb,.map (some dk)] 357)).alloc (.cells #[.int .u64 0,.int .i64 0,.bool false] 279)=WA at *
 go_wp2_with fail
 refine HG.out.mono ?_
 rintro e w1 ⟨rfl,hb1⟩
 have hns:=HHD.out w1 hb1
 have hk1:Kept (fun _=>False) W (w1.alloc (.cells #[.int .i64 v,.int .i64 gl,.int .i64 gh] 176)):=Kept.of_below ((hbA.trans (hb1.mono hbA.size)).alloc (Nat.le_trans hbA.size hb1.size) _) _
 have hlk:=HLK.out _ hk1
 unfold Wy.val at hlk
 have a2:=hns.w0.cell 2
 go_upto_region 2 with fail
 generalize w1.alloc (.cells #[.int .i64 v,.int .i64 gl,.int .i64 gh] 176)=W2 at *
 have hn3:=hns.below (Go.Proofs.YtiihalknffbjpaaGreatDoor.below_new W2 (.cells #[.int .u64 ((0:Nat):Int),.int .i64 0,.bool false] 279))
 clear hns hb1 HG HHD HLK c0 c1 c2 hbA k0 hk1
 go_upto_region 7 with fail
 unfold Wy.val at HF1 HF2 HBT HPUT
 have hn4:NS C W0 W p dk vars st.1 F cb w1.heap.size v gl gh (W2.alloc (.cells #[.int .u64 0,.int .i64 0,.bool false] 279)):=hn3
 generalize W2.alloc (.cells #[.int .u64 0,.int .i64 0,.bool false] 279)=W3 at *
 have N0:=hn4.below (Below.refl _ W3).drew
 have G0:=(hn4.box0).below (Below.refl _ _).drew
 have s0:=N0.sc
 have t0:=G0.ns.sc
 have hv0:(0:Int)<=v:=by omega
 have hv23:(v:Int) + 1<=24:=by omega
 clear hn3 hn4 hlk a2
 generalize w1.heap.size=nb at *
 have hwp:IntKind.i64.wrap ((v:Int) + 1)=(v:Int) + 1:=by rw [IntKind.wrap_i64];omega
 rw [<- hwp] at HF1 HF2
 clear hwp
 go_cut [9] (fun qv wx=>NQat C W0 W p dk vars st.1 F cb nb v gl gh R qv wx)
 case rest =>
  obtain ⟨q,rfl,hE⟩:=hcut
  clear N0 G0 s0 t0 HF1 HF2 HBT
  obtain ⟨w8,L8,hrun,hL8,hk8⟩:=HPUT.out _ hE.ns.way
  have hE8:=hE.kept hdkl hk8 ⟨L8,hL8⟩
  have a2:=hE.ns.w0.cell 2
  have e0:=hE.bx.cell 0
  have e1:=hE.bx.cell 1
  have e2:=hE.bx.cell 2
  have f0:=hE8.bx.cell 0
  have f1:=hE8.bx.cell 1
  have f2:=hE8.bx.cell 2
  have z0:=hE8.ns.w1.cell 0
  have z1:=hE8.ns.w1.cell 1
  have z2:=hE8.ns.w1.cell 2
  have y0:=hE8.ns.w1.frozen 0
  have y1:=hE8.ns.w1.frozen 1
  have y2:=hE8.ns.w1.frozen 2
  have hres:=set3 hE8.ns.w1 (.int .u64 (R.items:Int)) (.int .i64 R.cost) (.bool R.can)
  have r0:=hres.cell 0
  have r1:=hres.cell 1
  have r2:=hres.cell 2
  have HFIN:=Lib.hid (way_res R hdW hE8.ns.way hE8.ns.kep)
  clear hres hE hE8 hL8 hk8 HPUT
  go_wp2
  refine bodyPost_ret (v:=.agg #[.int .u64 (R.items:Int),.int .i64 R.cost,.bool R.can]) (by simp [results,Tryz.f298,go_sem,r0,r1,r2]) rfl ?_
  exact ⟨rfl,HFIN.out⟩
 go_region_held3 (fun X=>X.cell? ⟨W.heap.size,0,none⟩=some (.pointer (some ⟨p,0,none⟩))/\X.cell? ⟨W.heap.size,1,none⟩=some (.func (.func F) #[] cb)/\X.cell? ⟨W.heap.size,2,none⟩=some (.map (some dk))/\X.cell? ⟨nb,0,none⟩=some (.int .i64 v)/\X.cell? ⟨nb,1,none⟩=some (.int .i64 gl)/\X.cell? ⟨nb,2,none⟩=some (.int .i64 gh)) (first | with_reducible exact s0 | with_reducible exact t0 | with_reducible exact s1 | with_reducible exact t1 | with_reducible exact u1 | with_reducible exact s2 | with_reducible exact t2 | with_reducible exact u2 | with_reducible exact s3 | with_reducible exact t3 | with_reducible exact u3 | with_reducible exact x3)
  (first
   | (go_at_call 237;with_reducible refine (HF1.out _ N0.bel N0.way).mono ?_;rintro e w4 ⟨rfl,L4,hM4,hk4⟩;have N1:=N0.kept hdkl hk4 ⟨L4,hM4⟩;have G1:=N1.box0;have s1:=N1.sc;have t1:=G1.ns.sc;clear hM4 hk4 N0 G0 s0 t0 HF1)
   | (go_at_call 237;with_reducible refine (HF1.out _ G0.ns.bel G0.ns.way).mono ?_;rintro e w4 ⟨rfl,L4,hM4,hk4⟩;have U1:=G0.kept hdkl hk4 ⟨L4,hM4⟩;have u1:=U1.ns.sc;clear hM4 hk4 N0 G0 s0 t0 HF1)
   | (go_at_call 237;with_reducible refine (HF2.out _ N1.bel N1.way).mono ?_;rintro e w5 ⟨rfl,L5,hM5,hk5⟩;have N2:=N1.kept hdkl hk5 ⟨L5,hM5⟩;have G2:=N2.box0;have s2:=N2.sc;have t2:=G2.ns.sc;clear hM5 hk5 N1 G1 s1 t1 HF2)
   | (go_at_call 237;with_reducible refine (HF2.out _ G1.ns.bel G1.ns.way).mono ?_;rintro e w5 ⟨rfl,L5,hM5,hk5⟩;have U2:=G1.kept hdkl hk5 ⟨L5,hM5⟩;have u2:=U2.ns.sc;clear hM5 hk5 N1 G1 s1 t1 HF2)
   | (go_at_call 237;with_reducible refine (HF2.out _ U1.ns.bel U1.ns.way).mono ?_;rintro e w5 ⟨rfl,L5,hM5,hk5⟩;have U2:=U1.kept hdkl hk5 ⟨L5,hM5⟩;have u2:=U2.ns.sc;clear hM5 hk5 U1 u1 HF2)
   | (go_at_call 299;with_reducible refine (HBT.out _ N2.bel).mono ?_;rintro e w6 ⟨rfl,hb6⟩;have N3':=N2.below hb6;have N3:=N3'.box0;have s3:=N3'.sc;have t3:=N3.ns.sc;have z0:=N3.bx.cell 0;have z1:=N3.bx.cell 1;have z2:=N3.bx.cell 2;have y0:=N3.bx.frozen 0;have y1:=N3.bx.frozen 1;have y2:=N3.bx.frozen 2;have NE:=N3'.box R;have x3:=NE.ns.sc;have HE:=Lib.hid NE;clear hb6 N3 N3' NE N2 G2 s2 t2 HBT)
   | (go_at_call 299;with_reducible refine (HBT.out _ G2.ns.bel).mono ?_;rintro e w6 ⟨rfl,hb6⟩;have N3:=G2.below hb6;have s3:=N3.ns.sc;have t3:=(N3.put hW0 R).ns.sc;have z0:=N3.bx.cell 0;have z1:=N3.bx.cell 1;have z2:=N3.bx.cell 2;have y0:=N3.bx.frozen 0;have y1:=N3.bx.frozen 1;have y2:=N3.bx.frozen 2;have HE:=Lib.hid (N3.put hW0 R);clear hb6 N3 N2 G2 s2 t2 HBT)
   | (go_at_call 299;with_reducible refine (HBT.out _ U2.ns.bel).mono ?_;rintro e w6 ⟨rfl,hb6⟩;have N3:=U2.below hb6;have s3:=N3.ns.sc;have t3:=(N3.put hW0 R).ns.sc;have z0:=N3.bx.cell 0;have z1:=N3.bx.cell 1;have z2:=N3.bx.cell 2;have y0:=N3.bx.frozen 0;have y1:=N3.bx.frozen 1;have y2:=N3.bx.frozen 2;have HE:=Lib.hid (N3.put hW0 R);clear hb6 N3 U2 u2 HBT))
 all_goals
  have hE:=HE.out
  clear HE
  try clear z0 z1 z2
  try clear y0 y1 y2
  try clear s3 t3
  try clear x3
  go_wp2_with fail
  go_meet
  case rel=>exact ⟨_,rfl,hE⟩
end
end Go.Proofs.YtiihalknffbjpaaGreatDoor.Bd
namespace Go.Proofs.YtiihalknffbjpaaGreatDoor.Bd
open Go.RowKit Go.Maps Go.Deep
section
variable {W0:World} {B p s b:Nat} {O:Nat->Prop} {vars:Nat} {room:Int} {st:List Nd × Int} {F:FuncId} {cb:Array Value} {C:Cost} {dk:Nat}
theorem belowW_any (cx:WyCx W0 B p s b O vars room st F cb C dk):∀ d,BelowOkW W0 p vars st.1 F cb C dk d:=by
 intro d
 induction d with
 | zero=>exact fun h L W hW hM hh hd=>below_endW cx h L W hW hM hh (by have:=(topOf_le cx.good.ranked h).2;omega)
 | succ d ih =>
  intro h L W hW hM hh hd
  by_cases ht:topOf st.1 h=24
  ·exact below_endW cx h L W hW hM hh ht
  ·by_cases hin:h ∈ L.map Prod.fst
   ·obtain ⟨q,hq,rfl⟩:=List.mem_map.1 hin
    exact below_foundW cx q.1 L W hW hM hh ht q.2 hq
   ·exact below_makesW cx (from_step cx ih) h L W hW hM hh ht hd hin
theorem fromW_any (cx:WyCx W0 B p s b O vars room st F cb C dk) (h:Int) (v:Nat) (L:List (Int × Wy)) (W:World) (hW:Below W0.heap.size W0 W) (hM:WayM C W dk vars st.1 L) (hh:hasB st.1 h=true) (hv:(v:Int)<=topOf st.1 h) (hvv:v<=vars):Calls Tryz.prog 237 #[wkV p F cb dk,.int .i64 (v:Int),.int .i64 h] W (WyOut C dk vars st.1 (fromW C vars st.1 h v) W) :=
 from_step cx (belowW_any cx 24) h v L W hW hM hh hv hvv (by have:=(topOf_le cx.good.ranked h).1;omega)
theorem cheapest_c {w:World} (hsol:SolAt B w p s b O vars room st) (hg:Good vars st.1) (hl:st.1.length<=90000) (h24:vars<=24) (hent:∀ args w,(callFunc F args).run Tryz.prog w=.ok (.enter F args) w) (hcok:CostOk C) (hcat:CostAt w F cb C vars) (hh:hasB st.1 st.2=true) :
  Calls Tryz.prog 171 #[.pointer (some ⟨p,0,none⟩),.func (.func F) #[] cb] w fun e w'=>e=.returned (fromW C vars st.1 st.2 0).val/\Below w.heap.size w w':=by
 have s1:(w.alloc (.cells #[.int .u64 0,.int .i64 0,.bool false] 279)).heap.size=w.heap.size + 1:=by simp
 have s2:((w.alloc (.cells #[.int .u64 0,.int .i64 0,.bool false] 279)).alloc (.map #[] 0)).heap.size=w.heap.size + 1 + 1:=by rw [World.size_alloc,s1]
 have hb1:=Go.Proofs.YtiihalknffbjpaaGreatDoor.below_new w (.cells #[.int .u64 0,.int .i64 0,.bool false] 279)
 have hb2:=hb1.alloc hb1.size (.map #[] 0)
 have hb3:=hb2.alloc hb2.size (.cells #[.pointer (some ⟨p,0,none⟩),.func (.func F) #[] cb,.map (some (w.heap.size + 1))] 357)
 have hown:=World.ownsMap_made (w.alloc (.cells #[.int .u64 0,.int .i64 0,.bool false] 279)) Tryz.prog 3 wayR
 rw [s1] at hown
 have hM0:WayM C ((w.alloc (.cells #[.int .u64 0,.int .i64 0,.bool false] 279)).alloc (.map #[] 0)) (w.heap.size + 1) vars st.1 []:=⟨⟨_,hown,Rep.empty⟩,(fun p hp=>by cases hp),(fun p hp=>by cases hp),by simp⟩
 have hM:=(hM0.new (Go.Proofs.YtiihalknffbjpaaGreatDoor.below_new _ (.cells #[.pointer (some ⟨p,0,none⟩),.func (.func F) #[] cb,.map (some (w.heap.size + 1))] 357))).new (Below.refl _ _).drew
 have cx:WyCx w B p s b O vars room st F cb C (w.heap.size + 1):=⟨hsol,hg,hl,h24,hent,hcok,hcat,by omega⟩
 have HFR:Hid (Calls Tryz.prog 237 #[.agg #[.pointer (some ⟨p,0,none⟩),.func (.func F) #[] cb,.map (some (w.heap.size + 1))],.int .i64 0,.int .i64 st.2] (((w.alloc (.cells #[.int .u64 0,.int .i64 0,.bool false] 279)).alloc (.map #[] 0)).alloc (.cells #[.pointer (some ⟨p,0,none⟩),.func (.func F) #[] cb,.map (some (w.heap.size + 1))] 357)).drew fun e w'=>e=.returned (fromW C vars st.1 st.2 0).val/\∃ L',WayM C w' (w.heap.size + 1) vars st.1 L'/\Kept (fun k=>k=w.heap.size + 1) (((w.alloc (.cells #[.int .u64 0,.int .i64 0,.bool false] 279)).alloc (.map #[] 0)).alloc (.cells #[.pointer (some ⟨p,0,none⟩),.func (.func F) #[] cb,.map (some (w.heap.size + 1))] 357)).drew w'):=fromW_any cx st.2 0 [] _ hb3.drew hM hh (topOf_le hg.ranked st.2).1 (Nat.zero_le _)
 have k0:=((Blk.new w 279 #[.int .u64 0,.int .i64 0,.bool false]).alloc (.map #[] 0)).alloc (.cells #[.pointer (some ⟨p,0,none⟩),.func (.func F) #[] cb,.map (some (w.heap.size + 1))] 357)
 have k0d:Blk (((w.alloc (.cells #[.int .u64 0,.int .i64 0,.bool false] 279)).alloc (.map #[] 0)).alloc (.cells #[.pointer (some ⟨p,0,none⟩),.func (.func F) #[] cb,.map (some (w.heap.size + 1))] 357)).drew w.heap.size 279 #[.int .u64 0,.int .i64 0,.bool false]:=k0.below (Below.refl _ _).drew k0.lt
 have k1:=Blk.new ((w.alloc (.cells #[.int .u64 0,.int .i64 0,.bool false] 279)).alloc (.map #[] 0)) 357 #[.pointer (some ⟨p,0,none⟩),.func (.func F) #[] cb,.map (some (w.heap.size + 1))]
 rw [s2] at k1
 have cp:=(hsol.new hb3).blk.cell 1
 have HK1:=Lib.hid (k1.below (Below.refl _ _).drew k1.lt)
 have HKP:=Lib.hid ((hsol.new hb3).new (Below.refl _ _).drew).blk
 have hplt:=hsol.blk.lt
 have a0:=k1.cell 0
 have a1:=k1.cell 1
 have a2:=k1.cell 2
 have hmm:=@run_makeMap Tryz.prog
 have hst:(store ⟨w.heap.size + 1 + 1,1,none⟩ (Value.func (Fn.func F) #[] cb)).run Tryz.prog (((w.alloc (.cells #[.int .u64 0,.int .i64 0,.bool false] 279)).alloc (.map #[] 0)).alloc (.cells #[.pointer (some ⟨p,0,none⟩),.nilFunc,.map none] 357))=.ok () (((w.alloc (.cells #[.int .u64 0,.int .i64 0,.bool false] 279)).alloc (.map #[] 0)).alloc (.cells #[.pointer (some ⟨p,0,none⟩),.func (.func F) #[] cb,.map none] 357)):=by
  have kz:=Blk.new ((w.alloc (.cells #[.int .u64 0,.int .i64 0,.bool false] 279)).alloc (.map #[] 0)) 357 #[.pointer (some ⟨p,0,none⟩),.nilFunc,.map none]
  rw [s2] at kz
  have c1:(((w.alloc (.cells #[.int .u64 0,.int .i64 0,.bool false] 279)).alloc (.map #[] 0)).alloc (.cells #[.pointer (some ⟨p,0,none⟩),.nilFunc,.map none] 357)).cell? ⟨w.heap.size + 1 + 1,1,none⟩=some .nilFunc:=kz.cell 1
  rw [run_store _ _ _ _ _ (by rfl),c1,kz.frozen 1]
  exact congrArg (fun X=>Result.ok () X) (World.setCell_alloc_at _ _ _ _ _ s2.symm)
 have HB3:=Lib.hid hb3
 have HK0:=Lib.hid k0d
 clear hM hM0 hown cx hb1 hb2 hb3 k0 k0d k1 hsol hg hcat hent hcok
 generalize fromW C vars st.1 st.2 0=R at *
 go_enter Tryz.func171,Tryz.ntmps171
 go_upto_region 2 with fail
 generalize ((w.alloc (.cells #[.int .u64 0,.int .i64 0,.bool false] 279)).alloc (.map #[] 0)).alloc (.cells #[.pointer (some ⟨p,0,none⟩),.func (.func F) #[] cb,.map (some (w.heap.size + 1))] 357)=WA at *
 have S0:WA.drew.cell? ⟨w.heap.size + 1 + 1,0,none⟩=some (.pointer (some ⟨p,0,none⟩))/\WA.drew.cell? ⟨w.heap.size + 1 + 1,1,none⟩=some (.func (.func F) #[] cb)/\WA.drew.cell? ⟨w.heap.size + 1 + 1,2,none⟩=some (.map (some (w.heap.size + 1)))/\WA.drew.cell? ⟨p,1,none⟩=some (.int .i64 st.2):=⟨a0,a1,a2,cp⟩
 have SK:Hid (∀ X,Kept (fun k=>k=w.heap.size + 1\/k=w.heap.size) WA.drew X->X.cell? ⟨w.heap.size + 1 + 1,0,none⟩=some (.pointer (some ⟨p,0,none⟩))/\X.cell? ⟨w.heap.size + 1 + 1,1,none⟩=some (.func (.func F) #[] cb)/\X.cell? ⟨w.heap.size + 1 + 1,2,none⟩=some (.map (some (w.heap.size + 1)))/\X.cell? ⟨p,1,none⟩=some (.int .i64 st.2)):=fun X hk=>by
  have k3:=HK1.out.keptB hk (by omega)
  have k4:=HKP.out.keptB hk (by omega)
  exact ⟨k3.cell 0,k3.cell 1,k3.cell 2,k4.cell 1⟩
 have SKS:Hid (∀ X,Kept (fun k=>k=w.heap.size + 1) WA.drew X->Kept (fun k=>k=w.heap.size + 1\/k=w.heap.size) WA.drew (((X.setCell ⟨w.heap.size,0,none⟩ (.int .u64 (R.items:Int))).setCell ⟨w.heap.size,1,none⟩ (.int .i64 R.cost)).setCell ⟨w.heap.size,2,none⟩ (.bool R.can))):=fun X hk =>
  ((((Kept.refl (fun k=>k=w.heap.size + 1\/k=w.heap.size) WA.drew).andThen hk (fun _ h _=>Or.inl h)).andThen (Kept.setCell (S:=fun k=>k=w.heap.size) X ⟨w.heap.size,0,none⟩ _ rfl) (fun _ h _=>Or.inr h)).andThen (Kept.setCell (S:=fun k=>k=w.heap.size) _ ⟨w.heap.size,1,none⟩ _ rfl) (fun _ h _=>Or.inr h)).andThen (Kept.setCell (S:=fun k=>k=w.heap.size) _ ⟨w.heap.size,2,none⟩ _ rfl) (fun _ h _=>Or.inr h)
 have SKW:Hid (∀ X,Kept (fun k=>k=w.heap.size + 1) WA.drew X->X.cell? ⟨w.heap.size + 1 + 1,0,none⟩=some (.pointer (some ⟨p,0,none⟩))/\X.cell? ⟨w.heap.size + 1 + 1,1,none⟩=some (.func (.func F) #[] cb)/\X.cell? ⟨w.heap.size + 1 + 1,2,none⟩=some (.map (some (w.heap.size + 1)))/\X.cell? ⟨p,1,none⟩=some (.int .i64 st.2)):=fun X hk=>by
  have k3:=HK1.out.keptB hk (by omega)
  have k4:=HKP.out.keptB hk (by omega)
  exact ⟨k3.cell 0,k3.cell 1,k3.cell 2,k4.cell 1⟩
 clear a0 a1 a2 cp
 go_region_held3 (fun X=>X.cell? ⟨w.heap.size + 1 + 1,0,none⟩=some (.pointer (some ⟨p,0,none⟩))/\X.cell? ⟨w.heap.size + 1 + 1,1,none⟩=some (.func (.func F) #[] cb)/\X.cell? ⟨w.heap.size + 1 + 1,2,none⟩=some (.map (some (w.heap.size + 1)))/\X.cell? ⟨p,1,none⟩=some (.int .i64 st.2)) (first | with_reducible exact S0 | with_reducible exact S1 | with_reducible exact S2)
  (first
   | (go_at_call 237;with_reducible refine HFR.out.mono ?_;rintro e w2 ⟨rfl,L2,hM2,hk2⟩;have k2:=HK0.out.keptB hk2 (by omega);have S1:=SKW.out _ hk2;have S2:=SK.out _ (SKS.out _ hk2);have z0:=k2.cell 0;have z1:=k2.cell 1;have z2:=k2.cell 2;have y0:=k2.frozen 0;have y1:=k2.frozen 1;have y2:=k2.frozen 2;unfold Wy.val))
 all_goals
  have hres:=set3 k2 (.int .u64 (R.items:Int)) (.int .i64 R.cost) (.bool R.can)
  have r0:=hres.cell 0
  have r1:=hres.cell 1
  have r2:=hres.cell 2
  have HFIN:Hid (Below w.heap.size w (((w2.setCell ⟨w.heap.size,0,none⟩ (.int .u64 (R.items:Int))).setCell ⟨w.heap.size,1,none⟩ (.int .i64 R.cost)).setCell ⟨w.heap.size,2,none⟩ (.bool R.can))) :=
   (((HB3.out.drew.trans (hk2.below HB3.out.size (fun j e=>by omega))).setCell (p:=⟨w.heap.size,0,none⟩) (Nat.le_refl _) _).setCell (p:=⟨w.heap.size,1,none⟩) (Nat.le_refl _) _).setCell (p:=⟨w.heap.size,2,none⟩) (Nat.le_refl _) _
  clear hres k2 z0 z1 z2 y0 y1 y2 hM2 hk2
  go_wp2
  refine bodyPost_ret (v:=.agg #[.int .u64 (R.items:Int),.int .i64 R.cost,.bool R.can]) (by simp [results,Tryz.f171,go_sem,r0,r1,r2]) rfl ?_
  exact ⟨rfl,HFIN.out⟩
end
end Go.Proofs.YtiihalknffbjpaaGreatDoor.Bd
