/- space: either: what a round keeps. -/
import Derived.Test.YtjmfeefogikdfaaGreatDoorSvWord
namespace Go.Proofs.YtjmfeefogikdfaaGreatDoor
open Go.RowKit Go.Shelf
section
variable {n:Nat} {P:Program} {ops:Array Oper} {Q:Exit->Act->World->Prop} {md:Region.Mode} {l:Nat}
theorem ziK{i:Nat}{K K':Act->World->Prop}{a:Act}{w:World}(hnd:∀(j:Nat) (o:Oper),ops[j]?=some o->∀c,o.op≠.defer c)(hK:∀a w,K a w->K' a w)(h:wpOpIn Fence.wide n P ops Q i K a w):wpOpIn (Fence.wide.inRound l) n P ops Q i K' a w:=by
 have h2:=wpOpIn_mono hK h;clear h hK;unfold wpOpIn at *;cases ho:ops[i]? with
 |none=>simp only[ho] at h2 ⊢;exact h2
 |some o =>
  simp only[ho] at h2 ⊢;split
  ·rename_i hw;rw[if_pos hw] at h2;refine⟨h2.1,?_⟩;have h3:=h2.2;rw[Oper.semAt_eq _ _ _ (hnd i o ho)] at h3 ⊢;cases hr:(execOp a.eval o).run P w with
   |ok x w' =>rw[hr] at h3;cases x<;>exact h3
   |halt x w' =>rw[hr] at h3;exact h3
  ·rename_i hw;rw[if_neg hw] at h2;exact h2
theorem zfs(hnd:∀(j:Nat) (o:Oper),ops[j]?=some o->∀c,o.op≠.defer c) :
  ∀(fuel:Nat) (listed:Array Bool) (a:Act) (w:World),wpAnyIn Fence.wide n P md ops Q fuel listed a w->wpAnyIn (Fence.wide.inRound l) n P md ops Q fuel listed a w:=by
 intro fuel
 induction fuel with
 |zero=>intro listed a w h;exact h
 |succ fuel ih =>intro listed a w h;exact⟨h.1,fun i hi=>ziK hnd (fun a w h=>ih _ a w h) (h.2 i hi)⟩
theorem zdy{id:Nat}{a:Act}{w:World}(hm:P.follows .mixedOrders=true)(hnd:∀(j:Nat) (o:Oper),ops[j]?=some o->∀c,o.op≠.defer c)
  (h:wpAnyIn Fence.wide n P .any ops Q ops.size (Array.replicate ops.size false) a w.drew):(Code.region id ops true).wpIn (Fence.wide.inRound l) n P Q a w :=
 wpIn_region_any hm (zfs hnd _ _ _ _ h)
end
end Go.Proofs.YtjmfeefogikdfaaGreatDoor
namespace Go.Proofs.YtjmfeefogikdfaaGreatDoor.Bd
open Go.RowKit Go.Maps Go.Deep
theorem zau{W:World}{k:Nat}(h:qk W k)(a:Addr)(v:Value):qk (W.setCell a v) k:=by
 obtain⟨o,h1,h2⟩:=h
 by_cases e:k=a.block
 ·subst e;obtain⟨hlt,hk⟩:=Array.getElem?_eq_some_iff.1 h1;cases o with
  |cells c elem frozen =>refine⟨Obj.cells (if a.spot.isSome=true then c else c.setIfInBounds a.off v) elem frozen,?_,rfl⟩;show (W.heap.modify a.block _)[a.block]?=_;rw[Array.getElem?_eq_getElem (by rw[Array.size_modify];exact hlt),Array.getElem_modify_self,hk]
  |_=>cases h2
 ·exact⟨o,(Below.heap_setCell W a v k e).trans h1,h2⟩
theorem zir{W:World}{k D:Nat}(h:qk W k)(hD:¬qk W D)(o:Obj):qk (W.putObj D o) k:=by
 obtain⟨o',h1,h2⟩:=h;have:k≠D:=fun e=>hD (e▸⟨o',h1,h2⟩);exact⟨o',(World.putObj_heap_other this).trans h1,h2⟩
theorem Xa{W:World}{D:Nat}{o:Obj}(h:W.heap[D]?=some o)(ho:o.isCells=false):¬qk W D:=by
 rintro⟨o',h1,h2⟩;rw[h] at h1;cases h1;rw[ho] at h2;cases h2
section
variable {B s b dm vars:Nat} {O0 O O':Nat->Prop} {room:Int} {ns:List Nd} {W0 W W':World}
theorem MM.set(h:MM O0 O dm W0 W)(v:Value):MM O0 O dm W0 (W.setCell ⟨dm,0,none⟩ v) :=
 h.trans ⟨zb.setCell W ⟨dm,0,none⟩ v (.inr rfl),fun _ h=>.inl h,fun k hk=>(Classical.em (qk W k)).imp (fun c=>zau c _ _) (fun n=>⟨hk,n⟩)⟩
theorem MM.refl(O:Nat->Prop)(dm:Nat)(w:World):MM O O dm w w:=MM.of_moves (zI.refl O w)
theorem MM.from(h:MM O0 O dm W0 W)(h0:∀k,O0 k->k<W0.heap.size){k:Nat}(hk:O k)(hge:W0.heap.size<=k):qk W k:=by
 rcases h.map k hk with h1|⟨h1,-⟩
 ·exact h1
 ·have:=h0 k h1;omega
theorem MM.out(h:MM O0 O dm W0 W)(h0:∀k,O0 k->k<W0.heap.size){k:Nat}(hge:W0.heap.size<=k)(hn:¬qk W k):¬O k:=fun hk=>hn (h.from h0 hk hge)
theorem XH(hm:zI O O' W W'){B0:Nat}(hO:∀k,O k->B0<=k->qk W k):KeepsFrom B0 W W' :=
 ⟨hm.size,fun k _ hB hk ho=>(hm.kept.block k (Array.getElem?_eq_some_iff.1 hk).1 (fun hk'=>Xa hk ho (hO k hk' hB))).trans hk⟩
theorem Ke{R:Nat->Prop}(hm:zI O O' W W')(hR:∀k,R k->k<W.heap.size/\¬O k):KpR R W W':=fun k hk=>hm.kept.block k (hR k hk).1 (hR k hk).2
theorem zfa{R:Nat->Prop}{dm:Nat}(hR:∀k,R k->k≠dm)(W:World)(v:Value):KpR R W (W.setCell ⟨dm,0,none⟩ v):=fun k hk=>Below.heap_setCell W ⟨dm,0,none⟩ v k (hR k hk)
theorem zbZ{R:Nat->Prop}(W:World):KpR R W W.drew:=fun _ _=>rfl
def yO{Q:Int->Prop}(pre:List (PQ Q)):List Int:=((x8 pre).map Prod.snd).reverse
def EI(B s b vars:Nat)(room:Int)(O0:Nat->Prop)(dm:Nat)(W0:World)(ns:List Nd)(ys:List Int)(W:World):Prop :=
 ∃O,zm B W s b O vars room (ya ns ys).1/\MM O0 O dm W0 W/\W.cell? ⟨dm,0,none⟩=some (.int .i64 (ya ns ys).2)/\W.frozen? ⟨dm,0,none⟩=false
theorem Y3{W W':World}{a:Addr}(h:W'.heap[a.block]?=W.heap[a.block]?):W'.frozen? a=W.frozen? a:=by
 unfold World.frozen?;rw[h]
theorem Jr{W W':World}{a:Addr}(h:W'.heap[a.block]?=W.heap[a.block]?):W'.cell? a=W.cell? a:=by
 unfold World.cell?;rw[h]
theorem zhH{row:Option Nat}(h:MM O0 O dm W0 W)(hg:W.grownBy W' row)(hr:∀r,row=some r->W0.heap.size<=r/\∃o:Obj,W.heap[r]?=some o/\o.isCells=false):MM O0 O dm W0 W' :=
 ⟨h.kept.andThen (zb.of_grown (S:=fun i=>row=some i) hg (fun i e=>e)) (fun i e hi=>by have:=(hr i e).1;omega),h.own,fun k hk=>by
  rcases h.map k hk with h1|h1
  ·refine .inl (h1.kept (zb.of_grown (S:=fun i=>row=some i) hg (fun i e=>e)) (fun e=>?_));obtain⟨-,o,ho,hc⟩:=hr k e;exact Xa ho hc h1
  ·exact .inr h1⟩
theorem zhQ{row:Option Nat}(h0:∀k,O0 k->k<W0.heap.size)(h:MM O0 O dm W0 W)(hS:zm B W s b O vars room ns)(hs:s<W0.heap.size)(hg:W.grownBy W' row)(hr:∀r,row=some r->W0.heap.size<=r/\∃o:Obj,W.heap[r]?=some o/\o.isCells=false):zm B W' s b O vars room ns :=
 hS.kept (zb.of_grown (S:=fun i=>row=some i) hg (fun i e=>e)) (fun k hk e=>by
  obtain⟨hB,o,ho,hc⟩:=hr k e;exact h.out h0 hB (Xa ho hc) hk) (fun e=>by have:=(hr s e).1;omega)
theorem EI.own{Q:Int->Prop}(h0:∀k,O0 k->k<W0.heap.size)(hs:s<W0.heap.size)(hd:dm<W0.heap.size)(ns:List Nd):OwnFrom W0.heap.size (fun (pre:List (PQ Q)) W=>EI B s b vars room O0 dm W0 ns (yO pre) W):=by
 rintro pre W W' row ⟨O,h1,h2,h3,h4⟩ hg hr;have hne:¬row=some dm:=fun e=>by have:=(hr dm e).1;omega
 have hb:W'.heap[dm]?=W.heap[dm]?:=(zb.of_grown (S:=fun i=>row=some i) hg (fun i e=>e)).block dm (Nat.lt_of_lt_of_le hd h2.size) hne;exact⟨O,zhQ h0 h2 h1 hs hg hr,zhH h2 hg hr,(Jr (a:=⟨dm,0,none⟩) hb).trans h3,(Y3 (a:=⟨dm,0,none⟩) hb).trans h4⟩
theorem zhk{w w':World}(hb:zB w W0)(hd:w.heap.size<=dm)(h:MM O0 O dm W0 W)(hk:zb (fun k=>w.heap.size<=k) W w')(hc:∀k,qk W k->qk w' k):zI O0 O w w' :=
 ⟨((zb.of_below hb O0).andThen h.kept (fun i hi hlt=>hi.elim id (fun e=>by omega))).andThen hk (fun i hi hlt=>by omega),fun k hk'=>by
  rcases h.own k hk' with h1|h1
  ·exact .inl h1
  ·exact .inr (Nat.le_trans hb.size h1),fun k hk'=>by
  rcases h.map k hk' with h1|⟨h1,h2⟩
  ·exact .inl (hc k h1)
  ·exact .inr ⟨h1,fun c=>h2 (c.below hb)⟩⟩
end
theorem zhh{Q:Int->Prop}(pre:List (PQ Q))(x:PQ Q):yO (pre++[x])=x.1.2 :: yO pre:=by simp[yO,x8]
theorem zmY{Q:Int->Prop}(pre:List (PQ Q)):∀x∈yO pre,Q x:=by
 intro x hx;unfold yO x8 at hx;rw[List.mem_reverse,List.mem_map] at hx;obtain⟨p,hp,rfl⟩:=hx;obtain⟨q,-,rfl⟩:=List.mem_map.1 hp;exact q.2
theorem zfC{Q:Int->Prop}(pre:List (PQ Q)):(yO pre).length=pre.length:=by simp[yO,x8]
theorem zb2(xs:List Int):∀k,k<=xs.length->((bkF xs k).map Prod.snd).reverse=xs.take k
 |0,_=>by simp[bkF]
 |k+1,h=>by
  rw[bkF,List.map_cons,List.reverse_cons,zb2 xs k (by omega),List.take_succ_eq_append_getElem (by omega)];simp[List.getD_eq_getElem?_getD,List.getElem?_eq_getElem (show k<xs.length by omega)]
theorem znM{Q:Int->Prop}{xs:List Int}{ys:List (PQ Q)}(h:x8 ys=bkF xs xs.length):yO ys=xs:=by
 unfold yO;rw[h,zb2 xs xs.length zN,List.take_length]
end Go.Proofs.YtjmfeefogikdfaaGreatDoor.Bd
