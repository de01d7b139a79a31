import Derived.Test.YtoffdbflfikcoaaGreatDooraa
open Go.Proofs.Tryz
namespace Go.Proofs.YtoffdbflfikcoaaGreatDoor
set_option maxHeartbeats 2000000
set_option maxRecDepth 100000
section
open Go.RowKit Go.Shelf
section
variable {n:Nat} {P:Program} {ops:Array Oper} {Q:Exit->Act->World->Prop} {md:Region.Mode} {l:Nat}
theorem zoO{i:Nat}{K K':Act->World->Prop}{a:Act}{w:World}(hnd:∀(j:Nat) (o:Oper),ops[j]?=some o->∀c,o.op≠.defer c)(hK:∀a w,K a w->K' a w)(h:wpOpIn Fence.wide n P ops Q i K a w):wpOpIn (Fence.wide.inRound l) n P ops Q i K' a w:=by
 have h2:=wpOpIn_mono hK h;clear h hK;unfold wpOpIn at *;cases ho:ops[i]? with
 |none=>simp only[ho] at h2 ⊢;exact h2
 |some o =>
  simp only[ho] at h2 ⊢;split
  ·rename_i hw;rw[zc3 hw] at h2;refine⟨h2.1,?_⟩;have h3:=h2.2;rw[Oper.semAt_eq _ _ _ (hnd i o ho)] at h3 ⊢;cases hr:(execOp a.eval o).run P w with
   |ok x w' =>rw[hr] at h3;cases x<;>exact h3
   |halt x w' =>rw[hr] at h3;exact h3
  ·rename_i hw;rw[zc2 hw] at h2;exact h2
theorem zqO(hnd:∀(j:Nat) (o:Oper),ops[j]?=some o->∀c,o.op≠.defer c) :
  ∀(fuel:Nat) (listed:Array Bool) (a:Act) (w:World),wpAnyIn Fence.wide n P md ops Q fuel listed a w->wpAnyIn (Fence.wide.inRound l) n P md ops Q fuel listed a w:=by
 intro fuel
 induction fuel with
 |zero=>intro listed a w h;exact h
 |succ fuel ih =>intro listed a w h;exact⟨h.1,fun i hi=>zoO hnd (fun a w h=>ih _ a w h) (h.2 i hi)⟩
theorem zcT{id:Nat}{a:Act}{w:World}(hm:P.follows .mixedOrders=true)(hnd:∀(j:Nat) (o:Oper),ops[j]?=some o->∀c,o.op≠.defer c)
  (h:wpAnyIn Fence.wide n P .any ops Q ops.size (Array.replicate ops.size false) a w.drew):(Code.region id ops true).wpIn (Fence.wide.inRound l) n P Q a w :=
 wpIn_region_any hm (zqO hnd _ _ _ _ h)
end
end
namespace Bd
open Go.RowKit Go.Maps Go.Deep
theorem zb7{W:World}{k:Nat}(h:qj W k)(a:Addr)(v:Value):qj (W.setCell a v) k:=by
 obtain⟨o,h1,h2⟩:=h
 by_cases e:k=a.block
 ·subst e;obtain⟨j,hk⟩:=zrg.1 h1;cases o with
  |cells c elem frozen =>refine⟨Obj.cells (if a.spot.isSome=true then c else c.setIfInBounds a.off v) elem frozen,?_,rfl⟩;show (W.heap.modify a.block _)[a.block]?=_;rw[zsI (by rw[zuy];exact j),Array.getElem_modify_self,hk]
  |_=>cases h2
 ·exact⟨o,(zrF W a v k e).trans h1,h2⟩
theorem zp5{W:World}{k D:Nat}(h:qj W k)(hD:¬qj W D)(o:Obj):qj (W.putObj D o) k:=by
 obtain⟨o',h1,h2⟩:=h;have:k≠D:=fun e=>hD (e▸⟨o',h1,h2⟩);exact⟨o',(World.putObj_heap_other this).trans h1,h2⟩
theorem Xs{W:World}{D:Nat}{o:Obj}(h:W.heap[D]?=some o)(ho:o.isCells=false):¬qj W D:=by
 rintro⟨o',h1,h2⟩;rw[h] at h1;cases h1;rw[ho] at h2;cases h2
section
variable {B s b dm vars:Nat} {O0 O O':Nat->Prop} {room:Int} {ns:List Nd} {W0 W W':World}
theorem MM.set(h:MM O0 O dm W0 W)(v:Value):MM O0 O dm W0 (W.setCell dm v) :=
 h.trans ⟨zc.setCell W dm v (.inr rfl),fun _ h=>.inl h,fun k hk=>(Classical.em (qj W k)).imp (fun c=>zb7 c _ _) (fun n=>⟨hk,n⟩)⟩
theorem MM.refl(O:Nat->Prop)(dm:Nat)(w:World):MM O O dm w w:=MM.of_moves (zP.refl O w)
theorem MM.from(h:MM O0 O dm W0 W)(h0:∀k,O0 k->k<W0.heap.size){k:Nat}(hk:O k)(hge:W0.heap.size<=k):qj W k:=by
 rcases h.map k hk with h1|⟨h1,-⟩
 ·exact h1
 ·have:=h0 k h1;omega
theorem MM.out(h:MM O0 O dm W0 W)(h0:∀k,O0 k->k<W0.heap.size){k:Nat}(hge:W0.heap.size<=k)(hn:¬qj W k):¬O k:=fun hk=>hn (h.from h0 hk hge)
theorem JN(hm:zP O O' W W'){B0:Nat}(hO:∀k,O k->B0<=k->qj W k):KeepsFrom B0 W W' :=
 ⟨hm.size,fun k _ hB hk ho=>(hm.kept.block k (zrg.1 hk).1 (fun j=>Xs hk ho (hO k j hB))).trans hk⟩
theorem JF{R:Nat->Prop}(hm:zP O O' W W')(hR:∀k,R k->k<W.heap.size/\¬O k):KpR R W W':=fun k hk=>hm.kept.block k (hR k hk).1 (hR k hk).2
theorem zgV{R:Nat->Prop}{dm:Nat}(hR:∀k,R k->k≠dm)(W:World)(v:Value):KpR R W (W.setCell dm v):=fun k hk=>zrF W dm v k (hR k hk)
theorem zdN{R:Nat->Prop}(W:World):KpR R W W.drew:=fun _ _=>rfl
def xj{Q:Int->Prop}(pre:List (PQ Q)):List Int:=((ZE pre).map Prod.snd).reverse
def EI(B s b vars:Nat)(room:Int)(O0:Nat->Prop)(dm:Nat)(W0:World)(ns:List Nd)(ys:List Int)(W:World):Prop :=
 ∃O,zt B W s b O vars room (ym ns ys).1/\MM O0 O dm W0 W/\W.cell? dm=some (.int .i64 (ym ns ys).2)/\W.frozen? dm=false
theorem X3{W W':World}{a:Addr}(h:W'.heap[a.block]?=W.heap[a.block]?):W'.frozen? a=W.frozen? a:=by
 unfold World.frozen?;rw[h]
theorem zbw{W W':World}{a:Addr}(h:W'.heap[a.block]?=W.heap[a.block]?):W'.cell? a=W.cell? a:=by
 unfold World.cell?;rw[h]
theorem zkh{row:Option Nat}(h:MM O0 O dm W0 W)(hg:W.grownBy W' row)(hr:∀r,row=some r->W0.heap.size<=r/\∃o:Obj,W.heap[r]?=some o/\o.isCells=false):MM O0 O dm W0 W' :=
 ⟨h.kept.andThen (zc.of_grown (S:=fun i=>row=some i) hg (fun i e=>e)) (fun i e hi=>by have:=(hr i e).1;omega),h.own,fun k hk=>by
  rcases h.map k hk with h1|h1
  ·refine .inl (h1.kept (zc.of_grown (S:=fun i=>row=some i) hg (fun i e=>e)) (fun e=>?_));obtain⟨-,o,ho,hc⟩:=hr k e;exact Xs ho hc h1
  ·exact .inr h1⟩
theorem znI{row:Option Nat}(h0:∀k,O0 k->k<W0.heap.size)(h:MM O0 O dm W0 W)(hS:zt B W s b O vars room ns)(hs:s<W0.heap.size)(hg:W.grownBy W' row)(hr:∀r,row=some r->W0.heap.size<=r/\∃o:Obj,W.heap[r]?=some o/\o.isCells=false):zt B W' s b O vars room ns :=
 hS.kept (zc.of_grown (S:=fun i=>row=some i) hg (fun i e=>e)) (fun k hk e=>by
  obtain⟨hB,o,ho,hc⟩:=hr k e;exact h.out h0 hB (Xs ho hc) hk) (fun e=>by have:=(hr s e).1;omega)
theorem EI.own{Q:Int->Prop}(h0:∀k,O0 k->k<W0.heap.size)(hs:s<W0.heap.size)(hd:dm<W0.heap.size)(ns:List Nd):OwnFrom W0.heap.size (fun (pre:List (PQ Q)) W=>EI B s b vars room O0 dm W0 ns (xj pre) W):=by
 rintro pre W W' row ⟨O,h1,h2,h3,h4⟩ hg hr;have j:¬row=some dm:=fun e=>by have:=(hr dm e).1;omega
 have hb:W'.heap[dm]?=W.heap[dm]?:=(zc.of_grown (S:=fun i=>row=some i) hg (fun i e=>e)).block dm (zc6 hd h2.size) j;exact⟨O,znI h0 h2 h1 hs hg hr,zkh h2 hg hr,(zbw (a:=dm) hb).trans h3,(X3 (a:=dm) hb).trans h4⟩
theorem zkT{w w':World}(hb:zB w W0)(hd:w.heap.size<=dm)(h:MM O0 O dm W0 W)(hk:zc (fun k=>w.heap.size<=k) W w')(hc:∀k,qj W k->qj w' k):zP O0 O w w' :=
 ⟨((zc.of_below hb O0).andThen h.kept (fun i hi o=>hi.elim id (fun e=>by omega))).andThen hk (fun i hi o=>by omega),fun k j=>by
  rcases h.own k j with h1|h1
  ·exact .inl h1
  ·exact .inr (zf1 hb.size h1),fun k j=>by
  rcases h.map k j with h1|⟨h1,h2⟩
  ·exact .inl (hc k h1)
  ·exact .inr ⟨h1,fun c=>h2 (c.below hb)⟩⟩
end
theorem zqB{Q:Int->Prop}(pre:List (PQ Q))(x:PQ Q):xj (pre++[x])=x.1.2 :: xj pre:=by simp[xj,ZE]
theorem zi4{Q:Int->Prop}(pre:List (PQ Q)):∀x∈xj pre,Q x:=by
 intro x hx;unfold xj ZE at hx;rw[List.mem_reverse,zrA] at hx;obtain⟨p,hp,rfl⟩:=hx;obtain⟨q,-,rfl⟩:=zrA.1 hp;exact q.2
theorem zjr{Q:Int->Prop}(pre:List (PQ Q)):(xj pre).length=pre.length:=by simp[xj,ZE]
theorem zfa(xs:List Int):∀k,k<=xs.length->((bkF xs k).map Prod.snd).reverse=xs.take k
 |0,_=>by simp[bkF]
 |k+1,h=>by
  rw[bkF,ztf,List.reverse_cons,zfa xs k (by omega),zry (by omega)];simp[List.getD_eq_getElem?_getD,List.getElem?_eq_getElem (show k<xs.length by omega)]
theorem znN{Q:Int->Prop}{xs:List Int}{ys:List (PQ Q)}(h:ZE ys=bkF xs xs.length):xj ys=xs:=by
 unfold xj;rw[h,zfa xs xs.length zN,zrC]
end Bd
section
open Go.RowKit Go.Shelf Sv
attribute [local go_sem] Oper.semAt_some
def qH:List (Nat × ByteArray)->List zf × Nat->Except (Int × Nat) (List zf × Nat)
 |[],st=>.ok st
 |x :: r,st=>if x.2.toList=[] then qH r st else match Za x.2 with
  |.error k=>.error (k,x.1)
  |.ok l=>qH r (nd st.1 l,st.2+1)
theorem JB(l r:List (Nat × ByteArray)):∀(st:List zf × Nat),qH (l++r) st=match qH l st with
  |.error e=>.error e
  |.ok st'=>qH r st':=by
 induction l with
 |nil=>intro st;rfl
 |cons x l ih =>
  intro st;rw[zrL,qH,qH];split
  ·exact ih st
  ·split
   ·rfl
   ·exact ih _
def yQ(s:ByteArray)(at':Nat):Except (Int × Nat) (List zf) :=
 match qH (zq s ⟨#[32]⟩ s.size 0) (zm,0) with
 |.error (k,i)=>.error (k,at'+i)
 |.ok (acc,n)=>if n=0 then .error (3,at'+s.size) else .ok acc
theorem zlg:∀{l:List (Nat × ByteArray)} {st st':List zf × Nat},Rg st.1->qH l st=.ok st'->Rg st'.1:=by
 intro l
 induction l with
 |nil=>intro st st' h e;cases e;exact h
 |cons x l ih =>
  intro st st' h e;unfold qH at e;split at e
  ·exact ih h e
  ·split at e
   ·cases e
   ·rename_i l' hl;exact ih (st:=(nd st.1 l',st.2+1)) (Qz h (za5 hl)) e
theorem ze0{s:ByteArray}{p:Nat}{l:List zf}(h:yQ s p=.ok l):Rg l:=by
 unfold yQ at h;split at h
 ·cases h
 ·rename_i hw;split at h
  ·cases h
  ·cases h;exact zlg (st:=(zm,0)) Xp hw
def zlv(w':World)(v er:Value):Except Int (List zf)->Prop
 |.ok l=>er=.nilIface/\zk w' v l
 |.error k=>er=.iface 53 (.int .i64 k)/\v=.slice none 0 0
theorem zhE(s:ByteArray)(W:World)(hs:s.size<=100000)(hw:Lb W):zC 183 #[s] W fun e w'=>∃a' n' c' er,e=.returned (.tuple #[.agg #[.slice a' n' c'],er])/\zB W w'/\(∀g,(Value.slice a' n' c').ownBlock=some g->W.heap.size<=g)/\zlv w' (.slice a' n' c') er (Za s):=(zhK s W hs hw).mono fun e w' h=>by
 unfold yY at h;cases hx:Za s with
 |ok l =>rw[hx] at h;obtain⟨v',he,h1,h2,h3⟩:=h;obtain⟨a',c',rfl⟩:=h1.form;exact⟨a',_,c',_,he,h3,h2,rfl,h1⟩
 |error k =>rw[hx] at h;obtain⟨he,h3⟩:=h;exact⟨none,0,0,_,he,h3,fun g hg=>by simp[Value.ownBlock] at hg,rfl,rfl⟩
theorem XM{W W':World}{row:Option Nat}{v:Value}{l:List zf}(h:zk W v l)(hg:W.grownBy W' row)(hr:∀r,row=some r->∃o:Obj,W.heap[r]?=some o/\o.isCells=false):zk W' v l :=
 ⟨h.form,fun i hi=>by
  obtain⟨g,j,e,p,c0,c1⟩:=h.cells i hi;exact ⟨g,j,e,zc6 p hg.size,cell_kept c0 hg hr,cell_kept c1 hg hr⟩⟩
theorem zdw(s m:ByteArray):∀(f k:Nat),(zq s m f k).length<=f+1:=by
 intro f
 induction f with
 |zero=>intro k;simp[zq]
 |succ f ih =>
  intro k;rw[zq];split
  ·simp
  ·simp only[zrb];have:=ih (k+(Lib.index (s.extract k s.size).data.toList m.data.toList).toNat+m.size);omega
def X0(w:World)(x:Except (Int × Nat) (List zf))(e:Ending)(w':World):Prop :=
 match x with
 |.ok l=>∃v',e=.returned (.tuple #[.agg #[v'],.nilIface])/\zk w' v' l/\(∀g,v'.ownBlock=some g->w.heap.size<=g)/\zB w w'
 |.error (k,p)=>∃N,e=.returned (.tuple #[.agg #[.slice none 0 0],.iface 110 (.pointer (some ⟨N,0,none⟩))])/\Blk w' N 112 #[k,p]/\w.heap.size<=N/\zB w w'
theorem Ye(W:World)(a:Addr)(v:Value):(W.setCell a v).heap.size=W.heap.size:=by simp[World.setCell]
def PcI(w wA:World)(p:Nat)(pre:List Pc)(W:World):Prop :=
 (Blk W w.heap.size 3 #[p]/\Blk W (w.heap.size+1) 105 #[.slice none 0 0]/\Blk W (w.heap.size+1+1) 31 #[.nilIface]) /\
 (∃j n v,qH (zW pre) (zm,0)=.ok (j,n)/\n<=pre.length/\Blk W wA.heap.size 105 #[v]/\zk W v j/\Rg j/\Blk W (wA.heap.size+1) 3 #[.int .i64 n]/\(∀g,v.ownBlock=some g->w.heap.size+1+1<g/\g≠wA.heap.size/\g≠wA.heap.size+1)) /\
 zB w W/\wA.heap.size+1+1+1+1<=W.heap.size
def PcX(w:World)(p:Nat)(c:Code)(pre:List Pc)(W:World):Prop :=
 (c=.ret/\∃k i N,qH (zW pre) (zm,0)=.error (k,i)/\Blk W (w.heap.size+1) 105 #[.slice none 0 0]/\Blk W (w.heap.size+1+1) 31 #[.iface 110 (.pointer (some ⟨N,0,none⟩))]/\Blk W N 112 #[.int .i64 k,.int .i64 ((p+i:Nat):Int)]/\w.heap.size<=N) /\
 zB w W
theorem yB{W W':World}{row:Option Nat}{b:Nat}{t:TypeId}{cs:Array Value}(h:Blk W b t cs)(hg:W.grownBy W' row)(hr:∀r,row=some r->∃o:Obj,W.heap[r]?=some o/\o.isCells=false):Blk W' b t cs:=Yi b t (fun _:Unit=>cs) () W W' row h hg hr
theorem zp6(w wA:World)(p B:Nat)(hB:w.heap.size<=B):OwnFrom B (PcI w wA p):=by
 intro j W W' row ⟨⟨h0,h1,h2⟩,⟨acc,n,v,h3,h4,h5,h6,h7,h8,h9⟩,h10,h11⟩ hg hr;have hr':∀r,row=some r->∃o:Obj,W.heap[r]?=some o/\o.isCells=false:=fun r e=>(hr r e).2;exact⟨⟨yB h0 hg hr',yB h1 hg hr',yB h2 hg hr'⟩,⟨acc,n,v,h3,h4,yB h5 hg hr',XM h6 hg hr',h7,yB h8 hg hr',h9⟩,ownFrom_below (β:=Unit) zN hB () W W' row h10 hg hr,zf1 h11 hg.size⟩
theorem zoh(w:World)(p B:Nat)(hB:w.heap.size<=B):∀c,OwnFrom B (PcX w p c):=by
 intro c j W W' row ⟨⟨hc,k,i,N,h1,h2,h3,h4,h5⟩,h6⟩ hg hr;have hr':∀r,row=some r->∃o:Obj,W.heap[r]?=some o/\o.isCells=false:=fun r e=>(hr r e).2;exact⟨⟨hc,k,i,N,h1,yB h2 hg hr',yB h3 hg hr',yB h4 hg hr',h5⟩,ownFrom_below (β:=Unit) zN hB () W W' row h6 hg hr⟩
theorem zgS{w W2 wT:World}{p k:Int}{i:Int}(t1:Blk W2 (w.heap.size+1) 105 #[.slice none 0 0])(t2:Blk W2 (w.heap.size+1+1) 31 #[.nilIface])(hb:zB w W2)(hbT:zB W2 wT) :
  (Blk wT (w.heap.size+1) 105 #[.slice none 0 0]/\Blk (wT.alloc (.cells #[k,.int .i64 (p+i)] 112)) (w.heap.size+1) 105 #[.slice none 0 0]/\Blk ((wT.setCell ⟨w.heap.size+1,0,none⟩ (.slice none 0 0)).alloc (.cells #[k,.int .i64 (p+i)] 112)) (w.heap.size+1+1) 31 #[.nilIface]/\Blk ((wT.alloc (.cells #[k,.int .i64 (p+i)] 112)).setCell ⟨w.heap.size+1,0,none⟩ (.slice none 0 0)) (w.heap.size+1+1) 31 #[.nilIface]) /\
  (∀ XF,(XF=(((wT.alloc (.cells #[k,.int .i64 (p + i)] 112)).setCell ⟨w.heap.size + 1,0,none⟩ (.slice none 0 0)).setCell ⟨w.heap.size + 1 + 1,0,none⟩ (.iface 110 (.pointer (some wT))))\/XF=(((wT.setCell ⟨w.heap.size + 1,0,none⟩ (.slice none 0 0)).alloc (.cells #[k,.int .i64 (p + i)] 112)).setCell ⟨w.heap.size + 1 + 1,0,none⟩ (.iface 110 (.pointer (some wT))))) ->
   Blk XF (w.heap.size + 1) 105 #[.slice none 0 0]/\Blk XF (w.heap.size + 1 + 1) 31 #[.iface 110 (.pointer (some wT))]/\Blk XF wT.heap.size 112 #[k,.int .i64 (p + i)]/\w.heap.size<=wT.heap.size/\zB w XF/\KeepsOthers W2 XF):=by
 have u1:=t1.below hbT t1.lt;have u2:=t2.below hbT t2.lt;have j:zB w wT:=zT hb hbT;have hl:=u2.lt;have m1:=u1.alloc (.cells #[k,.int .i64 (p+i)] 112);have m2:=(u2.other (b':=w.heap.size+1) (i:=0) (v:=.slice none 0 0) (by omega)).alloc (.cells #[k,.int .i64 (p+i)] 112);have m3:=(u2.alloc (.cells #[k,.int .i64 (p+i)] 112)).other (b':=w.heap.size+1) (i:=0) (v:=.slice none 0 0) (by omega);refine⟨⟨u1,m1,m2,m3⟩,?_⟩;rintro XF (rfl|rfl)
 ·exact⟨(m1.set (i:=0) (v:=.slice none 0 0)).other (by omega),m3.set (i:=0),((Blk.new wT 112 #[k,.int .i64 (p+i)]).other (by omega)).other (by omega),by omega,((zL j).setCell (p:=⟨w.heap.size+1,0,none⟩) (zrr _) _).setCell (p:=⟨w.heap.size+1+1,0,none⟩) (by show w.heap.size<=w.heap.size+1+1;omega) _,(((Zi hbT).trans (KeepsOthers.alloc _ _)).trans (KeepsOthers.setCell _ _ _)).trans (KeepsOthers.setCell _ _ _)⟩
 ·have hn:=Blk.new (wT.setCell ⟨w.heap.size+1,0,none⟩ (.slice none 0 0)) 112 #[k,.int .i64 (p+i)];rw[Ye] at hn;exact⟨((u1.set (i:=0) (v:=.slice none 0 0)).alloc _).other (by omega),m2.set (i:=0),hn.other (by omega),by omega,((j.setCell (p:=⟨w.heap.size+1,0,none⟩) (zrr _) _).alloc (by rw[Ye];exact j.size) _).setCell (p:=⟨w.heap.size+1+1,0,none⟩) (by show w.heap.size<=w.heap.size+1+1;omega) _,(((Zi hbT).trans (KeepsOthers.setCell _ _ _)).trans (KeepsOthers.alloc _ _)).trans (KeepsOthers.setCell _ _ _)⟩
theorem zqS(s:ByteArray)(p:Nat)(hp:p<=100000)(w:World)(hs:s.size<=100000)(hw:Lb w) :
  CallsIn Fence.wide 4 prog 130 #[s,p] w (X0 w (yQ s p)):=by
 have HA:Hid (∀W,CallsIn Fence.wide 3 prog 182 #[] W fun e w'=>∃a' c',e=.returned (.agg #[.slice a' zm.length c'])/\zk w' (.slice a' zm.length c') zm/\(∀g,(Value.slice a' zm.length c').ownBlock=some g->W.heap.size<=g)/\zB W w'):=fun W=>callsIn_wide.2 ((Xk W).mono fun e w' ⟨v',he,hs,hn,hb⟩=>by obtain⟨a',c',rfl⟩:=hs.form;exact⟨a',c',he,hs,hn,hb⟩);have HP:Hid (∀W,CallsIn Fence.wide 3 prog 128 #[s,.string ⟨#[32]⟩] W fun e w'=>e=.returned (.func (.func 181) #[] #[.pointer (some W),.pointer (some ⟨W.heap.size+1,0,none⟩)])/\w'=(W.alloc (.cells #[s] 9)).alloc (.cells #[.string ⟨#[32]⟩] 9)):=fun W=>zcc s ⟨#[32]⟩ W;have HL:=zH hw;have bj:=hw.big;clear hw;refine callsIn_of_wp_marks func130 rfl trivial ?_ rfl;simp only[ntmps130,zrT,zrb,zrY,Nat.reduceAdd,Nat.reduceSub,zr6,zr5,zsq,zsb,zrX,zrL]
 gi_wp2_with fail
 have k0:=((Blk.new w 3 #[p]).alloc (.cells #[.slice none 0 0] 105)).alloc (.cells #[.nilIface] 31);have k1:=(Blk.new (w.alloc (.cells #[p] 3)) 105 #[.slice none 0 0]).alloc (.cells #[.nilIface] 31);have k2:=Blk.new ((w.alloc (.cells #[p] 3)).alloc (.cells #[.slice none 0 0] 105)) 31 #[.nilIface];simp only[zc1] at k1 k2;have az:zB w (((w.alloc (.cells #[p] 3)).alloc (.cells #[.slice none 0 0] 105)).alloc (.cells #[.nilIface] 31)):=(((zf0 _ w).alloc zN _).alloc (by simp only[zc1];omega) _).alloc (by simp only[zc1];omega) _;generalize ((w.alloc (.cells #[p] 3)).alloc (.cells #[.slice none 0 0] 105)).alloc (.cells #[.nilIface] 31)=Wa at *;refine⟨trivial,?_⟩;refine(HA.out _).mono ?_;rintro e wA ⟨a0,c0,rfl,aT,b2,ao⟩;have j0:=k0.below ao k0.lt;have j1:=k1.below ao k1.lt;have j2:=k2.below ao k2.lt;have aZ:zB w wA:=zT az ao;have b9:=zH j0;have ba:=zH j1;have bb:=zH j2;have aX:=zH aZ;have bf:=zH aT;have aP:w.heap.size+1+1<Wa.heap.size:=k2.lt;have ae:∀ g,(Value.slice a0 zm.length c0).ownBlock=some g->w.heap.size + 1 + 1<g/\g<wA.heap.size:=fun g hg=>⟨zc6 aP (b2 g hg),by
  obtain⟨g',bh,e',bk,-,-⟩:=aT.cells 0 (by decide);rw[e'] at hg;simp[Value.ownBlock] at hg;omega⟩
 have au:=zH ae;have bp:w.heap.size+1+1<wA.heap.size:=zc6 aP ao.size;clear k0 k1 k2 az HA aT b2 ao j0 j1 j2 aZ ae aP
 gi_wp2_with (refine⟨trivial,?_⟩;gi_at_call 128;refine(HP.out _).mono ?_;rintro e w' ⟨rfl,rfl⟩)
 have j0:=(((b9.out.alloc (.cells #[.slice a0 zm.length c0] 105)).alloc (.cells #[(0:Int)] 3)).alloc (.cells #[s] 9)).alloc (.cells #[.string ⟨#[32]⟩] 9);have j1:=(((ba.out.alloc (.cells #[.slice a0 zm.length c0] 105)).alloc (.cells #[(0:Int)] 3)).alloc (.cells #[s] 9)).alloc (.cells #[.string ⟨#[32]⟩] 9);have j2:=(((bb.out.alloc (.cells #[.slice a0 zm.length c0] 105)).alloc (.cells #[(0:Int)] 3)).alloc (.cells #[s] 9)).alloc (.cells #[.string ⟨#[32]⟩] 9);have j3:=(((Blk.new wA 105 #[.slice a0 zm.length c0]).alloc (.cells #[(0:Int)] 3)).alloc (.cells #[s] 9)).alloc (.cells #[.string ⟨#[32]⟩] 9);have j4:=((Blk.new (wA.alloc (.cells #[.slice a0 zm.length c0] 105)) 3 #[(0:Int)]).alloc (.cells #[s] 9)).alloc (.cells #[.string ⟨#[32]⟩] 9);have j5:=(Blk.new ((wA.alloc (.cells #[.slice a0 zm.length c0] 105)).alloc (.cells #[(0:Int)] 3)) 9 #[s]).alloc (.cells #[.string ⟨#[32]⟩] 9);have j6:=Blk.new (((wA.alloc (.cells #[.slice a0 zm.length c0] 105)).alloc (.cells #[(0:Int)] 3)).alloc (.cells #[s] 9)) 9 #[.string ⟨#[32]⟩];simp only[zc1] at j4 j5 j6;have ah:zB wA ((((wA.alloc (.cells #[.slice a0 zm.length c0] 105)).alloc (.cells #[(0:Int)] 3)).alloc (.cells #[s] 9)).alloc (.cells #[.string ⟨#[32]⟩] 9)):=((((zf0 _ wA).alloc zN _).alloc (by simp only[zc1];omega) _).alloc (by simp only[zc1];omega) _).alloc (by simp only[zc1];omega) _;have bm:((((wA.alloc (.cells #[.slice a0 zm.length c0] 105)).alloc (.cells #[(0:Int)] 3)).alloc (.cells #[s] 9)).alloc (.cells #[.string ⟨#[32]⟩] 9)).heap.size=wA.heap.size+1+1+1+1:=by simp only[zc1]
 obtain⟨W0,b0⟩:∃W0,(((wA.alloc (.cells #[.slice a0 zm.length c0] 105)).alloc (.cells #[(0:Int)] 3)).alloc (.cells #[s] 9)).alloc (.cells #[.string ⟨#[32]⟩] 9)=W0:=⟨_,rfl⟩;rw[b0] at j0 j1 j2 j3 j4 j5 j6 ah bm ⊢;clear b0;have az:zB w W0:=zT aX.out ah;have V:zk W0 (.slice a0 zm.length c0) zm:=bf.out.below ah zN;obtain⟨n,hn⟩:=(HL.out.below az).ml;have c5:_=some (Value.string s):=j5.cell 0;have c6:_=some (Value.string ⟨#[32]⟩):=j6.cell 0;have bs:=aX.out.size;refine wpIn_rangeFunc_ownF rfl (by omega) (gf:=181) (lb:=#[.pointer (some ⟨wA.heap.size+1+1,0,none⟩),.pointer (some ⟨wA.heap.size+1+1+1,0,none⟩)]) rfl trivial (enters_of func181 (by kernel_rfl) rfl)
  (zb1 (wA.heap.size+1+1) (wA.heap.size+1+1+1) s ⟨#[32]⟩ hs (by decide) W0 (by omega) (by omega) (by omega) c5 c6 n hn) JV (za0 (by omega) (by omega) (by omega)) zF (fun _=>rfl)
  (fun Y W=>PcI w wA p Y W)
  (fun c Y W=>PcX w p c Y W)
  (zp6 w wA p W0.heap.size (by omega)) (zoh w p W0.heap.size (by omega))
  ⟨⟨j0,j1,j2⟩,⟨zm,0,_,rfl,zf6 _,j3,V,Xp,j4,fun g hg=>by have:=au.out g hg;omega⟩,az,by omega⟩
  (fun x=>{ tmps:=#[.string s,.int .i64 p,undef,.pointer (some w),.pointer (some ⟨w.heap.size+1,0,none⟩),.pointer (some ⟨w.heap.size+1+1,0,none⟩),.pointer (some wA),.pointer (some ⟨wA.heap.size+1,0,none⟩),.int .i64 x.1.1,.string x.1.2,undef,undef,.agg #[.slice a0 zm.length c0],.string s,.func (.func 181) #[] #[.pointer (some ⟨wA.heap.size+1+1,0,none⟩),.pointer (some ⟨wA.heap.size+1+1+1,0,none⟩)],.int .i64 x.1.1,.string x.1.2,undef,undef,undef,undef,undef,undef,undef,undef,undef,undef,undef,undef,undef,undef,undef,undef,undef,undef,undef,undef,undef,undef,undef,undef,undef,undef,undef,undef,undef,undef,undef,undef,undef,undef],defers:=[] }) ?assign ?body ?done ?stop
 case assign =>
  intro l x W K hK
  gi_wp2
  exact hK
 case body =>
  rintro l Y x W ⟨⟨i0,i1,i2⟩,⟨q,n',v,a2,b3,i3,a7,aJ,i4,C⟩,iB,b5⟩ hlen;obtain⟨va,vc,rfl⟩:=a7.form;have br:=zdw s ⟨#[32]⟩ s.size 0;have bt:=x.2.1;have aU:=JB (zW Y) [x.1] (zm,0);rw[a2] at aU;have a4:Hid (qH (zW (Y++[x])) (zm,0)=qH [x.1] (q,n')):=by show _=_;rw[zW,zrv];exact aU
  clear aU a2
  by_cases he:x.1.2.toList=[]
  ·have hz:x.1.2.toList.isEmpty=true:=by rw[he];rfl
   have U:qH [x.1] (q,n')=.ok (q,n'):=by rw[qH,zc3 he];rfl
   rw[U] at a4;have HI:Hid (PcI w wA p (Y++[x]) W):=⟨⟨i0,i1,i2⟩,⟨q,n',_,a4.out,by rw[zf4];omega,i3,a7,aJ,i4,C⟩,iB,b5⟩;clear i0 i1 i2 i3 a7 i4 C iB U a4 j0 j1 j2 j3 j4 j5 j6 V
   gi_wp2
   exact⟨KeepsOthers.refl _,⟨rfl,rfl,rfl⟩,HI.out⟩
  ·have hz:x.1.2.toList.isEmpty=false:=by
    cases h:x.1.2.toList with
    |nil=>exact absurd h he
    |cons a t=>rfl
   have d4:_=some (Value.int .i64 n'):=i4.cell 0;have e4:=i4.frozen 0;have b4:(n':Int)+1=((n'+1:Nat):Int):=by omega
   -- words++
   obtain⟨W1,Z⟩:∃W1,W.setCell ⟨wA.heap.size+1,0,none⟩ (.int .i64 ((n':Int)+1))=W1:=⟨_,rfl⟩;have s0:Blk W1 w.heap.size 3 #[p]:=by rw[<-Z];exact i0.other (by omega)
   have s1:Blk W1 (w.heap.size+1) 105 #[.slice none 0 0]:=by rw[<-Z];exact i1.other (by omega)
   have s2:Blk W1 (w.heap.size+1+1) 31 #[.nilIface]:=by rw[<-Z];exact i2.other (by omega)
   have s3:Blk W1 wA.heap.size 105 #[.slice va q.length vc]:=by rw[<-Z];exact i3.other (by omega)
   have s4:Blk W1 (wA.heap.size+1) 3 #[.int .i64 ((n'+1:Nat):Int)]:=by rw[<-Z,<-b4];exact i4.set (i:=0)
   have aW:zk W1 (.slice va q.length vc) q:=by rw[<-Z];exact a7.set (fun e=>(C _ e).2.2 rfl)
   have sB:zB w W1:=by rw[<-Z];exact iB.setCell (p:=⟨wA.heap.size+1,0,none⟩) (by show w.heap.size<=wA.heap.size+1;omega) _
   have bo:W1.heap.size=W.heap.size:=by rw[<-Z];exact Ye _ _ _
   have a3:KeepsOthers W W1:=by rw[<-Z];exact KeepsOthers.setCell _ _ _
   have aj:Kp2 (wA.heap.size+1+1) (wA.heap.size+1+1+1) W W1:=by rw[<-Z];exact X8 ⟨rfl,rfl,rfl⟩ (by omega) (by omega) (by omega)
   have aY:=zH Z;have M:=zH (zhE x.1.2 W1 x.2.2 (HL.out.below sB));clear i0 i1 i2 i3 i4 a7 iB Z b4 j0 j1 j2 j3 j4 j5 j6 V;cases hwd:Za x.1.2 with
   |error k =>
    rw[hwd] at M;have U:qH [x.1] (q,n')=.error (k,x.1.1):=by rw[qH,zc2 he,hwd]
    rw[U] at a4;have hk:zR 183 #[x.1.2] W1 (.tuple #[.agg #[.slice none 0 0],.iface 53 (.int .i64 k)]):=M.out.mono fun e w' ⟨a',n'',c',er,h1,h2,h3,h4,h5⟩=>by rw[h4,h5] at h1;exact⟨h1,h2⟩
    have HK:=zH hk;clear hk U hwd he M aJ aW
    gi_wp2_with fail
    rw[aY.out];refine⟨trivial,?_⟩;refine(CallsIn.inRound l (callsIn_wide.2 HK.out)).mono ?_;rintro e wP ⟨rfl,aA⟩;have b1:prog.follows .mixedOrders=true:=by kernel_rfl
    have a1:zB wP (wP.alloc (.cells #[.slice none 0 0] 105)):=zF.alloc zN _;have J:zB W1 (wP.alloc (.cells #[.slice none 0 0] 105)):=zT aA a1;have t0:=s0.below J s0.lt;have t1:=s1.below J s1.lt;have t2:=s2.below J s2.lt;have q1:(wP.alloc (.cells #[.slice none 0 0] 105)).cell? w.heap.size=some (.int .i64 p):=t0.cell 0;have a8:Hid (zB w (wP.alloc (.cells #[.slice none 0 0] 105))):=zT sB J;have aa:Hid (∀X,zB w X->zR 37 #[.iface 53 (.int .i64 k)] X (.int .i64 k)):=fun X hb=>zcU k X (HL.out.below hb).glob;have aI:wrap64 ((p:Int)+(x.1.1:Int))=(p:Int)+(x.1.1:Int):=by unfold wrap64;omega
    have bn:IntKind.i64.wrap ((p:Int)+(x.1.1:Int))=(p:Int)+(x.1.1:Int):=by rw[zrl];unfold wrap64 at aI;exact aI
    clear aA HK a1 s0 s1 s2 s3 s4
    gi_wp2_with fail
    generalize wP.alloc (.cells #[.slice none 0 0] 105)=W2 at *;have aE:((p+x.1.1:Nat):Int)=(p:Int)+(x.1.1:Int):=by omega
    refine zcT b1 ?nd ?any
    case nd =>intro j o h c hc;have hm:=zuK h;simp at hm;rcases hm with rfl|rfl|rfl|rfl|rfl|rfl|rfl|rfl|rfl|rfl|rfl<;>cases hc
    case any =>
     refine wpAnyIn_take (i:=0) (v:=.agg #[.slice none 0 0]) rfl rfl (by kernel_rfl) (by kernel_rfl) (by kernel_rfl) (fun _ _ _ h=>h) ⟨Or.inl ⟨by rfl,by intro w;go_simp⟩,fun _=>rfl⟩ ?_;refine wpAnyIn_take (i:=1) (v:=.iface 53 (.int .i64 k)) rfl rfl (by kernel_rfl) (by kernel_rfl) (by kernel_rfl) (fun _ _ _ h=>h) ⟨Or.inl ⟨by rfl,by intro w;go_simp⟩,fun _=>rfl⟩ ?_;refine wpAnyIn_take (i:=4) (v:=.int .i64 x.1.1) rfl rfl (by kernel_rfl) (by kernel_rfl) (by kernel_rfl) (fun _ _ _ h=>h) ⟨Or.inl ⟨by rfl,by intro w;go_simp⟩,fun _=>rfl⟩ ?_;refine wpAnyIn_ready (rs:=[2,3]) (by kernel_rfl) (by simp) ?_;refine AllReadyIn.cons rfl (fun K hK=>?_) (AllReadyIn.cons rfl (fun K hK=>?_) AllReadyIn.nil)
     ·skip
      go_simp
      gi_wp2_with (refine⟨trivial,?_⟩;gi_at_call 37;refine(callsIn_wide.2 (aa.out _ a8.out.drew)).mono ?_;rintro e wT ⟨rfl,aB⟩)
      have hbT':zB W2 wT:=((zf0 _ W2).drew).trans aB;obtain⟨⟨v1,v2,v3,v4⟩,vF⟩:=zgS (k:=k) (p:=(p:Int)) (i:=(x.1.1:Int)) t1 t2 a8.out hbT';have q9:wT.cell? w.heap.size=some (.int .i64 p):=(t0.below hbT' t0.lt).cell 0;have z1:_=some (Value.slice none 0 0):=v1.cell 0;have z2:=v1.frozen 0;have z3:(wT.alloc (.cells #[k,.int .i64 ((p:Int)+(x.1.1:Int))] 112)).cell? ⟨w.heap.size+1,0,none⟩=some (.slice none 0 0):=v2.cell 0;have z4:=v2.frozen 0;have z5:((wT.setCell ⟨w.heap.size+1,0,none⟩ (.slice none 0 0)).alloc (.cells #[k,.int .i64 ((p:Int)+(x.1.1:Int))] 112)).cell? ⟨w.heap.size+1+1,0,none⟩=some .nilIface:=v3.cell 0;have z6:=v3.frozen 0;have z7:((wT.alloc (.cells #[k,.int .i64 ((p:Int)+(x.1.1:Int))] 112)).setCell ⟨w.heap.size+1,0,none⟩ (.slice none 0 0)).cell? ⟨w.heap.size+1+1,0,none⟩=some .nilIface:=v4.cell 0;have z8:=v4.frozen 0;have z9:(wT.setCell ⟨w.heap.size+1,0,none⟩ (.slice none 0 0)).cell? w.heap.size=some (.int .i64 p):=((t0.below hbT' t0.lt).other (by omega)).cell 0;have a5:=zH vF;clear v1 v2 v3 v4 vF aB;refine wpAnyIn_ready (rs:=[3,9]) (by kernel_rfl) (by simp) ?_;refine AllReadyIn.cons rfl (fun K hK=>?_) (AllReadyIn.cons rfl (fun K hK=>?_) AllReadyIn.nil)
      ·skip
       go_simp;refine hK _ _ ?_;clear hK K;refine wpAnyIn_take (i:=5) (v:=.int .i64 ((p:Int)+(x.1.1:Int))) rfl rfl (by kernel_rfl) (by kernel_rfl) (by kernel_rfl) (fun _ _ _ h=>h) ⟨Or.inl ⟨by rfl,by intro w;go_simp⟩,fun _=>rfl⟩ ?_;refine wpAnyIn_take (i:=6) (v:=.agg #[k,.int .i64 ((p:Int)+(x.1.1:Int))]) rfl rfl (by kernel_rfl) (by kernel_rfl) (by kernel_rfl) (fun _ _ _ h=>h) ⟨Or.inl ⟨by rfl,by intro w;go_simp⟩,fun _=>rfl⟩ ?_;refine wpAnyIn_ready (rs:=[7,9]) (by kernel_rfl) (by simp) ?_;refine AllReadyIn.cons rfl (fun K hK=>?_) (AllReadyIn.cons rfl (fun K hK=>?_) AllReadyIn.nil)
       ·skip
        go_simp;refine hK _ _ ?_;clear hK K;refine wpAnyIn_take (i:=8) (v:=.iface 110 (.pointer (some wT))) rfl rfl (by kernel_rfl) (by kernel_rfl) (by kernel_rfl) (fun _ _ _ h=>h) ⟨Or.inl ⟨by rfl,by intro w;go_simp⟩,fun _=>rfl⟩ ?_;refine wpAnyIn_ready (rs:=[9]) (by kernel_rfl) (by simp) ?_;refine AllReadyIn.cons rfl (fun K hK=>?_) AllReadyIn.nil;go_simp;refine hK _ _ ?_;clear hK K;refine wpAnyIn_ready (rs:=[10]) (by kernel_rfl) (by simp) ?_;refine AllReadyIn.cons rfl (fun K hK=>?_) AllReadyIn.nil;go_simp;refine hK _ _ ?_;clear hK K;refine wpAnyIn_done (by kernel_rfl) ?_ _;obtain⟨y1,y2,y3,y4,y5,y6⟩:=a5.out _ (.inl rfl);have R:Hid (KeepsOthers W _/\PcX w p .ret (Y++[x]) _):=⟨(a3.trans (Zi J)).trans y6,⟨rfl,k,x.1.1,wT.heap.size,a4.out,y1,y2,by rw[aE];exact y3,y4⟩,y5⟩;clear y1 y2 y3 y4 y5 y6 z1 z2 z3 z4 z5 z6 z7 z8 z9 a5 t0 t1 t2 J a3 aj sB C
        gi_wp2
        exact R.out
       ·skip
        go_simp;refine hK _ _ ?_;clear hK K;refine wpAnyIn_ready (rs:=[7]) (by kernel_rfl) (by simp) ?_;refine AllReadyIn.cons rfl (fun K hK=>?_) AllReadyIn.nil;go_simp;refine hK _ _ ?_;clear hK K;refine wpAnyIn_take (i:=8) (v:=.iface 110 (.pointer (some wT))) rfl rfl (by kernel_rfl) (by kernel_rfl) (by kernel_rfl) (fun _ _ _ h=>h) ⟨Or.inl ⟨by rfl,by intro w;go_simp⟩,fun _=>rfl⟩ ?_;refine wpAnyIn_ready (rs:=[10]) (by kernel_rfl) (by simp) ?_;refine AllReadyIn.cons rfl (fun K hK=>?_) AllReadyIn.nil;go_simp;refine hK _ _ ?_;clear hK K;refine wpAnyIn_done (by kernel_rfl) ?_ _;obtain⟨y1,y2,y3,y4,y5,y6⟩:=a5.out _ (.inr rfl);have R:Hid (KeepsOthers W _/\PcX w p .ret (Y++[x]) _):=⟨(a3.trans (Zi J)).trans y6,⟨rfl,k,x.1.1,wT.heap.size,a4.out,y1,y2,by rw[aE];exact y3,y4⟩,y5⟩;clear y1 y2 y3 y4 y5 y6 z1 z2 z3 z4 z5 z6 z7 z8 z9 a5 t0 t1 t2 J a3 aj sB C
        gi_wp2
        exact R.out
      ·skip
       go_simp;refine hK _ _ ?_;clear hK K;refine wpAnyIn_ready (rs:=[3]) (by kernel_rfl) (by simp) ?_;refine AllReadyIn.cons rfl (fun K hK=>?_) AllReadyIn.nil;go_simp;refine hK _ _ ?_;clear hK K;refine wpAnyIn_take (i:=5) (v:=.int .i64 ((p:Int)+(x.1.1:Int))) rfl rfl (by kernel_rfl) (by kernel_rfl) (by kernel_rfl) (fun _ _ _ h=>h) ⟨Or.inl ⟨by rfl,by intro w;go_simp⟩,fun _=>rfl⟩ ?_;refine wpAnyIn_take (i:=6) (v:=.agg #[k,.int .i64 ((p:Int)+(x.1.1:Int))]) rfl rfl (by kernel_rfl) (by kernel_rfl) (by kernel_rfl) (fun _ _ _ h=>h) ⟨Or.inl ⟨by rfl,by intro w;go_simp⟩,fun _=>rfl⟩ ?_;refine wpAnyIn_ready (rs:=[7]) (by kernel_rfl) (by simp) ?_;refine AllReadyIn.cons rfl (fun K hK=>?_) AllReadyIn.nil;go_simp;refine hK _ _ ?_;clear hK K;refine wpAnyIn_take (i:=8) (v:=.iface 110 (.pointer (some wT))) rfl rfl (by kernel_rfl) (by kernel_rfl) (by kernel_rfl) (fun _ _ _ h=>h) ⟨Or.inl ⟨by rfl,by intro w;go_simp⟩,fun _=>rfl⟩ ?_;refine wpAnyIn_ready (rs:=[10]) (by kernel_rfl) (by simp) ?_;refine AllReadyIn.cons rfl (fun K hK=>?_) AllReadyIn.nil;go_simp;refine hK _ _ ?_;clear hK K;refine wpAnyIn_done (by kernel_rfl) ?_ _;obtain⟨y1,y2,y3,y4,y5,y6⟩:=a5.out _ (.inr rfl);have R:Hid (KeepsOthers W _/\PcX w p .ret (Y++[x]) _):=⟨(a3.trans (Zi J)).trans y6,⟨rfl,k,x.1.1,wT.heap.size,a4.out,y1,y2,by rw[aE];exact y3,y4⟩,y5⟩;clear y1 y2 y3 y4 y5 y6 z1 z2 z3 z4 z5 z6 z7 z8 z9 a5 t0 t1 t2 J a3 aj sB C
       gi_wp2
       exact R.out
     ·skip
      go_simp;refine hK _ _ ?_;clear hK K;refine wpAnyIn_take (i:=5) (v:=.int .i64 ((p:Int)+(x.1.1:Int))) rfl rfl (by kernel_rfl) (by kernel_rfl) (by kernel_rfl) (fun _ _ _ h=>h) ⟨Or.inl ⟨by rfl,by intro w;go_simp⟩,fun _=>rfl⟩ ?_;refine wpAnyIn_ready (rs:=[2]) (by kernel_rfl) (by simp) ?_;refine AllReadyIn.cons rfl (fun K hK=>?_) AllReadyIn.nil;go_simp
      gi_wp2_with (refine⟨trivial,?_⟩;gi_at_call 37;refine(callsIn_wide.2 (aa.out _ a8.out.drew)).mono ?_;rintro e wT ⟨rfl,aB⟩)
      have hbT':zB W2 wT:=((zf0 _ W2).drew).trans aB;obtain⟨⟨v1,v2,v3,v4⟩,vF⟩:=zgS (k:=k) (p:=(p:Int)) (i:=(x.1.1:Int)) t1 t2 a8.out hbT';have q9:wT.cell? w.heap.size=some (.int .i64 p):=(t0.below hbT' t0.lt).cell 0;have z1:_=some (Value.slice none 0 0):=v1.cell 0;have z2:=v1.frozen 0;have z3:(wT.alloc (.cells #[k,.int .i64 ((p:Int)+(x.1.1:Int))] 112)).cell? ⟨w.heap.size+1,0,none⟩=some (.slice none 0 0):=v2.cell 0;have z4:=v2.frozen 0;have z5:((wT.setCell ⟨w.heap.size+1,0,none⟩ (.slice none 0 0)).alloc (.cells #[k,.int .i64 ((p:Int)+(x.1.1:Int))] 112)).cell? ⟨w.heap.size+1+1,0,none⟩=some .nilIface:=v3.cell 0;have z6:=v3.frozen 0;have z7:((wT.alloc (.cells #[k,.int .i64 ((p:Int)+(x.1.1:Int))] 112)).setCell ⟨w.heap.size+1,0,none⟩ (.slice none 0 0)).cell? ⟨w.heap.size+1+1,0,none⟩=some .nilIface:=v4.cell 0;have z8:=v4.frozen 0;have z9:(wT.setCell ⟨w.heap.size+1,0,none⟩ (.slice none 0 0)).cell? w.heap.size=some (.int .i64 p):=((t0.below hbT' t0.lt).other (by omega)).cell 0;have a5:=zH vF;clear v1 v2 v3 v4 vF aB;refine wpAnyIn_take (i:=6) (v:=.agg #[k,.int .i64 ((p:Int)+(x.1.1:Int))]) rfl rfl (by kernel_rfl) (by kernel_rfl) (by kernel_rfl) (fun _ _ _ h=>h) ⟨Or.inl ⟨by rfl,by intro w;go_simp⟩,fun _=>rfl⟩ ?_;refine wpAnyIn_ready (rs:=[7,9]) (by kernel_rfl) (by simp) ?_;refine AllReadyIn.cons rfl (fun K hK=>?_) (AllReadyIn.cons rfl (fun K hK=>?_) AllReadyIn.nil)
      ·skip
       go_simp;refine hK _ _ ?_;clear hK K;refine wpAnyIn_take (i:=8) (v:=.iface 110 (.pointer (some wT))) rfl rfl (by kernel_rfl) (by kernel_rfl) (by kernel_rfl) (fun _ _ _ h=>h) ⟨Or.inl ⟨by rfl,by intro w;go_simp⟩,fun _=>rfl⟩ ?_;refine wpAnyIn_ready (rs:=[9]) (by kernel_rfl) (by simp) ?_;refine AllReadyIn.cons rfl (fun K hK=>?_) AllReadyIn.nil;go_simp;refine hK _ _ ?_;clear hK K;refine wpAnyIn_ready (rs:=[10]) (by kernel_rfl) (by simp) ?_;refine AllReadyIn.cons rfl (fun K hK=>?_) AllReadyIn.nil;go_simp;refine hK _ _ ?_;clear hK K;refine wpAnyIn_done (by kernel_rfl) ?_ _;obtain⟨y1,y2,y3,y4,y5,y6⟩:=a5.out _ (.inl rfl);have R:Hid (KeepsOthers W _/\PcX w p .ret (Y++[x]) _):=⟨(a3.trans (Zi J)).trans y6,⟨rfl,k,x.1.1,wT.heap.size,a4.out,y1,y2,by rw[aE];exact y3,y4⟩,y5⟩;clear y1 y2 y3 y4 y5 y6 z1 z2 z3 z4 z5 z6 z7 z8 z9 a5 t0 t1 t2 J a3 aj sB C
       gi_wp2
       exact R.out
      ·skip
       go_simp;refine hK _ _ ?_;clear hK K;refine wpAnyIn_ready (rs:=[7]) (by kernel_rfl) (by simp) ?_;refine AllReadyIn.cons rfl (fun K hK=>?_) AllReadyIn.nil;go_simp;refine hK _ _ ?_;clear hK K;refine wpAnyIn_take (i:=8) (v:=.iface 110 (.pointer (some wT))) rfl rfl (by kernel_rfl) (by kernel_rfl) (by kernel_rfl) (fun _ _ _ h=>h) ⟨Or.inl ⟨by rfl,by intro w;go_simp⟩,fun _=>rfl⟩ ?_;refine wpAnyIn_ready (rs:=[10]) (by kernel_rfl) (by simp) ?_;refine AllReadyIn.cons rfl (fun K hK=>?_) AllReadyIn.nil;go_simp;refine hK _ _ ?_;clear hK K;refine wpAnyIn_done (by kernel_rfl) ?_ _;obtain⟨y1,y2,y3,y4,y5,y6⟩:=a5.out _ (.inr rfl);have R:Hid (KeepsOthers W _/\PcX w p .ret (Y++[x]) _):=⟨(a3.trans (Zi J)).trans y6,⟨rfl,k,x.1.1,wT.heap.size,a4.out,y1,y2,by rw[aE];exact y3,y4⟩,y5⟩;clear y1 y2 y3 y4 y5 y6 z1 z2 z3 z4 z5 z6 z7 z8 z9 a5 t0 t1 t2 J a3 aj sB C
       gi_wp2
       exact R.out
   |ok lw =>
    rw[hwd] at M;have U:qH [x.1] (q,n')=.ok (nd q lw,n'+1):=by rw[qH,zc2 he,hwd];rfl
    rw[U] at a4;have aS:=za5 hwd;have aq:=zH (fun (u:Value) (X:World) (h1:zk X (.slice va q.length vc) q) (h2:zk X u lw)=>(zdn q lw aJ aS (.slice va q.length vc) u X h1 h2).mono fun e w' (h:Q4 X (nd q lw) e w')=>(show ∃a' c',e=.returned (.agg #[.slice a' (nd q lw).length c'])/\zk w' (.slice a' (nd q lw).length c') (nd q lw)/\(∀g,(Value.slice a' (nd q lw).length c').ownBlock=some g->X.heap.size<=g)/\zB X w' from by obtain⟨v',he,hs,hn,hb⟩:=h;obtain⟨a',c',rfl⟩:=hs.form;exact⟨a',c',he,hs,hn,hb⟩));have be:=zH (Qz aJ aS);clear U hwd he aS
    gi_wp2_with fail
    rw[aY.out];refine⟨trivial,?_⟩;refine(CallsIn.inRound l (callsIn_wide.2 M.out)).mono ?_;rintro e wP ⟨ar,nr,cr,er,rfl,aA,bl,hm⟩;obtain⟨rfl,aH⟩:=hm;have a1:zB wP (wP.alloc (.cells #[.slice ar nr cr] 105)):=zF.alloc zN _;have kr:=Blk.new wP 105 #[.slice ar nr cr];have J:zB W1 (wP.alloc (.cells #[.slice ar nr cr] 105)):=zT aA a1;have aF:=aW.below J zN;have ag:=aH.below a1 zN;have t0:=s0.below J s0.lt;have t1:=s1.below J s1.lt;have t2:=s2.below J s2.lt;have t3:=s3.below J s3.lt;have t4:=s4.below J s4.lt;have b8:=zH (aq.out _ _ aF ag);have q1:(wP.alloc (.cells #[.slice ar nr cr] 105)).cell? wA.heap.size=some (.slice va q.length vc):=t3.cell 0;have q2:(wP.alloc (.cells #[.slice ar nr cr] 105)).cell? wP.heap.size=some (.slice ar nr cr):=kr.cell 0;clear aq M aA bl aH aF ag a1 kr aW s0 s1 s2 s3 s4
    gi_wp2_with fail
    refine⟨trivial,?_⟩;generalize wP.alloc (.cells #[.slice ar nr cr] 105)=W2 at *;refine(CallsIn.inRound l (callsIn_wide.2 b8.out)).mono ?_;rintro e wN ⟨an,cn,rfl,aG,aD,ad⟩;have bq:W.heap.size<=W2.heap.size:=by rw[<-bo];exact J.size
    have u0:=t0.below ad t0.lt;have u1:=t1.below ad t1.lt;have u2:=t2.below ad t2.lt;have u3:=t3.below ad t3.lt;have u4:=t4.below ad t4.lt;have q3:_=some (Value.slice va q.length vc):=u3.cell 0;have q4:=u3.frozen 0;have aK:zB W1 wN:=zT J ad;obtain⟨WF,y⟩:∃WF,wN.setCell wA (.slice an (nd q lw).length cn)=WF:=⟨_,rfl⟩;have a6:∀g,(Value.slice an (nd q lw).length cn).ownBlock=some g->w.heap.size+1+1<g/\g≠wA.heap.size/\g≠wA.heap.size+1:=fun g hg=>by have:=aD g hg;omega
    have HI:Hid (PcI w wA p (Y++[x]) WF):=by
     refine⟨⟨?_,?_,?_⟩,⟨nd q lw,n'+1,.slice an (nd q lw).length cn,a4.out,by rw[zf4];simp;exact b3,?_,?_,be.out,?_,a6⟩,?_,?_⟩
     ·rw[<-y];exact u0.other (by omega)
     ·rw[<-y];exact u1.other (by omega)
     ·rw[<-y];exact u2.other (by omega)
     ·rw[<-y];exact u3.set (i:=0)
     ·rw[<-y];exact aG.set (fun e=>by have:=a6 _ e;omega)
     ·rw[<-y];exact u4.other (by omega)
     ·rw[<-y];exact(zT sB aK).setCell (p:=wA) (by show w.heap.size<=wA.heap.size;omega) _
     ·rw[<-y,Ye];have:=ad.size;omega
    have HK:Hid (KeepsOthers W WF):=by rw[<-y];exact(a3.trans (Zi aK)).trans (KeepsOthers.setCell _ _ _)
    have bc:Hid (Kp2 (wA.heap.size+1+1) (wA.heap.size+1+1+1) W WF):=by rw[<-y];exact X8 (JV aj (zbB aK (by omega) (by omega) (by omega))) (by omega) (by omega) (by omega)
    have aO:=zH y;clear aG aD ad u0 u1 u2 u3 u4 t0 t1 t2 t3 t4 J aK a6 y sB a3 aj C q1 q2
    gi_wp2
    rw[aO.out];exact⟨HK.out,bc.out,HI.out⟩
 case done =>
  rintro D ys W hD aL ⟨⟨i0,i1,i2⟩,⟨q,n',v,a2,b3,i3,a7,aJ,i4,C⟩,iB,b5⟩ hK;rw[aL] at a2;obtain⟨va,vc,rfl⟩:=a7.form;have d0:_=some (Value.int .i64 p):=i0.cell 0;have d1:_=some (Value.slice none 0 0):=i1.cell 0;have e1:=i1.frozen 0;have d2:_=some Value.nilIface:=i2.cell 0;have e2:=i2.frozen 0;have d3:_=some (Value.slice va q.length vc):=i3.cell 0;have d4:_=some (Value.int .i64 n'):=i4.cell 0
  by_cases hn0:n'=0
  ·have ak:Hid (yQ s p=.error (3,p+s.size)):=by unfold Hid yQ;rw[a2];simp only;rw[zc3 hn0]
   have bi:((n':Int)==0)=true:=by rw[ztW];omega
   have b1:prog.follows .mixedOrders=true:=by kernel_rfl
   have hi:(p:Int)+(s.size:Int)=((p+s.size:Nat):Int):=by omega
   have m1:=i1.alloc (.cells #[(3:Int),.int .i64 ((p:Int)+(s.size:Int))] 112);have m2:=i2.alloc (.cells #[(3:Int),.int .i64 ((p:Int)+(s.size:Int))] 112);have f1:(W.alloc (.cells #[(3:Int),.int .i64 ((p:Int)+(s.size:Int))] 112)).cell? ⟨w.heap.size+1,0,none⟩=some (.slice none 0 0):=m1.cell 0;have f2:=m1.frozen 0;have f3:(W.alloc (.cells #[(3:Int),.int .i64 ((p:Int)+(s.size:Int))] 112)).cell? ⟨w.heap.size+1+1,0,none⟩=some .nilIface:=m2.cell 0;have f4:=m2.frozen 0;clear hi;have aI:wrap64 ((p:Int)+(s.size:Int))=(p:Int)+(s.size:Int):=by unfold wrap64;omega
   have bn:IntKind.i64.wrap ((p:Int)+(s.size:Int))=(p:Int)+(s.size:Int):=by rw[zrl];unfold wrap64 at aI;exact aI
   have x2:=(i2.other (b':=w.heap.size+1) (i:=0) (v:=.slice none 0 0) (by omega)).alloc (.cells #[(3:Int),.int .i64 ((p:Int)+(s.size:Int))] 112);have g1:((W.setCell ⟨w.heap.size+1,0,none⟩ (.slice none 0 0)).alloc (.cells #[(3:Int),.int .i64 ((p:Int)+(s.size:Int))] 112)).cell? ⟨w.heap.size+1+1,0,none⟩=some .nilIface:=x2.cell 0;have g2:=x2.frozen 0;have y2:=m2.other (b':=w.heap.size+1) (i:=0) (v:=.slice none 0 0) (by omega);have g3:((W.alloc (.cells #[(3:Int),.int .i64 ((p:Int)+(s.size:Int))] 112)).setCell ⟨w.heap.size+1,0,none⟩ (.slice none 0 0)).cell? ⟨w.heap.size+1+1,0,none⟩=some .nilIface:=y2.cell 0;have g4:=y2.frozen 0;have aQ:w.heap.size+1<=W.heap.size:=by omega
   have SC:Hid (∀X,Below (w.heap.size+1) W X->X.cell? w.heap.size=some (.int .i64 p)):=fun X hb=>(i0.below hb (zsA _)).cell 0
   gi_wp2_with fail
   refine wpIn_wide.2 ?_;go_region_held3 (fun w'=>w'.cell? w.heap.size=some (.int .i64 p)) ((refine SC.out _ ?_;repeat' (first|exact zf0 _ _|refine Below.drew ?_|refine Below.alloc ?_ (by first|exact aQ|(simp;omega)) _|refine Below.setCell ?_ (by first|exact zri _|exact zrr _) _))) (first|fail)
   ·obtain⟨WF,y⟩:∃WF,(((W.alloc (.cells #[(3:Int),.int .i64 ((p:Int)+(s.size:Int))] 112)).setCell ⟨w.heap.size+1,0,none⟩ (.slice none 0 0)).setCell ⟨w.heap.size+1+1,0,none⟩ (.iface 110 (.pointer (some W)))).drew=WF:=⟨_,rfl⟩;have p1:Blk WF (w.heap.size+1) 105 #[.slice none 0 0]:=by rw[<-y];exact(m1.set (i:=0) (v:=.slice none 0 0)).other (by omega)
    have p2:Blk WF (w.heap.size+1+1) 31 #[.iface 110 (.pointer (some W))]:=by rw[<-y];exact y2.set (i:=0) (v:=(.iface 110 (.pointer (some W))))
    have p3:Blk WF W.heap.size 112 #[(3:Int),.int .i64 ((p:Int)+(s.size:Int))]:=by rw[<-y];exact((Blk.new W 112 #[(3:Int),.int .i64 ((p:Int)+(s.size:Int))]).other (by omega)).other (by omega)
    have ac:zB w WF:=by rw[<-y];exact(((zL iB).setCell (p:=⟨w.heap.size+1,0,none⟩) (zrr _) _).setCell (p:=⟨w.heap.size+1+1,0,none⟩) (by show w.heap.size<=w.heap.size+1+1;omega) _).drew
    have a9:WF.heap[D]?=some (.deferred (some [])):=by rw[<-y];exact((((KeepsOthers.alloc _ _).trans (KeepsOthers.setCell _ _ _)).trans (KeepsOthers.setCell _ _ _)).trans (KeepsOthers.drew _)).same D _ hK rfl
    have am:W.heap.size≠D:=fun e=>by have:=(zrg.1 hK).1;omega
    have q1:=p1.put (l:=D) (o':=.deferred none) (by omega);have q2:=p2.put (l:=D) (o':=.deferred none) (by omega);have q3:=p3.put (l:=D) (o':=.deferred none) am;have av:=zH q1;have aw:=zH q2;have ax:=zH q3;have ay:=zH ac;have ab:=zH a9;have aC:=iB.size;have aM:=zH aC;rw[y];clear i0 i1 i2 i3 i4 a7 C iB hK ac a9 p1 p2 p3 q1 q2 q3 y a2 aL j0 j1 j2 j3 j4 j5 j6 V f1 f2 f3 f4 g1 g2 g3 g4 m1 m2 x2 y2 aC
    gi_wp2
    refine⟨by simp,.inl ⟨_,_,rfl,run_takeDeferred ab.out,?_⟩⟩;have r1:=av.out.cell 0;have r2:=aw.out.cell 0;refine⟨.tuple #[.agg #[.slice none 0 0],.iface 110 (.pointer (some W))],?_,?_⟩
    ·simp[results,Tryz.f130,go_sem,r1,r2]
    ·rw[ak.out];exact⟨W.heap.size,rfl,ax.out,aM.out,ay.out.trans (belowK_b (w:=w) zN WF D _ _ (by omega) ab.out rfl rfl)⟩
   ·obtain⟨WF,y⟩:∃WF,(((W.setCell ⟨w.heap.size+1,0,none⟩ (.slice none 0 0)).alloc (.cells #[(3:Int),.int .i64 ((p:Int)+(s.size:Int))] 112)).setCell ⟨w.heap.size+1+1,0,none⟩ (.iface 110 (.pointer (some W)))).drew=WF:=⟨_,rfl⟩;have p1:Blk WF (w.heap.size+1) 105 #[.slice none 0 0]:=by rw[<-y];exact((i1.set (i:=0) (v:=.slice none 0 0)).alloc _).other (by omega)
    have p2:Blk WF (w.heap.size+1+1) 31 #[.iface 110 (.pointer (some W))]:=by rw[<-y];exact x2.set (i:=0) (v:=(.iface 110 (.pointer (some W))))
    have p3:Blk WF W.heap.size 112 #[(3:Int),.int .i64 ((p:Int)+(s.size:Int))]:=by rw[<-y];exact(show Blk _ W.heap.size _ _ from (by have:=Blk.new (W.setCell ⟨w.heap.size+1,0,none⟩ (.slice none 0 0)) 112 #[(3:Int),.int .i64 ((p:Int)+(s.size:Int))];rw[Ye] at this;exact this)).other (by omega)
    have ac:zB w WF:=by rw[<-y];exact(((iB.setCell (p:=⟨w.heap.size+1,0,none⟩) (zrr _) _).alloc (by rw[Ye];exact iB.size) _).setCell (p:=⟨w.heap.size+1+1,0,none⟩) (by show w.heap.size<=w.heap.size+1+1;omega) _).drew
    have a9:WF.heap[D]?=some (.deferred (some [])):=by rw[<-y];exact((((KeepsOthers.setCell _ _ _).trans (KeepsOthers.alloc _ _)).trans (KeepsOthers.setCell _ _ _)).trans (KeepsOthers.drew _)).same D _ hK rfl
    have am:W.heap.size≠D:=fun e=>by have:=(zrg.1 hK).1;omega
    have q1:=p1.put (l:=D) (o':=.deferred none) (by omega);have q2:=p2.put (l:=D) (o':=.deferred none) (by omega);have q3:=p3.put (l:=D) (o':=.deferred none) am;have av:=zH q1;have aw:=zH q2;have ax:=zH q3;have ay:=zH ac;have ab:=zH a9;have aC:=iB.size;have aM:=zH aC;rw[y];clear i0 i1 i2 i3 i4 a7 C iB hK ac a9 p1 p2 p3 q1 q2 q3 y a2 aL j0 j1 j2 j3 j4 j5 j6 V f1 f2 f3 f4 g1 g2 g3 g4 m1 m2 x2 y2 aC
    gi_wp2
    refine⟨by simp,.inl ⟨_,_,rfl,run_takeDeferred ab.out,?_⟩⟩;have r1:=av.out.cell 0;have r2:=aw.out.cell 0;refine⟨.tuple #[.agg #[.slice none 0 0],.iface 110 (.pointer (some W))],?_,?_⟩
    ·simp[results,Tryz.f130,go_sem,r1,r2]
    ·rw[ak.out];exact⟨W.heap.size,rfl,ax.out,aM.out,ay.out.trans (belowK_b (w:=w) zN WF D _ _ (by omega) ab.out rfl rfl)⟩
  ·have ak:Hid (yQ s p=.ok q):=by unfold Hid yQ;rw[a2];simp only;rw[zc2 hn0]
   have bi:((n':Int)==0)=false:=by rw[zf2];omega
   obtain⟨WF,y⟩:∃WF,(W.setCell ⟨w.heap.size+1,0,none⟩ (.slice va q.length vc)).setCell ⟨w.heap.size+1+1,0,none⟩ .nilIface=WF:=⟨_,rfl⟩;have ac:zB w WF:=by rw[<-y];exact(iB.setCell (p:=⟨w.heap.size+1,0,none⟩) (zrr _) _).setCell (p:=⟨w.heap.size+1+1,0,none⟩) (by show w.heap.size<=w.heap.size+1+1;omega) _
   have a9:WF.heap[D]?=some (.deferred (some [])):=by rw[<-y];exact((KeepsOthers.setCell _ _ _).trans (KeepsOthers.setCell _ _ _)).same D _ hK rfl
   have p1:Blk WF (w.heap.size+1) 105 #[.slice va q.length vc]:=by rw[<-y];exact(i1.set (i:=0)).other (by omega)
   have p2:Blk WF (w.heap.size+1+1) 31 #[.nilIface]:=by rw[<-y];exact(i2.other (by omega)).set (i:=0)
   have b6:zk WF (.slice va q.length vc) q:=by rw[<-y];exact(a7.set (fun e=>by have:=C _ e;omega)).set (fun e=>by have:=C _ e;omega)
   have q1:=p1.put (l:=D) (o':=.deferred none) (by omega);have q2:=p2.put (l:=D) (o':=.deferred none) (by omega);have b7:zk (WF.putObj D (.deferred none)) (.slice va q.length vc) q:=XM b6 (grownBy_putObj' _ D (.deferred none)) (fun r e=>by cases e;exact⟨_,a9,rfl⟩);have av:=zH q1;have aw:=zH q2;have bd:=zH b7;have ay:=zH ac;have ab:=zH a9;have aO:=zH y;have aN:Hid (∀g,(Value.slice va q.length vc).ownBlock=some g->w.heap.size<=g):=fun g hg=>by have:=C _ hg;omega
   clear i0 i1 i2 i3 i4 a7 C iB hK ac a9 p1 p2 b6 q1 q2 b7 y a2 aL j0 j1 j2 j3 j4 j5 j6 V
   gi_wp2
   rw[aO.out];refine⟨by simp,.inl ⟨_,_,rfl,run_takeDeferred ab.out,?_⟩⟩;have r1:=av.out.cell 0;have r2:=aw.out.cell 0;refine⟨.tuple #[.agg #[.slice va q.length vc],.nilIface],?_,?_⟩
   ·simp[results,Tryz.f130,go_sem,r1,r2]
   ·rw[ak.out];exact⟨_,rfl,bd.out,aN.out,ay.out.trans (belowK_b (w:=w) zN WF D _ _ (by omega) ab.out rfl rfl)⟩
 case stop =>
  rintro D c Y W hD aR ⟨⟨rfl,k,i,N,a2,x1,x2,x3,x4⟩,xB⟩ hK;obtain⟨aV,af⟩:=aR;have ai:=JB (zW Y) aV (zm,0);rw[a2,af] at ai;have ak:Hid (yQ s p=.error (k,p+i)):=by unfold Hid yQ;rw[ai]
  have am:N≠D:=fun e=>by
   subst e;have:=(show W.heap[N]?=_ from x3).symm.trans hK;simp at this
  have q1:=x1.put (l:=D) (o':=.deferred none) (by omega);have q2:=x2.put (l:=D) (o':=.deferred none) (by omega);have q3:=x3.put (l:=D) (o':=.deferred none) am;have r1:=q1.cell 0;have r2:=q2.cell 0;have ax:=zH q3;have HB:=zH xB;have bg:=zH x4;clear a2 ai af x1 x2 x3 x4 q1 q2 q3 xB am j0 j1 j2 j3 j4 j5 j6 V
  gi_wp2
  refine⟨by simp,.inl ⟨_,_,rfl,run_takeDeferred hK,?_⟩⟩;refine⟨.tuple #[.agg #[.slice none 0 0],.iface 110 (.pointer (some N))],?_,?_⟩
  ·simp[results,Tryz.f130,go_sem,r1,r2]
  ·rw[ak.out];exact⟨N,rfl,ax.out,bg.out,HB.out.trans (belowK_b (w:=w) zN W D _ _ (by omega) hK rfl rfl)⟩
end
