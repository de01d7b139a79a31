/- What a diagram is true of; the same function is the same handle. -/
import Derived.Test.YtiihalknffbjpaaGreatDoorArMark
set_option maxHeartbeats 4000000
set_option maxRecDepth 100000
namespace Go.Proofs.YtiihalknffbjpaaGreatDoor.Bd
open Go.RowKit Go.Maps
def marksOf (ns:List Nd) (fs:List Int):List Bool:=fs.foldl (fun m h=>markF 24 ns h m) (List.replicate ns.length false)
theorem marksOf_length (ns:List Nd) (fs:List Int):(marksOf ns fs).length=ns.length:=by
 unfold marksOf
 have:∀ (fs:List Int) (m:List Bool),(fs.foldl (fun m h=>markF 24 ns h m) m).length=m.length:=by
  intro fs
  induction fs with
  | nil=>intro m;rfl
  | cons f fs ih=>intro m;rw [List.foldl_cons,ih,markF_length]
 rw [this];simp
theorem marksOf_take (ns:List Nd) (fs:List Int) (k:Nat) (h:k<fs.length):marksOf ns (fs.take (k + 1))=markF 24 ns fs[k] (marksOf ns (fs.take k)):=by
 unfold marksOf;rw [List.take_succ_eq_append_getElem h,List.foldl_append];rfl
theorem ownsRow_base {w:World} {B B' e size n:Nat} {v:Value} {xs:List Value} (h:w.ownsRow B e size v n xs) (hB:B'<=B):w.ownsRow B' e size v n xs:=by
 refine ⟨h.1,?_⟩
 rcases h.2 with h1 | ⟨g,cap,cur,h1,h2,h3⟩
 ·exact .inl h1
 ·exact .inr ⟨g,cap,cur,h1,Nat.le_trans hB h2,h3⟩
theorem infoBool:(Tryz.prog.info? 4).map (fun i=>(i.zero,i.size,i.bytes))=some (some (.bool false),1,1):=by kernel_rfl
theorem mcells_made (n:Nat):(madeCells #[Value.bool false] n).toList=mcells (List.replicate n false):=by rw [toList_madeCells_one];simp [mcells]
structure IntsAt (w:World) (bf:Nat) (fs:List Int):Prop where
 lt:bf<w.heap.size
 cells:∀ i (h:i<fs.length),w.cell? ⟨bf,i,none⟩=some (.int .i64 fs[i])
 ok:∀ x ∈ fs,I64 x
section
variable {B b bm:Nat} {v:Value} {ns:List Nd} {L:List (Nd × Int)} {room next:Int} {w:World}
theorem reached_any (hr:Ranked ns) (hl:ns.length<=100000) (hA:ArenaAt B w b bm v ns L room next) (bf:Nat) {cp:Nat} (fs:List Int) (hF:IntsAt w bf fs) (hfl:fs.length<=1000) (hB:B<=w.heap.size) :
  Calls Tryz.prog 289 #[.pointer (some ⟨b,0,none⟩),.slice (some ⟨bf,0,none⟩) fs.length cp] w fun e w'=>e=.returned (.slice (some ⟨w.heap.size,0,none⟩) ns.length ns.length)/\w'.ownsRow B 4 1 (.slice (some ⟨w.heap.size,0,none⟩) ns.length ns.length) ns.length (mcells (marksOf ns fs))/\Below w.heap.size w w':=by
 obtain ⟨a,cap,rfl,-⟩:=hA.form
 have hg:¬ Own b bm (.slice a ns.length cap) w.heap.size:=by
  obtain ⟨D,hD,-⟩:=hA.hmap
  have hbm:=hD.lt
  have hlt:=hA.lt
  rintro (h | h | h)
  ·omega
  ·omega
  ·have:=(hA.row.lt _ h).2;omega
 have cn:=hA.cnodes
 obtain ⟨i0,hi,hz0,hz1,hz2⟩:=info_parts infoBool
 have HA:=Lib.hid hA
 have HF:=Lib.hid hF
 have HG:=Lib.hid hg
 have HR:=Lib.hid hr
 clear hA hF hg hr
 go_enter Tryz.func289,Tryz.ntmps289
 go_wp2_with (at_make;refine wpList_make_full _ rfl _ _ 219 rfl w.heap.size 4 i0 (.bool false) 1 Tryz.underlying219 hi hz0 hz1 .i64 .i64 _ _ ns.length rfl rfl ?c1 ?c2 ?c3 ?c4 ?c5 ?_)
 case c1=>rfl
 case c2=>rfl
 case c3=>rw [hz2];omega
 case c4=>unfold maxLen;omega
 case c5=>omega
 intro w1 hown hgrow
 rw [mcells_made] at hown
 have hbel:Below w.heap.size w w1:=(Below.refl _ _).grown hgrow (Nat.le_refl _) (fun k hk=>by cases hk)
 clear hgrow
 go_wp2_with fail
 go_loopw [7,16] (fun _ i wr=>∃ k:Nat,k<=fs.length/\i=.int .i64 (k:Int)/\wr.ownsRow w.heap.size 4 1 (.slice (some ⟨w.heap.size,0,none⟩) ns.length ns.length) ns.length (mcells (marksOf ns (fs.take k)))/\Below w.heap.size w wr)
  (fun _ i _=>fs.length - (intOf i).toNat)
 case atStart=>exact ⟨0,Nat.zero_le _,rfl,hown,hbel⟩
 case round =>
  obtain ⟨k,hk,rfl,hownr,hbelr⟩:=hrel
  clear hown hbel
  by_cases hlt:k<fs.length
  ·have ck:=(hbelr.cell (p:=⟨bf,k,none⟩) HF.out.lt).trans (HF.out.cells k hlt)
   have HC:Hid (Calls Tryz.prog 327 #[.pointer (some ⟨b,0,none⟩),.int .i64 fs[k],.slice (some ⟨w.heap.size,0,none⟩) ns.length ns.length] wr fun e w'=>e=.returned (.tuple #[])/\w'.ownsRow w.heap.size 4 1 (.slice (some ⟨w.heap.size,0,none⟩) ns.length ns.length) ns.length (mcells (marksOf ns (fs.take (k + 1))))/\Kept (fun k=>k=w.heap.size) wr w'):=by
    have hr':=HR.out
    have:=mark_any (B:=B) (L:=L) (room:=room) (next:=next) hr' hl HG.out 24 fs[k] (marksOf ns (fs.take k)) wr (HA.out.kept (Kept.of_below hbelr (fun _=>False)) (fun _ _ h=>h)) (marksOf_length _ _) (ownsRow_base hownr hB) (HF.out.ok _ (List.getElem_mem hlt)) (by have:=(topOf_le hr' fs[k]).1;omega)
    rw [<- marksOf_take ns fs k hlt] at this
    refine this.mono ?_
    rintro e w' ⟨h1,h2,h3⟩
    refine ⟨h1,⟨h2.1,?_⟩,h3⟩
    rcases h2.2 with h4 | ⟨g,cp,cur,h4,h5⟩
    ·exact .inl h4
    ·refine .inr ⟨g,cp,cur,h4,?_,h5.2⟩
     cases h4;exact Nat.le_refl _
   have HB:=Lib.hid hbelr
   clear hownr hbelr
   generalize fs[k]=x at *
   go_wp2_with fail
   refine HC.out.mono ?_
   rintro e w2 ⟨rfl,hr2,hk2⟩
   have hb2:=HB.out.trans (hk2.below HB.out.size (fun i hi=>by omega))
   clear HC hk2
   go_wp2
   go_roundw
   case rel=>exact ⟨k + 1,by omega,by go_num,hr2,hb2⟩
   case measure=>simp [intOf];omega
  ·obtain rfl:k=fs.length:=by omega
   rw [List.take_length] at hownr
   go_wp2
   go_ret
   exact ⟨rfl,ownsRow_base hownr hB,hbelr⟩
end
end Go.Proofs.YtiihalknffbjpaaGreatDoor.Bd
namespace Go.Proofs.YtiihalknffbjpaaGreatDoor.Bd
open Go.RowKit Go.Maps
theorem infoInt:(Tryz.prog.info? 3).map (fun i=>(i.zero,i.size,i.bytes))=some (some (.int .i64 0),1,8):=by kernel_rfl
end Go.Proofs.YtiihalknffbjpaaGreatDoor.Bd
namespace Go.Proofs.YtiihalknffbjpaaGreatDoor.Bd
open Go.RowKit Go.Maps
def strikeN (L:List (Nd × Int)) (n:Nd):List (Nd × Int):=L.filter fun q=>decide (q.1 ≠ n)
theorem step_delete {P:Program} {ops:Array Oper} {o:Oper} {a:Act} {w w':World} {K:Act->World->Prop} {Q:Exit->Act->World->Prop} {E:Prop}
  (hg:o.guard=none) (m x:Operand) (t k:TypeId) (hop:o.op=Op.call { callee:=Callee.builtin Builtin.delete,args:=#[m,x],argTypes:=#[t,k] })
  {b:Nat} {key:Value} (hm:a.eval m=.map (some b)) (hx:a.eval x=key) (hrun:∀ ty,(Builtin.delete_ #[t,k] ty #[.map (some b),key]).run P w=.ok (.tuple #[]) w')
  (hK:K (a.put o.dst (.tuple #[])) w'):if Region.wanted o (yielded ops a.tmps)=true then Oper.wp P o a w K Q else E:=by
 have hw:Region.wanted o (yielded ops a.tmps)=true:=by simp [Region.wanted,hg]
 rw [if_pos hw]
 unfold Oper.wp
 simp [execOp,hop,resolve,invoke,builtin,hm,hx,hrun,Result.andThen]
 exact hK
section
variable {B b bm:Nat} {v:Value} {ns:List Nd} {L:List (Nd × Int)} {room next:Int} {w:World}
theorem del_at {D:DataW Unit} (hD:w.ownsMap Tryz.prog 176 (plainElem Tryz.prog 3) bm L.length D) (hR:Rep Nd.Ok Nd.lit (fun x:Int=>.lit (.int .i64 x)) D L) {p:Nd × Int} (hp:p ∈ L) :
  ∃ w' D',(∀ ty,(Builtin.delete_ #[283,176] ty #[.map (some bm),.agg #[.int .i64 p.1.v,.int .i64 p.1.l,.int .i64 p.1.h]]).run Tryz.prog w=.ok (.tuple #[]) w')/\w'.ownsMap Tryz.prog 176 (plainElem Tryz.prog 3) bm (L.filter fun q=>decide (q.1 ≠ p.1)).length D'/\Rep Nd.Ok Nd.lit (fun x:Int=>.lit (.int .i64 x)) D' (L.filter fun q=>decide (q.1 ≠ p.1))/\Kept (fun k=>k=bm) w w':=by
 obtain ⟨w',hrun,h1,h2⟩:=hD.drop lawNode Tryz.underlying283 (keyNode p.1 (hR.oks p hp)) 0
 have hR':=hR.del (fun _ _=>litNode_inj) hp
 refine ⟨w',_,?_,hR'.size ▸ ownsMap_norm h1,hR',Kept.of_grown h2.grown (fun i h=>by cases h;rfl)⟩
 intro ty
 obtain ⟨w'',hrun2,h3,h4⟩:=hD.drop lawNode Tryz.underlying283 (keyNode p.1 (hR.oks p hp)) ty
 have e:w''=w':=by
  have:=hrun.symm.trans ((show (Builtin.delete_ #[283,176] 0 #[.map (some bm),p.1.val]).run Tryz.prog w=(Builtin.delete_ #[283,176] ty #[.map (some bm),p.1.val]).run Tryz.prog w from rfl).trans hrun2)
  injection this with _ e;exact e.symm
 rw [<- e];exact hrun2
theorem drop_no (hA:ArenaAt B w b bm v ns L room next) (hl:ns.length<=100000) (h:Int) (hi:I64 h) (ht:topOf ns h=24) :
  Calls Tryz.prog 290 #[.pointer (some ⟨b,0,none⟩),.int .i64 h] w fun e w'=>e=.returned (.tuple #[])/\Below w.heap.size w w':=by
 have HG:=Lib.hid (get_any hA h hi (by omega))
 have hgn:getOf ns h=⟨0,0,0⟩:=by unfold getOf;rw [if_pos ht]
 rw [hgn,ht] at HG
 clear hA hgn ht
 have e1:decide ((24:Int) ≠ 24)=false:=by decide
 rw [e1] at HG
 unfold Nd.val at HG
 go_enter Tryz.func290,Tryz.ntmps290
 go_wp2_with fail
 refine HG.out.mono ?_
 rintro e w1 ⟨rfl,hb1⟩
 go_wp2
 refine bodyPost_end (v:=.tuple #[]) (by simp [results,Tryz.results290,go_sem]) rfl ?_
 exact ⟨rfl,hb1.trans ((below_new w1 (.cells #[.int .i64 0,.int .i64 0,.int .i64 0] 176)).mono hb1.size)⟩
theorem drop_yes (hA:ArenaAt B w b bm v ns L room next) (hl:ns.length<=100000) (k:Nat) (hk:k<ns.length) (hv:(nd ns k).v ≠ 24) (hin:(nd ns k,2 + (k:Int)) ∈ L) :
  Calls Tryz.prog 290 #[.pointer (some ⟨b,0,none⟩),.int .i64 (2 + (k:Int))] w fun e w'=>e=.returned (.tuple #[])/\ArenaAt B w' b bm v (ns.set k ⟨24,0,0⟩) (strikeN L (nd ns k)) room next/\Kept (Own b bm v) w w':=by
 have ht:topOf ns (2 + (k:Int)) ≠ 24:=by rw [topOf_at hk];exact hv
 have HG:=Lib.hid (get_any hA (2 + (k:Int)) ⟨by omega,by omega⟩ (by omega))
 have hgn:getOf ns (2 + (k:Int))=nd ns k:=by unfold getOf;rw [if_neg ht,show (2 + (k:Int) - 2).toNat=k by omega]
 rw [hgn,decide_eq_true ht] at HG
 unfold Nd.val at HG
 obtain ⟨a,cap,rfl,hgg⟩:=hA.form
 obtain ⟨g,rfl,hBg,hgl⟩:=hgg (by omega)
 have HA:=Lib.hid hA
 have HIN:=Lib.hid hin
 obtain ⟨n,hne⟩:∃ n,n=nd ns k:=⟨_,rfl⟩
 rw [<- hne] at HG HIN ⊢
 have e2:2 + (k:Int) - 2=(k:Int):=by omega
 have ib:(k:Int)<(ns.length:Int):=by omega
 clear ht hgn hA hin hv hne
 obtain ⟨nv,nl,nh⟩:=n
 simp only at HG
 go_enter Tryz.func290,Tryz.ntmps290
 go_wp2_with fail
 refine HG.out.mono ?_
 rintro e w1 ⟨rfl,hb1⟩
 clear HG
 have hs1:=hb1.size
 have hbN:=below_new w1 (.cells #[.int .i64 nv,.int .i64 nl,.int .i64 nh] 176)
 obtain ⟨c0,c1,c2,-⟩:=cell3 w1 (.int .i64 nv) (.int .i64 nl) (.int .i64 nh) 176
 have hb2:=hb1.trans (hbN.mono hb1.size)
 have hA2:=HA.out.kept (Kept.of_below hb2 (fun _=>False)) (fun _ _ h=>h)
 have hnotown:∀ j,w.heap.size<=j->¬ Own b bm (.slice (some ⟨g,0,none⟩) ns.length cap) j:=by
  have hlt:=HA.out.lt
  obtain ⟨D,hD,-⟩:=HA.out.hmap
  have hbm:=hD.lt
  rintro j hj (h | h | h)
  ·omega
  ·omega
  ·have:=(HA.out.row.lt _ h).2;omega
 have lN:w1.heap.size<(w1.alloc (.cells #[.int .i64 nv,.int .i64 nl,.int .i64 nh] 176)).heap.size:=by simp
 go_wp2_with fail
 generalize w1.alloc (.cells #[.int .i64 nv,.int .i64 nl,.int .i64 nh] 176)=W2 at *
 have hA2d:ArenaAt B W2.drew b bm (.slice (some ⟨g,0,none⟩) ns.length cap) ns L room next:=hA2.kept (Kept.refl (fun _=>False) W2).drew (fun _ _ h=>h)
 obtain ⟨D,hD,hR⟩:=hA2d.hmap
 obtain ⟨W3,D3,hrun,hD3,hR3,hK3⟩:=del_at hD hR HIN.out
 simp only at hrun
 have hA3:=hA2d.setMap hK3 hD3 hR3
 have cm:W2.drew.cell? ⟨b,2,none⟩=some (.map (some bm)):=hA2.cmap
 have c0d:W2.drew.cell? ⟨w1.heap.size,0,none⟩=some (.int .i64 nv):=c0
 have c1d:W2.drew.cell? ⟨w1.heap.size,1,none⟩=some (.int .i64 nl):=c1
 have c2d:W2.drew.cell? ⟨w1.heap.size,2,none⟩=some (.int .i64 nh):=c2
 have hxm:w1.heap.size ≠ bm:=fun e=>hnotown w1.heap.size hs1 (.inr (.inl e))
 have c03:=(hK3.cell (a:=⟨w1.heap.size,0,none⟩) lN hxm).trans c0d
 have c13:=(hK3.cell (a:=⟨w1.heap.size,1,none⟩) lN hxm).trans c1d
 have c23:=(hK3.cell (a:=⟨w1.heap.size,2,none⟩) lN hxm).trans c2d
 have cm3:=hA3.cmap
 have HA3:=Lib.hid hA3
 have HK3:=Lib.hid (((Kept.of_below hb2 (Own b bm (.slice (some ⟨g,0,none⟩) ns.length cap))).drew).andThen hK3 (fun j hj _=>.inr (.inl hj)))
 clear hA2 hA2d hD hR hD3 hR3 hK3 hA3 c0 c1 c2 hbN hb1 hb2
 go_region_held3 (fun w'=>w'.cell? ⟨b,2,none⟩=some (.map (some bm))/\w'.cell? ⟨w1.heap.size,0,none⟩=some (.int .i64 nv)/\w'.cell? ⟨w1.heap.size,1,none⟩=some (.int .i64 nl)/\w'.cell? ⟨w1.heap.size,2,none⟩=some (.int .i64 nh)) (first | exact ⟨cm,c0d,c1d,c2d⟩ | exact ⟨cm3,c03,c13,c23⟩)
  (first | (refine step_delete rfl _ _ 283 176 rfl rfl rfl hrun ?_))
 have cn3:=HA3.out.cnodes
 obtain ⟨n1,n2,n3⟩:=ncells_at ns k hk
 have s0:=HA3.out.row.cellAt (k * 3) (by omega)
 have s1:=HA3.out.row.cellAt (k * 3 + 1) (by omega)
 have s2:=HA3.out.row.cellAt (k * 3 + 2) (by omega)
 rw [n1] at s0
 rw [n2] at s1
 rw [n3] at s2
 have t0:=HA3.out.row.frozenAt (k * 3)
 have t1:=HA3.out.row.frozenAt (k * 3 + 1)
 have t2:=HA3.out.row.frozenAt (k * 3 + 2)
 have s1':(W3.setCell ⟨g,k * 3,none⟩ (.int .i64 24)).cell? ⟨g,k * 3 + 1,none⟩=some (.int .i64 (nd ns k).l):=by
  rw [World.cell?_setCell_other _ _ _ _ (by simp)];exact s1
 have s2':((W3.setCell ⟨g,k * 3,none⟩ (.int .i64 24)).setCell ⟨g,k * 3 + 1,none⟩ (.int .i64 0)).cell? ⟨g,k * 3 + 2,none⟩=some (.int .i64 (nd ns k).h):=by
  rw [World.cell?_setCell_other _ _ _ _ (by simp),World.cell?_setCell_other _ _ _ _ (by simp)];exact s2
 have t1':(W3.setCell ⟨g,k * 3,none⟩ (.int .i64 24)).frozen? ⟨g,k * 3 + 1,none⟩=false:=by rw [World.frozen?_setCell];exact t1
 have t2':((W3.setCell ⟨g,k * 3,none⟩ (.int .i64 24)).setCell ⟨g,k * 3 + 1,none⟩ (.int .i64 0)).frozen? ⟨g,k * 3 + 2,none⟩=false:=by rw [World.frozen?_setCell,World.frozen?_setCell];exact t2
 have hA4:=HA3.out.setNode hk ⟨24,0,0⟩
 have hk4:Kept (Own b bm (.slice (some ⟨g,0,none⟩) ns.length cap)) W3 (((W3.setCell ⟨g,k * 3,none⟩ (.int .i64 24)).setCell ⟨g,k * 3 + 1,none⟩ (.int .i64 0)).setCell ⟨g,k * 3 + 2,none⟩ (.int .i64 0)) :=
  ((Kept.setCell (S:=Own b bm (.slice (some ⟨g,0,none⟩) ns.length cap)) W3 ⟨g,k * 3,none⟩ _ (.inr (.inr rfl))).trans (Kept.setCell _ ⟨g,k * 3 + 1,none⟩ _ (.inr (.inr rfl)))).trans (Kept.setCell _ ⟨g,k * 3 + 2,none⟩ _ (.inr (.inr rfl)))
 have ew:IntKind.i64.wrap (k:Int)=(k:Int):=IntWalk.i64_in _ ⟨by omega,by omega⟩
 have HA4:=Lib.hid hA4
 have HK4:=Lib.hid (HK3.out.trans hk4)
 clear hA4 hk4 n1 n2 n3 s1 s2 t1 t2 HA3 HK3
 go_wp2
 refine bodyPost_end (v:=.tuple #[]) (by simp [results,Tryz.results290,go_sem]) rfl ?_
 exact ⟨rfl,HA4.out,HK4.out⟩
end
end Go.Proofs.YtiihalknffbjpaaGreatDoor.Bd
namespace Go.Proofs.YtiihalknffbjpaaGreatDoor.Bd
open Go.RowKit Go.Maps
structure Book (ns:List Nd) (L:List (Nd × Int)):Prop where
 mem:∀ p ∈ L,∃ i:Nat,i<ns.length/\(nd ns i).v<24/\p=(nd ns i,2 + (i:Int))
 all:∀ i,i<ns.length->(nd ns i).v<24->(nd ns i,2 + (i:Int)) ∈ L
 nodup:(L.map Prod.fst).Nodup
 free:∀ i,i<ns.length->¬ (nd ns i).v<24->nd ns i=⟨24,0,0⟩
theorem nd_ext {a b:List Nd} (hl:a.length=b.length) (h:∀ i,i<a.length->nd a i=nd b i):a=b:=by
 apply List.ext_getElem hl
 intro i h1 h2
 have:=h i h1
 rwa [nd_at a i h1,nd_at b i h2] at this
theorem nd_set (ns:List Nd) (k:Nat) (n:Nd) (i:Nat) (h:k<ns.length):nd (ns.set k n) i=if i=k then n else nd ns i:=by
 unfold nd
 simp only [List.getD_eq_getElem?_getD,List.getElem?_set]
 by_cases e:k=i
 ·subst e;simp [h]
 ·rw [if_neg e,if_neg (fun h=>e h.symm)]
def sweptTo (ns:List Nd) (M:List Bool) (k:Nat):List Nd:=(List.range ns.length).map fun i=>if i<k/\mk M i=false then ⟨24,0,0⟩ else nd ns i
theorem sweptTo_length (ns:List Nd) (M:List Bool) (k:Nat):(sweptTo ns M k).length=ns.length:=by simp [sweptTo]
theorem sweptTo_at (ns:List Nd) (M:List Bool) (k i:Nat) (h:i<ns.length):nd (sweptTo ns M k) i=if i<k/\mk M i=false then ⟨24,0,0⟩ else nd ns i:=by
 rw [nd_at _ i (by rw [sweptTo_length];exact h)];simp [sweptTo]
theorem sweptTo_zero (ns:List Nd) (M:List Bool):sweptTo ns M 0=ns :=
 nd_ext (sweptTo_length _ _ _) (fun i h=>by rw [sweptTo_at ns M 0 i (by rwa [sweptTo_length] at h),if_neg (by omega)])
theorem sweptTo_end (ns:List Nd) (M:List Bool):sweptTo ns M ns.length=swept ns M :=
 nd_ext (by rw [sweptTo_length,swept_length]) (fun i h=>by
  rw [sweptTo_length] at h
  rw [sweptTo_at ns M _ i h,swept_at ns M i h]
  by_cases e:mk M i=true
  ·rw [if_pos e,if_neg (by simp [e])]
  ·rw [if_neg e,if_pos ⟨h,by simpa using e⟩])
theorem sweptTo_same {ns:List Nd} {M:List Bool} {k:Nat} (_hk:k<ns.length) (h:mk M k=true\/nd ns k=⟨24,0,0⟩):sweptTo ns M (k + 1)=sweptTo ns M k :=
 nd_ext (by rw [sweptTo_length,sweptTo_length]) (fun i hi=>by
  rw [sweptTo_length] at hi
  rw [sweptTo_at ns M _ i hi,sweptTo_at ns M _ i hi]
  by_cases e:i=k
  ·subst e
   rw [if_neg (show ¬ (i<i/\mk M i=false) by omega)]
   rcases h with h | h
   ·rw [if_neg (by simp [h])]
   ·rw [h];split <;> rfl
  ·by_cases e2:i<k/\mk M i=false
   ·rw [if_pos e2,if_pos ⟨by omega,e2.2⟩]
   ·rw [if_neg e2,if_neg (fun h=>e2 ⟨by omega,h.2⟩)])
theorem sweptTo_set {ns:List Nd} {M:List Bool} {k:Nat} (hk:k<ns.length) (h:mk M k=false):(sweptTo ns M k).set k ⟨24,0,0⟩=sweptTo ns M (k + 1) :=
 nd_ext (by rw [List.length_set,sweptTo_length,sweptTo_length]) (fun i hi=>by
  rw [List.length_set,sweptTo_length] at hi
  rw [nd_set _ _ _ _ (by rw [sweptTo_length];exact hk),sweptTo_at ns M _ i hi,sweptTo_at ns M _ i hi]
  by_cases e:i=k
  ·subst e;rw [if_pos rfl,if_pos ⟨by omega,h⟩]
  ·rw [if_neg e]
   by_cases e2:i<k/\mk M i=false
   ·rw [if_pos e2,if_pos ⟨by omega,e2.2⟩]
   ·rw [if_neg e2,if_neg (fun h=>e2 ⟨by omega,h.2⟩)])
def LTo (L:List (Nd × Int)) (M:List Bool) (k:Nat):List (Nd × Int):=L.filter fun p=>decide (k<=(p.2 - 2).toNat) || mk M (p.2 - 2).toNat
theorem LTo_zero (L:List (Nd × Int)) (M:List Bool):LTo L M 0=L:=by
 unfold LTo;rw [List.filter_eq_self];intro p _;simp
theorem LTo_same {ns:List Nd} {L:List (Nd × Int)} {M:List Bool} {k:Nat} (hB:Book ns L) (hk:k<ns.length) (h:mk M k=true\/¬ (nd ns k).v<24):LTo L M (k + 1)=LTo L M k:=by
 unfold LTo
 apply List.filter_congr
 intro p hp
 obtain ⟨i,hi,hv,rfl⟩:=hB.mem p hp
 have e:(2 + (i:Int) - 2).toNat=i:=by omega
 simp only [e]
 by_cases e2:i=k
 ·subst e2
  rcases h with h | h
  ·simp [h]
  ·exact absurd hv h
 ·congr 1
  exact decide_eq_decide.2 (by omega)
theorem LTo_strike {ns:List Nd} {L:List (Nd × Int)} {M:List Bool} {k:Nat} (hB:Book ns L) (hk:k<ns.length) (h:mk M k=false) (hv:(nd ns k).v<24):strikeN (LTo L M k) (nd ns k)=LTo L M (k + 1):=by
 unfold strikeN LTo
 rw [List.filter_filter]
 apply List.filter_congr
 intro p hp
 have hin:=hB.all k hk hv
 obtain ⟨i,hi,hvi,rfl⟩:=hB.mem p hp
 have e:(2 + (i:Int) - 2).toNat=i:=by omega
 simp only [e]
 by_cases e2:i=k
 ·subst e2
  simp [h]
 ·have hne:nd ns i ≠ nd ns k:=by
   intro he
   obtain ⟨x,hx,hxe⟩:=List.getElem_of_mem hp
   obtain ⟨y,hy,hye⟩:=List.getElem_of_mem hin
   have:=(List.getElem_inj (h₀:=by simpa using hx) (h₁:=by simpa using hy) hB.nodup).1 (by simp [hxe,hye,he])
   subst this
   rw [hxe] at hye
   have:=congrArg Prod.snd hye
   simp at this;omega
  rw [decide_eq_true hne,Bool.true_and]
  congr 1
  exact decide_eq_decide.2 (by omega)
theorem LTo_mem {ns:List Nd} {L:List (Nd × Int)} {M:List Bool} {k:Nat} (hB:Book ns L) (hk:k<ns.length) (hv:(nd ns k).v<24):(nd ns k,2 + (k:Int)) ∈ LTo L M k:=by
 unfold LTo
 rw [List.mem_filter]
 exact ⟨hB.all k hk hv,by simp;omega⟩
section
variable {B b bm:Nat} {v:Value} {ns:List Nd} {L:List (Nd × Int)} {room next:Int} {w:World}
theorem sweep_any (hr:Ranked ns) (hbk:Book ns L) (hl:ns.length<=100000) (hA:ArenaAt B w b bm v ns L room next) (bf:Nat) {cp:Nat} (fs:List Int) (hF:IntsAt w bf fs) (hfl:fs.length<=1000) (hB:B<=w.heap.size) (hLl:L.length<=100000) :
  Calls Tryz.prog 226 #[.pointer (some ⟨b,0,none⟩),.slice (some ⟨bf,0,none⟩) fs.length cp] w fun e w'=>e=.returned (.int .i64 ((L.length:Int) - ((LTo L (marksOf ns fs) ns.length).length:Int)))/\ArenaAt B w' b bm v (swept ns (marksOf ns fs)) (LTo L (marksOf ns fs) ns.length) room 2/\Kept (Own b bm v) w w':=by
 have HC:=Lib.hid (reached_any (cp:=cp) hr hl hA bf fs hF hfl hB)
 have hML:=marksOf_length ns fs
 generalize marksOf ns fs=M at *
 have HML:=Lib.hid hML
 have hg:¬ Own b bm v w.heap.size:=by
  obtain ⟨D,hD,-⟩:=hA.hmap
  have hbm:=hD.lt
  have hlt:=hA.lt
  rintro (h | h | h)
  ·omega
  ·omega
  ·have:=(hA.row.lt _ h).2;omega
 have HLEN:=Lib.hid (len_any hA)
 have HA:=Lib.hid hA
 have HG:=Lib.hid hg
 have HBK:=Lib.hid hbk
 have HR:=Lib.hid hr
 clear hA hF hr hML hg hbk
 go_enter Tryz.func226,Tryz.ntmps226
 go_wp2_with fail
 refine HLEN.out.mono ?_
 rintro e w0 ⟨rfl,rfl⟩
 clear HLEN
 go_wp2_with fail
 refine HC.out.mono ?_
 rintro e w1 ⟨rfl,hm1,hb1⟩
 clear HC
 have hA1:=HA.out.kept (Kept.of_below hb1 (fun _=>False)) (fun _ _ h=>h)
 have hK1:=Kept.of_below hb1 (Own b bm v)
 go_wp2_with fail
 go_loopw [6,7,14] (fun _ _ i wr=>∃ k:Nat,k<=ns.length/\i=.int .i64 (k:Int)/\ArenaAt B wr b bm v (sweptTo ns M k) (LTo L M k) room next/\wr.ownsRow B 4 1 (.slice (some ⟨w.heap.size,0,none⟩) ns.length ns.length) ns.length (mcells M)/\Kept (Own b bm v) w wr)
  (fun _ _ i _=>ns.length - (intOf i).toNat)
 case atStart=>exact ⟨0,Nat.zero_le _,rfl,by rw [sweptTo_zero,LTo_zero];exact hA1,hm1,hK1⟩
 case round =>
  obtain ⟨k,hk,rfl,hAr,hmr,hKr⟩:=hrel
  clear hA1 hK1 hm1 hb1
  by_cases hlt:k<ns.length
  ·have cm:=hmr.cellAt k (by omega)
   rw [mcells_at M k (by rw [HML.out];exact hlt)] at cm
   have ib:(k:Int)<(ns.length:Int):=by omega
   by_cases hm:mk M k=true
   ·rw [hm] at cm
    have E1:=Lib.hid (sweptTo_same hlt (.inl hm))
    have E2:=Lib.hid (LTo_same HBK.out hlt (.inl hm))
    have HAr:=Lib.hid hAr
    have HKr:=Lib.hid hKr
    have HM:=Lib.hid hmr
    clear hm hAr hKr hmr
    go_wp2
    go_roundw
    case rel=>exact ⟨k + 1,by omega,by go_num,by rw [E1.out,E2.out];exact HAr.out,HM.out,HKr.out⟩
    case measure=>simp [intOf];omega
   ·have hm':mk M k=false:=by simpa using hm
    rw [hm'] at cm
    have hnk:nd (sweptTo ns M k) k=nd ns k:=by rw [sweptTo_at ns M k k hlt,if_neg (by omega)]
    have HAr:=Lib.hid hAr
    have HKr:=Lib.hid hKr
    have HM:=Lib.hid hmr
    clear hAr hKr hmr
    by_cases hv:(nd ns k).v<24
    ·have HD:=Lib.hid (drop_yes HAr.out (by rw [sweptTo_length];exact hl) k (by rw [sweptTo_length];exact hlt) (by rw [hnk];omega) (by rw [hnk];exact LTo_mem HBK.out hlt hv))
     rw [hnk,sweptTo_set hlt hm',LTo_strike HBK.out hlt hm' hv] at HD
     clear hm hm' hnk hv
     go_wp2_with fail
     refine HD.out.mono ?_
     rintro e w2 ⟨rfl,hA2,hK2⟩
     have hm2:=ownsRow_kept HM.out hK2 (fun j hj h2=>by have hj2:w.heap.size=j:=Option.some.inj hj;exact HG.out (hj2 ▸ h2))
     have hKK:=HKr.out.trans hK2
     clear HD hK2 HAr
     go_wp2
     go_roundw
     case rel=>exact ⟨k + 1,by omega,by go_num,hA2,hm2,hKK⟩
     case measure=>simp [intOf];omega
    ·have E1:=Lib.hid (sweptTo_same (M:=M) hlt (.inr (HBK.out.free k hlt hv)))
     have E2:=Lib.hid (LTo_same (M:=M) HBK.out hlt (.inr hv))
     have HD:=Lib.hid (drop_no HAr.out (by rw [sweptTo_length];exact hl) (2 + (k:Int)) ⟨by omega,by omega⟩ (by rw [topOf_at (by rw [sweptTo_length];exact hlt),hnk,HBK.out.free k hlt hv]))
     clear hm hm' hnk hv
     go_wp2_with fail
     refine HD.out.mono ?_
     rintro e w2 ⟨rfl,hb2⟩
     have hm2:=ownsRow_new HM.out hb2
     have hKK:=HKr.out.trans (Kept.of_below hb2 _)
     have hA2:=HAr.out.kept (Kept.of_below hb2 (fun _=>False)) (fun _ _ h=>h)
     clear HD hb2 HAr
     go_wp2
     go_roundw
     case rel=>exact ⟨k + 1,by omega,by go_num,by rw [E1.out,E2.out];exact hA2,hm2,hKK⟩
     case measure=>simp [intOf];omega
  ·obtain rfl:k=ns.length:=by omega
   rw [sweptTo_end] at hAr
   have hA2:=hAr.setNext 2
   have HLEN:=Lib.hid (len_any hA2)
   have cnx:=hAr.cnext
   have fnx:=hAr.froz 3
   have HA2:=Lib.hid hA2
   have hKK:=hKr.trans (Kept.setCell (S:=Own b bm v) wr ⟨b,3,none⟩ (.int .i64 2) (.inl rfl))
   have hle:(LTo L M ns.length).length<=L.length:=List.length_filter_le _ _
   have HK2:=Lib.hid hKK
   obtain ⟨q,hq⟩:∃ q,q=(LTo L M ns.length).length:=⟨_,rfl⟩
   rw [<- hq] at HLEN hle
   have HQ:=Lib.hid hq
   clear hq
   clear hAr hA2 hKr hKK hmr
   go_wp2_with fail
   refine HLEN.out.mono ?_
   rintro e w3 ⟨rfl,rfl⟩
   go_wp2
   go_ret
   exact ⟨by rw [<- HQ.out];rfl,HA2.out,HK2.out⟩
end
end Go.Proofs.YtiihalknffbjpaaGreatDoor.Bd
namespace Go.Proofs.YtiihalknffbjpaaGreatDoor.Bd
open Go.RowKit Go.Maps
theorem new_any (room:Int) (h0:0<=room) (h1:room<=4000) (w:World) (B:Nat) (hB:B<=w.heap.size) :
  Calls Tryz.prog 155 #[.int .i64 room] w fun e w'=>e=.returned (.tuple #[.pointer (some ⟨w.heap.size + 1,0,none⟩),.nilIface])/\ArenaAt B w' (w.heap.size + 1) w.heap.size (.slice none 0 0) [] [] room 2/\Below w.heap.size w w':=by
 have hmm:=@run_makeMap Tryz.prog
 have hE:ArenaAt B ((w.alloc (.map #[] 0)).alloc (.cells #[.int .i64 room,.slice none 0 0,.map (some w.heap.size),.int .i64 2] 285)) (w.heap.size + 1) w.heap.size (.slice none 0 0) [] [] room 2:=by
  have e1:(w.alloc (.map #[] 0)).heap.size=w.heap.size + 1:=by simp
  have hm:((w.alloc (.map #[] 0)).alloc (.cells #[.int .i64 room,.slice none 0 0,.map (some w.heap.size),.int .i64 2] 285)).ownsMap Tryz.prog 176 (plainElem (H:=Unit) Tryz.prog 3) w.heap.size 0 (.map []):=(World.ownsMap_made w _ _ _).alloc _
  refine ⟨by simp,?_,?_,?_,?_,?_,World.ownsRow_nil _ _ _ _,⟨_,hm,Rep.empty⟩,by simp [Value.ownBlock],by omega,by simp [Value.ownBlock],by omega,hB⟩
  ·rw [<- e1];simp
  ·rw [<- e1];simp
  ·rw [<- e1];simp
  ·rw [<- e1];simp
  ·intro i;rw [<- e1];simp
 have hb:Below w.heap.size w ((w.alloc (.map #[] 0)).alloc (.cells #[.int .i64 room,.slice none 0 0,.map (some w.heap.size),.int .i64 2] 285)):=((Below.refl _ _).alloc (Nat.le_refl _) _).alloc (by simp) _
 have HE:=Lib.hid hE
 clear hE
 go_enter Tryz.func155,Tryz.ntmps155
 go_wp2
 go_ret2
 exact ⟨rfl,HE.out,hb⟩
end Go.Proofs.YtiihalknffbjpaaGreatDoor.Bd
namespace Go.Proofs.YtiihalknffbjpaaGreatDoor.Bd
open Go.RowKit Go.Maps
theorem nd_snoc (ns:List Nd) (n:Nd) (i:Nat):nd (ns++[n]) i=if i<ns.length then nd ns i else if i=ns.length then n else ⟨0,0,0⟩:=by
 unfold nd
 simp only [List.getD_eq_getElem?_getD]
 by_cases h:i<ns.length
 ·rw [if_pos h,List.getElem?_append_left h]
 ·rw [if_neg h,List.getElem?_append_right (by omega)]
  by_cases e:i=ns.length
  ·subst e;simp
  ·rw [if_neg e,List.getElem?_eq_none (by simp;omega)];rfl
theorem hasB_cases {ns:List Nd} {h:Int} (hh:hasB ns h=true):h=0\/h=1\/topOf ns h<24:=by
 unfold hasB at hh;simpa [or_assoc] using hh
end Go.Proofs.YtiihalknffbjpaaGreatDoor.Bd
namespace Go.Proofs.YtiihalknffbjpaaGreatDoor.Bd
open Go.RowKit Go.Maps
def putN (ns:List Nd) (k:Nat) (n:Nd):List Nd:=(if k=ns.length then ns++[⟨24,0,0⟩] else ns).set k n
section
variable {ns:List Nd} {k:Nat} {n:Nd}
theorem putN_lt (hk:k<=ns.length) (i:Nat):i<(putN ns k n).length ↔ i<ns.length\/i=k:=by
 unfold putN
 rw [List.length_set];split
 ·rw [List.length_append,List.length_singleton];omega
 ·omega
theorem putN_length (_hk:k<=ns.length):(putN ns k n).length<=ns.length + 1/\ns.length<=(putN ns k n).length:=by
 unfold putN
 rw [List.length_set];split
 ·rw [List.length_append,List.length_singleton];omega
 ·omega
theorem putN_at (hk:k<=ns.length) (i:Nat) (hi:i<ns.length\/i=k):nd (putN ns k n) i=if i=k then n else nd ns i:=by
 unfold putN
 rw [nd_set _ _ _ _ (by split <;> (try simp) <;> omega)]
 by_cases e:i=k
 ·rw [if_pos e,if_pos e]
 ·rw [if_neg e,if_neg e]
  split
  ·rw [nd_snoc,if_pos (by omega)]
  ·rfl
theorem putN_node (hk:k<=ns.length) (hfree:k<ns.length->¬ (nd ns k).v<24) {h:Int} (ht:topOf ns h<24):nd (putN ns k n) (h - 2).toNat=nd ns (h - 2).toNat/\topOf (putN ns k n) h=topOf ns h:=by
 obtain ⟨b1,b2,b3⟩:=topOf_node (by omega:topOf ns h ≠ 24)
 have hne:(h - 2).toNat ≠ k:=fun e=>by
  rw [b3,e] at ht;exact hfree (e ▸ b2) ht
 have h1:nd (putN ns k n) (h - 2).toNat=nd ns (h - 2).toNat:=by rw [putN_at hk _ (.inl b2),if_neg hne]
 refine ⟨h1,?_⟩
 have hl:=(putN_lt (n:=n) hk (h - 2).toNat).2 (.inl b2)
 unfold topOf
 rw [if_pos (by omega),if_pos (by omega),h1]
theorem putN_top (hk:k<=ns.length) (hfree:k<ns.length->¬ (nd ns k).v<24) {h:Int} (hh:hasB ns h=true):topOf (putN ns k n) h=topOf ns h:=by
 rcases hasB_cases hh with rfl | rfl | ht
 ·simp [topOf]
 ·simp [topOf]
 ·exact (putN_node hk hfree ht).2
theorem putN_has (hk:k<=ns.length) (hfree:k<ns.length->¬ (nd ns k).v<24) {h:Int} (hh:hasB ns h=true):hasB (putN ns k n) h=true:=by
 unfold hasB;rw [putN_top hk hfree hh];exact hh
theorem putN_self (hk:k<=ns.length):topOf (putN ns k n) (2 + (k:Int))=n.v:=by
 rw [topOf_at ((putN_lt hk k).2 (.inr rfl)),putN_at hk k (.inr rfl),if_pos rfl]
theorem putN_ranked (hr:Ranked ns) (hk:k<=ns.length) (hfree:k<ns.length->¬ (nd ns k).v<24) (hn:n.Ok) (hf:Fit ns n):Ranked (putN ns k n):=by
 have key:∀ j,j<(putN ns k n).length->nd (putN ns k n) j=n/\j=k\/j<ns.length/\nd (putN ns k n) j=nd ns j:=fun j hj=>by
  have hj':=(putN_lt hk j).1 hj
  by_cases e:j=k
  ·exact .inl ⟨by rw [putN_at hk j hj',if_pos e],e⟩
  ·exact .inr ⟨by omega,by rw [putN_at hk j hj',if_neg e]⟩
 refine ⟨?_,?_,?_,?_⟩ <;> intro j hj <;> rcases key j hj with ⟨e,-⟩ | ⟨hl,e⟩ <;> rw [e]
 ·have:=hf.v0;have:=hf.v1;omega
 ·exact hr.v0 j hl
 ·intro _;rw [putN_top hk hfree hf.l];exact ⟨hf.tl,putN_has hk hfree hf.l⟩
 ·intro hv;have:=hr.l j hl hv;rw [putN_top hk hfree this.2];exact ⟨this.1,putN_has hk hfree this.2⟩
 ·intro _;rw [putN_top hk hfree hf.h];exact ⟨hf.th,putN_has hk hfree hf.h⟩
 ·intro hv;have:=hr.h j hl hv;rw [putN_top hk hfree this.2];exact ⟨this.1,putN_has hk hfree this.2⟩
 ·exact hn
 ·exact hr.ok j hl
theorem putN_book {L:List (Nd × Int)} (hB:Book ns L) (hk:k<=ns.length) (hfree:k<ns.length->¬ (nd ns k).v<24) (hv:n.v<24) (hnin:n ∉ L.map Prod.fst):Book (putN ns k n) (L++[(n,2 + (k:Int))]):=by
 refine ⟨fun p hp=>?_,fun i hi hvi=>?_,?_,fun i hi hvi=>?_⟩
 ·rcases List.mem_append.1 hp with hp | hp
  ·obtain ⟨i,hi,hvi,rfl⟩:=hB.mem p hp
   have hne:i ≠ k:=fun e=>by subst e;exact hfree hi hvi
   refine ⟨i,(putN_lt hk i).2 (.inl hi),?_,?_⟩ <;> rw [putN_at hk i (.inl hi),if_neg hne]
   exact hvi
  ·rw [List.mem_singleton] at hp;subst hp
   refine ⟨k,(putN_lt hk k).2 (.inr rfl),?_,?_⟩ <;> rw [putN_at hk k (.inr rfl),if_pos rfl]
   exact hv
 ·have hi':=(putN_lt hk i).1 hi
  rw [putN_at hk i hi'] at hvi ⊢
  by_cases e:i=k
  ·rw [if_pos e];subst e;simp
  ·rw [if_neg e] at hvi ⊢
   exact List.mem_append.2 (.inl (hB.all i (by omega) hvi))
 ·rw [List.map_append,List.nodup_append]
  refine ⟨hB.nodup,by simp,fun x hx y hy=>?_⟩
  simp at hy;subst hy
  exact fun e=>hnin (e ▸ hx)
 ·have hi':=(putN_lt hk i).1 hi
  rw [putN_at hk i hi'] at hvi ⊢
  by_cases e:i=k
  ·rw [if_pos e] at hvi;exact absurd hv hvi
  ·rw [if_neg e] at hvi ⊢
   exact hB.free i (by omega) hvi
end
end Go.Proofs.YtiihalknffbjpaaGreatDoor.Bd
namespace Go.Proofs.YtiihalknffbjpaaGreatDoor.Bd
open Go.RowKit Go.Maps
def pl (h:Int):Nat:=(h - 2).toNat
def semF:Nat->List Nd->Int->(Nat->Bool)->Bool
 | 0,_,h,_=>decide (h=1)
 | d + 1,ns,h,f =>
  if topOf ns h=24 then decide (h=1)
  else if f (topOf ns h).toNat then semF d ns (nd ns (pl h)).h f else semF d ns (nd ns (pl h)).l f
def sem (ns:List Nd) (h:Int) (f:Nat->Bool):Bool:=semF 24 ns h f
structure Good (vars:Nat) (ns:List Nd):Prop where
 ranked:Ranked ns
 once:∀ i j,i<ns.length->j<ns.length->(nd ns i).v<24->nd ns i=nd ns j->i=j
 red:∀ i,i<ns.length->(nd ns i).v<24->(nd ns i).l ≠ (nd ns i).h
 vars:∀ i,i<ns.length->(nd ns i).v<24->(nd ns i).v<(vars:Int)
 free:∀ i,i<ns.length->¬ (nd ns i).v<24->nd ns i=⟨24,0,0⟩
section
variable {ns:List Nd}
theorem node_at {h:Int} (ht:topOf ns h ≠ 24):2<=h/\pl h<ns.length/\topOf ns h=(nd ns (pl h)).v/\h=2 + (pl h:Int):=by
 obtain ⟨h1,h2,h3⟩:=topOf_node ht
 exact ⟨h1,h2,h3,by unfold pl;omega⟩
theorem top_lt (hr:Ranked ns) {h:Int} (ht:topOf ns h ≠ 24):topOf ns h<24:=by
 have:=(topOf_le hr h).2;omega
theorem kids (hr:Ranked ns) {h:Int} (ht:topOf ns h ≠ 24):topOf ns h<topOf ns (nd ns (pl h)).l/\hasB ns (nd ns (pl h)).l=true/\topOf ns h<topOf ns (nd ns (pl h)).h/\hasB ns (nd ns (pl h)).h=true:=by
 obtain ⟨h1,h2,h3,h4⟩:=node_at ht
 have hv:=top_lt hr ht
 rw [h3] at hv ⊢
 exact ⟨(hr.l _ h2 hv).1,(hr.l _ h2 hv).2,(hr.h _ h2 hv).1,(hr.h _ h2 hv).2⟩
theorem end_of {h:Int} (hh:hasB ns h=true) (ht:topOf ns h=24):h=0\/h=1:=by
 rcases hasB_cases hh with h1 | h1 | h1
 ·exact .inl h1
 ·exact .inr h1
 ·omega
theorem semF_any (hr:Ranked ns) (f:Nat->Bool):∀ (d e:Nat) (h:Int),24<=topOf ns h + d->24<=topOf ns h + e->semF d ns h f=semF e ns h f
 | 0,0,h,_,_=>rfl
 | 0,e + 1,h,hd,_=>by
  have:=(topOf_le hr h).2
  unfold semF;rw [if_pos (by omega)]
 | d + 1,0,h,_,he=>by
  have:=(topOf_le hr h).2
  unfold semF;rw [if_pos (by omega)]
 | d + 1,e + 1,h,hd,he=>by
  unfold semF
  by_cases ht:topOf ns h=24
  ·rw [if_pos ht,if_pos ht]
  ·rw [if_neg ht,if_neg ht]
   obtain ⟨k1,-,k2,-⟩:=kids hr ht
   rw [semF_any hr f d e _ (by omega) (by omega),semF_any hr f d e (nd ns (pl h)).l (by omega) (by omega)]
theorem sem_end {h:Int} (ht:topOf ns h=24) (f:Nat->Bool):sem ns h f=decide (h=1):=by
 unfold sem semF;rw [if_pos ht]
theorem sem_false (f:Nat->Bool):sem ns 0 f=false:=by rw [sem_end (by simp [topOf])];rfl
theorem sem_true (f:Nat->Bool):sem ns 1 f=true:=by rw [sem_end (by simp [topOf])];rfl
theorem sem_node (hr:Ranked ns) {h:Int} (ht:topOf ns h ≠ 24) (f:Nat->Bool):sem ns h f=if f (topOf ns h).toNat then sem ns (nd ns (pl h)).h f else sem ns (nd ns (pl h)).l f:=by
 obtain ⟨k1,-,k2,-⟩:=kids hr ht
 have h0:=(topOf_le hr h).1
 show semF 24 ns h f=_
 unfold semF
 rw [if_neg ht,semF_any hr f 23 24 _ (by omega) (by omega),semF_any hr f 23 24 (nd ns (pl h)).l (by omega) (by omega)]
 rfl
def loS (ns:List Nd) (h v:Int):Int:=if topOf ns h=v then (nd ns (pl h)).l else h
def hiS (ns:List Nd) (h v:Int):Int:=if topOf ns h=v then (nd ns (pl h)).h else h
theorem loS_has (hr:Ranked ns) {h v:Int} (hv:v<24) (hh:hasB ns h=true):hasB ns (loS ns h v)=true/\(v<=topOf ns h->v<topOf ns (loS ns h v))/\topOf ns h<=topOf ns (loS ns h v):=by
 unfold loS
 by_cases e:topOf ns h=v
 ·rw [if_pos e]
  have:=kids hr (h:=h) (by omega)
  exact ⟨this.2.1,fun _=>by omega,by omega⟩
 ·rw [if_neg e];exact ⟨hh,fun h=>by omega,Int.le_refl _⟩
theorem hiS_has (hr:Ranked ns) {h v:Int} (hv:v<24) (hh:hasB ns h=true):hasB ns (hiS ns h v)=true/\(v<=topOf ns h->v<topOf ns (hiS ns h v))/\topOf ns h<=topOf ns (hiS ns h v):=by
 unfold hiS
 by_cases e:topOf ns h=v
 ·rw [if_pos e]
  have:=kids hr (h:=h) (by omega)
  exact ⟨this.2.2.2,fun _=>by omega,by omega⟩
 ·rw [if_neg e];exact ⟨hh,fun h=>by omega,Int.le_refl _⟩
theorem sem_sides (hr:Ranked ns) {h v:Int} (hv:v<24) (f:Nat->Bool):sem ns h f=if f v.toNat then sem ns (hiS ns h v) f else sem ns (loS ns h v) f:=by
 unfold loS hiS
 by_cases e:topOf ns h=v
 ·rw [if_pos e,if_pos e,sem_node hr (by omega),e]
 ·rw [if_neg e,if_neg e];split <;> rfl
theorem semF_agree (hr:Ranked ns) {f g:Nat->Bool}:∀ (d:Nat) (h:Int),(∀ i:Nat,topOf ns h<=(i:Int)->f i=g i)->semF d ns h f=semF d ns h g
 | 0,_,_=>rfl
 | d + 1,h,hfg=>by
  unfold semF
  by_cases ht:topOf ns h=24
  ·rw [if_pos ht,if_pos ht]
  ·rw [if_neg ht,if_neg ht]
   obtain ⟨k1,-,k2,-⟩:=kids hr ht
   have h0:=(topOf_le hr h).1
   rw [hfg (topOf ns h).toNat (by omega),semF_agree hr d _ (fun i hi=>hfg i (by omega)),semF_agree hr d (nd ns (pl h)).l (fun i hi=>hfg i (by omega))]
theorem sem_agree (hr:Ranked ns) {f g:Nat->Bool} {h:Int} (hfg:∀ i:Nat,topOf ns h<=(i:Int)->f i=g i):sem ns h f=sem ns h g:=semF_agree hr 24 h hfg
def turn (f:Nat->Bool) (v:Nat) (b:Bool):Nat->Bool:=fun i=>if i=v then b else f i
theorem turn_ne (f:Nat->Bool) {v i:Nat} (b:Bool) (h:i ≠ v):turn f v b i=f i:=if_neg h
theorem turn_eq (f:Nat->Bool) (v:Nat) (b:Bool):turn f v b v=b:=if_pos rfl
theorem sides_same (hr:Ranked ns) {a b v:Int} (hv0:0<=v) (hv:v<24) (ha:hasB ns a=true) (hb:hasB ns b=true) (hta:v<=topOf ns a) (htb:v<=topOf ns b) (h:∀ f,sem ns a f=sem ns b f) :
  (∀ f,sem ns (loS ns a v) f=sem ns (loS ns b v) f)/\(∀ f,sem ns (hiS ns a v) f=sem ns (hiS ns b v) f):=by
 have la:=(loS_has hr hv ha).2.1 hta
 have lb:=(loS_has hr hv hb).2.1 htb
 have ga:=(hiS_has hr hv ha).2.1 hta
 have gb:=(hiS_has hr hv hb).2.1 htb
 refine ⟨fun f=>?_,fun f=>?_⟩
 ·have:=h (turn f v.toNat false)
  rw [sem_sides hr hv,sem_sides (h:=b) hr hv] at this
  rw [turn_eq,if_neg (by simp),if_neg (by simp),sem_agree hr (g:=f) (fun i hi=>turn_ne _ _ (by omega)),sem_agree (h:=loS ns b v) hr (g:=f) (fun i hi=>turn_ne _ _ (by omega))] at this
  exact this
 ·have:=h (turn f v.toNat true)
  rw [sem_sides hr hv,sem_sides (h:=b) hr hv] at this
  rw [turn_eq,if_pos rfl,if_pos rfl,sem_agree hr (g:=f) (fun i hi=>turn_ne _ _ (by omega)),sem_agree (h:=hiS ns b v) hr (g:=f) (fun i hi=>turn_ne _ _ (by omega))] at this
  exact this
theorem nd_eq {a b:Nd} (h0:a.v=b.v) (h1:a.l=b.l) (h2:a.h=b.h):a=b:=by cases a;cases b;cases h0;cases h1;cases h2;rfl
theorem canon {vars:Nat} (hg:Good vars ns):∀ (d:Nat) (a b:Int),24<=topOf ns a + d->24<=topOf ns b + d->hasB ns a=true->hasB ns b=true->(∀ f,sem ns a f=sem ns b f)->a=b
 | 0,a,b,da,db,ha,hb,h=>by
  have ta:=(topOf_le hg.ranked a).2
  have tb:=(topOf_le hg.ranked b).2
  have:=h (fun _=>false)
  rw [sem_end (by omega),sem_end (by omega)] at this
  rcases end_of ha (by omega) with rfl | rfl <;> rcases end_of hb (by omega) with rfl | rfl <;> simp at this ⊢
 | d + 1,a,b,da,db,ha,hb,h=>by
  have ta:=topOf_le hg.ranked a
  have tb:=topOf_le hg.ranked b
  by_cases e:topOf ns a=24/\topOf ns b=24
  ·exact canon hg 0 a b (by omega) (by omega) ha hb h
  ·have hr:=hg.ranked
   obtain ⟨v,hv,hva,hvb,hve⟩:∃ v,v<24/\v<=topOf ns a/\v<=topOf ns b/\(v=topOf ns a\/v=topOf ns b):=by
    rcases Int.lt_or_le (topOf ns a) (topOf ns b) with h1 | h1
    ·exact ⟨topOf ns a,by omega,by omega,by omega,.inl rfl⟩
    ·exact ⟨topOf ns b,by omega,by omega,by omega,.inr rfl⟩
   have hv0:0<=v:=by omega
   obtain ⟨sl,sh⟩:=sides_same hr hv0 hv ha hb hva hvb h
   have la:=loS_has hr hv ha
   have lb:=loS_has hr hv hb
   have ga:=hiS_has hr hv ha
   have gb:=hiS_has hr hv hb
   have e1:=canon hg d _ _ (by have:=la.2.1 hva;omega) (by have:=lb.2.1 hvb;omega) la.1 lb.1 sl
   have e2:=canon hg d _ _ (by have:=ga.2.1 hva;omega) (by have:=gb.2.1 hvb;omega) ga.1 gb.1 sh
   by_cases ca:topOf ns a=v
   ·obtain ⟨na1,na2,na3,na4⟩:=node_at (ns:=ns) (h:=a) (by omega)
    by_cases cb:topOf ns b=v
    ·obtain ⟨nb1,nb2,nb3,nb4⟩:=node_at (ns:=ns) (h:=b) (by omega)
     unfold loS at e1;unfold hiS at e2
     rw [if_pos ca,if_pos cb] at e1 e2
     have:=hg.once (pl a) (pl b) na2 nb2 (by omega) (by
      have e0:(nd ns (pl a)).v=(nd ns (pl b)).v:=by omega
      exact nd_eq e0 e1 e2)
     rw [na4,nb4,this]
    ·unfold loS at e1;unfold hiS at e2
     rw [if_pos ca,if_neg cb] at e1 e2
     exact absurd (e1.trans e2.symm) (hg.red _ na2 (by omega))
   ·have cb:topOf ns b=v:=by omega
    obtain ⟨nb1,nb2,nb3,nb4⟩:=node_at (ns:=ns) (h:=b) (by omega)
    unfold loS at e1;unfold hiS at e2
    rw [if_neg ca,if_pos cb] at e1 e2
    exact absurd (e1.symm.trans e2) (hg.red _ nb2 (by omega))
theorem same_handle {vars:Nat} (hg:Good vars ns) {a b:Int} (ha:hasB ns a=true) (hb:hasB ns b=true) (h:∀ f,sem ns a f=sem ns b f):a=b :=
 canon hg 24 a b (by have:=(topOf_le hg.ranked a).1;omega) (by have:=(topOf_le hg.ranked b).1;omega) ha hb h
structure Ext (ns ns':List Nd):Prop where
 has:∀ h,hasB ns h=true->hasB ns' h=true
 top:∀ h,hasB ns h=true->topOf ns' h=topOf ns h
 node:∀ h,hasB ns h=true->topOf ns h ≠ 24->nd ns' (pl h)=nd ns (pl h)
theorem Ext.refl (ns:List Nd):Ext ns ns:=⟨fun _ h=>h,fun _ _=>rfl,fun _ _ _=>rfl⟩
theorem Ext.trans {a b c:List Nd} (h:Ext a b) (k:Ext b c):Ext a c :=
 ⟨fun x hx=>k.has x (h.has x hx),fun x hx=>(k.top x (h.has x hx)).trans (h.top x hx),fun x hx ht=>(k.node x (h.has x hx) (by rw [h.top x hx];exact ht)).trans (h.node x hx ht)⟩
theorem semF_ext {ns':List Nd} (hr:Ranked ns) (he:Ext ns ns') (f:Nat->Bool):∀ (d:Nat) (h:Int),hasB ns h=true->semF d ns' h f=semF d ns h f
 | 0,_,_=>rfl
 | d + 1,h,hh=>by
  unfold semF
  rw [he.top h hh]
  by_cases ht:topOf ns h=24
  ·rw [if_pos ht,if_pos ht]
  ·obtain ⟨-,k1,-,k2⟩:=kids hr ht
   rw [if_neg ht,if_neg ht,he.node h hh ht,semF_ext hr he f d _ k1,semF_ext hr he f d _ k2]
theorem sem_ext {ns':List Nd} (hr:Ranked ns) (he:Ext ns ns') {h:Int} (hh:hasB ns h=true) (f:Nat->Bool):sem ns' h f=sem ns h f:=semF_ext hr he f 24 h hh
theorem ext_put {k:Nat} {n:Nd} (hk:k<=ns.length) (hfree:k<ns.length->¬ (nd ns k).v<24) (hr:Ranked ns):Ext ns (putN ns k n) :=
 ⟨fun _ hh=>putN_has hk hfree hh,fun _ hh=>putN_top hk hfree hh,fun _ _ ht=>(putN_node hk hfree (top_lt hr ht)).1⟩
end
end Go.Proofs.YtiihalknffbjpaaGreatDoor.Bd
