/- sidesOf, always, clause, resolve. -/
import Derived.Test.YtjmfeefogikdfaaGreatDoorSvShelf
import Derived.RangeFuncNested
import Derived.RangeFuncBound
import Derived.Shelf.RegionOpen
import Derived.OwnWalkIn
import Derived.LoopNIn
import Derived.LoopIn
import Derived.OneCell
import Derived.Deep.AppendLies
namespace Go.Proofs.YtjmfeefogikdfaaGreatDoor
set_option maxHeartbeats 4000000
set_option maxRecDepth 100000
section
open Go.RowKit Go.Shelf
attribute [local go_sem] Oper.semAt_some
theorem JG(s m:ByteArray)(w:World) :
  CallsIn Fence.wide 3 Tryz.prog 99 #[.string s,.string m] w fun e w'=>e=.returned (.func (.func 140) #[] #[.pointer (some ⟨w.heap.size,0,none⟩),.pointer (some ⟨w.heap.size+1,0,none⟩)])/\w'=(w.alloc (.cells #[.string s] 9)).alloc (.cells #[.string m] 9):=by
 refine callsIn_of_wp Tryz.func99 rfl trivial ?_ rfl;simp only[Tryz.ntmps99,List.size_toArray,List.length_cons,List.length_nil,Nat.reduceAdd,Nat.reduceSub,Array.replicate_succ,Array.replicate_zero,List.push_toArray,List.append_toArray,List.nil_append,List.cons_append]
 gi_wp2
 go_ret;exact⟨rfl,rfl⟩
def qI(s m:ByteArray):Nat->Nat->List (Nat × ByteArray)
 |0,k=>[(k,s.extract k s.size)]
 |f+1,k=>if Lib.index (s.extract k s.size).data.toList m.data.toList<0 then [(k,s.extract k s.size)] else (k,s.extract k (k+(Lib.index (s.extract k s.size).data.toList m.data.toList).toNat)) :: qI s m f (k+(Lib.index (s.extract k s.size).data.toList m.data.toList).toNat+m.size)
theorem zcr:∀(l sub:List UInt8),0<=Lib.index l sub->(Lib.index l sub).toNat+sub.length<=l.length:=by
 intro l
 induction l with
 |nil =>
  intro sub h;unfold Lib.index at h ⊢;cases sub with
  |nil=>simp
  |cons c t=>simp at h
 |cons b l ih =>
  intro sub h;unfold Lib.index at h ⊢
  by_cases hp:sub.isPrefixOf (b :: l)=true
  ·rw[if_pos hp];have:=(List.isPrefixOf_iff_prefix.1 hp).length_le;simpa using this
  ·rw[if_neg hp] at h ⊢
   by_cases he:Lib.index l sub=-1
   ·rw[if_pos (by simp[he])] at h;omega
   ·rw[if_neg (by simpa using he)] at h ⊢;have:=ih sub (by omega);simp only[List.length_cons];omega
theorem zjO(s m:ByteArray)(f k:Nat):0<(qI s m f k).length:=by
 cases f with
 |zero=>simp[qI]
 |succ f=>rw[qI];split<;>simp
theorem zaG{s m:ByteArray}{k:Nat}(h:Lib.index (s.extract k s.size).data.toList m.data.toList<0):∀f,qI s m f k=[(k,s.extract k s.size)]
 |0=>rfl
 |f+1=>by rw[qI,if_pos h]
theorem zbX{s m:ByteArray}{k f j:Nat}(h:Lib.index (s.extract k s.size).data.toList m.data.toList=(j:Int)):qI s m (f+1) k=(k,s.extract k (k+j)) :: qI s m f (k+j+m.size):=by
 rw[qI,if_neg (by omega),h];rfl
abbrev Pc:={ x:Nat × ByteArray // x.1<=100000/\x.2.size<=100000 }
abbrev zX(l:List Pc):List (Nat × ByteArray):=l.map Subtype.val
def Kp2(bt bm:Nat)(W W':World):Prop:=W'.cell? ⟨bt,0,none⟩=W.cell? ⟨bt,0,none⟩/\W'.cell? ⟨bm,0,none⟩=W.cell? ⟨bm,0,none⟩/\W'.cell? ⟨3,0,none⟩=W.cell? ⟨3,0,none⟩
theorem zht(l bt bm:Nat)(s m:ByteArray)(hs:s.size<=100000)(hm:0<m.size)(J Jx:List Pc->World->Prop)
  (hJd:∀pre W,J pre W->J pre W.drew)
  (hY:∀ pre x W,J pre W->pre.length<(qI s m s.size 0).length->YieldAt Fence.wide (3 - 1) Tryz.prog l #[.int .i64 x.1.1,.string x.1.2] W fun e W' =>
   (e=.returned (.bool true)/\J (pre++[x]) W'/\Kp2 bt bm W W')\/(e=.returned (.bool false)/\Jx (pre++[x]) W'))
  (W:World) (h0:W.cell? ⟨bt,0,none⟩=some (.string s)) (h1:W.cell? ⟨bm,0,none⟩=some (.string m)) (n:Int) (hn0:W.cell? ⟨3,0,none⟩=some (.int .i64 n)) (hJ:J [] W) :
  CallsIn Fence.wide 3 Tryz.prog 140 #[.func (.yield l) #[] #[],.pointer (some ⟨bt,0,none⟩),.pointer (some ⟨bm,0,none⟩)] W fun e W'=>(∃v,e=.returned v)/\((∃ys,zX ys=qI s m s.size 0/\J ys W')\/(∃pre,zX pre <+: qI s m s.size 0/\Jx pre W')):=by
 have HY:=zH hY;have HJD:=zH hJd;clear hY hJd;refine callsIn_of_wp Tryz.func140 rfl trivial ?_ rfl;simp only[Tryz.ntmps140,List.size_toArray,List.length_cons,List.length_nil,Nat.reduceAdd,Nat.reduceSub,Array.replicate_succ,Array.replicate_zero,List.push_toArray,List.append_toArray,List.nil_append,List.cons_append]
 gi_wp2
 gi_loopw [4] (fun p wr=>∃(pre:List Pc) (k f:Nat),p=.int .i64 k/\k<=s.size/\s.size<=k+f/\pre.length+f<=s.size/\zX pre++qI s m f k=qI s m s.size 0/\wr.cell? ⟨bt,0,none⟩=some (.string s)/\wr.cell? ⟨bm,0,none⟩=some (.string m)/\wr.cell? ⟨3,0,none⟩=some (.int .i64 n)/\J pre wr)
  (fun p _=>s.size+1-(intOf p).toNat)
 case atStart=>exact⟨[],0,s.size,rfl,Nat.zero_le _,by omega,by simp,rfl,h0,h1,hn0,hJ⟩
 case round =>
  obtain⟨pre,k,f,rfl,hk,hf,hpl,hcut,c0,c1,hn,hJs⟩:=hrel;have HJ:=zH hJs;have HC:=zH hcut;clear hJs hcut;have HN:=zH hn;clear hn;have hmx:Tryz.prog.follows .mixedOrders=true:=by kernel_rfl
  obtain⟨q,hq⟩:∃q:Int,Lib.index (s.extract k s.size).data.toList m.data.toList=q:=⟨_,rfl⟩;have hx:(s.extract k s.size).size=s.size-k:=by rw[ByteArray.size_extract];omega
  have HI:Hid (∀W',W'.cell? ⟨3,0,none⟩=some (.int .i64 n)->CallsIn Fence.wide 2 Tryz.prog 139 #[.string (s.extract k s.size),.string m] W' fun e w'=>e=.returned (.int .i64 q)/\w'=W'):=fun W' h=>callsIn_wide.2 (hq▸Tryz.strings_Index (s.extract k s.size) m n W' (by rw[ByteArray.size_extract];omega) h);have hn2:wr.drew.cell? ⟨3,0,none⟩=some (.int .i64 n):=HN.out;have HN2:=zH hn2;have HQ:=zH hq;have hlen:pre.length<(qI s m s.size 0).length:=by rw[<-HC.out,List.length_append,List.length_map];have:=zjO s m f k;omega
  have HX:=zH hx;clear hn2 hq hx;have hd:1<=3-1:=by omega
  by_cases hneg:q<0
  ·obtain⟨fn,tmps,assign,body,hy,hR⟩:=HY.out pre ⟨(k,s.extract k s.size),by simp only;omega,by simp only;rw[HX.out];omega⟩ wr.drew (HJD.out _ _ HJ.out) hlen;dsimp only at hy
   gi_wp2
   gi_region_with_o (refine⟨trivial,?_⟩;gi_at_call 139;refine(HI.out _ HN2.out).mono ?_;rintro e w' ⟨rfl,rfl⟩)
   all_goals gi_wp2
   all_goals
    refine hR.mono ?_;rintro e W3 (⟨rfl,hJ3,hk3⟩|⟨rfl,hJx3⟩)
    ·gi_wp2
     refine bodyPost_ret (results_none rfl _ _ _) rfl ?_;have hc:=HC.out;rw[zaG (by rw[HQ.out];exact hneg)] at hc;exact⟨⟨_,rfl⟩,.inl ⟨_,by rw[zX,List.map_append];exact hc,hJ3⟩⟩
    ·gi_wp2
     refine bodyPost_ret (results_none rfl _ _ _) rfl ?_;have hc:=HC.out;rw[zaG (by rw[HQ.out];exact hneg)] at hc;exact⟨⟨_,rfl⟩,.inr ⟨_,⟨[],by rw[List.append_nil,zX,List.map_append];exact hc⟩,hJx3⟩⟩
  ·obtain⟨j,rfl⟩:∃j:Nat,q=(j:Int):=⟨q.toNat,by omega⟩;have hroom:=zcr (s.extract k s.size).data.toList m.data.toList (by rw[HQ.out];omega);rw[HQ.out] at hroom;have hx:=HX.out;have hxl:(s.extract k s.size).data.toList.length=s.size-k:=by rw[<-hx];simp
   have hml:m.data.toList.length=m.size:=by simp
   rw[hxl,hml] at hroom;simp only[Int.toNat_natCast] at hroom;obtain⟨f',rfl⟩:∃f',f=f'+1:=⟨f-1,by omega⟩;have hcut:=HC.out;rw[zbX HQ.out,List.append_cons] at hcut;have HC2:=zH hcut;have hk1:k<=100000:=by omega
   have hx2:(s.extract k (k+j)).size<=100000:=by rw[ByteArray.size_extract];omega
   clear hx hxl hml hcut HC;obtain⟨fn,tmps,assign,body,hy,hR⟩:=HY.out pre ⟨(k,s.extract k (k+j)),hk1,hx2⟩ wr.drew (HJD.out _ _ HJ.out) hlen;dsimp only at hy;have i0:(0:Int)<=(k:Int):=by omega
   have i1:(k:Int)<=(k:Int)+(j:Int):=by omega
   have i2:(k:Int)+(j:Int)<=(s.size:Int):=by omega
   have hsl:=fun W'=>run_slice_string (P:=Tryz.prog) W' 9 s .i64 .i64 (k:Int) ((k:Int)+(j:Int)) Tryz.underlying9 i0 i1 i2;have e1:((k:Int)+(j:Int)).toNat=k+j:=by omega
   simp only[e1,Int.toNat_natCast] at hsl;clear e1
   gi_wp2
   gi_region_with_o (refine⟨trivial,?_⟩;gi_at_call 139;refine(HI.out _ HN2.out).mono ?_;rintro e w' ⟨rfl,rfl⟩)
   all_goals gi_wp2
   all_goals
    refine hR.mono ?_;rintro e W3 (⟨rfl,hJ3,hk3⟩|⟨rfl,hJx3⟩)
    ·have d0:W3.cell? ⟨bt,0,none⟩=some (.string s):=hk3.1.trans c0;have d1:W3.cell? ⟨bm,0,none⟩=some (.string m):=hk3.2.1.trans c1;have d2:Hid (W3.cell? ⟨3,0,none⟩=some (.int .i64 n)):=hk3.2.2.trans HN.out;have HJ3:=zH hJ3;clear hJ3 hk3
     gi_wp2
     go_roundw
     case rel=>exact⟨pre++[⟨(k,s.extract k (k+j)),hk1,hx2⟩],k+j+m.size,f',by go_num,by omega,by omega,by simp;omega,by rw[zX,List.map_append];exact HC2.out,d0,d1,d2.out,HJ3.out⟩
     case measure=>simp[intOf];omega
    ·gi_wp2
     refine bodyPost_ret (results_none rfl _ _ _) rfl ?_;exact⟨⟨_,rfl⟩,.inr ⟨_,⟨_,by rw[zX,List.map_append];exact HC2.out⟩,hJx3⟩⟩
theorem zio(W:World):W.grownBy W.drew none:=⟨rfl,rfl,rfl,Nat.le_refl _,fun _ _ _=>rfl⟩
abbrev zbW(x:Pc):Array Value:=#[.int .i64 x.1.1,.string x.1.2]
theorem JH(bt bm:Nat)(s m:ByteArray)(hs:s.size<=100000)(hm:0<m.size)(w:World)(hbt:bt<w.heap.size)(hbm:bm<w.heap.size)(h1:3<w.heap.size)(c0:w.cell? ⟨bt,0,none⟩=some (.string s))(c1:w.cell? ⟨bm,0,none⟩=some (.string m))(n:Int)(c2:w.cell? ⟨3,0,none⟩=some (.int .i64 n)) :
  SeqStopsK Fence.wide 3 Tryz.prog 140 #[.pointer (some ⟨bt,0,none⟩),.pointer (some ⟨bm,0,none⟩)] zbW (Kp2 bt bm) (fun ys=>zX ys=qI s m s.size 0) (fun pre=>zX pre <+: qI s m s.size 0) (qI s m s.size 0).length w:=fun l J Jx W hW hJ _ hY h0 =>
 zht l bt bm s m hs hm J Jx (fun pre W h=>hJ pre W _ none h (zio W) (fun r e=>by cases e)) hY W ((hW.cell (p:=⟨bt,0,none⟩) hbt).trans c0) ((hW.cell (p:=⟨bm,0,none⟩) hbm).trans c1) n ((hW.cell (p:=⟨3,0,none⟩) h1).trans c2) h0
theorem Kc{bt bm:Nat}{A B C:World}(h:Kp2 bt bm A B)(k:Kp2 bt bm B C):Kp2 bt bm A C:=⟨k.1.trans h.1,k.2.1.trans h.2.1,k.2.2.trans h.2.2⟩
theorem Xk{W:World}{l b i:Nat}{o':Obj}(h:b≠l):(W.putObj l o').cell? ⟨b,i,none⟩=W.cell? ⟨b,i,none⟩:=by
 unfold World.cell?;rw[World.putObj_heap_other h]
theorem Jb{bt bm:Nat}{w:World}(hbt:bt<w.heap.size)(hbm:bm<w.heap.size)(h1:3<w.heap.size)(W:World)(l:Nat)(o o':Obj)(hl:w.heap.size<=l)(_:W.heap[l]?=some o)(_:o.isCells=false)(_:o.isWalk=false):Kp2 bt bm W (W.putObj l o') :=
 ⟨Xk (by omega),Xk (by omega),Xk (by omega)⟩
theorem KT{bt bm B:Nat}{W W':World}(h:Below B W W')(h1:bt<B)(h2:bm<B)(h3:3<B):Kp2 bt bm W W':=⟨h.cell (p:=⟨bt,0,none⟩) h1,h.cell (p:=⟨bm,0,none⟩) h2,h.cell (p:=⟨3,0,none⟩) h3⟩
end
section
open Go.RowKit
def Blk(W:World)(b:Nat)(t:TypeId)(cs:Array Value):Prop:=W.heap[b]?=some (.cells cs t (0,0))
theorem Blk.lt{W:World}{b:Nat}{t:TypeId}{cs:Array Value}(h:Blk W b t cs):b<W.heap.size:=(Array.getElem?_eq_some_iff.1 h).1
theorem Blk.cell{W:World}{b:Nat}{t:TypeId}{cs:Array Value}(h:Blk W b t cs)(i:Nat):W.cell? ⟨b,i,none⟩=cs[i]?:=by
 simp[World.cell?,show W.heap[b]?=_ from h]
theorem Blk.frozen{W:World}{b:Nat}{t:TypeId}{cs:Array Value}(h:Blk W b t cs)(i:Nat):W.frozen? ⟨b,i,none⟩=false:=by simp[World.frozen?,show W.heap[b]?=_ from h]
theorem Blk.new(W:World)(t:TypeId)(cs:Array Value):Blk (W.alloc (.cells cs t)) W.heap.size t cs:=World.alloc_heap_new W _
theorem Blk.kept{W W':World}{row:Option Nat}{b:Nat}{t:TypeId}{cs:Array Value}(h:Blk W b t cs)(hg:W.grownBy W' row)(hne:some b≠row):Blk W' b t cs:=(hg.block b h.lt hne).trans h
theorem Blk.alloc{W:World}{b:Nat}{t:TypeId}{cs:Array Value}(h:Blk W b t cs)(o:Obj):Blk (W.alloc o) b t cs:=h.kept (World.grownBy_alloc W o none) (by simp)
theorem Blk.below{B:Nat}{W W':World}{b:Nat}{t:TypeId}{cs:Array Value}(h:Blk W b t cs)(hb:Below B W W')(hB:b<B):Blk W' b t cs:=(hb.block b hB).trans h
theorem Blk.other{W:World}{b b' i:Nat}{t:TypeId}{cs:Array Value}{v:Value}(h:Blk W b t cs)(hne:b≠b'):Blk (W.setCell ⟨b',i,none⟩ v) b t cs:=(Below.heap_setCell _ _ _ b hne).trans h
theorem Blk.put{W:World}{b l:Nat}{t:TypeId}{cs:Array Value}{o':Obj}(h:Blk W b t cs)(hne:b≠l):Blk (W.putObj l o') b t cs:=(World.putObj_heap_other hne).trans h
theorem Blk.set{W:World}{b i:Nat}{t:TypeId}{cs:Array Value}{v:Value}(h:Blk W b t cs):Blk (W.setCell ⟨b,i,none⟩ v) b t (cs.setIfInBounds i v):=by
 obtain⟨hlt,hk⟩:=Array.getElem?_eq_some_iff.1 h;show (W.heap.modify b _)[b]?=_;rw[Array.getElem?_eq_getElem (by rw[Array.size_modify];exact hlt),Array.getElem_modify_self,hk];rfl
end
section
open Go.RowKit Go.Shelf
theorem Q3{β:Type}(b:Nat)(t:TypeId)(f:β->Array Value):Own (fun s W=>Blk W b t (f s)):=by
 intro s W W' row h hg hr;refine Blk.kept h hg (fun e=>?_);obtain⟨o,ho,hc⟩:=hr b e.symm;rw[show W.heap[b]?=_ from h] at ho;cases ho;cases hc
theorem yB{W:World}{b b' i j:Nat}{v:Value}(h:b≠b'):(W.setCell ⟨b',i,none⟩ v).cell? ⟨b,j,none⟩=W.cell? ⟨b,j,none⟩:=by
 unfold World.cell?;rw[Below.heap_setCell _ _ _ b h]
theorem Xm{bt bm b i:Nat}{W W':World}{v:Value}(h:Kp2 bt bm W W')(h1:bt≠b)(h2:bm≠b)(h3:3≠b):Kp2 bt bm W (W'.setCell ⟨b,i,none⟩ v) :=
 ⟨(yB h1).trans h.1,(yB h2).trans h.2.1,(yB h3).trans h.2.2⟩
theorem zj7{β:Type}(B N:Nat):OwnFrom B (fun (_:β) (W:World)=>N<=W.heap.size):=fun _ _ _ _ hs hg _=>Nat.le_trans hs hg.size
theorem xI{W W':World}(h:zB W W'):KeepsOthers W W':=⟨h.size,fun k o hk _=>by rw[h.block k (Array.getElem?_eq_some_iff.1 hk).1];exact hk⟩
theorem zcf{W:World}{b:Nat}{t:TypeId}{p q r s u v x:Value}(h:Blk W b t #[p,q,r,s,u,v,x]):W.cell? ⟨b,0,none⟩=some p/\W.frozen? ⟨b,0,none⟩=false/\W.cell? ⟨b,1,none⟩=some q/\W.frozen? ⟨b,1,none⟩=false/\W.cell? ⟨b,2,none⟩=some r/\W.frozen? ⟨b,2,none⟩=false/\W.cell? ⟨b,3,none⟩=some s/\W.frozen? ⟨b,3,none⟩=false/\W.cell? ⟨b,4,none⟩=some u/\W.frozen? ⟨b,4,none⟩=false/\W.cell? ⟨b,5,none⟩=some v/\W.frozen? ⟨b,5,none⟩=false/\W.cell? ⟨b,6,none⟩=some x/\W.frozen? ⟨b,6,none⟩=false:=⟨h.cell 0,h.frozen 0,h.cell 1,h.frozen 1,h.cell 2,h.frozen 2,h.cell 3,h.frozen 3,h.cell 4,h.frozen 4,h.cell 5,h.frozen 5,h.cell 6,h.frozen 6⟩
end
namespace Bd
open Go.RowKit Go.Shelf Go.Deep
attribute [local go_sem] Oper.semAt_some
theorem zl7(a:Option Addr)(n c:Nat)(w:World) :
  CallsIn Fence.wide 3 Tryz.prog 126 #[.slice a n c] w fun e w'=>e=.returned (.func (.func 167) #[] #[.pointer (some ⟨w.heap.size,0,none⟩)])/\w'=w.alloc (.cells #[.slice a n c] 43):=by
 refine callsIn_of_wp Tryz.func126 rfl trivial ?_ rfl;simp only[Tryz.ntmps126,List.size_toArray,List.length_cons,List.length_nil,Nat.reduceAdd,Nat.reduceSub,Array.replicate_succ,Array.replicate_zero,List.push_toArray,List.append_toArray,List.nil_append,List.cons_append]
 gi_wp2
 go_ret;exact⟨by first|rfl|simp,rfl⟩
def bkF(xs:List Int):Nat->List (Nat × Int)
 |0=>[]
 |k+1=>(k,xs.getD k 0) :: bkF xs k
abbrev PQ(Q:Int->Prop):Type:={ p:Nat × Int // Q p.2 }
def x8{Q:Int->Prop}(l:List (PQ Q)):List (Nat × Int):=l.map Subtype.val
def Kr{Q:Int->Prop}(p:PQ Q):Array Value:=#[.int .i64 p.1.1,.int .i64 p.1.2]
def KpR(R:Nat->Prop)(W W':World):Prop:=∀k,R k->W'.heap[k]?=W.heap[k]?
theorem zdZ{R:Nat->Prop}{W W':World}(h:KpR R W W'){p:Addr}(h1:R p.block):W'.cell? p=W.cell? p:=by
 unfold World.cell?;rw[h p.block h1]
theorem Qj{R:Nat->Prop}{A C D:World}(h:KpR R A C)(k:KpR R C D):KpR R A D:=fun q h1=>(k q h1).trans (h q h1)
theorem zmn{R:Nat->Prop}{w:World}(hB:∀k,R k->k<w.heap.size)(W:World)(l:Nat)(o o':Obj)(hl:w.heap.size<=l)(_:W.heap[l]?=some o)(_:o.isCells=false)(_:o.isWalk=false):KpR R W (W.putObj l o') :=
 fun k h1=>World.putObj_heap_other (by have:=hB k h1;omega)
theorem zeu(ad:Addr)(j:Nat):(ad.add j).block=ad.block:=by unfold Addr.add;split<;>rfl
theorem ziQ(l bt:Nat)(R:Nat->Prop)(Q:Int->Prop)(xs:List Int)(a:Option Addr)(c:Nat)(hl:xs.length<=1000000)(hQ:∀i,i<xs.length->Q (xs.getD i 0))(J Jx:List (PQ Q)->World->Prop)
  (hY:∀ pre x W,J pre W->pre.length<xs.length->YieldAt Fence.wide (3 - 1) Tryz.prog l (Kr x) W fun e W' =>
   (e=.returned (.bool true)/\J (pre++[x]) W'/\KpR R W W')\/(e=.returned (.bool false)/\Jx (pre++[x]) W'))
  (W:World) (hR:R bt) (h0:W.cell? ⟨bt,0,none⟩=some (.slice a xs.length c)) (hI:∀i,i<xs.length->∃ad:Addr,a=some ad/\R ad.block/\W.cell? (ad.add i)=some (.int .i64 (xs.getD i 0))) (hJ:J [] W) :
  CallsIn Fence.wide 3 Tryz.prog 167 #[.func (.yield l) #[] #[],.pointer (some ⟨bt,0,none⟩)] W fun e W'=>(∃v,e=.returned v)/\((∃ys,x8 ys=bkF xs xs.length/\J ys W')\/(∃pre,x8 pre <+: bkF xs xs.length/\Jx pre W')):=by
 have HY:=zH hY;have HI:=zH hI;have HR:=zH hR;have HQ:=zH hQ;clear hY hI hR hQ;refine callsIn_of_wp Tryz.func167 rfl trivial ?_ rfl;simp only[Tryz.ntmps167,List.size_toArray,List.length_cons,List.length_nil,Nat.reduceAdd,Nat.reduceSub,Array.replicate_succ,Array.replicate_zero,List.push_toArray,List.append_toArray,List.nil_append,List.cons_append]
 gi_wp2_with fail
 gi_loopw [3] (fun p wr=>∃(pre:List (PQ Q)) (k:Nat),p=.int .i64 ((k:Int)-1)/\k<=xs.length/\pre.length+k=xs.length/\x8 pre++bkF xs k=bkF xs xs.length/\KpR R W wr/\J pre wr) (fun p _=>(intOf p+1).toNat)
 case atStart=>exact⟨[],xs.length,by go_num,Nat.le_refl _,by simp,rfl,fun _ _=>rfl,hJ⟩
 case round =>
  obtain⟨pre,k,rfl,hk,hpl,hcut,hkp,hJs⟩:=hrel;have HJ:=zH hJs;have HC:=zH hcut;have HKP:=zH hkp;have HPL:=zH hpl;have d0:wr.cell? ⟨bt,0,none⟩=some (.slice a xs.length c):=(zdZ (p:=⟨bt,0,none⟩) hkp HR.out).trans h0;clear hJs hcut hkp hpl
  by_cases hk0:k=0
  ·subst hk0;have hcut:=HC.out;rw[bkF,List.append_nil] at hcut;have HX:=zH hcut;clear hcut HC
   gi_wp2
   refine bodyPost_end (results_none rfl _ _ _) rfl ?_;exact⟨⟨_,rfl⟩,.inl ⟨pre,HX.out,HJ.out⟩⟩
  ·obtain⟨j,rfl⟩:∃j,k=j+1:=⟨k-1,by omega⟩;have hj:j<xs.length:=by omega
   obtain⟨ad,rfl,had,cA⟩:=HI.out j hj;have cA2:wr.cell? (ad.add j)=some (.int .i64 (xs.getD j 0)):=(zdZ (p:=ad.add j) HKP.out (by rw[zeu];exact had)).trans cA;have hcut:=HC.out;rw[bkF] at hcut;have hq:=HQ.out j hj;obtain⟨x,hx⟩:∃x,xs.getD j 0=x:=⟨_,rfl⟩;rw[hx] at cA2 hcut hq;have HX:Hid (x8 (pre++[⟨(j,x),hq⟩])++bkF xs j=bkF xs xs.length):=by show _=_;rw[x8,List.map_append,List.append_assoc];exact hcut
   have hjw:((j+1:Nat):Int)-1=(j:Int):=by omega
   rw[hjw];have hj0:(0:Int)<=(j:Int):=by omega
   have hj1:(j:Int)<(xs.length:Int):=by omega
   obtain⟨ab,ao,asp⟩:=ad;obtain⟨fn,tmps,assign,body,hy,hR⟩:=HY.out pre ⟨(j,x),hq⟩ wr HJ.out (by have:=HPL.out;omega);unfold Kr at hy;dsimp only at hy;clear hcut hx HC cA had hjw
   gi_wp2
   refine hR.mono ?_;rintro e W3 (⟨rfl,hJ3,hk3⟩|⟨rfl,hJx3⟩)
   ·have HJ3:=zH hJ3;have HK3:Hid (KpR R W W3):=Qj HKP.out hk3;clear hJ3 hk3 d0 cA2 hR hy
    gi_wp2
    go_roundw
    case rel=>exact⟨pre++[⟨(j,x),hq⟩],j,by go_num,by omega,by have:=HPL.out;simp;omega,HX.out,HK3.out,HJ3.out⟩
    case measure=>first|(simp[intOf];done)|(simp[intOf];omega)
   ·clear hR hy
    gi_wp2
    refine bodyPost_ret (results_none rfl _ _ _) rfl ?_;exact⟨⟨_,rfl⟩,.inr ⟨_,⟨_,HX.out⟩,hJx3⟩⟩
theorem zjr(bt:Nat)(R:Nat->Prop)(Q:Int->Prop)(xs:List Int)(a:Option Addr)(c:Nat)(hl:xs.length<=1000000)(hQ:∀i,i<xs.length->Q (xs.getD i 0))(w:World)(hR:R bt)(hlt:∀k,R k->k<w.heap.size)(h0:w.cell? ⟨bt,0,none⟩=some (.slice a xs.length c))(hI:∀i,i<xs.length->∃ad:Addr,a=some ad/\R ad.block/\w.cell? (ad.add i)=some (.int .i64 (xs.getD i 0))) :
  SeqStopsK Fence.wide 3 Tryz.prog 167 #[.pointer (some ⟨bt,0,none⟩)] (Kr (Q:=Q)) (KpR R) (fun ys=>x8 ys=bkF xs xs.length) (fun pre=>x8 pre <+: bkF xs xs.length) xs.length w:=fun l J Jx W hW _ _ hY hJ0 =>
 ziQ l bt R Q xs a c hl hQ J Jx hY W hR ((hW.cell (p:=⟨bt,0,none⟩) (hlt _ hR)).trans h0) (fun i hi=>by
  obtain⟨ad,e,q1,q2⟩:=hI i hi;exact ⟨ad,e,q1,(hW.cell (p:=ad.add i) (by rw [zeu];exact hlt _ q1)).trans q2⟩) hJ0
end Bd
section
open Go.RowKit Go.Deep
theorem add_plain(b o i:Nat):(⟨b,o,none⟩:Addr).add i=⟨b,o+i,none⟩:=by
 unfold Addr.add
 by_cases h:i=0
 ·subst h;rfl
 ·rw[if_neg h]
def icells(l:List Int):List Value:=l.map (Value.int .i64)
theorem ZJ(l:List Int):(icells l).length=l.length:=by simp[icells]
theorem ZV(l:List Int)(i:Nat)(h:i<l.length):(icells l)[i]?=some (.int .i64 (l.getD i 0)):=by simp[icells,List.getD_eq_getElem?_getD,h]
theorem QP(l:List Int)(x:Int):icells (l++[x])=icells l++[.int .i64 x]:=by simp[icells]
theorem ZR:(Tryz.prog.info? 3).map (fun i=>(i.zero,i.size,i.bytes))=some (some (.int .i64 0),1,8):=by kernel_rfl
theorem row_form{B n:Nat}{w:World}{v:Value}{t:TypeId}{cs:List Value}(h:w.ownsRow B t 1 v n cs):∃a c,v=.slice a n c/\n<=c/\c<=9223372036854775807:=by
 rcases h.2 with ⟨e,e0⟩|⟨g,cap,cur,e,-,-,h1,h2,-⟩
 ·exact⟨none,0,by rw[e,e0],by omega,by omega⟩
 ·unfold maxLen at h2;exact⟨_,_,e,h1,h2⟩
theorem Kw{B:Nat}{w:World}{a:Option Addr}{c:Nat}{l:List Int}(h:w.ownsRow B 3 1 (.slice a l.length c) l.length (icells l)):qJ w a l:=by
 intro i hi;rcases h.2 with ⟨e,e0⟩|⟨g,cap,cur,e,hB,hg,-⟩
 ·omega
 ·injection e with e1 e2 e3;subst e1 e3;refine⟨_,rfl,(Array.getElem?_eq_some_iff.1 hg).1,?_⟩;have:=h.cellAt i (by omega);rw[add_plain,Nat.zero_add,this,ZV l i hi]
theorem znF{B:Nat}{w w':World}{t:TypeId}{v:Value}{n:Nat}{cs:List Value}(h:w.ownsRow B t 1 v n cs)(hb:zB w w'):w'.ownsRow B t 1 v n cs:=by
 obtain⟨h1,h2⟩:=h;refine⟨h1,?_⟩;rcases h2 with h2|⟨g,cap,cur,hv,hg,hh,r⟩
 ·exact Or.inl h2
 ·exact Or.inr ⟨g,cap,cur,hv,hg,by rw[hb.block g (Array.getElem?_eq_some_iff.1 hh).1];exact hh,r⟩
theorem Z0(w:World)(x:Int)(t:TypeId):∀(j:Nat) (u:Value),[Value.int .i64 x][j]?=some u->(w.alloc (.cells #[.int .i64 x] t)).cell? ((⟨w.heap.size,0,none⟩:Addr).add j)=some u:=by
 intro j u hu;cases j with
 |zero=>simp at hu;subst hu;rw[add_plain];simp
 |succ j=>simp at hu
theorem Zy(x:Int):∀u∈[Value.int .i64 x],u.oneCell'=true:=by
 intro u hu;rw[List.mem_singleton] at hu;subst hu;rfl
theorem YQ:(Tryz.prog.info? 43).map (fun i=>(i.zero,i.size,i.bytes))=some (some (.slice none 0 0),1,24):=by kernel_rfl
theorem zfF{B n:Nat}{w:World}{a:Option Addr}{c:Nat}{t:TypeId}{cs:List Value}(h:w.ownsRow B t 1 (.slice a n c) n cs):a=none->c=0:=by
 rintro rfl;rcases h.2 with ⟨e,e0⟩|⟨g,cap,cur,e,-⟩
 ·injection e
 ·cases e
theorem zaT{c:List Int}{j:Nat}(h:j<c.length):c.take (j+1)=c.take j++[c.getD j 0]:=by
 rw[List.take_succ_eq_append_getElem h,List.getD_eq_getElem?_getD,List.getElem?_eq_getElem h];rfl
theorem zeq{α:Type}{l:List α}{k:Nat}{d:α}(h:k<l.length):l.drop k=l.getD k d :: l.drop (k+1):=by
 rw[List.drop_eq_getElem_cons h,List.getD_eq_getElem?_getD,List.getElem?_eq_getElem h];rfl
theorem ownsRow_base{w:World}{base base':Nat}{e:TypeId}{size:Nat}{v:Value}{n:Nat}{xs:List Value}(h:w.ownsRow base e size v n xs)(hb:base'<=base):w.ownsRow base' e size v n xs:=by
 obtain⟨h1,h2⟩:=h;refine⟨h1,?_⟩;rcases h2 with h2|⟨g,cap,cur,hv,hg,r⟩
 ·exact Or.inl h2
 ·exact Or.inr ⟨g,cap,cur,hv,Nat.le_trans hb hg,r⟩
end
section
open Go.RowKit Go.Deep
def Qa(s:Nat × Nat):Value:=.agg #[.int .u64 s.1,.int .u64 s.2]
theorem zbf{k:Nat}(hk:k<24):2^k<2^24:=Nat.pow_lt_pow_right (by omega) hk
theorem zd6{o k:Nat}(ho:o<2^24)(hk:k<24):bits BinOp.or IntKind.u64 (o:Int) ((2:Int)^k)=((o|||2^k:Nat):Int):=by
 have h:=zbf hk;have h63:(2:Nat)^24<18446744073709551616:=by decide
 have e:((2:Int)^k)=((2^k:Nat):Int):=by simp
 rw[e,bits_or_u64_nat o (2^k) (by omega) (by omega)]
theorem za8{k:Nat}(hk:k<24):IntKind.u64.wrap ((2:Int)^k)=(2:Int)^k:=by
 have h:=zbf hk;have h63:(2:Nat)^24<2^63:=by decide
 have e:((2:Int)^k)=((2^k:Nat):Int):=by simp
 rw[e,IntKind.wrap_u64];exact Int.emod_eq_of_lt (Int.natCast_nonneg _) (by omega)
structure SB(w wr:World)(s:Nat × Nat):Prop where
 res:Blk wr w.heap.size 270 #[.int .u64 0,.int .u64 0]
 blk:Blk wr (w.heap.size+1) 270 #[.int .u64 s.1,.int .u64 s.2]
 below:zB w wr
theorem SB.start(w:World):SB w ((w.alloc (.cells #[.int .u64 0,.int .u64 0] 270)).alloc (.cells #[.int .u64 0,.int .u64 0] 270)) (0,0):=by
 have h1:=Blk.new w 270 #[.int .u64 0,.int .u64 0];have h2:=Blk.new (w.alloc (.cells #[.int .u64 0,.int .u64 0] 270)) 270 #[.int .u64 0,.int .u64 0];rw[World.size_alloc] at h2;exact⟨h1.alloc _,h2,(below_new w _).alloc (by simp) _⟩
theorem SB.yes{w wr:World}{s:Nat × Nat}(h:SB w wr s)(m:Nat):SB w (wr.setCell ⟨w.heap.size+1,0,none⟩ (.int .u64 m)) (m,s.2) :=
 ⟨h.res.other (by omega),h.blk.set,h.below.setCell (by show w.heap.size<=w.heap.size+1;omega) _⟩
theorem SB.no{w wr:World}{s:Nat × Nat}(h:SB w wr s)(m:Nat):SB w (wr.setCell ⟨w.heap.size+1,1,none⟩ (.int .u64 m)) (s.1,m) :=
 ⟨h.res.other (by omega),h.blk.set,h.below.setCell (by show w.heap.size<=w.heap.size+1;omega) _⟩
theorem SB.drew{w wr:World}{s:Nat × Nat}(h:SB w wr s):SB w wr.drew s:=⟨h.res,h.blk,h.below.drew⟩
theorem zlo(c:List Int)(a:Option Addr)(cap:Nat)(w:World)(hI:qJ w a c)(hm:c.length<=9223372036854775807) :
  zR 164 #[.slice a c.length cap] w (Qa (zk c)):=by
 have HI:=zH hI;have HS:=zH (SB.start w);clear hI;go_enter Tryz.func164,Tryz.ntmps164;go_wp2_with fail;go_loopw [8] (fun kV wr=>∃k:Nat,k<=c.length/\kV=.int .i64 k/\SB w wr (zk (c.take k))) (fun kV _=>c.length-(intOf kV).toNat)
 case atStart=>exact⟨0,Nat.zero_le _,rfl,HS.out⟩
 case round =>
  obtain⟨k,hk,rfl,hsb⟩:=hrel;have HSB:=zH hsb;clear hsb HS
  by_cases hlt:k<c.length
  ·obtain⟨ad,rfl,hl,hc⟩:=HI.out.below HSB.out.below k hlt;have HN:=zH (show zk (c.take (k+1))=Zb (zk (c.take k)) (c.getD k 0) by rw[zaT hlt,zjH]);have hsm:=zaX (c.take k);generalize c.getD k 0=x at *;generalize zk (c.take k)=s at *;have c0:=HSB.out.blk.cell 0;have c1:=HSB.out.blk.cell 1;have f0:=HSB.out.blk.frozen 0;have f1:=HSB.out.blk.frozen 1;simp at c0 c1
   by_cases h1:0<x/\x<=24
   ·obtain⟨t,rfl⟩:∃t:Nat,x=(t:Int)+1:=⟨x.toNat-1,by omega⟩;have ht:t<24:=by omega
    have HE:=zH (show Zb s ((t:Int)+1)=(s.1|||2^t,s.2) by unfold Zb;rw[if_pos h1,show ((t:Int)+1).toNat-1=t by omega]);have HO:=zH (zd6 hsm.1 ht);have HW:=zH (za8 ht);obtain⟨h1a,h1b⟩:=h1;clear hsm;go_wp2_with fail;go_region;have HQ:=zH ((HSB.out.yes (s.1|||2^t)).drew);rw[<-HO.out,<-HW.out] at HQ;clear c0 c1 f0 f1;go_wp2;go_roundw
    case rel=>exact⟨k+1,hlt,by go_num,by rw[HN.out,HE.out];exact HQ.out⟩
    case measure=>simp[intOf];omega
   ·by_cases h2:-24<=x/\x<0
    ·obtain⟨t,rfl⟩:∃t:Nat,x=-((t:Int)+1):=⟨(-x).toNat-1,by omega⟩;have ht:t<24:=by omega
     have HE:=zH (show Zb s (-((t:Int)+1))=(s.1,s.2|||2^t) by unfold Zb;rw[if_neg h1,if_pos h2,show (- -((t:Int)+1)).toNat-1=t by omega]);have HO:=zH (zd6 hsm.2 ht);have HW:=zH (za8 ht);obtain⟨h2a,h2b⟩:=h2;have h1':¬(0 < -((t:Int)+1)):=by omega
     clear hsm h1;go_wp2_with fail;go_region;have HQ:=zH ((HSB.out.no (s.2|||2^t)).drew);rw[<-HO.out,<-HW.out] at HQ;clear c0 c1 f0 f1;go_wp2;go_roundw
     case rel=>exact⟨k+1,hlt,by go_num,by rw[HN.out,HE.out];exact HQ.out⟩
     case measure=>simp[intOf];omega
    ·have HE:=zH (show Zb s x=s by unfold Zb;rw[if_neg h1,if_neg h2]);clear hsm c0 c1 f0 f1
     by_cases hp:0<x
     ·have h3:24<x:=by omega
      clear h1 h2;go_wp2;go_roundw
      case rel=>exact⟨k+1,hlt,by go_num,by rw[HN.out,HE.out];exact HSB.out⟩
      case measure=>simp[intOf];omega
     ·by_cases hz:x=0
      ·subst hz;clear h1 h2;go_wp2;go_roundw
       case rel=>exact⟨k+1,hlt,by go_num,by rw[HN.out,HE.out];exact HSB.out⟩
       case measure=>simp[intOf];omega
      ·have h3:x < -24:=by omega
       clear h1 h2;go_wp2;go_roundw
       case rel=>exact⟨k+1,hlt,by go_num,by rw[HN.out,HE.out];exact HSB.out⟩
       case measure=>simp[intOf];omega
  ·obtain rfl:k=c.length:=by omega
   rw[List.take_length] at HSB;have c0:=HSB.out.blk.cell 0;have c1:=HSB.out.blk.cell 1;have r0:=HSB.out.res.cell 0;have r1:=HSB.out.res.cell 1;have f0:=HSB.out.res.frozen 0;have f1:=HSB.out.res.frozen 1;simp at c0 c1 r0 r1;have HB:Hid (zB w ((wr.setCell ⟨w.heap.size,0,none⟩ (.int .u64 ((zk c).1:Int))).setCell ⟨w.heap.size,1,none⟩ (.int .u64 ((zk c).2:Int)))):=(HSB.out.below.setCell zN _).setCell zN _;have HR:=zH ((HSB.out.res.set (i:=0) (v:=.int .u64 ((zk c).1:Int))).set (i:=1) (v:=.int .u64 ((zk c).2:Int)));clear HSB;go_wp2;have k0:=HR.out.cell 0;have k1:=HR.out.cell 1;simp at k0 k1;exact bodyPost_ret (v:=Qa (zk c)) (by simp[results,Tryz.results164,go_sem,k0,k1,Qa]) rfl ⟨rfl,HB.out⟩
theorem zmp(s:Nat × Nat)(hs:Small s)(w:World) :
  zR 165 #[Qa s] w (.bool (qu s)):=by
 have h63:(2:Nat)^24<18446744073709551616:=by decide
 have HA:=zH (bits_and_u64_nat s.1 s.2 (by have:=hs.1;omega) (by have:=hs.2;omega));have HB:=zH (below_new w (.cells #[.int .u64 s.1,.int .u64 s.2] 270));have HF:Hid (((((s.1&&&s.2:Nat):Int)) != 0)=qu s):=by
  show _=_;unfold qu;rw[Bool.eq_iff_iff];simp
 clear hs;unfold Qa;go_enter Tryz.func165,Tryz.ntmps165;go_wp2;go_ret;exact⟨by rw[HA.out,HF.out];rfl,HB.out⟩
theorem Xu(m t:Nat)(hm:m<18446744073709551616):(bits BinOp.and IntKind.u64 ((m:Int)/2^t) 1==1)=m.testBit t:=zgh m t hm
structure CK(w wr:World)(s:Nat × Nat)(cV:Value)(k:Nat):Prop where
 row:wr.ownsRow w.heap.size 3 1 cV (yv s k).length (icells (yv s k))
 blk:Blk wr w.heap.size 270 #[.int .u64 s.1,.int .u64 s.2]
 below:zB w wr
theorem CK.skip{w wr:World}{s:Nat × Nat}{cV:Value}{k:Nat}(h:CK w wr s cV k)(hn:yP s k=none):CK w wr s cV (k+1):=by
 have e:yv s (k+1)=yv s k:=by rw[zab,hn];simp
 exact⟨by rw[e];exact h.row,h.blk,h.below⟩
theorem CK.app{w wr wr':World}{s:Nat × Nat}{cV v':Value}{k:Nat}{x:Int}(h:CK w wr s cV k)(hn:yP s k=some x)(o:Obj)(hown:wr'.ownsRow w.heap.size 3 1 v' ((yv s k).length+1) (icells (yv s k)++[.int .i64 x]))(hg:(wr.alloc o).grownBy wr' cV.ownBlock):CK w wr' s v' (k+1):=by
 have e:yv s (k+1)=yv s k++[x]:=by rw[zab,hn];simp
 have hne:cV.ownBlock≠some w.heap.size:=Lib.ownBlock_ne h.row h.blk (by decide);refine⟨by rw[e,QP];simpa using hown,(h.blk.alloc o).kept hg (fun e=>hne e.symm),?_⟩;exact(h.below.alloc h.below.size o).grown hg (by have:=h.below.size;simp;omega) (fun k hk=>(h.row.lt k hk).1)
def zcC(B:Nat)(xs:List Int)(e:Ending)(w':World):Prop:=∃a cap,e=.returned (.slice a xs.length cap)/\w'.ownsRow B 3 1 (.slice a xs.length cap) xs.length (icells xs)
theorem zgR(s:Nat × Nat)(hs:Small s)(w:World) :
  zC 166 #[Qa s] w fun e w'=>zcC w.heap.size (qi s) e w'/\zB w w':=by
 have h63:(2:Nat)^24<18446744073709551616:=by decide
 have HY:Hid (∀t,(bits BinOp.and IntKind.u64 ((s.1:Int)/2^t) 1==1)=s.1.testBit t):=fun t=>Xu s.1 t (by have:=hs.1;omega);have HN:Hid (∀t,(bits BinOp.and IntKind.u64 ((s.2:Int)/2^t) 1==1)=s.2.testBit t):=fun t=>Xu s.2 t (by have:=hs.2;omega);have HS:Hid (CK w (w.alloc (.cells #[.int .u64 s.1,.int .u64 s.2] 270)) s (.slice none 0 0) 0):=⟨World.ownsRow_nil _ _ _ _,Blk.new _ _ _,below_new w _⟩;obtain⟨i0,hin,hz0,hz1,hz2⟩:=info_parts ZR;clear hs h63;unfold Qa;go_enter Tryz.func166,Tryz.ntmps166;go_wp2_with fail;go_loopw [3,5] (fun cV kV wr=>∃k:Nat,k<=24/\kV=.int .i64 k/\CK w wr s cV k) (fun _ kV _=>24-(intOf kV).toNat)
 case atStart=>exact⟨0,by omega,rfl,HS.out⟩
 case round =>
  obtain⟨k,hk,rfl,hck⟩:=hrel;obtain⟨wo,rfl⟩:∃wo,wo=wr:=⟨_,rfl⟩;obtain⟨ca,cc,rfl,hcl,-⟩:=row_form hck.row;have HCK:=zH hck;have hlen:=JZ s k;clear hck HS
  by_cases hlt:k<24
  ·have c0:=HCK.out.blk.cell 0;have c1:=HCK.out.blk.cell 1;simp at c0 c1;have hi1:(k:Int)<24:=by omega
   have hws:=HCK.out.below.size;cases hy:s.1.testBit k with
   |true =>
    have hq:=HY.out k;rw[hy] at hq;have HL:=zH (show yP s k=some ((k:Int)+1) by unfold yP;rw[if_pos hy]);clear hy;go_wp2_with (first|(at_builtin;refine wpList_append_own_at _ rfl _ _ 43 rfl w.heap.size 3 i0 (.int .i64 0) 1 8 Tryz.underlying43 hin hz0 hz1 hz2 rfl (by decide) _ _ _ rfl (HCK.out.row.alloc _) ⟨wo.heap.size,0,none⟩ 1 1 [.int .i64 ((k:Int)+1)] rfl rfl ?c1 ?c2 ?c3 ?c4 ?c5 ?_))
    case c1=>exact Z0 _ _ _
    case c2=>exact Zy _
    case c3=>unfold maxLen;omega
    case c4=>omega
    case c5=>simp;omega
    intro v7 w7 hown7 hgrow7 _ _;have HX:=zH (HCK.out.app HL.out _ hown7 hgrow7);clear hown7 hgrow7 c0 c1 hq;go_wp2;go_roundw
    case rel=>exact⟨k+1,hlt,by go_num,HX.out⟩
    case measure=>simp[intOf];omega
   |false =>
    have hq:=HY.out k;rw[hy] at hq;cases hn:s.2.testBit k with
    |true =>
     have hr:=HN.out k;rw[hn] at hr;have HL:=zH (show yP s k=some (-((k:Int)+1)) by unfold yP;rw[hy,if_neg (by simp),if_pos hn]);clear hy hn;go_wp2_with (first|(at_builtin;refine wpList_append_own_at _ rfl _ _ 43 rfl w.heap.size 3 i0 (.int .i64 0) 1 8 Tryz.underlying43 hin hz0 hz1 hz2 rfl (by decide) _ _ _ rfl (HCK.out.row.alloc _) ⟨wo.heap.size,0,none⟩ 1 1 [.int .i64 (-((k:Int)+1))] rfl rfl ?c1 ?c2 ?c3 ?c4 ?c5 ?_))
     case c1=>exact Z0 _ _ _
     case c2=>exact Zy _
     case c3=>unfold maxLen;omega
     case c4=>omega
     case c5=>simp;omega
     intro v7 w7 hown7 hgrow7 _ _;have HX:=zH (HCK.out.app HL.out _ hown7 hgrow7);clear hown7 hgrow7 c0 c1 hq hr;go_wp2;go_roundw
     case rel=>exact⟨k+1,hlt,by go_num,HX.out⟩
     case measure=>simp[intOf];omega
    |false =>
     have hr:=HN.out k;rw[hn] at hr;have HX:=zH (HCK.out.skip (show yP s k=none by unfold yP;rw[hy,hn];simp));clear hy hn;go_wp2;go_roundw
     case rel=>exact⟨k+1,hlt,by go_num,HX.out⟩
     case measure=>simp[intOf];omega
  ·obtain rfl:k=24:=by omega
   have HR:Hid (wo.ownsRow w.heap.size 3 1 (.slice ca (qi s).length cc) (qi s).length (icells (qi s))):=HCK.out.row;go_wp2;go_ret;exact⟨⟨ca,cc,rfl,HR.out⟩,HCK.out.below⟩
end
end Go.Proofs.YtjmfeefogikdfaaGreatDoor
