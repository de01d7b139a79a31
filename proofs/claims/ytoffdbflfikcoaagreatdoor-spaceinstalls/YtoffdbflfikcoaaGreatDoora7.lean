import Derived.Test.YtoffdbflfikcoaaGreatDoora6
import Derived.RangeFuncNested
import Derived.RangeFuncBound
import Derived.Shelf.RegionOpen
import Derived.OwnWalkIn
import Derived.LoopNIn
import Derived.LoopIn
import Derived.OneCell
import Derived.Deep.AppendLies
import Derived.Stop.Asserts
import Derived.RowKitTokens
open Go.Proofs.Tryz Go.RowKit
namespace Go.Proofs.YtoffdbflfikcoaaGreatDoor
set_option maxHeartbeats 4000000
set_option maxRecDepth 100000
section
open Go.Shelf
attribute [local go_sem] Oper.semAt_some
theorem zcc(s m:ByteArray)(w:World) :
  CallsIn Fence.wide 3 prog 128 #[s,m] w fun e w'=>e=.returned (.func (.func 181) #[] #[.pointer (some w),.pointer (some ⟨w.heap.size+1,0,none⟩)])/\w'=(w.alloc (.cells #[s] 9)).alloc (.cells #[m] 9):=by
 refine callsIn_of_wp func128 rfl trivial ?_ rfl;simp only[ntmps128,zrT,zrb,zrY,Nat.reduceAdd,Nat.reduceSub,zr6,zr5,zsq,zsb,zrX,zrL]
 gi_wp2
 go_ret;exact⟨rfl,rfl⟩
def zq(s m:ByteArray):Nat->Nat->List (Nat × ByteArray)
 |0,k=>[(k,s.extract k s.size)]
 |f+1,k=>if Lib.index (s.extract k s.size).data.toList m.data.toList<0 then [(k,s.extract k s.size)] else (k,s.extract k (k+(Lib.index (s.extract k s.size).data.toList m.data.toList).toNat)) :: zq s m f (k+(Lib.index (s.extract k s.size).data.toList m.data.toList).toNat+m.size)
theorem YX:∀(l sub:List UInt8),0<=Lib.index l sub->(Lib.index l sub).toNat+sub.length<=l.length:=by
 intro l
 induction l with
 |nil =>
  intro sub h;unfold Lib.index at h ⊢;cases sub with
  |nil=>simp
  |cons c t=>simp at h
 |cons b l ih =>
  intro sub h;unfold Lib.index at h ⊢
  by_cases hp:sub.isPrefixOf (b :: l)=true
  ·rw[zc3 hp];have:=(List.isPrefixOf_iff_prefix.1 hp).length_le;simpa using this
  ·rw[zc2 hp] at h ⊢
   by_cases he:Lib.index l sub=-1
   ·rw[zc3 (by simp[he])] at h;omega
   ·rw[zc2 (by simpa using he)] at h ⊢;have:=ih sub (by omega);simp only[zrb];omega
theorem J2(s m:ByteArray)(f k:Nat):0<(zq s m f k).length:=by
 cases f with
 |zero=>simp[zq]
 |succ f=>rw[zq];split<;>simp
theorem Kt{s m:ByteArray}{k:Nat}(h:Lib.index (s.extract k s.size).data.toList m.data.toList<0):∀f,zq s m f k=[(k,s.extract k s.size)]
 |0=>rfl
 |f+1=>by rw[zq,zc3 h]
theorem Je{s m:ByteArray}{k f j:Nat}(h:Lib.index (s.extract k s.size).data.toList m.data.toList=(j:Int)):zq s m (f+1) k=(k,s.extract k (k+j)) :: zq s m f (k+j+m.size):=by
 rw[zq,zc2 (by omega),h];rfl
abbrev Pc:={ x:Nat × ByteArray // x.1<=100000/\x.2.size<=100000 }
abbrev zW(l:List Pc):List (Nat × ByteArray):=l.map Subtype.val
def Kp2(bt bm:Nat)(W W':World):Prop:=W'.cell? bt=W.cell? bt/\W'.cell? bm=W.cell? bm/\W'.cell? ⟨5,0,none⟩=W.cell? ⟨5,0,none⟩
theorem zpY(l bt bm:Nat)(s m:ByteArray)(hs:s.size<=100000)(hm:0<m.size)(J Jx:List Pc->World->Prop)
  (hJd:∀o W,J o W->J o W.drew)
  (hY:∀ o x W,J o W->o.length<(zq s m s.size 0).length->YieldAt Fence.wide (3 - 1) prog l #[x.1.1,x.1.2] W fun e W' =>
   (e=.returned true/\J (o++[x]) W'/\Kp2 bt bm W W')\/(e=.returned false/\Jx (o++[x]) W'))
  (W:World) (h0:W.cell? bt=some (.string s)) (h1:W.cell? bm=some (.string m)) (n:Int) (hn0:W.cell? ⟨5,0,none⟩=some (.int .i64 n)) (hJ:J [] W) :
  CallsIn Fence.wide 3 prog 181 #[.func (.yield l) #[] #[],.pointer (some bt),.pointer (some bm)] W fun e W'=>(∃v,e=.returned v)/\((∃ys,zW ys=zq s m s.size 0/\J ys W')\/(∃o,zW o <+: zq s m s.size 0/\Jx o W')):=by
 have HY:=zH hY;have Y:=zH hJd;clear hY hJd;refine callsIn_of_wp func181 rfl trivial ?_ rfl;simp only[ntmps181,zrT,zrb,zrY,Nat.reduceAdd,Nat.reduceSub,zr6,zr5,zsq,zsb,zrX,zrL]
 gi_wp2
 gi_loopw [4] (fun p wr=>∃(o:List Pc) (k f:Nat),p=.int .i64 k/\k<=s.size/\s.size<=k+f/\o.length+f<=s.size/\zW o++zq s m f k=zq s m s.size 0/\wr.cell? bt=some (.string s)/\wr.cell? bm=some (.string m)/\wr.cell? ⟨5,0,none⟩=some (.int .i64 n)/\J o wr)
  (fun p _=>s.size+1-(intOf p).toNat)
 case atStart=>exact⟨[],0,s.size,rfl,zf6 _,by omega,by simp,rfl,h0,h1,hn0,hJ⟩
 case round =>
  obtain⟨o,k,f,rfl,hk,hf,a9,hcut,c0,c1,hn,a0⟩:=hrel;have HJ:=zH a0;have HC:=zH hcut;clear a0 hcut;have HN:=zH hn;clear hn;have a8:prog.follows .mixedOrders=true:=by kernel_rfl
  obtain⟨q,hq⟩:∃q:Int,Lib.index (s.extract k s.size).data.toList m.data.toList=q:=⟨_,rfl⟩;have hx:(s.extract k s.size).size=s.size-k:=by rw[zsX];omega
  have HI:Hid (∀W',W'.cell? ⟨5,0,none⟩=some (.int .i64 n)->CallsIn Fence.wide 2 prog 118 #[.string (s.extract k s.size),m] W' fun e w'=>e=.returned (.int .i64 q)/\w'=W'):=fun W' h=>callsIn_wide.2 (hq▸Tryz.strings_Index (s.extract k s.size) m n W' (by rw[zsX];omega) h);have a3:wr.drew.cell? ⟨5,0,none⟩=some (.int .i64 n):=HN.out;have Z:=zH a3;have HQ:=zH hq;have M:o.length<(zq s m s.size 0).length:=by rw[<-HC.out,zf4,zrs];have:=J2 s m f k;omega
  have HX:=zH hx;clear a3 hq hx;have hd:1<=3-1:=by omega
  by_cases hneg:q<0
  ·obtain⟨fn,V,y,U,hy,hR⟩:=HY.out o ⟨(k,s.extract k s.size),by simp only;omega,by simp only;rw[HX.out];omega⟩ wr.drew (Y.out _ _ HJ.out) M;dsimp only at hy
   gi_wp2
   gi_region_with_o (refine⟨trivial,?_⟩;gi_at_call 118;refine(HI.out _ Z.out).mono ?_;rintro e w' ⟨rfl,rfl⟩)
   all_goals gi_wp2
   all_goals
    refine hR.mono ?_;rintro e W3 (⟨rfl,R,K⟩|⟨rfl,C⟩)
    ·gi_wp2
     refine zc4 (ztX rfl _ _ _) rfl ?_;have hc:=HC.out;rw[Kt (by rw[HQ.out];exact hneg)] at hc;exact⟨⟨_,rfl⟩,.inl ⟨_,by rw[zW,zrv];exact hc,R⟩⟩
    ·gi_wp2
     refine zc4 (ztX rfl _ _ _) rfl ?_;have hc:=HC.out;rw[Kt (by rw[HQ.out];exact hneg)] at hc;exact⟨⟨_,rfl⟩,.inr ⟨_,⟨[],by rw[zrS,zW,zrv];exact hc⟩,C⟩⟩
  ·obtain⟨j,rfl⟩:∃j:Nat,q=(j:Int):=⟨q.toNat,by omega⟩;have u:=YX (s.extract k s.size).data.toList m.data.toList (by rw[HQ.out];omega);rw[HQ.out] at u;have hx:=HX.out;have a5:(s.extract k s.size).data.toList.length=s.size-k:=by rw[<-hx];simp
   have a2:m.data.toList.length=m.size:=by simp
   rw[a5,a2] at u;simp only[zrh] at u;obtain⟨f',rfl⟩:∃f',f=f'+1:=⟨f-1,by omega⟩;have hcut:=HC.out;rw[Je HQ.out,List.append_cons] at hcut;have X:=zH hcut;have a1:k<=100000:=by omega
   have a4:(s.extract k (k+j)).size<=100000:=by rw[zsX];omega
   clear hx a5 a2 hcut HC;obtain⟨fn,V,y,U,hy,hR⟩:=HY.out o ⟨(k,s.extract k (k+j)),a1,a4⟩ wr.drew (Y.out _ _ HJ.out) M;dsimp only at hy;have i0:(0:Int)<=(k:Int):=by omega
   have i1:(k:Int)<=(k:Int)+(j:Int):=by omega
   have i2:(k:Int)+(j:Int)<=(s.size:Int):=by omega
   have a7:=fun W'=>run_slice_string (P:=prog) W' 9 s .i64 .i64 (k:Int) ((k:Int)+(j:Int)) zrf i0 i1 i2;have e1:((k:Int)+(j:Int)).toNat=k+j:=by omega
   simp only[e1,zrh] at a7;clear e1
   gi_wp2
   gi_region_with_o (refine⟨trivial,?_⟩;gi_at_call 118;refine(HI.out _ Z.out).mono ?_;rintro e w' ⟨rfl,rfl⟩)
   all_goals gi_wp2
   all_goals
    refine hR.mono ?_;rintro e W3 (⟨rfl,R,K⟩|⟨rfl,C⟩)
    ·have d0:W3.cell? bt=some (.string s):=K.1.trans c0;have d1:W3.cell? bm=some (.string m):=K.2.1.trans c1;have d2:Hid (W3.cell? ⟨5,0,none⟩=some (.int .i64 n)):=K.2.2.trans HN.out;have a6:=zH R;clear R K
     gi_wp2
     go_roundw
     case rel=>exact⟨o++[⟨(k,s.extract k (k+j)),a1,a4⟩],k+j+m.size,f',by go_num,by omega,by omega,by simp;omega,by rw[zW,zrv];exact X.out,d0,d1,d2.out,a6.out⟩
     case measure=>simp[intOf];omega
    ·gi_wp2
     refine zc4 (ztX rfl _ _ _) rfl ?_;exact⟨⟨_,rfl⟩,.inr ⟨_,⟨_,by rw[zW,zrv];exact X.out⟩,C⟩⟩
theorem zkc(W:World):W.grownBy W.drew none:=⟨rfl,rfl,rfl,zri _,fun _ _ _=>rfl⟩
abbrev zdV(x:Pc):Array Value:=#[.int .i64 x.1.1,.string x.1.2]
theorem zb1(bt bm:Nat)(s m:ByteArray)(hs:s.size<=100000)(hm:0<m.size)(w:World)(hbt:bt<w.heap.size)(hbm:bm<w.heap.size)(h1:5<w.heap.size)(c0:w.cell? bt=some (.string s))(c1:w.cell? bm=some (.string m))(n:Int)(c2:w.cell? ⟨5,0,none⟩=some (.int .i64 n)) :
  SeqStopsK Fence.wide 3 prog 181 #[.pointer (some bt),.pointer (some bm)] zdV (Kp2 bt bm) (fun ys=>zW ys=zq s m s.size 0) (fun j=>zW j <+: zq s m s.size 0) (zq s m s.size 0).length w:=fun l J Jx W hW hJ _ hY h0 =>
 zpY l bt bm s m hs hm J Jx (fun j W h=>hJ j W _ none h (zkc W) (fun r e=>by cases e)) hY W ((hW.cell (p:=bt) hbt).trans c0) ((hW.cell (p:=bm) hbm).trans c1) n ((hW.cell (p:=⟨5,0,none⟩) h1).trans c2) h0
theorem JV{bt bm:Nat}{A B C:World}(h:Kp2 bt bm A B)(k:Kp2 bt bm B C):Kp2 bt bm A C:=⟨k.1.trans h.1,k.2.1.trans h.2.1,k.2.2.trans h.2.2⟩
theorem XT{W:World}{l b i:Nat}{o':Obj}(h:b≠l):(W.putObj l o').cell? ⟨b,i,none⟩=W.cell? ⟨b,i,none⟩:=by
 unfold World.cell?;rw[World.putObj_heap_other h]
theorem za0{bt bm:Nat}{w:World}(hbt:bt<w.heap.size)(hbm:bm<w.heap.size)(h1:5<w.heap.size)(W:World)(l:Nat)(o o':Obj)(hl:w.heap.size<=l)(_:W.heap[l]?=some o)(_:o.isCells=false)(_:o.isWalk=false):Kp2 bt bm W (W.putObj l o') :=
 ⟨XT (by omega),XT (by omega),XT (by omega)⟩
theorem zbB{bt bm B:Nat}{W W':World}(h:Below B W W')(h1:bt<B)(h2:bm<B)(h3:5<B):Kp2 bt bm W W':=⟨h.cell (p:=bt) h1,h.cell (p:=bm) h2,h.cell (p:=⟨5,0,none⟩) h3⟩
end
section
def Blk(W:World)(b:Nat)(t:TypeId)(cs:Array Value):Prop:=W.heap[b]?=some (.cells cs t (0,0))
theorem Blk.lt{W:World}{b:Nat}{t:TypeId}{cs:Array Value}(h:Blk W b t cs):b<W.heap.size:=(zrg.1 h).1
theorem Blk.cell{W:World}{b:Nat}{t:TypeId}{cs:Array Value}(h:Blk W b t cs)(i:Nat):W.cell? ⟨b,i,none⟩=cs[i]?:=by
 simp[World.cell?,show W.heap[b]?=_ from h]
theorem Blk.frozen{W:World}{b:Nat}{t:TypeId}{cs:Array Value}(h:Blk W b t cs)(i:Nat):W.frozen? ⟨b,i,none⟩=false:=by simp[World.frozen?,show W.heap[b]?=_ from h]
theorem Blk.new(W:World)(t:TypeId)(cs:Array Value):Blk (W.alloc (.cells cs t)) W.heap.size t cs:=World.alloc_heap_new W _
theorem Blk.kept{W W':World}{row:Option Nat}{b:Nat}{t:TypeId}{cs:Array Value}(h:Blk W b t cs)(hg:W.grownBy W' row)(hne:some b≠row):Blk W' b t cs:=(hg.block b h.lt hne).trans h
theorem Blk.alloc{W:World}{b:Nat}{t:TypeId}{cs:Array Value}(h:Blk W b t cs)(o:Obj):Blk (W.alloc o) b t cs:=h.kept (World.grownBy_alloc W o none) (by simp)
theorem Blk.below{B:Nat}{W W':World}{b:Nat}{t:TypeId}{cs:Array Value}(h:Blk W b t cs)(hb:Below B W W')(hB:b<B):Blk W' b t cs:=(hb.block b hB).trans h
theorem Blk.other{W:World}{b b' i:Nat}{t:TypeId}{cs:Array Value}{v:Value}(h:Blk W b t cs)(hne:b≠b'):Blk (W.setCell ⟨b',i,none⟩ v) b t cs:=(zrF _ _ _ b hne).trans h
theorem Blk.put{W:World}{b l:Nat}{t:TypeId}{cs:Array Value}{o':Obj}(h:Blk W b t cs)(hne:b≠l):Blk (W.putObj l o') b t cs:=(World.putObj_heap_other hne).trans h
theorem Blk.set{W:World}{b i:Nat}{t:TypeId}{cs:Array Value}{v:Value}(h:Blk W b t cs):Blk (W.setCell ⟨b,i,none⟩ v) b t (cs.setIfInBounds i v):=by
 obtain⟨j,hk⟩:=zrg.1 h;show (W.heap.modify b _)[b]?=_;rw[zsI (by rw[zuy];exact j),Array.getElem_modify_self,hk];rfl
end
section
open Go.Shelf
theorem Yi{β:Type}(b:Nat)(t:TypeId)(f:β->Array Value):Own (fun s W=>Blk W b t (f s)):=by
 intro s W W' row h hg hr;refine Blk.kept h hg (fun e=>?_);obtain⟨o,ho,hc⟩:=hr b e.symm;rw[show W.heap[b]?=_ from h] at ho;cases ho;cases hc
theorem qq{W:World}{b b' i j:Nat}{v:Value}(h:b≠b'):(W.setCell ⟨b',i,none⟩ v).cell? ⟨b,j,none⟩=W.cell? ⟨b,j,none⟩:=by
 unfold World.cell?;rw[zrF _ _ _ b h]
theorem X8{bt bm b i:Nat}{W W':World}{v:Value}(h:Kp2 bt bm W W')(h1:bt≠b)(h2:bm≠b)(h3:5≠b):Kp2 bt bm W (W'.setCell ⟨b,i,none⟩ v) :=
 ⟨(qq h1).trans h.1,(qq h2).trans h.2.1,(qq h3).trans h.2.2⟩
theorem zkH{β:Type}(B N:Nat):OwnFrom B (fun (_:β) (W:World)=>N<=W.heap.size):=fun _ _ _ _ hs hg _=>zf1 hs hg.size
theorem Zi{W W':World}(h:zB W W'):KeepsOthers W W':=⟨h.size,fun k o hk _=>by rw[h.block k (zrg.1 hk).1];exact hk⟩
theorem zcf{W:World}{b:Nat}{t:TypeId}{p q r s u v x:Value}(h:Blk W b t #[p,q,r,s,u,v,x]):W.cell? b=some p/\W.frozen? b=false/\W.cell? ⟨b,1,none⟩=some q/\W.frozen? ⟨b,1,none⟩=false/\W.cell? ⟨b,2,none⟩=some r/\W.frozen? ⟨b,2,none⟩=false/\W.cell? ⟨b,3,none⟩=some s/\W.frozen? ⟨b,3,none⟩=false/\W.cell? ⟨b,4,none⟩=some u/\W.frozen? ⟨b,4,none⟩=false/\W.cell? ⟨b,5,none⟩=some v/\W.frozen? ⟨b,5,none⟩=false/\W.cell? ⟨b,6,none⟩=some x/\W.frozen? ⟨b,6,none⟩=false:=⟨h.cell 0,h.frozen 0,h.cell 1,h.frozen 1,h.cell 2,h.frozen 2,h.cell 3,h.frozen 3,h.cell 4,h.frozen 4,h.cell 5,h.frozen 5,h.cell 6,h.frozen 6⟩
end
namespace Bd
open Go.Shelf Go.Deep
attribute [local go_sem] Oper.semAt_some
theorem zlo(a:Option Addr)(n c:Nat)(w:World) :
  CallsIn Fence.wide 3 prog 150 #[.slice a n c] w fun e w'=>e=.returned (.func (.func 199) #[] #[.pointer (some w)])/\w'=w.alloc (.cells #[.slice a n c] 117):=by
 refine callsIn_of_wp func150 rfl trivial ?_ rfl;simp only[ntmps150,zrT,zrb,zrY,Nat.reduceAdd,Nat.reduceSub,zr6,zr5,zsq,zsb,zrX,zrL]
 gi_wp2
 go_ret;exact⟨by first|rfl|simp,rfl⟩
def bkF(xs:List Int):Nat->List (Nat × Int)
 |0=>[]
 |k+1=>(k,xs.getD k 0) :: bkF xs k
abbrev PQ(Q:Int->Prop):Type:={ p:Nat × Int // Q p.2 }
def ZE{Q:Int->Prop}(l:List (PQ Q)):List (Nat × Int):=l.map Subtype.val
def JT{Q:Int->Prop}(p:PQ Q):Array Value:=#[.int .i64 p.1.1,.int .i64 p.1.2]
def KpR(R:Nat->Prop)(W W':World):Prop:=∀k,R k->W'.heap[k]?=W.heap[k]?
theorem zgF{R:Nat->Prop}{W W':World}(h:KpR R W W'){p:Addr}(h1:R p.block):W'.cell? p=W.cell? p:=by
 unfold World.cell?;rw[h p.block h1]
theorem QR{R:Nat->Prop}{A C D:World}(h:KpR R A C)(k:KpR R C D):KpR R A D:=fun q h1=>(k q h1).trans (h q h1)
theorem zp2{R:Nat->Prop}{w:World}(hB:∀k,R k->k<w.heap.size)(W:World)(l:Nat)(o o':Obj)(hl:w.heap.size<=l)(_:W.heap[l]?=some o)(_:o.isCells=false)(_:o.isWalk=false):KpR R W (W.putObj l o') :=
 fun k h1=>World.putObj_heap_other (by have:=hB k h1;omega)
theorem zfO(ad:Addr)(j:Nat):(ad.add j).block=ad.block:=by unfold Addr.add;split<;>rfl
theorem zjj(l bt:Nat)(R:Nat->Prop)(Q:Int->Prop)(xs:List Int)(a:Option Addr)(c:Nat)(hl:xs.length<=1000000)(hQ:∀i,i<xs.length->Q (xs.getD i 0))(J Jx:List (PQ Q)->World->Prop)
  (hY:∀ o x W,J o W->o.length<xs.length->YieldAt Fence.wide (3 - 1) prog l (JT x) W fun e W' =>
   (e=.returned true/\J (o++[x]) W'/\KpR R W W')\/(e=.returned false/\Jx (o++[x]) W'))
  (W:World) (hR:R bt) (h0:W.cell? bt=some (.slice a xs.length c)) (hI:∀i,i<xs.length->∃ad:Addr,a=some ad/\R ad.block/\W.cell? (ad.add i)=some (.int .i64 (xs.getD i 0))) (hJ:J [] W) :
  CallsIn Fence.wide 3 prog 199 #[.func (.yield l) #[] #[],.pointer (some bt)] W fun e W'=>(∃v,e=.returned v)/\((∃ys,ZE ys=bkF xs xs.length/\J ys W')\/(∃o,ZE o <+: bkF xs xs.length/\Jx o W')):=by
 have HY:=zH hY;have HI:=zH hI;have HR:=zH hR;have HQ:=zH hQ;clear hY hI hR hQ;refine callsIn_of_wp func199 rfl trivial ?_ rfl;simp only[ntmps199,zrT,zrb,zrY,Nat.reduceAdd,Nat.reduceSub,zr6,zr5,zsq,zsb,zrX,zrL]
 gi_wp2_with fail
 gi_loopw [3] (fun p wr=>∃(o:List (PQ Q)) (k:Nat),p=.int .i64 ((k:Int)-1)/\k<=xs.length/\o.length+k=xs.length/\ZE o++bkF xs k=bkF xs xs.length/\KpR R W wr/\J o wr) (fun p _=>(intOf p+1).toNat)
 case atStart=>exact⟨[],xs.length,by go_num,zri _,by simp,rfl,fun _ _=>rfl,hJ⟩
 case round =>
  obtain⟨o,k,rfl,hk,a0,hcut,y,V⟩:=hrel;have HJ:=zH V;have HC:=zH hcut;have C:=zH y;have K:=zH a0;have d0:wr.cell? bt=some (.slice a xs.length c):=(zgF (p:=bt) y HR.out).trans h0;clear V hcut y a0
  by_cases hk0:k=0
  ·subst hk0;have hcut:=HC.out;rw[bkF,zrS] at hcut;have HX:=zH hcut;clear hcut HC
   gi_wp2
   refine zuC (ztX rfl _ _ _) rfl ?_;exact⟨⟨_,rfl⟩,.inl ⟨o,HX.out,HJ.out⟩⟩
  ·obtain⟨j,rfl⟩:∃j,k=j+1:=⟨k-1,by omega⟩;have hj:j<xs.length:=by omega
   obtain⟨ad,rfl,X,cA⟩:=HI.out j hj;have M:wr.cell? (ad.add j)=some (.int .i64 (xs.getD j 0)):=(zgF (p:=ad.add j) C.out (by rw[zfO];exact X)).trans cA;have hcut:=HC.out;rw[bkF] at hcut;have hq:=HQ.out j hj;obtain⟨x,hx⟩:∃x,xs.getD j 0=x:=⟨_,rfl⟩;rw[hx] at M hcut hq;have HX:Hid (ZE (o++[⟨(j,x),hq⟩])++bkF xs j=bkF xs xs.length):=by show _=_;rw[ZE,zrv,zrH];exact hcut
   have Y:((j+1:Nat):Int)-1=(j:Int):=by omega
   rw[Y];have a6:(0:Int)<=(j:Int):=by omega
   have a7:(j:Int)<(xs.length:Int):=by omega
   obtain⟨ab,ao,a5⟩:=ad;obtain⟨fn,a4,q,a3,hy,hR⟩:=HY.out o ⟨(j,x),hq⟩ wr HJ.out (by have:=K.out;omega);unfold JT at hy;dsimp only at hy;clear hcut hx HC cA X Y
   gi_wp2
   refine hR.mono ?_;rintro e W3 (⟨rfl,U,Z⟩|⟨rfl,u⟩)
   ·have a1:=zH U;have a2:Hid (KpR R W W3):=QR C.out Z;clear U Z d0 M hR hy
    gi_wp2
    go_roundw
    case rel=>exact⟨o++[⟨(j,x),hq⟩],j,by go_num,by omega,by have:=K.out;simp;omega,HX.out,a2.out,a1.out⟩
    case measure=>first|(simp[intOf];done)|(simp[intOf];omega)
   ·clear hR hy
    gi_wp2
    refine zc4 (ztX rfl _ _ _) rfl ?_;exact⟨⟨_,rfl⟩,.inr ⟨_,⟨_,HX.out⟩,u⟩⟩
theorem zna(bt:Nat)(R:Nat->Prop)(Q:Int->Prop)(xs:List Int)(a:Option Addr)(c:Nat)(hl:xs.length<=1000000)(hQ:∀i,i<xs.length->Q (xs.getD i 0))(w:World)(hR:R bt)(hlt:∀k,R k->k<w.heap.size)(h0:w.cell? bt=some (.slice a xs.length c))(hI:∀i,i<xs.length->∃ad:Addr,a=some ad/\R ad.block/\w.cell? (ad.add i)=some (.int .i64 (xs.getD i 0))) :
  SeqStopsK Fence.wide 3 prog 199 #[.pointer (some bt)] (JT (Q:=Q)) (KpR R) (fun ys=>ZE ys=bkF xs xs.length) (fun o=>ZE o <+: bkF xs xs.length) xs.length w:=fun l J Jx W hW _ _ hY j =>
 zjj l bt R Q xs a c hl hQ J Jx hY W hR ((hW.cell (p:=bt) (hlt _ hR)).trans h0) (fun i hi=>by
  obtain⟨ad,e,q1,q2⟩:=hI i hi;exact ⟨ad,e,q1,(hW.cell (p:=ad.add i) (by rw [zfO];exact hlt _ q1)).trans q2⟩) j
end Bd
section
open Go.Deep
theorem add_plain(b o i:Nat):(⟨b,o,none⟩:Addr).add i=⟨b,o+i,none⟩:=by
 unfold Addr.add
 by_cases h:i=0
 ·subst h;rfl
 ·rw[zc2 h]
def icells(l:List Int):List Value:=l.map (Value.int .i64)
theorem Qm(l:List Int):(icells l).length=l.length:=by simp[icells]
theorem QQ(l:List Int)(i:Nat)(h:i<l.length):(icells l)[i]?=some (.int .i64 (l.getD i 0)):=by simp[icells,List.getD_eq_getElem?_getD,h]
theorem Ze(l:List Int)(x:Int):icells (l++[x])=icells l++[.int .i64 x]:=by simp[icells]
theorem ZO:(prog.info? 3).map (fun i=>(i.zero,i.size,i.bytes))=some (some (.int .i64 0),1,8):=by kernel_rfl
theorem row_form{B n:Nat}{w:World}{v:Value}{t:TypeId}{cs:List Value}(h:w.ownsRow B t 1 v n cs):∃a c,v=.slice a n c/\n<=c/\c<=9223372036854775807:=by
 rcases h.2 with ⟨e,e0⟩|⟨g,j,o,e,-,-,h1,h2,-⟩
 ·exact⟨none,0,by rw[e,e0],by omega,by omega⟩
 ·unfold maxLen at h2;exact⟨_,_,e,h1,h2⟩
theorem Xr{B:Nat}{w:World}{a:Option Addr}{c:Nat}{l:List Int}(h:w.ownsRow B 3 1 (.slice a l.length c) l.length (icells l)):qO w a l:=by
 intro i hi;rcases h.2 with ⟨e,e0⟩|⟨g,j,o,e,hB,hg,-⟩
 ·omega
 ·injection e with e1 e2 e3;subst e1 e3;refine⟨_,rfl,(zrg.1 hg).1,?_⟩;have:=h.cellAt i (by omega);rw[add_plain,zrI,this,QQ l i hi]
theorem yI(w:World)(x:Int)(t:TypeId):∀(j:Nat) (u:Value),[Value.int .i64 x][j]?=some u->(w.alloc (.cells #[x] t)).cell? ((w.heap.size:Addr).add j)=some u:=by
 intro j u hu;cases j with
 |zero=>simp at hu;subst hu;rw[add_plain];simp
 |succ j=>simp at hu
theorem yq(x:Int):∀u∈[Value.int .i64 x],u.oneCell'=true:=by
 intro u hu;rw[zra] at hu;subst hu;rfl
theorem znT:(prog.info? 117).map (fun i=>(i.zero,i.size,i.bytes))=some (some (.slice none 0 0),1,24):=by kernel_rfl
theorem zhf{c:List Int}{j:Nat}(h:j<c.length):c.take (j+1)=c.take j++[c.getD j 0]:=by
 rw[zry h,zc0,zc5 h];rfl
theorem zc9{α:Type}{l:List α}{k:Nat}{d:α}(h:k<l.length):l.drop k=l.getD k d :: l.drop (k+1):=by
 rw[zrR h,zc0,zc5 h];rfl
theorem ownsRow_base{w:World}{base base':Nat}{e:TypeId}{size:Nat}{v:Value}{n:Nat}{xs:List Value}(h:w.ownsRow base e size v n xs)(hb:base'<=base):w.ownsRow base' e size v n xs:=by
 obtain⟨h1,h2⟩:=h;refine⟨h1,?_⟩;rcases h2 with h2|⟨g,j,o,hv,hg,r⟩
 ·exact Or.inl h2
 ·exact Or.inr ⟨g,j,o,hv,zf1 hb hg,r⟩
end
section
open Go.Deep
def QE(s:Nat × Nat):Value:=.agg #[.int .u64 s.1,.int .u64 s.2]
theorem zep{k:Nat}(hk:k<24):2^k<2^24:=zuT (by omega) hk
theorem zcK{o k:Nat}(ho:o<2^24)(hk:k<24):bits BinOp.or IntKind.u64 (o:Int) ((2:Int)^k)=((o|||2^k:Nat):Int):=by
 have h:=zep hk;have j:(2:Nat)^24<18446744073709551616:=by decide
 have e:((2:Int)^k)=((2^k:Nat):Int):=by simp
 rw[e,bits_or_u64_nat o (2^k) (by omega) (by omega)]
theorem zfs{k:Nat}(hk:k<24):IntKind.u64.wrap ((2:Int)^k)=(2:Int)^k:=by
 have h:=zep hk;have j:(2:Nat)^24<2^63:=by decide
 have e:((2:Int)^k)=((2^k:Nat):Int):=by simp
 rw[e,IntKind.wrap_u64];exact Int.emod_eq_of_lt (Int.natCast_nonneg _) (by omega)
structure SB(w wr:World)(s:Nat × Nat):Prop where
 res:Blk wr w.heap.size 304 #[.int .u64 0,.int .u64 0]
 blk:Blk wr (w.heap.size+1) 304 #[.int .u64 s.1,.int .u64 s.2]
 below:zB w wr
theorem SB.start(w:World):SB w ((w.alloc (.cells #[.int .u64 0,.int .u64 0] 304)).alloc (.cells #[.int .u64 0,.int .u64 0] 304)) (0,0):=by
 have h1:=Blk.new w 304 #[.int .u64 0,.int .u64 0];have h2:=Blk.new (w.alloc (.cells #[.int .u64 0,.int .u64 0] 304)) 304 #[.int .u64 0,.int .u64 0];rw[zc1] at h2;exact⟨h1.alloc _,h2,(below_new w _).alloc (by simp) _⟩
theorem SB.yes{w wr:World}{s:Nat × Nat}(h:SB w wr s)(m:Nat):SB w (wr.setCell ⟨w.heap.size+1,0,none⟩ (.int .u64 m)) (m,s.2) :=
 ⟨h.res.other (by omega),h.blk.set,h.below.setCell (by show w.heap.size<=w.heap.size+1;omega) _⟩
theorem SB.no{w wr:World}{s:Nat × Nat}(h:SB w wr s)(m:Nat):SB w (wr.setCell ⟨w.heap.size+1,1,none⟩ (.int .u64 m)) (s.1,m) :=
 ⟨h.res.other (by omega),h.blk.set,h.below.setCell (by show w.heap.size<=w.heap.size+1;omega) _⟩
theorem SB.drew{w wr:World}{s:Nat × Nat}(h:SB w wr s):SB w wr.drew s:=⟨h.res,h.blk,h.below.drew⟩
theorem zl0(c:List Int)(a:Option Addr)(cap:Nat)(w:World)(hI:qO w a c)(hm:c.length<=9223372036854775807) :
  zR 196 #[.slice a c.length cap] w (QE (zn c)):=by
 have HI:=zH hI;have HS:=zH (SB.start w);clear hI;go_enter func196,ntmps196;go_wp2_with fail;go_loopw [8] (fun kV wr=>∃k:Nat,k<=c.length/\kV=.int .i64 k/\SB w wr (zn (c.take k))) (fun kV _=>c.length-(intOf kV).toNat)
 case atStart=>exact⟨0,zf6 _,rfl,HS.out⟩
 case round =>
  obtain⟨k,hk,rfl,p⟩:=hrel;have j:=zH p;clear p HS
  by_cases hlt:k<c.length
  ·obtain⟨ad,rfl,hl,hc⟩:=HI.out.below j.out.below k hlt;have HN:=zH (show zn (c.take (k+1))=ZQ (zn (c.take k)) (c.getD k 0) by rw[zhf hlt,zl2]);have o:=zcC (c.take k);generalize c.getD k 0=x at *;generalize zn (c.take k)=s at *;have c0:=j.out.blk.cell 0;have c1:=j.out.blk.cell 1;have f0:=j.out.blk.frozen 0;have f1:=j.out.blk.frozen 1;simp at c0 c1
   by_cases h1:0<x/\x<=24
   ·obtain⟨t,rfl⟩:∃t:Nat,x=(t:Int)+1:=⟨x.toNat-1,by omega⟩;have ht:t<24:=by omega
    have HE:=zH (show ZQ s ((t:Int)+1)=(s.1|||2^t,s.2) by unfold ZQ;rw[zc3 h1,show ((t:Int)+1).toNat-1=t by omega]);have HO:=zH (zcK o.1 ht);have HW:=zH (zfs ht);obtain⟨q,u⟩:=h1;clear o;go_wp2_with fail;go_region;have HQ:=zH ((j.out.yes (s.1|||2^t)).drew);rw[<-HO.out,<-HW.out] at HQ;clear c0 c1 f0 f1;go_wp2;go_roundw
    case rel=>exact⟨k+1,hlt,by go_num,by rw[HN.out,HE.out];exact HQ.out⟩
    case measure=>simp[intOf];omega
   ·by_cases h2:-24<=x/\x<0
    ·obtain⟨t,rfl⟩:∃t:Nat,x=-((t:Int)+1):=⟨(-x).toNat-1,by omega⟩;have ht:t<24:=by omega
     have HE:=zH (show ZQ s (-((t:Int)+1))=(s.1,s.2|||2^t) by unfold ZQ;rw[zc2 h1,zc3 h2,show (- -((t:Int)+1)).toNat-1=t by omega]);have HO:=zH (zcK o.2 ht);have HW:=zH (zfs ht);obtain⟨y,C⟩:=h2;have h1':¬(0 < -((t:Int)+1)):=by omega
     clear o h1;go_wp2_with fail;go_region;have HQ:=zH ((j.out.no (s.2|||2^t)).drew);rw[<-HO.out,<-HW.out] at HQ;clear c0 c1 f0 f1;go_wp2;go_roundw
     case rel=>exact⟨k+1,hlt,by go_num,by rw[HN.out,HE.out];exact HQ.out⟩
     case measure=>simp[intOf];omega
    ·have HE:=zH (show ZQ s x=s by unfold ZQ;rw[zc2 h1,zc2 h2]);clear o c0 c1 f0 f1
     by_cases hp:0<x
     ·have h3:24<x:=by omega
      clear h1 h2;go_wp2;go_roundw
      case rel=>exact⟨k+1,hlt,by go_num,by rw[HN.out,HE.out];exact j.out⟩
      case measure=>simp[intOf];omega
     ·by_cases hz:x=0
      ·subst hz;clear h1 h2;go_wp2;go_roundw
       case rel=>exact⟨k+1,hlt,by go_num,by rw[HN.out,HE.out];exact j.out⟩
       case measure=>simp[intOf];omega
      ·have h3:x < -24:=by omega
       clear h1 h2;go_wp2;go_roundw
       case rel=>exact⟨k+1,hlt,by go_num,by rw[HN.out,HE.out];exact j.out⟩
       case measure=>simp[intOf];omega
  ·obtain rfl:k=c.length:=by omega
   rw[zrC] at j;have c0:=j.out.blk.cell 0;have c1:=j.out.blk.cell 1;have r0:=j.out.res.cell 0;have r1:=j.out.res.cell 1;have f0:=j.out.res.frozen 0;have f1:=j.out.res.frozen 1;simp at c0 c1 r0 r1;have HB:Hid (zB w ((wr.setCell w (.int .u64 ((zn c).1:Int))).setCell ⟨w.heap.size,1,none⟩ (.int .u64 ((zn c).2:Int)))):=(j.out.below.setCell zN _).setCell zN _;have HR:=zH ((j.out.res.set (i:=0) (v:=.int .u64 ((zn c).1:Int))).set (i:=1) (v:=.int .u64 ((zn c).2:Int)));clear j;go_wp2;have k0:=HR.out.cell 0;have k1:=HR.out.cell 1;simp at k0 k1;exact zc4 (v:=QE (zn c)) (by simp[results,results196,go_sem,k0,k1,QE]) rfl ⟨rfl,HB.out⟩
theorem zpS(s:Nat × Nat)(hs:Small s)(w:World) :
  zR 197 #[QE s] w (.bool (qI s)):=by
 have j:(2:Nat)^24<18446744073709551616:=by decide
 have HA:=zH (bits_and_u64_nat s.1 s.2 (by have:=hs.1;omega) (by have:=hs.2;omega));have HB:=zH (below_new w (.cells #[.int .u64 s.1,.int .u64 s.2] 304));have HF:Hid (((((s.1&&&s.2:Nat):Int)) != 0)=qI s):=by
  show _=_;unfold qI;rw[zrB];simp
 clear hs;unfold QE;go_enter func197,ntmps197;go_wp2;go_ret;exact⟨by rw[HA.out,HF.out];rfl,HB.out⟩
theorem za8(m t:Nat)(hm:m<18446744073709551616):(bits BinOp.and IntKind.u64 ((m:Int)/2^t) 1==1)=m.testBit t:=zaU m t hm
structure CK(w wr:World)(s:Nat × Nat)(cV:Value)(k:Nat):Prop where
 row:wr.ownsRow w 3 1 cV (yO s k).length (icells (yO s k))
 blk:Blk wr w.heap.size 304 #[.int .u64 s.1,.int .u64 s.2]
 below:zB w wr
theorem CK.skip{w wr:World}{s:Nat × Nat}{cV:Value}{k:Nat}(h:CK w wr s cV k)(hn:xm s k=none):CK w wr s cV (k+1):=by
 have e:yO s (k+1)=yO s k:=by rw[zbH,hn];simp
 exact⟨by rw[e];exact h.row,h.blk,h.below⟩
theorem CK.app{w wr wr':World}{s:Nat × Nat}{cV v':Value}{k:Nat}{x:Int}(h:CK w wr s cV k)(hn:xm s k=some x)(o:Obj)(hown:wr'.ownsRow w 3 1 v' ((yO s k).length+1) (icells (yO s k)++[.int .i64 x]))(hg:(wr.alloc o).grownBy wr' cV.ownBlock):CK w wr' s v' (k+1):=by
 have e:yO s (k+1)=yO s k++[x]:=by rw[zbH,hn];simp
 have j:cV.ownBlock≠some w.heap.size:=Lib.ownBlock_ne h.row h.blk (by decide);refine⟨by rw[e,Ze];simpa using hown,(h.blk.alloc o).kept hg (fun e=>j e.symm),?_⟩;exact(h.below.alloc h.below.size o).grown hg (by have:=h.below.size;simp;omega) (fun k hk=>(h.row.lt k hk).1)
def zgK(B:Nat)(xs:List Int)(e:Ending)(w':World):Prop:=∃a j,e=.returned (.slice a xs.length j)/\w'.ownsRow B 3 1 (.slice a xs.length j) xs.length (icells xs)
theorem zkg(s:Nat × Nat)(hs:Small s)(w:World) :
  zC 198 #[QE s] w fun e w'=>zgK w.heap.size (ql s) e w'/\zB w w':=by
 have K:(2:Nat)^24<18446744073709551616:=by decide
 have HY:Hid (∀t,(bits BinOp.and IntKind.u64 ((s.1:Int)/2^t) 1==1)=s.1.testBit t):=fun t=>za8 s.1 t (by have:=hs.1;omega);have HN:Hid (∀t,(bits BinOp.and IntKind.u64 ((s.2:Int)/2^t) 1==1)=s.2.testBit t):=fun t=>za8 s.2 t (by have:=hs.2;omega);have HS:Hid (CK w (w.alloc (.cells #[.int .u64 s.1,.int .u64 s.2] 304)) s (.slice none 0 0) 0):=⟨zrp _ _ _ _,Blk.new _ _ _,below_new w _⟩;obtain⟨i0,u,y,C,J⟩:=info_parts ZO;clear hs K;unfold QE;go_enter func198,ntmps198;go_wp2_with fail;go_loopw [3,5] (fun cV kV wr=>∃k:Nat,k<=24/\kV=.int .i64 k/\CK w wr s cV k) (fun _ kV _=>24-(intOf kV).toNat)
 case atStart=>exact⟨0,by omega,rfl,HS.out⟩
 case round =>
  obtain⟨k,hk,rfl,q⟩:=hrel;obtain⟨wo,rfl⟩:∃wo,wo=wr:=⟨_,rfl⟩;obtain⟨ca,cc,rfl,R,-⟩:=row_form q.row;have p:=zH q;have M:=zaR s k;clear q HS
  by_cases hlt:k<24
  ·have c0:=p.out.blk.cell 0;have c1:=p.out.blk.cell 1;simp at c0 c1;have U:(k:Int)<24:=by omega
   have V:=p.out.below.size;cases hy:s.1.testBit k with
   |true =>
    have hq:=HY.out k;rw[hy] at hq;have HL:=zH (show xm s k=some ((k:Int)+1) by unfold xm;rw[zc3 hy]);clear hy;go_wp2_with (first|(at_builtin;refine wpList_append_own_at _ rfl _ _ 117 rfl w.heap.size 3 i0 (.int .i64 0) 1 8 zub u y C J rfl (by decide) _ _ _ rfl (p.out.row.alloc _) wo.heap.size 1 1 [.int .i64 ((k:Int)+1)] rfl rfl ?c1 ?c2 ?c3 ?c4 ?c5 ?_))
    case c1=>exact yI _ _ _
    case c2=>exact yq _
    case c3=>unfold maxLen;omega
    case c4=>omega
    case c5=>simp;omega
    intro v7 w7 o j _ _;have HX:=zH (p.out.app HL.out _ o j);clear o j c0 c1 hq;go_wp2;go_roundw
    case rel=>exact⟨k+1,hlt,by go_num,HX.out⟩
    case measure=>simp[intOf];omega
   |false =>
    have hq:=HY.out k;rw[hy] at hq;cases hn:s.2.testBit k with
    |true =>
     have hr:=HN.out k;rw[hn] at hr;have HL:=zH (show xm s k=some (-((k:Int)+1)) by unfold xm;rw[hy,zc2 (by simp),zc3 hn]);clear hy hn;go_wp2_with (first|(at_builtin;refine wpList_append_own_at _ rfl _ _ 117 rfl w.heap.size 3 i0 (.int .i64 0) 1 8 zub u y C J rfl (by decide) _ _ _ rfl (p.out.row.alloc _) wo.heap.size 1 1 [.int .i64 (-((k:Int)+1))] rfl rfl ?c1 ?c2 ?c3 ?c4 ?c5 ?_))
     case c1=>exact yI _ _ _
     case c2=>exact yq _
     case c3=>unfold maxLen;omega
     case c4=>omega
     case c5=>simp;omega
     intro v7 w7 o j _ _;have HX:=zH (p.out.app HL.out _ o j);clear o j c0 c1 hq hr;go_wp2;go_roundw
     case rel=>exact⟨k+1,hlt,by go_num,HX.out⟩
     case measure=>simp[intOf];omega
    |false =>
     have hr:=HN.out k;rw[hn] at hr;have HX:=zH (p.out.skip (show xm s k=none by unfold xm;rw[hy,hn];simp));clear hy hn;go_wp2;go_roundw
     case rel=>exact⟨k+1,hlt,by go_num,HX.out⟩
     case measure=>simp[intOf];omega
  ·obtain rfl:k=24:=by omega
   have HR:Hid (wo.ownsRow w 3 1 (.slice ca (ql s).length cc) (ql s).length (icells (ql s))):=p.out.row;go_wp2;go_ret;exact⟨⟨ca,cc,rfl,HR.out⟩,p.out.below⟩
end
section
open Go.Deep
def Xh(c:List Int):List Int × Bool:=if qI (zn c)=true then ([],true) else (ql (zn c),false)
def zp0(B:Nat)(r:List Int × Bool)(e:Ending)(w':World):Prop:=∃a j,e=.returned (.tuple #[.slice a r.1.length j,r.2])/\w'.ownsRow B 3 1 (.slice a r.1.length j) r.1.length (icells r.1)
theorem zdJ(c:List Int)(a:Option Addr)(cap:Nat)(w:World)(hI:qO w a c)(hm:c.length<=9223372036854775807) :
  zC 149 #[.slice a c.length cap] w fun e w'=>zp0 w.heap.size (Xh c) e w'/\zB w w':=by
 have HS:=zH (zl0 c a cap w hI hm);have u:=zcC (c);have HF:Hid (Xh c=if qI (zn c)=true then ([],true) else (ql (zn c),false)):=rfl;generalize zn c=s at *;have y:Hid (∀W:World,zR 197 #[.agg #[.int .u64 s.1,.int .u64 s.2]] W (.bool (qI s))):=fun W=>zpS s u W;have J:Hid (∀W:World,zC 198 #[.agg #[.int .u64 s.1,.int .u64 s.2]] W fun e w'=>zgK W.heap.size (ql s) e w'/\zB W w'):=fun W=>zkg s u W;clear hI u;go_enter func149,ntmps149;go_wp2_with fail;refine HS.out.mono ?_;rintro e w1 ⟨rfl,K⟩;clear HS;unfold QE;have C:Hid (zB w (w1.alloc (.cells #[.int .u64 s.1,.int .u64 s.2] 304))):=zL K;have HK:=zH (Blk.new w1 304 #[.int .u64 s.1,.int .u64 s.2]);clear K;go_wp2_with fail;refine(y.out _).mono ?_;rintro e w2 ⟨rfl,p⟩;have o:Hid (zB w w2):=zT C.out p;have q:=HK.out.below p HK.out.lt;have k0:=q.cell 0;have k1:=q.cell 1;simp at k0 k1;clear p q y HK C;cases hal:qI s with
 |true =>rw[hal,zc3 rfl] at HF;clear hal;go_wp2;go_ret2;exact⟨⟨none,0,by rw[HF.out];rfl,by rw[HF.out];exact zrp _ _ _ _⟩,o.out⟩
 |false =>rw[hal,zc2 (by simp)] at HF;clear hal;go_wp2_with fail;refine(J.out _).mono ?_;rintro e w3 ⟨⟨ra,rc,rfl,j⟩,M⟩;have R:Hid (zB w w3):=zT o.out M;have HR:=zH (ownsRow_base j o.out.size);clear M j J;go_wp2;go_ret2;exact⟨⟨ra,rc,by rw[HF.out];rfl,by rw[HF.out];exact HR.out⟩,R.out⟩
end
section
open Go.Extern.Stop Go.Stop Go.Extern
namespace Errs
theorem zd7(t:Addr)(w:World):(ReflectliteValue.unpack (.iface 175 (.pointer (some t)))).run prog w
  = .ok (.agg #[.pointer (some ⟨12,175,none⟩),.pointer (some w),.int .u64 150]) (w.alloc (.cells #[.pointer (some t)] 175)):=by kernel_rfl
theorem zcN(a:Addr)(w:World):(ReflectliteValue.methodAny (ReflectliteValue.valueError "reflectlite.Value.Type" 0) (fun t _ _ _=>ReflectliteType.toType t) #[.agg #[.pointer (some ⟨12,175,none⟩),.pointer (some a),.int .u64 150]]).run prog w
  = .ok (.iface 288 (.agg #[.pointer (some ⟨12,175,none⟩)])) w:=by kernel_rfl
theorem zdh(w:World):((ReflectliteType.abiMethod fun t=>(fun a:Nat=>Value.int IntKind.u8 (a:Int)) <$> Rtype.kind t) #[.pointer (some ⟨12,175,none⟩)]).run prog w=.ok (.int .u8 22) w:=by kernel_rfl
theorem zfJ(w:World):((ReflectliteType.abiMethod fun t=>(fun a:Nat=>Value.int IntKind.u8 (a:Int)) <$> Rtype.kind t) #[.pointer (some ⟨12,53,none⟩)]).run prog w=.ok (.int .u8 2) w:=by kernel_rfl
theorem ze5(z:Sem Value)(f:TypeId->Addr->Nat->Nat->Sem Value)(v:Value)(t:TypeId)(a:Addr)(fl:Nat)(w:World)(h:(ReflectliteValue.parts v).run prog w=.ok (some (t,a,fl)) w) :
  (ReflectliteValue.method z f #[v]).run prog w=(f t a fl (fl%32)).run prog w:=by
 obtain⟨F,hF,hG⟩:∃F:Option (TypeId × Addr × Nat)->Sem Value,ReflectliteValue.method z f #[v]=(ReflectliteValue.parts v >>= F)/\∀t a fl,F (some (t,a,fl))=f t a fl (fl%32):=⟨_,rfl,fun _ _ _=>rfl⟩;rw[hF];simp only[zuG,h,Result.andThen];rw[hG]
theorem zfk(a:Addr)(w:World):(ReflectliteValue.parts (.agg #[.pointer (some ⟨12,175,none⟩),.pointer (some a),.int .u64 150])).run prog w=.ok (some (175,a,150)) w:=by kernel_rfl
theorem zgI(a p:Addr)(W:World)(ha:W.cell? a=some (.pointer (some p))) :
  (ReflectliteValue.method (ReflectliteValue.valueError "reflectlite.Value.IsNil" 0) ReflectliteValue.isNil #[.agg #[.pointer (some ⟨12,175,none⟩),.pointer (some a),.int .u64 150]]).run prog W=.ok (.bool false) W:=by
 rw[ze5 _ _ _ _ _ _ _ (zfk a W)];simp[ReflectliteValue.isNil,loadVar,isAgg,underlying,underlying175,ha,Result.andThen]
theorem zfA(w:World):(ReflectliteType.method ReflectliteType.elem #[.agg #[.pointer (some ⟨12,175,none⟩)]]).run prog w=.ok (.iface 288 (.agg #[.pointer (some ⟨12,53,none⟩)])) w:=by kernel_rfl
theorem zdB(w:World):(ReflectliteType.relation "Implements" ReflectliteType.implements_ #[.agg #[.pointer (some ⟨12,53,none⟩)],.iface 288 (.agg #[.pointer (some ⟨12,31,none⟩)])]).run prog w=.ok (.bool true) w:=by kernel_rfl
theorem zdx(v:Value)(w:World):(ReflectliteType.typeOf #[.iface 53 v]).run prog w=.ok (.iface 288 (.agg #[.pointer (some ⟨12,53,none⟩)])) w:=by kernel_rfl
theorem zcH(w:World):(ReflectliteType.relation "AssignableTo" ReflectliteType.assignableTo #[.agg #[.pointer (some ⟨12,53,none⟩)],.iface 288 (.agg #[.pointer (some ⟨12,53,none⟩)])]).run prog w=.ok (.bool true) w:=by kernel_rfl
theorem zcX(n:Int)(w:World):(ReflectliteValue.unpack (.iface 53 (.int .i64 n))).run prog w
  = .ok (.agg #[.pointer (some ⟨12,53,none⟩),.pointer (some w),.int .u64 130]) (w.alloc (.cells #[n] 53)):=by kernel_rfl
theorem zm2(w:World):(Rtype.elem? 175).run prog w=.ok (some 53) w:=by kernel_rfl
theorem mkE(p:Addr)(w:World):(ReflectliteValue.mk 53 p ReflectliteValue.flagAddr).run prog w=.ok (.agg #[.pointer (some ⟨12,53,none⟩),.pointer (some p),.int .u64 386]) w:=by kernel_rfl
theorem zdv(a p:Addr)(W:World)(ha:W.cell? a=some (.pointer (some p))) :
  (ReflectliteValue.method (ReflectliteValue.valueError "reflectlite.Value.Elem" 0) ReflectliteValue.elem #[.agg #[.pointer (some ⟨12,175,none⟩),.pointer (some a),.int .u64 150]]).run prog W
   = .ok (.agg #[.pointer (some ⟨12,53,none⟩),.pointer (some p),.int .u64 386]) W:=by
 rw[ze5 _ _ _ _ _ _ _ (zfk a W)];simp[ReflectliteValue.elem,loadVar,isAgg,underlying,underlying175,ha,Result.andThen,zm2,mkE]
theorem zpM(a:Addr)(w:World):(ReflectliteValue.parts (.agg #[.pointer (some ⟨12,53,none⟩),.pointer (some a),.int .u64 386])).run prog w=.ok (some (53,a,386)) w:=by kernel_rfl
theorem zh6(a:Addr)(w:World):(ReflectliteValue.parts (.agg #[.pointer (some ⟨12,53,none⟩),.pointer (some a),.int .u64 130])).run prog w=.ok (some (53,a,130)) w:=by kernel_rfl
theorem zow(w:World):(Rtype.directlyAssignable 53 53).run prog w=.ok true w:=by kernel_rfl
theorem zll(v x:Value):∃F:Option (TypeId × Addr × Nat)->Option (TypeId × Addr × Nat)->Sem Value,ReflectliteValue.set #[v,x]=(ReflectliteValue.parts v >>= fun p=>ReflectliteValue.parts x >>= fun q=>F p q) /\
  ∀a b,∃G:Value->Sem Value,F (some (53,a,386)) (some (53,b,130))=(loadVar 53 b >>= fun val=>Rtype.directlyAssignable 53 53 >>= fun d=>if d=true then (storeVar 53 a val >>= fun _=>pure (.tuple #[])) else G val):=⟨_,rfl,fun _ _=>⟨_,rfl⟩⟩
theorem zdm(ta b:Addr)(n:Int)(old:Value)(W:World)(hb:W.cell? b=some (.int .i64 n))(ht:W.cell? ta=some old)(hf:W.frozen? ta=false) :
  (ReflectliteValue.set #[.agg #[.pointer (some ⟨12,53,none⟩),.pointer (some ta),.int .u64 386],.agg #[.pointer (some ⟨12,53,none⟩),.pointer (some b),.int .u64 130]]).run prog W
   = .ok (.tuple #[]) (W.setCell ta (.int .i64 n)):=by
 obtain⟨F,hF,hG⟩:=zll (.agg #[.pointer (some ⟨12,53,none⟩),.pointer (some ta),.int .u64 386]) (.agg #[.pointer (some ⟨12,53,none⟩),.pointer (some b),.int .u64 130]);obtain⟨G,hG⟩:=hG ta b;rw[hF];simp only[zuG,zpM,zh6,Result.andThen];rw[hG];simp[loadVar,isAgg,underlying,underlying53,hb,Result.andThen,zow,storeVar,Value.cells,storeCells,Addr.add];rw[run_store prog W ta _ _ (by rfl)];simp[ht,hf]
end Errs
end
