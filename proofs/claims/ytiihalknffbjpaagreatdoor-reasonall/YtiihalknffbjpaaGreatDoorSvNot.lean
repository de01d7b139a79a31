/- Not. -/
import Derived.RangeFuncNested
import Derived.Shelf.RegionOpen
import Derived.OwnWalkIn
import Derived.LoopNIn
import Derived.LoopIn
import Derived.Test.YtiihalknffbjpaaGreatDoorSvPart
set_option maxHeartbeats 4000000
set_option maxRecDepth 100000
namespace Go.Proofs.YtiihalknffbjpaaGreatDoor
section
open Go.RowKit Go.Shelf
attribute [local go_sem] Oper.semAt_some
theorem Jv(s m:ByteArray)(w:World) :
  CallsIn Fence.wide 3 Tryz.prog 196 #[.string s,.string m] w fun e w'=>e=.returned (.func (.func 258) #[] #[.pointer (some ⟨w.heap.size,0,none⟩),.pointer (some ⟨w.heap.size+1,0,none⟩)])/\w'=(w.alloc (.cells #[.string s] 9)).alloc (.cells #[.string m] 9):=by
 refine callsIn_of_wp Tryz.func196 rfl trivial ?_ rfl;simp only[Tryz.ntmps196,List.size_toArray,List.length_cons,List.length_nil,Nat.reduceAdd,Nat.reduceSub,Array.replicate_succ,Array.replicate_zero,List.push_toArray,List.append_toArray,List.nil_append,List.cons_append]
 gi_wp2
 go_ret;exact⟨rfl,rfl⟩
def zk(s m:ByteArray):Nat->Nat->List (Nat × ByteArray)
 |0,k=>[(k,s.extract k s.size)]
 |f+1,k=>if Lib.index (s.extract k s.size).data.toList m.data.toList<0 then [(k,s.extract k s.size)] else (k,s.extract k (k+(Lib.index (s.extract k s.size).data.toList m.data.toList).toNat)) :: zk s m f (k+(Lib.index (s.extract k s.size).data.toList m.data.toList).toNat+m.size)
theorem QQ:∀(l sub:List UInt8),0<=Lib.index l sub->(Lib.index l sub).toNat+sub.length<=l.length:=by
 intro l
 induction l with
 |nil =>
  intro sub h;unfold Lib.index at h ⊢;cases sub with
  |nil=>simp
  |cons c t=>simp at h
 |cons b l ih =>
  intro sub h;unfold Lib.index at h ⊢
  by_cases hp:sub.isPrefixOf (b :: l)=true
  ·rw[if_pos hp];have:=(List.isPrefixOf_iff_prefix.1 hp).length_le;simpa using this
  ·rw[if_neg hp] at h ⊢
   by_cases he:Lib.index l sub=-1
   ·rw[if_pos (by simp[he])] at h;omega
   ·rw[if_neg (by simpa using he)] at h ⊢;have:=ih sub (by omega);simp only[List.length_cons];omega
theorem Y9(s m:ByteArray)(f k:Nat):0<(zk s m f k).length:=by
 cases f with
 |zero=>simp[zk]
 |succ f=>rw[zk];split<;>simp
theorem Yk{s m:ByteArray}{k:Nat}(h:Lib.index (s.extract k s.size).data.toList m.data.toList<0):∀f,zk s m f k=[(k,s.extract k s.size)]
 |0=>rfl
 |f+1=>by rw[zk,if_pos h]
theorem YO{s m:ByteArray}{k f j:Nat}(h:Lib.index (s.extract k s.size).data.toList m.data.toList=(j:Int)):zk s m (f+1) k=(k,s.extract k (k+j)) :: zk s m f (k+j+m.size):=by
 rw[zk,if_neg (by omega),h];rfl
abbrev Pc:={ x:Nat × ByteArray // x.1<=100000/\x.2.size<=100000 }
abbrev zM(l:List Pc):List (Nat × ByteArray):=l.map Subtype.val
def Kp2(bt bm:Nat)(W W':World):Prop:=W'.cell? ⟨bt,0,none⟩=W.cell? ⟨bt,0,none⟩/\W'.cell? ⟨bm,0,none⟩=W.cell? ⟨bm,0,none⟩/\W'.cell? ⟨5,0,none⟩=W.cell? ⟨5,0,none⟩
theorem zhR(l bt bm:Nat)(s m:ByteArray)(hs:s.size<=100000)(hm:0<m.size)(J Jx:List Pc->World->Prop)
  (hJd:∀pre W,J pre W->J pre W.drew)
  (hY:∀ pre x W,J pre W->pre.length<(zk s m s.size 0).length->YieldAt Fence.wide (3 - 1) Tryz.prog l #[.int .i64 x.1.1,.string x.1.2] W fun e W' =>
   (e=.returned (.bool true)/\J (pre++[x]) W'/\Kp2 bt bm W W')\/(e=.returned (.bool false)/\Jx (pre++[x]) W'))
  (W:World) (h0:W.cell? ⟨bt,0,none⟩=some (.string s)) (h1:W.cell? ⟨bm,0,none⟩=some (.string m)) (n:Int) (hn0:W.cell? ⟨5,0,none⟩=some (.int .i64 n)) (hJ:J [] W) :
  CallsIn Fence.wide 3 Tryz.prog 258 #[.func (.yield l) #[] #[],.pointer (some ⟨bt,0,none⟩),.pointer (some ⟨bm,0,none⟩)] W fun e W'=>(∃v,e=.returned v)/\((∃ys,zM ys=zk s m s.size 0/\J ys W')\/(∃pre,zM pre <+: zk s m s.size 0/\Jx pre W')):=by
 have HY:=zH hY;have HJD:=zH hJd;clear hY hJd;refine callsIn_of_wp Tryz.func258 rfl trivial ?_ rfl;simp only[Tryz.ntmps258,List.size_toArray,List.length_cons,List.length_nil,Nat.reduceAdd,Nat.reduceSub,Array.replicate_succ,Array.replicate_zero,List.push_toArray,List.append_toArray,List.nil_append,List.cons_append]
 gi_wp2
 gi_loopw [4] (fun p wr=>∃(pre:List Pc) (k f:Nat),p=.int .i64 k/\k<=s.size/\s.size<=k+f/\pre.length+f<=s.size/\zM pre++zk s m f k=zk s m s.size 0/\wr.cell? ⟨bt,0,none⟩=some (.string s)/\wr.cell? ⟨bm,0,none⟩=some (.string m)/\wr.cell? ⟨5,0,none⟩=some (.int .i64 n)/\J pre wr)
  (fun p _=>s.size+1-(intOf p).toNat)
 case atStart=>exact⟨[],0,s.size,rfl,Nat.zero_le _,by omega,by simp,rfl,h0,h1,hn0,hJ⟩
 case round =>
  obtain⟨pre,k,f,rfl,hk,hf,hpl,hcut,c0,c1,hn,hJs⟩:=hrel;have HJ:=zH hJs;have HC:=zH hcut;clear hJs hcut;have HN:=zH hn;clear hn;have hmx:Tryz.prog.follows .mixedOrders=true:=by kernel_rfl
  obtain⟨q,hq⟩:∃q:Int,Lib.index (s.extract k s.size).data.toList m.data.toList=q:=⟨_,rfl⟩;have hx:(s.extract k s.size).size=s.size-k:=by rw[ByteArray.size_extract];omega
  have HI:Hid (∀W',W'.cell? ⟨5,0,none⟩=some (.int .i64 n)->CallsIn Fence.wide 2 Tryz.prog 250 #[.string (s.extract k s.size),.string m] W' fun e w'=>e=.returned (.int .i64 q)/\w'=W'):=fun W' h=>callsIn_wide.2 (hq▸Tryz.strings_Index (s.extract k s.size) m n W' (by rw[ByteArray.size_extract];omega) h);have hn2:wr.drew.cell? ⟨5,0,none⟩=some (.int .i64 n):=HN.out;have HN2:=zH hn2;have HQ:=zH hq;have hlen:pre.length<(zk s m s.size 0).length:=by rw[<-HC.out,List.length_append,List.length_map];have:=Y9 s m f k;omega
  have HX:=zH hx;clear hn2 hq hx;have hd:1<=3-1:=by omega
  by_cases hneg:q<0
  ·obtain⟨fn,tmps,assign,body,hy,hR⟩:=HY.out pre ⟨(k,s.extract k s.size),by simp only;omega,by simp only;rw[HX.out];omega⟩ wr.drew (HJD.out _ _ HJ.out) hlen;dsimp only at hy
   gi_wp2
   gi_region_with_o (refine⟨trivial,?_⟩;gi_at_call 250;refine(HI.out _ HN2.out).mono ?_;rintro e w' ⟨rfl,rfl⟩)
   all_goals gi_wp2
   all_goals
    refine hR.mono ?_;rintro e W3 (⟨rfl,hJ3,hk3⟩|⟨rfl,hJx3⟩)
    ·gi_wp2
     refine bodyPost_ret (results_none rfl _ _ _) rfl ?_;have hc:=HC.out;rw[Yk (by rw[HQ.out];exact hneg)] at hc;exact⟨⟨_,rfl⟩,.inl ⟨_,by rw[zM,List.map_append];exact hc,hJ3⟩⟩
    ·gi_wp2
     refine bodyPost_ret (results_none rfl _ _ _) rfl ?_;have hc:=HC.out;rw[Yk (by rw[HQ.out];exact hneg)] at hc;exact⟨⟨_,rfl⟩,.inr ⟨_,⟨[],by rw[List.append_nil,zM,List.map_append];exact hc⟩,hJx3⟩⟩
  ·obtain⟨j,rfl⟩:∃j:Nat,q=(j:Int):=⟨q.toNat,by omega⟩;have hroom:=QQ (s.extract k s.size).data.toList m.data.toList (by rw[HQ.out];omega);rw[HQ.out] at hroom;have hx:=HX.out;have hxl:(s.extract k s.size).data.toList.length=s.size-k:=by rw[<-hx];simp
   have hml:m.data.toList.length=m.size:=by simp
   rw[hxl,hml] at hroom;simp only[Int.toNat_natCast] at hroom;obtain⟨f',rfl⟩:∃f',f=f'+1:=⟨f-1,by omega⟩;have hcut:=HC.out;rw[YO HQ.out,List.append_cons] at hcut;have HC2:=zH hcut;have hk1:k<=100000:=by omega
   have hx2:(s.extract k (k+j)).size<=100000:=by rw[ByteArray.size_extract];omega
   clear hx hxl hml hcut HC;obtain⟨fn,tmps,assign,body,hy,hR⟩:=HY.out pre ⟨(k,s.extract k (k+j)),hk1,hx2⟩ wr.drew (HJD.out _ _ HJ.out) hlen;dsimp only at hy;have i0:(0:Int)<=(k:Int):=by omega
   have i1:(k:Int)<=(k:Int)+(j:Int):=by omega
   have i2:(k:Int)+(j:Int)<=(s.size:Int):=by omega
   have hsl:=fun W'=>run_slice_string (P:=Tryz.prog) W' 9 s .i64 .i64 (k:Int) ((k:Int)+(j:Int)) Tryz.underlying9 i0 i1 i2;have e1:((k:Int)+(j:Int)).toNat=k+j:=by omega
   simp only[e1,Int.toNat_natCast] at hsl;clear e1
   gi_wp2
   gi_region_with_o (refine⟨trivial,?_⟩;gi_at_call 250;refine(HI.out _ HN2.out).mono ?_;rintro e w' ⟨rfl,rfl⟩)
   all_goals gi_wp2
   all_goals
    refine hR.mono ?_;rintro e W3 (⟨rfl,hJ3,hk3⟩|⟨rfl,hJx3⟩)
    ·have d0:W3.cell? ⟨bt,0,none⟩=some (.string s):=hk3.1.trans c0;have d1:W3.cell? ⟨bm,0,none⟩=some (.string m):=hk3.2.1.trans c1;have d2:Hid (W3.cell? ⟨5,0,none⟩=some (.int .i64 n)):=hk3.2.2.trans HN.out;have HJ3:=zH hJ3;clear hJ3 hk3
     gi_wp2
     go_roundw
     case rel=>exact⟨pre++[⟨(k,s.extract k (k+j)),hk1,hx2⟩],k+j+m.size,f',by go_num,by omega,by omega,by simp;omega,by rw[zM,List.map_append];exact HC2.out,d0,d1,d2.out,HJ3.out⟩
     case measure=>simp[intOf];omega
    ·gi_wp2
     refine bodyPost_ret (results_none rfl _ _ _) rfl ?_;exact⟨⟨_,rfl⟩,.inr ⟨_,⟨_,by rw[zM,List.map_append];exact HC2.out⟩,hJx3⟩⟩
theorem zjR(W:World):W.grownBy W.drew none:=⟨rfl,rfl,rfl,Nat.le_refl _,fun _ _ _=>rfl⟩
abbrev zcb(x:Pc):Array Value:=#[.int .i64 x.1.1,.string x.1.2]
theorem Kd(bt bm:Nat)(s m:ByteArray)(hs:s.size<=100000)(hm:0<m.size)(w:World)(hbt:bt<w.heap.size)(hbm:bm<w.heap.size)(h1:5<w.heap.size)(c0:w.cell? ⟨bt,0,none⟩=some (.string s))(c1:w.cell? ⟨bm,0,none⟩=some (.string m))(n:Int)(c2:w.cell? ⟨5,0,none⟩=some (.int .i64 n)) :
  SeqStopsK Fence.wide 3 Tryz.prog 258 #[.pointer (some ⟨bt,0,none⟩),.pointer (some ⟨bm,0,none⟩)] zcb (Kp2 bt bm) (fun ys=>zM ys=zk s m s.size 0) (fun pre=>zM pre <+: zk s m s.size 0) (zk s m s.size 0).length w:=fun l J Jx W hW hJ _ hY h0 =>
 zhR l bt bm s m hs hm J Jx (fun pre W h=>hJ pre W _ none h (zjR W) (fun r e=>by cases e)) hY W ((hW.cell (p:=⟨bt,0,none⟩) hbt).trans c0) ((hW.cell (p:=⟨bm,0,none⟩) hbm).trans c1) n ((hW.cell (p:=⟨5,0,none⟩) h1).trans c2) h0
theorem YM{bt bm:Nat}{A B C:World}(h:Kp2 bt bm A B)(k:Kp2 bt bm B C):Kp2 bt bm A C:=⟨k.1.trans h.1,k.2.1.trans h.2.1,k.2.2.trans h.2.2⟩
theorem QX{W:World}{l b i:Nat}{o':Obj}(h:b≠l):(W.putObj l o').cell? ⟨b,i,none⟩=W.cell? ⟨b,i,none⟩:=by
 unfold World.cell?;rw[World.putObj_heap_other h]
theorem XI{bt bm:Nat}{w:World}(hbt:bt<w.heap.size)(hbm:bm<w.heap.size)(h1:5<w.heap.size)(W:World)(l:Nat)(o o':Obj)(hl:w.heap.size<=l)(_:W.heap[l]?=some o)(_:o.isCells=false)(_:o.isWalk=false):Kp2 bt bm W (W.putObj l o') :=
 ⟨QX (by omega),QX (by omega),QX (by omega)⟩
theorem Jd{bt bm B:Nat}{W W':World}(h:Below B W W')(h1:bt<B)(h2:bm<B)(h3:5<B):Kp2 bt bm W W':=⟨h.cell (p:=⟨bt,0,none⟩) h1,h.cell (p:=⟨bm,0,none⟩) h2,h.cell (p:=⟨5,0,none⟩) h3⟩
end
section
open Go.RowKit Go.Shelf
theorem Qu{β:Type}(b:Nat)(t:TypeId)(f:β->Array Value):Own (fun s W=>Blk W b t (f s)):=by
 intro s W W' row h hg hr;refine Blk.kept h hg (fun e=>?_);obtain⟨o,ho,hc⟩:=hr b e.symm;rw[show W.heap[b]?=_ from h] at ho;cases ho;cases hc
theorem zY{W:World}{b b' i j:Nat}{v:Value}(h:b≠b'):(W.setCell ⟨b',i,none⟩ v).cell? ⟨b,j,none⟩=W.cell? ⟨b,j,none⟩:=by
 unfold World.cell?;rw[Below.heap_setCell _ _ _ b h]
theorem Q7{bt bm b i:Nat}{W W':World}{v:Value}(h:Kp2 bt bm W W')(h1:bt≠b)(h2:bm≠b)(h3:5≠b):Kp2 bt bm W (W'.setCell ⟨b,i,none⟩ v) :=
 ⟨(zY h1).trans h.1,(zY h2).trans h.2.1,(zY h3).trans h.2.2⟩
theorem zdd{β:Type}(B N:Nat):OwnFrom B (fun (_:β) (W:World)=>N<=W.heap.size):=fun _ _ _ _ hs hg _=>Nat.le_trans hs hg.size
theorem xE{W W':World}(h:zB W W'):KeepsOthers W W':=⟨h.size,fun k o hk _=>by rw[h.block k (Array.getElem?_eq_some_iff.1 hk).1];exact hk⟩
theorem zcf{W:World}{b:Nat}{t:TypeId}{p q r s u v x:Value}(h:Blk W b t #[p,q,r,s,u,v,x]):W.cell? ⟨b,0,none⟩=some p/\W.frozen? ⟨b,0,none⟩=false/\W.cell? ⟨b,1,none⟩=some q/\W.frozen? ⟨b,1,none⟩=false/\W.cell? ⟨b,2,none⟩=some r/\W.frozen? ⟨b,2,none⟩=false/\W.cell? ⟨b,3,none⟩=some s/\W.frozen? ⟨b,3,none⟩=false/\W.cell? ⟨b,4,none⟩=some u/\W.frozen? ⟨b,4,none⟩=false/\W.cell? ⟨b,5,none⟩=some v/\W.frozen? ⟨b,5,none⟩=false/\W.cell? ⟨b,6,none⟩=some x/\W.frozen? ⟨b,6,none⟩=false:=⟨h.cell 0,h.frozen 0,h.cell 1,h.frozen 1,h.cell 2,h.frozen 2,h.cell 3,h.frozen 3,h.cell 4,h.frozen 4,h.cell 5,h.frozen 5,h.cell 6,h.frozen 6⟩
end
section
open Go.RowKit Go.Shelf Sv
theorem zhm:∀(l:List UInt8) (c:UInt8),(Lib.index l [c]<0/\l.count c=0)\/∃j:Nat,Lib.index l [c]=(j:Int)/\l.count c=(l.drop (j+1)).count c+1:=by
 intro l c
 induction l with
 |nil=>exact .inl ⟨by simp[Lib.index],by simp⟩
 |cons b l ih =>
  by_cases h:c=b
  ·subst h;refine .inr ⟨0,?_,by simp⟩;unfold Lib.index;simp[List.isPrefixOf]
  ·have hp:List.isPrefixOf [c] (b :: l)=false:=by simp[List.isPrefixOf,h]
   have hcount:(b :: l).count c=l.count c:=List.count_cons_of_ne (by simpa using fun e=>h e.symm);rcases ih with ⟨h1,h2⟩|⟨j,h1,h2⟩
   ·refine .inl ⟨?_,by rw[hcount,h2]⟩;have:Lib.index l [c]=-1:=by have:=Lib.index_ge l [c];omega
    unfold Lib.index;rw[hp,this];simp
   ·refine .inr ⟨j+1,?_,by rw[hcount,h2];simp⟩;unfold Lib.index;rw[hp,h1];simp
theorem Kq(s:ByteArray)(c:UInt8):∀(f k:Nat),s.size<=k+f->k<=s.size->(zk s ⟨#[c]⟩ f k).length=(s.data.toList.drop k).count c+1:=by
 intro f
 induction f with
 |zero =>
  intro k h1 h2;obtain rfl:k=s.size:=by omega
  have:s.data.toList.drop s.size=[]:=List.drop_eq_nil_of_le (by simp);rw[this];simp[zk]
 |succ f ih =>
  intro k h1 h2;have hx:(s.extract k s.size).data.toList=s.data.toList.drop k:=Lib.extract_to_end s k;have hl:s.data.toList.length=s.size:=by simp
  rcases zhm (s.data.toList.drop k) c with ⟨h3,h4⟩|⟨j,h3,h4⟩
  ·rw[Yk (by rw[hx];exact h3),h4];rfl
  ·rw[YO (j:=j) (by rw[hx];exact h3),List.length_cons];have hr:=QQ (s.data.toList.drop k) [c] (by rw[h3];omega);rw[h3] at hr;simp only[List.length_drop,List.length_cons,List.length_nil,Int.toNat_natCast,hl] at hr;have hm:(⟨#[c]⟩:ByteArray).size=1:=rfl;rw[ih _ (by rw[hm];omega) (by rw[hm];omega),h4,hm,List.drop_drop];congr 3
def qk:List (Nat × ByteArray)->Except Int (List Nat)
 |[]=>.ok []
 |x :: r=>match q8 x.2.data.toList with
  |.error k=>.error k
  |.ok n=>match qk r with
   |.error k=>.error k
   |.ok ns=>.ok (n :: ns)
theorem Ky:∀{l:List (Nat × ByteArray)} {ns:List Nat},qk l=.ok ns->ns.length=l.length:=by
 intro l
 induction l with
 |nil=>intro ns h;cases h;rfl
 |cons x r ih =>
  intro ns h;unfold qk at h;split at h
  ·cases h
  ·split at h
   ·cases h
   ·rename_i ns' h';cases h;simp[ih h']
theorem JK{l r:List (Nat × ByteArray)}{k:Int}(h:qk l=.error k):qk (l++r)=.error k:=by
 induction l with
 |nil=>cases h
 |cons x l ih =>
  unfold qk at h;rw[List.cons_append,qk];split at h
  ·exact h
  ·split at h
   ·rename_i h'';cases h;rw[ih h'']
   ·cases h
theorem JE{l:List (Nat × ByteArray)}{ns:List Nat}(h:qk l=.ok ns)(x:Nat × ByteArray):qk (l++[x])=match q8 x.2.data.toList with
  |.error k=>.error k
  |.ok n=>.ok (ns++[n]):=by
 induction l generalizing ns with
 |nil =>cases h;rw[List.nil_append,qk];cases q8 x.2.data.toList<;>rfl
 |cons y l ih =>
  unfold qk at h;rw[List.cons_append,qk];split at h
  ·cases h
  ·split at h
   ·cases h
   ·rename_i h'';cases h;rw[ih h''];cases q8 x.2.data.toList<;>rfl
def zz(s:ByteArray):Except Int (List Nat):=if s.data.toList.count 46=2 then qk (zk s ⟨#[46]⟩ s.size 0) else .error 3
def xd(ns:List Nat):Array Value:=#[.int .i64 ((ns.getD 0 0:Nat):Int),.int .i64 ((ns.getD 1 0:Nat):Int),.int .i64 ((ns.getD 2 0:Nat):Int)]
def ZP:Except Int (List Nat)->Value
 |.ok ns=>.tuple #[.agg (xd ns),.nilIface]
 |.error k=>.tuple #[.agg #[.int .i64 0,.int .i64 0,.int .i64 0],.iface 57 (.int .i64 k)]
theorem zeU{l:List UInt8}{n:Nat}(h:q8 l=.ok n):n<=999:=by
 unfold q8 at h;split at h
 ·split at h
  ·cases h
  ·split at h
   ·cases h
   ·cases h;omega
 ·cases h
theorem zkS:∀{l:List (Nat × ByteArray)} {ns:List Nat},qk l=.ok ns->∀n∈ns,n<=999:=by
 intro l
 induction l with
 |nil=>intro ns h n hn;cases h;cases hn
 |cons x r ih =>
  intro ns h n hn;unfold qk at h;split at h
  ·cases h
  ·rename_i h0;split at h
   ·cases h
   ·rename_i ns' h';cases h;rcases List.mem_cons.1 hn with rfl|hn
    ·exact zeU h0
    ·exact ih h' n hn
theorem QE{s:ByteArray}{ns:List Nat}(h:zz s=.ok ns):ns.length=3/\∀n∈ns,n<=999:=by
 unfold zz at h;split at h
 ·rename_i hc;refine⟨?_,zkS h⟩;rw[Ky h,Kq s 46 s.size 0 (by omega) (Nat.zero_le _),List.drop_zero,hc]
 ·cases h
end
section
open Go.RowKit Go.Shelf Sv
attribute [local go_sem] Oper.semAt_some
abbrev z3:Array Value:=#[.int .i64 0,.int .i64 0,.int .i64 0]
theorem ziA{ns:List Nat}(h:ns.length<3)(n:Nat):xd (ns++[n])=(xd ns).setIfInBounds ns.length (.int .i64 n):=by
 match ns,h with
 |[],_=>rfl
 |[a],_=>rfl
 |[a,b],_=>rfl
theorem zdF(s:ByteArray)(w:World)(hs:s.size<=100000)(hw:Lb w)(hc:s.data.toList.count 46=2) :
  CallsIn Fence.wide 4 Tryz.prog 134 #[.string s] w fun e w'=>e=.returned (ZP (qk (zk s ⟨#[46]⟩ s.size 0)))/\zB w w':=by
 have HC:Hid (∀W,CallsIn Fence.wide 3 Tryz.prog 207 #[.string s,.string ⟨#[46]⟩] W fun e w'=>e=.returned (.int .i64 2)/\w'=W):=fun W=>callsIn_wide.2 (by have:=Tryz.strings_Count_one s 46 W;unfold Lib.countByte at this;rw[hc] at this;exact this);have HP:Hid (∀W,CallsIn Fence.wide 3 Tryz.prog 196 #[.string s,.string ⟨#[46]⟩] W fun e w'=>e=.returned (.func (.func 258) #[] #[.pointer (some ⟨W.heap.size,0,none⟩),.pointer (some ⟨W.heap.size+1,0,none⟩)])/\w'=(W.alloc (.cells #[.string s] 9)).alloc (.cells #[.string ⟨#[46]⟩] 9)):=fun W=>Jv s ⟨#[46]⟩ W;have hN:(zk s ⟨#[46]⟩ s.size 0).length=3:=by rw[Kq s 46 s.size 0 (by omega) (Nat.zero_le _),List.drop_zero,hc]
 have HL:=zH hw;have hbig:=hw.big;clear hc hw;refine callsIn_of_wp_marks Tryz.func134 rfl trivial ?_ rfl;simp only[Tryz.ntmps134,List.size_toArray,List.length_cons,List.length_nil,Nat.reduceAdd,Nat.reduceSub,Array.replicate_succ,Array.replicate_zero,List.push_toArray,List.append_toArray,List.nil_append,List.cons_append]
 gi_wp2_with (first
  |(refine⟨trivial,?_⟩;gi_at_call 207;refine(HC.out _).mono ?_;rintro e w' ⟨rfl,rfl⟩)
  | (refine ⟨trivial,?_⟩;gi_at_call 196;refine (HP.out _).mono ?_;rintro e w' ⟨rfl,rfl⟩))
 clear HC HP;have k0:=(((((Blk.new w 84 z3).alloc (.cells #[.nilIface] 31)).alloc (.cells z3 84)).alloc (.cells #[.int .i64 0] 3)).alloc (.cells #[.string s] 9)).alloc (.cells #[.string ⟨#[46]⟩] 9);have k1:=((((Blk.new (w.alloc (.cells z3 84)) 31 #[.nilIface]).alloc (.cells z3 84)).alloc (.cells #[.int .i64 0] 3)).alloc (.cells #[.string s] 9)).alloc (.cells #[.string ⟨#[46]⟩] 9);have k2:=(((Blk.new ((w.alloc (.cells z3 84)).alloc (.cells #[.nilIface] 31)) 84 z3).alloc (.cells #[.int .i64 0] 3)).alloc (.cells #[.string s] 9)).alloc (.cells #[.string ⟨#[46]⟩] 9);have k3:=((Blk.new (((w.alloc (.cells z3 84)).alloc (.cells #[.nilIface] 31)).alloc (.cells z3 84)) 3 #[.int .i64 0]).alloc (.cells #[.string s] 9)).alloc (.cells #[.string ⟨#[46]⟩] 9);have k4:=(Blk.new ((((w.alloc (.cells z3 84)).alloc (.cells #[.nilIface] 31)).alloc (.cells z3 84)).alloc (.cells #[.int .i64 0] 3)) 9 #[.string s]).alloc (.cells #[.string ⟨#[46]⟩] 9);have k5:=Blk.new (((((w.alloc (.cells z3 84)).alloc (.cells #[.nilIface] 31)).alloc (.cells z3 84)).alloc (.cells #[.int .i64 0] 3)).alloc (.cells #[.string s] 9)) 9 #[.string ⟨#[46]⟩];simp only[World.size_alloc] at k1 k2 k3 k4 k5;have hB0:zB w ((((((w.alloc (.cells z3 84)).alloc (.cells #[.nilIface] 31)).alloc (.cells z3 84)).alloc (.cells #[.int .i64 0] 3)).alloc (.cells #[.string s] 9)).alloc (.cells #[.string ⟨#[46]⟩] 9)):=((((((Below.refl _ w).alloc zN _).alloc (by simp only[World.size_alloc];omega) _).alloc (by simp only[World.size_alloc];omega) _).alloc (by simp only[World.size_alloc];omega) _).alloc (by simp only[World.size_alloc];omega) _).alloc (by simp only[World.size_alloc];omega) _;have hsz:((((((w.alloc (.cells z3 84)).alloc (.cells #[.nilIface] 31)).alloc (.cells z3 84)).alloc (.cells #[.int .i64 0] 3)).alloc (.cells #[.string s] 9)).alloc (.cells #[.string ⟨#[46]⟩] 9)).heap.size=w.heap.size+1+1+1+1+1+1:=by simp only[World.size_alloc]
 obtain⟨W0,hW0⟩:∃W0,(((((w.alloc (.cells z3 84)).alloc (.cells #[.nilIface] 31)).alloc (.cells z3 84)).alloc (.cells #[.int .i64 0] 3)).alloc (.cells #[.string s] 9)).alloc (.cells #[.string ⟨#[46]⟩] 9)=W0:=⟨_,rfl⟩;rw[hW0] at k0 k1 k2 k3 k4 k5 hB0 hsz ⊢;clear hW0;obtain⟨n,hn⟩:=(HL.out.below hB0).ml;have c4:_=some (Value.string s):=k4.cell 0;have c5:_=some (Value.string ⟨#[46]⟩):=k5.cell 0;refine wpIn_rangeFunc_ownF rfl (by omega) (gf:=258) (lb:=#[.pointer (some ⟨w.heap.size+1+1+1+1,0,none⟩),.pointer (some ⟨w.heap.size+1+1+1+1+1,0,none⟩)]) rfl trivial (enters_of Tryz.func258 (by kernel_rfl) rfl)
  (Kd (w.heap.size+1+1+1+1) (w.heap.size+1+1+1+1+1) s ⟨#[46]⟩ hs (by decide) W0 (by omega) (by omega) (by omega) c4 c5 n hn) YM (XI (by omega) (by omega) (by omega)) zF (fun _=>rfl)
  (fun pre W=>((Blk W w.heap.size 84 z3/\Blk W (w.heap.size+1) 31 #[.nilIface])/\(∃ns,qk (zM pre)=.ok ns/\Blk W (w.heap.size+1+1) 84 (xd ns)/\Blk W (w.heap.size+1+1+1) 3 #[.int .i64 ns.length]))/\(zB w W/\w.heap.size+1+1+1+1+1+1<=W.heap.size))
  (fun c pre W=>(c=.ret/\∃k,qk (zM pre)=.error k/\Blk W w.heap.size 84 z3/\Blk W (w.heap.size+1) 31 #[.iface 57 (.int .i64 k)])/\zB w W)
  (OwnFrom.and (Own.from (fun pre A B row hs hg hr=>⟨⟨Qu _ _ (fun _:Unit=>z3) () A B row hs.1.1 hg hr,Qu _ _ (fun _:Unit=>#[.nilIface]) () A B row hs.1.2 hg hr⟩,by
   obtain⟨ns,h1,h2,h3⟩:=hs.2;exact ⟨ns,h1,Qu _ _ (fun _:Unit=>xd ns) () A B row h2 hg hr,Qu _ _ (fun _:Unit=>#[.int .i64 ns.length]) () A B row h3 hg hr⟩⟩) _) (OwnFrom.and (ownFrom_below zN (by omega)) (zdd _ _)))
  (fun c=>OwnFrom.and (Own.from (fun pre A B row hs hg hr=>⟨hs.1,by
   obtain⟨k,h1,h2,h3⟩:=hs.2;exact ⟨k,h1,Qu _ _ (fun _:Unit=>z3) () A B row h2 hg hr,Qu _ _ (fun _:Unit=>#[.iface 57 (.int .i64 k)]) () A B row h3 hg hr⟩⟩) _) (ownFrom_below zN (by omega)))
  ⟨⟨⟨k0,k1⟩,[],rfl,k2,k3⟩,hB0,by omega⟩
  (fun x=>{ tmps:=#[.string s,undef,.pointer (some ⟨w.heap.size,0,none⟩),.pointer (some ⟨w.heap.size+1,0,none⟩),.pointer (some ⟨w.heap.size+1+1,0,none⟩),.pointer (some ⟨w.heap.size+1+1+1,0,none⟩),undef,.string x.1.2,undef,undef,.string s,.int .i64 2,.bool false,undef,undef,.string s,.func (.func 258) #[] #[.pointer (some ⟨w.heap.size+1+1+1+1,0,none⟩),.pointer (some ⟨w.heap.size+1+1+1+1+1,0,none⟩)],.int .i64 x.1.1,.string x.1.2,undef,undef,undef,undef,undef,undef,undef,undef,undef,undef,undef,undef,undef,undef,undef],defers:=[] }) ?assign ?body ?done ?stop
 case assign =>
  intro l x W K hK
  gi_wp2
  exact hK
 case body =>
  rintro l pre x W ⟨⟨⟨j0,j1⟩,ns,hns,j2,j3⟩,hB,hl6⟩ hlen;have hnl:=Ky hns;rw[List.length_map] at hnl;have hn3:ns.length<3:=by omega
  clear hnl;have HP:=zH (zeh x.1.2 W x.2.2 (HL.out.below hB));have hsn:=JE hns x.1;have HSN:Hid (qk (zM (pre++[x]))=match q8 x.1.2.data.toList with
   |.error k=>.error k
   | .ok n=>.ok (ns++[n])):=by rw [zM,List.map_append];exact hsn
  clear hsn;cases hp:q8 x.1.2.data.toList with
  |error k =>
   rw[hp] at HP HSN;have HP2:Hid (zR 208 #[.string x.1.2] W (.tuple #[.int .i64 0,.iface 57 (.int .i64 k)])):=HP.out;clear hp HP
   gi_wp2_with fail
   refine⟨trivial,?_⟩;refine(CallsIn.inRound l (callsIn_wide.2 HP2.out)).mono ?_;rintro e W' ⟨rfl,hb⟩;have m0:=j0.below hb j0.lt;have m1:=j1.below hb j1.lt;have d0:W'.cell? ⟨w.heap.size,0,none⟩=some (.int .i64 0):=m0.cell 0;have d1:W'.cell? ⟨w.heap.size,1,none⟩=some (.int .i64 0):=m0.cell 1;have d2:W'.cell? ⟨w.heap.size,2,none⟩=some (.int .i64 0):=m0.cell 2;have e0:=m0.frozen 0;have e1:=m0.frozen 1;have e2:=m0.frozen 2;have d3:W'.cell? ⟨w.heap.size+1,0,none⟩=some .nilIface:=m1.cell 0;have e3:=m1.frozen 0;have hbw:zB w W':=zT hB hb;have hko:=xE hb;have HX:Hid (KeepsOthers W ((((W'.setCell ⟨w.heap.size,0,none⟩ (.int .i64 0)).setCell ⟨w.heap.size,1,none⟩ (.int .i64 0)).setCell ⟨w.heap.size,2,none⟩ (.int .i64 0)).setCell ⟨w.heap.size+1,0,none⟩ (.iface 57 (.int .i64 k)))):=(((hko.trans (KeepsOthers.setCell _ _ _)).trans (KeepsOthers.setCell _ _ _)).trans (KeepsOthers.setCell _ _ _)).trans (KeepsOthers.setCell _ _ _);have HB1:Hid (zB w ((((W'.setCell ⟨w.heap.size,0,none⟩ (.int .i64 0)).setCell ⟨w.heap.size,1,none⟩ (.int .i64 0)).setCell ⟨w.heap.size,2,none⟩ (.int .i64 0)).setCell ⟨w.heap.size+1,0,none⟩ (.iface 57 (.int .i64 k)))):=(((hbw.setCell (p:=⟨w.heap.size,0,none⟩) zN _).setCell (p:=⟨w.heap.size,1,none⟩) zN _).setCell (p:=⟨w.heap.size,2,none⟩) zN _).setCell (p:=⟨w.heap.size+1,0,none⟩) (Nat.le_succ _) _;have HM0:Hid (Blk ((((W'.setCell ⟨w.heap.size,0,none⟩ (.int .i64 0)).setCell ⟨w.heap.size,1,none⟩ (.int .i64 0)).setCell ⟨w.heap.size,2,none⟩ (.int .i64 0)).setCell ⟨w.heap.size+1,0,none⟩ (.iface 57 (.int .i64 k))) w.heap.size 84 z3):=(((m0.set (i:=0) (v:=.int .i64 0)).set (i:=1) (v:=.int .i64 0)).set (i:=2) (v:=.int .i64 0)).other (by omega);have HM1:Hid (Blk ((((W'.setCell ⟨w.heap.size,0,none⟩ (.int .i64 0)).setCell ⟨w.heap.size,1,none⟩ (.int .i64 0)).setCell ⟨w.heap.size,2,none⟩ (.int .i64 0)).setCell ⟨w.heap.size+1,0,none⟩ (.iface 57 (.int .i64 k))) (w.heap.size+1) 31 #[.iface 57 (.int .i64 k)]):=(((m1.other (by omega)).other (by omega)).other (by omega)).set (i:=0);clear j0 j1 j2 j3 hb hB hbw hko m0 m1 HP2
   gi_wp2
   exact⟨HX.out,⟨rfl,k,HSN.out,HM0.out,HM1.out⟩,HB1.out⟩
  |ok n =>
   rw[hp] at HP HSN;have HP2:Hid (zR 208 #[.string x.1.2] W (.tuple #[.int .i64 n,.nilIface])):=HP.out;clear hp HP
   gi_wp2_with fail
   refine⟨trivial,?_⟩;refine(CallsIn.inRound l (callsIn_wide.2 HP2.out)).mono ?_;rintro e W' ⟨rfl,hb⟩;have m0:=j0.below hb j0.lt;have m1:=j1.below hb j1.lt;have m2:=j2.below hb j2.lt;have m3:=j3.below hb j3.lt;have d3:W'.cell? ⟨w.heap.size+1+1+1,0,none⟩=some (.int .i64 ns.length):=m3.cell 0;have e3:=m3.frozen 0;have g3:(W'.setCell ⟨w.heap.size+1+1,ns.length,none⟩ (.int .i64 n)).cell? ⟨w.heap.size+1+1+1,0,none⟩=some (.int .i64 ns.length):=(m3.other (by omega)).cell 0;have g4:(W'.setCell ⟨w.heap.size+1+1,ns.length,none⟩ (.int .i64 n)).frozen? ⟨w.heap.size+1+1+1,0,none⟩=false:=(m3.other (by omega)).frozen 0;obtain⟨y,hy⟩:∃y,(xd ns)[ns.length]?=some (.int .i64 y):=by
    match ns,hn3 with
    |[],_=>exact⟨_,rfl⟩
    |[a],_=>exact⟨_,rfl⟩
    |[a,b],_=>exact⟨_,rfl⟩
   have d2:W'.cell? ⟨w.heap.size+1+1,ns.length,none⟩=some (.int .i64 y):=(m2.cell ns.length).trans hy;have e2:=m2.frozen ns.length;have hbw:zB w W':=zT hB hb;have hko:=xE hb;have hxx:KeepsOthers W ((W'.setCell ⟨w.heap.size+1+1,ns.length,none⟩ (.int .i64 n)).setCell ⟨w.heap.size+1+1+1,0,none⟩ (.int .i64 ((ns.length:Int)+1))):=(hko.trans (KeepsOthers.setCell _ _ _)).trans (KeepsOthers.setCell _ _ _);have hbb:zB w ((W'.setCell ⟨w.heap.size+1+1,ns.length,none⟩ (.int .i64 n)).setCell ⟨w.heap.size+1+1+1,0,none⟩ (.int .i64 ((ns.length:Int)+1))):=(hbw.setCell (p:=⟨w.heap.size+1+1,ns.length,none⟩) (by show w.heap.size<=w.heap.size+1+1;omega) _).setCell (p:=⟨w.heap.size+1+1+1,0,none⟩) (by show w.heap.size<=w.heap.size+1+1+1;omega) _;have n0:Blk ((W'.setCell ⟨w.heap.size+1+1,ns.length,none⟩ (.int .i64 n)).setCell ⟨w.heap.size+1+1+1,0,none⟩ (.int .i64 ((ns.length:Int)+1))) w.heap.size 84 z3:=(m0.other (by omega)).other (by omega);have n1:Blk ((W'.setCell ⟨w.heap.size+1+1,ns.length,none⟩ (.int .i64 n)).setCell ⟨w.heap.size+1+1+1,0,none⟩ (.int .i64 ((ns.length:Int)+1))) (w.heap.size+1) 31 #[.nilIface]:=(m1.other (by omega)).other (by omega);have n2:Blk ((W'.setCell ⟨w.heap.size+1+1,ns.length,none⟩ (.int .i64 n)).setCell ⟨w.heap.size+1+1+1,0,none⟩ (.int .i64 ((ns.length:Int)+1))) (w.heap.size+1+1) 84 (xd (ns++[n])):=by rw[ziA hn3];exact(m2.set (i:=ns.length)).other (by omega)
   have n3:Blk ((W'.setCell ⟨w.heap.size+1+1,ns.length,none⟩ (.int .i64 n)).setCell ⟨w.heap.size+1+1+1,0,none⟩ (.int .i64 ((ns.length:Int)+1))) (w.heap.size+1+1+1) 3 #[.int .i64 (((ns++[n]).length:Nat):Int)]:=by
    have:=(m3.other (b':=w.heap.size+1+1) (i:=ns.length) (v:=.int .i64 n) (by omega)).set (i:=0) (v:=.int .i64 ((ns.length:Int)+1));rw[show (((ns++[n]).length:Nat):Int)=(ns.length:Int)+1 by simp];exact this
   have kp:Kp2 (w.heap.size+1+1+1+1) (w.heap.size+1+1+1+1+1) W ((W'.setCell ⟨w.heap.size+1+1,ns.length,none⟩ (.int .i64 n)).setCell ⟨w.heap.size+1+1+1,0,none⟩ (.int .i64 ((ns.length:Int)+1))):=by
    exact Q7 (Q7 (Jd hb (by omega) (by omega) (by omega)) (by omega) (by omega) (by omega)) (by omega) (by omega) (by omega)
   have hl7:=Nat.le_trans hl6 hxx.size;have HX1:=zH hxx;have HX2:=zH kp;have HX3:=zH n0;have HX4:=zH n1;have HX5:=zH n2;have HX6:=zH n3;have HX7:=zH hbb;have HX8:=zH hl7;clear j0 j1 j2 j3 hb hB hbw hko m0 m1 m2 m3 HP2 hns hlen hl6 hxx kp n0 n1 n2 n3 hbb hy hl7
   gi_wp2
   exact⟨HX1.out,HX2.out,⟨⟨HX3.out,HX4.out⟩,ns++[n],HSN.out,HX5.out,HX6.out⟩,HX7.out,HX8.out⟩
 case done =>
  rintro D ys W hD hys ⟨⟨⟨j0,j1⟩,ns,hns,j2,j3⟩,hB,hl6⟩ hK;rw[hys] at hns;have hn3:ns.length=3:=by rw[Ky hns,hN]
  obtain⟨a,b,c,rfl⟩:∃a b c,ns=[a,b,c]:=by
   match ns,hn3 with
   |[a,b,c],_=>exact⟨a,b,c,rfl⟩
  have HNS:=zH hns;clear hns hys;have d0:_=some (Value.int .i64 0):=j0.cell 0;have d1:_=some (Value.int .i64 0):=j0.cell 1;have d2:_=some (Value.int .i64 0):=j0.cell 2;have e0:=j0.frozen 0;have e1:=j0.frozen 1;have e2:=j0.frozen 2;have d3:_=some Value.nilIface:=j1.cell 0;have e3:=j1.frozen 0;have g0:_=some (Value.int .i64 a):=j2.cell 0;have g1:_=some (Value.int .i64 b):=j2.cell 1;have g2:_=some (Value.int .i64 c):=j2.cell 2;obtain⟨WF,hWF⟩:∃WF,(((W.setCell ⟨w.heap.size,0,none⟩ (.int .i64 a)).setCell ⟨w.heap.size,1,none⟩ (.int .i64 b)).setCell ⟨w.heap.size,2,none⟩ (.int .i64 c)).setCell ⟨w.heap.size+1,0,none⟩ .nilIface=WF:=⟨_,rfl⟩;have hWB:zB w WF:=by rw[<-hWF];exact(((hB.setCell (p:=⟨w.heap.size,0,none⟩) zN _).setCell (p:=⟨w.heap.size,1,none⟩) zN _).setCell (p:=⟨w.heap.size,2,none⟩) zN _).setCell (p:=⟨w.heap.size+1,0,none⟩) (Nat.le_succ _) _
  have hWK:WF.heap[D]?=some (.deferred (some [])):=by rw[<-hWF];exact((((KeepsOthers.setCell _ _ _).trans (KeepsOthers.setCell _ _ _)).trans (KeepsOthers.setCell _ _ _)).trans (KeepsOthers.setCell _ _ _)).same D _ hK rfl
  have p0:Blk WF w.heap.size 84 (xd [a,b,c]):=by rw[<-hWF];exact(((j0.set (i:=0) (v:=.int .i64 a)).set (i:=1) (v:=.int .i64 b)).set (i:=2) (v:=.int .i64 c)).other (by omega)
  have p1:Blk WF (w.heap.size+1) 31 #[.nilIface]:=by rw[<-hWF];exact(((j1.other (by omega)).other (by omega)).other (by omega)).set (i:=0)
  have q0:=p0.put (l:=D) (o':=.deferred none) (by omega);have q1:=p1.put (l:=D) (o':=.deferred none) (by omega);have HQ0:=zH q0;have HQ1:=zH q1;have HWB:=zH hWB;have HWK:=zH hWK;have HWF:=zH hWF;clear j0 j1 j2 j3 hK hWB hWK p0 p1 q0 q1 hB hWF
  gi_wp2
  rw[HWF.out];refine⟨by simp,.inl ⟨_,_,rfl,run_takeDeferred HWK.out,?_⟩⟩;have r0:=HQ0.out.cell 0;have r1:=HQ0.out.cell 1;have r2:=HQ0.out.cell 2;have r3:=HQ1.out.cell 0;refine⟨ZP (.ok [a,b,c]),?_,by rw[HNS.out],HWB.out.trans (belowK_b (w:=w) zN WF D _ _ (by omega) HWK.out rfl rfl)⟩;simp[results,Tryz.f134,go_sem,r0,r1,r2,r3,ZP,xd]
 case stop =>
  rintro D c pre W hD hpre ⟨⟨rfl,k,hk,j0,j1⟩,hB⟩ hK;obtain⟨rest,hrest⟩:=hpre;have hk2:=JK (r:=rest) hk;rw[hrest] at hk2;have HK2:=zH hk2;clear hk2 hk hrest;have q0:=j0.put (l:=D) (o':=.deferred none) (by omega);have q1:=j1.put (l:=D) (o':=.deferred none) (by omega);have r0:=q0.cell 0;have r1:=q0.cell 1;have r2:=q0.cell 2;have r3:=q1.cell 0
  gi_wp2
  refine⟨by simp,.inl ⟨_,_,rfl,run_takeDeferred hK,?_⟩⟩;refine⟨ZP (.error k),?_,by rw[HK2.out],hB.trans (belowK_b (w:=w) zN W D _ _ (by omega) hK rfl rfl)⟩;simp[results,Tryz.f134,go_sem,r0,r1,r2,r3,ZP]
end
section
open Go.RowKit Sv
theorem zgm{l:List zc}{k e:Nat}(hk:k<l.length)(h:e<(sp l k).1):yX e (l.drop k)=(e,(sp l k).1) :: yX (sp l k).2 (l.drop (k+1)):=by
 rw[List.drop_eq_getElem_cons hk,yX,<-Ql l k hk,if_pos h]
theorem zdj{l:List zc}{k e:Nat}(hk:k<l.length)(h:¬e<(sp l k).1):yX e (l.drop k)=yX (sp l k).2 (l.drop (k+1)):=by
 rw[List.drop_eq_getElem_cons hk,yX,<-Ql l k hk,if_neg h]
theorem zld{l:List zc}{k e:Nat}(hk:k<l.length)(h:qF e (l.drop k)):e<=(sp l k).1/\(sp l k).1<(sp l k).2/\(sp l k).2<=ALL/\qF (sp l k).2 (l.drop (k+1)):=by
 rw[List.drop_eq_getElem_cons hk,<-Ql l k hk] at h;exact⟨h.1,h.2.1,h.2.2.1,h.2.2.2.mono (Nat.le_succ _)⟩
theorem YN(l:List zc)(hl:Rg l)(v:Value)(w:World)(hv:zg w v l) :
  zC 262 #[.agg #[v]] w (Qz w (nt l)):=by
 obtain⟨i0,hin,hz0,hz1,hz2⟩:=info_parts zaz;obtain⟨a,cap,rfl⟩:=hv.form;have hlen:=Qw hl;have hnlen:=Qw (xk hl);have HL:=zH hl;have HV:=zH hv;clear hl hv;go_enter Tryz.func262,Tryz.ntmps262;go_wp2_with fail;obtain⟨W0,hW0⟩:∃W0,(w.alloc (.cells #[.slice a l.length cap] 128)).alloc (.cells #[.slice none 0 0] 128)=W0:=⟨_,rfl⟩;have hB0:zB w W0:=by rw[<-hW0];exact((Below.refl _ w).alloc zN _).alloc (by simp) _
 have hs0:W0.heap.size=w.heap.size+2:=by rw[<-hW0];simp
 have hc0:W0.cell? ⟨w.heap.size+1,0,none⟩=some (.slice none 0 0):=by rw[<-hW0];have:=Z1 (w.alloc (.cells #[.slice a l.length cap] 128)) (.slice none 0 0) 128;rw[World.size_alloc] at this;exact this
 have hf0:W0.frozen? ⟨w.heap.size+1,0,none⟩=false:=by rw[<-hW0];simp
 have HV0:Hid (zg W0 (.slice a l.length cap) l):=HV.out.below hB0 zN;have HB0:=zH hB0;have HC0:=zH hc0;have HF0:=zH hf0;rw[hW0];clear hB0 hc0 hf0 hW0 HV;go_loopw [3,4,10] (fun gV eV kV wr=>∃(k e:Nat) (acc:List zc),k<=l.length/\kV=.int .i64 k/\eV=.int .i64 e/\e<=ALL/\qF e (l.drop k)/\acc++yX e (l.drop k)=nt l/\wr.ownsRow (w.heap.size+2) 402 2 gV acc.length (qK acc)/\Below (w.heap.size+2) W0 wr) (fun _ _ kV _=>l.length-(intOf kV).toNat)
 case atStart=>exact⟨0,0,[],Nat.zero_le _,rfl,rfl,Nat.zero_le _,HL.out,rfl,World.ownsRow_nil _ _ _ _,Below.refl _ _⟩
 case round =>
  obtain⟨k,e,acc,hk,rfl,rfl,he,hcan,hres,hrow,hbr⟩:=hrel;obtain⟨ra,rc,rfl⟩:=XP hrow;have hal:acc.length<=(nt l).length:=by rw[<-hres];simp
  have hws:=hbr.size;rw[hs0] at hws;have HROW:=zH hrow;have HBR:=zH hbr;have HC:=zH hcan;have HR:=zH hres;clear hrow hbr hcan hres
  by_cases hlt:k<l.length
  ·obtain⟨g,cap',e1,hg,c0,c1⟩:=(HV0.out.below HBR.out (Nat.le_of_eq hs0)).cells k hlt;simp at e1;obtain⟨rfl,rfl⟩:=e1;obtain⟨d1,d2,d3,d4⟩:=zld hlt HC.out;have HD:=zH d4;clear d4
   by_cases hgap:e<(sp l k).1
   ·have hres:=HR.out;rw[zgm hlt hgap,List.append_cons] at hres;have hal2:(acc++[(e,(sp l k).1)]).length<=(nt l).length:=by rw[<-hres];simp
    simp at hal2;have HRS:=zH hres;clear hres HR;generalize (sp l k).1=A at *;generalize (sp l k).2=T at *;go_wp2_with (at_builtin;refine wpList_append_own_at _ rfl _ _ 126 rfl (w.heap.size+2) 402 i0 (.agg #[.int .i64 0,.int .i64 0]) 2 16 Tryz.underlying126 hin hz0 hz1 hz2 rfl (by decide) _ _ _ rfl ((HROW.out.alloc _).alloc _) ⟨wr.heap.size+1,0,none⟩ 1 1 [.int .i64 e,.int .i64 A] rfl rfl ?c1 ?c2 ?c3 ?c4 ?c5 ?_)
    case c1=>have:=YH (wr.alloc (.cells #[.int .i64 A,.int .i64 T] 402)) (.int .i64 e) (.int .i64 A) 402;rw[World.size_alloc] at this;exact this
    case c2=>intro u hu;simp at hu;rcases hu with rfl|rfl<;>rfl
    case c3=>unfold maxLen;omega
    case c4=>omega
    case c5=>show (w.heap.size+2)<=(World.alloc _ _).heap.size;simp;omega
    intro v7 w7 hown7 hgrow7 _ hloc7;have hb7:Below (w.heap.size+2) W0 w7:=(((HBR.out.alloc hws _).alloc (by simp;omega) _).grown hgrow7 (by simp;omega) (fun k hk=>(HROW.out.lt k hk).1));have ct:w7.cell? ⟨wr.heap.size,1,none⟩=some (.int .i64 T):=by
     rw[Zq hgrow7 (by simp;omega) (YE HROW.out zN)];have:=(Xy wr (.int .i64 A) (.int .i64 T) 402).2;have b1:=((Below.refl _ (wr.alloc (.cells #[.int .i64 A,.int .i64 T] 402))).alloc zN (.cells #[.int .i64 e,.int .i64 A] 402)).cell (p:=⟨wr.heap.size,1,none⟩) (by simp);exact b1.trans this
    have e7:(acc++[(e,A)]).length=acc.length+1:=by simp
    have es:qK (acc++[(e,A)])=qK acc++[.int .i64 e,.int .i64 A]:=by rw[Xu];rfl
    rw[<-es,<-e7] at hown7;have HO7:=zH hown7;have HB7:=zH hb7;clear hown7 hgrow7 hloc7 hb7 e7 es;go_wp2;go_roundw
    case rel=>exact⟨k+1,T,acc++[(e,A)],by omega,rfl,rfl,d3,HD.out,HRS.out,HO7.out,HB7.out⟩
    case measure=>simp[intOf];omega
   ·have hres:=HR.out;rw[zdj hlt hgap] at hres;have HRS:=zH hres;clear hres HR;generalize (sp l k).1=A at *;generalize (sp l k).2=T at *;go_wp2;go_roundw
    case rel=>exact⟨k+1,T,acc,by omega,rfl,rfl,d3,HD.out,HRS.out,HROW.out.alloc _,HBR.out.alloc hws _⟩
    case measure=>simp[intOf];omega
  ·obtain rfl:k=l.length:=by omega
   have hres:=HR.out;rw[List.drop_length,yX] at hres;have hc1:=(HBR.out.cell (p:=⟨w.heap.size+1,0,none⟩) (by show w.heap.size+1<_;omega)).trans HC0.out;have hf1:=(HBR.out.frozen (p:=⟨w.heap.size+1,0,none⟩) (by show w.heap.size+1<_;omega)).trans HF0.out
   by_cases hend:e<ALL
   ·rw[if_pos hend] at hres;have hal2:(acc++[(e,ALL)]).length<=(nt l).length:=by rw[<-hres];simp
    simp at hal2;have HRS:=zH hres;have hend':(e:Int)<1000000000:=by unfold ALL at hend;omega
    clear hres HR;go_wp2_with (at_builtin;refine wpList_append_own_at _ rfl _ _ 126 rfl (w.heap.size+2) 402 i0 (.agg #[.int .i64 0,.int .i64 0]) 2 16 Tryz.underlying126 hin hz0 hz1 hz2 rfl (by decide) _ _ _ rfl (HROW.out.alloc _) ⟨wr.heap.size,0,none⟩ 1 1 [.int .i64 e,.int .i64 1000000000] rfl rfl (YH _ _ _ _) ?c2 ?c3 ?c4 ?c5 ?_)
    case c2=>intro u hu;simp at hu;rcases hu with rfl|rfl<;>rfl
    case c3=>unfold maxLen;omega
    case c4=>omega
    case c5=>show (w.heap.size+2)<=(World.alloc _ _).heap.size;simp;omega
    intro v7 w7 hown7 hgrow7 _ hloc7;have hb7:Below (w.heap.size+2) W0 w7:=((HBR.out.alloc hws _).grown hgrow7 (by simp;omega) (fun k hk=>(HROW.out.lt k hk).1));have hc7:=(hb7.cell (p:=⟨w.heap.size+1,0,none⟩) (by show w.heap.size+1<_;omega)).trans HC0.out;have hf7:=(hb7.frozen (p:=⟨w.heap.size+1,0,none⟩) (by show w.heap.size+1<_;omega)).trans HF0.out;have e7:(acc++[(e,ALL)]).length=acc.length+1:=by simp
    have es:qK (acc++[(e,ALL)])=qK acc++[.int .i64 e,.int .i64 1000000000]:=by rw[Xu];rfl
    rw[<-es,<-e7,HRS.out] at hown7;have hS7:=Q9 hown7;obtain⟨va,vc,rfl⟩:=XP hown7;have hw7:zB w (w7.setCell ⟨w.heap.size+1,0,none⟩ (.slice va (nt l).length vc)):=(HB0.out.trans (hb7.mono (Nat.le_add_right _ 2))).setCell (p:=⟨w.heap.size+1,0,none⟩) (by show w.heap.size<=w.heap.size+1;omega) _;have hown8:(w7.setCell ⟨w.heap.size+1,0,none⟩ (.slice va (nt l).length vc)).ownsRow (w.heap.size+2) 402 2 (.slice va (nt l).length vc) (nt l).length (qK (nt l)):=by
     have hbl:Below (w.heap.size+2) w7 w7:=Below.refl _ _;exact YX hown7 (by omega)
    have hS8:=Q9 hown8;have HS8:=zH hS8;have HG8:Hid (∀g,(Value.slice va (nt l).length vc).ownBlock=some g->w.heap.size<=g):=fun g hg=>by have:=(hown8.lt g hg).1;omega
    have HW7:=zH hw7;clear hown7 hgrow7 hloc7 hb7 e7 es hS7 hown8 hS8 hw7 hc1 hf1;go_wp2;have hr8:(w7.setCell ⟨w.heap.size+1,0,none⟩ (.slice va (nt l).length vc)).cell? ⟨w.heap.size+1,0,none⟩=some (.slice va (nt l).length vc):=World.cell?_setCell_same' _ _ _ (by rw[hc7];rfl);refine bodyPost_ret (v:=.agg #[.slice va (nt l).length vc]) (by simp[results,Tryz.results262,go_sem,hr8]) rfl ?_;exact⟨_,rfl,HS8.out,HG8.out,HW7.out⟩
   ·rw[if_neg hend,List.append_nil] at hres;have hend':¬(e:Int)<1000000000:=by unfold ALL at hend;omega
    have hrow:=HROW.out;have hown8:(wr.setCell ⟨w.heap.size+1,0,none⟩ (.slice ra acc.length rc)).ownsRow (w.heap.size+2) 402 2 (.slice ra acc.length rc) acc.length (qK acc):=YX hrow (by omega);have HG8:Hid (∀g,(Value.slice ra acc.length rc).ownBlock=some g->w.heap.size<=g):=fun g hg=>by have:=(hown8.lt g hg).1;omega
    have HS8:Hid (zg (wr.setCell ⟨w.heap.size+1,0,none⟩ (.slice ra acc.length rc)) (.slice ra acc.length rc) (nt l)):=hres▸Q9 hown8;have HW7:=zH ((HB0.out.trans (HBR.out.mono (Nat.le_add_right _ 2))).setCell (p:=⟨w.heap.size+1,0,none⟩) (by show w.heap.size<=w.heap.size+1;omega) (.slice ra acc.length rc));have hr8:(wr.setCell ⟨w.heap.size+1,0,none⟩ (.slice ra acc.length rc)).cell? ⟨w.heap.size+1,0,none⟩=some (.slice ra acc.length rc):=World.cell?_setCell_same' _ _ _ (by rw[hc1];rfl);have HR8:=zH hr8;clear hrow hown8 hr8 hres;go_wp2;have hr8:=HR8.out;refine bodyPost_ret (v:=.agg #[.slice ra acc.length rc]) (by simp[results,Tryz.results262,go_sem,hr8]) rfl ?_;exact⟨_,rfl,HS8.out,HG8.out,HW7.out⟩
end
end Go.Proofs.YtiihalknffbjpaaGreatDoor
