/- plan, plain: the reference's Order is the program's. -/
import Derived.Shelf.SlicesG.Delete
import Derived.Test.YtlamemjfaogjmaaGreatDoorPlNeeded
import Derived.Lib.OwnBridge
open Go.Proofs.YtlamemjfaogjmaaGreatDoor
namespace Go.Proofs
open Go.Shelf
def Tryz.delInt_ren:Go.Shelf.Ren:=⟨fun|45=>26|n=>n,fun|22=>27|23=>3|3=>3|4=>4|0=>0|n=>n,fun|n=>n⟩
theorem Tryz.delInt:Go.Proofs.SlLaysN.n45 Tryz.prog Tryz.delInt_ren:={
 mixed:=by kernel_rfl
 f45:=⟨Tryz.f26.name,by decide,zK Tryz.func26 (by kernel_rfl)⟩
 t0:=Tryz.underlying0
 a0:=Tryz.isAgg0
 z0:=Tryz.sizeOf0
 v0:=Tryz.zeroValue0
 t3:=Tryz.underlying3
 a3:=Tryz.isAgg3
 z3:=Tryz.sizeOf3
 v3:=Tryz.zeroValue3
 t4:=Tryz.underlying4
 a4:=Tryz.isAgg4
 z4:=Tryz.sizeOf4
 v4:=Tryz.zeroValue4
 t22:=Tryz.underlying27
 a22:=Tryz.isAgg27
 z22:=Tryz.sizeOf27
 v22:=Tryz.zeroValue27
 t23:=Tryz.underlying3
 a23:=Tryz.isAgg3
 z23:=Tryz.sizeOf3
 v23:=Tryz.zeroValue3
 i23:=by kernel_rfl }
end Go.Proofs
namespace Go.Proofs.YtlamemjfaogjmaaGreatDoor
section
open Go.RowKit Go.Deep Sv
def YW(w:World)(a:Option Addr)(bs:List Bool):Prop:=∀i,i<bs.length->∃ad:Addr,a=some ad/\ad.block<w.heap.size/\w.cell? (ad.add i)=some (.bool (bs.getD i false))
theorem YW.below{B:Nat}{w w':World}{a:Option Addr}{bs:List Bool}(h:YW w a bs)(hb:Below B w w')(hB:w.heap.size<=B):YW w' a bs:=fun i hi=>by
 obtain⟨ad,h1,h2,h3⟩:=h i hi;exact⟨ad,h1,Nat.lt_of_lt_of_le h2 hb.size,(hb.cell (p:=ad.add i) (by rw[Zq];omega)).trans h3⟩
end
section
open Go.RowKit Go.Deep Sv
def Ym:Option (List Nat)->Except Int (List Nat)
 |none=>.error 11
 |some l=>.ok l
noncomputable def zl(its:List It)(ls:List Ln)(set:Nat):Except Int (List Nat) :=
 if (zm its ls set).1=false then .error 13 else Ym (Zc its ls set)
def Yv(w:World)(r:Except Int (List Nat))(e:Ending)(w':World):Prop :=
 match r with
 |.error k=>e=.returned (.tuple #[.slice none 0 0,.iface 28 (.int .i64 k)])/\zB w w'
 |.ok l=>∃v,e=.returned (.tuple #[v,.nilIface])/\w'.ownsRow w.heap.size 3 1 v l.length (zn (zq l))/\zB w w'
theorem zgv(p:Nat->Bool)(l:List Nat):yR (fun x:Int=>p x.toNat) (zq l)=yR p l:=by
 unfold yR zq;rw[List.findIdx?_map];have:((fun x:Int=>p x.toNat) ∘ fun n:Nat=>(n:Int))=p:=by funext n;simp
 rw[this]
theorem J6(nd:List Nat)(f:Nat)(left:Nat)(out:List Nat):qH nd f [] left out=some out:=by
 cases f<;>simp[qH]
theorem KJ{nd wait:List Nat}{left:Nat}{out:List Nat}(h:wait≠[])(hi:wait.findIdx? (fun i=>decide (nd.getD i 0&&&left=0))=none):qH nd wait.length wait left out=none:=by
 cases wait with
 |nil=>exact absurd rfl h
 |cons a l =>rw[List.length_cons,qH,if_neg h,hi]
theorem zaG{nd wait:List Nat}{left:Nat}{out:List Nat}{j:Nat}(hi:wait.findIdx? (fun i=>decide (nd.getD i 0&&&left=0))=some j):qH nd wait.length wait left out=qH nd (wait.eraseIdx j).length (wait.eraseIdx j) (left&&&(18446744073709551615-2^wait.getD j 0)) (out++[wait.getD j 0]):=by
 have hj:=(List.findIdx?_eq_some_iff_findIdx_eq.1 hi).1;cases wait with
 |nil=>simp at hj
 |cons a l =>rw[List.length_eraseIdx_of_lt hj];simp only[List.length_cons,Nat.add_sub_cancel];rw[qH,if_neg (by simp),hi]
theorem zfy(l:List Nat)(j:Nat):zq (l.eraseIdx j)=(zq l).eraseIdx j:=by
 unfold zq;rw[List.eraseIdx_eq_take_drop_succ,List.eraseIdx_eq_take_drop_succ,List.map_append,List.map_take,List.map_drop]
theorem ze7(W:World)(b i:Nat)(v:Value):W.grownBy (W.setCell ⟨b,i,none⟩ v) (some b) :=
 ⟨rfl,rfl,rfl,by simp,fun k _ hne=>Below.heap_setCell _ _ _ k (fun e=>hne (by rw[e]))⟩
theorem zbH(c:List Int)(i g cap B:Nat)(w:World)(hv:w.ownsRow B 3 1 (.slice (some ⟨g,0,none⟩) c.length cap) c.length (zn c))(hi:i<c.length) :
  zC 26 #[.slice (some ⟨g,0,none⟩) c.length cap,.int .i64 i,.int .i64 ((i+1:Nat):Int)] w fun e w'=>e=.returned (.slice (some ⟨g,0,none⟩) (c.eraseIdx i).length cap)/\w'.ownsRow B 3 1 (.slice (some ⟨g,0,none⟩) (c.eraseIdx i).length cap) (c.eraseIdx i).length (zn (c.eraseIdx i))/\w.grownBy w' (some g):=by
 have hv':w.ownsRow B 3 1 (.slice (some ⟨g,0,none⟩) c.length cap) c.length (c.map (Value.int .i64)):=hv;obtain⟨g',cap',e,hb,hlt,hn,hm,hl',hH⟩:=Lib.holds_of_ownsRow hv' (fun e=>by cases e);cases e;refine(AnyG.slices_Delete_int Tryz.delInt g 0 cap i (i+1) c w hH hn (by unfold maxLen at hm;omega) (by omega) (by omega)).mono ?_;rintro e w' ⟨rfl,q,rfl⟩;have e1:i+1-i=1:=by omega
 rw[e1];have e2:(c.take i++c.drop (i+1)++List.replicate 1 0).take (c.length-1)=c.eraseIdx i:=by
  rw[List.eraseIdx_eq_take_drop_succ,List.take_append_of_le_length (by simp;omega),List.take_of_length_le (by simp;omega)]
 have hlen:(c.eraseIdx i).length=c.length-1:=List.length_eraseIdx_of_lt hi;have h:=Lib.ownsRow_putRow (q:=q) (k:=c.length-1) (ys:=c.take i++c.drop (i+1)++List.replicate 1 0) hv' (by simp;omega) (by omega);rw[e2] at h;rw[hlen];refine⟨rfl,h,⟨rfl,rfl,rfl,by simp[Sort.putRow,Sort.mapBlock,Sort.ahead],fun k _ hne=>?_⟩⟩;have hne':g≠k:=fun e=>hne (by rw[e]);simp[Sort.putRow,Sort.mapBlock,Sort.ahead,Array.getElem?_modify,hne']
structure yn(w W:World)(g Bw b8 b10 n:Nat)(nd wait out:List Nat)(left:Nat)(wv ov:Value):Prop where
 p8:Blk W b8 67 #[.slice (some ⟨g,0,none⟩) n n]
 p10:Blk W b10 22 #[.int .u64 left]
 nd:NdB W g nd
 wait:W.ownsRow Bw 3 1 wv wait.length (zn (zq wait))
 wlt:∀k,wv.ownBlock=some k->k<b8
 out:W.ownsRow (b10+1) 3 1 ov out.length (zn (zq out))
 B:zB w W
 h1:w.heap.size<=g
 h2:g<Bw
 h3:Bw<=b8
 h4:b8<b10
section
variable {w W W':World} {g Bw b8 b10 n left:Nat} {nd wait out:List Nat} {wv ov:Value}
theorem yn.new(h:yn w W g Bw b8 b10 n nd wait out left wv ov)(hb:zB W W'):yn w W' g Bw b8 b10 n nd wait out left wv ov :=
 ⟨h.p8.below hb h.p8.lt,h.p10.below hb h.p10.lt,h.nd.below hb,qK h.wait hb,h.wlt,qK h.out hb,zT h.B hb,h.h1,h.h2,h.h3,h.h4⟩
theorem NdB.kept{row:Option Nat}(h:NdB W g nd)(hg:W.grownBy W' row)(hne:some g≠row):NdB W' g nd:=by
 obtain⟨cur,h1,h2⟩:=h;exact⟨cur,h1.kept hg hne,h2⟩
theorem yn.app(h:yn w W g Bw b8 b10 n nd wait out left wv ov){x:Nat}{w7:World}{v7:Value}(hown:w7.ownsRow (b10+1) 3 1 v7 (out.length+1) (zn (zq out)++[.int .i64 x]))(hgr:(W.alloc (.cells #[.int .i64 x] 3)).grownBy w7 ov.ownBlock) :
  yn w w7 g Bw b8 b10 n nd wait (out++[x]) left wv v7:=by
 have h':=h.new (qE W (.cells #[.int .i64 x] 3));have ho:∀k,k<=b10->some k≠ov.ownBlock:=fun k hk e=>by have:=(h.out.lt k e.symm).1;omega
 have hh:=h.h3;have hh4:=h.h4;have hh2:=h.h2;have hh1:=h.h1;refine⟨h'.p8.kept hgr (ho _ (by omega)),h'.p10.kept hgr (ho _ (by omega)),h'.nd.kept hgr (ho _ (by omega)),h'.wait.kept hgr ?_,h.wlt,?_,h'.B.grown hgr (by have:=h'.B.size;omega) (fun k hk=>by have:=(h.out.lt k hk).1;omega),h.h1,h.h2,h.h3,h.h4⟩
 ·cases hw:wv.ownBlock with
  |none=>exact Or.inl rfl
  |some k=>exact Or.inr (ho k (by have:=h.wlt k hw;omega))
 ·rw[Yy,xm,List.length_append];exact hown
theorem yn.store(h:yn w W g Bw b8 b10 n nd wait out left wv ov)(l2:Nat):yn w (W.setCell ⟨b10,0,none⟩ (.int .u64 l2)) g Bw b8 b10 n nd wait out l2 wv ov:=by
 have hgr:=ze7 W b10 0 (.int .u64 l2);have hh:=h.h3;have hh4:=h.h4;have hh2:=h.h2;have hh1:=h.h1;refine⟨h.p8.kept hgr (fun e=>by cases e;omega),?_,h.nd.kept hgr (fun e=>by cases e;omega),h.wait.kept hgr ?_,h.wlt,xj h.out (Nat.lt_succ_self _),h.B.setCell (p:=⟨b10,0,none⟩) (show w.heap.size<=b10 by omega) _,h.h1,h.h2,h.h3,h.h4⟩
 ·exact h.p10.set (i:=0)
 ·cases hw:wv.ownBlock with
  |none=>exact Or.inl rfl
  |some k=>exact Or.inr (fun e=>by have:=h.wlt k hw;cases e;omega)
theorem yn.del{gw cap cap2 j:Nat}{w2:List Nat}(h:yn w W g Bw b8 b10 n nd wait out left (.slice (some ⟨gw,0,none⟩) j cap) ov)(hown:W'.ownsRow Bw 3 1 (.slice (some ⟨gw,0,none⟩) w2.length cap2) w2.length (zn (zq w2)))(hgr:W.grownBy W' (some gw)) :
  yn w W' g Bw b8 b10 n nd w2 out left (.slice (some ⟨gw,0,none⟩) w2.length cap2) ov:=by
 have hw:=h.wlt gw rfl;have hw2:=(h.wait.lt gw rfl).1;have hh:=h.h3;have hh4:=h.h4;have hh2:=h.h2;have hh1:=h.h1;refine⟨h.p8.kept hgr (fun e=>by cases e;omega),h.p10.kept hgr (fun e=>by cases e;omega),h.nd.kept hgr (fun e=>by cases e;omega),hown,fun k hk=>by cases hk;exact hw,h.out.kept hgr ?_,h.B.grown hgr (by have:=h.B.size;omega) (fun k hk=>by cases hk;omega),h.h1,h.h2,h.h3,h.h4⟩;cases ho:ov.ownBlock with
 |none=>exact Or.inl rfl
 |some k=>exact Or.inr (fun e=>by have:=(h.out.lt k ho).1;cases e;omega)
end
end
section
open Sv
theorem QO(k i:Nat)(hk:k<64)(hi:i<64):(18446744073709551615-2^k).testBit i=decide (i≠k):=by
 have h:=xu k hk;have e:18446744073709551615-2^k=2^64-(2^k+1):=by omega
 rw[e,Nat.testBit_two_pow_sub_succ h,Nat.testBit_two_pow,decide_eq_true hi,Bool.true_and,<-decide_not];congr 1;exact propext ⟨fun h e=>h e.symm,fun h e=>h e.symm⟩
theorem Qb{l:List Nat}(hn:l.Nodup){j:Nat}(hj:j<l.length)(i:Nat):i∈l.eraseIdx j↔i∈l/\i≠l.getD j 0:=by
 have e:l.getD j 0=l[j]:=by rw[List.getD_eq_getElem?_getD,List.getElem?_eq_getElem hj];rfl
 rw[List.mem_eraseIdx_iff_getElem,e];constructor
 ·rintro⟨k,hk,hne,rfl⟩;refine⟨List.getElem_mem hk,fun h=>hne ?_⟩;apply Classical.byContradiction;intro hkj;rcases Nat.lt_or_gt_of_ne hkj with hlt|hgt
  ·exact(List.pairwise_iff_getElem.1 hn) k j hk hj hlt h
  ·exact(List.pairwise_iff_getElem.1 hn) j k hj hk hgt h.symm
 ·rintro⟨hm,hne⟩;obtain⟨k,hk,rfl⟩:=List.getElem_of_mem hm;exact⟨k,hk,fun h=>hne (by subst h;rfl),rfl⟩
theorem za2{l:List Nat}{j:Nat}(hj:j<l.length):l.Perm (l.getD j 0 :: l.eraseIdx j):=by
 have e:l.getD j 0=l[j]:=by rw[List.getD_eq_getElem?_getD,List.getElem?_eq_getElem hj];rfl
 have h1:l.take j++l[j] :: l.drop (j+1)=l:=by rw[<-List.drop_eq_getElem_cons hj,List.take_append_drop]
 rw[e,List.eraseIdx_eq_take_drop_succ];have h2:=List.perm_middle (a:=l[j]) (l₁:=l.take j) (l₂:=l.drop (j+1));rw[h1] at h2;exact h2
theorem Kk(nd:List Nat):∀(f:Nat) (wait:List Nat) (left:Nat) (out R:List Nat),wait.length=f->wait.Nodup->(∀i∈wait,i<64)->(∀i,left.testBit i=decide (i∈wait))->qH nd f wait left out=some R ->
  ∃t,R=out++t/\t.Perm wait/\∀k,k<t.length->∀m∈wait,(nd.getD (t.getD k 0) 0).testBit m=true->m∈t.take k
 |0,wait,left,out,R,hf,_,_,_,h=>by
  cases h;obtain rfl:=List.length_eq_zero_iff.1 hf;exact⟨[],by simp,List.Perm.refl _,fun k hk=>by simp at hk⟩
 |f+1,wait,left,out,R,hf,hn,h64,hb,h=>by
  rw[qH] at h;split at h
  ·rename_i e;subst e;cases hf
  ·split at h
   ·cases h
   ·rename_i j hj;have hjl:=(List.findIdx?_eq_some_iff_findIdx_eq.1 hj).1;have hrdy:nd.getD (wait.getD j 0) 0&&&left=0:=by
     obtain⟨h1,h2,_⟩:=List.findIdx?_eq_some_iff_getElem.1 hj;have e:wait.getD j 0=wait[j]:=by rw[List.getD_eq_getElem?_getD,List.getElem?_eq_getElem hjl];rfl
     rw[e];exact of_decide_eq_true h2
    have hx64:=h64 _ (yw wait j hjl);have hlen:(wait.eraseIdx j).length=f:=by rw[List.length_eraseIdx_of_lt hjl];omega
    obtain ⟨t,rfl,hp,ht⟩:=Kk nd f (wait.eraseIdx j) _ _ R hlen (hn.sublist (List.eraseIdx_sublist _ _)) (fun i hi=>h64 i (List.mem_of_mem_eraseIdx hi)) (fun i=>by
     rw[Nat.testBit_and,hb]
     by_cases hi:i∈wait
     ·rw[QO _ _ hx64 (h64 i hi),decide_eq_true hi,Bool.true_and];congr 1;exact propext ⟨fun h=>(Qb hn hjl i).2 ⟨hi,h⟩,fun h=>((Qb hn hjl i).1 h).2⟩
     ·rw [decide_eq_false hi,Bool.false_and,decide_eq_false (fun h=>hi (List.mem_of_mem_eraseIdx h))]) h
    refine⟨wait.getD j 0 :: t,by simp,((List.Perm.cons _ hp).trans (za2 hjl).symm),fun k hk m hm hbit=>?_⟩;cases k with
    |zero =>exfalso;exact(Ql _ _).1 hrdy m ⟨hbit,by rw[hb,decide_eq_true hm]⟩
    |succ k =>
     rw[List.take_succ_cons,List.mem_cons]
     by_cases hmx:m=wait.getD j 0
     ·exact Or.inl hmx
     ·refine Or.inr (ht k (by simpa using hk) m ((Qb hn hjl m).2 ⟨hm,hmx⟩) ?_);simpa using hbit
theorem Zo(set:Nat)(h:set<16777216)(i:Nat):set.testBit i=decide (i∈zx set 24):=by
 unfold zx;rw[Bool.eq_iff_iff,decide_eq_true_iff,List.mem_filter,List.mem_range];refine⟨fun hb=>⟨?_,hb⟩,fun h=>h.2⟩;apply Classical.byContradiction;intro hc;rw[xw (n:=24) h (by omega)] at hb;cases hb
theorem YR(set:Nat):(zx set 24).Nodup:=by
 unfold zx;exact List.Nodup.sublist List.filter_sublist List.nodup_range
theorem Y6{ls:List Ln}{its:List It}(hN:zk ls=.ok its)(x m:Nat)(hx:x<its.length):∀n,n<=ls.length->(((qi its ls n).getD x 0).testBit m=true↔∃q,q<n/\(ls.getD q default).kind=2/\zi its (ls.getD q default)=x/\m∈zO its (ls.getD q default).other (ls.getD q default).rng/\m≠x)
 |0,_=>by
  unfold qi;rw[List.getD_eq_getElem?_getD,List.getElem?_replicate,if_pos hx];simp
 |n+1,hn=>by
  have ih:=Y6 hN x m hx n (by omega);have hl:=(ya hN).1;have hmem:=Zh ls n (by omega);unfold qi
  by_cases hk:(ls.getD n default).kind=2
  ·rw[if_pos hk,List.getD_eq_getElem?_getD,List.getElem?_set];have ho:=xk hN hmem (Or.inl hk)
   by_cases hox:zi its (ls.getD n default)=x
   ·rw[if_pos hox,if_pos (by rw[Z8];omega),Option.getD_some,hox,Nat.testBit_or,Bool.or_eq_true,ih,Nat.testBit_and,ZB];constructor
    ·rintro (⟨q,h1,h2⟩|h)
     ·exact⟨q,by omega,h2⟩
     ·rw[Bool.and_eq_true,decide_eq_true_iff] at h;have hm:=xF its _ _ m h.1;rw[QO x m (by omega) (by omega),decide_eq_true_iff] at h;exact⟨n,by omega,hk,hox,h.1,h.2⟩
    ·rintro⟨q,h1,h2,h3,h4,h5⟩;rcases Nat.lt_succ_iff_lt_or_eq.1 h1 with e|e
     ·exact Or.inl ⟨q,e,h2,h3,h4,h5⟩
     ·subst e;have hm:=xF its _ _ m h4;refine Or.inr ?_;rw[decide_eq_true h4,QO x m (by omega) (by omega),decide_eq_true h5];rfl
   ·rw[if_neg hox,<-List.getD_eq_getElem?_getD,ih];constructor
    ·rintro⟨q,h1,h2⟩;exact⟨q,by omega,h2⟩
    ·rintro⟨q,h1,h2,h3,h4⟩;rcases Nat.lt_succ_iff_lt_or_eq.1 h1 with e|e
     ·exact⟨q,e,h2,h3,h4⟩
     ·subst e;exact absurd h3 hox
  ·rw[if_neg hk,ih];constructor
   ·rintro⟨q,h1,h2⟩;exact⟨q,by omega,h2⟩
   ·rintro⟨q,h1,h2,h3⟩;rcases Nat.lt_succ_iff_lt_or_eq.1 h1 with e|e
    ·exact⟨q,e,h2,h3⟩
    ·subst e;exact absurd h2 hk
structure Qk(ls:List Ln)(its:List It)(set:Nat)(l:List Nat):Prop where
 lt:∀x∈l,x<its.length
 nodup:l.Nodup
 mem:∀i,set.testBit i=decide (i∈l)
 len:l.length<=24
 need:∀i,i<l.length->∀x∈ls,x.kind=2->zJ its x.it=((l.getD i 0:Nat):Int)->∀m∈zO its x.other x.rng,m≠l.getD i 0->set.testBit m=true->m∈l.take i
theorem Yp{ls:List Ln}{its:List It}{set:Nat}{k:Int}(h:zl its ls set=.error k):((zm its ls set).1=false/\k=13)\/((zm its ls set).1=true/\k=11):=by
 unfold zl at h;cases hf:(zm its ls set).1 with
 |false=>rw[if_pos hf] at h;cases h;exact Or.inl ⟨rfl,rfl⟩
 |true =>
  rw[if_neg (by rw[hf];decide)] at h;cases ho:Zc its ls set with
  |none=>rw[ho] at h;cases h;exact Or.inr ⟨rfl,rfl⟩
  |some l=>rw[ho] at h;cases h
theorem Z1{ls:List Ln}{its:List It}(hN:zk ls=.ok its){set:Nat}(hs:set<2^its.length){l:List Nat}(h:zl its ls set=.ok l):Qk ls its set l:=by
 have hl:=(ya hN).1;have hs24:set<16777216:=Nat.lt_of_lt_of_le hs (Nat.pow_le_pow_right (n:=2) (by decide) hl);have ho:Zc its ls set=some l:=by
  unfold zl at h;split at h
  ·cases h
  ·cases ho:Zc its ls set with
   |none=>rw[ho] at h;cases h
   |some l'=>rw[ho] at h;cases h;rfl
 unfold Zc at ho;have hlt:∀i∈zx set 24,i<its.length:=fun x hx=>by
  have hb:set.testBit x=true:=by rw[Zo set hs24,decide_eq_true hx]
  apply Classical.byContradiction;intro hc;rw[xw hs (by omega)] at hb;cases hb
 obtain⟨t,rfl,hp,ht⟩:=Kk (q7 its ls) _ (zx set 24) set [] l rfl (YR set) (fun i hi=>by have:=hlt i hi;omega) (Zo set hs24) ho;refine⟨fun x hx=>hlt x (hp.mem_iff.1 hx),hp.nodup_iff.2 (YR set),fun i=>by rw[Zo set hs24];congr 1;exact propext hp.mem_iff.symm,by rw[hp.length_eq];exact Q8 set 24,fun i hi x hx hk hnum m hm hne hb=>?_⟩;have hmi:m∈zx set 24:=by rw[Zo set hs24] at hb;exact of_decide_eq_true hb
 refine ht i hi m hmi ?_;obtain⟨n,hn,rfl⟩:=List.getElem_of_mem hx;have hgx:ls.getD n default=ls[n]:=by rw[List.getD_eq_getElem?_getD,List.getElem?_eq_getElem hn];rfl
 have hown:=(xk hN hx (Or.inl hk)).1;rw[hnum] at hown;refine(Y6 hN (l.getD i 0) m (hlt _ (hp.mem_iff.1 (yw l i hi))) ls.length zN).2 ⟨n,hn,?_,?_,?_,hne⟩
 ·rw[hgx];exact hk
 ·rw[hgx];omega
 ·rw[hgx];exact hm
end
section
open Sv
theorem zab(p:Nat->Bool):∀(l:List Nat),l.find? p=(l.findIdx? p).map fun j=>l.getD j 0
 |[]=>rfl
 |x :: l=>by
  rw[List.find?_cons,List.findIdx?_cons];cases hp:p x with
  |true=>rfl
  |false =>
   rw[zab p l];cases l.findIdx? p with
   |none=>rfl
   |some j=>simp
def atG(P:Nat->Bool):Nat->Nat->Int
 |_,0=>-1
 |i,m+1=>if P i then (i:Int) else atG P (i+1) m
def Zw:Option Nat->Int
 |some x=>(x:Int)
 |none=>-1
theorem J8(P:Nat->Bool):∀(m i:Nat),atG P i m=Zw ((List.range' i m).find? P)
 |0,i=>rfl
 |m+1,i=>by
  rw[atG,List.range'_succ,List.find?_cons];cases hp:P i with
  |true=>rfl
  |false=>simp only[Bool.false_eq_true,if_false];exact J8 P m (i+1)
noncomputable def yJ(its:List It)(ls:List Ln)(set:Nat)(out:List Nat)(i:Nat):Nat->Bool
 |0=>true
 |k+1=>yJ its ls set out i k&&(!set.testBit k||(decide (k∈out)||!yB its ls i k))
theorem KE(its:List It)(ls:List Ln)(set:Nat)(out:List Nat)(i:Nat):∀n,yJ its ls set out i n=true↔∀k,k<n->set.testBit k=true->k∉out->yB its ls i k=false
 |0=>by simp[yJ]
 |n+1=>by
  rw[yJ,Bool.and_eq_true,KE its ls set out i n];constructor
  ·rintro⟨h1,h2⟩ k hk hs ho;rcases Nat.lt_succ_iff_lt_or_eq.1 hk with e|e
   ·exact h1 k e hs ho
   ·subst e;rw[hs,decide_eq_false ho] at h2;simpa using h2
  ·intro h;refine⟨fun k hk=>h k (by omega),?_⟩;cases hs:set.testBit n with
   |false=>rfl
   |true =>
    by_cases ho:n∈out
    ·simp[ho]
    ·rw[h n (by omega) hs ho];simp
noncomputable def q8(its:List It)(ls:List Ln)(set:Nat)(out:List Nat)(i:Nat):Bool:=(set.testBit i&&!decide (i∈out))&&yJ its ls set out i its.length
def yv(set:Nat)(out:List Nat)(i:Nat):Nat->Bool
 |0=>false
 |m+1=>(set.testBit i&&!decide (i∈out))||yv set out (i+1) m
def zj(set:Nat)(out:List Nat):List Nat:=(zx set 24).filter fun i=>!decide (i∈out)
theorem zas{ls:List Ln}{its:List It}(hN:zk ls=.ok its)(x m:Nat)(hx:x<its.length):((q7 its ls).getD x 0).testBit m=yB its ls x m:=by
 rw[Bool.eq_iff_iff];unfold q7;rw[Y6 hN x m hx ls.length zN];unfold yB;rw[List.any_eq_true];constructor
 ·rintro⟨q,h1,h2,h3,h4,h5⟩;refine⟨ls.getD q default,Zh ls q h1,?_⟩;have ho:=(xk hN (Zh ls q h1) (Or.inl h2)).1;unfold yt;rw[decide_eq_true h2,decide_eq_true (p:=x≠m) (fun e=>h5 e.symm),ho,h3,decide_eq_true (p:=((x:Int)=(x:Int))) rfl,decide_eq_true h4];rfl
 ·rintro⟨y,hy,h⟩;unfold yt at h;simp only[Bool.and_eq_true,decide_eq_true_eq] at h;obtain⟨q,hq,rfl⟩:=List.getElem_of_mem hy;have hg:ls.getD q default=ls[q]:=by rw[List.getD_eq_getElem?_getD,List.getElem?_eq_getElem hq];rfl
  have ho:=(xk hN hy (Or.inl h.1)).1;refine⟨q,hq,?_,?_,?_,fun e=>h.2.1 e.symm⟩
  ·rw[hg];exact h.1
  ·rw[hg];have:=h.2.2.1;rw[ho] at this;omega
  ·rw[hg];exact h.2.2.2
theorem ZA{set:Nat}(hs:set<16777216)(out:List Nat)(i:Nat):i∈zj set out↔set.testBit i=true/\i∉out:=by
 unfold zj;rw[List.mem_filter,Zo set hs,decide_eq_true_iff];simp
theorem zhB{ls:List Ln}{its:List It}(hN:zk ls=.ok its){set:Nat}(hs:set<2^its.length)(out:List Nat)(left:Nat)(hl:∀i,left.testBit i=decide (i∈zj set out)) :
  atG (q8 its ls set out) 0 its.length=Zw (((zj set out).findIdx? fun i=>decide ((q7 its ls).getD i 0&&&left=0)).map fun j=>(zj set out).getD j 0):=by
 have h24:=(ya hN).1;have hs24:set<16777216:=Nat.lt_of_lt_of_le hs (Nat.pow_le_pow_right (n:=2) (by decide) h24);rw[<-zab,J8];congr 1;have hrdy:∀i∈zj set out,decide ((q7 its ls).getD i 0&&&left=0)=yJ its ls set out i its.length:=fun i hi=>by
  have hi2:=((ZA hs24 out i).1 hi).1;have hin:i<its.length:=by
   apply Classical.byContradiction;intro hc;rw[xw hs (by omega)] at hi2;cases hi2
  rw[Bool.eq_iff_iff,decide_eq_true_iff,Ql,KE];constructor
  ·intro h k hk hsk ho;cases hb:yB its ls i k with
   |false=>rfl
   |true=>exact absurd ⟨by rw[zas hN i k hin];exact hb,by rw[hl,decide_eq_true ((ZA hs24 out k).2 ⟨hsk,ho⟩)]⟩ (h k)
  ·rintro h k ⟨h1,h2⟩;rw[hl,decide_eq_true_iff,ZA hs24] at h2;have hkn:k<its.length:=by
    apply Classical.byContradiction;intro hc;rw[xw hs (by omega)] at h2;cases h2.1
   rw[zas hN i k hin,h k hkn h2.1 h2.2] at h1;cases h1
 have e1:(zj set out).find? (fun i=>decide ((q7 its ls).getD i 0&&&left=0))=(List.range 24).find? (q8 its ls set out):=by
  have:(zj set out).find? (fun i=>decide ((q7 its ls).getD i 0&&&left=0))=(zj set out).find? (fun i=>yJ its ls set out i its.length):=by
   revert hrdy;generalize zj set out=L;intro hrdy
   induction L with
   |nil=>rfl
   |cons a L ih =>rw[List.find?_cons,List.find?_cons,hrdy a (by simp),ih (fun i hi=>hrdy i (List.mem_cons_of_mem _ hi))]
  rw[this];unfold zj zx;rw[List.find?_filter,List.find?_filter];congr 1;funext i;unfold q8;cases set.testBit i<;>simp
 rw[e1,List.range_eq_range'];have e2:List.range' 0 24=List.range' 0 its.length++List.range' its.length (24-its.length):=by
  have:=List.range'_append_1 (s:=0) (m:=its.length) (n:=24-its.length);rw[Nat.zero_add] at this;rw[this];congr 1;omega
 rw[e2,List.find?_append];have e3:(List.range' its.length (24-its.length)).find? (q8 its ls set out)=none:=by
  rw[List.find?_eq_none];intro x hx;have:=(List.mem_range'_1.1 hx).1;unfold q8;rw[xw hs this];simp
 rw[e3,Option.or_none]
theorem zh7{its:List It}{set:Nat}(h24:its.length<=24)(hs:set<2^its.length)(out:List Nat):yv set out 0 its.length=false↔zj set out=[]:=by
 have hs24:set<16777216:=Nat.lt_of_lt_of_le hs (Nat.pow_le_pow_right (n:=2) (by decide) h24);have key:∀m i,yv set out i m=false↔∀j,i<=j->j<i+m->¬(set.testBit j=true/\j∉out):=by
  intro m
  induction m with
  |zero=>intro i;simp[yv];intro j h1 h2;omega
  |succ m ih =>
   intro i;rw[yv,Bool.or_eq_false_iff,ih];constructor
   ·rintro⟨h1,h2⟩ j hj1 hj2 ⟨q1,q2⟩;rcases Nat.lt_or_ge i j with h|h
    ·exact h2 j h (by omega) ⟨q1,q2⟩
    ·obtain rfl:i=j:=by omega
     rw[q1,decide_eq_false q2] at h1;cases h1
   ·intro h;refine⟨?_,fun j h1 h2=>h j (by omega) (by omega)⟩;have:=h i zN (by omega);cases hb:set.testBit i with
    |false=>rfl
    |true =>
     by_cases ho:i∈out
     ·simp[ho]
     ·exact absurd ⟨hb,ho⟩ this
 rw[key];constructor
 ·intro h;rw[List.eq_nil_iff_forall_not_mem];intro j hj;have hj2:=(ZA hs24 out j).1 hj;have hjn:j<its.length:=by
   apply Classical.byContradiction;intro hc;rw[xw hs (by omega)] at hj2;cases hj2.1
  exact h j (Nat.zero_le _) (by omega) hj2
 ·intro h j _ _ hj;have:=(ZA hs24 out j).2 hj;rw[h] at this;cases this
end
end Go.Proofs.YtlamemjfaogjmaaGreatDoor
