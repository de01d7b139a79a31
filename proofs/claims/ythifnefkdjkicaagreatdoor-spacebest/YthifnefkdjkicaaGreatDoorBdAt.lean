import Derived.Test.YthifnefkdjkicaaGreatDoorClTold
import Derived.RangeFuncOwn
namespace Go.Proofs.YthifnefkdjkicaaGreatDoor
section
open Go.RowKit
inductive YM (l:List (List Int)):List Int->Prop
 |bad {told c:List Int} (hc:c∈l) (h:∀x∈c,-x∈told):YM l told
 |unit {told c:List Int} {x:Int} (hc:c∈l) (hx:x∈c) (h:∀y∈c,y≠x->-y∈told) (hr:YM l (x :: told)):YM l told
def Zo(l l':List (List Int)):Prop:=∀c∈l,∃c'∈l',∀x,x∈c↔x∈c'
theorem Zo.refl(l:List (List Int)):Zo l l:=fun c hc=>⟨c,hc,fun _=>Iff.rfl⟩
theorem Zo.trans{l m n:List (List Int)}(h:Zo l m)(h2:Zo m n):Zo l n:=fun c hc=>by
 obtain⟨d,hd,e⟩:=h c hc;obtain⟨f,hf,e2⟩:=h2 d hd;exact⟨f,hf,fun x=>(e x).trans (e2 x)⟩
theorem Zo.of_sub{l m:List (List Int)}(h:∀c∈l,c∈m):Zo l m:=fun c hc=>⟨c,h c hc,fun _=>Iff.rfl⟩
theorem YM.mono{l l':List (List Int)}{told told':List Int}(h:YM l told)(hs:Zo l l')(ht:∀x∈told,x∈told'):YM l' told':=by
 induction h generalizing told' with
 |bad hc h =>obtain⟨c',j,e⟩:=hs _ hc;exact .bad j fun x hx=>ht _ (h x ((e x).2 hx))
 |unit hc hx h _ ih =>
  obtain⟨c',j,e⟩:=hs _ hc;refine .unit j ((e _).1 hx) (fun y hy o=>ht _ (h y ((e y).2 hy) o)) (ih fun z hz=>?_);rcases List.mem_cons.1 hz with rfl|hz
  ·exact List.mem_cons_self
  ·exact List.mem_cons_of_mem _ (ht z hz)
def Jw(l:List (List Int))(t:List Int):Prop:=∀c∈l,(∃x∈c,x∈t)\/∃x∈c,∃y∈c,x≠y/\-x∉t/\-y∉t
def zaD(c:List Int):Prop:=∃x∈c,-x∈c
theorem zkq{l:List (List Int)}{t c:List Int}(h0:∀x∈c,x≠0)(hb:zaD c)(hs:Jw l t):Jw (l++[c]) t:=fun d hd=>by
 rcases List.mem_append.1 hd with hd|hd
 ·exact hs d hd
 ·rw[List.mem_singleton] at hd;subst hd;obtain⟨x,hx,hn⟩:=hb
  by_cases h1:x∈t
  ·exact Or.inl ⟨x,hx,h1⟩
  ·by_cases h2:-x∈t
   ·exact Or.inl ⟨-x,hn,h2⟩
   ·have:=h0 x hx;exact Or.inr ⟨x,hx,-x,hn,by omega,h2,by rw[Int.neg_neg];exact h1⟩
end
section
open Go.RowKit
def ZB(s:Nat × Nat)(x:Int):Nat × Nat :=
 if 0<x/\x<=24 then (s.1|||2^(x.toNat-1),s.2) else if -24<=x/\x<0 then (s.1,s.2|||2^((-x).toNat-1)) else s
def zo(c:List Int):Nat × Nat:=c.foldl ZB (0,0)
theorem zjt(c:List Int)(x:Int):zo (c++[x])=ZB (zo c) x:=by unfold zo;rw[List.foldl_append];rfl
theorem zfd(m k i:Nat):(m|||2^k).testBit i=(m.testBit i||decide (k=i)):=by
 rw[Nat.testBit_or,Nat.testBit_two_pow]
theorem zei(c:List Int)(s:Nat × Nat)(i:Nat):((c.foldl ZB s).1.testBit i=(s.1.testBit i||decide (i<24/\(i:Int)+1∈c)))/\((c.foldl ZB s).2.testBit i=(s.2.testBit i||decide (i<24/\-((i:Int)+1)∈c))):=by
 induction c generalizing s with
 |nil=>simp
 |cons x c ih =>
  rw[List.foldl_cons,(ih _).1,(ih _).2];unfold ZB
  by_cases h1:0<x/\x<=24
  ·rw[zA2 h1];have e2:(-((i:Int)+1)∈x :: c)↔-((i:Int)+1)∈c:=by
    rw[List.mem_cons];exact⟨fun h=>h.resolve_left (by omega),Or.inr⟩
   have e1:(i<24/\(i:Int)+1∈x :: c)↔(x.toNat-1=i\/(i<24/\(i:Int)+1∈c)):=by
    rw[List.mem_cons];constructor
    ·rintro⟨h,h2|h2⟩
     ·exact Or.inl (by omega)
     ·exact Or.inr ⟨h,h2⟩
    ·rintro (h|⟨h,h2⟩)
     ·exact⟨by omega,Or.inl (by omega)⟩
     ·exact⟨h,Or.inr h2⟩
   refine⟨?_,by simp only[e2]⟩;show ((s.1|||2^(x.toNat-1)).testBit i||_)=_;rw[zfd,Bool.or_assoc,<-Bool.decide_or];simp only[e1]
  ·rw[zA1 h1]
   by_cases h2:-24<=x/\x<0
   ·rw[zA2 h2];have e2:((i:Int)+1∈x :: c)↔(i:Int)+1∈c:=by
     rw[List.mem_cons];exact⟨fun h=>h.resolve_left (by omega),Or.inr⟩
    have e1:(i<24/\-((i:Int)+1)∈x :: c)↔((-x).toNat-1=i\/(i<24/\-((i:Int)+1)∈c)):=by
     rw[List.mem_cons];constructor
     ·rintro⟨h,h3|h3⟩
      ·exact Or.inl (by omega)
      ·exact Or.inr ⟨h,h3⟩
     ·rintro (h|⟨h,h3⟩)
      ·exact⟨by omega,Or.inl (by omega)⟩
      ·exact⟨h,Or.inr h3⟩
    refine⟨by simp only[e2],?_⟩;show ((s.2|||2^((-x).toNat-1)).testBit i||_)=_;rw[zfd,Bool.or_assoc,<-Bool.decide_or];simp only[e1]
   ·rw[zA1 h2];have e1:(i<24/\(i:Int)+1∈x :: c)↔(i<24/\(i:Int)+1∈c):=by
     rw[List.mem_cons];exact⟨fun⟨h,h3⟩=>⟨h,h3.resolve_left (by omega)⟩,fun⟨h,h3⟩=>⟨h,Or.inr h3⟩⟩
    have e2:(i<24/\-((i:Int)+1)∈x :: c)↔(i<24/\-((i:Int)+1)∈c):=by
     rw[List.mem_cons];exact⟨fun⟨h,h3⟩=>⟨h,h3.resolve_left (by omega)⟩,fun⟨h,h3⟩=>⟨h,Or.inr h3⟩⟩
    simp only[e1,e2,and_self]
theorem Yi(c:List Int)(i:Nat):(zo c).1.testBit i=decide (i<24/\(i:Int)+1∈c):=by
 have:=(zei c (0,0) i).1;simpa[zo] using this
theorem Yl(c:List Int)(i:Nat):(zo c).2.testBit i=decide (i<24/\-((i:Int)+1)∈c):=by
 have:=(zei c (0,0) i).2;simpa[zo] using this
def Small(s:Nat × Nat):Prop:=s.1<2^24/\s.2<2^24
theorem zb1{m:Nat}(h:∀i,24<=i->m.testBit i=false):m<2^24:=Nat.lt_pow_two_of_testBit m h
theorem zeX(c:List Int):Small (zo c) :=
 ⟨zb1 fun i hi=>by rw[Yi];simp;omega,zb1 fun i hi=>by rw[Yl];simp;omega⟩
def qE(s:Nat × Nat):Bool:=decide (s.1&&&s.2≠0)
theorem zdU{s:Nat × Nat}:qE s=true↔∃i,s.1.testBit i=true/\s.2.testBit i=true:=by
 unfold qE;rw[decide_eq_true_eq];constructor
 ·intro h;obtain⟨i,hi⟩:=Nat.exists_testBit_of_ne_zero h;rw[Nat.testBit_and,Bool.and_eq_true] at hi;exact⟨i,hi⟩
 ·rintro⟨i,h1,h2⟩ h;have:(s.1&&&s.2).testBit i=true:=by rw[Nat.testBit_and,h1,h2];rfl
  rw[h] at this;simp at this
def y7(s:Nat × Nat)(i:Nat):Option Int:=if s.1.testBit i=true then some ((i:Int)+1) else if s.2.testBit i=true then some (-((i:Int)+1)) else none
def yB(s:Nat × Nat)(k:Nat):List Int:=(List.range k).filterMap (y7 s)
def qk(s:Nat × Nat):List Int:=yB s 24
theorem zaO(s:Nat × Nat)(k:Nat):yB s (k+1)=yB s k++(y7 s k).toList:=by
 unfold yB;rw[List.range_succ,List.filterMap_append];congr 1
theorem zbV(s:Nat × Nat)(k:Nat):(yB s k).length<=k:=by
 unfold yB;refine Nat.le_trans (List.length_filterMap_le _ _) ?_;simp
theorem zgI{s:Nat × Nat}(ha:qE s=false){x:Int}:x∈qk s↔∃i:Nat,i<24/\((x=(i:Int)+1/\s.1.testBit i=true)\/(x=-((i:Int)+1)/\s.2.testBit i=true)):=by
 unfold qk yB;rw[List.mem_filterMap];constructor
 ·rintro⟨i,hi,h⟩;rw[List.mem_range] at hi;unfold y7 at h
  by_cases h1:s.1.testBit i=true
  ·rw[zA2 h1] at h;exact⟨i,hi,Or.inl ⟨(Option.some.inj h).symm,h1⟩⟩
  ·rw[zA1 h1] at h
   by_cases h2:s.2.testBit i=true
   ·rw[zA2 h2] at h;exact⟨i,hi,Or.inr ⟨(Option.some.inj h).symm,h2⟩⟩
   ·rw[zA1 h2] at h;cases h
 ·rintro⟨i,hi,⟨e,h1⟩|⟨e,h2⟩⟩
  ·exact⟨i,List.mem_range.2 hi,by unfold y7;rw[zA2 h1,e]⟩
  ·refine⟨i,List.mem_range.2 hi,?_⟩;unfold y7;rw[zA1,zA2 h2,e];intro h1;have:=zdU.2 ⟨i,h1,h2⟩;rw[ha] at this;cases this
theorem znc{s:Nat × Nat}:ql 24 (qk s):=fun x hx=>by
 unfold qk yB at hx;obtain⟨i,hi,h⟩:=List.mem_filterMap.1 hx;rw[List.mem_range] at hi;rw[xA];unfold y7 at h
 by_cases h1:s.1.testBit i=true
 ·rw[zA2 h1] at h;have:=Option.some.inj h;omega
 ·rw[zA1 h1] at h
  by_cases h2:s.2.testBit i=true
  ·rw[zA2 h2] at h;have:=Option.some.inj h;omega
  ·rw[zA1 h2] at h;cases h
theorem zhN{c:List Int}(hl:ql 24 c):qE (zo c)=true↔∃x∈c,-x∈c:=by
 rw[zdU];constructor
 ·rintro⟨i,h1,h2⟩;rw[Yi,decide_eq_true_eq] at h1;rw[Yl,decide_eq_true_eq] at h2;exact⟨_,h1.2,h2.2⟩
 ·rintro⟨x,hx,hn⟩;have h:=xA.1 (hl x hx)
  by_cases hp:0<x
  ·refine⟨x.toNat-1,?_,?_⟩
   ·rw[Yi,decide_eq_true_eq];exact⟨by omega,by rw[show ((x.toNat-1:Nat):Int)+1=x by omega];exact hx⟩
   ·rw[Yl,decide_eq_true_eq];exact⟨by omega,by rw[show ((x.toNat-1:Nat):Int)+1=x by omega];exact hn⟩
  ·refine⟨(-x).toNat-1,?_,?_⟩
   ·rw[Yi,decide_eq_true_eq];exact⟨by omega,by rw[show (((-x).toNat-1:Nat):Int)+1=-x by omega];exact hn⟩
   ·rw[Yl,decide_eq_true_eq];exact⟨by omega,by rw[show (((-x).toNat-1:Nat):Int)+1=-x by omega,Int.neg_neg];exact hx⟩
theorem QL{c:List Int}(hl:ql 24 c)(ha:qE (zo c)=false){x:Int}:x∈qk (zo c)↔x∈c:=by
 rw[zgI ha];constructor
 ·rintro⟨i,hi,⟨e,h⟩|⟨e,h⟩⟩
  ·rw[Yi,decide_eq_true_eq] at h;rw[e];exact h.2
  ·rw[Yl,decide_eq_true_eq] at h;rw[e];exact h.2
 ·intro hx;have h:=xA.1 (hl x hx)
  by_cases hp:0<x
  ·refine⟨x.toNat-1,by omega,Or.inl ⟨by omega,?_⟩⟩;rw[Yi,decide_eq_true_eq];exact⟨by omega,by rw[show ((x.toNat-1:Nat):Int)+1=x by omega];exact hx⟩
  ·refine⟨(-x).toNat-1,by omega,Or.inr ⟨by omega,?_⟩⟩;rw[Yl,decide_eq_true_eq];exact⟨by omega,by rw[show (((-x).toNat-1:Nat):Int)+1=-x by omega,Int.neg_neg];exact hx⟩
end
section
open Go.RowKit
def xh(v:Int)(c:List Int):Bool:=decide (48<c.length)||c.any (fun x=>!yj v x)
end
section
open Go.RowKit
theorem zpk(s:Nat × Nat):(qk s).Nodup:=by
 have j:∀(i:Nat) (x:Int),y7 s i=some x->x=(i:Int)+1\/x=-((i:Int)+1):=fun i x h=>by
  unfold y7 at h
  by_cases h1:s.1.testBit i=true
  ·rw[zA2 h1] at h;exact Or.inl (Option.some.inj h).symm
  ·rw[zA1 h1] at h
   by_cases h2:s.2.testBit i=true
   ·rw[zA2 h2] at h;exact Or.inr (Option.some.inj h).symm
   ·rw[zA1 h2] at h;cases h
 unfold qk yB;refine List.Pairwise.filterMap (y7 s) (R:=fun a b=>a≠b) (fun a b o x hx y hy e=>?_) List.nodup_range;have h1:=j a x hx;have h2:=j b y hy;omega
theorem zey{c:List Int}(hl:ql 24 c):zaD c↔qE (zo c)=true:=(zhN hl).symm
structure Z2(K L:List (List Int)):Prop where
 sub:Zo K L
 sat:∀t,Zn t->Jw K t->Jw L t
theorem zlC{t c d:List Int}(e:∀x,x∈c↔x∈d)(h:(∃x∈c,x∈t)\/∃x∈c,∃y∈c,x≠y/\-x∉t/\-y∉t):(∃x∈d,x∈t)\/∃x∈d,∃y∈d,x≠y/\-x∉t/\-y∉t:=by
 rcases h with ⟨x,hx,h⟩|⟨x,hx,y,hy,h⟩
 ·exact Or.inl ⟨x,(e x).1 hx,h⟩
 ·exact Or.inr ⟨x,(e x).1 hx,y,(e y).1 hy,h⟩
theorem Z2.skip{K L:List (List Int)}(h:Z2 K L){c:List Int}(h0:∀x∈c,x≠0)(hb:zaD c):Z2 K (L++[c]) :=
 ⟨h.sub.trans (Zo.of_sub fun _ hd=>List.mem_append_left _ hd),fun t hc hs=>zkq h0 hb (h.sat t hc hs)⟩
theorem Z2.snoc{K L:List (List Int)}(h:Z2 K L){c d:List Int}(e:∀x,x∈d↔x∈c):Z2 (K++[d]) (L++[c]):=by
 refine⟨fun f hf=>?_,fun t hc hs f hf=>?_⟩
 ·rcases List.mem_append.1 hf with hf|hf
  ·obtain⟨g,hg,e2⟩:=h.sub f hf;exact⟨g,List.mem_append_left _ hg,e2⟩
  ·rw[List.mem_singleton] at hf;subst hf;exact⟨c,List.mem_append_right _ (List.mem_singleton.2 rfl),e⟩
 ·rcases List.mem_append.1 hf with hf|hf
  ·exact h.sat t hc (fun g hg=>hs g (List.mem_append_left _ hg)) f hf
  ·rw[List.mem_singleton] at hf;subst hf;exact zlC e (hs d (List.mem_append_right _ (List.mem_singleton.2 rfl)))
theorem Z2.nil:Z2 [] []:=⟨Zo.refl _,fun _ _ h=>h⟩
structure QD(K L:List (List Int)):Prop where
 lits:yP 24 K
 nodup:∀d∈K,d.Nodup
 like:Z2 K L
theorem QD.nil:QD [] []:=⟨fun c hc=>(by cases hc),fun c hc=>(by cases hc),Z2.nil⟩
theorem QD.skip{K L:List (List Int)}(h:QD K L){c:List Int}(hl:ql 24 c)(ha:qE (zo c)=true):QD K (L++[c]) :=
 ⟨h.lits,h.nodup,h.like.skip (fun x hx=>(xA.1 (hl x hx)).1) ((zey hl).2 ha)⟩
theorem QD.snoc{K L:List (List Int)}(h:QD K L){c:List Int}(hl:ql 24 c)(ha:qE (zo c)=false):QD (K++[qk (zo c)]) (L++[c]):=by
 refine⟨fun d hd=>?_,fun d hd=>?_,h.like.snoc fun x=>QL hl ha⟩
 ·rcases List.mem_append.1 hd with hd|hd
  ·exact h.lits d hd
  ·rw[List.mem_singleton] at hd;subst hd;exact znc
 ·rcases List.mem_append.1 hd with hd|hd
  ·exact h.nodup d hd
  ·rw[List.mem_singleton] at hd;subst hd;exact zpk _
end
namespace Bd
open Go.RowKit Go.Maps
def ZI(m:List Bool):Nat:=m.countP id
theorem zdN:∀(m:List Bool) (i:Nat),ZI (m.set i true)<=ZI m+1
 |[],_=>by simp[ZI]
 |a :: m,0=>by unfold ZI;simp only[List.set_cons_zero,List.countP_cons];split<;>split<;>simp<;>omega
 |a :: m,i+1=>by
  have:=zdN m i;unfold ZI at *;simp only[List.set_cons_succ,List.countP_cons];omega
theorem zae{vars:Nat}{ns:List Nd}(hg:zU vars ns):∀(d:Nat) (h:Int) (m:List Bool),ZI (zY d ns h m)+1<=ZI m+2^((vars:Int)-za ns h).toNat
 |0,h,m=>by have:=Nat.one_le_two_pow (n:=((vars:Int)-za ns h).toNat);unfold zY;omega
 |d+1,h,m=>by
  have h1:=Nat.one_le_two_pow (n:=((vars:Int)-za ns h).toNat);unfold zY;split
  ·omega
  ·rename_i hn;have ht:=(not_or.1 hn).1;have hv:=Ku hg ht;obtain⟨k1,-,k2,-⟩:=ZF hg.ranked ht;have e:(h-2).toNat=pl h:=rfl;rw[e];have i1:=zae hg d (nd ns (pl h)).l (m.set (pl h) true);have i2:=zae hg d (nd ns (pl h)).h (zY d ns (nd ns (pl h)).l (m.set (pl h) true));have i0:=zdN m (pl h);have hp:2^((vars:Int)-za ns h).toNat=2^(((vars:Int)-za ns h).toNat-1)+2^(((vars:Int)-za ns h).toNat-1):=by
    obtain⟨q,hq⟩:∃q,((vars:Int)-za ns h).toNat=q+1:=⟨((vars:Int)-za ns h).toNat-1,by omega⟩;rw[hq,Nat.add_sub_cancel,Nat.pow_succ];omega
   have p1:2^((vars:Int)-za ns (nd ns (pl h)).l).toNat<=2^(((vars:Int)-za ns h).toNat-1):=Nat.pow_le_pow_right (by omega) (by omega);have p2:2^((vars:Int)-za ns (nd ns (pl h)).h).toNat<=2^(((vars:Int)-za ns h).toNat-1):=Nat.pow_le_pow_right (by omega) (by omega);omega
theorem zpw{ns:List Nd}{M:List Bool}(hl:M.length=ns.length):cnt (qy ns M)<=ZI M:=by
 unfold cnt qy ZI;rw[<-List.countP_eq_length_filter,List.countP_map];have e:M=(List.range ns.length).map fun i=>mk M i:=by
  apply List.ext_getElem (by simp[hl]);intro i h1 h2;simp[zdW M i h1]
 conv=>rhs;rw[e,List.countP_map]
 refine List.countP_mono_left fun i _ h=>?_
 by_cases hm:mk M i=true
 ·exact hm
 ·simp[Function.comp,hm] at h
theorem zhO{vars:Nat}{ns:List Nd}(hg:zU vars ns)(h:Int):cnt (qy ns (qt ns [h]))+1<=2^vars:=by
 have h1:=zpw (zbY ns [h]);have h2:=zae hg 24 h (List.replicate ns.length false);have h3:ZI (List.replicate ns.length false)=0:=by
  unfold ZI;rw[List.countP_eq_zero];intro b hb;rw[(List.mem_replicate.1 hb).2];simp
 have h4:qt ns [h]=zY 24 ns h (List.replicate ns.length false):=rfl;rw[<-h4,h3] at h2;have h5:2^((vars:Int)-za ns h).toNat<=2^vars:=Nat.pow_le_pow_right (by omega) (by have:=(qx hg.ranked h).1;omega);omega
def zW(x:Int):Nat:=x.natAbs-1
def xP(f:Nat->Bool)(x:Int):Bool:=f (zW x)==decide (0<x)
def clS(f:Nat->Bool)(c:List Int):Bool:=c.any (xP f)
theorem JM(ns:List Nd)(n:Nd):za (Zp ns n).1 (Zp ns n).2=n.v/\nd (Zp ns n).1 (pl (Zp ns n).2)=n:=by
 unfold Zp
 by_cases c:idx ns n<ns.length
 ·rw[zA2 c];have hp:pl (2+(idx ns n:Int))=idx ns n:=by unfold pl;omega
  exact⟨by show za ns (2+(idx ns n:Int))=_;rw[Ya c,Xf c],by show nd ns (pl (2+(idx ns n:Int)))=n;rw[hp,Xf c]⟩
 ·rw[zA1 c];have hp:pl (2+(qh ns:Int))=qh ns:=by unfold pl;omega
  exact⟨zdX (QC ns),by show nd (qp ns (qh ns) n) (pl (2+(qh ns:Int)))=n;rw[hp,Zf (QC ns) _ (.inr rfl),zA2 rfl]⟩
theorem zgj(ns:List Nd)(v:Int)(is:Bool):za (xt ns v is).1 (xt ns v is).2=v/\(nd (xt ns v is).1 (pl (xt ns v is).2)=⟨v,0,1⟩\/nd (xt ns v is).1 (pl (xt ns v is).2)=⟨v,1,0⟩):=by
 unfold xt yi;cases is with
 |true=>simp only[if_true];rw[zA1 (by omega)];exact⟨(JM ns ⟨v,0,1⟩).1,.inl (JM ns ⟨v,0,1⟩).2⟩
 |false=>simp only[Bool.false_eq_true,if_false];rw[zA1 (by omega)];exact⟨(JM ns ⟨v,1,0⟩).1,.inr (JM ns ⟨v,1,0⟩).2⟩
theorem zff{vars:Nat}{ns:List Nd}(hg:zU vars ns){v:Int}(is:Bool)(hv0:0<=v)(hv:v<(vars:Int))(hv24:v<24)(hl:ns.length<=900000):cnt (xt ns v is).1<=cnt ns+1/\(xt ns v is).1.length<=max ns.length (cnt ns+1):=by
 unfold xt;cases is with
 |true =>simp only[if_true];have h:=Q4 hg (v:=v) (l:=0) (h:=1) hl hv0 hv24 hv (ZZ ns) (xT ns) (by rw[Y4];exact hv24) (by rw[Yj];exact hv24);exact⟨h.cnt,h.tight⟩
 |false =>simp only[Bool.false_eq_true,if_false];have h:=Q4 hg (v:=v) (l:=1) (h:=0) hl hv0 hv24 hv (xT ns) (ZZ ns) (by rw[Yj];exact hv24) (by rw[Y4];exact hv24);exact⟨h.cnt,h.tight⟩
def chn:Nat->List Nd->Int->Prop
 |0,_,_=>True
 |d+1,ns,h=>za ns h=24\/(nd ns (pl h)).l=1/\chn d ns (nd ns (pl h)).h\/(nd ns (pl h)).h=1/\chn d ns (nd ns (pl h)).l
theorem zcV{f:Nat->Bool}{v:Nat}{b:Bool}{x:Int}(h:zW x=v):xP (turn f v b) x=(b==decide (0<x)):=by unfold xP;rw[h,Ki]
theorem zdn{f:Nat->Bool}{v:Nat}{b:Bool}{x:Int}(h:zW x≠v):xP (turn f v b) x=xP f x:=by unfold xP;rw[Yq _ _ h]
theorem zbC{f:Nat->Bool}{v:Nat}{b:Bool}{ys:List Int}(h:∃x∈ys,zW x=v/\decide (0<x)=b):clS (turn f v b) ys=true:=by
 obtain⟨x,h1,h2,h3⟩:=h;unfold clS;rw[List.any_eq_true];exact⟨x,h1,by rw[zcV h2,h3];simp⟩
theorem Jp{f:Nat->Bool}{v:Nat}{b:Bool}{ys:List Int}(h:¬∃x∈ys,zW x=v/\decide (0<x)=b):clS (turn f v b) ys=clS f (ys.filter fun x=>decide (zW x≠v)):=by
 unfold clS;rw[Bool.eq_iff_iff,List.any_eq_true,List.any_eq_true];constructor
 ·rintro⟨x,h1,h2⟩
  by_cases e:zW x=v
  ·rw[zcV e] at h2;exact absurd ⟨x,h1,e,by simpa using (beq_iff_eq.1 h2).symm⟩ h
  ·exact⟨x,List.mem_filter.2 ⟨h1,by simpa using e⟩,by rw[zdn e] at h2;exact h2⟩
 ·rintro⟨x,h1,h2⟩;obtain⟨h3,h4⟩:=List.mem_filter.1 h1;exact⟨x,h3,by rw[zdn (by simpa using h4)];exact h2⟩
theorem zeT{vars:Nat}{ns:List Nd}(hg:zU vars ns){h:Int}(ht:za ns h≠24)(f:Nat->Bool)(b:Bool):sem ns (if b=true then (nd ns (pl h)).h else (nd ns (pl h)).l) f=sem ns h (turn f (za ns h).toNat b):=by
 obtain⟨k1,-,k2,-⟩:=ZF hg.ranked ht;have h0:=(qx hg.ranked h).1;rw[Xe hg.ranked ht,Ki];cases b
 ·simp only[Bool.false_eq_true,if_false];exact Yy hg.ranked (fun i hi=>(Yq _ _ (by omega)).symm)
 ·simp only[if_true];exact Yy hg.ranked (fun i hi=>(Yq _ _ (by omega)).symm)
theorem zai{vars:Nat}{ns:List Nd}(hg:zU vars ns):∀(d:Nat) (h:Int) (ys:List Int),zj ns h=true->(∀f,sem ns h f=clS f ys)->chn d ns h
 |0,_,_,_,_=>trivial
 |d+1,h,ys,hh,hs=>by
  unfold chn
  by_cases ht:za ns h=24
  ·exact .inl ht
  ·right;obtain⟨-,j,-,p⟩:=ZF hg.ranked ht;obtain⟨-,hp,-,-⟩:=xj ht;have hv:=XM hg.ranked ht;have u:(nd ns (pl h)).l≠(nd ns (pl h)).h:=hg.red _ hp (by rw[<-(xj ht).2.2.1];exact hv);have o:∀f,sem ns (nd ns (pl h)).l f=clS (turn f (za ns h).toNat false) ys:=fun f=>by rw[<-hs];exact zeT hg ht f false
   have q:∀f,sem ns (nd ns (pl h)).h f=clS (turn f (za ns h).toNat true) ys:=fun f=>by rw[<-hs];exact zeT hg ht f true
   by_cases P:∃x∈ys,zW x=(za ns h).toNat/\decide (0<x)=true
   ·have h1:(nd ns (pl h)).h=1:=KF hg p (xT ns) (fun f=>by rw[q f,zbC P,ZT])
    by_cases N:∃x∈ys,zW x=(za ns h).toNat/\decide (0<x)=false
    ·exact absurd ((KF hg j (xT ns) (fun f=>by rw[o f,zbC N,ZT])).trans h1.symm) u
    ·exact .inr ⟨h1,zai hg d _ _ j (fun f=>by rw[o f,Jp N])⟩
   ·by_cases N:∃x∈ys,zW x=(za ns h).toNat/\decide (0<x)=false
    ·exact .inl ⟨KF hg j (xT ns) (fun f=>by rw[o f,zbC N,ZT]),zai hg d _ _ p (fun f=>by rw[q f,Jp P])⟩
    ·exact absurd (KF hg j p (fun f=>by rw[o f,q f,Jp N,Jp P])) u
theorem Y2{d:Nat}{ns:List Nd}{m:List (Nd × Int)}{k:Nd}(h:∃y,qL true k=some y):(zu d true ns m k).1=ns/\(zu d true ns m k).2.1=m:=by
 obtain⟨y,hy⟩:=h;cases d with
 |zero=>unfold zu;exact⟨rfl,rfl⟩
 |succ d=>unfold zu;rw[hy];exact⟨rfl,rfl⟩
theorem zga(z:Int):∃y,qL true ⟨1,1,z⟩=some y:=⟨1,by unfold qL;rw[zA2 rfl];unfold yA;rw[zA2 (.inl rfl)]⟩
theorem zd8(z:Int):∃y,qL true ⟨z,1,1⟩=some y:=⟨1,by unfold qL;rw[zA2 rfl];unfold yA;rw[zA2 (.inr rfl)]⟩
theorem zcO(z:Int):∃y,qL true ⟨0,1,z⟩=some y:=by
 unfold qL;rw[zA2 rfl];unfold yA
 by_cases h:(1:Int)=z
 ·exact⟨1,by rw[zA2 (.inr h)]⟩
 ·exact⟨z,by rw[zA1 (by rintro (h'|h');cases h';exact h h'),zA2 rfl]⟩
theorem zad{vars:Nat}{x v:Int}(hv24:v<24):∀(d:Nat) (ns:List Nd) (m:List (Nd × Int)) (out:Int),zU vars ns->Qj true ns m->za ns x=v->(nd ns (pl x)=⟨v,0,1⟩\/nd ns (pl x)=⟨v,1,0⟩)->zj ns out=true->chn d ns out->24<=zg ns ⟨x,1,out⟩+d->ns.length+2*2^vars<=900000 ->
  cnt (zu d true ns m ⟨x,1,out⟩).1<=cnt ns+d/\(zu d true ns m ⟨x,1,out⟩).1.length<=max ns.length (cnt ns+d)
 |0,ns,m,out,_,_,_,_,_,_,_,_=>by unfold zu;exact⟨Nat.le_refl _,Nat.le_max_left _ _⟩
 |d+1,ns,m,out,hg,hm,hx,hn,ho,hc,hd,hl=>by
  have j:cnt ns<=cnt ns+(d+1)/\ns.length<=max ns.length (cnt ns+(d+1)):=⟨by omega,Nat.le_max_left _ _⟩;have t1:=Yj ns;have U:=Nat.one_le_two_pow (n:=vars);have Y:zj ns x=true:=by unfold zj;rw[hx];simp[hv24]
  have h3:yJ ns ⟨x,1,out⟩:=⟨Y,xT ns,ho⟩;unfold zu;cases e:qL true ⟨x,1,out⟩ with
  |some y=>exact j
  |none =>
   cases e2:look m ⟨x,1,out⟩ with
   |some y=>exact j
   |none =>
    have hr:=hg.ranked;have o:=Xs hr h3 e;have p:=(QK hr ⟨x,1,out⟩).1;have X:=zam hg o;obtain⟨m1,-,m3⟩:=XH ns ⟨x,1,out⟩;simp only at m1 m3;obtain⟨l3,lt⟩:=zbM hr h3 o;obtain⟨g3,gt⟩:=zbr hr h3 o;have a1:=Xk (vars:=vars) hr (loK ns ⟨x,1,out⟩ (zg ns ⟨x,1,out⟩));have i1:=Qi (op:=true) (vars:=vars) d ns m _ hg hm l3 (by omega) (by omega);have g3':=g3.ext i1.ext;have gm:=Xl g3 i1.ext;have a2:=Xk (vars:=vars) i1.good.ranked (hiK ns ⟨x,1,out⟩ (zg ns ⟨x,1,out⟩));have l1:=i1.len;have i2:=Qi (op:=true) (vars:=vars) d _ _ _ i1.good i1.memo g3' (by rw[gm];omega) (by omega);have l2:=i2.len;have h1':=i2.ext.has _ i1.has;have t1':=i2.ext.top _ i1.has;have V:zg ns ⟨x,1,out⟩=v\/(zg ns ⟨x,1,out⟩≠v/\zg ns ⟨x,1,out⟩=za ns out):=by unfold zg;simp only;rw[hx,t1];omega
    have C:loS ns 1 (zg ns ⟨x,1,out⟩)=1:=by unfold loS;rw[zA1 (by omega)]
    have q:hiS ns 1 (zg ns ⟨x,1,out⟩)=1:=by unfold hiS;rw[zA1 (by omega)]
    have hb:cnt (zu d true (zu d true ns m (loK ns ⟨x,1,out⟩ (zg ns ⟨x,1,out⟩))).1 (zu d true ns m (loK ns ⟨x,1,out⟩ (zg ns ⟨x,1,out⟩))).2.1 (hiK ns ⟨x,1,out⟩ (zg ns ⟨x,1,out⟩))).1<=cnt ns+d /\
      (zu d true (zu d true ns m (loK ns ⟨x,1,out⟩ (zg ns ⟨x,1,out⟩))).1 (zu d true ns m (loK ns ⟨x,1,out⟩ (zg ns ⟨x,1,out⟩))).2.1 (hiK ns ⟨x,1,out⟩ (zg ns ⟨x,1,out⟩))).1.length<=max ns.length (cnt ns+d):=by
     rcases V with hv|⟨hv,ht⟩
     ·have kl:∃y,qL true (loK ns ⟨x,1,out⟩ (zg ns ⟨x,1,out⟩))=some y:=by
       unfold loK;simp only;rw[C,show loS ns x (zg ns ⟨x,1,out⟩)=(nd ns (pl x)).l by unfold loS;rw[zA2 (by omega)]];rcases hn with hn|hn<;>rw[hn]
       ·exact zcO _
       ·exact zga _
      have kh:∃y,qL true (hiK ns ⟨x,1,out⟩ (zg ns ⟨x,1,out⟩))=some y:=by
       unfold hiK;simp only;rw[q,show hiS ns x (zg ns ⟨x,1,out⟩)=(nd ns (pl x)).h by unfold hiS;rw[zA2 (by omega)]];rcases hn with hn|hn<;>rw[hn]
       ·exact zga _
       ·exact zcO _
      rw[(Y2 kl).1,(Y2 kl).2,(Y2 kh).1];exact⟨by omega,Nat.le_max_left _ _⟩
     ·have u:za ns out≠24:=by omega
      have a0:loS ns x (zg ns ⟨x,1,out⟩)=x:=by unfold loS;rw[zA1 (by omega)]
      have M:hiS ns x (zg ns ⟨x,1,out⟩)=x:=by unfold hiS;rw[zA1 (by omega)]
      have Z:loS ns out (zg ns ⟨x,1,out⟩)=(nd ns (pl out)).l:=by unfold loS;rw[zA2 ht.symm]
      have K:hiS ns out (zg ns ⟨x,1,out⟩)=(nd ns (pl out)).h:=by unfold hiS;rw[zA2 ht.symm]
      have el:loK ns ⟨x,1,out⟩ (zg ns ⟨x,1,out⟩)=⟨x,1,(nd ns (pl out)).l⟩:=by unfold loK;simp only;rw[a0,C,Z]
      have eh:hiK ns ⟨x,1,out⟩ (zg ns ⟨x,1,out⟩)=⟨x,1,(nd ns (pl out)).h⟩:=by unfold hiK;simp only;rw[M,q,K]
      rw[el] at lt;rw[eh] at gt;obtain⟨-,R,-,J⟩:=ZF hr u;unfold chn at hc;rcases hc with hc|⟨hc,hk⟩|⟨hc,hk⟩
      ·exact absurd hc u
      ·have kl:∃y,qL true (loK ns ⟨x,1,out⟩ (zg ns ⟨x,1,out⟩))=some y:=by rw[el,hc];exact zd8 _
       rw[(Y2 kl).1,(Y2 kl).2,eh];exact zad hv24 d ns m _ hg hm hx hn J hk (by omega) hl
      ·have kh:∃y,qL true (hiK ns ⟨x,1,out⟩ (zg ns ⟨x,1,out⟩))=some y:=by rw[eh,hc];exact zd8 _
       rw[(Y2 kh).1,el];exact zad hv24 d ns m _ hg hm hx hn R hk (by omega) hl
    have h:=Q4 i2.good (v:=zg ns ⟨x,1,out⟩) (by omega) p o X h1' i2.has (by rw[t1'];have:=i1.top;omega) (by have:=i2.top;rw[gm] at this;omega);have h5:=h.cnt;have h6:=h.tight;exact⟨by show cnt (yi _ _ _ _).1<=_;omega,by show (yi _ _ _ _).1.length<=_;omega⟩
structure EiR(vars:Nat)(ns:List Nd)(ys:List Int)(st:List Nd × Int):Prop where
 good:zU vars st.1
 ext:Ext ns st.1
 has:zj st.1 st.2=true
 sem:∀f,sem st.1 st.2 f=clS f ys
 cnt:cnt st.1<=cnt ns+25*ys.length
 tight:st.1.length<=max ns.length (Go.Proofs.YthifnefkdjkicaaGreatDoor.Bd.cnt ns+25*ys.length)
theorem zm4{vars:Nat}{ns:List Nd}(hg:zU vars ns):EiR vars ns [] (ns,0) :=
 ⟨hg,Ext.refl _,ZZ ns,fun f=>ZJ f,Nat.le_refl _,Nat.le_max_left _ _⟩
def Zq(ns:List Nd)(x:Int):List Nd × Int:=xt ns (zW x:Int) (decide (0<x))
def QP(st:List Nd × Int)(x:Int):List Nd × Int:=xC true (Zq st.1 x).1 ⟨(Zq st.1 x).2,1,st.2⟩
theorem zdQ{vars:Nat}{ns:List Nd}(hg:zU vars ns){x:Int}(hv:zW x<vars)(h24:vars<=24)(hl:ns.length+2^vars<=900000):OpR vars ns (Zq ns x) (fun f=>xP f x):=by
 have:=zlw hg (v:=(zW x:Int)) (decide (0<x)) (by omega) (by omega) (by omega) hl;exact⟨this.good,this.ext,this.has,fun f=>by have:=this.sem f;exact this,this.len,this.cnt,this.tight⟩
theorem EiR.step{vars:Nat}{ns:List Nd}{ys:List Int}{st:List Nd × Int}(h:EiR vars ns ys st){x:Int}(hv:zW x<vars)(h24:vars<=24)(hl:st.1.length+2^vars<=600000)(hpw:2^vars<=100000):EiR vars ns (x :: ys) (QP st x):=by
 have p:=Nat.one_le_two_pow (n:=vars);have hL:=zdQ h.good hv h24 (by omega);have hF:=zff h.good (v:=(zW x:Int)) (decide (0<x)) (by omega) (by omega) (by omega) (by omega);have hN:=zgj st.1 (zW x:Int) (decide (0<x));have o:=hL.len;unfold QP;unfold Zq at *;generalize xt st.1 (zW x:Int) (decide (0<x))=a at *;have ho:zj a.1 st.2=true:=hL.ext.has _ h.has;have h3:yJ a.1 ⟨a.2,1,st.2⟩:=⟨hL.has,xT _,ho⟩;have hp:=Xk (vars:=vars) hL.good.ranked ⟨a.2,1,st.2⟩;have j:∀f,Go.Proofs.YthifnefkdjkicaaGreatDoor.Bd.sem a.1 st.2 f=clS f ys:=fun f=>by rw[xU h.good.ranked hL.ext h.has,h.sem f]
 have q:=(QK hL.good.ranked ⟨a.2,1,st.2⟩).1;have hM:=Qi (op:=true) 24 a.1 [] ⟨a.2,1,st.2⟩ hL.good (JG true a.1) h3 (by omega) (by omega);have hO:=zad (vars:=vars) (x:=a.2) (v:=(zW x:Int)) (by omega) 24 a.1 [] st.2 hL.good (JG true a.1) hN.1 hN.2 ho (zai hL.good 24 st.2 ys ho j) (by omega) (by omega);have hc:=h.cnt;have hT:=h.tight;refine⟨hM.good,h.ext.trans (hL.ext.trans hM.ext),hM.has,fun f=>?_,?_,?_⟩
 ·show Go.Proofs.YthifnefkdjkicaaGreatDoor.Bd.sem (zu 24 true a.1 [] ⟨a.2,1,st.2⟩).1 (zu 24 true a.1 [] ⟨a.2,1,st.2⟩).2.2 f=_;rw[hM.sem f];show opS true (Go.Proofs.YthifnefkdjkicaaGreatDoor.Bd.sem a.1 a.2 f) (Go.Proofs.YthifnefkdjkicaaGreatDoor.Bd.sem a.1 1 f) (Go.Proofs.YthifnefkdjkicaaGreatDoor.Bd.sem a.1 st.2 f)=_;rw[ZT,hL.sem f,j f];simp only[opS,if_true,clS,List.any_cons];cases xP f x<;>simp
 ·have:=hO.1;have:=hF.1;rw[List.length_cons];show Go.Proofs.YthifnefkdjkicaaGreatDoor.Bd.cnt (zu 24 true a.1 [] ⟨a.2,1,st.2⟩).1<=_;omega
 ·have:=hO.2;have:=hF.1;have:=hF.2;rw[List.length_cons];show (zu 24 true a.1 [] ⟨a.2,1,st.2⟩).1.length<=_;omega
def yh(ns:List Nd)(xs:List Int):List Nd × Int:=xs.foldr (fun x st=>QP st x) (ns,0)
theorem Kb{vars:Nat}{ns:List Nd}(hg:zU vars ns)(h24:vars<=24)(hl:ns.length+2^vars<=500000)(hc:cnt ns<=400000)(hpw:2^vars<=100000):∀(xs:List Int),xs.length<=100->(∀x∈xs,zW x<vars)->EiR vars ns xs (yh ns xs)
 |[],_,_=>zm4 hg
 |x :: xs,hn,hx=>by
  have ih:=Kb hg h24 hl hc hpw xs (by simp at hn;omega) (fun y hy=>hx y (List.mem_cons_of_mem _ hy));exact ih.step (hx x (List.mem_cons_self ..)) h24 (by have:=ih.tight;simp at hn;omega) hpw
def yl(st:List Nd × Int)(c:List Int):List Nd × Int :=
 if qE (zo c)=true then xC true st.1 ⟨st.2,1,0⟩ else xC true (yh st.1 (qk (zo c))).1 ⟨st.2,(yh st.1 (qk (zo c))).2,0⟩
def Jf(st:List Nd × Int)(c:List Int):List Nd × Int:=(qy (yl st c).1 (qt (yl st c).1 [(yl st c).2]),(yl st c).2)
def clF(cs:List (List Int)):List Nd × Int:=cs.foldl Jf ([],1)
structure ClR(vars:Nat)(cs:List (List Int))(st:List Nd × Int):Prop where
 good:zU vars st.1
 has:zj st.1 st.2=true
 sem:∀f,sem st.1 st.2 f=cs.all (clS f)
 cnt:cnt st.1+1<=2^vars
 len:st.1.length<=2*2^vars+600
theorem zgv{f:Nat->Bool}{c:List Int}(hl:ql 24 c)(ha:qE (zo c)=false):clS f (qk (zo c))=clS f c:=by
 unfold clS;rw[Bool.eq_iff_iff,List.any_eq_true,List.any_eq_true];exact⟨fun⟨x,h1,h2⟩=>⟨x,(QL hl ha).1 h1,h2⟩,fun⟨x,h1,h2⟩=>⟨x,(QL hl ha).2 h1,h2⟩⟩
theorem zhb{f:Nat->Bool}{c:List Int}(hl:ql 24 c)(ha:qE (zo c)=true):clS f c=true:=by
 obtain⟨x,h1,h2⟩:=(zey hl).2 ha;have h0:=xA.1 (hl x h1);unfold clS;rw[List.any_eq_true];have e:zW (-x)=zW x:=by unfold zW;omega
 by_cases hx:xP f x=true
 ·exact⟨x,h1,hx⟩
 ·refine⟨-x,h2,?_⟩;unfold xP at *;rw[e]
  by_cases hp:0<x
  ·have:¬0 < -x:=by omega
   rw[decide_eq_true hp] at hx;rw[decide_eq_false this];cases hf:f (zW x)<;>simp[hf] at hx ⊢
  ·have:0 < -x:=by omega
   rw[decide_eq_false hp] at hx;rw[decide_eq_true this];cases hf:f (zW x)<;>simp[hf] at hx ⊢
theorem YZ{vars:Nat}{x:Int}(h:yj vars x=true):zW x<vars:=by
 have:=xA.1 h;unfold zW;omega
theorem za5{vars:Nat}(h:vars<=12):2^vars<=4096:=Nat.pow_le_pow_right (by omega) h
theorem zav(s:Nat × Nat):(qk s).length<=24:=zbV s 24
theorem zfj{vars:Nat}(h24:vars<=24){c:List Int}(hl:ql vars c):(qk (zo c)).length<=vars:=by
 have j:∀k,vars+k<=24->yB (zo c) (vars+k)=yB (zo c) vars:=by
  intro k
  induction k with
  |zero=>intro _;rfl
  |succ k ih =>
   intro hk;have h1:(zo c).1.testBit (vars+k)=false:=by
    rw[Yi,decide_eq_false_iff_not];rintro⟨-,h⟩;have:=xA.1 (hl _ h);omega
   have h2:(zo c).2.testBit (vars+k)=false:=by
    rw[Yl,decide_eq_false_iff_not];rintro⟨-,h⟩;have:=xA.1 (hl _ h);omega
   rw[show vars+(k+1)=(vars+k)+1 by omega,zaO,ih (by omega)];unfold y7;rw[zA1 (by rw[h1];simp),zA1 (by rw[h2];simp)];simp
 have:=j (24-vars) (by omega);rw[show vars+(24-vars)=24 by omega] at this;show (yB (zo c) 24).length<=vars;rw[this];exact zbV _ _
theorem zdR{vars:Nat}{cs:List (List Int)}{st:List Nd × Int}(h:ClR vars cs st)(h12:vars<=12){c:List Int}(hl:ql vars c) :
  OpR vars (if qE (zo c)=true then st.1 else (yh st.1 (qk (zo c))).1) (yl st c) (fun f=>cs.all (clS f)&&clS f c):=by
 have hp:=za5 h12;have j:ql 24 c:=fun x hx=>QM (by omega) (hl x hx);have hc:=h.cnt;have hn:=h.len
 by_cases ha:qE (zo c)=true
 ·unfold yl;rw[zA2 ha,zA2 ha];have:=zd5 true h.good (k:=⟨st.2,1,0⟩) ⟨h.has,xT _,ZZ _⟩ (by omega);refine⟨this.good,this.ext,this.has,fun f=>?_,this.len,this.cnt,this.tight⟩;rw[this.sem f,ZT,ZJ,h.sem f,zhb j ha];simp only[opS,if_true];cases cs.all (clS f)<;>rfl
 ·have ha':qE (zo c)=false:=by simpa using ha
  have hv:∀x∈qk (zo c),zW x<vars:=fun x hx=>YZ (hl x ((QL j ha').1 hx));have he:=Kb h.good (by omega) (by omega) (by omega) (by omega) (qk (zo c)) (by have:=zav (zo c);omega) hv;have ht:=he.tight;have o:=zav (zo c);unfold yl;rw[zA1 ha,zA1 ha];have:=zd5 true he.good (k:=⟨st.2,(yh st.1 (qk (zo c))).2,0⟩) ⟨he.ext.has _ h.has,he.has,ZZ _⟩ (by omega);refine⟨this.good,this.ext,this.has,fun f=>?_,this.len,this.cnt,this.tight⟩;rw[this.sem f,ZJ,xU h.good.ranked he.ext h.has,h.sem f,he.sem f,zgv j ha'];simp only[opS,if_true];cases cs.all (clS f)<;>simp
theorem zgJ{vars:Nat}{cs:List (List Int)}{st:List Nd × Int}(h:ClR vars cs st)(h12:vars<=12){c:List Int}(hl:ql vars c):ClR vars (cs++[c]) (Jf st c):=by
 have h1:=zdR h h12 hl;have hp:=za5 h12;have j:ql 24 c:=fun x hx=>QM (by omega) (hl x hx);have hc:=h.cnt;have hn:=h.len;have hb:cnt (if qE (zo c)=true then st.1 else (yh st.1 (qk (zo c))).1)<=cnt st.1+600/\(if qE (zo c)=true then st.1 else (yh st.1 (qk (zo c))).1).length<=max st.1.length (cnt st.1+600):=by
  by_cases ha:qE (zo c)=true
  ·rw[zA2 ha];exact⟨by omega,by omega⟩
  ·rw[zA1 ha];have ha':qE (zo c)=false:=by simpa using ha
   have hv:∀x∈qk (zo c),zW x<vars:=fun x hx=>YZ (hl x ((QL j ha').1 hx));have o:=zav (zo c);have he:=Kb h.good (by omega) (by omega) (by omega) (by omega) (qk (zo c)) (by omega) hv;exact⟨by have:=he.cnt;omega,by have:=he.tight;omega⟩
 generalize (if qE (zo c)=true then st.1 else (yh st.1 (qk (zo c))).1)=ns1 at *;have hk:=zo4 h1.good (fs:=[(yl st c).2]) (List.mem_singleton.2 rfl) h1.has;have ht:=h1.tight;refine⟨zpj h1.good _,hk.1,fun f=>?_,zhO h1.good _,?_⟩
 ·show Go.Proofs.YthifnefkdjkicaaGreatDoor.Bd.sem (qy (yl st c).1 (qt (yl st c).1 [(yl st c).2])) (yl st c).2 f=_;rw[hk.2 f,h1.sem f,List.all_append];simp
 ·show (qy _ _).length<=_;rw[Zv];omega
theorem zcn(cs:List (List Int))(c:List Int):clF (cs++[c])=Jf (clF cs) c:=by unfold clF;rw[List.foldl_append];rfl
theorem zhZ(vars:Nat):zU vars []:=⟨⟨fun j h=>by simp at h,fun j h=>by simp at h,fun j h=>by simp at h,fun j h=>by simp at h⟩,fun i j h=>by simp at h,fun i h=>by simp at h,fun i h=>by simp at h,fun i h=>by simp at h⟩
theorem zpI(vars:Nat):ClR vars [] ([],1) :=
 ⟨zhZ vars,xT _,fun f=>by rw[ZT];rfl,by show cnt []+1<=_;have:=Nat.one_le_two_pow (n:=vars);simpa[cnt] using this,Nat.zero_le _⟩
theorem za9{vars:Nat}(h12:vars<=12)(cs:List (List Int))(hl:yP vars cs):∀k,k<=cs.length->ClR vars (cs.take k) (clF (cs.take k))
 |0,_=>by rw[List.take_zero];exact zpI vars
 |k+1,hk=>by
  have ih:=za9 h12 cs hl k (by omega);rw[List.take_succ_eq_append_getElem (by omega),zcn];exact zgJ ih h12 (hl _ (List.getElem_mem _))
theorem zf8{vals:Nat}{x:Int}(h:yj 24 x=true):xP (zM vals) x=QR vals x:=by
 have h0:=xA.1 h;unfold xP QR yq zM zW;rw[h,Bool.true_and]
 by_cases hp:0<x
 ·rw[zA2 hp,decide_eq_true hp,show x.natAbs-1=x.toNat-1 by omega];simp
 ·rw[zA1 hp,decide_eq_false hp,show x.natAbs-1=(-x).toNat-1 by omega];cases vals.testBit ((-x).toNat-1)<;>rfl
theorem ze4{vals:Nat}{c:List Int}(h:ql 24 c):clS (zM vals) c=ZE vals c:=by
 unfold clS ZE;rw[Bool.eq_iff_iff,List.any_eq_true,List.any_eq_true];exact⟨fun⟨x,h1,h2⟩=>⟨x,h1,by rw[<-zf8 (h x h1)];exact h2⟩,fun⟨x,h1,h2⟩=>⟨x,h1,by rw[zf8 (h x h1)];exact h2⟩⟩
end Bd
namespace Bd
open Go.RowKit Go.Maps
structure zx(B:Nat)(w:World)(s b:Nat)(O:Nat->Prop)(vars:Nat)(room:Int)(ns:List Nd):Prop where
 arena:∃bm v L next,zP B w b bm v ns L room next/\ZQ ns L/\(∃i:Nat,next=2+(i:Int)/\i<=ns.length/\∀j,j<i->(nd ns j).v<24)/\(∀k,Own b bm v k->O k)
 own:∀k,O k->B<=k/\k<w.heap.size
 sO:¬O s
 slt:s<w.heap.size
 c0:w.cell? s=some (.pointer (some b))
 c1:w.cell? ⟨s,1,none⟩=some (.int .i64 vars)
def qi(w:World)(k:Nat):Prop:=∃o:Obj,w.heap[k]?=some o/\o.isCells=true
theorem qi.lt{w:World}{k:Nat}(h:qi w k):k<w.heap.size:=by
 obtain⟨o,h1,-⟩:=h;exact(Array.getElem?_eq_some_iff.1 h1).1
theorem qi.kept{w w':World}{S:Nat->Prop}{k:Nat}(h:qi w k)(hk:zc S w w')(hn:¬S k):qi w' k:=by
 obtain⟨o,h1,h2⟩:=h;exact⟨o,(hk.block k (Array.getElem?_eq_some_iff.1 h1).1 hn).trans h1,h2⟩
theorem qi.below{w w':World}{k:Nat}(h:qi w k)(hb:zB w w'):qi w' k:=h.kept (zc.of_below hb (fun _=>False)) (fun h=>h)
theorem znI{w:World}{a:Addr}{v:Value}(h:w.cell? a=some v):qi w a.block:=by
 unfold World.cell? at h;cases e:w.heap[a.block]? with
 |none=>rw[e] at h;cases h
 |some o =>rw[e] at h;cases o<;>first|exact⟨_,e,rfl⟩|cases h
theorem zem{w:World}{P:Program}{k:TypeId}{R:Value->Option (DataW Unit × List MemPlace)}{bm n:Nat}{D:DataW Unit}(h:w.ownsMap P k R bm n D):¬qi w bm:=by
 obtain⟨es,j,hb,-⟩:=h;rintro⟨o,h1,h2⟩;rw[hb] at h1;cases h1;cases h2
theorem zgr{W:World}{B t k n:Nat}{v:Value}{cs:List Value}(h:W.ownsRow B t k v n cs):∀(j:Nat) (o:Obj),v.ownBlock=some j->W.heap[j]?=some o->o.isCells=true:=by
 intro j o hj ho;rcases h.2 with ⟨rfl,_⟩|⟨g,p,q,rfl,_,hg,_⟩
 ·simp[Value.ownBlock] at hj
 ·simp only[Value.ownBlock,Option.some.injEq] at hj;subst hj;rw[hg] at ho;cases ho;rfl
theorem zme{W:World}{B t k n:Nat}{v:Value}{cs:List Value}(h:W.ownsRow B t k v n cs){j:Nat}(hj:v.ownBlock=some j):qi W j:=by
 have hl:=(h.lt j hj).2;obtain⟨o,ho⟩:∃o,W.heap[j]?=some o:=⟨_,Array.getElem?_eq_getElem hl⟩;exact⟨o,ho,zgr h j o hj ho⟩
structure zV(O O':Nat->Prop)(w w':World):Prop where
 kept:zc O w w'
 own:∀k,O' k->O k\/w.heap.size<=k
 map:∀k,O' k->qi w' k\/(O k/\¬qi w k)
section
variable {B s b:Nat} {O O' O'':Nat->Prop} {vars:Nat} {room:Int} {ns:List Nd} {w w' w'':World}
theorem zx.kept{S:Nat->Prop}(h:zx B w s b O vars room ns)(hk:zc S w w')(hn:∀k,O k->¬S k)(hs:¬S s):zx B w' s b O vars room ns:=by
 obtain⟨bm,v,L,next,hA,hB,hN,hO⟩:=h.arena;exact ⟨⟨bm,v,L,next,hA.kept hk (fun k hk=>hn k (hO k hk)),hB,hN,hO⟩,fun k j=>⟨(h.own k j).1,Nat.lt_of_lt_of_le (h.own k j).2 hk.size⟩,h.sO,Nat.lt_of_lt_of_le h.slt hk.size,
  (hk.cell (a:=s) h.slt hs).trans h.c0,(hk.cell (a:=⟨s,1,none⟩) h.slt hs).trans h.c1⟩
theorem zx.new(h:zx B w s b O vars room ns)(hb:zB w w'):zx B w' s b O vars room ns:=h.kept (zc.of_below hb (fun _=>False)) (fun _ _ h=>h) (fun h=>h)
theorem zx.old(h:zx B w s b O vars room ns){j:Nat}(hj:w.heap.size<=j):¬O j:=fun ho=>by have:=(h.own j ho).2;omega
theorem zV.refl(O:Nat->Prop)(w:World):zV O O w w:=⟨zc.refl _ _,fun _ h=>.inl h,fun k h=>(Classical.em (qi w k)).imp id (fun n=>⟨h,n⟩)⟩
theorem zV.of_below(O:Nat->Prop)(hb:zB w w'):zV O O w w':=⟨zc.of_below hb _,fun _ h=>.inl h,fun k h=>(Classical.em (qi w k)).imp (fun c=>c.below hb) (fun n=>⟨h,n⟩)⟩
theorem zV.trans(h:zV O O' w w')(k:zV O' O'' w' w''):zV O O'' w w'' :=
 ⟨h.kept.andThen k.kept (fun i hi j=>(h.own i hi).elim id (fun h=>by omega)),fun i hi=>by
  rcases k.own i hi with h1|h1
  ·exact h.own i h1
  ·exact .inr (Nat.le_trans h.kept.size h1),fun i hi=>by
  rcases k.map i hi with h1|⟨h1,h2⟩
  ·exact .inl h1
  ·rcases h.map i h1 with h3|h3
   ·exact absurd h3 h2
   ·exact .inr h3⟩
theorem zV.size(h:zV O O' w w'):w.heap.size<=w'.heap.size:=h.kept.size
theorem zV.cell(h:zV O O' w w'){a:Addr}(hlt:a.block<w.heap.size)(hn:¬O a.block):w'.cell? a=w.cell? a:=h.kept.cell hlt hn
theorem zV.beside(h:zV O O' w w'){j:Nat}(hlt:j<w.heap.size)(hn:¬O j):¬O' j:=fun ho=>by
 rcases h.own j ho with h1|h1
 ·exact hn h1
 ·omega
theorem zV.below{B:Nat}(h:zV O O' w w')(hB:B<=w.heap.size)(ho:∀k,O k->B<=k):Below B w w':=h.kept.below hB ho
theorem zx.moved{bm:Nat}{v v':Value}{ns':List Nd}{L':List (Nd × Int)}{next':Int}(h:zx B w s b O vars room ns)(hbm0:¬qi w bm)(hO:∀k,Own b bm v k->O k)(hA:zP B w' b bm v' ns' L' room next')(hB:ZQ ns' L')(hN:∃i:Nat,next'=2+(i:Int)/\i<=ns'.length/\∀j,j<i->(nd ns' j).v<24)
  (hk:zc (Own b bm v) w w') (hv:v'.ownBlock=v.ownBlock\/∃g,v'.ownBlock=some g/\w.heap.size<=g):∃O',zx B w' s b O' vars room ns'/\zV O O' w w':=by
 have hs:¬Own b bm v s:=fun ho=>h.sO (hO s ho);obtain⟨D,hD,-⟩:=hA.hmap;have o:=hD.lt;refine⟨Own b bm v',⟨⟨bm,v',L',next',hA,hB,hN,fun _ h=>h⟩,?_,?_,Nat.lt_of_lt_of_le h.slt hk.size,(hk.cell (a:=s) h.slt hs).trans h.c0,(hk.cell (a:=⟨s,1,none⟩) h.slt hs).trans h.c1⟩,hk.mono hO,?_,?_⟩
 ·rintro k (e|e|e)
  ·have:=h.own k (hO k (.inl e));exact⟨this.1,Nat.lt_of_lt_of_le this.2 hk.size⟩
  ·have:=h.own k (hO k (.inr (.inl e)));exact⟨this.1,Nat.lt_of_lt_of_le this.2 hk.size⟩
  ·exact hA.row.lt k e
 ·rintro (e|e|e)
  ·exact h.sO (hO s (.inl e))
  ·exact h.sO (hO s (.inr (.inl e)))
  ·rcases hv with h1|⟨g,h1,h2⟩
   ·exact h.sO (hO s (.inr (.inr (by rw[<-h1];exact e))))
   ·rw[h1] at e;cases e;have:=h.slt;omega
 ·rintro k (e|e|e)
  ·exact .inl (hO k (.inl e))
  ·exact .inl (hO k (.inr (.inl e)))
  ·rcases hv with h1|⟨g,h1,h2⟩
   ·exact .inl (hO k (.inr (.inr (by rw[<-h1];exact e))))
   ·rw[h1] at e;cases e;exact .inr h2
 ·rintro k (e|e|e)
  ·rw[e];exact .inl (znI hA.croom)
  ·rw[e];exact .inr ⟨hO bm (.inr (.inl rfl)),hbm0⟩
  ·exact .inl (zme hA.row e)
theorem zde:∀ns:List Nd,(QW ns).length=cnt ns:=by
 intro ns;unfold QW cnt;have j:(ns.map fun n=>decide (n.v<24))=(List.range ns.length).map fun i=>decide ((nd ns i).v<24):=by
  apply List.ext_getElem (by simp);intro i h1 h2;simp at h1 h2;simp[ZY ns i h1]
 rw[<-List.countP_eq_length_filter,<-List.countP_eq_length_filter];have e1:List.countP (fun n:Nd=>decide (n.v<24)) ns=List.countP (fun b:Bool=>b) (ns.map fun n=>decide (n.v<24)):=by rw[List.countP_map];rfl
 have e2:List.countP (fun i=>decide ((nd ns i).v<24)) (List.range ns.length)=List.countP (fun b:Bool=>b) ((List.range ns.length).map fun i=>decide ((nd ns i).v<24)):=by rw[List.countP_map];rfl
 rw[e1,e2,j]
theorem zj6(hS:zx B w s b O vars room ns)(hl:ns.length<=90000)(hroom:(cnt ns:Int)<room)(hB:B<=w.heap.size)(n:Nd)(hn:n.Ok)(hf:Fit ns n) :
  zC 209 #[.pointer (some b),n.val] w fun e w'=>e=.returned (.tuple #[.int .i64 (Zp ns n).2,.nilIface])/\∃O',zx B w' s b O' vars room (Zp ns n).1/\zV O O' w w':=by
 obtain⟨bm,v,L,next,hA,q,⟨i,K,M,R⟩,hO⟩:=hS.arena;have X:L.length<=ns.length:=by rw[KW q];exact zdE ns
 have V:L.length<=cnt ns:=by rw[KW q];exact Nat.le_of_eq (zde ns)
 unfold Zp
 by_cases c:idx ns n<ns.length
 ·rw[zA2 c];have U:(n,2+(idx ns n:Int))∈L:=by
   have:=q.all _ c (by rw[Xf c];exact hf.v1)
   rwa [Xf c] at this
  exact(zhU hA (by omega) n hn hf _ U).mono fun e w' ⟨he,hb⟩=>⟨he,O,hS.new hb,zV.of_below O hb⟩
 ·rw[zA1 c];have u:n∉L.map Prod.fst:=fun h=>by
   obtain⟨p,hp,rfl⟩:=List.mem_map.1 h;obtain⟨j,hj,-,rfl⟩:=q.mem p hp;exact ze2 c hj rfl
  refine(zmQ hA (by omega) n hn hf u (by omega) (by omega) i K M hB).mono ?_;rintro e w' ⟨k,v',rfl,hk,y,o,C,hK,hv⟩;have hocc':∀j,j<k->(nd ns j).v<24:=fun j hj=>by
   by_cases h:j<i
   ·exact R j h
   ·exact y j (by omega) hj
  obtain rfl:k=qh ns:=zjc hk hocc' o;refine⟨rfl,hS.moved (by obtain⟨D0,J,-⟩:=hA.hmap;exact zem J) hO C (zjG q hk o hf.v1 u) ⟨qh ns,rfl,?_,fun j hj=>?_⟩ hK hv⟩
  ·have:=(za8 (n:=n) hk).2;exact Nat.le_trans hk this
  ·show (nd (qp ns (qh ns) n) j).v<24;rw[Zf hk j (by omega),zA1 (by omega)];exact hocc' j hj
theorem zdp(hS:zx B w s b O vars room ns)(h:Int)(hi:I64 h)(hl:ns.length<=90000) :
  zC 65 #[.pointer (some b),h] w fun e w'=>e=.returned (.bool (zj ns h))/\w=w':=by
 obtain⟨bm,v,L,next,hA,-⟩:=hS.arena;exact KK hA h hi (by omega)
theorem zdY(hS:zx B w s b O vars room ns)(h:Int)(hi:I64 h)(hl:ns.length<=90000) :
  zC 98 #[.pointer (some b),h] w fun e w'=>e=.returned (.int .i64 (za ns h))/\w=w':=by
 obtain⟨bm,v,L,next,hA,-⟩:=hS.arena;exact Xr hA h hi (by omega)
theorem Jc(hS:zx B w s b O vars room ns)(h:Int)(hi:I64 h)(hl:ns.length<=90000) :
  zR 181 #[.pointer (some b),h] w (.tuple #[(zt ns h).val,.bool (decide (za ns h≠24))]):=by
 obtain⟨bm,v,L,next,hA,-⟩:=hS.arena;exact XV hA h hi (by omega)
theorem znm(hS:zx B w s b O vars room ns)(hr:qd ns)(hl:ns.length<=90000)(hB:B<=w.heap.size)(bf:Nat){cp:Nat}(fs:List Int)(hF:ZC w bf fs)(hfl:fs.length<=1000) :
  zC 96 #[.pointer (some b),.slice (some bf) fs.length cp] w fun e w'=>∃n:Int,e=.returned (.int .i64 n)/\∃O',zx B w' s b O' vars room (qy ns (qt ns fs))/\zV O O' w w':=by
 obtain⟨bm,v,L,next,hA,o,-,hO⟩:=hS.arena;have u:L.length<=ns.length:=by rw[KW o];exact zdE ns
 refine(zlm hr o (by omega) hA bf fs hF hfl hB (by omega)).mono ?_;rintro e w' ⟨rfl,p,hK⟩;exact⟨_,rfl,hS.moved (by obtain⟨D0,q,-⟩:=hA.hmap;exact zem q) hO p (zoa o) ⟨0,rfl,Nat.zero_le _,fun j h=>by omega⟩ hK (.inl rfl)⟩
end
end Bd
end Go.Proofs.YthifnefkdjkicaaGreatDoor
