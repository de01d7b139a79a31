/- plan: just, items; slices.IndexFunc of ints. -/
import Derived.Test.YtlamemjfaogjmaaGreatDoorAb
import Derived.Shelf.Small.Bits
import Derived.WalkSpells
import Derived.WalkLawsBesides
import Derived.Deep.DeepCutAuto
import Derived.Deep.Light
import Derived.Lib.QuietBelow
import Derived.BigQuiet
import Derived.Deep.RegionHeld3
import Derived.Deep.Slices
import Derived.RangeFuncBound
import Derived.OneCell
import Derived.Deep.AppendLies
import Derived.Deep.RegionLaw
open Go.Proofs.YtlamemjfaogjmaaGreatDoor
set_option maxHeartbeats 1000000
set_option maxRecDepth 100000
namespace Go.Proofs.YtlamemjfaogjmaaGreatDoor
def yC(l:List Nat):Nat:=l.foldl (fun o k=>o|||2^k) 0
theorem zg6(l:List Nat)(i:Nat):∀a,(l.foldl (fun o k=>o|||2^k) a).testBit i=(a.testBit i||decide (i∈l)):=by
 induction l with
 |nil=>intro a;simp
 |cons x l ih =>
  intro a;rw[List.foldl_cons,ih,Nat.testBit_or,Nat.testBit_two_pow,Bool.or_assoc];congr 1
  by_cases h:x=i
  ·simp[h]
  ·simp[h,Ne.symm h]
theorem Kc(l:List Nat)(i:Nat):(yC l).testBit i=decide (i∈l):=by
 unfold yC;rw[zg6];simp
theorem zf8{x n:Nat}(h:∀i,n<=i->x.testBit i=false):x<2^n:=Nat.lt_pow_two_of_testBit x h
theorem KW(l:List Nat)(n:Nat)(h:∀x∈l,x<n):yC l<2^n:=zf8 fun i hi=>by
 rw[Kc,decide_eq_false_iff_not];intro hm;have:=h i hm;omega
theorem zcI(l:List Nat)(k:Nat):yC (l++[k])=yC l|||2^k:=by unfold yC;rw[List.foldl_append];rfl
theorem xw{x n i:Nat}(h:x<2^n)(hi:n<=i):x.testBit i=false:=Nat.testBit_lt_two_pow (Nat.lt_of_lt_of_le h (Nat.pow_le_pow_right (by decide) hi))
theorem Ql(x y:Nat):x&&&y=0↔∀i,¬(x.testBit i=true/\y.testBit i=true):=by
 constructor
 ·intro h i ⟨h1,h2⟩;have:=Nat.testBit_and x y i;rw[h,h1,h2] at this;simp at this
 ·intro h;apply Nat.eq_of_testBit_eq;intro i;rw[Nat.testBit_and,Nat.zero_testBit];have:=h i;cases h1:x.testBit i<;>cases h2:y.testBit i<;>simp_all
theorem Yj(x n:Nat):x/2^n=0↔x<2^n:=by
 rw[Nat.div_eq_zero_iff];have:0<2^n:=Nat.two_pow_pos n;omega
def qZ(x:Nat):Nat:=((List.range 24).filter fun i=>x.testBit i).length
def b8(x:Nat):Nat:=((List.range 8).filter fun i=>x.testBit i).length
def oc1(M x:Nat):Nat:=((x/2)&&&M)+(x&&&M)
def oc2(M x:Nat):Nat:=((x/4)&&&M)+(x&&&M)
def oc3(M x:Nat):Nat:=(x/16+x)&&&M
theorem ZN(k a r c M:Nat)(ha:a<2^k)(hc:c<2^k):(a+2^k*r)&&&(c+2^k*M)=(a&&&c)+2^k*(r&&&M):=by
 apply Nat.eq_of_testBit_eq;intro i;have hac:a&&&c<2^k:=Nat.lt_of_le_of_lt Nat.and_le_left ha;rw[Nat.testBit_and,Nat.add_comm a,Nat.add_comm c,Nat.add_comm (a&&&c),Nat.testBit_two_pow_mul_add _ ha,Nat.testBit_two_pow_mul_add _ hc,Nat.testBit_two_pow_mul_add _ hac];split
 ·rw[Nat.testBit_and]
 ·rw[Nat.testBit_and]
theorem zcw:∀a:Fin 256,∀b:Fin 2,((a.val+256*b.val)/2&&&85)=(a.val/2&&&85)/\oc1 85 a.val<256:=by decide +kernel
theorem zeh:∀a:Fin 256,∀b:Fin 4,((a.val+256*b.val)/4%256&&&51)=(a.val/4&&&51):=by decide +kernel
theorem XE:∀a:Fin 256,oc3 15 (oc2 51 (oc1 85 a.val))=b8 a.val/\oc1 85 a.val<256/\oc2 51 (oc1 85 a.val)<256/\(oc2 51 (oc1 85 a.val))%16<=4/\(oc2 51 (oc1 85 a.val))/16<=4/\b8 a.val<=8:=by decide +kernel
theorem zcG:∀p:Fin 5,∀q:Fin 5,∀b:Fin 16,((p.val+16*q.val)/16+b.val*16+(p.val+16*q.val))%256&&&15=(q.val+p.val)/\((p.val+16*q.val)/16+(p.val+16*q.val))&&&15=q.val+p.val:=by decide +kernel
end Go.Proofs.YtlamemjfaogjmaaGreatDoor
namespace Go.Proofs
open Go.Shelf
def Tryz.lays125_ren:Go.Shelf.Ren:=⟨fun|125=>47|128=>74|129=>75|n=>n,fun|46=>22|3=>3|51=>151|53=>153|4=>4|5=>5|9=>9|n=>n,fun|n=>n⟩
theorem Tryz.lays125:Go.Proofs.Lays.n125 Tryz.prog Tryz.lays125_ren:={
 mixed:=by kernel_rfl
 f125:=zK Tryz.func47 (by kernel_rfl)
 f128:=zK Tryz.func74 (by kernel_rfl)
 f129:=zK Tryz.func75 (by kernel_rfl)
 t3:=Tryz.underlying3
 a3:=Tryz.isAgg3
 z3:=Tryz.sizeOf3
 v3:=Tryz.zeroValue3
 t4:=Tryz.underlying4
 a4:=Tryz.isAgg4
 z4:=Tryz.sizeOf4
 v4:=Tryz.zeroValue4
 t5:=Tryz.underlying5
 a5:=Tryz.isAgg5
 z5:=Tryz.sizeOf5
 v5:=Tryz.zeroValue5
 t9:=Tryz.underlying9
 a9:=Tryz.isAgg9
 z9:=Tryz.sizeOf9
 v9:=Tryz.zeroValue9
 t46:=Tryz.underlying22
 a46:=Tryz.isAgg22
 z46:=Tryz.sizeOf22
 v46:=Tryz.zeroValue22
 t51:=Tryz.underlying151
 a51:=Tryz.isAgg151
 z51:=Tryz.sizeOf151
 v51:=Tryz.zeroValue151
 t53:=Tryz.underlying153
 a53:=Tryz.isAgg153
 z53:=Tryz.sizeOf153
 v53:=Tryz.zeroValue153 }
theorem Tryz.bits_Len(x:Int)(w:World)(h0:0<=x)(h1:x<=18446744073709551615) :
  zC 47 #[.int .u64 x] w fun e w'=>e=.returned (.int .i64 (Lib.bitLen x.toNat))/\w'=w:=Any.bits_Len Tryz.lays125 x w h0 h1
end Go.Proofs
namespace Go.Proofs.YtlamemjfaogjmaaGreatDoor
theorem Qs(w:World)(v:Value)(t:TypeId):(w.alloc (.cells #[v] t)).cell? ⟨w.heap.size,0,none⟩=some v:=by simp
theorem KG(w:World)(v:Value)(t:TypeId):(w.alloc (.cells #[v] t)).frozen? ⟨w.heap.size,0,none⟩=false:=by simp
end Go.Proofs.YtlamemjfaogjmaaGreatDoor
namespace Go.Proofs.YtlamemjfaogjmaaGreatDoor
open Go.RowKit
theorem qE(w:World)(o:Obj):zB w (w.alloc o):=zF.alloc zN _
theorem Zq(a:Addr)(i:Nat):(a.add i).block=a.block:=by unfold Addr.add;split<;>rfl
def zW(w:World)(a:Option Addr)(xs:List Int):Prop :=
 ∀i,i<xs.length->∃ad:Addr,a=some ad/\ad.block<w.heap.size/\w.cell? (ad.add i)=some (.int .i64 (xs.getD i 0))
theorem zW.below{w w':World}{a:Option Addr}{xs:List Int}(h:zW w a xs)(hb:zB w w'):zW w' a xs:=by
 intro i hi;obtain⟨ad,ha,hl,hc⟩:=h i hi;exact⟨ad,ha,Nat.lt_of_lt_of_le hl hb.size,(hb.cell (by rw[Zq];exact hl)).trans hc⟩
theorem zW.nil(w:World)(a:Option Addr):zW w a []:=fun i hi=>by simp at hi
def Xf(w:World)(a:Option Addr)(l:List (List Int)):Prop :=
 ∀i,i<l.length->∃(ad:Addr) (a':Option Addr) (cap:Nat),a=some ad/\ad.block<w.heap.size/\w.cell? (ad.add i)=some (.slice a' (l.getD i []).length cap)/\(l.getD i []).length<=cap/\cap<=9223372036854775807/\zW w a' (l.getD i [])
theorem Xf.below{w w':World}{a:Option Addr}{l:List (List Int)}(h:Xf w a l)(hb:zB w w'):Xf w' a l:=by
 intro i hi;obtain⟨ad,a',cap,ha,hl,hc,h1,h2,h3⟩:=h i hi;exact⟨ad,a',cap,ha,Nat.lt_of_lt_of_le hl hb.size,(hb.cell (by rw[Zq];exact hl)).trans hc,h1,h2,h3.below hb⟩
theorem zbp{α:Type}{l:List α}{i:Nat}{d:α}(h:i<l.length):l.getD i d∈l:=by
 rw[List.getD_eq_getElem?_getD,List.getElem?_eq_getElem h];exact List.getElem_mem h
def yR{α:Type}(p:α->Bool)(xs:List α):Int:=match xs.findIdx? p with|some i=>(i:Int)|none=>-1
theorem zgW{α:Type}{p:α->Bool}{xs:List α}{k:Nat}{d:α}(h0:∀j,j<k->p (xs.getD j d)=false)(hk:k<xs.length)(h1:p (xs.getD k d)=true):yR p xs=(k:Int):=by
 have:xs.findIdx? p=some k:=by
  rw[List.findIdx?_eq_some_iff_getElem];refine⟨hk,?_,fun j hj=>?_⟩
  ·rw[List.getD_eq_getElem?_getD,List.getElem?_eq_getElem hk] at h1;exact h1
  ·have:=h0 j hj;rw[List.getD_eq_getElem?_getD,List.getElem?_eq_getElem (by omega)] at this;simpa using this
 simp[yR,this]
theorem zce{α:Type}{p:α->Bool}{xs:List α}{d:α}(h0:∀j,j<xs.length->p (xs.getD j d)=false):yR p xs=-1:=by
 have:xs.findIdx? p=none:=by
  rw[List.findIdx?_eq_none_iff];intro x hx;obtain⟨j,hj,rfl⟩:=List.getElem_of_mem hx;have:=h0 j hj;rw[List.getD_eq_getElem?_getD,List.getElem?_eq_getElem hj] at this;simpa using this
 simp[yR,this]
end Go.Proofs.YtlamemjfaogjmaaGreatDoor
namespace Go.Proofs.YtlamemjfaogjmaaGreatDoor
open Go.RowKit
def Blk(W:World)(b:Nat)(t:TypeId)(cs:Array Value):Prop:=W.heap[b]?=some (.cells cs t (0,0))
theorem Blk.lt{W:World}{b:Nat}{t:TypeId}{cs:Array Value}(h:Blk W b t cs):b<W.heap.size:=(Array.getElem?_eq_some_iff.1 h).1
theorem Blk.cell{W:World}{b:Nat}{t:TypeId}{cs:Array Value}(h:Blk W b t cs)(i:Nat):W.cell? ⟨b,i,none⟩=cs[i]?:=by
 simp[World.cell?,show W.heap[b]?=_ from h]
theorem Blk.frozen{W:World}{b:Nat}{t:TypeId}{cs:Array Value}(h:Blk W b t cs)(i:Nat):W.frozen? ⟨b,i,none⟩=false:=by simp[World.frozen?,show W.heap[b]?=_ from h]
theorem Blk.new(W:World)(t:TypeId)(cs:Array Value):Blk (W.alloc (.cells cs t)) W.heap.size t cs:=World.alloc_heap_new W _
theorem Blk.kept{W W':World}{row:Option Nat}{b:Nat}{t:TypeId}{cs:Array Value}(h:Blk W b t cs)(hg:W.grownBy W' row)(hne:some b≠row):Blk W' b t cs:=(hg.block b h.lt hne).trans h
theorem Blk.alloc{W:World}{b:Nat}{t:TypeId}{cs:Array Value}(h:Blk W b t cs)(o:Obj):Blk (W.alloc o) b t cs:=h.kept (World.grownBy_alloc W o none) (by simp)
theorem Blk.below{B:Nat}{W W':World}{b:Nat}{t:TypeId}{cs:Array Value}(h:Blk W b t cs)(hb:Below B W W')(hB:b<B):Blk W' b t cs:=(hb.block b hB).trans h
theorem Blk.other{W:World}{b b' i:Nat}{t:TypeId}{cs:Array Value}{v:Value}(h:Blk W b t cs)(hne:b≠b'):Blk (W.setCell ⟨b',i,none⟩ v) b t cs:=(Below.heap_setCell _ _ _ b hne).trans h
theorem Blk.put{W:World}{b l:Nat}{t:TypeId}{cs:Array Value}{o':Obj}(h:Blk W b t cs)(hne:b≠l):Blk (W.putObj l o') b t cs:=(World.putObj_heap_other hne).trans h
theorem Blk.set{W:World}{b i:Nat}{t:TypeId}{cs:Array Value}{v:Value}(h:Blk W b t cs):Blk (W.setCell ⟨b,i,none⟩ v) b t (cs.setIfInBounds i v):=by
 obtain⟨hlt,hk⟩:=Array.getElem?_eq_some_iff.1 h;show (W.heap.modify b _)[b]?=_;rw[Array.getElem?_eq_getElem (by rw[Array.size_modify];exact hlt),Array.getElem_modify_self,hk];rfl
end Go.Proofs.YtlamemjfaogjmaaGreatDoor
namespace Go.Proofs.YtlamemjfaogjmaaGreatDoor
open Go.RowKit Go.Deep
theorem Zn(b o i:Nat):(⟨b,o,none⟩:Addr).add i=⟨b,o+i,none⟩:=by
 unfold Addr.add
 by_cases h:i=0
 ·subst h;rfl
 ·rw[if_neg h]
def zn(l:List Int):List Value:=l.map (Value.int .i64)
theorem Ko(l:List Int)(i:Nat)(h:i<l.length):(zn l)[i]?=some (.int .i64 (l.getD i 0)):=by simp[zn,List.getD_eq_getElem?_getD,h]
theorem xm(l:List Int)(x:Int):zn (l++[x])=zn l++[.int .i64 x]:=by simp[zn]
theorem xM:(Tryz.prog.info? 3).map (fun i=>(i.zero,i.size,i.bytes))=some (some (.int .i64 0),1,8):=by kernel_rfl
theorem qm{B n:Nat}{w:World}{v:Value}{t:TypeId}{cs:List Value}(h:w.ownsRow B t 1 v n cs):∃a c,v=.slice a n c/\n<=c/\c<=9223372036854775807:=by
 rcases h.2 with ⟨e,e0⟩|⟨g,cap,cur,e,-,-,h1,h2,-⟩
 ·exact⟨none,0,by rw[e,e0],by omega,by omega⟩
 ·unfold maxLen at h2;exact⟨_,_,e,h1,h2⟩
theorem yd{B:Nat}{w:World}{a:Option Addr}{c:Nat}{l:List Int}(h:w.ownsRow B 3 1 (.slice a l.length c) l.length (zn l)):zW w a l:=by
 intro i hi;rcases h.2 with ⟨e,e0⟩|⟨g,cap,cur,e,hB,hg,-⟩
 ·omega
 ·injection e with e1 e2 e3;subst e1 e3;refine⟨_,rfl,(Array.getElem?_eq_some_iff.1 hg).1,?_⟩;have:=h.cellAt i (by omega);rw[Zn,Nat.zero_add,this,Ko l i hi]
theorem xK(w:World)(x:Int)(t:TypeId):∀(j:Nat) (u:Value),[Value.int .i64 x][j]?=some u->(w.alloc (.cells #[.int .i64 x] t)).cell? ((⟨w.heap.size,0,none⟩:Addr).add j)=some u:=by
 intro j u hu;cases j with
 |zero=>simp at hu;subst hu;rw[Zn];simp
 |succ j=>simp at hu
theorem xx(x:Int):∀u∈[Value.int .i64 x],u.oneCell'=true:=by
 intro u hu;rw[List.mem_singleton] at hu;subst hu;rfl
theorem zaB{α:Type}{l:List α}{k:Nat}{d:α}(h:k<l.length):l.drop k=l.getD k d :: l.drop (k+1):=by
 rw[List.drop_eq_getElem_cons h,List.getD_eq_getElem?_getD,List.getElem?_eq_getElem h];rfl
theorem ZV{w:World}{base base':Nat}{e:TypeId}{size:Nat}{v:Value}{n:Nat}{xs:List Value}(h:w.ownsRow base e size v n xs)(hb:base'<=base):w.ownsRow base' e size v n xs:=by
 obtain⟨h1,h2⟩:=h;refine⟨h1,?_⟩;rcases h2 with h2|⟨g,cap,cur,hv,hg,r⟩
 ·exact Or.inl h2
 ·exact Or.inr ⟨g,cap,cur,hv,Nat.le_trans hb hg,r⟩
end Go.Proofs.YtlamemjfaogjmaaGreatDoor
namespace Go.Proofs.YtlamemjfaogjmaaGreatDoor
open Go.RowKit Go.Deep
structure Kp(B:Nat)(w w':World):Prop where
 size:w.heap.size<=w'.heap.size
 block:∀k,k<w.heap.size->(k<B\/∃cur fr,w.heap[k]?=some (.cells cur 3 fr))->w'.heap[k]?=w.heap[k]?
section
variable {B:Nat} {w w' w'':World}
theorem Kp.refl(B:Nat)(w:World):Kp B w w:=⟨Nat.le_refl _,fun _ _ _=>rfl⟩
theorem Kp.trans(h:Kp B w w')(h2:Kp B w' w''):Kp B w w'':=⟨Nat.le_trans h.size h2.size,fun k hk hc=>by
 have e:=h.block k hk hc;rw[<-e];refine h2.block k (Nat.lt_of_lt_of_le hk h.size) ?_;rw [e];exact hc⟩
theorem Kp.zero(h:Kp B w w'):Kp 0 w w':=⟨h.size,fun k hk hc=>h.block k hk (hc.imp (fun h=>by omega) id)⟩
theorem Kp.new(hb:zB w w'):Kp B w w':=⟨hb.size,fun k hk _=>hb.block k hk⟩
theorem Kp.set{b i:Nat}{t:TypeId}{cs:Array Value}{v:Value}(hB:B<=b)(h:Blk w b t cs)(ht:t≠3):Kp B w (w.setCell ⟨b,i,none⟩ v):=by
 refine⟨by simp[World.setCell],fun k hk hc=>Below.heap_setCell _ _ _ k (fun e=>?_)⟩;have e':k=b:=e;subst e';rcases hc with hc|⟨cur,fr,hc⟩
 ·omega
 ·rw[show w.heap[k]?=_ from h] at hc;simp only[Option.some.injEq,Obj.cells.injEq] at hc;exact ht hc.2.1
theorem Kp.grown{e:TypeId}{size n:Nat}{v:Value}{xs:List Value}(h:w.ownsRow B e size v n xs)(hg:w.grownBy w' v.ownBlock)(he:e≠3):Kp B w w':=by
 refine⟨hg.size,fun k hk hc=>hg.block k hk (fun e'=>?_)⟩;obtain⟨h1,h2⟩:=h.lt k e'.symm;rcases hc with hc|⟨cur,fr,hc⟩
 ·omega
 ·rcases h.2 with ⟨hv,_⟩|⟨g,cap,cur',hv,_,hg',_⟩
  ·rw[hv] at e';cases e'
  ·rw[hv] at e';simp only[Value.ownBlock,Option.some.injEq] at e';subst e';rw[hg'] at hc;simp only[Option.some.injEq,Obj.cells.injEq] at hc;exact he hc.2.1
def yP(B:Nat)(w:World)(a:Option Addr)(xs:List Int):Prop :=
 ∀i,i<xs.length->∃ad:Addr,a=some ad/\ad.block<w.heap.size/\(ad.block<B\/∃cur fr,w.heap[ad.block]?=some (.cells cur 3 fr))/\w.cell? (ad.add i)=some (.int .i64 (xs.getD i 0))
theorem yP.ints{a:Option Addr}{xs:List Int}(h:yP B w a xs):zW w a xs:=fun i hi=>by
 obtain⟨ad,h1,h2,_,h4⟩:=h i hi;exact⟨ad,h1,h2,h4⟩
theorem yP.kp{a:Option Addr}{xs:List Int}(h:yP B w a xs)(hk:Kp B w w'):yP B w' a xs:=fun i hi=>by
 obtain⟨ad,h1,h2,h3,h4⟩:=h i hi;have e:=hk.block _ h2 h3;refine⟨ad,h1,Nat.lt_of_lt_of_le h2 hk.size,by rw[e];exact h3,?_⟩;rw[World.cell?_of_block (w:=w) (by rw[Zq];exact e)];exact h4
theorem yP.more{a:Option Addr}{xs:List Int}(h:yP 0 w a xs):yP B w a xs:=fun i hi=>by
 obtain⟨ad,h1,h2,h3,h4⟩:=h i hi;exact⟨ad,h1,h2,h3.imp (fun h=>by omega) id,h4⟩
theorem yP.of{a:Option Addr}{xs:List Int}(h:zW w a xs)(hb:zB w w'):yP w.heap.size w' a xs:=fun i hi=>by
 obtain⟨ad,h1,h2,h3⟩:=h.below hb i hi;obtain⟨ad',h4,h5,_⟩:=h i hi;obtain rfl:=Option.some.inj (h1.symm.trans h4);exact⟨ad,h1,h2,Or.inl h5,h3⟩
def yW(B:Nat)(w:World)(cs:List Value)(l:List (List Int)):Prop :=
 cs.length=l.length/\∀i,i<l.length->∃(a:Option Addr) (cap:Nat),cs[i]?=some (.slice a (l.getD i []).length cap)/\(l.getD i []).length<=cap/\cap<=9223372036854775807/\yP B w a (l.getD i [])
theorem yW.kp{cs:List Value}{l:List (List Int)}(h:yW B w cs l)(hk:Kp B w w'):yW B w' cs l:=⟨h.1,fun i hi=>by
 obtain⟨a,cap,h1,h2,h3,h4⟩:=h.2 i hi;exact ⟨a,cap,h1,h2,h3,h4.kp hk⟩⟩
theorem yW.nil:yW B w [] []:=⟨rfl,fun i hi=>by simp at hi⟩
theorem yW.snoc{cs:List Value}{l:List (List Int)}(h:yW B w cs l){a:Option Addr}{cap:Nat}{c:List Int}(h1:c.length<=cap)(h2:cap<=9223372036854775807)(h3:yP B w a c):yW B w (cs++[.slice a c.length cap]) (l++[c]):=by
 refine⟨by simp[h.1],fun i hi=>?_⟩
 by_cases hl:i<l.length
 ·have e:(l++[c]).getD i []=l.getD i []:=by simp[List.getD_eq_getElem?_getD,List.getElem?_append_left hl]
  rw[e,List.getElem?_append_left (by rw[h.1];exact hl)];exact h.2 i hl
 ·have hi':i=l.length:=by simp at hi;omega
  subst hi';have e:(l++[c]).getD l.length []=c:=by simp[List.getD_eq_getElem?_getD]
  rw[e,List.getElem?_append_right (by rw[h.1];exact Nat.le_refl _),h.1];exact⟨a,cap,by simp,h1,h2,h3⟩
theorem yW.one{cs:List Value}{l:List (List Int)}(h:yW B w cs l):∀u∈cs,u.oneCell'=true:=fun u hu=>by
 obtain⟨i,hi,rfl⟩:=List.getElem_of_mem hu;obtain⟨a,cap,h1,_⟩:=h.2 i (by rw[<-h.1];exact hi);rw[List.getElem?_eq_getElem hi] at h1;rw[Option.some.inj h1];rfl
end
theorem zay{w:World}{B:Nat}{e T:TypeId}{size:Nat}{v:Value}{n:Nat}{xs:List Value}{b:Nat}{cs:Array Value}(hown:w.ownsRow B e size v n xs)(hb:Blk w b T cs)(hTe:T≠e):v.ownBlock≠some b:=by
 rcases hown.2 with ⟨rfl,_⟩|⟨g,cap,cur,rfl,_,hg,_⟩
 ·simp[Value.ownBlock]
 ·intro h;simp only[Value.ownBlock,Option.some.injEq] at h;subst h;rw[show w.heap[g]?=_ from hb] at hg;simp only[Option.some.injEq,Obj.cells.injEq] at hg;exact hTe hg.2.1
theorem Qz{w:World}{B:Nat}{e e2:TypeId}{size size2:Nat}{v v2:Value}{n n2:Nat}{xs xs2:List Value}(h1:w.ownsRow B e size v n xs)(h2:w.ownsRow B e2 size2 v2 n2 xs2)(hne:e≠e2):v.ownBlock=none\/v.ownBlock≠v2.ownBlock:=by
 rcases h1.2 with ⟨rfl,_⟩|⟨g,cap,cur,rfl,_,hg,_⟩
 ·exact Or.inl rfl
 ·refine Or.inr fun e'=>?_;exact zay h2 (b:=g) (cs:=cur) (T:=e) hg hne e'.symm
theorem qK{B:Nat}{w w':World}{t:TypeId}{size:Nat}{v:Value}{n:Nat}{cs:List Value}(h:w.ownsRow B t size v n cs)(hb:zB w w'):w'.ownsRow B t size v n cs:=by
 obtain⟨h1,h2⟩:=h;refine⟨h1,?_⟩;rcases h2 with h2|⟨g,cap,cur,hv,hg,hh,r⟩
 ·exact Or.inl h2
 ·exact Or.inr ⟨g,cap,cur,hv,hg,by rw[hb.block g (Array.getElem?_eq_some_iff.1 hh).1];exact hh,r⟩
end Go.Proofs.YtlamemjfaogjmaaGreatDoor
namespace Go.Proofs.YtlamemjfaogjmaaGreatDoor
open Go.RowKit
def xG(w:World)(e:Value)(m pl:Int):Prop :=
 (m=0/\pl=-1/\e=.nilIface)\/(m≠0/\pl=-1/\e=.iface 28 (.int .i64 m)) \/
 (m≠0/\∃b,b<w.heap.size/\e=.iface 95 (.pointer (some ⟨b,0,none⟩))/\w.cell? ⟨b,0,none⟩=some (.int .i64 m)/\w.cell? ⟨b,1,none⟩=some (.int .i64 pl))
theorem xG.below{w w':World}{e:Value}{m pl:Int}(h:xG w e m pl)(hb:zB w w'):xG w' e m pl:=by
 rcases h with h|h|⟨h0,b,h1,h2,h3,h4⟩
 ·exact Or.inl h
 ·exact Or.inr (Or.inl h)
 ·exact Or.inr (Or.inr ⟨h0,b,Nat.lt_of_lt_of_le h1 hb.size,h2,(hb.cell (p:=⟨b,0,none⟩) h1).trans h3,(hb.cell (p:=⟨b,1,none⟩) h1).trans h4⟩)
end Go.Proofs.YtlamemjfaogjmaaGreatDoor
namespace Go.Proofs.YtlamemjfaogjmaaGreatDoor
open Go.RowKit
theorem Kr(vals t:Nat)(hv:vals<18446744073709551616):(bits BinOp.and IntKind.u64 ((vals:Int)/2^t) 1==1)=vals.testBit t:=by
 have e:(vals:Int)/2^t=((vals/2^t:Nat):Int):=by simp
 have hd:vals/2^t<=vals:=Nat.div_le_self _ _;rw[e,Nat.testBit_eq_decide_div_mod_eq];generalize vals/2^t=m at *;rw[and_one_u64 _ (by omega) (by omega),Bool.eq_iff_iff];simp;omega
theorem JW(vals t:Nat)(hv:vals<18446744073709551616):(bits BinOp.and IntKind.u64 ((vals:Int)/2^t) 1==0)=!vals.testBit t:=by
 have e:(vals:Int)/2^t=((vals/2^t:Nat):Int):=by simp
 have hd:vals/2^t<=vals:=Nat.div_le_self _ _;rw[e,Nat.testBit_eq_decide_div_mod_eq];generalize vals/2^t=m at *;rw[and_one_u64 _ (by omega) (by omega),Bool.eq_iff_iff];simp;omega
end Go.Proofs.YtlamemjfaogjmaaGreatDoor
namespace Go.Proofs.YtlamemjfaogjmaaGreatDoor
open Go.RowKit
theorem xU(a r M:Nat)(ha:a<256):oc1 (85+256*M) (a+256*r)=oc1 85 a+256*oc1 M r:=by
 unfold oc1;have h1:(a+256*r)/2=(a+256*(r%2))/2+2^8*(r/2):=by omega
 have h2:(a+256*(r%2))/2<2^8:=by omega
 have h3:=(zcw ⟨a,ha⟩ ⟨r%2,by omega⟩).1;have s1:=ZN 8 ((a+256*(r%2))/2) (r/2) 85 M h2 (by decide);have s2:=ZN 8 a r 85 M ha (by decide);simp only at h3;rw[h1];rw[h3] at s1;simp only[Nat.reducePow] at s1 s2 ⊢;rw[s1,s2];omega
theorem Qe(a r M:Nat)(ha:a<256):oc2 (51+256*M) (a+256*r)=oc2 51 a+256*oc2 M r:=by
 unfold oc2;have h1:(a+256*r)/4=(a+256*(r%4))/4+2^8*(r/4):=by omega
 have h2:(a+256*(r%4))/4<2^8:=by omega
 have h3:=(zeh ⟨a,ha⟩ ⟨r%4,by omega⟩);have s1:=ZN 8 ((a+256*(r%4))/4) (r/4) 51 M h2 (by decide);have s2:=ZN 8 a r 51 M ha (by decide);simp only at h3;rw[Nat.mod_eq_of_lt (show (a+256*(r%4))/4<256 by omega)] at h3;rw[h1];rw[h3] at s1;simp only[Nat.reducePow] at s1 s2 ⊢;rw[s1,s2];omega
theorem YA(a r M:Nat)(ha:a<256)(h1:a%16<=4)(h2:a/16<=4)(h3:r%16<=4):oc3 (15+256*M) (a+256*r)=oc3 15 a+256*oc3 M r:=by
 unfold oc3;have e:(a+256*r)/16+(a+256*r)=(a/16+(r%16)*16+a)+2^8*(r/16+r):=by omega
 have hl:a/16+(r%16)*16+a<2^8:=by omega
 have s:=ZN 8 (a/16+(r%16)*16+a) (r/16+r) 15 M hl (by decide);have h:=zcG ⟨a%16,by omega⟩ ⟨a/16,by omega⟩ ⟨r%16,by omega⟩;simp only at h;rw[show a%16+16*(a/16)=a by omega] at h;rw[Nat.mod_eq_of_lt (show a/16+(r%16)*16+a<256 by omega)] at h;rw[e];simp only[Nat.reducePow] at s ⊢;rw[s,h.1,h.2]
theorem YB(M:Nat):oc1 M 0=0/\oc2 M 0=0/\oc3 M 0=0:=by simp[oc1,oc2,oc3]
theorem zaU(a b c:Nat)(ha:a<256)(hb:b<256):qZ (a+256*(b+256*c))=b8 a+b8 b+b8 c:=by
 have e:List.range 24=List.range 8++((List.range 8).map (·+8)++(List.range 8).map (·+16)):=by decide
 have t1:∀i,i<8->(a+256*(b+256*c)).testBit i=a.testBit i:=fun i hi=>by
  have:=Nat.testBit_two_pow_mul_add (b+256*c) (i:=8) (b:=a) ha i;rw[if_pos hi] at this;rw[<-this,Nat.add_comm]
 have t2:∀i,i<8->(a+256*(b+256*c)).testBit (i+8)=b.testBit i:=fun i hi=>by
  have:=Nat.testBit_two_pow_mul_add (b+256*c) (i:=8) (b:=a) ha (i+8);rw[if_neg (by omega),Nat.add_sub_cancel] at this;rw[Nat.add_comm a,this];have:=Nat.testBit_two_pow_mul_add c (i:=8) (b:=b) hb i;rw[if_pos hi] at this;rw[<-this,Nat.add_comm]
 have t3:∀i,i<8->(a+256*(b+256*c)).testBit (i+16)=c.testBit i:=fun i hi=>by
  have:=Nat.testBit_two_pow_mul_add (b+256*c) (i:=8) (b:=a) ha (i+16);rw[if_neg (by omega),show i+16-8=i+8 by omega] at this;rw[Nat.add_comm a,this];have:=Nat.testBit_two_pow_mul_add c (i:=8) (b:=b) hb (i+8);rw[if_neg (by omega),Nat.add_sub_cancel] at this;rw[<-this,Nat.add_comm]
 unfold qZ b8;rw[e,List.filter_append,List.filter_append,List.length_append,List.length_append,List.filter_map,List.filter_map,List.length_map,List.length_map,Nat.add_assoc];congr 1
 ·congr 1;exact List.filter_congr fun i hi=>t1 i (List.mem_range.1 hi)
 ·congr 1
  ·congr 1;exact List.filter_congr fun i hi=>t2 i (List.mem_range.1 hi)
  ·congr 1;exact List.filter_congr fun i hi=>t3 i (List.mem_range.1 hi)
theorem zcr(x:Nat)(hx:x<16777216):∃y1 y2 y3:Nat,oc1 6148914691236517205 x=y1/\y1<16777216/\oc2 3689348814741910323 y1=y2/\y2<16777216/\oc3 1085102592571150095 y2=y3/\∃p q r,p<=8/\q<=8/\r<=8/\y3=p+256*(q+256*r)/\p+q+r=qZ x:=by
 obtain⟨a,b,c,ha,hb,hc,rfl⟩:∃a b c,a<256/\b<256/\c<256/\x=a+256*(b+256*c):=⟨x%256,x/256%256,x/65536,by omega,by omega,by omega,by omega⟩;obtain⟨A,a1,a2,a3,a4,a5⟩:=XE ⟨a,ha⟩;obtain⟨B,b1,b2,b3,b4,b5⟩:=XE ⟨b,hb⟩;obtain⟨C,c1,c2,c3,c4,c5⟩:=XE ⟨c,hc⟩;simp only at A a1 a2 a3 a4 a5 B b1 b2 b3 b4 b5 C c1 c2 c3 c4 c5;have M1:(6148914691236517205:Nat)=85+256*(85+256*(85+256*(6148914691236517205/16777216))):=by decide
 have M2:(3689348814741910323:Nat)=51+256*(51+256*(51+256*(3689348814741910323/16777216))):=by decide
 have M3:(1085102592571150095:Nat)=15+256*(15+256*(15+256*(1085102592571150095/16777216))):=by decide
 have z1:∀M,oc1 (85+256*M) c=oc1 85 c:=fun M=>by have:=xU c 0 M hc;rw[(YB M).1] at this;simpa using this
 have z2:∀M,oc2 (51+256*M) (oc1 85 c)=oc2 51 (oc1 85 c):=fun M=>by have:=Qe (oc1 85 c) 0 M c1;rw[(YB M).2.1] at this;simpa using this
 have z3:∀M,oc3 (15+256*M) (oc2 51 (oc1 85 c))=oc3 15 (oc2 51 (oc1 85 c)):=fun M=>by have:=YA (oc2 51 (oc1 85 c)) 0 M c2 c3 c4 (by omega);rw[(YB M).2.2] at this;simpa using this
 refine⟨_,_,_,rfl,?_,rfl,?_,rfl,b8 a,b8 b,b8 c,a5,b5,c5,?_,(zaU a b c ha hb).symm⟩
 ·rw[M1,xU _ _ _ ha,xU _ _ _ hb,z1];omega
 ·rw[M1,xU _ _ _ ha,xU _ _ _ hb,z1,M2,Qe _ _ _ a1,Qe _ _ _ b1,z2];omega
 ·rw[M1,xU _ _ _ ha,xU _ _ _ hb,z1,M2,Qe _ _ _ a1,Qe _ _ _ b1,z2,M3,YA _ _ _ a2 a3 a4 (by omega),YA _ _ _ b2 b3 b4 (by omega),z3,A,B,C]
end Go.Proofs.YtlamemjfaogjmaaGreatDoor
namespace Go.Proofs.YtlamemjfaogjmaaGreatDoor
open Go.RowKit
theorem yl(a b:Nat)(ha:a<18446744073709551616)(hb:b<18446744073709551616):bits BinOp.and IntKind.u64 (a:Int) (b:Int)=((a&&&b:Nat):Int):=bits_and_u64_nat a b ha hb
theorem zeW(n:Nat)(h:n<18446744073709551616):IntKind.u64.wrap (n:Int)=(n:Int):=by
 rw[IntKind.wrap_u64];omega
theorem Zz(x:Int)(n:Nat)(h:x=(n:Int))(hn:n<18446744073709551616):IntKind.u64.wrap x=(n:Int):=by subst h;exact zeW n hn
theorem zbt(x y3 y4 y5 p q r:Nat)(hp:p<=8)(hq:q<=8)(hr:r<=8)(e4:y3=p+256*(q+256*r))(e5:p+q+r=qZ x)(h4:y3+y3/256=y4)(h5:y4+y4/65536=y5):(y5:Int)%128=(qZ x:Int):=by
 have a1:y3/256=q+256*r:=by omega
 have a2:y4=(p+q)+256*(q+r)+65536*r:=by omega
 have a3:y4/65536=r:=by omega
 omega
theorem zhh(x:Nat)(hx:x<16777216)(w:World):zC 102 #[.int .u64 x] w fun e w'=>e=.returned (.int .i64 (qZ x))/\w'=w:=by
 obtain⟨y1,y2,y3,e1,l1,e2,l2,e3,p,q,r,hp,hq,hr,e4,e5⟩:=zcr x hx;unfold oc1 at e1;unfold oc2 at e2;unfold oc3 at e3;have E1:IntKind.u64.wrap (bits BinOp.and IntKind.u64 ((x:Int)/2) 6148914691236517205+bits BinOp.and IntKind.u64 (x:Int) 6148914691236517205)=(y1:Int):=by
  have a1:=yl (x/2) 6148914691236517205 (by omega) (by omega);have a2:=yl x 6148914691236517205 (by omega) (by omega);refine Zz _ _ ?_ (by omega);rw[<-e1,Int.natCast_add,<-a1,<-a2];simp
 have E2:IntKind.u64.wrap (bits BinOp.and IntKind.u64 ((y1:Int)/4) 3689348814741910323+bits BinOp.and IntKind.u64 (y1:Int) 3689348814741910323)=(y2:Int):=by
  have a1:=yl (y1/4) 3689348814741910323 (by omega) (by omega);have a2:=yl y1 3689348814741910323 (by omega) (by omega);refine Zz _ _ ?_ (by omega);rw[<-e2,Int.natCast_add,<-a1,<-a2];simp
 have E3:bits BinOp.and IntKind.u64 ((y2:Int)/16+(y2:Int)) 1085102592571150095=(y3:Int):=by
  have a1:=yl (y2/16+y2) 1085102592571150095 (by omega) (by omega);rw[<-e3,<-a1];simp
 obtain⟨y4,h4⟩:∃y4,y3+y3/256=y4:=⟨_,rfl⟩;obtain⟨y5,h5⟩:∃y5,y4+y4/65536=y5:=⟨_,rfl⟩;have E4:IntKind.u64.wrap ((y3:Int)+(y3:Int)/256)=(y4:Int):=Zz _ _ (by omega) (by omega);have E5:IntKind.u64.wrap ((y4:Int)+(y4:Int)/65536)=(y5:Int):=Zz _ _ (by omega) (by omega);have E6:IntKind.u64.wrap ((y5:Int)+(y5:Int)/4294967296)=(y5:Int):=Zz _ _ (by omega) (by omega);have E7:IntKind.i64.wrap (y5:Int)=(y5:Int):=by rw[IntKind.wrap_i64];omega
 have E8:bits BinOp.and IntKind.i64 (y5:Int) 127=(qZ x:Int):=by
  rw[i64_and127];exact zbt x y3 y4 y5 p q r hp hq hr e4 e5 h4 h5
 have E9:wrap64 (y5:Int)=(y5:Int):=by rw[<-IntWalk.i64_left];exact E7
 clear e1 e2 e3 e4 e5 h4 h5 hp hq hr p q r;go_enter Tryz.func102,Tryz.ntmps102;go_wp2;go_ret;exact⟨rfl,rfl⟩
theorem zd8(x:Nat)(hx:x<16777216)(w:World):zC 69 #[.int .u64 x] w fun e w'=>e=.returned (.int .i64 (qZ x))/\w'=w:=by
 have HC:=zH (zhh x hx w);go_enter Tryz.func69,Tryz.ntmps69;go_wp2_with fail;refine HC.out.mono ?_;rintro e w1 ⟨rfl,rfl⟩;clear HC;go_wp2;go_ret;exact⟨rfl,rfl⟩
end Go.Proofs.YtlamemjfaogjmaaGreatDoor
namespace Go.Proofs.YtlamemjfaogjmaaGreatDoor
open Go.RowKit Go.Deep
theorem zgj(k:Nat)(hk:k<64):IntKind.u64.wrap (2^k)=((2^k:Nat):Int):=by
 have:(2:Nat)^k<2^64:=Nat.pow_lt_pow_right (by decide) hk;exact Zz _ _ (by simp) this
theorem xu(k:Nat)(hk:k<64):(2:Nat)^k<18446744073709551616:=Nat.pow_lt_pow_right (n:=64) (by decide) hk
theorem x8(k:Nat)(hk:k<64)(w:World):zC 25 #[.int .i64 k] w fun e w'=>e=.returned (.int .u64 ((2^k:Nat):Int))/\w'=w:=by
 have hp:=zgj k hk;generalize 2^k=P at *;go_enter Tryz.func25,Tryz.ntmps25;go_wp2;go_ret;exact⟨by first|rfl|(rw[<-hp];rfl),rfl⟩
theorem Kl:∀(f x n:Nat),x<2^f->x<2^n->Lib.bitLenAux f x<=n/\x<2^Lib.bitLenAux f x
 |0,x,n,h,_=>by simp[Lib.bitLenAux] at *;omega
 |f+1,x,n,h,hn=>by
  unfold Lib.bitLenAux;split
  ·rename_i h0;subst h0;exact⟨Nat.zero_le _,by simp⟩
  ·rename_i h0;cases n with
   |zero=>simp at hn;omega
   |succ n =>have ih:=Kl f (x/2) n (by rw[Nat.pow_succ] at h;omega) (by rw[Nat.pow_succ] at hn;omega);refine⟨by omega,?_⟩;rw[Nat.add_comm 1,Nat.pow_succ];omega
def zx(set n:Nat):List Nat:=(List.range n).filter fun i=>set.testBit i
theorem zax(set n:Nat):zx set (n+1)=zx set n++(if set.testBit n then [n] else []):=by
 unfold zx;rw[List.range_succ,List.filter_append];congr 1
 by_cases h:set.testBit n=true
 ·simp[h]
 ·simp[h]
theorem JB(set n:Nat)(h:set<2^n):∀k,zx set (n+k)=zx set n
 |0=>rfl
 |k+1=>by
  rw[<-Nat.add_assoc,zax,JB set n h k,xw h (by omega)];simp
theorem Q8(set n:Nat):(zx set n).length<=n:=by
 unfold zx;exact Nat.le_trans (List.length_filter_le _ _) (by simp)
theorem Yf(set k:Nat):(set&&&2^k≠0)↔set.testBit k=true:=by
 rw[Ne,Ql];constructor
 ·intro h;apply Classical.byContradiction;intro hc;refine h fun i ⟨h1,h2⟩=>?_;rw[Nat.testBit_two_pow] at h2;have:k=i:=by simpa using h2
  subst this;exact hc h1
 ·intro h hc;exact hc k ⟨h,by simp⟩
def zq(l:List Nat):List Int:=l.map fun n:Nat=>(n:Int)
theorem zz(l:List Nat):(zq l).length=l.length:=by simp[zq]
theorem Yy(l:List Nat)(n:Nat):zq (l++[n])=zq l++[(n:Int)]:=by simp[zq]
theorem zgi(set:Nat)(hs:set<16777216)(w:World):zC 22 #[.int .u64 set] w fun e w'=>∃v,e=.returned v/\w'.ownsRow w.heap.size 3 1 v (zx set 24).length (zn (zq (zx set 24)))/\zB w w':=by
 obtain⟨i0,hin,hz0,hz1,hz2⟩:=info_parts xM;have hbl:=Kl 64 set 24 (by omega) hs;have HLN0:=Tryz.bits_Len (set:Int) w (by omega) (by omega);rw[Int.toNat_natCast] at HLN0;unfold Lib.bitLen at HLN0;have hend:zx set 24=zx set (Lib.bitLenAux 64 set):=by
  have:=JB set _ hbl.2 (24-Lib.bitLenAux 64 set)
  rwa [show Lib.bitLenAux 64 set+(24-Lib.bitLenAux 64 set)=24 by omega] at this
 rw[hend];clear hend;obtain⟨n,hn⟩:∃n,Lib.bitLenAux 64 set=n:=⟨_,rfl⟩;rw[hn] at hbl HLN0 ⊢;have hnl:=hbl.1;have HLN:Hid (zC 47 #[.int .u64 set] w fun e w'=>e=.returned (.int .i64 n)/\w'=w):=HLN0;have HJ:Hid (∀W (k:Nat),k<64->zC 25 #[.int .i64 k] W fun e w'=>e=.returned (.int .u64 ((2^k:Nat):Int))/\w'=W):=fun W k hk=>x8 k hk W;clear HLN0 hn hbl;go_enter Tryz.func22,Tryz.ntmps22;go_wp2_with fail;refine HLN.out.mono ?_;rintro e w1 ⟨rfl,rfl⟩;clear HLN;go_wp2_with fail;go_loopw [3,7] (fun oV iV wr=>∃i:Nat,i<=n/\iV=.int .i64 i/\wr.ownsRow w1.heap.size 3 1 oV (zx set i).length (zn (zq (zx set i)))/\zB w1 wr) (fun _ iV _=>n-(intOf iV).toNat)
 case atStart=>exact⟨0,Nat.zero_le _,rfl,World.ownsRow_nil _ _ _ _,Below.refl _ _⟩
 case round =>
  obtain⟨i,hil,rfl,hrow,hbr⟩:=hrel;have HROW:=zH hrow;have HBR:=zH hbr;obtain⟨oa,oc,rfl,-⟩:=qm hrow;clear hrow hbr
  by_cases hlt:i<n
  ·have hle:=Q8 set i;have HSU:=zH (zax set i);have hand:=yl set (2^i) (by omega) (xu i (by omega));have hpn:=Yf set i;have HJi:=zH (HJ.out wr i (by omega));go_wp2_with fail;refine HJi.out.mono ?_;rintro e w2 ⟨rfl,rfl⟩;cases ht:set.testBit i with
   |true =>
    rw[ht] at hpn HSU;have hne:((set&&&2^i:Nat):Int)≠0:=by have:=hpn.2 rfl;omega
    generalize set&&&2^i=Q at *;generalize (2^i:Nat)=P2 at *;rw[if_pos rfl] at HSU;clear HJi hpn;have hb:=HBR.out.size;go_wp2_with (at_builtin;refine wpList_append_own_at _ rfl _ _ 27 rfl w1.heap.size 3 i0 (.int .i64 0) 1 8 Tryz.underlying27 hin hz0 hz1 hz2 rfl (by decide) _ _ _ rfl (HROW.out.alloc _) ⟨w2.heap.size,0,none⟩ 1 1 [.int .i64 i] rfl rfl ?c1 ?c2 ?c3 ?c4 ?c5 ?_)
    case c1=>exact xK _ _ _
    case c2=>exact xx _
    case c3=>unfold maxLen;omega
    case c4=>omega
    case c5=>simp;omega
    intro v7 w7 hown7 hgrow7 _ hloc7;have HR7:Hid (w7.ownsRow w1.heap.size 3 1 v7 (zx set (i+1)).length (zn (zq (zx set (i+1))))):=by
     show World.ownsRow _ _ _ _ _ _ _;rw[HSU.out,Yy,xm,List.length_append];exact hown7
    have HB7:Hid (zB w1 w7):=(zL HBR.out).grown hgrow7 (by simp;omega) (fun k hk=>(HROW.out.lt k hk).1);clear hown7 hgrow7 hloc7 HROW HBR HSU;go_wp2;go_roundw
    case rel=>exact⟨i+1,hlt,by go_num,HR7.out,HB7.out⟩
    case measure=>simp[intOf];omega
   |false =>
    rw[ht] at hpn HSU;have hne:((set&&&2^i:Nat):Int)=0:=by
     have:¬(set&&&2^i≠0):=fun h=>by have:=hpn.1 h;cases this
     omega
    generalize set&&&2^i=Q at *;generalize (2^i:Nat)=P2 at *;rw[if_neg (by simp),List.append_nil] at HSU;have HR7:Hid (w2.ownsRow w1.heap.size 3 1 (.slice oa (zx set i).length oc) (zx set (i+1)).length (zn (zq (zx set (i+1))))):=by
     show World.ownsRow _ _ _ _ _ _ _;rw[HSU.out];exact HROW.out
    clear HJi hpn HROW HSU;go_wp2;go_roundw
    case rel=>exact⟨i+1,hlt,by go_num,HR7.out,HBR.out⟩
    case measure=>simp[intOf];omega
  ·obtain rfl:i=n:=by omega
   go_wp2;go_ret;exact⟨_,rfl,HROW.out,HBR.out⟩
end Go.Proofs.YtlamemjfaogjmaaGreatDoor
